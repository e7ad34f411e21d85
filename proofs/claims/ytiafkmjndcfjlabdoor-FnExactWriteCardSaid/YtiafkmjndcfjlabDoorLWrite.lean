/- The law FnExactWrite, walked out of the contracts. -/
import Derived.Test.YtiafkmjndcfjlabDoorExLog
import Derived.Test.YtiafkmjndcfjlabDoorSLog4
import Derived.Test.YtiafkmjndcfjlabDoorILogWrite
import Derived.Deep.RegionHeld3
namespace Go.Proofs.YtiafkmjndcfjlabDoor
open Go.RowKit

set_option maxHeartbeats 2000000 in
theorem exactWrite_walk (v : Value) (a b : List Int) (u : Value) (r : List Int) (ea : Addr) (w : World) (hv : LogV w v a b) (hu : Bs w u r) (hs : Sent w ea) :
    Calls Tryd.prog 3 #[v, u] w fun e w' => e = .returned (.bool true) ∧ Below w.heap.size w w' := by
  have HV : Hid (∀ wi, Below w.heap.size w wi → LogV wi v a b) := fun wi h => hv.below h
  obtain ⟨v0, v1, rfl, g0, g1⟩ := hv
  obtain ⟨e0, e1, e2, rfl⟩ := g0.form3
  obtain ⟨e3, e4, e5, rfl⟩ := g1.form3
  clear g0 g1
  go_enter Tryd.func3, Tryd.ntmps3
  have HU : Hid (∀ wi, Below w.heap.size w wi → Bs wi u r) := fun wi h => hu.below h
  have HS : Hid (∀ wi, Below w.heap.size w wi → Sent wi ea) := fun wi h => hs.below h
  clear hs
  obtain ⟨e6, e8, rfl⟩ := hu.form
  clear hu
  have hP := wrA_length a b
  have hQ := wrB_length a b r
  generalize hPe : wrA a b = P at hP
  generalize hQe : wrB a b r = Q at hQ
  generalize hOe : wrOk a b r = ok
  have HPE : Hid (wrA a b = P ∧ wrB a b r = Q ∧ wrOk a b r = ok) := ⟨hPe, hQe, hOe⟩
  clear hPe hQe hOe
  by_cases hr : r.length ≤ 1048576
  rotate_left
  · have hr' : ¬ (r.length : Int) ≤ 1048576 := by omega
    go_wp2
    go_ret
    exact ⟨rfl, (Below.refl _ _).alloc (Nat.le_refl _) _⟩
  have ab : ∀ o, Below w.heap.size w (w.alloc o) := fun o => (Below.refl _ _).alloc (Nat.le_refl _) o
  go_wp2_with fail
  refine (szLog_any _ a b 1048576 _ (HV.out _ (ab _)) (by omega) (by omega)).mono ?_
  rintro e w1 ⟨x, rfl, hx, B⟩
  have kA := box_below B (box_new w (.cells #[.slice e0 e1 e2, .slice e3 e4 e5] 24))
  have X := Below.step (Below.step (Below.refl _ _) (ab _)) B
  have s1 : w.heap.size + 1 ≤ w1.heap.size := by have := B.size; simp at this; omega
  clear B ab
  rcases hx with rfl | ⟨hx0, hx1⟩
  · clear kA
    go_wp2
    go_ret
    exact ⟨rfl, X⟩
  have hab : a.length + b.length ≤ 1048576 := by omega
  have ha : a.length ≤ 1048576 := by omega
  have hb : b.length ≤ 1048576 := by omega
  clear hx1
  obtain ⟨fA0, fA1, -, -, lA⟩ := box2 kA
  go_wp2_with fail
  refine (toLog_r _ a b _ (HV.out _ X) (by omega) (by omega)).mono ?_
  rintro e w2 ⟨u1, rfl, R1, B⟩
  clear fA0 fA1 lA
  replace kA := box_below B kA
  replace X := Below.step X B
  have s2 : w1.heap.size ≤ w2.heap.size := B.size
  clear B
  obtain ⟨fA0, fA1, -, -, lA⟩ := box2 kA
  go_wp2_with fail
  refine (toByteS_r _ r _ (HU.out _ X) (by omega)).mono ?_
  rintro e w3 ⟨u2, rfl, R2, B⟩
  clear fA0 fA1 lA
  replace R1 := R1.below B
  replace kA := box_below B kA
  replace X := Below.step X B
  have s3 : w2.heap.size ≤ w3.heap.size := B.size
  clear B
  obtain ⟨fA0, fA1, -, -, lA⟩ := box2 kA
  go_wp2_with fail
  refine (specWrite_r _ _ a b r _ R1.v R2.bs (by omega) (by omega) (by omega)).mono ?_
  rintro e w4 ⟨u3, rfl, R3, B⟩
  rw [HPE.out.1, HPE.out.2.1] at R3
  rw [HPE.out.2.2]
  clear fA0 fA1 lA
  replace R1 := R1.below B
  replace R2 := R2.below B
  replace kA := box_below B kA
  replace X := Below.step X B
  have s4 : w3.heap.size ≤ w4.heap.size := B.size
  clear B
  clear R1 R2
  obtain ⟨p3, q3, rfl, h3p, h3q⟩ := R3.v
  obtain ⟨x3, n3, y3, rfl⟩ := h3p.form3
  obtain ⟨z3, m3, t3, rfl⟩ := h3q.form3
  clear h3p h3q
  have ab : ∀ o, Below w4.heap.size w4 (w4.alloc o) := fun o => (Below.refl _ _).alloc (Nat.le_refl _) o
  obtain ⟨fA0, fA1, -, -, lA⟩ := box2 kA
  go_wp2_with fail
  refine (toLog_r _ a b _ (HV.out _ (Below.step X (ab _))) (by omega) (by omega)).mono ?_
  rintro e w5 ⟨u4, rfl, R4, B⟩
  clear fA0 fA1 lA
  replace R3 := (R3.below (ab _)).below B
  replace kA := box_below B (box_alloc kA _)
  have ks := box_below B (box_new w4 (.cells #[.slice x3 n3 y3, .slice z3 m3 t3] 26))
  replace X := Below.step (Below.step X (ab _)) B
  have s5 : w4.heap.size + 1 ≤ w5.heap.size := by have := B.size; simp at this; omega
  replace R4 := R4.wide (B' := w4.heap.size + 1) (by simp) (Nat.le_refl _)
  clear B ab
  obtain ⟨p4, q4, rfl, h4p, h4q⟩ := R4.v
  obtain ⟨x4, n4, y4, rfl⟩ := h4p.form3
  obtain ⟨z4, m4, t4, rfl⟩ := h4q.form3
  clear h4p h4q
  have ab : ∀ o, Below w5.heap.size w5 (w5.alloc o) := fun o => (Below.refl _ _).alloc (Nat.le_refl _) o
  obtain ⟨fA0, fA1, -, -, lA⟩ := box2 kA
  obtain ⟨fs0, fs1, -, -, ls⟩ := box2 ks
  go_wp2_with fail
  refine (toByteS_r _ r _ (HU.out _ (Below.step X (ab _))) (by omega)).mono ?_
  rintro e w6 ⟨u5, rfl, R5, B⟩
  clear fA0 fA1 lA fs0 fs1 ls
  replace R3 := (R3.below (ab _)).below B
  replace R4 := (R4.below (ab _)).below B
  replace kA := box_below B (box_alloc kA _)
  replace ks := box_below B (box_alloc ks _)
  have kx := box_below B (box_new w5 (.cells #[.slice x4 n4 y4, .slice z4 m4 t4] 26))
  replace X := Below.step (Below.step X (ab _)) B
  have s6 : w5.heap.size + 1 ≤ w6.heap.size := by have := B.size; simp at this; omega
  replace R5 := R5.wide (B' := w5.heap.size + 1) (by simp) (Nat.le_refl _)
  clear B ab
  obtain ⟨fA0, fA1, -, -, lA⟩ := box2 kA
  obtain ⟨fs0, fs1, -, -, ls⟩ := box2 ks
  obtain ⟨fx0, fx1, -, -, lx⟩ := box2 kx
  go_wp2_with fail
  refine (implWrite_r _ _ a b r ea _ R4.v R5.bs (HS.out _ X) (by omega) (by omega) (by omega)).mono ?_
  rintro e w7 ⟨u6, rfl, R6, B⟩
  rw [HPE.out.1, HPE.out.2.1] at R6
  rw [HPE.out.2.2]
  clear fA0 fA1 lA fs0 fs1 ls fx0 fx1 lx
  replace R3 := R3.below B
  replace R4 := R4.below B
  replace R5 := R5.below B
  replace kA := box_below B kA
  replace ks := box_below B ks
  replace kx := box_below B kx
  replace X := Below.step X B
  have s7 : w6.heap.size ≤ w7.heap.size := B.size
  clear B
  obtain ⟨p6, q6, rfl, h6p, h6q⟩ := R6.v
  obtain ⟨x6, n6, y6, rfl⟩ := h6p.form3
  obtain ⟨z6, m6, t6, rfl⟩ := h6q.form3
  clear h6p h6q
  have ab : ∀ o, Below w7.heap.size w7 (w7.alloc o) := fun o => (Below.refl _ _).alloc (Nat.le_refl _) o
  obtain ⟨fA0, fA1, -, -, lA⟩ := box2 kA
  obtain ⟨fs0, fs1, -, -, ls⟩ := box2 ks
  obtain ⟨fx0, fx1, -, -, lx⟩ := box2 kx
  go_wp2_with fail
  refine (eqLog_yes _ _ P Q _ (R6.below (ab _)).v (R3.below (ab _)).v).mono ?_
  rintro e w8 ⟨rfl, B⟩
  clear fA0 fA1 lA fs0 fs1 ls fx0 fx1 lx
  replace R3 := (R3.below (ab _)).below B
  replace R4 := (R4.below (ab _)).below B
  replace R5 := (R5.below (ab _)).below B
  replace R6 := (R6.below (ab _)).below B
  replace kA := box_below B (box_alloc kA _)
  replace ks := box_below B (box_alloc ks _)
  replace kx := box_below B (box_alloc kx _)
  have kg := box_below B (box_new w7 (.cells #[.slice x6 n6 y6, .slice z6 m6 t6] 26))
  replace X := Below.step (Below.step X (ab _)) B
  have s8 : w7.heap.size + 1 ≤ w8.heap.size := by have := B.size; simp at this; omega
  clear B ab
  have HS : Hid (∀ w', Below w8.heap.size w8 w' → w'.cell? ⟨w5.heap.size, 0, none⟩ = some (.slice x4 n4 y4) ∧ w'.cell? ⟨w5.heap.size, 1, none⟩ = some (.slice z4 m4 t4) ∧ w'.cell? ⟨w.heap.size, 0, none⟩ = some (.slice e0 e1 e2) ∧ w'.cell? ⟨w.heap.size, 1, none⟩ = some (.slice e3 e4 e5)) := fun w' h => ⟨(box2 (box_below h kx)).1, (box2 (box_below h kx)).2.1, (box2 (box_below h kA)).1, (box2 (box_below h kA)).2.1⟩
  have DR : Below w8.heap.size w8 w8.drew := (Below.refl _ _).drew
  obtain ⟨fA0, fA1, -, -, lA⟩ := box2 kA
  obtain ⟨fs0, fs1, -, -, ls⟩ := box2 ks
  obtain ⟨fx0, fx1, -, -, lx⟩ := box2 kx
  obtain ⟨fg0, fg1, -, -, lg⟩ := box2 kg
  go_wp2
  go_region_held3 (fun w' => w'.cell? ⟨w5.heap.size, 0, none⟩ = some (.slice x4 n4 y4) ∧ w'.cell? ⟨w5.heap.size, 1, none⟩ = some (.slice z4 m4 t4) ∧ w'.cell? ⟨w.heap.size, 0, none⟩ = some (.slice e0 e1 e2) ∧ w'.cell? ⟨w.heap.size, 1, none⟩ = some (.slice e3 e4 e5))
    (first | go_keep | exact HS.out _ (Below.step (Below.step DR B) B') | exact HS.out _ (Below.step DR B))
    ((first | (go_at_call 6; refine (toLog_r _ a b _ (HV.out _ (Below.step X DR)) (by omega) (by omega)).mono ?_; rintro e w9 ⟨u7, rfl, R7, B⟩) | (go_at_call 9; refine (eqLog_yes _ _ a b _ ((R4.below DR).below B).v R7.v).mono ?_; rintro e w10 ⟨rfl, B'⟩)))
  clear fA0 fA1 lA fs0 fs1 ls fx0 fx1 lx fg0 fg1 lg
  replace R3 := ((R3.below DR).below B).below B'
  replace R4 := ((R4.below DR).below B).below B'
  replace R5 := ((R5.below DR).below B).below B'
  replace R6 := ((R6.below DR).below B).below B'
  replace kA := box_below B' (box_below B (box_below DR kA))
  replace ks := box_below B' (box_below B (box_below DR ks))
  replace kx := box_below B' (box_below B (box_below DR kx))
  replace kg := box_below B' (box_below B (box_below DR kg))
  replace X := Below.step (Below.step (Below.step X DR) B) B'
  have s10 : w8.heap.size ≤ w10.heap.size := Nat.le_trans B.size B'.size
  clear HS DR B B' R7
  obtain ⟨fA0, fA1, -, -, lA⟩ := box2 kA
  obtain ⟨fs0, fs1, -, -, ls⟩ := box2 ks
  obtain ⟨fx0, fx1, -, -, lx⟩ := box2 kx
  obtain ⟨fg0, fg1, -, -, lg⟩ := box2 kg
  go_wp2_with fail
  refine (toByteS_r _ r _ (HU.out _ X) (by omega)).mono ?_
  rintro e w11 ⟨u8, rfl, R8, B⟩
  clear fA0 fA1 lA fs0 fs1 ls fx0 fx1 lx fg0 fg1 lg
  replace R3 := R3.below B
  replace R4 := R4.below B
  replace R5 := R5.below B
  replace R6 := R6.below B
  replace kA := box_below B kA
  replace ks := box_below B ks
  replace kx := box_below B kx
  replace kg := box_below B kg
  replace X := Below.step X B
  have s11 : w10.heap.size ≤ w11.heap.size := B.size
  clear B
  obtain ⟨fA0, fA1, -, -, lA⟩ := box2 kA
  obtain ⟨fs0, fs1, -, -, ls⟩ := box2 ks
  obtain ⟨fx0, fx1, -, -, lx⟩ := box2 kx
  obtain ⟨fg0, fg1, -, -, lg⟩ := box2 kg
  go_wp2_with fail
  refine (eqByteS_yes _ _ r _ R5.bs R8.bs).mono ?_
  rintro e w12 ⟨rfl, B⟩
  clear fA0 fA1 lA fs0 fs1 ls fx0 fx1 lx fg0 fg1 lg
  replace R3 := R3.below B
  replace R4 := R4.below B
  replace R5 := R5.below B
  replace R6 := R6.below B
  replace R8 := R8.below B
  replace kA := box_below B kA
  replace ks := box_below B ks
  replace kx := box_below B kx
  replace kg := box_below B kg
  replace X := Below.step X B
  have s12 : w11.heap.size ≤ w12.heap.size := B.size
  clear B
  clear R8
  obtain ⟨fA0, fA1, -, -, lA⟩ := box2 kA
  obtain ⟨fs0, fs1, -, -, ls⟩ := box2 ks
  obtain ⟨fx0, fx1, -, -, lx⟩ := box2 kx
  obtain ⟨fg0, fg1, -, -, lg⟩ := box2 kg
  go_wp2_with fail
  refine (markLog_r _ _ _ a b 1 _ R4 (by omega) (by omega) (by omega) (by omega)).mono ?_
  rintro e w13 ⟨rfl, R4', G⟩
  clear fA0 fA1 lA fs0 fs1 ls fx0 fx1 lx fg0 fg1 lg
  replace R3 := R3.keptW G (by omega)
  replace R5 := R5.keptW G (by omega)
  replace R6 := R6.keptW G (by omega)
  replace kA := box_within G kA (by omega)
  replace ks := box_within G ks (by omega)
  replace kx := box_within G kx (by omega)
  replace kg := box_within G kg (by omega)
  replace X := G.below X (by omega)
  have s13 := G.size
  clear G R4
  clear R4'
  clear kx
  obtain ⟨fA0, fA1, -, -, lA⟩ := box2 kA
  obtain ⟨fs0, fs1, -, -, ls⟩ := box2 ks
  obtain ⟨fg0, fg1, -, -, lg⟩ := box2 kg
  go_wp2_with fail
  refine (markByteS_w _ _ _ r _ _ R5 (by omega) (by omega) (by omega)).mono ?_
  rintro e w14 ⟨rfl, R5', G⟩
  clear fA0 fA1 lA fs0 fs1 ls fg0 fg1 lg
  replace R3 := R3.keptW G (by omega)
  replace R6 := R6.keptW G (by omega)
  replace kA := box_within G kA (by omega)
  replace ks := box_within G ks (by omega)
  replace kg := box_within G kg (by omega)
  replace X := G.below X (by omega)
  have s14 := G.size
  clear G R5
  clear R5'
  obtain ⟨fA0, fA1, -, -, lA⟩ := box2 kA
  obtain ⟨fs0, fs1, -, -, ls⟩ := box2 ks
  obtain ⟨fg0, fg1, -, -, lg⟩ := box2 kg
  go_wp2_with fail
  refine (eqLog_yes _ _ P Q _ R6.v R3.v).mono ?_
  rintro e w15 ⟨rfl, B⟩
  clear fA0 fA1 lA fs0 fs1 ls fg0 fg1 lg
  replace R3 := R3.below B
  replace R6 := R6.below B
  replace kA := box_below B kA
  replace ks := box_below B ks
  replace kg := box_below B kg
  replace X := Below.step X B
  have s15 : w14.heap.size ≤ w15.heap.size := B.size
  clear B
  obtain ⟨fA0, fA1, -, -, lA⟩ := box2 kA
  obtain ⟨fs0, fs1, -, -, ls⟩ := box2 ks
  obtain ⟨fg0, fg1, -, -, lg⟩ := box2 kg
  go_wp2_with fail
  refine (markLog_r _ _ _ P Q 1 _ R6 (by omega) (by omega) (by omega) (by omega)).mono ?_
  rintro e w16 ⟨rfl, R6', G⟩
  clear fA0 fA1 lA fs0 fs1 ls fg0 fg1 lg
  replace R3 := R3.keptW G (by omega)
  replace kA := box_within G kA (by omega)
  replace ks := box_within G ks (by omega)
  replace kg := box_within G kg (by omega)
  replace X := G.below X (by omega)
  have s16 := G.size
  clear G R6
  obtain ⟨fA0, fA1, -, -, lA⟩ := box2 kA
  obtain ⟨fs0, fs1, -, -, ls⟩ := box2 ks
  obtain ⟨fg0, fg1, -, -, lg⟩ := box2 kg
  go_wp2_with fail
  refine (heldLog_yes _ P.length Q.length 1 _ R6'.v (by omega) (by omega) (by omega) (by omega)).mono ?_
  rintro e w17 ⟨rfl, B⟩
  clear fA0 fA1 lA fs0 fs1 ls fg0 fg1 lg
  replace R3 := R3.below B
  replace R6' := R6'.below B
  replace kA := box_below B kA
  replace ks := box_below B ks
  replace kg := box_below B kg
  replace X := Below.step X B
  have s17 : w16.heap.size ≤ w17.heap.size := B.size
  clear B
  obtain ⟨fA0, fA1, -, -, lA⟩ := box2 kA
  obtain ⟨fs0, fs1, -, -, ls⟩ := box2 ks
  obtain ⟨fg0, fg1, -, -, lg⟩ := box2 kg
  go_wp2_with fail
  refine (toLog_r _ a b _ (HV.out _ X) (by omega) (by omega)).mono ?_
  rintro e w18 ⟨u9, rfl, R9, B⟩
  clear fA0 fA1 lA fs0 fs1 ls fg0 fg1 lg
  replace R3 := R3.below B
  replace R6' := R6'.below B
  replace kA := box_below B kA
  replace ks := box_below B ks
  replace kg := box_below B kg
  replace X := Below.step X B
  have s18 : w17.heap.size ≤ w18.heap.size := B.size
  clear B
  obtain ⟨fA0, fA1, -, -, lA⟩ := box2 kA
  obtain ⟨fs0, fs1, -, -, ls⟩ := box2 ks
  obtain ⟨fg0, fg1, -, -, lg⟩ := box2 kg
  go_wp2_with fail
  refine (toByteS_r _ r _ (HU.out _ X) (by omega)).mono ?_
  rintro e w19 ⟨u10, rfl, R10, B⟩
  clear fA0 fA1 lA fs0 fs1 ls fg0 fg1 lg
  replace R3 := R3.below B
  replace R6' := R6'.below B
  replace R9 := R9.below B
  replace kA := box_below B kA
  replace ks := box_below B ks
  replace kg := box_below B kg
  replace X := Below.step X B
  have s19 : w18.heap.size ≤ w19.heap.size := B.size
  clear B
  obtain ⟨fA0, fA1, -, -, lA⟩ := box2 kA
  obtain ⟨fs0, fs1, -, -, ls⟩ := box2 ks
  obtain ⟨fg0, fg1, -, -, lg⟩ := box2 kg
  go_wp2_with fail
  refine (implWrite_r _ _ a b r ea _ R9.v R10.bs (HS.out _ X) (by omega) (by omega) (by omega)).mono ?_
  rintro e w20 ⟨u11, rfl, R11, B⟩
  rw [HPE.out.1, HPE.out.2.1] at R11
  rw [HPE.out.2.2]
  clear fA0 fA1 lA fs0 fs1 ls fg0 fg1 lg
  replace R3 := R3.below B
  replace R6' := R6'.below B
  replace R9 := R9.below B
  replace R10 := R10.below B
  replace kA := box_below B kA
  replace ks := box_below B ks
  replace kg := box_below B kg
  replace X := Below.step X B
  have s20 : w19.heap.size ≤ w20.heap.size := B.size
  clear B
  clear R9 R10
  obtain ⟨p11, q11, rfl, h11p, h11q⟩ := R11.v
  obtain ⟨x11, n11, y11, rfl⟩ := h11p.form3
  obtain ⟨z11, m11, t11, rfl⟩ := h11q.form3
  clear h11p h11q
  have ab : ∀ o, Below w20.heap.size w20 (w20.alloc o) := fun o => (Below.refl _ _).alloc (Nat.le_refl _) o
  obtain ⟨fA0, fA1, -, -, lA⟩ := box2 kA
  obtain ⟨fs0, fs1, -, -, ls⟩ := box2 ks
  obtain ⟨fg0, fg1, -, -, lg⟩ := box2 kg
  go_wp2_with fail
  refine (eqLog_yes _ _ P Q _ (R11.below (ab _)).v (R3.below (ab _)).v).mono ?_
  rintro e w21 ⟨rfl, B⟩
  clear fA0 fA1 lA fs0 fs1 ls fg0 fg1 lg
  replace R3 := (R3.below (ab _)).below B
  replace R6' := (R6'.below (ab _)).below B
  replace R11 := (R11.below (ab _)).below B
  replace kA := box_below B (box_alloc kA _)
  replace ks := box_below B (box_alloc ks _)
  replace kg := box_below B (box_alloc kg _)
  have kh := box_below B (box_new w20 (.cells #[.slice x11 n11 y11, .slice z11 m11 t11] 26))
  replace X := Below.step (Below.step X (ab _)) B
  have s21 : w20.heap.size + 1 ≤ w21.heap.size := by have := B.size; simp at this; omega
  clear B ab
  clear R11 R3
  clear kh ks
  obtain ⟨fA0, fA1, -, -, lA⟩ := box2 kA
  obtain ⟨fg0, fg1, -, -, lg⟩ := box2 kg
  go_wp2_with fail
  refine (heldLog_yes _ P.length Q.length 1 _ R6'.v (by omega) (by omega) (by omega) (by omega)).mono ?_
  rintro e w22 ⟨rfl, B⟩
  clear fA0 fA1 lA fg0 fg1 lg
  replace R6' := R6'.below B
  replace kA := box_below B kA
  replace kg := box_below B kg
  replace X := Below.step X B
  have s22 : w21.heap.size ≤ w22.heap.size := B.size
  clear B
  clear R6' kA kg
  go_wp2
  go_ret
  exact ⟨rfl, X⟩

end Go.Proofs.YtiafkmjndcfjlabDoor
