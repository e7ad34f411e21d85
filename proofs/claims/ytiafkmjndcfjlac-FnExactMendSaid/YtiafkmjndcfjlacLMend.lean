/- The law FnExactMend, walked out of the contracts. -/
import Derived.Test.YtiafkmjndcfjlacExLog
import Derived.Test.YtiafkmjndcfjlacSMend
import Derived.Test.YtiafkmjndcfjlacILogMend
import Derived.Deep.RegionHeld3
namespace Go.Proofs.Ytiafkmjndcfjlac
open Go.RowKit

set_option maxHeartbeats 2000000 in
theorem exactMend_walk (v : Value) (a b : List Int) (w : World) (hv : LogV w v a b) :
    Calls Try.prog 3 #[v] w fun e w' => e = .returned (.bool true) ∧ Below w.heap.size w w' := by
  have HV : Hid (∀ wi, Below w.heap.size w wi → LogV wi v a b) := fun wi h => hv.below h
  obtain ⟨v0, v1, rfl, g0, g1⟩ := hv
  obtain ⟨e0, e1, e2, rfl⟩ := g0.form3
  obtain ⟨e3, e4, e5, rfl⟩ := g1.form3
  clear g0 g1
  go_enter Try.func3, Try.ntmps3
  have ab : ∀ o, Below w.heap.size w (w.alloc o) := fun o => (Below.refl _ _).alloc (Nat.le_refl _) o
  go_wp2_with fail
  refine (szLog_any _ a b 1048576 _ (HV.out _ (ab _)) (by omega) (by omega)).mono ?_
  rintro e w1 ⟨x, rfl, hx, B⟩
  have kA := box_below B (box_new w (.cells #[.slice e0 e1 e2, .slice e3 e4 e5] 24))
  have X := Below.step (Below.step (Below.refl _ _) (ab _)) B
  have s1 : w.heap.size + 1 ≤ w1.heap.size := by have := B.size; simp at this; omega
  clear B ab
  rcases hx with rfl | ⟨hx0, hx1⟩
  · clear kA
    go_wp2
    go_ret
    exact ⟨rfl, X⟩
  have hab : a.length + b.length ≤ 1048576 := by omega
  have ha : a.length ≤ 1048576 := by omega
  have hb : b.length ≤ 1048576 := by omega
  clear hx1
  have hP := mendA_length a b
  generalize hPe : mendA a b = P at hP
  have HPE : Hid (mendA a b = P) := hPe
  clear hPe
  obtain ⟨fA0, fA1, -, -, lA⟩ := box2 kA
  go_wp2_with fail
  refine (toLog_r _ a b _ (HV.out _ X) (by omega) (by omega)).mono ?_
  rintro e w2 ⟨u1, rfl, R1, B⟩
  clear fA0 fA1 lA
  replace kA := box_below B kA
  replace X := Below.step X B
  have s2 : w1.heap.size ≤ w2.heap.size := B.size
  clear B
  obtain ⟨fA0, fA1, -, -, lA⟩ := box2 kA
  go_wp2_with fail
  refine (specMend_r _ a b _ R1.v (by omega)).mono ?_
  rintro e w3 ⟨u2, rfl, R2, B⟩
  rw [HPE.out] at R2
  clear fA0 fA1 lA
  replace R1 := R1.below B
  replace kA := box_below B kA
  replace X := Below.step X B
  have s3 : w2.heap.size ≤ w3.heap.size := B.size
  clear B
  clear R1
  obtain ⟨p2, q2, rfl, h2p, h2q⟩ := R2.v
  obtain ⟨x2, n2, y2, rfl⟩ := h2p.form3
  obtain ⟨z2, m2, t2, rfl⟩ := h2q.form3
  clear h2p h2q
  have ab : ∀ o, Below w3.heap.size w3 (w3.alloc o) := fun o => (Below.refl _ _).alloc (Nat.le_refl _) o
  obtain ⟨fA0, fA1, -, -, lA⟩ := box2 kA
  go_wp2_with fail
  refine (toLog_r _ a b _ (HV.out _ (Below.step X (ab _))) (by omega) (by omega)).mono ?_
  rintro e w4 ⟨u3, rfl, R3, B⟩
  clear fA0 fA1 lA
  replace R2 := (R2.below (ab _)).below B
  replace kA := box_below B (box_alloc kA _)
  have ks := box_below B (box_new w3 (.cells #[.slice x2 n2 y2, .slice z2 m2 t2] 26))
  replace X := Below.step (Below.step X (ab _)) B
  have s4 : w3.heap.size + 1 ≤ w4.heap.size := by have := B.size; simp at this; omega
  replace R3 := R3.wide (B' := w3.heap.size + 1) (by simp) (Nat.le_refl _)
  clear B ab
  obtain ⟨p3, q3, rfl, h3p, h3q⟩ := R3.v
  obtain ⟨x3, n3, y3, rfl⟩ := h3p.form3
  obtain ⟨z3, m3, t3, rfl⟩ := h3q.form3
  clear h3p h3q
  have ab : ∀ o, Below w4.heap.size w4 (w4.alloc o) := fun o => (Below.refl _ _).alloc (Nat.le_refl _) o
  obtain ⟨fA0, fA1, -, -, lA⟩ := box2 kA
  obtain ⟨fs0, fs1, -, -, ls⟩ := box2 ks
  go_wp2_with fail
  refine (implMend_r _ a b _ (R3.below (ab _)).v (by omega) (by omega)).mono ?_
  rintro e w5 ⟨u4, rfl, R4, B⟩
  rw [HPE.out] at R4
  clear fA0 fA1 lA fs0 fs1 ls
  replace R2 := (R2.below (ab _)).below B
  replace R3 := (R3.below (ab _)).below B
  replace kA := box_below B (box_alloc kA _)
  replace ks := box_below B (box_alloc ks _)
  have kx := box_below B (box_new w4 (.cells #[.slice x3 n3 y3, .slice z3 m3 t3] 26))
  replace X := Below.step (Below.step X (ab _)) B
  have s5 : w4.heap.size + 1 ≤ w5.heap.size := by have := B.size; simp at this; omega
  replace R4 := R4.wide (B' := w4.heap.size + 1) (by simp) (Nat.le_refl _)
  clear B ab
  obtain ⟨p4, q4, rfl, h4p, h4q⟩ := R4.v
  obtain ⟨x4, n4, y4, rfl⟩ := h4p.form3
  obtain ⟨z4, m4, t4, rfl⟩ := h4q.form3
  clear h4p h4q
  have ab : ∀ o, Below w5.heap.size w5 (w5.alloc o) := fun o => (Below.refl _ _).alloc (Nat.le_refl _) o
  obtain ⟨fA0, fA1, -, -, lA⟩ := box2 kA
  obtain ⟨fs0, fs1, -, -, ls⟩ := box2 ks
  obtain ⟨fx0, fx1, -, -, lx⟩ := box2 kx
  go_wp2_with fail
  refine (eqLog_yes _ _ P [] _ (R4.below (ab _)).v (R2.below (ab _)).v).mono ?_
  rintro e w6 ⟨rfl, B⟩
  clear fA0 fA1 lA fs0 fs1 ls fx0 fx1 lx
  replace R2 := (R2.below (ab _)).below B
  replace R3 := (R3.below (ab _)).below B
  replace R4 := (R4.below (ab _)).below B
  replace kA := box_below B (box_alloc kA _)
  replace ks := box_below B (box_alloc ks _)
  replace kx := box_below B (box_alloc kx _)
  have kg := box_below B (box_new w5 (.cells #[.slice x4 n4 y4, .slice z4 m4 t4] 26))
  replace X := Below.step (Below.step X (ab _)) B
  have s6 : w5.heap.size + 1 ≤ w6.heap.size := by have := B.size; simp at this; omega
  clear B ab
  have HS : Hid (∀ w', Below w6.heap.size w6 w' → w'.cell? ⟨w4.heap.size, 0, none⟩ = some (.slice x3 n3 y3) ∧ w'.cell? ⟨w4.heap.size, 1, none⟩ = some (.slice z3 m3 t3) ∧ w'.cell? ⟨w.heap.size, 0, none⟩ = some (.slice e0 e1 e2) ∧ w'.cell? ⟨w.heap.size, 1, none⟩ = some (.slice e3 e4 e5)) := fun w' h => ⟨(box2 (box_below h kx)).1, (box2 (box_below h kx)).2.1, (box2 (box_below h kA)).1, (box2 (box_below h kA)).2.1⟩
  have DR : Below w6.heap.size w6 w6.drew := (Below.refl _ _).drew
  obtain ⟨fA0, fA1, -, -, lA⟩ := box2 kA
  obtain ⟨fs0, fs1, -, -, ls⟩ := box2 ks
  obtain ⟨fx0, fx1, -, -, lx⟩ := box2 kx
  obtain ⟨fg0, fg1, -, -, lg⟩ := box2 kg
  go_wp2
  go_region_held3 (fun w' => w'.cell? ⟨w4.heap.size, 0, none⟩ = some (.slice x3 n3 y3) ∧ w'.cell? ⟨w4.heap.size, 1, none⟩ = some (.slice z3 m3 t3) ∧ w'.cell? ⟨w.heap.size, 0, none⟩ = some (.slice e0 e1 e2) ∧ w'.cell? ⟨w.heap.size, 1, none⟩ = some (.slice e3 e4 e5))
    (first | go_keep | exact HS.out _ (Below.step (Below.step DR B) B') | exact HS.out _ (Below.step DR B))
    ((first | (go_at_call 6; refine (toLog_r _ a b _ (HV.out _ (Below.step X DR)) (by omega) (by omega)).mono ?_; rintro e w7 ⟨u5, rfl, R5, B⟩) | (go_at_call 8; refine (eqLog_yes _ _ a b _ ((R3.below DR).below B).v R5.v).mono ?_; rintro e w8 ⟨rfl, B'⟩)))
  clear fA0 fA1 lA fs0 fs1 ls fx0 fx1 lx fg0 fg1 lg
  replace R2 := ((R2.below DR).below B).below B'
  replace R3 := ((R3.below DR).below B).below B'
  replace R4 := ((R4.below DR).below B).below B'
  replace kA := box_below B' (box_below B (box_below DR kA))
  replace ks := box_below B' (box_below B (box_below DR ks))
  replace kx := box_below B' (box_below B (box_below DR kx))
  replace kg := box_below B' (box_below B (box_below DR kg))
  replace X := Below.step (Below.step (Below.step X DR) B) B'
  have s8 : w6.heap.size ≤ w8.heap.size := Nat.le_trans B.size B'.size
  clear HS DR B B' R5
  obtain ⟨fA0, fA1, -, -, lA⟩ := box2 kA
  obtain ⟨fs0, fs1, -, -, ls⟩ := box2 ks
  obtain ⟨fx0, fx1, -, -, lx⟩ := box2 kx
  obtain ⟨fg0, fg1, -, -, lg⟩ := box2 kg
  go_wp2_with fail
  refine (markLog_r _ _ _ a b 1 _ R3 (by omega) (by omega) (by omega) (by omega)).mono ?_
  rintro e w9 ⟨rfl, R3', G⟩
  clear fA0 fA1 lA fs0 fs1 ls fx0 fx1 lx fg0 fg1 lg
  replace R2 := R2.keptW G (by omega)
  replace R4 := R4.keptW G (by omega)
  replace kA := box_within G kA (by omega)
  replace ks := box_within G ks (by omega)
  replace kx := box_within G kx (by omega)
  replace kg := box_within G kg (by omega)
  replace X := G.below X (by omega)
  have s9 := G.size
  clear G R3
  clear R3'
  clear kx
  obtain ⟨fA0, fA1, -, -, lA⟩ := box2 kA
  obtain ⟨fs0, fs1, -, -, ls⟩ := box2 ks
  obtain ⟨fg0, fg1, -, -, lg⟩ := box2 kg
  go_wp2_with fail
  refine (eqLog_yes _ _ P [] _ R4.v R2.v).mono ?_
  rintro e w10 ⟨rfl, B⟩
  clear fA0 fA1 lA fs0 fs1 ls fg0 fg1 lg
  replace R2 := R2.below B
  replace R4 := R4.below B
  replace kA := box_below B kA
  replace ks := box_below B ks
  replace kg := box_below B kg
  replace X := Below.step X B
  have s10 : w9.heap.size ≤ w10.heap.size := B.size
  clear B
  obtain ⟨fA0, fA1, -, -, lA⟩ := box2 kA
  obtain ⟨fs0, fs1, -, -, ls⟩ := box2 ks
  obtain ⟨fg0, fg1, -, -, lg⟩ := box2 kg
  go_wp2_with fail
  refine (markLog_r _ _ _ P [] 1 _ R4 (by omega) (by simp) (by omega) (by omega)).mono ?_
  rintro e w11 ⟨rfl, R4', G⟩
  clear fA0 fA1 lA fs0 fs1 ls fg0 fg1 lg
  replace R2 := R2.keptW G (by omega)
  replace kA := box_within G kA (by omega)
  replace ks := box_within G ks (by omega)
  replace kg := box_within G kg (by omega)
  replace X := G.below X (by omega)
  have s11 := G.size
  clear G R4
  obtain ⟨fA0, fA1, -, -, lA⟩ := box2 kA
  obtain ⟨fs0, fs1, -, -, ls⟩ := box2 ks
  obtain ⟨fg0, fg1, -, -, lg⟩ := box2 kg
  go_wp2_with fail
  refine (heldLog_yes _ P.length 0 1 _ R4'.v (by omega) (by omega) (by omega) (by omega)).mono ?_
  rintro e w12 ⟨rfl, B⟩
  clear fA0 fA1 lA fs0 fs1 ls fg0 fg1 lg
  replace R2 := R2.below B
  replace R4' := R4'.below B
  replace kA := box_below B kA
  replace ks := box_below B ks
  replace kg := box_below B kg
  replace X := Below.step X B
  have s12 : w11.heap.size ≤ w12.heap.size := B.size
  clear B
  obtain ⟨fA0, fA1, -, -, lA⟩ := box2 kA
  obtain ⟨fs0, fs1, -, -, ls⟩ := box2 ks
  obtain ⟨fg0, fg1, -, -, lg⟩ := box2 kg
  go_wp2_with fail
  refine (toLog_r _ a b _ (HV.out _ X) (by omega) (by omega)).mono ?_
  rintro e w13 ⟨u6, rfl, R6, B⟩
  clear fA0 fA1 lA fs0 fs1 ls fg0 fg1 lg
  replace R2 := R2.below B
  replace R4' := R4'.below B
  replace kA := box_below B kA
  replace ks := box_below B ks
  replace kg := box_below B kg
  replace X := Below.step X B
  have s13 : w12.heap.size ≤ w13.heap.size := B.size
  clear B
  obtain ⟨fA0, fA1, -, -, lA⟩ := box2 kA
  obtain ⟨fs0, fs1, -, -, ls⟩ := box2 ks
  obtain ⟨fg0, fg1, -, -, lg⟩ := box2 kg
  go_wp2_with fail
  refine (implMend_r _ a b _ R6.v (by omega) (by omega)).mono ?_
  rintro e w14 ⟨u7, rfl, R7, B⟩
  rw [HPE.out] at R7
  clear fA0 fA1 lA fs0 fs1 ls fg0 fg1 lg
  replace R2 := R2.below B
  replace R4' := R4'.below B
  replace R6 := R6.below B
  replace kA := box_below B kA
  replace ks := box_below B ks
  replace kg := box_below B kg
  replace X := Below.step X B
  have s14 : w13.heap.size ≤ w14.heap.size := B.size
  clear B
  clear R6
  obtain ⟨p7, q7, rfl, h7p, h7q⟩ := R7.v
  obtain ⟨x7, n7, y7, rfl⟩ := h7p.form3
  obtain ⟨z7, m7, t7, rfl⟩ := h7q.form3
  clear h7p h7q
  have ab : ∀ o, Below w14.heap.size w14 (w14.alloc o) := fun o => (Below.refl _ _).alloc (Nat.le_refl _) o
  obtain ⟨fA0, fA1, -, -, lA⟩ := box2 kA
  obtain ⟨fs0, fs1, -, -, ls⟩ := box2 ks
  obtain ⟨fg0, fg1, -, -, lg⟩ := box2 kg
  go_wp2_with fail
  refine (eqLog_yes _ _ P [] _ (R7.below (ab _)).v (R2.below (ab _)).v).mono ?_
  rintro e w15 ⟨rfl, B⟩
  clear fA0 fA1 lA fs0 fs1 ls fg0 fg1 lg
  replace R2 := (R2.below (ab _)).below B
  replace R4' := (R4'.below (ab _)).below B
  replace R7 := (R7.below (ab _)).below B
  replace kA := box_below B (box_alloc kA _)
  replace ks := box_below B (box_alloc ks _)
  replace kg := box_below B (box_alloc kg _)
  have kh := box_below B (box_new w14 (.cells #[.slice x7 n7 y7, .slice z7 m7 t7] 26))
  replace X := Below.step (Below.step X (ab _)) B
  have s15 : w14.heap.size + 1 ≤ w15.heap.size := by have := B.size; simp at this; omega
  clear B ab
  clear R7 R2
  clear kh ks
  obtain ⟨fA0, fA1, -, -, lA⟩ := box2 kA
  obtain ⟨fg0, fg1, -, -, lg⟩ := box2 kg
  go_wp2_with fail
  refine (heldLog_yes _ P.length 0 1 _ R4'.v (by omega) (by omega) (by omega) (by omega)).mono ?_
  rintro e w16 ⟨rfl, B⟩
  clear fA0 fA1 lA fg0 fg1 lg
  replace R4' := R4'.below B
  replace kA := box_below B kA
  replace kg := box_below B kg
  replace X := Below.step X B
  have s16 : w15.heap.size ≤ w16.heap.size := B.size
  clear B
  clear R4' kA kg
  go_wp2
  go_ret
  exact ⟨rfl, X⟩

end Go.Proofs.Ytiafkmjndcfjlac
