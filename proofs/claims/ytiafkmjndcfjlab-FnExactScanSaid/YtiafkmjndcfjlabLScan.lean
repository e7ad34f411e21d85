/- The law FnExactScan, walked out of the contracts. -/
import Derived.Test.YtiafkmjndcfjlabExLog
import Derived.Test.YtiafkmjndcfjlabSScan
import Derived.Test.YtiafkmjndcfjlabExRows
import Derived.Test.YtiafkmjndcfjlabILogScan
import Derived.Deep.RegionHeld3
namespace Go.Proofs.Ytiafkmjndcfjlab
open Go.RowKit

set_option maxHeartbeats 2000000 in
theorem exactScan_walk (v : Value) (a b : List Int) (w : World) (hv : LogV w v a b) :
    Calls Try.prog 7 #[v] w fun e w' => e = .returned (.bool true) ∧ Below w.heap.size w w' := by
  have HV : Hid (∀ wi, Below w.heap.size w wi → LogV wi v a b) := fun wi h => hv.below h
  obtain ⟨v0, v1, rfl, g0, g1⟩ := hv
  obtain ⟨e0, e1, e2, rfl⟩ := g0.form3
  obtain ⟨e3, e4, e5, rfl⟩ := g1.form3
  clear g0 g1
  go_enter Try.func7, Try.ntmps7
  have ab : ∀ o, Below w.heap.size w (w.alloc o) := fun o => (Below.refl _ _).alloc (Nat.le_refl _) o
  go_wp2_with fail
  refine (szLog_any _ a b 1048576 _ (HV.out _ (ab _)) (by omega) (by omega)).mono ?_
  rintro e w1 ⟨x, rfl, hx, B⟩
  have kA := box_below B (box_new w (.cells #[.slice e0 e1 e2, .slice e3 e4 e5] 30))
  have X := Below.step (Below.step (Below.refl _ _) (ab _)) B
  have s1 : w.heap.size + 1 ≤ w1.heap.size := by have := B.size; simp at this; omega
  clear B ab
  rcases hx with rfl | ⟨hx0, hx1⟩
  · clear kA
    go_wp2
    go_ret
    exact ⟨rfl, X⟩
  have hab : a.length + b.length ≤ 1048576 := by omega
  have ha : a.length ≤ 1048576 := by omega
  have hb : b.length ≤ 1048576 := by omega
  clear hx1
  obtain ⟨hP, hS, hT⟩ := scanA_bd a b
  generalize hPe : scanA a b = P at hP hS hT
  have HPE : Hid (scanA a b = P) := hPe
  clear hPe
  obtain ⟨P, S⟩ := P
  simp only at hP hS hT
  have hT' : totS P ≤ a.length := hT
  clear hT
  obtain ⟨fA0, fA1, -, -, lA⟩ := box2 kA
  go_wp2_with fail
  refine (toLog_r _ a b _ (HV.out _ X) (by omega) (by omega)).mono ?_
  rintro e w2 ⟨u1, rfl, R1, B⟩
  clear fA0 fA1 lA
  replace kA := box_below B kA
  replace X := Below.step X B
  have s2 : w1.heap.size ≤ w2.heap.size := B.size
  clear B
  obtain ⟨fA0, fA1, -, -, lA⟩ := box2 kA
  go_wp2_with fail
  refine (specScan_r _ a b _ R1.v (by omega)).mono ?_
  rintro e w3 ⟨u2, rfl, R2, B⟩
  rw [HPE.out] at R2 ⊢
  simp only at R2 ⊢
  obtain ⟨x2, n2, y2, rfl⟩ := R2.ss.form3
  clear fA0 fA1 lA
  replace R1 := R1.below B
  replace kA := box_below B kA
  replace X := Below.step X B
  have s3 : w2.heap.size ≤ w3.heap.size := B.size
  clear B
  clear R1
  obtain ⟨fA0, fA1, -, -, lA⟩ := box2 kA
  go_wp2_with fail
  refine (toLog_r _ a b _ (HV.out _ X) (by omega) (by omega)).mono ?_
  rintro e w4 ⟨u3, rfl, R3, B⟩
  clear fA0 fA1 lA
  replace R2 := R2.below B
  replace kA := box_below B kA
  replace X := Below.step X B
  have s4 : w3.heap.size ≤ w4.heap.size := B.size
  clear B
  obtain ⟨p3, q3, rfl, h3p, h3q⟩ := R3.v
  obtain ⟨x3, n3, y3, rfl⟩ := h3p.form3
  obtain ⟨z3, m3, t3, rfl⟩ := h3q.form3
  clear h3p h3q
  have ab : ∀ o, Below w4.heap.size w4 (w4.alloc o) := fun o => (Below.refl _ _).alloc (Nat.le_refl _) o
  obtain ⟨fA0, fA1, -, -, lA⟩ := box2 kA
  go_wp2_with fail
  refine (implScan_r _ a b _ (R3.below (ab _)).v (by omega) (by omega)).mono ?_
  rintro e w5 ⟨u4, rfl, R4, B⟩
  rw [HPE.out] at R4 ⊢
  simp only at R4 ⊢
  obtain ⟨x4, n4, y4, rfl⟩ := R4.ss.form3
  clear fA0 fA1 lA
  replace R2 := (R2.below (ab _)).below B
  replace R3 := (R3.below (ab _)).below B
  replace kA := box_below B (box_alloc kA _)
  have kx := box_below B (box_new w4 (.cells #[.slice x3 n3 y3, .slice z3 m3 t3] 33))
  replace X := Below.step (Below.step X (ab _)) B
  have s5 : w4.heap.size + 1 ≤ w5.heap.size := by have := B.size; simp at this; omega
  replace R4 := R4.wide (B' := w4.heap.size + 1) (by simp) (Nat.le_refl _)
  clear B ab
  obtain ⟨fA0, fA1, -, -, lA⟩ := box2 kA
  obtain ⟨fx0, fx1, -, -, lx⟩ := box2 kx
  go_wp2_with fail
  refine (eqByteSS_s _ _ P _ R4.ss R2.ss (by omega)).mono ?_
  rintro e w6 ⟨rfl, B⟩
  clear fA0 fA1 lA fx0 fx1 lx
  replace R2 := R2.below B
  replace R3 := R3.below B
  replace R4 := R4.below B
  replace kA := box_below B kA
  replace kx := box_below B kx
  replace X := Below.step X B
  have s6 : w5.heap.size ≤ w6.heap.size := B.size
  clear B
  have HS : Hid (∀ w', Below w6.heap.size w6 w' → w'.cell? ⟨w4.heap.size, 0, none⟩ = some (.slice x3 n3 y3) ∧ w'.cell? ⟨w4.heap.size, 1, none⟩ = some (.slice z3 m3 t3) ∧ w'.cell? ⟨w.heap.size, 0, none⟩ = some (.slice e0 e1 e2) ∧ w'.cell? ⟨w.heap.size, 1, none⟩ = some (.slice e3 e4 e5)) := fun w' h => ⟨(box2 (box_below h kx)).1, (box2 (box_below h kx)).2.1, (box2 (box_below h kA)).1, (box2 (box_below h kA)).2.1⟩
  have DR : Below w6.heap.size w6 w6.drew := (Below.refl _ _).drew
  obtain ⟨fA0, fA1, -, -, lA⟩ := box2 kA
  obtain ⟨fx0, fx1, -, -, lx⟩ := box2 kx
  go_wp2
  go_region_held3 (fun w' => w'.cell? ⟨w4.heap.size, 0, none⟩ = some (.slice x3 n3 y3) ∧ w'.cell? ⟨w4.heap.size, 1, none⟩ = some (.slice z3 m3 t3) ∧ w'.cell? ⟨w.heap.size, 0, none⟩ = some (.slice e0 e1 e2) ∧ w'.cell? ⟨w.heap.size, 1, none⟩ = some (.slice e3 e4 e5))
    (first | go_keep | exact HS.out _ (Below.step (Below.step DR B) B') | exact HS.out _ (Below.step DR B))
    ((first | (go_at_call 16; refine (toLog_r _ a b _ (HV.out _ (Below.step X DR)) (by omega) (by omega)).mono ?_; rintro e w7 ⟨u5, rfl, R5, B⟩) | (go_at_call 18; refine (eqLog_yes _ _ a b _ ((R3.below DR).below B).v R5.v).mono ?_; rintro e w8 ⟨rfl, B'⟩)))
  clear fA0 fA1 lA fx0 fx1 lx
  replace R2 := ((R2.below DR).below B).below B'
  replace R3 := ((R3.below DR).below B).below B'
  replace R4 := ((R4.below DR).below B).below B'
  replace kA := box_below B' (box_below B (box_below DR kA))
  replace kx := box_below B' (box_below B (box_below DR kx))
  replace X := Below.step (Below.step (Below.step X DR) B) B'
  have s8 : w6.heap.size ≤ w8.heap.size := Nat.le_trans B.size B'.size
  clear HS DR B B' R5
  obtain ⟨fA0, fA1, -, -, lA⟩ := box2 kA
  obtain ⟨fx0, fx1, -, -, lx⟩ := box2 kx
  go_wp2_with fail
  refine (markLog_r _ _ _ a b 1 _ R3 (by omega) (by omega) (by omega) (by omega)).mono ?_
  rintro e w9 ⟨rfl, R3', G⟩
  clear fA0 fA1 lA fx0 fx1 lx
  replace R2 := R2.keptW G (by omega)
  replace R4 := R4.keptW G (by omega)
  replace kA := box_within G kA (by omega)
  replace kx := box_within G kx (by omega)
  replace X := G.below X (by omega)
  have s9 := G.size
  clear G R3
  clear R3'
  clear kx
  obtain ⟨fA0, fA1, -, -, lA⟩ := box2 kA
  go_wp2_with fail
  refine (eqByteSS_s _ _ P _ R4.ss R2.ss (by omega)).mono ?_
  rintro e w10 ⟨rfl, B⟩
  clear fA0 fA1 lA
  replace R2 := R2.below B
  replace R4 := R4.below B
  replace kA := box_below B kA
  replace X := Below.step X B
  have s10 : w9.heap.size ≤ w10.heap.size := B.size
  clear B
  obtain ⟨fA0, fA1, -, -, lA⟩ := box2 kA
  go_wp2_with fail
  refine (markByteSS_s _ _ _ P 1 _ R4 (by omega) (by omega) (by omega) (by omega)).mono ?_
  rintro e w11 ⟨rfl, R4', G⟩
  clear fA0 fA1 lA
  replace R2 := R2.keptW G (by omega)
  replace kA := box_within G kA (by omega)
  replace X := G.below X (by omega)
  have s11 := G.size
  clear G R4
  obtain ⟨fA0, fA1, -, -, lA⟩ := box2 kA
  go_wp2_with fail
  refine (heldByteSS_s _ P 1 _ R4'.ss (by omega) (by omega) (by omega) (by omega)).mono ?_
  rintro e w12 ⟨rfl, B⟩
  clear fA0 fA1 lA
  replace R2 := R2.below B
  replace R4' := R4'.below B
  replace kA := box_below B kA
  replace X := Below.step X B
  have s12 : w11.heap.size ≤ w12.heap.size := B.size
  clear B
  obtain ⟨fA0, fA1, -, -, lA⟩ := box2 kA
  go_wp2_with fail
  refine (toLog_r _ a b _ (HV.out _ X) (by omega) (by omega)).mono ?_
  rintro e w13 ⟨u6, rfl, R6, B⟩
  clear fA0 fA1 lA
  replace R2 := R2.below B
  replace R4' := R4'.below B
  replace kA := box_below B kA
  replace X := Below.step X B
  have s13 : w12.heap.size ≤ w13.heap.size := B.size
  clear B
  obtain ⟨fA0, fA1, -, -, lA⟩ := box2 kA
  go_wp2_with fail
  refine (implScan_r _ a b _ R6.v (by omega) (by omega)).mono ?_
  rintro e w14 ⟨u7, rfl, R7, B⟩
  rw [HPE.out] at R7 ⊢
  simp only at R7 ⊢
  obtain ⟨x7, n7, y7, rfl⟩ := R7.ss.form3
  clear fA0 fA1 lA
  replace R2 := R2.below B
  replace R4' := R4'.below B
  replace R6 := R6.below B
  replace kA := box_below B kA
  replace X := Below.step X B
  have s14 : w13.heap.size ≤ w14.heap.size := B.size
  clear B
  clear R6
  obtain ⟨fA0, fA1, -, -, lA⟩ := box2 kA
  go_wp2_with fail
  refine (eqByteSS_s _ _ P _ R7.ss R2.ss (by omega)).mono ?_
  rintro e w15 ⟨rfl, B⟩
  clear fA0 fA1 lA
  replace R2 := R2.below B
  replace R4' := R4'.below B
  replace R7 := R7.below B
  replace kA := box_below B kA
  replace X := Below.step X B
  have s15 : w14.heap.size ≤ w15.heap.size := B.size
  clear B
  clear R7 R2
  obtain ⟨fA0, fA1, -, -, lA⟩ := box2 kA
  go_wp2_with fail
  refine (heldByteSS_s _ P 1 _ R4'.ss (by omega) (by omega) (by omega) (by omega)).mono ?_
  rintro e w16 ⟨rfl, B⟩
  clear fA0 fA1 lA
  replace R4' := R4'.below B
  replace kA := box_below B kA
  replace X := Below.step X B
  have s16 : w15.heap.size ≤ w16.heap.size := B.size
  clear B
  clear R4' kA
  go_wp2
  go_ret
  exact ⟨rfl, X⟩

end Go.Proofs.Ytiafkmjndcfjlab
