/- The law FnExactLogOk, walked out of the contracts. -/
import Derived.Test.YtiafkmjndcfjlabExLog
import Derived.Test.YtiafkmjndcfjlabSLog0
import Derived.Test.YtiafkmjndcfjlabILogOk
import Derived.Deep.RegionHeld3
namespace Go.Proofs.Ytiafkmjndcfjlab
open Go.RowKit

set_option maxHeartbeats 2000000 in
theorem exactLogOk_walk (v : Value) (a b : List Int) (w : World) (hv : LogV w v a b) :
    Calls Try.prog 4 #[v] w fun e w' => e = .returned (.bool true) ∧ Below w.heap.size w w' := by
  have HV : Hid (∀ wi, Below w.heap.size w wi → LogV wi v a b) := fun wi h => hv.below h
  obtain ⟨v0, v1, rfl, g0, g1⟩ := hv
  obtain ⟨e0, e1, e2, rfl⟩ := g0.form3
  obtain ⟨e3, e4, e5, rfl⟩ := g1.form3
  clear g0 g1
  go_enter Try.func4, Try.ntmps4
  have ab : ∀ o, Below w.heap.size w (w.alloc o) := fun o => (Below.refl _ _).alloc (Nat.le_refl _) o
  go_wp2_with fail
  refine (szLog_any _ a b 1048576 _ (HV.out _ (ab _)) (by omega) (by omega)).mono ?_
  rintro e w1 ⟨x, rfl, hx, B⟩
  have kA := box_below B (box_new w (.cells #[.slice e0 e1 e2, .slice e3 e4 e5] 30))
  have X := Below.step (Below.step (Below.refl _ _) (ab _)) B
  have s1 : w.heap.size + 1 ≤ w1.heap.size := by have := B.size; simp at this; omega
  clear B ab
  rcases hx with rfl | ⟨hx0, hx1⟩
  · clear kA
    go_wp2
    go_ret
    exact ⟨rfl, X⟩
  have hab : a.length + b.length ≤ 1048576 := by omega
  have ha : a.length ≤ 1048576 := by omega
  have hb : b.length ≤ 1048576 := by omega
  clear hx1
  obtain ⟨fA0, fA1, -, -, lA⟩ := box2 kA
  go_wp2_with fail
  refine (toLog_r _ a b _ (HV.out _ X) (by omega) (by omega)).mono ?_
  rintro e w2 ⟨u1, rfl, R1, B⟩
  clear fA0 fA1 lA
  replace kA := box_below B kA
  replace X := Below.step X B
  have s2 : w1.heap.size ≤ w2.heap.size := B.size
  clear B
  obtain ⟨fA0, fA1, -, -, lA⟩ := box2 kA
  go_wp2_with fail
  refine (specLogOk_any _ a b _ R1.v).mono ?_
  rintro e w3 ⟨rfl, B⟩
  clear fA0 fA1 lA
  replace R1 := R1.below B
  replace kA := box_below B kA
  replace X := Below.step X B
  have s3 : w2.heap.size ≤ w3.heap.size := B.size
  clear B
  clear R1
  obtain ⟨fA0, fA1, -, -, lA⟩ := box2 kA
  go_wp2_with fail
  refine (toLog_r _ a b _ (HV.out _ X) (by omega) (by omega)).mono ?_
  rintro e w4 ⟨u2, rfl, R2, B⟩
  clear fA0 fA1 lA
  replace kA := box_below B kA
  replace X := Below.step X B
  have s4 : w3.heap.size ≤ w4.heap.size := B.size
  clear B
  obtain ⟨p2, q2, rfl, h2p, h2q⟩ := R2.v
  obtain ⟨x2, n2, y2, rfl⟩ := h2p.form3
  obtain ⟨z2, m2, t2, rfl⟩ := h2q.form3
  clear h2p h2q
  have ab : ∀ o, Below w4.heap.size w4 (w4.alloc o) := fun o => (Below.refl _ _).alloc (Nat.le_refl _) o
  obtain ⟨fA0, fA1, -, -, lA⟩ := box2 kA
  go_wp2_with fail
  refine (implLogOk_any _ a b _ (R2.below (ab _)).v (by omega) (by omega)).mono ?_
  rintro e w5 ⟨rfl, B⟩
  clear fA0 fA1 lA
  replace R2 := (R2.below (ab _)).below B
  replace kA := box_below B (box_alloc kA _)
  have kx := box_below B (box_new w4 (.cells #[.slice x2 n2 y2, .slice z2 m2 t2] 33))
  replace X := Below.step (Below.step X (ab _)) B
  have s5 : w4.heap.size + 1 ≤ w5.heap.size := by have := B.size; simp at this; omega
  clear B ab
  have HS : Hid (∀ w', Below w5.heap.size w5 w' → w'.cell? ⟨w4.heap.size, 0, none⟩ = some (.slice x2 n2 y2) ∧ w'.cell? ⟨w4.heap.size, 1, none⟩ = some (.slice z2 m2 t2) ∧ w'.cell? ⟨w.heap.size, 0, none⟩ = some (.slice e0 e1 e2) ∧ w'.cell? ⟨w.heap.size, 1, none⟩ = some (.slice e3 e4 e5)) := fun w' h => ⟨(box2 (box_below h kx)).1, (box2 (box_below h kx)).2.1, (box2 (box_below h kA)).1, (box2 (box_below h kA)).2.1⟩
  have DR : Below w5.heap.size w5 w5.drew := (Below.refl _ _).drew
  obtain ⟨fA0, fA1, -, -, lA⟩ := box2 kA
  obtain ⟨fx0, fx1, -, -, lx⟩ := box2 kx
  go_wp2
  go_region_held3 (fun w' => w'.cell? ⟨w4.heap.size, 0, none⟩ = some (.slice x2 n2 y2) ∧ w'.cell? ⟨w4.heap.size, 1, none⟩ = some (.slice z2 m2 t2) ∧ w'.cell? ⟨w.heap.size, 0, none⟩ = some (.slice e0 e1 e2) ∧ w'.cell? ⟨w.heap.size, 1, none⟩ = some (.slice e3 e4 e5))
    (first | go_keep | exact HS.out _ (Below.step (Below.step DR B) B') | exact HS.out _ (Below.step DR B))
    ((first | (go_at_call 16; refine (toLog_r _ a b _ (HV.out _ (Below.step X DR)) (by omega) (by omega)).mono ?_; rintro e w6 ⟨u3, rfl, R3, B⟩) | (go_at_call 18; refine (eqLog_yes _ _ a b _ ((R2.below DR).below B).v R3.v).mono ?_; rintro e w7 ⟨rfl, B'⟩)))
  clear fA0 fA1 lA fx0 fx1 lx
  replace R2 := ((R2.below DR).below B).below B'
  replace kA := box_below B' (box_below B (box_below DR kA))
  replace kx := box_below B' (box_below B (box_below DR kx))
  replace X := Below.step (Below.step (Below.step X DR) B) B'
  have s7 : w5.heap.size ≤ w7.heap.size := Nat.le_trans B.size B'.size
  clear HS DR B B' R3
  clear R2 kA kx
  go_wp2
  go_ret
  exact ⟨rfl, X⟩

end Go.Proofs.Ytiafkmjndcfjlab
