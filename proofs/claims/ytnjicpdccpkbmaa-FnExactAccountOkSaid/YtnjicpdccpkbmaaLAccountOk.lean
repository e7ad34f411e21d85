/- The law FnExactAccountOk, walked out of the contracts. -/
import Derived.Test.YtnjicpdccpkbmaaExAcc
import Derived.Test.YtnjicpdccpkbmaaExSz2
import Derived.Test.YtnjicpdccpkbmaaExEq2
import Derived.Test.YtnjicpdccpkbmaaS3acc
import Derived.Test.YtnjicpdccpkbmaaI3acc
import Derived.Deep.RegionHeld3
namespace Go.Proofs.Ytnjicpdccpkbmaa
open Go.RowKit

theorem box3l {w : World} {g : Nat} {t : TypeId} {c0 c1 c2 : Value} (h : w.heap[g]? = some (.cells #[c0, c1, c2] t (0, 0))) : w.cell? ⟨g, 0, none⟩ = some c0 ∧ w.cell? ⟨g, 1, none⟩ = some c1 ∧ w.cell? ⟨g, 2, none⟩ = some c2 ∧ g < w.heap.size := by
  obtain ⟨f0, f1, f2⟩ := bx3 h
  exact ⟨f0, f1, f2, lt_of_heap h⟩

set_option maxRecDepth 100000 in
set_option maxHeartbeats 2000000 in
theorem exactAccountOk_walk (v : Value) (x : AccD) (w : World) (hv : AccV w v x) :
    Calls Try.prog 4 #[v] w fun e w' => e = .returned (.bool true) ∧ Below w.heap.size w w' := by
  have HV : Hid (∀ wi, Below w.heap.size w wi → AccV wi v x) := fun wi h => hv.below h
  obtain ⟨v0, v1, rfl, g0, g1, -⟩ := hv
  obtain ⟨e0, e2, rfl, -⟩ := g0.form
  obtain ⟨e3, e5, rfl, -⟩ := g1.form
  have He1 : Hid (∃ e1, e1 = x.boxes.length) := ⟨_, rfl⟩
  clear g0 g1
  go_enter Try.func4, Try.ntmps4
  have ab : ∀ o, Below w.heap.size w (w.alloc o) := fun o => (Below.refl _ _).alloc (Nat.le_refl _) o
  go_wp2_with fail
  refine (szAccount_any _ x 1048576 _ (HV.out _ (ab _)) (by omega) (by omega)).mono ?_
  rintro e w1 ⟨y, rfl, hx, B⟩
  have kA := box_below B (box_new w (.cells #[.int .i64 x.valid, .slice e0 x.boxes.length e2, .slice e3 x.seen.length e5] 34))
  have X := Below.step (Below.step (Below.refl _ _) (ab _)) B
  have s1 : w.heap.size + 1 ≤ w1.heap.size := by have := B.size; simp at this; omega
  clear B ab
  rcases hx with rfl | ⟨hx0, hx1⟩
  · clear kA
    go_wp2
    go_ret
    exact ⟨rfl, X⟩
  have ha : szXs x.boxes ≤ 1048576 := by omega
  have hb : x.seen.length ≤ 1048576 := by omega
  clear hx1
  obtain ⟨fA0, fA1, fA2, lA⟩ := box3l kA
  go_wp2_with fail
  refine (toAccount_o _ x _ (HV.out _ X) (by omega) (by omega)).mono ?_
  rintro e w2 ⟨u1, rfl, R1, B⟩
  clear fA0 fA1 fA2 lA
  replace kA := box_below B kA
  replace X := Below.step X B
  have s2 : w1.heap.size ≤ w2.heap.size := B.size
  clear B
  obtain ⟨fA0, fA1, fA2, lA⟩ := box3l kA
  go_wp2_with fail
  refine (specAccountOk_any _ x _ R1.v).mono ?_
  rintro e w3 ⟨rfl, B⟩
  clear fA0 fA1 fA2 lA
  replace R1 := R1.below B
  replace kA := box_below B kA
  replace X := Below.step X B
  have s3 : w2.heap.size ≤ w3.heap.size := B.size
  clear B
  clear R1
  obtain ⟨fA0, fA1, fA2, lA⟩ := box3l kA
  go_wp2_with fail
  refine (toAccount_o _ x _ (HV.out _ X) (by omega) (by omega)).mono ?_
  rintro e w4 ⟨u2, rfl, R2, B⟩
  clear fA0 fA1 fA2 lA
  replace kA := box_below B kA
  replace X := Below.step X B
  have s4 : w3.heap.size ≤ w4.heap.size := B.size
  clear B
  obtain ⟨p2, q2, rfl, h2p, h2q, -⟩ := R2.v
  obtain ⟨x2, y2, rfl, -⟩ := h2p.form
  obtain ⟨z2, t2, rfl, -⟩ := h2q.form
  clear h2p h2q
  have ab : ∀ o, Below w4.heap.size w4 (w4.alloc o) := fun o => (Below.refl _ _).alloc (Nat.le_refl _) o
  obtain ⟨fA0, fA1, fA2, lA⟩ := box3l kA
  go_wp2_with fail
  refine (implAccountOk_any _ x _ (R2.below (ab _)).v).mono ?_
  rintro e w5 ⟨rfl, B⟩
  clear fA0 fA1 fA2 lA
  replace R2 := (R2.below (ab _)).below B
  replace kA := box_below B (box_alloc kA _)
  have kx := box_below B (box_new w4 (.cells #[.int .i64 x.valid, .slice x2 x.boxes.length y2, .slice z2 x.seen.length t2] 39))
  replace X := Below.step (Below.step X (ab _)) B
  have s5 : w4.heap.size + 1 ≤ w5.heap.size := by have := B.size; simp at this; omega
  clear B ab
  have HS : Hid (∀ w', Below w5.heap.size w5 w' → w'.cell? ⟨w4.heap.size, 0, none⟩ = some (.int .i64 x.valid) ∧ w'.cell? ⟨w4.heap.size, 1, none⟩ = some (.slice x2 x.boxes.length y2) ∧ w'.cell? ⟨w4.heap.size, 2, none⟩ = some (.slice z2 x.seen.length t2) ∧ w'.cell? ⟨w.heap.size, 0, none⟩ = some (.int .i64 x.valid) ∧ w'.cell? ⟨w.heap.size, 1, none⟩ = some (.slice e0 x.boxes.length e2) ∧ w'.cell? ⟨w.heap.size, 2, none⟩ = some (.slice e3 x.seen.length e5)) := fun w' h => ⟨(box3l (box_below h kx)).1, (box3l (box_below h kx)).2.1, (box3l (box_below h kx)).2.2.1, (box3l (box_below h kA)).1, (box3l (box_below h kA)).2.1, (box3l (box_below h kA)).2.2.1⟩
  have DR : Below w5.heap.size w5 w5.drew := (Below.refl _ _).drew
  obtain ⟨fA0, fA1, fA2, lA⟩ := box3l kA
  obtain ⟨fx0, fx1, fx2, lx⟩ := box3l kx
  go_wp2
  go_region_held3 (fun w' => w'.cell? ⟨w4.heap.size, 0, none⟩ = some (.int .i64 x.valid) ∧ w'.cell? ⟨w4.heap.size, 1, none⟩ = some (.slice x2 x.boxes.length y2) ∧ w'.cell? ⟨w4.heap.size, 2, none⟩ = some (.slice z2 x.seen.length t2) ∧ w'.cell? ⟨w.heap.size, 0, none⟩ = some (.int .i64 x.valid) ∧ w'.cell? ⟨w.heap.size, 1, none⟩ = some (.slice e0 x.boxes.length e2) ∧ w'.cell? ⟨w.heap.size, 2, none⟩ = some (.slice e3 x.seen.length e5))
    (first | go_keep | exact HS.out _ (Below.step (Below.step DR B) B') | exact HS.out _ (Below.step DR B))
    ((first | (go_at_call 13; refine (toAccount_o _ x _ (HV.out _ (Below.step X DR)) (by omega) (by omega)).mono ?_; rintro e w6 ⟨u3, rfl, R3, B⟩) | (go_at_call 15; refine (eqAccount_yes _ _ x _ ((R2.below DR).below B).v R3.v).mono ?_; rintro e w7 ⟨rfl, B'⟩)))
  clear fA0 fA1 fA2 lA fx0 fx1 fx2 lx
  replace R2 := ((R2.below DR).below B).below B'
  replace kA := box_below B' (box_below B (box_below DR kA))
  replace kx := box_below B' (box_below B (box_below DR kx))
  replace X := Below.step (Below.step (Below.step X DR) B) B'
  have s7 : w5.heap.size ≤ w7.heap.size := Nat.le_trans B.size B'.size
  clear HS DR B B' R3
  clear R2 kA kx
  go_wp2
  go_ret
  exact ⟨rfl, X⟩

end Go.Proofs.Ytnjicpdccpkbmaa
