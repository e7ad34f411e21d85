/- The proof's texts, part 15. -/
import Derived.Test.YtdokgpdfdenoaaaGreatPart14
import Derived.Test.YtdokgpdfdenoaaaGreatPart5
import Derived.Test.YtdokgpdfdenoaaaGreatPart3
import Derived.Test.YtdokgpdfdenoaaaGreatPart6
import Derived.Test.YtdokgpdfdenoaaaGreatPart1
import Derived.Test.YtdokgpdfdenoaaaGreatPart4
import Derived.Shelf.Abstract
import Derived.Lib.BytesEntry
import Derived.Lib.Bytealg
import Derived.Deep.RegionHeld3

/- What apply of the book does. -/
namespace Go.Proofs.YtdokgpdfdenoaaaGreat
open Go.RowKit
set_option maxRecDepth 100000
set_option linter.unusedVariables false
set_option linter.unusedSimpArgs false

theorem At.grow {wr wc wc' : World} {f : Nat → Prop} {g : Nat} {t : TypeId} {cur : Array Value} {o : Nat} {cs : List Value} (h : At wr f g t cur o cs wc) (hb : Below wc.heap.size wc wc') : At wr f g t cur o cs wc' := by
  obtain ⟨cur', h1, h2, h3, h4⟩ := h.blk
  exact ⟨⟨cur', (hb.block g (lt_of_heap h1)).trans h1, h2, h3, h4⟩, h.wrote.trans (Wr.of_below hb)⟩
theorem rowAfter_k6 (x : RowD) (n : Int) (w : World) (hx : RowOk x) :
    Calls Tryz.prog 44 #[.agg #[.int .i64 x.epoch, .int .i64 x.owner, .bool x.moving, .int .i64 x.tr, .int .i64 x.target], .iface 107 (.agg #[.int .i64 n])] w fun e w' => e = .returned (.agg #[.int .i64 (rowStep x 6 n).epoch, .int .i64 (rowStep x 6 n).owner, .bool (rowStep x 6 n).moving, .int .i64 (rowStep x 6 n).tr, .int .i64 (rowStep x 6 n).target]) ∧ Below w.heap.size w w' := by
  cases hm : movesB x n with
  | false =>
    have e : rowStep x 6 n = x := by
      simp only [movesB, Bool.and_eq_false_iff, Bool.not_eq_false', bne_eq_false_iff_eq, decide_eq_false_iff_not] at hm
      unfold rowStep
      rw [if_pos rfl, if_neg]
      rintro ⟨q0, q1, q2, q3⟩
      rcases hm with h | h | h | h
      · rw [q0] at h; cases h
      · exact q1 h
      · exact h q2
      · exact h q3
    rw [e]
    exact rowAfter_6n x n hm w
  | true =>
    simp only [movesB, Bool.and_eq_true, Bool.not_eq_true', bne_iff_ne, ne_eq, decide_eq_true_eq] at hm
    have e : rowStep x 6 n = ⟨x.epoch, x.owner, true, (if x.tr > x.epoch then x.tr else x.epoch) + 1, n⟩ := by
      unfold rowStep
      rw [if_pos rfl, if_pos ⟨hm.1, hm.2.1, hm.2.2.1, hm.2.2.2⟩]
    rw [e]
    obtain ⟨o1, o2, o3, o4, o5, o6, o7, o8⟩ := hx
    have e2 : (if x.tr < x.epoch then x.epoch else x.tr) = (if x.tr > x.epoch then x.tr else x.epoch) := by split <;> split <;> omega
    exact rowAfter_6y x n (by simp [Hid, movesB, hm]) _ e2 (by split <;> omega) (by split <;> omega) w
theorem rowAfter_k7 (x : RowD) (n : Int) (w : World) (hx : RowOk x) :
    Calls Tryz.prog 44 #[.agg #[.int .i64 x.epoch, .int .i64 x.owner, .bool x.moving, .int .i64 x.tr, .int .i64 x.target], .iface 109 (.agg #[])] w fun e w' => e = .returned (.agg #[.int .i64 (rowStep x 7 n).epoch, .int .i64 (rowStep x 7 n).owner, .bool (rowStep x 7 n).moving, .int .i64 (rowStep x 7 n).tr, .int .i64 (rowStep x 7 n).target]) ∧ Below w.heap.size w w' := by
  cases hm : x.moving with
  | false =>
    have e : rowStep x 7 n = x := by simp [rowStep, hm]
    rw [e, ← hm]
    exact rowAfter_7n x hm w
  | true =>
    have e : rowStep x 7 n = ⟨x.tr, x.target, false, x.tr, x.target⟩ := by simp [rowStep, hm]
    rw [e, ← hm]
    exact rowAfter_7y x hm w
theorem rowAfter_k8 (x : RowD) (n : Int) (w : World) (hx : RowOk x) :
    Calls Tryz.prog 44 #[.agg #[.int .i64 x.epoch, .int .i64 x.owner, .bool x.moving, .int .i64 x.tr, .int .i64 x.target], .iface 110 (.agg #[])] w fun e w' => e = .returned (.agg #[.int .i64 (rowStep x 8 n).epoch, .int .i64 (rowStep x 8 n).owner, .bool (rowStep x 8 n).moving, .int .i64 (rowStep x 8 n).tr, .int .i64 (rowStep x 8 n).target]) ∧ Below w.heap.size w w' := by
  have e : rowStep x 8 n = ⟨x.epoch, x.owner, false, x.tr, x.target⟩ := by simp [rowStep]
  rw [e]
  cases hm : x.moving with
  | false =>
    have h := rowAfter_8n x hm w
    rw [hm] at h
    exact h
  | true =>
    rw [← hm]
    exact rowAfter_8y x hm w
theorem tabS_apply : (Tryz.f22.body.bind (opsAt 2)).all (fun o => tableS o 9 [0, 1, 2, 3, 4, 5, 6, 7, 8] [5, 6, 8] [7, 9] 0) = true := by kernel_rfl
set_option maxRecDepth 100000 in
set_option maxHeartbeats 4000000 in
theorem apply_6 (gb g cap N j : Nat) (cur : Array Value) (f : Nat → Prop) (x : RowD) (n ck uid mode fl si valid : Int) (a0 a1 a2 a3 a4 : Option Addr) (n0 n1 n2 n3 n4 c0 c1 c2 c3 c4 : Nat) (w wb : World) (hwb : wb = (w.alloc (.cells #[.int .i64 6, .int .i64 (j : Int), .int .i64 n, .int .i64 ck, .slice a0 n0 c0, .slice a1 n1 c1, .int .i64 uid, .int .i64 mode, .int .i64 fl, .int .i64 si, .slice a2 n2 c2, .int .i64 valid, .slice a3 n3 c3, .slice a4 n4 c4] 53)))
    (hb : Hid (wb.heap[gb]? = some (.cells #[.slice (some ⟨g, 0, none⟩) N cap] 26))) (A0 : Hid (At wb f g 70 cur (j * 5) [.int .i64 x.epoch, .int .i64 x.owner, .bool x.moving, .int .i64 x.tr, .int .i64 x.target] wb)) (hj : j < N) (hN : N ≤ 1000) (hroom : j * 5 + 5 ≤ cur.size) (hr : Hid (RowOk x)) (hne : g ≠ w.heap.size) (hlt : j * 5 + 5 ≤ 100000) :
    Calls Tryz.prog 22 #[.pointer (some ⟨gb, 0, none⟩), .agg #[.int .i64 6, .int .i64 (j : Int), .int .i64 n, .int .i64 ck, .slice a0 n0 c0, .slice a1 n1 c1, .int .i64 uid, .int .i64 mode, .int .i64 fl, .int .i64 si, .slice a2 n2 c2, .int .i64 valid, .slice a3 n3 c3, .slice a4 n4 c4]] w fun e w' => (∃ z, e = .returned z) ∧ At wb f g 70 cur (j * 5) [.int .i64 (rowStep x 6 n).epoch, .int .i64 (rowStep x 6 n).owner, .bool (rowStep x 6 n).moving, .int .i64 (rowStep x 6 n).tr, .int .i64 (rowStep x 6 n).target] w' := by
  have kq : Hid (wb.heap[w.heap.size]? = some (.cells #[.int .i64 6, .int .i64 (j : Int), .int .i64 n, .int .i64 ck, .slice a0 n0 c0, .slice a1 n1 c1, .int .i64 uid, .int .i64 mode, .int .i64 fl, .int .i64 si, .slice a2 n2 c2, .int .i64 valid, .slice a3 n3 c3, .slice a4 n4 c4] 53)) := by rw [hwb]; exact box_new w _
  have q1 : wb.cell? ⟨w.heap.size, 1, none⟩ = some (.int .i64 (j : Int)) := (bx14 kq.out).2.1
  have hbl : wb.cell? ⟨gb, 0, none⟩ = some (.slice (some ⟨g, 0, none⟩) N cap) := by rw [cell_of_row _ _ _ _ _ (0, 0) hb.out]; rfl
  have hjI : (j : Int) < (N : Int) := by omega
  have l1 := lt_of_heap kq.out
  have l2 := lt_of_heap hb.out
  have l3 := A0.out.lt
  go_enter Tryz.func22, Tryz.ntmps22
  go_wp2
  rw [← hwb]
  clear hwb
  go_quiet (fail)
  have A := (show Hid _ from A0.out.quiet nq)
  have kq1 : Hid ((wb.drewN nq).heap[w.heap.size]? = some (.cells #[.int .i64 6, .int .i64 (j : Int), .int .i64 n, .int .i64 ck, .slice a0 n0 c0, .slice a1 n1 c1, .int .i64 uid, .int .i64 mode, .int .i64 fl, .int .i64 si, .slice a2 n2 c2, .int .i64 valid, .slice a3 n3 c3, .slice a4 n4 c4] 53)) := kq.out
  generalize wb.drewN nq = wc at A kq1 ⊢
  clear q1 hbl l1 l2 l3 kq
  have l1 := lt_of_heap kq1.out
  have l3 := A.out.lt
  have HS : Hid (∀ w', Below wc.heap.size wc w' → w'.cell? ⟨g, j * 5, none⟩ = some (.int .i64 x.epoch) ∧ w'.cell? ⟨g, j * 5 + 1, none⟩ = some (.int .i64 x.owner) ∧ w'.cell? ⟨g, j * 5 + 2, none⟩ = some (.bool x.moving) ∧ w'.cell? ⟨g, j * 5 + 3, none⟩ = some (.int .i64 x.tr) ∧ w'.cell? ⟨g, j * 5 + 4, none⟩ = some (.int .i64 x.target) ∧ w'.cell? ⟨w.heap.size, 0, none⟩ = some (.int .i64 6) ∧ w'.cell? ⟨w.heap.size, 1, none⟩ = some (.int .i64 (j : Int)) ∧ w'.cell? ⟨w.heap.size, 2, none⟩ = some (.int .i64 n) ∧ w'.cell? ⟨w.heap.size, 3, none⟩ = some (.int .i64 ck) ∧ w'.cell? ⟨w.heap.size, 4, none⟩ = some (.slice a0 n0 c0) ∧ w'.cell? ⟨w.heap.size, 5, none⟩ = some (.slice a1 n1 c1) ∧ w'.cell? ⟨w.heap.size, 6, none⟩ = some (.int .i64 uid) ∧ w'.cell? ⟨w.heap.size, 7, none⟩ = some (.int .i64 mode) ∧ w'.cell? ⟨w.heap.size, 8, none⟩ = some (.int .i64 fl) ∧ w'.cell? ⟨w.heap.size, 9, none⟩ = some (.int .i64 si) ∧ w'.cell? ⟨w.heap.size, 10, none⟩ = some (.slice a2 n2 c2) ∧ w'.cell? ⟨w.heap.size, 11, none⟩ = some (.int .i64 valid) ∧ w'.cell? ⟨w.heap.size, 12, none⟩ = some (.slice a3 n3 c3) ∧ w'.cell? ⟨w.heap.size, 13, none⟩ = some (.slice a4 n4 c4)) := fun w' h => by
    obtain ⟨f0, f1, f2, f3, f4, f5, f6, f7, f8, f9, f10, f11, f12, f13⟩ := bx14 (box_below h kq1.out)
    have A' := A.out.grow h
    exact ⟨A'.cell 0 _ rfl, A'.cell 1 _ rfl, A'.cell 2 _ rfl, A'.cell 3 _ rfl, A'.cell 4 _ rfl, f0, f1, f2, f3, f4, f5, f6, f7, f8, f9, f10, f11, f12, f13⟩
  have DR : Below wc.heap.size wc wc.drew := (Below.refl _ _).drew
  go_wp2
  refine wpS_begin 7 (S := fun w' => w'.cell? ⟨g, j * 5, none⟩ = some (.int .i64 x.epoch) ∧ w'.cell? ⟨g, j * 5 + 1, none⟩ = some (.int .i64 x.owner) ∧ w'.cell? ⟨g, j * 5 + 2, none⟩ = some (.bool x.moving) ∧ w'.cell? ⟨g, j * 5 + 3, none⟩ = some (.int .i64 x.tr) ∧ w'.cell? ⟨g, j * 5 + 4, none⟩ = some (.int .i64 x.target) ∧ w'.cell? ⟨w.heap.size, 0, none⟩ = some (.int .i64 6) ∧ w'.cell? ⟨w.heap.size, 1, none⟩ = some (.int .i64 (j : Int)) ∧ w'.cell? ⟨w.heap.size, 2, none⟩ = some (.int .i64 n) ∧ w'.cell? ⟨w.heap.size, 3, none⟩ = some (.int .i64 ck) ∧ w'.cell? ⟨w.heap.size, 4, none⟩ = some (.slice a0 n0 c0) ∧ w'.cell? ⟨w.heap.size, 5, none⟩ = some (.slice a1 n1 c1) ∧ w'.cell? ⟨w.heap.size, 6, none⟩ = some (.int .i64 uid) ∧ w'.cell? ⟨w.heap.size, 7, none⟩ = some (.int .i64 mode) ∧ w'.cell? ⟨w.heap.size, 8, none⟩ = some (.int .i64 fl) ∧ w'.cell? ⟨w.heap.size, 9, none⟩ = some (.int .i64 si) ∧ w'.cell? ⟨w.heap.size, 10, none⟩ = some (.slice a2 n2 c2) ∧ w'.cell? ⟨w.heap.size, 11, none⟩ = some (.int .i64 valid) ∧ w'.cell? ⟨w.heap.size, 12, none⟩ = some (.slice a3 n3 c3) ∧ w'.cell? ⟨w.heap.size, 13, none⟩ = some (.slice a4 n4 c4)) (tabS_of (by kernel_rfl) tabS_apply) (by kernel_rfl) (HS.out _ DR) (fun hTb hHeld => ?_)
  refine tks 0 0 12 hTb hHeld ?_
  refine tks 1 1 13 hTb hHeld ?_
  refine tks 2 2 14 hTb hHeld ?_
  refine tks 3 3 15 hTb hHeld ?_
  refine tks 4 4 16 hTb hHeld ?_
  refine cls 5 5 hTb (by decide) rfl rfl (fun K hK => ?_)
  go_simp
  refine (rowActOf_6 (j : Int) n ck uid mode fl si valid a0 a1 a2 a3 a4 n0 n1 n2 n3 n4 c0 c1 c2 c3 c4 _).mono ?_
  rintro e w1 ⟨rfl, B1⟩
  refine hK.out _ _ (HS.out _ (Below.step DR B1)) (fun hHeld => ?_)
  clear hK K
  refine cls 6 6 hTb (by decide) rfl rfl (fun K hK => ?_)
  go_simp
  refine (rowAfter_k6 x n _ hr.out).mono ?_
  rintro e w2 ⟨rfl, B2⟩
  generalize hy : rowStep x 6 n = y
  have HA2 : Hid (At wb f g 70 cur (j * 5) [.int .i64 x.epoch, .int .i64 x.owner, .bool x.moving, .int .i64 x.tr, .int .i64 x.target] w2) := A.out.grow (Below.step (Below.step DR B1) B2)
  have e0 := HA2.out.cell 0 _ rfl
  have e1 := HA2.out.cell 1 _ rfl
  have e2 := HA2.out.cell 2 _ rfl
  have e3 := HA2.out.cell 3 _ rfl
  have e4 := HA2.out.cell 4 _ rfl
  simp only [Nat.add_zero] at e0
  have fz := HA2.out.frozen
  have lz := HA2.out.lt
  refine hK.out _ _ (HS.out _ (Below.step (Below.step DR B1) B2)) (fun hHeld => ?_)
  clear hK K
  refine wpS_next (S' := fun w' => True) 7 9 hTb (by decide) (trivial) (fun hHeld => ?_)
  refine tks 7 7 19 hTb hHeld ?_
  refine cls 8 8 hTb (by decide) rfl rfl (fun K hK => ?_)
  go_simp
  refine hK.out _ _ (trivial) (fun hHeld => ?_)
  clear hK K
  refine wpS_end hTb ?_
  have B := (show Hid _ from (((((HA2.out.set 0 (.int .i64 y.epoch) (by simp) (by simp; omega)).set 1 (.int .i64 y.owner) (by simp) (by simp; omega)).set 2 (.bool y.moving) (by simp) (by simp; omega)).set 3 (.int .i64 y.tr) (by simp) (by simp; omega)).set 4 (.int .i64 y.target) (by simp) (by simp; omega)))
  rw [← hy] at *
  go_wp2
  go_end0
  exact ⟨⟨_, rfl⟩, B.out⟩
set_option maxRecDepth 100000 in
set_option maxHeartbeats 4000000 in
theorem apply_7 (gb g cap N j : Nat) (cur : Array Value) (f : Nat → Prop) (x : RowD) (n ck uid mode fl si valid : Int) (a0 a1 a2 a3 a4 : Option Addr) (n0 n1 n2 n3 n4 c0 c1 c2 c3 c4 : Nat) (w wb : World) (hwb : wb = (w.alloc (.cells #[.int .i64 7, .int .i64 (j : Int), .int .i64 n, .int .i64 ck, .slice a0 n0 c0, .slice a1 n1 c1, .int .i64 uid, .int .i64 mode, .int .i64 fl, .int .i64 si, .slice a2 n2 c2, .int .i64 valid, .slice a3 n3 c3, .slice a4 n4 c4] 53)))
    (hb : Hid (wb.heap[gb]? = some (.cells #[.slice (some ⟨g, 0, none⟩) N cap] 26))) (A0 : Hid (At wb f g 70 cur (j * 5) [.int .i64 x.epoch, .int .i64 x.owner, .bool x.moving, .int .i64 x.tr, .int .i64 x.target] wb)) (hj : j < N) (hN : N ≤ 1000) (hroom : j * 5 + 5 ≤ cur.size) (hr : Hid (RowOk x)) (hne : g ≠ w.heap.size) (hlt : j * 5 + 5 ≤ 100000) :
    Calls Tryz.prog 22 #[.pointer (some ⟨gb, 0, none⟩), .agg #[.int .i64 7, .int .i64 (j : Int), .int .i64 n, .int .i64 ck, .slice a0 n0 c0, .slice a1 n1 c1, .int .i64 uid, .int .i64 mode, .int .i64 fl, .int .i64 si, .slice a2 n2 c2, .int .i64 valid, .slice a3 n3 c3, .slice a4 n4 c4]] w fun e w' => (∃ z, e = .returned z) ∧ At wb f g 70 cur (j * 5) [.int .i64 (rowStep x 7 n).epoch, .int .i64 (rowStep x 7 n).owner, .bool (rowStep x 7 n).moving, .int .i64 (rowStep x 7 n).tr, .int .i64 (rowStep x 7 n).target] w' := by
  have kq : Hid (wb.heap[w.heap.size]? = some (.cells #[.int .i64 7, .int .i64 (j : Int), .int .i64 n, .int .i64 ck, .slice a0 n0 c0, .slice a1 n1 c1, .int .i64 uid, .int .i64 mode, .int .i64 fl, .int .i64 si, .slice a2 n2 c2, .int .i64 valid, .slice a3 n3 c3, .slice a4 n4 c4] 53)) := by rw [hwb]; exact box_new w _
  have q1 : wb.cell? ⟨w.heap.size, 1, none⟩ = some (.int .i64 (j : Int)) := (bx14 kq.out).2.1
  have hbl : wb.cell? ⟨gb, 0, none⟩ = some (.slice (some ⟨g, 0, none⟩) N cap) := by rw [cell_of_row _ _ _ _ _ (0, 0) hb.out]; rfl
  have hjI : (j : Int) < (N : Int) := by omega
  have l1 := lt_of_heap kq.out
  have l2 := lt_of_heap hb.out
  have l3 := A0.out.lt
  go_enter Tryz.func22, Tryz.ntmps22
  go_wp2
  rw [← hwb]
  clear hwb
  go_quiet (fail)
  have A := (show Hid _ from A0.out.quiet nq)
  have kq1 : Hid ((wb.drewN nq).heap[w.heap.size]? = some (.cells #[.int .i64 7, .int .i64 (j : Int), .int .i64 n, .int .i64 ck, .slice a0 n0 c0, .slice a1 n1 c1, .int .i64 uid, .int .i64 mode, .int .i64 fl, .int .i64 si, .slice a2 n2 c2, .int .i64 valid, .slice a3 n3 c3, .slice a4 n4 c4] 53)) := kq.out
  generalize wb.drewN nq = wc at A kq1 ⊢
  clear q1 hbl l1 l2 l3 kq
  have l1 := lt_of_heap kq1.out
  have l3 := A.out.lt
  have HS : Hid (∀ w', Below wc.heap.size wc w' → w'.cell? ⟨g, j * 5, none⟩ = some (.int .i64 x.epoch) ∧ w'.cell? ⟨g, j * 5 + 1, none⟩ = some (.int .i64 x.owner) ∧ w'.cell? ⟨g, j * 5 + 2, none⟩ = some (.bool x.moving) ∧ w'.cell? ⟨g, j * 5 + 3, none⟩ = some (.int .i64 x.tr) ∧ w'.cell? ⟨g, j * 5 + 4, none⟩ = some (.int .i64 x.target) ∧ w'.cell? ⟨w.heap.size, 0, none⟩ = some (.int .i64 7) ∧ w'.cell? ⟨w.heap.size, 1, none⟩ = some (.int .i64 (j : Int)) ∧ w'.cell? ⟨w.heap.size, 2, none⟩ = some (.int .i64 n) ∧ w'.cell? ⟨w.heap.size, 3, none⟩ = some (.int .i64 ck) ∧ w'.cell? ⟨w.heap.size, 4, none⟩ = some (.slice a0 n0 c0) ∧ w'.cell? ⟨w.heap.size, 5, none⟩ = some (.slice a1 n1 c1) ∧ w'.cell? ⟨w.heap.size, 6, none⟩ = some (.int .i64 uid) ∧ w'.cell? ⟨w.heap.size, 7, none⟩ = some (.int .i64 mode) ∧ w'.cell? ⟨w.heap.size, 8, none⟩ = some (.int .i64 fl) ∧ w'.cell? ⟨w.heap.size, 9, none⟩ = some (.int .i64 si) ∧ w'.cell? ⟨w.heap.size, 10, none⟩ = some (.slice a2 n2 c2) ∧ w'.cell? ⟨w.heap.size, 11, none⟩ = some (.int .i64 valid) ∧ w'.cell? ⟨w.heap.size, 12, none⟩ = some (.slice a3 n3 c3) ∧ w'.cell? ⟨w.heap.size, 13, none⟩ = some (.slice a4 n4 c4)) := fun w' h => by
    obtain ⟨f0, f1, f2, f3, f4, f5, f6, f7, f8, f9, f10, f11, f12, f13⟩ := bx14 (box_below h kq1.out)
    have A' := A.out.grow h
    exact ⟨A'.cell 0 _ rfl, A'.cell 1 _ rfl, A'.cell 2 _ rfl, A'.cell 3 _ rfl, A'.cell 4 _ rfl, f0, f1, f2, f3, f4, f5, f6, f7, f8, f9, f10, f11, f12, f13⟩
  have DR : Below wc.heap.size wc wc.drew := (Below.refl _ _).drew
  go_wp2
  refine wpS_begin 7 (S := fun w' => w'.cell? ⟨g, j * 5, none⟩ = some (.int .i64 x.epoch) ∧ w'.cell? ⟨g, j * 5 + 1, none⟩ = some (.int .i64 x.owner) ∧ w'.cell? ⟨g, j * 5 + 2, none⟩ = some (.bool x.moving) ∧ w'.cell? ⟨g, j * 5 + 3, none⟩ = some (.int .i64 x.tr) ∧ w'.cell? ⟨g, j * 5 + 4, none⟩ = some (.int .i64 x.target) ∧ w'.cell? ⟨w.heap.size, 0, none⟩ = some (.int .i64 7) ∧ w'.cell? ⟨w.heap.size, 1, none⟩ = some (.int .i64 (j : Int)) ∧ w'.cell? ⟨w.heap.size, 2, none⟩ = some (.int .i64 n) ∧ w'.cell? ⟨w.heap.size, 3, none⟩ = some (.int .i64 ck) ∧ w'.cell? ⟨w.heap.size, 4, none⟩ = some (.slice a0 n0 c0) ∧ w'.cell? ⟨w.heap.size, 5, none⟩ = some (.slice a1 n1 c1) ∧ w'.cell? ⟨w.heap.size, 6, none⟩ = some (.int .i64 uid) ∧ w'.cell? ⟨w.heap.size, 7, none⟩ = some (.int .i64 mode) ∧ w'.cell? ⟨w.heap.size, 8, none⟩ = some (.int .i64 fl) ∧ w'.cell? ⟨w.heap.size, 9, none⟩ = some (.int .i64 si) ∧ w'.cell? ⟨w.heap.size, 10, none⟩ = some (.slice a2 n2 c2) ∧ w'.cell? ⟨w.heap.size, 11, none⟩ = some (.int .i64 valid) ∧ w'.cell? ⟨w.heap.size, 12, none⟩ = some (.slice a3 n3 c3) ∧ w'.cell? ⟨w.heap.size, 13, none⟩ = some (.slice a4 n4 c4)) (tabS_of (by kernel_rfl) tabS_apply) (by kernel_rfl) (HS.out _ DR) (fun hTb hHeld => ?_)
  refine tks 0 0 12 hTb hHeld ?_
  refine tks 1 1 13 hTb hHeld ?_
  refine tks 2 2 14 hTb hHeld ?_
  refine tks 3 3 15 hTb hHeld ?_
  refine tks 4 4 16 hTb hHeld ?_
  refine cls 5 5 hTb (by decide) rfl rfl (fun K hK => ?_)
  go_simp
  refine (rowActOf_7 (j : Int) n ck uid mode fl si valid a0 a1 a2 a3 a4 n0 n1 n2 n3 n4 c0 c1 c2 c3 c4 _).mono ?_
  rintro e w1 ⟨rfl, B1⟩
  refine hK.out _ _ (HS.out _ (Below.step DR B1)) (fun hHeld => ?_)
  clear hK K
  refine cls 6 6 hTb (by decide) rfl rfl (fun K hK => ?_)
  go_simp
  refine (rowAfter_k7 x n _ hr.out).mono ?_
  rintro e w2 ⟨rfl, B2⟩
  generalize hy : rowStep x 7 n = y
  have HA2 : Hid (At wb f g 70 cur (j * 5) [.int .i64 x.epoch, .int .i64 x.owner, .bool x.moving, .int .i64 x.tr, .int .i64 x.target] w2) := A.out.grow (Below.step (Below.step DR B1) B2)
  have e0 := HA2.out.cell 0 _ rfl
  have e1 := HA2.out.cell 1 _ rfl
  have e2 := HA2.out.cell 2 _ rfl
  have e3 := HA2.out.cell 3 _ rfl
  have e4 := HA2.out.cell 4 _ rfl
  simp only [Nat.add_zero] at e0
  have fz := HA2.out.frozen
  have lz := HA2.out.lt
  refine hK.out _ _ (HS.out _ (Below.step (Below.step DR B1) B2)) (fun hHeld => ?_)
  clear hK K
  refine wpS_next (S' := fun w' => True) 7 9 hTb (by decide) (trivial) (fun hHeld => ?_)
  refine tks 7 7 19 hTb hHeld ?_
  refine cls 8 8 hTb (by decide) rfl rfl (fun K hK => ?_)
  go_simp
  refine hK.out _ _ (trivial) (fun hHeld => ?_)
  clear hK K
  refine wpS_end hTb ?_
  have B := (show Hid _ from (((((HA2.out.set 0 (.int .i64 y.epoch) (by simp) (by simp; omega)).set 1 (.int .i64 y.owner) (by simp) (by simp; omega)).set 2 (.bool y.moving) (by simp) (by simp; omega)).set 3 (.int .i64 y.tr) (by simp) (by simp; omega)).set 4 (.int .i64 y.target) (by simp) (by simp; omega)))
  rw [← hy] at *
  go_wp2
  go_end0
  exact ⟨⟨_, rfl⟩, B.out⟩
set_option maxRecDepth 100000 in
set_option maxHeartbeats 4000000 in
theorem apply_8 (gb g cap N j : Nat) (cur : Array Value) (f : Nat → Prop) (x : RowD) (n ck uid mode fl si valid : Int) (a0 a1 a2 a3 a4 : Option Addr) (n0 n1 n2 n3 n4 c0 c1 c2 c3 c4 : Nat) (w wb : World) (hwb : wb = (w.alloc (.cells #[.int .i64 8, .int .i64 (j : Int), .int .i64 n, .int .i64 ck, .slice a0 n0 c0, .slice a1 n1 c1, .int .i64 uid, .int .i64 mode, .int .i64 fl, .int .i64 si, .slice a2 n2 c2, .int .i64 valid, .slice a3 n3 c3, .slice a4 n4 c4] 53)))
    (hb : Hid (wb.heap[gb]? = some (.cells #[.slice (some ⟨g, 0, none⟩) N cap] 26))) (A0 : Hid (At wb f g 70 cur (j * 5) [.int .i64 x.epoch, .int .i64 x.owner, .bool x.moving, .int .i64 x.tr, .int .i64 x.target] wb)) (hj : j < N) (hN : N ≤ 1000) (hroom : j * 5 + 5 ≤ cur.size) (hr : Hid (RowOk x)) (hne : g ≠ w.heap.size) (hlt : j * 5 + 5 ≤ 100000) :
    Calls Tryz.prog 22 #[.pointer (some ⟨gb, 0, none⟩), .agg #[.int .i64 8, .int .i64 (j : Int), .int .i64 n, .int .i64 ck, .slice a0 n0 c0, .slice a1 n1 c1, .int .i64 uid, .int .i64 mode, .int .i64 fl, .int .i64 si, .slice a2 n2 c2, .int .i64 valid, .slice a3 n3 c3, .slice a4 n4 c4]] w fun e w' => (∃ z, e = .returned z) ∧ At wb f g 70 cur (j * 5) [.int .i64 (rowStep x 8 n).epoch, .int .i64 (rowStep x 8 n).owner, .bool (rowStep x 8 n).moving, .int .i64 (rowStep x 8 n).tr, .int .i64 (rowStep x 8 n).target] w' := by
  have kq : Hid (wb.heap[w.heap.size]? = some (.cells #[.int .i64 8, .int .i64 (j : Int), .int .i64 n, .int .i64 ck, .slice a0 n0 c0, .slice a1 n1 c1, .int .i64 uid, .int .i64 mode, .int .i64 fl, .int .i64 si, .slice a2 n2 c2, .int .i64 valid, .slice a3 n3 c3, .slice a4 n4 c4] 53)) := by rw [hwb]; exact box_new w _
  have q1 : wb.cell? ⟨w.heap.size, 1, none⟩ = some (.int .i64 (j : Int)) := (bx14 kq.out).2.1
  have hbl : wb.cell? ⟨gb, 0, none⟩ = some (.slice (some ⟨g, 0, none⟩) N cap) := by rw [cell_of_row _ _ _ _ _ (0, 0) hb.out]; rfl
  have hjI : (j : Int) < (N : Int) := by omega
  have l1 := lt_of_heap kq.out
  have l2 := lt_of_heap hb.out
  have l3 := A0.out.lt
  go_enter Tryz.func22, Tryz.ntmps22
  go_wp2
  rw [← hwb]
  clear hwb
  go_quiet (fail)
  have A := (show Hid _ from A0.out.quiet nq)
  have kq1 : Hid ((wb.drewN nq).heap[w.heap.size]? = some (.cells #[.int .i64 8, .int .i64 (j : Int), .int .i64 n, .int .i64 ck, .slice a0 n0 c0, .slice a1 n1 c1, .int .i64 uid, .int .i64 mode, .int .i64 fl, .int .i64 si, .slice a2 n2 c2, .int .i64 valid, .slice a3 n3 c3, .slice a4 n4 c4] 53)) := kq.out
  generalize wb.drewN nq = wc at A kq1 ⊢
  clear q1 hbl l1 l2 l3 kq
  have l1 := lt_of_heap kq1.out
  have l3 := A.out.lt
  have HS : Hid (∀ w', Below wc.heap.size wc w' → w'.cell? ⟨g, j * 5, none⟩ = some (.int .i64 x.epoch) ∧ w'.cell? ⟨g, j * 5 + 1, none⟩ = some (.int .i64 x.owner) ∧ w'.cell? ⟨g, j * 5 + 2, none⟩ = some (.bool x.moving) ∧ w'.cell? ⟨g, j * 5 + 3, none⟩ = some (.int .i64 x.tr) ∧ w'.cell? ⟨g, j * 5 + 4, none⟩ = some (.int .i64 x.target) ∧ w'.cell? ⟨w.heap.size, 0, none⟩ = some (.int .i64 8) ∧ w'.cell? ⟨w.heap.size, 1, none⟩ = some (.int .i64 (j : Int)) ∧ w'.cell? ⟨w.heap.size, 2, none⟩ = some (.int .i64 n) ∧ w'.cell? ⟨w.heap.size, 3, none⟩ = some (.int .i64 ck) ∧ w'.cell? ⟨w.heap.size, 4, none⟩ = some (.slice a0 n0 c0) ∧ w'.cell? ⟨w.heap.size, 5, none⟩ = some (.slice a1 n1 c1) ∧ w'.cell? ⟨w.heap.size, 6, none⟩ = some (.int .i64 uid) ∧ w'.cell? ⟨w.heap.size, 7, none⟩ = some (.int .i64 mode) ∧ w'.cell? ⟨w.heap.size, 8, none⟩ = some (.int .i64 fl) ∧ w'.cell? ⟨w.heap.size, 9, none⟩ = some (.int .i64 si) ∧ w'.cell? ⟨w.heap.size, 10, none⟩ = some (.slice a2 n2 c2) ∧ w'.cell? ⟨w.heap.size, 11, none⟩ = some (.int .i64 valid) ∧ w'.cell? ⟨w.heap.size, 12, none⟩ = some (.slice a3 n3 c3) ∧ w'.cell? ⟨w.heap.size, 13, none⟩ = some (.slice a4 n4 c4)) := fun w' h => by
    obtain ⟨f0, f1, f2, f3, f4, f5, f6, f7, f8, f9, f10, f11, f12, f13⟩ := bx14 (box_below h kq1.out)
    have A' := A.out.grow h
    exact ⟨A'.cell 0 _ rfl, A'.cell 1 _ rfl, A'.cell 2 _ rfl, A'.cell 3 _ rfl, A'.cell 4 _ rfl, f0, f1, f2, f3, f4, f5, f6, f7, f8, f9, f10, f11, f12, f13⟩
  have DR : Below wc.heap.size wc wc.drew := (Below.refl _ _).drew
  go_wp2
  refine wpS_begin 7 (S := fun w' => w'.cell? ⟨g, j * 5, none⟩ = some (.int .i64 x.epoch) ∧ w'.cell? ⟨g, j * 5 + 1, none⟩ = some (.int .i64 x.owner) ∧ w'.cell? ⟨g, j * 5 + 2, none⟩ = some (.bool x.moving) ∧ w'.cell? ⟨g, j * 5 + 3, none⟩ = some (.int .i64 x.tr) ∧ w'.cell? ⟨g, j * 5 + 4, none⟩ = some (.int .i64 x.target) ∧ w'.cell? ⟨w.heap.size, 0, none⟩ = some (.int .i64 8) ∧ w'.cell? ⟨w.heap.size, 1, none⟩ = some (.int .i64 (j : Int)) ∧ w'.cell? ⟨w.heap.size, 2, none⟩ = some (.int .i64 n) ∧ w'.cell? ⟨w.heap.size, 3, none⟩ = some (.int .i64 ck) ∧ w'.cell? ⟨w.heap.size, 4, none⟩ = some (.slice a0 n0 c0) ∧ w'.cell? ⟨w.heap.size, 5, none⟩ = some (.slice a1 n1 c1) ∧ w'.cell? ⟨w.heap.size, 6, none⟩ = some (.int .i64 uid) ∧ w'.cell? ⟨w.heap.size, 7, none⟩ = some (.int .i64 mode) ∧ w'.cell? ⟨w.heap.size, 8, none⟩ = some (.int .i64 fl) ∧ w'.cell? ⟨w.heap.size, 9, none⟩ = some (.int .i64 si) ∧ w'.cell? ⟨w.heap.size, 10, none⟩ = some (.slice a2 n2 c2) ∧ w'.cell? ⟨w.heap.size, 11, none⟩ = some (.int .i64 valid) ∧ w'.cell? ⟨w.heap.size, 12, none⟩ = some (.slice a3 n3 c3) ∧ w'.cell? ⟨w.heap.size, 13, none⟩ = some (.slice a4 n4 c4)) (tabS_of (by kernel_rfl) tabS_apply) (by kernel_rfl) (HS.out _ DR) (fun hTb hHeld => ?_)
  refine tks 0 0 12 hTb hHeld ?_
  refine tks 1 1 13 hTb hHeld ?_
  refine tks 2 2 14 hTb hHeld ?_
  refine tks 3 3 15 hTb hHeld ?_
  refine tks 4 4 16 hTb hHeld ?_
  refine cls 5 5 hTb (by decide) rfl rfl (fun K hK => ?_)
  go_simp
  refine (rowActOf_8 (j : Int) n ck uid mode fl si valid a0 a1 a2 a3 a4 n0 n1 n2 n3 n4 c0 c1 c2 c3 c4 _).mono ?_
  rintro e w1 ⟨rfl, B1⟩
  refine hK.out _ _ (HS.out _ (Below.step DR B1)) (fun hHeld => ?_)
  clear hK K
  refine cls 6 6 hTb (by decide) rfl rfl (fun K hK => ?_)
  go_simp
  refine (rowAfter_k8 x n _ hr.out).mono ?_
  rintro e w2 ⟨rfl, B2⟩
  generalize hy : rowStep x 8 n = y
  have HA2 : Hid (At wb f g 70 cur (j * 5) [.int .i64 x.epoch, .int .i64 x.owner, .bool x.moving, .int .i64 x.tr, .int .i64 x.target] w2) := A.out.grow (Below.step (Below.step DR B1) B2)
  have e0 := HA2.out.cell 0 _ rfl
  have e1 := HA2.out.cell 1 _ rfl
  have e2 := HA2.out.cell 2 _ rfl
  have e3 := HA2.out.cell 3 _ rfl
  have e4 := HA2.out.cell 4 _ rfl
  simp only [Nat.add_zero] at e0
  have fz := HA2.out.frozen
  have lz := HA2.out.lt
  refine hK.out _ _ (HS.out _ (Below.step (Below.step DR B1) B2)) (fun hHeld => ?_)
  clear hK K
  refine wpS_next (S' := fun w' => True) 7 9 hTb (by decide) (trivial) (fun hHeld => ?_)
  refine tks 7 7 19 hTb hHeld ?_
  refine cls 8 8 hTb (by decide) rfl rfl (fun K hK => ?_)
  go_simp
  refine hK.out _ _ (trivial) (fun hHeld => ?_)
  clear hK K
  refine wpS_end hTb ?_
  have B := (show Hid _ from (((((HA2.out.set 0 (.int .i64 y.epoch) (by simp) (by simp; omega)).set 1 (.int .i64 y.owner) (by simp) (by simp; omega)).set 2 (.bool y.moving) (by simp) (by simp; omega)).set 3 (.int .i64 y.tr) (by simp) (by simp; omega)).set 4 (.int .i64 y.target) (by simp) (by simp; omega)))
  rw [← hy] at *
  go_wp2
  go_end0
  exact ⟨⟨_, rfl⟩, B.out⟩

end Go.Proofs.YtdokgpdfdenoaaaGreat

/- What wantsOf of package impl does. -/
namespace Go.Proofs.YtdokgpdfdenoaaaGreat
open Go.RowKit
set_option maxRecDepth 100000

set_option maxHeartbeats 400000 in
theorem nameWanted_any (wt : Bool) (v : Value) (l : List Int) (w : World) (hv : Bs w v l) :
    Calls Tryz.prog 80 #[.bool wt, v] w fun e w' => e = .returned (.bool (bif wt then nameB l else decide (l.length = 0))) ∧ Below w.heap.size w w' := by
  have H : Hid (Bs w v l) := hv
  obtain ⟨ho, a, cap, rfl, hlc, hcm, -⟩ := hv
  cases wt with
  | true =>
    go_enter Tryz.func80, Tryz.ntmps80
    go_wp2_with (first | (go_at_call 92; refine (nameOk_any _ l _ H.out).mono ?_; rintro e w1 ⟨rfl, B⟩))
    go_ret
    exact ⟨ret_b rfl, B⟩
  | false =>
    by_cases h : l.length = 0
    · have h' : l = [] := List.eq_nil_of_length_eq_zero h
      subst h'
      go_enter Tryz.func80, Tryz.ntmps80
      go_wp2
      go_ret
      exact ⟨ret_b rfl, Below.refl _ _⟩
    · have h2 : (l.length : Int) ≠ 0 := by omega
      have e : Hid ((bif false then nameB l else decide (l.length = 0)) = false) := by simp [Hid]; exact fun e => h (by rw [e]; rfl)
      generalize l.length = n at h2 hlc h e
      go_enter Tryz.func80, Tryz.ntmps80
      go_wp2
      go_ret
      exact ⟨ret_b (e.out.trans (by simp [h])), Below.refl _ _⟩

/-- Which fields a kind of command has. -/
def wantsV (k : Int) : Value :=
  .agg #[.bool (!decide (k = 9)), .bool (decide (k = 6)), .int .i64 (if k = 3 ∨ k = 5 ∨ k = 6 then 1 else 0), .int .i64 (if k = 3 ∨ k = 5 ∨ k = 6 then 1000000 else 0), .int .i64 (if k = 3 then 2 else if k = 6 then 1 else 0),
    .int .i64 (if k = 2 ∨ k = 3 then 31 else 0), .int .i64 (if k = 3 ∨ k = 8 then 1000000 else 0), .int .i64 (if k = 2 then 30 else 0)]

set_option maxHeartbeats 1000000 in
theorem wantsOf_any (k : Int) (h : 0 ≤ k ∧ k ≤ 9) (w : World) :
    Calls Tryz.prog 79 #[.int .i64 k] w fun e w' => e = .returned (wantsV k) ∧ Below w.heap.size w w' := by
  have hk : k = 0 ∨ k = 1 ∨ k = 2 ∨ k = 3 ∨ k = 4 ∨ k = 5 ∨ k = 6 ∨ k = 7 ∨ k = 8 ∨ k = 9 := by omega
  clear h
  rcases hk with rfl | rfl | rfl | rfl | rfl | rfl | rfl | rfl | rfl | rfl
  all_goals
    go_enter Tryz.func79, Tryz.ntmps79
    go_wp2
  all_goals refine bodyPost_ret (v := wantsV _) (by simp [results, Tryz.results79, go_sem, wantsV]) rfl ⟨rfl, ?_⟩
  all_goals exact (Below.refl _ _).alloc (Nat.le_refl _) _

end Go.Proofs.YtdokgpdfdenoaaaGreat

/- What CmdOk of package impl does. -/
namespace Go.Proofs.YtdokgpdfdenoaaaGreat
open Go.RowKit
set_option maxRecDepth 100000
set_option linter.unusedVariables false

theorem cmdB_conj (k : Int) (h : 0 ≤ k ∧ k ≤ 9) (bx tt : List Int) (uid mode fl si : Int) (tx : List Int) : cmdB k bx tt uid mode fl si tx =
    ((bif (!decide (k = 9)) then nameB bx else decide (bx.length = 0)) && ((bif decide (k = 6) then nameB tt else decide (tt.length = 0)) && (inB uid (if k = 3 ∨ k = 5 ∨ k = 6 then 1 else 0) (if k = 3 ∨ k = 5 ∨ k = 6 then 1000000 else 0) && (inB mode 0 (if k = 3 then 2 else if k = 6 then 1 else 0) && (inB fl 0 (if k = 2 ∨ k = 3 then 31 else 0) && (inB si 0 (if k = 3 ∨ k = 8 then 1000000 else 0) && (decide ((tx.length : Int) ≤ (if k = 2 then 30 else 0)) && textB tx))))))) := by
  have hk : k = 0 ∨ k = 1 ∨ k = 2 ∨ k = 3 ∨ k = 4 ∨ k = 5 ∨ k = 6 ∨ k = 7 ∨ k = 8 ∨ k = 9 := by omega
  have z := textB_nil (l := tx)
  have z2 := textB_len (l := tx)
  unfold cmdB inB
  generalize textB tx = T at *
  generalize nameB bx = NB at *
  generalize nameB tt = NT at *
  generalize tx.length = n at *
  generalize bx.length = n1 at *
  generalize tt.length = n2 at *
  clear h
  rcases hk with rfl | rfl | rfl | rfl | rfl | rfl | rfl | rfl | rfl | rfl <;> cases T <;> cases NB <;> cases NT <;> rw [Bool.eq_iff_iff] <;> simp at * <;> omega

set_option maxRecDepth 100000 in
set_option maxHeartbeats 2000000 in
theorem implCmdOk_gen (k : Int) (hk : 0 ≤ k ∧ k ≤ 9) (W0 W1 : Bool) (W2 W3 W4 W5 W6 W7 : Int) (hW : wantsV k = .agg #[.bool W0, .bool W1, .int .i64 W2, .int .i64 W3, .int .i64 W4, .int .i64 W5, .int .i64 W6, .int .i64 W7]) (a0 a1 a2 : Option Addr) (nb nt nx c0 c1 c2 : Nat) (bx tt : List Int) (uid mode fl si : Int) (tx : List Int) (w : World)
    (H0 : Hid (∀ wi, Below w.heap.size w wi → Bs wi (.slice a0 nb c0) bx ∧ Bs wi (.slice a1 nt c1) tt ∧ Bs wi (.slice a2 nx c2) tx)) (c : Bool)
    (HC : Hid (c = ((bif W0 then nameB bx else decide (bx.length = 0)) && ((bif W1 then nameB tt else decide (tt.length = 0)) && (inB uid W2 W3 && (inB mode 0 W4 && (inB fl 0 W5 && (inB si 0 W6 && (decide ((nx : Int) ≤ W7) && textB tx))))))))) :
    Calls Tryz.prog 72 #[.agg #[.int .i64 k, .slice a0 nb c0, .slice a1 nt c1, .int .i64 uid, .int .i64 mode, .int .i64 fl, .int .i64 si, .slice a2 nx c2]] w fun e w' => e = .returned (.bool c) ∧ Below w.heap.size w w' := by
  have hp : ∀ w, Calls Tryz.prog 79 #[.int .i64 k] w fun e w' => e = .returned (.agg #[.bool W0, .bool W1, .int .i64 W2, .int .i64 W3, .int .i64 W4, .int .i64 W5, .int .i64 W6, .int .i64 W7]) ∧ Below w.heap.size w w' := fun w => by rw [← hW]; exact wantsOf_any k hk w
  have ab : ∀ (x : World) o, Below x.heap.size x (x.alloc o) := fun x o => (Below.refl _ _).alloc (Nat.le_refl _) o
  have hin : ∀ w, Calls Tryz.prog 18 #[.int .i64 k, .int .i64 0, .int .i64 9] w fun e w' => e = .returned (.bool true) ∧ w' = w := fun w => by
    have h := within_any k 0 9 w
    rwa [show inB k 0 9 = true by simp [inB, hk.1, hk.2]] at h
  clear hW
  have hy0 : ∀ w (_ : Bs w (.slice a0 nb c0) bx), Calls Tryz.prog 80 #[.bool W0, .slice a0 nb c0] w fun e w' => e = .returned (.bool (bif W0 then nameB bx else decide (bx.length = 0))) ∧ Below w.heap.size w w' := fun w h => nameWanted_any _ _ bx w h
  have hy1 : ∀ w (_ : Bs w (.slice a1 nt c1) tt), Calls Tryz.prog 80 #[.bool W1, .slice a1 nt c1] w fun e w' => e = .returned (.bool (bif W1 then nameB tt else decide (tt.length = 0))) ∧ Below w.heap.size w w' := fun w h => nameWanted_any _ _ tt w h
  have hy2 := within_any uid W2 W3
  have hy3 := within_any mode 0 W4
  have hy4 := within_any fl 0 W5
  have hy5 := within_any si 0 W6
  have hy7 := textOk_any (.slice a2 nx c2) tx
  generalize (bif W0 then nameB bx else decide (bx.length = 0)) = X0 at HC hy0
  generalize (bif W1 then nameB tt else decide (tt.length = 0)) = X1 at HC hy1
  generalize inB uid W2 W3 = X2 at HC hy2
  generalize inB mode 0 W4 = X3 at HC hy3
  generalize inB fl 0 W5 = X4 at HC hy4
  generalize inB si 0 W6 = X5 at HC hy5
  generalize textB tx = X7 at HC hy7
  have bx0 := box_new w (.cells #[.int .i64 k, .slice a0 nb c0, .slice a1 nt c1, .int .i64 uid, .int .i64 mode, .int .i64 fl, .int .i64 si, .slice a2 nx c2] 48)
  go_enter Tryz.func72, Tryz.ntmps72
  go_wp2_with fail
  refine (hin _).mono ?_
  rintro e w' ⟨rfl, rfl⟩
  go_wp2_with fail
  refine (hp _).mono ?_
  rintro e w1 ⟨rfl, B⟩
  have X := Below.step (ab w _) B
  have s1 : w.heap.size < w1.heap.size := by have := B.size; simp at this; omega
  have kc := box_below B bx0
  clear bx0 B hp hin
  obtain ⟨c_0, c_1, c_2, c_3, c_4, c_5, c_6, c_7⟩ := box8 kc
  have kw := box_new w1 (.cells #[.bool W0, .bool W1, .int .i64 W2, .int .i64 W3, .int .i64 W4, .int .i64 W5, .int .i64 W6, .int .i64 W7] 132)
  replace kc := box_alloc kc (.cells #[.bool W0, .bool W1, .int .i64 W2, .int .i64 W3, .int .i64 W4, .int .i64 W5, .int .i64 W6, .int .i64 W7] 132)
  replace X := Below.step X (ab w1 (.cells #[.bool W0, .bool W1, .int .i64 W2, .int .i64 W3, .int .i64 W4, .int .i64 W5, .int .i64 W6, .int .i64 W7] 132))
  clear ab
  go_wp2_with fail
  refine (hy0 _ (H0.out _ X).1).mono ?_
  rintro e w2 ⟨rfl, B⟩
  clear c_0 c_1 c_2 c_3 c_4 c_5 c_6 c_7 hy0 s1
  replace kc := box_below B kc
  replace kw := box_below B kw
  replace X := Below.step X B
  clear B
  obtain ⟨c_0, c_1, c_2, c_3, c_4, c_5, c_6, c_7⟩ := box8 kc
  obtain ⟨d_0, d_1, d_2, d_3, d_4, d_5, d_6, d_7⟩ := box8 kw
  cases X0 with
  | false =>
    go_wp2
    go_ret
    exact ⟨ret_b HC.out, X⟩
  | true =>
  go_wp2_with fail
  refine (hy1 _ (H0.out _ X).2.1).mono ?_
  rintro e w3 ⟨rfl, B⟩
  clear c_0 c_1 c_2 c_3 c_4 c_5 c_6 c_7 d_0 d_1 d_2 d_3 d_4 d_5 d_6 d_7 hy1
  replace kc := box_below B kc
  replace kw := box_below B kw
  replace X := Below.step X B
  clear B
  obtain ⟨c_0, c_1, c_2, c_3, c_4, c_5, c_6, c_7⟩ := box8 kc
  obtain ⟨d_0, d_1, d_2, d_3, d_4, d_5, d_6, d_7⟩ := box8 kw
  cases X1 with
  | false =>
    go_wp2
    go_ret
    exact ⟨ret_b HC.out, X⟩
  | true =>
  go_wp2_with fail
  refine (hy2 _).mono ?_
  rintro e w' ⟨rfl, rfl⟩
  cases X2 with
  | false =>
    go_wp2
    go_ret
    exact ⟨ret_b HC.out, X⟩
  | true =>
  go_wp2_with fail
  refine (hy3 _).mono ?_
  rintro e w' ⟨rfl, rfl⟩
  cases X3 with
  | false =>
    go_wp2
    go_ret
    exact ⟨ret_b HC.out, X⟩
  | true =>
  go_wp2_with fail
  refine (hy4 _).mono ?_
  rintro e w' ⟨rfl, rfl⟩
  cases X4 with
  | false =>
    go_wp2
    go_ret
    exact ⟨ret_b HC.out, X⟩
  | true =>
  go_wp2_with fail
  refine (hy5 _).mono ?_
  rintro e w' ⟨rfl, rfl⟩
  cases X5 with
  | false =>
    go_wp2
    go_ret
    exact ⟨ret_b HC.out, X⟩
  | true =>
  by_cases h6 : (nx : Int) ≤ W7
  · rw [decide_eq_true h6] at HC
    go_wp2_with fail
    refine (hy7 _ (H0.out _ X).2.2).mono ?_
    rintro e w4 ⟨rfl, B⟩
    go_wp2
    go_ret
    exact ⟨ret_b HC.out, Below.step X B⟩
  · rw [decide_eq_false h6] at HC
    go_wp2
    go_ret
    exact ⟨ret_b HC.out, X⟩

set_option maxRecDepth 100000 in
theorem implCmdOk_any (v : Value) (k : Int) (bx tt : List Int) (uid mode fl si : Int) (tx : List Int) (w : World) (hv : CmdV w v k bx tt uid mode fl si tx) :
    Calls Tryz.prog 72 #[v] w fun e w' => e = .returned (.bool (cmdB k bx tt uid mode fl si tx)) ∧ Below w.heap.size w w' := by
  obtain ⟨u0, u1, u2, rfl, g0, g1, g2, i0, i1, i2, i3, i4⟩ := hv
  have H0 : Hid (∀ wi, Below w.heap.size w wi → Bs wi u0 bx ∧ Bs wi u1 tt ∧ Bs wi u2 tx) := fun wi h => ⟨g0.below h, g1.below h, g2.below h⟩
  obtain ⟨a0, c0, rfl⟩ := g0.form
  obtain ⟨a1, c1, rfl⟩ := g1.form
  obtain ⟨a2, c2, rfl⟩ := g2.form
  by_cases h : 0 ≤ k ∧ k ≤ 9
  · exact implCmdOk_gen k h _ _ _ _ _ _ _ _ rfl a0 a1 a2 _ _ _ c0 c1 c2 bx tt uid mode fl si tx w H0 _ (cmdB_conj k h bx tt uid mode fl si tx)
  · have HZ : Hid (cmdB k bx tt uid mode fl si tx = false) := by simp [Hid, cmdB, h]
    have hin : ∀ w, Calls Tryz.prog 18 #[.int .i64 k, .int .i64 0, .int .i64 9] w fun e w' => e = .returned (.bool false) ∧ w' = w := fun w => by
      have h' := within_any k 0 9 w
      rwa [show inB k 0 9 = false by simp [inB]; omega] at h'
    go_enter Tryz.func72, Tryz.ntmps72
    go_wp2_with fail
    refine (hin _).mono ?_
    rintro e w' ⟨rfl, rfl⟩
    go_wp2
    go_ret
    exact ⟨ret_b HZ.out, (Below.refl _ _).alloc (Nat.le_refl _) _⟩

end Go.Proofs.YtdokgpdfdenoaaaGreat

/- What cmdWanted of package impl does. -/
namespace Go.Proofs.YtdokgpdfdenoaaaGreat
open Go.RowKit
set_option maxRecDepth 100000
set_option linter.unusedVariables false
set_option linter.unusedSimpArgs false

set_option maxHeartbeats 1000000 in
theorem cmdWanted_zero (k : Int) (a0 a1 a2 : Option Addr) (nb nt nx c0 c1 c2 : Nat) (uid mode fl si : Int) (w : World) :
    Calls Tryz.prog 63 #[.bool false, .agg #[.int .i64 k, .slice a0 nb c0, .slice a1 nt c1, .int .i64 uid, .int .i64 mode, .int .i64 fl, .int .i64 si, .slice a2 nx c2]] w fun e w' => e = .returned (.bool (zC k nb nt uid mode fl si nx)) ∧ Below w.heap.size w w' := by
  have HX : Hid (∀ o, Below w.heap.size w (w.alloc o)) := fun o => (Below.refl _ _).alloc (Nat.le_refl _) o
  go_enter Tryz.func63, Tryz.ntmps63
  go_wp2
  all_goals (go_ret; refine ⟨ret_b ?_, HX.out _⟩; clear HX; unfold zC; (try simp only [beq_iff_eq, beq_eq_false_iff_ne, ne_eq] at *); rw [Bool.eq_iff_iff]; simp; omega)
theorem cmdWanted_any (b : Bool) (v : Value) (c : CmdD) (w : World) (hv : CmdV w v c.k c.bx c.tt c.uid c.mode c.fl c.si c.tx) :
    Calls Tryz.prog 63 #[.bool b, v] w fun e w' => e = .returned (.bool (bif b then cmdD c else zeroC c)) ∧ Below w.heap.size w w' := by
  have H0 : Hid (∀ wi, Below w.heap.size w wi → CmdV wi v c.k c.bx c.tt c.uid c.mode c.fl c.si c.tx) := fun wi h => hv.below h
  obtain ⟨u0, u1, u2, rfl, g0, g1, g2, -⟩ := hv
  obtain ⟨a0, c0, rfl⟩ := g0.form
  obtain ⟨a1, c1, rfl⟩ := g1.form
  obtain ⟨a2, c2, rfl⟩ := g2.form
  clear g0 g1 g2
  cases b with
  | false => exact cmdWanted_zero _ _ _ _ _ _ _ _ _ _ _ _ _ _ w
  | true =>
    have ab : ∀ o, Below w.heap.size w (w.alloc o) := fun o => (Below.refl _ _).alloc (Nat.le_refl _) o
    go_enter Tryz.func63, Tryz.ntmps63
    go_wp2_with fail
    refine (implCmdOk_any _ c.k c.bx c.tt c.uid c.mode c.fl c.si c.tx _ (H0.out _ (ab _))).mono ?_
    rintro e w1 ⟨rfl, B⟩
    replace B := Below.step (ab _) B
    clear ab H0
    go_wp2
    go_ret
    exact ⟨rfl, B⟩

end Go.Proofs.YtdokgpdfdenoaaaGreat

/- What boxOk of package impl do. -/
namespace Go.Proofs.YtdokgpdfdenoaaaGreat
open Go.RowKit Go.Shelf
set_option maxRecDepth 100000
set_option linter.unusedVariables false

set_option maxRecDepth 100000 in
set_option maxHeartbeats 1000000 in
theorem boxOk_any (v : Value) (x : BoxD) (mv : Int) (w : World) (hv : BoxV w v x) :
    Calls Tryz.prog 83 #[v, .int .i64 mv] w fun e w' => e = .returned (.bool (boxB x mv)) ∧ Below w.heap.size w w' := by
  have HV : Hid (∀ wi, Below w.heap.size w wi → BoxV wi v x) := fun wi h => hv.below h
  obtain ⟨u0, u1, u2, rfl, g0, g1, g2, i0, i1, i2, i3⟩ := hv
  have H0 : Hid (∀ wi, Below w.heap.size w wi → Bs wi u0 x.name ∧ MailsV wi u1 x.mails ∧ GonesV wi u2 x.gones) := fun wi h => ⟨g0.below h, g1.below keepsMail h, g2.below keepsGone h⟩
  obtain ⟨a0, n0, c0, rfl⟩ := g0.form3
  obtain ⟨a1, c1, rfl, m0, m1⟩ := g1.form
  obtain ⟨a2, c2, rfl, m2, m3⟩ := g2.form
  have kA := box_new w (.cells #[.slice a0 n0 c0, .int .i64 x.valid, .int .i64 x.next, .int .i64 x.seq, .slice a1 x.mails.length c1, .slice a2 x.gones.length c2, .int .i64 x.lost] 89)
  have X : Below w.heap.size w (w.alloc (.cells #[.slice a0 n0 c0, .int .i64 x.valid, .int .i64 x.next, .int .i64 x.seq, .slice a1 x.mails.length c1, .slice a2 x.gones.length c2, .int .i64 x.lost] 89)) := (Below.refl _ _).alloc (Nat.le_refl _) _
  clear g0 g1 g2
  have HC : Hid (boxB x mv = (nameB x.name && (inB x.valid 1 mv && (inB x.next 1 1000000 && (inB x.seq 0 1000000 && (inB x.lost 0 x.seq && (mailsB x && gonesB x))))))) := rfl
  have HN : Hid (inB x.next 1 1000000 = true → 1 ≤ x.next ∧ x.next ≤ 1000000) := by intro h; simp [inB] at h; exact h
  have hy1 := fun wi (h : Bs wi (.slice a0 n0 c0) x.name) => nameOk_any _ x.name wi h
  have hy2 := within_any x.valid 1 mv
  have hy3 := within_any x.next 1 1000000
  have hy4 := within_any x.seq 0 1000000
  have hy5 := within_any x.lost 0 x.seq
  have hy6 := fun wi (h : BoxV wi (.agg #[.slice a0 n0 c0, .int .i64 x.valid, .int .i64 x.next, .int .i64 x.seq, .slice a1 x.mails.length c1, .slice a2 x.gones.length c2, .int .i64 x.lost]) x) h1 h2 => mailsOk_any _ x wi h h1 h2
  have hy7 := fun wi (h : BoxV wi (.agg #[.slice a0 n0 c0, .int .i64 x.valid, .int .i64 x.next, .int .i64 x.seq, .slice a1 x.mails.length c1, .slice a2 x.gones.length c2, .int .i64 x.lost]) x) h1 h2 => gonesOk_any _ x wi h h1 h2
  generalize nameB x.name = X1 at HC hy1
  generalize inB x.valid 1 mv = X2 at HC hy2
  generalize inB x.next 1 1000000 = X3 at HC hy3 HN
  generalize inB x.seq 0 1000000 = X4 at HC hy4
  generalize inB x.lost 0 x.seq = X5 at HC hy5
  generalize mailsB x = X6 at HC hy6
  generalize gonesB x = X7 at HC hy7
  go_enter Tryz.func83, Tryz.ntmps83
  go_wp2_with fail
  refine (hy1 _ (H0.out _ X).1).mono ?_
  rintro e w1 ⟨rfl, B⟩
  replace kA := box_below B kA
  replace X := Below.step X B
  clear B hy1
  obtain ⟨f0, f1, f2, f3, f4, f5, f6⟩ := bx7 kA
  cases X1 with
  | false =>
    go_wp2
    go_ret
    exact ⟨ret_b HC.out, X⟩
  | true =>
  go_wp2_with fail
  refine (hy2 _).mono ?_
  rintro e w' ⟨rfl, rfl⟩
  cases X2 with
  | false =>
    go_wp2
    go_ret
    exact ⟨ret_b HC.out, X⟩
  | true =>
  go_wp2_with fail
  refine (hy3 _).mono ?_
  rintro e w' ⟨rfl, rfl⟩
  cases X3 with
  | false =>
    go_wp2
    go_ret
    exact ⟨ret_b HC.out, X⟩
  | true =>
  obtain ⟨hn0, hn1⟩ := HN.out rfl
  go_wp2_with fail
  refine (hy4 _).mono ?_
  rintro e w' ⟨rfl, rfl⟩
  cases X4 with
  | false =>
    go_wp2
    go_ret
    exact ⟨ret_b HC.out, X⟩
  | true =>
  go_wp2_with fail
  refine (hy5 _).mono ?_
  rintro e w' ⟨rfl, rfl⟩
  cases X5 with
  | false =>
    go_wp2
    go_ret
    exact ⟨ret_b HC.out, X⟩
  | true =>
  go_wp2_with fail
  refine (hy6 _ (HV.out _ X) hn0 hn1).mono ?_
  rintro e w2 ⟨rfl, B⟩
  replace kA := box_below B kA
  replace X := Below.step X B
  clear B hy6 f0 f1 f2 f3 f4 f5 f6
  obtain ⟨f0, f1, f2, f3, f4, f5, f6⟩ := bx7 kA
  cases X6 with
  | false =>
    go_wp2
    go_ret
    exact ⟨ret_b HC.out, X⟩
  | true =>
  go_wp2_with fail
  refine (hy7 _ (HV.out _ X) hn0 hn1).mono ?_
  rintro e w3 ⟨rfl, B⟩
  replace X := Below.step X B
  go_wp2
  go_ret
  exact ⟨ret_b HC.out, X⟩

end Go.Proofs.YtdokgpdfdenoaaaGreat

/- What slices.IndexFunc and slices.ContainsFunc of boxes do. -/
namespace Go.Proofs.YtdokgpdfdenoaaaGreat
open Go.RowKit Go.Shelf
set_option maxRecDepth 100000
set_option linter.unusedVariables false

set_option maxRecDepth 100000 in
set_option maxHeartbeats 1000000 in
theorem indexFuncBox (g : Nat) (lb : Array Value) (p : BoxD → Bool) (v : Value) (l : List BoxD) (w : World) (hv : BoxesV w v l) (eg : ∀ args w, (callFunc g args).run Tryz.prog w = .ok (.enter g args) w)
    (hp : ∀ wi x u, Below w.heap.size w wi → BoxV wi u x → Calls Tryz.prog g (#[u] ++ lb) wi fun e w' => e = .returned (.bool (p x)) ∧ Below wi.heap.size wi w') :
    Calls Tryz.prog 97 #[v, .func (.func g) #[] lb] w fun e w' => e = .returned (.int .i64 (firstI p l)) ∧ Below w.heap.size w w' := by
  have HV : Hid (∀ wi, Below w.heap.size w wi → BoxesV wi v l) := fun wi h => hv.below keepsBox h
  have HP : Hid (∀ wi x u, Below w.heap.size w wi → BoxV wi u x → Calls Tryz.prog g (#[u] ++ lb) wi fun e w' => e = .returned (.bool (p x)) ∧ Below wi.heap.size wi w') := hp
  obtain ⟨a, cap, rfl, hlc, hcm⟩ := hv.form
  clear hv hp
  go_enter Tryz.func97, Tryz.ntmps97
  go_wp2
  go_loopw [5, 8] (fun _ i wr => ∃ k : Nat, k ≤ l.length ∧ i = .int .i64 k ∧ Hid (∀ j x, j < k → l[j]? = some x → p x = false) ∧ Hid (Below w.heap.size w wr)) (fun _ i _ => l.length - (intOf i).toNat)
  case atStart => exact ⟨0, Nat.zero_le _, rfl, (fun j x hj => absurd hj (Nat.not_lt_zero _)), Below.refl _ _⟩
  case round =>
    obtain ⟨k, hk, rfl, hA, hB⟩ := hrel
    by_cases hlt : k < l.length
    · obtain ⟨x, hx⟩ : ∃ x, l[k]? = some x := ⟨l[k], List.getElem?_eq_getElem hlt⟩
      obtain ⟨b, off, cap', u0, u1, u2, hv', hlb, d0, d1, d2, d3, d4, d5, d6, hu0, hu1, hu2, i0, i1, i2, i3⟩ := BoxesV.cell (HV.out wr hB.out) k x hx
      simp only [Value.slice.injEq, true_and] at hv'
      obtain ⟨rfl, rfl⟩ := hv'
      obtain ⟨ua, un, uc, rfl⟩ := hu0.form3
      obtain ⟨va, vc, rfl, -⟩ := hu1.form
      obtain ⟨wa, wc, rfl, -⟩ := hu2.form
      have hcall := HP.out wr x (.agg #[.slice ua un uc, .int .i64 x.valid, .int .i64 x.next, .int .i64 x.seq, .slice va x.mails.length vc, .slice wa x.gones.length wc, .int .i64 x.lost]) hB.out ⟨_, _, _, rfl, hu0, hu1, hu2, i0, i1, i2, i3⟩
      have HX : Hid (l[k]? = some x) := hx
      clear hx
      cases hq : p x with
      | true =>
        rw [hq] at hcall
        have HQ : Hid (p x = true) := hq
        clear hq
        go_wp2_with (go_at_fn g; refine hcall.mono ?_; rintro e w1 ⟨rfl, B⟩)
        go_ret
        exact ⟨ret_i (firstI_hit' hlt HX.out HQ.out hA.out).symm, Below.step hB.out B⟩
      | false =>
        rw [hq] at hcall
        have HQ : Hid (p x = false) := hq
        clear hq
        go_wp2_with (go_at_fn g; refine hcall.mono ?_; rintro e w1 ⟨rfl, B⟩)
        have HB2 : Hid (Below w.heap.size w w1) := Below.step hB.out B
        clear B hB
        go_roundw
        case rel =>
          refine ⟨k + 1, by omega, by go_num, (show Hid _ from fun j y hj hy => ?_), HB2⟩
          by_cases e : j = k
          · subst e; rw [HX.out] at hy; cases hy; exact HQ.out
          · exact hA.out j y (by omega) hy
        case measure => simp [intOf]; omega
    · obtain rfl : k = l.length := by omega
      go_wp2
      go_ret
      exact ⟨ret_i (firstI_none' hA.out).symm, hB.out⟩

set_option maxRecDepth 100000 in
set_option maxHeartbeats 1000000 in
theorem containsFuncBox (g : Nat) (lb : Array Value) (p : BoxD → Bool) (v : Value) (l : List BoxD) (w : World) (hv : BoxesV w v l) (eg : ∀ args w, (callFunc g args).run Tryz.prog w = .ok (.enter g args) w)
    (hp : ∀ wi x u, Below w.heap.size w wi → BoxV wi u x → Calls Tryz.prog g (#[u] ++ lb) wi fun e w' => e = .returned (.bool (p x)) ∧ Below wi.heap.size wi w') :
    Calls Tryz.prog 85 #[v, .func (.func g) #[] lb] w fun e w' => e = .returned (.bool (l.any p)) ∧ Below w.heap.size w w' := by
  have hi := indexFuncBox g lb p v l w hv eg hp
  have HF : Hid (l.any p = decide (0 ≤ firstI p l)) := any_firstI p l
  generalize firstI p l = i at hi HF
  obtain ⟨a, cap, rfl, -⟩ := hv.form
  clear hp hv
  go_enter Tryz.func85, Tryz.ntmps85
  go_wp2_with (go_at_call 97; refine hi.mono ?_; rintro e w1 ⟨rfl, B⟩)
  go_ret
  exact ⟨ret_b HF.out, B⟩

end Go.Proofs.YtdokgpdfdenoaaaGreat

/- What bytes.Compare do. -/
namespace Go.Proofs.YtdokgpdfdenoaaaGreat
open Go.RowKit Go.Shelf
set_option maxRecDepth 100000
set_option linter.unusedVariables false

/-- The bytes of a slice, as the model's entries take them. -/
theorem run_bytesOf_bs {w : World} {v : Value} {l : List Int} (h : Bs w v l) : (Extern.Bytes.bytesOf v).run Tryz.prog w = .ok ⟨(bts l).toArray⟩ w := by
  obtain ⟨ho, a, cap, rfl, h1, h2, h3, h4⟩ := h
  cases a with
  | none =>
    have hc := h3 rfl
    have : l = [] := List.eq_nil_of_length_eq_zero (by omega)
    subst this
    rfl
  | some ad =>
    have key : ∀ j x, l[j]? = some x → w.cell? (ad.add j) = some (.int .u8 x) := by
      intro j x hj
      have hjl : j < l.length := (List.getElem?_eq_some_iff.1 hj).1
      obtain ⟨b, off, had, -, hc⟩ := h4 (by omega)
      cases had
      rw [Addr.add_lit, hc j hjl]
      simp [List.getD, hj]
    have := Lib.run_loadBytesX (P := Tryz.prog) w l ad .empty key
    simp only [Extern.Bytes.bytesOf]
    rw [this]
    congr 1
    apply ByteArray.ext
    show (#[] : Array UInt8) ++ _ = _
    simp only [Array.empty_append]
    rfl
theorem run_compare_bs {w : World} {v u : Value} {l m : List Int} (hv : Bs w v l) (hu : Bs w u m) : (Extern.BytealgCompare.compare #[v, u]).run Tryz.prog w = .ok (.int .i64 (Lib.compareBytes (bts l) (bts m))) w := by
  change Sem.run Tryz.prog (do pure (goInt (Extern.BytealgCompare.cmp (← Extern.Bytes.bytesOf v) (← Extern.Bytes.bytesOf u)))) w = _
  simp only [Sem.run_bind, Sem.run_pure, run_bytesOf_bs hv, run_bytesOf_bs hu, Result.andThen]
  rw [Lib.cmp_eq]
  rfl

set_option maxRecDepth 100000 in
set_option maxHeartbeats 1000000 in
theorem compare_any (v u : Value) (l m : List Int) (w : World) (hv : Bs w v l) (hu : Bs w u m) :
    Calls Tryz.prog 84 #[v, u] w fun e w' => e = .returned (.int .i64 (Lib.compareBytes (bts l) (bts m))) ∧ w' = w := by
  have h8 := @run_callFunc_extern Tryz.prog 96 _ Extern.BytealgCompare.compare Tryz.func96 (by kernel_rfl) (by kernel_rfl) (by kernel_rfl) (by kernel_rfl)
  have hr := run_compare_bs hv hu
  obtain ⟨a, n, c, rfl⟩ := hv.form3
  obtain ⟨a', n', c', rfl⟩ := hu.form3
  clear hv hu
  generalize Lib.compareBytes (bts l) (bts m) = r at hr
  go_enter Tryz.func84, Tryz.ntmps84
  go_wp2
  go_ret
  exact ⟨rfl, rfl⟩

end Go.Proofs.YtdokgpdfdenoaaaGreat

/- What AccountOk of package impl do. -/
namespace Go.Proofs.YtdokgpdfdenoaaaGreat
open Go.RowKit Go.Shelf
set_option maxRecDepth 100000
set_option linter.unusedVariables false

set_option maxRecDepth 100000 in
set_option maxHeartbeats 1000000 in
theorem accountOk1_any (u : Value) (m : BoxD) (bg : Nat) (vd : Int) (w : World) (hu : BoxV w u m) (hc : w.cell? ⟨bg, 1, none⟩ = some (.int .i64 vd)) (hb : bg < w.heap.size) :
    Calls Tryz.prog 86 #[u, .pointer (some ⟨bg, 0, none⟩)] w fun e w' => e = .returned (.bool (decide (m.valid = vd))) ∧ Below w.heap.size w w' := by
  obtain ⟨u0, u1, u2, rfl, g0, g1, g2, -⟩ := hu
  obtain ⟨a0, n0, c0, rfl⟩ := g0.form3
  obtain ⟨a1, c1, rfl, -⟩ := g1.form
  obtain ⟨a2, c2, rfl, -⟩ := g2.form
  clear g0 g1 g2
  obtain ⟨name, valid, next, seq, mails, gones, lost⟩ := m
  simp only
  go_enter Tryz.func86, Tryz.ntmps86
  go_wp2
  go_ret
  exact ⟨ret_b (by rw [Bool.eq_iff_iff]; simp), (Below.refl _ _).alloc (Nat.le_refl _) _⟩

set_option maxRecDepth 100000 in
set_option maxHeartbeats 4000000 in
theorem implAccountOk_any (v : Value) (x : AccD) (w : World) (hv : AccV w v x) :
    Calls Tryz.prog 73 #[v] w fun e w' => e = .returned (.bool (accB x)) ∧ Below w.heap.size w w' := by
  obtain ⟨u0, u1, rfl, g0, g1, i0⟩ := hv
  have H0 : Hid (∀ wi, Below w.heap.size w wi → BoxesV wi u0 x.boxes ∧ IntsV wi u1 x.seen) := fun wi h => ⟨g0.below keepsBox h, g1.below keepsInt h⟩
  obtain ⟨a0, c0, rfl, m0, m1⟩ := g0.form
  obtain ⟨a1, c1, rfl, m2, m3⟩ := g1.form
  clear g0 g1
  have HK : Hid ((w.alloc (.cells #[.int .i64 x.valid, .slice a0 x.boxes.length c0, .slice a1 x.seen.length c1] 51)).heap[w.heap.size]? = some (.cells #[.int .i64 x.valid, .slice a0 x.boxes.length c0, .slice a1 x.seen.length c1] 51)) := box_new w _
  have HX : Hid (Below w.heap.size w (w.alloc (.cells #[.int .i64 x.valid, .slice a0 x.boxes.length c0, .slice a1 x.seen.length c1] 51))) := (Below.refl _ _).alloc (Nat.le_refl _) _
  have HC : Hid (accB x = (inB x.valid 0 1000000 && (decide (x.boxes.length ≤ 4) && (seenB x.seen && (List.range x.boxes.length).all (boxAt x))))) := rfl
  have hy1 := within_any x.valid 0 1000000
  have hy2 := seenOk_any _ x.seen _ (H0.out _ HX.out).2
  generalize inB x.valid 0 1000000 = X1 at HC hy1
  generalize seenB x.seen = X2 at HC hy2
  cases X1 with
  | false =>
    go_enter Tryz.func73, Tryz.ntmps73
    go_wp2_with fail
    refine (hy1 _).mono ?_
    rintro e w' ⟨rfl, rfl⟩
    go_wp2
    go_ret
    exact ⟨ret_b HC.out, HX.out⟩
  | true =>
  rcases Nat.lt_or_ge 4 x.boxes.length with h4 | h4
  · rw [decide_eq_false (Nat.not_le_of_lt h4)] at HC
    have h4' : (4 : Int) < x.boxes.length := by omega
    go_enter Tryz.func73, Tryz.ntmps73
    go_wp2_with fail
    refine (hy1 _).mono ?_
    rintro e w' ⟨rfl, rfl⟩
    go_wp2
    go_ret
    exact ⟨ret_b HC.out, HX.out⟩
  rw [decide_eq_true h4] at HC
  have h4' : (x.boxes.length : Int) ≤ 4 := by omega
  cases X2 with
  | false =>
    go_enter Tryz.func73, Tryz.ntmps73
    go_wp2_with fail
    refine (hy1 _).mono ?_
    rintro e w' ⟨rfl, rfl⟩
    go_wp2_with fail
    refine hy2.mono ?_
    rintro e w' ⟨rfl, rfl⟩
    go_wp2
    go_ret
    exact ⟨ret_b HC.out, HX.out⟩
  | true =>
  have HS : Hid (accB x = (List.range x.boxes.length).all (boxAt x)) := HC.out
  clear HC
  go_enter Tryz.func73, Tryz.ntmps73
  go_wp2_with fail
  refine (hy1 _).mono ?_
  rintro e w' ⟨rfl, rfl⟩
  go_wp2_with fail
  refine hy2.mono ?_
  rintro e w' ⟨rfl, rfl⟩
  clear hy1 hy2
  go_wp2
  go_loopw [3, 4, 5, 25] (fun _ _ _ i wr => ∃ k : Nat, k ≤ x.boxes.length ∧ i = .int .i64 k ∧ Hid (∀ j, j < k → boxAt x j = true) ∧ Hid (wr.heap[w.heap.size]? = some (.cells #[.int .i64 x.valid, .slice a0 x.boxes.length c0, .slice a1 x.seen.length c1] 51)) ∧ Hid (Below w.heap.size w wr)) (fun _ _ _ i _ => x.boxes.length - (intOf i).toNat)
  case atStart => exact ⟨0, Nat.zero_le _, rfl, (fun j hj => absurd hj (Nat.not_lt_zero _)), HK, HX⟩
  case round =>
    obtain ⟨k, hk, rfl, hA, hK, hB⟩ := hrel
    by_cases hlt : k < x.boxes.length
    · obtain ⟨m, hm⟩ : ∃ m, x.boxes[k]? = some m := ⟨x.boxes[k], List.getElem?_eq_getElem hlt⟩
      obtain ⟨b, off, cap', u0, u1, u2, hv', hlb, d0, d1, d2, d3, d4, d5, d6, hu0, hu1, hu2, j0, j1, j2, j3⟩ := BoxesV.cell (H0.out wr hB.out).1 k m hm
      simp only [Value.slice.injEq, true_and] at hv'
      obtain ⟨rfl, rfl⟩ := hv'
      obtain ⟨ua, un, uc, rfl⟩ := hu0.form3
      obtain ⟨va, vc, rfl, -⟩ := hu1.form
      obtain ⟨wa, wc, rfl, -⟩ := hu2.form
      have HBV : Hid (∀ wi, Below wr.heap.size wr wi → BoxV wi (.agg #[.slice ua un uc, .int .i64 m.valid, .int .i64 m.next, .int .i64 m.seq, .slice va m.mails.length vc, .slice wa m.gones.length wc, .int .i64 m.lost]) m) := fun wi h => ⟨_, _, _, rfl, hu0.below h, hu1.below keepsMail h, hu2.below keepsGone h, j0, j1, j2, j3⟩
      have HE : Hid (boxAt x k = (boxB m x.valid && (aheadB x.boxes m k && !((x.boxes.take k).any fun o => decide (o.valid = m.valid))))) := by simp [Hid, boxAt, hm]
      have HKg : Hid ((wr.alloc (.cells #[.slice ua un uc, .int .i64 m.valid, .int .i64 m.next, .int .i64 m.seq, .slice va m.mails.length vc, .slice wa m.gones.length wc, .int .i64 m.lost] 89)).heap[wr.heap.size]? = some (.cells #[.slice ua un uc, .int .i64 m.valid, .int .i64 m.next, .int .i64 m.seq, .slice va m.mails.length vc, .slice wa m.gones.length wc, .int .i64 m.lost] 89)) := box_new wr _
      have HKb : Hid ((wr.alloc (.cells #[.slice ua un uc, .int .i64 m.valid, .int .i64 m.next, .int .i64 m.seq, .slice va m.mails.length vc, .slice wa m.gones.length wc, .int .i64 m.lost] 89)).heap[w.heap.size]? = some (.cells #[.int .i64 x.valid, .slice (some ⟨b, off, none⟩) x.boxes.length c0, .slice a1 x.seen.length c1] 51)) := box_alloc hK.out _
      have HA1 : Hid (Below wr.heap.size wr (wr.alloc (.cells #[.slice ua un uc, .int .i64 m.valid, .int .i64 m.next, .int .i64 m.seq, .slice va m.mails.length vc, .slice wa m.gones.length wc, .int .i64 m.lost] 89))) := (Below.refl _ _).alloc (Nat.le_refl _) _
      have HB1 : Hid (Below w.heap.size w (wr.alloc (.cells #[.slice ua un uc, .int .i64 m.valid, .int .i64 m.next, .int .i64 m.seq, .slice va m.mails.length vc, .slice wa m.gones.length wc, .int .i64 m.lost] 89))) := Below.step hB.out HA1.out
      have HCF : Hid (∀ wi, Below (wr.alloc (.cells #[.slice ua un uc, .int .i64 m.valid, .int .i64 m.next, .int .i64 m.seq, .slice va m.mails.length vc, .slice wa m.gones.length wc, .int .i64 m.lost] 89)).heap.size (wr.alloc (.cells #[.slice ua un uc, .int .i64 m.valid, .int .i64 m.next, .int .i64 m.seq, .slice va m.mails.length vc, .slice wa m.gones.length wc, .int .i64 m.lost] 89)) wi → Calls Tryz.prog 85 #[.slice (some ⟨b, off, none⟩) k c0, .func (.func 86) #[] #[.pointer (some ⟨wr.heap.size, 0, none⟩)]] wi fun e w' => e = .returned (.bool ((x.boxes.take k).any fun o => decide (o.valid = m.valid))) ∧ Below wi.heap.size wi w') := fun wi hbi =>
        containsFuncBox 86 #[.pointer (some ⟨wr.heap.size, 0, none⟩)] (fun o => decide (o.valid = m.valid)) _ (x.boxes.take k) _ (((H0.out _ (Below.step HB1.out hbi)).1).take k hk) (fun args w => by kernel_rfl) (fun wj o u hbj hu => accountOk1_any u o wr.heap.size m.valid wj hu (bx7 (box_below hbj (box_below hbi HKg.out))).2.1 (lt_of_heap (box_below hbj (box_below hbi HKg.out))))
      generalize ((x.boxes.take k).any fun o => decide (o.valid = m.valid)) = X3 at HCF HE
      have HC1 := fun wi (h : BoxV wi (.agg #[.slice ua un uc, .int .i64 m.valid, .int .i64 m.next, .int .i64 m.seq, .slice va m.mails.length vc, .slice wa m.gones.length wc, .int .i64 m.lost]) m) => boxOk_any _ m x.valid wi h
      generalize boxB m x.valid = X1 at HE HC1
      have hK0 := hK.out
      obtain ⟨e0, e1, e2⟩ := bx3 hK0
      have hlA := lt_of_heap hK0
      clear hK0 hm
      have DR : Below (wr.alloc (.cells #[.slice ua un uc, .int .i64 m.valid, .int .i64 m.next, .int .i64 m.seq, .slice va m.mails.length vc, .slice wa m.gones.length wc, .int .i64 m.lost] 89)).heap.size (wr.alloc (.cells #[.slice ua un uc, .int .i64 m.valid, .int .i64 m.next, .int .i64 m.seq, .slice va m.mails.length vc, .slice wa m.gones.length wc, .int .i64 m.lost] 89)) (wr.alloc (.cells #[.slice ua un uc, .int .i64 m.valid, .int .i64 m.next, .int .i64 m.seq, .slice va m.mails.length vc, .slice wa m.gones.length wc, .int .i64 m.lost] 89)).drew := (Below.refl _ _).drew
      have HF : Hid (∀ w', Below (wr.alloc (.cells #[.slice ua un uc, .int .i64 m.valid, .int .i64 m.next, .int .i64 m.seq, .slice va m.mails.length vc, .slice wa m.gones.length wc, .int .i64 m.lost] 89)).heap.size (wr.alloc (.cells #[.slice ua un uc, .int .i64 m.valid, .int .i64 m.next, .int .i64 m.seq, .slice va m.mails.length vc, .slice wa m.gones.length wc, .int .i64 m.lost] 89)) w' → w'.cell? ⟨wr.heap.size, 0, none⟩ = some (.slice ua un uc) ∧ w'.cell? ⟨wr.heap.size, 1, none⟩ = some (.int .i64 m.valid) ∧ w'.cell? ⟨wr.heap.size, 2, none⟩ = some (.int .i64 m.next) ∧ w'.cell? ⟨wr.heap.size, 3, none⟩ = some (.int .i64 m.seq) ∧ w'.cell? ⟨wr.heap.size, 4, none⟩ = some (.slice va m.mails.length vc) ∧ w'.cell? ⟨wr.heap.size, 5, none⟩ = some (.slice wa m.gones.length wc) ∧ w'.cell? ⟨wr.heap.size, 6, none⟩ = some (.int .i64 m.lost) ∧ w'.cell? ⟨w.heap.size, 0, none⟩ = some (.int .i64 x.valid)) := by
        intro w' h
        obtain ⟨r0, r1, r2, r3, r4, r5, r6⟩ := bx7 (box_below h HKg.out)
        exact ⟨r0, r1, r2, r3, r4, r5, r6, (bx3 (box_below h HKb.out)).1⟩
      cases X1 with
      | false =>
        go_wp2
        refine wp_region_held_drew (S := fun w' => w'.cell? ⟨wr.heap.size, 0, none⟩ = some (.slice ua un uc) ∧ w'.cell? ⟨wr.heap.size, 1, none⟩ = some (.int .i64 m.valid) ∧ w'.cell? ⟨wr.heap.size, 2, none⟩ = some (.int .i64 m.next) ∧ w'.cell? ⟨wr.heap.size, 3, none⟩ = some (.int .i64 m.seq) ∧ w'.cell? ⟨wr.heap.size, 4, none⟩ = some (.slice va m.mails.length vc) ∧ w'.cell? ⟨wr.heap.size, 5, none⟩ = some (.slice wa m.gones.length wc) ∧ w'.cell? ⟨wr.heap.size, 6, none⟩ = some (.int .i64 m.lost) ∧ w'.cell? ⟨w.heap.size, 0, none⟩ = some (.int .i64 x.valid)) (by kernel_rfl) (HF.out _ DR) (fun hHeld => (show wpAnyH _ _ _ _ _ 21 #[false, false, false, false, false, false, false, false, false, false, false, false, false, false, false, false, false, false, false, false, false] _ _ from ?_))
        refine tq 0 34 hHeld ?_
        refine tq 1 35 hHeld ?_
        refine tq 2 36 hHeld ?_
        refine wpAnyH_ready (rs := [3]) (by kernel_rfl) (by simp) ?_
        refine AllReadyH.cons rfl (fun K hK => ?_) AllReadyH.nil
        go_simp
        refine (HC1 _ (HBV.out _ (Below.step HA1.out DR))).mono ?_
        rintro e w1 ⟨rfl, B⟩
        refine hK.out _ _ (HF.out _ (Below.step DR B)) (fun hHeld => ?_)
        clear hK K
        refine tq 4 38 hHeld ?_
        refine tq 5 39 hHeld ?_
        refine wpAnyH_skips (by kernel_rfl) (fun _ _ _ _ _ h => h) hHeld [6, 7, 8, 9, 10, 11, 12, 13, 14, 15, 16, 17, 18, 19] [40, 41, 42, 43, 44, 45, 46, 47, 48, 49, 50, 51, 52, 53] _ _ _ (by kernel_rfl) ?_
        simp only [List.foldl_cons, List.foldl_nil, Act.put, sA, s0, sS]
        refine tq 20 54 hHeld ?_
        refine wpAnyH_done (by kernel_rfl) ?_ _
        clear HC1 HCF HF HBV HKg HKb HA1
        repeat clear hHeld
        go_wp2
        go_ret
        exact ⟨ret_b (by rw [HS.out]; exact rangeAll_no k hlt HE.out), Below.step (Below.step HB1.out DR) B⟩
      | true =>
        by_cases hkz : (0 : Int) < (k : Int)
        rotate_left
        · have HAH : Hid (aheadB x.boxes m k = true) := by have : k = 0 := by omega
                                                           subst this; rfl
          rw [HAH.out, Bool.true_and, Bool.true_and] at HE
          clear HAH
          have hkN : ¬ 0 < k := by omega
          have hd : decide (0 < k) = false := by simpa using hkN
          go_wp2
          refine wp_region_held_drew (S := fun w' => w'.cell? ⟨wr.heap.size, 0, none⟩ = some (.slice ua un uc) ∧ w'.cell? ⟨wr.heap.size, 1, none⟩ = some (.int .i64 m.valid) ∧ w'.cell? ⟨wr.heap.size, 2, none⟩ = some (.int .i64 m.next) ∧ w'.cell? ⟨wr.heap.size, 3, none⟩ = some (.int .i64 m.seq) ∧ w'.cell? ⟨wr.heap.size, 4, none⟩ = some (.slice va m.mails.length vc) ∧ w'.cell? ⟨wr.heap.size, 5, none⟩ = some (.slice wa m.gones.length wc) ∧ w'.cell? ⟨wr.heap.size, 6, none⟩ = some (.int .i64 m.lost) ∧ w'.cell? ⟨w.heap.size, 0, none⟩ = some (.int .i64 x.valid)) (by kernel_rfl) (HF.out _ DR) (fun hHeld => (show wpAnyH _ _ _ _ _ 21 #[false, false, false, false, false, false, false, false, false, false, false, false, false, false, false, false, false, false, false, false, false] _ _ from ?_))
          refine tq 0 34 hHeld ?_
          refine tq 1 35 hHeld ?_
          refine tq 2 36 hHeld ?_
          refine wpAnyH_ready (rs := [3]) (by kernel_rfl) (by simp) ?_
          refine AllReadyH.cons rfl (fun K hK => ?_) AllReadyH.nil
          go_simp
          refine (HC1 _ (HBV.out _ (Below.step HA1.out DR))).mono ?_
          rintro e w1 ⟨rfl, B⟩
          refine hK.out _ _ (HF.out _ (Below.step DR B)) (fun hHeld => ?_)
          clear hK K
          refine tq 4 38 hHeld ?_
          refine tq 5 39 hHeld ?_
          refine tq 6 40 hHeld ?_
          refine tq 7 41 hHeld ?_
          refine tq 8 42 hHeld ?_
          refine wpAnyH_skips (by kernel_rfl) (fun _ _ _ _ _ h => h) hHeld [9, 10, 11, 12, 13, 14, 15, 16, 17, 18] [43, 44, 45, 46, 47, 48, 49, 50, 51, 52] _ _ _ (by kernel_rfl) ?_
          simp only [List.foldl_cons, List.foldl_nil, Act.put, sA, s0, sS]
          refine tq 19 53 hHeld ?_
          refine tq 20 54 hHeld ?_
          refine wpAnyH_done (by kernel_rfl) ?_ _
          repeat clear hHeld
          have c3' := HCF.out w1 (Below.step DR B)
          have HB2 : Hid (Below w.heap.size w w1) := Below.step (Below.step HB1.out DR) B
          have HKb2 : Hid (w1.heap[w.heap.size]? = some (.cells #[.int .i64 x.valid, .slice (some ⟨b, off, none⟩) x.boxes.length c0, .slice a1 x.seen.length c1] 51)) := box_below B (box_below DR HKb.out)
          clear B DR HB1 HKb HA1 HC1 HF HCF
          cases X3 with
          | true =>
            go_wp2_with fail
            refine c3'.mono ?_
            rintro e w3 ⟨rfl, B⟩
            go_wp2
            go_ret
            exact ⟨ret_b (by rw [HS.out]; exact rangeAll_no k hlt HE.out), Below.step HB2.out B⟩
          | false =>
            go_wp2_with fail
            refine c3'.mono ?_
            rintro e w3 ⟨rfl, B⟩
            have HB3 : Hid (Below w.heap.size w w3) := Below.step HB2.out B
            have HKb3 : Hid (w3.heap[w.heap.size]? = some (.cells #[.int .i64 x.valid, .slice (some ⟨b, off, none⟩) x.boxes.length c0, .slice a1 x.seen.length c1] 51)) := box_below B HKb2.out
            clear B HB2 HKb2
            go_wp2
            go_roundw
            case rel =>
              refine ⟨k + 1, by omega, by go_num, (show Hid _ from fun i hi => ?_), HKb3, HB3⟩
              by_cases e : i = k
              · subst e; exact HE.out
              · exact hA.out i (by omega)
            case measure => simp [intOf]; omega
        · obtain ⟨j, hj⟩ : ∃ j, k = j + 1 := ⟨k - 1, by omega⟩
          have hjk : (j : Int) < (k : Int) := by omega
          have hkN : 0 < k := by omega
          have hd : decide (0 < k) = true := by simpa using hkN
          have hj0 : (0 : Int) ≤ (j : Int) := by omega
          have hw1 : IntKind.i64.wrap ((k : Int) - 1) = (j : Int) := by rw [IntWalk.i64_in _ (by omega)]; omega
          have HJ : Hid (k = j + 1) := hj
          clear hj
          obtain ⟨m', hm'⟩ : ∃ m', x.boxes[j]? = some m' := ⟨x.boxes[j]'(by have := HJ.out; omega), List.getElem?_eq_getElem (by have := HJ.out; omega)⟩
          obtain ⟨b2, off2, cap2, p0, q1, q2, hv2, hlb2, t0, -, -, -, -, -, -, hp0, -⟩ := BoxesV.cell (H0.out wr hB.out).1 j m' hm'
          simp only [Value.slice.injEq, true_and, Option.some.injEq, Addr.mk.injEq, and_true] at hv2
          obtain ⟨⟨rfl, rfl⟩, rfl⟩ := hv2
          obtain ⟨pa, pn, pc, rfl⟩ := hp0.form3
          have HAH : Hid (aheadB x.boxes m k = lessB m'.name m.name) := by rw [HJ.out]; simp [Hid, aheadB, nameAt, hm']
          rw [HAH.out] at HE
          have HCM : Hid (∀ wi, Below wr.heap.size wr wi → Calls Tryz.prog 84 #[.slice pa pn pc, .slice ua un uc] wi fun e w' => e = .returned (.int .i64 (Lib.compareBytes (bts m'.name) (bts m.name))) ∧ w' = wi) := fun wi h => compare_any _ _ m'.name m.name wi (hp0.below h) (hu0.below h)
          have HLC : Hid (lessB m'.name m.name = !decide (0 ≤ Lib.compareBytes (bts m'.name) (bts m.name))) := by simp only [Hid]; rw [less_cmp]; simp [lessB]
          generalize Lib.compareBytes (bts m'.name) (bts m.name) = cv at HCM HLC
          generalize lessB m'.name m.name = L at HE HLC
          have HF2 : Hid (∀ w', Below (wr.alloc (.cells #[.slice ua un uc, .int .i64 m.valid, .int .i64 m.next, .int .i64 m.seq, .slice va m.mails.length vc, .slice wa m.gones.length wc, .int .i64 m.lost] 89)).heap.size (wr.alloc (.cells #[.slice ua un uc, .int .i64 m.valid, .int .i64 m.next, .int .i64 m.seq, .slice va m.mails.length vc, .slice wa m.gones.length wc, .int .i64 m.lost] 89)) w' → (w'.cell? ⟨wr.heap.size, 0, none⟩ = some (.slice ua un uc) ∧ w'.cell? ⟨wr.heap.size, 1, none⟩ = some (.int .i64 m.valid) ∧ w'.cell? ⟨wr.heap.size, 2, none⟩ = some (.int .i64 m.next) ∧ w'.cell? ⟨wr.heap.size, 3, none⟩ = some (.int .i64 m.seq) ∧ w'.cell? ⟨wr.heap.size, 4, none⟩ = some (.slice va m.mails.length vc) ∧ w'.cell? ⟨wr.heap.size, 5, none⟩ = some (.slice wa m.gones.length wc) ∧ w'.cell? ⟨wr.heap.size, 6, none⟩ = some (.int .i64 m.lost) ∧ w'.cell? ⟨w.heap.size, 0, none⟩ = some (.int .i64 x.valid)) ∧ w'.cell? ⟨b, off + j * 7, none⟩ = some (.slice pa pn pc)) := by
            intro w' h
            exact ⟨HF.out w' h, ((Below.step HA1.out h).cell (p := ⟨b, off + j * 7, none⟩) hlb).trans t0⟩
          clear hm' HAH
          by_cases hcv : 0 ≤ cv
          · have HL : Hid (L = false) := by rw [Hid, HLC.out, decide_eq_true hcv]; rfl
            clear HLC
            go_wp2
            refine wp_region_held_drew (S := fun w' => (w'.cell? ⟨wr.heap.size, 0, none⟩ = some (.slice ua un uc) ∧ w'.cell? ⟨wr.heap.size, 1, none⟩ = some (.int .i64 m.valid) ∧ w'.cell? ⟨wr.heap.size, 2, none⟩ = some (.int .i64 m.next) ∧ w'.cell? ⟨wr.heap.size, 3, none⟩ = some (.int .i64 m.seq) ∧ w'.cell? ⟨wr.heap.size, 4, none⟩ = some (.slice va m.mails.length vc) ∧ w'.cell? ⟨wr.heap.size, 5, none⟩ = some (.slice wa m.gones.length wc) ∧ w'.cell? ⟨wr.heap.size, 6, none⟩ = some (.int .i64 m.lost) ∧ w'.cell? ⟨w.heap.size, 0, none⟩ = some (.int .i64 x.valid)) ∧ w'.cell? ⟨b, off + j * 7, none⟩ = some (.slice pa pn pc)) (by kernel_rfl) (HF2.out _ DR) (fun hHeld => (show wpAnyH _ _ _ _ _ 21 #[false, false, false, false, false, false, false, false, false, false, false, false, false, false, false, false, false, false, false, false, false] _ _ from ?_))
            refine tq 0 34 hHeld ?_
            refine tq 1 35 hHeld ?_
            refine tq 2 36 hHeld ?_
            refine wpAnyH_ready (rs := [3]) (by kernel_rfl) (by simp) ?_
            refine AllReadyH.cons rfl (fun K hK => ?_) AllReadyH.nil
            go_simp
            refine (HC1 _ (HBV.out _ (Below.step HA1.out DR))).mono ?_
            rintro e w1 ⟨rfl, B⟩
            refine hK.out _ _ (HF2.out _ (Below.step DR B)) (fun hHeld => ?_)
            clear hK K
            refine tq 4 38 hHeld ?_
            refine tq 5 39 hHeld ?_
            refine tq 6 40 hHeld ?_
            refine tq 7 41 hHeld ?_
            refine tq 8 42 hHeld ?_
            refine tq 9 43 hHeld ?_
            refine tq 10 44 hHeld ?_
            refine tq 11 45 hHeld ?_
            refine tq 12 46 hHeld ?_
            refine tq 13 47 hHeld ?_
            refine tq 14 48 hHeld ?_
            refine tq 15 49 hHeld ?_
            refine tq 16 50 hHeld ?_
            refine wpAnyH_ready (rs := [17]) (by kernel_rfl) (by simp) ?_
            refine AllReadyH.cons rfl (fun K hK => ?_) AllReadyH.nil
            go_simp
            refine (HCM.out _ (Below.step (Below.step HA1.out DR) B)).mono ?_
            rintro e w2 ⟨rfl, rfl⟩
            refine hK.out _ _ (HF2.out _ (Below.step DR B)) (fun hHeld => ?_)
            clear hK K
            refine tq 18 52 hHeld ?_
            refine tq 19 53 hHeld ?_
            refine tq 20 54 hHeld ?_
            refine wpAnyH_done (by kernel_rfl) ?_ _
            clear HC1 HCF HF HBV HKg HKb HA1 HF2 HCM
            repeat clear hHeld
            go_wp2
            go_ret
            exact ⟨ret_b (by rw [HS.out]; exact rangeAll_no k hlt (by rw [HE.out, HL.out]; rfl)), Below.step (Below.step HB1.out DR) B⟩
          · have HL : Hid (L = true) := by rw [Hid, HLC.out, decide_eq_false hcv]; rfl
            rw [HL.out, Bool.true_and, Bool.true_and] at HE
            clear HLC
            go_wp2
            refine wp_region_held_drew (S := fun w' => (w'.cell? ⟨wr.heap.size, 0, none⟩ = some (.slice ua un uc) ∧ w'.cell? ⟨wr.heap.size, 1, none⟩ = some (.int .i64 m.valid) ∧ w'.cell? ⟨wr.heap.size, 2, none⟩ = some (.int .i64 m.next) ∧ w'.cell? ⟨wr.heap.size, 3, none⟩ = some (.int .i64 m.seq) ∧ w'.cell? ⟨wr.heap.size, 4, none⟩ = some (.slice va m.mails.length vc) ∧ w'.cell? ⟨wr.heap.size, 5, none⟩ = some (.slice wa m.gones.length wc) ∧ w'.cell? ⟨wr.heap.size, 6, none⟩ = some (.int .i64 m.lost) ∧ w'.cell? ⟨w.heap.size, 0, none⟩ = some (.int .i64 x.valid)) ∧ w'.cell? ⟨b, off + j * 7, none⟩ = some (.slice pa pn pc)) (by kernel_rfl) (HF2.out _ DR) (fun hHeld => (show wpAnyH _ _ _ _ _ 21 #[false, false, false, false, false, false, false, false, false, false, false, false, false, false, false, false, false, false, false, false, false] _ _ from ?_))
            refine tq 0 34 hHeld ?_
            refine tq 1 35 hHeld ?_
            refine tq 2 36 hHeld ?_
            refine wpAnyH_ready (rs := [3]) (by kernel_rfl) (by simp) ?_
            refine AllReadyH.cons rfl (fun K hK => ?_) AllReadyH.nil
            go_simp
            refine (HC1 _ (HBV.out _ (Below.step HA1.out DR))).mono ?_
            rintro e w1 ⟨rfl, B⟩
            refine hK.out _ _ (HF2.out _ (Below.step DR B)) (fun hHeld => ?_)
            clear hK K
            refine tq 4 38 hHeld ?_
            refine tq 5 39 hHeld ?_
            refine tq 6 40 hHeld ?_
            refine tq 7 41 hHeld ?_
            refine tq 8 42 hHeld ?_
            refine tq 9 43 hHeld ?_
            refine tq 10 44 hHeld ?_
            refine tq 11 45 hHeld ?_
            refine tq 12 46 hHeld ?_
            refine tq 13 47 hHeld ?_
            refine tq 14 48 hHeld ?_
            refine tq 15 49 hHeld ?_
            refine tq 16 50 hHeld ?_
            refine wpAnyH_ready (rs := [17]) (by kernel_rfl) (by simp) ?_
            refine AllReadyH.cons rfl (fun K hK => ?_) AllReadyH.nil
            go_simp
            refine (HCM.out _ (Below.step (Below.step HA1.out DR) B)).mono ?_
            rintro e w2 ⟨rfl, rfl⟩
            refine hK.out _ _ (HF2.out _ (Below.step DR B)) (fun hHeld => ?_)
            clear hK K
            refine tq 18 52 hHeld ?_
            refine tq 19 53 hHeld ?_
            refine tq 20 54 hHeld ?_
            refine wpAnyH_done (by kernel_rfl) ?_ _
            repeat clear hHeld
            clear HF2 HCM
            have c3' := HCF.out w2 (Below.step DR B)
            have HB2 : Hid (Below w.heap.size w w2) := Below.step (Below.step HB1.out DR) B
            have HKb2 : Hid (w2.heap[w.heap.size]? = some (.cells #[.int .i64 x.valid, .slice (some ⟨b, off, none⟩) x.boxes.length c0, .slice a1 x.seen.length c1] 51)) := box_below B (box_below DR HKb.out)
            clear B DR HB1 HKb HA1 HC1 HF HCF
            cases X3 with
            | true =>
              go_wp2_with fail
              refine c3'.mono ?_
              rintro e w3 ⟨rfl, B⟩
              go_wp2
              go_ret
              exact ⟨ret_b (by rw [HS.out]; exact rangeAll_no k hlt HE.out), Below.step HB2.out B⟩
            | false =>
              go_wp2_with fail
              refine c3'.mono ?_
              rintro e w3 ⟨rfl, B⟩
              have HB3 : Hid (Below w.heap.size w w3) := Below.step HB2.out B
              have HKb3 : Hid (w3.heap[w.heap.size]? = some (.cells #[.int .i64 x.valid, .slice (some ⟨b, off, none⟩) x.boxes.length c0, .slice a1 x.seen.length c1] 51)) := box_below B HKb2.out
              clear B HB2 HKb2
              go_wp2
              go_roundw
              case rel =>
                refine ⟨k + 1, by omega, by go_num, (show Hid _ from fun i hi => ?_), HKb3, HB3⟩
                by_cases e : i = k
                · subst e; exact HE.out
                · exact hA.out i (by omega)
              case measure => simp [intOf]; omega
    · obtain rfl : k = x.boxes.length := by omega
      go_wp2
      go_ret
      exact ⟨ret_b (by rw [HS.out]; exact rangeAll_yes hA.out), hB.out⟩

end Go.Proofs.YtdokgpdfdenoaaaGreat

/- What numLimits, cmdWanted, accountWanted, RecordOk of package impl do. -/
namespace Go.Proofs.YtdokgpdfdenoaaaGreat
open Go.RowKit
set_option maxRecDepth 100000
set_option linter.unusedVariables false
set_option linter.unusedSimpArgs false

theorem numLimits_any (k : Int) (w : World) :
    Calls Tryz.prog 62 #[.int .i64 k] w fun e w' => e = .returned (.tuple #[.int .i64 (lowN k), .int .i64 (highN k)]) ∧ w' = w := by
  by_cases h0 : k = 0
  · subst h0
    go_enter Tryz.func62, Tryz.ntmps62
    go_wp2
    exact bodyPost_ret (v := .tuple #[.int .i64 1, .int .i64 1000000]) (by simp [results, Tryz.results62, go_sem]) rfl ⟨rfl, rfl⟩
  by_cases h6 : k = 6
  · subst h6
    go_enter Tryz.func62, Tryz.ntmps62
    go_wp2
    exact bodyPost_ret (v := .tuple #[.int .i64 0, .int .i64 2]) (by simp [results, Tryz.results62, go_sem]) rfl ⟨rfl, rfl⟩
  by_cases h7 : k = 7
  · subst h7
    go_enter Tryz.func62, Tryz.ntmps62
    go_wp2
    exact bodyPost_ret (v := .tuple #[.int .i64 0, .int .i64 0]) (by simp [results, Tryz.results62, go_sem]) rfl ⟨rfl, rfl⟩
  by_cases h8 : k = 8
  · subst h8
    go_enter Tryz.func62, Tryz.ntmps62
    go_wp2
    exact bodyPost_ret (v := .tuple #[.int .i64 0, .int .i64 0]) (by simp [results, Tryz.results62, go_sem]) rfl ⟨rfl, rfl⟩
  have HL : Hid (lowN k = 0 ∧ highN k = 1000000) := by simp [Hid, lowN, highN, h0, h6, h7, h8]
  have e0 : (k == 0) = false := by simp [h0]
  have e6 : (k == 6) = false := by simp [h6]
  have e7 : (k == 7) = false := by simp [h7]
  have e8 : (k == 8) = false := by simp [h8]
  go_enter Tryz.func62, Tryz.ntmps62
  go_wp2
  exact bodyPost_ret (v := .tuple #[.int .i64 0, .int .i64 1000000]) (by simp [results, Tryz.results62, go_sem]) rfl ⟨by rw [HL.out.1, HL.out.2], rfl⟩

set_option maxHeartbeats 1000000 in
theorem accountWanted_zero (k : Int) (a0 a1 : Option Addr) (nb nt c0 c1 : Nat) (w : World) :
    Calls Tryz.prog 64 #[.bool false, .agg #[.int .i64 k, .slice a0 nb c0, .slice a1 nt c1]] w fun e w' => e = .returned (.bool (zA k nb nt)) ∧ Below w.heap.size w w' := by
  have HX : Hid (∀ o, Below w.heap.size w (w.alloc o)) := fun o => (Below.refl _ _).alloc (Nat.le_refl _) o
  go_enter Tryz.func64, Tryz.ntmps64
  go_wp2
  all_goals (go_ret; refine ⟨ret_b ?_, HX.out _⟩; clear HX; unfold zA; (try simp only [beq_iff_eq, beq_eq_false_iff_ne, ne_eq] at *); rw [Bool.eq_iff_iff]; simp; omega)
theorem accountWanted_any (b : Bool) (v : Value) (a : AccD) (w : World) (hv : AccV w v a) :
    Calls Tryz.prog 64 #[.bool b, v] w fun e w' => e = .returned (.bool (bif b then accB a else zeroA a)) ∧ Below w.heap.size w w' := by
  have H0 : Hid (∀ wi, Below w.heap.size w wi → AccV wi v a) := fun wi h => hv.below h
  obtain ⟨u0, u1, rfl, g0, g1, -⟩ := hv
  obtain ⟨a0, c0, rfl, -⟩ := g0.form
  obtain ⟨a1, c1, rfl, -⟩ := g1.form
  clear g0 g1
  cases b with
  | false => exact accountWanted_zero _ _ _ _ _ _ _ w
  | true =>
    have ab : ∀ o, Below w.heap.size w (w.alloc o) := fun o => (Below.refl _ _).alloc (Nat.le_refl _) o
    go_enter Tryz.func64, Tryz.ntmps64
    go_wp2_with fail
    refine (implAccountOk_any _ a _ (H0.out _ (ab _))).mono ?_
    rintro e w1 ⟨rfl, B⟩
    replace B := Below.step (ab _) B
    clear ab H0
    go_wp2
    go_ret
    exact ⟨rfl, B⟩

set_option maxRecDepth 100000 in
set_option maxHeartbeats 2000000 in
theorem implRecordOk_gen (K U N L M : Int) (b0 b3 : Bool) (hb0 : (K == 0) = b0) (hb3 : (K == 3) = b3) (hd0 : decide (K = 0) = b0) (hd3 : decide (K = 3) = b3) (k : Int) (a0 a1 a2 a3 a4 : Option Addr) (nb nt nx mb ms c0 c1 c2 c3 c4 : Nat) (uid mode fl si valid : Int) (w : World) (c X0 X1 X2 X3 X4 : Bool)
    (h0 : ∀ w, Calls Tryz.prog 18 #[.int .i64 K, .int .i64 0, .int .i64 8] w fun e w' => e = .returned (.bool X0) ∧ w' = w)
    (h1 : ∀ w, Calls Tryz.prog 18 #[.int .i64 U, .int .i64 0, .int .i64 2] w fun e w' => e = .returned (.bool X1) ∧ w' = w)
    (hl : ∀ w, Calls Tryz.prog 62 #[.int .i64 K] w fun e w' => e = .returned (.tuple #[.int .i64 L, .int .i64 M]) ∧ w' = w)
    (h2 : ∀ w, Calls Tryz.prog 18 #[.int .i64 N, .int .i64 L, .int .i64 M] w fun e w' => e = .returned (.bool X2) ∧ w' = w)
    (h3 : Hid (∀ wi, Below w.heap.size w wi → Calls Tryz.prog 63 #[.bool b0, .agg #[.int .i64 k, .slice a0 nb c0, .slice a1 nt c1, .int .i64 uid, .int .i64 mode, .int .i64 fl, .int .i64 si, .slice a2 nx c2]] wi fun e w' => e = .returned (.bool X3) ∧ Below wi.heap.size wi w'))
    (h4 : Hid (∀ wi, Below w.heap.size w wi → Calls Tryz.prog 64 #[.bool b3, .agg #[.int .i64 valid, .slice a3 mb c3, .slice a4 ms c4]] wi fun e w' => e = .returned (.bool X4) ∧ Below wi.heap.size wi w'))
    (HC : Hid (c = (X0 && (X1 && (X2 && (X3 && X4)))))) :
    Calls Tryz.prog 42 #[.agg #[.int .i64 K, .int .i64 U, .int .i64 N, .int .i64 k, .slice a0 nb c0, .slice a1 nt c1, .int .i64 uid, .int .i64 mode, .int .i64 fl, .int .i64 si, .slice a2 nx c2, .int .i64 valid, .slice a3 mb c3, .slice a4 ms c4]] w fun e w' => e = .returned (.bool c) ∧ Below w.heap.size w w' := by
  have HX : Hid (∀ o, Below w.heap.size w (w.alloc o)) := fun o => (Below.refl _ _).alloc (Nat.le_refl _) o
  have kA := box_new w (.cells #[.int .i64 K, .int .i64 U, .int .i64 N, .int .i64 k, .slice a0 nb c0, .slice a1 nt c1, .int .i64 uid, .int .i64 mode, .int .i64 fl, .int .i64 si, .slice a2 nx c2, .int .i64 valid, .slice a3 mb c3, .slice a4 ms c4] 53)
  go_enter Tryz.func42, Tryz.ntmps42
  go_wp2_with fail
  refine (h0 _).mono ?_
  rintro e w' ⟨rfl, rfl⟩
  clear h0
  cases X0 with
  | false =>
    go_wp2
    go_ret
    exact ⟨ret_b HC.out, HX.out _⟩
  | true =>
  go_wp2_with fail
  refine (h1 _).mono ?_
  rintro e w' ⟨rfl, rfl⟩
  clear h1
  cases X1 with
  | false =>
    go_wp2
    go_ret
    exact ⟨ret_b HC.out, HX.out _⟩
  | true =>
  go_wp2_with fail
  refine (hl _).mono ?_
  rintro e w' ⟨rfl, rfl⟩
  clear hl
  go_wp2_with fail
  refine (h2 _).mono ?_
  rintro e w' ⟨rfl, rfl⟩
  clear h2
  cases X2 with
  | false =>
    go_wp2
    go_ret
    exact ⟨ret_b HC.out, HX.out _⟩
  | true =>
  go_wp2_with fail
  (try rw [hb0])
  (try rw [hd0])
  refine (h3.out _ (HX.out _)).mono ?_
  rintro e w1 ⟨rfl, B⟩
  have X := Below.step (HX.out _) B
  replace kA := box_below B kA
  clear B h3 HX
  obtain ⟨f0, f1, f2, f3, f4, f5, f6, f7, f8, f9, f10, f11, f12, f13⟩ := bx14 kA
  have hlt := lt_of_heap kA
  cases X3 with
  | false =>
    go_wp2
    go_ret
    exact ⟨ret_b HC.out, X⟩
  | true =>
  go_wp2_with fail
  (try rw [hb3])
  (try rw [hd3])
  refine (h4.out _ X).mono ?_
  rintro e w2 ⟨rfl, B⟩
  replace X := Below.step X B
  clear B h4 f0 f1 f2 f3 f4 f5 f6 f7 f8 f9 f10 f11 f12 f13 hlt kA
  go_wp2
  go_ret
  exact ⟨ret_b HC.out, X⟩
theorem implRecordOk_any (v : Value) (r : RecD) (w : World) (hv : RecV w v r) :
    Calls Tryz.prog 42 #[v] w fun e w' => e = .returned (.bool (recB r)) ∧ Below w.heap.size w w' := by
  have H0 : Hid (∀ wi, Below w.heap.size w wi → RecV wi v r) := fun wi h => hv.below h
  obtain ⟨a0, n0, c0, a1, n1, c1, a2, n2, c2, a3, c3, a4, c4, rfl⟩ := hv.form
  clear hv
  have e0 : (r.kind == 0) = decide (r.kind = 0) := by rw [Bool.eq_iff_iff]; simp
  have e3 : (r.kind == 3) = decide (r.kind = 3) := by rw [Bool.eq_iff_iff]; simp
  exact implRecordOk_gen r.kind r.user r.n _ _ _ _ e0 e3 rfl rfl _ _ _ _ _ _ _ _ _ _ _ _ _ _ _ _ _ _ _ _ _ w _ _ _ _ _ _ (within_any _ _ _) (within_any _ _ _) (numLimits_any _) (within_any _ _ _)
    (fun wi h => cmdWanted_any _ _ r.cmd wi (H0.out wi h).parts.1) (fun wi h => accountWanted_any _ _ r.acc wi (H0.out wi h).parts.2.1) rfl

end Go.Proofs.YtdokgpdfdenoaaaGreat

/- What slices.IndexFunc and slices.ContainsFunc of records, recordsOk, movesPast do. -/
namespace Go.Proofs.YtdokgpdfdenoaaaGreat
open Go.RowKit Go.Shelf
set_option maxRecDepth 100000
set_option linter.unusedVariables false
set_option linter.unusedSimpArgs false

set_option maxRecDepth 100000 in
set_option maxHeartbeats 1000000 in
theorem indexFuncRec (g : Nat) (lb : Array Value) (p : RecD → Bool) (v : Value) (l : List RecD) (w : World) (hv : RecsV w v l) (eg : ∀ args w, (callFunc g args).run Tryz.prog w = .ok (.enter g args) w)
    (hp : ∀ wi x u, Below w.heap.size w wi → RecV wi u x → Calls Tryz.prog g (#[u] ++ lb) wi fun e w' => e = .returned (.bool (p x)) ∧ Below wi.heap.size wi w') :
    Calls Tryz.prog 61 #[v, .func (.func g) #[] lb] w fun e w' => e = .returned (.int .i64 (firstI p l)) ∧ Below w.heap.size w w' := by
  have HV : Hid (∀ wi, Below w.heap.size w wi → RecsV wi v l) := fun wi h => hv.below keepsRec h
  have HP : Hid (∀ wi x u, Below w.heap.size w wi → RecV wi u x → Calls Tryz.prog g (#[u] ++ lb) wi fun e w' => e = .returned (.bool (p x)) ∧ Below wi.heap.size wi w') := hp
  obtain ⟨a, cap, rfl, hlc, hcm⟩ := hv.form
  clear hv hp
  go_enter Tryz.func61, Tryz.ntmps61
  go_wp2
  go_loopw [5, 8] (fun _ i wr => ∃ k : Nat, k ≤ l.length ∧ i = .int .i64 k ∧ Hid (∀ j x, j < k → l[j]? = some x → p x = false) ∧ Hid (Below w.heap.size w wr)) (fun _ i _ => l.length - (intOf i).toNat)
  case atStart => exact ⟨0, Nat.zero_le _, rfl, (fun j x hj => absurd hj (Nat.not_lt_zero _)), Below.refl _ _⟩
  case round =>
    obtain ⟨k, hk, rfl, hA, hB⟩ := hrel
    by_cases hlt : k < l.length
    · obtain ⟨x, hx⟩ : ∃ x, l[k]? = some x := ⟨l[k], List.getElem?_eq_getElem hlt⟩
      obtain ⟨b, off, cap', a0, n0, c0, a1, n1, c1, a2, n2, c2, a3, c3, a4, c4, hv', hlb, d0, d1, d2, d3, d4, d5, d6, d7, d8, d9, d10, d11, d12, d13, hRV⟩ := RecsV.cell (HV.out wr hB.out) k x hx
      simp only [Value.slice.injEq, true_and] at hv'
      obtain ⟨rfl, rfl⟩ := hv'
      have hcall := HP.out wr x (.agg #[.int .i64 x.kind, .int .i64 x.user, .int .i64 x.n, .int .i64 x.cmd.k, .slice a0 n0 c0, .slice a1 n1 c1, .int .i64 x.cmd.uid, .int .i64 x.cmd.mode, .int .i64 x.cmd.fl, .int .i64 x.cmd.si, .slice a2 n2 c2, .int .i64 x.acc.valid, .slice a3 x.acc.boxes.length c3, .slice a4 x.acc.seen.length c4]) hB.out hRV
      clear hRV
      have HX : Hid (l[k]? = some x) := hx
      clear hx
      cases hq : p x with
      | true =>
        rw [hq] at hcall
        have HQ : Hid (p x = true) := hq
        clear hq
        go_wp2_with (go_at_fn g; refine hcall.mono ?_; rintro e w1 ⟨rfl, B⟩)
        go_ret
        exact ⟨ret_i (firstI_hit' hlt HX.out HQ.out hA.out).symm, Below.step hB.out B⟩
      | false =>
        rw [hq] at hcall
        have HQ : Hid (p x = false) := hq
        clear hq
        go_wp2_with (go_at_fn g; refine hcall.mono ?_; rintro e w1 ⟨rfl, B⟩)
        have HB2 : Hid (Below w.heap.size w w1) := Below.step hB.out B
        clear B hB
        go_roundw
        case rel =>
          refine ⟨k + 1, by omega, by go_num, (show Hid _ from fun j y hj hy => ?_), HB2⟩
          by_cases e : j = k
          · subst e; rw [HX.out] at hy; cases hy; exact HQ.out
          · exact hA.out j y (by omega) hy
        case measure => simp [intOf]; omega
    · obtain rfl : k = l.length := by omega
      go_wp2
      go_ret
      exact ⟨ret_i (firstI_none' hA.out).symm, hB.out⟩

set_option maxRecDepth 100000 in
set_option maxHeartbeats 1000000 in
theorem containsFuncRec (g : Nat) (lb : Array Value) (p : RecD → Bool) (v : Value) (l : List RecD) (w : World) (hv : RecsV w v l) (eg : ∀ args w, (callFunc g args).run Tryz.prog w = .ok (.enter g args) w)
    (hp : ∀ wi x u, Below w.heap.size w wi → RecV wi u x → Calls Tryz.prog g (#[u] ++ lb) wi fun e w' => e = .returned (.bool (p x)) ∧ Below wi.heap.size wi w') :
    Calls Tryz.prog 40 #[v, .func (.func g) #[] lb] w fun e w' => e = .returned (.bool (l.any p)) ∧ Below w.heap.size w w' := by
  have hi := indexFuncRec g lb p v l w hv eg hp
  have HF : Hid (l.any p = decide (0 ≤ firstI p l)) := any_firstI p l
  generalize firstI p l = i at hi HF
  obtain ⟨a, cap, rfl, -⟩ := hv.form
  clear hp hv
  go_enter Tryz.func40, Tryz.ntmps40
  go_wp2_with (go_at_call 61; refine hi.mono ?_; rintro e w1 ⟨rfl, B⟩)
  go_ret
  exact ⟨ret_b HF.out, B⟩


def badK (lo hi : Int) (r : RecD) : Bool := !recB r || !inB r.kind lo hi
set_option maxRecDepth 100000 in
set_option maxHeartbeats 1000000 in
theorem recordsOkF_any (lo hi : Int) (g1 g2 : Nat) (v : Value) (r : RecD) (w : World) (hv : RecV w v r) (h1 : w.cell? ⟨g1, 0, none⟩ = some (.int .i64 lo)) (h2 : w.cell? ⟨g2, 0, none⟩ = some (.int .i64 hi)) (l1 : g1 < w.heap.size) (l2 : g2 < w.heap.size) :
    Calls Tryz.prog 41 #[v, .pointer (some ⟨g1, 0, none⟩), .pointer (some ⟨g2, 0, none⟩)] w fun e w' => e = .returned (.bool (badK lo hi r)) ∧ Below w.heap.size w w' := by
  have H0 : Hid (∀ wi, Below w.heap.size w wi → RecV wi v r) := fun wi h => hv.below h
  have H1 : Hid (∀ wi, Below w.heap.size w wi → wi.cell? ⟨g1, 0, none⟩ = some (.int .i64 lo) ∧ wi.cell? ⟨g2, 0, none⟩ = some (.int .i64 hi)) := fun wi h => ⟨(h.cell (p := ⟨g1, 0, none⟩) l1).trans h1, (h.cell (p := ⟨g2, 0, none⟩) l2).trans h2⟩
  obtain ⟨a0, n0, c0, a1, n1, c1, a2, n2, c2, a3, c3, a4, c4, rfl⟩ := hv.form
  clear hv h1 h2
  have X : Below w.heap.size w (w.alloc (.cells #[.int .i64 r.kind, .int .i64 r.user, .int .i64 r.n, .int .i64 r.cmd.k, .slice a0 n0 c0, .slice a1 n1 c1, .int .i64 r.cmd.uid, .int .i64 r.cmd.mode, .int .i64 r.cmd.fl, .int .i64 r.cmd.si, .slice a2 n2 c2, .int .i64 r.acc.valid, .slice a3 r.acc.boxes.length c3, .slice a4 r.acc.seen.length c4] 53)) := (Below.refl _ _).alloc (Nat.le_refl _) _
  have kA := box_new w (.cells #[.int .i64 r.kind, .int .i64 r.user, .int .i64 r.n, .int .i64 r.cmd.k, .slice a0 n0 c0, .slice a1 n1 c1, .int .i64 r.cmd.uid, .int .i64 r.cmd.mode, .int .i64 r.cmd.fl, .int .i64 r.cmd.si, .slice a2 n2 c2, .int .i64 r.acc.valid, .slice a3 r.acc.boxes.length c3, .slice a4 r.acc.seen.length c4] 53)
  go_enter Tryz.func41, Tryz.ntmps41
  go_wp2_with fail
  refine (implRecordOk_any _ r _ (H0.out _ X)).mono ?_
  rintro e w1 ⟨rfl, B⟩
  replace X := Below.step X B
  replace kA := box_below B kA
  clear B H0
  obtain ⟨f0, f1, f2, f3, f4, f5, f6, f7, f8, f9, f10, f11, f12, f13⟩ := bx14 kA
  obtain ⟨q1, q2⟩ := H1.out _ X
  have l3 := lt_of_heap kA
  have m1 := Nat.lt_of_lt_of_le l1 X.size
  have m2 := Nat.lt_of_lt_of_le l2 X.size
  cases hq : recB r with
  | false =>
    have HC : Hid (badK lo hi r = true) := by simp [Hid, badK, hq]
    clear hq
    go_wp2
    go_ret
    exact ⟨ret_b HC.out, X⟩
  | true =>
    have HC : Hid (badK lo hi r = !inB r.kind lo hi) := by simp [Hid, badK, hq]
    clear hq
    go_wp2_with (go_at_call 18; refine (within_any _ _ _ _).mono ?_; rintro e w' ⟨rfl, rfl⟩)
    go_ret
    exact ⟨ret_b HC.out, X⟩
set_option maxRecDepth 100000 in
set_option maxHeartbeats 1000000 in
theorem recordsOk_any (lo hi : Int) (v : Value) (l : List RecD) (w : World) (hv : RecsV w v l) :
    Calls Tryz.prog 19 #[v, .int .i64 lo, .int .i64 hi] w fun e w' => e = .returned (.bool (!(l.any (badK lo hi)))) ∧ Below w.heap.size w w' := by
  obtain ⟨kA, kB, X⟩ := boxes2 w (.cells #[.int .i64 lo] 3) (.cells #[.int .i64 hi] 3)
  have hc := containsFuncRec 41 #[.pointer (some ⟨w.heap.size, 0, none⟩), .pointer (some ⟨w.heap.size + 1, 0, none⟩)] (badK lo hi) v l _ (hv.below keepsRec X) (fun _ _ => by kernel_rfl) (fun wi x u hb hu => by
    have k1 := box_below hb kA
    have k2 := box_below hb kB
    exact recordsOkF_any lo hi w.heap.size (w.heap.size + 1) u x wi hu (by rw [cell_of_row _ _ _ _ _ (0, 0) k1]; rfl) (by rw [cell_of_row _ _ _ _ _ (0, 0) k2]; rfl) (lt_of_heap k1) (lt_of_heap k2))
  have HC : Hid _ := hc
  obtain ⟨a, cap, rfl, -⟩ := hv.form
  clear hv hc kA kB
  go_enter Tryz.func19, Tryz.ntmps19
  go_wp2_with fail
  refine Calls.mono HC.out ?_
  rintro e w1 ⟨rfl, B⟩
  replace X := Below.step X B
  clear B HC
  go_wp2
  go_ret
  exact ⟨rfl, X⟩
def past (h : Int) (r : RecD) : Bool := decide (r.kind = 6) && decide (h ≤ r.n)
set_option maxRecDepth 100000 in
set_option maxHeartbeats 1000000 in
theorem movesPastF_any (h : Int) (g1 : Nat) (v : Value) (r : RecD) (w : World) (hv : RecV w v r) (h1 : w.cell? ⟨g1, 0, none⟩ = some (.int .i64 h)) (l1 : g1 < w.heap.size) :
    Calls Tryz.prog 43 #[v, .pointer (some ⟨g1, 0, none⟩)] w fun e w' => e = .returned (.bool (past h r)) ∧ Below w.heap.size w w' := by
  obtain ⟨a0, n0, c0, a1, n1, c1, a2, n2, c2, a3, c3, a4, c4, rfl⟩ := hv.form
  have X : Below w.heap.size w (w.alloc (.cells #[.int .i64 r.kind, .int .i64 r.user, .int .i64 r.n, .int .i64 r.cmd.k, .slice a0 n0 c0, .slice a1 n1 c1, .int .i64 r.cmd.uid, .int .i64 r.cmd.mode, .int .i64 r.cmd.fl, .int .i64 r.cmd.si, .slice a2 n2 c2, .int .i64 r.acc.valid, .slice a3 r.acc.boxes.length c3, .slice a4 r.acc.seen.length c4] 53)) := (Below.refl _ _).alloc (Nat.le_refl _) _
  have HX : Hid _ := X
  have q1 := (X.cell (p := ⟨g1, 0, none⟩) l1).trans h1
  clear hv X h1
  by_cases h6 : r.kind = 6
  · by_cases hn : h ≤ r.n
    · have HC : Hid (past h r = true) := by simp [Hid, past, h6, hn]
      have e6 : (r.kind == 6) = true := by simp [h6]
      clear h6
      go_enter Tryz.func43, Tryz.ntmps43
      go_wp2
      go_ret
      exact ⟨ret_b HC.out, HX.out⟩
    · have HC : Hid (past h r = false) := by simp [Hid, past, hn]
      have e6 : (r.kind == 6) = true := by simp [h6]
      clear h6
      go_enter Tryz.func43, Tryz.ntmps43
      go_wp2
      go_ret
      exact ⟨ret_b HC.out, HX.out⟩
  · have HC : Hid (past h r = false) := by simp [Hid, past, h6]
    have e6 : (r.kind == 6) = false := by simp [h6]
    clear h6
    go_enter Tryz.func43, Tryz.ntmps43
    go_wp2
    go_ret
    exact ⟨ret_b HC.out, HX.out⟩
set_option maxRecDepth 100000 in
set_option maxHeartbeats 1000000 in
theorem movesPast_any (h : Int) (v : Value) (l : List RecD) (w : World) (hv : RecsV w v l) :
    Calls Tryz.prog 20 #[v, .int .i64 h] w fun e w' => e = .returned (.bool (l.any (past h))) ∧ Below w.heap.size w w' := by
  have X : Below w.heap.size w (w.alloc (.cells #[.int .i64 h] 3)) := (Below.refl _ _).alloc (Nat.le_refl _) _
  have kA := box_new w (.cells #[.int .i64 h] 3)
  have hc := containsFuncRec 43 #[.pointer (some ⟨w.heap.size, 0, none⟩)] (past h) v l _ (hv.below keepsRec X) (fun _ _ => by kernel_rfl) (fun wi x u hb hu => by
    have k1 := box_below hb kA
    exact movesPastF_any h w.heap.size u x wi hu (by rw [cell_of_row _ _ _ _ _ (0, 0) k1]; rfl) (lt_of_heap k1))
  have HC : Hid _ := hc
  obtain ⟨a, cap, rfl, -⟩ := hv.form
  clear hv hc kA
  go_enter Tryz.func20, Tryz.ntmps20
  go_wp2_with fail
  refine Calls.mono HC.out ?_
  rintro e w1 ⟨rfl, B⟩
  replace X := Below.step X B
  clear B HC
  go_wp2
  go_ret
  exact ⟨rfl, X⟩
theorem bookB_any (h : Int) (l : List RecD) : bookB h l = (inB h 1 3 && (!(l.any (badK 6 8)) && !(l.any (past h)))) := by
  rw [Bool.eq_iff_iff]
  simp only [bookB, bookOk, inB, Bool.and_eq_true, decide_eq_true_eq, List.all_eq_true, Bool.not_eq_true', List.any_eq_false, badK, past, Bool.or_eq_true, Bool.and_eq_false_iff, decide_eq_false_iff_not]
  constructor
  · rintro ⟨h0, hA⟩
    refine ⟨h0, fun r hr => ?_, fun r hr => ?_⟩
    · obtain ⟨q0, q1, q2⟩ := hA r hr
      have := recB_range q0
      rintro (h | h)
      · rw [q0] at h; cases h
      · rcases h with h | h <;> omega
    · obtain ⟨q0, q1, q2⟩ := hA r hr
      rintro ⟨h, h'⟩
      rcases q2 with q2 | q2
      · exact q2 h
      · exact q2 h'
  · rintro ⟨h0, hA, hB⟩
    refine ⟨h0, fun r hr => ⟨?_, ?_, ?_⟩⟩
    · have := hA r hr
      cases e : recB r
      · exact absurd (.inl e) this
      · rfl
    · have := hA r hr
      by_cases e : 6 ≤ r.kind
      · exact e
      · exact absurd (.inr (.inl e)) this
    · have := hB r hr
      by_cases e : r.kind = 6
      · exact .inr fun h => this ⟨e, h⟩
      · exact .inl e

end Go.Proofs.YtdokgpdfdenoaaaGreat
