/- The proof's texts, part 5. -/
import Derived.Test.YtdokgpdfdenoaaaGreatPart4
import Derived.Test.YtdokgpdfdenoaaaGreatPart3
import Derived.Test.YtdokgpdfdenoaaaGreatPart2
import Derived.Deep.QuietTactic
import Derived.BigQuiet
import Derived.Test.YtdokgpdfdenoaaaGreatPart1
import Derived.Maps.AppendAt
import Derived.Deep.Light

/- What l5most, l5book of package spec do. -/
namespace Go.Proofs.YtdokgpdfdenoaaaGreat
open Go.RowKit
set_option maxRecDepth 100000
set_option linter.unusedVariables false
set_option linter.unusedSimpArgs false

theorem At.quiet {wr wc : World} {f : Nat → Prop} {g : Nat} {t : TypeId} {cur : Array Value} {o : Nat} {cs : List Value} (h : At wr f g t cur o cs wc) (m : Nat) : At wr f g t cur o cs (wc.drewN m) := ⟨h.blk, ⟨h.wrote.os, h.wrote.tape, h.wrote.output, h.wrote.size, h.wrote.block⟩⟩
theorem At.drew {wr wc : World} {f : Nat → Prop} {g : Nat} {t : TypeId} {cur : Array Value} {o : Nat} {cs : List Value} (h : At wr f g t cur o cs wc) : At wr f g t cur o cs wc.drew := ⟨h.blk, ⟨h.wrote.os, h.wrote.tape, h.wrote.output, h.wrote.size, h.wrote.block⟩⟩
theorem l5most_any (a b : Int) (w : World) : Calls Tryz.prog 37 #[.int .i64 a, .int .i64 b] w fun e w' => e = .returned (.int .i64 (if a > b then a else b)) ∧ w' = w := by
  by_cases h : a > b
  · rw [if_pos h]
    go_enter Tryz.func37, Tryz.ntmps37
    go_wp2
    go_ret
    exact ⟨rfl, rfl⟩
  · rw [if_neg h]
    go_enter Tryz.func37, Tryz.ntmps37
    go_wp2
    go_ret
    exact ⟨rfl, rfl⟩
theorem tabS_l5book : (Tryz.f16.body.bind (opsAt 6)).all (fun o => tableS o 14 [0, 1, 2, 3, 4, 5, 6, 7, 8, 9, 10, 11, 12, 13] [9, 13] [11, 14] 0) = true := by kernel_rfl
set_option maxRecDepth 100000 in
set_option maxHeartbeats 4000000 in
theorem l5book_6a (gb g cap N j : Nat) (cur : Array Value) (f : Nat → Prop) (x : RowD) (n ck uid mode fl si valid : Int) (a0 a1 a2 a3 a4 : Option Addr) (n0 n1 n2 n3 n4 c0 c1 c2 c3 c4 : Nat) (w wb : World) (hwb : wb = (w.alloc (.cells #[.int .i64 6, .int .i64 (j : Int), .int .i64 n, .int .i64 ck, .slice a0 n0 c0, .slice a1 n1 c1, .int .i64 uid, .int .i64 mode, .int .i64 fl, .int .i64 si, .slice a2 n2 c2, .int .i64 valid, .slice a3 n3 c3, .slice a4 n4 c4] 53)))
    (hb : Hid (wb.heap[gb]? = some (.cells #[.slice (some ⟨g, 0, none⟩) N cap] 26))) (A0 : Hid (At wb f g 70 cur (j * 5) [.int .i64 x.epoch, .int .i64 x.owner, .bool true, .int .i64 x.tr, .int .i64 x.target] wb)) (hj : j < N) (hN : N ≤ 1000) (hroom : j * 5 + 5 ≤ cur.size) (hr : Hid (RowOk x)) (hne : g ≠ w.heap.size) (hlt : j * 5 + 5 ≤ 100000) :
    Calls Tryz.prog 16 #[.pointer (some ⟨gb, 0, none⟩), .agg #[.int .i64 6, .int .i64 (j : Int), .int .i64 n, .int .i64 ck, .slice a0 n0 c0, .slice a1 n1 c1, .int .i64 uid, .int .i64 mode, .int .i64 fl, .int .i64 si, .slice a2 n2 c2, .int .i64 valid, .slice a3 n3 c3, .slice a4 n4 c4]] w fun e w' => (∃ z, e = .returned z) ∧ At wb f g 70 cur (j * 5) [.int .i64 x.epoch, .int .i64 x.owner, .bool true, .int .i64 x.tr, .int .i64 x.target] w' := by
  have kq : Hid (wb.heap[w.heap.size]? = some (.cells #[.int .i64 6, .int .i64 (j : Int), .int .i64 n, .int .i64 ck, .slice a0 n0 c0, .slice a1 n1 c1, .int .i64 uid, .int .i64 mode, .int .i64 fl, .int .i64 si, .slice a2 n2 c2, .int .i64 valid, .slice a3 n3 c3, .slice a4 n4 c4] 53)) := by rw [hwb]; exact box_new w _
  have q0 : wb.cell? ⟨w.heap.size, 0, none⟩ = some (.int .i64 6) := (bx14 kq.out).1
  have q1 : wb.cell? ⟨w.heap.size, 1, none⟩ = some (.int .i64 (j : Int)) := (bx14 kq.out).2.1
  have q2 : wb.cell? ⟨w.heap.size, 2, none⟩ = some (.int .i64 n) := (bx14 kq.out).2.2.1
  have hbl : wb.cell? ⟨gb, 0, none⟩ = some (.slice (some ⟨g, 0, none⟩) N cap) := by rw [cell_of_row _ _ _ _ _ (0, 0) hb.out]; rfl
  have hjI : (j : Int) < (N : Int) := by omega
  have l1 := lt_of_heap kq.out
  have l2 := lt_of_heap hb.out
  have l3 := A0.out.lt
  go_enter Tryz.func16, Tryz.ntmps16
  go_wp2
  rw [← hwb]
  clear hwb
  go_quiet (fail)
  have A := (show Hid _ from A0.out.quiet nq)
  have kq1 : Hid ((wb.drewN nq).heap[w.heap.size]? = some (.cells #[.int .i64 6, .int .i64 (j : Int), .int .i64 n, .int .i64 ck, .slice a0 n0 c0, .slice a1 n1 c1, .int .i64 uid, .int .i64 mode, .int .i64 fl, .int .i64 si, .slice a2 n2 c2, .int .i64 valid, .slice a3 n3 c3, .slice a4 n4 c4] 53)) := kq.out
  generalize wb.drewN nq = wc at A kq1 ⊢
  clear q0 q1 q2 hbl l1 l2 l3 kq
  have q0 : wc.cell? ⟨w.heap.size, 0, none⟩ = some (.int .i64 6) := (bx14 kq1.out).1
  have q2 : wc.cell? ⟨w.heap.size, 2, none⟩ = some (.int .i64 n) := (bx14 kq1.out).2.2.1
  have l1 := lt_of_heap kq1.out
  have l3 := A.out.lt
  have d0 := A.out.cell 0 _ rfl
  have d1 := A.out.cell 1 _ rfl
  have d2 := A.out.cell 2 _ rfl
  have d3 := A.out.cell 3 _ rfl
  have d4 := A.out.cell 4 _ rfl
  simp only [Nat.add_zero] at d0
  go_wp2
  go_quiet (fail)
  have A' := (show Hid _ from A.out.quiet nq)
  generalize wc.drewN nq = wd at A' ⊢
  clear q0 q2 l1 l3 d0 d1 d2 d3 d4 A
  go_wp2
  go_end0
  exact ⟨⟨_, rfl⟩, A'.out⟩

set_option maxRecDepth 100000 in
set_option maxHeartbeats 4000000 in
theorem l5book_6b (gb g cap N j : Nat) (cur : Array Value) (f : Nat → Prop) (x : RowD) (n ck uid mode fl si valid : Int) (a0 a1 a2 a3 a4 : Option Addr) (n0 n1 n2 n3 n4 c0 c1 c2 c3 c4 : Nat) (w wb : World) (hwb : wb = (w.alloc (.cells #[.int .i64 6, .int .i64 (j : Int), .int .i64 n, .int .i64 ck, .slice a0 n0 c0, .slice a1 n1 c1, .int .i64 uid, .int .i64 mode, .int .i64 fl, .int .i64 si, .slice a2 n2 c2, .int .i64 valid, .slice a3 n3 c3, .slice a4 n4 c4] 53)))
    (hb : Hid (wb.heap[gb]? = some (.cells #[.slice (some ⟨g, 0, none⟩) N cap] 26))) (A0 : Hid (At wb f g 70 cur (j * 5) [.int .i64 x.epoch, .int .i64 x.owner, .bool false, .int .i64 x.tr, .int .i64 x.target] wb)) (hj : j < N) (hN : N ≤ 1000) (hroom : j * 5 + 5 ≤ cur.size) (hr : Hid (RowOk x)) (hne : g ≠ w.heap.size) (hlt : j * 5 + 5 ≤ 100000) (h1 : Hid (n = x.owner)) :
    Calls Tryz.prog 16 #[.pointer (some ⟨gb, 0, none⟩), .agg #[.int .i64 6, .int .i64 (j : Int), .int .i64 n, .int .i64 ck, .slice a0 n0 c0, .slice a1 n1 c1, .int .i64 uid, .int .i64 mode, .int .i64 fl, .int .i64 si, .slice a2 n2 c2, .int .i64 valid, .slice a3 n3 c3, .slice a4 n4 c4]] w fun e w' => (∃ z, e = .returned z) ∧ At wb f g 70 cur (j * 5) [.int .i64 x.epoch, .int .i64 x.owner, .bool false, .int .i64 x.tr, .int .i64 x.target] w' := by
  have kq : Hid (wb.heap[w.heap.size]? = some (.cells #[.int .i64 6, .int .i64 (j : Int), .int .i64 n, .int .i64 ck, .slice a0 n0 c0, .slice a1 n1 c1, .int .i64 uid, .int .i64 mode, .int .i64 fl, .int .i64 si, .slice a2 n2 c2, .int .i64 valid, .slice a3 n3 c3, .slice a4 n4 c4] 53)) := by rw [hwb]; exact box_new w _
  have q0 : wb.cell? ⟨w.heap.size, 0, none⟩ = some (.int .i64 6) := (bx14 kq.out).1
  have q1 : wb.cell? ⟨w.heap.size, 1, none⟩ = some (.int .i64 (j : Int)) := (bx14 kq.out).2.1
  have q2 : wb.cell? ⟨w.heap.size, 2, none⟩ = some (.int .i64 n) := (bx14 kq.out).2.2.1
  have hbl : wb.cell? ⟨gb, 0, none⟩ = some (.slice (some ⟨g, 0, none⟩) N cap) := by rw [cell_of_row _ _ _ _ _ (0, 0) hb.out]; rfl
  have hjI : (j : Int) < (N : Int) := by omega
  have l1 := lt_of_heap kq.out
  have l2 := lt_of_heap hb.out
  have l3 := A0.out.lt
  go_enter Tryz.func16, Tryz.ntmps16
  go_wp2
  rw [← hwb]
  clear hwb
  go_quiet (fail)
  have A := (show Hid _ from A0.out.quiet nq)
  have kq1 : Hid ((wb.drewN nq).heap[w.heap.size]? = some (.cells #[.int .i64 6, .int .i64 (j : Int), .int .i64 n, .int .i64 ck, .slice a0 n0 c0, .slice a1 n1 c1, .int .i64 uid, .int .i64 mode, .int .i64 fl, .int .i64 si, .slice a2 n2 c2, .int .i64 valid, .slice a3 n3 c3, .slice a4 n4 c4] 53)) := kq.out
  generalize wb.drewN nq = wc at A kq1 ⊢
  clear q0 q1 q2 hbl l1 l2 l3 kq
  have q0 : wc.cell? ⟨w.heap.size, 0, none⟩ = some (.int .i64 6) := (bx14 kq1.out).1
  have q2 : wc.cell? ⟨w.heap.size, 2, none⟩ = some (.int .i64 n) := (bx14 kq1.out).2.2.1
  have l1 := lt_of_heap kq1.out
  have l3 := A.out.lt
  have d0 := A.out.cell 0 _ rfl
  have d1 := A.out.cell 1 _ rfl
  have d2 := A.out.cell 2 _ rfl
  have d3 := A.out.cell 3 _ rfl
  have d4 := A.out.cell 4 _ rfl
  simp only [Nat.add_zero] at d0
  have t1 : (n != x.owner) = false := by simpa using h1.out
  go_wp2
  go_quiet (fail)
  have A' := (show Hid _ from A.out.quiet nq)
  generalize wc.drewN nq = wd at A' ⊢
  clear q0 q2 l1 l3 d0 d1 d2 d3 d4 A
  go_wp2
  go_end0
  exact ⟨⟨_, rfl⟩, A'.out⟩

set_option maxRecDepth 100000 in
set_option maxHeartbeats 4000000 in
theorem l5book_6c (gb g cap N j : Nat) (cur : Array Value) (f : Nat → Prop) (x : RowD) (n ck uid mode fl si valid : Int) (a0 a1 a2 a3 a4 : Option Addr) (n0 n1 n2 n3 n4 c0 c1 c2 c3 c4 : Nat) (w wb : World) (hwb : wb = (w.alloc (.cells #[.int .i64 6, .int .i64 (j : Int), .int .i64 n, .int .i64 ck, .slice a0 n0 c0, .slice a1 n1 c1, .int .i64 uid, .int .i64 mode, .int .i64 fl, .int .i64 si, .slice a2 n2 c2, .int .i64 valid, .slice a3 n3 c3, .slice a4 n4 c4] 53)))
    (hb : Hid (wb.heap[gb]? = some (.cells #[.slice (some ⟨g, 0, none⟩) N cap] 26))) (A0 : Hid (At wb f g 70 cur (j * 5) [.int .i64 x.epoch, .int .i64 x.owner, .bool false, .int .i64 x.tr, .int .i64 x.target] wb)) (hj : j < N) (hN : N ≤ 1000) (hroom : j * 5 + 5 ≤ cur.size) (hr : Hid (RowOk x)) (hne : g ≠ w.heap.size) (hlt : j * 5 + 5 ≤ 100000) (h1 : n ≠ x.owner) (h2 : 1000000 ≤ x.tr) :
    Calls Tryz.prog 16 #[.pointer (some ⟨gb, 0, none⟩), .agg #[.int .i64 6, .int .i64 (j : Int), .int .i64 n, .int .i64 ck, .slice a0 n0 c0, .slice a1 n1 c1, .int .i64 uid, .int .i64 mode, .int .i64 fl, .int .i64 si, .slice a2 n2 c2, .int .i64 valid, .slice a3 n3 c3, .slice a4 n4 c4]] w fun e w' => (∃ z, e = .returned z) ∧ At wb f g 70 cur (j * 5) [.int .i64 x.epoch, .int .i64 x.owner, .bool false, .int .i64 x.tr, .int .i64 x.target] w' := by
  have kq : Hid (wb.heap[w.heap.size]? = some (.cells #[.int .i64 6, .int .i64 (j : Int), .int .i64 n, .int .i64 ck, .slice a0 n0 c0, .slice a1 n1 c1, .int .i64 uid, .int .i64 mode, .int .i64 fl, .int .i64 si, .slice a2 n2 c2, .int .i64 valid, .slice a3 n3 c3, .slice a4 n4 c4] 53)) := by rw [hwb]; exact box_new w _
  have q0 : wb.cell? ⟨w.heap.size, 0, none⟩ = some (.int .i64 6) := (bx14 kq.out).1
  have q1 : wb.cell? ⟨w.heap.size, 1, none⟩ = some (.int .i64 (j : Int)) := (bx14 kq.out).2.1
  have q2 : wb.cell? ⟨w.heap.size, 2, none⟩ = some (.int .i64 n) := (bx14 kq.out).2.2.1
  have hbl : wb.cell? ⟨gb, 0, none⟩ = some (.slice (some ⟨g, 0, none⟩) N cap) := by rw [cell_of_row _ _ _ _ _ (0, 0) hb.out]; rfl
  have hjI : (j : Int) < (N : Int) := by omega
  have l1 := lt_of_heap kq.out
  have l2 := lt_of_heap hb.out
  have l3 := A0.out.lt
  go_enter Tryz.func16, Tryz.ntmps16
  go_wp2
  rw [← hwb]
  clear hwb
  go_quiet (fail)
  have A := (show Hid _ from A0.out.quiet nq)
  have kq1 : Hid ((wb.drewN nq).heap[w.heap.size]? = some (.cells #[.int .i64 6, .int .i64 (j : Int), .int .i64 n, .int .i64 ck, .slice a0 n0 c0, .slice a1 n1 c1, .int .i64 uid, .int .i64 mode, .int .i64 fl, .int .i64 si, .slice a2 n2 c2, .int .i64 valid, .slice a3 n3 c3, .slice a4 n4 c4] 53)) := kq.out
  generalize wb.drewN nq = wc at A kq1 ⊢
  clear q0 q1 q2 hbl l1 l2 l3 kq
  have q0 : wc.cell? ⟨w.heap.size, 0, none⟩ = some (.int .i64 6) := (bx14 kq1.out).1
  have q2 : wc.cell? ⟨w.heap.size, 2, none⟩ = some (.int .i64 n) := (bx14 kq1.out).2.2.1
  have l1 := lt_of_heap kq1.out
  have l3 := A.out.lt
  have d0 := A.out.cell 0 _ rfl
  have d1 := A.out.cell 1 _ rfl
  have d2 := A.out.cell 2 _ rfl
  have d3 := A.out.cell 3 _ rfl
  have d4 := A.out.cell 4 _ rfl
  simp only [Nat.add_zero] at d0
  have t1 : (n != x.owner) = true := by simpa using h1
  have t2 : decide (x.tr < 1000000) = false := decide_eq_false (by omega)
  go_wp2
  go_quiet (fail)
  have A' := (show Hid _ from A.out.quiet nq)
  generalize wc.drewN nq = wd at A' ⊢
  clear q0 q2 l1 l3 d0 d1 d2 d3 d4 A
  go_wp2
  go_end0
  exact ⟨⟨_, rfl⟩, A'.out⟩

set_option maxRecDepth 100000 in
set_option maxHeartbeats 4000000 in
theorem l5book_6d (gb g cap N j : Nat) (cur : Array Value) (f : Nat → Prop) (x : RowD) (n ck uid mode fl si valid : Int) (a0 a1 a2 a3 a4 : Option Addr) (n0 n1 n2 n3 n4 c0 c1 c2 c3 c4 : Nat) (w wb : World) (hwb : wb = (w.alloc (.cells #[.int .i64 6, .int .i64 (j : Int), .int .i64 n, .int .i64 ck, .slice a0 n0 c0, .slice a1 n1 c1, .int .i64 uid, .int .i64 mode, .int .i64 fl, .int .i64 si, .slice a2 n2 c2, .int .i64 valid, .slice a3 n3 c3, .slice a4 n4 c4] 53)))
    (hb : Hid (wb.heap[gb]? = some (.cells #[.slice (some ⟨g, 0, none⟩) N cap] 26))) (A0 : Hid (At wb f g 70 cur (j * 5) [.int .i64 x.epoch, .int .i64 x.owner, .bool false, .int .i64 x.tr, .int .i64 x.target] wb)) (hj : j < N) (hN : N ≤ 1000) (hroom : j * 5 + 5 ≤ cur.size) (hr : Hid (RowOk x)) (hne : g ≠ w.heap.size) (hlt : j * 5 + 5 ≤ 100000) (h1 : n ≠ x.owner) (h2 : x.tr < 1000000) (h3 : 1000000 ≤ x.epoch) :
    Calls Tryz.prog 16 #[.pointer (some ⟨gb, 0, none⟩), .agg #[.int .i64 6, .int .i64 (j : Int), .int .i64 n, .int .i64 ck, .slice a0 n0 c0, .slice a1 n1 c1, .int .i64 uid, .int .i64 mode, .int .i64 fl, .int .i64 si, .slice a2 n2 c2, .int .i64 valid, .slice a3 n3 c3, .slice a4 n4 c4]] w fun e w' => (∃ z, e = .returned z) ∧ At wb f g 70 cur (j * 5) [.int .i64 x.epoch, .int .i64 x.owner, .bool false, .int .i64 x.tr, .int .i64 x.target] w' := by
  have kq : Hid (wb.heap[w.heap.size]? = some (.cells #[.int .i64 6, .int .i64 (j : Int), .int .i64 n, .int .i64 ck, .slice a0 n0 c0, .slice a1 n1 c1, .int .i64 uid, .int .i64 mode, .int .i64 fl, .int .i64 si, .slice a2 n2 c2, .int .i64 valid, .slice a3 n3 c3, .slice a4 n4 c4] 53)) := by rw [hwb]; exact box_new w _
  have q0 : wb.cell? ⟨w.heap.size, 0, none⟩ = some (.int .i64 6) := (bx14 kq.out).1
  have q1 : wb.cell? ⟨w.heap.size, 1, none⟩ = some (.int .i64 (j : Int)) := (bx14 kq.out).2.1
  have q2 : wb.cell? ⟨w.heap.size, 2, none⟩ = some (.int .i64 n) := (bx14 kq.out).2.2.1
  have hbl : wb.cell? ⟨gb, 0, none⟩ = some (.slice (some ⟨g, 0, none⟩) N cap) := by rw [cell_of_row _ _ _ _ _ (0, 0) hb.out]; rfl
  have hjI : (j : Int) < (N : Int) := by omega
  have l1 := lt_of_heap kq.out
  have l2 := lt_of_heap hb.out
  have l3 := A0.out.lt
  go_enter Tryz.func16, Tryz.ntmps16
  go_wp2
  rw [← hwb]
  clear hwb
  go_quiet (fail)
  have A := (show Hid _ from A0.out.quiet nq)
  have kq1 : Hid ((wb.drewN nq).heap[w.heap.size]? = some (.cells #[.int .i64 6, .int .i64 (j : Int), .int .i64 n, .int .i64 ck, .slice a0 n0 c0, .slice a1 n1 c1, .int .i64 uid, .int .i64 mode, .int .i64 fl, .int .i64 si, .slice a2 n2 c2, .int .i64 valid, .slice a3 n3 c3, .slice a4 n4 c4] 53)) := kq.out
  generalize wb.drewN nq = wc at A kq1 ⊢
  clear q0 q1 q2 hbl l1 l2 l3 kq
  have q0 : wc.cell? ⟨w.heap.size, 0, none⟩ = some (.int .i64 6) := (bx14 kq1.out).1
  have q2 : wc.cell? ⟨w.heap.size, 2, none⟩ = some (.int .i64 n) := (bx14 kq1.out).2.2.1
  have l1 := lt_of_heap kq1.out
  have l3 := A.out.lt
  have d0 := A.out.cell 0 _ rfl
  have d1 := A.out.cell 1 _ rfl
  have d2 := A.out.cell 2 _ rfl
  have d3 := A.out.cell 3 _ rfl
  have d4 := A.out.cell 4 _ rfl
  simp only [Nat.add_zero] at d0
  have t1 : (n != x.owner) = true := by simpa using h1
  have t3 : decide (x.epoch < 1000000) = false := decide_eq_false (by omega)
  go_wp2
  go_quiet (fail)
  have A' := (show Hid _ from A.out.quiet nq)
  generalize wc.drewN nq = wd at A' ⊢
  clear q0 q2 l1 l3 d0 d1 d2 d3 d4 A
  go_wp2
  go_end0
  exact ⟨⟨_, rfl⟩, A'.out⟩

set_option maxRecDepth 100000 in
set_option maxHeartbeats 4000000 in
theorem l5book_6e (gb g cap N j : Nat) (cur : Array Value) (f : Nat → Prop) (x : RowD) (n ck uid mode fl si valid : Int) (a0 a1 a2 a3 a4 : Option Addr) (n0 n1 n2 n3 n4 c0 c1 c2 c3 c4 : Nat) (w wb : World) (hwb : wb = (w.alloc (.cells #[.int .i64 6, .int .i64 (j : Int), .int .i64 n, .int .i64 ck, .slice a0 n0 c0, .slice a1 n1 c1, .int .i64 uid, .int .i64 mode, .int .i64 fl, .int .i64 si, .slice a2 n2 c2, .int .i64 valid, .slice a3 n3 c3, .slice a4 n4 c4] 53)))
    (hb : Hid (wb.heap[gb]? = some (.cells #[.slice (some ⟨g, 0, none⟩) N cap] 26))) (A0 : Hid (At wb f g 70 cur (j * 5) [.int .i64 x.epoch, .int .i64 x.owner, .bool false, .int .i64 x.tr, .int .i64 x.target] wb)) (hj : j < N) (hN : N ≤ 1000) (hroom : j * 5 + 5 ≤ cur.size) (hr : Hid (RowOk x)) (hne : g ≠ w.heap.size) (hlt : j * 5 + 5 ≤ 100000) (h1 : n ≠ x.owner) (h2 : x.tr < 1000000) (h3 : x.epoch < 1000000) (MX : Int) (HMX : Hid ((if x.tr > x.epoch then x.tr else x.epoch) = MX)) :
    Calls Tryz.prog 16 #[.pointer (some ⟨gb, 0, none⟩), .agg #[.int .i64 6, .int .i64 (j : Int), .int .i64 n, .int .i64 ck, .slice a0 n0 c0, .slice a1 n1 c1, .int .i64 uid, .int .i64 mode, .int .i64 fl, .int .i64 si, .slice a2 n2 c2, .int .i64 valid, .slice a3 n3 c3, .slice a4 n4 c4]] w fun e w' => (∃ z, e = .returned z) ∧ At wb f g 70 cur (j * 5) [.int .i64 x.epoch, .int .i64 x.owner, .bool true, .int .i64 (MX + 1), .int .i64 n] w' := by
  have kq : Hid (wb.heap[w.heap.size]? = some (.cells #[.int .i64 6, .int .i64 (j : Int), .int .i64 n, .int .i64 ck, .slice a0 n0 c0, .slice a1 n1 c1, .int .i64 uid, .int .i64 mode, .int .i64 fl, .int .i64 si, .slice a2 n2 c2, .int .i64 valid, .slice a3 n3 c3, .slice a4 n4 c4] 53)) := by rw [hwb]; exact box_new w _
  have q0 : wb.cell? ⟨w.heap.size, 0, none⟩ = some (.int .i64 6) := (bx14 kq.out).1
  have q1 : wb.cell? ⟨w.heap.size, 1, none⟩ = some (.int .i64 (j : Int)) := (bx14 kq.out).2.1
  have q2 : wb.cell? ⟨w.heap.size, 2, none⟩ = some (.int .i64 n) := (bx14 kq.out).2.2.1
  have hbl : wb.cell? ⟨gb, 0, none⟩ = some (.slice (some ⟨g, 0, none⟩) N cap) := by rw [cell_of_row _ _ _ _ _ (0, 0) hb.out]; rfl
  have hjI : (j : Int) < (N : Int) := by omega
  have l1 := lt_of_heap kq.out
  have l2 := lt_of_heap hb.out
  have l3 := A0.out.lt
  go_enter Tryz.func16, Tryz.ntmps16
  go_wp2
  rw [← hwb]
  clear hwb
  go_quiet (fail)
  have A := (show Hid _ from A0.out.quiet nq)
  have kq1 : Hid ((wb.drewN nq).heap[w.heap.size]? = some (.cells #[.int .i64 6, .int .i64 (j : Int), .int .i64 n, .int .i64 ck, .slice a0 n0 c0, .slice a1 n1 c1, .int .i64 uid, .int .i64 mode, .int .i64 fl, .int .i64 si, .slice a2 n2 c2, .int .i64 valid, .slice a3 n3 c3, .slice a4 n4 c4] 53)) := kq.out
  generalize wb.drewN nq = wc at A kq1 ⊢
  clear q0 q1 q2 hbl l1 l2 l3 kq
  have q0 : wc.cell? ⟨w.heap.size, 0, none⟩ = some (.int .i64 6) := (bx14 kq1.out).1
  have q2 : wc.cell? ⟨w.heap.size, 2, none⟩ = some (.int .i64 n) := (bx14 kq1.out).2.2.1
  have l1 := lt_of_heap kq1.out
  have l3 := A.out.lt
  have d0 := A.out.cell 0 _ rfl
  have d1 := A.out.cell 1 _ rfl
  have d2 := A.out.cell 2 _ rfl
  have d3 := A.out.cell 3 _ rfl
  have d4 := A.out.cell 4 _ rfl
  simp only [Nat.add_zero] at d0
  have t1 : (n != x.owner) = true := by simpa using h1
  go_wp2
  go_quiet (fail)
  have A' := (show Hid _ from A.out.quiet nq)
  have kq2 : Hid ((wc.drewN nq).heap[w.heap.size]? = some (.cells #[.int .i64 6, .int .i64 (j : Int), .int .i64 n, .int .i64 ck, .slice a0 n0 c0, .slice a1 n1 c1, .int .i64 uid, .int .i64 mode, .int .i64 fl, .int .i64 si, .slice a2 n2 c2, .int .i64 valid, .slice a3 n3 c3, .slice a4 n4 c4] 53)) := kq1.out
  generalize wc.drewN nq = wd at A' kq2 ⊢
  clear q0 q2 l1 l3 d0 d1 d2 d3 d4 A kq1
  have d2 := A'.out.cell 2 _ rfl
  have fz := A'.out.frozen
  have l3 := A'.out.lt
  have B := (show Hid _ from A'.out.set 2 (.bool true) (by simp) (by simp; omega))
  have kq3 := (show Hid _ from box_other (i := j * 5 + 2) (v := .bool true) kq2.out (Ne.symm hne))
  have r0 := B.out.cell 0 _ rfl
  have r3 := B.out.cell 3 _ rfl
  have r4 := B.out.cell 4 _ rfl
  simp only [Nat.add_zero] at r0
  have fz2 := B.out.frozen
  have l32 := B.out.lt
  have hO := hr.out
  obtain ⟨o1, o2, o3, o4, o5, o6, o7, o8⟩ := hO
  have hmx : (if x.tr > x.epoch then x.tr else x.epoch) + 1 ≤ 2000000 ∧ 0 ≤ (if x.tr > x.epoch then x.tr else x.epoch) + 1 := by split <;> omega
  rw [HMX.out] at hmx
  have hwr : IntKind.i64.wrap (MX + 1) = MX + 1 := IntWalk.i64_in _ (by omega)
  go_wp2
  refine wpS_begin 11 (S := fun w' => w'.cell? ⟨g, j * 5 + 3, none⟩ = some (.int .i64 x.tr) ∧ w'.cell? ⟨g, j * 5, none⟩ = some (.int .i64 x.epoch)) (tabS_of (by kernel_rfl) tabS_l5book) (by kernel_rfl) (⟨r3, r0⟩) (fun hTb hHeld => ?_)
  refine tks 0 0 47 hTb hHeld ?_
  refine tks 1 1 48 hTb hHeld ?_
  refine tks 2 2 49 hTb hHeld ?_
  refine tks 3 3 50 hTb hHeld ?_
  refine tks 4 4 51 hTb hHeld ?_
  refine tks 5 5 52 hTb hHeld ?_
  refine tks 6 6 53 hTb hHeld ?_
  refine tks 7 7 54 hTb hHeld ?_
  refine tks 8 8 55 hTb hHeld ?_
  refine cls 9 9 hTb (by decide) rfl rfl (fun K hK => ?_)
  go_simp
  refine (l5most_any x.tr x.epoch _).mono ?_
  rintro e w1 ⟨rfl, rfl⟩
  rw [HMX.out]
  refine hK.out _ _ (hHeld) (fun hHeld => ?_)
  clear hK K
  refine tks 10 10 57 hTb hHeld ?_
  refine wpS_next (S' := fun w' => True) 11 14 hTb (by decide) (trivial) (fun hHeld => ?_)
  refine tks 11 11 58 hTb hHeld ?_
  refine tks 12 12 59 hTb hHeld ?_
  refine cls 13 13 hTb (by decide) rfl rfl (fun K hK => ?_)
  go_simp
  refine hK.out _ _ (trivial) (fun hHeld => ?_)
  clear hK K
  refine wpS_end hTb ?_
  have Cc : Hid (At wb f g 70 cur (j * 5) [.int .i64 x.epoch, .int .i64 x.owner, .bool true, .int .i64 (MX + 1), .int .i64 x.target] (((wd.setCell ⟨g, j * 5 + 2, none⟩ (.bool true)).setCell ⟨g, j * 5 + 3, none⟩ (.int .i64 (MX + 1))).drew)) := (B.out.set 3 (.int .i64 (MX + 1)) (by simp) (by simp; omega)).drew
  have kq4 : Hid ((((wd.setCell ⟨g, j * 5 + 2, none⟩ (.bool true)).setCell ⟨g, j * 5 + 3, none⟩ (.int .i64 (MX + 1))).drew).heap[w.heap.size]? = some (.cells #[.int .i64 6, .int .i64 (j : Int), .int .i64 n, .int .i64 ck, .slice a0 n0 c0, .slice a1 n1 c1, .int .i64 uid, .int .i64 mode, .int .i64 fl, .int .i64 si, .slice a2 n2 c2, .int .i64 valid, .slice a3 n3 c3, .slice a4 n4 c4] 53)) := box_other (i := j * 5 + 3) (v := .int .i64 (MX + 1)) kq3.out (Ne.symm hne)
  clear A' B fz d2 l3 r0 r3 r4 fz2 l32 kq3 kq2
  generalize ((wd.setCell ⟨g, j * 5 + 2, none⟩ (.bool true)).setCell ⟨g, j * 5 + 3, none⟩ (.int .i64 (MX + 1))).drew = we at Cc kq4 ⊢
  have q2 : we.cell? ⟨w.heap.size, 2, none⟩ = some (.int .i64 n) := (bx14 kq4.out).2.2.1
  have l1 := lt_of_heap kq4.out
  have l3 := Cc.out.lt
  have d4 := Cc.out.cell 4 _ rfl
  have fz := Cc.out.frozen
  have D := (show Hid _ from Cc.out.set 4 (.int .i64 n) (by simp) (by simp; omega))
  go_wp2
  go_end0
  exact ⟨⟨_, rfl⟩, D.out⟩

set_option maxRecDepth 100000 in
set_option maxHeartbeats 4000000 in
theorem l5book_7a (gb g cap N j : Nat) (cur : Array Value) (f : Nat → Prop) (x : RowD) (n ck uid mode fl si valid : Int) (a0 a1 a2 a3 a4 : Option Addr) (n0 n1 n2 n3 n4 c0 c1 c2 c3 c4 : Nat) (w wb : World) (hwb : wb = (w.alloc (.cells #[.int .i64 7, .int .i64 (j : Int), .int .i64 n, .int .i64 ck, .slice a0 n0 c0, .slice a1 n1 c1, .int .i64 uid, .int .i64 mode, .int .i64 fl, .int .i64 si, .slice a2 n2 c2, .int .i64 valid, .slice a3 n3 c3, .slice a4 n4 c4] 53)))
    (hb : Hid (wb.heap[gb]? = some (.cells #[.slice (some ⟨g, 0, none⟩) N cap] 26))) (A0 : Hid (At wb f g 70 cur (j * 5) [.int .i64 x.epoch, .int .i64 x.owner, .bool false, .int .i64 x.tr, .int .i64 x.target] wb)) (hj : j < N) (hN : N ≤ 1000) (hroom : j * 5 + 5 ≤ cur.size) (hr : Hid (RowOk x)) (hne : g ≠ w.heap.size) (hlt : j * 5 + 5 ≤ 100000) :
    Calls Tryz.prog 16 #[.pointer (some ⟨gb, 0, none⟩), .agg #[.int .i64 7, .int .i64 (j : Int), .int .i64 n, .int .i64 ck, .slice a0 n0 c0, .slice a1 n1 c1, .int .i64 uid, .int .i64 mode, .int .i64 fl, .int .i64 si, .slice a2 n2 c2, .int .i64 valid, .slice a3 n3 c3, .slice a4 n4 c4]] w fun e w' => (∃ z, e = .returned z) ∧ At wb f g 70 cur (j * 5) [.int .i64 x.epoch, .int .i64 x.owner, .bool false, .int .i64 x.tr, .int .i64 x.target] w' := by
  have kq : Hid (wb.heap[w.heap.size]? = some (.cells #[.int .i64 7, .int .i64 (j : Int), .int .i64 n, .int .i64 ck, .slice a0 n0 c0, .slice a1 n1 c1, .int .i64 uid, .int .i64 mode, .int .i64 fl, .int .i64 si, .slice a2 n2 c2, .int .i64 valid, .slice a3 n3 c3, .slice a4 n4 c4] 53)) := by rw [hwb]; exact box_new w _
  have q0 : wb.cell? ⟨w.heap.size, 0, none⟩ = some (.int .i64 7) := (bx14 kq.out).1
  have q1 : wb.cell? ⟨w.heap.size, 1, none⟩ = some (.int .i64 (j : Int)) := (bx14 kq.out).2.1
  have q2 : wb.cell? ⟨w.heap.size, 2, none⟩ = some (.int .i64 n) := (bx14 kq.out).2.2.1
  have hbl : wb.cell? ⟨gb, 0, none⟩ = some (.slice (some ⟨g, 0, none⟩) N cap) := by rw [cell_of_row _ _ _ _ _ (0, 0) hb.out]; rfl
  have hjI : (j : Int) < (N : Int) := by omega
  have l1 := lt_of_heap kq.out
  have l2 := lt_of_heap hb.out
  have l3 := A0.out.lt
  go_enter Tryz.func16, Tryz.ntmps16
  go_wp2
  rw [← hwb]
  clear hwb
  go_quiet (fail)
  have A := (show Hid _ from A0.out.quiet nq)
  have kq1 : Hid ((wb.drewN nq).heap[w.heap.size]? = some (.cells #[.int .i64 7, .int .i64 (j : Int), .int .i64 n, .int .i64 ck, .slice a0 n0 c0, .slice a1 n1 c1, .int .i64 uid, .int .i64 mode, .int .i64 fl, .int .i64 si, .slice a2 n2 c2, .int .i64 valid, .slice a3 n3 c3, .slice a4 n4 c4] 53)) := kq.out
  generalize wb.drewN nq = wc at A kq1 ⊢
  clear q0 q1 q2 hbl l1 l2 l3 kq
  have q0 : wc.cell? ⟨w.heap.size, 0, none⟩ = some (.int .i64 7) := (bx14 kq1.out).1
  have q2 : wc.cell? ⟨w.heap.size, 2, none⟩ = some (.int .i64 n) := (bx14 kq1.out).2.2.1
  have l1 := lt_of_heap kq1.out
  have l3 := A.out.lt
  have d0 := A.out.cell 0 _ rfl
  have d1 := A.out.cell 1 _ rfl
  have d2 := A.out.cell 2 _ rfl
  have d3 := A.out.cell 3 _ rfl
  have d4 := A.out.cell 4 _ rfl
  simp only [Nat.add_zero] at d0
  go_wp2
  go_end0
  exact ⟨⟨_, rfl⟩, A.out⟩

set_option maxRecDepth 100000 in
set_option maxHeartbeats 4000000 in
theorem l5book_7b (gb g cap N j : Nat) (cur : Array Value) (f : Nat → Prop) (x : RowD) (n ck uid mode fl si valid : Int) (a0 a1 a2 a3 a4 : Option Addr) (n0 n1 n2 n3 n4 c0 c1 c2 c3 c4 : Nat) (w wb : World) (hwb : wb = (w.alloc (.cells #[.int .i64 7, .int .i64 (j : Int), .int .i64 n, .int .i64 ck, .slice a0 n0 c0, .slice a1 n1 c1, .int .i64 uid, .int .i64 mode, .int .i64 fl, .int .i64 si, .slice a2 n2 c2, .int .i64 valid, .slice a3 n3 c3, .slice a4 n4 c4] 53)))
    (hb : Hid (wb.heap[gb]? = some (.cells #[.slice (some ⟨g, 0, none⟩) N cap] 26))) (A0 : Hid (At wb f g 70 cur (j * 5) [.int .i64 x.epoch, .int .i64 x.owner, .bool true, .int .i64 x.tr, .int .i64 x.target] wb)) (hj : j < N) (hN : N ≤ 1000) (hroom : j * 5 + 5 ≤ cur.size) (hr : Hid (RowOk x)) (hne : g ≠ w.heap.size) (hlt : j * 5 + 5 ≤ 100000) :
    Calls Tryz.prog 16 #[.pointer (some ⟨gb, 0, none⟩), .agg #[.int .i64 7, .int .i64 (j : Int), .int .i64 n, .int .i64 ck, .slice a0 n0 c0, .slice a1 n1 c1, .int .i64 uid, .int .i64 mode, .int .i64 fl, .int .i64 si, .slice a2 n2 c2, .int .i64 valid, .slice a3 n3 c3, .slice a4 n4 c4]] w fun e w' => (∃ z, e = .returned z) ∧ At wb f g 70 cur (j * 5) [.int .i64 x.tr, .int .i64 x.target, .bool false, .int .i64 x.tr, .int .i64 x.target] w' := by
  have kq : Hid (wb.heap[w.heap.size]? = some (.cells #[.int .i64 7, .int .i64 (j : Int), .int .i64 n, .int .i64 ck, .slice a0 n0 c0, .slice a1 n1 c1, .int .i64 uid, .int .i64 mode, .int .i64 fl, .int .i64 si, .slice a2 n2 c2, .int .i64 valid, .slice a3 n3 c3, .slice a4 n4 c4] 53)) := by rw [hwb]; exact box_new w _
  have q0 : wb.cell? ⟨w.heap.size, 0, none⟩ = some (.int .i64 7) := (bx14 kq.out).1
  have q1 : wb.cell? ⟨w.heap.size, 1, none⟩ = some (.int .i64 (j : Int)) := (bx14 kq.out).2.1
  have q2 : wb.cell? ⟨w.heap.size, 2, none⟩ = some (.int .i64 n) := (bx14 kq.out).2.2.1
  have hbl : wb.cell? ⟨gb, 0, none⟩ = some (.slice (some ⟨g, 0, none⟩) N cap) := by rw [cell_of_row _ _ _ _ _ (0, 0) hb.out]; rfl
  have hjI : (j : Int) < (N : Int) := by omega
  have l1 := lt_of_heap kq.out
  have l2 := lt_of_heap hb.out
  have l3 := A0.out.lt
  go_enter Tryz.func16, Tryz.ntmps16
  go_wp2
  rw [← hwb]
  clear hwb
  go_quiet (fail)
  have A := (show Hid _ from A0.out.quiet nq)
  have kq1 : Hid ((wb.drewN nq).heap[w.heap.size]? = some (.cells #[.int .i64 7, .int .i64 (j : Int), .int .i64 n, .int .i64 ck, .slice a0 n0 c0, .slice a1 n1 c1, .int .i64 uid, .int .i64 mode, .int .i64 fl, .int .i64 si, .slice a2 n2 c2, .int .i64 valid, .slice a3 n3 c3, .slice a4 n4 c4] 53)) := kq.out
  generalize wb.drewN nq = wc at A kq1 ⊢
  clear q0 q1 q2 hbl l1 l2 l3 kq
  have q0 : wc.cell? ⟨w.heap.size, 0, none⟩ = some (.int .i64 7) := (bx14 kq1.out).1
  have q2 : wc.cell? ⟨w.heap.size, 2, none⟩ = some (.int .i64 n) := (bx14 kq1.out).2.2.1
  have l1 := lt_of_heap kq1.out
  have l3 := A.out.lt
  have d0 := A.out.cell 0 _ rfl
  have d1 := A.out.cell 1 _ rfl
  have d2 := A.out.cell 2 _ rfl
  have d3 := A.out.cell 3 _ rfl
  have d4 := A.out.cell 4 _ rfl
  simp only [Nat.add_zero] at d0
  have fz := A.out.frozen
  have B := (show Hid _ from ((A.out.set 2 (.bool false) (by simp) (by simp; omega)).set 1 (.int .i64 x.target) (by simp) (by simp; omega)).set 0 (.int .i64 x.tr) (by simp) (by simp; omega))
  go_wp2
  go_end0
  exact ⟨⟨_, rfl⟩, B.out⟩

set_option maxRecDepth 100000 in
set_option maxHeartbeats 4000000 in
theorem l5book_8 (gb g cap N j : Nat) (cur : Array Value) (f : Nat → Prop) (x : RowD) (n ck uid mode fl si valid : Int) (a0 a1 a2 a3 a4 : Option Addr) (n0 n1 n2 n3 n4 c0 c1 c2 c3 c4 : Nat) (w wb : World) (hwb : wb = (w.alloc (.cells #[.int .i64 8, .int .i64 (j : Int), .int .i64 n, .int .i64 ck, .slice a0 n0 c0, .slice a1 n1 c1, .int .i64 uid, .int .i64 mode, .int .i64 fl, .int .i64 si, .slice a2 n2 c2, .int .i64 valid, .slice a3 n3 c3, .slice a4 n4 c4] 53)))
    (hb : Hid (wb.heap[gb]? = some (.cells #[.slice (some ⟨g, 0, none⟩) N cap] 26))) (A0 : Hid (At wb f g 70 cur (j * 5) [.int .i64 x.epoch, .int .i64 x.owner, .bool x.moving, .int .i64 x.tr, .int .i64 x.target] wb)) (hj : j < N) (hN : N ≤ 1000) (hroom : j * 5 + 5 ≤ cur.size) (hr : Hid (RowOk x)) (hne : g ≠ w.heap.size) (hlt : j * 5 + 5 ≤ 100000) :
    Calls Tryz.prog 16 #[.pointer (some ⟨gb, 0, none⟩), .agg #[.int .i64 8, .int .i64 (j : Int), .int .i64 n, .int .i64 ck, .slice a0 n0 c0, .slice a1 n1 c1, .int .i64 uid, .int .i64 mode, .int .i64 fl, .int .i64 si, .slice a2 n2 c2, .int .i64 valid, .slice a3 n3 c3, .slice a4 n4 c4]] w fun e w' => (∃ z, e = .returned z) ∧ At wb f g 70 cur (j * 5) [.int .i64 x.epoch, .int .i64 x.owner, .bool false, .int .i64 x.tr, .int .i64 x.target] w' := by
  have kq : Hid (wb.heap[w.heap.size]? = some (.cells #[.int .i64 8, .int .i64 (j : Int), .int .i64 n, .int .i64 ck, .slice a0 n0 c0, .slice a1 n1 c1, .int .i64 uid, .int .i64 mode, .int .i64 fl, .int .i64 si, .slice a2 n2 c2, .int .i64 valid, .slice a3 n3 c3, .slice a4 n4 c4] 53)) := by rw [hwb]; exact box_new w _
  have q0 : wb.cell? ⟨w.heap.size, 0, none⟩ = some (.int .i64 8) := (bx14 kq.out).1
  have q1 : wb.cell? ⟨w.heap.size, 1, none⟩ = some (.int .i64 (j : Int)) := (bx14 kq.out).2.1
  have q2 : wb.cell? ⟨w.heap.size, 2, none⟩ = some (.int .i64 n) := (bx14 kq.out).2.2.1
  have hbl : wb.cell? ⟨gb, 0, none⟩ = some (.slice (some ⟨g, 0, none⟩) N cap) := by rw [cell_of_row _ _ _ _ _ (0, 0) hb.out]; rfl
  have hjI : (j : Int) < (N : Int) := by omega
  have l1 := lt_of_heap kq.out
  have l2 := lt_of_heap hb.out
  have l3 := A0.out.lt
  go_enter Tryz.func16, Tryz.ntmps16
  go_wp2
  rw [← hwb]
  clear hwb
  go_quiet (fail)
  have A := (show Hid _ from A0.out.quiet nq)
  have kq1 : Hid ((wb.drewN nq).heap[w.heap.size]? = some (.cells #[.int .i64 8, .int .i64 (j : Int), .int .i64 n, .int .i64 ck, .slice a0 n0 c0, .slice a1 n1 c1, .int .i64 uid, .int .i64 mode, .int .i64 fl, .int .i64 si, .slice a2 n2 c2, .int .i64 valid, .slice a3 n3 c3, .slice a4 n4 c4] 53)) := kq.out
  generalize wb.drewN nq = wc at A kq1 ⊢
  clear q0 q1 q2 hbl l1 l2 l3 kq
  have q0 : wc.cell? ⟨w.heap.size, 0, none⟩ = some (.int .i64 8) := (bx14 kq1.out).1
  have q2 : wc.cell? ⟨w.heap.size, 2, none⟩ = some (.int .i64 n) := (bx14 kq1.out).2.2.1
  have l1 := lt_of_heap kq1.out
  have l3 := A.out.lt
  have d0 := A.out.cell 0 _ rfl
  have d1 := A.out.cell 1 _ rfl
  have d2 := A.out.cell 2 _ rfl
  have d3 := A.out.cell 3 _ rfl
  have d4 := A.out.cell 4 _ rfl
  simp only [Nat.add_zero] at d0
  have fz := A.out.frozen
  have B := (show Hid _ from A.out.set 2 (.bool false) (by simp) (by simp; omega))
  go_wp2
  go_end0
  exact ⟨⟨_, rfl⟩, B.out⟩

end Go.Proofs.YtdokgpdfdenoaaaGreat

/- A list of the call's own, and one element more put behind it. -/
namespace Go.Proofs.YtdokgpdfdenoaaaGreat
open Go.RowKit

/-- The list as a row of cells, with what its elements lead to. -/
theorem Ow.row {α : Type} {t : TypeId} {sz : Nat} {E : World → List Value → α → (Nat → Prop) → Prop} {w : World} {B M : Nat} {v : Value} {l : List α} (h : Ow t sz E w (In B M) v l) :
    ∃ (xs : List Value) (cs : Nat → List Value) (fs : Nat → Nat → Prop), w.ownsRow B t sz v l.length xs ∧ (∀ g, v.ownBlock = some g → g < M) ∧
      (∀ i x, l[i]? = some x → E w (cs i) x (fs i) ∧ (cs i).length = sz ∧ ∀ j u, (cs i)[j]? = some u → xs[i * sz + j]? = some u) ∧
      (∀ i b, i < l.length → fs i b → In B M b ∧ v.ownBlock ≠ some b) ∧ (∀ i j b, i < l.length → j < l.length → i ≠ j → fs i b → ¬ fs j b) := by
  rcases h with ⟨rfl, rfl⟩ | ⟨g, cap, cur, cs, fs, rfl, hh, h1, h2, h3, h4, h5, h6, h7⟩
  · exact ⟨[], fun _ => [], fun _ _ => False, ⟨by simp, .inl ⟨rfl, rfl⟩⟩, fun g hg => by simp [Value.ownBlock] at hg, by simp, by simp, by simp⟩
  · have hle : l.length * sz ≤ cur.size := by rw [h3]; exact Nat.mul_le_mul_right _ h1
    refine ⟨cur.toList.take (l.length * sz), cs, fs, ⟨by simp; omega, .inr ⟨g, cap, cur, rfl, h4.1, hh, h1, h2, h3, rfl⟩⟩, fun q hq => ?_, fun i x hx => ?_, fun i b hi hb => ⟨(h6 i b hi hb).1, ?_⟩, h7⟩
    · simp only [Value.ownBlock, Option.some.injEq] at hq
      subst hq
      exact h4.2
    · have hi : i < l.length := (List.getElem?_eq_some_iff.1 hx).1
      obtain ⟨e1, e2, e3⟩ := h5 i x hx
      refine ⟨e1, e2, fun j u hu => ?_⟩
      have hj : j < sz := by have := (List.getElem?_eq_some_iff.1 hu).1; omega
      have hb : i * sz + j < l.length * sz := by
        have := Nat.mul_le_mul_right sz (show i + 1 ≤ l.length by omega)
        rw [Nat.add_mul, Nat.one_mul] at this
        omega
      rw [List.getElem?_take, if_pos hb]
      simpa using e3 j u hu
    · simp only [Value.ownBlock, ne_eq, Option.some.injEq]
      exact fun e => (h6 i b hi hb).2 e.symm

/-- One element more: its cells stand behind the row, its footprint lies behind the list's. -/
theorem Ow.push {α : Type} {t : TypeId} {sz : Nat} {E : World → List Value → α → (Nat → Prop) → Prop} {w w' : World} {B M : Nat} {v v' : Value} {l : List α} (hE : Frames E) (h : Ow t sz E w (In B M) v l) (hM : M ≤ w.heap.size) (hBM : B ≤ M)
    (x : α) (c : List Value) (hc : c.length = sz) (he : E w c x (In M w.heap.size))
    (hr : ∀ xs, w.ownsRow B t sz v l.length xs → w'.ownsRow B t sz v' (l.length + 1) (xs ++ c)) (hg : w.grownBy w' v.ownBlock)
    (hn : ∀ g, v'.ownBlock = some g → v.ownBlock = some g ∨ w.heap.size ≤ g) : Ow t sz E w' (In B w'.heap.size) v' (l ++ [x]) := by
  obtain ⟨xs, cs, fs, r1, r2, r3, r4, r5⟩ := h.row
  have hlen := r1.1
  obtain ⟨k1, k2 | ⟨g, cap, cur, k3, k4, k5, k6, k7, k8, k9⟩⟩ := hr xs r1
  · exfalso
    have := k2.2
    omega
  · have hgl := lt_of_heap k5
    have hlw := hg.size
    have hgo : ∀ b, b < w.heap.size → v.ownBlock ≠ some b → w'.heap[b]? = w.heap[b]? := fun b hb hne => hg.block b hb fun e => hne e.symm
    refine .inr ⟨g, cap, cur, fun i => if i = l.length then c else cs i, fun i => if i = l.length then In M w.heap.size else fs i, ?_, k5, ?_, k7, k8, ⟨k4, hgl⟩, fun i y hy => ?_, fun i b hi hb => ?_, fun i j b hi hj hij hb hb' => ?_⟩
    · rw [k3]; simp
    · simpa using k6
    · have hxs : ∀ (m : Nat) (u : Value), (xs ++ c)[m]? = some u → cur[m]? = some u := by
        intro m u hu
        rw [← k9, List.getElem?_take] at hu
        split at hu
        · simpa using hu
        · cases hu
      by_cases hi : i = l.length
      · subst hi
        rw [List.getElem?_append_right (Nat.le_refl _)] at hy
        simp only [Nat.sub_self, List.getElem?_cons_zero, Option.some.injEq] at hy
        subst hy
        simp only [if_true]
        refine ⟨hE _ _ _ _ _ he fun b hb hlt => hgo b hlt fun e => ?_, hc, fun j u hu => hxs _ _ ?_⟩
        · have := r2 b e
          have := hb.1
          omega
        · rw [List.getElem?_append_right (by omega), hlen]
          simpa using hu
      · have hi' : i < l.length := by
          have := (List.getElem?_eq_some_iff.1 hy).1
          simp at this
          omega
        rw [List.getElem?_append_left hi'] at hy
        simp only [if_neg hi]
        obtain ⟨e1, e2, e3⟩ := r3 i y hy
        refine ⟨hE _ _ _ _ _ e1 fun b hb hlt => hgo b hlt (r4 i b hi' hb).2, e2, fun j u hu => hxs _ _ ?_⟩
        have h := e3 j u hu
        have hm : i * sz + j < xs.length := (List.getElem?_eq_some_iff.1 h).1
        rw [List.getElem?_append_left hm]
        exact h
    · simp only [List.length_append, List.length_cons, List.length_nil] at hi
      by_cases hil : i = l.length
      · simp only [if_pos hil] at hb
        refine ⟨⟨by have := hb.1; omega, by have := hb.2; omega⟩, fun e => ?_⟩
        subst e
        rcases hn b (by rw [k3]; rfl) with h | h
        · have := r2 b h
          have := hb.1
          omega
        · have := hb.2
          omega
      · simp only [if_neg hil] at hb
        have hi' : i < l.length := by omega
        obtain ⟨q1, q2⟩ := r4 i b hi' hb
        refine ⟨⟨q1.1, by have := q1.2; omega⟩, fun e => ?_⟩
        subst e
        rcases hn b (by rw [k3]; rfl) with h | h
        · exact q2 h
        · have := q1.2
          omega
    · simp only [List.length_append, List.length_cons, List.length_nil] at hi hj
      by_cases hil : i = l.length
      · have hjl : j ≠ l.length := fun e => hij (hil.trans e.symm)
        simp only [if_pos hil] at hb
        simp only [if_neg hjl] at hb'
        have := (r4 j b (by omega) hb').1.2
        have := hb.1
        omega
      · simp only [if_neg hil] at hb
        by_cases hjl : j = l.length
        · simp only [if_pos hjl] at hb'
          have := (r4 i b (by omega) hb).1.2
          have := hb'.1
          omega
        · simp only [if_neg hjl] at hb'
          exact r5 i j b (by omega) (by omega) hij hb hb'

end Go.Proofs.YtdokgpdfdenoaaaGreat

/- One element more put behind a list of the call's own: the operation. -/
namespace Go.Proofs.YtdokgpdfdenoaaaGreat
open Go.RowKit

section
variable {α : Type} {P : Program} {w : World} {e t : TypeId} {sz bytes B M : Nat} {E : World → List Value → α → (Nat → Prop) → Prop} {v : Value} {l : List α}
theorem run_push (hE : Frames E) (h : Ow e sz E w (In B M) v l) (hM : M ≤ w.heap.size) (hBM : B ≤ M) (ty : TypeId) {i : TypeInfo} {z : Value} (ht : P.underlying t = some (.slice e)) (hi : P.info? e = some i) (hz : i.zero = some z) (hsize : i.size = sz) (hby : i.bytes = bytes) (hzs : z.cells.size = sz) (hsz : 0 < sz)
    (x : α) (c : List Value) (hc : c.length = sz) (he : E w c x (In M w.heap.size)) (ad : Addr) (cc : Nat) (hcell : ∀ j u, c[j]? = some u → w.cell? (ad.add j) = some u) (h1 : ∀ u ∈ c, u.oneCell' = true) (hl : l.length + 1 ≤ maxLen) (hb : (l.length + 1) * bytes ≤ 140737488355328) :
    ∃ v' w', (Builtin.append_ #[t, t] ty #[v, .slice (some ad) 1 cc]).run P w = .ok v' w' ∧ Ow e sz E w' (In B w'.heap.size) v' (l ++ [x]) ∧ w.grownBy w' v.ownBlock ∧ (∀ g, v.ownBlock = some g → B ≤ g ∧ g < M) := by
  obtain ⟨xs, cs, fs, r1, r2, r3, r4, r5⟩ := h.row
  obtain ⟨v', w', hr, h2, h3, h4, h5⟩ := run_append_own_at (P := P) w B t ty e i z sz bytes ht hi hz hsize hby hzs hsz v l.length xs r1 ad 1 cc c (by omega) hcell h1 hl hb (by omega)
  refine ⟨v', w', hr, h.push hE hM hBM x c hc he (fun ys hys => ?_) h3 (fun g hg => ?_), h3, fun g hg => ⟨?_, r2 g hg⟩⟩
  · obtain ⟨k1, k2⟩ := hys
    obtain ⟨m1, m2⟩ := r1
    have e : ys = xs := by
      rcases k2 with ⟨k3, k4⟩ | ⟨g, cap, cur, k3, k4, k5, k6, k7, k8, k9⟩
      · rw [k4, Nat.zero_mul, List.length_eq_zero_iff] at k1
        rw [k4, Nat.zero_mul, List.length_eq_zero_iff] at m1
        rw [k1, m1]
      · rcases m2 with ⟨m3, m4⟩ | ⟨g', cap', cur', m3, m4, m5, m6, m7, m8, m9⟩
        · rw [m3] at k3
          cases k3
        · rw [m3] at k3
          simp only [Value.slice.injEq, Option.some.injEq, Addr.mk.injEq] at k3
          obtain ⟨⟨rfl, -⟩, -⟩ := k3
          rw [m5] at k5
          simp only [Option.some.injEq, Obj.cells.injEq] at k5
          obtain ⟨rfl, -⟩ := k5
          rw [← k9, ← m9]
    rw [e]
    exact h2
  · rcases h5 with h5 | h5
    · exact .inl (h5 ▸ hg)
    · rw [h5] at hg
      exact .inr (by simp only [Option.some.injEq] at hg; omega)
  · obtain ⟨m1, m2⟩ := r1
    rcases m2 with ⟨m3, m4⟩ | ⟨g', cap', cur', m3, m4, m5, m6, m7, m8, m9⟩
    · rw [m3] at hg
      simp [Value.ownBlock] at hg
    · rw [m3] at hg
      simp only [Value.ownBlock, Option.some.injEq] at hg
      omega
/-- The operation in a region that draws. -/
theorem wp_push {o : Oper} {a : Act} {K : Act → World → Prop} {Q : Exit → Act → World → Prop} (d : Nat) (hd : o.dst = some d) (s y : Operand)
    (ho : o.op = .call { callee := .builtin .append, args := #[s, y], argTypes := #[t, t] }) (hE : Frames E) (h : Ow e sz E w (In B M) v l) (hM : M ≤ w.heap.size) (hBM : B ≤ M) {i : TypeInfo} {z : Value} (ht : P.underlying t = some (.slice e)) (hi : P.info? e = some i) (hz : i.zero = some z) (hsize : i.size = sz) (hby : i.bytes = bytes) (hzs : z.cells.size = sz) (hsz : 0 < sz)
    (hs : a.eval s = v) (x : α) (c : List Value) (hc : c.length = sz) (he : E w c x (In M w.heap.size)) (ad : Addr) (cc : Nat) (hy : a.eval y = .slice (some ad) 1 cc) (hcell : ∀ j u, c[j]? = some u → w.cell? (ad.add j) = some u) (h1 : ∀ u ∈ c, u.oneCell' = true) (hl : l.length + 1 ≤ maxLen) (hb : (l.length + 1) * bytes ≤ 140737488355328)
    (k : ∀ v' w', Ow e sz E w' (In B w'.heap.size) v' (l ++ [x]) → w.grownBy w' v.ownBlock → (∀ g, v.ownBlock = some g → B ≤ g ∧ g < M) → K (a.put (some d) v') w') : o.wp P a w K Q := by
  obtain ⟨v', w', hr, h2, h3, h4⟩ := run_push (P := P) (t := t) hE h hM hBM o.type ht hi hz hsize hby hzs hsz x c hc he ad cc hcell h1 hl hb
  unfold Oper.wp execOp
  simp only [ho, resolve, invoke, builtin, Sem.run_bind, Sem.run_pure, Result.andThen_ok, List.map_toArray, List.map_cons, List.map_nil, hs, hy, hr]
  have := k v' w' h2 h3 h4
  rw [← hd] at this
  exact this
/-- The operation in a region that goes in the text's order. -/
theorem wpList_push {ops : Array Oper} {rest : List Oper} {o : Oper} {a : Act} {Q : Exit → Act → World → Prop} (hgd : o.guard = none) (s y : Operand)
    (ho : o.op = .call { callee := .builtin .append, args := #[s, y], argTypes := #[t, t] }) (hE : Frames E) (h : Ow e sz E w (In B M) v l) (hM : M ≤ w.heap.size) (hBM : B ≤ M) {i : TypeInfo} {z : Value} (ht : P.underlying t = some (.slice e)) (hi : P.info? e = some i) (hz : i.zero = some z) (hsize : i.size = sz) (hby : i.bytes = bytes) (hzs : z.cells.size = sz) (hsz : 0 < sz)
    (hs : a.eval s = v) (x : α) (c : List Value) (hc : c.length = sz) (he : E w c x (In M w.heap.size)) (ad : Addr) (cc : Nat) (hy : a.eval y = .slice (some ad) 1 cc) (hcell : ∀ j u, c[j]? = some u → w.cell? (ad.add j) = some u) (h1 : ∀ u ∈ c, u.oneCell' = true) (hl : l.length + 1 ≤ maxLen) (hb : (l.length + 1) * bytes ≤ 140737488355328)
    (k : ∀ v' w', Ow e sz E w' (In B w'.heap.size) v' (l ++ [x]) → w.grownBy w' v.ownBlock → (∀ g, v.ownBlock = some g → B ≤ g ∧ g < M) → wpList P ops Q rest (a.put o.dst v') w') : wpList P ops Q (o :: rest) a w := by
  refine wpList_plain hgd fun K hK => ?_
  obtain ⟨v', w', hr, h2, h3, h4⟩ := run_push (P := P) (t := t) hE h hM hBM o.type ht hi hz hsize hby hzs hsz x c hc he ad cc hcell h1 hl hb
  unfold Oper.wp execOp
  simp only [ho, resolve, invoke, builtin, Sem.run_bind, Sem.run_pure, Result.andThen_ok, List.map_toArray, List.map_cons, List.map_nil, hs, hy, hr]
  exact hK _ _ (k v' w' h2 h3 h4)
end
theorem ite_w {c : Bool} {A B : Prop} (hc : c = true) (h : A) : if c = true then A else B := by rw [if_pos hc]; exact h
/-- What is new by one element stands in its block. -/
theorem cells_new (w : World) (cs : Array Value) (t : TypeId) : ∀ j u, cs.toList[j]? = some u → (w.alloc (.cells cs t)).cell? ((⟨w.heap.size, 0, none⟩ : Addr).add j) = some u := by
  intro j u hu
  have h := box_new w (.cells cs t)
  rw [Addr.add_lit, Nat.zero_add, cell_of_row _ _ _ _ _ (0, 0) h]
  simpa using hu
/-- What lies below the list stays. -/
theorem grown_below {w0 w w' : World} {v : Value} {N B : Nat} (h0 : Below N w0 w) (hg : w.grownBy w' v.ownBlock) (hv : ∀ g, v.ownBlock = some g → B ≤ g) (hB : N ≤ B) (hN : N ≤ w.heap.size) : Below N w0 w' :=
  ⟨hg.os.trans h0.os, hg.tape.trans h0.tape, hg.output.trans h0.output, Nat.le_trans h0.size hg.size, fun k hk => (hg.block k (by omega) fun e => by have := hv k e.symm; omega).trans (h0.block k hk)⟩
theorem grown_at {w w' : World} {v : Value} {B g : Nat} {o : Obj} (hg : w.grownBy w' v.ownBlock) (hv : ∀ g, v.ownBlock = some g → B ≤ g) (h : w.heap[g]? = some o) (hB : g < B) : w'.heap[g]? = some o :=
  (hg.block g (lt_of_heap h) fun e => by have := hv g e.symm; omega).trans h

end Go.Proofs.YtdokgpdfdenoaaaGreat

/- What spec.l5open does. -/
namespace Go.Proofs.YtdokgpdfdenoaaaGreat
open Go.RowKit
set_option maxRecDepth 100000
set_option linter.unusedVariables false

theorem infoRow : (Tryz.prog.info? 70).map (fun i => (i.zero, i.size, i.bytes)) = some (some (.agg #[.int .i64 0, .int .i64 0, .bool false, .int .i64 0, .int .i64 0]), 5, 40) := by kernel_rfl
theorem tabS_l5open : (Tryz.f14.body.bind (opsAt 5)).all (fun o => tableS o 10 [0, 1, 2, 3, 4, 5, 6, 7, 8, 9] [6, 7, 9] [8, 10] 0) = true := by kernel_rfl
set_option maxRecDepth 100000 in
set_option maxHeartbeats 4000000 in
theorem l5open_r (h : Int) (h1 : 1 ≤ h) (h3 : h ≤ 3) (w : World) :
    Calls Tryz.prog 14 #[.int .i64 h] w fun e w' => ∃ u, e = .returned u ∧ BookR w' w.heap.size w'.heap.size u (openR h) ∧ Below w.heap.size w w' := by
  have hne : h ≠ 0 := by omega
  have hne2 : (h == 0) = false := by simpa using hne
  obtain ⟨i0, hi, hz0, hz1, hz2⟩ := info_parts infoRow
  have HX : Hid (Below w.heap.size w ((w.alloc (.cells #[.slice none 0 0] 26)).alloc (.cells #[.slice none 0 0] 26)) ∧ ((w.alloc (.cells #[.slice none 0 0] 26)).alloc (.cells #[.slice none 0 0] 26)).heap[w.heap.size]? = some (.cells #[.slice none 0 0] 26) ∧ ((w.alloc (.cells #[.slice none 0 0] 26)).alloc (.cells #[.slice none 0 0] 26)).heap[w.heap.size + 1]? = some (.cells #[.slice none 0 0] 26)) := by
    obtain ⟨kA, kB, X⟩ := boxes2 w (.cells #[.slice none 0 0] 26) (.cells #[.slice none 0 0] 26)
    exact ⟨X, kA, kB⟩
  go_enter Tryz.func14, Tryz.ntmps14
  go_wp2
  go_loopw [4] (fun i wr => ∃ (k : Nat) (ua : Option Addr) (un uc : Nat), k ≤ 3 ∧ i = .int .i64 k ∧ Hid (Below w.heap.size w wr) ∧ Hid (wr.heap[w.heap.size]? = some (.cells #[.slice none 0 0] 26) ∧ wr.heap[w.heap.size + 1]? = some (.cells #[.slice ua un uc] 26) ∧ w.heap.size + 2 ≤ wr.heap.size) ∧ Hid (RowsR wr (w.heap.size + 2) wr.heap.size (.slice ua un uc) ((openR h).take k))) (fun i _ => 3 - (intOf i).toNat)
  case atStart => exact ⟨0, none, 0, 0, Nat.zero_le _, rfl, HX.out.1, ⟨HX.out.2.1, HX.out.2.2, by simp⟩, .inl ⟨rfl, rfl⟩⟩
  case round =>
    obtain ⟨k, ua, un, uc, hk, rfl, HB, HK, HR⟩ := hrel
    have hsz := HK.out.2.2
    by_cases hlt : k < 3
    · have HS : Hid (∀ w', Below wr.heap.size wr w' → w'.cell? ⟨w.heap.size + 1, 0, none⟩ = some (.slice ua un uc)) := fun w' hb => by rw [cell_of_row _ _ _ _ _ (0, 0) (box_below hb HK.out.2.1)]; rfl
      have d0 := HS.out _ (Below.refl _ _)
      have hll : ((openR h).take k).length = k := by simp [openR]; omega
      go_wp2
      refine wpS_begin 8 (S := fun w' => w'.cell? ⟨w.heap.size + 1, 0, none⟩ = some (.slice ua un uc)) (tabS_of (by kernel_rfl) tabS_l5open) (by kernel_rfl) (HS.out _ ((Below.refl _ _).drew)) (fun hTb hHeld => ?_)
      refine tks 0 0 9 hTb hHeld ?_
      refine tks 1 1 10 hTb hHeld ?_
      refine tks 2 2 11 hTb hHeld ?_
      refine tks 3 3 12 hTb hHeld ?_
      refine tks 4 4 13 hTb hHeld ?_
      refine tks 5 5 14 hTb hHeld ?_
      refine cls 6 6 hTb (by decide) rfl rfl (fun K hK => ?_)
      go_simp
      have AB : Below wr.heap.size wr (wr.drew.alloc (.cells #[.int .i64 1, .int .i64 ((k : Int).tmod h), .bool false, .int .i64 0, .int .i64 0] 70)) := (Below.refl _ _).drew.alloc (Nat.le_refl _) _
      refine hK.out _ _ (HS.out _ AB) (fun hHeld => ?_)
      clear hK K
      refine cls 7 7 hTb (by decide) rfl rfl (fun K hK => ?_)
      refine ite_w (by kernel_rfl) (wp_push 16 rfl (.tmp 10) (.tmp 15) rfl framesRow (B := w.heap.size + 2) (M := wr.heap.size) (OwR.below HR.out AB) (by simp) hsz Tryz.underlying24 hi hz0 hz1 hz2 rfl (by omega) rfl (openRow h k) [.int .i64 1, .int .i64 ((k : Int).tmod h), .bool false, .int .i64 0, .int .i64 0] rfl ⟨rfl, rowOk_i64 (openRow_ok h1 h3 (by omega))⟩ ⟨wr.heap.size, 0, none⟩ 1 rfl (cells_new wr.drew _ _) (by intro u hu; simp only [List.mem_cons, List.not_mem_nil, or_false] at hu; rcases hu with rfl | rfl | rfl | rfl | rfl <;> rfl) (by unfold maxLen; simp; omega) (by simp; omega) ?_)
      intro v2 w2 hO2 hg2 hv2
      obtain ⟨va, vn, vc, rfl⟩ := OwR.form3 hO2
      have KV2 := grown_at hg2 (fun g hg => (hv2 g hg).1) (box_below AB HK.out.2.1) (by omega)
      have KR2 := grown_at hg2 (fun g hg => (hv2 g hg).1) (box_below AB HK.out.1) (by omega)
      have B2 := grown_below (Below.step HB.out AB) hg2 (fun g hg => (hv2 g hg).1) (by omega) (by have := AB.size; omega)
      have s2 := hg2.size
      have dV2 : w2.cell? ⟨w.heap.size + 1, 0, none⟩ = some (.slice ua un uc) := by rw [cell_of_row _ _ _ _ _ (0, 0) KV2]; rfl
      obtain ⟨fz2, lz2⟩ := box8z KV2
      refine hK.out _ _ (dV2) (fun hHeld => ?_)
      clear hK K
      refine wpS_next (S' := fun w' => True) 8 10 hTb (by decide) (trivial) (fun hHeld => ?_)
      refine tks 8 8 17 hTb hHeld ?_
      refine cls 9 9 hTb (by decide) rfl rfl (fun K hK => ?_)
      go_simp
      refine hK.out _ _ (trivial) (fun hHeld => ?_)
      clear hK K
      refine wpS_end hTb ?_
      have HB2 : Hid _ := B2.setCell (p := ⟨w.heap.size + 1, 0, none⟩) (by simp) (.slice va vn vc)
      have HK2 : Hid ((w2.setCell ⟨w.heap.size + 1, 0, none⟩ (.slice va vn vc)).heap[w.heap.size]? = some (.cells #[.slice none 0 0] 26) ∧ (w2.setCell ⟨w.heap.size + 1, 0, none⟩ (.slice va vn vc)).heap[w.heap.size + 1]? = some (.cells #[.slice va vn vc] 26) ∧ w.heap.size + 2 ≤ (w2.setCell ⟨w.heap.size + 1, 0, none⟩ (.slice va vn vc)).heap.size) := ⟨box_other KR2 (by omega), box_set KV2, by rw [box_size]; have := AB.size; omega⟩
      have HR2 : Hid (RowsR (w2.setCell ⟨w.heap.size + 1, 0, none⟩ (.slice va vn vc)) (w.heap.size + 2) (w2.setCell ⟨w.heap.size + 1, 0, none⟩ (.slice va vn vc)).heap.size (.slice va vn vc) ((openR h).take (k + 1))) := by
        show RowsR _ _ _ _ _
        rw [openR_take h k hlt, box_size]
        exact OwR.set hO2 (.inl (by omega))
      clear HS d0 HB HK HR B2 KV2 KR2 AB hO2 hg2 hv2 dV2 fz2 lz2
      go_wp2
      go_roundw
      case rel => exact ⟨k + 1, va, vn, vc, by omega, by go_num, HB2, HK2, HR2⟩
      case measure => simp [intOf]; omega
    · obtain rfl : k = 3 := by omega
      have k0 := HK.out.1
      have k1 := HK.out.2.1
      have d0 : wr.cell? ⟨w.heap.size, 0, none⟩ = some (.slice none 0 0) := by rw [cell_of_row _ _ _ _ _ (0, 0) k0]; rfl
      have d1 : wr.cell? ⟨w.heap.size + 1, 0, none⟩ = some (.slice ua un uc) := by rw [cell_of_row _ _ _ _ _ (0, 0) k1]; rfl
      obtain ⟨oz, ol⟩ := box8z k0
      obtain ⟨rz, rl⟩ := box8z k1
      clear k0 k1
      go_wp2
      refine bodyPost_ret (v := .agg #[.slice ua un uc]) (by simp [results, Tryz.results14, go_sem, d0]) rfl ⟨_, rfl, ⟨_, rfl, ?_⟩, HB.out.setCell (p := ⟨w.heap.size, 0, none⟩) (by simp) (.slice ua un uc)⟩
      rw [box_size]
      exact OwR.wide (OwR.set HR.out (.inl (by omega))) (by omega) (Nat.le_refl _)

end Go.Proofs.YtdokgpdfdenoaaaGreat

/- What l5zeroCmd of package spec do. -/
namespace Go.Proofs.YtdokgpdfdenoaaaGreat
open Go.RowKit
set_option maxRecDepth 100000
set_option linter.unusedVariables false
set_option linter.unusedSimpArgs false

set_option maxHeartbeats 1000000 in
theorem l5zeroCmd_gen (k : Int) (a0 a1 a2 : Option Addr) (nb nt nx c0 c1 c2 : Nat) (uid mode fl si : Int) (w : World) :
    Calls Tryz.prog 33 #[.agg #[.int .i64 k, .slice a0 nb c0, .slice a1 nt c1, .int .i64 uid, .int .i64 mode, .int .i64 fl, .int .i64 si, .slice a2 nx c2]] w fun e w' => e = .returned (.bool (zC k nb nt uid mode fl si nx)) ∧ Below w.heap.size w w' := by
  have HX : Hid (∀ o, Below w.heap.size w (w.alloc o)) := fun o => (Below.refl _ _).alloc (Nat.le_refl _) o
  go_enter Tryz.func33, Tryz.ntmps33
  go_wp2
  all_goals (go_ret; refine ⟨ret_b ?_, HX.out _⟩; clear HX; unfold zC; (try simp only [beq_iff_eq, beq_eq_false_iff_ne, ne_eq] at *); rw [Bool.eq_iff_iff]; simp; omega)
theorem l5zeroCmd_any (v : Value) (c : CmdD) (w : World) (hv : CmdV w v c.k c.bx c.tt c.uid c.mode c.fl c.si c.tx) :
    Calls Tryz.prog 33 #[v] w fun e w' => e = .returned (.bool (zeroC c)) ∧ Below w.heap.size w w' := by
  obtain ⟨u0, u1, u2, rfl, g0, g1, g2, -⟩ := hv
  obtain ⟨a0, c0, rfl⟩ := g0.form
  obtain ⟨a1, c1, rfl⟩ := g1.form
  obtain ⟨a2, c2, rfl⟩ := g2.form
  exact l5zeroCmd_gen _ _ _ _ _ _ _ _ _ _ _ _ _ _ w

end Go.Proofs.YtdokgpdfdenoaaaGreat

/- What l5zeroCmd, l5zeroAcc of package spec do. -/
namespace Go.Proofs.YtdokgpdfdenoaaaGreat
open Go.RowKit
set_option maxRecDepth 100000
set_option linter.unusedVariables false
set_option linter.unusedSimpArgs false

set_option maxHeartbeats 1000000 in
theorem l5zeroAcc_gen (k : Int) (a0 a1 : Option Addr) (nb nt c0 c1 : Nat) (w : World) :
    Calls Tryz.prog 36 #[.agg #[.int .i64 k, .slice a0 nb c0, .slice a1 nt c1]] w fun e w' => e = .returned (.bool (zA k nb nt)) ∧ Below w.heap.size w w' := by
  have HX : Hid (∀ o, Below w.heap.size w (w.alloc o)) := fun o => (Below.refl _ _).alloc (Nat.le_refl _) o
  go_enter Tryz.func36, Tryz.ntmps36
  go_wp2
  all_goals (go_ret; refine ⟨ret_b ?_, HX.out _⟩; clear HX; unfold zA; (try simp only [beq_iff_eq, beq_eq_false_iff_ne, ne_eq] at *); rw [Bool.eq_iff_iff]; simp; omega)
theorem l5zeroAcc_any (v : Value) (a : AccD) (w : World) (hv : AccV w v a) :
    Calls Tryz.prog 36 #[v] w fun e w' => e = .returned (.bool (zeroA a)) ∧ Below w.heap.size w w' := by
  obtain ⟨u0, u1, rfl, g0, g1, -⟩ := hv
  obtain ⟨a0, c0, rfl, -⟩ := g0.form
  obtain ⟨a1, c1, rfl, -⟩ := g1.form
  exact l5zeroAcc_gen _ _ _ _ _ _ _ w

end Go.Proofs.YtdokgpdfdenoaaaGreat

/- What l3parts and l3seq of package spec do. -/
namespace Go.Proofs.YtdokgpdfdenoaaaGreat
open Go.RowKit
set_option maxRecDepth 100000

set_option maxHeartbeats 400000 in
theorem l3parts_any (k : Int) (w : World) :
    Calls Tryz.prog 55 #[.int .i64 k] w fun e w' => e = .returned (.tuple #[.bool (toB k), .bool (uidB k), .bool (modeB k), .bool (sinceB k), .bool (textsB k)]) ∧ w' = w := by
  go_enter Tryz.func55, Tryz.ntmps55
  go_wp2
  all_goals exact bodyPost_ret (v := .tuple #[.bool (toB k), .bool (uidB k), .bool (modeB k), .bool (sinceB k), .bool (textsB k)]) (by simp [results, Tryz.results55, go_sem, toB, uidB, modeB, sinceB, textsB, *] <;> (simp only [beq_iff_eq, beq_eq_false_iff_ne, ne_eq] at *; omega)) rfl ⟨rfl, rfl⟩

theorem l3seq_any (n : Int) (w : World) :
    Calls Tryz.prog 32 #[.int .i64 n] w fun e w' => e = .returned (.bool (inB n 0 1000000)) ∧ w' = w := by
  go_enter Tryz.func32, Tryz.ntmps32
  go_wp2
  all_goals (go_ret; exact ⟨by simp [inB, *] <;> omega, rfl⟩)

end Go.Proofs.YtdokgpdfdenoaaaGreat

/- What RecordOk of package spec does. -/
namespace Go.Proofs.YtdokgpdfdenoaaaGreat
open Go.RowKit
set_option maxRecDepth 100000
set_option linter.unusedVariables false
set_option linter.unusedSimpArgs false

theorem tabRO3 : (Tryz.f15.body.bind (opsAt 3)).all (fun o => table o 24 [5, 15]) = true := by kernel_rfl

set_option maxRecDepth 100000 in
set_option maxHeartbeats 4000000 in
theorem specRecordOk_0 (U N : Int) (hu0 : 0 ≤ U) (hu1 : U ≤ 2) (hn0 : 0 ≤ N) (hn1 : N ≤ 1000000) (k : Int) (a0 a1 a2 a3 a4 : Option Addr) (nb nt nx mb ms c0 c1 c2 c3 c4 : Nat) (uid mode fl si valid : Int) (w : World) (Z C Y A c : Bool) (HZ : Hid (∀ wi, Below w.heap.size w wi → Calls Tryz.prog 33 #[.agg #[.int .i64 k, .slice a0 nb c0, .slice a1 nt c1, .int .i64 uid, .int .i64 mode, .int .i64 fl, .int .i64 si, .slice a2 nx c2]] wi fun e w' => e = .returned (.bool Z) ∧ Below wi.heap.size wi w')) (HC : Hid (∀ wi, Below w.heap.size w wi → Calls Tryz.prog 34 #[.agg #[.int .i64 k, .slice a0 nb c0, .slice a1 nt c1, .int .i64 uid, .int .i64 mode, .int .i64 fl, .int .i64 si, .slice a2 nx c2]] wi fun e w' => e = .returned (.bool C) ∧ Below wi.heap.size wi w')) (HA : Hid (∀ wi, Below w.heap.size w wi → Calls Tryz.prog 36 #[.agg #[.int .i64 valid, .slice a3 mb c3, .slice a4 ms c4]] wi fun e w' => e = .returned (.bool Y) ∧ Below wi.heap.size wi w')) (HY : Hid (∀ wi, Below w.heap.size w wi → Calls Tryz.prog 35 #[.agg #[.int .i64 valid, .slice a3 mb c3, .slice a4 ms c4]] wi fun e w' => e = .returned (.bool A) ∧ Below wi.heap.size wi w'))
    (HR : Hid (c = (!Z && (C && (!decide (N < 1) && Y))))) :
    Calls Tryz.prog 15 #[.agg #[.int .i64 0, .int .i64 U, .int .i64 N, .int .i64 k, .slice a0 nb c0, .slice a1 nt c1, .int .i64 uid, .int .i64 mode, .int .i64 fl, .int .i64 si, .slice a2 nx c2, .int .i64 valid, .slice a3 mb c3, .slice a4 ms c4]] w fun e w' => e = .returned (.bool c) ∧ Below w.heap.size w w' := by
  have X0 : Hid (∀ o, Below w.heap.size w (w.alloc o)) := fun o => (Below.refl _ _).alloc (Nat.le_refl _) o
  have kA := box_new w (.cells #[.int .i64 0, .int .i64 U, .int .i64 N, .int .i64 k, .slice a0 nb c0, .slice a1 nt c1, .int .i64 uid, .int .i64 mode, .int .i64 fl, .int .i64 si, .slice a2 nx c2, .int .i64 valid, .slice a3 mb c3, .slice a4 ms c4] 53)
  have hl3 : ∀ w, Calls Tryz.prog 32 #[.int .i64 N] w fun e w' => e = .returned (.bool true) ∧ w' = w := fun w => by
    have h := l3seq_any N w
    rwa [show inB N 0 1000000 = true by simp [inB]; omega] at h
  go_enter Tryz.func15, Tryz.ntmps15
  go_wp2_with fail
  refine (hl3 _).mono ?_
  rintro e w' ⟨rfl, rfl⟩
  have X := X0.out (.cells #[.int .i64 0, .int .i64 U, .int .i64 N, .int .i64 k, .slice a0 nb c0, .slice a1 nt c1, .int .i64 uid, .int .i64 mode, .int .i64 fl, .int .i64 si, .slice a2 nx c2, .int .i64 valid, .slice a3 mb c3, .slice a4 ms c4] 53)
  generalize hw0 : w.alloc (.cells #[.int .i64 0, .int .i64 U, .int .i64 N, .int .i64 k, .slice a0 nb c0, .slice a1 nt c1, .int .i64 uid, .int .i64 mode, .int .i64 fl, .int .i64 si, .slice a2 nx c2, .int .i64 valid, .slice a3 mb c3, .slice a4 ms c4] 53) = w0 at X kA ⊢
  have DR : Below w0.heap.size w0 w0.drew := (Below.refl _ _).drew
  have HF : Hid (∀ w', Below w0.heap.size w0 w' → w'.cell? ⟨w.heap.size, 0, none⟩ = some (.int .i64 0) ∧ w'.cell? ⟨w.heap.size, 1, none⟩ = some (.int .i64 U) ∧ w'.cell? ⟨w.heap.size, 2, none⟩ = some (.int .i64 N) ∧ w'.cell? ⟨w.heap.size, 3, none⟩ = some (.int .i64 k) ∧ w'.cell? ⟨w.heap.size, 4, none⟩ = some (.slice a0 nb c0) ∧ w'.cell? ⟨w.heap.size, 5, none⟩ = some (.slice a1 nt c1) ∧ w'.cell? ⟨w.heap.size, 6, none⟩ = some (.int .i64 uid) ∧ w'.cell? ⟨w.heap.size, 7, none⟩ = some (.int .i64 mode) ∧ w'.cell? ⟨w.heap.size, 8, none⟩ = some (.int .i64 fl) ∧ w'.cell? ⟨w.heap.size, 9, none⟩ = some (.int .i64 si) ∧ w'.cell? ⟨w.heap.size, 10, none⟩ = some (.slice a2 nx c2) ∧ w'.cell? ⟨w.heap.size, 11, none⟩ = some (.int .i64 valid) ∧ w'.cell? ⟨w.heap.size, 12, none⟩ = some (.slice a3 mb c3) ∧ w'.cell? ⟨w.heap.size, 13, none⟩ = some (.slice a4 ms c4)) := fun w' h => bx14 (box_below h kA)
  have hl : w.heap.size < w0.heap.size := lt_of_heap kA
  clear X0 hl3
  go_wp2
  cases Z with
  | true =>
    refine wp_begin (S := fun w' => w'.cell? ⟨w.heap.size, 0, none⟩ = some (.int .i64 0) ∧ w'.cell? ⟨w.heap.size, 1, none⟩ = some (.int .i64 U) ∧ w'.cell? ⟨w.heap.size, 2, none⟩ = some (.int .i64 N) ∧ w'.cell? ⟨w.heap.size, 3, none⟩ = some (.int .i64 k) ∧ w'.cell? ⟨w.heap.size, 4, none⟩ = some (.slice a0 nb c0) ∧ w'.cell? ⟨w.heap.size, 5, none⟩ = some (.slice a1 nt c1) ∧ w'.cell? ⟨w.heap.size, 6, none⟩ = some (.int .i64 uid) ∧ w'.cell? ⟨w.heap.size, 7, none⟩ = some (.int .i64 mode) ∧ w'.cell? ⟨w.heap.size, 8, none⟩ = some (.int .i64 fl) ∧ w'.cell? ⟨w.heap.size, 9, none⟩ = some (.int .i64 si) ∧ w'.cell? ⟨w.heap.size, 10, none⟩ = some (.slice a2 nx c2) ∧ w'.cell? ⟨w.heap.size, 11, none⟩ = some (.int .i64 valid) ∧ w'.cell? ⟨w.heap.size, 12, none⟩ = some (.slice a3 mb c3) ∧ w'.cell? ⟨w.heap.size, 13, none⟩ = some (.slice a4 ms c4)) (tab_of (by kernel_rfl) tabRO3) (by kernel_rfl) (HF.out _ DR) (fun hTb hHeld => ?_)
    refine tkq 0 27 hTb hHeld ?_
    refine tkq 1 28 hTb hHeld ?_
    refine tkq 2 29 hTb hHeld ?_
    refine tkq 3 30 hTb hHeld ?_
    refine tkq 4 31 hTb hHeld ?_
    refine clp 5 hTb (by decide) ?_
    refine AllReadyH.cons rfl (fun K hK => ?_) AllReadyH.nil
    go_simp
    refine (HZ.out _ (Below.step X DR)).mono ?_
    rintro e w1 ⟨rfl, B⟩
    refine hK.out _ _ (HF.out _ (Below.step DR B)) (fun hHeld => ?_)
    clear hK K
    refine wpAt_in (n := 24) (i := 5) (by decide) rfl rfl ?_
    refine tkq 6 33 hTb hHeld ?_
    refine tkq 7 34 hTb hHeld ?_
    refine tkq 8 35 hTb hHeld ?_
    refine skj (i := 9) (j := 23) [36, 37, 38, 39, 40, 41, 42, 43, 44, 45, 46, 47, 48, 49] rfl hTb (fun _ _ _ _ _ h => h) hHeld (by kernel_rfl) ?_
    conv => arg 7; dsimp only [List.foldl_cons, List.foldl_nil, setT, List.toList_toArray, put0, putS]
    refine tkq 23 50 hTb hHeld ?_
    refine wp_end hTb ?_
    replace X := Below.step (Below.step X DR) B
    replace kA := box_below B (box_below DR kA)
    clear HF DR B HZ HC
    repeat clear hHeld
    clear hTb
    go_wp2
    go_ret
    exact ⟨ret_b HR.out, X⟩
  | false =>
    cases C with
    | false =>
      refine wp_begin (S := fun w' => w'.cell? ⟨w.heap.size, 0, none⟩ = some (.int .i64 0) ∧ w'.cell? ⟨w.heap.size, 1, none⟩ = some (.int .i64 U) ∧ w'.cell? ⟨w.heap.size, 2, none⟩ = some (.int .i64 N) ∧ w'.cell? ⟨w.heap.size, 3, none⟩ = some (.int .i64 k) ∧ w'.cell? ⟨w.heap.size, 4, none⟩ = some (.slice a0 nb c0) ∧ w'.cell? ⟨w.heap.size, 5, none⟩ = some (.slice a1 nt c1) ∧ w'.cell? ⟨w.heap.size, 6, none⟩ = some (.int .i64 uid) ∧ w'.cell? ⟨w.heap.size, 7, none⟩ = some (.int .i64 mode) ∧ w'.cell? ⟨w.heap.size, 8, none⟩ = some (.int .i64 fl) ∧ w'.cell? ⟨w.heap.size, 9, none⟩ = some (.int .i64 si) ∧ w'.cell? ⟨w.heap.size, 10, none⟩ = some (.slice a2 nx c2) ∧ w'.cell? ⟨w.heap.size, 11, none⟩ = some (.int .i64 valid) ∧ w'.cell? ⟨w.heap.size, 12, none⟩ = some (.slice a3 mb c3) ∧ w'.cell? ⟨w.heap.size, 13, none⟩ = some (.slice a4 ms c4)) (tab_of (by kernel_rfl) tabRO3) (by kernel_rfl) (HF.out _ DR) (fun hTb hHeld => ?_)
      refine tkq 0 27 hTb hHeld ?_
      refine tkq 1 28 hTb hHeld ?_
      refine tkq 2 29 hTb hHeld ?_
      refine tkq 3 30 hTb hHeld ?_
      refine tkq 4 31 hTb hHeld ?_
      refine clp 5 hTb (by decide) ?_
      refine AllReadyH.cons rfl (fun K hK => ?_) AllReadyH.nil
      go_simp
      refine (HZ.out _ (Below.step X DR)).mono ?_
      rintro e w1 ⟨rfl, B⟩
      refine hK.out _ _ (HF.out _ (Below.step DR B)) (fun hHeld => ?_)
      clear hK K
      refine wpAt_in (n := 24) (i := 5) (by decide) rfl rfl ?_
      refine tkq 6 33 hTb hHeld ?_
      refine tkq 7 34 hTb hHeld ?_
      refine tkq 8 35 hTb hHeld ?_
      refine tkq 9 36 hTb hHeld ?_
      refine tkq 10 37 hTb hHeld ?_
      refine tkq 11 38 hTb hHeld ?_
      refine tkq 12 39 hTb hHeld ?_
      refine tkq 13 40 hTb hHeld ?_
      refine tkq 14 41 hTb hHeld ?_
      refine clp 15 hTb (by decide) ?_
      refine AllReadyH.cons rfl (fun K hK => ?_) AllReadyH.nil
      go_simp
      refine (HC.out _ (Below.step (Below.step X DR) B)).mono ?_
      rintro e w2 ⟨rfl, B'⟩
      refine hK.out _ _ (HF.out _ (Below.step (Below.step DR B) B')) (fun hHeld => ?_)
      clear hK K
      refine wpAt_in (n := 24) (i := 15) (by decide) rfl rfl ?_
      refine tkq 16 43 hTb hHeld ?_
      refine tkq 17 44 hTb hHeld ?_
      refine skj (i := 18) (j := 21) [45, 46, 47] rfl hTb (fun _ _ _ _ _ h => h) hHeld (by kernel_rfl) ?_
      conv => arg 7; dsimp only [List.foldl_cons, List.foldl_nil, setT, List.toList_toArray, put0, putS]
      refine tkq 21 48 hTb hHeld ?_
      refine tkq 22 49 hTb hHeld ?_
      refine tkq 23 50 hTb hHeld ?_
      refine wp_end hTb ?_
      replace X := Below.step (Below.step (Below.step X DR) B) B'
      replace kA := box_below B' (box_below B (box_below DR kA))
      clear HF DR B B' HZ HC
      repeat clear hHeld
      clear hTb
      go_wp2
      go_ret
      exact ⟨ret_b HR.out, X⟩
    | true =>
      by_cases hn : N < 1
      · rw [decide_eq_true hn] at HR
        refine wp_begin (S := fun w' => w'.cell? ⟨w.heap.size, 0, none⟩ = some (.int .i64 0) ∧ w'.cell? ⟨w.heap.size, 1, none⟩ = some (.int .i64 U) ∧ w'.cell? ⟨w.heap.size, 2, none⟩ = some (.int .i64 N) ∧ w'.cell? ⟨w.heap.size, 3, none⟩ = some (.int .i64 k) ∧ w'.cell? ⟨w.heap.size, 4, none⟩ = some (.slice a0 nb c0) ∧ w'.cell? ⟨w.heap.size, 5, none⟩ = some (.slice a1 nt c1) ∧ w'.cell? ⟨w.heap.size, 6, none⟩ = some (.int .i64 uid) ∧ w'.cell? ⟨w.heap.size, 7, none⟩ = some (.int .i64 mode) ∧ w'.cell? ⟨w.heap.size, 8, none⟩ = some (.int .i64 fl) ∧ w'.cell? ⟨w.heap.size, 9, none⟩ = some (.int .i64 si) ∧ w'.cell? ⟨w.heap.size, 10, none⟩ = some (.slice a2 nx c2) ∧ w'.cell? ⟨w.heap.size, 11, none⟩ = some (.int .i64 valid) ∧ w'.cell? ⟨w.heap.size, 12, none⟩ = some (.slice a3 mb c3) ∧ w'.cell? ⟨w.heap.size, 13, none⟩ = some (.slice a4 ms c4)) (tab_of (by kernel_rfl) tabRO3) (by kernel_rfl) (HF.out _ DR) (fun hTb hHeld => ?_)
        refine tkq 0 27 hTb hHeld ?_
        refine tkq 1 28 hTb hHeld ?_
        refine tkq 2 29 hTb hHeld ?_
        refine tkq 3 30 hTb hHeld ?_
        refine tkq 4 31 hTb hHeld ?_
        refine clp 5 hTb (by decide) ?_
        refine AllReadyH.cons rfl (fun K hK => ?_) AllReadyH.nil
        go_simp
        refine (HZ.out _ (Below.step X DR)).mono ?_
        rintro e w1 ⟨rfl, B⟩
        refine hK.out _ _ (HF.out _ (Below.step DR B)) (fun hHeld => ?_)
        clear hK K
        refine wpAt_in (n := 24) (i := 5) (by decide) rfl rfl ?_
        refine tkq 6 33 hTb hHeld ?_
        refine tkq 7 34 hTb hHeld ?_
        refine tkq 8 35 hTb hHeld ?_
        refine tkq 9 36 hTb hHeld ?_
        refine tkq 10 37 hTb hHeld ?_
        refine tkq 11 38 hTb hHeld ?_
        refine tkq 12 39 hTb hHeld ?_
        refine tkq 13 40 hTb hHeld ?_
        refine tkq 14 41 hTb hHeld ?_
        refine clp 15 hTb (by decide) ?_
        refine AllReadyH.cons rfl (fun K hK => ?_) AllReadyH.nil
        go_simp
        refine (HC.out _ (Below.step (Below.step X DR) B)).mono ?_
        rintro e w2 ⟨rfl, B'⟩
        refine hK.out _ _ (HF.out _ (Below.step (Below.step DR B) B')) (fun hHeld => ?_)
        clear hK K
        refine wpAt_in (n := 24) (i := 15) (by decide) rfl rfl ?_
        refine tkq 16 43 hTb hHeld ?_
        refine tkq 17 44 hTb hHeld ?_
        refine tkq 18 45 hTb hHeld ?_
        refine tkq 19 46 hTb hHeld ?_
        refine tkq 20 47 hTb hHeld ?_
        refine tkq 21 48 hTb hHeld ?_
        refine tkq 22 49 hTb hHeld ?_
        refine tkq 23 50 hTb hHeld ?_
        refine wp_end hTb ?_
        replace X := Below.step (Below.step (Below.step X DR) B) B'
        replace kA := box_below B' (box_below B (box_below DR kA))
        clear HF DR B B' HZ HC
        repeat clear hHeld
        clear hTb
        go_wp2
        go_ret
        exact ⟨ret_b HR.out, X⟩
      · rw [decide_eq_false hn] at HR
        refine wp_begin (S := fun w' => w'.cell? ⟨w.heap.size, 0, none⟩ = some (.int .i64 0) ∧ w'.cell? ⟨w.heap.size, 1, none⟩ = some (.int .i64 U) ∧ w'.cell? ⟨w.heap.size, 2, none⟩ = some (.int .i64 N) ∧ w'.cell? ⟨w.heap.size, 3, none⟩ = some (.int .i64 k) ∧ w'.cell? ⟨w.heap.size, 4, none⟩ = some (.slice a0 nb c0) ∧ w'.cell? ⟨w.heap.size, 5, none⟩ = some (.slice a1 nt c1) ∧ w'.cell? ⟨w.heap.size, 6, none⟩ = some (.int .i64 uid) ∧ w'.cell? ⟨w.heap.size, 7, none⟩ = some (.int .i64 mode) ∧ w'.cell? ⟨w.heap.size, 8, none⟩ = some (.int .i64 fl) ∧ w'.cell? ⟨w.heap.size, 9, none⟩ = some (.int .i64 si) ∧ w'.cell? ⟨w.heap.size, 10, none⟩ = some (.slice a2 nx c2) ∧ w'.cell? ⟨w.heap.size, 11, none⟩ = some (.int .i64 valid) ∧ w'.cell? ⟨w.heap.size, 12, none⟩ = some (.slice a3 mb c3) ∧ w'.cell? ⟨w.heap.size, 13, none⟩ = some (.slice a4 ms c4)) (tab_of (by kernel_rfl) tabRO3) (by kernel_rfl) (HF.out _ DR) (fun hTb hHeld => ?_)
        refine tkq 0 27 hTb hHeld ?_
        refine tkq 1 28 hTb hHeld ?_
        refine tkq 2 29 hTb hHeld ?_
        refine tkq 3 30 hTb hHeld ?_
        refine tkq 4 31 hTb hHeld ?_
        refine clp 5 hTb (by decide) ?_
        refine AllReadyH.cons rfl (fun K hK => ?_) AllReadyH.nil
        go_simp
        refine (HZ.out _ (Below.step X DR)).mono ?_
        rintro e w1 ⟨rfl, B⟩
        refine hK.out _ _ (HF.out _ (Below.step DR B)) (fun hHeld => ?_)
        clear hK K
        refine wpAt_in (n := 24) (i := 5) (by decide) rfl rfl ?_
        refine tkq 6 33 hTb hHeld ?_
        refine tkq 7 34 hTb hHeld ?_
        refine tkq 8 35 hTb hHeld ?_
        refine tkq 9 36 hTb hHeld ?_
        refine tkq 10 37 hTb hHeld ?_
        refine tkq 11 38 hTb hHeld ?_
        refine tkq 12 39 hTb hHeld ?_
        refine tkq 13 40 hTb hHeld ?_
        refine tkq 14 41 hTb hHeld ?_
        refine clp 15 hTb (by decide) ?_
        refine AllReadyH.cons rfl (fun K hK => ?_) AllReadyH.nil
        go_simp
        refine (HC.out _ (Below.step (Below.step X DR) B)).mono ?_
        rintro e w2 ⟨rfl, B'⟩
        refine hK.out _ _ (HF.out _ (Below.step (Below.step DR B) B')) (fun hHeld => ?_)
        clear hK K
        refine wpAt_in (n := 24) (i := 15) (by decide) rfl rfl ?_
        refine tkq 16 43 hTb hHeld ?_
        refine tkq 17 44 hTb hHeld ?_
        refine tkq 18 45 hTb hHeld ?_
        refine tkq 19 46 hTb hHeld ?_
        refine tkq 20 47 hTb hHeld ?_
        refine tkq 21 48 hTb hHeld ?_
        refine tkq 22 49 hTb hHeld ?_
        refine tkq 23 50 hTb hHeld ?_
        refine wp_end hTb ?_
        replace X := Below.step (Below.step (Below.step X DR) B) B'
        replace kA := box_below B' (box_below B (box_below DR kA))
        clear HF DR B B' HZ HC
        repeat clear hHeld
        clear hTb
        obtain ⟨f0, f1, f2, f3, f4, f5, f6, f7, f8, f9, f10, f11, f12, f13⟩ := bx14 kA
        have hl' := lt_of_heap kA
        go_wp2_with fail
        refine (HA.out _ X).mono ?_
        rintro e w3 ⟨rfl, B⟩
        clear f0 f1 f2 f3 f4 f5 f6 f7 f8 f9 f10 f11 f12 f13 hl'
        replace X := Below.step X B
        replace kA := box_below B kA
        clear B
        obtain ⟨f0, f1, f2, f3, f4, f5, f6, f7, f8, f9, f10, f11, f12, f13⟩ := bx14 kA
        have hl' := lt_of_heap kA
        cases Y with
        | false =>
          go_wp2
          go_ret
          exact ⟨ret_b HR.out, X⟩
        | true =>
          go_wp2
          go_ret
          exact ⟨ret_b HR.out, X⟩

set_option maxRecDepth 100000 in
set_option maxHeartbeats 4000000 in
theorem specRecordOk_1 (K U N : Int) (hk0 : 1 ≤ K) (hk1 : K ≤ 8) (hu0 : 0 ≤ U) (hu1 : U ≤ 2) (hn0 : 0 ≤ N) (hn1 : N ≤ 1000000) (k : Int) (a0 a1 a2 a3 a4 : Option Addr) (nb nt nx mb ms c0 c1 c2 c3 c4 : Nat) (uid mode fl si valid : Int) (w : World) (Z C Y A c : Bool) (HZ : Hid (∀ wi, Below w.heap.size w wi → Calls Tryz.prog 33 #[.agg #[.int .i64 k, .slice a0 nb c0, .slice a1 nt c1, .int .i64 uid, .int .i64 mode, .int .i64 fl, .int .i64 si, .slice a2 nx c2]] wi fun e w' => e = .returned (.bool Z) ∧ Below wi.heap.size wi w')) (HC : Hid (∀ wi, Below w.heap.size w wi → Calls Tryz.prog 34 #[.agg #[.int .i64 k, .slice a0 nb c0, .slice a1 nt c1, .int .i64 uid, .int .i64 mode, .int .i64 fl, .int .i64 si, .slice a2 nx c2]] wi fun e w' => e = .returned (.bool C) ∧ Below wi.heap.size wi w')) (HA : Hid (∀ wi, Below w.heap.size w wi → Calls Tryz.prog 36 #[.agg #[.int .i64 valid, .slice a3 mb c3, .slice a4 ms c4]] wi fun e w' => e = .returned (.bool Y) ∧ Below wi.heap.size wi w')) (HY : Hid (∀ wi, Below w.heap.size w wi → Calls Tryz.prog 35 #[.agg #[.int .i64 valid, .slice a3 mb c3, .slice a4 ms c4]] wi fun e w' => e = .returned (.bool A) ∧ Below wi.heap.size wi w'))
    (HR : Hid (c = (Z && (bif decide (K = 3) then A else (Y && (!(decide (K = 6) && decide (3 ≤ N)) && (decide (K < 7) || decide (N = 0)))))))) :
    Calls Tryz.prog 15 #[.agg #[.int .i64 K, .int .i64 U, .int .i64 N, .int .i64 k, .slice a0 nb c0, .slice a1 nt c1, .int .i64 uid, .int .i64 mode, .int .i64 fl, .int .i64 si, .slice a2 nx c2, .int .i64 valid, .slice a3 mb c3, .slice a4 ms c4]] w fun e w' => e = .returned (.bool c) ∧ Below w.heap.size w w' := by
  have hk2 : decide (K = 0) = false := decide_eq_false (by omega)
  have hk3 : (K == 0) = false := by simp; omega
  have X0 : Hid (∀ o, Below w.heap.size w (w.alloc o)) := fun o => (Below.refl _ _).alloc (Nat.le_refl _) o
  have kA := box_new w (.cells #[.int .i64 K, .int .i64 U, .int .i64 N, .int .i64 k, .slice a0 nb c0, .slice a1 nt c1, .int .i64 uid, .int .i64 mode, .int .i64 fl, .int .i64 si, .slice a2 nx c2, .int .i64 valid, .slice a3 mb c3, .slice a4 ms c4] 53)
  have hl3 : ∀ w, Calls Tryz.prog 32 #[.int .i64 N] w fun e w' => e = .returned (.bool true) ∧ w' = w := fun w => by
    have h := l3seq_any N w
    rwa [show inB N 0 1000000 = true by simp [inB]; omega] at h
  go_enter Tryz.func15, Tryz.ntmps15
  go_wp2_with fail
  refine (hl3 _).mono ?_
  rintro e w' ⟨rfl, rfl⟩
  have X := X0.out (.cells #[.int .i64 K, .int .i64 U, .int .i64 N, .int .i64 k, .slice a0 nb c0, .slice a1 nt c1, .int .i64 uid, .int .i64 mode, .int .i64 fl, .int .i64 si, .slice a2 nx c2, .int .i64 valid, .slice a3 mb c3, .slice a4 ms c4] 53)
  generalize hw0 : w.alloc (.cells #[.int .i64 K, .int .i64 U, .int .i64 N, .int .i64 k, .slice a0 nb c0, .slice a1 nt c1, .int .i64 uid, .int .i64 mode, .int .i64 fl, .int .i64 si, .slice a2 nx c2, .int .i64 valid, .slice a3 mb c3, .slice a4 ms c4] 53) = w0 at X kA ⊢
  have DR : Below w0.heap.size w0 w0.drew := (Below.refl _ _).drew
  have HF : Hid (∀ w', Below w0.heap.size w0 w' → w'.cell? ⟨w.heap.size, 0, none⟩ = some (.int .i64 K) ∧ w'.cell? ⟨w.heap.size, 1, none⟩ = some (.int .i64 U) ∧ w'.cell? ⟨w.heap.size, 2, none⟩ = some (.int .i64 N) ∧ w'.cell? ⟨w.heap.size, 3, none⟩ = some (.int .i64 k) ∧ w'.cell? ⟨w.heap.size, 4, none⟩ = some (.slice a0 nb c0) ∧ w'.cell? ⟨w.heap.size, 5, none⟩ = some (.slice a1 nt c1) ∧ w'.cell? ⟨w.heap.size, 6, none⟩ = some (.int .i64 uid) ∧ w'.cell? ⟨w.heap.size, 7, none⟩ = some (.int .i64 mode) ∧ w'.cell? ⟨w.heap.size, 8, none⟩ = some (.int .i64 fl) ∧ w'.cell? ⟨w.heap.size, 9, none⟩ = some (.int .i64 si) ∧ w'.cell? ⟨w.heap.size, 10, none⟩ = some (.slice a2 nx c2) ∧ w'.cell? ⟨w.heap.size, 11, none⟩ = some (.int .i64 valid) ∧ w'.cell? ⟨w.heap.size, 12, none⟩ = some (.slice a3 mb c3) ∧ w'.cell? ⟨w.heap.size, 13, none⟩ = some (.slice a4 ms c4)) := fun w' h => bx14 (box_below h kA)
  have hl : w.heap.size < w0.heap.size := lt_of_heap kA
  clear X0 hl3
  go_wp2
  cases Z with
  | false =>
    refine wp_begin (S := fun w' => w'.cell? ⟨w.heap.size, 0, none⟩ = some (.int .i64 K) ∧ w'.cell? ⟨w.heap.size, 1, none⟩ = some (.int .i64 U) ∧ w'.cell? ⟨w.heap.size, 2, none⟩ = some (.int .i64 N) ∧ w'.cell? ⟨w.heap.size, 3, none⟩ = some (.int .i64 k) ∧ w'.cell? ⟨w.heap.size, 4, none⟩ = some (.slice a0 nb c0) ∧ w'.cell? ⟨w.heap.size, 5, none⟩ = some (.slice a1 nt c1) ∧ w'.cell? ⟨w.heap.size, 6, none⟩ = some (.int .i64 uid) ∧ w'.cell? ⟨w.heap.size, 7, none⟩ = some (.int .i64 mode) ∧ w'.cell? ⟨w.heap.size, 8, none⟩ = some (.int .i64 fl) ∧ w'.cell? ⟨w.heap.size, 9, none⟩ = some (.int .i64 si) ∧ w'.cell? ⟨w.heap.size, 10, none⟩ = some (.slice a2 nx c2) ∧ w'.cell? ⟨w.heap.size, 11, none⟩ = some (.int .i64 valid) ∧ w'.cell? ⟨w.heap.size, 12, none⟩ = some (.slice a3 mb c3) ∧ w'.cell? ⟨w.heap.size, 13, none⟩ = some (.slice a4 ms c4)) (tab_of (by kernel_rfl) tabRO3) (by kernel_rfl) (HF.out _ DR) (fun hTb hHeld => ?_)
    refine tkq 0 27 hTb hHeld ?_
    refine tkq 1 28 hTb hHeld ?_
    refine tkq 2 29 hTb hHeld ?_
    refine tkq 3 30 hTb hHeld ?_
    refine tkq 4 31 hTb hHeld ?_
    refine clp 5 hTb (by decide) ?_
    refine AllReadyH.cons rfl (fun K hK => ?_) AllReadyH.nil
    go_simp
    refine (HZ.out _ (Below.step X DR)).mono ?_
    rintro e w1 ⟨rfl, B⟩
    refine hK.out _ _ (HF.out _ (Below.step DR B)) (fun hHeld => ?_)
    clear hK K
    refine wpAt_in (n := 24) (i := 5) (by decide) rfl rfl ?_
    refine tkq 6 33 hTb hHeld ?_
    refine tkq 7 34 hTb hHeld ?_
    refine tkq 8 35 hTb hHeld ?_
    refine skj (i := 9) (j := 23) [36, 37, 38, 39, 40, 41, 42, 43, 44, 45, 46, 47, 48, 49] rfl hTb (fun _ _ _ _ _ h => h) hHeld (by kernel_rfl) ?_
    conv => arg 7; dsimp only [List.foldl_cons, List.foldl_nil, setT, List.toList_toArray, put0, putS]
    refine tkq 23 50 hTb hHeld ?_
    refine wp_end hTb ?_
    replace X := Below.step (Below.step X DR) B
    replace kA := box_below B (box_below DR kA)
    clear HF DR B HZ HC
    repeat clear hHeld
    clear hTb
    go_wp2
    go_ret
    exact ⟨ret_b HR.out, X⟩
  | true =>
    refine wp_begin (S := fun w' => w'.cell? ⟨w.heap.size, 0, none⟩ = some (.int .i64 K) ∧ w'.cell? ⟨w.heap.size, 1, none⟩ = some (.int .i64 U) ∧ w'.cell? ⟨w.heap.size, 2, none⟩ = some (.int .i64 N) ∧ w'.cell? ⟨w.heap.size, 3, none⟩ = some (.int .i64 k) ∧ w'.cell? ⟨w.heap.size, 4, none⟩ = some (.slice a0 nb c0) ∧ w'.cell? ⟨w.heap.size, 5, none⟩ = some (.slice a1 nt c1) ∧ w'.cell? ⟨w.heap.size, 6, none⟩ = some (.int .i64 uid) ∧ w'.cell? ⟨w.heap.size, 7, none⟩ = some (.int .i64 mode) ∧ w'.cell? ⟨w.heap.size, 8, none⟩ = some (.int .i64 fl) ∧ w'.cell? ⟨w.heap.size, 9, none⟩ = some (.int .i64 si) ∧ w'.cell? ⟨w.heap.size, 10, none⟩ = some (.slice a2 nx c2) ∧ w'.cell? ⟨w.heap.size, 11, none⟩ = some (.int .i64 valid) ∧ w'.cell? ⟨w.heap.size, 12, none⟩ = some (.slice a3 mb c3) ∧ w'.cell? ⟨w.heap.size, 13, none⟩ = some (.slice a4 ms c4)) (tab_of (by kernel_rfl) tabRO3) (by kernel_rfl) (HF.out _ DR) (fun hTb hHeld => ?_)
    refine tkq 0 27 hTb hHeld ?_
    refine tkq 1 28 hTb hHeld ?_
    refine tkq 2 29 hTb hHeld ?_
    refine tkq 3 30 hTb hHeld ?_
    refine tkq 4 31 hTb hHeld ?_
    refine clp 5 hTb (by decide) ?_
    refine AllReadyH.cons rfl (fun K hK => ?_) AllReadyH.nil
    go_simp
    refine (HZ.out _ (Below.step X DR)).mono ?_
    rintro e w1 ⟨rfl, B⟩
    refine hK.out _ _ (HF.out _ (Below.step DR B)) (fun hHeld => ?_)
    clear hK K
    refine wpAt_in (n := 24) (i := 5) (by decide) rfl rfl ?_
    refine tkq 6 33 hTb hHeld ?_
    refine tkq 7 34 hTb hHeld ?_
    refine tkq 8 35 hTb hHeld ?_
    refine tkq 9 36 hTb hHeld ?_
    refine tkq 10 37 hTb hHeld ?_
    refine tkq 11 38 hTb hHeld ?_
    refine tkq 12 39 hTb hHeld ?_
    refine skj (i := 13) (j := 22) [40, 41, 42, 43, 44, 45, 46, 47, 48] rfl hTb (fun _ _ _ _ _ h => h) hHeld (by kernel_rfl) ?_
    conv => arg 7; dsimp only [List.foldl_cons, List.foldl_nil, setT, List.toList_toArray, put0, putS]
    refine tkq 22 49 hTb hHeld ?_
    refine tkq 23 50 hTb hHeld ?_
    refine wp_end hTb ?_
    replace X := Below.step (Below.step X DR) B
    replace kA := box_below B (box_below DR kA)
    clear HF DR B HZ HC
    repeat clear hHeld
    clear hTb
    obtain ⟨f0, f1, f2, f3, f4, f5, f6, f7, f8, f9, f10, f11, f12, f13⟩ := bx14 kA
    have hl' := lt_of_heap kA
    by_cases h3 : K = 3
    · subst h3
      go_wp2_with fail
      refine (HY.out _ X).mono ?_
      rintro e w3 ⟨rfl, B⟩
      go_wp2
      go_ret
      exact ⟨ret_b HR.out, Below.step X B⟩
    · rw [decide_eq_false h3] at HR
      go_wp2_with fail
      refine (HA.out _ X).mono ?_
      rintro e w3 ⟨rfl, B⟩
      clear f0 f1 f2 f3 f4 f5 f6 f7 f8 f9 f10 f11 f12 f13 hl'
      replace X := Below.step X B
      replace kA := box_below B kA
      clear B
      obtain ⟨f0, f1, f2, f3, f4, f5, f6, f7, f8, f9, f10, f11, f12, f13⟩ := bx14 kA
      have hl' := lt_of_heap kA
      cases Y with
      | false =>
        go_wp2
        go_ret
        exact ⟨ret_b HR.out, X⟩
      | true =>
        clear hk2 hk3
        go_wp2
        all_goals (go_ret; refine ⟨ret_b (HR.out.trans ?_), X⟩; clear HR X HA HY kA f0 f1 f2 f3 f4 f5 f6 f7 f8 f9 f10 f11 f12 f13; (try simp only [beq_iff_eq, beq_eq_false_iff_ne, ne_eq] at *); rw [Bool.eq_iff_iff]; simp; omega)

end Go.Proofs.YtdokgpdfdenoaaaGreat

/- What l3name of package spec does. -/
namespace Go.Proofs.YtdokgpdfdenoaaaGreat
open Go.RowKit
set_option maxRecDepth 100000

set_option maxHeartbeats 400000 in
theorem l3name_any (v : Value) (l : List Int) (w : World) (hv : Bs w v l) :
    Calls Tryz.prog 54 #[v] w fun e w' => e = .returned (.bool (nameB l)) ∧ w' = w := by
  obtain ⟨ho, a, cap, rfl, hlc, hcm, hnil, hcells⟩ := hv
  unfold maxLen at hcm
  by_cases h0 : 1 ≤ l.length
  · by_cases h1 : l.length ≤ 6
    · have HN : Hid (nameB l = allIn 97 122 l) := by simp [Hid, nameB, h0, h1]
      obtain ⟨b, off, rfl, hlb, hc⟩ := hcells (by omega)
      go_enter Tryz.func54, Tryz.ntmps54
      go_wp2
      go_loop [3] (fun i => ∃ k : Nat, k ≤ l.length ∧ i = .int .i64 k ∧ Hid (∀ j, j < k → 97 ≤ l.getD j 0 ∧ l.getD j 0 ≤ 122)) (fun i => l.length - (intOf i).toNat)
      case atStart => exact ⟨0, Nat.zero_le _, rfl, fun j hj => absurd hj (Nat.not_lt_zero _)⟩
      case round =>
        obtain ⟨k, hk, rfl, hA⟩ := hrel
        by_cases hlt : k < l.length
        · have hx := hc k hlt
          have hbx := oct_get ho k
          have HY : Hid (l.getD k 0 = l.getD k 0) := rfl
          generalize hy : l.getD k 0 = x at hx hbx HY
          have HX : Hid (l.getD k 0 = x) := hy
          clear hy HY hc
          by_cases c1 : 97 ≤ x
          · by_cases c2 : x ≤ 122
            · go_wp2
              go_round
              case rel =>
                refine ⟨k + 1, by omega, by go_num, (show Hid _ from fun j hj => ?_)⟩
                by_cases e : j = k
                · subst e; rw [HX.out]; exact ⟨c1, c2⟩
                · exact hA.out j (by omega)
              case measure => simp [intOf]; omega
            · go_wp2
              go_ret
              exact ⟨ret_b (a := false) (by rw [HN.out, allIn_no k hlt (by rw [HX.out]; omega)]), rfl⟩
          · go_wp2
            go_ret
            exact ⟨ret_b (a := false) (by rw [HN.out, allIn_no k hlt (by rw [HX.out]; omega)]), rfl⟩
        · obtain rfl : k = l.length := by omega
          go_wp2
          go_ret
          exact ⟨ret_b (a := true) (by rw [HN.out, allIn_yes hA.out]), rfl⟩
    · have HN : Hid (nameB l = false) := by simp [Hid, nameB, h1]
      go_enter Tryz.func54, Tryz.ntmps54
      go_wp2
      go_ret
      exact ⟨ret_b (a := false) HN.out, rfl⟩
  · have HN : Hid (nameB l = false) := by simp [Hid, nameB, h0]
    go_enter Tryz.func54, Tryz.ntmps54
    go_wp2
    go_ret
    exact ⟨ret_b (a := false) HN.out, rfl⟩

end Go.Proofs.YtdokgpdfdenoaaaGreat

/- What l3text of package spec does. -/
namespace Go.Proofs.YtdokgpdfdenoaaaGreat
open Go.RowKit
set_option maxRecDepth 100000

set_option maxHeartbeats 400000 in
theorem l3text_any (v : Value) (l : List Int) (w : World) (hv : Bs w v l) :
    Calls Tryz.prog 56 #[v] w fun e w' => e = .returned (.bool (textB l)) ∧ w' = w := by
  obtain ⟨ho, a, cap, rfl, hlc, hcm, hnil, hcells⟩ := hv
  unfold maxLen at hcm
  by_cases h0 : l.length ≤ 30
  · by_cases h1 : True
    · have HN : Hid (textB l = allIn 32 126 l) := by simp [Hid, textB, h0]
      clear h1
      go_enter Tryz.func56, Tryz.ntmps56
      go_wp2
      go_loop [3] (fun i => ∃ k : Nat, k ≤ l.length ∧ i = .int .i64 k ∧ Hid (∀ j, j < k → 32 ≤ l.getD j 0 ∧ l.getD j 0 ≤ 126)) (fun i => l.length - (intOf i).toNat)
      case atStart => exact ⟨0, Nat.zero_le _, rfl, fun j hj => absurd hj (Nat.not_lt_zero _)⟩
      case round =>
        obtain ⟨k, hk, rfl, hA⟩ := hrel
        by_cases hlt : k < l.length
        · obtain ⟨b, off, rfl, hlb, hc⟩ := hcells (by omega)
          have hx := hc k hlt
          have hbx := oct_get ho k
          have HY : Hid (l.getD k 0 = l.getD k 0) := rfl
          generalize hy : l.getD k 0 = x at hx hbx HY
          have HX : Hid (l.getD k 0 = x) := hy
          clear hy HY hc hcells
          by_cases c1 : 32 ≤ x
          · by_cases c2 : x ≤ 126
            · go_wp2
              go_round
              case rel =>
                refine ⟨k + 1, by omega, by go_num, (show Hid _ from fun j hj => ?_)⟩
                by_cases e : j = k
                · subst e; rw [HX.out]; exact ⟨c1, c2⟩
                · exact hA.out j (by omega)
              case measure => simp [intOf]; omega
            · go_wp2
              go_ret
              exact ⟨ret_b (a := false) (by rw [HN.out, allIn_no k hlt (by rw [HX.out]; omega)]), rfl⟩
          · go_wp2
            go_ret
            exact ⟨ret_b (a := false) (by rw [HN.out, allIn_no k hlt (by rw [HX.out]; omega)]), rfl⟩
        · obtain rfl : k = l.length := by omega
          go_wp2
          go_ret
          exact ⟨ret_b (a := true) (by rw [HN.out, allIn_yes hA.out]), rfl⟩
    · exact absurd trivial h1
  · have HN : Hid (textB l = false) := by simp [Hid, textB, h0]
    go_enter Tryz.func56, Tryz.ntmps56
    go_wp2
    go_ret
    exact ⟨ret_b (a := false) HN.out, rfl⟩

end Go.Proofs.YtdokgpdfdenoaaaGreat

/- What CmdOk of package spec does of a kind that has a name alone. -/
namespace Go.Proofs.YtdokgpdfdenoaaaGreat
open Go.RowKit
set_option maxRecDepth 100000
set_option linter.unusedVariables false

set_option maxRecDepth 100000 in
set_option maxHeartbeats 4000000 in
theorem specCmdOk_A (k : Int) (h00 : 0 ≤ k) (h01 : k ≤ 9) (h2 : ¬ k = 2) (h3 : ¬ k = 3) (h5 : ¬ k = 5) (h6 : ¬ k = 6) (h8 : ¬ k = 8) (h9 : ¬ k = 9) (a0 a1 a2 : Option Addr) (nb nt nx c0 c1 c2 : Nat) (bx tt : List Int) (uid mode fl si : Int) (tx : List Int) (w : World) (HN : Hid (bx.length = nb ∧ tt.length = nt ∧ tx.length = nx))
    (H0 : Hid (∀ o, Bs (w.alloc o) (.slice a0 nb c0) bx ∧ Bs (w.alloc o) (.slice a1 nt c1) tt ∧ Bs (w.alloc o) (.slice a2 nx c2) tx)) (i10 : -9223372036854775808 ≤ uid) (i11 : uid ≤ 9223372036854775807) (i20 : -9223372036854775808 ≤ mode) (i21 : mode ≤ 9223372036854775807) (i30 : -9223372036854775808 ≤ fl) (i31 : fl ≤ 9223372036854775807) (i40 : -9223372036854775808 ≤ si) (i41 : si ≤ 9223372036854775807) :
    Calls Tryz.prog 34 #[.agg #[.int .i64 k, .slice a0 nb c0, .slice a1 nt c1, .int .i64 uid, .int .i64 mode, .int .i64 fl, .int .i64 si, .slice a2 nx c2]] w fun e w' => e = .returned (.bool (cmdB k bx tt uid mode fl si tx)) ∧ Below w.heap.size w w' := by
  have hp : ∀ w, Calls Tryz.prog 55 #[.int .i64 k] w fun e w' => e = .returned (.tuple #[.bool false, .bool false, .bool false, .bool false, .bool false]) ∧ w' = w := fun w => by
    have h := l3parts_any k w
    rwa [show toB k = false by simp [toB, h6], show uidB k = false by simp [uidB, h3, h5, h6], show modeB k = false by simp [modeB, h2, h3, h6], show sinceB k = false by simp [sinceB, h3, h8], show textsB k = false by simp [textsB, h2]] at h
  have ab : Hid (∀ o, Below w.heap.size w (w.alloc o)) := fun o => (Below.refl _ _).alloc (Nat.le_refl _) o
  rcases Nat.eq_zero_or_pos nb with rfl | hnb
  all_goals rcases Nat.eq_zero_or_pos nt with rfl | hnt
  all_goals try have hnb' : (nb : Int) ≠ 0 := by omega
  all_goals try have hnt' : (nt : Int) ≠ 0 := by omega
  all_goals try have hnt2 : (0 : Int) < nt := by omega
  all_goals go_enter Tryz.func34, Tryz.ntmps34
  all_goals go_wp2_with (first
    | (go_at_call 54; (refine (l3name_any _ bx _ (H0.out _).1).mono ?_); rintro e w' ⟨rfl, rfl⟩)
    | (go_at_call 56; refine (l3text_any _ tx _ (H0.out _).2.2).mono ?_; rintro e w' ⟨rfl, rfl⟩)
    | (go_at_call 55; refine (hp _).mono ?_; rintro e w' ⟨rfl, rfl⟩)
    | (go_at_call 32; refine (l3seq_any _ _).mono ?_; rintro e w' ⟨rfl, rfl⟩))
  all_goals go_ret
  all_goals refine ⟨ret_b ?_, ab.out _⟩
  all_goals clear hp H0
  all_goals have HN' := HN.out
  all_goals (try go_light)
  all_goals obtain ⟨e0, e1, e2⟩ := HN'
  all_goals clear HN ab
  all_goals have z0 := nameB_nil (l := bx)
  all_goals have z1 := nameB_nil (l := tt)
  all_goals have z2 := textB_nil (l := tx)
  all_goals (try have y0 := HX.out)
  all_goals (try have y1 := HY.out)
  all_goals (try clear HX HY)
  all_goals (rcases (show k = 0 ∨ k = 1 ∨ k = 4 ∨ k = 7 by omega) with rfl | rfl | rfl | rfl)
  all_goals (unfold cmdB; unfold inB at *; cases hn : nameB bx <;> cases hm : nameB tt <;> cases ht : textB tx <;> simp [hn, hm, ht, e0, e1, e2] at * <;> first | omega | (rw [Bool.eq_iff_iff]; simp; omega))

end Go.Proofs.YtdokgpdfdenoaaaGreat

/- What CmdOk of package spec does of kind 2. -/
namespace Go.Proofs.YtdokgpdfdenoaaaGreat
open Go.RowKit
set_option maxRecDepth 100000
set_option linter.unusedVariables false

set_option maxRecDepth 100000 in
set_option maxHeartbeats 4000000 in
theorem specCmdOk_2 (a0 a1 a2 : Option Addr) (nb nt nx c0 c1 c2 : Nat) (bx tt : List Int) (uid mode fl si : Int) (tx : List Int) (w : World) (HN : Hid (bx.length = nb ∧ tt.length = nt ∧ tx.length = nx))
    (H0 : Hid (∀ o, Bs (w.alloc o) (.slice a0 nb c0) bx ∧ Bs (w.alloc o) (.slice a1 nt c1) tt ∧ Bs (w.alloc o) (.slice a2 nx c2) tx)) (i10 : -9223372036854775808 ≤ uid) (i11 : uid ≤ 9223372036854775807) (i20 : -9223372036854775808 ≤ mode) (i21 : mode ≤ 9223372036854775807) (i30 : -9223372036854775808 ≤ fl) (i31 : fl ≤ 9223372036854775807) (i40 : -9223372036854775808 ≤ si) (i41 : si ≤ 9223372036854775807) :
    Calls Tryz.prog 34 #[.agg #[.int .i64 2, .slice a0 nb c0, .slice a1 nt c1, .int .i64 uid, .int .i64 mode, .int .i64 fl, .int .i64 si, .slice a2 nx c2]] w fun e w' => e = .returned (.bool (cmdB 2 bx tt uid mode fl si tx)) ∧ Below w.heap.size w w' := by
  have hp : ∀ w, Calls Tryz.prog 55 #[.int .i64 2] w fun e w' => e = .returned (.tuple #[.bool false, .bool false, .bool true, .bool false, .bool true]) ∧ w' = w := fun w => l3parts_any 2 w
  have ab : Hid (∀ o, Below w.heap.size w (w.alloc o)) := fun o => (Below.refl _ _).alloc (Nat.le_refl _) o
  rcases Nat.eq_zero_or_pos nb with rfl | hnb
  all_goals rcases Nat.eq_zero_or_pos nt with rfl | hnt
  all_goals try have hnb' : (nb : Int) ≠ 0 := by omega
  all_goals try have hnt' : (nt : Int) ≠ 0 := by omega
  all_goals try have hnt2 : (0 : Int) < nt := by omega
  all_goals go_enter Tryz.func34, Tryz.ntmps34
  all_goals go_wp2_with (first
    | (go_at_call 54; (refine (l3name_any _ bx _ (H0.out _).1).mono ?_); rintro e w' ⟨rfl, rfl⟩)
    | (go_at_call 56; refine (l3text_any _ tx _ (H0.out _).2.2).mono ?_; rintro e w' ⟨rfl, rfl⟩)
    | (go_at_call 55; refine (hp _).mono ?_; rintro e w' ⟨rfl, rfl⟩)
    | (go_at_call 32; refine (l3seq_any _ _).mono ?_; rintro e w' ⟨rfl, rfl⟩))
  all_goals go_ret
  all_goals refine ⟨ret_b ?_, ab.out _⟩
  all_goals clear hp H0
  all_goals have HN' := HN.out
  all_goals (try go_light)
  all_goals obtain ⟨e0, e1, e2⟩ := HN'
  all_goals clear HN ab
  all_goals have z0 := nameB_nil (l := bx)
  all_goals have z1 := nameB_nil (l := tt)
  all_goals have z2 := textB_nil (l := tx)
  all_goals (try have y0 := HX.out)
  all_goals (try have y1 := HY.out)
  all_goals (try clear HX HY)
  all_goals (unfold cmdB; unfold inB at *; cases hn : nameB bx <;> cases hm : nameB tt <;> cases ht : textB tx <;> simp [hn, hm, ht, e0, e1, e2] at * <;> first | omega | (rw [Bool.eq_iff_iff]; simp; omega))

end Go.Proofs.YtdokgpdfdenoaaaGreat

/- What CmdOk of package spec does of kind 3. -/
namespace Go.Proofs.YtdokgpdfdenoaaaGreat
open Go.RowKit
set_option maxRecDepth 100000
set_option linter.unusedVariables false

set_option maxRecDepth 100000 in
set_option maxHeartbeats 4000000 in
theorem specCmdOk_3 (a0 a1 a2 : Option Addr) (nb nt nx c0 c1 c2 : Nat) (bx tt : List Int) (uid mode fl si : Int) (tx : List Int) (w : World) (HN : Hid (bx.length = nb ∧ tt.length = nt ∧ tx.length = nx))
    (H0 : Hid (∀ o, Bs (w.alloc o) (.slice a0 nb c0) bx ∧ Bs (w.alloc o) (.slice a1 nt c1) tt ∧ Bs (w.alloc o) (.slice a2 nx c2) tx)) (i10 : -9223372036854775808 ≤ uid) (i11 : uid ≤ 9223372036854775807) (i20 : -9223372036854775808 ≤ mode) (i21 : mode ≤ 9223372036854775807) (i30 : -9223372036854775808 ≤ fl) (i31 : fl ≤ 9223372036854775807) (i40 : -9223372036854775808 ≤ si) (i41 : si ≤ 9223372036854775807) :
    Calls Tryz.prog 34 #[.agg #[.int .i64 3, .slice a0 nb c0, .slice a1 nt c1, .int .i64 uid, .int .i64 mode, .int .i64 fl, .int .i64 si, .slice a2 nx c2]] w fun e w' => e = .returned (.bool (cmdB 3 bx tt uid mode fl si tx)) ∧ Below w.heap.size w w' := by
  have hp : ∀ w, Calls Tryz.prog 55 #[.int .i64 3] w fun e w' => e = .returned (.tuple #[.bool false, .bool true, .bool true, .bool true, .bool false]) ∧ w' = w := fun w => l3parts_any 3 w
  have ab : Hid (∀ o, Below w.heap.size w (w.alloc o)) := fun o => (Below.refl _ _).alloc (Nat.le_refl _) o
  rcases Nat.eq_zero_or_pos nb with rfl | hnb
  all_goals rcases Nat.eq_zero_or_pos nt with rfl | hnt
  all_goals try have hnb' : (nb : Int) ≠ 0 := by omega
  all_goals try have hnt' : (nt : Int) ≠ 0 := by omega
  all_goals try have hnt2 : (0 : Int) < nt := by omega
  all_goals go_enter Tryz.func34, Tryz.ntmps34
  all_goals go_wp2_with (first
    | (go_at_call 54; (refine (l3name_any _ bx _ (H0.out _).1).mono ?_); rintro e w' ⟨rfl, rfl⟩)
    | (go_at_call 56; refine (l3text_any _ tx _ (H0.out _).2.2).mono ?_; rintro e w' ⟨rfl, rfl⟩)
    | (go_at_call 55; refine (hp _).mono ?_; rintro e w' ⟨rfl, rfl⟩)
    | (go_at_call 32; refine (l3seq_any _ _).mono ?_; rintro e w' ⟨rfl, rfl⟩))
  all_goals go_ret
  all_goals refine ⟨ret_b ?_, ab.out _⟩
  all_goals clear hp H0
  all_goals have HN' := HN.out
  all_goals (try go_light)
  all_goals obtain ⟨e0, e1, e2⟩ := HN'
  all_goals clear HN ab
  all_goals have z0 := nameB_nil (l := bx)
  all_goals have z1 := nameB_nil (l := tt)
  all_goals have z2 := textB_nil (l := tx)
  all_goals (try have y0 := HX.out)
  all_goals (try have y1 := HY.out)
  all_goals (try clear HX HY)
  all_goals (unfold cmdB; unfold inB at *; cases hn : nameB bx <;> cases hm : nameB tt <;> cases ht : textB tx <;> simp [hn, hm, ht, e0, e1, e2] at * <;> first | omega | (rw [Bool.eq_iff_iff]; simp; omega))

end Go.Proofs.YtdokgpdfdenoaaaGreat
