/- The proof's texts, part 3. -/
import Derived.Test.YtmonloebkdpahaaDoorPart2
import Derived.Deep.DeepCutAuto
import Derived.Deep.CutBlock
import Derived.Maps.AppendAt
import Derived.Laws.AppendOwnNone

/- What l3cmd of package spec draws: a command that may be. -/
namespace Go.Proofs.YtmonloebkdpahaaDoor
open Go.RowKit
set_option linter.unusedVariables false
set_option linter.unusedSimpArgs false

/-- Bytes of one's own, or none. -/
def OwnX (w : World) (v : Value) (l : List Int) : Prop := (v = .slice none 0 0 ∧ l = []) ∨ ∃ q, OwnQ w q v l
/-- Bytes that lie in none of three blocks, but behind the last one. -/
def QB (w : World) (g k rr : Nat) (v : Value) (l : List Int) : Prop := (∃ a n c, v = .slice a n c) ∧ Bs w v l ∧ v.ownBlock ≠ some g ∧ v.ownBlock ≠ some k ∧ v.ownBlock ≠ some rr ∧ (∀ b, v.ownBlock = some b → rr < b ∧ b < w.heap.size) ∧ OwnX w v l
/-- The text: none, or bytes of the call's own beside all else. -/
def TxO (w : World) (g k rr : Nat) (v0 v1 v2 : Value) (l : List Int) : Prop := (v2 = .slice none 0 0 ∧ l = []) ∨ ∃ q, OwnQ w q v2 l ∧ v0.ownBlock ≠ some q ∧ v1.ownBlock ≠ some q ∧ q ≠ g ∧ q ≠ k ∧ rr < q
/-- Where l3cmd stands. -/
structure XSt (w0 wI w : World) (g k rr : Nat) (cv : Value) (L : List Int) (c : CmdD) : Prop where
  cur : Cur w0 w g cv L
  gr : wI.grownBy w (some g)
  res : w.heap[rr]? = some (.cells #[.int .i64 0, .slice none 0 0, .slice none 0 0, .int .i64 0, .int .i64 0, .int .i64 0, .int .i64 0, .slice none 0 0] 77 (0, 0))
  cmd : ∃ v0 v1 v2, w.heap[k]? = some (.cells #[.int .i64 c.k, v0, v1, .int .i64 c.uid, .int .i64 c.mode, .int .i64 c.fl, .int .i64 c.si, v2] 77 (0, 0)) ∧ QB w g k rr v0 c.bx ∧ QB w g k rr v1 c.tt ∧ TxO w g k rr v0 v1 v2 c.tx
/-- Where the blocks lie. -/
structure XPl (w0 wI : World) (g k rr : Nat) : Prop where
  gI : g < wI.heap.size
  g0 : w0.heap.size ≤ g
  kI : wI.heap.size ≤ k
  rI : wI.heap.size ≤ rr
  kr : k ≠ rr
section
variable {w0 wI w w' : World} {g k rr : Nat} {cv v v0 v1 v2 : Value} {L l : List Int} {c : CmdD}
theorem OwnX.gb {j : Nat} (h : OwnX w v l) (hG : w.grownBy w' (some j)) (hj : v.ownBlock ≠ some j) : OwnX w' v l := by
  rcases h with h | ⟨q, h⟩
  · exact .inl h
  · refine .inr ⟨q, h.frame (hG.block q h.lt fun e => hj ?_)⟩
    obtain ⟨cap, rfl⟩ := h.form
    simp only [Value.ownBlock]
    exact e
theorem QB.gb {j : Nat} (h : QB w g k rr v l) (hG : w.grownBy w' (some j)) (hj : j = g ∨ j = k ∨ j = rr) : QB w' g k rr v l := by
  refine ⟨h.1, h.2.1.grown hG ?_, h.2.2.1, h.2.2.2.1, h.2.2.2.2.1, fun b hb => ⟨(h.2.2.2.2.2.1 b hb).1, Nat.lt_of_lt_of_le (h.2.2.2.2.2.1 b hb).2 hG.size⟩, h.2.2.2.2.2.2.gb hG ?_⟩
  all_goals
    rcases hj with rfl | rfl | rfl
    · exact h.2.2.1
    · exact h.2.2.2.1
    · exact h.2.2.2.2.1
theorem TxO.gb {j : Nat} (h : TxO w g k rr v0 v1 v2 l) (hG : w.grownBy w' (some j)) (hj : j = g ∨ j = k ∨ j = rr) : TxO w' g k rr v0 v1 v2 l := by
  rcases h with h | ⟨q, h, h0, h1, h2, h3, h4⟩
  · exact .inl h
  · exact .inr ⟨q, h.frame (hG.block q h.lt (by simp only [ne_eq, Option.some.injEq]; omega)), h0, h1, h2, h3, h4⟩
theorem TxO.bs (h : TxO w g k rr v0 v1 v2 l) : Bs w v2 l := by
  rcases h with ⟨rfl, rfl⟩ | ⟨q, h, -⟩
  · exact bs_nil w
  · exact h.bs
theorem TxO.form (h : TxO w g k rr v0 v1 v2 l) : ∃ a n c, v2 = .slice a n c := by
  rcases h with ⟨rfl, rfl⟩ | ⟨q, h, -⟩
  · exact ⟨_, _, _, rfl⟩
  · obtain ⟨cap, rfl⟩ := h.form; exact ⟨_, _, _, rfl⟩
theorem XSt.draw (h : XSt w0 wI w g k rr cv L c) (P : XPl w0 wI g k rr) (hC : Cur w0 w' g cv L) (hG : w.grownBy w' (some g)) : XSt w0 wI w' g k rr cv L c := by
  obtain ⟨v0, v1, v2, hc, q0, q1, q2⟩ := h.cmd
  have p1 := P.gI
  have p2 := P.kI
  have p3 := P.rI
  exact ⟨hC, gb_trans' h.gr hG, (hG.block rr (lt_of_heap h.res) (by simp; omega)).trans h.res, v0, v1, v2, (hG.block k (lt_of_heap hc) (by simp; omega)).trans hc, q0.gb hG (.inl rfl), q1.gb hG (.inl rfl), q2.gb hG (.inl rfl)⟩
theorem set_gb (w : World) (k i : Nat) (x : Value) : w.grownBy (w.setCell ⟨k, i, none⟩ x) (some k) := grownBy_setCell (World.grownBy.refl _ _)
theorem gb_setI {i : Nat} {x : Value} (h : wI.grownBy w (some g)) (hk : wI.heap.size ≤ k) : wI.grownBy (w.setCell ⟨k, i, none⟩ x) (some g) := ⟨h.os, h.tape, h.output, by rw [box_size]; exact h.size, fun j hj hne => (Below.heap_setCell _ _ _ _ (show j ≠ k by omega)).trans (h.block j hj hne)⟩
theorem XSt.setI {j : Nat} {n : Int} {c' : CmdD} (h : XSt w0 wI w g k rr cv L c) (P : XPl w0 wI g k rr) (hj : (j = 0 ∧ c' = { c with k := n }) ∨ (j = 3 ∧ c' = { c with uid := n }) ∨ (j = 4 ∧ c' = { c with mode := n }) ∨ (j = 5 ∧ c' = { c with fl := n }) ∨ (j = 6 ∧ c' = { c with si := n })) : XSt w0 wI (w.setCell ⟨k, j, none⟩ (.int .i64 n)) g k rr cv L c' := by
  obtain ⟨v0, v1, v2, hc, q0, q1, q2⟩ := h.cmd
  have p1 := P.gI
  have p2 := P.kI
  have p0 := P.g0
  have hG := set_gb w k j (.int .i64 n)
  have hq : k = g ∨ k = k ∨ k = rr := .inr (.inl rfl)
  refine ⟨h.cur.set (by omega) (by omega), gb_setI h.gr p2, box_other (k := k) (i := j) (v := .int .i64 n) h.res (Ne.symm P.kr), ?_⟩
  rcases hj with ⟨rfl, rfl⟩ | ⟨rfl, rfl⟩ | ⟨rfl, rfl⟩ | ⟨rfl, rfl⟩ | ⟨rfl, rfl⟩
  · exact ⟨v0, v1, v2, box_set (i := 0) (v := .int .i64 n) hc, q0.gb hG hq, q1.gb hG hq, q2.gb hG hq⟩
  · exact ⟨v0, v1, v2, box_set (i := 3) (v := .int .i64 n) hc, q0.gb hG hq, q1.gb hG hq, q2.gb hG hq⟩
  · exact ⟨v0, v1, v2, box_set (i := 4) (v := .int .i64 n) hc, q0.gb hG hq, q1.gb hG hq, q2.gb hG hq⟩
  · exact ⟨v0, v1, v2, box_set (i := 5) (v := .int .i64 n) hc, q0.gb hG hq, q1.gb hG hq, q2.gb hG hq⟩
  · exact ⟨v0, v1, v2, box_set (i := 6) (v := .int .i64 n) hc, q0.gb hG hq, q1.gb hG hq, q2.gb hG hq⟩
theorem QB.of {gq N : Nat} (h : OwnQ w gq v l) (hN : N ≤ gq) (h1 : g < N) (h2 : k < N) (h3 : rr < N) : QB w g k rr v l := by
  have hlt := h.lt
  obtain ⟨cap, rfl⟩ := h.form
  have e : (Value.slice (some ⟨gq, 0, none⟩) l.length cap).ownBlock = some gq := rfl
  refine ⟨⟨_, _, _, rfl⟩, h.bs, ?_, ?_, ?_, ?_, .inr ⟨gq, h⟩⟩
  · rw [e]; simp; omega
  · rw [e]; simp; omega
  · rw [e]; simp; omega
  · rw [e]; rintro b hb; cases hb; omega
theorem QB.nil (w : World) (g k rr : Nat) : QB w g k rr (.slice none 0 0) [] := ⟨⟨_, _, _, rfl⟩, bs_nil w, by simp [Value.ownBlock], by simp [Value.ownBlock], by simp [Value.ownBlock], by simp [Value.ownBlock], .inl ⟨rfl, rfl⟩⟩
/-- Bytes that were made since are put into a cell. -/
theorem XSt.setN {j gq : Nat} {u : Value} {x : List Int} {c' : CmdD} (h : XSt w0 wI w g k rr cv L c) (P : XPl w0 wI g k rr) (hC : Cur w0 w' g cv L) (hG : w.grownBy w' (some g)) (O : OwnQ w' gq u x) (hge : w.heap.size ≤ gq) (hj : (j = 1 ∧ c' = { c with bx := x }) ∨ (j = 2 ∧ c' = { c with tt := x }) ∨ (j = 7 ∧ c' = { c with tx := x })) : XSt w0 wI (w'.setCell ⟨k, j, none⟩ u) g k rr cv L c' := by
  have p1 := P.gI
  have p2 := P.kI
  have p0 := P.g0
  have hgl := h.cur.lt.2
  have hrl := lt_of_heap h.res
  obtain ⟨v0, v1, v2, hc, q0, q1, q2⟩ := h.cmd
  have hkl := lt_of_heap hc
  have Q := QB.of O hge hgl hkl hrl
  have hD := h.draw P hC hG
  have hc' := (hG.block k hkl (by simp; omega)).trans hc
  have hq : k = g ∨ k = k ∨ k = rr := .inr (.inl rfl)
  have g0 := q0.gb hG (.inl rfl)
  have g1 := q1.gb hG (.inl rfl)
  have g2 := q2.gb hG (.inl rfl)
  have hS := set_gb w' k j u
  obtain ⟨cp, rfl⟩ := O.form
  refine ⟨hD.cur.set (by omega) (by omega), gb_setI hD.gr p2, box_other (k := k) (i := j) (v := .slice (some ⟨gq, 0, none⟩) x.length cp) hD.res (Ne.symm P.kr), ?_⟩
  rcases hj with ⟨rfl, rfl⟩ | ⟨rfl, rfl⟩ | ⟨rfl, rfl⟩
  · refine ⟨_, v1, v2, box_set (i := 1) hc', Q.gb hS hq, g1.gb hS hq, ?_⟩
    rcases q2 with e | ⟨q, t, t0, t1, t2, t3, t4⟩
    · exact .inl e
    · have hl := t.lt
      refine .inr ⟨q, (t.frame (hG.block q hl (by simp; omega))).frame (Below.heap_setCell _ _ _ _ (show q ≠ k from t3)), ?_, t1, t2, t3, t4⟩
      simp only [Value.ownBlock, ne_eq, Option.some.injEq]; omega
  · refine ⟨v0, _, v2, box_set (i := 2) hc', g0.gb hS hq, Q.gb hS hq, ?_⟩
    rcases q2 with e | ⟨q, t, t0, t1, t2, t3, t4⟩
    · exact .inl e
    · have hl := t.lt
      refine .inr ⟨q, (t.frame (hG.block q hl (by simp; omega))).frame (Below.heap_setCell _ _ _ _ (show q ≠ k from t3)), t0, ?_, t2, t3, t4⟩
      simp only [Value.ownBlock, ne_eq, Option.some.injEq]; omega
  · refine ⟨v0, v1, _, box_set (i := 7) hc', g0.gb hS hq, g1.gb hS hq, .inr ⟨gq, O.frame (Below.heap_setCell _ _ _ _ (show gq ≠ k by omega)), fun e => ?_, fun e => ?_, by omega, by omega, by omega⟩⟩
    · have := (q0.2.2.2.2.2.1 gq e).2; omega
    · have := (q1.2.2.2.2.2.1 gq e).2; omega
theorem XSt.setZ {c' : CmdD} (h : XSt w0 wI w g k rr cv L c) (P : XPl w0 wI g k rr) (hj : c' = { c with bx := [] }) : XSt w0 wI (w.setCell ⟨k, 1, none⟩ (.slice none 0 0)) g k rr cv L c' := by
  obtain ⟨v0, v1, v2, hc, q0, q1, q2⟩ := h.cmd
  have p1 := P.gI
  have p2 := P.kI
  have p0 := P.g0
  have hS := set_gb w k 1 (.slice none 0 0)
  have hq : k = g ∨ k = k ∨ k = rr := .inr (.inl rfl)
  subst hj
  refine ⟨h.cur.set (by omega) (by omega), gb_setI h.gr p2, box_other (k := k) (i := 1) (v := .slice none 0 0) h.res (Ne.symm P.kr), .slice none 0 0, v1, v2, box_set (i := 1) hc, QB.nil _ _ _ _, q1.gb hS hq, ?_⟩
  rcases q2.gb hS hq with e | ⟨q, t, t0, t1, r⟩
  · exact .inl e
  · exact .inr ⟨q, t, by simp [Value.ownBlock], t1, r⟩
theorem XSt.below (h : XSt w0 wI w g k rr cv L c) (P : XPl w0 wI g k rr) (hb : Below w.heap.size w w') : XSt w0 wI w' g k rr cv L c := h.draw P (h.cur.below hb) (gb_below' (World.grownBy.refl _ _) hb)
theorem XSt.cells (h : XSt w0 wI w g k rr cv L c) : ∃ v1 v2 v7 : Value, w.cell? ⟨k, 0, none⟩ = some (.int .i64 c.k) ∧ w.cell? ⟨k, 1, none⟩ = some v1 ∧ w.cell? ⟨k, 2, none⟩ = some v2 ∧ w.cell? ⟨k, 3, none⟩ = some (.int .i64 c.uid) ∧ w.cell? ⟨k, 4, none⟩ = some (.int .i64 c.mode) ∧ w.cell? ⟨k, 5, none⟩ = some (.int .i64 c.fl) ∧ w.cell? ⟨k, 6, none⟩ = some (.int .i64 c.si) ∧ w.cell? ⟨k, 7, none⟩ = some v7 ∧ (∀ i, w.frozen? ⟨k, i, none⟩ = false) ∧ k < w.heap.size := by
  obtain ⟨v0, v1, v2, hc, -⟩ := h.cmd
  obtain ⟨d0, d1, d2, d3, d4, d5, d6, d7, d8⟩ := box8l hc
  exact ⟨_, _, _, d0, d1, d2, d3, d4, d5, d6, d7, (box8z hc).1, d8⟩
end

end Go.Proofs.YtmonloebkdpahaaDoor

/- Eight cells of a block that are set. -/
namespace Go.Proofs.YtmonloebkdpahaaDoor
open Go.RowKit
set_option linter.unusedVariables false

section
variable {w : World} {R : Nat} {t : TypeId} {c0 c1 c2 c3 c4 c5 c6 c7 d0 d1 d2 d3 d4 d5 d6 d7 : Value}
theorem heap_set8 (h : w.heap[R]? = some (.cells #[c0, c1, c2, c3, c4, c5, c6, c7] t (0, 0))) : ((((((((w.setCell ⟨R, 0, none⟩ d0).setCell ⟨R, 1, none⟩ d1).setCell ⟨R, 2, none⟩ d2).setCell ⟨R, 3, none⟩ d3).setCell ⟨R, 4, none⟩ d4).setCell ⟨R, 5, none⟩ d5).setCell ⟨R, 6, none⟩ d6).setCell ⟨R, 7, none⟩ d7).heap[R]? = some (.cells #[d0, d1, d2, d3, d4, d5, d6, d7] t (0, 0)) := by
  have e0 : (w.setCell ⟨R, 0, none⟩ d0).heap[R]? = some (.cells #[d0, c1, c2, c3, c4, c5, c6, c7] t (0, 0)) := box_set h
  have e1 : ((w.setCell ⟨R, 0, none⟩ d0).setCell ⟨R, 1, none⟩ d1).heap[R]? = some (.cells #[d0, d1, c2, c3, c4, c5, c6, c7] t (0, 0)) := box_set e0
  have e2 : (((w.setCell ⟨R, 0, none⟩ d0).setCell ⟨R, 1, none⟩ d1).setCell ⟨R, 2, none⟩ d2).heap[R]? = some (.cells #[d0, d1, d2, c3, c4, c5, c6, c7] t (0, 0)) := box_set e1
  have e3 : ((((w.setCell ⟨R, 0, none⟩ d0).setCell ⟨R, 1, none⟩ d1).setCell ⟨R, 2, none⟩ d2).setCell ⟨R, 3, none⟩ d3).heap[R]? = some (.cells #[d0, d1, d2, d3, c4, c5, c6, c7] t (0, 0)) := box_set e2
  have e4 : (((((w.setCell ⟨R, 0, none⟩ d0).setCell ⟨R, 1, none⟩ d1).setCell ⟨R, 2, none⟩ d2).setCell ⟨R, 3, none⟩ d3).setCell ⟨R, 4, none⟩ d4).heap[R]? = some (.cells #[d0, d1, d2, d3, d4, c5, c6, c7] t (0, 0)) := box_set e3
  have e5 : ((((((w.setCell ⟨R, 0, none⟩ d0).setCell ⟨R, 1, none⟩ d1).setCell ⟨R, 2, none⟩ d2).setCell ⟨R, 3, none⟩ d3).setCell ⟨R, 4, none⟩ d4).setCell ⟨R, 5, none⟩ d5).heap[R]? = some (.cells #[d0, d1, d2, d3, d4, d5, c6, c7] t (0, 0)) := box_set e4
  have e6 : (((((((w.setCell ⟨R, 0, none⟩ d0).setCell ⟨R, 1, none⟩ d1).setCell ⟨R, 2, none⟩ d2).setCell ⟨R, 3, none⟩ d3).setCell ⟨R, 4, none⟩ d4).setCell ⟨R, 5, none⟩ d5).setCell ⟨R, 6, none⟩ d6).heap[R]? = some (.cells #[d0, d1, d2, d3, d4, d5, d6, c7] t (0, 0)) := box_set e5
  have e7 : ((((((((w.setCell ⟨R, 0, none⟩ d0).setCell ⟨R, 1, none⟩ d1).setCell ⟨R, 2, none⟩ d2).setCell ⟨R, 3, none⟩ d3).setCell ⟨R, 4, none⟩ d4).setCell ⟨R, 5, none⟩ d5).setCell ⟨R, 6, none⟩ d6).setCell ⟨R, 7, none⟩ d7).heap[R]? = some (.cells #[d0, d1, d2, d3, d4, d5, d6, d7] t (0, 0)) := box_set e6
  exact e7
theorem below_set8 {w0 : World} {N : Nat} (h : Below N w0 w) (hN : N ≤ R) : Below N w0 ((((((((w.setCell ⟨R, 0, none⟩ d0).setCell ⟨R, 1, none⟩ d1).setCell ⟨R, 2, none⟩ d2).setCell ⟨R, 3, none⟩ d3).setCell ⟨R, 4, none⟩ d4).setCell ⟨R, 5, none⟩ d5).setCell ⟨R, 6, none⟩ d6).setCell ⟨R, 7, none⟩ d7) :=
  (((((((h.setCell (p := ⟨R, 0, none⟩) hN _).setCell (p := ⟨R, 1, none⟩) hN _).setCell (p := ⟨R, 2, none⟩) hN _).setCell (p := ⟨R, 3, none⟩) hN _).setCell (p := ⟨R, 4, none⟩) hN _).setCell (p := ⟨R, 5, none⟩) hN _).setCell (p := ⟨R, 6, none⟩) hN _).setCell (p := ⟨R, 7, none⟩) hN _
end

end Go.Proofs.YtmonloebkdpahaaDoor

/- What l3cmd of package spec draws: a command that may be. -/
namespace Go.Proofs.YtmonloebkdpahaaDoor
open Go.RowKit
set_option maxRecDepth 100000
set_option linter.unusedVariables false
set_option linter.unusedSimpArgs false

/-- The parts of a command that was drawn: bytes that were made since wI; the text is none, or the call's own. -/
def CmdW0 (wI w : World) (v0 v1 v2 : Value) (bx tt tx : List Int) : Prop := Bs w v0 bx ∧ Bs w v1 tt ∧ (∀ b, v0.ownBlock = some b → wI.heap.size ≤ b ∧ b < w.heap.size) ∧ (∀ b, v1.ownBlock = some b → wI.heap.size ≤ b ∧ b < w.heap.size) ∧
  ((v2 = .slice none 0 0 ∧ tx = []) ∨ ∃ q, OwnQ w q v2 tx ∧ v0.ownBlock ≠ some q ∧ v1.ownBlock ≠ some q ∧ wI.heap.size ≤ q) ∧ OwnX w v0 bx ∧ OwnX w v1 tt
def CmdW (wI w : World) (u : Value) (c : CmdD) : Prop := ∃ a0 n0 c0 a1 n1 c1 v2, u = .agg #[.int .i64 c.k, .slice a0 n0 c0, .slice a1 n1 c1, .int .i64 c.uid, .int .i64 c.mode, .int .i64 c.fl, .int .i64 c.si, v2] ∧ CmdW0 wI w (.slice a0 n0 c0) (.slice a1 n1 c1) v2 c.bx c.tt c.tx
section
variable {w0 wI W W' : World} {g rr : Nat} {cv : Value} {L : List Int}
theorem gbs (i : Nat) (x : Value) (h : wI.grownBy W (some rr)) : wI.grownBy (W.setCell ⟨rr, i, none⟩ x) (some rr) := grownBy_setCell h
theorem gb_to (h : wI.grownBy W (some g)) (hB : Below rr W W') (hr : wI.heap.size ≤ rr) : wI.grownBy W' (some g) := ⟨hB.os.trans h.os, hB.tape.trans h.tape, hB.output.trans h.output, Nat.le_trans h.size hB.size, fun j hj hne => (hB.block j (by omega)).trans (h.block j hj hne)⟩
theorem cur_to (h : Cur w0 W g cv L) (hB : Below rr W W') (hr : g < rr) : Cur w0 W' g cv L := by
  obtain ⟨hg, hb, hbs, i, q, h0, h1, hh⟩ := h
  exact ⟨hg, hb.trans (hB.mono (by omega)), hbs, i, q, h0, h1, (hB.block g hr).trans hh⟩
end
section
variable {w0 wI W : World} {g k rr : Nat} {cv : Value} {L : List Int} {c : CmdD}
theorem XSt.fin (h : XSt w0 wI W g k rr cv L c) (P : XPl w0 wI g k rr) : ∃ a0 n0 c0 a1 n1 c1 a2 n2 c2, W.heap[k]? = some (.cells #[.int .i64 c.k, .slice a0 n0 c0, .slice a1 n1 c1, .int .i64 c.uid, .int .i64 c.mode, .int .i64 c.fl, .int .i64 c.si, .slice a2 n2 c2] 77 (0, 0)) ∧
    Hid (∀ v0 v1 v2, v0 = .slice a0 n0 c0 → v1 = .slice a1 n1 c1 → v2 = .slice a2 n2 c2 → ((((((((W.setCell ⟨rr, 0, none⟩ (.int .i64 c.k)).setCell ⟨rr, 1, none⟩ v0).setCell ⟨rr, 2, none⟩ v1).setCell ⟨rr, 3, none⟩ (.int .i64 c.uid)).setCell ⟨rr, 4, none⟩ (.int .i64 c.mode)).setCell ⟨rr, 5, none⟩ (.int .i64 c.fl)).setCell ⟨rr, 6, none⟩ (.int .i64 c.si)).setCell ⟨rr, 7, none⟩ v2).heap[rr]? = some (.cells #[.int .i64 c.k, v0, v1, .int .i64 c.uid, .int .i64 c.mode, .int .i64 c.fl, .int .i64 c.si, v2] 77 (0, 0)) ∧ Bs ((((((((W.setCell ⟨rr, 0, none⟩ (.int .i64 c.k)).setCell ⟨rr, 1, none⟩ v0).setCell ⟨rr, 2, none⟩ v1).setCell ⟨rr, 3, none⟩ (.int .i64 c.uid)).setCell ⟨rr, 4, none⟩ (.int .i64 c.mode)).setCell ⟨rr, 5, none⟩ (.int .i64 c.fl)).setCell ⟨rr, 6, none⟩ (.int .i64 c.si)).setCell ⟨rr, 7, none⟩ v2) v0 c.bx ∧ Bs ((((((((W.setCell ⟨rr, 0, none⟩ (.int .i64 c.k)).setCell ⟨rr, 1, none⟩ v0).setCell ⟨rr, 2, none⟩ v1).setCell ⟨rr, 3, none⟩ (.int .i64 c.uid)).setCell ⟨rr, 4, none⟩ (.int .i64 c.mode)).setCell ⟨rr, 5, none⟩ (.int .i64 c.fl)).setCell ⟨rr, 6, none⟩ (.int .i64 c.si)).setCell ⟨rr, 7, none⟩ v2) v1 c.tt ∧ Bs ((((((((W.setCell ⟨rr, 0, none⟩ (.int .i64 c.k)).setCell ⟨rr, 1, none⟩ v0).setCell ⟨rr, 2, none⟩ v1).setCell ⟨rr, 3, none⟩ (.int .i64 c.uid)).setCell ⟨rr, 4, none⟩ (.int .i64 c.mode)).setCell ⟨rr, 5, none⟩ (.int .i64 c.fl)).setCell ⟨rr, 6, none⟩ (.int .i64 c.si)).setCell ⟨rr, 7, none⟩ v2) v2 c.tx ∧ Cur w0 ((((((((W.setCell ⟨rr, 0, none⟩ (.int .i64 c.k)).setCell ⟨rr, 1, none⟩ v0).setCell ⟨rr, 2, none⟩ v1).setCell ⟨rr, 3, none⟩ (.int .i64 c.uid)).setCell ⟨rr, 4, none⟩ (.int .i64 c.mode)).setCell ⟨rr, 5, none⟩ (.int .i64 c.fl)).setCell ⟨rr, 6, none⟩ (.int .i64 c.si)).setCell ⟨rr, 7, none⟩ v2) g cv L ∧ wI.grownBy ((((((((W.setCell ⟨rr, 0, none⟩ (.int .i64 c.k)).setCell ⟨rr, 1, none⟩ v0).setCell ⟨rr, 2, none⟩ v1).setCell ⟨rr, 3, none⟩ (.int .i64 c.uid)).setCell ⟨rr, 4, none⟩ (.int .i64 c.mode)).setCell ⟨rr, 5, none⟩ (.int .i64 c.fl)).setCell ⟨rr, 6, none⟩ (.int .i64 c.si)).setCell ⟨rr, 7, none⟩ v2) (some g) ∧ CmdW0 wI ((((((((W.setCell ⟨rr, 0, none⟩ (.int .i64 c.k)).setCell ⟨rr, 1, none⟩ v0).setCell ⟨rr, 2, none⟩ v1).setCell ⟨rr, 3, none⟩ (.int .i64 c.uid)).setCell ⟨rr, 4, none⟩ (.int .i64 c.mode)).setCell ⟨rr, 5, none⟩ (.int .i64 c.fl)).setCell ⟨rr, 6, none⟩ (.int .i64 c.si)).setCell ⟨rr, 7, none⟩ v2) v0 v1 v2 c.bx c.tt c.tx) := by
  obtain ⟨u0, u1, u2, hc, ⟨⟨a0, n0, c0, rfl⟩, b0, -, -, r0, s0, o0⟩, ⟨⟨a1, n1, c1, rfl⟩, b1, -, -, r1, s1, o1⟩, T2⟩ := h.cmd
  obtain ⟨a2, n2, c2, rfl⟩ := T2.form
  refine ⟨a0, n0, c0, a1, n1, c1, a2, n2, c2, hc, ?_⟩
  intro v0 v1 v2 e0 e1 e2
  have G := gbs 7 v2 (gbs 6 (.int .i64 c.si) (gbs 5 (.int .i64 c.fl) (gbs 4 (.int .i64 c.mode) (gbs 3 (.int .i64 c.uid) (gbs 2 v1 (gbs 1 v0 (gbs 0 (.int .i64 c.k) (World.grownBy.refl W (some rr)))))))))
  have p1 := P.gI
  have p3 := P.rI
  have hB := below_set8 (d0 := .int .i64 c.k) (d1 := v0) (d2 := v1) (d3 := .int .i64 c.uid) (d4 := .int .i64 c.mode) (d5 := .int .i64 c.fl) (d6 := .int .i64 c.si) (d7 := v2) (Below.refl rr W) (Nat.le_refl rr)
  have hsz := hB.size
  have T3 := T2.gb G (.inr (.inr rfl))
  subst e0 e1 e2
  refine ⟨heap_set8 h.res, b0.grown G r0, b1.grown G r1, T3.bs, cur_to h.cur hB (by omega), gb_to h.gr hB p3, b0.grown G r0, b1.grown G r1, fun b hb => ?_, fun b hb => ?_, ?_, o0.gb G r0, o1.gb G r1⟩
  · have := s0 b hb; omega
  · have := s1 b hb; omega
  · rcases T3 with e | ⟨q, t, t0, t1, t2, t3, t4⟩
    · exact .inl e
    · exact .inr ⟨q, t, t0, t1, by omega⟩
end
set_option maxRecDepth 100000 in
set_option maxHeartbeats 8000000 in
theorem l3cmd_any (w0 w : World) (g : Nat) (cv : Value) (L : List Int) (hc : Cur w0 w g cv L) :
    Calls Tryd.prog 39 #[.pointer (some ⟨g, 0, none⟩)] w fun e w' => ∃ u, e = .returned u ∧ ∃ c : CmdD, CmdV w' u c.k c.bx c.tt c.uid c.mode c.fl c.si c.tx ∧ cmdB c.k c.bx c.tt c.uid c.mode c.fl c.si c.tx = true ∧ Cur w0 w' g cv L ∧ w.grownBy w' (some g) ∧ CmdW w w' u c := by
  have AB : Below w.heap.size w (w.alloc (.cells #[.int .i64 0, .slice none 0 0, .slice none 0 0, .int .i64 0, .int .i64 0, .int .i64 0, .int .i64 0, .slice none 0 0] 77)) := (Below.refl _ _).alloc (Nat.le_refl _) _
  have K0 := box_new w (.cells #[.int .i64 0, .slice none 0 0, .slice none 0 0, .int .i64 0, .int .i64 0, .int .i64 0, .int .i64 0, .slice none 0 0] 77)
  have hgl := hc.lt.2
  have hg0 := hc.lt.1
  have hc0 := hc.below AB
  have hI := intsB_made (w.alloc (.cells #[.int .i64 0, .slice none 0 0, .slice none 0 0, .int .i64 0, .int .i64 0, .int .i64 0, .int .i64 0, .slice none 0 0] 77)) g [0, 0, 1, 2, 2, 2, 2, 3, 3, 4, 5, 6, 6, 7, 8, 9] 3 0 9 (by simp; omega) (by simp) (by simp) (by intro x hx; simp at hx; omega)
  have bA : Below (w.alloc (.cells #[.int .i64 0, .slice none 0 0, .slice none 0 0, .int .i64 0, .int .i64 0, .int .i64 0, .int .i64 0, .slice none 0 0] 77)).heap.size (w.alloc (.cells #[.int .i64 0, .slice none 0 0, .slice none 0 0, .int .i64 0, .int .i64 0, .int .i64 0, .int .i64 0, .slice none 0 0] 77)) ((w.alloc (.cells #[.int .i64 0, .slice none 0 0, .slice none 0 0, .int .i64 0, .int .i64 0, .int .i64 0, .int .i64 0, .slice none 0 0] 77)).alloc (.cells #[.int .i64 0, .int .i64 0, .int .i64 1, .int .i64 2, .int .i64 2, .int .i64 2, .int .i64 2, .int .i64 3, .int .i64 3, .int .i64 4, .int .i64 5, .int .i64 6, .int .i64 6, .int .i64 7, .int .i64 8, .int .i64 9] 3)) := (Below.refl _ _).alloc (Nat.le_refl _) _
  have HI : Hid (IntsB ((w.alloc (.cells #[.int .i64 0, .slice none 0 0, .slice none 0 0, .int .i64 0, .int .i64 0, .int .i64 0, .int .i64 0, .slice none 0 0] 77)).alloc (.cells #[.int .i64 0, .int .i64 0, .int .i64 1, .int .i64 2, .int .i64 2, .int .i64 2, .int .i64 2, .int .i64 3, .int .i64 3, .int .i64 4, .int .i64 5, .int .i64 6, .int .i64 6, .int .i64 7, .int .i64 8, .int .i64 9] 3)) (.slice (some ⟨w.heap.size + 1, 0, none⟩) 16 16) g 16 0 9) := by simpa [Hid] using hI
  have HCA := hidm (hc0.below bA)
  have HK := hidm (box_below bA K0)
  have HG := hidm (gb_below' (gb_below' (World.grownBy.refl w (some g)) AB) bA)
  clear hI hc hc0 AB K0 bA
  go_enter Tryd.func39, Tryd.ntmps39
  go_wp2_with fail
  refine (l1PickInt_b w0 _ g 16 cv _ L 0 9 HCA.out HI.out).mono ?_
  rintro e w1 ⟨x, rfl, hx0, hx1, C1, G1⟩
  have K1 := hidm ((G1.block w.heap.size (lt_of_heap HK.out) (by simp; omega)).trans HK.out)
  have HG1 := hidm (gb_trans' HG.out G1)
  have HC1 := hidm C1
  clear HI HCA HK HG C1 G1
  go_wp2_with fail
  refine (l3drawName_any w0 _ g cv L HC1.out).mono ?_
  rintro e w2 ⟨u, gq, bx, rfl, O, hge, hnb, C2, G2⟩
  obtain ⟨cp, rfl⟩ := O.form
  have hl1 := lt_of_heap K1.out
  have K2 := (G2.block w.heap.size hl1 (by simp; omega)).trans K1.out
  have hl2 := lt_of_heap K2
  have hgl2 := C2.lt.2
  have PP : Hid (XPl w0 w g w2.heap.size w.heap.size) := ⟨hgl, hg0, by omega, Nat.le_refl _, by omega⟩
  have HX : Hid (XSt w0 w (w2.alloc (.cells #[.int .i64 x, .slice (some ⟨gq, 0, none⟩) bx.length cp, .slice none 0 0, .int .i64 0, .int .i64 0, .int .i64 0, .int .i64 0, .slice none 0 0] 77)) g w2.heap.size w.heap.size cv L ⟨x, bx, [], 0, 0, 0, 0, []⟩) := by
    have bA : Below w2.heap.size w2 (w2.alloc (.cells #[.int .i64 x, .slice (some ⟨gq, 0, none⟩) bx.length cp, .slice none 0 0, .int .i64 0, .int .i64 0, .int .i64 0, .int .i64 0, .slice none 0 0] 77)) := (Below.refl _ _).alloc (Nat.le_refl _) _
    have hlq := O.lt
    refine ⟨C2.below bA, gb_below' (gb_trans' HG1.out G2) bA, box_below bA K2, _, _, _, box_new w2 _, ⟨⟨_, _, _, rfl⟩, (O.below bA).bs, ?_, ?_, ?_, ?_, .inr ⟨gq, O.below bA⟩⟩, QB.nil _ _ _ _, .inl ⟨rfl, rfl⟩⟩
    · simp only [Value.ownBlock, ne_eq, Option.some.injEq]; omega
    · simp only [Value.ownBlock, ne_eq, Option.some.injEq]; omega
    · simp only [Value.ownBlock, ne_eq, Option.some.injEq]; omega
    · intro b hb; simp only [Value.ownBlock, Option.some.injEq] at hb; subst hb; have := bA.size; omega
  clear K1 HG1 HC1 O hge C2 G2 K2
  go_wp2_with fail
  refine (l1Once_any w0 _ g cv L 3 HX.out.cur (by omega) (by omega)).mono ?_
  rintro e w3 ⟨y, rfl, C3, G3⟩
  have HX3 := hidm (HX.out.draw PP.out C3 G3)
  clear HX C3 G3
  have HX := HX3
  clear HX3
  go_upto_if 16 with fail
  go_cut [] (fun wx => ∃ bx : List Int, nameB bx = true ∧ Hid (XSt w0 w wx g w2.heap.size w.heap.size cv L ⟨x, bx, [], 0, 0, 0, 0, []⟩))
  case first =>
    cases y
    · go_wp2
      go_meet
      case rel => exact ⟨bx, hnb, HX⟩
    · obtain ⟨y1, y2, y7, f0, f1, f2, f3, f4, f5, f6, f7, fz, flt⟩ := HX.out.cells
      dsimp only at f0 f3 f4 f5 f6
      obtain ⟨w4, hcs, qx, b4⟩ : ∃ w', Sem.run Tryd.prog (convert 22 22 (.slice (some ⟨w3.heap.size, 0, none⟩) 5 5)) (w3.alloc (.cells #[.int .u8 105, .int .u8 110, .int .u8 98, .int .u8 111, .int .u8 120] 5)) = .ok (.slice (some ⟨w3.heap.size, 0, none⟩) 5 5) w' ∧ OwnQ w' w3.heap.size (.slice (some ⟨w3.heap.size, 0, none⟩) 5 5) [105, 110, 98, 111, 120] ∧ Below w3.heap.size w3 w' := lit_conv w3 [105, 110, 98, 111, 120] (by intro x hx; simp at hx; omega) (by decide)
      have HY : Hid (XSt w0 w (w4.setCell ⟨w2.heap.size, 1, none⟩ (.slice (some ⟨w3.heap.size, 0, none⟩) 5 5)) g w2.heap.size w.heap.size cv L ⟨x, [105, 110, 98, 111, 120], [], 0, 0, 0, 0, []⟩) := hidm (HX.out.setN PP.out (HX.out.cur.below b4) (gb_below' (World.grownBy.refl _ _) b4) qx (Nat.le_refl _) (.inl ⟨rfl, rfl⟩))
      have HZ := hidm (HX.out.below PP.out b4)
      clear qx b4 HX
      have HX := HZ
      clear HZ
      clear f0 f1 f2 f3 f4 f5 f6 f7 fz flt
      obtain ⟨y1, y2, y7, f0, f1, f2, f3, f4, f5, f6, f7, fz, flt⟩ := HX.out.cells
      dsimp only at f0 f3 f4 f5 f6
      go_wp2
      go_meet
      case rel => exact ⟨_, by decide, HY⟩
  case rest =>
    obtain ⟨bx, hnb, HX⟩ := hcut
    obtain ⟨y1, y2, y7, f0, f1, f2, f3, f4, f5, f6, f7, fz, flt⟩ := HX.out.cells
    dsimp only at f0 f3 f4 f5 f6
    go_wp2_with fail
    refine (l3parts_any x _).mono ?_
    rintro e w3 ⟨rfl, rfl⟩
    clear f0 f1 f2 f3 f4 f5 f6 f7 fz flt
    obtain ⟨y1, y2, y7, f0, f1, f2, f3, f4, f5, f6, f7, fz, flt⟩ := HX.out.cells
    dsimp only at f0 f3 f4 f5 f6
    go_upto_if 31 with fail
    go_cut [] (fun wx => ∃ bx : List Int, (x = 9 → bx = []) ∧ (x ≠ 9 → nameB bx = true) ∧ Hid (XSt w0 w wx g w2.heap.size w.heap.size cv L ⟨x, bx, [], 0, 0, 0, 0, []⟩))
    case first =>
      by_cases h9 : x = 9
      · have hb : (x == 9) = true := by simp [h9]
        have HY : Hid (XSt w0 w (w3.setCell ⟨w2.heap.size, 1, none⟩ (.slice none 0 0)) g w2.heap.size w.heap.size cv L ⟨x, [], [], 0, 0, 0, 0, []⟩) := hidm (HX.out.setZ PP.out rfl)
        go_wp2
        go_meet
        case rel => exact ⟨[], fun _ => rfl, fun h => absurd h9 h, HY⟩
      · have hb : (x == 9) = false := by simp [h9]
        go_wp2
        go_meet
        case rel => exact ⟨bx, fun h => absurd h h9, fun _ => hnb, HX⟩
    case rest =>
      obtain ⟨bx, hb9, hbn, HX⟩ := hcut
      go_upto_if 33 with fail
      go_cut [4] (fun _ wx => ∃ tt : List Int, (x = 6 → nameB tt = true) ∧ (x ≠ 6 → tt = []) ∧ Hid (XSt w0 w wx g w2.heap.size w.heap.size cv L ⟨x, bx, tt, 0, 0, 0, 0, []⟩))
      case first =>
        cases hq : toB x
        · go_wp2
          go_meet
          case rel => exact ⟨[], fun h => absurd hq (by simp [toB, h]), fun _ => rfl, HX⟩
        · obtain ⟨y1, y2, y7, f0, f1, f2, f3, f4, f5, f6, f7, fz, flt⟩ := HX.out.cells
          dsimp only at f0 f3 f4 f5 f6
          go_wp2_with fail
          refine (l3drawName_any w0 _ g cv L HX.out.cur).mono ?_
          rintro e w5 ⟨u, gq, m, rfl, O, hge, mb, C, G⟩
          obtain ⟨cp, rfl⟩ := O.form
          have HY : Hid (XSt w0 w (w5.setCell ⟨w2.heap.size, 2, none⟩ (.slice (some ⟨gq, 0, none⟩) m.length cp)) g w2.heap.size w.heap.size cv L ⟨x, bx, m, 0, 0, 0, 0, []⟩) := hidm (HX.out.setN PP.out C G O hge (.inr (.inl ⟨rfl, rfl⟩)))
          have HZ := hidm (HX.out.draw PP.out C G)
          clear O hge C G HX
          have HX := HZ
          clear HZ
          clear f0 f1 f2 f3 f4 f5 f6 f7 fz flt
          obtain ⟨y1, y2, y7, f0, f1, f2, f3, f4, f5, f6, f7, fz, flt⟩ := HX.out.cells
          dsimp only at f0 f3 f4 f5 f6
          go_wp2
          go_meet
          case rel => exact ⟨m, fun _ => mb, fun h => absurd (by simpa [toB] using hq) h, HY⟩
      case rest =>
        obtain ⟨tt, ht6, htn, HX⟩ := hcut
        go_upto_if 37 with fail
        go_cut [5] (fun _ wx => ∃ uid : Int, (x = 3 ∨ x = 5 ∨ x = 6 → 1 ≤ uid ∧ uid ≤ 5) ∧ (¬ (x = 3 ∨ x = 5 ∨ x = 6) → uid = 0) ∧ Hid (XSt w0 w wx g w2.heap.size w.heap.size cv L ⟨x, bx, tt, uid, 0, 0, 0, []⟩))
        case first =>
          cases hq : uidB x
          · go_wp2
            go_meet
            case rel => exact ⟨0, fun h => absurd hq (by simp [uidB]; omega), fun _ => rfl, HX⟩
          · obtain ⟨y1, y2, y7, f0, f1, f2, f3, f4, f5, f6, f7, fz, flt⟩ := HX.out.cells
            dsimp only at f0 f3 f4 f5 f6
            go_wp2_with fail
            refine (l1Below_any w0 _ g cv L 5 HX.out.cur (by omega) (by omega)).mono ?_
            rintro e w5 ⟨a, rfl, ap, aq, C, G⟩
            have HY := hidm (HX.out.draw PP.out C G)
            clear C G
            clear f0 f1 f2 f3 f4 f5 f6 f7 fz flt
            clear HX
            have HX := HY
            clear HY
            obtain ⟨y1, y2, y7, f0, f1, f2, f3, f4, f5, f6, f7, fz, flt⟩ := HX.out.cells
            dsimp only at f0 f3 f4 f5 f6
            have HY : Hid (XSt w0 w (w5.setCell ⟨w2.heap.size, 3, none⟩ (.int .i64 (1 + a))) g w2.heap.size w.heap.size cv L ⟨x, bx, tt, (1 + a), 0, 0, 0, []⟩) := hidm (HX.out.setI (n := (1 + a)) PP.out (.inr (.inl ⟨rfl, rfl⟩)))
            go_wp2
            go_meet
            case rel => exact ⟨_, fun _ => ⟨by omega, by omega⟩, fun h => absurd (by simpa [uidB] using hq) h, HY⟩
        case rest =>
          obtain ⟨uid, hu1, hu0, HX⟩ := hcut
          go_upto_if 42 with fail
          go_cut [6] (fun _ wx => ∃ mode fl : Int, (x = 2 ∨ x = 3 ∨ x = 6 → 0 ≤ mode ∧ mode ≤ 2 ∧ 0 ≤ fl ∧ fl ≤ 31) ∧ (¬ (x = 2 ∨ x = 3 ∨ x = 6) → mode = 0 ∧ fl = 0) ∧ Hid (XSt w0 w wx g w2.heap.size w.heap.size cv L ⟨x, bx, tt, uid, mode, fl, 0, []⟩))
          case first =>
            cases hq : modeB x
            · go_wp2
              go_meet
              case rel => exact ⟨0, 0, fun h => absurd hq (by simp [modeB]; omega), fun _ => ⟨rfl, rfl⟩, HX⟩
            · obtain ⟨y1, y2, y7, f0, f1, f2, f3, f4, f5, f6, f7, fz, flt⟩ := HX.out.cells
              dsimp only at f0 f3 f4 f5 f6
              go_wp2_with fail
              refine (l1Below_any w0 _ g cv L 3 HX.out.cur (by omega) (by omega)).mono ?_
              rintro e w5 ⟨a, rfl, ap, aq, C, G⟩
              have HY := hidm (HX.out.draw PP.out C G)
              clear C G
              clear f0 f1 f2 f3 f4 f5 f6 f7 fz flt
              clear HX
              have HX := HY
              clear HY
              obtain ⟨y1, y2, y7, f0, f1, f2, f3, f4, f5, f6, f7, fz, flt⟩ := HX.out.cells
              dsimp only at f0 f3 f4 f5 f6
              have HY : Hid (XSt w0 w (w5.setCell ⟨w2.heap.size, 4, none⟩ (.int .i64 a)) g w2.heap.size w.heap.size cv L ⟨x, bx, tt, uid, a, 0, 0, []⟩) := hidm (HX.out.setI (n := a) PP.out (.inr (.inr (.inl ⟨rfl, rfl⟩))))
              clear HX
              have HX := HY
              clear HY
              have hgl2 := HX.out.cur.lt.2
              have hI := intsB_made (w5.setCell ⟨w2.heap.size, 4, none⟩ (.int .i64 a)) g [0, 1, 8, 8, 9, 31, 16] 3 0 31 hgl2 (by simp) (by simp) (by intro x hx; simp at hx; omega)
              have bA : Below _ (w5.setCell ⟨w2.heap.size, 4, none⟩ (.int .i64 a)) ((w5.setCell ⟨w2.heap.size, 4, none⟩ (.int .i64 a)).alloc (.cells #[.int .i64 0, .int .i64 1, .int .i64 8, .int .i64 8, .int .i64 9, .int .i64 31, .int .i64 16] 3)) := (Below.refl _ _).alloc (Nat.le_refl _) _
              have HI : Hid (IntsB ((w5.setCell ⟨w2.heap.size, 4, none⟩ (.int .i64 a)).alloc (.cells #[.int .i64 0, .int .i64 1, .int .i64 8, .int .i64 8, .int .i64 9, .int .i64 31, .int .i64 16] 3)) (.slice (some ⟨w5.heap.size, 0, none⟩) 7 7) g 7 0 31) := by simpa [Hid] using hI
              have HZ := hidm (HX.out.below PP.out bA)
              clear hI hgl2 bA
              go_wp2_with fail
              refine (l1PickInt_b w0 _ g 7 cv _ L 0 31 HZ.out.cur HI.out).mono ?_
              rintro e w6 ⟨c, rfl, cp, cq, C, G⟩
              have HY := hidm (HZ.out.draw PP.out C G)
              clear HI HZ C G
              clear f0 f1 f2 f3 f4 f5 f6 f7 fz flt
              clear HX
              have HX := HY
              clear HY
              obtain ⟨y1, y2, y7, f0, f1, f2, f3, f4, f5, f6, f7, fz, flt⟩ := HX.out.cells
              dsimp only at f0 f3 f4 f5 f6
              have HY : Hid (XSt w0 w (w6.setCell ⟨w2.heap.size, 5, none⟩ (.int .i64 c)) g w2.heap.size w.heap.size cv L ⟨x, bx, tt, uid, a, c, 0, []⟩) := hidm (HX.out.setI (n := c) PP.out (.inr (.inr (.inr (.inl ⟨rfl, rfl⟩)))))
              go_wp2
              go_meet
              case rel => exact ⟨_, _, fun _ => ⟨by omega, by omega, by omega, by omega⟩, fun h => absurd (by simpa [modeB] using hq) h, HY⟩
          case rest =>
            obtain ⟨mode, fl, hm1, hm0, HX⟩ := hcut
            obtain ⟨y1, y2, y7, f0, f1, f2, f3, f4, f5, f6, f7, fz, flt⟩ := HX.out.cells
            dsimp only at f0 f3 f4 f5 f6
            go_upto_block 0 with fail
            go_cut [] (fun wx => ∃ mode' fl' : Int, (x = 2 → mode' = 0 ∧ fl' = fl) ∧ (x = 6 → 0 ≤ mode' ∧ mode' ≤ 1 ∧ fl' = 0) ∧ (¬ (x = 2 ∨ x = 6) → mode' = mode ∧ fl' = fl) ∧ Hid (XSt w0 w wx g w2.heap.size w.heap.size cv L ⟨x, bx, tt, uid, mode', fl', 0, []⟩))
            case first =>
              by_cases h2 : x = 2
              · have hb : (x == 2) = true := by simp [h2]
                have HY : Hid (XSt w0 w (wc.setCell ⟨w2.heap.size, 4, none⟩ (.int .i64 0)) g w2.heap.size w.heap.size cv L ⟨x, bx, tt, uid, 0, fl, 0, []⟩) := hidm (HX.out.setI (n := 0) PP.out (.inr (.inr (.inl ⟨rfl, rfl⟩))))
                go_wp2
                go_meet
                case rel => exact ⟨0, fl, fun _ => ⟨rfl, rfl⟩, fun h => absurd h (by omega), fun h => absurd (Or.inl h2) h, HY⟩
              by_cases h6 : x = 6
              · have hb : (x == 2) = false := by simp [h2]
                have hb6 : (x == 6) = true := by simp [h6]
                have H6 := hidm h6
                clear h6
                go_wp2_with fail
                refine (l1Below_any w0 _ g cv L 2 HX.out.cur (by omega) (by omega)).mono ?_
                rintro e w5 ⟨a, rfl, ap, aq, C, G⟩
                have HY := hidm (HX.out.draw PP.out C G)
                clear C G
                clear f0 f1 f2 f3 f4 f5 f6 f7 fz flt
                clear HX
                have HX := HY
                clear HY
                obtain ⟨y1, y2, y7, f0, f1, f2, f3, f4, f5, f6, f7, fz, flt⟩ := HX.out.cells
                dsimp only at f0 f3 f4 f5 f6
                have HY : Hid (XSt w0 w (w5.setCell ⟨w2.heap.size, 4, none⟩ (.int .i64 a)) g w2.heap.size w.heap.size cv L ⟨x, bx, tt, uid, a, fl, 0, []⟩) := hidm (HX.out.setI (n := a) PP.out (.inr (.inr (.inl ⟨rfl, rfl⟩))))
                clear HX
                have HX := HY
                clear HY
                have HY : Hid (XSt w0 w ((w5.setCell ⟨w2.heap.size, 4, none⟩ (.int .i64 a)).setCell ⟨w2.heap.size, 5, none⟩ (.int .i64 0)) g w2.heap.size w.heap.size cv L ⟨x, bx, tt, uid, a, 0, 0, []⟩) := hidm (HX.out.setI (n := 0) PP.out (.inr (.inr (.inr (.inl ⟨rfl, rfl⟩)))))
                go_wp2
                go_meet
                case rel => exact ⟨a, 0, fun h => absurd h h2, fun _ => ⟨by omega, by omega, rfl⟩, fun h => absurd (Or.inr H6.out) h, HY⟩
              have hb : (x == 2) = false := by simp [h2]
              have hb6 : (x == 6) = false := by simp [h6]
              go_wp2
              go_meet
              case rel => exact ⟨mode, fl, fun h => absurd h h2, fun h => absurd h h6, fun _ => ⟨rfl, rfl⟩, HX⟩
            case rest =>
              obtain ⟨mode1, fl1, hf2, hf6, hf0, HX⟩ := hcut
              go_upto_if 61 with fail
              go_cut [7] (fun _ wx => ∃ si : Int, (x = 3 ∨ x = 8 → 0 ≤ si ∧ si ≤ 7) ∧ (¬ (x = 3 ∨ x = 8) → si = 0) ∧ Hid (XSt w0 w wx g w2.heap.size w.heap.size cv L ⟨x, bx, tt, uid, mode1, fl1, si, []⟩))
              case first =>
                cases hq : sinceB x
                · go_wp2
                  go_meet
                  case rel => exact ⟨0, fun h => absurd hq (by simp [sinceB]; omega), fun _ => rfl, HX⟩
                · obtain ⟨y1, y2, y7, f0, f1, f2, f3, f4, f5, f6, f7, fz, flt⟩ := HX.out.cells
                  dsimp only at f0 f3 f4 f5 f6
                  go_wp2_with fail
                  refine (l1Below_any w0 _ g cv L 8 HX.out.cur (by omega) (by omega)).mono ?_
                  rintro e w5 ⟨a, rfl, ap, aq, C, G⟩
                  have HY := hidm (HX.out.draw PP.out C G)
                  clear C G
                  clear f0 f1 f2 f3 f4 f5 f6 f7 fz flt
                  clear HX
                  have HX := HY
                  clear HY
                  obtain ⟨y1, y2, y7, f0, f1, f2, f3, f4, f5, f6, f7, fz, flt⟩ := HX.out.cells
                  dsimp only at f0 f3 f4 f5 f6
                  go_wp2_with fail
                  refine (l1Below_any w0 _ g cv L 2 HX.out.cur (by omega) (by omega)).mono ?_
                  rintro e w6 ⟨c, rfl, cp, cq, C, G⟩
                  have HY := hidm (HX.out.draw PP.out C G)
                  clear C G
                  clear f0 f1 f2 f3 f4 f5 f6 f7 fz flt
                  clear HX
                  have HX := HY
                  clear HY
                  obtain ⟨y1, y2, y7, f0, f1, f2, f3, f4, f5, f6, f7, fz, flt⟩ := HX.out.cells
                  dsimp only at f0 f3 f4 f5 f6
                  have hmul : 0 ≤ a * c ∧ a * c ≤ 7 := by
                    obtain rfl | rfl : c = 0 ∨ c = 1 := by omega
                    · omega
                    · omega
                  have HY : Hid (XSt w0 w (w6.setCell ⟨w2.heap.size, 6, none⟩ (.int .i64 (a * c))) g w2.heap.size w.heap.size cv L ⟨x, bx, tt, uid, mode1, fl1, (a * c), []⟩) := hidm (HX.out.setI (n := (a * c)) PP.out (.inr (.inr (.inr (.inr ⟨rfl, rfl⟩)))))
                  go_wp2
                  go_meet
                  case rel => exact ⟨_, fun _ => hmul, fun h => absurd (by simpa [sinceB] using hq) h, HY⟩
              case rest =>
                obtain ⟨si, hs1, hs0, HX⟩ := hcut
                go_upto_if 68 with fail
                go_cut [8] (fun _ wx => ∃ tx : List Int, (x = 2 → textB tx = true) ∧ (x ≠ 2 → tx = []) ∧ Hid (XSt w0 w wx g w2.heap.size w.heap.size cv L ⟨x, bx, tt, uid, mode1, fl1, si, tx⟩))
                case first =>
                  cases hq : textsB x
                  · go_wp2
                    go_meet
                    case rel => exact ⟨[], fun h => absurd hq (by simp [textsB, h]), fun _ => rfl, HX⟩
                  · obtain ⟨y1, y2, y7, f0, f1, f2, f3, f4, f5, f6, f7, fz, flt⟩ := HX.out.cells
                    dsimp only at f0 f3 f4 f5 f6
                    go_wp2_with fail
                    refine (l3drawText_any w0 _ g cv L HX.out.cur).mono ?_
                    rintro e w5 ⟨u, gq, m, rfl, O, hge, mb, C, G⟩
                    obtain ⟨cp, rfl⟩ := O.form
                    have HY : Hid (XSt w0 w (w5.setCell ⟨w2.heap.size, 7, none⟩ (.slice (some ⟨gq, 0, none⟩) m.length cp)) g w2.heap.size w.heap.size cv L ⟨x, bx, tt, uid, mode1, fl1, si, m⟩) := hidm (HX.out.setN PP.out C G O hge (.inr (.inr ⟨rfl, rfl⟩)))
                    have HZ := hidm (HX.out.draw PP.out C G)
                    clear O hge C G HX
                    have HX := HZ
                    clear HZ
                    clear f0 f1 f2 f3 f4 f5 f6 f7 fz flt
                    obtain ⟨y1, y2, y7, f0, f1, f2, f3, f4, f5, f6, f7, fz, flt⟩ := HX.out.cells
                    dsimp only at f0 f3 f4 f5 f6
                    go_wp2
                    go_meet
                    case rel => exact ⟨m, fun _ => mb, fun h => absurd (by simpa [textsB] using hq) h, HY⟩
                case rest =>
                  obtain ⟨tx, hx2, hxn, HX⟩ := hcut
                  obtain ⟨q0, n0, c0, q1, n1, c1, q2, n2, c2, hk, hF⟩ := HX.out.fin PP.out
                  dsimp only at hk
                  obtain ⟨d0, d1, d2, d3, d4, d5, d6, d7, -⟩ := box8l hk
                  obtain ⟨dz, dl⟩ := box8z hk
                  obtain ⟨r0, r1, r2, r3, r4, r5, r6, r7, -⟩ := box8l HX.out.res
                  obtain ⟨rz, rl⟩ := box8z HX.out.res
                  go_wp2
                  obtain ⟨hK, F0, F1, F2, FC, FG, FW⟩ := hF.out _ _ _ rfl rfl rfl
                  obtain ⟨f0, f1, f2, f3, f4, f5, f6, f7, -⟩ := box8l hK
                  have hr : (0 ≤ uid ∧ uid ≤ 5) ∧ (0 ≤ mode1 ∧ mode1 ≤ 2) ∧ (0 ≤ fl1 ∧ fl1 ≤ 31) ∧ (0 ≤ si ∧ si ≤ 7) := by
                    obtain rfl | rfl | rfl | rfl | rfl | rfl | rfl | rfl | rfl | rfl : x = 0 ∨ x = 1 ∨ x = 2 ∨ x = 3 ∨ x = 4 ∨ x = 5 ∨ x = 6 ∨ x = 7 ∨ x = 8 ∨ x = 9 := by omega
                    all_goals (simp at hu1 hu0 hm1 hm0 hf2 hf6 hf0 hs1 hs0; omega)
                  refine bodyPost_ret (v := .agg #[.int .i64 x, .slice q0 n0 c0, .slice q1 n1 c1, .int .i64 uid, .int .i64 mode1, .int .i64 fl1, .int .i64 si, .slice q2 n2 c2]) (by simp [results, Tryd.results39, go_sem, f0, f1, f2, f3, f4, f5, f6, f7]) rfl ?_
                  refine ⟨_, rfl, ⟨x, bx, tt, uid, mode1, fl1, si, tx⟩, ⟨_, _, _, rfl, F0, F1, F2, by unfold I64; dsimp only; omega, by unfold I64; dsimp only; omega, by unfold I64; dsimp only; omega, by unfold I64; dsimp only; omega, by unfold I64; dsimp only; omega⟩, ?_, FC, FG, _, _, _, _, _, _, _, rfl, FW⟩
                  obtain rfl | rfl | rfl | rfl | rfl | rfl | rfl | rfl | rfl | rfl : x = 0 ∨ x = 1 ∨ x = 2 ∨ x = 3 ∨ x = 4 ∨ x = 5 ∨ x = 6 ∨ x = 7 ∨ x = 8 ∨ x = 9 := by omega
                  all_goals (simp at hu1 hu0 hm1 hm0 hf2 hf6 hf0 hs1 hs0 hb9 hbn ht6 htn hx2 hxn; simp [cmdB, inB, *]; try omega)

end Go.Proofs.YtmonloebkdpahaaDoor

/- Data with depth in memory: lists of structs, what they read as, and lists of the call's own, whose blocks lie in a set. -/
namespace Go.Proofs.YtmonloebkdpahaaDoor
open Go.RowKit

/-- The blocks from B on and below T. -/
def In (B T : Nat) : Nat → Prop := fun b => B ≤ b ∧ b < T

/-- The slice value v reads as the list l, each element of sz cells that E says. -/
def Rd {α : Type} (sz : Nat) (E : World → List Value → α → Prop) (w : World) (v : Value) (l : List α) : Prop :=
  ∃ (a : Option Addr) (cap : Nat) (cs : Nat → List Value), v = .slice a l.length cap ∧ l.length ≤ cap ∧ cap ≤ maxLen ∧ (a = none → cap = 0) ∧
    (∀ i x, l[i]? = some x → E w (cs i) x ∧ (cs i).length = sz) ∧
    (0 < l.length → ∃ b off, a = some ⟨b, off, none⟩ ∧ b < w.heap.size ∧ ∀ i j u, i < l.length → (cs i)[j]? = some u → w.cell? ⟨b, off + i * sz + j, none⟩ = some u)

/-- What an element says stays while nothing old turns. -/
def Keeps {α : Type} (E : World → List Value → α → Prop) : Prop := ∀ w w' c x, Below w.heap.size w w' → E w c x → E w' c x

section
variable {α : Type} {sz : Nat} {E : World → List Value → α → Prop} {w w' : World} {v : Value} {l : List α}
theorem Rd.below (hE : Keeps E) (h : Rd sz E w v l) (hb : Below w.heap.size w w') : Rd sz E w' v l := by
  obtain ⟨a, cap, cs, hv, h1, h2, h3, h4, h5⟩ := h
  refine ⟨a, cap, cs, hv, h1, h2, h3, fun i x hx => ⟨hE _ _ _ _ hb (h4 i x hx).1, (h4 i x hx).2⟩, fun hp => ?_⟩
  obtain ⟨b, off, ha, hlt, hc⟩ := h5 hp
  exact ⟨b, off, ha, Nat.lt_of_lt_of_le hlt hb.size, fun i j u hi hu => (hb.cell (p := ⟨b, off + i * sz + j, none⟩) hlt).trans (hc i j u hi hu)⟩
theorem Rd.form (h : Rd sz E w v l) : ∃ a cap, v = .slice a l.length cap ∧ l.length ≤ cap ∧ cap ≤ 9223372036854775807 := by
  obtain ⟨a, cap, cs, hv, h1, h2, _⟩ := h
  exact ⟨a, cap, hv, h1, h2⟩
theorem Rd.get (h : Rd sz E w v l) (k : Nat) (x : α) (hx : l[k]? = some x) :
    ∃ b off cap c, v = .slice (some ⟨b, off, none⟩) l.length cap ∧ b < w.heap.size ∧ E w c x ∧ c.length = sz ∧ ∀ j u, c[j]? = some u → w.cell? ⟨b, off + k * sz + j, none⟩ = some u := by
  obtain ⟨a, cap, cs, hv, h1, h2, h3, h4, h5⟩ := h
  have hk : k < l.length := (List.getElem?_eq_some_iff.1 hx).1
  obtain ⟨b, off, rfl, hlt, hc⟩ := h5 (by omega)
  exact ⟨b, off, cap, cs k, hv, hlt, (h4 k x hx).1, (h4 k x hx).2, fun j u hu => hc k j u hk hu⟩
theorem Rd.nil (w : World) : Rd sz E w (.slice none 0 0) ([] : List α) := ⟨none, 0, fun _ => [], rfl, by simp, by simp, fun _ => rfl, by simp, by simp⟩
end

/-- The list l of the call's own: nil, or at the head of a block of S; what its elements lead to lies in S too, apart from that block and from one another. -/
def Ow {α : Type} (t : TypeId) (sz : Nat) (E : World → List Value → α → (Nat → Prop) → Prop) (w : World) (S : Nat → Prop) (v : Value) (l : List α) : Prop :=
  (v = .slice none 0 0 ∧ l = []) ∨
  ∃ (g cap : Nat) (cur : Array Value) (cs : Nat → List Value) (fs : Nat → Nat → Prop), v = .slice (some ⟨g, 0, none⟩) l.length cap ∧ w.heap[g]? = some (.cells cur t (0, 0)) ∧ l.length ≤ cap ∧ cap ≤ maxLen ∧ cur.size = cap * sz ∧ S g ∧
    (∀ i x, l[i]? = some x → E w (cs i) x (fs i) ∧ (cs i).length = sz ∧ ∀ j u, (cs i)[j]? = some u → cur[i * sz + j]? = some u) ∧
    (∀ i b, i < l.length → fs i b → S b ∧ b ≠ g) ∧ (∀ i j b, i < l.length → j < l.length → i ≠ j → fs i b → ¬ fs j b)

/-- What an element of the call's own says stays while its blocks do. -/
def Frames {α : Type} (E : World → List Value → α → (Nat → Prop) → Prop) : Prop := ∀ w w' c x S, E w c x S → (∀ b, S b → b < w.heap.size → w'.heap[b]? = w.heap[b]?) → E w' c x S

section
variable {α : Type} {t : TypeId} {sz : Nat} {E : World → List Value → α → (Nat → Prop) → Prop} {w w' : World} {S S' : Nat → Prop} {v : Value} {l : List α}
theorem Ow.frame (hE : Frames E) (h : Ow t sz E w S v l) (hw : ∀ b, S b → b < w.heap.size → w'.heap[b]? = w.heap[b]?) : Ow t sz E w' S v l := by
  rcases h with h | ⟨g, cap, cur, cs, fs, hv, hh, h1, h2, h3, h4, h5, h6, h7⟩
  · exact .inl h
  · refine .inr ⟨g, cap, cur, cs, fs, hv, (hw g h4 (lt_of_heap hh)).trans hh, h1, h2, h3, h4, fun i x hx => ⟨?_, (h5 i x hx).2⟩, h6, h7⟩
    have hi : i < l.length := (List.getElem?_eq_some_iff.1 hx).1
    exact hE _ _ _ _ _ (h5 i x hx).1 fun b hb hlt => hw b (h6 i b hi hb).1 hlt
theorem Ow.mono (h : Ow t sz E w S v l) (hS : ∀ b, S b → S' b) : Ow t sz E w S' v l := by
  rcases h with h | ⟨g, cap, cur, cs, fs, hv, hh, h1, h2, h3, h4, h5, h6, h7⟩
  · exact .inl h
  · exact .inr ⟨g, cap, cur, cs, fs, hv, hh, h1, h2, h3, hS g h4, h5, fun i b hi hb => ⟨hS b (h6 i b hi hb).1, (h6 i b hi hb).2⟩, h7⟩
theorem Ow.below (hE : Frames E) (h : Ow t sz E w S v l) (hb : Below w.heap.size w w') : Ow t sz E w' S v l := h.frame hE fun b _ hlt => hb.block b hlt
theorem Ow.rd {RE : World → List Value → α → Prop} (hE : ∀ w c x S, E w c x S → RE w c x) (h : Ow t sz E w S v l) : Rd sz RE w v l := by
  rcases h with ⟨rfl, rfl⟩ | ⟨g, cap, cur, cs, fs, hv, hh, h1, h2, h3, h4, h5, h6, h7⟩
  · exact Rd.nil w
  · refine ⟨some ⟨g, 0, none⟩, cap, cs, hv, h1, h2, (fun h => by cases h), fun i x hx => ⟨hE _ _ _ _ (h5 i x hx).1, (h5 i x hx).2.1⟩, fun hp => ⟨g, 0, rfl, lt_of_heap hh, fun i j u hi hu => ?_⟩⟩
    rw [Nat.zero_add, cell_of_row w g _ cur t (0, 0) hh]
    exact (h5 i l[i] (List.getElem?_eq_getElem hi)).2.2 j u hu
end

/-- The cells of c laid into block g from o on. -/
def put (w : World) (g o : Nat) : List Value → World
  | [] => w
  | c :: cs => put (w.setCell ⟨g, o, none⟩ c) g (o + 1) cs

theorem put_spec (g : Nat) (t : TypeId) : ∀ (cs : List Value) (w : World) (o : Nat) (cur : Array Value), w.heap[g]? = some (.cells cur t (0, 0)) → o + cs.length ≤ cur.size →
    ∃ cur', (put w g o cs).heap[g]? = some (.cells cur' t (0, 0)) ∧ cur'.size = cur.size ∧ (∀ j u, cs[j]? = some u → cur'[o + j]? = some u) ∧ (∀ i, i < o ∨ o + cs.length ≤ i → cur'[i]? = cur[i]?) ∧ Within g (g + 1) w (put w g o cs)
  | [], w, o, cur, h, _ => ⟨cur, h, rfl, by simp, fun _ _ => rfl, Within.refl _ _ _⟩
  | c :: cs, w, o, cur, h, hs => by
    simp only [List.length_cons] at hs
    have h1 : (w.setCell ⟨g, o, none⟩ c).heap[g]? = some (.cells (cur.setIfInBounds o c) t (0, 0)) := heap_setCell_same w g o cur t c h
    obtain ⟨cur', e1, e2, e3, e4, e5⟩ := put_spec g t cs (w.setCell ⟨g, o, none⟩ c) (o + 1) _ h1 (by simp; omega)
    refine ⟨cur', e1, by simpa using e2, fun j u hu => ?_, fun i hi => ?_, ?_⟩
    · cases j with
      | zero =>
        simp at hu; subst hu
        rw [Nat.add_zero, e4 o (.inl (by omega)), Array.getElem?_setIfInBounds]
        simp [show o < cur.size by omega]
      | succ j =>
        have := e3 j u (by simpa using hu)
        rwa [show o + (j + 1) = o + 1 + j by omega]
    · simp only [List.length_cons] at hi
      rw [e4 i (by omega)]
      rw [Array.getElem?_setIfInBounds]
      simp [show ¬ o = i by omega]
    · exact (⟨rfl, rfl, rfl, by simp [World.setCell], fun k hk hn => Below.heap_setCell w ⟨g, o, none⟩ c k (show k ≠ g by omega)⟩ : Within g (g + 1) w (w.setCell ⟨g, o, none⟩ c)).trans e5

/-- A list that is being laid: k of its elements lie there. -/
def Part {α : Type} (t : TypeId) (sz : Nat) (E : World → List Value → α → (Nat → Prop) → Prop) (w : World) (g n k : Nat) (l : List α) : Prop :=
  ∃ (cur : Array Value) (cs : Nat → List Value) (fs : Nat → Nat → Prop), w.heap[g]? = some (.cells cur t (0, 0)) ∧ cur.size = n * sz ∧
    (∀ i x, i < k → l[i]? = some x → E w (cs i) x (fs i) ∧ (cs i).length = sz ∧ ∀ j u, (cs i)[j]? = some u → cur[i * sz + j]? = some u) ∧
    (∀ i b, i < k → fs i b → g < b ∧ b < w.heap.size) ∧ (∀ i j b, i < k → j < k → i ≠ j → fs i b → ¬ fs j b)

section
variable {α : Type} {t : TypeId} {sz : Nat} {E : World → List Value → α → (Nat → Prop) → Prop} {w w' : World} {l : List α} {g n k : Nat}
theorem Part.start {cur : Array Value} (h : w.heap[g]? = some (.cells cur t (0, 0))) (hs : cur.size = n * sz) : Part t sz E w g n 0 l := ⟨cur, fun _ => [], fun _ _ => False, h, hs, by simp, by simp, by simp⟩
theorem Part.cell (h : Part t sz E w g n k l) (i : Nat) (hi : i < n * sz) : (∃ u, w.cell? ⟨g, i, none⟩ = some u) ∧ w.frozen? ⟨g, i, none⟩ = false := by
  obtain ⟨cur, cs, fs, hh, hs, _⟩ := h
  refine ⟨⟨cur[i]'(by omega), ?_⟩, frozen_of_row w g i cur t hh⟩
  rw [cell_of_row w g i cur t (0, 0) hh]
  simp
theorem Part.lt (h : Part t sz E w g n k l) : g < w.heap.size := let ⟨_, _, _, hh, _⟩ := h; lt_of_heap hh
theorem Part.step (hE : Frames E) (h : Part t sz E w g n k l) (hb : Below w.heap.size w w') (x : α) (hx : l[k]? = some x) (hk : k < n) (c : List Value) (hc : c.length = sz) (he : E w' c x (In w.heap.size w'.heap.size)) :
    Part t sz E (put w' g (k * sz) c) g n (k + 1) l := by
  obtain ⟨cur, cs, fs, hh, hs, h1, h2, h3⟩ := h
  have hg : g < w.heap.size := lt_of_heap hh
  have hroom : k * sz + sz ≤ n * sz := by
    have := Nat.mul_le_mul_right sz (show k + 1 ≤ n by omega)
    rw [Nat.add_mul, Nat.one_mul] at this
    exact this
  obtain ⟨cur', e1, e2, e3, e4, e5⟩ := put_spec g t c w' (k * sz) cur ((hb.block g hg).trans hh) (by omega)
  have same : ∀ b, b ≠ g → b < w.heap.size → (put w' g (k * sz) c).heap[b]? = w.heap[b]? := fun b hne hlt =>
    (e5.block b (Nat.lt_of_lt_of_le hlt hb.size) (by omega)).trans (hb.block b hlt)
  refine ⟨cur', fun i => if i = k then c else cs i, fun i => if i = k then In w.heap.size w'.heap.size else fs i, e1, by omega, fun i y hi hy => ?_, fun i b hi hb' => ?_, fun i j b hi hj hne hbi hbj => ?_⟩
  · by_cases hik : i = k
    · subst hik
      rw [hx] at hy; cases hy
      simp only [if_true]
      refine ⟨hE _ _ _ _ _ he fun b hb' hlt => e5.block b hlt (by have := hb'.1; omega), hc, fun j u hu => e3 j u hu⟩
    · simp only [if_neg hik]
      have hi' : i < k := by omega
      obtain ⟨q1, q2, q3⟩ := h1 i y hi' hy
      refine ⟨hE _ _ _ _ _ q1 fun b hb' hlt => same b (by have := (h2 i b hi' hb').1; omega) hlt, q2, fun j u hu => ?_⟩
      have hj : j < sz := by have := (List.getElem?_eq_some_iff.1 hu).1; omega
      have hlow : i * sz + j < k * sz := by
        have := Nat.mul_le_mul_right sz (show i + 1 ≤ k by omega)
        rw [Nat.add_mul, Nat.one_mul] at this
        omega
      rw [e4 _ (.inl hlow)]
      exact q3 j u hu
  · by_cases hik : i = k
    · simp only [hik, if_true] at hb'
      have := e5.size
      exact ⟨by have := hb'.1; omega, by have := hb'.2; omega⟩
    · simp only [if_neg hik] at hb'
      have := h2 i b (by omega) hb'
      have := e5.size
      have := hb.size
      omega
  · by_cases hik : i = k
    · by_cases hjk : j = k
      · omega
      · simp only [hik, if_true] at hbi
        simp only [if_neg hjk] at hbj
        have := h2 j b (by omega) hbj
        have := hbi.1
        omega
    · simp only [if_neg hik] at hbi
      by_cases hjk : j = k
      · simp only [hjk, if_true] at hbj
        have := h2 i b (by omega) hbi
        have := hbj.1
        omega
      · simp only [if_neg hjk] at hbj
        exact h3 i j b (by omega) (by omega) hne hbi hbj
theorem Part.done {B : Nat} (h : Part t sz E w g n n l) (hn : l.length = n) (hm : n ≤ maxLen) (hB : B ≤ g) : Ow t sz E w (In B w.heap.size) (.slice (some ⟨g, 0, none⟩) n n) l := by
  obtain ⟨cur, cs, fs, hh, hs, h1, h2, h3⟩ := h
  subst hn
  refine .inr ⟨g, l.length, cur, cs, fs, rfl, hh, Nat.le_refl _, hm, hs, ⟨hB, lt_of_heap hh⟩, fun i x hx => h1 i x (List.getElem?_eq_some_iff.1 hx).1 hx, fun i b hi hb => ?_, h3⟩
  have := h2 i b hi hb
  exact ⟨⟨by omega, this.2⟩, by omega⟩
end

end Go.Proofs.YtmonloebkdpahaaDoor

/- Mails, boxes and accounts in memory: what they read as, and those of the call's own. -/
namespace Go.Proofs.YtmonloebkdpahaaDoor
open Go.RowKit

structure MailD where
  uid : Int
  flags : Int
  seq : Int
  text : List Int
structure GoneD where
  uid : Int
  seq : Int
structure BoxD where
  name : List Int
  valid : Int
  next : Int
  seq : Int
  mails : List MailD
  gones : List GoneD
  lost : Int
structure AccD where
  valid : Int
  boxes : List BoxD
  seen : List Int

/-- A row of bytes of the call's own whose block lies in S. -/
def RO (w : World) (S : Nat → Prop) (v : Value) (l : List Int) : Prop := Oct l ∧ w.ownsRow 0 5 1 v l.length (vals l) ∧ ∀ g, v.ownBlock = some g → S g

theorem RO.bs {w : World} {S : Nat → Prop} {v : Value} {l : List Int} (h : RO w S v l) : Bs w v l := (own_of_row h.1 rfl h.2.1).elim fun _ h => h.2.bs
theorem RO.mono {w : World} {S S' : Nat → Prop} {v : Value} {l : List Int} (h : RO w S v l) (hS : ∀ b, S b → S' b) : RO w S' v l := ⟨h.1, h.2.1, fun g hg => hS g (h.2.2 g hg)⟩
theorem RO.frame {w w' : World} {S : Nat → Prop} {v : Value} {l : List Int} (h : RO w S v l) (hw : ∀ b, S b → b < w.heap.size → w'.heap[b]? = w.heap[b]?) : RO w' S v l := by
  refine ⟨h.1, ⟨h.2.1.1, ?_⟩, h.2.2⟩
  rcases h.2.1.2 with hn | ⟨g, cap, cur, hv, hg, hh, r⟩
  · exact .inl hn
  · exact .inr ⟨g, cap, cur, hv, hg, (hw g (h.2.2 g (by rw [hv]; rfl)) (lt_of_heap hh)).trans hh, r⟩
theorem RO.below {w w' : World} {S : Nat → Prop} {v : Value} {l : List Int} (h : RO w S v l) (hb : Below w.heap.size w w') : RO w' S v l := h.frame fun b _ hlt => hb.block b hlt
theorem RO.nil (w : World) (S : Nat → Prop) : RO w S (.slice none 0 0) [] := ⟨oct_nil, World.ownsRow_nil _ _ _ _, fun g hg => by simp [Value.ownBlock] at hg⟩

def IntRE (_ : World) (c : List Value) (n : Int) : Prop := c = [.int .i64 n] ∧ I64 n
def MailRE (w : World) (c : List Value) (m : MailD) : Prop := ∃ u, c = [.int .i64 m.uid, .int .i64 m.flags, .int .i64 m.seq, u] ∧ Bs w u m.text ∧ I64 m.uid ∧ I64 m.flags ∧ I64 m.seq
def GoneRE (_ : World) (c : List Value) (m : GoneD) : Prop := c = [.int .i64 m.uid, .int .i64 m.seq] ∧ I64 m.uid ∧ I64 m.seq
abbrev IntsV := Rd 1 IntRE
abbrev MailsV := Rd 4 MailRE
abbrev GonesV := Rd 2 GoneRE
def BoxRE (w : World) (c : List Value) (b : BoxD) : Prop :=
  ∃ u0 u1 u2, c = [u0, .int .i64 b.valid, .int .i64 b.next, .int .i64 b.seq, u1, u2, .int .i64 b.lost] ∧ Bs w u0 b.name ∧ MailsV w u1 b.mails ∧ GonesV w u2 b.gones ∧ I64 b.valid ∧ I64 b.next ∧ I64 b.seq ∧ I64 b.lost
abbrev BoxesV := Rd 7 BoxRE

theorem keepsInt : Keeps IntRE := fun _ _ _ _ _ h => h
theorem keepsGone : Keeps GoneRE := fun _ _ _ _ _ h => h
theorem keepsMail : Keeps MailRE := fun _ _ _ _ hb h => let ⟨u, h0, h1, r⟩ := h; ⟨u, h0, h1.below hb, r⟩
theorem keepsBox : Keeps BoxRE := fun _ _ _ _ hb h => let ⟨u0, u1, u2, h0, h1, h2, h3, r⟩ := h; ⟨u0, u1, u2, h0, h1.below hb, h2.below keepsMail hb, h3.below keepsGone hb, r⟩

def IntE (_ : World) (c : List Value) (n : Int) (_ : Nat → Prop) : Prop := c = [.int .i64 n] ∧ I64 n
def MailE (w : World) (c : List Value) (m : MailD) (S : Nat → Prop) : Prop := ∃ u, c = [.int .i64 m.uid, .int .i64 m.flags, .int .i64 m.seq, u] ∧ RO w S u m.text ∧ I64 m.uid ∧ I64 m.flags ∧ I64 m.seq
def GoneE (_ : World) (c : List Value) (m : GoneD) (_ : Nat → Prop) : Prop := c = [.int .i64 m.uid, .int .i64 m.seq] ∧ I64 m.uid ∧ I64 m.seq
theorem framesInt : Frames IntE := fun _ _ _ _ _ h _ => h
theorem framesGone : Frames GoneE := fun _ _ _ _ _ h _ => h
theorem framesMail : Frames MailE := fun _ _ _ _ _ h hw => let ⟨u, h0, h1, r⟩ := h; ⟨u, h0, h1.frame hw, r⟩
abbrev IntsO := Ow 3 1 IntE
abbrev MailsO := Ow 54 4 MailE
abbrev GonesO := Ow 57 2 GoneE
def BoxE (w : World) (c : List Value) (b : BoxD) (S : Nat → Prop) : Prop :=
  ∃ u0 u1 u2 S0 S1 S2, c = [u0, .int .i64 b.valid, .int .i64 b.next, .int .i64 b.seq, u1, u2, .int .i64 b.lost] ∧ RO w S0 u0 b.name ∧ MailsO w S1 u1 b.mails ∧ GonesO w S2 u2 b.gones ∧ (∀ x, S0 x → S x ∧ ¬ S1 x ∧ ¬ S2 x) ∧ (∀ x, S1 x → S x ∧ ¬ S2 x) ∧ (∀ x, S2 x → S x) ∧
    I64 b.valid ∧ I64 b.next ∧ I64 b.seq ∧ I64 b.lost
theorem framesBox : Frames BoxE := fun _ _ _ _ _ h hw =>
  let ⟨u0, u1, u2, S0, S1, S2, h0, h1, h2, h3, d0, d1, d2, r⟩ := h
  ⟨u0, u1, u2, S0, S1, S2, h0, h1.frame fun b hb => hw b (d0 b hb).1, h2.frame framesMail fun b hb => hw b (d1 b hb).1, h3.frame framesGone fun b hb => hw b (d2 b hb), d0, d1, d2, r⟩
abbrev BoxesO := Ow 35 7 BoxE
theorem MailE.rd {w : World} {c : List Value} {m : MailD} {S : Nat → Prop} (h : MailE w c m S) : MailRE w c m := let ⟨u, h0, h1, r⟩ := h; ⟨u, h0, h1.bs, r⟩
theorem BoxE.rd {w : World} {c : List Value} {b : BoxD} {S : Nat → Prop} (h : BoxE w c b S) : BoxRE w c b :=
  let ⟨u0, u1, u2, _, _, _, h0, h1, h2, h3, _, _, _, r⟩ := h; ⟨u0, u1, u2, h0, h1.bs, h2.rd fun _ _ _ _ => MailE.rd, h3.rd fun _ _ _ _ h => h, r⟩

def AccV (w : World) (v : Value) (a : AccD) : Prop := ∃ u0 u1, v = .agg #[.int .i64 a.valid, u0, u1] ∧ BoxesV w u0 a.boxes ∧ IntsV w u1 a.seen ∧ I64 a.valid
theorem AccV.below {w w' : World} {v : Value} {a : AccD} (h : AccV w v a) (hb : Below w.heap.size w w') : AccV w' v a := let ⟨u0, u1, h0, h1, h2, r⟩ := h; ⟨u0, u1, h0, h1.below keepsBox hb, h2.below keepsInt hb, r⟩
def AccO (w : World) (S : Nat → Prop) (v : Value) (a : AccD) : Prop := ∃ u0 u1 S0 S1, v = .agg #[.int .i64 a.valid, u0, u1] ∧ BoxesO w S0 u0 a.boxes ∧ IntsO w S1 u1 a.seen ∧ (∀ x, S0 x → S x ∧ ¬ S1 x) ∧ (∀ x, S1 x → S x) ∧ I64 a.valid
theorem AccO.v {w : World} {S : Nat → Prop} {v : Value} {a : AccD} (h : AccO w S v a) : AccV w v a :=
  let ⟨u0, u1, _, _, h0, h1, h2, _, _, r⟩ := h; ⟨u0, u1, h0, h1.rd fun _ _ _ _ => BoxE.rd, h2.rd fun _ _ _ _ h => h, r⟩
theorem AccO.frame {w w' : World} {S : Nat → Prop} {v : Value} {a : AccD} (h : AccO w S v a) (hw : ∀ b, S b → b < w.heap.size → w'.heap[b]? = w.heap[b]?) : AccO w' S v a :=
  let ⟨u0, u1, S0, S1, h0, h1, h2, d0, d1, r⟩ := h; ⟨u0, u1, S0, S1, h0, h1.frame framesBox fun b hb => hw b (d0 b hb).1, h2.frame framesInt fun b hb => hw b (d1 b hb), d0, d1, r⟩
theorem AccO.below {w w' : World} {S : Nat → Prop} {v : Value} {a : AccD} (h : AccO w S v a) (hb : Below w.heap.size w w') : AccO w' S v a := h.frame fun b _ hlt => hb.block b hlt
/-- A box as a value. -/
def BoxV (w : World) (v : Value) (b : BoxD) : Prop :=
  ∃ u0 u1 u2, v = .agg #[u0, .int .i64 b.valid, .int .i64 b.next, .int .i64 b.seq, u1, u2, .int .i64 b.lost] ∧ Bs w u0 b.name ∧ MailsV w u1 b.mails ∧ GonesV w u2 b.gones ∧ I64 b.valid ∧ I64 b.next ∧ I64 b.seq ∧ I64 b.lost
theorem BoxV.below {w w' : World} {v : Value} {b : BoxD} (h : BoxV w v b) (hb : Below w.heap.size w w') : BoxV w' v b := let ⟨u0, u1, u2, h0, h1, h2, h3, r⟩ := h; ⟨u0, u1, u2, h0, h1.below hb, h2.below keepsMail hb, h3.below keepsGone hb, r⟩
def BoxO (w : World) (S : Nat → Prop) (v : Value) (b : BoxD) : Prop := ∃ c, v = .agg c.toArray ∧ BoxE w c b S
theorem BoxO.v {w : World} {S : Nat → Prop} {v : Value} {b : BoxD} (h : BoxO w S v b) : BoxV w v b := by
  obtain ⟨c, rfl, h⟩ := h
  obtain ⟨u0, u1, u2, rfl, r⟩ := h.rd
  exact ⟨u0, u1, u2, rfl, r⟩
def MailV (w : World) (v : Value) (m : MailD) : Prop := ∃ u, v = .agg #[.int .i64 m.uid, .int .i64 m.flags, .int .i64 m.seq, u] ∧ Bs w u m.text ∧ I64 m.uid ∧ I64 m.flags ∧ I64 m.seq
theorem MailV.below {w w' : World} {v : Value} {m : MailD} (h : MailV w v m) (hb : Below w.heap.size w w') : MailV w' v m := let ⟨u, h0, h1, r⟩ := h; ⟨u, h0, h1.below hb, r⟩

/-- One element's cells, as the walk asks for them. -/
theorem IntsV.cell {w : World} {v : Value} {l : List Int} (h : IntsV w v l) (k : Nat) (x : Int) (hx : l[k]? = some x) : ∃ b off cap, v = .slice (some ⟨b, off, none⟩) l.length cap ∧ b < w.heap.size ∧ w.cell? ⟨b, off + k, none⟩ = some (.int .i64 x) ∧ I64 x := by
  obtain ⟨b, off, cap, c, hv, hlt, ⟨rfl, hi⟩, -, hc⟩ := h.get k x hx
  exact ⟨b, off, cap, hv, hlt, by simpa using hc 0 _ rfl, hi⟩
theorem GonesV.cell {w : World} {v : Value} {l : List GoneD} (h : GonesV w v l) (k : Nat) (x : GoneD) (hx : l[k]? = some x) : ∃ b off cap, v = .slice (some ⟨b, off, none⟩) l.length cap ∧ b < w.heap.size ∧ w.cell? ⟨b, off + k * 2, none⟩ = some (.int .i64 x.uid) ∧ w.cell? ⟨b, off + k * 2 + 1, none⟩ = some (.int .i64 x.seq) ∧ I64 x.uid ∧ I64 x.seq := by
  obtain ⟨b, off, cap, c, hv, hlt, ⟨rfl, hi⟩, -, hc⟩ := h.get k x hx
  exact ⟨b, off, cap, hv, hlt, hc 0 _ rfl, hc 1 _ rfl, hi⟩
theorem MailsV.cell {w : World} {v : Value} {l : List MailD} (h : MailsV w v l) (k : Nat) (x : MailD) (hx : l[k]? = some x) : ∃ b off cap u, v = .slice (some ⟨b, off, none⟩) l.length cap ∧ b < w.heap.size ∧ w.cell? ⟨b, off + k * 4, none⟩ = some (.int .i64 x.uid) ∧ w.cell? ⟨b, off + k * 4 + 1, none⟩ = some (.int .i64 x.flags) ∧
    w.cell? ⟨b, off + k * 4 + 2, none⟩ = some (.int .i64 x.seq) ∧ w.cell? ⟨b, off + k * 4 + 3, none⟩ = some u ∧ Bs w u x.text ∧ I64 x.uid ∧ I64 x.flags ∧ I64 x.seq := by
  obtain ⟨b, off, cap, c, hv, hlt, ⟨u, rfl, hu, hi⟩, -, hc⟩ := h.get k x hx
  exact ⟨b, off, cap, u, hv, hlt, hc 0 _ rfl, hc 1 _ rfl, hc 2 _ rfl, hc 3 _ rfl, hu, hi⟩
theorem BoxesV.cell {w : World} {v : Value} {l : List BoxD} (h : BoxesV w v l) (k : Nat) (x : BoxD) (hx : l[k]? = some x) : ∃ b off cap u0 u1 u2, v = .slice (some ⟨b, off, none⟩) l.length cap ∧ b < w.heap.size ∧ w.cell? ⟨b, off + k * 7, none⟩ = some u0 ∧ w.cell? ⟨b, off + k * 7 + 1, none⟩ = some (.int .i64 x.valid) ∧
    w.cell? ⟨b, off + k * 7 + 2, none⟩ = some (.int .i64 x.next) ∧ w.cell? ⟨b, off + k * 7 + 3, none⟩ = some (.int .i64 x.seq) ∧ w.cell? ⟨b, off + k * 7 + 4, none⟩ = some u1 ∧ w.cell? ⟨b, off + k * 7 + 5, none⟩ = some u2 ∧ w.cell? ⟨b, off + k * 7 + 6, none⟩ = some (.int .i64 x.lost) ∧
    Bs w u0 x.name ∧ MailsV w u1 x.mails ∧ GonesV w u2 x.gones ∧ I64 x.valid ∧ I64 x.next ∧ I64 x.seq ∧ I64 x.lost := by
  obtain ⟨b, off, cap, c, hv, hlt, ⟨u0, u1, u2, rfl, h0, h1, h2, hi⟩, -, hc⟩ := h.get k x hx
  exact ⟨b, off, cap, u0, u1, u2, hv, hlt, hc 0 _ rfl, hc 1 _ rfl, hc 2 _ rfl, hc 3 _ rfl, hc 4 _ rfl, hc 5 _ rfl, hc 6 _ rfl, h0, h1, h2, hi⟩

/-- How many values a mail, a list of mails, a box, a list of boxes hold. -/
def szM (l : List MailD) : Nat := (l.map fun m => m.text.length + 1).sum
def szX (b : BoxD) : Nat := b.name.length + szM b.mails + b.gones.length
theorem szM_mem {l : List MailD} {m : MailD} (h : m ∈ l) : m.text.length + 1 ≤ szM l := by
  induction l with
  | nil => cases h
  | cons x l ih =>
    simp only [szM, List.map_cons, List.sum_cons] at ih ⊢
    rcases List.mem_cons.1 h with rfl | h
    · omega
    · have := ih h; omega
theorem szM_len (l : List MailD) : l.length ≤ szM l := by
  induction l with
  | nil => simp [szM]
  | cons x l ih => simp only [szM, List.map_cons, List.sum_cons, List.length_cons] at ih ⊢; omega
end Go.Proofs.YtmonloebkdpahaaDoor

/- Lists of the call's own whose blocks lie between two; blocks of two, three, four, seven cells. -/
namespace Go.Proofs.YtmonloebkdpahaaDoor
open Go.RowKit

class Fr {α : Type} (E : World → List Value → α → (Nat → Prop) → Prop) : Prop where
  out : Frames E
instance : Fr IntE := ⟨framesInt⟩
instance : Fr MailE := ⟨framesMail⟩
instance : Fr GoneE := ⟨framesGone⟩
instance : Fr BoxE := ⟨framesBox⟩

def OwR {α : Type} (t : TypeId) (sz : Nat) (E : World → List Value → α → (Nat → Prop) → Prop) (w : World) (B T : Nat) (v : Value) (l : List α) : Prop := Ow t sz E w (In B T) v l
section
variable {α : Type} {t : TypeId} {sz : Nat} {E : World → List Value → α → (Nat → Prop) → Prop} {w w' : World} {B T B' T' g i : Nat} {v x : Value} {l : List α}
theorem OwR.ow (h : OwR t sz E w B T v l) : Ow t sz E w (In B T) v l := h
theorem OwR.wide (h : OwR t sz E w B T v l) (hB : B' ≤ B) (hT : T ≤ T') : OwR t sz E w B' T' v l := Ow.mono h fun _ hb => ⟨Nat.le_trans hB hb.1, Nat.lt_of_lt_of_le hb.2 hT⟩
theorem OwR.below [Fr E] (h : OwR t sz E w B T v l) (hb : Below w.heap.size w w') : OwR t sz E w' B T v l := Ow.below Fr.out h hb
theorem OwR.set [Fr E] (h : OwR t sz E w B T v l) (hd : g < B ∨ T ≤ g) : OwR t sz E (w.setCell ⟨g, i, none⟩ x) B T v l :=
  Ow.frame Fr.out h fun b hb _ => Below.heap_setCell w ⟨g, i, none⟩ x b (show b ≠ g by have := hb.1; have := hb.2; omega)
theorem OwR.form3 (h : OwR t sz E w B T v l) : ∃ a n cap, v = .slice a n cap := by
  rcases h with ⟨rfl, _⟩ | ⟨g, cap, cur, cs, fs, hv, _⟩
  · exact ⟨_, _, _, rfl⟩
  · exact ⟨_, _, _, hv⟩
end
abbrev MailsR := OwR 54 4 MailE
abbrev GonesR := OwR 57 2 GoneE
theorem bx2 {w : World} {g : Nat} {t : TypeId} {c0 c1 : Value} (h : w.heap[g]? = some (.cells #[c0, c1] t (0, 0))) : w.cell? ⟨g, 0, none⟩ = some c0 ∧ w.cell? ⟨g, 1, none⟩ = some c1 :=
  ⟨by rw [cell_of_row w g 0 _ t (0, 0) h]; rfl, by rw [cell_of_row w g 1 _ t (0, 0) h]; rfl⟩
theorem bx3 {w : World} {g : Nat} {t : TypeId} {c0 c1 c2 : Value} (h : w.heap[g]? = some (.cells #[c0, c1, c2] t (0, 0))) : w.cell? ⟨g, 0, none⟩ = some c0 ∧ w.cell? ⟨g, 1, none⟩ = some c1 ∧ w.cell? ⟨g, 2, none⟩ = some c2 :=
  ⟨by rw [cell_of_row w g 0 _ t (0, 0) h]; rfl, by rw [cell_of_row w g 1 _ t (0, 0) h]; rfl, by rw [cell_of_row w g 2 _ t (0, 0) h]; rfl⟩
theorem bx4 {w : World} {g : Nat} {t : TypeId} {c0 c1 c2 c3 : Value} (h : w.heap[g]? = some (.cells #[c0, c1, c2, c3] t (0, 0))) : w.cell? ⟨g, 0, none⟩ = some c0 ∧ w.cell? ⟨g, 1, none⟩ = some c1 ∧ w.cell? ⟨g, 2, none⟩ = some c2 ∧ w.cell? ⟨g, 3, none⟩ = some c3 :=
  ⟨by rw [cell_of_row w g 0 _ t (0, 0) h]; rfl, by rw [cell_of_row w g 1 _ t (0, 0) h]; rfl, by rw [cell_of_row w g 2 _ t (0, 0) h]; rfl, by rw [cell_of_row w g 3 _ t (0, 0) h]; rfl⟩
theorem bx7 {w : World} {g : Nat} {t : TypeId} {c0 c1 c2 c3 c4 c5 c6 : Value} (h : w.heap[g]? = some (.cells #[c0, c1, c2, c3, c4, c5, c6] t (0, 0))) :
    w.cell? ⟨g, 0, none⟩ = some c0 ∧ w.cell? ⟨g, 1, none⟩ = some c1 ∧ w.cell? ⟨g, 2, none⟩ = some c2 ∧ w.cell? ⟨g, 3, none⟩ = some c3 ∧ w.cell? ⟨g, 4, none⟩ = some c4 ∧ w.cell? ⟨g, 5, none⟩ = some c5 ∧ w.cell? ⟨g, 6, none⟩ = some c6 :=
  ⟨by rw [cell_of_row w g 0 _ t (0, 0) h]; rfl, by rw [cell_of_row w g 1 _ t (0, 0) h]; rfl, by rw [cell_of_row w g 2 _ t (0, 0) h]; rfl, by rw [cell_of_row w g 3 _ t (0, 0) h]; rfl,
   by rw [cell_of_row w g 4 _ t (0, 0) h]; rfl, by rw [cell_of_row w g 5 _ t (0, 0) h]; rfl, by rw [cell_of_row w g 6 _ t (0, 0) h]; rfl⟩

end Go.Proofs.YtmonloebkdpahaaDoor

/- A list of the call's own, and one element more put behind it. -/
namespace Go.Proofs.YtmonloebkdpahaaDoor
open Go.RowKit

/-- The list as a row of cells, with what its elements lead to. -/
theorem Ow.row {α : Type} {t : TypeId} {sz : Nat} {E : World → List Value → α → (Nat → Prop) → Prop} {w : World} {B M : Nat} {v : Value} {l : List α} (h : Ow t sz E w (In B M) v l) :
    ∃ (xs : List Value) (cs : Nat → List Value) (fs : Nat → Nat → Prop), w.ownsRow B t sz v l.length xs ∧ (∀ g, v.ownBlock = some g → g < M) ∧
      (∀ i x, l[i]? = some x → E w (cs i) x (fs i) ∧ (cs i).length = sz ∧ ∀ j u, (cs i)[j]? = some u → xs[i * sz + j]? = some u) ∧
      (∀ i b, i < l.length → fs i b → In B M b ∧ v.ownBlock ≠ some b) ∧ (∀ i j b, i < l.length → j < l.length → i ≠ j → fs i b → ¬ fs j b) := by
  rcases h with ⟨rfl, rfl⟩ | ⟨g, cap, cur, cs, fs, rfl, hh, h1, h2, h3, h4, h5, h6, h7⟩
  · exact ⟨[], fun _ => [], fun _ _ => False, ⟨by simp, .inl ⟨rfl, rfl⟩⟩, fun g hg => by simp [Value.ownBlock] at hg, by simp, by simp, by simp⟩
  · have hle : l.length * sz ≤ cur.size := by rw [h3]; exact Nat.mul_le_mul_right _ h1
    refine ⟨cur.toList.take (l.length * sz), cs, fs, ⟨by simp; omega, .inr ⟨g, cap, cur, rfl, h4.1, hh, h1, h2, h3, rfl⟩⟩, fun q hq => ?_, fun i x hx => ?_, fun i b hi hb => ⟨(h6 i b hi hb).1, ?_⟩, h7⟩
    · simp only [Value.ownBlock, Option.some.injEq] at hq
      subst hq
      exact h4.2
    · have hi : i < l.length := (List.getElem?_eq_some_iff.1 hx).1
      obtain ⟨e1, e2, e3⟩ := h5 i x hx
      refine ⟨e1, e2, fun j u hu => ?_⟩
      have hj : j < sz := by have := (List.getElem?_eq_some_iff.1 hu).1; omega
      have hb : i * sz + j < l.length * sz := by
        have := Nat.mul_le_mul_right sz (show i + 1 ≤ l.length by omega)
        rw [Nat.add_mul, Nat.one_mul] at this
        omega
      rw [List.getElem?_take, if_pos hb]
      simpa using e3 j u hu
    · simp only [Value.ownBlock, ne_eq, Option.some.injEq]
      exact fun e => (h6 i b hi hb).2 e.symm

/-- One element more: its cells stand behind the row, its footprint lies behind the list's. -/
theorem Ow.push {α : Type} {t : TypeId} {sz : Nat} {E : World → List Value → α → (Nat → Prop) → Prop} {w w' : World} {B M : Nat} {v v' : Value} {l : List α} (hE : Frames E) (h : Ow t sz E w (In B M) v l) (hM : M ≤ w.heap.size) (hBM : B ≤ M)
    (x : α) (c : List Value) (hc : c.length = sz) (he : E w c x (In M w.heap.size))
    (hr : ∀ xs, w.ownsRow B t sz v l.length xs → w'.ownsRow B t sz v' (l.length + 1) (xs ++ c)) (hg : w.grownBy w' v.ownBlock)
    (hn : ∀ g, v'.ownBlock = some g → v.ownBlock = some g ∨ w.heap.size ≤ g) : Ow t sz E w' (In B w'.heap.size) v' (l ++ [x]) := by
  obtain ⟨xs, cs, fs, r1, r2, r3, r4, r5⟩ := h.row
  have hlen := r1.1
  obtain ⟨k1, k2 | ⟨g, cap, cur, k3, k4, k5, k6, k7, k8, k9⟩⟩ := hr xs r1
  · exfalso
    have := k2.2
    omega
  · have hgl := lt_of_heap k5
    have hlw := hg.size
    have hgo : ∀ b, b < w.heap.size → v.ownBlock ≠ some b → w'.heap[b]? = w.heap[b]? := fun b hb hne => hg.block b hb fun e => hne e.symm
    refine .inr ⟨g, cap, cur, fun i => if i = l.length then c else cs i, fun i => if i = l.length then In M w.heap.size else fs i, ?_, k5, ?_, k7, k8, ⟨k4, hgl⟩, fun i y hy => ?_, fun i b hi hb => ?_, fun i j b hi hj hij hb hb' => ?_⟩
    · rw [k3]; simp
    · simpa using k6
    · have hxs : ∀ (m : Nat) (u : Value), (xs ++ c)[m]? = some u → cur[m]? = some u := by
        intro m u hu
        rw [← k9, List.getElem?_take] at hu
        split at hu
        · simpa using hu
        · cases hu
      by_cases hi : i = l.length
      · subst hi
        rw [List.getElem?_append_right (Nat.le_refl _)] at hy
        simp only [Nat.sub_self, List.getElem?_cons_zero, Option.some.injEq] at hy
        subst hy
        simp only [if_true]
        refine ⟨hE _ _ _ _ _ he fun b hb hlt => hgo b hlt fun e => ?_, hc, fun j u hu => hxs _ _ ?_⟩
        · have := r2 b e
          have := hb.1
          omega
        · rw [List.getElem?_append_right (by omega), hlen]
          simpa using hu
      · have hi' : i < l.length := by
          have := (List.getElem?_eq_some_iff.1 hy).1
          simp at this
          omega
        rw [List.getElem?_append_left hi'] at hy
        simp only [if_neg hi]
        obtain ⟨e1, e2, e3⟩ := r3 i y hy
        refine ⟨hE _ _ _ _ _ e1 fun b hb hlt => hgo b hlt (r4 i b hi' hb).2, e2, fun j u hu => hxs _ _ ?_⟩
        have h := e3 j u hu
        have hm : i * sz + j < xs.length := (List.getElem?_eq_some_iff.1 h).1
        rw [List.getElem?_append_left hm]
        exact h
    · simp only [List.length_append, List.length_cons, List.length_nil] at hi
      by_cases hil : i = l.length
      · simp only [if_pos hil] at hb
        refine ⟨⟨by have := hb.1; omega, by have := hb.2; omega⟩, fun e => ?_⟩
        subst e
        rcases hn b (by rw [k3]; rfl) with h | h
        · have := r2 b h
          have := hb.1
          omega
        · have := hb.2
          omega
      · simp only [if_neg hil] at hb
        have hi' : i < l.length := by omega
        obtain ⟨q1, q2⟩ := r4 i b hi' hb
        refine ⟨⟨q1.1, by have := q1.2; omega⟩, fun e => ?_⟩
        subst e
        rcases hn b (by rw [k3]; rfl) with h | h
        · exact q2 h
        · have := q1.2
          omega
    · simp only [List.length_append, List.length_cons, List.length_nil] at hi hj
      by_cases hil : i = l.length
      · have hjl : j ≠ l.length := fun e => hij (hil.trans e.symm)
        simp only [if_pos hil] at hb
        simp only [if_neg hjl] at hb'
        have := (r4 j b (by omega) hb').1.2
        have := hb.1
        omega
      · simp only [if_neg hil] at hb
        by_cases hjl : j = l.length
        · simp only [if_pos hjl] at hb'
          have := (r4 i b (by omega) hb).1.2
          have := hb'.1
          omega
        · simp only [if_neg hjl] at hb'
          exact r5 i j b (by omega) (by omega) hij hb hb'

end Go.Proofs.YtmonloebkdpahaaDoor

/- One element more put behind a list of the call's own: the operation. -/
namespace Go.Proofs.YtmonloebkdpahaaDoor
open Go.RowKit

section
variable {α : Type} {P : Program} {w : World} {e t : TypeId} {sz bytes B M : Nat} {E : World → List Value → α → (Nat → Prop) → Prop} {v : Value} {l : List α}
theorem run_push (hE : Frames E) (h : Ow e sz E w (In B M) v l) (hM : M ≤ w.heap.size) (hBM : B ≤ M) (ty : TypeId) {i : TypeInfo} {z : Value} (ht : P.underlying t = some (.slice e)) (hi : P.info? e = some i) (hz : i.zero = some z) (hsize : i.size = sz) (hby : i.bytes = bytes) (hzs : z.cells.size = sz) (hsz : 0 < sz)
    (x : α) (c : List Value) (hc : c.length = sz) (he : E w c x (In M w.heap.size)) (ad : Addr) (cc : Nat) (hcell : ∀ j u, c[j]? = some u → w.cell? (ad.add j) = some u) (h1 : ∀ u ∈ c, u.oneCell' = true) (hl : l.length + 1 ≤ maxLen) (hb : (l.length + 1) * bytes ≤ 140737488355328) :
    ∃ v' w', (Builtin.append_ #[t, t] ty #[v, .slice (some ad) 1 cc]).run P w = .ok v' w' ∧ Ow e sz E w' (In B w'.heap.size) v' (l ++ [x]) ∧ w.grownBy w' v.ownBlock ∧ (∀ g, v.ownBlock = some g → B ≤ g ∧ g < M) := by
  obtain ⟨xs, cs, fs, r1, r2, r3, r4, r5⟩ := h.row
  obtain ⟨v', w', hr, h2, h3, h4, h5⟩ := run_append_own_at (P := P) w B t ty e i z sz bytes ht hi hz hsize hby hzs hsz v l.length xs r1 ad 1 cc c (by omega) hcell h1 hl hb (by omega)
  refine ⟨v', w', hr, h.push hE hM hBM x c hc he (fun ys hys => ?_) h3 (fun g hg => ?_), h3, fun g hg => ⟨?_, r2 g hg⟩⟩
  · obtain ⟨k1, k2⟩ := hys
    obtain ⟨m1, m2⟩ := r1
    have e : ys = xs := by
      rcases k2 with ⟨k3, k4⟩ | ⟨g, cap, cur, k3, k4, k5, k6, k7, k8, k9⟩
      · rw [k4, Nat.zero_mul, List.length_eq_zero_iff] at k1
        rw [k4, Nat.zero_mul, List.length_eq_zero_iff] at m1
        rw [k1, m1]
      · rcases m2 with ⟨m3, m4⟩ | ⟨g', cap', cur', m3, m4, m5, m6, m7, m8, m9⟩
        · rw [m3] at k3
          cases k3
        · rw [m3] at k3
          simp only [Value.slice.injEq, Option.some.injEq, Addr.mk.injEq] at k3
          obtain ⟨⟨rfl, -⟩, -⟩ := k3
          rw [m5] at k5
          simp only [Option.some.injEq, Obj.cells.injEq] at k5
          obtain ⟨rfl, -⟩ := k5
          rw [← k9, ← m9]
    rw [e]
    exact h2
  · rcases h5 with h5 | h5
    · exact .inl (h5 ▸ hg)
    · rw [h5] at hg
      exact .inr (by simp only [Option.some.injEq] at hg; omega)
  · obtain ⟨m1, m2⟩ := r1
    rcases m2 with ⟨m3, m4⟩ | ⟨g', cap', cur', m3, m4, m5, m6, m7, m8, m9⟩
    · rw [m3] at hg
      simp [Value.ownBlock] at hg
    · rw [m3] at hg
      simp only [Value.ownBlock, Option.some.injEq] at hg
      omega
/-- The operation in a region that draws. -/
theorem wp_push {o : Oper} {a : Act} {K : Act → World → Prop} {Q : Exit → Act → World → Prop} (d : Nat) (hd : o.dst = some d) (s y : Operand)
    (ho : o.op = .call { callee := .builtin .append, args := #[s, y], argTypes := #[t, t] }) (hE : Frames E) (h : Ow e sz E w (In B M) v l) (hM : M ≤ w.heap.size) (hBM : B ≤ M) {i : TypeInfo} {z : Value} (ht : P.underlying t = some (.slice e)) (hi : P.info? e = some i) (hz : i.zero = some z) (hsize : i.size = sz) (hby : i.bytes = bytes) (hzs : z.cells.size = sz) (hsz : 0 < sz)
    (hs : a.eval s = v) (x : α) (c : List Value) (hc : c.length = sz) (he : E w c x (In M w.heap.size)) (ad : Addr) (cc : Nat) (hy : a.eval y = .slice (some ad) 1 cc) (hcell : ∀ j u, c[j]? = some u → w.cell? (ad.add j) = some u) (h1 : ∀ u ∈ c, u.oneCell' = true) (hl : l.length + 1 ≤ maxLen) (hb : (l.length + 1) * bytes ≤ 140737488355328)
    (k : ∀ v' w', Ow e sz E w' (In B w'.heap.size) v' (l ++ [x]) → w.grownBy w' v.ownBlock → (∀ g, v.ownBlock = some g → B ≤ g ∧ g < M) → K (a.put (some d) v') w') : o.wp P a w K Q := by
  obtain ⟨v', w', hr, h2, h3, h4⟩ := run_push (P := P) (t := t) hE h hM hBM o.type ht hi hz hsize hby hzs hsz x c hc he ad cc hcell h1 hl hb
  unfold Oper.wp execOp
  simp only [ho, resolve, invoke, builtin, Sem.run_bind, Sem.run_pure, Result.andThen_ok, List.map_toArray, List.map_cons, List.map_nil, hs, hy, hr]
  have := k v' w' h2 h3 h4
  rw [← hd] at this
  exact this
/-- The operation in a region that goes in the text's order. -/
theorem wpList_push {ops : Array Oper} {rest : List Oper} {o : Oper} {a : Act} {Q : Exit → Act → World → Prop} (hgd : o.guard = none) (s y : Operand)
    (ho : o.op = .call { callee := .builtin .append, args := #[s, y], argTypes := #[t, t] }) (hE : Frames E) (h : Ow e sz E w (In B M) v l) (hM : M ≤ w.heap.size) (hBM : B ≤ M) {i : TypeInfo} {z : Value} (ht : P.underlying t = some (.slice e)) (hi : P.info? e = some i) (hz : i.zero = some z) (hsize : i.size = sz) (hby : i.bytes = bytes) (hzs : z.cells.size = sz) (hsz : 0 < sz)
    (hs : a.eval s = v) (x : α) (c : List Value) (hc : c.length = sz) (he : E w c x (In M w.heap.size)) (ad : Addr) (cc : Nat) (hy : a.eval y = .slice (some ad) 1 cc) (hcell : ∀ j u, c[j]? = some u → w.cell? (ad.add j) = some u) (h1 : ∀ u ∈ c, u.oneCell' = true) (hl : l.length + 1 ≤ maxLen) (hb : (l.length + 1) * bytes ≤ 140737488355328)
    (k : ∀ v' w', Ow e sz E w' (In B w'.heap.size) v' (l ++ [x]) → w.grownBy w' v.ownBlock → (∀ g, v.ownBlock = some g → B ≤ g ∧ g < M) → wpList P ops Q rest (a.put o.dst v') w') : wpList P ops Q (o :: rest) a w := by
  refine wpList_plain hgd fun K hK => ?_
  obtain ⟨v', w', hr, h2, h3, h4⟩ := run_push (P := P) (t := t) hE h hM hBM o.type ht hi hz hsize hby hzs hsz x c hc he ad cc hcell h1 hl hb
  unfold Oper.wp execOp
  simp only [ho, resolve, invoke, builtin, Sem.run_bind, Sem.run_pure, Result.andThen_ok, List.map_toArray, List.map_cons, List.map_nil, hs, hy, hr]
  exact hK _ _ (k v' w' h2 h3 h4)
end
theorem ite_w {c : Bool} {A B : Prop} (hc : c = true) (h : A) : if c = true then A else B := by rw [if_pos hc]; exact h
/-- What is new by one element stands in its block. -/
theorem cells_new (w : World) (cs : Array Value) (t : TypeId) : ∀ j u, cs.toList[j]? = some u → (w.alloc (.cells cs t)).cell? ((⟨w.heap.size, 0, none⟩ : Addr).add j) = some u := by
  intro j u hu
  have h := box_new w (.cells cs t)
  rw [Addr.add_lit, Nat.zero_add, cell_of_row _ _ _ _ _ (0, 0) h]
  simpa using hu
/-- What lies below the list stays. -/
theorem grown_below {w0 w w' : World} {v : Value} {N B : Nat} (h0 : Below N w0 w) (hg : w.grownBy w' v.ownBlock) (hv : ∀ g, v.ownBlock = some g → B ≤ g) (hB : N ≤ B) (hN : N ≤ w.heap.size) : Below N w0 w' :=
  ⟨hg.os.trans h0.os, hg.tape.trans h0.tape, hg.output.trans h0.output, Nat.le_trans h0.size hg.size, fun k hk => (hg.block k (by omega) fun e => by have := hv k e.symm; omega).trans (h0.block k hk)⟩
theorem grown_at {w w' : World} {v : Value} {B g : Nat} {o : Obj} (hg : w.grownBy w' v.ownBlock) (hv : ∀ g, v.ownBlock = some g → B ≤ g) (h : w.heap[g]? = some o) (hB : g < B) : w'.heap[g]? = some o :=
  (hg.block g (lt_of_heap h) fun e => by have := hv g e.symm; omega).trans h

end Go.Proofs.YtmonloebkdpahaaDoor

/- A whole list put behind an empty one of the call's own: what comes back owns the copied cells. -/
namespace Go.Proofs.YtmonloebkdpahaaDoor
open Go.RowKit

theorem flatC_len {cs : Nat → List Value} {sz : Nat} : ∀ (n : Nat), (∀ i, i < n → (cs i).length = sz) → ((List.range n).flatMap cs).length = n * sz
  | 0, _ => by simp
  | n + 1, h => by
    rw [List.range_succ, List.flatMap_append, List.length_append, flatC_len n (fun i hi => h i (by omega))]
    simp only [List.flatMap_cons, List.flatMap_nil, List.append_nil, h n (by omega), Nat.add_mul, Nat.one_mul]
theorem flatC_get {cs : Nat → List Value} {sz : Nat} : ∀ (n : Nat), (∀ i, i < n → (cs i).length = sz) → ∀ i j, i < n → j < sz → ((List.range n).flatMap cs)[i * sz + j]? = (cs i)[j]?
  | 0, _, _, _, h, _ => absurd h (Nat.not_lt_zero _)
  | n + 1, h, i, j, hi, hj => by
    have hl := flatC_len n (cs := cs) (sz := sz) (fun i hi => h i (by omega))
    rw [List.range_succ, List.flatMap_append]
    by_cases e : i = n
    · subst e
      rw [List.getElem?_append_right (by omega), hl]
      simp only [List.flatMap_cons, List.flatMap_nil, List.append_nil]
      congr 1
      omega
    · have hb : i * sz + j < n * sz := by
        have := Nat.mul_le_mul_right sz (show i + 1 ≤ n by omega)
        rw [Nat.add_mul, Nat.one_mul] at this
        omega
      rw [List.getElem?_append_left (by omega)]
      exact flatC_get n (fun i hi => h i (by omega)) i j (by omega) hj

section
variable {α : Type} {P : Program} {w : World} {e t : TypeId} {sz bytes B : Nat} {RE : World → List Value → α → Prop} {v u : Value} {m : List α}
theorem run_cat (h : w.ownsRow B e sz v 0 []) (hu : Rd sz RE w u m) (hone : ∀ c x, RE w c x → ∀ y ∈ c, y.oneCell' = true) (ty : TypeId) {i : TypeInfo} {z : Value} (ht : P.underlying t = some (.slice e)) (hi : P.info? e = some i) (hz : i.zero = some z) (hsize : i.size = sz) (hby : i.bytes = bytes) (hzs : z.cells.size = sz) (hsz : 0 < sz)
    (hl : m.length ≤ maxLen) (hb : m.length * bytes ≤ 140737488355328) (hB : B ≤ w.heap.size) :
    ∃ v' w' xs, (Builtin.append_ #[t, t] ty #[v, u]).run P w = .ok v' w' ∧ w'.ownsRow B e sz v' m.length xs ∧ (∀ i x, m[i]? = some x → ∃ c, c.length = sz ∧ RE w c x ∧ ∀ j y, c[j]? = some y → xs[i * sz + j]? = some y) ∧ w.grownBy w' v.ownBlock ∧ (v'.ownBlock = v.ownBlock ∨ v'.ownBlock = some w.heap.size) := by
  obtain ⟨a, cap, cs, rfl, h1, h2, h3, h4, h5⟩ := hu
  cases a with
  | none =>
    have hc := h3 rfl
    have hm : m = [] := List.eq_nil_of_length_eq_zero (by omega)
    subst hm
    subst hc
    exact ⟨v, w, [], run_append_owned_none (P := P) (w := w) B t ty e i sz ht hi v 0 [] h, h, by simp, World.grownBy.refl _ _, .inl rfl⟩
  | some ad =>
    have hlen : ∀ i, i < m.length → (cs i).length = sz := fun i hi => (h4 i m[i] (List.getElem?_eq_getElem hi)).2
    have hfl := flatC_len m.length hlen
    have hnews : ∀ k y, ((List.range m.length).flatMap cs)[k]? = some y → w.cell? (ad.add k) = some y := by
      intro k y hk
      have hk2 : k < m.length * sz := by have := (List.getElem?_eq_some_iff.1 hk).1; omega
      have hd : k = k / sz * sz + k % sz := by have := Nat.div_add_mod k sz; rw [Nat.mul_comm]; omega
      have hi1 : k / sz < m.length := Nat.div_lt_of_lt_mul (by rw [Nat.mul_comm]; exact hk2)
      have hj1 : k % sz < sz := Nat.mod_lt _ hsz
      have hk3 := hk
      rw [hd, flatC_get m.length hlen _ _ hi1 hj1] at hk3
      obtain ⟨b, off, hab, -, hcell⟩ := h5 (Nat.lt_of_le_of_lt (Nat.zero_le _) hi1)
      cases hab
      have := hcell _ _ _ hi1 hk3
      rw [Addr.add_lit]
      rw [Nat.add_assoc, ← hd] at this
      exact this
    have hones : ∀ y ∈ (List.range m.length).flatMap cs, y.oneCell' = true := by
      intro y hy
      obtain ⟨i, hi', hy⟩ := List.mem_flatMap.1 hy
      have hil : i < m.length := by simpa using hi'
      exact hone _ _ (h4 i m[i] (List.getElem?_eq_getElem hil)).1 y hy
    obtain ⟨v', w', hr, k2, k3, k4, k5⟩ := run_append_own_at (P := P) w B t ty e i z sz bytes ht hi hz hsize hby hzs hsz v 0 [] h ad m.length cap ((List.range m.length).flatMap cs) hfl hnews hones (by omega) (by simpa using hb) hB
    refine ⟨v', w', (List.range m.length).flatMap cs, hr, by simpa using k2, fun i x hx => ?_, k3, k5⟩
    have hil : i < m.length := (List.getElem?_eq_some_iff.1 hx).1
    refine ⟨cs i, hlen i hil, (h4 i x hx).1, fun j y hy => ?_⟩
    have hj : j < sz := by have := (List.getElem?_eq_some_iff.1 hy).1; have := hlen i hil; omega
    rw [flatC_get m.length hlen i j hil hj]
    exact hy
/-- The operation in a region that draws. -/
theorem wp_cat {o : Oper} {a : Act} {K : Act → World → Prop} {Q : Exit → Act → World → Prop} (d : Nat) (hd : o.dst = some d) (s y : Operand)
    (ho : o.op = .call { callee := .builtin .append, args := #[s, y], argTypes := #[t, t] }) (h : w.ownsRow B e sz v 0 []) (hu : Rd sz RE w u m) (hone : ∀ c x, RE w c x → ∀ y ∈ c, y.oneCell' = true) {i : TypeInfo} {z : Value} (ht : P.underlying t = some (.slice e)) (hi : P.info? e = some i) (hz : i.zero = some z) (hsize : i.size = sz) (hby : i.bytes = bytes) (hzs : z.cells.size = sz) (hsz : 0 < sz)
    (hs : a.eval s = v) (hy : a.eval y = u) (hl : m.length ≤ maxLen) (hb : m.length * bytes ≤ 140737488355328) (hB : B ≤ w.heap.size)
    (k : ∀ v' w' xs, w'.ownsRow B e sz v' m.length xs → (∀ i x, m[i]? = some x → ∃ c, c.length = sz ∧ RE w c x ∧ ∀ j y, c[j]? = some y → xs[i * sz + j]? = some y) → w.grownBy w' v.ownBlock → (v'.ownBlock = v.ownBlock ∨ v'.ownBlock = some w.heap.size) → K (a.put (some d) v') w') : o.wp P a w K Q := by
  obtain ⟨v', w', xs, hr, h2, h3, h4, h5⟩ := run_cat (P := P) (t := t) h hu hone o.type ht hi hz hsize hby hzs hsz hl hb hB
  unfold Oper.wp execOp
  simp only [ho, resolve, invoke, builtin, Sem.run_bind, Sem.run_pure, Result.andThen_ok, List.map_toArray, List.map_cons, List.map_nil, hs, hy, hr]
  have := k v' w' xs h2 h3 h4 h5
  rw [← hd] at this
  exact this
/-- The operation in a region that goes in the text's order. -/
theorem wpList_cat {ops : Array Oper} {rest : List Oper} {o : Oper} {a : Act} {Q : Exit → Act → World → Prop} (hgd : o.guard = none) (s y : Operand)
    (ho : o.op = .call { callee := .builtin .append, args := #[s, y], argTypes := #[t, t] }) (h : w.ownsRow B e sz v 0 []) (hu : Rd sz RE w u m) (hone : ∀ c x, RE w c x → ∀ y ∈ c, y.oneCell' = true) {i : TypeInfo} {z : Value} (ht : P.underlying t = some (.slice e)) (hi : P.info? e = some i) (hz : i.zero = some z) (hsize : i.size = sz) (hby : i.bytes = bytes) (hzs : z.cells.size = sz) (hsz : 0 < sz)
    (hs : a.eval s = v) (hy : a.eval y = u) (hl : m.length ≤ maxLen) (hb : m.length * bytes ≤ 140737488355328) (hB : B ≤ w.heap.size)
    (k : ∀ v' w' xs, w'.ownsRow B e sz v' m.length xs → (∀ i x, m[i]? = some x → ∃ c, c.length = sz ∧ RE w c x ∧ ∀ j y, c[j]? = some y → xs[i * sz + j]? = some y) → w.grownBy w' v.ownBlock → (v'.ownBlock = v.ownBlock ∨ v'.ownBlock = some w.heap.size) → wpList P ops Q rest (a.put o.dst v') w') : wpList P ops Q (o :: rest) a w := by
  refine wpList_plain hgd fun K hK => ?_
  obtain ⟨v', w', xs, hr, h2, h3, h4, h5⟩ := run_cat (P := P) (t := t) h hu hone o.type ht hi hz hsize hby hzs hsz hl hb hB
  unfold Oper.wp execOp
  simp only [ho, resolve, invoke, builtin, Sem.run_bind, Sem.run_pure, Result.andThen_ok, List.map_toArray, List.map_cons, List.map_nil, hs, hy, hr]
  exact hK _ _ (k v' w' xs h2 h3 h4 h5)
end
/-- An empty slice that is just made. -/
theorem owns_empty (w : World) (e : TypeId) (sz B : Nat) (hB : B ≤ w.heap.size) : (w.alloc (.cells #[] e)).ownsRow B e sz (.slice (some ⟨w.heap.size, 0, none⟩) 0 0) 0 [] :=
  ⟨by simp, .inr ⟨w.heap.size, 0, #[], rfl, hB, box_new w _, Nat.le_refl _, by simp [maxLen], by simp, by simp⟩⟩
/-- Bytes as a list of cells. -/
def ByteRE (_ : World) (c : List Value) (x : Int) : Prop := c = [.int .u8 x]
theorem Bs.rd1 {w : World} {v : Value} {l : List Int} (h : Bs w v l) : Rd 1 ByteRE w v l := by
  obtain ⟨-, a, cap, hv, h1, h2, h3, h4⟩ := h
  refine ⟨a, cap, fun i => [.int .u8 (l.getD i 0)], hv, h1, h2, h3, fun i x hx => ⟨?_, rfl⟩, fun hp => ?_⟩
  · show [Value.int .u8 (l.getD i 0)] = _
    rw [List.getD_eq_getElem?_getD, hx]
    rfl
  · obtain ⟨b, off, ha, hb, hc⟩ := h4 hp
    refine ⟨b, off, ha, hb, fun i j y hi hy => ?_⟩
    cases j with
    | zero =>
      simp at hy
      subst hy
      have h := hc i hi
      rw [show off + i * 1 + 0 = off + i by omega]
      exact h
    | succ j => simp at hy
theorem one_byte : ∀ (w : World) (c : List Value) (x : Int), ByteRE w c x → ∀ y ∈ c, y.oneCell' = true := by
  rintro w c x rfl y hy
  simp at hy
  subst hy
  rfl
theorem one_gone : ∀ (w : World) (c : List Value) (x : GoneD), GoneRE w c x → ∀ y ∈ c, y.oneCell' = true := by
  rintro w c x ⟨rfl, -⟩ y hy
  simp at hy
  rcases hy with rfl | rfl <;> rfl
/-- What comes back, as bytes of the call's own, as a list of those that went. -/
theorem ro_of {w w0 : World} {B : Nat} {v : Value} {l : List Int} {xs : List Value} {S : Nat → Prop} (ho : Oct l) (h : w.ownsRow B 5 1 v l.length xs) (hx : ∀ i x, l[i]? = some x → ∃ c, c.length = 1 ∧ ByteRE w0 c x ∧ ∀ j y, c[j]? = some y → xs[i * 1 + j]? = some y) (hS : ∀ g, v.ownBlock = some g → S g) : RO w S v l := by
  have e : xs = vals l := by
    apply List.ext_getElem?
    intro i
    have hlen := h.1
    by_cases hi : i < l.length
    · obtain ⟨c, -, hc, hj⟩ := hx i l[i] (List.getElem?_eq_getElem hi)
      have hc' : c = [.int .u8 l[i]] := hc
      subst hc'
      have := hj 0 _ rfl
      simp only [Nat.mul_one, Nat.add_zero] at this
      rw [this]
      simp [vals, List.getElem?_eq_getElem hi]
    · rw [List.getElem?_eq_none (by omega), List.getElem?_eq_none (by simp [vals]; omega)]
  subst e
  refine ⟨ho, ⟨h.1, ?_⟩, hS⟩
  rcases h.2 with hn | ⟨g, cap, cur, hv, hg, r⟩
  · exact .inl hn
  · exact .inr ⟨g, cap, cur, hv, Nat.zero_le _, r⟩
theorem gones_of {w w0 : World} {B : Nat} {v : Value} {l : List GoneD} {xs : List Value} {S : Nat → Prop} (h : w.ownsRow B 57 2 v l.length xs) (hx : ∀ i x, l[i]? = some x → ∃ c, c.length = 2 ∧ GoneRE w0 c x ∧ ∀ j y, c[j]? = some y → xs[i * 2 + j]? = some y) (hS : ∀ g, v.ownBlock = some g → S g) : GonesO w S v l := by
  rcases h.2 with ⟨hn, hl⟩ | ⟨g, cap, cur, hv, hg, hh, h1, h2, h3, h4⟩
  · exact .inl ⟨hn, List.eq_nil_of_length_eq_zero hl⟩
  · refine .inr ⟨g, cap, cur, fun i => match l[i]? with | some x => [.int .i64 x.uid, .int .i64 x.seq] | none => [], fun _ _ => False, hv, hh, h1, h2, h3, hS g (by rw [hv]; rfl), fun i x hi => ?_, by simp, by simp⟩
    obtain ⟨c, -, ⟨hc, hi6⟩, hj⟩ := hx i x hi
    simp only [hi]
    refine ⟨⟨rfl, hi6⟩, rfl, fun j y hy => ?_⟩
    rw [← hc] at hy
    have := hj j y hy
    rw [← h4, List.getElem?_take] at this
    split at this
    · simpa using this
    · cases this

end Go.Proofs.YtmonloebkdpahaaDoor
