/- One step of Scan's loop in package impl: the record's copy comes behind what was found; in whatever order the step's parts are done. -/
import Derived.Test.YtiafkmjndcfjlaaDoorIVia
namespace Go.Proofs.YtiafkmjndcfjlaaDoor
open Go.RowKit Go.Shelf
attribute [local go_sem] Oper.semAt_some

theorem stepIn_append_own {F : Fence} {n : Nat} {P : Program} (w : World) {ops : Array Oper} {o : Oper} {a : Act} {K : Act → World → Prop} {Q : Exit → Act → World → Prop} {E : Prop}
    (hg : o.guard = none) (s x : Operand) (t : TypeId) (hop : o.op = Op.call { callee := Callee.builtin Builtin.append, args := #[s, x], argTypes := #[t, t] })
    (base : Nat) (e : TypeId) (i : TypeInfo) (z : Value) (size bytes : Nat) (h1 : P.underlying t = some (.slice e)) (h2 : P.info? e = some i) (h3 : i.zero = some z) (h4 : i.size = size) (h5 : i.bytes = bytes) (h6 : z.cells.size = size) (h7 : 0 < size)
    (v : Value) (k : Nat) (xs : List Value) (hs : a.eval s = v) (hown : w.ownsRow base e size v k xs) (ad : Addr) (m c : Nat) (news : List Value) (hx : a.eval x = .slice (some ad) m c) (hn : news.length = m * size)
    (hc : ∀ j u, news[j]? = some u → w.cell? (ad.add j) = some u) (h1c : ∀ u ∈ news, u.oneCell' = true) (b1 : k + m ≤ maxLen) (b2 : (k + m) * bytes ≤ 140737488355328) (b3 : base ≤ w.heap.size)
    (hK : ∀ v' w', w'.ownsRow base e size v' (k + m) (xs ++ news) → w.grownBy w' v.ownBlock → (v' = .slice none 0 0 ↔ v = .slice none 0 0 ∧ m = 0) → K (a.put o.dst v') w') :
    if Region.wanted o (yielded ops a.tmps) = true then Oper.wpIn F n P o a w K Q else E := by
  rw [if_pos (by simp [Region.wanted, hg])]
  obtain ⟨v', w', hrun, r1, r2, r3⟩ := run_append_own (P := P) w base t o.type e i z size bytes h1 h2 h3 h4 h5 h6 h7 v k xs hown ad m c news hn hc h1c b1 b2 b3
  unfold Oper.wpIn
  refine ⟨?_, ?_⟩
  · simp [Oper.about, hop, resolve, Target.leads, Sem.run_pure]
  · rw [Oper.semAt_plain F _ _ (by rw [hop]; intro c hc'; cases hc')]
    simp [execOp, hop, resolve, invoke, builtin, hs, hx, hrun, Result.andThen]
    exact hK v' w' r1 r2 r3

theorem collect_before {W w2 : World} {B0 : Nat} {v : Value} {us : List Value} {f : Nat → List Int} {r0 : Option Addr} {r1 r2 : Nat} {xr : List Int}
    (hF : RowF W B0 W.heap.size v us f) (B2 : Below W.drew.heap.size W.drew w2) (hRw : Row w2 W.drew.heap.size w2.heap.size (.slice r0 r1 r2) xr) (hsz : B0 ≤ W.heap.size) :
    (w2.alloc (.cells #[.slice r0 r1 r2] 22)).ownsRow B0 22 1 v us.length us ∧ Row w2 W.heap.size w2.heap.size (.slice r0 r1 r2) xr ∧
    (∀ (j : Nat) (u : Value), [Value.slice r0 r1 r2][j]? = some u → (w2.alloc (.cells #[.slice r0 r1 r2] 22)).cell? ((⟨w2.heap.size, 0, none⟩ : Addr).add j) = some u) ∧ (∀ u ∈ [Value.slice r0 r1 r2], u.oneCell' = true) ∧ B0 ≤ (w2.alloc (.cells #[.slice r0 r1 r2] 22)).heap.size := by
  have hb : Below W.heap.size W w2 := ⟨B2.os, B2.tape, B2.output, B2.size, B2.block⟩
  refine ⟨ownsRow_below (ownsRow_below hF.row hb) ((Below.refl _ _).alloc (Nat.le_refl _) _), hRw, ?_, ?_, ?_⟩
  · intro j u hu; cases j with
    | zero => simp at hu; subst hu; simp [Addr.add_lit]
    | succ j => simp at hu
  · intro u hu; simp at hu; subst hu; rfl
  · have := hb.size; simp; omega

/-- What a round of the loop leaves: the box, the rows, the other boxes, what is no cells, and the old blocks. -/
def Left (W w4 : World) (n₀ Fb B0 : Nat) (v' : Value) (ls : List (List Int)) : Prop :=
  Boxed w4 Fb 28 v' ∧ RowS w4 B0 w4.heap.size v' ls ∧ (∀ k t u, Boxed W k t u → t ≠ 22 → k ≠ Fb → Boxed w4 k t u) ∧ KeepsOthers W w4 ∧ Below n₀ W w4

theorem collect_behind {W w2 w3 : World} {n₀ Fb B0 : Nat} {v : Value} {us : List Value} {acc : List (List Int)} {r0 : Option Addr} {r1 r2 g' cap' : Nat} {xr : List Int}
    (hus : us.length = acc.length) (hF : RowF W B0 W.heap.size v us (fun i => acc.getD i [])) (B2 : Below W.drew.heap.size W.drew w2) (hRw : Row w2 W.drew.heap.size w2.heap.size (.slice r0 r1 r2) xr) (hv : Boxed W.drew Fb 28 v)
    (hsz : B0 ≤ W.heap.size) (hn : n₀ ≤ Fb ∧ Fb < B0)
    (hr3 : w3.ownsRow B0 22 1 (.slice (some ⟨g', 0, none⟩) (us.length + 1) cap') (us.length + 1) (us ++ [.slice r0 r1 r2])) (hg3 : (w2.alloc (.cells #[.slice r0 r1 r2] 22)).grownBy w3 v.ownBlock) :
    Boxed w3 Fb 28 v ∧ Left W (w3.setCell ⟨Fb, 0, none⟩ (.slice (some ⟨g', 0, none⟩) (us.length + 1) cap')) n₀ Fb B0 (.slice (some ⟨g', 0, none⟩) (us.length + 1) cap') (acc ++ [xr]) := by
  have hb : Below W.heap.size W w2 := ⟨B2.os, B2.tape, B2.output, B2.size, B2.block⟩
  have hbA : Below W.heap.size W (w2.alloc (.cells #[.slice r0 r1 r2] 22)) := hb.alloc (by have := hb.size; omega) _
  have hv' : Boxed W Fb 28 v := hv
  have hrow : (w2.alloc (.cells #[.slice r0 r1 r2] 22)).ownsRow B0 22 1 v us.length us := ownsRow_below (ownsRow_below hF.row hb) ((Below.refl _ _).alloc (Nat.le_refl _) _)
  have same : ∀ k, k < W.heap.size → some k ≠ v.ownBlock → w3.heap[k]? = W.heap[k]? := fun k hk hne => (hg3.block k (Nat.lt_of_lt_of_le hk hbA.size) hne).trans (hbA.block k hk)
  have hv3 : Boxed w3 Fb 28 v := (same Fb hv'.lt (hv'.not_row (by decide) hF.row)).trans hv'
  have hs3 : W.heap.size ≤ w3.heap.size := Nat.le_trans hbA.size hg3.size
  have size4 : (w3.setCell ⟨Fb, 0, none⟩ (.slice (some ⟨g', 0, none⟩) (us.length + 1) cap')).heap.size = w3.heap.size := by simp [World.setCell]
  have same4 : ∀ k, k < W.heap.size → k ≠ Fb → some k ≠ v.ownBlock → (w3.setCell ⟨Fb, 0, none⟩ (.slice (some ⟨g', 0, none⟩) (us.length + 1) cap')).heap[k]? = W.heap[k]? := fun k hk hne hne' =>
    (Below.heap_setCell _ _ _ k hne).trans (same k hk hne')
  have own : ∀ k, some k = v.ownBlock → B0 ≤ k ∧ ∃ cur, W.heap[k]? = some (.cells cur 22 (0, 0)) := fun k e => ⟨(hF.row.lt k e.symm).1, ownsRow_heap hF.row e.symm⟩
  refine ⟨hv3, hv3.set _, ?_, ?_, ?_, ?_⟩
  · have hs2 := hb.size
    have h := RowS.snoc hus (hF.below hbA) (hRw.below ((Below.refl _ _).alloc (Nat.le_refl _) _)) hs2 hsz hr3 hg3 (by have := hg3.size; simp at this; omega)
    rw [size4]
    exact h.keptW (B' := Fb) (T' := Fb + 1) (within_set1 (Within.refl _ _ _)) (by omega)
  · intro k t u hk hne hkF
    exact (same4 k hk.lt hkF (fun e => by
      obtain ⟨_, cur, hcur⟩ := own k e
      have := (show W.heap[k]? = _ from hk).symm.trans hcur
      simp at this
      exact hne this.2)).trans hk
  · refine ⟨by rw [size4]; exact hs3, fun k o hk ho => (same4 k (lt_of_heap hk) ?_ ?_).trans hk⟩
    · rintro rfl
      rw [show W.heap[k]? = _ from hv'] at hk; cases hk; cases ho
    · intro e
      obtain ⟨_, cur, hcur⟩ := own k e
      rw [hcur] at hk; cases hk; cases ho
  · refine ⟨hg3.os.trans hbA.os, hg3.tape.trans hbA.tape, hg3.output.trans hbA.output, by rw [size4]; exact hs3, fun k hk => ?_⟩
    have := hv'.lt
    exact same4 k (by omega) (by omega) (fun e => by have := (own k e).1; omega)

end Go.Proofs.YtiafkmjndcfjlaaDoor
