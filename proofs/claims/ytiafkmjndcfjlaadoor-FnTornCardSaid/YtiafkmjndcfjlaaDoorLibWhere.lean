/- append of bytes, and where the answer lies: in the old block, or in a new one. -/
import Derived.Test.YtiafkmjndcfjlaaDoorLibRow
import Derived.ArgAppend
import Derived.OwnWalk
namespace Go.Proofs.YtiafkmjndcfjlaaDoor
open Go.RowKit

theorem wpList_append_where {P : Program} {w : World} {ops : Array Oper} {rest : List Oper} {o : Oper} {a : Act} {Q : Exit → Act → World → Prop} (hgd : o.guard = none) (s x : Operand) (t : TypeId)
    (ho : o.op = .call { callee := .builtin .append, args := #[s, x], argTypes := #[t, t] })
    (i : TypeInfo) (ht : P.underlying t = some (.slice 5)) (hi : P.info? 5 = some i) (hz : i.zero = some (.int .u8 0)) (hsize : i.size = 1) (hby : i.bytes = 1)
    (B : Nat) (v : Value) (l : List Int) (hs : a.eval s = v) (hown : OwnB w B v l) (u : Value) (m : List Int) (hx : a.eval x = u) (hm : Bs w u m)
    (hlen : l.length + m.length ≤ 140737488355328) (hbase : B ≤ w.heap.size)
    (h : ∀ v' w', OwnB w' B v' (l ++ m) → w.grownBy w' v.ownBlock → (v'.ownBlock = v.ownBlock ∨ ∀ k, v'.ownBlock = some k → w.heap.size ≤ k) → wpList P ops Q rest (a.put o.dst v') w') : wpList P ops Q (o :: rest) a w := by
  obtain ⟨hmo, ad, cap, hu, h1, h2, h3, h4⟩ := hm
  have hr := hown.row
  have back : ∀ {w' : World} {v' : Value}, w'.ownsRow B 5 1 v' (l.length + m.length) (vals l ++ vals m) → OwnB w' B v' (l ++ m) := fun hw => by
    obtain ⟨g, hgB, hg'⟩ := own_of_row (n := l.length + m.length) (oct_append hown.oct hmo) (by simp) (by rw [vals_append]; exact hw)
    exact ⟨g, hgB, hg'⟩
  cases ad with
  | none =>
    have : cap = 0 := h3 rfl
    subst this
    have : m = [] := List.eq_nil_of_length_eq_zero (by omega)
    subst this
    refine wpList_append_own_none hgd s x t ho B 5 i 1 ht hi v l.length (vals l) hs hr (by rw [hx, hu]; rfl) ?_
    exact h v w (by simpa using hown) (World.grownBy.refl _ _) (.inl rfl)
  | some ad =>
    have hl : l.length + m.length ≤ maxLen := by unfold maxLen; omega
    have hc : ∀ j y, (vals m)[j]? = some y → w.cell? (ad.add j) = some y := by
      intro j y hy
      have hj : j < m.length := by have := (List.getElem?_eq_some_iff.1 hy).1; simpa [length_vals] using this
      obtain ⟨b, off, had, _, hc⟩ := h4 (by omega)
      cases had
      rw [Addr.add_lit, hc j hj, ← hy, vals_get m j hj]
    rcases hr.2 with ⟨hv, hn⟩ | ⟨g, cp, cur, hv, hgB, hh, hnc, hcm, hcs, htk⟩
    · have hl0 : l = [] := List.eq_nil_of_length_eq_zero hn
      subst hl0; subst hv
      refine wpList_append_own w hgd s x t ho w.heap.size 5 i (.int .u8 0) 1 1 ht hi hz hsize hby rfl (by omega) (.slice none 0 0) 0 [] hs (World.ownsRow_nil _ _ _ _) ad m.length cap (vals m) (by rw [hx, hu]) (by simp [length_vals]) hc (oneCell_vals m) (by simpa using hl) (by simpa using hlen) (Nat.le_refl _) ?_
      intro v' w' hown' hg _
      refine h v' w' (back ?_) hg (.inr fun k hk => (hown'.lt k hk).1)
      simpa [vals] using ownsRow_base hown' hbase
    · subst hv
      by_cases hroom : l.length + m.length ≤ cp
      · refine wpList_append_fits w hgd s x t ho B 5 i 1 ht hi hsize g l.length cp (vals l) hs hr ad m.length cap (vals m) (by rw [hx, hu]) (by simp [length_vals]) hc (oneCell_vals m) hroom ?_
        intro w' hown' hg
        exact h _ w' (back hown') hg (.inl rfl)
      · refine wpList_append_grows w hgd s x t ho 5 i (.int .u8 0) 1 1 ht hi hz hsize hby rfl (by omega) (some ⟨g, 0, none⟩) l.length cp (vals l) hs (fun h => by cases h) (by simp [length_vals]) ?_ ad m.length cap (vals m) (by rw [hx, hu]) (by simp [length_vals]) hc (oneCell_vals m) (by omega) hl (by omega) ?_
        · intro b hb j y hy
          obtain rfl : (⟨g, 0, none⟩ : Addr) = b := by simpa using hb
          exact hr.cells (g := g) rfl j y hy
        · intro v' w' hown' hg
          refine h v' w' (back (ownsRow_base hown' hbase)) ⟨hg.os, hg.tape, hg.output, hg.size, fun k hk _ => hg.block k hk (by simp)⟩ (.inr fun k hk => (hown'.lt k hk).1)
where
  ownsRow_base {w' : World} {B B' n : Nat} {e : TypeId} {v' : Value} {xs : List Value} (h : w'.ownsRow B e 1 v' n xs) (hB : B' ≤ B) : w'.ownsRow B' e 1 v' n xs := by
    refine ⟨h.1, ?_⟩
    rcases h.2 with hn | ⟨g, cap, cur, hv, hg, r⟩
    · exact .inl hn
    · exact .inr ⟨g, cap, cur, hv, Nat.le_trans hB hg, r⟩

end Go.Proofs.YtiafkmjndcfjlaaDoor
