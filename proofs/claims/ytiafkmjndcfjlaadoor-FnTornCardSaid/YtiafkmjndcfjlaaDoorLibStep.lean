/- append of bytes as one step of a region that draws its order. -/
import Derived.Test.YtiafkmjndcfjlaaDoorLibApp
import Derived.Deep.RegionLaw
namespace Go.Proofs.YtiafkmjndcfjlaaDoor
open Go.RowKit

theorem step_append_bytes {P : Program} {ops : Array Oper} {o : Oper} {a : Act} {w : World} {K : Act → World → Prop} {Q : Exit → Act → World → Prop} {E : Prop} (hgd : o.guard = none) (s x : Operand) (t : TypeId)
    (ho : o.op = .call { callee := .builtin .append, args := #[s, x], argTypes := #[t, t] })
    (i : TypeInfo) (ht : P.underlying t = some (.slice 5)) (hi : P.info? 5 = some i) (hz : i.zero = some (.int .u8 0)) (hsize : i.size = 1) (hby : i.bytes = 1)
    (B : Nat) (v : Value) (l : List Int) (hs : a.eval s = v) (hown : OwnB w B v l) (u : Value) (m : List Int) (hx : a.eval x = u) (hm : Bs w u m)
    (hlen : l.length + m.length ≤ 140737488355328) (hbase : B ≤ w.heap.size) (w0 : World) (hb : Below B w0 w)
    (h : ∀ v' w', OwnB w' B v' (l ++ m) → Below B w0 w' → w.grownBy w' v.ownBlock → K (a.put o.dst v') w') :
    if Region.wanted o (yielded ops a.tmps) = true then Oper.wp P o a w K Q else E := by
  have hw : Region.wanted o (yielded ops a.tmps) = true := by simp [Region.wanted, hgd]
  rw [if_pos hw]
  obtain ⟨hmo, ad, cap, hu, h1, h2, h3, h4⟩ := hm
  have hr := hown.row
  cases ad with
  | none =>
    have : cap = 0 := h3 rfl
    subst this
    have : m = [] := List.eq_nil_of_length_eq_zero (by omega)
    subst this
    have hx' : a.eval x = .slice none 0 0 := by rw [hx, hu]; rfl
    have hrun := run_append_owned_none (P := P) (w := w) B t o.type 5 i 1 ht hi v l.length (vals l) hr
    unfold Oper.wp
    simp [execOp, ho, resolve, invoke, builtin, hs, hx', hrun, Result.andThen]
    exact h v w (by simpa using hown) hb (World.grownBy.refl _ _)
  | some ad =>
    have hl : l.length + m.length ≤ maxLen := by unfold maxLen; omega
    refine wp_append_own w s x t ho B 5 i (.int .u8 0) 1 1 ht hi hz hsize hby rfl (by omega) v l.length (vals l) hs hr ad m.length cap (vals m) (by rw [hx, hu]) (by simp [length_vals]) ?_ (oneCell_vals m) hl (by omega) hbase ?_
    · intro j y hy
      have hj : j < m.length := by have := (List.getElem?_eq_some_iff.1 hy).1; simpa [length_vals] using this
      obtain ⟨b, off, had, _, hc⟩ := h4 (by omega)
      cases had
      rw [Addr.add_lit, hc j hj, ← hy, vals_get m j hj]
    · intro v' w' hown' hg _
      obtain ⟨g, hgB, hg'⟩ := own_of_row (n := l.length + m.length) (oct_append hown.oct hmo) (by simp) (by rw [vals_append]; exact hown')
      exact h v' w' ⟨g, hgB, hg'⟩ (hb.grown hg hbase (fun k hk => (hr.lt k hk).1)) hg

end Go.Proofs.YtiafkmjndcfjlaaDoor
