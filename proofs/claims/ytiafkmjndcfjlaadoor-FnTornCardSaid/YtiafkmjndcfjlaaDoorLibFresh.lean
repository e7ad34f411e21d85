/- append to an empty slice that was just made ('append([]byte{}, x...)'): nothing old is written; the answer lies in that slice's block, or in a new one. -/
import Derived.Test.YtiafkmjndcfjlaaDoorLibLog
import Derived.Test.YtiafkmjndcfjlaaDoorLibStep
namespace Go.Proofs.YtiafkmjndcfjlaaDoor
open Go.RowKit

/-- The run of such an append. -/
theorem run_append_fresh {P : Program} (w : World) (t ty : TypeId) (i : TypeInfo) (ht : P.underlying t = some (.slice 5)) (hi : P.info? 5 = some i) (hz : i.zero = some (.int .u8 0)) (hsize : i.size = 1) (hby : i.bytes = 1)
    (g : Nat) (hg : w.heap[g]? = some (.cells #[] 5 (0, 0))) (u : Value) (m : List Int) (hm : Bs w u m) (hlen : m.length ≤ 140737488355328) :
    ∃ v' w' g', (Builtin.append_ #[t, t] ty #[.slice (some ⟨g, 0, none⟩) 0 0, u]).run P w = .ok v' w' ∧ Own w' g' v' m ∧ (g' = g ∨ g' = w.heap.size) ∧ g' < w'.heap.size ∧ Below w.heap.size w w' := by
  have hgl := lt_of_heap hg
  have hown : Own w g (.slice (some ⟨g, 0, none⟩) 0 0) [] := ⟨oct_nil, .inr ⟨0, #[], rfl, hg, by simp, by simp, rfl, by simp [vals]⟩⟩
  by_cases h0 : m = []
  · subst h0
    obtain ⟨_, ad, cap, hu, h1, h2, h3, h4⟩ := hm
    cases ad with
    | none =>
      have hc := h3 rfl
      subst hc
      refine ⟨_, w, g, ?_, hown, .inl rfl, hgl, Below.refl _ _⟩
      rw [hu]
      exact run_append_owned_none (P := P) w g t ty 5 i 1 ht hi _ 0 [] hown.row
    | some ad =>
      obtain ⟨w', hr, h5, h6⟩ := run_append_fits (P := P) w g t ty 5 i 1 ht hi hsize g 0 0 [] hown.row ad 0 cap [] rfl (fun j u h => by simp at h) (fun u h => by simp at h) (Nat.le_refl _)
      have hb : w'.heap[g]? = some (.cells #[] 5 (0, 0)) := by
        rcases h5.2 with ⟨h, _⟩ | ⟨g', cap', cur, h, _, hh, _, _, hcs, _⟩
        · simp at h
        · simp only [Value.slice.injEq, Option.some.injEq, Addr.mk.injEq, and_true, true_and] at h
          obtain ⟨rfl, -, rfl⟩ := h
          have : cur = #[] := Array.eq_empty_of_size_eq_zero (by simpa using hcs)
          rw [this] at hh; exact hh
      refine ⟨_, w', g, by rw [hu]; exact hr, ⟨oct_nil, .inr ⟨0, #[], rfl, hb, by simp, by simp, rfl, by simp [vals]⟩⟩, .inl rfl, lt_of_heap hb, ⟨h6.os, h6.tape, h6.output, h6.size, fun k hk => ?_⟩⟩
      by_cases hkg : k = g
      · subst hkg; exact hb.trans hg.symm
      · exact h6.block k hk (by simpa using hkg)
  · obtain ⟨hmo, ad, cap, hu, h1, h2, h3, h4⟩ := hm
    have hml : 0 < m.length := List.length_pos_iff.2 h0
    obtain ⟨b, off, rfl, _, hc⟩ := h4 hml
    have hr := run_append_grow (P := P) w t ty 5 i (.int .u8 0) ht hi hz ⟨g, 0, none⟩ 0 0 [] (by simp) (fun j u h => by simp at h) ⟨b, off, none⟩ m.length cap (vals m) (by rw [hsize, length_vals]; omega)
      (fun j u hj => by
        have hj' : j < m.length := by have := (List.getElem?_eq_some_iff.1 hj).1; simpa [length_vals] using this
        rw [Addr.add_lit, hc j hj', ← hj, vals_get m j hj']) (by omega) (by omega) (by rw [Nat.zero_add, nextslicecap_zero hml, hby]; omega)
    rw [Nat.zero_add] at hr
    have hge := grownCap_ge w m.length 0 5
    have hle := grownCap_le_maxLen w m.length 0 5 (by unfold maxLen; omega)
    refine ⟨_, _, w.heap.size, by rw [hu]; exact hr, ⟨hmo, .inr ⟨_, _, rfl, heap_alloc_new w.drew _, hge, hle, ?_, ?_⟩⟩, .inr rfl, by simp, (Below.refl _ _).drew.alloc (Nat.le_refl _) _⟩
    · simp [length_vals, size_zeroCells, Value.cells]; omega
    · simp [← length_vals]

theorem step_append_fresh {P : Program} {ops : Array Oper} {o : Oper} {a : Act} {w : World} {K : Act → World → Prop} {Q : Exit → Act → World → Prop} {E : Prop} (hgd : o.guard = none) (s x : Operand) (t : TypeId)
    (ho : o.op = .call { callee := .builtin .append, args := #[s, x], argTypes := #[t, t] })
    (i : TypeInfo) (ht : P.underlying t = some (.slice 5)) (hi : P.info? 5 = some i) (hz : i.zero = some (.int .u8 0)) (hsize : i.size = 1) (hby : i.bytes = 1)
    (g : Nat) (hs : a.eval s = .slice (some ⟨g, 0, none⟩) 0 0) (hg : w.heap[g]? = some (.cells #[] 5 (0, 0))) (u : Value) (m : List Int) (hx : a.eval x = u) (hm : Bs w u m) (hlen : m.length ≤ 140737488355328)
    (h : ∀ v' w' g', Own w' g' v' m → (g' = g ∨ g' = w.heap.size) → g' < w'.heap.size → Below w.heap.size w w' → K (a.put o.dst v') w') :
    if Region.wanted o (yielded ops a.tmps) = true then Oper.wp P o a w K Q else E := by
  have hw : Region.wanted o (yielded ops a.tmps) = true := by simp [Region.wanted, hgd]
  rw [if_pos hw]
  obtain ⟨v', w', g', hr, h1, h2, h3, h4⟩ := run_append_fresh (P := P) w t o.type i ht hi hz hsize hby g hg u m hm hlen
  unfold Oper.wp
  simp [execOp, ho, resolve, invoke, builtin, hs, hx, hr, Result.andThen]
  exact h v' w' g' h1 h2 h3 h4

end Go.Proofs.YtiafkmjndcfjlaaDoor
