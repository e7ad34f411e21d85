/- The proof's texts, part 17. -/
import Derived.Test.YtodoofdbpffolaaPart7
import Derived.Deep.MidRow

/- Regions walked in phases: a load of many cells is taken. -/
namespace Go.Proofs.Ytodoofdbpffolaa
set_option linter.unusedVariables false

theorem tksM {P : Program} {ops : Array Oper} {Q : Exit → Act → World → Prop} {S : World → Prop} {n f q : Nat} {ord cs qs : List Nat} {a a' : Act} {w : World} (p i d : Nat) {oi : Oper} (ty : TypeId) (x : Operand) (b o : Nat) (vs : List Value) {dd : TypeDesc} (T : TabS ops n ord cs qs f) (hS : S w)
    (hc : ∀ w, S w → w.rangeAt b o vs) (hu : P.underlying ty = some dd) (h : wpPh P ops Q S n ord q (p + 1) a' w)
    (hi : ops[i]? = some oi := by rfl) (ho : oi.op = .load ty x := by rfl) (hx : a.eval x = .pointer (some ⟨b, o, none⟩) := by rfl) (hd : dd.isRow = true := by rfl) (hz : (P.info? ty).map (·.size) = some vs.length := by kernel_rfl)
    (hp : (ord.take q)[p]? = some i := by rfl) (hcs : ¬ p ∈ cs := by decide) (hq : q ∈ qs := by decide)
    (hg : (oi.dst == some d && Region.wanted oi (yielded ops a.tmps)) = true := by kernel_rfl)
    (ha : setT a d (.agg vs.toArray) = a' := by (conv => lhs; dsimp only [setT, List.toList_toArray, put0, putS]))
    (hQ : ∀ c a w, Q (.panic c) (a.put (some d) (.agg vs.toArray)) w → Q (.panic c) a w := by exact fun _ _ _ h => h) : wpPh P ops Q S n ord q p a w := by
  obtain ⟨h1, h2, h3, h4, h5, h6⟩ := tabO_parts T.o
  have hp' : ord[p]? = some i := by
    rw [List.getElem?_take] at hp
    split at hp
    · exact hp
    · cases hp
  have hlt : p < n := by have := (List.getElem?_eq_some_iff.1 hp').1; omega
  simp only [Bool.and_eq_true, beq_iff_eq] at hg
  rw [← ha, ← put_setT] at h
  unfold wpPh at h ⊢
  rw [show n - p = (n - (p + 1)) + 1 by omega]
  rw [← doneA_step hp'] at h
  exact wpAnyS_first hi (List.mem_of_getElem? hp) (T.parts hq) (Region.noSelect_spec h3) (by rw [hg.1]; exact hQ) _ _ _ _ (T.closed (by omega)) (Region.free_spec hi (h4 p i hp' hcs).1) (by simpa using (h4 p i hp' hcs).2) (yieldsIf_load_mid hg.2 ty x ho b o hx vs dd hc hu hd hz) hS (by rw [hg.1]; exact h)
end Go.Proofs.Ytodoofdbpffolaa
