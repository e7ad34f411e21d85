/- Actions that may be. -/
import Derived.Test.YtompmicdieebhaaLibAct
import Derived.Test.YtompmicdieebhaaCmdZ
namespace Go.Proofs.Ytompmicdieebhaa

def actB (r : ActD) : Bool := inB r.kind 0 9 && (inB r.node 0 3 && (inB r.i 0 2147483647 && (inB r.user 0 2 && (bif decide (r.kind = 0) then cmdD r.cmd else zeroC r.cmd))))
theorem actB_in {r : ActD} (h : (0 ≤ r.kind ∧ r.kind ≤ 9) ∧ (0 ≤ r.node ∧ r.node ≤ 3) ∧ (0 ≤ r.i ∧ r.i ≤ 2147483647) ∧ (0 ≤ r.user ∧ r.user ≤ 2)) : actB r = (bif decide (r.kind = 0) then cmdD r.cmd else zeroC r.cmd) := by
  simp [actB, inB, h.1, h.2.1, h.2.2.1, h.2.2.2]
theorem actB_out {r : ActD} (h : ¬ ((0 ≤ r.kind ∧ r.kind ≤ 9) ∧ (0 ≤ r.node ∧ r.node ≤ 3) ∧ (0 ≤ r.i ∧ r.i ≤ 2147483647) ∧ (0 ≤ r.user ∧ r.user ≤ 2))) : actB r = false := by
  rw [Bool.eq_false_iff]
  intro e
  simp only [actB, inB, Bool.and_eq_true, decide_eq_true_eq] at e
  exact h ⟨e.1, e.2.1, e.2.2.1, e.2.2.2.1⟩

end Go.Proofs.Ytompmicdieebhaa
