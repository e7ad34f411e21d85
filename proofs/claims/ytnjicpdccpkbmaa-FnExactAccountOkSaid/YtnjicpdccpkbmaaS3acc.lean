/- What AccountOk of package spec does of every account. -/
import Derived.Test.YtnjicpdccpkbmaaS3accI
namespace Go.Proofs.Ytnjicpdccpkbmaa
open Go.RowKit

theorem accB_no {x : AccD} (h : ¬ (0 ≤ x.valid ∧ x.valid ≤ 1000000 ∧ (x.boxes.length : Int) ≤ 4 ∧ (x.seen.length : Int) ≤ 60)) : accB x = false := by
  rw [Bool.eq_false_iff]
  intro e
  simp only [accB, seenB, inB, Bool.and_eq_true, decide_eq_true_eq] at e
  exact h ⟨e.1.1, e.1.2, by have := e.2.1; omega, by have := e.2.2.1.1; omega⟩

set_option maxRecDepth 100000 in
set_option maxHeartbeats 4000000 in
theorem specAccountOk_any (v : Value) (x : AccD) (w : World) (hv : AccV w v x) :
    Calls Try.prog 12 #[v] w fun e w' => e = .returned (.bool (accB x)) ∧ Below w.heap.size w w' := by
  by_cases hC : 0 ≤ x.valid ∧ x.valid ≤ 1000000 ∧ (x.boxes.length : Int) ≤ 4 ∧ (x.seen.length : Int) ≤ 60
  · exact specAccountOk_in v x w hv hC.1 hC.2.1 hC.2.2.1 hC.2.2.2
  · obtain ⟨u0, u1, rfl, g0, g1, -⟩ := hv
    obtain ⟨a0, c0, rfl, m0, m1⟩ := g0.form
    obtain ⟨a1, c1, rfl, m2, m3⟩ := g1.form
    clear g0 g1
    have HX : Hid (∀ o, Below w.heap.size w (w.alloc o)) := fun o => (Below.refl _ _).alloc (Nat.le_refl _) o
    have HC : Hid (¬ (0 ≤ x.valid ∧ x.valid ≤ 1000000 ∧ (x.boxes.length : Int) ≤ 4 ∧ (x.seen.length : Int) ≤ 60)) := hC
    clear hC
    go_enter Try.func12, Try.ntmps12
    go_wp2
    all_goals first
      | (go_ret; exact ⟨ret_b (accB_no HC.out), HX.out _⟩)
      | exact (HC.out ⟨by omega, by omega, by omega, by omega⟩).elim

end Go.Proofs.Ytnjicpdccpkbmaa
