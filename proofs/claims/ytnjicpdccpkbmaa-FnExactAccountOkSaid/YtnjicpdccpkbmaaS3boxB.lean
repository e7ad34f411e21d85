/- What l3boxOk of package spec does of every box. -/
import Derived.Test.YtnjicpdccpkbmaaS3box
namespace Go.Proofs.Ytnjicpdccpkbmaa
open Go.RowKit

theorem boxB_no {x : BoxD} {mv : Int} (h : ¬ (1 ≤ x.valid ∧ x.valid ≤ mv ∧ 1 ≤ x.next ∧ x.next ≤ 1000000 ∧ 0 ≤ x.seq ∧ x.seq ≤ 1000000 ∧ (x.mails.length : Int) ≤ 12 ∧ (x.gones.length : Int) ≤ 40 ∧ 0 ≤ x.lost ∧ x.lost ≤ x.seq)) : boxB x mv = false := by
  rw [Bool.eq_false_iff]
  intro e
  simp only [boxB, mailsB, gonesB, inB, Bool.and_eq_true, decide_eq_true_eq] at e
  obtain ⟨-, ⟨e1, e2⟩, ⟨e3, e4⟩, ⟨e5, e6⟩, ⟨e7, e8⟩, ⟨e9, -⟩, e10, -⟩ := e
  exact h ⟨e1, e2, e3, e4, e5, e6, by omega, by omega, e7, e8⟩

set_option maxRecDepth 100000 in
set_option maxHeartbeats 8000000 in
theorem l3boxOk_any (v : Value) (x : BoxD) (mv : Int) (w : World) (hv : BoxV w v x) :
    Calls Try.prog 36 #[v, .int .i64 mv] w fun e w' => e = .returned (.bool (boxB x mv)) ∧ Below w.heap.size w w' := by
  cases hX : nameB x.name with
  | true =>
    by_cases hC : 1 ≤ x.valid ∧ x.valid ≤ mv ∧ 1 ≤ x.next ∧ x.next ≤ 1000000 ∧ 0 ≤ x.seq ∧ x.seq ≤ 1000000 ∧ (x.mails.length : Int) ≤ 12 ∧ (x.gones.length : Int) ≤ 40 ∧ 0 ≤ x.lost ∧ x.lost ≤ x.seq
    · obtain ⟨q0, q1, q2, q3, q4, q5, q6, q7, q8, q9⟩ := hC
      exact l3boxOk_in v x mv w hv hX q0 q1 q2 q3 q4 q5 q6 q7 q8 q9
    · obtain ⟨u0, u1, u2, rfl, g0, g1, g2, -⟩ := hv
      have HX : Hid (∀ o, Below w.heap.size w (w.alloc o)) := fun o => (Below.refl _ _).alloc (Nat.le_refl _) o
      have hn : ∀ o, Calls Try.prog 24 #[u0] (w.alloc o) fun e w' => e = .returned (.bool true) ∧ w' = w.alloc o := fun o => by
        have h := l3name_any _ x.name _ (g0.below (HX.out o))
        rwa [hX] at h
      obtain ⟨a0, n0, c0, rfl⟩ := g0.form3
      obtain ⟨a1, c1, rfl, m0, m1⟩ := g1.form
      obtain ⟨a2, c2, rfl, m2, m3⟩ := g2.form
      clear g0 g1 g2 hX
      have HC : Hid (¬ (1 ≤ x.valid ∧ x.valid ≤ mv ∧ 1 ≤ x.next ∧ x.next ≤ 1000000 ∧ 0 ≤ x.seq ∧ x.seq ≤ 1000000 ∧ (x.mails.length : Int) ≤ 12 ∧ (x.gones.length : Int) ≤ 40 ∧ 0 ≤ x.lost ∧ x.lost ≤ x.seq)) := hC
      clear hC
      go_enter Try.func36, Try.ntmps36
      go_wp2_with fail
      refine (hn _).mono ?_
      rintro e w' ⟨rfl, rfl⟩
      clear hn
      go_wp2
      all_goals first
        | (go_ret; exact ⟨ret_b (boxB_no HC.out), HX.out _⟩)
        | exact (HC.out ⟨by omega, by omega, by omega, by omega, by omega, by omega, by omega, by omega, by omega, by omega⟩).elim
  | false =>
    have HZ : Hid (boxB x mv = false) := by simp [Hid, boxB, hX]
    obtain ⟨u0, u1, u2, rfl, g0, g1, g2, -⟩ := hv
    have HX : Hid (∀ o, Below w.heap.size w (w.alloc o)) := fun o => (Below.refl _ _).alloc (Nat.le_refl _) o
    have hn : ∀ o, Calls Try.prog 24 #[u0] (w.alloc o) fun e w' => e = .returned (.bool false) ∧ w' = w.alloc o := fun o => by
      have h := l3name_any _ x.name _ (g0.below (HX.out o))
      rwa [hX] at h
    obtain ⟨a0, n0, c0, rfl⟩ := g0.form3
    obtain ⟨a1, c1, rfl, m0, m1⟩ := g1.form
    obtain ⟨a2, c2, rfl, m2, m3⟩ := g2.form
    clear g0 g1 g2 hX
    go_enter Try.func36, Try.ntmps36
    go_wp2_with fail
    refine (hn _).mono ?_
    rintro e w' ⟨rfl, rfl⟩
    clear hn
    go_wp2
    go_ret
    exact ⟨ret_b HZ.out, HX.out _⟩

end Go.Proofs.Ytnjicpdccpkbmaa
