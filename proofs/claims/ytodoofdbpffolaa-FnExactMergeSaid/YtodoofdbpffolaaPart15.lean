/- The proof's texts, part 15. -/
import Derived.Test.YtodoofdbpffolaaPart8
import Derived.Test.YtodoofdbpffolaaPart9
import Derived.Test.YtodoofdbpffolaaPart10
import Derived.Test.YtodoofdbpffolaaPart11
import Derived.Test.YtodoofdbpffolaaPart12
import Derived.Test.YtodoofdbpffolaaPart13
import Derived.Test.YtodoofdbpffolaaPart14

/- What l3boxOk of package spec does of every box. -/
namespace Go.Proofs.Ytodoofdbpffolaa
open Go.RowKit
set_option maxRecDepth 100000

theorem l3boxOk_in (v : Value) (x : BoxD) (mv : Int) (w : World) (hv : BoxV w v x) (hX1 : nameB x.name = true) (q0 : 1 ≤ x.valid) (q1 : x.valid ≤ mv) (q2 : 1 ≤ x.next) (q3 : x.next ≤ 1000000) (q4 : 0 ≤ x.seq) (q5 : x.seq ≤ 1000000) (q6 : (x.mails.length : Int) ≤ 12) (q7 : (x.gones.length : Int) ≤ 40) (q8 : 0 ≤ x.lost) (q9 : x.lost ≤ x.seq) :
    Calls Try.prog 14 #[v, .int .i64 mv] w fun e w' => e = .returned (.bool (boxB x mv)) ∧ Below w.heap.size w w' := by
  cases h : (List.range x.mails.length).all (mailAt x) with
  | true =>
    have hA : ∀ j, j < x.mails.length → mailAt x j = true := fun j hj => List.all_eq_true.1 h j (List.mem_range.2 hj)
    cases hg : (List.range x.gones.length).all (goneAt x) with
    | true => exact l3boxOk_inH v x mv w hv hX1 q0 q1 q2 q3 q4 q5 q6 q7 q8 q9 hA (fun j hj => List.all_eq_true.1 hg j (List.mem_range.2 hj))
    | false =>
      obtain ⟨kb, _, h1, h2⟩ := first_bad hg
      cases he : earlyB x kb with
      | true =>
        have hr := clsB_range x kb
        have h5 := early_cls he
        rcases (show clsB x kb = 1 ∨ clsB x kb = 2 ∨ clsB x kb = 3 ∨ 4 ≤ clsB x kb by omega) with h | h | h | h
        · exact l3boxOk_inJc v x mv w hv hX1 q0 q1 q2 q3 q4 q5 q6 q7 q8 q9 hA hg (fun k h3 h4 => by rw [only_bad h1 h2 h3 h4]; omega)
        · exact l3boxOk_inJd v x mv w hv hX1 q0 q1 q2 q3 q4 q5 q6 q7 q8 q9 hA hg (fun k h3 h4 => by rw [only_bad h1 h2 h3 h4]; omega)
        · exact l3boxOk_inJe v x mv w hv hX1 q0 q1 q2 q3 q4 q5 q6 q7 q8 q9 hA hg (fun k h3 h4 => by rw [only_bad h1 h2 h3 h4]; omega)
        · exact l3boxOk_inJb v x mv w hv hX1 q0 q1 q2 q3 q4 q5 q6 q7 q8 q9 hA hg (fun k h3 h4 => by rw [only_bad h1 h2 h3 h4]; omega)
      | false => exact l3boxOk_inI v x mv w hv hX1 q0 q1 q2 q3 q4 q5 q6 q7 q8 q9 hA hg (fun k h3 h4 => by rw [only_bad h1 h2 h3 h4]; exact he)
  | false => exact l3boxOk_inM v x mv w hv hX1 q0 q1 q2 q3 q4 q5 q6 q7 q8 q9 h

theorem boxB_no {x : BoxD} {mv : Int} (h : ¬ (1 ≤ x.valid ∧ x.valid ≤ mv ∧ 1 ≤ x.next ∧ x.next ≤ 1000000 ∧ 0 ≤ x.seq ∧ x.seq ≤ 1000000 ∧ (x.mails.length : Int) ≤ 12 ∧ (x.gones.length : Int) ≤ 40 ∧ 0 ≤ x.lost ∧ x.lost ≤ x.seq)) : boxB x mv = false := by
  rw [Bool.eq_false_iff]
  intro e
  simp only [boxB, mailsB, gonesB, inB, Bool.and_eq_true, decide_eq_true_eq] at e
  obtain ⟨-, ⟨e1, e2⟩, ⟨e3, e4⟩, ⟨e5, e6⟩, ⟨e7, e8⟩, ⟨e9, -⟩, e10, -⟩ := e
  exact h ⟨e1, e2, e3, e4, e5, e6, by omega, by omega, e7, e8⟩

set_option maxRecDepth 100000 in
set_option maxHeartbeats 8000000 in
theorem l3boxOk_any (v : Value) (x : BoxD) (mv : Int) (w : World) (hv : BoxV w v x) :
    Calls Try.prog 14 #[v, .int .i64 mv] w fun e w' => e = .returned (.bool (boxB x mv)) ∧ Below w.heap.size w w' := by
  cases hX : nameB x.name with
  | true =>
    by_cases hC : 1 ≤ x.valid ∧ x.valid ≤ mv ∧ 1 ≤ x.next ∧ x.next ≤ 1000000 ∧ 0 ≤ x.seq ∧ x.seq ≤ 1000000 ∧ (x.mails.length : Int) ≤ 12 ∧ (x.gones.length : Int) ≤ 40 ∧ 0 ≤ x.lost ∧ x.lost ≤ x.seq
    · obtain ⟨q0, q1, q2, q3, q4, q5, q6, q7, q8, q9⟩ := hC
      exact l3boxOk_in v x mv w hv hX q0 q1 q2 q3 q4 q5 q6 q7 q8 q9
    · obtain ⟨u0, u1, u2, rfl, g0, g1, g2, -⟩ := hv
      have HX : Hid (∀ o, Below w.heap.size w (w.alloc o)) := fun o => (Below.refl _ _).alloc (Nat.le_refl _) o
      have hn : ∀ o, Calls Try.prog 36 #[u0] (w.alloc o) fun e w' => e = .returned (.bool true) ∧ w' = w.alloc o := fun o => by
        have h := l3name_any _ x.name _ (g0.below (HX.out o))
        rwa [hX] at h
      obtain ⟨a0, n0, c0, rfl⟩ := g0.form3
      obtain ⟨a1, c1, rfl, m0, m1⟩ := g1.form
      obtain ⟨a2, c2, rfl, m2, m3⟩ := g2.form
      clear g0 g1 g2 hX
      have HC : Hid (¬ (1 ≤ x.valid ∧ x.valid ≤ mv ∧ 1 ≤ x.next ∧ x.next ≤ 1000000 ∧ 0 ≤ x.seq ∧ x.seq ≤ 1000000 ∧ (x.mails.length : Int) ≤ 12 ∧ (x.gones.length : Int) ≤ 40 ∧ 0 ≤ x.lost ∧ x.lost ≤ x.seq)) := hC
      clear hC
      go_enter Try.func14, Try.ntmps14
      go_wp2_with fail
      refine (hn _).mono ?_
      rintro e w' ⟨rfl, rfl⟩
      clear hn
      go_wp2
      all_goals first
        | (go_ret; exact ⟨ret_b (boxB_no HC.out), HX.out _⟩)
        | exact (HC.out ⟨by omega, by omega, by omega, by omega, by omega, by omega, by omega, by omega, by omega, by omega⟩).elim
  | false =>
    have HZ : Hid (boxB x mv = false) := by simp [Hid, boxB, hX]
    obtain ⟨u0, u1, u2, rfl, g0, g1, g2, -⟩ := hv
    have HX : Hid (∀ o, Below w.heap.size w (w.alloc o)) := fun o => (Below.refl _ _).alloc (Nat.le_refl _) o
    have hn : ∀ o, Calls Try.prog 36 #[u0] (w.alloc o) fun e w' => e = .returned (.bool false) ∧ w' = w.alloc o := fun o => by
      have h := l3name_any _ x.name _ (g0.below (HX.out o))
      rwa [hX] at h
    obtain ⟨a0, n0, c0, rfl⟩ := g0.form3
    obtain ⟨a1, c1, rfl, m0, m1⟩ := g1.form
    obtain ⟨a2, c2, rfl, m2, m3⟩ := g2.form
    clear g0 g1 g2 hX
    go_enter Try.func14, Try.ntmps14
    go_wp2_with fail
    refine (hn _).mono ?_
    rintro e w' ⟨rfl, rfl⟩
    clear hn
    go_wp2
    go_ret
    exact ⟨ret_b HZ.out, HX.out _⟩

end Go.Proofs.Ytodoofdbpffolaa
