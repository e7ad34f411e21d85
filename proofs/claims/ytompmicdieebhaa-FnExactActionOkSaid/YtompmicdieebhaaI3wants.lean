/- What wantsOf of package impl does. -/
import Derived.Test.YtompmicdieebhaaI3all
namespace Go.Proofs.Ytompmicdieebhaa
open Go.RowKit
set_option maxRecDepth 100000

set_option maxHeartbeats 400000 in
theorem nameWanted_any (wt : Bool) (v : Value) (l : List Int) (w : World) (hv : Bs w v l) :
    Calls Try.prog 25 #[.bool wt, v] w fun e w' => e = .returned (.bool (bif wt then nameB l else decide (l.length = 0))) ∧ Below w.heap.size w w' := by
  have H : Hid (Bs w v l) := hv
  obtain ⟨ho, a, cap, rfl, hlc, hcm, -⟩ := hv
  cases wt with
  | true =>
    go_enter Try.func25, Try.ntmps25
    go_wp2_with (first | (go_at_call 27; refine (nameOk_any _ l _ H.out).mono ?_; rintro e w1 ⟨rfl, B⟩))
    go_ret
    exact ⟨ret_b rfl, B⟩
  | false =>
    by_cases h : l.length = 0
    · have h' : l = [] := List.eq_nil_of_length_eq_zero h
      subst h'
      go_enter Try.func25, Try.ntmps25
      go_wp2
      go_ret
      exact ⟨ret_b rfl, Below.refl _ _⟩
    · have h2 : (l.length : Int) ≠ 0 := by omega
      have e : Hid ((bif false then nameB l else decide (l.length = 0)) = false) := by simp [Hid]; exact fun e => h (by rw [e]; rfl)
      generalize l.length = n at h2 hlc h e
      go_enter Try.func25, Try.ntmps25
      go_wp2
      go_ret
      exact ⟨ret_b (e.out.trans (by simp [h])), Below.refl _ _⟩

/-- Which fields a kind of command has. -/
def wantsV (k : Int) : Value :=
  .agg #[.bool (!decide (k = 9)), .bool (decide (k = 6)), .int .i64 (if k = 3 ∨ k = 5 ∨ k = 6 then 1 else 0), .int .i64 (if k = 3 ∨ k = 5 ∨ k = 6 then 1000000 else 0), .int .i64 (if k = 3 then 2 else if k = 6 then 1 else 0),
    .int .i64 (if k = 2 ∨ k = 3 then 31 else 0), .int .i64 (if k = 3 ∨ k = 8 then 1000000 else 0), .int .i64 (if k = 2 then 30 else 0)]

set_option maxHeartbeats 1000000 in
theorem wantsOf_any (k : Int) (h : 0 ≤ k ∧ k ≤ 9) (w : World) :
    Calls Try.prog 24 #[.int .i64 k] w fun e w' => e = .returned (wantsV k) ∧ Below w.heap.size w w' := by
  have hk : k = 0 ∨ k = 1 ∨ k = 2 ∨ k = 3 ∨ k = 4 ∨ k = 5 ∨ k = 6 ∨ k = 7 ∨ k = 8 ∨ k = 9 := by omega
  clear h
  rcases hk with rfl | rfl | rfl | rfl | rfl | rfl | rfl | rfl | rfl | rfl
  all_goals
    go_enter Try.func24, Try.ntmps24
    go_wp2
  all_goals refine bodyPost_ret (v := wantsV _) (by simp [results, Try.results24, go_sem, wantsV]) rfl ⟨rfl, ?_⟩
  all_goals exact (Below.refl _ _).alloc (Nat.le_refl _) _

end Go.Proofs.Ytompmicdieebhaa
