/- What wantsOf of package impl does. -/
import Derived.Test.YtnjicpdccpkbmaaI3all
namespace Go.Proofs.Ytnjicpdccpkbmaa
open Go.RowKit

/-- Which fields a kind of command has. -/
def wantsV (k : Int) : Value :=
  .agg #[.bool (!decide (k = 9)), .bool (decide (k = 6)), .int .i64 (if k = 3 ∨ k = 5 ∨ k = 6 then 1 else 0), .int .i64 (if k = 3 ∨ k = 5 ∨ k = 6 then 1000000 else 0), .int .i64 (if k = 3 then 2 else if k = 6 then 1 else 0),
    .int .i64 (if k = 2 ∨ k = 3 then 31 else 0), .int .i64 (if k = 3 ∨ k = 8 then 1000000 else 0), .int .i64 (if k = 2 then 30 else 0)]

set_option maxHeartbeats 1000000 in
theorem wantsOf_any (k : Int) (h : 0 ≤ k ∧ k ≤ 9) (w : World) :
    Calls Try.prog 30 #[.int .i64 k] w fun e w' => e = .returned (wantsV k) ∧ Below w.heap.size w w' := by
  have hk : k = 0 ∨ k = 1 ∨ k = 2 ∨ k = 3 ∨ k = 4 ∨ k = 5 ∨ k = 6 ∨ k = 7 ∨ k = 8 ∨ k = 9 := by omega
  clear h
  rcases hk with rfl | rfl | rfl | rfl | rfl | rfl | rfl | rfl | rfl | rfl
  all_goals
    go_enter Try.func30, Try.ntmps30
    go_wp2
  all_goals refine bodyPost_ret (v := wantsV _) (by simp [results, Try.results30, go_sem, wantsV]) rfl ⟨rfl, ?_⟩
  all_goals exact (Below.refl _ _).alloc (Nat.le_refl _) _

end Go.Proofs.Ytnjicpdccpkbmaa
