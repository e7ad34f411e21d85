/- What l3parts and l3seq of package spec do. -/
import Derived.Test.YtompmicdieebhaaBase
import Derived.Test.YtompmicdieebhaaMailM
namespace Go.Proofs.Ytompmicdieebhaa
open Go.RowKit
set_option maxRecDepth 100000

set_option maxHeartbeats 400000 in
theorem l3parts_any (k : Int) (w : World) :
    Calls Try.prog 18 #[.int .i64 k] w fun e w' => e = .returned (.tuple #[.bool (toB k), .bool (uidB k), .bool (modeB k), .bool (sinceB k), .bool (textsB k)]) ∧ w' = w := by
  go_enter Try.func18, Try.ntmps18
  go_wp2
  all_goals exact bodyPost_ret (v := .tuple #[.bool (toB k), .bool (uidB k), .bool (modeB k), .bool (sinceB k), .bool (textsB k)]) (by simp [results, Try.results18, go_sem, toB, uidB, modeB, sinceB, textsB, *] <;> (simp only [beq_iff_eq, beq_eq_false_iff_ne, ne_eq] at *; omega)) rfl ⟨rfl, rfl⟩

theorem l3seq_any (n : Int) (w : World) :
    Calls Try.prog 19 #[.int .i64 n] w fun e w' => e = .returned (.bool (inB n 0 1000000)) ∧ w' = w := by
  go_enter Try.func19, Try.ntmps19
  go_wp2
  all_goals (go_ret; exact ⟨by simp [inB, *] <;> omega, rfl⟩)

end Go.Proofs.Ytompmicdieebhaa
