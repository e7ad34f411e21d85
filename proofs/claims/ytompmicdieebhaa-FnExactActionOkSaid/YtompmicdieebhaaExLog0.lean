/- What szByteS of package laws does. -/
import Derived.Test.YtompmicdieebhaaEx1
import Derived.Test.YtompmicdieebhaaLibLog
namespace Go.Proofs.Ytompmicdieebhaa
open Go.RowKit
set_option maxRecDepth 100000

/-- What is left of a size when n more are taken; -1: it does not suffice. -/
def szL' (left : Int) (n : Nat) : Int := if left - n < 0 then -1 else left - n

set_option maxHeartbeats 400000 in
theorem szByteS_any (v : Value) (l : List Int) (left : Int) (w : World) (hv : Bs w v l) (h0 : 0 ≤ left) (h1 : left ≤ 4000000) :
    Calls Try.prog 16 #[v, .int .i64 left] w fun e w' => e = .returned (.int .i64 (szL' left l.length)) ∧ w' = w := by
  obtain ⟨ho, a, cap, rfl, hlc, hcm, -⟩ := hv
  unfold maxLen at hcm
  by_cases hb : left - (l.length : Int) < 0
  · have HZ : Hid (szL' left l.length = -1) := by simp [Hid, szL', hb]
    go_enter Try.func16, Try.ntmps16
    go_wp2
    go_ret
    exact ⟨by rw [HZ.out]; rfl, rfl⟩
  · have HZ : Hid (szL' left l.length = left - l.length) := by simp [Hid, szL', hb]
    go_enter Try.func16, Try.ntmps16
    go_wp2
    go_ret
    exact ⟨by rw [HZ.out]; rfl, rfl⟩

theorem szL_or (left : Int) (n : Nat) : szL' left n = -1 ∨ (0 ≤ szL' left n ∧ szL' left n + n = left) := by
  unfold szL'
  split
  · exact .inl rfl
  · exact .inr ⟨by omega, by omega⟩

end Go.Proofs.Ytompmicdieebhaa
