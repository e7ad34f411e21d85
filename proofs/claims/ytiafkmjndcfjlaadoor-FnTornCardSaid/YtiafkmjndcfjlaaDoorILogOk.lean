/- What LogOk of package impl does. -/
import Derived.Test.YtiafkmjndcfjlaaDoorBase
import Derived.Test.YtiafkmjndcfjlaaDoorLibLog
import Derived.Test.YtiafkmjndcfjlaaDoorLibStep
import Derived.Deep.RegionHeld3
namespace Go.Proofs.YtiafkmjndcfjlaaDoor
open Go.RowKit
set_option maxRecDepth 100000

set_option maxHeartbeats 400000 in
theorem implLogOk_any (v : Value) (a b : List Int) (w : World) (hv : LogV w v a b) (ha : a.length ≤ 8000000) (hb : b.length ≤ 8000000) :
    Calls Tryd.prog 10 #[v] w fun e w' => e = .returned (.bool (decide (a.length + b.length ≤ 1000000))) ∧ Below w.heap.size w w' := by
  obtain ⟨v0, v1, rfl, g0, g1⟩ := hv
  obtain ⟨a0, c0, rfl⟩ := g0.form
  obtain ⟨a1, c1, rfl⟩ := g1.form
  clear g0 g1
  have hs0 : (-9223372036854775808 : Int) ≤ (a.length : Int) + (b.length : Int) := by omega
  have hs1 : (a.length : Int) + (b.length : Int) ≤ 9223372036854775807 := by omega
  by_cases h1 : a.length + b.length ≤ 1000000
  · have h1' : (a.length : Int) + (b.length : Int) ≤ 1000000 := by omega
    go_enter Tryd.func10, Tryd.ntmps10
    go_wp2
    go_ret
    exact ⟨by simp [h1], (Below.refl _ _).alloc (Nat.le_refl _) _⟩
  · have h1' : ¬ (a.length : Int) + (b.length : Int) ≤ 1000000 := by omega
    go_enter Tryd.func10, Tryd.ntmps10
    go_wp2
    go_ret
    exact ⟨by simp, (Below.refl _ _).alloc (Nat.le_refl _) _⟩

end Go.Proofs.YtiafkmjndcfjlaaDoor
