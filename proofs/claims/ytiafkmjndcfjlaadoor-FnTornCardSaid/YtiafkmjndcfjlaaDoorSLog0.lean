/- What LogOk of package spec does. -/
import Derived.Test.YtiafkmjndcfjlaaDoorBase
import Derived.Test.YtiafkmjndcfjlaaDoorLibLog
import Derived.Test.YtiafkmjndcfjlaaDoorLibStep
import Derived.Deep.RegionHeld3
namespace Go.Proofs.YtiafkmjndcfjlaaDoor
open Go.RowKit
set_option maxRecDepth 100000

/-- The zero log, and two boxes of logs one behind the other: what the walk asks of them. -/
theorem two_boxes (w : World) (t t' : TypeId) (c0 c1 d0 d1 : Value) :
    let W := (w.alloc (.cells #[c0, c1] t)).alloc (.cells #[d0, d1] t')
    W.cell? ⟨w.heap.size, 0, none⟩ = some c0 ∧ W.cell? ⟨w.heap.size, 1, none⟩ = some c1 ∧ W.cell? ⟨w.heap.size + 1, 0, none⟩ = some d0 ∧ W.cell? ⟨w.heap.size + 1, 1, none⟩ = some d1 ∧ W.frozen? ⟨w.heap.size + 1, 0, none⟩ = false ∧ W.frozen? ⟨w.heap.size + 1, 1, none⟩ = false ∧ Below w.heap.size w W := by
  intro W
  have h0 : W.heap[w.heap.size]? = some (.cells #[c0, c1] t) := box_alloc (box_new w _) _
  have h1 : W.heap[w.heap.size + 1]? = some (.cells #[d0, d1] t') := by
    have := box_new (w.alloc (.cells #[c0, c1] t)) (.cells #[d0, d1] t')
    rwa [show (w.alloc (.cells #[c0, c1] t)).heap.size = w.heap.size + 1 by simp] at this
  obtain ⟨a0, a1, -⟩ := box2 h0
  obtain ⟨b0, b1, z0, z1, -⟩ := box2 h1
  exact ⟨a0, a1, b0, b1, z0, z1, ((Below.refl _ _).alloc (Nat.le_refl _) _).alloc (by simp) _⟩

set_option maxHeartbeats 400000 in
theorem specLogOk_any (v : Value) (a b : List Int) (w : World) (hv : LogV w v a b) :
    Calls Tryd.prog 9 #[v] w fun e w' => e = .returned (.bool (decide (a.length + b.length ≤ 1000000))) ∧ Below w.heap.size w w' := by
  obtain ⟨v0, v1, rfl, g0, g1⟩ := hv
  obtain ⟨a0, c0, rfl⟩ := g0.form
  obtain ⟨a1, c1, rfl⟩ := g1.form
  by_cases h0 : a.length ≤ 1000000
  · have h0' : (a.length : Int) ≤ 1000000 := by omega
    by_cases h1 : a.length + b.length ≤ 1000000
    · have h1' : (b.length : Int) ≤ 1000000 - (a.length : Int) := by omega
      go_enter Tryd.func9, Tryd.ntmps9
      go_wp2
      go_ret
      exact ⟨by simp [h1], (Below.refl _ _).alloc (Nat.le_refl _) _⟩
    · have h1' : ¬ (b.length : Int) ≤ 1000000 - (a.length : Int) := by omega
      go_enter Tryd.func9, Tryd.ntmps9
      go_wp2
      go_ret
      exact ⟨by simp, (Below.refl _ _).alloc (Nat.le_refl _) _⟩
  · have h0' : ¬ (a.length : Int) ≤ 1000000 := by omega
    go_enter Tryd.func9, Tryd.ntmps9
    go_wp2
    go_ret
    exact ⟨by simp; omega, (Below.refl _ _).alloc (Nat.le_refl _) _⟩

end Go.Proofs.YtiafkmjndcfjlaaDoor
