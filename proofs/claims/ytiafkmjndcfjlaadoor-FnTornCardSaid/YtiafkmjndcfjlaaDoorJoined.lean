/- What joined of package impl does. -/
import Derived.Test.YtiafkmjndcfjlaaDoorBase
namespace Go.Proofs.YtiafkmjndcfjlaaDoor
open Go.RowKit
set_option maxRecDepth 100000

set_option maxHeartbeats 400000 in
theorem joined_any (v u : Value) (l m : List Int) (w : World) (hv : Bs w v l) (hu : Bs w u m) (hl : l.length ≤ 4000000) (hm : m.length ≤ 4000000) :
    Calls Tryd.prog 22 #[v, u] w fun e w' => ∃ r, e = .returned r ∧ OwnB w' w.heap.size r (l ++ m) ∧ Below w.heap.size w w' := by
  have HV : Hid (Bs w v l) := hv
  have HU : Hid (Bs w u m) := hu
  obtain ⟨ho, a, cap, rfl, -⟩ := hv
  obtain ⟨ho', a', cap', rfl, -⟩ := hu
  obtain ⟨i0, hi, hz0, hz1, hz2⟩ := info_parts info5
  go_enter Tryd.func22, Tryd.ntmps22
  go_wp2_with (at_make; refine wpList_make_full _ rfl _ _ 22 rfl w.heap.size 5 i0 (.int .u8 0) 1 Tryd.underlying22 hi hz0 hz1 _ _ _ _ (l.length + m.length) rfl rfl (by omega) (by omega) (by rw [hz2]; omega) (by unfold maxLen; omega) (Nat.le_refl _) ?_)
  intro w1 hown hgrow
  have hB1 := (Below.refl w.heap.size w).grown hgrow (Nat.le_refl _) (by simp)
  have HR1 : Hid (w1.heap[w.heap.size]? = some (.cells (vals (List.replicate (l.length + m.length) 0)).toArray 5 (0, 0))) := by
    have := made_heap hown
    simpa [Hid, vals] using this
  clear hown hgrow
  go_wp2_with (refine wpList_copy_bytes rfl (.tmp 12) (.tmp 13) 22 22 rfl Tryd.underlying22 sz5 _ _ _ rfl _ l rfl (HV.out.below hB1) l.length (Nat.min_eq_left (Nat.le_add_right _ _)).symm w.heap.size 0 _ HR1.out (fun _ => rfl) (by simp) w.heap.size w hB1 (Nat.le_refl _) ?_)
  intro w2 HR2 hB2
  have hlen : (splice (List.replicate (l.length + m.length) (0 : Int)) 0 l).length = l.length + m.length := by rw [length_splice _ _ _ (by simp)]; simp
  have HL : Hid ((splice (List.replicate (l.length + m.length) (0 : Int)) 0 l).length = l.length + m.length) := hlen
  clear hlen
  have HE : Hid (splice (splice (List.replicate (l.length + m.length) (0 : Int)) 0 l) l.length m = l ++ m) := splice_two _ _ _ (by simp)
  by_cases hm0 : m = []
  · subst hm0
    go_wp2_with (refine wpList_copy_bytes rfl (.tmp 18) (.tmp 19) 22 22 rfl Tryd.underlying22 sz5 _ _ _ rfl _ [] rfl (HU.out.below hB2) 0 (Nat.min_eq_left (Nat.zero_le _)).symm w.heap.size l.length _ HR2.out (fun h => absurd h (by omega)) (by rw [HL.out]; omega) w.heap.size w hB2 (Nat.le_refl _) ?_)
    intro w3 HR3 hB3
    have HR4 : Hid (w3.heap[w.heap.size]? = some (.cells (vals (l ++ [])).toArray 5 (0, 0))) := by
      rw [← HE.out]; simpa using HR3
    clear HR3
    go_wp2
    go_ret
    have := own_made (oct_append ho ho') (by simp [maxLen]; omega) HR4.out
    exact ⟨_, rfl, ⟨_, Nat.le_refl _, by simpa using this⟩, hB3⟩
  · have hm1 : 0 < m.length := List.length_pos_iff.2 hm0
    go_wp2_with (refine wpList_copy_bytes rfl (.tmp 18) (.tmp 19) 22 22 rfl Tryd.underlying22 sz5 _ _ _ rfl _ m rfl (HU.out.below hB2) m.length (Nat.min_eq_left (by omega)).symm w.heap.size l.length _ HR2.out (fun _ => rfl) (by rw [HL.out]; omega) w.heap.size w hB2 (Nat.le_refl _) ?_)
    intro w3 HR3 hB3
    have HR4 : Hid (w3.heap[w.heap.size]? = some (.cells (vals (l ++ m)).toArray 5 (0, 0))) := by
      rw [← HE.out]; exact HR3
    clear HR3
    go_wp2
    go_ret
    have := own_made (oct_append ho ho') (by simp [maxLen]; omega) HR4.out
    exact ⟨_, rfl, ⟨_, Nat.le_refl _, by simpa using this⟩, hB3⟩

theorem joined_r (v u : Value) (l m : List Int) (w : World) (hv : Bs w v l) (hu : Bs w u m) (hl : l.length ≤ 4000000) (hm : m.length ≤ 4000000) :
    Calls Tryd.prog 22 #[v, u] w fun e w' => ∃ r, e = .returned r ∧ Row w' w.heap.size w'.heap.size r (l ++ m) ∧ Below w.heap.size w w' :=
  (joined_any v u l m w hv hu hl hm).mono fun _ _ ⟨u, h1, h2, h3⟩ => ⟨u, h1, h2.toRow, h3⟩

end Go.Proofs.YtiafkmjndcfjlaaDoor
