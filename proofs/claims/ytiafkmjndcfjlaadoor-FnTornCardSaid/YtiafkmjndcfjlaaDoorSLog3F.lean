/- What l2own and l2frame of package spec do. -/
import Derived.Test.YtiafkmjndcfjlaaDoorSLog0
import Derived.Test.YtiafkmjndcfjlaaDoorLibFresh
import Derived.Test.YtiafkmjndcfjlaaDoorSPutNum
namespace Go.Proofs.YtiafkmjndcfjlaaDoor
open Go.RowKit
set_option maxRecDepth 100000

set_option maxHeartbeats 400000 in
theorem l2frame_r (v : Value) (r : List Int) (w : World) (hv : Bs w v r) (hr : r.length ≤ 2000000) :
    Calls Tryd.prog 28 #[v] w fun e w' => ∃ u, e = .returned u ∧ Row w' w.heap.size w'.heap.size u (putL [] r.length ++ r) ∧ Below w.heap.size w w' := by
  obtain ⟨i0, hi, hz0, hz1, hz2⟩ := info_parts info5
  have HV : Hid (Bs w v r) := hv
  obtain ⟨x0, y0, rfl⟩ := hv.form
  clear hv
  have hpl := putL_length [] r.length
  go_enter Tryd.func28, Tryd.ntmps28
  go_wp2_with fail
  refine (specPutNum_any _ [] r.length _ (bs_nil _) (by simp) (by omega) (by omega)).mono ?_
  rintro e w1 ⟨u1, rfl, O1, B1⟩
  have s1 := B1.size
  have HO : Hid (OwnB w1 w.heap.size u1 (putL [] r.length)) := O1
  have HVV : Hid (Bs w1 (.slice x0 r.length y0) r) := HV.out.below B1
  clear O1
  go_wp2_with (at_builtin; refine wpList_append_bytes rfl (.tmp 5) (.tmp 6) 22 rfl i0 Tryd.underlying22 hi hz0 hz1 hz2 w.heap.size _ _ rfl HO.out _ r rfl HVV.out (by simp at hpl; omega) s1 w B1 ?_)
  intro v2 w2 hO2 hB2 _
  have HO2 : Hid (Row w2 w.heap.size w2.heap.size v2 (putL [] r.length ++ r)) := hO2.toRow
  clear hO2
  go_wp2
  go_ret
  exact ⟨_, rfl, HO2.out, hB2⟩

end Go.Proofs.YtiafkmjndcfjlaaDoor
