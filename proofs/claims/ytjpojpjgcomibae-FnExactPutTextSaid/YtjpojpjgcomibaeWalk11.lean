/- What PutText of packages spec and impl do; the law FnExactPutText. -/
import Derived.Test.YtjpojpjgcomibaeWalk7
namespace Go.Proofs.Ytjpojpjgcomibae
open Go.RowKit

/-- What PutText answers. -/
def putTL (b t : List Int) : List Int := if 30 < t.length then b else putL b t.length ++ t
theorem putTL_length (b t : List Int) : (putTL b t).length ≤ b.length + 35 := by
  unfold putTL
  have := putL_length b t.length
  split
  · omega
  · simp; omega

set_option maxHeartbeats 400000 in
theorem specPutText_r (v u : Value) (l t : List Int) (w : World) (hv : Bs w v l) (hu : Bs w u t) (hl : l.length ≤ 2000000) (ht : t.length ≤ 2000000) :
    Calls Try.prog 15 #[v, u] w fun e w' => ∃ r, e = .returned r ∧ Row w' w.heap.size w'.heap.size r (putTL l t) ∧ Below w.heap.size w w' := by
  have HV : Hid (Bs w v l) := hv
  have HU : Hid (Bs w u t) := hu
  obtain ⟨a, cap, rfl⟩ : ∃ a cap, u = .slice a t.length cap := by obtain ⟨_, a, cap, h, _⟩ := hu; exact ⟨a, cap, h⟩
  clear hv hu
  obtain ⟨i0, hi, hz0, hz1, hz2⟩ := info_parts info5
  by_cases hb : 30 < t.length
  · have hb' : (30 : Int) < (t.length : Int) := by omega
    have HP : Hid (putTL l t = l) := by simp [Hid, putTL, hb]
    have HE : Hid (OwnB (w.alloc (.cells #[] 5)) w.heap.size (.slice (some ⟨w.heap.size, 0, none⟩) 0 0) []) := ownB_empty w _ (Nat.le_refl _)
    have HB : Hid (Below w.heap.size w (w.alloc (.cells #[] 5))) := (Below.refl _ _).alloc (Nat.le_refl _) _
    go_enter Try.func15, Try.ntmps15
    go_wp2_with (at_builtin; refine wpList_append_bytes rfl (.tmp 8) (.tmp 9) 22 rfl i0 Try.underlying22 hi hz0 hz1 hz2 w.heap.size _ [] rfl HE.out v l rfl (HV.out.alloc _) (by simp; omega) (by simp) w HB.out ?_)
    intro v1 w1 hO1 hB1 _
    have HO1 : Hid (OwnB w1 w.heap.size v1 (putTL l t)) := by rw [HP.out]; simpa [Hid] using hO1
    clear hO1
    go_wp2
    go_ret
    exact ⟨_, rfl, HO1.out.toRow, hB1⟩
  · have hb' : ¬ (30 : Int) < (t.length : Int) := by omega
    have HP : Hid (putTL l t = putL l t.length ++ t) := by simp [Hid, putTL, hb]
    have hpl := putL_length l t.length
    go_enter Try.func15, Try.ntmps15
    go_wp2_with fail
    refine (specPutNum_any v l t.length _ HV.out hl (by omega) (by omega)).mono ?_
    rintro e w1 ⟨u1, rfl, O1, B1⟩
    have s1 := B1.size
    have HO : Hid (OwnB w1 w.heap.size u1 (putL l t.length)) := O1
    have HUU : Hid (Bs w1 (.slice a t.length cap) t) := HU.out.below B1
    clear O1
    go_wp2_with (at_builtin; refine wpList_append_bytes rfl (.tmp 14) (.tmp 15) 22 rfl i0 Try.underlying22 hi hz0 hz1 hz2 w.heap.size _ _ rfl HO.out _ t rfl HUU.out (by omega) s1 w B1 ?_)
    intro v2 w2 hO2 hB2 _
    have HO2 : Hid (OwnB w2 w.heap.size v2 (putTL l t)) := by rw [HP.out]; exact hO2
    clear hO2
    go_wp2
    go_ret
    exact ⟨_, rfl, HO2.out.toRow, hB2⟩

set_option maxHeartbeats 400000 in
theorem implPutText_r (v u : Value) (l t : List Int) (w : World) (hv : Bs w v l) (hu : Bs w u t) (hl : l.length ≤ 2000000) (ht : t.length ≤ 2000000) :
    Calls Try.prog 16 #[v, u] w fun e w' => ∃ r, e = .returned r ∧ Row w' w.heap.size w'.heap.size r (putTL l t) ∧ Below w.heap.size w w' := by
  have HV : Hid (Bs w v l) := hv
  have HU : Hid (Bs w u t) := hu
  obtain ⟨a, cap, rfl⟩ : ∃ a cap, u = .slice a t.length cap := by obtain ⟨_, a, cap, h, _⟩ := hu; exact ⟨a, cap, h⟩
  clear hv hu
  by_cases hb : 30 < t.length
  · have hb' : (30 : Int) < (t.length : Int) := by omega
    have HP : Hid (putTL l t = l) := by simp [Hid, putTL, hb]
    go_enter Try.func16, Try.ntmps16
    go_wp2_with fail
    refine (joined_r v _ l [] _ HV.out (bs_nil _) (by omega) (by simp)).mono ?_
    rintro e w1 ⟨r, rfl, R, B⟩
    have HR : Hid (Row w1 w.heap.size w1.heap.size r (putTL l t)) := by rw [HP.out]; simpa [Hid] using R
    clear R
    go_wp2
    go_ret
    exact ⟨_, rfl, HR.out, B⟩
  · have hb' : ¬ (30 : Int) < (t.length : Int) := by omega
    have HP : Hid (putTL l t = putL l t.length ++ t) := by simp [Hid, putTL, hb]
    have hpl := putL_length l t.length
    go_enter Try.func16, Try.ntmps16
    go_wp2_with fail
    refine (implPutNum_r v l t.length _ HV.out hl (by omega) (by omega)).mono ?_
    rintro e w1 ⟨u1, rfl, R1, B1⟩
    have HUU : Hid (Bs w1 (.slice a t.length cap) t) := HU.out.below B1
    go_wp2_with fail
    refine (joined_r u1 _ _ t _ R1.bs HUU.out (by omega) (by omega)).mono ?_
    rintro e w2 ⟨r, rfl, R, B⟩
    have HR : Hid (Row w2 w.heap.size w2.heap.size r (putTL l t)) := by rw [HP.out]; exact R.wide B1.size (Nat.le_refl _)
    have HB : Hid (Below w.heap.size w w2) := Below.step B1 B
    clear R R1 B B1
    go_wp2
    go_ret
    exact ⟨_, rfl, HR.out, HB.out⟩

end Go.Proofs.Ytjpojpjgcomibae
