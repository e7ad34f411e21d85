/- What PutText of package impl does. -/
import Derived.Test.YtjpojpjgcomibabIPutNum
import Derived.Test.YtjpojpjgcomibabLibText
namespace Go.Proofs.Ytjpojpjgcomibab
open Go.RowKit

set_option maxHeartbeats 400000 in
theorem implPutText_r (v u : Value) (l t : List Int) (w : World) (hv : Bs w v l) (hu : Bs w u t) (hl : l.length ≤ 2000000) (ht : t.length ≤ 2000000) :
    Calls Try.prog 8 #[v, u] w fun e w' => ∃ r, e = .returned r ∧ Row w' w.heap.size w'.heap.size r (putTL l t) ∧ Below w.heap.size w w' := by
  have HV : Hid (Bs w v l) := hv
  have HU : Hid (Bs w u t) := hu
  obtain ⟨a, cap, rfl⟩ : ∃ a cap, u = .slice a t.length cap := by obtain ⟨_, a, cap, h, _⟩ := hu; exact ⟨a, cap, h⟩
  clear hv hu
  by_cases hb : 30 < t.length
  · have hb' : (30 : Int) < (t.length : Int) := by omega
    have HP : Hid (putTL l t = l) := by simp [Hid, putTL, hb]
    go_enter Try.func8, Try.ntmps8
    go_wp2_with fail
    refine (joined_r v _ l [] _ HV.out (bs_nil _) (by omega) (by simp)).mono ?_
    rintro e w1 ⟨r, rfl, R, B⟩
    have HR : Hid (Row w1 w.heap.size w1.heap.size r (putTL l t)) := by rw [HP.out]; simpa [Hid] using R
    clear R
    go_wp2
    go_ret
    exact ⟨_, rfl, HR.out, B⟩
  · have hb' : ¬ (30 : Int) < (t.length : Int) := by omega
    have HP : Hid (putTL l t = putL l t.length ++ t) := by simp [Hid, putTL, hb]
    have hpl := putL_length l t.length
    go_enter Try.func8, Try.ntmps8
    go_wp2_with fail
    refine (implPutNum_r v l t.length _ HV.out hl (by omega) (by omega)).mono ?_
    rintro e w1 ⟨u1, rfl, R1, B1⟩
    have HUU : Hid (Bs w1 (.slice a t.length cap) t) := HU.out.below B1
    go_wp2_with fail
    refine (joined_r u1 _ _ t _ R1.bs HUU.out (by omega) (by omega)).mono ?_
    rintro e w2 ⟨r, rfl, R, B⟩
    have HR : Hid (Row w2 w.heap.size w2.heap.size r (putTL l t)) := by rw [HP.out]; exact R.wide B1.size (Nat.le_refl _)
    have HB : Hid (Below w.heap.size w w2) := Below.step B1 B
    clear R R1 B B1
    go_wp2
    go_ret
    exact ⟨_, rfl, HR.out, HB.out⟩

end Go.Proofs.Ytjpojpjgcomibab
