/- The law FnExactGetNum, walked out of the contracts. -/
import Derived.Test.YtjpojpjgcomibaeWalk7
import Derived.Test.YtjpojpjgcomibaeWalk9
namespace Go.Proofs.Ytjpojpjgcomibae
open Go.RowKit

set_option maxHeartbeats 1000000 in
theorem exactGetNum_walk (v : Value) (l : List Int) (n : Int) (w : World) (hv : Bs w v l) (hn0 : -9223372036854775808 ≤ n) (hn1 : n ≤ 9223372036854775807) :
    Calls Try.prog 4 #[v, .int .i64 n] w fun e w' => e = .returned (.bool true) ∧ Below w.heap.size w w' := by
  have HV : Hid (∀ wi, Below w.heap.size w wi → Bs wi v l) := fun wi h => hv.below h
  obtain ⟨a, cap, rfl⟩ : ∃ a cap, v = .slice a l.length cap := by obtain ⟨_, a, cap, h, _⟩ := hv; exact ⟨a, cap, h⟩
  clear hv
  by_cases hl : 1048576 < l.length
  · have hl' : (1048576 : Int) < (l.length : Int) := by omega
    go_enter Try.func4, Try.ntmps4
    go_wp2
    go_ret
    exact ⟨rfl, Below.refl _ _⟩
  · have hl' : ¬ (1048576 : Int) < (l.length : Int) := by omega
    generalize hGe : getL l n = G
    have HGE : Hid (getL l n = G) := hGe
    clear hGe
    obtain ⟨x, y⟩ := G
    go_enter Try.func4, Try.ntmps4
    go_wp2_with fail
    refine (toByteS_r _ l _ (HV.out _ (Below.refl _ _)) (by omega)).mono ?_
    rintro e w1 ⟨u1, rfl, R1, X⟩
    go_wp2_with fail
    refine (specGetNum_any u1 l n _ R1.bs (by omega) hn0 hn1).mono ?_
    rintro e w2 ⟨rfl, rfl⟩
    rw [HGE.out]
    clear R1
    go_wp2_with fail
    refine (toByteS_r _ l _ (HV.out _ X) (by omega)).mono ?_
    rintro e w3 ⟨u3, rfl, R3, B⟩
    replace X := Below.step X B
    clear B
    go_wp2_with fail
    refine (implGetNum_any u3 l n _ R3.bs (by omega) hn0 hn1).mono ?_
    rintro e w4 ⟨rfl, B⟩
    rw [HGE.out]
    replace X := Below.step X B
    replace R3 := R3.below B
    clear B
    go_wp2_with fail
    refine (toByteS_r _ l _ (HV.out _ X) (by omega)).mono ?_
    rintro e w5 ⟨u5, rfl, R5, B⟩
    replace X := Below.step X B
    replace R3 := R3.below B
    clear B
    go_wp2_with fail
    refine (eqByteS_yes u3 u5 l _ R3.bs R5.bs).mono ?_
    rintro e w6 ⟨rfl, B⟩
    replace X := Below.step X B
    clear B R3 R5
    go_wp2
    go_ret
    exact ⟨rfl, X⟩

end Go.Proofs.Ytjpojpjgcomibae
