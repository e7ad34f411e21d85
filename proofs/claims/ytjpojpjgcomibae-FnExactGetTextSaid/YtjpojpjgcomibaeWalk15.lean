/- The law FnExactGetText, walked out of the contracts. -/
import Derived.Test.YtjpojpjgcomibaeWalk14
namespace Go.Proofs.Ytjpojpjgcomibae
open Go.RowKit

set_option maxHeartbeats 1000000 in
theorem exactGetText_walk (v : Value) (l : List Int) (n : Int) (w : World) (hv : Bs w v l) (hn0 : -9223372036854775808 ≤ n) (hn1 : n ≤ 9223372036854775807) :
    Calls Try.prog 6 #[v, .int .i64 n] w fun e w' => e = .returned (.bool true) ∧ Below w.heap.size w w' := by
  have HV : Hid (∀ wi, Below w.heap.size w wi → Bs wi v l) := fun wi h => hv.below h
  obtain ⟨a, cap, rfl⟩ : ∃ a cap, v = .slice a l.length cap := by obtain ⟨_, a, cap, h, _⟩ := hv; exact ⟨a, cap, h⟩
  clear hv
  by_cases hl : 1048576 < l.length
  · have hl' : (1048576 : Int) < (l.length : Int) := by omega
    go_enter Try.func6, Try.ntmps6
    go_wp2
    go_ret
    exact ⟨rfl, Below.refl _ _⟩
  · have hl' : ¬ (1048576 : Int) < (l.length : Int) := by omega
    have hP := getTL_length l n
    generalize hGe : getTL l n = G at hP
    have HGE : Hid (getTL l n = G) := hGe
    clear hGe
    obtain ⟨P, y⟩ := G
    simp only at hP
    go_enter Try.func6, Try.ntmps6
    go_wp2_with fail
    refine (toByteS_r _ l _ (HV.out _ (Below.refl _ _)) (by omega)).mono ?_
    rintro e w1 ⟨u1, rfl, R1, B⟩
    have X := B
    have s1 := B.size
    clear B
    go_wp2_with fail
    refine (specGetText_r u1 l n _ R1.bs (by omega) hn0 hn1).mono ?_
    rintro e w2 ⟨u2, rfl, R2, B⟩
    rw [HGE.out] at R2 ⊢
    replace X := Below.step X B
    replace R1 := R1.below B
    have s2 := B.size
    clear B
    clear R1
    go_wp2_with fail
    refine (toByteS_r _ l _ (HV.out _ X) (by omega)).mono ?_
    rintro e w3 ⟨u3, rfl, R3, B⟩
    replace X := Below.step X B
    replace R2 := R2.below B
    have s3 := B.size
    clear B
    go_wp2_with fail
    refine (implGetText_r u3 l n _ R3.bs (by omega) hn0 hn1).mono ?_
    rintro e w4 ⟨u4, rfl, R4, B⟩
    rw [HGE.out] at R4 ⊢
    replace X := Below.step X B
    replace R2 := R2.below B
    replace R3 := R3.below B
    have s4 := B.size
    clear B
    go_wp2_with fail
    refine (eqByteS_yes u4 u2 P _ R4.bs R2.bs).mono ?_
    rintro e w5 ⟨rfl, B⟩
    replace X := Below.step X B
    replace R2 := R2.below B
    replace R3 := R3.below B
    replace R4 := R4.below B
    have s5 := B.size
    clear B
    go_wp2_with fail
    refine (toByteS_r _ l _ (HV.out _ X) (by omega)).mono ?_
    rintro e w6 ⟨u5, rfl, R5, B⟩
    replace X := Below.step X B
    replace R2 := R2.below B
    replace R3 := R3.below B
    replace R4 := R4.below B
    have s6 := B.size
    clear B
    go_wp2_with fail
    refine (eqByteS_yes u3 u5 l _ R3.bs R5.bs).mono ?_
    rintro e w7 ⟨rfl, B⟩
    replace X := Below.step X B
    replace R2 := R2.below B
    replace R3 := R3.below B
    replace R4 := R4.below B
    replace R5 := R5.below B
    have s7 := B.size
    clear B
    clear R5
    go_wp2_with fail
    refine (markByteS_r _ _ u3 l 1 _ R3 (by omega) (by omega) (by omega)).mono ?_
    rintro e w8 ⟨rfl, R3', G⟩
    replace X := R3.wrote G X (by omega)
    replace R2 := R2.kept R3 G (.inl (by omega))
    replace R4 := R4.kept R3 G (.inr (by omega))
    have s8 := G.size
    clear G R3
    clear R3'
    go_wp2_with fail
    refine (eqByteS_yes u4 u2 P _ R4.bs R2.bs).mono ?_
    rintro e w9 ⟨rfl, B⟩
    replace X := Below.step X B
    replace R2 := R2.below B
    replace R4 := R4.below B
    have s9 := B.size
    clear B
    go_wp2_with fail
    refine (markByteS_r _ _ u4 P 1 _ R4 (by omega) (by omega) (by omega)).mono ?_
    rintro e w10 ⟨rfl, R4', G⟩
    replace X := R4.wrote G X (by omega)
    replace R2 := R2.kept R4 G (.inl (by omega))
    have s10 := G.size
    clear G R4
    go_wp2_with fail
    refine (heldByteS_yes u4 P.length 1 _ R4'.bs (by omega) (by omega) (by omega)).mono ?_
    rintro e w11 ⟨rfl, B⟩
    replace X := Below.step X B
    replace R2 := R2.below B
    replace R4' := R4'.below B
    have s11 := B.size
    clear B
    go_wp2_with fail
    refine (toByteS_r _ l _ (HV.out _ X) (by omega)).mono ?_
    rintro e w12 ⟨u6, rfl, R6, B⟩
    replace X := Below.step X B
    replace R2 := R2.below B
    replace R4' := R4'.below B
    have s12 := B.size
    clear B
    go_wp2_with fail
    refine (implGetText_r u6 l n _ R6.bs (by omega) hn0 hn1).mono ?_
    rintro e w13 ⟨u7, rfl, R7, B⟩
    rw [HGE.out] at R7 ⊢
    replace X := Below.step X B
    replace R2 := R2.below B
    replace R4' := R4'.below B
    replace R6 := R6.below B
    have s13 := B.size
    clear B
    clear R6
    go_wp2_with fail
    refine (eqByteS_yes u7 u2 P _ R7.bs R2.bs).mono ?_
    rintro e w14 ⟨rfl, B⟩
    replace X := Below.step X B
    replace R2 := R2.below B
    replace R4' := R4'.below B
    replace R7 := R7.below B
    have s14 := B.size
    clear B
    clear R7 R2
    go_wp2_with fail
    refine (heldByteS_yes u4 P.length 1 _ R4'.bs (by omega) (by omega) (by omega)).mono ?_
    rintro e w15 ⟨rfl, B⟩
    replace X := Below.step X B
    replace R4' := R4'.below B
    have s15 := B.size
    clear B
    clear R4'
    go_wp2
    go_ret
    exact ⟨rfl, X⟩

end Go.Proofs.Ytjpojpjgcomibae
