/- The law FnExactPutText, walked out of the contracts. -/
import Derived.Test.YtjpojpjgcomibaeWalk11
namespace Go.Proofs.Ytjpojpjgcomibae
open Go.RowKit

set_option maxHeartbeats 1000000 in
theorem exactPutText_walk (v : Value) (l : List Int) (u : Value) (t : List Int) (w : World) (hv : Bs w v l) (hu : Bs w u t) :
    Calls Try.prog 5 #[v, u] w fun e w' => e = .returned (.bool true) ∧ Below w.heap.size w w' := by
  have HV : Hid (∀ wi, Below w.heap.size w wi → Bs wi v l) := fun wi h => hv.below h
  have HU : Hid (∀ wi, Below w.heap.size w wi → Bs wi u t) := fun wi h => hu.below h
  obtain ⟨a, cap, rfl⟩ : ∃ a cap, v = .slice a l.length cap := by obtain ⟨_, a, cap, h, _⟩ := hv; exact ⟨a, cap, h⟩
  obtain ⟨a', cap', rfl⟩ : ∃ a cap, u = .slice a t.length cap := by obtain ⟨_, a, cap, h, _⟩ := hu; exact ⟨a, cap, h⟩
  clear hv hu
  by_cases hl : 1048576 < l.length
  · have hl' : (1048576 : Int) < (l.length : Int) := by omega
    go_enter Try.func5, Try.ntmps5
    go_wp2
    go_ret
    exact ⟨rfl, Below.refl _ _⟩
  by_cases ht : 1048576 < t.length
  · have hl' : ¬ (1048576 : Int) < (l.length : Int) := by omega
    have ht' : (1048576 : Int) < (t.length : Int) := by omega
    go_enter Try.func5, Try.ntmps5
    go_wp2
    go_ret
    exact ⟨rfl, Below.refl _ _⟩
  · have hl' : ¬ (1048576 : Int) < (l.length : Int) := by omega
    have ht' : ¬ (1048576 : Int) < (t.length : Int) := by omega
    have hP := putTL_length l t
    generalize hPe : putTL l t = P at hP
    have HPE : Hid (putTL l t = P) := hPe
    clear hPe
    have hP1 : P.length ≤ 1048620 := by omega
    clear hP
    go_enter Try.func5, Try.ntmps5
    go_wp2_with fail
    refine (toByteS_r _ l _ (HV.out _ (Below.refl _ _)) (by omega)).mono ?_
    rintro e w1 ⟨u1, rfl, R1, B⟩
    have X := B
    have s1 := B.size
    clear B
    go_wp2_with fail
    refine (toByteS_r _ t _ (HU.out _ X) (by omega)).mono ?_
    rintro e w2 ⟨u2, rfl, R2, B⟩
    replace X := Below.step X B
    replace R1 := R1.below B
    have s2 := B.size
    clear B
    go_wp2_with fail
    refine (specPutText_r u1 u2 l t _ R1.bs R2.bs (by omega) (by omega)).mono ?_
    rintro e w3 ⟨u3, rfl, R3, B⟩
    rw [HPE.out] at R3
    replace X := Below.step X B
    replace R1 := R1.below B
    replace R2 := R2.below B
    have s3 := B.size
    clear B
    clear R1 R2
    go_wp2_with fail
    refine (toByteS_r _ l _ (HV.out _ X) (by omega)).mono ?_
    rintro e w4 ⟨u4, rfl, R4, B⟩
    replace X := Below.step X B
    replace R3 := R3.below B
    have s4 := B.size
    clear B
    go_wp2_with fail
    refine (toByteS_r _ t _ (HU.out _ X) (by omega)).mono ?_
    rintro e w5 ⟨u5, rfl, R5, B⟩
    replace X := Below.step X B
    replace R3 := R3.below B
    replace R4 := R4.below B
    have s5 := B.size
    clear B
    go_wp2_with fail
    refine (implPutText_r u4 u5 l t _ R4.bs R5.bs (by omega) (by omega)).mono ?_
    rintro e w6 ⟨u6, rfl, R6, B⟩
    rw [HPE.out] at R6
    replace X := Below.step X B
    replace R3 := R3.below B
    replace R4 := R4.below B
    replace R5 := R5.below B
    have s6 := B.size
    clear B
    go_wp2_with fail
    refine (eqByteS_yes u6 u3 P _ R6.bs R3.bs).mono ?_
    rintro e w7 ⟨rfl, B⟩
    replace X := Below.step X B
    replace R3 := R3.below B
    replace R4 := R4.below B
    replace R5 := R5.below B
    replace R6 := R6.below B
    have s7 := B.size
    clear B
    go_wp2_with fail
    refine (toByteS_r _ l _ (HV.out _ X) (by omega)).mono ?_
    rintro e w8 ⟨u7, rfl, R7, B⟩
    replace X := Below.step X B
    replace R3 := R3.below B
    replace R4 := R4.below B
    replace R5 := R5.below B
    replace R6 := R6.below B
    have s8 := B.size
    clear B
    go_wp2_with fail
    refine (eqByteS_yes u4 u7 l _ R4.bs R7.bs).mono ?_
    rintro e w9 ⟨rfl, B⟩
    replace X := Below.step X B
    replace R3 := R3.below B
    replace R4 := R4.below B
    replace R5 := R5.below B
    replace R6 := R6.below B
    replace R7 := R7.below B
    have s9 := B.size
    clear B
    clear R7
    go_wp2_with fail
    refine (toByteS_r _ t _ (HU.out _ X) (by omega)).mono ?_
    rintro e w10 ⟨u8, rfl, R8, B⟩
    replace X := Below.step X B
    replace R3 := R3.below B
    replace R4 := R4.below B
    replace R5 := R5.below B
    replace R6 := R6.below B
    have s10 := B.size
    clear B
    go_wp2_with fail
    refine (eqByteS_yes u5 u8 t _ R5.bs R8.bs).mono ?_
    rintro e w11 ⟨rfl, B⟩
    replace X := Below.step X B
    replace R3 := R3.below B
    replace R4 := R4.below B
    replace R5 := R5.below B
    replace R6 := R6.below B
    replace R8 := R8.below B
    have s11 := B.size
    clear B
    clear R8
    go_wp2_with fail
    refine (markByteS_r _ _ u4 l 1 _ R4 (by omega) (by omega) (by omega)).mono ?_
    rintro e w12 ⟨rfl, R4', G⟩
    replace X := R4.wrote G X (by omega)
    replace R3 := R3.kept R4 G (.inl (by omega))
    replace R5 := R5.kept R4 G (.inr (by omega))
    replace R6 := R6.kept R4 G (.inr (by omega))
    have s12 := G.size
    clear G R4
    go_wp2_with fail
    refine (markByteS_r _ _ u5 t (1 + l.length) _ R5 (by omega) (by omega) (by omega)).mono ?_
    rintro e w13 ⟨rfl, R5', G⟩
    replace X := R5.wrote G X (by omega)
    replace R3 := R3.kept R5 G (.inl (by omega))
    replace R6 := R6.kept R5 G (.inr (by omega))
    replace R4' := R4'.kept R5 G (.inl (by omega))
    have s13 := G.size
    clear G R5
    clear R4' R5'
    go_wp2_with fail
    refine (eqByteS_yes u6 u3 P _ R6.bs R3.bs).mono ?_
    rintro e w14 ⟨rfl, B⟩
    replace X := Below.step X B
    replace R3 := R3.below B
    replace R6 := R6.below B
    have s14 := B.size
    clear B
    go_wp2_with fail
    refine (markByteS_r _ _ u6 P 1 _ R6 (by omega) (by omega) (by omega)).mono ?_
    rintro e w15 ⟨rfl, R6', G⟩
    replace X := R6.wrote G X (by omega)
    replace R3 := R3.kept R6 G (.inl (by omega))
    have s15 := G.size
    clear G R6
    go_wp2_with fail
    refine (heldByteS_yes u6 P.length 1 _ R6'.bs (by omega) (by omega) (by omega)).mono ?_
    rintro e w16 ⟨rfl, B⟩
    replace X := Below.step X B
    replace R3 := R3.below B
    replace R6' := R6'.below B
    have s16 := B.size
    clear B
    go_wp2_with fail
    refine (toByteS_r _ l _ (HV.out _ X) (by omega)).mono ?_
    rintro e w17 ⟨u9, rfl, R9, B⟩
    replace X := Below.step X B
    replace R3 := R3.below B
    replace R6' := R6'.below B
    have s17 := B.size
    clear B
    go_wp2_with fail
    refine (toByteS_r _ t _ (HU.out _ X) (by omega)).mono ?_
    rintro e w18 ⟨u10, rfl, R10, B⟩
    replace X := Below.step X B
    replace R3 := R3.below B
    replace R6' := R6'.below B
    replace R9 := R9.below B
    have s18 := B.size
    clear B
    go_wp2_with fail
    refine (implPutText_r u9 u10 l t _ R9.bs R10.bs (by omega) (by omega)).mono ?_
    rintro e w19 ⟨u11, rfl, R11, B⟩
    rw [HPE.out] at R11
    replace X := Below.step X B
    replace R3 := R3.below B
    replace R6' := R6'.below B
    replace R9 := R9.below B
    replace R10 := R10.below B
    have s19 := B.size
    clear B
    clear R9 R10
    go_wp2_with fail
    refine (eqByteS_yes u11 u3 P _ R11.bs R3.bs).mono ?_
    rintro e w20 ⟨rfl, B⟩
    replace X := Below.step X B
    replace R3 := R3.below B
    replace R6' := R6'.below B
    replace R11 := R11.below B
    have s20 := B.size
    clear B
    clear R11 R3
    go_wp2_with fail
    refine (heldByteS_yes u6 P.length 1 _ R6'.bs (by omega) (by omega) (by omega)).mono ?_
    rintro e w21 ⟨rfl, B⟩
    replace X := Below.step X B
    replace R6' := R6'.below B
    have s21 := B.size
    clear B
    clear R6'
    go_wp2
    go_ret
    exact ⟨rfl, X⟩

end Go.Proofs.Ytjpojpjgcomibae
