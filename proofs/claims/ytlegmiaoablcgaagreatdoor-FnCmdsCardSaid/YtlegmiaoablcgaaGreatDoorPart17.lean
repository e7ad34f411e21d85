/- The proof's texts, part 17. -/
import Derived.Test.YtlegmiaoablcgaaGreatDoorPart8
import Derived.Test.YtlegmiaoablcgaaGreatDoorPart12
import Derived.Test.YtlegmiaoablcgaaGreatDoorPart13
import Derived.Test.YtlegmiaoablcgaaGreatDoorPart16
import Derived.Test.YtlegmiaoablcgaaGreatDoorRows
import Derived.Test.YtlegmiaoablcgaaGreatDoorPart2
import Derived.ProofKit
import Derived.OpenShut
import Derived.ShutString
import Derived.ChangeOld
import Derived.ChangeSame
import Derived.ChangeVars
import Derived.JoinedOf
import Derived.RowKit
import Derived.RowKitTokens
import Derived.LaidLaws
import Derived.LaidHandle
import Derived.Stop.Joined
import Derived.Stop.LaidErr
import Derived.Lib.LaidTab
import Derived.WalkSmall

/- The law FnCmds, walked out of the contracts. -/
namespace Go.Proofs.YtlegmiaoablcgaaGreatDoor
open Go.RowKit
set_option maxRecDepth 100000
set_option linter.unusedVariables false
set_option linter.unusedSimpArgs false

set_option maxRecDepth 100000 in
set_option maxHeartbeats 8000000 in
theorem cmds_walk (v : Value) (L : List Int) (ea : Addr) (w : World) (hv : Bs w v L) (hE : Gave w ea) (ht : Tab10 w) (he : Errs w) :
    Calls Tryz.prog 3 #[v] w fun e w' => e = .returned (.bool true) ∧ Below w.heap.size w w' := by
  obtain ⟨i0, hi, hz0, hz1, hz2⟩ := info_parts info5
  have HV : Hid (∀ wi, Below w.heap.size w wi → Bs wi v L) := fun wi h => hv.below h
  have HE : Hid (∀ wi, Below w.heap.size w wi → Gave wi ea ∧ Tab10 wi ∧ Errs wi) := fun wi h => ⟨hE.below h, Lib.tabBelow_of_tabIs ht _ h, he.below h⟩
  obtain ⟨va, cap, rfl⟩ := hv.form
  clear hv hE ht he
  go_enter Tryz.func3, Tryz.ntmps3
  go_wp2_with fail
  refine (drawCmdText_any _ L w (HV.out _ (Below.refl _ _))).mono ?_
  rintro e w1 ⟨u, rfl, ⟨⟨k, bx, tt, uid, mode, fl, si, tx⟩, hc⟩, B⟩
  dsimp only at hc
  have HC := hidm hc
  obtain ⟨v0, v1, v2, rfl, b0, b1, b2, -⟩ := hc
  obtain ⟨pa0, pn0, pc0, rfl⟩ := b0.form3
  obtain ⟨pa1, pn1, pc1, rfl⟩ := b1.form3
  obtain ⟨pa2, pn2, pc2, rfl⟩ := b2.form3
  have AB : Below w1.heap.size w1 (w1.alloc (.cells #[.int .i64 k, .slice pa0 pn0 pc0, .slice pa1 pn1 pc1, .int .i64 uid, .int .i64 mode, .int .i64 fl, .int .i64 si, .slice pa2 pn2 pc2] 24)) := (Below.refl _ _).alloc (Nat.le_refl _) _
  have X2 := hidm (Below.step B AB)
  have K2 := hidm (box_new w1 (.cells #[.int .i64 k, .slice pa0 pn0 pc0, .slice pa1 pn1 pc1, .int .i64 uid, .int .i64 mode, .int .i64 fl, .int .i64 si, .slice pa2 pn2 pc2] 24))
  have HC2 := hidm (HC.out.below AB)
  clear HC b0 b1 b2 B AB
  go_upto_region 2 with fail
  generalize w1.alloc (.cells #[.int .i64 k, .slice pa0 pn0 pc0, .slice pa1 pn1 pc1, .int .i64 uid, .int .i64 mode, .int .i64 fl, .int .i64 si, .slice pa2 pn2 pc2] 24) = w2 at X2 K2 HC2 ⊢
  obtain ⟨c0, c1, c2, c3, c4, c5, c6, c7, lA⟩ := box8l K2.out
  go_wp2_with fail
  clear c0 c1 c2 c3 c4 c5 c6 c7 lA
  refine (implCmdText_r _ k bx tt uid mode fl si tx _ HC2.out (HE.out _ X2.out).2.1).mono ?_
  rintro e w3 ⟨x1, rfl, R1, B⟩
  have hok : (cmdB k bx tt uid mode fl si tx = true → readM (ctB k bx tt uid mode fl si tx) = (⟨k, bx, tt, uid, mode, fl, si, tx⟩, 0, 0) ∧ (ctB k bx tt uid mode fl si tx).length ≤ 120) := fun h => ⟨read_ct h, ct_len h⟩
  have HO := hidm hok
  have HT3 := hidm R1.bs
  obtain ⟨ya0, yn0, yc0, rfl⟩ := R1.bs.form3
  have X3 := hidm (Below.step X2.out B)
  have K3 := hidm (box_below B K2.out)
  have HC3 := hidm (HC2.out.below B)
  clear hok R1 B X2 K2 HC2
  obtain ⟨Y, hY⟩ : ∃ Y, Y = cmdB k bx tt uid mode fl si tx := ⟨_, rfl⟩
  rw [← hY]
  obtain ⟨c0, c1, c2, c3, c4, c5, c6, c7, lA⟩ := box8l K3.out
  go_wp2_with fail
  clear c0 c1 c2 c3 c4 c5 c6 c7 lA
  refine (specCmdOk_any _ k bx tt uid mode fl si tx _ HC3.out).mono ?_
  rintro e w4 ⟨rfl, B⟩
  rw [← hY]
  have X4 := hidm (Below.step X3.out B)
  have K4 := hidm (box_below B K3.out)
  have HC4 := hidm (HC3.out.below B)
  have HT4 := hidm (HT3.out.below B)
  clear B X3 K3 HC3 HT3
  have hYY : (Y != Y) = false := by simp
  obtain ⟨c0, c1, c2, c3, c4, c5, c6, c7, lA⟩ := box8l K4.out
  go_wp2_with fail
  clear c0 c1 c2 c3 c4 c5 c6 c7 lA
  refine (implCmdOk_any _ k bx tt uid mode fl si tx _ HC4.out).mono ?_
  rintro e w5 ⟨rfl, B⟩
  rw [← hY]
  have X5 := hidm (Below.step X4.out B)
  have HT5 := hidm (HT4.out.below B)
  clear B X4 K4 HC4 HT4
  have HY := hidm hY
  clear hY
  cases Y
  · go_upto_region 10 with fail
    go_wp2_with fail
    refine (drawCmdRead_any _ L _ (HV.out _ X5.out)).mono ?_
    rintro e w6 ⟨an, m, rfl, hBm, hml, hnew, B⟩
    obtain ⟨aa, ac, rfl⟩ := hBm.form
    have X6 := hidm (Below.step X5.out B)
    have HM := hidm hBm
    clear hBm hnew B X5
    go_wp2_with fail
    refine (implCmdRead_r _ m ea _ HM.out (HE.out _ X6.out).1 (HE.out _ X6.out).2.1 (HE.out _ X6.out).2.2 (by omega)).mono ?_
    rintro e w7 ⟨u, rfl, RA, B⟩
    have hrg := (read_rng HM.out.1).1
    have hall := read_all m
    generalize hR : readM m = R at RA hrg hall ⊢
    obtain ⟨⟨k', bx', tt', uid', mode', fl', si', tx'⟩, P, Q⟩ := R
    simp only [CmK] at RA hrg hall
    have HRG := hidm hrg
    obtain ⟨qa0, qn0, qc0, qa1, qn1, qc1, qa2, qn2, qc2, hfp⟩ := RA.form
    subst hfp
    dsimp only
    have AB : Below w7.heap.size w7 (w7.alloc (.cells #[.int .i64 k', .slice qa0 qn0 qc0, .slice qa1 qn1 qc1, .int .i64 uid', .int .i64 mode', .int .i64 fl', .int .i64 si', .slice qa2 qn2 qc2] 24)) := (Below.refl _ _).alloc (Nat.le_refl _) _
    have X8 := hidm (Below.step (Below.step X6.out B) AB)
    have KA := hidm (box_new w7 (.cells #[.int .i64 k', .slice qa0 qn0 qc0, .slice qa1 qn1 qc1, .int .i64 uid', .int .i64 mode', .int .i64 fl', .int .i64 si', .slice qa2 qn2 qc2] 24))
    have HC := hidm ((RA.below AB).toV HRG.out)
    clear RA B AB hrg hR HM
    go_upto_region 12 with fail
    generalize w7.alloc (.cells #[.int .i64 k', .slice qa0 qn0 qc0, .slice qa1 qn1 qc1, .int .i64 uid', .int .i64 mode', .int .i64 fl', .int .i64 si', .slice qa2 qn2 qc2] 24) = w8 at X8 KA HC ⊢
    rcases hall with ⟨hP, hcm⟩ | ⟨hP, h3, hq0, hq1⟩
    rotate_left
    · have hPn : (P != 0) = true := by simp [hP]
      go_wp2
      go_ret
      exact ⟨by simp [hq0, hq1, h3], X8.out⟩
    subst hP
    have HRC := hidm (read_ct hcm)
    have HRL := hidm (ct_len hcm)
    have HCM := hidm hcm
    clear hcm
    obtain ⟨c0, c1, c2, c3, c4, c5, c6, c7, lA⟩ := box8l KA.out
    go_wp2_with fail
    clear c0 c1 c2 c3 c4 c5 c6 c7 lA
    refine (implCmdText_r _ k' bx' tt' uid' mode' fl' si' tx' _ HC.out (HE.out _ X8.out).2.1).mono ?_
    rintro e w9 ⟨x1, rfl, R1, B⟩
    rw [HCM.out]
    have HT := hidm R1.bs
    have HL := hidm HRL.out
    obtain ⟨TT, hTT⟩ : ∃ TT, TT = ctB k' bx' tt' uid' mode' fl' si' tx' := ⟨_, rfl⟩
    rw [← hTT] at HT HRC HRL
    have HTT := hidm hTT
    obtain ⟨za0, zc0, rfl⟩ := HT.out.form
    have X9 := hidm (Below.step X8.out B)
    have htl : TT.length ≤ 120 := HRL.out
    clear R1 B X8 KA HC HL hTT
    go_wp2_with fail
    refine (implCmdRead_r _ TT ea _ HT.out (HE.out _ X9.out).1 (HE.out _ X9.out).2.1 (HE.out _ X9.out).2.2 (by omega)).mono ?_
    rintro e w10 ⟨u, rfl, RB, B⟩
    rw [HRC.out] at RB
    rw [HRC.out]
    simp only at RB
    obtain ⟨ra0, rn0, rc0, ra1, rn1, rc1, ra2, rn2, rc2, hfp⟩ := RB.form
    subst hfp
    dsimp only
    have AB : Below w10.heap.size w10 (w10.alloc (.cells #[.int .i64 k', .slice ra0 rn0 rc0, .slice ra1 rn1 rc1, .int .i64 uid', .int .i64 mode', .int .i64 fl', .int .i64 si', .slice ra2 rn2 rc2] 24)) := (Below.refl _ _).alloc (Nat.le_refl _) _
    have X11 := hidm (Below.step (Below.step X9.out B) AB)
    have KB := hidm (box_new w10 (.cells #[.int .i64 k', .slice ra0 rn0 rc0, .slice ra1 rn1 rc1, .int .i64 uid', .int .i64 mode', .int .i64 fl', .int .i64 si', .slice ra2 rn2 rc2] 24))
    have HC := hidm ((RB.below AB).toV HRG.out)
    have HT6 := hidm ((HT.out.below B).below AB)
    clear RB B AB X9 HT
    go_upto_region 16 with fail
    generalize w10.alloc (.cells #[.int .i64 k', .slice ra0 rn0 rc0, .slice ra1 rn1 rc1, .int .i64 uid', .int .i64 mode', .int .i64 fl', .int .i64 si', .slice ra2 rn2 rc2] 24) = w11 at X11 KB HC HT6 ⊢
    obtain ⟨c0, c1, c2, c3, c4, c5, c6, c7, lA⟩ := box8l KB.out
    go_wp2_with fail
    clear c0 c1 c2 c3 c4 c5 c6 c7 lA
    refine (specCmdText_r _ k' bx' tt' uid' mode' fl' si' tx' _ HC.out).mono ?_
    rintro e w12 ⟨x2, rfl, T2, -, B⟩
    rw [HCM.out]
    rw [← HTT.out] at T2
    have HT7 := hidm (HT6.out.below B)
    have HU7 := hidm T2
    obtain ⟨ta0, tc0, rfl⟩ := HU7.out.form
    have X12 := hidm (Below.step X11.out B)
    clear T2 B X11 KB HC HT6
    go_wp2_with fail
    refine (sameBytes_yes _ _ TT _ HT7.out HU7.out).mono ?_
    rintro e w13 ⟨rfl, B⟩
    have X13 := hidm (Below.step X12.out B)
    go_wp2
    go_ret
    exact ⟨rfl, X13.out⟩
  · obtain ⟨HRC, HRL⟩ := HO.out HY.out.symm
    have HCT := hidm HRC
    have HLL := hidm HRL
    clear HRC HRL HO
    obtain ⟨S, hS⟩ : ∃ S, S = ctB k bx tt uid mode fl si tx := ⟨_, rfl⟩
    have HS := hidm hS
    rw [← hS] at HCT HLL HT5
    have hsl : S.length ≤ 120 := HLL.out
    clear hS
    obtain ⟨xa, xc, hx⟩ := HT5.out.form
    simp only [Value.slice.injEq] at hx
    obtain ⟨rfl, rfl, rfl⟩ := hx
    have HRG : Hid (RngC ⟨k, bx, tt, uid, mode, fl, si, tx⟩) := by
      have h := (read_rng HT5.out.1).1
      rw [HCT.out] at h
      exact h
    go_wp2_with fail
    refine (implCmdRead_r _ S ea _ HT5.out (HE.out _ X5.out).1 (HE.out _ X5.out).2.1 (HE.out _ X5.out).2.2 (by omega)).mono ?_
    rintro e w6 ⟨u, rfl, RB, B⟩
    rw [HCT.out] at RB
    rw [HCT.out]
    simp only at RB
    obtain ⟨sa0, sn0, sc0, sa1, sn1, sc1, sa2, sn2, sc2, hfp⟩ := RB.form
    subst hfp
    dsimp only
    have AB : Below w6.heap.size w6 (w6.alloc (.cells #[.int .i64 k, .slice sa0 sn0 sc0, .slice sa1 sn1 sc1, .int .i64 uid, .int .i64 mode, .int .i64 fl, .int .i64 si, .slice sa2 sn2 sc2] 24)) := (Below.refl _ _).alloc (Nat.le_refl _) _
    have X7 := hidm (Below.step (Below.step X5.out B) AB)
    have KB := hidm (box_new w6 (.cells #[.int .i64 k, .slice sa0 sn0 sc0, .slice sa1 sn1 sc1, .int .i64 uid, .int .i64 mode, .int .i64 fl, .int .i64 si, .slice sa2 sn2 sc2] 24))
    have HC := hidm ((RB.below AB).toV HRG.out)
    have HT7 := hidm ((HT5.out.below B).below AB)
    clear RB B AB X5 HT5
    go_upto_region 7 with fail
    generalize w6.alloc (.cells #[.int .i64 k, .slice sa0 sn0 sc0, .slice sa1 sn1 sc1, .int .i64 uid, .int .i64 mode, .int .i64 fl, .int .i64 si, .slice sa2 sn2 sc2] 24) = w7 at X7 KB HC HT7 ⊢
    obtain ⟨c0, c1, c2, c3, c4, c5, c6, c7, lA⟩ := box8l KB.out
    go_wp2_with fail
    clear c0 c1 c2 c3 c4 c5 c6 c7 lA
    refine (specCmdText_r _ k bx tt uid mode fl si tx _ HC.out).mono ?_
    rintro e w8 ⟨x2, rfl, T2, -, B⟩
    rw [← HY.out]
    rw [← HS.out] at T2
    have HT8 := hidm (HT7.out.below B)
    have HU8 := hidm T2
    obtain ⟨ta0, tc0, rfl⟩ := HU8.out.form
    have X8 := hidm (Below.step X7.out B)
    clear T2 B X7 KB HC HT7
    go_wp2_with fail
    refine (sameBytes_yes _ _ S _ HT8.out HU8.out).mono ?_
    rintro e w9 ⟨rfl, B⟩
    have X9 := hidm (Below.step X8.out B)
    clear B X8 HT8 HU8
    have hgt : ¬ ((120 : Int) < (S.length : Int)) := by omega
    go_upto_region 10 with fail
    go_wp2_with fail
    refine (drawCmdRead_any _ L _ (HV.out _ X9.out)).mono ?_
    rintro e w10 ⟨an, m, rfl, hBm, hml, hnew, B⟩
    obtain ⟨aa, ac, rfl⟩ := hBm.form
    have X10 := hidm (Below.step X9.out B)
    have HM := hidm hBm
    clear hBm hnew B X9
    go_wp2_with fail
    refine (implCmdRead_r _ m ea _ HM.out (HE.out _ X10.out).1 (HE.out _ X10.out).2.1 (HE.out _ X10.out).2.2 (by omega)).mono ?_
    rintro e w11 ⟨u, rfl, RA, B⟩
    have hrg := (read_rng HM.out.1).1
    have hall := read_all m
    generalize hR : readM m = R at RA hrg hall ⊢
    obtain ⟨⟨k', bx', tt', uid', mode', fl', si', tx'⟩, P, Q⟩ := R
    simp only [CmK] at RA hrg hall
    have HRG := hidm hrg
    obtain ⟨qa0, qn0, qc0, qa1, qn1, qc1, qa2, qn2, qc2, hfp⟩ := RA.form
    subst hfp
    dsimp only
    have AB : Below w11.heap.size w11 (w11.alloc (.cells #[.int .i64 k', .slice qa0 qn0 qc0, .slice qa1 qn1 qc1, .int .i64 uid', .int .i64 mode', .int .i64 fl', .int .i64 si', .slice qa2 qn2 qc2] 24)) := (Below.refl _ _).alloc (Nat.le_refl _) _
    have X12 := hidm (Below.step (Below.step X10.out B) AB)
    have KA := hidm (box_new w11 (.cells #[.int .i64 k', .slice qa0 qn0 qc0, .slice qa1 qn1 qc1, .int .i64 uid', .int .i64 mode', .int .i64 fl', .int .i64 si', .slice qa2 qn2 qc2] 24))
    have HC := hidm ((RA.below AB).toV HRG.out)
    clear RA B AB hrg hR HM
    go_upto_region 12 with fail
    generalize w11.alloc (.cells #[.int .i64 k', .slice qa0 qn0 qc0, .slice qa1 qn1 qc1, .int .i64 uid', .int .i64 mode', .int .i64 fl', .int .i64 si', .slice qa2 qn2 qc2] 24) = w12 at X12 KA HC ⊢
    rcases hall with ⟨hP, hcm⟩ | ⟨hP, h3, hq0, hq1⟩
    rotate_left
    · have hPn : (P != 0) = true := by simp [hP]
      go_wp2
      go_ret
      exact ⟨by simp [hq0, hq1, h3], X12.out⟩
    subst hP
    have HRC := hidm (read_ct hcm)
    have HRL := hidm (ct_len hcm)
    have HCM := hidm hcm
    clear hcm
    obtain ⟨c0, c1, c2, c3, c4, c5, c6, c7, lA⟩ := box8l KA.out
    go_wp2_with fail
    clear c0 c1 c2 c3 c4 c5 c6 c7 lA
    refine (implCmdText_r _ k' bx' tt' uid' mode' fl' si' tx' _ HC.out (HE.out _ X12.out).2.1).mono ?_
    rintro e w13 ⟨x1, rfl, R1, B⟩
    rw [HCM.out]
    have HT := hidm R1.bs
    have HL := hidm HRL.out
    obtain ⟨TT, hTT⟩ : ∃ TT, TT = ctB k' bx' tt' uid' mode' fl' si' tx' := ⟨_, rfl⟩
    rw [← hTT] at HT HRC HRL
    have HTT := hidm hTT
    obtain ⟨za0, zc0, rfl⟩ := HT.out.form
    have X13 := hidm (Below.step X12.out B)
    have htl : TT.length ≤ 120 := HRL.out
    clear R1 B X12 KA HC HL hTT
    go_wp2_with fail
    refine (implCmdRead_r _ TT ea _ HT.out (HE.out _ X13.out).1 (HE.out _ X13.out).2.1 (HE.out _ X13.out).2.2 (by omega)).mono ?_
    rintro e w14 ⟨u, rfl, RB, B⟩
    rw [HRC.out] at RB
    rw [HRC.out]
    simp only at RB
    obtain ⟨ra0, rn0, rc0, ra1, rn1, rc1, ra2, rn2, rc2, hfp⟩ := RB.form
    subst hfp
    dsimp only
    have AB : Below w14.heap.size w14 (w14.alloc (.cells #[.int .i64 k', .slice ra0 rn0 rc0, .slice ra1 rn1 rc1, .int .i64 uid', .int .i64 mode', .int .i64 fl', .int .i64 si', .slice ra2 rn2 rc2] 24)) := (Below.refl _ _).alloc (Nat.le_refl _) _
    have X15 := hidm (Below.step (Below.step X13.out B) AB)
    have KB := hidm (box_new w14 (.cells #[.int .i64 k', .slice ra0 rn0 rc0, .slice ra1 rn1 rc1, .int .i64 uid', .int .i64 mode', .int .i64 fl', .int .i64 si', .slice ra2 rn2 rc2] 24))
    have HC := hidm ((RB.below AB).toV HRG.out)
    have HT6 := hidm ((HT.out.below B).below AB)
    clear RB B AB X13 HT
    go_upto_region 16 with fail
    generalize w14.alloc (.cells #[.int .i64 k', .slice ra0 rn0 rc0, .slice ra1 rn1 rc1, .int .i64 uid', .int .i64 mode', .int .i64 fl', .int .i64 si', .slice ra2 rn2 rc2] 24) = w15 at X15 KB HC HT6 ⊢
    obtain ⟨c0, c1, c2, c3, c4, c5, c6, c7, lA⟩ := box8l KB.out
    go_wp2_with fail
    clear c0 c1 c2 c3 c4 c5 c6 c7 lA
    refine (specCmdText_r _ k' bx' tt' uid' mode' fl' si' tx' _ HC.out).mono ?_
    rintro e w16 ⟨x2, rfl, T2, -, B⟩
    rw [HCM.out]
    rw [← HTT.out] at T2
    have HT7 := hidm (HT6.out.below B)
    have HU7 := hidm T2
    obtain ⟨ta0, tc0, rfl⟩ := HU7.out.form
    have X16 := hidm (Below.step X15.out B)
    clear T2 B X15 KB HC HT6
    go_wp2_with fail
    refine (sameBytes_yes _ _ TT _ HT7.out HU7.out).mono ?_
    rintro e w17 ⟨rfl, B⟩
    have X17 := hidm (Below.step X16.out B)
    go_wp2
    go_ret
    exact ⟨rfl, X17.out⟩

end Go.Proofs.YtlegmiaoablcgaaGreatDoor

/- From what a row reads of an argument to what the walks ask: a slice of bytes that came in. -/
namespace Go.Proofs.YtlegmiaoablcgaaGreatDoor
open Go.ChangeShapes Go.WideShapes Go.ChangeAt Go.RowKit

theorem ownKnob_none : ownKnob Tryz.prog.godebug = none := by kernel_rfl
theorem laidOut : laidOutB Tryz.prog = true := by kernel_rfl

theorem wf_byte {n : Int} (h : (Lit.int .u8 n).wf = true) : 0 ≤ n ∧ n ≤ 255 := bounds_u8 h
theorem wf_int {n : Int} (h : (Lit.int .i64 n).wf = true) : -9223372036854775808 ≤ n ∧ n ≤ 9223372036854775807 := bounds_i64 h

/-- A slice of bytes that came in, as the walks want it. -/
theorem open_bytes {H : Type} {enc : TypeId × Value → H} {W : World} {base : Nat} {a : Option Addr} {len cap : Nat} {d : DataW H} {p : List MemPlace}
    (h : DataW.Trod enc Tryz.prog W base (fun _ => true) true 22 (.slice a len cap) d p) : ∃ l, Bs W (.slice a len cap) l := by
  obtain ⟨fuel, hf⟩ := h
  rcases open_ints Tryz.underlying22 Tryz.underlying5 (by kernel_rfl) hf with ⟨hcs, _⟩ | ⟨x, l, c, zs, hcs, _, hl, hm, hz, _, hcell, hwz⟩
  · simp [Value.cells] at hcs
    obtain ⟨rfl, rfl, rfl⟩ := hcs
    exact ⟨[], oct_nil, none, 0, rfl, by simp, by simp, fun _ => rfl, fun h => absurd h (by simp)⟩
  · simp [Value.cells] at hcs
    obtain ⟨rfl, rfl, rfl⟩ := hcs
    simp at hz
    have ht : (zs.take len).length = len := by simp; omega
    refine ⟨zs.take len, fun x hx => wf_byte (hwz x (List.mem_of_mem_take hx)), some x, cap, by rw [ht], by omega, hm, (fun h => by cases h), fun hp => ?_⟩
    rw [ht] at hp
    obtain ⟨b, off, spot⟩ := x
    have h0 := hcell 0 (by omega)
    have hspot : spot = none := by simpa [Addr.add] using World.cell?_spot h0
    subst hspot
    refine ⟨b, off, rfl, ?_, fun i hi => ?_⟩
    · have := World.block_lt_of_cell? W _ h0
      simpa [Addr.add] using this
    · rw [ht] at hi
      have := hcell i (by omega)
      rw [Addr.add_lit] at this
      rw [this]
      simp [hi]

end Go.Proofs.YtlegmiaoablcgaaGreatDoor

/- What the laid variables give a walk (the errors of impl and strconv, strconv's tables); a world that meets them. -/
namespace Go.Proofs.YtlegmiaoablcgaaGreatDoor
open Go.ChangeShapes Go.WideShapes Go.ChangeAt Go.RowKit Go.Stop

theorem gN : Tryz.prog.globalNamed "loop.example/g00359/impl.errGaveUp" = some 0 := by kernel_rfl
theorem gNType : (Tryz.prog.globals[0]?).map (·.type) = some 89 := by kernel_rfl
theorem gR : Tryz.prog.globalNamed "strconv.ErrRange" = some 5 := by kernel_rfl
theorem gRType : (Tryz.prog.globals[5]?).map (·.type) = some 89 := by kernel_rfl
theorem gS : Tryz.prog.globalNamed "strconv.ErrSyntax" = some 4 := by kernel_rfl
theorem gSType : (Tryz.prog.globals[4]?).map (·.type) = some 89 := by kernel_rfl
theorem gP : Tryz.prog.globalNamed "internal/strconv.uint64pow10" = some 1 := by kernel_rfl
theorem gPType : (Tryz.prog.globals[1]?).map (·.type) = some 105 := by kernel_rfl
theorem cellsE : Tryz.prog.cellsOf 130 = 1 := by kernel_rfl
theorem cellsS : Tryz.prog.cellsOf 9 = 1 := by kernel_rfl
theorem starE : "*" ++ "errors.errorString" = "*errors.errorString" := by decide
theorem rowE (u : TypeId) (h : Tryz.prog.typeName? 3 u = some "*errors.errorString") : u = 128 :=
  typeName_ptr_named (nm := "errors.errorString") (by rw [starE]; kernel_rfl) (by kernel_rfl) (by decide) u (by rw [starE]; exact h)

abbrev laidL : List (String × DataW Unit) := [("math/bits.deBruijn32tab", Rows.laid_math_bits_deBruijn32tab), ("math/bits.deBruijn64tab", Rows.laid_math_bits_deBruijn64tab), ("internal/strconv.uint64pow10", Rows.laid_internal_strconv_uint64pow10), ("strconv.ErrRange", Rows.laid_strconv_ErrRange), ("strconv.ErrSyntax", Rows.laid_strconv_ErrSyntax), ("loop.example/g00359/impl.errGaveUp", Rows.laid_loop_example_g00359_impl_errGaveUp)]
theorem sent_of_laid {W : World} (h : laidMetH Tryz.prog laidL W) : ∃ ea, W.var? Tryz.prog "loop.example/g00359/impl.errGaveUp" = some #[.iface 128 (.pointer (some ea))] ∧ Gave W ea := by
  have h' : laidMet Tryz.prog laidL W := h
  obtain ⟨ea, s, hv, -⟩ := laid_sentinel h'.tail.tail.tail.tail.tail gN gNType Tryz.underlying89 rowE Tryz.underlying128 Tryz.underlying130 rfl rfl Tryz.underlying9 cellsE cellsS
  exact ⟨ea, hv, by simpa [Gave] using World.var?_cell gN hv 0⟩
theorem errs_of_laid {W : World} (h : laidMetH Tryz.prog laidL W) : Errs W := by
  have h' : laidMet Tryz.prog laidL W := h
  obtain ⟨ea, s, hv, -⟩ := laid_sentinel h'.tail.tail.tail gR gRType Tryz.underlying89 rowE Tryz.underlying128 Tryz.underlying130 rfl rfl Tryz.underlying9 cellsE cellsS
  obtain ⟨eb, s', hv', -⟩ := laid_sentinel h'.tail.tail.tail.tail gS gSType Tryz.underlying89 rowE Tryz.underlying128 Tryz.underlying130 rfl rfl Tryz.underlying9 cellsE cellsS
  exact ⟨⟨_, _, by simpa using World.var?_cell gS hv' 0⟩, _, _, by simpa using World.var?_cell gR hv 0⟩
theorem tab_of_laid {W : World} (h : laidMetH Tryz.prog laidL W) : Tab10 W := by
  have h' : laidMet Tryz.prog laidL W := h
  have h2 : laidMet Tryz.prog (("internal/strconv.uint64pow10", Lib.tabData .u64 Lib.pow10Tab) :: [("strconv.ErrRange", Rows.laid_strconv_ErrRange), ("strconv.ErrSyntax", Rows.laid_strconv_ErrSyntax), ("loop.example/g00359/impl.errGaveUp", Rows.laid_loop_example_g00359_impl_errGaveUp)]) W := h'.tail.tail
  exact Lib.tabIs_of_head gP gPType Tryz.underlying105 Tryz.underlying97 (by kernel_rfl) (by kernel_rfl) h2

def dataCells : DataW Unit → Array Value
  | .agg l => (l.map fun
    | .lit (.int k z) => Value.int k z
    | _ => undef).toArray
  | _ => #[]
abbrev upS : ByteArray := { data := #[116, 104, 101, 32, 114, 101, 97, 100, 101, 114, 32, 103, 97, 118, 101, 32, 117, 112] }
abbrev rangeS : ByteArray := { data := #[118, 97, 108, 117, 101, 32, 111, 117, 116, 32, 111, 102, 32, 114, 97, 110, 103, 101] }
abbrev syntaxS : ByteArray := { data := #[105, 110, 118, 97, 108, 105, 100, 32, 115, 121, 110, 116, 97, 120] }
noncomputable def low : Nat := (World.holding Tryz.prog default ⟨#[], #[], []⟩).heap.size
def layCells (cs : Array Value) : Obj → Obj
  | .cells _ t frozen => .cells cs t frozen
  | o => o
noncomputable def laidWorld (os : Os) : World :=
  let w0 := World.holding Tryz.prog os ⟨#[.cells #[.string upS] 130, .cells #[.string rangeS] 130, .cells #[.string syntaxS] 130], #[], []⟩
  { w0 with heap := (((((w0.heap.modify 0 (layCells #[.iface 128 (.pointer (some ⟨low, 0, none⟩))])).modify 5 (layCells #[.iface 128 (.pointer (some ⟨low + 1, 0, none⟩))])).modify 4 (layCells #[.iface 128 (.pointer (some ⟨low + 2, 0, none⟩))])).modify 1 (layCells (dataCells Rows.laid_internal_strconv_uint64pow10))).modify 2 (layCells (dataCells Rows.laid_math_bits_deBruijn32tab))).modify 3 (layCells (dataCells Rows.laid_math_bits_deBruijn64tab)) }
theorem laid_met (os : Os) (args : Array Value) : laidMetH Tryz.prog laidL ((laidWorld os).forCall (fun _ _ => 0) ⟨#[], args, []⟩).memory :=
  laidMet_of_run' (l := laidL) 200 (by kernel_rfl) (by kernel_rfl)

end Go.Proofs.YtlegmiaoablcgaaGreatDoor
