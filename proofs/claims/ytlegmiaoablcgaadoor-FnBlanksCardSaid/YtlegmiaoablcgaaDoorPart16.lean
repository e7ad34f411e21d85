/- The proof's texts, part 16. -/
import Derived.Test.YtlegmiaoablcgaaDoorPart11
import Derived.Test.YtlegmiaoablcgaaDoorPart15
import Derived.Test.YtlegmiaoablcgaaDoorRows
import Derived.Test.YtlegmiaoablcgaaDoorPart2
import Derived.ProofKit
import Derived.OpenShut
import Derived.ShutString
import Derived.ChangeOld
import Derived.ChangeSame
import Derived.ChangeVars
import Derived.JoinedOf
import Derived.RowKit
import Derived.RowKitTokens
import Derived.LaidLaws
import Derived.LaidHandle
import Derived.Stop.Joined
import Derived.Stop.LaidErr
import Derived.Lib.LaidTab
import Derived.WalkSmall

/- The law FnBlanks, walked out of the contracts. -/
namespace Go.Proofs.YtlegmiaoablcgaaDoor
open Go.RowKit
set_option maxRecDepth 100000
set_option linter.unusedVariables false
set_option linter.unusedSimpArgs false

theorem num_list : numM [76, 73, 83, 84] = none := numM_none fun n _ e => by
  have h := digB_digits n 76 (by rw [e]; simp)
  omega
theorem one_list : oneM 0 [76, 73, 83, 84] = some (⟨1, 0, 0, [76, 73, 83, 84]⟩, []) := by
  have hw : ([76, 73, 83, 84] : List Int).takeWhile ldB = [76, 73, 83, 84] := by decide
  have hd : ([76, 73, 83, 84] : List Int).dropWhile ldB = [] := by decide
  have hn : nameB [76, 73, 83, 84] = false := by decide
  have hg : greatB [76, 73, 83, 84] = true := by decide
  simp [oneM, hw, hd, num_list, hn, hg]
theorem lex_list : lexM 5 0 [76, 73, 83, 84] = .ok [⟨1, 0, 0, [76, 73, 83, 84]⟩] := by
  simp [lexM, one_list]
theorem read_list : (readM [76, 73, 83, 84]).1.k = 9 := by
  unfold readM
  rw [if_neg (by decide), show ([76, 73, 83, 84] : List Int).length + 1 = 5 from rfl, lex_list]
  rfl
theorem own_empty' (w : World) : OwnQ (w.alloc (.cells #[] 5)) w.heap.size (.slice (some ⟨w.heap.size, 0, none⟩) 0 0) [] := ⟨oct_nil, 0, #[], (0, 0), rfl, heap_alloc_new w _, .inl rfl, Nat.le_refl _, by unfold maxLen; omega, rfl, rfl⟩
theorem pad_take {n : Nat} (h : n ≤ 4) : ([32, 32, 32, 32] : List Int).take n = List.replicate n 32 := by
  obtain rfl | rfl | rfl | rfl | rfl : n = 0 ∨ n = 1 ∨ n = 2 ∨ n = 3 ∨ n = 4 := by omega
  all_goals rfl
set_option maxRecDepth 100000 in
set_option maxHeartbeats 8000000 in
theorem blanks_walk (v : Value) (L : List Int) (ea : Addr) (w : World) (hv : Bs w v L) (hE : Gave w ea) (ht : Tab10 w) (he : Errs w) :
    Calls Tryd.prog 3 #[v] w fun e w' => e = .returned (.bool true) ∧ Below w.heap.size w w' := by
  obtain ⟨i0, hi, hz0, hz1, hz2⟩ := info_parts info5
  have HV : Hid (∀ wi, Below w.heap.size w wi → Bs wi v L) := fun wi h => hv.below h
  have HE : Hid (Gave w ea ∧ Tab10 w ∧ Errs w) := ⟨hE, ht, he⟩
  obtain ⟨va, cap, rfl⟩ := hv.form
  clear hv hE ht he
  obtain ⟨w1, hcs, qw1, bw1⟩ : ∃ w', Sem.run Tryd.prog (convert 22 22 (.slice (some ⟨w.heap.size, 0, none⟩) 4 4)) (w.alloc (.cells #[.int .u8 76, .int .u8 73, .int .u8 83, .int .u8 84] 5)) = .ok (.slice (some ⟨w.heap.size, 0, none⟩) 4 4) w' ∧ OwnQ w' w.heap.size (.slice (some ⟨w.heap.size, 0, none⟩) 4 4) [76, 73, 83, 84] ∧ Below w.heap.size w w' := lit_conv w [76, 73, 83, 84] (by intro x hx; simp at hx; omega) (by decide)
  have X := hidm bw1
  have HQ := hidm qw1.bs
  clear bw1 qw1
  go_enter Tryd.func3, Tryd.ntmps3
  go_wp2_with fail
  refine (implCmdRead_r _ [76, 73, 83, 84] ea _ HQ.out (HE.out.1.below X.out) (Lib.tabBelow_of_tabIs HE.out.2.1 _ X.out) (HE.out.2.2.below X.out) (by decide)).mono ?_
  rintro e w2 ⟨u, rfl, RG, B⟩
  have hk9 := read_list
  generalize readM [76, 73, 83, 84] = R0 at RG hk9 ⊢
  obtain ⟨oa0, on0, oc0, oa1, on1, oc1, oa2, on2, oc2, hfo⟩ := RG.form
  subst hfo
  have AB : Below w2.heap.size w2 (w2.alloc (.cells #[.int .i64 9, .slice oa0 on0 oc0, .slice oa1 on1 oc1, .int .i64 R0.1.uid, .int .i64 R0.1.mode, .int .i64 R0.1.fl, .int .i64 R0.1.si, .slice oa2 on2 oc2] 24)) := (Below.refl _ _).alloc (Nat.le_refl _) _
  have X3 := hidm (Below.step (Below.step X.out B) AB)
  clear RG B HQ X hcs AB
  go_wp2_with fail
  refine (drawCmdRead_any _ L _ (HV.out _ X3.out)).mono ?_
  rintro e w4 ⟨an, m, rfl, hBm, hml, hnew, B⟩
  obtain ⟨aa, ac, rfl⟩ := hBm.form
  have X4 := hidm (Below.step X3.out B)
  have HM : Hid (∀ wi, Below w4.heap.size w4 wi → Bs wi (.slice aa m.length ac) m) := fun wi h => hBm.below h
  clear hBm hnew B X3
  go_wp2_with fail
  refine (at_any _ L 0 _ (HV.out _ X4.out) (by omega) (by omega)).mono ?_
  rintro e w5 ⟨x, rfl, hx0, hx1, B⟩
  have X5 := hidm (Below.step X4.out B)
  have HM5 : Hid (∀ wi, Below w5.heap.size w5 wi → Bs wi (.slice aa m.length ac) m) := fun wi h => HM.out wi (Below.step B h)
  clear B X4 HM
  obtain ⟨n, hn⟩ : ∃ n : Nat, 1 + x % 4 = n := ⟨(1 + x % 4).toNat, by omega⟩
  have hn1 : 1 ≤ n ∧ n ≤ 4 := by omega
  obtain ⟨hn1, hn4⟩ := hn1
  obtain ⟨w6, hcp, qw6, bw6⟩ : ∃ w', Sem.run Tryd.prog (convert 22 22 (.slice (some ⟨w5.heap.size, 0, none⟩) 4 4)) (w5.alloc (.cells #[.int .u8 32, .int .u8 32, .int .u8 32, .int .u8 32] 5)) = .ok (.slice (some ⟨w5.heap.size, 0, none⟩) 4 4) w' ∧ OwnQ w' w5.heap.size (.slice (some ⟨w5.heap.size, 0, none⟩) 4 4) [32, 32, 32, 32] ∧ Below w5.heap.size w5 w' := lit_conv w5 [32, 32, 32, 32] (by intro x hx; simp at hx; omega) (by decide)
  have X6 := hidm (Below.step X5.out bw6)
  have HP : Hid (∀ wi, Below w6.heap.size w6 wi → Bs wi (.slice (some ⟨w5.heap.size, 0, none⟩) n 4) (List.replicate n 32)) := by
    intro wi h
    have h1 := bs_cut (qw6.bs) 0 n (by simp; omega)
    simp only [Nat.add_zero, Nat.sub_zero, List.drop_zero, pad_take hn4] at h1
    exact h1.below h
  have HM6 : Hid (∀ wi, Below w6.heap.size w6 wi → Bs wi (.slice aa m.length ac) m) := fun wi h => HM5.out wi (Below.step bw6 h)
  have hl6 : w5.heap.size < w6.heap.size := qw6.lt
  clear X5 HM5 qw6 bw6
  by_cases hbig : 120 < m.length + 2 * n
  · have hbi : (120 : Int) < (m.length : Int) + 2 * (n : Int) := by omega
    go_wp2
    go_ret
    exact ⟨rfl, X6.out⟩
  have hbi : ¬ ((120 : Int) < (m.length : Int) + 2 * (n : Int)) := by omega
  go_wp2_with fail
  refine (implCmdRead_r _ m ea _ (HM6.out _ (Below.refl _ _)) (HE.out.1.below X6.out) (Lib.tabBelow_of_tabIs HE.out.2.1 _ X6.out) (HE.out.2.2.below X6.out) (by omega)).mono ?_
  rintro e w7 ⟨u, rfl, RA, B⟩
  have hrg := (read_rng (HM6.out _ (Below.refl _ _)).1).1
  have hpos := read_pos m
  have hah := read_ahead (l := m) (n := n) (by omega)
  have hbe : (readM m).2.1 = 0 → readM (List.replicate n 32 ++ m ++ List.replicate n 32) = ((readM m).1, 0, 0) := by
    intro h
    have h1 := read_behind (l := List.replicate n 32 ++ m) (n := n) (by simp; omega) (by rw [hah]; exact h)
    rw [h1, hah]
  generalize hR : readM m = R at RA hrg hah hbe hpos ⊢
  obtain ⟨C, P, Q⟩ := R
  simp only at RA hrg hah hbe hpos
  have HRG : Hid (RngC C) := hrg
  obtain ⟨LL, hLL⟩ : ∃ LL : List Int, LL = List.replicate n 32 ++ m := ⟨_, rfl⟩
  rw [← hLL] at hah hbe
  obtain ⟨L3, hL3⟩ : ∃ L3 : List Int, L3 = LL ++ List.replicate n 32 := ⟨_, rfl⟩
  rw [← hL3] at hbe
  have hLl : LL.length ≤ 130 := by rw [hLL]; simp; omega
  have hL3l : L3.length ≤ 140 := by rw [hL3]; simp; omega
  have HLL := hidm hLL
  have HL3 := hidm hL3
  have HAH := hidm hah
  have HBE := hidm hbe
  clear hLL hL3
  clear hrg hah hbe hR
  obtain ⟨pa0, pn0, pc0, pa1, pn1, pc1, pa2, pn2, pc2, hfp⟩ := RA.form
  subst hfp
  have AB : Below w7.heap.size w7 (w7.alloc (.cells #[.int .i64 C.k, .slice pa0 pn0 pc0, .slice pa1 pn1 pc1, .int .i64 C.uid, .int .i64 C.mode, .int .i64 C.fl, .int .i64 C.si, .slice pa2 pn2 pc2] 24)) := (Below.refl _ _).alloc (Nat.le_refl _) _
  have X8 := hidm (Below.step (Below.step X6.out B) AB)
  have M8 := hidm (Below.step B AB)
  have KA := hidm (box_new w7 (.cells #[.int .i64 C.k, .slice pa0 pn0 pc0, .slice pa1 pn1 pc1, .int .i64 C.uid, .int .i64 C.mode, .int .i64 C.fl, .int .i64 C.si, .slice pa2 pn2 pc2] 24))
  have RA8 := hidm (RA.below AB)
  have s8 : w7.heap.size < (w7.alloc (.cells #[.int .i64 C.k, .slice pa0 pn0 pc0, .slice pa1 pn1 pc1, .int .i64 C.uid, .int .i64 C.mode, .int .i64 C.fl, .int .i64 C.si, .slice pa2 pn2 pc2] 24)).heap.size := by simp
  have s7 : w6.heap.size ≤ w7.heap.size := B.size
  clear RA B AB
  go_upto_region 10 with fail
  generalize w7.alloc (.cells #[.int .i64 C.k, .slice pa0 pn0 pc0, .slice pa1 pn1 pc1, .int .i64 C.uid, .int .i64 C.mode, .int .i64 C.fl, .int .i64 C.si, .slice pa2 pn2 pc2] 24) = w8 at X8 M8 KA RA8 s8 ⊢
  have HEm := hidm (own_empty' w8)
  have BE := hidm ((Below.refl w8.heap.size w8).alloc (Nat.le_refl _) (.cells #[] 5))
  go_wp2_with (at_builtin; refine wpList_appendQ rfl (.tmp 57) (.tmp 58) 22 rfl i0 Tryd.underlying22 hi hz0 hz1 hz2 w8.heap.size _ [] rfl HEm.out _ (List.replicate n 32) rfl (HP.out _ (Below.step M8.out BE.out)) (by simp; omega) ?_)
  intro v1 w9 g1 O1 G1 hg1
  have P1 : Below w8.heap.size w8 w9 := BE.out.grown G1 BE.out.size (fun k hk => by cases hk; exact Nat.le_refl _)
  have zz : (w8.alloc (.cells #[] 5)).heap.size = w8.heap.size + 1 := by simp
  have gg1 : w8.heap.size ≤ g1 := by omega
  have HO1 := hidm O1
  have HP1 := hidm P1
  clear O1 G1 hg1 P1 zz
  go_wp2_with (at_builtin; refine wpList_appendQ rfl (.tmp 59) (.tmp 60) 22 rfl i0 Tryd.underlying22 hi hz0 hz1 hz2 g1 _ _ rfl HO1.out _ m rfl (HM6.out _ (Below.step M8.out HP1.out)) (by simp; omega) ?_)
  intro v2 w10 g2 O2 G2 hg2
  have P2 : Below w8.heap.size w8 w10 := HP1.out.grown G2 HP1.out.size (fun k hk => by cases hk; exact gg1)
  have s9 := HP1.out.size
  have gg2 : w8.heap.size ≤ g2 := by omega
  have HL := hidm (show OwnQ w10 g2 v2 LL by rw [HLL.out]; simpa using O2)
  obtain ⟨lc, hv2⟩ := HL.out.form
  subst hv2
  have gl2 := HL.out.lt
  have X10 := hidm (Below.step X8.out P2)
  have M10 := hidm (Below.step M8.out P2)
  have KA10 := hidm (box_below P2 KA.out)
  have RA10 := hidm (RA8.out.below P2)
  have s10 : w8.heap.size ≤ w10.heap.size := P2.size
  clear O2 G2 hg2 P2 s9 HO1 HP1 HEm BE X8 M8 KA RA8
  go_wp2_with fail
  refine (implCmdRead_r _ LL ea _ (HL.out.bs) (HE.out.1.below X10.out) (Lib.tabBelow_of_tabIs HE.out.2.1 _ X10.out) (HE.out.2.2.below X10.out) (by omega)).mono ?_
  rintro e w11 ⟨u, rfl, RB, B⟩
  rw [HAH.out] at RB
  rw [HAH.out]
  simp only at RB
  obtain ⟨qa0, qn0, qc0, qa1, qn1, qc1, qa2, qn2, qc2, hfq⟩ := RB.form
  subst hfq
  have AB : Below w11.heap.size w11 (w11.alloc (.cells #[.int .i64 C.k, .slice qa0 qn0 qc0, .slice qa1 qn1 qc1, .int .i64 C.uid, .int .i64 C.mode, .int .i64 C.fl, .int .i64 C.si, .slice qa2 qn2 qc2] 24)) := (Below.refl _ _).alloc (Nat.le_refl _) _
  have X12 := hidm (Below.step (Below.step X10.out B) AB)
  have M12 := hidm (Below.step (Below.step M10.out B) AB)
  have KA12 := hidm (box_below AB (box_below B KA10.out))
  have KB12 := hidm (box_new w11 (.cells #[.int .i64 C.k, .slice qa0 qn0 qc0, .slice qa1 qn1 qc1, .int .i64 C.uid, .int .i64 C.mode, .int .i64 C.fl, .int .i64 C.si, .slice qa2 qn2 qc2] 24))
  have RA12 := hidm ((RA10.out.below B).below AB)
  have RB12 := hidm (RB.below AB)
  have HL12 := hidm ((HL.out.below B).below AB)
  have s11 : w10.heap.size ≤ w11.heap.size := B.size
  have s12 : w11.heap.size < (w11.alloc (.cells #[.int .i64 C.k, .slice qa0 qn0 qc0, .slice qa1 qn1 qc1, .int .i64 C.uid, .int .i64 C.mode, .int .i64 C.fl, .int .i64 C.si, .slice qa2 qn2 qc2] 24)).heap.size := by simp
  clear RB B AB HL X10 M10 KA10 RA10
  go_upto_region 12 with fail
  generalize w11.alloc (.cells #[.int .i64 C.k, .slice qa0 qn0 qc0, .slice qa1 qn1 qc1, .int .i64 C.uid, .int .i64 C.mode, .int .i64 C.fl, .int .i64 C.si, .slice qa2 qn2 qc2] 24) = w12 at X12 M12 KA12 KB12 RA12 RB12 HL12 s12 ⊢
  by_cases hP : P = 0
  rotate_left
  · have hPn : (P != 0) = true := by simp [hP]
    have hPP : (P != P) = false := by simp
    by_cases h1 : 1 < P
    · have hqq : ((Q + (n : Int)) != (Q + (n : Int))) = false := by simp
      simp only [if_pos h1]
      go_wp2
      go_ret
      exact ⟨rfl, X12.out⟩
    · simp only [if_neg h1]
      go_wp2
      go_ret
      exact ⟨rfl, X12.out⟩
  subst hP
  have HB0 := hidm (HBE.out rfl)
  clear HBE
  go_wp2_with (at_builtin; refine wpList_appendQ rfl (.tmp 85) (.tmp 86) 22 rfl i0 Tryd.underlying22 hi hz0 hz1 hz2 g2 _ _ rfl HL12.out _ (List.replicate n 32) rfl (HP.out _ M12.out) (by simp; omega) ?_)
  intro v3 w13 g3 O3 G3 hg3
  have HO3 := hidm (show OwnQ w13 g3 v3 L3 by rw [HL3.out]; exact O3)
  obtain ⟨lc3, hv3⟩ := HO3.out.form
  subst hv3
  have X13 : Hid (Below w.heap.size w w13) := X12.out.grown G3 X12.out.size (fun k hk => by cases hk; have := X6.out.size; omega)
  have KA13 := hidm ((G3.block w7.heap.size (lt_of_heap KA12.out) (by simp; omega)).trans KA12.out)
  have KB13 := hidm ((G3.block w11.heap.size (lt_of_heap KB12.out) (by simp; omega)).trans KB12.out)
  have RA13 := hidm (RA12.out.grown G3 (.inr (by omega)))
  have RB13 := hidm (RB12.out.grown G3 (.inl (by omega)))
  clear O3 G3 hg3 X12 M12 KA12 KB12 RA12 RB12 HL12
  go_wp2_with fail
  refine (implCmdRead_r _ L3 ea _ (HO3.out.bs) (HE.out.1.below X13.out) (Lib.tabBelow_of_tabIs HE.out.2.1 _ X13.out) (HE.out.2.2.below X13.out) (by omega)).mono ?_
  rintro e w14 ⟨u, rfl, RE, B⟩
  rw [HB0.out] at RE
  rw [HB0.out]
  simp only at RE
  obtain ⟨ra0, rn0, rc0, ra1, rn1, rc1, ra2, rn2, rc2, hfr⟩ := RE.form
  subst hfr
  have AB : Below w14.heap.size w14 (w14.alloc (.cells #[.int .i64 C.k, .slice ra0 rn0 rc0, .slice ra1 rn1 rc1, .int .i64 C.uid, .int .i64 C.mode, .int .i64 C.fl, .int .i64 C.si, .slice ra2 rn2 rc2] 24)) := (Below.refl _ _).alloc (Nat.le_refl _) _
  have X15 := hidm (Below.step (Below.step X13.out B) AB)
  have KA15 := hidm (box_below AB (box_below B KA13.out))
  have KB15 := hidm (box_below AB (box_below B KB13.out))
  have KE15 := hidm (box_new w14 (.cells #[.int .i64 C.k, .slice ra0 rn0 rc0, .slice ra1 rn1 rc1, .int .i64 C.uid, .int .i64 C.mode, .int .i64 C.fl, .int .i64 C.si, .slice ra2 rn2 rc2] 24))
  have RA15 := hidm ((RA13.out.below B).below AB)
  have RB15 := hidm ((RB13.out.below B).below AB)
  have RE15 := hidm (RE.below AB)
  clear RE B AB HO3 X13 KA13 KB13 RA13 RB13
  go_upto_region 17 with fail
  generalize w14.alloc (.cells #[.int .i64 C.k, .slice ra0 rn0 rc0, .slice ra1 rn1 rc1, .int .i64 C.uid, .int .i64 C.mode, .int .i64 C.fl, .int .i64 C.si, .slice ra2 rn2 rc2] 24) = w15 at X15 KA15 KB15 KE15 RA15 RB15 RE15 ⊢
  obtain ⟨c0, c1, c2, c3, c4, c5, c6, c7, lA⟩ := box8l KA15.out
  go_wp2_with fail
  clear c0 c1 c2 c3 c4 c5 c6 c7 lA
  refine (specCmdText_r _ C.k C.bx C.tt C.uid C.mode C.fl C.si C.tx _ (RA15.out.toV HRG.out)).mono ?_
  rintro e w16 ⟨x1, rfl, T1, -, B⟩
  have HT1 := hidm T1
  have X16 := hidm (Below.step X15.out B)
  have KB16 := hidm (box_below B KB15.out)
  have KE16 := hidm (box_below B KE15.out)
  have RB16 := hidm (RB15.out.below B)
  have RE16 := hidm (RE15.out.below B)
  obtain ⟨ya1, yn1, yc1, hy1⟩ := T1.form3
  subst hy1
  clear T1 B X15 KA15 KB15 KE15 RA15 RB15 RE15
  obtain ⟨c0, c1, c2, c3, c4, c5, c6, c7, lA⟩ := box8l KB16.out
  go_wp2_with fail
  clear c0 c1 c2 c3 c4 c5 c6 c7 lA
  refine (specCmdText_r _ C.k C.bx C.tt C.uid C.mode C.fl C.si C.tx _ (RB16.out.toV HRG.out)).mono ?_
  rintro e w17 ⟨x2, rfl, T2, -, B⟩
  have HT2 := hidm T2
  have HT1' := hidm (HT1.out.below B)
  have X17 := hidm (Below.step X16.out B)
  have KE17 := hidm (box_below B KE16.out)
  have RE17 := hidm (RE16.out.below B)
  obtain ⟨ya2, yn2, yc2, hy2⟩ := T2.form3
  subst hy2
  clear T2 B X16 KB16 KE16 RB16 RE16 HT1
  obtain ⟨c0, c1, c2, c3, c4, c5, c6, c7, lA⟩ := box8l KE17.out
  go_wp2_with fail
  clear c0 c1 c2 c3 c4 c5 c6 c7 lA
  refine (specCmdText_r _ C.k C.bx C.tt C.uid C.mode C.fl C.si C.tx _ (RE17.out.toV HRG.out)).mono ?_
  rintro e w18 ⟨x3, rfl, T3, -, B⟩
  have HT3 := hidm T3
  have HT2' := hidm (HT2.out.below B)
  have HT1 := hidm (HT1'.out.below B)
  have X18 := hidm (Below.step X17.out B)
  obtain ⟨ya3, yn3, yc3, hy3⟩ := T3.form3
  subst hy3
  clear T3 B X17 KE17 RE17 HT1' HT2
  go_wp2_with fail
  refine (sameBytes_yes _ _ _ _ HT1.out HT2'.out).mono ?_
  rintro e w19 ⟨rfl, B⟩
  have X19 := hidm (Below.step X18.out B)
  have HT1' := hidm (HT1.out.below B)
  have HT3' := hidm (HT3.out.below B)
  clear B X18 HT1 HT3 HT2'
  go_wp2_with fail
  refine (sameBytes_yes _ _ _ _ HT1'.out HT3'.out).mono ?_
  rintro e w20 ⟨rfl, B⟩
  have X20 := hidm (Below.step X19.out B)
  clear B X19 HT1' HT3'
  go_wp2
  go_ret
  exact ⟨rfl, X20.out⟩

end Go.Proofs.YtlegmiaoablcgaaDoor

/- From what a row reads of an argument to what the walks ask: a slice of bytes that came in. -/
namespace Go.Proofs.YtlegmiaoablcgaaDoor
open Go.ChangeShapes Go.WideShapes Go.ChangeAt Go.RowKit

theorem ownKnob_none : ownKnob Tryd.prog.godebug = none := by kernel_rfl
theorem laidOut : laidOutB Tryd.prog = true := by kernel_rfl

theorem wf_byte {n : Int} (h : (Lit.int .u8 n).wf = true) : 0 ≤ n ∧ n ≤ 255 := bounds_u8 h
theorem wf_int {n : Int} (h : (Lit.int .i64 n).wf = true) : -9223372036854775808 ≤ n ∧ n ≤ 9223372036854775807 := bounds_i64 h

/-- A slice of bytes that came in, as the walks want it. -/
theorem open_bytes {H : Type} {enc : TypeId × Value → H} {W : World} {base : Nat} {a : Option Addr} {len cap : Nat} {d : DataW H} {p : List MemPlace}
    (h : DataW.Trod enc Tryd.prog W base (fun _ => true) true 22 (.slice a len cap) d p) : ∃ l, Bs W (.slice a len cap) l := by
  obtain ⟨fuel, hf⟩ := h
  rcases open_ints Tryd.underlying22 Tryd.underlying5 (by kernel_rfl) hf with ⟨hcs, _⟩ | ⟨x, l, c, zs, hcs, _, hl, hm, hz, _, hcell, hwz⟩
  · simp [Value.cells] at hcs
    obtain ⟨rfl, rfl, rfl⟩ := hcs
    exact ⟨[], oct_nil, none, 0, rfl, by simp, by simp, fun _ => rfl, fun h => absurd h (by simp)⟩
  · simp [Value.cells] at hcs
    obtain ⟨rfl, rfl, rfl⟩ := hcs
    simp at hz
    have ht : (zs.take len).length = len := by simp; omega
    refine ⟨zs.take len, fun x hx => wf_byte (hwz x (List.mem_of_mem_take hx)), some x, cap, by rw [ht], by omega, hm, (fun h => by cases h), fun hp => ?_⟩
    rw [ht] at hp
    obtain ⟨b, off, spot⟩ := x
    have h0 := hcell 0 (by omega)
    have hspot : spot = none := by simpa [Addr.add] using World.cell?_spot h0
    subst hspot
    refine ⟨b, off, rfl, ?_, fun i hi => ?_⟩
    · have := World.block_lt_of_cell? W _ h0
      simpa [Addr.add] using this
    · rw [ht] at hi
      have := hcell i (by omega)
      rw [Addr.add_lit] at this
      rw [this]
      simp [hi]

end Go.Proofs.YtlegmiaoablcgaaDoor

/- What the laid variables give a walk (the errors of impl and strconv, strconv's tables); a world that meets them. -/
namespace Go.Proofs.YtlegmiaoablcgaaDoor
open Go.ChangeShapes Go.WideShapes Go.ChangeAt Go.RowKit Go.Stop

theorem gN : Tryd.prog.globalNamed "loop.example/g00359/impl.errGaveUp" = some 0 := by kernel_rfl
theorem gNType : (Tryd.prog.globals[0]?).map (·.type) = some 93 := by kernel_rfl
theorem gR : Tryd.prog.globalNamed "strconv.ErrRange" = some 3 := by kernel_rfl
theorem gRType : (Tryd.prog.globals[3]?).map (·.type) = some 93 := by kernel_rfl
theorem gS : Tryd.prog.globalNamed "strconv.ErrSyntax" = some 2 := by kernel_rfl
theorem gSType : (Tryd.prog.globals[2]?).map (·.type) = some 93 := by kernel_rfl
theorem gP : Tryd.prog.globalNamed "internal/strconv.uint64pow10" = some 1 := by kernel_rfl
theorem gPType : (Tryd.prog.globals[1]?).map (·.type) = some 124 := by kernel_rfl
theorem cellsE : Tryd.prog.cellsOf 140 = 1 := by kernel_rfl
theorem cellsS : Tryd.prog.cellsOf 9 = 1 := by kernel_rfl
theorem starE : "*" ++ "errors.errorString" = "*errors.errorString" := by decide
theorem rowE (u : TypeId) (h : Tryd.prog.typeName? 3 u = some "*errors.errorString") : u = 138 :=
  typeName_ptr_named (nm := "errors.errorString") (by rw [starE]; kernel_rfl) (by kernel_rfl) (by decide) u (by rw [starE]; exact h)

abbrev laidL : List (String × DataW Unit) := [("math/bits.deBruijn32tab", Rows.laid_math_bits_deBruijn32tab), ("math/bits.deBruijn64tab", Rows.laid_math_bits_deBruijn64tab), ("internal/strconv.uint64pow10", Rows.laid_internal_strconv_uint64pow10), ("strconv.ErrRange", Rows.laid_strconv_ErrRange), ("strconv.ErrSyntax", Rows.laid_strconv_ErrSyntax), ("loop.example/g00359/impl.errGaveUp", Rows.laid_loop_example_g00359_impl_errGaveUp)]
theorem sent_of_laid {W : World} (h : laidMetH Tryd.prog laidL W) : ∃ ea, W.var? Tryd.prog "loop.example/g00359/impl.errGaveUp" = some #[.iface 138 (.pointer (some ea))] ∧ Gave W ea := by
  have h' : laidMet Tryd.prog laidL W := h
  obtain ⟨ea, s, hv, -⟩ := laid_sentinel h'.tail.tail.tail.tail.tail gN gNType Tryd.underlying93 rowE Tryd.underlying138 Tryd.underlying140 rfl rfl Tryd.underlying9 cellsE cellsS
  exact ⟨ea, hv, by simpa [Gave] using World.var?_cell gN hv 0⟩
theorem errs_of_laid {W : World} (h : laidMetH Tryd.prog laidL W) : Errs W := by
  have h' : laidMet Tryd.prog laidL W := h
  obtain ⟨ea, s, hv, -⟩ := laid_sentinel h'.tail.tail.tail gR gRType Tryd.underlying93 rowE Tryd.underlying138 Tryd.underlying140 rfl rfl Tryd.underlying9 cellsE cellsS
  obtain ⟨eb, s', hv', -⟩ := laid_sentinel h'.tail.tail.tail.tail gS gSType Tryd.underlying93 rowE Tryd.underlying138 Tryd.underlying140 rfl rfl Tryd.underlying9 cellsE cellsS
  exact ⟨⟨_, _, by simpa using World.var?_cell gS hv' 0⟩, _, _, by simpa using World.var?_cell gR hv 0⟩
theorem tab_of_laid {W : World} (h : laidMetH Tryd.prog laidL W) : Tab10 W := by
  have h' : laidMet Tryd.prog laidL W := h
  have h2 : laidMet Tryd.prog (("internal/strconv.uint64pow10", Lib.tabData .u64 Lib.pow10Tab) :: [("strconv.ErrRange", Rows.laid_strconv_ErrRange), ("strconv.ErrSyntax", Rows.laid_strconv_ErrSyntax), ("loop.example/g00359/impl.errGaveUp", Rows.laid_loop_example_g00359_impl_errGaveUp)]) W := h'.tail.tail
  exact Lib.tabIs_of_head gP gPType Tryd.underlying124 Tryd.underlying112 (by kernel_rfl) (by kernel_rfl) h2

def dataCells : DataW Unit → Array Value
  | .agg l => (l.map fun
    | .lit (.int k z) => Value.int k z
    | _ => undef).toArray
  | _ => #[]
abbrev upS : ByteArray := { data := #[116, 104, 101, 32, 114, 101, 97, 100, 101, 114, 32, 103, 97, 118, 101, 32, 117, 112] }
abbrev rangeS : ByteArray := { data := #[118, 97, 108, 117, 101, 32, 111, 117, 116, 32, 111, 102, 32, 114, 97, 110, 103, 101] }
abbrev syntaxS : ByteArray := { data := #[105, 110, 118, 97, 108, 105, 100, 32, 115, 121, 110, 116, 97, 120] }
noncomputable def low : Nat := (World.holding Tryd.prog default ⟨#[], #[], []⟩).heap.size
def layCells (cs : Array Value) : Obj → Obj
  | .cells _ t frozen => .cells cs t frozen
  | o => o
noncomputable def laidWorld (os : Os) : World :=
  let w0 := World.holding Tryd.prog os ⟨#[.cells #[.string upS] 140, .cells #[.string rangeS] 140, .cells #[.string syntaxS] 140], #[], []⟩
  { w0 with heap := (((((w0.heap.modify 0 (layCells #[.iface 138 (.pointer (some ⟨low, 0, none⟩))])).modify 3 (layCells #[.iface 138 (.pointer (some ⟨low + 1, 0, none⟩))])).modify 2 (layCells #[.iface 138 (.pointer (some ⟨low + 2, 0, none⟩))])).modify 1 (layCells (dataCells Rows.laid_internal_strconv_uint64pow10))).modify 4 (layCells (dataCells Rows.laid_math_bits_deBruijn32tab))).modify 5 (layCells (dataCells Rows.laid_math_bits_deBruijn64tab)) }
theorem laid_met (os : Os) (args : Array Value) : laidMetH Tryd.prog laidL ((laidWorld os).forCall (fun _ _ => 0) ⟨#[], args, []⟩).memory :=
  laidMet_of_run' (l := laidL) 200 (by kernel_rfl) (by kernel_rfl)

end Go.Proofs.YtlegmiaoablcgaaDoor
