/- The proof's texts, part 5. -/
import Derived.Test.YtifpjdpcmfneaaaGreatDoorPart4
import Derived.Deep.DeepCutAuto
import Derived.Test.YtifpjdpcmfneaaaGreatDoorPart1
import Derived.Test.YtifpjdpcmfneaaaGreatDoorPart3
import Derived.Deep.Light

/- What l4text of package spec does: STORE. -/
namespace Go.Proofs.YtifpjdpcmfneaaaGreatDoor
open Go.RowKit
set_option maxRecDepth 100000
set_option linter.unusedVariables false

theorem tabTX12 : (Tryz.f37.body.bind (opsAt 12)).all (fun o => tableO o 9 [0, 4, 5, 1, 2, 3, 6, 7, 8] [3, 4, 5, 6, 7]) = true := by kernel_rfl

set_option maxRecDepth 100000 in
set_option maxHeartbeats 4000000 in
theorem l4text_3 (a0 a1 a2 : Option Addr) (n0 n1 n2 c0 c1 c2 : Nat) (bx tt : List Int) (uid mode fl si : Int) (tx : List Int) (w : World) (HG : Hid (∀ wi, Below w.heap.size w wi → Bs wi (.slice a0 n0 c0) bx ∧ Bs wi (.slice a1 n1 c1) tt ∧ Bs wi (.slice a2 n2 c2) tx)) (hbx : bx.length ≤ 6) (hbx0 : 0 < bx.length) (un mn fn sn : Nat) (hx : uid = un) (hun : un ≤ 1000000) (hy : mode = mn) (hmn : mn ≤ 2) (hfl : fl = fn) (hfn : fn ≤ 31) (hz : si = sn) (hsn' : sn ≤ 1000000) :
    Calls Tryz.prog 37 #[.agg #[.int .i64 3, .slice a0 n0 c0, .slice a1 n1 c1, .int .i64 uid, .int .i64 mode, .int .i64 fl, .int .i64 si, .slice a2 n2 c2]] w fun e w' => ∃ u, e = .returned u ∧ Bs w' u (kindW 3 ++ [32] ++ bx ++ [32] ++ digB un ++ [32] ++ modeW mn ++ [32] ++ flagsB fl ++ (if 0 < si then [32] ++ sinceW ++ [32] ++ digB sn else [])) ∧ (∀ k, u.ownBlock = some k → w.heap.size ≤ k) ∧ Below w.heap.size w w' := by
  subst hx hy hfl hz
  have hsn : sn ≤ 9999999 := by omega
  have hmw := modeW_ok mn hmn
  have hcm := run_convert_str (modeW mn)
  have hmnI : (mn : Int) < 3 := by omega
  have hmn0 : (0 : Int) ≤ (mn : Int) := by omega
  have HX : Hid (Below w.heap.size w (w.alloc (.cells #[.int .i64 3, .slice a0 n0 c0, .slice a1 n1 c1, .int .i64 un, .int .i64 mn, .int .i64 fn, .int .i64 sn, .slice a2 n2 c2] 34))) := (Below.refl _ _).alloc (Nat.le_refl _) _
  have HK : Hid ((w.alloc (.cells #[.int .i64 3, .slice a0 n0 c0, .slice a1 n1 c1, .int .i64 un, .int .i64 mn, .int .i64 fn, .int .i64 sn, .slice a2 n2 c2] 34)).heap[w.heap.size]? = some (.cells #[.int .i64 3, .slice a0 n0 c0, .slice a1 n1 c1, .int .i64 un, .int .i64 mn, .int .i64 fn, .int .i64 sn, .slice a2 n2 c2] 34)) := box_new w _
  have hcv := run_convert_str (kindW 3)
  have hkw : (kindW 3).length ≤ 7 ∧ 0 < (kindW 3).length ∧ Oct (kindW 3) := by
    exact ⟨by decide, by decide, by intro x hx; simp [kindW] at hx; omega⟩
  have hq := fun W => bytesWorldQ W (kindW 3) hkw.2.2 (by omega)
  generalize hA : w.alloc (.cells #[.int .i64 3, .slice a0 n0 c0, .slice a1 n1 c1, .int .i64 un, .int .i64 mn, .int .i64 fn, .int .i64 sn, .slice a2 n2 c2] 34) = A at HX HK
  have hAs : A.heap.size = w.heap.size + 1 := by rw [← hA]; simp
  generalize hkW : kindW 3 = kw at *
  go_enter Tryz.func37, Tryz.ntmps37
  obtain ⟨f0, f1, f2, f3, f4, f5, f6, f7⟩ := box8 HK.out
  have hlA := lt_of_heap HK.out
  go_wp2_with fail
  refine (l4kind_r 3 (by omega) _).mono ?_
  rw [hkW]
  rintro e w1 ⟨rfl, B⟩
  have hq1 := hq w1
  have hs1 := B.size
  generalize hW2 : Lib.bytesWorld w1 5 (strOfNums kw) = w2 at *
  have C2 := Below.step B hq1.2
  have ST : Hid (St A w2 w1.heap.size (.slice (some ⟨w1.heap.size, 0, none⟩) kw.length (grownCap w1 kw.length 0 5)) kw 7) := ⟨hs1, hq1.1, C2, hkw.2.1, hkw.1⟩
  have K2 := box_below C2 HK.out
  clear f0 f1 f2 f3 f4 f5 f6 f7 hlA hq hq1 B C2
  obtain ⟨f0, f1, f2, f3, f4, f5, f6, f7⟩ := box8 K2
  have hlA := lt_of_heap K2
  go_wp2_with fail
  refine (l4word_s A _ _ (.slice a0 n0 c0) kw bx 7 6 _ ST.out (HG.out _ (Below.step HX.out ST.out.old)).1 (bs_old_ne (HG.out _ (Below.refl _ _)).1 (by omega) hbx0) (by omega) (by omega)).mono ?_
  rintro e w3 ⟨v1, g1, rfl, ST1, G1, hg1⟩
  have S1 : Hid (St A w3 g1 v1 (kw ++ [32] ++ bx) 14) := ST1
  have K3 := box_below S1.out.old HK.out
  clear f0 f1 f2 f3 f4 f5 f6 f7 hlA ST1 G1 hg1 ST K2
  obtain ⟨f0, f1, f2, f3, f4, f5, f6, f7⟩ := box8 K3
  have hlA := lt_of_heap K3
  have HS : Hid (∀ w', Below A.heap.size A w' → w'.cell? ⟨w.heap.size, 3, none⟩ = some (.int .i64 un) ∧ w'.cell? ⟨w.heap.size, 4, none⟩ = some (.int .i64 mn)) := by
    intro w' h
    obtain ⟨s0, s1, s2, s3, s4, s5, s6, s7⟩ := box8 (box_below h HK.out)
    exact ⟨s3, s4⟩
  have DR : Below w3.heap.size w3 w3.drew := (Below.refl _ _).drew
  have S1d : Hid (St A w3.drew g1 v1 (kw ++ [32] ++ bx) 14) := S1.out.below DR
  clear f0 f1 f2 f3 f4 f5 f6 f7 hlA
  obtain ⟨f0, f1, f2, f3, f4, f5, f6, f7⟩ := box8 K3
  have hlA := lt_of_heap K3
  go_upto_region 9 with fail
  go_cut [3] (fun s wx => ∃ g, Hid (St A wx g s (((kw ++ [32] ++ bx) ++ [32] ++ digB un) ++ [32] ++ modeW mn) 31))
  case first =>
    clear f0 f1 f2 f3 f4 f5 f6 f7 hlA K3
    go_wp2
    refine wp_region_held_drew (S := fun w' => w'.cell? ⟨w.heap.size, 3, none⟩ = some (.int .i64 un) ∧ w'.cell? ⟨w.heap.size, 4, none⟩ = some (.int .i64 mn)) (by kernel_rfl) (HS.out _ S1d.out.old) (fun hHeld => (show wpAnyH _ _ _ _ _ 13 #[false, false, false, false, false, false, false, false, false, false, false, false, false] _ _ from ?_))
    refine tq 0 31 hHeld ?_
    refine tq 1 32 hHeld ?_
    refine tq 2 33 hHeld ?_
    refine tq 6 37 hHeld ?_
    refine tq 7 38 hHeld ?_
    generalize hw3d : w3.drew = w3d at *
    refine wpAnyH_ready (rs := [3, 5]) (by kernel_rfl) (by simp) ?_
    refine (AllReadyH.cons rfl (fun K hK => ?_) (AllReadyH.cons rfl (fun K hK => ?_) AllReadyH.nil))
    · go_simp
      refine (l4digits_r un (by omega) _).mono ?_
      rintro e w11 ⟨u11, rfl, R11, B11⟩
      have S11 := hidm (St.below S1d.out B11)
      have D11 := hidm R11.bs
      have N11 := hidm (R11.ne S1d.out.lt)
      refine hK.out _ _ (HS.out _ S11.out.old) (fun hHeld => ?_)
      clear hK K
      refine wpAnyH_ready (rs := [4, 5]) (by kernel_rfl) (by simp) ?_
      refine (AllReadyH.cons rfl (fun K hK => ?_) (AllReadyH.cons rfl (fun K hK => ?_) AllReadyH.nil))
      · go_simp
        refine (l4word_s A g1 v1 u11 (kw ++ [32] ++ bx) (digB un) 14 8 _ S11.out D11.out N11.out (digB_len10 (by omega)) (by omega)).mono ?_
        rintro e w12 ⟨v12, g12, rfl, T12, G12, hg12⟩
        have S12 := hidm T12
        refine hK.out _ _ (HS.out _ S12.out.old) (fun hHeld => ?_)
        clear hK K
        refine wpAnyH_ready (rs := [5]) (by kernel_rfl) (by simp) ?_
        refine (AllReadyH.cons rfl (fun K hK => ?_) AllReadyH.nil)
        go_simp
        have AB13 : Below w12.heap.size w12 (w12.alloc (.cells #[.string ⟨#[73, 83]⟩, .string ⟨#[87, 73, 84, 72]⟩, .string ⟨#[87, 73, 84, 72, 79, 85, 84]⟩] 9)) := (Below.refl _ _).alloc (Nat.le_refl _) _
        have S13 := hidm (St.below S12.out AB13)
        have KB13 := hidm (box_new w12 (.cells #[.string ⟨#[73, 83]⟩, .string ⟨#[87, 73, 84, 72]⟩, .string ⟨#[87, 73, 84, 72, 79, 85, 84]⟩] 9))
        have lb13 : g12 < w12.heap.size := S12.out.lt
        refine hK.out _ _ (HS.out _ S13.out.old) (fun hHeld => ?_)
        clear hK K
        generalize hw13 : w12.alloc (.cells #[.string ⟨#[73, 83]⟩, .string ⟨#[87, 73, 84, 72]⟩, .string ⟨#[87, 73, 84, 72, 79, 85, 84]⟩] 9) = w13 at *
        refine wpAnyH_more (S' := fun w' => w'.cell? ⟨w12.heap.size, mn, none⟩ = some (.string (strOfNums (modeW mn))) ∧ w'.cell? ⟨w.heap.size, 3, none⟩ = some (.int .i64 un) ∧ w'.cell? ⟨w.heap.size, 4, none⟩ = some (.int .i64 mn)) (fun _ h => h.2) _ _ _ _ ?_
        replace hHeld := And.intro (modeCell hmn KB13.out) hHeld
        refine tq 8 39 hHeld ?_
        refine tq 9 40 hHeld ?_
        refine wpAnyH_ready (rs := [10]) (by kernel_rfl) (by simp) ?_
        refine (AllReadyH.cons rfl (fun K hK => ?_) AllReadyH.nil)
        go_simp
        have q14 := bytesWorldQ w13 (modeW mn) hmw.2 (by omega)
        have S14 := hidm (St.below S13.out q14.2)
        have KB14 := hidm (box_below q14.2 KB13.out)
        have Q14 := hidm q14.1
        have lc14 : g12 < w13.heap.size := S13.out.lt
        have NC14 : w13.heap.size ≠ g12 := by omega
        refine hK.out _ _ (⟨modeCell hmn KB14.out, HS.out _ S14.out.old⟩) (fun hHeld => ?_)
        clear hK K
        generalize hw14 : Lib.bytesWorld w13 5 (strOfNums (modeW mn)) = w14 at *
        refine wpAnyH_ready (rs := [11]) (by kernel_rfl) (by simp) ?_
        refine AllReadyH.cons rfl (fun K hK => ?_) AllReadyH.nil
        go_simp
        refine (l4word_s A g12 v12 (.slice (some ⟨w13.heap.size, 0, none⟩) (modeW mn).length (grownCap w13 (modeW mn).length 0 5)) ((kw ++ [32] ++ bx) ++ [32] ++ digB un) (modeW mn) 23 7 _ S14.out Q14.out.bs (fun h => NC14 (by simpa [Value.ownBlock] using h)) hmw.1 (by omega)).mono ?_
        rintro e w15 ⟨v15, g15, rfl, T15, G15, hg15⟩
        have S15 := hidm T15
        have KB15 := hidm ((G15.block w12.heap.size (lt_of_heap KB14.out) (by simp only [ne_eq, Option.some.injEq]; omega)).trans KB14.out)
        refine hK.out _ _ (⟨modeCell hmn KB15.out, HS.out _ S15.out.old⟩) (fun hHeld => ?_)
        clear hK K
        refine tq 12 3 hHeld ?_
        refine wpAnyH_done (by kernel_rfl) ?_ _
        go_wp2
        go_meet
        case rel => exact ⟨_, S15⟩
      · go_simp
        have AB16 : Below w11.heap.size w11 (w11.alloc (.cells #[.string ⟨#[73, 83]⟩, .string ⟨#[87, 73, 84, 72]⟩, .string ⟨#[87, 73, 84, 72, 79, 85, 84]⟩] 9)) := (Below.refl _ _).alloc (Nat.le_refl _) _
        have S16 := hidm (St.below S11.out AB16)
        have KB16 := hidm (box_new w11 (.cells #[.string ⟨#[73, 83]⟩, .string ⟨#[87, 73, 84, 72]⟩, .string ⟨#[87, 73, 84, 72, 79, 85, 84]⟩] 9))
        have lb16 : g1 < w11.heap.size := S11.out.lt
        have D16 := hidm (Bs.below D11.out AB16)
        refine hK.out _ _ (HS.out _ S16.out.old) (fun hHeld => ?_)
        clear hK K
        generalize hw16 : w11.alloc (.cells #[.string ⟨#[73, 83]⟩, .string ⟨#[87, 73, 84, 72]⟩, .string ⟨#[87, 73, 84, 72, 79, 85, 84]⟩] 9) = w16 at *
        refine wpAnyH_more (S' := fun w' => w'.cell? ⟨w11.heap.size, mn, none⟩ = some (.string (strOfNums (modeW mn))) ∧ w'.cell? ⟨w.heap.size, 3, none⟩ = some (.int .i64 un) ∧ w'.cell? ⟨w.heap.size, 4, none⟩ = some (.int .i64 mn)) (fun _ h => h.2) _ _ _ _ ?_
        replace hHeld := And.intro (modeCell hmn KB16.out) hHeld
        refine tq 8 39 hHeld ?_
        refine tq 9 40 hHeld ?_
        refine wpAnyH_ready (rs := [4, 10]) (by kernel_rfl) (by simp) ?_
        refine (AllReadyH.cons rfl (fun K hK => ?_) (AllReadyH.cons rfl (fun K hK => ?_) AllReadyH.nil))
        · go_simp
          refine (l4word_s A g1 v1 u11 (kw ++ [32] ++ bx) (digB un) 14 8 _ S16.out D16.out N11.out (digB_len10 (by omega)) (by omega)).mono ?_
          rintro e w17 ⟨v17, g17, rfl, T17, G17, hg17⟩
          have S17 := hidm T17
          have KB17 := hidm ((G17.block w11.heap.size (lt_of_heap KB16.out) (by simp only [ne_eq, Option.some.injEq]; omega)).trans KB16.out)
          have LB17 : w11.heap.size ≠ g17 := by have := lt_of_heap KB16.out; rcases hg17 with h | h <;> omega
          refine hK.out _ _ (⟨modeCell hmn KB17.out, HS.out _ S17.out.old⟩) (fun hHeld => ?_)
          clear hK K
          refine wpAnyH_ready (rs := [10]) (by kernel_rfl) (by simp) ?_
          refine (AllReadyH.cons rfl (fun K hK => ?_) AllReadyH.nil)
          go_simp
          have q18 := bytesWorldQ w17 (modeW mn) hmw.2 (by omega)
          have S18 := hidm (St.below S17.out q18.2)
          have KB18 := hidm (box_below q18.2 KB17.out)
          have Q18 := hidm q18.1
          have lc18 : g17 < w17.heap.size := S17.out.lt
          have NC18 : w17.heap.size ≠ g17 := by omega
          refine hK.out _ _ (⟨modeCell hmn KB18.out, HS.out _ S18.out.old⟩) (fun hHeld => ?_)
          clear hK K
          generalize hw18 : Lib.bytesWorld w17 5 (strOfNums (modeW mn)) = w18 at *
          refine wpAnyH_ready (rs := [11]) (by kernel_rfl) (by simp) ?_
          refine AllReadyH.cons rfl (fun K hK => ?_) AllReadyH.nil
          go_simp
          refine (l4word_s A g17 v17 (.slice (some ⟨w17.heap.size, 0, none⟩) (modeW mn).length (grownCap w17 (modeW mn).length 0 5)) ((kw ++ [32] ++ bx) ++ [32] ++ digB un) (modeW mn) 23 7 _ S18.out Q18.out.bs (fun h => NC18 (by simpa [Value.ownBlock] using h)) hmw.1 (by omega)).mono ?_
          rintro e w19 ⟨v19, g19, rfl, T19, G19, hg19⟩
          have S19 := hidm T19
          have KB19 := hidm ((G19.block w11.heap.size (lt_of_heap KB18.out) (by simp only [ne_eq, Option.some.injEq]; omega)).trans KB18.out)
          refine hK.out _ _ (⟨modeCell hmn KB19.out, HS.out _ S19.out.old⟩) (fun hHeld => ?_)
          clear hK K
          refine tq 12 3 hHeld ?_
          refine wpAnyH_done (by kernel_rfl) ?_ _
          go_wp2
          go_meet
          case rel => exact ⟨_, S19⟩
        · go_simp
          have q20 := bytesWorldQ w16 (modeW mn) hmw.2 (by omega)
          have S20 := hidm (St.below S16.out q20.2)
          have KB20 := hidm (box_below q20.2 KB16.out)
          have Q20 := hidm q20.1
          have lc20 : g1 < w16.heap.size := S16.out.lt
          have NC20 : w16.heap.size ≠ g1 := by omega
          have D20 := hidm (Bs.below D16.out q20.2)
          refine hK.out _ _ (⟨modeCell hmn KB20.out, HS.out _ S20.out.old⟩) (fun hHeld => ?_)
          clear hK K
          generalize hw20 : Lib.bytesWorld w16 5 (strOfNums (modeW mn)) = w20 at *
          refine wpAnyH_ready (rs := [4]) (by kernel_rfl) (by simp) ?_
          refine (AllReadyH.cons rfl (fun K hK => ?_) AllReadyH.nil)
          go_simp
          refine (l4word_s A g1 v1 u11 (kw ++ [32] ++ bx) (digB un) 14 8 _ S20.out D20.out N11.out (digB_len10 (by omega)) (by omega)).mono ?_
          rintro e w21 ⟨v21, g21, rfl, T21, G21, hg21⟩
          have S21 := hidm T21
          have KB21 := hidm ((G21.block w11.heap.size (lt_of_heap KB20.out) (by simp only [ne_eq, Option.some.injEq]; omega)).trans KB20.out)
          have LB21 : w11.heap.size ≠ g21 := by have := lt_of_heap KB20.out; rcases hg21 with h | h <;> omega
          have Q21 := hidm (OwnQ.frame Q20.out (G21.block w16.heap.size Q20.out.lt (by simp only [ne_eq, Option.some.injEq]; omega)))
          have NC21 : w16.heap.size ≠ g21 := by have := Q20.out.lt; rcases hg21 with h | h <;> omega
          refine hK.out _ _ (⟨modeCell hmn KB21.out, HS.out _ S21.out.old⟩) (fun hHeld => ?_)
          clear hK K
          refine wpAnyH_ready (rs := [11]) (by kernel_rfl) (by simp) ?_
          refine AllReadyH.cons rfl (fun K hK => ?_) AllReadyH.nil
          go_simp
          refine (l4word_s A g21 v21 (.slice (some ⟨w16.heap.size, 0, none⟩) (modeW mn).length (grownCap w16 (modeW mn).length 0 5)) ((kw ++ [32] ++ bx) ++ [32] ++ digB un) (modeW mn) 23 7 _ S21.out Q21.out.bs (fun h => NC21 (by simpa [Value.ownBlock] using h)) hmw.1 (by omega)).mono ?_
          rintro e w22 ⟨v22, g22, rfl, T22, G22, hg22⟩
          have S22 := hidm T22
          have KB22 := hidm ((G22.block w11.heap.size (lt_of_heap KB21.out) (by simp only [ne_eq, Option.some.injEq]; omega)).trans KB21.out)
          refine hK.out _ _ (⟨modeCell hmn KB22.out, HS.out _ S22.out.old⟩) (fun hHeld => ?_)
          clear hK K
          refine tq 12 3 hHeld ?_
          refine wpAnyH_done (by kernel_rfl) ?_ _
          go_wp2
          go_meet
          case rel => exact ⟨_, S22⟩
    · go_simp
      have AB23 : Below w3d.heap.size w3d (w3d.alloc (.cells #[.string ⟨#[73, 83]⟩, .string ⟨#[87, 73, 84, 72]⟩, .string ⟨#[87, 73, 84, 72, 79, 85, 84]⟩] 9)) := (Below.refl _ _).alloc (Nat.le_refl _) _
      have S23 := hidm (St.below S1d.out AB23)
      have KB23 := hidm (box_new w3d (.cells #[.string ⟨#[73, 83]⟩, .string ⟨#[87, 73, 84, 72]⟩, .string ⟨#[87, 73, 84, 72, 79, 85, 84]⟩] 9))
      have lb23 : g1 < w3d.heap.size := S1d.out.lt
      refine hK.out _ _ (HS.out _ S23.out.old) (fun hHeld => ?_)
      clear hK K
      generalize hw23 : w3d.alloc (.cells #[.string ⟨#[73, 83]⟩, .string ⟨#[87, 73, 84, 72]⟩, .string ⟨#[87, 73, 84, 72, 79, 85, 84]⟩] 9) = w23 at *
      refine wpAnyH_more (S' := fun w' => w'.cell? ⟨w3d.heap.size, mn, none⟩ = some (.string (strOfNums (modeW mn))) ∧ w'.cell? ⟨w.heap.size, 3, none⟩ = some (.int .i64 un) ∧ w'.cell? ⟨w.heap.size, 4, none⟩ = some (.int .i64 mn)) (fun _ h => h.2) _ _ _ _ ?_
      replace hHeld := And.intro (modeCell hmn KB23.out) hHeld
      refine tq 8 39 hHeld ?_
      refine tq 9 40 hHeld ?_
      refine wpAnyH_ready (rs := [3, 10]) (by kernel_rfl) (by simp) ?_
      refine (AllReadyH.cons rfl (fun K hK => ?_) (AllReadyH.cons rfl (fun K hK => ?_) AllReadyH.nil))
      · go_simp
        refine (l4digits_r un (by omega) _).mono ?_
        rintro e w24 ⟨u24, rfl, R24, B24⟩
        have S24 := hidm (St.below S23.out B24)
        have D24 := hidm R24.bs
        have N24 := hidm (R24.ne S23.out.lt)
        have KB24 := hidm (box_below B24 KB23.out)
        refine hK.out _ _ (⟨modeCell hmn KB24.out, HS.out _ S24.out.old⟩) (fun hHeld => ?_)
        clear hK K
        refine wpAnyH_ready (rs := [4, 10]) (by kernel_rfl) (by simp) ?_
        refine (AllReadyH.cons rfl (fun K hK => ?_) (AllReadyH.cons rfl (fun K hK => ?_) AllReadyH.nil))
        · go_simp
          refine (l4word_s A g1 v1 u24 (kw ++ [32] ++ bx) (digB un) 14 8 _ S24.out D24.out N24.out (digB_len10 (by omega)) (by omega)).mono ?_
          rintro e w25 ⟨v25, g25, rfl, T25, G25, hg25⟩
          have S25 := hidm T25
          have KB25 := hidm ((G25.block w3d.heap.size (lt_of_heap KB24.out) (by simp only [ne_eq, Option.some.injEq]; omega)).trans KB24.out)
          have LB25 : w3d.heap.size ≠ g25 := by have := lt_of_heap KB24.out; rcases hg25 with h | h <;> omega
          refine hK.out _ _ (⟨modeCell hmn KB25.out, HS.out _ S25.out.old⟩) (fun hHeld => ?_)
          clear hK K
          refine wpAnyH_ready (rs := [10]) (by kernel_rfl) (by simp) ?_
          refine (AllReadyH.cons rfl (fun K hK => ?_) AllReadyH.nil)
          go_simp
          have q26 := bytesWorldQ w25 (modeW mn) hmw.2 (by omega)
          have S26 := hidm (St.below S25.out q26.2)
          have KB26 := hidm (box_below q26.2 KB25.out)
          have Q26 := hidm q26.1
          have lc26 : g25 < w25.heap.size := S25.out.lt
          have NC26 : w25.heap.size ≠ g25 := by omega
          refine hK.out _ _ (⟨modeCell hmn KB26.out, HS.out _ S26.out.old⟩) (fun hHeld => ?_)
          clear hK K
          generalize hw26 : Lib.bytesWorld w25 5 (strOfNums (modeW mn)) = w26 at *
          refine wpAnyH_ready (rs := [11]) (by kernel_rfl) (by simp) ?_
          refine AllReadyH.cons rfl (fun K hK => ?_) AllReadyH.nil
          go_simp
          refine (l4word_s A g25 v25 (.slice (some ⟨w25.heap.size, 0, none⟩) (modeW mn).length (grownCap w25 (modeW mn).length 0 5)) ((kw ++ [32] ++ bx) ++ [32] ++ digB un) (modeW mn) 23 7 _ S26.out Q26.out.bs (fun h => NC26 (by simpa [Value.ownBlock] using h)) hmw.1 (by omega)).mono ?_
          rintro e w27 ⟨v27, g27, rfl, T27, G27, hg27⟩
          have S27 := hidm T27
          have KB27 := hidm ((G27.block w3d.heap.size (lt_of_heap KB26.out) (by simp only [ne_eq, Option.some.injEq]; omega)).trans KB26.out)
          refine hK.out _ _ (⟨modeCell hmn KB27.out, HS.out _ S27.out.old⟩) (fun hHeld => ?_)
          clear hK K
          refine tq 12 3 hHeld ?_
          refine wpAnyH_done (by kernel_rfl) ?_ _
          go_wp2
          go_meet
          case rel => exact ⟨_, S27⟩
        · go_simp
          have q28 := bytesWorldQ w24 (modeW mn) hmw.2 (by omega)
          have S28 := hidm (St.below S24.out q28.2)
          have KB28 := hidm (box_below q28.2 KB24.out)
          have Q28 := hidm q28.1
          have lc28 : g1 < w24.heap.size := S24.out.lt
          have NC28 : w24.heap.size ≠ g1 := by omega
          have D28 := hidm (Bs.below D24.out q28.2)
          refine hK.out _ _ (⟨modeCell hmn KB28.out, HS.out _ S28.out.old⟩) (fun hHeld => ?_)
          clear hK K
          generalize hw28 : Lib.bytesWorld w24 5 (strOfNums (modeW mn)) = w28 at *
          refine wpAnyH_ready (rs := [4]) (by kernel_rfl) (by simp) ?_
          refine (AllReadyH.cons rfl (fun K hK => ?_) AllReadyH.nil)
          go_simp
          refine (l4word_s A g1 v1 u24 (kw ++ [32] ++ bx) (digB un) 14 8 _ S28.out D28.out N24.out (digB_len10 (by omega)) (by omega)).mono ?_
          rintro e w29 ⟨v29, g29, rfl, T29, G29, hg29⟩
          have S29 := hidm T29
          have KB29 := hidm ((G29.block w3d.heap.size (lt_of_heap KB28.out) (by simp only [ne_eq, Option.some.injEq]; omega)).trans KB28.out)
          have LB29 : w3d.heap.size ≠ g29 := by have := lt_of_heap KB28.out; rcases hg29 with h | h <;> omega
          have Q29 := hidm (OwnQ.frame Q28.out (G29.block w24.heap.size Q28.out.lt (by simp only [ne_eq, Option.some.injEq]; omega)))
          have NC29 : w24.heap.size ≠ g29 := by have := Q28.out.lt; rcases hg29 with h | h <;> omega
          refine hK.out _ _ (⟨modeCell hmn KB29.out, HS.out _ S29.out.old⟩) (fun hHeld => ?_)
          clear hK K
          refine wpAnyH_ready (rs := [11]) (by kernel_rfl) (by simp) ?_
          refine AllReadyH.cons rfl (fun K hK => ?_) AllReadyH.nil
          go_simp
          refine (l4word_s A g29 v29 (.slice (some ⟨w24.heap.size, 0, none⟩) (modeW mn).length (grownCap w24 (modeW mn).length 0 5)) ((kw ++ [32] ++ bx) ++ [32] ++ digB un) (modeW mn) 23 7 _ S29.out Q29.out.bs (fun h => NC29 (by simpa [Value.ownBlock] using h)) hmw.1 (by omega)).mono ?_
          rintro e w30 ⟨v30, g30, rfl, T30, G30, hg30⟩
          have S30 := hidm T30
          have KB30 := hidm ((G30.block w3d.heap.size (lt_of_heap KB29.out) (by simp only [ne_eq, Option.some.injEq]; omega)).trans KB29.out)
          refine hK.out _ _ (⟨modeCell hmn KB30.out, HS.out _ S30.out.old⟩) (fun hHeld => ?_)
          clear hK K
          refine tq 12 3 hHeld ?_
          refine wpAnyH_done (by kernel_rfl) ?_ _
          go_wp2
          go_meet
          case rel => exact ⟨_, S30⟩
      · go_simp
        have q31 := bytesWorldQ w23 (modeW mn) hmw.2 (by omega)
        have S31 := hidm (St.below S23.out q31.2)
        have KB31 := hidm (box_below q31.2 KB23.out)
        have Q31 := hidm q31.1
        have lc31 : g1 < w23.heap.size := S23.out.lt
        have NC31 : w23.heap.size ≠ g1 := by omega
        refine hK.out _ _ (⟨modeCell hmn KB31.out, HS.out _ S31.out.old⟩) (fun hHeld => ?_)
        clear hK K
        generalize hw31 : Lib.bytesWorld w23 5 (strOfNums (modeW mn)) = w31 at *
        refine wpAnyH_ready (rs := [3]) (by kernel_rfl) (by simp) ?_
        refine (AllReadyH.cons rfl (fun K hK => ?_) AllReadyH.nil)
        go_simp
        refine (l4digits_r un (by omega) _).mono ?_
        rintro e w32 ⟨u32, rfl, R32, B32⟩
        have S32 := hidm (St.below S31.out B32)
        have D32 := hidm R32.bs
        have N32 := hidm (R32.ne S31.out.lt)
        have KB32 := hidm (box_below B32 KB31.out)
        have Q32 := hidm (OwnQ.below Q31.out B32)
        refine hK.out _ _ (⟨modeCell hmn KB32.out, HS.out _ S32.out.old⟩) (fun hHeld => ?_)
        clear hK K
        refine wpAnyH_ready (rs := [4]) (by kernel_rfl) (by simp) ?_
        refine (AllReadyH.cons rfl (fun K hK => ?_) AllReadyH.nil)
        go_simp
        refine (l4word_s A g1 v1 u32 (kw ++ [32] ++ bx) (digB un) 14 8 _ S32.out D32.out N32.out (digB_len10 (by omega)) (by omega)).mono ?_
        rintro e w33 ⟨v33, g33, rfl, T33, G33, hg33⟩
        have S33 := hidm T33
        have KB33 := hidm ((G33.block w3d.heap.size (lt_of_heap KB32.out) (by simp only [ne_eq, Option.some.injEq]; omega)).trans KB32.out)
        have LB33 : w3d.heap.size ≠ g33 := by have := lt_of_heap KB32.out; rcases hg33 with h | h <;> omega
        have Q33 := hidm (OwnQ.frame Q32.out (G33.block w23.heap.size Q32.out.lt (by simp only [ne_eq, Option.some.injEq]; omega)))
        have NC33 : w23.heap.size ≠ g33 := by have := Q32.out.lt; rcases hg33 with h | h <;> omega
        refine hK.out _ _ (⟨modeCell hmn KB33.out, HS.out _ S33.out.old⟩) (fun hHeld => ?_)
        clear hK K
        refine wpAnyH_ready (rs := [11]) (by kernel_rfl) (by simp) ?_
        refine AllReadyH.cons rfl (fun K hK => ?_) AllReadyH.nil
        go_simp
        refine (l4word_s A g33 v33 (.slice (some ⟨w23.heap.size, 0, none⟩) (modeW mn).length (grownCap w23 (modeW mn).length 0 5)) ((kw ++ [32] ++ bx) ++ [32] ++ digB un) (modeW mn) 23 7 _ S33.out Q33.out.bs (fun h => NC33 (by simpa [Value.ownBlock] using h)) hmw.1 (by omega)).mono ?_
        rintro e w34 ⟨v34, g34, rfl, T34, G34, hg34⟩
        have S34 := hidm T34
        have KB34 := hidm ((G34.block w3d.heap.size (lt_of_heap KB33.out) (by simp only [ne_eq, Option.some.injEq]; omega)).trans KB33.out)
        refine hK.out _ _ (⟨modeCell hmn KB34.out, HS.out _ S34.out.old⟩) (fun hHeld => ?_)
        clear hK K
        refine tq 12 3 hHeld ?_
        refine wpAnyH_done (by kernel_rfl) ?_ _
        go_wp2
        go_meet
        case rel => exact ⟨_, S34⟩
  case rest =>
    clear f0 f1 f2 f3 f4 f5 f6 f7 hlA K3 HS DR S1 S1d hcm
    obtain ⟨g9, S9⟩ := hcut
    have K9 := box_below S9.out.old HK.out
    obtain ⟨f0, f1, f2, f3, f4, f5, f6, f7⟩ := box8 K9
    have hlA := lt_of_heap K9
    go_wp2_with fail
    refine (l4flags_r fn hfn _).mono ?_
    rintro e w40 ⟨u40, rfl, R40, B40⟩
    have S40 := hidm (St.below S9.out B40)
    have N40 := R40.ne S9.out.lt
    clear f0 f1 f2 f3 f4 f5 f6 f7 hlA K9
    go_wp2_with fail
    refine (l4word_s A g9 _ u40 (((kw ++ [32] ++ bx) ++ [32] ++ digB un) ++ [32] ++ modeW mn) (flagsB fn) 31 7 _ S40.out R40.bs N40 (flagsB_len _) (by omega)).mono ?_
    rintro e w41 ⟨v41, g41, rfl, T41, G41, hg41⟩
    have S41 := hidm T41
    have K41 := box_below S41.out.old HK.out
    clear S9 S40 R40 B40 N40 T41 G41 hg41
    obtain ⟨f0, f1, f2, f3, f4, f5, f6, f7⟩ := box8 K41
    have hlA := lt_of_heap K41
    by_cases hs : sn = 0
    · subst hs
      go_wp2
      go_ret
      exact ⟨_, rfl, by simpa using S41.out.own.bs, fun k hk => Nat.le_trans (by omega) (S41.out.made k hk), Below.step HX.out S41.out.old⟩
    · have hs' : (0 : Int) < (sn : Int) := by omega
      have hs2 : decide ((0 : Int) < (sn : Int)) = true := decide_eq_true hs'
      have HP : Hid ((if 0 < (sn : Int) then [32] ++ sinceW ++ [32] ++ digB sn else ([] : List Int)) = [32] ++ sinceW ++ [32] ++ digB sn) := by unfold Hid; rw [if_pos hs']
      have HS2 : Hid (∀ w', Below A.heap.size A w' → w'.cell? ⟨w.heap.size, 6, none⟩ = some (.int .i64 sn)) := by
        intro w' h
        obtain ⟨s0, s1, s2, s3, s4, s5, s6, s7⟩ := box8 (box_below h HK.out)
        exact s6
      have DR2 : Below w41.heap.size w41 w41.drew := (Below.refl _ _).drew
      have S41d := hidm (St.below S41.out DR2)
      obtain ⟨w42, hcs, qx, bx6⟩ : ∃ w', Sem.run Tryz.prog (convert 22 22 (.slice (some ⟨w41.drew.heap.size, 0, none⟩) 5 5)) (w41.drew.alloc (.cells #[.int .u8 83, .int .u8 73, .int .u8 78, .int .u8 67, .int .u8 69] 5)) = .ok (.slice (some ⟨w41.drew.heap.size, 0, none⟩) 5 5) w' ∧ OwnQ w' w41.drew.heap.size (.slice (some ⟨w41.drew.heap.size, 0, none⟩) 5 5) sinceW ∧ Below w41.drew.heap.size w41.drew w' := lit_conv w41.drew sinceW (by intro x hx; simp [sinceW] at hx; omega) (by decide)
      have hl41 := S41d.out.lt
      go_wp2
      refine wpO_begin (S := fun w' => w'.cell? ⟨w.heap.size, 6, none⟩ = some (.int .i64 sn)) (tabO_of (by kernel_rfl) tabTX12) (by kernel_rfl) (HS2.out _ S41d.out.old) (fun hTb hHeld => ?_)
      generalize hw41d : w41.drew = w41d at *
      refine tkw 0 0 51 hTb hHeld ?_
      refine tkw 1 4 55 hTb hHeld ?_
      refine tkw 2 5 56 hTb hHeld ?_
      refine clo 3 1 hTb (by decide) rfl ?_
      refine AllReadyH.cons rfl (fun K hK => ?_) AllReadyH.nil
      go_simp
      have AB := (show Below w41d.heap.size w41d (w41d.alloc (.cells #[.int .u8 83, .int .u8 73, .int .u8 78, .int .u8 67, .int .u8 69] 5)) from (Below.refl _ _).alloc (Nat.le_refl _) _)
      refine hK.out _ _ (HS2.out _ (St.below S41d.out AB).old) (fun hHeld => ?_)
      clear hK K
      refine wpOrd_in (n := 9) (p := 3) (i := 1) rfl rfl rfl ?_
      refine clo 4 2 hTb (by decide) rfl ?_
      refine AllReadyH.cons rfl (fun K hK => ?_) AllReadyH.nil
      go_simp
      have S42 := hidm (St.below S41d.out bx6)
      refine hK.out _ _ (HS2.out _ S42.out.old) (fun hHeld => ?_)
      clear hK K
      refine wpOrd_in (n := 9) (p := 4) (i := 2) rfl rfl rfl ?_
      refine clo 5 3 hTb (by decide) rfl ?_
      refine AllReadyH.cons rfl (fun K hK => ?_) AllReadyH.nil
      go_simp
      refine (l4word_s A g41 v41 (.slice (some ⟨w41d.heap.size, 0, none⟩) 5 5) ((((kw ++ [32] ++ bx) ++ [32] ++ digB un) ++ [32] ++ modeW mn) ++ [32] ++ flagsB fn) (sinceW) 39 5 _ S42.out (qx.bs) (by simp [Value.ownBlock]; omega) (by first | decide | omega | exact flagsB_len _ | exact digB_len10 (by omega)) (by omega)).mono ?_
      rintro e w43 ⟨v43, g43, rfl, T43, G43, hg43⟩
      have S43 := hidm T43
      refine hK.out _ _ (HS2.out _ S43.out.old) (fun hHeld => ?_)
      clear hK K
      refine wpOrd_in (n := 9) (p := 5) (i := 3) rfl rfl rfl ?_
      refine clo 6 6 hTb (by decide) rfl ?_
      refine AllReadyH.cons rfl (fun K hK => ?_) AllReadyH.nil
      go_simp
      refine (l4digits_r sn hsn _).mono ?_
      rintro e w44 ⟨u44, rfl, R44, B44⟩
      have S44 := hidm (St.below S43.out B44)
      refine hK.out _ _ (HS2.out _ S44.out.old) (fun hHeld => ?_)
      clear hK K
      refine wpOrd_in (n := 9) (p := 6) (i := 6) rfl rfl rfl ?_
      refine clo 7 7 hTb (by decide) rfl ?_
      refine AllReadyH.cons rfl (fun K hK => ?_) AllReadyH.nil
      go_simp
      refine (l4word_s A g43 v43 u44 (((((kw ++ [32] ++ bx) ++ [32] ++ digB un) ++ [32] ++ modeW mn) ++ [32] ++ flagsB fn) ++ [32] ++ sinceW) (digB sn) 45 8 _ S44.out (R44.bs) (R44.ne S43.out.lt) (by first | omega | exact flagsB_len _ | exact digB_len10 (by omega)) (by omega)).mono ?_
      rintro e w45 ⟨v45, g45, rfl, T45, G45, hg45⟩
      have S45 := hidm T45
      refine hK.out _ _ (HS2.out _ S45.out.old) (fun hHeld => ?_)
      clear hK K
      refine wpOrd_in (n := 9) (p := 7) (i := 7) rfl rfl rfl ?_
      refine tkw 8 8 3 hTb hHeld ?_
      refine wpO_end hTb ?_
      clear HS2 hHeld hTb DR2 S41 S41d R44 B44 T43 G43 hg43 T45 G45 hg45 S42 S43 S44 AB hcs qx bx6 hl41
      clear f0 f1 f2 f3 f4 f5 f6 f7 hlA K41
      go_wp2
      go_ret
      exact ⟨_, rfl, by first | (rw [HP.out]; simpa using S45.out.own.bs) | simpa using S45.out.own.bs, fun k hk => Nat.le_trans (by omega) (S45.out.made k hk), Below.step HX.out S45.out.old⟩

end Go.Proofs.YtifpjdpcmfneaaaGreatDoor

/- What l4text of package spec does: FETCH, CHANGES. -/
namespace Go.Proofs.YtifpjdpcmfneaaaGreatDoor
open Go.RowKit
set_option maxRecDepth 100000
set_option linter.unusedVariables false

set_option maxRecDepth 100000 in
set_option maxHeartbeats 4000000 in
theorem l4text_5 (a0 a1 a2 : Option Addr) (n0 n1 n2 c0 c1 c2 : Nat) (bx tt : List Int) (uid mode fl si : Int) (tx : List Int) (w : World) (HG : Hid (∀ wi, Below w.heap.size w wi → Bs wi (.slice a0 n0 c0) bx ∧ Bs wi (.slice a1 n1 c1) tt ∧ Bs wi (.slice a2 n2 c2) tx)) (hbx : bx.length ≤ 6) (hbx0 : 0 < bx.length) (un : Nat) (hx : uid = un) (hun : un ≤ 1000000) :
    Calls Tryz.prog 37 #[.agg #[.int .i64 5, .slice a0 n0 c0, .slice a1 n1 c1, .int .i64 uid, .int .i64 mode, .int .i64 fl, .int .i64 si, .slice a2 n2 c2]] w fun e w' => ∃ u, e = .returned u ∧ Bs w' u (kindW 5 ++ [32] ++ bx ++ [32] ++ digB un) ∧ (∀ k, u.ownBlock = some k → w.heap.size ≤ k) ∧ Below w.heap.size w w' := by
  subst hx
  have HX : Hid (Below w.heap.size w (w.alloc (.cells #[.int .i64 5, .slice a0 n0 c0, .slice a1 n1 c1, .int .i64 un, .int .i64 mode, .int .i64 fl, .int .i64 si, .slice a2 n2 c2] 34))) := (Below.refl _ _).alloc (Nat.le_refl _) _
  have HK : Hid ((w.alloc (.cells #[.int .i64 5, .slice a0 n0 c0, .slice a1 n1 c1, .int .i64 un, .int .i64 mode, .int .i64 fl, .int .i64 si, .slice a2 n2 c2] 34)).heap[w.heap.size]? = some (.cells #[.int .i64 5, .slice a0 n0 c0, .slice a1 n1 c1, .int .i64 un, .int .i64 mode, .int .i64 fl, .int .i64 si, .slice a2 n2 c2] 34)) := box_new w _
  have hcv := run_convert_str (kindW 5)
  have hkw : (kindW 5).length ≤ 7 ∧ 0 < (kindW 5).length ∧ Oct (kindW 5) := by
    exact ⟨by decide, by decide, by intro x hx; simp [kindW] at hx; omega⟩
  have hq := fun W => bytesWorldQ W (kindW 5) hkw.2.2 (by omega)
  generalize hA : w.alloc (.cells #[.int .i64 5, .slice a0 n0 c0, .slice a1 n1 c1, .int .i64 un, .int .i64 mode, .int .i64 fl, .int .i64 si, .slice a2 n2 c2] 34) = A at HX HK
  have hAs : A.heap.size = w.heap.size + 1 := by rw [← hA]; simp
  generalize hkW : kindW 5 = kw at *
  go_enter Tryz.func37, Tryz.ntmps37
  obtain ⟨f0, f1, f2, f3, f4, f5, f6, f7⟩ := box8 HK.out
  have hlA := lt_of_heap HK.out
  go_wp2_with fail
  refine (l4kind_r 5 (by omega) _).mono ?_
  rw [hkW]
  rintro e w1 ⟨rfl, B⟩
  have hq1 := hq w1
  have hs1 := B.size
  generalize hW2 : Lib.bytesWorld w1 5 (strOfNums kw) = w2 at *
  have C2 := Below.step B hq1.2
  have ST : Hid (St A w2 w1.heap.size (.slice (some ⟨w1.heap.size, 0, none⟩) kw.length (grownCap w1 kw.length 0 5)) kw 7) := ⟨hs1, hq1.1, C2, hkw.2.1, hkw.1⟩
  have K2 := box_below C2 HK.out
  clear f0 f1 f2 f3 f4 f5 f6 f7 hlA hq hq1 B C2
  obtain ⟨f0, f1, f2, f3, f4, f5, f6, f7⟩ := box8 K2
  have hlA := lt_of_heap K2
  go_wp2_with fail
  refine (l4word_s A _ _ (.slice a0 n0 c0) kw bx 7 6 _ ST.out (HG.out _ (Below.step HX.out ST.out.old)).1 (bs_old_ne (HG.out _ (Below.refl _ _)).1 (by omega) hbx0) (by omega) (by omega)).mono ?_
  rintro e w3 ⟨v1, g1, rfl, ST1, G1, hg1⟩
  have S1 : Hid (St A w3 g1 v1 (kw ++ [32] ++ bx) 14) := ST1
  have K3 := box_below S1.out.old HK.out
  clear f0 f1 f2 f3 f4 f5 f6 f7 hlA ST1 G1 hg1 ST K2
  obtain ⟨f0, f1, f2, f3, f4, f5, f6, f7⟩ := box8 K3
  have hlA := lt_of_heap K3
  go_wp2_with fail
  refine (l4digits_r un (by omega) _).mono ?_
  rintro e w4 ⟨u4, rfl, R4, B4⟩
  have S4 := hidm (St.below S1.out B4)
  have K4 := box_below B4 K3
  clear f0 f1 f2 f3 f4 f5 f6 f7 hlA K3
  go_wp2_with fail
  refine (l4word_s A g1 v1 u4 (kw ++ [32] ++ bx) (digB un) 14 8 _ S4.out R4.bs (R4.ne S1.out.lt) (digB_len10 (by omega)) (by omega)).mono ?_
  rintro e w5 ⟨v5, g5, rfl, T5, G5, hg5⟩
  have S5 := hidm T5
  clear S1 S4 R4 B4 K4 T5 G5 hg5
  go_wp2
  go_ret
  exact ⟨_, rfl, by simpa using S5.out.own.bs, fun k hk => Nat.le_trans (by omega) (S5.out.made k hk), Below.step HX.out S5.out.old⟩

set_option maxRecDepth 100000 in
set_option maxHeartbeats 4000000 in
theorem l4text_8 (a0 a1 a2 : Option Addr) (n0 n1 n2 c0 c1 c2 : Nat) (bx tt : List Int) (uid mode fl si : Int) (tx : List Int) (w : World) (HG : Hid (∀ wi, Below w.heap.size w wi → Bs wi (.slice a0 n0 c0) bx ∧ Bs wi (.slice a1 n1 c1) tt ∧ Bs wi (.slice a2 n2 c2) tx)) (hbx : bx.length ≤ 6) (hbx0 : 0 < bx.length) (sn : Nat) (hx : si = sn) (hsn : sn ≤ 1000000) :
    Calls Tryz.prog 37 #[.agg #[.int .i64 8, .slice a0 n0 c0, .slice a1 n1 c1, .int .i64 uid, .int .i64 mode, .int .i64 fl, .int .i64 si, .slice a2 n2 c2]] w fun e w' => ∃ u, e = .returned u ∧ Bs w' u (kindW 8 ++ [32] ++ bx ++ [32] ++ digB sn) ∧ (∀ k, u.ownBlock = some k → w.heap.size ≤ k) ∧ Below w.heap.size w w' := by
  subst hx
  have HX : Hid (Below w.heap.size w (w.alloc (.cells #[.int .i64 8, .slice a0 n0 c0, .slice a1 n1 c1, .int .i64 uid, .int .i64 mode, .int .i64 fl, .int .i64 sn, .slice a2 n2 c2] 34))) := (Below.refl _ _).alloc (Nat.le_refl _) _
  have HK : Hid ((w.alloc (.cells #[.int .i64 8, .slice a0 n0 c0, .slice a1 n1 c1, .int .i64 uid, .int .i64 mode, .int .i64 fl, .int .i64 sn, .slice a2 n2 c2] 34)).heap[w.heap.size]? = some (.cells #[.int .i64 8, .slice a0 n0 c0, .slice a1 n1 c1, .int .i64 uid, .int .i64 mode, .int .i64 fl, .int .i64 sn, .slice a2 n2 c2] 34)) := box_new w _
  have hcv := run_convert_str (kindW 8)
  have hkw : (kindW 8).length ≤ 7 ∧ 0 < (kindW 8).length ∧ Oct (kindW 8) := by
    exact ⟨by decide, by decide, by intro x hx; simp [kindW] at hx; omega⟩
  have hq := fun W => bytesWorldQ W (kindW 8) hkw.2.2 (by omega)
  generalize hA : w.alloc (.cells #[.int .i64 8, .slice a0 n0 c0, .slice a1 n1 c1, .int .i64 uid, .int .i64 mode, .int .i64 fl, .int .i64 sn, .slice a2 n2 c2] 34) = A at HX HK
  have hAs : A.heap.size = w.heap.size + 1 := by rw [← hA]; simp
  generalize hkW : kindW 8 = kw at *
  go_enter Tryz.func37, Tryz.ntmps37
  obtain ⟨f0, f1, f2, f3, f4, f5, f6, f7⟩ := box8 HK.out
  have hlA := lt_of_heap HK.out
  go_wp2_with fail
  refine (l4kind_r 8 (by omega) _).mono ?_
  rw [hkW]
  rintro e w1 ⟨rfl, B⟩
  have hq1 := hq w1
  have hs1 := B.size
  generalize hW2 : Lib.bytesWorld w1 5 (strOfNums kw) = w2 at *
  have C2 := Below.step B hq1.2
  have ST : Hid (St A w2 w1.heap.size (.slice (some ⟨w1.heap.size, 0, none⟩) kw.length (grownCap w1 kw.length 0 5)) kw 7) := ⟨hs1, hq1.1, C2, hkw.2.1, hkw.1⟩
  have K2 := box_below C2 HK.out
  clear f0 f1 f2 f3 f4 f5 f6 f7 hlA hq hq1 B C2
  obtain ⟨f0, f1, f2, f3, f4, f5, f6, f7⟩ := box8 K2
  have hlA := lt_of_heap K2
  go_wp2_with fail
  refine (l4word_s A _ _ (.slice a0 n0 c0) kw bx 7 6 _ ST.out (HG.out _ (Below.step HX.out ST.out.old)).1 (bs_old_ne (HG.out _ (Below.refl _ _)).1 (by omega) hbx0) (by omega) (by omega)).mono ?_
  rintro e w3 ⟨v1, g1, rfl, ST1, G1, hg1⟩
  have S1 : Hid (St A w3 g1 v1 (kw ++ [32] ++ bx) 14) := ST1
  have K3 := box_below S1.out.old HK.out
  clear f0 f1 f2 f3 f4 f5 f6 f7 hlA ST1 G1 hg1 ST K2
  obtain ⟨f0, f1, f2, f3, f4, f5, f6, f7⟩ := box8 K3
  have hlA := lt_of_heap K3
  go_wp2_with fail
  refine (l4digits_r sn (by omega) _).mono ?_
  rintro e w4 ⟨u4, rfl, R4, B4⟩
  have S4 := hidm (St.below S1.out B4)
  have K4 := box_below B4 K3
  clear f0 f1 f2 f3 f4 f5 f6 f7 hlA K3
  go_wp2_with fail
  refine (l4word_s A g1 v1 u4 (kw ++ [32] ++ bx) (digB sn) 14 8 _ S4.out R4.bs (R4.ne S1.out.lt) (digB_len10 (by omega)) (by omega)).mono ?_
  rintro e w5 ⟨v5, g5, rfl, T5, G5, hg5⟩
  have S5 := hidm T5
  clear S1 S4 R4 B4 K4 T5 G5 hg5
  go_wp2
  go_ret
  exact ⟨_, rfl, by simpa using S5.out.own.bs, fun k hk => Nat.le_trans (by omega) (S5.out.made k hk), Below.step HX.out S5.out.old⟩

end Go.Proofs.YtifpjdpcmfneaaaGreatDoor

/- What l4text of package spec does: COPY. -/
namespace Go.Proofs.YtifpjdpcmfneaaaGreatDoor
open Go.RowKit
set_option maxRecDepth 100000
set_option linter.unusedVariables false

theorem tabTX16 : (Tryz.f37.body.bind (opsAt 16)).all (fun o => tableO o 9 [0, 1, 2, 5, 6, 3, 4, 7, 8] [5, 6, 7]) = true := by kernel_rfl

set_option maxRecDepth 100000 in
set_option maxHeartbeats 4000000 in
theorem l4text_6 (a0 a1 a2 : Option Addr) (n0 n1 n2 c0 c1 c2 : Nat) (bx tt : List Int) (uid mode fl si : Int) (tx : List Int) (w : World) (HG : Hid (∀ wi, Below w.heap.size w wi → Bs wi (.slice a0 n0 c0) bx ∧ Bs wi (.slice a1 n1 c1) tt ∧ Bs wi (.slice a2 n2 c2) tx)) (hbx : bx.length ≤ 6) (hbx0 : 0 < bx.length) (un : Nat) (hx : uid = un) (hun' : un ≤ 1000000) (htt : tt.length ≤ 6) (htt0 : 0 < tt.length) :
    Calls Tryz.prog 37 #[.agg #[.int .i64 6, .slice a0 n0 c0, .slice a1 n1 c1, .int .i64 uid, .int .i64 mode, .int .i64 fl, .int .i64 si, .slice a2 n2 c2]] w fun e w' => ∃ u, e = .returned u ∧ Bs w' u (kindW 6 ++ [32] ++ bx ++ [32] ++ digB un ++ [32] ++ tt ++ (if mode = 1 then [32] ++ awayW else [])) ∧ (∀ k, u.ownBlock = some k → w.heap.size ≤ k) ∧ Below w.heap.size w w' := by
  subst hx
  have hun : un ≤ 9999999 := by omega
  have HX : Hid (Below w.heap.size w (w.alloc (.cells #[.int .i64 6, .slice a0 n0 c0, .slice a1 n1 c1, .int .i64 un, .int .i64 mode, .int .i64 fl, .int .i64 si, .slice a2 n2 c2] 34))) := (Below.refl _ _).alloc (Nat.le_refl _) _
  have HK : Hid ((w.alloc (.cells #[.int .i64 6, .slice a0 n0 c0, .slice a1 n1 c1, .int .i64 un, .int .i64 mode, .int .i64 fl, .int .i64 si, .slice a2 n2 c2] 34)).heap[w.heap.size]? = some (.cells #[.int .i64 6, .slice a0 n0 c0, .slice a1 n1 c1, .int .i64 un, .int .i64 mode, .int .i64 fl, .int .i64 si, .slice a2 n2 c2] 34)) := box_new w _
  have hcv := run_convert_str (kindW 6)
  have hkw : (kindW 6).length ≤ 7 ∧ 0 < (kindW 6).length ∧ Oct (kindW 6) := by
    exact ⟨by decide, by decide, by intro x hx; simp [kindW] at hx; omega⟩
  have hq := fun W => bytesWorldQ W (kindW 6) hkw.2.2 (by omega)
  generalize hA : w.alloc (.cells #[.int .i64 6, .slice a0 n0 c0, .slice a1 n1 c1, .int .i64 un, .int .i64 mode, .int .i64 fl, .int .i64 si, .slice a2 n2 c2] 34) = A at HX HK
  have hAs : A.heap.size = w.heap.size + 1 := by rw [← hA]; simp
  generalize hkW : kindW 6 = kw at *
  go_enter Tryz.func37, Tryz.ntmps37
  obtain ⟨f0, f1, f2, f3, f4, f5, f6, f7⟩ := box8 HK.out
  have hlA := lt_of_heap HK.out
  go_wp2_with fail
  refine (l4kind_r 6 (by omega) _).mono ?_
  rw [hkW]
  rintro e w1 ⟨rfl, B⟩
  have hq1 := hq w1
  have hs1 := B.size
  generalize hW2 : Lib.bytesWorld w1 5 (strOfNums kw) = w2 at *
  have C2 := Below.step B hq1.2
  have ST : Hid (St A w2 w1.heap.size (.slice (some ⟨w1.heap.size, 0, none⟩) kw.length (grownCap w1 kw.length 0 5)) kw 7) := ⟨hs1, hq1.1, C2, hkw.2.1, hkw.1⟩
  have K2 := box_below C2 HK.out
  clear f0 f1 f2 f3 f4 f5 f6 f7 hlA hq hq1 B C2
  obtain ⟨f0, f1, f2, f3, f4, f5, f6, f7⟩ := box8 K2
  have hlA := lt_of_heap K2
  go_wp2_with fail
  refine (l4word_s A _ _ (.slice a0 n0 c0) kw bx 7 6 _ ST.out (HG.out _ (Below.step HX.out ST.out.old)).1 (bs_old_ne (HG.out _ (Below.refl _ _)).1 (by omega) hbx0) (by omega) (by omega)).mono ?_
  rintro e w3 ⟨v1, g1, rfl, ST1, G1, hg1⟩
  have S1 : Hid (St A w3 g1 v1 (kw ++ [32] ++ bx) 14) := ST1
  have K3 := box_below S1.out.old HK.out
  clear f0 f1 f2 f3 f4 f5 f6 f7 hlA ST1 G1 hg1 ST K2
  obtain ⟨f0, f1, f2, f3, f4, f5, f6, f7⟩ := box8 K3
  have hlA := lt_of_heap K3
  have HS : Hid (∀ w', Below A.heap.size A w' → w'.cell? ⟨w.heap.size, 2, none⟩ = some (.slice a1 n1 c1) ∧ w'.cell? ⟨w.heap.size, 3, none⟩ = some (.int .i64 un)) := by
    intro w' h
    obtain ⟨s0, s1, s2, s3, s4, s5, s6, s7⟩ := box8 (box_below h HK.out)
    exact ⟨s2, s3⟩
  have DR : Below w3.heap.size w3 w3.drew := (Below.refl _ _).drew
  have S1d : Hid (St A w3.drew g1 v1 (kw ++ [32] ++ bx) 14) := S1.out.below DR
  go_wp2
  refine wpO_begin (S := fun w' => w'.cell? ⟨w.heap.size, 2, none⟩ = some (.slice a1 n1 c1) ∧ w'.cell? ⟨w.heap.size, 3, none⟩ = some (.int .i64 un)) (tabO_of (by kernel_rfl) tabTX16) (by kernel_rfl) (HS.out _ S1d.out.old) (fun hTb hHeld => ?_)
  refine tkw 0 0 68 hTb hHeld ?_
  refine tkw 1 1 69 hTb hHeld ?_
  refine tkw 2 2 70 hTb hHeld ?_
  refine tkw 3 5 73 hTb hHeld ?_
  refine tkw 4 6 74 hTb hHeld ?_
  refine clo 5 3 hTb (by decide) rfl ?_
  refine AllReadyH.cons rfl (fun K hK => ?_) AllReadyH.nil
  go_simp
  refine (l4digits_r un hun _).mono ?_
  rintro e w4 ⟨u4, rfl, R4, B4⟩
  have S4 := hidm (St.below S1d.out B4)
  refine hK.out _ _ (HS.out _ S4.out.old) (fun hHeld => ?_)
  clear hK K
  refine wpOrd_in (n := 9) (p := 5) (i := 3) rfl rfl rfl ?_
  refine clo 6 4 hTb (by decide) rfl ?_
  refine AllReadyH.cons rfl (fun K hK => ?_) AllReadyH.nil
  go_simp
  refine (l4word_s A g1 v1 u4 (kw ++ [32] ++ bx) (digB un) 14 8 _ S4.out (R4.bs) (R4.ne S1d.out.lt) (by first | omega | exact flagsB_len _ | exact digB_len10 (by omega)) (by omega)).mono ?_
  rintro e w5 ⟨v5, g5, rfl, T5, G5, hg5⟩
  have S5 := hidm T5
  refine hK.out _ _ (HS.out _ S5.out.old) (fun hHeld => ?_)
  clear hK K
  refine wpOrd_in (n := 9) (p := 6) (i := 4) rfl rfl rfl ?_
  refine clo 7 7 hTb (by decide) rfl ?_
  refine AllReadyH.cons rfl (fun K hK => ?_) AllReadyH.nil
  go_simp
  refine (l4word_s A g5 v5 (.slice a1 n1 c1) ((kw ++ [32] ++ bx) ++ [32] ++ digB un) (tt) 23 6 _ S5.out ((HG.out _ (Below.step HX.out S5.out.old)).2.1) (bs_old_ne (HG.out _ (Below.refl _ _)).2.1 (by have := S5.out.ge; omega) htt0) (by first | omega | exact flagsB_len _ | exact digB_len10 (by omega)) (by omega)).mono ?_
  rintro e w6 ⟨v6, g6, rfl, T6, G6, hg6⟩
  have S6 := hidm T6
  refine hK.out _ _ (HS.out _ S6.out.old) (fun hHeld => ?_)
  clear hK K
  refine wpOrd_in (n := 9) (p := 7) (i := 7) rfl rfl rfl ?_
  refine tkw 8 8 3 hTb hHeld ?_
  refine wpO_end hTb ?_
  have K6 := box_below S6.out.old HK.out
  clear HS hHeld hTb DR S1 S1d R4 B4 T5 G5 hg5 T6 G6 hg6 S4 S5
  clear f0 f1 f2 f3 f4 f5 f6 f7 hlA K3
  obtain ⟨f0, f1, f2, f3, f4, f5, f6, f7⟩ := box8 K6
  have hlA := lt_of_heap K6
  by_cases hm : mode = 1
  · subst hm
    obtain ⟨w6x, hcs, qx, bx6⟩ : ∃ w', Sem.run Tryz.prog (convert 22 22 (.slice (some ⟨w6.heap.size, 0, none⟩) 4 4)) (w6.alloc (.cells #[.int .u8 65, .int .u8 87, .int .u8 65, .int .u8 89] 5)) = .ok (.slice (some ⟨w6.heap.size, 0, none⟩) 4 4) w' ∧ OwnQ w' w6.heap.size (.slice (some ⟨w6.heap.size, 0, none⟩) 4 4) awayW ∧ Below w6.heap.size w6 w' := lit_conv w6 awayW (by intro x hx; simp [awayW] at hx; omega) (by decide)
    have SA := hidm (St.below S6.out bx6)
    have BA := hidm qx.bs
    have hl6 := S6.out.lt
    clear qx bx6
    go_wp2_with fail
    refine (l4word_s A g6 v6 (.slice (some ⟨w6.heap.size, 0, none⟩) 4 4) (((kw ++ [32] ++ bx) ++ [32] ++ digB un) ++ [32] ++ tt) awayW 30 4 _ SA.out BA.out (by simp [Value.ownBlock]; omega) (by decide) (by omega)).mono ?_
    rintro e w7 ⟨v7, g7, rfl, T7, G7, hg7⟩
    have S7 := hidm T7
    clear f0 f1 f2 f3 f4 f5 f6 f7 hlA K6 SA BA hl6 hcs T7 G7 hg7
    go_wp2
    go_ret
    exact ⟨_, rfl, by simpa using S7.out.own.bs, fun k hk => Nat.le_trans (by omega) (S7.out.made k hk), Below.step HX.out S7.out.old⟩
  · have HM : Hid ((if mode = 1 then [32] ++ awayW else ([] : List Int)) = []) := by simp [Hid, hm]
    have hm2 : (mode == 1) = false := by simp [hm]
    go_wp2
    go_ret
    exact ⟨_, rfl, by first | (rw [HM.out]; simpa using S6.out.own.bs) | simpa using S6.out.own.bs, fun k hk => Nat.le_trans (by omega) (S6.out.made k hk), Below.step HX.out S6.out.old⟩

end Go.Proofs.YtifpjdpcmfneaaaGreatDoor

/- What l3name of package spec does. -/
namespace Go.Proofs.YtifpjdpcmfneaaaGreatDoor
open Go.RowKit
set_option maxRecDepth 100000

set_option maxHeartbeats 400000 in
theorem l3name_any (v : Value) (l : List Int) (w : World) (hv : Bs w v l) :
    Calls Tryz.prog 57 #[v] w fun e w' => e = .returned (.bool (nameB l)) ∧ w' = w := by
  obtain ⟨ho, a, cap, rfl, hlc, hcm, hnil, hcells⟩ := hv
  unfold maxLen at hcm
  by_cases h0 : 1 ≤ l.length
  · by_cases h1 : l.length ≤ 6
    · have HN : Hid (nameB l = allIn 97 122 l) := by simp [Hid, nameB, h0, h1]
      obtain ⟨b, off, rfl, hlb, hc⟩ := hcells (by omega)
      go_enter Tryz.func57, Tryz.ntmps57
      go_wp2
      go_loop [3] (fun i => ∃ k : Nat, k ≤ l.length ∧ i = .int .i64 k ∧ Hid (∀ j, j < k → 97 ≤ l.getD j 0 ∧ l.getD j 0 ≤ 122)) (fun i => l.length - (intOf i).toNat)
      case atStart => exact ⟨0, Nat.zero_le _, rfl, fun j hj => absurd hj (Nat.not_lt_zero _)⟩
      case round =>
        obtain ⟨k, hk, rfl, hA⟩ := hrel
        by_cases hlt : k < l.length
        · have hx := hc k hlt
          have hbx := oct_get ho k
          have HY : Hid (l.getD k 0 = l.getD k 0) := rfl
          generalize hy : l.getD k 0 = x at hx hbx HY
          have HX : Hid (l.getD k 0 = x) := hy
          clear hy HY hc
          by_cases c1 : 97 ≤ x
          · by_cases c2 : x ≤ 122
            · go_wp2
              go_round
              case rel =>
                refine ⟨k + 1, by omega, by go_num, (show Hid _ from fun j hj => ?_)⟩
                by_cases e : j = k
                · subst e; rw [HX.out]; exact ⟨c1, c2⟩
                · exact hA.out j (by omega)
              case measure => simp [intOf]; omega
            · go_wp2
              go_ret
              exact ⟨ret_b (a := false) (by rw [HN.out, allIn_no k hlt (by rw [HX.out]; omega)]), rfl⟩
          · go_wp2
            go_ret
            exact ⟨ret_b (a := false) (by rw [HN.out, allIn_no k hlt (by rw [HX.out]; omega)]), rfl⟩
        · obtain rfl : k = l.length := by omega
          go_wp2
          go_ret
          exact ⟨ret_b (a := true) (by rw [HN.out, allIn_yes hA.out]), rfl⟩
    · have HN : Hid (nameB l = false) := by simp [Hid, nameB, h1]
      go_enter Tryz.func57, Tryz.ntmps57
      go_wp2
      go_ret
      exact ⟨ret_b (a := false) HN.out, rfl⟩
  · have HN : Hid (nameB l = false) := by simp [Hid, nameB, h0]
    go_enter Tryz.func57, Tryz.ntmps57
    go_wp2
    go_ret
    exact ⟨ret_b (a := false) HN.out, rfl⟩

end Go.Proofs.YtifpjdpcmfneaaaGreatDoor

/- What l3text of package spec does. -/
namespace Go.Proofs.YtifpjdpcmfneaaaGreatDoor
open Go.RowKit
set_option maxRecDepth 100000

set_option maxHeartbeats 400000 in
theorem l3text_any (v : Value) (l : List Int) (w : World) (hv : Bs w v l) :
    Calls Tryz.prog 59 #[v] w fun e w' => e = .returned (.bool (textB l)) ∧ w' = w := by
  obtain ⟨ho, a, cap, rfl, hlc, hcm, hnil, hcells⟩ := hv
  unfold maxLen at hcm
  by_cases h0 : l.length ≤ 30
  · by_cases h1 : True
    · have HN : Hid (textB l = allIn 32 126 l) := by simp [Hid, textB, h0]
      clear h1
      go_enter Tryz.func59, Tryz.ntmps59
      go_wp2
      go_loop [3] (fun i => ∃ k : Nat, k ≤ l.length ∧ i = .int .i64 k ∧ Hid (∀ j, j < k → 32 ≤ l.getD j 0 ∧ l.getD j 0 ≤ 126)) (fun i => l.length - (intOf i).toNat)
      case atStart => exact ⟨0, Nat.zero_le _, rfl, fun j hj => absurd hj (Nat.not_lt_zero _)⟩
      case round =>
        obtain ⟨k, hk, rfl, hA⟩ := hrel
        by_cases hlt : k < l.length
        · obtain ⟨b, off, rfl, hlb, hc⟩ := hcells (by omega)
          have hx := hc k hlt
          have hbx := oct_get ho k
          have HY : Hid (l.getD k 0 = l.getD k 0) := rfl
          generalize hy : l.getD k 0 = x at hx hbx HY
          have HX : Hid (l.getD k 0 = x) := hy
          clear hy HY hc hcells
          by_cases c1 : 32 ≤ x
          · by_cases c2 : x ≤ 126
            · go_wp2
              go_round
              case rel =>
                refine ⟨k + 1, by omega, by go_num, (show Hid _ from fun j hj => ?_)⟩
                by_cases e : j = k
                · subst e; rw [HX.out]; exact ⟨c1, c2⟩
                · exact hA.out j (by omega)
              case measure => simp [intOf]; omega
            · go_wp2
              go_ret
              exact ⟨ret_b (a := false) (by rw [HN.out, allIn_no k hlt (by rw [HX.out]; omega)]), rfl⟩
          · go_wp2
            go_ret
            exact ⟨ret_b (a := false) (by rw [HN.out, allIn_no k hlt (by rw [HX.out]; omega)]), rfl⟩
        · obtain rfl : k = l.length := by omega
          go_wp2
          go_ret
          exact ⟨ret_b (a := true) (by rw [HN.out, allIn_yes hA.out]), rfl⟩
    · exact absurd trivial h1
  · have HN : Hid (textB l = false) := by simp [Hid, textB, h0]
    go_enter Tryz.func59, Tryz.ntmps59
    go_wp2
    go_ret
    exact ⟨ret_b (a := false) HN.out, rfl⟩

end Go.Proofs.YtifpjdpcmfneaaaGreatDoor

/- What l3parts and l3seq of package spec do. -/
namespace Go.Proofs.YtifpjdpcmfneaaaGreatDoor
open Go.RowKit
set_option maxRecDepth 100000

set_option maxHeartbeats 400000 in
theorem l3parts_any (k : Int) (w : World) :
    Calls Tryz.prog 58 #[.int .i64 k] w fun e w' => e = .returned (.tuple #[.bool (toB k), .bool (uidB k), .bool (modeB k), .bool (sinceB k), .bool (textsB k)]) ∧ w' = w := by
  go_enter Tryz.func58, Tryz.ntmps58
  go_wp2
  all_goals exact bodyPost_ret (v := .tuple #[.bool (toB k), .bool (uidB k), .bool (modeB k), .bool (sinceB k), .bool (textsB k)]) (by simp [results, Tryz.results58, go_sem, toB, uidB, modeB, sinceB, textsB, *] <;> (simp only [beq_iff_eq, beq_eq_false_iff_ne, ne_eq] at *; omega)) rfl ⟨rfl, rfl⟩

theorem l3seq_any (n : Int) (w : World) :
    Calls Tryz.prog 31 #[.int .i64 n] w fun e w' => e = .returned (.bool (inB n 0 1000000)) ∧ w' = w := by
  go_enter Tryz.func31, Tryz.ntmps31
  go_wp2
  all_goals (go_ret; exact ⟨by simp [inB, *] <;> omega, rfl⟩)

end Go.Proofs.YtifpjdpcmfneaaaGreatDoor

/- What CmdOk of package spec does of a kind that has a name alone. -/
namespace Go.Proofs.YtifpjdpcmfneaaaGreatDoor
open Go.RowKit
set_option maxRecDepth 100000
set_option linter.unusedVariables false

set_option maxRecDepth 100000 in
set_option maxHeartbeats 4000000 in
theorem specCmdOk_A (k : Int) (h00 : 0 ≤ k) (h01 : k ≤ 9) (h2 : ¬ k = 2) (h3 : ¬ k = 3) (h5 : ¬ k = 5) (h6 : ¬ k = 6) (h8 : ¬ k = 8) (h9 : ¬ k = 9) (a0 a1 a2 : Option Addr) (nb nt nx c0 c1 c2 : Nat) (bx tt : List Int) (uid mode fl si : Int) (tx : List Int) (w : World) (HN : Hid (bx.length = nb ∧ tt.length = nt ∧ tx.length = nx))
    (H0 : Hid (∀ o, Bs (w.alloc o) (.slice a0 nb c0) bx ∧ Bs (w.alloc o) (.slice a1 nt c1) tt ∧ Bs (w.alloc o) (.slice a2 nx c2) tx)) (i10 : -9223372036854775808 ≤ uid) (i11 : uid ≤ 9223372036854775807) (i20 : -9223372036854775808 ≤ mode) (i21 : mode ≤ 9223372036854775807) (i30 : -9223372036854775808 ≤ fl) (i31 : fl ≤ 9223372036854775807) (i40 : -9223372036854775808 ≤ si) (i41 : si ≤ 9223372036854775807) :
    Calls Tryz.prog 33 #[.agg #[.int .i64 k, .slice a0 nb c0, .slice a1 nt c1, .int .i64 uid, .int .i64 mode, .int .i64 fl, .int .i64 si, .slice a2 nx c2]] w fun e w' => e = .returned (.bool (cmdB k bx tt uid mode fl si tx)) ∧ Below w.heap.size w w' := by
  have hp : ∀ w, Calls Tryz.prog 58 #[.int .i64 k] w fun e w' => e = .returned (.tuple #[.bool false, .bool false, .bool false, .bool false, .bool false]) ∧ w' = w := fun w => by
    have h := l3parts_any k w
    rwa [show toB k = false by simp [toB, h6], show uidB k = false by simp [uidB, h3, h5, h6], show modeB k = false by simp [modeB, h2, h3, h6], show sinceB k = false by simp [sinceB, h3, h8], show textsB k = false by simp [textsB, h2]] at h
  have ab : Hid (∀ o, Below w.heap.size w (w.alloc o)) := fun o => (Below.refl _ _).alloc (Nat.le_refl _) o
  rcases Nat.eq_zero_or_pos nb with rfl | hnb
  all_goals rcases Nat.eq_zero_or_pos nt with rfl | hnt
  all_goals try have hnb' : (nb : Int) ≠ 0 := by omega
  all_goals try have hnt' : (nt : Int) ≠ 0 := by omega
  all_goals try have hnt2 : (0 : Int) < nt := by omega
  all_goals go_enter Tryz.func33, Tryz.ntmps33
  all_goals go_wp2_with (first
    | (go_at_call 57; (refine (l3name_any _ bx _ (H0.out _).1).mono ?_); rintro e w' ⟨rfl, rfl⟩)
    | (go_at_call 59; refine (l3text_any _ tx _ (H0.out _).2.2).mono ?_; rintro e w' ⟨rfl, rfl⟩)
    | (go_at_call 58; refine (hp _).mono ?_; rintro e w' ⟨rfl, rfl⟩)
    | (go_at_call 31; refine (l3seq_any _ _).mono ?_; rintro e w' ⟨rfl, rfl⟩))
  all_goals go_ret
  all_goals refine ⟨ret_b ?_, ab.out _⟩
  all_goals clear hp H0
  all_goals have HN' := HN.out
  all_goals (try go_light)
  all_goals obtain ⟨e0, e1, e2⟩ := HN'
  all_goals clear HN ab
  all_goals have z0 := nameB_nil (l := bx)
  all_goals have z1 := nameB_nil (l := tt)
  all_goals have z2 := textB_nil (l := tx)
  all_goals (try have y0 := HX.out)
  all_goals (try have y1 := HY.out)
  all_goals (try clear HX HY)
  all_goals (rcases (show k = 0 ∨ k = 1 ∨ k = 4 ∨ k = 7 by omega) with rfl | rfl | rfl | rfl)
  all_goals (unfold cmdB; unfold inB at *; cases hn : nameB bx <;> cases hm : nameB tt <;> cases ht : textB tx <;> simp [hn, hm, ht, e0, e1, e2] at * <;> first | omega | (rw [Bool.eq_iff_iff]; simp; omega))

end Go.Proofs.YtifpjdpcmfneaaaGreatDoor

/- What CmdOk of package spec does of kind 2. -/
namespace Go.Proofs.YtifpjdpcmfneaaaGreatDoor
open Go.RowKit
set_option maxRecDepth 100000
set_option linter.unusedVariables false

set_option maxRecDepth 100000 in
set_option maxHeartbeats 4000000 in
theorem specCmdOk_2 (a0 a1 a2 : Option Addr) (nb nt nx c0 c1 c2 : Nat) (bx tt : List Int) (uid mode fl si : Int) (tx : List Int) (w : World) (HN : Hid (bx.length = nb ∧ tt.length = nt ∧ tx.length = nx))
    (H0 : Hid (∀ o, Bs (w.alloc o) (.slice a0 nb c0) bx ∧ Bs (w.alloc o) (.slice a1 nt c1) tt ∧ Bs (w.alloc o) (.slice a2 nx c2) tx)) (i10 : -9223372036854775808 ≤ uid) (i11 : uid ≤ 9223372036854775807) (i20 : -9223372036854775808 ≤ mode) (i21 : mode ≤ 9223372036854775807) (i30 : -9223372036854775808 ≤ fl) (i31 : fl ≤ 9223372036854775807) (i40 : -9223372036854775808 ≤ si) (i41 : si ≤ 9223372036854775807) :
    Calls Tryz.prog 33 #[.agg #[.int .i64 2, .slice a0 nb c0, .slice a1 nt c1, .int .i64 uid, .int .i64 mode, .int .i64 fl, .int .i64 si, .slice a2 nx c2]] w fun e w' => e = .returned (.bool (cmdB 2 bx tt uid mode fl si tx)) ∧ Below w.heap.size w w' := by
  have hp : ∀ w, Calls Tryz.prog 58 #[.int .i64 2] w fun e w' => e = .returned (.tuple #[.bool false, .bool false, .bool true, .bool false, .bool true]) ∧ w' = w := fun w => l3parts_any 2 w
  have ab : Hid (∀ o, Below w.heap.size w (w.alloc o)) := fun o => (Below.refl _ _).alloc (Nat.le_refl _) o
  rcases Nat.eq_zero_or_pos nb with rfl | hnb
  all_goals rcases Nat.eq_zero_or_pos nt with rfl | hnt
  all_goals try have hnb' : (nb : Int) ≠ 0 := by omega
  all_goals try have hnt' : (nt : Int) ≠ 0 := by omega
  all_goals try have hnt2 : (0 : Int) < nt := by omega
  all_goals go_enter Tryz.func33, Tryz.ntmps33
  all_goals go_wp2_with (first
    | (go_at_call 57; (refine (l3name_any _ bx _ (H0.out _).1).mono ?_); rintro e w' ⟨rfl, rfl⟩)
    | (go_at_call 59; refine (l3text_any _ tx _ (H0.out _).2.2).mono ?_; rintro e w' ⟨rfl, rfl⟩)
    | (go_at_call 58; refine (hp _).mono ?_; rintro e w' ⟨rfl, rfl⟩)
    | (go_at_call 31; refine (l3seq_any _ _).mono ?_; rintro e w' ⟨rfl, rfl⟩))
  all_goals go_ret
  all_goals refine ⟨ret_b ?_, ab.out _⟩
  all_goals clear hp H0
  all_goals have HN' := HN.out
  all_goals (try go_light)
  all_goals obtain ⟨e0, e1, e2⟩ := HN'
  all_goals clear HN ab
  all_goals have z0 := nameB_nil (l := bx)
  all_goals have z1 := nameB_nil (l := tt)
  all_goals have z2 := textB_nil (l := tx)
  all_goals (try have y0 := HX.out)
  all_goals (try have y1 := HY.out)
  all_goals (try clear HX HY)
  all_goals (unfold cmdB; unfold inB at *; cases hn : nameB bx <;> cases hm : nameB tt <;> cases ht : textB tx <;> simp [hn, hm, ht, e0, e1, e2] at * <;> first | omega | (rw [Bool.eq_iff_iff]; simp; omega))

end Go.Proofs.YtifpjdpcmfneaaaGreatDoor

/- What CmdOk of package spec does of kind 3. -/
namespace Go.Proofs.YtifpjdpcmfneaaaGreatDoor
open Go.RowKit
set_option maxRecDepth 100000
set_option linter.unusedVariables false

set_option maxRecDepth 100000 in
set_option maxHeartbeats 4000000 in
theorem specCmdOk_3 (a0 a1 a2 : Option Addr) (nb nt nx c0 c1 c2 : Nat) (bx tt : List Int) (uid mode fl si : Int) (tx : List Int) (w : World) (HN : Hid (bx.length = nb ∧ tt.length = nt ∧ tx.length = nx))
    (H0 : Hid (∀ o, Bs (w.alloc o) (.slice a0 nb c0) bx ∧ Bs (w.alloc o) (.slice a1 nt c1) tt ∧ Bs (w.alloc o) (.slice a2 nx c2) tx)) (i10 : -9223372036854775808 ≤ uid) (i11 : uid ≤ 9223372036854775807) (i20 : -9223372036854775808 ≤ mode) (i21 : mode ≤ 9223372036854775807) (i30 : -9223372036854775808 ≤ fl) (i31 : fl ≤ 9223372036854775807) (i40 : -9223372036854775808 ≤ si) (i41 : si ≤ 9223372036854775807) :
    Calls Tryz.prog 33 #[.agg #[.int .i64 3, .slice a0 nb c0, .slice a1 nt c1, .int .i64 uid, .int .i64 mode, .int .i64 fl, .int .i64 si, .slice a2 nx c2]] w fun e w' => e = .returned (.bool (cmdB 3 bx tt uid mode fl si tx)) ∧ Below w.heap.size w w' := by
  have hp : ∀ w, Calls Tryz.prog 58 #[.int .i64 3] w fun e w' => e = .returned (.tuple #[.bool false, .bool true, .bool true, .bool true, .bool false]) ∧ w' = w := fun w => l3parts_any 3 w
  have ab : Hid (∀ o, Below w.heap.size w (w.alloc o)) := fun o => (Below.refl _ _).alloc (Nat.le_refl _) o
  rcases Nat.eq_zero_or_pos nb with rfl | hnb
  all_goals rcases Nat.eq_zero_or_pos nt with rfl | hnt
  all_goals try have hnb' : (nb : Int) ≠ 0 := by omega
  all_goals try have hnt' : (nt : Int) ≠ 0 := by omega
  all_goals try have hnt2 : (0 : Int) < nt := by omega
  all_goals go_enter Tryz.func33, Tryz.ntmps33
  all_goals go_wp2_with (first
    | (go_at_call 57; (refine (l3name_any _ bx _ (H0.out _).1).mono ?_); rintro e w' ⟨rfl, rfl⟩)
    | (go_at_call 59; refine (l3text_any _ tx _ (H0.out _).2.2).mono ?_; rintro e w' ⟨rfl, rfl⟩)
    | (go_at_call 58; refine (hp _).mono ?_; rintro e w' ⟨rfl, rfl⟩)
    | (go_at_call 31; refine (l3seq_any _ _).mono ?_; rintro e w' ⟨rfl, rfl⟩))
  all_goals go_ret
  all_goals refine ⟨ret_b ?_, ab.out _⟩
  all_goals clear hp H0
  all_goals have HN' := HN.out
  all_goals (try go_light)
  all_goals obtain ⟨e0, e1, e2⟩ := HN'
  all_goals clear HN ab
  all_goals have z0 := nameB_nil (l := bx)
  all_goals have z1 := nameB_nil (l := tt)
  all_goals have z2 := textB_nil (l := tx)
  all_goals (try have y0 := HX.out)
  all_goals (try have y1 := HY.out)
  all_goals (try clear HX HY)
  all_goals (unfold cmdB; unfold inB at *; cases hn : nameB bx <;> cases hm : nameB tt <;> cases ht : textB tx <;> simp [hn, hm, ht, e0, e1, e2] at * <;> first | omega | (rw [Bool.eq_iff_iff]; simp; omega))

end Go.Proofs.YtifpjdpcmfneaaaGreatDoor

/- What CmdOk of package spec does of kind 5. -/
namespace Go.Proofs.YtifpjdpcmfneaaaGreatDoor
open Go.RowKit
set_option maxRecDepth 100000
set_option linter.unusedVariables false

set_option maxRecDepth 100000 in
set_option maxHeartbeats 4000000 in
theorem specCmdOk_5 (a0 a1 a2 : Option Addr) (nb nt nx c0 c1 c2 : Nat) (bx tt : List Int) (uid mode fl si : Int) (tx : List Int) (w : World) (HN : Hid (bx.length = nb ∧ tt.length = nt ∧ tx.length = nx))
    (H0 : Hid (∀ o, Bs (w.alloc o) (.slice a0 nb c0) bx ∧ Bs (w.alloc o) (.slice a1 nt c1) tt ∧ Bs (w.alloc o) (.slice a2 nx c2) tx)) (i10 : -9223372036854775808 ≤ uid) (i11 : uid ≤ 9223372036854775807) (i20 : -9223372036854775808 ≤ mode) (i21 : mode ≤ 9223372036854775807) (i30 : -9223372036854775808 ≤ fl) (i31 : fl ≤ 9223372036854775807) (i40 : -9223372036854775808 ≤ si) (i41 : si ≤ 9223372036854775807) :
    Calls Tryz.prog 33 #[.agg #[.int .i64 5, .slice a0 nb c0, .slice a1 nt c1, .int .i64 uid, .int .i64 mode, .int .i64 fl, .int .i64 si, .slice a2 nx c2]] w fun e w' => e = .returned (.bool (cmdB 5 bx tt uid mode fl si tx)) ∧ Below w.heap.size w w' := by
  have hp : ∀ w, Calls Tryz.prog 58 #[.int .i64 5] w fun e w' => e = .returned (.tuple #[.bool false, .bool true, .bool false, .bool false, .bool false]) ∧ w' = w := fun w => l3parts_any 5 w
  have ab : Hid (∀ o, Below w.heap.size w (w.alloc o)) := fun o => (Below.refl _ _).alloc (Nat.le_refl _) o
  rcases Nat.eq_zero_or_pos nb with rfl | hnb
  all_goals rcases Nat.eq_zero_or_pos nt with rfl | hnt
  all_goals try have hnb' : (nb : Int) ≠ 0 := by omega
  all_goals try have hnt' : (nt : Int) ≠ 0 := by omega
  all_goals try have hnt2 : (0 : Int) < nt := by omega
  all_goals go_enter Tryz.func33, Tryz.ntmps33
  all_goals go_wp2_with (first
    | (go_at_call 57; (refine (l3name_any _ bx _ (H0.out _).1).mono ?_); rintro e w' ⟨rfl, rfl⟩)
    | (go_at_call 59; refine (l3text_any _ tx _ (H0.out _).2.2).mono ?_; rintro e w' ⟨rfl, rfl⟩)
    | (go_at_call 58; refine (hp _).mono ?_; rintro e w' ⟨rfl, rfl⟩)
    | (go_at_call 31; refine (l3seq_any _ _).mono ?_; rintro e w' ⟨rfl, rfl⟩))
  all_goals go_ret
  all_goals refine ⟨ret_b ?_, ab.out _⟩
  all_goals clear hp H0
  all_goals have HN' := HN.out
  all_goals (try go_light)
  all_goals obtain ⟨e0, e1, e2⟩ := HN'
  all_goals clear HN ab
  all_goals have z0 := nameB_nil (l := bx)
  all_goals have z1 := nameB_nil (l := tt)
  all_goals have z2 := textB_nil (l := tx)
  all_goals (try have y0 := HX.out)
  all_goals (try have y1 := HY.out)
  all_goals (try clear HX HY)
  all_goals (unfold cmdB; unfold inB at *; cases hn : nameB bx <;> cases hm : nameB tt <;> cases ht : textB tx <;> simp [hn, hm, ht, e0, e1, e2] at * <;> first | omega | (rw [Bool.eq_iff_iff]; simp; omega))

end Go.Proofs.YtifpjdpcmfneaaaGreatDoor

/- What CmdOk of package spec does of kind 6. -/
namespace Go.Proofs.YtifpjdpcmfneaaaGreatDoor
open Go.RowKit
set_option maxRecDepth 100000
set_option linter.unusedVariables false

set_option maxRecDepth 100000 in
set_option maxHeartbeats 4000000 in
theorem specCmdOk_6 (a0 a1 a2 : Option Addr) (nb nt nx c0 c1 c2 : Nat) (bx tt : List Int) (uid mode fl si : Int) (tx : List Int) (w : World) (HN : Hid (bx.length = nb ∧ tt.length = nt ∧ tx.length = nx))
    (H0 : Hid (∀ o, Bs (w.alloc o) (.slice a0 nb c0) bx ∧ Bs (w.alloc o) (.slice a1 nt c1) tt ∧ Bs (w.alloc o) (.slice a2 nx c2) tx)) (i10 : -9223372036854775808 ≤ uid) (i11 : uid ≤ 9223372036854775807) (i20 : -9223372036854775808 ≤ mode) (i21 : mode ≤ 9223372036854775807) (i30 : -9223372036854775808 ≤ fl) (i31 : fl ≤ 9223372036854775807) (i40 : -9223372036854775808 ≤ si) (i41 : si ≤ 9223372036854775807) :
    Calls Tryz.prog 33 #[.agg #[.int .i64 6, .slice a0 nb c0, .slice a1 nt c1, .int .i64 uid, .int .i64 mode, .int .i64 fl, .int .i64 si, .slice a2 nx c2]] w fun e w' => e = .returned (.bool (cmdB 6 bx tt uid mode fl si tx)) ∧ Below w.heap.size w w' := by
  have hp : ∀ w, Calls Tryz.prog 58 #[.int .i64 6] w fun e w' => e = .returned (.tuple #[.bool true, .bool true, .bool true, .bool false, .bool false]) ∧ w' = w := fun w => l3parts_any 6 w
  have ab : Hid (∀ o, Below w.heap.size w (w.alloc o)) := fun o => (Below.refl _ _).alloc (Nat.le_refl _) o
  rcases Nat.eq_zero_or_pos nb with rfl | hnb
  · go_enter Tryz.func33, Tryz.ntmps33
    go_wp2
    go_ret
    exact ⟨ret_b (by have h0 := nameB_nil HN.out.1; unfold cmdB; simp [h0]), ab.out _⟩
  have hnb' : (nb : Int) ≠ 0 := by omega
  have hn0 : ∀ o, Calls Tryz.prog 57 #[.slice a0 nb c0] (w.alloc o) fun e w' => e = .returned (.bool (nameB bx)) ∧ w' = w.alloc o := fun o => l3name_any _ bx _ (H0.out o).1
  have hn1 : ∀ o, Calls Tryz.prog 57 #[.slice a1 nt c1] (w.alloc o) fun e w' => e = .returned (.bool (nameB tt)) ∧ w' = w.alloc o := fun o => l3name_any _ tt _ (H0.out o).2.1
  generalize hX : nameB bx = X at hn0
  generalize hY : nameB tt = Y at hn1
  have HX : Hid (nameB bx = X) := hX
  have HY : Hid (nameB tt = Y) := hY
  clear hX hY
  rcases X with _ | _
  · go_enter Tryz.func33, Tryz.ntmps33
    go_wp2_with fail
    refine (hn0 _).mono ?_
    rintro e w' ⟨rfl, rfl⟩
    go_wp2
    go_ret
    exact ⟨ret_b (by have h0 := HX.out; unfold cmdB; simp [h0]), ab.out _⟩
  rcases Nat.eq_zero_or_pos nt with rfl | hnt
  · go_enter Tryz.func33, Tryz.ntmps33
    go_wp2_with fail
    refine (hn0 _).mono ?_
    rintro e w' ⟨rfl, rfl⟩
    go_wp2_with (first
    | (go_at_call 59; refine (l3text_any _ tx _ (H0.out _).2.2).mono ?_; rintro e w' ⟨rfl, rfl⟩)
    | (go_at_call 58; refine (hp _).mono ?_; rintro e w' ⟨rfl, rfl⟩)
    | (go_at_call 31; refine (l3seq_any _ _).mono ?_; rintro e w' ⟨rfl, rfl⟩))
    go_ret
    exact ⟨ret_b (by have h0 := nameB_nil HN.out.2.1; unfold cmdB; simp [h0]), ab.out _⟩
  have hnt' : (nt : Int) ≠ 0 := by omega
  have hnt2 : (0 : Int) < nt := by omega
  rcases Y with _ | _
  · go_enter Tryz.func33, Tryz.ntmps33
    go_wp2_with fail
    refine (hn0 _).mono ?_
    rintro e w' ⟨rfl, rfl⟩
    go_wp2_with (first
    | (go_at_call 59; refine (l3text_any _ tx _ (H0.out _).2.2).mono ?_; rintro e w' ⟨rfl, rfl⟩)
    | (go_at_call 58; refine (hp _).mono ?_; rintro e w' ⟨rfl, rfl⟩)
    | (go_at_call 31; refine (l3seq_any _ _).mono ?_; rintro e w' ⟨rfl, rfl⟩))
    refine (hn1 _).mono ?_
    rintro e w' ⟨rfl, rfl⟩
    go_wp2_with (first
    | (go_at_call 59; refine (l3text_any _ tx _ (H0.out _).2.2).mono ?_; rintro e w' ⟨rfl, rfl⟩)
    | (go_at_call 58; refine (hp _).mono ?_; rintro e w' ⟨rfl, rfl⟩)
    | (go_at_call 31; refine (l3seq_any _ _).mono ?_; rintro e w' ⟨rfl, rfl⟩))
    go_ret
    exact ⟨ret_b (by have h0 := HY.out; unfold cmdB; simp [h0]), ab.out _⟩
  go_enter Tryz.func33, Tryz.ntmps33
  go_wp2_with fail
  refine (hn0 _).mono ?_
  rintro e w' ⟨rfl, rfl⟩
  go_wp2_with (first
    | (go_at_call 59; refine (l3text_any _ tx _ (H0.out _).2.2).mono ?_; rintro e w' ⟨rfl, rfl⟩)
    | (go_at_call 58; refine (hp _).mono ?_; rintro e w' ⟨rfl, rfl⟩)
    | (go_at_call 31; refine (l3seq_any _ _).mono ?_; rintro e w' ⟨rfl, rfl⟩))
  refine (hn1 _).mono ?_
  rintro e w' ⟨rfl, rfl⟩
  go_wp2_with (first
    | (go_at_call 59; refine (l3text_any _ tx _ (H0.out _).2.2).mono ?_; rintro e w' ⟨rfl, rfl⟩)
    | (go_at_call 58; refine (hp _).mono ?_; rintro e w' ⟨rfl, rfl⟩)
    | (go_at_call 31; refine (l3seq_any _ _).mono ?_; rintro e w' ⟨rfl, rfl⟩))
  all_goals go_ret
  all_goals refine ⟨ret_b ?_, ab.out _⟩
  all_goals clear hp H0 hn0 hn1
  all_goals have HN' := HN.out
  all_goals (try go_light)
  all_goals obtain ⟨e0, e1, e2⟩ := HN'
  all_goals clear HN ab
  all_goals have z0 := nameB_nil (l := bx)
  all_goals have z1 := nameB_nil (l := tt)
  all_goals have z2 := textB_nil (l := tx)
  all_goals (try have y0 := HX.out)
  all_goals (try have y1 := HY.out)
  all_goals (try clear HX HY)
  all_goals (unfold cmdB; unfold inB at *; cases hn : nameB bx <;> cases hm : nameB tt <;> cases ht : textB tx <;> simp [hn, hm, ht, e0, e1, e2] at * <;> first | omega | (rw [Bool.eq_iff_iff]; simp; omega))

end Go.Proofs.YtifpjdpcmfneaaaGreatDoor

/- What CmdOk of package spec does of kind 8. -/
namespace Go.Proofs.YtifpjdpcmfneaaaGreatDoor
open Go.RowKit
set_option maxRecDepth 100000
set_option linter.unusedVariables false

set_option maxRecDepth 100000 in
set_option maxHeartbeats 4000000 in
theorem specCmdOk_8 (a0 a1 a2 : Option Addr) (nb nt nx c0 c1 c2 : Nat) (bx tt : List Int) (uid mode fl si : Int) (tx : List Int) (w : World) (HN : Hid (bx.length = nb ∧ tt.length = nt ∧ tx.length = nx))
    (H0 : Hid (∀ o, Bs (w.alloc o) (.slice a0 nb c0) bx ∧ Bs (w.alloc o) (.slice a1 nt c1) tt ∧ Bs (w.alloc o) (.slice a2 nx c2) tx)) (i10 : -9223372036854775808 ≤ uid) (i11 : uid ≤ 9223372036854775807) (i20 : -9223372036854775808 ≤ mode) (i21 : mode ≤ 9223372036854775807) (i30 : -9223372036854775808 ≤ fl) (i31 : fl ≤ 9223372036854775807) (i40 : -9223372036854775808 ≤ si) (i41 : si ≤ 9223372036854775807) :
    Calls Tryz.prog 33 #[.agg #[.int .i64 8, .slice a0 nb c0, .slice a1 nt c1, .int .i64 uid, .int .i64 mode, .int .i64 fl, .int .i64 si, .slice a2 nx c2]] w fun e w' => e = .returned (.bool (cmdB 8 bx tt uid mode fl si tx)) ∧ Below w.heap.size w w' := by
  have hp : ∀ w, Calls Tryz.prog 58 #[.int .i64 8] w fun e w' => e = .returned (.tuple #[.bool false, .bool false, .bool false, .bool true, .bool false]) ∧ w' = w := fun w => l3parts_any 8 w
  have ab : Hid (∀ o, Below w.heap.size w (w.alloc o)) := fun o => (Below.refl _ _).alloc (Nat.le_refl _) o
  rcases Nat.eq_zero_or_pos nb with rfl | hnb
  all_goals rcases Nat.eq_zero_or_pos nt with rfl | hnt
  all_goals try have hnb' : (nb : Int) ≠ 0 := by omega
  all_goals try have hnt' : (nt : Int) ≠ 0 := by omega
  all_goals try have hnt2 : (0 : Int) < nt := by omega
  all_goals go_enter Tryz.func33, Tryz.ntmps33
  all_goals go_wp2_with (first
    | (go_at_call 57; (refine (l3name_any _ bx _ (H0.out _).1).mono ?_); rintro e w' ⟨rfl, rfl⟩)
    | (go_at_call 59; refine (l3text_any _ tx _ (H0.out _).2.2).mono ?_; rintro e w' ⟨rfl, rfl⟩)
    | (go_at_call 58; refine (hp _).mono ?_; rintro e w' ⟨rfl, rfl⟩)
    | (go_at_call 31; refine (l3seq_any _ _).mono ?_; rintro e w' ⟨rfl, rfl⟩))
  all_goals go_ret
  all_goals refine ⟨ret_b ?_, ab.out _⟩
  all_goals clear hp H0
  all_goals have HN' := HN.out
  all_goals (try go_light)
  all_goals obtain ⟨e0, e1, e2⟩ := HN'
  all_goals clear HN ab
  all_goals have z0 := nameB_nil (l := bx)
  all_goals have z1 := nameB_nil (l := tt)
  all_goals have z2 := textB_nil (l := tx)
  all_goals (try have y0 := HX.out)
  all_goals (try have y1 := HY.out)
  all_goals (try clear HX HY)
  all_goals (unfold cmdB; unfold inB at *; cases hn : nameB bx <;> cases hm : nameB tt <;> cases ht : textB tx <;> simp [hn, hm, ht, e0, e1, e2] at * <;> first | omega | (rw [Bool.eq_iff_iff]; simp; omega))

end Go.Proofs.YtifpjdpcmfneaaaGreatDoor

/- What CmdOk of package spec does of kind 9. -/
namespace Go.Proofs.YtifpjdpcmfneaaaGreatDoor
open Go.RowKit
set_option maxRecDepth 100000
set_option linter.unusedVariables false

set_option maxRecDepth 100000 in
set_option maxHeartbeats 4000000 in
theorem specCmdOk_9 (a0 a1 a2 : Option Addr) (nb nt nx c0 c1 c2 : Nat) (bx tt : List Int) (uid mode fl si : Int) (tx : List Int) (w : World) (HN : Hid (bx.length = nb ∧ tt.length = nt ∧ tx.length = nx))
    (H0 : Hid (∀ o, Bs (w.alloc o) (.slice a0 nb c0) bx ∧ Bs (w.alloc o) (.slice a1 nt c1) tt ∧ Bs (w.alloc o) (.slice a2 nx c2) tx)) (i10 : -9223372036854775808 ≤ uid) (i11 : uid ≤ 9223372036854775807) (i20 : -9223372036854775808 ≤ mode) (i21 : mode ≤ 9223372036854775807) (i30 : -9223372036854775808 ≤ fl) (i31 : fl ≤ 9223372036854775807) (i40 : -9223372036854775808 ≤ si) (i41 : si ≤ 9223372036854775807) :
    Calls Tryz.prog 33 #[.agg #[.int .i64 9, .slice a0 nb c0, .slice a1 nt c1, .int .i64 uid, .int .i64 mode, .int .i64 fl, .int .i64 si, .slice a2 nx c2]] w fun e w' => e = .returned (.bool (cmdB 9 bx tt uid mode fl si tx)) ∧ Below w.heap.size w w' := by
  have hp : ∀ w, Calls Tryz.prog 58 #[.int .i64 9] w fun e w' => e = .returned (.tuple #[.bool false, .bool false, .bool false, .bool false, .bool false]) ∧ w' = w := fun w => l3parts_any 9 w
  have ab : Hid (∀ o, Below w.heap.size w (w.alloc o)) := fun o => (Below.refl _ _).alloc (Nat.le_refl _) o
  rcases Nat.eq_zero_or_pos nb with rfl | hnb
  all_goals rcases Nat.eq_zero_or_pos nt with rfl | hnt
  all_goals try have hnb' : (nb : Int) ≠ 0 := by omega
  all_goals try have hnt' : (nt : Int) ≠ 0 := by omega
  all_goals try have hnt2 : (0 : Int) < nt := by omega
  all_goals go_enter Tryz.func33, Tryz.ntmps33
  all_goals go_wp2_with (first
    | (go_at_call 57; (refine (l3name_any _ bx _ (H0.out _).1).mono ?_); rintro e w' ⟨rfl, rfl⟩)
    | (go_at_call 59; refine (l3text_any _ tx _ (H0.out _).2.2).mono ?_; rintro e w' ⟨rfl, rfl⟩)
    | (go_at_call 58; refine (hp _).mono ?_; rintro e w' ⟨rfl, rfl⟩)
    | (go_at_call 31; refine (l3seq_any _ _).mono ?_; rintro e w' ⟨rfl, rfl⟩))
  all_goals go_ret
  all_goals refine ⟨ret_b ?_, ab.out _⟩
  all_goals clear hp H0
  all_goals have HN' := HN.out
  all_goals (try go_light)
  all_goals obtain ⟨e0, e1, e2⟩ := HN'
  all_goals clear HN ab
  all_goals have z0 := nameB_nil (l := bx)
  all_goals have z1 := nameB_nil (l := tt)
  all_goals have z2 := textB_nil (l := tx)
  all_goals (try have y0 := HX.out)
  all_goals (try have y1 := HY.out)
  all_goals (try clear HX HY)
  all_goals (unfold cmdB; unfold inB at *; cases hn : nameB bx <;> cases hm : nameB tt <;> cases ht : textB tx <;> simp [hn, hm, ht, e0, e1, e2] at * <;> first | omega | (rw [Bool.eq_iff_iff]; simp; omega))

end Go.Proofs.YtifpjdpcmfneaaaGreatDoor

/- What CmdOk of package spec does. -/
namespace Go.Proofs.YtifpjdpcmfneaaaGreatDoor
open Go.RowKit
set_option maxRecDepth 100000

set_option maxRecDepth 100000 in
set_option maxHeartbeats 2000000 in
theorem specCmdOk_any (v : Value) (k : Int) (bx tt : List Int) (uid mode fl si : Int) (tx : List Int) (w : World) (hv : CmdV w v k bx tt uid mode fl si tx) :
    Calls Tryz.prog 33 #[v] w fun e w' => e = .returned (.bool (cmdB k bx tt uid mode fl si tx)) ∧ Below w.heap.size w w' := by
  obtain ⟨u0, u1, u2, rfl, g0, g1, g2, i0, i1, i2, i3, i4⟩ := hv
  have ab : ∀ o, Below w.heap.size w (w.alloc o) := fun o => (Below.refl _ _).alloc (Nat.le_refl _) o
  have H0 : Hid (∀ o, Bs (w.alloc o) u0 bx ∧ Bs (w.alloc o) u1 tt ∧ Bs (w.alloc o) u2 tx) := fun o => ⟨g0.below (ab o), g1.below (ab o), g2.below (ab o)⟩
  obtain ⟨a0, c0, rfl⟩ := g0.form
  obtain ⟨a1, c1, rfl⟩ := g1.form
  obtain ⟨a2, c2, rfl⟩ := g2.form
  obtain ⟨i10, i11⟩ := i1
  obtain ⟨i20, i21⟩ := i2
  obtain ⟨i30, i31⟩ := i3
  obtain ⟨i40, i41⟩ := i4
  obtain ⟨i00, i01⟩ := i0
  by_cases h : 0 ≤ k ∧ k ≤ 9
  · have hk : k = 0 ∨ k = 1 ∨ k = 2 ∨ k = 3 ∨ k = 4 ∨ k = 5 ∨ k = 6 ∨ k = 7 ∨ k = 8 ∨ k = 9 := by omega
    rcases hk with rfl | rfl | rfl | rfl | rfl | rfl | rfl | rfl | rfl | rfl
    · exact specCmdOk_A 0 (by omega) (by omega) (by omega) (by omega) (by omega) (by omega) (by omega) (by omega) a0 a1 a2 _ _ _ c0 c1 c2 bx tt uid mode fl si tx w ⟨rfl, rfl, rfl⟩ H0 i10 i11 i20 i21 i30 i31 i40 i41
    · exact specCmdOk_A 1 (by omega) (by omega) (by omega) (by omega) (by omega) (by omega) (by omega) (by omega) a0 a1 a2 _ _ _ c0 c1 c2 bx tt uid mode fl si tx w ⟨rfl, rfl, rfl⟩ H0 i10 i11 i20 i21 i30 i31 i40 i41
    · exact specCmdOk_2 a0 a1 a2 _ _ _ c0 c1 c2 bx tt uid mode fl si tx w ⟨rfl, rfl, rfl⟩ H0 i10 i11 i20 i21 i30 i31 i40 i41
    · exact specCmdOk_3 a0 a1 a2 _ _ _ c0 c1 c2 bx tt uid mode fl si tx w ⟨rfl, rfl, rfl⟩ H0 i10 i11 i20 i21 i30 i31 i40 i41
    · exact specCmdOk_A 4 (by omega) (by omega) (by omega) (by omega) (by omega) (by omega) (by omega) (by omega) a0 a1 a2 _ _ _ c0 c1 c2 bx tt uid mode fl si tx w ⟨rfl, rfl, rfl⟩ H0 i10 i11 i20 i21 i30 i31 i40 i41
    · exact specCmdOk_5 a0 a1 a2 _ _ _ c0 c1 c2 bx tt uid mode fl si tx w ⟨rfl, rfl, rfl⟩ H0 i10 i11 i20 i21 i30 i31 i40 i41
    · exact specCmdOk_6 a0 a1 a2 _ _ _ c0 c1 c2 bx tt uid mode fl si tx w ⟨rfl, rfl, rfl⟩ H0 i10 i11 i20 i21 i30 i31 i40 i41
    · exact specCmdOk_A 7 (by omega) (by omega) (by omega) (by omega) (by omega) (by omega) (by omega) (by omega) a0 a1 a2 _ _ _ c0 c1 c2 bx tt uid mode fl si tx w ⟨rfl, rfl, rfl⟩ H0 i10 i11 i20 i21 i30 i31 i40 i41
    · exact specCmdOk_8 a0 a1 a2 _ _ _ c0 c1 c2 bx tt uid mode fl si tx w ⟨rfl, rfl, rfl⟩ H0 i10 i11 i20 i21 i30 i31 i40 i41
    · exact specCmdOk_9 a0 a1 a2 _ _ _ c0 c1 c2 bx tt uid mode fl si tx w ⟨rfl, rfl, rfl⟩ H0 i10 i11 i20 i21 i30 i31 i40 i41
  · have HZ : Hid (cmdB k bx tt uid mode fl si tx = false) := by simp [Hid, cmdB, h]
    by_cases h1 : k < 0
    · go_enter Tryz.func33, Tryz.ntmps33
      go_wp2
      go_ret
      exact ⟨ret_b HZ.out, ab _⟩
    · have h2 : 9 < k := by omega
      go_enter Tryz.func33, Tryz.ntmps33
      go_wp2
      go_ret
      exact ⟨ret_b HZ.out, ab _⟩

end Go.Proofs.YtifpjdpcmfneaaaGreatDoor

/- What l4text, CmdText of package spec do. -/
namespace Go.Proofs.YtifpjdpcmfneaaaGreatDoor
open Go.RowKit
set_option linter.unusedVariables false
set_option linter.unusedSimpArgs false

theorem textB_len' {l : List Int} (h : textB l = true) : l.length ≤ 30 := by unfold textB at h; simp at h; exact h.1
theorem cmd_facts {k : Int} {bx tt : List Int} {uid mode fl si : Int} {tx : List Int} (h : cmdB k bx tt uid mode fl si tx = true) :
    (0 ≤ k ∧ k ≤ 9) ∧ (k ≠ 9 → nameB bx = true) ∧ (k = 6 → nameB tt = true) ∧ (0 ≤ uid ∧ uid ≤ 1000000) ∧ (0 ≤ mode ∧ mode ≤ 2) ∧ (0 ≤ fl ∧ fl ≤ 31) ∧ (0 ≤ si ∧ si ≤ 1000000) ∧ tx.length ≤ 30 := by
  simp only [cmdB, Bool.and_eq_true, decide_eq_true_eq] at h
  obtain ⟨⟨⟨⟨⟨⟨⟨h0, h1⟩, h2⟩, h3⟩, h4⟩, h5⟩, h6⟩, h7⟩ := h
  refine ⟨h0, fun hk => ?_, fun hk => ?_, ?_, ?_, ?_, ?_, ?_⟩
  · rwa [if_neg hk] at h1
  · rwa [if_pos hk] at h2
  · split at h3
    · simp only [inB, Bool.and_eq_true, decide_eq_true_eq] at h3; omega
    · simp only [decide_eq_true_eq] at h3; omega
  · simp only [inB, Bool.and_eq_true, decide_eq_true_eq] at h4
    split at h4
    · omega
    · split at h4 <;> omega
  · simp only [inB, Bool.and_eq_true, decide_eq_true_eq] at h5
    split at h5 <;> omega
  · simp only [inB, Bool.and_eq_true, decide_eq_true_eq] at h6
    split at h6 <;> omega
  · split at h7
    · exact textB_len' h7
    · simp only [decide_eq_true_eq] at h7; omega
theorem ctB_yes {k : Int} {bx tt : List Int} {uid mode fl si : Int} {tx : List Int} (h : cmdB k bx tt uid mode fl si tx = true) : ctB k bx tt uid mode fl si tx = kindW k ++ (toksB k bx tt uid mode fl si tx).flatMap (fun s => [32] ++ s) := by unfold ctB; rw [h]
theorem ctB_no {k : Int} {bx tt : List Int} {uid mode fl si : Int} {tx : List Int} (h : cmdB k bx tt uid mode fl si tx = false) : ctB k bx tt uid mode fl si tx = [] := by unfold ctB; rw [h]

theorem l4text_any (v : Value) (k : Int) (bx tt : List Int) (uid mode fl si : Int) (tx : List Int) (w : World) (hv : CmdV w v k bx tt uid mode fl si tx) (hok : cmdB k bx tt uid mode fl si tx = true) :
    Calls Tryz.prog 37 #[v] w fun e w' => ∃ u, e = .returned u ∧ Bs w' u (ctB k bx tt uid mode fl si tx) ∧ (∀ b, u.ownBlock = some b → w.heap.size ≤ b) ∧ Below w.heap.size w w' := by
  rw [ctB_yes hok]
  obtain ⟨hk, hb, ht, hu, hm, hf, hs, hx⟩ := cmd_facts hok
  clear hok
  obtain ⟨u0, u1, u2, rfl, g0, g1, g2, -⟩ := hv
  have HG : Hid (∀ wi, Below w.heap.size w wi → Bs wi u0 bx ∧ Bs wi u1 tt ∧ Bs wi u2 tx) := fun wi h => ⟨g0.below h, g1.below h, g2.below h⟩
  obtain ⟨a0, n0, c0, rfl⟩ := g0.form3
  obtain ⟨a1, n1, c1, rfl⟩ := g1.form3
  obtain ⟨a2, n2, c2, rfl⟩ := g2.form3
  clear g0 g1 g2
  obtain ⟨un, rfl⟩ : ∃ n : Nat, uid = n := ⟨uid.toNat, by omega⟩
  obtain ⟨mn, rfl⟩ : ∃ n : Nat, mode = n := ⟨mode.toNat, by omega⟩
  obtain ⟨fn, rfl⟩ : ∃ n : Nat, fl = n := ⟨fl.toNat, by omega⟩
  obtain ⟨sn, rfl⟩ : ∃ n : Nat, si = n := ⟨si.toNat, by omega⟩
  by_cases h9 : k = 9
  · subst h9
    refine (l4text_9' a0 a1 a2 n0 n1 n2 c0 c1 c2 bx tt un mn fn sn tx w HG).mono ?_
    rintro e w' ⟨u, rfl, hB, r⟩
    exact ⟨u, rfl, by simpa [toksB] using hB, r⟩
  have hl := nameB_len (hb h9)
  have hk' : k = 0 ∨ k = 1 ∨ k = 2 ∨ k = 3 ∨ k = 4 ∨ k = 5 ∨ k = 6 ∨ k = 7 ∨ k = 8 := by omega
  clear h9 hb
  rcases hk' with rfl | rfl | rfl | rfl | rfl | rfl | rfl | rfl | rfl
  · refine (l4text_0 a0 a1 a2 n0 n1 n2 c0 c1 c2 bx tt un mn fn sn tx w HG hl.2 hl.1).mono ?_
    rintro e w' ⟨u, rfl, hB, r⟩
    exact ⟨u, rfl, by simpa [toksB] using hB, r⟩
  · refine (l4text_1 a0 a1 a2 n0 n1 n2 c0 c1 c2 bx tt un mn fn sn tx w HG hl.2 hl.1).mono ?_
    rintro e w' ⟨u, rfl, hB, r⟩
    exact ⟨u, rfl, by simpa [toksB] using hB, r⟩
  · refine (l4text_2 a0 a1 a2 n0 n1 n2 c0 c1 c2 bx tt un mn fn sn tx w HG hl.2 hl.1 fn rfl (by omega) hx).mono ?_
    rintro e w' ⟨u, rfl, hB, r⟩
    exact ⟨u, rfl, by simpa [toksB] using hB, r⟩
  · refine (l4text_3 a0 a1 a2 n0 n1 n2 c0 c1 c2 bx tt un mn fn sn tx w HG hl.2 hl.1 un mn fn sn rfl (by omega) rfl (by omega) rfl (by omega) rfl (by omega)).mono ?_
    rintro e w' ⟨u, rfl, hB, r⟩
    refine ⟨u, rfl, ?_, r⟩
    by_cases h0 : (0 : Int) < (sn : Int)
    · have h1 : 0 < sn := by omega
      rw [if_pos h0] at hB
      simpa [toksB, h0, h1] using hB
    · have h1 : sn = 0 := by omega
      rw [if_neg h0] at hB
      subst h1
      simpa [toksB] using hB
  · refine (l4text_4 a0 a1 a2 n0 n1 n2 c0 c1 c2 bx tt un mn fn sn tx w HG hl.2 hl.1).mono ?_
    rintro e w' ⟨u, rfl, hB, r⟩
    exact ⟨u, rfl, by simpa [toksB] using hB, r⟩
  · refine (l4text_5 a0 a1 a2 n0 n1 n2 c0 c1 c2 bx tt un mn fn sn tx w HG hl.2 hl.1 un rfl (by omega)).mono ?_
    rintro e w' ⟨u, rfl, hB, r⟩
    exact ⟨u, rfl, by simpa [toksB] using hB, r⟩
  · have htl := nameB_len (ht rfl)
    refine (l4text_6 a0 a1 a2 n0 n1 n2 c0 c1 c2 bx tt un mn fn sn tx w HG hl.2 hl.1 un rfl (by omega) htl.2 htl.1).mono ?_
    rintro e w' ⟨u, rfl, hB, r⟩
    refine ⟨u, rfl, ?_, r⟩
    by_cases h0 : (mn : Int) = 1
    · rw [if_pos h0] at hB
      simpa [toksB, h0] using hB
    · rw [if_neg h0] at hB
      simpa [toksB, h0] using hB
  · refine (l4text_7 a0 a1 a2 n0 n1 n2 c0 c1 c2 bx tt un mn fn sn tx w HG hl.2 hl.1).mono ?_
    rintro e w' ⟨u, rfl, hB, r⟩
    exact ⟨u, rfl, by simpa [toksB] using hB, r⟩
  · refine (l4text_8 a0 a1 a2 n0 n1 n2 c0 c1 c2 bx tt un mn fn sn tx w HG hl.2 hl.1 sn rfl (by omega)).mono ?_
    rintro e w' ⟨u, rfl, hB, r⟩
    exact ⟨u, rfl, by simpa [toksB] using hB, r⟩

end Go.Proofs.YtifpjdpcmfneaaaGreatDoor

/- What RecordBytes answers. -/
namespace Go.Proofs.YtifpjdpcmfneaaaGreatDoor
open Go.RowKit

def tailB (r : RecD) : List Int := if r.kind = 0 then ctB r.cmd.k r.cmd.bx r.cmd.tt r.cmd.uid r.cmd.mode r.cmd.fl r.cmd.si r.cmd.tx else if r.kind = 3 then outB r.acc else []
def headB (r : RecD) : List Int := numB r.kind ++ numB r.user ++ numB r.n
def rbB (r : RecD) : List Int := match recB r with
  | true => headB r ++ tailB r
  | false => []
theorem rbB_yes {r : RecD} (h : recB r = true) : rbB r = headB r ++ tailB r := by unfold rbB; rw [h]
theorem rbB_no {r : RecD} (h : recB r = false) : rbB r = [] := by unfold rbB; rw [h]
theorem headB_len (r : RecD) : (headB r).length ≤ 15 := by
  have h0 := numB_len r.kind
  have h1 := numB_len r.user
  have h2 := numB_len r.n
  simp only [headB, List.length_append]
  omega
theorem rec_cmd {r : RecD} (h : recB r = true) (hk : r.kind = 0) : cmdD r.cmd = true := by
  simp only [recB, hk, Bool.and_eq_true] at h
  simpa using h.2.2.2.1
theorem rec_acc {r : RecD} (h : recB r = true) (hk : r.kind = 3) : accB r.acc = true := by
  simp only [recB, hk, Bool.and_eq_true] at h
  simpa using h.2.2.2.2
theorem ctB_len (k : Int) (bx tt : List Int) (uid mode fl si : Int) (tx : List Int) : (ctB k bx tt uid mode fl si tx).length ≤ 2000 := by
  cases h : cmdB k bx tt uid mode fl si tx with
  | false => rw [ctB_no h]; simp
  | true =>
    rw [ctB_yes h]
    obtain ⟨hk, hb, htn, hu, hm, hf, hs, hx⟩ := cmd_facts h
    have hql := quoB_len tx
    have hfl := flagsB_len fl
    have hdu := digB_len10 (n := uid.toNat) (by omega)
    have hds := digB_len10 (n := si.toNat) (by omega)
    have hmw : (modeW mode).length ≤ 7 := by
      obtain ⟨mn, rfl⟩ : ∃ n : Nat, mode = n := ⟨mode.toNat, by omega⟩
      exact (modeW_ok mn (by omega)).1
    have hsw : sinceW.length = 5 ∧ awayW.length = 4 := ⟨rfl, rfl⟩
    have hbl : k ≠ 9 → bx.length ≤ 6 := fun h9 => (nameB_len (hb h9)).2
    have htl : k = 6 → tt.length ≤ 6 := fun h => (nameB_len (htn h)).2
    have hkw : (kindW k).length ≤ 7 := by
      have hk' : k = 0 ∨ k = 1 ∨ k = 2 ∨ k = 3 ∨ k = 4 ∨ k = 5 ∨ k = 6 ∨ k = 7 ∨ k = 8 ∨ k = 9 := by omega
      rcases hk' with rfl | rfl | rfl | rfl | rfl | rfl | rfl | rfl | rfl | rfl <;> decide
    rw [List.length_append]
    have key : ((toksB k bx tt uid mode fl si tx).flatMap (fun s => [32] ++ s)).length ≤ 1000 := by
      have hk' : k = 0 ∨ k = 1 ∨ k = 2 ∨ k = 3 ∨ k = 4 ∨ k = 5 ∨ k = 6 ∨ k = 7 ∨ k = 8 ∨ k = 9 := by omega
      rcases hk' with rfl | rfl | rfl | rfl | rfl | rfl | rfl | rfl | rfl | rfl <;> simp [toksB] <;> (try split) <;> (try simp) <;> (try have := hbl (by omega)) <;> (try have := htl rfl) <;> omega
    omega
theorem tailB_len (r : RecD) : (tailB r).length ≤ 10000 := by
  unfold tailB
  split
  · have := ctB_len r.cmd.k r.cmd.bx r.cmd.tt r.cmd.uid r.cmd.mode r.cmd.fl r.cmd.si r.cmd.tx; omega
  · split
    · exact outB_len _
    · simp
theorem rbB_len (r : RecD) : (rbB r).length ≤ 1000000 := by
  have h0 := headB_len r
  have h1 := tailB_len r
  cases h : recB r with
  | false => rw [rbB_no h]; simp
  | true => rw [rbB_yes h, List.length_append]; omega

end Go.Proofs.YtifpjdpcmfneaaaGreatDoor

/- What l5zeroCmd, l5zeroAcc of package spec do. -/
namespace Go.Proofs.YtifpjdpcmfneaaaGreatDoor
open Go.RowKit
set_option maxRecDepth 100000
set_option linter.unusedVariables false
set_option linter.unusedSimpArgs false

set_option maxHeartbeats 1000000 in
theorem l5zeroCmd_gen (k : Int) (a0 a1 a2 : Option Addr) (nb nt nx c0 c1 c2 : Nat) (uid mode fl si : Int) (w : World) :
    Calls Tryz.prog 32 #[.agg #[.int .i64 k, .slice a0 nb c0, .slice a1 nt c1, .int .i64 uid, .int .i64 mode, .int .i64 fl, .int .i64 si, .slice a2 nx c2]] w fun e w' => e = .returned (.bool (zC k nb nt uid mode fl si nx)) ∧ Below w.heap.size w w' := by
  have HX : Hid (∀ o, Below w.heap.size w (w.alloc o)) := fun o => (Below.refl _ _).alloc (Nat.le_refl _) o
  go_enter Tryz.func32, Tryz.ntmps32
  go_wp2
  all_goals (go_ret; refine ⟨ret_b ?_, HX.out _⟩; clear HX; unfold zC; (try simp only [beq_iff_eq, beq_eq_false_iff_ne, ne_eq] at *); rw [Bool.eq_iff_iff]; simp; omega)
theorem l5zeroCmd_any (v : Value) (c : CmdD) (w : World) (hv : CmdV w v c.k c.bx c.tt c.uid c.mode c.fl c.si c.tx) :
    Calls Tryz.prog 32 #[v] w fun e w' => e = .returned (.bool (zeroC c)) ∧ Below w.heap.size w w' := by
  obtain ⟨u0, u1, u2, rfl, g0, g1, g2, -⟩ := hv
  obtain ⟨a0, c0, rfl⟩ := g0.form
  obtain ⟨a1, c1, rfl⟩ := g1.form
  obtain ⟨a2, c2, rfl⟩ := g2.form
  exact l5zeroCmd_gen _ _ _ _ _ _ _ _ _ _ _ _ _ _ w
set_option maxHeartbeats 1000000 in
theorem l5zeroAcc_gen (k : Int) (a0 a1 : Option Addr) (nb nt c0 c1 : Nat) (w : World) :
    Calls Tryz.prog 35 #[.agg #[.int .i64 k, .slice a0 nb c0, .slice a1 nt c1]] w fun e w' => e = .returned (.bool (zA k nb nt)) ∧ Below w.heap.size w w' := by
  have HX : Hid (∀ o, Below w.heap.size w (w.alloc o)) := fun o => (Below.refl _ _).alloc (Nat.le_refl _) o
  go_enter Tryz.func35, Tryz.ntmps35
  go_wp2
  all_goals (go_ret; refine ⟨ret_b ?_, HX.out _⟩; clear HX; unfold zA; (try simp only [beq_iff_eq, beq_eq_false_iff_ne, ne_eq] at *); rw [Bool.eq_iff_iff]; simp; omega)
theorem l5zeroAcc_any (v : Value) (a : AccD) (w : World) (hv : AccV w v a) :
    Calls Tryz.prog 35 #[v] w fun e w' => e = .returned (.bool (zeroA a)) ∧ Below w.heap.size w w' := by
  obtain ⟨u0, u1, rfl, g0, g1, -⟩ := hv
  obtain ⟨a0, c0, rfl, -⟩ := g0.form
  obtain ⟨a1, c1, rfl, -⟩ := g1.form
  exact l5zeroAcc_gen _ _ _ _ _ _ _ w

end Go.Proofs.YtifpjdpcmfneaaaGreatDoor

/- What RecordOk of package spec does. -/
namespace Go.Proofs.YtifpjdpcmfneaaaGreatDoor
open Go.RowKit
set_option maxRecDepth 100000
set_option linter.unusedVariables false
set_option linter.unusedSimpArgs false

theorem tabRO3 : (Tryz.f15.body.bind (opsAt 3)).all (fun o => table o 24 [5, 15]) = true := by kernel_rfl

set_option maxRecDepth 100000 in
set_option maxHeartbeats 4000000 in
theorem specRecordOk_0 (U N : Int) (hu0 : 0 ≤ U) (hu1 : U ≤ 2) (hn0 : 0 ≤ N) (hn1 : N ≤ 1000000) (k : Int) (a0 a1 a2 a3 a4 : Option Addr) (nb nt nx mb ms c0 c1 c2 c3 c4 : Nat) (uid mode fl si valid : Int) (w : World) (Z C Y A c : Bool) (HZ : Hid (∀ wi, Below w.heap.size w wi → Calls Tryz.prog 32 #[.agg #[.int .i64 k, .slice a0 nb c0, .slice a1 nt c1, .int .i64 uid, .int .i64 mode, .int .i64 fl, .int .i64 si, .slice a2 nx c2]] wi fun e w' => e = .returned (.bool Z) ∧ Below wi.heap.size wi w')) (HC : Hid (∀ wi, Below w.heap.size w wi → Calls Tryz.prog 33 #[.agg #[.int .i64 k, .slice a0 nb c0, .slice a1 nt c1, .int .i64 uid, .int .i64 mode, .int .i64 fl, .int .i64 si, .slice a2 nx c2]] wi fun e w' => e = .returned (.bool C) ∧ Below wi.heap.size wi w')) (HA : Hid (∀ wi, Below w.heap.size w wi → Calls Tryz.prog 35 #[.agg #[.int .i64 valid, .slice a3 mb c3, .slice a4 ms c4]] wi fun e w' => e = .returned (.bool Y) ∧ Below wi.heap.size wi w')) (HY : Hid (∀ wi, Below w.heap.size w wi → Calls Tryz.prog 34 #[.agg #[.int .i64 valid, .slice a3 mb c3, .slice a4 ms c4]] wi fun e w' => e = .returned (.bool A) ∧ Below wi.heap.size wi w'))
    (HR : Hid (c = (!Z && (C && (!decide (N < 1) && Y))))) :
    Calls Tryz.prog 15 #[.agg #[.int .i64 0, .int .i64 U, .int .i64 N, .int .i64 k, .slice a0 nb c0, .slice a1 nt c1, .int .i64 uid, .int .i64 mode, .int .i64 fl, .int .i64 si, .slice a2 nx c2, .int .i64 valid, .slice a3 mb c3, .slice a4 ms c4]] w fun e w' => e = .returned (.bool c) ∧ Below w.heap.size w w' := by
  have X0 : Hid (∀ o, Below w.heap.size w (w.alloc o)) := fun o => (Below.refl _ _).alloc (Nat.le_refl _) o
  have kA := box_new w (.cells #[.int .i64 0, .int .i64 U, .int .i64 N, .int .i64 k, .slice a0 nb c0, .slice a1 nt c1, .int .i64 uid, .int .i64 mode, .int .i64 fl, .int .i64 si, .slice a2 nx c2, .int .i64 valid, .slice a3 mb c3, .slice a4 ms c4] 39)
  have hl3 : ∀ w, Calls Tryz.prog 31 #[.int .i64 N] w fun e w' => e = .returned (.bool true) ∧ w' = w := fun w => by
    have h := l3seq_any N w
    rwa [show inB N 0 1000000 = true by simp [inB]; omega] at h
  go_enter Tryz.func15, Tryz.ntmps15
  go_wp2_with fail
  refine (hl3 _).mono ?_
  rintro e w' ⟨rfl, rfl⟩
  have X := X0.out (.cells #[.int .i64 0, .int .i64 U, .int .i64 N, .int .i64 k, .slice a0 nb c0, .slice a1 nt c1, .int .i64 uid, .int .i64 mode, .int .i64 fl, .int .i64 si, .slice a2 nx c2, .int .i64 valid, .slice a3 mb c3, .slice a4 ms c4] 39)
  generalize hw0 : w.alloc (.cells #[.int .i64 0, .int .i64 U, .int .i64 N, .int .i64 k, .slice a0 nb c0, .slice a1 nt c1, .int .i64 uid, .int .i64 mode, .int .i64 fl, .int .i64 si, .slice a2 nx c2, .int .i64 valid, .slice a3 mb c3, .slice a4 ms c4] 39) = w0 at X kA ⊢
  have DR : Below w0.heap.size w0 w0.drew := (Below.refl _ _).drew
  have HF : Hid (∀ w', Below w0.heap.size w0 w' → w'.cell? ⟨w.heap.size, 0, none⟩ = some (.int .i64 0) ∧ w'.cell? ⟨w.heap.size, 1, none⟩ = some (.int .i64 U) ∧ w'.cell? ⟨w.heap.size, 2, none⟩ = some (.int .i64 N) ∧ w'.cell? ⟨w.heap.size, 3, none⟩ = some (.int .i64 k) ∧ w'.cell? ⟨w.heap.size, 4, none⟩ = some (.slice a0 nb c0) ∧ w'.cell? ⟨w.heap.size, 5, none⟩ = some (.slice a1 nt c1) ∧ w'.cell? ⟨w.heap.size, 6, none⟩ = some (.int .i64 uid) ∧ w'.cell? ⟨w.heap.size, 7, none⟩ = some (.int .i64 mode) ∧ w'.cell? ⟨w.heap.size, 8, none⟩ = some (.int .i64 fl) ∧ w'.cell? ⟨w.heap.size, 9, none⟩ = some (.int .i64 si) ∧ w'.cell? ⟨w.heap.size, 10, none⟩ = some (.slice a2 nx c2) ∧ w'.cell? ⟨w.heap.size, 11, none⟩ = some (.int .i64 valid) ∧ w'.cell? ⟨w.heap.size, 12, none⟩ = some (.slice a3 mb c3) ∧ w'.cell? ⟨w.heap.size, 13, none⟩ = some (.slice a4 ms c4)) := fun w' h => bx14 (box_below h kA)
  have hl : w.heap.size < w0.heap.size := lt_of_heap kA
  clear X0 hl3
  go_wp2
  cases Z with
  | true =>
    refine wp_begin (S := fun w' => w'.cell? ⟨w.heap.size, 0, none⟩ = some (.int .i64 0) ∧ w'.cell? ⟨w.heap.size, 1, none⟩ = some (.int .i64 U) ∧ w'.cell? ⟨w.heap.size, 2, none⟩ = some (.int .i64 N) ∧ w'.cell? ⟨w.heap.size, 3, none⟩ = some (.int .i64 k) ∧ w'.cell? ⟨w.heap.size, 4, none⟩ = some (.slice a0 nb c0) ∧ w'.cell? ⟨w.heap.size, 5, none⟩ = some (.slice a1 nt c1) ∧ w'.cell? ⟨w.heap.size, 6, none⟩ = some (.int .i64 uid) ∧ w'.cell? ⟨w.heap.size, 7, none⟩ = some (.int .i64 mode) ∧ w'.cell? ⟨w.heap.size, 8, none⟩ = some (.int .i64 fl) ∧ w'.cell? ⟨w.heap.size, 9, none⟩ = some (.int .i64 si) ∧ w'.cell? ⟨w.heap.size, 10, none⟩ = some (.slice a2 nx c2) ∧ w'.cell? ⟨w.heap.size, 11, none⟩ = some (.int .i64 valid) ∧ w'.cell? ⟨w.heap.size, 12, none⟩ = some (.slice a3 mb c3) ∧ w'.cell? ⟨w.heap.size, 13, none⟩ = some (.slice a4 ms c4)) (tab_of (by kernel_rfl) tabRO3) (by kernel_rfl) (HF.out _ DR) (fun hTb hHeld => ?_)
    refine tkq 0 27 hTb hHeld ?_
    refine tkq 1 28 hTb hHeld ?_
    refine tkq 2 29 hTb hHeld ?_
    refine tkq 3 30 hTb hHeld ?_
    refine tkq 4 31 hTb hHeld ?_
    refine clp 5 hTb (by decide) ?_
    refine AllReadyH.cons rfl (fun K hK => ?_) AllReadyH.nil
    go_simp
    refine (HZ.out _ (Below.step X DR)).mono ?_
    rintro e w1 ⟨rfl, B⟩
    refine hK.out _ _ (HF.out _ (Below.step DR B)) (fun hHeld => ?_)
    clear hK K
    refine wpAt_in (n := 24) (i := 5) (by decide) rfl rfl ?_
    refine tkq 6 33 hTb hHeld ?_
    refine tkq 7 34 hTb hHeld ?_
    refine tkq 8 35 hTb hHeld ?_
    refine skj (i := 9) (j := 23) [36, 37, 38, 39, 40, 41, 42, 43, 44, 45, 46, 47, 48, 49] rfl hTb (fun _ _ _ _ _ h => h) hHeld (by kernel_rfl) ?_
    conv => arg 7; dsimp only [List.foldl_cons, List.foldl_nil, setT, List.toList_toArray, put0, putS]
    refine tkq 23 50 hTb hHeld ?_
    refine wp_end hTb ?_
    replace X := Below.step (Below.step X DR) B
    replace kA := box_below B (box_below DR kA)
    clear HF DR B HZ HC
    repeat clear hHeld
    clear hTb
    go_wp2
    go_ret
    exact ⟨ret_b HR.out, X⟩
  | false =>
    cases C with
    | false =>
      refine wp_begin (S := fun w' => w'.cell? ⟨w.heap.size, 0, none⟩ = some (.int .i64 0) ∧ w'.cell? ⟨w.heap.size, 1, none⟩ = some (.int .i64 U) ∧ w'.cell? ⟨w.heap.size, 2, none⟩ = some (.int .i64 N) ∧ w'.cell? ⟨w.heap.size, 3, none⟩ = some (.int .i64 k) ∧ w'.cell? ⟨w.heap.size, 4, none⟩ = some (.slice a0 nb c0) ∧ w'.cell? ⟨w.heap.size, 5, none⟩ = some (.slice a1 nt c1) ∧ w'.cell? ⟨w.heap.size, 6, none⟩ = some (.int .i64 uid) ∧ w'.cell? ⟨w.heap.size, 7, none⟩ = some (.int .i64 mode) ∧ w'.cell? ⟨w.heap.size, 8, none⟩ = some (.int .i64 fl) ∧ w'.cell? ⟨w.heap.size, 9, none⟩ = some (.int .i64 si) ∧ w'.cell? ⟨w.heap.size, 10, none⟩ = some (.slice a2 nx c2) ∧ w'.cell? ⟨w.heap.size, 11, none⟩ = some (.int .i64 valid) ∧ w'.cell? ⟨w.heap.size, 12, none⟩ = some (.slice a3 mb c3) ∧ w'.cell? ⟨w.heap.size, 13, none⟩ = some (.slice a4 ms c4)) (tab_of (by kernel_rfl) tabRO3) (by kernel_rfl) (HF.out _ DR) (fun hTb hHeld => ?_)
      refine tkq 0 27 hTb hHeld ?_
      refine tkq 1 28 hTb hHeld ?_
      refine tkq 2 29 hTb hHeld ?_
      refine tkq 3 30 hTb hHeld ?_
      refine tkq 4 31 hTb hHeld ?_
      refine clp 5 hTb (by decide) ?_
      refine AllReadyH.cons rfl (fun K hK => ?_) AllReadyH.nil
      go_simp
      refine (HZ.out _ (Below.step X DR)).mono ?_
      rintro e w1 ⟨rfl, B⟩
      refine hK.out _ _ (HF.out _ (Below.step DR B)) (fun hHeld => ?_)
      clear hK K
      refine wpAt_in (n := 24) (i := 5) (by decide) rfl rfl ?_
      refine tkq 6 33 hTb hHeld ?_
      refine tkq 7 34 hTb hHeld ?_
      refine tkq 8 35 hTb hHeld ?_
      refine tkq 9 36 hTb hHeld ?_
      refine tkq 10 37 hTb hHeld ?_
      refine tkq 11 38 hTb hHeld ?_
      refine tkq 12 39 hTb hHeld ?_
      refine tkq 13 40 hTb hHeld ?_
      refine tkq 14 41 hTb hHeld ?_
      refine clp 15 hTb (by decide) ?_
      refine AllReadyH.cons rfl (fun K hK => ?_) AllReadyH.nil
      go_simp
      refine (HC.out _ (Below.step (Below.step X DR) B)).mono ?_
      rintro e w2 ⟨rfl, B'⟩
      refine hK.out _ _ (HF.out _ (Below.step (Below.step DR B) B')) (fun hHeld => ?_)
      clear hK K
      refine wpAt_in (n := 24) (i := 15) (by decide) rfl rfl ?_
      refine tkq 16 43 hTb hHeld ?_
      refine tkq 17 44 hTb hHeld ?_
      refine skj (i := 18) (j := 21) [45, 46, 47] rfl hTb (fun _ _ _ _ _ h => h) hHeld (by kernel_rfl) ?_
      conv => arg 7; dsimp only [List.foldl_cons, List.foldl_nil, setT, List.toList_toArray, put0, putS]
      refine tkq 21 48 hTb hHeld ?_
      refine tkq 22 49 hTb hHeld ?_
      refine tkq 23 50 hTb hHeld ?_
      refine wp_end hTb ?_
      replace X := Below.step (Below.step (Below.step X DR) B) B'
      replace kA := box_below B' (box_below B (box_below DR kA))
      clear HF DR B B' HZ HC
      repeat clear hHeld
      clear hTb
      go_wp2
      go_ret
      exact ⟨ret_b HR.out, X⟩
    | true =>
      by_cases hn : N < 1
      · rw [decide_eq_true hn] at HR
        refine wp_begin (S := fun w' => w'.cell? ⟨w.heap.size, 0, none⟩ = some (.int .i64 0) ∧ w'.cell? ⟨w.heap.size, 1, none⟩ = some (.int .i64 U) ∧ w'.cell? ⟨w.heap.size, 2, none⟩ = some (.int .i64 N) ∧ w'.cell? ⟨w.heap.size, 3, none⟩ = some (.int .i64 k) ∧ w'.cell? ⟨w.heap.size, 4, none⟩ = some (.slice a0 nb c0) ∧ w'.cell? ⟨w.heap.size, 5, none⟩ = some (.slice a1 nt c1) ∧ w'.cell? ⟨w.heap.size, 6, none⟩ = some (.int .i64 uid) ∧ w'.cell? ⟨w.heap.size, 7, none⟩ = some (.int .i64 mode) ∧ w'.cell? ⟨w.heap.size, 8, none⟩ = some (.int .i64 fl) ∧ w'.cell? ⟨w.heap.size, 9, none⟩ = some (.int .i64 si) ∧ w'.cell? ⟨w.heap.size, 10, none⟩ = some (.slice a2 nx c2) ∧ w'.cell? ⟨w.heap.size, 11, none⟩ = some (.int .i64 valid) ∧ w'.cell? ⟨w.heap.size, 12, none⟩ = some (.slice a3 mb c3) ∧ w'.cell? ⟨w.heap.size, 13, none⟩ = some (.slice a4 ms c4)) (tab_of (by kernel_rfl) tabRO3) (by kernel_rfl) (HF.out _ DR) (fun hTb hHeld => ?_)
        refine tkq 0 27 hTb hHeld ?_
        refine tkq 1 28 hTb hHeld ?_
        refine tkq 2 29 hTb hHeld ?_
        refine tkq 3 30 hTb hHeld ?_
        refine tkq 4 31 hTb hHeld ?_
        refine clp 5 hTb (by decide) ?_
        refine AllReadyH.cons rfl (fun K hK => ?_) AllReadyH.nil
        go_simp
        refine (HZ.out _ (Below.step X DR)).mono ?_
        rintro e w1 ⟨rfl, B⟩
        refine hK.out _ _ (HF.out _ (Below.step DR B)) (fun hHeld => ?_)
        clear hK K
        refine wpAt_in (n := 24) (i := 5) (by decide) rfl rfl ?_
        refine tkq 6 33 hTb hHeld ?_
        refine tkq 7 34 hTb hHeld ?_
        refine tkq 8 35 hTb hHeld ?_
        refine tkq 9 36 hTb hHeld ?_
        refine tkq 10 37 hTb hHeld ?_
        refine tkq 11 38 hTb hHeld ?_
        refine tkq 12 39 hTb hHeld ?_
        refine tkq 13 40 hTb hHeld ?_
        refine tkq 14 41 hTb hHeld ?_
        refine clp 15 hTb (by decide) ?_
        refine AllReadyH.cons rfl (fun K hK => ?_) AllReadyH.nil
        go_simp
        refine (HC.out _ (Below.step (Below.step X DR) B)).mono ?_
        rintro e w2 ⟨rfl, B'⟩
        refine hK.out _ _ (HF.out _ (Below.step (Below.step DR B) B')) (fun hHeld => ?_)
        clear hK K
        refine wpAt_in (n := 24) (i := 15) (by decide) rfl rfl ?_
        refine tkq 16 43 hTb hHeld ?_
        refine tkq 17 44 hTb hHeld ?_
        refine tkq 18 45 hTb hHeld ?_
        refine tkq 19 46 hTb hHeld ?_
        refine tkq 20 47 hTb hHeld ?_
        refine tkq 21 48 hTb hHeld ?_
        refine tkq 22 49 hTb hHeld ?_
        refine tkq 23 50 hTb hHeld ?_
        refine wp_end hTb ?_
        replace X := Below.step (Below.step (Below.step X DR) B) B'
        replace kA := box_below B' (box_below B (box_below DR kA))
        clear HF DR B B' HZ HC
        repeat clear hHeld
        clear hTb
        go_wp2
        go_ret
        exact ⟨ret_b HR.out, X⟩
      · rw [decide_eq_false hn] at HR
        refine wp_begin (S := fun w' => w'.cell? ⟨w.heap.size, 0, none⟩ = some (.int .i64 0) ∧ w'.cell? ⟨w.heap.size, 1, none⟩ = some (.int .i64 U) ∧ w'.cell? ⟨w.heap.size, 2, none⟩ = some (.int .i64 N) ∧ w'.cell? ⟨w.heap.size, 3, none⟩ = some (.int .i64 k) ∧ w'.cell? ⟨w.heap.size, 4, none⟩ = some (.slice a0 nb c0) ∧ w'.cell? ⟨w.heap.size, 5, none⟩ = some (.slice a1 nt c1) ∧ w'.cell? ⟨w.heap.size, 6, none⟩ = some (.int .i64 uid) ∧ w'.cell? ⟨w.heap.size, 7, none⟩ = some (.int .i64 mode) ∧ w'.cell? ⟨w.heap.size, 8, none⟩ = some (.int .i64 fl) ∧ w'.cell? ⟨w.heap.size, 9, none⟩ = some (.int .i64 si) ∧ w'.cell? ⟨w.heap.size, 10, none⟩ = some (.slice a2 nx c2) ∧ w'.cell? ⟨w.heap.size, 11, none⟩ = some (.int .i64 valid) ∧ w'.cell? ⟨w.heap.size, 12, none⟩ = some (.slice a3 mb c3) ∧ w'.cell? ⟨w.heap.size, 13, none⟩ = some (.slice a4 ms c4)) (tab_of (by kernel_rfl) tabRO3) (by kernel_rfl) (HF.out _ DR) (fun hTb hHeld => ?_)
        refine tkq 0 27 hTb hHeld ?_
        refine tkq 1 28 hTb hHeld ?_
        refine tkq 2 29 hTb hHeld ?_
        refine tkq 3 30 hTb hHeld ?_
        refine tkq 4 31 hTb hHeld ?_
        refine clp 5 hTb (by decide) ?_
        refine AllReadyH.cons rfl (fun K hK => ?_) AllReadyH.nil
        go_simp
        refine (HZ.out _ (Below.step X DR)).mono ?_
        rintro e w1 ⟨rfl, B⟩
        refine hK.out _ _ (HF.out _ (Below.step DR B)) (fun hHeld => ?_)
        clear hK K
        refine wpAt_in (n := 24) (i := 5) (by decide) rfl rfl ?_
        refine tkq 6 33 hTb hHeld ?_
        refine tkq 7 34 hTb hHeld ?_
        refine tkq 8 35 hTb hHeld ?_
        refine tkq 9 36 hTb hHeld ?_
        refine tkq 10 37 hTb hHeld ?_
        refine tkq 11 38 hTb hHeld ?_
        refine tkq 12 39 hTb hHeld ?_
        refine tkq 13 40 hTb hHeld ?_
        refine tkq 14 41 hTb hHeld ?_
        refine clp 15 hTb (by decide) ?_
        refine AllReadyH.cons rfl (fun K hK => ?_) AllReadyH.nil
        go_simp
        refine (HC.out _ (Below.step (Below.step X DR) B)).mono ?_
        rintro e w2 ⟨rfl, B'⟩
        refine hK.out _ _ (HF.out _ (Below.step (Below.step DR B) B')) (fun hHeld => ?_)
        clear hK K
        refine wpAt_in (n := 24) (i := 15) (by decide) rfl rfl ?_
        refine tkq 16 43 hTb hHeld ?_
        refine tkq 17 44 hTb hHeld ?_
        refine tkq 18 45 hTb hHeld ?_
        refine tkq 19 46 hTb hHeld ?_
        refine tkq 20 47 hTb hHeld ?_
        refine tkq 21 48 hTb hHeld ?_
        refine tkq 22 49 hTb hHeld ?_
        refine tkq 23 50 hTb hHeld ?_
        refine wp_end hTb ?_
        replace X := Below.step (Below.step (Below.step X DR) B) B'
        replace kA := box_below B' (box_below B (box_below DR kA))
        clear HF DR B B' HZ HC
        repeat clear hHeld
        clear hTb
        obtain ⟨f0, f1, f2, f3, f4, f5, f6, f7, f8, f9, f10, f11, f12, f13⟩ := bx14 kA
        have hl' := lt_of_heap kA
        go_wp2_with fail
        refine (HA.out _ X).mono ?_
        rintro e w3 ⟨rfl, B⟩
        clear f0 f1 f2 f3 f4 f5 f6 f7 f8 f9 f10 f11 f12 f13 hl'
        replace X := Below.step X B
        replace kA := box_below B kA
        clear B
        obtain ⟨f0, f1, f2, f3, f4, f5, f6, f7, f8, f9, f10, f11, f12, f13⟩ := bx14 kA
        have hl' := lt_of_heap kA
        cases Y with
        | false =>
          go_wp2
          go_ret
          exact ⟨ret_b HR.out, X⟩
        | true =>
          go_wp2
          go_ret
          exact ⟨ret_b HR.out, X⟩

set_option maxRecDepth 100000 in
set_option maxHeartbeats 4000000 in
theorem specRecordOk_1 (K U N : Int) (hk0 : 1 ≤ K) (hk1 : K ≤ 8) (hu0 : 0 ≤ U) (hu1 : U ≤ 2) (hn0 : 0 ≤ N) (hn1 : N ≤ 1000000) (k : Int) (a0 a1 a2 a3 a4 : Option Addr) (nb nt nx mb ms c0 c1 c2 c3 c4 : Nat) (uid mode fl si valid : Int) (w : World) (Z C Y A c : Bool) (HZ : Hid (∀ wi, Below w.heap.size w wi → Calls Tryz.prog 32 #[.agg #[.int .i64 k, .slice a0 nb c0, .slice a1 nt c1, .int .i64 uid, .int .i64 mode, .int .i64 fl, .int .i64 si, .slice a2 nx c2]] wi fun e w' => e = .returned (.bool Z) ∧ Below wi.heap.size wi w')) (HC : Hid (∀ wi, Below w.heap.size w wi → Calls Tryz.prog 33 #[.agg #[.int .i64 k, .slice a0 nb c0, .slice a1 nt c1, .int .i64 uid, .int .i64 mode, .int .i64 fl, .int .i64 si, .slice a2 nx c2]] wi fun e w' => e = .returned (.bool C) ∧ Below wi.heap.size wi w')) (HA : Hid (∀ wi, Below w.heap.size w wi → Calls Tryz.prog 35 #[.agg #[.int .i64 valid, .slice a3 mb c3, .slice a4 ms c4]] wi fun e w' => e = .returned (.bool Y) ∧ Below wi.heap.size wi w')) (HY : Hid (∀ wi, Below w.heap.size w wi → Calls Tryz.prog 34 #[.agg #[.int .i64 valid, .slice a3 mb c3, .slice a4 ms c4]] wi fun e w' => e = .returned (.bool A) ∧ Below wi.heap.size wi w'))
    (HR : Hid (c = (Z && (bif decide (K = 3) then A else (Y && (!(decide (K = 6) && decide (3 ≤ N)) && (decide (K < 7) || decide (N = 0)))))))) :
    Calls Tryz.prog 15 #[.agg #[.int .i64 K, .int .i64 U, .int .i64 N, .int .i64 k, .slice a0 nb c0, .slice a1 nt c1, .int .i64 uid, .int .i64 mode, .int .i64 fl, .int .i64 si, .slice a2 nx c2, .int .i64 valid, .slice a3 mb c3, .slice a4 ms c4]] w fun e w' => e = .returned (.bool c) ∧ Below w.heap.size w w' := by
  have hk2 : decide (K = 0) = false := decide_eq_false (by omega)
  have hk3 : (K == 0) = false := by simp; omega
  have X0 : Hid (∀ o, Below w.heap.size w (w.alloc o)) := fun o => (Below.refl _ _).alloc (Nat.le_refl _) o
  have kA := box_new w (.cells #[.int .i64 K, .int .i64 U, .int .i64 N, .int .i64 k, .slice a0 nb c0, .slice a1 nt c1, .int .i64 uid, .int .i64 mode, .int .i64 fl, .int .i64 si, .slice a2 nx c2, .int .i64 valid, .slice a3 mb c3, .slice a4 ms c4] 39)
  have hl3 : ∀ w, Calls Tryz.prog 31 #[.int .i64 N] w fun e w' => e = .returned (.bool true) ∧ w' = w := fun w => by
    have h := l3seq_any N w
    rwa [show inB N 0 1000000 = true by simp [inB]; omega] at h
  go_enter Tryz.func15, Tryz.ntmps15
  go_wp2_with fail
  refine (hl3 _).mono ?_
  rintro e w' ⟨rfl, rfl⟩
  have X := X0.out (.cells #[.int .i64 K, .int .i64 U, .int .i64 N, .int .i64 k, .slice a0 nb c0, .slice a1 nt c1, .int .i64 uid, .int .i64 mode, .int .i64 fl, .int .i64 si, .slice a2 nx c2, .int .i64 valid, .slice a3 mb c3, .slice a4 ms c4] 39)
  generalize hw0 : w.alloc (.cells #[.int .i64 K, .int .i64 U, .int .i64 N, .int .i64 k, .slice a0 nb c0, .slice a1 nt c1, .int .i64 uid, .int .i64 mode, .int .i64 fl, .int .i64 si, .slice a2 nx c2, .int .i64 valid, .slice a3 mb c3, .slice a4 ms c4] 39) = w0 at X kA ⊢
  have DR : Below w0.heap.size w0 w0.drew := (Below.refl _ _).drew
  have HF : Hid (∀ w', Below w0.heap.size w0 w' → w'.cell? ⟨w.heap.size, 0, none⟩ = some (.int .i64 K) ∧ w'.cell? ⟨w.heap.size, 1, none⟩ = some (.int .i64 U) ∧ w'.cell? ⟨w.heap.size, 2, none⟩ = some (.int .i64 N) ∧ w'.cell? ⟨w.heap.size, 3, none⟩ = some (.int .i64 k) ∧ w'.cell? ⟨w.heap.size, 4, none⟩ = some (.slice a0 nb c0) ∧ w'.cell? ⟨w.heap.size, 5, none⟩ = some (.slice a1 nt c1) ∧ w'.cell? ⟨w.heap.size, 6, none⟩ = some (.int .i64 uid) ∧ w'.cell? ⟨w.heap.size, 7, none⟩ = some (.int .i64 mode) ∧ w'.cell? ⟨w.heap.size, 8, none⟩ = some (.int .i64 fl) ∧ w'.cell? ⟨w.heap.size, 9, none⟩ = some (.int .i64 si) ∧ w'.cell? ⟨w.heap.size, 10, none⟩ = some (.slice a2 nx c2) ∧ w'.cell? ⟨w.heap.size, 11, none⟩ = some (.int .i64 valid) ∧ w'.cell? ⟨w.heap.size, 12, none⟩ = some (.slice a3 mb c3) ∧ w'.cell? ⟨w.heap.size, 13, none⟩ = some (.slice a4 ms c4)) := fun w' h => bx14 (box_below h kA)
  have hl : w.heap.size < w0.heap.size := lt_of_heap kA
  clear X0 hl3
  go_wp2
  cases Z with
  | false =>
    refine wp_begin (S := fun w' => w'.cell? ⟨w.heap.size, 0, none⟩ = some (.int .i64 K) ∧ w'.cell? ⟨w.heap.size, 1, none⟩ = some (.int .i64 U) ∧ w'.cell? ⟨w.heap.size, 2, none⟩ = some (.int .i64 N) ∧ w'.cell? ⟨w.heap.size, 3, none⟩ = some (.int .i64 k) ∧ w'.cell? ⟨w.heap.size, 4, none⟩ = some (.slice a0 nb c0) ∧ w'.cell? ⟨w.heap.size, 5, none⟩ = some (.slice a1 nt c1) ∧ w'.cell? ⟨w.heap.size, 6, none⟩ = some (.int .i64 uid) ∧ w'.cell? ⟨w.heap.size, 7, none⟩ = some (.int .i64 mode) ∧ w'.cell? ⟨w.heap.size, 8, none⟩ = some (.int .i64 fl) ∧ w'.cell? ⟨w.heap.size, 9, none⟩ = some (.int .i64 si) ∧ w'.cell? ⟨w.heap.size, 10, none⟩ = some (.slice a2 nx c2) ∧ w'.cell? ⟨w.heap.size, 11, none⟩ = some (.int .i64 valid) ∧ w'.cell? ⟨w.heap.size, 12, none⟩ = some (.slice a3 mb c3) ∧ w'.cell? ⟨w.heap.size, 13, none⟩ = some (.slice a4 ms c4)) (tab_of (by kernel_rfl) tabRO3) (by kernel_rfl) (HF.out _ DR) (fun hTb hHeld => ?_)
    refine tkq 0 27 hTb hHeld ?_
    refine tkq 1 28 hTb hHeld ?_
    refine tkq 2 29 hTb hHeld ?_
    refine tkq 3 30 hTb hHeld ?_
    refine tkq 4 31 hTb hHeld ?_
    refine clp 5 hTb (by decide) ?_
    refine AllReadyH.cons rfl (fun K hK => ?_) AllReadyH.nil
    go_simp
    refine (HZ.out _ (Below.step X DR)).mono ?_
    rintro e w1 ⟨rfl, B⟩
    refine hK.out _ _ (HF.out _ (Below.step DR B)) (fun hHeld => ?_)
    clear hK K
    refine wpAt_in (n := 24) (i := 5) (by decide) rfl rfl ?_
    refine tkq 6 33 hTb hHeld ?_
    refine tkq 7 34 hTb hHeld ?_
    refine tkq 8 35 hTb hHeld ?_
    refine skj (i := 9) (j := 23) [36, 37, 38, 39, 40, 41, 42, 43, 44, 45, 46, 47, 48, 49] rfl hTb (fun _ _ _ _ _ h => h) hHeld (by kernel_rfl) ?_
    conv => arg 7; dsimp only [List.foldl_cons, List.foldl_nil, setT, List.toList_toArray, put0, putS]
    refine tkq 23 50 hTb hHeld ?_
    refine wp_end hTb ?_
    replace X := Below.step (Below.step X DR) B
    replace kA := box_below B (box_below DR kA)
    clear HF DR B HZ HC
    repeat clear hHeld
    clear hTb
    go_wp2
    go_ret
    exact ⟨ret_b HR.out, X⟩
  | true =>
    refine wp_begin (S := fun w' => w'.cell? ⟨w.heap.size, 0, none⟩ = some (.int .i64 K) ∧ w'.cell? ⟨w.heap.size, 1, none⟩ = some (.int .i64 U) ∧ w'.cell? ⟨w.heap.size, 2, none⟩ = some (.int .i64 N) ∧ w'.cell? ⟨w.heap.size, 3, none⟩ = some (.int .i64 k) ∧ w'.cell? ⟨w.heap.size, 4, none⟩ = some (.slice a0 nb c0) ∧ w'.cell? ⟨w.heap.size, 5, none⟩ = some (.slice a1 nt c1) ∧ w'.cell? ⟨w.heap.size, 6, none⟩ = some (.int .i64 uid) ∧ w'.cell? ⟨w.heap.size, 7, none⟩ = some (.int .i64 mode) ∧ w'.cell? ⟨w.heap.size, 8, none⟩ = some (.int .i64 fl) ∧ w'.cell? ⟨w.heap.size, 9, none⟩ = some (.int .i64 si) ∧ w'.cell? ⟨w.heap.size, 10, none⟩ = some (.slice a2 nx c2) ∧ w'.cell? ⟨w.heap.size, 11, none⟩ = some (.int .i64 valid) ∧ w'.cell? ⟨w.heap.size, 12, none⟩ = some (.slice a3 mb c3) ∧ w'.cell? ⟨w.heap.size, 13, none⟩ = some (.slice a4 ms c4)) (tab_of (by kernel_rfl) tabRO3) (by kernel_rfl) (HF.out _ DR) (fun hTb hHeld => ?_)
    refine tkq 0 27 hTb hHeld ?_
    refine tkq 1 28 hTb hHeld ?_
    refine tkq 2 29 hTb hHeld ?_
    refine tkq 3 30 hTb hHeld ?_
    refine tkq 4 31 hTb hHeld ?_
    refine clp 5 hTb (by decide) ?_
    refine AllReadyH.cons rfl (fun K hK => ?_) AllReadyH.nil
    go_simp
    refine (HZ.out _ (Below.step X DR)).mono ?_
    rintro e w1 ⟨rfl, B⟩
    refine hK.out _ _ (HF.out _ (Below.step DR B)) (fun hHeld => ?_)
    clear hK K
    refine wpAt_in (n := 24) (i := 5) (by decide) rfl rfl ?_
    refine tkq 6 33 hTb hHeld ?_
    refine tkq 7 34 hTb hHeld ?_
    refine tkq 8 35 hTb hHeld ?_
    refine tkq 9 36 hTb hHeld ?_
    refine tkq 10 37 hTb hHeld ?_
    refine tkq 11 38 hTb hHeld ?_
    refine tkq 12 39 hTb hHeld ?_
    refine skj (i := 13) (j := 22) [40, 41, 42, 43, 44, 45, 46, 47, 48] rfl hTb (fun _ _ _ _ _ h => h) hHeld (by kernel_rfl) ?_
    conv => arg 7; dsimp only [List.foldl_cons, List.foldl_nil, setT, List.toList_toArray, put0, putS]
    refine tkq 22 49 hTb hHeld ?_
    refine tkq 23 50 hTb hHeld ?_
    refine wp_end hTb ?_
    replace X := Below.step (Below.step X DR) B
    replace kA := box_below B (box_below DR kA)
    clear HF DR B HZ HC
    repeat clear hHeld
    clear hTb
    obtain ⟨f0, f1, f2, f3, f4, f5, f6, f7, f8, f9, f10, f11, f12, f13⟩ := bx14 kA
    have hl' := lt_of_heap kA
    by_cases h3 : K = 3
    · subst h3
      go_wp2_with fail
      refine (HY.out _ X).mono ?_
      rintro e w3 ⟨rfl, B⟩
      go_wp2
      go_ret
      exact ⟨ret_b HR.out, Below.step X B⟩
    · rw [decide_eq_false h3] at HR
      go_wp2_with fail
      refine (HA.out _ X).mono ?_
      rintro e w3 ⟨rfl, B⟩
      clear f0 f1 f2 f3 f4 f5 f6 f7 f8 f9 f10 f11 f12 f13 hl'
      replace X := Below.step X B
      replace kA := box_below B kA
      clear B
      obtain ⟨f0, f1, f2, f3, f4, f5, f6, f7, f8, f9, f10, f11, f12, f13⟩ := bx14 kA
      have hl' := lt_of_heap kA
      cases Y with
      | false =>
        go_wp2
        go_ret
        exact ⟨ret_b HR.out, X⟩
      | true =>
        clear hk2 hk3
        go_wp2
        all_goals (go_ret; refine ⟨ret_b (HR.out.trans ?_), X⟩; clear HR X HA HY kA f0 f1 f2 f3 f4 f5 f6 f7 f8 f9 f10 f11 f12 f13; (try simp only [beq_iff_eq, beq_eq_false_iff_ne, ne_eq] at *); rw [Bool.eq_iff_iff]; simp; omega)

end Go.Proofs.YtifpjdpcmfneaaaGreatDoor
