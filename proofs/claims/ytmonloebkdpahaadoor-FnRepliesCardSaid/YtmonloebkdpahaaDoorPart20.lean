/- The proof's texts, part 20. -/
import Derived.Test.YtmonloebkdpahaaDoorPart16
import Derived.Test.YtmonloebkdpahaaDoorPart19
import Derived.Test.YtmonloebkdpahaaDoorPart2
import Derived.Test.YtmonloebkdpahaaDoorPart4
import Derived.Test.YtmonloebkdpahaaDoorPart1

/- What replyWords, ReplyText of package impl do. -/
namespace Go.Proofs.YtmonloebkdpahaaDoor
open Go.RowKit
set_option maxRecDepth 100000
set_option linter.unusedVariables false
set_option linter.unusedSimpArgs false

theorem replyWords_r (w : World) : Calls Tryd.prog 29 #[] w fun e w' => e = .returned (.slice (some ⟨w.heap.size, 0, none⟩) 7 7) ∧ w' = w.alloc (.cells #[.string ⟨#[79, 75]⟩, .string ⟨#[78, 79, 78, 69]⟩, .string ⟨#[69, 88, 73, 83, 84, 83]⟩, .string ⟨#[70, 85, 76, 76]⟩, .string ⟨#[83, 84, 65, 76, 69]⟩, .string ⟨#[66, 65, 68]⟩, .string ⟨#[65, 87, 65, 89]⟩] 9) := by
  go_enter Tryd.func29, Tryd.ntmps29
  go_wp2
  go_ret
  exact ⟨rfl, rfl⟩
theorem codeCell {w : World} {b cn : Nat} (hc : cn ≤ 6) (h : w.heap[b]? = some (.cells #[.string ⟨#[79, 75]⟩, .string ⟨#[78, 79, 78, 69]⟩, .string ⟨#[69, 88, 73, 83, 84, 83]⟩, .string ⟨#[70, 85, 76, 76]⟩, .string ⟨#[83, 84, 65, 76, 69]⟩, .string ⟨#[66, 65, 68]⟩, .string ⟨#[65, 87, 65, 89]⟩] 9 (0, 0))) : w.cell? ⟨b, cn, none⟩ = some (.string (strOfNums (codeW cn))) := by
  rw [cell_of_row w b cn _ _ (0, 0) h]
  have : cn = 0 ∨ cn = 1 ∨ cn = 2 ∨ cn = 3 ∨ cn = 4 ∨ cn = 5 ∨ cn = 6 := by omega
  rcases this with rfl | rfl | rfl | rfl | rfl | rfl | rfl <;> rfl
theorem tabRT9 : (Tryd.f8.body.bind (opsAt 9)).all (fun o => tableO o 8 [1, 2, 5, 0, 3, 4, 6, 7] [3, 6]) = true := by kernel_rfl

set_option maxRecDepth 100000 in
set_option maxHeartbeats 4000000 in
theorem implReplyText_r (v : Value) (x : RepD) (w : World) (hv : RepV w v x) (ht : Tab10 w) :
    Calls Tryd.prog 8 #[v] w fun e w' => ∃ u, e = .returned u ∧ Row w' w.heap.size w'.heap.size u (rtB x) ∧ Below w.heap.size w w' := by
  have H0 : Hid (∀ wi, Below w.heap.size w wi → RepV wi v x) := fun wi h => hv.below h
  have HT : Hid (∀ wi, Below w.heap.size w wi → Tab10 wi) := fun wi h => Lib.tabBelow_of_tabIs ht _ h
  obtain ⟨a0, n0, c0, a1, c1, a2, c2, a3, c3, rfl⟩ := hv.form
  clear hv ht
  have HX : Hid (∀ o, Below w.heap.size w (w.alloc o)) := fun o => (Below.refl _ _).alloc (Nat.le_refl _) o
  have HK0 := box_new w (.cells #[.int .i64 x.code, .int .i64 x.num, .slice a0 n0 c0, .int .i64 x.box.valid, .int .i64 x.box.next, .int .i64 x.box.seq, .slice a1 x.box.mails.length c1, .slice a2 x.box.gones.length c2, .int .i64 x.box.lost, .slice a3 x.names.length c3] 37)
  go_enter Tryd.func8, Tryd.ntmps8
  go_wp2_with fail
  refine (replyOk_gen _ x _ (H0.out _ (HX.out _))).mono ?_
  rintro e A ⟨rfl, B⟩
  have XA : Hid (Below w.heap.size w A) := Below.step (HX.out _) B
  have HK : Hid (A.heap[w.heap.size]? = some (.cells #[.int .i64 x.code, .int .i64 x.num, .slice a0 n0 c0, .int .i64 x.box.valid, .int .i64 x.box.next, .int .i64 x.box.seq, .slice a1 x.box.mails.length c1, .slice a2 x.box.gones.length c2, .int .i64 x.box.lost, .slice a3 x.names.length c3] 37)) := box_below B HK0
  clear HK0 B HX
  cases hok : repB x with
  | false =>
    have HE : Hid (rtB x = []) := rtB_no hok
    clear hok
    obtain ⟨f0, f1, f2, f3, f4, f5, f6, f7, f8, f9⟩ := bx10 HK.out
    go_wp2
    go_ret
    exact ⟨_, rfl, by rw [HE.out]; exact Row.nil _ _ _, XA.out⟩
  | true =>
    have HE : Hid (rtB x = replyL x) := rtB_yes hok
    obtain ⟨hc, hn, hnl, hnm, hbx⟩ := rep_facts hok
    have HNM : Hid (∀ n, n ∈ x.names → n.length ≤ 6 ∧ 0 < n.length) := hnm
    have HBX : Hid (zeroXB x.box = true ∨ boxB x.box 1000000 = true) := hbx
    clear hok hnm hbx
    have hsA : w.heap.size < A.heap.size := lt_of_heap HK.out
    obtain ⟨cn, hcn'⟩ : ∃ n : Nat, x.code = n := ⟨x.code.toNat, by omega⟩
    have hcn : cn ≤ 6 := by omega
    have hcnI : (cn : Int) < 7 := by omega
    have hcw := codeW_ok cn hcn
    rw [hcn'] at HK
    obtain ⟨z0, hi, hz0, hz1, hz2⟩ := info_parts infoStr
    have HND : Hid (∀ s, s ∈ digB x.num.toNat :: x.names → Oct s ∧ s.length ≤ 1000) := by
      intro s hs
      rcases List.mem_cons.1 hs with rfl | hs
      · exact ⟨digB_oct _, by have := digB_len10 (n := x.num.toNat) (by omega); omega⟩
      · obtain ⟨j, hj, rfl⟩ := List.mem_iff_getElem.1 hs
        obtain ⟨_, _, _, _, _, _, _, hb⟩ := NamesV.cell (H0.out _ XA.out).parts.2.1 j _ (List.getElem?_eq_getElem hj)
        exact ⟨hb.1, by have := HNM.out _ hs; omega⟩
    obtain ⟨f0, f1, f2, f3, f4, f5, f6, f7, f8, f9⟩ := bx10 HK.out
    go_wp2_with fail
    refine (itoa_i x.num hn.1 (by omega) _ (HT.out _ XA.out)).mono ?_
    rintro e w2 ⟨rfl, B2⟩
    have K2 := box_below B2 HK.out
    have AB3 : Below w2.heap.size w2 (w2.alloc (.cells #[.string (strOfNums (digB x.num.toNat))] 9)) := (Below.refl _ _).alloc (Nat.le_refl _) _
    have X3 := Below.step B2 AB3
    have HF3 : Hid ((w2.alloc (.cells #[.string (strOfNums (digB x.num.toNat))] 9)).ownsRow A.heap.size 9 1 (.slice (some ⟨w2.heap.size, 0, none⟩) 1 1) 1 (strVals (digB x.num.toNat :: x.names.take 0))) := by
      have h := rowS_lit _ A.heap.size w2.heap.size [digB x.num.toNat] (box_new w2 (.cells #[.string (strOfNums (digB x.num.toNat))] 9)) B2.size (by simp)
      simpa [Hid] using h
    have K3 := box_below AB3 K2
    generalize hw3 : w2.alloc (.cells #[.string (strOfNums (digB x.num.toNat))] 9) = w3 at *
    clear f0 f1 f2 f3 f4 f5 f6 f7 f8 f9 K2 B2 AB3
    obtain ⟨f0, f1, f2, f3, f4, f5, f6, f7, f8, f9⟩ := bx10 K3
    have hlA := lt_of_heap K3
    go_wp2
    go_loopw [3, 17] (fun first i wr => ∃ (k : Nat) (o : Value), k ≤ x.names.length ∧ i = .int .i64 k ∧ o = first ∧ Hid (wr.ownsRow A.heap.size 9 1 o (k + 1) (strVals (digB x.num.toNat :: x.names.take k))) ∧ Hid (Below A.heap.size A wr)) (fun _ i _ => x.names.length - (intOf i).toNat)
    case atStart => exact ⟨0, _, Nat.zero_le _, rfl, rfl, HF3, X3⟩
    case round =>
      clear f0 f1 f2 f3 f4 f5 f6 f7 f8 f9 hlA K3 X3 HF3
      obtain ⟨k, o, hk, rfl, rfl, hO, hB⟩ := hrel
      have hsr := hB.out.size
      by_cases hlt : k < x.names.length
      · obtain ⟨y, hy⟩ : ∃ y, x.names[k]? = some y := ⟨x.names[k], List.getElem?_eq_getElem hlt⟩
        obtain ⟨b, off, cap', u, hv', hlb, d0, hu⟩ := NamesV.cell (H0.out wr (Below.step XA.out hB.out)).parts.2.1 k y hy
        simp only [Value.slice.injEq, true_and] at hv'
        obtain ⟨rfl, rfl⟩ := hv'
        obtain ⟨ua, un, uc, rfl⟩ := hu.form3
        have hcv := run_convert_bs hu
        have HST : Hid (digB x.num.toNat :: x.names.take (k + 1) = (digB x.num.toNat :: x.names.take k) ++ [y]) := by
          obtain ⟨h, rfl⟩ := List.getElem?_eq_some_iff.1 hy
          unfold Hid
          rw [List.take_succ_eq_append_getElem h, List.cons_append]
        have HFA : Hid ((wr.alloc (.cells #[.string (strOfNums y)] 9)).ownsRow A.heap.size 9 1 _ (k + 1) (strVals (digB x.num.toNat :: x.names.take k))) := hO.out.kept (World.grownBy_alloc _ _ none) (by cases hq : Value.ownBlock _ <;> simp)
        have HG2 : Hid ((wr.alloc (.cells #[.string (strOfNums y)] 9)).heap[wr.heap.size]? = some (.cells (strVals [y]).toArray 9 (0, 0))) := box_new wr (.cells #[.string (strOfNums y)] 9)
        have HBA : Hid (Below A.heap.size A (wr.alloc (.cells #[.string (strOfNums y)] 9))) := Below.step hB.out ((Below.refl _ _).alloc (Nat.le_refl _) _)
        have sA : A.heap.size ≤ (wr.alloc (.cells #[.string (strOfNums y)] 9)).heap.size := HBA.out.size
        have hlen : k + 1 = (digB x.num.toNat :: x.names.take k).length := by simp; omega
        clear hy hu hO hB
        go_wp2_with (at_builtin; refine wpList_append_strs rfl (.tmp 21) (.tmp 24) 60 rfl z0 Tryd.underlying60 hi hz0 hz1 hz2 A.heap.size _ (digB x.num.toNat :: x.names.take k) [y] (k + 1) 1 hlen rfl rfl HFA.out wr.heap.size rfl HG2.out (by omega) sA ?_)
        intro v6 w6 hO6 hG6
        have HF6 : Hid (w6.ownsRow A.heap.size 9 1 v6 (k + 1 + 1) (strVals (digB x.num.toNat :: x.names.take (k + 1)))) := by
          rw [HST.out]
          have e : ((digB x.num.toNat :: x.names.take k) ++ [y]).length = k + 1 + 1 := by rw [List.length_append, ← hlen]; rfl
          rw [e] at hO6
          exact hO6
        have HB6 : Hid (Below A.heap.size A w6) := HBA.out.grown hG6 HBA.out.size (fun q hq => (HFA.out.lt q hq).1)
        clear hO6 hG6 HFA HG2 HBA HST d0 hcv
        go_wp2
        go_roundw
        case rel => exact ⟨k + 1, _, by omega, by go_num, rfl, HF6, HB6⟩
        case measure => simp [intOf]; omega
      · obtain rfl : k = x.names.length := by omega
        generalize hwl : wr = wl at *
        have CL0 : Below A.heap.size A wl := hB.out
        have CL := Below.step CL0 (show Below wl.heap.size wl wl.drew from (Below.refl _ _).drew)
        have SV : Hid (∀ wi, Below wl.drew.heap.size wl.drew wi → StrsV wi o (digB x.num.toNat :: x.names)) := by
          intro wi h
          have hO' := hO.out
          rw [List.take_length] at hO'
          have h2 : StrsV wl o (digB x.num.toNat :: x.names) := strs_of_row (B := A.heap.size) (by simpa using hO') (fun s hs => (HND.out s hs).1)
          exact h2.below keepsStr (Below.step (show Below wl.heap.size wl wl.drew from (Below.refl _ _).drew) h)
        have HS : Hid (∀ w', Below A.heap.size A w' → w'.cell? ⟨w.heap.size, 0, none⟩ = some (.int .i64 cn)) := fun w' h => (bx10 (box_below h HK.out)).1
        have HLS : Hid (∀ s, s ∈ digB x.num.toNat :: x.names → s.length ≤ 1000) := fun s hs => (HND.out s hs).2
        have KL := box_below CL0 HK.out
        obtain ⟨f0, f1, f2, f3, f4, f5, f6, f7, f8, f9⟩ := bx10 KL
        have hlA := lt_of_heap KL
        clear hO
        go_wp2
        refine wpO_begin (S := fun w' => w'.cell? ⟨w.heap.size, 0, none⟩ = some (.int .i64 cn)) (tabO_of (by kernel_rfl) tabRT9) (by kernel_rfl) (HS.out _ CL) (fun hTb hHeld => ?_)
        generalize hwd : wl.drew = wd at *
        refine tko 0 1 28 ?v1 hTb ?h1 hHeld ?_; case h1 => (intro w s; (try dsimp only at s); go_simp <;> with_reducible rfl)
        conv => arg 8; dsimp only [setT, List.toList_toArray, put0, putS]
        refine tko 1 2 29 ?v2 hTb ?h2 hHeld ?_; case h2 => (intro w s; (try dsimp only at s); go_simp <;> with_reducible rfl)
        conv => arg 8; dsimp only [setT, List.toList_toArray, put0, putS]
        refine tko 2 5 32 ?v3 hTb ?h3 hHeld ?_; case h3 => (intro w s; (try dsimp only at s); go_simp <;> with_reducible rfl)
        conv => arg 8; dsimp only [setT, List.toList_toArray, put0, putS]
        refine clo 3 0 hTb (by decide) rfl ?_
        refine AllReadyH.cons rfl (fun K hK => ?_) AllReadyH.nil
        go_simp
        refine (replyWords_r _).mono ?_
        rintro e w5 ⟨rfl, hw5⟩
        have B5 : Below wd.heap.size wd w5 := by rw [hw5]; exact (Below.refl _ _).alloc (Nat.le_refl _) _
        have KB : w5.heap[wd.heap.size]? = some (.cells #[.string ⟨#[79, 75]⟩, .string ⟨#[78, 79, 78, 69]⟩, .string ⟨#[69, 88, 73, 83, 84, 83]⟩, .string ⟨#[70, 85, 76, 76]⟩, .string ⟨#[83, 84, 65, 76, 69]⟩, .string ⟨#[66, 65, 68]⟩, .string ⟨#[65, 87, 65, 89]⟩] 9) := by rw [hw5]; exact box_new wd _
        have C5 := Below.step CL B5
        clear hw5
        refine hK.out _ _ (HS.out _ C5) (fun hHeld => ?_)
        clear hK K
        refine wpOrd_in (n := 8) (p := 3) (i := 0) rfl rfl rfl ?_
        refine wpOrd_more (fun w' => w'.cell? ⟨wd.heap.size, cn, none⟩ = some (.string (strOfNums (codeW cn))) ∧ w'.cell? ⟨w.heap.size, 0, none⟩ = some (.int .i64 cn)) (fun _ h => h.2) ?_
        replace hHeld := And.intro (codeCell hcn KB) hHeld
        refine tko 4 3 30 ?v6 hTb ?h6 hHeld ?_; case h6 => (intro w s; (try dsimp only at s); go_simp <;> with_reducible rfl)
        conv => arg 8; dsimp only [setT, List.toList_toArray, put0, putS]
        refine tko 5 4 31 ?v7 hTb ?h7 hHeld ?_; case h7 => (intro w s; (try dsimp only at s); go_simp <;> with_reducible rfl)
        conv => arg 8; dsimp only [setT, List.toList_toArray, put0, putS]
        refine clo 6 6 hTb (by decide) rfl ?_
        refine AllReadyH.cons rfl (fun K hK => ?_) AllReadyH.nil
        go_simp
        refine (putLine_b w5.heap.size _ _ [] (codeW cn) (digB x.num.toNat :: x.names) _ (OwnB.nil' _ _) (Nat.le_refl _) hcw.2.2 (fun wi h => SV.out wi (Below.step B5 (h.below.mono (Nat.le_refl _)))) (by simp) (by omega) (by simp; omega) HLS.out).mono ?_
        rintro e w6 ⟨u6, rfl, R6, B6⟩
        have C6 := Below.step C5 B6.below
        refine hK.out _ _ (⟨codeCell hcn (box_below B6.below KB), HS.out _ C6⟩) (fun hHeld => ?_)
        clear hK K
        refine wpOrd_in (n := 8) (p := 6) (i := 6) rfl rfl rfl ?_
        refine tko 7 7 6 ?v9 hTb ?h9 hHeld ?_; case h9 => (intro w s; (try dsimp only at s); go_simp <;> with_reducible rfl)
        conv => arg 8; dsimp only [setT, List.toList_toArray, put0, putS]
        refine wpO_end hTb ?_
        have X6 : Hid (Below w.heap.size w w6) := Below.step XA.out C6
        have hs5 := C5.size
        have hs6 := C6.size
        have R6' : Hid (OwnB w6 w5.heap.size u6 (headL x)) := by
          have h := R6
          simp only [List.nil_append] at h
          rw [← hcn'] at h
          exact h
        have K6 := box_below C6 HK.out
        have D6 : Below w5.heap.size w5 w6 := B6.below
        have BV5 : Hid (BoxV w5 (.agg #[.slice a0 n0 c0, .int .i64 x.box.valid, .int .i64 x.box.next, .int .i64 x.box.seq, .slice a1 x.box.mails.length c1, .slice a2 x.box.gones.length c2, .int .i64 x.box.lost]) x.box) := (H0.out _ (Below.step XA.out C5)).parts.1
        have T5 : Hid (Tab10 w5) := HT.out _ (Below.step XA.out C5)
        have hw5 : w.heap.size ≤ w5.heap.size := by omega
        have hhl : (headL x).length ≤ 100000 := by
          have h1 := toks_len (digB x.num.toNat :: x.names) HLS.out
          have h2 : (codeW x.code).length ≤ 6 := by rw [hcn']; exact hcw.1
          simp only [List.length_cons] at h1
          simp only [headL, List.length_append, List.length_cons, List.length_nil]
          omega
        clear HS CL CL0 KL f0 f1 f2 f3 f4 f5 f6 f7 f8 f9 hlA hHeld hTb B5 KB C5 B6 R6 C6 SV HLS
        obtain ⟨f0, f1, f2, f3, f4, f5, f6, f7, f8, f9⟩ := bx10 K6
        have hlA := lt_of_heap K6
        have HZ := boxIsZero_any _ x.box w6 (H0.out _ X6.out).parts.1
        generalize hzx : zeroXB x.box = z at HZ
        have HZX : Hid (zeroXB x.box = z) := hzx
        clear hzx
        go_wp2_with fail
        refine HZ.mono ?_
        rintro e w7 ⟨rfl, B7⟩
        have X7 : Hid (Below w.heap.size w w7) := Below.step X6.out B7
        have K7 := box_below B7 K6
        have R7 : Hid (OwnB w7 w5.heap.size u6 (headL x)) := R6'.out.below B7
        have D7 : Hid (Below w5.heap.size w5 w7) := Below.step D6 B7
        clear f0 f1 f2 f3 f4 f5 f6 f7 f8 f9 hlA B7 K6 R6' D6 X6 HZ
        obtain ⟨f0, f1, f2, f3, f4, f5, f6, f7, f8, f9⟩ := bx10 K7
        have hlA := lt_of_heap K7
        cases z with
        | true =>
          go_wp2
          go_ret
          refine ⟨_, rfl, ?_, X7.out⟩
          rw [HE.out]
          unfold replyL
          rw [if_pos HZX.out, List.append_nil]
          exact R7.out.toRow.wide hw5 (Nat.le_refl _)
        | false =>
          obtain ⟨q0, q1, q2, q3, q4, q5, q6, q7, q8⟩ := box_facts (HBX.out.resolve_left (by rw [HZX.out]; simp))
          have HQ7 := hidm q7
          have HQ8 := hidm q8
          clear q7 q8
          go_wp2_with fail
          refine (putBoxLines_b w5 u6 _ (headL x) x.box w7 R7.out D7.out BV5.out T5.out hhl (by omega) q2.1 (by omega) q3.1 (by omega) q4.1 (by omega) q5 q6 (fun m hm => by have := HQ7.out m hm; omega) (fun m hm => by have := HQ8.out m hm; omega)).mono ?_
          rintro e w8 ⟨u8, rfl, R8, T8⟩
          have HF : Hid (Row w8 w.heap.size w8.heap.size u8 (rtB x)) := by
            rw [HE.out]
            unfold replyL
            rw [if_neg (by rw [HZX.out]; simp)]
            exact R8.toRow.wide hw5 (Nat.le_refl _)
          have X8 : Hid (Below w.heap.size w w8) := X7.out.trans (T8.below.mono hw5)
          clear f0 f1 f2 f3 f4 f5 f6 f7 f8 f9 hlA K7 R8 T8 R7 D7 X7
          go_wp2
          go_ret
          exact ⟨_, rfl, HF.out, X8.out⟩

end Go.Proofs.YtmonloebkdpahaaDoor

/- Plain facts on boxes. -/
namespace Go.Proofs.YtmonloebkdpahaaDoor
set_option linter.unusedVariables false

theorem waysM1 : ∀ b0 b1 b2 b3 b4 b5 b6 t : Bool, (b0 = true) ∨ (b0 = false ∧ b1 = true) ∨ (b0 = false ∧ b1 = false ∧ b2 = true) ∨ (b0 = false ∧ b1 = false ∧ b2 = false ∧ b3 = true) ∨ (b0 = false ∧ b1 = false ∧ b2 = false ∧ b3 = false ∧ b4 = true) ∨ (b0 = false ∧ b1 = false ∧ b2 = false ∧ b3 = false ∧ b4 = false ∧ b5 = true) ∨ (b0 = false ∧ b1 = false ∧ b2 = false ∧ b3 = false ∧ b4 = false ∧ b5 = false ∧ b6 = true) ∨ (b0 = false ∧ b1 = false ∧ b2 = false ∧ b3 = false ∧ b4 = false ∧ b5 = false ∧ b6 = false ∧ t = false) ∨ (b0 = false ∧ b1 = false ∧ b2 = false ∧ b3 = false ∧ b4 = false ∧ b5 = false ∧ b6 = false ∧ t = true) := by
  intro b0 b1 b2 b3 b4 b5 b6 t
  cases b0 <;> cases b1 <;> cases b2 <;> cases b3 <;> cases b4 <;> cases b5 <;> cases b6 <;> cases t <;> simp
theorem waysM0 : ∀ b0 b1 b2 b3 b4 b5 t : Bool, (b0 = true) ∨ (b0 = false ∧ b1 = true) ∨ (b0 = false ∧ b1 = false ∧ b2 = true) ∨ (b0 = false ∧ b1 = false ∧ b2 = false ∧ b3 = true) ∨ (b0 = false ∧ b1 = false ∧ b2 = false ∧ b3 = false ∧ b4 = true) ∨ (b0 = false ∧ b1 = false ∧ b2 = false ∧ b3 = false ∧ b4 = false ∧ b5 = true) ∨ (b0 = false ∧ b1 = false ∧ b2 = false ∧ b3 = false ∧ b4 = false ∧ b5 = false ∧ t = false) ∨ (b0 = false ∧ b1 = false ∧ b2 = false ∧ b3 = false ∧ b4 = false ∧ b5 = false ∧ t = true) := by
  intro b0 b1 b2 b3 b4 b5 t
  cases b0 <;> cases b1 <;> cases b2 <;> cases b3 <;> cases b4 <;> cases b5 <;> cases t <;> simp
theorem waysG1 : ∀ b0 b1 b2 b3 b4 b5 b6 t : Bool, (b0 = true) ∨ (b0 = false ∧ b1 = true) ∨ (b0 = false ∧ b1 = false ∧ b2 = true) ∨ (b0 = false ∧ b1 = false ∧ b2 = false ∧ b3 = true) ∨ (b0 = false ∧ b1 = false ∧ b2 = false ∧ b3 = false ∧ b4 = true) ∨ (b0 = false ∧ b1 = false ∧ b2 = false ∧ b3 = false ∧ b4 = false ∧ b5 = true) ∨ (b0 = false ∧ b1 = false ∧ b2 = false ∧ b3 = false ∧ b4 = false ∧ b5 = false ∧ b6 = true) ∨ (b0 = false ∧ b1 = false ∧ b2 = false ∧ b3 = false ∧ b4 = false ∧ b5 = false ∧ b6 = false ∧ t = true) ∨ (b0 = false ∧ b1 = false ∧ b2 = false ∧ b3 = false ∧ b4 = false ∧ b5 = false ∧ b6 = false ∧ t = false) := by
  intro b0 b1 b2 b3 b4 b5 b6 t
  cases b0 <;> cases b1 <;> cases b2 <;> cases b3 <;> cases b4 <;> cases b5 <;> cases b6 <;> cases t <;> simp
theorem waysG0 : ∀ b0 b1 b2 b3 b4 b5 t : Bool, (b0 = true) ∨ (b0 = false ∧ b1 = true) ∨ (b0 = false ∧ b1 = false ∧ b2 = true) ∨ (b0 = false ∧ b1 = false ∧ b2 = false ∧ b3 = true) ∨ (b0 = false ∧ b1 = false ∧ b2 = false ∧ b3 = false ∧ b4 = true) ∨ (b0 = false ∧ b1 = false ∧ b2 = false ∧ b3 = false ∧ b4 = false ∧ b5 = true) ∨ (b0 = false ∧ b1 = false ∧ b2 = false ∧ b3 = false ∧ b4 = false ∧ b5 = false ∧ t = true) ∨ (b0 = false ∧ b1 = false ∧ b2 = false ∧ b3 = false ∧ b4 = false ∧ b5 = false ∧ t = false) := by
  intro b0 b1 b2 b3 b4 b5 t
  cases b0 <;> cases b1 <;> cases b2 <;> cases b3 <;> cases b4 <;> cases b5 <;> cases t <;> simp
theorem mailE1 {q uid next flags seq bs : Int} {T : Bool} (hq : 0 ≤ q) : (inB uid (q + 1) (next - 1) && (inB flags 0 31 && (inB seq 1 bs && T))) = !(decide (uid < 1) || (decide (next ≤ uid) || (decide (uid ≤ q) || (decide (flags < 0) || (decide (31 < flags) || (decide (seq < 1) || (decide (bs < seq) || !T))))))) := by
  rw [Bool.eq_iff_iff]; simp [inB]; cases T <;> simp <;> omega
theorem mailE0 {uid next flags seq bs : Int} {T : Bool} : (inB uid (0 + 1) (next - 1) && (inB flags 0 31 && (inB seq 1 bs && T))) = !(decide (uid < 1) || (decide (next ≤ uid) || (decide (flags < 0) || (decide (31 < flags) || (decide (seq < 1) || (decide (bs < seq) || !T)))))) := by
  rw [Bool.eq_iff_iff]; simp [inB]; cases T <;> simp <;> omega
theorem goneE1 {uid next seq ps bs lost : Int} {M G : Bool} (h1 : 1 ≤ ps) (h2 : lost ≤ ps) : (inB uid 1 (next - 1) && (inB seq ps bs && (!M && !G))) = !(decide (uid < 1) || (decide (next ≤ uid) || (M || (decide (seq < 1) || (decide (bs < seq) || (decide (seq < ps) || (decide (seq < lost) || G))))))) := by
  rw [Bool.eq_iff_iff]; simp [inB]; cases M <;> cases G <;> simp <;> omega
theorem goneE0 {uid next seq ms bs lost : Int} {M G : Bool} (h1 : 1 ≤ ms) (h2 : lost ≤ ms) (h3 : ms ≤ 1 ∨ ms ≤ lost) : (inB uid 1 (next - 1) && (inB seq ms bs && (!M && !G))) = !(decide (uid < 1) || (decide (next ≤ uid) || (M || (decide (seq < 1) || (decide (bs < seq) || (decide (seq < lost) || G)))))) := by
  rw [Bool.eq_iff_iff]; simp [inB]; cases M <;> cases G <;> simp <;> omega
theorem boxB_noM {x : BoxD} {mv : Int} (h : (List.range x.mails.length).all (mailAt x) = false) : boxB x mv = false := by simp [boxB, mailsB, h]
theorem first_bad {p : Nat → Bool} {n : Nat} (h : (List.range n).all p = false) : ∃ k, k < n ∧ (∀ j, j < k → p j = true) ∧ p k = false := by
  apply Classical.byContradiction
  intro hno
  have hall : ∀ k, k < n → p k = true := fun k => Nat.strongRecOn k (fun k ih hk => by
    cases hp : p k with
    | true => rfl
    | false => exact absurd ⟨k, hk, fun j hj => ih j hj (by omega), hp⟩ hno)
  have : (List.range n).all p = true := List.all_eq_true.2 (fun k hk => hall k (List.mem_range.1 hk))
  rw [this] at h; cases h
theorem only_bad {p : Nat → Bool} {k j : Nat} (h1 : ∀ i, i < k → p i = true) (h2 : p k = false) (h3 : ∀ i, i < j → p i = true) (h4 : p j = false) : j = k := by
  rcases Nat.lt_trichotomy j k with h | h | h
  · rw [h1 j h] at h4; cases h4
  · exact h
  · rw [h3 k h] at h2; cases h2
theorem boxB_noG {x : BoxD} {mv : Int} (h : (List.range x.gones.length).all (goneAt x) = false) : boxB x mv = false := by simp [boxB, gonesB, h]

def clsB (x : BoxD) (k : Nat) : Nat := match x.gones[k]? with
  | some m => if m.uid < 1 then 1 else if x.next ≤ m.uid then 2 else if (x.mails.any fun o => decide (o.uid = m.uid)) = true then 3 else if m.seq < 1 then 4 else if x.seq < m.seq then 5 else if (0 : Int) < (k : Int) then (if m.seq < minS x k then 8 else if m.seq < x.lost then 9 else 10) else (if m.seq < x.lost then 6 else 7)
  | none => 1
theorem clsB_range (x : BoxD) (k : Nat) : 1 ≤ clsB x k ∧ clsB x k ≤ 10 := by
  unfold clsB
  repeat' split
  all_goals omega
end Go.Proofs.YtmonloebkdpahaaDoor

/- The tables of l3boxOk's two regions that draw their order. -/
namespace Go.Proofs.YtmonloebkdpahaaDoor

theorem tab7 : (Tryd.f48.body.bind (opsAt 7)).all (fun o => table o 54 [51]) = true := by kernel_rfl
theorem tab13 : (Tryd.f48.body.bind (opsAt 13)).all (fun o => table o 61 [14, 59]) = true := by kernel_rfl

end Go.Proofs.YtmonloebkdpahaaDoor

/- What l3text of package spec does. -/
namespace Go.Proofs.YtmonloebkdpahaaDoor
open Go.RowKit
set_option maxRecDepth 100000

set_option maxHeartbeats 400000 in
theorem l3text_any (v : Value) (l : List Int) (w : World) (hv : Bs w v l) :
    Calls Tryd.prog 80 #[v] w fun e w' => e = .returned (.bool (textB l)) ∧ w' = w := by
  obtain ⟨ho, a, cap, rfl, hlc, hcm, hnil, hcells⟩ := hv
  unfold maxLen at hcm
  by_cases h0 : l.length ≤ 30
  · by_cases h1 : True
    · have HN : Hid (textB l = allIn 32 126 l) := by simp [Hid, textB, h0]
      clear h1
      go_enter Tryd.func80, Tryd.ntmps80
      go_wp2
      go_loop [3] (fun i => ∃ k : Nat, k ≤ l.length ∧ i = .int .i64 k ∧ Hid (∀ j, j < k → 32 ≤ l.getD j 0 ∧ l.getD j 0 ≤ 126)) (fun i => l.length - (intOf i).toNat)
      case atStart => exact ⟨0, Nat.zero_le _, rfl, fun j hj => absurd hj (Nat.not_lt_zero _)⟩
      case round =>
        obtain ⟨k, hk, rfl, hA⟩ := hrel
        by_cases hlt : k < l.length
        · obtain ⟨b, off, rfl, hlb, hc⟩ := hcells (by omega)
          have hx := hc k hlt
          have hbx := oct_get ho k
          have HY : Hid (l.getD k 0 = l.getD k 0) := rfl
          generalize hy : l.getD k 0 = x at hx hbx HY
          have HX : Hid (l.getD k 0 = x) := hy
          clear hy HY hc hcells
          by_cases c1 : 32 ≤ x
          · by_cases c2 : x ≤ 126
            · go_wp2
              go_round
              case rel =>
                refine ⟨k + 1, by omega, by go_num, (show Hid _ from fun j hj => ?_)⟩
                by_cases e : j = k
                · subst e; rw [HX.out]; exact ⟨c1, c2⟩
                · exact hA.out j (by omega)
              case measure => simp [intOf]; omega
            · go_wp2
              go_ret
              exact ⟨ret_b (a := false) (by rw [HN.out, allIn_no k hlt (by rw [HX.out]; omega)]), rfl⟩
          · go_wp2
            go_ret
            exact ⟨ret_b (a := false) (by rw [HN.out, allIn_no k hlt (by rw [HX.out]; omega)]), rfl⟩
        · obtain rfl : k = l.length := by omega
          go_wp2
          go_ret
          exact ⟨ret_b (a := true) (by rw [HN.out, allIn_yes hA.out]), rfl⟩
    · exact absurd trivial h1
  · have HN : Hid (textB l = false) := by simp [Hid, textB, h0]
    go_enter Tryd.func80, Tryd.ntmps80
    go_wp2
    go_ret
    exact ⟨ret_b (a := false) HN.out, rfl⟩

end Go.Proofs.YtmonloebkdpahaaDoor
