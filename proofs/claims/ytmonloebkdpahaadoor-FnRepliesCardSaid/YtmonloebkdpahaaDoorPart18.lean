/- The proof's texts, part 18. -/
import Derived.Test.YtmonloebkdpahaaDoorPart16
import Derived.Test.YtmonloebkdpahaaDoorPart17
import Derived.Deep.DeepCutAuto

/- What l4code, ReplyText of package spec do. -/
namespace Go.Proofs.YtmonloebkdpahaaDoor
open Go.RowKit
set_option maxRecDepth 100000
set_option linter.unusedVariables false
set_option linter.unusedSimpArgs false

set_option maxRecDepth 100000 in
set_option maxHeartbeats 4000000 in
theorem l4code_r (cn : Nat) (h : cn ≤ 6) (w : World) : Calls Tryd.prog 19 #[.int .i64 cn] w fun e w' => e = .returned (.string (strOfNums (codeW cn))) ∧ Below w.heap.size w w' := by
  have : cn = 0 ∨ cn = 1 ∨ cn = 2 ∨ cn = 3 ∨ cn = 4 ∨ cn = 5 ∨ cn = 6 := by omega
  rcases this with rfl | rfl | rfl | rfl | rfl | rfl | rfl
  all_goals
    go_enter Tryd.func19, Tryd.ntmps19
    go_wp2
    go_ret
    exact ⟨rfl, (Below.refl _ _).alloc (Nat.le_refl _) _⟩

/-- The first line without its end, k names being there. -/
def upL (x : RepD) (k : Nat) : List Int := codeW x.code ++ ((digB x.num.toNat) :: x.names.take k).flatMap tokB

set_option maxRecDepth 100000 in
set_option maxHeartbeats 4000000 in
theorem specReplyText_gen (v : Value) (x : RepD) (w : World) (hv : RepV w v x)
    (HO : Hid (∀ wi, Below w.heap.size w wi → ∀ u, BoxV wi u x.box → Calls Tryd.prog 48 #[u, .int .i64 1000000] wi fun e w' => e = .returned (.bool (boxB x.box 1000000)) ∧ Below wi.heap.size wi w')) :
    Calls Tryd.prog 6 #[v] w fun e w' => ∃ u, e = .returned u ∧ Bs w' u (rtB x) ∧ (∀ b, u.ownBlock = some b → w.heap.size ≤ b) ∧ Below w.heap.size w w' := by
  have H0 : Hid (∀ wi, Below w.heap.size w wi → RepV wi v x) := fun wi h => hv.below h
  obtain ⟨a0, n0, c0, a1, c1, a2, c2, a3, c3, rfl⟩ := hv.form
  clear hv
  have HX : Hid (∀ o, Below w.heap.size w (w.alloc o)) := fun o => (Below.refl _ _).alloc (Nat.le_refl _) o
  have HK0 := box_new w (.cells #[.int .i64 x.code, .int .i64 x.num, .slice a0 n0 c0, .int .i64 x.box.valid, .int .i64 x.box.next, .int .i64 x.box.seq, .slice a1 x.box.mails.length c1, .slice a2 x.box.gones.length c2, .int .i64 x.box.lost, .slice a3 x.names.length c3] 37)
  go_enter Tryd.func6, Tryd.ntmps6
  go_wp2_with fail
  refine (l4replyOk_gen _ x _ (H0.out _ (HX.out _)) (fun wi h u hu => HO.out wi (Below.step (HX.out _) h) u hu)).mono ?_
  rintro e A ⟨rfl, B⟩
  have XA : Hid (Below w.heap.size w A) := Below.step (HX.out _) B
  have HK : Hid (A.heap[w.heap.size]? = some (.cells #[.int .i64 x.code, .int .i64 x.num, .slice a0 n0 c0, .int .i64 x.box.valid, .int .i64 x.box.next, .int .i64 x.box.seq, .slice a1 x.box.mails.length c1, .slice a2 x.box.gones.length c2, .int .i64 x.box.lost, .slice a3 x.names.length c3] 37)) := box_below B HK0
  clear HK0 B HX HO
  cases hok : repB x with
  | false =>
    have HE : Hid (rtB x = []) := rtB_no hok
    clear hok
    obtain ⟨f0, f1, f2, f3, f4, f5, f6, f7, f8, f9⟩ := bx10 HK.out
    go_wp2
    go_ret
    exact ⟨_, rfl, by rw [HE.out]; exact bs_nil _, (fun b hb => by simp [Value.ownBlock] at hb), XA.out⟩
  | true =>
    have HE : Hid (rtB x = replyL x) := rtB_yes hok
    obtain ⟨hc, hn, hnl, hnm, hbx⟩ := rep_facts hok
    have HNM : Hid (∀ n, n ∈ x.names → n.length ≤ 6 ∧ 0 < n.length) := hnm
    have HBX : Hid (zeroXB x.box = true ∨ boxB x.box 1000000 = true) := hbx
    clear hok hnm hbx
    have hsA : w.heap.size < A.heap.size := lt_of_heap HK.out
    obtain ⟨cn, hcn'⟩ : ∃ n : Nat, x.code = n := ⟨x.code.toNat, by omega⟩
    obtain ⟨nn, hnn'⟩ : ∃ n : Nat, x.num = n := ⟨x.num.toNat, by omega⟩
    have hcn : cn ≤ 6 := by omega
    have hnn : nn ≤ 1000000 := by omega
    have hcw := codeW_ok cn hcn
    have hcv := run_convert_str (codeW cn)
    rw [hcn', hnn'] at HK
    have HS : Hid (∀ w', Below A.heap.size A w' → w'.cell? ⟨w.heap.size, 0, none⟩ = some (.int .i64 cn) ∧ w'.cell? ⟨w.heap.size, 1, none⟩ = some (.int .i64 nn)) := fun w' h => ⟨(bx10 (box_below h HK.out)).1, (bx10 (box_below h HK.out)).2.1⟩
    have C0 : Below A.heap.size A A.drew := (Below.refl _ _).drew
    have hlA := lt_of_heap HK.out
    obtain ⟨f0, f1, f2, f3, f4, f5, f6, f7, f8, f9⟩ := bx10 HK.out
    go_upto_region 3 with fail
    go_cut [3] (fun s wx => ∃ g, Hid (St A wx g s (codeW cn ++ [32] ++ digB nn) 15))
    case first =>
      clear f0 f1 f2 f3 f4 f5 f6 f7 f8 f9 hlA
      go_wp2
      refine wp_region_held_drew (S := fun w' => w'.cell? ⟨w.heap.size, 0, none⟩ = some (.int .i64 cn) ∧ w'.cell? ⟨w.heap.size, 1, none⟩ = some (.int .i64 nn)) (by kernel_rfl) (HS.out _ C0) (fun hHeld => (show wpAnyH _ _ _ _ _ 9 #[false, false, false, false, false, false, false, false, false] _ _ from ?_))
      refine tq 0 12 hHeld ?_
      refine tq 1 13 hHeld ?_
      refine tq 4 16 hHeld ?_
      refine tq 5 17 hHeld ?_
      generalize hwd : A.drew = wd at *
      refine wpAnyH_ready (rs := [2]) (by kernel_rfl) (by simp) ?_
      refine (AllReadyH.cons rfl (fun K hK => ?_) AllReadyH.nil)
      go_simp
      refine (l4code_r cn hcn _).mono ?_
      rintro e w1 ⟨rfl, B1⟩
      have C1 := Below.step C0 B1
      refine hK.out _ _ (HS.out _ C1) (fun hHeld => ?_)
      clear hK K
      refine wpAnyH_ready (rs := [3, 6]) (by kernel_rfl) (by simp) ?_
      refine (AllReadyH.cons rfl (fun K hK => ?_) (AllReadyH.cons rfl (fun K hK => ?_) AllReadyH.nil))
      · go_simp
        have q2 := bytesWorldQ w1 (codeW cn) hcw.2.2 (by omega)
        have S2 : Hid (St A (Lib.bytesWorld w1 5 (strOfNums (codeW cn))) w1.heap.size (.slice (some ⟨w1.heap.size, 0, none⟩) (codeW cn).length (grownCap w1 (codeW cn).length 0 5)) (codeW cn) 6) := ⟨C1.size, q2.1, Below.step C1 q2.2, hcw.2.1, hcw.1⟩
        refine hK.out _ _ (HS.out _ S2.out.old) (fun hHeld => ?_)
        clear hK K
        generalize hw2 : Lib.bytesWorld w1 5 (strOfNums (codeW cn)) = w2 at *
        refine wpAnyH_ready (rs := [6]) (by kernel_rfl) (by simp) ?_
        refine (AllReadyH.cons rfl (fun K hK => ?_) AllReadyH.nil)
        go_simp
        refine (l4digits_r nn (by omega) _).mono ?_
        rintro e w3 ⟨u3, rfl, R3, B3⟩
        have S3' := hidm (St.below S2.out B3)
        have N3 := R3.ne S2.out.lt
        refine hK.out _ _ (HS.out _ S3'.out.old) (fun hHeld => ?_)
        clear hK K
        refine wpAnyH_ready (rs := [7]) (by kernel_rfl) (by simp) ?_
        refine (AllReadyH.cons rfl (fun K hK => ?_) AllReadyH.nil)
        go_simp
        refine (l4word_s A w1.heap.size (.slice (some ⟨w1.heap.size, 0, none⟩) (codeW cn).length (grownCap w1 (codeW cn).length 0 5)) u3 (codeW cn) (digB nn) 6 8 _ S3'.out R3.bs N3 (digB_len10 (by omega)) (by omega)).mono ?_
        rintro e w4 ⟨v4, g4, rfl, T4, G4, hg4⟩
        have S4 := hidm T4
        refine hK.out _ _ (HS.out _ S4.out.old) (fun hHeld => ?_)
        clear hK K
        refine tq 8 3 hHeld ?_
        refine wpAnyH_done (by kernel_rfl) ?_ _
        go_wp2
        go_meet
        case rel => exact ⟨_, S4⟩
      · go_simp
        refine (l4digits_r nn (by omega) _).mono ?_
        rintro e w2 ⟨u2, rfl, R2, B2⟩
        have C2 := Below.step C1 B2
        refine hK.out _ _ (HS.out _ C2) (fun hHeld => ?_)
        clear hK K
        refine wpAnyH_ready (rs := [3]) (by kernel_rfl) (by simp) ?_
        refine (AllReadyH.cons rfl (fun K hK => ?_) AllReadyH.nil)
        go_simp
        have q3 := bytesWorldQ w2 (codeW cn) hcw.2.2 (by omega)
        have S3' : Hid (St A (Lib.bytesWorld w2 5 (strOfNums (codeW cn))) w2.heap.size (.slice (some ⟨w2.heap.size, 0, none⟩) (codeW cn).length (grownCap w2 (codeW cn).length 0 5)) (codeW cn) 6) := ⟨C2.size, q3.1, Below.step C2 q3.2, hcw.2.1, hcw.1⟩
        have D3 := R2.bs.below q3.2
        have N3 : u2.ownBlock ≠ some w2.heap.size := fun e => by have := (R2.row.lt _ e).2; omega
        refine hK.out _ _ (HS.out _ S3'.out.old) (fun hHeld => ?_)
        clear hK K
        generalize hw3 : Lib.bytesWorld w2 5 (strOfNums (codeW cn)) = w3 at *
        refine wpAnyH_ready (rs := [7]) (by kernel_rfl) (by simp) ?_
        refine (AllReadyH.cons rfl (fun K hK => ?_) AllReadyH.nil)
        go_simp
        refine (l4word_s A w2.heap.size (.slice (some ⟨w2.heap.size, 0, none⟩) (codeW cn).length (grownCap w2 (codeW cn).length 0 5)) u2 (codeW cn) (digB nn) 6 8 _ S3'.out D3 N3 (digB_len10 (by omega)) (by omega)).mono ?_
        rintro e w4 ⟨v4, g4, rfl, T4, G4, hg4⟩
        have S4 := hidm T4
        refine hK.out _ _ (HS.out _ S4.out.old) (fun hHeld => ?_)
        clear hK K
        refine tq 8 3 hHeld ?_
        refine wpAnyH_done (by kernel_rfl) ?_ _
        go_wp2
        go_meet
        case rel => exact ⟨_, S4⟩
    case rest =>
      obtain ⟨g3, S3'⟩ := hcut
      have HL0 : Hid (codeW cn ++ [32] ++ digB nn = upL x 0) := by
        simp [Hid, upL, hcn', hnn', tokB]
      rw [HL0.out] at S3'
      have K3 := box_below S3'.out.old HK.out
      clear f0 f1 f2 f3 f4 f5 f6 f7 f8 f9 hlA HS C0 hcv HL0
      obtain ⟨f0, f1, f2, f3, f4, f5, f6, f7, f8, f9⟩ := bx10 K3
      have hlA := lt_of_heap K3
      go_wp2
      go_loopw [3, 4] (fun b i wr => ∃ (k g : Nat) (o : Value), k ≤ x.names.length ∧ i = .int .i64 k ∧ o = b ∧ Hid (St A wr g o (upL x k) (15 + 7 * k))) (fun _ i _ => x.names.length - (intOf i).toNat)
      case atStart => exact ⟨0, g3, _, Nat.zero_le _, rfl, rfl, S3'⟩
      case round =>
        clear f0 f1 f2 f3 f4 f5 f6 f7 f8 f9 hlA K3 S3'
        obtain ⟨k, g, o, hk, rfl, rfl, hS⟩ := hrel
        have KR := box_below hS.out.old HK.out
        obtain ⟨f0, f1, f2, f3, f4, f5, f6, f7, f8, f9⟩ := bx10 KR
        have hlA := lt_of_heap KR
        by_cases hlt : k < x.names.length
        · obtain ⟨y, hy⟩ : ∃ y, x.names[k]? = some y := ⟨x.names[k], List.getElem?_eq_getElem hlt⟩
          obtain ⟨b, off, cap', u, hv', hlb, d0, hu⟩ := NamesV.cell (H0.out wr (Below.step XA.out hS.out.old)).parts.2.1 k y hy
          simp only [Value.slice.injEq, true_and] at hv'
          obtain ⟨rfl, rfl⟩ := hv'
          obtain ⟨ua, un, uc, rfl⟩ := hu.form3
          have hyl := HNM.out y (List.mem_of_getElem? hy)
          have HNE : Hid ((Value.slice ua un uc).ownBlock ≠ some g) := by
            obtain ⟨b', off', cap'', u', hv2, hlb2, d2, hu2⟩ := NamesV.cell (H0.out A XA.out).parts.2.1 k y hy
            simp only [Value.slice.injEq, true_and, Option.some.injEq, Addr.mk.injEq, and_true] at hv2
            obtain ⟨⟨rfl, rfl⟩, rfl⟩ := hv2
            have e : (Value.slice ua un uc) = u' := Option.some.inj (d0.symm.trans ((hS.out.old.cell (p := ⟨b, off + k, none⟩) hlb2).trans d2))
            rw [e]
            exact bs_old_ne hu2 hS.out.ge hyl.2
          have HU : Hid (Bs wr (.slice ua un uc) y) := hu
          have HST : Hid (upL x (k + 1) = upL x k ++ [32] ++ y) := by
            have h := flat_step tokB hy
            unfold Hid upL
            simp only [List.flatMap_cons]
            rw [h]
            simp [tokB]
          have hkL : (k : Int) < (x.names.length : Int) := by omega
          clear hy hu
          go_wp2_with fail
          refine (l4word_s A g o (.slice ua un uc) (upL x k) y (15 + 7 * k) 6 _ hS.out HU.out HNE.out hyl.1 (by omega)).mono ?_
          rintro e w2 ⟨v2, g2, rfl, T2, G2, hg2⟩
          have S2 : Hid (St A w2 g2 v2 (upL x (k + 1)) (15 + 7 * (k + 1))) := by
            rw [HST.out]
            exact ⟨T2.1, T2.2.1, T2.2.2.1, T2.2.2.2.1, by have := T2.2.2.2.2; omega⟩
          clear f0 f1 f2 f3 f4 f5 f6 f7 f8 f9 hlA KR d0 hS HU HNE HST T2 G2 hg2
          go_wp2
          go_roundw
          case rel => exact ⟨k + 1, _, _, by omega, by go_num, rfl, S2⟩
          case measure => simp [intOf]; omega
        · obtain rfl : k = x.names.length := by omega
          have AB1 : Below wr.heap.size wr (wr.alloc (.cells #[.int .u8 10] 5)) := (Below.refl _ _).alloc (Nat.le_refl _) _
          have SA := hidm (St.below hS.out AB1)
          have hul : (upL x x.names.length).length ≤ 43 := by have := hS.out.2.2.2.2; omega
          obtain ⟨i5, hi, hz0, hz1, hz2⟩ := info_parts info5
          have hkL : ¬ (x.names.length : Int) < (x.names.length : Int) := by omega
          clear AB1
          go_wp2_with (at_builtin; refine wpList_appendQ rfl (.tmp 34) (.tmp 35) 22 rfl i5 Tryd.underlying22 hi hz0 hz1 hz2 g _ _ rfl SA.out.own _ [10] rfl (bs_one _ _ (by omega)) (by simp only [List.length_cons, List.length_nil]; omega) ?_)
          intro v8 w8 g8 hO8 hG8 hg8
          have S8 : Hid (St A w8 g8 v8 (headL x) 60) := by
            have h := ((Tx.of_st (K := fun _ => False) SA.out (fun b hb => hb.elim)).grow hO8 hG8 (by rcases hg8 with h | h; exact .inl h; exact .inr (by simpa using h))).st
            have e : upL x x.names.length ++ [10] = headL x := by unfold upL headL; rw [List.take_length]
            rw [e] at h
            exact ⟨h.1, h.2.1, h.2.2.1, h.2.2.2.1, by have := h.2.2.2.2; simp only [List.length_cons, List.length_nil] at this; omega⟩
          have K8 := box_below S8.out.old HK.out
          have hl8 := S8.out.lt
          clear f0 f1 f2 f3 f4 f5 f6 f7 f8 f9 hlA KR hS SA hO8 hG8 hg8 hul
          obtain ⟨f0, f1, f2, f3, f4, f5, f6, f7, f8, f9⟩ := bx10 K8
          have hlA := lt_of_heap K8
          have AB9 : Below w8.heap.size w8 (w8.alloc (.cells #[.slice a0 n0 c0, .int .i64 x.box.valid, .int .i64 x.box.next, .int .i64 x.box.seq, .slice a1 x.box.mails.length c1, .slice a2 x.box.gones.length c2, .int .i64 x.box.lost] 35)) := (Below.refl _ _).alloc (Nat.le_refl _) _
          have KV := box_new w8 (.cells #[.slice a0 n0 c0, .int .i64 x.box.valid, .int .i64 x.box.next, .int .i64 x.box.seq, .slice a1 x.box.mails.length c1, .slice a2 x.box.gones.length c2, .int .i64 x.box.lost] 35)
          have S9 := hidm (St.below S8.out AB9)
          have BV := hidm (H0.out _ (Below.step XA.out S9.out.old)).parts.1
          generalize hw9 : w8.alloc (.cells #[.slice a0 n0 c0, .int .i64 x.box.valid, .int .i64 x.box.next, .int .i64 x.box.seq, .slice a1 x.box.mails.length c1, .slice a2 x.box.gones.length c2, .int .i64 x.box.lost] 35) = w9 at AB9 KV S9 BV
          have HZ := l4zeroBox_any _ x.box w9 BV.out
          generalize hzx : zeroXB x.box = z at HZ
          have HZX : Hid (zeroXB x.box = z) := hzx
          clear hzx
          obtain ⟨y0, y1, y2, y3, y4, y5, y6⟩ := bx7 KV
          have hlV := lt_of_heap KV
          go_wp2_with fail
          refine HZ.mono ?_
          rintro e w10 ⟨rfl, B10⟩
          have S10 := hidm (St.below S9.out B10)
          have KV10 := box_below B10 KV
          clear f0 f1 f2 f3 f4 f5 f6 f7 f8 f9 hlA K8 S8 S9 BV HZ B10 KV AB9 hw9 y0 y1 y2 y3 y4 y5 y6 hlV
          cases z with
          | true =>
            go_wp2
            go_ret
            refine ⟨_, rfl, ?_, fun k hk => Nat.le_trans (by omega) (S10.out.made k hk), Below.step XA.out S10.out.old⟩
            rw [HE.out]
            unfold replyL
            rw [if_pos HZX.out, List.append_nil]
            exact S10.out.own.bs
          | false =>
            obtain ⟨q0, q1, q2, q3, q4, q5, q6, q7, q8⟩ := box_facts (HBX.out.resolve_left (by rw [HZX.out]; simp))
            have HQ7 := hidm q7
            have HQ8 := hidm q8
            clear q7 q8
            have TX10 : Hid (Tx A w10 (fun b => b = w8.heap.size) w10 g8 v8 (headL x) 60) := Tx.of_st S10.out (fun b hb => by subst hb; exact ⟨lt_of_heap KV10, by omega⟩)
            have hl10 : (headL x).length ≤ 60 := S10.out.2.2.2.2
            obtain ⟨y0, y1, y2, y3, y4, y5, y6⟩ := bx7 KV10
            have hlV := lt_of_heap KV10
            go_upto_region 12 with fail
            go_cut [3] (fun s wx => ∃ g, Hid (Tx A w10 (fun b => b = w8.heap.size) wx g s (headL x ++ [66, 79, 88, 32] ++ x.box.name ++ [32]) 80))
            case first =>
              clear y0 y1 y2 y3 y4 y5 y6 hlV
              have HS2 : Hid (∀ w' g v L n, Tx A w10 (fun b => b = w8.heap.size) w' g v L n → w'.cell? ⟨w8.heap.size, 0, none⟩ = some (.slice a0 n0 c0)) := fun w' g v L n h => (bx7 (h.kept rfl KV10)).1
              have TXD : Hid (Tx A w10 (fun b => b = w8.heap.size) w10.drew g8 v8 (headL x) 60) := TX10.out.below (Below.refl _ _).drew
              go_wp2
              refine wp_region_held_drew (S := fun w' => w'.cell? ⟨w8.heap.size, 0, none⟩ = some (.slice a0 n0 c0)) (by kernel_rfl) (HS2.out _ _ _ _ _ TXD.out) (fun hHeld => (show wpAnyH _ _ _ _ _ 8 #[false, false, false, false, false, false, false, false] _ _ from ?_))
              refine tq 0 42 hHeld ?_
              refine tq 2 44 hHeld ?_
              refine tq 3 45 hHeld ?_
              generalize hwd : w10.drew = wd at *
              refine wpAnyH_ready (rs := [1, 5]) (by kernel_rfl) (by simp) ?_
              refine (AllReadyH.cons rfl (fun K hK => ?_) (AllReadyH.cons rfl (fun K hK => ?_) AllReadyH.nil))
              · refine ite_of (by kernel_rfl) (wp_appStrQ 43 rfl (.tmp 42) (.const (.string ⟨#[66, 79, 88, 32]⟩)) 22 9 rfl i5 Tryd.underlying22 Tryd.underlying9 hi hz0 hz1 hz2 g8 _ (headL x) rfl TXD.out.st.own [66, 79, 88, 32] rfl (by intro x hx; simp at hx; omega) (by simp only [List.length_append, List.length_cons, List.length_nil]; omega) ?_)
                intro v21 w21 g21 hO21 hG21 hg21
                have T21 := hidm (Tx.grow TXD.out hO21 hG21 hg21)
                refine hK.out _ _ (HS2.out _ _ _ _ _ T21.out) (fun hHeld => ?_)
                clear hK K
                conv => arg 8; simp only [Act.put, sA, s0, sS]
                refine wpAnyH_ready (rs := [4, 5]) (by kernel_rfl) (by simp) ?_
                refine (AllReadyH.cons rfl (fun K hK => ?_) (AllReadyH.cons rfl (fun K hK => ?_) AllReadyH.nil))
                · refine ite_of (by kernel_rfl) (wp_appQ 46 rfl (.tmp 43) (.tmp 45) 22 rfl i5 Tryd.underlying22 hi hz0 hz1 hz2 g21 _ (headL x ++ [66, 79, 88, 32]) rfl T21.out.st.own (.slice a0 n0 c0) (x.box.name) rfl ((H0.out _ (Below.step XA.out T21.out.st.old)).parts.1.name_bs) (by simp only [List.length_append, List.length_cons, List.length_nil]; omega) ?_)
                  intro v22 w22 g22 hO22 hG22 hg22
                  have T22 := hidm (Tx.grow T21.out hO22 hG22 hg22)
                  refine hK.out _ _ (HS2.out _ _ _ _ _ T22.out) (fun hHeld => ?_)
                  clear hK K
                  conv => arg 8; simp only [Act.put, sA, s0, sS]
                  refine wpAnyH_ready (rs := [5]) (by kernel_rfl) (by simp) ?_
                  refine (AllReadyH.cons rfl (fun K hK => ?_) AllReadyH.nil)
                  go_simp
                  have AB23 : Below w22.heap.size w22 (w22.alloc (.cells #[.int .u8 32] 5)) := (Below.refl _ _).alloc (Nat.le_refl _) _
                  have SP23 := hidm (bs_one w22 32 (by omega))
                  have NS23 : w22.heap.size ≠ g22 := by have := T22.out.st.lt; omega
                  have T23 := hidm (Tx.below T22.out AB23)
                  refine hK.out _ _ (HS2.out _ _ _ _ _ T23.out) (fun hHeld => ?_)
                  clear hK K
                  generalize hw23 : w22.alloc (.cells #[.int .u8 32] 5) = w23 at *
                  refine wpAnyH_ready (rs := [6]) (by kernel_rfl) (by simp) ?_
                  refine (AllReadyH.cons rfl (fun K hK => ?_) AllReadyH.nil)
                  refine ite_of (by kernel_rfl) (wp_appQ 48 rfl (.tmp 46) (.tmp 47) 22 rfl i5 Tryd.underlying22 hi hz0 hz1 hz2 g22 _ (headL x ++ [66, 79, 88, 32] ++ x.box.name) rfl T23.out.st.own (.slice (some ⟨w22.heap.size, 0, none⟩) 1 1) ([32]) rfl (SP23.out) (by simp only [List.length_append, List.length_cons, List.length_nil]; omega) ?_)
                  intro v24 w24 g24 hO24 hG24 hg24
                  have T24 := hidm (Tx.grow T23.out hO24 hG24 hg24)
                  refine hK.out _ _ (HS2.out _ _ _ _ _ T24.out) (fun hHeld => ?_)
                  clear hK K
                  conv => arg 8; simp only [Act.put, sA, s0, sS]
                  refine tq 7 3 hHeld ?_
                  refine wpAnyH_done (by kernel_rfl) ?_ _
                  go_wp2
                  go_meet
                  case rel => exact ⟨_, (show Hid _ from (tx_le (m := 80) T24.out (by simp only [List.length_cons, List.length_nil]; omega)))⟩
                · go_simp
                  have AB25 : Below w21.heap.size w21 (w21.alloc (.cells #[.int .u8 32] 5)) := (Below.refl _ _).alloc (Nat.le_refl _) _
                  have SP25 := hidm (bs_one w21 32 (by omega))
                  have NS25 : w21.heap.size ≠ g21 := by have := T21.out.st.lt; omega
                  have T25 := hidm (Tx.below T21.out AB25)
                  refine hK.out _ _ (HS2.out _ _ _ _ _ T25.out) (fun hHeld => ?_)
                  clear hK K
                  generalize hw25 : w21.alloc (.cells #[.int .u8 32] 5) = w25 at *
                  refine wpAnyH_ready (rs := [4]) (by kernel_rfl) (by simp) ?_
                  refine (AllReadyH.cons rfl (fun K hK => ?_) AllReadyH.nil)
                  refine ite_of (by kernel_rfl) (wp_appQ 46 rfl (.tmp 43) (.tmp 45) 22 rfl i5 Tryd.underlying22 hi hz0 hz1 hz2 g21 _ (headL x ++ [66, 79, 88, 32]) rfl T25.out.st.own (.slice a0 n0 c0) (x.box.name) rfl ((H0.out _ (Below.step XA.out T25.out.st.old)).parts.1.name_bs) (by simp only [List.length_append, List.length_cons, List.length_nil]; omega) ?_)
                  intro v26 w26 g26 hO26 hG26 hg26
                  have T26 := hidm (Tx.grow T25.out hO26 hG26 hg26)
                  have SP26 := hidm (Bs.grown SP25.out hG26 (fun h => NS25 (by simpa [Value.ownBlock] using h)))
                  have NS26 : w21.heap.size ≠ g26 := by have := bs_lt1 SP25.out; rcases hg26 with h | h <;> omega
                  refine hK.out _ _ (HS2.out _ _ _ _ _ T26.out) (fun hHeld => ?_)
                  clear hK K
                  conv => arg 8; simp only [Act.put, sA, s0, sS]
                  refine wpAnyH_ready (rs := [6]) (by kernel_rfl) (by simp) ?_
                  refine (AllReadyH.cons rfl (fun K hK => ?_) AllReadyH.nil)
                  refine ite_of (by kernel_rfl) (wp_appQ 48 rfl (.tmp 46) (.tmp 47) 22 rfl i5 Tryd.underlying22 hi hz0 hz1 hz2 g26 _ (headL x ++ [66, 79, 88, 32] ++ x.box.name) rfl T26.out.st.own (.slice (some ⟨w21.heap.size, 0, none⟩) 1 1) ([32]) rfl (SP26.out) (by simp only [List.length_append, List.length_cons, List.length_nil]; omega) ?_)
                  intro v27 w27 g27 hO27 hG27 hg27
                  have T27 := hidm (Tx.grow T26.out hO27 hG27 hg27)
                  refine hK.out _ _ (HS2.out _ _ _ _ _ T27.out) (fun hHeld => ?_)
                  clear hK K
                  conv => arg 8; simp only [Act.put, sA, s0, sS]
                  refine tq 7 3 hHeld ?_
                  refine wpAnyH_done (by kernel_rfl) ?_ _
                  go_wp2
                  go_meet
                  case rel => exact ⟨_, (show Hid _ from (tx_le (m := 80) T27.out (by simp only [List.length_cons, List.length_nil]; omega)))⟩
              · go_simp
                have AB28 : Below wd.heap.size wd (wd.alloc (.cells #[.int .u8 32] 5)) := (Below.refl _ _).alloc (Nat.le_refl _) _
                have SP28 := hidm (bs_one wd 32 (by omega))
                have NS28 : wd.heap.size ≠ g8 := by have := TXD.out.st.lt; omega
                have T28 := hidm (Tx.below TXD.out AB28)
                refine hK.out _ _ (HS2.out _ _ _ _ _ T28.out) (fun hHeld => ?_)
                clear hK K
                generalize hw28 : wd.alloc (.cells #[.int .u8 32] 5) = w28 at *
                refine wpAnyH_ready (rs := [1]) (by kernel_rfl) (by simp) ?_
                refine (AllReadyH.cons rfl (fun K hK => ?_) AllReadyH.nil)
                refine ite_of (by kernel_rfl) (wp_appStrQ 43 rfl (.tmp 42) (.const (.string ⟨#[66, 79, 88, 32]⟩)) 22 9 rfl i5 Tryd.underlying22 Tryd.underlying9 hi hz0 hz1 hz2 g8 _ (headL x) rfl T28.out.st.own [66, 79, 88, 32] rfl (by intro x hx; simp at hx; omega) (by simp only [List.length_append, List.length_cons, List.length_nil]; omega) ?_)
                intro v29 w29 g29 hO29 hG29 hg29
                have T29 := hidm (Tx.grow T28.out hO29 hG29 hg29)
                have SP29 := hidm (Bs.grown SP28.out hG29 (fun h => NS28 (by simpa [Value.ownBlock] using h)))
                have NS29 : wd.heap.size ≠ g29 := by have := bs_lt1 SP28.out; rcases hg29 with h | h <;> omega
                refine hK.out _ _ (HS2.out _ _ _ _ _ T29.out) (fun hHeld => ?_)
                clear hK K
                conv => arg 8; simp only [Act.put, sA, s0, sS]
                refine wpAnyH_ready (rs := [4]) (by kernel_rfl) (by simp) ?_
                refine (AllReadyH.cons rfl (fun K hK => ?_) AllReadyH.nil)
                refine ite_of (by kernel_rfl) (wp_appQ 46 rfl (.tmp 43) (.tmp 45) 22 rfl i5 Tryd.underlying22 hi hz0 hz1 hz2 g29 _ (headL x ++ [66, 79, 88, 32]) rfl T29.out.st.own (.slice a0 n0 c0) (x.box.name) rfl ((H0.out _ (Below.step XA.out T29.out.st.old)).parts.1.name_bs) (by simp only [List.length_append, List.length_cons, List.length_nil]; omega) ?_)
                intro v30 w30 g30 hO30 hG30 hg30
                have T30 := hidm (Tx.grow T29.out hO30 hG30 hg30)
                have SP30 := hidm (Bs.grown SP29.out hG30 (fun h => NS29 (by simpa [Value.ownBlock] using h)))
                have NS30 : wd.heap.size ≠ g30 := by have := bs_lt1 SP29.out; rcases hg30 with h | h <;> omega
                refine hK.out _ _ (HS2.out _ _ _ _ _ T30.out) (fun hHeld => ?_)
                clear hK K
                conv => arg 8; simp only [Act.put, sA, s0, sS]
                refine wpAnyH_ready (rs := [6]) (by kernel_rfl) (by simp) ?_
                refine (AllReadyH.cons rfl (fun K hK => ?_) AllReadyH.nil)
                refine ite_of (by kernel_rfl) (wp_appQ 48 rfl (.tmp 46) (.tmp 47) 22 rfl i5 Tryd.underlying22 hi hz0 hz1 hz2 g30 _ (headL x ++ [66, 79, 88, 32] ++ x.box.name) rfl T30.out.st.own (.slice (some ⟨wd.heap.size, 0, none⟩) 1 1) ([32]) rfl (SP30.out) (by simp only [List.length_append, List.length_cons, List.length_nil]; omega) ?_)
                intro v31 w31 g31 hO31 hG31 hg31
                have T31 := hidm (Tx.grow T30.out hO31 hG31 hg31)
                refine hK.out _ _ (HS2.out _ _ _ _ _ T31.out) (fun hHeld => ?_)
                clear hK K
                conv => arg 8; simp only [Act.put, sA, s0, sS]
                refine tq 7 3 hHeld ?_
                refine wpAnyH_done (by kernel_rfl) ?_ _
                go_wp2
                go_meet
                case rel => exact ⟨_, (show Hid _ from (tx_le (m := 80) T31.out (by simp only [List.length_cons, List.length_nil]; omega)))⟩
            case rest =>
              obtain ⟨g12, T12⟩ := hcut
              clear y0 y1 y2 y3 y4 y5 y6 hlV
              obtain ⟨vn, hvn⟩ : ∃ n : Nat, x.box.valid = n := ⟨x.box.valid.toNat, by omega⟩
              obtain ⟨xn, hxn⟩ : ∃ n : Nat, x.box.next = n := ⟨x.box.next.toNat, by omega⟩
              obtain ⟨sn, hsn⟩ : ∃ n : Nat, x.box.seq = n := ⟨x.box.seq.toNat, by omega⟩
              have ev : digB x.box.valid.toNat = digB vn := by rw [hvn]; rfl
              have ex : digB x.box.next.toNat = digB xn := by rw [hxn]; rfl
              have es : digB x.box.seq.toNat = digB sn := by rw [hsn]; rfl
              have HEV := hidm (And.intro ev (And.intro ex es))
              clear ev ex es
              rw [hvn, hxn, hsn] at KV10
              obtain ⟨y0, y1, y2, y3, y4, y5, y6⟩ := bx7 (T12.out.kept rfl KV10)
              have hlV := lt_of_heap (T12.out.kept rfl KV10)
              go_wp2_with fail
              refine (l4digits_r vn (by omega) _).mono ?_
              rintro e wa13 ⟨ua13, rfl, Ra13, Ba13⟩
              have Ta13 := hidm (Tx.below T12.out Ba13)
              have Da13 := hidm Ra13.bs
              clear y0 y1 y2 y3 y4 y5 y6 hlV
              clear Ra13 Ba13
              go_wp2_with (at_builtin; refine wpList_appendQ rfl (.tmp 49) (.tmp 52) 22 rfl i5 Tryd.underlying22 hi hz0 hz1 hz2 g12 _ (headL x ++ [66, 79, 88, 32] ++ x.box.name ++ [32]) rfl Ta13.out.st.own _ (digB vn) rfl Da13.out (by have h1 := Ta13.out.st.2.2.2.2; have h2 : (digB vn).length ≤ 8 := digB_len10 (by omega); omega) ?_)
              intro vb13 wb13 gb13 hO hG hg
              have Tb13 := hidm (Tx.grow (g' := gb13) (v' := vb13) (w' := wb13) (m := digB vn) Ta13.out (by simpa using hO) hG hg)
              clear hO hG hg Ta13 Da13
              have Tc13 := hidm (Tx.below Tb13.out (show Below wb13.heap.size wb13 (wb13.alloc (.cells #[.int .u8 32] 5)) from (Below.refl _ _).alloc (Nat.le_refl _) _))
              go_wp2_with (at_builtin; refine wpList_appendQ rfl (.tmp 53) (.tmp 54) 22 rfl i5 Tryd.underlying22 hi hz0 hz1 hz2 gb13 _ (headL x ++ [66, 79, 88, 32] ++ x.box.name ++ [32] ++ digB vn) rfl Tc13.out.st.own _ [32] rfl (bs_one _ _ (by omega)) (by have h1 := Tc13.out.st.2.2.2.2; have h2 : (digB vn).length ≤ 8 := digB_len10 (by omega); simp only [List.length_cons, List.length_nil]; omega) ?_)
              intro vd13 wd13 gd13 hO hG hg
              have Td13 : Hid (Tx A w10 (fun b => b = w8.heap.size) wd13 gd13 vd13 (headL x ++ [66, 79, 88, 32] ++ x.box.name ++ [32] ++ digB vn ++ [32]) (90)) := by
                have h2 : (digB vn).length ≤ 8 := digB_len10 (by omega)
                have h := tx_le (m := 90) (Tx.grow (g' := gd13) (v' := vd13) (w' := wd13) (m := [32]) Tc13.out (by simpa using hO) hG (by rcases hg with h | h; exact .inl h; exact .inr (by simpa using h))) (by simp only [List.length_cons, List.length_nil]; omega)
                simpa [Hid, boxLine, tokB] using h
              clear hO hG hg Tb13 Tc13
              obtain ⟨y0, y1, y2, y3, y4, y5, y6⟩ := bx7 (Td13.out.kept rfl KV10)
              have hlV := lt_of_heap (Td13.out.kept rfl KV10)
              go_wp2_with fail
              refine (l4digits_r xn (by omega) _).mono ?_
              rintro e wa14 ⟨ua14, rfl, Ra14, Ba14⟩
              have Ta14 := hidm (Tx.below Td13.out Ba14)
              have Da14 := hidm Ra14.bs
              clear y0 y1 y2 y3 y4 y5 y6 hlV
              clear Ra14 Ba14
              go_wp2_with (at_builtin; refine wpList_appendQ rfl (.tmp 56) (.tmp 59) 22 rfl i5 Tryd.underlying22 hi hz0 hz1 hz2 gd13 _ (headL x ++ [66, 79, 88, 32] ++ x.box.name ++ [32] ++ digB vn ++ [32]) rfl Ta14.out.st.own _ (digB xn) rfl Da14.out (by have h1 := Ta14.out.st.2.2.2.2; have h2 : (digB xn).length ≤ 8 := digB_len10 (by omega); omega) ?_)
              intro vb14 wb14 gb14 hO hG hg
              have Tb14 := hidm (Tx.grow (g' := gb14) (v' := vb14) (w' := wb14) (m := digB xn) Ta14.out (by simpa using hO) hG hg)
              clear hO hG hg Ta14 Da14
              have Tc14 := hidm (Tx.below Tb14.out (show Below wb14.heap.size wb14 (wb14.alloc (.cells #[.int .u8 32] 5)) from (Below.refl _ _).alloc (Nat.le_refl _) _))
              go_wp2_with (at_builtin; refine wpList_appendQ rfl (.tmp 60) (.tmp 61) 22 rfl i5 Tryd.underlying22 hi hz0 hz1 hz2 gb14 _ (headL x ++ [66, 79, 88, 32] ++ x.box.name ++ [32] ++ digB vn ++ [32] ++ digB xn) rfl Tc14.out.st.own _ [32] rfl (bs_one _ _ (by omega)) (by have h1 := Tc14.out.st.2.2.2.2; have h2 : (digB xn).length ≤ 8 := digB_len10 (by omega); simp only [List.length_cons, List.length_nil]; omega) ?_)
              intro vd14 wd14 gd14 hO hG hg
              have Td14 : Hid (Tx A w10 (fun b => b = w8.heap.size) wd14 gd14 vd14 (headL x ++ [66, 79, 88, 32] ++ x.box.name ++ [32] ++ digB vn ++ [32] ++ digB xn ++ [32]) (100)) := by
                have h2 : (digB xn).length ≤ 8 := digB_len10 (by omega)
                have h := tx_le (m := 100) (Tx.grow (g' := gd14) (v' := vd14) (w' := wd14) (m := [32]) Tc14.out (by simpa using hO) hG (by rcases hg with h | h; exact .inl h; exact .inr (by simpa using h))) (by simp only [List.length_cons, List.length_nil]; omega)
                simpa [Hid, boxLine, tokB] using h
              clear hO hG hg Tb14 Tc14
              obtain ⟨y0, y1, y2, y3, y4, y5, y6⟩ := bx7 (Td14.out.kept rfl KV10)
              have hlV := lt_of_heap (Td14.out.kept rfl KV10)
              go_wp2_with fail
              refine (l4digits_r sn (by omega) _).mono ?_
              rintro e wa15 ⟨ua15, rfl, Ra15, Ba15⟩
              have Ta15 := hidm (Tx.below Td14.out Ba15)
              have Da15 := hidm Ra15.bs
              clear y0 y1 y2 y3 y4 y5 y6 hlV
              clear Ra15 Ba15
              go_wp2_with (at_builtin; refine wpList_appendQ rfl (.tmp 63) (.tmp 66) 22 rfl i5 Tryd.underlying22 hi hz0 hz1 hz2 gd14 _ (headL x ++ [66, 79, 88, 32] ++ x.box.name ++ [32] ++ digB vn ++ [32] ++ digB xn ++ [32]) rfl Ta15.out.st.own _ (digB sn) rfl Da15.out (by have h1 := Ta15.out.st.2.2.2.2; have h2 : (digB sn).length ≤ 8 := digB_len10 (by omega); omega) ?_)
              intro vb15 wb15 gb15 hO hG hg
              have Tb15 := hidm (Tx.grow (g' := gb15) (v' := vb15) (w' := wb15) (m := digB sn) Ta15.out (by simpa using hO) hG hg)
              clear hO hG hg Ta15 Da15
              have Tc15 := hidm (Tx.below Tb15.out (show Below wb15.heap.size wb15 (wb15.alloc (.cells #[.int .u8 10] 5)) from (Below.refl _ _).alloc (Nat.le_refl _) _))
              go_wp2_with (at_builtin; refine wpList_appendQ rfl (.tmp 67) (.tmp 68) 22 rfl i5 Tryd.underlying22 hi hz0 hz1 hz2 gb15 _ (headL x ++ [66, 79, 88, 32] ++ x.box.name ++ [32] ++ digB vn ++ [32] ++ digB xn ++ [32] ++ digB sn) rfl Tc15.out.st.own _ [10] rfl (bs_one _ _ (by omega)) (by have h1 := Tc15.out.st.2.2.2.2; have h2 : (digB sn).length ≤ 8 := digB_len10 (by omega); simp only [List.length_cons, List.length_nil]; omega) ?_)
              intro vd15 wd15 gd15 hO hG hg
              have Td15 : Hid (Tx A w10 (fun b => b = w8.heap.size) wd15 gd15 vd15 (headL x ++ [66, 79, 88, 32] ++ x.box.name ++ [32] ++ digB vn ++ [32] ++ digB xn ++ [32] ++ digB sn ++ [10]) (110)) := by
                have h2 : (digB sn).length ≤ 8 := digB_len10 (by omega)
                have h := tx_le (m := 110) (Tx.grow (g' := gd15) (v' := vd15) (w' := wd15) (m := [10]) Tc15.out (by simpa using hO) hG (by rcases hg with h | h; exact .inl h; exact .inr (by simpa using h))) (by simp only [List.length_cons, List.length_nil]; omega)
                simpa [Hid, boxLine, tokB] using h
              clear hO hG hg Tb15 Tc15
              have T15 : Hid (Tx A w10 (fun b => b = w8.heap.size) wd15 gd15 vd15 (headL x ++ boxLine x.box ++ (x.box.mails.take 0).flatMap mailLine) 110) := by
                have h := Td15.out
                simp only [Hid, boxLine, List.flatMap_cons, List.flatMap_nil, HEV.out.1, HEV.out.2.1, HEV.out.2.2, tokB]
                simpa using h
              clear Td15
              obtain ⟨y0, y1, y2, y3, y4, y5, y6⟩ := bx7 (T15.out.kept rfl KV10)
              have hlV := lt_of_heap (T15.out.kept rfl KV10)
              go_wp2
              go_loopw [3, 6] (fun b i wr => ∃ (k g : Nat) (o : Value), k ≤ x.box.mails.length ∧ i = .int .i64 k ∧ o = b ∧ Hid (Tx A w10 (fun b => b = w8.heap.size) wr g o (headL x ++ boxLine x.box ++ (x.box.mails.take k).flatMap mailLine) (110 + 200 * k))) (fun _ i _ => x.box.mails.length - (intOf i).toNat)
              case atStart => exact ⟨0, _, _, Nat.zero_le _, rfl, rfl, T15⟩
              case round =>
                clear y0 y1 y2 y3 y4 y5 y6 hlV
                obtain ⟨k, g, o, hk, rfl, rfl, hT⟩ := hrel
                obtain ⟨y0, y1, y2, y3, y4, y5, y6⟩ := bx7 (hT.out.kept rfl KV10)
                have hlV := lt_of_heap (hT.out.kept rfl KV10)
                by_cases hlt : k < x.box.mails.length
                · obtain ⟨m, hm⟩ : ∃ m, x.box.mails[k]? = some m := ⟨x.box.mails[k], List.getElem?_eq_getElem hlt⟩
                  obtain ⟨b, off, cap', u, hv', hlb, d0, d1, d2, d3, hu, i0, i1, i2⟩ := MailsV.cell (H0.out wr (Below.step XA.out hT.out.st.old)).parts.1.lists.1 k m hm
                  simp only [Value.slice.injEq, true_and] at hv'
                  obtain ⟨rfl, rfl⟩ := hv'
                  obtain ⟨ua, ul, uc, rfl⟩ := hu.form3
                  have HU : Hid (∀ wi, Below A.heap.size A wi → Bs wi (.slice ua ul uc) m.text) := by
                    obtain ⟨b', off', cap'', u', hv2, hlb2, z0, z1, z2, z3, hu2, -⟩ := MailsV.cell (H0.out A XA.out).parts.1.lists.1 k _ hm
                    simp only [Value.slice.injEq, true_and, Option.some.injEq, Addr.mk.injEq, and_true] at hv2
                    obtain ⟨⟨rfl, rfl⟩, rfl⟩ := hv2
                    have e : (Value.slice ua ul uc) = u' := Option.some.inj (d3.symm.trans ((hT.out.st.old.cell (p := ⟨b, off + k * 4 + 3, none⟩) hlb2).trans z3))
                    intro wi h
                    rw [e]
                    exact hu2.below h
                  have hq := HQ7.out m (List.mem_of_getElem? hm)
                  have HST := hidm (flat_step mailLine hm)
                  obtain ⟨uid, flags, seq, text⟩ := m
                  simp only at d0 d1 d2 d3 hu hq HU HST
                  obtain ⟨un, rfl⟩ : ∃ n : Nat, uid = n := ⟨uid.toNat, by omega⟩
                  obtain ⟨fn, rfl⟩ : ∃ n : Nat, flags = n := ⟨flags.toNat, by omega⟩
                  obtain ⟨qn, rfl⟩ : ∃ n : Nat, seq = n := ⟨seq.toNat, by omega⟩
                  have hkL : (k : Int) < (x.box.mails.length : Int) := by omega
                  obtain ⟨LL, hLL⟩ : ∃ l, l = headL x ++ boxLine x.box ++ (x.box.mails.take k).flatMap mailLine := ⟨_, rfl⟩
                  rw [← hLL] at hT
                  have HLL := hidm hLL
                  have hln : LL.length ≤ 2510 := by have := hT.out.st.2.2.2.2; omega
                  have AB19 : Below wr.heap.size wr (wr.alloc (.cells #[.int .i64 un, .int .i64 fn, .int .i64 qn, .slice ua ul uc] 54)) := (Below.refl _ _).alloc (Nat.le_refl _) _
                  have KM := box_new wr (.cells #[.int .i64 un, .int .i64 fn, .int .i64 qn, .slice ua ul uc] 54)
                  have T19a := hidm (Tx.below hT.out AB19)
                  have hgl := hT.out.st.lt
                  have hu19 := hidm (hu.below AB19)
                  generalize hw19 : wr.alloc (.cells #[.int .i64 un, .int .i64 fn, .int .i64 qn, .slice ua ul uc] 54) = w19 at AB19 KM T19a hu19
                  have T19 : Hid (Tx A w19 (fun b => b = w8.heap.size ∨ b = wr.heap.size) w19 g o LL (110 + 200 * k)) := Tx.of_st T19a.out.st (fun b hb => by rcases hb with rfl | rfl; exact ⟨lt_of_heap (T19a.out.kept rfl KV10), fun e => T19a.out.2.1 e.symm⟩; exact ⟨lt_of_heap KM, by omega⟩)
                  have hdu := digB_len10 (n := un) (by omega)
                  have hdq := digB_len10 (n := qn) (by omega)
                  have hfl := flagsB_len fn
                  have hql := quoB_len text
                  clear hu hm hLL AB19 hT
                  go_upto_region 20 with fail
                  go_cut [3] (fun s wx => ∃ g, Hid (Tx A w19 (fun b => b = w8.heap.size ∨ b = wr.heap.size) wx g s (LL ++ [77, 65, 73, 76, 32] ++ digB un ++ [32]) (110 + 200 * k + 20)))
                  case first =>
                    clear y0 y1 y2 y3 y4 y5 y6 hlV d0 d1 d2 d3
                    have HS3 : Hid (∀ w' g v L n, Tx A w19 (fun b => b = w8.heap.size ∨ b = wr.heap.size) w' g v L n → w'.cell? ⟨wr.heap.size, 0, none⟩ = some (.int .i64 un)) := fun w' g v L n h => (bx4 (h.kept (.inr rfl) KM)).1
                    have TXD : Hid (Tx A w19 (fun b => b = w8.heap.size ∨ b = wr.heap.size) w19.drew g o LL (110 + 200 * k)) := T19.out.below (Below.refl _ _).drew
                    go_wp2
                    refine wp_region_held_drew (S := fun w' => w'.cell? ⟨wr.heap.size, 0, none⟩ = some (.int .i64 un)) (by kernel_rfl) (HS3.out _ _ _ _ _ TXD.out) (fun hHeld => (show wpAnyH _ _ _ _ _ 9 #[false, false, false, false, false, false, false, false, false] _ _ from ?_))
                    refine tq 0 82 hHeld ?_
                    refine tq 2 84 hHeld ?_
                    refine tq 3 85 hHeld ?_
                    generalize hwd : w19.drew = wd at *
                    refine wpAnyH_ready (rs := [1, 6]) (by kernel_rfl) (by simp) ?_
                    refine (AllReadyH.cons rfl (fun K hK => ?_) (AllReadyH.cons rfl (fun K hK => ?_) AllReadyH.nil))
                    · refine ite_of (by kernel_rfl) (wp_appStrQ 83 rfl (.tmp 82) (.const (.string ⟨#[77, 65, 73, 76, 32]⟩)) 22 9 rfl i5 Tryd.underlying22 Tryd.underlying9 hi hz0 hz1 hz2 g _ (LL) rfl TXD.out.st.own [77, 65, 73, 76, 32] rfl (by intro x hx; simp at hx; omega) (by simp only [List.length_append, List.length_cons, List.length_nil]; omega) ?_)
                      intro v32 w32 g32 hO32 hG32 hg32
                      have T32 := hidm (Tx.grow TXD.out hO32 hG32 hg32)
                      refine hK.out _ _ (HS3.out _ _ _ _ _ T32.out) (fun hHeld => ?_)
                      clear hK K
                      conv => arg 8; simp only [Act.put, sA, s0, sS]
                      refine wpAnyH_ready (rs := [4, 6]) (by kernel_rfl) (by simp) ?_
                      refine (AllReadyH.cons rfl (fun K hK => ?_) (AllReadyH.cons rfl (fun K hK => ?_) AllReadyH.nil))
                      · go_simp
                        refine (l4digits_r un (by omega) _).mono ?_
                        rintro e w33 ⟨u33, rfl, R33, B33⟩
                        have T33 := hidm (Tx.below T32.out B33)
                        have D33 := hidm R33.bs
                        have N33 := R33.ne T32.out.st.lt
                        refine hK.out _ _ (HS3.out _ _ _ _ _ T33.out) (fun hHeld => ?_)
                        clear hK K
                        refine wpAnyH_ready (rs := [5, 6]) (by kernel_rfl) (by simp) ?_
                        refine (AllReadyH.cons rfl (fun K hK => ?_) (AllReadyH.cons rfl (fun K hK => ?_) AllReadyH.nil))
                        · refine ite_of (by kernel_rfl) (wp_appQ 87 rfl (.tmp 83) (.tmp 86) 22 rfl i5 Tryd.underlying22 hi hz0 hz1 hz2 g32 _ (LL ++ [77, 65, 73, 76, 32]) rfl T33.out.st.own u33 (digB un) rfl (D33.out) (by simp only [List.length_append, List.length_cons, List.length_nil]; omega) ?_)
                          intro v34 w34 g34 hO34 hG34 hg34
                          have T34 := hidm (Tx.grow T33.out hO34 hG34 hg34)
                          refine hK.out _ _ (HS3.out _ _ _ _ _ T34.out) (fun hHeld => ?_)
                          clear hK K
                          conv => arg 8; simp only [Act.put, sA, s0, sS]
                          refine wpAnyH_ready (rs := [6]) (by kernel_rfl) (by simp) ?_
                          refine (AllReadyH.cons rfl (fun K hK => ?_) AllReadyH.nil)
                          go_simp
                          have AB35 : Below w34.heap.size w34 (w34.alloc (.cells #[.int .u8 32] 5)) := (Below.refl _ _).alloc (Nat.le_refl _) _
                          have SP35 := hidm (bs_one w34 32 (by omega))
                          have NS35 : w34.heap.size ≠ g34 := by have := T34.out.st.lt; omega
                          have T35 := hidm (Tx.below T34.out AB35)
                          refine hK.out _ _ (HS3.out _ _ _ _ _ T35.out) (fun hHeld => ?_)
                          clear hK K
                          generalize hw35 : w34.alloc (.cells #[.int .u8 32] 5) = w35 at *
                          refine wpAnyH_ready (rs := [7]) (by kernel_rfl) (by simp) ?_
                          refine (AllReadyH.cons rfl (fun K hK => ?_) AllReadyH.nil)
                          refine ite_of (by kernel_rfl) (wp_appQ 89 rfl (.tmp 87) (.tmp 88) 22 rfl i5 Tryd.underlying22 hi hz0 hz1 hz2 g34 _ (LL ++ [77, 65, 73, 76, 32] ++ digB un) rfl T35.out.st.own (.slice (some ⟨w34.heap.size, 0, none⟩) 1 1) ([32]) rfl (SP35.out) (by simp only [List.length_append, List.length_cons, List.length_nil]; omega) ?_)
                          intro v36 w36 g36 hO36 hG36 hg36
                          have T36 := hidm (Tx.grow T35.out hO36 hG36 hg36)
                          refine hK.out _ _ (HS3.out _ _ _ _ _ T36.out) (fun hHeld => ?_)
                          clear hK K
                          conv => arg 8; simp only [Act.put, sA, s0, sS]
                          refine tq 8 3 hHeld ?_
                          refine wpAnyH_done (by kernel_rfl) ?_ _
                          go_wp2
                          go_meet
                          case rel => exact ⟨_, (show Hid _ from (tx_le (m := 110 + 200 * k + 20) T36.out (by simp only [List.length_cons, List.length_nil]; omega)))⟩
                        · go_simp
                          have AB37 : Below w33.heap.size w33 (w33.alloc (.cells #[.int .u8 32] 5)) := (Below.refl _ _).alloc (Nat.le_refl _) _
                          have SP37 := hidm (bs_one w33 32 (by omega))
                          have NS37 : w33.heap.size ≠ g32 := by have := T33.out.st.lt; omega
                          have T37 := hidm (Tx.below T33.out AB37)
                          have D37 := hidm (Bs.below D33.out AB37)
                          refine hK.out _ _ (HS3.out _ _ _ _ _ T37.out) (fun hHeld => ?_)
                          clear hK K
                          generalize hw37 : w33.alloc (.cells #[.int .u8 32] 5) = w37 at *
                          refine wpAnyH_ready (rs := [5]) (by kernel_rfl) (by simp) ?_
                          refine (AllReadyH.cons rfl (fun K hK => ?_) AllReadyH.nil)
                          refine ite_of (by kernel_rfl) (wp_appQ 87 rfl (.tmp 83) (.tmp 86) 22 rfl i5 Tryd.underlying22 hi hz0 hz1 hz2 g32 _ (LL ++ [77, 65, 73, 76, 32]) rfl T37.out.st.own u33 (digB un) rfl (D37.out) (by simp only [List.length_append, List.length_cons, List.length_nil]; omega) ?_)
                          intro v38 w38 g38 hO38 hG38 hg38
                          have T38 := hidm (Tx.grow T37.out hO38 hG38 hg38)
                          have SP38 := hidm (Bs.grown SP37.out hG38 (fun h => NS37 (by simpa [Value.ownBlock] using h)))
                          have NS38 : w33.heap.size ≠ g38 := by have := bs_lt1 SP37.out; rcases hg38 with h | h <;> omega
                          refine hK.out _ _ (HS3.out _ _ _ _ _ T38.out) (fun hHeld => ?_)
                          clear hK K
                          conv => arg 8; simp only [Act.put, sA, s0, sS]
                          refine wpAnyH_ready (rs := [7]) (by kernel_rfl) (by simp) ?_
                          refine (AllReadyH.cons rfl (fun K hK => ?_) AllReadyH.nil)
                          refine ite_of (by kernel_rfl) (wp_appQ 89 rfl (.tmp 87) (.tmp 88) 22 rfl i5 Tryd.underlying22 hi hz0 hz1 hz2 g38 _ (LL ++ [77, 65, 73, 76, 32] ++ digB un) rfl T38.out.st.own (.slice (some ⟨w33.heap.size, 0, none⟩) 1 1) ([32]) rfl (SP38.out) (by simp only [List.length_append, List.length_cons, List.length_nil]; omega) ?_)
                          intro v39 w39 g39 hO39 hG39 hg39
                          have T39 := hidm (Tx.grow T38.out hO39 hG39 hg39)
                          refine hK.out _ _ (HS3.out _ _ _ _ _ T39.out) (fun hHeld => ?_)
                          clear hK K
                          conv => arg 8; simp only [Act.put, sA, s0, sS]
                          refine tq 8 3 hHeld ?_
                          refine wpAnyH_done (by kernel_rfl) ?_ _
                          go_wp2
                          go_meet
                          case rel => exact ⟨_, (show Hid _ from (tx_le (m := 110 + 200 * k + 20) T39.out (by simp only [List.length_cons, List.length_nil]; omega)))⟩
                      · go_simp
                        have AB40 : Below w32.heap.size w32 (w32.alloc (.cells #[.int .u8 32] 5)) := (Below.refl _ _).alloc (Nat.le_refl _) _
                        have SP40 := hidm (bs_one w32 32 (by omega))
                        have NS40 : w32.heap.size ≠ g32 := by have := T32.out.st.lt; omega
                        have T40 := hidm (Tx.below T32.out AB40)
                        refine hK.out _ _ (HS3.out _ _ _ _ _ T40.out) (fun hHeld => ?_)
                        clear hK K
                        generalize hw40 : w32.alloc (.cells #[.int .u8 32] 5) = w40 at *
                        refine wpAnyH_ready (rs := [4]) (by kernel_rfl) (by simp) ?_
                        refine (AllReadyH.cons rfl (fun K hK => ?_) AllReadyH.nil)
                        go_simp
                        refine (l4digits_r un (by omega) _).mono ?_
                        rintro e w41 ⟨u41, rfl, R41, B41⟩
                        have T41 := hidm (Tx.below T40.out B41)
                        have D41 := hidm R41.bs
                        have N41 := R41.ne T40.out.st.lt
                        have SP41 := hidm (Bs.below SP40.out B41)
                        refine hK.out _ _ (HS3.out _ _ _ _ _ T41.out) (fun hHeld => ?_)
                        clear hK K
                        refine wpAnyH_ready (rs := [5]) (by kernel_rfl) (by simp) ?_
                        refine (AllReadyH.cons rfl (fun K hK => ?_) AllReadyH.nil)
                        refine ite_of (by kernel_rfl) (wp_appQ 87 rfl (.tmp 83) (.tmp 86) 22 rfl i5 Tryd.underlying22 hi hz0 hz1 hz2 g32 _ (LL ++ [77, 65, 73, 76, 32]) rfl T41.out.st.own u41 (digB un) rfl (D41.out) (by simp only [List.length_append, List.length_cons, List.length_nil]; omega) ?_)
                        intro v42 w42 g42 hO42 hG42 hg42
                        have T42 := hidm (Tx.grow T41.out hO42 hG42 hg42)
                        have SP42 := hidm (Bs.grown SP41.out hG42 (fun h => NS40 (by simpa [Value.ownBlock] using h)))
                        have NS42 : w32.heap.size ≠ g42 := by have := bs_lt1 SP41.out; rcases hg42 with h | h <;> omega
                        refine hK.out _ _ (HS3.out _ _ _ _ _ T42.out) (fun hHeld => ?_)
                        clear hK K
                        conv => arg 8; simp only [Act.put, sA, s0, sS]
                        refine wpAnyH_ready (rs := [7]) (by kernel_rfl) (by simp) ?_
                        refine (AllReadyH.cons rfl (fun K hK => ?_) AllReadyH.nil)
                        refine ite_of (by kernel_rfl) (wp_appQ 89 rfl (.tmp 87) (.tmp 88) 22 rfl i5 Tryd.underlying22 hi hz0 hz1 hz2 g42 _ (LL ++ [77, 65, 73, 76, 32] ++ digB un) rfl T42.out.st.own (.slice (some ⟨w32.heap.size, 0, none⟩) 1 1) ([32]) rfl (SP42.out) (by simp only [List.length_append, List.length_cons, List.length_nil]; omega) ?_)
                        intro v43 w43 g43 hO43 hG43 hg43
                        have T43 := hidm (Tx.grow T42.out hO43 hG43 hg43)
                        refine hK.out _ _ (HS3.out _ _ _ _ _ T43.out) (fun hHeld => ?_)
                        clear hK K
                        conv => arg 8; simp only [Act.put, sA, s0, sS]
                        refine tq 8 3 hHeld ?_
                        refine wpAnyH_done (by kernel_rfl) ?_ _
                        go_wp2
                        go_meet
                        case rel => exact ⟨_, (show Hid _ from (tx_le (m := 110 + 200 * k + 20) T43.out (by simp only [List.length_cons, List.length_nil]; omega)))⟩
                    · go_simp
                      have AB44 : Below wd.heap.size wd (wd.alloc (.cells #[.int .u8 32] 5)) := (Below.refl _ _).alloc (Nat.le_refl _) _
                      have SP44 := hidm (bs_one wd 32 (by omega))
                      have NS44 : wd.heap.size ≠ g := by have := TXD.out.st.lt; omega
                      have T44 := hidm (Tx.below TXD.out AB44)
                      refine hK.out _ _ (HS3.out _ _ _ _ _ T44.out) (fun hHeld => ?_)
                      clear hK K
                      generalize hw44 : wd.alloc (.cells #[.int .u8 32] 5) = w44 at *
                      refine wpAnyH_ready (rs := [1]) (by kernel_rfl) (by simp) ?_
                      refine (AllReadyH.cons rfl (fun K hK => ?_) AllReadyH.nil)
                      refine ite_of (by kernel_rfl) (wp_appStrQ 83 rfl (.tmp 82) (.const (.string ⟨#[77, 65, 73, 76, 32]⟩)) 22 9 rfl i5 Tryd.underlying22 Tryd.underlying9 hi hz0 hz1 hz2 g _ (LL) rfl T44.out.st.own [77, 65, 73, 76, 32] rfl (by intro x hx; simp at hx; omega) (by simp only [List.length_append, List.length_cons, List.length_nil]; omega) ?_)
                      intro v45 w45 g45 hO45 hG45 hg45
                      have T45 := hidm (Tx.grow T44.out hO45 hG45 hg45)
                      have SP45 := hidm (Bs.grown SP44.out hG45 (fun h => NS44 (by simpa [Value.ownBlock] using h)))
                      have NS45 : wd.heap.size ≠ g45 := by have := bs_lt1 SP44.out; rcases hg45 with h | h <;> omega
                      refine hK.out _ _ (HS3.out _ _ _ _ _ T45.out) (fun hHeld => ?_)
                      clear hK K
                      conv => arg 8; simp only [Act.put, sA, s0, sS]
                      refine wpAnyH_ready (rs := [4]) (by kernel_rfl) (by simp) ?_
                      refine (AllReadyH.cons rfl (fun K hK => ?_) AllReadyH.nil)
                      go_simp
                      refine (l4digits_r un (by omega) _).mono ?_
                      rintro e w46 ⟨u46, rfl, R46, B46⟩
                      have T46 := hidm (Tx.below T45.out B46)
                      have D46 := hidm R46.bs
                      have N46 := R46.ne T45.out.st.lt
                      have SP46 := hidm (Bs.below SP45.out B46)
                      refine hK.out _ _ (HS3.out _ _ _ _ _ T46.out) (fun hHeld => ?_)
                      clear hK K
                      refine wpAnyH_ready (rs := [5]) (by kernel_rfl) (by simp) ?_
                      refine (AllReadyH.cons rfl (fun K hK => ?_) AllReadyH.nil)
                      refine ite_of (by kernel_rfl) (wp_appQ 87 rfl (.tmp 83) (.tmp 86) 22 rfl i5 Tryd.underlying22 hi hz0 hz1 hz2 g45 _ (LL ++ [77, 65, 73, 76, 32]) rfl T46.out.st.own u46 (digB un) rfl (D46.out) (by simp only [List.length_append, List.length_cons, List.length_nil]; omega) ?_)
                      intro v47 w47 g47 hO47 hG47 hg47
                      have T47 := hidm (Tx.grow T46.out hO47 hG47 hg47)
                      have SP47 := hidm (Bs.grown SP46.out hG47 (fun h => NS45 (by simpa [Value.ownBlock] using h)))
                      have NS47 : wd.heap.size ≠ g47 := by have := bs_lt1 SP46.out; rcases hg47 with h | h <;> omega
                      refine hK.out _ _ (HS3.out _ _ _ _ _ T47.out) (fun hHeld => ?_)
                      clear hK K
                      conv => arg 8; simp only [Act.put, sA, s0, sS]
                      refine wpAnyH_ready (rs := [7]) (by kernel_rfl) (by simp) ?_
                      refine (AllReadyH.cons rfl (fun K hK => ?_) AllReadyH.nil)
                      refine ite_of (by kernel_rfl) (wp_appQ 89 rfl (.tmp 87) (.tmp 88) 22 rfl i5 Tryd.underlying22 hi hz0 hz1 hz2 g47 _ (LL ++ [77, 65, 73, 76, 32] ++ digB un) rfl T47.out.st.own (.slice (some ⟨wd.heap.size, 0, none⟩) 1 1) ([32]) rfl (SP47.out) (by simp only [List.length_append, List.length_cons, List.length_nil]; omega) ?_)
                      intro v48 w48 g48 hO48 hG48 hg48
                      have T48 := hidm (Tx.grow T47.out hO48 hG48 hg48)
                      refine hK.out _ _ (HS3.out _ _ _ _ _ T48.out) (fun hHeld => ?_)
                      clear hK K
                      conv => arg 8; simp only [Act.put, sA, s0, sS]
                      refine tq 8 3 hHeld ?_
                      refine wpAnyH_done (by kernel_rfl) ?_ _
                      go_wp2
                      go_meet
                      case rel => exact ⟨_, (show Hid _ from (tx_le (m := 110 + 200 * k + 20) T48.out (by simp only [List.length_cons, List.length_nil]; omega)))⟩
                  case rest =>
                    obtain ⟨g20, T20⟩ := hcut
                    clear y0 y1 y2 y3 y4 y5 y6 hlV d0 d1 d2 d3
                    obtain ⟨mm0, mm1, mm2, mm3⟩ := bx4 (T20.out.kept (.inr rfl) KM)
                    have hlM := lt_of_heap (T20.out.kept (.inr rfl) KM)
                    go_wp2_with fail
                    refine (l4digits_r qn (by omega) _).mono ?_
                    rintro e wa21 ⟨ua21, rfl, Ra21, Ba21⟩
                    have Ta21 := hidm (Tx.below T20.out Ba21)
                    have Da21 := hidm Ra21.bs
                    clear mm0 mm1 mm2 mm3 hlM
                    clear Ra21 Ba21
                    go_wp2_with (at_builtin; refine wpList_appendQ rfl (.tmp 90) (.tmp 93) 22 rfl i5 Tryd.underlying22 hi hz0 hz1 hz2 g20 _ (LL ++ [77, 65, 73, 76, 32] ++ digB un ++ [32]) rfl Ta21.out.st.own _ (digB qn) rfl Da21.out (by have h1 := Ta21.out.st.2.2.2.2; have h2 : (digB qn).length ≤ 8 := (by omega); omega) ?_)
                    intro vb21 wb21 gb21 hO hG hg
                    have Tb21 := hidm (Tx.grow (g' := gb21) (v' := vb21) (w' := wb21) (m := digB qn) Ta21.out (by simpa using hO) hG hg)
                    clear hO hG hg Ta21 Da21
                    have Tc21 := hidm (Tx.below Tb21.out (show Below wb21.heap.size wb21 (wb21.alloc (.cells #[.int .u8 32] 5)) from (Below.refl _ _).alloc (Nat.le_refl _) _))
                    go_wp2_with (at_builtin; refine wpList_appendQ rfl (.tmp 94) (.tmp 95) 22 rfl i5 Tryd.underlying22 hi hz0 hz1 hz2 gb21 _ (LL ++ [77, 65, 73, 76, 32] ++ digB un ++ [32] ++ digB qn) rfl Tc21.out.st.own _ [32] rfl (bs_one _ _ (by omega)) (by have h1 := Tc21.out.st.2.2.2.2; have h2 : (digB qn).length ≤ 8 := (by omega); simp only [List.length_cons, List.length_nil]; omega) ?_)
                    intro vd21 wd21 gd21 hO hG hg
                    have Td21 : Hid (Tx A w19 (fun b => b = w8.heap.size ∨ b = wr.heap.size) wd21 gd21 vd21 (LL ++ [77, 65, 73, 76, 32] ++ digB un ++ [32] ++ digB qn ++ [32]) (110 + 200 * k + 40)) := by
                      have h2 : (digB qn).length ≤ 8 := (by omega)
                      have h := tx_le (m := 110 + 200 * k + 40) (Tx.grow (g' := gd21) (v' := vd21) (w' := wd21) (m := [32]) Tc21.out (by simpa using hO) hG (by rcases hg with h | h; exact .inl h; exact .inr (by simpa using h))) (by simp only [List.length_cons, List.length_nil]; omega)
                      simpa [Hid, boxLine, tokB] using h
                    clear hO hG hg Tb21 Tc21
                    obtain ⟨mm0, mm1, mm2, mm3⟩ := bx4 (Td21.out.kept (.inr rfl) KM)
                    have hlM := lt_of_heap (Td21.out.kept (.inr rfl) KM)
                    go_wp2_with fail
                    refine (l4flags_r fn (by omega) _).mono ?_
                    rintro e wa22 ⟨ua22, rfl, Ra22, Ba22⟩
                    have Ta22 := hidm (Tx.below Td21.out Ba22)
                    have Da22 := hidm Ra22.bs
                    clear mm0 mm1 mm2 mm3 hlM
                    clear Ra22 Ba22
                    go_wp2_with (at_builtin; refine wpList_appendQ rfl (.tmp 97) (.tmp 100) 22 rfl i5 Tryd.underlying22 hi hz0 hz1 hz2 gd21 _ (LL ++ [77, 65, 73, 76, 32] ++ digB un ++ [32] ++ digB qn ++ [32]) rfl Ta22.out.st.own _ (flagsB fn) rfl Da22.out (by have h1 := Ta22.out.st.2.2.2.2; have h2 : (flagsB fn).length ≤ 7 := (by omega); omega) ?_)
                    intro vb22 wb22 gb22 hO hG hg
                    have Tb22 := hidm (Tx.grow (g' := gb22) (v' := vb22) (w' := wb22) (m := flagsB fn) Ta22.out (by simpa using hO) hG hg)
                    clear hO hG hg Ta22 Da22
                    have Tc22 := hidm (Tx.below Tb22.out (show Below wb22.heap.size wb22 (wb22.alloc (.cells #[.int .u8 32] 5)) from (Below.refl _ _).alloc (Nat.le_refl _) _))
                    go_wp2_with (at_builtin; refine wpList_appendQ rfl (.tmp 101) (.tmp 102) 22 rfl i5 Tryd.underlying22 hi hz0 hz1 hz2 gb22 _ (LL ++ [77, 65, 73, 76, 32] ++ digB un ++ [32] ++ digB qn ++ [32] ++ flagsB fn) rfl Tc22.out.st.own _ [32] rfl (bs_one _ _ (by omega)) (by have h1 := Tc22.out.st.2.2.2.2; have h2 : (flagsB fn).length ≤ 7 := (by omega); simp only [List.length_cons, List.length_nil]; omega) ?_)
                    intro vd22 wd22 gd22 hO hG hg
                    have Td22 : Hid (Tx A w19 (fun b => b = w8.heap.size ∨ b = wr.heap.size) wd22 gd22 vd22 (LL ++ [77, 65, 73, 76, 32] ++ digB un ++ [32] ++ digB qn ++ [32] ++ flagsB fn ++ [32]) (110 + 200 * k + 60)) := by
                      have h2 : (flagsB fn).length ≤ 7 := (by omega)
                      have h := tx_le (m := 110 + 200 * k + 60) (Tx.grow (g' := gd22) (v' := vd22) (w' := wd22) (m := [32]) Tc22.out (by simpa using hO) hG (by rcases hg with h | h; exact .inl h; exact .inr (by simpa using h))) (by simp only [List.length_cons, List.length_nil]; omega)
                      simpa [Hid, boxLine, tokB] using h
                    clear hO hG hg Tb22 Tc22
                    obtain ⟨mm0, mm1, mm2, mm3⟩ := bx4 (Td22.out.kept (.inr rfl) KM)
                    have hlM := lt_of_heap (Td22.out.kept (.inr rfl) KM)
                    go_wp2_with fail
                    refine (l4quoted_r _ text _ (HU.out _ Td22.out.st.old) (by omega)).mono ?_
                    rintro e wa23 ⟨ua23, rfl, Ra23, Ba23⟩
                    have Ta23 := hidm (Tx.below Td22.out Ba23)
                    have Da23 := hidm Ra23.bs
                    clear mm0 mm1 mm2 mm3 hlM
                    clear Ra23 Ba23
                    go_wp2_with (at_builtin; refine wpList_appendQ rfl (.tmp 104) (.tmp 107) 22 rfl i5 Tryd.underlying22 hi hz0 hz1 hz2 gd22 _ (LL ++ [77, 65, 73, 76, 32] ++ digB un ++ [32] ++ digB qn ++ [32] ++ flagsB fn ++ [32]) rfl Ta23.out.st.own _ (quoB text) rfl Da23.out (by have h1 := Ta23.out.st.2.2.2.2; have h2 : (quoB text).length ≤ 62 := (by omega); omega) ?_)
                    intro vb23 wb23 gb23 hO hG hg
                    have Tb23 := hidm (Tx.grow (g' := gb23) (v' := vb23) (w' := wb23) (m := quoB text) Ta23.out (by simpa using hO) hG hg)
                    clear hO hG hg Ta23 Da23
                    have Tc23 := hidm (Tx.below Tb23.out (show Below wb23.heap.size wb23 (wb23.alloc (.cells #[.int .u8 10] 5)) from (Below.refl _ _).alloc (Nat.le_refl _) _))
                    go_wp2_with (at_builtin; refine wpList_appendQ rfl (.tmp 108) (.tmp 109) 22 rfl i5 Tryd.underlying22 hi hz0 hz1 hz2 gb23 _ (LL ++ [77, 65, 73, 76, 32] ++ digB un ++ [32] ++ digB qn ++ [32] ++ flagsB fn ++ [32] ++ quoB text) rfl Tc23.out.st.own _ [10] rfl (bs_one _ _ (by omega)) (by have h1 := Tc23.out.st.2.2.2.2; have h2 : (quoB text).length ≤ 62 := (by omega); simp only [List.length_cons, List.length_nil]; omega) ?_)
                    intro vd23 wd23 gd23 hO hG hg
                    have Td23 : Hid (Tx A w19 (fun b => b = w8.heap.size ∨ b = wr.heap.size) wd23 gd23 vd23 (LL ++ [77, 65, 73, 76, 32] ++ digB un ++ [32] ++ digB qn ++ [32] ++ flagsB fn ++ [32] ++ quoB text ++ [10]) (110 + 200 * k + 140)) := by
                      have h2 : (quoB text).length ≤ 62 := (by omega)
                      have h := tx_le (m := 110 + 200 * k + 140) (Tx.grow (g' := gd23) (v' := vd23) (w' := wd23) (m := [10]) Tc23.out (by simpa using hO) hG (by rcases hg with h | h; exact .inl h; exact .inr (by simpa using h))) (by simp only [List.length_cons, List.length_nil]; omega)
                      simpa [Hid, boxLine, tokB] using h
                    clear hO hG hg Tb23 Tc23
                    have T23 : Hid (Tx A w10 (fun b => b = w8.heap.size) wd23 gd23 vd23 (headL x ++ boxLine x.box ++ (x.box.mails.take (k + 1)).flatMap mailLine) (110 + 200 * (k + 1))) := by
                      have h := Tx.back (tx_le (m := 110 + 200 * (k + 1)) Td23.out (by omega)) T19a.out (fun b hb => Or.inl hb)
                      rw [HST.out]
                      rw [HLL.out] at h
                      simpa [Hid, mailLine, tokB] using h
                    clear Td23 T19 T19a
                    go_wp2
                    go_roundw
                    case rel => exact ⟨k + 1, _, _, by omega, by go_num, rfl, T23⟩
                    case measure => simp [intOf]; omega
                · obtain rfl : k = x.box.mails.length := by omega
                  have hkL : ¬ (x.box.mails.length : Int) < (x.box.mails.length : Int) := by omega
                  obtain ⟨MM, hMM⟩ : ∃ l, l = headL x ++ boxLine x.box ++ x.box.mails.flatMap mailLine := ⟨_, rfl⟩
                  have HMM := hidm hMM
                  have T24 : Hid (Tx A w10 (fun b => b = w8.heap.size) wr g o (MM ++ (x.box.gones.take 0).flatMap goneLine) 2510) := by
                    have h := tx_le (m := 2510) hT.out (by omega)
                    rw [List.take_length, ← hMM] at h
                    simpa [Hid] using h
                  clear hT hMM
                  go_wp2
                  go_loopw [3, 8] (fun b i wr => ∃ (k g : Nat) (o : Value), k ≤ x.box.gones.length ∧ i = .int .i64 k ∧ o = b ∧ Hid (Tx A w10 (fun b => b = w8.heap.size) wr g o (MM ++ (x.box.gones.take k).flatMap goneLine) (2510 + 20 * k))) (fun _ i _ => x.box.gones.length - (intOf i).toNat)
                  case atStart => exact ⟨0, _, _, Nat.zero_le _, rfl, rfl, T24⟩
                  case round =>
                    clear y0 y1 y2 y3 y4 y5 y6 hlV
                    obtain ⟨k, g, o, hk, rfl, rfl, hT⟩ := hrel
                    obtain ⟨y0, y1, y2, y3, y4, y5, y6⟩ := bx7 (hT.out.kept rfl KV10)
                    have hlV := lt_of_heap (hT.out.kept rfl KV10)
                    by_cases hlt : k < x.box.gones.length
                    · obtain ⟨m, hm⟩ : ∃ m, x.box.gones[k]? = some m := ⟨x.box.gones[k], List.getElem?_eq_getElem hlt⟩
                      obtain ⟨b, off, cap', hv', hlb, z0, z1, -⟩ := GonesV.cell (H0.out A XA.out).parts.1.lists.2 k m hm
                      simp only [Value.slice.injEq, true_and] at hv'
                      obtain ⟨rfl, rfl⟩ := hv'
                      have hq := HQ8.out m (List.mem_of_getElem? hm)
                      have HST := hidm (flat_step goneLine hm)
                      obtain ⟨uid, seq⟩ := m
                      simp only at z0 z1 hq HST
                      obtain ⟨un, rfl⟩ : ∃ n : Nat, uid = n := ⟨uid.toNat, by omega⟩
                      have HZ0 := hidm z0
                      have hkL2 : (k : Int) < (x.box.gones.length : Int) := by omega
                      obtain ⟨LL, hLL⟩ : ∃ l, l = MM ++ (x.box.gones.take k).flatMap goneLine := ⟨_, rfl⟩
                      rw [← hLL] at hT
                      have HLL := hidm hLL
                      have hln : LL.length ≤ 3310 := by have := hT.out.st.2.2.2.2; omega
                      have hdu := digB_len10 (n := un) (by omega)
                      clear hm hLL z0 z1
                      go_upto_region 27 with fail
                      clear y0 y1 y2 y3 y4 y5 y6 hlV
                      have HS3 : Hid (∀ w' g v L n, Tx A w10 (fun b => b = w8.heap.size) w' g v L n → w'.cell? ⟨w8.heap.size, 5, none⟩ = some (.slice (some ⟨b, off, none⟩) x.box.gones.length c2) ∧ w'.cell? ⟨b, off + k * 2, none⟩ = some (.int .i64 un)) := fun w' g v L n h => ⟨(bx7 (h.kept rfl KV10)).2.2.2.2.2.1, (h.st.old.cell (p := ⟨b, off + k * 2, none⟩) hlb).trans HZ0.out⟩
                      have TXD : Hid (Tx A w10 (fun b => b = w8.heap.size) wr.drew g o LL (2510 + 20 * k)) := hT.out.below (Below.refl _ _).drew
                      go_wp2
                      refine wp_region_held_drew (S := fun w' => w'.cell? ⟨w8.heap.size, 5, none⟩ = some (.slice (some ⟨b, off, none⟩) x.box.gones.length c2) ∧ w'.cell? ⟨b, off + k * 2, none⟩ = some (.int .i64 un)) (by kernel_rfl) (HS3.out _ _ _ _ _ TXD.out) (fun hHeld => (show wpAnyH _ _ _ _ _ 13 #[false, false, false, false, false, false, false, false, false, false, false, false, false] _ _ from ?_))
                      refine tq 0 118 hHeld ?_
                      refine tq 2 120 hHeld ?_
                      refine tq 3 121 hHeld ?_
                      refine tq 4 122 hHeld ?_
                      refine tq 5 123 hHeld ?_
                      refine tq 6 124 hHeld ?_
                      refine tq 7 125 hHeld ?_
                      generalize hwd : wr.drew = wd at *
                      refine wpAnyH_ready (rs := [1, 10]) (by kernel_rfl) (by simp) ?_
                      refine (AllReadyH.cons rfl (fun K hK => ?_) (AllReadyH.cons rfl (fun K hK => ?_) AllReadyH.nil))
                      · refine ite_of (by kernel_rfl) (wp_appStrQ 119 rfl (.tmp 118) (.const (.string ⟨#[71, 79, 78, 69, 32]⟩)) 22 9 rfl i5 Tryd.underlying22 Tryd.underlying9 hi hz0 hz1 hz2 g _ (LL) rfl TXD.out.st.own [71, 79, 78, 69, 32] rfl (by intro x hx; simp at hx; omega) (by simp only [List.length_append, List.length_cons, List.length_nil]; omega) ?_)
                        intro v49 w49 g49 hO49 hG49 hg49
                        have T49 := hidm (Tx.grow TXD.out hO49 hG49 hg49)
                        refine hK.out _ _ (HS3.out _ _ _ _ _ T49.out) (fun hHeld => ?_)
                        clear hK K
                        conv => arg 8; simp only [Act.put, sA, s0, sS]
                        refine wpAnyH_ready (rs := [8, 10]) (by kernel_rfl) (by simp) ?_
                        refine (AllReadyH.cons rfl (fun K hK => ?_) (AllReadyH.cons rfl (fun K hK => ?_) AllReadyH.nil))
                        · go_simp
                          refine (l4digits_r un (by omega) _).mono ?_
                          rintro e w50 ⟨u50, rfl, R50, B50⟩
                          have T50 := hidm (Tx.below T49.out B50)
                          have D50 := hidm R50.bs
                          have N50 := R50.ne T49.out.st.lt
                          refine hK.out _ _ (HS3.out _ _ _ _ _ T50.out) (fun hHeld => ?_)
                          clear hK K
                          refine wpAnyH_ready (rs := [9, 10]) (by kernel_rfl) (by simp) ?_
                          refine (AllReadyH.cons rfl (fun K hK => ?_) (AllReadyH.cons rfl (fun K hK => ?_) AllReadyH.nil))
                          · refine ite_of (by kernel_rfl) (wp_appQ 127 rfl (.tmp 119) (.tmp 126) 22 rfl i5 Tryd.underlying22 hi hz0 hz1 hz2 g49 _ (LL ++ [71, 79, 78, 69, 32]) rfl T50.out.st.own u50 (digB un) rfl (D50.out) (by simp only [List.length_append, List.length_cons, List.length_nil]; omega) ?_)
                            intro v51 w51 g51 hO51 hG51 hg51
                            have T51 := hidm (Tx.grow T50.out hO51 hG51 hg51)
                            refine hK.out _ _ (HS3.out _ _ _ _ _ T51.out) (fun hHeld => ?_)
                            clear hK K
                            conv => arg 8; simp only [Act.put, sA, s0, sS]
                            refine wpAnyH_ready (rs := [10]) (by kernel_rfl) (by simp) ?_
                            refine (AllReadyH.cons rfl (fun K hK => ?_) AllReadyH.nil)
                            go_simp
                            have AB52 : Below w51.heap.size w51 (w51.alloc (.cells #[.int .u8 10] 5)) := (Below.refl _ _).alloc (Nat.le_refl _) _
                            have SP52 := hidm (bs_one w51 10 (by omega))
                            have NS52 : w51.heap.size ≠ g51 := by have := T51.out.st.lt; omega
                            have T52 := hidm (Tx.below T51.out AB52)
                            refine hK.out _ _ (HS3.out _ _ _ _ _ T52.out) (fun hHeld => ?_)
                            clear hK K
                            generalize hw52 : w51.alloc (.cells #[.int .u8 10] 5) = w52 at *
                            refine wpAnyH_ready (rs := [11]) (by kernel_rfl) (by simp) ?_
                            refine (AllReadyH.cons rfl (fun K hK => ?_) AllReadyH.nil)
                            refine ite_of (by kernel_rfl) (wp_appQ 129 rfl (.tmp 127) (.tmp 128) 22 rfl i5 Tryd.underlying22 hi hz0 hz1 hz2 g51 _ (LL ++ [71, 79, 78, 69, 32] ++ digB un) rfl T52.out.st.own (.slice (some ⟨w51.heap.size, 0, none⟩) 1 1) ([10]) rfl (SP52.out) (by simp only [List.length_append, List.length_cons, List.length_nil]; omega) ?_)
                            intro v53 w53 g53 hO53 hG53 hg53
                            have T53 := hidm (Tx.grow T52.out hO53 hG53 hg53)
                            refine hK.out _ _ (HS3.out _ _ _ _ _ T53.out) (fun hHeld => ?_)
                            clear hK K
                            conv => arg 8; simp only [Act.put, sA, s0, sS]
                            refine tq 12 3 hHeld ?_
                            refine wpAnyH_done (by kernel_rfl) ?_ _
                            have T28 : Hid (Tx A w10 (fun b => b = w8.heap.size) w53 g53 v53 (MM ++ (x.box.gones.take (k + 1)).flatMap goneLine) (2510 + 20 * (k + 1))) := by
                              have h := tx_le (m := 2510 + 20 * (k + 1)) T53.out (by simp only [List.length_cons, List.length_nil]; omega)
                              rw [HST.out]
                              rw [HLL.out] at h
                              simpa [Hid, goneLine, tokB] using h
                            repeat clear hHeld
                            go_wp2
                            go_roundw
                            case rel => exact ⟨k + 1, _, _, by omega, by go_num, rfl, T28⟩
                            case measure => simp [intOf]; omega
                          · go_simp
                            have AB54 : Below w50.heap.size w50 (w50.alloc (.cells #[.int .u8 10] 5)) := (Below.refl _ _).alloc (Nat.le_refl _) _
                            have SP54 := hidm (bs_one w50 10 (by omega))
                            have NS54 : w50.heap.size ≠ g49 := by have := T50.out.st.lt; omega
                            have T54 := hidm (Tx.below T50.out AB54)
                            have D54 := hidm (Bs.below D50.out AB54)
                            refine hK.out _ _ (HS3.out _ _ _ _ _ T54.out) (fun hHeld => ?_)
                            clear hK K
                            generalize hw54 : w50.alloc (.cells #[.int .u8 10] 5) = w54 at *
                            refine wpAnyH_ready (rs := [9]) (by kernel_rfl) (by simp) ?_
                            refine (AllReadyH.cons rfl (fun K hK => ?_) AllReadyH.nil)
                            refine ite_of (by kernel_rfl) (wp_appQ 127 rfl (.tmp 119) (.tmp 126) 22 rfl i5 Tryd.underlying22 hi hz0 hz1 hz2 g49 _ (LL ++ [71, 79, 78, 69, 32]) rfl T54.out.st.own u50 (digB un) rfl (D54.out) (by simp only [List.length_append, List.length_cons, List.length_nil]; omega) ?_)
                            intro v55 w55 g55 hO55 hG55 hg55
                            have T55 := hidm (Tx.grow T54.out hO55 hG55 hg55)
                            have SP55 := hidm (Bs.grown SP54.out hG55 (fun h => NS54 (by simpa [Value.ownBlock] using h)))
                            have NS55 : w50.heap.size ≠ g55 := by have := bs_lt1 SP54.out; rcases hg55 with h | h <;> omega
                            refine hK.out _ _ (HS3.out _ _ _ _ _ T55.out) (fun hHeld => ?_)
                            clear hK K
                            conv => arg 8; simp only [Act.put, sA, s0, sS]
                            refine wpAnyH_ready (rs := [11]) (by kernel_rfl) (by simp) ?_
                            refine (AllReadyH.cons rfl (fun K hK => ?_) AllReadyH.nil)
                            refine ite_of (by kernel_rfl) (wp_appQ 129 rfl (.tmp 127) (.tmp 128) 22 rfl i5 Tryd.underlying22 hi hz0 hz1 hz2 g55 _ (LL ++ [71, 79, 78, 69, 32] ++ digB un) rfl T55.out.st.own (.slice (some ⟨w50.heap.size, 0, none⟩) 1 1) ([10]) rfl (SP55.out) (by simp only [List.length_append, List.length_cons, List.length_nil]; omega) ?_)
                            intro v56 w56 g56 hO56 hG56 hg56
                            have T56 := hidm (Tx.grow T55.out hO56 hG56 hg56)
                            refine hK.out _ _ (HS3.out _ _ _ _ _ T56.out) (fun hHeld => ?_)
                            clear hK K
                            conv => arg 8; simp only [Act.put, sA, s0, sS]
                            refine tq 12 3 hHeld ?_
                            refine wpAnyH_done (by kernel_rfl) ?_ _
                            have T28 : Hid (Tx A w10 (fun b => b = w8.heap.size) w56 g56 v56 (MM ++ (x.box.gones.take (k + 1)).flatMap goneLine) (2510 + 20 * (k + 1))) := by
                              have h := tx_le (m := 2510 + 20 * (k + 1)) T56.out (by simp only [List.length_cons, List.length_nil]; omega)
                              rw [HST.out]
                              rw [HLL.out] at h
                              simpa [Hid, goneLine, tokB] using h
                            repeat clear hHeld
                            go_wp2
                            go_roundw
                            case rel => exact ⟨k + 1, _, _, by omega, by go_num, rfl, T28⟩
                            case measure => simp [intOf]; omega
                        · go_simp
                          have AB57 : Below w49.heap.size w49 (w49.alloc (.cells #[.int .u8 10] 5)) := (Below.refl _ _).alloc (Nat.le_refl _) _
                          have SP57 := hidm (bs_one w49 10 (by omega))
                          have NS57 : w49.heap.size ≠ g49 := by have := T49.out.st.lt; omega
                          have T57 := hidm (Tx.below T49.out AB57)
                          refine hK.out _ _ (HS3.out _ _ _ _ _ T57.out) (fun hHeld => ?_)
                          clear hK K
                          generalize hw57 : w49.alloc (.cells #[.int .u8 10] 5) = w57 at *
                          refine wpAnyH_ready (rs := [8]) (by kernel_rfl) (by simp) ?_
                          refine (AllReadyH.cons rfl (fun K hK => ?_) AllReadyH.nil)
                          go_simp
                          refine (l4digits_r un (by omega) _).mono ?_
                          rintro e w58 ⟨u58, rfl, R58, B58⟩
                          have T58 := hidm (Tx.below T57.out B58)
                          have D58 := hidm R58.bs
                          have N58 := R58.ne T57.out.st.lt
                          have SP58 := hidm (Bs.below SP57.out B58)
                          refine hK.out _ _ (HS3.out _ _ _ _ _ T58.out) (fun hHeld => ?_)
                          clear hK K
                          refine wpAnyH_ready (rs := [9]) (by kernel_rfl) (by simp) ?_
                          refine (AllReadyH.cons rfl (fun K hK => ?_) AllReadyH.nil)
                          refine ite_of (by kernel_rfl) (wp_appQ 127 rfl (.tmp 119) (.tmp 126) 22 rfl i5 Tryd.underlying22 hi hz0 hz1 hz2 g49 _ (LL ++ [71, 79, 78, 69, 32]) rfl T58.out.st.own u58 (digB un) rfl (D58.out) (by simp only [List.length_append, List.length_cons, List.length_nil]; omega) ?_)
                          intro v59 w59 g59 hO59 hG59 hg59
                          have T59 := hidm (Tx.grow T58.out hO59 hG59 hg59)
                          have SP59 := hidm (Bs.grown SP58.out hG59 (fun h => NS57 (by simpa [Value.ownBlock] using h)))
                          have NS59 : w49.heap.size ≠ g59 := by have := bs_lt1 SP58.out; rcases hg59 with h | h <;> omega
                          refine hK.out _ _ (HS3.out _ _ _ _ _ T59.out) (fun hHeld => ?_)
                          clear hK K
                          conv => arg 8; simp only [Act.put, sA, s0, sS]
                          refine wpAnyH_ready (rs := [11]) (by kernel_rfl) (by simp) ?_
                          refine (AllReadyH.cons rfl (fun K hK => ?_) AllReadyH.nil)
                          refine ite_of (by kernel_rfl) (wp_appQ 129 rfl (.tmp 127) (.tmp 128) 22 rfl i5 Tryd.underlying22 hi hz0 hz1 hz2 g59 _ (LL ++ [71, 79, 78, 69, 32] ++ digB un) rfl T59.out.st.own (.slice (some ⟨w49.heap.size, 0, none⟩) 1 1) ([10]) rfl (SP59.out) (by simp only [List.length_append, List.length_cons, List.length_nil]; omega) ?_)
                          intro v60 w60 g60 hO60 hG60 hg60
                          have T60 := hidm (Tx.grow T59.out hO60 hG60 hg60)
                          refine hK.out _ _ (HS3.out _ _ _ _ _ T60.out) (fun hHeld => ?_)
                          clear hK K
                          conv => arg 8; simp only [Act.put, sA, s0, sS]
                          refine tq 12 3 hHeld ?_
                          refine wpAnyH_done (by kernel_rfl) ?_ _
                          have T28 : Hid (Tx A w10 (fun b => b = w8.heap.size) w60 g60 v60 (MM ++ (x.box.gones.take (k + 1)).flatMap goneLine) (2510 + 20 * (k + 1))) := by
                            have h := tx_le (m := 2510 + 20 * (k + 1)) T60.out (by simp only [List.length_cons, List.length_nil]; omega)
                            rw [HST.out]
                            rw [HLL.out] at h
                            simpa [Hid, goneLine, tokB] using h
                          repeat clear hHeld
                          go_wp2
                          go_roundw
                          case rel => exact ⟨k + 1, _, _, by omega, by go_num, rfl, T28⟩
                          case measure => simp [intOf]; omega
                      · go_simp
                        have AB61 : Below wd.heap.size wd (wd.alloc (.cells #[.int .u8 10] 5)) := (Below.refl _ _).alloc (Nat.le_refl _) _
                        have SP61 := hidm (bs_one wd 10 (by omega))
                        have NS61 : wd.heap.size ≠ g := by have := TXD.out.st.lt; omega
                        have T61 := hidm (Tx.below TXD.out AB61)
                        refine hK.out _ _ (HS3.out _ _ _ _ _ T61.out) (fun hHeld => ?_)
                        clear hK K
                        generalize hw61 : wd.alloc (.cells #[.int .u8 10] 5) = w61 at *
                        refine wpAnyH_ready (rs := [1]) (by kernel_rfl) (by simp) ?_
                        refine (AllReadyH.cons rfl (fun K hK => ?_) AllReadyH.nil)
                        refine ite_of (by kernel_rfl) (wp_appStrQ 119 rfl (.tmp 118) (.const (.string ⟨#[71, 79, 78, 69, 32]⟩)) 22 9 rfl i5 Tryd.underlying22 Tryd.underlying9 hi hz0 hz1 hz2 g _ (LL) rfl T61.out.st.own [71, 79, 78, 69, 32] rfl (by intro x hx; simp at hx; omega) (by simp only [List.length_append, List.length_cons, List.length_nil]; omega) ?_)
                        intro v62 w62 g62 hO62 hG62 hg62
                        have T62 := hidm (Tx.grow T61.out hO62 hG62 hg62)
                        have SP62 := hidm (Bs.grown SP61.out hG62 (fun h => NS61 (by simpa [Value.ownBlock] using h)))
                        have NS62 : wd.heap.size ≠ g62 := by have := bs_lt1 SP61.out; rcases hg62 with h | h <;> omega
                        refine hK.out _ _ (HS3.out _ _ _ _ _ T62.out) (fun hHeld => ?_)
                        clear hK K
                        conv => arg 8; simp only [Act.put, sA, s0, sS]
                        refine wpAnyH_ready (rs := [8]) (by kernel_rfl) (by simp) ?_
                        refine (AllReadyH.cons rfl (fun K hK => ?_) AllReadyH.nil)
                        go_simp
                        refine (l4digits_r un (by omega) _).mono ?_
                        rintro e w63 ⟨u63, rfl, R63, B63⟩
                        have T63 := hidm (Tx.below T62.out B63)
                        have D63 := hidm R63.bs
                        have N63 := R63.ne T62.out.st.lt
                        have SP63 := hidm (Bs.below SP62.out B63)
                        refine hK.out _ _ (HS3.out _ _ _ _ _ T63.out) (fun hHeld => ?_)
                        clear hK K
                        refine wpAnyH_ready (rs := [9]) (by kernel_rfl) (by simp) ?_
                        refine (AllReadyH.cons rfl (fun K hK => ?_) AllReadyH.nil)
                        refine ite_of (by kernel_rfl) (wp_appQ 127 rfl (.tmp 119) (.tmp 126) 22 rfl i5 Tryd.underlying22 hi hz0 hz1 hz2 g62 _ (LL ++ [71, 79, 78, 69, 32]) rfl T63.out.st.own u63 (digB un) rfl (D63.out) (by simp only [List.length_append, List.length_cons, List.length_nil]; omega) ?_)
                        intro v64 w64 g64 hO64 hG64 hg64
                        have T64 := hidm (Tx.grow T63.out hO64 hG64 hg64)
                        have SP64 := hidm (Bs.grown SP63.out hG64 (fun h => NS62 (by simpa [Value.ownBlock] using h)))
                        have NS64 : wd.heap.size ≠ g64 := by have := bs_lt1 SP63.out; rcases hg64 with h | h <;> omega
                        refine hK.out _ _ (HS3.out _ _ _ _ _ T64.out) (fun hHeld => ?_)
                        clear hK K
                        conv => arg 8; simp only [Act.put, sA, s0, sS]
                        refine wpAnyH_ready (rs := [11]) (by kernel_rfl) (by simp) ?_
                        refine (AllReadyH.cons rfl (fun K hK => ?_) AllReadyH.nil)
                        refine ite_of (by kernel_rfl) (wp_appQ 129 rfl (.tmp 127) (.tmp 128) 22 rfl i5 Tryd.underlying22 hi hz0 hz1 hz2 g64 _ (LL ++ [71, 79, 78, 69, 32] ++ digB un) rfl T64.out.st.own (.slice (some ⟨wd.heap.size, 0, none⟩) 1 1) ([10]) rfl (SP64.out) (by simp only [List.length_append, List.length_cons, List.length_nil]; omega) ?_)
                        intro v65 w65 g65 hO65 hG65 hg65
                        have T65 := hidm (Tx.grow T64.out hO65 hG65 hg65)
                        refine hK.out _ _ (HS3.out _ _ _ _ _ T65.out) (fun hHeld => ?_)
                        clear hK K
                        conv => arg 8; simp only [Act.put, sA, s0, sS]
                        refine tq 12 3 hHeld ?_
                        refine wpAnyH_done (by kernel_rfl) ?_ _
                        have T28 : Hid (Tx A w10 (fun b => b = w8.heap.size) w65 g65 v65 (MM ++ (x.box.gones.take (k + 1)).flatMap goneLine) (2510 + 20 * (k + 1))) := by
                          have h := tx_le (m := 2510 + 20 * (k + 1)) T65.out (by simp only [List.length_cons, List.length_nil]; omega)
                          rw [HST.out]
                          rw [HLL.out] at h
                          simpa [Hid, goneLine, tokB] using h
                        repeat clear hHeld
                        go_wp2
                        go_roundw
                        case rel => exact ⟨k + 1, _, _, by omega, by go_num, rfl, T28⟩
                        case measure => simp [intOf]; omega
                    · obtain rfl : k = x.box.gones.length := by omega
                      have hkL2 : ¬ (x.box.gones.length : Int) < (x.box.gones.length : Int) := by omega
                      go_wp2
                      go_ret
                      refine ⟨_, rfl, ?_, fun k hk => Nat.le_trans (by omega) (hT.out.st.made k hk), Below.step XA.out hT.out.st.old⟩
                      rw [HE.out]
                      unfold replyL
                      rw [if_neg (by rw [HZX.out]; simp)]
                      have h := hT.out.st.own.bs
                      rw [List.take_length, HMM.out] at h
                      simpa [boxLines] using h

end Go.Proofs.YtmonloebkdpahaaDoor
