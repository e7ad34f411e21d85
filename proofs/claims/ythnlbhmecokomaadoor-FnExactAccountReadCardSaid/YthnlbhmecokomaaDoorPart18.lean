/- The proof's texts, part 18. -/
import Derived.Test.YthnlbhmecokomaaDoorPart17
import Derived.Test.YthnlbhmecokomaaDoorPart2
import Derived.Test.YthnlbhmecokomaaDoorPart3
import Derived.Deep.RegionHeld3
import Derived.Test.YthnlbhmecokomaaDoorRows
import Derived.Test.YthnlbhmecokomaaDoorPart1
import Derived.ProofKit
import Derived.OpenShut
import Derived.ShutString
import Derived.ChangeOld
import Derived.ChangeSame
import Derived.ChangeVars
import Derived.JoinedOf
import Derived.RowKit
import Derived.RowKitTokens
import Derived.LaidLaws
import Derived.LaidHandle
import Derived.Stop.Joined
import Derived.Stop.LaidErr
import Derived.WalkSmall

/- What markAccount of package laws does. -/
namespace Go.Proofs.YthnlbhmecokomaaDoor
open Go.RowKit
set_option maxRecDepth 100000
set_option linter.unusedVariables false

def mkAcc (k : Int) (x : AccD) : AccD := ⟨x.valid, mkBoxes k x.boxes, mkInts (k + wXs x.boxes) x.seen⟩
def wAcc (x : AccD) : Nat := wXs x.boxes + wIs x.seen

set_option maxRecDepth 100000 in
set_option maxHeartbeats 1000000 in
theorem markAccount_o (S : Nat → Prop) (v : Value) (x : AccD) (k : Int) (w : World) (hv : AccO w S v x) (hS : ∀ b, S b → b < w.heap.size) (hs : szXs x.boxes ≤ 2000000) (hl : x.seen.length ≤ 2000000) (hk0 : 0 ≤ k) (hk1 : k ≤ 1000000000) :
    Calls Tryd.prog 10 #[v, .int .i64 k] w fun e w' => e = .returned (.int .i64 (k + wXs x.boxes + wIs x.seen)) ∧ AccO w' S v (mkAcc k x) ∧ Wr S w w' := by
  obtain ⟨u0, u1, S0, S1, rfl, h0, h1, d0, d1, i0⟩ := hv
  have hb : wXs x.boxes ≤ 8000000 := by have := wXs_le x.boxes; omega
  obtain ⟨a0, c0, rfl, -⟩ := (h0.rd fun _ _ _ _ => BoxE.rd : BoxesV _ _ _).form
  obtain ⟨a1, c1, rfl, -⟩ := (h1.rd fun _ _ _ _ h => h : IntsV _ _ _).form
  have n0 : ¬ S0 w.heap.size := fun h => by have := hS _ (d0 _ h).1; omega
  have n1 : ¬ S1 w.heap.size := fun h => by have := hS _ (d1 _ h); omega
  have AB : Below w.heap.size w (w.alloc (.cells #[.int .i64 x.valid, .slice a0 x.boxes.length c0, .slice a1 x.seen.length c1] 26)) := (Below.refl _ _).alloc (Nat.le_refl _) _
  have hsz : w.heap.size < (w.alloc (.cells #[.int .i64 x.valid, .slice a0 x.boxes.length c0, .slice a1 x.seen.length c1] 26)).heap.size := by simp
  have H0 : Hid (BoxesO (w.alloc (.cells #[.int .i64 x.valid, .slice a0 x.boxes.length c0, .slice a1 x.seen.length c1] 26)) S0 (.slice a0 x.boxes.length c0) x.boxes) := h0.below framesBox AB
  have H1 : Hid (IntsO (w.alloc (.cells #[.int .i64 x.valid, .slice a0 x.boxes.length c0, .slice a1 x.seen.length c1] 26)) S1 (.slice a1 x.seen.length c1) x.seen) := h1.below framesInt AB
  have HK : Hid ((w.alloc (.cells #[.int .i64 x.valid, .slice a0 x.boxes.length c0, .slice a1 x.seen.length c1] 26)).heap[w.heap.size]? = some (.cells #[.int .i64 x.valid, .slice a0 x.boxes.length c0, .slice a1 x.seen.length c1] 26)) := box_new w _
  have HAB : Hid (Below w.heap.size w (w.alloc (.cells #[.int .i64 x.valid, .slice a0 x.boxes.length c0, .slice a1 x.seen.length c1] 26))) := AB
  have HD : Hid ((∀ y, S0 y → S y ∧ ¬ S1 y) ∧ (∀ y, S1 y → S y)) := ⟨d0, d1⟩
  clear h0 h1 d0 d1 AB
  obtain ⟨f0, f1, f2⟩ := bx3 HK.out
  go_enter Tryd.func10, Tryd.ntmps10
  go_wp2_with fail
  refine (markBoxS_o S0 _ x.boxes k _ H0.out hs hk0 (by omega)).mono ?_
  rintro e w1 ⟨rfl, R1, W1⟩
  have s1 := W1.size
  have K1 : w1.heap[w.heap.size]? = _ := (W1.block _ hsz n0).trans HK.out
  have G1 : Hid (IntsO w1 S1 (.slice a1 x.seen.length c1) x.seen) := H1.out.frame framesInt fun b hb hlt => W1.block b hlt fun h => (HD.out.1 b h).2 hb
  have G0 : Hid (BoxesO w1 S0 (.slice a0 x.boxes.length c0) (mkBoxes k x.boxes)) := R1
  have HW1 : Hid (Wr S w w1) := (Wr.of_below HAB.out).trans (W1.mono fun b h => (HD.out.1 b h).1)
  clear f0 f1 f2 R1 H0 H1 HK W1 HAB
  obtain ⟨f0, f1, f2⟩ := bx3 K1
  have hlA := lt_of_heap K1
  clear K1
  go_wp2_with fail
  refine (markIntS_o S1 _ x.seen _ _ G1.out hl (by omega) (by omega)).mono ?_
  rintro e w2 ⟨rfl, R2, W2⟩
  have HF : Hid (AccO w2 S (.agg #[.int .i64 x.valid, .slice a0 x.boxes.length c0, .slice a1 x.seen.length c1]) (mkAcc k x) ∧ Wr S w w2) := by
    have g0 : BoxesO w2 S0 (.slice a0 x.boxes.length c0) (mkBoxes k x.boxes) := G0.out.frame framesBox fun b hb hlt => W2.block b hlt (HD.out.1 b hb).2
    exact ⟨⟨_, _, S0, S1, rfl, g0, R2, HD.out.1, HD.out.2, i0⟩, HW1.out.trans (W2.mono HD.out.2)⟩
  clear R2 W2 G0 G1 HW1 HD f0 f1 f2 hlA
  go_wp2
  go_ret
  exact ⟨rfl, HF.out.1, HF.out.2⟩

theorem markAccount_w (B T : Nat) (v : Value) (x : AccD) (k : Int) (w : World) (hv : AccO w (In B T) v x) (hT : T ≤ w.heap.size) (hs : szXs x.boxes ≤ 2000000) (hl : x.seen.length ≤ 2000000) (hk0 : 0 ≤ k) (hk1 : k ≤ 1000000000) :
    Calls Tryd.prog 10 #[v, .int .i64 k] w fun e w' => e = .returned (.int .i64 (k + wXs x.boxes + wIs x.seen)) ∧ AccO w' (In B T) v (mkAcc k x) ∧ Within B T w w' := by
  refine (markAccount_o (In B T) v x k w hv (fun b hb => Nat.lt_of_lt_of_le hb.2 hT) hs hl hk0 hk1).mono ?_
  rintro e w' ⟨rfl, R, W⟩
  exact ⟨rfl, R, W.within⟩

end Go.Proofs.YthnlbhmecokomaaDoor

/- What heldMailS of package laws do of what was marked. -/
namespace Go.Proofs.YthnlbhmecokomaaDoor
open Go.RowKit
set_option maxRecDepth 100000
set_option linter.unusedVariables false

set_option maxRecDepth 100000 in
set_option maxHeartbeats 1000000 in
theorem heldMailS_any (v : Value) (l : List MailD) (k : Int) (w : World) (hv : MailsV w v (mkMails k l)) (hs : szM l ≤ 2000000) (hk0 : 0 ≤ k) (hk1 : k ≤ 100000000000) :
    Calls Tryd.prog 42 #[v, .int .i64 k] w fun e w' => e = .returned (.int .i64 (k + wMs l)) ∧ Below w.heap.size w w' := by
  have HV : Hid (∀ wi, Below w.heap.size w wi → MailsV wi v (mkMails k l)) := fun wi h => hv.below keepsMail h
  obtain ⟨a, cap, rfl, hlc, hcm⟩ := hv.form
  have hlen : (mkMails k l).length = l.length := length_mks
  rw [hlen] at hlc
  simp only [hlen] at HV ⊢
  clear hv
  have hl : l.length ≤ 2000000 := Nat.le_trans (szM_len l) hs
  have HWQ : Hid (wMs l ≤ 6000000) := by have := wMs_le l; unfold Hid; omega
  go_enter Tryd.func42, Tryd.ntmps42
  go_wp2
  go_loopw [1, 5] (fun q i wr => ∃ j : Nat, j ≤ l.length ∧ i = .int .i64 j ∧ q = .int .i64 (k + (pre (wtAt zMail wtMail l) j : Nat)) ∧ Hid (Below w.heap.size w wr)) (fun _ i _ => l.length - (intOf i).toNat)
  case atStart => exact ⟨0, Nat.zero_le _, rfl, by simp [pre], Below.refl _ _⟩
  case round =>
    obtain ⟨j, hj, rfl, rfl, hW⟩ := hrel
    by_cases hlt : j < l.length
    · obtain ⟨x, hx⟩ : ∃ x, l[j]? = some x := ⟨l[j], List.getElem?_eq_getElem hlt⟩
      have hp1 : pre (wtAt zMail wtMail l) (j + 1) = pre (wtAt zMail wtMail l) j + (3 + x.text.length) := pre_step hx
      have hpj : pre (wtAt zMail wtMail l) (j + 1) ≤ wMs l := pre_le hlt
      have hn := mks_get (z := zMail) (mk := mkMail) (wt := wtMail) (k := k) hx
      generalize pre (wtAt zMail wtMail l) j = P at hpj hp1 hn
      have hP : (P : Int) ≤ 6000000 := by have := HWQ.out; omega
      have hxt : x.text.length ≤ 2000000 := by have := szM_mem (List.mem_of_getElem? hx); omega
      obtain ⟨b, off, cap', u, hv', hlb, d0, d1, d2, d3, hu, -⟩ := MailsV.cell (HV.out wr hW.out) j _ hn
      simp only [hlen, Value.slice.injEq, true_and] at hv'
      obtain ⟨rfl, rfl⟩ := hv'
      obtain ⟨ua, un, uc, rfl⟩ := hu.form3
      simp only [mkMail] at d0 d1 d2 hu
      have e1 : IntKind.i64.wrap (k + (P : Int) + 1) = k + P + 1 := IntWalk.i64_in _ (by omega)
      have e2 : (k + (P : Int) + 1 + 1) = k + P + 2 := by omega
      have e3 : (k + (P : Int) + 2 + 1) = k + P + 3 := by omega
      have HU : Hid (Bs wr (.slice ua un uc) (marks (k + P + 3) x.text.length)) := hu
      clear hn hx hu
      go_wp2_with fail
      refine (heldByteS_yes _ x.text.length (k + P + 3) _ HU.out hxt (by omega) (by omega)).mono ?_
      rintro e w2 ⟨rfl, B2⟩
      have HW2 : Hid (Below w.heap.size w w2) := Below.step hW.out B2
      clear B2 d0 d1 d2 d3 HU
      go_wp2
      go_roundw
      case rel => exact ⟨j + 1, by omega, by go_num, by rw [hp1]; go_num, HW2⟩
      case measure => simp [intOf]; omega
    · go_wp2
      go_ret
      obtain rfl : j = l.length := by omega
      exact ⟨rfl, hW.out⟩

end Go.Proofs.YthnlbhmecokomaaDoor

/- What heldGoneS of package laws do of what was marked. -/
namespace Go.Proofs.YthnlbhmecokomaaDoor
open Go.RowKit
set_option maxRecDepth 100000
set_option linter.unusedVariables false

set_option maxRecDepth 100000 in
set_option maxHeartbeats 1000000 in
theorem heldGoneS_any (v : Value) (l : List GoneD) (k : Int) (w : World) (hv : GonesV w v (mkGones k l)) (hl : l.length ≤ 2000000) (hk0 : 0 ≤ k) (hk1 : k ≤ 100000000000) :
    Calls Tryd.prog 43 #[v, .int .i64 k] w fun e w' => e = .returned (.int .i64 (k + wGs l)) ∧ Below w.heap.size w w' := by
  have HV : Hid (∀ wi, Below w.heap.size w wi → GonesV wi v (mkGones k l)) := fun wi h => hv.below keepsGone h
  obtain ⟨a, cap, rfl, hlc, hcm⟩ := hv.form
  have hlen : (mkGones k l).length = l.length := length_mks
  rw [hlen] at hlc
  simp only [hlen] at HV ⊢
  clear hv
  have HWQ := (show Hid _ from wGs_eq l)
  go_enter Tryd.func43, Tryd.ntmps43
  go_wp2
  go_loopw [1, 5] (fun q i wr => ∃ j : Nat, j ≤ l.length ∧ i = .int .i64 j ∧ q = .int .i64 (k + (pre (wtAt zGone wtGone l) j : Nat)) ∧ Hid (Below w.heap.size w wr)) (fun _ i _ => l.length - (intOf i).toNat)
  case atStart => exact ⟨0, Nat.zero_le _, rfl, by simp [pre], Below.refl _ _⟩
  case round =>
    obtain ⟨j, hj, rfl, rfl, hW⟩ := hrel
    by_cases hlt : j < l.length
    · obtain ⟨x, hx⟩ : ∃ x, l[j]? = some x := ⟨l[j], List.getElem?_eq_getElem hlt⟩
      have hp1 : pre (wtAt zGone wtGone l) (j + 1) = pre (wtAt zGone wtGone l) j + 2 := pre_step hx
      have hpj : pre (wtAt zGone wtGone l) j ≤ wGs l := pre_le (Nat.le_of_lt hlt)
      have hn := mks_get (z := zGone) (mk := mkGone) (wt := wtGone) (k := k) hx
      generalize pre (wtAt zGone wtGone l) j = P at hpj hp1 hn
      have hP : (P : Int) ≤ 4000000 := by have := HWQ.out; omega
      obtain ⟨b, off, cap', hv', hlb, d0, d1, -⟩ := GonesV.cell (HV.out wr hW.out) j _ hn
      simp only [hlen, Value.slice.injEq, true_and] at hv'
      obtain ⟨rfl, rfl⟩ := hv'
      simp only [mkGone] at d0 d1
      clear hn hx
      go_wp2
      go_roundw
      case rel => exact ⟨j + 1, by omega, by go_num, by rw [hp1]; go_num, hW⟩
      case measure => simp [intOf]; omega
    · go_wp2
      go_ret
      obtain rfl : j = l.length := by omega
      exact ⟨rfl, hW.out⟩

end Go.Proofs.YthnlbhmecokomaaDoor

/- What heldBoxS of package laws do of what was marked. -/
namespace Go.Proofs.YthnlbhmecokomaaDoor
open Go.RowKit
set_option maxRecDepth 100000
set_option linter.unusedVariables false

set_option maxRecDepth 100000 in
set_option maxHeartbeats 2000000 in
theorem heldBoxS_any (v : Value) (l : List BoxD) (k : Int) (w : World) (hv : BoxesV w v (mkBoxes k l)) (hs : szXs l ≤ 2000000) (hk0 : 0 ≤ k) (hk1 : k ≤ 10000000000) :
    Calls Tryd.prog 22 #[v, .int .i64 k] w fun e w' => e = .returned (.int .i64 (k + wXs l)) ∧ Below w.heap.size w w' := by
  have HV : Hid (∀ wi, Below w.heap.size w wi → BoxesV wi v (mkBoxes k l)) := fun wi h => hv.below keepsBox h
  obtain ⟨a, cap, rfl, hlc, hcm⟩ := hv.form
  have hlen : (mkBoxes k l).length = l.length := length_mks
  rw [hlen] at hlc
  simp only [hlen] at HV ⊢
  clear hv
  have hl : l.length ≤ 2000000 := Nat.le_trans (szXs_len l) hs
  have HWQ : Hid (wXs l ≤ 8000000) := by have := wXs_le l; unfold Hid; omega
  go_enter Tryd.func22, Tryd.ntmps22
  go_wp2
  go_loopw [1, 5] (fun q i wr => ∃ j : Nat, j ≤ l.length ∧ i = .int .i64 j ∧ q = .int .i64 (k + (pre (wtAt zBox wtBox l) j : Nat)) ∧ Hid (Below w.heap.size w wr)) (fun _ i _ => l.length - (intOf i).toNat)
  case atStart => exact ⟨0, Nat.zero_le _, rfl, by simp [pre], Below.refl _ _⟩
  case round =>
    obtain ⟨j, hj, rfl, rfl, hW⟩ := hrel
    by_cases hlt : j < l.length
    · obtain ⟨x, hx⟩ : ∃ x, l[j]? = some x := ⟨l[j], List.getElem?_eq_getElem hlt⟩
      have hp1 : pre (wtAt zBox wtBox l) (j + 1) = pre (wtAt zBox wtBox l) j + wtBox x := pre_step hx
      have hpj : pre (wtAt zBox wtBox l) (j + 1) ≤ wXs l := pre_le hlt
      have hn := mks_get (z := zBox) (mk := mkBox) (wt := wtBox) (k := k) hx
      generalize pre (wtAt zBox wtBox l) j = P at hpj hp1 hn
      have hxs := szXs_mem (List.mem_of_getElem? hx)
      have hx0 : x.name.length ≤ 2000000 := by simp only [szX] at hxs; omega
      have hx1 : szM x.mails ≤ 2000000 := by simp only [szX] at hxs; omega
      have hx2 : x.gones.length ≤ 2000000 := by simp only [szX] at hxs; omega
      have hwt : wtBox x = x.name.length + 3 + wMs x.mails + wGs x.gones + 1 := rfl
      have hP : (P : Int) ≤ 8000000 := by have := HWQ.out; omega
      have hPm : (wMs x.mails : Int) ≤ 8000000 := by have := HWQ.out; omega
      have hPg : (wGs x.gones : Int) ≤ 8000000 := by have := HWQ.out; omega
      have HC : Hid (∀ wi, Below wr.heap.size wr wi → ∃ b off u0 u1 u2, a = some ⟨b, off, none⟩ ∧ b < wi.heap.size ∧ wi.cell? ⟨b, off + j * 7, none⟩ = some u0 ∧ wi.cell? ⟨b, off + j * 7 + 1, none⟩ = some (.int .i64 (k + P + x.name.length)) ∧ wi.cell? ⟨b, off + j * 7 + 2, none⟩ = some (.int .i64 (k + P + x.name.length + 1)) ∧ wi.cell? ⟨b, off + j * 7 + 3, none⟩ = some (.int .i64 (k + P + x.name.length + 2)) ∧ wi.cell? ⟨b, off + j * 7 + 4, none⟩ = some u1 ∧ wi.cell? ⟨b, off + j * 7 + 5, none⟩ = some u2 ∧ wi.cell? ⟨b, off + j * 7 + 6, none⟩ = some (.int .i64 (k + P + x.name.length + 3 + wMs x.mails + wGs x.gones)) ∧ Bs wi u0 (marks (k + P) x.name.length) ∧ MailsV wi u1 (mkMails (k + P + x.name.length + 3) x.mails) ∧ GonesV wi u2 (mkGones (k + P + x.name.length + 3 + wMs x.mails) x.gones)) := by
        intro wi h
        obtain ⟨b, off, cap', u0, u1, u2, hv', hlb, d0, d1, d2, d3, d4, d5, d6, g0, g1, g2, -⟩ := BoxesV.cell (HV.out wi (Below.step hW.out h)) j _ hn
        simp only [hlen, Value.slice.injEq, true_and] at hv'
        obtain ⟨rfl, rfl⟩ := hv'
        exact ⟨b, off, u0, u1, u2, rfl, hlb, d0, d1, d2, d3, d4, d5, d6, g0, g1, g2⟩
      obtain ⟨b, off, u0, u1, u2, rfl, hlb, d0, d1, d2, d3, d4, d5, d6, g0, g1, g2⟩ := HC.out wr (Below.refl _ _)
      obtain ⟨a0, n0, c0, rfl⟩ := g0.form3
      obtain ⟨a1, c1, rfl, -⟩ := g1.form
      obtain ⟨a2, c2, rfl, -⟩ := g2.form
      have HG : Hid (∀ wi, Below wr.heap.size wr wi → Bs wi (.slice a0 n0 c0) (marks (k + P) x.name.length) ∧ MailsV wi (.slice a1 (mkMails (k + P + x.name.length + 3) x.mails).length c1) (mkMails (k + P + x.name.length + 3) x.mails) ∧ GonesV wi (.slice a2 (mkGones (k + P + x.name.length + 3 + wMs x.mails) x.gones).length c2) (mkGones (k + P + x.name.length + 3 + wMs x.mails) x.gones)) := fun wi h => ⟨g0.below h, g1.below keepsMail h, g2.below keepsGone h⟩
      clear g0 g1 g2 hn hx HC hxs
      have HD : Hid (wr.cell? ⟨b, off + j * 7 + 1, none⟩ = some (.int .i64 (k + P + x.name.length)) ∧ wr.cell? ⟨b, off + j * 7 + 2, none⟩ = some (.int .i64 (k + P + x.name.length + 1)) ∧ wr.cell? ⟨b, off + j * 7 + 3, none⟩ = some (.int .i64 (k + P + x.name.length + 2)) ∧ wr.cell? ⟨b, off + j * 7 + 4, none⟩ = some (.slice a1 (mkMails (k + P + x.name.length + 3) x.mails).length c1) ∧ wr.cell? ⟨b, off + j * 7 + 5, none⟩ = some (.slice a2 (mkGones (k + P + x.name.length + 3 + wMs x.mails) x.gones).length c2) ∧ wr.cell? ⟨b, off + j * 7 + 6, none⟩ = some (.int .i64 (k + P + x.name.length + 3 + wMs x.mails + wGs x.gones))) := ⟨d1, d2, d3, d4, d5, d6⟩
      clear d1 d2 d3 d4 d5 d6
      go_wp2_with fail
      refine (heldByteS_yes _ x.name.length (k + P) _ (HG.out _ (Below.refl _ _)).1 hx0 (by omega) (by omega)).mono ?_
      rintro e w1 ⟨rfl, B1⟩
      have C1 := B1
      have hl1 : b < w1.heap.size := Nat.lt_of_lt_of_le hlb B1.size
      have d1 := (B1.cell (p := ⟨b, off + j * 7 + 1, none⟩) hlb).trans HD.out.1
      have d2 := (B1.cell (p := ⟨b, off + j * 7 + 2, none⟩) hlb).trans HD.out.2.1
      have d3 := (B1.cell (p := ⟨b, off + j * 7 + 3, none⟩) hlb).trans HD.out.2.2.1
      have d4 := (B1.cell (p := ⟨b, off + j * 7 + 4, none⟩) hlb).trans HD.out.2.2.2.1
      have e2 : (k + (P : Int) + x.name.length + 1 + 1) = k + P + x.name.length + 2 := by omega
      have e3 : (k + (P : Int) + x.name.length + 2 + 1) = k + P + x.name.length + 3 := by omega
      clear d0 B1
      go_wp2_with fail
      refine (heldMailS_any _ x.mails (k + P + x.name.length + 3) _ (HG.out _ C1).2.1 hx1 (by omega) (by omega)).mono ?_
      rintro e w2 ⟨rfl, B2⟩
      have C2 := Below.step C1 B2
      have hl2 : b < w2.heap.size := Nat.lt_of_lt_of_le hlb C2.size
      have d5 := (C2.cell (p := ⟨b, off + j * 7 + 5, none⟩) hlb).trans HD.out.2.2.2.2.1
      clear d1 d2 d3 d4 B2 C1 hl1 e2 e3
      go_wp2_with fail
      refine (heldGoneS_any _ x.gones (k + P + x.name.length + 3 + wMs x.mails) _ (HG.out _ C2).2.2 hx2 (by omega) (by omega)).mono ?_
      rintro e w3 ⟨rfl, B3⟩
      have C3 := Below.step C2 B3
      have hl3 : b < w3.heap.size := Nat.lt_of_lt_of_le hlb C3.size
      have d6 := (C3.cell (p := ⟨b, off + j * 7 + 6, none⟩) hlb).trans HD.out.2.2.2.2.2
      have HW3 : Hid (Below w.heap.size w w3) := Below.step hW.out C3
      clear d5 B3 C2 C3 HG HD hl2
      go_wp2
      go_roundw
      case rel => exact ⟨j + 1, by omega, by go_num, by rw [hp1, hwt]; go_num, HW3⟩
      case measure => simp [intOf]; omega
    · go_wp2
      go_ret
      obtain rfl : j = l.length := by omega
      exact ⟨rfl, hW.out⟩

end Go.Proofs.YthnlbhmecokomaaDoor

/- What heldIntS of package laws do of what was marked. -/
namespace Go.Proofs.YthnlbhmecokomaaDoor
open Go.RowKit
set_option maxRecDepth 100000
set_option linter.unusedVariables false

set_option maxRecDepth 100000 in
set_option maxHeartbeats 1000000 in
theorem heldIntS_any (v : Value) (l : List Int) (k : Int) (w : World) (hv : IntsV w v (mkInts k l)) (hl : l.length ≤ 2000000) (hk0 : 0 ≤ k) (hk1 : k ≤ 100000000000) :
    Calls Tryd.prog 23 #[v, .int .i64 k] w fun e w' => e = .returned (.int .i64 (k + wIs l)) ∧ Below w.heap.size w w' := by
  have HV : Hid (∀ wi, Below w.heap.size w wi → IntsV wi v (mkInts k l)) := fun wi h => hv.below keepsInt h
  obtain ⟨a, cap, rfl, hlc, hcm⟩ := hv.form
  have hlen : (mkInts k l).length = l.length := length_mks
  rw [hlen] at hlc
  simp only [hlen] at HV ⊢
  clear hv
  have HWQ := (show Hid _ from wIs_eq l)
  go_enter Tryd.func23, Tryd.ntmps23
  go_wp2
  go_loopw [1, 5] (fun q i wr => ∃ j : Nat, j ≤ l.length ∧ i = .int .i64 j ∧ q = .int .i64 (k + (pre (wtAt 0 wtInt l) j : Nat)) ∧ Hid (Below w.heap.size w wr)) (fun _ i _ => l.length - (intOf i).toNat)
  case atStart => exact ⟨0, Nat.zero_le _, rfl, by simp [pre], Below.refl _ _⟩
  case round =>
    obtain ⟨j, hj, rfl, rfl, hW⟩ := hrel
    by_cases hlt : j < l.length
    · obtain ⟨x, hx⟩ : ∃ x, l[j]? = some x := ⟨l[j], List.getElem?_eq_getElem hlt⟩
      have hp1 : pre (wtAt 0 wtInt l) (j + 1) = pre (wtAt 0 wtInt l) j + 1 := pre_step hx
      have hpj : pre (wtAt 0 wtInt l) j ≤ wIs l := pre_le (Nat.le_of_lt hlt)
      have hn := mks_get (z := 0) (mk := mkInt) (wt := wtInt) (k := k) hx
      generalize pre (wtAt 0 wtInt l) j = P at hpj hp1 hn
      have hP : (P : Int) ≤ 4000000 := by have := HWQ.out; omega
      obtain ⟨b, off, cap', hv', hlb, d0, -⟩ := IntsV.cell (HV.out wr hW.out) j _ hn
      simp only [hlen, Value.slice.injEq, true_and] at hv'
      obtain ⟨rfl, rfl⟩ := hv'
      simp only [mkInt] at d0
      clear hn hx
      go_wp2
      go_roundw
      case rel => exact ⟨j + 1, by omega, by go_num, by rw [hp1]; go_num, hW⟩
      case measure => simp [intOf]; omega
    · go_wp2
      go_ret
      obtain rfl : j = l.length := by omega
      exact ⟨rfl, hW.out⟩

end Go.Proofs.YthnlbhmecokomaaDoor

/- What heldAccount of package laws do of what was marked. -/
namespace Go.Proofs.YthnlbhmecokomaaDoor
open Go.RowKit
set_option maxRecDepth 100000
set_option linter.unusedVariables false

set_option maxRecDepth 100000 in
set_option maxHeartbeats 1000000 in
theorem heldAccount_any (v : Value) (x : AccD) (k : Int) (w : World) (hv : AccV w v (mkAcc k x)) (hs : szXs x.boxes ≤ 2000000) (hl : x.seen.length ≤ 2000000) (hk0 : 0 ≤ k) (hk1 : k ≤ 1000000000) :
    Calls Tryd.prog 11 #[v, .int .i64 k] w fun e w' => e = .returned (.int .i64 (k + wXs x.boxes + wIs x.seen)) ∧ Below w.heap.size w w' := by
  obtain ⟨u0, u1, rfl, g0, g1, i0⟩ := hv
  have hb : wXs x.boxes ≤ 8000000 := by have := wXs_le x.boxes; omega
  have HWI : Hid (wIs x.seen ≤ 2000000) := by have := wIs_eq x.seen; unfold Hid; omega
  obtain ⟨a0, c0, rfl, -⟩ := g0.form
  obtain ⟨a1, c1, rfl, -⟩ := g1.form
  have HG : Hid (∀ wi, Below w.heap.size w wi → BoxesV wi (.slice a0 (mkAcc k x).boxes.length c0) (mkAcc k x).boxes ∧ IntsV wi (.slice a1 (mkAcc k x).seen.length c1) (mkAcc k x).seen) := fun wi h => ⟨g0.below keepsBox h, g1.below keepsInt h⟩
  clear g0 g1
  generalize (mkAcc k x).boxes.length = nb at HG
  generalize (mkAcc k x).seen.length = ns at HG
  have HX : Hid (Below w.heap.size w (w.alloc (.cells #[.int .i64 (mkAcc k x).valid, .slice a0 nb c0, .slice a1 ns c1] 26))) := (Below.refl _ _).alloc (Nat.le_refl _) _
  have HK : Hid ((w.alloc (.cells #[.int .i64 (mkAcc k x).valid, .slice a0 nb c0, .slice a1 ns c1] 26)).heap[w.heap.size]? = some (.cells #[.int .i64 (mkAcc k x).valid, .slice a0 nb c0, .slice a1 ns c1] 26)) := box_new w _
  obtain ⟨f0, f1, f2⟩ := bx3 HK.out
  have hlA := lt_of_heap HK.out
  go_enter Tryd.func11, Tryd.ntmps11
  go_wp2_with fail
  refine (heldBoxS_any _ x.boxes k _ (HG.out _ HX.out).1 hs hk0 (by omega)).mono ?_
  rintro e w1 ⟨rfl, B1⟩
  have C1 := Below.step HX.out B1
  have K1 := box_below B1 HK.out
  clear f0 f1 f2 hlA B1 HK
  obtain ⟨f0, f1, f2⟩ := bx3 K1
  have hlA := lt_of_heap K1
  go_wp2_with fail
  refine (heldIntS_any _ x.seen (k + wXs x.boxes) _ (HG.out _ C1).2 hl (by omega) (by omega)).mono ?_
  rintro e w2 ⟨rfl, B2⟩
  have HB2 : Hid (Below w.heap.size w w2) := Below.step C1 B2
  clear f0 f1 f2 hlA K1 C1 B2 HG
  go_wp2
  go_ret
  exact ⟨rfl, HB2.out⟩

end Go.Proofs.YthnlbhmecokomaaDoor

/- What eqMail, eqMailS, eqGone, eqGoneS, eqBox of package laws do. -/
namespace Go.Proofs.YthnlbhmecokomaaDoor
open Go.RowKit
set_option maxRecDepth 100000
set_option linter.unusedVariables false

set_option maxRecDepth 100000 in
set_option maxHeartbeats 1000000 in
theorem eqMail_yes (v u : Value) (x : MailD) (w : World) (hv : MailV w v x) (hu : MailV w u x) :
    Calls Tryd.prog 71 #[v, u] w fun e w' => e = .returned (.bool true) ∧ Below w.heap.size w w' := by
  obtain ⟨u0, rfl, g0, -⟩ := hv
  obtain ⟨u1, rfl, g1, -⟩ := hu
  obtain ⟨uid, flags, seq, text⟩ := x
  simp only at g0 g1
  have H0 : Hid (∀ wi, Below w.heap.size w wi → Bs wi u0 text ∧ Bs wi u1 text) := fun wi h => ⟨g0.below h, g1.below h⟩
  obtain ⟨a0, n0, c0, rfl⟩ := g0.form3
  obtain ⟨a1, n1, c1, rfl⟩ := g1.form3
  clear g0 g1
  simp only
  obtain ⟨kA, kB, X⟩ := boxes2 w (.cells #[.int .i64 uid, .int .i64 flags, .int .i64 seq, .slice a0 n0 c0] 73) (.cells #[.int .i64 uid, .int .i64 flags, .int .i64 seq, .slice a1 n1 c1] 73)
  go_enter Tryd.func71, Tryd.ntmps71
  go_wp2_with fail
  refine (eqByteS_yes _ _ text _ (H0.out _ X).1 (H0.out _ X).2).mono ?_
  rintro e w1 ⟨rfl, B⟩
  replace X := Below.step X B
  replace kA := box_below B kA
  replace kB := box_below B kB
  clear B
  obtain ⟨f0, f1, f2, f3⟩ := bx4 kA
  obtain ⟨e0, e1, e2, e3⟩ := bx4 kB
  go_wp2
  go_ret
  exact ⟨rfl, X⟩

set_option maxRecDepth 100000 in
set_option maxHeartbeats 1000000 in
theorem eqMailS_yes (v u : Value) (l : List MailD) (w : World) (hv : MailsV w v l) (hu : MailsV w u l) :
    Calls Tryd.prog 59 #[v, u] w fun e w' => e = .returned (.bool true) ∧ Below w.heap.size w w' := by
  have HV : Hid (∀ wi, Below w.heap.size w wi → MailsV wi v l ∧ MailsV wi u l) := fun wi h => ⟨hv.below keepsMail h, hu.below keepsMail h⟩
  obtain ⟨a, cap, rfl, hlc, hcm⟩ := hv.form
  obtain ⟨a2, cap2, rfl, hlc2, hcm2⟩ := hu.form
  clear hv hu
  go_enter Tryd.func59, Tryd.ntmps59
  go_wp2
  go_loopw [5] (fun i wr => ∃ k : Nat, k ≤ l.length ∧ i = .int .i64 k ∧ Hid (Below w.heap.size w wr)) (fun i _ => l.length - (intOf i).toNat)
  case atStart => exact ⟨0, Nat.zero_le _, rfl, Below.refl _ _⟩
  case round =>
    obtain ⟨k, hk, rfl, hB⟩ := hrel
    by_cases hlt : k < l.length
    · obtain ⟨x, hx⟩ : ∃ x, l[k]? = some x := ⟨l[k], List.getElem?_eq_getElem hlt⟩
      have DR : Below wr.heap.size wr wr.drew := (Below.refl _ _).drew
      obtain ⟨b, off, cap', u, hv', hlb, d0, d1, d2, d3, hu, i0, i1, i2⟩ := MailsV.cell (HV.out wr hB.out).1 k x hx
      obtain ⟨b2, off2, cap2', u2, hv2, hlb2, z0, z1, z2, z3, hu2, j0, j1, j2⟩ := MailsV.cell (HV.out wr hB.out).2 k x hx
      simp only [Value.slice.injEq, true_and] at hv' hv2
      obtain ⟨rfl, rfl⟩ := hv'
      obtain ⟨rfl, rfl⟩ := hv2
      obtain ⟨ua, un, uc, rfl⟩ := hu.form3
      obtain ⟨ta, tn, tc, rfl⟩ := hu2.form3
      have HA : Hid (MailV wr.drew (.agg #[.int .i64 x.uid, .int .i64 x.flags, .int .i64 x.seq, .slice ua un uc]) x ∧ MailV wr.drew (.agg #[.int .i64 x.uid, .int .i64 x.flags, .int .i64 x.seq, .slice ta tn tc]) x) := ⟨⟨_, rfl, hu.below DR, i0, i1, i2⟩, ⟨_, rfl, hu2.below DR, j0, j1, j2⟩⟩
      go_wp2
      go_region_held3 (fun w' => w'.cell? ⟨b, off + k * 4, none⟩ = some (.int .i64 x.uid) ∧ w'.cell? ⟨b, off + k * 4 + 1, none⟩ = some (.int .i64 x.flags) ∧ w'.cell? ⟨b, off + k * 4 + 2, none⟩ = some (.int .i64 x.seq) ∧ w'.cell? ⟨b, off + k * 4 + 3, none⟩ = some (.slice ua un uc) ∧ w'.cell? ⟨b2, off2 + k * 4, none⟩ = some (.int .i64 x.uid) ∧ w'.cell? ⟨b2, off2 + k * 4 + 1, none⟩ = some (.int .i64 x.flags) ∧ w'.cell? ⟨b2, off2 + k * 4 + 2, none⟩ = some (.int .i64 x.seq) ∧ w'.cell? ⟨b2, off2 + k * 4 + 3, none⟩ = some (.slice ta tn tc))
        (first | go_keep | exact ⟨d0, d1, d2, d3, z0, z1, z2, z3⟩ | exact ⟨(B.cell (p := ⟨_, _, none⟩) (by exact hlb)).trans d0, (B.cell (p := ⟨_, _, none⟩) (by exact hlb)).trans d1, (B.cell (p := ⟨_, _, none⟩) (by exact hlb)).trans d2, (B.cell (p := ⟨_, _, none⟩) (by exact hlb)).trans d3, (B.cell (p := ⟨_, _, none⟩) (by exact hlb2)).trans z0, (B.cell (p := ⟨_, _, none⟩) (by exact hlb2)).trans z1, (B.cell (p := ⟨_, _, none⟩) (by exact hlb2)).trans z2, (B.cell (p := ⟨_, _, none⟩) (by exact hlb2)).trans z3⟩)
        ((go_at_call 71; refine (eqMail_yes _ _ x _ HA.out.1 HA.out.2).mono ?_; rintro e w1 ⟨rfl, B⟩))
      have HB2 : Hid (Below w.heap.size w w1) := Below.step (Below.step hB.out DR) B
      clear d0 d1 d2 d3 z0 z1 z2 z3 B hB
      go_wp2
      go_roundw
      case rel => exact ⟨k + 1, by omega, by go_num, HB2⟩
      case measure => simp [intOf]; omega
    · go_wp2
      go_ret
      exact ⟨rfl, hB.out⟩

set_option maxRecDepth 100000 in
set_option maxHeartbeats 1000000 in
theorem eqGone_yes (v u : Value) (x : GoneD) (w : World) (hv : v = .agg #[.int .i64 x.uid, .int .i64 x.seq]) (hu : u = .agg #[.int .i64 x.uid, .int .i64 x.seq]) :
    Calls Tryd.prog 72 #[v, u] w fun e w' => e = .returned (.bool true) ∧ Below w.heap.size w w' := by
  subst hv
  subst hu
  obtain ⟨uid, seq⟩ := x
  simp only
  obtain ⟨kA, kB, X⟩ := boxes2 w (.cells #[.int .i64 uid, .int .i64 seq] 75) (.cells #[.int .i64 uid, .int .i64 seq] 75)
  go_enter Tryd.func72, Tryd.ntmps72
  go_wp2
  go_ret
  exact ⟨rfl, X⟩

set_option maxRecDepth 100000 in
set_option maxHeartbeats 1000000 in
theorem eqGoneS_yes (v u : Value) (l : List GoneD) (w : World) (hv : GonesV w v l) (hu : GonesV w u l) :
    Calls Tryd.prog 60 #[v, u] w fun e w' => e = .returned (.bool true) ∧ Below w.heap.size w w' := by
  have HV : Hid (∀ wi, Below w.heap.size w wi → GonesV wi v l ∧ GonesV wi u l) := fun wi h => ⟨hv.below keepsGone h, hu.below keepsGone h⟩
  obtain ⟨a, cap, rfl, hlc, hcm⟩ := hv.form
  obtain ⟨a2, cap2, rfl, hlc2, hcm2⟩ := hu.form
  clear hv hu
  go_enter Tryd.func60, Tryd.ntmps60
  go_wp2
  go_loopw [5] (fun i wr => ∃ k : Nat, k ≤ l.length ∧ i = .int .i64 k ∧ Hid (Below w.heap.size w wr)) (fun i _ => l.length - (intOf i).toNat)
  case atStart => exact ⟨0, Nat.zero_le _, rfl, Below.refl _ _⟩
  case round =>
    obtain ⟨k, hk, rfl, hB⟩ := hrel
    by_cases hlt : k < l.length
    · obtain ⟨x, hx⟩ : ∃ x, l[k]? = some x := ⟨l[k], List.getElem?_eq_getElem hlt⟩
      have DR : Below wr.heap.size wr wr.drew := (Below.refl _ _).drew
      obtain ⟨b, off, cap', hv', hlb, d0, d1, i0, i1⟩ := GonesV.cell (HV.out wr hB.out).1 k x hx
      obtain ⟨b2, off2, cap2', hv2, hlb2, z0, z1, j0, j1⟩ := GonesV.cell (HV.out wr hB.out).2 k x hx
      simp only [Value.slice.injEq, true_and] at hv' hv2
      obtain ⟨rfl, rfl⟩ := hv'
      obtain ⟨rfl, rfl⟩ := hv2
      have HA : Hid (True) := trivial
      go_wp2
      go_region_held3 (fun w' => w'.cell? ⟨b, off + k * 2, none⟩ = some (.int .i64 x.uid) ∧ w'.cell? ⟨b, off + k * 2 + 1, none⟩ = some (.int .i64 x.seq) ∧ w'.cell? ⟨b2, off2 + k * 2, none⟩ = some (.int .i64 x.uid) ∧ w'.cell? ⟨b2, off2 + k * 2 + 1, none⟩ = some (.int .i64 x.seq))
        (first | go_keep | exact ⟨d0, d1, z0, z1⟩ | exact ⟨(B.cell (p := ⟨_, _, none⟩) (by exact hlb)).trans d0, (B.cell (p := ⟨_, _, none⟩) (by exact hlb)).trans d1, (B.cell (p := ⟨_, _, none⟩) (by exact hlb2)).trans z0, (B.cell (p := ⟨_, _, none⟩) (by exact hlb2)).trans z1⟩)
        ((go_at_call 72; refine (eqGone_yes _ _ x _ rfl rfl).mono ?_; rintro e w1 ⟨rfl, B⟩))
      have HB2 : Hid (Below w.heap.size w w1) := Below.step (Below.step hB.out DR) B
      clear d0 d1 z0 z1 B hB
      go_wp2
      go_roundw
      case rel => exact ⟨k + 1, by omega, by go_num, HB2⟩
      case measure => simp [intOf]; omega
    · go_wp2
      go_ret
      exact ⟨rfl, hB.out⟩

set_option maxRecDepth 100000 in
set_option maxHeartbeats 1000000 in
theorem eqBox_yes (v u : Value) (x : BoxD) (w : World) (hv : BoxV w v x) (hu : BoxV w u x) :
    Calls Tryd.prog 38 #[v, u] w fun e w' => e = .returned (.bool true) ∧ Below w.heap.size w w' := by
  obtain ⟨u0, u1, u2, rfl, g0, g1, g2, -⟩ := hv
  obtain ⟨u3, u4, u5, rfl, g3, g4, g5, -⟩ := hu
  obtain ⟨name, valid, next, seq, mails, gones, lost⟩ := x
  simp only at g0 g1 g2 g3 g4 g5
  have H0 : Hid (∀ wi, Below w.heap.size w wi → (Bs wi u0 name ∧ Bs wi u3 name) ∧ (MailsV wi u1 mails ∧ MailsV wi u4 mails) ∧ (GonesV wi u2 gones ∧ GonesV wi u5 gones)) := fun wi h => ⟨⟨g0.below h, g3.below h⟩, ⟨g1.below keepsMail h, g4.below keepsMail h⟩, ⟨g2.below keepsGone h, g5.below keepsGone h⟩⟩
  obtain ⟨a0, n0, c0, rfl⟩ := g0.form3
  obtain ⟨a1, c1, rfl, -⟩ := g1.form
  obtain ⟨a2, c2, rfl, -⟩ := g2.form
  obtain ⟨a3, n3, c3, rfl⟩ := g3.form3
  obtain ⟨a4, c4, rfl, -⟩ := g4.form
  obtain ⟨a5, c5, rfl, -⟩ := g5.form
  clear g0 g1 g2 g3 g4 g5
  simp only
  obtain ⟨kA, kB, X⟩ := boxes2 w (.cells #[.slice a0 n0 c0, .int .i64 valid, .int .i64 next, .int .i64 seq, .slice a1 mails.length c1, .slice a2 gones.length c2, .int .i64 lost] 53) (.cells #[.slice a3 n3 c3, .int .i64 valid, .int .i64 next, .int .i64 seq, .slice a4 mails.length c4, .slice a5 gones.length c5, .int .i64 lost] 53)
  go_enter Tryd.func38, Tryd.ntmps38
  go_wp2_with fail
  refine (eqByteS_yes _ _ name _ (H0.out _ X).1.1 (H0.out _ X).1.2).mono ?_
  rintro e w1 ⟨rfl, B⟩
  replace X := Below.step X B
  replace kA := box_below B kA
  replace kB := box_below B kB
  clear B
  obtain ⟨f0, f1, f2, f3, f4, f5, f6⟩ := bx7 kA
  obtain ⟨e0, e1, e2, e3, e4, e5, e6⟩ := bx7 kB
  go_wp2_with fail
  clear f0 e0 f1 e1 f2 e2 f3 e3 f4 e4 f5 e5 f6 e6
  refine (eqMailS_yes _ _ mails _ (H0.out _ X).2.1.1 (H0.out _ X).2.1.2).mono ?_
  rintro e w2 ⟨rfl, B⟩
  replace X := Below.step X B
  replace kA := box_below B kA
  replace kB := box_below B kB
  clear B
  obtain ⟨f0, f1, f2, f3, f4, f5, f6⟩ := bx7 kA
  obtain ⟨e0, e1, e2, e3, e4, e5, e6⟩ := bx7 kB
  go_wp2_with fail
  clear f0 e0 f1 e1 f2 e2 f3 e3 f4 e4 f5 e5 f6 e6
  refine (eqGoneS_yes _ _ gones _ (H0.out _ X).2.2.1 (H0.out _ X).2.2.2).mono ?_
  rintro e w3 ⟨rfl, B⟩
  replace X := Below.step X B
  replace kA := box_below B kA
  replace kB := box_below B kB
  clear B
  obtain ⟨f0, f1, f2, f3, f4, f5, f6⟩ := bx7 kA
  obtain ⟨e0, e1, e2, e3, e4, e5, e6⟩ := bx7 kB
  go_wp2
  go_ret
  exact ⟨rfl, X⟩

end Go.Proofs.YthnlbhmecokomaaDoor

/- What eqBoxS, eqIntS, eqAccount of package laws do. -/
namespace Go.Proofs.YthnlbhmecokomaaDoor
open Go.RowKit
set_option maxRecDepth 100000
set_option linter.unusedVariables false

set_option maxRecDepth 100000 in
set_option maxHeartbeats 1000000 in
theorem eqIntS_yes (v u : Value) (l : List Int) (w : World) (hv : IntsV w v l) (hu : IntsV w u l) :
    Calls Tryd.prog 19 #[v, u] w fun e w' => e = .returned (.bool true) ∧ Below w.heap.size w w' := by
  have HV : Hid (∀ wi, Below w.heap.size w wi → IntsV wi v l ∧ IntsV wi u l) := fun wi h => ⟨hv.below keepsInt h, hu.below keepsInt h⟩
  obtain ⟨a, cap, rfl, hlc, hcm⟩ := hv.form
  obtain ⟨a2, cap2, rfl, hlc2, hcm2⟩ := hu.form
  clear hv hu
  go_enter Tryd.func19, Tryd.ntmps19
  go_wp2
  go_loopw [5] (fun i wr => ∃ k : Nat, k ≤ l.length ∧ i = .int .i64 k ∧ Hid (Below w.heap.size w wr)) (fun i _ => l.length - (intOf i).toNat)
  case atStart => exact ⟨0, Nat.zero_le _, rfl, Below.refl _ _⟩
  case round =>
    obtain ⟨k, hk, rfl, hB⟩ := hrel
    by_cases hlt : k < l.length
    · obtain ⟨x, hx⟩ : ∃ x, l[k]? = some x := ⟨l[k], List.getElem?_eq_getElem hlt⟩
      obtain ⟨b, off, cap', hv', hlb, d0, i0⟩ := IntsV.cell (HV.out wr hB.out).1 k x hx
      obtain ⟨b2, off2, cap2', hv2, hlb2, z0, j0⟩ := IntsV.cell (HV.out wr hB.out).2 k x hx
      simp only [Value.slice.injEq, true_and] at hv' hv2
      obtain ⟨rfl, rfl⟩ := hv'
      obtain ⟨rfl, rfl⟩ := hv2
      go_wp2
      go_quiet (fail)
      go_wp2
      go_roundw
      case rel => exact ⟨k + 1, by omega, by go_num, below_drewN _ hB.out⟩
      case measure => simp [intOf]; omega
    · go_wp2
      go_ret
      exact ⟨rfl, hB.out⟩

set_option maxRecDepth 100000 in
set_option maxHeartbeats 1000000 in
theorem eqBoxS_yes (v u : Value) (l : List BoxD) (w : World) (hv : BoxesV w v l) (hu : BoxesV w u l) :
    Calls Tryd.prog 18 #[v, u] w fun e w' => e = .returned (.bool true) ∧ Below w.heap.size w w' := by
  have HV : Hid (∀ wi, Below w.heap.size w wi → BoxesV wi v l ∧ BoxesV wi u l) := fun wi h => ⟨hv.below keepsBox h, hu.below keepsBox h⟩
  obtain ⟨a, cap, rfl, hlc, hcm⟩ := hv.form
  obtain ⟨a2, cap2, rfl, hlc2, hcm2⟩ := hu.form
  clear hv hu
  go_enter Tryd.func18, Tryd.ntmps18
  go_wp2
  go_loopw [5] (fun i wr => ∃ k : Nat, k ≤ l.length ∧ i = .int .i64 k ∧ Hid (Below w.heap.size w wr)) (fun i _ => l.length - (intOf i).toNat)
  case atStart => exact ⟨0, Nat.zero_le _, rfl, Below.refl _ _⟩
  case round =>
    obtain ⟨k, hk, rfl, hB⟩ := hrel
    by_cases hlt : k < l.length
    · obtain ⟨x, hx⟩ : ∃ x, l[k]? = some x := ⟨l[k], List.getElem?_eq_getElem hlt⟩
      have DR : Below wr.heap.size wr wr.drew := (Below.refl _ _).drew
      obtain ⟨b, off, cap', u0, u1, u2, hv', hlb, d0, d1, d2, d3, d4, d5, d6, hu0, hu1, hu2, i0, i1, i2, i3⟩ := BoxesV.cell (HV.out wr hB.out).1 k x hx
      obtain ⟨b2, off2, cap2', u3, u4, u5, hv2, hlb2, z0, z1, z2, z3, z4, z5, z6, hu3, hu4, hu5, j0, j1, j2, j3⟩ := BoxesV.cell (HV.out wr hB.out).2 k x hx
      simp only [Value.slice.injEq, true_and] at hv' hv2
      obtain ⟨rfl, rfl⟩ := hv'
      obtain ⟨rfl, rfl⟩ := hv2
      obtain ⟨ua, un, uc, rfl⟩ := hu0.form3
      obtain ⟨va, vc, rfl, -⟩ := hu1.form
      obtain ⟨wa, wc, rfl, -⟩ := hu2.form
      obtain ⟨ra, rn, rc, rfl⟩ := hu3.form3
      obtain ⟨sa, sc, rfl, -⟩ := hu4.form
      obtain ⟨ta, tc, rfl, -⟩ := hu5.form
      have HA : Hid (BoxV wr.drew (.agg #[.slice ua un uc, .int .i64 x.valid, .int .i64 x.next, .int .i64 x.seq, .slice va x.mails.length vc, .slice wa x.gones.length wc, .int .i64 x.lost]) x ∧ BoxV wr.drew (.agg #[.slice ra rn rc, .int .i64 x.valid, .int .i64 x.next, .int .i64 x.seq, .slice sa x.mails.length sc, .slice ta x.gones.length tc, .int .i64 x.lost]) x) := ⟨⟨_, _, _, rfl, hu0.below DR, hu1.below keepsMail DR, hu2.below keepsGone DR, i0, i1, i2, i3⟩, ⟨_, _, _, rfl, hu3.below DR, hu4.below keepsMail DR, hu5.below keepsGone DR, j0, j1, j2, j3⟩⟩
      go_wp2
      go_region_held3 (fun w' => w'.cell? ⟨b, off + k * 7, none⟩ = some (.slice ua un uc) ∧ w'.cell? ⟨b, off + k * 7 + 1, none⟩ = some (.int .i64 x.valid) ∧ w'.cell? ⟨b, off + k * 7 + 2, none⟩ = some (.int .i64 x.next) ∧ w'.cell? ⟨b, off + k * 7 + 3, none⟩ = some (.int .i64 x.seq) ∧ w'.cell? ⟨b, off + k * 7 + 4, none⟩ = some (.slice va x.mails.length vc) ∧ w'.cell? ⟨b, off + k * 7 + 5, none⟩ = some (.slice wa x.gones.length wc) ∧ w'.cell? ⟨b, off + k * 7 + 6, none⟩ = some (.int .i64 x.lost) ∧ w'.cell? ⟨b2, off2 + k * 7, none⟩ = some (.slice ra rn rc) ∧ w'.cell? ⟨b2, off2 + k * 7 + 1, none⟩ = some (.int .i64 x.valid) ∧ w'.cell? ⟨b2, off2 + k * 7 + 2, none⟩ = some (.int .i64 x.next) ∧ w'.cell? ⟨b2, off2 + k * 7 + 3, none⟩ = some (.int .i64 x.seq) ∧ w'.cell? ⟨b2, off2 + k * 7 + 4, none⟩ = some (.slice sa x.mails.length sc) ∧ w'.cell? ⟨b2, off2 + k * 7 + 5, none⟩ = some (.slice ta x.gones.length tc) ∧ w'.cell? ⟨b2, off2 + k * 7 + 6, none⟩ = some (.int .i64 x.lost))
        (first | go_keep | exact ⟨d0, d1, d2, d3, d4, d5, d6, z0, z1, z2, z3, z4, z5, z6⟩ | exact ⟨(B.cell (p := ⟨_, _, none⟩) (by exact hlb)).trans d0, (B.cell (p := ⟨_, _, none⟩) (by exact hlb)).trans d1, (B.cell (p := ⟨_, _, none⟩) (by exact hlb)).trans d2, (B.cell (p := ⟨_, _, none⟩) (by exact hlb)).trans d3, (B.cell (p := ⟨_, _, none⟩) (by exact hlb)).trans d4, (B.cell (p := ⟨_, _, none⟩) (by exact hlb)).trans d5, (B.cell (p := ⟨_, _, none⟩) (by exact hlb)).trans d6, (B.cell (p := ⟨_, _, none⟩) (by exact hlb2)).trans z0, (B.cell (p := ⟨_, _, none⟩) (by exact hlb2)).trans z1, (B.cell (p := ⟨_, _, none⟩) (by exact hlb2)).trans z2, (B.cell (p := ⟨_, _, none⟩) (by exact hlb2)).trans z3, (B.cell (p := ⟨_, _, none⟩) (by exact hlb2)).trans z4, (B.cell (p := ⟨_, _, none⟩) (by exact hlb2)).trans z5, (B.cell (p := ⟨_, _, none⟩) (by exact hlb2)).trans z6⟩)
        ((go_at_call 38; refine (eqBox_yes _ _ x _ HA.out.1 HA.out.2).mono ?_; rintro e w1 ⟨rfl, B⟩))
      have HB2 : Hid (Below w.heap.size w w1) := Below.step (Below.step hB.out DR) B
      clear d0 d1 d2 d3 d4 d5 d6 z0 z1 z2 z3 z4 z5 z6 B hB
      go_wp2
      go_roundw
      case rel => exact ⟨k + 1, by omega, by go_num, HB2⟩
      case measure => simp [intOf]; omega
    · go_wp2
      go_ret
      exact ⟨rfl, hB.out⟩

set_option maxRecDepth 100000 in
set_option maxHeartbeats 1000000 in
theorem eqAccount_yes (v u : Value) (x : AccD) (w : World) (hv : AccV w v x) (hu : AccV w u x) :
    Calls Tryd.prog 7 #[v, u] w fun e w' => e = .returned (.bool true) ∧ Below w.heap.size w w' := by
  obtain ⟨u0, u1, rfl, g0, g1, -⟩ := hv
  obtain ⟨u2, u3, rfl, g2, g3, -⟩ := hu
  obtain ⟨valid, boxes, seen⟩ := x
  simp only at g0 g1 g2 g3
  have H0 : Hid (∀ wi, Below w.heap.size w wi → (BoxesV wi u0 boxes ∧ BoxesV wi u2 boxes) ∧ (IntsV wi u1 seen ∧ IntsV wi u3 seen)) := fun wi h => ⟨⟨g0.below keepsBox h, g2.below keepsBox h⟩, ⟨g1.below keepsInt h, g3.below keepsInt h⟩⟩
  obtain ⟨a0, c0, rfl, -⟩ := g0.form
  obtain ⟨a1, c1, rfl, -⟩ := g1.form
  obtain ⟨a2, c2, rfl, -⟩ := g2.form
  obtain ⟨a3, c3, rfl, -⟩ := g3.form
  clear g0 g1 g2 g3
  simp only
  obtain ⟨kA, kB, X⟩ := boxes2 w (.cells #[.int .i64 valid, .slice a0 boxes.length c0, .slice a1 seen.length c1] 26) (.cells #[.int .i64 valid, .slice a2 boxes.length c2, .slice a3 seen.length c3] 26)
  go_enter Tryd.func7, Tryd.ntmps7
  go_wp2_with fail
  refine (eqBoxS_yes _ _ boxes _ (H0.out _ X).1.1 (H0.out _ X).1.2).mono ?_
  rintro e w1 ⟨rfl, B⟩
  replace X := Below.step X B
  replace kA := box_below B kA
  replace kB := box_below B kB
  clear B
  obtain ⟨f0, f1, f2⟩ := bx3 kA
  obtain ⟨e0, e1, e2⟩ := bx3 kB
  go_wp2_with fail
  clear f0 e0 f1 e1 f2 e2
  refine (eqIntS_yes _ _ seen _ (H0.out _ X).2.1 (H0.out _ X).2.2).mono ?_
  rintro e w2 ⟨rfl, B⟩
  replace X := Below.step X B
  replace kA := box_below B kA
  replace kB := box_below B kB
  clear B
  obtain ⟨f0, f1, f2⟩ := bx3 kA
  obtain ⟨e0, e1, e2⟩ := bx3 kB
  go_wp2
  go_ret
  exact ⟨rfl, X⟩

end Go.Proofs.YthnlbhmecokomaaDoor

/- The law FnExactAccountRead, walked out of the contracts. -/
namespace Go.Proofs.YthnlbhmecokomaaDoor
open Go.RowKit
set_option maxRecDepth 100000
set_option linter.unusedVariables false

theorem AccO.keptW {w w' : World} {B T B' T' : Nat} {v : Value} {a : AccD} (h : AccO w (In B T) v a) (hw : Within B' T' w w') (hd : T ≤ B' ∨ T' ≤ B) : AccO w' (In B T) v a :=
  h.frame fun b hb hlt => hw.block b hlt (by have := hb.1; have := hb.2; omega)
theorem out_sz (l : List Int) : szXs (outS l).boxes ≤ 2000000 ∧ (outS l).seen.length ≤ 2000000 := by
  unfold outS
  cases h : okS l with
  | false => exact ⟨by simp [nilA, szXs], by simp [nilA]⟩
  | true =>
    unfold okS at h
    simp only [Bool.and_eq_true] at h
    exact ⟨acc_sz h.2.1, by have := accB_seen h.2.1; simp only; omega⟩

set_option maxRecDepth 100000 in
set_option maxHeartbeats 4000000 in
theorem exactAccountRead_walk (v : Value) (l : List Int) (ea : Addr) (w : World) (hv : Bs w v l) (hE : Gave w ea) :
    Calls Tryd.prog 3 #[v] w fun e w' => e = .returned (.bool true) ∧ Below w.heap.size w w' := by
  have HV : Hid (∀ wi, Below w.heap.size w wi → Bs wi v l) := fun wi h => hv.below h
  have HE : Hid (Gave w ea) := hE
  have hsz := out_sz l
  generalize ha : outS l = a at hsz
  generalize hk : okS l = ok
  have hbb : (ok != ok) = false := by cases ok <;> rfl
  have HA : Hid (outS l = a ∧ okS l = ok ∧ True) := ⟨ha, hk, trivial⟩
  clear ha hk hE
  obtain ⟨va, cap, rfl⟩ := hv.form
  clear hv
  by_cases hlen : 1048576 < l.length
  · go_enter Tryd.func3, Tryd.ntmps3
    go_wp2
    go_ret
    exact ⟨rfl, Below.refl _ _⟩
  go_enter Tryd.func3, Tryd.ntmps3
  go_wp2_with fail
  refine (toByteS_r _ l _ (HV.out _ (Below.refl _ _)) (by omega)).mono ?_
  rintro e w1 ⟨u1, rfl, R1, B⟩
  have X := B
  have s1 : w.heap.size ≤ w1.heap.size := B.size
  obtain ⟨xa, xn, xc, hu1⟩ := (Row.bs R1).form3
  subst hu1
  clear B
  go_wp2_with fail
  refine (specAccountRead_r _ l _ (Row.bs R1) (by omega)).mono ?_
  rintro e w2 ⟨U, rfl, R0, B⟩
  rw [HA.out.1] at R0
  rw [HA.out.2.1]
  replace X := Below.step X B
  have s2 : w1.heap.size ≤ w2.heap.size := B.size
  obtain ⟨p0, pn0, pc0, p1, pn1, pc1, hU⟩ := R0.form
  subst hU
  clear B R1
  go_wp2_with fail
  have AB : Below w2.heap.size w2 (w2.alloc (.cells #[.int .i64 a.valid, .slice p0 pn0 pc0, .slice p1 pn1 pc1] 26)) := (Below.refl _ _).alloc (Nat.le_refl _) _
  have K3 := box_new w2 (.cells #[.int .i64 a.valid, .slice p0 pn0 pc0, .slice p1 pn1 pc1] 26)
  replace R0 := R0.below AB
  replace X := Below.step X AB
  have s3 : (w2.alloc (.cells #[.int .i64 a.valid, .slice p0 pn0 pc0, .slice p1 pn1 pc1] 26)).heap.size = w2.heap.size + 1 := by simp
  generalize hWw3 : w2.alloc (.cells #[.int .i64 a.valid, .slice p0 pn0 pc0, .slice p1 pn1 pc1] 26) = w3 at *
  have Hs3 : Hid _ := s3
  have qs3 : w2.heap.size + 1 ≤ w3.heap.size := by omega
  clear hWw3 AB s3
  refine (toByteS_r _ l _ (HV.out _ X) (by omega)).mono ?_
  rintro e w4 ⟨x0, rfl, RX, B⟩
  replace X := Below.step X B
  replace K3 := box_below B K3
  replace R0 := R0.below B
  have s4 : w3.heap.size ≤ w4.heap.size := B.size
  obtain ⟨ya, yn, yc, hx0⟩ := (Row.bs RX).form3
  subst hx0
  clear B
  go_wp2_with fail
  refine (implAccountRead_r _ l ea _ (Row.bs RX) (HE.out.below X) (by omega)).mono ?_
  rintro e w5 ⟨G, rfl, RG, B⟩
  rw [HA.out.1] at RG
  rw [HA.out.2.1]
  replace X := Below.step X B
  replace K3 := box_below B K3
  replace R0 := R0.below B
  replace RX := RX.below B
  have s5 : w4.heap.size ≤ w5.heap.size := B.size
  obtain ⟨g0, gn0, gc0, g1, gn1, gc1, hG⟩ := RG.form
  subst hG
  clear B
  have AB : Below w5.heap.size w5 (w5.alloc (.cells #[.int .i64 a.valid, .slice g0 gn0 gc0, .slice g1 gn1 gc1] 26)) := (Below.refl _ _).alloc (Nat.le_refl _) _
  have K3' := box_below AB K3
  have K6' := box_new w5 (.cells #[.int .i64 a.valid, .slice g0 gn0 gc0, .slice g1 gn1 gc1] 26)
  obtain ⟨c0, c1, c2⟩ := bx3 K3
  have l3 := lt_of_heap K3
  go_wp2_with fail
  clear c0 c1 c2 l3
  replace R0 := R0.below AB
  replace RG := RG.below AB
  replace RX := RX.below AB
  replace X := Below.step X AB
  have s6 : (w5.alloc (.cells #[.int .i64 a.valid, .slice g0 gn0 gc0, .slice g1 gn1 gc1] 26)).heap.size = w5.heap.size + 1 := by simp
  generalize hW6 : w5.alloc (.cells #[.int .i64 a.valid, .slice g0 gn0 gc0, .slice g1 gn1 gc1] 26) = w6 at *
  have q6 : w5.heap.size + 1 ≤ w6.heap.size := by omega
  clear hW6 AB s6 K3
  have K3 := K3'
  have K6 := K6'
  clear K3' K6'
  refine (eqAccount_yes _ _ a _ RG.v R0.v).mono ?_
  rintro e w7 ⟨rfl, B⟩
  replace X := Below.step X B
  replace K3 := box_below B K3
  replace K6 := box_below B K6
  replace R0 := R0.below B
  replace RG := RG.below B
  replace RX := RX.below B
  have sw7 : w6.heap.size ≤ w7.heap.size := B.size
  clear B
  go_wp2_with fail
  refine (toByteS_r _ l _ (HV.out _ X) (by omega)).mono ?_
  rintro e w8 ⟨x8, rfl, R8, B⟩
  replace X := Below.step X B
  replace K3 := box_below B K3
  replace K6 := box_below B K6
  replace R0 := R0.below B
  replace RG := RG.below B
  replace RX := RX.below B
  have sw8 : w7.heap.size ≤ w8.heap.size := B.size
  clear B
  obtain ⟨ta, tn, tc, hx8⟩ := (Row.bs R8).form3
  subst hx8
  go_wp2_with fail
  refine (eqByteS_yes _ _ l _ (Row.bs RX) (Row.bs R8)).mono ?_
  rintro e w9 ⟨rfl, B⟩
  replace X := Below.step X B
  replace K3 := box_below B K3
  replace K6 := box_below B K6
  replace R0 := R0.below B
  replace RG := RG.below B
  replace RX := RX.below B
  have sw9 : w8.heap.size ≤ w9.heap.size := B.size
  clear B
  clear R8
  go_wp2_with fail
  refine (markByteS_r w3.heap.size w4.heap.size _ l 1 _ RX (by omega) (by omega) (by omega)).mono ?_
  rintro e w10 ⟨rfl, RX2, hg⟩
  have Wi := Row.within RX hg
  replace X := Within.below Wi X (by omega)
  replace K3 := box_within Wi K3 (by omega)
  replace K6 := box_within Wi K6 (by omega)
  replace R0 := R0.keptW Wi (by omega)
  replace RG := RG.keptW Wi (by omega)
  have s10 : w9.heap.size ≤ w10.heap.size := Wi.size
  clear Wi hg RX RX2
  obtain ⟨c0, c1, c2⟩ := bx3 K3
  obtain ⟨d0, d1, d2⟩ := bx3 K6
  have l3 := lt_of_heap K3
  have l6 := lt_of_heap K6
  go_wp2_with fail
  clear c0 c1 c2 d0 d1 d2 l3 l6
  refine (eqAccount_yes _ _ a _ RG.v R0.v).mono ?_
  rintro e w11 ⟨rfl, B⟩
  replace X := Below.step X B
  replace K3 := box_below B K3
  replace K6 := box_below B K6
  replace R0 := R0.below B
  replace RG := RG.below B
  have sw11 : w10.heap.size ≤ w11.heap.size := B.size
  clear B
  obtain ⟨d0, d1, d2⟩ := bx3 K6
  have l6 := lt_of_heap K6
  go_wp2_with fail
  clear d0 d1 d2 l6
  refine (markAccount_w w4.heap.size w5.heap.size _ a 1 _ RG (by omega) hsz.1 hsz.2 (by omega) (by omega)).mono ?_
  rintro e w12 ⟨rfl, RM, Wi⟩
  replace X := Within.below Wi X (by omega)
  replace K3 := box_within Wi K3 (by omega)
  replace K6 := box_within Wi K6 (by omega)
  replace R0 := R0.keptW Wi (by omega)
  have s12 : w11.heap.size ≤ w12.heap.size := Wi.size
  clear Wi RG
  obtain ⟨d0, d1, d2⟩ := bx3 K6
  have l6 := lt_of_heap K6
  go_wp2_with fail
  clear d0 d1 d2 l6
  refine (heldAccount_any _ a 1 _ RM.v hsz.1 hsz.2 (by omega) (by omega)).mono ?_
  rintro e w13 ⟨rfl, B⟩
  replace X := Below.step X B
  replace K3 := box_below B K3
  replace K6 := box_below B K6
  replace R0 := R0.below B
  replace RM := RM.below B
  have sw13 : w12.heap.size ≤ w13.heap.size := B.size
  clear B
  have hmm : ¬ ((1 : Int) + wXs a.boxes + wIs a.seen < 0) := by omega
  go_wp2_with fail
  refine (toByteS_r _ l _ (HV.out _ X) (by omega)).mono ?_
  rintro e w14 ⟨x14, rfl, R14, B⟩
  replace X := Below.step X B
  replace K3 := box_below B K3
  replace K6 := box_below B K6
  replace R0 := R0.below B
  replace RM := RM.below B
  have sw14 : w13.heap.size ≤ w14.heap.size := B.size
  clear B
  obtain ⟨ta, tn, tc, hx14⟩ := (Row.bs R14).form3
  subst hx14
  go_wp2_with fail
  refine (implAccountRead_r _ l ea _ (Row.bs R14) (HE.out.below X) (by omega)).mono ?_
  rintro e w15 ⟨H, rfl, RH, B⟩
  rw [HA.out.1] at RH
  rw [HA.out.2.1]
  replace X := Below.step X B
  replace K3 := box_below B K3
  replace K6 := box_below B K6
  replace R0 := R0.below B
  replace RM := RM.below B
  have sw15 : w14.heap.size ≤ w15.heap.size := B.size
  clear B
  clear R14
  obtain ⟨h0, hn0, hc0, h1, hn1, hc1, hH⟩ := RH.form
  subst hH
  have AB : Below w15.heap.size w15 (w15.alloc (.cells #[.int .i64 a.valid, .slice h0 hn0 hc0, .slice h1 hn1 hc1] 26)) := (Below.refl _ _).alloc (Nat.le_refl _) _
  have K3' := box_below AB K3
  have K6' := box_below AB K6
  obtain ⟨c0, c1, c2⟩ := bx3 K3
  have l3 := lt_of_heap K3
  go_wp2_with fail
  clear c0 c1 c2 l3
  replace R0 := R0.below AB
  replace RM := RM.below AB
  replace RH := RH.below AB
  replace X := Below.step X AB
  generalize hW16 : w15.alloc (.cells #[.int .i64 a.valid, .slice h0 hn0 hc0, .slice h1 hn1 hc1] 26) = w16 at *
  clear hW16 AB K3 K6
  have K3 := K3'
  have K6 := K6'
  clear K3' K6'
  refine (eqAccount_yes _ _ a _ RH.v R0.v).mono ?_
  rintro e w17 ⟨rfl, B⟩
  replace X := Below.step X B
  replace K6 := box_below B K6
  replace RM := RM.below B
  clear B
  obtain ⟨d0, d1, d2⟩ := bx3 K6
  have l6 := lt_of_heap K6
  go_wp2_with fail
  clear d0 d1 d2 l6
  refine (heldAccount_any _ a 1 _ RM.v hsz.1 hsz.2 (by omega) (by omega)).mono ?_
  rintro e w18 ⟨rfl, B⟩
  replace X := Below.step X B
  go_wp2
  go_ret
  exact ⟨rfl, X⟩
end Go.Proofs.YthnlbhmecokomaaDoor

/- From what a row reads of an argument to what the walks ask: a slice of bytes that came in. -/
namespace Go.Proofs.YthnlbhmecokomaaDoor
open Go.ChangeShapes Go.WideShapes Go.ChangeAt Go.RowKit

theorem ownKnob_none : ownKnob Tryd.prog.godebug = none := by kernel_rfl
theorem laidOut : laidOutB Tryd.prog = true := by kernel_rfl

theorem wf_byte {n : Int} (h : (Lit.int .u8 n).wf = true) : 0 ≤ n ∧ n ≤ 255 := bounds_u8 h
theorem wf_int {n : Int} (h : (Lit.int .i64 n).wf = true) : -9223372036854775808 ≤ n ∧ n ≤ 9223372036854775807 := bounds_i64 h

/-- A slice of bytes that came in, as the walks want it. -/
theorem open_bytes {H : Type} {enc : TypeId × Value → H} {W : World} {base : Nat} {a : Option Addr} {len cap : Nat} {d : DataW H} {p : List MemPlace}
    (h : DataW.Trod enc Tryd.prog W base (fun _ => true) true 22 (.slice a len cap) d p) : ∃ l, Bs W (.slice a len cap) l := by
  obtain ⟨fuel, hf⟩ := h
  rcases open_ints Tryd.underlying22 Tryd.underlying5 (by kernel_rfl) hf with ⟨hcs, _⟩ | ⟨x, l, c, zs, hcs, _, hl, hm, hz, _, hcell, hwz⟩
  · simp [Value.cells] at hcs
    obtain ⟨rfl, rfl, rfl⟩ := hcs
    exact ⟨[], oct_nil, none, 0, rfl, by simp, by simp, fun _ => rfl, fun h => absurd h (by simp)⟩
  · simp [Value.cells] at hcs
    obtain ⟨rfl, rfl, rfl⟩ := hcs
    simp at hz
    have ht : (zs.take len).length = len := by simp; omega
    refine ⟨zs.take len, fun x hx => wf_byte (hwz x (List.mem_of_mem_take hx)), some x, cap, by rw [ht], by omega, hm, (fun h => by cases h), fun hp => ?_⟩
    rw [ht] at hp
    obtain ⟨b, off, spot⟩ := x
    have h0 := hcell 0 (by omega)
    have hspot : spot = none := by simpa [Addr.add] using World.cell?_spot h0
    subst hspot
    refine ⟨b, off, rfl, ?_, fun i hi => ?_⟩
    · have := World.block_lt_of_cell? W _ h0
      simpa [Addr.add] using this
    · rw [ht] at hi
      have := hcell i (by omega)
      rw [Addr.add_lit] at this
      rw [this]
      simp [hi]

end Go.Proofs.YthnlbhmecokomaaDoor

/- What the laid variable errGaveUp gives a walk; a world that meets it. -/
namespace Go.Proofs.YthnlbhmecokomaaDoor
open Go.ChangeShapes Go.WideShapes Go.ChangeAt Go.RowKit Go.Stop

theorem gvN : Tryd.prog.globalNamed "loop.example/g00359/impl.errGaveUp" = some 0 := by kernel_rfl
theorem gvType : (Tryd.prog.globals[0]?).map (·.type) = some 81 := by kernel_rfl
theorem cellsE : Tryd.prog.cellsOf 121 = 1 := by kernel_rfl
theorem cellsS : Tryd.prog.cellsOf 9 = 1 := by kernel_rfl
theorem starE : "*" ++ "errors.errorString" = "*errors.errorString" := by decide
theorem rowE (u : TypeId) (h : Tryd.prog.typeName? 3 u = some "*errors.errorString") : u = 104 :=
  typeName_ptr_named (nm := "errors.errorString") (by rw [starE]; kernel_rfl) (by kernel_rfl) (by decide) u (by rw [starE]; exact h)

abbrev laidL : List (String × DataW Unit) := [("loop.example/g00359/impl.errGaveUp", Rows.laid_loop_example_g00359_impl_errGaveUp)]
theorem sent_of_laid {W : World} (h : laidMetH Tryd.prog laidL W) : ∃ ea, W.var? Tryd.prog "loop.example/g00359/impl.errGaveUp" = some #[.iface 104 (.pointer (some ea))] ∧ Gave W ea := by
  have h' : laidMet Tryd.prog laidL W := h
  obtain ⟨ea, s, hv, -⟩ := laid_sentinel h' gvN gvType Tryd.underlying81 rowE Tryd.underlying104 Tryd.underlying121 rfl rfl Tryd.underlying9 cellsE cellsS
  exact ⟨ea, hv, by simpa [Gave] using World.var?_cell gvN hv 0⟩

abbrev gaveS : ByteArray := { data := #[116, 104, 101, 32, 114, 101, 97, 100, 101, 114, 32, 103, 97, 118, 101, 32, 117, 112] }
noncomputable def low : Nat := (World.holding Tryd.prog default ⟨#[], #[], []⟩).heap.size
noncomputable def laidWorld (os : Os) : World :=
  let w0 := World.holding Tryd.prog os ⟨#[.cells #[.string gaveS] 121], #[], []⟩
  { w0 with heap := w0.heap.modify 0 fun
      | .cells _ t frozen => .cells #[.iface 104 (.pointer (some ⟨low, 0, none⟩))] t frozen
      | o => o }
theorem laid_met (os : Os) (args : Array Value) : laidMetH Tryd.prog laidL ((laidWorld os).forCall (fun _ _ => 0) ⟨#[], args, []⟩).memory :=
  laidMet_of_run (l := laidL) (ps := [.cell 0 0, .cell low 0]) 8 (by kernel_rfl) (by kernel_rfl) (by kernel_rfl)

end Go.Proofs.YthnlbhmecokomaaDoor
