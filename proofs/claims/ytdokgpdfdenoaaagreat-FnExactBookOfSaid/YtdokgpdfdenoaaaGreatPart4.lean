/- The proof's texts, part 4. -/
import Derived.Test.YtdokgpdfdenoaaaGreatPart3
import Derived.Deep.RegionHeld3
import Derived.WalkKit
import Derived.Test.YtdokgpdfdenoaaaGreatPart1
import Derived.Lib.Bytealg
import Derived.Test.YtdokgpdfdenoaaaGreatPart2

/- What markRecordS of package laws does of a list of records. -/
namespace Go.Proofs.YtdokgpdfdenoaaaGreat
open Go.RowKit
set_option maxRecDepth 100000
set_option linter.unusedVariables false

def zRec : RecD := ⟨0, 0, 0, ⟨0, [], [], 0, 0, 0, 0, []⟩, ⟨0, [], []⟩⟩
def wtRec (x : RecD) : Nat := 9 + x.cmd.bx.length + x.cmd.tt.length + x.cmd.tx.length + wXs x.acc.boxes + wIs x.acc.seen
def wRecs (l : List RecD) : Nat := pre (wtAt zRec wtRec l) l.length
theorem wRecs_le (l : List RecD) : wRecs l ≤ 13 * szRecs l := by
  rw [wRecs, wts_sum]
  induction l with
  | nil => simp [szRecs]
  | cons x l ih =>
    simp only [szRecs, List.map_cons, List.sum_cons, szRec] at ih ⊢
    have := wXs_le x.acc.boxes
    have := wIs_eq x.acc.seen
    simp only [wtRec]
    omega

set_option maxRecDepth 100000 in
set_option maxHeartbeats 4000000 in
theorem markRecordS_o (S : Nat → Prop) (v : Value) (l : List RecD) (k : Int) (w : World) (hv : RecsO w S v l) (hs : szRecs l ≤ 2000000) (hk0 : 0 ≤ k) (hk1 : k ≤ 1000) :
    Calls Tryz.prog 10 #[v, .int .i64 k] w fun e w' => e = .returned (.int .i64 (k + wRecs l)) ∧ True ∧ Wr S w w' := by
  have HV : Hid (RecsO w S v l) := hv
  obtain ⟨a, cap, rfl, hlc, hcm⟩ := hv.v.form
  clear hv
  have hl : l.length ≤ 2000000 := Nat.le_trans (szRecs_len l) hs
  have hb : wRecs l ≤ 26000000 := by have := wRecs_le l; omega
  go_enter Tryz.func10, Tryz.ntmps10
  go_wp2
  go_loopw [1, 5] (fun q i wr => ∃ (j : Nat) (l' : List RecD), j ≤ l.length ∧ i = .int .i64 j ∧ q = .int .i64 (k + (pre (wtAt zRec wtRec l) j : Nat)) ∧ Hid (l'.length = l.length ∧ (∀ m, j ≤ m → l'[m]? = l[m]?) ∧ RecsO wr S (.slice a l.length cap) l') ∧ Hid (Wr S w wr)) (fun _ i _ => l.length - (intOf i).toNat)
  case atStart => exact ⟨0, l, Nat.zero_le _, rfl, by simp [pre], ⟨rfl, fun _ _ => rfl, HV⟩, Wr.refl _ _⟩
  case round =>
    obtain ⟨j, l', hj, rfl, rfl, hO, hW⟩ := hrel
    by_cases hlt : j < l.length
    · obtain ⟨x, hx⟩ : ∃ x, l[j]? = some x := ⟨l[j], List.getElem?_eq_getElem hlt⟩
      have HLL : Hid (l'.length = l.length ∧ (∀ m, j ≤ m → l'[m]? = l[m]?)) := ⟨hO.out.1, hO.out.2.1⟩
      obtain ⟨g, cap', cur, c, f, hv', -, -, hh, hroom, hS, ⟨u0, u1, u2, u3, u4, S0, S1, S2, S3, S4, rfl, h0, h1, h2, h3, h4, hd, -⟩, -, hcs, hf, hupd⟩ := hO.out.2.2.upd framesRec j x ((hO.out.2.1 j (Nat.le_refl _)).trans hx)
      simp only [Value.slice.injEq] at hv'
      obtain ⟨rfl, -, rfl⟩ := hv'
      have hp1 : pre (wtAt zRec wtRec l) (j + 1) = pre (wtAt zRec wtRec l) j + wtRec x := pre_step hx
      have hpj : pre (wtAt zRec wtRec l) (j + 1) ≤ wRecs l := pre_le hlt
      have hxs := szRecs_mem (List.mem_of_getElem? hx)
      simp only [szRec] at hxs
      simp only [wtRec] at hp1
      have hwx := wXs_le x.acc.boxes
      have hwi := wIs_eq x.acc.seen
      generalize pre (wtAt zRec wtRec l) j = P at hpj hp1
      obtain ⟨a0, n0, c0, rfl⟩ := h0.bs.form3
      obtain ⟨a1, n1, c1, rfl⟩ := h1.bs.form3
      obtain ⟨a2, n2, c2, rfl⟩ := h2.bs.form3
      obtain ⟨a3, c3, rfl, -⟩ := (h3.rd fun _ _ _ _ => BoxE.rd : BoxesV _ _ _).form
      obtain ⟨a4, c4, rfl, -⟩ := (h4.rd fun _ _ _ _ h => h : IntsV _ _ _).form
      generalize hq0 : (k + (P : Int)) = q at *
      have A : Hid (At wr f g 53 cur (j * 14) [.int .i64 x.kind, .int .i64 x.user, .int .i64 x.n, .int .i64 x.cmd.k, .slice a0 n0 c0, .slice a1 n1 c1, .int .i64 x.cmd.uid, .int .i64 x.cmd.mode, .int .i64 x.cmd.fl, .int .i64 x.cmd.si, .slice a2 n2 c2, .int .i64 x.acc.valid, .slice a3 x.acc.boxes.length c3, .slice a4 x.acc.seen.length c4] wr) := At.start hh hcs
      have H0 : Hid (RO wr S0 (.slice a0 n0 c0) x.cmd.bx) := h0
      have H1 : Hid (RO wr S1 (.slice a1 n1 c1) x.cmd.tt) := h1
      have H2 : Hid (RO wr S2 (.slice a2 n2 c2) x.cmd.tx) := h2
      have H3 : Hid (BoxesO wr S3 (.slice a3 x.acc.boxes.length c3) x.acc.boxes) := h3
      have H4 : Hid (IntsO wr S4 (.slice a4 x.acc.seen.length c4) x.acc.seen) := h4
      have HF : Hid (∀ b, f b → S b ∧ b ≠ g) := hf
      have HD : Hid ((∀ y, S0 y → f y ∧ ¬ S1 y ∧ ¬ S2 y ∧ ¬ S3 y ∧ ¬ S4 y) ∧ (∀ y, S1 y → f y ∧ ¬ S2 y ∧ ¬ S3 y ∧ ¬ S4 y) ∧ (∀ y, S2 y → f y ∧ ¬ S3 y ∧ ¬ S4 y) ∧ (∀ y, S3 y → f y ∧ ¬ S4 y) ∧ (∀ y, S4 y → f y)) := hd
      have HUP := (show Hid _ from hupd)
      clear hcs hf hd hupd hh h0 h1 h2 h3 h4 hO hx
      have d0 := A.out.cell 0 _ rfl
      have d1 := A.out.cell 1 _ rfl
      have d2 := A.out.cell 2 _ rfl
      have d3 := A.out.cell 3 _ rfl
      have fz := A.out.frozen
      simp only [Nat.add_zero] at d0
      have hgl := A.out.lt
      have A' : Hid (At wr f g 53 cur (j * 14) [.int .i64 q, .int .i64 (q + 1), .int .i64 (q + 1 + 1), .int .i64 (q + 1 + 1 + 1), .slice a0 n0 c0, .slice a1 n1 c1, .int .i64 x.cmd.uid, .int .i64 x.cmd.mode, .int .i64 x.cmd.fl, .int .i64 x.cmd.si, .slice a2 n2 c2, .int .i64 x.acc.valid, .slice a3 x.acc.boxes.length c3, .slice a4 x.acc.seen.length c4] (((((wr).setCell ⟨g, j * 14, none⟩ (.int .i64 q)).setCell ⟨g, j * 14 + 1, none⟩ (.int .i64 (q + 1))).setCell ⟨g, j * 14 + 2, none⟩ (.int .i64 (q + 1 + 1))).setCell ⟨g, j * 14 + 3, none⟩ (.int .i64 (q + 1 + 1 + 1)))) := ((((A.out.set 0 (.int .i64 q) (by simp) (by simp; omega)).set 1 (.int .i64 (q + 1)) (by simp) (by simp; omega)).set 2 (.int .i64 (q + 1 + 1)) (by simp) (by simp; omega)).set 3 (.int .i64 (q + 1 + 1 + 1)) (by simp) (by simp; omega))
      have H0' : Hid (RO (((((wr).setCell ⟨g, j * 14, none⟩ (.int .i64 q)).setCell ⟨g, j * 14 + 1, none⟩ (.int .i64 (q + 1))).setCell ⟨g, j * 14 + 2, none⟩ (.int .i64 (q + 1 + 1))).setCell ⟨g, j * 14 + 3, none⟩ (.int .i64 (q + 1 + 1 + 1))) S0 (.slice a0 n0 c0) (x.cmd.bx)) := ((((H0.out.frame (set_far (fun b hb => (HF.out b (HD.out.1 b hb).1).2))).frame (set_far (fun b hb => (HF.out b (HD.out.1 b hb).1).2))).frame (set_far (fun b hb => (HF.out b (HD.out.1 b hb).1).2))).frame (set_far (fun b hb => (HF.out b (HD.out.1 b hb).1).2)))
      have H1' : Hid (RO (((((wr).setCell ⟨g, j * 14, none⟩ (.int .i64 q)).setCell ⟨g, j * 14 + 1, none⟩ (.int .i64 (q + 1))).setCell ⟨g, j * 14 + 2, none⟩ (.int .i64 (q + 1 + 1))).setCell ⟨g, j * 14 + 3, none⟩ (.int .i64 (q + 1 + 1 + 1))) S1 (.slice a1 n1 c1) (x.cmd.tt)) := ((((H1.out.frame (set_far (fun b hb => (HF.out b (HD.out.2.1 b hb).1).2))).frame (set_far (fun b hb => (HF.out b (HD.out.2.1 b hb).1).2))).frame (set_far (fun b hb => (HF.out b (HD.out.2.1 b hb).1).2))).frame (set_far (fun b hb => (HF.out b (HD.out.2.1 b hb).1).2)))
      have H2' : Hid (RO (((((wr).setCell ⟨g, j * 14, none⟩ (.int .i64 q)).setCell ⟨g, j * 14 + 1, none⟩ (.int .i64 (q + 1))).setCell ⟨g, j * 14 + 2, none⟩ (.int .i64 (q + 1 + 1))).setCell ⟨g, j * 14 + 3, none⟩ (.int .i64 (q + 1 + 1 + 1))) S2 (.slice a2 n2 c2) (x.cmd.tx)) := ((((H2.out.frame (set_far (fun b hb => (HF.out b (HD.out.2.2.1 b hb).1).2))).frame (set_far (fun b hb => (HF.out b (HD.out.2.2.1 b hb).1).2))).frame (set_far (fun b hb => (HF.out b (HD.out.2.2.1 b hb).1).2))).frame (set_far (fun b hb => (HF.out b (HD.out.2.2.1 b hb).1).2)))
      have H3' : Hid (BoxesO (((((wr).setCell ⟨g, j * 14, none⟩ (.int .i64 q)).setCell ⟨g, j * 14 + 1, none⟩ (.int .i64 (q + 1))).setCell ⟨g, j * 14 + 2, none⟩ (.int .i64 (q + 1 + 1))).setCell ⟨g, j * 14 + 3, none⟩ (.int .i64 (q + 1 + 1 + 1))) S3 (.slice a3 x.acc.boxes.length c3) (x.acc.boxes)) := ((((H3.out.frame framesBox (set_far (fun b hb => (HF.out b (HD.out.2.2.2.1 b hb).1).2))).frame framesBox (set_far (fun b hb => (HF.out b (HD.out.2.2.2.1 b hb).1).2))).frame framesBox (set_far (fun b hb => (HF.out b (HD.out.2.2.2.1 b hb).1).2))).frame framesBox (set_far (fun b hb => (HF.out b (HD.out.2.2.2.1 b hb).1).2)))
      have H4' : Hid (IntsO (((((wr).setCell ⟨g, j * 14, none⟩ (.int .i64 q)).setCell ⟨g, j * 14 + 1, none⟩ (.int .i64 (q + 1))).setCell ⟨g, j * 14 + 2, none⟩ (.int .i64 (q + 1 + 1))).setCell ⟨g, j * 14 + 3, none⟩ (.int .i64 (q + 1 + 1 + 1))) S4 (.slice a4 x.acc.seen.length c4) (x.acc.seen)) := ((((H4.out.frame framesInt (set_far (fun b hb => (HF.out b (HD.out.2.2.2.2 b hb)).2))).frame framesInt (set_far (fun b hb => (HF.out b (HD.out.2.2.2.2 b hb)).2))).frame framesInt (set_far (fun b hb => (HF.out b (HD.out.2.2.2.2 b hb)).2))).frame framesInt (set_far (fun b hb => (HF.out b (HD.out.2.2.2.2 b hb)).2)))
      have e4 := A'.out.cell 4 _ rfl
      go_wp2_with fail
      refine (markByteS_o S0 _ x.cmd.bx (q + 1 + 1 + 1 + 1) _ H0'.out (by omega) (by omega) (by omega)).mono ?_
      rintro e w1 ⟨rfl, R, W⟩
      have A1 : Hid (At wr f g 53 cur (j * 14) [.int .i64 q, .int .i64 (q + 1), .int .i64 (q + 1 + 1), .int .i64 (q + 1 + 1 + 1), .slice a0 n0 c0, .slice a1 n1 c1, .int .i64 x.cmd.uid, .int .i64 x.cmd.mode, .int .i64 x.cmd.fl, .int .i64 x.cmd.si, .slice a2 n2 c2, .int .i64 x.acc.valid, .slice a3 x.acc.boxes.length c3, .slice a4 x.acc.seen.length c4] w1) := A'.out.mark W (fun b hb => ⟨(HD.out.1 b hb).1, (HF.out b (HD.out.1 b hb).1).2⟩)
      have G0 : Hid (RO w1 S0 (.slice a0 n0 c0) (marks (q + 1 + 1 + 1 + 1) x.cmd.bx.length)) := R
      have G1 : Hid (RO w1 S1 (.slice a1 n1 c1) (x.cmd.tt)) := H1'.out.frame fun b hb hlt => W.block b hlt (fun h => (HD.out.1 b h).2.1 hb)
      have G2 : Hid (RO w1 S2 (.slice a2 n2 c2) (x.cmd.tx)) := H2'.out.frame fun b hb hlt => W.block b hlt (fun h => (HD.out.1 b h).2.2.1 hb)
      have G3 : Hid (BoxesO w1 S3 (.slice a3 x.acc.boxes.length c3) (x.acc.boxes)) := H3'.out.frame framesBox fun b hb hlt => W.block b hlt (fun h => (HD.out.1 b h).2.2.2.1 hb)
      have G4 : Hid (IntsO w1 S4 (.slice a4 x.acc.seen.length c4) (x.acc.seen)) := H4'.out.frame framesInt fun b hb hlt => W.block b hlt (fun h => (HD.out.1 b h).2.2.2.2 hb)
      clear A H0 H1 H2 H3 H4 R W hgl e4 d0 d1 d2 d3 fz A' H0' H1' H2' H3' H4'
      have A := A1
      have H0 := G0
      have H1 := G1
      have H2 := G2
      have H3 := G3
      have H4 := G4
      clear A1 G0 G1 G2 G3 G4
      generalize hq1 : (q + 1 + 1 + 1 + 1 + x.cmd.bx.length : Int) = q1 at *
      have hgl := A.out.lt
      have e5 := A.out.cell 5 _ rfl
      go_wp2_with fail
      refine (markByteS_o S1 _ x.cmd.tt (q1) _ H1.out (by omega) (by omega) (by omega)).mono ?_
      rintro e w2 ⟨rfl, R, W⟩
      have A1 : Hid (At wr f g 53 cur (j * 14) [.int .i64 q, .int .i64 (q + 1), .int .i64 (q + 1 + 1), .int .i64 (q + 1 + 1 + 1), .slice a0 n0 c0, .slice a1 n1 c1, .int .i64 x.cmd.uid, .int .i64 x.cmd.mode, .int .i64 x.cmd.fl, .int .i64 x.cmd.si, .slice a2 n2 c2, .int .i64 x.acc.valid, .slice a3 x.acc.boxes.length c3, .slice a4 x.acc.seen.length c4] w2) := A.out.mark W (fun b hb => ⟨(HD.out.2.1 b hb).1, (HF.out b (HD.out.2.1 b hb).1).2⟩)
      have G0 : Hid (RO w2 S0 (.slice a0 n0 c0) (marks (q + 1 + 1 + 1 + 1) x.cmd.bx.length)) := H0.out.frame fun b hb hlt => W.block b hlt ((HD.out.1 b hb).2.1)
      have G1 : Hid (RO w2 S1 (.slice a1 n1 c1) (marks (q1) x.cmd.tt.length)) := R
      have G2 : Hid (RO w2 S2 (.slice a2 n2 c2) (x.cmd.tx)) := H2.out.frame fun b hb hlt => W.block b hlt (fun h => (HD.out.2.1 b h).2.1 hb)
      have G3 : Hid (BoxesO w2 S3 (.slice a3 x.acc.boxes.length c3) (x.acc.boxes)) := H3.out.frame framesBox fun b hb hlt => W.block b hlt (fun h => (HD.out.2.1 b h).2.2.1 hb)
      have G4 : Hid (IntsO w2 S4 (.slice a4 x.acc.seen.length c4) (x.acc.seen)) := H4.out.frame framesInt fun b hb hlt => W.block b hlt (fun h => (HD.out.2.1 b h).2.2.2 hb)
      clear A H0 H1 H2 H3 H4 R W hgl e5
      have A := A1
      have H0 := G0
      have H1 := G1
      have H2 := G2
      have H3 := G3
      have H4 := G4
      clear A1 G0 G1 G2 G3 G4
      generalize hq2 : (q1 + x.cmd.tt.length : Int) = q2 at *
      have d6 := A.out.cell 6 _ rfl
      have d7 := A.out.cell 7 _ rfl
      have d8 := A.out.cell 8 _ rfl
      have d9 := A.out.cell 9 _ rfl
      have fz := A.out.frozen
      have hgl := A.out.lt
      have A' : Hid (At wr f g 53 cur (j * 14) [.int .i64 q, .int .i64 (q + 1), .int .i64 (q + 1 + 1), .int .i64 (q + 1 + 1 + 1), .slice a0 n0 c0, .slice a1 n1 c1, .int .i64 q2, .int .i64 (q2 + 1), .int .i64 (q2 + 1 + 1), .int .i64 (q2 + 1 + 1 + 1), .slice a2 n2 c2, .int .i64 x.acc.valid, .slice a3 x.acc.boxes.length c3, .slice a4 x.acc.seen.length c4] (((((w2).setCell ⟨g, j * 14 + 6, none⟩ (.int .i64 q2)).setCell ⟨g, j * 14 + 7, none⟩ (.int .i64 (q2 + 1))).setCell ⟨g, j * 14 + 8, none⟩ (.int .i64 (q2 + 1 + 1))).setCell ⟨g, j * 14 + 9, none⟩ (.int .i64 (q2 + 1 + 1 + 1)))) := ((((A.out.set 6 (.int .i64 q2) (by simp) (by simp; omega)).set 7 (.int .i64 (q2 + 1)) (by simp) (by simp; omega)).set 8 (.int .i64 (q2 + 1 + 1)) (by simp) (by simp; omega)).set 9 (.int .i64 (q2 + 1 + 1 + 1)) (by simp) (by simp; omega))
      have H0' : Hid (RO (((((w2).setCell ⟨g, j * 14 + 6, none⟩ (.int .i64 q2)).setCell ⟨g, j * 14 + 7, none⟩ (.int .i64 (q2 + 1))).setCell ⟨g, j * 14 + 8, none⟩ (.int .i64 (q2 + 1 + 1))).setCell ⟨g, j * 14 + 9, none⟩ (.int .i64 (q2 + 1 + 1 + 1))) S0 (.slice a0 n0 c0) (marks (q + 1 + 1 + 1 + 1) x.cmd.bx.length)) := ((((H0.out.frame (set_far (fun b hb => (HF.out b (HD.out.1 b hb).1).2))).frame (set_far (fun b hb => (HF.out b (HD.out.1 b hb).1).2))).frame (set_far (fun b hb => (HF.out b (HD.out.1 b hb).1).2))).frame (set_far (fun b hb => (HF.out b (HD.out.1 b hb).1).2)))
      have H1' : Hid (RO (((((w2).setCell ⟨g, j * 14 + 6, none⟩ (.int .i64 q2)).setCell ⟨g, j * 14 + 7, none⟩ (.int .i64 (q2 + 1))).setCell ⟨g, j * 14 + 8, none⟩ (.int .i64 (q2 + 1 + 1))).setCell ⟨g, j * 14 + 9, none⟩ (.int .i64 (q2 + 1 + 1 + 1))) S1 (.slice a1 n1 c1) (marks (q1) x.cmd.tt.length)) := ((((H1.out.frame (set_far (fun b hb => (HF.out b (HD.out.2.1 b hb).1).2))).frame (set_far (fun b hb => (HF.out b (HD.out.2.1 b hb).1).2))).frame (set_far (fun b hb => (HF.out b (HD.out.2.1 b hb).1).2))).frame (set_far (fun b hb => (HF.out b (HD.out.2.1 b hb).1).2)))
      have H2' : Hid (RO (((((w2).setCell ⟨g, j * 14 + 6, none⟩ (.int .i64 q2)).setCell ⟨g, j * 14 + 7, none⟩ (.int .i64 (q2 + 1))).setCell ⟨g, j * 14 + 8, none⟩ (.int .i64 (q2 + 1 + 1))).setCell ⟨g, j * 14 + 9, none⟩ (.int .i64 (q2 + 1 + 1 + 1))) S2 (.slice a2 n2 c2) (x.cmd.tx)) := ((((H2.out.frame (set_far (fun b hb => (HF.out b (HD.out.2.2.1 b hb).1).2))).frame (set_far (fun b hb => (HF.out b (HD.out.2.2.1 b hb).1).2))).frame (set_far (fun b hb => (HF.out b (HD.out.2.2.1 b hb).1).2))).frame (set_far (fun b hb => (HF.out b (HD.out.2.2.1 b hb).1).2)))
      have H3' : Hid (BoxesO (((((w2).setCell ⟨g, j * 14 + 6, none⟩ (.int .i64 q2)).setCell ⟨g, j * 14 + 7, none⟩ (.int .i64 (q2 + 1))).setCell ⟨g, j * 14 + 8, none⟩ (.int .i64 (q2 + 1 + 1))).setCell ⟨g, j * 14 + 9, none⟩ (.int .i64 (q2 + 1 + 1 + 1))) S3 (.slice a3 x.acc.boxes.length c3) (x.acc.boxes)) := ((((H3.out.frame framesBox (set_far (fun b hb => (HF.out b (HD.out.2.2.2.1 b hb).1).2))).frame framesBox (set_far (fun b hb => (HF.out b (HD.out.2.2.2.1 b hb).1).2))).frame framesBox (set_far (fun b hb => (HF.out b (HD.out.2.2.2.1 b hb).1).2))).frame framesBox (set_far (fun b hb => (HF.out b (HD.out.2.2.2.1 b hb).1).2)))
      have H4' : Hid (IntsO (((((w2).setCell ⟨g, j * 14 + 6, none⟩ (.int .i64 q2)).setCell ⟨g, j * 14 + 7, none⟩ (.int .i64 (q2 + 1))).setCell ⟨g, j * 14 + 8, none⟩ (.int .i64 (q2 + 1 + 1))).setCell ⟨g, j * 14 + 9, none⟩ (.int .i64 (q2 + 1 + 1 + 1))) S4 (.slice a4 x.acc.seen.length c4) (x.acc.seen)) := ((((H4.out.frame framesInt (set_far (fun b hb => (HF.out b (HD.out.2.2.2.2 b hb)).2))).frame framesInt (set_far (fun b hb => (HF.out b (HD.out.2.2.2.2 b hb)).2))).frame framesInt (set_far (fun b hb => (HF.out b (HD.out.2.2.2.2 b hb)).2))).frame framesInt (set_far (fun b hb => (HF.out b (HD.out.2.2.2.2 b hb)).2)))
      have e10 := A'.out.cell 10 _ rfl
      go_wp2_with fail
      refine (markByteS_o S2 _ x.cmd.tx (q2 + 1 + 1 + 1 + 1) _ H2'.out (by omega) (by omega) (by omega)).mono ?_
      rintro e w3 ⟨rfl, R, W⟩
      have A1 : Hid (At wr f g 53 cur (j * 14) [.int .i64 q, .int .i64 (q + 1), .int .i64 (q + 1 + 1), .int .i64 (q + 1 + 1 + 1), .slice a0 n0 c0, .slice a1 n1 c1, .int .i64 q2, .int .i64 (q2 + 1), .int .i64 (q2 + 1 + 1), .int .i64 (q2 + 1 + 1 + 1), .slice a2 n2 c2, .int .i64 x.acc.valid, .slice a3 x.acc.boxes.length c3, .slice a4 x.acc.seen.length c4] w3) := A'.out.mark W (fun b hb => ⟨(HD.out.2.2.1 b hb).1, (HF.out b (HD.out.2.2.1 b hb).1).2⟩)
      have G0 : Hid (RO w3 S0 (.slice a0 n0 c0) (marks (q + 1 + 1 + 1 + 1) x.cmd.bx.length)) := H0'.out.frame fun b hb hlt => W.block b hlt ((HD.out.1 b hb).2.2.1)
      have G1 : Hid (RO w3 S1 (.slice a1 n1 c1) (marks (q1) x.cmd.tt.length)) := H1'.out.frame fun b hb hlt => W.block b hlt ((HD.out.2.1 b hb).2.1)
      have G2 : Hid (RO w3 S2 (.slice a2 n2 c2) (marks (q2 + 1 + 1 + 1 + 1) x.cmd.tx.length)) := R
      have G3 : Hid (BoxesO w3 S3 (.slice a3 x.acc.boxes.length c3) (x.acc.boxes)) := H3'.out.frame framesBox fun b hb hlt => W.block b hlt (fun h => (HD.out.2.2.1 b h).2.1 hb)
      have G4 : Hid (IntsO w3 S4 (.slice a4 x.acc.seen.length c4) (x.acc.seen)) := H4'.out.frame framesInt fun b hb hlt => W.block b hlt (fun h => (HD.out.2.2.1 b h).2.2 hb)
      clear A H0 H1 H2 H3 H4 R W hgl e10 d6 d7 d8 d9 fz A' H0' H1' H2' H3' H4'
      have A := A1
      have H0 := G0
      have H1 := G1
      have H2 := G2
      have H3 := G3
      have H4 := G4
      clear A1 G0 G1 G2 G3 G4
      generalize hq3 : (q2 + 1 + 1 + 1 + 1 + x.cmd.tx.length : Int) = q3 at *
      have d11 := A.out.cell 11 _ rfl
      have fz := A.out.frozen
      have hgl := A.out.lt
      have A' : Hid (At wr f g 53 cur (j * 14) [.int .i64 q, .int .i64 (q + 1), .int .i64 (q + 1 + 1), .int .i64 (q + 1 + 1 + 1), .slice a0 n0 c0, .slice a1 n1 c1, .int .i64 q2, .int .i64 (q2 + 1), .int .i64 (q2 + 1 + 1), .int .i64 (q2 + 1 + 1 + 1), .slice a2 n2 c2, .int .i64 q3, .slice a3 x.acc.boxes.length c3, .slice a4 x.acc.seen.length c4] ((w3).setCell ⟨g, j * 14 + 11, none⟩ (.int .i64 q3))) := (A.out.set 11 (.int .i64 q3) (by simp) (by simp; omega))
      have H0' : Hid (RO ((w3).setCell ⟨g, j * 14 + 11, none⟩ (.int .i64 q3)) S0 (.slice a0 n0 c0) (marks (q + 1 + 1 + 1 + 1) x.cmd.bx.length)) := (H0.out.frame (set_far (fun b hb => (HF.out b (HD.out.1 b hb).1).2)))
      have H1' : Hid (RO ((w3).setCell ⟨g, j * 14 + 11, none⟩ (.int .i64 q3)) S1 (.slice a1 n1 c1) (marks (q1) x.cmd.tt.length)) := (H1.out.frame (set_far (fun b hb => (HF.out b (HD.out.2.1 b hb).1).2)))
      have H2' : Hid (RO ((w3).setCell ⟨g, j * 14 + 11, none⟩ (.int .i64 q3)) S2 (.slice a2 n2 c2) (marks (q2 + 1 + 1 + 1 + 1) x.cmd.tx.length)) := (H2.out.frame (set_far (fun b hb => (HF.out b (HD.out.2.2.1 b hb).1).2)))
      have H3' : Hid (BoxesO ((w3).setCell ⟨g, j * 14 + 11, none⟩ (.int .i64 q3)) S3 (.slice a3 x.acc.boxes.length c3) (x.acc.boxes)) := (H3.out.frame framesBox (set_far (fun b hb => (HF.out b (HD.out.2.2.2.1 b hb).1).2)))
      have H4' : Hid (IntsO ((w3).setCell ⟨g, j * 14 + 11, none⟩ (.int .i64 q3)) S4 (.slice a4 x.acc.seen.length c4) (x.acc.seen)) := (H4.out.frame framesInt (set_far (fun b hb => (HF.out b (HD.out.2.2.2.2 b hb)).2)))
      have e12 := A'.out.cell 12 _ rfl
      go_wp2_with fail
      refine (markBoxS_o S3 _ x.acc.boxes (q3 + 1) _ H3'.out (by omega) (by omega) (by omega)).mono ?_
      rintro e w4 ⟨rfl, R, W⟩
      have A1 : Hid (At wr f g 53 cur (j * 14) [.int .i64 q, .int .i64 (q + 1), .int .i64 (q + 1 + 1), .int .i64 (q + 1 + 1 + 1), .slice a0 n0 c0, .slice a1 n1 c1, .int .i64 q2, .int .i64 (q2 + 1), .int .i64 (q2 + 1 + 1), .int .i64 (q2 + 1 + 1 + 1), .slice a2 n2 c2, .int .i64 q3, .slice a3 x.acc.boxes.length c3, .slice a4 x.acc.seen.length c4] w4) := A'.out.mark W (fun b hb => ⟨(HD.out.2.2.2.1 b hb).1, (HF.out b (HD.out.2.2.2.1 b hb).1).2⟩)
      have G0 : Hid (RO w4 S0 (.slice a0 n0 c0) (marks (q + 1 + 1 + 1 + 1) x.cmd.bx.length)) := H0'.out.frame fun b hb hlt => W.block b hlt ((HD.out.1 b hb).2.2.2.1)
      have G1 : Hid (RO w4 S1 (.slice a1 n1 c1) (marks (q1) x.cmd.tt.length)) := H1'.out.frame fun b hb hlt => W.block b hlt ((HD.out.2.1 b hb).2.2.1)
      have G2 : Hid (RO w4 S2 (.slice a2 n2 c2) (marks (q2 + 1 + 1 + 1 + 1) x.cmd.tx.length)) := H2'.out.frame fun b hb hlt => W.block b hlt ((HD.out.2.2.1 b hb).2.1)
      have G3 : Hid (BoxesO w4 S3 (.slice a3 x.acc.boxes.length c3) (mkBoxes (q3 + 1) x.acc.boxes)) := R
      have G4 : Hid (IntsO w4 S4 (.slice a4 x.acc.seen.length c4) (x.acc.seen)) := H4'.out.frame framesInt fun b hb hlt => W.block b hlt (fun h => (HD.out.2.2.2.1 b h).2 hb)
      clear A H0 H1 H2 H3 H4 R W hgl e12 d11 fz A' H0' H1' H2' H3' H4'
      have A := A1
      have H0 := G0
      have H1 := G1
      have H2 := G2
      have H3 := G3
      have H4 := G4
      clear A1 G0 G1 G2 G3 G4
      generalize hq4 : (q3 + 1 + wXs x.acc.boxes : Int) = q4 at *
      have hgl := A.out.lt
      have e13 := A.out.cell 13 _ rfl
      go_wp2_with fail
      refine (markIntS_o S4 _ x.acc.seen (q4) _ H4.out (by omega) (by omega) (by omega)).mono ?_
      rintro e w5 ⟨rfl, R, W⟩
      have A1 : Hid (At wr f g 53 cur (j * 14) [.int .i64 q, .int .i64 (q + 1), .int .i64 (q + 1 + 1), .int .i64 (q + 1 + 1 + 1), .slice a0 n0 c0, .slice a1 n1 c1, .int .i64 q2, .int .i64 (q2 + 1), .int .i64 (q2 + 1 + 1), .int .i64 (q2 + 1 + 1 + 1), .slice a2 n2 c2, .int .i64 q3, .slice a3 x.acc.boxes.length c3, .slice a4 x.acc.seen.length c4] w5) := A.out.mark W (fun b hb => ⟨(HD.out.2.2.2.2 b hb), (HF.out b (HD.out.2.2.2.2 b hb)).2⟩)
      have G0 : Hid (RO w5 S0 (.slice a0 n0 c0) (marks (q + 1 + 1 + 1 + 1) x.cmd.bx.length)) := H0.out.frame fun b hb hlt => W.block b hlt ((HD.out.1 b hb).2.2.2.2)
      have G1 : Hid (RO w5 S1 (.slice a1 n1 c1) (marks (q1) x.cmd.tt.length)) := H1.out.frame fun b hb hlt => W.block b hlt ((HD.out.2.1 b hb).2.2.2)
      have G2 : Hid (RO w5 S2 (.slice a2 n2 c2) (marks (q2 + 1 + 1 + 1 + 1) x.cmd.tx.length)) := H2.out.frame fun b hb hlt => W.block b hlt ((HD.out.2.2.1 b hb).2.2)
      have G3 : Hid (BoxesO w5 S3 (.slice a3 x.acc.boxes.length c3) (mkBoxes (q3 + 1) x.acc.boxes)) := H3.out.frame framesBox fun b hb hlt => W.block b hlt ((HD.out.2.2.2.1 b hb).2)
      have G4 : Hid (IntsO w5 S4 (.slice a4 x.acc.seen.length c4) (mkInts (q4) x.acc.seen)) := R
      clear A H0 H1 H2 H3 H4 R W hgl e13
      have A := A1
      have H0 := G0
      have H1 := G1
      have H2 := G2
      have H3 := G3
      have H4 := G4
      clear A1 G0 G1 G2 G3 G4
      generalize hq5 : (q4 + wIs x.acc.seen : Int) = q5 at *
      have HFIN : Hid (∃ l2 : List RecD, (l2.length = l.length ∧ (∀ m, j + 1 ≤ m → l2[m]? = l[m]?) ∧ RecsO w5 S (.slice (some ⟨g, 0, none⟩) l.length cap) l2) ∧ Wr S w w5) := by
        obtain ⟨cur', k1, k2, k3, k4⟩ := A.out.blk
        refine ⟨l'.set j ⟨q, q + 1, q + 1 + 1, ⟨q + 1 + 1 + 1, marks (q + 1 + 1 + 1 + 1) x.cmd.bx.length, marks (q1) x.cmd.tt.length, q2, q2 + 1, q2 + 1 + 1, q2 + 1 + 1 + 1, marks (q2 + 1 + 1 + 1 + 1) x.cmd.tx.length⟩, ⟨q3, mkBoxes (q3 + 1) x.acc.boxes, mkInts (q4) x.acc.seen⟩⟩, ⟨by simpa using HLL.out.1, fun m hm => ?_, ?_⟩, hW.out.trans (A.out.wrote.mono fun b hb => ?_)⟩
        · rw [List.getElem?_set_ne (by omega)]
          exact HLL.out.2 m (by omega)
        · refine HUP.out _ cur' [.int .i64 q, .int .i64 (q + 1), .int .i64 (q + 1 + 1), .int .i64 (q + 1 + 1 + 1), .slice a0 n0 c0, .slice a1 n1 c1, .int .i64 q2, .int .i64 (q2 + 1), .int .i64 (q2 + 1 + 1), .int .i64 (q2 + 1 + 1 + 1), .slice a2 n2 c2, .int .i64 q3, .slice a3 x.acc.boxes.length c3, .slice a4 x.acc.seen.length c4] _ k1 k2 k3 (fun m hm => k4 m (by simpa using hm)) rfl (fun b hb hne hnf hlt => A.out.wrote.block b hlt (fun h => h.elim hne hnf)) ?_
          refine ⟨.slice a0 n0 c0, .slice a1 n1 c1, .slice a2 n2 c2, .slice a3 x.acc.boxes.length c3, .slice a4 x.acc.seen.length c4, S0, S1, S2, S3, S4, rfl, H0.out, H1.out, H2.out, H3.out, H4.out, HD.out, ?_⟩
          refine ⟨?_, ?_, ?_, ?_, ?_, ?_, ?_, ?_, ?_⟩ <;> constructor <;> dsimp only <;> omega
        · rcases hb with rfl | hb
          · exact hS
          · exact (HF.out b hb).1
      obtain ⟨l2, HL2, HW2⟩ := HFIN.out
      have HL2' : Hid _ := HL2
      have HW2' : Hid _ := HW2
      clear HUP HD HF A H0 H1 H2 H3 H4 HFIN HL2 HW2 hW HLL
      go_wp2
      go_roundw
      case rel => exact ⟨j + 1, l2, by omega, by go_num, by rw [hp1]; exact congrArg (Value.int .i64) (by omega), HL2', HW2'⟩
      case measure => simp [intOf]; omega
    · go_wp2
      go_ret
      obtain rfl : j = l.length := by omega
      exact ⟨rfl, trivial, hW.out⟩
theorem markRecordS_w (B T : Nat) (v : Value) (l : List RecD) (k : Int) (w : World) (hv : RecsR w B T v l) (hs : szRecs l ≤ 2000000) (hk0 : 0 ≤ k) (hk1 : k ≤ 1000) :
    Calls Tryz.prog 10 #[v, .int .i64 k] w fun e w' => e = .returned (.int .i64 (k + wRecs l)) ∧ True ∧ Within B T w w' :=
  (markRecordS_o (In B T) v l k w hv hs hk0 hk1).mono fun _ _ ⟨h0, _, h1⟩ => ⟨h0, trivial, h1.within⟩

end Go.Proofs.YtdokgpdfdenoaaaGreat

/- The book's rows in memory: what they read as, and those of the call's own. -/
namespace Go.Proofs.YtdokgpdfdenoaaaGreat
open Go.RowKit

structure RowD where
  epoch : Int
  owner : Int
  moving : Bool
  tr : Int
  target : Int
def RowRE (_ : World) (c : List Value) (x : RowD) : Prop := c = [.int .i64 x.epoch, .int .i64 x.owner, .bool x.moving, .int .i64 x.tr, .int .i64 x.target] ∧ I64 x.epoch ∧ I64 x.owner ∧ I64 x.tr ∧ I64 x.target
abbrev RowsV := Rd 5 RowRE
theorem keepsRow : Keeps RowRE := fun _ _ _ _ _ h => h
def RowE (_ : World) (c : List Value) (x : RowD) (_ : Nat → Prop) : Prop := c = [.int .i64 x.epoch, .int .i64 x.owner, .bool x.moving, .int .i64 x.tr, .int .i64 x.target] ∧ I64 x.epoch ∧ I64 x.owner ∧ I64 x.tr ∧ I64 x.target
theorem framesRow : Frames RowE := fun _ _ _ _ _ h _ => h
instance : Fr RowE := ⟨framesRow⟩
abbrev RowsO := Ow 70 5 RowE
abbrev RowsR := OwR 70 5 RowE
theorem RowsO.v {w : World} {S : Nat → Prop} {v : Value} {l : List RowD} (h : RowsO w S v l) : RowsV w v l := h.rd fun _ _ _ _ h => h
theorem RowsR.v {w : World} {B T : Nat} {v : Value} {l : List RowD} (h : RowsR w B T v l) : RowsV w v l := RowsO.v h
theorem RowsV.cell {w : World} {v : Value} {l : List RowD} (h : RowsV w v l) (k : Nat) (x : RowD) (hx : l[k]? = some x) : ∃ b off cap, v = .slice (some ⟨b, off, none⟩) l.length cap ∧ b < w.heap.size ∧ w.cell? ⟨b, off + k * 5, none⟩ = some (.int .i64 x.epoch) ∧ w.cell? ⟨b, off + k * 5 + 1, none⟩ = some (.int .i64 x.owner) ∧ w.cell? ⟨b, off + k * 5 + 2, none⟩ = some (.bool x.moving) ∧ w.cell? ⟨b, off + k * 5 + 3, none⟩ = some (.int .i64 x.tr) ∧ w.cell? ⟨b, off + k * 5 + 4, none⟩ = some (.int .i64 x.target) ∧ I64 x.epoch ∧ I64 x.owner ∧ I64 x.tr ∧ I64 x.target := by
  obtain ⟨b, off, cap, c, hv, hlt, ⟨rfl, hi⟩, hl, hc⟩ := h.get k x hx
  exact ⟨b, off, cap, hv, hlt, by simpa using hc 0 _ rfl, by simpa using hc 1 _ rfl, by simpa using hc 2 _ rfl, by simpa using hc 3 _ rfl, by simpa using hc 4 _ rfl, hi⟩
/-- A book's value. -/
def BookV (w : World) (v : Value) (l : List RowD) : Prop := ∃ u, v = .agg #[u] ∧ RowsV w u l
def BookR (w : World) (B T : Nat) (v : Value) (l : List RowD) : Prop := ∃ u, v = .agg #[u] ∧ RowsR w B T u l
section
variable {w w' : World} {B T B' T' : Nat} {x : Value} {l : List RowD}
theorem BookV.below (h : BookV w x l) (hb : Below w.heap.size w w') : BookV w' x l := let ⟨u, h0, h1⟩ := h; ⟨u, h0, h1.below keepsRow hb⟩
theorem BookR.v (h : BookR w B T x l) : BookV w x l := let ⟨u, h0, h1⟩ := h; ⟨u, h0, h1.v⟩
theorem BookR.below (h : BookR w B T x l) (hb : Below w.heap.size w w') : BookR w' B T x l := let ⟨u, h0, h1⟩ := h; ⟨u, h0, OwR.below h1 hb⟩
theorem BookR.wide (h : BookR w B T x l) (hB : B' ≤ B) (hT : T ≤ T') : BookR w B' T' x l := let ⟨u, h0, h1⟩ := h; ⟨u, h0, OwR.wide h1 hB hT⟩
theorem BookR.keptW (h : BookR w B T x l) (hw : Within B' T' w w') (hd : T ≤ B' ∨ T' ≤ B) : BookR w' B T x l := let ⟨u, h0, h1⟩ := h; ⟨u, h0, OwR.keptW h1 hw hd⟩
end
def zRow : RowD := ⟨0, 0, false, 0, 0⟩
def wtRow (_ : RowD) : Nat := 5
def mkRow (_ : RowD) (p : Int) : RowD := ⟨p, p + 1, decide ((p + 2) % 3 = 0), p + 3, p + 4⟩
def wRs (l : List RowD) : Nat := pre (wtAt zRow wtRow l) l.length
def mkRows (k : Int) (l : List RowD) : List RowD := mks zRow mkRow wtRow k l
theorem wRs_eq (l : List RowD) : wRs l = 5 * l.length := by
  rw [wRs, wts_sum]
  induction l with
  | nil => rfl
  | cons x l ih => simp only [List.map_cons, List.sum_cons, List.length_cons, ih, wtRow]; omega

end Go.Proofs.YtdokgpdfdenoaaaGreat

/- What eqRowS, eqBook, markRowS, markBook, heldRowS, heldBook of package laws do. -/
namespace Go.Proofs.YtdokgpdfdenoaaaGreat
open Go.RowKit
set_option maxRecDepth 100000
set_option linter.unusedVariables false

set_option maxRecDepth 100000 in
set_option maxHeartbeats 1000000 in
theorem eqRow_yes (x : RowD) (w : World) : Calls Tryz.prog 46 #[.agg #[.int .i64 x.epoch, .int .i64 x.owner, .bool x.moving, .int .i64 x.tr, .int .i64 x.target], .agg #[.int .i64 x.epoch, .int .i64 x.owner, .bool x.moving, .int .i64 x.tr, .int .i64 x.target]] w fun e w' => e = .returned (.bool true) ∧ Below w.heap.size w w' := by
  obtain ⟨kA, kB, X⟩ := boxes2 w (.cells #[.int .i64 x.epoch, .int .i64 x.owner, .bool x.moving, .int .i64 x.tr, .int .i64 x.target] 70) (.cells #[.int .i64 x.epoch, .int .i64 x.owner, .bool x.moving, .int .i64 x.tr, .int .i64 x.target] 70)
  clear kA kB
  go_enter Tryz.func46, Tryz.ntmps46
  go_wp2
  go_ret
  exact ⟨rfl, X⟩
set_option maxRecDepth 100000 in
set_option maxHeartbeats 1000000 in
theorem eqRowS_yes (v u : Value) (l : List RowD) (w : World) (hv : RowsV w v l) (hu : RowsV w u l) :
    Calls Tryz.prog 23 #[v, u] w fun e w' => e = .returned (.bool true) ∧ Below w.heap.size w w' := by
  have HV : Hid (∀ wi, Below w.heap.size w wi → RowsV wi v l ∧ RowsV wi u l) := fun wi h => ⟨hv.below keepsRow h, hu.below keepsRow h⟩
  obtain ⟨a, cap, rfl, hlc, hcm⟩ := hv.form
  obtain ⟨a2, cap2, rfl, hlc2, hcm2⟩ := hu.form
  clear hv hu
  go_enter Tryz.func23, Tryz.ntmps23
  go_wp2
  go_loopw [5] (fun i wr => ∃ k : Nat, k ≤ l.length ∧ i = .int .i64 k ∧ Hid (Below w.heap.size w wr)) (fun i _ => l.length - (intOf i).toNat)
  case atStart => exact ⟨0, Nat.zero_le _, rfl, Below.refl _ _⟩
  case round =>
    obtain ⟨k, hk, rfl, hB⟩ := hrel
    by_cases hlt : k < l.length
    · obtain ⟨x, hx⟩ : ∃ x, l[k]? = some x := ⟨l[k], List.getElem?_eq_getElem hlt⟩
      have DR : Below wr.heap.size wr wr.drew := (Below.refl _ _).drew
      obtain ⟨b, off, cap', hv', hlb, d0, d1, d2, d3, d4, -⟩ := RowsV.cell (HV.out wr hB.out).1 k x hx
      obtain ⟨bq, offq, cap2', hv2, hlb2, z0, z1, z2, z3, z4, -⟩ := RowsV.cell (HV.out wr hB.out).2 k x hx
      simp only [Value.slice.injEq, true_and] at hv' hv2
      obtain ⟨rfl, rfl⟩ := hv'
      obtain ⟨rfl, rfl⟩ := hv2
      go_wp2
      go_region_held3 (fun w' => w'.cell? ⟨b, off + k * 5, none⟩ = some (.int .i64 x.epoch) ∧ w'.cell? ⟨b, off + k * 5 + 1, none⟩ = some (.int .i64 x.owner) ∧ w'.cell? ⟨b, off + k * 5 + 2, none⟩ = some (.bool x.moving) ∧ w'.cell? ⟨b, off + k * 5 + 3, none⟩ = some (.int .i64 x.tr) ∧ w'.cell? ⟨b, off + k * 5 + 4, none⟩ = some (.int .i64 x.target) ∧ w'.cell? ⟨bq, offq + k * 5, none⟩ = some (.int .i64 x.epoch) ∧ w'.cell? ⟨bq, offq + k * 5 + 1, none⟩ = some (.int .i64 x.owner) ∧ w'.cell? ⟨bq, offq + k * 5 + 2, none⟩ = some (.bool x.moving) ∧ w'.cell? ⟨bq, offq + k * 5 + 3, none⟩ = some (.int .i64 x.tr) ∧ w'.cell? ⟨bq, offq + k * 5 + 4, none⟩ = some (.int .i64 x.target))
        (first | go_keep | exact ⟨d0, d1, d2, d3, d4, z0, z1, z2, z3, z4⟩ | exact ⟨(B.cell (p := ⟨_, _, none⟩) (by exact hlb)).trans d0, (B.cell (p := ⟨_, _, none⟩) (by exact hlb)).trans d1, (B.cell (p := ⟨_, _, none⟩) (by exact hlb)).trans d2, (B.cell (p := ⟨_, _, none⟩) (by exact hlb)).trans d3, (B.cell (p := ⟨_, _, none⟩) (by exact hlb)).trans d4, (B.cell (p := ⟨_, _, none⟩) (by exact hlb2)).trans z0, (B.cell (p := ⟨_, _, none⟩) (by exact hlb2)).trans z1, (B.cell (p := ⟨_, _, none⟩) (by exact hlb2)).trans z2, (B.cell (p := ⟨_, _, none⟩) (by exact hlb2)).trans z3, (B.cell (p := ⟨_, _, none⟩) (by exact hlb2)).trans z4⟩)
        ((go_at_call 46; refine (eqRow_yes x _).mono ?_; rintro e w1 ⟨rfl, B⟩))
      have HB2 : Hid (Below w.heap.size w w1) := Below.step (Below.step hB.out DR) B
      clear d0 d1 d2 d3 d4 z0 z1 z2 z3 z4 B hB
      go_wp2
      go_roundw
      case rel => exact ⟨k + 1, by omega, by go_num, HB2⟩
      case measure => simp [intOf]; omega
    · go_wp2
      go_ret
      exact ⟨rfl, hB.out⟩
set_option maxRecDepth 100000 in
theorem eqBook_yes (v u : Value) (l : List RowD) (w : World) (hv : BookV w v l) (hu : BookV w u l) :
    Calls Tryz.prog 8 #[v, u] w fun e w' => e = .returned (.bool true) ∧ Below w.heap.size w w' := by
  obtain ⟨v, rfl, hv⟩ := hv
  obtain ⟨u, rfl, hu⟩ := hu
  have H : Hid (∀ wi, Below w.heap.size w wi → RowsV wi v l ∧ RowsV wi u l) := fun wi h => ⟨hv.below keepsRow h, hu.below keepsRow h⟩
  obtain ⟨a, cap, rfl, -⟩ := hv.form
  obtain ⟨a2, cap2, rfl, -⟩ := hu.form
  obtain ⟨kA, kB, X⟩ := boxes2 w (.cells #[.slice a l.length cap] 26) (.cells #[.slice a2 l.length cap2] 26)
  clear kA kB hv hu
  go_enter Tryz.func8, Tryz.ntmps8
  go_wp2_with fail
  refine (eqRowS_yes _ _ l _ (H.out _ X).1 (H.out _ X).2).mono ?_
  rintro e w1 ⟨rfl, B⟩
  replace X := Below.step X B
  clear B H
  go_wp2
  go_ret
  exact ⟨rfl, X⟩

theorem put5 (w : World) (g o : Nat) (c0 c1 c2 c3 c4 : Value) : put w g o [c0, c1, c2, c3, c4] = ((((w.setCell ⟨g, o, none⟩ c0).setCell ⟨g, o + 1, none⟩ c1).setCell ⟨g, o + 2, none⟩ c2).setCell ⟨g, o + 3, none⟩ c3).setCell ⟨g, o + 4, none⟩ c4 := rfl
set_option maxRecDepth 100000 in
set_option maxHeartbeats 1000000 in
theorem markRowS_o (S : Nat → Prop) (v : Value) (l : List RowD) (k : Int) (w : World) (hv : RowsO w S v l) (hl : l.length ≤ 2000000) (hk0 : 0 ≤ k) (hk1 : k ≤ 100000000000) :
    Calls Tryz.prog 28 #[v, .int .i64 k] w fun e w' => e = .returned (.int .i64 (k + wRs l)) ∧ RowsO w' S v (mkRows k l) ∧ Wr S w w' := by
  have HV : Hid (RowsO w S v l) := hv
  obtain ⟨a, cap, rfl, hlc, hcm⟩ := hv.v.form
  clear hv
  have hw := wRs_eq l
  have hlen : (mkRows k l).length = l.length := length_mks
  go_enter Tryz.func28, Tryz.ntmps28
  go_wp2
  go_loopw [1, 5] (fun q i wr => ∃ j : Nat, j ≤ l.length ∧ i = .int .i64 j ∧ q = .int .i64 (k + (pre (wtAt zRow wtRow l) j : Nat)) ∧ Hid (RowsO wr S (.slice a l.length cap) (mix (mkRows k l) l j)) ∧ Hid (Wr S w wr)) (fun _ i _ => l.length - (intOf i).toNat)
  case atStart => exact ⟨0, Nat.zero_le _, rfl, by simp [pre], by rw [mix_zero]; exact HV, Wr.refl _ _⟩
  case round =>
    obtain ⟨j, hj, rfl, rfl, hO, hW⟩ := hrel
    by_cases hlt : j < l.length
    · obtain ⟨x, hx⟩ : ∃ x, l[j]? = some x := ⟨l[j], List.getElem?_eq_getElem hlt⟩
      obtain ⟨g, cap', c, f, hv', -, -, hgl, hS, ⟨rfl, -⟩, -, -, hc, fz, -, hput⟩ := hO.out.put framesRow j x ((mix_get hlen hlt).trans hx)
      simp only [Value.slice.injEq] at hv'
      obtain ⟨rfl, -, rfl⟩ := hv'
      have hpj : pre (wtAt zRow wtRow l) j ≤ wRs l := pre_le (Nat.le_of_lt hlt)
      have hp1 : pre (wtAt zRow wtRow l) (j + 1) = pre (wtAt zRow wtRow l) j + 5 := pre_step hx
      have hn := mks_get (z := zRow) (mk := mkRow) (wt := wtRow) (k := k) hx
      generalize pre (wtAt zRow wtRow l) j = P at hpj hp1 hn
      have hP : (P : Int) ≤ 10000000 := by omega
      have d0 := hc 0 _ rfl
      have d1 := hc 1 _ rfl
      have d2 := hc 2 _ rfl
      have d3 := hc 3 _ rfl
      have d4 := hc 4 _ rfl
      simp only [Nat.add_zero] at d0
      generalize hMV : decide ((k + P + 2) % 3 = 0) = MV
      have HS : Hid (RowsO (put wr g (j * 5) [.int .i64 (k + P), .int .i64 (k + P + 1), .bool MV, .int .i64 (k + P + 1 + 1 + 1), .int .i64 (k + P + 1 + 1 + 1 + 1)]) S (.slice (some ⟨g, 0, none⟩) l.length cap) (mix (mkRows k l) l (j + 1)) ∧ Wr S w (put wr g (j * 5) [.int .i64 (k + P), .int .i64 (k + P + 1), .bool MV, .int .i64 (k + P + 1 + 1 + 1), .int .i64 (k + P + 1 + 1 + 1 + 1)])) := by
        obtain ⟨h1, h2⟩ := hput [.int .i64 (k + P), .int .i64 (k + P + 1), .bool MV, .int .i64 (k + P + 1 + 1 + 1), .int .i64 (k + P + 1 + 1 + 1 + 1)] (mkRow x (k + P)) rfl (fun w' _ => ⟨by simp only [mkRow, hMV]; rw [show k + (P : Int) + 3 = k + P + 1 + 1 + 1 by omega, show k + (P : Int) + 4 = k + P + 1 + 1 + 1 + 1 by omega], by constructor <;> simp only [mkRow] <;> omega, by constructor <;> simp only [mkRow] <;> omega, by constructor <;> simp only [mkRow] <;> omega, by constructor <;> simp only [mkRow] <;> omega⟩)
        rw [mix_set hlen hn] at h1
        exact ⟨h1, hW.out.trans h2⟩
      rw [put5] at HS
      clear hput hc hn hO hW hx hw
      have hMW : (k + (P : Int) + 1 + 1) % 3 = (k + P + 2) % 3 := by rw [show k + (P : Int) + 1 + 1 = k + P + 2 by omega]
      cases MV with
      | true =>
        have hM := of_decide_eq_true hMV
        have hM2 : (k + (P : Int) + 1 + 1) % 3 = 0 := by omega
        have hM3 : (k + (P : Int) + 1 + 1).tmod 3 = 0 := by rw [Int.tmod_eq_emod_of_nonneg (by omega)]; exact hM2
        clear hMV hMW hM
        go_wp2
        clear hM2 hM3
        go_roundw
        case rel => exact ⟨j + 1, by omega, by go_num, by rw [hp1]; exact congrArg (Value.int .i64) (by omega), HS.out.1, HS.out.2⟩
        case measure => simp [intOf]; omega
      | false =>
        have hM := of_decide_eq_false hMV
        have hM2 : ¬ (k + (P : Int) + 1 + 1) % 3 = 0 := by omega
        have hM4 : ((k + (P : Int) + 1 + 1) % 3 == 0) = false := by simpa using hM2
        have hM3 : ¬ (k + (P : Int) + 1 + 1).tmod 3 = 0 := by rw [Int.tmod_eq_emod_of_nonneg (by omega)]; exact hM2
        clear hMV hMW hM
        go_wp2
        clear hM2 hM3
        go_roundw
        case rel => exact ⟨j + 1, by omega, by go_num, by rw [hp1]; exact congrArg (Value.int .i64) (by omega), HS.out.1, HS.out.2⟩
        case measure => simp [intOf]; omega
    · go_wp2
      go_ret
      obtain rfl : j = l.length := by omega
      exact ⟨rfl, by rw [← mix_all hlen]; exact hO.out, hW.out⟩
set_option maxRecDepth 100000 in
theorem markBook_w (B T : Nat) (v : Value) (l : List RowD) (k : Int) (w : World) (hv : BookR w B T v l) (hT : T ≤ w.heap.size) (hl : l.length ≤ 2000000) (hk0 : 0 ≤ k) (hk1 : k ≤ 100000000000) :
    Calls Tryz.prog 11 #[v, .int .i64 k] w fun e w' => e = .returned (.int .i64 (k + wRs l)) ∧ BookR w' B T v (mkRows k l) ∧ Within B T w w' := by
  obtain ⟨v, rfl, hv⟩ := hv
  obtain ⟨a, cap, rfl, -⟩ := hv.v.form
  have AB : Below w.heap.size w (w.alloc (.cells #[.slice a l.length cap] 26)) := (Below.refl _ _).alloc (Nat.le_refl _) _
  have H : Hid (RowsO (w.alloc (.cells #[.slice a l.length cap] 26)) (In B T) (.slice a l.length cap) l) := OwR.below hv AB
  have HAB : Hid (Within B T w (w.alloc (.cells #[.slice a l.length cap] 26))) := Within.ofBelow AB
  clear AB hv
  go_enter Tryz.func11, Tryz.ntmps11
  go_wp2_with fail
  refine (markRowS_o (In B T) _ l k _ H.out hl hk0 hk1).mono ?_
  rintro e w1 ⟨rfl, R1, W1⟩
  have HF : Hid (BookR w1 B T (.agg #[.slice a l.length cap]) (mkRows k l) ∧ Within B T w w1) := ⟨⟨_, rfl, R1⟩, HAB.out.trans W1.within⟩
  clear R1 W1 H HAB
  go_wp2
  go_ret
  exact ⟨rfl, HF.out.1, HF.out.2⟩

set_option maxRecDepth 100000 in
set_option maxHeartbeats 1000000 in
theorem heldRowS_any (v : Value) (l : List RowD) (k : Int) (w : World) (hv : RowsV w v (mkRows k l)) (hl : l.length ≤ 2000000) (hk0 : 0 ≤ k) (hk1 : k ≤ 100000000000) :
    Calls Tryz.prog 29 #[v, .int .i64 k] w fun e w' => e = .returned (.int .i64 (k + wRs l)) ∧ Below w.heap.size w w' := by
  have HV : Hid (∀ wi, Below w.heap.size w wi → RowsV wi v (mkRows k l)) := fun wi h => hv.below keepsRow h
  obtain ⟨a, cap, rfl, hlc, hcm⟩ := hv.form
  have hlen : (mkRows k l).length = l.length := length_mks
  rw [hlen] at hlc
  simp only [hlen] at HV ⊢
  clear hv
  have HWQ := (show Hid _ from wRs_eq l)
  go_enter Tryz.func29, Tryz.ntmps29
  go_wp2
  go_loopw [1, 5] (fun q i wr => ∃ j : Nat, j ≤ l.length ∧ i = .int .i64 j ∧ q = .int .i64 (k + (pre (wtAt zRow wtRow l) j : Nat)) ∧ Hid (Below w.heap.size w wr)) (fun _ i _ => l.length - (intOf i).toNat)
  case atStart => exact ⟨0, Nat.zero_le _, rfl, by simp [pre], Below.refl _ _⟩
  case round =>
    obtain ⟨j, hj, rfl, rfl, hW⟩ := hrel
    by_cases hlt : j < l.length
    · obtain ⟨x, hx⟩ : ∃ x, l[j]? = some x := ⟨l[j], List.getElem?_eq_getElem hlt⟩
      have hp1 : pre (wtAt zRow wtRow l) (j + 1) = pre (wtAt zRow wtRow l) j + 5 := pre_step hx
      have hpj : pre (wtAt zRow wtRow l) j ≤ wRs l := pre_le (Nat.le_of_lt hlt)
      have hn := mks_get (z := zRow) (mk := mkRow) (wt := wtRow) (k := k) hx
      generalize pre (wtAt zRow wtRow l) j = P at hpj hp1 hn
      have hP : (P : Int) ≤ 10000000 := by have := HWQ.out; omega
      obtain ⟨b, off, cap', hv', hlb, d0, d1, d2, d3, d4, -⟩ := RowsV.cell (HV.out wr hW.out) j _ hn
      simp only [hlen, Value.slice.injEq, true_and] at hv'
      obtain ⟨rfl, rfl⟩ := hv'
      simp only [mkRow] at d0 d1 d2 d3 d4
      clear hn hx
      generalize hMV : decide ((k + (P : Int) + 2) % 3 = 0) = MV at d2
      cases MV with
      | true =>
        have hM := of_decide_eq_true hMV
        have hM2 : (k + (P : Int) + 1 + 1) % 3 = 0 := by omega
        have hM3 : (k + (P : Int) + 1 + 1).tmod 3 = 0 := by rw [Int.tmod_eq_emod_of_nonneg (by omega)]; exact hM2
        clear hMV hM
        go_wp2
        clear hM2 hM3
        go_roundw
        case rel => exact ⟨j + 1, by omega, by go_num, by rw [hp1]; exact congrArg (Value.int .i64) (by omega), hW⟩
        case measure => simp [intOf]; omega
      | false =>
        have hM := of_decide_eq_false hMV
        have hM2 : ¬ (k + (P : Int) + 1 + 1) % 3 = 0 := by omega
        have hM4 : ((k + (P : Int) + 1 + 1) % 3 == 0) = false := by simpa using hM2
        have hM3 : ¬ (k + (P : Int) + 1 + 1).tmod 3 = 0 := by rw [Int.tmod_eq_emod_of_nonneg (by omega)]; exact hM2
        clear hMV hM
        go_wp2
        clear hM2 hM3
        go_roundw
        case rel => exact ⟨j + 1, by omega, by go_num, by rw [hp1]; exact congrArg (Value.int .i64) (by omega), hW⟩
        case measure => simp [intOf]; omega
    · go_wp2
      go_ret
      obtain rfl : j = l.length := by omega
      exact ⟨rfl, hW.out⟩
set_option maxRecDepth 100000 in
theorem heldBook_any (v : Value) (l : List RowD) (k : Int) (w : World) (hv : BookV w v (mkRows k l)) (hl : l.length ≤ 2000000) (hk0 : 0 ≤ k) (hk1 : k ≤ 100000000000) :
    Calls Tryz.prog 12 #[v, .int .i64 k] w fun e w' => e = .returned (.int .i64 (k + wRs l)) ∧ Below w.heap.size w w' := by
  have hw : wRs l ≤ 10000000 := by rw [wRs_eq]; omega
  obtain ⟨v, rfl, hv⟩ := hv
  have H : Hid (∀ wi, Below w.heap.size w wi → RowsV wi v (mkRows k l)) := fun wi h => hv.below keepsRow h
  obtain ⟨a, cap, rfl, -⟩ := hv.form
  have X : Below w.heap.size w (w.alloc (.cells #[.slice a (mkRows k l).length cap] 26)) := (Below.refl _ _).alloc (Nat.le_refl _) _
  clear hv
  go_enter Tryz.func12, Tryz.ntmps12
  go_wp2_with fail
  refine (heldRowS_any _ l k _ (H.out _ X) hl hk0 hk1).mono ?_
  rintro e w1 ⟨rfl, B⟩
  replace X := Below.step X B
  clear B H
  go_wp2
  go_ret
  exact ⟨rfl, X⟩

end Go.Proofs.YtdokgpdfdenoaaaGreat

/- Names, texts and commands as plain lists and numbers: no program is named here. -/
namespace Go.Proofs.YtdokgpdfdenoaaaGreat

theorem ret_b {a b : Bool} (h : b = a) : Ending.returned (.bool a) = .returned (.bool b) := by rw [h]

/-- Every number of the list lies between two. -/
def allIn (lo hi : Int) (l : List Int) : Bool := l.all fun x => decide (lo ≤ x) && decide (x ≤ hi)
/-- A name: one to six small letters. -/
def nameB (l : List Int) : Bool := decide (1 ≤ l.length) && (decide (l.length ≤ 6) && allIn 97 122 l)
/-- A text: at most thirty bytes that can be seen. -/
def textB (l : List Int) : Bool := decide (l.length ≤ 30) && allIn 32 126 l
/-- A number lies between two. -/
def inB (n lo hi : Int) : Bool := decide (lo ≤ n) && decide (n ≤ hi)

theorem allIn_yes {lo hi : Int} {l : List Int} (h : ∀ j, j < l.length → lo ≤ l.getD j 0 ∧ l.getD j 0 ≤ hi) : allIn lo hi l = true := by
  unfold allIn
  rw [List.all_eq_true]
  intro x hx
  obtain ⟨j, hj, rfl⟩ := List.getElem_of_mem hx
  have := h j hj
  simp [hj] at this
  simp [this]
theorem allIn_no {lo hi : Int} {l : List Int} (j : Nat) (hj : j < l.length) (h : ¬ (lo ≤ l.getD j 0 ∧ l.getD j 0 ≤ hi)) : allIn lo hi l = false := by
  cases e : allIn lo hi l with
  | false => rfl
  | true =>
    exfalso
    unfold allIn at e
    rw [List.all_eq_true] at e
    have := e _ (List.getElem_mem hj)
    simp [hj] at h
    simp at this
    omega

theorem ret_i {k : IntKind} {a b : Int} (h : a = b) : Ending.returned (.int k a) = .returned (.int k b) := by rw [h]
/-- The place of the first that fits; -1 where there is none. -/
def firstI {α : Type} (p : α → Bool) (l : List α) : Int := match l.findIdx? p with | some i => i | none => -1
theorem firstI_hit {p : Int → Bool} {l : List Int} {k : Nat} (hk : k < l.length) (h : p (l.getD k 0) = true) (hA : ∀ j, j < k → p (l.getD j 0) = false) : firstI p l = k := by
  have : l.findIdx? p = some k := by
    rw [List.findIdx?_eq_some_iff_getElem]
    refine ⟨hk, by simpa [hk] using h, fun j hj => ?_⟩
    have := hA j hj
    simp [show j < l.length by omega] at this
    simp [this]
  simp [firstI, this]
theorem firstI_none {p : Int → Bool} {l : List Int} (hA : ∀ j, j < l.length → p (l.getD j 0) = false) : firstI p l = -1 := by
  have : l.findIdx? p = none := by
    rw [List.findIdx?_eq_none_iff]
    intro x hx
    obtain ⟨j, hj, rfl⟩ := List.getElem_of_mem hx
    have := hA j hj
    simpa [hj] using this
  simp [firstI, this]
theorem any_firstI {α : Type} (p : α → Bool) (l : List α) : l.any p = decide (0 ≤ firstI p l) := by
  unfold firstI
  cases h : l.findIdx? p with
  | none =>
    rw [List.findIdx?_eq_none_iff] at h
    simp only [show ¬ (0 : Int) ≤ -1 by omega, decide_false]
    rw [List.any_eq_false]
    intro x hx
    simp [h x hx]
  | some i =>
    rw [List.findIdx?_eq_some_iff_getElem] at h
    obtain ⟨hi, hp, -⟩ := h
    simp only [show (0 : Int) ≤ (i : Int) by omega, decide_true]
    rw [List.any_eq_true]
    exact ⟨_, List.getElem_mem hi, hp⟩

/-- Which kinds have a second name, a number of a mail, flags and how, a number of a change, a text. -/
def toB (k : Int) : Bool := decide (k = 6)
def uidB (k : Int) : Bool := decide (k = 3) || (decide (k = 5) || decide (k = 6))
def modeB (k : Int) : Bool := decide (k = 2) || (decide (k = 3) || decide (k = 6))
def sinceB (k : Int) : Bool := decide (k = 3) || decide (k = 8)
def textsB (k : Int) : Bool := decide (k = 2)

/-- A command that may be. -/
def cmdB (k : Int) (bx tt : List Int) (uid mode fl si : Int) (tx : List Int) : Bool :=
  decide (0 ≤ k ∧ k ≤ 9) && (if k = 9 then decide (bx.length = 0) else nameB bx) && (if k = 6 then nameB tt else decide (tt.length = 0)) &&
  (if k = 3 ∨ k = 5 ∨ k = 6 then inB uid 1 1000000 else decide (uid = 0)) && inB mode 0 (if k = 3 then 2 else if k = 6 then 1 else 0) &&
  inB fl 0 (if k = 2 ∨ k = 3 then 31 else 0) && inB si 0 (if k = 3 ∨ k = 8 then 1000000 else 0) && (if k = 2 then textB tx else decide (tx.length = 0))

theorem nameB_len {l : List Int} (h : nameB l = true) : 1 ≤ l.length ∧ l.length ≤ 6 := by unfold nameB at h; simp at h; exact ⟨h.1, h.2.1⟩
theorem textB_nil {l : List Int} (h : l.length = 0) : textB l = true := by
  have : l = [] := List.eq_nil_of_length_eq_zero h
  subst this; rfl
theorem nameB_nil {l : List Int} (h : l.length = 0) : nameB l = false := by
  have : l = [] := List.eq_nil_of_length_eq_zero h
  subst this; rfl

end Go.Proofs.YtdokgpdfdenoaaaGreat

/- What may be: boxes and accounts, as plain data. -/
namespace Go.Proofs.YtdokgpdfdenoaaaGreat

/-- The bytes of a list of numbers; which of two comes first. -/
def bts (l : List Int) : List UInt8 := l.map fun n => UInt8.ofNat n.toNat
def lessB (l m : List Int) : Bool := Op.bytesLess (bts l) (bts m)
theorem less_cmp : ∀ (a b : List UInt8), decide (0 ≤ Lib.compareBytes a b) = !Op.bytesLess a b
  | [], [] => rfl
  | [], _ :: _ => rfl
  | _ :: _, [] => rfl
  | a :: x, b :: y => by
    have ih := less_cmp x y
    unfold Lib.compareBytes Op.bytesLess
    by_cases h1 : a < b
    · simp [h1]
    · by_cases h2 : b < a
      · have hne : (a == b) = false := by simp; intro e; subst e; exact absurd h2 (UInt8.lt_irrefl _)
        simp [h1, h2, hne]
      · have he : a = b := UInt8.le_antisymm (UInt8.not_lt.1 h2) (UInt8.not_lt.1 h1)
        subst he
        simp only [h1, if_false, decide_false, Bool.false_or, BEq.rfl, Bool.true_and]
        exact ih

theorem rangeAll_yes {n : Nat} {f : Nat → Bool} (h : ∀ j, j < n → f j = true) : (List.range n).all f = true := by
  rw [List.all_eq_true]; intro j hj; exact h j (List.mem_range.1 hj)
theorem rangeAll_no {n : Nat} {f : Nat → Bool} (j : Nat) (hj : j < n) (h : f j = false) : (List.range n).all f = false := by
  rw [List.all_eq_false]; exact ⟨j, List.mem_range.2 hj, by simp [h]⟩
theorem and_false_of {a b : Bool} (h : b = false) : (a && b) = false := by rw [h]; cases a <;> rfl
theorem and_of {a b c : Bool} (h : a = true) (h' : b = c) : (a && b) = c := by rw [h, h']; rfl

def prevI (l : List Int) : Nat → Int
  | 0 => 0
  | i + 1 => l.getD i 0
def seenAt (l : List Int) (i : Nat) : Bool := inB (l.getD i 0) (prevI l i + 1) 1000000
def seenB (l : List Int) : Bool := decide (l.length ≤ 60) && (List.range l.length).all (seenAt l)
theorem prevI_ok {l : List Int} {k : Nat} (hk : k ≤ l.length) (h : ∀ j, j < k → seenAt l j = true) : 0 ≤ prevI l k ∧ prevI l k ≤ 1000000 ∧ (0 < k → 1 ≤ prevI l k) := by
  induction k with
  | zero => simp [prevI]
  | succ k ih =>
    have h1 := ih (by omega) (fun j hj => h j (by omega))
    have h2 := h k (by omega)
    simp only [seenAt, inB, Bool.and_eq_true, decide_eq_true_eq] at h2
    simp only [prevI]
    omega

def prevU (l : List MailD) : Nat → Int
  | 0 => 0
  | i + 1 => match l[i]? with | some m => m.uid | none => 0
def mailAt (b : BoxD) (i : Nat) : Bool := match b.mails[i]? with
  | some m => inB m.uid (prevU b.mails i + 1) (b.next - 1) && (inB m.flags 0 31 && (inB m.seq 1 b.seq && textB m.text))
  | none => true
def mailsB (b : BoxD) : Bool := decide (b.mails.length ≤ 12) && (List.range b.mails.length).all (mailAt b)
theorem prevU_ok {b : BoxD} {k : Nat} (hn : b.next ≤ 1000000) (hk : k ≤ b.mails.length) (h : ∀ j, j < k → mailAt b j = true) : 0 ≤ prevU b.mails k ∧ prevU b.mails k ≤ 1000000 := by
  induction k with
  | zero => simp [prevU]
  | succ k ih =>
    have h1 := ih (by omega) (fun j hj => h j (by omega))
    have h2 := h k (by omega)
    obtain ⟨m, hm⟩ : ∃ m, b.mails[k]? = some m := ⟨b.mails[k]'(by omega), List.getElem?_eq_getElem (by omega)⟩
    simp only [mailAt, hm, inB, Bool.and_eq_true, decide_eq_true_eq] at h2
    simp only [prevU, hm]
    omega

def minS (b : BoxD) : Nat → Int
  | 0 => max 1 b.lost
  | i + 1 => match b.gones[i]? with | some g => g.seq | none => 0
def goneAt (b : BoxD) (i : Nat) : Bool := match b.gones[i]? with
  | some g => inB g.uid 1 (b.next - 1) && (inB g.seq (minS b i) b.seq && (!(b.mails.any fun m => decide (m.uid = g.uid)) && !((b.gones.take i).any fun o => decide (o.uid = g.uid))))
  | none => true
def gonesB (b : BoxD) : Bool := decide (b.gones.length ≤ 40) && (List.range b.gones.length).all (goneAt b)
theorem minS_ok {b : BoxD} {k : Nat} (hk : k ≤ b.gones.length) (h : ∀ j, j < k → goneAt b j = true) : 1 ≤ minS b k ∧ b.lost ≤ minS b k := by
  induction k with
  | zero => simp only [minS]; omega
  | succ k ih =>
    have h1 := ih (by omega) (fun j hj => h j (by omega))
    have h2 := h k (by omega)
    obtain ⟨m, hm⟩ : ∃ m, b.gones[k]? = some m := ⟨b.gones[k]'(by omega), List.getElem?_eq_getElem (by omega)⟩
    simp only [goneAt, hm, inB, Bool.and_eq_true, decide_eq_true_eq] at h2
    simp only [minS, hm]
    omega

def boxB (b : BoxD) (valid : Int) : Bool := nameB b.name && (inB b.valid 1 valid && (inB b.next 1 1000000 && (inB b.seq 0 1000000 && (inB b.lost 0 b.seq && (mailsB b && gonesB b)))))
def nameAt (l : List BoxD) (i : Nat) : List Int := match l[i]? with | some b => b.name | none => []
def aheadB (l : List BoxD) (b : BoxD) : Nat → Bool
  | 0 => true
  | i + 1 => lessB (nameAt l i) b.name
def boxAt (a : AccD) (i : Nat) : Bool := match a.boxes[i]? with
  | some b => boxB b a.valid && (aheadB a.boxes b i && !((a.boxes.take i).any fun o => decide (o.valid = b.valid)))
  | none => true
def accB (a : AccD) : Bool := inB a.valid 0 1000000 && (decide (a.boxes.length ≤ 4) && (seenB a.seen && (List.range a.boxes.length).all (boxAt a)))

end Go.Proofs.YtdokgpdfdenoaaaGreat

/- Commands that are zero. -/
namespace Go.Proofs.YtdokgpdfdenoaaaGreat

/-- A command that is zero, by its numbers and lengths. -/
def zC (k : Int) (nb nt : Nat) (uid mode fl si : Int) (nx : Nat) : Bool := decide (k = 0 ∧ nb = 0 ∧ nt = 0 ∧ uid = 0 ∧ mode = 0 ∧ fl = 0 ∧ si = 0 ∧ nx = 0)
def zeroC (c : CmdD) : Bool := zC c.k c.bx.length c.tt.length c.uid c.mode c.fl c.si c.tx.length
def cmdD (c : CmdD) : Bool := cmdB c.k c.bx c.tt c.uid c.mode c.fl c.si c.tx
theorem zero_not_ok {c : CmdD} (h : zeroC c = true) : cmdD c = false := by
  simp only [zeroC, zC, decide_eq_true_eq] at h
  simp [cmdD, cmdB, h.1, nameB_nil h.2.1]

end Go.Proofs.YtdokgpdfdenoaaaGreat

/- Records that may be. -/
namespace Go.Proofs.YtdokgpdfdenoaaaGreat

/-- A command, an account that is zero, by its numbers and lengths. -/
def zA (valid : Int) (nb ns : Nat) : Bool := decide (valid = 0 ∧ nb = 0 ∧ ns = 0)
def zeroA (a : AccD) : Bool := zA a.valid a.boxes.length a.seen.length
def lowN (k : Int) : Int := if k = 0 then 1 else 0
def highN (k : Int) : Int := if k = 6 then 2 else if k = 7 ∨ k = 8 then 0 else 1000000
def recB (r : RecD) : Bool := inB r.kind 0 8 && (inB r.user 0 2 && (inB r.n (lowN r.kind) (highN r.kind) && ((bif decide (r.kind = 0) then cmdD r.cmd else zeroC r.cmd) && (bif decide (r.kind = 3) then accB r.acc else zeroA r.acc))))
theorem recB_range {r : RecD} (h : recB r = true) : (0 ≤ r.kind ∧ r.kind ≤ 8) ∧ (0 ≤ r.user ∧ r.user ≤ 2) ∧ (0 ≤ r.n ∧ r.n ≤ 1000000) := by
  simp only [recB, inB, Bool.and_eq_true, decide_eq_true_eq] at h
  obtain ⟨h0, h1, h2, -⟩ := h
  refine ⟨h0, h1, ?_, ?_⟩
  · have := h2.1; unfold lowN at this; split at this <;> omega
  · have := h2.2; unfold highN at this; split at this
    · omega
    · split at this <;> omega
theorem recB_out {r : RecD} (h : ¬ ((0 ≤ r.kind ∧ r.kind ≤ 8) ∧ (0 ≤ r.user ∧ r.user ≤ 2) ∧ (0 ≤ r.n ∧ r.n ≤ 1000000))) : recB r = false := by
  rw [Bool.eq_false_iff]; exact fun e => h (recB_range e)
theorem recB_zero {r : RecD} (hk : r.kind = 0) (hu : 0 ≤ r.user ∧ r.user ≤ 2) (hn : 0 ≤ r.n ∧ r.n ≤ 1000000) :
    recB r = (!zeroC r.cmd && (cmdD r.cmd && (!decide (r.n < 1) && zeroA r.acc))) := by
  have h := @zero_not_ok r.cmd
  simp only [recB, hk, inB, lowN, highN, hu.1, hu.2]
  generalize zeroC r.cmd = z at *
  generalize cmdD r.cmd = c at *
  generalize zeroA r.acc = y at *
  cases z <;> cases c <;> cases y <;> simp at * <;> (first | (rw [Bool.eq_iff_iff]; simp; omega) | omega)
theorem recB_more {r : RecD} (hk : 1 ≤ r.kind ∧ r.kind ≤ 8) (hu : 0 ≤ r.user ∧ r.user ≤ 2) (hn : 0 ≤ r.n ∧ r.n ≤ 1000000) :
    recB r = (zeroC r.cmd && (bif decide (r.kind = 3) then accB r.acc else (zeroA r.acc && (!(decide (r.kind = 6) && decide (3 ≤ r.n)) && (decide (r.kind < 7) || decide (r.n = 0)))))) := by
  have hk' : r.kind = 1 ∨ r.kind = 2 ∨ r.kind = 3 ∨ r.kind = 4 ∨ r.kind = 5 ∨ r.kind = 6 ∨ r.kind = 7 ∨ r.kind = 8 := by omega
  have e : ∀ b c : Bool, (decide (r.n = 0) && (b && c)) = (b && (c && decide (r.n = 0))) := by intro b c; cases b <;> cases c <;> simp
  rcases hk' with h | h | h | h | h | h | h | h <;> simp only [recB, h, inB, lowN, highN] <;> simp [hu.1, hu.2, hn.1, hn.2] <;> cases zeroC r.cmd <;> cases zeroA r.acc <;> simp <;> (first | (rw [Bool.eq_iff_iff]; simp; omega) | omega)

end Go.Proofs.YtdokgpdfdenoaaaGreat

/- The book, on lists. -/
namespace Go.Proofs.YtdokgpdfdenoaaaGreat

def openRow (h u : Int) : RowD := ⟨1, u.tmod h, false, 0, 0⟩
def openR (h : Int) : List RowD := [openRow h 0, openRow h 1, openRow h 2]
theorem openR_get (h : Int) (k : Nat) (hk : k < 3) : (openR h)[k]? = some (openRow h k) := by
  have : k = 0 ∨ k = 1 ∨ k = 2 := by omega
  rcases this with rfl | rfl | rfl <;> rfl
theorem openR_take (h : Int) (k : Nat) (hk : k < 3) : (openR h).take (k + 1) = (openR h).take k ++ [openRow h k] := by
  have : k = 0 ∨ k = 1 ∨ k = 2 := by omega
  rcases this with rfl | rfl | rfl <;> rfl
theorem openR_len (h : Int) : (openR h).length = 3 := rfl
/-- What a record makes of a row. -/
def rowStep (x : RowD) (kind n : Int) : RowD :=
  if kind = 6 then (if (x.moving = false ∧ n ≠ x.owner ∧ x.tr < 1000000 ∧ x.epoch < 1000000) then ⟨x.epoch, x.owner, true, (if x.tr > x.epoch then x.tr else x.epoch) + 1, n⟩ else x)
  else if kind = 7 then (if x.moving = true then ⟨x.tr, x.target, false, x.tr, x.target⟩ else x)
  else ⟨x.epoch, x.owner, false, x.tr, x.target⟩
def bookStep (b : List RowD) (r : RecD) : List RowD := match b[r.user.toNat]? with
  | some x => b.set r.user.toNat (rowStep x r.kind r.n)
  | none => b
theorem bookStep_get {b : List RowD} {r : RecD} {x : RowD} (h : b[r.user.toNat]? = some x) : bookStep b r = b.set r.user.toNat (rowStep x r.kind r.n) := by unfold bookStep; rw [h]
theorem bookStep_len (b : List RowD) (r : RecD) : (bookStep b r).length = b.length := by unfold bookStep; split <;> simp
def bookOk (h : Int) (r : RecD) : Bool := recB r && (decide (6 ≤ r.kind) && !(decide (r.kind = 6) && decide (h ≤ r.n)))
def bookB (h : Int) (l : List RecD) : Bool := decide (1 ≤ h ∧ h ≤ 3) && l.all (bookOk h)
def bookD (h : Int) (l : List RecD) : List RowD := match bookB h l with
  | true => l.foldl bookStep (openR h)
  | false => []
theorem bookD_yes {h : Int} {l : List RecD} (e : bookB h l = true) : bookD h l = l.foldl bookStep (openR h) := by unfold bookD; rw [e]
theorem bookD_no {h : Int} {l : List RecD} (e : bookB h l = false) : bookD h l = [] := by unfold bookD; rw [e]
theorem fold_len (l : List RecD) (b : List RowD) : (l.foldl bookStep b).length = b.length := by
  induction l generalizing b with
  | nil => rfl
  | cons r l ih => rw [List.foldl_cons, ih, bookStep_len]
theorem bookD_len (h : Int) (l : List RecD) : (bookD h l).length ≤ 3 := by
  cases e : bookB h l with
  | true => rw [bookD_yes e, fold_len, openR_len]; omega
  | false => rw [bookD_no e]; simp
/-- Numbers of a row that a book can have. -/
def RowOk (x : RowD) : Prop := 0 ≤ x.epoch ∧ x.epoch ≤ 1000001 ∧ 0 ≤ x.owner ∧ x.owner ≤ 1000000 ∧ 0 ≤ x.tr ∧ x.tr ≤ 1000001 ∧ 0 ≤ x.target ∧ x.target ≤ 1000000
theorem rowOk_i64 {x : RowD} (h : RowOk x) : I64 x.epoch ∧ I64 x.owner ∧ I64 x.tr ∧ I64 x.target := by
  obtain ⟨a, b, c, d, e, f, g, i⟩ := h
  refine ⟨⟨?_, ?_⟩, ⟨?_, ?_⟩, ⟨?_, ?_⟩, ⟨?_, ?_⟩⟩ <;> omega
theorem rowStep_ok {x : RowD} {kind n : Int} (h : RowOk x) (h0 : 0 ≤ n) (h1 : n ≤ 1000000) : RowOk (rowStep x kind n) := by
  obtain ⟨a, b, c, d, e, f, g, i⟩ := h
  unfold rowStep
  split
  · split
    · rename_i q
      refine ⟨a, b, c, d, ?_, ?_, h0, h1⟩ <;> dsimp only <;> split <;> omega
    · exact ⟨a, b, c, d, e, f, g, i⟩
  · split
    · split
      · exact ⟨e, f, g, i, e, f, g, i⟩
      · exact ⟨a, b, c, d, e, f, g, i⟩
    · exact ⟨a, b, c, d, e, f, g, i⟩
theorem openRow_ok {h : Int} (h1 : 1 ≤ h) (h3 : h ≤ 3) {u : Int} (hu : 0 ≤ u) : RowOk (openRow h u) := by
  have e : u.tmod h = u % h := Int.tmod_eq_emod_of_nonneg hu
  have := Int.emod_nonneg u (show h ≠ 0 by omega)
  have := Int.emod_lt_of_pos u (show 0 < h by omega)
  refine ⟨?_, ?_, ?_, ?_, ?_, ?_, ?_, ?_⟩ <;> simp only [openRow, e] <;> omega

end Go.Proofs.YtdokgpdfdenoaaaGreat

/- Regions that draw their order, walked in the text's order: what each operation asks of the others is reckoned once for a region, in a table. -/
namespace Go.Proofs.YtdokgpdfdenoaaaGreat
set_option linter.unusedVariables false

/-- The operations of the region with this number. -/
def opsAt (id : Nat) : Code → Option (Array Oper)
  | .region i ops _ => if i == id then some ops else none
  | .seq a b => (opsAt id a).or (opsAt id b)
  | .cond _ a b => (opsAt id a).or (opsAt id b)
  | .block _ a => opsAt id a
  | .loop a => opsAt id a
  | _ => none

/-- The first i of n are listed. -/
def upto (n i : Nat) : Array Bool := (List.replicate i true ++ List.replicate (n - i) false).toArray
theorem upto_zero (n : Nat) : upto n 0 = Array.replicate n false := by simp [upto]
theorem upto_succ {n i : Nat} (h : i < n) : (upto n i).setIfInBounds i true = upto n (i + 1) := by
  have e : n - i = (n - (i + 1)) + 1 := by omega
  unfold upto
  rw [List.setIfInBounds_toArray]
  congr 1
  rw [List.set_append_right _ _ (by simp), List.length_replicate, Nat.sub_self, e, List.replicate_succ, List.set_cons_zero, List.replicate_succ', List.append_assoc]
  rfl

def statAt (ops : Array Oper) (n i : Nat) : Bool := Region.free .any ops (upto n i) i && (Region.ready .any ops (upto n i)).contains i
/-- cs: the operations that come up alone. -/
def table (ops : Array Oper) (n : Nat) (cs : List Nat) : Bool := (ops.size == n) && (Region.noSelect ops && ((List.range n).all (statAt ops n) && ((Region.ready .any ops (upto n n)).isEmpty && cs.all fun i => (Nat.blt i n) && (Region.ready .any ops (upto n i) == [i]))))

/-- The table's word, in a wrapping that no walk looks into. -/
structure Tab (ops : Array Oper) (n : Nat) (cs : List Nat) : Prop where
  out : table ops n cs = true

/-- What is left of the region when the first i operations are done. -/
def wpAt (P : Program) (ops : Array Oper) (Q : Exit → Act → World → Prop) (S : World → Prop) (n i : Nat) (a : Act) (w : World) : Prop := wpAnyH P .any ops Q S (n - i) (upto n i) a w

/-- Slot d filled: what 'put' does, in a form that computes by itself. -/
def setT (a : Act) (d : Nat) (v : Value) : Act := { a with tmps := (a.tmps.toList.set d v).toArray }
theorem put_setT (a : Act) (d : Nat) (v : Value) : a.put (some d) v = setT a d v := by
  unfold Act.put setT
  simp only
  congr 1
  exact Array.ext' (by simp)

section
variable {P : Program} {ops : Array Oper} {Q : Exit → Act → World → Prop} {S : World → Prop} {n : Nat} {cs : List Nat} {a : Act} {w : World}
theorem tab_of {c : Option Code} {id : Nat} (h : c.bind (opsAt id) = some ops) (T : (c.bind (opsAt id)).all (fun o => table o n cs) = true) : Tab ops n cs := by
  rw [h] at T; exact ⟨by simpa using T⟩
theorem table_parts (T' : Tab ops n cs) : ops.size = n ∧ Region.noSelect ops = true ∧ (∀ i, i < n → Region.free .any ops (upto n i) i = true ∧ (Region.ready .any ops (upto n i)).contains i = true) ∧ Region.ready .any ops (upto n n) = [] ∧ ∀ i, i ∈ cs → i < n ∧ Region.ready .any ops (upto n i) = [i] := by
  have T := T'.out
  simp only [table, Bool.and_eq_true, beq_iff_eq, List.all_eq_true, List.mem_range, statAt, List.isEmpty_iff, Nat.blt_eq] at T
  exact ⟨T.1, T.2.1, fun i hi => T.2.2.1 i hi, T.2.2.2.1, fun i hi => T.2.2.2.2 i hi⟩
theorem wp_begin {id : Nat} (T : Tab ops n cs) (hm : P.follows .mixedOrders = true) (hS : S w.drew) (h : Tab ops n cs → S w.drew → wpAt P ops Q S n 0 a w.drew) : Code.wp P (.region id ops true) Q a w := by
  refine wp_region_held_drew (S := S) hm hS fun hs => ?_
  obtain ⟨h1, -⟩ := table_parts T
  subst h1
  rw [← upto_zero]
  exact h T hs
/-- Operation i is taken; it is wanted. -/
theorem tkp (i d : Nat) {oi : Oper} (v : Value) (T : Tab ops n cs) (hy : ∀ w, S w → (execOp a.eval oi).run P w = .ok (.value v) w) (hS : S w) (h : wpAt P ops Q S n (i + 1) (setT a d v) w)
    (hi : ops[i]? = some oi := by rfl)
    (hg : (oi.dst == some d && Region.wanted oi (yielded ops a.tmps)) = true := by kernel_rfl)
    (hQ : ∀ c a w, Q (.panic c) (a.put (some d) v) w → Q (.panic c) a w := by exact fun _ _ _ h => h) : wpAt P ops Q S n i a w := by
  obtain ⟨h1, h2, h3, h4, h5⟩ := table_parts T
  have hlt : i < n := by have := (Array.getElem?_eq_some_iff.1 hi).1; omega
  simp only [Bool.and_eq_true, beq_iff_eq] at hg
  rw [← put_setT] at h
  unfold wpAt at h ⊢
  rw [show n - i = (n - (i + 1)) + 1 by omega]
  rw [← upto_succ hlt] at h
  exact wpAnyH_take hi h2 (h3 i hlt).1 (h3 i hlt).2 (by rw [hg.1]; exact hQ) (Or.inl ⟨hg.2, hy⟩) hS (by rw [hg.1]; exact h)
/-- None of these is wanted; ds: the slots that they would fill. -/
def skipsD (ops : Array Oper) : Nat → List Nat → Array Value → Bool
  | _, [], _ => true
  | i, d :: ds, tm => match ops[i]? with
    | some o => (o.dst == some d) && (!(Region.wanted o (yielded ops tm)) && skipsD ops (i + 1) ds (tm.toList.set d undef).toArray)
    | none => false
theorem skp (T : Tab ops n cs) (hQ : ∀ (d : Nat) v c a w, Q (.panic c) (a.put (some d) v) w → Q (.panic c) a w) (hS : S w) :
    ∀ (ds : List Nat) (i : Nat) (a : Act), skipsD ops i ds a.tmps = true → wpAt P ops Q S n (i + ds.length) (ds.foldl (fun a d => setT a d undef) a) w → wpAt P ops Q S n i a w
  | [], _, _, _, h => h
  | d :: ds, i, a, hk, h => by
    unfold skipsD at hk
    split at hk
    · rename_i o ho
      simp only [Bool.and_eq_true, beq_iff_eq, Bool.not_eq_true'] at hk
      obtain ⟨k1, k2, k3⟩ := hk
      obtain ⟨h1, h2, h3, h4, h5⟩ := table_parts T
      have hlt : i < n := by have := (Array.getElem?_eq_some_iff.1 ho).1; omega
      have hr := skp T hQ hS ds (i + 1) (setT a d undef) (by simpa [setT] using k3) (by rw [show i + 1 + ds.length = i + (d :: ds).length by simp; omega]; exact h)
      rw [← put_setT] at hr
      unfold wpAt at hr ⊢
      rw [show n - i = (n - (i + 1)) + 1 by omega]
      rw [← upto_succ hlt] at hr
      exact wpAnyH_take (v := undef) ho h2 (h3 i hlt).1 (h3 i hlt).2 (fun c a w => by rw [k1]; exact hQ d _ c a w) (Or.inr ⟨k2, rfl⟩) hS (by rw [k1]; exact hr)
    · cases hk
theorem skj {i j : Nat} (ds : List Nat) (hj : i + ds.length = j) (T : Tab ops n cs) (hQ : ∀ (d : Nat) v c a w, Q (.panic c) (a.put (some d) v) w → Q (.panic c) a w) (hS : S w) (hk : skipsD ops i ds a.tmps = true)
    (h : wpAt P ops Q S n j (ds.foldl (fun a d => setT a d undef) a) w) : wpAt P ops Q S n i a w := skp T hQ hS ds i a hk (by rw [hj]; exact h)
/-- Operation i is a call: it comes up alone. -/
theorem clp (i : Nat) (T : Tab ops n cs) (hi : i ∈ cs) (h : AllReadyH P .any ops Q S (n - (i + 1)) (upto n i) a w [i]) : wpAt P ops Q S n i a w := by
  obtain ⟨h1, h2, h3, h4, h5⟩ := table_parts T
  have hlt := (h5 i hi).1
  unfold wpAt
  rw [show n - i = (n - (i + 1)) + 1 by omega]
  exact wpAnyH_ready (h5 i hi).2 (by simp) h
theorem wpAt_in {i f : Nat} {l : Array Bool} (hlt : i < n) (hf : f = n - (i + 1)) (hl : l = (upto n i).setIfInBounds i true) (h : wpAt P ops Q S n (i + 1) a w) : wpAnyH P .any ops Q S f l a w := by
  subst hf hl
  rw [upto_succ hlt]
  exact h
theorem wp_end (T : Tab ops n cs) (h : Q .normal a w) : wpAt P ops Q S n n a w := by
  obtain ⟨h1, h2, h3, h4, h5⟩ := table_parts T
  exact wpAnyH_done h4 h _
end
theorem putA {α : Type} (l : List α) (i : Nat) (a : α) : l.toArray.setIfInBounds i a = (l.set i a).toArray := by simp
theorem put0 {α : Type} (x : α) (l : List α) (a : α) : (x :: l).set 0 a = a :: l := rfl
theorem putS {α : Type} (x : α) (l : List α) (i : Nat) (a : α) : (x :: l).set (i + 1) a = x :: l.set i a := rfl

/-- 'tkp', what it yields and the state behind it found by themselves. -/
theorem tkq {P : Program} {ops : Array Oper} {Q : Exit → Act → World → Prop} {S : World → Prop} {n : Nat} {cs : List Nat} {a a' : Act} {w : World} (i d : Nat) {oi : Oper} {v : Value} (T : Tab ops n cs) (hS : S w) (h : wpAt P ops Q S n (i + 1) a' w)
    (hi : ops[i]? = some oi := by rfl)
    (hg : (oi.dst == some d && Region.wanted oi (yielded ops a.tmps)) = true := by kernel_rfl)
    (hy : ∀ w, S w → (execOp a.eval oi).run P w = .ok (.value v) w := by (intro w s; (try dsimp only at s); go_simp <;> with_reducible rfl))
    (ha : setT a d v = a' := by (conv => lhs; dsimp only [setT, List.toList_toArray, put0, putS]))
    (hQ : ∀ c a w, Q (.panic c) (a.put (some d) v) w → Q (.panic c) a w := by exact fun _ _ _ h => h) : wpAt P ops Q S n i a w :=
  tkp i d v T hy hS (by rw [ha]; exact h) hi hg hQ

end Go.Proofs.YtdokgpdfdenoaaaGreat

/- Regions that draw their order, walked in a given order: what each operation asks of the others is reckoned once for a region, in a table. -/
namespace Go.Proofs.YtdokgpdfdenoaaaGreat
set_option linter.unusedVariables false

/-- Which operations are done when the first p of the order are. -/
def doneA (n : Nat) (l : List Nat) : Array Bool := l.foldl (fun a i => a.setIfInBounds i true) (Array.replicate n false)
theorem doneA_step {n p i : Nat} {ord : List Nat} (h : ord[p]? = some i) : (doneA n (ord.take p)).setIfInBounds i true = doneA n (ord.take (p + 1)) := by
  have hp : p < ord.length := (List.getElem?_eq_some_iff.1 h).1
  rw [List.take_succ_eq_append_getElem hp, (List.getElem?_eq_some_iff.1 h).2]
  unfold doneA
  rw [List.foldl_append]
  rfl
/-- cs: the places of those that come up alone. -/
def tableO (ops : Array Oper) (n : Nat) (ord cs : List Nat) : Bool :=
  (ops.size == n) && ((ord.length == n) && (Region.noSelect ops && ((List.range n).all (fun p => match ord[p]? with
    | some i => cs.contains p || (Region.free .any ops (doneA n (ord.take p)) i && (Region.ready .any ops (doneA n (ord.take p))).contains i)
    | none => false) && ((Region.ready .any ops (doneA n (ord.take n))).isEmpty && cs.all fun p => match ord[p]? with
    | some i => Nat.blt p n && (Region.ready .any ops (doneA n (ord.take p)) == [i])
    | none => false))))

/-- What is left of the region when the first p operations of the order are done. -/
def wpOrd (P : Program) (ops : Array Oper) (Q : Exit → Act → World → Prop) (S : World → Prop) (n : Nat) (ord : List Nat) (p : Nat) (a : Act) (w : World) : Prop := wpAnyH P .any ops Q S (n - p) (doneA n (ord.take p)) a w

/-- The table's word, in a wrapping that no walk looks into. -/
structure TabO (ops : Array Oper) (n : Nat) (ord cs : List Nat) : Prop where
  out : tableO ops n ord cs = true

section
variable {P : Program} {ops : Array Oper} {Q : Exit → Act → World → Prop} {S : World → Prop} {n : Nat} {ord cs : List Nat} {a : Act} {w : World}
theorem tabO_of {c : Option Code} {id : Nat} (h : c.bind (opsAt id) = some ops) (T : (c.bind (opsAt id)).all (fun o => tableO o n ord cs) = true) : TabO ops n ord cs := by
  rw [h] at T; exact ⟨by simpa using T⟩
theorem tabO_parts (T' : TabO ops n ord cs) : ops.size = n ∧ ord.length = n ∧ Region.noSelect ops = true ∧ (∀ p i, ord[p]? = some i → ¬ p ∈ cs → Region.free .any ops (doneA n (ord.take p)) i = true ∧ (Region.ready .any ops (doneA n (ord.take p))).contains i = true) ∧ Region.ready .any ops (doneA n (ord.take n)) = [] ∧
    ∀ p i, p ∈ cs → ord[p]? = some i → p < n ∧ Region.ready .any ops (doneA n (ord.take p)) = [i] := by
  have T := T'.out
  simp only [tableO, Bool.and_eq_true, beq_iff_eq, List.all_eq_true, List.mem_range, List.isEmpty_iff] at T
  obtain ⟨h1, h2, h3, h4, h5, h6⟩ := T
  refine ⟨h1, h2, h3, fun p i hp hc => ?_, h5, fun p i hc hp => ?_⟩
  · have hlt : p < n := by have := (List.getElem?_eq_some_iff.1 hp).1; omega
    have := h4 p hlt
    rw [hp] at this
    simp only [Bool.or_eq_true, Bool.and_eq_true, List.contains_iff_mem] at this
    rcases this with h | h
    · exact absurd h hc
    · exact ⟨h.1, by simpa using h.2⟩
  · have := h6 p hc
    rw [hp] at this
    simp only [Bool.and_eq_true, beq_iff_eq, Nat.blt_eq] at this
    exact this
theorem wpO_begin {id : Nat} (T : TabO ops n ord cs) (hm : P.follows .mixedOrders = true) (hS : S w.drew) (h : TabO ops n ord cs → S w.drew → wpOrd P ops Q S n ord 0 a w.drew) : Code.wp P (.region id ops true) Q a w := by
  refine wp_region_held_drew (S := S) hm hS fun hs => ?_
  obtain ⟨h1, -⟩ := tabO_parts T
  subst h1
  exact h T hs
/-- The operation at place p of the order is taken; it is wanted. -/
theorem tko (p i d : Nat) {oi : Oper} (v : Value) (T : TabO ops n ord cs) (hy : ∀ w, S w → (execOp a.eval oi).run P w = .ok (.value v) w) (hS : S w) (h : wpOrd P ops Q S n ord (p + 1) (setT a d v) w)
    (hp : ord[p]? = some i := by rfl) (hc : ¬ p ∈ cs := by decide)
    (hi : ops[i]? = some oi := by rfl)
    (hg : (oi.dst == some d && Region.wanted oi (yielded ops a.tmps)) = true := by kernel_rfl)
    (hQ : ∀ c a w, Q (.panic c) (a.put (some d) v) w → Q (.panic c) a w := by exact fun _ _ _ h => h) : wpOrd P ops Q S n ord p a w := by
  obtain ⟨h1, h2, h3, h4, h5, h6⟩ := tabO_parts T
  have hlt : p < n := by have := (List.getElem?_eq_some_iff.1 hp).1; omega
  simp only [Bool.and_eq_true, beq_iff_eq] at hg
  rw [← put_setT] at h
  unfold wpOrd at h ⊢
  rw [show n - p = (n - (p + 1)) + 1 by omega]
  rw [← doneA_step hp] at h
  exact wpAnyH_take hi h3 (h4 p i hp hc).1 (h4 p i hp hc).2 (by rw [hg.1]; exact hQ) (Or.inl ⟨hg.2, hy⟩) hS (by rw [hg.1]; exact h)
/-- The operation at place p comes up alone: a call, or one that makes memory. -/
theorem clo (p i : Nat) (T : TabO ops n ord cs) (hc : p ∈ cs) (hp : ord[p]? = some i) (h : AllReadyH P .any ops Q S (n - (p + 1)) (doneA n (ord.take p)) a w [i]) : wpOrd P ops Q S n ord p a w := by
  obtain ⟨h1, h2, h3, h4, h5, h6⟩ := tabO_parts T
  have hlt := (h6 p i hc hp).1
  unfold wpOrd
  rw [show n - p = (n - (p + 1)) + 1 by omega]
  exact wpAnyH_ready (h6 p i hc hp).2 (by simp) h
theorem wpOrd_in {p i f : Nat} {l : Array Bool} (hp : ord[p]? = some i) (hf : f = n - (p + 1)) (hl : l = (doneA n (ord.take p)).setIfInBounds i true) (h : wpOrd P ops Q S n ord (p + 1) a w) : wpAnyH P .any ops Q S f l a w := by
  subst hf hl
  rw [doneA_step hp]
  exact h
theorem wpO_end (T : TabO ops n ord cs) (h : Q .normal a w) : wpOrd P ops Q S n ord n a w := by
  obtain ⟨h1, h2, h3, h4, h5, h6⟩ := tabO_parts T
  exact wpAnyH_done h5 h _
end

/-- 'tko', what it yields and the state behind it found by themselves. -/
theorem tkw {P : Program} {ops : Array Oper} {Q : Exit → Act → World → Prop} {S : World → Prop} {n : Nat} {ord cs : List Nat} {a a' : Act} {w : World} (p i d : Nat) {oi : Oper} {v : Value} (T : TabO ops n ord cs) (hS : S w) (h : wpOrd P ops Q S n ord (p + 1) a' w)
    (hp : ord[p]? = some i := by rfl) (hc : ¬ p ∈ cs := by decide)
    (hi : ops[i]? = some oi := by rfl)
    (hg : (oi.dst == some d && Region.wanted oi (yielded ops a.tmps)) = true := by kernel_rfl)
    (hy : ∀ w, S w → (execOp a.eval oi).run P w = .ok (.value v) w := by (intro w s; (try dsimp only at s); go_simp <;> with_reducible rfl))
    (ha : setT a d v = a' := by (conv => lhs; dsimp only [setT, List.toList_toArray, put0, putS]))
    (hQ : ∀ c a w, Q (.panic c) (a.put (some d) v) w → Q (.panic c) a w := by exact fun _ _ _ h => h) : wpOrd P ops Q S n ord p a w :=
  tko p i d v T hy hS (by rw [ha]; exact h) hp hc hi hg hQ

end Go.Proofs.YtdokgpdfdenoaaaGreat

/- Regions that draw their order, walked in phases: each phase has a condition on the world of its own; a phase is closed when all that comes behind it waits for it. -/
namespace Go.Proofs.YtdokgpdfdenoaaaGreat
set_option linter.unusedVariables false

/-- Is one of the operations A still to come? -/
def left (A : List Nat) (L : Array Bool) : Bool := A.any fun i => !(L.getD i true)
theorem left_mem {A : List Nat} {L : Array Bool} {i : Nat} (h : i ∈ A) (h' : L.getD i true = false) : left A L = true := by
  unfold left
  rw [List.any_eq_true]
  exact ⟨i, h, by rw [h']; rfl⟩
theorem left_no {A : List Nat} {L : Array Bool} (h : ∀ i, i ∈ A → L.getD i false = true) : left A L = false := by
  unfold left
  rw [List.any_eq_false]
  intro i hi
  have := h i hi
  by_cases hs : i < L.size
  · simp [hs] at this ⊢; exact this
  · simp [Array.getElem?_eq_none (Nat.le_of_not_lt hs)] at this

/-- What an operation waits for. -/
def waits (md : Region.Mode) (ops : Array Oper) (j : Nat) : List Nat := match ops[j]? with
  | some o => (o.after.toList.filter (Region.binds md)).map (·.on)
  | none => []
inductive Anc (md : Region.Mode) (ops : Array Oper) : Nat → Nat → Prop
  | one {j i : Nat} : i ∈ waits md ops j → Anc md ops j i
  | more {j k i : Nat} : k ∈ waits md ops j → Anc md ops k i → Anc md ops j i
theorem Anc.then {md : Region.Mode} {ops : Array Oper} {j k i : Nat} (h : Anc md ops j k) (hi : i ∈ waits md ops k) : Anc md ops j i := by
  induction h with
  | one h => exact .more h (.one hi)
  | more h _ ih => exact .more h (ih hi)
def ClosedL (md : Region.Mode) (ops : Array Oper) (L : Array Bool) : Prop := ∀ k i, L.getD k false = true → i ∈ waits md ops k → L.getD i false = true
theorem anc_listed {md : Region.Mode} {ops : Array Oper} {L : Array Bool} {k i : Nat} (hc : ClosedL md ops L) (hk : L.getD k false = true) (h : Anc md ops k i) : L.getD i false = true := by
  induction h with
  | one h => exact hc _ _ hk h
  | more h _ ih => exact ih (hc _ _ hk h)
theorem ready_waits {md : Region.Mode} {ops : Array Oper} {L : Array Bool} {j i : Nat} (hj : j ∈ Region.ready md ops L) (h : i ∈ waits md ops j) : L.getD i false = true := by
  obtain ⟨-, o, ho, hall⟩ := mem_ready.1 hj
  unfold waits at h
  rw [ho] at h
  simp only [List.mem_map, List.mem_filter] at h
  obtain ⟨e, ⟨he, hb⟩, rfl⟩ := h
  exact hall e (by simpa using he) hb
theorem anc_ready {md : Region.Mode} {ops : Array Oper} {L : Array Bool} {j i : Nat} (hc : ClosedL md ops L) (hj : j ∈ Region.ready md ops L) (h : Anc md ops j i) : L.getD i false = true := by
  cases h with
  | one h => exact ready_waits hj h
  | more h h' => exact anc_listed hc (ready_waits hj h) h'
theorem closed_step {md : Region.Mode} {ops : Array Oper} {L : Array Bool} {j : Nat} (hc : ClosedL md ops L) (hj : j ∈ Region.ready md ops L) : ClosedL md ops (L.setIfInBounds j true) := by
  intro k i hk hi
  by_cases hjk : j = k
  · subst hjk; exact getD_set_true (ready_waits hj hi)
  · rw [getD_set_ne false hjk] at hk
    exact getD_set_true (hc k i hk hi)

/-- The operations that come ahead of one, gathered. -/
def addNew (l : List Nat) (i : Nat) : List Nat := if l.contains i then l else i :: l
theorem mem_addNew {xs l : List Nat} {i : Nat} (h : i ∈ xs.foldl addNew l) : i ∈ l ∨ i ∈ xs := by
  induction xs generalizing l with
  | nil => exact .inl h
  | cons x xs ih =>
    rcases ih h with h | h
    · unfold addNew at h
      split at h
      · exact .inl h
      · rcases List.mem_cons.1 h with rfl | h
        · exact .inr (List.mem_cons_self ..)
        · exact .inl h
    · exact .inr (List.mem_cons_of_mem _ h)
def ancL (md : Region.Mode) (ops : Array Oper) (j : Nat) : Nat → List Nat
  | 0 => waits md ops j
  | f + 1 => ((ancL md ops j f).flatMap (waits md ops)).foldl addNew (ancL md ops j f)
theorem anc_of {md : Region.Mode} {ops : Array Oper} {j : Nat} : ∀ (f i : Nat), i ∈ ancL md ops j f → Anc md ops j i
  | 0, i, h => .one h
  | f + 1, i, h => by
    rcases mem_addNew h with h | h
    · exact anc_of f i h
    · rw [List.mem_flatMap] at h
      obtain ⟨k, hk, hi⟩ := h
      exact (anc_of f k hk).then hi

section
variable {P : Program} {md : Region.Mode} {ops : Array Oper} {Q : Exit → Act → World → Prop} {S : World → Prop} {A : List Nat}
/-- Whatever order is picked: while one of A is still to come S holds behind each operation; then the rest goes in whatever order. -/
def wpAnyS (P : Program) (md : Region.Mode) (ops : Array Oper) (Q : Exit → Act → World → Prop) (S : World → Prop) (A : List Nat) : Nat → Array Bool → Act → World → Prop
  | 0, L, a, w => Region.ready md ops L = [] ∧ Q .normal a w
  | n + 1, L, a, w => (left A L = false → wpAny P md ops Q (n + 1) L a w) ∧ (left A L = true → (Region.ready md ops L = [] → Q .normal a w) ∧
      ∀ i ∈ Region.ready md ops L, wpOp P ops Q i (fun a' w' => S w' ∧ wpAnyS P md ops Q S A n (L.setIfInBounds i true) a' w') a w)
theorem wpAny_of_phase : ∀ (n : Nat) (L : Array Bool) (a : Act) (w : World), wpAnyS P md ops Q S A n L a w → wpAny P md ops Q n L a w
  | 0, _, _, _, h => h
  | n + 1, L, a, w, h => by
    cases hl : left A L with
    | false => exact h.1 hl
    | true => exact ⟨(h.2 hl).1, fun i hi => wpOp_mono (fun a' w' q => wpAny_of_phase n _ a' w' q.2) ((h.2 hl).2 i hi)⟩
/-- All that is not of A waits for all of A. -/
def Parts (md : Region.Mode) (ops : Array Oper) (A : List Nat) : Prop := ∀ j, (∃ o, ops[j]? = some o) → j ∉ A → ∀ i, i ∈ A → Anc md ops j i
theorem parts_ready {L : Array Bool} {j : Nat} (hA : Parts md ops A) (hc : ClosedL md ops L) (hj : j ∈ Region.ready md ops L) (hn : j ∉ A) : left A L = false := by
  obtain ⟨-, o, ho, -⟩ := mem_ready.1 hj
  exact left_no fun i hi => anc_ready hc hj (hA j ⟨o, ho⟩ hn i hi)
theorem wpAnyS_first {i : Nat} {oi : Oper} {v : Value} (hi : ops[i]? = some oi) (hR : i ∈ A) (hA : Parts md ops A) (hsel : ∀ (j : Nat) (o : Oper) cs b, ops[j]? = some o → o.op ≠ .select cs b) (hQ : ∀ c a w, Q (.panic c) (a.put oi.dst v) w → Q (.panic c) a w)
    (n : Nat) : ∀ (L : Array Bool) (a : Act) (w : World), ClosedL md ops L →
      (∀ j oj, ops[j]? = some oj → j ≠ i → L.getD j true = false → (∀ e ∈ oj.after, Region.binds md e = true → e.on ≠ i) → oi.apart ops oj = true) →
      i ∈ Region.ready md ops L → YieldsIf P ops S oi v a → S w → wpAnyS P md ops Q S A n (L.setIfInBounds i true) (a.put oi.dst v) w → wpAnyS P md ops Q S A (n + 1) L a w := by
  induction n with
  | zero =>
    intro L a w hc _ hr hy hS H
    have hl : left A L = true := left_mem hR (mem_ready.1 hr).1
    refine ⟨fun h => absurd hl (by rw [h]; simp), fun _ => ⟨fun h => absurd hr (by rw [h]; simp), fun j hj => ?_⟩⟩
    by_cases hji : j = i
    · subst hji; exact hy.wpOp hi hS ⟨hS, H⟩
    · exact absurd (ready_mono hj hji) (by rw [H.1]; simp)
  | succ n ih =>
    intro L a w hc hfree hr hy hS H
    have hl : left A L = true := left_mem hR (mem_ready.1 hr).1
    refine ⟨fun h => absurd hl (by rw [h]; simp), fun _ => ⟨fun h => absurd hr (by rw [h]; simp), fun j hj => ?_⟩⟩
    by_cases hji : j = i
    · subst hji; exact hy.wpOp hi hS ⟨hS, H⟩
    obtain ⟨hjun, oj, hoj, hall⟩ := mem_ready.1 hj
    have hjA : j ∈ A := by
      by_cases h : j ∈ A
      · exact h
      · exact absurd hl (by rw [parts_ready hA hc hj h]; simp)
    have hil := (mem_ready.1 hr).1
    have hnot : ∀ e ∈ oj.after, Region.binds md e = true → e.on ≠ i := by
      intro e he hb heq
      have q := hall e he hb
      rw [heq] at q
      by_cases hs : i < L.size
      · simp [hs] at hil q; rw [hil] at q; cases q
      · simp [Array.getElem?_eq_none (Nat.le_of_not_lt hs)] at q
    have hl' : left A (L.setIfInBounds i true) = true := left_mem hjA (by rw [getD_set_ne true (Ne.symm hji)]; exact hjun)
    have step := wpOp_putIf hoj (hfree j oj hoj hji hjun hnot) (fun cs b => hsel i oi cs b hi) (fun cs b => hsel j oj cs b hoj) hQ hy ((H.2 hl').2 j (ready_mono hj hji))
    refine wpOp_mono (fun a' w' q => ?_) step
    obtain ⟨q1, q2, q3⟩ := q
    exact ⟨q2, ih (L.setIfInBounds j true) a' w' (closed_step hc hj) (fun k ok hk hki hun hno => hfree k ok hk hki (by
        by_cases hjk : j = k
        · subst hjk; exact hjun
        · rwa [getD_set_ne true hjk] at hun) hno) (ready_mono hr (Ne.symm hji)) q1 q2 (by rw [Array.setIfInBounds_comm _ _ hji]; exact q3)⟩
end

/-- The table of a region that is walked in phases: qs, how many operations of the order are done at the end of each; f, how far ahead it is looked. -/
def tableS (ops : Array Oper) (n : Nat) (ord cs qs : List Nat) (f : Nat) : Bool :=
  tableO ops n ord cs && ((List.range (n + 1)).all (fun p => (List.range n).all fun k => !((doneA n (ord.take p)).getD k false) || (waits .any ops k).all fun i => (doneA n (ord.take p)).getD i false) &&
    qs.all fun q => (List.range n).all fun j => (ord.take q).contains j || (ord.take q).all fun i => (ancL .any ops j f).contains i)
structure TabS (ops : Array Oper) (n : Nat) (ord cs qs : List Nat) (f : Nat) : Prop where
  out : tableS ops n ord cs qs f = true

/-- What is left of the region when the first p operations of the order are done, in the phase that ends at q. -/
def wpPh (P : Program) (ops : Array Oper) (Q : Exit → Act → World → Prop) (S : World → Prop) (n : Nat) (ord : List Nat) (q p : Nat) (a : Act) (w : World) : Prop := wpAnyS P .any ops Q S (ord.take q) (n - p) (doneA n (ord.take p)) a w

section
variable {P : Program} {ops : Array Oper} {Q : Exit → Act → World → Prop} {S : World → Prop} {n f : Nat} {ord cs qs : List Nat} {a : Act} {w : World}
theorem tabS_of {c : Option Code} {id : Nat} (h : c.bind (opsAt id) = some ops) (T : (c.bind (opsAt id)).all (fun o => tableS o n ord cs qs f) = true) : TabS ops n ord cs qs f := by
  rw [h] at T; exact ⟨by simpa using T⟩
theorem TabS.o (T : TabS ops n ord cs qs f) : TabO ops n ord cs := by
  have := T.out
  simp only [tableS, Bool.and_eq_true] at this
  exact ⟨this.1⟩
theorem TabS.closed (T : TabS ops n ord cs qs f) {p : Nat} (hp : p ≤ n) : ClosedL .any ops (doneA n (ord.take p)) := by
  have h := T.out
  simp only [tableS, Bool.and_eq_true, List.all_eq_true, List.mem_range] at h
  intro k i hk hi
  have hs := (tabO_parts T.o).1
  have hkn : k < n := by
    by_cases hkn : k < n
    · exact hkn
    · unfold waits at hi
      rw [Array.getElem?_eq_none (by omega)] at hi
      cases hi
  have := h.2.1 p (by omega) k hkn
  rw [hk] at this
  simp only [Bool.not_true, Bool.false_or, List.all_eq_true] at this
  exact this i hi
theorem TabS.parts (T : TabS ops n ord cs qs f) {q : Nat} (hq : q ∈ qs) : Parts .any ops (ord.take q) := by
  have h := T.out
  simp only [tableS, Bool.and_eq_true, List.all_eq_true, List.mem_range] at h
  intro j hj hn i hi
  have hs := (tabO_parts T.o).1
  obtain ⟨o, ho⟩ := hj
  have hjn : j < n := by rw [← hs]; exact (Array.getElem?_eq_some_iff.1 ho).1
  have := h.2.2 q hq j hjn
  simp only [Bool.or_eq_true, List.contains_iff_mem, List.all_eq_true] at this
  rcases this with h | h
  · exact absurd h hn
  · exact anc_of f i (h i hi)
theorem wpS_begin {id : Nat} (q : Nat) (T : TabS ops n ord cs qs f) (hm : P.follows .mixedOrders = true) (hS : S w.drew) (h : TabS ops n ord cs qs f → S w.drew → wpPh P ops Q S n ord q 0 a w.drew) : Code.wp P (.region id ops true) Q a w := by
  refine wp_region_any hm ?_
  have h1 := (tabO_parts T.o).1
  have := wpAny_of_phase _ _ _ _ (h T hS)
  subst h1
  exact this
/-- The operation at place p is taken; it is wanted. -/
theorem tks0 (p i d : Nat) {q : Nat} {oi : Oper} (v : Value) (T : TabS ops n ord cs qs f) (hy : ∀ w, S w → (execOp a.eval oi).run P w = .ok (.value v) w) (hS : S w) (h : wpPh P ops Q S n ord q (p + 1) (setT a d v) w)
    (hp : (ord.take q)[p]? = some i) (hc : ¬ p ∈ cs) (hq : q ∈ qs) (hi : ops[i]? = some oi)
    (hg : (oi.dst == some d && Region.wanted oi (yielded ops a.tmps)) = true) (hQ : ∀ c a w, Q (.panic c) (a.put (some d) v) w → Q (.panic c) a w) : wpPh P ops Q S n ord q p a w := by
  obtain ⟨h1, h2, h3, h4, h5, h6⟩ := tabO_parts T.o
  have hp' : ord[p]? = some i := by
    rw [List.getElem?_take] at hp
    split at hp
    · exact hp
    · cases hp
  have hlt : p < n := by have := (List.getElem?_eq_some_iff.1 hp').1; omega
  simp only [Bool.and_eq_true, beq_iff_eq] at hg
  rw [← put_setT] at h
  unfold wpPh at h ⊢
  rw [show n - p = (n - (p + 1)) + 1 by omega]
  rw [← doneA_step hp'] at h
  exact wpAnyS_first hi (List.mem_of_getElem? hp) (T.parts hq) (Region.noSelect_spec h3) (by rw [hg.1]; exact hQ) _ _ _ _ (T.closed (by omega)) (Region.free_spec hi (h4 p i hp' hc).1) (by simpa using (h4 p i hp' hc).2) (Or.inl ⟨hg.2, hy⟩) hS (by rw [hg.1]; exact h)
/-- The operation at place p comes up alone. -/
theorem cls (p i : Nat) {q : Nat} {oi : Oper} (T : TabS ops n ord cs qs f) (hc : p ∈ cs) (hp : (ord.take q)[p]? = some i) (hi : ops[i]? = some oi)
    (h : ∀ K : Act → World → Prop, Shut (∀ a w, S w → (S w → wpPh P ops Q S n ord q (p + 1) a w) → K a w) → if Region.wanted oi (yielded ops a.tmps) = true then Oper.wp P oi a w K Q else K (a.put oi.dst undef) w) : wpPh P ops Q S n ord q p a w := by
  obtain ⟨h1, h2, h3, h4, h5, h6⟩ := tabO_parts T.o
  have hp' : ord[p]? = some i := by
    rw [List.getElem?_take] at hp
    split at hp
    · exact hp
    · cases hp
  have hlt := (h6 p i hc hp').1
  have hr := (h6 p i hc hp').2
  have hun : (doneA n (ord.take p)).getD i true = false := (mem_ready.1 (show i ∈ Region.ready .any ops (doneA n (ord.take p)) by rw [hr]; simp)).1
  have hl : left (ord.take q) (doneA n (ord.take p)) = true := left_mem (List.mem_of_getElem? hp) hun
  unfold wpPh
  rw [show n - p = (n - (p + 1)) + 1 by omega]
  refine ⟨fun h => absurd hl (by rw [h]; simp), fun _ => ⟨fun h => absurd hr (by rw [h]; simp), fun j hj => ?_⟩⟩
  rw [hr] at hj
  obtain rfl : j = i := by simpa using hj
  exact wpOp_step hi (fun K hK => h K (fun a w hS hW => hK a w ⟨hS, by rw [doneA_step hp']; exact hW hS⟩))
/-- A phase is over, the next one begins. -/
theorem wpS_next {S' : World → Prop} (q q' : Nat) (T : TabS ops n ord cs qs f) (hl : left (ord.take q) (doneA n (ord.take q)) = false) (hS : S' w) (h : S' w → wpPh P ops Q S' n ord q' q a w) : wpPh P ops Q S n ord q q a w := by
  have h := wpAny_of_phase _ _ _ _ (h hS)
  unfold wpPh
  revert h
  generalize n - q = m
  intro h
  cases m with
  | zero => exact h
  | succ m => exact ⟨fun _ => h, fun hh => absurd hh (by rw [hl]; simp)⟩
theorem wpS_end {q : Nat} (T : TabS ops n ord cs qs f) (h : Q .normal a w) : wpPh P ops Q S n ord q n a w := by
  obtain ⟨h1, h2, h3, h4, h5, h6⟩ := tabO_parts T.o
  unfold wpPh
  rw [Nat.sub_self]
  exact ⟨h5, h⟩
end

/-- 'tks0', what it yields and the state behind it found by themselves. -/
theorem tks {P : Program} {ops : Array Oper} {Q : Exit → Act → World → Prop} {S : World → Prop} {n f q : Nat} {ord cs qs : List Nat} {a a' : Act} {w : World} (p i d : Nat) {oi : Oper} {v : Value} (T : TabS ops n ord cs qs f) (hS : S w) (h : wpPh P ops Q S n ord q (p + 1) a' w)
    (hp : (ord.take q)[p]? = some i := by rfl) (hc : ¬ p ∈ cs := by decide) (hq : q ∈ qs := by decide)
    (hi : ops[i]? = some oi := by rfl)
    (hg : (oi.dst == some d && Region.wanted oi (yielded ops a.tmps)) = true := by kernel_rfl)
    (hy : ∀ w, S w → (execOp a.eval oi).run P w = .ok (.value v) w := by (intro w s; (try dsimp only at s); go_simp <;> with_reducible rfl))
    (ha : setT a d v = a' := by (conv => lhs; dsimp only [setT, List.toList_toArray, put0, putS]))
    (hQ : ∀ c a w, Q (.panic c) (a.put (some d) v) w → Q (.panic c) a w := by exact fun _ _ _ h => h) : wpPh P ops Q S n ord q p a w :=
  tks0 p i d v T hy hS (by rw [ha]; exact h) hp hc hq hi hg hQ

end Go.Proofs.YtdokgpdfdenoaaaGreat
