/- The proof's texts, part 16. -/
import Derived.Test.YtodoofdbpffolaaPart7
import Derived.Test.YtodoofdbpffolaaPart15

/- What Merge of package spec does. -/
namespace Go.Proofs.Ytodoofdbpffolaa
open Go.RowKit
set_option maxRecDepth 100000
set_option linter.unusedVariables false
set_option linter.unusedSimpArgs false

theorem tabS_mrg10 : (Try.f5.body.bind (opsAt 10)).all (fun o => tableS o 11 [0, 1, 2, 3, 4, 5, 6, 7, 8, 9, 10] [7, 8, 10] [9, 11] 0) = true := by kernel_rfl
theorem tabS_mrg12 : (Try.f5.body.bind (opsAt 12)).all (fun o => tableS o 11 [0, 1, 2, 3, 4, 5, 6, 7, 8, 9, 10] [7, 8, 10] [9, 11] 0) = true := by kernel_rfl

/-- What has come of the first numbers. -/
def mpre (o c : BoxD) (k : Nat) : List MailD := (List.range k).filterMap fun (i : Nat) => pickM o c ((i : Int) + 1)
theorem mpre_len (o c : BoxD) (k : Nat) : (mpre o c k).length ≤ k := by
  have := List.length_filterMap_le (fun (i : Nat) => pickM o c ((i : Int) + 1)) (List.range k)
  simpa [mpre] using this
theorem mpre_yes {o c : BoxD} {k : Nat} {m : MailD} (h : pickM o c ((k : Int) + 1) = some m) : mpre o c (k + 1) = mpre o c k ++ [m] := by
  unfold mpre
  rw [List.range_succ, List.filterMap_append]
  simp [h]
theorem mpre_no {o c : BoxD} {k : Nat} (h : pickM o c ((k : Int) + 1) = none) : mpre o c (k + 1) = mpre o c k := by
  unfold mpre
  rw [List.range_succ, List.filterMap_append]
  simp [h]
theorem first_cases {α : Type} (p : α → Bool) (l : List α) : (∃ i m, firstI p l = (i : Nat) ∧ l[i]? = some m ∧ l.find? p = some m) ∨ (firstI p l = -1 ∧ l.find? p = none) := by
  unfold firstI
  cases h : l.findIdx? p with
  | none =>
    refine .inr ⟨rfl, ?_⟩
    rw [List.findIdx?_eq_none_iff] at h
    rw [List.find?_eq_none]
    intro x hx
    simp [h x hx]
  | some i =>
    rw [List.findIdx?_eq_some_iff_getElem] at h
    obtain ⟨hi, hp, hn⟩ := h
    refine .inl ⟨i, l[i], rfl, List.getElem?_eq_getElem hi, ?_⟩
    rw [List.find?_eq_some_iff_getElem]
    exact ⟨hp, i, hi, rfl, fun j hj => by simpa using hn j hj⟩
theorem szX_merged {o c : BoxD} (ho : OkM o) (hc : OkM c) (hn : o.name.length ≤ 2000000 - 1000) (hl : (mergedM o c).length ≤ 12) (v n s l : Int) : szX ⟨o.name, v, n, s, mergedM o c, [], l⟩ ≤ 2000000 := by
  have h : ∀ ms : List MailD, (∀ m ∈ ms, m.text.length ≤ 30) → szM ms ≤ 31 * ms.length := by
    intro ms
    induction ms with
    | nil => intro _; simp [szM]
    | cons m ms ih =>
      intro hm
      have a := ih fun x hx => hm x (List.mem_cons_of_mem _ hx)
      have b := hm m (by simp)
      simp only [szM, List.map_cons, List.sum_cons, List.length_cons] at a ⊢
      omega
  have := h _ (mergedM_text ho hc)
  simp only [szX, List.length_nil]
  omega

theorem box_end {w9 W : World} {cs : List Value} {o c : BoxD} {M : List MailD} {S S' : Nat → Prop} (h : BoxE w9 cs ⟨o.name, o.valid, c.next, c.seq, M, [], c.lost⟩ S) (hf : ∀ b, S b → b < w9.heap.size → W.heap[b]? = w9.heap[b]?) (hS : ∀ b, S b → S' b) (ev : o.valid = c.valid) (en : o.name = c.name) : BoxE W cs ⟨c.name, c.valid, c.next, c.seq, M, [], c.lost⟩ S' := by
  rw [ev, en] at h
  obtain ⟨v0, v1, v2, S0, S1, S2, e0, r0, r1, r2, d0, d1, d2, hii⟩ := framesBox _ W _ _ _ h hf
  exact ⟨v0, v1, v2, S0, S1, S2, e0, r0, r1, r2, fun b hb => ⟨hS b (d0 b hb).1, (d0 b hb).2⟩, fun b hb => ⟨hS b (d1 b hb).1, (d1 b hb).2⟩, fun b hb => hS b (d2 b hb), hii⟩

set_option maxRecDepth 100000 in
set_option maxHeartbeats 8000000 in
theorem specMerge_r (v u : Value) (o c : BoxD) (w : World) (hv : BoxV w v o) (hu : BoxV w u c) (hso : szX o ≤ 1100000) (hsc : szX c ≤ 1100000) :
    Calls Try.prog 5 #[v, u] w fun e w' => ∃ x, e = .returned (.tuple #[x, .bool (mergeB o c)]) ∧ BoxO w' (In w.heap.size w'.heap.size) x (mergeD o c) ∧ Below w.heap.size w w' := by
  have HV : Hid (∀ wi, Below w.heap.size w wi → BoxV wi v o ∧ BoxV wi u c) := fun wi h => ⟨hv.below h, hu.below h⟩
  obtain ⟨u0, u1, u2, rfl, g0, g1, g2, hio⟩ := hv
  obtain ⟨u3, u4, u5, rfl, g3, g4, g5, hic⟩ := hu
  have HMo : Hid (MailsV w u1 o.mails) := g1
  have HMc : Hid (MailsV w u4 c.mails) := g4
  have HN : Hid (∀ wi, Below w.heap.size w wi → Bs wi u0 o.name ∧ Bs wi u3 c.name) := fun wi h => ⟨g0.below h, g3.below h⟩
  have HE : Hid (((strOfNums o.name).toList == (strOfNums c.name).toList) = decide (o.name = c.name)) := str_eq g0.1 g3.1
  obtain ⟨a0, n0, c0, rfl⟩ := g0.form3
  obtain ⟨a1, c1, rfl, m1, m1'⟩ := g1.form
  obtain ⟨a2, c2, rfl, m2, m2'⟩ := g2.form
  obtain ⟨a3, n3, c3, rfl⟩ := g3.form3
  obtain ⟨a4, c4, rfl, m4, m4'⟩ := g4.form
  obtain ⟨a5, c5, rfl, m5, m5'⟩ := g5.form
  have HIO : Hid (I64 o.valid ∧ I64 o.next ∧ I64 o.seq ∧ I64 o.lost) := hio
  have HIC : Hid (I64 c.valid ∧ I64 c.next ∧ I64 c.seq ∧ I64 c.lost) := hic
  have HG : Hid (∀ wi, Below w.heap.size w wi → GonesV wi (.slice a5 c.gones.length c5) c.gones) := fun wi h => g5.below keepsGone h
  clear g0 g1 g2 g3 g4 g5 hio hic
  obtain ⟨z0, hi, hz0, hz1, hz2⟩ := info_parts infoMail
  have HMB : Hid (mergeB o c = (boxB o 1000000 && (boxB c 1000000 && (laterB o c && decide ((mergedM o c).length ≤ 12))))) := rfl
  obtain ⟨kO, kC, kR, X, hsz⟩ := boxes3 w (.cells #[.slice a0 n0 c0, .int .i64 o.valid, .int .i64 o.next, .int .i64 o.seq, .slice a1 o.mails.length c1, .slice a2 o.gones.length c2, .int .i64 o.lost] 31) (.cells #[.slice a3 n3 c3, .int .i64 c.valid, .int .i64 c.next, .int .i64 c.seq, .slice a4 c.mails.length c4, .slice a5 c.gones.length c5, .int .i64 c.lost] 31) (.cells #[.slice none 0 0, .int .i64 0, .int .i64 0, .int .i64 0, .slice none 0 0, .slice none 0 0, .int .i64 0] 31)
  have HKO : Hid _ := kO
  have HKC : Hid _ := kC
  have HKR : Hid _ := kR
  have HX : Hid _ := X
  have ho := l3boxOk_any _ o 1000000 _ (HV.out _ X).1
  have hnl : o.name.length ≤ 1100000 := by unfold szX at hso; omega
  clear hso hsc
  obtain ⟨p0, p1, p2, p3, p4, p5, p6⟩ := bx7 kO
  clear kO kC kR X
  go_enter Try.func5, Try.ntmps5
  go_wp2_with fail
  clear p0 p1 p2 p3 p4 p5 p6
  generalize ((w.alloc (.cells #[.slice a0 n0 c0, .int .i64 o.valid, .int .i64 o.next, .int .i64 o.seq, .slice a1 o.mails.length c1, .slice a2 o.gones.length c2, .int .i64 o.lost] 31)).alloc (.cells #[.slice a3 n3 c3, .int .i64 c.valid, .int .i64 c.next, .int .i64 c.seq, .slice a4 c.mails.length c4, .slice a5 c.gones.length c5, .int .i64 c.lost] 31)).alloc (.cells #[.slice none 0 0, .int .i64 0, .int .i64 0, .int .i64 0, .slice none 0 0, .slice none 0 0, .int .i64 0] 31) = wA at HKO HKC HKR HX hsz ho ⊢
  refine ho.mono ?_
  rintro e w1 ⟨rfl, B1⟩
  have HKO1 : Hid _ := box_below B1 HKO.out
  have HKC1 : Hid _ := box_below B1 HKC.out
  have HKR1 : Hid _ := box_below B1 HKR.out
  have HX1 : Hid (Below w.heap.size w w1) := Below.step HX.out B1
  have s1 : w.heap.size + 3 ≤ w1.heap.size := by have := B1.size; omega
  clear HKO HKC HKR HX hsz ho B1
  cases X1 : boxB o 1000000 with
  | false =>
    have HM : mergeB o c = false := by rw [HMB.out, X1]; rfl
    obtain ⟨r0, r1, r2, r3, r4, r5, r6⟩ := bx7 HKR1.out
    obtain ⟨rz, rl⟩ := box8z HKR1.out
    have HF : Hid _ := res7 HKR1.out (N := w.heap.size) (by omega) HX1.out (.slice none 0 0) (.int .i64 0) (.int .i64 0) (.int .i64 0) (.slice none 0 0) (.slice none 0 0) (.int .i64 0)
    go_wp2
    obtain ⟨f0, f1, f2, f3, f4, f5, f6⟩ := bx7 HF.out.1
    refine bodyPost_ret (v := .tuple #[.agg #[.slice none 0 0, .int .i64 0, .int .i64 0, .int .i64 0, .slice none 0 0, .slice none 0 0, .int .i64 0], .bool false]) (by simp [results, Try.results5, go_sem, f0, f1, f2, f3, f4, f5, f6]) rfl ⟨_, ret_mrg HM, ?_, HF.out.2.1⟩
    rw [mergeD_no HM]
    exact ⟨_, rfl, _, _, _, fun _ => False, fun _ => False, fun _ => False, rfl, RO.nil _ _, .inl ⟨rfl, rfl⟩, .inl ⟨rfl, rfl⟩, fun _ h => h.elim, fun _ h => h.elim, fun _ h => h.elim, i64c0, i64c0, i64c0, i64c0⟩
  | true =>
    have HO1 : Hid (boxB o 1000000 = true) := X1
    clear X1
    have hc := l3boxOk_any _ c 1000000 _ (HV.out _ HX1.out).2
    obtain ⟨p0, p1, p2, p3, p4, p5, p6⟩ := bx7 HKC1.out
    have lC := lt_of_heap HKC1.out
    go_wp2_with fail
    clear p0 p1 p2 p3 p4 p5 p6
    refine hc.mono ?_
    rintro e wb ⟨rfl, B2⟩
    have HKO2 : Hid _ := box_below B2 HKO1.out
    have HKC2 : Hid _ := box_below B2 HKC1.out
    have HKR2 : Hid _ := box_below B2 HKR1.out
    have HX2 : Hid (Below w.heap.size w wb) := Below.step HX1.out B2
    have s2 : w.heap.size + 3 ≤ wb.heap.size := by have := B2.size; omega
    clear HKO1 HKC1 HKR1 HX1 s1 hc B2 lC
    cases X2 : boxB c 1000000 with
    | false =>
      have HM : mergeB o c = false := by rw [HMB.out, X2, HO1.out]; rfl
      obtain ⟨r0, r1, r2, r3, r4, r5, r6⟩ := bx7 HKR2.out
      obtain ⟨rz, rl⟩ := box8z HKR2.out
      have HF : Hid _ := res7 HKR2.out (N := w.heap.size) (by omega) HX2.out (.slice none 0 0) (.int .i64 0) (.int .i64 0) (.int .i64 0) (.slice none 0 0) (.slice none 0 0) (.int .i64 0)
      go_wp2
      obtain ⟨f0, f1, f2, f3, f4, f5, f6⟩ := bx7 HF.out.1
      refine bodyPost_ret (v := .tuple #[.agg #[.slice none 0 0, .int .i64 0, .int .i64 0, .int .i64 0, .slice none 0 0, .slice none 0 0, .int .i64 0], .bool false]) (by simp [results, Try.results5, go_sem, f0, f1, f2, f3, f4, f5, f6]) rfl ⟨_, ret_mrg HM, ?_, HF.out.2.1⟩
      rw [mergeD_no HM]
      exact ⟨_, rfl, _, _, _, fun _ => False, fun _ => False, fun _ => False, rfl, RO.nil _ _, .inl ⟨rfl, rfl⟩, .inl ⟨rfl, rfl⟩, fun _ h => h.elim, fun _ h => h.elim, fun _ h => h.elim, i64c0, i64c0, i64c0, i64c0⟩
    | true =>
      have HC1 : Hid (boxB c 1000000 = true) := X2
      clear X2
      have cv1 := run_convert_bs (HN.out _ HX2.out).1
      have cv2 := run_convert_bs (HN.out _ HX2.out).2
      obtain ⟨p0, p1, p2, p3, p4, p5, p6⟩ := bx7 HKO2.out
      obtain ⟨q0, q1, q2, q3, q4, q5, q6⟩ := bx7 HKC2.out
      have lO := lt_of_heap HKO2.out
      have lC := lt_of_heap HKC2.out
      have HMB1 : Hid (mergeB o c = (laterB o c && decide ((mergedM o c).length ≤ 12))) := by
        show _ = _
        rw [HMB.out, HO1.out, HC1.out]; rfl
      have OKO : Hid (OkM o) := okM_of HO1.out
      have OKC : Hid (OkM c) := okM_of HC1.out
      clear HMB HO1 HC1
      have HLB : Hid (laterB o c = (decide (o.name = c.name) && (decide (o.valid = c.valid) && (decide (o.seq ≤ c.seq) && decide (o.next ≤ c.next))))) := rfl
      by_cases t1 : o.name = c.name
      · have e1 := HE.out.trans (decide_eq_true t1)
        have T1 : Hid (decide (o.name = c.name) = true) := decide_eq_true t1
        clear t1
        by_cases t2 : o.valid = c.valid
        · have e2 : (o.valid != c.valid) = false := by simpa using t2
          have T2 : Hid (decide (o.valid = c.valid) = true) := decide_eq_true t2
          clear t2
          by_cases t3 : o.seq ≤ c.seq
          · have e3 : decide (c.seq < o.seq) = false := by simpa using t3
            have T3 : Hid (decide (o.seq ≤ c.seq) = true) := decide_eq_true t3
            clear t3
            by_cases t4 : o.next ≤ c.next
            · have e4 : decide (c.next < o.next) = false := by simpa using t4
              have HNX : Hid (o.next ≤ c.next) := t4
              have HML : Hid (mergeB o c = decide ((mergedM o c).length ≤ 12)) := by
                show _ = _
                rw [HMB1.out, HLB.out, T1.out, T2.out, T3.out, decide_eq_true t4]; rfl
              clear t4
              have A3 : Below wb.heap.size wb (wb.alloc (.cells #[.slice a0 n0 c0, .int .i64 o.valid, .int .i64 c.next, .int .i64 c.seq, .slice none 0 0, .slice none 0 0, .int .i64 c.lost] 31)) := (Below.refl _ _).alloc (Nat.le_refl _) _
              have HKO3 := hidm' (box_below A3 HKO2.out)
              have HKC3 := hidm' (box_below A3 HKC2.out)
              have HKR3 := hidm' (box_below A3 HKR2.out)
              have HX3 : Hid (Below w.heap.size w (wb.alloc (.cells #[.slice a0 n0 c0, .int .i64 o.valid, .int .i64 c.next, .int .i64 c.seq, .slice none 0 0, .slice none 0 0, .int .i64 c.lost] 31))) := Below.step HX2.out A3
              have HBX3 := hidm' (box_new wb (.cells #[.slice a0 n0 c0, .int .i64 o.valid, .int .i64 c.next, .int .i64 c.seq, .slice none 0 0, .slice none 0 0, .int .i64 c.lost] 31))
              go_wp2
              clear p0 p1 p2 p3 p4 p5 p6 q0 q1 q2 q3 q4 q5 q6 cv1 cv2 lO lC e1 e2 e3 e4 A3
              go_loopw [7] (fun i wr => ∃ (k : Nat) (va : Option Addr) (vn vc : Nat), (k : Int) ≤ c.next - 1 ∧ i = .int .i64 ((k : Int) + 1) ∧ Hid (Below w.heap.size w wr) ∧ Hid (wr.heap[w.heap.size]? = some (.cells #[.slice a0 n0 c0, .int .i64 o.valid, .int .i64 o.next, .int .i64 o.seq, .slice a1 o.mails.length c1, .slice a2 o.gones.length c2, .int .i64 o.lost] 31 (0, 0))) ∧ Hid (wr.heap[w.heap.size + 1]? = some (.cells #[.slice a3 n3 c3, .int .i64 c.valid, .int .i64 c.next, .int .i64 c.seq, .slice a4 c.mails.length c4, .slice a5 c.gones.length c5, .int .i64 c.lost] 31 (0, 0))) ∧ Hid (wr.heap[w.heap.size + 2]? = some (.cells #[.slice none 0 0, .int .i64 0, .int .i64 0, .int .i64 0, .slice none 0 0, .slice none 0 0, .int .i64 0] 31 (0, 0))) ∧ Hid (wr.heap[wb.heap.size]? = some (.cells #[.slice a0 n0 c0, .int .i64 o.valid, .int .i64 c.next, .int .i64 c.seq, .slice va vn vc, .slice none 0 0, .int .i64 c.lost] 31 (0, 0))) ∧ (wb.heap.size + 1) ≤ wr.heap.size ∧ Hid (MailsW w wr (wb.heap.size + 1) wr.heap.size (.slice va vn vc) (mpre o c k))) (fun i _ => (c.next - intOf i).toNat)
              case atStart => exact ⟨0, none, 0, 0, by have := OKC.out.next; omega, by simp, HX3, HKO3, HKC3, HKR3, HBX3, by simp, .inl ⟨rfl, rfl⟩⟩
              case round =>
                obtain ⟨k, va, vn, vc, hk, rfl, HB, HO, HC, HR, HXX, hs, HW⟩ := hrel
                clear HX3 HKO3 HKC3 HKR3 HBX3 HKO2 HKC2 HKR2 HX2
                obtain ⟨q0, q1, q2, q3, q4, q5, q6⟩ := bx7 HC.out
                have lC := lt_of_heap HC.out
                by_cases hlt : (k : Int) + 1 < c.next
                · have hnx : c.next ≤ 1000000 := OKC.out.next.2
                  have hf := l3mail_any _ c ((k : Int) + 1) _ (HV.out _ HB.out).2
                  go_wp2_with fail
                  clear q0 q1 q2 q3 q4 q5 q6
                  refine hf.mono ?_
                  rintro e w4 ⟨rfl, B4⟩
                  have HO4 := hidm' (box_below B4 HO.out)
                  have HC4 := hidm' (box_below B4 HC.out)
                  have HR4 := hidm' (box_below B4 HR.out)
                  have HX4 := hidm' (box_below B4 HXX.out)
                  have HB4 : Hid (Below w.heap.size w w4) := Below.step HB.out B4
                  have HW4 : Hid (Ow 43 4 (MailWE w) w4 (In (wb.heap.size + 1) wr.heap.size) (.slice va vn vc) (mpre o c k)) := Ow.below (framesMW w) HW.out B4
                  have s4 : wr.heap.size ≤ w4.heap.size := B4.size
                  clear hf B4 HO HC HR HXX HB HW lC
                  have hf := l3mail_any _ o ((k : Int) + 1) _ (HV.out _ HB4.out).1
                  obtain ⟨p0, p1, p2, p3, p4, p5, p6⟩ := bx7 HO4.out
                  have lO := lt_of_heap HO4.out
                  go_wp2_with fail
                  clear p0 p1 p2 p3 p4 p5 p6
                  refine hf.mono ?_
                  rintro e w5 ⟨rfl, B5⟩
                  have HO5 := hidm' (box_below B5 HO4.out)
                  have HC5 := hidm' (box_below B5 HC4.out)
                  have HR5 := hidm' (box_below B5 HR4.out)
                  have HX5 := hidm' (box_below B5 HX4.out)
                  have HB5 : Hid (Below w.heap.size w w5) := Below.step HB4.out B5
                  have s5 : w4.heap.size ≤ w5.heap.size := B5.size
                  have HW5 : Hid (Ow 43 4 (MailWE w) w5 (In (wb.heap.size + 1) w5.heap.size) (.slice va vn vc) (mpre o c k)) := Ow.mono (Ow.below (framesMW w) HW4.out B5) fun b hb => ⟨hb.1, by have := hb.2; omega⟩
                  have hs5 : (wb.heap.size + 1) ≤ w5.heap.size := by omega
                  clear hf B5 HO4 HC4 HR4 HX4 HB4 HW4 lO hs
                  rcases first_cases (fun m : MailD => decide (m.uid = (k : Int) + 1)) c.mails with ⟨i, m, h1, hm, h3⟩ | ⟨h1, h3⟩
                  · have HPK : Hid (pickM o c ((k : Int) + 1) = some m) := by
                      show pickM o c _ = _
                      unfold pickM findM
                      rw [h3]; rfl
                    rw [h1]
                    clear h1 h3
                    obtain ⟨bb, off, cp, t, hv', hlb, e0, e1, e2, e3, ht, hxi⟩ := MailsV.cell HMc.out i m hm
                    simp only [Value.slice.injEq, true_and] at hv'
                    obtain ⟨rfl, rfl⟩ := hv'
                    have HRE : Hid (MailRE w [.int .i64 m.uid, .int .i64 m.flags, .int .i64 m.seq, t] m) := ⟨_, rfl, ht, hxi⟩
                    obtain ⟨ta, tn, tc, rfl⟩ := ht.form3
                    clear ht hxi
                    have E0 := e0
                    have E1 := e1
                    have E2 := e2
                    have E3 := e3
                    replace e0 := cell_later HB5.out e0
                    replace e1 := cell_later HB5.out e1
                    replace e2 := cell_later HB5.out e2
                    replace e3 := cell_later HB5.out e3
                    have hlb2 : bb < w5.heap.size := Nat.lt_of_lt_of_le hlb HB5.out.size
                    have hki : (i : Int) < c.mails.length := by have := (List.getElem?_eq_some_iff.1 hm).1; omega
                    obtain ⟨p0, p1, p2, p3, p4, p5, p6⟩ := bx7 HO5.out
                    obtain ⟨q0, q1, q2, q3, q4, q5, q6⟩ := bx7 HC5.out
                    obtain ⟨y0, y1, y2, y3, y4, y5, y6⟩ := bx7 HX5.out
                    have lO := lt_of_heap HO5.out
                    have lC := lt_of_heap HC5.out
                    have lX := lt_of_heap HX5.out
                    have HS : Hid (∀ w', Below w5.heap.size w5 w' → (w'.cell? ⟨wb.heap.size, 4, none⟩ = some (.slice va vn vc) ∧ w'.cell? ⟨w.heap.size + 1, 4, none⟩ = some (.slice (some ⟨bb, off, none⟩) c.mails.length c4)) ∧ w'.cell? ⟨bb, off + i * 4, none⟩ = some (.int .i64 m.uid) ∧ w'.cell? ⟨bb, off + i * 4 + 1, none⟩ = some (.int .i64 m.flags) ∧ w'.cell? ⟨bb, off + i * 4 + 2, none⟩ = some (.int .i64 m.seq) ∧ w'.cell? ⟨bb, off + i * 4 + 3, none⟩ = some (.slice ta tn tc)) := fun w' h => ⟨⟨cell_later h y4, cell_later h q4⟩, cell_later h e0, cell_later h e1, cell_later h e2, cell_later h e3⟩
                    have DR : Below w5.heap.size w5 w5.drew := (Below.refl _ _).drew
                    go_upto_region 10 with fail
                    clear p0 p1 p2 p3 p4 p5 p6 q0 q1 q2 q3 q4 q5 q6 y0 y1 y2 y3 y4 y5 y6
                    refine wpS_begin 9 (S := fun w' => (w'.cell? ⟨wb.heap.size, 4, none⟩ = some (.slice va vn vc) ∧ w'.cell? ⟨w.heap.size + 1, 4, none⟩ = some (.slice (some ⟨bb, off, none⟩) c.mails.length c4)) ∧ w'.cell? ⟨bb, off + i * 4, none⟩ = some (.int .i64 m.uid) ∧ w'.cell? ⟨bb, off + i * 4 + 1, none⟩ = some (.int .i64 m.flags) ∧ w'.cell? ⟨bb, off + i * 4 + 2, none⟩ = some (.int .i64 m.seq) ∧ w'.cell? ⟨bb, off + i * 4 + 3, none⟩ = some (.slice ta tn tc)) (tabS_of (by kernel_rfl) tabS_mrg10) (by kernel_rfl) (HS.out _ DR) (fun hTb hHeld => ?_)
                    refine tks 0 0 75 hTb hHeld ?_
                    refine tks 1 1 76 hTb hHeld ?_
                    refine tks 2 2 77 hTb hHeld ?_
                    refine tks 3 3 78 hTb hHeld ?_
                    refine tks 4 4 79 hTb hHeld ?_
                    refine tks 5 5 80 hTb hHeld ?_
                    refine tks 6 6 81 hTb hHeld ?_
                    refine cls 7 7 hTb (by decide) rfl rfl (fun K hK => ?_)
                    go_simp
                    have AB : Below w5.heap.size w5 (w5.drew.alloc (.cells #[.int .i64 m.uid, .int .i64 m.flags, .int .i64 m.seq, .slice ta tn tc] 43)) := (Below.refl _ _).drew.alloc (Nat.le_refl _) _
                    refine hK.out _ _ (HS.out _ AB) (fun hHeld => ?_)
                    clear hK K
                    refine cls 8 8 hTb (by decide) rfl rfl (fun K hK => ?_)
                    have hMs : w5.heap.size ≤ (w5.drew.alloc (.cells #[.int .i64 m.uid, .int .i64 m.flags, .int .i64 m.seq, .slice ta tn tc] 43)).heap.size := AB.size
                    have HEa : MailWE w (w5.drew.alloc (.cells #[.int .i64 m.uid, .int .i64 m.flags, .int .i64 m.seq, .slice ta tn tc] 43)) [.int .i64 m.uid, .int .i64 m.flags, .int .i64 m.seq, .slice ta tn tc] m (In w5.heap.size (w5.drew.alloc (.cells #[.int .i64 m.uid, .int .i64 m.flags, .int .i64 m.seq, .slice ta tn tc] 43)).heap.size) := HRE.out
                    have hp1 : (mpre o c k).length + 1 ≤ maxLen := by have := mpre_len o c k; unfold maxLen; omega
                    have hp2 : ((mpre o c k).length + 1) * 48 ≤ 140737488355328 := by have := mpre_len o c k; omega
                    refine ite_w (by kernel_rfl) (wp_push 83 rfl (.tmp 76) (.tmp 82) rfl (framesMW w) (B := (wb.heap.size + 1)) (M := w5.heap.size) (Ow.below (framesMW w) HW5.out AB) hMs hs5 Try.underlying28 hi hz0 hz1 hz2 rfl (by omega) rfl m [.int .i64 m.uid, .int .i64 m.flags, .int .i64 m.seq, .slice ta tn tc] rfl HEa ⟨w5.heap.size, 0, none⟩ 1 rfl (cells_new w5.drew _ _) one4' hp1 hp2 ?_)
                    intro DV wz hO hgz hvz
                    obtain ⟨da, dn, dc, hDV⟩ := OwF.form3 hO
                    subst hDV
                    have hge : ∀ j, (Value.slice va vn vc).ownBlock = some j → (wb.heap.size + 1) ≤ j := fun j hj => (hvz j hj).1
                    have KX := grown_at hgz hge (box_below AB HX5.out) (by omega)
                    have HOz := hidm' (grown_at hgz hge (box_below AB HO5.out) (by omega))
                    have HCz := hidm' (grown_at hgz hge (box_below AB HC5.out) (by omega))
                    have HRz := hidm' (grown_at hgz hge (box_below AB HR5.out) (by omega))
                    have HBz : Hid (Below w.heap.size w wz) := grown_below (Below.step HB5.out AB) hgz hge (by omega) (by have := AB.size; omega)
                    have sz : w5.heap.size ≤ wz.heap.size := Nat.le_trans AB.size hgz.size
                    obtain ⟨zx, zl⟩ := box8z KX
                    obtain ⟨d0, d1, d2, d3, d4, d5, d6⟩ := bx7 KX
                    refine hK.out _ _ (⟨⟨d4, (bx7 HCz.out).2.2.2.2.1⟩, (cell_later HBz.out E0), (cell_later HBz.out E1), (cell_later HBz.out E2), (cell_later HBz.out E3)⟩) (fun hHeld => ?_)
                    clear hK K
                    refine wpS_next (S' := fun w' => True) 9 11 hTb (by decide) (trivial) (fun hHeld => ?_)
                    refine tks 9 9 84 hTb hHeld ?_
                    refine cls 10 10 hTb (by decide) rfl rfl (fun K hK => ?_)
                    go_simp
                    refine hK.out _ _ (trivial) (fun hHeld => ?_)
                    clear hK K
                    refine wpS_end hTb ?_
                    have HX9 : Hid ((wz.setCell ⟨wb.heap.size, 4, none⟩ (.slice da dn dc)).heap[wb.heap.size]? = some (.cells #[.slice a0 n0 c0, .int .i64 o.valid, .int .i64 c.next, .int .i64 c.seq, .slice da dn dc, .slice none 0 0, .int .i64 c.lost] 31 (0, 0))) := box_set KX
                    have HO9 := hidm' (box_other (k := wb.heap.size) (i := 4) (v := .slice da dn dc) HOz.out (by omega))
                    have HC9 := hidm' (box_other (k := wb.heap.size) (i := 4) (v := .slice da dn dc) HCz.out (by omega))
                    have HR9 := hidm' (box_other (k := wb.heap.size) (i := 4) (v := .slice da dn dc) HRz.out (by omega))
                    have HB9 : Hid (Below w.heap.size w (wz.setCell ⟨wb.heap.size, 4, none⟩ (.slice da dn dc))) := HBz.out.setCell (p := ⟨wb.heap.size, 4, none⟩) (show w.heap.size ≤ wb.heap.size by omega) _
                    have HW9 : Hid (MailsW w (wz.setCell ⟨wb.heap.size, 4, none⟩ (.slice da dn dc)) (wb.heap.size + 1) (wz.setCell ⟨wb.heap.size, 4, none⟩ (.slice da dn dc)).heap.size (.slice da dn dc) (mpre o c (k + 1))) := by show MailsW _ _ _ _ _ _; rw [box_size, mpre_yes HPK.out]; exact mw_set hO (.inl (by omega))
                    have hs9 : (wb.heap.size + 1) ≤ (wz.setCell ⟨wb.heap.size, 4, none⟩ (.slice da dn dc)).heap.size := by rw [box_size]; have := AB.size; omega
                    clear KX HOz HCz HRz HBz HX5 HO5 HC5 HR5 HB5 HW5 HEa hO hgz hvz hge AB DR HS HRE e0 E0 e1 E1 e2 E2 e3 E3
                    go_wp2
                    go_roundw
                    case rel => exact ⟨k + 1, da, dn, dc, by omega, by go_num, HB9, HO9, HC9, HR9, HX9, hs9, HW9⟩
                    case measure => simp [intOf]; omega
                  · rw [h1]
                    have H3 : Hid (findM c.mails ((k : Int) + 1) = none) := h3
                    clear h1 h3
                    rcases first_cases (fun m : MailD => decide (m.uid = (k : Int) + 1)) o.mails with ⟨i, m, h1, hm, h3⟩ | ⟨h1, h3⟩
                    · rw [h1]
                      have H4 : Hid (findM o.mails ((k : Int) + 1) = some m) := h3
                      clear h1 h3
                      have hg := l3gone_any _ c.gones ((k : Int) + 1) _ (HG.out _ HB5.out)
                      obtain ⟨q0, q1, q2, q3, q4, q5, q6⟩ := bx7 HC5.out
                      have lC := lt_of_heap HC5.out
                      go_wp2_with fail
                      clear q0 q1 q2 q3 q4 q5 q6 lC
                      refine hg.mono ?_
                      rintro e w5x ⟨rfl, h5x⟩
                      obtain rfl := h5x.symm
                      cases hG : c.gones.any (fun x => decide (x.uid = (k : Int) + 1)) with
                      | false =>
                        have HPK : Hid (pickM o c ((k : Int) + 1) = some m) := by
                          show pickM o c _ = _
                          unfold pickM
                          rw [H3.out, hG, H4.out]; rfl
                        clear hG hg
                        obtain ⟨bb, off, cp, t, hv', hlb, e0, e1, e2, e3, ht, hxi⟩ := MailsV.cell HMo.out i m hm
                        simp only [Value.slice.injEq, true_and] at hv'
                        obtain ⟨rfl, rfl⟩ := hv'
                        have HRE : Hid (MailRE w [.int .i64 m.uid, .int .i64 m.flags, .int .i64 m.seq, t] m) := ⟨_, rfl, ht, hxi⟩
                        obtain ⟨ta, tn, tc, rfl⟩ := ht.form3
                        clear ht hxi
                        have E0 := e0
                        have E1 := e1
                        have E2 := e2
                        have E3 := e3
                        replace e0 := cell_later HB5.out e0
                        replace e1 := cell_later HB5.out e1
                        replace e2 := cell_later HB5.out e2
                        replace e3 := cell_later HB5.out e3
                        have hlb2 : bb < w5.heap.size := Nat.lt_of_lt_of_le hlb HB5.out.size
                        have hki : (i : Int) < o.mails.length := by have := (List.getElem?_eq_some_iff.1 hm).1; omega
                        obtain ⟨p0, p1, p2, p3, p4, p5, p6⟩ := bx7 HO5.out
                        obtain ⟨q0, q1, q2, q3, q4, q5, q6⟩ := bx7 HC5.out
                        obtain ⟨y0, y1, y2, y3, y4, y5, y6⟩ := bx7 HX5.out
                        have lO := lt_of_heap HO5.out
                        have lC := lt_of_heap HC5.out
                        have lX := lt_of_heap HX5.out
                        have HS : Hid (∀ w', Below w5.heap.size w5 w' → (w'.cell? ⟨wb.heap.size, 4, none⟩ = some (.slice va vn vc) ∧ w'.cell? ⟨w.heap.size, 4, none⟩ = some (.slice (some ⟨bb, off, none⟩) o.mails.length c1)) ∧ w'.cell? ⟨bb, off + i * 4, none⟩ = some (.int .i64 m.uid) ∧ w'.cell? ⟨bb, off + i * 4 + 1, none⟩ = some (.int .i64 m.flags) ∧ w'.cell? ⟨bb, off + i * 4 + 2, none⟩ = some (.int .i64 m.seq) ∧ w'.cell? ⟨bb, off + i * 4 + 3, none⟩ = some (.slice ta tn tc)) := fun w' h => ⟨⟨cell_later h y4, cell_later h p4⟩, cell_later h e0, cell_later h e1, cell_later h e2, cell_later h e3⟩
                        have DR : Below w5.heap.size w5 w5.drew := (Below.refl _ _).drew
                        go_upto_region 12 with fail
                        clear p0 p1 p2 p3 p4 p5 p6 q0 q1 q2 q3 q4 q5 q6 y0 y1 y2 y3 y4 y5 y6
                        refine wpS_begin 9 (S := fun w' => (w'.cell? ⟨wb.heap.size, 4, none⟩ = some (.slice va vn vc) ∧ w'.cell? ⟨w.heap.size, 4, none⟩ = some (.slice (some ⟨bb, off, none⟩) o.mails.length c1)) ∧ w'.cell? ⟨bb, off + i * 4, none⟩ = some (.int .i64 m.uid) ∧ w'.cell? ⟨bb, off + i * 4 + 1, none⟩ = some (.int .i64 m.flags) ∧ w'.cell? ⟨bb, off + i * 4 + 2, none⟩ = some (.int .i64 m.seq) ∧ w'.cell? ⟨bb, off + i * 4 + 3, none⟩ = some (.slice ta tn tc)) (tabS_of (by kernel_rfl) tabS_mrg12) (by kernel_rfl) (HS.out _ DR) (fun hTb hHeld => ?_)
                        refine tks 0 0 95 hTb hHeld ?_
                        refine tks 1 1 96 hTb hHeld ?_
                        refine tks 2 2 97 hTb hHeld ?_
                        refine tks 3 3 98 hTb hHeld ?_
                        refine tks 4 4 99 hTb hHeld ?_
                        refine tks 5 5 100 hTb hHeld ?_
                        refine tks 6 6 101 hTb hHeld ?_
                        refine cls 7 7 hTb (by decide) rfl rfl (fun K hK => ?_)
                        go_simp
                        have AB : Below w5.heap.size w5 (w5.drew.alloc (.cells #[.int .i64 m.uid, .int .i64 m.flags, .int .i64 m.seq, .slice ta tn tc] 43)) := (Below.refl _ _).drew.alloc (Nat.le_refl _) _
                        refine hK.out _ _ (HS.out _ AB) (fun hHeld => ?_)
                        clear hK K
                        refine cls 8 8 hTb (by decide) rfl rfl (fun K hK => ?_)
                        have hMs : w5.heap.size ≤ (w5.drew.alloc (.cells #[.int .i64 m.uid, .int .i64 m.flags, .int .i64 m.seq, .slice ta tn tc] 43)).heap.size := AB.size
                        have HEa : MailWE w (w5.drew.alloc (.cells #[.int .i64 m.uid, .int .i64 m.flags, .int .i64 m.seq, .slice ta tn tc] 43)) [.int .i64 m.uid, .int .i64 m.flags, .int .i64 m.seq, .slice ta tn tc] m (In w5.heap.size (w5.drew.alloc (.cells #[.int .i64 m.uid, .int .i64 m.flags, .int .i64 m.seq, .slice ta tn tc] 43)).heap.size) := HRE.out
                        have hp1 : (mpre o c k).length + 1 ≤ maxLen := by have := mpre_len o c k; unfold maxLen; omega
                        have hp2 : ((mpre o c k).length + 1) * 48 ≤ 140737488355328 := by have := mpre_len o c k; omega
                        refine ite_w (by kernel_rfl) (wp_push 103 rfl (.tmp 96) (.tmp 102) rfl (framesMW w) (B := (wb.heap.size + 1)) (M := w5.heap.size) (Ow.below (framesMW w) HW5.out AB) hMs hs5 Try.underlying28 hi hz0 hz1 hz2 rfl (by omega) rfl m [.int .i64 m.uid, .int .i64 m.flags, .int .i64 m.seq, .slice ta tn tc] rfl HEa ⟨w5.heap.size, 0, none⟩ 1 rfl (cells_new w5.drew _ _) one4' hp1 hp2 ?_)
                        intro DV wz hO hgz hvz
                        obtain ⟨da, dn, dc, hDV⟩ := OwF.form3 hO
                        subst hDV
                        have hge : ∀ j, (Value.slice va vn vc).ownBlock = some j → (wb.heap.size + 1) ≤ j := fun j hj => (hvz j hj).1
                        have KX := grown_at hgz hge (box_below AB HX5.out) (by omega)
                        have HOz := hidm' (grown_at hgz hge (box_below AB HO5.out) (by omega))
                        have HCz := hidm' (grown_at hgz hge (box_below AB HC5.out) (by omega))
                        have HRz := hidm' (grown_at hgz hge (box_below AB HR5.out) (by omega))
                        have HBz : Hid (Below w.heap.size w wz) := grown_below (Below.step HB5.out AB) hgz hge (by omega) (by have := AB.size; omega)
                        have sz : w5.heap.size ≤ wz.heap.size := Nat.le_trans AB.size hgz.size
                        obtain ⟨zx, zl⟩ := box8z KX
                        obtain ⟨d0, d1, d2, d3, d4, d5, d6⟩ := bx7 KX
                        refine hK.out _ _ (⟨⟨d4, (bx7 HOz.out).2.2.2.2.1⟩, (cell_later HBz.out E0), (cell_later HBz.out E1), (cell_later HBz.out E2), (cell_later HBz.out E3)⟩) (fun hHeld => ?_)
                        clear hK K
                        refine wpS_next (S' := fun w' => True) 9 11 hTb (by decide) (trivial) (fun hHeld => ?_)
                        refine tks 9 9 104 hTb hHeld ?_
                        refine cls 10 10 hTb (by decide) rfl rfl (fun K hK => ?_)
                        go_simp
                        refine hK.out _ _ (trivial) (fun hHeld => ?_)
                        clear hK K
                        refine wpS_end hTb ?_
                        have HX9 : Hid ((wz.setCell ⟨wb.heap.size, 4, none⟩ (.slice da dn dc)).heap[wb.heap.size]? = some (.cells #[.slice a0 n0 c0, .int .i64 o.valid, .int .i64 c.next, .int .i64 c.seq, .slice da dn dc, .slice none 0 0, .int .i64 c.lost] 31 (0, 0))) := box_set KX
                        have HO9 := hidm' (box_other (k := wb.heap.size) (i := 4) (v := .slice da dn dc) HOz.out (by omega))
                        have HC9 := hidm' (box_other (k := wb.heap.size) (i := 4) (v := .slice da dn dc) HCz.out (by omega))
                        have HR9 := hidm' (box_other (k := wb.heap.size) (i := 4) (v := .slice da dn dc) HRz.out (by omega))
                        have HB9 : Hid (Below w.heap.size w (wz.setCell ⟨wb.heap.size, 4, none⟩ (.slice da dn dc))) := HBz.out.setCell (p := ⟨wb.heap.size, 4, none⟩) (show w.heap.size ≤ wb.heap.size by omega) _
                        have HW9 : Hid (MailsW w (wz.setCell ⟨wb.heap.size, 4, none⟩ (.slice da dn dc)) (wb.heap.size + 1) (wz.setCell ⟨wb.heap.size, 4, none⟩ (.slice da dn dc)).heap.size (.slice da dn dc) (mpre o c (k + 1))) := by show MailsW _ _ _ _ _ _; rw [box_size, mpre_yes HPK.out]; exact mw_set hO (.inl (by omega))
                        have hs9 : (wb.heap.size + 1) ≤ (wz.setCell ⟨wb.heap.size, 4, none⟩ (.slice da dn dc)).heap.size := by rw [box_size]; have := AB.size; omega
                        clear KX HOz HCz HRz HBz HX5 HO5 HC5 HR5 HB5 HW5 HEa hO hgz hvz hge AB DR HS HRE e0 E0 e1 E1 e2 E2 e3 E3
                        go_wp2
                        go_roundw
                        case rel => exact ⟨k + 1, da, dn, dc, by omega, by go_num, HB9, HO9, HC9, HR9, HX9, hs9, HW9⟩
                        case measure => simp [intOf]; omega
                      | true =>
                        have HPK : Hid (pickM o c ((k : Int) + 1) = none) := by
                          show pickM o c _ = _
                          unfold pickM
                          rw [H3.out, hG]; rfl
                        clear hG hg
                        have HW9 : Hid (MailsW w w5 (wb.heap.size + 1) w5.heap.size (.slice va vn vc) (mpre o c (k + 1))) := by show MailsW _ _ _ _ _ _; rw [mpre_no HPK.out]; exact Ow.mono HW5.out fun b hb => hb
                        go_wp2
                        go_roundw
                        case rel => exact ⟨k + 1, va, vn, vc, by omega, by go_num, HB5, HO5, HC5, HR5, HX5, hs5, HW9⟩
                        case measure => simp [intOf]; omega
                    · rw [h1]
                      have HPK : Hid (pickM o c ((k : Int) + 1) = none) := by
                        show pickM o c _ = _
                        unfold pickM
                        rw [H3.out, show findM o.mails ((k : Int) + 1) = none from h3]
                        simp
                      clear h1 h3
                      have HW9 : Hid (MailsW w w5 (wb.heap.size + 1) w5.heap.size (.slice va vn vc) (mpre o c (k + 1))) := by show MailsW _ _ _ _ _ _; rw [mpre_no HPK.out]; exact Ow.mono HW5.out fun b hb => hb
                      go_wp2
                      go_roundw
                      case rel => exact ⟨k + 1, va, vn, vc, by omega, by go_num, HB5, HO5, HC5, HR5, HX5, hs5, HW9⟩
                      case measure => simp [intOf]; omega
                · have hkk : (k : Int) = c.next - 1 := by omega
                  have hmm : mpre o c k = mergedM o c := by unfold mpre mergedM; rw [show (c.next - 1).toNat = k by omega]
                  have HWM : Hid (MailsW w wr (wb.heap.size + 1) wr.heap.size (.slice va vn vc) (mergedM o c)) := by
                    have := HW.out
                    rw [hmm] at this
                    exact this
                  clear hmm HW
                  have hlen := (HWM.out.v HB.out).form
                  obtain ⟨va', vc', hvv, hl1, hl2⟩ := hlen
                  simp only [Value.slice.injEq] at hvv
                  obtain ⟨rfl, rfl, rfl⟩ := hvv
                  obtain ⟨y0, y1, y2, y3, y4, y5, y6⟩ := bx7 HXX.out
                  have lX := lt_of_heap HXX.out
                  by_cases h12 : (mergedM o c).length ≤ 12
                  · have HMT : Hid (mergeB o c = true) := by
                      show _ = _
                      rw [HML.out]; simpa using h12
                    have hgt : decide ((12 : Int) < ((mergedM o c).length : Int)) = false := by simp; omega
                    have hown := l3ownBox_r (.agg #[.slice a0 n0 c0, .int .i64 o.valid, .int .i64 c.next, .int .i64 c.seq, .slice va (mergedM o c).length vc, .slice none 0 0, .int .i64 c.lost]) ⟨o.name, o.valid, c.next, c.seq, mergedM o c, [], c.lost⟩ wr ⟨_, _, _, rfl, (HN.out _ HB.out).1, HWM.out.v HB.out, Rd.nil _, HIO.out.1, HIC.out.2.1, HIC.out.2.2.1, HIC.out.2.2.2⟩ (szX_merged OKO.out OKC.out (by omega) h12 _ _ _ _)
                    clear h12
                    go_wp2_with fail
                    clear y0 y1 y2 y3 y4 y5 y6 q0 q1 q2 q3 q4 q5 q6
                    refine hown.mono ?_
                    rintro e w9 ⟨x, rfl, hBO, hB9⟩
                    have KR := box_below hB9 HR.out
                    have X9 := Below.step HB.out hB9
                    have s9 := hB9.size
                    obtain ⟨cc, rfl, u0, u1, u2, S0, S1, S2, rfl, r0, r1, r2, d0, d1, d2, hii⟩ := hBO
                    have sr : w.heap.size + 2 < wr.heap.size := lt_of_heap HR.out
                    obtain ⟨b0, bn0, bc0, rfl⟩ := r0.bs.form3
                    obtain ⟨b1, bn1, bc1, rfl⟩ := OwF.form3 r1
                    obtain ⟨b2, bn2, bc2, rfl⟩ := OwF.form3 r2
                    have HF : Hid _ := res7 KR (N := w.heap.size) (by omega) X9 (.slice b0 bn0 bc0) (.int .i64 o.valid) (.int .i64 c.next) (.int .i64 c.seq) (.slice b1 bn1 bc1) (.slice b2 bn2 bc2) (.int .i64 c.lost)
                    have HBO : Hid (BoxE w9 [.slice b0 bn0 bc0, .int .i64 o.valid, .int .i64 c.next, .int .i64 c.seq, .slice b1 bn1 bc1, .slice b2 bn2 bc2, .int .i64 c.lost] ⟨o.name, o.valid, c.next, c.seq, mergedM o c, [], c.lost⟩ (In wr.heap.size w9.heap.size)) := ⟨_, _, _, S0, S1, S2, rfl, r0, r1, r2, d0, d1, d2, hii⟩
                    obtain ⟨f0, f1, f2, f3, f4, f5, f6⟩ := bx7 HF.out.1
                    obtain ⟨rz, rl⟩ := box8z KR
                    obtain ⟨t0, t1, t2, t3, t4, t5, t6⟩ := bx7 KR
                    clear r0 r1 r2 d0 d1 d2 hii hown hB9
                    go_wp2
                    refine bodyPost_ret (v := .tuple #[.agg #[.slice b0 bn0 bc0, .int .i64 o.valid, .int .i64 c.next, .int .i64 c.seq, .slice b1 bn1 bc1, .slice b2 bn2 bc2, .int .i64 c.lost], .bool true]) (by simp [results, Try.results5, go_sem, f0, f1, f2, f3, f4, f5, f6]) rfl ⟨_, ret_mrg HMT.out, ?_, HF.out.2.1⟩
                    rw [mergeD_yes HMT.out]
                    exact ⟨_, rfl, box_end HBO.out (fun b hb _ => HF.out.2.2.1 b (by have := hb.1; omega)) (fun b hb => ⟨by have := hb.1; omega, by rw [HF.out.2.2.2]; exact hb.2⟩) (of_decide_eq_true T2.out) (of_decide_eq_true T1.out)⟩
                  · have HMF : Hid (mergeB o c = false) := by
                      show _ = _
                      rw [HML.out]; simpa using h12
                    have hgt : decide ((12 : Int) < ((mergedM o c).length : Int)) = true := by simp; omega
                    obtain ⟨r0, r1, r2, r3, r4, r5, r6⟩ := bx7 HR.out
                    obtain ⟨rz, rl⟩ := box8z HR.out
                    have HF : Hid _ := res7 HR.out (N := w.heap.size) (by omega) HB.out (.slice none 0 0) (.int .i64 0) (.int .i64 0) (.int .i64 0) (.slice none 0 0) (.slice none 0 0) (.int .i64 0)
                    go_wp2
                    obtain ⟨f0, f1, f2, f3, f4, f5, f6⟩ := bx7 HF.out.1
                    refine bodyPost_ret (v := .tuple #[.agg #[.slice none 0 0, .int .i64 0, .int .i64 0, .int .i64 0, .slice none 0 0, .slice none 0 0, .int .i64 0], .bool false]) (by simp [results, Try.results5, go_sem, f0, f1, f2, f3, f4, f5, f6]) rfl ⟨_, ret_mrg HMF.out, ?_, HF.out.2.1⟩
                    rw [mergeD_no HMF.out]
                    exact ⟨_, rfl, _, _, _, fun _ => False, fun _ => False, fun _ => False, rfl, RO.nil _ _, .inl ⟨rfl, rfl⟩, .inl ⟨rfl, rfl⟩, fun _ h => h.elim, fun _ h => h.elim, fun _ h => h.elim, i64c0, i64c0, i64c0, i64c0⟩
            · have e4 : decide (c.next < o.next) = true := by simpa using t4
              have HM : mergeB o c = false := by rw [HMB1.out, HLB.out, decide_eq_false t4]; simp
              clear t4
              obtain ⟨r0, r1, r2, r3, r4, r5, r6⟩ := bx7 HKR2.out
              obtain ⟨rz, rl⟩ := box8z HKR2.out
              have HF : Hid _ := res7 HKR2.out (N := w.heap.size) (by omega) HX2.out (.slice none 0 0) (.int .i64 0) (.int .i64 0) (.int .i64 0) (.slice none 0 0) (.slice none 0 0) (.int .i64 0)
              go_wp2
              obtain ⟨f0, f1, f2, f3, f4, f5, f6⟩ := bx7 HF.out.1
              refine bodyPost_ret (v := .tuple #[.agg #[.slice none 0 0, .int .i64 0, .int .i64 0, .int .i64 0, .slice none 0 0, .slice none 0 0, .int .i64 0], .bool false]) (by simp [results, Try.results5, go_sem, f0, f1, f2, f3, f4, f5, f6]) rfl ⟨_, ret_mrg HM, ?_, HF.out.2.1⟩
              rw [mergeD_no HM]
              exact ⟨_, rfl, _, _, _, fun _ => False, fun _ => False, fun _ => False, rfl, RO.nil _ _, .inl ⟨rfl, rfl⟩, .inl ⟨rfl, rfl⟩, fun _ h => h.elim, fun _ h => h.elim, fun _ h => h.elim, i64c0, i64c0, i64c0, i64c0⟩
          · have e3 : decide (c.seq < o.seq) = true := by simpa using t3
            have HM : mergeB o c = false := by rw [HMB1.out, HLB.out, decide_eq_false t3]; simp
            clear t3
            obtain ⟨r0, r1, r2, r3, r4, r5, r6⟩ := bx7 HKR2.out
            obtain ⟨rz, rl⟩ := box8z HKR2.out
            have HF : Hid _ := res7 HKR2.out (N := w.heap.size) (by omega) HX2.out (.slice none 0 0) (.int .i64 0) (.int .i64 0) (.int .i64 0) (.slice none 0 0) (.slice none 0 0) (.int .i64 0)
            go_wp2
            obtain ⟨f0, f1, f2, f3, f4, f5, f6⟩ := bx7 HF.out.1
            refine bodyPost_ret (v := .tuple #[.agg #[.slice none 0 0, .int .i64 0, .int .i64 0, .int .i64 0, .slice none 0 0, .slice none 0 0, .int .i64 0], .bool false]) (by simp [results, Try.results5, go_sem, f0, f1, f2, f3, f4, f5, f6]) rfl ⟨_, ret_mrg HM, ?_, HF.out.2.1⟩
            rw [mergeD_no HM]
            exact ⟨_, rfl, _, _, _, fun _ => False, fun _ => False, fun _ => False, rfl, RO.nil _ _, .inl ⟨rfl, rfl⟩, .inl ⟨rfl, rfl⟩, fun _ h => h.elim, fun _ h => h.elim, fun _ h => h.elim, i64c0, i64c0, i64c0, i64c0⟩
        · have e2 : (o.valid != c.valid) = true := by simpa using t2
          have HM : mergeB o c = false := by rw [HMB1.out, HLB.out, decide_eq_false t2]; simp
          clear t2
          obtain ⟨r0, r1, r2, r3, r4, r5, r6⟩ := bx7 HKR2.out
          obtain ⟨rz, rl⟩ := box8z HKR2.out
          have HF : Hid _ := res7 HKR2.out (N := w.heap.size) (by omega) HX2.out (.slice none 0 0) (.int .i64 0) (.int .i64 0) (.int .i64 0) (.slice none 0 0) (.slice none 0 0) (.int .i64 0)
          go_wp2
          obtain ⟨f0, f1, f2, f3, f4, f5, f6⟩ := bx7 HF.out.1
          refine bodyPost_ret (v := .tuple #[.agg #[.slice none 0 0, .int .i64 0, .int .i64 0, .int .i64 0, .slice none 0 0, .slice none 0 0, .int .i64 0], .bool false]) (by simp [results, Try.results5, go_sem, f0, f1, f2, f3, f4, f5, f6]) rfl ⟨_, ret_mrg HM, ?_, HF.out.2.1⟩
          rw [mergeD_no HM]
          exact ⟨_, rfl, _, _, _, fun _ => False, fun _ => False, fun _ => False, rfl, RO.nil _ _, .inl ⟨rfl, rfl⟩, .inl ⟨rfl, rfl⟩, fun _ h => h.elim, fun _ h => h.elim, fun _ h => h.elim, i64c0, i64c0, i64c0, i64c0⟩
      · have e1 := HE.out.trans (decide_eq_false t1)
        have HM : mergeB o c = false := by rw [HMB1.out, HLB.out, decide_eq_false t1]; simp
        clear t1
        obtain ⟨r0, r1, r2, r3, r4, r5, r6⟩ := bx7 HKR2.out
        obtain ⟨rz, rl⟩ := box8z HKR2.out
        have HF : Hid _ := res7 HKR2.out (N := w.heap.size) (by omega) HX2.out (.slice none 0 0) (.int .i64 0) (.int .i64 0) (.int .i64 0) (.slice none 0 0) (.slice none 0 0) (.int .i64 0)
        go_wp2
        obtain ⟨f0, f1, f2, f3, f4, f5, f6⟩ := bx7 HF.out.1
        refine bodyPost_ret (v := .tuple #[.agg #[.slice none 0 0, .int .i64 0, .int .i64 0, .int .i64 0, .slice none 0 0, .slice none 0 0, .int .i64 0], .bool false]) (by simp [results, Try.results5, go_sem, f0, f1, f2, f3, f4, f5, f6]) rfl ⟨_, ret_mrg HM, ?_, HF.out.2.1⟩
        rw [mergeD_no HM]
        exact ⟨_, rfl, _, _, _, fun _ => False, fun _ => False, fun _ => False, rfl, RO.nil _ _, .inl ⟨rfl, rfl⟩, .inl ⟨rfl, rfl⟩, fun _ h => h.elim, fun _ h => h.elim, fun _ h => h.elim, i64c0, i64c0, i64c0, i64c0⟩

end Go.Proofs.Ytodoofdbpffolaa
