/- What gonesOk of package impl do. -/
import Derived.Test.YtnjicpdccpkbmaaI3mails
import Derived.Test.YtnjicpdccpkbmaaI3has
namespace Go.Proofs.Ytnjicpdccpkbmaa
open Go.RowKit Go.Shelf
set_option linter.unusedVariables false

theorem Rd.take {α : Type} {sz : Nat} {E : World → List Value → α → Prop} {w : World} {a : Option Addr} {n cap : Nat} {l : List α} (h : Rd sz E w (.slice a n cap) l) (k : Nat) (hk : k ≤ l.length) : Rd sz E w (.slice a k cap) (l.take k) := by
  obtain ⟨a', cap', cs, hv, h1, h2, h3, h4, h5⟩ := h
  simp only [Value.slice.injEq] at hv
  obtain ⟨rfl, -, rfl⟩ := hv
  have hl : (l.take k).length = k := by simp; omega
  refine ⟨a, cap, cs, by rw [hl], by rw [hl]; omega, h2, h3, fun i x hx => ?_, fun hp => ?_⟩
  · rw [List.getElem?_take] at hx
    split at hx
    · exact h4 i x hx
    · cases hx
  · rw [hl] at hp
    obtain ⟨b, off, ha, hlt, hc⟩ := h5 (by omega)
    exact ⟨b, off, ha, hlt, fun i j u hi hu => hc i j u (by rw [hl] at hi; omega) hu⟩

set_option maxRecDepth 100000 in
set_option maxHeartbeats 1000000 in
theorem gonesOk1_any (u : Value) (m : MailD) (bg : Nat) (guid : Int) (w : World) (hu : MailV w u m) (hc : w.cell? ⟨bg, 0, none⟩ = some (.int .i64 guid)) (hb : bg < w.heap.size) :
    Calls Try.prog 83 #[u, .pointer (some ⟨bg, 0, none⟩)] w fun e w' => e = .returned (.bool (decide (m.uid = guid))) ∧ Below w.heap.size w w' := by
  obtain ⟨u, rfl, h, -⟩ := hu
  obtain ⟨ua, un, uc, rfl⟩ := h.form3
  clear h
  obtain ⟨uid, flags, seq, text⟩ := m
  simp only
  go_enter Try.func83, Try.ntmps83
  go_wp2
  go_ret
  exact ⟨ret_b (by rw [Bool.eq_iff_iff]; simp), (Below.refl _ _).alloc (Nat.le_refl _) _⟩

set_option maxRecDepth 100000 in
set_option maxHeartbeats 1000000 in
theorem gonesOk2_any (u : Value) (m : GoneD) (bg : Nat) (guid : Int) (w : World) (hu : GoneV w u m) (hc : w.cell? ⟨bg, 0, none⟩ = some (.int .i64 guid)) (hb : bg < w.heap.size) :
    Calls Try.prog 85 #[u, .pointer (some ⟨bg, 0, none⟩)] w fun e w' => e = .returned (.bool (decide (m.uid = guid))) ∧ Below w.heap.size w w' := by
  unfold GoneV at hu
  subst hu
  obtain ⟨uid, seq⟩ := m
  simp only
  go_enter Try.func85, Try.ntmps85
  go_wp2
  go_ret
  exact ⟨ret_b (by rw [Bool.eq_iff_iff]; simp), (Below.refl _ _).alloc (Nat.le_refl _) _⟩

set_option maxRecDepth 100000 in
set_option maxHeartbeats 1000000 in
theorem gonesOk_any (v : Value) (x : BoxD) (w : World) (hv : BoxV w v x) (hn0 : 1 ≤ x.next) (hn1 : x.next ≤ 1000000) :
    Calls Try.prog 68 #[v] w fun e w' => e = .returned (.bool (gonesB x)) ∧ Below w.heap.size w w' := by
  obtain ⟨u0, u1, u2, rfl, g0, g1, g2, i0, i1, i2, i3⟩ := hv
  have H0 : Hid (∀ wi, Below w.heap.size w wi → Bs wi u0 x.name ∧ MailsV wi u1 x.mails ∧ GonesV wi u2 x.gones) := fun wi h => ⟨g0.below h, g1.below keepsMail h, g2.below keepsGone h⟩
  obtain ⟨a0, n0, c0, rfl⟩ := g0.form3
  obtain ⟨a1, c1, rfl, m0, m1⟩ := g1.form
  obtain ⟨a2, c2, rfl, m2, m3⟩ := g2.form
  clear g0 g1 g2
  have kA := box_new w (.cells #[.slice a0 n0 c0, .int .i64 x.valid, .int .i64 x.next, .int .i64 x.seq, .slice a1 x.mails.length c1, .slice a2 x.gones.length c2, .int .i64 x.lost] 51)
  have X : Below w.heap.size w (w.alloc (.cells #[.slice a0 n0 c0, .int .i64 x.valid, .int .i64 x.next, .int .i64 x.seq, .slice a1 x.mails.length c1, .slice a2 x.gones.length c2, .int .i64 x.lost] 51)) := (Below.refl _ _).alloc (Nat.le_refl _) _
  by_cases h0 : x.gones.length ≤ 40
  · have HS : Hid (gonesB x = (List.range x.gones.length).all (goneAt x)) := by simp [Hid, gonesB, h0]
    have HK : Hid ((w.alloc (.cells #[.slice a0 n0 c0, .int .i64 x.valid, .int .i64 x.next, .int .i64 x.seq, .slice a1 x.mails.length c1, .slice a2 x.gones.length c2, .int .i64 x.lost] 51)).heap[w.heap.size]? = some (.cells #[.slice a0 n0 c0, .int .i64 x.valid, .int .i64 x.next, .int .i64 x.seq, .slice a1 x.mails.length c1, .slice a2 x.gones.length c2, .int .i64 x.lost] 51)) := kA
    have HX : Hid (Below w.heap.size w (w.alloc (.cells #[.slice a0 n0 c0, .int .i64 x.valid, .int .i64 x.next, .int .i64 x.seq, .slice a1 x.mails.length c1, .slice a2 x.gones.length c2, .int .i64 x.lost] 51))) := X
    clear kA X
    by_cases hml : 1 < x.lost
    · have hml0 : Hid True := trivial
      go_enter Try.func68, Try.ntmps68
      go_wp2
      go_loopw [3, 4, 5, 16] (fun q _ _ i wr => ∃ k : Nat, k ≤ x.gones.length ∧ i = .int .i64 k ∧ q = .int .i64 (minS x k) ∧ Hid (∀ j, j < k → goneAt x j = true) ∧ Hid (wr.heap[w.heap.size]? = some (.cells #[.slice a0 n0 c0, .int .i64 x.valid, .int .i64 x.next, .int .i64 x.seq, .slice a1 x.mails.length c1, .slice a2 x.gones.length c2, .int .i64 x.lost] 51)) ∧ Hid (Below w.heap.size w wr)) (fun _ _ _ i _ => x.gones.length - (intOf i).toNat)
      case atStart => exact ⟨0, Nat.zero_le _, rfl, by simp [minS]; omega, (fun j hj => absurd hj (Nat.not_lt_zero _)), HK, HX⟩
      case round =>
        obtain ⟨k, hk, rfl, rfl, hA, hK, hB⟩ := hrel
        by_cases hlt : k < x.gones.length
        · obtain ⟨m, hm⟩ : ∃ m, x.gones[k]? = some m := ⟨x.gones[k], List.getElem?_eq_getElem hlt⟩
          obtain ⟨b, off, cap', hv', hlb, d0, d1, j0, j1⟩ := GonesV.cell (H0.out wr hB.out).2.2 k m hm
          simp only [Value.slice.injEq, true_and] at hv'
          obtain ⟨rfl, rfl⟩ := hv'
          have HE : Hid (goneAt x k = (inB m.uid 1 (x.next - 1) && (inB m.seq (minS x k) x.seq && (!(x.mails.any fun o => decide (o.uid = m.uid)) && !((x.gones.take k).any fun o => decide (o.uid = m.uid)))))) := by simp [Hid, goneAt, hm]
          have HP1 : Hid (minS x (k + 1) = m.seq) := by simp [Hid, minS, hm]
          generalize hQ : minS x k = q at HE
          clear hQ hm
          obtain ⟨uid, seq⟩ := m
          simp only at d0 d1 j0 j1 HE HP1
          have c1' := within_any uid 1 (x.next - 1)
          have c2' := within_any seq q x.seq
          generalize inB uid 1 (x.next - 1) = X1 at c1' HE
          generalize inB seq q x.seq = X2 at c2' HE
          have HKg : Hid ((wr.alloc (.cells #[.int .i64 uid, .int .i64 seq] 93)).heap[wr.heap.size]? = some (.cells #[.int .i64 uid, .int .i64 seq] 93)) := box_new wr _
          have HKb : Hid ((wr.alloc (.cells #[.int .i64 uid, .int .i64 seq] 93)).heap[w.heap.size]? = some (.cells #[.slice a0 n0 c0, .int .i64 x.valid, .int .i64 x.next, .int .i64 x.seq, .slice a1 x.mails.length c1, .slice (some ⟨b, off, none⟩) x.gones.length c2, .int .i64 x.lost] 51)) := box_alloc hK.out _
          have HB1 : Hid (Below w.heap.size w (wr.alloc (.cells #[.int .i64 uid, .int .i64 seq] 93))) := Below.step hB.out ((Below.refl _ _).alloc (Nat.le_refl _) _)
          have c3' := containsFuncMail 83 #[.pointer (some ⟨wr.heap.size, 0, none⟩)] (fun o => decide (o.uid = uid)) _ x.mails _ (H0.out _ HB1.out).2.1 (fun args w => by kernel_rfl) (fun wi o u hbi hu => gonesOk1_any u o wr.heap.size uid wi hu (bx2 (box_below hbi HKg.out)).1 (lt_of_heap (box_below hbi HKg.out)))
          have HC4 : Hid (∀ wi, Below (wr.alloc (.cells #[.int .i64 uid, .int .i64 seq] 93)).heap.size (wr.alloc (.cells #[.int .i64 uid, .int .i64 seq] 93)) wi → Calls Try.prog 84 #[.slice (some ⟨b, off, none⟩) k c2, .func (.func 85) #[] #[.pointer (some ⟨wr.heap.size, 0, none⟩)]] wi fun e w' => e = .returned (.bool ((x.gones.take k).any fun o => decide (o.uid = uid))) ∧ Below wi.heap.size wi w') := fun wi hbi =>
            containsFuncGone 85 #[.pointer (some ⟨wr.heap.size, 0, none⟩)] (fun o => decide (o.uid = uid)) _ (x.gones.take k) _ (((H0.out _ (Below.step HB1.out hbi)).2.2).take k hk) (fun args w => by kernel_rfl) (fun wj o u hbj hu => gonesOk2_any u o wr.heap.size uid wj hu (bx2 (box_below hbj (box_below hbi HKg.out))).1 (lt_of_heap (box_below hbj (box_below hbi HKg.out))))
          generalize (x.mails.any fun o => decide (o.uid = uid)) = X3 at c3' HE
          generalize ((x.gones.take k).any fun o => decide (o.uid = uid)) = X4 at HC4 HE
          obtain ⟨e0, e1, e2, e3, e4, e5, e6⟩ := bx7 hK.out
          have hlA := lt_of_heap hK.out
          clear hK hB
          go_wp2_with fail
          refine (c1' _).mono ?_
          rintro e w' ⟨rfl, rfl⟩
          cases X1 with
          | false =>
            go_wp2
            go_ret
            exact ⟨ret_b (by rw [HS.out]; exact rangeAll_no k hlt HE.out), HB1.out⟩
          | true =>
          go_wp2_with fail
          refine (c2' _).mono ?_
          rintro e w' ⟨rfl, rfl⟩
          cases X2 with
          | false =>
            go_wp2
            go_ret
            exact ⟨ret_b (by rw [HS.out]; exact rangeAll_no k hlt HE.out), HB1.out⟩
          | true =>
          go_wp2_with fail
          refine c3'.mono ?_
          rintro e w2 ⟨rfl, B⟩
          have HB2 : Hid (Below w.heap.size w w2) := Below.step HB1.out B
          have HKb2 : Hid (w2.heap[w.heap.size]? = some (.cells #[.slice a0 n0 c0, .int .i64 x.valid, .int .i64 x.next, .int .i64 x.seq, .slice a1 x.mails.length c1, .slice (some ⟨b, off, none⟩) x.gones.length c2, .int .i64 x.lost] 51)) := box_below B HKb.out
          have HKg2 : Hid (w2.heap[wr.heap.size]? = some (.cells #[.int .i64 uid, .int .i64 seq] 93)) := box_below B HKg.out
          have c4' := HC4.out w2 B
          obtain ⟨t0, t1⟩ := bx2 HKg2.out
          obtain ⟨s0, s1, s2, s3, s4, s5, s6⟩ := bx7 HKb2.out
          clear B HB1 HKb HKg HC4 e0 e1 e2 e3 e4 e5 e6
          cases X3 with
          | true =>
            go_wp2
            go_ret
            exact ⟨ret_b (by rw [HS.out]; exact rangeAll_no k hlt HE.out), HB2.out⟩
          | false =>
          go_wp2_with fail
          refine c4'.mono ?_
          rintro e w3 ⟨rfl, B⟩
          have HB3 : Hid (Below w.heap.size w w3) := Below.step HB2.out B
          have HKb3 : Hid (w3.heap[w.heap.size]? = some (.cells #[.slice a0 n0 c0, .int .i64 x.valid, .int .i64 x.next, .int .i64 x.seq, .slice a1 x.mails.length c1, .slice (some ⟨b, off, none⟩) x.gones.length c2, .int .i64 x.lost] 51)) := box_below B HKb2.out
          clear t0 t1 s0 s1 s2 s3 s4 s5 s6
          obtain ⟨t0, t1⟩ := bx2 (box_below B HKg2.out)
          clear B HB2 HKb2 HKg2
          cases X4 with
          | true =>
            go_wp2
            go_ret
            exact ⟨ret_b (by rw [HS.out]; exact rangeAll_no k hlt HE.out), HB3.out⟩
          | false =>
          go_wp2
          go_roundw
          case rel =>
            refine ⟨k + 1, by omega, by go_num, by rw [HP1.out], (show Hid _ from fun j hj => ?_), HKb3, HB3⟩
            by_cases e : j = k
            · subst e; exact HE.out
            · exact hA.out j (by omega)
          case measure => simp [intOf]; omega
        · obtain rfl : k = x.gones.length := by omega
          go_wp2
          go_ret
          exact ⟨ret_b (by rw [HS.out]; exact rangeAll_yes hA.out), hB.out⟩
    · have hml' : x.lost ≤ 1 := by omega
      clear hml
      go_enter Try.func68, Try.ntmps68
      go_wp2
      go_loopw [3, 4, 5, 16] (fun q _ _ i wr => ∃ k : Nat, k ≤ x.gones.length ∧ i = .int .i64 k ∧ q = .int .i64 (minS x k) ∧ Hid (∀ j, j < k → goneAt x j = true) ∧ Hid (wr.heap[w.heap.size]? = some (.cells #[.slice a0 n0 c0, .int .i64 x.valid, .int .i64 x.next, .int .i64 x.seq, .slice a1 x.mails.length c1, .slice a2 x.gones.length c2, .int .i64 x.lost] 51)) ∧ Hid (Below w.heap.size w wr)) (fun _ _ _ i _ => x.gones.length - (intOf i).toNat)
      case atStart => exact ⟨0, Nat.zero_le _, rfl, by simp [minS]; omega, (fun j hj => absurd hj (Nat.not_lt_zero _)), HK, HX⟩
      case round =>
        obtain ⟨k, hk, rfl, rfl, hA, hK, hB⟩ := hrel
        by_cases hlt : k < x.gones.length
        · obtain ⟨m, hm⟩ : ∃ m, x.gones[k]? = some m := ⟨x.gones[k], List.getElem?_eq_getElem hlt⟩
          obtain ⟨b, off, cap', hv', hlb, d0, d1, j0, j1⟩ := GonesV.cell (H0.out wr hB.out).2.2 k m hm
          simp only [Value.slice.injEq, true_and] at hv'
          obtain ⟨rfl, rfl⟩ := hv'
          have HE : Hid (goneAt x k = (inB m.uid 1 (x.next - 1) && (inB m.seq (minS x k) x.seq && (!(x.mails.any fun o => decide (o.uid = m.uid)) && !((x.gones.take k).any fun o => decide (o.uid = m.uid)))))) := by simp [Hid, goneAt, hm]
          have HP1 : Hid (minS x (k + 1) = m.seq) := by simp [Hid, minS, hm]
          generalize hQ : minS x k = q at HE
          clear hQ hm
          obtain ⟨uid, seq⟩ := m
          simp only at d0 d1 j0 j1 HE HP1
          have c1' := within_any uid 1 (x.next - 1)
          have c2' := within_any seq q x.seq
          generalize inB uid 1 (x.next - 1) = X1 at c1' HE
          generalize inB seq q x.seq = X2 at c2' HE
          have HKg : Hid ((wr.alloc (.cells #[.int .i64 uid, .int .i64 seq] 93)).heap[wr.heap.size]? = some (.cells #[.int .i64 uid, .int .i64 seq] 93)) := box_new wr _
          have HKb : Hid ((wr.alloc (.cells #[.int .i64 uid, .int .i64 seq] 93)).heap[w.heap.size]? = some (.cells #[.slice a0 n0 c0, .int .i64 x.valid, .int .i64 x.next, .int .i64 x.seq, .slice a1 x.mails.length c1, .slice (some ⟨b, off, none⟩) x.gones.length c2, .int .i64 x.lost] 51)) := box_alloc hK.out _
          have HB1 : Hid (Below w.heap.size w (wr.alloc (.cells #[.int .i64 uid, .int .i64 seq] 93))) := Below.step hB.out ((Below.refl _ _).alloc (Nat.le_refl _) _)
          have c3' := containsFuncMail 83 #[.pointer (some ⟨wr.heap.size, 0, none⟩)] (fun o => decide (o.uid = uid)) _ x.mails _ (H0.out _ HB1.out).2.1 (fun args w => by kernel_rfl) (fun wi o u hbi hu => gonesOk1_any u o wr.heap.size uid wi hu (bx2 (box_below hbi HKg.out)).1 (lt_of_heap (box_below hbi HKg.out)))
          have HC4 : Hid (∀ wi, Below (wr.alloc (.cells #[.int .i64 uid, .int .i64 seq] 93)).heap.size (wr.alloc (.cells #[.int .i64 uid, .int .i64 seq] 93)) wi → Calls Try.prog 84 #[.slice (some ⟨b, off, none⟩) k c2, .func (.func 85) #[] #[.pointer (some ⟨wr.heap.size, 0, none⟩)]] wi fun e w' => e = .returned (.bool ((x.gones.take k).any fun o => decide (o.uid = uid))) ∧ Below wi.heap.size wi w') := fun wi hbi =>
            containsFuncGone 85 #[.pointer (some ⟨wr.heap.size, 0, none⟩)] (fun o => decide (o.uid = uid)) _ (x.gones.take k) _ (((H0.out _ (Below.step HB1.out hbi)).2.2).take k hk) (fun args w => by kernel_rfl) (fun wj o u hbj hu => gonesOk2_any u o wr.heap.size uid wj hu (bx2 (box_below hbj (box_below hbi HKg.out))).1 (lt_of_heap (box_below hbj (box_below hbi HKg.out))))
          generalize (x.mails.any fun o => decide (o.uid = uid)) = X3 at c3' HE
          generalize ((x.gones.take k).any fun o => decide (o.uid = uid)) = X4 at HC4 HE
          obtain ⟨e0, e1, e2, e3, e4, e5, e6⟩ := bx7 hK.out
          have hlA := lt_of_heap hK.out
          clear hK hB
          go_wp2_with fail
          refine (c1' _).mono ?_
          rintro e w' ⟨rfl, rfl⟩
          cases X1 with
          | false =>
            go_wp2
            go_ret
            exact ⟨ret_b (by rw [HS.out]; exact rangeAll_no k hlt HE.out), HB1.out⟩
          | true =>
          go_wp2_with fail
          refine (c2' _).mono ?_
          rintro e w' ⟨rfl, rfl⟩
          cases X2 with
          | false =>
            go_wp2
            go_ret
            exact ⟨ret_b (by rw [HS.out]; exact rangeAll_no k hlt HE.out), HB1.out⟩
          | true =>
          go_wp2_with fail
          refine c3'.mono ?_
          rintro e w2 ⟨rfl, B⟩
          have HB2 : Hid (Below w.heap.size w w2) := Below.step HB1.out B
          have HKb2 : Hid (w2.heap[w.heap.size]? = some (.cells #[.slice a0 n0 c0, .int .i64 x.valid, .int .i64 x.next, .int .i64 x.seq, .slice a1 x.mails.length c1, .slice (some ⟨b, off, none⟩) x.gones.length c2, .int .i64 x.lost] 51)) := box_below B HKb.out
          have HKg2 : Hid (w2.heap[wr.heap.size]? = some (.cells #[.int .i64 uid, .int .i64 seq] 93)) := box_below B HKg.out
          have c4' := HC4.out w2 B
          obtain ⟨t0, t1⟩ := bx2 HKg2.out
          obtain ⟨s0, s1, s2, s3, s4, s5, s6⟩ := bx7 HKb2.out
          clear B HB1 HKb HKg HC4 e0 e1 e2 e3 e4 e5 e6
          cases X3 with
          | true =>
            go_wp2
            go_ret
            exact ⟨ret_b (by rw [HS.out]; exact rangeAll_no k hlt HE.out), HB2.out⟩
          | false =>
          go_wp2_with fail
          refine c4'.mono ?_
          rintro e w3 ⟨rfl, B⟩
          have HB3 : Hid (Below w.heap.size w w3) := Below.step HB2.out B
          have HKb3 : Hid (w3.heap[w.heap.size]? = some (.cells #[.slice a0 n0 c0, .int .i64 x.valid, .int .i64 x.next, .int .i64 x.seq, .slice a1 x.mails.length c1, .slice (some ⟨b, off, none⟩) x.gones.length c2, .int .i64 x.lost] 51)) := box_below B HKb2.out
          clear t0 t1 s0 s1 s2 s3 s4 s5 s6
          obtain ⟨t0, t1⟩ := bx2 (box_below B HKg2.out)
          clear B HB2 HKb2 HKg2
          cases X4 with
          | true =>
            go_wp2
            go_ret
            exact ⟨ret_b (by rw [HS.out]; exact rangeAll_no k hlt HE.out), HB3.out⟩
          | false =>
          go_wp2
          go_roundw
          case rel =>
            refine ⟨k + 1, by omega, by go_num, by rw [HP1.out], (show Hid _ from fun j hj => ?_), HKb3, HB3⟩
            by_cases e : j = k
            · subst e; exact HE.out
            · exact hA.out j (by omega)
          case measure => simp [intOf]; omega
        · obtain rfl : k = x.gones.length := by omega
          go_wp2
          go_ret
          exact ⟨ret_b (by rw [HS.out]; exact rangeAll_yes hA.out), hB.out⟩
  · have HS : Hid (gonesB x = false) := by simp [Hid, gonesB, h0]
    go_enter Try.func68, Try.ntmps68
    go_wp2
    go_ret
    exact ⟨ret_b HS.out, X⟩

end Go.Proofs.Ytnjicpdccpkbmaa
