/- The proof's texts, part 8. -/
import Derived.Test.YthnlbhmecokomaaDoorPart7
import Derived.Test.YthnlbhmecokomaaDoorPart1
import Derived.Test.YthnlbhmecokomaaDoorPart2
import Derived.Shelf.Abstract
import Derived.Lib.BytesEntry
import Derived.Lib.Bytealg
import Derived.Deep.RegionHeld3

/- What gonesOk of package impl do. -/
namespace Go.Proofs.YthnlbhmecokomaaDoor
open Go.RowKit Go.Shelf
set_option maxRecDepth 100000
set_option linter.unusedVariables false

theorem Rd.take {α : Type} {sz : Nat} {E : World → List Value → α → Prop} {w : World} {a : Option Addr} {n cap : Nat} {l : List α} (h : Rd sz E w (.slice a n cap) l) (k : Nat) (hk : k ≤ l.length) : Rd sz E w (.slice a k cap) (l.take k) := by
  obtain ⟨a', cap', cs, hv, h1, h2, h3, h4, h5⟩ := h
  simp only [Value.slice.injEq] at hv
  obtain ⟨rfl, -, rfl⟩ := hv
  have hl : (l.take k).length = k := by simp; omega
  refine ⟨a, cap, cs, by rw [hl], by rw [hl]; omega, h2, h3, fun i x hx => ?_, fun hp => ?_⟩
  · rw [List.getElem?_take] at hx
    split at hx
    · exact h4 i x hx
    · cases hx
  · rw [hl] at hp
    obtain ⟨b, off, ha, hlt, hc⟩ := h5 (by omega)
    exact ⟨b, off, ha, hlt, fun i j u hi hu => hc i j u (by rw [hl] at hi; omega) hu⟩

set_option maxRecDepth 100000 in
set_option maxHeartbeats 1000000 in
theorem gonesOk1_any (u : Value) (m : MailD) (bg : Nat) (guid : Int) (w : World) (hu : MailV w u m) (hc : w.cell? ⟨bg, 0, none⟩ = some (.int .i64 guid)) (hb : bg < w.heap.size) :
    Calls Tryd.prog 68 #[u, .pointer (some ⟨bg, 0, none⟩)] w fun e w' => e = .returned (.bool (decide (m.uid = guid))) ∧ Below w.heap.size w w' := by
  obtain ⟨u, rfl, h, -⟩ := hu
  obtain ⟨ua, un, uc, rfl⟩ := h.form3
  clear h
  obtain ⟨uid, flags, seq, text⟩ := m
  simp only
  go_enter Tryd.func68, Tryd.ntmps68
  go_wp2
  go_ret
  exact ⟨ret_b (by rw [Bool.eq_iff_iff]; simp), (Below.refl _ _).alloc (Nat.le_refl _) _⟩

set_option maxRecDepth 100000 in
set_option maxHeartbeats 1000000 in
theorem gonesOk2_any (u : Value) (m : GoneD) (bg : Nat) (guid : Int) (w : World) (hu : GoneV w u m) (hc : w.cell? ⟨bg, 0, none⟩ = some (.int .i64 guid)) (hb : bg < w.heap.size) :
    Calls Tryd.prog 70 #[u, .pointer (some ⟨bg, 0, none⟩)] w fun e w' => e = .returned (.bool (decide (m.uid = guid))) ∧ Below w.heap.size w w' := by
  unfold GoneV at hu
  subst hu
  obtain ⟨uid, seq⟩ := m
  simp only
  go_enter Tryd.func70, Tryd.ntmps70
  go_wp2
  go_ret
  exact ⟨ret_b (by rw [Bool.eq_iff_iff]; simp), (Below.refl _ _).alloc (Nat.le_refl _) _⟩

set_option maxRecDepth 100000 in
set_option maxHeartbeats 1000000 in
theorem gonesOk_any (v : Value) (x : BoxD) (w : World) (hv : BoxV w v x) (hn0 : 1 ≤ x.next) (hn1 : x.next ≤ 1000000) :
    Calls Tryd.prog 56 #[v] w fun e w' => e = .returned (.bool (gonesB x)) ∧ Below w.heap.size w w' := by
  obtain ⟨u0, u1, u2, rfl, g0, g1, g2, i0, i1, i2, i3⟩ := hv
  have H0 : Hid (∀ wi, Below w.heap.size w wi → Bs wi u0 x.name ∧ MailsV wi u1 x.mails ∧ GonesV wi u2 x.gones) := fun wi h => ⟨g0.below h, g1.below keepsMail h, g2.below keepsGone h⟩
  obtain ⟨a0, n0, c0, rfl⟩ := g0.form3
  obtain ⟨a1, c1, rfl, m0, m1⟩ := g1.form
  obtain ⟨a2, c2, rfl, m2, m3⟩ := g2.form
  clear g0 g1 g2
  have kA := box_new w (.cells #[.slice a0 n0 c0, .int .i64 x.valid, .int .i64 x.next, .int .i64 x.seq, .slice a1 x.mails.length c1, .slice a2 x.gones.length c2, .int .i64 x.lost] 53)
  have X : Below w.heap.size w (w.alloc (.cells #[.slice a0 n0 c0, .int .i64 x.valid, .int .i64 x.next, .int .i64 x.seq, .slice a1 x.mails.length c1, .slice a2 x.gones.length c2, .int .i64 x.lost] 53)) := (Below.refl _ _).alloc (Nat.le_refl _) _
  by_cases h0 : x.gones.length ≤ 40
  · have HS : Hid (gonesB x = (List.range x.gones.length).all (goneAt x)) := by simp [Hid, gonesB, h0]
    have HK : Hid ((w.alloc (.cells #[.slice a0 n0 c0, .int .i64 x.valid, .int .i64 x.next, .int .i64 x.seq, .slice a1 x.mails.length c1, .slice a2 x.gones.length c2, .int .i64 x.lost] 53)).heap[w.heap.size]? = some (.cells #[.slice a0 n0 c0, .int .i64 x.valid, .int .i64 x.next, .int .i64 x.seq, .slice a1 x.mails.length c1, .slice a2 x.gones.length c2, .int .i64 x.lost] 53)) := kA
    have HX : Hid (Below w.heap.size w (w.alloc (.cells #[.slice a0 n0 c0, .int .i64 x.valid, .int .i64 x.next, .int .i64 x.seq, .slice a1 x.mails.length c1, .slice a2 x.gones.length c2, .int .i64 x.lost] 53))) := X
    clear kA X
    by_cases hml : 1 < x.lost
    · have hml0 : Hid True := trivial
      go_enter Tryd.func56, Tryd.ntmps56
      go_wp2
      go_loopw [3, 4, 5, 16] (fun q _ _ i wr => ∃ k : Nat, k ≤ x.gones.length ∧ i = .int .i64 k ∧ q = .int .i64 (minS x k) ∧ Hid (∀ j, j < k → goneAt x j = true) ∧ Hid (wr.heap[w.heap.size]? = some (.cells #[.slice a0 n0 c0, .int .i64 x.valid, .int .i64 x.next, .int .i64 x.seq, .slice a1 x.mails.length c1, .slice a2 x.gones.length c2, .int .i64 x.lost] 53)) ∧ Hid (Below w.heap.size w wr)) (fun _ _ _ i _ => x.gones.length - (intOf i).toNat)
      case atStart => exact ⟨0, Nat.zero_le _, rfl, by simp [minS] <;> omega, (fun j hj => absurd hj (Nat.not_lt_zero _)), HK, HX⟩
      case round =>
        obtain ⟨k, hk, rfl, rfl, hA, hK, hB⟩ := hrel
        by_cases hlt : k < x.gones.length
        · obtain ⟨m, hm⟩ : ∃ m, x.gones[k]? = some m := ⟨x.gones[k], List.getElem?_eq_getElem hlt⟩
          obtain ⟨b, off, cap', hv', hlb, d0, d1, j0, j1⟩ := GonesV.cell (H0.out wr hB.out).2.2 k m hm
          simp only [Value.slice.injEq, true_and] at hv'
          obtain ⟨rfl, rfl⟩ := hv'
          have HE : Hid (goneAt x k = (inB m.uid 1 (x.next - 1) && (inB m.seq (minS x k) x.seq && (!(x.mails.any fun o => decide (o.uid = m.uid)) && !((x.gones.take k).any fun o => decide (o.uid = m.uid)))))) := by simp [Hid, goneAt, hm]
          have HP1 : Hid (minS x (k + 1) = m.seq) := by simp [Hid, minS, hm]
          generalize hQ : minS x k = q at HE
          clear hQ hm
          obtain ⟨uid, seq⟩ := m
          simp only at d0 d1 j0 j1 HE HP1
          have c1' := within_any uid 1 (x.next - 1)
          have c2' := within_any seq q x.seq
          generalize inB uid 1 (x.next - 1) = X1 at c1' HE
          generalize inB seq q x.seq = X2 at c2' HE
          have HKg : Hid ((wr.alloc (.cells #[.int .i64 uid, .int .i64 seq] 75)).heap[wr.heap.size]? = some (.cells #[.int .i64 uid, .int .i64 seq] 75)) := box_new wr _
          have HKb : Hid ((wr.alloc (.cells #[.int .i64 uid, .int .i64 seq] 75)).heap[w.heap.size]? = some (.cells #[.slice a0 n0 c0, .int .i64 x.valid, .int .i64 x.next, .int .i64 x.seq, .slice a1 x.mails.length c1, .slice (some ⟨b, off, none⟩) x.gones.length c2, .int .i64 x.lost] 53)) := box_alloc hK.out _
          have HB1 : Hid (Below w.heap.size w (wr.alloc (.cells #[.int .i64 uid, .int .i64 seq] 75))) := Below.step hB.out ((Below.refl _ _).alloc (Nat.le_refl _) _)
          have c3' := containsFuncMail 68 #[.pointer (some ⟨wr.heap.size, 0, none⟩)] (fun o => decide (o.uid = uid)) _ x.mails _ (H0.out _ HB1.out).2.1 (fun args w => by kernel_rfl) (fun wi o u hbi hu => gonesOk1_any u o wr.heap.size uid wi hu (bx2 (box_below hbi HKg.out)).1 (lt_of_heap (box_below hbi HKg.out)))
          have HC4 : Hid (∀ wi, Below (wr.alloc (.cells #[.int .i64 uid, .int .i64 seq] 75)).heap.size (wr.alloc (.cells #[.int .i64 uid, .int .i64 seq] 75)) wi → Calls Tryd.prog 69 #[.slice (some ⟨b, off, none⟩) k c2, .func (.func 70) #[] #[.pointer (some ⟨wr.heap.size, 0, none⟩)]] wi fun e w' => e = .returned (.bool ((x.gones.take k).any fun o => decide (o.uid = uid))) ∧ Below wi.heap.size wi w') := fun wi hbi =>
            containsFuncGone 70 #[.pointer (some ⟨wr.heap.size, 0, none⟩)] (fun o => decide (o.uid = uid)) _ (x.gones.take k) _ (((H0.out _ (Below.step HB1.out hbi)).2.2).take k hk) (fun args w => by kernel_rfl) (fun wj o u hbj hu => gonesOk2_any u o wr.heap.size uid wj hu (bx2 (box_below hbj (box_below hbi HKg.out))).1 (lt_of_heap (box_below hbj (box_below hbi HKg.out))))
          generalize (x.mails.any fun o => decide (o.uid = uid)) = X3 at c3' HE
          generalize ((x.gones.take k).any fun o => decide (o.uid = uid)) = X4 at HC4 HE
          obtain ⟨e0, e1, e2, e3, e4, e5, e6⟩ := bx7 hK.out
          have hlA := lt_of_heap hK.out
          clear hK hB
          go_wp2_with fail
          refine (c1' _).mono ?_
          rintro e w' ⟨rfl, rfl⟩
          cases X1 with
          | false =>
            go_wp2
            go_ret
            exact ⟨ret_b (by rw [HS.out]; exact rangeAll_no k hlt HE.out), HB1.out⟩
          | true =>
          go_wp2_with fail
          refine (c2' _).mono ?_
          rintro e w' ⟨rfl, rfl⟩
          cases X2 with
          | false =>
            go_wp2
            go_ret
            exact ⟨ret_b (by rw [HS.out]; exact rangeAll_no k hlt HE.out), HB1.out⟩
          | true =>
          go_wp2_with fail
          refine c3'.mono ?_
          rintro e w2 ⟨rfl, B⟩
          have HB2 : Hid (Below w.heap.size w w2) := Below.step HB1.out B
          have HKb2 : Hid (w2.heap[w.heap.size]? = some (.cells #[.slice a0 n0 c0, .int .i64 x.valid, .int .i64 x.next, .int .i64 x.seq, .slice a1 x.mails.length c1, .slice (some ⟨b, off, none⟩) x.gones.length c2, .int .i64 x.lost] 53)) := box_below B HKb.out
          have HKg2 : Hid (w2.heap[wr.heap.size]? = some (.cells #[.int .i64 uid, .int .i64 seq] 75)) := box_below B HKg.out
          have c4' := HC4.out w2 B
          obtain ⟨t0, t1⟩ := bx2 HKg2.out
          obtain ⟨s0, s1, s2, s3, s4, s5, s6⟩ := bx7 HKb2.out
          clear B HB1 HKb HKg HC4 e0 e1 e2 e3 e4 e5 e6
          cases X3 with
          | true =>
            go_wp2
            go_ret
            exact ⟨ret_b (by rw [HS.out]; exact rangeAll_no k hlt HE.out), HB2.out⟩
          | false =>
          go_wp2_with fail
          refine c4'.mono ?_
          rintro e w3 ⟨rfl, B⟩
          have HB3 : Hid (Below w.heap.size w w3) := Below.step HB2.out B
          have HKb3 : Hid (w3.heap[w.heap.size]? = some (.cells #[.slice a0 n0 c0, .int .i64 x.valid, .int .i64 x.next, .int .i64 x.seq, .slice a1 x.mails.length c1, .slice (some ⟨b, off, none⟩) x.gones.length c2, .int .i64 x.lost] 53)) := box_below B HKb2.out
          clear t0 t1 s0 s1 s2 s3 s4 s5 s6
          obtain ⟨t0, t1⟩ := bx2 (box_below B HKg2.out)
          clear B HB2 HKb2 HKg2
          cases X4 with
          | true =>
            go_wp2
            go_ret
            exact ⟨ret_b (by rw [HS.out]; exact rangeAll_no k hlt HE.out), HB3.out⟩
          | false =>
          go_wp2
          go_roundw
          case rel =>
            refine ⟨k + 1, by omega, by go_num, by rw [HP1.out], (show Hid _ from fun j hj => ?_), HKb3, HB3⟩
            by_cases e : j = k
            · subst e; exact HE.out
            · exact hA.out j (by omega)
          case measure => simp [intOf]; omega
        · obtain rfl : k = x.gones.length := by omega
          go_wp2
          go_ret
          exact ⟨ret_b (by rw [HS.out]; exact rangeAll_yes hA.out), hB.out⟩
    · have hml' : x.lost ≤ 1 := by omega
      clear hml
      go_enter Tryd.func56, Tryd.ntmps56
      go_wp2
      go_loopw [3, 4, 5, 16] (fun q _ _ i wr => ∃ k : Nat, k ≤ x.gones.length ∧ i = .int .i64 k ∧ q = .int .i64 (minS x k) ∧ Hid (∀ j, j < k → goneAt x j = true) ∧ Hid (wr.heap[w.heap.size]? = some (.cells #[.slice a0 n0 c0, .int .i64 x.valid, .int .i64 x.next, .int .i64 x.seq, .slice a1 x.mails.length c1, .slice a2 x.gones.length c2, .int .i64 x.lost] 53)) ∧ Hid (Below w.heap.size w wr)) (fun _ _ _ i _ => x.gones.length - (intOf i).toNat)
      case atStart => exact ⟨0, Nat.zero_le _, rfl, by simp [minS] <;> omega, (fun j hj => absurd hj (Nat.not_lt_zero _)), HK, HX⟩
      case round =>
        obtain ⟨k, hk, rfl, rfl, hA, hK, hB⟩ := hrel
        by_cases hlt : k < x.gones.length
        · obtain ⟨m, hm⟩ : ∃ m, x.gones[k]? = some m := ⟨x.gones[k], List.getElem?_eq_getElem hlt⟩
          obtain ⟨b, off, cap', hv', hlb, d0, d1, j0, j1⟩ := GonesV.cell (H0.out wr hB.out).2.2 k m hm
          simp only [Value.slice.injEq, true_and] at hv'
          obtain ⟨rfl, rfl⟩ := hv'
          have HE : Hid (goneAt x k = (inB m.uid 1 (x.next - 1) && (inB m.seq (minS x k) x.seq && (!(x.mails.any fun o => decide (o.uid = m.uid)) && !((x.gones.take k).any fun o => decide (o.uid = m.uid)))))) := by simp [Hid, goneAt, hm]
          have HP1 : Hid (minS x (k + 1) = m.seq) := by simp [Hid, minS, hm]
          generalize hQ : minS x k = q at HE
          clear hQ hm
          obtain ⟨uid, seq⟩ := m
          simp only at d0 d1 j0 j1 HE HP1
          have c1' := within_any uid 1 (x.next - 1)
          have c2' := within_any seq q x.seq
          generalize inB uid 1 (x.next - 1) = X1 at c1' HE
          generalize inB seq q x.seq = X2 at c2' HE
          have HKg : Hid ((wr.alloc (.cells #[.int .i64 uid, .int .i64 seq] 75)).heap[wr.heap.size]? = some (.cells #[.int .i64 uid, .int .i64 seq] 75)) := box_new wr _
          have HKb : Hid ((wr.alloc (.cells #[.int .i64 uid, .int .i64 seq] 75)).heap[w.heap.size]? = some (.cells #[.slice a0 n0 c0, .int .i64 x.valid, .int .i64 x.next, .int .i64 x.seq, .slice a1 x.mails.length c1, .slice (some ⟨b, off, none⟩) x.gones.length c2, .int .i64 x.lost] 53)) := box_alloc hK.out _
          have HB1 : Hid (Below w.heap.size w (wr.alloc (.cells #[.int .i64 uid, .int .i64 seq] 75))) := Below.step hB.out ((Below.refl _ _).alloc (Nat.le_refl _) _)
          have c3' := containsFuncMail 68 #[.pointer (some ⟨wr.heap.size, 0, none⟩)] (fun o => decide (o.uid = uid)) _ x.mails _ (H0.out _ HB1.out).2.1 (fun args w => by kernel_rfl) (fun wi o u hbi hu => gonesOk1_any u o wr.heap.size uid wi hu (bx2 (box_below hbi HKg.out)).1 (lt_of_heap (box_below hbi HKg.out)))
          have HC4 : Hid (∀ wi, Below (wr.alloc (.cells #[.int .i64 uid, .int .i64 seq] 75)).heap.size (wr.alloc (.cells #[.int .i64 uid, .int .i64 seq] 75)) wi → Calls Tryd.prog 69 #[.slice (some ⟨b, off, none⟩) k c2, .func (.func 70) #[] #[.pointer (some ⟨wr.heap.size, 0, none⟩)]] wi fun e w' => e = .returned (.bool ((x.gones.take k).any fun o => decide (o.uid = uid))) ∧ Below wi.heap.size wi w') := fun wi hbi =>
            containsFuncGone 70 #[.pointer (some ⟨wr.heap.size, 0, none⟩)] (fun o => decide (o.uid = uid)) _ (x.gones.take k) _ (((H0.out _ (Below.step HB1.out hbi)).2.2).take k hk) (fun args w => by kernel_rfl) (fun wj o u hbj hu => gonesOk2_any u o wr.heap.size uid wj hu (bx2 (box_below hbj (box_below hbi HKg.out))).1 (lt_of_heap (box_below hbj (box_below hbi HKg.out))))
          generalize (x.mails.any fun o => decide (o.uid = uid)) = X3 at c3' HE
          generalize ((x.gones.take k).any fun o => decide (o.uid = uid)) = X4 at HC4 HE
          obtain ⟨e0, e1, e2, e3, e4, e5, e6⟩ := bx7 hK.out
          have hlA := lt_of_heap hK.out
          clear hK hB
          go_wp2_with fail
          refine (c1' _).mono ?_
          rintro e w' ⟨rfl, rfl⟩
          cases X1 with
          | false =>
            go_wp2
            go_ret
            exact ⟨ret_b (by rw [HS.out]; exact rangeAll_no k hlt HE.out), HB1.out⟩
          | true =>
          go_wp2_with fail
          refine (c2' _).mono ?_
          rintro e w' ⟨rfl, rfl⟩
          cases X2 with
          | false =>
            go_wp2
            go_ret
            exact ⟨ret_b (by rw [HS.out]; exact rangeAll_no k hlt HE.out), HB1.out⟩
          | true =>
          go_wp2_with fail
          refine c3'.mono ?_
          rintro e w2 ⟨rfl, B⟩
          have HB2 : Hid (Below w.heap.size w w2) := Below.step HB1.out B
          have HKb2 : Hid (w2.heap[w.heap.size]? = some (.cells #[.slice a0 n0 c0, .int .i64 x.valid, .int .i64 x.next, .int .i64 x.seq, .slice a1 x.mails.length c1, .slice (some ⟨b, off, none⟩) x.gones.length c2, .int .i64 x.lost] 53)) := box_below B HKb.out
          have HKg2 : Hid (w2.heap[wr.heap.size]? = some (.cells #[.int .i64 uid, .int .i64 seq] 75)) := box_below B HKg.out
          have c4' := HC4.out w2 B
          obtain ⟨t0, t1⟩ := bx2 HKg2.out
          obtain ⟨s0, s1, s2, s3, s4, s5, s6⟩ := bx7 HKb2.out
          clear B HB1 HKb HKg HC4 e0 e1 e2 e3 e4 e5 e6
          cases X3 with
          | true =>
            go_wp2
            go_ret
            exact ⟨ret_b (by rw [HS.out]; exact rangeAll_no k hlt HE.out), HB2.out⟩
          | false =>
          go_wp2_with fail
          refine c4'.mono ?_
          rintro e w3 ⟨rfl, B⟩
          have HB3 : Hid (Below w.heap.size w w3) := Below.step HB2.out B
          have HKb3 : Hid (w3.heap[w.heap.size]? = some (.cells #[.slice a0 n0 c0, .int .i64 x.valid, .int .i64 x.next, .int .i64 x.seq, .slice a1 x.mails.length c1, .slice (some ⟨b, off, none⟩) x.gones.length c2, .int .i64 x.lost] 53)) := box_below B HKb2.out
          clear t0 t1 s0 s1 s2 s3 s4 s5 s6
          obtain ⟨t0, t1⟩ := bx2 (box_below B HKg2.out)
          clear B HB2 HKb2 HKg2
          cases X4 with
          | true =>
            go_wp2
            go_ret
            exact ⟨ret_b (by rw [HS.out]; exact rangeAll_no k hlt HE.out), HB3.out⟩
          | false =>
          go_wp2
          go_roundw
          case rel =>
            refine ⟨k + 1, by omega, by go_num, by rw [HP1.out], (show Hid _ from fun j hj => ?_), HKb3, HB3⟩
            by_cases e : j = k
            · subst e; exact HE.out
            · exact hA.out j (by omega)
          case measure => simp [intOf]; omega
        · obtain rfl : k = x.gones.length := by omega
          go_wp2
          go_ret
          exact ⟨ret_b (by rw [HS.out]; exact rangeAll_yes hA.out), hB.out⟩
  · have HS : Hid (gonesB x = false) := by simp [Hid, gonesB, h0]
    go_enter Tryd.func56, Tryd.ntmps56
    go_wp2
    go_ret
    exact ⟨ret_b HS.out, X⟩

end Go.Proofs.YthnlbhmecokomaaDoor

/- What boxOk of package impl do. -/
namespace Go.Proofs.YthnlbhmecokomaaDoor
open Go.RowKit Go.Shelf
set_option maxRecDepth 100000
set_option linter.unusedVariables false

set_option maxRecDepth 100000 in
set_option maxHeartbeats 1000000 in
theorem boxOk_any (v : Value) (x : BoxD) (mv : Int) (w : World) (hv : BoxV w v x) :
    Calls Tryd.prog 34 #[v, .int .i64 mv] w fun e w' => e = .returned (.bool (boxB x mv)) ∧ Below w.heap.size w w' := by
  have HV : Hid (∀ wi, Below w.heap.size w wi → BoxV wi v x) := fun wi h => hv.below h
  obtain ⟨u0, u1, u2, rfl, g0, g1, g2, i0, i1, i2, i3⟩ := hv
  have H0 : Hid (∀ wi, Below w.heap.size w wi → Bs wi u0 x.name ∧ MailsV wi u1 x.mails ∧ GonesV wi u2 x.gones) := fun wi h => ⟨g0.below h, g1.below keepsMail h, g2.below keepsGone h⟩
  obtain ⟨a0, n0, c0, rfl⟩ := g0.form3
  obtain ⟨a1, c1, rfl, m0, m1⟩ := g1.form
  obtain ⟨a2, c2, rfl, m2, m3⟩ := g2.form
  have kA := box_new w (.cells #[.slice a0 n0 c0, .int .i64 x.valid, .int .i64 x.next, .int .i64 x.seq, .slice a1 x.mails.length c1, .slice a2 x.gones.length c2, .int .i64 x.lost] 53)
  have X : Below w.heap.size w (w.alloc (.cells #[.slice a0 n0 c0, .int .i64 x.valid, .int .i64 x.next, .int .i64 x.seq, .slice a1 x.mails.length c1, .slice a2 x.gones.length c2, .int .i64 x.lost] 53)) := (Below.refl _ _).alloc (Nat.le_refl _) _
  clear g0 g1 g2
  have HC : Hid (boxB x mv = (nameB x.name && (inB x.valid 1 mv && (inB x.next 1 1000000 && (inB x.seq 0 1000000 && (inB x.lost 0 x.seq && (mailsB x && gonesB x))))))) := rfl
  have HN : Hid (inB x.next 1 1000000 = true → 1 ≤ x.next ∧ x.next ≤ 1000000) := by intro h; simp [inB] at h; exact h
  have hy1 := fun wi (h : Bs wi (.slice a0 n0 c0) x.name) => nameOk_any _ x.name wi h
  have hy2 := within_any x.valid 1 mv
  have hy3 := within_any x.next 1 1000000
  have hy4 := within_any x.seq 0 1000000
  have hy5 := within_any x.lost 0 x.seq
  have hy6 := fun wi (h : BoxV wi (.agg #[.slice a0 n0 c0, .int .i64 x.valid, .int .i64 x.next, .int .i64 x.seq, .slice a1 x.mails.length c1, .slice a2 x.gones.length c2, .int .i64 x.lost]) x) h1 h2 => mailsOk_any _ x wi h h1 h2
  have hy7 := fun wi (h : BoxV wi (.agg #[.slice a0 n0 c0, .int .i64 x.valid, .int .i64 x.next, .int .i64 x.seq, .slice a1 x.mails.length c1, .slice a2 x.gones.length c2, .int .i64 x.lost]) x) h1 h2 => gonesOk_any _ x wi h h1 h2
  generalize nameB x.name = X1 at HC hy1
  generalize inB x.valid 1 mv = X2 at HC hy2
  generalize inB x.next 1 1000000 = X3 at HC hy3 HN
  generalize inB x.seq 0 1000000 = X4 at HC hy4
  generalize inB x.lost 0 x.seq = X5 at HC hy5
  generalize mailsB x = X6 at HC hy6
  generalize gonesB x = X7 at HC hy7
  go_enter Tryd.func34, Tryd.ntmps34
  go_wp2_with fail
  refine (hy1 _ (H0.out _ X).1).mono ?_
  rintro e w1 ⟨rfl, B⟩
  replace kA := box_below B kA
  replace X := Below.step X B
  clear B hy1
  obtain ⟨f0, f1, f2, f3, f4, f5, f6⟩ := bx7 kA
  cases X1 with
  | false =>
    go_wp2
    go_ret
    exact ⟨ret_b HC.out, X⟩
  | true =>
  go_wp2_with fail
  refine (hy2 _).mono ?_
  rintro e w' ⟨rfl, rfl⟩
  cases X2 with
  | false =>
    go_wp2
    go_ret
    exact ⟨ret_b HC.out, X⟩
  | true =>
  go_wp2_with fail
  refine (hy3 _).mono ?_
  rintro e w' ⟨rfl, rfl⟩
  cases X3 with
  | false =>
    go_wp2
    go_ret
    exact ⟨ret_b HC.out, X⟩
  | true =>
  obtain ⟨hn0, hn1⟩ := HN.out rfl
  go_wp2_with fail
  refine (hy4 _).mono ?_
  rintro e w' ⟨rfl, rfl⟩
  cases X4 with
  | false =>
    go_wp2
    go_ret
    exact ⟨ret_b HC.out, X⟩
  | true =>
  go_wp2_with fail
  refine (hy5 _).mono ?_
  rintro e w' ⟨rfl, rfl⟩
  cases X5 with
  | false =>
    go_wp2
    go_ret
    exact ⟨ret_b HC.out, X⟩
  | true =>
  go_wp2_with fail
  refine (hy6 _ (HV.out _ X) hn0 hn1).mono ?_
  rintro e w2 ⟨rfl, B⟩
  replace kA := box_below B kA
  replace X := Below.step X B
  clear B hy6 f0 f1 f2 f3 f4 f5 f6
  obtain ⟨f0, f1, f2, f3, f4, f5, f6⟩ := bx7 kA
  cases X6 with
  | false =>
    go_wp2
    go_ret
    exact ⟨ret_b HC.out, X⟩
  | true =>
  go_wp2_with fail
  refine (hy7 _ (HV.out _ X) hn0 hn1).mono ?_
  rintro e w3 ⟨rfl, B⟩
  replace X := Below.step X B
  go_wp2
  go_ret
  exact ⟨ret_b HC.out, X⟩

end Go.Proofs.YthnlbhmecokomaaDoor

/- What slices.IndexFunc and slices.ContainsFunc of boxes do. -/
namespace Go.Proofs.YthnlbhmecokomaaDoor
open Go.RowKit Go.Shelf
set_option maxRecDepth 100000
set_option linter.unusedVariables false

set_option maxRecDepth 100000 in
set_option maxHeartbeats 1000000 in
theorem indexFuncBox (g : Nat) (lb : Array Value) (p : BoxD → Bool) (v : Value) (l : List BoxD) (w : World) (hv : BoxesV w v l) (eg : ∀ args w, (callFunc g args).run Tryd.prog w = .ok (.enter g args) w)
    (hp : ∀ wi x u, Below w.heap.size w wi → BoxV wi u x → Calls Tryd.prog g (#[u] ++ lb) wi fun e w' => e = .returned (.bool (p x)) ∧ Below wi.heap.size wi w') :
    Calls Tryd.prog 58 #[v, .func (.func g) #[] lb] w fun e w' => e = .returned (.int .i64 (firstI p l)) ∧ Below w.heap.size w w' := by
  have HV : Hid (∀ wi, Below w.heap.size w wi → BoxesV wi v l) := fun wi h => hv.below keepsBox h
  have HP : Hid (∀ wi x u, Below w.heap.size w wi → BoxV wi u x → Calls Tryd.prog g (#[u] ++ lb) wi fun e w' => e = .returned (.bool (p x)) ∧ Below wi.heap.size wi w') := hp
  obtain ⟨a, cap, rfl, hlc, hcm⟩ := hv.form
  clear hv hp
  go_enter Tryd.func58, Tryd.ntmps58
  go_wp2
  go_loopw [5, 8] (fun _ i wr => ∃ k : Nat, k ≤ l.length ∧ i = .int .i64 k ∧ Hid (∀ j x, j < k → l[j]? = some x → p x = false) ∧ Hid (Below w.heap.size w wr)) (fun _ i _ => l.length - (intOf i).toNat)
  case atStart => exact ⟨0, Nat.zero_le _, rfl, (fun j x hj => absurd hj (Nat.not_lt_zero _)), Below.refl _ _⟩
  case round =>
    obtain ⟨k, hk, rfl, hA, hB⟩ := hrel
    by_cases hlt : k < l.length
    · obtain ⟨x, hx⟩ : ∃ x, l[k]? = some x := ⟨l[k], List.getElem?_eq_getElem hlt⟩
      obtain ⟨b, off, cap', u0, u1, u2, hv', hlb, d0, d1, d2, d3, d4, d5, d6, hu0, hu1, hu2, i0, i1, i2, i3⟩ := BoxesV.cell (HV.out wr hB.out) k x hx
      simp only [Value.slice.injEq, true_and] at hv'
      obtain ⟨rfl, rfl⟩ := hv'
      obtain ⟨ua, un, uc, rfl⟩ := hu0.form3
      obtain ⟨va, vc, rfl, -⟩ := hu1.form
      obtain ⟨wa, wc, rfl, -⟩ := hu2.form
      have hcall := HP.out wr x (.agg #[.slice ua un uc, .int .i64 x.valid, .int .i64 x.next, .int .i64 x.seq, .slice va x.mails.length vc, .slice wa x.gones.length wc, .int .i64 x.lost]) hB.out ⟨_, _, _, rfl, hu0, hu1, hu2, i0, i1, i2, i3⟩
      have HX : Hid (l[k]? = some x) := hx
      clear hx
      cases hq : p x with
      | true =>
        rw [hq] at hcall
        have HQ : Hid (p x = true) := hq
        clear hq
        go_wp2_with (go_at_fn g; refine hcall.mono ?_; rintro e w1 ⟨rfl, B⟩)
        go_ret
        exact ⟨ret_i (firstI_hit' hlt HX.out HQ.out hA.out).symm, Below.step hB.out B⟩
      | false =>
        rw [hq] at hcall
        have HQ : Hid (p x = false) := hq
        clear hq
        go_wp2_with (go_at_fn g; refine hcall.mono ?_; rintro e w1 ⟨rfl, B⟩)
        have HB2 : Hid (Below w.heap.size w w1) := Below.step hB.out B
        clear B hB
        go_roundw
        case rel =>
          refine ⟨k + 1, by omega, by go_num, (show Hid _ from fun j y hj hy => ?_), HB2⟩
          by_cases e : j = k
          · subst e; rw [HX.out] at hy; cases hy; exact HQ.out
          · exact hA.out j y (by omega) hy
        case measure => simp [intOf]; omega
    · obtain rfl : k = l.length := by omega
      go_wp2
      go_ret
      exact ⟨ret_i (firstI_none' hA.out).symm, hB.out⟩

set_option maxRecDepth 100000 in
set_option maxHeartbeats 1000000 in
theorem containsFuncBox (g : Nat) (lb : Array Value) (p : BoxD → Bool) (v : Value) (l : List BoxD) (w : World) (hv : BoxesV w v l) (eg : ∀ args w, (callFunc g args).run Tryd.prog w = .ok (.enter g args) w)
    (hp : ∀ wi x u, Below w.heap.size w wi → BoxV wi u x → Calls Tryd.prog g (#[u] ++ lb) wi fun e w' => e = .returned (.bool (p x)) ∧ Below wi.heap.size wi w') :
    Calls Tryd.prog 36 #[v, .func (.func g) #[] lb] w fun e w' => e = .returned (.bool (l.any p)) ∧ Below w.heap.size w w' := by
  have hi := indexFuncBox g lb p v l w hv eg hp
  have HF : Hid (l.any p = decide (0 ≤ firstI p l)) := any_firstI p l
  generalize firstI p l = i at hi HF
  obtain ⟨a, cap, rfl, -⟩ := hv.form
  clear hp hv
  go_enter Tryd.func36, Tryd.ntmps36
  go_wp2_with (go_at_call 58; refine hi.mono ?_; rintro e w1 ⟨rfl, B⟩)
  go_ret
  exact ⟨ret_b HF.out, B⟩

end Go.Proofs.YthnlbhmecokomaaDoor

/- What bytes.Compare do. -/
namespace Go.Proofs.YthnlbhmecokomaaDoor
open Go.RowKit Go.Shelf
set_option maxRecDepth 100000
set_option linter.unusedVariables false

/-- The bytes of a slice, as the model's entries take them. -/
theorem run_bytesOf_bs {w : World} {v : Value} {l : List Int} (h : Bs w v l) : (Extern.Bytes.bytesOf v).run Tryd.prog w = .ok ⟨(bts l).toArray⟩ w := by
  obtain ⟨ho, a, cap, rfl, h1, h2, h3, h4⟩ := h
  cases a with
  | none =>
    have hc := h3 rfl
    have : l = [] := List.eq_nil_of_length_eq_zero (by omega)
    subst this
    rfl
  | some ad =>
    have key : ∀ j x, l[j]? = some x → w.cell? (ad.add j) = some (.int .u8 x) := by
      intro j x hj
      have hjl : j < l.length := (List.getElem?_eq_some_iff.1 hj).1
      obtain ⟨b, off, had, -, hc⟩ := h4 (by omega)
      cases had
      rw [Addr.add_lit, hc j hjl]
      simp [List.getD, hj]
    have := Lib.run_loadBytesX (P := Tryd.prog) w l ad .empty key
    simp only [Extern.Bytes.bytesOf]
    rw [this]
    congr 1
    apply ByteArray.ext
    show (#[] : Array UInt8) ++ _ = _
    simp only [Array.empty_append]
    rfl
theorem run_compare_bs {w : World} {v u : Value} {l m : List Int} (hv : Bs w v l) (hu : Bs w u m) : (Extern.BytealgCompare.compare #[v, u]).run Tryd.prog w = .ok (.int .i64 (Lib.compareBytes (bts l) (bts m))) w := by
  change Sem.run Tryd.prog (do pure (goInt (Extern.BytealgCompare.cmp (← Extern.Bytes.bytesOf v) (← Extern.Bytes.bytesOf u)))) w = _
  simp only [Sem.run_bind, Sem.run_pure, run_bytesOf_bs hv, run_bytesOf_bs hu, Result.andThen]
  rw [Lib.cmp_eq]
  rfl

set_option maxRecDepth 100000 in
set_option maxHeartbeats 1000000 in
theorem compare_any (v u : Value) (l m : List Int) (w : World) (hv : Bs w v l) (hu : Bs w u m) :
    Calls Tryd.prog 35 #[v, u] w fun e w' => e = .returned (.int .i64 (Lib.compareBytes (bts l) (bts m))) ∧ w' = w := by
  have h8 := @run_callFunc_extern Tryd.prog 57 _ Extern.BytealgCompare.compare Tryd.func57 (by kernel_rfl) (by kernel_rfl) (by kernel_rfl) (by kernel_rfl)
  have hr := run_compare_bs hv hu
  obtain ⟨a, n, c, rfl⟩ := hv.form3
  obtain ⟨a', n', c', rfl⟩ := hu.form3
  clear hv hu
  generalize Lib.compareBytes (bts l) (bts m) = r at hr
  go_enter Tryd.func35, Tryd.ntmps35
  go_wp2
  go_ret
  exact ⟨rfl, rfl⟩

end Go.Proofs.YthnlbhmecokomaaDoor

/- In a region that draws its order: operations whose guards are not met are passed by together. -/
namespace Go.Proofs.YthnlbhmecokomaaDoor


/-- These operations may come up one behind the other, and none is wanted; ds: the slots that they would fill. -/
def skipsOk (md : Region.Mode) (ops : Array Oper) : List Nat → List Nat → Array Bool → Array Value → Bool
  | [], [], _, _ => true
  | i :: is, d :: ds, l, tm => match ops[i]? with
    | some o => (o.dst == some d) && (Region.free md ops l i && ((Region.ready md ops l).contains i && (!(Region.wanted o (yielded ops tm)) && skipsOk md ops is ds (l.setIfInBounds i true) (tm.setIfInBounds d undef))))
    | none => false
  | _, _, _, _ => false

theorem wpAnyH_skips {P : Program} {md : Region.Mode} {ops : Array Oper} {Q : Exit → Act → World → Prop} {S : World → Prop} {w : World} (hs : Region.noSelect ops = true)
    (hQ : ∀ (d : Nat) v c a w, Q (.panic c) (a.put (some d) v) w → Q (.panic c) a w) (hS : S w) :
    ∀ (is ds : List Nat) (l : Array Bool) (a : Act) (fuel : Nat), skipsOk md ops is ds l a.tmps = true →
      wpAnyH P md ops Q S fuel (is.foldl (fun l i => l.setIfInBounds i true) l) (ds.foldl (fun a d => a.put (some d) undef) a) w → wpAnyH P md ops Q S (fuel + is.length) l a w
  | [], [], _, _, _, _, h => h
  | [], _ :: _, _, _, _, hk, _ => by simp [skipsOk] at hk
  | _ :: _, [], _, _, _, hk, _ => by simp [skipsOk] at hk
  | i :: is, d :: ds, l, a, fuel, hk, h => by
    unfold skipsOk at hk
    split at hk
    · rename_i o ho
      simp only [Bool.and_eq_true, beq_iff_eq, Bool.not_eq_true'] at hk
      obtain ⟨h1, h2, h3, h4, h5⟩ := hk
      refine wpAnyH_take (fuel := fuel + is.length) (i := i) (oi := o) (v := undef) ho hs h2 h3 (fun c a w => by rw [h1]; exact hQ d _ c a w) (Or.inr ⟨h4, rfl⟩) hS ?_
      rw [h1]
      exact wpAnyH_skips hs hQ hS is ds _ _ fuel (by simpa [Act.put] using h5) h
    · cases hk

/-- One operation is taken first; the slot that it fills is named. -/
theorem wpAnyH_takeD {P : Program} {md : Region.Mode} {ops : Array Oper} {Q : Exit → Act → World → Prop} {S : World → Prop} {i : Nat} (d : Nat) {oi : Oper} {v : Value} {fuel : Nat} {listed : Array Bool} {a : Act} {w : World} (hi : ops[i]? = some oi)
    (hd : oi.dst = some d) (hs : Region.noSelect ops = true) (hf : Region.free md ops listed i = true) (hr : (Region.ready md ops listed).contains i = true)
    (hQ : ∀ c a w, Q (.panic c) (a.put (some d) v) w → Q (.panic c) a w) (hy : YieldsIf P ops S oi v a) (hS : S w)
    (h : wpAnyH P md ops Q S fuel (listed.setIfInBounds i true) (a.put (some d) v) w) : wpAnyH P md ops Q S (fuel + 1) listed a w :=
  wpAnyH_take hi hs hf hr (by rw [hd]; exact hQ) hy hS (by rw [hd]; exact h)

/-- The same, its side conditions in one Bool; short, for it is written often. -/
theorem tk {P : Program} {md : Region.Mode} {ops : Array Oper} {Q : Exit → Act → World → Prop} {S : World → Prop} (i d : Nat) {oi : Oper} (v : Value) {fuel : Nat} {listed : Array Bool} {a : Act} {w : World}
    (hy : ∀ w, S w → (execOp a.eval oi).run P w = .ok (.value v) w) (hS : S w) (h : wpAnyH P md ops Q S fuel (listed.setIfInBounds i true) (a.put (some d) v) w)
    (hi : ops[i]? = some oi := by rfl)
    (hc : (Region.noSelect ops && (Region.free md ops listed i && (Region.ready md ops listed).contains i)) = true := by decide +kernel)
    (hg : (oi.dst == some d && Region.wanted oi (yielded ops a.tmps)) = true := by kernel_rfl)
    (hQ : ∀ c a w, Q (.panic c) (a.put (some d) v) w → Q (.panic c) a w := by exact fun _ _ _ h => h) : wpAnyH P md ops Q S (fuel + 1) listed a w := by
  simp only [Bool.and_eq_true, beq_iff_eq] at hc hg
  obtain ⟨h2, h3, h4⟩ := hc
  obtain ⟨h1, h5⟩ := hg
  exact wpAnyH_takeD d hi h1 h2 h3 h4 hQ (Or.inl ⟨h5, hy⟩) hS h
theorem sA {α : Type} (l : List α) (i : Nat) (a : α) : l.toArray.setIfInBounds i a = (l.set i a).toArray := by simp
theorem s0 {α : Type} (x : α) (l : List α) (a : α) : (x :: l).set 0 a = a :: l := rfl
theorem sS {α : Type} (x : α) (l : List α) (i : Nat) (a : α) : (x :: l).set (i + 1) a = x :: l.set i a := rfl
/-- The same, what it yields and the state behind it found by themselves. -/
theorem tq {P : Program} {md : Region.Mode} {ops : Array Oper} {Q : Exit → Act → World → Prop} {S : World → Prop} (i d : Nat) {oi : Oper} {v : Value} {fuel : Nat} {listed : Array Bool} {a a' : Act} {w : World}
    (hS : S w) (h : wpAnyH P md ops Q S fuel (listed.setIfInBounds i true) a' w)
    (hi : ops[i]? = some oi := by rfl)
    (hc : (Region.noSelect ops && (Region.free md ops listed i && (Region.ready md ops listed).contains i)) = true := by decide +kernel)
    (hg : (oi.dst == some d && Region.wanted oi (yielded ops a.tmps)) = true := by kernel_rfl)
    (hy : ∀ w, S w → (execOp a.eval oi).run P w = .ok (.value v) w := by (intro w s; (try dsimp only at s); go_simp <;> with_reducible rfl))
    (ha : a.put (some d) v = a' := by (conv => lhs; simp only [Act.put, sA, s0, sS]))
    (hQ : ∀ c a w, Q (.panic c) (a.put (some d) v) w → Q (.panic c) a w := by exact fun _ _ _ h => h) : wpAnyH P md ops Q S (fuel + 1) listed a w :=
  tk i d v hy hS (by rw [ha]; exact h) hi hc hg hQ

end Go.Proofs.YthnlbhmecokomaaDoor

/- What AccountOk of package impl do. -/
namespace Go.Proofs.YthnlbhmecokomaaDoor
open Go.RowKit Go.Shelf
set_option maxRecDepth 100000
set_option linter.unusedVariables false

set_option maxRecDepth 100000 in
set_option maxHeartbeats 1000000 in
theorem accountOk1_any (u : Value) (m : BoxD) (bg : Nat) (vd : Int) (w : World) (hu : BoxV w u m) (hc : w.cell? ⟨bg, 1, none⟩ = some (.int .i64 vd)) (hb : bg < w.heap.size) :
    Calls Tryd.prog 37 #[u, .pointer (some ⟨bg, 0, none⟩)] w fun e w' => e = .returned (.bool (decide (m.valid = vd))) ∧ Below w.heap.size w w' := by
  obtain ⟨u0, u1, u2, rfl, g0, g1, g2, -⟩ := hu
  obtain ⟨a0, n0, c0, rfl⟩ := g0.form3
  obtain ⟨a1, c1, rfl, -⟩ := g1.form
  obtain ⟨a2, c2, rfl, -⟩ := g2.form
  clear g0 g1 g2
  obtain ⟨name, valid, next, seq, mails, gones, lost⟩ := m
  simp only
  go_enter Tryd.func37, Tryd.ntmps37
  go_wp2
  go_ret
  exact ⟨ret_b (by rw [Bool.eq_iff_iff]; simp), (Below.refl _ _).alloc (Nat.le_refl _) _⟩

set_option maxRecDepth 100000 in
set_option maxHeartbeats 4000000 in
theorem implAccountOk_any (v : Value) (x : AccD) (w : World) (hv : AccV w v x) :
    Calls Tryd.prog 17 #[v] w fun e w' => e = .returned (.bool (accB x)) ∧ Below w.heap.size w w' := by
  obtain ⟨u0, u1, rfl, g0, g1, i0⟩ := hv
  have H0 : Hid (∀ wi, Below w.heap.size w wi → BoxesV wi u0 x.boxes ∧ IntsV wi u1 x.seen) := fun wi h => ⟨g0.below keepsBox h, g1.below keepsInt h⟩
  obtain ⟨a0, c0, rfl, m0, m1⟩ := g0.form
  obtain ⟨a1, c1, rfl, m2, m3⟩ := g1.form
  clear g0 g1
  have HK : Hid ((w.alloc (.cells #[.int .i64 x.valid, .slice a0 x.boxes.length c0, .slice a1 x.seen.length c1] 26)).heap[w.heap.size]? = some (.cells #[.int .i64 x.valid, .slice a0 x.boxes.length c0, .slice a1 x.seen.length c1] 26)) := box_new w _
  have HX : Hid (Below w.heap.size w (w.alloc (.cells #[.int .i64 x.valid, .slice a0 x.boxes.length c0, .slice a1 x.seen.length c1] 26))) := (Below.refl _ _).alloc (Nat.le_refl _) _
  have HC : Hid (accB x = (inB x.valid 0 1000000 && (decide (x.boxes.length ≤ 4) && (seenB x.seen && (List.range x.boxes.length).all (boxAt x))))) := rfl
  have hy1 := within_any x.valid 0 1000000
  have hy2 := seenOk_any _ x.seen _ (H0.out _ HX.out).2
  generalize inB x.valid 0 1000000 = X1 at HC hy1
  generalize seenB x.seen = X2 at HC hy2
  cases X1 with
  | false =>
    go_enter Tryd.func17, Tryd.ntmps17
    go_wp2_with fail
    refine (hy1 _).mono ?_
    rintro e w' ⟨rfl, rfl⟩
    go_wp2
    go_ret
    exact ⟨ret_b HC.out, HX.out⟩
  | true =>
  rcases Nat.lt_or_ge 4 x.boxes.length with h4 | h4
  · rw [decide_eq_false (Nat.not_le_of_lt h4)] at HC
    have h4' : (4 : Int) < x.boxes.length := by omega
    go_enter Tryd.func17, Tryd.ntmps17
    go_wp2_with fail
    refine (hy1 _).mono ?_
    rintro e w' ⟨rfl, rfl⟩
    go_wp2
    go_ret
    exact ⟨ret_b HC.out, HX.out⟩
  rw [decide_eq_true h4] at HC
  have h4' : (x.boxes.length : Int) ≤ 4 := by omega
  cases X2 with
  | false =>
    go_enter Tryd.func17, Tryd.ntmps17
    go_wp2_with fail
    refine (hy1 _).mono ?_
    rintro e w' ⟨rfl, rfl⟩
    go_wp2_with fail
    refine hy2.mono ?_
    rintro e w' ⟨rfl, rfl⟩
    go_wp2
    go_ret
    exact ⟨ret_b HC.out, HX.out⟩
  | true =>
  have HS : Hid (accB x = (List.range x.boxes.length).all (boxAt x)) := HC.out
  clear HC
  go_enter Tryd.func17, Tryd.ntmps17
  go_wp2_with fail
  refine (hy1 _).mono ?_
  rintro e w' ⟨rfl, rfl⟩
  go_wp2_with fail
  refine hy2.mono ?_
  rintro e w' ⟨rfl, rfl⟩
  clear hy1 hy2
  go_wp2
  go_loopw [3, 4, 5, 25] (fun _ _ _ i wr => ∃ k : Nat, k ≤ x.boxes.length ∧ i = .int .i64 k ∧ Hid (∀ j, j < k → boxAt x j = true) ∧ Hid (wr.heap[w.heap.size]? = some (.cells #[.int .i64 x.valid, .slice a0 x.boxes.length c0, .slice a1 x.seen.length c1] 26)) ∧ Hid (Below w.heap.size w wr)) (fun _ _ _ i _ => x.boxes.length - (intOf i).toNat)
  case atStart => exact ⟨0, Nat.zero_le _, rfl, (fun j hj => absurd hj (Nat.not_lt_zero _)), HK, HX⟩
  case round =>
    obtain ⟨k, hk, rfl, hA, hK, hB⟩ := hrel
    by_cases hlt : k < x.boxes.length
    · obtain ⟨m, hm⟩ : ∃ m, x.boxes[k]? = some m := ⟨x.boxes[k], List.getElem?_eq_getElem hlt⟩
      obtain ⟨b, off, cap', u0, u1, u2, hv', hlb, d0, d1, d2, d3, d4, d5, d6, hu0, hu1, hu2, j0, j1, j2, j3⟩ := BoxesV.cell (H0.out wr hB.out).1 k m hm
      simp only [Value.slice.injEq, true_and] at hv'
      obtain ⟨rfl, rfl⟩ := hv'
      obtain ⟨ua, un, uc, rfl⟩ := hu0.form3
      obtain ⟨va, vc, rfl, -⟩ := hu1.form
      obtain ⟨wa, wc, rfl, -⟩ := hu2.form
      have HBV : Hid (∀ wi, Below wr.heap.size wr wi → BoxV wi (.agg #[.slice ua un uc, .int .i64 m.valid, .int .i64 m.next, .int .i64 m.seq, .slice va m.mails.length vc, .slice wa m.gones.length wc, .int .i64 m.lost]) m) := fun wi h => ⟨_, _, _, rfl, hu0.below h, hu1.below keepsMail h, hu2.below keepsGone h, j0, j1, j2, j3⟩
      have HE : Hid (boxAt x k = (boxB m x.valid && (aheadB x.boxes m k && !((x.boxes.take k).any fun o => decide (o.valid = m.valid))))) := by simp [Hid, boxAt, hm]
      have HKg : Hid ((wr.alloc (.cells #[.slice ua un uc, .int .i64 m.valid, .int .i64 m.next, .int .i64 m.seq, .slice va m.mails.length vc, .slice wa m.gones.length wc, .int .i64 m.lost] 53)).heap[wr.heap.size]? = some (.cells #[.slice ua un uc, .int .i64 m.valid, .int .i64 m.next, .int .i64 m.seq, .slice va m.mails.length vc, .slice wa m.gones.length wc, .int .i64 m.lost] 53)) := box_new wr _
      have HKb : Hid ((wr.alloc (.cells #[.slice ua un uc, .int .i64 m.valid, .int .i64 m.next, .int .i64 m.seq, .slice va m.mails.length vc, .slice wa m.gones.length wc, .int .i64 m.lost] 53)).heap[w.heap.size]? = some (.cells #[.int .i64 x.valid, .slice (some ⟨b, off, none⟩) x.boxes.length c0, .slice a1 x.seen.length c1] 26)) := box_alloc hK.out _
      have HA1 : Hid (Below wr.heap.size wr (wr.alloc (.cells #[.slice ua un uc, .int .i64 m.valid, .int .i64 m.next, .int .i64 m.seq, .slice va m.mails.length vc, .slice wa m.gones.length wc, .int .i64 m.lost] 53))) := (Below.refl _ _).alloc (Nat.le_refl _) _
      have HB1 : Hid (Below w.heap.size w (wr.alloc (.cells #[.slice ua un uc, .int .i64 m.valid, .int .i64 m.next, .int .i64 m.seq, .slice va m.mails.length vc, .slice wa m.gones.length wc, .int .i64 m.lost] 53))) := Below.step hB.out HA1.out
      have HCF : Hid (∀ wi, Below (wr.alloc (.cells #[.slice ua un uc, .int .i64 m.valid, .int .i64 m.next, .int .i64 m.seq, .slice va m.mails.length vc, .slice wa m.gones.length wc, .int .i64 m.lost] 53)).heap.size (wr.alloc (.cells #[.slice ua un uc, .int .i64 m.valid, .int .i64 m.next, .int .i64 m.seq, .slice va m.mails.length vc, .slice wa m.gones.length wc, .int .i64 m.lost] 53)) wi → Calls Tryd.prog 36 #[.slice (some ⟨b, off, none⟩) k c0, .func (.func 37) #[] #[.pointer (some ⟨wr.heap.size, 0, none⟩)]] wi fun e w' => e = .returned (.bool ((x.boxes.take k).any fun o => decide (o.valid = m.valid))) ∧ Below wi.heap.size wi w') := fun wi hbi =>
        containsFuncBox 37 #[.pointer (some ⟨wr.heap.size, 0, none⟩)] (fun o => decide (o.valid = m.valid)) _ (x.boxes.take k) _ (((H0.out _ (Below.step HB1.out hbi)).1).take k hk) (fun args w => by kernel_rfl) (fun wj o u hbj hu => accountOk1_any u o wr.heap.size m.valid wj hu (bx7 (box_below hbj (box_below hbi HKg.out))).2.1 (lt_of_heap (box_below hbj (box_below hbi HKg.out))))
      generalize ((x.boxes.take k).any fun o => decide (o.valid = m.valid)) = X3 at HCF HE
      have HC1 := fun wi (h : BoxV wi (.agg #[.slice ua un uc, .int .i64 m.valid, .int .i64 m.next, .int .i64 m.seq, .slice va m.mails.length vc, .slice wa m.gones.length wc, .int .i64 m.lost]) m) => boxOk_any _ m x.valid wi h
      generalize boxB m x.valid = X1 at HE HC1
      have hK0 := hK.out
      obtain ⟨e0, e1, e2⟩ := bx3 hK0
      have hlA := lt_of_heap hK0
      clear hK0 hm
      have DR : Below (wr.alloc (.cells #[.slice ua un uc, .int .i64 m.valid, .int .i64 m.next, .int .i64 m.seq, .slice va m.mails.length vc, .slice wa m.gones.length wc, .int .i64 m.lost] 53)).heap.size (wr.alloc (.cells #[.slice ua un uc, .int .i64 m.valid, .int .i64 m.next, .int .i64 m.seq, .slice va m.mails.length vc, .slice wa m.gones.length wc, .int .i64 m.lost] 53)) (wr.alloc (.cells #[.slice ua un uc, .int .i64 m.valid, .int .i64 m.next, .int .i64 m.seq, .slice va m.mails.length vc, .slice wa m.gones.length wc, .int .i64 m.lost] 53)).drew := (Below.refl _ _).drew
      have HF : Hid (∀ w', Below (wr.alloc (.cells #[.slice ua un uc, .int .i64 m.valid, .int .i64 m.next, .int .i64 m.seq, .slice va m.mails.length vc, .slice wa m.gones.length wc, .int .i64 m.lost] 53)).heap.size (wr.alloc (.cells #[.slice ua un uc, .int .i64 m.valid, .int .i64 m.next, .int .i64 m.seq, .slice va m.mails.length vc, .slice wa m.gones.length wc, .int .i64 m.lost] 53)) w' → w'.cell? ⟨wr.heap.size, 0, none⟩ = some (.slice ua un uc) ∧ w'.cell? ⟨wr.heap.size, 1, none⟩ = some (.int .i64 m.valid) ∧ w'.cell? ⟨wr.heap.size, 2, none⟩ = some (.int .i64 m.next) ∧ w'.cell? ⟨wr.heap.size, 3, none⟩ = some (.int .i64 m.seq) ∧ w'.cell? ⟨wr.heap.size, 4, none⟩ = some (.slice va m.mails.length vc) ∧ w'.cell? ⟨wr.heap.size, 5, none⟩ = some (.slice wa m.gones.length wc) ∧ w'.cell? ⟨wr.heap.size, 6, none⟩ = some (.int .i64 m.lost) ∧ w'.cell? ⟨w.heap.size, 0, none⟩ = some (.int .i64 x.valid)) := by
        intro w' h
        obtain ⟨r0, r1, r2, r3, r4, r5, r6⟩ := bx7 (box_below h HKg.out)
        exact ⟨r0, r1, r2, r3, r4, r5, r6, (bx3 (box_below h HKb.out)).1⟩
      cases X1 with
      | false =>
        go_wp2
        refine wp_region_held_drew (S := fun w' => w'.cell? ⟨wr.heap.size, 0, none⟩ = some (.slice ua un uc) ∧ w'.cell? ⟨wr.heap.size, 1, none⟩ = some (.int .i64 m.valid) ∧ w'.cell? ⟨wr.heap.size, 2, none⟩ = some (.int .i64 m.next) ∧ w'.cell? ⟨wr.heap.size, 3, none⟩ = some (.int .i64 m.seq) ∧ w'.cell? ⟨wr.heap.size, 4, none⟩ = some (.slice va m.mails.length vc) ∧ w'.cell? ⟨wr.heap.size, 5, none⟩ = some (.slice wa m.gones.length wc) ∧ w'.cell? ⟨wr.heap.size, 6, none⟩ = some (.int .i64 m.lost) ∧ w'.cell? ⟨w.heap.size, 0, none⟩ = some (.int .i64 x.valid)) (by kernel_rfl) (HF.out _ DR) (fun hHeld => (show wpAnyH _ _ _ _ _ 21 #[false, false, false, false, false, false, false, false, false, false, false, false, false, false, false, false, false, false, false, false, false] _ _ from ?_))
        refine tq 0 34 hHeld ?_
        refine tq 1 35 hHeld ?_
        refine tq 2 36 hHeld ?_
        refine wpAnyH_ready (rs := [3]) (by kernel_rfl) (by simp) ?_
        refine AllReadyH.cons rfl (fun K hK => ?_) AllReadyH.nil
        go_simp
        refine (HC1 _ (HBV.out _ (Below.step HA1.out DR))).mono ?_
        rintro e w1 ⟨rfl, B⟩
        refine hK.out _ _ (HF.out _ (Below.step DR B)) (fun hHeld => ?_)
        clear hK K
        refine tq 4 38 hHeld ?_
        refine tq 5 39 hHeld ?_
        refine wpAnyH_skips (by kernel_rfl) (fun _ _ _ _ _ h => h) hHeld [6, 7, 8, 9, 10, 11, 12, 13, 14, 15, 16, 17, 18, 19] [40, 41, 42, 43, 44, 45, 46, 47, 48, 49, 50, 51, 52, 53] _ _ _ (by kernel_rfl) ?_
        simp only [List.foldl_cons, List.foldl_nil, Act.put, sA, s0, sS]
        refine tq 20 54 hHeld ?_
        refine wpAnyH_done (by kernel_rfl) ?_ _
        clear HC1 HCF HF HBV HKg HKb HA1
        repeat clear hHeld
        go_wp2
        go_ret
        exact ⟨ret_b (by rw [HS.out]; exact rangeAll_no k hlt HE.out), Below.step (Below.step HB1.out DR) B⟩
      | true =>
        by_cases hkz : (0 : Int) < (k : Int)
        rotate_left
        · have HAH : Hid (aheadB x.boxes m k = true) := by have : k = 0 := by omega
                                                           subst this; rfl
          rw [HAH.out, Bool.true_and, Bool.true_and] at HE
          clear HAH
          have hkN : ¬ 0 < k := by omega
          have hd : decide (0 < k) = false := by simpa using hkN
          go_wp2
          refine wp_region_held_drew (S := fun w' => w'.cell? ⟨wr.heap.size, 0, none⟩ = some (.slice ua un uc) ∧ w'.cell? ⟨wr.heap.size, 1, none⟩ = some (.int .i64 m.valid) ∧ w'.cell? ⟨wr.heap.size, 2, none⟩ = some (.int .i64 m.next) ∧ w'.cell? ⟨wr.heap.size, 3, none⟩ = some (.int .i64 m.seq) ∧ w'.cell? ⟨wr.heap.size, 4, none⟩ = some (.slice va m.mails.length vc) ∧ w'.cell? ⟨wr.heap.size, 5, none⟩ = some (.slice wa m.gones.length wc) ∧ w'.cell? ⟨wr.heap.size, 6, none⟩ = some (.int .i64 m.lost) ∧ w'.cell? ⟨w.heap.size, 0, none⟩ = some (.int .i64 x.valid)) (by kernel_rfl) (HF.out _ DR) (fun hHeld => (show wpAnyH _ _ _ _ _ 21 #[false, false, false, false, false, false, false, false, false, false, false, false, false, false, false, false, false, false, false, false, false] _ _ from ?_))
          refine tq 0 34 hHeld ?_
          refine tq 1 35 hHeld ?_
          refine tq 2 36 hHeld ?_
          refine wpAnyH_ready (rs := [3]) (by kernel_rfl) (by simp) ?_
          refine AllReadyH.cons rfl (fun K hK => ?_) AllReadyH.nil
          go_simp
          refine (HC1 _ (HBV.out _ (Below.step HA1.out DR))).mono ?_
          rintro e w1 ⟨rfl, B⟩
          refine hK.out _ _ (HF.out _ (Below.step DR B)) (fun hHeld => ?_)
          clear hK K
          refine tq 4 38 hHeld ?_
          refine tq 5 39 hHeld ?_
          refine tq 6 40 hHeld ?_
          refine tq 7 41 hHeld ?_
          refine tq 8 42 hHeld ?_
          refine wpAnyH_skips (by kernel_rfl) (fun _ _ _ _ _ h => h) hHeld [9, 10, 11, 12, 13, 14, 15, 16, 17, 18] [43, 44, 45, 46, 47, 48, 49, 50, 51, 52] _ _ _ (by kernel_rfl) ?_
          simp only [List.foldl_cons, List.foldl_nil, Act.put, sA, s0, sS]
          refine tq 19 53 hHeld ?_
          refine tq 20 54 hHeld ?_
          refine wpAnyH_done (by kernel_rfl) ?_ _
          repeat clear hHeld
          have c3' := HCF.out w1 (Below.step DR B)
          have HB2 : Hid (Below w.heap.size w w1) := Below.step (Below.step HB1.out DR) B
          have HKb2 : Hid (w1.heap[w.heap.size]? = some (.cells #[.int .i64 x.valid, .slice (some ⟨b, off, none⟩) x.boxes.length c0, .slice a1 x.seen.length c1] 26)) := box_below B (box_below DR HKb.out)
          clear B DR HB1 HKb HA1 HC1 HF HCF
          cases X3 with
          | true =>
            go_wp2_with fail
            refine c3'.mono ?_
            rintro e w3 ⟨rfl, B⟩
            go_wp2
            go_ret
            exact ⟨ret_b (by rw [HS.out]; exact rangeAll_no k hlt HE.out), Below.step HB2.out B⟩
          | false =>
            go_wp2_with fail
            refine c3'.mono ?_
            rintro e w3 ⟨rfl, B⟩
            have HB3 : Hid (Below w.heap.size w w3) := Below.step HB2.out B
            have HKb3 : Hid (w3.heap[w.heap.size]? = some (.cells #[.int .i64 x.valid, .slice (some ⟨b, off, none⟩) x.boxes.length c0, .slice a1 x.seen.length c1] 26)) := box_below B HKb2.out
            clear B HB2 HKb2
            go_wp2
            go_roundw
            case rel =>
              refine ⟨k + 1, by omega, by go_num, (show Hid _ from fun i hi => ?_), HKb3, HB3⟩
              by_cases e : i = k
              · subst e; exact HE.out
              · exact hA.out i (by omega)
            case measure => simp [intOf]; omega
        · obtain ⟨j, hj⟩ : ∃ j, k = j + 1 := ⟨k - 1, by omega⟩
          have hjk : (j : Int) < (k : Int) := by omega
          have hkN : 0 < k := by omega
          have hd : decide (0 < k) = true := by simpa using hkN
          have hj0 : (0 : Int) ≤ (j : Int) := by omega
          have hw1 : IntKind.i64.wrap ((k : Int) - 1) = (j : Int) := by rw [IntWalk.i64_in _ (by omega)]; omega
          have HJ : Hid (k = j + 1) := hj
          clear hj
          obtain ⟨m', hm'⟩ : ∃ m', x.boxes[j]? = some m' := ⟨x.boxes[j]'(by have := HJ.out; omega), List.getElem?_eq_getElem (by have := HJ.out; omega)⟩
          obtain ⟨b2, off2, cap2, p0, q1, q2, hv2, hlb2, t0, -, -, -, -, -, -, hp0, -⟩ := BoxesV.cell (H0.out wr hB.out).1 j m' hm'
          simp only [Value.slice.injEq, true_and, Option.some.injEq, Addr.mk.injEq, and_true] at hv2
          obtain ⟨⟨rfl, rfl⟩, rfl⟩ := hv2
          obtain ⟨pa, pn, pc, rfl⟩ := hp0.form3
          have HAH : Hid (aheadB x.boxes m k = lessB m'.name m.name) := by rw [HJ.out]; simp [Hid, aheadB, nameAt, hm']
          rw [HAH.out] at HE
          have HCM : Hid (∀ wi, Below wr.heap.size wr wi → Calls Tryd.prog 35 #[.slice pa pn pc, .slice ua un uc] wi fun e w' => e = .returned (.int .i64 (Lib.compareBytes (bts m'.name) (bts m.name))) ∧ w' = wi) := fun wi h => compare_any _ _ m'.name m.name wi (hp0.below h) (hu0.below h)
          have HLC : Hid (lessB m'.name m.name = !decide (0 ≤ Lib.compareBytes (bts m'.name) (bts m.name))) := by simp only [Hid]; rw [less_cmp]; simp [lessB]
          generalize Lib.compareBytes (bts m'.name) (bts m.name) = cv at HCM HLC
          generalize lessB m'.name m.name = L at HE HLC
          have HF2 : Hid (∀ w', Below (wr.alloc (.cells #[.slice ua un uc, .int .i64 m.valid, .int .i64 m.next, .int .i64 m.seq, .slice va m.mails.length vc, .slice wa m.gones.length wc, .int .i64 m.lost] 53)).heap.size (wr.alloc (.cells #[.slice ua un uc, .int .i64 m.valid, .int .i64 m.next, .int .i64 m.seq, .slice va m.mails.length vc, .slice wa m.gones.length wc, .int .i64 m.lost] 53)) w' → (w'.cell? ⟨wr.heap.size, 0, none⟩ = some (.slice ua un uc) ∧ w'.cell? ⟨wr.heap.size, 1, none⟩ = some (.int .i64 m.valid) ∧ w'.cell? ⟨wr.heap.size, 2, none⟩ = some (.int .i64 m.next) ∧ w'.cell? ⟨wr.heap.size, 3, none⟩ = some (.int .i64 m.seq) ∧ w'.cell? ⟨wr.heap.size, 4, none⟩ = some (.slice va m.mails.length vc) ∧ w'.cell? ⟨wr.heap.size, 5, none⟩ = some (.slice wa m.gones.length wc) ∧ w'.cell? ⟨wr.heap.size, 6, none⟩ = some (.int .i64 m.lost) ∧ w'.cell? ⟨w.heap.size, 0, none⟩ = some (.int .i64 x.valid)) ∧ w'.cell? ⟨b, off + j * 7, none⟩ = some (.slice pa pn pc)) := by
            intro w' h
            exact ⟨HF.out w' h, ((Below.step HA1.out h).cell (p := ⟨b, off + j * 7, none⟩) hlb).trans t0⟩
          clear hm' HAH
          by_cases hcv : 0 ≤ cv
          · have HL : Hid (L = false) := by rw [Hid, HLC.out, decide_eq_true hcv]; rfl
            clear HLC
            go_wp2
            refine wp_region_held_drew (S := fun w' => (w'.cell? ⟨wr.heap.size, 0, none⟩ = some (.slice ua un uc) ∧ w'.cell? ⟨wr.heap.size, 1, none⟩ = some (.int .i64 m.valid) ∧ w'.cell? ⟨wr.heap.size, 2, none⟩ = some (.int .i64 m.next) ∧ w'.cell? ⟨wr.heap.size, 3, none⟩ = some (.int .i64 m.seq) ∧ w'.cell? ⟨wr.heap.size, 4, none⟩ = some (.slice va m.mails.length vc) ∧ w'.cell? ⟨wr.heap.size, 5, none⟩ = some (.slice wa m.gones.length wc) ∧ w'.cell? ⟨wr.heap.size, 6, none⟩ = some (.int .i64 m.lost) ∧ w'.cell? ⟨w.heap.size, 0, none⟩ = some (.int .i64 x.valid)) ∧ w'.cell? ⟨b, off + j * 7, none⟩ = some (.slice pa pn pc)) (by kernel_rfl) (HF2.out _ DR) (fun hHeld => (show wpAnyH _ _ _ _ _ 21 #[false, false, false, false, false, false, false, false, false, false, false, false, false, false, false, false, false, false, false, false, false] _ _ from ?_))
            refine tq 0 34 hHeld ?_
            refine tq 1 35 hHeld ?_
            refine tq 2 36 hHeld ?_
            refine wpAnyH_ready (rs := [3]) (by kernel_rfl) (by simp) ?_
            refine AllReadyH.cons rfl (fun K hK => ?_) AllReadyH.nil
            go_simp
            refine (HC1 _ (HBV.out _ (Below.step HA1.out DR))).mono ?_
            rintro e w1 ⟨rfl, B⟩
            refine hK.out _ _ (HF2.out _ (Below.step DR B)) (fun hHeld => ?_)
            clear hK K
            refine tq 4 38 hHeld ?_
            refine tq 5 39 hHeld ?_
            refine tq 6 40 hHeld ?_
            refine tq 7 41 hHeld ?_
            refine tq 8 42 hHeld ?_
            refine tq 9 43 hHeld ?_
            refine tq 10 44 hHeld ?_
            refine tq 11 45 hHeld ?_
            refine tq 12 46 hHeld ?_
            refine tq 13 47 hHeld ?_
            refine tq 14 48 hHeld ?_
            refine tq 15 49 hHeld ?_
            refine tq 16 50 hHeld ?_
            refine wpAnyH_ready (rs := [17]) (by kernel_rfl) (by simp) ?_
            refine AllReadyH.cons rfl (fun K hK => ?_) AllReadyH.nil
            go_simp
            refine (HCM.out _ (Below.step (Below.step HA1.out DR) B)).mono ?_
            rintro e w2 ⟨rfl, rfl⟩
            refine hK.out _ _ (HF2.out _ (Below.step DR B)) (fun hHeld => ?_)
            clear hK K
            refine tq 18 52 hHeld ?_
            refine tq 19 53 hHeld ?_
            refine tq 20 54 hHeld ?_
            refine wpAnyH_done (by kernel_rfl) ?_ _
            clear HC1 HCF HF HBV HKg HKb HA1 HF2 HCM
            repeat clear hHeld
            go_wp2
            go_ret
            exact ⟨ret_b (by rw [HS.out]; exact rangeAll_no k hlt (by rw [HE.out, HL.out]; rfl)), Below.step (Below.step HB1.out DR) B⟩
          · have HL : Hid (L = true) := by rw [Hid, HLC.out, decide_eq_false hcv]; rfl
            rw [HL.out, Bool.true_and, Bool.true_and] at HE
            clear HLC
            go_wp2
            refine wp_region_held_drew (S := fun w' => (w'.cell? ⟨wr.heap.size, 0, none⟩ = some (.slice ua un uc) ∧ w'.cell? ⟨wr.heap.size, 1, none⟩ = some (.int .i64 m.valid) ∧ w'.cell? ⟨wr.heap.size, 2, none⟩ = some (.int .i64 m.next) ∧ w'.cell? ⟨wr.heap.size, 3, none⟩ = some (.int .i64 m.seq) ∧ w'.cell? ⟨wr.heap.size, 4, none⟩ = some (.slice va m.mails.length vc) ∧ w'.cell? ⟨wr.heap.size, 5, none⟩ = some (.slice wa m.gones.length wc) ∧ w'.cell? ⟨wr.heap.size, 6, none⟩ = some (.int .i64 m.lost) ∧ w'.cell? ⟨w.heap.size, 0, none⟩ = some (.int .i64 x.valid)) ∧ w'.cell? ⟨b, off + j * 7, none⟩ = some (.slice pa pn pc)) (by kernel_rfl) (HF2.out _ DR) (fun hHeld => (show wpAnyH _ _ _ _ _ 21 #[false, false, false, false, false, false, false, false, false, false, false, false, false, false, false, false, false, false, false, false, false] _ _ from ?_))
            refine tq 0 34 hHeld ?_
            refine tq 1 35 hHeld ?_
            refine tq 2 36 hHeld ?_
            refine wpAnyH_ready (rs := [3]) (by kernel_rfl) (by simp) ?_
            refine AllReadyH.cons rfl (fun K hK => ?_) AllReadyH.nil
            go_simp
            refine (HC1 _ (HBV.out _ (Below.step HA1.out DR))).mono ?_
            rintro e w1 ⟨rfl, B⟩
            refine hK.out _ _ (HF2.out _ (Below.step DR B)) (fun hHeld => ?_)
            clear hK K
            refine tq 4 38 hHeld ?_
            refine tq 5 39 hHeld ?_
            refine tq 6 40 hHeld ?_
            refine tq 7 41 hHeld ?_
            refine tq 8 42 hHeld ?_
            refine tq 9 43 hHeld ?_
            refine tq 10 44 hHeld ?_
            refine tq 11 45 hHeld ?_
            refine tq 12 46 hHeld ?_
            refine tq 13 47 hHeld ?_
            refine tq 14 48 hHeld ?_
            refine tq 15 49 hHeld ?_
            refine tq 16 50 hHeld ?_
            refine wpAnyH_ready (rs := [17]) (by kernel_rfl) (by simp) ?_
            refine AllReadyH.cons rfl (fun K hK => ?_) AllReadyH.nil
            go_simp
            refine (HCM.out _ (Below.step (Below.step HA1.out DR) B)).mono ?_
            rintro e w2 ⟨rfl, rfl⟩
            refine hK.out _ _ (HF2.out _ (Below.step DR B)) (fun hHeld => ?_)
            clear hK K
            refine tq 18 52 hHeld ?_
            refine tq 19 53 hHeld ?_
            refine tq 20 54 hHeld ?_
            refine wpAnyH_done (by kernel_rfl) ?_ _
            repeat clear hHeld
            clear HF2 HCM
            have c3' := HCF.out w2 (Below.step DR B)
            have HB2 : Hid (Below w.heap.size w w2) := Below.step (Below.step HB1.out DR) B
            have HKb2 : Hid (w2.heap[w.heap.size]? = some (.cells #[.int .i64 x.valid, .slice (some ⟨b, off, none⟩) x.boxes.length c0, .slice a1 x.seen.length c1] 26)) := box_below B (box_below DR HKb.out)
            clear B DR HB1 HKb HA1 HC1 HF HCF
            cases X3 with
            | true =>
              go_wp2_with fail
              refine c3'.mono ?_
              rintro e w3 ⟨rfl, B⟩
              go_wp2
              go_ret
              exact ⟨ret_b (by rw [HS.out]; exact rangeAll_no k hlt HE.out), Below.step HB2.out B⟩
            | false =>
              go_wp2_with fail
              refine c3'.mono ?_
              rintro e w3 ⟨rfl, B⟩
              have HB3 : Hid (Below w.heap.size w w3) := Below.step HB2.out B
              have HKb3 : Hid (w3.heap[w.heap.size]? = some (.cells #[.int .i64 x.valid, .slice (some ⟨b, off, none⟩) x.boxes.length c0, .slice a1 x.seen.length c1] 26)) := box_below B HKb2.out
              clear B HB2 HKb2
              go_wp2
              go_roundw
              case rel =>
                refine ⟨k + 1, by omega, by go_num, (show Hid _ from fun i hi => ?_), HKb3, HB3⟩
                by_cases e : i = k
                · subst e; exact HE.out
                · exact hA.out i (by omega)
              case measure => simp [intOf]; omega
    · obtain rfl : k = x.boxes.length := by omega
      go_wp2
      go_ret
      exact ⟨ret_b (by rw [HS.out]; exact rangeAll_yes hA.out), hB.out⟩

end Go.Proofs.YthnlbhmecokomaaDoor

/- Plain facts on boxes. -/
namespace Go.Proofs.YthnlbhmecokomaaDoor
set_option linter.unusedVariables false

theorem mailNo {q uid next flags seq bs : Int} {T : Bool} (hq : 0 ≤ q) (h : uid < 1 ∨ next ≤ uid ∨ uid ≤ q ∨ flags < 0 ∨ 31 < flags ∨ seq < 1 ∨ bs < seq ∨ T = false) : (inB uid (q + 1) (next - 1) && (inB flags 0 31 && (inB seq 1 bs && T))) = false := by
  rw [Bool.eq_false_iff]
  intro e
  simp only [inB, Bool.and_eq_true, decide_eq_true_eq] at e
  obtain ⟨⟨e1, e2⟩, ⟨e3, e4⟩, ⟨e5, e6⟩, e7⟩ := e
  rcases h with h | h | h | h | h | h | h | h
  all_goals first | omega | (rw [h] at e7; cases e7)
theorem mailYes {q uid next flags seq bs : Int} {T : Bool} (h0 : q < uid) (h1 : uid < next) (h2 : 0 ≤ flags) (h3 : flags ≤ 31) (h4 : 1 ≤ seq) (h5 : seq ≤ bs) (h6 : 1 ≤ uid) (h7 : T = true) : (inB uid (q + 1) (next - 1) && (inB flags 0 31 && (inB seq 1 bs && T))) = true := by
  simp only [inB, Bool.and_eq_true, decide_eq_true_eq]
  exact ⟨⟨by omega, by omega⟩, ⟨h2, h3⟩, ⟨h4, h5⟩, h7⟩
theorem goneNo {uid next seq ms bs : Int} {M G : Bool} (h : uid < 1 ∨ next ≤ uid ∨ M = true ∨ bs < seq ∨ seq < ms ∨ G = true) : (inB uid 1 (next - 1) && (inB seq ms bs && (!M && !G))) = false := by
  rw [Bool.eq_false_iff]
  intro e
  simp only [inB, Bool.and_eq_true, decide_eq_true_eq, Bool.not_eq_true'] at e
  obtain ⟨⟨e1, e2⟩, ⟨e3, e4⟩, e5, e6⟩ := e
  rcases h with h | h | h | h | h | h
  all_goals first | omega | (rw [h] at e5; cases e5) | (rw [h] at e6; cases e6)
theorem goneYes {uid next seq ms bs : Int} {M G : Bool} (h0 : 1 ≤ uid) (h1 : uid < next) (h2 : ms ≤ seq) (h3 : seq ≤ bs) (h4 : M = false) (h5 : G = false) : (inB uid 1 (next - 1) && (inB seq ms bs && (!M && !G))) = true := by
  simp only [inB, Bool.and_eq_true, decide_eq_true_eq, Bool.not_eq_true']
  exact ⟨⟨h0, by omega⟩, ⟨h2, h3⟩, h4, h5⟩
theorem boxB_noM {x : BoxD} {mv : Int} (h : (List.range x.mails.length).all (mailAt x) = false) : boxB x mv = false := by simp [boxB, mailsB, h]
def earlyB (x : BoxD) (k : Nat) : Bool := match x.gones[k]? with
  | some m => decide (m.uid < 1) || (decide (x.next ≤ m.uid) || ((x.mails.any fun o => decide (o.uid = m.uid)) || (decide (m.seq < 1) || decide (x.seq < m.seq))))
  | none => false
theorem first_bad {p : Nat → Bool} {n : Nat} (h : (List.range n).all p = false) : ∃ k, k < n ∧ (∀ j, j < k → p j = true) ∧ p k = false := by
  apply Classical.byContradiction
  intro hno
  have hall : ∀ k, k < n → p k = true := fun k => Nat.strongRecOn k (fun k ih hk => by
    cases hp : p k with
    | true => rfl
    | false => exact absurd ⟨k, hk, fun j hj => ih j hj (by omega), hp⟩ hno)
  have : (List.range n).all p = true := List.all_eq_true.2 (fun k hk => hall k (List.mem_range.1 hk))
  rw [this] at h; cases h
theorem only_bad {p : Nat → Bool} {k j : Nat} (h1 : ∀ i, i < k → p i = true) (h2 : p k = false) (h3 : ∀ i, i < j → p i = true) (h4 : p j = false) : j = k := by
  rcases Nat.lt_trichotomy j k with h | h | h
  · rw [h1 j h] at h4; cases h4
  · exact h
  · rw [h3 k h] at h2; cases h2
theorem boxB_noG {x : BoxD} {mv : Int} (h : (List.range x.gones.length).all (goneAt x) = false) : boxB x mv = false := by simp [boxB, gonesB, h]

def clsB (x : BoxD) (k : Nat) : Nat := match x.gones[k]? with
  | some m => if m.uid < 1 then 1 else if x.next ≤ m.uid then 2 else if (x.mails.any fun o => decide (o.uid = m.uid)) = true then 3 else if m.seq < 1 then 4 else if x.seq < m.seq then 5 else if (0 : Int) < (k : Int) then (if m.seq < minS x k then 8 else if m.seq < x.lost then 9 else 10) else (if m.seq < x.lost then 6 else 7)
  | none => 1
theorem clsB_range (x : BoxD) (k : Nat) : 1 ≤ clsB x k ∧ clsB x k ≤ 10 := by
  unfold clsB
  repeat' split
  all_goals omega
theorem early_cls {x : BoxD} {k : Nat} (h : earlyB x k = true) : clsB x k ≤ 5 := by
  unfold earlyB at h
  unfold clsB
  split
  · rename_i m hm
    rw [hm] at h
    simp only [Bool.or_eq_true, decide_eq_true_eq] at h
    split
    · omega
    split
    · omega
    split
    · omega
    split
    · omega
    split
    · omega
    rcases h with h | h | h | h | h <;> contradiction
  · omega


end Go.Proofs.YthnlbhmecokomaaDoor

/- What l3mail and l3gone of package spec do. -/
namespace Go.Proofs.YthnlbhmecokomaaDoor
open Go.RowKit
set_option maxRecDepth 100000
set_option linter.unusedVariables false
set_option linter.unusedSimpArgs false

set_option maxRecDepth 100000 in
set_option maxHeartbeats 4000000 in
theorem l3mail_any (v : Value) (x : BoxD) (uid : Int) (w : World) (hv : BoxV w v x) :
    Calls Tryd.prog 48 #[v, .int .i64 uid] w fun e w' => e = .returned (.int .i64 (firstI (fun m => decide (m.uid = uid)) x.mails)) ∧ Below w.heap.size w w' := by
  obtain ⟨u0, u1, u2, rfl, g0, g1, g2, i0, i1, i2, i3⟩ := hv
  have H0 : Hid (∀ wi, Below w.heap.size w wi → Bs wi u0 x.name ∧ MailsV wi u1 x.mails ∧ GonesV wi u2 x.gones) := fun wi h => ⟨g0.below h, g1.below keepsMail h, g2.below keepsGone h⟩
  obtain ⟨a0, n0, c0, rfl⟩ := g0.form3
  obtain ⟨a1, c1, rfl, m0, m1⟩ := g1.form
  obtain ⟨a2, c2, rfl, m2, m3⟩ := g2.form
  clear g0 g1 g2
  have HX : Hid (Below w.heap.size w (w.alloc (.cells #[.slice a0 n0 c0, .int .i64 x.valid, .int .i64 x.next, .int .i64 x.seq, .slice a1 x.mails.length c1, .slice a2 x.gones.length c2, .int .i64 x.lost] 53))) := (Below.refl _ _).alloc (Nat.le_refl _) _
  go_enter Tryd.func48, Tryd.ntmps48
  go_wp2
  go_loop [5] (fun i => ∃ k : Nat, k ≤ x.mails.length ∧ i = .int .i64 k ∧ Hid (∀ j m, j < k → x.mails[j]? = some m → decide (m.uid = uid) = false)) (fun i => x.mails.length - (intOf i).toNat)
  case atStart => exact ⟨0, Nat.zero_le _, rfl, fun j m hj => absurd hj (Nat.not_lt_zero _)⟩
  case round =>
    obtain ⟨k, hk, rfl, hA⟩ := hrel
    by_cases hlt : k < x.mails.length
    · obtain ⟨m, hm⟩ : ∃ m, x.mails[k]? = some m := ⟨x.mails[k], List.getElem?_eq_getElem hlt⟩
      obtain ⟨b, off, cap', u, hv', hlb, d0, d1, d2, d3, hu, j0, j1, j2⟩ := MailsV.cell (H0.out _ HX.out).2.1 k m hm
      simp only [Value.slice.injEq, true_and] at hv'
      obtain ⟨rfl, rfl⟩ := hv'
      have HM : Hid (x.mails[k]? = some m) := hm
      clear hm hu d1 d2 d3
      by_cases he : m.uid = uid
      · have he' : (m.uid == uid) = true := by simpa using he
        have HE : Hid (m.uid = uid) := he
        clear he
        go_wp2
        go_ret
        exact ⟨ret_i (firstI_hit' hlt HM.out (by simpa using HE.out) hA.out).symm, HX.out⟩
      · have he' : (m.uid == uid) = false := by simpa using he
        have HE : Hid (m.uid ≠ uid) := he
        clear he
        go_wp2
        go_round
        case rel =>
          refine ⟨k + 1, by omega, by go_num, (show Hid _ from fun j y hj hy => ?_)⟩
          by_cases e : j = k
          · subst e; rw [HM.out] at hy; cases hy; simpa using HE.out
          · exact hA.out j y (by omega) hy
        case measure => simp [intOf]; omega
    · obtain rfl : k = x.mails.length := by omega
      go_wp2
      go_ret
      exact ⟨ret_i (firstI_none' hA.out).symm, HX.out⟩

set_option maxRecDepth 100000 in
set_option maxHeartbeats 4000000 in
theorem l3gone_any (v : Value) (l : List GoneD) (uid : Int) (w : World) (hv : GonesV w v l) :
    Calls Tryd.prog 49 #[v, .int .i64 uid] w fun e w' => e = .returned (.bool (l.any fun o => decide (o.uid = uid))) ∧ w' = w := by
  have HV : Hid (GonesV w v l) := hv
  obtain ⟨a, cap, rfl, hlc, hcm⟩ := hv.form
  clear hv
  go_enter Tryd.func49, Tryd.ntmps49
  go_wp2
  go_loop [5] (fun i => ∃ k : Nat, k ≤ l.length ∧ i = .int .i64 k ∧ Hid (∀ j m, j < k → l[j]? = some m → m.uid ≠ uid)) (fun i => l.length - (intOf i).toNat)
  case atStart => exact ⟨0, Nat.zero_le _, rfl, fun j m hj => absurd hj (Nat.not_lt_zero _)⟩
  case round =>
    obtain ⟨k, hk, rfl, hA⟩ := hrel
    by_cases hlt : k < l.length
    · obtain ⟨m, hm⟩ : ∃ m, l[k]? = some m := ⟨l[k], List.getElem?_eq_getElem hlt⟩
      obtain ⟨b, off, cap', hv', hlb, d0, d1, j0, j1⟩ := GonesV.cell HV.out k m hm
      simp only [Value.slice.injEq, true_and] at hv'
      obtain ⟨rfl, rfl⟩ := hv'
      have HM : Hid (l[k]? = some m) := hm
      clear hm d1
      by_cases he : m.uid = uid
      · have he' : (m.uid == uid) = true := by simpa using he
        have HE : Hid (m.uid = uid) := he
        clear he
        go_wp2
        go_ret
        exact ⟨ret_b (List.any_eq_true.2 ⟨m, List.mem_of_getElem? HM.out, by simpa using HE.out⟩), rfl⟩
      · have he' : (m.uid == uid) = false := by simpa using he
        have HE : Hid (m.uid ≠ uid) := he
        clear he
        go_wp2
        go_round
        case rel =>
          refine ⟨k + 1, by omega, by go_num, (show Hid _ from fun j y hj hy => ?_)⟩
          by_cases e : j = k
          · subst e; rw [HM.out] at hy; cases hy; exact HE.out
          · exact hA.out j y (by omega) hy
        case measure => simp [intOf]; omega
    · obtain rfl : k = l.length := by omega
      go_wp2
      go_ret
      refine ⟨ret_b (List.any_eq_false.2 fun m hm => ?_), rfl⟩
      obtain ⟨j, hj, rfl⟩ := List.getElem_of_mem hm
      simpa using hA.out j _ hj (List.getElem?_eq_getElem hj)

end Go.Proofs.YthnlbhmecokomaaDoor

/- What l3name of package spec does. -/
namespace Go.Proofs.YthnlbhmecokomaaDoor
open Go.RowKit
set_option maxRecDepth 100000

set_option maxHeartbeats 400000 in
theorem l3name_any (v : Value) (l : List Int) (w : World) (hv : Bs w v l) :
    Calls Tryd.prog 46 #[v] w fun e w' => e = .returned (.bool (nameB l)) ∧ w' = w := by
  obtain ⟨ho, a, cap, rfl, hlc, hcm, hnil, hcells⟩ := hv
  unfold maxLen at hcm
  by_cases h0 : 1 ≤ l.length
  · by_cases h1 : l.length ≤ 6
    · have HN : Hid (nameB l = allIn 97 122 l) := by simp [Hid, nameB, h0, h1]
      obtain ⟨b, off, rfl, hlb, hc⟩ := hcells (by omega)
      go_enter Tryd.func46, Tryd.ntmps46
      go_wp2
      go_loop [3] (fun i => ∃ k : Nat, k ≤ l.length ∧ i = .int .i64 k ∧ Hid (∀ j, j < k → 97 ≤ l.getD j 0 ∧ l.getD j 0 ≤ 122)) (fun i => l.length - (intOf i).toNat)
      case atStart => exact ⟨0, Nat.zero_le _, rfl, fun j hj => absurd hj (Nat.not_lt_zero _)⟩
      case round =>
        obtain ⟨k, hk, rfl, hA⟩ := hrel
        by_cases hlt : k < l.length
        · have hx := hc k hlt
          have hbx := oct_get ho k
          have HY : Hid (l.getD k 0 = l.getD k 0) := rfl
          generalize hy : l.getD k 0 = x at hx hbx HY
          have HX : Hid (l.getD k 0 = x) := hy
          clear hy HY hc
          by_cases c1 : 97 ≤ x
          · by_cases c2 : x ≤ 122
            · go_wp2
              go_round
              case rel =>
                refine ⟨k + 1, by omega, by go_num, (show Hid _ from fun j hj => ?_)⟩
                by_cases e : j = k
                · subst e; rw [HX.out]; exact ⟨c1, c2⟩
                · exact hA.out j (by omega)
              case measure => simp [intOf]; omega
            · go_wp2
              go_ret
              exact ⟨ret_b (a := false) (by rw [HN.out, allIn_no k hlt (by rw [HX.out]; omega)]), rfl⟩
          · go_wp2
            go_ret
            exact ⟨ret_b (a := false) (by rw [HN.out, allIn_no k hlt (by rw [HX.out]; omega)]), rfl⟩
        · obtain rfl : k = l.length := by omega
          go_wp2
          go_ret
          exact ⟨ret_b (a := true) (by rw [HN.out, allIn_yes hA.out]), rfl⟩
    · have HN : Hid (nameB l = false) := by simp [Hid, nameB, h1]
      go_enter Tryd.func46, Tryd.ntmps46
      go_wp2
      go_ret
      exact ⟨ret_b (a := false) HN.out, rfl⟩
  · have HN : Hid (nameB l = false) := by simp [Hid, nameB, h0]
    go_enter Tryd.func46, Tryd.ntmps46
    go_wp2
    go_ret
    exact ⟨ret_b (a := false) HN.out, rfl⟩

end Go.Proofs.YthnlbhmecokomaaDoor

/- What l3text of package spec does. -/
namespace Go.Proofs.YthnlbhmecokomaaDoor
open Go.RowKit
set_option maxRecDepth 100000

set_option maxHeartbeats 400000 in
theorem l3text_any (v : Value) (l : List Int) (w : World) (hv : Bs w v l) :
    Calls Tryd.prog 47 #[v] w fun e w' => e = .returned (.bool (textB l)) ∧ w' = w := by
  obtain ⟨ho, a, cap, rfl, hlc, hcm, hnil, hcells⟩ := hv
  unfold maxLen at hcm
  by_cases h0 : l.length ≤ 30
  · by_cases h1 : True
    · have HN : Hid (textB l = allIn 32 126 l) := by simp [Hid, textB, h0]
      clear h1
      go_enter Tryd.func47, Tryd.ntmps47
      go_wp2
      go_loop [3] (fun i => ∃ k : Nat, k ≤ l.length ∧ i = .int .i64 k ∧ Hid (∀ j, j < k → 32 ≤ l.getD j 0 ∧ l.getD j 0 ≤ 126)) (fun i => l.length - (intOf i).toNat)
      case atStart => exact ⟨0, Nat.zero_le _, rfl, fun j hj => absurd hj (Nat.not_lt_zero _)⟩
      case round =>
        obtain ⟨k, hk, rfl, hA⟩ := hrel
        by_cases hlt : k < l.length
        · obtain ⟨b, off, rfl, hlb, hc⟩ := hcells (by omega)
          have hx := hc k hlt
          have hbx := oct_get ho k
          have HY : Hid (l.getD k 0 = l.getD k 0) := rfl
          generalize hy : l.getD k 0 = x at hx hbx HY
          have HX : Hid (l.getD k 0 = x) := hy
          clear hy HY hc hcells
          by_cases c1 : 32 ≤ x
          · by_cases c2 : x ≤ 126
            · go_wp2
              go_round
              case rel =>
                refine ⟨k + 1, by omega, by go_num, (show Hid _ from fun j hj => ?_)⟩
                by_cases e : j = k
                · subst e; rw [HX.out]; exact ⟨c1, c2⟩
                · exact hA.out j (by omega)
              case measure => simp [intOf]; omega
            · go_wp2
              go_ret
              exact ⟨ret_b (a := false) (by rw [HN.out, allIn_no k hlt (by rw [HX.out]; omega)]), rfl⟩
          · go_wp2
            go_ret
            exact ⟨ret_b (a := false) (by rw [HN.out, allIn_no k hlt (by rw [HX.out]; omega)]), rfl⟩
        · obtain rfl : k = l.length := by omega
          go_wp2
          go_ret
          exact ⟨ret_b (a := true) (by rw [HN.out, allIn_yes hA.out]), rfl⟩
    · exact absurd trivial h1
  · have HN : Hid (textB l = false) := by simp [Hid, textB, h0]
    go_enter Tryd.func47, Tryd.ntmps47
    go_wp2
    go_ret
    exact ⟨ret_b (a := false) HN.out, rfl⟩

end Go.Proofs.YthnlbhmecokomaaDoor
