/- What seenOk and mailsOk of package impl do. -/
import Derived.Test.YtnjicpdccpkbmaaI3all
import Derived.Test.YtnjicpdccpkbmaaLibOwR
import Derived.Test.YtnjicpdccpkbmaaAccM
namespace Go.Proofs.Ytnjicpdccpkbmaa
open Go.RowKit Go.Shelf
set_option linter.unusedVariables false

set_option maxRecDepth 100000 in
set_option maxHeartbeats 1000000 in
theorem seenOk_any (v : Value) (l : List Int) (w : World) (hv : IntsV w v l) :
    Calls Try.prog 39 #[v] w fun e w' => e = .returned (.bool (seenB l)) ∧ w' = w := by
  have HV : Hid (IntsV w v l) := hv
  obtain ⟨a, cap, rfl, hlc, hcm⟩ := hv.form
  clear hv
  by_cases h0 : l.length ≤ 60
  · have HS : Hid (seenB l = (List.range l.length).all (seenAt l)) := by simp [Hid, seenB, h0]
    go_enter Try.func39, Try.ntmps39
    go_wp2
    go_loop [3, 5, 11] (fun q _ i => ∃ k : Nat, k ≤ l.length ∧ i = .int .i64 k ∧ q = .int .i64 (prevI l k) ∧ Hid (∀ j, j < k → seenAt l j = true)) (fun _ _ i => l.length - (intOf i).toNat)
    case atStart => exact ⟨0, Nat.zero_le _, rfl, rfl, fun j hj => absurd hj (Nat.not_lt_zero _)⟩
    case round =>
      obtain ⟨k, hk, rfl, rfl, hA⟩ := hrel
      by_cases hlt : k < l.length
      · obtain ⟨x, hx⟩ : ∃ x, l[k]? = some x := ⟨l[k], List.getElem?_eq_getElem hlt⟩
        obtain ⟨b, off, cap', hv', hlb, d0, i0⟩ := IntsV.cell HV.out k x hx
        simp only [Value.slice.injEq, true_and] at hv'
        obtain ⟨rfl, rfl⟩ := hv'
        have hp := prevI_ok hk hA.out
        have HD : Hid (l.getD k 0 = x) := by simp [Hid, List.getD, hx]
        have HE : Hid (seenAt l k = inB x (prevI l k + 1) 1000000) := by show seenAt l k = _; unfold seenAt; rw [HD.out]
        generalize hQ : prevI l k = q at hp HE
        clear hQ
        obtain ⟨hp0, hp1, -⟩ := hp
        have hcall := within_any x (q + 1) 1000000
        generalize hX : inB x (q + 1) 1000000 = X at hcall HE
        clear hX hx
        cases X with
        | true =>
          go_wp2_with (go_at_call 29; refine (hcall _).mono ?_; rintro e w' ⟨rfl, rfl⟩)
          go_round
          case rel =>
            refine ⟨k + 1, by omega, by go_num, by simp only [prevI]; rw [HD.out], (show Hid _ from fun j hj => ?_)⟩
            by_cases e : j = k
            · subst e; exact HE.out
            · exact hA.out j (by omega)
          case measure => simp [intOf]; omega
        | false =>
          go_wp2_with (go_at_call 29; refine (hcall _).mono ?_; rintro e w' ⟨rfl, rfl⟩)
          go_ret
          exact ⟨ret_b (by rw [HS.out]; exact rangeAll_no k hlt HE.out), rfl⟩
      · obtain rfl : k = l.length := by omega
        go_wp2
        go_ret
        exact ⟨ret_b (by rw [HS.out]; exact rangeAll_yes hA.out), rfl⟩
  · have HS : Hid (seenB l = false) := by simp [Hid, seenB, h0]
    go_enter Try.func39, Try.ntmps39
    go_wp2
    go_ret
    exact ⟨ret_b HS.out, rfl⟩

set_option maxRecDepth 100000 in
set_option maxHeartbeats 1000000 in
theorem mailsOk_any (v : Value) (x : BoxD) (w : World) (hv : BoxV w v x) (hn0 : 1 ≤ x.next) (hn1 : x.next ≤ 1000000) :
    Calls Try.prog 67 #[v] w fun e w' => e = .returned (.bool (mailsB x)) ∧ Below w.heap.size w w' := by
  obtain ⟨u0, u1, u2, rfl, g0, g1, g2, i0, i1, i2, i3⟩ := hv
  have H0 : Hid (∀ wi, Below w.heap.size w wi → Bs wi u0 x.name ∧ MailsV wi u1 x.mails ∧ GonesV wi u2 x.gones) := fun wi h => ⟨g0.below h, g1.below keepsMail h, g2.below keepsGone h⟩
  obtain ⟨a0, n0, c0, rfl⟩ := g0.form3
  obtain ⟨a1, c1, rfl, m0, m1⟩ := g1.form
  obtain ⟨a2, c2, rfl, m2, m3⟩ := g2.form
  clear g0 g1 g2
  have kA := box_new w (.cells #[.slice a0 n0 c0, .int .i64 x.valid, .int .i64 x.next, .int .i64 x.seq, .slice a1 x.mails.length c1, .slice a2 x.gones.length c2, .int .i64 x.lost] 51)
  have X : Below w.heap.size w (w.alloc (.cells #[.slice a0 n0 c0, .int .i64 x.valid, .int .i64 x.next, .int .i64 x.seq, .slice a1 x.mails.length c1, .slice a2 x.gones.length c2, .int .i64 x.lost] 51)) := (Below.refl _ _).alloc (Nat.le_refl _) _
  by_cases h0 : x.mails.length ≤ 12
  · have HS : Hid (mailsB x = (List.range x.mails.length).all (mailAt x)) := by simp [Hid, mailsB, h0]
    have HK : Hid ((w.alloc (.cells #[.slice a0 n0 c0, .int .i64 x.valid, .int .i64 x.next, .int .i64 x.seq, .slice a1 x.mails.length c1, .slice a2 x.gones.length c2, .int .i64 x.lost] 51)).heap[w.heap.size]? = some (.cells #[.slice a0 n0 c0, .int .i64 x.valid, .int .i64 x.next, .int .i64 x.seq, .slice a1 x.mails.length c1, .slice a2 x.gones.length c2, .int .i64 x.lost] 51)) := kA
    have HX : Hid (Below w.heap.size w (w.alloc (.cells #[.slice a0 n0 c0, .int .i64 x.valid, .int .i64 x.next, .int .i64 x.seq, .slice a1 x.mails.length c1, .slice a2 x.gones.length c2, .int .i64 x.lost] 51))) := X
    clear kA X
    go_enter Try.func67, Try.ntmps67
    go_wp2
    go_loopw [3, 5, 13] (fun q _ i wr => ∃ k : Nat, k ≤ x.mails.length ∧ i = .int .i64 k ∧ q = .int .i64 (prevU x.mails k) ∧ Hid (∀ j, j < k → mailAt x j = true) ∧ Hid (wr.heap[w.heap.size]? = some (.cells #[.slice a0 n0 c0, .int .i64 x.valid, .int .i64 x.next, .int .i64 x.seq, .slice a1 x.mails.length c1, .slice a2 x.gones.length c2, .int .i64 x.lost] 51)) ∧ Hid (Below w.heap.size w wr)) (fun _ _ i _ => x.mails.length - (intOf i).toNat)
    case atStart => exact ⟨0, Nat.zero_le _, rfl, rfl, (fun j hj => absurd hj (Nat.not_lt_zero _)), HK, HX⟩
    case round =>
      obtain ⟨k, hk, rfl, rfl, hA, hK, hB⟩ := hrel
      by_cases hlt : k < x.mails.length
      · obtain ⟨m, hm⟩ : ∃ m, x.mails[k]? = some m := ⟨x.mails[k], List.getElem?_eq_getElem hlt⟩
        obtain ⟨b, off, cap', u, hv', hlb, d0, d1, d2, d3, hu, j0, j1, j2⟩ := MailsV.cell (H0.out wr hB.out).2.1 k m hm
        simp only [Value.slice.injEq, true_and] at hv'
        obtain ⟨rfl, rfl⟩ := hv'
        obtain ⟨ua, un, uc, rfl⟩ := hu.form3
        have hp := prevU_ok hn1 hk hA.out
        have HE : Hid (mailAt x k = (inB m.uid (prevU x.mails k + 1) (x.next - 1) && (inB m.flags 0 31 && (inB m.seq 1 x.seq && textB m.text)))) := by simp [Hid, mailAt, hm]
        have HP1 : Hid (prevU x.mails (k + 1) = m.uid) := by simp [Hid, prevU, hm]
        generalize hQ : prevU x.mails k = q at hp HE
        clear hQ hm
        obtain ⟨hp0, hp1⟩ := hp
        obtain ⟨uid, flags, seq, text⟩ := m
        simp only at d0 d1 d2 d3 hu j0 j1 j2 HE HP1
        have c1' := within_any uid (q + 1) (x.next - 1)
        have c2' := within_any flags 0 31
        have c3' := within_any seq 1 x.seq
        generalize inB uid (q + 1) (x.next - 1) = X1 at c1' HE
        generalize inB flags 0 31 = X2 at c2' HE
        generalize inB seq 1 x.seq = X3 at c3' HE
        have ab : Below wr.heap.size wr (wr.alloc (.cells #[.int .i64 uid, .int .i64 flags, .int .i64 seq, .slice ua un uc] 84)) := (Below.refl _ _).alloc (Nat.le_refl _) _
        have c4' := textOk_any _ text _ (hu.below ab)
        generalize textB text = X4 at c4' HE
        have hKA := hK.out
        obtain ⟨e0, e1, e2, e3, e4, e5, e6⟩ := bx7 hKA
        have hlA := lt_of_heap hKA
        have HKm : Hid ((wr.alloc (.cells #[.int .i64 uid, .int .i64 flags, .int .i64 seq, .slice ua un uc] 84)).heap[wr.heap.size]? = some (.cells #[.int .i64 uid, .int .i64 flags, .int .i64 seq, .slice ua un uc] 84)) := box_new wr _
        have HKb : Hid ((wr.alloc (.cells #[.int .i64 uid, .int .i64 flags, .int .i64 seq, .slice ua un uc] 84)).heap[w.heap.size]? = some (.cells #[.slice a0 n0 c0, .int .i64 x.valid, .int .i64 x.next, .int .i64 x.seq, .slice (some ⟨b, off, none⟩) x.mails.length c1, .slice a2 x.gones.length c2, .int .i64 x.lost] 51)) := box_alloc hKA _
        have HB1 : Hid (Below w.heap.size w (wr.alloc (.cells #[.int .i64 uid, .int .i64 flags, .int .i64 seq, .slice ua un uc] 84))) := Below.step hB.out ab
        clear hKA hu ab hK hB
        go_wp2_with fail
        refine (c1' _).mono ?_
        rintro e w' ⟨rfl, rfl⟩
        cases X1 with
        | false =>
          go_wp2
          go_ret
          exact ⟨ret_b (by rw [HS.out]; exact rangeAll_no k hlt HE.out), HB1.out⟩
        | true =>
        go_wp2_with fail
        refine (c2' _).mono ?_
        rintro e w' ⟨rfl, rfl⟩
        cases X2 with
        | false =>
          go_wp2
          go_ret
          exact ⟨ret_b (by rw [HS.out]; exact rangeAll_no k hlt HE.out), HB1.out⟩
        | true =>
        go_wp2_with fail
        refine (c3' _).mono ?_
        rintro e w' ⟨rfl, rfl⟩
        cases X3 with
        | false =>
          go_wp2
          go_ret
          exact ⟨ret_b (by rw [HS.out]; exact rangeAll_no k hlt HE.out), HB1.out⟩
        | true =>
        go_wp2_with fail
        refine c4'.mono ?_
        rintro e w2 ⟨rfl, B⟩
        have HB2 : Hid (Below w.heap.size w w2) := Below.step HB1.out B
        have HKb2 : Hid (w2.heap[w.heap.size]? = some (.cells #[.slice a0 n0 c0, .int .i64 x.valid, .int .i64 x.next, .int .i64 x.seq, .slice (some ⟨b, off, none⟩) x.mails.length c1, .slice a2 x.gones.length c2, .int .i64 x.lost] 51)) := box_below B HKb.out
        obtain ⟨t0, t1, t2, t3⟩ := bx4 (box_below B HKm.out)
        clear B HB1 HKb HKm
        cases X4 with
        | false =>
          go_wp2
          go_ret
          exact ⟨ret_b (by rw [HS.out]; exact rangeAll_no k hlt HE.out), HB2.out⟩
        | true =>
        go_wp2
        go_roundw
        case rel =>
          refine ⟨k + 1, by omega, by go_num, by rw [HP1.out], (show Hid _ from fun j hj => ?_), HKb2, HB2⟩
          by_cases e : j = k
          · subst e; exact HE.out
          · exact hA.out j (by omega)
        case measure => simp [intOf]; omega
      · obtain rfl : k = x.mails.length := by omega
        go_wp2
        go_ret
        exact ⟨ret_b (by rw [HS.out]; exact rangeAll_yes hA.out), hB.out⟩
  · have HS : Hid (mailsB x = false) := by simp [Hid, mailsB, h0]
    go_enter Try.func67, Try.ntmps67
    go_wp2
    go_ret
    exact ⟨ret_b HS.out, X⟩

end Go.Proofs.Ytnjicpdccpkbmaa
