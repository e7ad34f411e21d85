/- The proof's texts, part 15. -/
import Derived.Test.YtjdcjhboipileabPart5
import Derived.Test.YtjdcjhboipileabPart14
import Derived.Deep.RegionHeld3
import Derived.Test.YtjdcjhboipileabPart1
import Derived.Test.YtjdcjhboipileabPart4
import Derived.Test.YtjdcjhboipileabPart2

/- What l4account, AccountBytes of package spec do. -/
namespace Go.Proofs.Ytjdcjhboipileab
open Go.RowKit
set_option maxRecDepth 100000
set_option linter.unusedVariables false
set_option linter.unusedSimpArgs false

set_option maxRecDepth 100000 in
set_option maxHeartbeats 4000000 in
theorem l4account_r (v : Value) (x : AccD) (w : World) (hv : AccV w v x) (q0 : x.boxes.length ≤ 4) (q1 : ∀ b, b ∈ x.boxes → b.mails.length ≤ 12 ∧ b.gones.length ≤ 40) (q2 : x.seen.length ≤ 60) (hz : szXs x.boxes ≤ 2000000) :
    Calls Try.prog 16 #[v] w fun e w' => ∃ u, e = .returned u ∧ Row w' w.heap.size w'.heap.size u (accBs x) ∧ Below w.heap.size w w' := by
  have HV : Hid (∀ wi, Below w.heap.size w wi → AccV wi v x) := fun wi h => hv.below h
  obtain ⟨u0, u1, rfl, g0, g1, i0⟩ := hv
  have H0 : Hid (∀ wi, Below w.heap.size w wi → BoxesV wi u0 x.boxes ∧ IntsV wi u1 x.seen) := fun wi h => ⟨g0.below keepsBox h, g1.below keepsInt h⟩
  obtain ⟨a0, c0, rfl, m0, m1⟩ := g0.form
  obtain ⟨a1, c1, rfl, m2, m3⟩ := g1.form
  clear g0 g1
  have HX : Hid (Below w.heap.size w (w.alloc (.cells #[.int .i64 x.valid, .slice a0 x.boxes.length c0, .slice a1 x.seen.length c1] 32))) := (Below.refl _ _).alloc (Nat.le_refl _) _
  have HK : Hid ((w.alloc (.cells #[.int .i64 x.valid, .slice a0 x.boxes.length c0, .slice a1 x.seen.length c1] 32)).heap[w.heap.size]? = some (.cells #[.int .i64 x.valid, .slice a0 x.boxes.length c0, .slice a1 x.seen.length c1] 32)) := box_new w _
  have k0 := numB_len x.valid
  have k1 := numB_len x.boxes.length
  have k2 := numB_len x.seen.length
  have hwl : w.heap.size < (w.alloc (.cells #[.int .i64 x.valid, .slice a0 x.boxes.length c0, .slice a1 x.seen.length c1] 32)).heap.size := by simp
  go_enter Try.func16, Try.ntmps16
  have HS : Hid (∀ w', Below (w.alloc (.cells #[.int .i64 x.valid, .slice a0 x.boxes.length c0, .slice a1 x.seen.length c1] 32)).heap.size (w.alloc (.cells #[.int .i64 x.valid, .slice a0 x.boxes.length c0, .slice a1 x.seen.length c1] 32)) w' → w'.cell? ⟨w.heap.size, 0, none⟩ = some (.int .i64 x.valid) ∧ w'.cell? ⟨w.heap.size, 1, none⟩ = some (.slice a0 x.boxes.length c0)) := by
    intro w' h
    obtain ⟨s0, s1, s2⟩ := bx3 (box_below h HK.out)
    exact ⟨s0, s1⟩
  have C0 : Below (w.alloc (.cells #[.int .i64 x.valid, .slice a0 x.boxes.length c0, .slice a1 x.seen.length c1] 32)).heap.size (w.alloc (.cells #[.int .i64 x.valid, .slice a0 x.boxes.length c0, .slice a1 x.seen.length c1] 32)) (w.alloc (.cells #[.int .i64 x.valid, .slice a0 x.boxes.length c0, .slice a1 x.seen.length c1] 32)).drew := (Below.refl _ _).drew
  go_wp2
  go_region_held3 (fun w' => w'.cell? ⟨w.heap.size, 0, none⟩ = some (.int .i64 x.valid) ∧ w'.cell? ⟨w.heap.size, 1, none⟩ = some (.slice a0 x.boxes.length c0))
    (first | exact HS.out _ C2 | exact HS.out _ C1 | go_keep)
    ((first | (have hGuard := R1; go_at_call 28; refine (specPutNum_b _ _ x.boxes.length _ R1.bs (by simp; omega) ⟨by omega, by omega⟩).mono ?_; rintro e w2 ⟨r2, rfl, R2, B⟩; have C2 := Below.step C1 B; clear B) | (go_at_call 28; refine (specPutNum_b _ [] x.valid _ (bs_nil _) (by simp) i0).mono ?_; rintro e w1 ⟨r1, rfl, R1, B⟩; have C1 := Below.step C0 B; clear B)))
  have HK2 : Hid (w2.heap[w.heap.size]? = some (.cells #[.int .i64 x.valid, .slice a0 x.boxes.length c0, .slice a1 x.seen.length c1] 32)) := box_below C2 HK.out
  have HB2 : Hid (Below w.heap.size w w2) := Below.step HX.out C2
  have HR2 : Hid (Row w2 w.heap.size w2.heap.size r2 (numB x.valid ++ numB x.boxes.length ++ (x.boxes.take 0).flatMap boxBs)) := by
    simp only [List.take_zero, List.flatMap_nil, List.append_nil]
    exact R2.wide (by have := C1.size; omega) (Nat.le_refl _)
  clear HS C0 C1 C2 R1 R2
  obtain ⟨f0, f1, f2⟩ := bx3 HK2.out
  go_wp2
  clear f0 f1 f2
  go_loopw [3, 4] (fun bb i wr => ∃ k : Nat, k ≤ x.boxes.length ∧ i = .int .i64 k ∧ Hid (Row wr w.heap.size wr.heap.size bb (numB x.valid ++ numB x.boxes.length ++ (x.boxes.take k).flatMap boxBs)) ∧ Hid (wr.heap[w.heap.size]? = some (.cells #[.int .i64 x.valid, .slice a0 x.boxes.length c0, .slice a1 x.seen.length c1] 32)) ∧ Hid (Below w.heap.size w wr)) (fun _ i _ => x.boxes.length - (intOf i).toNat)
  case atStart => exact ⟨0, Nat.zero_le _, rfl, HR2, HK2, HB2⟩
  case round =>
    clear HK2 HB2 HR2
    obtain ⟨k, hk, rfl, hR, hK, hB⟩ := hrel
    have hml := boxes_len (x.boxes.take k) (fun b hb => q1 b (List.mem_of_mem_take hb))
    have htk : (x.boxes.take k).length ≤ 4 := by simp; omega
    by_cases hlt : k < x.boxes.length
    · obtain ⟨m, hm⟩ : ∃ m, x.boxes[k]? = some m := ⟨x.boxes[k], List.getElem?_eq_getElem hlt⟩
      obtain ⟨b, off, cap', u0, u1, u2, hv', hlb, d0, d1, d2, d3, d4, d5, d6, hu0, hu1, hu2, j0, j1, j2, j3⟩ := BoxesV.cell (H0.out wr hB.out).1 k m hm
      simp only [Value.slice.injEq, true_and] at hv'
      obtain ⟨rfl, rfl⟩ := hv'
      obtain ⟨ua, un, uc, rfl⟩ := hu0.form3
      obtain ⟨va, vc, rfl, -⟩ := hu1.form
      obtain ⟨wa, wc, rfl, -⟩ := hu2.form
      have HBV : Hid (BoxV wr (.agg #[.slice ua un uc, .int .i64 m.valid, .int .i64 m.next, .int .i64 m.seq, .slice va m.mails.length vc, .slice wa m.gones.length wc, .int .i64 m.lost]) m) := ⟨_, _, _, rfl, hu0, hu1, hu2, j0, j1, j2, j3⟩
      have hq := q1 m (List.mem_of_getElem? hm)
      have hsz : szX m ≤ 2000000 := by have := szXs_mem (List.mem_of_getElem? hm); omega
      have HST : Hid ((x.boxes.take (k + 1)).flatMap boxBs = (x.boxes.take k).flatMap boxBs ++ boxBs m) := flat_step boxBs hm
      obtain ⟨f0, f1, f2⟩ := bx3 hK.out
      have hlA := lt_of_heap hK.out
      clear hu0 hu1 hu2 hm
      go_wp2_with fail
      refine (l4box_r _ _ _ m _ hR.out.bs HBV.out (by simp only [List.length_append]; omega) hq.1 hq.2 hsz).mono ?_
      rintro e w3 ⟨r3, rfl, R3, B⟩
      have HK3 : Hid (w3.heap[w.heap.size]? = some (.cells #[.int .i64 x.valid, .slice (some ⟨b, off, none⟩) x.boxes.length c0, .slice a1 x.seen.length c1] 32)) := box_below B hK.out
      have HB3 : Hid (Below w.heap.size w w3) := Below.step hB.out B
      have HR3 : Hid (Row w3 w.heap.size w3.heap.size r3 (numB x.valid ++ numB x.boxes.length ++ (x.boxes.take (k + 1)).flatMap boxBs)) := by
        rw [HST.out, ← List.append_assoc]
        exact R3.wide hB.out.size (Nat.le_refl _)
      clear R3 B hR hK hB HBV HST d0 d1 d2 d3 d4 d5 d6 f0 f1 f2 hlA
      go_wp2
      go_roundw
      case rel => exact ⟨k + 1, by omega, by go_num, HR3, HK3, HB3⟩
      case measure => simp [intOf]; omega
    · obtain rfl : k = x.boxes.length := by omega
      obtain ⟨f0, f1, f2⟩ := bx3 hK.out
      have hlA := lt_of_heap hK.out
      have HE : Hid ((x.boxes.take x.boxes.length).flatMap boxBs = x.boxes.flatMap boxBs) := by rw [Hid, List.take_length]
      go_wp2_with fail
      refine (specPutNum_b _ _ x.seen.length _ hR.out.bs (by simp only [List.length_append]; omega) ⟨by omega, by omega⟩).mono ?_
      rintro e w7 ⟨r7, rfl, R7, B⟩
      clear f0 f1 f2 hlA
      have HK7 : Hid (w7.heap[w.heap.size]? = some (.cells #[.int .i64 x.valid, .slice a0 x.boxes.length c0, .slice a1 x.seen.length c1] 32)) := box_below B hK.out
      have HB7 : Hid (Below w.heap.size w w7) := Below.step hB.out B
      have HR7 : Hid (Row w7 w.heap.size w7.heap.size r7 (numB x.valid ++ numB x.boxes.length ++ x.boxes.flatMap boxBs ++ numB x.seen.length ++ numsB (x.seen.take 0))) := by
        rw [HE.out] at R7
        simp only [List.take_zero, numsB, List.flatMap_nil, List.append_nil]
        exact R7.wide hB.out.size (Nat.le_refl _)
      clear R7 B hR hK hB hlt hk
      have hml2 := boxes_len x.boxes q1
      generalize hN : numB x.valid ++ numB x.boxes.length ++ x.boxes.flatMap boxBs ++ numB x.seen.length = N at HR7
      have hNl : N.length ≤ 110000 := by rw [← hN]; simp only [List.length_append]; omega
      have HN : Hid (numB x.valid ++ numB x.boxes.length ++ x.boxes.flatMap boxBs ++ numB x.seen.length = N) := hN
      clear hN hml hml2 htk HE
      obtain ⟨f0, f1, f2⟩ := bx3 HK7.out
      go_wp2
      clear f0 f1 f2
      go_loopw [3, 5] (fun bb i wr => ∃ k : Nat, k ≤ x.seen.length ∧ i = .int .i64 k ∧ Hid (Row wr w.heap.size wr.heap.size bb (N ++ numsB (x.seen.take k))) ∧ Hid (wr.heap[w.heap.size]? = some (.cells #[.int .i64 x.valid, .slice a0 x.boxes.length c0, .slice a1 x.seen.length c1] 32)) ∧ Hid (Below w.heap.size w wr)) (fun _ i _ => x.seen.length - (intOf i).toNat)
      case atStart => exact ⟨0, Nat.zero_le _, rfl, HR7, HK7, HB7⟩
      case round =>
        clear HK7 HB7 HR7
        obtain ⟨k, hk, rfl, hR, hK, hB⟩ := hrel
        have hml := nums_len (x.seen.take k)
        have htk : (x.seen.take k).length ≤ 60 := by simp; omega
        by_cases hlt : k < x.seen.length
        · obtain ⟨n, hn⟩ : ∃ n, x.seen[k]? = some n := ⟨x.seen[k], List.getElem?_eq_getElem hlt⟩
          obtain ⟨b, off, cap', hv', hlb, d0, j0⟩ := IntsV.cell (H0.out wr hB.out).2 k n hn
          simp only [Value.slice.injEq, true_and] at hv'
          obtain ⟨rfl, rfl⟩ := hv'
          have HST : Hid (numsB (x.seen.take (k + 1)) = numsB (x.seen.take k) ++ numB n) := flat_step numB hn
          obtain ⟨f0, f1, f2⟩ := bx3 hK.out
          have hlA := lt_of_heap hK.out
          clear hn
          go_wp2_with fail
          refine (specPutNum_b _ _ n _ hR.out.bs (by simp only [List.length_append]; omega) j0).mono ?_
          rintro e w8 ⟨r8, rfl, R8, B⟩
          have HK8 : Hid (w8.heap[w.heap.size]? = some (.cells #[.int .i64 x.valid, .slice a0 x.boxes.length c0, .slice (some ⟨b, off, none⟩) x.seen.length c1] 32)) := box_below B hK.out
          have HB8 : Hid (Below w.heap.size w w8) := Below.step hB.out B
          have HR8 : Hid (Row w8 w.heap.size w8.heap.size r8 (N ++ numsB (x.seen.take (k + 1)))) := by
            rw [HST.out, ← List.append_assoc]
            exact R8.wide hB.out.size (Nat.le_refl _)
          clear R8 B hR hK hB HST d0 f0 f1 f2 hlA
          go_wp2
          go_roundw
          case rel => exact ⟨k + 1, by omega, by go_num, HR8, HK8, HB8⟩
          case measure => simp [intOf]; omega
        · obtain rfl : k = x.seen.length := by omega
          obtain ⟨f0, f1, f2⟩ := bx3 hK.out
          have HF : Hid (N ++ numsB (x.seen.take x.seen.length) = accBs x) := by
            rw [Hid, List.take_length, ← HN.out]
            simp [accBs]
          go_wp2
          go_ret
          have hr := hR.out
          rw [HF.out] at hr
          exact ⟨_, rfl, hr, hB.out⟩

set_option maxRecDepth 100000 in
set_option maxHeartbeats 4000000 in
theorem specAccountBytes_r (v : Value) (x : AccD) (w : World) (hv : AccV w v x) (hz : szXs x.boxes ≤ 2000000) :
    Calls Try.prog 5 #[v] w fun e w' => ∃ u, e = .returned (.tuple #[u, .bool (accB x)]) ∧ Row w' w.heap.size w'.heap.size u (outB x) ∧ Below w.heap.size w w' := by
  have HV : Hid (∀ wi, Below w.heap.size w wi → AccV wi v x) := fun wi h => hv.below h
  obtain ⟨u0, u1, rfl, g0, g1, i0⟩ := hv
  have H0 : Hid (∀ wi, Below w.heap.size w wi → BoxesV wi u0 x.boxes ∧ IntsV wi u1 x.seen) := fun wi h => ⟨g0.below keepsBox h, g1.below keepsInt h⟩
  obtain ⟨a0, c0, rfl, m0, m1⟩ := g0.form
  obtain ⟨a1, c1, rfl, m2, m3⟩ := g1.form
  clear g0 g1
  have HX : Hid (Below w.heap.size w (w.alloc (.cells #[.int .i64 x.valid, .slice a0 x.boxes.length c0, .slice a1 x.seen.length c1] 32))) := (Below.refl _ _).alloc (Nat.le_refl _) _
  have HK : Hid ((w.alloc (.cells #[.int .i64 x.valid, .slice a0 x.boxes.length c0, .slice a1 x.seen.length c1] 32)).heap[w.heap.size]? = some (.cells #[.int .i64 x.valid, .slice a0 x.boxes.length c0, .slice a1 x.seen.length c1] 32)) := box_new w _
  have hn := specAccountOk_any _ x _ (HV.out _ HX.out)
  cases hA : accB x with
  | false =>
    rw [hA] at hn
    have HO : Hid (outB x = []) := by simp only [Hid, outB, hA]
    go_enter Try.func5, Try.ntmps5
    go_wp2_with fail
    refine hn.mono ?_
    rintro e w1 ⟨rfl, B⟩
    have HB1 : Hid (Below w.heap.size w w1) := Below.step HX.out B
    clear B HK hn
    go_wp2
    go_ret2
    exact ⟨_, rfl, by rw [HO.out]; exact Row.nil _ _ _, HB1.out⟩
  | true =>
    rw [hA] at hn
    have HO : Hid (outB x = accBs x) := by simp only [Hid, outB, hA]
    obtain ⟨y0, y1⟩ := accB_small hA
    have y2 := accB_seen hA
    clear hA
    go_enter Try.func5, Try.ntmps5
    go_wp2_with fail
    refine hn.mono ?_
    rintro e w1 ⟨rfl, B⟩
    have HK1 : Hid (w1.heap[w.heap.size]? = some (.cells #[.int .i64 x.valid, .slice a0 x.boxes.length c0, .slice a1 x.seen.length c1] 32)) := box_below B HK.out
    have HB1 : Hid (Below w.heap.size w w1) := Below.step HX.out B
    clear B HK hn
    obtain ⟨f0, f1, f2⟩ := bx3 HK1.out
    have hlA := lt_of_heap HK1.out
    go_wp2_with fail
    refine (l4account_r _ x _ (HV.out _ HB1.out) y0 y1 y2 hz).mono ?_
    rintro e w2 ⟨r2, rfl, R2, B⟩
    have HB2 : Hid (Below w.heap.size w w2) := Below.step HB1.out B
    have HR2 : Hid (Row w2 w.heap.size w2.heap.size r2 (outB x)) := by rw [HO.out]; exact R2.wide HB1.out.size (Nat.le_refl _)
    clear B R2 f0 f1 f2 hlA HK1
    go_wp2
    go_ret2
    exact ⟨_, rfl, HR2.out, HB2.out⟩

end Go.Proofs.Ytjdcjhboipileab

/- What joined of package impl does. -/
namespace Go.Proofs.Ytjdcjhboipileab
open Go.RowKit
set_option maxRecDepth 100000

set_option maxHeartbeats 400000 in
theorem joined_any (v u : Value) (l m : List Int) (w : World) (hv : Bs w v l) (hu : Bs w u m) (hl : l.length ≤ 4000000) (hm : m.length ≤ 4000000) :
    Calls Try.prog 58 #[v, u] w fun e w' => ∃ r, e = .returned r ∧ OwnB w' w.heap.size r (l ++ m) ∧ Below w.heap.size w w' := by
  have HV : Hid (Bs w v l) := hv
  have HU : Hid (Bs w u m) := hu
  obtain ⟨ho, a, cap, rfl, -⟩ := hv
  obtain ⟨ho', a', cap', rfl, -⟩ := hu
  obtain ⟨i0, hi, hz0, hz1, hz2⟩ := info_parts info5
  go_enter Try.func58, Try.ntmps58
  go_wp2_with (at_make; refine wpList_make_full _ rfl _ _ 27 rfl w.heap.size 5 i0 (.int .u8 0) 1 Try.underlying27 hi hz0 hz1 _ _ _ _ (l.length + m.length) rfl rfl (by omega) (by omega) (by rw [hz2]; omega) (by unfold maxLen; omega) (Nat.le_refl _) ?_)
  intro w1 hown hgrow
  have hB1 := (Below.refl w.heap.size w).grown hgrow (Nat.le_refl _) (by simp)
  have HR1 : Hid (w1.heap[w.heap.size]? = some (.cells (vals (List.replicate (l.length + m.length) 0)).toArray 5 (0, 0))) := by
    have := made_heap hown
    simpa [Hid, vals] using this
  clear hown hgrow
  go_wp2_with (refine wpList_copy_bytes rfl (.tmp 12) (.tmp 13) 27 27 rfl Try.underlying27 sz5 _ _ _ rfl _ l rfl (HV.out.below hB1) l.length (Nat.min_eq_left (Nat.le_add_right _ _)).symm w.heap.size 0 _ HR1.out (fun _ => rfl) (by simp) w.heap.size w hB1 (Nat.le_refl _) ?_)
  intro w2 HR2 hB2
  have hlen : (splice (List.replicate (l.length + m.length) (0 : Int)) 0 l).length = l.length + m.length := by rw [length_splice _ _ _ (by simp)]; simp
  have HL : Hid ((splice (List.replicate (l.length + m.length) (0 : Int)) 0 l).length = l.length + m.length) := hlen
  clear hlen
  have HE : Hid (splice (splice (List.replicate (l.length + m.length) (0 : Int)) 0 l) l.length m = l ++ m) := splice_two _ _ _ (by simp)
  by_cases hm0 : m = []
  · subst hm0
    go_wp2_with (refine wpList_copy_bytes rfl (.tmp 18) (.tmp 19) 27 27 rfl Try.underlying27 sz5 _ _ _ rfl _ [] rfl (HU.out.below hB2) 0 (Nat.min_eq_left (Nat.zero_le _)).symm w.heap.size l.length _ HR2.out (fun h => absurd h (by omega)) (by rw [HL.out]; omega) w.heap.size w hB2 (Nat.le_refl _) ?_)
    intro w3 HR3 hB3
    have HR4 : Hid (w3.heap[w.heap.size]? = some (.cells (vals (l ++ [])).toArray 5 (0, 0))) := by
      rw [← HE.out]; simpa using HR3
    clear HR3
    go_wp2
    go_ret
    have := own_made (oct_append ho ho') (by simp [maxLen]; omega) HR4.out
    exact ⟨_, rfl, ⟨_, Nat.le_refl _, by simpa using this⟩, hB3⟩
  · have hm1 : 0 < m.length := List.length_pos_iff.2 hm0
    go_wp2_with (refine wpList_copy_bytes rfl (.tmp 18) (.tmp 19) 27 27 rfl Try.underlying27 sz5 _ _ _ rfl _ m rfl (HU.out.below hB2) m.length (Nat.min_eq_left (by omega)).symm w.heap.size l.length _ HR2.out (fun _ => rfl) (by rw [HL.out]; omega) w.heap.size w hB2 (Nat.le_refl _) ?_)
    intro w3 HR3 hB3
    have HR4 : Hid (w3.heap[w.heap.size]? = some (.cells (vals (l ++ m)).toArray 5 (0, 0))) := by
      rw [← HE.out]; exact HR3
    clear HR3
    go_wp2
    go_ret
    have := own_made (oct_append ho ho') (by simp [maxLen]; omega) HR4.out
    exact ⟨_, rfl, ⟨_, Nat.le_refl _, by simpa using this⟩, hB3⟩

theorem joined_r (v u : Value) (l m : List Int) (w : World) (hv : Bs w v l) (hu : Bs w u m) (hl : l.length ≤ 4000000) (hm : m.length ≤ 4000000) :
    Calls Try.prog 58 #[v, u] w fun e w' => ∃ r, e = .returned r ∧ Row w' w.heap.size w'.heap.size r (l ++ m) ∧ Below w.heap.size w w' :=
  (joined_any v u l m w hv hu hl hm).mono fun _ _ ⟨u, h1, h2, h3⟩ => ⟨u, h1, h2.toRow, h3⟩

end Go.Proofs.Ytjdcjhboipileab

/- What cutNum of package impl does. -/
namespace Go.Proofs.Ytjdcjhboipileab
open Go.RowKit
set_option maxRecDepth 100000

theorem or128_fin : ∀ x : Fin 256, bits BinOp.or IntKind.u8 (x.val : Int) 128 = (x.val : Int) % 128 + 128 := by decide +kernel
theorem or128 (x : Int) : bits BinOp.or IntKind.u8 (x % 256) 128 = x % 128 + 128 := by
  have h := or128_fin ⟨(x % 256).toNat, by omega⟩
  simp only at h
  rw [show (((x % 256).toNat : Nat) : Int) = x % 256 by omega] at h
  rw [h]; omega

set_option maxHeartbeats 1000000 in
theorem cutNum_1 (n : Int) (w : World) (h0 : 0 ≤ n) (h1 : n < 128) :
    Calls Try.prog 59 #[.int .u32 n] w fun e w' => e = .returned (.tuple #[.agg #[.int .u8 (n), .int .u8 (0), .int .u8 (0), .int .u8 (0), .int .u8 (0)], .int .i64 1]) ∧ Below w.heap.size w w' := by
  go_enter Try.func59, Try.ntmps59
  go_wp2
  refine wp_loop_rounds 1 ?_
  rw [rounds_succ]
  go_wp2
  refine bodyPost_ret (v := .tuple #[.agg #[.int .u8 (n), .int .u8 (0), .int .u8 (0), .int .u8 (0), .int .u8 (0)], .int .i64 1]) (by simp [results, Try.results59, go_sem]) rfl ⟨rfl, ?_⟩
  exact ((Below.refl _ _).alloc (Nat.le_refl _) _).alloc (by simp) _

set_option maxHeartbeats 1000000 in
theorem cutNum_2 (n : Int) (w : World) (h0 : 128 ≤ n) (h1 : n < 16384) :
    Calls Try.prog 59 #[.int .u32 n] w fun e w' => e = .returned (.tuple #[.agg #[.int .u8 ((n) % 128 + 128), .int .u8 (n / 128), .int .u8 (0), .int .u8 (0), .int .u8 (0)], .int .i64 2]) ∧ Below w.heap.size w w' := by
  go_enter Try.func59, Try.ntmps59
  go_wp2
  refine wp_loop_rounds 2 ?_
  rw [rounds_succ]
  go_wp2
  rw [rounds_succ]
  go_wp2
  refine bodyPost_ret (v := .tuple #[.agg #[.int .u8 (bits BinOp.or IntKind.u8 (n % 256) 128), .int .u8 (n / 128), .int .u8 (0), .int .u8 (0), .int .u8 (0)], .int .i64 2]) (by simp [results, Try.results59, go_sem]) rfl ⟨by simp only [or128], ?_⟩
  exact ((Below.refl _ _).alloc (Nat.le_refl _) _).alloc (by simp) _

set_option maxHeartbeats 1000000 in
theorem cutNum_3 (n : Int) (w : World) (h0 : 16384 ≤ n) (h1 : n < 2097152) :
    Calls Try.prog 59 #[.int .u32 n] w fun e w' => e = .returned (.tuple #[.agg #[.int .u8 ((n) % 128 + 128), .int .u8 ((n / 128) % 128 + 128), .int .u8 (n / 128 / 128), .int .u8 (0), .int .u8 (0)], .int .i64 3]) ∧ Below w.heap.size w w' := by
  go_enter Try.func59, Try.ntmps59
  go_wp2
  refine wp_loop_rounds 3 ?_
  rw [rounds_succ]
  go_wp2
  rw [rounds_succ]
  go_wp2
  rw [rounds_succ]
  go_wp2
  refine bodyPost_ret (v := .tuple #[.agg #[.int .u8 (bits BinOp.or IntKind.u8 (n % 256) 128), .int .u8 (bits BinOp.or IntKind.u8 ((n / 128) % 256) 128), .int .u8 (n / 128 / 128), .int .u8 (0), .int .u8 (0)], .int .i64 3]) (by simp [results, Try.results59, go_sem]) rfl ⟨by simp only [or128], ?_⟩
  exact ((Below.refl _ _).alloc (Nat.le_refl _) _).alloc (by simp) _

set_option maxHeartbeats 1000000 in
theorem cutNum_4 (n : Int) (w : World) (h0 : 2097152 ≤ n) (h1 : n < 268435456) :
    Calls Try.prog 59 #[.int .u32 n] w fun e w' => e = .returned (.tuple #[.agg #[.int .u8 ((n) % 128 + 128), .int .u8 ((n / 128) % 128 + 128), .int .u8 ((n / 128 / 128) % 128 + 128), .int .u8 (n / 128 / 128 / 128), .int .u8 (0)], .int .i64 4]) ∧ Below w.heap.size w w' := by
  go_enter Try.func59, Try.ntmps59
  go_wp2
  refine wp_loop_rounds 4 ?_
  rw [rounds_succ]
  go_wp2
  rw [rounds_succ]
  go_wp2
  rw [rounds_succ]
  go_wp2
  rw [rounds_succ]
  go_wp2
  refine bodyPost_ret (v := .tuple #[.agg #[.int .u8 (bits BinOp.or IntKind.u8 (n % 256) 128), .int .u8 (bits BinOp.or IntKind.u8 ((n / 128) % 256) 128), .int .u8 (bits BinOp.or IntKind.u8 ((n / 128 / 128) % 256) 128), .int .u8 (n / 128 / 128 / 128), .int .u8 (0)], .int .i64 4]) (by simp [results, Try.results59, go_sem]) rfl ⟨by simp only [or128], ?_⟩
  exact ((Below.refl _ _).alloc (Nat.le_refl _) _).alloc (by simp) _

set_option maxHeartbeats 1000000 in
theorem cutNum_5 (n : Int) (w : World) (h0 : 268435456 ≤ n) (h1 : n < 2147483648) :
    Calls Try.prog 59 #[.int .u32 n] w fun e w' => e = .returned (.tuple #[.agg #[.int .u8 ((n) % 128 + 128), .int .u8 ((n / 128) % 128 + 128), .int .u8 ((n / 128 / 128) % 128 + 128), .int .u8 ((n / 128 / 128 / 128) % 128 + 128), .int .u8 (n / 128 / 128 / 128 / 128)], .int .i64 5]) ∧ Below w.heap.size w w' := by
  go_enter Try.func59, Try.ntmps59
  go_wp2
  refine wp_loop_rounds 5 ?_
  rw [rounds_succ]
  go_wp2
  rw [rounds_succ]
  go_wp2
  rw [rounds_succ]
  go_wp2
  rw [rounds_succ]
  go_wp2
  rw [rounds_succ]
  go_wp2
  refine bodyPost_ret (v := .tuple #[.agg #[.int .u8 (bits BinOp.or IntKind.u8 (n % 256) 128), .int .u8 (bits BinOp.or IntKind.u8 ((n / 128) % 256) 128), .int .u8 (bits BinOp.or IntKind.u8 ((n / 128 / 128) % 256) 128), .int .u8 (bits BinOp.or IntKind.u8 ((n / 128 / 128 / 128) % 256) 128), .int .u8 (n / 128 / 128 / 128 / 128)], .int .i64 5]) (by simp [results, Try.results59, go_sem]) rfl ⟨by simp only [or128], ?_⟩
  exact ((Below.refl _ _).alloc (Nat.le_refl _) _).alloc (by simp) _

/-- The five bytes that cutNum answers hold the number's bytes, as many as it says. -/
theorem cutNum_any (n : Int) (w : World) (h0 : 0 ≤ n) (h1 : n ≤ 2147483647) :
    Calls Try.prog 59 #[.int .u32 n] w fun e w' => ∃ (c0 c1 c2 c3 c4 : Int) (k : Nat), e = .returned (.tuple #[.agg #[.int .u8 c0, .int .u8 c1, .int .u8 c2, .int .u8 c3, .int .u8 c4], .int .i64 k]) ∧
      k ≤ 5 ∧ Oct [c0, c1, c2, c3, c4] ∧ enc 4 n = [c0, c1, c2, c3, c4].take k ∧ Below w.heap.size w w' := by
  by_cases g1 : n < 128
  · refine (cutNum_1 n w (by omega) (by omega)).mono ?_
    rintro e w' ⟨rfl, hb⟩
    exact ⟨_, _, _, _, _, 1, rfl, by omega, by simp [Oct]; omega, by rw [enc_lo 4 (n) (by omega)]; rfl, hb⟩
  by_cases g2 : n < 16384
  · refine (cutNum_2 n w (by omega) (by omega)).mono ?_
    rintro e w' ⟨rfl, hb⟩
    exact ⟨_, _, _, _, _, 2, rfl, by omega, by simp [Oct]; omega, by rw [enc_hi 3 (n) (by omega), enc_lo 3 (n / 128) (by omega)]; rfl, hb⟩
  by_cases g3 : n < 2097152
  · refine (cutNum_3 n w (by omega) (by omega)).mono ?_
    rintro e w' ⟨rfl, hb⟩
    exact ⟨_, _, _, _, _, 3, rfl, by omega, by simp [Oct]; omega, by rw [enc_hi 3 (n) (by omega), enc_hi 2 (n / 128) (by omega), enc_lo 2 (n / 128 / 128) (by omega)]; rfl, hb⟩
  by_cases g4 : n < 268435456
  · refine (cutNum_4 n w (by omega) (by omega)).mono ?_
    rintro e w' ⟨rfl, hb⟩
    exact ⟨_, _, _, _, _, 4, rfl, by omega, by simp [Oct]; omega, by rw [enc_hi 3 (n) (by omega), enc_hi 2 (n / 128) (by omega), enc_hi 1 (n / 128 / 128) (by omega), enc_lo 1 (n / 128 / 128 / 128) (by omega)]; rfl, hb⟩
  refine (cutNum_5 n w (by omega) (by omega)).mono ?_
  rintro e w' ⟨rfl, hb⟩
  exact ⟨_, _, _, _, _, 5, rfl, by omega, by simp [Oct]; omega, by rw [enc_hi 3 (n) (by omega), enc_hi 2 (n / 128) (by omega), enc_hi 1 (n / 128 / 128) (by omega), enc_hi 0 (n / 128 / 128 / 128) (by omega), enc_lo 0 (n / 128 / 128 / 128 / 128) (by omega)]; rfl, hb⟩

end Go.Proofs.Ytjdcjhboipileab

/- What PutNum of package impl does. -/
namespace Go.Proofs.Ytjdcjhboipileab
open Go.RowKit
set_option maxRecDepth 100000

/-- A cut of an array of five bytes, from its beginning on. -/
theorem run_sliceAt5 (k : Nat) (hk : k ≤ 5) (a : Addr) (W : World) : (Instr.sliceAt 84 (.pointer (some a)) none (some (.int .i64 k)) none).run Try.prog W = .ok (.slice (some a) k 5) W := by
  have harr : Try.prog.arrayLen 84 = 5 := by kernel_rfl
  have hel : Try.prog.elem 84 = 5 := by kernel_rfl
  rw [run_sliceAt_array_h (P := Try.prog) W 84 a (by kernel_rfl) .i64 k (by omega) (by rw [harr]; omega), hel, size5, harr]
  simp [Result.andThen, slicedAt, Addr.add]
/-- Five bytes in a block of their own, and a cut of them. -/
theorem bs_five (w : World) (c0 c1 c2 c3 c4 : Int) (k : Nat) (hk : k ≤ 5) (ho : Oct [c0, c1, c2, c3, c4]) :
    Bs (w.alloc (.cells #[.int .u8 c0, .int .u8 c1, .int .u8 c2, .int .u8 c3, .int .u8 c4] 84)) (.slice (some ⟨w.heap.size, 0, none⟩) k 5) ([c0, c1, c2, c3, c4].take k) := by
  have hl : ([c0, c1, c2, c3, c4].take k).length = k := by simp; omega
  refine ⟨oct_take ho k, _, 5, by rw [hl], by rw [hl]; exact hk, by decide, (fun h => by cases h), fun _ => ⟨w.heap.size, 0, rfl, by simp, fun i hi => ?_⟩⟩
  rw [hl] at hi
  have e : (w.alloc (.cells #[.int .u8 c0, .int .u8 c1, .int .u8 c2, .int .u8 c3, .int .u8 c4] 84)).cell? ⟨w.heap.size, 0 + i, none⟩ = (vals [c0, c1, c2, c3, c4])[i]? := by
    rw [Nat.zero_add, cell_of_row _ _ i _ _ _ (heap_alloc_new w _)]; simp [vals]
  rw [e, vals_get _ _ (by simp; omega)]
  simp [hi]

set_option maxHeartbeats 400000 in
theorem implPutNum_any (v : Value) (l : List Int) (n : Int) (w : World) (hv : Bs w v l) (hl : l.length ≤ 2000000) (hn0 : -9223372036854775808 ≤ n) (hn1 : n ≤ 9223372036854775807) :
    Calls Try.prog 37 #[v, .int .i64 n] w fun e w' => ∃ u, e = .returned u ∧ OwnB w' w.heap.size u (putL l n) ∧ Below w.heap.size w w' := by
  have HV : Hid (Bs w v l) := hv
  clear hv
  by_cases hb : 0 ≤ n ∧ n ≤ 2147483647
  · obtain ⟨hb0, hb1⟩ := hb
    have HP : Hid (putL l n = l ++ enc 4 n) := by simp [Hid, putL, hb0, hb1]
    go_enter Try.func37, Try.ntmps37
    go_wp2_with fail
    refine (cutNum_any n _ hb0 hb1).mono ?_
    rintro e w1 ⟨c0, c1, c2, c3, c4, k, rfl, hk, ho, he, hB⟩
    have HO : Hid (Oct [c0, c1, c2, c3, c4]) := ho
    have HE : Hid (enc 4 n = [c0, c1, c2, c3, c4].take k) := he
    clear ho he
    have hsl := run_sliceAt5 k hk
    have hsz := hB.size
    go_wp2_with fail
    refine (joined_any v _ l _ _ ((HV.out.below hB).alloc _) (bs_five w1 c0 c1 c2 c3 c4 k hk HO.out) (by omega) (by simp; omega)).mono ?_
    rintro e w2 ⟨u, rfl, hO, hB2⟩
    have HO2 : Hid (OwnB w2 w.heap.size u (putL l n)) := by
      rw [HP.out, HE.out]
      obtain ⟨g, hg, hg'⟩ := hO
      exact ⟨g, Nat.le_trans (Nat.le_trans hsz (by simp)) hg, hg'⟩
    have HB2 : Hid (Below w.heap.size w w2) := (hB.alloc hsz _).trans (hB2.mono (by simp; omega))
    clear hO hB2
    go_wp2
    go_ret
    exact ⟨_, rfl, HO2.out, HB2.out⟩
  · have HP : Hid (putL l n = l) := by simp [Hid, putL]; omega
    by_cases hneg : n < 0
    all_goals
      go_enter Try.func37, Try.ntmps37
      go_wp2_with fail
      refine (joined_any v _ l [] _ HV.out (bs_nil _) (by omega) (by simp)).mono ?_
      rintro e w1 ⟨u, rfl, hO, hB⟩
      have HO : Hid (OwnB w1 w.heap.size u (putL l n)) := by rw [HP.out]; simpa [Hid] using hO
      clear hO
      go_wp2
      go_ret
      exact ⟨_, rfl, HO.out, hB⟩

theorem implPutNum_r (v : Value) (l : List Int) (n : Int) (w : World) (hv : Bs w v l) (hl : l.length ≤ 2000000) (hn0 : -9223372036854775808 ≤ n) (hn1 : n ≤ 9223372036854775807) :
    Calls Try.prog 37 #[v, .int .i64 n] w fun e w' => ∃ u, e = .returned u ∧ Row w' w.heap.size w'.heap.size u (putL l n) ∧ Below w.heap.size w w' :=
  (implPutNum_any v l n w hv hl hn0 hn1).mono fun _ _ ⟨u, h1, h2, h3⟩ => ⟨u, h1, h2.toRow, h3⟩

end Go.Proofs.Ytjdcjhboipileab

/- What PutText of package impl does. -/
namespace Go.Proofs.Ytjdcjhboipileab
open Go.RowKit
set_option maxRecDepth 100000

set_option maxHeartbeats 400000 in
theorem implPutText_r (v u : Value) (l t : List Int) (w : World) (hv : Bs w v l) (hu : Bs w u t) (hl : l.length ≤ 2000000) (ht : t.length ≤ 2000000) :
    Calls Try.prog 38 #[v, u] w fun e w' => ∃ r, e = .returned r ∧ Row w' w.heap.size w'.heap.size r (putTL l t) ∧ Below w.heap.size w w' := by
  have HV : Hid (Bs w v l) := hv
  have HU : Hid (Bs w u t) := hu
  obtain ⟨a, cap, rfl⟩ : ∃ a cap, u = .slice a t.length cap := by obtain ⟨_, a, cap, h, _⟩ := hu; exact ⟨a, cap, h⟩
  clear hv hu
  by_cases hb : 30 < t.length
  · have hb' : (30 : Int) < (t.length : Int) := by omega
    have HP : Hid (putTL l t = l) := by simp [Hid, putTL, hb]
    go_enter Try.func38, Try.ntmps38
    go_wp2_with fail
    refine (joined_r v _ l [] _ HV.out (bs_nil _) (by omega) (by simp)).mono ?_
    rintro e w1 ⟨r, rfl, R, B⟩
    have HR : Hid (Row w1 w.heap.size w1.heap.size r (putTL l t)) := by rw [HP.out]; simpa [Hid] using R
    clear R
    go_wp2
    go_ret
    exact ⟨_, rfl, HR.out, B⟩
  · have hb' : ¬ (30 : Int) < (t.length : Int) := by omega
    have HP : Hid (putTL l t = putL l t.length ++ t) := by simp [Hid, putTL, hb]
    have hpl := putL_length l t.length
    go_enter Try.func38, Try.ntmps38
    go_wp2_with fail
    refine (implPutNum_r v l t.length _ HV.out hl (by omega) (by omega)).mono ?_
    rintro e w1 ⟨u1, rfl, R1, B1⟩
    have HUU : Hid (Bs w1 (.slice a t.length cap) t) := HU.out.below B1
    go_wp2_with fail
    refine (joined_r u1 _ _ t _ R1.bs HUU.out (by omega) (by omega)).mono ?_
    rintro e w2 ⟨r, rfl, R, B⟩
    have HR : Hid (Row w2 w.heap.size w2.heap.size r (putTL l t)) := by rw [HP.out]; exact R.wide B1.size (Nat.le_refl _)
    have HB : Hid (Below w.heap.size w w2) := Below.step B1 B
    clear R R1 B B1
    go_wp2
    go_ret
    exact ⟨_, rfl, HR.out, HB.out⟩

end Go.Proofs.Ytjdcjhboipileab

/- What stays while bytes of the call's own are put behind one another: all below B, and all that are no bytes. -/
namespace Go.Proofs.Ytjdcjhboipileab
open Go.RowKit

structure Tw (B : Nat) (w w' : World) : Prop where
  below : Below B w w'
  typed : ∀ (b : Nat) (c : Array Value) (t : TypeId) (f : Nat × Nat), t ≠ 5 → w.heap[b]? = some (Obj.cells c t f) → w'.heap[b]? = some (Obj.cells c t f)

theorem Tw.refl (B : Nat) (w : World) : Tw B w w := ⟨Below.refl _ _, fun _ _ _ _ _ h => h⟩
theorem Tw.trans {B : Nat} {a b c : World} (h : Tw B a b) (k : Tw B b c) : Tw B a c := ⟨h.below.trans k.below, fun i cs t f ht hc => k.typed i cs t f ht (h.typed i cs t f ht hc)⟩
theorem Tw.of_below {B : Nat} {w w' : World} (hB : B ≤ w.heap.size) (h : Below w.heap.size w w') : Tw B w w' := ⟨h.mono hB, fun b _ _ _ _ hb => (h.block b (lt_of_heap hb)).trans hb⟩
theorem Tw.alloc {B : Nat} {w : World} (hB : B ≤ w.heap.size) (o : Obj) : Tw B w (w.alloc o) := Tw.of_below hB ((Below.refl _ _).alloc (Nat.le_refl _) o)
theorem Tw.grown {B : Nat} {w w' : World} {v : Value} {l : List Int} (hv : OwnB w B v l) (hB : B ≤ w.heap.size) (hg : w.grownBy w' v.ownBlock) : Tw B w w' := by
  refine ⟨(Below.refl B w).grown hg hB (fun k hk => (hv.row.lt k hk).1), fun b c t f ht hb => (hg.block b (lt_of_heap hb) fun e => ?_).trans hb⟩
  obtain ⟨g, _, _, ⟨rfl, _⟩ | ⟨cap, cur, rfl, hh, _⟩⟩ := hv
  · simp [Value.ownBlock] at e
  · simp only [Value.ownBlock, Option.some.injEq] at e
    subst e
    rw [hb] at hh
    simp only [Option.some.injEq, Obj.cells.injEq] at hh
    exact ht hh.2.1
theorem Tw.size {B : Nat} {w w' : World} (h : Tw B w w') : w.heap.size ≤ w'.heap.size := h.below.size
theorem Tw.box {B g : Nat} {w w' : World} {c : Array Value} {t : TypeId} (h : Tw B w w') (ht : t ≠ 5) (hb : w.heap[g]? = some (.cells c t (0, 0))) : w'.heap[g]? = some (.cells c t (0, 0)) := h.typed g c t _ ht hb
theorem OwnB.nil' (w : World) (B : Nat) : OwnB w B (.slice none 0 0) [] := ⟨B, Nat.le_refl _, oct_nil, .inl ⟨rfl, rfl⟩⟩

end Go.Proofs.Ytjdcjhboipileab

/- What putNums of package impl does. -/
namespace Go.Proofs.Ytjdcjhboipileab
open Go.RowKit
set_option maxRecDepth 100000
set_option linter.unusedVariables false

theorem implPutNum_b (v : Value) (l : List Int) (n : Int) (w : World) (hv : Bs w v l) (hl : l.length ≤ 2000000) (hn : I64 n) :
    Calls Try.prog 37 #[v, .int .i64 n] w fun e w' => ∃ u, e = .returned u ∧ Row w' w.heap.size w'.heap.size u (l ++ numB n) ∧ Below w.heap.size w w' := by
  refine (implPutNum_r v l n w hv hl hn.1 hn.2).mono ?_
  rintro e w' ⟨u, rfl, R, B⟩
  rw [putL_eq] at R
  exact ⟨u, rfl, R, B⟩
theorem implPutText_b (v u : Value) (l t : List Int) (w : World) (hv : Bs w v l) (hu : Bs w u t) (hl : l.length ≤ 2000000) (ht : t.length ≤ 2000000) :
    Calls Try.prog 38 #[v, u] w fun e w' => ∃ r, e = .returned r ∧ Row w' w.heap.size w'.heap.size r (l ++ txB t) ∧ Below w.heap.size w w' := by
  refine (implPutText_r v u l t w hv hu hl ht).mono ?_
  rintro e w' ⟨u, rfl, R, B⟩
  rw [putTL_eq] at R
  exact ⟨u, rfl, R, B⟩
theorem bs_none (w : World) : Bs w (.slice none 0 0) [] := ⟨oct_nil, none, 0, rfl, by simp, by simp, fun _ => rfl, fun h => by simp at h⟩

set_option maxHeartbeats 1000000 in
theorem putNums_b (B : Nat) (v nv : Value) (l ns : List Int) (w : World) (hv : OwnB w B v l) (hB : B ≤ w.heap.size) (hn : ∀ wi, Tw B w wi → IntsV wi nv ns) (hl : l.length ≤ 1000000) (hns : ns.length ≤ 1000) :
    Calls Try.prog 20 #[v, nv] w fun e w' => ∃ u, e = .returned u ∧ OwnB w' B u (l ++ numsB ns) ∧ Tw B w w' := by
  have HN : Hid (∀ wi, Tw B w wi → IntsV wi nv ns) := hn
  have HV : Hid (OwnB w B v (l ++ numsB (ns.take 0))) := by simpa [Hid, numsB] using hv
  obtain ⟨a, cap, rfl, m0, m1⟩ := (hn w (Tw.refl _ _)).form
  clear hn
  obtain ⟨va, vn, vc, rfl⟩ := hv.bs.form3
  clear hv
  obtain ⟨i0, hi, hz0, hz1, hz2⟩ := info_parts info5
  go_enter Try.func20, Try.ntmps20
  go_wp2
  go_loopw [0, 9] (fun out i wr => ∃ k : Nat, k ≤ ns.length ∧ i = .int .i64 k ∧ Hid (OwnB wr B out (l ++ numsB (ns.take k))) ∧ Hid (Tw B w wr)) (fun _ i _ => ns.length - (intOf i).toNat)
  case atStart => exact ⟨0, Nat.zero_le _, rfl, HV, Tw.refl _ _⟩
  case round =>
    clear HV
    obtain ⟨k, hk, rfl, hO, hT⟩ := hrel
    have hsz := hT.out.size
    by_cases hlt : k < ns.length
    · obtain ⟨n, hn⟩ : ∃ n, ns[k]? = some n := ⟨ns[k], List.getElem?_eq_getElem hlt⟩
      obtain ⟨b, off, cap', hv', hlb, d0, j0⟩ := IntsV.cell (HN.out wr hT.out) k n hn
      simp only [Value.slice.injEq, true_and] at hv'
      obtain ⟨rfl, rfl⟩ := hv'
      have HST : Hid (numsB (ns.take (k + 1)) = numsB (ns.take k) ++ numB n) := flat_step numB hn
      have g0 := numB_len n
      have g1 := nums_len (ns.take k)
      have g2 : (ns.take k).length ≤ 1000 := by simp; omega
      clear hn
      go_wp2_with fail
      refine (implPutNum_b _ [] n _ (bs_none _) (by simp) j0).mono ?_
      rintro e w1 ⟨r1, rfl, R1, B1⟩
      have HO1 : Hid (OwnB w1 B _ (l ++ numsB (ns.take k))) := hO.out.below B1
      have HT1 : Hid (Tw B w w1) := hT.out.trans (Tw.of_below (by omega) B1)
      have HR1 : Hid (Bs w1 r1 (numB n)) := by simpa [Hid] using R1.bs
      have s1 := B1.size
      clear R1 B1 d0
      go_wp2_with (at_builtin; refine wpList_append_bytes rfl (.tmp 13) (.tmp 15) 27 rfl i0 Try.underlying27 hi hz0 hz1 hz2 B _ _ rfl HO1.out _ (numB n) rfl HR1.out (by simp only [List.length_append]; omega) (by omega) w1 (Below.refl _ _) ?_)
      intro v2 w2 hO2 hB2 hG2
      have HO2 : Hid (OwnB w2 B v2 (l ++ numsB (ns.take (k + 1)))) := by rw [HST.out]; exact hO2
      have HT2 : Hid (Tw B w w2) := HT1.out.trans (Tw.grown HO1.out (by omega) hG2)
      clear hO2 hB2 hG2 HO1 HT1 HR1 hO hT HST
      go_wp2
      go_roundw
      case rel => exact ⟨k + 1, by omega, by go_num, HO2, HT2⟩
      case measure => simp [intOf]; omega
    · obtain rfl : k = ns.length := by omega
      go_wp2
      go_ret
      have ho := hO.out
      rw [List.take_length] at ho
      exact ⟨_, rfl, ho, hT.out⟩

end Go.Proofs.Ytjdcjhboipileab

/- What putBox of package impl do. -/
namespace Go.Proofs.Ytjdcjhboipileab
open Go.RowKit
set_option maxRecDepth 100000
set_option linter.unusedVariables false
set_option linter.unusedSimpArgs false

theorem ints_lit (w : World) (g : Nat) (ns : List Int) (h : w.heap[g]? = some (.cells (ns.map (fun n => Value.int .i64 n)).toArray 3 (0, 0))) (hn : ∀ n, n ∈ ns → I64 n) (hl : ns.length ≤ 1000) : IntsV w (.slice (some ⟨g, 0, none⟩) ns.length ns.length) ns := by
  refine ⟨some ⟨g, 0, none⟩, ns.length, fun i => [.int .i64 (ns.getD i 0)], rfl, Nat.le_refl _, by unfold maxLen; omega, (fun h => by cases h), fun i x hx => ?_, fun _ => ?_⟩
  · have hi := (List.getElem?_eq_some_iff.1 hx).1
    exact ⟨⟨by simp [List.getD_eq_getElem?_getD, hx], hn x (List.mem_of_getElem? hx)⟩, rfl⟩
  · refine ⟨g, 0, rfl, lt_of_heap h, fun i j u hi hu => ?_⟩
    cases j with
    | zero =>
      simp only [List.getElem?_cons_zero, Option.some.injEq] at hu
      subst hu
      rw [show 0 + i * 1 + 0 = i by omega, cell_of_row w g i _ _ (0, 0) h]
      simp [List.getD_eq_getElem?_getD, hi]
    | succ j => simp at hu

set_option maxRecDepth 100000 in
set_option maxHeartbeats 4000000 in
theorem putBox_b (wb : World) (ov v : Value) (l : List Int) (x : BoxD) (w : World) (ho : OwnB w wb.heap.size ov l) (hb : Below wb.heap.size wb w) (hv : BoxV wb v x) (hl : l.length ≤ 100000) (q1 : x.mails.length ≤ 12) (q2 : x.gones.length ≤ 40) (hz : szX x ≤ 2000000) :
    Calls Try.prog 21 #[ov, v] w fun e w' => ∃ u, e = .returned u ∧ OwnB w' wb.heap.size u (l ++ boxBs x) ∧ Tw wb.heap.size w w' := by
  have hz0' : x.name.length ≤ 2000000 := by simp only [szX] at hz; omega
  have hzm : szM x.mails ≤ 2000000 := by simp only [szX] at hz; omega
  clear hz
  have hB : wb.heap.size ≤ w.heap.size := hb.size
  obtain ⟨u0, u1, u2, rfl, g0, g1, g2, i0, i1, i2, i3⟩ := hv
  obtain ⟨a0, n0, c0, rfl⟩ := g0.form3
  obtain ⟨a1, c1, rfl, m0, m1⟩ := g1.form
  obtain ⟨a2, c2, rfl, m2, m3⟩ := g2.form
  have HB : Hid (∀ wi, Tw wb.heap.size w wi → Below wb.heap.size wb wi) := fun wi h => hb.trans h.below
  have H0 : Hid (Bs wb (.slice a0 n0 c0) x.name ∧ MailsV wb (.slice a1 x.mails.length c1) x.mails ∧ GonesV wb (.slice a2 x.gones.length c2) x.gones) := ⟨g0, g1, g2⟩
  clear g0 g1 g2
  generalize hBB : wb.heap.size = B at ho hB HB hb
  have HBB : Hid (wb.heap.size = B) := hBB
  clear hb hBB
  have HO : Hid (OwnB w B ov l) := ho
  obtain ⟨oa, on, oc, rfl⟩ := ho.bs.form3
  clear ho
  have k0 := txB_len x.name
  obtain ⟨z0, hi, hz0, hz1, hz2⟩ := info_parts info5
  have TA : Hid (Tw B w (w.alloc (.cells #[.slice a0 n0 c0, .int .i64 x.valid, .int .i64 x.next, .int .i64 x.seq, .slice a1 x.mails.length c1, .slice a2 x.gones.length c2, .int .i64 x.lost] 49))) := Tw.alloc hB _
  have HK : Hid ((w.alloc (.cells #[.slice a0 n0 c0, .int .i64 x.valid, .int .i64 x.next, .int .i64 x.seq, .slice a1 x.mails.length c1, .slice a2 x.gones.length c2, .int .i64 x.lost] 49)).heap[w.heap.size]? = some (.cells #[.slice a0 n0 c0, .int .i64 x.valid, .int .i64 x.next, .int .i64 x.seq, .slice a1 x.mails.length c1, .slice a2 x.gones.length c2, .int .i64 x.lost] 49)) := box_new w _
  obtain ⟨f0, f1, f2, f3, f4, f5, f6⟩ := bx7 HK.out
  have hlA := lt_of_heap HK.out
  have s0 : B ≤ (w.alloc (.cells #[.slice a0 n0 c0, .int .i64 x.valid, .int .i64 x.next, .int .i64 x.seq, .slice a1 x.mails.length c1, .slice a2 x.gones.length c2, .int .i64 x.lost] 49)).heap.size := by simp; omega
  go_enter Try.func21, Try.ntmps21
  go_wp2_with fail
  refine (implPutText_b _ _ [] x.name _ (bs_none _) (H0.out.1.below (by rw [HBB.out]; exact HB.out _ TA.out)) (by simp) hz0').mono ?_
  rintro e w1 ⟨r1, rfl, R1, B1⟩
  have s1 : B ≤ w1.heap.size := Nat.le_trans s0 B1.size
  have HO1 : Hid (OwnB w1 B (.slice oa on oc) l) := (HO.out.alloc _).below B1
  have HR1 : Hid (Bs w1 r1 (txB x.name)) := by simpa [Hid] using R1.bs
  have T1 : Hid (Tw B (w.alloc (.cells #[.slice a0 n0 c0, .int .i64 x.valid, .int .i64 x.next, .int .i64 x.seq, .slice a1 x.mails.length c1, .slice a2 x.gones.length c2, .int .i64 x.lost] 49)) w1) := Tw.of_below s0 B1
  clear R1 B1 f0 f1 f2 f3 f4 f5 f6 hlA HO
  go_wp2_with (at_builtin; refine wpList_append_bytes rfl (.tmp 9) (.tmp 12) 27 rfl z0 Try.underlying27 hi hz0 hz1 hz2 B _ _ rfl HO1.out _ _ rfl HR1.out (by omega) (by omega) w1 (Below.refl _ _) ?_)
  intro v2 w2 hO2 hB2 hG2
  have HO2 : Hid (OwnB w2 B v2 (l ++ txB x.name)) := hO2
  have T2 : Hid (Tw B (w.alloc (.cells #[.slice a0 n0 c0, .int .i64 x.valid, .int .i64 x.next, .int .i64 x.seq, .slice a1 x.mails.length c1, .slice a2 x.gones.length c2, .int .i64 x.lost] 49)) w2) := T1.out.trans (Tw.grown HO1.out s1 hG2)
  have s2 : B ≤ w2.heap.size := Nat.le_trans s1 hG2.size
  have K2 : w2.heap[w.heap.size]? = some (.cells #[.slice a0 n0 c0, .int .i64 x.valid, .int .i64 x.next, .int .i64 x.seq, .slice a1 x.mails.length c1, .slice a2 x.gones.length c2, .int .i64 x.lost] 49) := T2.out.box (by decide) HK.out
  obtain ⟨f0, f1, f2, f3, f4, f5, f6⟩ := bx7 K2
  have hlA := lt_of_heap K2
  clear hO2 hB2 hG2 HO1 T1 HR1 K2
  have HBN1 : Hid (((w2).alloc (.cells #[.int .i64 x.valid, .int .i64 x.next, .int .i64 x.seq, .int .i64 x.lost, .int .i64 (x.mails.length : Int)] 3)).heap[(w2).heap.size]? = some (.cells #[.int .i64 x.valid, .int .i64 x.next, .int .i64 x.seq, .int .i64 x.lost, .int .i64 (x.mails.length : Int)] 3)) := by
    have h := box_new (w2) (.cells #[.int .i64 x.valid, .int .i64 x.next, .int .i64 x.seq, .int .i64 x.lost, .int .i64 (x.mails.length : Int)] 3)
    exact h
  have HNV1 : Hid (∀ wi, Tw B ((w2).alloc (.cells #[.int .i64 x.valid, .int .i64 x.next, .int .i64 x.seq, .int .i64 x.lost, .int .i64 (x.mails.length : Int)] 3)) wi → IntsV wi (.slice (some ⟨(w2).heap.size, 0, none⟩) 5 5) [x.valid, x.next, x.seq, x.lost, (x.mails.length : Int)]) := fun wi h => ints_lit wi (w2).heap.size [x.valid, x.next, x.seq, x.lost, (x.mails.length : Int)] (Tw.box h (by decide) HBN1.out) (by simp only [List.mem_cons, List.not_mem_nil, or_false, forall_eq_or_imp, forall_eq]; exact ⟨i0, i1, i2, i3, by omega, by omega⟩) (by simp)
  have HOA1 : Hid (OwnB ((w2).alloc (.cells #[.int .i64 x.valid, .int .i64 x.next, .int .i64 x.seq, .int .i64 x.lost, .int .i64 (x.mails.length : Int)] 3)) B _ (l ++ txB x.name)) := HO2.out.alloc _
  have HSZ1 : B ≤ ((w2).alloc (.cells #[.int .i64 x.valid, .int .i64 x.next, .int .i64 x.seq, .int .i64 x.lost, .int .i64 (x.mails.length : Int)] 3)).heap.size := by simp; omega
  clear HBN1
  go_wp2_with fail
  refine (putNums_b B _ _ _ [x.valid, x.next, x.seq, x.lost, (x.mails.length : Int)] _ HOA1.out HSZ1 HNV1.out (by simp only [List.length_append]; omega) (by simp)).mono ?_
  rintro e w3 ⟨r3, rfl, R3, T3⟩
  have HO3 : Hid (OwnB w3 B r3 (l ++ txB x.name ++ numsB [x.valid, x.next, x.seq, x.lost, x.mails.length] ++ (x.mails.take 0).flatMap mailBs)) := by simpa [Hid] using R3
  have T4 : Hid (Tw B (w.alloc (.cells #[.slice a0 n0 c0, .int .i64 x.valid, .int .i64 x.next, .int .i64 x.seq, .slice a1 x.mails.length c1, .slice a2 x.gones.length c2, .int .i64 x.lost] 49)) w3) := T2.out.trans ((Tw.alloc s2 _).trans T3)
  clear R3 T3 T2 HO2 f0 f1 f2 f3 f4 f5 f6 hlA
  generalize hL : l ++ txB x.name ++ numsB [x.valid, x.next, x.seq, x.lost, x.mails.length] = L at HO3
  have hLl : L.length ≤ 100200 := by
    have := nums_len [x.valid, x.next, x.seq, x.lost, (x.mails.length : Int)]
    rw [← hL]; simp only [List.length_append]; simp at this; omega
  have HL : Hid (l ++ txB x.name ++ numsB [x.valid, x.next, x.seq, x.lost, x.mails.length] = L) := hL
  clear hL s1 s2
  obtain ⟨f0, f1, f2, f3, f4, f5, f6⟩ := bx7 (T4.out.box (by decide) HK.out)
  have hlA := lt_of_heap (T4.out.box (by decide) HK.out)
  go_wp2
  clear f0 f1 f2 f3 f4 f5 f6 hlA
  go_loopw [0, 31] (fun out i wr => ∃ k : Nat, k ≤ x.mails.length ∧ i = .int .i64 k ∧ Hid (OwnB wr B out (L ++ (x.mails.take k).flatMap mailBs)) ∧ Hid (Tw B (w.alloc (.cells #[.slice a0 n0 c0, .int .i64 x.valid, .int .i64 x.next, .int .i64 x.seq, .slice a1 x.mails.length c1, .slice a2 x.gones.length c2, .int .i64 x.lost] 49)) wr)) (fun _ i _ => x.mails.length - (intOf i).toNat)
  case atStart => exact ⟨0, Nat.zero_le _, rfl, HO3, T4⟩
  case round =>
    clear HO3 T4
    obtain ⟨k, hk, rfl, hO, hT⟩ := hrel
    have hml := mails_len (x.mails.take k)
    have htk : (x.mails.take k).length ≤ 12 := by simp; omega
    have sr : B ≤ wr.heap.size := Nat.le_trans s0 hT.out.size
    by_cases hlt : k < x.mails.length
    · obtain ⟨m, hm⟩ : ∃ m, x.mails[k]? = some m := ⟨x.mails[k], List.getElem?_eq_getElem hlt⟩
      obtain ⟨b, off, cap', u, hv', hlb, d0, d1, d2, d3, hu, j0, j1, j2⟩ := MailsV.cell H0.out.2.1 k m hm
      simp only [Value.slice.injEq, true_and] at hv'
      obtain ⟨rfl, rfl⟩ := hv'
      obtain ⟨ua, un, uc, rfl⟩ := hu.form3
      have hbr : Below wb.heap.size wb wr := by rw [HBB.out]; exact HB.out _ (TA.out.trans hT.out)
      replace d0 := (hbr.cell (p := ⟨b, off + k * 4, none⟩) hlb).trans d0
      replace d1 := (hbr.cell (p := ⟨b, off + k * 4 + 1, none⟩) hlb).trans d1
      replace d2 := (hbr.cell (p := ⟨b, off + k * 4 + 2, none⟩) hlb).trans d2
      replace d3 := (hbr.cell (p := ⟨b, off + k * 4 + 3, none⟩) hlb).trans d3
      replace hlb : b < wr.heap.size := Nat.lt_of_lt_of_le hlb hbr.size
      have htx : m.text.length ≤ 2000000 := by have := szM_mem (List.mem_of_getElem? hm); omega
      have HST : Hid ((x.mails.take (k + 1)).flatMap mailBs = (x.mails.take k).flatMap mailBs ++ mailBs m) := flat_step mailBs hm
      have g3 := txB_len m.text
      obtain ⟨uid, flags, seq, text⟩ := m
      simp only at d0 d1 d2 d3 hu j0 j1 j2 htx g3
      have HTX : Hid (∀ wi, Tw B w wi → Bs wi (.slice ua un uc) text) := fun wi h => hu.below (by rw [HBB.out]; exact HB.out _ h)
      have HM : Hid ((wr.alloc (.cells #[.int .i64 uid, .int .i64 flags, .int .i64 seq, .slice ua un uc] 69)).heap[wr.heap.size]? = some (.cells #[.int .i64 uid, .int .i64 flags, .int .i64 seq, .slice ua un uc] 69)) := box_new wr _
      have sm : B ≤ (wr.alloc (.cells #[.int .i64 uid, .int .i64 flags, .int .i64 seq, .slice ua un uc] 69)).heap.size := by simp; omega
      have TM : Hid (Tw B wr (wr.alloc (.cells #[.int .i64 uid, .int .i64 flags, .int .i64 seq, .slice ua un uc] 69))) := Tw.alloc sr _
      have HOM : Hid (OwnB (wr.alloc (.cells #[.int .i64 uid, .int .i64 flags, .int .i64 seq, .slice ua un uc] 69)) B _ (L ++ (x.mails.take k).flatMap mailBs)) := hO.out.alloc _
      obtain ⟨f0, f1, f2, f3⟩ := bx4 HM.out
      have hlM := lt_of_heap HM.out
      have hn3 := nums_len [uid, flags, seq]
      simp only [List.length_cons, List.length_nil] at hn3
      clear hu hm hbr
      have HBN2 : Hid (((wr.alloc (.cells #[.int .i64 uid, .int .i64 flags, .int .i64 seq, .slice ua un uc] 69)).alloc (.cells #[.int .i64 uid, .int .i64 flags, .int .i64 seq] 3)).heap[(wr.heap.size + 1)]? = some (.cells #[.int .i64 uid, .int .i64 flags, .int .i64 seq] 3)) := by
        have h := box_new (wr.alloc (.cells #[.int .i64 uid, .int .i64 flags, .int .i64 seq, .slice ua un uc] 69)) (.cells #[.int .i64 uid, .int .i64 flags, .int .i64 seq] 3)
        rw [show (wr.alloc (.cells #[.int .i64 uid, .int .i64 flags, .int .i64 seq, .slice ua un uc] 69)).heap.size = (wr.heap.size + 1) by simp] at h
        exact h
      have HNV2 : Hid (∀ wi, Tw B ((wr.alloc (.cells #[.int .i64 uid, .int .i64 flags, .int .i64 seq, .slice ua un uc] 69)).alloc (.cells #[.int .i64 uid, .int .i64 flags, .int .i64 seq] 3)) wi → IntsV wi (.slice (some ⟨(wr.heap.size + 1), 0, none⟩) 3 3) [uid, flags, seq]) := fun wi h => ints_lit wi (wr.heap.size + 1) [uid, flags, seq] (Tw.box h (by decide) HBN2.out) (by simp only [List.mem_cons, List.not_mem_nil, or_false, forall_eq_or_imp, forall_eq]; exact ⟨j0, j1, j2⟩) (by simp)
      have HOA2 : Hid (OwnB ((wr.alloc (.cells #[.int .i64 uid, .int .i64 flags, .int .i64 seq, .slice ua un uc] 69)).alloc (.cells #[.int .i64 uid, .int .i64 flags, .int .i64 seq] 3)) B _ (L ++ (x.mails.take k).flatMap mailBs)) := HOM.out.alloc _
      have HSZ2 : B ≤ ((wr.alloc (.cells #[.int .i64 uid, .int .i64 flags, .int .i64 seq, .slice ua un uc] 69)).alloc (.cells #[.int .i64 uid, .int .i64 flags, .int .i64 seq] 3)).heap.size := by simp; omega
      clear HBN2
      go_wp2_with fail
      refine (putNums_b B _ _ _ [uid, flags, seq] _ HOA2.out HSZ2 HNV2.out (by simp only [List.length_append]; omega) (by simp)).mono ?_
      rintro e w4 ⟨r4, rfl, R4, T4⟩
      have T5 : Hid (Tw B (wr.alloc (.cells #[.int .i64 uid, .int .i64 flags, .int .i64 seq, .slice ua un uc] 69)) w4) := (Tw.alloc sm _).trans T4
      have HO4 : Hid (OwnB w4 B r4 (L ++ (x.mails.take k).flatMap mailBs ++ numsB [uid, flags, seq])) := R4
      have s4 : B ≤ w4.heap.size := Nat.le_trans sm T5.out.size
      clear R4 T4 d0 d1 d2 d3 f0 f1 f2 f3 hlM HOM hO
      obtain ⟨f0, f1, f2, f3⟩ := bx4 (T5.out.box (by decide) HM.out)
      have hlM := lt_of_heap (T5.out.box (by decide) HM.out)
      go_wp2_with fail
      refine (implPutText_b _ _ [] text _ (bs_none _) (HTX.out _ (TA.out.trans (hT.out.trans (TM.out.trans T5.out)))) (by simp) htx).mono ?_
      rintro e w5 ⟨r5, rfl, R5, B5⟩
      have s5 : B ≤ w5.heap.size := Nat.le_trans s4 B5.size
      have HO5 : Hid (OwnB w5 B r4 (L ++ (x.mails.take k).flatMap mailBs ++ numsB [uid, flags, seq])) := HO4.out.below B5
      have HR5 : Hid (Bs w5 r5 (txB text)) := by simpa [Hid] using R5.bs
      have T6 : Hid (Tw B (w.alloc (.cells #[.slice a0 n0 c0, .int .i64 x.valid, .int .i64 x.next, .int .i64 x.seq, .slice (some ⟨b, off, none⟩) x.mails.length c1, .slice a2 x.gones.length c2, .int .i64 x.lost] 49)) w5) := hT.out.trans (TM.out.trans (T5.out.trans (Tw.of_below s4 B5)))
      clear R5 B5 f0 f1 f2 f3 hlM HO4 T5 HTX HM TM hT
      go_wp2_with (at_builtin; refine wpList_append_bytes rfl (.tmp 44) (.tmp 47) 27 rfl z0 Try.underlying27 hi hz0 hz1 hz2 B _ _ rfl HO5.out _ _ rfl HR5.out (by simp only [List.length_append]; omega) (by omega) w5 (Below.refl _ _) ?_)
      intro v6 w6 hO6 hB6 hG6
      have HO6 : Hid (OwnB w6 B v6 (L ++ (x.mails.take (k + 1)).flatMap mailBs)) := by
        have e : L ++ (x.mails.take (k + 1)).flatMap mailBs = L ++ ((x.mails.take k).flatMap mailBs ++ (numsB [uid, flags, seq] ++ txB text)) := by rw [HST.out]; simp [mailBs, numsB]
        rw [e]
        exact hO6
      have T7 : Hid (Tw B (w.alloc (.cells #[.slice a0 n0 c0, .int .i64 x.valid, .int .i64 x.next, .int .i64 x.seq, .slice (some ⟨b, off, none⟩) x.mails.length c1, .slice a2 x.gones.length c2, .int .i64 x.lost] 49)) w6) := T6.out.trans (Tw.grown HO5.out s5 hG6)
      clear hO6 hB6 hG6 T6 HO5 HR5 HST
      go_wp2
      go_roundw
      case rel => exact ⟨k + 1, by omega, by go_num, HO6, T7⟩
      case measure => simp [intOf]; omega
    · obtain rfl : k = x.mails.length := by omega
      have HE : Hid ((x.mails.take x.mails.length).flatMap mailBs = x.mails.flatMap mailBs) := by rw [Hid, List.take_length]
      have HO8' := hO.out
      rw [HE.out] at HO8'
      have HO8 := (show Hid _ from HO8')
      clear HO8'
      have hml2 := mails_len x.mails
      obtain ⟨f0, f1, f2, f3, f4, f5, f6⟩ := bx7 (hT.out.box (by decide) HK.out)
      have hlA := lt_of_heap (hT.out.box (by decide) HK.out)
      clear hO
      have HBN3 : Hid (((wr).alloc (.cells #[.int .i64 (x.gones.length : Int)] 3)).heap[(wr).heap.size]? = some (.cells #[.int .i64 (x.gones.length : Int)] 3)) := by
        have h := box_new (wr) (.cells #[.int .i64 (x.gones.length : Int)] 3)
        exact h
      have HNV3 : Hid (∀ wi, Tw B ((wr).alloc (.cells #[.int .i64 (x.gones.length : Int)] 3)) wi → IntsV wi (.slice (some ⟨(wr).heap.size, 0, none⟩) 1 1) [(x.gones.length : Int)]) := fun wi h => ints_lit wi (wr).heap.size [(x.gones.length : Int)] (Tw.box h (by decide) HBN3.out) (by simp only [List.mem_cons, List.not_mem_nil, or_false, forall_eq_or_imp, forall_eq]; exact ⟨by omega, by omega⟩) (by simp)
      have HOA3 : Hid (OwnB ((wr).alloc (.cells #[.int .i64 (x.gones.length : Int)] 3)) B _ (L ++ x.mails.flatMap mailBs)) := (show OwnB wr B _ (L ++ x.mails.flatMap mailBs) from HO8.out).alloc _
      have HSZ3 : B ≤ ((wr).alloc (.cells #[.int .i64 (x.gones.length : Int)] 3)).heap.size := by simp; omega
      clear HBN3
      go_wp2_with fail
      refine (putNums_b B _ _ _ [(x.gones.length : Int)] _ HOA3.out HSZ3 HNV3.out (by simp only [List.length_append]; omega) (by simp)).mono ?_
      rintro e w9 ⟨r9, rfl, R9, T9⟩
      have HO9 : Hid (OwnB w9 B r9 (L ++ x.mails.flatMap mailBs ++ numsB [(x.gones.length : Int)] ++ (x.gones.take 0).flatMap goneBs)) := by simpa [Hid] using R9
      have T10 : Hid (Tw B (w.alloc (.cells #[.slice a0 n0 c0, .int .i64 x.valid, .int .i64 x.next, .int .i64 x.seq, .slice a1 x.mails.length c1, .slice a2 x.gones.length c2, .int .i64 x.lost] 49)) w9) := hT.out.trans ((Tw.alloc sr _).trans T9)
      clear R9 T9 hT HO8 f0 f1 f2 f3 f4 f5 f6 hlA hlt hk HE
      generalize hN : L ++ x.mails.flatMap mailBs ++ numsB [(x.gones.length : Int)] = N at HO9
      have hNl : N.length ≤ 110000 := by
        have := nums_len [(x.gones.length : Int)]
        rw [← hN]; simp only [List.length_append]; simp at this; omega
      have HN : Hid (L ++ x.mails.flatMap mailBs ++ numsB [(x.gones.length : Int)] = N) := hN
      clear hN hml hml2 htk sr
      obtain ⟨f0, f1, f2, f3, f4, f5, f6⟩ := bx7 (T10.out.box (by decide) HK.out)
      have hlA := lt_of_heap (T10.out.box (by decide) HK.out)
      go_wp2
      clear f0 f1 f2 f3 f4 f5 f6 hlA
      go_loopw [0, 59] (fun out i wr => ∃ k : Nat, k ≤ x.gones.length ∧ i = .int .i64 k ∧ Hid (OwnB wr B out (N ++ (x.gones.take k).flatMap goneBs)) ∧ Hid (Tw B (w.alloc (.cells #[.slice a0 n0 c0, .int .i64 x.valid, .int .i64 x.next, .int .i64 x.seq, .slice a1 x.mails.length c1, .slice a2 x.gones.length c2, .int .i64 x.lost] 49)) wr)) (fun _ i _ => x.gones.length - (intOf i).toNat)
      case atStart => exact ⟨0, Nat.zero_le _, rfl, HO9, T10⟩
      case round =>
        clear HO9 T10
        obtain ⟨k, hk, rfl, hO, hT⟩ := hrel
        have hml := gones_len (x.gones.take k)
        have htk : (x.gones.take k).length ≤ 40 := by simp; omega
        have sr : B ≤ wr.heap.size := Nat.le_trans s0 hT.out.size
        by_cases hlt : k < x.gones.length
        · obtain ⟨m, hm⟩ : ∃ m, x.gones[k]? = some m := ⟨x.gones[k], List.getElem?_eq_getElem hlt⟩
          obtain ⟨b, off, cap', hv', hlb, d0, d1, j0, j1⟩ := GonesV.cell H0.out.2.2 k m hm
          simp only [Value.slice.injEq, true_and] at hv'
          obtain ⟨rfl, rfl⟩ := hv'
          have hbr : Below wb.heap.size wb wr := by rw [HBB.out]; exact HB.out _ (TA.out.trans hT.out)
          replace d0 := (hbr.cell (p := ⟨b, off + k * 2, none⟩) hlb).trans d0
          replace d1 := (hbr.cell (p := ⟨b, off + k * 2 + 1, none⟩) hlb).trans d1
          replace hlb : b < wr.heap.size := Nat.lt_of_lt_of_le hlb hbr.size
          have HST : Hid ((x.gones.take (k + 1)).flatMap goneBs = (x.gones.take k).flatMap goneBs ++ goneBs m) := flat_step goneBs hm
          obtain ⟨uid, seq⟩ := m
          simp only at d0 d1 j0 j1
          have HM : Hid ((wr.alloc (.cells #[.int .i64 uid, .int .i64 seq] 71)).heap[wr.heap.size]? = some (.cells #[.int .i64 uid, .int .i64 seq] 71)) := box_new wr _
          have sm : B ≤ (wr.alloc (.cells #[.int .i64 uid, .int .i64 seq] 71)).heap.size := by simp; omega
          have TM : Hid (Tw B wr (wr.alloc (.cells #[.int .i64 uid, .int .i64 seq] 71))) := Tw.alloc sr _
          have HOM : Hid (OwnB (wr.alloc (.cells #[.int .i64 uid, .int .i64 seq] 71)) B _ (N ++ (x.gones.take k).flatMap goneBs)) := hO.out.alloc _
          obtain ⟨f0, f1⟩ := bx2 HM.out
          have hlM := lt_of_heap HM.out
          clear hm hbr
          have HBN4 : Hid (((wr.alloc (.cells #[.int .i64 uid, .int .i64 seq] 71)).alloc (.cells #[.int .i64 uid, .int .i64 seq] 3)).heap[(wr.heap.size + 1)]? = some (.cells #[.int .i64 uid, .int .i64 seq] 3)) := by
            have h := box_new (wr.alloc (.cells #[.int .i64 uid, .int .i64 seq] 71)) (.cells #[.int .i64 uid, .int .i64 seq] 3)
            rw [show (wr.alloc (.cells #[.int .i64 uid, .int .i64 seq] 71)).heap.size = (wr.heap.size + 1) by simp] at h
            exact h
          have HNV4 : Hid (∀ wi, Tw B ((wr.alloc (.cells #[.int .i64 uid, .int .i64 seq] 71)).alloc (.cells #[.int .i64 uid, .int .i64 seq] 3)) wi → IntsV wi (.slice (some ⟨(wr.heap.size + 1), 0, none⟩) 2 2) [uid, seq]) := fun wi h => ints_lit wi (wr.heap.size + 1) [uid, seq] (Tw.box h (by decide) HBN4.out) (by simp only [List.mem_cons, List.not_mem_nil, or_false, forall_eq_or_imp, forall_eq]; exact ⟨j0, j1⟩) (by simp)
          have HOA4 : Hid (OwnB ((wr.alloc (.cells #[.int .i64 uid, .int .i64 seq] 71)).alloc (.cells #[.int .i64 uid, .int .i64 seq] 3)) B _ (N ++ (x.gones.take k).flatMap goneBs)) := HOM.out.alloc _
          have HSZ4 : B ≤ ((wr.alloc (.cells #[.int .i64 uid, .int .i64 seq] 71)).alloc (.cells #[.int .i64 uid, .int .i64 seq] 3)).heap.size := by simp; omega
          clear HBN4
          go_wp2_with fail
          refine (putNums_b B _ _ _ [uid, seq] _ HOA4.out HSZ4 HNV4.out (by simp only [List.length_append]; omega) (by simp)).mono ?_
          rintro e w4 ⟨r4, rfl, R4, T4⟩
          have T5 : Hid (Tw B (w.alloc (.cells #[.slice a0 n0 c0, .int .i64 x.valid, .int .i64 x.next, .int .i64 x.seq, .slice a1 x.mails.length c1, .slice (some ⟨b, off, none⟩) x.gones.length c2, .int .i64 x.lost] 49)) w4) := hT.out.trans (TM.out.trans ((Tw.alloc sm _).trans T4))
          have HO4 : Hid (OwnB w4 B r4 (N ++ (x.gones.take (k + 1)).flatMap goneBs)) := by
            have e : N ++ (x.gones.take (k + 1)).flatMap goneBs = N ++ (x.gones.take k).flatMap goneBs ++ numsB [uid, seq] := by rw [HST.out]; simp [goneBs, numsB]
            rw [e]
            exact R4
          clear R4 T4 d0 d1 f0 f1 hlM HOM hO hT TM HM HST
          go_wp2
          go_roundw
          case rel => exact ⟨k + 1, by omega, by go_num, HO4, T5⟩
          case measure => simp [intOf]; omega
        · obtain rfl : k = x.gones.length := by omega
          have HF : Hid (N ++ (x.gones.take x.gones.length).flatMap goneBs = l ++ boxBs x) := by
            rw [Hid, List.take_length, ← HN.out, ← HL.out]
            simp [boxBs, numsB]
          go_wp2
          go_ret
          have hr := hO.out
          rw [HF.out] at hr
          exact ⟨_, rfl, hr, TA.out.trans hT.out⟩

end Go.Proofs.Ytjdcjhboipileab
