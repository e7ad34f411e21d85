/- The proof's texts, part 15. -/
import Derived.Test.YtifpjdpcmfneaaaGreatDoorPart14
import Derived.Test.YtifpjdpcmfneaaaGreatDoorPart4
import Derived.Deep.RegionHeld3
import Derived.Test.YtifpjdpcmfneaaaGreatDoorPart3
import Derived.Test.YtifpjdpcmfneaaaGreatDoorPart1
import Derived.Test.YtifpjdpcmfneaaaGreatDoorPart2

/- What AccountOk of package impl do. -/
namespace Go.Proofs.YtifpjdpcmfneaaaGreatDoor
open Go.RowKit Go.Shelf
set_option maxRecDepth 100000
set_option linter.unusedVariables false

set_option maxRecDepth 100000 in
set_option maxHeartbeats 1000000 in
theorem accountOk1_any (u : Value) (m : BoxD) (bg : Nat) (vd : Int) (w : World) (hu : BoxV w u m) (hc : w.cell? ⟨bg, 1, none⟩ = some (.int .i64 vd)) (hb : bg < w.heap.size) :
    Calls Tryz.prog 90 #[u, .pointer (some ⟨bg, 0, none⟩)] w fun e w' => e = .returned (.bool (decide (m.valid = vd))) ∧ Below w.heap.size w w' := by
  obtain ⟨u0, u1, u2, rfl, g0, g1, g2, -⟩ := hu
  obtain ⟨a0, n0, c0, rfl⟩ := g0.form3
  obtain ⟨a1, c1, rfl, -⟩ := g1.form
  obtain ⟨a2, c2, rfl, -⟩ := g2.form
  clear g0 g1 g2
  obtain ⟨name, valid, next, seq, mails, gones, lost⟩ := m
  simp only
  go_enter Tryz.func90, Tryz.ntmps90
  go_wp2
  go_ret
  exact ⟨ret_b (by rw [Bool.eq_iff_iff]; simp), (Below.refl _ _).alloc (Nat.le_refl _) _⟩

set_option maxRecDepth 100000 in
set_option maxHeartbeats 4000000 in
theorem implAccountOk_any (v : Value) (x : AccD) (w : World) (hv : AccV w v x) :
    Calls Tryz.prog 50 #[v] w fun e w' => e = .returned (.bool (accB x)) ∧ Below w.heap.size w w' := by
  obtain ⟨u0, u1, rfl, g0, g1, i0⟩ := hv
  have H0 : Hid (∀ wi, Below w.heap.size w wi → BoxesV wi u0 x.boxes ∧ IntsV wi u1 x.seen) := fun wi h => ⟨g0.below keepsBox h, g1.below keepsInt h⟩
  obtain ⟨a0, c0, rfl, m0, m1⟩ := g0.form
  obtain ⟨a1, c1, rfl, m2, m3⟩ := g1.form
  clear g0 g1
  have HK : Hid ((w.alloc (.cells #[.int .i64 x.valid, .slice a0 x.boxes.length c0, .slice a1 x.seen.length c1] 37)).heap[w.heap.size]? = some (.cells #[.int .i64 x.valid, .slice a0 x.boxes.length c0, .slice a1 x.seen.length c1] 37)) := box_new w _
  have HX : Hid (Below w.heap.size w (w.alloc (.cells #[.int .i64 x.valid, .slice a0 x.boxes.length c0, .slice a1 x.seen.length c1] 37))) := (Below.refl _ _).alloc (Nat.le_refl _) _
  have HC : Hid (accB x = (inB x.valid 0 1000000 && (decide (x.boxes.length ≤ 4) && (seenB x.seen && (List.range x.boxes.length).all (boxAt x))))) := rfl
  have hy1 := within_any x.valid 0 1000000
  have hy2 := seenOk_any _ x.seen _ (H0.out _ HX.out).2
  generalize inB x.valid 0 1000000 = X1 at HC hy1
  generalize seenB x.seen = X2 at HC hy2
  cases X1 with
  | false =>
    go_enter Tryz.func50, Tryz.ntmps50
    go_wp2_with fail
    refine (hy1 _).mono ?_
    rintro e w' ⟨rfl, rfl⟩
    go_wp2
    go_ret
    exact ⟨ret_b HC.out, HX.out⟩
  | true =>
  rcases Nat.lt_or_ge 4 x.boxes.length with h4 | h4
  · rw [decide_eq_false (Nat.not_le_of_lt h4)] at HC
    have h4' : (4 : Int) < x.boxes.length := by omega
    go_enter Tryz.func50, Tryz.ntmps50
    go_wp2_with fail
    refine (hy1 _).mono ?_
    rintro e w' ⟨rfl, rfl⟩
    go_wp2
    go_ret
    exact ⟨ret_b HC.out, HX.out⟩
  rw [decide_eq_true h4] at HC
  have h4' : (x.boxes.length : Int) ≤ 4 := by omega
  cases X2 with
  | false =>
    go_enter Tryz.func50, Tryz.ntmps50
    go_wp2_with fail
    refine (hy1 _).mono ?_
    rintro e w' ⟨rfl, rfl⟩
    go_wp2_with fail
    refine hy2.mono ?_
    rintro e w' ⟨rfl, rfl⟩
    go_wp2
    go_ret
    exact ⟨ret_b HC.out, HX.out⟩
  | true =>
  have HS : Hid (accB x = (List.range x.boxes.length).all (boxAt x)) := HC.out
  clear HC
  go_enter Tryz.func50, Tryz.ntmps50
  go_wp2_with fail
  refine (hy1 _).mono ?_
  rintro e w' ⟨rfl, rfl⟩
  go_wp2_with fail
  refine hy2.mono ?_
  rintro e w' ⟨rfl, rfl⟩
  clear hy1 hy2
  go_wp2
  go_loopw [3, 4, 5, 25] (fun _ _ _ i wr => ∃ k : Nat, k ≤ x.boxes.length ∧ i = .int .i64 k ∧ Hid (∀ j, j < k → boxAt x j = true) ∧ Hid (wr.heap[w.heap.size]? = some (.cells #[.int .i64 x.valid, .slice a0 x.boxes.length c0, .slice a1 x.seen.length c1] 37)) ∧ Hid (Below w.heap.size w wr)) (fun _ _ _ i _ => x.boxes.length - (intOf i).toNat)
  case atStart => exact ⟨0, Nat.zero_le _, rfl, (fun j hj => absurd hj (Nat.not_lt_zero _)), HK, HX⟩
  case round =>
    obtain ⟨k, hk, rfl, hA, hK, hB⟩ := hrel
    by_cases hlt : k < x.boxes.length
    · obtain ⟨m, hm⟩ : ∃ m, x.boxes[k]? = some m := ⟨x.boxes[k], List.getElem?_eq_getElem hlt⟩
      obtain ⟨b, off, cap', u0, u1, u2, hv', hlb, d0, d1, d2, d3, d4, d5, d6, hu0, hu1, hu2, j0, j1, j2, j3⟩ := BoxesV.cell (H0.out wr hB.out).1 k m hm
      simp only [Value.slice.injEq, true_and] at hv'
      obtain ⟨rfl, rfl⟩ := hv'
      obtain ⟨ua, un, uc, rfl⟩ := hu0.form3
      obtain ⟨va, vc, rfl, -⟩ := hu1.form
      obtain ⟨wa, wc, rfl, -⟩ := hu2.form
      have HBV : Hid (∀ wi, Below wr.heap.size wr wi → BoxV wi (.agg #[.slice ua un uc, .int .i64 m.valid, .int .i64 m.next, .int .i64 m.seq, .slice va m.mails.length vc, .slice wa m.gones.length wc, .int .i64 m.lost]) m) := fun wi h => ⟨_, _, _, rfl, hu0.below h, hu1.below keepsMail h, hu2.below keepsGone h, j0, j1, j2, j3⟩
      have HE : Hid (boxAt x k = (boxB m x.valid && (aheadB x.boxes m k && !((x.boxes.take k).any fun o => decide (o.valid = m.valid))))) := by simp [Hid, boxAt, hm]
      have HKg : Hid ((wr.alloc (.cells #[.slice ua un uc, .int .i64 m.valid, .int .i64 m.next, .int .i64 m.seq, .slice va m.mails.length vc, .slice wa m.gones.length wc, .int .i64 m.lost] 87)).heap[wr.heap.size]? = some (.cells #[.slice ua un uc, .int .i64 m.valid, .int .i64 m.next, .int .i64 m.seq, .slice va m.mails.length vc, .slice wa m.gones.length wc, .int .i64 m.lost] 87)) := box_new wr _
      have HKb : Hid ((wr.alloc (.cells #[.slice ua un uc, .int .i64 m.valid, .int .i64 m.next, .int .i64 m.seq, .slice va m.mails.length vc, .slice wa m.gones.length wc, .int .i64 m.lost] 87)).heap[w.heap.size]? = some (.cells #[.int .i64 x.valid, .slice (some ⟨b, off, none⟩) x.boxes.length c0, .slice a1 x.seen.length c1] 37)) := box_alloc hK.out _
      have HA1 : Hid (Below wr.heap.size wr (wr.alloc (.cells #[.slice ua un uc, .int .i64 m.valid, .int .i64 m.next, .int .i64 m.seq, .slice va m.mails.length vc, .slice wa m.gones.length wc, .int .i64 m.lost] 87))) := (Below.refl _ _).alloc (Nat.le_refl _) _
      have HB1 : Hid (Below w.heap.size w (wr.alloc (.cells #[.slice ua un uc, .int .i64 m.valid, .int .i64 m.next, .int .i64 m.seq, .slice va m.mails.length vc, .slice wa m.gones.length wc, .int .i64 m.lost] 87))) := Below.step hB.out HA1.out
      have HCF : Hid (∀ wi, Below (wr.alloc (.cells #[.slice ua un uc, .int .i64 m.valid, .int .i64 m.next, .int .i64 m.seq, .slice va m.mails.length vc, .slice wa m.gones.length wc, .int .i64 m.lost] 87)).heap.size (wr.alloc (.cells #[.slice ua un uc, .int .i64 m.valid, .int .i64 m.next, .int .i64 m.seq, .slice va m.mails.length vc, .slice wa m.gones.length wc, .int .i64 m.lost] 87)) wi → Calls Tryz.prog 89 #[.slice (some ⟨b, off, none⟩) k c0, .func (.func 90) #[] #[.pointer (some ⟨wr.heap.size, 0, none⟩)]] wi fun e w' => e = .returned (.bool ((x.boxes.take k).any fun o => decide (o.valid = m.valid))) ∧ Below wi.heap.size wi w') := fun wi hbi =>
        containsFuncBox 90 #[.pointer (some ⟨wr.heap.size, 0, none⟩)] (fun o => decide (o.valid = m.valid)) _ (x.boxes.take k) _ (((H0.out _ (Below.step HB1.out hbi)).1).take k hk) (fun args w => by kernel_rfl) (fun wj o u hbj hu => accountOk1_any u o wr.heap.size m.valid wj hu (bx7 (box_below hbj (box_below hbi HKg.out))).2.1 (lt_of_heap (box_below hbj (box_below hbi HKg.out))))
      generalize ((x.boxes.take k).any fun o => decide (o.valid = m.valid)) = X3 at HCF HE
      have HC1 := fun wi (h : BoxV wi (.agg #[.slice ua un uc, .int .i64 m.valid, .int .i64 m.next, .int .i64 m.seq, .slice va m.mails.length vc, .slice wa m.gones.length wc, .int .i64 m.lost]) m) => boxOk_any _ m x.valid wi h
      generalize boxB m x.valid = X1 at HE HC1
      have hK0 := hK.out
      obtain ⟨e0, e1, e2⟩ := bx3 hK0
      have hlA := lt_of_heap hK0
      clear hK0 hm
      have DR : Below (wr.alloc (.cells #[.slice ua un uc, .int .i64 m.valid, .int .i64 m.next, .int .i64 m.seq, .slice va m.mails.length vc, .slice wa m.gones.length wc, .int .i64 m.lost] 87)).heap.size (wr.alloc (.cells #[.slice ua un uc, .int .i64 m.valid, .int .i64 m.next, .int .i64 m.seq, .slice va m.mails.length vc, .slice wa m.gones.length wc, .int .i64 m.lost] 87)) (wr.alloc (.cells #[.slice ua un uc, .int .i64 m.valid, .int .i64 m.next, .int .i64 m.seq, .slice va m.mails.length vc, .slice wa m.gones.length wc, .int .i64 m.lost] 87)).drew := (Below.refl _ _).drew
      have HF : Hid (∀ w', Below (wr.alloc (.cells #[.slice ua un uc, .int .i64 m.valid, .int .i64 m.next, .int .i64 m.seq, .slice va m.mails.length vc, .slice wa m.gones.length wc, .int .i64 m.lost] 87)).heap.size (wr.alloc (.cells #[.slice ua un uc, .int .i64 m.valid, .int .i64 m.next, .int .i64 m.seq, .slice va m.mails.length vc, .slice wa m.gones.length wc, .int .i64 m.lost] 87)) w' → w'.cell? ⟨wr.heap.size, 0, none⟩ = some (.slice ua un uc) ∧ w'.cell? ⟨wr.heap.size, 1, none⟩ = some (.int .i64 m.valid) ∧ w'.cell? ⟨wr.heap.size, 2, none⟩ = some (.int .i64 m.next) ∧ w'.cell? ⟨wr.heap.size, 3, none⟩ = some (.int .i64 m.seq) ∧ w'.cell? ⟨wr.heap.size, 4, none⟩ = some (.slice va m.mails.length vc) ∧ w'.cell? ⟨wr.heap.size, 5, none⟩ = some (.slice wa m.gones.length wc) ∧ w'.cell? ⟨wr.heap.size, 6, none⟩ = some (.int .i64 m.lost) ∧ w'.cell? ⟨w.heap.size, 0, none⟩ = some (.int .i64 x.valid)) := by
        intro w' h
        obtain ⟨r0, r1, r2, r3, r4, r5, r6⟩ := bx7 (box_below h HKg.out)
        exact ⟨r0, r1, r2, r3, r4, r5, r6, (bx3 (box_below h HKb.out)).1⟩
      cases X1 with
      | false =>
        go_wp2
        refine wp_region_held_drew (S := fun w' => w'.cell? ⟨wr.heap.size, 0, none⟩ = some (.slice ua un uc) ∧ w'.cell? ⟨wr.heap.size, 1, none⟩ = some (.int .i64 m.valid) ∧ w'.cell? ⟨wr.heap.size, 2, none⟩ = some (.int .i64 m.next) ∧ w'.cell? ⟨wr.heap.size, 3, none⟩ = some (.int .i64 m.seq) ∧ w'.cell? ⟨wr.heap.size, 4, none⟩ = some (.slice va m.mails.length vc) ∧ w'.cell? ⟨wr.heap.size, 5, none⟩ = some (.slice wa m.gones.length wc) ∧ w'.cell? ⟨wr.heap.size, 6, none⟩ = some (.int .i64 m.lost) ∧ w'.cell? ⟨w.heap.size, 0, none⟩ = some (.int .i64 x.valid)) (by kernel_rfl) (HF.out _ DR) (fun hHeld => (show wpAnyH _ _ _ _ _ 21 #[false, false, false, false, false, false, false, false, false, false, false, false, false, false, false, false, false, false, false, false, false] _ _ from ?_))
        refine tq 0 34 hHeld ?_
        refine tq 1 35 hHeld ?_
        refine tq 2 36 hHeld ?_
        refine wpAnyH_ready (rs := [3]) (by kernel_rfl) (by simp) ?_
        refine AllReadyH.cons rfl (fun K hK => ?_) AllReadyH.nil
        go_simp
        refine (HC1 _ (HBV.out _ (Below.step HA1.out DR))).mono ?_
        rintro e w1 ⟨rfl, B⟩
        refine hK.out _ _ (HF.out _ (Below.step DR B)) (fun hHeld => ?_)
        clear hK K
        refine tq 4 38 hHeld ?_
        refine tq 5 39 hHeld ?_
        refine wpAnyH_skips (by kernel_rfl) (fun _ _ _ _ _ h => h) hHeld [6, 7, 8, 9, 10, 11, 12, 13, 14, 15, 16, 17, 18, 19] [40, 41, 42, 43, 44, 45, 46, 47, 48, 49, 50, 51, 52, 53] _ _ _ (by kernel_rfl) ?_
        simp only [List.foldl_cons, List.foldl_nil, Act.put, sA, s0, sS]
        refine tq 20 54 hHeld ?_
        refine wpAnyH_done (by kernel_rfl) ?_ _
        clear HC1 HCF HF HBV HKg HKb HA1
        repeat clear hHeld
        go_wp2
        go_ret
        exact ⟨ret_b (by rw [HS.out]; exact rangeAll_no k hlt HE.out), Below.step (Below.step HB1.out DR) B⟩
      | true =>
        by_cases hkz : (0 : Int) < (k : Int)
        rotate_left
        · have HAH : Hid (aheadB x.boxes m k = true) := by have : k = 0 := by omega
                                                           subst this; rfl
          rw [HAH.out, Bool.true_and, Bool.true_and] at HE
          clear HAH
          have hkN : ¬ 0 < k := by omega
          have hd : decide (0 < k) = false := by simpa using hkN
          go_wp2
          refine wp_region_held_drew (S := fun w' => w'.cell? ⟨wr.heap.size, 0, none⟩ = some (.slice ua un uc) ∧ w'.cell? ⟨wr.heap.size, 1, none⟩ = some (.int .i64 m.valid) ∧ w'.cell? ⟨wr.heap.size, 2, none⟩ = some (.int .i64 m.next) ∧ w'.cell? ⟨wr.heap.size, 3, none⟩ = some (.int .i64 m.seq) ∧ w'.cell? ⟨wr.heap.size, 4, none⟩ = some (.slice va m.mails.length vc) ∧ w'.cell? ⟨wr.heap.size, 5, none⟩ = some (.slice wa m.gones.length wc) ∧ w'.cell? ⟨wr.heap.size, 6, none⟩ = some (.int .i64 m.lost) ∧ w'.cell? ⟨w.heap.size, 0, none⟩ = some (.int .i64 x.valid)) (by kernel_rfl) (HF.out _ DR) (fun hHeld => (show wpAnyH _ _ _ _ _ 21 #[false, false, false, false, false, false, false, false, false, false, false, false, false, false, false, false, false, false, false, false, false] _ _ from ?_))
          refine tq 0 34 hHeld ?_
          refine tq 1 35 hHeld ?_
          refine tq 2 36 hHeld ?_
          refine wpAnyH_ready (rs := [3]) (by kernel_rfl) (by simp) ?_
          refine AllReadyH.cons rfl (fun K hK => ?_) AllReadyH.nil
          go_simp
          refine (HC1 _ (HBV.out _ (Below.step HA1.out DR))).mono ?_
          rintro e w1 ⟨rfl, B⟩
          refine hK.out _ _ (HF.out _ (Below.step DR B)) (fun hHeld => ?_)
          clear hK K
          refine tq 4 38 hHeld ?_
          refine tq 5 39 hHeld ?_
          refine tq 6 40 hHeld ?_
          refine tq 7 41 hHeld ?_
          refine tq 8 42 hHeld ?_
          refine wpAnyH_skips (by kernel_rfl) (fun _ _ _ _ _ h => h) hHeld [9, 10, 11, 12, 13, 14, 15, 16, 17, 18] [43, 44, 45, 46, 47, 48, 49, 50, 51, 52] _ _ _ (by kernel_rfl) ?_
          simp only [List.foldl_cons, List.foldl_nil, Act.put, sA, s0, sS]
          refine tq 19 53 hHeld ?_
          refine tq 20 54 hHeld ?_
          refine wpAnyH_done (by kernel_rfl) ?_ _
          repeat clear hHeld
          have c3' := HCF.out w1 (Below.step DR B)
          have HB2 : Hid (Below w.heap.size w w1) := Below.step (Below.step HB1.out DR) B
          have HKb2 : Hid (w1.heap[w.heap.size]? = some (.cells #[.int .i64 x.valid, .slice (some ⟨b, off, none⟩) x.boxes.length c0, .slice a1 x.seen.length c1] 37)) := box_below B (box_below DR HKb.out)
          clear B DR HB1 HKb HA1 HC1 HF HCF
          cases X3 with
          | true =>
            go_wp2_with fail
            refine c3'.mono ?_
            rintro e w3 ⟨rfl, B⟩
            go_wp2
            go_ret
            exact ⟨ret_b (by rw [HS.out]; exact rangeAll_no k hlt HE.out), Below.step HB2.out B⟩
          | false =>
            go_wp2_with fail
            refine c3'.mono ?_
            rintro e w3 ⟨rfl, B⟩
            have HB3 : Hid (Below w.heap.size w w3) := Below.step HB2.out B
            have HKb3 : Hid (w3.heap[w.heap.size]? = some (.cells #[.int .i64 x.valid, .slice (some ⟨b, off, none⟩) x.boxes.length c0, .slice a1 x.seen.length c1] 37)) := box_below B HKb2.out
            clear B HB2 HKb2
            go_wp2
            go_roundw
            case rel =>
              refine ⟨k + 1, by omega, by go_num, (show Hid _ from fun i hi => ?_), HKb3, HB3⟩
              by_cases e : i = k
              · subst e; exact HE.out
              · exact hA.out i (by omega)
            case measure => simp [intOf]; omega
        · obtain ⟨j, hj⟩ : ∃ j, k = j + 1 := ⟨k - 1, by omega⟩
          have hjk : (j : Int) < (k : Int) := by omega
          have hkN : 0 < k := by omega
          have hd : decide (0 < k) = true := by simpa using hkN
          have hj0 : (0 : Int) ≤ (j : Int) := by omega
          have hw1 : IntKind.i64.wrap ((k : Int) - 1) = (j : Int) := by rw [IntWalk.i64_in _ (by omega)]; omega
          have HJ : Hid (k = j + 1) := hj
          clear hj
          obtain ⟨m', hm'⟩ : ∃ m', x.boxes[j]? = some m' := ⟨x.boxes[j]'(by have := HJ.out; omega), List.getElem?_eq_getElem (by have := HJ.out; omega)⟩
          obtain ⟨b2, off2, cap2, p0, q1, q2, hv2, hlb2, t0, -, -, -, -, -, -, hp0, -⟩ := BoxesV.cell (H0.out wr hB.out).1 j m' hm'
          simp only [Value.slice.injEq, true_and, Option.some.injEq, Addr.mk.injEq, and_true] at hv2
          obtain ⟨⟨rfl, rfl⟩, rfl⟩ := hv2
          obtain ⟨pa, pn, pc, rfl⟩ := hp0.form3
          have HAH : Hid (aheadB x.boxes m k = lessB m'.name m.name) := by rw [HJ.out]; simp [Hid, aheadB, nameAt, hm']
          rw [HAH.out] at HE
          have HCM : Hid (∀ wi, Below wr.heap.size wr wi → Calls Tryz.prog 88 #[.slice pa pn pc, .slice ua un uc] wi fun e w' => e = .returned (.int .i64 (Lib.compareBytes (bts m'.name) (bts m.name))) ∧ w' = wi) := fun wi h => compare_any _ _ m'.name m.name wi (hp0.below h) (hu0.below h)
          have HLC : Hid (lessB m'.name m.name = !decide (0 ≤ Lib.compareBytes (bts m'.name) (bts m.name))) := by simp only [Hid]; rw [less_cmp]; simp [lessB]
          generalize Lib.compareBytes (bts m'.name) (bts m.name) = cv at HCM HLC
          generalize lessB m'.name m.name = L at HE HLC
          have HF2 : Hid (∀ w', Below (wr.alloc (.cells #[.slice ua un uc, .int .i64 m.valid, .int .i64 m.next, .int .i64 m.seq, .slice va m.mails.length vc, .slice wa m.gones.length wc, .int .i64 m.lost] 87)).heap.size (wr.alloc (.cells #[.slice ua un uc, .int .i64 m.valid, .int .i64 m.next, .int .i64 m.seq, .slice va m.mails.length vc, .slice wa m.gones.length wc, .int .i64 m.lost] 87)) w' → (w'.cell? ⟨wr.heap.size, 0, none⟩ = some (.slice ua un uc) ∧ w'.cell? ⟨wr.heap.size, 1, none⟩ = some (.int .i64 m.valid) ∧ w'.cell? ⟨wr.heap.size, 2, none⟩ = some (.int .i64 m.next) ∧ w'.cell? ⟨wr.heap.size, 3, none⟩ = some (.int .i64 m.seq) ∧ w'.cell? ⟨wr.heap.size, 4, none⟩ = some (.slice va m.mails.length vc) ∧ w'.cell? ⟨wr.heap.size, 5, none⟩ = some (.slice wa m.gones.length wc) ∧ w'.cell? ⟨wr.heap.size, 6, none⟩ = some (.int .i64 m.lost) ∧ w'.cell? ⟨w.heap.size, 0, none⟩ = some (.int .i64 x.valid)) ∧ w'.cell? ⟨b, off + j * 7, none⟩ = some (.slice pa pn pc)) := by
            intro w' h
            exact ⟨HF.out w' h, ((Below.step HA1.out h).cell (p := ⟨b, off + j * 7, none⟩) hlb).trans t0⟩
          clear hm' HAH
          by_cases hcv : 0 ≤ cv
          · have HL : Hid (L = false) := by rw [Hid, HLC.out, decide_eq_true hcv]; rfl
            clear HLC
            go_wp2
            refine wp_region_held_drew (S := fun w' => (w'.cell? ⟨wr.heap.size, 0, none⟩ = some (.slice ua un uc) ∧ w'.cell? ⟨wr.heap.size, 1, none⟩ = some (.int .i64 m.valid) ∧ w'.cell? ⟨wr.heap.size, 2, none⟩ = some (.int .i64 m.next) ∧ w'.cell? ⟨wr.heap.size, 3, none⟩ = some (.int .i64 m.seq) ∧ w'.cell? ⟨wr.heap.size, 4, none⟩ = some (.slice va m.mails.length vc) ∧ w'.cell? ⟨wr.heap.size, 5, none⟩ = some (.slice wa m.gones.length wc) ∧ w'.cell? ⟨wr.heap.size, 6, none⟩ = some (.int .i64 m.lost) ∧ w'.cell? ⟨w.heap.size, 0, none⟩ = some (.int .i64 x.valid)) ∧ w'.cell? ⟨b, off + j * 7, none⟩ = some (.slice pa pn pc)) (by kernel_rfl) (HF2.out _ DR) (fun hHeld => (show wpAnyH _ _ _ _ _ 21 #[false, false, false, false, false, false, false, false, false, false, false, false, false, false, false, false, false, false, false, false, false] _ _ from ?_))
            refine tq 0 34 hHeld ?_
            refine tq 1 35 hHeld ?_
            refine tq 2 36 hHeld ?_
            refine wpAnyH_ready (rs := [3]) (by kernel_rfl) (by simp) ?_
            refine AllReadyH.cons rfl (fun K hK => ?_) AllReadyH.nil
            go_simp
            refine (HC1 _ (HBV.out _ (Below.step HA1.out DR))).mono ?_
            rintro e w1 ⟨rfl, B⟩
            refine hK.out _ _ (HF2.out _ (Below.step DR B)) (fun hHeld => ?_)
            clear hK K
            refine tq 4 38 hHeld ?_
            refine tq 5 39 hHeld ?_
            refine tq 6 40 hHeld ?_
            refine tq 7 41 hHeld ?_
            refine tq 8 42 hHeld ?_
            refine tq 9 43 hHeld ?_
            refine tq 10 44 hHeld ?_
            refine tq 11 45 hHeld ?_
            refine tq 12 46 hHeld ?_
            refine tq 13 47 hHeld ?_
            refine tq 14 48 hHeld ?_
            refine tq 15 49 hHeld ?_
            refine tq 16 50 hHeld ?_
            refine wpAnyH_ready (rs := [17]) (by kernel_rfl) (by simp) ?_
            refine AllReadyH.cons rfl (fun K hK => ?_) AllReadyH.nil
            go_simp
            refine (HCM.out _ (Below.step (Below.step HA1.out DR) B)).mono ?_
            rintro e w2 ⟨rfl, rfl⟩
            refine hK.out _ _ (HF2.out _ (Below.step DR B)) (fun hHeld => ?_)
            clear hK K
            refine tq 18 52 hHeld ?_
            refine tq 19 53 hHeld ?_
            refine tq 20 54 hHeld ?_
            refine wpAnyH_done (by kernel_rfl) ?_ _
            clear HC1 HCF HF HBV HKg HKb HA1 HF2 HCM
            repeat clear hHeld
            go_wp2
            go_ret
            exact ⟨ret_b (by rw [HS.out]; exact rangeAll_no k hlt (by rw [HE.out, HL.out]; rfl)), Below.step (Below.step HB1.out DR) B⟩
          · have HL : Hid (L = true) := by rw [Hid, HLC.out, decide_eq_false hcv]; rfl
            rw [HL.out, Bool.true_and, Bool.true_and] at HE
            clear HLC
            go_wp2
            refine wp_region_held_drew (S := fun w' => (w'.cell? ⟨wr.heap.size, 0, none⟩ = some (.slice ua un uc) ∧ w'.cell? ⟨wr.heap.size, 1, none⟩ = some (.int .i64 m.valid) ∧ w'.cell? ⟨wr.heap.size, 2, none⟩ = some (.int .i64 m.next) ∧ w'.cell? ⟨wr.heap.size, 3, none⟩ = some (.int .i64 m.seq) ∧ w'.cell? ⟨wr.heap.size, 4, none⟩ = some (.slice va m.mails.length vc) ∧ w'.cell? ⟨wr.heap.size, 5, none⟩ = some (.slice wa m.gones.length wc) ∧ w'.cell? ⟨wr.heap.size, 6, none⟩ = some (.int .i64 m.lost) ∧ w'.cell? ⟨w.heap.size, 0, none⟩ = some (.int .i64 x.valid)) ∧ w'.cell? ⟨b, off + j * 7, none⟩ = some (.slice pa pn pc)) (by kernel_rfl) (HF2.out _ DR) (fun hHeld => (show wpAnyH _ _ _ _ _ 21 #[false, false, false, false, false, false, false, false, false, false, false, false, false, false, false, false, false, false, false, false, false] _ _ from ?_))
            refine tq 0 34 hHeld ?_
            refine tq 1 35 hHeld ?_
            refine tq 2 36 hHeld ?_
            refine wpAnyH_ready (rs := [3]) (by kernel_rfl) (by simp) ?_
            refine AllReadyH.cons rfl (fun K hK => ?_) AllReadyH.nil
            go_simp
            refine (HC1 _ (HBV.out _ (Below.step HA1.out DR))).mono ?_
            rintro e w1 ⟨rfl, B⟩
            refine hK.out _ _ (HF2.out _ (Below.step DR B)) (fun hHeld => ?_)
            clear hK K
            refine tq 4 38 hHeld ?_
            refine tq 5 39 hHeld ?_
            refine tq 6 40 hHeld ?_
            refine tq 7 41 hHeld ?_
            refine tq 8 42 hHeld ?_
            refine tq 9 43 hHeld ?_
            refine tq 10 44 hHeld ?_
            refine tq 11 45 hHeld ?_
            refine tq 12 46 hHeld ?_
            refine tq 13 47 hHeld ?_
            refine tq 14 48 hHeld ?_
            refine tq 15 49 hHeld ?_
            refine tq 16 50 hHeld ?_
            refine wpAnyH_ready (rs := [17]) (by kernel_rfl) (by simp) ?_
            refine AllReadyH.cons rfl (fun K hK => ?_) AllReadyH.nil
            go_simp
            refine (HCM.out _ (Below.step (Below.step HA1.out DR) B)).mono ?_
            rintro e w2 ⟨rfl, rfl⟩
            refine hK.out _ _ (HF2.out _ (Below.step DR B)) (fun hHeld => ?_)
            clear hK K
            refine tq 18 52 hHeld ?_
            refine tq 19 53 hHeld ?_
            refine tq 20 54 hHeld ?_
            refine wpAnyH_done (by kernel_rfl) ?_ _
            repeat clear hHeld
            clear HF2 HCM
            have c3' := HCF.out w2 (Below.step DR B)
            have HB2 : Hid (Below w.heap.size w w2) := Below.step (Below.step HB1.out DR) B
            have HKb2 : Hid (w2.heap[w.heap.size]? = some (.cells #[.int .i64 x.valid, .slice (some ⟨b, off, none⟩) x.boxes.length c0, .slice a1 x.seen.length c1] 37)) := box_below B (box_below DR HKb.out)
            clear B DR HB1 HKb HA1 HC1 HF HCF
            cases X3 with
            | true =>
              go_wp2_with fail
              refine c3'.mono ?_
              rintro e w3 ⟨rfl, B⟩
              go_wp2
              go_ret
              exact ⟨ret_b (by rw [HS.out]; exact rangeAll_no k hlt HE.out), Below.step HB2.out B⟩
            | false =>
              go_wp2_with fail
              refine c3'.mono ?_
              rintro e w3 ⟨rfl, B⟩
              have HB3 : Hid (Below w.heap.size w w3) := Below.step HB2.out B
              have HKb3 : Hid (w3.heap[w.heap.size]? = some (.cells #[.int .i64 x.valid, .slice (some ⟨b, off, none⟩) x.boxes.length c0, .slice a1 x.seen.length c1] 37)) := box_below B HKb2.out
              clear B HB2 HKb2
              go_wp2
              go_roundw
              case rel =>
                refine ⟨k + 1, by omega, by go_num, (show Hid _ from fun i hi => ?_), HKb3, HB3⟩
                by_cases e : i = k
                · subst e; exact HE.out
                · exact hA.out i (by omega)
              case measure => simp [intOf]; omega
    · obtain rfl : k = x.boxes.length := by omega
      go_wp2
      go_ret
      exact ⟨ret_b (by rw [HS.out]; exact rangeAll_yes hA.out), hB.out⟩

end Go.Proofs.YtifpjdpcmfneaaaGreatDoor

/- What numLimits, cmdWanted, accountWanted, RecordOk of package impl do. -/
namespace Go.Proofs.YtifpjdpcmfneaaaGreatDoor
open Go.RowKit
set_option maxRecDepth 100000
set_option linter.unusedVariables false
set_option linter.unusedSimpArgs false

theorem numLimits_any (k : Int) (w : World) :
    Calls Tryz.prog 43 #[.int .i64 k] w fun e w' => e = .returned (.tuple #[.int .i64 (lowN k), .int .i64 (highN k)]) ∧ w' = w := by
  by_cases h0 : k = 0
  · subst h0
    go_enter Tryz.func43, Tryz.ntmps43
    go_wp2
    exact bodyPost_ret (v := .tuple #[.int .i64 1, .int .i64 1000000]) (by simp [results, Tryz.results43, go_sem]) rfl ⟨rfl, rfl⟩
  by_cases h6 : k = 6
  · subst h6
    go_enter Tryz.func43, Tryz.ntmps43
    go_wp2
    exact bodyPost_ret (v := .tuple #[.int .i64 0, .int .i64 2]) (by simp [results, Tryz.results43, go_sem]) rfl ⟨rfl, rfl⟩
  by_cases h7 : k = 7
  · subst h7
    go_enter Tryz.func43, Tryz.ntmps43
    go_wp2
    exact bodyPost_ret (v := .tuple #[.int .i64 0, .int .i64 0]) (by simp [results, Tryz.results43, go_sem]) rfl ⟨rfl, rfl⟩
  by_cases h8 : k = 8
  · subst h8
    go_enter Tryz.func43, Tryz.ntmps43
    go_wp2
    exact bodyPost_ret (v := .tuple #[.int .i64 0, .int .i64 0]) (by simp [results, Tryz.results43, go_sem]) rfl ⟨rfl, rfl⟩
  have HL : Hid (lowN k = 0 ∧ highN k = 1000000) := by simp [Hid, lowN, highN, h0, h6, h7, h8]
  have e0 : (k == 0) = false := by simp [h0]
  have e6 : (k == 6) = false := by simp [h6]
  have e7 : (k == 7) = false := by simp [h7]
  have e8 : (k == 8) = false := by simp [h8]
  go_enter Tryz.func43, Tryz.ntmps43
  go_wp2
  exact bodyPost_ret (v := .tuple #[.int .i64 0, .int .i64 1000000]) (by simp [results, Tryz.results43, go_sem]) rfl ⟨by rw [HL.out.1, HL.out.2], rfl⟩

set_option maxHeartbeats 1000000 in
theorem cmdWanted_zero (k : Int) (a0 a1 a2 : Option Addr) (nb nt nx c0 c1 c2 : Nat) (uid mode fl si : Int) (w : World) :
    Calls Tryz.prog 44 #[.bool false, .agg #[.int .i64 k, .slice a0 nb c0, .slice a1 nt c1, .int .i64 uid, .int .i64 mode, .int .i64 fl, .int .i64 si, .slice a2 nx c2]] w fun e w' => e = .returned (.bool (zC k nb nt uid mode fl si nx)) ∧ Below w.heap.size w w' := by
  have HX : Hid (∀ o, Below w.heap.size w (w.alloc o)) := fun o => (Below.refl _ _).alloc (Nat.le_refl _) o
  go_enter Tryz.func44, Tryz.ntmps44
  go_wp2
  all_goals (go_ret; refine ⟨ret_b ?_, HX.out _⟩; clear HX; unfold zC; (try simp only [beq_iff_eq, beq_eq_false_iff_ne, ne_eq] at *); rw [Bool.eq_iff_iff]; simp; omega)
theorem cmdWanted_any (b : Bool) (v : Value) (c : CmdD) (w : World) (hv : CmdV w v c.k c.bx c.tt c.uid c.mode c.fl c.si c.tx) :
    Calls Tryz.prog 44 #[.bool b, v] w fun e w' => e = .returned (.bool (bif b then cmdD c else zeroC c)) ∧ Below w.heap.size w w' := by
  have H0 : Hid (∀ wi, Below w.heap.size w wi → CmdV wi v c.k c.bx c.tt c.uid c.mode c.fl c.si c.tx) := fun wi h => hv.below h
  obtain ⟨u0, u1, u2, rfl, g0, g1, g2, -⟩ := hv
  obtain ⟨a0, c0, rfl⟩ := g0.form
  obtain ⟨a1, c1, rfl⟩ := g1.form
  obtain ⟨a2, c2, rfl⟩ := g2.form
  clear g0 g1 g2
  cases b with
  | false => exact cmdWanted_zero _ _ _ _ _ _ _ _ _ _ _ _ _ _ w
  | true =>
    have ab : ∀ o, Below w.heap.size w (w.alloc o) := fun o => (Below.refl _ _).alloc (Nat.le_refl _) o
    go_enter Tryz.func44, Tryz.ntmps44
    go_wp2_with fail
    refine (implCmdOk_any _ c.k c.bx c.tt c.uid c.mode c.fl c.si c.tx _ (H0.out _ (ab _))).mono ?_
    rintro e w1 ⟨rfl, B⟩
    replace B := Below.step (ab _) B
    clear ab H0
    go_wp2
    go_ret
    exact ⟨rfl, B⟩
set_option maxHeartbeats 1000000 in
theorem accountWanted_zero (k : Int) (a0 a1 : Option Addr) (nb nt c0 c1 : Nat) (w : World) :
    Calls Tryz.prog 45 #[.bool false, .agg #[.int .i64 k, .slice a0 nb c0, .slice a1 nt c1]] w fun e w' => e = .returned (.bool (zA k nb nt)) ∧ Below w.heap.size w w' := by
  have HX : Hid (∀ o, Below w.heap.size w (w.alloc o)) := fun o => (Below.refl _ _).alloc (Nat.le_refl _) o
  go_enter Tryz.func45, Tryz.ntmps45
  go_wp2
  all_goals (go_ret; refine ⟨ret_b ?_, HX.out _⟩; clear HX; unfold zA; (try simp only [beq_iff_eq, beq_eq_false_iff_ne, ne_eq] at *); rw [Bool.eq_iff_iff]; simp; omega)
theorem accountWanted_any (b : Bool) (v : Value) (a : AccD) (w : World) (hv : AccV w v a) :
    Calls Tryz.prog 45 #[.bool b, v] w fun e w' => e = .returned (.bool (bif b then accB a else zeroA a)) ∧ Below w.heap.size w w' := by
  have H0 : Hid (∀ wi, Below w.heap.size w wi → AccV wi v a) := fun wi h => hv.below h
  obtain ⟨u0, u1, rfl, g0, g1, -⟩ := hv
  obtain ⟨a0, c0, rfl, -⟩ := g0.form
  obtain ⟨a1, c1, rfl, -⟩ := g1.form
  clear g0 g1
  cases b with
  | false => exact accountWanted_zero _ _ _ _ _ _ _ w
  | true =>
    have ab : ∀ o, Below w.heap.size w (w.alloc o) := fun o => (Below.refl _ _).alloc (Nat.le_refl _) o
    go_enter Tryz.func45, Tryz.ntmps45
    go_wp2_with fail
    refine (implAccountOk_any _ a _ (H0.out _ (ab _))).mono ?_
    rintro e w1 ⟨rfl, B⟩
    replace B := Below.step (ab _) B
    clear ab H0
    go_wp2
    go_ret
    exact ⟨rfl, B⟩

set_option maxRecDepth 100000 in
set_option maxHeartbeats 2000000 in
theorem implRecordOk_gen (K U N L M : Int) (b0 b3 : Bool) (hb0 : (K == 0) = b0) (hb3 : (K == 3) = b3) (hd0 : decide (K = 0) = b0) (hd3 : decide (K = 3) = b3) (k : Int) (a0 a1 a2 a3 a4 : Option Addr) (nb nt nx mb ms c0 c1 c2 c3 c4 : Nat) (uid mode fl si valid : Int) (w : World) (c X0 X1 X2 X3 X4 : Bool)
    (h0 : ∀ w, Calls Tryz.prog 42 #[.int .i64 K, .int .i64 0, .int .i64 8] w fun e w' => e = .returned (.bool X0) ∧ w' = w)
    (h1 : ∀ w, Calls Tryz.prog 42 #[.int .i64 U, .int .i64 0, .int .i64 2] w fun e w' => e = .returned (.bool X1) ∧ w' = w)
    (hl : ∀ w, Calls Tryz.prog 43 #[.int .i64 K] w fun e w' => e = .returned (.tuple #[.int .i64 L, .int .i64 M]) ∧ w' = w)
    (h2 : ∀ w, Calls Tryz.prog 42 #[.int .i64 N, .int .i64 L, .int .i64 M] w fun e w' => e = .returned (.bool X2) ∧ w' = w)
    (h3 : Hid (∀ wi, Below w.heap.size w wi → Calls Tryz.prog 44 #[.bool b0, .agg #[.int .i64 k, .slice a0 nb c0, .slice a1 nt c1, .int .i64 uid, .int .i64 mode, .int .i64 fl, .int .i64 si, .slice a2 nx c2]] wi fun e w' => e = .returned (.bool X3) ∧ Below wi.heap.size wi w'))
    (h4 : Hid (∀ wi, Below w.heap.size w wi → Calls Tryz.prog 45 #[.bool b3, .agg #[.int .i64 valid, .slice a3 mb c3, .slice a4 ms c4]] wi fun e w' => e = .returned (.bool X4) ∧ Below wi.heap.size wi w'))
    (HC : Hid (c = (X0 && (X1 && (X2 && (X3 && X4)))))) :
    Calls Tryz.prog 19 #[.agg #[.int .i64 K, .int .i64 U, .int .i64 N, .int .i64 k, .slice a0 nb c0, .slice a1 nt c1, .int .i64 uid, .int .i64 mode, .int .i64 fl, .int .i64 si, .slice a2 nx c2, .int .i64 valid, .slice a3 mb c3, .slice a4 ms c4]] w fun e w' => e = .returned (.bool c) ∧ Below w.heap.size w w' := by
  have HX : Hid (∀ o, Below w.heap.size w (w.alloc o)) := fun o => (Below.refl _ _).alloc (Nat.le_refl _) o
  have kA := box_new w (.cells #[.int .i64 K, .int .i64 U, .int .i64 N, .int .i64 k, .slice a0 nb c0, .slice a1 nt c1, .int .i64 uid, .int .i64 mode, .int .i64 fl, .int .i64 si, .slice a2 nx c2, .int .i64 valid, .slice a3 mb c3, .slice a4 ms c4] 39)
  go_enter Tryz.func19, Tryz.ntmps19
  go_wp2_with fail
  refine (h0 _).mono ?_
  rintro e w' ⟨rfl, rfl⟩
  clear h0
  cases X0 with
  | false =>
    go_wp2
    go_ret
    exact ⟨ret_b HC.out, HX.out _⟩
  | true =>
  go_wp2_with fail
  refine (h1 _).mono ?_
  rintro e w' ⟨rfl, rfl⟩
  clear h1
  cases X1 with
  | false =>
    go_wp2
    go_ret
    exact ⟨ret_b HC.out, HX.out _⟩
  | true =>
  go_wp2_with fail
  refine (hl _).mono ?_
  rintro e w' ⟨rfl, rfl⟩
  clear hl
  go_wp2_with fail
  refine (h2 _).mono ?_
  rintro e w' ⟨rfl, rfl⟩
  clear h2
  cases X2 with
  | false =>
    go_wp2
    go_ret
    exact ⟨ret_b HC.out, HX.out _⟩
  | true =>
  go_wp2_with fail
  (try rw [hb0])
  (try rw [hd0])
  refine (h3.out _ (HX.out _)).mono ?_
  rintro e w1 ⟨rfl, B⟩
  have X := Below.step (HX.out _) B
  replace kA := box_below B kA
  clear B h3 HX
  obtain ⟨f0, f1, f2, f3, f4, f5, f6, f7, f8, f9, f10, f11, f12, f13⟩ := bx14 kA
  have hlt := lt_of_heap kA
  cases X3 with
  | false =>
    go_wp2
    go_ret
    exact ⟨ret_b HC.out, X⟩
  | true =>
  go_wp2_with fail
  (try rw [hb3])
  (try rw [hd3])
  refine (h4.out _ X).mono ?_
  rintro e w2 ⟨rfl, B⟩
  replace X := Below.step X B
  clear B h4 f0 f1 f2 f3 f4 f5 f6 f7 f8 f9 f10 f11 f12 f13 hlt kA
  go_wp2
  go_ret
  exact ⟨ret_b HC.out, X⟩
theorem implRecordOk_any (v : Value) (r : RecD) (w : World) (hv : RecV w v r) :
    Calls Tryz.prog 19 #[v] w fun e w' => e = .returned (.bool (recB r)) ∧ Below w.heap.size w w' := by
  have H0 : Hid (∀ wi, Below w.heap.size w wi → RecV wi v r) := fun wi h => hv.below h
  obtain ⟨a0, n0, c0, a1, n1, c1, a2, n2, c2, a3, c3, a4, c4, rfl⟩ := hv.form
  clear hv
  have e0 : (r.kind == 0) = decide (r.kind = 0) := by rw [Bool.eq_iff_iff]; simp
  have e3 : (r.kind == 3) = decide (r.kind = 3) := by rw [Bool.eq_iff_iff]; simp
  exact implRecordOk_gen r.kind r.user r.n _ _ _ _ e0 e3 rfl rfl _ _ _ _ _ _ _ _ _ _ _ _ _ _ _ _ _ _ _ _ _ w _ _ _ _ _ _ (within_any _ _ _) (within_any _ _ _) (numLimits_any _) (within_any _ _ _)
    (fun wi h => cmdWanted_any _ _ r.cmd wi (H0.out wi h).parts.1) (fun wi h => accountWanted_any _ _ r.acc wi (H0.out wi h).parts.2.1) rfl

end Go.Proofs.YtifpjdpcmfneaaaGreatDoor

/- What joined of package impl does. -/
namespace Go.Proofs.YtifpjdpcmfneaaaGreatDoor
open Go.RowKit
set_option maxRecDepth 100000

set_option maxHeartbeats 400000 in
theorem joined_any (v u : Value) (l m : List Int) (w : World) (hv : Bs w v l) (hu : Bs w u m) (hl : l.length ≤ 4000000) (hm : m.length ≤ 4000000) :
    Calls Tryz.prog 23 #[v, u] w fun e w' => ∃ r, e = .returned r ∧ OwnB w' w.heap.size r (l ++ m) ∧ Below w.heap.size w w' := by
  have HV : Hid (Bs w v l) := hv
  have HU : Hid (Bs w u m) := hu
  obtain ⟨ho, a, cap, rfl, -⟩ := hv
  obtain ⟨ho', a', cap', rfl, -⟩ := hu
  obtain ⟨i0, hi, hz0, hz1, hz2⟩ := info_parts info5
  go_enter Tryz.func23, Tryz.ntmps23
  go_wp2_with (at_make; refine wpList_make_full _ rfl _ _ 22 rfl w.heap.size 5 i0 (.int .u8 0) 1 Tryz.underlying22 hi hz0 hz1 _ _ _ _ (l.length + m.length) rfl rfl (by omega) (by omega) (by rw [hz2]; omega) (by unfold maxLen; omega) (Nat.le_refl _) ?_)
  intro w1 hown hgrow
  have hB1 := (Below.refl w.heap.size w).grown hgrow (Nat.le_refl _) (by simp)
  have HR1 : Hid (w1.heap[w.heap.size]? = some (.cells (vals (List.replicate (l.length + m.length) 0)).toArray 5 (0, 0))) := by
    have := made_heap hown
    simpa [Hid, vals] using this
  clear hown hgrow
  go_wp2_with (refine wpList_copy_bytes rfl (.tmp 12) (.tmp 13) 22 22 rfl Tryz.underlying22 sz5 _ _ _ rfl _ l rfl (HV.out.below hB1) l.length (Nat.min_eq_left (Nat.le_add_right _ _)).symm w.heap.size 0 _ HR1.out (fun _ => rfl) (by simp) w.heap.size w hB1 (Nat.le_refl _) ?_)
  intro w2 HR2 hB2
  have hlen : (splice (List.replicate (l.length + m.length) (0 : Int)) 0 l).length = l.length + m.length := by rw [length_splice _ _ _ (by simp)]; simp
  have HL : Hid ((splice (List.replicate (l.length + m.length) (0 : Int)) 0 l).length = l.length + m.length) := hlen
  clear hlen
  have HE : Hid (splice (splice (List.replicate (l.length + m.length) (0 : Int)) 0 l) l.length m = l ++ m) := splice_two _ _ _ (by simp)
  by_cases hm0 : m = []
  · subst hm0
    go_wp2_with (refine wpList_copy_bytes rfl (.tmp 18) (.tmp 19) 22 22 rfl Tryz.underlying22 sz5 _ _ _ rfl _ [] rfl (HU.out.below hB2) 0 (Nat.min_eq_left (Nat.zero_le _)).symm w.heap.size l.length _ HR2.out (fun h => absurd h (by omega)) (by rw [HL.out]; omega) w.heap.size w hB2 (Nat.le_refl _) ?_)
    intro w3 HR3 hB3
    have HR4 : Hid (w3.heap[w.heap.size]? = some (.cells (vals (l ++ [])).toArray 5 (0, 0))) := by
      rw [← HE.out]; simpa using HR3
    clear HR3
    go_wp2
    go_ret
    have := own_made (oct_append ho ho') (by simp [maxLen]; omega) HR4.out
    exact ⟨_, rfl, ⟨_, Nat.le_refl _, by simpa using this⟩, hB3⟩
  · have hm1 : 0 < m.length := List.length_pos_iff.2 hm0
    go_wp2_with (refine wpList_copy_bytes rfl (.tmp 18) (.tmp 19) 22 22 rfl Tryz.underlying22 sz5 _ _ _ rfl _ m rfl (HU.out.below hB2) m.length (Nat.min_eq_left (by omega)).symm w.heap.size l.length _ HR2.out (fun _ => rfl) (by rw [HL.out]; omega) w.heap.size w hB2 (Nat.le_refl _) ?_)
    intro w3 HR3 hB3
    have HR4 : Hid (w3.heap[w.heap.size]? = some (.cells (vals (l ++ m)).toArray 5 (0, 0))) := by
      rw [← HE.out]; exact HR3
    clear HR3
    go_wp2
    go_ret
    have := own_made (oct_append ho ho') (by simp [maxLen]; omega) HR4.out
    exact ⟨_, rfl, ⟨_, Nat.le_refl _, by simpa using this⟩, hB3⟩

theorem joined_r (v u : Value) (l m : List Int) (w : World) (hv : Bs w v l) (hu : Bs w u m) (hl : l.length ≤ 4000000) (hm : m.length ≤ 4000000) :
    Calls Tryz.prog 23 #[v, u] w fun e w' => ∃ r, e = .returned r ∧ Row w' w.heap.size w'.heap.size r (l ++ m) ∧ Below w.heap.size w w' :=
  (joined_any v u l m w hv hu hl hm).mono fun _ _ ⟨u, h1, h2, h3⟩ => ⟨u, h1, h2.toRow, h3⟩

end Go.Proofs.YtifpjdpcmfneaaaGreatDoor

/- What cutNum of package impl does. -/
namespace Go.Proofs.YtifpjdpcmfneaaaGreatDoor
open Go.RowKit
set_option maxRecDepth 100000

theorem or128_fin : ∀ x : Fin 256, bits BinOp.or IntKind.u8 (x.val : Int) 128 = (x.val : Int) % 128 + 128 := by decide +kernel
theorem or128 (x : Int) : bits BinOp.or IntKind.u8 (x % 256) 128 = x % 128 + 128 := by
  have h := or128_fin ⟨(x % 256).toNat, by omega⟩
  simp only at h
  rw [show (((x % 256).toNat : Nat) : Int) = x % 256 by omega] at h
  rw [h]; omega

set_option maxHeartbeats 1000000 in
theorem cutNum_1 (n : Int) (w : World) (h0 : 0 ≤ n) (h1 : n < 128) :
    Calls Tryz.prog 68 #[.int .u32 n] w fun e w' => e = .returned (.tuple #[.agg #[.int .u8 (n), .int .u8 (0), .int .u8 (0), .int .u8 (0), .int .u8 (0)], .int .i64 1]) ∧ Below w.heap.size w w' := by
  go_enter Tryz.func68, Tryz.ntmps68
  go_wp2
  refine wp_loop_rounds 1 ?_
  rw [rounds_succ]
  go_wp2
  refine bodyPost_ret (v := .tuple #[.agg #[.int .u8 (n), .int .u8 (0), .int .u8 (0), .int .u8 (0), .int .u8 (0)], .int .i64 1]) (by simp [results, Tryz.results68, go_sem]) rfl ⟨rfl, ?_⟩
  exact ((Below.refl _ _).alloc (Nat.le_refl _) _).alloc (by simp) _

set_option maxHeartbeats 1000000 in
theorem cutNum_2 (n : Int) (w : World) (h0 : 128 ≤ n) (h1 : n < 16384) :
    Calls Tryz.prog 68 #[.int .u32 n] w fun e w' => e = .returned (.tuple #[.agg #[.int .u8 ((n) % 128 + 128), .int .u8 (n / 128), .int .u8 (0), .int .u8 (0), .int .u8 (0)], .int .i64 2]) ∧ Below w.heap.size w w' := by
  go_enter Tryz.func68, Tryz.ntmps68
  go_wp2
  refine wp_loop_rounds 2 ?_
  rw [rounds_succ]
  go_wp2
  rw [rounds_succ]
  go_wp2
  refine bodyPost_ret (v := .tuple #[.agg #[.int .u8 (bits BinOp.or IntKind.u8 (n % 256) 128), .int .u8 (n / 128), .int .u8 (0), .int .u8 (0), .int .u8 (0)], .int .i64 2]) (by simp [results, Tryz.results68, go_sem]) rfl ⟨by simp only [or128], ?_⟩
  exact ((Below.refl _ _).alloc (Nat.le_refl _) _).alloc (by simp) _

set_option maxHeartbeats 1000000 in
theorem cutNum_3 (n : Int) (w : World) (h0 : 16384 ≤ n) (h1 : n < 2097152) :
    Calls Tryz.prog 68 #[.int .u32 n] w fun e w' => e = .returned (.tuple #[.agg #[.int .u8 ((n) % 128 + 128), .int .u8 ((n / 128) % 128 + 128), .int .u8 (n / 128 / 128), .int .u8 (0), .int .u8 (0)], .int .i64 3]) ∧ Below w.heap.size w w' := by
  go_enter Tryz.func68, Tryz.ntmps68
  go_wp2
  refine wp_loop_rounds 3 ?_
  rw [rounds_succ]
  go_wp2
  rw [rounds_succ]
  go_wp2
  rw [rounds_succ]
  go_wp2
  refine bodyPost_ret (v := .tuple #[.agg #[.int .u8 (bits BinOp.or IntKind.u8 (n % 256) 128), .int .u8 (bits BinOp.or IntKind.u8 ((n / 128) % 256) 128), .int .u8 (n / 128 / 128), .int .u8 (0), .int .u8 (0)], .int .i64 3]) (by simp [results, Tryz.results68, go_sem]) rfl ⟨by simp only [or128], ?_⟩
  exact ((Below.refl _ _).alloc (Nat.le_refl _) _).alloc (by simp) _

set_option maxHeartbeats 1000000 in
theorem cutNum_4 (n : Int) (w : World) (h0 : 2097152 ≤ n) (h1 : n < 268435456) :
    Calls Tryz.prog 68 #[.int .u32 n] w fun e w' => e = .returned (.tuple #[.agg #[.int .u8 ((n) % 128 + 128), .int .u8 ((n / 128) % 128 + 128), .int .u8 ((n / 128 / 128) % 128 + 128), .int .u8 (n / 128 / 128 / 128), .int .u8 (0)], .int .i64 4]) ∧ Below w.heap.size w w' := by
  go_enter Tryz.func68, Tryz.ntmps68
  go_wp2
  refine wp_loop_rounds 4 ?_
  rw [rounds_succ]
  go_wp2
  rw [rounds_succ]
  go_wp2
  rw [rounds_succ]
  go_wp2
  rw [rounds_succ]
  go_wp2
  refine bodyPost_ret (v := .tuple #[.agg #[.int .u8 (bits BinOp.or IntKind.u8 (n % 256) 128), .int .u8 (bits BinOp.or IntKind.u8 ((n / 128) % 256) 128), .int .u8 (bits BinOp.or IntKind.u8 ((n / 128 / 128) % 256) 128), .int .u8 (n / 128 / 128 / 128), .int .u8 (0)], .int .i64 4]) (by simp [results, Tryz.results68, go_sem]) rfl ⟨by simp only [or128], ?_⟩
  exact ((Below.refl _ _).alloc (Nat.le_refl _) _).alloc (by simp) _

set_option maxHeartbeats 1000000 in
theorem cutNum_5 (n : Int) (w : World) (h0 : 268435456 ≤ n) (h1 : n < 2147483648) :
    Calls Tryz.prog 68 #[.int .u32 n] w fun e w' => e = .returned (.tuple #[.agg #[.int .u8 ((n) % 128 + 128), .int .u8 ((n / 128) % 128 + 128), .int .u8 ((n / 128 / 128) % 128 + 128), .int .u8 ((n / 128 / 128 / 128) % 128 + 128), .int .u8 (n / 128 / 128 / 128 / 128)], .int .i64 5]) ∧ Below w.heap.size w w' := by
  go_enter Tryz.func68, Tryz.ntmps68
  go_wp2
  refine wp_loop_rounds 5 ?_
  rw [rounds_succ]
  go_wp2
  rw [rounds_succ]
  go_wp2
  rw [rounds_succ]
  go_wp2
  rw [rounds_succ]
  go_wp2
  rw [rounds_succ]
  go_wp2
  refine bodyPost_ret (v := .tuple #[.agg #[.int .u8 (bits BinOp.or IntKind.u8 (n % 256) 128), .int .u8 (bits BinOp.or IntKind.u8 ((n / 128) % 256) 128), .int .u8 (bits BinOp.or IntKind.u8 ((n / 128 / 128) % 256) 128), .int .u8 (bits BinOp.or IntKind.u8 ((n / 128 / 128 / 128) % 256) 128), .int .u8 (n / 128 / 128 / 128 / 128)], .int .i64 5]) (by simp [results, Tryz.results68, go_sem]) rfl ⟨by simp only [or128], ?_⟩
  exact ((Below.refl _ _).alloc (Nat.le_refl _) _).alloc (by simp) _

/-- The five bytes that cutNum answers hold the number's bytes, as many as it says. -/
theorem cutNum_any (n : Int) (w : World) (h0 : 0 ≤ n) (h1 : n ≤ 2147483647) :
    Calls Tryz.prog 68 #[.int .u32 n] w fun e w' => ∃ (c0 c1 c2 c3 c4 : Int) (k : Nat), e = .returned (.tuple #[.agg #[.int .u8 c0, .int .u8 c1, .int .u8 c2, .int .u8 c3, .int .u8 c4], .int .i64 k]) ∧
      k ≤ 5 ∧ Oct [c0, c1, c2, c3, c4] ∧ enc 4 n = [c0, c1, c2, c3, c4].take k ∧ Below w.heap.size w w' := by
  by_cases g1 : n < 128
  · refine (cutNum_1 n w (by omega) (by omega)).mono ?_
    rintro e w' ⟨rfl, hb⟩
    exact ⟨_, _, _, _, _, 1, rfl, by omega, by simp [Oct]; omega, by rw [enc_lo 4 (n) (by omega)]; rfl, hb⟩
  by_cases g2 : n < 16384
  · refine (cutNum_2 n w (by omega) (by omega)).mono ?_
    rintro e w' ⟨rfl, hb⟩
    exact ⟨_, _, _, _, _, 2, rfl, by omega, by simp [Oct]; omega, by rw [enc_hi 3 (n) (by omega), enc_lo 3 (n / 128) (by omega)]; rfl, hb⟩
  by_cases g3 : n < 2097152
  · refine (cutNum_3 n w (by omega) (by omega)).mono ?_
    rintro e w' ⟨rfl, hb⟩
    exact ⟨_, _, _, _, _, 3, rfl, by omega, by simp [Oct]; omega, by rw [enc_hi 3 (n) (by omega), enc_hi 2 (n / 128) (by omega), enc_lo 2 (n / 128 / 128) (by omega)]; rfl, hb⟩
  by_cases g4 : n < 268435456
  · refine (cutNum_4 n w (by omega) (by omega)).mono ?_
    rintro e w' ⟨rfl, hb⟩
    exact ⟨_, _, _, _, _, 4, rfl, by omega, by simp [Oct]; omega, by rw [enc_hi 3 (n) (by omega), enc_hi 2 (n / 128) (by omega), enc_hi 1 (n / 128 / 128) (by omega), enc_lo 1 (n / 128 / 128 / 128) (by omega)]; rfl, hb⟩
  refine (cutNum_5 n w (by omega) (by omega)).mono ?_
  rintro e w' ⟨rfl, hb⟩
  exact ⟨_, _, _, _, _, 5, rfl, by omega, by simp [Oct]; omega, by rw [enc_hi 3 (n) (by omega), enc_hi 2 (n / 128) (by omega), enc_hi 1 (n / 128 / 128) (by omega), enc_hi 0 (n / 128 / 128 / 128) (by omega), enc_lo 0 (n / 128 / 128 / 128 / 128) (by omega)]; rfl, hb⟩

end Go.Proofs.YtifpjdpcmfneaaaGreatDoor

/- What PutNum of package impl does. -/
namespace Go.Proofs.YtifpjdpcmfneaaaGreatDoor
open Go.RowKit
set_option maxRecDepth 100000

/-- A cut of an array of five bytes, from its beginning on. -/
theorem run_sliceAt5 (k : Nat) (hk : k ≤ 5) (a : Addr) (W : World) : (Instr.sliceAt 104 (.pointer (some a)) none (some (.int .i64 k)) none).run Tryz.prog W = .ok (.slice (some a) k 5) W := by
  have harr : Tryz.prog.arrayLen 104 = 5 := by kernel_rfl
  have hel : Tryz.prog.elem 104 = 5 := by kernel_rfl
  rw [run_sliceAt_array_h (P := Tryz.prog) W 104 a (by kernel_rfl) .i64 k (by omega) (by rw [harr]; omega), hel, size5, harr]
  simp [Result.andThen, slicedAt, Addr.add]
/-- Five bytes in a block of their own, and a cut of them. -/
theorem bs_five (w : World) (c0 c1 c2 c3 c4 : Int) (k : Nat) (hk : k ≤ 5) (ho : Oct [c0, c1, c2, c3, c4]) :
    Bs (w.alloc (.cells #[.int .u8 c0, .int .u8 c1, .int .u8 c2, .int .u8 c3, .int .u8 c4] 104)) (.slice (some ⟨w.heap.size, 0, none⟩) k 5) ([c0, c1, c2, c3, c4].take k) := by
  have hl : ([c0, c1, c2, c3, c4].take k).length = k := by simp; omega
  refine ⟨oct_take ho k, _, 5, by rw [hl], by rw [hl]; exact hk, by decide, (fun h => by cases h), fun _ => ⟨w.heap.size, 0, rfl, by simp, fun i hi => ?_⟩⟩
  rw [hl] at hi
  have e : (w.alloc (.cells #[.int .u8 c0, .int .u8 c1, .int .u8 c2, .int .u8 c3, .int .u8 c4] 104)).cell? ⟨w.heap.size, 0 + i, none⟩ = (vals [c0, c1, c2, c3, c4])[i]? := by
    rw [Nat.zero_add, cell_of_row _ _ i _ _ _ (heap_alloc_new w _)]; simp [vals]
  rw [e, vals_get _ _ (by simp; omega)]
  simp [hi]

set_option maxHeartbeats 400000 in
theorem implPutNum_any (v : Value) (l : List Int) (n : Int) (w : World) (hv : Bs w v l) (hl : l.length ≤ 2000000) (hn0 : -9223372036854775808 ≤ n) (hn1 : n ≤ 9223372036854775807) :
    Calls Tryz.prog 46 #[v, .int .i64 n] w fun e w' => ∃ u, e = .returned u ∧ OwnB w' w.heap.size u (putL l n) ∧ Below w.heap.size w w' := by
  have HV : Hid (Bs w v l) := hv
  clear hv
  by_cases hb : 0 ≤ n ∧ n ≤ 2147483647
  · obtain ⟨hb0, hb1⟩ := hb
    have HP : Hid (putL l n = l ++ enc 4 n) := by simp [Hid, putL, hb0, hb1]
    go_enter Tryz.func46, Tryz.ntmps46
    go_wp2_with fail
    refine (cutNum_any n _ hb0 hb1).mono ?_
    rintro e w1 ⟨c0, c1, c2, c3, c4, k, rfl, hk, ho, he, hB⟩
    have HO : Hid (Oct [c0, c1, c2, c3, c4]) := ho
    have HE : Hid (enc 4 n = [c0, c1, c2, c3, c4].take k) := he
    clear ho he
    have hsl := run_sliceAt5 k hk
    have hsz := hB.size
    go_wp2_with fail
    refine (joined_any v _ l _ _ ((HV.out.below hB).alloc _) (bs_five w1 c0 c1 c2 c3 c4 k hk HO.out) (by omega) (by simp; omega)).mono ?_
    rintro e w2 ⟨u, rfl, hO, hB2⟩
    have HO2 : Hid (OwnB w2 w.heap.size u (putL l n)) := by
      rw [HP.out, HE.out]
      obtain ⟨g, hg, hg'⟩ := hO
      exact ⟨g, Nat.le_trans (Nat.le_trans hsz (by simp)) hg, hg'⟩
    have HB2 : Hid (Below w.heap.size w w2) := (hB.alloc hsz _).trans (hB2.mono (by simp; omega))
    clear hO hB2
    go_wp2
    go_ret
    exact ⟨_, rfl, HO2.out, HB2.out⟩
  · have HP : Hid (putL l n = l) := by simp [Hid, putL]; omega
    by_cases hneg : n < 0
    all_goals
      go_enter Tryz.func46, Tryz.ntmps46
      go_wp2_with fail
      refine (joined_any v _ l [] _ HV.out (bs_nil _) (by omega) (by simp)).mono ?_
      rintro e w1 ⟨u, rfl, hO, hB⟩
      have HO : Hid (OwnB w1 w.heap.size u (putL l n)) := by rw [HP.out]; simpa [Hid] using hO
      clear hO
      go_wp2
      go_ret
      exact ⟨_, rfl, HO.out, hB⟩

theorem implPutNum_r (v : Value) (l : List Int) (n : Int) (w : World) (hv : Bs w v l) (hl : l.length ≤ 2000000) (hn0 : -9223372036854775808 ≤ n) (hn1 : n ≤ 9223372036854775807) :
    Calls Tryz.prog 46 #[v, .int .i64 n] w fun e w' => ∃ u, e = .returned u ∧ Row w' w.heap.size w'.heap.size u (putL l n) ∧ Below w.heap.size w w' :=
  (implPutNum_any v l n w hv hl hn0 hn1).mono fun _ _ ⟨u, h1, h2, h3⟩ => ⟨u, h1, h2.toRow, h3⟩

end Go.Proofs.YtifpjdpcmfneaaaGreatDoor

/- What PutText of package impl does. -/
namespace Go.Proofs.YtifpjdpcmfneaaaGreatDoor
open Go.RowKit
set_option maxRecDepth 100000

set_option maxHeartbeats 400000 in
theorem implPutText_r (v u : Value) (l t : List Int) (w : World) (hv : Bs w v l) (hu : Bs w u t) (hl : l.length ≤ 2000000) (ht : t.length ≤ 2000000) :
    Calls Tryz.prog 91 #[v, u] w fun e w' => ∃ r, e = .returned r ∧ Row w' w.heap.size w'.heap.size r (putTL l t) ∧ Below w.heap.size w w' := by
  have HV : Hid (Bs w v l) := hv
  have HU : Hid (Bs w u t) := hu
  obtain ⟨a, cap, rfl⟩ : ∃ a cap, u = .slice a t.length cap := by obtain ⟨_, a, cap, h, _⟩ := hu; exact ⟨a, cap, h⟩
  clear hv hu
  by_cases hb : 30 < t.length
  · have hb' : (30 : Int) < (t.length : Int) := by omega
    have HP : Hid (putTL l t = l) := by simp [Hid, putTL, hb]
    go_enter Tryz.func91, Tryz.ntmps91
    go_wp2_with fail
    refine (joined_r v _ l [] _ HV.out (bs_nil _) (by omega) (by simp)).mono ?_
    rintro e w1 ⟨r, rfl, R, B⟩
    have HR : Hid (Row w1 w.heap.size w1.heap.size r (putTL l t)) := by rw [HP.out]; simpa [Hid] using R
    clear R
    go_wp2
    go_ret
    exact ⟨_, rfl, HR.out, B⟩
  · have hb' : ¬ (30 : Int) < (t.length : Int) := by omega
    have HP : Hid (putTL l t = putL l t.length ++ t) := by simp [Hid, putTL, hb]
    have hpl := putL_length l t.length
    go_enter Tryz.func91, Tryz.ntmps91
    go_wp2_with fail
    refine (implPutNum_r v l t.length _ HV.out hl (by omega) (by omega)).mono ?_
    rintro e w1 ⟨u1, rfl, R1, B1⟩
    have HUU : Hid (Bs w1 (.slice a t.length cap) t) := HU.out.below B1
    go_wp2_with fail
    refine (joined_r u1 _ _ t _ R1.bs HUU.out (by omega) (by omega)).mono ?_
    rintro e w2 ⟨r, rfl, R, B⟩
    have HR : Hid (Row w2 w.heap.size w2.heap.size r (putTL l t)) := by rw [HP.out]; exact R.wide B1.size (Nat.le_refl _)
    have HB : Hid (Below w.heap.size w w2) := Below.step B1 B
    clear R R1 B B1
    go_wp2
    go_ret
    exact ⟨_, rfl, HR.out, HB.out⟩

end Go.Proofs.YtifpjdpcmfneaaaGreatDoor

/- What putNums of package impl does. -/
namespace Go.Proofs.YtifpjdpcmfneaaaGreatDoor
open Go.RowKit
set_option maxRecDepth 100000
set_option linter.unusedVariables false

theorem implPutNum_b (v : Value) (l : List Int) (n : Int) (w : World) (hv : Bs w v l) (hl : l.length ≤ 2000000) (hn : I64 n) :
    Calls Tryz.prog 46 #[v, .int .i64 n] w fun e w' => ∃ u, e = .returned u ∧ Row w' w.heap.size w'.heap.size u (l ++ numB n) ∧ Below w.heap.size w w' := by
  refine (implPutNum_r v l n w hv hl hn.1 hn.2).mono ?_
  rintro e w' ⟨u, rfl, R, B⟩
  rw [putL_eq] at R
  exact ⟨u, rfl, R, B⟩
theorem implPutText_b (v u : Value) (l t : List Int) (w : World) (hv : Bs w v l) (hu : Bs w u t) (hl : l.length ≤ 2000000) (ht : t.length ≤ 2000000) :
    Calls Tryz.prog 91 #[v, u] w fun e w' => ∃ r, e = .returned r ∧ Row w' w.heap.size w'.heap.size r (l ++ txB t) ∧ Below w.heap.size w w' := by
  refine (implPutText_r v u l t w hv hu hl ht).mono ?_
  rintro e w' ⟨u, rfl, R, B⟩
  rw [putTL_eq] at R
  exact ⟨u, rfl, R, B⟩
theorem bs_none (w : World) : Bs w (.slice none 0 0) [] := ⟨oct_nil, none, 0, rfl, by simp, by simp, fun _ => rfl, fun h => by simp at h⟩

set_option maxHeartbeats 1000000 in
theorem putNums_b (B : Nat) (v nv : Value) (l ns : List Int) (w : World) (hv : OwnB w B v l) (hB : B ≤ w.heap.size) (hn : ∀ wi, Tw B w wi → IntsV wi nv ns) (hl : l.length ≤ 1000000) (hns : ns.length ≤ 1000) :
    Calls Tryz.prog 20 #[v, nv] w fun e w' => ∃ u, e = .returned u ∧ OwnB w' B u (l ++ numsB ns) ∧ Tw B w w' := by
  have HN : Hid (∀ wi, Tw B w wi → IntsV wi nv ns) := hn
  have HV : Hid (OwnB w B v (l ++ numsB (ns.take 0))) := by simpa [Hid, numsB] using hv
  obtain ⟨a, cap, rfl, m0, m1⟩ := (hn w (Tw.refl _ _)).form
  clear hn
  obtain ⟨va, vn, vc, rfl⟩ := hv.bs.form3
  clear hv
  obtain ⟨i0, hi, hz0, hz1, hz2⟩ := info_parts info5
  go_enter Tryz.func20, Tryz.ntmps20
  go_wp2
  go_loopw [0, 9] (fun out i wr => ∃ k : Nat, k ≤ ns.length ∧ i = .int .i64 k ∧ Hid (OwnB wr B out (l ++ numsB (ns.take k))) ∧ Hid (Tw B w wr)) (fun _ i _ => ns.length - (intOf i).toNat)
  case atStart => exact ⟨0, Nat.zero_le _, rfl, HV, Tw.refl _ _⟩
  case round =>
    clear HV
    obtain ⟨k, hk, rfl, hO, hT⟩ := hrel
    have hsz := hT.out.size
    by_cases hlt : k < ns.length
    · obtain ⟨n, hn⟩ : ∃ n, ns[k]? = some n := ⟨ns[k], List.getElem?_eq_getElem hlt⟩
      obtain ⟨b, off, cap', hv', hlb, d0, j0⟩ := IntsV.cell (HN.out wr hT.out) k n hn
      simp only [Value.slice.injEq, true_and] at hv'
      obtain ⟨rfl, rfl⟩ := hv'
      have HST : Hid (numsB (ns.take (k + 1)) = numsB (ns.take k) ++ numB n) := flat_step numB hn
      have g0 := numB_len n
      have g1 := nums_len (ns.take k)
      have g2 : (ns.take k).length ≤ 1000 := by simp; omega
      clear hn
      go_wp2_with fail
      refine (implPutNum_b _ [] n _ (bs_none _) (by simp) j0).mono ?_
      rintro e w1 ⟨r1, rfl, R1, B1⟩
      have HO1 : Hid (OwnB w1 B _ (l ++ numsB (ns.take k))) := hO.out.below B1
      have HT1 : Hid (Tw B w w1) := hT.out.trans (Tw.of_below (by omega) B1)
      have HR1 : Hid (Bs w1 r1 (numB n)) := by simpa [Hid] using R1.bs
      have s1 := B1.size
      clear R1 B1 d0
      go_wp2_with (at_builtin; refine wpList_append_bytes rfl (.tmp 13) (.tmp 15) 22 rfl i0 Tryz.underlying22 hi hz0 hz1 hz2 B _ _ rfl HO1.out _ (numB n) rfl HR1.out (by simp only [List.length_append]; omega) (by omega) w1 (Below.refl _ _) ?_)
      intro v2 w2 hO2 hB2 hG2
      have HO2 : Hid (OwnB w2 B v2 (l ++ numsB (ns.take (k + 1)))) := by rw [HST.out]; exact hO2
      have HT2 : Hid (Tw B w w2) := HT1.out.trans (Tw.grown HO1.out (by omega) hG2)
      clear hO2 hB2 hG2 HO1 HT1 HR1 hO hT HST
      go_wp2
      go_roundw
      case rel => exact ⟨k + 1, by omega, by go_num, HO2, HT2⟩
      case measure => simp [intOf]; omega
    · obtain rfl : k = ns.length := by omega
      go_wp2
      go_ret
      have ho := hO.out
      rw [List.take_length] at ho
      exact ⟨_, rfl, ho, hT.out⟩

end Go.Proofs.YtifpjdpcmfneaaaGreatDoor

/- What putBox of package impl do. -/
namespace Go.Proofs.YtifpjdpcmfneaaaGreatDoor
open Go.RowKit
set_option maxRecDepth 100000
set_option linter.unusedVariables false
set_option linter.unusedSimpArgs false

theorem ints_lit (w : World) (g : Nat) (ns : List Int) (h : w.heap[g]? = some (.cells (ns.map (fun n => Value.int .i64 n)).toArray 3 (0, 0))) (hn : ∀ n, n ∈ ns → I64 n) (hl : ns.length ≤ 1000) : IntsV w (.slice (some ⟨g, 0, none⟩) ns.length ns.length) ns := by
  refine ⟨some ⟨g, 0, none⟩, ns.length, fun i => [.int .i64 (ns.getD i 0)], rfl, Nat.le_refl _, by unfold maxLen; omega, (fun h => by cases h), fun i x hx => ?_, fun _ => ?_⟩
  · have hi := (List.getElem?_eq_some_iff.1 hx).1
    exact ⟨⟨by simp [List.getD_eq_getElem?_getD, hx], hn x (List.mem_of_getElem? hx)⟩, rfl⟩
  · refine ⟨g, 0, rfl, lt_of_heap h, fun i j u hi hu => ?_⟩
    cases j with
    | zero =>
      simp only [List.getElem?_cons_zero, Option.some.injEq] at hu
      subst hu
      rw [show 0 + i * 1 + 0 = i by omega, cell_of_row w g i _ _ (0, 0) h]
      simp [List.getD_eq_getElem?_getD, hi]
    | succ j => simp at hu

set_option maxRecDepth 100000 in
set_option maxHeartbeats 4000000 in
theorem putBox_b (wb : World) (ov v : Value) (l : List Int) (x : BoxD) (w : World) (ho : OwnB w wb.heap.size ov l) (hb : Below wb.heap.size wb w) (hv : BoxV wb v x) (hl : l.length ≤ 100000) (q1 : x.mails.length ≤ 12) (q2 : x.gones.length ≤ 40) (hz : szX x ≤ 2000000) :
    Calls Tryz.prog 51 #[ov, v] w fun e w' => ∃ u, e = .returned u ∧ OwnB w' wb.heap.size u (l ++ boxBs x) ∧ Tw wb.heap.size w w' := by
  have hz0' : x.name.length ≤ 2000000 := by simp only [szX] at hz; omega
  have hzm : szM x.mails ≤ 2000000 := by simp only [szX] at hz; omega
  clear hz
  have hB : wb.heap.size ≤ w.heap.size := hb.size
  obtain ⟨u0, u1, u2, rfl, g0, g1, g2, i0, i1, i2, i3⟩ := hv
  obtain ⟨a0, n0, c0, rfl⟩ := g0.form3
  obtain ⟨a1, c1, rfl, m0, m1⟩ := g1.form
  obtain ⟨a2, c2, rfl, m2, m3⟩ := g2.form
  have HB : Hid (∀ wi, Tw wb.heap.size w wi → Below wb.heap.size wb wi) := fun wi h => hb.trans h.below
  have H0 : Hid (Bs wb (.slice a0 n0 c0) x.name ∧ MailsV wb (.slice a1 x.mails.length c1) x.mails ∧ GonesV wb (.slice a2 x.gones.length c2) x.gones) := ⟨g0, g1, g2⟩
  clear g0 g1 g2
  generalize hBB : wb.heap.size = B at ho hB HB hb
  have HBB : Hid (wb.heap.size = B) := hBB
  clear hb hBB
  have HO : Hid (OwnB w B ov l) := ho
  obtain ⟨oa, on, oc, rfl⟩ := ho.bs.form3
  clear ho
  have k0 := txB_len x.name
  obtain ⟨z0, hi, hz0, hz1, hz2⟩ := info_parts info5
  have TA : Hid (Tw B w (w.alloc (.cells #[.slice a0 n0 c0, .int .i64 x.valid, .int .i64 x.next, .int .i64 x.seq, .slice a1 x.mails.length c1, .slice a2 x.gones.length c2, .int .i64 x.lost] 87))) := Tw.alloc hB _
  have HK : Hid ((w.alloc (.cells #[.slice a0 n0 c0, .int .i64 x.valid, .int .i64 x.next, .int .i64 x.seq, .slice a1 x.mails.length c1, .slice a2 x.gones.length c2, .int .i64 x.lost] 87)).heap[w.heap.size]? = some (.cells #[.slice a0 n0 c0, .int .i64 x.valid, .int .i64 x.next, .int .i64 x.seq, .slice a1 x.mails.length c1, .slice a2 x.gones.length c2, .int .i64 x.lost] 87)) := box_new w _
  obtain ⟨f0, f1, f2, f3, f4, f5, f6⟩ := bx7 HK.out
  have hlA := lt_of_heap HK.out
  have s0 : B ≤ (w.alloc (.cells #[.slice a0 n0 c0, .int .i64 x.valid, .int .i64 x.next, .int .i64 x.seq, .slice a1 x.mails.length c1, .slice a2 x.gones.length c2, .int .i64 x.lost] 87)).heap.size := by simp; omega
  go_enter Tryz.func51, Tryz.ntmps51
  go_wp2_with fail
  refine (implPutText_b _ _ [] x.name _ (bs_none _) (H0.out.1.below (by rw [HBB.out]; exact HB.out _ TA.out)) (by simp) hz0').mono ?_
  rintro e w1 ⟨r1, rfl, R1, B1⟩
  have s1 : B ≤ w1.heap.size := Nat.le_trans s0 B1.size
  have HO1 : Hid (OwnB w1 B (.slice oa on oc) l) := (HO.out.alloc _).below B1
  have HR1 : Hid (Bs w1 r1 (txB x.name)) := by simpa [Hid] using R1.bs
  have T1 : Hid (Tw B (w.alloc (.cells #[.slice a0 n0 c0, .int .i64 x.valid, .int .i64 x.next, .int .i64 x.seq, .slice a1 x.mails.length c1, .slice a2 x.gones.length c2, .int .i64 x.lost] 87)) w1) := Tw.of_below s0 B1
  clear R1 B1 f0 f1 f2 f3 f4 f5 f6 hlA HO
  go_wp2_with (at_builtin; refine wpList_append_bytes rfl (.tmp 9) (.tmp 12) 22 rfl z0 Tryz.underlying22 hi hz0 hz1 hz2 B _ _ rfl HO1.out _ _ rfl HR1.out (by omega) (by omega) w1 (Below.refl _ _) ?_)
  intro v2 w2 hO2 hB2 hG2
  have HO2 : Hid (OwnB w2 B v2 (l ++ txB x.name)) := hO2
  have T2 : Hid (Tw B (w.alloc (.cells #[.slice a0 n0 c0, .int .i64 x.valid, .int .i64 x.next, .int .i64 x.seq, .slice a1 x.mails.length c1, .slice a2 x.gones.length c2, .int .i64 x.lost] 87)) w2) := T1.out.trans (Tw.grown HO1.out s1 hG2)
  have s2 : B ≤ w2.heap.size := Nat.le_trans s1 hG2.size
  have K2 : w2.heap[w.heap.size]? = some (.cells #[.slice a0 n0 c0, .int .i64 x.valid, .int .i64 x.next, .int .i64 x.seq, .slice a1 x.mails.length c1, .slice a2 x.gones.length c2, .int .i64 x.lost] 87) := T2.out.box (by decide) HK.out
  obtain ⟨f0, f1, f2, f3, f4, f5, f6⟩ := bx7 K2
  have hlA := lt_of_heap K2
  clear hO2 hB2 hG2 HO1 T1 HR1 K2
  have HBN1 : Hid (((w2).alloc (.cells #[.int .i64 x.valid, .int .i64 x.next, .int .i64 x.seq, .int .i64 x.lost, .int .i64 (x.mails.length : Int)] 3)).heap[(w2).heap.size]? = some (.cells #[.int .i64 x.valid, .int .i64 x.next, .int .i64 x.seq, .int .i64 x.lost, .int .i64 (x.mails.length : Int)] 3)) := by
    have h := box_new (w2) (.cells #[.int .i64 x.valid, .int .i64 x.next, .int .i64 x.seq, .int .i64 x.lost, .int .i64 (x.mails.length : Int)] 3)
    exact h
  have HNV1 : Hid (∀ wi, Tw B ((w2).alloc (.cells #[.int .i64 x.valid, .int .i64 x.next, .int .i64 x.seq, .int .i64 x.lost, .int .i64 (x.mails.length : Int)] 3)) wi → IntsV wi (.slice (some ⟨(w2).heap.size, 0, none⟩) 5 5) [x.valid, x.next, x.seq, x.lost, (x.mails.length : Int)]) := fun wi h => ints_lit wi (w2).heap.size [x.valid, x.next, x.seq, x.lost, (x.mails.length : Int)] (Tw.box h (by decide) HBN1.out) (by simp only [List.mem_cons, List.not_mem_nil, or_false, forall_eq_or_imp, forall_eq]; exact ⟨i0, i1, i2, i3, by omega, by omega⟩) (by simp)
  have HOA1 : Hid (OwnB ((w2).alloc (.cells #[.int .i64 x.valid, .int .i64 x.next, .int .i64 x.seq, .int .i64 x.lost, .int .i64 (x.mails.length : Int)] 3)) B _ (l ++ txB x.name)) := HO2.out.alloc _
  have HSZ1 : B ≤ ((w2).alloc (.cells #[.int .i64 x.valid, .int .i64 x.next, .int .i64 x.seq, .int .i64 x.lost, .int .i64 (x.mails.length : Int)] 3)).heap.size := by simp; omega
  clear HBN1
  go_wp2_with fail
  refine (putNums_b B _ _ _ [x.valid, x.next, x.seq, x.lost, (x.mails.length : Int)] _ HOA1.out HSZ1 HNV1.out (by simp only [List.length_append]; omega) (by simp)).mono ?_
  rintro e w3 ⟨r3, rfl, R3, T3⟩
  have HO3 : Hid (OwnB w3 B r3 (l ++ txB x.name ++ numsB [x.valid, x.next, x.seq, x.lost, x.mails.length] ++ (x.mails.take 0).flatMap mailBs)) := by simpa [Hid] using R3
  have T4 : Hid (Tw B (w.alloc (.cells #[.slice a0 n0 c0, .int .i64 x.valid, .int .i64 x.next, .int .i64 x.seq, .slice a1 x.mails.length c1, .slice a2 x.gones.length c2, .int .i64 x.lost] 87)) w3) := T2.out.trans ((Tw.alloc s2 _).trans T3)
  clear R3 T3 T2 HO2 f0 f1 f2 f3 f4 f5 f6 hlA
  generalize hL : l ++ txB x.name ++ numsB [x.valid, x.next, x.seq, x.lost, x.mails.length] = L at HO3
  have hLl : L.length ≤ 100200 := by
    have := nums_len [x.valid, x.next, x.seq, x.lost, (x.mails.length : Int)]
    rw [← hL]; simp only [List.length_append]; simp at this; omega
  have HL : Hid (l ++ txB x.name ++ numsB [x.valid, x.next, x.seq, x.lost, x.mails.length] = L) := hL
  clear hL s1 s2
  obtain ⟨f0, f1, f2, f3, f4, f5, f6⟩ := bx7 (T4.out.box (by decide) HK.out)
  have hlA := lt_of_heap (T4.out.box (by decide) HK.out)
  go_wp2
  clear f0 f1 f2 f3 f4 f5 f6 hlA
  go_loopw [0, 31] (fun out i wr => ∃ k : Nat, k ≤ x.mails.length ∧ i = .int .i64 k ∧ Hid (OwnB wr B out (L ++ (x.mails.take k).flatMap mailBs)) ∧ Hid (Tw B (w.alloc (.cells #[.slice a0 n0 c0, .int .i64 x.valid, .int .i64 x.next, .int .i64 x.seq, .slice a1 x.mails.length c1, .slice a2 x.gones.length c2, .int .i64 x.lost] 87)) wr)) (fun _ i _ => x.mails.length - (intOf i).toNat)
  case atStart => exact ⟨0, Nat.zero_le _, rfl, HO3, T4⟩
  case round =>
    clear HO3 T4
    obtain ⟨k, hk, rfl, hO, hT⟩ := hrel
    have hml := mails_len (x.mails.take k)
    have htk : (x.mails.take k).length ≤ 12 := by simp; omega
    have sr : B ≤ wr.heap.size := Nat.le_trans s0 hT.out.size
    by_cases hlt : k < x.mails.length
    · obtain ⟨m, hm⟩ : ∃ m, x.mails[k]? = some m := ⟨x.mails[k], List.getElem?_eq_getElem hlt⟩
      obtain ⟨b, off, cap', u, hv', hlb, d0, d1, d2, d3, hu, j0, j1, j2⟩ := MailsV.cell H0.out.2.1 k m hm
      simp only [Value.slice.injEq, true_and] at hv'
      obtain ⟨rfl, rfl⟩ := hv'
      obtain ⟨ua, un, uc, rfl⟩ := hu.form3
      have hbr : Below wb.heap.size wb wr := by rw [HBB.out]; exact HB.out _ (TA.out.trans hT.out)
      replace d0 := (hbr.cell (p := ⟨b, off + k * 4, none⟩) hlb).trans d0
      replace d1 := (hbr.cell (p := ⟨b, off + k * 4 + 1, none⟩) hlb).trans d1
      replace d2 := (hbr.cell (p := ⟨b, off + k * 4 + 2, none⟩) hlb).trans d2
      replace d3 := (hbr.cell (p := ⟨b, off + k * 4 + 3, none⟩) hlb).trans d3
      replace hlb : b < wr.heap.size := Nat.lt_of_lt_of_le hlb hbr.size
      have htx : m.text.length ≤ 2000000 := by have := szM_mem (List.mem_of_getElem? hm); omega
      have HST : Hid ((x.mails.take (k + 1)).flatMap mailBs = (x.mails.take k).flatMap mailBs ++ mailBs m) := flat_step mailBs hm
      have g3 := txB_len m.text
      obtain ⟨uid, flags, seq, text⟩ := m
      simp only at d0 d1 d2 d3 hu j0 j1 j2 htx g3
      have HTX : Hid (∀ wi, Tw B w wi → Bs wi (.slice ua un uc) text) := fun wi h => hu.below (by rw [HBB.out]; exact HB.out _ h)
      have HM : Hid ((wr.alloc (.cells #[.int .i64 uid, .int .i64 flags, .int .i64 seq, .slice ua un uc] 117)).heap[wr.heap.size]? = some (.cells #[.int .i64 uid, .int .i64 flags, .int .i64 seq, .slice ua un uc] 117)) := box_new wr _
      have sm : B ≤ (wr.alloc (.cells #[.int .i64 uid, .int .i64 flags, .int .i64 seq, .slice ua un uc] 117)).heap.size := by simp; omega
      have TM : Hid (Tw B wr (wr.alloc (.cells #[.int .i64 uid, .int .i64 flags, .int .i64 seq, .slice ua un uc] 117))) := Tw.alloc sr _
      have HOM : Hid (OwnB (wr.alloc (.cells #[.int .i64 uid, .int .i64 flags, .int .i64 seq, .slice ua un uc] 117)) B _ (L ++ (x.mails.take k).flatMap mailBs)) := hO.out.alloc _
      obtain ⟨f0, f1, f2, f3⟩ := bx4 HM.out
      have hlM := lt_of_heap HM.out
      have hn3 := nums_len [uid, flags, seq]
      simp only [List.length_cons, List.length_nil] at hn3
      clear hu hm hbr
      have HBN2 : Hid (((wr.alloc (.cells #[.int .i64 uid, .int .i64 flags, .int .i64 seq, .slice ua un uc] 117)).alloc (.cells #[.int .i64 uid, .int .i64 flags, .int .i64 seq] 3)).heap[(wr.heap.size + 1)]? = some (.cells #[.int .i64 uid, .int .i64 flags, .int .i64 seq] 3)) := by
        have h := box_new (wr.alloc (.cells #[.int .i64 uid, .int .i64 flags, .int .i64 seq, .slice ua un uc] 117)) (.cells #[.int .i64 uid, .int .i64 flags, .int .i64 seq] 3)
        rw [show (wr.alloc (.cells #[.int .i64 uid, .int .i64 flags, .int .i64 seq, .slice ua un uc] 117)).heap.size = (wr.heap.size + 1) by simp] at h
        exact h
      have HNV2 : Hid (∀ wi, Tw B ((wr.alloc (.cells #[.int .i64 uid, .int .i64 flags, .int .i64 seq, .slice ua un uc] 117)).alloc (.cells #[.int .i64 uid, .int .i64 flags, .int .i64 seq] 3)) wi → IntsV wi (.slice (some ⟨(wr.heap.size + 1), 0, none⟩) 3 3) [uid, flags, seq]) := fun wi h => ints_lit wi (wr.heap.size + 1) [uid, flags, seq] (Tw.box h (by decide) HBN2.out) (by simp only [List.mem_cons, List.not_mem_nil, or_false, forall_eq_or_imp, forall_eq]; exact ⟨j0, j1, j2⟩) (by simp)
      have HOA2 : Hid (OwnB ((wr.alloc (.cells #[.int .i64 uid, .int .i64 flags, .int .i64 seq, .slice ua un uc] 117)).alloc (.cells #[.int .i64 uid, .int .i64 flags, .int .i64 seq] 3)) B _ (L ++ (x.mails.take k).flatMap mailBs)) := HOM.out.alloc _
      have HSZ2 : B ≤ ((wr.alloc (.cells #[.int .i64 uid, .int .i64 flags, .int .i64 seq, .slice ua un uc] 117)).alloc (.cells #[.int .i64 uid, .int .i64 flags, .int .i64 seq] 3)).heap.size := by simp; omega
      clear HBN2
      go_wp2_with fail
      refine (putNums_b B _ _ _ [uid, flags, seq] _ HOA2.out HSZ2 HNV2.out (by simp only [List.length_append]; omega) (by simp)).mono ?_
      rintro e w4 ⟨r4, rfl, R4, T4⟩
      have T5 : Hid (Tw B (wr.alloc (.cells #[.int .i64 uid, .int .i64 flags, .int .i64 seq, .slice ua un uc] 117)) w4) := (Tw.alloc sm _).trans T4
      have HO4 : Hid (OwnB w4 B r4 (L ++ (x.mails.take k).flatMap mailBs ++ numsB [uid, flags, seq])) := R4
      have s4 : B ≤ w4.heap.size := Nat.le_trans sm T5.out.size
      clear R4 T4 d0 d1 d2 d3 f0 f1 f2 f3 hlM HOM hO
      obtain ⟨f0, f1, f2, f3⟩ := bx4 (T5.out.box (by decide) HM.out)
      have hlM := lt_of_heap (T5.out.box (by decide) HM.out)
      go_wp2_with fail
      refine (implPutText_b _ _ [] text _ (bs_none _) (HTX.out _ (TA.out.trans (hT.out.trans (TM.out.trans T5.out)))) (by simp) htx).mono ?_
      rintro e w5 ⟨r5, rfl, R5, B5⟩
      have s5 : B ≤ w5.heap.size := Nat.le_trans s4 B5.size
      have HO5 : Hid (OwnB w5 B r4 (L ++ (x.mails.take k).flatMap mailBs ++ numsB [uid, flags, seq])) := HO4.out.below B5
      have HR5 : Hid (Bs w5 r5 (txB text)) := by simpa [Hid] using R5.bs
      have T6 : Hid (Tw B (w.alloc (.cells #[.slice a0 n0 c0, .int .i64 x.valid, .int .i64 x.next, .int .i64 x.seq, .slice (some ⟨b, off, none⟩) x.mails.length c1, .slice a2 x.gones.length c2, .int .i64 x.lost] 87)) w5) := hT.out.trans (TM.out.trans (T5.out.trans (Tw.of_below s4 B5)))
      clear R5 B5 f0 f1 f2 f3 hlM HO4 T5 HTX HM TM hT
      go_wp2_with (at_builtin; refine wpList_append_bytes rfl (.tmp 44) (.tmp 47) 22 rfl z0 Tryz.underlying22 hi hz0 hz1 hz2 B _ _ rfl HO5.out _ _ rfl HR5.out (by simp only [List.length_append]; omega) (by omega) w5 (Below.refl _ _) ?_)
      intro v6 w6 hO6 hB6 hG6
      have HO6 : Hid (OwnB w6 B v6 (L ++ (x.mails.take (k + 1)).flatMap mailBs)) := by
        have e : L ++ (x.mails.take (k + 1)).flatMap mailBs = L ++ ((x.mails.take k).flatMap mailBs ++ (numsB [uid, flags, seq] ++ txB text)) := by rw [HST.out]; simp [mailBs, numsB]
        rw [e]
        exact hO6
      have T7 : Hid (Tw B (w.alloc (.cells #[.slice a0 n0 c0, .int .i64 x.valid, .int .i64 x.next, .int .i64 x.seq, .slice (some ⟨b, off, none⟩) x.mails.length c1, .slice a2 x.gones.length c2, .int .i64 x.lost] 87)) w6) := T6.out.trans (Tw.grown HO5.out s5 hG6)
      clear hO6 hB6 hG6 T6 HO5 HR5 HST
      go_wp2
      go_roundw
      case rel => exact ⟨k + 1, by omega, by go_num, HO6, T7⟩
      case measure => simp [intOf]; omega
    · obtain rfl : k = x.mails.length := by omega
      have HE : Hid ((x.mails.take x.mails.length).flatMap mailBs = x.mails.flatMap mailBs) := by rw [Hid, List.take_length]
      have HO8' := hO.out
      rw [HE.out] at HO8'
      have HO8 := (show Hid _ from HO8')
      clear HO8'
      have hml2 := mails_len x.mails
      obtain ⟨f0, f1, f2, f3, f4, f5, f6⟩ := bx7 (hT.out.box (by decide) HK.out)
      have hlA := lt_of_heap (hT.out.box (by decide) HK.out)
      clear hO
      have HBN3 : Hid (((wr).alloc (.cells #[.int .i64 (x.gones.length : Int)] 3)).heap[(wr).heap.size]? = some (.cells #[.int .i64 (x.gones.length : Int)] 3)) := by
        have h := box_new (wr) (.cells #[.int .i64 (x.gones.length : Int)] 3)
        exact h
      have HNV3 : Hid (∀ wi, Tw B ((wr).alloc (.cells #[.int .i64 (x.gones.length : Int)] 3)) wi → IntsV wi (.slice (some ⟨(wr).heap.size, 0, none⟩) 1 1) [(x.gones.length : Int)]) := fun wi h => ints_lit wi (wr).heap.size [(x.gones.length : Int)] (Tw.box h (by decide) HBN3.out) (by simp only [List.mem_cons, List.not_mem_nil, or_false, forall_eq_or_imp, forall_eq]; exact ⟨by omega, by omega⟩) (by simp)
      have HOA3 : Hid (OwnB ((wr).alloc (.cells #[.int .i64 (x.gones.length : Int)] 3)) B _ (L ++ x.mails.flatMap mailBs)) := (show OwnB wr B _ (L ++ x.mails.flatMap mailBs) from HO8.out).alloc _
      have HSZ3 : B ≤ ((wr).alloc (.cells #[.int .i64 (x.gones.length : Int)] 3)).heap.size := by simp; omega
      clear HBN3
      go_wp2_with fail
      refine (putNums_b B _ _ _ [(x.gones.length : Int)] _ HOA3.out HSZ3 HNV3.out (by simp only [List.length_append]; omega) (by simp)).mono ?_
      rintro e w9 ⟨r9, rfl, R9, T9⟩
      have HO9 : Hid (OwnB w9 B r9 (L ++ x.mails.flatMap mailBs ++ numsB [(x.gones.length : Int)] ++ (x.gones.take 0).flatMap goneBs)) := by simpa [Hid] using R9
      have T10 : Hid (Tw B (w.alloc (.cells #[.slice a0 n0 c0, .int .i64 x.valid, .int .i64 x.next, .int .i64 x.seq, .slice a1 x.mails.length c1, .slice a2 x.gones.length c2, .int .i64 x.lost] 87)) w9) := hT.out.trans ((Tw.alloc sr _).trans T9)
      clear R9 T9 hT HO8 f0 f1 f2 f3 f4 f5 f6 hlA hlt hk HE
      generalize hN : L ++ x.mails.flatMap mailBs ++ numsB [(x.gones.length : Int)] = N at HO9
      have hNl : N.length ≤ 110000 := by
        have := nums_len [(x.gones.length : Int)]
        rw [← hN]; simp only [List.length_append]; simp at this; omega
      have HN : Hid (L ++ x.mails.flatMap mailBs ++ numsB [(x.gones.length : Int)] = N) := hN
      clear hN hml hml2 htk sr
      obtain ⟨f0, f1, f2, f3, f4, f5, f6⟩ := bx7 (T10.out.box (by decide) HK.out)
      have hlA := lt_of_heap (T10.out.box (by decide) HK.out)
      go_wp2
      clear f0 f1 f2 f3 f4 f5 f6 hlA
      go_loopw [0, 59] (fun out i wr => ∃ k : Nat, k ≤ x.gones.length ∧ i = .int .i64 k ∧ Hid (OwnB wr B out (N ++ (x.gones.take k).flatMap goneBs)) ∧ Hid (Tw B (w.alloc (.cells #[.slice a0 n0 c0, .int .i64 x.valid, .int .i64 x.next, .int .i64 x.seq, .slice a1 x.mails.length c1, .slice a2 x.gones.length c2, .int .i64 x.lost] 87)) wr)) (fun _ i _ => x.gones.length - (intOf i).toNat)
      case atStart => exact ⟨0, Nat.zero_le _, rfl, HO9, T10⟩
      case round =>
        clear HO9 T10
        obtain ⟨k, hk, rfl, hO, hT⟩ := hrel
        have hml := gones_len (x.gones.take k)
        have htk : (x.gones.take k).length ≤ 40 := by simp; omega
        have sr : B ≤ wr.heap.size := Nat.le_trans s0 hT.out.size
        by_cases hlt : k < x.gones.length
        · obtain ⟨m, hm⟩ : ∃ m, x.gones[k]? = some m := ⟨x.gones[k], List.getElem?_eq_getElem hlt⟩
          obtain ⟨b, off, cap', hv', hlb, d0, d1, j0, j1⟩ := GonesV.cell H0.out.2.2 k m hm
          simp only [Value.slice.injEq, true_and] at hv'
          obtain ⟨rfl, rfl⟩ := hv'
          have hbr : Below wb.heap.size wb wr := by rw [HBB.out]; exact HB.out _ (TA.out.trans hT.out)
          replace d0 := (hbr.cell (p := ⟨b, off + k * 2, none⟩) hlb).trans d0
          replace d1 := (hbr.cell (p := ⟨b, off + k * 2 + 1, none⟩) hlb).trans d1
          replace hlb : b < wr.heap.size := Nat.lt_of_lt_of_le hlb hbr.size
          have HST : Hid ((x.gones.take (k + 1)).flatMap goneBs = (x.gones.take k).flatMap goneBs ++ goneBs m) := flat_step goneBs hm
          obtain ⟨uid, seq⟩ := m
          simp only at d0 d1 j0 j1
          have HM : Hid ((wr.alloc (.cells #[.int .i64 uid, .int .i64 seq] 119)).heap[wr.heap.size]? = some (.cells #[.int .i64 uid, .int .i64 seq] 119)) := box_new wr _
          have sm : B ≤ (wr.alloc (.cells #[.int .i64 uid, .int .i64 seq] 119)).heap.size := by simp; omega
          have TM : Hid (Tw B wr (wr.alloc (.cells #[.int .i64 uid, .int .i64 seq] 119))) := Tw.alloc sr _
          have HOM : Hid (OwnB (wr.alloc (.cells #[.int .i64 uid, .int .i64 seq] 119)) B _ (N ++ (x.gones.take k).flatMap goneBs)) := hO.out.alloc _
          obtain ⟨f0, f1⟩ := bx2 HM.out
          have hlM := lt_of_heap HM.out
          clear hm hbr
          have HBN4 : Hid (((wr.alloc (.cells #[.int .i64 uid, .int .i64 seq] 119)).alloc (.cells #[.int .i64 uid, .int .i64 seq] 3)).heap[(wr.heap.size + 1)]? = some (.cells #[.int .i64 uid, .int .i64 seq] 3)) := by
            have h := box_new (wr.alloc (.cells #[.int .i64 uid, .int .i64 seq] 119)) (.cells #[.int .i64 uid, .int .i64 seq] 3)
            rw [show (wr.alloc (.cells #[.int .i64 uid, .int .i64 seq] 119)).heap.size = (wr.heap.size + 1) by simp] at h
            exact h
          have HNV4 : Hid (∀ wi, Tw B ((wr.alloc (.cells #[.int .i64 uid, .int .i64 seq] 119)).alloc (.cells #[.int .i64 uid, .int .i64 seq] 3)) wi → IntsV wi (.slice (some ⟨(wr.heap.size + 1), 0, none⟩) 2 2) [uid, seq]) := fun wi h => ints_lit wi (wr.heap.size + 1) [uid, seq] (Tw.box h (by decide) HBN4.out) (by simp only [List.mem_cons, List.not_mem_nil, or_false, forall_eq_or_imp, forall_eq]; exact ⟨j0, j1⟩) (by simp)
          have HOA4 : Hid (OwnB ((wr.alloc (.cells #[.int .i64 uid, .int .i64 seq] 119)).alloc (.cells #[.int .i64 uid, .int .i64 seq] 3)) B _ (N ++ (x.gones.take k).flatMap goneBs)) := HOM.out.alloc _
          have HSZ4 : B ≤ ((wr.alloc (.cells #[.int .i64 uid, .int .i64 seq] 119)).alloc (.cells #[.int .i64 uid, .int .i64 seq] 3)).heap.size := by simp; omega
          clear HBN4
          go_wp2_with fail
          refine (putNums_b B _ _ _ [uid, seq] _ HOA4.out HSZ4 HNV4.out (by simp only [List.length_append]; omega) (by simp)).mono ?_
          rintro e w4 ⟨r4, rfl, R4, T4⟩
          have T5 : Hid (Tw B (w.alloc (.cells #[.slice a0 n0 c0, .int .i64 x.valid, .int .i64 x.next, .int .i64 x.seq, .slice a1 x.mails.length c1, .slice (some ⟨b, off, none⟩) x.gones.length c2, .int .i64 x.lost] 87)) w4) := hT.out.trans (TM.out.trans ((Tw.alloc sm _).trans T4))
          have HO4 : Hid (OwnB w4 B r4 (N ++ (x.gones.take (k + 1)).flatMap goneBs)) := by
            have e : N ++ (x.gones.take (k + 1)).flatMap goneBs = N ++ (x.gones.take k).flatMap goneBs ++ numsB [uid, seq] := by rw [HST.out]; simp [goneBs, numsB]
            rw [e]
            exact R4
          clear R4 T4 d0 d1 f0 f1 hlM HOM hO hT TM HM HST
          go_wp2
          go_roundw
          case rel => exact ⟨k + 1, by omega, by go_num, HO4, T5⟩
          case measure => simp [intOf]; omega
        · obtain rfl : k = x.gones.length := by omega
          have HF : Hid (N ++ (x.gones.take x.gones.length).flatMap goneBs = l ++ boxBs x) := by
            rw [Hid, List.take_length, ← HN.out, ← HL.out]
            simp [boxBs, numsB]
          go_wp2
          go_ret
          have hr := hO.out
          rw [HF.out] at hr
          exact ⟨_, rfl, hr, TA.out.trans hT.out⟩

end Go.Proofs.YtifpjdpcmfneaaaGreatDoor

/- What AccountBytes of package impl do. -/
namespace Go.Proofs.YtifpjdpcmfneaaaGreatDoor
open Go.RowKit
set_option maxRecDepth 100000
set_option linter.unusedVariables false
set_option linter.unusedSimpArgs false

set_option maxRecDepth 100000 in
set_option maxHeartbeats 4000000 in
theorem implAccountBytes_r (v : Value) (x : AccD) (w : World) (hv : AccV w v x) (hz : szXs x.boxes ≤ 2000000) :
    Calls Tryz.prog 22 #[v] w fun e w' => ∃ u, e = .returned (.tuple #[u, .bool (accB x)]) ∧ Row w' w.heap.size w'.heap.size u (outB x) ∧ Below w.heap.size w w' := by
  have HV : Hid (∀ wi, Below w.heap.size w wi → AccV wi v x) := fun wi h => hv.below h
  obtain ⟨u0, u1, rfl, g0, g1, i0⟩ := hv
  have H0 : Hid (∀ wi, Below w.heap.size w wi → BoxesV wi u0 x.boxes ∧ IntsV wi u1 x.seen) := fun wi h => ⟨g0.below keepsBox h, g1.below keepsInt h⟩
  obtain ⟨a0, c0, rfl, m0, m1⟩ := g0.form
  obtain ⟨a1, c1, rfl, m2, m3⟩ := g1.form
  clear g0 g1
  have HX : Hid (Below w.heap.size w (w.alloc (.cells #[.int .i64 x.valid, .slice a0 x.boxes.length c0, .slice a1 x.seen.length c1] 37))) := (Below.refl _ _).alloc (Nat.le_refl _) _
  have HK : Hid ((w.alloc (.cells #[.int .i64 x.valid, .slice a0 x.boxes.length c0, .slice a1 x.seen.length c1] 37)).heap[w.heap.size]? = some (.cells #[.int .i64 x.valid, .slice a0 x.boxes.length c0, .slice a1 x.seen.length c1] 37)) := box_new w _
  have hn := implAccountOk_any _ x _ (HV.out _ HX.out)
  cases hA : accB x with
  | false =>
    rw [hA] at hn
    have HO : Hid (outB x = []) := by simp only [Hid, outB, hA]
    go_enter Tryz.func22, Tryz.ntmps22
    go_wp2_with fail
    refine hn.mono ?_
    rintro e w1 ⟨rfl, B⟩
    have HB1 : Hid (Below w.heap.size w w1) := Below.step HX.out B
    clear B HK hn
    go_wp2
    go_ret2
    exact ⟨_, rfl, by rw [HO.out]; exact Row.nil _ _ _, HB1.out⟩
  | true =>
    rw [hA] at hn
    have HO : Hid (outB x = accBs x) := by simp only [Hid, outB, hA]
    obtain ⟨y0, y1⟩ := accB_small hA
    have y2 := accB_seen hA
    clear hA
    have H1 : Hid (BoxesV w (.slice a0 x.boxes.length c0) x.boxes ∧ IntsV w (.slice a1 x.seen.length c1) x.seen) := H0.out w (Below.refl _ _)
    clear H0 HV
    go_enter Tryz.func22, Tryz.ntmps22
    go_wp2_with fail
    refine hn.mono ?_
    rintro e w1 ⟨rfl, B1⟩
    have HK1 : Hid (w1.heap[w.heap.size]? = some (.cells #[.int .i64 x.valid, .slice a0 x.boxes.length c0, .slice a1 x.seen.length c1] 37)) := box_below B1 HK.out
    have HB1 : Hid (Below w.heap.size w w1) := Below.step HX.out B1
    clear B1 HK hn HX
    generalize hBB : w.heap.size = B at HB1 HK1
    have HBB : Hid (w.heap.size = B) := hBB
    have s1 : B ≤ w1.heap.size := by rw [← hBB]; exact HB1.out.size
    clear hBB
    have HO1 : Hid (OwnB w1 B (.slice none 0 0) []) := OwnB.nil' _ _
    obtain ⟨f0, f1, f2⟩ := bx3 HK1.out
    have hlA := lt_of_heap HK1.out
    have HBN1 : Hid (((w1).alloc (.cells #[.int .i64 x.valid, .int .i64 (x.boxes.length : Int)] 3)).heap[(w1).heap.size]? = some (.cells #[.int .i64 x.valid, .int .i64 (x.boxes.length : Int)] 3)) := by
      have h := box_new (w1) (.cells #[.int .i64 x.valid, .int .i64 (x.boxes.length : Int)] 3)
      exact h
    have HNV1 : Hid (∀ wi, Tw B ((w1).alloc (.cells #[.int .i64 x.valid, .int .i64 (x.boxes.length : Int)] 3)) wi → IntsV wi (.slice (some ⟨(w1).heap.size, 0, none⟩) 2 2) [x.valid, (x.boxes.length : Int)]) := fun wi h => ints_lit wi (w1).heap.size [x.valid, (x.boxes.length : Int)] (Tw.box h (by decide) HBN1.out) (by simp only [List.mem_cons, List.not_mem_nil, or_false, forall_eq_or_imp, forall_eq]; exact ⟨i0, by omega, by omega⟩) (by simp)
    have HOA1 : Hid (OwnB ((w1).alloc (.cells #[.int .i64 x.valid, .int .i64 (x.boxes.length : Int)] 3)) B _ ([])) := HO1.out.alloc _
    have HSZ1 : B ≤ ((w1).alloc (.cells #[.int .i64 x.valid, .int .i64 (x.boxes.length : Int)] 3)).heap.size := by simp; omega
    clear HBN1
    go_wp2_with fail
    refine (putNums_b B _ _ _ [x.valid, (x.boxes.length : Int)] _ HOA1.out HSZ1 HNV1.out (by simp) (by simp)).mono ?_
    rintro e w2 ⟨r2, rfl, R2, T2⟩
    have HO2 : Hid (OwnB w2 B r2 (numsB [x.valid, (x.boxes.length : Int)] ++ (x.boxes.take 0).flatMap boxBs)) := by simpa [Hid] using R2
    have T3 : Hid (Tw B w1 w2) := (Tw.alloc s1 _).trans T2
    clear R2 T2 f0 f1 f2 hlA HO1
    generalize hL : numsB [x.valid, (x.boxes.length : Int)] = L at HO2
    have hLl : L.length ≤ 20 := by
      have := nums_len [x.valid, (x.boxes.length : Int)]
      rw [← hL]; simp at this; omega
    have HL : Hid (numsB [x.valid, (x.boxes.length : Int)] = L) := hL
    clear hL
    obtain ⟨f0, f1, f2⟩ := bx3 (T3.out.box (by decide) HK1.out)
    have hlA := lt_of_heap (T3.out.box (by decide) HK1.out)
    go_wp2
    clear f0 f1 f2 hlA
    go_loopw [4, 20] (fun out i wr => ∃ k : Nat, k ≤ x.boxes.length ∧ i = .int .i64 k ∧ Hid (OwnB wr B out (L ++ (x.boxes.take k).flatMap boxBs)) ∧ Hid (Tw B w1 wr)) (fun _ i _ => x.boxes.length - (intOf i).toNat)
    case atStart => exact ⟨0, Nat.zero_le _, rfl, HO2, T3⟩
    case round =>
      clear HO2 T3
      obtain ⟨k, hk, rfl, hO, hT⟩ := hrel
      have hml := boxes_len (x.boxes.take k) (fun b hb => y1 b (List.mem_of_mem_take hb))
      have htk : (x.boxes.take k).length ≤ 4 := by simp; omega
      have sr : B ≤ wr.heap.size := Nat.le_trans s1 hT.out.size
      have hbr : Below w.heap.size w wr := by rw [HBB.out]; exact HB1.out.trans hT.out.below
      by_cases hlt : k < x.boxes.length
      · obtain ⟨m, hm⟩ : ∃ m, x.boxes[k]? = some m := ⟨x.boxes[k], List.getElem?_eq_getElem hlt⟩
        obtain ⟨b, off, cap', u0, u1, u2, hv', hlb, d0, d1, d2, d3, d4, d5, d6, hu0, hu1, hu2, j0, j1, j2, j3⟩ := BoxesV.cell H1.out.1 k m hm
        simp only [Value.slice.injEq, true_and] at hv'
        obtain ⟨rfl, rfl⟩ := hv'
        obtain ⟨ua, un, uc, rfl⟩ := hu0.form3
        obtain ⟨va, vc, rfl, -⟩ := hu1.form
        obtain ⟨wa, wc, rfl, -⟩ := hu2.form
        have HBV : Hid (BoxV w (.agg #[.slice ua un uc, .int .i64 m.valid, .int .i64 m.next, .int .i64 m.seq, .slice va m.mails.length vc, .slice wa m.gones.length wc, .int .i64 m.lost]) m) := ⟨_, _, _, rfl, hu0, hu1, hu2, j0, j1, j2, j3⟩
        replace d0 := (hbr.cell (p := ⟨b, off + k * 7, none⟩) hlb).trans d0
        replace d1 := (hbr.cell (p := ⟨b, off + k * 7 + 1, none⟩) hlb).trans d1
        replace d2 := (hbr.cell (p := ⟨b, off + k * 7 + 2, none⟩) hlb).trans d2
        replace d3 := (hbr.cell (p := ⟨b, off + k * 7 + 3, none⟩) hlb).trans d3
        replace d4 := (hbr.cell (p := ⟨b, off + k * 7 + 4, none⟩) hlb).trans d4
        replace d5 := (hbr.cell (p := ⟨b, off + k * 7 + 5, none⟩) hlb).trans d5
        replace d6 := (hbr.cell (p := ⟨b, off + k * 7 + 6, none⟩) hlb).trans d6
        replace hlb : b < wr.heap.size := Nat.lt_of_lt_of_le hlb hbr.size
        have hq := y1 m (List.mem_of_getElem? hm)
        have hsz : szX m ≤ 2000000 := by have := szXs_mem (List.mem_of_getElem? hm); omega
        have HST : Hid ((x.boxes.take (k + 1)).flatMap boxBs = (x.boxes.take k).flatMap boxBs ++ boxBs m) := flat_step boxBs hm
        have HM : Hid ((wr.alloc (.cells #[.slice ua un uc, .int .i64 m.valid, .int .i64 m.next, .int .i64 m.seq, .slice va m.mails.length vc, .slice wa m.gones.length wc, .int .i64 m.lost] 87)).heap[wr.heap.size]? = some (.cells #[.slice ua un uc, .int .i64 m.valid, .int .i64 m.next, .int .i64 m.seq, .slice va m.mails.length vc, .slice wa m.gones.length wc, .int .i64 m.lost] 87)) := box_new wr _
        have TM : Hid (Tw B wr (wr.alloc (.cells #[.slice ua un uc, .int .i64 m.valid, .int .i64 m.next, .int .i64 m.seq, .slice va m.mails.length vc, .slice wa m.gones.length wc, .int .i64 m.lost] 87))) := Tw.alloc sr _
        have HOM : Hid (OwnB (wr.alloc (.cells #[.slice ua un uc, .int .i64 m.valid, .int .i64 m.next, .int .i64 m.seq, .slice va m.mails.length vc, .slice wa m.gones.length wc, .int .i64 m.lost] 87)) B _ (L ++ (x.boxes.take k).flatMap boxBs)) := hO.out.alloc _
        have HBM : Hid (Below w.heap.size w (wr.alloc (.cells #[.slice ua un uc, .int .i64 m.valid, .int .i64 m.next, .int .i64 m.seq, .slice va m.mails.length vc, .slice wa m.gones.length wc, .int .i64 m.lost] 87))) := Below.step hbr ((Below.refl _ _).alloc (Nat.le_refl _) _)
        obtain ⟨f0, f1, f2, f3, f4, f5, f6⟩ := bx7 HM.out
        have hlM := lt_of_heap HM.out
        clear hu0 hu1 hu2 hm hbr
        go_wp2_with fail
        refine (putBox_b w _ _ _ m _ (by rw [HBB.out]; exact HOM.out) HBM.out HBV.out (by simp only [List.length_append]; omega) hq.1 hq.2 hsz).mono ?_
        rintro e w3 ⟨r3, rfl, R3, T3⟩
        rw [HBB.out] at R3 T3
        have T4 : Hid (Tw B w1 w3) := hT.out.trans (TM.out.trans T3)
        have HO3 : Hid (OwnB w3 B r3 (L ++ (x.boxes.take (k + 1)).flatMap boxBs)) := by
          rw [HST.out, ← List.append_assoc]
          exact R3
        clear R3 T3 hO hT HBV HST d0 d1 d2 d3 d4 d5 d6 f0 f1 f2 f3 f4 f5 f6 hlM HM TM HOM HBM
        go_wp2
        go_roundw
        case rel => exact ⟨k + 1, by omega, by go_num, HO3, T4⟩
        case measure => simp [intOf]; omega
      · obtain rfl : k = x.boxes.length := by omega
        have HE : Hid ((x.boxes.take x.boxes.length).flatMap boxBs = x.boxes.flatMap boxBs) := by rw [Hid, List.take_length]
        have HO8' := hO.out
        rw [HE.out] at HO8'
        have HO8 := (show Hid _ from HO8')
        clear HO8'
        have hml2 := boxes_len x.boxes y1
        have K8 := hT.out.box (by decide) HK1.out
        obtain ⟨f0, f1, f2⟩ := bx3 K8
        have hlA := lt_of_heap K8
        clear hO K8
        have HBN2 : Hid (((wr).alloc (.cells #[.int .i64 (x.seen.length : Int)] 3)).heap[(wr).heap.size]? = some (.cells #[.int .i64 (x.seen.length : Int)] 3)) := by
          have h := box_new (wr) (.cells #[.int .i64 (x.seen.length : Int)] 3)
          exact h
        have HNV2 : Hid (∀ wi, Tw B ((wr).alloc (.cells #[.int .i64 (x.seen.length : Int)] 3)) wi → IntsV wi (.slice (some ⟨(wr).heap.size, 0, none⟩) 1 1) [(x.seen.length : Int)]) := fun wi h => ints_lit wi (wr).heap.size [(x.seen.length : Int)] (Tw.box h (by decide) HBN2.out) (by simp only [List.mem_cons, List.not_mem_nil, or_false, forall_eq_or_imp, forall_eq]; exact ⟨by omega, by omega⟩) (by simp)
        have HOA2 : Hid (OwnB ((wr).alloc (.cells #[.int .i64 (x.seen.length : Int)] 3)) B _ (L ++ x.boxes.flatMap boxBs)) := (show OwnB wr B _ (L ++ x.boxes.flatMap boxBs) from HO8.out).alloc _
        have HSZ2 : B ≤ ((wr).alloc (.cells #[.int .i64 (x.seen.length : Int)] 3)).heap.size := by simp; omega
        clear HBN2
        go_wp2_with fail
        refine (putNums_b B _ _ _ [(x.seen.length : Int)] _ HOA2.out HSZ2 HNV2.out (by simp only [List.length_append]; omega) (by simp)).mono ?_
        rintro e w9 ⟨r9, rfl, R9, T9⟩
        have HO9 : Hid (OwnB w9 B r9 (L ++ x.boxes.flatMap boxBs ++ numsB [(x.seen.length : Int)])) := R9
        have T10 : Hid (Tw B w1 w9) := hT.out.trans ((Tw.alloc sr _).trans T9)
        have s9 : B ≤ w9.heap.size := Nat.le_trans s1 T10.out.size
        clear R9 T9 hT HO8 f0 f1 f2 hlA hlt hk HE hbr
        have HN9 : Hid (∀ wi, Tw B w9 wi → IntsV wi (.slice a1 x.seen.length c1) x.seen) := fun wi h => H1.out.2.below keepsInt (by rw [HBB.out]; exact HB1.out.trans (T10.out.below.trans h.below))
        have hn1 := nums_len [(x.seen.length : Int)]
        simp only [List.length_cons, List.length_nil] at hn1
        have K9 := T10.out.box (by decide) HK1.out
        obtain ⟨f0, f1, f2⟩ := bx3 K9
        have hlA := lt_of_heap K9
        clear K9
        go_wp2_with fail
        refine (putNums_b B _ _ _ x.seen _ HO9.out s9 HN9.out (by simp only [List.length_append]; omega) (by omega)).mono ?_
        rintro e w10 ⟨r10, rfl, R10, T11⟩
        have HF : Hid (L ++ x.boxes.flatMap boxBs ++ numsB [(x.seen.length : Int)] ++ numsB x.seen = outB x) := by
          rw [Hid, HO.out, ← HL.out]
          simp [accBs, numsB]
        rw [HF.out] at R10
        have HR : Hid (OwnB w10 w.heap.size r10 (outB x)) := by rw [HBB.out]; exact R10
        have HBF : Hid (Below w.heap.size w w10) := by rw [HBB.out]; exact HB1.out.trans (T10.out.below.trans T11.below)
        clear R10 T11 f0 f1 f2 hlA HF HN9 T10 HO9 HBB
        go_wp2
        go_ret2
        exact ⟨_, rfl, HR.out.toRow, HBF.out⟩

end Go.Proofs.YtifpjdpcmfneaaaGreatDoor

/- Rows of strings of the call's own. -/
namespace Go.Proofs.YtifpjdpcmfneaaaGreatDoor
open Go.RowKit

def strVals (ss : List (List Int)) : List Value := ss.map fun s => Value.string (strOfNums s)
theorem infoStr : (Tryz.prog.info? 9).map (fun i => (i.zero, i.size, i.bytes)) = some (some (.string ⟨#[]⟩), 1, 16) := by kernel_rfl
theorem rowS_lit (w : World) (B g : Nat) (ss : List (List Int)) (h : w.heap[g]? = some (.cells (strVals ss).toArray 9 (0, 0))) (hB : B ≤ g) (hl : ss.length ≤ 1000) :
    w.ownsRow B 9 1 (.slice (some ⟨g, 0, none⟩) ss.length ss.length) ss.length (strVals ss) := by
  refine ⟨by simp [strVals], .inr ⟨g, ss.length, _, rfl, hB, h, Nat.le_refl _, by unfold maxLen; omega, by simp [strVals], ?_⟩⟩
  simp only [Nat.mul_one]
  rw [List.take_of_length_le (by simp [strVals])]
theorem strs_of_row {w : World} {B : Nat} {v : Value} {ss : List (List Int)} (h : w.ownsRow B 9 1 v ss.length (strVals ss)) (ho : ∀ s, s ∈ ss → Oct s) : StrsV w v ss := by
  rcases h.2 with ⟨rfl, he⟩ | ⟨g, cap, cur, rfl, -, hh, h1, h2, h3, h4⟩
  · have : ss = [] := by simpa [strVals] using he
    subst this
    exact Rd.nil _
  · refine ⟨some ⟨g, 0, none⟩, cap, fun i => [.string (strOfNums (ss.getD i []))], rfl, h1, h2, (fun h => by cases h), fun i x hx => ?_, fun _ => ?_⟩
    · exact ⟨⟨by simp [List.getD_eq_getElem?_getD, hx], ho x (List.mem_of_getElem? hx)⟩, rfl⟩
    · refine ⟨g, 0, rfl, lt_of_heap hh, fun i j u hi hu => ?_⟩
      cases j with
      | zero =>
        simp only [List.getElem?_cons_zero, Option.some.injEq] at hu
        subst hu
        rw [show 0 + i * 1 + 0 = i by omega, cell_of_row w g i _ _ (0, 0) hh]
        have e : (strVals ss)[i]? = some (.string (strOfNums (ss.getD i []))) := by simp [strVals, List.getD_eq_getElem?_getD, hi]
        rw [← h4, Nat.mul_one, List.getElem?_take, if_pos hi] at e
        simpa using e
      | succ j => simp at hu

theorem wpList_append_strs {w : World} {ops : Array Oper} {rest : List Oper} {o : Oper} {a : Act} {Q : Exit → Act → World → Prop} (hgd : o.guard = none) (s x : Operand) (t : TypeId)
    (ho : o.op = .call { callee := .builtin .append, args := #[s, x], argTypes := #[t, t] })
    (i : TypeInfo) (ht : Tryz.prog.underlying t = some (.slice 9)) (hi : Tryz.prog.info? 9 = some i) (hz : i.zero = some (.string ⟨#[]⟩)) (hsize : i.size = 1) (hby : i.bytes = 16)
    (B : Nat) (v : Value) (ss ms : List (List Int)) (n m : Nat) (hn : n = ss.length) (hm : m = ms.length) (hs : a.eval s = v) (hown : w.ownsRow B 9 1 v n (strVals ss)) (g : Nat) (hx : a.eval x = .slice (some ⟨g, 0, none⟩) m m)
    (hg : w.heap[g]? = some (.cells (strVals ms).toArray 9 (0, 0))) (hlen : n + m ≤ 1000) (hbase : B ≤ w.heap.size)
    (h : ∀ v' w', w'.ownsRow B 9 1 v' (ss ++ ms).length (strVals (ss ++ ms)) → w.grownBy w' v.ownBlock → wpList Tryz.prog ops Q rest (a.put o.dst v') w') : wpList Tryz.prog ops Q (o :: rest) a w := by
  subst hn hm
  refine wpList_append_own w hgd s x t ho B 9 i (.string ⟨#[]⟩) 1 16 ht hi hz hsize hby rfl (by omega) v ss.length (strVals ss) hs hown ⟨g, 0, none⟩ ms.length ms.length (strVals ms) hx (by simp [strVals]) ?_ ?_ (by unfold maxLen; omega) (by omega) hbase ?_
  · intro j u hu
    rw [Addr.add_lit, cell_of_row w g _ _ _ (0, 0) hg]
    simpa using hu
  · intro u hu
    obtain ⟨y, _, rfl⟩ := List.mem_map.1 hu
    rfl
  · intro v' w' h1 h2 _
    refine h v' w' ?_ h2
    have e : strVals (ss ++ ms) = strVals ss ++ strVals ms := by simp [strVals]
    rw [e, List.length_append]
    exact h1

end Go.Proofs.YtifpjdpcmfneaaaGreatDoor

/- What the functions of package impl do that list a command's tokens. -/
namespace Go.Proofs.YtifpjdpcmfneaaaGreatDoor
open Go.RowKit
set_option maxRecDepth 100000
set_option linter.unusedVariables false

theorem tabT_changesTokens : (Tryz.f83.body.bind (opsAt 1)).all (fun o => tableO o 8 [0, 1, 2, 3, 4, 5, 6, 7] [5, 6]) = true := by kernel_rfl
theorem tabT_fetchTokens : (Tryz.f79.body.bind (opsAt 1)).all (fun o => tableO o 8 [0, 1, 2, 3, 4, 5, 6, 7] [5, 6]) = true := by kernel_rfl
theorem tabT_appendTokens : (Tryz.f75.body.bind (opsAt 1)).all (fun o => tableO o 11 [0, 1, 2, 3, 4, 6, 7, 5, 8, 9, 10] [7, 8, 9]) = true := by kernel_rfl

set_option maxRecDepth 100000 in
set_option maxHeartbeats 4000000 in
theorem changesTokens_r (v : Value) (k : Int) (bx tt : List Int) (uid mode fl si : Int) (tx : List Int) (w : World) (hv : CmdV w v k bx tt uid mode fl si tx) (y0 : 0 ≤ si) (y1 : si ≤ 9999999) (ht : Tab10 w) :
    Calls Tryz.prog 83 #[v] w fun e w' => ∃ u, e = .returned u ∧ StrsV w' u [bx, digB si.toNat] ∧ Below w.heap.size w w' := by
  obtain ⟨u0, u1, u2, rfl, g0, g1, g2, i0, i1, i2, i3, i4⟩ := hv
  obtain ⟨a0, n0, c0, rfl⟩ := g0.form3
  obtain ⟨a1, n1, c1, rfl⟩ := g1.form3
  obtain ⟨a2, n2, c2, rfl⟩ := g2.form3
  have HX : Hid (Below w.heap.size w (w.alloc (.cells #[.int .i64 k, .slice a0 n0 c0, .slice a1 n1 c1, .int .i64 uid, .int .i64 mode, .int .i64 fl, .int .i64 si, .slice a2 n2 c2] 34))) := (Below.refl _ _).alloc (Nat.le_refl _) _
  have HK : Hid ((w.alloc (.cells #[.int .i64 k, .slice a0 n0 c0, .slice a1 n1 c1, .int .i64 uid, .int .i64 mode, .int .i64 fl, .int .i64 si, .slice a2 n2 c2] 34)).heap[w.heap.size]? = some (.cells #[.int .i64 k, .slice a0 n0 c0, .slice a1 n1 c1, .int .i64 uid, .int .i64 mode, .int .i64 fl, .int .i64 si, .slice a2 n2 c2] 34)) := box_new w _
  have HG : Hid (∀ wi, Below w.heap.size w wi → Bs wi (.slice a0 n0 c0) bx ∧ Bs wi (.slice a2 n2 c2) tx) := fun wi h => ⟨g0.below h, g2.below h⟩
  have HOX : Hid (Oct bx ∧ Oct tx) := ⟨g0.1, g2.1⟩
  clear g0 g1 g2
  have HS : Hid (∀ w', Below (w.alloc (.cells #[.int .i64 k, .slice a0 n0 c0, .slice a1 n1 c1, .int .i64 uid, .int .i64 mode, .int .i64 fl, .int .i64 si, .slice a2 n2 c2] 34)).heap.size (w.alloc (.cells #[.int .i64 k, .slice a0 n0 c0, .slice a1 n1 c1, .int .i64 uid, .int .i64 mode, .int .i64 fl, .int .i64 si, .slice a2 n2 c2] 34)) w' → w'.cell? ⟨w.heap.size, 0, none⟩ = some (.int .i64 k) ∧ w'.cell? ⟨w.heap.size, 1, none⟩ = some (.slice a0 n0 c0) ∧ w'.cell? ⟨w.heap.size, 2, none⟩ = some (.slice a1 n1 c1) ∧ w'.cell? ⟨w.heap.size, 3, none⟩ = some (.int .i64 uid) ∧ w'.cell? ⟨w.heap.size, 4, none⟩ = some (.int .i64 mode) ∧ w'.cell? ⟨w.heap.size, 5, none⟩ = some (.int .i64 fl) ∧ w'.cell? ⟨w.heap.size, 6, none⟩ = some (.int .i64 si) ∧ w'.cell? ⟨w.heap.size, 7, none⟩ = some (.slice a2 n2 c2) ∧ (convert 22 9 (.slice a0 n0 c0)).run Tryz.prog w' = .ok (.string (strOfNums bx)) w') := by
    intro w' h
    obtain ⟨s0, s1, s2, s3, s4, s5, s6, s7⟩ := box8 (box_below h HK.out)
    exact ⟨s0, s1, s2, s3, s4, s5, s6, s7, run_convert_bs (HG.out _ (Below.step HX.out h)).1⟩
  have C0 : Below (w.alloc (.cells #[.int .i64 k, .slice a0 n0 c0, .slice a1 n1 c1, .int .i64 uid, .int .i64 mode, .int .i64 fl, .int .i64 si, .slice a2 n2 c2] 34)).heap.size (w.alloc (.cells #[.int .i64 k, .slice a0 n0 c0, .slice a1 n1 c1, .int .i64 uid, .int .i64 mode, .int .i64 fl, .int .i64 si, .slice a2 n2 c2] 34)) (w.alloc (.cells #[.int .i64 k, .slice a0 n0 c0, .slice a1 n1 c1, .int .i64 uid, .int .i64 mode, .int .i64 fl, .int .i64 si, .slice a2 n2 c2] 34)).drew := (Below.refl _ _).drew
  go_enter Tryz.func83, Tryz.ntmps83
  go_wp2
  refine wpO_begin (S := fun w' => w'.cell? ⟨w.heap.size, 0, none⟩ = some (.int .i64 k) ∧ w'.cell? ⟨w.heap.size, 1, none⟩ = some (.slice a0 n0 c0) ∧ w'.cell? ⟨w.heap.size, 2, none⟩ = some (.slice a1 n1 c1) ∧ w'.cell? ⟨w.heap.size, 3, none⟩ = some (.int .i64 uid) ∧ w'.cell? ⟨w.heap.size, 4, none⟩ = some (.int .i64 mode) ∧ w'.cell? ⟨w.heap.size, 5, none⟩ = some (.int .i64 fl) ∧ w'.cell? ⟨w.heap.size, 6, none⟩ = some (.int .i64 si) ∧ w'.cell? ⟨w.heap.size, 7, none⟩ = some (.slice a2 n2 c2) ∧ (convert 22 9 (.slice a0 n0 c0)).run Tryz.prog w' = .ok (.string (strOfNums bx)) w') (tabO_of (by kernel_rfl) tabT_changesTokens) (by kernel_rfl) (HS.out _ C0) (fun hTb hHeld => ?_)
  refine tkw 0 0 3 hTb hHeld ?_
  refine tkw 1 1 4 hTb hHeld ?_
  refine tkw 2 2 5 hTb hHeld ?_
  refine tkw 3 3 6 hTb hHeld ?_
  refine tkw 4 4 7 hTb hHeld ?_
  refine clo 5 5 hTb (by decide) rfl ?_
  refine AllReadyH.cons rfl (fun K hK => ?_) AllReadyH.nil
  go_simp
  refine (itoa_i si y0 y1 _ (Lib.tabBelow_of_tabIs ht _ (Below.step HX.out C0))).mono ?_
  rintro e w1 ⟨rfl, B1⟩
  have C1 := Below.step C0 B1
  clear B1
  refine hK.out _ _ (HS.out _ C1) (fun hHeld => ?_)
  clear hK K
  refine wpOrd_in (n := 8) (p := 5) (i := 5) rfl rfl rfl ?_
  refine clo 6 6 hTb (by decide) rfl ?_
  refine AllReadyH.cons rfl (fun K hK => ?_) AllReadyH.nil
  go_simp
  have C2 := Below.step C1 (show Below (w1).heap.size (w1) ((w1).alloc (.cells #[.string (strOfNums (bx)), .string (strOfNums (digB si.toNat))] 9)) from (Below.refl _ _).alloc (Nat.le_refl _) _)
  refine hK.out _ _ (HS.out _ C2) (fun hHeld => ?_)
  clear hK K
  refine wpOrd_in (n := 8) (p := 6) (i := 6) rfl rfl rfl ?_
  refine tkw 7 7 2 hTb hHeld ?_
  refine wpO_end hTb ?_
  have HF : Hid (StrsV (w1.alloc (.cells #[.string (strOfNums (bx)), .string (strOfNums (digB si.toNat))] 9)) (.slice (some ⟨w1.heap.size, 0, none⟩) 2 2) [bx, digB si.toNat]) := strs_lit _ _ [bx, digB si.toNat] (box_new w1 (.cells #[.string (strOfNums (bx)), .string (strOfNums (digB si.toNat))] 9)) (by
    intro s hs
    simp only [List.mem_cons, List.not_mem_nil, or_false] at hs
    rcases hs with rfl | rfl
    · exact HOX.out.1
    · exact digB_oct _) (by simp)
  have HBF : Hid (Below w.heap.size w (w1.alloc (.cells #[.string (strOfNums (bx)), .string (strOfNums (digB si.toNat))] 9))) := Below.step HX.out C2
  clear HS C0 hHeld hTb
  go_wp2
  go_ret
  exact ⟨_, rfl, HF.out, HBF.out⟩

set_option maxRecDepth 100000 in
set_option maxHeartbeats 4000000 in
theorem fetchTokens_r (v : Value) (k : Int) (bx tt : List Int) (uid mode fl si : Int) (tx : List Int) (w : World) (hv : CmdV w v k bx tt uid mode fl si tx) (y0 : 0 ≤ uid) (y1 : uid ≤ 9999999) (ht : Tab10 w) :
    Calls Tryz.prog 79 #[v] w fun e w' => ∃ u, e = .returned u ∧ StrsV w' u [bx, digB uid.toNat] ∧ Below w.heap.size w w' := by
  obtain ⟨u0, u1, u2, rfl, g0, g1, g2, i0, i1, i2, i3, i4⟩ := hv
  obtain ⟨a0, n0, c0, rfl⟩ := g0.form3
  obtain ⟨a1, n1, c1, rfl⟩ := g1.form3
  obtain ⟨a2, n2, c2, rfl⟩ := g2.form3
  have HX : Hid (Below w.heap.size w (w.alloc (.cells #[.int .i64 k, .slice a0 n0 c0, .slice a1 n1 c1, .int .i64 uid, .int .i64 mode, .int .i64 fl, .int .i64 si, .slice a2 n2 c2] 34))) := (Below.refl _ _).alloc (Nat.le_refl _) _
  have HK : Hid ((w.alloc (.cells #[.int .i64 k, .slice a0 n0 c0, .slice a1 n1 c1, .int .i64 uid, .int .i64 mode, .int .i64 fl, .int .i64 si, .slice a2 n2 c2] 34)).heap[w.heap.size]? = some (.cells #[.int .i64 k, .slice a0 n0 c0, .slice a1 n1 c1, .int .i64 uid, .int .i64 mode, .int .i64 fl, .int .i64 si, .slice a2 n2 c2] 34)) := box_new w _
  have HG : Hid (∀ wi, Below w.heap.size w wi → Bs wi (.slice a0 n0 c0) bx ∧ Bs wi (.slice a2 n2 c2) tx) := fun wi h => ⟨g0.below h, g2.below h⟩
  have HOX : Hid (Oct bx ∧ Oct tx) := ⟨g0.1, g2.1⟩
  clear g0 g1 g2
  have HS : Hid (∀ w', Below (w.alloc (.cells #[.int .i64 k, .slice a0 n0 c0, .slice a1 n1 c1, .int .i64 uid, .int .i64 mode, .int .i64 fl, .int .i64 si, .slice a2 n2 c2] 34)).heap.size (w.alloc (.cells #[.int .i64 k, .slice a0 n0 c0, .slice a1 n1 c1, .int .i64 uid, .int .i64 mode, .int .i64 fl, .int .i64 si, .slice a2 n2 c2] 34)) w' → w'.cell? ⟨w.heap.size, 0, none⟩ = some (.int .i64 k) ∧ w'.cell? ⟨w.heap.size, 1, none⟩ = some (.slice a0 n0 c0) ∧ w'.cell? ⟨w.heap.size, 2, none⟩ = some (.slice a1 n1 c1) ∧ w'.cell? ⟨w.heap.size, 3, none⟩ = some (.int .i64 uid) ∧ w'.cell? ⟨w.heap.size, 4, none⟩ = some (.int .i64 mode) ∧ w'.cell? ⟨w.heap.size, 5, none⟩ = some (.int .i64 fl) ∧ w'.cell? ⟨w.heap.size, 6, none⟩ = some (.int .i64 si) ∧ w'.cell? ⟨w.heap.size, 7, none⟩ = some (.slice a2 n2 c2) ∧ (convert 22 9 (.slice a0 n0 c0)).run Tryz.prog w' = .ok (.string (strOfNums bx)) w') := by
    intro w' h
    obtain ⟨s0, s1, s2, s3, s4, s5, s6, s7⟩ := box8 (box_below h HK.out)
    exact ⟨s0, s1, s2, s3, s4, s5, s6, s7, run_convert_bs (HG.out _ (Below.step HX.out h)).1⟩
  have C0 : Below (w.alloc (.cells #[.int .i64 k, .slice a0 n0 c0, .slice a1 n1 c1, .int .i64 uid, .int .i64 mode, .int .i64 fl, .int .i64 si, .slice a2 n2 c2] 34)).heap.size (w.alloc (.cells #[.int .i64 k, .slice a0 n0 c0, .slice a1 n1 c1, .int .i64 uid, .int .i64 mode, .int .i64 fl, .int .i64 si, .slice a2 n2 c2] 34)) (w.alloc (.cells #[.int .i64 k, .slice a0 n0 c0, .slice a1 n1 c1, .int .i64 uid, .int .i64 mode, .int .i64 fl, .int .i64 si, .slice a2 n2 c2] 34)).drew := (Below.refl _ _).drew
  go_enter Tryz.func79, Tryz.ntmps79
  go_wp2
  refine wpO_begin (S := fun w' => w'.cell? ⟨w.heap.size, 0, none⟩ = some (.int .i64 k) ∧ w'.cell? ⟨w.heap.size, 1, none⟩ = some (.slice a0 n0 c0) ∧ w'.cell? ⟨w.heap.size, 2, none⟩ = some (.slice a1 n1 c1) ∧ w'.cell? ⟨w.heap.size, 3, none⟩ = some (.int .i64 uid) ∧ w'.cell? ⟨w.heap.size, 4, none⟩ = some (.int .i64 mode) ∧ w'.cell? ⟨w.heap.size, 5, none⟩ = some (.int .i64 fl) ∧ w'.cell? ⟨w.heap.size, 6, none⟩ = some (.int .i64 si) ∧ w'.cell? ⟨w.heap.size, 7, none⟩ = some (.slice a2 n2 c2) ∧ (convert 22 9 (.slice a0 n0 c0)).run Tryz.prog w' = .ok (.string (strOfNums bx)) w') (tabO_of (by kernel_rfl) tabT_fetchTokens) (by kernel_rfl) (HS.out _ C0) (fun hTb hHeld => ?_)
  refine tkw 0 0 3 hTb hHeld ?_
  refine tkw 1 1 4 hTb hHeld ?_
  refine tkw 2 2 5 hTb hHeld ?_
  refine tkw 3 3 6 hTb hHeld ?_
  refine tkw 4 4 7 hTb hHeld ?_
  refine clo 5 5 hTb (by decide) rfl ?_
  refine AllReadyH.cons rfl (fun K hK => ?_) AllReadyH.nil
  go_simp
  refine (itoa_i uid y0 y1 _ (Lib.tabBelow_of_tabIs ht _ (Below.step HX.out C0))).mono ?_
  rintro e w1 ⟨rfl, B1⟩
  have C1 := Below.step C0 B1
  clear B1
  refine hK.out _ _ (HS.out _ C1) (fun hHeld => ?_)
  clear hK K
  refine wpOrd_in (n := 8) (p := 5) (i := 5) rfl rfl rfl ?_
  refine clo 6 6 hTb (by decide) rfl ?_
  refine AllReadyH.cons rfl (fun K hK => ?_) AllReadyH.nil
  go_simp
  have C2 := Below.step C1 (show Below (w1).heap.size (w1) ((w1).alloc (.cells #[.string (strOfNums (bx)), .string (strOfNums (digB uid.toNat))] 9)) from (Below.refl _ _).alloc (Nat.le_refl _) _)
  refine hK.out _ _ (HS.out _ C2) (fun hHeld => ?_)
  clear hK K
  refine wpOrd_in (n := 8) (p := 6) (i := 6) rfl rfl rfl ?_
  refine tkw 7 7 2 hTb hHeld ?_
  refine wpO_end hTb ?_
  have HF : Hid (StrsV (w1.alloc (.cells #[.string (strOfNums (bx)), .string (strOfNums (digB uid.toNat))] 9)) (.slice (some ⟨w1.heap.size, 0, none⟩) 2 2) [bx, digB uid.toNat]) := strs_lit _ _ [bx, digB uid.toNat] (box_new w1 (.cells #[.string (strOfNums (bx)), .string (strOfNums (digB uid.toNat))] 9)) (by
    intro s hs
    simp only [List.mem_cons, List.not_mem_nil, or_false] at hs
    rcases hs with rfl | rfl
    · exact HOX.out.1
    · exact digB_oct _) (by simp)
  have HBF : Hid (Below w.heap.size w (w1.alloc (.cells #[.string (strOfNums (bx)), .string (strOfNums (digB uid.toNat))] 9))) := Below.step HX.out C2
  clear HS C0 hHeld hTb
  go_wp2
  go_ret
  exact ⟨_, rfl, HF.out, HBF.out⟩

set_option maxRecDepth 100000 in
set_option maxHeartbeats 4000000 in
theorem appendTokens_r (v : Value) (k : Int) (bx tt : List Int) (uid mode fl si : Int) (tx : List Int) (w : World) (hv : CmdV w v k bx tt uid mode fl si tx) (y0 : 0 ≤ fl) (y1 : fl ≤ 31) (htx : tx.length ≤ 2000000) :
    Calls Tryz.prog 75 #[v] w fun e w' => ∃ u, e = .returned u ∧ StrsV w' u [bx, flagsB fl, quoB tx] ∧ Below w.heap.size w w' := by
  obtain ⟨u0, u1, u2, rfl, g0, g1, g2, i0, i1, i2, i3, i4⟩ := hv
  obtain ⟨a0, n0, c0, rfl⟩ := g0.form3
  obtain ⟨a1, n1, c1, rfl⟩ := g1.form3
  obtain ⟨a2, n2, c2, rfl⟩ := g2.form3
  have HX : Hid (Below w.heap.size w (w.alloc (.cells #[.int .i64 k, .slice a0 n0 c0, .slice a1 n1 c1, .int .i64 uid, .int .i64 mode, .int .i64 fl, .int .i64 si, .slice a2 n2 c2] 34))) := (Below.refl _ _).alloc (Nat.le_refl _) _
  have HK : Hid ((w.alloc (.cells #[.int .i64 k, .slice a0 n0 c0, .slice a1 n1 c1, .int .i64 uid, .int .i64 mode, .int .i64 fl, .int .i64 si, .slice a2 n2 c2] 34)).heap[w.heap.size]? = some (.cells #[.int .i64 k, .slice a0 n0 c0, .slice a1 n1 c1, .int .i64 uid, .int .i64 mode, .int .i64 fl, .int .i64 si, .slice a2 n2 c2] 34)) := box_new w _
  have HG : Hid (∀ wi, Below w.heap.size w wi → Bs wi (.slice a0 n0 c0) bx ∧ Bs wi (.slice a2 n2 c2) tx) := fun wi h => ⟨g0.below h, g2.below h⟩
  have HOX : Hid (Oct bx ∧ Oct tx) := ⟨g0.1, g2.1⟩
  clear g0 g1 g2
  have HS : Hid (∀ w', Below (w.alloc (.cells #[.int .i64 k, .slice a0 n0 c0, .slice a1 n1 c1, .int .i64 uid, .int .i64 mode, .int .i64 fl, .int .i64 si, .slice a2 n2 c2] 34)).heap.size (w.alloc (.cells #[.int .i64 k, .slice a0 n0 c0, .slice a1 n1 c1, .int .i64 uid, .int .i64 mode, .int .i64 fl, .int .i64 si, .slice a2 n2 c2] 34)) w' → w'.cell? ⟨w.heap.size, 0, none⟩ = some (.int .i64 k) ∧ w'.cell? ⟨w.heap.size, 1, none⟩ = some (.slice a0 n0 c0) ∧ w'.cell? ⟨w.heap.size, 2, none⟩ = some (.slice a1 n1 c1) ∧ w'.cell? ⟨w.heap.size, 3, none⟩ = some (.int .i64 uid) ∧ w'.cell? ⟨w.heap.size, 4, none⟩ = some (.int .i64 mode) ∧ w'.cell? ⟨w.heap.size, 5, none⟩ = some (.int .i64 fl) ∧ w'.cell? ⟨w.heap.size, 6, none⟩ = some (.int .i64 si) ∧ w'.cell? ⟨w.heap.size, 7, none⟩ = some (.slice a2 n2 c2) ∧ (convert 22 9 (.slice a0 n0 c0)).run Tryz.prog w' = .ok (.string (strOfNums bx)) w') := by
    intro w' h
    obtain ⟨s0, s1, s2, s3, s4, s5, s6, s7⟩ := box8 (box_below h HK.out)
    exact ⟨s0, s1, s2, s3, s4, s5, s6, s7, run_convert_bs (HG.out _ (Below.step HX.out h)).1⟩
  have C0 : Below (w.alloc (.cells #[.int .i64 k, .slice a0 n0 c0, .slice a1 n1 c1, .int .i64 uid, .int .i64 mode, .int .i64 fl, .int .i64 si, .slice a2 n2 c2] 34)).heap.size (w.alloc (.cells #[.int .i64 k, .slice a0 n0 c0, .slice a1 n1 c1, .int .i64 uid, .int .i64 mode, .int .i64 fl, .int .i64 si, .slice a2 n2 c2] 34)) (w.alloc (.cells #[.int .i64 k, .slice a0 n0 c0, .slice a1 n1 c1, .int .i64 uid, .int .i64 mode, .int .i64 fl, .int .i64 si, .slice a2 n2 c2] 34)).drew := (Below.refl _ _).drew
  go_enter Tryz.func75, Tryz.ntmps75
  go_wp2
  refine wpO_begin (S := fun w' => w'.cell? ⟨w.heap.size, 0, none⟩ = some (.int .i64 k) ∧ w'.cell? ⟨w.heap.size, 1, none⟩ = some (.slice a0 n0 c0) ∧ w'.cell? ⟨w.heap.size, 2, none⟩ = some (.slice a1 n1 c1) ∧ w'.cell? ⟨w.heap.size, 3, none⟩ = some (.int .i64 uid) ∧ w'.cell? ⟨w.heap.size, 4, none⟩ = some (.int .i64 mode) ∧ w'.cell? ⟨w.heap.size, 5, none⟩ = some (.int .i64 fl) ∧ w'.cell? ⟨w.heap.size, 6, none⟩ = some (.int .i64 si) ∧ w'.cell? ⟨w.heap.size, 7, none⟩ = some (.slice a2 n2 c2) ∧ (convert 22 9 (.slice a0 n0 c0)).run Tryz.prog w' = .ok (.string (strOfNums bx)) w') (tabO_of (by kernel_rfl) tabT_appendTokens) (by kernel_rfl) (HS.out _ C0) (fun hTb hHeld => ?_)
  refine tkw 0 0 3 hTb hHeld ?_
  refine tkw 1 1 4 hTb hHeld ?_
  refine tkw 2 2 5 hTb hHeld ?_
  refine tkw 3 3 6 hTb hHeld ?_
  refine tkw 4 4 7 hTb hHeld ?_
  refine tkw 5 6 9 hTb hHeld ?_
  refine tkw 6 7 10 hTb hHeld ?_
  refine clo 7 5 hTb (by decide) rfl ?_
  refine AllReadyH.cons rfl (fun K hK => ?_) AllReadyH.nil
  go_simp
  refine (flagsText_i fl y0 y1 _).mono ?_
  rintro e w1 ⟨rfl, B1⟩
  have C1 := Below.step C0 B1
  clear B1
  refine hK.out _ _ (HS.out _ C1) (fun hHeld => ?_)
  clear hK K
  refine wpOrd_in (n := 11) (p := 7) (i := 5) rfl rfl rfl ?_
  refine clo 8 8 hTb (by decide) rfl ?_
  refine AllReadyH.cons rfl (fun K hK => ?_) AllReadyH.nil
  go_simp
  refine (quotedText_r _ tx _ (HG.out _ (Below.step HX.out C1)).2 htx).mono ?_
  rintro e w2 ⟨rfl, B2⟩
  have C2 := Below.step C1 B2
  clear B2
  refine hK.out _ _ (HS.out _ C2) (fun hHeld => ?_)
  clear hK K
  refine wpOrd_in (n := 11) (p := 8) (i := 8) rfl rfl rfl ?_
  refine clo 9 9 hTb (by decide) rfl ?_
  refine AllReadyH.cons rfl (fun K hK => ?_) AllReadyH.nil
  go_simp
  have C3 := Below.step C2 (show Below (w2).heap.size (w2) ((w2).alloc (.cells #[.string (strOfNums (bx)), .string (strOfNums (flagsB fl)), .string (strOfNums (quoB tx))] 9)) from (Below.refl _ _).alloc (Nat.le_refl _) _)
  refine hK.out _ _ (HS.out _ C3) (fun hHeld => ?_)
  clear hK K
  refine wpOrd_in (n := 11) (p := 9) (i := 9) rfl rfl rfl ?_
  refine tkw 10 10 2 hTb hHeld ?_
  refine wpO_end hTb ?_
  have HF : Hid (StrsV (w2.alloc (.cells #[.string (strOfNums (bx)), .string (strOfNums (flagsB fl)), .string (strOfNums (quoB tx))] 9)) (.slice (some ⟨w2.heap.size, 0, none⟩) 3 3) [bx, flagsB fl, quoB tx]) := strs_lit _ _ [bx, flagsB fl, quoB tx] (box_new w2 (.cells #[.string (strOfNums (bx)), .string (strOfNums (flagsB fl)), .string (strOfNums (quoB tx))] 9)) (by
    intro s hs
    simp only [List.mem_cons, List.not_mem_nil, or_false] at hs
    rcases hs with rfl | rfl | rfl
    · exact HOX.out.1
    · exact flagsB_oct _
    · exact quoB_oct HOX.out.2) (by simp)
  have HBF : Hid (Below w.heap.size w (w2.alloc (.cells #[.string (strOfNums (bx)), .string (strOfNums (flagsB fl)), .string (strOfNums (quoB tx))] 9))) := Below.step HX.out C3
  clear HS C0 hHeld hTb
  go_wp2
  go_ret
  exact ⟨_, rfl, HF.out, HBF.out⟩

set_option maxRecDepth 100000 in
set_option maxHeartbeats 4000000 in
theorem boxTokens_r (v : Value) (k : Int) (bx tt : List Int) (uid mode fl si : Int) (tx : List Int) (w : World) (hv : CmdV w v k bx tt uid mode fl si tx) :
    Calls Tryz.prog 73 #[v] w fun e w' => ∃ u, e = .returned u ∧ StrsV w' u [bx] ∧ Below w.heap.size w w' := by
  obtain ⟨u0, u1, u2, rfl, g0, g1, g2, i0, i1, i2, i3, i4⟩ := hv
  obtain ⟨a0, n0, c0, rfl⟩ := g0.form3
  obtain ⟨a1, n1, c1, rfl⟩ := g1.form3
  obtain ⟨a2, n2, c2, rfl⟩ := g2.form3
  have HX : Hid (Below w.heap.size w (w.alloc (.cells #[.int .i64 k, .slice a0 n0 c0, .slice a1 n1 c1, .int .i64 uid, .int .i64 mode, .int .i64 fl, .int .i64 si, .slice a2 n2 c2] 34))) := (Below.refl _ _).alloc (Nat.le_refl _) _
  have HK : Hid ((w.alloc (.cells #[.int .i64 k, .slice a0 n0 c0, .slice a1 n1 c1, .int .i64 uid, .int .i64 mode, .int .i64 fl, .int .i64 si, .slice a2 n2 c2] 34)).heap[w.heap.size]? = some (.cells #[.int .i64 k, .slice a0 n0 c0, .slice a1 n1 c1, .int .i64 uid, .int .i64 mode, .int .i64 fl, .int .i64 si, .slice a2 n2 c2] 34)) := box_new w _
  have HG : Hid (∀ wi, Below w.heap.size w wi → Bs wi (.slice a0 n0 c0) bx ∧ Bs wi (.slice a2 n2 c2) tx) := fun wi h => ⟨g0.below h, g2.below h⟩
  have HOX : Hid (Oct bx ∧ Oct tx) := ⟨g0.1, g2.1⟩
  clear g0 g1 g2
  obtain ⟨f0, f1, f2, f3, f4, f5, f6, f7⟩ := box8 HK.out
  have hlA := lt_of_heap HK.out
  have hcv := run_convert_bs (HG.out _ HX.out).1
  go_enter Tryz.func73, Tryz.ntmps73
  go_wp2
  go_ret
  exact ⟨_, rfl, strs_lit _ _ [bx] (by have h := box_new (w.alloc (.cells #[.int .i64 k, .slice a0 n0 c0, .slice a1 n1 c1, .int .i64 uid, .int .i64 mode, .int .i64 fl, .int .i64 si, .slice a2 n2 c2] 34)) (.cells #[.string (strOfNums bx)] 9); rw [show (w.alloc (.cells #[.int .i64 k, .slice a0 n0 c0, .slice a1 n1 c1, .int .i64 uid, .int .i64 mode, .int .i64 fl, .int .i64 si, .slice a2 n2 c2] 34)).heap.size = w.heap.size + 1 by simp] at h; exact h) (by intro s hs; simp only [List.mem_cons, List.not_mem_nil, or_false] at hs; subst hs; exact HOX.out.1) (by simp), Below.step HX.out ((Below.refl _ _).alloc (Nat.le_refl _) _)⟩

set_option maxRecDepth 100000 in
set_option maxHeartbeats 4000000 in
theorem noTokens_r (v : Value) (k : Int) (bx tt : List Int) (uid mode fl si : Int) (tx : List Int) (w : World) (hv : CmdV w v k bx tt uid mode fl si tx) :
    Calls Tryz.prog 85 #[v] w fun e w' => ∃ u, e = .returned u ∧ StrsV w' u [] ∧ Below w.heap.size w w' := by
  obtain ⟨u0, u1, u2, rfl, g0, g1, g2, i0, i1, i2, i3, i4⟩ := hv
  obtain ⟨a0, n0, c0, rfl⟩ := g0.form3
  obtain ⟨a1, n1, c1, rfl⟩ := g1.form3
  obtain ⟨a2, n2, c2, rfl⟩ := g2.form3
  have HX : Hid (Below w.heap.size w (w.alloc (.cells #[.int .i64 k, .slice a0 n0 c0, .slice a1 n1 c1, .int .i64 uid, .int .i64 mode, .int .i64 fl, .int .i64 si, .slice a2 n2 c2] 34))) := (Below.refl _ _).alloc (Nat.le_refl _) _
  have HK : Hid ((w.alloc (.cells #[.int .i64 k, .slice a0 n0 c0, .slice a1 n1 c1, .int .i64 uid, .int .i64 mode, .int .i64 fl, .int .i64 si, .slice a2 n2 c2] 34)).heap[w.heap.size]? = some (.cells #[.int .i64 k, .slice a0 n0 c0, .slice a1 n1 c1, .int .i64 uid, .int .i64 mode, .int .i64 fl, .int .i64 si, .slice a2 n2 c2] 34)) := box_new w _
  have HG : Hid (∀ wi, Below w.heap.size w wi → Bs wi (.slice a0 n0 c0) bx ∧ Bs wi (.slice a2 n2 c2) tx) := fun wi h => ⟨g0.below h, g2.below h⟩
  have HOX : Hid (Oct bx ∧ Oct tx) := ⟨g0.1, g2.1⟩
  clear g0 g1 g2
  go_enter Tryz.func85, Tryz.ntmps85
  go_wp2
  go_ret
  exact ⟨_, rfl, Rd.nil _, HX.out⟩

end Go.Proofs.YtifpjdpcmfneaaaGreatDoor
