/- The proof's texts, part 9. -/
import Derived.Test.YtodoofdbpffolaaPart7
import Derived.Test.YtodoofdbpffolaaPart4
import Derived.Test.YtodoofdbpffolaaPart3
import Derived.Test.YtodoofdbpffolaaPart5
import Derived.Deep.RegionHeld3

/- What l3boxOk of package spec do. -/
namespace Go.Proofs.Ytodoofdbpffolaa
open Go.RowKit
set_option maxRecDepth 100000
set_option linter.unusedVariables false
set_option linter.unusedSimpArgs false

set_option maxRecDepth 100000 in
set_option maxHeartbeats 40000000 in
theorem l3boxOk_inI (v : Value) (x : BoxD) (mv : Int) (w : World) (hv : BoxV w v x) (hX1 : nameB x.name = true) (q0 : 1 ≤ x.valid) (q1 : x.valid ≤ mv) (q2 : 1 ≤ x.next) (q3 : x.next ≤ 1000000) (q4 : 0 ≤ x.seq) (q5 : x.seq ≤ 1000000) (q6 : (x.mails.length : Int) ≤ 12) (q7 : (x.gones.length : Int) ≤ 40) (q8 : 0 ≤ x.lost) (q9 : x.lost ≤ x.seq) (HMA0 : Hid (∀ j, j < x.mails.length → mailAt x j = true)) (HGB : Hid ((List.range x.gones.length).all (goneAt x) = false)) (HGE : Hid (∀ k, (∀ j, j < k → goneAt x j = true) → goneAt x k = false → earlyB x k = false)) :
    Calls Try.prog 14 #[v, .int .i64 mv] w fun e w' => e = .returned (.bool (boxB x mv)) ∧ Below w.heap.size w w' := by
  have HV : Hid (∀ wi, Below w.heap.size w wi → BoxV wi v x) := fun wi h => hv.below h
  have HNM : Hid ((List.range x.mails.length).all (mailAt x) = false → boxB x mv = false) := boxB_noM
  have HNG : Hid ((List.range x.gones.length).all (goneAt x) = false → boxB x mv = false) := boxB_noG
  have HN1 : Hid (nameB x.name = true) := hX1
  obtain ⟨u0, u1, u2, rfl, g0, g1, g2, i0, i1, i2, i3⟩ := hv
  have H0 : Hid (∀ wi, Below w.heap.size w wi → Bs wi u0 x.name ∧ MailsV wi u1 x.mails ∧ GonesV wi u2 x.gones) := fun wi h => ⟨g0.below h, g1.below keepsMail h, g2.below keepsGone h⟩
  obtain ⟨a0, n0, c0, rfl⟩ := g0.form3
  obtain ⟨a1, c1, rfl, m0, m1⟩ := g1.form
  obtain ⟨a2, c2, rfl, m2, m3⟩ := g2.form
  clear g0 g1 g2
  have HX : Hid (Below w.heap.size w (w.alloc (.cells #[.slice a0 n0 c0, .int .i64 x.valid, .int .i64 x.next, .int .i64 x.seq, .slice a1 x.mails.length c1, .slice a2 x.gones.length c2, .int .i64 x.lost] 31))) := (Below.refl _ _).alloc (Nat.le_refl _) _
  have HK : Hid ((w.alloc (.cells #[.slice a0 n0 c0, .int .i64 x.valid, .int .i64 x.next, .int .i64 x.seq, .slice a1 x.mails.length c1, .slice a2 x.gones.length c2, .int .i64 x.lost] 31)).heap[w.heap.size]? = some (.cells #[.slice a0 n0 c0, .int .i64 x.valid, .int .i64 x.next, .int .i64 x.seq, .slice a1 x.mails.length c1, .slice a2 x.gones.length c2, .int .i64 x.lost] 31)) := box_new w _
  have hn := l3name_any _ x.name _ (H0.out _ HX.out).1
  rw [hX1] at hn
  have z0 : decide (x.valid < 1) = false := by simpa using q0
  have z1 : decide (mv < x.valid) = false := by simpa using q1
  have z2 : decide (x.next < 1) = false := by simpa using q2
  have z3 : decide (1000000 < x.next) = false := by simpa using q3
  have z4 : decide (x.seq < 0) = false := by simpa using q4
  have z5 : decide (1000000 < x.seq) = false := by simpa using q5
  have z6 : decide (12 < (x.mails.length : Int)) = false := by simpa using q6
  have z7 : decide (40 < (x.gones.length : Int)) = false := by simpa using q7
  have z8 : decide (x.lost < 0) = false := by simpa using q8
  have z9 : decide (x.seq < x.lost) = false := by simpa using q9
  go_enter Try.func14, Try.ntmps14
  go_wp2_with fail
  refine hn.mono ?_
  rintro e w' ⟨rfl, rfl⟩
  clear hn hX1
  go_wp2
  clear z0 z1 z2 z3 z4 z5 z6 z7 z8 z9
  go_loopw [5, 6] (fun i _ wr => ∃ k : Nat, k ≤ x.mails.length ∧ i = .int .i64 k ∧ Hid (∀ j, j < k → mailAt x j = true) ∧ Hid (wr.heap[w.heap.size]? = some (.cells #[.slice a0 n0 c0, .int .i64 x.valid, .int .i64 x.next, .int .i64 x.seq, .slice a1 x.mails.length c1, .slice a2 x.gones.length c2, .int .i64 x.lost] 31)) ∧ Hid (Below w.heap.size w wr)) (fun i _ _ => x.mails.length - (intOf i).toNat)
  case atStart => exact ⟨0, Nat.zero_le _, rfl, (fun j hj => absurd hj (Nat.not_lt_zero _)), HK, HX⟩
  case round =>
    obtain ⟨k, hk, rfl, hA, hK, hB⟩ := hrel
    by_cases hlt : k < x.mails.length
    · obtain ⟨m, hm⟩ : ∃ m, x.mails[k]? = some m := ⟨x.mails[k], List.getElem?_eq_getElem hlt⟩
      obtain ⟨b, off, cap', u, hv', hlb, d0, d1, d2, d3, hu, j0, j1, j2⟩ := MailsV.cell (H0.out wr hB.out).2.1 k m hm
      simp only [Value.slice.injEq, true_and] at hv'
      obtain ⟨rfl, rfl⟩ := hv'
      obtain ⟨ua, un, uc, rfl⟩ := hu.form3
      have hp := prevU_ok q3 hk hA.out
      have HE : Hid (mailAt x k = (inB m.uid (prevU x.mails k + 1) (x.next - 1) && (inB m.flags 0 31 && (inB m.seq 1 x.seq && textB m.text)))) := by simp [Hid, mailAt, hm]
      generalize hQ : prevU x.mails k = q at hp HE
      have HQ : Hid (prevU x.mails k = q) := hQ
      clear hQ hm
      obtain ⟨uid, flags, seq, text⟩ := m
      simp only at d0 d1 d2 d3 hu j0 j1 j2 HE
      have DR : Below (wr.alloc (.cells #[.int .i64 uid, .int .i64 flags, .int .i64 seq, .slice ua un uc] 43)).heap.size (wr.alloc (.cells #[.int .i64 uid, .int .i64 flags, .int .i64 seq, .slice ua un uc] 43)) (wr.alloc (.cells #[.int .i64 uid, .int .i64 flags, .int .i64 seq, .slice ua un uc] 43)).drew := (Below.refl _ _).drew
      have HA1 : Hid (Below wr.heap.size wr (wr.alloc (.cells #[.int .i64 uid, .int .i64 flags, .int .i64 seq, .slice ua un uc] 43))) := (Below.refl _ _).alloc (Nat.le_refl _) _
      have HB1 : Hid (Below w.heap.size w (wr.alloc (.cells #[.int .i64 uid, .int .i64 flags, .int .i64 seq, .slice ua un uc] 43))) := Below.step hB.out HA1.out
      have HT : Hid (Calls Try.prog 37 #[.slice ua un uc] (wr.alloc (.cells #[.int .i64 uid, .int .i64 flags, .int .i64 seq, .slice ua un uc] 43)).drew fun e w' => e = .returned (.bool (textB text)) ∧ w' = (wr.alloc (.cells #[.int .i64 uid, .int .i64 flags, .int .i64 seq, .slice ua un uc] 43)).drew) := l3text_any _ text _ (hu.below (Below.step HA1.out DR))
      generalize textB text = XT at HE HT
      have HKm : Hid ((wr.alloc (.cells #[.int .i64 uid, .int .i64 flags, .int .i64 seq, .slice ua un uc] 43)).heap[wr.heap.size]? = some (.cells #[.int .i64 uid, .int .i64 flags, .int .i64 seq, .slice ua un uc] 43)) := box_new wr _
      have HKb : Hid ((wr.alloc (.cells #[.int .i64 uid, .int .i64 flags, .int .i64 seq, .slice ua un uc] 43)).heap[w.heap.size]? = some (.cells #[.slice a0 n0 c0, .int .i64 x.valid, .int .i64 x.next, .int .i64 x.seq, .slice (some ⟨b, off, none⟩) x.mails.length c1, .slice a2 x.gones.length c2, .int .i64 x.lost] 31)) := box_alloc hK.out _
      have HF : Hid (∀ w', Below (wr.alloc (.cells #[.int .i64 uid, .int .i64 flags, .int .i64 seq, .slice ua un uc] 43)).heap.size (wr.alloc (.cells #[.int .i64 uid, .int .i64 flags, .int .i64 seq, .slice ua un uc] 43)) w' → w'.cell? ⟨wr.heap.size, 0, none⟩ = some (.int .i64 uid) ∧ w'.cell? ⟨wr.heap.size, 1, none⟩ = some (.int .i64 flags) ∧ w'.cell? ⟨wr.heap.size, 2, none⟩ = some (.int .i64 seq) ∧ w'.cell? ⟨wr.heap.size, 3, none⟩ = some (.slice ua un uc) ∧ w'.cell? ⟨w.heap.size, 2, none⟩ = some (.int .i64 x.next) ∧ w'.cell? ⟨w.heap.size, 3, none⟩ = some (.int .i64 x.seq) ∧ w'.cell? ⟨w.heap.size, 4, none⟩ = some (.slice (some ⟨b, off, none⟩) x.mails.length c1)) := by
        intro w' h
        obtain ⟨r0, r1, r2, r3⟩ := bx4 (box_below h HKm.out)
        obtain ⟨s0, s1, s2, s3, s4, s5, s6⟩ := bx7 (box_below h HKb.out)
        exact ⟨r0, r1, r2, r3, s2, s3, s4⟩
      obtain ⟨e0, e1, e2, e3, e4, e5, e6⟩ := bx7 hK.out
      have hlA := lt_of_heap hK.out
      clear hu
      by_cases h1 : uid < 1
      · have e82 : decide (uid < 1) = true := decide_eq_true h1
        exact absurd (HMA0.out k hlt) (by rw [HE.out.trans (mailNo hp.1 (.inl h1))]; decide)
      have e82 : decide (uid < 1) = false := decide_eq_false h1
      by_cases h2 : x.next ≤ uid
      · have e88 : decide (x.next ≤ uid) = true := decide_eq_true h2
        exact absurd (HMA0.out k hlt) (by rw [HE.out.trans (mailNo hp.1 (.inr (.inl h2)))]; decide)
      have e88 : decide (x.next ≤ uid) = false := decide_eq_false h2
      by_cases hkz : (0 : Int) < (k : Int)
      · obtain ⟨j, hj⟩ : ∃ j, k = j + 1 := ⟨k - 1, by omega⟩
        have hjk : (j : Int) < (k : Int) := by omega
        have hjl : (j : Int) < (x.mails.length : Int) := by omega
        have hj0 : (0 : Int) ≤ (j : Int) := by omega
        have hw1 : IntKind.i64.wrap ((k : Int) - 1) = (j : Int) := by rw [IntWalk.i64_in _ (by omega)]; omega
        have hkN : 0 < k := by omega
        have hd : decide (0 < k) = true := by simpa using hkN
        have HJ : Hid (k = j + 1) := hj
        clear hj
        obtain ⟨m', hm'⟩ : ∃ m', x.mails[j]? = some m' := ⟨x.mails[j]'(by have := HJ.out; omega), List.getElem?_eq_getElem (by have := HJ.out; omega)⟩
        obtain ⟨b2, off2, cap2, u2, hv2, hlb2, t0, -⟩ := MailsV.cell (H0.out wr hB.out).2.1 j m' hm'
        simp only [Value.slice.injEq, true_and, Option.some.injEq, Addr.mk.injEq, and_true] at hv2
        obtain ⟨⟨rfl, rfl⟩, rfl⟩ := hv2
        have HPU : Hid (m'.uid = q) := by rw [← HQ.out, HJ.out]; simp [Hid, prevU, hm']
        generalize m'.uid = pu at t0 HPU
        clear hm'
        have HF2 : Hid (∀ w', Below (wr.alloc (.cells #[.int .i64 uid, .int .i64 flags, .int .i64 seq, .slice ua un uc] 43)).heap.size (wr.alloc (.cells #[.int .i64 uid, .int .i64 flags, .int .i64 seq, .slice ua un uc] 43)) w' → w'.cell? ⟨wr.heap.size, 0, none⟩ = some (.int .i64 uid) ∧ w'.cell? ⟨wr.heap.size, 1, none⟩ = some (.int .i64 flags) ∧ w'.cell? ⟨wr.heap.size, 2, none⟩ = some (.int .i64 seq) ∧ w'.cell? ⟨wr.heap.size, 3, none⟩ = some (.slice ua un uc) ∧ w'.cell? ⟨w.heap.size, 2, none⟩ = some (.int .i64 x.next) ∧ w'.cell? ⟨w.heap.size, 3, none⟩ = some (.int .i64 x.seq) ∧ w'.cell? ⟨w.heap.size, 4, none⟩ = some (.slice (some ⟨b, off, none⟩) x.mails.length c1) ∧ w'.cell? ⟨b, off + j * 4, none⟩ = some (.int .i64 pu)) := by
          intro w' h
          obtain ⟨r0, r1, r2, r3, s2, s3, s4⟩ := HF.out w' h
          exact ⟨r0, r1, r2, r3, s2, s3, s4, ((Below.step HA1.out h).cell (p := ⟨b, off + j * 4, none⟩) hlb).trans t0⟩
        by_cases h3 : uid ≤ pu
        · have e103 : decide (uid ≤ pu) = true := decide_eq_true h3
          exact absurd (HMA0.out k hlt) (by rw [HE.out.trans (mailNo hp.1 (.inr (.inr (.inl (by have := HPU.out; omega)))))]; decide)
        have e103 : decide (uid ≤ pu) = false := decide_eq_false h3
        by_cases h4 : flags < 0
        · have e109 : decide (flags < 0) = true := decide_eq_true h4
          exact absurd (HMA0.out k hlt) (by rw [HE.out.trans (mailNo hp.1 (.inr (.inr (.inr (.inl h4)))))]; decide)
        have e109 : decide (flags < 0) = false := decide_eq_false h4
        by_cases h5 : 31 < flags
        · have e114 : decide (31 < flags) = true := decide_eq_true h5
          exact absurd (HMA0.out k hlt) (by rw [HE.out.trans (mailNo hp.1 (.inr (.inr (.inr (.inr (.inl h5))))))]; decide)
        have e114 : decide (31 < flags) = false := decide_eq_false h5
        by_cases h6 : seq < 1
        · have e119 : decide (seq < 1) = true := decide_eq_true h6
          exact absurd (HMA0.out k hlt) (by rw [HE.out.trans (mailNo hp.1 (.inr (.inr (.inr (.inr (.inr (.inl h6)))))))]; decide)
        have e119 : decide (seq < 1) = false := decide_eq_false h6
        by_cases h7 : x.seq < seq
        · have e126 : decide (x.seq < seq) = true := decide_eq_true h7
          exact absurd (HMA0.out k hlt) (by rw [HE.out.trans (mailNo hp.1 (.inr (.inr (.inr (.inr (.inr (.inr (.inl h7))))))))]; decide)
        have e126 : decide (x.seq < seq) = false := decide_eq_false h7
        cases XT with
        | false =>
          exact absurd (HMA0.out k hlt) (by rw [HE.out.trans (mailNo hp.1 (.inr (.inr (.inr (.inr (.inr (.inr (.inr rfl))))))))]; decide)
        | true =>
          go_wp2
          refine wp_region_held_drew (S := fun w' => w'.cell? ⟨wr.heap.size, 0, none⟩ = some (.int .i64 uid) ∧ w'.cell? ⟨wr.heap.size, 1, none⟩ = some (.int .i64 flags) ∧ w'.cell? ⟨wr.heap.size, 2, none⟩ = some (.int .i64 seq) ∧ w'.cell? ⟨wr.heap.size, 3, none⟩ = some (.slice ua un uc) ∧ w'.cell? ⟨w.heap.size, 2, none⟩ = some (.int .i64 x.next) ∧ w'.cell? ⟨w.heap.size, 3, none⟩ = some (.int .i64 x.seq) ∧ w'.cell? ⟨w.heap.size, 4, none⟩ = some (.slice (some ⟨b, off, none⟩) x.mails.length c1) ∧ w'.cell? ⟨b, off + j * 4, none⟩ = some (.int .i64 pu)) (by kernel_rfl) (HF2.out _ DR) (fun hHeld => (show wpAnyH _ _ _ _ _ 54 #[false, false, false, false, false, false, false, false, false, false, false, false, false, false, false, false, false, false, false, false, false, false, false, false, false, false, false, false, false, false, false, false, false, false, false, false, false, false, false, false, false, false, false, false, false, false, false, false, false, false, false, false, false, false] _ _ from ?_))
          refine tq 0 80 hHeld ?_
          refine tq 1 81 hHeld ?_
          refine tq 2 82 hHeld ?_
          refine tq 3 83 hHeld ?_
          refine tq 4 84 hHeld ?_
          refine tq 5 85 hHeld ?_
          refine tq 6 86 hHeld ?_
          refine tq 7 87 hHeld ?_
          refine tq 8 88 hHeld ?_
          refine tq 9 89 hHeld ?_
          refine tq 10 90 hHeld ?_
          refine tq 11 91 hHeld ?_
          refine tq 12 92 hHeld ?_
          refine tq 13 93 hHeld ?_
          refine tq 14 94 hHeld ?_
          refine tq 15 95 hHeld ?_
          refine tq 16 96 hHeld ?_
          refine tq 17 97 hHeld ?_
          refine tq 18 98 hHeld ?_
          refine tq 19 99 hHeld ?_
          refine tq 20 100 hHeld ?_
          refine tq 21 101 hHeld ?_
          refine tq 22 102 hHeld ?_
          refine tq 23 103 hHeld ?_
          refine tq 24 104 hHeld ?_
          refine tq 25 105 hHeld ?_
          refine tq 26 106 hHeld ?_
          refine tq 27 107 hHeld ?_
          refine tq 28 108 hHeld ?_
          refine tq 29 109 hHeld ?_
          refine tq 30 110 hHeld ?_
          refine tq 31 111 hHeld ?_
          refine tq 32 112 hHeld ?_
          refine tq 33 113 hHeld ?_
          refine tq 34 114 hHeld ?_
          refine tq 35 115 hHeld ?_
          refine tq 36 116 hHeld ?_
          refine tq 37 117 hHeld ?_
          refine tq 38 118 hHeld ?_
          refine tq 39 119 hHeld ?_
          refine tq 40 120 hHeld ?_
          refine tq 41 121 hHeld ?_
          refine tq 42 122 hHeld ?_
          refine tq 43 123 hHeld ?_
          refine tq 44 124 hHeld ?_
          refine tq 45 125 hHeld ?_
          refine tq 46 126 hHeld ?_
          refine tq 47 127 hHeld ?_
          refine tq 48 128 hHeld ?_
          refine tq 49 129 hHeld ?_
          refine tq 50 130 hHeld ?_
          refine wpAnyH_ready (rs := [51]) (by kernel_rfl) (by simp) ?_
          refine AllReadyH.cons rfl (fun K hK => ?_) AllReadyH.nil
          go_simp
          refine HT.out.mono ?_
          rintro e w2 ⟨rfl, rfl⟩
          refine hK.out _ _ (HF2.out _ DR) (fun hHeld => ?_)
          clear hK K
          refine tq 52 132 hHeld ?_
          refine tq 53 133 hHeld ?_
          refine wpAnyH_done (by kernel_rfl) ?_ _
          have HB2 : Hid (Below w.heap.size w (wr.alloc (.cells #[.int .i64 uid, .int .i64 flags, .int .i64 seq, .slice ua un uc] 43)).drew) := Below.step HB1.out DR
          have HK2 : Hid ((wr.alloc (.cells #[.int .i64 uid, .int .i64 flags, .int .i64 seq, .slice ua un uc] 43)).drew.heap[w.heap.size]? = some (.cells #[.slice a0 n0 c0, .int .i64 x.valid, .int .i64 x.next, .int .i64 x.seq, .slice (some ⟨b, off, none⟩) x.mails.length c1, .slice a2 x.gones.length c2, .int .i64 x.lost] 31)) := box_below DR HKb.out
          clear HF HF2 HKm HKb HA1 HT HB1
          repeat clear hHeld
          go_wp2
          go_roundw
          case rel =>
            refine ⟨k + 1, by omega, by go_num, (show Hid _ from fun i hi => ?_), HK2, HB2⟩
            by_cases e : i = k
            · subst e; exact HE.out.trans (mailYes (by have := HPU.out; omega) (by omega) (by omega) (by omega) (by omega) (by omega) (by omega) rfl)
            · exact hA.out i (by omega)
          case measure => simp [intOf]; omega
      · have hkN : ¬ 0 < k := by omega
        have hd : decide (0 < k) = false := by simpa using hkN
        have HPU : Hid (q = 0) := by rw [← HQ.out]; have : k = 0 := by omega
                                     rw [this]; rfl
        by_cases h4 : flags < 0
        · have e109 : decide (flags < 0) = true := decide_eq_true h4
          exact absurd (HMA0.out k hlt) (by rw [HE.out.trans (mailNo hp.1 (.inr (.inr (.inr (.inl h4)))))]; decide)
        have e109 : decide (flags < 0) = false := decide_eq_false h4
        by_cases h5 : 31 < flags
        · have e114 : decide (31 < flags) = true := decide_eq_true h5
          exact absurd (HMA0.out k hlt) (by rw [HE.out.trans (mailNo hp.1 (.inr (.inr (.inr (.inr (.inl h5))))))]; decide)
        have e114 : decide (31 < flags) = false := decide_eq_false h5
        by_cases h6 : seq < 1
        · have e119 : decide (seq < 1) = true := decide_eq_true h6
          exact absurd (HMA0.out k hlt) (by rw [HE.out.trans (mailNo hp.1 (.inr (.inr (.inr (.inr (.inr (.inl h6)))))))]; decide)
        have e119 : decide (seq < 1) = false := decide_eq_false h6
        by_cases h7 : x.seq < seq
        · have e126 : decide (x.seq < seq) = true := decide_eq_true h7
          exact absurd (HMA0.out k hlt) (by rw [HE.out.trans (mailNo hp.1 (.inr (.inr (.inr (.inr (.inr (.inr (.inl h7))))))))]; decide)
        have e126 : decide (x.seq < seq) = false := decide_eq_false h7
        cases XT with
        | false =>
          exact absurd (HMA0.out k hlt) (by rw [HE.out.trans (mailNo hp.1 (.inr (.inr (.inr (.inr (.inr (.inr (.inr rfl))))))))]; decide)
        | true =>
          go_wp2
          refine wp_region_held_drew (S := fun w' => w'.cell? ⟨wr.heap.size, 0, none⟩ = some (.int .i64 uid) ∧ w'.cell? ⟨wr.heap.size, 1, none⟩ = some (.int .i64 flags) ∧ w'.cell? ⟨wr.heap.size, 2, none⟩ = some (.int .i64 seq) ∧ w'.cell? ⟨wr.heap.size, 3, none⟩ = some (.slice ua un uc) ∧ w'.cell? ⟨w.heap.size, 2, none⟩ = some (.int .i64 x.next) ∧ w'.cell? ⟨w.heap.size, 3, none⟩ = some (.int .i64 x.seq) ∧ w'.cell? ⟨w.heap.size, 4, none⟩ = some (.slice (some ⟨b, off, none⟩) x.mails.length c1)) (by kernel_rfl) (HF.out _ DR) (fun hHeld => (show wpAnyH _ _ _ _ _ 54 #[false, false, false, false, false, false, false, false, false, false, false, false, false, false, false, false, false, false, false, false, false, false, false, false, false, false, false, false, false, false, false, false, false, false, false, false, false, false, false, false, false, false, false, false, false, false, false, false, false, false, false, false, false, false] _ _ from ?_))
          refine tq 0 80 hHeld ?_
          refine tq 1 81 hHeld ?_
          refine tq 2 82 hHeld ?_
          refine tq 3 83 hHeld ?_
          refine tq 4 84 hHeld ?_
          refine tq 5 85 hHeld ?_
          refine tq 6 86 hHeld ?_
          refine tq 7 87 hHeld ?_
          refine tq 8 88 hHeld ?_
          refine tq 9 89 hHeld ?_
          refine tq 10 90 hHeld ?_
          refine tq 11 91 hHeld ?_
          refine tq 12 92 hHeld ?_
          refine tq 13 93 hHeld ?_
          refine wpAnyH_skips (by kernel_rfl) (fun _ _ _ _ _ h => h) hHeld [14, 15, 16, 17, 18, 19, 20, 21, 22, 23] [94, 95, 96, 97, 98, 99, 100, 101, 102, 103] _ _ _ (by kernel_rfl) ?_
          simp only [List.foldl_cons, List.foldl_nil, Act.put, sA, s0, sS]
          refine tq 24 104 hHeld ?_
          refine tq 25 105 hHeld ?_
          refine tq 26 106 hHeld ?_
          refine tq 27 107 hHeld ?_
          refine tq 28 108 hHeld ?_
          refine tq 29 109 hHeld ?_
          refine tq 30 110 hHeld ?_
          refine tq 31 111 hHeld ?_
          refine tq 32 112 hHeld ?_
          refine tq 33 113 hHeld ?_
          refine tq 34 114 hHeld ?_
          refine tq 35 115 hHeld ?_
          refine tq 36 116 hHeld ?_
          refine tq 37 117 hHeld ?_
          refine tq 38 118 hHeld ?_
          refine tq 39 119 hHeld ?_
          refine tq 40 120 hHeld ?_
          refine tq 41 121 hHeld ?_
          refine tq 42 122 hHeld ?_
          refine tq 43 123 hHeld ?_
          refine tq 44 124 hHeld ?_
          refine tq 45 125 hHeld ?_
          refine tq 46 126 hHeld ?_
          refine tq 47 127 hHeld ?_
          refine tq 48 128 hHeld ?_
          refine tq 49 129 hHeld ?_
          refine tq 50 130 hHeld ?_
          refine wpAnyH_ready (rs := [51]) (by kernel_rfl) (by simp) ?_
          refine AllReadyH.cons rfl (fun K hK => ?_) AllReadyH.nil
          go_simp
          refine HT.out.mono ?_
          rintro e w2 ⟨rfl, rfl⟩
          refine hK.out _ _ (HF.out _ DR) (fun hHeld => ?_)
          clear hK K
          refine tq 52 132 hHeld ?_
          refine tq 53 133 hHeld ?_
          refine wpAnyH_done (by kernel_rfl) ?_ _
          have HB2 : Hid (Below w.heap.size w (wr.alloc (.cells #[.int .i64 uid, .int .i64 flags, .int .i64 seq, .slice ua un uc] 43)).drew) := Below.step HB1.out DR
          have HK2 : Hid ((wr.alloc (.cells #[.int .i64 uid, .int .i64 flags, .int .i64 seq, .slice ua un uc] 43)).drew.heap[w.heap.size]? = some (.cells #[.slice a0 n0 c0, .int .i64 x.valid, .int .i64 x.next, .int .i64 x.seq, .slice (some ⟨b, off, none⟩) x.mails.length c1, .slice a2 x.gones.length c2, .int .i64 x.lost] 31)) := box_below DR HKb.out
          clear HF HKm HKb HA1 HT HB1
          repeat clear hHeld
          go_wp2
          go_roundw
          case rel =>
            refine ⟨k + 1, by omega, by go_num, (show Hid _ from fun i hi => ?_), HK2, HB2⟩
            by_cases e : i = k
            · subst e; exact HE.out.trans (mailYes (by have := HPU.out; omega) (by omega) (by omega) (by omega) (by omega) (by omega) (by omega) rfl)
            · exact hA.out i (by omega)
          case measure => simp [intOf]; omega
    · obtain rfl : k = x.mails.length := by omega
      obtain ⟨e0, e1, e2, e3, e4, e5, e6⟩ := bx7 hK.out
      go_wp2
      clear hlt e0 e1 e2 e3 e4 e5 e6
      have HMA : Hid (∀ j, j < x.mails.length → mailAt x j = true) := hA.out
      clear hA
      go_loopw [7, 8] (fun i _ wr => ∃ k : Nat, k ≤ x.gones.length ∧ i = .int .i64 k ∧ Hid (∀ j, j < k → goneAt x j = true) ∧ Hid (wr.heap[w.heap.size]? = some (.cells #[.slice a0 n0 c0, .int .i64 x.valid, .int .i64 x.next, .int .i64 x.seq, .slice a1 x.mails.length c1, .slice a2 x.gones.length c2, .int .i64 x.lost] 31)) ∧ Hid (Below w.heap.size w wr)) (fun i _ _ => x.gones.length - (intOf i).toNat)
      case atStart => exact ⟨0, Nat.zero_le _, rfl, (fun j hj => absurd hj (Nat.not_lt_zero _)), hK, hB⟩
      case round =>
        clear hK hB
        obtain ⟨k, hk, rfl, hA, hK, hB⟩ := hrel
        by_cases hlt : k < x.gones.length
        · obtain ⟨m, hm⟩ : ∃ m, x.gones[k]? = some m := ⟨x.gones[k], List.getElem?_eq_getElem hlt⟩
          obtain ⟨b, off, cap', hv', hlb, d0, d1, j0, j1⟩ := GonesV.cell (H0.out wr hB.out).2.2 k m hm
          simp only [Value.slice.injEq, true_and] at hv'
          obtain ⟨rfl, rfl⟩ := hv'
          have hms := minS_ok hk hA.out
          have HE : Hid (goneAt x k = (inB m.uid 1 (x.next - 1) && (inB m.seq (minS x k) x.seq && (!(x.mails.any fun o => decide (o.uid = m.uid)) && !((x.gones.take k).any fun o => decide (o.uid = m.uid)))))) := by simp [Hid, goneAt, hm]
          have HEB : Hid (earlyB x k = (decide (m.uid < 1) || (decide (x.next ≤ m.uid) || ((x.mails.any fun o => decide (o.uid = m.uid)) || (decide (m.seq < 1) || decide (x.seq < m.seq)))))) := by simp [Hid, earlyB, hm]
          generalize hQ : minS x k = ms at hms HE
          have HQ : Hid (minS x k = ms) := hQ
          clear hQ hm
          obtain ⟨uid, seq⟩ := m
          simp only at d0 d1 j0 j1 HE HEB
          have hkc : k ≤ c2 := by omega
          have DR : Below (wr.alloc (.cells #[.int .i64 uid, .int .i64 seq] 53)).heap.size (wr.alloc (.cells #[.int .i64 uid, .int .i64 seq] 53)) (wr.alloc (.cells #[.int .i64 uid, .int .i64 seq] 53)).drew := (Below.refl _ _).drew
          have HA1 : Hid (Below wr.heap.size wr (wr.alloc (.cells #[.int .i64 uid, .int .i64 seq] 53))) := (Below.refl _ _).alloc (Nat.le_refl _) _
          have HB1 : Hid (Below w.heap.size w (wr.alloc (.cells #[.int .i64 uid, .int .i64 seq] 53))) := Below.step hB.out HA1.out
          have HLM : Hid (∀ wi, Below wr.heap.size wr wi → Calls Try.prog 15 #[.agg #[.slice a0 n0 c0, .int .i64 x.valid, .int .i64 x.next, .int .i64 x.seq, .slice a1 x.mails.length c1, .slice (some ⟨b, off, none⟩) x.gones.length c2, .int .i64 x.lost], .int .i64 uid] wi fun e w' => e = .returned (.int .i64 (firstI (fun m => decide (m.uid = uid)) x.mails)) ∧ Below wi.heap.size wi w') := fun wi h => l3mail_any _ x uid wi (HV.out _ (Below.step hB.out h))
          have HLG : Hid (∀ wi, Below wr.heap.size wr wi → Calls Try.prog 16 #[.slice (some ⟨b, off, none⟩) k c2, .int .i64 uid] wi fun e w' => e = .returned (.bool ((x.gones.take k).any fun o => decide (o.uid = uid))) ∧ w' = wi) := fun wi h => l3gone_any _ (x.gones.take k) uid wi (((H0.out _ (Below.step hB.out h)).2.2).take k hk)
          have HMF : Hid ((x.mails.any fun o => decide (o.uid = uid)) = decide (0 ≤ firstI (fun m => decide (m.uid = uid)) x.mails)) := any_firstI _ _
          generalize (x.mails.any fun o => decide (o.uid = uid)) = M at HE HMF HEB
          generalize firstI (fun m => decide (m.uid = uid)) x.mails = fi at HLM HMF
          generalize ((x.gones.take k).any fun o => decide (o.uid = uid)) = XG at HE HLG
          have HKm : Hid ((wr.alloc (.cells #[.int .i64 uid, .int .i64 seq] 53)).heap[wr.heap.size]? = some (.cells #[.int .i64 uid, .int .i64 seq] 53)) := box_new wr _
          have HKb : Hid ((wr.alloc (.cells #[.int .i64 uid, .int .i64 seq] 53)).heap[w.heap.size]? = some (.cells #[.slice a0 n0 c0, .int .i64 x.valid, .int .i64 x.next, .int .i64 x.seq, .slice a1 x.mails.length c1, .slice (some ⟨b, off, none⟩) x.gones.length c2, .int .i64 x.lost] 31)) := box_alloc hK.out _
          have HF : Hid (∀ w', Below (wr.alloc (.cells #[.int .i64 uid, .int .i64 seq] 53)).heap.size (wr.alloc (.cells #[.int .i64 uid, .int .i64 seq] 53)) w' → w'.cell? ⟨wr.heap.size, 0, none⟩ = some (.int .i64 uid) ∧ w'.cell? ⟨wr.heap.size, 1, none⟩ = some (.int .i64 seq) ∧ w'.cell? ⟨w.heap.size, 0, none⟩ = some (.slice a0 n0 c0) ∧ w'.cell? ⟨w.heap.size, 1, none⟩ = some (.int .i64 x.valid) ∧ w'.cell? ⟨w.heap.size, 2, none⟩ = some (.int .i64 x.next) ∧ w'.cell? ⟨w.heap.size, 3, none⟩ = some (.int .i64 x.seq) ∧ w'.cell? ⟨w.heap.size, 4, none⟩ = some (.slice a1 x.mails.length c1) ∧ w'.cell? ⟨w.heap.size, 5, none⟩ = some (.slice (some ⟨b, off, none⟩) x.gones.length c2) ∧ w'.cell? ⟨w.heap.size, 6, none⟩ = some (.int .i64 x.lost)) := by
            intro w' h
            obtain ⟨r0, r1⟩ := bx2 (box_below h HKm.out)
            obtain ⟨s0, s1, s2, s3, s4, s5, s6⟩ := bx7 (box_below h HKb.out)
            exact ⟨r0, r1, s0, s1, s2, s3, s4, s5, s6⟩
          obtain ⟨e0, e1, e2, e3, e4, e5, e6⟩ := bx7 hK.out
          have hlA := lt_of_heap hK.out
          by_cases h1 : uid < 1
          · have e148 : decide (uid < 1) = true := decide_eq_true h1
            exact absurd (HGE.out k hA.out (HE.out.trans (goneNo (.inl h1)))) (by rw [HEB.out]; simp only [e148, Bool.true_or, Bool.or_true, Bool.false_or]; decide)
          have e148 : decide (uid < 1) = false := decide_eq_false h1
          by_cases h2 : x.next ≤ uid
          · have e154 : decide (x.next ≤ uid) = true := decide_eq_true h2
            exact absurd (HGE.out k hA.out (HE.out.trans (goneNo (.inr (.inl h2))))) (by rw [HEB.out]; simp only [e148, e154, Bool.true_or, Bool.or_true, Bool.false_or]; decide)
          have e154 : decide (x.next ≤ uid) = false := decide_eq_false h2
          by_cases h3 : 0 ≤ fi
          · have e161 : decide (0 ≤ fi) = true := decide_eq_true h3
            have HM0 : Hid (M = true) := HMF.out.trans e161
            exact absurd (HGE.out k hA.out (HE.out.trans (goneNo (.inr (.inr (.inl HM0.out)))))) (by rw [HEB.out]; simp only [e148, e154, HM0.out, Bool.true_or, Bool.or_true, Bool.false_or]; decide)
          have e161 : decide (0 ≤ fi) = false := decide_eq_false h3
          have HM0 : Hid (M = false) := HMF.out.trans e161
          by_cases h4 : seq < 1
          · have e166 : decide (seq < 1) = true := decide_eq_true h4
            exact absurd (HGE.out k hA.out (HE.out.trans (goneNo (.inr (.inr (.inr (.inr (.inl (by have := hms.1; omega))))))))) (by rw [HEB.out]; simp only [e148, e154, HM0.out, e166, Bool.true_or, Bool.or_true, Bool.false_or]; decide)
          have e166 : decide (seq < 1) = false := decide_eq_false h4
          by_cases h5 : x.seq < seq
          · have e173 : decide (x.seq < seq) = true := decide_eq_true h5
            exact absurd (HGE.out k hA.out (HE.out.trans (goneNo (.inr (.inr (.inr (.inl h5))))))) (by rw [HEB.out]; simp only [e148, e154, HM0.out, e166, e173, Bool.true_or, Bool.or_true, Bool.false_or]; decide)
          have e173 : decide (x.seq < seq) = false := decide_eq_false h5
          by_cases hkz : (0 : Int) < (k : Int)
          · obtain ⟨j, hj⟩ : ∃ j, k = j + 1 := ⟨k - 1, by omega⟩
            have hjk : (j : Int) < (k : Int) := by omega
            have hjl : (j : Int) < (x.gones.length : Int) := by omega
            have hj0 : (0 : Int) ≤ (j : Int) := by omega
            have hw1 : IntKind.i64.wrap ((k : Int) - 1) = (j : Int) := by rw [IntWalk.i64_in _ (by omega)]; omega
            have hkN : 0 < k := by omega
            have hd : decide (0 < k) = true := by simpa using hkN
            have HJ : Hid (k = j + 1) := hj
            clear hj
            obtain ⟨m', hm'⟩ : ∃ m', x.gones[j]? = some m' := ⟨x.gones[j]'(by have := HJ.out; omega), List.getElem?_eq_getElem (by have := HJ.out; omega)⟩
            obtain ⟨b2, off2, cap2, hv2, hlb2, -, t0, -⟩ := GonesV.cell (H0.out wr hB.out).2.2 j m' hm'
            simp only [Value.slice.injEq, true_and, Option.some.injEq, Addr.mk.injEq, and_true] at hv2
            obtain ⟨⟨rfl, rfl⟩, rfl⟩ := hv2
            have HPS : Hid (m'.seq = ms) := by rw [← HQ.out, HJ.out]; simp [Hid, minS, hm']
            generalize m'.seq = ps at t0 HPS
            clear hm'
            have HF2 : Hid (∀ w', Below (wr.alloc (.cells #[.int .i64 uid, .int .i64 seq] 53)).heap.size (wr.alloc (.cells #[.int .i64 uid, .int .i64 seq] 53)) w' → w'.cell? ⟨wr.heap.size, 0, none⟩ = some (.int .i64 uid) ∧ w'.cell? ⟨wr.heap.size, 1, none⟩ = some (.int .i64 seq) ∧ w'.cell? ⟨w.heap.size, 0, none⟩ = some (.slice a0 n0 c0) ∧ w'.cell? ⟨w.heap.size, 1, none⟩ = some (.int .i64 x.valid) ∧ w'.cell? ⟨w.heap.size, 2, none⟩ = some (.int .i64 x.next) ∧ w'.cell? ⟨w.heap.size, 3, none⟩ = some (.int .i64 x.seq) ∧ w'.cell? ⟨w.heap.size, 4, none⟩ = some (.slice a1 x.mails.length c1) ∧ w'.cell? ⟨w.heap.size, 5, none⟩ = some (.slice (some ⟨b, off, none⟩) x.gones.length c2) ∧ w'.cell? ⟨w.heap.size, 6, none⟩ = some (.int .i64 x.lost) ∧ w'.cell? ⟨b, off + j * 2 + 1, none⟩ = some (.int .i64 ps)) := by
              intro w' h
              obtain ⟨r0, r1, s0, s1, s2, s3, s4, s5, s6⟩ := HF.out w' h
              exact ⟨r0, r1, s0, s1, s2, s3, s4, s5, s6, ((Below.step HA1.out h).cell (p := ⟨b, off + j * 2 + 1, none⟩) hlb).trans t0⟩
            by_cases h6 : seq < ps
            · have e188 : decide (seq < ps) = true := decide_eq_true h6
              go_wp2
              refine wp_region_held_drew (S := fun w' => w'.cell? ⟨wr.heap.size, 0, none⟩ = some (.int .i64 uid) ∧ w'.cell? ⟨wr.heap.size, 1, none⟩ = some (.int .i64 seq) ∧ w'.cell? ⟨w.heap.size, 0, none⟩ = some (.slice a0 n0 c0) ∧ w'.cell? ⟨w.heap.size, 1, none⟩ = some (.int .i64 x.valid) ∧ w'.cell? ⟨w.heap.size, 2, none⟩ = some (.int .i64 x.next) ∧ w'.cell? ⟨w.heap.size, 3, none⟩ = some (.int .i64 x.seq) ∧ w'.cell? ⟨w.heap.size, 4, none⟩ = some (.slice a1 x.mails.length c1) ∧ w'.cell? ⟨w.heap.size, 5, none⟩ = some (.slice (some ⟨b, off, none⟩) x.gones.length c2) ∧ w'.cell? ⟨w.heap.size, 6, none⟩ = some (.int .i64 x.lost) ∧ w'.cell? ⟨b, off + j * 2 + 1, none⟩ = some (.int .i64 ps)) (by kernel_rfl) (HF2.out _ DR) (fun hHeld => (show wpAnyH _ _ _ _ _ 61 #[false, false, false, false, false, false, false, false, false, false, false, false, false, false, false, false, false, false, false, false, false, false, false, false, false, false, false, false, false, false, false, false, false, false, false, false, false, false, false, false, false, false, false, false, false, false, false, false, false, false, false, false, false, false, false, false, false, false, false, false, false] _ _ from ?_))
              refine tq 0 146 hHeld ?_
              refine tq 1 147 hHeld ?_
              refine tq 2 148 hHeld ?_
              refine tq 3 149 hHeld ?_
              refine tq 4 150 hHeld ?_
              refine tq 5 151 hHeld ?_
              refine tq 6 152 hHeld ?_
              refine tq 7 153 hHeld ?_
              refine tq 8 154 hHeld ?_
              refine tq 9 155 hHeld ?_
              refine tq 10 156 hHeld ?_
              refine tq 11 157 hHeld ?_
              refine tq 12 158 hHeld ?_
              refine tq 13 159 hHeld ?_
              refine wpAnyH_ready (rs := [14]) (by kernel_rfl) (by simp) ?_
              refine AllReadyH.cons rfl (fun K hK => ?_) AllReadyH.nil
              go_simp
              refine (HLM.out _ (Below.step HA1.out DR)).mono ?_
              rintro e w1 ⟨rfl, B⟩
              refine hK.out _ _ (HF2.out _ (Below.step DR B)) (fun hHeld => ?_)
              clear hK K
              refine tq 15 161 hHeld ?_
              refine tq 16 162 hHeld ?_
              refine tq 17 163 hHeld ?_
              refine tq 18 164 hHeld ?_
              refine tq 19 165 hHeld ?_
              refine tq 20 166 hHeld ?_
              refine tq 21 167 hHeld ?_
              refine tq 22 168 hHeld ?_
              refine tq 23 169 hHeld ?_
              refine tq 24 170 hHeld ?_
              refine tq 25 171 hHeld ?_
              refine tq 26 172 hHeld ?_
              refine tq 27 173 hHeld ?_
              refine tq 28 174 hHeld ?_
              refine tq 29 175 hHeld ?_
              refine tq 30 176 hHeld ?_
              refine tq 31 177 hHeld ?_
              refine tq 32 178 hHeld ?_
              refine tq 33 179 hHeld ?_
              refine tq 34 180 hHeld ?_
              refine tq 35 181 hHeld ?_
              refine tq 36 182 hHeld ?_
              refine tq 37 183 hHeld ?_
              refine tq 38 184 hHeld ?_
              refine tq 39 185 hHeld ?_
              refine tq 40 186 hHeld ?_
              refine tq 41 187 hHeld ?_
              refine tq 42 188 hHeld ?_
              refine tq 43 189 hHeld ?_
              refine tq 44 190 hHeld ?_
              refine tq 45 191 hHeld ?_
              refine wpAnyH_skips (by kernel_rfl) (fun _ _ _ _ _ h => h) hHeld [46, 47, 48, 49, 50] [192, 193, 194, 195, 196] _ _ _ (by kernel_rfl) ?_
              simp only [List.foldl_cons, List.foldl_nil, Act.put, sA, s0, sS]
              refine tq 51 197 hHeld ?_
              refine tq 52 198 hHeld ?_
              refine wpAnyH_skips (by kernel_rfl) (fun _ _ _ _ _ h => h) hHeld [53, 54, 55, 56, 57, 58, 59] [199, 200, 201, 202, 203, 204, 205] _ _ _ (by kernel_rfl) ?_
              simp only [List.foldl_cons, List.foldl_nil, Act.put, sA, s0, sS]
              refine tq 60 206 hHeld ?_
              refine wpAnyH_done (by kernel_rfl) ?_ _
              clear HF HF2 HKm HKb HA1 HLM HLG
              repeat clear hHeld
              go_wp2
              go_ret
              exact ⟨ret_b (HNG.out (rangeAll_no k hlt (HE.out.trans (goneNo (.inr (.inr (.inr (.inr (.inl (by have := HPS.out; omega)))))))))), Below.step (Below.step HB1.out DR) B⟩
            have e188 : decide (seq < ps) = false := decide_eq_false h6
            by_cases h7 : seq < x.lost
            · have e196 : decide (seq < x.lost) = true := decide_eq_true h7
              go_wp2
              refine wp_region_held_drew (S := fun w' => w'.cell? ⟨wr.heap.size, 0, none⟩ = some (.int .i64 uid) ∧ w'.cell? ⟨wr.heap.size, 1, none⟩ = some (.int .i64 seq) ∧ w'.cell? ⟨w.heap.size, 0, none⟩ = some (.slice a0 n0 c0) ∧ w'.cell? ⟨w.heap.size, 1, none⟩ = some (.int .i64 x.valid) ∧ w'.cell? ⟨w.heap.size, 2, none⟩ = some (.int .i64 x.next) ∧ w'.cell? ⟨w.heap.size, 3, none⟩ = some (.int .i64 x.seq) ∧ w'.cell? ⟨w.heap.size, 4, none⟩ = some (.slice a1 x.mails.length c1) ∧ w'.cell? ⟨w.heap.size, 5, none⟩ = some (.slice (some ⟨b, off, none⟩) x.gones.length c2) ∧ w'.cell? ⟨w.heap.size, 6, none⟩ = some (.int .i64 x.lost) ∧ w'.cell? ⟨b, off + j * 2 + 1, none⟩ = some (.int .i64 ps)) (by kernel_rfl) (HF2.out _ DR) (fun hHeld => (show wpAnyH _ _ _ _ _ 61 #[false, false, false, false, false, false, false, false, false, false, false, false, false, false, false, false, false, false, false, false, false, false, false, false, false, false, false, false, false, false, false, false, false, false, false, false, false, false, false, false, false, false, false, false, false, false, false, false, false, false, false, false, false, false, false, false, false, false, false, false, false] _ _ from ?_))
              refine tq 0 146 hHeld ?_
              refine tq 1 147 hHeld ?_
              refine tq 2 148 hHeld ?_
              refine tq 3 149 hHeld ?_
              refine tq 4 150 hHeld ?_
              refine tq 5 151 hHeld ?_
              refine tq 6 152 hHeld ?_
              refine tq 7 153 hHeld ?_
              refine tq 8 154 hHeld ?_
              refine tq 9 155 hHeld ?_
              refine tq 10 156 hHeld ?_
              refine tq 11 157 hHeld ?_
              refine tq 12 158 hHeld ?_
              refine tq 13 159 hHeld ?_
              refine wpAnyH_ready (rs := [14]) (by kernel_rfl) (by simp) ?_
              refine AllReadyH.cons rfl (fun K hK => ?_) AllReadyH.nil
              go_simp
              refine (HLM.out _ (Below.step HA1.out DR)).mono ?_
              rintro e w1 ⟨rfl, B⟩
              refine hK.out _ _ (HF2.out _ (Below.step DR B)) (fun hHeld => ?_)
              clear hK K
              refine tq 15 161 hHeld ?_
              refine tq 16 162 hHeld ?_
              refine tq 17 163 hHeld ?_
              refine tq 18 164 hHeld ?_
              refine tq 19 165 hHeld ?_
              refine tq 20 166 hHeld ?_
              refine tq 21 167 hHeld ?_
              refine tq 22 168 hHeld ?_
              refine tq 23 169 hHeld ?_
              refine tq 24 170 hHeld ?_
              refine tq 25 171 hHeld ?_
              refine tq 26 172 hHeld ?_
              refine tq 27 173 hHeld ?_
              refine tq 28 174 hHeld ?_
              refine tq 29 175 hHeld ?_
              refine tq 30 176 hHeld ?_
              refine tq 31 177 hHeld ?_
              refine tq 32 178 hHeld ?_
              refine tq 33 179 hHeld ?_
              refine tq 34 180 hHeld ?_
              refine tq 35 181 hHeld ?_
              refine tq 36 182 hHeld ?_
              refine tq 37 183 hHeld ?_
              refine tq 38 184 hHeld ?_
              refine tq 39 185 hHeld ?_
              refine tq 40 186 hHeld ?_
              refine tq 41 187 hHeld ?_
              refine tq 42 188 hHeld ?_
              refine tq 43 189 hHeld ?_
              refine tq 44 190 hHeld ?_
              refine tq 45 191 hHeld ?_
              refine tq 46 192 hHeld ?_
              refine tq 47 193 hHeld ?_
              refine tq 48 194 hHeld ?_
              refine tq 49 195 hHeld ?_
              refine tq 50 196 hHeld ?_
              refine tq 51 197 hHeld ?_
              refine tq 52 198 hHeld ?_
              refine wpAnyH_skips (by kernel_rfl) (fun _ _ _ _ _ h => h) hHeld [53, 54, 55, 56, 57, 58, 59] [199, 200, 201, 202, 203, 204, 205] _ _ _ (by kernel_rfl) ?_
              simp only [List.foldl_cons, List.foldl_nil, Act.put, sA, s0, sS]
              refine tq 60 206 hHeld ?_
              refine wpAnyH_done (by kernel_rfl) ?_ _
              clear HF HF2 HKm HKb HA1 HLM HLG
              repeat clear hHeld
              go_wp2
              go_ret
              exact ⟨ret_b (HNG.out (rangeAll_no k hlt (HE.out.trans (goneNo (.inr (.inr (.inr (.inr (.inl (by have := hms.2; omega)))))))))), Below.step (Below.step HB1.out DR) B⟩
            have e196 : decide (seq < x.lost) = false := decide_eq_false h7
            cases XG with
            | true =>
              go_wp2
              refine wp_region_held_drew (S := fun w' => w'.cell? ⟨wr.heap.size, 0, none⟩ = some (.int .i64 uid) ∧ w'.cell? ⟨wr.heap.size, 1, none⟩ = some (.int .i64 seq) ∧ w'.cell? ⟨w.heap.size, 0, none⟩ = some (.slice a0 n0 c0) ∧ w'.cell? ⟨w.heap.size, 1, none⟩ = some (.int .i64 x.valid) ∧ w'.cell? ⟨w.heap.size, 2, none⟩ = some (.int .i64 x.next) ∧ w'.cell? ⟨w.heap.size, 3, none⟩ = some (.int .i64 x.seq) ∧ w'.cell? ⟨w.heap.size, 4, none⟩ = some (.slice a1 x.mails.length c1) ∧ w'.cell? ⟨w.heap.size, 5, none⟩ = some (.slice (some ⟨b, off, none⟩) x.gones.length c2) ∧ w'.cell? ⟨w.heap.size, 6, none⟩ = some (.int .i64 x.lost) ∧ w'.cell? ⟨b, off + j * 2 + 1, none⟩ = some (.int .i64 ps)) (by kernel_rfl) (HF2.out _ DR) (fun hHeld => (show wpAnyH _ _ _ _ _ 61 #[false, false, false, false, false, false, false, false, false, false, false, false, false, false, false, false, false, false, false, false, false, false, false, false, false, false, false, false, false, false, false, false, false, false, false, false, false, false, false, false, false, false, false, false, false, false, false, false, false, false, false, false, false, false, false, false, false, false, false, false, false] _ _ from ?_))
              refine tq 0 146 hHeld ?_
              refine tq 1 147 hHeld ?_
              refine tq 2 148 hHeld ?_
              refine tq 3 149 hHeld ?_
              refine tq 4 150 hHeld ?_
              refine tq 5 151 hHeld ?_
              refine tq 6 152 hHeld ?_
              refine tq 7 153 hHeld ?_
              refine tq 8 154 hHeld ?_
              refine tq 9 155 hHeld ?_
              refine tq 10 156 hHeld ?_
              refine tq 11 157 hHeld ?_
              refine tq 12 158 hHeld ?_
              refine tq 13 159 hHeld ?_
              refine wpAnyH_ready (rs := [14]) (by kernel_rfl) (by simp) ?_
              refine AllReadyH.cons rfl (fun K hK => ?_) AllReadyH.nil
              go_simp
              refine (HLM.out _ (Below.step HA1.out DR)).mono ?_
              rintro e w1 ⟨rfl, B⟩
              refine hK.out _ _ (HF2.out _ (Below.step DR B)) (fun hHeld => ?_)
              clear hK K
              refine tq 15 161 hHeld ?_
              refine tq 16 162 hHeld ?_
              refine tq 17 163 hHeld ?_
              refine tq 18 164 hHeld ?_
              refine tq 19 165 hHeld ?_
              refine tq 20 166 hHeld ?_
              refine tq 21 167 hHeld ?_
              refine tq 22 168 hHeld ?_
              refine tq 23 169 hHeld ?_
              refine tq 24 170 hHeld ?_
              refine tq 25 171 hHeld ?_
              refine tq 26 172 hHeld ?_
              refine tq 27 173 hHeld ?_
              refine tq 28 174 hHeld ?_
              refine tq 29 175 hHeld ?_
              refine tq 30 176 hHeld ?_
              refine tq 31 177 hHeld ?_
              refine tq 32 178 hHeld ?_
              refine tq 33 179 hHeld ?_
              refine tq 34 180 hHeld ?_
              refine tq 35 181 hHeld ?_
              refine tq 36 182 hHeld ?_
              refine tq 37 183 hHeld ?_
              refine tq 38 184 hHeld ?_
              refine tq 39 185 hHeld ?_
              refine tq 40 186 hHeld ?_
              refine tq 41 187 hHeld ?_
              refine tq 42 188 hHeld ?_
              refine tq 43 189 hHeld ?_
              refine tq 44 190 hHeld ?_
              refine tq 45 191 hHeld ?_
              refine tq 46 192 hHeld ?_
              refine tq 47 193 hHeld ?_
              refine tq 48 194 hHeld ?_
              refine tq 49 195 hHeld ?_
              refine tq 50 196 hHeld ?_
              refine tq 51 197 hHeld ?_
              refine tq 52 198 hHeld ?_
              refine tq 53 199 hHeld ?_
              refine tq 54 200 hHeld ?_
              refine tq 55 201 hHeld ?_
              refine tq 56 202 hHeld ?_
              refine tq 57 203 hHeld ?_
              refine tq 58 204 hHeld ?_
              refine wpAnyH_ready (rs := [59]) (by kernel_rfl) (by simp) ?_
              refine AllReadyH.cons rfl (fun K hK => ?_) AllReadyH.nil
              go_simp
              refine (HLG.out _ (Below.step (Below.step HA1.out DR) B)).mono ?_
              rintro e w2 ⟨rfl, rfl⟩
              refine hK.out _ _ (HF2.out _ (Below.step DR B)) (fun hHeld => ?_)
              clear hK K
              refine tq 60 206 hHeld ?_
              refine wpAnyH_done (by kernel_rfl) ?_ _
              clear HF HF2 HKm HKb HA1 HLM HLG
              repeat clear hHeld
              go_wp2
              go_ret
              exact ⟨ret_b (HNG.out (rangeAll_no k hlt (HE.out.trans (goneNo (.inr (.inr (.inr (.inr (.inr rfl))))))))), Below.step (Below.step HB1.out DR) B⟩
            | false =>
              go_wp2
              refine wp_region_held_drew (S := fun w' => w'.cell? ⟨wr.heap.size, 0, none⟩ = some (.int .i64 uid) ∧ w'.cell? ⟨wr.heap.size, 1, none⟩ = some (.int .i64 seq) ∧ w'.cell? ⟨w.heap.size, 0, none⟩ = some (.slice a0 n0 c0) ∧ w'.cell? ⟨w.heap.size, 1, none⟩ = some (.int .i64 x.valid) ∧ w'.cell? ⟨w.heap.size, 2, none⟩ = some (.int .i64 x.next) ∧ w'.cell? ⟨w.heap.size, 3, none⟩ = some (.int .i64 x.seq) ∧ w'.cell? ⟨w.heap.size, 4, none⟩ = some (.slice a1 x.mails.length c1) ∧ w'.cell? ⟨w.heap.size, 5, none⟩ = some (.slice (some ⟨b, off, none⟩) x.gones.length c2) ∧ w'.cell? ⟨w.heap.size, 6, none⟩ = some (.int .i64 x.lost) ∧ w'.cell? ⟨b, off + j * 2 + 1, none⟩ = some (.int .i64 ps)) (by kernel_rfl) (HF2.out _ DR) (fun hHeld => (show wpAnyH _ _ _ _ _ 61 #[false, false, false, false, false, false, false, false, false, false, false, false, false, false, false, false, false, false, false, false, false, false, false, false, false, false, false, false, false, false, false, false, false, false, false, false, false, false, false, false, false, false, false, false, false, false, false, false, false, false, false, false, false, false, false, false, false, false, false, false, false] _ _ from ?_))
              refine tq 0 146 hHeld ?_
              refine tq 1 147 hHeld ?_
              refine tq 2 148 hHeld ?_
              refine tq 3 149 hHeld ?_
              refine tq 4 150 hHeld ?_
              refine tq 5 151 hHeld ?_
              refine tq 6 152 hHeld ?_
              refine tq 7 153 hHeld ?_
              refine tq 8 154 hHeld ?_
              refine tq 9 155 hHeld ?_
              refine tq 10 156 hHeld ?_
              refine tq 11 157 hHeld ?_
              refine tq 12 158 hHeld ?_
              refine tq 13 159 hHeld ?_
              refine wpAnyH_ready (rs := [14]) (by kernel_rfl) (by simp) ?_
              refine AllReadyH.cons rfl (fun K hK => ?_) AllReadyH.nil
              go_simp
              refine (HLM.out _ (Below.step HA1.out DR)).mono ?_
              rintro e w1 ⟨rfl, B⟩
              refine hK.out _ _ (HF2.out _ (Below.step DR B)) (fun hHeld => ?_)
              clear hK K
              refine tq 15 161 hHeld ?_
              refine tq 16 162 hHeld ?_
              refine tq 17 163 hHeld ?_
              refine tq 18 164 hHeld ?_
              refine tq 19 165 hHeld ?_
              refine tq 20 166 hHeld ?_
              refine tq 21 167 hHeld ?_
              refine tq 22 168 hHeld ?_
              refine tq 23 169 hHeld ?_
              refine tq 24 170 hHeld ?_
              refine tq 25 171 hHeld ?_
              refine tq 26 172 hHeld ?_
              refine tq 27 173 hHeld ?_
              refine tq 28 174 hHeld ?_
              refine tq 29 175 hHeld ?_
              refine tq 30 176 hHeld ?_
              refine tq 31 177 hHeld ?_
              refine tq 32 178 hHeld ?_
              refine tq 33 179 hHeld ?_
              refine tq 34 180 hHeld ?_
              refine tq 35 181 hHeld ?_
              refine tq 36 182 hHeld ?_
              refine tq 37 183 hHeld ?_
              refine tq 38 184 hHeld ?_
              refine tq 39 185 hHeld ?_
              refine tq 40 186 hHeld ?_
              refine tq 41 187 hHeld ?_
              refine tq 42 188 hHeld ?_
              refine tq 43 189 hHeld ?_
              refine tq 44 190 hHeld ?_
              refine tq 45 191 hHeld ?_
              refine tq 46 192 hHeld ?_
              refine tq 47 193 hHeld ?_
              refine tq 48 194 hHeld ?_
              refine tq 49 195 hHeld ?_
              refine tq 50 196 hHeld ?_
              refine tq 51 197 hHeld ?_
              refine tq 52 198 hHeld ?_
              refine tq 53 199 hHeld ?_
              refine tq 54 200 hHeld ?_
              refine tq 55 201 hHeld ?_
              refine tq 56 202 hHeld ?_
              refine tq 57 203 hHeld ?_
              refine tq 58 204 hHeld ?_
              refine wpAnyH_ready (rs := [59]) (by kernel_rfl) (by simp) ?_
              refine AllReadyH.cons rfl (fun K hK => ?_) AllReadyH.nil
              go_simp
              refine (HLG.out _ (Below.step (Below.step HA1.out DR) B)).mono ?_
              rintro e w2 ⟨rfl, rfl⟩
              refine hK.out _ _ (HF2.out _ (Below.step DR B)) (fun hHeld => ?_)
              clear hK K
              refine tq 60 206 hHeld ?_
              refine wpAnyH_done (by kernel_rfl) ?_ _
              have HB2 : Hid (Below w.heap.size w w2) := Below.step (Below.step HB1.out DR) B
              have HK2 : Hid (w2.heap[w.heap.size]? = some (.cells #[.slice a0 n0 c0, .int .i64 x.valid, .int .i64 x.next, .int .i64 x.seq, .slice a1 x.mails.length c1, .slice (some ⟨b, off, none⟩) x.gones.length c2, .int .i64 x.lost] 31)) := box_below B (box_below DR HKb.out)
              clear HF HF2 HKm HKb HA1 HLM HLG HB1
              repeat clear hHeld
              go_wp2
              go_roundw
              case rel =>
                refine ⟨k + 1, by omega, by go_num, (show Hid _ from fun i hi => ?_), HK2, HB2⟩
                by_cases e : i = k
                · subst e; exact HE.out.trans (goneYes (by omega) (by omega) (by have := HPS.out; omega) (by omega) HM0.out rfl)
                · exact hA.out i (by omega)
              case measure => simp [intOf]; omega
          · have hkN : ¬ 0 < k := by omega
            have hd : decide (0 < k) = false := by simpa using hkN
            have HPS : Hid (ms ≤ 1 ∨ ms ≤ x.lost) := by
              have : k = 0 := by omega
              rw [← HQ.out, this]
              simp only [Hid, minS]
              omega
            by_cases h7 : seq < x.lost
            · have e196 : decide (seq < x.lost) = true := decide_eq_true h7
              go_wp2
              refine wp_region_held_drew (S := fun w' => w'.cell? ⟨wr.heap.size, 0, none⟩ = some (.int .i64 uid) ∧ w'.cell? ⟨wr.heap.size, 1, none⟩ = some (.int .i64 seq) ∧ w'.cell? ⟨w.heap.size, 0, none⟩ = some (.slice a0 n0 c0) ∧ w'.cell? ⟨w.heap.size, 1, none⟩ = some (.int .i64 x.valid) ∧ w'.cell? ⟨w.heap.size, 2, none⟩ = some (.int .i64 x.next) ∧ w'.cell? ⟨w.heap.size, 3, none⟩ = some (.int .i64 x.seq) ∧ w'.cell? ⟨w.heap.size, 4, none⟩ = some (.slice a1 x.mails.length c1) ∧ w'.cell? ⟨w.heap.size, 5, none⟩ = some (.slice (some ⟨b, off, none⟩) x.gones.length c2) ∧ w'.cell? ⟨w.heap.size, 6, none⟩ = some (.int .i64 x.lost)) (by kernel_rfl) (HF.out _ DR) (fun hHeld => (show wpAnyH _ _ _ _ _ 61 #[false, false, false, false, false, false, false, false, false, false, false, false, false, false, false, false, false, false, false, false, false, false, false, false, false, false, false, false, false, false, false, false, false, false, false, false, false, false, false, false, false, false, false, false, false, false, false, false, false, false, false, false, false, false, false, false, false, false, false, false, false] _ _ from ?_))
              refine tq 0 146 hHeld ?_
              refine tq 1 147 hHeld ?_
              refine tq 2 148 hHeld ?_
              refine tq 3 149 hHeld ?_
              refine tq 4 150 hHeld ?_
              refine tq 5 151 hHeld ?_
              refine tq 6 152 hHeld ?_
              refine tq 7 153 hHeld ?_
              refine tq 8 154 hHeld ?_
              refine tq 9 155 hHeld ?_
              refine tq 10 156 hHeld ?_
              refine tq 11 157 hHeld ?_
              refine tq 12 158 hHeld ?_
              refine tq 13 159 hHeld ?_
              refine wpAnyH_ready (rs := [14]) (by kernel_rfl) (by simp) ?_
              refine AllReadyH.cons rfl (fun K hK => ?_) AllReadyH.nil
              go_simp
              refine (HLM.out _ (Below.step HA1.out DR)).mono ?_
              rintro e w1 ⟨rfl, B⟩
              refine hK.out _ _ (HF.out _ (Below.step DR B)) (fun hHeld => ?_)
              clear hK K
              refine tq 15 161 hHeld ?_
              refine tq 16 162 hHeld ?_
              refine tq 17 163 hHeld ?_
              refine tq 18 164 hHeld ?_
              refine tq 19 165 hHeld ?_
              refine tq 20 166 hHeld ?_
              refine tq 21 167 hHeld ?_
              refine tq 22 168 hHeld ?_
              refine tq 23 169 hHeld ?_
              refine tq 24 170 hHeld ?_
              refine tq 25 171 hHeld ?_
              refine tq 26 172 hHeld ?_
              refine tq 27 173 hHeld ?_
              refine tq 28 174 hHeld ?_
              refine tq 29 175 hHeld ?_
              refine tq 30 176 hHeld ?_
              refine tq 31 177 hHeld ?_
              refine tq 32 178 hHeld ?_
              refine wpAnyH_skips (by kernel_rfl) (fun _ _ _ _ _ h => h) hHeld [33, 34, 35, 36, 37, 38, 39, 40, 41, 42] [179, 180, 181, 182, 183, 184, 185, 186, 187, 188] _ _ _ (by kernel_rfl) ?_
              simp only [List.foldl_cons, List.foldl_nil, Act.put, sA, s0, sS]
              refine tq 43 189 hHeld ?_
              refine tq 44 190 hHeld ?_
              refine tq 45 191 hHeld ?_
              refine tq 46 192 hHeld ?_
              refine tq 47 193 hHeld ?_
              refine tq 48 194 hHeld ?_
              refine tq 49 195 hHeld ?_
              refine tq 50 196 hHeld ?_
              refine tq 51 197 hHeld ?_
              refine tq 52 198 hHeld ?_
              refine wpAnyH_skips (by kernel_rfl) (fun _ _ _ _ _ h => h) hHeld [53, 54, 55, 56, 57, 58, 59] [199, 200, 201, 202, 203, 204, 205] _ _ _ (by kernel_rfl) ?_
              simp only [List.foldl_cons, List.foldl_nil, Act.put, sA, s0, sS]
              refine tq 60 206 hHeld ?_
              refine wpAnyH_done (by kernel_rfl) ?_ _
              clear HF HKm HKb HA1 HLM HLG
              repeat clear hHeld
              go_wp2
              go_ret
              exact ⟨ret_b (HNG.out (rangeAll_no k hlt (HE.out.trans (goneNo (.inr (.inr (.inr (.inr (.inl (by have := hms.2; omega)))))))))), Below.step (Below.step HB1.out DR) B⟩
            have e196 : decide (seq < x.lost) = false := decide_eq_false h7
            cases XG with
            | true =>
              go_wp2
              refine wp_region_held_drew (S := fun w' => w'.cell? ⟨wr.heap.size, 0, none⟩ = some (.int .i64 uid) ∧ w'.cell? ⟨wr.heap.size, 1, none⟩ = some (.int .i64 seq) ∧ w'.cell? ⟨w.heap.size, 0, none⟩ = some (.slice a0 n0 c0) ∧ w'.cell? ⟨w.heap.size, 1, none⟩ = some (.int .i64 x.valid) ∧ w'.cell? ⟨w.heap.size, 2, none⟩ = some (.int .i64 x.next) ∧ w'.cell? ⟨w.heap.size, 3, none⟩ = some (.int .i64 x.seq) ∧ w'.cell? ⟨w.heap.size, 4, none⟩ = some (.slice a1 x.mails.length c1) ∧ w'.cell? ⟨w.heap.size, 5, none⟩ = some (.slice (some ⟨b, off, none⟩) x.gones.length c2) ∧ w'.cell? ⟨w.heap.size, 6, none⟩ = some (.int .i64 x.lost)) (by kernel_rfl) (HF.out _ DR) (fun hHeld => (show wpAnyH _ _ _ _ _ 61 #[false, false, false, false, false, false, false, false, false, false, false, false, false, false, false, false, false, false, false, false, false, false, false, false, false, false, false, false, false, false, false, false, false, false, false, false, false, false, false, false, false, false, false, false, false, false, false, false, false, false, false, false, false, false, false, false, false, false, false, false, false] _ _ from ?_))
              refine tq 0 146 hHeld ?_
              refine tq 1 147 hHeld ?_
              refine tq 2 148 hHeld ?_
              refine tq 3 149 hHeld ?_
              refine tq 4 150 hHeld ?_
              refine tq 5 151 hHeld ?_
              refine tq 6 152 hHeld ?_
              refine tq 7 153 hHeld ?_
              refine tq 8 154 hHeld ?_
              refine tq 9 155 hHeld ?_
              refine tq 10 156 hHeld ?_
              refine tq 11 157 hHeld ?_
              refine tq 12 158 hHeld ?_
              refine tq 13 159 hHeld ?_
              refine wpAnyH_ready (rs := [14]) (by kernel_rfl) (by simp) ?_
              refine AllReadyH.cons rfl (fun K hK => ?_) AllReadyH.nil
              go_simp
              refine (HLM.out _ (Below.step HA1.out DR)).mono ?_
              rintro e w1 ⟨rfl, B⟩
              refine hK.out _ _ (HF.out _ (Below.step DR B)) (fun hHeld => ?_)
              clear hK K
              refine tq 15 161 hHeld ?_
              refine tq 16 162 hHeld ?_
              refine tq 17 163 hHeld ?_
              refine tq 18 164 hHeld ?_
              refine tq 19 165 hHeld ?_
              refine tq 20 166 hHeld ?_
              refine tq 21 167 hHeld ?_
              refine tq 22 168 hHeld ?_
              refine tq 23 169 hHeld ?_
              refine tq 24 170 hHeld ?_
              refine tq 25 171 hHeld ?_
              refine tq 26 172 hHeld ?_
              refine tq 27 173 hHeld ?_
              refine tq 28 174 hHeld ?_
              refine tq 29 175 hHeld ?_
              refine tq 30 176 hHeld ?_
              refine tq 31 177 hHeld ?_
              refine tq 32 178 hHeld ?_
              refine wpAnyH_skips (by kernel_rfl) (fun _ _ _ _ _ h => h) hHeld [33, 34, 35, 36, 37, 38, 39, 40, 41, 42] [179, 180, 181, 182, 183, 184, 185, 186, 187, 188] _ _ _ (by kernel_rfl) ?_
              simp only [List.foldl_cons, List.foldl_nil, Act.put, sA, s0, sS]
              refine tq 43 189 hHeld ?_
              refine tq 44 190 hHeld ?_
              refine tq 45 191 hHeld ?_
              refine tq 46 192 hHeld ?_
              refine tq 47 193 hHeld ?_
              refine tq 48 194 hHeld ?_
              refine tq 49 195 hHeld ?_
              refine tq 50 196 hHeld ?_
              refine tq 51 197 hHeld ?_
              refine tq 52 198 hHeld ?_
              refine tq 53 199 hHeld ?_
              refine tq 54 200 hHeld ?_
              refine tq 55 201 hHeld ?_
              refine tq 56 202 hHeld ?_
              refine tq 57 203 hHeld ?_
              refine tq 58 204 hHeld ?_
              refine wpAnyH_ready (rs := [59]) (by kernel_rfl) (by simp) ?_
              refine AllReadyH.cons rfl (fun K hK => ?_) AllReadyH.nil
              go_simp
              refine (HLG.out _ (Below.step (Below.step HA1.out DR) B)).mono ?_
              rintro e w2 ⟨rfl, rfl⟩
              refine hK.out _ _ (HF.out _ (Below.step DR B)) (fun hHeld => ?_)
              clear hK K
              refine tq 60 206 hHeld ?_
              refine wpAnyH_done (by kernel_rfl) ?_ _
              clear HF HKm HKb HA1 HLM HLG
              repeat clear hHeld
              go_wp2
              go_ret
              exact ⟨ret_b (HNG.out (rangeAll_no k hlt (HE.out.trans (goneNo (.inr (.inr (.inr (.inr (.inr rfl))))))))), Below.step (Below.step HB1.out DR) B⟩
            | false =>
              go_wp2
              refine wp_region_held_drew (S := fun w' => w'.cell? ⟨wr.heap.size, 0, none⟩ = some (.int .i64 uid) ∧ w'.cell? ⟨wr.heap.size, 1, none⟩ = some (.int .i64 seq) ∧ w'.cell? ⟨w.heap.size, 0, none⟩ = some (.slice a0 n0 c0) ∧ w'.cell? ⟨w.heap.size, 1, none⟩ = some (.int .i64 x.valid) ∧ w'.cell? ⟨w.heap.size, 2, none⟩ = some (.int .i64 x.next) ∧ w'.cell? ⟨w.heap.size, 3, none⟩ = some (.int .i64 x.seq) ∧ w'.cell? ⟨w.heap.size, 4, none⟩ = some (.slice a1 x.mails.length c1) ∧ w'.cell? ⟨w.heap.size, 5, none⟩ = some (.slice (some ⟨b, off, none⟩) x.gones.length c2) ∧ w'.cell? ⟨w.heap.size, 6, none⟩ = some (.int .i64 x.lost)) (by kernel_rfl) (HF.out _ DR) (fun hHeld => (show wpAnyH _ _ _ _ _ 61 #[false, false, false, false, false, false, false, false, false, false, false, false, false, false, false, false, false, false, false, false, false, false, false, false, false, false, false, false, false, false, false, false, false, false, false, false, false, false, false, false, false, false, false, false, false, false, false, false, false, false, false, false, false, false, false, false, false, false, false, false, false] _ _ from ?_))
              refine tq 0 146 hHeld ?_
              refine tq 1 147 hHeld ?_
              refine tq 2 148 hHeld ?_
              refine tq 3 149 hHeld ?_
              refine tq 4 150 hHeld ?_
              refine tq 5 151 hHeld ?_
              refine tq 6 152 hHeld ?_
              refine tq 7 153 hHeld ?_
              refine tq 8 154 hHeld ?_
              refine tq 9 155 hHeld ?_
              refine tq 10 156 hHeld ?_
              refine tq 11 157 hHeld ?_
              refine tq 12 158 hHeld ?_
              refine tq 13 159 hHeld ?_
              refine wpAnyH_ready (rs := [14]) (by kernel_rfl) (by simp) ?_
              refine AllReadyH.cons rfl (fun K hK => ?_) AllReadyH.nil
              go_simp
              refine (HLM.out _ (Below.step HA1.out DR)).mono ?_
              rintro e w1 ⟨rfl, B⟩
              refine hK.out _ _ (HF.out _ (Below.step DR B)) (fun hHeld => ?_)
              clear hK K
              refine tq 15 161 hHeld ?_
              refine tq 16 162 hHeld ?_
              refine tq 17 163 hHeld ?_
              refine tq 18 164 hHeld ?_
              refine tq 19 165 hHeld ?_
              refine tq 20 166 hHeld ?_
              refine tq 21 167 hHeld ?_
              refine tq 22 168 hHeld ?_
              refine tq 23 169 hHeld ?_
              refine tq 24 170 hHeld ?_
              refine tq 25 171 hHeld ?_
              refine tq 26 172 hHeld ?_
              refine tq 27 173 hHeld ?_
              refine tq 28 174 hHeld ?_
              refine tq 29 175 hHeld ?_
              refine tq 30 176 hHeld ?_
              refine tq 31 177 hHeld ?_
              refine tq 32 178 hHeld ?_
              refine wpAnyH_skips (by kernel_rfl) (fun _ _ _ _ _ h => h) hHeld [33, 34, 35, 36, 37, 38, 39, 40, 41, 42] [179, 180, 181, 182, 183, 184, 185, 186, 187, 188] _ _ _ (by kernel_rfl) ?_
              simp only [List.foldl_cons, List.foldl_nil, Act.put, sA, s0, sS]
              refine tq 43 189 hHeld ?_
              refine tq 44 190 hHeld ?_
              refine tq 45 191 hHeld ?_
              refine tq 46 192 hHeld ?_
              refine tq 47 193 hHeld ?_
              refine tq 48 194 hHeld ?_
              refine tq 49 195 hHeld ?_
              refine tq 50 196 hHeld ?_
              refine tq 51 197 hHeld ?_
              refine tq 52 198 hHeld ?_
              refine tq 53 199 hHeld ?_
              refine tq 54 200 hHeld ?_
              refine tq 55 201 hHeld ?_
              refine tq 56 202 hHeld ?_
              refine tq 57 203 hHeld ?_
              refine tq 58 204 hHeld ?_
              refine wpAnyH_ready (rs := [59]) (by kernel_rfl) (by simp) ?_
              refine AllReadyH.cons rfl (fun K hK => ?_) AllReadyH.nil
              go_simp
              refine (HLG.out _ (Below.step (Below.step HA1.out DR) B)).mono ?_
              rintro e w2 ⟨rfl, rfl⟩
              refine hK.out _ _ (HF.out _ (Below.step DR B)) (fun hHeld => ?_)
              clear hK K
              refine tq 60 206 hHeld ?_
              refine wpAnyH_done (by kernel_rfl) ?_ _
              have HB2 : Hid (Below w.heap.size w w2) := Below.step (Below.step HB1.out DR) B
              have HK2 : Hid (w2.heap[w.heap.size]? = some (.cells #[.slice a0 n0 c0, .int .i64 x.valid, .int .i64 x.next, .int .i64 x.seq, .slice a1 x.mails.length c1, .slice (some ⟨b, off, none⟩) x.gones.length c2, .int .i64 x.lost] 31)) := box_below B (box_below DR HKb.out)
              clear HF HKm HKb HA1 HLM HLG HB1
              repeat clear hHeld
              go_wp2
              go_roundw
              case rel =>
                refine ⟨k + 1, by omega, by go_num, (show Hid _ from fun i hi => ?_), HK2, HB2⟩
                by_cases e : i = k
                · subst e; exact HE.out.trans (goneYes (by omega) (by omega) (by have := HPS.out; omega) (by omega) HM0.out rfl)
                · exact hA.out i (by omega)
              case measure => simp [intOf]; omega
        · obtain rfl : k = x.gones.length := by omega
          exact absurd (rangeAll_yes hA.out) (by rw [HGB.out]; decide)

end Go.Proofs.Ytodoofdbpffolaa
