/- The proof's texts, part 10. -/
import Derived.Test.YtifpjdpcmfneaaaGreatDoorPart6
import Derived.Test.YtifpjdpcmfneaaaGreatDoorPart5
import Derived.Test.YtifpjdpcmfneaaaGreatDoorPart3
import Derived.Test.YtifpjdpcmfneaaaGreatDoorPart4
import Derived.Deep.RegionHeld3

/- What l3boxOk of package spec do. -/
namespace Go.Proofs.YtifpjdpcmfneaaaGreatDoor
open Go.RowKit
set_option maxRecDepth 100000
set_option linter.unusedVariables false
set_option linter.unusedSimpArgs false

set_option maxRecDepth 100000 in
set_option maxHeartbeats 40000000 in
theorem l3boxOk_inJd (v : Value) (x : BoxD) (mv : Int) (w : World) (hv : BoxV w v x) (hX1 : nameB x.name = true) (q0 : 1 ≤ x.valid) (q1 : x.valid ≤ mv) (q2 : 1 ≤ x.next) (q3 : x.next ≤ 1000000) (q4 : 0 ≤ x.seq) (q5 : x.seq ≤ 1000000) (q6 : (x.mails.length : Int) ≤ 12) (q7 : (x.gones.length : Int) ≤ 40) (q8 : 0 ≤ x.lost) (q9 : x.lost ≤ x.seq) (HMA0 : Hid (∀ j, j < x.mails.length → mailAt x j = true)) (HGB : Hid ((List.range x.gones.length).all (goneAt x) = false)) (HGE : Hid (∀ k, (∀ j, j < k → goneAt x j = true) → goneAt x k = false → 2 ≤ clsB x k ∧ clsB x k ≤ 2)) :
    Calls Tryz.prog 60 #[v, .int .i64 mv] w fun e w' => e = .returned (.bool (boxB x mv)) ∧ Below w.heap.size w w' := by
  have HV : Hid (∀ wi, Below w.heap.size w wi → BoxV wi v x) := fun wi h => hv.below h
  have HNM : Hid ((List.range x.mails.length).all (mailAt x) = false → boxB x mv = false) := boxB_noM
  have HNG : Hid ((List.range x.gones.length).all (goneAt x) = false → boxB x mv = false) := boxB_noG
  have HN1 : Hid (nameB x.name = true) := hX1
  obtain ⟨u0, u1, u2, rfl, g0, g1, g2, i0, i1, i2, i3⟩ := hv
  have H0 : Hid (∀ wi, Below w.heap.size w wi → Bs wi u0 x.name ∧ MailsV wi u1 x.mails ∧ GonesV wi u2 x.gones) := fun wi h => ⟨g0.below h, g1.below keepsMail h, g2.below keepsGone h⟩
  obtain ⟨a0, n0, c0, rfl⟩ := g0.form3
  obtain ⟨a1, c1, rfl, m0, m1⟩ := g1.form
  obtain ⟨a2, c2, rfl, m2, m3⟩ := g2.form
  clear g0 g1 g2
  have HX : Hid (Below w.heap.size w (w.alloc (.cells #[.slice a0 n0 c0, .int .i64 x.valid, .int .i64 x.next, .int .i64 x.seq, .slice a1 x.mails.length c1, .slice a2 x.gones.length c2, .int .i64 x.lost] 87))) := (Below.refl _ _).alloc (Nat.le_refl _) _
  have HK : Hid ((w.alloc (.cells #[.slice a0 n0 c0, .int .i64 x.valid, .int .i64 x.next, .int .i64 x.seq, .slice a1 x.mails.length c1, .slice a2 x.gones.length c2, .int .i64 x.lost] 87)).heap[w.heap.size]? = some (.cells #[.slice a0 n0 c0, .int .i64 x.valid, .int .i64 x.next, .int .i64 x.seq, .slice a1 x.mails.length c1, .slice a2 x.gones.length c2, .int .i64 x.lost] 87)) := box_new w _
  have hn := l3name_any _ x.name _ (H0.out _ HX.out).1
  rw [hX1] at hn
  have z0 : decide (x.valid < 1) = false := by simpa using q0
  have z1 : decide (mv < x.valid) = false := by simpa using q1
  have z2 : decide (x.next < 1) = false := by simpa using q2
  have z3 : decide (1000000 < x.next) = false := by simpa using q3
  have z4 : decide (x.seq < 0) = false := by simpa using q4
  have z5 : decide (1000000 < x.seq) = false := by simpa using q5
  have z6 : decide (12 < (x.mails.length : Int)) = false := by simpa using q6
  have z7 : decide (40 < (x.gones.length : Int)) = false := by simpa using q7
  have z8 : decide (x.lost < 0) = false := by simpa using q8
  have z9 : decide (x.seq < x.lost) = false := by simpa using q9
  go_enter Tryz.func60, Tryz.ntmps60
  go_wp2_with fail
  refine hn.mono ?_
  rintro e w' ⟨rfl, rfl⟩
  clear hn hX1
  go_wp2
  clear z0 z1 z2 z3 z4 z5 z6 z7 z8 z9
  go_loopw [5, 6] (fun i _ wr => ∃ k : Nat, k ≤ x.mails.length ∧ i = .int .i64 k ∧ Hid (∀ j, j < k → mailAt x j = true) ∧ Hid (wr.heap[w.heap.size]? = some (.cells #[.slice a0 n0 c0, .int .i64 x.valid, .int .i64 x.next, .int .i64 x.seq, .slice a1 x.mails.length c1, .slice a2 x.gones.length c2, .int .i64 x.lost] 87)) ∧ Hid (Below w.heap.size w wr)) (fun i _ _ => x.mails.length - (intOf i).toNat)
  case atStart => exact ⟨0, Nat.zero_le _, rfl, (fun j hj => absurd hj (Nat.not_lt_zero _)), HK, HX⟩
  case round =>
    obtain ⟨k, hk, rfl, hA, hK, hB⟩ := hrel
    by_cases hlt : k < x.mails.length
    · obtain ⟨m, hm⟩ : ∃ m, x.mails[k]? = some m := ⟨x.mails[k], List.getElem?_eq_getElem hlt⟩
      obtain ⟨b, off, cap', u, hv', hlb, d0, d1, d2, d3, hu, j0, j1, j2⟩ := MailsV.cell (H0.out wr hB.out).2.1 k m hm
      simp only [Value.slice.injEq, true_and] at hv'
      obtain ⟨rfl, rfl⟩ := hv'
      obtain ⟨ua, un, uc, rfl⟩ := hu.form3
      have hp := prevU_ok q3 hk hA.out
      have HE : Hid (mailAt x k = (inB m.uid (prevU x.mails k + 1) (x.next - 1) && (inB m.flags 0 31 && (inB m.seq 1 x.seq && textB m.text)))) := by simp [Hid, mailAt, hm]
      generalize hQ : prevU x.mails k = q at hp HE
      have HQ : Hid (prevU x.mails k = q) := hQ
      clear hQ hm
      obtain ⟨uid, flags, seq, text⟩ := m
      simp only at d0 d1 d2 d3 hu j0 j1 j2 HE
      have DR : Below (wr.alloc (.cells #[.int .i64 uid, .int .i64 flags, .int .i64 seq, .slice ua un uc] 117)).heap.size (wr.alloc (.cells #[.int .i64 uid, .int .i64 flags, .int .i64 seq, .slice ua un uc] 117)) (wr.alloc (.cells #[.int .i64 uid, .int .i64 flags, .int .i64 seq, .slice ua un uc] 117)).drew := (Below.refl _ _).drew
      have HA1 : Hid (Below wr.heap.size wr (wr.alloc (.cells #[.int .i64 uid, .int .i64 flags, .int .i64 seq, .slice ua un uc] 117))) := (Below.refl _ _).alloc (Nat.le_refl _) _
      have HB1 : Hid (Below w.heap.size w (wr.alloc (.cells #[.int .i64 uid, .int .i64 flags, .int .i64 seq, .slice ua un uc] 117))) := Below.step hB.out HA1.out
      have HT : Hid (Calls Tryz.prog 59 #[.slice ua un uc] (wr.alloc (.cells #[.int .i64 uid, .int .i64 flags, .int .i64 seq, .slice ua un uc] 117)).drew fun e w' => e = .returned (.bool (textB text)) ∧ w' = (wr.alloc (.cells #[.int .i64 uid, .int .i64 flags, .int .i64 seq, .slice ua un uc] 117)).drew) := l3text_any _ text _ (hu.below (Below.step HA1.out DR))
      generalize textB text = XT at HE HT
      have HKm : Hid ((wr.alloc (.cells #[.int .i64 uid, .int .i64 flags, .int .i64 seq, .slice ua un uc] 117)).heap[wr.heap.size]? = some (.cells #[.int .i64 uid, .int .i64 flags, .int .i64 seq, .slice ua un uc] 117)) := box_new wr _
      have HKb : Hid ((wr.alloc (.cells #[.int .i64 uid, .int .i64 flags, .int .i64 seq, .slice ua un uc] 117)).heap[w.heap.size]? = some (.cells #[.slice a0 n0 c0, .int .i64 x.valid, .int .i64 x.next, .int .i64 x.seq, .slice (some ⟨b, off, none⟩) x.mails.length c1, .slice a2 x.gones.length c2, .int .i64 x.lost] 87)) := box_alloc hK.out _
      have HF : Hid (∀ w', Below (wr.alloc (.cells #[.int .i64 uid, .int .i64 flags, .int .i64 seq, .slice ua un uc] 117)).heap.size (wr.alloc (.cells #[.int .i64 uid, .int .i64 flags, .int .i64 seq, .slice ua un uc] 117)) w' → w'.cell? ⟨wr.heap.size, 0, none⟩ = some (.int .i64 uid) ∧ w'.cell? ⟨wr.heap.size, 1, none⟩ = some (.int .i64 flags) ∧ w'.cell? ⟨wr.heap.size, 2, none⟩ = some (.int .i64 seq) ∧ w'.cell? ⟨wr.heap.size, 3, none⟩ = some (.slice ua un uc) ∧ w'.cell? ⟨w.heap.size, 2, none⟩ = some (.int .i64 x.next) ∧ w'.cell? ⟨w.heap.size, 3, none⟩ = some (.int .i64 x.seq) ∧ w'.cell? ⟨w.heap.size, 4, none⟩ = some (.slice (some ⟨b, off, none⟩) x.mails.length c1)) := by
        intro w' h
        obtain ⟨r0, r1, r2, r3⟩ := bx4 (box_below h HKm.out)
        obtain ⟨s0, s1, s2, s3, s4, s5, s6⟩ := bx7 (box_below h HKb.out)
        exact ⟨r0, r1, r2, r3, s2, s3, s4⟩
      obtain ⟨e0, e1, e2, e3, e4, e5, e6⟩ := bx7 hK.out
      have hlA := lt_of_heap hK.out
      clear hu
      by_cases h1 : uid < 1
      · have e82 : decide (uid < 1) = true := decide_eq_true h1
        exact absurd (HMA0.out k hlt) (by rw [HE.out.trans (mailNo hp.1 (.inl h1))]; decide)
      have e82 : decide (uid < 1) = false := decide_eq_false h1
      by_cases h2 : x.next ≤ uid
      · have e88 : decide (x.next ≤ uid) = true := decide_eq_true h2
        exact absurd (HMA0.out k hlt) (by rw [HE.out.trans (mailNo hp.1 (.inr (.inl h2)))]; decide)
      have e88 : decide (x.next ≤ uid) = false := decide_eq_false h2
      by_cases hkz : (0 : Int) < (k : Int)
      · obtain ⟨j, hj⟩ : ∃ j, k = j + 1 := ⟨k - 1, by omega⟩
        have hjk : (j : Int) < (k : Int) := by omega
        have hjl : (j : Int) < (x.mails.length : Int) := by omega
        have hj0 : (0 : Int) ≤ (j : Int) := by omega
        have hw1 : IntKind.i64.wrap ((k : Int) - 1) = (j : Int) := by rw [IntWalk.i64_in _ (by omega)]; omega
        have hkN : 0 < k := by omega
        have hd : decide (0 < k) = true := by simpa using hkN
        have HJ : Hid (k = j + 1) := hj
        clear hj
        obtain ⟨m', hm'⟩ : ∃ m', x.mails[j]? = some m' := ⟨x.mails[j]'(by have := HJ.out; omega), List.getElem?_eq_getElem (by have := HJ.out; omega)⟩
        obtain ⟨b2, off2, cap2, u2, hv2, hlb2, t0, -⟩ := MailsV.cell (H0.out wr hB.out).2.1 j m' hm'
        simp only [Value.slice.injEq, true_and, Option.some.injEq, Addr.mk.injEq, and_true] at hv2
        obtain ⟨⟨rfl, rfl⟩, rfl⟩ := hv2
        have HPU : Hid (m'.uid = q) := by rw [← HQ.out, HJ.out]; simp [Hid, prevU, hm']
        generalize m'.uid = pu at t0 HPU
        clear hm'
        have HF2 : Hid (∀ w', Below (wr.alloc (.cells #[.int .i64 uid, .int .i64 flags, .int .i64 seq, .slice ua un uc] 117)).heap.size (wr.alloc (.cells #[.int .i64 uid, .int .i64 flags, .int .i64 seq, .slice ua un uc] 117)) w' → w'.cell? ⟨wr.heap.size, 0, none⟩ = some (.int .i64 uid) ∧ w'.cell? ⟨wr.heap.size, 1, none⟩ = some (.int .i64 flags) ∧ w'.cell? ⟨wr.heap.size, 2, none⟩ = some (.int .i64 seq) ∧ w'.cell? ⟨wr.heap.size, 3, none⟩ = some (.slice ua un uc) ∧ w'.cell? ⟨w.heap.size, 2, none⟩ = some (.int .i64 x.next) ∧ w'.cell? ⟨w.heap.size, 3, none⟩ = some (.int .i64 x.seq) ∧ w'.cell? ⟨w.heap.size, 4, none⟩ = some (.slice (some ⟨b, off, none⟩) x.mails.length c1) ∧ w'.cell? ⟨b, off + j * 4, none⟩ = some (.int .i64 pu)) := by
          intro w' h
          obtain ⟨r0, r1, r2, r3, s2, s3, s4⟩ := HF.out w' h
          exact ⟨r0, r1, r2, r3, s2, s3, s4, ((Below.step HA1.out h).cell (p := ⟨b, off + j * 4, none⟩) hlb).trans t0⟩
        by_cases h3 : uid ≤ pu
        · have e103 : decide (uid ≤ pu) = true := decide_eq_true h3
          exact absurd (HMA0.out k hlt) (by rw [HE.out.trans (mailNo hp.1 (.inr (.inr (.inl (by have := HPU.out; omega)))))]; decide)
        have e103 : decide (uid ≤ pu) = false := decide_eq_false h3
        by_cases h4 : flags < 0
        · have e109 : decide (flags < 0) = true := decide_eq_true h4
          exact absurd (HMA0.out k hlt) (by rw [HE.out.trans (mailNo hp.1 (.inr (.inr (.inr (.inl h4)))))]; decide)
        have e109 : decide (flags < 0) = false := decide_eq_false h4
        by_cases h5 : 31 < flags
        · have e114 : decide (31 < flags) = true := decide_eq_true h5
          exact absurd (HMA0.out k hlt) (by rw [HE.out.trans (mailNo hp.1 (.inr (.inr (.inr (.inr (.inl h5))))))]; decide)
        have e114 : decide (31 < flags) = false := decide_eq_false h5
        by_cases h6 : seq < 1
        · have e119 : decide (seq < 1) = true := decide_eq_true h6
          exact absurd (HMA0.out k hlt) (by rw [HE.out.trans (mailNo hp.1 (.inr (.inr (.inr (.inr (.inr (.inl h6)))))))]; decide)
        have e119 : decide (seq < 1) = false := decide_eq_false h6
        by_cases h7 : x.seq < seq
        · have e126 : decide (x.seq < seq) = true := decide_eq_true h7
          exact absurd (HMA0.out k hlt) (by rw [HE.out.trans (mailNo hp.1 (.inr (.inr (.inr (.inr (.inr (.inr (.inl h7))))))))]; decide)
        have e126 : decide (x.seq < seq) = false := decide_eq_false h7
        cases XT with
        | false =>
          exact absurd (HMA0.out k hlt) (by rw [HE.out.trans (mailNo hp.1 (.inr (.inr (.inr (.inr (.inr (.inr (.inr rfl))))))))]; decide)
        | true =>
          go_wp2
          refine wp_region_held_drew (S := fun w' => w'.cell? ⟨wr.heap.size, 0, none⟩ = some (.int .i64 uid) ∧ w'.cell? ⟨wr.heap.size, 1, none⟩ = some (.int .i64 flags) ∧ w'.cell? ⟨wr.heap.size, 2, none⟩ = some (.int .i64 seq) ∧ w'.cell? ⟨wr.heap.size, 3, none⟩ = some (.slice ua un uc) ∧ w'.cell? ⟨w.heap.size, 2, none⟩ = some (.int .i64 x.next) ∧ w'.cell? ⟨w.heap.size, 3, none⟩ = some (.int .i64 x.seq) ∧ w'.cell? ⟨w.heap.size, 4, none⟩ = some (.slice (some ⟨b, off, none⟩) x.mails.length c1) ∧ w'.cell? ⟨b, off + j * 4, none⟩ = some (.int .i64 pu)) (by kernel_rfl) (HF2.out _ DR) (fun hHeld => (show wpAnyH _ _ _ _ _ 54 #[false, false, false, false, false, false, false, false, false, false, false, false, false, false, false, false, false, false, false, false, false, false, false, false, false, false, false, false, false, false, false, false, false, false, false, false, false, false, false, false, false, false, false, false, false, false, false, false, false, false, false, false, false, false] _ _ from ?_))
          refine tk 0 80 ?v1 ?h1 hHeld ?_; case h1 => (intro w s; (try dsimp only at s); go_simp <;> with_reducible rfl)
          conv => arg 8; simp only [Act.put, sA, s0, sS]
          refine tk 1 81 ?v2 ?h2 hHeld ?_; case h2 => (intro w s; (try dsimp only at s); go_simp <;> with_reducible rfl)
          conv => arg 8; simp only [Act.put, sA, s0, sS]
          refine tk 2 82 ?v3 ?h3 hHeld ?_; case h3 => (intro w s; (try dsimp only at s); go_simp <;> with_reducible rfl)
          conv => arg 8; simp only [Act.put, sA, s0, sS]
          refine tk 3 83 ?v4 ?h4 hHeld ?_; case h4 => (intro w s; (try dsimp only at s); go_simp <;> with_reducible rfl)
          conv => arg 8; simp only [Act.put, sA, s0, sS]
          refine tk 4 84 ?v5 ?h5 hHeld ?_; case h5 => (intro w s; (try dsimp only at s); go_simp <;> with_reducible rfl)
          conv => arg 8; simp only [Act.put, sA, s0, sS]
          refine tk 5 85 ?v6 ?h6 hHeld ?_; case h6 => (intro w s; (try dsimp only at s); go_simp <;> with_reducible rfl)
          conv => arg 8; simp only [Act.put, sA, s0, sS]
          refine tk 6 86 ?v7 ?h7 hHeld ?_; case h7 => (intro w s; (try dsimp only at s); go_simp <;> with_reducible rfl)
          conv => arg 8; simp only [Act.put, sA, s0, sS]
          refine tk 7 87 ?v8 ?h8 hHeld ?_; case h8 => (intro w s; (try dsimp only at s); go_simp <;> with_reducible rfl)
          conv => arg 8; simp only [Act.put, sA, s0, sS]
          refine tk 8 88 ?v9 ?h9 hHeld ?_; case h9 => (intro w s; (try dsimp only at s); go_simp <;> with_reducible rfl)
          conv => arg 8; simp only [Act.put, sA, s0, sS]
          refine tk 9 89 ?v10 ?h10 hHeld ?_; case h10 => (intro w s; (try dsimp only at s); go_simp <;> with_reducible rfl)
          conv => arg 8; simp only [Act.put, sA, s0, sS]
          refine tk 10 90 ?v11 ?h11 hHeld ?_; case h11 => (intro w s; (try dsimp only at s); go_simp <;> with_reducible rfl)
          conv => arg 8; simp only [Act.put, sA, s0, sS]
          refine tk 11 91 ?v12 ?h12 hHeld ?_; case h12 => (intro w s; (try dsimp only at s); go_simp <;> with_reducible rfl)
          conv => arg 8; simp only [Act.put, sA, s0, sS]
          refine tk 12 92 ?v13 ?h13 hHeld ?_; case h13 => (intro w s; (try dsimp only at s); go_simp <;> with_reducible rfl)
          conv => arg 8; simp only [Act.put, sA, s0, sS]
          refine tk 13 93 ?v14 ?h14 hHeld ?_; case h14 => (intro w s; (try dsimp only at s); go_simp <;> with_reducible rfl)
          conv => arg 8; simp only [Act.put, sA, s0, sS]
          refine tk 14 94 ?v15 ?h15 hHeld ?_; case h15 => (intro w s; (try dsimp only at s); go_simp <;> with_reducible rfl)
          conv => arg 8; simp only [Act.put, sA, s0, sS]
          refine tk 15 95 ?v16 ?h16 hHeld ?_; case h16 => (intro w s; (try dsimp only at s); go_simp <;> with_reducible rfl)
          conv => arg 8; simp only [Act.put, sA, s0, sS]
          refine tk 16 96 ?v17 ?h17 hHeld ?_; case h17 => (intro w s; (try dsimp only at s); go_simp <;> with_reducible rfl)
          conv => arg 8; simp only [Act.put, sA, s0, sS]
          refine tk 17 97 ?v18 ?h18 hHeld ?_; case h18 => (intro w s; (try dsimp only at s); go_simp <;> with_reducible rfl)
          conv => arg 8; simp only [Act.put, sA, s0, sS]
          refine tk 18 98 ?v19 ?h19 hHeld ?_; case h19 => (intro w s; (try dsimp only at s); go_simp <;> with_reducible rfl)
          conv => arg 8; simp only [Act.put, sA, s0, sS]
          refine tk 19 99 ?v20 ?h20 hHeld ?_; case h20 => (intro w s; (try dsimp only at s); go_simp <;> with_reducible rfl)
          conv => arg 8; simp only [Act.put, sA, s0, sS]
          refine tk 20 100 ?v21 ?h21 hHeld ?_; case h21 => (intro w s; (try dsimp only at s); go_simp <;> with_reducible rfl)
          conv => arg 8; simp only [Act.put, sA, s0, sS]
          refine tk 21 101 ?v22 ?h22 hHeld ?_; case h22 => (intro w s; (try dsimp only at s); go_simp <;> with_reducible rfl)
          conv => arg 8; simp only [Act.put, sA, s0, sS]
          refine tk 22 102 ?v23 ?h23 hHeld ?_; case h23 => (intro w s; (try dsimp only at s); go_simp <;> with_reducible rfl)
          conv => arg 8; simp only [Act.put, sA, s0, sS]
          refine tk 23 103 ?v24 ?h24 hHeld ?_; case h24 => (intro w s; (try dsimp only at s); go_simp <;> with_reducible rfl)
          conv => arg 8; simp only [Act.put, sA, s0, sS]
          refine tk 24 104 ?v25 ?h25 hHeld ?_; case h25 => (intro w s; (try dsimp only at s); go_simp <;> with_reducible rfl)
          conv => arg 8; simp only [Act.put, sA, s0, sS]
          refine tk 25 105 ?v26 ?h26 hHeld ?_; case h26 => (intro w s; (try dsimp only at s); go_simp <;> with_reducible rfl)
          conv => arg 8; simp only [Act.put, sA, s0, sS]
          refine tk 26 106 ?v27 ?h27 hHeld ?_; case h27 => (intro w s; (try dsimp only at s); go_simp <;> with_reducible rfl)
          conv => arg 8; simp only [Act.put, sA, s0, sS]
          refine tk 27 107 ?v28 ?h28 hHeld ?_; case h28 => (intro w s; (try dsimp only at s); go_simp <;> with_reducible rfl)
          conv => arg 8; simp only [Act.put, sA, s0, sS]
          refine tk 28 108 ?v29 ?h29 hHeld ?_; case h29 => (intro w s; (try dsimp only at s); go_simp <;> with_reducible rfl)
          conv => arg 8; simp only [Act.put, sA, s0, sS]
          refine tk 29 109 ?v30 ?h30 hHeld ?_; case h30 => (intro w s; (try dsimp only at s); go_simp <;> with_reducible rfl)
          conv => arg 8; simp only [Act.put, sA, s0, sS]
          refine tk 30 110 ?v31 ?h31 hHeld ?_; case h31 => (intro w s; (try dsimp only at s); go_simp <;> with_reducible rfl)
          conv => arg 8; simp only [Act.put, sA, s0, sS]
          refine tk 31 111 ?v32 ?h32 hHeld ?_; case h32 => (intro w s; (try dsimp only at s); go_simp <;> with_reducible rfl)
          conv => arg 8; simp only [Act.put, sA, s0, sS]
          refine tk 32 112 ?v33 ?h33 hHeld ?_; case h33 => (intro w s; (try dsimp only at s); go_simp <;> with_reducible rfl)
          conv => arg 8; simp only [Act.put, sA, s0, sS]
          refine tk 33 113 ?v34 ?h34 hHeld ?_; case h34 => (intro w s; (try dsimp only at s); go_simp <;> with_reducible rfl)
          conv => arg 8; simp only [Act.put, sA, s0, sS]
          refine tk 34 114 ?v35 ?h35 hHeld ?_; case h35 => (intro w s; (try dsimp only at s); go_simp <;> with_reducible rfl)
          conv => arg 8; simp only [Act.put, sA, s0, sS]
          refine tk 35 115 ?v36 ?h36 hHeld ?_; case h36 => (intro w s; (try dsimp only at s); go_simp <;> with_reducible rfl)
          conv => arg 8; simp only [Act.put, sA, s0, sS]
          refine tk 36 116 ?v37 ?h37 hHeld ?_; case h37 => (intro w s; (try dsimp only at s); go_simp <;> with_reducible rfl)
          conv => arg 8; simp only [Act.put, sA, s0, sS]
          refine tk 37 117 ?v38 ?h38 hHeld ?_; case h38 => (intro w s; (try dsimp only at s); go_simp <;> with_reducible rfl)
          conv => arg 8; simp only [Act.put, sA, s0, sS]
          refine tk 38 118 ?v39 ?h39 hHeld ?_; case h39 => (intro w s; (try dsimp only at s); go_simp <;> with_reducible rfl)
          conv => arg 8; simp only [Act.put, sA, s0, sS]
          refine tk 39 119 ?v40 ?h40 hHeld ?_; case h40 => (intro w s; (try dsimp only at s); go_simp <;> with_reducible rfl)
          conv => arg 8; simp only [Act.put, sA, s0, sS]
          refine tk 40 120 ?v41 ?h41 hHeld ?_; case h41 => (intro w s; (try dsimp only at s); go_simp <;> with_reducible rfl)
          conv => arg 8; simp only [Act.put, sA, s0, sS]
          refine tk 41 121 ?v42 ?h42 hHeld ?_; case h42 => (intro w s; (try dsimp only at s); go_simp <;> with_reducible rfl)
          conv => arg 8; simp only [Act.put, sA, s0, sS]
          refine tk 42 122 ?v43 ?h43 hHeld ?_; case h43 => (intro w s; (try dsimp only at s); go_simp <;> with_reducible rfl)
          conv => arg 8; simp only [Act.put, sA, s0, sS]
          refine tk 43 123 ?v44 ?h44 hHeld ?_; case h44 => (intro w s; (try dsimp only at s); go_simp <;> with_reducible rfl)
          conv => arg 8; simp only [Act.put, sA, s0, sS]
          refine tk 44 124 ?v45 ?h45 hHeld ?_; case h45 => (intro w s; (try dsimp only at s); go_simp <;> with_reducible rfl)
          conv => arg 8; simp only [Act.put, sA, s0, sS]
          refine tk 45 125 ?v46 ?h46 hHeld ?_; case h46 => (intro w s; (try dsimp only at s); go_simp <;> with_reducible rfl)
          conv => arg 8; simp only [Act.put, sA, s0, sS]
          refine tk 46 126 ?v47 ?h47 hHeld ?_; case h47 => (intro w s; (try dsimp only at s); go_simp <;> with_reducible rfl)
          conv => arg 8; simp only [Act.put, sA, s0, sS]
          refine tk 47 127 ?v48 ?h48 hHeld ?_; case h48 => (intro w s; (try dsimp only at s); go_simp <;> with_reducible rfl)
          conv => arg 8; simp only [Act.put, sA, s0, sS]
          refine tk 48 128 ?v49 ?h49 hHeld ?_; case h49 => (intro w s; (try dsimp only at s); go_simp <;> with_reducible rfl)
          conv => arg 8; simp only [Act.put, sA, s0, sS]
          refine tk 49 129 ?v50 ?h50 hHeld ?_; case h50 => (intro w s; (try dsimp only at s); go_simp <;> with_reducible rfl)
          conv => arg 8; simp only [Act.put, sA, s0, sS]
          refine tk 50 130 ?v51 ?h51 hHeld ?_; case h51 => (intro w s; (try dsimp only at s); go_simp <;> with_reducible rfl)
          conv => arg 8; simp only [Act.put, sA, s0, sS]
          refine wpAnyH_ready (rs := [51]) (by kernel_rfl) (by simp) ?_
          refine AllReadyH.cons rfl (fun K hK => ?_) AllReadyH.nil
          go_simp
          refine HT.out.mono ?_
          rintro e w2 ⟨rfl, rfl⟩
          refine hK.out _ _ (HF2.out _ DR) (fun hHeld => ?_)
          clear hK K
          refine tk 52 132 ?v53 ?h53 hHeld ?_; case h53 => (intro w s; (try dsimp only at s); go_simp <;> with_reducible rfl)
          conv => arg 8; simp only [Act.put, sA, s0, sS]
          refine tk 53 133 ?v54 ?h54 hHeld ?_; case h54 => (intro w s; (try dsimp only at s); go_simp <;> with_reducible rfl)
          conv => arg 8; simp only [Act.put, sA, s0, sS]
          refine wpAnyH_done (by kernel_rfl) ?_ _
          have HB2 : Hid (Below w.heap.size w (wr.alloc (.cells #[.int .i64 uid, .int .i64 flags, .int .i64 seq, .slice ua un uc] 117)).drew) := Below.step HB1.out DR
          have HK2 : Hid ((wr.alloc (.cells #[.int .i64 uid, .int .i64 flags, .int .i64 seq, .slice ua un uc] 117)).drew.heap[w.heap.size]? = some (.cells #[.slice a0 n0 c0, .int .i64 x.valid, .int .i64 x.next, .int .i64 x.seq, .slice (some ⟨b, off, none⟩) x.mails.length c1, .slice a2 x.gones.length c2, .int .i64 x.lost] 87)) := box_below DR HKb.out
          clear HF HF2 HKm HKb HA1 HT HB1
          repeat clear hHeld
          go_wp2
          go_roundw
          case rel =>
            refine ⟨k + 1, by omega, by go_num, (show Hid _ from fun i hi => ?_), HK2, HB2⟩
            by_cases e : i = k
            · subst e; exact HE.out.trans (mailYes (by have := HPU.out; omega) (by omega) (by omega) (by omega) (by omega) (by omega) (by omega) rfl)
            · exact hA.out i (by omega)
          case measure => simp [intOf]; omega
      · have hkN : ¬ 0 < k := by omega
        have hd : decide (0 < k) = false := by simpa using hkN
        have HPU : Hid (q = 0) := by rw [← HQ.out]; have : k = 0 := by omega
                                     rw [this]; rfl
        by_cases h4 : flags < 0
        · have e109 : decide (flags < 0) = true := decide_eq_true h4
          exact absurd (HMA0.out k hlt) (by rw [HE.out.trans (mailNo hp.1 (.inr (.inr (.inr (.inl h4)))))]; decide)
        have e109 : decide (flags < 0) = false := decide_eq_false h4
        by_cases h5 : 31 < flags
        · have e114 : decide (31 < flags) = true := decide_eq_true h5
          exact absurd (HMA0.out k hlt) (by rw [HE.out.trans (mailNo hp.1 (.inr (.inr (.inr (.inr (.inl h5))))))]; decide)
        have e114 : decide (31 < flags) = false := decide_eq_false h5
        by_cases h6 : seq < 1
        · have e119 : decide (seq < 1) = true := decide_eq_true h6
          exact absurd (HMA0.out k hlt) (by rw [HE.out.trans (mailNo hp.1 (.inr (.inr (.inr (.inr (.inr (.inl h6)))))))]; decide)
        have e119 : decide (seq < 1) = false := decide_eq_false h6
        by_cases h7 : x.seq < seq
        · have e126 : decide (x.seq < seq) = true := decide_eq_true h7
          exact absurd (HMA0.out k hlt) (by rw [HE.out.trans (mailNo hp.1 (.inr (.inr (.inr (.inr (.inr (.inr (.inl h7))))))))]; decide)
        have e126 : decide (x.seq < seq) = false := decide_eq_false h7
        cases XT with
        | false =>
          exact absurd (HMA0.out k hlt) (by rw [HE.out.trans (mailNo hp.1 (.inr (.inr (.inr (.inr (.inr (.inr (.inr rfl))))))))]; decide)
        | true =>
          go_wp2
          refine wp_region_held_drew (S := fun w' => w'.cell? ⟨wr.heap.size, 0, none⟩ = some (.int .i64 uid) ∧ w'.cell? ⟨wr.heap.size, 1, none⟩ = some (.int .i64 flags) ∧ w'.cell? ⟨wr.heap.size, 2, none⟩ = some (.int .i64 seq) ∧ w'.cell? ⟨wr.heap.size, 3, none⟩ = some (.slice ua un uc) ∧ w'.cell? ⟨w.heap.size, 2, none⟩ = some (.int .i64 x.next) ∧ w'.cell? ⟨w.heap.size, 3, none⟩ = some (.int .i64 x.seq) ∧ w'.cell? ⟨w.heap.size, 4, none⟩ = some (.slice (some ⟨b, off, none⟩) x.mails.length c1)) (by kernel_rfl) (HF.out _ DR) (fun hHeld => (show wpAnyH _ _ _ _ _ 54 #[false, false, false, false, false, false, false, false, false, false, false, false, false, false, false, false, false, false, false, false, false, false, false, false, false, false, false, false, false, false, false, false, false, false, false, false, false, false, false, false, false, false, false, false, false, false, false, false, false, false, false, false, false, false] _ _ from ?_))
          refine tk 0 80 ?v55 ?h55 hHeld ?_; case h55 => (intro w s; (try dsimp only at s); go_simp <;> with_reducible rfl)
          conv => arg 8; simp only [Act.put, sA, s0, sS]
          refine tk 1 81 ?v56 ?h56 hHeld ?_; case h56 => (intro w s; (try dsimp only at s); go_simp <;> with_reducible rfl)
          conv => arg 8; simp only [Act.put, sA, s0, sS]
          refine tk 2 82 ?v57 ?h57 hHeld ?_; case h57 => (intro w s; (try dsimp only at s); go_simp <;> with_reducible rfl)
          conv => arg 8; simp only [Act.put, sA, s0, sS]
          refine tk 3 83 ?v58 ?h58 hHeld ?_; case h58 => (intro w s; (try dsimp only at s); go_simp <;> with_reducible rfl)
          conv => arg 8; simp only [Act.put, sA, s0, sS]
          refine tk 4 84 ?v59 ?h59 hHeld ?_; case h59 => (intro w s; (try dsimp only at s); go_simp <;> with_reducible rfl)
          conv => arg 8; simp only [Act.put, sA, s0, sS]
          refine tk 5 85 ?v60 ?h60 hHeld ?_; case h60 => (intro w s; (try dsimp only at s); go_simp <;> with_reducible rfl)
          conv => arg 8; simp only [Act.put, sA, s0, sS]
          refine tk 6 86 ?v61 ?h61 hHeld ?_; case h61 => (intro w s; (try dsimp only at s); go_simp <;> with_reducible rfl)
          conv => arg 8; simp only [Act.put, sA, s0, sS]
          refine tk 7 87 ?v62 ?h62 hHeld ?_; case h62 => (intro w s; (try dsimp only at s); go_simp <;> with_reducible rfl)
          conv => arg 8; simp only [Act.put, sA, s0, sS]
          refine tk 8 88 ?v63 ?h63 hHeld ?_; case h63 => (intro w s; (try dsimp only at s); go_simp <;> with_reducible rfl)
          conv => arg 8; simp only [Act.put, sA, s0, sS]
          refine tk 9 89 ?v64 ?h64 hHeld ?_; case h64 => (intro w s; (try dsimp only at s); go_simp <;> with_reducible rfl)
          conv => arg 8; simp only [Act.put, sA, s0, sS]
          refine tk 10 90 ?v65 ?h65 hHeld ?_; case h65 => (intro w s; (try dsimp only at s); go_simp <;> with_reducible rfl)
          conv => arg 8; simp only [Act.put, sA, s0, sS]
          refine tk 11 91 ?v66 ?h66 hHeld ?_; case h66 => (intro w s; (try dsimp only at s); go_simp <;> with_reducible rfl)
          conv => arg 8; simp only [Act.put, sA, s0, sS]
          refine tk 12 92 ?v67 ?h67 hHeld ?_; case h67 => (intro w s; (try dsimp only at s); go_simp <;> with_reducible rfl)
          conv => arg 8; simp only [Act.put, sA, s0, sS]
          refine tk 13 93 ?v68 ?h68 hHeld ?_; case h68 => (intro w s; (try dsimp only at s); go_simp <;> with_reducible rfl)
          conv => arg 8; simp only [Act.put, sA, s0, sS]
          refine wpAnyH_skips (by kernel_rfl) (fun _ _ _ _ _ h => h) hHeld [14, 15, 16, 17, 18, 19, 20, 21, 22, 23] [94, 95, 96, 97, 98, 99, 100, 101, 102, 103] _ _ _ (by kernel_rfl) ?_
          simp only [List.foldl_cons, List.foldl_nil, Act.put, sA, s0, sS]
          refine tk 24 104 ?v70 ?h70 hHeld ?_; case h70 => (intro w s; (try dsimp only at s); go_simp <;> with_reducible rfl)
          conv => arg 8; simp only [Act.put, sA, s0, sS]
          refine tk 25 105 ?v71 ?h71 hHeld ?_; case h71 => (intro w s; (try dsimp only at s); go_simp <;> with_reducible rfl)
          conv => arg 8; simp only [Act.put, sA, s0, sS]
          refine tk 26 106 ?v72 ?h72 hHeld ?_; case h72 => (intro w s; (try dsimp only at s); go_simp <;> with_reducible rfl)
          conv => arg 8; simp only [Act.put, sA, s0, sS]
          refine tk 27 107 ?v73 ?h73 hHeld ?_; case h73 => (intro w s; (try dsimp only at s); go_simp <;> with_reducible rfl)
          conv => arg 8; simp only [Act.put, sA, s0, sS]
          refine tk 28 108 ?v74 ?h74 hHeld ?_; case h74 => (intro w s; (try dsimp only at s); go_simp <;> with_reducible rfl)
          conv => arg 8; simp only [Act.put, sA, s0, sS]
          refine tk 29 109 ?v75 ?h75 hHeld ?_; case h75 => (intro w s; (try dsimp only at s); go_simp <;> with_reducible rfl)
          conv => arg 8; simp only [Act.put, sA, s0, sS]
          refine tk 30 110 ?v76 ?h76 hHeld ?_; case h76 => (intro w s; (try dsimp only at s); go_simp <;> with_reducible rfl)
          conv => arg 8; simp only [Act.put, sA, s0, sS]
          refine tk 31 111 ?v77 ?h77 hHeld ?_; case h77 => (intro w s; (try dsimp only at s); go_simp <;> with_reducible rfl)
          conv => arg 8; simp only [Act.put, sA, s0, sS]
          refine tk 32 112 ?v78 ?h78 hHeld ?_; case h78 => (intro w s; (try dsimp only at s); go_simp <;> with_reducible rfl)
          conv => arg 8; simp only [Act.put, sA, s0, sS]
          refine tk 33 113 ?v79 ?h79 hHeld ?_; case h79 => (intro w s; (try dsimp only at s); go_simp <;> with_reducible rfl)
          conv => arg 8; simp only [Act.put, sA, s0, sS]
          refine tk 34 114 ?v80 ?h80 hHeld ?_; case h80 => (intro w s; (try dsimp only at s); go_simp <;> with_reducible rfl)
          conv => arg 8; simp only [Act.put, sA, s0, sS]
          refine tk 35 115 ?v81 ?h81 hHeld ?_; case h81 => (intro w s; (try dsimp only at s); go_simp <;> with_reducible rfl)
          conv => arg 8; simp only [Act.put, sA, s0, sS]
          refine tk 36 116 ?v82 ?h82 hHeld ?_; case h82 => (intro w s; (try dsimp only at s); go_simp <;> with_reducible rfl)
          conv => arg 8; simp only [Act.put, sA, s0, sS]
          refine tk 37 117 ?v83 ?h83 hHeld ?_; case h83 => (intro w s; (try dsimp only at s); go_simp <;> with_reducible rfl)
          conv => arg 8; simp only [Act.put, sA, s0, sS]
          refine tk 38 118 ?v84 ?h84 hHeld ?_; case h84 => (intro w s; (try dsimp only at s); go_simp <;> with_reducible rfl)
          conv => arg 8; simp only [Act.put, sA, s0, sS]
          refine tk 39 119 ?v85 ?h85 hHeld ?_; case h85 => (intro w s; (try dsimp only at s); go_simp <;> with_reducible rfl)
          conv => arg 8; simp only [Act.put, sA, s0, sS]
          refine tk 40 120 ?v86 ?h86 hHeld ?_; case h86 => (intro w s; (try dsimp only at s); go_simp <;> with_reducible rfl)
          conv => arg 8; simp only [Act.put, sA, s0, sS]
          refine tk 41 121 ?v87 ?h87 hHeld ?_; case h87 => (intro w s; (try dsimp only at s); go_simp <;> with_reducible rfl)
          conv => arg 8; simp only [Act.put, sA, s0, sS]
          refine tk 42 122 ?v88 ?h88 hHeld ?_; case h88 => (intro w s; (try dsimp only at s); go_simp <;> with_reducible rfl)
          conv => arg 8; simp only [Act.put, sA, s0, sS]
          refine tk 43 123 ?v89 ?h89 hHeld ?_; case h89 => (intro w s; (try dsimp only at s); go_simp <;> with_reducible rfl)
          conv => arg 8; simp only [Act.put, sA, s0, sS]
          refine tk 44 124 ?v90 ?h90 hHeld ?_; case h90 => (intro w s; (try dsimp only at s); go_simp <;> with_reducible rfl)
          conv => arg 8; simp only [Act.put, sA, s0, sS]
          refine tk 45 125 ?v91 ?h91 hHeld ?_; case h91 => (intro w s; (try dsimp only at s); go_simp <;> with_reducible rfl)
          conv => arg 8; simp only [Act.put, sA, s0, sS]
          refine tk 46 126 ?v92 ?h92 hHeld ?_; case h92 => (intro w s; (try dsimp only at s); go_simp <;> with_reducible rfl)
          conv => arg 8; simp only [Act.put, sA, s0, sS]
          refine tk 47 127 ?v93 ?h93 hHeld ?_; case h93 => (intro w s; (try dsimp only at s); go_simp <;> with_reducible rfl)
          conv => arg 8; simp only [Act.put, sA, s0, sS]
          refine tk 48 128 ?v94 ?h94 hHeld ?_; case h94 => (intro w s; (try dsimp only at s); go_simp <;> with_reducible rfl)
          conv => arg 8; simp only [Act.put, sA, s0, sS]
          refine tk 49 129 ?v95 ?h95 hHeld ?_; case h95 => (intro w s; (try dsimp only at s); go_simp <;> with_reducible rfl)
          conv => arg 8; simp only [Act.put, sA, s0, sS]
          refine tk 50 130 ?v96 ?h96 hHeld ?_; case h96 => (intro w s; (try dsimp only at s); go_simp <;> with_reducible rfl)
          conv => arg 8; simp only [Act.put, sA, s0, sS]
          refine wpAnyH_ready (rs := [51]) (by kernel_rfl) (by simp) ?_
          refine AllReadyH.cons rfl (fun K hK => ?_) AllReadyH.nil
          go_simp
          refine HT.out.mono ?_
          rintro e w2 ⟨rfl, rfl⟩
          refine hK.out _ _ (HF.out _ DR) (fun hHeld => ?_)
          clear hK K
          refine tk 52 132 ?v98 ?h98 hHeld ?_; case h98 => (intro w s; (try dsimp only at s); go_simp <;> with_reducible rfl)
          conv => arg 8; simp only [Act.put, sA, s0, sS]
          refine tk 53 133 ?v99 ?h99 hHeld ?_; case h99 => (intro w s; (try dsimp only at s); go_simp <;> with_reducible rfl)
          conv => arg 8; simp only [Act.put, sA, s0, sS]
          refine wpAnyH_done (by kernel_rfl) ?_ _
          have HB2 : Hid (Below w.heap.size w (wr.alloc (.cells #[.int .i64 uid, .int .i64 flags, .int .i64 seq, .slice ua un uc] 117)).drew) := Below.step HB1.out DR
          have HK2 : Hid ((wr.alloc (.cells #[.int .i64 uid, .int .i64 flags, .int .i64 seq, .slice ua un uc] 117)).drew.heap[w.heap.size]? = some (.cells #[.slice a0 n0 c0, .int .i64 x.valid, .int .i64 x.next, .int .i64 x.seq, .slice (some ⟨b, off, none⟩) x.mails.length c1, .slice a2 x.gones.length c2, .int .i64 x.lost] 87)) := box_below DR HKb.out
          clear HF HKm HKb HA1 HT HB1
          repeat clear hHeld
          go_wp2
          go_roundw
          case rel =>
            refine ⟨k + 1, by omega, by go_num, (show Hid _ from fun i hi => ?_), HK2, HB2⟩
            by_cases e : i = k
            · subst e; exact HE.out.trans (mailYes (by have := HPU.out; omega) (by omega) (by omega) (by omega) (by omega) (by omega) (by omega) rfl)
            · exact hA.out i (by omega)
          case measure => simp [intOf]; omega
    · obtain rfl : k = x.mails.length := by omega
      obtain ⟨e0, e1, e2, e3, e4, e5, e6⟩ := bx7 hK.out
      go_wp2
      clear hlt e0 e1 e2 e3 e4 e5 e6
      have HMA : Hid (∀ j, j < x.mails.length → mailAt x j = true) := hA.out
      clear hA
      go_loopw [7, 8] (fun i _ wr => ∃ k : Nat, k ≤ x.gones.length ∧ i = .int .i64 k ∧ Hid (∀ j, j < k → goneAt x j = true) ∧ Hid (wr.heap[w.heap.size]? = some (.cells #[.slice a0 n0 c0, .int .i64 x.valid, .int .i64 x.next, .int .i64 x.seq, .slice a1 x.mails.length c1, .slice a2 x.gones.length c2, .int .i64 x.lost] 87)) ∧ Hid (Below w.heap.size w wr)) (fun i _ _ => x.gones.length - (intOf i).toNat)
      case atStart => exact ⟨0, Nat.zero_le _, rfl, (fun j hj => absurd hj (Nat.not_lt_zero _)), hK, hB⟩
      case round =>
        clear hK hB
        obtain ⟨k, hk, rfl, hA, hK, hB⟩ := hrel
        by_cases hlt : k < x.gones.length
        · obtain ⟨m, hm⟩ : ∃ m, x.gones[k]? = some m := ⟨x.gones[k], List.getElem?_eq_getElem hlt⟩
          obtain ⟨b, off, cap', hv', hlb, d0, d1, j0, j1⟩ := GonesV.cell (H0.out wr hB.out).2.2 k m hm
          simp only [Value.slice.injEq, true_and] at hv'
          obtain ⟨rfl, rfl⟩ := hv'
          have hms := minS_ok hk hA.out
          have HE : Hid (goneAt x k = (inB m.uid 1 (x.next - 1) && (inB m.seq (minS x k) x.seq && (!(x.mails.any fun o => decide (o.uid = m.uid)) && !((x.gones.take k).any fun o => decide (o.uid = m.uid)))))) := by simp [Hid, goneAt, hm]
          have HEB : Hid (clsB x k = (if m.uid < 1 then 1 else if x.next ≤ m.uid then 2 else if (x.mails.any fun o => decide (o.uid = m.uid)) = true then 3 else if m.seq < 1 then 4 else if x.seq < m.seq then 5 else if (0 : Int) < (k : Int) then (if m.seq < minS x k then 8 else if m.seq < x.lost then 9 else 10) else (if m.seq < x.lost then 6 else 7))) := by simp only [Hid, clsB, hm]
          generalize hQ : minS x k = ms at hms HE HEB
          have HQ : Hid (minS x k = ms) := hQ
          clear hQ hm
          obtain ⟨uid, seq⟩ := m
          simp only at d0 d1 j0 j1 HE HEB
          have hkc : k ≤ c2 := by omega
          have DR : Below (wr.alloc (.cells #[.int .i64 uid, .int .i64 seq] 119)).heap.size (wr.alloc (.cells #[.int .i64 uid, .int .i64 seq] 119)) (wr.alloc (.cells #[.int .i64 uid, .int .i64 seq] 119)).drew := (Below.refl _ _).drew
          have HA1 : Hid (Below wr.heap.size wr (wr.alloc (.cells #[.int .i64 uid, .int .i64 seq] 119))) := (Below.refl _ _).alloc (Nat.le_refl _) _
          have HB1 : Hid (Below w.heap.size w (wr.alloc (.cells #[.int .i64 uid, .int .i64 seq] 119))) := Below.step hB.out HA1.out
          have HLM : Hid (∀ wi, Below wr.heap.size wr wi → Calls Tryz.prog 97 #[.agg #[.slice a0 n0 c0, .int .i64 x.valid, .int .i64 x.next, .int .i64 x.seq, .slice a1 x.mails.length c1, .slice (some ⟨b, off, none⟩) x.gones.length c2, .int .i64 x.lost], .int .i64 uid] wi fun e w' => e = .returned (.int .i64 (firstI (fun m => decide (m.uid = uid)) x.mails)) ∧ Below wi.heap.size wi w') := fun wi h => l3mail_any _ x uid wi (HV.out _ (Below.step hB.out h))
          have HLG : Hid (∀ wi, Below wr.heap.size wr wi → Calls Tryz.prog 98 #[.slice (some ⟨b, off, none⟩) k c2, .int .i64 uid] wi fun e w' => e = .returned (.bool ((x.gones.take k).any fun o => decide (o.uid = uid))) ∧ w' = wi) := fun wi h => l3gone_any _ (x.gones.take k) uid wi (((H0.out _ (Below.step hB.out h)).2.2).take k hk)
          have HMF : Hid ((x.mails.any fun o => decide (o.uid = uid)) = decide (0 ≤ firstI (fun m => decide (m.uid = uid)) x.mails)) := any_firstI _ _
          generalize (x.mails.any fun o => decide (o.uid = uid)) = M at HE HMF HEB
          generalize firstI (fun m => decide (m.uid = uid)) x.mails = fi at HLM HMF
          generalize ((x.gones.take k).any fun o => decide (o.uid = uid)) = XG at HE HLG
          have HKm : Hid ((wr.alloc (.cells #[.int .i64 uid, .int .i64 seq] 119)).heap[wr.heap.size]? = some (.cells #[.int .i64 uid, .int .i64 seq] 119)) := box_new wr _
          have HKb : Hid ((wr.alloc (.cells #[.int .i64 uid, .int .i64 seq] 119)).heap[w.heap.size]? = some (.cells #[.slice a0 n0 c0, .int .i64 x.valid, .int .i64 x.next, .int .i64 x.seq, .slice a1 x.mails.length c1, .slice (some ⟨b, off, none⟩) x.gones.length c2, .int .i64 x.lost] 87)) := box_alloc hK.out _
          have HF : Hid (∀ w', Below (wr.alloc (.cells #[.int .i64 uid, .int .i64 seq] 119)).heap.size (wr.alloc (.cells #[.int .i64 uid, .int .i64 seq] 119)) w' → w'.cell? ⟨wr.heap.size, 0, none⟩ = some (.int .i64 uid) ∧ w'.cell? ⟨wr.heap.size, 1, none⟩ = some (.int .i64 seq) ∧ w'.cell? ⟨w.heap.size, 0, none⟩ = some (.slice a0 n0 c0) ∧ w'.cell? ⟨w.heap.size, 1, none⟩ = some (.int .i64 x.valid) ∧ w'.cell? ⟨w.heap.size, 2, none⟩ = some (.int .i64 x.next) ∧ w'.cell? ⟨w.heap.size, 3, none⟩ = some (.int .i64 x.seq) ∧ w'.cell? ⟨w.heap.size, 4, none⟩ = some (.slice a1 x.mails.length c1) ∧ w'.cell? ⟨w.heap.size, 5, none⟩ = some (.slice (some ⟨b, off, none⟩) x.gones.length c2) ∧ w'.cell? ⟨w.heap.size, 6, none⟩ = some (.int .i64 x.lost)) := by
            intro w' h
            obtain ⟨r0, r1⟩ := bx2 (box_below h HKm.out)
            obtain ⟨s0, s1, s2, s3, s4, s5, s6⟩ := bx7 (box_below h HKb.out)
            exact ⟨r0, r1, s0, s1, s2, s3, s4, s5, s6⟩
          obtain ⟨e0, e1, e2, e3, e4, e5, e6⟩ := bx7 hK.out
          have hlA := lt_of_heap hK.out
          by_cases h1 : uid < 1
          · have e148 : decide (uid < 1) = true := decide_eq_true h1
            have HCL := HGE.out k hA.out (HE.out.trans (goneNo (.inl h1)))
            rw [HEB.out, if_pos h1] at HCL
            omega
          have e148 : decide (uid < 1) = false := decide_eq_false h1
          by_cases h2 : x.next ≤ uid
          · have e154 : decide (x.next ≤ uid) = true := decide_eq_true h2
            go_wp2
            refine wp_region_held_drew (S := fun w' => w'.cell? ⟨wr.heap.size, 0, none⟩ = some (.int .i64 uid) ∧ w'.cell? ⟨wr.heap.size, 1, none⟩ = some (.int .i64 seq) ∧ w'.cell? ⟨w.heap.size, 0, none⟩ = some (.slice a0 n0 c0) ∧ w'.cell? ⟨w.heap.size, 1, none⟩ = some (.int .i64 x.valid) ∧ w'.cell? ⟨w.heap.size, 2, none⟩ = some (.int .i64 x.next) ∧ w'.cell? ⟨w.heap.size, 3, none⟩ = some (.int .i64 x.seq) ∧ w'.cell? ⟨w.heap.size, 4, none⟩ = some (.slice a1 x.mails.length c1) ∧ w'.cell? ⟨w.heap.size, 5, none⟩ = some (.slice (some ⟨b, off, none⟩) x.gones.length c2) ∧ w'.cell? ⟨w.heap.size, 6, none⟩ = some (.int .i64 x.lost)) (by kernel_rfl) (HF.out _ DR) (fun hHeld => (show wpAnyH _ _ _ _ _ 61 #[false, false, false, false, false, false, false, false, false, false, false, false, false, false, false, false, false, false, false, false, false, false, false, false, false, false, false, false, false, false, false, false, false, false, false, false, false, false, false, false, false, false, false, false, false, false, false, false, false, false, false, false, false, false, false, false, false, false, false, false, false] _ _ from ?_))
            refine tk 0 146 ?v100 ?h100 hHeld ?_; case h100 => (intro w s; (try dsimp only at s); go_simp <;> with_reducible rfl)
            conv => arg 8; simp only [Act.put, sA, s0, sS]
            refine tk 1 147 ?v101 ?h101 hHeld ?_; case h101 => (intro w s; (try dsimp only at s); go_simp <;> with_reducible rfl)
            conv => arg 8; simp only [Act.put, sA, s0, sS]
            refine tk 2 148 ?v102 ?h102 hHeld ?_; case h102 => (intro w s; (try dsimp only at s); go_simp <;> with_reducible rfl)
            conv => arg 8; simp only [Act.put, sA, s0, sS]
            refine tk 3 149 ?v103 ?h103 hHeld ?_; case h103 => (intro w s; (try dsimp only at s); go_simp <;> with_reducible rfl)
            conv => arg 8; simp only [Act.put, sA, s0, sS]
            refine tk 4 150 ?v104 ?h104 hHeld ?_; case h104 => (intro w s; (try dsimp only at s); go_simp <;> with_reducible rfl)
            conv => arg 8; simp only [Act.put, sA, s0, sS]
            refine tk 5 151 ?v105 ?h105 hHeld ?_; case h105 => (intro w s; (try dsimp only at s); go_simp <;> with_reducible rfl)
            conv => arg 8; simp only [Act.put, sA, s0, sS]
            refine tk 6 152 ?v106 ?h106 hHeld ?_; case h106 => (intro w s; (try dsimp only at s); go_simp <;> with_reducible rfl)
            conv => arg 8; simp only [Act.put, sA, s0, sS]
            refine tk 7 153 ?v107 ?h107 hHeld ?_; case h107 => (intro w s; (try dsimp only at s); go_simp <;> with_reducible rfl)
            conv => arg 8; simp only [Act.put, sA, s0, sS]
            refine tk 8 154 ?v108 ?h108 hHeld ?_; case h108 => (intro w s; (try dsimp only at s); go_simp <;> with_reducible rfl)
            conv => arg 8; simp only [Act.put, sA, s0, sS]
            refine tk 9 155 ?v109 ?h109 hHeld ?_; case h109 => (intro w s; (try dsimp only at s); go_simp <;> with_reducible rfl)
            conv => arg 8; simp only [Act.put, sA, s0, sS]
            refine tk 10 156 ?v110 ?h110 hHeld ?_; case h110 => (intro w s; (try dsimp only at s); go_simp <;> with_reducible rfl)
            conv => arg 8; simp only [Act.put, sA, s0, sS]
            refine wpAnyH_skips (by kernel_rfl) (fun _ _ _ _ _ h => h) hHeld [11, 12, 13, 14, 15] [157, 158, 159, 160, 161] _ _ _ (by kernel_rfl) ?_
            simp only [List.foldl_cons, List.foldl_nil, Act.put, sA, s0, sS]
            refine tk 16 162 ?v112 ?h112 hHeld ?_; case h112 => (intro w s; (try dsimp only at s); go_simp <;> with_reducible rfl)
            conv => arg 8; simp only [Act.put, sA, s0, sS]
            refine tk 17 163 ?v113 ?h113 hHeld ?_; case h113 => (intro w s; (try dsimp only at s); go_simp <;> with_reducible rfl)
            conv => arg 8; simp only [Act.put, sA, s0, sS]
            refine wpAnyH_skips (by kernel_rfl) (fun _ _ _ _ _ h => h) hHeld [18, 19, 20] [164, 165, 166] _ _ _ (by kernel_rfl) ?_
            simp only [List.foldl_cons, List.foldl_nil, Act.put, sA, s0, sS]
            refine tk 21 167 ?v115 ?h115 hHeld ?_; case h115 => (intro w s; (try dsimp only at s); go_simp <;> with_reducible rfl)
            conv => arg 8; simp only [Act.put, sA, s0, sS]
            refine tk 22 168 ?v116 ?h116 hHeld ?_; case h116 => (intro w s; (try dsimp only at s); go_simp <;> with_reducible rfl)
            conv => arg 8; simp only [Act.put, sA, s0, sS]
            refine wpAnyH_skips (by kernel_rfl) (fun _ _ _ _ _ h => h) hHeld [23, 24, 25, 26, 27] [169, 170, 171, 172, 173] _ _ _ (by kernel_rfl) ?_
            simp only [List.foldl_cons, List.foldl_nil, Act.put, sA, s0, sS]
            refine tk 28 174 ?v118 ?h118 hHeld ?_; case h118 => (intro w s; (try dsimp only at s); go_simp <;> with_reducible rfl)
            conv => arg 8; simp only [Act.put, sA, s0, sS]
            refine tk 29 175 ?v119 ?h119 hHeld ?_; case h119 => (intro w s; (try dsimp only at s); go_simp <;> with_reducible rfl)
            conv => arg 8; simp only [Act.put, sA, s0, sS]
            refine wpAnyH_skips (by kernel_rfl) (fun _ _ _ _ _ h => h) hHeld [30, 31, 32, 33, 34, 35, 36, 37, 38, 39, 40, 41, 42, 43] [176, 177, 178, 179, 180, 181, 182, 183, 184, 185, 186, 187, 188, 189] _ _ _ (by kernel_rfl) ?_
            simp only [List.foldl_cons, List.foldl_nil, Act.put, sA, s0, sS]
            refine tk 44 190 ?v121 ?h121 hHeld ?_; case h121 => (intro w s; (try dsimp only at s); go_simp <;> with_reducible rfl)
            conv => arg 8; simp only [Act.put, sA, s0, sS]
            refine tk 45 191 ?v122 ?h122 hHeld ?_; case h122 => (intro w s; (try dsimp only at s); go_simp <;> with_reducible rfl)
            conv => arg 8; simp only [Act.put, sA, s0, sS]
            refine wpAnyH_skips (by kernel_rfl) (fun _ _ _ _ _ h => h) hHeld [46, 47, 48, 49, 50] [192, 193, 194, 195, 196] _ _ _ (by kernel_rfl) ?_
            simp only [List.foldl_cons, List.foldl_nil, Act.put, sA, s0, sS]
            refine tk 51 197 ?v124 ?h124 hHeld ?_; case h124 => (intro w s; (try dsimp only at s); go_simp <;> with_reducible rfl)
            conv => arg 8; simp only [Act.put, sA, s0, sS]
            refine tk 52 198 ?v125 ?h125 hHeld ?_; case h125 => (intro w s; (try dsimp only at s); go_simp <;> with_reducible rfl)
            conv => arg 8; simp only [Act.put, sA, s0, sS]
            refine wpAnyH_skips (by kernel_rfl) (fun _ _ _ _ _ h => h) hHeld [53, 54, 55, 56, 57, 58, 59] [199, 200, 201, 202, 203, 204, 205] _ _ _ (by kernel_rfl) ?_
            simp only [List.foldl_cons, List.foldl_nil, Act.put, sA, s0, sS]
            refine tk 60 206 ?v127 ?h127 hHeld ?_; case h127 => (intro w s; (try dsimp only at s); go_simp <;> with_reducible rfl)
            conv => arg 8; simp only [Act.put, sA, s0, sS]
            refine wpAnyH_done (by kernel_rfl) ?_ _
            clear HF HKm HKb HA1 HLM HLG
            repeat clear hHeld
            go_wp2
            go_ret
            exact ⟨ret_b (HNG.out (rangeAll_no k hlt (HE.out.trans (goneNo (.inr (.inl h2)))))), Below.step HB1.out DR⟩
          have e154 : decide (x.next ≤ uid) = false := decide_eq_false h2
          by_cases h3 : 0 ≤ fi
          · have e161 : decide (0 ≤ fi) = true := decide_eq_true h3
            have HM0 : Hid (M = true) := HMF.out.trans e161
            have HCL := HGE.out k hA.out (HE.out.trans (goneNo (.inr (.inr (.inl HM0.out)))))
            rw [HEB.out, if_neg h1, if_neg h2, if_pos HM0.out] at HCL
            omega
          have e161 : decide (0 ≤ fi) = false := decide_eq_false h3
          have HM0 : Hid (M = false) := HMF.out.trans e161
          by_cases h4 : seq < 1
          · have e166 : decide (seq < 1) = true := decide_eq_true h4
            have HCL := HGE.out k hA.out (HE.out.trans (goneNo (.inr (.inr (.inr (.inr (.inl (by have := hms.1; omega))))))))
            rw [HEB.out, if_neg h1, if_neg h2, if_neg (show ¬ M = true from by rw [HM0.out]; decide), if_pos h4] at HCL
            omega
          have e166 : decide (seq < 1) = false := decide_eq_false h4
          by_cases h5 : x.seq < seq
          · have e173 : decide (x.seq < seq) = true := decide_eq_true h5
            have HCL := HGE.out k hA.out (HE.out.trans (goneNo (.inr (.inr (.inr (.inl h5))))))
            rw [HEB.out, if_neg h1, if_neg h2, if_neg (show ¬ M = true from by rw [HM0.out]; decide), if_neg h4, if_pos h5] at HCL
            omega
          have e173 : decide (x.seq < seq) = false := decide_eq_false h5
          by_cases hkz : (0 : Int) < (k : Int)
          · obtain ⟨j, hj⟩ : ∃ j, k = j + 1 := ⟨k - 1, by omega⟩
            have hjk : (j : Int) < (k : Int) := by omega
            have hjl : (j : Int) < (x.gones.length : Int) := by omega
            have hj0 : (0 : Int) ≤ (j : Int) := by omega
            have hw1 : IntKind.i64.wrap ((k : Int) - 1) = (j : Int) := by rw [IntWalk.i64_in _ (by omega)]; omega
            have hkN : 0 < k := by omega
            have hd : decide (0 < k) = true := by simpa using hkN
            have HJ : Hid (k = j + 1) := hj
            clear hj
            obtain ⟨m', hm'⟩ : ∃ m', x.gones[j]? = some m' := ⟨x.gones[j]'(by have := HJ.out; omega), List.getElem?_eq_getElem (by have := HJ.out; omega)⟩
            obtain ⟨b2, off2, cap2, hv2, hlb2, -, t0, -⟩ := GonesV.cell (H0.out wr hB.out).2.2 j m' hm'
            simp only [Value.slice.injEq, true_and, Option.some.injEq, Addr.mk.injEq, and_true] at hv2
            obtain ⟨⟨rfl, rfl⟩, rfl⟩ := hv2
            have HPS : Hid (m'.seq = ms) := by rw [← HQ.out, HJ.out]; simp [Hid, minS, hm']
            generalize m'.seq = ps at t0 HPS
            clear hm'
            have HF2 : Hid (∀ w', Below (wr.alloc (.cells #[.int .i64 uid, .int .i64 seq] 119)).heap.size (wr.alloc (.cells #[.int .i64 uid, .int .i64 seq] 119)) w' → w'.cell? ⟨wr.heap.size, 0, none⟩ = some (.int .i64 uid) ∧ w'.cell? ⟨wr.heap.size, 1, none⟩ = some (.int .i64 seq) ∧ w'.cell? ⟨w.heap.size, 0, none⟩ = some (.slice a0 n0 c0) ∧ w'.cell? ⟨w.heap.size, 1, none⟩ = some (.int .i64 x.valid) ∧ w'.cell? ⟨w.heap.size, 2, none⟩ = some (.int .i64 x.next) ∧ w'.cell? ⟨w.heap.size, 3, none⟩ = some (.int .i64 x.seq) ∧ w'.cell? ⟨w.heap.size, 4, none⟩ = some (.slice a1 x.mails.length c1) ∧ w'.cell? ⟨w.heap.size, 5, none⟩ = some (.slice (some ⟨b, off, none⟩) x.gones.length c2) ∧ w'.cell? ⟨w.heap.size, 6, none⟩ = some (.int .i64 x.lost) ∧ w'.cell? ⟨b, off + j * 2 + 1, none⟩ = some (.int .i64 ps)) := by
              intro w' h
              obtain ⟨r0, r1, s0, s1, s2, s3, s4, s5, s6⟩ := HF.out w' h
              exact ⟨r0, r1, s0, s1, s2, s3, s4, s5, s6, ((Below.step HA1.out h).cell (p := ⟨b, off + j * 2 + 1, none⟩) hlb).trans t0⟩
            by_cases h6 : seq < ps
            · have e188 : decide (seq < ps) = true := decide_eq_true h6
              have HCL := HGE.out k hA.out (HE.out.trans (goneNo (.inr (.inr (.inr (.inr (.inl (by have := HPS.out; omega))))))))
              rw [HEB.out, if_neg h1, if_neg h2, if_neg (show ¬ M = true from by rw [HM0.out]; decide), if_neg h4, if_neg h5, if_pos hkz, if_pos (show seq < ms from by have := HPS.out; omega)] at HCL
              omega
            have e188 : decide (seq < ps) = false := decide_eq_false h6
            by_cases h7 : seq < x.lost
            · have e196 : decide (seq < x.lost) = true := decide_eq_true h7
              have HCL := HGE.out k hA.out (HE.out.trans (goneNo (.inr (.inr (.inr (.inr (.inl (by have := hms.2; omega))))))))
              rw [HEB.out, if_neg h1, if_neg h2, if_neg (show ¬ M = true from by rw [HM0.out]; decide), if_neg h4, if_neg h5, if_pos hkz, if_neg (show ¬ seq < ms from by have := HPS.out; omega), if_pos h7] at HCL
              omega
            have e196 : decide (seq < x.lost) = false := decide_eq_false h7
            cases XG with
            | true =>
              have HCL := HGE.out k hA.out (HE.out.trans (goneNo (.inr (.inr (.inr (.inr (.inr rfl)))))))
              rw [HEB.out, if_neg h1, if_neg h2, if_neg (show ¬ M = true from by rw [HM0.out]; decide), if_neg h4, if_neg h5, if_pos hkz, if_neg (show ¬ seq < ms from by have := HPS.out; omega), if_neg h7] at HCL
              omega
            | false =>
              go_wp2
              refine wp_region_held_drew (S := fun w' => w'.cell? ⟨wr.heap.size, 0, none⟩ = some (.int .i64 uid) ∧ w'.cell? ⟨wr.heap.size, 1, none⟩ = some (.int .i64 seq) ∧ w'.cell? ⟨w.heap.size, 0, none⟩ = some (.slice a0 n0 c0) ∧ w'.cell? ⟨w.heap.size, 1, none⟩ = some (.int .i64 x.valid) ∧ w'.cell? ⟨w.heap.size, 2, none⟩ = some (.int .i64 x.next) ∧ w'.cell? ⟨w.heap.size, 3, none⟩ = some (.int .i64 x.seq) ∧ w'.cell? ⟨w.heap.size, 4, none⟩ = some (.slice a1 x.mails.length c1) ∧ w'.cell? ⟨w.heap.size, 5, none⟩ = some (.slice (some ⟨b, off, none⟩) x.gones.length c2) ∧ w'.cell? ⟨w.heap.size, 6, none⟩ = some (.int .i64 x.lost) ∧ w'.cell? ⟨b, off + j * 2 + 1, none⟩ = some (.int .i64 ps)) (by kernel_rfl) (HF2.out _ DR) (fun hHeld => (show wpAnyH _ _ _ _ _ 61 #[false, false, false, false, false, false, false, false, false, false, false, false, false, false, false, false, false, false, false, false, false, false, false, false, false, false, false, false, false, false, false, false, false, false, false, false, false, false, false, false, false, false, false, false, false, false, false, false, false, false, false, false, false, false, false, false, false, false, false, false, false] _ _ from ?_))
              refine tk 0 146 ?v128 ?h128 hHeld ?_; case h128 => (intro w s; (try dsimp only at s); go_simp <;> with_reducible rfl)
              conv => arg 8; simp only [Act.put, sA, s0, sS]
              refine tk 1 147 ?v129 ?h129 hHeld ?_; case h129 => (intro w s; (try dsimp only at s); go_simp <;> with_reducible rfl)
              conv => arg 8; simp only [Act.put, sA, s0, sS]
              refine tk 2 148 ?v130 ?h130 hHeld ?_; case h130 => (intro w s; (try dsimp only at s); go_simp <;> with_reducible rfl)
              conv => arg 8; simp only [Act.put, sA, s0, sS]
              refine tk 3 149 ?v131 ?h131 hHeld ?_; case h131 => (intro w s; (try dsimp only at s); go_simp <;> with_reducible rfl)
              conv => arg 8; simp only [Act.put, sA, s0, sS]
              refine tk 4 150 ?v132 ?h132 hHeld ?_; case h132 => (intro w s; (try dsimp only at s); go_simp <;> with_reducible rfl)
              conv => arg 8; simp only [Act.put, sA, s0, sS]
              refine tk 5 151 ?v133 ?h133 hHeld ?_; case h133 => (intro w s; (try dsimp only at s); go_simp <;> with_reducible rfl)
              conv => arg 8; simp only [Act.put, sA, s0, sS]
              refine tk 6 152 ?v134 ?h134 hHeld ?_; case h134 => (intro w s; (try dsimp only at s); go_simp <;> with_reducible rfl)
              conv => arg 8; simp only [Act.put, sA, s0, sS]
              refine tk 7 153 ?v135 ?h135 hHeld ?_; case h135 => (intro w s; (try dsimp only at s); go_simp <;> with_reducible rfl)
              conv => arg 8; simp only [Act.put, sA, s0, sS]
              refine tk 8 154 ?v136 ?h136 hHeld ?_; case h136 => (intro w s; (try dsimp only at s); go_simp <;> with_reducible rfl)
              conv => arg 8; simp only [Act.put, sA, s0, sS]
              refine tk 9 155 ?v137 ?h137 hHeld ?_; case h137 => (intro w s; (try dsimp only at s); go_simp <;> with_reducible rfl)
              conv => arg 8; simp only [Act.put, sA, s0, sS]
              refine tk 10 156 ?v138 ?h138 hHeld ?_; case h138 => (intro w s; (try dsimp only at s); go_simp <;> with_reducible rfl)
              conv => arg 8; simp only [Act.put, sA, s0, sS]
              refine tk 11 157 ?v139 ?h139 hHeld ?_; case h139 => (intro w s; (try dsimp only at s); go_simp <;> with_reducible rfl)
              conv => arg 8; simp only [Act.put, sA, s0, sS]
              refine tk 12 158 ?v140 ?h140 hHeld ?_; case h140 => (intro w s; (try dsimp only at s); go_simp <;> with_reducible rfl)
              conv => arg 8; simp only [Act.put, sA, s0, sS]
              refine tk 13 159 ?v141 ?h141 hHeld ?_; case h141 => (intro w s; (try dsimp only at s); go_simp <;> with_reducible rfl)
              conv => arg 8; simp only [Act.put, sA, s0, sS]
              refine wpAnyH_ready (rs := [14]) (by kernel_rfl) (by simp) ?_
              refine AllReadyH.cons rfl (fun K hK => ?_) AllReadyH.nil
              go_simp
              refine (HLM.out _ (Below.step HA1.out DR)).mono ?_
              rintro e w1 ⟨rfl, B⟩
              refine hK.out _ _ (HF2.out _ (Below.step DR B)) (fun hHeld => ?_)
              clear hK K
              refine tk 15 161 ?v143 ?h143 hHeld ?_; case h143 => (intro w s; (try dsimp only at s); go_simp <;> with_reducible rfl)
              conv => arg 8; simp only [Act.put, sA, s0, sS]
              refine tk 16 162 ?v144 ?h144 hHeld ?_; case h144 => (intro w s; (try dsimp only at s); go_simp <;> with_reducible rfl)
              conv => arg 8; simp only [Act.put, sA, s0, sS]
              refine tk 17 163 ?v145 ?h145 hHeld ?_; case h145 => (intro w s; (try dsimp only at s); go_simp <;> with_reducible rfl)
              conv => arg 8; simp only [Act.put, sA, s0, sS]
              refine tk 18 164 ?v146 ?h146 hHeld ?_; case h146 => (intro w s; (try dsimp only at s); go_simp <;> with_reducible rfl)
              conv => arg 8; simp only [Act.put, sA, s0, sS]
              refine tk 19 165 ?v147 ?h147 hHeld ?_; case h147 => (intro w s; (try dsimp only at s); go_simp <;> with_reducible rfl)
              conv => arg 8; simp only [Act.put, sA, s0, sS]
              refine tk 20 166 ?v148 ?h148 hHeld ?_; case h148 => (intro w s; (try dsimp only at s); go_simp <;> with_reducible rfl)
              conv => arg 8; simp only [Act.put, sA, s0, sS]
              refine tk 21 167 ?v149 ?h149 hHeld ?_; case h149 => (intro w s; (try dsimp only at s); go_simp <;> with_reducible rfl)
              conv => arg 8; simp only [Act.put, sA, s0, sS]
              refine tk 22 168 ?v150 ?h150 hHeld ?_; case h150 => (intro w s; (try dsimp only at s); go_simp <;> with_reducible rfl)
              conv => arg 8; simp only [Act.put, sA, s0, sS]
              refine tk 23 169 ?v151 ?h151 hHeld ?_; case h151 => (intro w s; (try dsimp only at s); go_simp <;> with_reducible rfl)
              conv => arg 8; simp only [Act.put, sA, s0, sS]
              refine tk 24 170 ?v152 ?h152 hHeld ?_; case h152 => (intro w s; (try dsimp only at s); go_simp <;> with_reducible rfl)
              conv => arg 8; simp only [Act.put, sA, s0, sS]
              refine tk 25 171 ?v153 ?h153 hHeld ?_; case h153 => (intro w s; (try dsimp only at s); go_simp <;> with_reducible rfl)
              conv => arg 8; simp only [Act.put, sA, s0, sS]
              refine tk 26 172 ?v154 ?h154 hHeld ?_; case h154 => (intro w s; (try dsimp only at s); go_simp <;> with_reducible rfl)
              conv => arg 8; simp only [Act.put, sA, s0, sS]
              refine tk 27 173 ?v155 ?h155 hHeld ?_; case h155 => (intro w s; (try dsimp only at s); go_simp <;> with_reducible rfl)
              conv => arg 8; simp only [Act.put, sA, s0, sS]
              refine tk 28 174 ?v156 ?h156 hHeld ?_; case h156 => (intro w s; (try dsimp only at s); go_simp <;> with_reducible rfl)
              conv => arg 8; simp only [Act.put, sA, s0, sS]
              refine tk 29 175 ?v157 ?h157 hHeld ?_; case h157 => (intro w s; (try dsimp only at s); go_simp <;> with_reducible rfl)
              conv => arg 8; simp only [Act.put, sA, s0, sS]
              refine tk 30 176 ?v158 ?h158 hHeld ?_; case h158 => (intro w s; (try dsimp only at s); go_simp <;> with_reducible rfl)
              conv => arg 8; simp only [Act.put, sA, s0, sS]
              refine tk 31 177 ?v159 ?h159 hHeld ?_; case h159 => (intro w s; (try dsimp only at s); go_simp <;> with_reducible rfl)
              conv => arg 8; simp only [Act.put, sA, s0, sS]
              refine tk 32 178 ?v160 ?h160 hHeld ?_; case h160 => (intro w s; (try dsimp only at s); go_simp <;> with_reducible rfl)
              conv => arg 8; simp only [Act.put, sA, s0, sS]
              refine tk 33 179 ?v161 ?h161 hHeld ?_; case h161 => (intro w s; (try dsimp only at s); go_simp <;> with_reducible rfl)
              conv => arg 8; simp only [Act.put, sA, s0, sS]
              refine tk 34 180 ?v162 ?h162 hHeld ?_; case h162 => (intro w s; (try dsimp only at s); go_simp <;> with_reducible rfl)
              conv => arg 8; simp only [Act.put, sA, s0, sS]
              refine tk 35 181 ?v163 ?h163 hHeld ?_; case h163 => (intro w s; (try dsimp only at s); go_simp <;> with_reducible rfl)
              conv => arg 8; simp only [Act.put, sA, s0, sS]
              refine tk 36 182 ?v164 ?h164 hHeld ?_; case h164 => (intro w s; (try dsimp only at s); go_simp <;> with_reducible rfl)
              conv => arg 8; simp only [Act.put, sA, s0, sS]
              refine tk 37 183 ?v165 ?h165 hHeld ?_; case h165 => (intro w s; (try dsimp only at s); go_simp <;> with_reducible rfl)
              conv => arg 8; simp only [Act.put, sA, s0, sS]
              refine tk 38 184 ?v166 ?h166 hHeld ?_; case h166 => (intro w s; (try dsimp only at s); go_simp <;> with_reducible rfl)
              conv => arg 8; simp only [Act.put, sA, s0, sS]
              refine tk 39 185 ?v167 ?h167 hHeld ?_; case h167 => (intro w s; (try dsimp only at s); go_simp <;> with_reducible rfl)
              conv => arg 8; simp only [Act.put, sA, s0, sS]
              refine tk 40 186 ?v168 ?h168 hHeld ?_; case h168 => (intro w s; (try dsimp only at s); go_simp <;> with_reducible rfl)
              conv => arg 8; simp only [Act.put, sA, s0, sS]
              refine tk 41 187 ?v169 ?h169 hHeld ?_; case h169 => (intro w s; (try dsimp only at s); go_simp <;> with_reducible rfl)
              conv => arg 8; simp only [Act.put, sA, s0, sS]
              refine tk 42 188 ?v170 ?h170 hHeld ?_; case h170 => (intro w s; (try dsimp only at s); go_simp <;> with_reducible rfl)
              conv => arg 8; simp only [Act.put, sA, s0, sS]
              refine tk 43 189 ?v171 ?h171 hHeld ?_; case h171 => (intro w s; (try dsimp only at s); go_simp <;> with_reducible rfl)
              conv => arg 8; simp only [Act.put, sA, s0, sS]
              refine tk 44 190 ?v172 ?h172 hHeld ?_; case h172 => (intro w s; (try dsimp only at s); go_simp <;> with_reducible rfl)
              conv => arg 8; simp only [Act.put, sA, s0, sS]
              refine tk 45 191 ?v173 ?h173 hHeld ?_; case h173 => (intro w s; (try dsimp only at s); go_simp <;> with_reducible rfl)
              conv => arg 8; simp only [Act.put, sA, s0, sS]
              refine tk 46 192 ?v174 ?h174 hHeld ?_; case h174 => (intro w s; (try dsimp only at s); go_simp <;> with_reducible rfl)
              conv => arg 8; simp only [Act.put, sA, s0, sS]
              refine tk 47 193 ?v175 ?h175 hHeld ?_; case h175 => (intro w s; (try dsimp only at s); go_simp <;> with_reducible rfl)
              conv => arg 8; simp only [Act.put, sA, s0, sS]
              refine tk 48 194 ?v176 ?h176 hHeld ?_; case h176 => (intro w s; (try dsimp only at s); go_simp <;> with_reducible rfl)
              conv => arg 8; simp only [Act.put, sA, s0, sS]
              refine tk 49 195 ?v177 ?h177 hHeld ?_; case h177 => (intro w s; (try dsimp only at s); go_simp <;> with_reducible rfl)
              conv => arg 8; simp only [Act.put, sA, s0, sS]
              refine tk 50 196 ?v178 ?h178 hHeld ?_; case h178 => (intro w s; (try dsimp only at s); go_simp <;> with_reducible rfl)
              conv => arg 8; simp only [Act.put, sA, s0, sS]
              refine tk 51 197 ?v179 ?h179 hHeld ?_; case h179 => (intro w s; (try dsimp only at s); go_simp <;> with_reducible rfl)
              conv => arg 8; simp only [Act.put, sA, s0, sS]
              refine tk 52 198 ?v180 ?h180 hHeld ?_; case h180 => (intro w s; (try dsimp only at s); go_simp <;> with_reducible rfl)
              conv => arg 8; simp only [Act.put, sA, s0, sS]
              refine tk 53 199 ?v181 ?h181 hHeld ?_; case h181 => (intro w s; (try dsimp only at s); go_simp <;> with_reducible rfl)
              conv => arg 8; simp only [Act.put, sA, s0, sS]
              refine tk 54 200 ?v182 ?h182 hHeld ?_; case h182 => (intro w s; (try dsimp only at s); go_simp <;> with_reducible rfl)
              conv => arg 8; simp only [Act.put, sA, s0, sS]
              refine tk 55 201 ?v183 ?h183 hHeld ?_; case h183 => (intro w s; (try dsimp only at s); go_simp <;> with_reducible rfl)
              conv => arg 8; simp only [Act.put, sA, s0, sS]
              refine tk 56 202 ?v184 ?h184 hHeld ?_; case h184 => (intro w s; (try dsimp only at s); go_simp <;> with_reducible rfl)
              conv => arg 8; simp only [Act.put, sA, s0, sS]
              refine tk 57 203 ?v185 ?h185 hHeld ?_; case h185 => (intro w s; (try dsimp only at s); go_simp <;> with_reducible rfl)
              conv => arg 8; simp only [Act.put, sA, s0, sS]
              refine tk 58 204 ?v186 ?h186 hHeld ?_; case h186 => (intro w s; (try dsimp only at s); go_simp <;> with_reducible rfl)
              conv => arg 8; simp only [Act.put, sA, s0, sS]
              refine wpAnyH_ready (rs := [59]) (by kernel_rfl) (by simp) ?_
              refine AllReadyH.cons rfl (fun K hK => ?_) AllReadyH.nil
              go_simp
              refine (HLG.out _ (Below.step (Below.step HA1.out DR) B)).mono ?_
              rintro e w2 ⟨rfl, rfl⟩
              refine hK.out _ _ (HF2.out _ (Below.step DR B)) (fun hHeld => ?_)
              clear hK K
              refine tk 60 206 ?v188 ?h188 hHeld ?_; case h188 => (intro w s; (try dsimp only at s); go_simp <;> with_reducible rfl)
              conv => arg 8; simp only [Act.put, sA, s0, sS]
              refine wpAnyH_done (by kernel_rfl) ?_ _
              have HB2 : Hid (Below w.heap.size w w2) := Below.step (Below.step HB1.out DR) B
              have HK2 : Hid (w2.heap[w.heap.size]? = some (.cells #[.slice a0 n0 c0, .int .i64 x.valid, .int .i64 x.next, .int .i64 x.seq, .slice a1 x.mails.length c1, .slice (some ⟨b, off, none⟩) x.gones.length c2, .int .i64 x.lost] 87)) := box_below B (box_below DR HKb.out)
              clear HF HF2 HKm HKb HA1 HLM HLG HB1
              repeat clear hHeld
              go_wp2
              go_roundw
              case rel =>
                refine ⟨k + 1, by omega, by go_num, (show Hid _ from fun i hi => ?_), HK2, HB2⟩
                by_cases e : i = k
                · subst e; exact HE.out.trans (goneYes (by omega) (by omega) (by have := HPS.out; omega) (by omega) HM0.out rfl)
                · exact hA.out i (by omega)
              case measure => simp [intOf]; omega
          · have hkN : ¬ 0 < k := by omega
            have hd : decide (0 < k) = false := by simpa using hkN
            have HPS : Hid (ms ≤ 1 ∨ ms ≤ x.lost) := by
              have : k = 0 := by omega
              rw [← HQ.out, this]
              simp only [Hid, minS]
              omega
            by_cases h7 : seq < x.lost
            · have e196 : decide (seq < x.lost) = true := decide_eq_true h7
              have HCL := HGE.out k hA.out (HE.out.trans (goneNo (.inr (.inr (.inr (.inr (.inl (by have := hms.2; omega))))))))
              rw [HEB.out, if_neg h1, if_neg h2, if_neg (show ¬ M = true from by rw [HM0.out]; decide), if_neg h4, if_neg h5, if_neg hkz, if_pos h7] at HCL
              omega
            have e196 : decide (seq < x.lost) = false := decide_eq_false h7
            cases XG with
            | true =>
              have HCL := HGE.out k hA.out (HE.out.trans (goneNo (.inr (.inr (.inr (.inr (.inr rfl)))))))
              rw [HEB.out, if_neg h1, if_neg h2, if_neg (show ¬ M = true from by rw [HM0.out]; decide), if_neg h4, if_neg h5, if_neg hkz, if_neg h7] at HCL
              omega
            | false =>
              go_wp2
              refine wp_region_held_drew (S := fun w' => w'.cell? ⟨wr.heap.size, 0, none⟩ = some (.int .i64 uid) ∧ w'.cell? ⟨wr.heap.size, 1, none⟩ = some (.int .i64 seq) ∧ w'.cell? ⟨w.heap.size, 0, none⟩ = some (.slice a0 n0 c0) ∧ w'.cell? ⟨w.heap.size, 1, none⟩ = some (.int .i64 x.valid) ∧ w'.cell? ⟨w.heap.size, 2, none⟩ = some (.int .i64 x.next) ∧ w'.cell? ⟨w.heap.size, 3, none⟩ = some (.int .i64 x.seq) ∧ w'.cell? ⟨w.heap.size, 4, none⟩ = some (.slice a1 x.mails.length c1) ∧ w'.cell? ⟨w.heap.size, 5, none⟩ = some (.slice (some ⟨b, off, none⟩) x.gones.length c2) ∧ w'.cell? ⟨w.heap.size, 6, none⟩ = some (.int .i64 x.lost)) (by kernel_rfl) (HF.out _ DR) (fun hHeld => (show wpAnyH _ _ _ _ _ 61 #[false, false, false, false, false, false, false, false, false, false, false, false, false, false, false, false, false, false, false, false, false, false, false, false, false, false, false, false, false, false, false, false, false, false, false, false, false, false, false, false, false, false, false, false, false, false, false, false, false, false, false, false, false, false, false, false, false, false, false, false, false] _ _ from ?_))
              refine tk 0 146 ?v189 ?h189 hHeld ?_; case h189 => (intro w s; (try dsimp only at s); go_simp <;> with_reducible rfl)
              conv => arg 8; simp only [Act.put, sA, s0, sS]
              refine tk 1 147 ?v190 ?h190 hHeld ?_; case h190 => (intro w s; (try dsimp only at s); go_simp <;> with_reducible rfl)
              conv => arg 8; simp only [Act.put, sA, s0, sS]
              refine tk 2 148 ?v191 ?h191 hHeld ?_; case h191 => (intro w s; (try dsimp only at s); go_simp <;> with_reducible rfl)
              conv => arg 8; simp only [Act.put, sA, s0, sS]
              refine tk 3 149 ?v192 ?h192 hHeld ?_; case h192 => (intro w s; (try dsimp only at s); go_simp <;> with_reducible rfl)
              conv => arg 8; simp only [Act.put, sA, s0, sS]
              refine tk 4 150 ?v193 ?h193 hHeld ?_; case h193 => (intro w s; (try dsimp only at s); go_simp <;> with_reducible rfl)
              conv => arg 8; simp only [Act.put, sA, s0, sS]
              refine tk 5 151 ?v194 ?h194 hHeld ?_; case h194 => (intro w s; (try dsimp only at s); go_simp <;> with_reducible rfl)
              conv => arg 8; simp only [Act.put, sA, s0, sS]
              refine tk 6 152 ?v195 ?h195 hHeld ?_; case h195 => (intro w s; (try dsimp only at s); go_simp <;> with_reducible rfl)
              conv => arg 8; simp only [Act.put, sA, s0, sS]
              refine tk 7 153 ?v196 ?h196 hHeld ?_; case h196 => (intro w s; (try dsimp only at s); go_simp <;> with_reducible rfl)
              conv => arg 8; simp only [Act.put, sA, s0, sS]
              refine tk 8 154 ?v197 ?h197 hHeld ?_; case h197 => (intro w s; (try dsimp only at s); go_simp <;> with_reducible rfl)
              conv => arg 8; simp only [Act.put, sA, s0, sS]
              refine tk 9 155 ?v198 ?h198 hHeld ?_; case h198 => (intro w s; (try dsimp only at s); go_simp <;> with_reducible rfl)
              conv => arg 8; simp only [Act.put, sA, s0, sS]
              refine tk 10 156 ?v199 ?h199 hHeld ?_; case h199 => (intro w s; (try dsimp only at s); go_simp <;> with_reducible rfl)
              conv => arg 8; simp only [Act.put, sA, s0, sS]
              refine tk 11 157 ?v200 ?h200 hHeld ?_; case h200 => (intro w s; (try dsimp only at s); go_simp <;> with_reducible rfl)
              conv => arg 8; simp only [Act.put, sA, s0, sS]
              refine tk 12 158 ?v201 ?h201 hHeld ?_; case h201 => (intro w s; (try dsimp only at s); go_simp <;> with_reducible rfl)
              conv => arg 8; simp only [Act.put, sA, s0, sS]
              refine tk 13 159 ?v202 ?h202 hHeld ?_; case h202 => (intro w s; (try dsimp only at s); go_simp <;> with_reducible rfl)
              conv => arg 8; simp only [Act.put, sA, s0, sS]
              refine wpAnyH_ready (rs := [14]) (by kernel_rfl) (by simp) ?_
              refine AllReadyH.cons rfl (fun K hK => ?_) AllReadyH.nil
              go_simp
              refine (HLM.out _ (Below.step HA1.out DR)).mono ?_
              rintro e w1 ⟨rfl, B⟩
              refine hK.out _ _ (HF.out _ (Below.step DR B)) (fun hHeld => ?_)
              clear hK K
              refine tk 15 161 ?v204 ?h204 hHeld ?_; case h204 => (intro w s; (try dsimp only at s); go_simp <;> with_reducible rfl)
              conv => arg 8; simp only [Act.put, sA, s0, sS]
              refine tk 16 162 ?v205 ?h205 hHeld ?_; case h205 => (intro w s; (try dsimp only at s); go_simp <;> with_reducible rfl)
              conv => arg 8; simp only [Act.put, sA, s0, sS]
              refine tk 17 163 ?v206 ?h206 hHeld ?_; case h206 => (intro w s; (try dsimp only at s); go_simp <;> with_reducible rfl)
              conv => arg 8; simp only [Act.put, sA, s0, sS]
              refine tk 18 164 ?v207 ?h207 hHeld ?_; case h207 => (intro w s; (try dsimp only at s); go_simp <;> with_reducible rfl)
              conv => arg 8; simp only [Act.put, sA, s0, sS]
              refine tk 19 165 ?v208 ?h208 hHeld ?_; case h208 => (intro w s; (try dsimp only at s); go_simp <;> with_reducible rfl)
              conv => arg 8; simp only [Act.put, sA, s0, sS]
              refine tk 20 166 ?v209 ?h209 hHeld ?_; case h209 => (intro w s; (try dsimp only at s); go_simp <;> with_reducible rfl)
              conv => arg 8; simp only [Act.put, sA, s0, sS]
              refine tk 21 167 ?v210 ?h210 hHeld ?_; case h210 => (intro w s; (try dsimp only at s); go_simp <;> with_reducible rfl)
              conv => arg 8; simp only [Act.put, sA, s0, sS]
              refine tk 22 168 ?v211 ?h211 hHeld ?_; case h211 => (intro w s; (try dsimp only at s); go_simp <;> with_reducible rfl)
              conv => arg 8; simp only [Act.put, sA, s0, sS]
              refine tk 23 169 ?v212 ?h212 hHeld ?_; case h212 => (intro w s; (try dsimp only at s); go_simp <;> with_reducible rfl)
              conv => arg 8; simp only [Act.put, sA, s0, sS]
              refine tk 24 170 ?v213 ?h213 hHeld ?_; case h213 => (intro w s; (try dsimp only at s); go_simp <;> with_reducible rfl)
              conv => arg 8; simp only [Act.put, sA, s0, sS]
              refine tk 25 171 ?v214 ?h214 hHeld ?_; case h214 => (intro w s; (try dsimp only at s); go_simp <;> with_reducible rfl)
              conv => arg 8; simp only [Act.put, sA, s0, sS]
              refine tk 26 172 ?v215 ?h215 hHeld ?_; case h215 => (intro w s; (try dsimp only at s); go_simp <;> with_reducible rfl)
              conv => arg 8; simp only [Act.put, sA, s0, sS]
              refine tk 27 173 ?v216 ?h216 hHeld ?_; case h216 => (intro w s; (try dsimp only at s); go_simp <;> with_reducible rfl)
              conv => arg 8; simp only [Act.put, sA, s0, sS]
              refine tk 28 174 ?v217 ?h217 hHeld ?_; case h217 => (intro w s; (try dsimp only at s); go_simp <;> with_reducible rfl)
              conv => arg 8; simp only [Act.put, sA, s0, sS]
              refine tk 29 175 ?v218 ?h218 hHeld ?_; case h218 => (intro w s; (try dsimp only at s); go_simp <;> with_reducible rfl)
              conv => arg 8; simp only [Act.put, sA, s0, sS]
              refine tk 30 176 ?v219 ?h219 hHeld ?_; case h219 => (intro w s; (try dsimp only at s); go_simp <;> with_reducible rfl)
              conv => arg 8; simp only [Act.put, sA, s0, sS]
              refine tk 31 177 ?v220 ?h220 hHeld ?_; case h220 => (intro w s; (try dsimp only at s); go_simp <;> with_reducible rfl)
              conv => arg 8; simp only [Act.put, sA, s0, sS]
              refine tk 32 178 ?v221 ?h221 hHeld ?_; case h221 => (intro w s; (try dsimp only at s); go_simp <;> with_reducible rfl)
              conv => arg 8; simp only [Act.put, sA, s0, sS]
              refine wpAnyH_skips (by kernel_rfl) (fun _ _ _ _ _ h => h) hHeld [33, 34, 35, 36, 37, 38, 39, 40, 41, 42] [179, 180, 181, 182, 183, 184, 185, 186, 187, 188] _ _ _ (by kernel_rfl) ?_
              simp only [List.foldl_cons, List.foldl_nil, Act.put, sA, s0, sS]
              refine tk 43 189 ?v223 ?h223 hHeld ?_; case h223 => (intro w s; (try dsimp only at s); go_simp <;> with_reducible rfl)
              conv => arg 8; simp only [Act.put, sA, s0, sS]
              refine tk 44 190 ?v224 ?h224 hHeld ?_; case h224 => (intro w s; (try dsimp only at s); go_simp <;> with_reducible rfl)
              conv => arg 8; simp only [Act.put, sA, s0, sS]
              refine tk 45 191 ?v225 ?h225 hHeld ?_; case h225 => (intro w s; (try dsimp only at s); go_simp <;> with_reducible rfl)
              conv => arg 8; simp only [Act.put, sA, s0, sS]
              refine tk 46 192 ?v226 ?h226 hHeld ?_; case h226 => (intro w s; (try dsimp only at s); go_simp <;> with_reducible rfl)
              conv => arg 8; simp only [Act.put, sA, s0, sS]
              refine tk 47 193 ?v227 ?h227 hHeld ?_; case h227 => (intro w s; (try dsimp only at s); go_simp <;> with_reducible rfl)
              conv => arg 8; simp only [Act.put, sA, s0, sS]
              refine tk 48 194 ?v228 ?h228 hHeld ?_; case h228 => (intro w s; (try dsimp only at s); go_simp <;> with_reducible rfl)
              conv => arg 8; simp only [Act.put, sA, s0, sS]
              refine tk 49 195 ?v229 ?h229 hHeld ?_; case h229 => (intro w s; (try dsimp only at s); go_simp <;> with_reducible rfl)
              conv => arg 8; simp only [Act.put, sA, s0, sS]
              refine tk 50 196 ?v230 ?h230 hHeld ?_; case h230 => (intro w s; (try dsimp only at s); go_simp <;> with_reducible rfl)
              conv => arg 8; simp only [Act.put, sA, s0, sS]
              refine tk 51 197 ?v231 ?h231 hHeld ?_; case h231 => (intro w s; (try dsimp only at s); go_simp <;> with_reducible rfl)
              conv => arg 8; simp only [Act.put, sA, s0, sS]
              refine tk 52 198 ?v232 ?h232 hHeld ?_; case h232 => (intro w s; (try dsimp only at s); go_simp <;> with_reducible rfl)
              conv => arg 8; simp only [Act.put, sA, s0, sS]
              refine tk 53 199 ?v233 ?h233 hHeld ?_; case h233 => (intro w s; (try dsimp only at s); go_simp <;> with_reducible rfl)
              conv => arg 8; simp only [Act.put, sA, s0, sS]
              refine tk 54 200 ?v234 ?h234 hHeld ?_; case h234 => (intro w s; (try dsimp only at s); go_simp <;> with_reducible rfl)
              conv => arg 8; simp only [Act.put, sA, s0, sS]
              refine tk 55 201 ?v235 ?h235 hHeld ?_; case h235 => (intro w s; (try dsimp only at s); go_simp <;> with_reducible rfl)
              conv => arg 8; simp only [Act.put, sA, s0, sS]
              refine tk 56 202 ?v236 ?h236 hHeld ?_; case h236 => (intro w s; (try dsimp only at s); go_simp <;> with_reducible rfl)
              conv => arg 8; simp only [Act.put, sA, s0, sS]
              refine tk 57 203 ?v237 ?h237 hHeld ?_; case h237 => (intro w s; (try dsimp only at s); go_simp <;> with_reducible rfl)
              conv => arg 8; simp only [Act.put, sA, s0, sS]
              refine tk 58 204 ?v238 ?h238 hHeld ?_; case h238 => (intro w s; (try dsimp only at s); go_simp <;> with_reducible rfl)
              conv => arg 8; simp only [Act.put, sA, s0, sS]
              refine wpAnyH_ready (rs := [59]) (by kernel_rfl) (by simp) ?_
              refine AllReadyH.cons rfl (fun K hK => ?_) AllReadyH.nil
              go_simp
              refine (HLG.out _ (Below.step (Below.step HA1.out DR) B)).mono ?_
              rintro e w2 ⟨rfl, rfl⟩
              refine hK.out _ _ (HF.out _ (Below.step DR B)) (fun hHeld => ?_)
              clear hK K
              refine tk 60 206 ?v240 ?h240 hHeld ?_; case h240 => (intro w s; (try dsimp only at s); go_simp <;> with_reducible rfl)
              conv => arg 8; simp only [Act.put, sA, s0, sS]
              refine wpAnyH_done (by kernel_rfl) ?_ _
              have HB2 : Hid (Below w.heap.size w w2) := Below.step (Below.step HB1.out DR) B
              have HK2 : Hid (w2.heap[w.heap.size]? = some (.cells #[.slice a0 n0 c0, .int .i64 x.valid, .int .i64 x.next, .int .i64 x.seq, .slice a1 x.mails.length c1, .slice (some ⟨b, off, none⟩) x.gones.length c2, .int .i64 x.lost] 87)) := box_below B (box_below DR HKb.out)
              clear HF HKm HKb HA1 HLM HLG HB1
              repeat clear hHeld
              go_wp2
              go_roundw
              case rel =>
                refine ⟨k + 1, by omega, by go_num, (show Hid _ from fun i hi => ?_), HK2, HB2⟩
                by_cases e : i = k
                · subst e; exact HE.out.trans (goneYes (by omega) (by omega) (by have := HPS.out; omega) (by omega) HM0.out rfl)
                · exact hA.out i (by omega)
              case measure => simp [intOf]; omega
        · obtain rfl : k = x.gones.length := by omega
          exact absurd (rangeAll_yes hA.out) (by rw [HGB.out]; decide)

end Go.Proofs.YtifpjdpcmfneaaaGreatDoor
