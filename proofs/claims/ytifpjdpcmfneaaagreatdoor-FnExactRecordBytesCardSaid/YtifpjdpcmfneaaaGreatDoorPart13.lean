/- The proof's texts, part 13. -/
import Derived.Test.YtifpjdpcmfneaaaGreatDoorPart6
import Derived.Test.YtifpjdpcmfneaaaGreatDoorPart5
import Derived.Test.YtifpjdpcmfneaaaGreatDoorPart3
import Derived.Test.YtifpjdpcmfneaaaGreatDoorPart4
import Derived.Deep.RegionHeld3

/- What l3boxOk of package spec do. -/
namespace Go.Proofs.YtifpjdpcmfneaaaGreatDoor
open Go.RowKit
set_option maxRecDepth 100000
set_option linter.unusedVariables false
set_option linter.unusedSimpArgs false

set_option maxRecDepth 100000 in
set_option maxHeartbeats 40000000 in
theorem l3boxOk_inM (v : Value) (x : BoxD) (mv : Int) (w : World) (hv : BoxV w v x) (hX1 : nameB x.name = true) (q0 : 1 ≤ x.valid) (q1 : x.valid ≤ mv) (q2 : 1 ≤ x.next) (q3 : x.next ≤ 1000000) (q4 : 0 ≤ x.seq) (q5 : x.seq ≤ 1000000) (q6 : (x.mails.length : Int) ≤ 12) (q7 : (x.gones.length : Int) ≤ 40) (q8 : 0 ≤ x.lost) (q9 : x.lost ≤ x.seq) (HMB : Hid ((List.range x.mails.length).all (mailAt x) = false)) :
    Calls Tryz.prog 60 #[v, .int .i64 mv] w fun e w' => e = .returned (.bool (boxB x mv)) ∧ Below w.heap.size w w' := by
  have HV : Hid (∀ wi, Below w.heap.size w wi → BoxV wi v x) := fun wi h => hv.below h
  have HNM : Hid ((List.range x.mails.length).all (mailAt x) = false → boxB x mv = false) := boxB_noM
  have HNG : Hid ((List.range x.gones.length).all (goneAt x) = false → boxB x mv = false) := boxB_noG
  have HN1 : Hid (nameB x.name = true) := hX1
  obtain ⟨u0, u1, u2, rfl, g0, g1, g2, i0, i1, i2, i3⟩ := hv
  have H0 : Hid (∀ wi, Below w.heap.size w wi → Bs wi u0 x.name ∧ MailsV wi u1 x.mails ∧ GonesV wi u2 x.gones) := fun wi h => ⟨g0.below h, g1.below keepsMail h, g2.below keepsGone h⟩
  obtain ⟨a0, n0, c0, rfl⟩ := g0.form3
  obtain ⟨a1, c1, rfl, m0, m1⟩ := g1.form
  obtain ⟨a2, c2, rfl, m2, m3⟩ := g2.form
  clear g0 g1 g2
  have HX : Hid (Below w.heap.size w (w.alloc (.cells #[.slice a0 n0 c0, .int .i64 x.valid, .int .i64 x.next, .int .i64 x.seq, .slice a1 x.mails.length c1, .slice a2 x.gones.length c2, .int .i64 x.lost] 87))) := (Below.refl _ _).alloc (Nat.le_refl _) _
  have HK : Hid ((w.alloc (.cells #[.slice a0 n0 c0, .int .i64 x.valid, .int .i64 x.next, .int .i64 x.seq, .slice a1 x.mails.length c1, .slice a2 x.gones.length c2, .int .i64 x.lost] 87)).heap[w.heap.size]? = some (.cells #[.slice a0 n0 c0, .int .i64 x.valid, .int .i64 x.next, .int .i64 x.seq, .slice a1 x.mails.length c1, .slice a2 x.gones.length c2, .int .i64 x.lost] 87)) := box_new w _
  have hn := l3name_any _ x.name _ (H0.out _ HX.out).1
  rw [hX1] at hn
  have z0 : decide (x.valid < 1) = false := by simpa using q0
  have z1 : decide (mv < x.valid) = false := by simpa using q1
  have z2 : decide (x.next < 1) = false := by simpa using q2
  have z3 : decide (1000000 < x.next) = false := by simpa using q3
  have z4 : decide (x.seq < 0) = false := by simpa using q4
  have z5 : decide (1000000 < x.seq) = false := by simpa using q5
  have z6 : decide (12 < (x.mails.length : Int)) = false := by simpa using q6
  have z7 : decide (40 < (x.gones.length : Int)) = false := by simpa using q7
  have z8 : decide (x.lost < 0) = false := by simpa using q8
  have z9 : decide (x.seq < x.lost) = false := by simpa using q9
  go_enter Tryz.func60, Tryz.ntmps60
  go_wp2_with fail
  refine hn.mono ?_
  rintro e w' ⟨rfl, rfl⟩
  clear hn hX1
  go_wp2
  clear z0 z1 z2 z3 z4 z5 z6 z7 z8 z9
  go_loopw [5, 6] (fun i _ wr => ∃ k : Nat, k ≤ x.mails.length ∧ i = .int .i64 k ∧ Hid (∀ j, j < k → mailAt x j = true) ∧ Hid (wr.heap[w.heap.size]? = some (.cells #[.slice a0 n0 c0, .int .i64 x.valid, .int .i64 x.next, .int .i64 x.seq, .slice a1 x.mails.length c1, .slice a2 x.gones.length c2, .int .i64 x.lost] 87)) ∧ Hid (Below w.heap.size w wr)) (fun i _ _ => x.mails.length - (intOf i).toNat)
  case atStart => exact ⟨0, Nat.zero_le _, rfl, (fun j hj => absurd hj (Nat.not_lt_zero _)), HK, HX⟩
  case round =>
    obtain ⟨k, hk, rfl, hA, hK, hB⟩ := hrel
    by_cases hlt : k < x.mails.length
    · obtain ⟨m, hm⟩ : ∃ m, x.mails[k]? = some m := ⟨x.mails[k], List.getElem?_eq_getElem hlt⟩
      obtain ⟨b, off, cap', u, hv', hlb, d0, d1, d2, d3, hu, j0, j1, j2⟩ := MailsV.cell (H0.out wr hB.out).2.1 k m hm
      simp only [Value.slice.injEq, true_and] at hv'
      obtain ⟨rfl, rfl⟩ := hv'
      obtain ⟨ua, un, uc, rfl⟩ := hu.form3
      have hp := prevU_ok q3 hk hA.out
      have HE : Hid (mailAt x k = (inB m.uid (prevU x.mails k + 1) (x.next - 1) && (inB m.flags 0 31 && (inB m.seq 1 x.seq && textB m.text)))) := by simp [Hid, mailAt, hm]
      generalize hQ : prevU x.mails k = q at hp HE
      have HQ : Hid (prevU x.mails k = q) := hQ
      clear hQ hm
      obtain ⟨uid, flags, seq, text⟩ := m
      simp only at d0 d1 d2 d3 hu j0 j1 j2 HE
      have DR : Below (wr.alloc (.cells #[.int .i64 uid, .int .i64 flags, .int .i64 seq, .slice ua un uc] 117)).heap.size (wr.alloc (.cells #[.int .i64 uid, .int .i64 flags, .int .i64 seq, .slice ua un uc] 117)) (wr.alloc (.cells #[.int .i64 uid, .int .i64 flags, .int .i64 seq, .slice ua un uc] 117)).drew := (Below.refl _ _).drew
      have HA1 : Hid (Below wr.heap.size wr (wr.alloc (.cells #[.int .i64 uid, .int .i64 flags, .int .i64 seq, .slice ua un uc] 117))) := (Below.refl _ _).alloc (Nat.le_refl _) _
      have HB1 : Hid (Below w.heap.size w (wr.alloc (.cells #[.int .i64 uid, .int .i64 flags, .int .i64 seq, .slice ua un uc] 117))) := Below.step hB.out HA1.out
      have HT : Hid (Calls Tryz.prog 59 #[.slice ua un uc] (wr.alloc (.cells #[.int .i64 uid, .int .i64 flags, .int .i64 seq, .slice ua un uc] 117)).drew fun e w' => e = .returned (.bool (textB text)) ∧ w' = (wr.alloc (.cells #[.int .i64 uid, .int .i64 flags, .int .i64 seq, .slice ua un uc] 117)).drew) := l3text_any _ text _ (hu.below (Below.step HA1.out DR))
      generalize textB text = XT at HE HT
      have HKm : Hid ((wr.alloc (.cells #[.int .i64 uid, .int .i64 flags, .int .i64 seq, .slice ua un uc] 117)).heap[wr.heap.size]? = some (.cells #[.int .i64 uid, .int .i64 flags, .int .i64 seq, .slice ua un uc] 117)) := box_new wr _
      have HKb : Hid ((wr.alloc (.cells #[.int .i64 uid, .int .i64 flags, .int .i64 seq, .slice ua un uc] 117)).heap[w.heap.size]? = some (.cells #[.slice a0 n0 c0, .int .i64 x.valid, .int .i64 x.next, .int .i64 x.seq, .slice (some ⟨b, off, none⟩) x.mails.length c1, .slice a2 x.gones.length c2, .int .i64 x.lost] 87)) := box_alloc hK.out _
      have HF : Hid (∀ w', Below (wr.alloc (.cells #[.int .i64 uid, .int .i64 flags, .int .i64 seq, .slice ua un uc] 117)).heap.size (wr.alloc (.cells #[.int .i64 uid, .int .i64 flags, .int .i64 seq, .slice ua un uc] 117)) w' → w'.cell? ⟨wr.heap.size, 0, none⟩ = some (.int .i64 uid) ∧ w'.cell? ⟨wr.heap.size, 1, none⟩ = some (.int .i64 flags) ∧ w'.cell? ⟨wr.heap.size, 2, none⟩ = some (.int .i64 seq) ∧ w'.cell? ⟨wr.heap.size, 3, none⟩ = some (.slice ua un uc) ∧ w'.cell? ⟨w.heap.size, 2, none⟩ = some (.int .i64 x.next) ∧ w'.cell? ⟨w.heap.size, 3, none⟩ = some (.int .i64 x.seq) ∧ w'.cell? ⟨w.heap.size, 4, none⟩ = some (.slice (some ⟨b, off, none⟩) x.mails.length c1)) := by
        intro w' h
        obtain ⟨r0, r1, r2, r3⟩ := bx4 (box_below h HKm.out)
        obtain ⟨s0, s1, s2, s3, s4, s5, s6⟩ := bx7 (box_below h HKb.out)
        exact ⟨r0, r1, r2, r3, s2, s3, s4⟩
      obtain ⟨e0, e1, e2, e3, e4, e5, e6⟩ := bx7 hK.out
      have hlA := lt_of_heap hK.out
      clear hu
      by_cases h1 : uid < 1
      · have e82 : decide (uid < 1) = true := decide_eq_true h1
        go_wp2
        refine wp_region_held_drew (S := fun w' => w'.cell? ⟨wr.heap.size, 0, none⟩ = some (.int .i64 uid) ∧ w'.cell? ⟨wr.heap.size, 1, none⟩ = some (.int .i64 flags) ∧ w'.cell? ⟨wr.heap.size, 2, none⟩ = some (.int .i64 seq) ∧ w'.cell? ⟨wr.heap.size, 3, none⟩ = some (.slice ua un uc) ∧ w'.cell? ⟨w.heap.size, 2, none⟩ = some (.int .i64 x.next) ∧ w'.cell? ⟨w.heap.size, 3, none⟩ = some (.int .i64 x.seq) ∧ w'.cell? ⟨w.heap.size, 4, none⟩ = some (.slice (some ⟨b, off, none⟩) x.mails.length c1)) (by kernel_rfl) (HF.out _ DR) (fun hHeld => (show wpAnyH _ _ _ _ _ 54 #[false, false, false, false, false, false, false, false, false, false, false, false, false, false, false, false, false, false, false, false, false, false, false, false, false, false, false, false, false, false, false, false, false, false, false, false, false, false, false, false, false, false, false, false, false, false, false, false, false, false, false, false, false, false] _ _ from ?_))
        refine tk 0 80 ?v1 ?h1 hHeld ?_; case h1 => (intro w s; (try dsimp only at s); go_simp <;> with_reducible rfl)
        conv => arg 8; simp only [Act.put, sA, s0, sS]
        refine tk 1 81 ?v2 ?h2 hHeld ?_; case h2 => (intro w s; (try dsimp only at s); go_simp <;> with_reducible rfl)
        conv => arg 8; simp only [Act.put, sA, s0, sS]
        refine tk 2 82 ?v3 ?h3 hHeld ?_; case h3 => (intro w s; (try dsimp only at s); go_simp <;> with_reducible rfl)
        conv => arg 8; simp only [Act.put, sA, s0, sS]
        refine tk 3 83 ?v4 ?h4 hHeld ?_; case h4 => (intro w s; (try dsimp only at s); go_simp <;> with_reducible rfl)
        conv => arg 8; simp only [Act.put, sA, s0, sS]
        refine wpAnyH_skips (by kernel_rfl) (fun _ _ _ _ _ h => h) hHeld [4, 5, 6, 7, 8] [84, 85, 86, 87, 88] _ _ _ (by kernel_rfl) ?_
        simp only [List.foldl_cons, List.foldl_nil, Act.put, sA, s0, sS]
        refine tk 9 89 ?v6 ?h6 hHeld ?_; case h6 => (intro w s; (try dsimp only at s); go_simp <;> with_reducible rfl)
        conv => arg 8; simp only [Act.put, sA, s0, sS]
        refine tk 10 90 ?v7 ?h7 hHeld ?_; case h7 => (intro w s; (try dsimp only at s); go_simp <;> with_reducible rfl)
        conv => arg 8; simp only [Act.put, sA, s0, sS]
        refine wpAnyH_skips (by kernel_rfl) (fun _ _ _ _ _ h => h) hHeld [11, 12, 13, 14, 15, 16, 17, 18, 19, 20, 21, 22, 23, 24] [91, 92, 93, 94, 95, 96, 97, 98, 99, 100, 101, 102, 103, 104] _ _ _ (by kernel_rfl) ?_
        simp only [List.foldl_cons, List.foldl_nil, Act.put, sA, s0, sS]
        refine tk 25 105 ?v9 ?h9 hHeld ?_; case h9 => (intro w s; (try dsimp only at s); go_simp <;> with_reducible rfl)
        conv => arg 8; simp only [Act.put, sA, s0, sS]
        refine tk 26 106 ?v10 ?h10 hHeld ?_; case h10 => (intro w s; (try dsimp only at s); go_simp <;> with_reducible rfl)
        conv => arg 8; simp only [Act.put, sA, s0, sS]
        refine wpAnyH_skips (by kernel_rfl) (fun _ _ _ _ _ h => h) hHeld [27, 28, 29] [107, 108, 109] _ _ _ (by kernel_rfl) ?_
        simp only [List.foldl_cons, List.foldl_nil, Act.put, sA, s0, sS]
        refine tk 30 110 ?v12 ?h12 hHeld ?_; case h12 => (intro w s; (try dsimp only at s); go_simp <;> with_reducible rfl)
        conv => arg 8; simp only [Act.put, sA, s0, sS]
        refine tk 31 111 ?v13 ?h13 hHeld ?_; case h13 => (intro w s; (try dsimp only at s); go_simp <;> with_reducible rfl)
        conv => arg 8; simp only [Act.put, sA, s0, sS]
        refine wpAnyH_skips (by kernel_rfl) (fun _ _ _ _ _ h => h) hHeld [32, 33, 34] [112, 113, 114] _ _ _ (by kernel_rfl) ?_
        simp only [List.foldl_cons, List.foldl_nil, Act.put, sA, s0, sS]
        refine tk 35 115 ?v15 ?h15 hHeld ?_; case h15 => (intro w s; (try dsimp only at s); go_simp <;> with_reducible rfl)
        conv => arg 8; simp only [Act.put, sA, s0, sS]
        refine tk 36 116 ?v16 ?h16 hHeld ?_; case h16 => (intro w s; (try dsimp only at s); go_simp <;> with_reducible rfl)
        conv => arg 8; simp only [Act.put, sA, s0, sS]
        refine wpAnyH_skips (by kernel_rfl) (fun _ _ _ _ _ h => h) hHeld [37, 38, 39] [117, 118, 119] _ _ _ (by kernel_rfl) ?_
        simp only [List.foldl_cons, List.foldl_nil, Act.put, sA, s0, sS]
        refine tk 40 120 ?v18 ?h18 hHeld ?_; case h18 => (intro w s; (try dsimp only at s); go_simp <;> with_reducible rfl)
        conv => arg 8; simp only [Act.put, sA, s0, sS]
        refine tk 41 121 ?v19 ?h19 hHeld ?_; case h19 => (intro w s; (try dsimp only at s); go_simp <;> with_reducible rfl)
        conv => arg 8; simp only [Act.put, sA, s0, sS]
        refine wpAnyH_skips (by kernel_rfl) (fun _ _ _ _ _ h => h) hHeld [42, 43, 44, 45, 46] [122, 123, 124, 125, 126] _ _ _ (by kernel_rfl) ?_
        simp only [List.foldl_cons, List.foldl_nil, Act.put, sA, s0, sS]
        refine tk 47 127 ?v21 ?h21 hHeld ?_; case h21 => (intro w s; (try dsimp only at s); go_simp <;> with_reducible rfl)
        conv => arg 8; simp only [Act.put, sA, s0, sS]
        refine tk 48 128 ?v22 ?h22 hHeld ?_; case h22 => (intro w s; (try dsimp only at s); go_simp <;> with_reducible rfl)
        conv => arg 8; simp only [Act.put, sA, s0, sS]
        refine wpAnyH_skips (by kernel_rfl) (fun _ _ _ _ _ h => h) hHeld [49, 50, 51, 52] [129, 130, 131, 132] _ _ _ (by kernel_rfl) ?_
        simp only [List.foldl_cons, List.foldl_nil, Act.put, sA, s0, sS]
        refine tk 53 133 ?v24 ?h24 hHeld ?_; case h24 => (intro w s; (try dsimp only at s); go_simp <;> with_reducible rfl)
        conv => arg 8; simp only [Act.put, sA, s0, sS]
        refine wpAnyH_done (by kernel_rfl) ?_ _
        clear HF HKm HKb HA1 HT
        repeat clear hHeld
        go_wp2
        go_ret
        exact ⟨ret_b (HNM.out (rangeAll_no k hlt (HE.out.trans (mailNo hp.1 (.inl h1))))), Below.step HB1.out DR⟩
      have e82 : decide (uid < 1) = false := decide_eq_false h1
      by_cases h2 : x.next ≤ uid
      · have e88 : decide (x.next ≤ uid) = true := decide_eq_true h2
        go_wp2
        refine wp_region_held_drew (S := fun w' => w'.cell? ⟨wr.heap.size, 0, none⟩ = some (.int .i64 uid) ∧ w'.cell? ⟨wr.heap.size, 1, none⟩ = some (.int .i64 flags) ∧ w'.cell? ⟨wr.heap.size, 2, none⟩ = some (.int .i64 seq) ∧ w'.cell? ⟨wr.heap.size, 3, none⟩ = some (.slice ua un uc) ∧ w'.cell? ⟨w.heap.size, 2, none⟩ = some (.int .i64 x.next) ∧ w'.cell? ⟨w.heap.size, 3, none⟩ = some (.int .i64 x.seq) ∧ w'.cell? ⟨w.heap.size, 4, none⟩ = some (.slice (some ⟨b, off, none⟩) x.mails.length c1)) (by kernel_rfl) (HF.out _ DR) (fun hHeld => (show wpAnyH _ _ _ _ _ 54 #[false, false, false, false, false, false, false, false, false, false, false, false, false, false, false, false, false, false, false, false, false, false, false, false, false, false, false, false, false, false, false, false, false, false, false, false, false, false, false, false, false, false, false, false, false, false, false, false, false, false, false, false, false, false] _ _ from ?_))
        refine tk 0 80 ?v25 ?h25 hHeld ?_; case h25 => (intro w s; (try dsimp only at s); go_simp <;> with_reducible rfl)
        conv => arg 8; simp only [Act.put, sA, s0, sS]
        refine tk 1 81 ?v26 ?h26 hHeld ?_; case h26 => (intro w s; (try dsimp only at s); go_simp <;> with_reducible rfl)
        conv => arg 8; simp only [Act.put, sA, s0, sS]
        refine tk 2 82 ?v27 ?h27 hHeld ?_; case h27 => (intro w s; (try dsimp only at s); go_simp <;> with_reducible rfl)
        conv => arg 8; simp only [Act.put, sA, s0, sS]
        refine tk 3 83 ?v28 ?h28 hHeld ?_; case h28 => (intro w s; (try dsimp only at s); go_simp <;> with_reducible rfl)
        conv => arg 8; simp only [Act.put, sA, s0, sS]
        refine tk 4 84 ?v29 ?h29 hHeld ?_; case h29 => (intro w s; (try dsimp only at s); go_simp <;> with_reducible rfl)
        conv => arg 8; simp only [Act.put, sA, s0, sS]
        refine tk 5 85 ?v30 ?h30 hHeld ?_; case h30 => (intro w s; (try dsimp only at s); go_simp <;> with_reducible rfl)
        conv => arg 8; simp only [Act.put, sA, s0, sS]
        refine tk 6 86 ?v31 ?h31 hHeld ?_; case h31 => (intro w s; (try dsimp only at s); go_simp <;> with_reducible rfl)
        conv => arg 8; simp only [Act.put, sA, s0, sS]
        refine tk 7 87 ?v32 ?h32 hHeld ?_; case h32 => (intro w s; (try dsimp only at s); go_simp <;> with_reducible rfl)
        conv => arg 8; simp only [Act.put, sA, s0, sS]
        refine tk 8 88 ?v33 ?h33 hHeld ?_; case h33 => (intro w s; (try dsimp only at s); go_simp <;> with_reducible rfl)
        conv => arg 8; simp only [Act.put, sA, s0, sS]
        refine tk 9 89 ?v34 ?h34 hHeld ?_; case h34 => (intro w s; (try dsimp only at s); go_simp <;> with_reducible rfl)
        conv => arg 8; simp only [Act.put, sA, s0, sS]
        refine tk 10 90 ?v35 ?h35 hHeld ?_; case h35 => (intro w s; (try dsimp only at s); go_simp <;> with_reducible rfl)
        conv => arg 8; simp only [Act.put, sA, s0, sS]
        refine wpAnyH_skips (by kernel_rfl) (fun _ _ _ _ _ h => h) hHeld [11, 12, 13, 14, 15, 16, 17, 18, 19, 20, 21, 22, 23, 24] [91, 92, 93, 94, 95, 96, 97, 98, 99, 100, 101, 102, 103, 104] _ _ _ (by kernel_rfl) ?_
        simp only [List.foldl_cons, List.foldl_nil, Act.put, sA, s0, sS]
        refine tk 25 105 ?v37 ?h37 hHeld ?_; case h37 => (intro w s; (try dsimp only at s); go_simp <;> with_reducible rfl)
        conv => arg 8; simp only [Act.put, sA, s0, sS]
        refine tk 26 106 ?v38 ?h38 hHeld ?_; case h38 => (intro w s; (try dsimp only at s); go_simp <;> with_reducible rfl)
        conv => arg 8; simp only [Act.put, sA, s0, sS]
        refine wpAnyH_skips (by kernel_rfl) (fun _ _ _ _ _ h => h) hHeld [27, 28, 29] [107, 108, 109] _ _ _ (by kernel_rfl) ?_
        simp only [List.foldl_cons, List.foldl_nil, Act.put, sA, s0, sS]
        refine tk 30 110 ?v40 ?h40 hHeld ?_; case h40 => (intro w s; (try dsimp only at s); go_simp <;> with_reducible rfl)
        conv => arg 8; simp only [Act.put, sA, s0, sS]
        refine tk 31 111 ?v41 ?h41 hHeld ?_; case h41 => (intro w s; (try dsimp only at s); go_simp <;> with_reducible rfl)
        conv => arg 8; simp only [Act.put, sA, s0, sS]
        refine wpAnyH_skips (by kernel_rfl) (fun _ _ _ _ _ h => h) hHeld [32, 33, 34] [112, 113, 114] _ _ _ (by kernel_rfl) ?_
        simp only [List.foldl_cons, List.foldl_nil, Act.put, sA, s0, sS]
        refine tk 35 115 ?v43 ?h43 hHeld ?_; case h43 => (intro w s; (try dsimp only at s); go_simp <;> with_reducible rfl)
        conv => arg 8; simp only [Act.put, sA, s0, sS]
        refine tk 36 116 ?v44 ?h44 hHeld ?_; case h44 => (intro w s; (try dsimp only at s); go_simp <;> with_reducible rfl)
        conv => arg 8; simp only [Act.put, sA, s0, sS]
        refine wpAnyH_skips (by kernel_rfl) (fun _ _ _ _ _ h => h) hHeld [37, 38, 39] [117, 118, 119] _ _ _ (by kernel_rfl) ?_
        simp only [List.foldl_cons, List.foldl_nil, Act.put, sA, s0, sS]
        refine tk 40 120 ?v46 ?h46 hHeld ?_; case h46 => (intro w s; (try dsimp only at s); go_simp <;> with_reducible rfl)
        conv => arg 8; simp only [Act.put, sA, s0, sS]
        refine tk 41 121 ?v47 ?h47 hHeld ?_; case h47 => (intro w s; (try dsimp only at s); go_simp <;> with_reducible rfl)
        conv => arg 8; simp only [Act.put, sA, s0, sS]
        refine wpAnyH_skips (by kernel_rfl) (fun _ _ _ _ _ h => h) hHeld [42, 43, 44, 45, 46] [122, 123, 124, 125, 126] _ _ _ (by kernel_rfl) ?_
        simp only [List.foldl_cons, List.foldl_nil, Act.put, sA, s0, sS]
        refine tk 47 127 ?v49 ?h49 hHeld ?_; case h49 => (intro w s; (try dsimp only at s); go_simp <;> with_reducible rfl)
        conv => arg 8; simp only [Act.put, sA, s0, sS]
        refine tk 48 128 ?v50 ?h50 hHeld ?_; case h50 => (intro w s; (try dsimp only at s); go_simp <;> with_reducible rfl)
        conv => arg 8; simp only [Act.put, sA, s0, sS]
        refine wpAnyH_skips (by kernel_rfl) (fun _ _ _ _ _ h => h) hHeld [49, 50, 51, 52] [129, 130, 131, 132] _ _ _ (by kernel_rfl) ?_
        simp only [List.foldl_cons, List.foldl_nil, Act.put, sA, s0, sS]
        refine tk 53 133 ?v52 ?h52 hHeld ?_; case h52 => (intro w s; (try dsimp only at s); go_simp <;> with_reducible rfl)
        conv => arg 8; simp only [Act.put, sA, s0, sS]
        refine wpAnyH_done (by kernel_rfl) ?_ _
        clear HF HKm HKb HA1 HT
        repeat clear hHeld
        go_wp2
        go_ret
        exact ⟨ret_b (HNM.out (rangeAll_no k hlt (HE.out.trans (mailNo hp.1 (.inr (.inl h2)))))), Below.step HB1.out DR⟩
      have e88 : decide (x.next ≤ uid) = false := decide_eq_false h2
      by_cases hkz : (0 : Int) < (k : Int)
      · obtain ⟨j, hj⟩ : ∃ j, k = j + 1 := ⟨k - 1, by omega⟩
        have hjk : (j : Int) < (k : Int) := by omega
        have hjl : (j : Int) < (x.mails.length : Int) := by omega
        have hj0 : (0 : Int) ≤ (j : Int) := by omega
        have hw1 : IntKind.i64.wrap ((k : Int) - 1) = (j : Int) := by rw [IntWalk.i64_in _ (by omega)]; omega
        have hkN : 0 < k := by omega
        have hd : decide (0 < k) = true := by simpa using hkN
        have HJ : Hid (k = j + 1) := hj
        clear hj
        obtain ⟨m', hm'⟩ : ∃ m', x.mails[j]? = some m' := ⟨x.mails[j]'(by have := HJ.out; omega), List.getElem?_eq_getElem (by have := HJ.out; omega)⟩
        obtain ⟨b2, off2, cap2, u2, hv2, hlb2, t0, -⟩ := MailsV.cell (H0.out wr hB.out).2.1 j m' hm'
        simp only [Value.slice.injEq, true_and, Option.some.injEq, Addr.mk.injEq, and_true] at hv2
        obtain ⟨⟨rfl, rfl⟩, rfl⟩ := hv2
        have HPU : Hid (m'.uid = q) := by rw [← HQ.out, HJ.out]; simp [Hid, prevU, hm']
        generalize m'.uid = pu at t0 HPU
        clear hm'
        have HF2 : Hid (∀ w', Below (wr.alloc (.cells #[.int .i64 uid, .int .i64 flags, .int .i64 seq, .slice ua un uc] 117)).heap.size (wr.alloc (.cells #[.int .i64 uid, .int .i64 flags, .int .i64 seq, .slice ua un uc] 117)) w' → w'.cell? ⟨wr.heap.size, 0, none⟩ = some (.int .i64 uid) ∧ w'.cell? ⟨wr.heap.size, 1, none⟩ = some (.int .i64 flags) ∧ w'.cell? ⟨wr.heap.size, 2, none⟩ = some (.int .i64 seq) ∧ w'.cell? ⟨wr.heap.size, 3, none⟩ = some (.slice ua un uc) ∧ w'.cell? ⟨w.heap.size, 2, none⟩ = some (.int .i64 x.next) ∧ w'.cell? ⟨w.heap.size, 3, none⟩ = some (.int .i64 x.seq) ∧ w'.cell? ⟨w.heap.size, 4, none⟩ = some (.slice (some ⟨b, off, none⟩) x.mails.length c1) ∧ w'.cell? ⟨b, off + j * 4, none⟩ = some (.int .i64 pu)) := by
          intro w' h
          obtain ⟨r0, r1, r2, r3, s2, s3, s4⟩ := HF.out w' h
          exact ⟨r0, r1, r2, r3, s2, s3, s4, ((Below.step HA1.out h).cell (p := ⟨b, off + j * 4, none⟩) hlb).trans t0⟩
        by_cases h3 : uid ≤ pu
        · have e103 : decide (uid ≤ pu) = true := decide_eq_true h3
          go_wp2
          refine wp_region_held_drew (S := fun w' => w'.cell? ⟨wr.heap.size, 0, none⟩ = some (.int .i64 uid) ∧ w'.cell? ⟨wr.heap.size, 1, none⟩ = some (.int .i64 flags) ∧ w'.cell? ⟨wr.heap.size, 2, none⟩ = some (.int .i64 seq) ∧ w'.cell? ⟨wr.heap.size, 3, none⟩ = some (.slice ua un uc) ∧ w'.cell? ⟨w.heap.size, 2, none⟩ = some (.int .i64 x.next) ∧ w'.cell? ⟨w.heap.size, 3, none⟩ = some (.int .i64 x.seq) ∧ w'.cell? ⟨w.heap.size, 4, none⟩ = some (.slice (some ⟨b, off, none⟩) x.mails.length c1) ∧ w'.cell? ⟨b, off + j * 4, none⟩ = some (.int .i64 pu)) (by kernel_rfl) (HF2.out _ DR) (fun hHeld => (show wpAnyH _ _ _ _ _ 54 #[false, false, false, false, false, false, false, false, false, false, false, false, false, false, false, false, false, false, false, false, false, false, false, false, false, false, false, false, false, false, false, false, false, false, false, false, false, false, false, false, false, false, false, false, false, false, false, false, false, false, false, false, false, false] _ _ from ?_))
          refine tk 0 80 ?v53 ?h53 hHeld ?_; case h53 => (intro w s; (try dsimp only at s); go_simp <;> with_reducible rfl)
          conv => arg 8; simp only [Act.put, sA, s0, sS]
          refine tk 1 81 ?v54 ?h54 hHeld ?_; case h54 => (intro w s; (try dsimp only at s); go_simp <;> with_reducible rfl)
          conv => arg 8; simp only [Act.put, sA, s0, sS]
          refine tk 2 82 ?v55 ?h55 hHeld ?_; case h55 => (intro w s; (try dsimp only at s); go_simp <;> with_reducible rfl)
          conv => arg 8; simp only [Act.put, sA, s0, sS]
          refine tk 3 83 ?v56 ?h56 hHeld ?_; case h56 => (intro w s; (try dsimp only at s); go_simp <;> with_reducible rfl)
          conv => arg 8; simp only [Act.put, sA, s0, sS]
          refine tk 4 84 ?v57 ?h57 hHeld ?_; case h57 => (intro w s; (try dsimp only at s); go_simp <;> with_reducible rfl)
          conv => arg 8; simp only [Act.put, sA, s0, sS]
          refine tk 5 85 ?v58 ?h58 hHeld ?_; case h58 => (intro w s; (try dsimp only at s); go_simp <;> with_reducible rfl)
          conv => arg 8; simp only [Act.put, sA, s0, sS]
          refine tk 6 86 ?v59 ?h59 hHeld ?_; case h59 => (intro w s; (try dsimp only at s); go_simp <;> with_reducible rfl)
          conv => arg 8; simp only [Act.put, sA, s0, sS]
          refine tk 7 87 ?v60 ?h60 hHeld ?_; case h60 => (intro w s; (try dsimp only at s); go_simp <;> with_reducible rfl)
          conv => arg 8; simp only [Act.put, sA, s0, sS]
          refine tk 8 88 ?v61 ?h61 hHeld ?_; case h61 => (intro w s; (try dsimp only at s); go_simp <;> with_reducible rfl)
          conv => arg 8; simp only [Act.put, sA, s0, sS]
          refine tk 9 89 ?v62 ?h62 hHeld ?_; case h62 => (intro w s; (try dsimp only at s); go_simp <;> with_reducible rfl)
          conv => arg 8; simp only [Act.put, sA, s0, sS]
          refine tk 10 90 ?v63 ?h63 hHeld ?_; case h63 => (intro w s; (try dsimp only at s); go_simp <;> with_reducible rfl)
          conv => arg 8; simp only [Act.put, sA, s0, sS]
          refine tk 11 91 ?v64 ?h64 hHeld ?_; case h64 => (intro w s; (try dsimp only at s); go_simp <;> with_reducible rfl)
          conv => arg 8; simp only [Act.put, sA, s0, sS]
          refine tk 12 92 ?v65 ?h65 hHeld ?_; case h65 => (intro w s; (try dsimp only at s); go_simp <;> with_reducible rfl)
          conv => arg 8; simp only [Act.put, sA, s0, sS]
          refine tk 13 93 ?v66 ?h66 hHeld ?_; case h66 => (intro w s; (try dsimp only at s); go_simp <;> with_reducible rfl)
          conv => arg 8; simp only [Act.put, sA, s0, sS]
          refine tk 14 94 ?v67 ?h67 hHeld ?_; case h67 => (intro w s; (try dsimp only at s); go_simp <;> with_reducible rfl)
          conv => arg 8; simp only [Act.put, sA, s0, sS]
          refine tk 15 95 ?v68 ?h68 hHeld ?_; case h68 => (intro w s; (try dsimp only at s); go_simp <;> with_reducible rfl)
          conv => arg 8; simp only [Act.put, sA, s0, sS]
          refine tk 16 96 ?v69 ?h69 hHeld ?_; case h69 => (intro w s; (try dsimp only at s); go_simp <;> with_reducible rfl)
          conv => arg 8; simp only [Act.put, sA, s0, sS]
          refine tk 17 97 ?v70 ?h70 hHeld ?_; case h70 => (intro w s; (try dsimp only at s); go_simp <;> with_reducible rfl)
          conv => arg 8; simp only [Act.put, sA, s0, sS]
          refine tk 18 98 ?v71 ?h71 hHeld ?_; case h71 => (intro w s; (try dsimp only at s); go_simp <;> with_reducible rfl)
          conv => arg 8; simp only [Act.put, sA, s0, sS]
          refine tk 19 99 ?v72 ?h72 hHeld ?_; case h72 => (intro w s; (try dsimp only at s); go_simp <;> with_reducible rfl)
          conv => arg 8; simp only [Act.put, sA, s0, sS]
          refine tk 20 100 ?v73 ?h73 hHeld ?_; case h73 => (intro w s; (try dsimp only at s); go_simp <;> with_reducible rfl)
          conv => arg 8; simp only [Act.put, sA, s0, sS]
          refine tk 21 101 ?v74 ?h74 hHeld ?_; case h74 => (intro w s; (try dsimp only at s); go_simp <;> with_reducible rfl)
          conv => arg 8; simp only [Act.put, sA, s0, sS]
          refine tk 22 102 ?v75 ?h75 hHeld ?_; case h75 => (intro w s; (try dsimp only at s); go_simp <;> with_reducible rfl)
          conv => arg 8; simp only [Act.put, sA, s0, sS]
          refine tk 23 103 ?v76 ?h76 hHeld ?_; case h76 => (intro w s; (try dsimp only at s); go_simp <;> with_reducible rfl)
          conv => arg 8; simp only [Act.put, sA, s0, sS]
          refine tk 24 104 ?v77 ?h77 hHeld ?_; case h77 => (intro w s; (try dsimp only at s); go_simp <;> with_reducible rfl)
          conv => arg 8; simp only [Act.put, sA, s0, sS]
          refine tk 25 105 ?v78 ?h78 hHeld ?_; case h78 => (intro w s; (try dsimp only at s); go_simp <;> with_reducible rfl)
          conv => arg 8; simp only [Act.put, sA, s0, sS]
          refine tk 26 106 ?v79 ?h79 hHeld ?_; case h79 => (intro w s; (try dsimp only at s); go_simp <;> with_reducible rfl)
          conv => arg 8; simp only [Act.put, sA, s0, sS]
          refine wpAnyH_skips (by kernel_rfl) (fun _ _ _ _ _ h => h) hHeld [27, 28, 29] [107, 108, 109] _ _ _ (by kernel_rfl) ?_
          simp only [List.foldl_cons, List.foldl_nil, Act.put, sA, s0, sS]
          refine tk 30 110 ?v81 ?h81 hHeld ?_; case h81 => (intro w s; (try dsimp only at s); go_simp <;> with_reducible rfl)
          conv => arg 8; simp only [Act.put, sA, s0, sS]
          refine tk 31 111 ?v82 ?h82 hHeld ?_; case h82 => (intro w s; (try dsimp only at s); go_simp <;> with_reducible rfl)
          conv => arg 8; simp only [Act.put, sA, s0, sS]
          refine wpAnyH_skips (by kernel_rfl) (fun _ _ _ _ _ h => h) hHeld [32, 33, 34] [112, 113, 114] _ _ _ (by kernel_rfl) ?_
          simp only [List.foldl_cons, List.foldl_nil, Act.put, sA, s0, sS]
          refine tk 35 115 ?v84 ?h84 hHeld ?_; case h84 => (intro w s; (try dsimp only at s); go_simp <;> with_reducible rfl)
          conv => arg 8; simp only [Act.put, sA, s0, sS]
          refine tk 36 116 ?v85 ?h85 hHeld ?_; case h85 => (intro w s; (try dsimp only at s); go_simp <;> with_reducible rfl)
          conv => arg 8; simp only [Act.put, sA, s0, sS]
          refine wpAnyH_skips (by kernel_rfl) (fun _ _ _ _ _ h => h) hHeld [37, 38, 39] [117, 118, 119] _ _ _ (by kernel_rfl) ?_
          simp only [List.foldl_cons, List.foldl_nil, Act.put, sA, s0, sS]
          refine tk 40 120 ?v87 ?h87 hHeld ?_; case h87 => (intro w s; (try dsimp only at s); go_simp <;> with_reducible rfl)
          conv => arg 8; simp only [Act.put, sA, s0, sS]
          refine tk 41 121 ?v88 ?h88 hHeld ?_; case h88 => (intro w s; (try dsimp only at s); go_simp <;> with_reducible rfl)
          conv => arg 8; simp only [Act.put, sA, s0, sS]
          refine wpAnyH_skips (by kernel_rfl) (fun _ _ _ _ _ h => h) hHeld [42, 43, 44, 45, 46] [122, 123, 124, 125, 126] _ _ _ (by kernel_rfl) ?_
          simp only [List.foldl_cons, List.foldl_nil, Act.put, sA, s0, sS]
          refine tk 47 127 ?v90 ?h90 hHeld ?_; case h90 => (intro w s; (try dsimp only at s); go_simp <;> with_reducible rfl)
          conv => arg 8; simp only [Act.put, sA, s0, sS]
          refine tk 48 128 ?v91 ?h91 hHeld ?_; case h91 => (intro w s; (try dsimp only at s); go_simp <;> with_reducible rfl)
          conv => arg 8; simp only [Act.put, sA, s0, sS]
          refine wpAnyH_skips (by kernel_rfl) (fun _ _ _ _ _ h => h) hHeld [49, 50, 51, 52] [129, 130, 131, 132] _ _ _ (by kernel_rfl) ?_
          simp only [List.foldl_cons, List.foldl_nil, Act.put, sA, s0, sS]
          refine tk 53 133 ?v93 ?h93 hHeld ?_; case h93 => (intro w s; (try dsimp only at s); go_simp <;> with_reducible rfl)
          conv => arg 8; simp only [Act.put, sA, s0, sS]
          refine wpAnyH_done (by kernel_rfl) ?_ _
          clear HF HF2 HKm HKb HA1 HT
          repeat clear hHeld
          go_wp2
          go_ret
          exact ⟨ret_b (HNM.out (rangeAll_no k hlt (HE.out.trans (mailNo hp.1 (.inr (.inr (.inl (by have := HPU.out; omega)))))))), Below.step HB1.out DR⟩
        have e103 : decide (uid ≤ pu) = false := decide_eq_false h3
        by_cases h4 : flags < 0
        · have e109 : decide (flags < 0) = true := decide_eq_true h4
          go_wp2
          refine wp_region_held_drew (S := fun w' => w'.cell? ⟨wr.heap.size, 0, none⟩ = some (.int .i64 uid) ∧ w'.cell? ⟨wr.heap.size, 1, none⟩ = some (.int .i64 flags) ∧ w'.cell? ⟨wr.heap.size, 2, none⟩ = some (.int .i64 seq) ∧ w'.cell? ⟨wr.heap.size, 3, none⟩ = some (.slice ua un uc) ∧ w'.cell? ⟨w.heap.size, 2, none⟩ = some (.int .i64 x.next) ∧ w'.cell? ⟨w.heap.size, 3, none⟩ = some (.int .i64 x.seq) ∧ w'.cell? ⟨w.heap.size, 4, none⟩ = some (.slice (some ⟨b, off, none⟩) x.mails.length c1) ∧ w'.cell? ⟨b, off + j * 4, none⟩ = some (.int .i64 pu)) (by kernel_rfl) (HF2.out _ DR) (fun hHeld => (show wpAnyH _ _ _ _ _ 54 #[false, false, false, false, false, false, false, false, false, false, false, false, false, false, false, false, false, false, false, false, false, false, false, false, false, false, false, false, false, false, false, false, false, false, false, false, false, false, false, false, false, false, false, false, false, false, false, false, false, false, false, false, false, false] _ _ from ?_))
          refine tk 0 80 ?v94 ?h94 hHeld ?_; case h94 => (intro w s; (try dsimp only at s); go_simp <;> with_reducible rfl)
          conv => arg 8; simp only [Act.put, sA, s0, sS]
          refine tk 1 81 ?v95 ?h95 hHeld ?_; case h95 => (intro w s; (try dsimp only at s); go_simp <;> with_reducible rfl)
          conv => arg 8; simp only [Act.put, sA, s0, sS]
          refine tk 2 82 ?v96 ?h96 hHeld ?_; case h96 => (intro w s; (try dsimp only at s); go_simp <;> with_reducible rfl)
          conv => arg 8; simp only [Act.put, sA, s0, sS]
          refine tk 3 83 ?v97 ?h97 hHeld ?_; case h97 => (intro w s; (try dsimp only at s); go_simp <;> with_reducible rfl)
          conv => arg 8; simp only [Act.put, sA, s0, sS]
          refine tk 4 84 ?v98 ?h98 hHeld ?_; case h98 => (intro w s; (try dsimp only at s); go_simp <;> with_reducible rfl)
          conv => arg 8; simp only [Act.put, sA, s0, sS]
          refine tk 5 85 ?v99 ?h99 hHeld ?_; case h99 => (intro w s; (try dsimp only at s); go_simp <;> with_reducible rfl)
          conv => arg 8; simp only [Act.put, sA, s0, sS]
          refine tk 6 86 ?v100 ?h100 hHeld ?_; case h100 => (intro w s; (try dsimp only at s); go_simp <;> with_reducible rfl)
          conv => arg 8; simp only [Act.put, sA, s0, sS]
          refine tk 7 87 ?v101 ?h101 hHeld ?_; case h101 => (intro w s; (try dsimp only at s); go_simp <;> with_reducible rfl)
          conv => arg 8; simp only [Act.put, sA, s0, sS]
          refine tk 8 88 ?v102 ?h102 hHeld ?_; case h102 => (intro w s; (try dsimp only at s); go_simp <;> with_reducible rfl)
          conv => arg 8; simp only [Act.put, sA, s0, sS]
          refine tk 9 89 ?v103 ?h103 hHeld ?_; case h103 => (intro w s; (try dsimp only at s); go_simp <;> with_reducible rfl)
          conv => arg 8; simp only [Act.put, sA, s0, sS]
          refine tk 10 90 ?v104 ?h104 hHeld ?_; case h104 => (intro w s; (try dsimp only at s); go_simp <;> with_reducible rfl)
          conv => arg 8; simp only [Act.put, sA, s0, sS]
          refine tk 11 91 ?v105 ?h105 hHeld ?_; case h105 => (intro w s; (try dsimp only at s); go_simp <;> with_reducible rfl)
          conv => arg 8; simp only [Act.put, sA, s0, sS]
          refine tk 12 92 ?v106 ?h106 hHeld ?_; case h106 => (intro w s; (try dsimp only at s); go_simp <;> with_reducible rfl)
          conv => arg 8; simp only [Act.put, sA, s0, sS]
          refine tk 13 93 ?v107 ?h107 hHeld ?_; case h107 => (intro w s; (try dsimp only at s); go_simp <;> with_reducible rfl)
          conv => arg 8; simp only [Act.put, sA, s0, sS]
          refine tk 14 94 ?v108 ?h108 hHeld ?_; case h108 => (intro w s; (try dsimp only at s); go_simp <;> with_reducible rfl)
          conv => arg 8; simp only [Act.put, sA, s0, sS]
          refine tk 15 95 ?v109 ?h109 hHeld ?_; case h109 => (intro w s; (try dsimp only at s); go_simp <;> with_reducible rfl)
          conv => arg 8; simp only [Act.put, sA, s0, sS]
          refine tk 16 96 ?v110 ?h110 hHeld ?_; case h110 => (intro w s; (try dsimp only at s); go_simp <;> with_reducible rfl)
          conv => arg 8; simp only [Act.put, sA, s0, sS]
          refine tk 17 97 ?v111 ?h111 hHeld ?_; case h111 => (intro w s; (try dsimp only at s); go_simp <;> with_reducible rfl)
          conv => arg 8; simp only [Act.put, sA, s0, sS]
          refine tk 18 98 ?v112 ?h112 hHeld ?_; case h112 => (intro w s; (try dsimp only at s); go_simp <;> with_reducible rfl)
          conv => arg 8; simp only [Act.put, sA, s0, sS]
          refine tk 19 99 ?v113 ?h113 hHeld ?_; case h113 => (intro w s; (try dsimp only at s); go_simp <;> with_reducible rfl)
          conv => arg 8; simp only [Act.put, sA, s0, sS]
          refine tk 20 100 ?v114 ?h114 hHeld ?_; case h114 => (intro w s; (try dsimp only at s); go_simp <;> with_reducible rfl)
          conv => arg 8; simp only [Act.put, sA, s0, sS]
          refine tk 21 101 ?v115 ?h115 hHeld ?_; case h115 => (intro w s; (try dsimp only at s); go_simp <;> with_reducible rfl)
          conv => arg 8; simp only [Act.put, sA, s0, sS]
          refine tk 22 102 ?v116 ?h116 hHeld ?_; case h116 => (intro w s; (try dsimp only at s); go_simp <;> with_reducible rfl)
          conv => arg 8; simp only [Act.put, sA, s0, sS]
          refine tk 23 103 ?v117 ?h117 hHeld ?_; case h117 => (intro w s; (try dsimp only at s); go_simp <;> with_reducible rfl)
          conv => arg 8; simp only [Act.put, sA, s0, sS]
          refine tk 24 104 ?v118 ?h118 hHeld ?_; case h118 => (intro w s; (try dsimp only at s); go_simp <;> with_reducible rfl)
          conv => arg 8; simp only [Act.put, sA, s0, sS]
          refine tk 25 105 ?v119 ?h119 hHeld ?_; case h119 => (intro w s; (try dsimp only at s); go_simp <;> with_reducible rfl)
          conv => arg 8; simp only [Act.put, sA, s0, sS]
          refine tk 26 106 ?v120 ?h120 hHeld ?_; case h120 => (intro w s; (try dsimp only at s); go_simp <;> with_reducible rfl)
          conv => arg 8; simp only [Act.put, sA, s0, sS]
          refine tk 27 107 ?v121 ?h121 hHeld ?_; case h121 => (intro w s; (try dsimp only at s); go_simp <;> with_reducible rfl)
          conv => arg 8; simp only [Act.put, sA, s0, sS]
          refine tk 28 108 ?v122 ?h122 hHeld ?_; case h122 => (intro w s; (try dsimp only at s); go_simp <;> with_reducible rfl)
          conv => arg 8; simp only [Act.put, sA, s0, sS]
          refine tk 29 109 ?v123 ?h123 hHeld ?_; case h123 => (intro w s; (try dsimp only at s); go_simp <;> with_reducible rfl)
          conv => arg 8; simp only [Act.put, sA, s0, sS]
          refine tk 30 110 ?v124 ?h124 hHeld ?_; case h124 => (intro w s; (try dsimp only at s); go_simp <;> with_reducible rfl)
          conv => arg 8; simp only [Act.put, sA, s0, sS]
          refine tk 31 111 ?v125 ?h125 hHeld ?_; case h125 => (intro w s; (try dsimp only at s); go_simp <;> with_reducible rfl)
          conv => arg 8; simp only [Act.put, sA, s0, sS]
          refine wpAnyH_skips (by kernel_rfl) (fun _ _ _ _ _ h => h) hHeld [32, 33, 34] [112, 113, 114] _ _ _ (by kernel_rfl) ?_
          simp only [List.foldl_cons, List.foldl_nil, Act.put, sA, s0, sS]
          refine tk 35 115 ?v127 ?h127 hHeld ?_; case h127 => (intro w s; (try dsimp only at s); go_simp <;> with_reducible rfl)
          conv => arg 8; simp only [Act.put, sA, s0, sS]
          refine tk 36 116 ?v128 ?h128 hHeld ?_; case h128 => (intro w s; (try dsimp only at s); go_simp <;> with_reducible rfl)
          conv => arg 8; simp only [Act.put, sA, s0, sS]
          refine wpAnyH_skips (by kernel_rfl) (fun _ _ _ _ _ h => h) hHeld [37, 38, 39] [117, 118, 119] _ _ _ (by kernel_rfl) ?_
          simp only [List.foldl_cons, List.foldl_nil, Act.put, sA, s0, sS]
          refine tk 40 120 ?v130 ?h130 hHeld ?_; case h130 => (intro w s; (try dsimp only at s); go_simp <;> with_reducible rfl)
          conv => arg 8; simp only [Act.put, sA, s0, sS]
          refine tk 41 121 ?v131 ?h131 hHeld ?_; case h131 => (intro w s; (try dsimp only at s); go_simp <;> with_reducible rfl)
          conv => arg 8; simp only [Act.put, sA, s0, sS]
          refine wpAnyH_skips (by kernel_rfl) (fun _ _ _ _ _ h => h) hHeld [42, 43, 44, 45, 46] [122, 123, 124, 125, 126] _ _ _ (by kernel_rfl) ?_
          simp only [List.foldl_cons, List.foldl_nil, Act.put, sA, s0, sS]
          refine tk 47 127 ?v133 ?h133 hHeld ?_; case h133 => (intro w s; (try dsimp only at s); go_simp <;> with_reducible rfl)
          conv => arg 8; simp only [Act.put, sA, s0, sS]
          refine tk 48 128 ?v134 ?h134 hHeld ?_; case h134 => (intro w s; (try dsimp only at s); go_simp <;> with_reducible rfl)
          conv => arg 8; simp only [Act.put, sA, s0, sS]
          refine wpAnyH_skips (by kernel_rfl) (fun _ _ _ _ _ h => h) hHeld [49, 50, 51, 52] [129, 130, 131, 132] _ _ _ (by kernel_rfl) ?_
          simp only [List.foldl_cons, List.foldl_nil, Act.put, sA, s0, sS]
          refine tk 53 133 ?v136 ?h136 hHeld ?_; case h136 => (intro w s; (try dsimp only at s); go_simp <;> with_reducible rfl)
          conv => arg 8; simp only [Act.put, sA, s0, sS]
          refine wpAnyH_done (by kernel_rfl) ?_ _
          clear HF HF2 HKm HKb HA1 HT
          repeat clear hHeld
          go_wp2
          go_ret
          exact ⟨ret_b (HNM.out (rangeAll_no k hlt (HE.out.trans (mailNo hp.1 (.inr (.inr (.inr (.inl h4)))))))), Below.step HB1.out DR⟩
        have e109 : decide (flags < 0) = false := decide_eq_false h4
        by_cases h5 : 31 < flags
        · have e114 : decide (31 < flags) = true := decide_eq_true h5
          go_wp2
          refine wp_region_held_drew (S := fun w' => w'.cell? ⟨wr.heap.size, 0, none⟩ = some (.int .i64 uid) ∧ w'.cell? ⟨wr.heap.size, 1, none⟩ = some (.int .i64 flags) ∧ w'.cell? ⟨wr.heap.size, 2, none⟩ = some (.int .i64 seq) ∧ w'.cell? ⟨wr.heap.size, 3, none⟩ = some (.slice ua un uc) ∧ w'.cell? ⟨w.heap.size, 2, none⟩ = some (.int .i64 x.next) ∧ w'.cell? ⟨w.heap.size, 3, none⟩ = some (.int .i64 x.seq) ∧ w'.cell? ⟨w.heap.size, 4, none⟩ = some (.slice (some ⟨b, off, none⟩) x.mails.length c1) ∧ w'.cell? ⟨b, off + j * 4, none⟩ = some (.int .i64 pu)) (by kernel_rfl) (HF2.out _ DR) (fun hHeld => (show wpAnyH _ _ _ _ _ 54 #[false, false, false, false, false, false, false, false, false, false, false, false, false, false, false, false, false, false, false, false, false, false, false, false, false, false, false, false, false, false, false, false, false, false, false, false, false, false, false, false, false, false, false, false, false, false, false, false, false, false, false, false, false, false] _ _ from ?_))
          refine tk 0 80 ?v137 ?h137 hHeld ?_; case h137 => (intro w s; (try dsimp only at s); go_simp <;> with_reducible rfl)
          conv => arg 8; simp only [Act.put, sA, s0, sS]
          refine tk 1 81 ?v138 ?h138 hHeld ?_; case h138 => (intro w s; (try dsimp only at s); go_simp <;> with_reducible rfl)
          conv => arg 8; simp only [Act.put, sA, s0, sS]
          refine tk 2 82 ?v139 ?h139 hHeld ?_; case h139 => (intro w s; (try dsimp only at s); go_simp <;> with_reducible rfl)
          conv => arg 8; simp only [Act.put, sA, s0, sS]
          refine tk 3 83 ?v140 ?h140 hHeld ?_; case h140 => (intro w s; (try dsimp only at s); go_simp <;> with_reducible rfl)
          conv => arg 8; simp only [Act.put, sA, s0, sS]
          refine tk 4 84 ?v141 ?h141 hHeld ?_; case h141 => (intro w s; (try dsimp only at s); go_simp <;> with_reducible rfl)
          conv => arg 8; simp only [Act.put, sA, s0, sS]
          refine tk 5 85 ?v142 ?h142 hHeld ?_; case h142 => (intro w s; (try dsimp only at s); go_simp <;> with_reducible rfl)
          conv => arg 8; simp only [Act.put, sA, s0, sS]
          refine tk 6 86 ?v143 ?h143 hHeld ?_; case h143 => (intro w s; (try dsimp only at s); go_simp <;> with_reducible rfl)
          conv => arg 8; simp only [Act.put, sA, s0, sS]
          refine tk 7 87 ?v144 ?h144 hHeld ?_; case h144 => (intro w s; (try dsimp only at s); go_simp <;> with_reducible rfl)
          conv => arg 8; simp only [Act.put, sA, s0, sS]
          refine tk 8 88 ?v145 ?h145 hHeld ?_; case h145 => (intro w s; (try dsimp only at s); go_simp <;> with_reducible rfl)
          conv => arg 8; simp only [Act.put, sA, s0, sS]
          refine tk 9 89 ?v146 ?h146 hHeld ?_; case h146 => (intro w s; (try dsimp only at s); go_simp <;> with_reducible rfl)
          conv => arg 8; simp only [Act.put, sA, s0, sS]
          refine tk 10 90 ?v147 ?h147 hHeld ?_; case h147 => (intro w s; (try dsimp only at s); go_simp <;> with_reducible rfl)
          conv => arg 8; simp only [Act.put, sA, s0, sS]
          refine tk 11 91 ?v148 ?h148 hHeld ?_; case h148 => (intro w s; (try dsimp only at s); go_simp <;> with_reducible rfl)
          conv => arg 8; simp only [Act.put, sA, s0, sS]
          refine tk 12 92 ?v149 ?h149 hHeld ?_; case h149 => (intro w s; (try dsimp only at s); go_simp <;> with_reducible rfl)
          conv => arg 8; simp only [Act.put, sA, s0, sS]
          refine tk 13 93 ?v150 ?h150 hHeld ?_; case h150 => (intro w s; (try dsimp only at s); go_simp <;> with_reducible rfl)
          conv => arg 8; simp only [Act.put, sA, s0, sS]
          refine tk 14 94 ?v151 ?h151 hHeld ?_; case h151 => (intro w s; (try dsimp only at s); go_simp <;> with_reducible rfl)
          conv => arg 8; simp only [Act.put, sA, s0, sS]
          refine tk 15 95 ?v152 ?h152 hHeld ?_; case h152 => (intro w s; (try dsimp only at s); go_simp <;> with_reducible rfl)
          conv => arg 8; simp only [Act.put, sA, s0, sS]
          refine tk 16 96 ?v153 ?h153 hHeld ?_; case h153 => (intro w s; (try dsimp only at s); go_simp <;> with_reducible rfl)
          conv => arg 8; simp only [Act.put, sA, s0, sS]
          refine tk 17 97 ?v154 ?h154 hHeld ?_; case h154 => (intro w s; (try dsimp only at s); go_simp <;> with_reducible rfl)
          conv => arg 8; simp only [Act.put, sA, s0, sS]
          refine tk 18 98 ?v155 ?h155 hHeld ?_; case h155 => (intro w s; (try dsimp only at s); go_simp <;> with_reducible rfl)
          conv => arg 8; simp only [Act.put, sA, s0, sS]
          refine tk 19 99 ?v156 ?h156 hHeld ?_; case h156 => (intro w s; (try dsimp only at s); go_simp <;> with_reducible rfl)
          conv => arg 8; simp only [Act.put, sA, s0, sS]
          refine tk 20 100 ?v157 ?h157 hHeld ?_; case h157 => (intro w s; (try dsimp only at s); go_simp <;> with_reducible rfl)
          conv => arg 8; simp only [Act.put, sA, s0, sS]
          refine tk 21 101 ?v158 ?h158 hHeld ?_; case h158 => (intro w s; (try dsimp only at s); go_simp <;> with_reducible rfl)
          conv => arg 8; simp only [Act.put, sA, s0, sS]
          refine tk 22 102 ?v159 ?h159 hHeld ?_; case h159 => (intro w s; (try dsimp only at s); go_simp <;> with_reducible rfl)
          conv => arg 8; simp only [Act.put, sA, s0, sS]
          refine tk 23 103 ?v160 ?h160 hHeld ?_; case h160 => (intro w s; (try dsimp only at s); go_simp <;> with_reducible rfl)
          conv => arg 8; simp only [Act.put, sA, s0, sS]
          refine tk 24 104 ?v161 ?h161 hHeld ?_; case h161 => (intro w s; (try dsimp only at s); go_simp <;> with_reducible rfl)
          conv => arg 8; simp only [Act.put, sA, s0, sS]
          refine tk 25 105 ?v162 ?h162 hHeld ?_; case h162 => (intro w s; (try dsimp only at s); go_simp <;> with_reducible rfl)
          conv => arg 8; simp only [Act.put, sA, s0, sS]
          refine tk 26 106 ?v163 ?h163 hHeld ?_; case h163 => (intro w s; (try dsimp only at s); go_simp <;> with_reducible rfl)
          conv => arg 8; simp only [Act.put, sA, s0, sS]
          refine tk 27 107 ?v164 ?h164 hHeld ?_; case h164 => (intro w s; (try dsimp only at s); go_simp <;> with_reducible rfl)
          conv => arg 8; simp only [Act.put, sA, s0, sS]
          refine tk 28 108 ?v165 ?h165 hHeld ?_; case h165 => (intro w s; (try dsimp only at s); go_simp <;> with_reducible rfl)
          conv => arg 8; simp only [Act.put, sA, s0, sS]
          refine tk 29 109 ?v166 ?h166 hHeld ?_; case h166 => (intro w s; (try dsimp only at s); go_simp <;> with_reducible rfl)
          conv => arg 8; simp only [Act.put, sA, s0, sS]
          refine tk 30 110 ?v167 ?h167 hHeld ?_; case h167 => (intro w s; (try dsimp only at s); go_simp <;> with_reducible rfl)
          conv => arg 8; simp only [Act.put, sA, s0, sS]
          refine tk 31 111 ?v168 ?h168 hHeld ?_; case h168 => (intro w s; (try dsimp only at s); go_simp <;> with_reducible rfl)
          conv => arg 8; simp only [Act.put, sA, s0, sS]
          refine tk 32 112 ?v169 ?h169 hHeld ?_; case h169 => (intro w s; (try dsimp only at s); go_simp <;> with_reducible rfl)
          conv => arg 8; simp only [Act.put, sA, s0, sS]
          refine tk 33 113 ?v170 ?h170 hHeld ?_; case h170 => (intro w s; (try dsimp only at s); go_simp <;> with_reducible rfl)
          conv => arg 8; simp only [Act.put, sA, s0, sS]
          refine tk 34 114 ?v171 ?h171 hHeld ?_; case h171 => (intro w s; (try dsimp only at s); go_simp <;> with_reducible rfl)
          conv => arg 8; simp only [Act.put, sA, s0, sS]
          refine tk 35 115 ?v172 ?h172 hHeld ?_; case h172 => (intro w s; (try dsimp only at s); go_simp <;> with_reducible rfl)
          conv => arg 8; simp only [Act.put, sA, s0, sS]
          refine tk 36 116 ?v173 ?h173 hHeld ?_; case h173 => (intro w s; (try dsimp only at s); go_simp <;> with_reducible rfl)
          conv => arg 8; simp only [Act.put, sA, s0, sS]
          refine wpAnyH_skips (by kernel_rfl) (fun _ _ _ _ _ h => h) hHeld [37, 38, 39] [117, 118, 119] _ _ _ (by kernel_rfl) ?_
          simp only [List.foldl_cons, List.foldl_nil, Act.put, sA, s0, sS]
          refine tk 40 120 ?v175 ?h175 hHeld ?_; case h175 => (intro w s; (try dsimp only at s); go_simp <;> with_reducible rfl)
          conv => arg 8; simp only [Act.put, sA, s0, sS]
          refine tk 41 121 ?v176 ?h176 hHeld ?_; case h176 => (intro w s; (try dsimp only at s); go_simp <;> with_reducible rfl)
          conv => arg 8; simp only [Act.put, sA, s0, sS]
          refine wpAnyH_skips (by kernel_rfl) (fun _ _ _ _ _ h => h) hHeld [42, 43, 44, 45, 46] [122, 123, 124, 125, 126] _ _ _ (by kernel_rfl) ?_
          simp only [List.foldl_cons, List.foldl_nil, Act.put, sA, s0, sS]
          refine tk 47 127 ?v178 ?h178 hHeld ?_; case h178 => (intro w s; (try dsimp only at s); go_simp <;> with_reducible rfl)
          conv => arg 8; simp only [Act.put, sA, s0, sS]
          refine tk 48 128 ?v179 ?h179 hHeld ?_; case h179 => (intro w s; (try dsimp only at s); go_simp <;> with_reducible rfl)
          conv => arg 8; simp only [Act.put, sA, s0, sS]
          refine wpAnyH_skips (by kernel_rfl) (fun _ _ _ _ _ h => h) hHeld [49, 50, 51, 52] [129, 130, 131, 132] _ _ _ (by kernel_rfl) ?_
          simp only [List.foldl_cons, List.foldl_nil, Act.put, sA, s0, sS]
          refine tk 53 133 ?v181 ?h181 hHeld ?_; case h181 => (intro w s; (try dsimp only at s); go_simp <;> with_reducible rfl)
          conv => arg 8; simp only [Act.put, sA, s0, sS]
          refine wpAnyH_done (by kernel_rfl) ?_ _
          clear HF HF2 HKm HKb HA1 HT
          repeat clear hHeld
          go_wp2
          go_ret
          exact ⟨ret_b (HNM.out (rangeAll_no k hlt (HE.out.trans (mailNo hp.1 (.inr (.inr (.inr (.inr (.inl h5))))))))), Below.step HB1.out DR⟩
        have e114 : decide (31 < flags) = false := decide_eq_false h5
        by_cases h6 : seq < 1
        · have e119 : decide (seq < 1) = true := decide_eq_true h6
          go_wp2
          refine wp_region_held_drew (S := fun w' => w'.cell? ⟨wr.heap.size, 0, none⟩ = some (.int .i64 uid) ∧ w'.cell? ⟨wr.heap.size, 1, none⟩ = some (.int .i64 flags) ∧ w'.cell? ⟨wr.heap.size, 2, none⟩ = some (.int .i64 seq) ∧ w'.cell? ⟨wr.heap.size, 3, none⟩ = some (.slice ua un uc) ∧ w'.cell? ⟨w.heap.size, 2, none⟩ = some (.int .i64 x.next) ∧ w'.cell? ⟨w.heap.size, 3, none⟩ = some (.int .i64 x.seq) ∧ w'.cell? ⟨w.heap.size, 4, none⟩ = some (.slice (some ⟨b, off, none⟩) x.mails.length c1) ∧ w'.cell? ⟨b, off + j * 4, none⟩ = some (.int .i64 pu)) (by kernel_rfl) (HF2.out _ DR) (fun hHeld => (show wpAnyH _ _ _ _ _ 54 #[false, false, false, false, false, false, false, false, false, false, false, false, false, false, false, false, false, false, false, false, false, false, false, false, false, false, false, false, false, false, false, false, false, false, false, false, false, false, false, false, false, false, false, false, false, false, false, false, false, false, false, false, false, false] _ _ from ?_))
          refine tk 0 80 ?v182 ?h182 hHeld ?_; case h182 => (intro w s; (try dsimp only at s); go_simp <;> with_reducible rfl)
          conv => arg 8; simp only [Act.put, sA, s0, sS]
          refine tk 1 81 ?v183 ?h183 hHeld ?_; case h183 => (intro w s; (try dsimp only at s); go_simp <;> with_reducible rfl)
          conv => arg 8; simp only [Act.put, sA, s0, sS]
          refine tk 2 82 ?v184 ?h184 hHeld ?_; case h184 => (intro w s; (try dsimp only at s); go_simp <;> with_reducible rfl)
          conv => arg 8; simp only [Act.put, sA, s0, sS]
          refine tk 3 83 ?v185 ?h185 hHeld ?_; case h185 => (intro w s; (try dsimp only at s); go_simp <;> with_reducible rfl)
          conv => arg 8; simp only [Act.put, sA, s0, sS]
          refine tk 4 84 ?v186 ?h186 hHeld ?_; case h186 => (intro w s; (try dsimp only at s); go_simp <;> with_reducible rfl)
          conv => arg 8; simp only [Act.put, sA, s0, sS]
          refine tk 5 85 ?v187 ?h187 hHeld ?_; case h187 => (intro w s; (try dsimp only at s); go_simp <;> with_reducible rfl)
          conv => arg 8; simp only [Act.put, sA, s0, sS]
          refine tk 6 86 ?v188 ?h188 hHeld ?_; case h188 => (intro w s; (try dsimp only at s); go_simp <;> with_reducible rfl)
          conv => arg 8; simp only [Act.put, sA, s0, sS]
          refine tk 7 87 ?v189 ?h189 hHeld ?_; case h189 => (intro w s; (try dsimp only at s); go_simp <;> with_reducible rfl)
          conv => arg 8; simp only [Act.put, sA, s0, sS]
          refine tk 8 88 ?v190 ?h190 hHeld ?_; case h190 => (intro w s; (try dsimp only at s); go_simp <;> with_reducible rfl)
          conv => arg 8; simp only [Act.put, sA, s0, sS]
          refine tk 9 89 ?v191 ?h191 hHeld ?_; case h191 => (intro w s; (try dsimp only at s); go_simp <;> with_reducible rfl)
          conv => arg 8; simp only [Act.put, sA, s0, sS]
          refine tk 10 90 ?v192 ?h192 hHeld ?_; case h192 => (intro w s; (try dsimp only at s); go_simp <;> with_reducible rfl)
          conv => arg 8; simp only [Act.put, sA, s0, sS]
          refine tk 11 91 ?v193 ?h193 hHeld ?_; case h193 => (intro w s; (try dsimp only at s); go_simp <;> with_reducible rfl)
          conv => arg 8; simp only [Act.put, sA, s0, sS]
          refine tk 12 92 ?v194 ?h194 hHeld ?_; case h194 => (intro w s; (try dsimp only at s); go_simp <;> with_reducible rfl)
          conv => arg 8; simp only [Act.put, sA, s0, sS]
          refine tk 13 93 ?v195 ?h195 hHeld ?_; case h195 => (intro w s; (try dsimp only at s); go_simp <;> with_reducible rfl)
          conv => arg 8; simp only [Act.put, sA, s0, sS]
          refine tk 14 94 ?v196 ?h196 hHeld ?_; case h196 => (intro w s; (try dsimp only at s); go_simp <;> with_reducible rfl)
          conv => arg 8; simp only [Act.put, sA, s0, sS]
          refine tk 15 95 ?v197 ?h197 hHeld ?_; case h197 => (intro w s; (try dsimp only at s); go_simp <;> with_reducible rfl)
          conv => arg 8; simp only [Act.put, sA, s0, sS]
          refine tk 16 96 ?v198 ?h198 hHeld ?_; case h198 => (intro w s; (try dsimp only at s); go_simp <;> with_reducible rfl)
          conv => arg 8; simp only [Act.put, sA, s0, sS]
          refine tk 17 97 ?v199 ?h199 hHeld ?_; case h199 => (intro w s; (try dsimp only at s); go_simp <;> with_reducible rfl)
          conv => arg 8; simp only [Act.put, sA, s0, sS]
          refine tk 18 98 ?v200 ?h200 hHeld ?_; case h200 => (intro w s; (try dsimp only at s); go_simp <;> with_reducible rfl)
          conv => arg 8; simp only [Act.put, sA, s0, sS]
          refine tk 19 99 ?v201 ?h201 hHeld ?_; case h201 => (intro w s; (try dsimp only at s); go_simp <;> with_reducible rfl)
          conv => arg 8; simp only [Act.put, sA, s0, sS]
          refine tk 20 100 ?v202 ?h202 hHeld ?_; case h202 => (intro w s; (try dsimp only at s); go_simp <;> with_reducible rfl)
          conv => arg 8; simp only [Act.put, sA, s0, sS]
          refine tk 21 101 ?v203 ?h203 hHeld ?_; case h203 => (intro w s; (try dsimp only at s); go_simp <;> with_reducible rfl)
          conv => arg 8; simp only [Act.put, sA, s0, sS]
          refine tk 22 102 ?v204 ?h204 hHeld ?_; case h204 => (intro w s; (try dsimp only at s); go_simp <;> with_reducible rfl)
          conv => arg 8; simp only [Act.put, sA, s0, sS]
          refine tk 23 103 ?v205 ?h205 hHeld ?_; case h205 => (intro w s; (try dsimp only at s); go_simp <;> with_reducible rfl)
          conv => arg 8; simp only [Act.put, sA, s0, sS]
          refine tk 24 104 ?v206 ?h206 hHeld ?_; case h206 => (intro w s; (try dsimp only at s); go_simp <;> with_reducible rfl)
          conv => arg 8; simp only [Act.put, sA, s0, sS]
          refine tk 25 105 ?v207 ?h207 hHeld ?_; case h207 => (intro w s; (try dsimp only at s); go_simp <;> with_reducible rfl)
          conv => arg 8; simp only [Act.put, sA, s0, sS]
          refine tk 26 106 ?v208 ?h208 hHeld ?_; case h208 => (intro w s; (try dsimp only at s); go_simp <;> with_reducible rfl)
          conv => arg 8; simp only [Act.put, sA, s0, sS]
          refine tk 27 107 ?v209 ?h209 hHeld ?_; case h209 => (intro w s; (try dsimp only at s); go_simp <;> with_reducible rfl)
          conv => arg 8; simp only [Act.put, sA, s0, sS]
          refine tk 28 108 ?v210 ?h210 hHeld ?_; case h210 => (intro w s; (try dsimp only at s); go_simp <;> with_reducible rfl)
          conv => arg 8; simp only [Act.put, sA, s0, sS]
          refine tk 29 109 ?v211 ?h211 hHeld ?_; case h211 => (intro w s; (try dsimp only at s); go_simp <;> with_reducible rfl)
          conv => arg 8; simp only [Act.put, sA, s0, sS]
          refine tk 30 110 ?v212 ?h212 hHeld ?_; case h212 => (intro w s; (try dsimp only at s); go_simp <;> with_reducible rfl)
          conv => arg 8; simp only [Act.put, sA, s0, sS]
          refine tk 31 111 ?v213 ?h213 hHeld ?_; case h213 => (intro w s; (try dsimp only at s); go_simp <;> with_reducible rfl)
          conv => arg 8; simp only [Act.put, sA, s0, sS]
          refine tk 32 112 ?v214 ?h214 hHeld ?_; case h214 => (intro w s; (try dsimp only at s); go_simp <;> with_reducible rfl)
          conv => arg 8; simp only [Act.put, sA, s0, sS]
          refine tk 33 113 ?v215 ?h215 hHeld ?_; case h215 => (intro w s; (try dsimp only at s); go_simp <;> with_reducible rfl)
          conv => arg 8; simp only [Act.put, sA, s0, sS]
          refine tk 34 114 ?v216 ?h216 hHeld ?_; case h216 => (intro w s; (try dsimp only at s); go_simp <;> with_reducible rfl)
          conv => arg 8; simp only [Act.put, sA, s0, sS]
          refine tk 35 115 ?v217 ?h217 hHeld ?_; case h217 => (intro w s; (try dsimp only at s); go_simp <;> with_reducible rfl)
          conv => arg 8; simp only [Act.put, sA, s0, sS]
          refine tk 36 116 ?v218 ?h218 hHeld ?_; case h218 => (intro w s; (try dsimp only at s); go_simp <;> with_reducible rfl)
          conv => arg 8; simp only [Act.put, sA, s0, sS]
          refine tk 37 117 ?v219 ?h219 hHeld ?_; case h219 => (intro w s; (try dsimp only at s); go_simp <;> with_reducible rfl)
          conv => arg 8; simp only [Act.put, sA, s0, sS]
          refine tk 38 118 ?v220 ?h220 hHeld ?_; case h220 => (intro w s; (try dsimp only at s); go_simp <;> with_reducible rfl)
          conv => arg 8; simp only [Act.put, sA, s0, sS]
          refine tk 39 119 ?v221 ?h221 hHeld ?_; case h221 => (intro w s; (try dsimp only at s); go_simp <;> with_reducible rfl)
          conv => arg 8; simp only [Act.put, sA, s0, sS]
          refine tk 40 120 ?v222 ?h222 hHeld ?_; case h222 => (intro w s; (try dsimp only at s); go_simp <;> with_reducible rfl)
          conv => arg 8; simp only [Act.put, sA, s0, sS]
          refine tk 41 121 ?v223 ?h223 hHeld ?_; case h223 => (intro w s; (try dsimp only at s); go_simp <;> with_reducible rfl)
          conv => arg 8; simp only [Act.put, sA, s0, sS]
          refine wpAnyH_skips (by kernel_rfl) (fun _ _ _ _ _ h => h) hHeld [42, 43, 44, 45, 46] [122, 123, 124, 125, 126] _ _ _ (by kernel_rfl) ?_
          simp only [List.foldl_cons, List.foldl_nil, Act.put, sA, s0, sS]
          refine tk 47 127 ?v225 ?h225 hHeld ?_; case h225 => (intro w s; (try dsimp only at s); go_simp <;> with_reducible rfl)
          conv => arg 8; simp only [Act.put, sA, s0, sS]
          refine tk 48 128 ?v226 ?h226 hHeld ?_; case h226 => (intro w s; (try dsimp only at s); go_simp <;> with_reducible rfl)
          conv => arg 8; simp only [Act.put, sA, s0, sS]
          refine wpAnyH_skips (by kernel_rfl) (fun _ _ _ _ _ h => h) hHeld [49, 50, 51, 52] [129, 130, 131, 132] _ _ _ (by kernel_rfl) ?_
          simp only [List.foldl_cons, List.foldl_nil, Act.put, sA, s0, sS]
          refine tk 53 133 ?v228 ?h228 hHeld ?_; case h228 => (intro w s; (try dsimp only at s); go_simp <;> with_reducible rfl)
          conv => arg 8; simp only [Act.put, sA, s0, sS]
          refine wpAnyH_done (by kernel_rfl) ?_ _
          clear HF HF2 HKm HKb HA1 HT
          repeat clear hHeld
          go_wp2
          go_ret
          exact ⟨ret_b (HNM.out (rangeAll_no k hlt (HE.out.trans (mailNo hp.1 (.inr (.inr (.inr (.inr (.inr (.inl h6)))))))))), Below.step HB1.out DR⟩
        have e119 : decide (seq < 1) = false := decide_eq_false h6
        by_cases h7 : x.seq < seq
        · have e126 : decide (x.seq < seq) = true := decide_eq_true h7
          go_wp2
          refine wp_region_held_drew (S := fun w' => w'.cell? ⟨wr.heap.size, 0, none⟩ = some (.int .i64 uid) ∧ w'.cell? ⟨wr.heap.size, 1, none⟩ = some (.int .i64 flags) ∧ w'.cell? ⟨wr.heap.size, 2, none⟩ = some (.int .i64 seq) ∧ w'.cell? ⟨wr.heap.size, 3, none⟩ = some (.slice ua un uc) ∧ w'.cell? ⟨w.heap.size, 2, none⟩ = some (.int .i64 x.next) ∧ w'.cell? ⟨w.heap.size, 3, none⟩ = some (.int .i64 x.seq) ∧ w'.cell? ⟨w.heap.size, 4, none⟩ = some (.slice (some ⟨b, off, none⟩) x.mails.length c1) ∧ w'.cell? ⟨b, off + j * 4, none⟩ = some (.int .i64 pu)) (by kernel_rfl) (HF2.out _ DR) (fun hHeld => (show wpAnyH _ _ _ _ _ 54 #[false, false, false, false, false, false, false, false, false, false, false, false, false, false, false, false, false, false, false, false, false, false, false, false, false, false, false, false, false, false, false, false, false, false, false, false, false, false, false, false, false, false, false, false, false, false, false, false, false, false, false, false, false, false] _ _ from ?_))
          refine tk 0 80 ?v229 ?h229 hHeld ?_; case h229 => (intro w s; (try dsimp only at s); go_simp <;> with_reducible rfl)
          conv => arg 8; simp only [Act.put, sA, s0, sS]
          refine tk 1 81 ?v230 ?h230 hHeld ?_; case h230 => (intro w s; (try dsimp only at s); go_simp <;> with_reducible rfl)
          conv => arg 8; simp only [Act.put, sA, s0, sS]
          refine tk 2 82 ?v231 ?h231 hHeld ?_; case h231 => (intro w s; (try dsimp only at s); go_simp <;> with_reducible rfl)
          conv => arg 8; simp only [Act.put, sA, s0, sS]
          refine tk 3 83 ?v232 ?h232 hHeld ?_; case h232 => (intro w s; (try dsimp only at s); go_simp <;> with_reducible rfl)
          conv => arg 8; simp only [Act.put, sA, s0, sS]
          refine tk 4 84 ?v233 ?h233 hHeld ?_; case h233 => (intro w s; (try dsimp only at s); go_simp <;> with_reducible rfl)
          conv => arg 8; simp only [Act.put, sA, s0, sS]
          refine tk 5 85 ?v234 ?h234 hHeld ?_; case h234 => (intro w s; (try dsimp only at s); go_simp <;> with_reducible rfl)
          conv => arg 8; simp only [Act.put, sA, s0, sS]
          refine tk 6 86 ?v235 ?h235 hHeld ?_; case h235 => (intro w s; (try dsimp only at s); go_simp <;> with_reducible rfl)
          conv => arg 8; simp only [Act.put, sA, s0, sS]
          refine tk 7 87 ?v236 ?h236 hHeld ?_; case h236 => (intro w s; (try dsimp only at s); go_simp <;> with_reducible rfl)
          conv => arg 8; simp only [Act.put, sA, s0, sS]
          refine tk 8 88 ?v237 ?h237 hHeld ?_; case h237 => (intro w s; (try dsimp only at s); go_simp <;> with_reducible rfl)
          conv => arg 8; simp only [Act.put, sA, s0, sS]
          refine tk 9 89 ?v238 ?h238 hHeld ?_; case h238 => (intro w s; (try dsimp only at s); go_simp <;> with_reducible rfl)
          conv => arg 8; simp only [Act.put, sA, s0, sS]
          refine tk 10 90 ?v239 ?h239 hHeld ?_; case h239 => (intro w s; (try dsimp only at s); go_simp <;> with_reducible rfl)
          conv => arg 8; simp only [Act.put, sA, s0, sS]
          refine tk 11 91 ?v240 ?h240 hHeld ?_; case h240 => (intro w s; (try dsimp only at s); go_simp <;> with_reducible rfl)
          conv => arg 8; simp only [Act.put, sA, s0, sS]
          refine tk 12 92 ?v241 ?h241 hHeld ?_; case h241 => (intro w s; (try dsimp only at s); go_simp <;> with_reducible rfl)
          conv => arg 8; simp only [Act.put, sA, s0, sS]
          refine tk 13 93 ?v242 ?h242 hHeld ?_; case h242 => (intro w s; (try dsimp only at s); go_simp <;> with_reducible rfl)
          conv => arg 8; simp only [Act.put, sA, s0, sS]
          refine tk 14 94 ?v243 ?h243 hHeld ?_; case h243 => (intro w s; (try dsimp only at s); go_simp <;> with_reducible rfl)
          conv => arg 8; simp only [Act.put, sA, s0, sS]
          refine tk 15 95 ?v244 ?h244 hHeld ?_; case h244 => (intro w s; (try dsimp only at s); go_simp <;> with_reducible rfl)
          conv => arg 8; simp only [Act.put, sA, s0, sS]
          refine tk 16 96 ?v245 ?h245 hHeld ?_; case h245 => (intro w s; (try dsimp only at s); go_simp <;> with_reducible rfl)
          conv => arg 8; simp only [Act.put, sA, s0, sS]
          refine tk 17 97 ?v246 ?h246 hHeld ?_; case h246 => (intro w s; (try dsimp only at s); go_simp <;> with_reducible rfl)
          conv => arg 8; simp only [Act.put, sA, s0, sS]
          refine tk 18 98 ?v247 ?h247 hHeld ?_; case h247 => (intro w s; (try dsimp only at s); go_simp <;> with_reducible rfl)
          conv => arg 8; simp only [Act.put, sA, s0, sS]
          refine tk 19 99 ?v248 ?h248 hHeld ?_; case h248 => (intro w s; (try dsimp only at s); go_simp <;> with_reducible rfl)
          conv => arg 8; simp only [Act.put, sA, s0, sS]
          refine tk 20 100 ?v249 ?h249 hHeld ?_; case h249 => (intro w s; (try dsimp only at s); go_simp <;> with_reducible rfl)
          conv => arg 8; simp only [Act.put, sA, s0, sS]
          refine tk 21 101 ?v250 ?h250 hHeld ?_; case h250 => (intro w s; (try dsimp only at s); go_simp <;> with_reducible rfl)
          conv => arg 8; simp only [Act.put, sA, s0, sS]
          refine tk 22 102 ?v251 ?h251 hHeld ?_; case h251 => (intro w s; (try dsimp only at s); go_simp <;> with_reducible rfl)
          conv => arg 8; simp only [Act.put, sA, s0, sS]
          refine tk 23 103 ?v252 ?h252 hHeld ?_; case h252 => (intro w s; (try dsimp only at s); go_simp <;> with_reducible rfl)
          conv => arg 8; simp only [Act.put, sA, s0, sS]
          refine tk 24 104 ?v253 ?h253 hHeld ?_; case h253 => (intro w s; (try dsimp only at s); go_simp <;> with_reducible rfl)
          conv => arg 8; simp only [Act.put, sA, s0, sS]
          refine tk 25 105 ?v254 ?h254 hHeld ?_; case h254 => (intro w s; (try dsimp only at s); go_simp <;> with_reducible rfl)
          conv => arg 8; simp only [Act.put, sA, s0, sS]
          refine tk 26 106 ?v255 ?h255 hHeld ?_; case h255 => (intro w s; (try dsimp only at s); go_simp <;> with_reducible rfl)
          conv => arg 8; simp only [Act.put, sA, s0, sS]
          refine tk 27 107 ?v256 ?h256 hHeld ?_; case h256 => (intro w s; (try dsimp only at s); go_simp <;> with_reducible rfl)
          conv => arg 8; simp only [Act.put, sA, s0, sS]
          refine tk 28 108 ?v257 ?h257 hHeld ?_; case h257 => (intro w s; (try dsimp only at s); go_simp <;> with_reducible rfl)
          conv => arg 8; simp only [Act.put, sA, s0, sS]
          refine tk 29 109 ?v258 ?h258 hHeld ?_; case h258 => (intro w s; (try dsimp only at s); go_simp <;> with_reducible rfl)
          conv => arg 8; simp only [Act.put, sA, s0, sS]
          refine tk 30 110 ?v259 ?h259 hHeld ?_; case h259 => (intro w s; (try dsimp only at s); go_simp <;> with_reducible rfl)
          conv => arg 8; simp only [Act.put, sA, s0, sS]
          refine tk 31 111 ?v260 ?h260 hHeld ?_; case h260 => (intro w s; (try dsimp only at s); go_simp <;> with_reducible rfl)
          conv => arg 8; simp only [Act.put, sA, s0, sS]
          refine tk 32 112 ?v261 ?h261 hHeld ?_; case h261 => (intro w s; (try dsimp only at s); go_simp <;> with_reducible rfl)
          conv => arg 8; simp only [Act.put, sA, s0, sS]
          refine tk 33 113 ?v262 ?h262 hHeld ?_; case h262 => (intro w s; (try dsimp only at s); go_simp <;> with_reducible rfl)
          conv => arg 8; simp only [Act.put, sA, s0, sS]
          refine tk 34 114 ?v263 ?h263 hHeld ?_; case h263 => (intro w s; (try dsimp only at s); go_simp <;> with_reducible rfl)
          conv => arg 8; simp only [Act.put, sA, s0, sS]
          refine tk 35 115 ?v264 ?h264 hHeld ?_; case h264 => (intro w s; (try dsimp only at s); go_simp <;> with_reducible rfl)
          conv => arg 8; simp only [Act.put, sA, s0, sS]
          refine tk 36 116 ?v265 ?h265 hHeld ?_; case h265 => (intro w s; (try dsimp only at s); go_simp <;> with_reducible rfl)
          conv => arg 8; simp only [Act.put, sA, s0, sS]
          refine tk 37 117 ?v266 ?h266 hHeld ?_; case h266 => (intro w s; (try dsimp only at s); go_simp <;> with_reducible rfl)
          conv => arg 8; simp only [Act.put, sA, s0, sS]
          refine tk 38 118 ?v267 ?h267 hHeld ?_; case h267 => (intro w s; (try dsimp only at s); go_simp <;> with_reducible rfl)
          conv => arg 8; simp only [Act.put, sA, s0, sS]
          refine tk 39 119 ?v268 ?h268 hHeld ?_; case h268 => (intro w s; (try dsimp only at s); go_simp <;> with_reducible rfl)
          conv => arg 8; simp only [Act.put, sA, s0, sS]
          refine tk 40 120 ?v269 ?h269 hHeld ?_; case h269 => (intro w s; (try dsimp only at s); go_simp <;> with_reducible rfl)
          conv => arg 8; simp only [Act.put, sA, s0, sS]
          refine tk 41 121 ?v270 ?h270 hHeld ?_; case h270 => (intro w s; (try dsimp only at s); go_simp <;> with_reducible rfl)
          conv => arg 8; simp only [Act.put, sA, s0, sS]
          refine tk 42 122 ?v271 ?h271 hHeld ?_; case h271 => (intro w s; (try dsimp only at s); go_simp <;> with_reducible rfl)
          conv => arg 8; simp only [Act.put, sA, s0, sS]
          refine tk 43 123 ?v272 ?h272 hHeld ?_; case h272 => (intro w s; (try dsimp only at s); go_simp <;> with_reducible rfl)
          conv => arg 8; simp only [Act.put, sA, s0, sS]
          refine tk 44 124 ?v273 ?h273 hHeld ?_; case h273 => (intro w s; (try dsimp only at s); go_simp <;> with_reducible rfl)
          conv => arg 8; simp only [Act.put, sA, s0, sS]
          refine tk 45 125 ?v274 ?h274 hHeld ?_; case h274 => (intro w s; (try dsimp only at s); go_simp <;> with_reducible rfl)
          conv => arg 8; simp only [Act.put, sA, s0, sS]
          refine tk 46 126 ?v275 ?h275 hHeld ?_; case h275 => (intro w s; (try dsimp only at s); go_simp <;> with_reducible rfl)
          conv => arg 8; simp only [Act.put, sA, s0, sS]
          refine tk 47 127 ?v276 ?h276 hHeld ?_; case h276 => (intro w s; (try dsimp only at s); go_simp <;> with_reducible rfl)
          conv => arg 8; simp only [Act.put, sA, s0, sS]
          refine tk 48 128 ?v277 ?h277 hHeld ?_; case h277 => (intro w s; (try dsimp only at s); go_simp <;> with_reducible rfl)
          conv => arg 8; simp only [Act.put, sA, s0, sS]
          refine wpAnyH_skips (by kernel_rfl) (fun _ _ _ _ _ h => h) hHeld [49, 50, 51, 52] [129, 130, 131, 132] _ _ _ (by kernel_rfl) ?_
          simp only [List.foldl_cons, List.foldl_nil, Act.put, sA, s0, sS]
          refine tk 53 133 ?v279 ?h279 hHeld ?_; case h279 => (intro w s; (try dsimp only at s); go_simp <;> with_reducible rfl)
          conv => arg 8; simp only [Act.put, sA, s0, sS]
          refine wpAnyH_done (by kernel_rfl) ?_ _
          clear HF HF2 HKm HKb HA1 HT
          repeat clear hHeld
          go_wp2
          go_ret
          exact ⟨ret_b (HNM.out (rangeAll_no k hlt (HE.out.trans (mailNo hp.1 (.inr (.inr (.inr (.inr (.inr (.inr (.inl h7))))))))))), Below.step HB1.out DR⟩
        have e126 : decide (x.seq < seq) = false := decide_eq_false h7
        cases XT with
        | false =>
          go_wp2
          refine wp_region_held_drew (S := fun w' => w'.cell? ⟨wr.heap.size, 0, none⟩ = some (.int .i64 uid) ∧ w'.cell? ⟨wr.heap.size, 1, none⟩ = some (.int .i64 flags) ∧ w'.cell? ⟨wr.heap.size, 2, none⟩ = some (.int .i64 seq) ∧ w'.cell? ⟨wr.heap.size, 3, none⟩ = some (.slice ua un uc) ∧ w'.cell? ⟨w.heap.size, 2, none⟩ = some (.int .i64 x.next) ∧ w'.cell? ⟨w.heap.size, 3, none⟩ = some (.int .i64 x.seq) ∧ w'.cell? ⟨w.heap.size, 4, none⟩ = some (.slice (some ⟨b, off, none⟩) x.mails.length c1) ∧ w'.cell? ⟨b, off + j * 4, none⟩ = some (.int .i64 pu)) (by kernel_rfl) (HF2.out _ DR) (fun hHeld => (show wpAnyH _ _ _ _ _ 54 #[false, false, false, false, false, false, false, false, false, false, false, false, false, false, false, false, false, false, false, false, false, false, false, false, false, false, false, false, false, false, false, false, false, false, false, false, false, false, false, false, false, false, false, false, false, false, false, false, false, false, false, false, false, false] _ _ from ?_))
          refine tk 0 80 ?v280 ?h280 hHeld ?_; case h280 => (intro w s; (try dsimp only at s); go_simp <;> with_reducible rfl)
          conv => arg 8; simp only [Act.put, sA, s0, sS]
          refine tk 1 81 ?v281 ?h281 hHeld ?_; case h281 => (intro w s; (try dsimp only at s); go_simp <;> with_reducible rfl)
          conv => arg 8; simp only [Act.put, sA, s0, sS]
          refine tk 2 82 ?v282 ?h282 hHeld ?_; case h282 => (intro w s; (try dsimp only at s); go_simp <;> with_reducible rfl)
          conv => arg 8; simp only [Act.put, sA, s0, sS]
          refine tk 3 83 ?v283 ?h283 hHeld ?_; case h283 => (intro w s; (try dsimp only at s); go_simp <;> with_reducible rfl)
          conv => arg 8; simp only [Act.put, sA, s0, sS]
          refine tk 4 84 ?v284 ?h284 hHeld ?_; case h284 => (intro w s; (try dsimp only at s); go_simp <;> with_reducible rfl)
          conv => arg 8; simp only [Act.put, sA, s0, sS]
          refine tk 5 85 ?v285 ?h285 hHeld ?_; case h285 => (intro w s; (try dsimp only at s); go_simp <;> with_reducible rfl)
          conv => arg 8; simp only [Act.put, sA, s0, sS]
          refine tk 6 86 ?v286 ?h286 hHeld ?_; case h286 => (intro w s; (try dsimp only at s); go_simp <;> with_reducible rfl)
          conv => arg 8; simp only [Act.put, sA, s0, sS]
          refine tk 7 87 ?v287 ?h287 hHeld ?_; case h287 => (intro w s; (try dsimp only at s); go_simp <;> with_reducible rfl)
          conv => arg 8; simp only [Act.put, sA, s0, sS]
          refine tk 8 88 ?v288 ?h288 hHeld ?_; case h288 => (intro w s; (try dsimp only at s); go_simp <;> with_reducible rfl)
          conv => arg 8; simp only [Act.put, sA, s0, sS]
          refine tk 9 89 ?v289 ?h289 hHeld ?_; case h289 => (intro w s; (try dsimp only at s); go_simp <;> with_reducible rfl)
          conv => arg 8; simp only [Act.put, sA, s0, sS]
          refine tk 10 90 ?v290 ?h290 hHeld ?_; case h290 => (intro w s; (try dsimp only at s); go_simp <;> with_reducible rfl)
          conv => arg 8; simp only [Act.put, sA, s0, sS]
          refine tk 11 91 ?v291 ?h291 hHeld ?_; case h291 => (intro w s; (try dsimp only at s); go_simp <;> with_reducible rfl)
          conv => arg 8; simp only [Act.put, sA, s0, sS]
          refine tk 12 92 ?v292 ?h292 hHeld ?_; case h292 => (intro w s; (try dsimp only at s); go_simp <;> with_reducible rfl)
          conv => arg 8; simp only [Act.put, sA, s0, sS]
          refine tk 13 93 ?v293 ?h293 hHeld ?_; case h293 => (intro w s; (try dsimp only at s); go_simp <;> with_reducible rfl)
          conv => arg 8; simp only [Act.put, sA, s0, sS]
          refine tk 14 94 ?v294 ?h294 hHeld ?_; case h294 => (intro w s; (try dsimp only at s); go_simp <;> with_reducible rfl)
          conv => arg 8; simp only [Act.put, sA, s0, sS]
          refine tk 15 95 ?v295 ?h295 hHeld ?_; case h295 => (intro w s; (try dsimp only at s); go_simp <;> with_reducible rfl)
          conv => arg 8; simp only [Act.put, sA, s0, sS]
          refine tk 16 96 ?v296 ?h296 hHeld ?_; case h296 => (intro w s; (try dsimp only at s); go_simp <;> with_reducible rfl)
          conv => arg 8; simp only [Act.put, sA, s0, sS]
          refine tk 17 97 ?v297 ?h297 hHeld ?_; case h297 => (intro w s; (try dsimp only at s); go_simp <;> with_reducible rfl)
          conv => arg 8; simp only [Act.put, sA, s0, sS]
          refine tk 18 98 ?v298 ?h298 hHeld ?_; case h298 => (intro w s; (try dsimp only at s); go_simp <;> with_reducible rfl)
          conv => arg 8; simp only [Act.put, sA, s0, sS]
          refine tk 19 99 ?v299 ?h299 hHeld ?_; case h299 => (intro w s; (try dsimp only at s); go_simp <;> with_reducible rfl)
          conv => arg 8; simp only [Act.put, sA, s0, sS]
          refine tk 20 100 ?v300 ?h300 hHeld ?_; case h300 => (intro w s; (try dsimp only at s); go_simp <;> with_reducible rfl)
          conv => arg 8; simp only [Act.put, sA, s0, sS]
          refine tk 21 101 ?v301 ?h301 hHeld ?_; case h301 => (intro w s; (try dsimp only at s); go_simp <;> with_reducible rfl)
          conv => arg 8; simp only [Act.put, sA, s0, sS]
          refine tk 22 102 ?v302 ?h302 hHeld ?_; case h302 => (intro w s; (try dsimp only at s); go_simp <;> with_reducible rfl)
          conv => arg 8; simp only [Act.put, sA, s0, sS]
          refine tk 23 103 ?v303 ?h303 hHeld ?_; case h303 => (intro w s; (try dsimp only at s); go_simp <;> with_reducible rfl)
          conv => arg 8; simp only [Act.put, sA, s0, sS]
          refine tk 24 104 ?v304 ?h304 hHeld ?_; case h304 => (intro w s; (try dsimp only at s); go_simp <;> with_reducible rfl)
          conv => arg 8; simp only [Act.put, sA, s0, sS]
          refine tk 25 105 ?v305 ?h305 hHeld ?_; case h305 => (intro w s; (try dsimp only at s); go_simp <;> with_reducible rfl)
          conv => arg 8; simp only [Act.put, sA, s0, sS]
          refine tk 26 106 ?v306 ?h306 hHeld ?_; case h306 => (intro w s; (try dsimp only at s); go_simp <;> with_reducible rfl)
          conv => arg 8; simp only [Act.put, sA, s0, sS]
          refine tk 27 107 ?v307 ?h307 hHeld ?_; case h307 => (intro w s; (try dsimp only at s); go_simp <;> with_reducible rfl)
          conv => arg 8; simp only [Act.put, sA, s0, sS]
          refine tk 28 108 ?v308 ?h308 hHeld ?_; case h308 => (intro w s; (try dsimp only at s); go_simp <;> with_reducible rfl)
          conv => arg 8; simp only [Act.put, sA, s0, sS]
          refine tk 29 109 ?v309 ?h309 hHeld ?_; case h309 => (intro w s; (try dsimp only at s); go_simp <;> with_reducible rfl)
          conv => arg 8; simp only [Act.put, sA, s0, sS]
          refine tk 30 110 ?v310 ?h310 hHeld ?_; case h310 => (intro w s; (try dsimp only at s); go_simp <;> with_reducible rfl)
          conv => arg 8; simp only [Act.put, sA, s0, sS]
          refine tk 31 111 ?v311 ?h311 hHeld ?_; case h311 => (intro w s; (try dsimp only at s); go_simp <;> with_reducible rfl)
          conv => arg 8; simp only [Act.put, sA, s0, sS]
          refine tk 32 112 ?v312 ?h312 hHeld ?_; case h312 => (intro w s; (try dsimp only at s); go_simp <;> with_reducible rfl)
          conv => arg 8; simp only [Act.put, sA, s0, sS]
          refine tk 33 113 ?v313 ?h313 hHeld ?_; case h313 => (intro w s; (try dsimp only at s); go_simp <;> with_reducible rfl)
          conv => arg 8; simp only [Act.put, sA, s0, sS]
          refine tk 34 114 ?v314 ?h314 hHeld ?_; case h314 => (intro w s; (try dsimp only at s); go_simp <;> with_reducible rfl)
          conv => arg 8; simp only [Act.put, sA, s0, sS]
          refine tk 35 115 ?v315 ?h315 hHeld ?_; case h315 => (intro w s; (try dsimp only at s); go_simp <;> with_reducible rfl)
          conv => arg 8; simp only [Act.put, sA, s0, sS]
          refine tk 36 116 ?v316 ?h316 hHeld ?_; case h316 => (intro w s; (try dsimp only at s); go_simp <;> with_reducible rfl)
          conv => arg 8; simp only [Act.put, sA, s0, sS]
          refine tk 37 117 ?v317 ?h317 hHeld ?_; case h317 => (intro w s; (try dsimp only at s); go_simp <;> with_reducible rfl)
          conv => arg 8; simp only [Act.put, sA, s0, sS]
          refine tk 38 118 ?v318 ?h318 hHeld ?_; case h318 => (intro w s; (try dsimp only at s); go_simp <;> with_reducible rfl)
          conv => arg 8; simp only [Act.put, sA, s0, sS]
          refine tk 39 119 ?v319 ?h319 hHeld ?_; case h319 => (intro w s; (try dsimp only at s); go_simp <;> with_reducible rfl)
          conv => arg 8; simp only [Act.put, sA, s0, sS]
          refine tk 40 120 ?v320 ?h320 hHeld ?_; case h320 => (intro w s; (try dsimp only at s); go_simp <;> with_reducible rfl)
          conv => arg 8; simp only [Act.put, sA, s0, sS]
          refine tk 41 121 ?v321 ?h321 hHeld ?_; case h321 => (intro w s; (try dsimp only at s); go_simp <;> with_reducible rfl)
          conv => arg 8; simp only [Act.put, sA, s0, sS]
          refine tk 42 122 ?v322 ?h322 hHeld ?_; case h322 => (intro w s; (try dsimp only at s); go_simp <;> with_reducible rfl)
          conv => arg 8; simp only [Act.put, sA, s0, sS]
          refine tk 43 123 ?v323 ?h323 hHeld ?_; case h323 => (intro w s; (try dsimp only at s); go_simp <;> with_reducible rfl)
          conv => arg 8; simp only [Act.put, sA, s0, sS]
          refine tk 44 124 ?v324 ?h324 hHeld ?_; case h324 => (intro w s; (try dsimp only at s); go_simp <;> with_reducible rfl)
          conv => arg 8; simp only [Act.put, sA, s0, sS]
          refine tk 45 125 ?v325 ?h325 hHeld ?_; case h325 => (intro w s; (try dsimp only at s); go_simp <;> with_reducible rfl)
          conv => arg 8; simp only [Act.put, sA, s0, sS]
          refine tk 46 126 ?v326 ?h326 hHeld ?_; case h326 => (intro w s; (try dsimp only at s); go_simp <;> with_reducible rfl)
          conv => arg 8; simp only [Act.put, sA, s0, sS]
          refine tk 47 127 ?v327 ?h327 hHeld ?_; case h327 => (intro w s; (try dsimp only at s); go_simp <;> with_reducible rfl)
          conv => arg 8; simp only [Act.put, sA, s0, sS]
          refine tk 48 128 ?v328 ?h328 hHeld ?_; case h328 => (intro w s; (try dsimp only at s); go_simp <;> with_reducible rfl)
          conv => arg 8; simp only [Act.put, sA, s0, sS]
          refine tk 49 129 ?v329 ?h329 hHeld ?_; case h329 => (intro w s; (try dsimp only at s); go_simp <;> with_reducible rfl)
          conv => arg 8; simp only [Act.put, sA, s0, sS]
          refine tk 50 130 ?v330 ?h330 hHeld ?_; case h330 => (intro w s; (try dsimp only at s); go_simp <;> with_reducible rfl)
          conv => arg 8; simp only [Act.put, sA, s0, sS]
          refine wpAnyH_ready (rs := [51]) (by kernel_rfl) (by simp) ?_
          refine AllReadyH.cons rfl (fun K hK => ?_) AllReadyH.nil
          go_simp
          refine HT.out.mono ?_
          rintro e w2 ⟨rfl, rfl⟩
          refine hK.out _ _ (HF2.out _ DR) (fun hHeld => ?_)
          clear hK K
          refine tk 52 132 ?v332 ?h332 hHeld ?_; case h332 => (intro w s; (try dsimp only at s); go_simp <;> with_reducible rfl)
          conv => arg 8; simp only [Act.put, sA, s0, sS]
          refine tk 53 133 ?v333 ?h333 hHeld ?_; case h333 => (intro w s; (try dsimp only at s); go_simp <;> with_reducible rfl)
          conv => arg 8; simp only [Act.put, sA, s0, sS]
          refine wpAnyH_done (by kernel_rfl) ?_ _
          clear HF HF2 HKm HKb HA1 HT
          repeat clear hHeld
          go_wp2
          go_ret
          exact ⟨ret_b (HNM.out (rangeAll_no k hlt (HE.out.trans (mailNo hp.1 (.inr (.inr (.inr (.inr (.inr (.inr (.inr rfl))))))))))), Below.step HB1.out DR⟩
        | true =>
          go_wp2
          refine wp_region_held_drew (S := fun w' => w'.cell? ⟨wr.heap.size, 0, none⟩ = some (.int .i64 uid) ∧ w'.cell? ⟨wr.heap.size, 1, none⟩ = some (.int .i64 flags) ∧ w'.cell? ⟨wr.heap.size, 2, none⟩ = some (.int .i64 seq) ∧ w'.cell? ⟨wr.heap.size, 3, none⟩ = some (.slice ua un uc) ∧ w'.cell? ⟨w.heap.size, 2, none⟩ = some (.int .i64 x.next) ∧ w'.cell? ⟨w.heap.size, 3, none⟩ = some (.int .i64 x.seq) ∧ w'.cell? ⟨w.heap.size, 4, none⟩ = some (.slice (some ⟨b, off, none⟩) x.mails.length c1) ∧ w'.cell? ⟨b, off + j * 4, none⟩ = some (.int .i64 pu)) (by kernel_rfl) (HF2.out _ DR) (fun hHeld => (show wpAnyH _ _ _ _ _ 54 #[false, false, false, false, false, false, false, false, false, false, false, false, false, false, false, false, false, false, false, false, false, false, false, false, false, false, false, false, false, false, false, false, false, false, false, false, false, false, false, false, false, false, false, false, false, false, false, false, false, false, false, false, false, false] _ _ from ?_))
          refine tk 0 80 ?v334 ?h334 hHeld ?_; case h334 => (intro w s; (try dsimp only at s); go_simp <;> with_reducible rfl)
          conv => arg 8; simp only [Act.put, sA, s0, sS]
          refine tk 1 81 ?v335 ?h335 hHeld ?_; case h335 => (intro w s; (try dsimp only at s); go_simp <;> with_reducible rfl)
          conv => arg 8; simp only [Act.put, sA, s0, sS]
          refine tk 2 82 ?v336 ?h336 hHeld ?_; case h336 => (intro w s; (try dsimp only at s); go_simp <;> with_reducible rfl)
          conv => arg 8; simp only [Act.put, sA, s0, sS]
          refine tk 3 83 ?v337 ?h337 hHeld ?_; case h337 => (intro w s; (try dsimp only at s); go_simp <;> with_reducible rfl)
          conv => arg 8; simp only [Act.put, sA, s0, sS]
          refine tk 4 84 ?v338 ?h338 hHeld ?_; case h338 => (intro w s; (try dsimp only at s); go_simp <;> with_reducible rfl)
          conv => arg 8; simp only [Act.put, sA, s0, sS]
          refine tk 5 85 ?v339 ?h339 hHeld ?_; case h339 => (intro w s; (try dsimp only at s); go_simp <;> with_reducible rfl)
          conv => arg 8; simp only [Act.put, sA, s0, sS]
          refine tk 6 86 ?v340 ?h340 hHeld ?_; case h340 => (intro w s; (try dsimp only at s); go_simp <;> with_reducible rfl)
          conv => arg 8; simp only [Act.put, sA, s0, sS]
          refine tk 7 87 ?v341 ?h341 hHeld ?_; case h341 => (intro w s; (try dsimp only at s); go_simp <;> with_reducible rfl)
          conv => arg 8; simp only [Act.put, sA, s0, sS]
          refine tk 8 88 ?v342 ?h342 hHeld ?_; case h342 => (intro w s; (try dsimp only at s); go_simp <;> with_reducible rfl)
          conv => arg 8; simp only [Act.put, sA, s0, sS]
          refine tk 9 89 ?v343 ?h343 hHeld ?_; case h343 => (intro w s; (try dsimp only at s); go_simp <;> with_reducible rfl)
          conv => arg 8; simp only [Act.put, sA, s0, sS]
          refine tk 10 90 ?v344 ?h344 hHeld ?_; case h344 => (intro w s; (try dsimp only at s); go_simp <;> with_reducible rfl)
          conv => arg 8; simp only [Act.put, sA, s0, sS]
          refine tk 11 91 ?v345 ?h345 hHeld ?_; case h345 => (intro w s; (try dsimp only at s); go_simp <;> with_reducible rfl)
          conv => arg 8; simp only [Act.put, sA, s0, sS]
          refine tk 12 92 ?v346 ?h346 hHeld ?_; case h346 => (intro w s; (try dsimp only at s); go_simp <;> with_reducible rfl)
          conv => arg 8; simp only [Act.put, sA, s0, sS]
          refine tk 13 93 ?v347 ?h347 hHeld ?_; case h347 => (intro w s; (try dsimp only at s); go_simp <;> with_reducible rfl)
          conv => arg 8; simp only [Act.put, sA, s0, sS]
          refine tk 14 94 ?v348 ?h348 hHeld ?_; case h348 => (intro w s; (try dsimp only at s); go_simp <;> with_reducible rfl)
          conv => arg 8; simp only [Act.put, sA, s0, sS]
          refine tk 15 95 ?v349 ?h349 hHeld ?_; case h349 => (intro w s; (try dsimp only at s); go_simp <;> with_reducible rfl)
          conv => arg 8; simp only [Act.put, sA, s0, sS]
          refine tk 16 96 ?v350 ?h350 hHeld ?_; case h350 => (intro w s; (try dsimp only at s); go_simp <;> with_reducible rfl)
          conv => arg 8; simp only [Act.put, sA, s0, sS]
          refine tk 17 97 ?v351 ?h351 hHeld ?_; case h351 => (intro w s; (try dsimp only at s); go_simp <;> with_reducible rfl)
          conv => arg 8; simp only [Act.put, sA, s0, sS]
          refine tk 18 98 ?v352 ?h352 hHeld ?_; case h352 => (intro w s; (try dsimp only at s); go_simp <;> with_reducible rfl)
          conv => arg 8; simp only [Act.put, sA, s0, sS]
          refine tk 19 99 ?v353 ?h353 hHeld ?_; case h353 => (intro w s; (try dsimp only at s); go_simp <;> with_reducible rfl)
          conv => arg 8; simp only [Act.put, sA, s0, sS]
          refine tk 20 100 ?v354 ?h354 hHeld ?_; case h354 => (intro w s; (try dsimp only at s); go_simp <;> with_reducible rfl)
          conv => arg 8; simp only [Act.put, sA, s0, sS]
          refine tk 21 101 ?v355 ?h355 hHeld ?_; case h355 => (intro w s; (try dsimp only at s); go_simp <;> with_reducible rfl)
          conv => arg 8; simp only [Act.put, sA, s0, sS]
          refine tk 22 102 ?v356 ?h356 hHeld ?_; case h356 => (intro w s; (try dsimp only at s); go_simp <;> with_reducible rfl)
          conv => arg 8; simp only [Act.put, sA, s0, sS]
          refine tk 23 103 ?v357 ?h357 hHeld ?_; case h357 => (intro w s; (try dsimp only at s); go_simp <;> with_reducible rfl)
          conv => arg 8; simp only [Act.put, sA, s0, sS]
          refine tk 24 104 ?v358 ?h358 hHeld ?_; case h358 => (intro w s; (try dsimp only at s); go_simp <;> with_reducible rfl)
          conv => arg 8; simp only [Act.put, sA, s0, sS]
          refine tk 25 105 ?v359 ?h359 hHeld ?_; case h359 => (intro w s; (try dsimp only at s); go_simp <;> with_reducible rfl)
          conv => arg 8; simp only [Act.put, sA, s0, sS]
          refine tk 26 106 ?v360 ?h360 hHeld ?_; case h360 => (intro w s; (try dsimp only at s); go_simp <;> with_reducible rfl)
          conv => arg 8; simp only [Act.put, sA, s0, sS]
          refine tk 27 107 ?v361 ?h361 hHeld ?_; case h361 => (intro w s; (try dsimp only at s); go_simp <;> with_reducible rfl)
          conv => arg 8; simp only [Act.put, sA, s0, sS]
          refine tk 28 108 ?v362 ?h362 hHeld ?_; case h362 => (intro w s; (try dsimp only at s); go_simp <;> with_reducible rfl)
          conv => arg 8; simp only [Act.put, sA, s0, sS]
          refine tk 29 109 ?v363 ?h363 hHeld ?_; case h363 => (intro w s; (try dsimp only at s); go_simp <;> with_reducible rfl)
          conv => arg 8; simp only [Act.put, sA, s0, sS]
          refine tk 30 110 ?v364 ?h364 hHeld ?_; case h364 => (intro w s; (try dsimp only at s); go_simp <;> with_reducible rfl)
          conv => arg 8; simp only [Act.put, sA, s0, sS]
          refine tk 31 111 ?v365 ?h365 hHeld ?_; case h365 => (intro w s; (try dsimp only at s); go_simp <;> with_reducible rfl)
          conv => arg 8; simp only [Act.put, sA, s0, sS]
          refine tk 32 112 ?v366 ?h366 hHeld ?_; case h366 => (intro w s; (try dsimp only at s); go_simp <;> with_reducible rfl)
          conv => arg 8; simp only [Act.put, sA, s0, sS]
          refine tk 33 113 ?v367 ?h367 hHeld ?_; case h367 => (intro w s; (try dsimp only at s); go_simp <;> with_reducible rfl)
          conv => arg 8; simp only [Act.put, sA, s0, sS]
          refine tk 34 114 ?v368 ?h368 hHeld ?_; case h368 => (intro w s; (try dsimp only at s); go_simp <;> with_reducible rfl)
          conv => arg 8; simp only [Act.put, sA, s0, sS]
          refine tk 35 115 ?v369 ?h369 hHeld ?_; case h369 => (intro w s; (try dsimp only at s); go_simp <;> with_reducible rfl)
          conv => arg 8; simp only [Act.put, sA, s0, sS]
          refine tk 36 116 ?v370 ?h370 hHeld ?_; case h370 => (intro w s; (try dsimp only at s); go_simp <;> with_reducible rfl)
          conv => arg 8; simp only [Act.put, sA, s0, sS]
          refine tk 37 117 ?v371 ?h371 hHeld ?_; case h371 => (intro w s; (try dsimp only at s); go_simp <;> with_reducible rfl)
          conv => arg 8; simp only [Act.put, sA, s0, sS]
          refine tk 38 118 ?v372 ?h372 hHeld ?_; case h372 => (intro w s; (try dsimp only at s); go_simp <;> with_reducible rfl)
          conv => arg 8; simp only [Act.put, sA, s0, sS]
          refine tk 39 119 ?v373 ?h373 hHeld ?_; case h373 => (intro w s; (try dsimp only at s); go_simp <;> with_reducible rfl)
          conv => arg 8; simp only [Act.put, sA, s0, sS]
          refine tk 40 120 ?v374 ?h374 hHeld ?_; case h374 => (intro w s; (try dsimp only at s); go_simp <;> with_reducible rfl)
          conv => arg 8; simp only [Act.put, sA, s0, sS]
          refine tk 41 121 ?v375 ?h375 hHeld ?_; case h375 => (intro w s; (try dsimp only at s); go_simp <;> with_reducible rfl)
          conv => arg 8; simp only [Act.put, sA, s0, sS]
          refine tk 42 122 ?v376 ?h376 hHeld ?_; case h376 => (intro w s; (try dsimp only at s); go_simp <;> with_reducible rfl)
          conv => arg 8; simp only [Act.put, sA, s0, sS]
          refine tk 43 123 ?v377 ?h377 hHeld ?_; case h377 => (intro w s; (try dsimp only at s); go_simp <;> with_reducible rfl)
          conv => arg 8; simp only [Act.put, sA, s0, sS]
          refine tk 44 124 ?v378 ?h378 hHeld ?_; case h378 => (intro w s; (try dsimp only at s); go_simp <;> with_reducible rfl)
          conv => arg 8; simp only [Act.put, sA, s0, sS]
          refine tk 45 125 ?v379 ?h379 hHeld ?_; case h379 => (intro w s; (try dsimp only at s); go_simp <;> with_reducible rfl)
          conv => arg 8; simp only [Act.put, sA, s0, sS]
          refine tk 46 126 ?v380 ?h380 hHeld ?_; case h380 => (intro w s; (try dsimp only at s); go_simp <;> with_reducible rfl)
          conv => arg 8; simp only [Act.put, sA, s0, sS]
          refine tk 47 127 ?v381 ?h381 hHeld ?_; case h381 => (intro w s; (try dsimp only at s); go_simp <;> with_reducible rfl)
          conv => arg 8; simp only [Act.put, sA, s0, sS]
          refine tk 48 128 ?v382 ?h382 hHeld ?_; case h382 => (intro w s; (try dsimp only at s); go_simp <;> with_reducible rfl)
          conv => arg 8; simp only [Act.put, sA, s0, sS]
          refine tk 49 129 ?v383 ?h383 hHeld ?_; case h383 => (intro w s; (try dsimp only at s); go_simp <;> with_reducible rfl)
          conv => arg 8; simp only [Act.put, sA, s0, sS]
          refine tk 50 130 ?v384 ?h384 hHeld ?_; case h384 => (intro w s; (try dsimp only at s); go_simp <;> with_reducible rfl)
          conv => arg 8; simp only [Act.put, sA, s0, sS]
          refine wpAnyH_ready (rs := [51]) (by kernel_rfl) (by simp) ?_
          refine AllReadyH.cons rfl (fun K hK => ?_) AllReadyH.nil
          go_simp
          refine HT.out.mono ?_
          rintro e w2 ⟨rfl, rfl⟩
          refine hK.out _ _ (HF2.out _ DR) (fun hHeld => ?_)
          clear hK K
          refine tk 52 132 ?v386 ?h386 hHeld ?_; case h386 => (intro w s; (try dsimp only at s); go_simp <;> with_reducible rfl)
          conv => arg 8; simp only [Act.put, sA, s0, sS]
          refine tk 53 133 ?v387 ?h387 hHeld ?_; case h387 => (intro w s; (try dsimp only at s); go_simp <;> with_reducible rfl)
          conv => arg 8; simp only [Act.put, sA, s0, sS]
          refine wpAnyH_done (by kernel_rfl) ?_ _
          have HB2 : Hid (Below w.heap.size w (wr.alloc (.cells #[.int .i64 uid, .int .i64 flags, .int .i64 seq, .slice ua un uc] 117)).drew) := Below.step HB1.out DR
          have HK2 : Hid ((wr.alloc (.cells #[.int .i64 uid, .int .i64 flags, .int .i64 seq, .slice ua un uc] 117)).drew.heap[w.heap.size]? = some (.cells #[.slice a0 n0 c0, .int .i64 x.valid, .int .i64 x.next, .int .i64 x.seq, .slice (some ⟨b, off, none⟩) x.mails.length c1, .slice a2 x.gones.length c2, .int .i64 x.lost] 87)) := box_below DR HKb.out
          clear HF HF2 HKm HKb HA1 HT HB1
          repeat clear hHeld
          go_wp2
          go_roundw
          case rel =>
            refine ⟨k + 1, by omega, by go_num, (show Hid _ from fun i hi => ?_), HK2, HB2⟩
            by_cases e : i = k
            · subst e; exact HE.out.trans (mailYes (by have := HPU.out; omega) (by omega) (by omega) (by omega) (by omega) (by omega) (by omega) rfl)
            · exact hA.out i (by omega)
          case measure => simp [intOf]; omega
      · have hkN : ¬ 0 < k := by omega
        have hd : decide (0 < k) = false := by simpa using hkN
        have HPU : Hid (q = 0) := by rw [← HQ.out]; have : k = 0 := by omega
                                     rw [this]; rfl
        by_cases h4 : flags < 0
        · have e109 : decide (flags < 0) = true := decide_eq_true h4
          go_wp2
          refine wp_region_held_drew (S := fun w' => w'.cell? ⟨wr.heap.size, 0, none⟩ = some (.int .i64 uid) ∧ w'.cell? ⟨wr.heap.size, 1, none⟩ = some (.int .i64 flags) ∧ w'.cell? ⟨wr.heap.size, 2, none⟩ = some (.int .i64 seq) ∧ w'.cell? ⟨wr.heap.size, 3, none⟩ = some (.slice ua un uc) ∧ w'.cell? ⟨w.heap.size, 2, none⟩ = some (.int .i64 x.next) ∧ w'.cell? ⟨w.heap.size, 3, none⟩ = some (.int .i64 x.seq) ∧ w'.cell? ⟨w.heap.size, 4, none⟩ = some (.slice (some ⟨b, off, none⟩) x.mails.length c1)) (by kernel_rfl) (HF.out _ DR) (fun hHeld => (show wpAnyH _ _ _ _ _ 54 #[false, false, false, false, false, false, false, false, false, false, false, false, false, false, false, false, false, false, false, false, false, false, false, false, false, false, false, false, false, false, false, false, false, false, false, false, false, false, false, false, false, false, false, false, false, false, false, false, false, false, false, false, false, false] _ _ from ?_))
          refine tk 0 80 ?v388 ?h388 hHeld ?_; case h388 => (intro w s; (try dsimp only at s); go_simp <;> with_reducible rfl)
          conv => arg 8; simp only [Act.put, sA, s0, sS]
          refine tk 1 81 ?v389 ?h389 hHeld ?_; case h389 => (intro w s; (try dsimp only at s); go_simp <;> with_reducible rfl)
          conv => arg 8; simp only [Act.put, sA, s0, sS]
          refine tk 2 82 ?v390 ?h390 hHeld ?_; case h390 => (intro w s; (try dsimp only at s); go_simp <;> with_reducible rfl)
          conv => arg 8; simp only [Act.put, sA, s0, sS]
          refine tk 3 83 ?v391 ?h391 hHeld ?_; case h391 => (intro w s; (try dsimp only at s); go_simp <;> with_reducible rfl)
          conv => arg 8; simp only [Act.put, sA, s0, sS]
          refine tk 4 84 ?v392 ?h392 hHeld ?_; case h392 => (intro w s; (try dsimp only at s); go_simp <;> with_reducible rfl)
          conv => arg 8; simp only [Act.put, sA, s0, sS]
          refine tk 5 85 ?v393 ?h393 hHeld ?_; case h393 => (intro w s; (try dsimp only at s); go_simp <;> with_reducible rfl)
          conv => arg 8; simp only [Act.put, sA, s0, sS]
          refine tk 6 86 ?v394 ?h394 hHeld ?_; case h394 => (intro w s; (try dsimp only at s); go_simp <;> with_reducible rfl)
          conv => arg 8; simp only [Act.put, sA, s0, sS]
          refine tk 7 87 ?v395 ?h395 hHeld ?_; case h395 => (intro w s; (try dsimp only at s); go_simp <;> with_reducible rfl)
          conv => arg 8; simp only [Act.put, sA, s0, sS]
          refine tk 8 88 ?v396 ?h396 hHeld ?_; case h396 => (intro w s; (try dsimp only at s); go_simp <;> with_reducible rfl)
          conv => arg 8; simp only [Act.put, sA, s0, sS]
          refine tk 9 89 ?v397 ?h397 hHeld ?_; case h397 => (intro w s; (try dsimp only at s); go_simp <;> with_reducible rfl)
          conv => arg 8; simp only [Act.put, sA, s0, sS]
          refine tk 10 90 ?v398 ?h398 hHeld ?_; case h398 => (intro w s; (try dsimp only at s); go_simp <;> with_reducible rfl)
          conv => arg 8; simp only [Act.put, sA, s0, sS]
          refine tk 11 91 ?v399 ?h399 hHeld ?_; case h399 => (intro w s; (try dsimp only at s); go_simp <;> with_reducible rfl)
          conv => arg 8; simp only [Act.put, sA, s0, sS]
          refine tk 12 92 ?v400 ?h400 hHeld ?_; case h400 => (intro w s; (try dsimp only at s); go_simp <;> with_reducible rfl)
          conv => arg 8; simp only [Act.put, sA, s0, sS]
          refine tk 13 93 ?v401 ?h401 hHeld ?_; case h401 => (intro w s; (try dsimp only at s); go_simp <;> with_reducible rfl)
          conv => arg 8; simp only [Act.put, sA, s0, sS]
          refine wpAnyH_skips (by kernel_rfl) (fun _ _ _ _ _ h => h) hHeld [14, 15, 16, 17, 18, 19, 20, 21, 22, 23] [94, 95, 96, 97, 98, 99, 100, 101, 102, 103] _ _ _ (by kernel_rfl) ?_
          simp only [List.foldl_cons, List.foldl_nil, Act.put, sA, s0, sS]
          refine tk 24 104 ?v403 ?h403 hHeld ?_; case h403 => (intro w s; (try dsimp only at s); go_simp <;> with_reducible rfl)
          conv => arg 8; simp only [Act.put, sA, s0, sS]
          refine tk 25 105 ?v404 ?h404 hHeld ?_; case h404 => (intro w s; (try dsimp only at s); go_simp <;> with_reducible rfl)
          conv => arg 8; simp only [Act.put, sA, s0, sS]
          refine tk 26 106 ?v405 ?h405 hHeld ?_; case h405 => (intro w s; (try dsimp only at s); go_simp <;> with_reducible rfl)
          conv => arg 8; simp only [Act.put, sA, s0, sS]
          refine tk 27 107 ?v406 ?h406 hHeld ?_; case h406 => (intro w s; (try dsimp only at s); go_simp <;> with_reducible rfl)
          conv => arg 8; simp only [Act.put, sA, s0, sS]
          refine tk 28 108 ?v407 ?h407 hHeld ?_; case h407 => (intro w s; (try dsimp only at s); go_simp <;> with_reducible rfl)
          conv => arg 8; simp only [Act.put, sA, s0, sS]
          refine tk 29 109 ?v408 ?h408 hHeld ?_; case h408 => (intro w s; (try dsimp only at s); go_simp <;> with_reducible rfl)
          conv => arg 8; simp only [Act.put, sA, s0, sS]
          refine tk 30 110 ?v409 ?h409 hHeld ?_; case h409 => (intro w s; (try dsimp only at s); go_simp <;> with_reducible rfl)
          conv => arg 8; simp only [Act.put, sA, s0, sS]
          refine tk 31 111 ?v410 ?h410 hHeld ?_; case h410 => (intro w s; (try dsimp only at s); go_simp <;> with_reducible rfl)
          conv => arg 8; simp only [Act.put, sA, s0, sS]
          refine wpAnyH_skips (by kernel_rfl) (fun _ _ _ _ _ h => h) hHeld [32, 33, 34] [112, 113, 114] _ _ _ (by kernel_rfl) ?_
          simp only [List.foldl_cons, List.foldl_nil, Act.put, sA, s0, sS]
          refine tk 35 115 ?v412 ?h412 hHeld ?_; case h412 => (intro w s; (try dsimp only at s); go_simp <;> with_reducible rfl)
          conv => arg 8; simp only [Act.put, sA, s0, sS]
          refine tk 36 116 ?v413 ?h413 hHeld ?_; case h413 => (intro w s; (try dsimp only at s); go_simp <;> with_reducible rfl)
          conv => arg 8; simp only [Act.put, sA, s0, sS]
          refine wpAnyH_skips (by kernel_rfl) (fun _ _ _ _ _ h => h) hHeld [37, 38, 39] [117, 118, 119] _ _ _ (by kernel_rfl) ?_
          simp only [List.foldl_cons, List.foldl_nil, Act.put, sA, s0, sS]
          refine tk 40 120 ?v415 ?h415 hHeld ?_; case h415 => (intro w s; (try dsimp only at s); go_simp <;> with_reducible rfl)
          conv => arg 8; simp only [Act.put, sA, s0, sS]
          refine tk 41 121 ?v416 ?h416 hHeld ?_; case h416 => (intro w s; (try dsimp only at s); go_simp <;> with_reducible rfl)
          conv => arg 8; simp only [Act.put, sA, s0, sS]
          refine wpAnyH_skips (by kernel_rfl) (fun _ _ _ _ _ h => h) hHeld [42, 43, 44, 45, 46] [122, 123, 124, 125, 126] _ _ _ (by kernel_rfl) ?_
          simp only [List.foldl_cons, List.foldl_nil, Act.put, sA, s0, sS]
          refine tk 47 127 ?v418 ?h418 hHeld ?_; case h418 => (intro w s; (try dsimp only at s); go_simp <;> with_reducible rfl)
          conv => arg 8; simp only [Act.put, sA, s0, sS]
          refine tk 48 128 ?v419 ?h419 hHeld ?_; case h419 => (intro w s; (try dsimp only at s); go_simp <;> with_reducible rfl)
          conv => arg 8; simp only [Act.put, sA, s0, sS]
          refine wpAnyH_skips (by kernel_rfl) (fun _ _ _ _ _ h => h) hHeld [49, 50, 51, 52] [129, 130, 131, 132] _ _ _ (by kernel_rfl) ?_
          simp only [List.foldl_cons, List.foldl_nil, Act.put, sA, s0, sS]
          refine tk 53 133 ?v421 ?h421 hHeld ?_; case h421 => (intro w s; (try dsimp only at s); go_simp <;> with_reducible rfl)
          conv => arg 8; simp only [Act.put, sA, s0, sS]
          refine wpAnyH_done (by kernel_rfl) ?_ _
          clear HF HKm HKb HA1 HT
          repeat clear hHeld
          go_wp2
          go_ret
          exact ⟨ret_b (HNM.out (rangeAll_no k hlt (HE.out.trans (mailNo hp.1 (.inr (.inr (.inr (.inl h4)))))))), Below.step HB1.out DR⟩
        have e109 : decide (flags < 0) = false := decide_eq_false h4
        by_cases h5 : 31 < flags
        · have e114 : decide (31 < flags) = true := decide_eq_true h5
          go_wp2
          refine wp_region_held_drew (S := fun w' => w'.cell? ⟨wr.heap.size, 0, none⟩ = some (.int .i64 uid) ∧ w'.cell? ⟨wr.heap.size, 1, none⟩ = some (.int .i64 flags) ∧ w'.cell? ⟨wr.heap.size, 2, none⟩ = some (.int .i64 seq) ∧ w'.cell? ⟨wr.heap.size, 3, none⟩ = some (.slice ua un uc) ∧ w'.cell? ⟨w.heap.size, 2, none⟩ = some (.int .i64 x.next) ∧ w'.cell? ⟨w.heap.size, 3, none⟩ = some (.int .i64 x.seq) ∧ w'.cell? ⟨w.heap.size, 4, none⟩ = some (.slice (some ⟨b, off, none⟩) x.mails.length c1)) (by kernel_rfl) (HF.out _ DR) (fun hHeld => (show wpAnyH _ _ _ _ _ 54 #[false, false, false, false, false, false, false, false, false, false, false, false, false, false, false, false, false, false, false, false, false, false, false, false, false, false, false, false, false, false, false, false, false, false, false, false, false, false, false, false, false, false, false, false, false, false, false, false, false, false, false, false, false, false] _ _ from ?_))
          refine tk 0 80 ?v422 ?h422 hHeld ?_; case h422 => (intro w s; (try dsimp only at s); go_simp <;> with_reducible rfl)
          conv => arg 8; simp only [Act.put, sA, s0, sS]
          refine tk 1 81 ?v423 ?h423 hHeld ?_; case h423 => (intro w s; (try dsimp only at s); go_simp <;> with_reducible rfl)
          conv => arg 8; simp only [Act.put, sA, s0, sS]
          refine tk 2 82 ?v424 ?h424 hHeld ?_; case h424 => (intro w s; (try dsimp only at s); go_simp <;> with_reducible rfl)
          conv => arg 8; simp only [Act.put, sA, s0, sS]
          refine tk 3 83 ?v425 ?h425 hHeld ?_; case h425 => (intro w s; (try dsimp only at s); go_simp <;> with_reducible rfl)
          conv => arg 8; simp only [Act.put, sA, s0, sS]
          refine tk 4 84 ?v426 ?h426 hHeld ?_; case h426 => (intro w s; (try dsimp only at s); go_simp <;> with_reducible rfl)
          conv => arg 8; simp only [Act.put, sA, s0, sS]
          refine tk 5 85 ?v427 ?h427 hHeld ?_; case h427 => (intro w s; (try dsimp only at s); go_simp <;> with_reducible rfl)
          conv => arg 8; simp only [Act.put, sA, s0, sS]
          refine tk 6 86 ?v428 ?h428 hHeld ?_; case h428 => (intro w s; (try dsimp only at s); go_simp <;> with_reducible rfl)
          conv => arg 8; simp only [Act.put, sA, s0, sS]
          refine tk 7 87 ?v429 ?h429 hHeld ?_; case h429 => (intro w s; (try dsimp only at s); go_simp <;> with_reducible rfl)
          conv => arg 8; simp only [Act.put, sA, s0, sS]
          refine tk 8 88 ?v430 ?h430 hHeld ?_; case h430 => (intro w s; (try dsimp only at s); go_simp <;> with_reducible rfl)
          conv => arg 8; simp only [Act.put, sA, s0, sS]
          refine tk 9 89 ?v431 ?h431 hHeld ?_; case h431 => (intro w s; (try dsimp only at s); go_simp <;> with_reducible rfl)
          conv => arg 8; simp only [Act.put, sA, s0, sS]
          refine tk 10 90 ?v432 ?h432 hHeld ?_; case h432 => (intro w s; (try dsimp only at s); go_simp <;> with_reducible rfl)
          conv => arg 8; simp only [Act.put, sA, s0, sS]
          refine tk 11 91 ?v433 ?h433 hHeld ?_; case h433 => (intro w s; (try dsimp only at s); go_simp <;> with_reducible rfl)
          conv => arg 8; simp only [Act.put, sA, s0, sS]
          refine tk 12 92 ?v434 ?h434 hHeld ?_; case h434 => (intro w s; (try dsimp only at s); go_simp <;> with_reducible rfl)
          conv => arg 8; simp only [Act.put, sA, s0, sS]
          refine tk 13 93 ?v435 ?h435 hHeld ?_; case h435 => (intro w s; (try dsimp only at s); go_simp <;> with_reducible rfl)
          conv => arg 8; simp only [Act.put, sA, s0, sS]
          refine wpAnyH_skips (by kernel_rfl) (fun _ _ _ _ _ h => h) hHeld [14, 15, 16, 17, 18, 19, 20, 21, 22, 23] [94, 95, 96, 97, 98, 99, 100, 101, 102, 103] _ _ _ (by kernel_rfl) ?_
          simp only [List.foldl_cons, List.foldl_nil, Act.put, sA, s0, sS]
          refine tk 24 104 ?v437 ?h437 hHeld ?_; case h437 => (intro w s; (try dsimp only at s); go_simp <;> with_reducible rfl)
          conv => arg 8; simp only [Act.put, sA, s0, sS]
          refine tk 25 105 ?v438 ?h438 hHeld ?_; case h438 => (intro w s; (try dsimp only at s); go_simp <;> with_reducible rfl)
          conv => arg 8; simp only [Act.put, sA, s0, sS]
          refine tk 26 106 ?v439 ?h439 hHeld ?_; case h439 => (intro w s; (try dsimp only at s); go_simp <;> with_reducible rfl)
          conv => arg 8; simp only [Act.put, sA, s0, sS]
          refine tk 27 107 ?v440 ?h440 hHeld ?_; case h440 => (intro w s; (try dsimp only at s); go_simp <;> with_reducible rfl)
          conv => arg 8; simp only [Act.put, sA, s0, sS]
          refine tk 28 108 ?v441 ?h441 hHeld ?_; case h441 => (intro w s; (try dsimp only at s); go_simp <;> with_reducible rfl)
          conv => arg 8; simp only [Act.put, sA, s0, sS]
          refine tk 29 109 ?v442 ?h442 hHeld ?_; case h442 => (intro w s; (try dsimp only at s); go_simp <;> with_reducible rfl)
          conv => arg 8; simp only [Act.put, sA, s0, sS]
          refine tk 30 110 ?v443 ?h443 hHeld ?_; case h443 => (intro w s; (try dsimp only at s); go_simp <;> with_reducible rfl)
          conv => arg 8; simp only [Act.put, sA, s0, sS]
          refine tk 31 111 ?v444 ?h444 hHeld ?_; case h444 => (intro w s; (try dsimp only at s); go_simp <;> with_reducible rfl)
          conv => arg 8; simp only [Act.put, sA, s0, sS]
          refine tk 32 112 ?v445 ?h445 hHeld ?_; case h445 => (intro w s; (try dsimp only at s); go_simp <;> with_reducible rfl)
          conv => arg 8; simp only [Act.put, sA, s0, sS]
          refine tk 33 113 ?v446 ?h446 hHeld ?_; case h446 => (intro w s; (try dsimp only at s); go_simp <;> with_reducible rfl)
          conv => arg 8; simp only [Act.put, sA, s0, sS]
          refine tk 34 114 ?v447 ?h447 hHeld ?_; case h447 => (intro w s; (try dsimp only at s); go_simp <;> with_reducible rfl)
          conv => arg 8; simp only [Act.put, sA, s0, sS]
          refine tk 35 115 ?v448 ?h448 hHeld ?_; case h448 => (intro w s; (try dsimp only at s); go_simp <;> with_reducible rfl)
          conv => arg 8; simp only [Act.put, sA, s0, sS]
          refine tk 36 116 ?v449 ?h449 hHeld ?_; case h449 => (intro w s; (try dsimp only at s); go_simp <;> with_reducible rfl)
          conv => arg 8; simp only [Act.put, sA, s0, sS]
          refine wpAnyH_skips (by kernel_rfl) (fun _ _ _ _ _ h => h) hHeld [37, 38, 39] [117, 118, 119] _ _ _ (by kernel_rfl) ?_
          simp only [List.foldl_cons, List.foldl_nil, Act.put, sA, s0, sS]
          refine tk 40 120 ?v451 ?h451 hHeld ?_; case h451 => (intro w s; (try dsimp only at s); go_simp <;> with_reducible rfl)
          conv => arg 8; simp only [Act.put, sA, s0, sS]
          refine tk 41 121 ?v452 ?h452 hHeld ?_; case h452 => (intro w s; (try dsimp only at s); go_simp <;> with_reducible rfl)
          conv => arg 8; simp only [Act.put, sA, s0, sS]
          refine wpAnyH_skips (by kernel_rfl) (fun _ _ _ _ _ h => h) hHeld [42, 43, 44, 45, 46] [122, 123, 124, 125, 126] _ _ _ (by kernel_rfl) ?_
          simp only [List.foldl_cons, List.foldl_nil, Act.put, sA, s0, sS]
          refine tk 47 127 ?v454 ?h454 hHeld ?_; case h454 => (intro w s; (try dsimp only at s); go_simp <;> with_reducible rfl)
          conv => arg 8; simp only [Act.put, sA, s0, sS]
          refine tk 48 128 ?v455 ?h455 hHeld ?_; case h455 => (intro w s; (try dsimp only at s); go_simp <;> with_reducible rfl)
          conv => arg 8; simp only [Act.put, sA, s0, sS]
          refine wpAnyH_skips (by kernel_rfl) (fun _ _ _ _ _ h => h) hHeld [49, 50, 51, 52] [129, 130, 131, 132] _ _ _ (by kernel_rfl) ?_
          simp only [List.foldl_cons, List.foldl_nil, Act.put, sA, s0, sS]
          refine tk 53 133 ?v457 ?h457 hHeld ?_; case h457 => (intro w s; (try dsimp only at s); go_simp <;> with_reducible rfl)
          conv => arg 8; simp only [Act.put, sA, s0, sS]
          refine wpAnyH_done (by kernel_rfl) ?_ _
          clear HF HKm HKb HA1 HT
          repeat clear hHeld
          go_wp2
          go_ret
          exact ⟨ret_b (HNM.out (rangeAll_no k hlt (HE.out.trans (mailNo hp.1 (.inr (.inr (.inr (.inr (.inl h5))))))))), Below.step HB1.out DR⟩
        have e114 : decide (31 < flags) = false := decide_eq_false h5
        by_cases h6 : seq < 1
        · have e119 : decide (seq < 1) = true := decide_eq_true h6
          go_wp2
          refine wp_region_held_drew (S := fun w' => w'.cell? ⟨wr.heap.size, 0, none⟩ = some (.int .i64 uid) ∧ w'.cell? ⟨wr.heap.size, 1, none⟩ = some (.int .i64 flags) ∧ w'.cell? ⟨wr.heap.size, 2, none⟩ = some (.int .i64 seq) ∧ w'.cell? ⟨wr.heap.size, 3, none⟩ = some (.slice ua un uc) ∧ w'.cell? ⟨w.heap.size, 2, none⟩ = some (.int .i64 x.next) ∧ w'.cell? ⟨w.heap.size, 3, none⟩ = some (.int .i64 x.seq) ∧ w'.cell? ⟨w.heap.size, 4, none⟩ = some (.slice (some ⟨b, off, none⟩) x.mails.length c1)) (by kernel_rfl) (HF.out _ DR) (fun hHeld => (show wpAnyH _ _ _ _ _ 54 #[false, false, false, false, false, false, false, false, false, false, false, false, false, false, false, false, false, false, false, false, false, false, false, false, false, false, false, false, false, false, false, false, false, false, false, false, false, false, false, false, false, false, false, false, false, false, false, false, false, false, false, false, false, false] _ _ from ?_))
          refine tk 0 80 ?v458 ?h458 hHeld ?_; case h458 => (intro w s; (try dsimp only at s); go_simp <;> with_reducible rfl)
          conv => arg 8; simp only [Act.put, sA, s0, sS]
          refine tk 1 81 ?v459 ?h459 hHeld ?_; case h459 => (intro w s; (try dsimp only at s); go_simp <;> with_reducible rfl)
          conv => arg 8; simp only [Act.put, sA, s0, sS]
          refine tk 2 82 ?v460 ?h460 hHeld ?_; case h460 => (intro w s; (try dsimp only at s); go_simp <;> with_reducible rfl)
          conv => arg 8; simp only [Act.put, sA, s0, sS]
          refine tk 3 83 ?v461 ?h461 hHeld ?_; case h461 => (intro w s; (try dsimp only at s); go_simp <;> with_reducible rfl)
          conv => arg 8; simp only [Act.put, sA, s0, sS]
          refine tk 4 84 ?v462 ?h462 hHeld ?_; case h462 => (intro w s; (try dsimp only at s); go_simp <;> with_reducible rfl)
          conv => arg 8; simp only [Act.put, sA, s0, sS]
          refine tk 5 85 ?v463 ?h463 hHeld ?_; case h463 => (intro w s; (try dsimp only at s); go_simp <;> with_reducible rfl)
          conv => arg 8; simp only [Act.put, sA, s0, sS]
          refine tk 6 86 ?v464 ?h464 hHeld ?_; case h464 => (intro w s; (try dsimp only at s); go_simp <;> with_reducible rfl)
          conv => arg 8; simp only [Act.put, sA, s0, sS]
          refine tk 7 87 ?v465 ?h465 hHeld ?_; case h465 => (intro w s; (try dsimp only at s); go_simp <;> with_reducible rfl)
          conv => arg 8; simp only [Act.put, sA, s0, sS]
          refine tk 8 88 ?v466 ?h466 hHeld ?_; case h466 => (intro w s; (try dsimp only at s); go_simp <;> with_reducible rfl)
          conv => arg 8; simp only [Act.put, sA, s0, sS]
          refine tk 9 89 ?v467 ?h467 hHeld ?_; case h467 => (intro w s; (try dsimp only at s); go_simp <;> with_reducible rfl)
          conv => arg 8; simp only [Act.put, sA, s0, sS]
          refine tk 10 90 ?v468 ?h468 hHeld ?_; case h468 => (intro w s; (try dsimp only at s); go_simp <;> with_reducible rfl)
          conv => arg 8; simp only [Act.put, sA, s0, sS]
          refine tk 11 91 ?v469 ?h469 hHeld ?_; case h469 => (intro w s; (try dsimp only at s); go_simp <;> with_reducible rfl)
          conv => arg 8; simp only [Act.put, sA, s0, sS]
          refine tk 12 92 ?v470 ?h470 hHeld ?_; case h470 => (intro w s; (try dsimp only at s); go_simp <;> with_reducible rfl)
          conv => arg 8; simp only [Act.put, sA, s0, sS]
          refine tk 13 93 ?v471 ?h471 hHeld ?_; case h471 => (intro w s; (try dsimp only at s); go_simp <;> with_reducible rfl)
          conv => arg 8; simp only [Act.put, sA, s0, sS]
          refine wpAnyH_skips (by kernel_rfl) (fun _ _ _ _ _ h => h) hHeld [14, 15, 16, 17, 18, 19, 20, 21, 22, 23] [94, 95, 96, 97, 98, 99, 100, 101, 102, 103] _ _ _ (by kernel_rfl) ?_
          simp only [List.foldl_cons, List.foldl_nil, Act.put, sA, s0, sS]
          refine tk 24 104 ?v473 ?h473 hHeld ?_; case h473 => (intro w s; (try dsimp only at s); go_simp <;> with_reducible rfl)
          conv => arg 8; simp only [Act.put, sA, s0, sS]
          refine tk 25 105 ?v474 ?h474 hHeld ?_; case h474 => (intro w s; (try dsimp only at s); go_simp <;> with_reducible rfl)
          conv => arg 8; simp only [Act.put, sA, s0, sS]
          refine tk 26 106 ?v475 ?h475 hHeld ?_; case h475 => (intro w s; (try dsimp only at s); go_simp <;> with_reducible rfl)
          conv => arg 8; simp only [Act.put, sA, s0, sS]
          refine tk 27 107 ?v476 ?h476 hHeld ?_; case h476 => (intro w s; (try dsimp only at s); go_simp <;> with_reducible rfl)
          conv => arg 8; simp only [Act.put, sA, s0, sS]
          refine tk 28 108 ?v477 ?h477 hHeld ?_; case h477 => (intro w s; (try dsimp only at s); go_simp <;> with_reducible rfl)
          conv => arg 8; simp only [Act.put, sA, s0, sS]
          refine tk 29 109 ?v478 ?h478 hHeld ?_; case h478 => (intro w s; (try dsimp only at s); go_simp <;> with_reducible rfl)
          conv => arg 8; simp only [Act.put, sA, s0, sS]
          refine tk 30 110 ?v479 ?h479 hHeld ?_; case h479 => (intro w s; (try dsimp only at s); go_simp <;> with_reducible rfl)
          conv => arg 8; simp only [Act.put, sA, s0, sS]
          refine tk 31 111 ?v480 ?h480 hHeld ?_; case h480 => (intro w s; (try dsimp only at s); go_simp <;> with_reducible rfl)
          conv => arg 8; simp only [Act.put, sA, s0, sS]
          refine tk 32 112 ?v481 ?h481 hHeld ?_; case h481 => (intro w s; (try dsimp only at s); go_simp <;> with_reducible rfl)
          conv => arg 8; simp only [Act.put, sA, s0, sS]
          refine tk 33 113 ?v482 ?h482 hHeld ?_; case h482 => (intro w s; (try dsimp only at s); go_simp <;> with_reducible rfl)
          conv => arg 8; simp only [Act.put, sA, s0, sS]
          refine tk 34 114 ?v483 ?h483 hHeld ?_; case h483 => (intro w s; (try dsimp only at s); go_simp <;> with_reducible rfl)
          conv => arg 8; simp only [Act.put, sA, s0, sS]
          refine tk 35 115 ?v484 ?h484 hHeld ?_; case h484 => (intro w s; (try dsimp only at s); go_simp <;> with_reducible rfl)
          conv => arg 8; simp only [Act.put, sA, s0, sS]
          refine tk 36 116 ?v485 ?h485 hHeld ?_; case h485 => (intro w s; (try dsimp only at s); go_simp <;> with_reducible rfl)
          conv => arg 8; simp only [Act.put, sA, s0, sS]
          refine tk 37 117 ?v486 ?h486 hHeld ?_; case h486 => (intro w s; (try dsimp only at s); go_simp <;> with_reducible rfl)
          conv => arg 8; simp only [Act.put, sA, s0, sS]
          refine tk 38 118 ?v487 ?h487 hHeld ?_; case h487 => (intro w s; (try dsimp only at s); go_simp <;> with_reducible rfl)
          conv => arg 8; simp only [Act.put, sA, s0, sS]
          refine tk 39 119 ?v488 ?h488 hHeld ?_; case h488 => (intro w s; (try dsimp only at s); go_simp <;> with_reducible rfl)
          conv => arg 8; simp only [Act.put, sA, s0, sS]
          refine tk 40 120 ?v489 ?h489 hHeld ?_; case h489 => (intro w s; (try dsimp only at s); go_simp <;> with_reducible rfl)
          conv => arg 8; simp only [Act.put, sA, s0, sS]
          refine tk 41 121 ?v490 ?h490 hHeld ?_; case h490 => (intro w s; (try dsimp only at s); go_simp <;> with_reducible rfl)
          conv => arg 8; simp only [Act.put, sA, s0, sS]
          refine wpAnyH_skips (by kernel_rfl) (fun _ _ _ _ _ h => h) hHeld [42, 43, 44, 45, 46] [122, 123, 124, 125, 126] _ _ _ (by kernel_rfl) ?_
          simp only [List.foldl_cons, List.foldl_nil, Act.put, sA, s0, sS]
          refine tk 47 127 ?v492 ?h492 hHeld ?_; case h492 => (intro w s; (try dsimp only at s); go_simp <;> with_reducible rfl)
          conv => arg 8; simp only [Act.put, sA, s0, sS]
          refine tk 48 128 ?v493 ?h493 hHeld ?_; case h493 => (intro w s; (try dsimp only at s); go_simp <;> with_reducible rfl)
          conv => arg 8; simp only [Act.put, sA, s0, sS]
          refine wpAnyH_skips (by kernel_rfl) (fun _ _ _ _ _ h => h) hHeld [49, 50, 51, 52] [129, 130, 131, 132] _ _ _ (by kernel_rfl) ?_
          simp only [List.foldl_cons, List.foldl_nil, Act.put, sA, s0, sS]
          refine tk 53 133 ?v495 ?h495 hHeld ?_; case h495 => (intro w s; (try dsimp only at s); go_simp <;> with_reducible rfl)
          conv => arg 8; simp only [Act.put, sA, s0, sS]
          refine wpAnyH_done (by kernel_rfl) ?_ _
          clear HF HKm HKb HA1 HT
          repeat clear hHeld
          go_wp2
          go_ret
          exact ⟨ret_b (HNM.out (rangeAll_no k hlt (HE.out.trans (mailNo hp.1 (.inr (.inr (.inr (.inr (.inr (.inl h6)))))))))), Below.step HB1.out DR⟩
        have e119 : decide (seq < 1) = false := decide_eq_false h6
        by_cases h7 : x.seq < seq
        · have e126 : decide (x.seq < seq) = true := decide_eq_true h7
          go_wp2
          refine wp_region_held_drew (S := fun w' => w'.cell? ⟨wr.heap.size, 0, none⟩ = some (.int .i64 uid) ∧ w'.cell? ⟨wr.heap.size, 1, none⟩ = some (.int .i64 flags) ∧ w'.cell? ⟨wr.heap.size, 2, none⟩ = some (.int .i64 seq) ∧ w'.cell? ⟨wr.heap.size, 3, none⟩ = some (.slice ua un uc) ∧ w'.cell? ⟨w.heap.size, 2, none⟩ = some (.int .i64 x.next) ∧ w'.cell? ⟨w.heap.size, 3, none⟩ = some (.int .i64 x.seq) ∧ w'.cell? ⟨w.heap.size, 4, none⟩ = some (.slice (some ⟨b, off, none⟩) x.mails.length c1)) (by kernel_rfl) (HF.out _ DR) (fun hHeld => (show wpAnyH _ _ _ _ _ 54 #[false, false, false, false, false, false, false, false, false, false, false, false, false, false, false, false, false, false, false, false, false, false, false, false, false, false, false, false, false, false, false, false, false, false, false, false, false, false, false, false, false, false, false, false, false, false, false, false, false, false, false, false, false, false] _ _ from ?_))
          refine tk 0 80 ?v496 ?h496 hHeld ?_; case h496 => (intro w s; (try dsimp only at s); go_simp <;> with_reducible rfl)
          conv => arg 8; simp only [Act.put, sA, s0, sS]
          refine tk 1 81 ?v497 ?h497 hHeld ?_; case h497 => (intro w s; (try dsimp only at s); go_simp <;> with_reducible rfl)
          conv => arg 8; simp only [Act.put, sA, s0, sS]
          refine tk 2 82 ?v498 ?h498 hHeld ?_; case h498 => (intro w s; (try dsimp only at s); go_simp <;> with_reducible rfl)
          conv => arg 8; simp only [Act.put, sA, s0, sS]
          refine tk 3 83 ?v499 ?h499 hHeld ?_; case h499 => (intro w s; (try dsimp only at s); go_simp <;> with_reducible rfl)
          conv => arg 8; simp only [Act.put, sA, s0, sS]
          refine tk 4 84 ?v500 ?h500 hHeld ?_; case h500 => (intro w s; (try dsimp only at s); go_simp <;> with_reducible rfl)
          conv => arg 8; simp only [Act.put, sA, s0, sS]
          refine tk 5 85 ?v501 ?h501 hHeld ?_; case h501 => (intro w s; (try dsimp only at s); go_simp <;> with_reducible rfl)
          conv => arg 8; simp only [Act.put, sA, s0, sS]
          refine tk 6 86 ?v502 ?h502 hHeld ?_; case h502 => (intro w s; (try dsimp only at s); go_simp <;> with_reducible rfl)
          conv => arg 8; simp only [Act.put, sA, s0, sS]
          refine tk 7 87 ?v503 ?h503 hHeld ?_; case h503 => (intro w s; (try dsimp only at s); go_simp <;> with_reducible rfl)
          conv => arg 8; simp only [Act.put, sA, s0, sS]
          refine tk 8 88 ?v504 ?h504 hHeld ?_; case h504 => (intro w s; (try dsimp only at s); go_simp <;> with_reducible rfl)
          conv => arg 8; simp only [Act.put, sA, s0, sS]
          refine tk 9 89 ?v505 ?h505 hHeld ?_; case h505 => (intro w s; (try dsimp only at s); go_simp <;> with_reducible rfl)
          conv => arg 8; simp only [Act.put, sA, s0, sS]
          refine tk 10 90 ?v506 ?h506 hHeld ?_; case h506 => (intro w s; (try dsimp only at s); go_simp <;> with_reducible rfl)
          conv => arg 8; simp only [Act.put, sA, s0, sS]
          refine tk 11 91 ?v507 ?h507 hHeld ?_; case h507 => (intro w s; (try dsimp only at s); go_simp <;> with_reducible rfl)
          conv => arg 8; simp only [Act.put, sA, s0, sS]
          refine tk 12 92 ?v508 ?h508 hHeld ?_; case h508 => (intro w s; (try dsimp only at s); go_simp <;> with_reducible rfl)
          conv => arg 8; simp only [Act.put, sA, s0, sS]
          refine tk 13 93 ?v509 ?h509 hHeld ?_; case h509 => (intro w s; (try dsimp only at s); go_simp <;> with_reducible rfl)
          conv => arg 8; simp only [Act.put, sA, s0, sS]
          refine wpAnyH_skips (by kernel_rfl) (fun _ _ _ _ _ h => h) hHeld [14, 15, 16, 17, 18, 19, 20, 21, 22, 23] [94, 95, 96, 97, 98, 99, 100, 101, 102, 103] _ _ _ (by kernel_rfl) ?_
          simp only [List.foldl_cons, List.foldl_nil, Act.put, sA, s0, sS]
          refine tk 24 104 ?v511 ?h511 hHeld ?_; case h511 => (intro w s; (try dsimp only at s); go_simp <;> with_reducible rfl)
          conv => arg 8; simp only [Act.put, sA, s0, sS]
          refine tk 25 105 ?v512 ?h512 hHeld ?_; case h512 => (intro w s; (try dsimp only at s); go_simp <;> with_reducible rfl)
          conv => arg 8; simp only [Act.put, sA, s0, sS]
          refine tk 26 106 ?v513 ?h513 hHeld ?_; case h513 => (intro w s; (try dsimp only at s); go_simp <;> with_reducible rfl)
          conv => arg 8; simp only [Act.put, sA, s0, sS]
          refine tk 27 107 ?v514 ?h514 hHeld ?_; case h514 => (intro w s; (try dsimp only at s); go_simp <;> with_reducible rfl)
          conv => arg 8; simp only [Act.put, sA, s0, sS]
          refine tk 28 108 ?v515 ?h515 hHeld ?_; case h515 => (intro w s; (try dsimp only at s); go_simp <;> with_reducible rfl)
          conv => arg 8; simp only [Act.put, sA, s0, sS]
          refine tk 29 109 ?v516 ?h516 hHeld ?_; case h516 => (intro w s; (try dsimp only at s); go_simp <;> with_reducible rfl)
          conv => arg 8; simp only [Act.put, sA, s0, sS]
          refine tk 30 110 ?v517 ?h517 hHeld ?_; case h517 => (intro w s; (try dsimp only at s); go_simp <;> with_reducible rfl)
          conv => arg 8; simp only [Act.put, sA, s0, sS]
          refine tk 31 111 ?v518 ?h518 hHeld ?_; case h518 => (intro w s; (try dsimp only at s); go_simp <;> with_reducible rfl)
          conv => arg 8; simp only [Act.put, sA, s0, sS]
          refine tk 32 112 ?v519 ?h519 hHeld ?_; case h519 => (intro w s; (try dsimp only at s); go_simp <;> with_reducible rfl)
          conv => arg 8; simp only [Act.put, sA, s0, sS]
          refine tk 33 113 ?v520 ?h520 hHeld ?_; case h520 => (intro w s; (try dsimp only at s); go_simp <;> with_reducible rfl)
          conv => arg 8; simp only [Act.put, sA, s0, sS]
          refine tk 34 114 ?v521 ?h521 hHeld ?_; case h521 => (intro w s; (try dsimp only at s); go_simp <;> with_reducible rfl)
          conv => arg 8; simp only [Act.put, sA, s0, sS]
          refine tk 35 115 ?v522 ?h522 hHeld ?_; case h522 => (intro w s; (try dsimp only at s); go_simp <;> with_reducible rfl)
          conv => arg 8; simp only [Act.put, sA, s0, sS]
          refine tk 36 116 ?v523 ?h523 hHeld ?_; case h523 => (intro w s; (try dsimp only at s); go_simp <;> with_reducible rfl)
          conv => arg 8; simp only [Act.put, sA, s0, sS]
          refine tk 37 117 ?v524 ?h524 hHeld ?_; case h524 => (intro w s; (try dsimp only at s); go_simp <;> with_reducible rfl)
          conv => arg 8; simp only [Act.put, sA, s0, sS]
          refine tk 38 118 ?v525 ?h525 hHeld ?_; case h525 => (intro w s; (try dsimp only at s); go_simp <;> with_reducible rfl)
          conv => arg 8; simp only [Act.put, sA, s0, sS]
          refine tk 39 119 ?v526 ?h526 hHeld ?_; case h526 => (intro w s; (try dsimp only at s); go_simp <;> with_reducible rfl)
          conv => arg 8; simp only [Act.put, sA, s0, sS]
          refine tk 40 120 ?v527 ?h527 hHeld ?_; case h527 => (intro w s; (try dsimp only at s); go_simp <;> with_reducible rfl)
          conv => arg 8; simp only [Act.put, sA, s0, sS]
          refine tk 41 121 ?v528 ?h528 hHeld ?_; case h528 => (intro w s; (try dsimp only at s); go_simp <;> with_reducible rfl)
          conv => arg 8; simp only [Act.put, sA, s0, sS]
          refine tk 42 122 ?v529 ?h529 hHeld ?_; case h529 => (intro w s; (try dsimp only at s); go_simp <;> with_reducible rfl)
          conv => arg 8; simp only [Act.put, sA, s0, sS]
          refine tk 43 123 ?v530 ?h530 hHeld ?_; case h530 => (intro w s; (try dsimp only at s); go_simp <;> with_reducible rfl)
          conv => arg 8; simp only [Act.put, sA, s0, sS]
          refine tk 44 124 ?v531 ?h531 hHeld ?_; case h531 => (intro w s; (try dsimp only at s); go_simp <;> with_reducible rfl)
          conv => arg 8; simp only [Act.put, sA, s0, sS]
          refine tk 45 125 ?v532 ?h532 hHeld ?_; case h532 => (intro w s; (try dsimp only at s); go_simp <;> with_reducible rfl)
          conv => arg 8; simp only [Act.put, sA, s0, sS]
          refine tk 46 126 ?v533 ?h533 hHeld ?_; case h533 => (intro w s; (try dsimp only at s); go_simp <;> with_reducible rfl)
          conv => arg 8; simp only [Act.put, sA, s0, sS]
          refine tk 47 127 ?v534 ?h534 hHeld ?_; case h534 => (intro w s; (try dsimp only at s); go_simp <;> with_reducible rfl)
          conv => arg 8; simp only [Act.put, sA, s0, sS]
          refine tk 48 128 ?v535 ?h535 hHeld ?_; case h535 => (intro w s; (try dsimp only at s); go_simp <;> with_reducible rfl)
          conv => arg 8; simp only [Act.put, sA, s0, sS]
          refine wpAnyH_skips (by kernel_rfl) (fun _ _ _ _ _ h => h) hHeld [49, 50, 51, 52] [129, 130, 131, 132] _ _ _ (by kernel_rfl) ?_
          simp only [List.foldl_cons, List.foldl_nil, Act.put, sA, s0, sS]
          refine tk 53 133 ?v537 ?h537 hHeld ?_; case h537 => (intro w s; (try dsimp only at s); go_simp <;> with_reducible rfl)
          conv => arg 8; simp only [Act.put, sA, s0, sS]
          refine wpAnyH_done (by kernel_rfl) ?_ _
          clear HF HKm HKb HA1 HT
          repeat clear hHeld
          go_wp2
          go_ret
          exact ⟨ret_b (HNM.out (rangeAll_no k hlt (HE.out.trans (mailNo hp.1 (.inr (.inr (.inr (.inr (.inr (.inr (.inl h7))))))))))), Below.step HB1.out DR⟩
        have e126 : decide (x.seq < seq) = false := decide_eq_false h7
        cases XT with
        | false =>
          go_wp2
          refine wp_region_held_drew (S := fun w' => w'.cell? ⟨wr.heap.size, 0, none⟩ = some (.int .i64 uid) ∧ w'.cell? ⟨wr.heap.size, 1, none⟩ = some (.int .i64 flags) ∧ w'.cell? ⟨wr.heap.size, 2, none⟩ = some (.int .i64 seq) ∧ w'.cell? ⟨wr.heap.size, 3, none⟩ = some (.slice ua un uc) ∧ w'.cell? ⟨w.heap.size, 2, none⟩ = some (.int .i64 x.next) ∧ w'.cell? ⟨w.heap.size, 3, none⟩ = some (.int .i64 x.seq) ∧ w'.cell? ⟨w.heap.size, 4, none⟩ = some (.slice (some ⟨b, off, none⟩) x.mails.length c1)) (by kernel_rfl) (HF.out _ DR) (fun hHeld => (show wpAnyH _ _ _ _ _ 54 #[false, false, false, false, false, false, false, false, false, false, false, false, false, false, false, false, false, false, false, false, false, false, false, false, false, false, false, false, false, false, false, false, false, false, false, false, false, false, false, false, false, false, false, false, false, false, false, false, false, false, false, false, false, false] _ _ from ?_))
          refine tk 0 80 ?v538 ?h538 hHeld ?_; case h538 => (intro w s; (try dsimp only at s); go_simp <;> with_reducible rfl)
          conv => arg 8; simp only [Act.put, sA, s0, sS]
          refine tk 1 81 ?v539 ?h539 hHeld ?_; case h539 => (intro w s; (try dsimp only at s); go_simp <;> with_reducible rfl)
          conv => arg 8; simp only [Act.put, sA, s0, sS]
          refine tk 2 82 ?v540 ?h540 hHeld ?_; case h540 => (intro w s; (try dsimp only at s); go_simp <;> with_reducible rfl)
          conv => arg 8; simp only [Act.put, sA, s0, sS]
          refine tk 3 83 ?v541 ?h541 hHeld ?_; case h541 => (intro w s; (try dsimp only at s); go_simp <;> with_reducible rfl)
          conv => arg 8; simp only [Act.put, sA, s0, sS]
          refine tk 4 84 ?v542 ?h542 hHeld ?_; case h542 => (intro w s; (try dsimp only at s); go_simp <;> with_reducible rfl)
          conv => arg 8; simp only [Act.put, sA, s0, sS]
          refine tk 5 85 ?v543 ?h543 hHeld ?_; case h543 => (intro w s; (try dsimp only at s); go_simp <;> with_reducible rfl)
          conv => arg 8; simp only [Act.put, sA, s0, sS]
          refine tk 6 86 ?v544 ?h544 hHeld ?_; case h544 => (intro w s; (try dsimp only at s); go_simp <;> with_reducible rfl)
          conv => arg 8; simp only [Act.put, sA, s0, sS]
          refine tk 7 87 ?v545 ?h545 hHeld ?_; case h545 => (intro w s; (try dsimp only at s); go_simp <;> with_reducible rfl)
          conv => arg 8; simp only [Act.put, sA, s0, sS]
          refine tk 8 88 ?v546 ?h546 hHeld ?_; case h546 => (intro w s; (try dsimp only at s); go_simp <;> with_reducible rfl)
          conv => arg 8; simp only [Act.put, sA, s0, sS]
          refine tk 9 89 ?v547 ?h547 hHeld ?_; case h547 => (intro w s; (try dsimp only at s); go_simp <;> with_reducible rfl)
          conv => arg 8; simp only [Act.put, sA, s0, sS]
          refine tk 10 90 ?v548 ?h548 hHeld ?_; case h548 => (intro w s; (try dsimp only at s); go_simp <;> with_reducible rfl)
          conv => arg 8; simp only [Act.put, sA, s0, sS]
          refine tk 11 91 ?v549 ?h549 hHeld ?_; case h549 => (intro w s; (try dsimp only at s); go_simp <;> with_reducible rfl)
          conv => arg 8; simp only [Act.put, sA, s0, sS]
          refine tk 12 92 ?v550 ?h550 hHeld ?_; case h550 => (intro w s; (try dsimp only at s); go_simp <;> with_reducible rfl)
          conv => arg 8; simp only [Act.put, sA, s0, sS]
          refine tk 13 93 ?v551 ?h551 hHeld ?_; case h551 => (intro w s; (try dsimp only at s); go_simp <;> with_reducible rfl)
          conv => arg 8; simp only [Act.put, sA, s0, sS]
          refine wpAnyH_skips (by kernel_rfl) (fun _ _ _ _ _ h => h) hHeld [14, 15, 16, 17, 18, 19, 20, 21, 22, 23] [94, 95, 96, 97, 98, 99, 100, 101, 102, 103] _ _ _ (by kernel_rfl) ?_
          simp only [List.foldl_cons, List.foldl_nil, Act.put, sA, s0, sS]
          refine tk 24 104 ?v553 ?h553 hHeld ?_; case h553 => (intro w s; (try dsimp only at s); go_simp <;> with_reducible rfl)
          conv => arg 8; simp only [Act.put, sA, s0, sS]
          refine tk 25 105 ?v554 ?h554 hHeld ?_; case h554 => (intro w s; (try dsimp only at s); go_simp <;> with_reducible rfl)
          conv => arg 8; simp only [Act.put, sA, s0, sS]
          refine tk 26 106 ?v555 ?h555 hHeld ?_; case h555 => (intro w s; (try dsimp only at s); go_simp <;> with_reducible rfl)
          conv => arg 8; simp only [Act.put, sA, s0, sS]
          refine tk 27 107 ?v556 ?h556 hHeld ?_; case h556 => (intro w s; (try dsimp only at s); go_simp <;> with_reducible rfl)
          conv => arg 8; simp only [Act.put, sA, s0, sS]
          refine tk 28 108 ?v557 ?h557 hHeld ?_; case h557 => (intro w s; (try dsimp only at s); go_simp <;> with_reducible rfl)
          conv => arg 8; simp only [Act.put, sA, s0, sS]
          refine tk 29 109 ?v558 ?h558 hHeld ?_; case h558 => (intro w s; (try dsimp only at s); go_simp <;> with_reducible rfl)
          conv => arg 8; simp only [Act.put, sA, s0, sS]
          refine tk 30 110 ?v559 ?h559 hHeld ?_; case h559 => (intro w s; (try dsimp only at s); go_simp <;> with_reducible rfl)
          conv => arg 8; simp only [Act.put, sA, s0, sS]
          refine tk 31 111 ?v560 ?h560 hHeld ?_; case h560 => (intro w s; (try dsimp only at s); go_simp <;> with_reducible rfl)
          conv => arg 8; simp only [Act.put, sA, s0, sS]
          refine tk 32 112 ?v561 ?h561 hHeld ?_; case h561 => (intro w s; (try dsimp only at s); go_simp <;> with_reducible rfl)
          conv => arg 8; simp only [Act.put, sA, s0, sS]
          refine tk 33 113 ?v562 ?h562 hHeld ?_; case h562 => (intro w s; (try dsimp only at s); go_simp <;> with_reducible rfl)
          conv => arg 8; simp only [Act.put, sA, s0, sS]
          refine tk 34 114 ?v563 ?h563 hHeld ?_; case h563 => (intro w s; (try dsimp only at s); go_simp <;> with_reducible rfl)
          conv => arg 8; simp only [Act.put, sA, s0, sS]
          refine tk 35 115 ?v564 ?h564 hHeld ?_; case h564 => (intro w s; (try dsimp only at s); go_simp <;> with_reducible rfl)
          conv => arg 8; simp only [Act.put, sA, s0, sS]
          refine tk 36 116 ?v565 ?h565 hHeld ?_; case h565 => (intro w s; (try dsimp only at s); go_simp <;> with_reducible rfl)
          conv => arg 8; simp only [Act.put, sA, s0, sS]
          refine tk 37 117 ?v566 ?h566 hHeld ?_; case h566 => (intro w s; (try dsimp only at s); go_simp <;> with_reducible rfl)
          conv => arg 8; simp only [Act.put, sA, s0, sS]
          refine tk 38 118 ?v567 ?h567 hHeld ?_; case h567 => (intro w s; (try dsimp only at s); go_simp <;> with_reducible rfl)
          conv => arg 8; simp only [Act.put, sA, s0, sS]
          refine tk 39 119 ?v568 ?h568 hHeld ?_; case h568 => (intro w s; (try dsimp only at s); go_simp <;> with_reducible rfl)
          conv => arg 8; simp only [Act.put, sA, s0, sS]
          refine tk 40 120 ?v569 ?h569 hHeld ?_; case h569 => (intro w s; (try dsimp only at s); go_simp <;> with_reducible rfl)
          conv => arg 8; simp only [Act.put, sA, s0, sS]
          refine tk 41 121 ?v570 ?h570 hHeld ?_; case h570 => (intro w s; (try dsimp only at s); go_simp <;> with_reducible rfl)
          conv => arg 8; simp only [Act.put, sA, s0, sS]
          refine tk 42 122 ?v571 ?h571 hHeld ?_; case h571 => (intro w s; (try dsimp only at s); go_simp <;> with_reducible rfl)
          conv => arg 8; simp only [Act.put, sA, s0, sS]
          refine tk 43 123 ?v572 ?h572 hHeld ?_; case h572 => (intro w s; (try dsimp only at s); go_simp <;> with_reducible rfl)
          conv => arg 8; simp only [Act.put, sA, s0, sS]
          refine tk 44 124 ?v573 ?h573 hHeld ?_; case h573 => (intro w s; (try dsimp only at s); go_simp <;> with_reducible rfl)
          conv => arg 8; simp only [Act.put, sA, s0, sS]
          refine tk 45 125 ?v574 ?h574 hHeld ?_; case h574 => (intro w s; (try dsimp only at s); go_simp <;> with_reducible rfl)
          conv => arg 8; simp only [Act.put, sA, s0, sS]
          refine tk 46 126 ?v575 ?h575 hHeld ?_; case h575 => (intro w s; (try dsimp only at s); go_simp <;> with_reducible rfl)
          conv => arg 8; simp only [Act.put, sA, s0, sS]
          refine tk 47 127 ?v576 ?h576 hHeld ?_; case h576 => (intro w s; (try dsimp only at s); go_simp <;> with_reducible rfl)
          conv => arg 8; simp only [Act.put, sA, s0, sS]
          refine tk 48 128 ?v577 ?h577 hHeld ?_; case h577 => (intro w s; (try dsimp only at s); go_simp <;> with_reducible rfl)
          conv => arg 8; simp only [Act.put, sA, s0, sS]
          refine tk 49 129 ?v578 ?h578 hHeld ?_; case h578 => (intro w s; (try dsimp only at s); go_simp <;> with_reducible rfl)
          conv => arg 8; simp only [Act.put, sA, s0, sS]
          refine tk 50 130 ?v579 ?h579 hHeld ?_; case h579 => (intro w s; (try dsimp only at s); go_simp <;> with_reducible rfl)
          conv => arg 8; simp only [Act.put, sA, s0, sS]
          refine wpAnyH_ready (rs := [51]) (by kernel_rfl) (by simp) ?_
          refine AllReadyH.cons rfl (fun K hK => ?_) AllReadyH.nil
          go_simp
          refine HT.out.mono ?_
          rintro e w2 ⟨rfl, rfl⟩
          refine hK.out _ _ (HF.out _ DR) (fun hHeld => ?_)
          clear hK K
          refine tk 52 132 ?v581 ?h581 hHeld ?_; case h581 => (intro w s; (try dsimp only at s); go_simp <;> with_reducible rfl)
          conv => arg 8; simp only [Act.put, sA, s0, sS]
          refine tk 53 133 ?v582 ?h582 hHeld ?_; case h582 => (intro w s; (try dsimp only at s); go_simp <;> with_reducible rfl)
          conv => arg 8; simp only [Act.put, sA, s0, sS]
          refine wpAnyH_done (by kernel_rfl) ?_ _
          clear HF HKm HKb HA1 HT
          repeat clear hHeld
          go_wp2
          go_ret
          exact ⟨ret_b (HNM.out (rangeAll_no k hlt (HE.out.trans (mailNo hp.1 (.inr (.inr (.inr (.inr (.inr (.inr (.inr rfl))))))))))), Below.step HB1.out DR⟩
        | true =>
          go_wp2
          refine wp_region_held_drew (S := fun w' => w'.cell? ⟨wr.heap.size, 0, none⟩ = some (.int .i64 uid) ∧ w'.cell? ⟨wr.heap.size, 1, none⟩ = some (.int .i64 flags) ∧ w'.cell? ⟨wr.heap.size, 2, none⟩ = some (.int .i64 seq) ∧ w'.cell? ⟨wr.heap.size, 3, none⟩ = some (.slice ua un uc) ∧ w'.cell? ⟨w.heap.size, 2, none⟩ = some (.int .i64 x.next) ∧ w'.cell? ⟨w.heap.size, 3, none⟩ = some (.int .i64 x.seq) ∧ w'.cell? ⟨w.heap.size, 4, none⟩ = some (.slice (some ⟨b, off, none⟩) x.mails.length c1)) (by kernel_rfl) (HF.out _ DR) (fun hHeld => (show wpAnyH _ _ _ _ _ 54 #[false, false, false, false, false, false, false, false, false, false, false, false, false, false, false, false, false, false, false, false, false, false, false, false, false, false, false, false, false, false, false, false, false, false, false, false, false, false, false, false, false, false, false, false, false, false, false, false, false, false, false, false, false, false] _ _ from ?_))
          refine tk 0 80 ?v583 ?h583 hHeld ?_; case h583 => (intro w s; (try dsimp only at s); go_simp <;> with_reducible rfl)
          conv => arg 8; simp only [Act.put, sA, s0, sS]
          refine tk 1 81 ?v584 ?h584 hHeld ?_; case h584 => (intro w s; (try dsimp only at s); go_simp <;> with_reducible rfl)
          conv => arg 8; simp only [Act.put, sA, s0, sS]
          refine tk 2 82 ?v585 ?h585 hHeld ?_; case h585 => (intro w s; (try dsimp only at s); go_simp <;> with_reducible rfl)
          conv => arg 8; simp only [Act.put, sA, s0, sS]
          refine tk 3 83 ?v586 ?h586 hHeld ?_; case h586 => (intro w s; (try dsimp only at s); go_simp <;> with_reducible rfl)
          conv => arg 8; simp only [Act.put, sA, s0, sS]
          refine tk 4 84 ?v587 ?h587 hHeld ?_; case h587 => (intro w s; (try dsimp only at s); go_simp <;> with_reducible rfl)
          conv => arg 8; simp only [Act.put, sA, s0, sS]
          refine tk 5 85 ?v588 ?h588 hHeld ?_; case h588 => (intro w s; (try dsimp only at s); go_simp <;> with_reducible rfl)
          conv => arg 8; simp only [Act.put, sA, s0, sS]
          refine tk 6 86 ?v589 ?h589 hHeld ?_; case h589 => (intro w s; (try dsimp only at s); go_simp <;> with_reducible rfl)
          conv => arg 8; simp only [Act.put, sA, s0, sS]
          refine tk 7 87 ?v590 ?h590 hHeld ?_; case h590 => (intro w s; (try dsimp only at s); go_simp <;> with_reducible rfl)
          conv => arg 8; simp only [Act.put, sA, s0, sS]
          refine tk 8 88 ?v591 ?h591 hHeld ?_; case h591 => (intro w s; (try dsimp only at s); go_simp <;> with_reducible rfl)
          conv => arg 8; simp only [Act.put, sA, s0, sS]
          refine tk 9 89 ?v592 ?h592 hHeld ?_; case h592 => (intro w s; (try dsimp only at s); go_simp <;> with_reducible rfl)
          conv => arg 8; simp only [Act.put, sA, s0, sS]
          refine tk 10 90 ?v593 ?h593 hHeld ?_; case h593 => (intro w s; (try dsimp only at s); go_simp <;> with_reducible rfl)
          conv => arg 8; simp only [Act.put, sA, s0, sS]
          refine tk 11 91 ?v594 ?h594 hHeld ?_; case h594 => (intro w s; (try dsimp only at s); go_simp <;> with_reducible rfl)
          conv => arg 8; simp only [Act.put, sA, s0, sS]
          refine tk 12 92 ?v595 ?h595 hHeld ?_; case h595 => (intro w s; (try dsimp only at s); go_simp <;> with_reducible rfl)
          conv => arg 8; simp only [Act.put, sA, s0, sS]
          refine tk 13 93 ?v596 ?h596 hHeld ?_; case h596 => (intro w s; (try dsimp only at s); go_simp <;> with_reducible rfl)
          conv => arg 8; simp only [Act.put, sA, s0, sS]
          refine wpAnyH_skips (by kernel_rfl) (fun _ _ _ _ _ h => h) hHeld [14, 15, 16, 17, 18, 19, 20, 21, 22, 23] [94, 95, 96, 97, 98, 99, 100, 101, 102, 103] _ _ _ (by kernel_rfl) ?_
          simp only [List.foldl_cons, List.foldl_nil, Act.put, sA, s0, sS]
          refine tk 24 104 ?v598 ?h598 hHeld ?_; case h598 => (intro w s; (try dsimp only at s); go_simp <;> with_reducible rfl)
          conv => arg 8; simp only [Act.put, sA, s0, sS]
          refine tk 25 105 ?v599 ?h599 hHeld ?_; case h599 => (intro w s; (try dsimp only at s); go_simp <;> with_reducible rfl)
          conv => arg 8; simp only [Act.put, sA, s0, sS]
          refine tk 26 106 ?v600 ?h600 hHeld ?_; case h600 => (intro w s; (try dsimp only at s); go_simp <;> with_reducible rfl)
          conv => arg 8; simp only [Act.put, sA, s0, sS]
          refine tk 27 107 ?v601 ?h601 hHeld ?_; case h601 => (intro w s; (try dsimp only at s); go_simp <;> with_reducible rfl)
          conv => arg 8; simp only [Act.put, sA, s0, sS]
          refine tk 28 108 ?v602 ?h602 hHeld ?_; case h602 => (intro w s; (try dsimp only at s); go_simp <;> with_reducible rfl)
          conv => arg 8; simp only [Act.put, sA, s0, sS]
          refine tk 29 109 ?v603 ?h603 hHeld ?_; case h603 => (intro w s; (try dsimp only at s); go_simp <;> with_reducible rfl)
          conv => arg 8; simp only [Act.put, sA, s0, sS]
          refine tk 30 110 ?v604 ?h604 hHeld ?_; case h604 => (intro w s; (try dsimp only at s); go_simp <;> with_reducible rfl)
          conv => arg 8; simp only [Act.put, sA, s0, sS]
          refine tk 31 111 ?v605 ?h605 hHeld ?_; case h605 => (intro w s; (try dsimp only at s); go_simp <;> with_reducible rfl)
          conv => arg 8; simp only [Act.put, sA, s0, sS]
          refine tk 32 112 ?v606 ?h606 hHeld ?_; case h606 => (intro w s; (try dsimp only at s); go_simp <;> with_reducible rfl)
          conv => arg 8; simp only [Act.put, sA, s0, sS]
          refine tk 33 113 ?v607 ?h607 hHeld ?_; case h607 => (intro w s; (try dsimp only at s); go_simp <;> with_reducible rfl)
          conv => arg 8; simp only [Act.put, sA, s0, sS]
          refine tk 34 114 ?v608 ?h608 hHeld ?_; case h608 => (intro w s; (try dsimp only at s); go_simp <;> with_reducible rfl)
          conv => arg 8; simp only [Act.put, sA, s0, sS]
          refine tk 35 115 ?v609 ?h609 hHeld ?_; case h609 => (intro w s; (try dsimp only at s); go_simp <;> with_reducible rfl)
          conv => arg 8; simp only [Act.put, sA, s0, sS]
          refine tk 36 116 ?v610 ?h610 hHeld ?_; case h610 => (intro w s; (try dsimp only at s); go_simp <;> with_reducible rfl)
          conv => arg 8; simp only [Act.put, sA, s0, sS]
          refine tk 37 117 ?v611 ?h611 hHeld ?_; case h611 => (intro w s; (try dsimp only at s); go_simp <;> with_reducible rfl)
          conv => arg 8; simp only [Act.put, sA, s0, sS]
          refine tk 38 118 ?v612 ?h612 hHeld ?_; case h612 => (intro w s; (try dsimp only at s); go_simp <;> with_reducible rfl)
          conv => arg 8; simp only [Act.put, sA, s0, sS]
          refine tk 39 119 ?v613 ?h613 hHeld ?_; case h613 => (intro w s; (try dsimp only at s); go_simp <;> with_reducible rfl)
          conv => arg 8; simp only [Act.put, sA, s0, sS]
          refine tk 40 120 ?v614 ?h614 hHeld ?_; case h614 => (intro w s; (try dsimp only at s); go_simp <;> with_reducible rfl)
          conv => arg 8; simp only [Act.put, sA, s0, sS]
          refine tk 41 121 ?v615 ?h615 hHeld ?_; case h615 => (intro w s; (try dsimp only at s); go_simp <;> with_reducible rfl)
          conv => arg 8; simp only [Act.put, sA, s0, sS]
          refine tk 42 122 ?v616 ?h616 hHeld ?_; case h616 => (intro w s; (try dsimp only at s); go_simp <;> with_reducible rfl)
          conv => arg 8; simp only [Act.put, sA, s0, sS]
          refine tk 43 123 ?v617 ?h617 hHeld ?_; case h617 => (intro w s; (try dsimp only at s); go_simp <;> with_reducible rfl)
          conv => arg 8; simp only [Act.put, sA, s0, sS]
          refine tk 44 124 ?v618 ?h618 hHeld ?_; case h618 => (intro w s; (try dsimp only at s); go_simp <;> with_reducible rfl)
          conv => arg 8; simp only [Act.put, sA, s0, sS]
          refine tk 45 125 ?v619 ?h619 hHeld ?_; case h619 => (intro w s; (try dsimp only at s); go_simp <;> with_reducible rfl)
          conv => arg 8; simp only [Act.put, sA, s0, sS]
          refine tk 46 126 ?v620 ?h620 hHeld ?_; case h620 => (intro w s; (try dsimp only at s); go_simp <;> with_reducible rfl)
          conv => arg 8; simp only [Act.put, sA, s0, sS]
          refine tk 47 127 ?v621 ?h621 hHeld ?_; case h621 => (intro w s; (try dsimp only at s); go_simp <;> with_reducible rfl)
          conv => arg 8; simp only [Act.put, sA, s0, sS]
          refine tk 48 128 ?v622 ?h622 hHeld ?_; case h622 => (intro w s; (try dsimp only at s); go_simp <;> with_reducible rfl)
          conv => arg 8; simp only [Act.put, sA, s0, sS]
          refine tk 49 129 ?v623 ?h623 hHeld ?_; case h623 => (intro w s; (try dsimp only at s); go_simp <;> with_reducible rfl)
          conv => arg 8; simp only [Act.put, sA, s0, sS]
          refine tk 50 130 ?v624 ?h624 hHeld ?_; case h624 => (intro w s; (try dsimp only at s); go_simp <;> with_reducible rfl)
          conv => arg 8; simp only [Act.put, sA, s0, sS]
          refine wpAnyH_ready (rs := [51]) (by kernel_rfl) (by simp) ?_
          refine AllReadyH.cons rfl (fun K hK => ?_) AllReadyH.nil
          go_simp
          refine HT.out.mono ?_
          rintro e w2 ⟨rfl, rfl⟩
          refine hK.out _ _ (HF.out _ DR) (fun hHeld => ?_)
          clear hK K
          refine tk 52 132 ?v626 ?h626 hHeld ?_; case h626 => (intro w s; (try dsimp only at s); go_simp <;> with_reducible rfl)
          conv => arg 8; simp only [Act.put, sA, s0, sS]
          refine tk 53 133 ?v627 ?h627 hHeld ?_; case h627 => (intro w s; (try dsimp only at s); go_simp <;> with_reducible rfl)
          conv => arg 8; simp only [Act.put, sA, s0, sS]
          refine wpAnyH_done (by kernel_rfl) ?_ _
          have HB2 : Hid (Below w.heap.size w (wr.alloc (.cells #[.int .i64 uid, .int .i64 flags, .int .i64 seq, .slice ua un uc] 117)).drew) := Below.step HB1.out DR
          have HK2 : Hid ((wr.alloc (.cells #[.int .i64 uid, .int .i64 flags, .int .i64 seq, .slice ua un uc] 117)).drew.heap[w.heap.size]? = some (.cells #[.slice a0 n0 c0, .int .i64 x.valid, .int .i64 x.next, .int .i64 x.seq, .slice (some ⟨b, off, none⟩) x.mails.length c1, .slice a2 x.gones.length c2, .int .i64 x.lost] 87)) := box_below DR HKb.out
          clear HF HKm HKb HA1 HT HB1
          repeat clear hHeld
          go_wp2
          go_roundw
          case rel =>
            refine ⟨k + 1, by omega, by go_num, (show Hid _ from fun i hi => ?_), HK2, HB2⟩
            by_cases e : i = k
            · subst e; exact HE.out.trans (mailYes (by have := HPU.out; omega) (by omega) (by omega) (by omega) (by omega) (by omega) (by omega) rfl)
            · exact hA.out i (by omega)
          case measure => simp [intOf]; omega
    · obtain rfl : k = x.mails.length := by omega
      exact absurd (rangeAll_yes hA.out) (by rw [HMB.out]; decide)

end Go.Proofs.YtifpjdpcmfneaaaGreatDoor
