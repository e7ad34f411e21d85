/- The proof's texts, part 14. -/
import Derived.Test.YtodoofdbpffolaaPart7
import Derived.Test.YtodoofdbpffolaaPart4
import Derived.Test.YtodoofdbpffolaaPart3
import Derived.Test.YtodoofdbpffolaaPart5
import Derived.Deep.RegionHeld3

/- What l3boxOk of package spec do. -/
namespace Go.Proofs.Ytodoofdbpffolaa
open Go.RowKit
set_option maxRecDepth 100000
set_option linter.unusedVariables false
set_option linter.unusedSimpArgs false

set_option maxRecDepth 100000 in
set_option maxHeartbeats 40000000 in
theorem l3boxOk_inM (v : Value) (x : BoxD) (mv : Int) (w : World) (hv : BoxV w v x) (hX1 : nameB x.name = true) (q0 : 1 ≤ x.valid) (q1 : x.valid ≤ mv) (q2 : 1 ≤ x.next) (q3 : x.next ≤ 1000000) (q4 : 0 ≤ x.seq) (q5 : x.seq ≤ 1000000) (q6 : (x.mails.length : Int) ≤ 12) (q7 : (x.gones.length : Int) ≤ 40) (q8 : 0 ≤ x.lost) (q9 : x.lost ≤ x.seq) (HMB : Hid ((List.range x.mails.length).all (mailAt x) = false)) :
    Calls Try.prog 14 #[v, .int .i64 mv] w fun e w' => e = .returned (.bool (boxB x mv)) ∧ Below w.heap.size w w' := by
  have HV : Hid (∀ wi, Below w.heap.size w wi → BoxV wi v x) := fun wi h => hv.below h
  have HNM : Hid ((List.range x.mails.length).all (mailAt x) = false → boxB x mv = false) := boxB_noM
  have HNG : Hid ((List.range x.gones.length).all (goneAt x) = false → boxB x mv = false) := boxB_noG
  have HN1 : Hid (nameB x.name = true) := hX1
  obtain ⟨u0, u1, u2, rfl, g0, g1, g2, i0, i1, i2, i3⟩ := hv
  have H0 : Hid (∀ wi, Below w.heap.size w wi → Bs wi u0 x.name ∧ MailsV wi u1 x.mails ∧ GonesV wi u2 x.gones) := fun wi h => ⟨g0.below h, g1.below keepsMail h, g2.below keepsGone h⟩
  obtain ⟨a0, n0, c0, rfl⟩ := g0.form3
  obtain ⟨a1, c1, rfl, m0, m1⟩ := g1.form
  obtain ⟨a2, c2, rfl, m2, m3⟩ := g2.form
  clear g0 g1 g2
  have HX : Hid (Below w.heap.size w (w.alloc (.cells #[.slice a0 n0 c0, .int .i64 x.valid, .int .i64 x.next, .int .i64 x.seq, .slice a1 x.mails.length c1, .slice a2 x.gones.length c2, .int .i64 x.lost] 31))) := (Below.refl _ _).alloc (Nat.le_refl _) _
  have HK : Hid ((w.alloc (.cells #[.slice a0 n0 c0, .int .i64 x.valid, .int .i64 x.next, .int .i64 x.seq, .slice a1 x.mails.length c1, .slice a2 x.gones.length c2, .int .i64 x.lost] 31)).heap[w.heap.size]? = some (.cells #[.slice a0 n0 c0, .int .i64 x.valid, .int .i64 x.next, .int .i64 x.seq, .slice a1 x.mails.length c1, .slice a2 x.gones.length c2, .int .i64 x.lost] 31)) := box_new w _
  have hn := l3name_any _ x.name _ (H0.out _ HX.out).1
  rw [hX1] at hn
  have z0 : decide (x.valid < 1) = false := by simpa using q0
  have z1 : decide (mv < x.valid) = false := by simpa using q1
  have z2 : decide (x.next < 1) = false := by simpa using q2
  have z3 : decide (1000000 < x.next) = false := by simpa using q3
  have z4 : decide (x.seq < 0) = false := by simpa using q4
  have z5 : decide (1000000 < x.seq) = false := by simpa using q5
  have z6 : decide (12 < (x.mails.length : Int)) = false := by simpa using q6
  have z7 : decide (40 < (x.gones.length : Int)) = false := by simpa using q7
  have z8 : decide (x.lost < 0) = false := by simpa using q8
  have z9 : decide (x.seq < x.lost) = false := by simpa using q9
  go_enter Try.func14, Try.ntmps14
  go_wp2_with fail
  refine hn.mono ?_
  rintro e w' ⟨rfl, rfl⟩
  clear hn hX1
  go_wp2
  clear z0 z1 z2 z3 z4 z5 z6 z7 z8 z9
  go_loopw [5, 6] (fun i _ wr => ∃ k : Nat, k ≤ x.mails.length ∧ i = .int .i64 k ∧ Hid (∀ j, j < k → mailAt x j = true) ∧ Hid (wr.heap[w.heap.size]? = some (.cells #[.slice a0 n0 c0, .int .i64 x.valid, .int .i64 x.next, .int .i64 x.seq, .slice a1 x.mails.length c1, .slice a2 x.gones.length c2, .int .i64 x.lost] 31)) ∧ Hid (Below w.heap.size w wr)) (fun i _ _ => x.mails.length - (intOf i).toNat)
  case atStart => exact ⟨0, Nat.zero_le _, rfl, (fun j hj => absurd hj (Nat.not_lt_zero _)), HK, HX⟩
  case round =>
    obtain ⟨k, hk, rfl, hA, hK, hB⟩ := hrel
    by_cases hlt : k < x.mails.length
    · obtain ⟨m, hm⟩ : ∃ m, x.mails[k]? = some m := ⟨x.mails[k], List.getElem?_eq_getElem hlt⟩
      obtain ⟨b, off, cap', u, hv', hlb, d0, d1, d2, d3, hu, j0, j1, j2⟩ := MailsV.cell (H0.out wr hB.out).2.1 k m hm
      simp only [Value.slice.injEq, true_and] at hv'
      obtain ⟨rfl, rfl⟩ := hv'
      obtain ⟨ua, un, uc, rfl⟩ := hu.form3
      have hp := prevU_ok q3 hk hA.out
      have HE : Hid (mailAt x k = (inB m.uid (prevU x.mails k + 1) (x.next - 1) && (inB m.flags 0 31 && (inB m.seq 1 x.seq && textB m.text)))) := by simp [Hid, mailAt, hm]
      generalize hQ : prevU x.mails k = q at hp HE
      have HQ : Hid (prevU x.mails k = q) := hQ
      clear hQ hm
      obtain ⟨uid, flags, seq, text⟩ := m
      simp only at d0 d1 d2 d3 hu j0 j1 j2 HE
      have DR : Below (wr.alloc (.cells #[.int .i64 uid, .int .i64 flags, .int .i64 seq, .slice ua un uc] 43)).heap.size (wr.alloc (.cells #[.int .i64 uid, .int .i64 flags, .int .i64 seq, .slice ua un uc] 43)) (wr.alloc (.cells #[.int .i64 uid, .int .i64 flags, .int .i64 seq, .slice ua un uc] 43)).drew := (Below.refl _ _).drew
      have HA1 : Hid (Below wr.heap.size wr (wr.alloc (.cells #[.int .i64 uid, .int .i64 flags, .int .i64 seq, .slice ua un uc] 43))) := (Below.refl _ _).alloc (Nat.le_refl _) _
      have HB1 : Hid (Below w.heap.size w (wr.alloc (.cells #[.int .i64 uid, .int .i64 flags, .int .i64 seq, .slice ua un uc] 43))) := Below.step hB.out HA1.out
      have HT : Hid (Calls Try.prog 37 #[.slice ua un uc] (wr.alloc (.cells #[.int .i64 uid, .int .i64 flags, .int .i64 seq, .slice ua un uc] 43)).drew fun e w' => e = .returned (.bool (textB text)) ∧ w' = (wr.alloc (.cells #[.int .i64 uid, .int .i64 flags, .int .i64 seq, .slice ua un uc] 43)).drew) := l3text_any _ text _ (hu.below (Below.step HA1.out DR))
      generalize textB text = XT at HE HT
      have HKm : Hid ((wr.alloc (.cells #[.int .i64 uid, .int .i64 flags, .int .i64 seq, .slice ua un uc] 43)).heap[wr.heap.size]? = some (.cells #[.int .i64 uid, .int .i64 flags, .int .i64 seq, .slice ua un uc] 43)) := box_new wr _
      have HKb : Hid ((wr.alloc (.cells #[.int .i64 uid, .int .i64 flags, .int .i64 seq, .slice ua un uc] 43)).heap[w.heap.size]? = some (.cells #[.slice a0 n0 c0, .int .i64 x.valid, .int .i64 x.next, .int .i64 x.seq, .slice (some ⟨b, off, none⟩) x.mails.length c1, .slice a2 x.gones.length c2, .int .i64 x.lost] 31)) := box_alloc hK.out _
      have HF : Hid (∀ w', Below (wr.alloc (.cells #[.int .i64 uid, .int .i64 flags, .int .i64 seq, .slice ua un uc] 43)).heap.size (wr.alloc (.cells #[.int .i64 uid, .int .i64 flags, .int .i64 seq, .slice ua un uc] 43)) w' → w'.cell? ⟨wr.heap.size, 0, none⟩ = some (.int .i64 uid) ∧ w'.cell? ⟨wr.heap.size, 1, none⟩ = some (.int .i64 flags) ∧ w'.cell? ⟨wr.heap.size, 2, none⟩ = some (.int .i64 seq) ∧ w'.cell? ⟨wr.heap.size, 3, none⟩ = some (.slice ua un uc) ∧ w'.cell? ⟨w.heap.size, 2, none⟩ = some (.int .i64 x.next) ∧ w'.cell? ⟨w.heap.size, 3, none⟩ = some (.int .i64 x.seq) ∧ w'.cell? ⟨w.heap.size, 4, none⟩ = some (.slice (some ⟨b, off, none⟩) x.mails.length c1)) := by
        intro w' h
        obtain ⟨r0, r1, r2, r3⟩ := bx4 (box_below h HKm.out)
        obtain ⟨s0, s1, s2, s3, s4, s5, s6⟩ := bx7 (box_below h HKb.out)
        exact ⟨r0, r1, r2, r3, s2, s3, s4⟩
      obtain ⟨e0, e1, e2, e3, e4, e5, e6⟩ := bx7 hK.out
      have hlA := lt_of_heap hK.out
      clear hu
      by_cases h1 : uid < 1
      · have e82 : decide (uid < 1) = true := decide_eq_true h1
        go_wp2
        refine wp_region_held_drew (S := fun w' => w'.cell? ⟨wr.heap.size, 0, none⟩ = some (.int .i64 uid) ∧ w'.cell? ⟨wr.heap.size, 1, none⟩ = some (.int .i64 flags) ∧ w'.cell? ⟨wr.heap.size, 2, none⟩ = some (.int .i64 seq) ∧ w'.cell? ⟨wr.heap.size, 3, none⟩ = some (.slice ua un uc) ∧ w'.cell? ⟨w.heap.size, 2, none⟩ = some (.int .i64 x.next) ∧ w'.cell? ⟨w.heap.size, 3, none⟩ = some (.int .i64 x.seq) ∧ w'.cell? ⟨w.heap.size, 4, none⟩ = some (.slice (some ⟨b, off, none⟩) x.mails.length c1)) (by kernel_rfl) (HF.out _ DR) (fun hHeld => (show wpAnyH _ _ _ _ _ 54 #[false, false, false, false, false, false, false, false, false, false, false, false, false, false, false, false, false, false, false, false, false, false, false, false, false, false, false, false, false, false, false, false, false, false, false, false, false, false, false, false, false, false, false, false, false, false, false, false, false, false, false, false, false, false] _ _ from ?_))
        refine tq 0 80 hHeld ?_
        refine tq 1 81 hHeld ?_
        refine tq 2 82 hHeld ?_
        refine tq 3 83 hHeld ?_
        refine wpAnyH_skips (by kernel_rfl) (fun _ _ _ _ _ h => h) hHeld [4, 5, 6, 7, 8] [84, 85, 86, 87, 88] _ _ _ (by kernel_rfl) ?_
        simp only [List.foldl_cons, List.foldl_nil, Act.put, sA, s0, sS]
        refine tq 9 89 hHeld ?_
        refine tq 10 90 hHeld ?_
        refine wpAnyH_skips (by kernel_rfl) (fun _ _ _ _ _ h => h) hHeld [11, 12, 13, 14, 15, 16, 17, 18, 19, 20, 21, 22, 23, 24] [91, 92, 93, 94, 95, 96, 97, 98, 99, 100, 101, 102, 103, 104] _ _ _ (by kernel_rfl) ?_
        simp only [List.foldl_cons, List.foldl_nil, Act.put, sA, s0, sS]
        refine tq 25 105 hHeld ?_
        refine tq 26 106 hHeld ?_
        refine wpAnyH_skips (by kernel_rfl) (fun _ _ _ _ _ h => h) hHeld [27, 28, 29] [107, 108, 109] _ _ _ (by kernel_rfl) ?_
        simp only [List.foldl_cons, List.foldl_nil, Act.put, sA, s0, sS]
        refine tq 30 110 hHeld ?_
        refine tq 31 111 hHeld ?_
        refine wpAnyH_skips (by kernel_rfl) (fun _ _ _ _ _ h => h) hHeld [32, 33, 34] [112, 113, 114] _ _ _ (by kernel_rfl) ?_
        simp only [List.foldl_cons, List.foldl_nil, Act.put, sA, s0, sS]
        refine tq 35 115 hHeld ?_
        refine tq 36 116 hHeld ?_
        refine wpAnyH_skips (by kernel_rfl) (fun _ _ _ _ _ h => h) hHeld [37, 38, 39] [117, 118, 119] _ _ _ (by kernel_rfl) ?_
        simp only [List.foldl_cons, List.foldl_nil, Act.put, sA, s0, sS]
        refine tq 40 120 hHeld ?_
        refine tq 41 121 hHeld ?_
        refine wpAnyH_skips (by kernel_rfl) (fun _ _ _ _ _ h => h) hHeld [42, 43, 44, 45, 46] [122, 123, 124, 125, 126] _ _ _ (by kernel_rfl) ?_
        simp only [List.foldl_cons, List.foldl_nil, Act.put, sA, s0, sS]
        refine tq 47 127 hHeld ?_
        refine tq 48 128 hHeld ?_
        refine wpAnyH_skips (by kernel_rfl) (fun _ _ _ _ _ h => h) hHeld [49, 50, 51, 52] [129, 130, 131, 132] _ _ _ (by kernel_rfl) ?_
        simp only [List.foldl_cons, List.foldl_nil, Act.put, sA, s0, sS]
        refine tq 53 133 hHeld ?_
        refine wpAnyH_done (by kernel_rfl) ?_ _
        clear HF HKm HKb HA1 HT
        repeat clear hHeld
        go_wp2
        go_ret
        exact ⟨ret_b (HNM.out (rangeAll_no k hlt (HE.out.trans (mailNo hp.1 (.inl h1))))), Below.step HB1.out DR⟩
      have e82 : decide (uid < 1) = false := decide_eq_false h1
      by_cases h2 : x.next ≤ uid
      · have e88 : decide (x.next ≤ uid) = true := decide_eq_true h2
        go_wp2
        refine wp_region_held_drew (S := fun w' => w'.cell? ⟨wr.heap.size, 0, none⟩ = some (.int .i64 uid) ∧ w'.cell? ⟨wr.heap.size, 1, none⟩ = some (.int .i64 flags) ∧ w'.cell? ⟨wr.heap.size, 2, none⟩ = some (.int .i64 seq) ∧ w'.cell? ⟨wr.heap.size, 3, none⟩ = some (.slice ua un uc) ∧ w'.cell? ⟨w.heap.size, 2, none⟩ = some (.int .i64 x.next) ∧ w'.cell? ⟨w.heap.size, 3, none⟩ = some (.int .i64 x.seq) ∧ w'.cell? ⟨w.heap.size, 4, none⟩ = some (.slice (some ⟨b, off, none⟩) x.mails.length c1)) (by kernel_rfl) (HF.out _ DR) (fun hHeld => (show wpAnyH _ _ _ _ _ 54 #[false, false, false, false, false, false, false, false, false, false, false, false, false, false, false, false, false, false, false, false, false, false, false, false, false, false, false, false, false, false, false, false, false, false, false, false, false, false, false, false, false, false, false, false, false, false, false, false, false, false, false, false, false, false] _ _ from ?_))
        refine tq 0 80 hHeld ?_
        refine tq 1 81 hHeld ?_
        refine tq 2 82 hHeld ?_
        refine tq 3 83 hHeld ?_
        refine tq 4 84 hHeld ?_
        refine tq 5 85 hHeld ?_
        refine tq 6 86 hHeld ?_
        refine tq 7 87 hHeld ?_
        refine tq 8 88 hHeld ?_
        refine tq 9 89 hHeld ?_
        refine tq 10 90 hHeld ?_
        refine wpAnyH_skips (by kernel_rfl) (fun _ _ _ _ _ h => h) hHeld [11, 12, 13, 14, 15, 16, 17, 18, 19, 20, 21, 22, 23, 24] [91, 92, 93, 94, 95, 96, 97, 98, 99, 100, 101, 102, 103, 104] _ _ _ (by kernel_rfl) ?_
        simp only [List.foldl_cons, List.foldl_nil, Act.put, sA, s0, sS]
        refine tq 25 105 hHeld ?_
        refine tq 26 106 hHeld ?_
        refine wpAnyH_skips (by kernel_rfl) (fun _ _ _ _ _ h => h) hHeld [27, 28, 29] [107, 108, 109] _ _ _ (by kernel_rfl) ?_
        simp only [List.foldl_cons, List.foldl_nil, Act.put, sA, s0, sS]
        refine tq 30 110 hHeld ?_
        refine tq 31 111 hHeld ?_
        refine wpAnyH_skips (by kernel_rfl) (fun _ _ _ _ _ h => h) hHeld [32, 33, 34] [112, 113, 114] _ _ _ (by kernel_rfl) ?_
        simp only [List.foldl_cons, List.foldl_nil, Act.put, sA, s0, sS]
        refine tq 35 115 hHeld ?_
        refine tq 36 116 hHeld ?_
        refine wpAnyH_skips (by kernel_rfl) (fun _ _ _ _ _ h => h) hHeld [37, 38, 39] [117, 118, 119] _ _ _ (by kernel_rfl) ?_
        simp only [List.foldl_cons, List.foldl_nil, Act.put, sA, s0, sS]
        refine tq 40 120 hHeld ?_
        refine tq 41 121 hHeld ?_
        refine wpAnyH_skips (by kernel_rfl) (fun _ _ _ _ _ h => h) hHeld [42, 43, 44, 45, 46] [122, 123, 124, 125, 126] _ _ _ (by kernel_rfl) ?_
        simp only [List.foldl_cons, List.foldl_nil, Act.put, sA, s0, sS]
        refine tq 47 127 hHeld ?_
        refine tq 48 128 hHeld ?_
        refine wpAnyH_skips (by kernel_rfl) (fun _ _ _ _ _ h => h) hHeld [49, 50, 51, 52] [129, 130, 131, 132] _ _ _ (by kernel_rfl) ?_
        simp only [List.foldl_cons, List.foldl_nil, Act.put, sA, s0, sS]
        refine tq 53 133 hHeld ?_
        refine wpAnyH_done (by kernel_rfl) ?_ _
        clear HF HKm HKb HA1 HT
        repeat clear hHeld
        go_wp2
        go_ret
        exact ⟨ret_b (HNM.out (rangeAll_no k hlt (HE.out.trans (mailNo hp.1 (.inr (.inl h2)))))), Below.step HB1.out DR⟩
      have e88 : decide (x.next ≤ uid) = false := decide_eq_false h2
      by_cases hkz : (0 : Int) < (k : Int)
      · obtain ⟨j, hj⟩ : ∃ j, k = j + 1 := ⟨k - 1, by omega⟩
        have hjk : (j : Int) < (k : Int) := by omega
        have hjl : (j : Int) < (x.mails.length : Int) := by omega
        have hj0 : (0 : Int) ≤ (j : Int) := by omega
        have hw1 : IntKind.i64.wrap ((k : Int) - 1) = (j : Int) := by rw [IntWalk.i64_in _ (by omega)]; omega
        have hkN : 0 < k := by omega
        have hd : decide (0 < k) = true := by simpa using hkN
        have HJ : Hid (k = j + 1) := hj
        clear hj
        obtain ⟨m', hm'⟩ : ∃ m', x.mails[j]? = some m' := ⟨x.mails[j]'(by have := HJ.out; omega), List.getElem?_eq_getElem (by have := HJ.out; omega)⟩
        obtain ⟨b2, off2, cap2, u2, hv2, hlb2, t0, -⟩ := MailsV.cell (H0.out wr hB.out).2.1 j m' hm'
        simp only [Value.slice.injEq, true_and, Option.some.injEq, Addr.mk.injEq, and_true] at hv2
        obtain ⟨⟨rfl, rfl⟩, rfl⟩ := hv2
        have HPU : Hid (m'.uid = q) := by rw [← HQ.out, HJ.out]; simp [Hid, prevU, hm']
        generalize m'.uid = pu at t0 HPU
        clear hm'
        have HF2 : Hid (∀ w', Below (wr.alloc (.cells #[.int .i64 uid, .int .i64 flags, .int .i64 seq, .slice ua un uc] 43)).heap.size (wr.alloc (.cells #[.int .i64 uid, .int .i64 flags, .int .i64 seq, .slice ua un uc] 43)) w' → w'.cell? ⟨wr.heap.size, 0, none⟩ = some (.int .i64 uid) ∧ w'.cell? ⟨wr.heap.size, 1, none⟩ = some (.int .i64 flags) ∧ w'.cell? ⟨wr.heap.size, 2, none⟩ = some (.int .i64 seq) ∧ w'.cell? ⟨wr.heap.size, 3, none⟩ = some (.slice ua un uc) ∧ w'.cell? ⟨w.heap.size, 2, none⟩ = some (.int .i64 x.next) ∧ w'.cell? ⟨w.heap.size, 3, none⟩ = some (.int .i64 x.seq) ∧ w'.cell? ⟨w.heap.size, 4, none⟩ = some (.slice (some ⟨b, off, none⟩) x.mails.length c1) ∧ w'.cell? ⟨b, off + j * 4, none⟩ = some (.int .i64 pu)) := by
          intro w' h
          obtain ⟨r0, r1, r2, r3, s2, s3, s4⟩ := HF.out w' h
          exact ⟨r0, r1, r2, r3, s2, s3, s4, ((Below.step HA1.out h).cell (p := ⟨b, off + j * 4, none⟩) hlb).trans t0⟩
        by_cases h3 : uid ≤ pu
        · have e103 : decide (uid ≤ pu) = true := decide_eq_true h3
          go_wp2
          refine wp_region_held_drew (S := fun w' => w'.cell? ⟨wr.heap.size, 0, none⟩ = some (.int .i64 uid) ∧ w'.cell? ⟨wr.heap.size, 1, none⟩ = some (.int .i64 flags) ∧ w'.cell? ⟨wr.heap.size, 2, none⟩ = some (.int .i64 seq) ∧ w'.cell? ⟨wr.heap.size, 3, none⟩ = some (.slice ua un uc) ∧ w'.cell? ⟨w.heap.size, 2, none⟩ = some (.int .i64 x.next) ∧ w'.cell? ⟨w.heap.size, 3, none⟩ = some (.int .i64 x.seq) ∧ w'.cell? ⟨w.heap.size, 4, none⟩ = some (.slice (some ⟨b, off, none⟩) x.mails.length c1) ∧ w'.cell? ⟨b, off + j * 4, none⟩ = some (.int .i64 pu)) (by kernel_rfl) (HF2.out _ DR) (fun hHeld => (show wpAnyH _ _ _ _ _ 54 #[false, false, false, false, false, false, false, false, false, false, false, false, false, false, false, false, false, false, false, false, false, false, false, false, false, false, false, false, false, false, false, false, false, false, false, false, false, false, false, false, false, false, false, false, false, false, false, false, false, false, false, false, false, false] _ _ from ?_))
          refine tq 0 80 hHeld ?_
          refine tq 1 81 hHeld ?_
          refine tq 2 82 hHeld ?_
          refine tq 3 83 hHeld ?_
          refine tq 4 84 hHeld ?_
          refine tq 5 85 hHeld ?_
          refine tq 6 86 hHeld ?_
          refine tq 7 87 hHeld ?_
          refine tq 8 88 hHeld ?_
          refine tq 9 89 hHeld ?_
          refine tq 10 90 hHeld ?_
          refine tq 11 91 hHeld ?_
          refine tq 12 92 hHeld ?_
          refine tq 13 93 hHeld ?_
          refine tq 14 94 hHeld ?_
          refine tq 15 95 hHeld ?_
          refine tq 16 96 hHeld ?_
          refine tq 17 97 hHeld ?_
          refine tq 18 98 hHeld ?_
          refine tq 19 99 hHeld ?_
          refine tq 20 100 hHeld ?_
          refine tq 21 101 hHeld ?_
          refine tq 22 102 hHeld ?_
          refine tq 23 103 hHeld ?_
          refine tq 24 104 hHeld ?_
          refine tq 25 105 hHeld ?_
          refine tq 26 106 hHeld ?_
          refine wpAnyH_skips (by kernel_rfl) (fun _ _ _ _ _ h => h) hHeld [27, 28, 29] [107, 108, 109] _ _ _ (by kernel_rfl) ?_
          simp only [List.foldl_cons, List.foldl_nil, Act.put, sA, s0, sS]
          refine tq 30 110 hHeld ?_
          refine tq 31 111 hHeld ?_
          refine wpAnyH_skips (by kernel_rfl) (fun _ _ _ _ _ h => h) hHeld [32, 33, 34] [112, 113, 114] _ _ _ (by kernel_rfl) ?_
          simp only [List.foldl_cons, List.foldl_nil, Act.put, sA, s0, sS]
          refine tq 35 115 hHeld ?_
          refine tq 36 116 hHeld ?_
          refine wpAnyH_skips (by kernel_rfl) (fun _ _ _ _ _ h => h) hHeld [37, 38, 39] [117, 118, 119] _ _ _ (by kernel_rfl) ?_
          simp only [List.foldl_cons, List.foldl_nil, Act.put, sA, s0, sS]
          refine tq 40 120 hHeld ?_
          refine tq 41 121 hHeld ?_
          refine wpAnyH_skips (by kernel_rfl) (fun _ _ _ _ _ h => h) hHeld [42, 43, 44, 45, 46] [122, 123, 124, 125, 126] _ _ _ (by kernel_rfl) ?_
          simp only [List.foldl_cons, List.foldl_nil, Act.put, sA, s0, sS]
          refine tq 47 127 hHeld ?_
          refine tq 48 128 hHeld ?_
          refine wpAnyH_skips (by kernel_rfl) (fun _ _ _ _ _ h => h) hHeld [49, 50, 51, 52] [129, 130, 131, 132] _ _ _ (by kernel_rfl) ?_
          simp only [List.foldl_cons, List.foldl_nil, Act.put, sA, s0, sS]
          refine tq 53 133 hHeld ?_
          refine wpAnyH_done (by kernel_rfl) ?_ _
          clear HF HF2 HKm HKb HA1 HT
          repeat clear hHeld
          go_wp2
          go_ret
          exact ⟨ret_b (HNM.out (rangeAll_no k hlt (HE.out.trans (mailNo hp.1 (.inr (.inr (.inl (by have := HPU.out; omega)))))))), Below.step HB1.out DR⟩
        have e103 : decide (uid ≤ pu) = false := decide_eq_false h3
        by_cases h4 : flags < 0
        · have e109 : decide (flags < 0) = true := decide_eq_true h4
          go_wp2
          refine wp_region_held_drew (S := fun w' => w'.cell? ⟨wr.heap.size, 0, none⟩ = some (.int .i64 uid) ∧ w'.cell? ⟨wr.heap.size, 1, none⟩ = some (.int .i64 flags) ∧ w'.cell? ⟨wr.heap.size, 2, none⟩ = some (.int .i64 seq) ∧ w'.cell? ⟨wr.heap.size, 3, none⟩ = some (.slice ua un uc) ∧ w'.cell? ⟨w.heap.size, 2, none⟩ = some (.int .i64 x.next) ∧ w'.cell? ⟨w.heap.size, 3, none⟩ = some (.int .i64 x.seq) ∧ w'.cell? ⟨w.heap.size, 4, none⟩ = some (.slice (some ⟨b, off, none⟩) x.mails.length c1) ∧ w'.cell? ⟨b, off + j * 4, none⟩ = some (.int .i64 pu)) (by kernel_rfl) (HF2.out _ DR) (fun hHeld => (show wpAnyH _ _ _ _ _ 54 #[false, false, false, false, false, false, false, false, false, false, false, false, false, false, false, false, false, false, false, false, false, false, false, false, false, false, false, false, false, false, false, false, false, false, false, false, false, false, false, false, false, false, false, false, false, false, false, false, false, false, false, false, false, false] _ _ from ?_))
          refine tq 0 80 hHeld ?_
          refine tq 1 81 hHeld ?_
          refine tq 2 82 hHeld ?_
          refine tq 3 83 hHeld ?_
          refine tq 4 84 hHeld ?_
          refine tq 5 85 hHeld ?_
          refine tq 6 86 hHeld ?_
          refine tq 7 87 hHeld ?_
          refine tq 8 88 hHeld ?_
          refine tq 9 89 hHeld ?_
          refine tq 10 90 hHeld ?_
          refine tq 11 91 hHeld ?_
          refine tq 12 92 hHeld ?_
          refine tq 13 93 hHeld ?_
          refine tq 14 94 hHeld ?_
          refine tq 15 95 hHeld ?_
          refine tq 16 96 hHeld ?_
          refine tq 17 97 hHeld ?_
          refine tq 18 98 hHeld ?_
          refine tq 19 99 hHeld ?_
          refine tq 20 100 hHeld ?_
          refine tq 21 101 hHeld ?_
          refine tq 22 102 hHeld ?_
          refine tq 23 103 hHeld ?_
          refine tq 24 104 hHeld ?_
          refine tq 25 105 hHeld ?_
          refine tq 26 106 hHeld ?_
          refine tq 27 107 hHeld ?_
          refine tq 28 108 hHeld ?_
          refine tq 29 109 hHeld ?_
          refine tq 30 110 hHeld ?_
          refine tq 31 111 hHeld ?_
          refine wpAnyH_skips (by kernel_rfl) (fun _ _ _ _ _ h => h) hHeld [32, 33, 34] [112, 113, 114] _ _ _ (by kernel_rfl) ?_
          simp only [List.foldl_cons, List.foldl_nil, Act.put, sA, s0, sS]
          refine tq 35 115 hHeld ?_
          refine tq 36 116 hHeld ?_
          refine wpAnyH_skips (by kernel_rfl) (fun _ _ _ _ _ h => h) hHeld [37, 38, 39] [117, 118, 119] _ _ _ (by kernel_rfl) ?_
          simp only [List.foldl_cons, List.foldl_nil, Act.put, sA, s0, sS]
          refine tq 40 120 hHeld ?_
          refine tq 41 121 hHeld ?_
          refine wpAnyH_skips (by kernel_rfl) (fun _ _ _ _ _ h => h) hHeld [42, 43, 44, 45, 46] [122, 123, 124, 125, 126] _ _ _ (by kernel_rfl) ?_
          simp only [List.foldl_cons, List.foldl_nil, Act.put, sA, s0, sS]
          refine tq 47 127 hHeld ?_
          refine tq 48 128 hHeld ?_
          refine wpAnyH_skips (by kernel_rfl) (fun _ _ _ _ _ h => h) hHeld [49, 50, 51, 52] [129, 130, 131, 132] _ _ _ (by kernel_rfl) ?_
          simp only [List.foldl_cons, List.foldl_nil, Act.put, sA, s0, sS]
          refine tq 53 133 hHeld ?_
          refine wpAnyH_done (by kernel_rfl) ?_ _
          clear HF HF2 HKm HKb HA1 HT
          repeat clear hHeld
          go_wp2
          go_ret
          exact ⟨ret_b (HNM.out (rangeAll_no k hlt (HE.out.trans (mailNo hp.1 (.inr (.inr (.inr (.inl h4)))))))), Below.step HB1.out DR⟩
        have e109 : decide (flags < 0) = false := decide_eq_false h4
        by_cases h5 : 31 < flags
        · have e114 : decide (31 < flags) = true := decide_eq_true h5
          go_wp2
          refine wp_region_held_drew (S := fun w' => w'.cell? ⟨wr.heap.size, 0, none⟩ = some (.int .i64 uid) ∧ w'.cell? ⟨wr.heap.size, 1, none⟩ = some (.int .i64 flags) ∧ w'.cell? ⟨wr.heap.size, 2, none⟩ = some (.int .i64 seq) ∧ w'.cell? ⟨wr.heap.size, 3, none⟩ = some (.slice ua un uc) ∧ w'.cell? ⟨w.heap.size, 2, none⟩ = some (.int .i64 x.next) ∧ w'.cell? ⟨w.heap.size, 3, none⟩ = some (.int .i64 x.seq) ∧ w'.cell? ⟨w.heap.size, 4, none⟩ = some (.slice (some ⟨b, off, none⟩) x.mails.length c1) ∧ w'.cell? ⟨b, off + j * 4, none⟩ = some (.int .i64 pu)) (by kernel_rfl) (HF2.out _ DR) (fun hHeld => (show wpAnyH _ _ _ _ _ 54 #[false, false, false, false, false, false, false, false, false, false, false, false, false, false, false, false, false, false, false, false, false, false, false, false, false, false, false, false, false, false, false, false, false, false, false, false, false, false, false, false, false, false, false, false, false, false, false, false, false, false, false, false, false, false] _ _ from ?_))
          refine tq 0 80 hHeld ?_
          refine tq 1 81 hHeld ?_
          refine tq 2 82 hHeld ?_
          refine tq 3 83 hHeld ?_
          refine tq 4 84 hHeld ?_
          refine tq 5 85 hHeld ?_
          refine tq 6 86 hHeld ?_
          refine tq 7 87 hHeld ?_
          refine tq 8 88 hHeld ?_
          refine tq 9 89 hHeld ?_
          refine tq 10 90 hHeld ?_
          refine tq 11 91 hHeld ?_
          refine tq 12 92 hHeld ?_
          refine tq 13 93 hHeld ?_
          refine tq 14 94 hHeld ?_
          refine tq 15 95 hHeld ?_
          refine tq 16 96 hHeld ?_
          refine tq 17 97 hHeld ?_
          refine tq 18 98 hHeld ?_
          refine tq 19 99 hHeld ?_
          refine tq 20 100 hHeld ?_
          refine tq 21 101 hHeld ?_
          refine tq 22 102 hHeld ?_
          refine tq 23 103 hHeld ?_
          refine tq 24 104 hHeld ?_
          refine tq 25 105 hHeld ?_
          refine tq 26 106 hHeld ?_
          refine tq 27 107 hHeld ?_
          refine tq 28 108 hHeld ?_
          refine tq 29 109 hHeld ?_
          refine tq 30 110 hHeld ?_
          refine tq 31 111 hHeld ?_
          refine tq 32 112 hHeld ?_
          refine tq 33 113 hHeld ?_
          refine tq 34 114 hHeld ?_
          refine tq 35 115 hHeld ?_
          refine tq 36 116 hHeld ?_
          refine wpAnyH_skips (by kernel_rfl) (fun _ _ _ _ _ h => h) hHeld [37, 38, 39] [117, 118, 119] _ _ _ (by kernel_rfl) ?_
          simp only [List.foldl_cons, List.foldl_nil, Act.put, sA, s0, sS]
          refine tq 40 120 hHeld ?_
          refine tq 41 121 hHeld ?_
          refine wpAnyH_skips (by kernel_rfl) (fun _ _ _ _ _ h => h) hHeld [42, 43, 44, 45, 46] [122, 123, 124, 125, 126] _ _ _ (by kernel_rfl) ?_
          simp only [List.foldl_cons, List.foldl_nil, Act.put, sA, s0, sS]
          refine tq 47 127 hHeld ?_
          refine tq 48 128 hHeld ?_
          refine wpAnyH_skips (by kernel_rfl) (fun _ _ _ _ _ h => h) hHeld [49, 50, 51, 52] [129, 130, 131, 132] _ _ _ (by kernel_rfl) ?_
          simp only [List.foldl_cons, List.foldl_nil, Act.put, sA, s0, sS]
          refine tq 53 133 hHeld ?_
          refine wpAnyH_done (by kernel_rfl) ?_ _
          clear HF HF2 HKm HKb HA1 HT
          repeat clear hHeld
          go_wp2
          go_ret
          exact ⟨ret_b (HNM.out (rangeAll_no k hlt (HE.out.trans (mailNo hp.1 (.inr (.inr (.inr (.inr (.inl h5))))))))), Below.step HB1.out DR⟩
        have e114 : decide (31 < flags) = false := decide_eq_false h5
        by_cases h6 : seq < 1
        · have e119 : decide (seq < 1) = true := decide_eq_true h6
          go_wp2
          refine wp_region_held_drew (S := fun w' => w'.cell? ⟨wr.heap.size, 0, none⟩ = some (.int .i64 uid) ∧ w'.cell? ⟨wr.heap.size, 1, none⟩ = some (.int .i64 flags) ∧ w'.cell? ⟨wr.heap.size, 2, none⟩ = some (.int .i64 seq) ∧ w'.cell? ⟨wr.heap.size, 3, none⟩ = some (.slice ua un uc) ∧ w'.cell? ⟨w.heap.size, 2, none⟩ = some (.int .i64 x.next) ∧ w'.cell? ⟨w.heap.size, 3, none⟩ = some (.int .i64 x.seq) ∧ w'.cell? ⟨w.heap.size, 4, none⟩ = some (.slice (some ⟨b, off, none⟩) x.mails.length c1) ∧ w'.cell? ⟨b, off + j * 4, none⟩ = some (.int .i64 pu)) (by kernel_rfl) (HF2.out _ DR) (fun hHeld => (show wpAnyH _ _ _ _ _ 54 #[false, false, false, false, false, false, false, false, false, false, false, false, false, false, false, false, false, false, false, false, false, false, false, false, false, false, false, false, false, false, false, false, false, false, false, false, false, false, false, false, false, false, false, false, false, false, false, false, false, false, false, false, false, false] _ _ from ?_))
          refine tq 0 80 hHeld ?_
          refine tq 1 81 hHeld ?_
          refine tq 2 82 hHeld ?_
          refine tq 3 83 hHeld ?_
          refine tq 4 84 hHeld ?_
          refine tq 5 85 hHeld ?_
          refine tq 6 86 hHeld ?_
          refine tq 7 87 hHeld ?_
          refine tq 8 88 hHeld ?_
          refine tq 9 89 hHeld ?_
          refine tq 10 90 hHeld ?_
          refine tq 11 91 hHeld ?_
          refine tq 12 92 hHeld ?_
          refine tq 13 93 hHeld ?_
          refine tq 14 94 hHeld ?_
          refine tq 15 95 hHeld ?_
          refine tq 16 96 hHeld ?_
          refine tq 17 97 hHeld ?_
          refine tq 18 98 hHeld ?_
          refine tq 19 99 hHeld ?_
          refine tq 20 100 hHeld ?_
          refine tq 21 101 hHeld ?_
          refine tq 22 102 hHeld ?_
          refine tq 23 103 hHeld ?_
          refine tq 24 104 hHeld ?_
          refine tq 25 105 hHeld ?_
          refine tq 26 106 hHeld ?_
          refine tq 27 107 hHeld ?_
          refine tq 28 108 hHeld ?_
          refine tq 29 109 hHeld ?_
          refine tq 30 110 hHeld ?_
          refine tq 31 111 hHeld ?_
          refine tq 32 112 hHeld ?_
          refine tq 33 113 hHeld ?_
          refine tq 34 114 hHeld ?_
          refine tq 35 115 hHeld ?_
          refine tq 36 116 hHeld ?_
          refine tq 37 117 hHeld ?_
          refine tq 38 118 hHeld ?_
          refine tq 39 119 hHeld ?_
          refine tq 40 120 hHeld ?_
          refine tq 41 121 hHeld ?_
          refine wpAnyH_skips (by kernel_rfl) (fun _ _ _ _ _ h => h) hHeld [42, 43, 44, 45, 46] [122, 123, 124, 125, 126] _ _ _ (by kernel_rfl) ?_
          simp only [List.foldl_cons, List.foldl_nil, Act.put, sA, s0, sS]
          refine tq 47 127 hHeld ?_
          refine tq 48 128 hHeld ?_
          refine wpAnyH_skips (by kernel_rfl) (fun _ _ _ _ _ h => h) hHeld [49, 50, 51, 52] [129, 130, 131, 132] _ _ _ (by kernel_rfl) ?_
          simp only [List.foldl_cons, List.foldl_nil, Act.put, sA, s0, sS]
          refine tq 53 133 hHeld ?_
          refine wpAnyH_done (by kernel_rfl) ?_ _
          clear HF HF2 HKm HKb HA1 HT
          repeat clear hHeld
          go_wp2
          go_ret
          exact ⟨ret_b (HNM.out (rangeAll_no k hlt (HE.out.trans (mailNo hp.1 (.inr (.inr (.inr (.inr (.inr (.inl h6)))))))))), Below.step HB1.out DR⟩
        have e119 : decide (seq < 1) = false := decide_eq_false h6
        by_cases h7 : x.seq < seq
        · have e126 : decide (x.seq < seq) = true := decide_eq_true h7
          go_wp2
          refine wp_region_held_drew (S := fun w' => w'.cell? ⟨wr.heap.size, 0, none⟩ = some (.int .i64 uid) ∧ w'.cell? ⟨wr.heap.size, 1, none⟩ = some (.int .i64 flags) ∧ w'.cell? ⟨wr.heap.size, 2, none⟩ = some (.int .i64 seq) ∧ w'.cell? ⟨wr.heap.size, 3, none⟩ = some (.slice ua un uc) ∧ w'.cell? ⟨w.heap.size, 2, none⟩ = some (.int .i64 x.next) ∧ w'.cell? ⟨w.heap.size, 3, none⟩ = some (.int .i64 x.seq) ∧ w'.cell? ⟨w.heap.size, 4, none⟩ = some (.slice (some ⟨b, off, none⟩) x.mails.length c1) ∧ w'.cell? ⟨b, off + j * 4, none⟩ = some (.int .i64 pu)) (by kernel_rfl) (HF2.out _ DR) (fun hHeld => (show wpAnyH _ _ _ _ _ 54 #[false, false, false, false, false, false, false, false, false, false, false, false, false, false, false, false, false, false, false, false, false, false, false, false, false, false, false, false, false, false, false, false, false, false, false, false, false, false, false, false, false, false, false, false, false, false, false, false, false, false, false, false, false, false] _ _ from ?_))
          refine tq 0 80 hHeld ?_
          refine tq 1 81 hHeld ?_
          refine tq 2 82 hHeld ?_
          refine tq 3 83 hHeld ?_
          refine tq 4 84 hHeld ?_
          refine tq 5 85 hHeld ?_
          refine tq 6 86 hHeld ?_
          refine tq 7 87 hHeld ?_
          refine tq 8 88 hHeld ?_
          refine tq 9 89 hHeld ?_
          refine tq 10 90 hHeld ?_
          refine tq 11 91 hHeld ?_
          refine tq 12 92 hHeld ?_
          refine tq 13 93 hHeld ?_
          refine tq 14 94 hHeld ?_
          refine tq 15 95 hHeld ?_
          refine tq 16 96 hHeld ?_
          refine tq 17 97 hHeld ?_
          refine tq 18 98 hHeld ?_
          refine tq 19 99 hHeld ?_
          refine tq 20 100 hHeld ?_
          refine tq 21 101 hHeld ?_
          refine tq 22 102 hHeld ?_
          refine tq 23 103 hHeld ?_
          refine tq 24 104 hHeld ?_
          refine tq 25 105 hHeld ?_
          refine tq 26 106 hHeld ?_
          refine tq 27 107 hHeld ?_
          refine tq 28 108 hHeld ?_
          refine tq 29 109 hHeld ?_
          refine tq 30 110 hHeld ?_
          refine tq 31 111 hHeld ?_
          refine tq 32 112 hHeld ?_
          refine tq 33 113 hHeld ?_
          refine tq 34 114 hHeld ?_
          refine tq 35 115 hHeld ?_
          refine tq 36 116 hHeld ?_
          refine tq 37 117 hHeld ?_
          refine tq 38 118 hHeld ?_
          refine tq 39 119 hHeld ?_
          refine tq 40 120 hHeld ?_
          refine tq 41 121 hHeld ?_
          refine tq 42 122 hHeld ?_
          refine tq 43 123 hHeld ?_
          refine tq 44 124 hHeld ?_
          refine tq 45 125 hHeld ?_
          refine tq 46 126 hHeld ?_
          refine tq 47 127 hHeld ?_
          refine tq 48 128 hHeld ?_
          refine wpAnyH_skips (by kernel_rfl) (fun _ _ _ _ _ h => h) hHeld [49, 50, 51, 52] [129, 130, 131, 132] _ _ _ (by kernel_rfl) ?_
          simp only [List.foldl_cons, List.foldl_nil, Act.put, sA, s0, sS]
          refine tq 53 133 hHeld ?_
          refine wpAnyH_done (by kernel_rfl) ?_ _
          clear HF HF2 HKm HKb HA1 HT
          repeat clear hHeld
          go_wp2
          go_ret
          exact ⟨ret_b (HNM.out (rangeAll_no k hlt (HE.out.trans (mailNo hp.1 (.inr (.inr (.inr (.inr (.inr (.inr (.inl h7))))))))))), Below.step HB1.out DR⟩
        have e126 : decide (x.seq < seq) = false := decide_eq_false h7
        cases XT with
        | false =>
          go_wp2
          refine wp_region_held_drew (S := fun w' => w'.cell? ⟨wr.heap.size, 0, none⟩ = some (.int .i64 uid) ∧ w'.cell? ⟨wr.heap.size, 1, none⟩ = some (.int .i64 flags) ∧ w'.cell? ⟨wr.heap.size, 2, none⟩ = some (.int .i64 seq) ∧ w'.cell? ⟨wr.heap.size, 3, none⟩ = some (.slice ua un uc) ∧ w'.cell? ⟨w.heap.size, 2, none⟩ = some (.int .i64 x.next) ∧ w'.cell? ⟨w.heap.size, 3, none⟩ = some (.int .i64 x.seq) ∧ w'.cell? ⟨w.heap.size, 4, none⟩ = some (.slice (some ⟨b, off, none⟩) x.mails.length c1) ∧ w'.cell? ⟨b, off + j * 4, none⟩ = some (.int .i64 pu)) (by kernel_rfl) (HF2.out _ DR) (fun hHeld => (show wpAnyH _ _ _ _ _ 54 #[false, false, false, false, false, false, false, false, false, false, false, false, false, false, false, false, false, false, false, false, false, false, false, false, false, false, false, false, false, false, false, false, false, false, false, false, false, false, false, false, false, false, false, false, false, false, false, false, false, false, false, false, false, false] _ _ from ?_))
          refine tq 0 80 hHeld ?_
          refine tq 1 81 hHeld ?_
          refine tq 2 82 hHeld ?_
          refine tq 3 83 hHeld ?_
          refine tq 4 84 hHeld ?_
          refine tq 5 85 hHeld ?_
          refine tq 6 86 hHeld ?_
          refine tq 7 87 hHeld ?_
          refine tq 8 88 hHeld ?_
          refine tq 9 89 hHeld ?_
          refine tq 10 90 hHeld ?_
          refine tq 11 91 hHeld ?_
          refine tq 12 92 hHeld ?_
          refine tq 13 93 hHeld ?_
          refine tq 14 94 hHeld ?_
          refine tq 15 95 hHeld ?_
          refine tq 16 96 hHeld ?_
          refine tq 17 97 hHeld ?_
          refine tq 18 98 hHeld ?_
          refine tq 19 99 hHeld ?_
          refine tq 20 100 hHeld ?_
          refine tq 21 101 hHeld ?_
          refine tq 22 102 hHeld ?_
          refine tq 23 103 hHeld ?_
          refine tq 24 104 hHeld ?_
          refine tq 25 105 hHeld ?_
          refine tq 26 106 hHeld ?_
          refine tq 27 107 hHeld ?_
          refine tq 28 108 hHeld ?_
          refine tq 29 109 hHeld ?_
          refine tq 30 110 hHeld ?_
          refine tq 31 111 hHeld ?_
          refine tq 32 112 hHeld ?_
          refine tq 33 113 hHeld ?_
          refine tq 34 114 hHeld ?_
          refine tq 35 115 hHeld ?_
          refine tq 36 116 hHeld ?_
          refine tq 37 117 hHeld ?_
          refine tq 38 118 hHeld ?_
          refine tq 39 119 hHeld ?_
          refine tq 40 120 hHeld ?_
          refine tq 41 121 hHeld ?_
          refine tq 42 122 hHeld ?_
          refine tq 43 123 hHeld ?_
          refine tq 44 124 hHeld ?_
          refine tq 45 125 hHeld ?_
          refine tq 46 126 hHeld ?_
          refine tq 47 127 hHeld ?_
          refine tq 48 128 hHeld ?_
          refine tq 49 129 hHeld ?_
          refine tq 50 130 hHeld ?_
          refine wpAnyH_ready (rs := [51]) (by kernel_rfl) (by simp) ?_
          refine AllReadyH.cons rfl (fun K hK => ?_) AllReadyH.nil
          go_simp
          refine HT.out.mono ?_
          rintro e w2 ⟨rfl, rfl⟩
          refine hK.out _ _ (HF2.out _ DR) (fun hHeld => ?_)
          clear hK K
          refine tq 52 132 hHeld ?_
          refine tq 53 133 hHeld ?_
          refine wpAnyH_done (by kernel_rfl) ?_ _
          clear HF HF2 HKm HKb HA1 HT
          repeat clear hHeld
          go_wp2
          go_ret
          exact ⟨ret_b (HNM.out (rangeAll_no k hlt (HE.out.trans (mailNo hp.1 (.inr (.inr (.inr (.inr (.inr (.inr (.inr rfl))))))))))), Below.step HB1.out DR⟩
        | true =>
          go_wp2
          refine wp_region_held_drew (S := fun w' => w'.cell? ⟨wr.heap.size, 0, none⟩ = some (.int .i64 uid) ∧ w'.cell? ⟨wr.heap.size, 1, none⟩ = some (.int .i64 flags) ∧ w'.cell? ⟨wr.heap.size, 2, none⟩ = some (.int .i64 seq) ∧ w'.cell? ⟨wr.heap.size, 3, none⟩ = some (.slice ua un uc) ∧ w'.cell? ⟨w.heap.size, 2, none⟩ = some (.int .i64 x.next) ∧ w'.cell? ⟨w.heap.size, 3, none⟩ = some (.int .i64 x.seq) ∧ w'.cell? ⟨w.heap.size, 4, none⟩ = some (.slice (some ⟨b, off, none⟩) x.mails.length c1) ∧ w'.cell? ⟨b, off + j * 4, none⟩ = some (.int .i64 pu)) (by kernel_rfl) (HF2.out _ DR) (fun hHeld => (show wpAnyH _ _ _ _ _ 54 #[false, false, false, false, false, false, false, false, false, false, false, false, false, false, false, false, false, false, false, false, false, false, false, false, false, false, false, false, false, false, false, false, false, false, false, false, false, false, false, false, false, false, false, false, false, false, false, false, false, false, false, false, false, false] _ _ from ?_))
          refine tq 0 80 hHeld ?_
          refine tq 1 81 hHeld ?_
          refine tq 2 82 hHeld ?_
          refine tq 3 83 hHeld ?_
          refine tq 4 84 hHeld ?_
          refine tq 5 85 hHeld ?_
          refine tq 6 86 hHeld ?_
          refine tq 7 87 hHeld ?_
          refine tq 8 88 hHeld ?_
          refine tq 9 89 hHeld ?_
          refine tq 10 90 hHeld ?_
          refine tq 11 91 hHeld ?_
          refine tq 12 92 hHeld ?_
          refine tq 13 93 hHeld ?_
          refine tq 14 94 hHeld ?_
          refine tq 15 95 hHeld ?_
          refine tq 16 96 hHeld ?_
          refine tq 17 97 hHeld ?_
          refine tq 18 98 hHeld ?_
          refine tq 19 99 hHeld ?_
          refine tq 20 100 hHeld ?_
          refine tq 21 101 hHeld ?_
          refine tq 22 102 hHeld ?_
          refine tq 23 103 hHeld ?_
          refine tq 24 104 hHeld ?_
          refine tq 25 105 hHeld ?_
          refine tq 26 106 hHeld ?_
          refine tq 27 107 hHeld ?_
          refine tq 28 108 hHeld ?_
          refine tq 29 109 hHeld ?_
          refine tq 30 110 hHeld ?_
          refine tq 31 111 hHeld ?_
          refine tq 32 112 hHeld ?_
          refine tq 33 113 hHeld ?_
          refine tq 34 114 hHeld ?_
          refine tq 35 115 hHeld ?_
          refine tq 36 116 hHeld ?_
          refine tq 37 117 hHeld ?_
          refine tq 38 118 hHeld ?_
          refine tq 39 119 hHeld ?_
          refine tq 40 120 hHeld ?_
          refine tq 41 121 hHeld ?_
          refine tq 42 122 hHeld ?_
          refine tq 43 123 hHeld ?_
          refine tq 44 124 hHeld ?_
          refine tq 45 125 hHeld ?_
          refine tq 46 126 hHeld ?_
          refine tq 47 127 hHeld ?_
          refine tq 48 128 hHeld ?_
          refine tq 49 129 hHeld ?_
          refine tq 50 130 hHeld ?_
          refine wpAnyH_ready (rs := [51]) (by kernel_rfl) (by simp) ?_
          refine AllReadyH.cons rfl (fun K hK => ?_) AllReadyH.nil
          go_simp
          refine HT.out.mono ?_
          rintro e w2 ⟨rfl, rfl⟩
          refine hK.out _ _ (HF2.out _ DR) (fun hHeld => ?_)
          clear hK K
          refine tq 52 132 hHeld ?_
          refine tq 53 133 hHeld ?_
          refine wpAnyH_done (by kernel_rfl) ?_ _
          have HB2 : Hid (Below w.heap.size w (wr.alloc (.cells #[.int .i64 uid, .int .i64 flags, .int .i64 seq, .slice ua un uc] 43)).drew) := Below.step HB1.out DR
          have HK2 : Hid ((wr.alloc (.cells #[.int .i64 uid, .int .i64 flags, .int .i64 seq, .slice ua un uc] 43)).drew.heap[w.heap.size]? = some (.cells #[.slice a0 n0 c0, .int .i64 x.valid, .int .i64 x.next, .int .i64 x.seq, .slice (some ⟨b, off, none⟩) x.mails.length c1, .slice a2 x.gones.length c2, .int .i64 x.lost] 31)) := box_below DR HKb.out
          clear HF HF2 HKm HKb HA1 HT HB1
          repeat clear hHeld
          go_wp2
          go_roundw
          case rel =>
            refine ⟨k + 1, by omega, by go_num, (show Hid _ from fun i hi => ?_), HK2, HB2⟩
            by_cases e : i = k
            · subst e; exact HE.out.trans (mailYes (by have := HPU.out; omega) (by omega) (by omega) (by omega) (by omega) (by omega) (by omega) rfl)
            · exact hA.out i (by omega)
          case measure => simp [intOf]; omega
      · have hkN : ¬ 0 < k := by omega
        have hd : decide (0 < k) = false := by simpa using hkN
        have HPU : Hid (q = 0) := by rw [← HQ.out]; have : k = 0 := by omega
                                     rw [this]; rfl
        by_cases h4 : flags < 0
        · have e109 : decide (flags < 0) = true := decide_eq_true h4
          go_wp2
          refine wp_region_held_drew (S := fun w' => w'.cell? ⟨wr.heap.size, 0, none⟩ = some (.int .i64 uid) ∧ w'.cell? ⟨wr.heap.size, 1, none⟩ = some (.int .i64 flags) ∧ w'.cell? ⟨wr.heap.size, 2, none⟩ = some (.int .i64 seq) ∧ w'.cell? ⟨wr.heap.size, 3, none⟩ = some (.slice ua un uc) ∧ w'.cell? ⟨w.heap.size, 2, none⟩ = some (.int .i64 x.next) ∧ w'.cell? ⟨w.heap.size, 3, none⟩ = some (.int .i64 x.seq) ∧ w'.cell? ⟨w.heap.size, 4, none⟩ = some (.slice (some ⟨b, off, none⟩) x.mails.length c1)) (by kernel_rfl) (HF.out _ DR) (fun hHeld => (show wpAnyH _ _ _ _ _ 54 #[false, false, false, false, false, false, false, false, false, false, false, false, false, false, false, false, false, false, false, false, false, false, false, false, false, false, false, false, false, false, false, false, false, false, false, false, false, false, false, false, false, false, false, false, false, false, false, false, false, false, false, false, false, false] _ _ from ?_))
          refine tq 0 80 hHeld ?_
          refine tq 1 81 hHeld ?_
          refine tq 2 82 hHeld ?_
          refine tq 3 83 hHeld ?_
          refine tq 4 84 hHeld ?_
          refine tq 5 85 hHeld ?_
          refine tq 6 86 hHeld ?_
          refine tq 7 87 hHeld ?_
          refine tq 8 88 hHeld ?_
          refine tq 9 89 hHeld ?_
          refine tq 10 90 hHeld ?_
          refine tq 11 91 hHeld ?_
          refine tq 12 92 hHeld ?_
          refine tq 13 93 hHeld ?_
          refine wpAnyH_skips (by kernel_rfl) (fun _ _ _ _ _ h => h) hHeld [14, 15, 16, 17, 18, 19, 20, 21, 22, 23] [94, 95, 96, 97, 98, 99, 100, 101, 102, 103] _ _ _ (by kernel_rfl) ?_
          simp only [List.foldl_cons, List.foldl_nil, Act.put, sA, s0, sS]
          refine tq 24 104 hHeld ?_
          refine tq 25 105 hHeld ?_
          refine tq 26 106 hHeld ?_
          refine tq 27 107 hHeld ?_
          refine tq 28 108 hHeld ?_
          refine tq 29 109 hHeld ?_
          refine tq 30 110 hHeld ?_
          refine tq 31 111 hHeld ?_
          refine wpAnyH_skips (by kernel_rfl) (fun _ _ _ _ _ h => h) hHeld [32, 33, 34] [112, 113, 114] _ _ _ (by kernel_rfl) ?_
          simp only [List.foldl_cons, List.foldl_nil, Act.put, sA, s0, sS]
          refine tq 35 115 hHeld ?_
          refine tq 36 116 hHeld ?_
          refine wpAnyH_skips (by kernel_rfl) (fun _ _ _ _ _ h => h) hHeld [37, 38, 39] [117, 118, 119] _ _ _ (by kernel_rfl) ?_
          simp only [List.foldl_cons, List.foldl_nil, Act.put, sA, s0, sS]
          refine tq 40 120 hHeld ?_
          refine tq 41 121 hHeld ?_
          refine wpAnyH_skips (by kernel_rfl) (fun _ _ _ _ _ h => h) hHeld [42, 43, 44, 45, 46] [122, 123, 124, 125, 126] _ _ _ (by kernel_rfl) ?_
          simp only [List.foldl_cons, List.foldl_nil, Act.put, sA, s0, sS]
          refine tq 47 127 hHeld ?_
          refine tq 48 128 hHeld ?_
          refine wpAnyH_skips (by kernel_rfl) (fun _ _ _ _ _ h => h) hHeld [49, 50, 51, 52] [129, 130, 131, 132] _ _ _ (by kernel_rfl) ?_
          simp only [List.foldl_cons, List.foldl_nil, Act.put, sA, s0, sS]
          refine tq 53 133 hHeld ?_
          refine wpAnyH_done (by kernel_rfl) ?_ _
          clear HF HKm HKb HA1 HT
          repeat clear hHeld
          go_wp2
          go_ret
          exact ⟨ret_b (HNM.out (rangeAll_no k hlt (HE.out.trans (mailNo hp.1 (.inr (.inr (.inr (.inl h4)))))))), Below.step HB1.out DR⟩
        have e109 : decide (flags < 0) = false := decide_eq_false h4
        by_cases h5 : 31 < flags
        · have e114 : decide (31 < flags) = true := decide_eq_true h5
          go_wp2
          refine wp_region_held_drew (S := fun w' => w'.cell? ⟨wr.heap.size, 0, none⟩ = some (.int .i64 uid) ∧ w'.cell? ⟨wr.heap.size, 1, none⟩ = some (.int .i64 flags) ∧ w'.cell? ⟨wr.heap.size, 2, none⟩ = some (.int .i64 seq) ∧ w'.cell? ⟨wr.heap.size, 3, none⟩ = some (.slice ua un uc) ∧ w'.cell? ⟨w.heap.size, 2, none⟩ = some (.int .i64 x.next) ∧ w'.cell? ⟨w.heap.size, 3, none⟩ = some (.int .i64 x.seq) ∧ w'.cell? ⟨w.heap.size, 4, none⟩ = some (.slice (some ⟨b, off, none⟩) x.mails.length c1)) (by kernel_rfl) (HF.out _ DR) (fun hHeld => (show wpAnyH _ _ _ _ _ 54 #[false, false, false, false, false, false, false, false, false, false, false, false, false, false, false, false, false, false, false, false, false, false, false, false, false, false, false, false, false, false, false, false, false, false, false, false, false, false, false, false, false, false, false, false, false, false, false, false, false, false, false, false, false, false] _ _ from ?_))
          refine tq 0 80 hHeld ?_
          refine tq 1 81 hHeld ?_
          refine tq 2 82 hHeld ?_
          refine tq 3 83 hHeld ?_
          refine tq 4 84 hHeld ?_
          refine tq 5 85 hHeld ?_
          refine tq 6 86 hHeld ?_
          refine tq 7 87 hHeld ?_
          refine tq 8 88 hHeld ?_
          refine tq 9 89 hHeld ?_
          refine tq 10 90 hHeld ?_
          refine tq 11 91 hHeld ?_
          refine tq 12 92 hHeld ?_
          refine tq 13 93 hHeld ?_
          refine wpAnyH_skips (by kernel_rfl) (fun _ _ _ _ _ h => h) hHeld [14, 15, 16, 17, 18, 19, 20, 21, 22, 23] [94, 95, 96, 97, 98, 99, 100, 101, 102, 103] _ _ _ (by kernel_rfl) ?_
          simp only [List.foldl_cons, List.foldl_nil, Act.put, sA, s0, sS]
          refine tq 24 104 hHeld ?_
          refine tq 25 105 hHeld ?_
          refine tq 26 106 hHeld ?_
          refine tq 27 107 hHeld ?_
          refine tq 28 108 hHeld ?_
          refine tq 29 109 hHeld ?_
          refine tq 30 110 hHeld ?_
          refine tq 31 111 hHeld ?_
          refine tq 32 112 hHeld ?_
          refine tq 33 113 hHeld ?_
          refine tq 34 114 hHeld ?_
          refine tq 35 115 hHeld ?_
          refine tq 36 116 hHeld ?_
          refine wpAnyH_skips (by kernel_rfl) (fun _ _ _ _ _ h => h) hHeld [37, 38, 39] [117, 118, 119] _ _ _ (by kernel_rfl) ?_
          simp only [List.foldl_cons, List.foldl_nil, Act.put, sA, s0, sS]
          refine tq 40 120 hHeld ?_
          refine tq 41 121 hHeld ?_
          refine wpAnyH_skips (by kernel_rfl) (fun _ _ _ _ _ h => h) hHeld [42, 43, 44, 45, 46] [122, 123, 124, 125, 126] _ _ _ (by kernel_rfl) ?_
          simp only [List.foldl_cons, List.foldl_nil, Act.put, sA, s0, sS]
          refine tq 47 127 hHeld ?_
          refine tq 48 128 hHeld ?_
          refine wpAnyH_skips (by kernel_rfl) (fun _ _ _ _ _ h => h) hHeld [49, 50, 51, 52] [129, 130, 131, 132] _ _ _ (by kernel_rfl) ?_
          simp only [List.foldl_cons, List.foldl_nil, Act.put, sA, s0, sS]
          refine tq 53 133 hHeld ?_
          refine wpAnyH_done (by kernel_rfl) ?_ _
          clear HF HKm HKb HA1 HT
          repeat clear hHeld
          go_wp2
          go_ret
          exact ⟨ret_b (HNM.out (rangeAll_no k hlt (HE.out.trans (mailNo hp.1 (.inr (.inr (.inr (.inr (.inl h5))))))))), Below.step HB1.out DR⟩
        have e114 : decide (31 < flags) = false := decide_eq_false h5
        by_cases h6 : seq < 1
        · have e119 : decide (seq < 1) = true := decide_eq_true h6
          go_wp2
          refine wp_region_held_drew (S := fun w' => w'.cell? ⟨wr.heap.size, 0, none⟩ = some (.int .i64 uid) ∧ w'.cell? ⟨wr.heap.size, 1, none⟩ = some (.int .i64 flags) ∧ w'.cell? ⟨wr.heap.size, 2, none⟩ = some (.int .i64 seq) ∧ w'.cell? ⟨wr.heap.size, 3, none⟩ = some (.slice ua un uc) ∧ w'.cell? ⟨w.heap.size, 2, none⟩ = some (.int .i64 x.next) ∧ w'.cell? ⟨w.heap.size, 3, none⟩ = some (.int .i64 x.seq) ∧ w'.cell? ⟨w.heap.size, 4, none⟩ = some (.slice (some ⟨b, off, none⟩) x.mails.length c1)) (by kernel_rfl) (HF.out _ DR) (fun hHeld => (show wpAnyH _ _ _ _ _ 54 #[false, false, false, false, false, false, false, false, false, false, false, false, false, false, false, false, false, false, false, false, false, false, false, false, false, false, false, false, false, false, false, false, false, false, false, false, false, false, false, false, false, false, false, false, false, false, false, false, false, false, false, false, false, false] _ _ from ?_))
          refine tq 0 80 hHeld ?_
          refine tq 1 81 hHeld ?_
          refine tq 2 82 hHeld ?_
          refine tq 3 83 hHeld ?_
          refine tq 4 84 hHeld ?_
          refine tq 5 85 hHeld ?_
          refine tq 6 86 hHeld ?_
          refine tq 7 87 hHeld ?_
          refine tq 8 88 hHeld ?_
          refine tq 9 89 hHeld ?_
          refine tq 10 90 hHeld ?_
          refine tq 11 91 hHeld ?_
          refine tq 12 92 hHeld ?_
          refine tq 13 93 hHeld ?_
          refine wpAnyH_skips (by kernel_rfl) (fun _ _ _ _ _ h => h) hHeld [14, 15, 16, 17, 18, 19, 20, 21, 22, 23] [94, 95, 96, 97, 98, 99, 100, 101, 102, 103] _ _ _ (by kernel_rfl) ?_
          simp only [List.foldl_cons, List.foldl_nil, Act.put, sA, s0, sS]
          refine tq 24 104 hHeld ?_
          refine tq 25 105 hHeld ?_
          refine tq 26 106 hHeld ?_
          refine tq 27 107 hHeld ?_
          refine tq 28 108 hHeld ?_
          refine tq 29 109 hHeld ?_
          refine tq 30 110 hHeld ?_
          refine tq 31 111 hHeld ?_
          refine tq 32 112 hHeld ?_
          refine tq 33 113 hHeld ?_
          refine tq 34 114 hHeld ?_
          refine tq 35 115 hHeld ?_
          refine tq 36 116 hHeld ?_
          refine tq 37 117 hHeld ?_
          refine tq 38 118 hHeld ?_
          refine tq 39 119 hHeld ?_
          refine tq 40 120 hHeld ?_
          refine tq 41 121 hHeld ?_
          refine wpAnyH_skips (by kernel_rfl) (fun _ _ _ _ _ h => h) hHeld [42, 43, 44, 45, 46] [122, 123, 124, 125, 126] _ _ _ (by kernel_rfl) ?_
          simp only [List.foldl_cons, List.foldl_nil, Act.put, sA, s0, sS]
          refine tq 47 127 hHeld ?_
          refine tq 48 128 hHeld ?_
          refine wpAnyH_skips (by kernel_rfl) (fun _ _ _ _ _ h => h) hHeld [49, 50, 51, 52] [129, 130, 131, 132] _ _ _ (by kernel_rfl) ?_
          simp only [List.foldl_cons, List.foldl_nil, Act.put, sA, s0, sS]
          refine tq 53 133 hHeld ?_
          refine wpAnyH_done (by kernel_rfl) ?_ _
          clear HF HKm HKb HA1 HT
          repeat clear hHeld
          go_wp2
          go_ret
          exact ⟨ret_b (HNM.out (rangeAll_no k hlt (HE.out.trans (mailNo hp.1 (.inr (.inr (.inr (.inr (.inr (.inl h6)))))))))), Below.step HB1.out DR⟩
        have e119 : decide (seq < 1) = false := decide_eq_false h6
        by_cases h7 : x.seq < seq
        · have e126 : decide (x.seq < seq) = true := decide_eq_true h7
          go_wp2
          refine wp_region_held_drew (S := fun w' => w'.cell? ⟨wr.heap.size, 0, none⟩ = some (.int .i64 uid) ∧ w'.cell? ⟨wr.heap.size, 1, none⟩ = some (.int .i64 flags) ∧ w'.cell? ⟨wr.heap.size, 2, none⟩ = some (.int .i64 seq) ∧ w'.cell? ⟨wr.heap.size, 3, none⟩ = some (.slice ua un uc) ∧ w'.cell? ⟨w.heap.size, 2, none⟩ = some (.int .i64 x.next) ∧ w'.cell? ⟨w.heap.size, 3, none⟩ = some (.int .i64 x.seq) ∧ w'.cell? ⟨w.heap.size, 4, none⟩ = some (.slice (some ⟨b, off, none⟩) x.mails.length c1)) (by kernel_rfl) (HF.out _ DR) (fun hHeld => (show wpAnyH _ _ _ _ _ 54 #[false, false, false, false, false, false, false, false, false, false, false, false, false, false, false, false, false, false, false, false, false, false, false, false, false, false, false, false, false, false, false, false, false, false, false, false, false, false, false, false, false, false, false, false, false, false, false, false, false, false, false, false, false, false] _ _ from ?_))
          refine tq 0 80 hHeld ?_
          refine tq 1 81 hHeld ?_
          refine tq 2 82 hHeld ?_
          refine tq 3 83 hHeld ?_
          refine tq 4 84 hHeld ?_
          refine tq 5 85 hHeld ?_
          refine tq 6 86 hHeld ?_
          refine tq 7 87 hHeld ?_
          refine tq 8 88 hHeld ?_
          refine tq 9 89 hHeld ?_
          refine tq 10 90 hHeld ?_
          refine tq 11 91 hHeld ?_
          refine tq 12 92 hHeld ?_
          refine tq 13 93 hHeld ?_
          refine wpAnyH_skips (by kernel_rfl) (fun _ _ _ _ _ h => h) hHeld [14, 15, 16, 17, 18, 19, 20, 21, 22, 23] [94, 95, 96, 97, 98, 99, 100, 101, 102, 103] _ _ _ (by kernel_rfl) ?_
          simp only [List.foldl_cons, List.foldl_nil, Act.put, sA, s0, sS]
          refine tq 24 104 hHeld ?_
          refine tq 25 105 hHeld ?_
          refine tq 26 106 hHeld ?_
          refine tq 27 107 hHeld ?_
          refine tq 28 108 hHeld ?_
          refine tq 29 109 hHeld ?_
          refine tq 30 110 hHeld ?_
          refine tq 31 111 hHeld ?_
          refine tq 32 112 hHeld ?_
          refine tq 33 113 hHeld ?_
          refine tq 34 114 hHeld ?_
          refine tq 35 115 hHeld ?_
          refine tq 36 116 hHeld ?_
          refine tq 37 117 hHeld ?_
          refine tq 38 118 hHeld ?_
          refine tq 39 119 hHeld ?_
          refine tq 40 120 hHeld ?_
          refine tq 41 121 hHeld ?_
          refine tq 42 122 hHeld ?_
          refine tq 43 123 hHeld ?_
          refine tq 44 124 hHeld ?_
          refine tq 45 125 hHeld ?_
          refine tq 46 126 hHeld ?_
          refine tq 47 127 hHeld ?_
          refine tq 48 128 hHeld ?_
          refine wpAnyH_skips (by kernel_rfl) (fun _ _ _ _ _ h => h) hHeld [49, 50, 51, 52] [129, 130, 131, 132] _ _ _ (by kernel_rfl) ?_
          simp only [List.foldl_cons, List.foldl_nil, Act.put, sA, s0, sS]
          refine tq 53 133 hHeld ?_
          refine wpAnyH_done (by kernel_rfl) ?_ _
          clear HF HKm HKb HA1 HT
          repeat clear hHeld
          go_wp2
          go_ret
          exact ⟨ret_b (HNM.out (rangeAll_no k hlt (HE.out.trans (mailNo hp.1 (.inr (.inr (.inr (.inr (.inr (.inr (.inl h7))))))))))), Below.step HB1.out DR⟩
        have e126 : decide (x.seq < seq) = false := decide_eq_false h7
        cases XT with
        | false =>
          go_wp2
          refine wp_region_held_drew (S := fun w' => w'.cell? ⟨wr.heap.size, 0, none⟩ = some (.int .i64 uid) ∧ w'.cell? ⟨wr.heap.size, 1, none⟩ = some (.int .i64 flags) ∧ w'.cell? ⟨wr.heap.size, 2, none⟩ = some (.int .i64 seq) ∧ w'.cell? ⟨wr.heap.size, 3, none⟩ = some (.slice ua un uc) ∧ w'.cell? ⟨w.heap.size, 2, none⟩ = some (.int .i64 x.next) ∧ w'.cell? ⟨w.heap.size, 3, none⟩ = some (.int .i64 x.seq) ∧ w'.cell? ⟨w.heap.size, 4, none⟩ = some (.slice (some ⟨b, off, none⟩) x.mails.length c1)) (by kernel_rfl) (HF.out _ DR) (fun hHeld => (show wpAnyH _ _ _ _ _ 54 #[false, false, false, false, false, false, false, false, false, false, false, false, false, false, false, false, false, false, false, false, false, false, false, false, false, false, false, false, false, false, false, false, false, false, false, false, false, false, false, false, false, false, false, false, false, false, false, false, false, false, false, false, false, false] _ _ from ?_))
          refine tq 0 80 hHeld ?_
          refine tq 1 81 hHeld ?_
          refine tq 2 82 hHeld ?_
          refine tq 3 83 hHeld ?_
          refine tq 4 84 hHeld ?_
          refine tq 5 85 hHeld ?_
          refine tq 6 86 hHeld ?_
          refine tq 7 87 hHeld ?_
          refine tq 8 88 hHeld ?_
          refine tq 9 89 hHeld ?_
          refine tq 10 90 hHeld ?_
          refine tq 11 91 hHeld ?_
          refine tq 12 92 hHeld ?_
          refine tq 13 93 hHeld ?_
          refine wpAnyH_skips (by kernel_rfl) (fun _ _ _ _ _ h => h) hHeld [14, 15, 16, 17, 18, 19, 20, 21, 22, 23] [94, 95, 96, 97, 98, 99, 100, 101, 102, 103] _ _ _ (by kernel_rfl) ?_
          simp only [List.foldl_cons, List.foldl_nil, Act.put, sA, s0, sS]
          refine tq 24 104 hHeld ?_
          refine tq 25 105 hHeld ?_
          refine tq 26 106 hHeld ?_
          refine tq 27 107 hHeld ?_
          refine tq 28 108 hHeld ?_
          refine tq 29 109 hHeld ?_
          refine tq 30 110 hHeld ?_
          refine tq 31 111 hHeld ?_
          refine tq 32 112 hHeld ?_
          refine tq 33 113 hHeld ?_
          refine tq 34 114 hHeld ?_
          refine tq 35 115 hHeld ?_
          refine tq 36 116 hHeld ?_
          refine tq 37 117 hHeld ?_
          refine tq 38 118 hHeld ?_
          refine tq 39 119 hHeld ?_
          refine tq 40 120 hHeld ?_
          refine tq 41 121 hHeld ?_
          refine tq 42 122 hHeld ?_
          refine tq 43 123 hHeld ?_
          refine tq 44 124 hHeld ?_
          refine tq 45 125 hHeld ?_
          refine tq 46 126 hHeld ?_
          refine tq 47 127 hHeld ?_
          refine tq 48 128 hHeld ?_
          refine tq 49 129 hHeld ?_
          refine tq 50 130 hHeld ?_
          refine wpAnyH_ready (rs := [51]) (by kernel_rfl) (by simp) ?_
          refine AllReadyH.cons rfl (fun K hK => ?_) AllReadyH.nil
          go_simp
          refine HT.out.mono ?_
          rintro e w2 ⟨rfl, rfl⟩
          refine hK.out _ _ (HF.out _ DR) (fun hHeld => ?_)
          clear hK K
          refine tq 52 132 hHeld ?_
          refine tq 53 133 hHeld ?_
          refine wpAnyH_done (by kernel_rfl) ?_ _
          clear HF HKm HKb HA1 HT
          repeat clear hHeld
          go_wp2
          go_ret
          exact ⟨ret_b (HNM.out (rangeAll_no k hlt (HE.out.trans (mailNo hp.1 (.inr (.inr (.inr (.inr (.inr (.inr (.inr rfl))))))))))), Below.step HB1.out DR⟩
        | true =>
          go_wp2
          refine wp_region_held_drew (S := fun w' => w'.cell? ⟨wr.heap.size, 0, none⟩ = some (.int .i64 uid) ∧ w'.cell? ⟨wr.heap.size, 1, none⟩ = some (.int .i64 flags) ∧ w'.cell? ⟨wr.heap.size, 2, none⟩ = some (.int .i64 seq) ∧ w'.cell? ⟨wr.heap.size, 3, none⟩ = some (.slice ua un uc) ∧ w'.cell? ⟨w.heap.size, 2, none⟩ = some (.int .i64 x.next) ∧ w'.cell? ⟨w.heap.size, 3, none⟩ = some (.int .i64 x.seq) ∧ w'.cell? ⟨w.heap.size, 4, none⟩ = some (.slice (some ⟨b, off, none⟩) x.mails.length c1)) (by kernel_rfl) (HF.out _ DR) (fun hHeld => (show wpAnyH _ _ _ _ _ 54 #[false, false, false, false, false, false, false, false, false, false, false, false, false, false, false, false, false, false, false, false, false, false, false, false, false, false, false, false, false, false, false, false, false, false, false, false, false, false, false, false, false, false, false, false, false, false, false, false, false, false, false, false, false, false] _ _ from ?_))
          refine tq 0 80 hHeld ?_
          refine tq 1 81 hHeld ?_
          refine tq 2 82 hHeld ?_
          refine tq 3 83 hHeld ?_
          refine tq 4 84 hHeld ?_
          refine tq 5 85 hHeld ?_
          refine tq 6 86 hHeld ?_
          refine tq 7 87 hHeld ?_
          refine tq 8 88 hHeld ?_
          refine tq 9 89 hHeld ?_
          refine tq 10 90 hHeld ?_
          refine tq 11 91 hHeld ?_
          refine tq 12 92 hHeld ?_
          refine tq 13 93 hHeld ?_
          refine wpAnyH_skips (by kernel_rfl) (fun _ _ _ _ _ h => h) hHeld [14, 15, 16, 17, 18, 19, 20, 21, 22, 23] [94, 95, 96, 97, 98, 99, 100, 101, 102, 103] _ _ _ (by kernel_rfl) ?_
          simp only [List.foldl_cons, List.foldl_nil, Act.put, sA, s0, sS]
          refine tq 24 104 hHeld ?_
          refine tq 25 105 hHeld ?_
          refine tq 26 106 hHeld ?_
          refine tq 27 107 hHeld ?_
          refine tq 28 108 hHeld ?_
          refine tq 29 109 hHeld ?_
          refine tq 30 110 hHeld ?_
          refine tq 31 111 hHeld ?_
          refine tq 32 112 hHeld ?_
          refine tq 33 113 hHeld ?_
          refine tq 34 114 hHeld ?_
          refine tq 35 115 hHeld ?_
          refine tq 36 116 hHeld ?_
          refine tq 37 117 hHeld ?_
          refine tq 38 118 hHeld ?_
          refine tq 39 119 hHeld ?_
          refine tq 40 120 hHeld ?_
          refine tq 41 121 hHeld ?_
          refine tq 42 122 hHeld ?_
          refine tq 43 123 hHeld ?_
          refine tq 44 124 hHeld ?_
          refine tq 45 125 hHeld ?_
          refine tq 46 126 hHeld ?_
          refine tq 47 127 hHeld ?_
          refine tq 48 128 hHeld ?_
          refine tq 49 129 hHeld ?_
          refine tq 50 130 hHeld ?_
          refine wpAnyH_ready (rs := [51]) (by kernel_rfl) (by simp) ?_
          refine AllReadyH.cons rfl (fun K hK => ?_) AllReadyH.nil
          go_simp
          refine HT.out.mono ?_
          rintro e w2 ⟨rfl, rfl⟩
          refine hK.out _ _ (HF.out _ DR) (fun hHeld => ?_)
          clear hK K
          refine tq 52 132 hHeld ?_
          refine tq 53 133 hHeld ?_
          refine wpAnyH_done (by kernel_rfl) ?_ _
          have HB2 : Hid (Below w.heap.size w (wr.alloc (.cells #[.int .i64 uid, .int .i64 flags, .int .i64 seq, .slice ua un uc] 43)).drew) := Below.step HB1.out DR
          have HK2 : Hid ((wr.alloc (.cells #[.int .i64 uid, .int .i64 flags, .int .i64 seq, .slice ua un uc] 43)).drew.heap[w.heap.size]? = some (.cells #[.slice a0 n0 c0, .int .i64 x.valid, .int .i64 x.next, .int .i64 x.seq, .slice (some ⟨b, off, none⟩) x.mails.length c1, .slice a2 x.gones.length c2, .int .i64 x.lost] 31)) := box_below DR HKb.out
          clear HF HKm HKb HA1 HT HB1
          repeat clear hHeld
          go_wp2
          go_roundw
          case rel =>
            refine ⟨k + 1, by omega, by go_num, (show Hid _ from fun i hi => ?_), HK2, HB2⟩
            by_cases e : i = k
            · subst e; exact HE.out.trans (mailYes (by have := HPU.out; omega) (by omega) (by omega) (by omega) (by omega) (by omega) (by omega) rfl)
            · exact hA.out i (by omega)
          case measure => simp [intOf]; omega
    · obtain rfl : k = x.mails.length := by omega
      exact absurd (rangeAll_yes hA.out) (by rw [HMB.out]; decide)

end Go.Proofs.Ytodoofdbpffolaa
