/- The proof's texts, part 24. -/
import Derived.Test.YtmonloebkdpahaaDoorPart20
import Derived.Test.YtmonloebkdpahaaDoorPart6
import Derived.Test.YtmonloebkdpahaaDoorPart19
import Derived.Test.YtmonloebkdpahaaDoorPart16
import Derived.Test.YtmonloebkdpahaaDoorPart4
import Derived.Test.YtmonloebkdpahaaDoorPart2
import Derived.Deep.RegionHeld3
import Derived.Test.YtmonloebkdpahaaDoorPart21
import Derived.Test.YtmonloebkdpahaaDoorPart22
import Derived.Test.YtmonloebkdpahaaDoorPart23
import Derived.Test.YtmonloebkdpahaaDoorPart18
import Derived.Test.YtmonloebkdpahaaDoorRows
import Derived.Test.YtmonloebkdpahaaDoorPart1
import Derived.ProofKit
import Derived.OpenShut
import Derived.ShutString
import Derived.ChangeOld
import Derived.ChangeSame
import Derived.ChangeVars
import Derived.JoinedOf
import Derived.RowKit
import Derived.RowKitTokens
import Derived.LaidLaws
import Derived.LaidHandle
import Derived.Stop.Joined
import Derived.Stop.LaidErr
import Derived.Lib.LaidTab
import Derived.WalkSmall

/- What l3boxOk of package spec do. -/
namespace Go.Proofs.YtmonloebkdpahaaDoor
open Go.RowKit
set_option maxRecDepth 100000
set_option linter.unusedVariables false
set_option linter.unusedSimpArgs false

set_option maxRecDepth 100000 in
set_option maxHeartbeats 40000000 in
theorem l3boxOk_inM (v : Value) (x : BoxD) (mv : Int) (w : World) (hv : BoxV w v x) (hX1 : nameB x.name = true) (q0 : 1 ≤ x.valid) (q1 : x.valid ≤ mv) (q2 : 1 ≤ x.next) (q3 : x.next ≤ 1000000) (q4 : 0 ≤ x.seq) (q5 : x.seq ≤ 1000000) (q6 : (x.mails.length : Int) ≤ 12) (q7 : (x.gones.length : Int) ≤ 40) (q8 : 0 ≤ x.lost) (q9 : x.lost ≤ x.seq) (HMB : Hid ((List.range x.mails.length).all (mailAt x) = false)) :
    Calls Tryd.prog 48 #[v, .int .i64 mv] w fun e w' => e = .returned (.bool (boxB x mv)) ∧ Below w.heap.size w w' := by
  have HV : Hid (∀ wi, Below w.heap.size w wi → BoxV wi v x) := fun wi h => hv.below h
  have HNM : Hid ((List.range x.mails.length).all (mailAt x) = false → boxB x mv = false) := boxB_noM
  have HNG : Hid ((List.range x.gones.length).all (goneAt x) = false → boxB x mv = false) := boxB_noG
  have HN1 : Hid (nameB x.name = true) := hX1
  obtain ⟨u0, u1, u2, rfl, g0, g1, g2, i0, i1, i2, i3⟩ := hv
  have H0 : Hid (∀ wi, Below w.heap.size w wi → Bs wi u0 x.name ∧ MailsV wi u1 x.mails ∧ GonesV wi u2 x.gones) := fun wi h => ⟨g0.below h, g1.below keepsMail h, g2.below keepsGone h⟩
  obtain ⟨a0, n0, c0, rfl⟩ := g0.form3
  obtain ⟨a1, c1, rfl, m0, m1⟩ := g1.form
  obtain ⟨a2, c2, rfl, m2, m3⟩ := g2.form
  clear g0 g1 g2
  have HX : Hid (Below w.heap.size w (w.alloc (.cells #[.slice a0 n0 c0, .int .i64 x.valid, .int .i64 x.next, .int .i64 x.seq, .slice a1 x.mails.length c1, .slice a2 x.gones.length c2, .int .i64 x.lost] 35))) := (Below.refl _ _).alloc (Nat.le_refl _) _
  have HK : Hid ((w.alloc (.cells #[.slice a0 n0 c0, .int .i64 x.valid, .int .i64 x.next, .int .i64 x.seq, .slice a1 x.mails.length c1, .slice a2 x.gones.length c2, .int .i64 x.lost] 35)).heap[w.heap.size]? = some (.cells #[.slice a0 n0 c0, .int .i64 x.valid, .int .i64 x.next, .int .i64 x.seq, .slice a1 x.mails.length c1, .slice a2 x.gones.length c2, .int .i64 x.lost] 35)) := box_new w _
  have hn := l3name_any _ x.name _ (H0.out _ HX.out).1
  rw [hX1] at hn
  have z0 : decide (x.valid < 1) = false := by simpa using q0
  have z1 : decide (mv < x.valid) = false := by simpa using q1
  have z2 : decide (x.next < 1) = false := by simpa using q2
  have z3 : decide (1000000 < x.next) = false := by simpa using q3
  have z4 : decide (x.seq < 0) = false := by simpa using q4
  have z5 : decide (1000000 < x.seq) = false := by simpa using q5
  have z6 : decide (12 < (x.mails.length : Int)) = false := by simpa using q6
  have z7 : decide (40 < (x.gones.length : Int)) = false := by simpa using q7
  have z8 : decide (x.lost < 0) = false := by simpa using q8
  have z9 : decide (x.seq < x.lost) = false := by simpa using q9
  go_enter Tryd.func48, Tryd.ntmps48
  go_wp2_with fail
  refine hn.mono ?_
  rintro e w' ⟨rfl, rfl⟩
  clear hn hX1
  go_wp2
  clear z0 z1 z2 z3 z4 z5 z6 z7 z8 z9
  go_loopw [5, 6] (fun i _ wr => ∃ k : Nat, k ≤ x.mails.length ∧ i = .int .i64 k ∧ Hid (∀ j, j < k → mailAt x j = true) ∧ Hid (wr.heap[w.heap.size]? = some (.cells #[.slice a0 n0 c0, .int .i64 x.valid, .int .i64 x.next, .int .i64 x.seq, .slice a1 x.mails.length c1, .slice a2 x.gones.length c2, .int .i64 x.lost] 35)) ∧ Hid (Below w.heap.size w wr)) (fun i _ _ => x.mails.length - (intOf i).toNat)
  case atStart => exact ⟨0, Nat.zero_le _, rfl, (fun j hj => absurd hj (Nat.not_lt_zero _)), HK, HX⟩
  case round =>
    obtain ⟨k, hk, rfl, hA, hK, hB⟩ := hrel
    by_cases hlt : k < x.mails.length
    · obtain ⟨m, hm⟩ : ∃ m, x.mails[k]? = some m := ⟨x.mails[k], List.getElem?_eq_getElem hlt⟩
      obtain ⟨b, off, cap', u, hv', hlb, d0, d1, d2, d3, hu, j0, j1, j2⟩ := MailsV.cell (H0.out wr hB.out).2.1 k m hm
      simp only [Value.slice.injEq, true_and] at hv'
      obtain ⟨rfl, rfl⟩ := hv'
      obtain ⟨ua, un, uc, rfl⟩ := hu.form3
      have hp := prevU_ok q3 hk hA.out
      have HE : Hid (mailAt x k = (inB m.uid (prevU x.mails k + 1) (x.next - 1) && (inB m.flags 0 31 && (inB m.seq 1 x.seq && textB m.text)))) := by simp [Hid, mailAt, hm]
      generalize hQ : prevU x.mails k = q at hp HE
      have HQ : Hid (prevU x.mails k = q) := hQ
      clear hQ hm
      obtain ⟨uid, flags, seq, text⟩ := m
      simp only at d0 d1 d2 d3 hu j0 j1 j2 HE
      have DR : Below (wr.alloc (.cells #[.int .i64 uid, .int .i64 flags, .int .i64 seq, .slice ua un uc] 54)).heap.size (wr.alloc (.cells #[.int .i64 uid, .int .i64 flags, .int .i64 seq, .slice ua un uc] 54)) (wr.alloc (.cells #[.int .i64 uid, .int .i64 flags, .int .i64 seq, .slice ua un uc] 54)).drew := (Below.refl _ _).drew
      have HA1 : Hid (Below wr.heap.size wr (wr.alloc (.cells #[.int .i64 uid, .int .i64 flags, .int .i64 seq, .slice ua un uc] 54))) := (Below.refl _ _).alloc (Nat.le_refl _) _
      have HB1 : Hid (Below w.heap.size w (wr.alloc (.cells #[.int .i64 uid, .int .i64 flags, .int .i64 seq, .slice ua un uc] 54))) := Below.step hB.out HA1.out
      have HT : Hid (Calls Tryd.prog 80 #[.slice ua un uc] (wr.alloc (.cells #[.int .i64 uid, .int .i64 flags, .int .i64 seq, .slice ua un uc] 54)).drew fun e w' => e = .returned (.bool (textB text)) ∧ w' = (wr.alloc (.cells #[.int .i64 uid, .int .i64 flags, .int .i64 seq, .slice ua un uc] 54)).drew) := l3text_any _ text _ (hu.below (Below.step HA1.out DR))
      generalize textB text = XT at HE HT
      have HKm : Hid ((wr.alloc (.cells #[.int .i64 uid, .int .i64 flags, .int .i64 seq, .slice ua un uc] 54)).heap[wr.heap.size]? = some (.cells #[.int .i64 uid, .int .i64 flags, .int .i64 seq, .slice ua un uc] 54)) := box_new wr _
      have HKb : Hid ((wr.alloc (.cells #[.int .i64 uid, .int .i64 flags, .int .i64 seq, .slice ua un uc] 54)).heap[w.heap.size]? = some (.cells #[.slice a0 n0 c0, .int .i64 x.valid, .int .i64 x.next, .int .i64 x.seq, .slice (some ⟨b, off, none⟩) x.mails.length c1, .slice a2 x.gones.length c2, .int .i64 x.lost] 35)) := box_alloc hK.out _
      have HF : Hid (∀ w', Below (wr.alloc (.cells #[.int .i64 uid, .int .i64 flags, .int .i64 seq, .slice ua un uc] 54)).heap.size (wr.alloc (.cells #[.int .i64 uid, .int .i64 flags, .int .i64 seq, .slice ua un uc] 54)) w' → w'.cell? ⟨wr.heap.size, 0, none⟩ = some (.int .i64 uid) ∧ w'.cell? ⟨wr.heap.size, 1, none⟩ = some (.int .i64 flags) ∧ w'.cell? ⟨wr.heap.size, 2, none⟩ = some (.int .i64 seq) ∧ w'.cell? ⟨wr.heap.size, 3, none⟩ = some (.slice ua un uc) ∧ w'.cell? ⟨w.heap.size, 2, none⟩ = some (.int .i64 x.next) ∧ w'.cell? ⟨w.heap.size, 3, none⟩ = some (.int .i64 x.seq) ∧ w'.cell? ⟨w.heap.size, 4, none⟩ = some (.slice (some ⟨b, off, none⟩) x.mails.length c1)) := by
        intro w' h
        obtain ⟨r0, r1, r2, r3⟩ := bx4 (box_below h HKm.out)
        obtain ⟨s0, s1, s2, s3, s4, s5, s6⟩ := bx7 (box_below h HKb.out)
        exact ⟨r0, r1, r2, r3, s2, s3, s4⟩
      obtain ⟨e0, e1, e2, e3, e4, e5, e6⟩ := bx7 hK.out
      have hlA := lt_of_heap hK.out
      clear hu
      by_cases hkz : (0 : Int) < (k : Int)
      · obtain ⟨j, hj⟩ : ∃ j, k = j + 1 := ⟨k - 1, by omega⟩
        have hjk : (j : Int) < (k : Int) := by omega
        have hjl : (j : Int) < (x.mails.length : Int) := by omega
        have hj0 : (0 : Int) ≤ (j : Int) := by omega
        have hw1 : IntKind.i64.wrap ((k : Int) - 1) = (j : Int) := by rw [IntWalk.i64_in _ (by omega)]; omega
        have hkN : 0 < k := by omega
        have hd : decide (0 < k) = true := by simpa using hkN
        have HJ : Hid (k = j + 1) := hj
        clear hj
        obtain ⟨m', hm'⟩ : ∃ m', x.mails[j]? = some m' := ⟨x.mails[j]'(by have := HJ.out; omega), List.getElem?_eq_getElem (by have := HJ.out; omega)⟩
        obtain ⟨b2, off2, cap2, u2, hv2, hlb2, t0, -⟩ := MailsV.cell (H0.out wr hB.out).2.1 j m' hm'
        simp only [Value.slice.injEq, true_and, Option.some.injEq, Addr.mk.injEq, and_true] at hv2
        obtain ⟨⟨rfl, rfl⟩, rfl⟩ := hv2
        have HPU : Hid (m'.uid = q) := by rw [← HQ.out, HJ.out]; simp [Hid, prevU, hm']
        generalize m'.uid = pu at t0 HPU
        clear hm'
        have HF2 : Hid (∀ w', Below (wr.alloc (.cells #[.int .i64 uid, .int .i64 flags, .int .i64 seq, .slice ua un uc] 54)).heap.size (wr.alloc (.cells #[.int .i64 uid, .int .i64 flags, .int .i64 seq, .slice ua un uc] 54)) w' → w'.cell? ⟨wr.heap.size, 0, none⟩ = some (.int .i64 uid) ∧ w'.cell? ⟨wr.heap.size, 1, none⟩ = some (.int .i64 flags) ∧ w'.cell? ⟨wr.heap.size, 2, none⟩ = some (.int .i64 seq) ∧ w'.cell? ⟨wr.heap.size, 3, none⟩ = some (.slice ua un uc) ∧ w'.cell? ⟨w.heap.size, 2, none⟩ = some (.int .i64 x.next) ∧ w'.cell? ⟨w.heap.size, 3, none⟩ = some (.int .i64 x.seq) ∧ w'.cell? ⟨w.heap.size, 4, none⟩ = some (.slice (some ⟨b, off, none⟩) x.mails.length c1) ∧ w'.cell? ⟨b, off + j * 4, none⟩ = some (.int .i64 pu)) := by
          intro w' h
          obtain ⟨r0, r1, r2, r3, s2, s3, s4⟩ := HF.out w' h
          exact ⟨r0, r1, r2, r3, s2, s3, s4, ((Below.step HA1.out h).cell (p := ⟨b, off + j * 4, none⟩) hlb).trans t0⟩
        have HE2 : Hid (mailAt x k = !(decide (uid < 1) || (decide (x.next ≤ uid) || (decide (uid ≤ pu) || (decide (flags < 0) || (decide (31 < flags) || (decide (seq < 1) || (decide (x.seq < seq) || !XT)))))))) := by rw [HE.out, ← HPU.out]; exact mailE1 (by rw [HPU.out]; exact hp.1)
        clear HE
        generalize e82 : decide (uid < 1) = B0 at HE2
        generalize e88 : decide (x.next ≤ uid) = B1 at HE2
        generalize e103 : decide (uid ≤ pu) = B2 at HE2
        generalize e109 : decide (flags < 0) = B3 at HE2
        generalize e114 : decide (31 < flags) = B4 at HE2
        generalize e119 : decide (seq < 1) = B5 at HE2
        generalize e126 : decide (x.seq < seq) = B6 at HE2
        rcases waysM1 B0 B1 B2 B3 B4 B5 B6 XT with rfl | ⟨rfl, rfl⟩ | ⟨rfl, rfl, rfl⟩ | ⟨rfl, rfl, rfl, rfl⟩ | ⟨rfl, rfl, rfl, rfl, rfl⟩ | ⟨rfl, rfl, rfl, rfl, rfl, rfl⟩ | ⟨rfl, rfl, rfl, rfl, rfl, rfl, rfl⟩ | ⟨rfl, rfl, rfl, rfl, rfl, rfl, rfl, rfl⟩ | ⟨rfl, rfl, rfl, rfl, rfl, rfl, rfl, rfl⟩
        all_goals (
          go_wp2
          refine wp_begin (S := fun w' => w'.cell? ⟨wr.heap.size, 0, none⟩ = some (.int .i64 uid) ∧ w'.cell? ⟨wr.heap.size, 1, none⟩ = some (.int .i64 flags) ∧ w'.cell? ⟨wr.heap.size, 2, none⟩ = some (.int .i64 seq) ∧ w'.cell? ⟨wr.heap.size, 3, none⟩ = some (.slice ua un uc) ∧ w'.cell? ⟨w.heap.size, 2, none⟩ = some (.int .i64 x.next) ∧ w'.cell? ⟨w.heap.size, 3, none⟩ = some (.int .i64 x.seq) ∧ w'.cell? ⟨w.heap.size, 4, none⟩ = some (.slice (some ⟨b, off, none⟩) x.mails.length c1) ∧ w'.cell? ⟨b, off + j * 4, none⟩ = some (.int .i64 pu)) (tab_of (by kernel_rfl) tab7) (by kernel_rfl) (HF2.out _ DR) (fun hTb hHeld => ?_)
          refine tkq 0 80 hTb hHeld ?_;refine tkq 1 81 hTb hHeld ?_;refine tkq 2 82 hTb hHeld ?_;refine tkq 3 83 hTb hHeld ?_
          first | (have tt := (show decide (uid < 1) = false from e82);clear tt;refine tkq 4 84 hTb hHeld ?_;refine tkq 5 85 hTb hHeld ?_;refine tkq 6 86 hTb hHeld ?_;refine tkq 7 87 hTb hHeld ?_;refine tkq 8 88 hTb hHeld ?_) | (refine skj (i := 4) (j := 9) [84, 85, 86, 87, 88] rfl hTb (fun _ _ _ _ _ h => h) hHeld (by kernel_rfl) ?_;conv => arg 7; dsimp only [List.foldl_cons, List.foldl_nil, setT, List.toList_toArray, put0, putS])
          refine tkq 9 89 hTb hHeld ?_;refine tkq 10 90 hTb hHeld ?_
          first | (have tt := (show decide (x.next ≤ uid) = false from e88);clear tt;refine tkq 11 91 hTb hHeld ?_;refine tkq 12 92 hTb hHeld ?_;refine tkq 13 93 hTb hHeld ?_) | (refine skj (i := 11) (j := 14) [91, 92, 93] rfl hTb (fun _ _ _ _ _ h => h) hHeld (by kernel_rfl) ?_;conv => arg 7; dsimp only [List.foldl_cons, List.foldl_nil, setT, List.toList_toArray, put0, putS])
          first | (have tt := (show decide (x.next ≤ uid) = false from e88);clear tt;refine tkq 14 94 hTb hHeld ?_;refine tkq 15 95 hTb hHeld ?_;refine tkq 16 96 hTb hHeld ?_;refine tkq 17 97 hTb hHeld ?_;refine tkq 18 98 hTb hHeld ?_;refine tkq 19 99 hTb hHeld ?_;refine tkq 20 100 hTb hHeld ?_;refine tkq 21 101 hTb hHeld ?_;refine tkq 22 102 hTb hHeld ?_;refine tkq 23 103 hTb hHeld ?_) | (refine skj (i := 14) (j := 24) [94, 95, 96, 97, 98, 99, 100, 101, 102, 103] rfl hTb (fun _ _ _ _ _ h => h) hHeld (by kernel_rfl) ?_;conv => arg 7; dsimp only [List.foldl_cons, List.foldl_nil, setT, List.toList_toArray, put0, putS])
          first | (have tt := (show decide (x.next ≤ uid) = false from e88);clear tt;refine tkq 24 104 hTb hHeld ?_) | (refine skj (i := 24) (j := 25) [104] rfl hTb (fun _ _ _ _ _ h => h) hHeld (by kernel_rfl) ?_;conv => arg 7; dsimp only [List.foldl_cons, List.foldl_nil, setT, List.toList_toArray, put0, putS])
          refine tkq 25 105 hTb hHeld ?_;refine tkq 26 106 hTb hHeld ?_
          first | (have tt := (show decide (uid ≤ pu) = false from e103);clear tt;refine tkq 27 107 hTb hHeld ?_;refine tkq 28 108 hTb hHeld ?_;refine tkq 29 109 hTb hHeld ?_) | (refine skj (i := 27) (j := 30) [107, 108, 109] rfl hTb (fun _ _ _ _ _ h => h) hHeld (by kernel_rfl) ?_;conv => arg 7; dsimp only [List.foldl_cons, List.foldl_nil, setT, List.toList_toArray, put0, putS])
          refine tkq 30 110 hTb hHeld ?_;refine tkq 31 111 hTb hHeld ?_
          first | (have tt := (show decide (flags < 0) = false from e109);clear tt;refine tkq 32 112 hTb hHeld ?_;refine tkq 33 113 hTb hHeld ?_;refine tkq 34 114 hTb hHeld ?_) | (refine skj (i := 32) (j := 35) [112, 113, 114] rfl hTb (fun _ _ _ _ _ h => h) hHeld (by kernel_rfl) ?_;conv => arg 7; dsimp only [List.foldl_cons, List.foldl_nil, setT, List.toList_toArray, put0, putS])
          refine tkq 35 115 hTb hHeld ?_;refine tkq 36 116 hTb hHeld ?_
          first | (have tt := (show decide (31 < flags) = false from e114);clear tt;refine tkq 37 117 hTb hHeld ?_;refine tkq 38 118 hTb hHeld ?_;refine tkq 39 119 hTb hHeld ?_) | (refine skj (i := 37) (j := 40) [117, 118, 119] rfl hTb (fun _ _ _ _ _ h => h) hHeld (by kernel_rfl) ?_;conv => arg 7; dsimp only [List.foldl_cons, List.foldl_nil, setT, List.toList_toArray, put0, putS])
          refine tkq 40 120 hTb hHeld ?_;refine tkq 41 121 hTb hHeld ?_
          first | (have tt := (show decide (seq < 1) = false from e119);clear tt;refine tkq 42 122 hTb hHeld ?_;refine tkq 43 123 hTb hHeld ?_;refine tkq 44 124 hTb hHeld ?_;refine tkq 45 125 hTb hHeld ?_;refine tkq 46 126 hTb hHeld ?_) | (refine skj (i := 42) (j := 47) [122, 123, 124, 125, 126] rfl hTb (fun _ _ _ _ _ h => h) hHeld (by kernel_rfl) ?_;conv => arg 7; dsimp only [List.foldl_cons, List.foldl_nil, setT, List.toList_toArray, put0, putS])
          refine tkq 47 127 hTb hHeld ?_;refine tkq 48 128 hTb hHeld ?_
          first | (have tt := (show decide (x.seq < seq) = false from e126);clear tt;refine tkq 49 129 hTb hHeld ?_;refine tkq 50 130 hTb hHeld ?_;refine clp 51 hTb (by decide) ?_;refine AllReadyH.cons rfl (fun K hK => ?_) AllReadyH.nil;go_simp;refine HT.out.mono ?_;rintro e w2 ⟨rfl, rfl⟩;refine hK.out _ _ (HF2.out _ DR) (fun hHeld => ?_);clear hK K;refine wpAt_in (n := 54) (i := 51) (by decide) rfl rfl ?_;refine tkq 52 132 hTb hHeld ?_) | (refine skj (i := 49) (j := 53) [129, 130, 131, 132] rfl hTb (fun _ _ _ _ _ h => h) hHeld (by kernel_rfl) ?_;conv => arg 7; dsimp only [List.foldl_cons, List.foldl_nil, setT, List.toList_toArray, put0, putS])
          refine tkq 53 133 hTb hHeld ?_
          refine wp_end hTb ?_
          first
          | (have HV : Hid (mailAt x k = false) := HE2.out
             clear HF HF2 HKm HKb HA1 HT
             repeat clear hHeld
             go_wp2
             go_ret
             exact ⟨ret_b (HNM.out (rangeAll_no k hlt HV.out)), Below.step HB1.out DR⟩)
          | (have HV : Hid (mailAt x k = true) := HE2.out
             have HB2 : Hid (Below w.heap.size w (wr.alloc (.cells #[.int .i64 uid, .int .i64 flags, .int .i64 seq, .slice ua un uc] 54)).drew) := Below.step HB1.out DR
             have HK2 : Hid ((wr.alloc (.cells #[.int .i64 uid, .int .i64 flags, .int .i64 seq, .slice ua un uc] 54)).drew.heap[w.heap.size]? = some (.cells #[.slice a0 n0 c0, .int .i64 x.valid, .int .i64 x.next, .int .i64 x.seq, .slice (some ⟨b, off, none⟩) x.mails.length c1, .slice a2 x.gones.length c2, .int .i64 x.lost] 35)) := box_below DR HKb.out
             clear HF HF2 HKm HKb HA1 HT HB1
             repeat clear hHeld
             go_wp2
             go_roundw
             case rel =>
               refine ⟨k + 1, by omega, by go_num, (show Hid _ from fun i hi => ?_), HK2, HB2⟩
               by_cases e : i = k
               · subst e; exact HE2.out
               · exact hA.out i (by omega)
             case measure => simp [intOf]; omega))
      · have hkN : ¬ 0 < k := by omega
        have hd : decide (0 < k) = false := by simpa using hkN
        have HPU : Hid (q = 0) := by rw [← HQ.out]; have : k = 0 := by omega
                                     rw [this]; rfl
        have HE2 : Hid (mailAt x k = !(decide (uid < 1) || (decide (x.next ≤ uid) || (decide (flags < 0) || (decide (31 < flags) || (decide (seq < 1) || (decide (x.seq < seq) || !XT))))))) := by rw [HE.out, HPU.out]; exact mailE0
        clear HE
        generalize e82 : decide (uid < 1) = B0 at HE2
        generalize e88 : decide (x.next ≤ uid) = B1 at HE2
        generalize e109 : decide (flags < 0) = B2 at HE2
        generalize e114 : decide (31 < flags) = B3 at HE2
        generalize e119 : decide (seq < 1) = B4 at HE2
        generalize e126 : decide (x.seq < seq) = B5 at HE2
        rcases waysM0 B0 B1 B2 B3 B4 B5 XT with rfl | ⟨rfl, rfl⟩ | ⟨rfl, rfl, rfl⟩ | ⟨rfl, rfl, rfl, rfl⟩ | ⟨rfl, rfl, rfl, rfl, rfl⟩ | ⟨rfl, rfl, rfl, rfl, rfl, rfl⟩ | ⟨rfl, rfl, rfl, rfl, rfl, rfl, rfl⟩ | ⟨rfl, rfl, rfl, rfl, rfl, rfl, rfl⟩
        all_goals (
          go_wp2
          refine wp_begin (S := fun w' => w'.cell? ⟨wr.heap.size, 0, none⟩ = some (.int .i64 uid) ∧ w'.cell? ⟨wr.heap.size, 1, none⟩ = some (.int .i64 flags) ∧ w'.cell? ⟨wr.heap.size, 2, none⟩ = some (.int .i64 seq) ∧ w'.cell? ⟨wr.heap.size, 3, none⟩ = some (.slice ua un uc) ∧ w'.cell? ⟨w.heap.size, 2, none⟩ = some (.int .i64 x.next) ∧ w'.cell? ⟨w.heap.size, 3, none⟩ = some (.int .i64 x.seq) ∧ w'.cell? ⟨w.heap.size, 4, none⟩ = some (.slice (some ⟨b, off, none⟩) x.mails.length c1)) (tab_of (by kernel_rfl) tab7) (by kernel_rfl) (HF.out _ DR) (fun hTb hHeld => ?_)
          refine tkq 0 80 hTb hHeld ?_;refine tkq 1 81 hTb hHeld ?_;refine tkq 2 82 hTb hHeld ?_;refine tkq 3 83 hTb hHeld ?_
          first | (have tt := (show decide (uid < 1) = false from e82);clear tt;refine tkq 4 84 hTb hHeld ?_;refine tkq 5 85 hTb hHeld ?_;refine tkq 6 86 hTb hHeld ?_;refine tkq 7 87 hTb hHeld ?_;refine tkq 8 88 hTb hHeld ?_) | (refine skj (i := 4) (j := 9) [84, 85, 86, 87, 88] rfl hTb (fun _ _ _ _ _ h => h) hHeld (by kernel_rfl) ?_;conv => arg 7; dsimp only [List.foldl_cons, List.foldl_nil, setT, List.toList_toArray, put0, putS])
          refine tkq 9 89 hTb hHeld ?_;refine tkq 10 90 hTb hHeld ?_
          first | (have tt := (show decide (x.next ≤ uid) = false from e88);clear tt;refine tkq 11 91 hTb hHeld ?_;refine tkq 12 92 hTb hHeld ?_;refine tkq 13 93 hTb hHeld ?_) | (refine skj (i := 11) (j := 14) [91, 92, 93] rfl hTb (fun _ _ _ _ _ h => h) hHeld (by kernel_rfl) ?_;conv => arg 7; dsimp only [List.foldl_cons, List.foldl_nil, setT, List.toList_toArray, put0, putS])
          refine skj (i := 14) (j := 24) [94, 95, 96, 97, 98, 99, 100, 101, 102, 103] rfl hTb (fun _ _ _ _ _ h => h) hHeld (by kernel_rfl) ?_
          conv => arg 7; dsimp only [List.foldl_cons, List.foldl_nil, setT, List.toList_toArray, put0, putS]
          first | (have tt := (show decide (x.next ≤ uid) = false from e88);clear tt;refine tkq 24 104 hTb hHeld ?_) | (refine skj (i := 24) (j := 25) [104] rfl hTb (fun _ _ _ _ _ h => h) hHeld (by kernel_rfl) ?_;conv => arg 7; dsimp only [List.foldl_cons, List.foldl_nil, setT, List.toList_toArray, put0, putS])
          refine tkq 25 105 hTb hHeld ?_;refine tkq 26 106 hTb hHeld ?_
          first | (have tt := (show decide (x.next ≤ uid) = false from e88);clear tt;refine tkq 27 107 hTb hHeld ?_;refine tkq 28 108 hTb hHeld ?_;refine tkq 29 109 hTb hHeld ?_) | (refine skj (i := 27) (j := 30) [107, 108, 109] rfl hTb (fun _ _ _ _ _ h => h) hHeld (by kernel_rfl) ?_;conv => arg 7; dsimp only [List.foldl_cons, List.foldl_nil, setT, List.toList_toArray, put0, putS])
          refine tkq 30 110 hTb hHeld ?_;refine tkq 31 111 hTb hHeld ?_
          first | (have tt := (show decide (flags < 0) = false from e109);clear tt;refine tkq 32 112 hTb hHeld ?_;refine tkq 33 113 hTb hHeld ?_;refine tkq 34 114 hTb hHeld ?_) | (refine skj (i := 32) (j := 35) [112, 113, 114] rfl hTb (fun _ _ _ _ _ h => h) hHeld (by kernel_rfl) ?_;conv => arg 7; dsimp only [List.foldl_cons, List.foldl_nil, setT, List.toList_toArray, put0, putS])
          refine tkq 35 115 hTb hHeld ?_;refine tkq 36 116 hTb hHeld ?_
          first | (have tt := (show decide (31 < flags) = false from e114);clear tt;refine tkq 37 117 hTb hHeld ?_;refine tkq 38 118 hTb hHeld ?_;refine tkq 39 119 hTb hHeld ?_) | (refine skj (i := 37) (j := 40) [117, 118, 119] rfl hTb (fun _ _ _ _ _ h => h) hHeld (by kernel_rfl) ?_;conv => arg 7; dsimp only [List.foldl_cons, List.foldl_nil, setT, List.toList_toArray, put0, putS])
          refine tkq 40 120 hTb hHeld ?_;refine tkq 41 121 hTb hHeld ?_
          first | (have tt := (show decide (seq < 1) = false from e119);clear tt;refine tkq 42 122 hTb hHeld ?_;refine tkq 43 123 hTb hHeld ?_;refine tkq 44 124 hTb hHeld ?_;refine tkq 45 125 hTb hHeld ?_;refine tkq 46 126 hTb hHeld ?_) | (refine skj (i := 42) (j := 47) [122, 123, 124, 125, 126] rfl hTb (fun _ _ _ _ _ h => h) hHeld (by kernel_rfl) ?_;conv => arg 7; dsimp only [List.foldl_cons, List.foldl_nil, setT, List.toList_toArray, put0, putS])
          refine tkq 47 127 hTb hHeld ?_;refine tkq 48 128 hTb hHeld ?_
          first | (have tt := (show decide (x.seq < seq) = false from e126);clear tt;refine tkq 49 129 hTb hHeld ?_;refine tkq 50 130 hTb hHeld ?_;refine clp 51 hTb (by decide) ?_;refine AllReadyH.cons rfl (fun K hK => ?_) AllReadyH.nil;go_simp;refine HT.out.mono ?_;rintro e w2 ⟨rfl, rfl⟩;refine hK.out _ _ (HF.out _ DR) (fun hHeld => ?_);clear hK K;refine wpAt_in (n := 54) (i := 51) (by decide) rfl rfl ?_;refine tkq 52 132 hTb hHeld ?_) | (refine skj (i := 49) (j := 53) [129, 130, 131, 132] rfl hTb (fun _ _ _ _ _ h => h) hHeld (by kernel_rfl) ?_;conv => arg 7; dsimp only [List.foldl_cons, List.foldl_nil, setT, List.toList_toArray, put0, putS])
          refine tkq 53 133 hTb hHeld ?_
          refine wp_end hTb ?_
          first
          | (have HV : Hid (mailAt x k = false) := HE2.out
             clear HF HKm HKb HA1 HT
             repeat clear hHeld
             go_wp2
             go_ret
             exact ⟨ret_b (HNM.out (rangeAll_no k hlt HV.out)), Below.step HB1.out DR⟩)
          | (have HV : Hid (mailAt x k = true) := HE2.out
             have HB2 : Hid (Below w.heap.size w (wr.alloc (.cells #[.int .i64 uid, .int .i64 flags, .int .i64 seq, .slice ua un uc] 54)).drew) := Below.step HB1.out DR
             have HK2 : Hid ((wr.alloc (.cells #[.int .i64 uid, .int .i64 flags, .int .i64 seq, .slice ua un uc] 54)).drew.heap[w.heap.size]? = some (.cells #[.slice a0 n0 c0, .int .i64 x.valid, .int .i64 x.next, .int .i64 x.seq, .slice (some ⟨b, off, none⟩) x.mails.length c1, .slice a2 x.gones.length c2, .int .i64 x.lost] 35)) := box_below DR HKb.out
             clear HF HKm HKb HA1 HT HB1
             repeat clear hHeld
             go_wp2
             go_roundw
             case rel =>
               refine ⟨k + 1, by omega, by go_num, (show Hid _ from fun i hi => ?_), HK2, HB2⟩
               by_cases e : i = k
               · subst e; exact HE2.out
               · exact hA.out i (by omega)
             case measure => simp [intOf]; omega))
    · obtain rfl : k = x.mails.length := by omega
      exact absurd (rangeAll_yes hA.out) (by rw [HMB.out]; decide)

end Go.Proofs.YtmonloebkdpahaaDoor

/- What l3boxOk of package spec does of every box. -/
namespace Go.Proofs.YtmonloebkdpahaaDoor
open Go.RowKit
set_option maxRecDepth 100000

theorem l3boxOk_in (v : Value) (x : BoxD) (mv : Int) (w : World) (hv : BoxV w v x) (hX1 : nameB x.name = true) (q0 : 1 ≤ x.valid) (q1 : x.valid ≤ mv) (q2 : 1 ≤ x.next) (q3 : x.next ≤ 1000000) (q4 : 0 ≤ x.seq) (q5 : x.seq ≤ 1000000) (q6 : (x.mails.length : Int) ≤ 12) (q7 : (x.gones.length : Int) ≤ 40) (q8 : 0 ≤ x.lost) (q9 : x.lost ≤ x.seq) :
    Calls Tryd.prog 48 #[v, .int .i64 mv] w fun e w' => e = .returned (.bool (boxB x mv)) ∧ Below w.heap.size w w' := by
  cases h : (List.range x.mails.length).all (mailAt x) with
  | true =>
    have hA : ∀ j, j < x.mails.length → mailAt x j = true := fun j hj => List.all_eq_true.1 h j (List.mem_range.2 hj)
    cases hg : (List.range x.gones.length).all (goneAt x) with
    | true => exact l3boxOk_inJ v x mv w hv hX1 q0 q1 q2 q3 q4 q5 q6 q7 q8 q9 hA (fun k hk _ h => by rw [List.all_eq_true.1 hg k (List.mem_range.2 hk)] at h; cases h)
    | false =>
      obtain ⟨kb, _, h1, h2⟩ := first_bad hg
      have hr := clsB_range x kb
      by_cases h3' : clsB x kb ≤ 3
      · exact l3boxOk_inJ v x mv w hv hX1 q0 q1 q2 q3 q4 q5 q6 q7 q8 q9 hA (fun k _ h3 h4 => by rw [only_bad h1 h2 h3 h4]; omega)
      by_cases h5 : clsB x kb ≤ 5
      · exact l3boxOk_inK v x mv w hv hX1 q0 q1 q2 q3 q4 q5 q6 q7 q8 q9 hA (fun k _ h3 h4 => by rw [only_bad h1 h2 h3 h4]; omega)
      · exact l3boxOk_inI v x mv w hv hX1 q0 q1 q2 q3 q4 q5 q6 q7 q8 q9 hA (fun k _ h3 h4 => by rw [only_bad h1 h2 h3 h4]; omega)
  | false => exact l3boxOk_inM v x mv w hv hX1 q0 q1 q2 q3 q4 q5 q6 q7 q8 q9 h

theorem boxB_no {x : BoxD} {mv : Int} (h : ¬ (1 ≤ x.valid ∧ x.valid ≤ mv ∧ 1 ≤ x.next ∧ x.next ≤ 1000000 ∧ 0 ≤ x.seq ∧ x.seq ≤ 1000000 ∧ (x.mails.length : Int) ≤ 12 ∧ (x.gones.length : Int) ≤ 40 ∧ 0 ≤ x.lost ∧ x.lost ≤ x.seq)) : boxB x mv = false := by
  rw [Bool.eq_false_iff]
  intro e
  simp only [boxB, mailsB, gonesB, inB, Bool.and_eq_true, decide_eq_true_eq] at e
  obtain ⟨-, ⟨e1, e2⟩, ⟨e3, e4⟩, ⟨e5, e6⟩, ⟨e7, e8⟩, ⟨e9, -⟩, e10, -⟩ := e
  exact h ⟨e1, e2, e3, e4, e5, e6, by omega, by omega, e7, e8⟩

set_option maxRecDepth 100000 in
set_option maxHeartbeats 8000000 in
theorem l3boxOk_any (v : Value) (x : BoxD) (mv : Int) (w : World) (hv : BoxV w v x) :
    Calls Tryd.prog 48 #[v, .int .i64 mv] w fun e w' => e = .returned (.bool (boxB x mv)) ∧ Below w.heap.size w w' := by
  cases hX : nameB x.name with
  | true =>
    by_cases hC : 1 ≤ x.valid ∧ x.valid ≤ mv ∧ 1 ≤ x.next ∧ x.next ≤ 1000000 ∧ 0 ≤ x.seq ∧ x.seq ≤ 1000000 ∧ (x.mails.length : Int) ≤ 12 ∧ (x.gones.length : Int) ≤ 40 ∧ 0 ≤ x.lost ∧ x.lost ≤ x.seq
    · obtain ⟨q0, q1, q2, q3, q4, q5, q6, q7, q8, q9⟩ := hC
      exact l3boxOk_in v x mv w hv hX q0 q1 q2 q3 q4 q5 q6 q7 q8 q9
    · obtain ⟨u0, u1, u2, rfl, g0, g1, g2, -⟩ := hv
      have HX : Hid (∀ o, Below w.heap.size w (w.alloc o)) := fun o => (Below.refl _ _).alloc (Nat.le_refl _) o
      have hn : ∀ o, Calls Tryd.prog 47 #[u0] (w.alloc o) fun e w' => e = .returned (.bool true) ∧ w' = w.alloc o := fun o => by
        have h := l3name_any _ x.name _ (g0.below (HX.out o))
        rwa [hX] at h
      obtain ⟨a0, n0, c0, rfl⟩ := g0.form3
      obtain ⟨a1, c1, rfl, m0, m1⟩ := g1.form
      obtain ⟨a2, c2, rfl, m2, m3⟩ := g2.form
      clear g0 g1 g2 hX
      have HC : Hid (¬ (1 ≤ x.valid ∧ x.valid ≤ mv ∧ 1 ≤ x.next ∧ x.next ≤ 1000000 ∧ 0 ≤ x.seq ∧ x.seq ≤ 1000000 ∧ (x.mails.length : Int) ≤ 12 ∧ (x.gones.length : Int) ≤ 40 ∧ 0 ≤ x.lost ∧ x.lost ≤ x.seq)) := hC
      clear hC
      go_enter Tryd.func48, Tryd.ntmps48
      go_wp2_with fail
      refine (hn _).mono ?_
      rintro e w' ⟨rfl, rfl⟩
      clear hn
      go_wp2
      all_goals first
        | (go_ret; exact ⟨ret_b (boxB_no HC.out), HX.out _⟩)
        | exact (HC.out ⟨by omega, by omega, by omega, by omega, by omega, by omega, by omega, by omega, by omega, by omega⟩).elim
  | false =>
    have HZ : Hid (boxB x mv = false) := by simp [Hid, boxB, hX]
    obtain ⟨u0, u1, u2, rfl, g0, g1, g2, -⟩ := hv
    have HX : Hid (∀ o, Below w.heap.size w (w.alloc o)) := fun o => (Below.refl _ _).alloc (Nat.le_refl _) o
    have hn : ∀ o, Calls Tryd.prog 47 #[u0] (w.alloc o) fun e w' => e = .returned (.bool false) ∧ w' = w.alloc o := fun o => by
      have h := l3name_any _ x.name _ (g0.below (HX.out o))
      rwa [hX] at h
    obtain ⟨a0, n0, c0, rfl⟩ := g0.form3
    obtain ⟨a1, c1, rfl, m0, m1⟩ := g1.form
    obtain ⟨a2, c2, rfl, m2, m3⟩ := g2.form
    clear g0 g1 g2 hX
    go_enter Tryd.func48, Tryd.ntmps48
    go_wp2_with fail
    refine (hn _).mono ?_
    rintro e w' ⟨rfl, rfl⟩
    clear hn
    go_wp2
    go_ret
    exact ⟨ret_b HZ.out, HX.out _⟩

end Go.Proofs.YtmonloebkdpahaaDoor

/- How long a reply's text can be. -/
namespace Go.Proofs.YtmonloebkdpahaaDoor
open Go.RowKit

theorem rtB_len (x : RepD) : (rtB x).length ≤ 2000000 := by
  cases h : repB x with
  | false => rw [rtB_no h]; simp
  | true =>
    rw [rtB_yes h]
    obtain ⟨h0, h1, h2, h3, h4⟩ := rep_facts h
    have hc : (codeW x.code).length ≤ 6 := by
      obtain ⟨n, hn⟩ : ∃ n : Nat, x.code = n := ⟨x.code.toNat, by omega⟩
      rw [hn]; exact (codeW_ok n (by omega)).1
    have hd : (digB x.num.toNat).length ≤ 8 := digB_len10 (by omega)
    have ht := toks_len ((digB x.num.toNat) :: x.names) (fun s hs => by
      rcases List.mem_cons.1 hs with rfl | hs
      · omega
      · have := h3 s hs; omega)
    have hhead : (headL x).length ≤ 6000 := by
      simp only [headL, List.length_append, List.length_cons, List.length_nil] at ht ⊢
      omega
    simp only [replyL, List.length_append]
    split
    · simp; omega
    · rename_i hz
      rcases h4 with h4 | h4
      · exact absurd h4 hz
      obtain ⟨b0, -, b1, b2, b3, b4, b5, b6, b7⟩ := box_facts h4
      have d1 : (digB x.box.valid.toNat).length ≤ 8 := digB_len10 (by omega)
      have d2 : (digB x.box.next.toNat).length ≤ 8 := digB_len10 (by omega)
      have d3 : (digB x.box.seq.toNat).length ≤ 8 := digB_len10 (by omega)
      have hb : (boxLine x.box).length ≤ 5000 := by
        have := toks_len [x.box.name, digB x.box.valid.toNat, digB x.box.next.toNat, digB x.box.seq.toNat] (fun s hs => by
          simp only [List.mem_cons, List.not_mem_nil, or_false] at hs
          rcases hs with rfl | rfl | rfl | rfl <;> omega)
        simp only [boxLine, List.length_append, List.length_cons, List.length_nil] at this ⊢
        omega
      have hm := flat_len mailLine 5000 x.box.mails (fun m hm => by
        obtain ⟨m0, m1, m2, m3, m4, m5, m6⟩ := b6 m hm
        have e1 : (digB m.uid.toNat).length ≤ 8 := digB_len10 (by omega)
        have e2 : (digB m.seq.toNat).length ≤ 8 := digB_len10 (by omega)
        have e3 := flagsB_len m.flags
        have e4 := quoB_len m.text
        have := toks_len [digB m.uid.toNat, digB m.seq.toNat, flagsB m.flags, quoB m.text] (fun s hs => by
          simp only [List.mem_cons, List.not_mem_nil, or_false] at hs
          rcases hs with rfl | rfl | rfl | rfl <;> omega)
        simp only [mailLine, List.length_append, List.length_cons, List.length_nil] at this ⊢
        omega)
      have hg := flat_len goneLine 2000 x.box.gones (fun m hm => by
        have g0 := b7 m hm
        have e1 : (digB m.uid.toNat).length ≤ 8 := digB_len10 (by omega)
        have := toks_len [digB m.uid.toNat] (fun s hs => by
          simp only [List.mem_cons, List.not_mem_nil, or_false] at hs
          subst hs; omega)
        simp only [goneLine, List.length_append, List.length_cons, List.length_nil] at this ⊢
        omega)
      simp only [boxLines, List.length_append]
      omega

end Go.Proofs.YtmonloebkdpahaaDoor

/- How many lines a reply's text has, on lists. -/
namespace Go.Proofs.YtmonloebkdpahaaDoor
open Go.RowKit

def NoL (l : List Int) : Prop := ∀ x ∈ l, x ≠ 10
theorem NoL.count {l : List Int} (h : NoL l) : l.count 10 = 0 := List.count_eq_zero.2 fun hm => h 10 hm rfl
theorem NoL.app {l k : List Int} (h : NoL l) (h' : NoL k) : NoL (l ++ k) := fun x hx => (List.mem_append.1 hx).elim (h x) (h' x)
theorem NoL.flat {α : Type} {f : α → List Int} {l : List α} (h : ∀ a ∈ l, NoL (f a)) : NoL (l.flatMap f) := fun x hx => by
  obtain ⟨a, ha, hx⟩ := List.mem_flatMap.1 hx
  exact h a ha x hx
theorem NoL.of {lo hi : Int} {l : List Int} (h : allIn lo hi l = true) (hlo : 10 < lo) : NoL l := fun x hx => by
  have := (List.all_eq_true.1 h) x hx
  simp only [Bool.and_eq_true, decide_eq_true_eq] at this
  omega
theorem NoL.dig (n : Nat) : NoL (digB n) := by
  induction n using Nat.strongRecOn with
  | ind n ih =>
    intro x hx
    by_cases h : n < 10
    · rw [digB_small h] at hx
      simp only [List.mem_cons, List.not_mem_nil, or_false] at hx
      omega
    · rw [digB_big h] at hx
      rcases List.mem_append.1 hx with hx | hx
      · exact ih _ (by omega) x hx
      · simp only [List.mem_cons, List.not_mem_nil, or_false] at hx
        omega
theorem NoL.name {l : List Int} (h : nameB l = true) : NoL l := by
  simp only [nameB, Bool.and_eq_true] at h
  exact NoL.of h.2.2 (by omega)
theorem NoL.quo {l : List Int} (h : textB l = true) : NoL (quoB l) := by
  simp only [textB, Bool.and_eq_true] at h
  have h1 := NoL.of h.2 (by omega)
  refine NoL.app (NoL.app (by intro x hx; simp at hx; omega) (NoL.flat fun a ha => ?_)) (by intro x hx; simp at hx; omega)
  have := h1 a ha
  intro x hx
  unfold escB at hx
  split at hx <;> simp at hx <;> omega
theorem NoL.flags (f : Int) : NoL (flagsB f) := by
  refine NoL.app (NoL.app (by intro x hx; simp at hx; omega) (NoL.flat fun a _ => ?_)) (by intro x hx; simp at hx; omega)
  intro x hx
  unfold flagAt at hx
  split at hx
  · simp only [List.mem_cons, List.not_mem_nil, or_false] at hx
    rw [hx]
    unfold letB
    split <;> decide
  · simp at hx
theorem NoL.toks {ss : List (List Int)} (h : ∀ s ∈ ss, NoL s) : NoL (ss.flatMap tokB) := NoL.flat fun s hs => NoL.app (by intro x hx; simp at hx; omega) (h s hs)
theorem NoL.line {wd : List Int} {ss : List (List Int)} (h0 : NoL wd) (h : ∀ s ∈ ss, NoL s) : (wd ++ ss.flatMap tokB ++ [10]).count 10 = 1 := by
  rw [List.count_append, (h0.app (NoL.toks h)).count]
  rfl
theorem flat_count {α : Type} {f : α → List Int} {l : List α} (h : ∀ a ∈ l, (f a).count 10 = 1) : (l.flatMap f).count 10 = l.length := by
  induction l with
  | nil => rfl
  | cons a l ih =>
    rw [List.flatMap_cons, List.count_append, h a (by simp), ih fun b hb => h b (by simp [hb]), List.length_cons]
    omega
theorem rtB_lines {x : RepD} (h : repB x = true) : (rtB x).count 10 = 1 + x.box.mails.length + x.box.gones.length + (if 0 < x.box.name.length then 1 else 0) := by
  rw [rtB_yes h]
  obtain ⟨⟨c0, c1⟩, -, -, -, h4⟩ := rep_facts h
  simp only [repB, Bool.and_eq_true, Bool.not_eq_true'] at h
  have hn := h.2.2.2.1
  rw [List.any_eq_false] at hn
  have hh : (headL x).count 10 = 1 := by
    refine NoL.line ?_ fun s hs => ?_
    · obtain ⟨n, hn⟩ : ∃ n : Nat, x.code = n := ⟨x.code.toNat, by omega⟩
      rw [hn]
      have : n = 0 ∨ n = 1 ∨ n = 2 ∨ n = 3 ∨ n = 4 ∨ n = 5 ∨ n = 6 := by omega
      rcases this with rfl | rfl | rfl | rfl | rfl | rfl | rfl <;> (intro x hx; simp [codeW] at hx; omega)
    · rcases List.mem_cons.1 hs with rfl | hs
      · exact NoL.dig _
      · have := hn s hs
        simp only [badN, Bool.not_eq_true', Bool.not_eq_false] at this
        exact NoL.name this
  simp only [replyL, List.count_append, hh]
  by_cases hz : zeroXB x.box = true
  · rw [if_pos hz]
    simp only [zeroXB, zX, decide_eq_true_eq] at hz
    rw [if_neg (by omega)]
    simp only [List.count_nil]
    omega
  rw [if_neg hz]
  rcases h4 with h4 | h4
  · exact absurd h4 hz
  have hp := (box_facts h4).2.1
  simp only [boxB, mailsB, Bool.and_eq_true] at h4
  obtain ⟨n0, -, -, -, -, ⟨-, m0⟩, -⟩ := h4
  rw [List.all_eq_true] at m0
  rw [if_pos hp, boxLines, List.count_append, List.count_append, flat_count (l := x.box.mails), flat_count (l := x.box.gones)]
  · have : (boxLine x.box).count 10 = 1 := NoL.line (by intro x hx; simp at hx; omega) fun s hs => by
      simp only [List.mem_cons, List.not_mem_nil, or_false] at hs
      rcases hs with rfl | rfl | rfl | rfl
      · exact NoL.name n0
      all_goals exact NoL.dig _
    omega
  · intro g _
    exact NoL.line (by intro x hx; simp at hx; omega) fun s hs => by
      simp only [List.mem_cons, List.not_mem_nil, or_false] at hs
      subst hs
      exact NoL.dig _
  · intro m hm
    obtain ⟨i, hi, rfl⟩ := List.mem_iff_getElem.1 hm
    have := m0 i (by simp; omega)
    simp only [mailAt, List.getElem?_eq_getElem hi, Bool.and_eq_true] at this
    exact NoL.line (by intro x hx; simp at hx; omega) fun s hs => by
      simp only [List.mem_cons, List.not_mem_nil, or_false] at hs
      rcases hs with rfl | rfl | rfl | rfl
      · exact NoL.dig _
      · exact NoL.dig _
      · exact NoL.flags _
      · exact NoL.quo this.2.2.2
/-- The lines up to a place. -/
theorem count_step {l : List Int} {k : Nat} (hk : k < l.length) : (l.take (k + 1)).count 10 = (l.take k).count 10 + if l[k] = 10 then 1 else 0 := by
  rw [List.take_succ_eq_append_getElem hk, List.count_append, List.count_singleton]
  simp only [beq_iff_eq]

end Go.Proofs.YtmonloebkdpahaaDoor

/- The law FnReplies, walked out of the contracts. -/
namespace Go.Proofs.YtmonloebkdpahaaDoor
open Go.RowKit
set_option maxRecDepth 100000
set_option linter.unusedVariables false
set_option linter.unusedSimpArgs false

/-- The reply that has nothing. -/
def zeroR : RepD := ⟨0, 0, ⟨[], 0, 0, 0, [], [], 0⟩, []⟩
theorem zeroR_v (w : World) : RepV w (.agg #[.int .i64 0, .int .i64 0, .slice none 0 0, .int .i64 0, .int .i64 0, .int .i64 0, .slice none 0 0, .slice none 0 0, .int .i64 0, .slice none 0 0]) zeroR := ⟨_, _, _, _, rfl, ⟨_, _, _, rfl, bs_nil' _, Rd.nil _, Rd.nil _, i64c0, i64c0, i64c0, i64c0⟩, Rd.nil _, i64c0, i64c0⟩
theorem zeroR_len : (rtB zeroR).length = 5 := by
  rw [rtB_yes (by decide)]
  simp only [replyL, headL, zeroR, codeW, List.flatMap_cons, List.flatMap_nil, tokB, List.length_append, Int.toNat_zero, digB_small (show 0 < 10 by decide)]
  rfl
theorem rtB_some {x : RepD} (h : (rtB x).length ≠ 0) : repB x = true := by
  cases h' : repB x with
  | true => rfl
  | false => rw [rtB_no h'] at h; exact absurd rfl h

set_option maxRecDepth 100000 in
set_option maxHeartbeats 8000000 in
theorem replies_walk (v : Value) (L : List Int) (w : World) (hv : Bs w v L) (ht : Tab10 w) :
    Calls Tryd.prog 4 #[v] w fun e w' => e = .returned (.bool true) ∧ Below w.heap.size w w' := by
  have HT : Hid (∀ wi, Below w.heap.size w wi → Tab10 wi) := fun wi h => Lib.tabBelow_of_tabIs ht _ h
  have HV := hidm hv
  obtain ⟨va, cap, rfl⟩ := hv.form
  clear hv ht
  go_enter Tryd.func4, Tryd.ntmps4
  go_wp2_with fail
  refine (drawReplyText_any _ L w HV.out).mono ?_
  rintro e w1 ⟨u, x, rfl, R, B⟩
  obtain ⟨a0, n0, c0, a1, c1, a2, c2, a3, c3, rfl⟩ := R.form
  obtain ⟨z0, z1, z2, ez, hb0, -⟩ := R.parts.1
  simp only [Value.agg.injEq, Array.mk.injEq, List.cons.injEq, true_and, and_true] at ez
  obtain ⟨rfl, -, -⟩ := ez
  obtain ⟨qa, qc, eq⟩ := hb0.form
  simp only [Value.slice.injEq] at eq
  obtain ⟨rfl, rfl, rfl⟩ := eq
  have AB : Below w1.heap.size w1 (w1.alloc (.cells #[.int .i64 x.code, .int .i64 x.num, .slice a0 x.box.name.length c0, .int .i64 x.box.valid, .int .i64 x.box.next, .int .i64 x.box.seq, .slice a1 x.box.mails.length c1, .slice a2 x.box.gones.length c2, .int .i64 x.box.lost, .slice a3 x.names.length c3] 37)) := (Below.refl _ _).alloc (Nat.le_refl _) _
  have X2 := hidm (Below.step B AB)
  have K2 := hidm (box_new w1 (.cells #[.int .i64 x.code, .int .i64 x.num, .slice a0 x.box.name.length c0, .int .i64 x.box.valid, .int .i64 x.box.next, .int .i64 x.box.seq, .slice a1 x.box.mails.length c1, .slice a2 x.box.gones.length c2, .int .i64 x.box.lost, .slice a3 x.names.length c3] 37))
  have HR2 := hidm (R.below AB)
  clear hb0 R B AB HV
  go_upto_region 2 with fail
  generalize w1.alloc (.cells #[.int .i64 x.code, .int .i64 x.num, .slice a0 x.box.name.length c0, .int .i64 x.box.valid, .int .i64 x.box.next, .int .i64 x.box.seq, .slice a1 x.box.mails.length c1, .slice a2 x.box.gones.length c2, .int .i64 x.box.lost, .slice a3 x.names.length c3] 37) = w2 at X2 K2 HR2 ⊢
  obtain ⟨f0, f1, f2, f3, f4, f5, f6, f7, f8, f9, lA⟩ := box10l K2.out
  go_wp2_with fail
  clear f0 f1 f2 f3 f4 f5 f6 f7 f8 f9 lA
  refine (implReplyText_r _ x _ HR2.out (HT.out _ X2.out)).mono ?_
  rintro e w3 ⟨y, rfl, R3, B⟩
  have hP := rtB_len x
  have hsm : (rtB x).length ≠ 0 → (rtB x).count 10 = 1 + x.box.mails.length + x.box.gones.length + (if 0 < x.box.name.length then 1 else 0) := fun h => rtB_lines (rtB_some h)
  have HSM := hidm hsm
  have HY := hidm R3.bs
  obtain ⟨ya, yc, rfl⟩ := R3.bs.form
  have X3 := hidm (Below.step X2.out B)
  have K3 := hidm (box_below B K2.out)
  have HR3 := hidm (HR2.out.below B)
  clear R3 B X2 K2 HR2 hsm
  obtain ⟨f0, f1, f2, f3, f4, f5, f6, f7, f8, f9, lA⟩ := box10l K3.out
  by_cases hl : (rtB x).length = 0
  · have hlb : (((rtB x).length : Int) == 0) = true := by simp [hl]
    go_wp2_with fail
    clear f0 f1 f2 f3 f4 f5 f6 f7 f8 f9 lA
    refine (specReplyText_gen _ x _ HR3.out (fun wi h u hu => l3boxOk_any u x.box 1000000 wi hu)).mono ?_
    rintro e w4 ⟨y2, rfl, hB2, -, B⟩
    obtain ⟨ya2, yc2, rfl⟩ := hB2.form
    have X4 := hidm (Below.step X3.out B)
    clear hB2 B X3 K3 HR3
    go_wp2_with fail
    refine (implReplyText_r _ zeroR _ (zeroR_v _) (HT.out _ X4.out)).mono ?_
    rintro e w5 ⟨y3, rfl, R5, B⟩
    obtain ⟨ya3, yc3, rfl⟩ := R5.bs.form
    have X5 := hidm (Below.step X4.out B)
    clear R5 B X4
    have h5 : (((rtB zeroR).length : Int) == 5) = true := by rw [zeroR_len]; rfl
    go_wp2
    go_ret
    exact ⟨by simp [h5, hlb], X5.out⟩
  · have hlb : (((rtB x).length : Int) == 0) = false := by simp [hl]
    have hc := HSM.out hl
    have hmg : x.box.mails.length ≤ 12 ∧ x.box.gones.length ≤ 40 ∧ x.box.name.length ≤ 6 := by
      obtain ⟨-, -, -, -, h⟩ := rep_facts (rtB_some hl)
      rcases h with h | h
      · simp only [zeroXB, zX, decide_eq_true_eq] at h
        omega
      · obtain ⟨h1, -, -, -, -, h2, h3, -⟩ := box_facts h
        exact ⟨h2, h3, h1⟩
    clear HSM
    generalize hPe : rtB x = P at *
    clear hPe
    obtain ⟨-, a', cap', ea, hle, -, -, h4⟩ := HY.out
    simp only [Value.slice.injEq, true_and] at ea
    obtain ⟨rfl, rfl⟩ := ea
    obtain ⟨b, off, rfl, hbl, hcells⟩ := h4 (by omega)
    have HCL := hidm hcells
    have HC := hidm hc
    clear h4 hcells hc HY HR3
    obtain ⟨n, hn⟩ : ∃ n, n = P.count 10 := ⟨_, rfl⟩
    have HN := hidm hn
    clear hn
    go_upto_if 39 with fail
    go_cut [5] (fun nv wx => nv = .int .i64 (n : Nat) ∧ wx = w3)
    case first =>
      by_cases hnm : 0 < x.box.name.length
      · have hni : (0 : Int) < (x.box.name.length : Int) := by omega
        go_wp2
        go_meet
        case rel =>
          refine ⟨?_, rfl⟩
          rw [HN.out, HC.out, if_pos hnm]
          first | rfl | (congr 1; omega) | simp
      · have hni : ¬ (0 : Int) < (x.box.name.length : Int) := by omega
        go_wp2
        go_meet
        case rel =>
          refine ⟨?_, rfl⟩
          rw [HN.out, HC.out, if_neg hnm]
          first | rfl | (congr 1; omega) | simp
    case rest =>
      obtain ⟨rfl, rfl⟩ := hcut
      clear f0 f1 f2 f3 f4 f5 f6 f7 f8 f9 lA K3
      go_wp2_with fail
      go_loopw [6, 7] (fun lv iv wr => ∃ k c : Nat, k ≤ P.length ∧ iv = .int .i64 k ∧ lv = .int .i64 c ∧ c ≤ k ∧ Hid (c = (P.take k).count 10) ∧ wr = wc) (fun lv iv _ => P.length - (intOf iv).toNat)
      case atStart => exact ⟨0, 0, Nat.zero_le _, rfl, rfl, Nat.le_refl _, (show Hid _ from by simp [Hid]), rfl⟩
      case round =>
        obtain ⟨k, c, hk, rfl, rfl, hck, hcc, hwr⟩ := hrel
        subst hwr
        by_cases hlt : k < P.length
        · have hce := HCL.out k hlt
          have hstep := count_step hlt
          have hgd : P.getD k 0 = P[k] := by rw [List.getD_eq_getElem?_getD, List.getElem?_eq_getElem hlt]; rfl
          rw [hgd] at hce
          have HST := hidm hstep
          clear hstep hgd
          generalize P[k] = z at hce HST
          by_cases hz : z = 10
          · have hzb : (z == 10) = true := by simp [hz]
            go_wp2
            go_roundw
            case rel => exact ⟨k + 1, c + 1, by omega, by go_num, by go_num, by omega, hidm (by have := HST.out; rw [if_pos hz, ← hcc.out] at this; exact this.symm), by trivial⟩
            case measure => simp [intOf]; omega
          · have hzb : (z == 10) = false := by simp [hz]
            go_wp2
            go_roundw
            case rel => exact ⟨k + 1, c, by omega, by go_num, rfl, by omega, hidm (by have := HST.out; rw [if_neg hz, ← hcc.out] at this; exact this.symm), by trivial⟩
            case measure => simp [intOf]; omega
        · obtain rfl : k = P.length := by omega
          have hcn : c = n := by rw [HN.out, hcc.out, List.take_length]
          go_wp2
          go_ret
          exact ⟨by simp [hcn], X3.out⟩

end Go.Proofs.YtmonloebkdpahaaDoor

/- From what a row reads of an argument to what the walks ask: a slice of bytes that came in. -/
namespace Go.Proofs.YtmonloebkdpahaaDoor
open Go.ChangeShapes Go.WideShapes Go.ChangeAt Go.RowKit

theorem ownKnob_none : ownKnob Tryd.prog.godebug = none := by kernel_rfl
theorem laidOut : laidOutB Tryd.prog = true := by kernel_rfl

theorem wf_byte {n : Int} (h : (Lit.int .u8 n).wf = true) : 0 ≤ n ∧ n ≤ 255 := bounds_u8 h
/-- A slice of bytes that came in, as the walks want it. -/
theorem open_bytes {H : Type} {enc : TypeId × Value → H} {W : World} {base : Nat} {a : Option Addr} {len cap : Nat} {d : DataW H} {p : List MemPlace}
    (h : DataW.Trod enc Tryd.prog W base (fun _ => true) true 22 (.slice a len cap) d p) : ∃ l, Bs W (.slice a len cap) l := by
  obtain ⟨fuel, hf⟩ := h
  rcases open_ints Tryd.underlying22 Tryd.underlying5 (by kernel_rfl) hf with ⟨hcs, _⟩ | ⟨x, l, c, zs, hcs, _, hl, hm, hz, _, hcell, hwz⟩
  · simp [Value.cells] at hcs
    obtain ⟨rfl, rfl, rfl⟩ := hcs
    exact ⟨[], oct_nil, none, 0, rfl, by simp, by simp, fun _ => rfl, fun h => absurd h (by simp)⟩
  · simp [Value.cells] at hcs
    obtain ⟨rfl, rfl, rfl⟩ := hcs
    simp at hz
    have ht : (zs.take len).length = len := by simp; omega
    refine ⟨zs.take len, fun x hx => wf_byte (hwz x (List.mem_of_mem_take hx)), some x, cap, by rw [ht], by omega, hm, (fun h => by cases h), fun hp => ?_⟩
    rw [ht] at hp
    obtain ⟨b, off, spot⟩ := x
    have h0 := hcell 0 (by omega)
    have hspot : spot = none := by simpa [Addr.add] using World.cell?_spot h0
    subst hspot
    refine ⟨b, off, rfl, ?_, fun i hi => ?_⟩
    · have := World.block_lt_of_cell? W _ h0
      simpa [Addr.add] using this
    · rw [ht] at hi
      have := hcell i (by omega)
      rw [Addr.add_lit] at this
      rw [this]
      simp [hi]

end Go.Proofs.YtmonloebkdpahaaDoor

/- What the laid variables give a walk; a world that meets them. -/
namespace Go.Proofs.YtmonloebkdpahaaDoor
open Go.ChangeShapes Go.WideShapes Go.ChangeAt Go.RowKit Go.Stop

theorem gP : Tryd.prog.globalNamed "internal/strconv.uint64pow10" = some 0 := by kernel_rfl
theorem gPType : (Tryd.prog.globals[0]?).map (·.type) = some 141 := by kernel_rfl
abbrev laidL : List (String × DataW Unit) := [("math/bits.deBruijn32tab", Rows.laid_math_bits_deBruijn32tab), ("math/bits.deBruijn64tab", Rows.laid_math_bits_deBruijn64tab), ("internal/strconv.uint64pow10", Rows.laid_internal_strconv_uint64pow10)]
theorem tab_of_laid {W : World} (h : laidMetH Tryd.prog laidL W) : Tab10 W := by
  have h' : laidMet Tryd.prog laidL W := h
  have h2 : laidMet Tryd.prog (("internal/strconv.uint64pow10", Lib.tabData .u64 Lib.pow10Tab) :: []) W := h'.tail.tail
  exact Lib.tabIs_of_head gP gPType Tryd.underlying141 Tryd.underlying131 (by kernel_rfl) (by kernel_rfl) h2

def dataCells : DataW Unit → Array Value
  | .agg l => (l.map fun
    | .lit (.int k z) => Value.int k z
    | _ => undef).toArray
  | _ => #[]
def layCells (cs : Array Value) : Obj → Obj
  | .cells _ t frozen => .cells cs t frozen
  | o => o
noncomputable def laidWorld (os : Os) : World :=
  let w0 := World.holding Tryd.prog os ⟨#[], #[], []⟩
  { w0 with heap := ((w0.heap.modify 0 (layCells (dataCells Rows.laid_internal_strconv_uint64pow10))).modify 1 (layCells (dataCells Rows.laid_math_bits_deBruijn32tab))).modify 2 (layCells (dataCells Rows.laid_math_bits_deBruijn64tab)) }
theorem laid_met (os : Os) (args : Array Value) : laidMetH Tryd.prog laidL ((laidWorld os).forCall (fun _ _ => 0) ⟨#[], args, []⟩).memory :=
  laidMet_of_run' (l := laidL) 200 (by kernel_rfl) (by kernel_rfl)

end Go.Proofs.YtmonloebkdpahaaDoor
