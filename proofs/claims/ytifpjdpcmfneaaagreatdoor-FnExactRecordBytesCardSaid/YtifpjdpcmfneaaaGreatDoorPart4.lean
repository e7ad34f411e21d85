/- The proof's texts, part 4. -/
import Derived.Test.YtifpjdpcmfneaaaGreatDoorPart1
import Derived.Test.YtifpjdpcmfneaaaGreatDoorPart3
import Derived.Test.YtifpjdpcmfneaaaGreatDoorPart2
import Derived.Deep.RegionHeld3
import Derived.Lib.AppendIntMem

/- What l4digits, l4quoted, l4flags of package spec do. -/
namespace Go.Proofs.YtifpjdpcmfneaaaGreatDoor
open Go.RowKit
set_option maxRecDepth 100000
set_option linter.unusedVariables false

set_option maxRecDepth 100000 in
set_option maxHeartbeats 1000000 in
theorem l4digits_r (n : Nat) (hn : n ≤ 9999999) (w : World) :
    Calls Tryz.prog 65 #[.int .i64 n] w fun e w' => ∃ u, e = .returned u ∧ OwnB w' w.heap.size u (digB n) ∧ Below w.heap.size w w' := by
  induction n using Nat.strongRecOn generalizing w with
  | ind n ih =>
    obtain ⟨i0, hi, hz0, hz1, hz2⟩ := info_parts info5
    by_cases h : n < 10
    · have h' : (n : Int) < 10 := by omega
      have HO : Hid (OwnB (w.alloc (.cells #[.int .u8 (48 + (n : Int))] 5)) w.heap.size (.slice (some ⟨w.heap.size, 0, none⟩) 1 1) (digB n)) := by rw [digB_small h]; exact ownB_one w _ (Nat.le_refl _) _ (by omega)
      clear ih
      go_enter Tryz.func65, Tryz.ntmps65
      go_wp2
      go_ret
      exact ⟨_, rfl, HO.out, (Below.refl _ _).alloc (Nat.le_refl _) _⟩
    · have h' : ¬ (n : Int) < 10 := by omega
      have hq : (n : Int) / 10 = ((n / 10 : Nat) : Int) := by omega
      have hr : (n : Int) % 10 = ((n % 10 : Nat) : Int) := by omega
      have HD : Hid (digB n = digB (n / 10) ++ [48 + ((n % 10 : Nat) : Int)]) := digB_big h
      have hc := ih (n / 10) (by omega) (by omega) w
      have hlen := digB_len10 (show n / 10 ≤ 9999999 by omega)
      clear ih
      generalize hQ : n / 10 = Q at hq hc HD hlen
      generalize hR : n % 10 = R at hr HD
      have hRb : R < 10 := by omega
      go_enter Tryz.func65, Tryz.ntmps65
      go_wp2_with fail
      refine hc.mono ?_
      rintro e w1 ⟨u1, rfl, O1, B1⟩
      have s1 := B1.size
      have HO : Hid (OwnB w1 w.heap.size u1 (digB Q)) := O1
      have HB : Hid (Below w.heap.size w w1) := B1
      clear O1 B1 hc
      go_wp2_with (at_builtin; refine wpList_append_bytes rfl (.tmp 11) (.tmp 16) 22 rfl i0 Tryz.underlying22 hi hz0 hz1 hz2 w.heap.size _ _ rfl (HO.out.alloc _) _ [48 + (R : Int)] rfl (bs_one _ _ (by omega)) (by simp; omega) (by simp; omega) w (HB.out.alloc s1 _) ?_)
      intro v2 w2 hO2 hB2 _
      have HO2 : Hid (OwnB w2 w.heap.size v2 (digB n)) := by rw [HD.out]; exact hO2
      clear hO2
      go_wp2
      go_ret
      exact ⟨_, rfl, HO2.out, hB2⟩

set_option maxHeartbeats 1000000 in
theorem l4quoted_r (v : Value) (t : List Int) (w : World) (hv : Bs w v t) (ht : t.length ≤ 2000000) :
    Calls Tryz.prog 64 #[v] w fun e w' => ∃ u, e = .returned u ∧ OwnB w' w.heap.size u (quoB t) ∧ Below w.heap.size w w' := by
  have HV : Hid (∀ wi, Below w.heap.size w wi → Bs wi v t) := fun wi h => hv.below h
  obtain ⟨ho, a, cap, rfl, hlc, hcm, -⟩ := hv
  unfold maxLen at hcm
  obtain ⟨i0, hi, hz0, hz1, hz2⟩ := info_parts info5
  have H0 : Hid (OwnB (w.alloc (.cells #[.int .u8 34] 5)) w.heap.size (.slice (some ⟨w.heap.size, 0, none⟩) 1 1) ([34] ++ (t.take 0).flatMap escB)) := by simpa [Hid] using ownB_one w _ (Nat.le_refl _) 34 (by omega)
  have HB : Hid (Below w.heap.size w (w.alloc (.cells #[.int .u8 34] 5))) := (Below.refl _ _).alloc (Nat.le_refl _) _
  go_enter Tryz.func64, Tryz.ntmps64
  go_wp2
  go_loopw [3, 4] (fun b i wr => ∃ k : Nat, k ≤ t.length ∧ i = .int .i64 k ∧ Hid (OwnB wr w.heap.size b ([34] ++ (t.take k).flatMap escB)) ∧ Hid (Below w.heap.size w wr)) (fun _ i _ => t.length - (intOf i).toNat)
  case atStart => exact ⟨0, Nat.zero_le _, rfl, H0, HB⟩
  case round =>
    clear H0 HB
    obtain ⟨k, hk, rfl, hO, hB⟩ := hrel
    have hsz := hB.out.size
    have hfl := flat_len escB 2 (t.take k) (fun x _ => escB_len x)
    have htk : (t.take k).length ≤ 2000000 := by simp; omega
    by_cases hlt : k < t.length
    · obtain ⟨x, hx⟩ : ∃ x, t[k]? = some x := ⟨t[k], List.getElem?_eq_getElem hlt⟩
      have hxo : 0 ≤ x ∧ x ≤ 255 := ho x (List.mem_of_getElem? hx)
      have HST : Hid ((t.take (k + 1)).flatMap escB = (t.take k).flatMap escB ++ escB x) := flat_step escB hx
      obtain ⟨ho', a', cap', hv', -, -, -, hcells⟩ := HV.out wr hB.out
      simp only [Value.slice.injEq, true_and] at hv'
      obtain ⟨rfl, rfl⟩ := hv'
      obtain ⟨b, off, rfl, hlb, hc⟩ := hcells (by omega)
      have d0 := hc k hlt
      rw [List.getD_eq_getElem?_getD, hx, Option.getD_some] at d0
      clear hcells hc ho'
      by_cases he : x = 34 ∨ x = 92
      · have HE : Hid (escB x = [92, x]) := by simp only [Hid, escB, if_pos he]
        rcases he with rfl | rfl
        all_goals
          go_wp2_with (at_builtin; refine wpList_append_bytes rfl (.tmp 24) (.tmp 25) 22 rfl i0 Tryz.underlying22 hi hz0 hz1 hz2 w.heap.size _ _ rfl (hO.out.alloc _) _ [92] rfl (bs_one _ _ (by omega)) (by simp only [List.length_append, List.length_cons, List.length_nil]; omega) (by simp; omega) w (hB.out.alloc hsz _) ?_)
          intro v2 w2 hO2 hB2 _
          have s2 := hB2.size
          have HO2 : Hid (OwnB w2 w.heap.size v2 ([34] ++ (t.take k).flatMap escB ++ [92])) := by simpa [Hid] using hO2
          obtain ⟨_, a', cap', hv', -, -, -, hcells⟩ := HV.out w2 hB2
          simp only [Value.slice.injEq, true_and] at hv'
          obtain ⟨rfl, rfl⟩ := hv'
          obtain ⟨b2, off2, hb2, hlb2, hc2⟩ := hcells (by omega)
          simp only [Option.some.injEq, Addr.mk.injEq, and_true] at hb2
          obtain ⟨rfl, rfl⟩ := hb2
          have d2 := hc2 k hlt
          rw [List.getD_eq_getElem?_getD, hx, Option.getD_some] at d2
          clear hO2 d0 hcells hc2 hO hB hlb
          go_wp2_with (at_builtin; refine wpList_append_bytes rfl (.tmp 27) (.tmp 32) 22 rfl i0 Tryz.underlying22 hi hz0 hz1 hz2 w.heap.size _ _ rfl (HO2.out.alloc _) _ _ rfl (bs_one _ _ (by omega)) (by simp only [List.length_append, List.length_cons, List.length_nil]; omega) (by simp; omega) w (hB2.alloc s2 _) ?_)
          intro v3 w3 hO3 hB3 _
          have HO3 : Hid (OwnB w3 w.heap.size v3 ([34] ++ (t.take (k + 1)).flatMap escB)) := by
            rw [HST.out, HE.out]
            simpa [Hid, show List.range 1 = [0] from rfl, show List.range 2 = [0, 1] from rfl, show List.range 3 = [0, 1, 2] from rfl, show List.range 4 = [0, 1, 2, 3] from rfl] using hO3
          clear hO3
          go_wp2
          go_roundw
          case rel => exact ⟨k + 1, by omega, by go_num, HO3, hB3⟩
          case measure => simp [intOf]; omega
      · have HE : Hid (escB x = [x]) := by simp only [Hid, escB, if_neg he]
        have h34 : x ≠ 34 := by omega
        have h92 : x ≠ 92 := by omega
        have b34 : (x == 34) = false := by simp [h34]
        have b92 : (x == 92) = false := by simp [h92]
        go_wp2_with (at_builtin; refine wpList_append_bytes rfl (.tmp 27) (.tmp 32) 22 rfl i0 Tryz.underlying22 hi hz0 hz1 hz2 w.heap.size _ _ rfl (hO.out.alloc _) _ [x] rfl (bs_one _ _ (by omega)) (by simp only [List.length_append, List.length_cons, List.length_nil]; omega) (by simp; omega) w (hB.out.alloc hsz _) ?_)
        intro v3 w3 hO3 hB3 _
        have HO3 : Hid (OwnB w3 w.heap.size v3 ([34] ++ (t.take (k + 1)).flatMap escB)) := by
          rw [HST.out, HE.out]
          simpa [Hid] using hO3
        clear hO3
        go_wp2
        go_roundw
        case rel => exact ⟨k + 1, by omega, by go_num, HO3, hB3⟩
        case measure => simp [intOf]; omega
    · obtain rfl : k = t.length := by omega
      go_wp2_with (at_builtin; refine wpList_append_bytes rfl (.tmp 34) (.tmp 35) 22 rfl i0 Tryz.underlying22 hi hz0 hz1 hz2 w.heap.size _ _ rfl (hO.out.alloc _) _ [34] rfl (bs_one _ _ (by omega)) (by simp only [List.length_append, List.length_cons, List.length_nil]; omega) (by simp; omega) w (hB.out.alloc hsz _) ?_)
      intro v2 w2 hO2 hB2 _
      have HO2 : Hid (OwnB w2 w.heap.size v2 (quoB t)) := by simpa [Hid, quoB] using hO2
      clear hO2
      go_wp2
      go_ret
      exact ⟨_, rfl, HO2.out, hB2⟩

theorem bit_one : ∀ x : Nat, x ≤ 31 → (bits BinOp.and IntKind.i64 (x : Int) 1 == 1) = decide (x % 2 = 1) := by
  intro x hx
  have h : ∀ x : Fin 32, (bits BinOp.and IntKind.i64 ((x : Nat) : Int) 1 == 1) = decide ((x : Nat) % 2 = 1) := by decide +kernel
  exact h ⟨x, by omega⟩
set_option maxRecDepth 100000 in
set_option maxHeartbeats 1000000 in
theorem l4flags_r (f : Nat) (hf : f ≤ 31) (w : World) :
    Calls Tryz.prog 63 #[.int .i64 f] w fun e w' => ∃ u, e = .returned u ∧ OwnB w' w.heap.size u (flagsB f) ∧ Below w.heap.size w w' := by
  obtain ⟨i0, hi, hz0, hz1, hz2⟩ := info_parts info5
  have H0 : Hid (OwnB (w.alloc (.cells #[.int .u8 40] 5)) w.heap.size (.slice (some ⟨w.heap.size, 0, none⟩) 1 1) ([40] ++ (List.range 0).flatMap (flagAt f))) := by simpa [Hid] using ownB_one w _ (Nat.le_refl _) 40 (by omega)
  have HB : Hid (Below w.heap.size w (w.alloc (.cells #[.int .u8 40] 5))) := (Below.refl _ _).alloc (Nat.le_refl _) _
  go_enter Tryz.func63, Tryz.ntmps63
  go_wp2
  go_loopw [3, 4] (fun b i wr => ∃ k : Nat, k ≤ 5 ∧ i = .int .i64 k ∧ Hid (OwnB wr w.heap.size b ([40] ++ (List.range k).flatMap (flagAt f))) ∧ Hid (Below w.heap.size w wr)) (fun _ i _ => 5 - (intOf i).toNat)
  case atStart => exact ⟨0, Nat.zero_le _, rfl, H0, HB⟩
  case round =>
    clear H0 HB
    obtain ⟨k, hk, rfl, hO, hB⟩ := hrel
    have hsz := hB.out.size
    have hfl := flat_len (flagAt f) 1 (List.range k) (fun x _ => flagAt_len f x)
    simp only [List.length_range] at hfl
    by_cases hlt : k < 5
    · have HST : Hid ((List.range (k + 1)).flatMap (flagAt f) = (List.range k).flatMap (flagAt f) ++ flagAt f k) := range5_step f k
      have hsmall : ∀ P : Nat, 0 < P → f / P ≤ 31 := fun P hp => Nat.le_trans (Nat.div_le_self _ _) hf
      obtain rfl | rfl | rfl | rfl | rfl : k = 0 ∨ k = 1 ∨ k = 2 ∨ k = 3 ∨ k = 4 := by omega
      · have hE : flagAt f 0 = (if f % 2 = 1 then [83] else []) := by simp [flagAt, letB]
        have hb : (bits BinOp.and IntKind.i64 (f : Int) 1 == 1) = decide (f % 2 = 1) := by
          have h := bit_one (f) (hf)
          simpa using h
        by_cases hc : f % 2 = 1
        · rw [if_pos hc] at hE
          rw [decide_eq_true hc] at hb
          have HE : Hid (flagAt f 0 = [83]) := hE
          clear hE
          go_wp2_with (at_builtin; refine wpList_append_bytes rfl (.tmp 15) (.tmp 18) 22 rfl i0 Tryz.underlying22 hi hz0 hz1 hz2 w.heap.size _ _ rfl (hO.out.alloc _) _ [83] rfl (bs_one _ 83 (by omega)) (by simp only [List.length_append, List.length_cons, List.length_nil]; omega) (by simp; omega) w (hB.out.alloc hsz _) ?_)
          intro v3 w3 hO3 hB3 _
          have HO3 : Hid (OwnB w3 w.heap.size v3 ([40] ++ (List.range (0 + 1)).flatMap (flagAt f))) := by
            rw [HST.out, HE.out]
            simpa [Hid, show List.range 1 = [0] from rfl, show List.range 2 = [0, 1] from rfl, show List.range 3 = [0, 1, 2] from rfl, show List.range 4 = [0, 1, 2, 3] from rfl] using hO3
          clear hO3
          go_wp2
          go_roundw
          case rel => exact ⟨0 + 1, by omega, by go_num, HO3, hB3⟩
          case measure => simp [intOf]
        · rw [if_neg hc] at hE
          rw [decide_eq_false hc] at hb
          have HEQ : Hid ([40] ++ (List.range 0).flatMap (flagAt f) = [40] ++ (List.range (0 + 1)).flatMap (flagAt f)) := by rw [Hid, HST.out, hE, List.append_nil]
          clear hE
          go_wp2
          go_roundw
          case rel => exact ⟨0 + 1, by omega, by go_num, by rw [← HEQ.out]; exact hO, hB⟩
          case measure => simp [intOf]
      · have hE : flagAt f 1 = (if f / 2 % 2 = 1 then [65] else []) := by simp [flagAt, letB]
        have hb : (bits BinOp.and IntKind.i64 ((f : Int) / 2) 1 == 1) = decide (f / 2 % 2 = 1) := by
          have h := bit_one (f / 2) (hsmall 2 (by omega))
          simpa using h
        by_cases hc : f / 2 % 2 = 1
        · rw [if_pos hc] at hE
          rw [decide_eq_true hc] at hb
          have HE : Hid (flagAt f 1 = [65]) := hE
          clear hE
          go_wp2_with (at_builtin; refine wpList_append_bytes rfl (.tmp 15) (.tmp 18) 22 rfl i0 Tryz.underlying22 hi hz0 hz1 hz2 w.heap.size _ _ rfl (hO.out.alloc _) _ [65] rfl (bs_one _ 65 (by omega)) (by simp only [List.length_append, List.length_cons, List.length_nil]; omega) (by simp; omega) w (hB.out.alloc hsz _) ?_)
          intro v3 w3 hO3 hB3 _
          have HO3 : Hid (OwnB w3 w.heap.size v3 ([40] ++ (List.range (1 + 1)).flatMap (flagAt f))) := by
            rw [HST.out, HE.out]
            simpa [Hid, show List.range 1 = [0] from rfl, show List.range 2 = [0, 1] from rfl, show List.range 3 = [0, 1, 2] from rfl, show List.range 4 = [0, 1, 2, 3] from rfl] using hO3
          clear hO3
          go_wp2
          go_roundw
          case rel => exact ⟨1 + 1, by omega, by go_num, HO3, hB3⟩
          case measure => simp [intOf]
        · rw [if_neg hc] at hE
          rw [decide_eq_false hc] at hb
          have HEQ : Hid ([40] ++ (List.range 1).flatMap (flagAt f) = [40] ++ (List.range (1 + 1)).flatMap (flagAt f)) := by rw [Hid, HST.out, hE, List.append_nil]
          clear hE
          go_wp2
          go_roundw
          case rel => exact ⟨1 + 1, by omega, by go_num, by rw [← HEQ.out]; exact hO, hB⟩
          case measure => simp [intOf]
      · have hE : flagAt f 2 = (if f / 4 % 2 = 1 then [70] else []) := by simp [flagAt, letB]
        have hb : (bits BinOp.and IntKind.i64 ((f : Int) / 4) 1 == 1) = decide (f / 4 % 2 = 1) := by
          have h := bit_one (f / 4) (hsmall 4 (by omega))
          simpa using h
        by_cases hc : f / 4 % 2 = 1
        · rw [if_pos hc] at hE
          rw [decide_eq_true hc] at hb
          have HE : Hid (flagAt f 2 = [70]) := hE
          clear hE
          go_wp2_with (at_builtin; refine wpList_append_bytes rfl (.tmp 15) (.tmp 18) 22 rfl i0 Tryz.underlying22 hi hz0 hz1 hz2 w.heap.size _ _ rfl (hO.out.alloc _) _ [70] rfl (bs_one _ 70 (by omega)) (by simp only [List.length_append, List.length_cons, List.length_nil]; omega) (by simp; omega) w (hB.out.alloc hsz _) ?_)
          intro v3 w3 hO3 hB3 _
          have HO3 : Hid (OwnB w3 w.heap.size v3 ([40] ++ (List.range (2 + 1)).flatMap (flagAt f))) := by
            rw [HST.out, HE.out]
            simpa [Hid, show List.range 1 = [0] from rfl, show List.range 2 = [0, 1] from rfl, show List.range 3 = [0, 1, 2] from rfl, show List.range 4 = [0, 1, 2, 3] from rfl] using hO3
          clear hO3
          go_wp2
          go_roundw
          case rel => exact ⟨2 + 1, by omega, by go_num, HO3, hB3⟩
          case measure => simp [intOf]
        · rw [if_neg hc] at hE
          rw [decide_eq_false hc] at hb
          have HEQ : Hid ([40] ++ (List.range 2).flatMap (flagAt f) = [40] ++ (List.range (2 + 1)).flatMap (flagAt f)) := by rw [Hid, HST.out, hE, List.append_nil]
          clear hE
          go_wp2
          go_roundw
          case rel => exact ⟨2 + 1, by omega, by go_num, by rw [← HEQ.out]; exact hO, hB⟩
          case measure => simp [intOf]
      · have hE : flagAt f 3 = (if f / 8 % 2 = 1 then [68] else []) := by simp [flagAt, letB]
        have hb : (bits BinOp.and IntKind.i64 ((f : Int) / 8) 1 == 1) = decide (f / 8 % 2 = 1) := by
          have h := bit_one (f / 8) (hsmall 8 (by omega))
          simpa using h
        by_cases hc : f / 8 % 2 = 1
        · rw [if_pos hc] at hE
          rw [decide_eq_true hc] at hb
          have HE : Hid (flagAt f 3 = [68]) := hE
          clear hE
          go_wp2_with (at_builtin; refine wpList_append_bytes rfl (.tmp 15) (.tmp 18) 22 rfl i0 Tryz.underlying22 hi hz0 hz1 hz2 w.heap.size _ _ rfl (hO.out.alloc _) _ [68] rfl (bs_one _ 68 (by omega)) (by simp only [List.length_append, List.length_cons, List.length_nil]; omega) (by simp; omega) w (hB.out.alloc hsz _) ?_)
          intro v3 w3 hO3 hB3 _
          have HO3 : Hid (OwnB w3 w.heap.size v3 ([40] ++ (List.range (3 + 1)).flatMap (flagAt f))) := by
            rw [HST.out, HE.out]
            simpa [Hid, show List.range 1 = [0] from rfl, show List.range 2 = [0, 1] from rfl, show List.range 3 = [0, 1, 2] from rfl, show List.range 4 = [0, 1, 2, 3] from rfl] using hO3
          clear hO3
          go_wp2
          go_roundw
          case rel => exact ⟨3 + 1, by omega, by go_num, HO3, hB3⟩
          case measure => simp [intOf]
        · rw [if_neg hc] at hE
          rw [decide_eq_false hc] at hb
          have HEQ : Hid ([40] ++ (List.range 3).flatMap (flagAt f) = [40] ++ (List.range (3 + 1)).flatMap (flagAt f)) := by rw [Hid, HST.out, hE, List.append_nil]
          clear hE
          go_wp2
          go_roundw
          case rel => exact ⟨3 + 1, by omega, by go_num, by rw [← HEQ.out]; exact hO, hB⟩
          case measure => simp [intOf]
      · have hE : flagAt f 4 = (if f / 16 % 2 = 1 then [82] else []) := by simp [flagAt, letB]
        have hb : (bits BinOp.and IntKind.i64 ((f : Int) / 16) 1 == 1) = decide (f / 16 % 2 = 1) := by
          have h := bit_one (f / 16) (hsmall 16 (by omega))
          simpa using h
        by_cases hc : f / 16 % 2 = 1
        · rw [if_pos hc] at hE
          rw [decide_eq_true hc] at hb
          have HE : Hid (flagAt f 4 = [82]) := hE
          clear hE
          go_wp2_with (at_builtin; refine wpList_append_bytes rfl (.tmp 15) (.tmp 18) 22 rfl i0 Tryz.underlying22 hi hz0 hz1 hz2 w.heap.size _ _ rfl (hO.out.alloc _) _ [82] rfl (bs_one _ 82 (by omega)) (by simp only [List.length_append, List.length_cons, List.length_nil]; omega) (by simp; omega) w (hB.out.alloc hsz _) ?_)
          intro v3 w3 hO3 hB3 _
          have HO3 : Hid (OwnB w3 w.heap.size v3 ([40] ++ (List.range (4 + 1)).flatMap (flagAt f))) := by
            rw [HST.out, HE.out]
            simpa [Hid, show List.range 1 = [0] from rfl, show List.range 2 = [0, 1] from rfl, show List.range 3 = [0, 1, 2] from rfl, show List.range 4 = [0, 1, 2, 3] from rfl] using hO3
          clear hO3
          go_wp2
          go_roundw
          case rel => exact ⟨4 + 1, by omega, by go_num, HO3, hB3⟩
          case measure => simp [intOf]
        · rw [if_neg hc] at hE
          rw [decide_eq_false hc] at hb
          have HEQ : Hid ([40] ++ (List.range 4).flatMap (flagAt f) = [40] ++ (List.range (4 + 1)).flatMap (flagAt f)) := by rw [Hid, HST.out, hE, List.append_nil]
          clear hE
          go_wp2
          go_roundw
          case rel => exact ⟨4 + 1, by omega, by go_num, by rw [← HEQ.out]; exact hO, hB⟩
          case measure => simp [intOf]
    · obtain rfl : k = 5 := by omega
      go_wp2_with (at_builtin; refine wpList_append_bytes rfl (.tmp 20) (.tmp 21) 22 rfl i0 Tryz.underlying22 hi hz0 hz1 hz2 w.heap.size _ _ rfl (hO.out.alloc _) _ _ rfl (bs_one _ _ (by omega)) (by simp only [List.length_append, List.length_cons, List.length_nil]; omega) (by simp; omega) w (hB.out.alloc hsz _) ?_)
      intro v2 w2 hO2 hB2 _
      have HO2 : Hid (OwnB w2 w.heap.size v2 (flagsB f)) := by simpa [Hid, flagsB, show List.range 5 = [0, 1, 2, 3, 4] from rfl] using hO2
      clear hO2
      go_wp2
      go_ret
      exact ⟨_, rfl, HO2.out, hB2⟩

end Go.Proofs.YtifpjdpcmfneaaaGreatDoor

/- Commands as texts, on lists. -/
namespace Go.Proofs.YtifpjdpcmfneaaaGreatDoor
open Go.RowKit

def kindW (k : Int) : List Int :=
  if k = 0 then [67, 82, 69, 65, 84, 69] else if k = 1 then [68, 69, 76, 69, 84, 69] else if k = 2 then [65, 80, 80, 69, 78, 68] else if k = 3 then [83, 84, 79, 82, 69] else if k = 4 then [69, 88, 80, 85, 78, 71, 69] else if k = 5 then [70, 69, 84, 67, 72] else if k = 6 then [67, 79, 80, 89] else if k = 7 then [83, 84, 65, 84, 85, 83] else if k = 8 then [67, 72, 65, 78, 71, 69, 83] else [76, 73, 83, 84]
def modeW (m : Int) : List Int := if m = 0 then [73, 83] else if m = 1 then [87, 73, 84, 72] else [87, 73, 84, 72, 79, 85, 84]
def sinceW : List Int := [83, 73, 78, 67, 69]
def awayW : List Int := [65, 87, 65, 89]
/-- What stands behind the kind's word. -/
def toksB (k : Int) (bx tt : List Int) (uid mode fl si : Int) (tx : List Int) : List (List Int) :=
  if k = 9 then [] else if k = 2 then [bx, flagsB fl, quoB tx]
  else if k = 3 then (if 0 < si then [bx, digB uid.toNat, modeW mode, flagsB fl, sinceW, digB si.toNat] else [bx, digB uid.toNat, modeW mode, flagsB fl])
  else if k = 5 then [bx, digB uid.toNat]
  else if k = 6 then (if mode = 1 then [bx, digB uid.toNat, tt, awayW] else [bx, digB uid.toNat, tt])
  else if k = 8 then [bx, digB si.toNat] else [bx]
/-- What CmdText answers. -/
def ctB (k : Int) (bx tt : List Int) (uid mode fl si : Int) (tx : List Int) : List Int := match cmdB k bx tt uid mode fl si tx with
  | true => kindW k ++ (toksB k bx tt uid mode fl si tx).flatMap (fun s => [32] ++ s)
  | false => []

end Go.Proofs.YtifpjdpcmfneaaaGreatDoor

/- What stays while bytes of the call's own are put behind one another: all below B, and all that are no bytes. -/
namespace Go.Proofs.YtifpjdpcmfneaaaGreatDoor
open Go.RowKit

structure Tw (B : Nat) (w w' : World) : Prop where
  below : Below B w w'
  typed : ∀ (b : Nat) (c : Array Value) (t : TypeId) (f : Nat × Nat), t ≠ 5 → w.heap[b]? = some (Obj.cells c t f) → w'.heap[b]? = some (Obj.cells c t f)

theorem Tw.refl (B : Nat) (w : World) : Tw B w w := ⟨Below.refl _ _, fun _ _ _ _ _ h => h⟩
theorem Tw.trans {B : Nat} {a b c : World} (h : Tw B a b) (k : Tw B b c) : Tw B a c := ⟨h.below.trans k.below, fun i cs t f ht hc => k.typed i cs t f ht (h.typed i cs t f ht hc)⟩
theorem Tw.of_below {B : Nat} {w w' : World} (hB : B ≤ w.heap.size) (h : Below w.heap.size w w') : Tw B w w' := ⟨h.mono hB, fun b _ _ _ _ hb => (h.block b (lt_of_heap hb)).trans hb⟩
theorem Tw.alloc {B : Nat} {w : World} (hB : B ≤ w.heap.size) (o : Obj) : Tw B w (w.alloc o) := Tw.of_below hB ((Below.refl _ _).alloc (Nat.le_refl _) o)
theorem Tw.grown {B : Nat} {w w' : World} {v : Value} {l : List Int} (hv : OwnB w B v l) (hB : B ≤ w.heap.size) (hg : w.grownBy w' v.ownBlock) : Tw B w w' := by
  refine ⟨(Below.refl B w).grown hg hB (fun k hk => (hv.row.lt k hk).1), fun b c t f ht hb => (hg.block b (lt_of_heap hb) fun e => ?_).trans hb⟩
  obtain ⟨g, _, _, ⟨rfl, _⟩ | ⟨cap, cur, rfl, hh, _⟩⟩ := hv
  · simp [Value.ownBlock] at e
  · simp only [Value.ownBlock, Option.some.injEq] at e
    subst e
    rw [hb] at hh
    simp only [Option.some.injEq, Obj.cells.injEq] at hh
    exact ht hh.2.1
theorem Tw.size {B : Nat} {w w' : World} (h : Tw B w w') : w.heap.size ≤ w'.heap.size := h.below.size
theorem Tw.box {B g : Nat} {w w' : World} {c : Array Value} {t : TypeId} (h : Tw B w w') (ht : t ≠ 5) (hb : w.heap[g]? = some (.cells c t (0, 0))) : w'.heap[g]? = some (.cells c t (0, 0)) := h.typed g c t _ ht hb
theorem OwnB.nil' (w : World) (B : Nat) : OwnB w B (.slice none 0 0) [] := ⟨B, Nat.le_refl _, oct_nil, .inl ⟨rfl, rfl⟩⟩

end Go.Proofs.YtifpjdpcmfneaaaGreatDoor

/- What l4kind of package spec does. -/
namespace Go.Proofs.YtifpjdpcmfneaaaGreatDoor
open Go.RowKit
set_option maxRecDepth 100000
set_option linter.unusedVariables false

set_option maxRecDepth 100000 in
set_option maxHeartbeats 2000000 in
theorem l4kind_r (k : Int) (h : 0 ≤ k ∧ k ≤ 9) (w : World) :
    Calls Tryz.prog 61 #[.int .i64 k] w fun e w' => e = .returned (.string (strOfNums (kindW k))) ∧ Below w.heap.size w w' := by
  have hk : k = 0 ∨ k = 1 ∨ k = 2 ∨ k = 3 ∨ k = 4 ∨ k = 5 ∨ k = 6 ∨ k = 7 ∨ k = 8 ∨ k = 9 := by omega
  rcases hk with rfl | rfl | rfl | rfl | rfl | rfl | rfl | rfl | rfl | rfl
  all_goals
    go_enter Tryz.func61, Tryz.ntmps61
    go_wp2
    go_ret
    exact ⟨rfl, (Below.refl _ _).alloc (Nat.le_refl _) _⟩

end Go.Proofs.YtifpjdpcmfneaaaGreatDoor

/- Regions that draw their order, walked in the text's order: what each operation asks of the others is reckoned once for a region, in a table. -/
namespace Go.Proofs.YtifpjdpcmfneaaaGreatDoor
set_option linter.unusedVariables false

/-- The operations of the region with this number. -/
def opsAt (id : Nat) : Code → Option (Array Oper)
  | .region i ops _ => if i == id then some ops else none
  | .seq a b => (opsAt id a).or (opsAt id b)
  | .cond _ a b => (opsAt id a).or (opsAt id b)
  | .block _ a => opsAt id a
  | .loop a => opsAt id a
  | _ => none

/-- The first i of n are listed. -/
def upto (n i : Nat) : Array Bool := (List.replicate i true ++ List.replicate (n - i) false).toArray
theorem upto_zero (n : Nat) : upto n 0 = Array.replicate n false := by simp [upto]
theorem upto_succ {n i : Nat} (h : i < n) : (upto n i).setIfInBounds i true = upto n (i + 1) := by
  have e : n - i = (n - (i + 1)) + 1 := by omega
  unfold upto
  rw [List.setIfInBounds_toArray]
  congr 1
  rw [List.set_append_right _ _ (by simp), List.length_replicate, Nat.sub_self, e, List.replicate_succ, List.set_cons_zero, List.replicate_succ', List.append_assoc]
  rfl

def statAt (ops : Array Oper) (n i : Nat) : Bool := Region.free .any ops (upto n i) i && (Region.ready .any ops (upto n i)).contains i
/-- cs: the operations that come up alone. -/
def table (ops : Array Oper) (n : Nat) (cs : List Nat) : Bool := (ops.size == n) && (Region.noSelect ops && ((List.range n).all (statAt ops n) && ((Region.ready .any ops (upto n n)).isEmpty && cs.all fun i => (Nat.blt i n) && (Region.ready .any ops (upto n i) == [i]))))

/-- The table's word, in a wrapping that no walk looks into. -/
structure Tab (ops : Array Oper) (n : Nat) (cs : List Nat) : Prop where
  out : table ops n cs = true

/-- What is left of the region when the first i operations are done. -/
def wpAt (P : Program) (ops : Array Oper) (Q : Exit → Act → World → Prop) (S : World → Prop) (n i : Nat) (a : Act) (w : World) : Prop := wpAnyH P .any ops Q S (n - i) (upto n i) a w

/-- Slot d filled: what 'put' does, in a form that computes by itself. -/
def setT (a : Act) (d : Nat) (v : Value) : Act := { a with tmps := (a.tmps.toList.set d v).toArray }
theorem put_setT (a : Act) (d : Nat) (v : Value) : a.put (some d) v = setT a d v := by
  unfold Act.put setT
  simp only
  congr 1
  exact Array.ext' (by simp)

section
variable {P : Program} {ops : Array Oper} {Q : Exit → Act → World → Prop} {S : World → Prop} {n : Nat} {cs : List Nat} {a : Act} {w : World}
theorem tab_of {c : Option Code} {id : Nat} (h : c.bind (opsAt id) = some ops) (T : (c.bind (opsAt id)).all (fun o => table o n cs) = true) : Tab ops n cs := by
  rw [h] at T; exact ⟨by simpa using T⟩
theorem table_parts (T' : Tab ops n cs) : ops.size = n ∧ Region.noSelect ops = true ∧ (∀ i, i < n → Region.free .any ops (upto n i) i = true ∧ (Region.ready .any ops (upto n i)).contains i = true) ∧ Region.ready .any ops (upto n n) = [] ∧ ∀ i, i ∈ cs → i < n ∧ Region.ready .any ops (upto n i) = [i] := by
  have T := T'.out
  simp only [table, Bool.and_eq_true, beq_iff_eq, List.all_eq_true, List.mem_range, statAt, List.isEmpty_iff, Nat.blt_eq] at T
  exact ⟨T.1, T.2.1, fun i hi => T.2.2.1 i hi, T.2.2.2.1, fun i hi => T.2.2.2.2 i hi⟩
theorem wp_begin {id : Nat} (T : Tab ops n cs) (hm : P.follows .mixedOrders = true) (hS : S w.drew) (h : Tab ops n cs → S w.drew → wpAt P ops Q S n 0 a w.drew) : Code.wp P (.region id ops true) Q a w := by
  refine wp_region_held_drew (S := S) hm hS fun hs => ?_
  obtain ⟨h1, -⟩ := table_parts T
  subst h1
  rw [← upto_zero]
  exact h T hs
/-- Operation i is taken; it is wanted. -/
theorem tkp (i d : Nat) {oi : Oper} (v : Value) (T : Tab ops n cs) (hy : ∀ w, S w → (execOp a.eval oi).run P w = .ok (.value v) w) (hS : S w) (h : wpAt P ops Q S n (i + 1) (setT a d v) w)
    (hi : ops[i]? = some oi := by rfl)
    (hg : (oi.dst == some d && Region.wanted oi (yielded ops a.tmps)) = true := by kernel_rfl)
    (hQ : ∀ c a w, Q (.panic c) (a.put (some d) v) w → Q (.panic c) a w := by exact fun _ _ _ h => h) : wpAt P ops Q S n i a w := by
  obtain ⟨h1, h2, h3, h4, h5⟩ := table_parts T
  have hlt : i < n := by have := (Array.getElem?_eq_some_iff.1 hi).1; omega
  simp only [Bool.and_eq_true, beq_iff_eq] at hg
  rw [← put_setT] at h
  unfold wpAt at h ⊢
  rw [show n - i = (n - (i + 1)) + 1 by omega]
  rw [← upto_succ hlt] at h
  exact wpAnyH_take hi h2 (h3 i hlt).1 (h3 i hlt).2 (by rw [hg.1]; exact hQ) (Or.inl ⟨hg.2, hy⟩) hS (by rw [hg.1]; exact h)
/-- None of these is wanted; ds: the slots that they would fill. -/
def skipsD (ops : Array Oper) : Nat → List Nat → Array Value → Bool
  | _, [], _ => true
  | i, d :: ds, tm => match ops[i]? with
    | some o => (o.dst == some d) && (!(Region.wanted o (yielded ops tm)) && skipsD ops (i + 1) ds (tm.toList.set d undef).toArray)
    | none => false
theorem skp (T : Tab ops n cs) (hQ : ∀ (d : Nat) v c a w, Q (.panic c) (a.put (some d) v) w → Q (.panic c) a w) (hS : S w) :
    ∀ (ds : List Nat) (i : Nat) (a : Act), skipsD ops i ds a.tmps = true → wpAt P ops Q S n (i + ds.length) (ds.foldl (fun a d => setT a d undef) a) w → wpAt P ops Q S n i a w
  | [], _, _, _, h => h
  | d :: ds, i, a, hk, h => by
    unfold skipsD at hk
    split at hk
    · rename_i o ho
      simp only [Bool.and_eq_true, beq_iff_eq, Bool.not_eq_true'] at hk
      obtain ⟨k1, k2, k3⟩ := hk
      obtain ⟨h1, h2, h3, h4, h5⟩ := table_parts T
      have hlt : i < n := by have := (Array.getElem?_eq_some_iff.1 ho).1; omega
      have hr := skp T hQ hS ds (i + 1) (setT a d undef) (by simpa [setT] using k3) (by rw [show i + 1 + ds.length = i + (d :: ds).length by simp; omega]; exact h)
      rw [← put_setT] at hr
      unfold wpAt at hr ⊢
      rw [show n - i = (n - (i + 1)) + 1 by omega]
      rw [← upto_succ hlt] at hr
      exact wpAnyH_take (v := undef) ho h2 (h3 i hlt).1 (h3 i hlt).2 (fun c a w => by rw [k1]; exact hQ d _ c a w) (Or.inr ⟨k2, rfl⟩) hS (by rw [k1]; exact hr)
    · cases hk
theorem skj {i j : Nat} (ds : List Nat) (hj : i + ds.length = j) (T : Tab ops n cs) (hQ : ∀ (d : Nat) v c a w, Q (.panic c) (a.put (some d) v) w → Q (.panic c) a w) (hS : S w) (hk : skipsD ops i ds a.tmps = true)
    (h : wpAt P ops Q S n j (ds.foldl (fun a d => setT a d undef) a) w) : wpAt P ops Q S n i a w := skp T hQ hS ds i a hk (by rw [hj]; exact h)
/-- Operation i is a call: it comes up alone. -/
theorem clp (i : Nat) (T : Tab ops n cs) (hi : i ∈ cs) (h : AllReadyH P .any ops Q S (n - (i + 1)) (upto n i) a w [i]) : wpAt P ops Q S n i a w := by
  obtain ⟨h1, h2, h3, h4, h5⟩ := table_parts T
  have hlt := (h5 i hi).1
  unfold wpAt
  rw [show n - i = (n - (i + 1)) + 1 by omega]
  exact wpAnyH_ready (h5 i hi).2 (by simp) h
theorem wpAt_in {i f : Nat} {l : Array Bool} (hlt : i < n) (hf : f = n - (i + 1)) (hl : l = (upto n i).setIfInBounds i true) (h : wpAt P ops Q S n (i + 1) a w) : wpAnyH P .any ops Q S f l a w := by
  subst hf hl
  rw [upto_succ hlt]
  exact h
theorem wp_end (T : Tab ops n cs) (h : Q .normal a w) : wpAt P ops Q S n n a w := by
  obtain ⟨h1, h2, h3, h4, h5⟩ := table_parts T
  exact wpAnyH_done h4 h _
end
theorem putA {α : Type} (l : List α) (i : Nat) (a : α) : l.toArray.setIfInBounds i a = (l.set i a).toArray := by simp
theorem put0 {α : Type} (x : α) (l : List α) (a : α) : (x :: l).set 0 a = a :: l := rfl
theorem putS {α : Type} (x : α) (l : List α) (i : Nat) (a : α) : (x :: l).set (i + 1) a = x :: l.set i a := rfl

/-- 'tkp', what it yields and the state behind it found by themselves. -/
theorem tkq {P : Program} {ops : Array Oper} {Q : Exit → Act → World → Prop} {S : World → Prop} {n : Nat} {cs : List Nat} {a a' : Act} {w : World} (i d : Nat) {oi : Oper} {v : Value} (T : Tab ops n cs) (hS : S w) (h : wpAt P ops Q S n (i + 1) a' w)
    (hi : ops[i]? = some oi := by rfl)
    (hg : (oi.dst == some d && Region.wanted oi (yielded ops a.tmps)) = true := by kernel_rfl)
    (hy : ∀ w, S w → (execOp a.eval oi).run P w = .ok (.value v) w := by (intro w s; (try dsimp only at s); go_simp <;> with_reducible rfl))
    (ha : setT a d v = a' := by (conv => lhs; dsimp only [setT, List.toList_toArray, put0, putS]))
    (hQ : ∀ c a w, Q (.panic c) (a.put (some d) v) w → Q (.panic c) a w := by exact fun _ _ _ h => h) : wpAt P ops Q S n i a w :=
  tkp i d v T hy hS (by rw [ha]; exact h) hi hg hQ

end Go.Proofs.YtifpjdpcmfneaaaGreatDoor

/- Regions that draw their order, walked in a given order: what each operation asks of the others is reckoned once for a region, in a table. -/
namespace Go.Proofs.YtifpjdpcmfneaaaGreatDoor
set_option linter.unusedVariables false

/-- Which operations are done when the first p of the order are. -/
def doneA (n : Nat) (l : List Nat) : Array Bool := l.foldl (fun a i => a.setIfInBounds i true) (Array.replicate n false)
theorem doneA_step {n p i : Nat} {ord : List Nat} (h : ord[p]? = some i) : (doneA n (ord.take p)).setIfInBounds i true = doneA n (ord.take (p + 1)) := by
  have hp : p < ord.length := (List.getElem?_eq_some_iff.1 h).1
  rw [List.take_succ_eq_append_getElem hp, (List.getElem?_eq_some_iff.1 h).2]
  unfold doneA
  rw [List.foldl_append]
  rfl
/-- cs: the places of those that come up alone. -/
def tableO (ops : Array Oper) (n : Nat) (ord cs : List Nat) : Bool :=
  (ops.size == n) && ((ord.length == n) && (Region.noSelect ops && ((List.range n).all (fun p => match ord[p]? with
    | some i => cs.contains p || (Region.free .any ops (doneA n (ord.take p)) i && (Region.ready .any ops (doneA n (ord.take p))).contains i)
    | none => false) && ((Region.ready .any ops (doneA n (ord.take n))).isEmpty && cs.all fun p => match ord[p]? with
    | some i => Nat.blt p n && (Region.ready .any ops (doneA n (ord.take p)) == [i])
    | none => false))))

/-- What is left of the region when the first p operations of the order are done. -/
def wpOrd (P : Program) (ops : Array Oper) (Q : Exit → Act → World → Prop) (S : World → Prop) (n : Nat) (ord : List Nat) (p : Nat) (a : Act) (w : World) : Prop := wpAnyH P .any ops Q S (n - p) (doneA n (ord.take p)) a w

/-- The table's word, in a wrapping that no walk looks into. -/
structure TabO (ops : Array Oper) (n : Nat) (ord cs : List Nat) : Prop where
  out : tableO ops n ord cs = true

section
variable {P : Program} {ops : Array Oper} {Q : Exit → Act → World → Prop} {S : World → Prop} {n : Nat} {ord cs : List Nat} {a : Act} {w : World}
theorem tabO_of {c : Option Code} {id : Nat} (h : c.bind (opsAt id) = some ops) (T : (c.bind (opsAt id)).all (fun o => tableO o n ord cs) = true) : TabO ops n ord cs := by
  rw [h] at T; exact ⟨by simpa using T⟩
theorem tabO_parts (T' : TabO ops n ord cs) : ops.size = n ∧ ord.length = n ∧ Region.noSelect ops = true ∧ (∀ p i, ord[p]? = some i → ¬ p ∈ cs → Region.free .any ops (doneA n (ord.take p)) i = true ∧ (Region.ready .any ops (doneA n (ord.take p))).contains i = true) ∧ Region.ready .any ops (doneA n (ord.take n)) = [] ∧
    ∀ p i, p ∈ cs → ord[p]? = some i → p < n ∧ Region.ready .any ops (doneA n (ord.take p)) = [i] := by
  have T := T'.out
  simp only [tableO, Bool.and_eq_true, beq_iff_eq, List.all_eq_true, List.mem_range, List.isEmpty_iff] at T
  obtain ⟨h1, h2, h3, h4, h5, h6⟩ := T
  refine ⟨h1, h2, h3, fun p i hp hc => ?_, h5, fun p i hc hp => ?_⟩
  · have hlt : p < n := by have := (List.getElem?_eq_some_iff.1 hp).1; omega
    have := h4 p hlt
    rw [hp] at this
    simp only [Bool.or_eq_true, Bool.and_eq_true, List.contains_iff_mem] at this
    rcases this with h | h
    · exact absurd h hc
    · exact ⟨h.1, by simpa using h.2⟩
  · have := h6 p hc
    rw [hp] at this
    simp only [Bool.and_eq_true, beq_iff_eq, Nat.blt_eq] at this
    exact this
theorem wpO_begin {id : Nat} (T : TabO ops n ord cs) (hm : P.follows .mixedOrders = true) (hS : S w.drew) (h : TabO ops n ord cs → S w.drew → wpOrd P ops Q S n ord 0 a w.drew) : Code.wp P (.region id ops true) Q a w := by
  refine wp_region_held_drew (S := S) hm hS fun hs => ?_
  obtain ⟨h1, -⟩ := tabO_parts T
  subst h1
  exact h T hs
/-- The operation at place p of the order is taken; it is wanted. -/
theorem tko (p i d : Nat) {oi : Oper} (v : Value) (T : TabO ops n ord cs) (hy : ∀ w, S w → (execOp a.eval oi).run P w = .ok (.value v) w) (hS : S w) (h : wpOrd P ops Q S n ord (p + 1) (setT a d v) w)
    (hp : ord[p]? = some i := by rfl) (hc : ¬ p ∈ cs := by decide)
    (hi : ops[i]? = some oi := by rfl)
    (hg : (oi.dst == some d && Region.wanted oi (yielded ops a.tmps)) = true := by kernel_rfl)
    (hQ : ∀ c a w, Q (.panic c) (a.put (some d) v) w → Q (.panic c) a w := by exact fun _ _ _ h => h) : wpOrd P ops Q S n ord p a w := by
  obtain ⟨h1, h2, h3, h4, h5, h6⟩ := tabO_parts T
  have hlt : p < n := by have := (List.getElem?_eq_some_iff.1 hp).1; omega
  simp only [Bool.and_eq_true, beq_iff_eq] at hg
  rw [← put_setT] at h
  unfold wpOrd at h ⊢
  rw [show n - p = (n - (p + 1)) + 1 by omega]
  rw [← doneA_step hp] at h
  exact wpAnyH_take hi h3 (h4 p i hp hc).1 (h4 p i hp hc).2 (by rw [hg.1]; exact hQ) (Or.inl ⟨hg.2, hy⟩) hS (by rw [hg.1]; exact h)
/-- The operation at place p comes up alone: a call, or one that makes memory. -/
theorem clo (p i : Nat) (T : TabO ops n ord cs) (hc : p ∈ cs) (hp : ord[p]? = some i) (h : AllReadyH P .any ops Q S (n - (p + 1)) (doneA n (ord.take p)) a w [i]) : wpOrd P ops Q S n ord p a w := by
  obtain ⟨h1, h2, h3, h4, h5, h6⟩ := tabO_parts T
  have hlt := (h6 p i hc hp).1
  unfold wpOrd
  rw [show n - p = (n - (p + 1)) + 1 by omega]
  exact wpAnyH_ready (h6 p i hc hp).2 (by simp) h
theorem wpOrd_in {p i f : Nat} {l : Array Bool} (hp : ord[p]? = some i) (hf : f = n - (p + 1)) (hl : l = (doneA n (ord.take p)).setIfInBounds i true) (h : wpOrd P ops Q S n ord (p + 1) a w) : wpAnyH P .any ops Q S f l a w := by
  subst hf hl
  rw [doneA_step hp]
  exact h
theorem wpO_end (T : TabO ops n ord cs) (h : Q .normal a w) : wpOrd P ops Q S n ord n a w := by
  obtain ⟨h1, h2, h3, h4, h5, h6⟩ := tabO_parts T
  exact wpAnyH_done h5 h _
end

/-- 'tko', what it yields and the state behind it found by themselves. -/
theorem tkw {P : Program} {ops : Array Oper} {Q : Exit → Act → World → Prop} {S : World → Prop} {n : Nat} {ord cs : List Nat} {a a' : Act} {w : World} (p i d : Nat) {oi : Oper} {v : Value} (T : TabO ops n ord cs) (hS : S w) (h : wpOrd P ops Q S n ord (p + 1) a' w)
    (hp : ord[p]? = some i := by rfl) (hc : ¬ p ∈ cs := by decide)
    (hi : ops[i]? = some oi := by rfl)
    (hg : (oi.dst == some d && Region.wanted oi (yielded ops a.tmps)) = true := by kernel_rfl)
    (hy : ∀ w, S w → (execOp a.eval oi).run P w = .ok (.value v) w := by (intro w s; (try dsimp only at s); go_simp <;> with_reducible rfl))
    (ha : setT a d v = a' := by (conv => lhs; dsimp only [setT, List.toList_toArray, put0, putS]))
    (hQ : ∀ c a w, Q (.panic c) (a.put (some d) v) w → Q (.panic c) a w := by exact fun _ _ _ h => h) : wpOrd P ops Q S n ord p a w :=
  tko p i d v T hy hS (by rw [ha]; exact h) hp hc hi hg hQ

end Go.Proofs.YtifpjdpcmfneaaaGreatDoor

/- In a region that draws its order: operations whose guards are not met are passed by together. -/
namespace Go.Proofs.YtifpjdpcmfneaaaGreatDoor


/-- These operations may come up one behind the other, and none is wanted; ds: the slots that they would fill. -/
def skipsOk (md : Region.Mode) (ops : Array Oper) : List Nat → List Nat → Array Bool → Array Value → Bool
  | [], [], _, _ => true
  | i :: is, d :: ds, l, tm => match ops[i]? with
    | some o => (o.dst == some d) && (Region.free md ops l i && ((Region.ready md ops l).contains i && (!(Region.wanted o (yielded ops tm)) && skipsOk md ops is ds (l.setIfInBounds i true) (tm.setIfInBounds d undef))))
    | none => false
  | _, _, _, _ => false

theorem wpAnyH_skips {P : Program} {md : Region.Mode} {ops : Array Oper} {Q : Exit → Act → World → Prop} {S : World → Prop} {w : World} (hs : Region.noSelect ops = true)
    (hQ : ∀ (d : Nat) v c a w, Q (.panic c) (a.put (some d) v) w → Q (.panic c) a w) (hS : S w) :
    ∀ (is ds : List Nat) (l : Array Bool) (a : Act) (fuel : Nat), skipsOk md ops is ds l a.tmps = true →
      wpAnyH P md ops Q S fuel (is.foldl (fun l i => l.setIfInBounds i true) l) (ds.foldl (fun a d => a.put (some d) undef) a) w → wpAnyH P md ops Q S (fuel + is.length) l a w
  | [], [], _, _, _, _, h => h
  | [], _ :: _, _, _, _, hk, _ => by simp [skipsOk] at hk
  | _ :: _, [], _, _, _, hk, _ => by simp [skipsOk] at hk
  | i :: is, d :: ds, l, a, fuel, hk, h => by
    unfold skipsOk at hk
    split at hk
    · rename_i o ho
      simp only [Bool.and_eq_true, beq_iff_eq, Bool.not_eq_true'] at hk
      obtain ⟨h1, h2, h3, h4, h5⟩ := hk
      refine wpAnyH_take (fuel := fuel + is.length) (i := i) (oi := o) (v := undef) ho hs h2 h3 (fun c a w => by rw [h1]; exact hQ d _ c a w) (Or.inr ⟨h4, rfl⟩) hS ?_
      rw [h1]
      exact wpAnyH_skips hs hQ hS is ds _ _ fuel (by simpa [Act.put] using h5) h
    · cases hk

/-- One operation is taken first; the slot that it fills is named. -/
theorem wpAnyH_takeD {P : Program} {md : Region.Mode} {ops : Array Oper} {Q : Exit → Act → World → Prop} {S : World → Prop} {i : Nat} (d : Nat) {oi : Oper} {v : Value} {fuel : Nat} {listed : Array Bool} {a : Act} {w : World} (hi : ops[i]? = some oi)
    (hd : oi.dst = some d) (hs : Region.noSelect ops = true) (hf : Region.free md ops listed i = true) (hr : (Region.ready md ops listed).contains i = true)
    (hQ : ∀ c a w, Q (.panic c) (a.put (some d) v) w → Q (.panic c) a w) (hy : YieldsIf P ops S oi v a) (hS : S w)
    (h : wpAnyH P md ops Q S fuel (listed.setIfInBounds i true) (a.put (some d) v) w) : wpAnyH P md ops Q S (fuel + 1) listed a w :=
  wpAnyH_take hi hs hf hr (by rw [hd]; exact hQ) hy hS (by rw [hd]; exact h)

/-- The same, its side conditions in one Bool; short, for it is written often. -/
theorem tk {P : Program} {md : Region.Mode} {ops : Array Oper} {Q : Exit → Act → World → Prop} {S : World → Prop} (i d : Nat) {oi : Oper} (v : Value) {fuel : Nat} {listed : Array Bool} {a : Act} {w : World}
    (hy : ∀ w, S w → (execOp a.eval oi).run P w = .ok (.value v) w) (hS : S w) (h : wpAnyH P md ops Q S fuel (listed.setIfInBounds i true) (a.put (some d) v) w)
    (hi : ops[i]? = some oi := by rfl)
    (hc : (Region.noSelect ops && (Region.free md ops listed i && (Region.ready md ops listed).contains i)) = true := by decide +kernel)
    (hg : (oi.dst == some d && Region.wanted oi (yielded ops a.tmps)) = true := by kernel_rfl)
    (hQ : ∀ c a w, Q (.panic c) (a.put (some d) v) w → Q (.panic c) a w := by exact fun _ _ _ h => h) : wpAnyH P md ops Q S (fuel + 1) listed a w := by
  simp only [Bool.and_eq_true, beq_iff_eq] at hc hg
  obtain ⟨h2, h3, h4⟩ := hc
  obtain ⟨h1, h5⟩ := hg
  exact wpAnyH_takeD d hi h1 h2 h3 h4 hQ (Or.inl ⟨h5, hy⟩) hS h
theorem sA {α : Type} (l : List α) (i : Nat) (a : α) : l.toArray.setIfInBounds i a = (l.set i a).toArray := by simp
theorem s0 {α : Type} (x : α) (l : List α) (a : α) : (x :: l).set 0 a = a :: l := rfl
theorem sS {α : Type} (x : α) (l : List α) (i : Nat) (a : α) : (x :: l).set (i + 1) a = x :: l.set i a := rfl
/-- The same, what it yields and the state behind it found by themselves. -/
theorem tq {P : Program} {md : Region.Mode} {ops : Array Oper} {Q : Exit → Act → World → Prop} {S : World → Prop} (i d : Nat) {oi : Oper} {v : Value} {fuel : Nat} {listed : Array Bool} {a a' : Act} {w : World}
    (hS : S w) (h : wpAnyH P md ops Q S fuel (listed.setIfInBounds i true) a' w)
    (hi : ops[i]? = some oi := by rfl)
    (hc : (Region.noSelect ops && (Region.free md ops listed i && (Region.ready md ops listed).contains i)) = true := by decide +kernel)
    (hg : (oi.dst == some d && Region.wanted oi (yielded ops a.tmps)) = true := by kernel_rfl)
    (hy : ∀ w, S w → (execOp a.eval oi).run P w = .ok (.value v) w := by (intro w s; (try dsimp only at s); go_simp <;> with_reducible rfl))
    (ha : a.put (some d) v = a' := by (conv => lhs; simp only [Act.put, sA, s0, sS]))
    (hQ : ∀ c a w, Q (.panic c) (a.put (some d) v) w → Q (.panic c) a w := by exact fun _ _ _ h => h) : wpAnyH P md ops Q S (fuel + 1) listed a w :=
  tk i d v hy hS (by rw [ha]; exact h) hi hc hg hQ

end Go.Proofs.YtifpjdpcmfneaaaGreatDoor

/- What putTokens, putLine of package impl do. -/
namespace Go.Proofs.YtifpjdpcmfneaaaGreatDoor
open Go.RowKit
set_option maxRecDepth 100000
set_option linter.unusedVariables false

/-- A list of strings that is read. -/
def StrRE (_ : World) (c : List Value) (s : List Int) : Prop := c = [.string (strOfNums s)] ∧ Oct s
abbrev StrsV := Rd 1 StrRE
theorem keepsStr : Keeps StrRE := fun _ _ _ _ _ h => h
theorem StrsV.cell {w : World} {v : Value} {l : List (List Int)} (h : StrsV w v l) (k : Nat) (x : List Int) (hx : l[k]? = some x) : ∃ b off cap, v = .slice (some ⟨b, off, none⟩) l.length cap ∧ b < w.heap.size ∧ w.cell? ⟨b, off + k, none⟩ = some (.string (strOfNums x)) ∧ Oct x := by
  obtain ⟨b, off, cap, c, hv, hlt, ⟨rfl, hi⟩, -, hc⟩ := h.get k x hx
  exact ⟨b, off, cap, hv, hlt, by simpa using hc 0 _ rfl, hi⟩
def tokB (s : List Int) : List Int := [32] ++ s

set_option maxRecDepth 100000 in
set_option maxHeartbeats 1000000 in
theorem putTokens_b (B : Nat) (v bv : Value) (l wd : List Int) (ss : List (List Int)) (w : World) (hv : OwnB w B v l) (hB : B ≤ w.heap.size) (hwd : Oct wd) (hs : ∀ wi, Tw B w wi → StrsV wi bv ss)
    (hl : l.length ≤ 1000000) (hwl : wd.length ≤ 1000) (hsl : ss.length ≤ 100) (hst : ∀ s, s ∈ ss → s.length ≤ 1000) :
    Calls Tryz.prog 49 #[v, .string (strOfNums wd), bv] w fun e w' => ∃ u, e = .returned u ∧ OwnB w' B u (l ++ wd ++ ss.flatMap tokB) ∧ Tw B w w' := by
  have HS : Hid (∀ wi, Tw B w wi → StrsV wi bv ss) := hs
  obtain ⟨a, cap, rfl, m0, m1⟩ := (hs w (Tw.refl _ _)).form
  clear hs
  have HV : Hid (OwnB w B v l) := hv
  obtain ⟨va, vn, vc, rfl⟩ := hv.bs.form3
  clear hv
  obtain ⟨i0, hi, hz0, hz1, hz2⟩ := info_parts info5
  have HT : Hid (∀ k, ((ss.take k).flatMap tokB).length ≤ 1001 * (ss.take k).length) := fun k => flat_len tokB 1001 _ (fun s h => by have := hst s (List.mem_of_mem_take h); simp only [tokB, List.length_append, List.length_cons, List.length_nil]; omega)
  go_enter Tryz.func49, Tryz.ntmps49
  go_wp2_with (at_builtin; refine wpList_append_str rfl (.tmp 9) (.tmp 10) 22 9 rfl i0 Tryz.underlying22 Tryz.underlying9 hi hz0 hz1 hz2 B _ l rfl HV.out wd rfl hwd (by omega) hB w (Below.refl _ _) ?_)
  intro v1 w1 hO1 hB1 hG1
  have HO1 : Hid (OwnB w1 B v1 (l ++ wd ++ (ss.take 0).flatMap tokB)) := by simpa [Hid] using hO1
  have HT1 : Hid (Tw B w w1) := Tw.grown HV.out hB hG1
  clear hO1 hB1 hG1 HV
  go_wp2
  go_loopw [0, 14] (fun out i wr => ∃ k : Nat, k ≤ ss.length ∧ i = .int .i64 k ∧ Hid (OwnB wr B out (l ++ wd ++ (ss.take k).flatMap tokB)) ∧ Hid (Tw B w wr)) (fun _ i _ => ss.length - (intOf i).toNat)
  case atStart => exact ⟨0, Nat.zero_le _, rfl, HO1, HT1⟩
  case round =>
    clear HO1 HT1
    obtain ⟨k, hk, rfl, hO, hT⟩ := hrel
    have hsz := hT.out.size
    have hfl := HT.out k
    have htk : (ss.take k).length ≤ 100 := by simp; omega
    by_cases hlt : k < ss.length
    · obtain ⟨s, hx⟩ : ∃ s, ss[k]? = some s := ⟨ss[k], List.getElem?_eq_getElem hlt⟩
      obtain ⟨b, off, cap', hv', hlb, d0, hso⟩ := StrsV.cell (HS.out wr hT.out) k s hx
      simp only [Value.slice.injEq, true_and] at hv'
      obtain ⟨rfl, rfl⟩ := hv'
      have hsl' := hst s (List.mem_of_getElem? hx)
      have HST : Hid ((ss.take (k + 1)).flatMap tokB = (ss.take k).flatMap tokB ++ tokB s) := flat_step tokB hx
      have sr : B ≤ wr.heap.size := by omega
      have HA : Hid (Tw B w (wr.alloc (.cells #[.int .u8 32] 5))) := hT.out.trans (Tw.alloc sr _)
      have HOA : Hid (OwnB (wr.alloc (.cells #[.int .u8 32] 5)) B _ (l ++ wd ++ (ss.take k).flatMap tokB)) := hO.out.alloc _
      have sA : B ≤ (wr.alloc (.cells #[.int .u8 32] 5)).heap.size := by simp; omega
      clear hx hO hT
      go_wp2_with (at_builtin; refine wpList_append_bytes rfl (.tmp 18) (.tmp 19) 22 rfl i0 Tryz.underlying22 hi hz0 hz1 hz2 B _ _ rfl HOA.out _ [32] rfl (bs_one _ _ (by omega)) (by simp only [List.length_append, List.length_cons, List.length_nil]; omega) sA (wr.alloc (.cells #[.int .u8 32] 5)) (Below.refl _ _) ?_)
      intro v2 w2 hO2 hB2 hG2
      have HO2 : Hid (OwnB w2 B v2 (l ++ wd ++ (ss.take k).flatMap tokB ++ [32])) := by simpa [Hid] using hO2
      have HT2 : Hid (Tw B w w2) := HA.out.trans (Tw.grown HOA.out sA hG2)
      have s2 : B ≤ w2.heap.size := Nat.le_trans sA hG2.size
      clear hO2 hB2 hG2 HA HOA d0
      go_wp2_with (at_builtin; refine wpList_append_str rfl (.tmp 21) (.tmp 22) 22 9 rfl i0 Tryz.underlying22 Tryz.underlying9 hi hz0 hz1 hz2 B _ _ rfl HO2.out s rfl hso (by simp only [List.length_append, List.length_cons, List.length_nil]; omega) s2 w2 (Below.refl _ _) ?_)
      intro v3 w3 hO3 hB3 hG3
      have HO3 : Hid (OwnB w3 B v3 (l ++ wd ++ (ss.take (k + 1)).flatMap tokB)) := by
        rw [HST.out]
        simpa [Hid, tokB] using hO3
      have HT3 : Hid (Tw B w w3) := HT2.out.trans (Tw.grown HO2.out s2 hG3)
      clear hO3 hB3 hG3 HT2 HO2 HST
      go_wp2
      go_roundw
      case rel => exact ⟨k + 1, by omega, by go_num, HO3, HT3⟩
      case measure => simp [intOf]; omega
    · obtain rfl : k = ss.length := by omega
      go_wp2
      go_ret
      have ho := hO.out
      rw [List.take_length] at ho
      exact ⟨_, rfl, ho, hT.out⟩

end Go.Proofs.YtifpjdpcmfneaaaGreatDoor

/- What needsEscape, flagsText, quotedText of package impl do. -/
namespace Go.Proofs.YtifpjdpcmfneaaaGreatDoor
open Go.RowKit
set_option maxRecDepth 100000
set_option linter.unusedVariables false

theorem ret_bool {b c : Bool} (h : b = c) : Ending.returned (.bool c) = .returned (.bool b) := by rw [h]
set_option maxHeartbeats 400000 in
theorem needsEscape_any (x : Int) (hx : 0 ≤ x ∧ x ≤ 255) (w : World) :
    Calls Tryz.prog 125 #[.int .u8 x] w fun e w' => e = .returned (.bool (decide (x = 34 ∨ x = 92))) ∧ w' = w := by
  by_cases h1 : x = 34
  · subst h1
    go_enter Tryz.func125, Tryz.ntmps125
    go_wp2
    go_ret
    exact ⟨rfl, rfl⟩
  · by_cases h2 : x = 92
    · subst h2
      go_enter Tryz.func125, Tryz.ntmps125
      go_wp2
      go_ret
      exact ⟨rfl, rfl⟩
    · have b1 : (x == 34) = false := by simp [h1]
      have b2 : (x == 92) = false := by simp [h2]
      have e : Hid (decide (x = 34 ∨ x = 92) = false) := decide_eq_false (by omega)
      go_enter Tryz.func125, Tryz.ntmps125
      go_wp2
      go_ret
      exact ⟨by rw [e.out]; rfl, rfl⟩

theorem bit_and : ∀ (k : Fin 5) (x : Fin 32), (bits BinOp.and IntKind.i64 ((x : Nat) : Int) ((2 ^ (k : Nat) : Nat) : Int) != 0) = decide ((x : Nat) / 2 ^ (k : Nat) % 2 = 1) := by decide +kernel

set_option maxRecDepth 100000 in
set_option maxHeartbeats 2000000 in
theorem flagsText_r (f : Nat) (hf : f ≤ 31) (w : World) :
    Calls Tryz.prog 106 #[.int .i64 f] w fun e w' => e = .returned (.string (strOfNums (flagsB f))) ∧ Below w.heap.size w w' := by
  obtain ⟨i0, hi, hz0, hz1, hz2⟩ := info_parts info5
  have H0 : Hid (OwnB (w.alloc (.cells #[.int .u8 40] 5)) w.heap.size (.slice (some ⟨w.heap.size, 0, none⟩) 1 1) ([40] ++ (List.range 0).flatMap (flagAt f))) := by simpa [Hid] using ownB_one w _ (Nat.le_refl _) 40 (by omega)
  have HB : Hid (Below w.heap.size w (w.alloc (.cells #[.int .u8 40] 5))) := (Below.refl _ _).alloc (Nat.le_refl _) _
  go_enter Tryz.func106, Tryz.ntmps106
  go_wp2
  go_loopw [3, 6] (fun b i wr => ∃ k : Nat, k ≤ 5 ∧ i = .int .i64 k ∧ Hid (OwnB wr w.heap.size b ([40] ++ (List.range k).flatMap (flagAt f))) ∧ Hid (Below w.heap.size w wr)) (fun _ i _ => 5 - (intOf i).toNat)
  case atStart => exact ⟨0, Nat.zero_le _, rfl, H0, HB⟩
  case round =>
    clear H0 HB
    obtain ⟨k, hk, rfl, hO, hB⟩ := hrel
    have hsz := hB.out.size
    have hfl := flat_len (flagAt f) 1 (List.range k) (fun x _ => flagAt_len f x)
    simp only [List.length_range] at hfl
    by_cases hlt : k < 5
    · have HST : Hid ((List.range (k + 1)).flatMap (flagAt f) = (List.range k).flatMap (flagAt f) ++ flagAt f k) := range5_step f k
      obtain rfl | rfl | rfl | rfl | rfl : k = 0 ∨ k = 1 ∨ k = 2 ∨ k = 3 ∨ k = 4 := by omega
      · have hE : flagAt f 0 = (if f % 2 = 1 then [83] else []) := by simp [flagAt, letB]
        have hb : (bits BinOp.and IntKind.i64 (f : Int) 1 != 0) = decide (f % 2 = 1) := by
          have h := bit_and 0 ⟨f, by omega⟩
          simpa using h
        by_cases hc : f % 2 = 1
        · rw [if_pos hc] at hE
          rw [decide_eq_true hc] at hb
          have HE : Hid (flagAt f 0 = [83]) := hE
          clear hE
          go_wp2_with (at_builtin; refine wpList_append_bytes rfl (.tmp 14) (.tmp 17) 22 rfl i0 Tryz.underlying22 hi hz0 hz1 hz2 w.heap.size _ _ rfl (hO.out.alloc _) _ [83] rfl (bs_one _ 83 (by omega)) (by simp only [List.length_append, List.length_cons, List.length_nil]; omega) (by simp; omega) w (hB.out.alloc hsz _) ?_)
          intro v3 w3 hO3 hB3 _
          have HO3 : Hid (OwnB w3 w.heap.size v3 ([40] ++ (List.range (0 + 1)).flatMap (flagAt f))) := by
            rw [HST.out, HE.out]
            simpa [Hid, show List.range 1 = [0] from rfl, show List.range 2 = [0, 1] from rfl, show List.range 3 = [0, 1, 2] from rfl, show List.range 4 = [0, 1, 2, 3] from rfl] using hO3
          clear hO3
          go_wp2
          go_roundw
          case rel => exact ⟨0 + 1, by omega, by go_num, HO3, hB3⟩
          case measure => simp [intOf]
        · rw [if_neg hc] at hE
          rw [decide_eq_false hc] at hb
          have HEQ : Hid ([40] ++ (List.range 0).flatMap (flagAt f) = [40] ++ (List.range (0 + 1)).flatMap (flagAt f)) := by rw [Hid, HST.out, hE, List.append_nil]
          clear hE
          go_wp2
          go_roundw
          case rel => exact ⟨0 + 1, by omega, by go_num, by rw [← HEQ.out]; exact hO, hB⟩
          case measure => simp [intOf]
      · have hE : flagAt f 1 = (if f / 2 % 2 = 1 then [65] else []) := by simp [flagAt, letB]
        have hb : (bits BinOp.and IntKind.i64 (f : Int) 2 != 0) = decide (f / 2 % 2 = 1) := by
          have h := bit_and 1 ⟨f, by omega⟩
          simpa using h
        by_cases hc : f / 2 % 2 = 1
        · rw [if_pos hc] at hE
          rw [decide_eq_true hc] at hb
          have HE : Hid (flagAt f 1 = [65]) := hE
          clear hE
          go_wp2_with (at_builtin; refine wpList_append_bytes rfl (.tmp 14) (.tmp 17) 22 rfl i0 Tryz.underlying22 hi hz0 hz1 hz2 w.heap.size _ _ rfl (hO.out.alloc _) _ [65] rfl (bs_one _ 65 (by omega)) (by simp only [List.length_append, List.length_cons, List.length_nil]; omega) (by simp; omega) w (hB.out.alloc hsz _) ?_)
          intro v3 w3 hO3 hB3 _
          have HO3 : Hid (OwnB w3 w.heap.size v3 ([40] ++ (List.range (1 + 1)).flatMap (flagAt f))) := by
            rw [HST.out, HE.out]
            simpa [Hid, show List.range 1 = [0] from rfl, show List.range 2 = [0, 1] from rfl, show List.range 3 = [0, 1, 2] from rfl, show List.range 4 = [0, 1, 2, 3] from rfl] using hO3
          clear hO3
          go_wp2
          go_roundw
          case rel => exact ⟨1 + 1, by omega, by go_num, HO3, hB3⟩
          case measure => simp [intOf]
        · rw [if_neg hc] at hE
          rw [decide_eq_false hc] at hb
          have HEQ : Hid ([40] ++ (List.range 1).flatMap (flagAt f) = [40] ++ (List.range (1 + 1)).flatMap (flagAt f)) := by rw [Hid, HST.out, hE, List.append_nil]
          clear hE
          go_wp2
          go_roundw
          case rel => exact ⟨1 + 1, by omega, by go_num, by rw [← HEQ.out]; exact hO, hB⟩
          case measure => simp [intOf]
      · have hE : flagAt f 2 = (if f / 4 % 2 = 1 then [70] else []) := by simp [flagAt, letB]
        have hb : (bits BinOp.and IntKind.i64 (f : Int) 4 != 0) = decide (f / 4 % 2 = 1) := by
          have h := bit_and 2 ⟨f, by omega⟩
          simpa using h
        by_cases hc : f / 4 % 2 = 1
        · rw [if_pos hc] at hE
          rw [decide_eq_true hc] at hb
          have HE : Hid (flagAt f 2 = [70]) := hE
          clear hE
          go_wp2_with (at_builtin; refine wpList_append_bytes rfl (.tmp 14) (.tmp 17) 22 rfl i0 Tryz.underlying22 hi hz0 hz1 hz2 w.heap.size _ _ rfl (hO.out.alloc _) _ [70] rfl (bs_one _ 70 (by omega)) (by simp only [List.length_append, List.length_cons, List.length_nil]; omega) (by simp; omega) w (hB.out.alloc hsz _) ?_)
          intro v3 w3 hO3 hB3 _
          have HO3 : Hid (OwnB w3 w.heap.size v3 ([40] ++ (List.range (2 + 1)).flatMap (flagAt f))) := by
            rw [HST.out, HE.out]
            simpa [Hid, show List.range 1 = [0] from rfl, show List.range 2 = [0, 1] from rfl, show List.range 3 = [0, 1, 2] from rfl, show List.range 4 = [0, 1, 2, 3] from rfl] using hO3
          clear hO3
          go_wp2
          go_roundw
          case rel => exact ⟨2 + 1, by omega, by go_num, HO3, hB3⟩
          case measure => simp [intOf]
        · rw [if_neg hc] at hE
          rw [decide_eq_false hc] at hb
          have HEQ : Hid ([40] ++ (List.range 2).flatMap (flagAt f) = [40] ++ (List.range (2 + 1)).flatMap (flagAt f)) := by rw [Hid, HST.out, hE, List.append_nil]
          clear hE
          go_wp2
          go_roundw
          case rel => exact ⟨2 + 1, by omega, by go_num, by rw [← HEQ.out]; exact hO, hB⟩
          case measure => simp [intOf]
      · have hE : flagAt f 3 = (if f / 8 % 2 = 1 then [68] else []) := by simp [flagAt, letB]
        have hb : (bits BinOp.and IntKind.i64 (f : Int) 8 != 0) = decide (f / 8 % 2 = 1) := by
          have h := bit_and 3 ⟨f, by omega⟩
          exact h
        by_cases hc : f / 8 % 2 = 1
        · rw [if_pos hc] at hE
          rw [decide_eq_true hc] at hb
          have HE : Hid (flagAt f 3 = [68]) := hE
          clear hE
          go_wp2_with (at_builtin; refine wpList_append_bytes rfl (.tmp 14) (.tmp 17) 22 rfl i0 Tryz.underlying22 hi hz0 hz1 hz2 w.heap.size _ _ rfl (hO.out.alloc _) _ [68] rfl (bs_one _ 68 (by omega)) (by simp only [List.length_append, List.length_cons, List.length_nil]; omega) (by simp; omega) w (hB.out.alloc hsz _) ?_)
          intro v3 w3 hO3 hB3 _
          have HO3 : Hid (OwnB w3 w.heap.size v3 ([40] ++ (List.range (3 + 1)).flatMap (flagAt f))) := by
            rw [HST.out, HE.out]
            simpa [Hid, show List.range 1 = [0] from rfl, show List.range 2 = [0, 1] from rfl, show List.range 3 = [0, 1, 2] from rfl, show List.range 4 = [0, 1, 2, 3] from rfl] using hO3
          clear hO3
          go_wp2
          go_roundw
          case rel => exact ⟨3 + 1, by omega, by go_num, HO3, hB3⟩
          case measure => simp [intOf]
        · rw [if_neg hc] at hE
          rw [decide_eq_false hc] at hb
          have HEQ : Hid ([40] ++ (List.range 3).flatMap (flagAt f) = [40] ++ (List.range (3 + 1)).flatMap (flagAt f)) := by rw [Hid, HST.out, hE, List.append_nil]
          clear hE
          go_wp2
          go_roundw
          case rel => exact ⟨3 + 1, by omega, by go_num, by rw [← HEQ.out]; exact hO, hB⟩
          case measure => simp [intOf]
      · have hE : flagAt f 4 = (if f / 16 % 2 = 1 then [82] else []) := by simp [flagAt, letB]
        have hb : (bits BinOp.and IntKind.i64 (f : Int) 16 != 0) = decide (f / 16 % 2 = 1) := by
          have h := bit_and 4 ⟨f, by omega⟩
          exact h
        by_cases hc : f / 16 % 2 = 1
        · rw [if_pos hc] at hE
          rw [decide_eq_true hc] at hb
          have HE : Hid (flagAt f 4 = [82]) := hE
          clear hE
          go_wp2_with (at_builtin; refine wpList_append_bytes rfl (.tmp 14) (.tmp 17) 22 rfl i0 Tryz.underlying22 hi hz0 hz1 hz2 w.heap.size _ _ rfl (hO.out.alloc _) _ [82] rfl (bs_one _ 82 (by omega)) (by simp only [List.length_append, List.length_cons, List.length_nil]; omega) (by simp; omega) w (hB.out.alloc hsz _) ?_)
          intro v3 w3 hO3 hB3 _
          have HO3 : Hid (OwnB w3 w.heap.size v3 ([40] ++ (List.range (4 + 1)).flatMap (flagAt f))) := by
            rw [HST.out, HE.out]
            simpa [Hid, show List.range 1 = [0] from rfl, show List.range 2 = [0, 1] from rfl, show List.range 3 = [0, 1, 2] from rfl, show List.range 4 = [0, 1, 2, 3] from rfl] using hO3
          clear hO3
          go_wp2
          go_roundw
          case rel => exact ⟨4 + 1, by omega, by go_num, HO3, hB3⟩
          case measure => simp [intOf]
        · rw [if_neg hc] at hE
          rw [decide_eq_false hc] at hb
          have HEQ : Hid ([40] ++ (List.range 4).flatMap (flagAt f) = [40] ++ (List.range (4 + 1)).flatMap (flagAt f)) := by rw [Hid, HST.out, hE, List.append_nil]
          clear hE
          go_wp2
          go_roundw
          case rel => exact ⟨4 + 1, by omega, by go_num, by rw [← HEQ.out]; exact hO, hB⟩
          case measure => simp [intOf]
    · obtain rfl : k = 5 := by omega
      go_wp2_with (at_builtin; refine wpList_append_bytes rfl (.tmp 20) (.tmp 21) 22 rfl i0 Tryz.underlying22 hi hz0 hz1 hz2 w.heap.size _ _ rfl (hO.out.alloc _) _ _ rfl (bs_one _ _ (by omega)) (by simp only [List.length_append, List.length_cons, List.length_nil]; omega) (by simp; omega) w (hB.out.alloc hsz _) ?_)
      intro v2 w2 hO2 hB2 _
      have HO2 : OwnB w2 w.heap.size v2 (flagsB f) := by simpa [flagsB, show List.range 5 = [0, 1, 2, 3, 4] from rfl] using hO2
      have hcv := run_convert_bs HO2.bs
      clear hO2 HO2
      go_wp2
      go_ret
      exact ⟨rfl, hB2⟩

set_option maxRecDepth 100000 in
set_option maxHeartbeats 2000000 in
theorem quotedText_r (v : Value) (t : List Int) (w : World) (hv : Bs w v t) (ht : t.length ≤ 2000000) :
    Calls Tryz.prog 107 #[v] w fun e w' => e = .returned (.string (strOfNums (quoB t))) ∧ Below w.heap.size w w' := by
  have HV : Hid (∀ wi, Below w.heap.size w wi → Bs wi v t) := fun wi h => hv.below h
  obtain ⟨ho, a, cap, rfl, hlc, hcm, -⟩ := hv
  unfold maxLen at hcm
  obtain ⟨i0, hi, hz0, hz1, hz2⟩ := info_parts info5
  have H0 : Hid (OwnB (w.alloc (.cells #[.int .u8 34] 5)) w.heap.size (.slice (some ⟨w.heap.size, 0, none⟩) 1 1) ([34] ++ (t.take 0).flatMap escB)) := by simpa [Hid] using ownB_one w _ (Nat.le_refl _) 34 (by omega)
  have HB : Hid (Below w.heap.size w (w.alloc (.cells #[.int .u8 34] 5))) := (Below.refl _ _).alloc (Nat.le_refl _) _
  go_enter Tryz.func107, Tryz.ntmps107
  go_wp2
  go_loopw [3, 9] (fun b i wr => ∃ k : Nat, k ≤ t.length ∧ i = .int .i64 k ∧ Hid (OwnB wr w.heap.size b ([34] ++ (t.take k).flatMap escB)) ∧ Hid (Below w.heap.size w wr)) (fun _ i _ => t.length - (intOf i).toNat)
  case atStart => exact ⟨0, Nat.zero_le _, rfl, H0, HB⟩
  case round =>
    clear H0 HB
    obtain ⟨k, hk, rfl, hO, hB⟩ := hrel
    have hsz := hB.out.size
    have hfl := flat_len escB 2 (t.take k) (fun x _ => escB_len x)
    have htk : (t.take k).length ≤ 2000000 := by simp; omega
    by_cases hlt : k < t.length
    · obtain ⟨x, hx⟩ : ∃ x, t[k]? = some x := ⟨t[k], List.getElem?_eq_getElem hlt⟩
      have hxo : 0 ≤ x ∧ x ≤ 255 := ho x (List.mem_of_getElem? hx)
      have HST : Hid ((t.take (k + 1)).flatMap escB = (t.take k).flatMap escB ++ escB x) := flat_step escB hx
      obtain ⟨ho', a', cap', hv', -, -, -, hcells⟩ := HV.out wr hB.out
      simp only [Value.slice.injEq, true_and] at hv'
      obtain ⟨rfl, rfl⟩ := hv'
      obtain ⟨b, off, rfl, hlb, hc⟩ := hcells (by omega)
      have d0 := hc k hlt
      rw [List.getD_eq_getElem?_getD, hx, Option.getD_some] at d0
      clear hcells hc ho'
      have hne := needsEscape_any x hxo wr
      by_cases he : x = 34 ∨ x = 92
      · have HE : Hid (escB x = [92, x]) := by simp only [Hid, escB, if_pos he]
        rw [decide_eq_true he] at hne
        have HX : Hid (x = 34 ∨ x = 92) := he
        clear he
        go_wp2_with fail
        refine hne.mono ?_
        rintro e w1 ⟨rfl, rfl⟩
        clear hne d0
        go_wp2_with (at_builtin; refine wpList_append_bytes rfl (.tmp 15) (.tmp 16) 22 rfl i0 Tryz.underlying22 hi hz0 hz1 hz2 w.heap.size _ _ rfl (hO.out.alloc _) _ _ rfl (bs_one _ _ (by omega)) (by simp only [List.length_append, List.length_cons, List.length_nil]; omega) (by simp; omega) w (hB.out.alloc hsz _) ?_)
        intro v2 w2 hO2 hB2 _
        have s2 := hB2.size
        have HO2 : Hid (OwnB w2 w.heap.size v2 ([34] ++ (t.take k).flatMap escB ++ [92])) := by simpa [Hid] using hO2
        clear hO2 hO hB hlb
        go_wp2_with (at_builtin; refine wpList_append_bytes rfl (.tmp 18) (.tmp 20) 22 rfl i0 Tryz.underlying22 hi hz0 hz1 hz2 w.heap.size _ _ rfl (HO2.out.alloc _) _ [x] rfl (bs_one _ _ (by omega)) (by simp only [List.length_append, List.length_cons, List.length_nil]; omega) (by simp; omega) w (hB2.alloc s2 _) ?_)
        intro v3 w3 hO3 hB3 _
        have HO3 : Hid (OwnB w3 w.heap.size v3 ([34] ++ (t.take (k + 1)).flatMap escB)) := by
          rw [HST.out, HE.out]
          simpa [Hid] using hO3
        clear hO3
        go_wp2
        go_roundw
        case rel => exact ⟨k + 1, by omega, by go_num, HO3, hB3⟩
        case measure => simp [intOf]; omega
      · have HE : Hid (escB x = [x]) := by simp only [Hid, escB, if_neg he]
        rw [decide_eq_false he] at hne
        clear he
        go_wp2_with fail
        refine hne.mono ?_
        rintro e w1 ⟨rfl, rfl⟩
        clear hne d0
        go_wp2_with (at_builtin; refine wpList_append_bytes rfl (.tmp 18) (.tmp 20) 22 rfl i0 Tryz.underlying22 hi hz0 hz1 hz2 w.heap.size _ _ rfl (hO.out.alloc _) _ [x] rfl (bs_one _ _ (by omega)) (by simp only [List.length_append, List.length_cons, List.length_nil]; omega) (by simp; omega) w (hB.out.alloc hsz _) ?_)
        intro v3 w3 hO3 hB3 _
        have HO3 : Hid (OwnB w3 w.heap.size v3 ([34] ++ (t.take (k + 1)).flatMap escB)) := by
          rw [HST.out, HE.out]
          simpa [Hid] using hO3
        clear hO3
        go_wp2
        go_roundw
        case rel => exact ⟨k + 1, by omega, by go_num, HO3, hB3⟩
        case measure => simp [intOf]; omega
    · obtain rfl : k = t.length := by omega
      go_wp2_with (at_builtin; refine wpList_append_bytes rfl (.tmp 23) (.tmp 24) 22 rfl i0 Tryz.underlying22 hi hz0 hz1 hz2 w.heap.size _ _ rfl (hO.out.alloc _) _ _ rfl (bs_one _ _ (by omega)) (by simp only [List.length_append, List.length_cons, List.length_nil]; omega) (by simp; omega) w (hB.out.alloc hsz _) ?_)
      intro v2 w2 hO2 hB2 _
      have HO2 : OwnB w2 w.heap.size v2 (quoB t) := by simpa [quoB] using hO2
      have hcv := run_convert_bs HO2.bs
      clear hO2 HO2
      go_wp2
      go_ret
      exact ⟨rfl, hB2⟩

end Go.Proofs.YtifpjdpcmfneaaaGreatDoor

/- strconv.Itoa, out of the library's contract. -/
namespace Go.Proofs.YtifpjdpcmfneaaaGreatDoor
open Go.RowKit

/-- The library's table of powers reads as its start-up lays it. -/
abbrev Tab10 (w : World) : Prop := Lib.TabIs Tryz.prog w "internal/strconv.uint64pow10" .u64 Lib.pow10Tab
theorem str_dig (n : Nat) : (⟨(Lib.decDigits n).toArray⟩ : ByteArray) = strOfNums (digB n) := by
  unfold strOfNums digB ofU8
  rw [List.map_map]
  congr 2
  conv => lhs; rw [← List.map_id (Lib.decDigits n)]
  refine List.map_congr_left fun b _ => ?_
  simp

theorem itoa_b (n : Nat) (hn : n ≤ 9999999) (w : World) (ht : Tab10 w) :
    Calls Tryz.prog 112 #[.int .i64 n] w fun e w' => e = .returned (.string (strOfNums (digB n))) ∧ Below w.heap.size w w' := by
  refine (Tryz.strconv_Itoa (n : Int) (by omega) (by omega) w ht).mono ?_
  rintro e w' ⟨rfl, k, os, rfl⟩
  refine ⟨?_, Lib.below_grow _ w (Nat.le_refl _) k os⟩
  rw [← str_dig]
  have : Lib.itoa (n : Int) = Lib.decDigits n := by
    unfold Lib.itoa
    rw [if_neg (by omega)]
    simp
  rw [this]

end Go.Proofs.YtifpjdpcmfneaaaGreatDoor

/- Strings that commands and replies are made of. -/
namespace Go.Proofs.YtifpjdpcmfneaaaGreatDoor
open Go.RowKit
set_option linter.unusedVariables false

theorem itoa_i (n : Int) (h0 : 0 ≤ n) (h1 : n ≤ 9999999) (w : World) (ht : Tab10 w) :
    Calls Tryz.prog 112 #[.int .i64 n] w fun e w' => e = .returned (.string (strOfNums (digB n.toNat))) ∧ Below w.heap.size w w' := by
  have h := itoa_b n.toNat (by omega) w ht
  rwa [show ((n.toNat : Nat) : Int) = n by omega] at h
theorem flagsText_i (n : Int) (h0 : 0 ≤ n) (h1 : n ≤ 31) (w : World) :
    Calls Tryz.prog 106 #[.int .i64 n] w fun e w' => e = .returned (.string (strOfNums (flagsB n))) ∧ Below w.heap.size w w' := by
  have h := flagsText_r n.toNat (by omega) w
  rwa [show ((n.toNat : Nat) : Int) = n by omega] at h
theorem strs_lit (w : World) (g : Nat) (ss : List (List Int)) (h : w.heap[g]? = some (.cells (ss.map (fun s => Value.string (strOfNums s))).toArray 9 (0, 0))) (hn : ∀ s, s ∈ ss → Oct s) (hl : ss.length ≤ 1000) : StrsV w (.slice (some ⟨g, 0, none⟩) ss.length ss.length) ss := by
  refine ⟨some ⟨g, 0, none⟩, ss.length, fun i => [.string (strOfNums (ss.getD i []))], rfl, Nat.le_refl _, by unfold maxLen; omega, (fun h => by cases h), fun i x hx => ?_, fun _ => ?_⟩
  · exact ⟨⟨by simp [List.getD_eq_getElem?_getD, hx], hn x (List.mem_of_getElem? hx)⟩, rfl⟩
  · refine ⟨g, 0, rfl, lt_of_heap h, fun i j u hi hu => ?_⟩
    cases j with
    | zero =>
      simp only [List.getElem?_cons_zero, Option.some.injEq] at hu
      subst hu
      rw [show 0 + i * 1 + 0 = i by omega, cell_of_row w g i _ _ (0, 0) h]
      simp [List.getD_eq_getElem?_getD, hi]
    | succ j => simp at hu
theorem digB_oct (n : Nat) : Oct (digB n) := ofU8_oct _
theorem flagsB_oct (f : Int) : Oct (flagsB f) := by
  intro y hy
  simp only [flagsB, List.mem_append, List.mem_cons, List.not_mem_nil, or_false, List.mem_flatMap, List.mem_range] at hy
  rcases hy with (rfl | ⟨i, hi, hy⟩) | rfl
  · omega
  · unfold flagAt at hy
    split at hy
    · simp only [List.mem_cons, List.not_mem_nil, or_false] at hy
      subst hy
      unfold letB
      split <;> omega
    · cases hy
  · omega
theorem flagsB_len (f : Int) : (flagsB f).length ≤ 7 := by
  have := flat_len (flagAt f) 1 (List.range 5) (fun x _ => flagAt_len f x)
  simp only [flagsB, List.length_append, List.length_cons, List.length_nil, List.length_range] at *
  omega
theorem quoB_oct {t : List Int} (h : Oct t) : Oct (quoB t) := by
  intro y hy
  simp only [quoB, List.mem_append, List.mem_cons, List.not_mem_nil, or_false, List.mem_flatMap] at hy
  rcases hy with (rfl | ⟨i, hi, hy⟩) | rfl
  · omega
  · have := h i hi
    unfold escB at hy
    split at hy <;> simp only [List.mem_cons, List.not_mem_nil, or_false] at hy <;> omega
  · omega
theorem quoB_len (t : List Int) : (quoB t).length ≤ 2 * t.length + 2 := by
  have := flat_len escB 2 t (fun x _ => escB_len x)
  simp only [quoB, List.length_append, List.length_cons, List.length_nil]
  omega

end Go.Proofs.YtifpjdpcmfneaaaGreatDoor

/- A text that grows word by word: what is kept of it. -/
namespace Go.Proofs.YtifpjdpcmfneaaaGreatDoor
open Go.RowKit
set_option linter.unusedVariables false

/-- The text v lies in block g, made behind A; all that A had is as it was. -/
def St (A wx : World) (g : Nat) (v : Value) (L : List Int) (n : Nat) : Prop := A.heap.size ≤ g ∧ OwnQ wx g v L ∧ Below A.heap.size A wx ∧ 0 < L.length ∧ L.length ≤ n
theorem St.own {A wx : World} {g : Nat} {v : Value} {L : List Int} {n : Nat} (h : St A wx g v L n) : OwnQ wx g v L := h.2.1
theorem St.old {A wx : World} {g : Nat} {v : Value} {L : List Int} {n : Nat} (h : St A wx g v L n) : Below A.heap.size A wx := h.2.2.1
theorem St.ge {A wx : World} {g : Nat} {v : Value} {L : List Int} {n : Nat} (h : St A wx g v L n) : A.heap.size ≤ g := h.1
theorem St.lt {A wx : World} {g : Nat} {v : Value} {L : List Int} {n : Nat} (h : St A wx g v L n) : g < wx.heap.size := h.2.1.lt
theorem St.below {A wx w' : World} {g : Nat} {v : Value} {L : List Int} {n : Nat} (h : St A wx g v L n) (hb : Below wx.heap.size wx w') : St A w' g v L n := ⟨h.1, h.2.1.below hb, Below.step h.2.2.1 hb, h.2.2.2⟩
theorem below_grownQ {A w w' : World} {g : Nat} (h : Below A.heap.size A w) (hg : w.grownBy w' (some g)) (hge : A.heap.size ≤ g) : Below A.heap.size A w' := h.grown hg h.size (fun k hk => by cases hk; exact hge)
theorem l4word_s (A : World) (g : Nat) (v wv : Value) (L wd : List Int) (n m : Nat) (w : World) (h : St A w g v L n) (hs : Bs w wv wd) (hn : wv.ownBlock ≠ some g) (hm : wd.length ≤ m) (hb : n + m ≤ 999999) :
    Calls Tryz.prog 62 #[v, wv] w fun e w' => ∃ u g', e = .returned u ∧ St A w' g' u (L ++ [32] ++ wd) (n + 1 + m) ∧ w.grownBy w' (some g) ∧ (g' = g ∨ w.heap.size ≤ g') := by
  have h0 := h.2.2.2
  refine (l4word_q g v wv L wd w h.own hs hn h0.1 (by omega) (by omega)).mono ?_
  rintro e w' ⟨u, g', rfl, hO, hG, hg⟩
  refine ⟨u, g', rfl, ⟨?_, hO, below_grownQ h.old hG h.ge, by simp; omega, by simp; omega⟩, hG, hg⟩
  have h1 := h.ge
  have h2 := h.old.size
  rcases hg with rfl | hg <;> omega
/-- A row that was made later than block g lies elsewhere. -/
theorem OwnB.ne {w : World} {B g : Nat} {v : Value} {l : List Int} (h : OwnB w B v l) (hg : g < B) : v.ownBlock ≠ some g := fun e => by have := (h.row.lt g e).1; omega
theorem bs_old_ne {w : World} {v : Value} {l : List Int} {g : Nat} (h : Bs w v l) (hg : w.heap.size ≤ g) (h0 : 0 < l.length) : v.ownBlock ≠ some g := by
  obtain ⟨_, a, cap, rfl, _, _, _, h4⟩ := h
  obtain ⟨b, off, rfl, hb, _⟩ := h4 h0
  simp only [Value.ownBlock, ne_eq, Option.some.injEq]
  omega
/-- The rest of a region under a stronger condition. -/
theorem wpAnyH_more {P : Program} {md : Region.Mode} {ops : Array Oper} {Q : Exit → Act → World → Prop} {S S' : World → Prop} (hS : ∀ w, S' w → S w) :
    ∀ (fuel : Nat) (l : Array Bool) (a : Act) (w : World), wpAnyH P md ops Q S' fuel l a w → wpAnyH P md ops Q S fuel l a w
  | 0, _, _, _, h => h
  | fuel + 1, _, _, _, h => ⟨h.1, fun i hi => wpOp_mono (fun a' w' h' => ⟨hS w' h'.1, wpAnyH_more hS fuel _ a' w' h'.2⟩) (h.2 i hi)⟩
theorem hidm {p : Prop} (h : p) : Hid p := h
theorem wpOrd_more {P : Program} {ops : Array Oper} {Q : Exit → Act → World → Prop} {S : World → Prop} {n p : Nat} {ord : List Nat} {a : Act} {w : World} (S' : World → Prop) (hS : ∀ w, S' w → S w) (h : wpOrd P ops Q S' n ord p a w) : wpOrd P ops Q S n ord p a w := wpAnyH_more hS _ _ _ _ h
theorem St.made {A wx : World} {g : Nat} {v : Value} {L : List Int} {n : Nat} (h : St A wx g v L n) : ∀ k, v.ownBlock = some k → A.heap.size ≤ k := by
  intro k hk
  obtain ⟨cap, rfl⟩ := h.own.form
  have e : g = k := by simpa [Value.ownBlock] using hk
  have := h.ge
  omega
theorem run_convert_str (s : List Int) (w : World) : (convert 9 22 (.string (strOfNums s))).run Tryz.prog w = .ok (.slice (some ⟨w.heap.size, 0, none⟩) s.length (grownCap w s.length 0 5)) (Lib.bytesWorld w 5 (strOfNums s)) := by
  have h := Lib.run_convert_string_bytes (P := Tryz.prog) w 9 22 5 (strOfNums s) Tryz.underlying9 Tryz.underlying22 Tryz.underlying5
  rwa [strOfNums_size] at h

/-- What '[]byte("..")' of a constant answers. -/
theorem lit_conv (W : World) (l : List Int) (hl : Oct l) (hn : l.length ≤ 1000) : ∃ w', (convert 22 22 (.slice (some ⟨W.heap.size, 0, none⟩) l.length l.length)).run Tryz.prog (W.alloc (.cells (vals l).toArray 5)) = .ok (.slice (some ⟨W.heap.size, 0, none⟩) l.length l.length) w' ∧
    OwnQ w' W.heap.size (.slice (some ⟨W.heap.size, 0, none⟩) l.length l.length) l ∧ Below W.heap.size W w' := by
  have hsh : (W.alloc (.cells (vals l).toArray 5)).shape? W.heap.size = some (5, (vals l).toArray.size) := by
    simp [World.shape?, World.alloc, -World.alloc_eq]
  refine ⟨(W.alloc (.cells (vals l).toArray 5)).freeze ⟨W.heap.size, (vals l).toArray.size, none⟩ 1, ?_, ⟨hl, l.length, (vals l).toArray, ((vals l).toArray.size, (vals l).toArray.size + 1), rfl, ?_, .inr (by simp [length_vals]), Nat.le_refl _, by unfold maxLen; omega, by simp [length_vals], by simp [List.take_of_length_le, length_vals]⟩, rfl, rfl, rfl, ?_, fun k hk => ?_⟩
  · simp [convert, run_underlying Tryz.underlying22, run_underlying Tryz.underlying5, markStringish, hsh, Result.andThen]
  · simp [World.freeze, World.alloc, -World.alloc_eq]
    rw [Array.getElem_modify_self]
    simp
  · simp [World.freeze, World.alloc, -World.alloc_eq]
  · have h1 : W.heap.size ≠ k := by omega
    simp [World.freeze, World.alloc, -World.alloc_eq, Array.getElem?_modify, Array.getElem?_push, h1, Ne.symm h1]
theorem modeW_ok (mn : Nat) (h : mn ≤ 2) : (modeW mn).length ≤ 7 ∧ Oct (modeW mn) := by
  have : mn = 0 ∨ mn = 1 ∨ mn = 2 := by omega
  rcases this with rfl | rfl | rfl <;> exact ⟨by decide, by intro x hx; simp [modeW] at hx; omega⟩
theorem modeCell {w : World} {b mn : Nat} (hm : mn ≤ 2) (h : w.heap[b]? = some (.cells #[.string ⟨#[73, 83]⟩, .string ⟨#[87, 73, 84, 72]⟩, .string ⟨#[87, 73, 84, 72, 79, 85, 84]⟩] 9 (0, 0))) : w.cell? ⟨b, mn, none⟩ = some (.string (strOfNums (modeW mn))) := by
  have e := bx3 h
  have : mn = 0 ∨ mn = 1 ∨ mn = 2 := by omega
  rcases this with rfl | rfl | rfl
  · exact e.1
  · exact e.2.1
  · exact e.2.2

end Go.Proofs.YtifpjdpcmfneaaaGreatDoor

/- What l4text of package spec does: kinds with a name alone, and without one. -/
namespace Go.Proofs.YtifpjdpcmfneaaaGreatDoor
open Go.RowKit
set_option maxRecDepth 100000
set_option linter.unusedVariables false

set_option maxRecDepth 100000 in
set_option maxHeartbeats 4000000 in
theorem l4text_9' (a0 a1 a2 : Option Addr) (n0 n1 n2 c0 c1 c2 : Nat) (bx tt : List Int) (uid mode fl si : Int) (tx : List Int) (w : World) (HG : Hid (∀ wi, Below w.heap.size w wi → Bs wi (.slice a0 n0 c0) bx ∧ Bs wi (.slice a1 n1 c1) tt ∧ Bs wi (.slice a2 n2 c2) tx))  :
    Calls Tryz.prog 37 #[.agg #[.int .i64 9, .slice a0 n0 c0, .slice a1 n1 c1, .int .i64 uid, .int .i64 mode, .int .i64 fl, .int .i64 si, .slice a2 n2 c2]] w fun e w' => ∃ u, e = .returned u ∧ Bs w' u (kindW 9) ∧ (∀ k, u.ownBlock = some k → w.heap.size ≤ k) ∧ Below w.heap.size w w' := by
  have HX : Hid (Below w.heap.size w (w.alloc (.cells #[.int .i64 9, .slice a0 n0 c0, .slice a1 n1 c1, .int .i64 uid, .int .i64 mode, .int .i64 fl, .int .i64 si, .slice a2 n2 c2] 34))) := (Below.refl _ _).alloc (Nat.le_refl _) _
  have HK : Hid ((w.alloc (.cells #[.int .i64 9, .slice a0 n0 c0, .slice a1 n1 c1, .int .i64 uid, .int .i64 mode, .int .i64 fl, .int .i64 si, .slice a2 n2 c2] 34)).heap[w.heap.size]? = some (.cells #[.int .i64 9, .slice a0 n0 c0, .slice a1 n1 c1, .int .i64 uid, .int .i64 mode, .int .i64 fl, .int .i64 si, .slice a2 n2 c2] 34)) := box_new w _
  have hcv := run_convert_str (kindW 9)
  have hkw : (kindW 9).length ≤ 7 ∧ 0 < (kindW 9).length ∧ Oct (kindW 9) := by
    exact ⟨by decide, by decide, by intro x hx; simp [kindW] at hx; omega⟩
  have hq := fun W => bytesWorldQ W (kindW 9) hkw.2.2 (by omega)
  generalize hA : w.alloc (.cells #[.int .i64 9, .slice a0 n0 c0, .slice a1 n1 c1, .int .i64 uid, .int .i64 mode, .int .i64 fl, .int .i64 si, .slice a2 n2 c2] 34) = A at HX HK
  have hAs : A.heap.size = w.heap.size + 1 := by rw [← hA]; simp
  generalize hkW : kindW 9 = kw at *
  go_enter Tryz.func37, Tryz.ntmps37
  obtain ⟨f0, f1, f2, f3, f4, f5, f6, f7⟩ := box8 HK.out
  have hlA := lt_of_heap HK.out
  go_wp2_with fail
  refine (l4kind_r 9 (by omega) _).mono ?_
  rw [hkW]
  rintro e w1 ⟨rfl, B⟩
  have hq1 := hq w1
  have hs1 := B.size
  generalize hW2 : Lib.bytesWorld w1 5 (strOfNums kw) = w2 at *
  have C2 := Below.step B hq1.2
  have ST : Hid (St A w2 w1.heap.size (.slice (some ⟨w1.heap.size, 0, none⟩) kw.length (grownCap w1 kw.length 0 5)) kw 7) := ⟨hs1, hq1.1, C2, hkw.2.1, hkw.1⟩
  have K2 := box_below C2 HK.out
  clear f0 f1 f2 f3 f4 f5 f6 f7 hlA hq hq1 B C2
  obtain ⟨f0, f1, f2, f3, f4, f5, f6, f7⟩ := box8 K2
  have hlA := lt_of_heap K2
  go_wp2
  go_ret
  exact ⟨_, rfl, ST.out.own.bs, fun k hk => Nat.le_trans (by omega) (ST.out.made k hk), Below.step HX.out ST.out.old⟩

set_option maxRecDepth 100000 in
set_option maxHeartbeats 4000000 in
theorem l4text_0 (a0 a1 a2 : Option Addr) (n0 n1 n2 c0 c1 c2 : Nat) (bx tt : List Int) (uid mode fl si : Int) (tx : List Int) (w : World) (HG : Hid (∀ wi, Below w.heap.size w wi → Bs wi (.slice a0 n0 c0) bx ∧ Bs wi (.slice a1 n1 c1) tt ∧ Bs wi (.slice a2 n2 c2) tx)) (hbx : bx.length ≤ 6) (hbx0 : 0 < bx.length)  :
    Calls Tryz.prog 37 #[.agg #[.int .i64 0, .slice a0 n0 c0, .slice a1 n1 c1, .int .i64 uid, .int .i64 mode, .int .i64 fl, .int .i64 si, .slice a2 n2 c2]] w fun e w' => ∃ u, e = .returned u ∧ Bs w' u (kindW 0 ++ [32] ++ bx) ∧ (∀ k, u.ownBlock = some k → w.heap.size ≤ k) ∧ Below w.heap.size w w' := by
  have HX : Hid (Below w.heap.size w (w.alloc (.cells #[.int .i64 0, .slice a0 n0 c0, .slice a1 n1 c1, .int .i64 uid, .int .i64 mode, .int .i64 fl, .int .i64 si, .slice a2 n2 c2] 34))) := (Below.refl _ _).alloc (Nat.le_refl _) _
  have HK : Hid ((w.alloc (.cells #[.int .i64 0, .slice a0 n0 c0, .slice a1 n1 c1, .int .i64 uid, .int .i64 mode, .int .i64 fl, .int .i64 si, .slice a2 n2 c2] 34)).heap[w.heap.size]? = some (.cells #[.int .i64 0, .slice a0 n0 c0, .slice a1 n1 c1, .int .i64 uid, .int .i64 mode, .int .i64 fl, .int .i64 si, .slice a2 n2 c2] 34)) := box_new w _
  have hcv := run_convert_str (kindW 0)
  have hkw : (kindW 0).length ≤ 7 ∧ 0 < (kindW 0).length ∧ Oct (kindW 0) := by
    exact ⟨by decide, by decide, by intro x hx; simp [kindW] at hx; omega⟩
  have hq := fun W => bytesWorldQ W (kindW 0) hkw.2.2 (by omega)
  generalize hA : w.alloc (.cells #[.int .i64 0, .slice a0 n0 c0, .slice a1 n1 c1, .int .i64 uid, .int .i64 mode, .int .i64 fl, .int .i64 si, .slice a2 n2 c2] 34) = A at HX HK
  have hAs : A.heap.size = w.heap.size + 1 := by rw [← hA]; simp
  generalize hkW : kindW 0 = kw at *
  go_enter Tryz.func37, Tryz.ntmps37
  obtain ⟨f0, f1, f2, f3, f4, f5, f6, f7⟩ := box8 HK.out
  have hlA := lt_of_heap HK.out
  go_wp2_with fail
  refine (l4kind_r 0 (by omega) _).mono ?_
  rw [hkW]
  rintro e w1 ⟨rfl, B⟩
  have hq1 := hq w1
  have hs1 := B.size
  generalize hW2 : Lib.bytesWorld w1 5 (strOfNums kw) = w2 at *
  have C2 := Below.step B hq1.2
  have ST : Hid (St A w2 w1.heap.size (.slice (some ⟨w1.heap.size, 0, none⟩) kw.length (grownCap w1 kw.length 0 5)) kw 7) := ⟨hs1, hq1.1, C2, hkw.2.1, hkw.1⟩
  have K2 := box_below C2 HK.out
  clear f0 f1 f2 f3 f4 f5 f6 f7 hlA hq hq1 B C2
  obtain ⟨f0, f1, f2, f3, f4, f5, f6, f7⟩ := box8 K2
  have hlA := lt_of_heap K2
  go_wp2_with fail
  refine (l4word_s A _ _ (.slice a0 n0 c0) kw bx 7 6 _ ST.out (HG.out _ (Below.step HX.out ST.out.old)).1 (bs_old_ne (HG.out _ (Below.refl _ _)).1 (by omega) hbx0) (by omega) (by omega)).mono ?_
  rintro e w3 ⟨v1, g1, rfl, ST1, G1, hg1⟩
  have S1 : Hid (St A w3 g1 v1 (kw ++ [32] ++ bx) 14) := ST1
  have K3 := box_below S1.out.old HK.out
  clear f0 f1 f2 f3 f4 f5 f6 f7 hlA ST1 G1 hg1 ST K2
  obtain ⟨f0, f1, f2, f3, f4, f5, f6, f7⟩ := box8 K3
  have hlA := lt_of_heap K3
  go_wp2
  go_ret
  exact ⟨_, rfl, S1.out.own.bs, fun k hk => Nat.le_trans (by omega) (S1.out.made k hk), Below.step HX.out S1.out.old⟩

set_option maxRecDepth 100000 in
set_option maxHeartbeats 4000000 in
theorem l4text_1 (a0 a1 a2 : Option Addr) (n0 n1 n2 c0 c1 c2 : Nat) (bx tt : List Int) (uid mode fl si : Int) (tx : List Int) (w : World) (HG : Hid (∀ wi, Below w.heap.size w wi → Bs wi (.slice a0 n0 c0) bx ∧ Bs wi (.slice a1 n1 c1) tt ∧ Bs wi (.slice a2 n2 c2) tx)) (hbx : bx.length ≤ 6) (hbx0 : 0 < bx.length)  :
    Calls Tryz.prog 37 #[.agg #[.int .i64 1, .slice a0 n0 c0, .slice a1 n1 c1, .int .i64 uid, .int .i64 mode, .int .i64 fl, .int .i64 si, .slice a2 n2 c2]] w fun e w' => ∃ u, e = .returned u ∧ Bs w' u (kindW 1 ++ [32] ++ bx) ∧ (∀ k, u.ownBlock = some k → w.heap.size ≤ k) ∧ Below w.heap.size w w' := by
  have HX : Hid (Below w.heap.size w (w.alloc (.cells #[.int .i64 1, .slice a0 n0 c0, .slice a1 n1 c1, .int .i64 uid, .int .i64 mode, .int .i64 fl, .int .i64 si, .slice a2 n2 c2] 34))) := (Below.refl _ _).alloc (Nat.le_refl _) _
  have HK : Hid ((w.alloc (.cells #[.int .i64 1, .slice a0 n0 c0, .slice a1 n1 c1, .int .i64 uid, .int .i64 mode, .int .i64 fl, .int .i64 si, .slice a2 n2 c2] 34)).heap[w.heap.size]? = some (.cells #[.int .i64 1, .slice a0 n0 c0, .slice a1 n1 c1, .int .i64 uid, .int .i64 mode, .int .i64 fl, .int .i64 si, .slice a2 n2 c2] 34)) := box_new w _
  have hcv := run_convert_str (kindW 1)
  have hkw : (kindW 1).length ≤ 7 ∧ 0 < (kindW 1).length ∧ Oct (kindW 1) := by
    exact ⟨by decide, by decide, by intro x hx; simp [kindW] at hx; omega⟩
  have hq := fun W => bytesWorldQ W (kindW 1) hkw.2.2 (by omega)
  generalize hA : w.alloc (.cells #[.int .i64 1, .slice a0 n0 c0, .slice a1 n1 c1, .int .i64 uid, .int .i64 mode, .int .i64 fl, .int .i64 si, .slice a2 n2 c2] 34) = A at HX HK
  have hAs : A.heap.size = w.heap.size + 1 := by rw [← hA]; simp
  generalize hkW : kindW 1 = kw at *
  go_enter Tryz.func37, Tryz.ntmps37
  obtain ⟨f0, f1, f2, f3, f4, f5, f6, f7⟩ := box8 HK.out
  have hlA := lt_of_heap HK.out
  go_wp2_with fail
  refine (l4kind_r 1 (by omega) _).mono ?_
  rw [hkW]
  rintro e w1 ⟨rfl, B⟩
  have hq1 := hq w1
  have hs1 := B.size
  generalize hW2 : Lib.bytesWorld w1 5 (strOfNums kw) = w2 at *
  have C2 := Below.step B hq1.2
  have ST : Hid (St A w2 w1.heap.size (.slice (some ⟨w1.heap.size, 0, none⟩) kw.length (grownCap w1 kw.length 0 5)) kw 7) := ⟨hs1, hq1.1, C2, hkw.2.1, hkw.1⟩
  have K2 := box_below C2 HK.out
  clear f0 f1 f2 f3 f4 f5 f6 f7 hlA hq hq1 B C2
  obtain ⟨f0, f1, f2, f3, f4, f5, f6, f7⟩ := box8 K2
  have hlA := lt_of_heap K2
  go_wp2_with fail
  refine (l4word_s A _ _ (.slice a0 n0 c0) kw bx 7 6 _ ST.out (HG.out _ (Below.step HX.out ST.out.old)).1 (bs_old_ne (HG.out _ (Below.refl _ _)).1 (by omega) hbx0) (by omega) (by omega)).mono ?_
  rintro e w3 ⟨v1, g1, rfl, ST1, G1, hg1⟩
  have S1 : Hid (St A w3 g1 v1 (kw ++ [32] ++ bx) 14) := ST1
  have K3 := box_below S1.out.old HK.out
  clear f0 f1 f2 f3 f4 f5 f6 f7 hlA ST1 G1 hg1 ST K2
  obtain ⟨f0, f1, f2, f3, f4, f5, f6, f7⟩ := box8 K3
  have hlA := lt_of_heap K3
  go_wp2
  go_ret
  exact ⟨_, rfl, S1.out.own.bs, fun k hk => Nat.le_trans (by omega) (S1.out.made k hk), Below.step HX.out S1.out.old⟩

set_option maxRecDepth 100000 in
set_option maxHeartbeats 4000000 in
theorem l4text_4 (a0 a1 a2 : Option Addr) (n0 n1 n2 c0 c1 c2 : Nat) (bx tt : List Int) (uid mode fl si : Int) (tx : List Int) (w : World) (HG : Hid (∀ wi, Below w.heap.size w wi → Bs wi (.slice a0 n0 c0) bx ∧ Bs wi (.slice a1 n1 c1) tt ∧ Bs wi (.slice a2 n2 c2) tx)) (hbx : bx.length ≤ 6) (hbx0 : 0 < bx.length)  :
    Calls Tryz.prog 37 #[.agg #[.int .i64 4, .slice a0 n0 c0, .slice a1 n1 c1, .int .i64 uid, .int .i64 mode, .int .i64 fl, .int .i64 si, .slice a2 n2 c2]] w fun e w' => ∃ u, e = .returned u ∧ Bs w' u (kindW 4 ++ [32] ++ bx) ∧ (∀ k, u.ownBlock = some k → w.heap.size ≤ k) ∧ Below w.heap.size w w' := by
  have HX : Hid (Below w.heap.size w (w.alloc (.cells #[.int .i64 4, .slice a0 n0 c0, .slice a1 n1 c1, .int .i64 uid, .int .i64 mode, .int .i64 fl, .int .i64 si, .slice a2 n2 c2] 34))) := (Below.refl _ _).alloc (Nat.le_refl _) _
  have HK : Hid ((w.alloc (.cells #[.int .i64 4, .slice a0 n0 c0, .slice a1 n1 c1, .int .i64 uid, .int .i64 mode, .int .i64 fl, .int .i64 si, .slice a2 n2 c2] 34)).heap[w.heap.size]? = some (.cells #[.int .i64 4, .slice a0 n0 c0, .slice a1 n1 c1, .int .i64 uid, .int .i64 mode, .int .i64 fl, .int .i64 si, .slice a2 n2 c2] 34)) := box_new w _
  have hcv := run_convert_str (kindW 4)
  have hkw : (kindW 4).length ≤ 7 ∧ 0 < (kindW 4).length ∧ Oct (kindW 4) := by
    exact ⟨by decide, by decide, by intro x hx; simp [kindW] at hx; omega⟩
  have hq := fun W => bytesWorldQ W (kindW 4) hkw.2.2 (by omega)
  generalize hA : w.alloc (.cells #[.int .i64 4, .slice a0 n0 c0, .slice a1 n1 c1, .int .i64 uid, .int .i64 mode, .int .i64 fl, .int .i64 si, .slice a2 n2 c2] 34) = A at HX HK
  have hAs : A.heap.size = w.heap.size + 1 := by rw [← hA]; simp
  generalize hkW : kindW 4 = kw at *
  go_enter Tryz.func37, Tryz.ntmps37
  obtain ⟨f0, f1, f2, f3, f4, f5, f6, f7⟩ := box8 HK.out
  have hlA := lt_of_heap HK.out
  go_wp2_with fail
  refine (l4kind_r 4 (by omega) _).mono ?_
  rw [hkW]
  rintro e w1 ⟨rfl, B⟩
  have hq1 := hq w1
  have hs1 := B.size
  generalize hW2 : Lib.bytesWorld w1 5 (strOfNums kw) = w2 at *
  have C2 := Below.step B hq1.2
  have ST : Hid (St A w2 w1.heap.size (.slice (some ⟨w1.heap.size, 0, none⟩) kw.length (grownCap w1 kw.length 0 5)) kw 7) := ⟨hs1, hq1.1, C2, hkw.2.1, hkw.1⟩
  have K2 := box_below C2 HK.out
  clear f0 f1 f2 f3 f4 f5 f6 f7 hlA hq hq1 B C2
  obtain ⟨f0, f1, f2, f3, f4, f5, f6, f7⟩ := box8 K2
  have hlA := lt_of_heap K2
  go_wp2_with fail
  refine (l4word_s A _ _ (.slice a0 n0 c0) kw bx 7 6 _ ST.out (HG.out _ (Below.step HX.out ST.out.old)).1 (bs_old_ne (HG.out _ (Below.refl _ _)).1 (by omega) hbx0) (by omega) (by omega)).mono ?_
  rintro e w3 ⟨v1, g1, rfl, ST1, G1, hg1⟩
  have S1 : Hid (St A w3 g1 v1 (kw ++ [32] ++ bx) 14) := ST1
  have K3 := box_below S1.out.old HK.out
  clear f0 f1 f2 f3 f4 f5 f6 f7 hlA ST1 G1 hg1 ST K2
  obtain ⟨f0, f1, f2, f3, f4, f5, f6, f7⟩ := box8 K3
  have hlA := lt_of_heap K3
  go_wp2
  go_ret
  exact ⟨_, rfl, S1.out.own.bs, fun k hk => Nat.le_trans (by omega) (S1.out.made k hk), Below.step HX.out S1.out.old⟩

set_option maxRecDepth 100000 in
set_option maxHeartbeats 4000000 in
theorem l4text_7 (a0 a1 a2 : Option Addr) (n0 n1 n2 c0 c1 c2 : Nat) (bx tt : List Int) (uid mode fl si : Int) (tx : List Int) (w : World) (HG : Hid (∀ wi, Below w.heap.size w wi → Bs wi (.slice a0 n0 c0) bx ∧ Bs wi (.slice a1 n1 c1) tt ∧ Bs wi (.slice a2 n2 c2) tx)) (hbx : bx.length ≤ 6) (hbx0 : 0 < bx.length)  :
    Calls Tryz.prog 37 #[.agg #[.int .i64 7, .slice a0 n0 c0, .slice a1 n1 c1, .int .i64 uid, .int .i64 mode, .int .i64 fl, .int .i64 si, .slice a2 n2 c2]] w fun e w' => ∃ u, e = .returned u ∧ Bs w' u (kindW 7 ++ [32] ++ bx) ∧ (∀ k, u.ownBlock = some k → w.heap.size ≤ k) ∧ Below w.heap.size w w' := by
  have HX : Hid (Below w.heap.size w (w.alloc (.cells #[.int .i64 7, .slice a0 n0 c0, .slice a1 n1 c1, .int .i64 uid, .int .i64 mode, .int .i64 fl, .int .i64 si, .slice a2 n2 c2] 34))) := (Below.refl _ _).alloc (Nat.le_refl _) _
  have HK : Hid ((w.alloc (.cells #[.int .i64 7, .slice a0 n0 c0, .slice a1 n1 c1, .int .i64 uid, .int .i64 mode, .int .i64 fl, .int .i64 si, .slice a2 n2 c2] 34)).heap[w.heap.size]? = some (.cells #[.int .i64 7, .slice a0 n0 c0, .slice a1 n1 c1, .int .i64 uid, .int .i64 mode, .int .i64 fl, .int .i64 si, .slice a2 n2 c2] 34)) := box_new w _
  have hcv := run_convert_str (kindW 7)
  have hkw : (kindW 7).length ≤ 7 ∧ 0 < (kindW 7).length ∧ Oct (kindW 7) := by
    exact ⟨by decide, by decide, by intro x hx; simp [kindW] at hx; omega⟩
  have hq := fun W => bytesWorldQ W (kindW 7) hkw.2.2 (by omega)
  generalize hA : w.alloc (.cells #[.int .i64 7, .slice a0 n0 c0, .slice a1 n1 c1, .int .i64 uid, .int .i64 mode, .int .i64 fl, .int .i64 si, .slice a2 n2 c2] 34) = A at HX HK
  have hAs : A.heap.size = w.heap.size + 1 := by rw [← hA]; simp
  generalize hkW : kindW 7 = kw at *
  go_enter Tryz.func37, Tryz.ntmps37
  obtain ⟨f0, f1, f2, f3, f4, f5, f6, f7⟩ := box8 HK.out
  have hlA := lt_of_heap HK.out
  go_wp2_with fail
  refine (l4kind_r 7 (by omega) _).mono ?_
  rw [hkW]
  rintro e w1 ⟨rfl, B⟩
  have hq1 := hq w1
  have hs1 := B.size
  generalize hW2 : Lib.bytesWorld w1 5 (strOfNums kw) = w2 at *
  have C2 := Below.step B hq1.2
  have ST : Hid (St A w2 w1.heap.size (.slice (some ⟨w1.heap.size, 0, none⟩) kw.length (grownCap w1 kw.length 0 5)) kw 7) := ⟨hs1, hq1.1, C2, hkw.2.1, hkw.1⟩
  have K2 := box_below C2 HK.out
  clear f0 f1 f2 f3 f4 f5 f6 f7 hlA hq hq1 B C2
  obtain ⟨f0, f1, f2, f3, f4, f5, f6, f7⟩ := box8 K2
  have hlA := lt_of_heap K2
  go_wp2_with fail
  refine (l4word_s A _ _ (.slice a0 n0 c0) kw bx 7 6 _ ST.out (HG.out _ (Below.step HX.out ST.out.old)).1 (bs_old_ne (HG.out _ (Below.refl _ _)).1 (by omega) hbx0) (by omega) (by omega)).mono ?_
  rintro e w3 ⟨v1, g1, rfl, ST1, G1, hg1⟩
  have S1 : Hid (St A w3 g1 v1 (kw ++ [32] ++ bx) 14) := ST1
  have K3 := box_below S1.out.old HK.out
  clear f0 f1 f2 f3 f4 f5 f6 f7 hlA ST1 G1 hg1 ST K2
  obtain ⟨f0, f1, f2, f3, f4, f5, f6, f7⟩ := box8 K3
  have hlA := lt_of_heap K3
  go_wp2
  go_ret
  exact ⟨_, rfl, S1.out.own.bs, fun k hk => Nat.le_trans (by omega) (S1.out.made k hk), Below.step HX.out S1.out.old⟩

end Go.Proofs.YtifpjdpcmfneaaaGreatDoor

/- What l4text of package spec does: APPEND. -/
namespace Go.Proofs.YtifpjdpcmfneaaaGreatDoor
open Go.RowKit
set_option maxRecDepth 100000
set_option linter.unusedVariables false

theorem tabTX7 : (Tryz.f37.body.bind (opsAt 7)).all (fun o => tableO o 10 [0, 1, 2, 5, 6, 3, 4, 7, 8, 9] [5, 6, 7, 8]) = true := by kernel_rfl

set_option maxRecDepth 100000 in
set_option maxHeartbeats 4000000 in
theorem l4text_2 (a0 a1 a2 : Option Addr) (n0 n1 n2 c0 c1 c2 : Nat) (bx tt : List Int) (uid mode fl si : Int) (tx : List Int) (w : World) (HG : Hid (∀ wi, Below w.heap.size w wi → Bs wi (.slice a0 n0 c0) bx ∧ Bs wi (.slice a1 n1 c1) tt ∧ Bs wi (.slice a2 n2 c2) tx)) (hbx : bx.length ≤ 6) (hbx0 : 0 < bx.length) (fn : Nat) (hfl : fl = fn) (hfn : fn ≤ 31) (htx : tx.length ≤ 30) :
    Calls Tryz.prog 37 #[.agg #[.int .i64 2, .slice a0 n0 c0, .slice a1 n1 c1, .int .i64 uid, .int .i64 mode, .int .i64 fl, .int .i64 si, .slice a2 n2 c2]] w fun e w' => ∃ u, e = .returned u ∧ Bs w' u (kindW 2 ++ [32] ++ bx ++ [32] ++ flagsB fl ++ [32] ++ quoB tx) ∧ (∀ k, u.ownBlock = some k → w.heap.size ≤ k) ∧ Below w.heap.size w w' := by
  subst hfl
  have hqu := quoB_len tx
  have HX : Hid (Below w.heap.size w (w.alloc (.cells #[.int .i64 2, .slice a0 n0 c0, .slice a1 n1 c1, .int .i64 uid, .int .i64 mode, .int .i64 fn, .int .i64 si, .slice a2 n2 c2] 34))) := (Below.refl _ _).alloc (Nat.le_refl _) _
  have HK : Hid ((w.alloc (.cells #[.int .i64 2, .slice a0 n0 c0, .slice a1 n1 c1, .int .i64 uid, .int .i64 mode, .int .i64 fn, .int .i64 si, .slice a2 n2 c2] 34)).heap[w.heap.size]? = some (.cells #[.int .i64 2, .slice a0 n0 c0, .slice a1 n1 c1, .int .i64 uid, .int .i64 mode, .int .i64 fn, .int .i64 si, .slice a2 n2 c2] 34)) := box_new w _
  have hcv := run_convert_str (kindW 2)
  have hkw : (kindW 2).length ≤ 7 ∧ 0 < (kindW 2).length ∧ Oct (kindW 2) := by
    exact ⟨by decide, by decide, by intro x hx; simp [kindW] at hx; omega⟩
  have hq := fun W => bytesWorldQ W (kindW 2) hkw.2.2 (by omega)
  generalize hA : w.alloc (.cells #[.int .i64 2, .slice a0 n0 c0, .slice a1 n1 c1, .int .i64 uid, .int .i64 mode, .int .i64 fn, .int .i64 si, .slice a2 n2 c2] 34) = A at HX HK
  have hAs : A.heap.size = w.heap.size + 1 := by rw [← hA]; simp
  generalize hkW : kindW 2 = kw at *
  go_enter Tryz.func37, Tryz.ntmps37
  obtain ⟨f0, f1, f2, f3, f4, f5, f6, f7⟩ := box8 HK.out
  have hlA := lt_of_heap HK.out
  go_wp2_with fail
  refine (l4kind_r 2 (by omega) _).mono ?_
  rw [hkW]
  rintro e w1 ⟨rfl, B⟩
  have hq1 := hq w1
  have hs1 := B.size
  generalize hW2 : Lib.bytesWorld w1 5 (strOfNums kw) = w2 at *
  have C2 := Below.step B hq1.2
  have ST : Hid (St A w2 w1.heap.size (.slice (some ⟨w1.heap.size, 0, none⟩) kw.length (grownCap w1 kw.length 0 5)) kw 7) := ⟨hs1, hq1.1, C2, hkw.2.1, hkw.1⟩
  have K2 := box_below C2 HK.out
  clear f0 f1 f2 f3 f4 f5 f6 f7 hlA hq hq1 B C2
  obtain ⟨f0, f1, f2, f3, f4, f5, f6, f7⟩ := box8 K2
  have hlA := lt_of_heap K2
  go_wp2_with fail
  refine (l4word_s A _ _ (.slice a0 n0 c0) kw bx 7 6 _ ST.out (HG.out _ (Below.step HX.out ST.out.old)).1 (bs_old_ne (HG.out _ (Below.refl _ _)).1 (by omega) hbx0) (by omega) (by omega)).mono ?_
  rintro e w3 ⟨v1, g1, rfl, ST1, G1, hg1⟩
  have S1 : Hid (St A w3 g1 v1 (kw ++ [32] ++ bx) 14) := ST1
  have K3 := box_below S1.out.old HK.out
  clear f0 f1 f2 f3 f4 f5 f6 f7 hlA ST1 G1 hg1 ST K2
  obtain ⟨f0, f1, f2, f3, f4, f5, f6, f7⟩ := box8 K3
  have hlA := lt_of_heap K3
  have HS : Hid (∀ w', Below A.heap.size A w' → w'.cell? ⟨w.heap.size, 5, none⟩ = some (.int .i64 fn) ∧ w'.cell? ⟨w.heap.size, 7, none⟩ = some (.slice a2 n2 c2)) := by
    intro w' h
    obtain ⟨s0, s1, s2, s3, s4, s5, s6, s7⟩ := box8 (box_below h HK.out)
    exact ⟨s5, s7⟩
  have DR : Below w3.heap.size w3 w3.drew := (Below.refl _ _).drew
  have S1d : Hid (St A w3.drew g1 v1 (kw ++ [32] ++ bx) 14) := S1.out.below DR
  go_wp2
  refine wpO_begin (S := fun w' => w'.cell? ⟨w.heap.size, 5, none⟩ = some (.int .i64 fn) ∧ w'.cell? ⟨w.heap.size, 7, none⟩ = some (.slice a2 n2 c2)) (tabO_of (by kernel_rfl) tabTX7) (by kernel_rfl) (HS.out _ S1d.out.old) (fun hTb hHeld => ?_)
  refine tkw 0 0 20 hTb hHeld ?_
  refine tkw 1 1 21 hTb hHeld ?_
  refine tkw 2 2 22 hTb hHeld ?_
  refine tkw 3 5 25 hTb hHeld ?_
  refine tkw 4 6 26 hTb hHeld ?_
  refine clo 5 3 hTb (by decide) rfl ?_
  refine AllReadyH.cons rfl (fun K hK => ?_) AllReadyH.nil
  go_simp
  refine (l4flags_r fn hfn _).mono ?_
  rintro e w4 ⟨u4, rfl, R4, B4⟩
  have S4 := hidm (St.below S1d.out B4)
  refine hK.out _ _ (HS.out _ S4.out.old) (fun hHeld => ?_)
  clear hK K
  refine wpOrd_in (n := 10) (p := 5) (i := 3) rfl rfl rfl ?_
  refine clo 6 4 hTb (by decide) rfl ?_
  refine AllReadyH.cons rfl (fun K hK => ?_) AllReadyH.nil
  go_simp
  refine (l4word_s A g1 v1 u4 (kw ++ [32] ++ bx) (flagsB fn) 14 7 _ S4.out (R4.bs) (R4.ne S1d.out.lt) (by first | omega | exact flagsB_len _ | exact digB_len10 (by omega)) (by omega)).mono ?_
  rintro e w5 ⟨v5, g5, rfl, T5, G5, hg5⟩
  have S5 := hidm T5
  refine hK.out _ _ (HS.out _ S5.out.old) (fun hHeld => ?_)
  clear hK K
  refine wpOrd_in (n := 10) (p := 6) (i := 4) rfl rfl rfl ?_
  refine clo 7 7 hTb (by decide) rfl ?_
  refine AllReadyH.cons rfl (fun K hK => ?_) AllReadyH.nil
  go_simp
  refine (l4quoted_r _ tx _ (HG.out _ (Below.step HX.out S5.out.old)).2.2 (by omega)).mono ?_
  rintro e w6 ⟨u6, rfl, R6, B6⟩
  have S6 := hidm (St.below S5.out B6)
  refine hK.out _ _ (HS.out _ S6.out.old) (fun hHeld => ?_)
  clear hK K
  refine wpOrd_in (n := 10) (p := 7) (i := 7) rfl rfl rfl ?_
  refine clo 8 8 hTb (by decide) rfl ?_
  refine AllReadyH.cons rfl (fun K hK => ?_) AllReadyH.nil
  go_simp
  refine (l4word_s A g5 v5 u6 ((kw ++ [32] ++ bx) ++ [32] ++ flagsB fn) (quoB tx) 22 62 _ S6.out (R6.bs) (R6.ne S5.out.lt) (by first | omega | exact flagsB_len _ | exact digB_len10 (by omega)) (by omega)).mono ?_
  rintro e w7 ⟨v7, g7, rfl, T7, G7, hg7⟩
  have S7 := hidm T7
  refine hK.out _ _ (HS.out _ S7.out.old) (fun hHeld => ?_)
  clear hK K
  refine wpOrd_in (n := 10) (p := 8) (i := 8) rfl rfl rfl ?_
  refine tkw 9 9 2 hTb hHeld ?_
  refine wpO_end hTb ?_
  clear HS hHeld hTb DR S1 S1d R4 B4 T5 G5 hg5 R6 B6 T7 G7 hg7 S4 S5 S6
  clear f0 f1 f2 f3 f4 f5 f6 f7 hlA K3
  go_wp2
  go_ret
  exact ⟨_, rfl, by simpa using S7.out.own.bs, fun k hk => Nat.le_trans (by omega) (S7.out.made k hk), Below.step HX.out S7.out.old⟩

end Go.Proofs.YtifpjdpcmfneaaaGreatDoor
