/- The proof's texts, part 14. -/
import Derived.Test.YtlegmiaoablcgaaGreatDoorPart2
import Derived.Test.YtlegmiaoablcgaaGreatDoorPart8
import Derived.Test.YtlegmiaoablcgaaGreatDoorPart12
import Derived.Test.YtlegmiaoablcgaaGreatDoorPart4
import Derived.Test.YtlegmiaoablcgaaGreatDoorPart6
import Derived.Test.YtlegmiaoablcgaaGreatDoorPart5
import Derived.Deep.DeepCutAuto

/- What putTokens, putLine of package impl do. -/
namespace Go.Proofs.YtlegmiaoablcgaaGreatDoor
open Go.RowKit
set_option maxRecDepth 100000
set_option linter.unusedVariables false

/-- A list of strings that is read. -/
def StrRE (_ : World) (c : List Value) (s : List Int) : Prop := c = [.string (strOfNums s)] ∧ Oct s
abbrev StrsV := Rd 1 StrRE
theorem keepsStr : Keeps StrRE := fun _ _ _ _ _ h => h
theorem StrsV.cell {w : World} {v : Value} {l : List (List Int)} (h : StrsV w v l) (k : Nat) (x : List Int) (hx : l[k]? = some x) : ∃ b off cap, v = .slice (some ⟨b, off, none⟩) l.length cap ∧ b < w.heap.size ∧ w.cell? ⟨b, off + k, none⟩ = some (.string (strOfNums x)) ∧ Oct x := by
  obtain ⟨b, off, cap, c, hv, hlt, ⟨rfl, hi⟩, -, hc⟩ := h.get k x hx
  exact ⟨b, off, cap, hv, hlt, by simpa using hc 0 _ rfl, hi⟩
def tokB (s : List Int) : List Int := [32] ++ s

set_option maxRecDepth 100000 in
set_option maxHeartbeats 1000000 in
theorem putTokens_b (B : Nat) (v bv : Value) (l wd : List Int) (ss : List (List Int)) (w : World) (hv : OwnB w B v l) (hB : B ≤ w.heap.size) (hwd : Oct wd) (hs : ∀ wi, Tw B w wi → StrsV wi bv ss)
    (hl : l.length ≤ 1000000) (hwl : wd.length ≤ 1000) (hsl : ss.length ≤ 100) (hst : ∀ s, s ∈ ss → s.length ≤ 1000) :
    Calls Tryz.prog 15 #[v, .string (strOfNums wd), bv] w fun e w' => ∃ u, e = .returned u ∧ OwnB w' B u (l ++ wd ++ ss.flatMap tokB) ∧ Tw B w w' := by
  have HS : Hid (∀ wi, Tw B w wi → StrsV wi bv ss) := hs
  obtain ⟨a, cap, rfl, m0, m1⟩ := (hs w (Tw.refl _ _)).form
  clear hs
  have HV : Hid (OwnB w B v l) := hv
  obtain ⟨va, vn, vc, rfl⟩ := hv.bs.form3
  clear hv
  obtain ⟨i0, hi, hz0, hz1, hz2⟩ := info_parts info5
  have HT : Hid (∀ k, ((ss.take k).flatMap tokB).length ≤ 1001 * (ss.take k).length) := fun k => flat_len tokB 1001 _ (fun s h => by have := hst s (List.mem_of_mem_take h); simp only [tokB, List.length_append, List.length_cons, List.length_nil]; omega)
  go_enter Tryz.func15, Tryz.ntmps15
  go_wp2_with (at_builtin; refine wpList_append_str rfl (.tmp 9) (.tmp 10) 22 9 rfl i0 Tryz.underlying22 Tryz.underlying9 hi hz0 hz1 hz2 B _ l rfl HV.out wd rfl hwd (by omega) hB w (Below.refl _ _) ?_)
  intro v1 w1 hO1 hB1 hG1
  have HO1 : Hid (OwnB w1 B v1 (l ++ wd ++ (ss.take 0).flatMap tokB)) := by simpa [Hid] using hO1
  have HT1 : Hid (Tw B w w1) := Tw.grown HV.out hB hG1
  clear hO1 hB1 hG1 HV
  go_wp2
  go_loopw [0, 14] (fun out i wr => ∃ k : Nat, k ≤ ss.length ∧ i = .int .i64 k ∧ Hid (OwnB wr B out (l ++ wd ++ (ss.take k).flatMap tokB)) ∧ Hid (Tw B w wr)) (fun _ i _ => ss.length - (intOf i).toNat)
  case atStart => exact ⟨0, Nat.zero_le _, rfl, HO1, HT1⟩
  case round =>
    clear HO1 HT1
    obtain ⟨k, hk, rfl, hO, hT⟩ := hrel
    have hsz := hT.out.size
    have hfl := HT.out k
    have htk : (ss.take k).length ≤ 100 := by simp; omega
    by_cases hlt : k < ss.length
    · obtain ⟨s, hx⟩ : ∃ s, ss[k]? = some s := ⟨ss[k], List.getElem?_eq_getElem hlt⟩
      obtain ⟨b, off, cap', hv', hlb, d0, hso⟩ := StrsV.cell (HS.out wr hT.out) k s hx
      simp only [Value.slice.injEq, true_and] at hv'
      obtain ⟨rfl, rfl⟩ := hv'
      have hsl' := hst s (List.mem_of_getElem? hx)
      have HST : Hid ((ss.take (k + 1)).flatMap tokB = (ss.take k).flatMap tokB ++ tokB s) := flat_step tokB hx
      have sr : B ≤ wr.heap.size := by omega
      have HA : Hid (Tw B w (wr.alloc (.cells #[.int .u8 32] 5))) := hT.out.trans (Tw.alloc sr _)
      have HOA : Hid (OwnB (wr.alloc (.cells #[.int .u8 32] 5)) B _ (l ++ wd ++ (ss.take k).flatMap tokB)) := hO.out.alloc _
      have sA : B ≤ (wr.alloc (.cells #[.int .u8 32] 5)).heap.size := by simp; omega
      clear hx hO hT
      go_wp2_with (at_builtin; refine wpList_append_bytes rfl (.tmp 18) (.tmp 19) 22 rfl i0 Tryz.underlying22 hi hz0 hz1 hz2 B _ _ rfl HOA.out _ [32] rfl (bs_one _ _ (by omega)) (by simp only [List.length_append, List.length_cons, List.length_nil]; omega) sA (wr.alloc (.cells #[.int .u8 32] 5)) (Below.refl _ _) ?_)
      intro v2 w2 hO2 hB2 hG2
      have HO2 : Hid (OwnB w2 B v2 (l ++ wd ++ (ss.take k).flatMap tokB ++ [32])) := by simpa [Hid] using hO2
      have HT2 : Hid (Tw B w w2) := HA.out.trans (Tw.grown HOA.out sA hG2)
      have s2 : B ≤ w2.heap.size := Nat.le_trans sA hG2.size
      clear hO2 hB2 hG2 HA HOA d0
      go_wp2_with (at_builtin; refine wpList_append_str rfl (.tmp 21) (.tmp 22) 22 9 rfl i0 Tryz.underlying22 Tryz.underlying9 hi hz0 hz1 hz2 B _ _ rfl HO2.out s rfl hso (by simp only [List.length_append, List.length_cons, List.length_nil]; omega) s2 w2 (Below.refl _ _) ?_)
      intro v3 w3 hO3 hB3 hG3
      have HO3 : Hid (OwnB w3 B v3 (l ++ wd ++ (ss.take (k + 1)).flatMap tokB)) := by
        rw [HST.out]
        simpa [Hid, tokB] using hO3
      have HT3 : Hid (Tw B w w3) := HT2.out.trans (Tw.grown HO2.out s2 hG3)
      clear hO3 hB3 hG3 HT2 HO2 HST
      go_wp2
      go_roundw
      case rel => exact ⟨k + 1, by omega, by go_num, HO3, HT3⟩
      case measure => simp [intOf]; omega
    · obtain rfl : k = ss.length := by omega
      go_wp2
      go_ret
      have ho := hO.out
      rw [List.take_length] at ho
      exact ⟨_, rfl, ho, hT.out⟩

end Go.Proofs.YtlegmiaoablcgaaGreatDoor

/- What needsEscape, flagsText, quotedText of package impl do. -/
namespace Go.Proofs.YtlegmiaoablcgaaGreatDoor
open Go.RowKit
set_option maxRecDepth 100000
set_option linter.unusedVariables false

theorem bit_and : ∀ (k : Fin 5) (x : Fin 32), (bits BinOp.and IntKind.i64 ((x : Nat) : Int) ((2 ^ (k : Nat) : Nat) : Int) != 0) = decide ((x : Nat) / 2 ^ (k : Nat) % 2 = 1) := by decide +kernel

set_option maxRecDepth 100000 in
set_option maxHeartbeats 2000000 in
theorem flagsText_r (f : Nat) (hf : f ≤ 31) (w : World) :
    Calls Tryz.prog 62 #[.int .i64 f] w fun e w' => e = .returned (.string (strOfNums (flagsB f))) ∧ Below w.heap.size w w' := by
  obtain ⟨i0, hi, hz0, hz1, hz2⟩ := info_parts info5
  have H0 : Hid (OwnB (w.alloc (.cells #[.int .u8 40] 5)) w.heap.size (.slice (some ⟨w.heap.size, 0, none⟩) 1 1) ([40] ++ (List.range 0).flatMap (flagAt f))) := by simpa [Hid] using ownB_one w _ (Nat.le_refl _) 40 (by omega)
  have HB : Hid (Below w.heap.size w (w.alloc (.cells #[.int .u8 40] 5))) := (Below.refl _ _).alloc (Nat.le_refl _) _
  go_enter Tryz.func62, Tryz.ntmps62
  go_wp2
  go_loopw [3, 6] (fun b i wr => ∃ k : Nat, k ≤ 5 ∧ i = .int .i64 k ∧ Hid (OwnB wr w.heap.size b ([40] ++ (List.range k).flatMap (flagAt f))) ∧ Hid (Below w.heap.size w wr)) (fun _ i _ => 5 - (intOf i).toNat)
  case atStart => exact ⟨0, Nat.zero_le _, rfl, H0, HB⟩
  case round =>
    clear H0 HB
    obtain ⟨k, hk, rfl, hO, hB⟩ := hrel
    have hsz := hB.out.size
    have hfl := flat_len (flagAt f) 1 (List.range k) (fun x _ => flagAt_len f x)
    simp only [List.length_range] at hfl
    by_cases hlt : k < 5
    · have HST : Hid ((List.range (k + 1)).flatMap (flagAt f) = (List.range k).flatMap (flagAt f) ++ flagAt f k) := range5_step f k
      obtain rfl | rfl | rfl | rfl | rfl : k = 0 ∨ k = 1 ∨ k = 2 ∨ k = 3 ∨ k = 4 := by omega
      · have hE : flagAt f 0 = (if f % 2 = 1 then [83] else []) := by simp [flagAt, letB]
        have hb : (bits BinOp.and IntKind.i64 (f : Int) 1 != 0) = decide (f % 2 = 1) := by
          have h := bit_and 0 ⟨f, by omega⟩
          simpa using h
        by_cases hc : f % 2 = 1
        · rw [if_pos hc] at hE
          rw [decide_eq_true hc] at hb
          have HE : Hid (flagAt f 0 = [83]) := hE
          clear hE
          go_wp2_with (at_builtin; refine wpList_append_bytes rfl (.tmp 14) (.tmp 17) 22 rfl i0 Tryz.underlying22 hi hz0 hz1 hz2 w.heap.size _ _ rfl (hO.out.alloc _) _ [83] rfl (bs_one _ 83 (by omega)) (by simp only [List.length_append, List.length_cons, List.length_nil]; omega) (by simp; omega) w (hB.out.alloc hsz _) ?_)
          intro v3 w3 hO3 hB3 _
          have HO3 : Hid (OwnB w3 w.heap.size v3 ([40] ++ (List.range (0 + 1)).flatMap (flagAt f))) := by
            rw [HST.out, HE.out]
            simpa [Hid, show List.range 1 = [0] from rfl, show List.range 2 = [0, 1] from rfl, show List.range 3 = [0, 1, 2] from rfl, show List.range 4 = [0, 1, 2, 3] from rfl] using hO3
          clear hO3
          go_wp2
          go_roundw
          case rel => exact ⟨0 + 1, by omega, by go_num, HO3, hB3⟩
          case measure => simp [intOf]
        · rw [if_neg hc] at hE
          rw [decide_eq_false hc] at hb
          have HEQ : Hid ([40] ++ (List.range 0).flatMap (flagAt f) = [40] ++ (List.range (0 + 1)).flatMap (flagAt f)) := by rw [Hid, HST.out, hE, List.append_nil]
          clear hE
          go_wp2
          go_roundw
          case rel => exact ⟨0 + 1, by omega, by go_num, by rw [← HEQ.out]; exact hO, hB⟩
          case measure => simp [intOf]
      · have hE : flagAt f 1 = (if f / 2 % 2 = 1 then [65] else []) := by simp [flagAt, letB]
        have hb : (bits BinOp.and IntKind.i64 (f : Int) 2 != 0) = decide (f / 2 % 2 = 1) := by
          have h := bit_and 1 ⟨f, by omega⟩
          simpa using h
        by_cases hc : f / 2 % 2 = 1
        · rw [if_pos hc] at hE
          rw [decide_eq_true hc] at hb
          have HE : Hid (flagAt f 1 = [65]) := hE
          clear hE
          go_wp2_with (at_builtin; refine wpList_append_bytes rfl (.tmp 14) (.tmp 17) 22 rfl i0 Tryz.underlying22 hi hz0 hz1 hz2 w.heap.size _ _ rfl (hO.out.alloc _) _ [65] rfl (bs_one _ 65 (by omega)) (by simp only [List.length_append, List.length_cons, List.length_nil]; omega) (by simp; omega) w (hB.out.alloc hsz _) ?_)
          intro v3 w3 hO3 hB3 _
          have HO3 : Hid (OwnB w3 w.heap.size v3 ([40] ++ (List.range (1 + 1)).flatMap (flagAt f))) := by
            rw [HST.out, HE.out]
            simpa [Hid, show List.range 1 = [0] from rfl, show List.range 2 = [0, 1] from rfl, show List.range 3 = [0, 1, 2] from rfl, show List.range 4 = [0, 1, 2, 3] from rfl] using hO3
          clear hO3
          go_wp2
          go_roundw
          case rel => exact ⟨1 + 1, by omega, by go_num, HO3, hB3⟩
          case measure => simp [intOf]
        · rw [if_neg hc] at hE
          rw [decide_eq_false hc] at hb
          have HEQ : Hid ([40] ++ (List.range 1).flatMap (flagAt f) = [40] ++ (List.range (1 + 1)).flatMap (flagAt f)) := by rw [Hid, HST.out, hE, List.append_nil]
          clear hE
          go_wp2
          go_roundw
          case rel => exact ⟨1 + 1, by omega, by go_num, by rw [← HEQ.out]; exact hO, hB⟩
          case measure => simp [intOf]
      · have hE : flagAt f 2 = (if f / 4 % 2 = 1 then [70] else []) := by simp [flagAt, letB]
        have hb : (bits BinOp.and IntKind.i64 (f : Int) 4 != 0) = decide (f / 4 % 2 = 1) := by
          have h := bit_and 2 ⟨f, by omega⟩
          simpa using h
        by_cases hc : f / 4 % 2 = 1
        · rw [if_pos hc] at hE
          rw [decide_eq_true hc] at hb
          have HE : Hid (flagAt f 2 = [70]) := hE
          clear hE
          go_wp2_with (at_builtin; refine wpList_append_bytes rfl (.tmp 14) (.tmp 17) 22 rfl i0 Tryz.underlying22 hi hz0 hz1 hz2 w.heap.size _ _ rfl (hO.out.alloc _) _ [70] rfl (bs_one _ 70 (by omega)) (by simp only [List.length_append, List.length_cons, List.length_nil]; omega) (by simp; omega) w (hB.out.alloc hsz _) ?_)
          intro v3 w3 hO3 hB3 _
          have HO3 : Hid (OwnB w3 w.heap.size v3 ([40] ++ (List.range (2 + 1)).flatMap (flagAt f))) := by
            rw [HST.out, HE.out]
            simpa [Hid, show List.range 1 = [0] from rfl, show List.range 2 = [0, 1] from rfl, show List.range 3 = [0, 1, 2] from rfl, show List.range 4 = [0, 1, 2, 3] from rfl] using hO3
          clear hO3
          go_wp2
          go_roundw
          case rel => exact ⟨2 + 1, by omega, by go_num, HO3, hB3⟩
          case measure => simp [intOf]
        · rw [if_neg hc] at hE
          rw [decide_eq_false hc] at hb
          have HEQ : Hid ([40] ++ (List.range 2).flatMap (flagAt f) = [40] ++ (List.range (2 + 1)).flatMap (flagAt f)) := by rw [Hid, HST.out, hE, List.append_nil]
          clear hE
          go_wp2
          go_roundw
          case rel => exact ⟨2 + 1, by omega, by go_num, by rw [← HEQ.out]; exact hO, hB⟩
          case measure => simp [intOf]
      · have hE : flagAt f 3 = (if f / 8 % 2 = 1 then [68] else []) := by simp [flagAt, letB]
        have hb : (bits BinOp.and IntKind.i64 (f : Int) 8 != 0) = decide (f / 8 % 2 = 1) := by
          have h := bit_and 3 ⟨f, by omega⟩
          exact h
        by_cases hc : f / 8 % 2 = 1
        · rw [if_pos hc] at hE
          rw [decide_eq_true hc] at hb
          have HE : Hid (flagAt f 3 = [68]) := hE
          clear hE
          go_wp2_with (at_builtin; refine wpList_append_bytes rfl (.tmp 14) (.tmp 17) 22 rfl i0 Tryz.underlying22 hi hz0 hz1 hz2 w.heap.size _ _ rfl (hO.out.alloc _) _ [68] rfl (bs_one _ 68 (by omega)) (by simp only [List.length_append, List.length_cons, List.length_nil]; omega) (by simp; omega) w (hB.out.alloc hsz _) ?_)
          intro v3 w3 hO3 hB3 _
          have HO3 : Hid (OwnB w3 w.heap.size v3 ([40] ++ (List.range (3 + 1)).flatMap (flagAt f))) := by
            rw [HST.out, HE.out]
            simpa [Hid, show List.range 1 = [0] from rfl, show List.range 2 = [0, 1] from rfl, show List.range 3 = [0, 1, 2] from rfl, show List.range 4 = [0, 1, 2, 3] from rfl] using hO3
          clear hO3
          go_wp2
          go_roundw
          case rel => exact ⟨3 + 1, by omega, by go_num, HO3, hB3⟩
          case measure => simp [intOf]
        · rw [if_neg hc] at hE
          rw [decide_eq_false hc] at hb
          have HEQ : Hid ([40] ++ (List.range 3).flatMap (flagAt f) = [40] ++ (List.range (3 + 1)).flatMap (flagAt f)) := by rw [Hid, HST.out, hE, List.append_nil]
          clear hE
          go_wp2
          go_roundw
          case rel => exact ⟨3 + 1, by omega, by go_num, by rw [← HEQ.out]; exact hO, hB⟩
          case measure => simp [intOf]
      · have hE : flagAt f 4 = (if f / 16 % 2 = 1 then [82] else []) := by simp [flagAt, letB]
        have hb : (bits BinOp.and IntKind.i64 (f : Int) 16 != 0) = decide (f / 16 % 2 = 1) := by
          have h := bit_and 4 ⟨f, by omega⟩
          exact h
        by_cases hc : f / 16 % 2 = 1
        · rw [if_pos hc] at hE
          rw [decide_eq_true hc] at hb
          have HE : Hid (flagAt f 4 = [82]) := hE
          clear hE
          go_wp2_with (at_builtin; refine wpList_append_bytes rfl (.tmp 14) (.tmp 17) 22 rfl i0 Tryz.underlying22 hi hz0 hz1 hz2 w.heap.size _ _ rfl (hO.out.alloc _) _ [82] rfl (bs_one _ 82 (by omega)) (by simp only [List.length_append, List.length_cons, List.length_nil]; omega) (by simp; omega) w (hB.out.alloc hsz _) ?_)
          intro v3 w3 hO3 hB3 _
          have HO3 : Hid (OwnB w3 w.heap.size v3 ([40] ++ (List.range (4 + 1)).flatMap (flagAt f))) := by
            rw [HST.out, HE.out]
            simpa [Hid, show List.range 1 = [0] from rfl, show List.range 2 = [0, 1] from rfl, show List.range 3 = [0, 1, 2] from rfl, show List.range 4 = [0, 1, 2, 3] from rfl] using hO3
          clear hO3
          go_wp2
          go_roundw
          case rel => exact ⟨4 + 1, by omega, by go_num, HO3, hB3⟩
          case measure => simp [intOf]
        · rw [if_neg hc] at hE
          rw [decide_eq_false hc] at hb
          have HEQ : Hid ([40] ++ (List.range 4).flatMap (flagAt f) = [40] ++ (List.range (4 + 1)).flatMap (flagAt f)) := by rw [Hid, HST.out, hE, List.append_nil]
          clear hE
          go_wp2
          go_roundw
          case rel => exact ⟨4 + 1, by omega, by go_num, by rw [← HEQ.out]; exact hO, hB⟩
          case measure => simp [intOf]
    · obtain rfl : k = 5 := by omega
      go_wp2_with (at_builtin; refine wpList_append_bytes rfl (.tmp 20) (.tmp 21) 22 rfl i0 Tryz.underlying22 hi hz0 hz1 hz2 w.heap.size _ _ rfl (hO.out.alloc _) _ _ rfl (bs_one _ _ (by omega)) (by simp only [List.length_append, List.length_cons, List.length_nil]; omega) (by simp; omega) w (hB.out.alloc hsz _) ?_)
      intro v2 w2 hO2 hB2 _
      have HO2 : OwnB w2 w.heap.size v2 (flagsB f) := by simpa [flagsB, show List.range 5 = [0, 1, 2, 3, 4] from rfl] using hO2
      have hcv := run_convert_bs HO2.bs
      clear hO2 HO2
      go_wp2
      go_ret
      exact ⟨rfl, hB2⟩

set_option maxRecDepth 100000 in
set_option maxHeartbeats 2000000 in
theorem quotedText_r (v : Value) (t : List Int) (w : World) (hv : Bs w v t) (ht : t.length ≤ 2000000) :
    Calls Tryz.prog 63 #[v] w fun e w' => e = .returned (.string (strOfNums (quoB t))) ∧ Below w.heap.size w w' := by
  have HV : Hid (∀ wi, Below w.heap.size w wi → Bs wi v t) := fun wi h => hv.below h
  obtain ⟨ho, a, cap, rfl, hlc, hcm, -⟩ := hv
  unfold maxLen at hcm
  obtain ⟨i0, hi, hz0, hz1, hz2⟩ := info_parts info5
  have H0 : Hid (OwnB (w.alloc (.cells #[.int .u8 34] 5)) w.heap.size (.slice (some ⟨w.heap.size, 0, none⟩) 1 1) ([34] ++ (t.take 0).flatMap escB)) := by simpa [Hid] using ownB_one w _ (Nat.le_refl _) 34 (by omega)
  have HB : Hid (Below w.heap.size w (w.alloc (.cells #[.int .u8 34] 5))) := (Below.refl _ _).alloc (Nat.le_refl _) _
  go_enter Tryz.func63, Tryz.ntmps63
  go_wp2
  go_loopw [3, 9] (fun b i wr => ∃ k : Nat, k ≤ t.length ∧ i = .int .i64 k ∧ Hid (OwnB wr w.heap.size b ([34] ++ (t.take k).flatMap escB)) ∧ Hid (Below w.heap.size w wr)) (fun _ i _ => t.length - (intOf i).toNat)
  case atStart => exact ⟨0, Nat.zero_le _, rfl, H0, HB⟩
  case round =>
    clear H0 HB
    obtain ⟨k, hk, rfl, hO, hB⟩ := hrel
    have hsz := hB.out.size
    have hfl := flat_len escB 2 (t.take k) (fun x _ => escB_len x)
    have htk : (t.take k).length ≤ 2000000 := by simp; omega
    by_cases hlt : k < t.length
    · obtain ⟨x, hx⟩ : ∃ x, t[k]? = some x := ⟨t[k], List.getElem?_eq_getElem hlt⟩
      have hxo : 0 ≤ x ∧ x ≤ 255 := ho x (List.mem_of_getElem? hx)
      have HST : Hid ((t.take (k + 1)).flatMap escB = (t.take k).flatMap escB ++ escB x) := flat_step escB hx
      obtain ⟨ho', a', cap', hv', -, -, -, hcells⟩ := HV.out wr hB.out
      simp only [Value.slice.injEq, true_and] at hv'
      obtain ⟨rfl, rfl⟩ := hv'
      obtain ⟨b, off, rfl, hlb, hc⟩ := hcells (by omega)
      have d0 := hc k hlt
      rw [List.getD_eq_getElem?_getD, hx, Option.getD_some] at d0
      clear hcells hc ho'
      have hne := needsEscape_any x hxo wr
      by_cases he : x = 34 ∨ x = 92
      · have HE : Hid (escB x = [92, x]) := by simp only [Hid, escB, if_pos he]
        rw [decide_eq_true he] at hne
        have HX : Hid (x = 34 ∨ x = 92) := he
        clear he
        go_wp2_with fail
        refine hne.mono ?_
        rintro e w1 ⟨rfl, rfl⟩
        clear hne d0
        go_wp2_with (at_builtin; refine wpList_append_bytes rfl (.tmp 15) (.tmp 16) 22 rfl i0 Tryz.underlying22 hi hz0 hz1 hz2 w.heap.size _ _ rfl (hO.out.alloc _) _ _ rfl (bs_one _ _ (by omega)) (by simp only [List.length_append, List.length_cons, List.length_nil]; omega) (by simp; omega) w (hB.out.alloc hsz _) ?_)
        intro v2 w2 hO2 hB2 _
        have s2 := hB2.size
        have HO2 : Hid (OwnB w2 w.heap.size v2 ([34] ++ (t.take k).flatMap escB ++ [92])) := by simpa [Hid] using hO2
        clear hO2 hO hB hlb
        go_wp2_with (at_builtin; refine wpList_append_bytes rfl (.tmp 18) (.tmp 20) 22 rfl i0 Tryz.underlying22 hi hz0 hz1 hz2 w.heap.size _ _ rfl (HO2.out.alloc _) _ [x] rfl (bs_one _ _ (by omega)) (by simp only [List.length_append, List.length_cons, List.length_nil]; omega) (by simp; omega) w (hB2.alloc s2 _) ?_)
        intro v3 w3 hO3 hB3 _
        have HO3 : Hid (OwnB w3 w.heap.size v3 ([34] ++ (t.take (k + 1)).flatMap escB)) := by
          rw [HST.out, HE.out]
          simpa [Hid] using hO3
        clear hO3
        go_wp2
        go_roundw
        case rel => exact ⟨k + 1, by omega, by go_num, HO3, hB3⟩
        case measure => simp [intOf]; omega
      · have HE : Hid (escB x = [x]) := by simp only [Hid, escB, if_neg he]
        rw [decide_eq_false he] at hne
        clear he
        go_wp2_with fail
        refine hne.mono ?_
        rintro e w1 ⟨rfl, rfl⟩
        clear hne d0
        go_wp2_with (at_builtin; refine wpList_append_bytes rfl (.tmp 18) (.tmp 20) 22 rfl i0 Tryz.underlying22 hi hz0 hz1 hz2 w.heap.size _ _ rfl (hO.out.alloc _) _ [x] rfl (bs_one _ _ (by omega)) (by simp only [List.length_append, List.length_cons, List.length_nil]; omega) (by simp; omega) w (hB.out.alloc hsz _) ?_)
        intro v3 w3 hO3 hB3 _
        have HO3 : Hid (OwnB w3 w.heap.size v3 ([34] ++ (t.take (k + 1)).flatMap escB)) := by
          rw [HST.out, HE.out]
          simpa [Hid] using hO3
        clear hO3
        go_wp2
        go_roundw
        case rel => exact ⟨k + 1, by omega, by go_num, HO3, hB3⟩
        case measure => simp [intOf]; omega
    · obtain rfl : k = t.length := by omega
      go_wp2_with (at_builtin; refine wpList_append_bytes rfl (.tmp 23) (.tmp 24) 22 rfl i0 Tryz.underlying22 hi hz0 hz1 hz2 w.heap.size _ _ rfl (hO.out.alloc _) _ _ rfl (bs_one _ _ (by omega)) (by simp only [List.length_append, List.length_cons, List.length_nil]; omega) (by simp; omega) w (hB.out.alloc hsz _) ?_)
      intro v2 w2 hO2 hB2 _
      have HO2 : OwnB w2 w.heap.size v2 (quoB t) := by simpa [quoB] using hO2
      have hcv := run_convert_bs HO2.bs
      clear hO2 HO2
      go_wp2
      go_ret
      exact ⟨rfl, hB2⟩

end Go.Proofs.YtlegmiaoablcgaaGreatDoor

/- Strings that commands and replies are made of. -/
namespace Go.Proofs.YtlegmiaoablcgaaGreatDoor
open Go.RowKit
set_option linter.unusedVariables false

theorem itoa_i (n : Int) (h0 : 0 ≤ n) (h1 : n ≤ 9999999) (w : World) (ht : Tab10 w) :
    Calls Tryz.prog 66 #[.int .i64 n] w fun e w' => e = .returned (.string (strOfNums (digB n.toNat))) ∧ Below w.heap.size w w' := by
  have h := itoa_b n.toNat (by omega) w ht
  rwa [show ((n.toNat : Nat) : Int) = n by omega] at h
theorem flagsText_i (n : Int) (h0 : 0 ≤ n) (h1 : n ≤ 31) (w : World) :
    Calls Tryz.prog 62 #[.int .i64 n] w fun e w' => e = .returned (.string (strOfNums (flagsB n))) ∧ Below w.heap.size w w' := by
  have h := flagsText_r n.toNat (by omega) w
  rwa [show ((n.toNat : Nat) : Int) = n by omega] at h
theorem strs_lit (w : World) (g : Nat) (ss : List (List Int)) (h : w.heap[g]? = some (.cells (ss.map (fun s => Value.string (strOfNums s))).toArray 9 (0, 0))) (hn : ∀ s, s ∈ ss → Oct s) (hl : ss.length ≤ 1000) : StrsV w (.slice (some ⟨g, 0, none⟩) ss.length ss.length) ss := by
  refine ⟨some ⟨g, 0, none⟩, ss.length, fun i => [.string (strOfNums (ss.getD i []))], rfl, Nat.le_refl _, by unfold maxLen; omega, (fun h => by cases h), fun i x hx => ?_, fun _ => ?_⟩
  · exact ⟨⟨by simp [List.getD_eq_getElem?_getD, hx], hn x (List.mem_of_getElem? hx)⟩, rfl⟩
  · refine ⟨g, 0, rfl, lt_of_heap h, fun i j u hi hu => ?_⟩
    cases j with
    | zero =>
      simp only [List.getElem?_cons_zero, Option.some.injEq] at hu
      subst hu
      rw [show 0 + i * 1 + 0 = i by omega, cell_of_row w g i _ _ (0, 0) h]
      simp [List.getD_eq_getElem?_getD, hi]
    | succ j => simp at hu
end Go.Proofs.YtlegmiaoablcgaaGreatDoor

/- Rows of strings of the call's own. -/
namespace Go.Proofs.YtlegmiaoablcgaaGreatDoor
open Go.RowKit

theorem strs_of_row {w : World} {B : Nat} {v : Value} {ss : List (List Int)} (h : w.ownsRow B 9 1 v ss.length (strVals ss)) (ho : ∀ s, s ∈ ss → Oct s) : StrsV w v ss := by
  rcases h.2 with ⟨rfl, he⟩ | ⟨g, cap, cur, rfl, -, hh, h1, h2, h3, h4⟩
  · have : ss = [] := by simpa [strVals] using he
    subst this
    exact Rd.nil _
  · refine ⟨some ⟨g, 0, none⟩, cap, fun i => [.string (strOfNums (ss.getD i []))], rfl, h1, h2, (fun h => by cases h), fun i x hx => ?_, fun _ => ?_⟩
    · exact ⟨⟨by simp [List.getD_eq_getElem?_getD, hx], ho x (List.mem_of_getElem? hx)⟩, rfl⟩
    · refine ⟨g, 0, rfl, lt_of_heap hh, fun i j u hi hu => ?_⟩
      cases j with
      | zero =>
        simp only [List.getElem?_cons_zero, Option.some.injEq] at hu
        subst hu
        rw [show 0 + i * 1 + 0 = i by omega, cell_of_row w g i _ _ (0, 0) hh]
        have e : (strVals ss)[i]? = some (.string (strOfNums (ss.getD i []))) := by simp [strVals, List.getD_eq_getElem?_getD, hi]
        rw [← h4, Nat.mul_one, List.getElem?_take, if_pos hi] at e
        simpa using e
      | succ j => simp at hu

end Go.Proofs.YtlegmiaoablcgaaGreatDoor

/- What the functions of package impl do that list a command's tokens. -/
namespace Go.Proofs.YtlegmiaoablcgaaGreatDoor
open Go.RowKit
set_option maxRecDepth 100000
set_option linter.unusedVariables false

theorem tabT_changesTokens : (Tryz.f43.body.bind (opsAt 1)).all (fun o => tableO o 8 [0, 1, 2, 3, 4, 5, 6, 7] [5, 6]) = true := by kernel_rfl
theorem tabT_fetchTokens : (Tryz.f39.body.bind (opsAt 1)).all (fun o => tableO o 8 [0, 1, 2, 3, 4, 5, 6, 7] [5, 6]) = true := by kernel_rfl
theorem tabT_appendTokens : (Tryz.f35.body.bind (opsAt 1)).all (fun o => tableO o 11 [0, 1, 2, 3, 4, 6, 7, 5, 8, 9, 10] [7, 8, 9]) = true := by kernel_rfl

set_option maxRecDepth 100000 in
set_option maxHeartbeats 4000000 in
theorem changesTokens_r (v : Value) (k : Int) (bx tt : List Int) (uid mode fl si : Int) (tx : List Int) (w : World) (hv : CmdV w v k bx tt uid mode fl si tx) (y0 : 0 ≤ si) (y1 : si ≤ 9999999) (ht : Tab10 w) :
    Calls Tryz.prog 43 #[v] w fun e w' => ∃ u, e = .returned u ∧ StrsV w' u [bx, digB si.toNat] ∧ Below w.heap.size w w' := by
  obtain ⟨u0, u1, u2, rfl, g0, g1, g2, i0, i1, i2, i3, i4⟩ := hv
  obtain ⟨a0, n0, c0, rfl⟩ := g0.form3
  obtain ⟨a1, n1, c1, rfl⟩ := g1.form3
  obtain ⟨a2, n2, c2, rfl⟩ := g2.form3
  have HX : Hid (Below w.heap.size w (w.alloc (.cells #[.int .i64 k, .slice a0 n0 c0, .slice a1 n1 c1, .int .i64 uid, .int .i64 mode, .int .i64 fl, .int .i64 si, .slice a2 n2 c2] 24))) := (Below.refl _ _).alloc (Nat.le_refl _) _
  have HK : Hid ((w.alloc (.cells #[.int .i64 k, .slice a0 n0 c0, .slice a1 n1 c1, .int .i64 uid, .int .i64 mode, .int .i64 fl, .int .i64 si, .slice a2 n2 c2] 24)).heap[w.heap.size]? = some (.cells #[.int .i64 k, .slice a0 n0 c0, .slice a1 n1 c1, .int .i64 uid, .int .i64 mode, .int .i64 fl, .int .i64 si, .slice a2 n2 c2] 24)) := box_new w _
  have HG : Hid (∀ wi, Below w.heap.size w wi → Bs wi (.slice a0 n0 c0) bx ∧ Bs wi (.slice a2 n2 c2) tx) := fun wi h => ⟨g0.below h, g2.below h⟩
  have HOX : Hid (Oct bx ∧ Oct tx) := ⟨g0.1, g2.1⟩
  clear g0 g1 g2
  have HS : Hid (∀ w', Below (w.alloc (.cells #[.int .i64 k, .slice a0 n0 c0, .slice a1 n1 c1, .int .i64 uid, .int .i64 mode, .int .i64 fl, .int .i64 si, .slice a2 n2 c2] 24)).heap.size (w.alloc (.cells #[.int .i64 k, .slice a0 n0 c0, .slice a1 n1 c1, .int .i64 uid, .int .i64 mode, .int .i64 fl, .int .i64 si, .slice a2 n2 c2] 24)) w' → w'.cell? ⟨w.heap.size, 0, none⟩ = some (.int .i64 k) ∧ w'.cell? ⟨w.heap.size, 1, none⟩ = some (.slice a0 n0 c0) ∧ w'.cell? ⟨w.heap.size, 2, none⟩ = some (.slice a1 n1 c1) ∧ w'.cell? ⟨w.heap.size, 3, none⟩ = some (.int .i64 uid) ∧ w'.cell? ⟨w.heap.size, 4, none⟩ = some (.int .i64 mode) ∧ w'.cell? ⟨w.heap.size, 5, none⟩ = some (.int .i64 fl) ∧ w'.cell? ⟨w.heap.size, 6, none⟩ = some (.int .i64 si) ∧ w'.cell? ⟨w.heap.size, 7, none⟩ = some (.slice a2 n2 c2) ∧ (convert 22 9 (.slice a0 n0 c0)).run Tryz.prog w' = .ok (.string (strOfNums bx)) w') := by
    intro w' h
    obtain ⟨s0, s1, s2, s3, s4, s5, s6, s7⟩ := box8 (box_below h HK.out)
    exact ⟨s0, s1, s2, s3, s4, s5, s6, s7, run_convert_bs (HG.out _ (Below.step HX.out h)).1⟩
  have C0 : Below (w.alloc (.cells #[.int .i64 k, .slice a0 n0 c0, .slice a1 n1 c1, .int .i64 uid, .int .i64 mode, .int .i64 fl, .int .i64 si, .slice a2 n2 c2] 24)).heap.size (w.alloc (.cells #[.int .i64 k, .slice a0 n0 c0, .slice a1 n1 c1, .int .i64 uid, .int .i64 mode, .int .i64 fl, .int .i64 si, .slice a2 n2 c2] 24)) (w.alloc (.cells #[.int .i64 k, .slice a0 n0 c0, .slice a1 n1 c1, .int .i64 uid, .int .i64 mode, .int .i64 fl, .int .i64 si, .slice a2 n2 c2] 24)).drew := (Below.refl _ _).drew
  go_enter Tryz.func43, Tryz.ntmps43
  go_wp2
  refine wpO_begin (S := fun w' => w'.cell? ⟨w.heap.size, 0, none⟩ = some (.int .i64 k) ∧ w'.cell? ⟨w.heap.size, 1, none⟩ = some (.slice a0 n0 c0) ∧ w'.cell? ⟨w.heap.size, 2, none⟩ = some (.slice a1 n1 c1) ∧ w'.cell? ⟨w.heap.size, 3, none⟩ = some (.int .i64 uid) ∧ w'.cell? ⟨w.heap.size, 4, none⟩ = some (.int .i64 mode) ∧ w'.cell? ⟨w.heap.size, 5, none⟩ = some (.int .i64 fl) ∧ w'.cell? ⟨w.heap.size, 6, none⟩ = some (.int .i64 si) ∧ w'.cell? ⟨w.heap.size, 7, none⟩ = some (.slice a2 n2 c2) ∧ (convert 22 9 (.slice a0 n0 c0)).run Tryz.prog w' = .ok (.string (strOfNums bx)) w') (tabO_of (by kernel_rfl) tabT_changesTokens) (by kernel_rfl) (HS.out _ C0) (fun hTb hHeld => ?_)
  refine tkw 0 0 3 hTb hHeld ?_
  refine tkw 1 1 4 hTb hHeld ?_
  refine tkw 2 2 5 hTb hHeld ?_
  refine tkw 3 3 6 hTb hHeld ?_
  refine tkw 4 4 7 hTb hHeld ?_
  refine clo 5 5 hTb (by decide) rfl ?_
  refine AllReadyH.cons rfl (fun K hK => ?_) AllReadyH.nil
  go_simp
  refine (itoa_i si y0 y1 _ (Lib.tabBelow_of_tabIs ht _ (Below.step HX.out C0))).mono ?_
  rintro e w1 ⟨rfl, B1⟩
  have C1 := Below.step C0 B1
  clear B1
  refine hK.out _ _ (HS.out _ C1) (fun hHeld => ?_)
  clear hK K
  refine wpOrd_in (n := 8) (p := 5) (i := 5) rfl rfl rfl ?_
  refine clo 6 6 hTb (by decide) rfl ?_
  refine AllReadyH.cons rfl (fun K hK => ?_) AllReadyH.nil
  go_simp
  have C2 := Below.step C1 (show Below (w1).heap.size (w1) ((w1).alloc (.cells #[.string (strOfNums (bx)), .string (strOfNums (digB si.toNat))] 9)) from (Below.refl _ _).alloc (Nat.le_refl _) _)
  refine hK.out _ _ (HS.out _ C2) (fun hHeld => ?_)
  clear hK K
  refine wpOrd_in (n := 8) (p := 6) (i := 6) rfl rfl rfl ?_
  refine tkw 7 7 2 hTb hHeld ?_
  refine wpO_end hTb ?_
  have HF : Hid (StrsV (w1.alloc (.cells #[.string (strOfNums (bx)), .string (strOfNums (digB si.toNat))] 9)) (.slice (some ⟨w1.heap.size, 0, none⟩) 2 2) [bx, digB si.toNat]) := strs_lit _ _ [bx, digB si.toNat] (box_new w1 (.cells #[.string (strOfNums (bx)), .string (strOfNums (digB si.toNat))] 9)) (by
    intro s hs
    simp only [List.mem_cons, List.not_mem_nil, or_false] at hs
    rcases hs with rfl | rfl
    · exact HOX.out.1
    · exact digB_oct _) (by simp)
  have HBF : Hid (Below w.heap.size w (w1.alloc (.cells #[.string (strOfNums (bx)), .string (strOfNums (digB si.toNat))] 9))) := Below.step HX.out C2
  clear HS C0 hHeld hTb
  go_wp2
  go_ret
  exact ⟨_, rfl, HF.out, HBF.out⟩

set_option maxRecDepth 100000 in
set_option maxHeartbeats 4000000 in
theorem fetchTokens_r (v : Value) (k : Int) (bx tt : List Int) (uid mode fl si : Int) (tx : List Int) (w : World) (hv : CmdV w v k bx tt uid mode fl si tx) (y0 : 0 ≤ uid) (y1 : uid ≤ 9999999) (ht : Tab10 w) :
    Calls Tryz.prog 39 #[v] w fun e w' => ∃ u, e = .returned u ∧ StrsV w' u [bx, digB uid.toNat] ∧ Below w.heap.size w w' := by
  obtain ⟨u0, u1, u2, rfl, g0, g1, g2, i0, i1, i2, i3, i4⟩ := hv
  obtain ⟨a0, n0, c0, rfl⟩ := g0.form3
  obtain ⟨a1, n1, c1, rfl⟩ := g1.form3
  obtain ⟨a2, n2, c2, rfl⟩ := g2.form3
  have HX : Hid (Below w.heap.size w (w.alloc (.cells #[.int .i64 k, .slice a0 n0 c0, .slice a1 n1 c1, .int .i64 uid, .int .i64 mode, .int .i64 fl, .int .i64 si, .slice a2 n2 c2] 24))) := (Below.refl _ _).alloc (Nat.le_refl _) _
  have HK : Hid ((w.alloc (.cells #[.int .i64 k, .slice a0 n0 c0, .slice a1 n1 c1, .int .i64 uid, .int .i64 mode, .int .i64 fl, .int .i64 si, .slice a2 n2 c2] 24)).heap[w.heap.size]? = some (.cells #[.int .i64 k, .slice a0 n0 c0, .slice a1 n1 c1, .int .i64 uid, .int .i64 mode, .int .i64 fl, .int .i64 si, .slice a2 n2 c2] 24)) := box_new w _
  have HG : Hid (∀ wi, Below w.heap.size w wi → Bs wi (.slice a0 n0 c0) bx ∧ Bs wi (.slice a2 n2 c2) tx) := fun wi h => ⟨g0.below h, g2.below h⟩
  have HOX : Hid (Oct bx ∧ Oct tx) := ⟨g0.1, g2.1⟩
  clear g0 g1 g2
  have HS : Hid (∀ w', Below (w.alloc (.cells #[.int .i64 k, .slice a0 n0 c0, .slice a1 n1 c1, .int .i64 uid, .int .i64 mode, .int .i64 fl, .int .i64 si, .slice a2 n2 c2] 24)).heap.size (w.alloc (.cells #[.int .i64 k, .slice a0 n0 c0, .slice a1 n1 c1, .int .i64 uid, .int .i64 mode, .int .i64 fl, .int .i64 si, .slice a2 n2 c2] 24)) w' → w'.cell? ⟨w.heap.size, 0, none⟩ = some (.int .i64 k) ∧ w'.cell? ⟨w.heap.size, 1, none⟩ = some (.slice a0 n0 c0) ∧ w'.cell? ⟨w.heap.size, 2, none⟩ = some (.slice a1 n1 c1) ∧ w'.cell? ⟨w.heap.size, 3, none⟩ = some (.int .i64 uid) ∧ w'.cell? ⟨w.heap.size, 4, none⟩ = some (.int .i64 mode) ∧ w'.cell? ⟨w.heap.size, 5, none⟩ = some (.int .i64 fl) ∧ w'.cell? ⟨w.heap.size, 6, none⟩ = some (.int .i64 si) ∧ w'.cell? ⟨w.heap.size, 7, none⟩ = some (.slice a2 n2 c2) ∧ (convert 22 9 (.slice a0 n0 c0)).run Tryz.prog w' = .ok (.string (strOfNums bx)) w') := by
    intro w' h
    obtain ⟨s0, s1, s2, s3, s4, s5, s6, s7⟩ := box8 (box_below h HK.out)
    exact ⟨s0, s1, s2, s3, s4, s5, s6, s7, run_convert_bs (HG.out _ (Below.step HX.out h)).1⟩
  have C0 : Below (w.alloc (.cells #[.int .i64 k, .slice a0 n0 c0, .slice a1 n1 c1, .int .i64 uid, .int .i64 mode, .int .i64 fl, .int .i64 si, .slice a2 n2 c2] 24)).heap.size (w.alloc (.cells #[.int .i64 k, .slice a0 n0 c0, .slice a1 n1 c1, .int .i64 uid, .int .i64 mode, .int .i64 fl, .int .i64 si, .slice a2 n2 c2] 24)) (w.alloc (.cells #[.int .i64 k, .slice a0 n0 c0, .slice a1 n1 c1, .int .i64 uid, .int .i64 mode, .int .i64 fl, .int .i64 si, .slice a2 n2 c2] 24)).drew := (Below.refl _ _).drew
  go_enter Tryz.func39, Tryz.ntmps39
  go_wp2
  refine wpO_begin (S := fun w' => w'.cell? ⟨w.heap.size, 0, none⟩ = some (.int .i64 k) ∧ w'.cell? ⟨w.heap.size, 1, none⟩ = some (.slice a0 n0 c0) ∧ w'.cell? ⟨w.heap.size, 2, none⟩ = some (.slice a1 n1 c1) ∧ w'.cell? ⟨w.heap.size, 3, none⟩ = some (.int .i64 uid) ∧ w'.cell? ⟨w.heap.size, 4, none⟩ = some (.int .i64 mode) ∧ w'.cell? ⟨w.heap.size, 5, none⟩ = some (.int .i64 fl) ∧ w'.cell? ⟨w.heap.size, 6, none⟩ = some (.int .i64 si) ∧ w'.cell? ⟨w.heap.size, 7, none⟩ = some (.slice a2 n2 c2) ∧ (convert 22 9 (.slice a0 n0 c0)).run Tryz.prog w' = .ok (.string (strOfNums bx)) w') (tabO_of (by kernel_rfl) tabT_fetchTokens) (by kernel_rfl) (HS.out _ C0) (fun hTb hHeld => ?_)
  refine tkw 0 0 3 hTb hHeld ?_
  refine tkw 1 1 4 hTb hHeld ?_
  refine tkw 2 2 5 hTb hHeld ?_
  refine tkw 3 3 6 hTb hHeld ?_
  refine tkw 4 4 7 hTb hHeld ?_
  refine clo 5 5 hTb (by decide) rfl ?_
  refine AllReadyH.cons rfl (fun K hK => ?_) AllReadyH.nil
  go_simp
  refine (itoa_i uid y0 y1 _ (Lib.tabBelow_of_tabIs ht _ (Below.step HX.out C0))).mono ?_
  rintro e w1 ⟨rfl, B1⟩
  have C1 := Below.step C0 B1
  clear B1
  refine hK.out _ _ (HS.out _ C1) (fun hHeld => ?_)
  clear hK K
  refine wpOrd_in (n := 8) (p := 5) (i := 5) rfl rfl rfl ?_
  refine clo 6 6 hTb (by decide) rfl ?_
  refine AllReadyH.cons rfl (fun K hK => ?_) AllReadyH.nil
  go_simp
  have C2 := Below.step C1 (show Below (w1).heap.size (w1) ((w1).alloc (.cells #[.string (strOfNums (bx)), .string (strOfNums (digB uid.toNat))] 9)) from (Below.refl _ _).alloc (Nat.le_refl _) _)
  refine hK.out _ _ (HS.out _ C2) (fun hHeld => ?_)
  clear hK K
  refine wpOrd_in (n := 8) (p := 6) (i := 6) rfl rfl rfl ?_
  refine tkw 7 7 2 hTb hHeld ?_
  refine wpO_end hTb ?_
  have HF : Hid (StrsV (w1.alloc (.cells #[.string (strOfNums (bx)), .string (strOfNums (digB uid.toNat))] 9)) (.slice (some ⟨w1.heap.size, 0, none⟩) 2 2) [bx, digB uid.toNat]) := strs_lit _ _ [bx, digB uid.toNat] (box_new w1 (.cells #[.string (strOfNums (bx)), .string (strOfNums (digB uid.toNat))] 9)) (by
    intro s hs
    simp only [List.mem_cons, List.not_mem_nil, or_false] at hs
    rcases hs with rfl | rfl
    · exact HOX.out.1
    · exact digB_oct _) (by simp)
  have HBF : Hid (Below w.heap.size w (w1.alloc (.cells #[.string (strOfNums (bx)), .string (strOfNums (digB uid.toNat))] 9))) := Below.step HX.out C2
  clear HS C0 hHeld hTb
  go_wp2
  go_ret
  exact ⟨_, rfl, HF.out, HBF.out⟩

set_option maxRecDepth 100000 in
set_option maxHeartbeats 4000000 in
theorem appendTokens_r (v : Value) (k : Int) (bx tt : List Int) (uid mode fl si : Int) (tx : List Int) (w : World) (hv : CmdV w v k bx tt uid mode fl si tx) (y0 : 0 ≤ fl) (y1 : fl ≤ 31) (htx : tx.length ≤ 2000000) :
    Calls Tryz.prog 35 #[v] w fun e w' => ∃ u, e = .returned u ∧ StrsV w' u [bx, flagsB fl, quoB tx] ∧ Below w.heap.size w w' := by
  obtain ⟨u0, u1, u2, rfl, g0, g1, g2, i0, i1, i2, i3, i4⟩ := hv
  obtain ⟨a0, n0, c0, rfl⟩ := g0.form3
  obtain ⟨a1, n1, c1, rfl⟩ := g1.form3
  obtain ⟨a2, n2, c2, rfl⟩ := g2.form3
  have HX : Hid (Below w.heap.size w (w.alloc (.cells #[.int .i64 k, .slice a0 n0 c0, .slice a1 n1 c1, .int .i64 uid, .int .i64 mode, .int .i64 fl, .int .i64 si, .slice a2 n2 c2] 24))) := (Below.refl _ _).alloc (Nat.le_refl _) _
  have HK : Hid ((w.alloc (.cells #[.int .i64 k, .slice a0 n0 c0, .slice a1 n1 c1, .int .i64 uid, .int .i64 mode, .int .i64 fl, .int .i64 si, .slice a2 n2 c2] 24)).heap[w.heap.size]? = some (.cells #[.int .i64 k, .slice a0 n0 c0, .slice a1 n1 c1, .int .i64 uid, .int .i64 mode, .int .i64 fl, .int .i64 si, .slice a2 n2 c2] 24)) := box_new w _
  have HG : Hid (∀ wi, Below w.heap.size w wi → Bs wi (.slice a0 n0 c0) bx ∧ Bs wi (.slice a2 n2 c2) tx) := fun wi h => ⟨g0.below h, g2.below h⟩
  have HOX : Hid (Oct bx ∧ Oct tx) := ⟨g0.1, g2.1⟩
  clear g0 g1 g2
  have HS : Hid (∀ w', Below (w.alloc (.cells #[.int .i64 k, .slice a0 n0 c0, .slice a1 n1 c1, .int .i64 uid, .int .i64 mode, .int .i64 fl, .int .i64 si, .slice a2 n2 c2] 24)).heap.size (w.alloc (.cells #[.int .i64 k, .slice a0 n0 c0, .slice a1 n1 c1, .int .i64 uid, .int .i64 mode, .int .i64 fl, .int .i64 si, .slice a2 n2 c2] 24)) w' → w'.cell? ⟨w.heap.size, 0, none⟩ = some (.int .i64 k) ∧ w'.cell? ⟨w.heap.size, 1, none⟩ = some (.slice a0 n0 c0) ∧ w'.cell? ⟨w.heap.size, 2, none⟩ = some (.slice a1 n1 c1) ∧ w'.cell? ⟨w.heap.size, 3, none⟩ = some (.int .i64 uid) ∧ w'.cell? ⟨w.heap.size, 4, none⟩ = some (.int .i64 mode) ∧ w'.cell? ⟨w.heap.size, 5, none⟩ = some (.int .i64 fl) ∧ w'.cell? ⟨w.heap.size, 6, none⟩ = some (.int .i64 si) ∧ w'.cell? ⟨w.heap.size, 7, none⟩ = some (.slice a2 n2 c2) ∧ (convert 22 9 (.slice a0 n0 c0)).run Tryz.prog w' = .ok (.string (strOfNums bx)) w') := by
    intro w' h
    obtain ⟨s0, s1, s2, s3, s4, s5, s6, s7⟩ := box8 (box_below h HK.out)
    exact ⟨s0, s1, s2, s3, s4, s5, s6, s7, run_convert_bs (HG.out _ (Below.step HX.out h)).1⟩
  have C0 : Below (w.alloc (.cells #[.int .i64 k, .slice a0 n0 c0, .slice a1 n1 c1, .int .i64 uid, .int .i64 mode, .int .i64 fl, .int .i64 si, .slice a2 n2 c2] 24)).heap.size (w.alloc (.cells #[.int .i64 k, .slice a0 n0 c0, .slice a1 n1 c1, .int .i64 uid, .int .i64 mode, .int .i64 fl, .int .i64 si, .slice a2 n2 c2] 24)) (w.alloc (.cells #[.int .i64 k, .slice a0 n0 c0, .slice a1 n1 c1, .int .i64 uid, .int .i64 mode, .int .i64 fl, .int .i64 si, .slice a2 n2 c2] 24)).drew := (Below.refl _ _).drew
  go_enter Tryz.func35, Tryz.ntmps35
  go_wp2
  refine wpO_begin (S := fun w' => w'.cell? ⟨w.heap.size, 0, none⟩ = some (.int .i64 k) ∧ w'.cell? ⟨w.heap.size, 1, none⟩ = some (.slice a0 n0 c0) ∧ w'.cell? ⟨w.heap.size, 2, none⟩ = some (.slice a1 n1 c1) ∧ w'.cell? ⟨w.heap.size, 3, none⟩ = some (.int .i64 uid) ∧ w'.cell? ⟨w.heap.size, 4, none⟩ = some (.int .i64 mode) ∧ w'.cell? ⟨w.heap.size, 5, none⟩ = some (.int .i64 fl) ∧ w'.cell? ⟨w.heap.size, 6, none⟩ = some (.int .i64 si) ∧ w'.cell? ⟨w.heap.size, 7, none⟩ = some (.slice a2 n2 c2) ∧ (convert 22 9 (.slice a0 n0 c0)).run Tryz.prog w' = .ok (.string (strOfNums bx)) w') (tabO_of (by kernel_rfl) tabT_appendTokens) (by kernel_rfl) (HS.out _ C0) (fun hTb hHeld => ?_)
  refine tkw 0 0 3 hTb hHeld ?_
  refine tkw 1 1 4 hTb hHeld ?_
  refine tkw 2 2 5 hTb hHeld ?_
  refine tkw 3 3 6 hTb hHeld ?_
  refine tkw 4 4 7 hTb hHeld ?_
  refine tkw 5 6 9 hTb hHeld ?_
  refine tkw 6 7 10 hTb hHeld ?_
  refine clo 7 5 hTb (by decide) rfl ?_
  refine AllReadyH.cons rfl (fun K hK => ?_) AllReadyH.nil
  go_simp
  refine (flagsText_i fl y0 y1 _).mono ?_
  rintro e w1 ⟨rfl, B1⟩
  have C1 := Below.step C0 B1
  clear B1
  refine hK.out _ _ (HS.out _ C1) (fun hHeld => ?_)
  clear hK K
  refine wpOrd_in (n := 11) (p := 7) (i := 5) rfl rfl rfl ?_
  refine clo 8 8 hTb (by decide) rfl ?_
  refine AllReadyH.cons rfl (fun K hK => ?_) AllReadyH.nil
  go_simp
  refine (quotedText_r _ tx _ (HG.out _ (Below.step HX.out C1)).2 htx).mono ?_
  rintro e w2 ⟨rfl, B2⟩
  have C2 := Below.step C1 B2
  clear B2
  refine hK.out _ _ (HS.out _ C2) (fun hHeld => ?_)
  clear hK K
  refine wpOrd_in (n := 11) (p := 8) (i := 8) rfl rfl rfl ?_
  refine clo 9 9 hTb (by decide) rfl ?_
  refine AllReadyH.cons rfl (fun K hK => ?_) AllReadyH.nil
  go_simp
  have C3 := Below.step C2 (show Below (w2).heap.size (w2) ((w2).alloc (.cells #[.string (strOfNums (bx)), .string (strOfNums (flagsB fl)), .string (strOfNums (quoB tx))] 9)) from (Below.refl _ _).alloc (Nat.le_refl _) _)
  refine hK.out _ _ (HS.out _ C3) (fun hHeld => ?_)
  clear hK K
  refine wpOrd_in (n := 11) (p := 9) (i := 9) rfl rfl rfl ?_
  refine tkw 10 10 2 hTb hHeld ?_
  refine wpO_end hTb ?_
  have HF : Hid (StrsV (w2.alloc (.cells #[.string (strOfNums (bx)), .string (strOfNums (flagsB fl)), .string (strOfNums (quoB tx))] 9)) (.slice (some ⟨w2.heap.size, 0, none⟩) 3 3) [bx, flagsB fl, quoB tx]) := strs_lit _ _ [bx, flagsB fl, quoB tx] (box_new w2 (.cells #[.string (strOfNums (bx)), .string (strOfNums (flagsB fl)), .string (strOfNums (quoB tx))] 9)) (by
    intro s hs
    simp only [List.mem_cons, List.not_mem_nil, or_false] at hs
    rcases hs with rfl | rfl | rfl
    · exact HOX.out.1
    · exact flagsB_oct _
    · exact quoB_oct HOX.out.2) (by simp)
  have HBF : Hid (Below w.heap.size w (w2.alloc (.cells #[.string (strOfNums (bx)), .string (strOfNums (flagsB fl)), .string (strOfNums (quoB tx))] 9))) := Below.step HX.out C3
  clear HS C0 hHeld hTb
  go_wp2
  go_ret
  exact ⟨_, rfl, HF.out, HBF.out⟩

set_option maxRecDepth 100000 in
set_option maxHeartbeats 4000000 in
theorem boxTokens_r (v : Value) (k : Int) (bx tt : List Int) (uid mode fl si : Int) (tx : List Int) (w : World) (hv : CmdV w v k bx tt uid mode fl si tx) :
    Calls Tryz.prog 33 #[v] w fun e w' => ∃ u, e = .returned u ∧ StrsV w' u [bx] ∧ Below w.heap.size w w' := by
  obtain ⟨u0, u1, u2, rfl, g0, g1, g2, i0, i1, i2, i3, i4⟩ := hv
  obtain ⟨a0, n0, c0, rfl⟩ := g0.form3
  obtain ⟨a1, n1, c1, rfl⟩ := g1.form3
  obtain ⟨a2, n2, c2, rfl⟩ := g2.form3
  have HX : Hid (Below w.heap.size w (w.alloc (.cells #[.int .i64 k, .slice a0 n0 c0, .slice a1 n1 c1, .int .i64 uid, .int .i64 mode, .int .i64 fl, .int .i64 si, .slice a2 n2 c2] 24))) := (Below.refl _ _).alloc (Nat.le_refl _) _
  have HK : Hid ((w.alloc (.cells #[.int .i64 k, .slice a0 n0 c0, .slice a1 n1 c1, .int .i64 uid, .int .i64 mode, .int .i64 fl, .int .i64 si, .slice a2 n2 c2] 24)).heap[w.heap.size]? = some (.cells #[.int .i64 k, .slice a0 n0 c0, .slice a1 n1 c1, .int .i64 uid, .int .i64 mode, .int .i64 fl, .int .i64 si, .slice a2 n2 c2] 24)) := box_new w _
  have HG : Hid (∀ wi, Below w.heap.size w wi → Bs wi (.slice a0 n0 c0) bx ∧ Bs wi (.slice a2 n2 c2) tx) := fun wi h => ⟨g0.below h, g2.below h⟩
  have HOX : Hid (Oct bx ∧ Oct tx) := ⟨g0.1, g2.1⟩
  clear g0 g1 g2
  obtain ⟨f0, f1, f2, f3, f4, f5, f6, f7⟩ := box8 HK.out
  have hlA := lt_of_heap HK.out
  have hcv := run_convert_bs (HG.out _ HX.out).1
  go_enter Tryz.func33, Tryz.ntmps33
  go_wp2
  go_ret
  exact ⟨_, rfl, strs_lit _ _ [bx] (by have h := box_new (w.alloc (.cells #[.int .i64 k, .slice a0 n0 c0, .slice a1 n1 c1, .int .i64 uid, .int .i64 mode, .int .i64 fl, .int .i64 si, .slice a2 n2 c2] 24)) (.cells #[.string (strOfNums bx)] 9); rw [show (w.alloc (.cells #[.int .i64 k, .slice a0 n0 c0, .slice a1 n1 c1, .int .i64 uid, .int .i64 mode, .int .i64 fl, .int .i64 si, .slice a2 n2 c2] 24)).heap.size = w.heap.size + 1 by simp] at h; exact h) (by intro s hs; simp only [List.mem_cons, List.not_mem_nil, or_false] at hs; subst hs; exact HOX.out.1) (by simp), Below.step HX.out ((Below.refl _ _).alloc (Nat.le_refl _) _)⟩

set_option maxRecDepth 100000 in
set_option maxHeartbeats 4000000 in
theorem noTokens_r (v : Value) (k : Int) (bx tt : List Int) (uid mode fl si : Int) (tx : List Int) (w : World) (hv : CmdV w v k bx tt uid mode fl si tx) :
    Calls Tryz.prog 45 #[v] w fun e w' => ∃ u, e = .returned u ∧ StrsV w' u [] ∧ Below w.heap.size w w' := by
  obtain ⟨u0, u1, u2, rfl, g0, g1, g2, i0, i1, i2, i3, i4⟩ := hv
  obtain ⟨a0, n0, c0, rfl⟩ := g0.form3
  obtain ⟨a1, n1, c1, rfl⟩ := g1.form3
  obtain ⟨a2, n2, c2, rfl⟩ := g2.form3
  have HX : Hid (Below w.heap.size w (w.alloc (.cells #[.int .i64 k, .slice a0 n0 c0, .slice a1 n1 c1, .int .i64 uid, .int .i64 mode, .int .i64 fl, .int .i64 si, .slice a2 n2 c2] 24))) := (Below.refl _ _).alloc (Nat.le_refl _) _
  have HK : Hid ((w.alloc (.cells #[.int .i64 k, .slice a0 n0 c0, .slice a1 n1 c1, .int .i64 uid, .int .i64 mode, .int .i64 fl, .int .i64 si, .slice a2 n2 c2] 24)).heap[w.heap.size]? = some (.cells #[.int .i64 k, .slice a0 n0 c0, .slice a1 n1 c1, .int .i64 uid, .int .i64 mode, .int .i64 fl, .int .i64 si, .slice a2 n2 c2] 24)) := box_new w _
  have HG : Hid (∀ wi, Below w.heap.size w wi → Bs wi (.slice a0 n0 c0) bx ∧ Bs wi (.slice a2 n2 c2) tx) := fun wi h => ⟨g0.below h, g2.below h⟩
  have HOX : Hid (Oct bx ∧ Oct tx) := ⟨g0.1, g2.1⟩
  clear g0 g1 g2
  go_enter Tryz.func45, Tryz.ntmps45
  go_wp2
  go_ret
  exact ⟨_, rfl, Rd.nil _, HX.out⟩

end Go.Proofs.YtlegmiaoablcgaaGreatDoor

/- What storeTokens of package impl does. -/
namespace Go.Proofs.YtlegmiaoablcgaaGreatDoor
open Go.RowKit
set_option maxRecDepth 100000
set_option linter.unusedVariables false

def storeT (bx : List Int) (uid mode fl si : Int) : List (List Int) := if 0 < si then [bx, digB uid.toNat, modeW mode, flagsB fl, sinceW, digB si.toNat] else [bx, digB uid.toNat, modeW mode, flagsB fl]
theorem tabT_storeTokens : (Tryz.f37.body.bind (opsAt 1)).all (fun o => tableO o 16 [0, 1, 2, 3, 4, 7, 8, 11, 12, 5, 6, 9, 10, 13, 14, 15] [9, 10, 13, 14]) = true := by kernel_rfl

set_option maxRecDepth 100000 in
set_option maxHeartbeats 4000000 in
theorem storeTokens_r (v : Value) (k : Int) (bx tt : List Int) (uid mode fl si : Int) (tx : List Int) (w : World) (hv : CmdV w v k bx tt uid mode fl si tx) (y0 : 0 ≤ uid) (y1 : uid ≤ 9999999) (y2 : 0 ≤ fl) (y3 : fl ≤ 31) (y4 : 0 ≤ mode) (y5 : mode ≤ 2) (y6 : 0 ≤ si) (y7 : si ≤ 9999999) (ht : Tab10 w) :
    Calls Tryz.prog 37 #[v] w fun e w' => ∃ u, e = .returned u ∧ StrsV w' u (storeT bx uid mode fl si) ∧ Below w.heap.size w w' := by
  obtain ⟨mn, rfl⟩ : ∃ n : Nat, mode = n := ⟨mode.toNat, by omega⟩
  have hmn : mn ≤ 2 := by omega
  have hmnI : (mn : Int) < 3 := by omega
  obtain ⟨u0, u1, u2, rfl, g0, g1, g2, i0, i1, i2, i3, i4⟩ := hv
  obtain ⟨a0, n0, c0, rfl⟩ := g0.form3
  obtain ⟨a1, n1, c1, rfl⟩ := g1.form3
  obtain ⟨a2, n2, c2, rfl⟩ := g2.form3
  have HX : Hid (Below w.heap.size w (w.alloc (.cells #[.int .i64 k, .slice a0 n0 c0, .slice a1 n1 c1, .int .i64 uid, .int .i64 mn, .int .i64 fl, .int .i64 si, .slice a2 n2 c2] 24))) := (Below.refl _ _).alloc (Nat.le_refl _) _
  have HK : Hid ((w.alloc (.cells #[.int .i64 k, .slice a0 n0 c0, .slice a1 n1 c1, .int .i64 uid, .int .i64 mn, .int .i64 fl, .int .i64 si, .slice a2 n2 c2] 24)).heap[w.heap.size]? = some (.cells #[.int .i64 k, .slice a0 n0 c0, .slice a1 n1 c1, .int .i64 uid, .int .i64 mn, .int .i64 fl, .int .i64 si, .slice a2 n2 c2] 24)) := box_new w _
  have HG : Hid (∀ wi, Below w.heap.size w wi → Bs wi (.slice a0 n0 c0) bx ∧ Bs wi (.slice a2 n2 c2) tx) := fun wi h => ⟨g0.below h, g2.below h⟩
  have HOX : Hid (Oct bx ∧ Oct tx) := ⟨g0.1, g2.1⟩
  clear g0 g1 g2
  have HS : Hid (∀ w', Below (w.alloc (.cells #[.int .i64 k, .slice a0 n0 c0, .slice a1 n1 c1, .int .i64 uid, .int .i64 mn, .int .i64 fl, .int .i64 si, .slice a2 n2 c2] 24)).heap.size (w.alloc (.cells #[.int .i64 k, .slice a0 n0 c0, .slice a1 n1 c1, .int .i64 uid, .int .i64 mn, .int .i64 fl, .int .i64 si, .slice a2 n2 c2] 24)) w' → w'.cell? ⟨w.heap.size, 0, none⟩ = some (.int .i64 k) ∧ w'.cell? ⟨w.heap.size, 1, none⟩ = some (.slice a0 n0 c0) ∧ w'.cell? ⟨w.heap.size, 2, none⟩ = some (.slice a1 n1 c1) ∧ w'.cell? ⟨w.heap.size, 3, none⟩ = some (.int .i64 uid) ∧ w'.cell? ⟨w.heap.size, 4, none⟩ = some (.int .i64 mn) ∧ w'.cell? ⟨w.heap.size, 5, none⟩ = some (.int .i64 fl) ∧ w'.cell? ⟨w.heap.size, 6, none⟩ = some (.int .i64 si) ∧ w'.cell? ⟨w.heap.size, 7, none⟩ = some (.slice a2 n2 c2) ∧ (convert 22 9 (.slice a0 n0 c0)).run Tryz.prog w' = .ok (.string (strOfNums bx)) w') := by
    intro w' h
    obtain ⟨s0, s1, s2, s3, s4, s5, s6, s7⟩ := box8 (box_below h HK.out)
    exact ⟨s0, s1, s2, s3, s4, s5, s6, s7, run_convert_bs (HG.out _ (Below.step HX.out h)).1⟩
  have C0 : Below (w.alloc (.cells #[.int .i64 k, .slice a0 n0 c0, .slice a1 n1 c1, .int .i64 uid, .int .i64 mn, .int .i64 fl, .int .i64 si, .slice a2 n2 c2] 24)).heap.size (w.alloc (.cells #[.int .i64 k, .slice a0 n0 c0, .slice a1 n1 c1, .int .i64 uid, .int .i64 mn, .int .i64 fl, .int .i64 si, .slice a2 n2 c2] 24)) (w.alloc (.cells #[.int .i64 k, .slice a0 n0 c0, .slice a1 n1 c1, .int .i64 uid, .int .i64 mn, .int .i64 fl, .int .i64 si, .slice a2 n2 c2] 24)).drew := (Below.refl _ _).drew
  obtain ⟨z0, hi, hz0, hz1, hz2⟩ := info_parts infoStr
  go_enter Tryz.func37, Tryz.ntmps37
  go_wp2
  refine wpO_begin (S := fun w' => w'.cell? ⟨w.heap.size, 0, none⟩ = some (.int .i64 k) ∧ w'.cell? ⟨w.heap.size, 1, none⟩ = some (.slice a0 n0 c0) ∧ w'.cell? ⟨w.heap.size, 2, none⟩ = some (.slice a1 n1 c1) ∧ w'.cell? ⟨w.heap.size, 3, none⟩ = some (.int .i64 uid) ∧ w'.cell? ⟨w.heap.size, 4, none⟩ = some (.int .i64 mn) ∧ w'.cell? ⟨w.heap.size, 5, none⟩ = some (.int .i64 fl) ∧ w'.cell? ⟨w.heap.size, 6, none⟩ = some (.int .i64 si) ∧ w'.cell? ⟨w.heap.size, 7, none⟩ = some (.slice a2 n2 c2) ∧ (convert 22 9 (.slice a0 n0 c0)).run Tryz.prog w' = .ok (.string (strOfNums bx)) w') (tabO_of (by kernel_rfl) tabT_storeTokens) (by kernel_rfl) (HS.out _ C0) (fun hTb hHeld => ?_)
  refine tkw 0 0 4 hTb hHeld ?_
  refine tkw 1 1 5 hTb hHeld ?_
  refine tkw 2 2 6 hTb hHeld ?_
  refine tkw 3 3 7 hTb hHeld ?_
  refine tkw 4 4 8 hTb hHeld ?_
  refine tkw 5 7 11 hTb hHeld ?_
  refine tkw 6 8 12 hTb hHeld ?_
  refine tkw 7 11 15 hTb hHeld ?_
  refine tkw 8 12 16 hTb hHeld ?_
  refine clo 9 5 hTb (by decide) rfl ?_
  refine AllReadyH.cons rfl (fun K hK => ?_) AllReadyH.nil
  go_simp
  refine (itoa_i uid y0 y1 _ (Lib.tabBelow_of_tabIs ht _ (Below.step HX.out C0))).mono ?_
  rintro e w1 ⟨rfl, B1⟩
  have C1 := Below.step C0 B1
  clear B1
  refine hK.out _ _ (HS.out _ C1) (fun hHeld => ?_)
  clear hK K
  refine wpOrd_in (n := 16) (p := 9) (i := 5) rfl rfl rfl ?_
  refine clo 10 6 hTb (by decide) rfl ?_
  refine AllReadyH.cons rfl (fun K hK => ?_) AllReadyH.nil
  go_simp
  refine (storeWords_r _).mono ?_
  rintro e w2 ⟨rfl, hw2⟩
  have B2 : Below w1.heap.size w1 w2 := by rw [hw2]; exact (Below.refl _ _).alloc (Nat.le_refl _) _
  have KB : w2.heap[w1.heap.size]? = some (.cells #[.string ⟨#[73, 83]⟩, .string ⟨#[87, 73, 84, 72]⟩, .string ⟨#[87, 73, 84, 72, 79, 85, 84]⟩] 9) := by rw [hw2]; exact box_new w1 _
  have C2 := Below.step C1 B2
  clear hw2 B2
  refine hK.out _ _ (HS.out _ C2) (fun hHeld => ?_)
  clear hK K
  refine wpOrd_in (n := 16) (p := 10) (i := 6) rfl rfl rfl ?_
  refine wpOrd_more (fun w' => w'.cell? ⟨w1.heap.size, mn, none⟩ = some (.string (strOfNums (modeW mn))) ∧ w'.cell? ⟨w.heap.size, 0, none⟩ = some (.int .i64 k) ∧ w'.cell? ⟨w.heap.size, 1, none⟩ = some (.slice a0 n0 c0) ∧ w'.cell? ⟨w.heap.size, 2, none⟩ = some (.slice a1 n1 c1) ∧ w'.cell? ⟨w.heap.size, 3, none⟩ = some (.int .i64 uid) ∧ w'.cell? ⟨w.heap.size, 4, none⟩ = some (.int .i64 mn) ∧ w'.cell? ⟨w.heap.size, 5, none⟩ = some (.int .i64 fl) ∧ w'.cell? ⟨w.heap.size, 6, none⟩ = some (.int .i64 si) ∧ w'.cell? ⟨w.heap.size, 7, none⟩ = some (.slice a2 n2 c2) ∧ (convert 22 9 (.slice a0 n0 c0)).run Tryz.prog w' = .ok (.string (strOfNums bx)) w') (fun _ h => h.2) ?_
  replace hHeld := And.intro (modeCell hmn KB) hHeld
  refine tkw 11 9 13 hTb hHeld ?_
  refine tkw 12 10 14 hTb hHeld ?_
  refine clo 13 13 hTb (by decide) rfl ?_
  refine AllReadyH.cons rfl (fun K hK => ?_) AllReadyH.nil
  go_simp
  refine (flagsText_i fl y2 y3 _).mono ?_
  rintro e w3 ⟨rfl, B3⟩
  have C3 := Below.step C2 B3
  have KB3 := box_below B3 KB
  clear B3
  refine hK.out _ _ (⟨modeCell hmn KB3, HS.out _ C3⟩) (fun hHeld => ?_)
  clear hK K
  refine wpOrd_in (n := 16) (p := 13) (i := 13) rfl rfl rfl ?_
  refine clo 14 14 hTb (by decide) rfl ?_
  refine AllReadyH.cons rfl (fun K hK => ?_) AllReadyH.nil
  go_simp
  have AB4 := (show Below w3.heap.size w3 (w3.alloc (.cells #[.string (strOfNums (bx)), .string (strOfNums (digB uid.toNat)), .string (strOfNums (modeW mn)), .string (strOfNums (flagsB fl))] 9)) from (Below.refl _ _).alloc (Nat.le_refl _) _)
  have C4 := Below.step C3 AB4
  refine hK.out _ _ (⟨modeCell hmn (box_below AB4 KB3), HS.out _ C4⟩) (fun hHeld => ?_)
  clear hK K
  refine wpOrd_in (n := 16) (p := 14) (i := 14) rfl rfl rfl ?_
  refine tkw 15 15 3 hTb hHeld ?_
  refine wpO_end hTb ?_
  have HOC : ∀ s, s ∈ [bx, digB uid.toNat, modeW mn, flagsB fl] → Oct s := by
    intro s hs
    simp only [List.mem_cons, List.not_mem_nil, or_false] at hs
    rcases hs with rfl | rfl | rfl | rfl
    · exact HOX.out.1
    · exact digB_oct _
    · exact (modeW_ok mn hmn).2
    · exact flagsB_oct _
  have HF : Hid ((w3.alloc (.cells #[.string (strOfNums (bx)), .string (strOfNums (digB uid.toNat)), .string (strOfNums (modeW mn)), .string (strOfNums (flagsB fl))] 9)).ownsRow w.heap.size 9 1 (.slice (some ⟨w3.heap.size, 0, none⟩) 4 4) 4 (strVals [bx, digB uid.toNat, modeW mn, flagsB fl])) := rowS_lit _ _ _ [bx, digB uid.toNat, modeW mn, flagsB fl] (box_new w3 (.cells #[.string (strOfNums (bx)), .string (strOfNums (digB uid.toNat)), .string (strOfNums (modeW mn)), .string (strOfNums (flagsB fl))] 9)) (by have h1 := C3.size; simp at h1; omega) (by simp)
  have HBF : Hid (Below w.heap.size w (w3.alloc (.cells #[.string (strOfNums (bx)), .string (strOfNums (digB uid.toNat)), .string (strOfNums (modeW mn)), .string (strOfNums (flagsB fl))] 9))) := Below.step HX.out C4
  have HK2 := box_below C4 HK.out
  have HT5 : Hid (∀ wi, Below w.heap.size w wi → Tab10 wi) := fun wi h => Lib.tabBelow_of_tabIs ht _ h
  obtain ⟨f0, f1, f2, f3, f4, f5, f6, f7⟩ := box8 HK2
  have hlA := lt_of_heap HK2
  have s1 : w.heap.size ≤ w3.heap.size := by have h1 := C3.size; simp at h1; omega
  clear HS C0 C1 C2 C3 C4 AB4 KB KB3 hHeld hTb HK2 HK
  generalize hw4 : w3.alloc (.cells #[.string (strOfNums (bx)), .string (strOfNums (digB uid.toNat)), .string (strOfNums (modeW mn)), .string (strOfNums (flagsB fl))] 9) = w4 at *
  have hs4 : w4.heap.size = w3.heap.size + 1 := by rw [← hw4]; simp
  by_cases hm : 0 < si
  · have HE : Hid (storeT bx uid mn fl si = [bx, digB uid.toNat, modeW mn, flagsB fl] ++ [sinceW, digB si.toNat]) := by simp [Hid, storeT, hm]
    have hmd : decide (0 < si) = true := decide_eq_true hm
    go_wp2_with fail
    refine (itoa_i si y6 y7 _ (HT5.out _ HBF.out)).mono ?_
    rintro e w5 ⟨rfl, B5⟩
    have HF5 : Hid (w5.ownsRow w.heap.size 9 1 (.slice (some ⟨w3.heap.size, 0, none⟩) 4 4) 4 (strVals [bx, digB uid.toNat, modeW mn, flagsB fl])) := HF.out.kept (grow_below B5 none) (.inr (by simp [Value.ownBlock]))
    have X5 := Below.step HBF.out B5
    have hs5 := B5.size
    have HFA : Hid ((w5.alloc (.cells #[.string ⟨#[83, 73, 78, 67, 69]⟩, .string (strOfNums (digB si.toNat))] 9)).ownsRow w.heap.size 9 1 (.slice (some ⟨w3.heap.size, 0, none⟩) 4 4) 4 (strVals [bx, digB uid.toNat, modeW mn, flagsB fl])) := HF5.out.kept (World.grownBy_alloc _ _ none) (.inr (by simp [Value.ownBlock]))
    have HG2 : Hid ((w5.alloc (.cells #[.string ⟨#[83, 73, 78, 67, 69]⟩, .string (strOfNums (digB si.toNat))] 9)).heap[w5.heap.size]? = some (.cells (strVals [sinceW, digB si.toNat]).toArray 9 (0, 0))) := box_new w5 (.cells #[.string ⟨#[83, 73, 78, 67, 69]⟩, .string (strOfNums (digB si.toNat))] 9)
    have HBA : Hid (Below w.heap.size w (w5.alloc (.cells #[.string ⟨#[83, 73, 78, 67, 69]⟩, .string (strOfNums (digB si.toNat))] 9))) := Below.step X5 ((Below.refl _ _).alloc (Nat.le_refl _) _)
    have sA : w.heap.size ≤ (w5.alloc (.cells #[.string ⟨#[83, 73, 78, 67, 69]⟩, .string (strOfNums (digB si.toNat))] 9)).heap.size := HBA.out.size
    clear f0 f1 f2 f3 f4 f5 f6 f7 hlA B5 X5 HF5 HF
    go_wp2_with (at_builtin; refine wpList_append_strs rfl (.tmp 22) (.tmp 26) 44 rfl z0 Tryz.underlying44 hi hz0 hz1 hz2 w.heap.size _ [bx, digB uid.toNat, modeW mn, flagsB fl] [sinceW, digB si.toNat] 4 2 rfl rfl rfl HFA.out w5.heap.size rfl HG2.out (by omega) sA ?_)
    intro v6 w6 hO6 hG6
    have HF6 : Hid (StrsV w6 v6 (storeT bx uid mn fl si)) := by
      rw [HE.out]
      refine strs_of_row hO6 ?_
      intro s hs
      rcases List.mem_append.1 hs with h | h
      · exact HOC s h
      · simp only [List.mem_cons, List.not_mem_nil, or_false] at h
        rcases h with rfl | rfl
        · intro y hy
          simp only [sinceW, List.mem_cons, List.not_mem_nil, or_false] at hy
          omega
        · exact digB_oct _
    have HB6 : Hid (Below w.heap.size w w6) := HBA.out.grown hG6 HBA.out.size (fun q hq => (HFA.out.lt q hq).1)
    clear hO6 hG6 HFA HG2 HBA
    go_wp2
    go_ret
    exact ⟨_, rfl, HF6.out, HB6.out⟩
  · have HE : Hid (storeT bx uid mn fl si = [bx, digB uid.toNat, modeW mn, flagsB fl]) := by simp [Hid, storeT, hm]
    have hmd : decide (0 < si) = false := decide_eq_false hm
    go_wp2
    go_ret
    exact ⟨_, rfl, by rw [HE.out]; exact strs_of_row HF.out HOC, HBF.out⟩

end Go.Proofs.YtlegmiaoablcgaaGreatDoor

/- What copyTokens of package impl does. -/
namespace Go.Proofs.YtlegmiaoablcgaaGreatDoor
open Go.RowKit
set_option maxRecDepth 100000
set_option linter.unusedVariables false

def copyT (bx tt : List Int) (uid mode : Int) : List (List Int) := if mode = 1 then [bx, digB uid.toNat, tt, awayW] else [bx, digB uid.toNat, tt]
theorem tabT_copyTokens : (Tryz.f41.body.bind (opsAt 1)).all (fun o => tableO o 11 [0, 1, 2, 3, 4, 6, 7, 8, 5, 9, 10] [8, 9]) = true := by kernel_rfl

set_option maxRecDepth 100000 in
set_option maxHeartbeats 4000000 in
theorem copyTokens_r (v : Value) (k : Int) (bx tt : List Int) (uid mode fl si : Int) (tx : List Int) (w : World) (hv : CmdV w v k bx tt uid mode fl si tx) (y0 : 0 ≤ uid) (y1 : uid ≤ 9999999) (ht : Tab10 w) :
    Calls Tryz.prog 41 #[v] w fun e w' => ∃ u, e = .returned u ∧ StrsV w' u (copyT bx tt uid mode) ∧ Below w.heap.size w w' := by
  obtain ⟨u0, u1, u2, rfl, g0, g1, g2, i0, i1, i2, i3, i4⟩ := hv
  obtain ⟨a0, n0, c0, rfl⟩ := g0.form3
  obtain ⟨a1, n1, c1, rfl⟩ := g1.form3
  obtain ⟨a2, n2, c2, rfl⟩ := g2.form3
  have HX : Hid (Below w.heap.size w (w.alloc (.cells #[.int .i64 k, .slice a0 n0 c0, .slice a1 n1 c1, .int .i64 uid, .int .i64 mode, .int .i64 fl, .int .i64 si, .slice a2 n2 c2] 24))) := (Below.refl _ _).alloc (Nat.le_refl _) _
  have HK : Hid ((w.alloc (.cells #[.int .i64 k, .slice a0 n0 c0, .slice a1 n1 c1, .int .i64 uid, .int .i64 mode, .int .i64 fl, .int .i64 si, .slice a2 n2 c2] 24)).heap[w.heap.size]? = some (.cells #[.int .i64 k, .slice a0 n0 c0, .slice a1 n1 c1, .int .i64 uid, .int .i64 mode, .int .i64 fl, .int .i64 si, .slice a2 n2 c2] 24)) := box_new w _
  have HG : Hid (∀ wi, Below w.heap.size w wi → Bs wi (.slice a0 n0 c0) bx ∧ Bs wi (.slice a1 n1 c1) tt) := fun wi h => ⟨g0.below h, g1.below h⟩
  have HOX : Hid (Oct bx ∧ Oct tt) := ⟨g0.1, g1.1⟩
  clear g0 g1 g2
  have HS : Hid (∀ w', Below (w.alloc (.cells #[.int .i64 k, .slice a0 n0 c0, .slice a1 n1 c1, .int .i64 uid, .int .i64 mode, .int .i64 fl, .int .i64 si, .slice a2 n2 c2] 24)).heap.size (w.alloc (.cells #[.int .i64 k, .slice a0 n0 c0, .slice a1 n1 c1, .int .i64 uid, .int .i64 mode, .int .i64 fl, .int .i64 si, .slice a2 n2 c2] 24)) w' → w'.cell? ⟨w.heap.size, 0, none⟩ = some (.int .i64 k) ∧ w'.cell? ⟨w.heap.size, 1, none⟩ = some (.slice a0 n0 c0) ∧ w'.cell? ⟨w.heap.size, 2, none⟩ = some (.slice a1 n1 c1) ∧ w'.cell? ⟨w.heap.size, 3, none⟩ = some (.int .i64 uid) ∧ w'.cell? ⟨w.heap.size, 4, none⟩ = some (.int .i64 mode) ∧ w'.cell? ⟨w.heap.size, 5, none⟩ = some (.int .i64 fl) ∧ w'.cell? ⟨w.heap.size, 6, none⟩ = some (.int .i64 si) ∧ w'.cell? ⟨w.heap.size, 7, none⟩ = some (.slice a2 n2 c2) ∧ (convert 22 9 (.slice a0 n0 c0)).run Tryz.prog w' = .ok (.string (strOfNums bx)) w' ∧ (convert 22 9 (.slice a1 n1 c1)).run Tryz.prog w' = .ok (.string (strOfNums tt)) w') := by
    intro w' h
    obtain ⟨s0, s1, s2, s3, s4, s5, s6, s7⟩ := box8 (box_below h HK.out)
    exact ⟨s0, s1, s2, s3, s4, s5, s6, s7, run_convert_bs (HG.out _ (Below.step HX.out h)).1, run_convert_bs (HG.out _ (Below.step HX.out h)).2⟩
  have C0 : Below (w.alloc (.cells #[.int .i64 k, .slice a0 n0 c0, .slice a1 n1 c1, .int .i64 uid, .int .i64 mode, .int .i64 fl, .int .i64 si, .slice a2 n2 c2] 24)).heap.size (w.alloc (.cells #[.int .i64 k, .slice a0 n0 c0, .slice a1 n1 c1, .int .i64 uid, .int .i64 mode, .int .i64 fl, .int .i64 si, .slice a2 n2 c2] 24)) (w.alloc (.cells #[.int .i64 k, .slice a0 n0 c0, .slice a1 n1 c1, .int .i64 uid, .int .i64 mode, .int .i64 fl, .int .i64 si, .slice a2 n2 c2] 24)).drew := (Below.refl _ _).drew
  obtain ⟨z0, hi, hz0, hz1, hz2⟩ := info_parts infoStr
  go_enter Tryz.func41, Tryz.ntmps41
  go_wp2
  refine wpO_begin (S := fun w' => w'.cell? ⟨w.heap.size, 0, none⟩ = some (.int .i64 k) ∧ w'.cell? ⟨w.heap.size, 1, none⟩ = some (.slice a0 n0 c0) ∧ w'.cell? ⟨w.heap.size, 2, none⟩ = some (.slice a1 n1 c1) ∧ w'.cell? ⟨w.heap.size, 3, none⟩ = some (.int .i64 uid) ∧ w'.cell? ⟨w.heap.size, 4, none⟩ = some (.int .i64 mode) ∧ w'.cell? ⟨w.heap.size, 5, none⟩ = some (.int .i64 fl) ∧ w'.cell? ⟨w.heap.size, 6, none⟩ = some (.int .i64 si) ∧ w'.cell? ⟨w.heap.size, 7, none⟩ = some (.slice a2 n2 c2) ∧ (convert 22 9 (.slice a0 n0 c0)).run Tryz.prog w' = .ok (.string (strOfNums bx)) w' ∧ (convert 22 9 (.slice a1 n1 c1)).run Tryz.prog w' = .ok (.string (strOfNums tt)) w') (tabO_of (by kernel_rfl) tabT_copyTokens) (by kernel_rfl) (HS.out _ C0) (fun hTb hHeld => ?_)
  refine tkw 0 0 4 hTb hHeld ?_
  refine tkw 1 1 5 hTb hHeld ?_
  refine tkw 2 2 6 hTb hHeld ?_
  refine tkw 3 3 7 hTb hHeld ?_
  refine tkw 4 4 8 hTb hHeld ?_
  refine tkw 5 6 10 hTb hHeld ?_
  refine tkw 6 7 11 hTb hHeld ?_
  refine tkw 7 8 12 hTb hHeld ?_
  refine clo 8 5 hTb (by decide) rfl ?_
  refine AllReadyH.cons rfl (fun K hK => ?_) AllReadyH.nil
  go_simp
  refine (itoa_i uid y0 y1 _ (Lib.tabBelow_of_tabIs ht _ (Below.step HX.out C0))).mono ?_
  rintro e w1 ⟨rfl, B1⟩
  have C1 := Below.step C0 B1
  clear B1
  refine hK.out _ _ (HS.out _ C1) (fun hHeld => ?_)
  clear hK K
  refine wpOrd_in (n := 11) (p := 8) (i := 5) rfl rfl rfl ?_
  refine clo 9 9 hTb (by decide) rfl ?_
  refine AllReadyH.cons rfl (fun K hK => ?_) AllReadyH.nil
  go_simp
  have C2 := Below.step C1 (show Below w1.heap.size w1 (w1.alloc (.cells #[.string (strOfNums (bx)), .string (strOfNums (digB uid.toNat)), .string (strOfNums (tt))] 9)) from (Below.refl _ _).alloc (Nat.le_refl _) _)
  refine hK.out _ _ (HS.out _ C2) (fun hHeld => ?_)
  clear hK K
  refine wpOrd_in (n := 11) (p := 9) (i := 9) rfl rfl rfl ?_
  refine tkw 10 10 3 hTb hHeld ?_
  refine wpO_end hTb ?_
  have HOC : ∀ s, s ∈ [bx, digB uid.toNat, tt] → Oct s := by
    intro s hs
    simp only [List.mem_cons, List.not_mem_nil, or_false] at hs
    rcases hs with rfl | rfl | rfl
    · exact HOX.out.1
    · exact digB_oct _
    · exact HOX.out.2
  have HF : Hid ((w1.alloc (.cells #[.string (strOfNums (bx)), .string (strOfNums (digB uid.toNat)), .string (strOfNums (tt))] 9)).ownsRow w.heap.size 9 1 (.slice (some ⟨w1.heap.size, 0, none⟩) 3 3) 3 (strVals [bx, digB uid.toNat, tt])) := rowS_lit _ _ _ [bx, digB uid.toNat, tt] (box_new w1 (.cells #[.string (strOfNums (bx)), .string (strOfNums (digB uid.toNat)), .string (strOfNums (tt))] 9)) (by have h1 := C1.size; simp at h1; omega) (by simp)
  have HBF : Hid (Below w.heap.size w (w1.alloc (.cells #[.string (strOfNums (bx)), .string (strOfNums (digB uid.toNat)), .string (strOfNums (tt))] 9))) := Below.step HX.out C2
  have HK2 := box_below C2 HK.out
  obtain ⟨f0, f1, f2, f3, f4, f5, f6, f7⟩ := box8 HK2
  have hlA := lt_of_heap HK2
  have s1 : w.heap.size ≤ w1.heap.size := by have h1 := C1.size; simp at h1; omega
  clear HS C0 C1 C2 hHeld hTb HK2
  by_cases hm : mode = 1
  · have HE : Hid (copyT bx tt uid mode = [bx, digB uid.toNat, tt] ++ [awayW]) := by simp [Hid, copyT, hm]
    subst hm
    have HFA : Hid (((w1.alloc (.cells #[.string (strOfNums (bx)), .string (strOfNums (digB uid.toNat)), .string (strOfNums (tt))] 9)).alloc (.cells #[.string ⟨#[65, 87, 65, 89]⟩] 9)).ownsRow w.heap.size 9 1 (.slice (some ⟨w1.heap.size, 0, none⟩) 3 3) 3 (strVals [bx, digB uid.toNat, tt])) := HF.out.kept (World.grownBy_alloc _ _ none) (.inr (by simp [Value.ownBlock]))
    have HG2 : Hid (((w1.alloc (.cells #[.string (strOfNums (bx)), .string (strOfNums (digB uid.toNat)), .string (strOfNums (tt))] 9)).alloc (.cells #[.string ⟨#[65, 87, 65, 89]⟩] 9)).heap[w1.heap.size + 1]? = some (.cells (strVals [awayW]).toArray 9 (0, 0))) := by
      have h := box_new (w1.alloc (.cells #[.string (strOfNums (bx)), .string (strOfNums (digB uid.toNat)), .string (strOfNums (tt))] 9)) (.cells #[.string ⟨#[65, 87, 65, 89]⟩] 9)
      rw [show (w1.alloc (.cells #[.string (strOfNums (bx)), .string (strOfNums (digB uid.toNat)), .string (strOfNums (tt))] 9)).heap.size = w1.heap.size + 1 by simp] at h
      exact h
    have HBA : Hid (Below w.heap.size w ((w1.alloc (.cells #[.string (strOfNums (bx)), .string (strOfNums (digB uid.toNat)), .string (strOfNums (tt))] 9)).alloc (.cells #[.string ⟨#[65, 87, 65, 89]⟩] 9))) := Below.step HBF.out ((Below.refl _ _).alloc (Nat.le_refl _) _)
    have sA : w.heap.size ≤ ((w1.alloc (.cells #[.string (strOfNums (bx)), .string (strOfNums (digB uid.toNat)), .string (strOfNums (tt))] 9)).alloc (.cells #[.string ⟨#[65, 87, 65, 89]⟩] 9)).heap.size := HBA.out.size
    go_wp2_with (at_builtin; refine wpList_append_strs rfl (.tmp 17) (.tmp 18) 44 rfl z0 Tryz.underlying44 hi hz0 hz1 hz2 w.heap.size _ [bx, digB uid.toNat, tt] [awayW] 3 1 rfl rfl rfl HFA.out (w1.heap.size + 1) rfl HG2.out (by omega) sA ?_)
    intro v3 w3 hO3 hG3
    have HF3 : Hid (StrsV w3 v3 (copyT bx tt uid 1)) := by
      rw [HE.out]
      refine strs_of_row hO3 ?_
      intro s hs
      rcases List.mem_append.1 hs with h | h
      · exact HOC s h
      · simp only [List.mem_cons, List.not_mem_nil, or_false] at h
        subst h
        intro y hy
        simp only [awayW, List.mem_cons, List.not_mem_nil, or_false] at hy
        omega
    have HB3 : Hid (Below w.heap.size w w3) := HBA.out.grown hG3 HBA.out.size (fun q hq => (HFA.out.lt q hq).1)
    clear hO3 hG3 HFA HG2 HBA
    go_wp2
    go_ret
    exact ⟨_, rfl, HF3.out, HB3.out⟩
  · have HE : Hid (copyT bx tt uid mode = [bx, digB uid.toNat, tt]) := by simp [Hid, copyT, hm]
    go_wp2
    go_ret
    exact ⟨_, rfl, by rw [HE.out]; exact strs_of_row HF.out HOC, HBF.out⟩

end Go.Proofs.YtlegmiaoablcgaaGreatDoor

/- What forms of package impl does. -/
namespace Go.Proofs.YtlegmiaoablcgaaGreatDoor
open Go.RowKit
set_option linter.unusedVariables false

end Go.Proofs.YtlegmiaoablcgaaGreatDoor

/- What CmdText of package impl does, kinds 0, 1. -/
namespace Go.Proofs.YtlegmiaoablcgaaGreatDoor
open Go.RowKit
set_option maxRecDepth 100000
set_option linter.unusedVariables false

set_option maxRecDepth 100000 in
set_option maxHeartbeats 4000000 in
theorem implCmdText_0 (a0 a1 a2 : Option Addr) (n0 n1 n2 c0 c1 c2 : Nat) (bx tt : List Int) (uid mode fl si : Int) (tx : List Int) (w : World) (HV : Hid (∀ wi, Below w.heap.size w wi → CmdV wi (.agg #[.int .i64 0, .slice a0 n0 c0, .slice a1 n1 c1, .int .i64 uid, .int .i64 mode, .int .i64 fl, .int .i64 si, .slice a2 n2 c2]) 0 bx tt uid mode fl si tx)) (HO : Hid (∀ wi, Below w.heap.size w wi → Calls Tryz.prog 7 #[.agg #[.int .i64 0, .slice a0 n0 c0, .slice a1 n1 c1, .int .i64 uid, .int .i64 mode, .int .i64 fl, .int .i64 si, .slice a2 n2 c2]] wi fun e w' => e = .returned (.bool true) ∧ Below wi.heap.size wi w'))
    (ss : List (List Int)) (hsl : ss.length ≤ 100) (hst : ∀ s, s ∈ ss → s.length ≤ 1000)
    (HT : Hid (∀ wi, Below w.heap.size w wi → Calls Tryz.prog 33 #[.agg #[.int .i64 0, .slice a0 n0 c0, .slice a1 n1 c1, .int .i64 uid, .int .i64 mode, .int .i64 fl, .int .i64 si, .slice a2 n2 c2]] wi fun e w' => ∃ u, e = .returned u ∧ StrsV w' u ss ∧ Below wi.heap.size wi w')) :
    Calls Tryz.prog 5 #[.agg #[.int .i64 0, .slice a0 n0 c0, .slice a1 n1 c1, .int .i64 uid, .int .i64 mode, .int .i64 fl, .int .i64 si, .slice a2 n2 c2]] w fun e w' => ∃ u, e = .returned (.tuple #[u, .bool true]) ∧ Row w' w.heap.size w'.heap.size u (kindW 0 ++ ss.flatMap tokB) ∧ Below w.heap.size w w' := by
  have HX : Hid (Below w.heap.size w (w.alloc (.cells #[.int .i64 0, .slice a0 n0 c0, .slice a1 n1 c1, .int .i64 uid, .int .i64 mode, .int .i64 fl, .int .i64 si, .slice a2 n2 c2] 24))) := (Below.refl _ _).alloc (Nat.le_refl _) _
  have HK0 := box_new w (.cells #[.int .i64 0, .slice a0 n0 c0, .slice a1 n1 c1, .int .i64 uid, .int .i64 mode, .int .i64 fl, .int .i64 si, .slice a2 n2 c2] 24)
  go_enter Tryz.func5, Tryz.ntmps5
  go_wp2_with fail
  refine (HO.out _ HX.out).mono ?_
  rintro e A ⟨rfl, BA⟩
  have XA : Hid (Below w.heap.size w A) := Below.step HX.out BA
  have HK : Hid (A.heap[w.heap.size]? = some (.cells #[.int .i64 0, .slice a0 n0 c0, .slice a1 n1 c1, .int .i64 uid, .int .i64 mode, .int .i64 fl, .int .i64 si, .slice a2 n2 c2] 24)) := box_below BA HK0
  have hsA : w.heap.size ≤ A.heap.size := XA.out.size
  clear HK0 BA HX HO
  have HS : Hid (∀ w', Below A.heap.size A w' → w'.cell? ⟨w.heap.size, 0, none⟩ = some (.int .i64 0)) := fun w' h => (box8 (box_below h HK.out)).1
  have C0 : Below A.heap.size A A.drew := (Below.refl _ _).drew
  obtain ⟨f0, f1, f2, f3, f4, f5, f6, f7⟩ := box8 HK.out
  have hlA := lt_of_heap HK.out
  go_upto_region 3 with fail
  go_cut [4] (fun s wx => ∃ b, s = .pointer (some ⟨b, 0, none⟩) ∧ Hid (wx.heap[b]? = some (.cells #[.string ⟨#[67, 82, 69, 65, 84, 69]⟩, .func (.func 32) #[] #[], .func (.func 33) #[] #[]] 40 (0, 0))) ∧ Hid (Below A.heap.size A wx))
  case first =>
    clear f0 f1 f2 f3 f4 f5 f6 f7 hlA
    go_wp2
    refine wp_region_held_drew (S := fun w' => w'.cell? ⟨w.heap.size, 0, none⟩ = some (.int .i64 0)) (by kernel_rfl) (HS.out _ C0) (fun hHeld => (show wpAnyH _ _ _ _ _ 7 #[false, false, false, false, false, false, false] _ _ from ?_))
    refine tq 1 9 hHeld ?_
    refine tq 2 10 hHeld ?_
    generalize hwd : A.drew = wd at *
    refine wpAnyH_ready (rs := [0, 5]) (by kernel_rfl) (by simp) ?_
    refine AllReadyH.cons rfl (fun K hK => ?_) (AllReadyH.cons rfl (fun K hK => ?_) AllReadyH.nil)
    · go_simp
      refine (forms_r _).mono ?_
      rintro e w1 ⟨rfl, hw1⟩
      have B1 : Below wd.heap.size wd w1 := by rw [hw1]; exact (Below.refl _ _).alloc (Nat.le_refl _) _
      have KF1 : w1.heap[wd.heap.size]? = some formsO := by rw [hw1]; exact box_new wd _
      have D1 := Below.step C0 B1
      clear hw1
      refine hK.out _ _ (HS.out _ D1) (fun hHeld => ?_)
      clear hK K
      refine wpAnyH_more (S' := fun w' => (w'.cell? ⟨wd.heap.size, 0, none⟩ = some (.string ⟨#[67, 82, 69, 65, 84, 69]⟩) ∧ w'.cell? ⟨wd.heap.size, 1, none⟩ = some (.func (.func 32) #[] #[]) ∧ w'.cell? ⟨wd.heap.size, 2, none⟩ = some (.func (.func 33) #[] #[])) ∧ w'.cell? ⟨w.heap.size, 0, none⟩ = some (.int .i64 0)) (fun _ h => h.2) _ _ _ _ ?_
      replace hHeld := And.intro (formAt0 KF1) hHeld
      refine tq 3 11 hHeld ?_
      refine tq 4 12 hHeld ?_
      refine wpAnyH_ready (rs := [5]) (by kernel_rfl) (by simp) ?_
      refine AllReadyH.cons rfl (fun K hK => ?_) AllReadyH.nil
      go_simp
      have AB : Below w1.heap.size w1 (w1.alloc (.cells #[.string ⟨#[]⟩, .nilFunc, .nilFunc] 40)) := (Below.refl _ _).alloc (Nat.le_refl _) _
      have KV := box_new w1 (.cells #[.string ⟨#[]⟩, .nilFunc, .nilFunc] 40)
      have KF2 := box_below AB KF1
      have hne := lt_of_heap KF1
      have D2 := Below.step D1 AB
      refine hK.out _ _ (⟨formAt0 KF2, HS.out _ D2⟩) (fun hHeld => ?_)
      clear hK K
      generalize hwv : w1.alloc (.cells #[.string ⟨#[]⟩, .nilFunc, .nilFunc] 40) = w2 at *
      obtain ⟨oz, ol⟩ := box8z KV
      obtain ⟨o0, o1, o2⟩ := bx3s KV
      have hlv : A.heap.size ≤ w1.heap.size := D1.size
      have KW : (((w2.setCell ⟨w1.heap.size, 0, none⟩ (.string ⟨#[67, 82, 69, 65, 84, 69]⟩)).setCell ⟨w1.heap.size, 1, none⟩ (.func (.func 32) #[] #[])).setCell ⟨w1.heap.size, 2, none⟩ (.func (.func 33) #[] #[])).heap[w1.heap.size]? = some (.cells #[.string ⟨#[67, 82, 69, 65, 84, 69]⟩, .func (.func 32) #[] #[], .func (.func 33) #[] #[]] 40 (0, 0)) := box_set (i := 2) (box_set (i := 1) (box_set (i := 0) KV))
      have DW : Below A.heap.size A (((w2.setCell ⟨w1.heap.size, 0, none⟩ (.string ⟨#[67, 82, 69, 65, 84, 69]⟩)).setCell ⟨w1.heap.size, 1, none⟩ (.func (.func 32) #[] #[])).setCell ⟨w1.heap.size, 2, none⟩ (.func (.func 33) #[] #[])) := ((D2.setCell (p := ⟨w1.heap.size, 0, none⟩) hlv _).setCell (p := ⟨w1.heap.size, 1, none⟩) hlv _).setCell (p := ⟨w1.heap.size, 2, none⟩) hlv _
      have KFW := box_other (i := 2) (v := .func (.func 33) #[] #[]) (box_other (i := 1) (v := .func (.func 32) #[] #[]) (box_other (i := 0) (v := .string ⟨#[67, 82, 69, 65, 84, 69]⟩) KF2 (show wd.heap.size ≠ w1.heap.size by omega)) (show wd.heap.size ≠ w1.heap.size by omega)) (show wd.heap.size ≠ w1.heap.size by omega)
      have st1 := run_storeF (P := Tryz.prog) (w2.setCell ⟨w1.heap.size, 0, none⟩ (.string ⟨#[67, 82, 69, 65, 84, 69]⟩)) w1.heap.size 1 _ _ (.func (.func 32) #[] #[]) (box_set (i := 0) KV) (by simp) rfl
      have st2 := run_storeF (P := Tryz.prog) ((w2.setCell ⟨w1.heap.size, 0, none⟩ (.string ⟨#[67, 82, 69, 65, 84, 69]⟩)).setCell ⟨w1.heap.size, 1, none⟩ (.func (.func 32) #[] #[])) w1.heap.size 2 _ _ (.func (.func 33) #[] #[]) (box_set (i := 1) (box_set (i := 0) KV)) (by simp) rfl
      refine wpAnyH_ready (rs := [6]) (by kernel_rfl) (by simp) ?_
      refine AllReadyH.cons rfl (fun K hK => ?_) AllReadyH.nil
      go_simp
      refine hK.out _ _ (⟨formAt0 KFW, HS.out _ DW⟩) (fun hHeld => ?_)
      clear hK K
      refine wpAnyH_done (by kernel_rfl) ?_ _
      go_wp2
      go_meet
      case rel => exact ⟨w1.heap.size, rfl, KW, DW⟩
    · go_simp
      have AB : Below wd.heap.size wd (wd.alloc (.cells #[.string ⟨#[]⟩, .nilFunc, .nilFunc] 40)) := (Below.refl _ _).alloc (Nat.le_refl _) _
      have KV0 := box_new wd (.cells #[.string ⟨#[]⟩, .nilFunc, .nilFunc] 40)
      have hne := lt_of_heap KV0
      have D1 := Below.step C0 AB
      refine hK.out _ _ (HS.out _ D1) (fun hHeld => ?_)
      clear hK K
      generalize hwv : wd.alloc (.cells #[.string ⟨#[]⟩, .nilFunc, .nilFunc] 40) = w1 at *
      refine wpAnyH_ready (rs := [0]) (by kernel_rfl) (by simp) ?_
      refine AllReadyH.cons rfl (fun K hK => ?_) AllReadyH.nil
      go_simp
      refine (forms_r _).mono ?_
      rintro e w2 ⟨rfl, hw2⟩
      have B2 : Below w1.heap.size w1 w2 := by rw [hw2]; exact (Below.refl _ _).alloc (Nat.le_refl _) _
      have KF2 : w2.heap[w1.heap.size]? = some formsO := by rw [hw2]; exact box_new w1 _
      have D2 := Below.step D1 B2
      clear hw2
      have KV := box_below B2 KV0
      refine hK.out _ _ (HS.out _ D2) (fun hHeld => ?_)
      clear hK K
      refine wpAnyH_more (S' := fun w' => (w'.cell? ⟨w1.heap.size, 0, none⟩ = some (.string ⟨#[67, 82, 69, 65, 84, 69]⟩) ∧ w'.cell? ⟨w1.heap.size, 1, none⟩ = some (.func (.func 32) #[] #[]) ∧ w'.cell? ⟨w1.heap.size, 2, none⟩ = some (.func (.func 33) #[] #[])) ∧ w'.cell? ⟨w.heap.size, 0, none⟩ = some (.int .i64 0)) (fun _ h => h.2) _ _ _ _ ?_
      replace hHeld := And.intro (formAt0 KF2) hHeld
      refine tq 3 11 hHeld ?_
      refine tq 4 12 hHeld ?_
      obtain ⟨oz, ol⟩ := box8z KV
      obtain ⟨o0, o1, o2⟩ := bx3s KV
      have hlv : A.heap.size ≤ wd.heap.size := C0.size
      have KW : (((w2.setCell ⟨wd.heap.size, 0, none⟩ (.string ⟨#[67, 82, 69, 65, 84, 69]⟩)).setCell ⟨wd.heap.size, 1, none⟩ (.func (.func 32) #[] #[])).setCell ⟨wd.heap.size, 2, none⟩ (.func (.func 33) #[] #[])).heap[wd.heap.size]? = some (.cells #[.string ⟨#[67, 82, 69, 65, 84, 69]⟩, .func (.func 32) #[] #[], .func (.func 33) #[] #[]] 40 (0, 0)) := box_set (i := 2) (box_set (i := 1) (box_set (i := 0) KV))
      have DW : Below A.heap.size A (((w2.setCell ⟨wd.heap.size, 0, none⟩ (.string ⟨#[67, 82, 69, 65, 84, 69]⟩)).setCell ⟨wd.heap.size, 1, none⟩ (.func (.func 32) #[] #[])).setCell ⟨wd.heap.size, 2, none⟩ (.func (.func 33) #[] #[])) := ((D2.setCell (p := ⟨wd.heap.size, 0, none⟩) hlv _).setCell (p := ⟨wd.heap.size, 1, none⟩) hlv _).setCell (p := ⟨wd.heap.size, 2, none⟩) hlv _
      have KFW := box_other (i := 2) (v := .func (.func 33) #[] #[]) (box_other (i := 1) (v := .func (.func 32) #[] #[]) (box_other (i := 0) (v := .string ⟨#[67, 82, 69, 65, 84, 69]⟩) KF2 (show w1.heap.size ≠ wd.heap.size by omega)) (show w1.heap.size ≠ wd.heap.size by omega)) (show w1.heap.size ≠ wd.heap.size by omega)
      have st1 := run_storeF (P := Tryz.prog) (w2.setCell ⟨wd.heap.size, 0, none⟩ (.string ⟨#[67, 82, 69, 65, 84, 69]⟩)) wd.heap.size 1 _ _ (.func (.func 32) #[] #[]) (box_set (i := 0) KV) (by simp) rfl
      have st2 := run_storeF (P := Tryz.prog) ((w2.setCell ⟨wd.heap.size, 0, none⟩ (.string ⟨#[67, 82, 69, 65, 84, 69]⟩)).setCell ⟨wd.heap.size, 1, none⟩ (.func (.func 32) #[] #[])) wd.heap.size 2 _ _ (.func (.func 33) #[] #[]) (box_set (i := 1) (box_set (i := 0) KV)) (by simp) rfl
      refine wpAnyH_ready (rs := [6]) (by kernel_rfl) (by simp) ?_
      refine AllReadyH.cons rfl (fun K hK => ?_) AllReadyH.nil
      go_simp
      refine hK.out _ _ (⟨formAt0 KFW, HS.out _ DW⟩) (fun hHeld => ?_)
      clear hK K
      refine wpAnyH_done (by kernel_rfl) ?_ _
      go_wp2
      go_meet
      case rel => exact ⟨wd.heap.size, rfl, KW, DW⟩
  case rest =>
    obtain ⟨b4, rfl, K4, X4⟩ := hcut
    clear f0 f1 f2 f3 f4 f5 f6 f7 hlA HS C0
    have HS2 : Hid (∀ w', Below wc.heap.size wc w' → (w'.cell? ⟨b4, 0, none⟩ = some (.string ⟨#[67, 82, 69, 65, 84, 69]⟩) ∧ w'.cell? ⟨b4, 1, none⟩ = some (.func (.func 32) #[] #[]) ∧ w'.cell? ⟨b4, 2, none⟩ = some (.func (.func 33) #[] #[])) ∧ w'.cell? ⟨w.heap.size, 0, none⟩ = some (.int .i64 0) ∧ w'.cell? ⟨w.heap.size, 1, none⟩ = some (.slice a0 n0 c0) ∧ w'.cell? ⟨w.heap.size, 2, none⟩ = some (.slice a1 n1 c1) ∧ w'.cell? ⟨w.heap.size, 3, none⟩ = some (.int .i64 uid) ∧ w'.cell? ⟨w.heap.size, 4, none⟩ = some (.int .i64 mode) ∧ w'.cell? ⟨w.heap.size, 5, none⟩ = some (.int .i64 fl) ∧ w'.cell? ⟨w.heap.size, 6, none⟩ = some (.int .i64 si) ∧ w'.cell? ⟨w.heap.size, 7, none⟩ = some (.slice a2 n2 c2)) := by
      intro w' h
      obtain ⟨p0, p1, p2⟩ := bx3s (box_below h K4.out)
      exact ⟨⟨p0, p1, p2⟩, box8 (box_below h (box_below X4.out HK.out))⟩
    have XC : Hid (Below w.heap.size w wc) := Below.step XA.out X4.out
    have D0 : Below wc.heap.size wc wc.drew := (Below.refl _ _).drew
    have hsC := XC.out.size
    obtain ⟨p0, p1, p2⟩ := bx3s K4.out
    have hl4 := lt_of_heap K4.out
    obtain ⟨f0, f1, f2, f3, f4, f5, f6, f7⟩ := box8 (box_below X4.out HK.out)
    have hlA := lt_of_heap (box_below X4.out HK.out)
    go_wp2
    refine wp_region_held_drew (S := fun w' => (w'.cell? ⟨b4, 0, none⟩ = some (.string ⟨#[67, 82, 69, 65, 84, 69]⟩) ∧ w'.cell? ⟨b4, 1, none⟩ = some (.func (.func 32) #[] #[]) ∧ w'.cell? ⟨b4, 2, none⟩ = some (.func (.func 33) #[] #[])) ∧ w'.cell? ⟨w.heap.size, 0, none⟩ = some (.int .i64 0) ∧ w'.cell? ⟨w.heap.size, 1, none⟩ = some (.slice a0 n0 c0) ∧ w'.cell? ⟨w.heap.size, 2, none⟩ = some (.slice a1 n1 c1) ∧ w'.cell? ⟨w.heap.size, 3, none⟩ = some (.int .i64 uid) ∧ w'.cell? ⟨w.heap.size, 4, none⟩ = some (.int .i64 mode) ∧ w'.cell? ⟨w.heap.size, 5, none⟩ = some (.int .i64 fl) ∧ w'.cell? ⟨w.heap.size, 6, none⟩ = some (.int .i64 si) ∧ w'.cell? ⟨w.heap.size, 7, none⟩ = some (.slice a2 n2 c2)) (by kernel_rfl) (HS2.out _ D0) (fun hHeld => (show wpAnyH _ _ _ _ _ 9 #[false, false, false, false, false, false, false, false, false] _ _ from ?_))
    refine tq 0 13 hHeld ?_
    refine tq 1 14 hHeld ?_
    refine tq 2 15 hHeld ?_
    refine tq 3 16 hHeld ?_
    refine tq 4 17 hHeld ?_
    generalize hwd4 : wc.drew = wd4 at *
    refine wpAnyH_ready (rs := [5]) (by kernel_rfl) (by simp) ?_
    refine AllReadyH.cons rfl (fun K hK => ?_) AllReadyH.nil
    go_simp
    refine (HT.out _ (Below.step XC.out D0)).mono ?_
    rintro e w5 ⟨u5, rfl, R5, B5⟩
    have D5 := Below.step D0 B5
    refine hK.out _ _ (HS2.out _ D5) (fun hHeld => ?_)
    clear hK K
    refine wpAnyH_ready (rs := [6]) (by kernel_rfl) (by simp) ?_
    refine AllReadyH.cons rfl (fun K hK => ?_) AllReadyH.nil
    go_simp
    refine (putTokens_b w5.heap.size _ u5 [] (kindW 0) ss _ (OwnB.nil' _ _) (Nat.le_refl _) (by intro x hx; simp [kindW] at hx; omega) (fun wi h => R5.below keepsStr (h.below)) (by simp) (by decide) hsl hst).mono ?_
    rintro e w6 ⟨u6, rfl, R6, B6⟩
    have D6 : Below wc.heap.size wc w6 := Below.step D5 (B6.below)
    refine hK.out _ _ (HS2.out _ D6) (fun hHeld => ?_)
    clear hK K
    refine tq 7 2 hHeld ?_
    refine tq 8 3 hHeld ?_
    refine wpAnyH_done (by kernel_rfl) ?_ _
    have HF : Hid (Row w6 w.heap.size w6.heap.size u6 (kindW 0 ++ ss.flatMap tokB)) := by
      have h := R6.toRow
      have h5 := D5.size
      simp only [List.nil_append] at h
      exact h.wide (by omega) (Nat.le_refl _)
    have HB : Hid (Below w.heap.size w w6) := Below.step XC.out D6
    clear HS2 D0 D5 D6 R5 B5 R6 B6 hHeld
    go_wp2
    exact bodyPost_ret (v := .tuple #[u6, .bool true]) (by simp [results, Tryz.results5, go_sem]) rfl ⟨u6, rfl, HF.out, HB.out⟩

set_option maxRecDepth 100000 in
set_option maxHeartbeats 4000000 in
theorem implCmdText_1 (a0 a1 a2 : Option Addr) (n0 n1 n2 c0 c1 c2 : Nat) (bx tt : List Int) (uid mode fl si : Int) (tx : List Int) (w : World) (HV : Hid (∀ wi, Below w.heap.size w wi → CmdV wi (.agg #[.int .i64 1, .slice a0 n0 c0, .slice a1 n1 c1, .int .i64 uid, .int .i64 mode, .int .i64 fl, .int .i64 si, .slice a2 n2 c2]) 1 bx tt uid mode fl si tx)) (HO : Hid (∀ wi, Below w.heap.size w wi → Calls Tryz.prog 7 #[.agg #[.int .i64 1, .slice a0 n0 c0, .slice a1 n1 c1, .int .i64 uid, .int .i64 mode, .int .i64 fl, .int .i64 si, .slice a2 n2 c2]] wi fun e w' => e = .returned (.bool true) ∧ Below wi.heap.size wi w'))
    (ss : List (List Int)) (hsl : ss.length ≤ 100) (hst : ∀ s, s ∈ ss → s.length ≤ 1000)
    (HT : Hid (∀ wi, Below w.heap.size w wi → Calls Tryz.prog 33 #[.agg #[.int .i64 1, .slice a0 n0 c0, .slice a1 n1 c1, .int .i64 uid, .int .i64 mode, .int .i64 fl, .int .i64 si, .slice a2 n2 c2]] wi fun e w' => ∃ u, e = .returned u ∧ StrsV w' u ss ∧ Below wi.heap.size wi w')) :
    Calls Tryz.prog 5 #[.agg #[.int .i64 1, .slice a0 n0 c0, .slice a1 n1 c1, .int .i64 uid, .int .i64 mode, .int .i64 fl, .int .i64 si, .slice a2 n2 c2]] w fun e w' => ∃ u, e = .returned (.tuple #[u, .bool true]) ∧ Row w' w.heap.size w'.heap.size u (kindW 1 ++ ss.flatMap tokB) ∧ Below w.heap.size w w' := by
  have HX : Hid (Below w.heap.size w (w.alloc (.cells #[.int .i64 1, .slice a0 n0 c0, .slice a1 n1 c1, .int .i64 uid, .int .i64 mode, .int .i64 fl, .int .i64 si, .slice a2 n2 c2] 24))) := (Below.refl _ _).alloc (Nat.le_refl _) _
  have HK0 := box_new w (.cells #[.int .i64 1, .slice a0 n0 c0, .slice a1 n1 c1, .int .i64 uid, .int .i64 mode, .int .i64 fl, .int .i64 si, .slice a2 n2 c2] 24)
  go_enter Tryz.func5, Tryz.ntmps5
  go_wp2_with fail
  refine (HO.out _ HX.out).mono ?_
  rintro e A ⟨rfl, BA⟩
  have XA : Hid (Below w.heap.size w A) := Below.step HX.out BA
  have HK : Hid (A.heap[w.heap.size]? = some (.cells #[.int .i64 1, .slice a0 n0 c0, .slice a1 n1 c1, .int .i64 uid, .int .i64 mode, .int .i64 fl, .int .i64 si, .slice a2 n2 c2] 24)) := box_below BA HK0
  have hsA : w.heap.size ≤ A.heap.size := XA.out.size
  clear HK0 BA HX HO
  have HS : Hid (∀ w', Below A.heap.size A w' → w'.cell? ⟨w.heap.size, 0, none⟩ = some (.int .i64 1)) := fun w' h => (box8 (box_below h HK.out)).1
  have C0 : Below A.heap.size A A.drew := (Below.refl _ _).drew
  obtain ⟨f0, f1, f2, f3, f4, f5, f6, f7⟩ := box8 HK.out
  have hlA := lt_of_heap HK.out
  go_upto_region 3 with fail
  go_cut [4] (fun s wx => ∃ b, s = .pointer (some ⟨b, 0, none⟩) ∧ Hid (wx.heap[b]? = some (.cells #[.string ⟨#[68, 69, 76, 69, 84, 69]⟩, .func (.func 32) #[] #[], .func (.func 33) #[] #[]] 40 (0, 0))) ∧ Hid (Below A.heap.size A wx))
  case first =>
    clear f0 f1 f2 f3 f4 f5 f6 f7 hlA
    go_wp2
    refine wp_region_held_drew (S := fun w' => w'.cell? ⟨w.heap.size, 0, none⟩ = some (.int .i64 1)) (by kernel_rfl) (HS.out _ C0) (fun hHeld => (show wpAnyH _ _ _ _ _ 7 #[false, false, false, false, false, false, false] _ _ from ?_))
    refine tq 1 9 hHeld ?_
    refine tq 2 10 hHeld ?_
    generalize hwd : A.drew = wd at *
    refine wpAnyH_ready (rs := [0, 5]) (by kernel_rfl) (by simp) ?_
    refine AllReadyH.cons rfl (fun K hK => ?_) (AllReadyH.cons rfl (fun K hK => ?_) AllReadyH.nil)
    · go_simp
      refine (forms_r _).mono ?_
      rintro e w1 ⟨rfl, hw1⟩
      have B1 : Below wd.heap.size wd w1 := by rw [hw1]; exact (Below.refl _ _).alloc (Nat.le_refl _) _
      have KF1 : w1.heap[wd.heap.size]? = some formsO := by rw [hw1]; exact box_new wd _
      have D1 := Below.step C0 B1
      clear hw1
      refine hK.out _ _ (HS.out _ D1) (fun hHeld => ?_)
      clear hK K
      refine wpAnyH_more (S' := fun w' => (w'.cell? ⟨wd.heap.size, 3, none⟩ = some (.string ⟨#[68, 69, 76, 69, 84, 69]⟩) ∧ w'.cell? ⟨wd.heap.size, 4, none⟩ = some (.func (.func 32) #[] #[]) ∧ w'.cell? ⟨wd.heap.size, 5, none⟩ = some (.func (.func 33) #[] #[])) ∧ w'.cell? ⟨w.heap.size, 0, none⟩ = some (.int .i64 1)) (fun _ h => h.2) _ _ _ _ ?_
      replace hHeld := And.intro (formAt1 KF1) hHeld
      refine tq 3 11 hHeld ?_
      refine tq 4 12 hHeld ?_
      refine wpAnyH_ready (rs := [5]) (by kernel_rfl) (by simp) ?_
      refine AllReadyH.cons rfl (fun K hK => ?_) AllReadyH.nil
      go_simp
      have AB : Below w1.heap.size w1 (w1.alloc (.cells #[.string ⟨#[]⟩, .nilFunc, .nilFunc] 40)) := (Below.refl _ _).alloc (Nat.le_refl _) _
      have KV := box_new w1 (.cells #[.string ⟨#[]⟩, .nilFunc, .nilFunc] 40)
      have KF2 := box_below AB KF1
      have hne := lt_of_heap KF1
      have D2 := Below.step D1 AB
      refine hK.out _ _ (⟨formAt1 KF2, HS.out _ D2⟩) (fun hHeld => ?_)
      clear hK K
      generalize hwv : w1.alloc (.cells #[.string ⟨#[]⟩, .nilFunc, .nilFunc] 40) = w2 at *
      obtain ⟨oz, ol⟩ := box8z KV
      obtain ⟨o0, o1, o2⟩ := bx3s KV
      have hlv : A.heap.size ≤ w1.heap.size := D1.size
      have KW : (((w2.setCell ⟨w1.heap.size, 0, none⟩ (.string ⟨#[68, 69, 76, 69, 84, 69]⟩)).setCell ⟨w1.heap.size, 1, none⟩ (.func (.func 32) #[] #[])).setCell ⟨w1.heap.size, 2, none⟩ (.func (.func 33) #[] #[])).heap[w1.heap.size]? = some (.cells #[.string ⟨#[68, 69, 76, 69, 84, 69]⟩, .func (.func 32) #[] #[], .func (.func 33) #[] #[]] 40 (0, 0)) := box_set (i := 2) (box_set (i := 1) (box_set (i := 0) KV))
      have DW : Below A.heap.size A (((w2.setCell ⟨w1.heap.size, 0, none⟩ (.string ⟨#[68, 69, 76, 69, 84, 69]⟩)).setCell ⟨w1.heap.size, 1, none⟩ (.func (.func 32) #[] #[])).setCell ⟨w1.heap.size, 2, none⟩ (.func (.func 33) #[] #[])) := ((D2.setCell (p := ⟨w1.heap.size, 0, none⟩) hlv _).setCell (p := ⟨w1.heap.size, 1, none⟩) hlv _).setCell (p := ⟨w1.heap.size, 2, none⟩) hlv _
      have KFW := box_other (i := 2) (v := .func (.func 33) #[] #[]) (box_other (i := 1) (v := .func (.func 32) #[] #[]) (box_other (i := 0) (v := .string ⟨#[68, 69, 76, 69, 84, 69]⟩) KF2 (show wd.heap.size ≠ w1.heap.size by omega)) (show wd.heap.size ≠ w1.heap.size by omega)) (show wd.heap.size ≠ w1.heap.size by omega)
      have st1 := run_storeF (P := Tryz.prog) (w2.setCell ⟨w1.heap.size, 0, none⟩ (.string ⟨#[68, 69, 76, 69, 84, 69]⟩)) w1.heap.size 1 _ _ (.func (.func 32) #[] #[]) (box_set (i := 0) KV) (by simp) rfl
      have st2 := run_storeF (P := Tryz.prog) ((w2.setCell ⟨w1.heap.size, 0, none⟩ (.string ⟨#[68, 69, 76, 69, 84, 69]⟩)).setCell ⟨w1.heap.size, 1, none⟩ (.func (.func 32) #[] #[])) w1.heap.size 2 _ _ (.func (.func 33) #[] #[]) (box_set (i := 1) (box_set (i := 0) KV)) (by simp) rfl
      refine wpAnyH_ready (rs := [6]) (by kernel_rfl) (by simp) ?_
      refine AllReadyH.cons rfl (fun K hK => ?_) AllReadyH.nil
      go_simp
      refine hK.out _ _ (⟨formAt1 KFW, HS.out _ DW⟩) (fun hHeld => ?_)
      clear hK K
      refine wpAnyH_done (by kernel_rfl) ?_ _
      go_wp2
      go_meet
      case rel => exact ⟨w1.heap.size, rfl, KW, DW⟩
    · go_simp
      have AB : Below wd.heap.size wd (wd.alloc (.cells #[.string ⟨#[]⟩, .nilFunc, .nilFunc] 40)) := (Below.refl _ _).alloc (Nat.le_refl _) _
      have KV0 := box_new wd (.cells #[.string ⟨#[]⟩, .nilFunc, .nilFunc] 40)
      have hne := lt_of_heap KV0
      have D1 := Below.step C0 AB
      refine hK.out _ _ (HS.out _ D1) (fun hHeld => ?_)
      clear hK K
      generalize hwv : wd.alloc (.cells #[.string ⟨#[]⟩, .nilFunc, .nilFunc] 40) = w1 at *
      refine wpAnyH_ready (rs := [0]) (by kernel_rfl) (by simp) ?_
      refine AllReadyH.cons rfl (fun K hK => ?_) AllReadyH.nil
      go_simp
      refine (forms_r _).mono ?_
      rintro e w2 ⟨rfl, hw2⟩
      have B2 : Below w1.heap.size w1 w2 := by rw [hw2]; exact (Below.refl _ _).alloc (Nat.le_refl _) _
      have KF2 : w2.heap[w1.heap.size]? = some formsO := by rw [hw2]; exact box_new w1 _
      have D2 := Below.step D1 B2
      clear hw2
      have KV := box_below B2 KV0
      refine hK.out _ _ (HS.out _ D2) (fun hHeld => ?_)
      clear hK K
      refine wpAnyH_more (S' := fun w' => (w'.cell? ⟨w1.heap.size, 3, none⟩ = some (.string ⟨#[68, 69, 76, 69, 84, 69]⟩) ∧ w'.cell? ⟨w1.heap.size, 4, none⟩ = some (.func (.func 32) #[] #[]) ∧ w'.cell? ⟨w1.heap.size, 5, none⟩ = some (.func (.func 33) #[] #[])) ∧ w'.cell? ⟨w.heap.size, 0, none⟩ = some (.int .i64 1)) (fun _ h => h.2) _ _ _ _ ?_
      replace hHeld := And.intro (formAt1 KF2) hHeld
      refine tq 3 11 hHeld ?_
      refine tq 4 12 hHeld ?_
      obtain ⟨oz, ol⟩ := box8z KV
      obtain ⟨o0, o1, o2⟩ := bx3s KV
      have hlv : A.heap.size ≤ wd.heap.size := C0.size
      have KW : (((w2.setCell ⟨wd.heap.size, 0, none⟩ (.string ⟨#[68, 69, 76, 69, 84, 69]⟩)).setCell ⟨wd.heap.size, 1, none⟩ (.func (.func 32) #[] #[])).setCell ⟨wd.heap.size, 2, none⟩ (.func (.func 33) #[] #[])).heap[wd.heap.size]? = some (.cells #[.string ⟨#[68, 69, 76, 69, 84, 69]⟩, .func (.func 32) #[] #[], .func (.func 33) #[] #[]] 40 (0, 0)) := box_set (i := 2) (box_set (i := 1) (box_set (i := 0) KV))
      have DW : Below A.heap.size A (((w2.setCell ⟨wd.heap.size, 0, none⟩ (.string ⟨#[68, 69, 76, 69, 84, 69]⟩)).setCell ⟨wd.heap.size, 1, none⟩ (.func (.func 32) #[] #[])).setCell ⟨wd.heap.size, 2, none⟩ (.func (.func 33) #[] #[])) := ((D2.setCell (p := ⟨wd.heap.size, 0, none⟩) hlv _).setCell (p := ⟨wd.heap.size, 1, none⟩) hlv _).setCell (p := ⟨wd.heap.size, 2, none⟩) hlv _
      have KFW := box_other (i := 2) (v := .func (.func 33) #[] #[]) (box_other (i := 1) (v := .func (.func 32) #[] #[]) (box_other (i := 0) (v := .string ⟨#[68, 69, 76, 69, 84, 69]⟩) KF2 (show w1.heap.size ≠ wd.heap.size by omega)) (show w1.heap.size ≠ wd.heap.size by omega)) (show w1.heap.size ≠ wd.heap.size by omega)
      have st1 := run_storeF (P := Tryz.prog) (w2.setCell ⟨wd.heap.size, 0, none⟩ (.string ⟨#[68, 69, 76, 69, 84, 69]⟩)) wd.heap.size 1 _ _ (.func (.func 32) #[] #[]) (box_set (i := 0) KV) (by simp) rfl
      have st2 := run_storeF (P := Tryz.prog) ((w2.setCell ⟨wd.heap.size, 0, none⟩ (.string ⟨#[68, 69, 76, 69, 84, 69]⟩)).setCell ⟨wd.heap.size, 1, none⟩ (.func (.func 32) #[] #[])) wd.heap.size 2 _ _ (.func (.func 33) #[] #[]) (box_set (i := 1) (box_set (i := 0) KV)) (by simp) rfl
      refine wpAnyH_ready (rs := [6]) (by kernel_rfl) (by simp) ?_
      refine AllReadyH.cons rfl (fun K hK => ?_) AllReadyH.nil
      go_simp
      refine hK.out _ _ (⟨formAt1 KFW, HS.out _ DW⟩) (fun hHeld => ?_)
      clear hK K
      refine wpAnyH_done (by kernel_rfl) ?_ _
      go_wp2
      go_meet
      case rel => exact ⟨wd.heap.size, rfl, KW, DW⟩
  case rest =>
    obtain ⟨b4, rfl, K4, X4⟩ := hcut
    clear f0 f1 f2 f3 f4 f5 f6 f7 hlA HS C0
    have HS2 : Hid (∀ w', Below wc.heap.size wc w' → (w'.cell? ⟨b4, 0, none⟩ = some (.string ⟨#[68, 69, 76, 69, 84, 69]⟩) ∧ w'.cell? ⟨b4, 1, none⟩ = some (.func (.func 32) #[] #[]) ∧ w'.cell? ⟨b4, 2, none⟩ = some (.func (.func 33) #[] #[])) ∧ w'.cell? ⟨w.heap.size, 0, none⟩ = some (.int .i64 1) ∧ w'.cell? ⟨w.heap.size, 1, none⟩ = some (.slice a0 n0 c0) ∧ w'.cell? ⟨w.heap.size, 2, none⟩ = some (.slice a1 n1 c1) ∧ w'.cell? ⟨w.heap.size, 3, none⟩ = some (.int .i64 uid) ∧ w'.cell? ⟨w.heap.size, 4, none⟩ = some (.int .i64 mode) ∧ w'.cell? ⟨w.heap.size, 5, none⟩ = some (.int .i64 fl) ∧ w'.cell? ⟨w.heap.size, 6, none⟩ = some (.int .i64 si) ∧ w'.cell? ⟨w.heap.size, 7, none⟩ = some (.slice a2 n2 c2)) := by
      intro w' h
      obtain ⟨p0, p1, p2⟩ := bx3s (box_below h K4.out)
      exact ⟨⟨p0, p1, p2⟩, box8 (box_below h (box_below X4.out HK.out))⟩
    have XC : Hid (Below w.heap.size w wc) := Below.step XA.out X4.out
    have D0 : Below wc.heap.size wc wc.drew := (Below.refl _ _).drew
    have hsC := XC.out.size
    obtain ⟨p0, p1, p2⟩ := bx3s K4.out
    have hl4 := lt_of_heap K4.out
    obtain ⟨f0, f1, f2, f3, f4, f5, f6, f7⟩ := box8 (box_below X4.out HK.out)
    have hlA := lt_of_heap (box_below X4.out HK.out)
    go_wp2
    refine wp_region_held_drew (S := fun w' => (w'.cell? ⟨b4, 0, none⟩ = some (.string ⟨#[68, 69, 76, 69, 84, 69]⟩) ∧ w'.cell? ⟨b4, 1, none⟩ = some (.func (.func 32) #[] #[]) ∧ w'.cell? ⟨b4, 2, none⟩ = some (.func (.func 33) #[] #[])) ∧ w'.cell? ⟨w.heap.size, 0, none⟩ = some (.int .i64 1) ∧ w'.cell? ⟨w.heap.size, 1, none⟩ = some (.slice a0 n0 c0) ∧ w'.cell? ⟨w.heap.size, 2, none⟩ = some (.slice a1 n1 c1) ∧ w'.cell? ⟨w.heap.size, 3, none⟩ = some (.int .i64 uid) ∧ w'.cell? ⟨w.heap.size, 4, none⟩ = some (.int .i64 mode) ∧ w'.cell? ⟨w.heap.size, 5, none⟩ = some (.int .i64 fl) ∧ w'.cell? ⟨w.heap.size, 6, none⟩ = some (.int .i64 si) ∧ w'.cell? ⟨w.heap.size, 7, none⟩ = some (.slice a2 n2 c2)) (by kernel_rfl) (HS2.out _ D0) (fun hHeld => (show wpAnyH _ _ _ _ _ 9 #[false, false, false, false, false, false, false, false, false] _ _ from ?_))
    refine tq 0 13 hHeld ?_
    refine tq 1 14 hHeld ?_
    refine tq 2 15 hHeld ?_
    refine tq 3 16 hHeld ?_
    refine tq 4 17 hHeld ?_
    generalize hwd4 : wc.drew = wd4 at *
    refine wpAnyH_ready (rs := [5]) (by kernel_rfl) (by simp) ?_
    refine AllReadyH.cons rfl (fun K hK => ?_) AllReadyH.nil
    go_simp
    refine (HT.out _ (Below.step XC.out D0)).mono ?_
    rintro e w5 ⟨u5, rfl, R5, B5⟩
    have D5 := Below.step D0 B5
    refine hK.out _ _ (HS2.out _ D5) (fun hHeld => ?_)
    clear hK K
    refine wpAnyH_ready (rs := [6]) (by kernel_rfl) (by simp) ?_
    refine AllReadyH.cons rfl (fun K hK => ?_) AllReadyH.nil
    go_simp
    refine (putTokens_b w5.heap.size _ u5 [] (kindW 1) ss _ (OwnB.nil' _ _) (Nat.le_refl _) (by intro x hx; simp [kindW] at hx; omega) (fun wi h => R5.below keepsStr (h.below)) (by simp) (by decide) hsl hst).mono ?_
    rintro e w6 ⟨u6, rfl, R6, B6⟩
    have D6 : Below wc.heap.size wc w6 := Below.step D5 (B6.below)
    refine hK.out _ _ (HS2.out _ D6) (fun hHeld => ?_)
    clear hK K
    refine tq 7 2 hHeld ?_
    refine tq 8 3 hHeld ?_
    refine wpAnyH_done (by kernel_rfl) ?_ _
    have HF : Hid (Row w6 w.heap.size w6.heap.size u6 (kindW 1 ++ ss.flatMap tokB)) := by
      have h := R6.toRow
      have h5 := D5.size
      simp only [List.nil_append] at h
      exact h.wide (by omega) (Nat.le_refl _)
    have HB : Hid (Below w.heap.size w w6) := Below.step XC.out D6
    clear HS2 D0 D5 D6 R5 B5 R6 B6 hHeld
    go_wp2
    exact bodyPost_ret (v := .tuple #[u6, .bool true]) (by simp [results, Tryz.results5, go_sem]) rfl ⟨u6, rfl, HF.out, HB.out⟩

end Go.Proofs.YtlegmiaoablcgaaGreatDoor
