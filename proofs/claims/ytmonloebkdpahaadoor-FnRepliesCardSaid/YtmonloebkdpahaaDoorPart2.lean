/- The proof's texts, part 2. -/
import Derived.Test.YtmonloebkdpahaaDoorPart1
import Derived.WalkKit
import Derived.Deep.RegionHeld3
import Derived.Deep.RegionLaw

/- What l4word of package spec does behind bytes that may have been made of a string. -/
namespace Go.Proofs.YtmonloebkdpahaaDoor
open Go.RowKit
set_option maxRecDepth 100000
set_option linter.unusedVariables false

theorem grow_trans {w w1 w2 : World} {g g2 : Nat} (h : w.grownBy w1 (some g)) (k : w1.grownBy w2 (some g2)) (hg : g2 = g ∨ w.heap.size ≤ g2) : w.grownBy w2 (some g) :=
  ⟨k.os.trans h.os, k.tape.trans h.tape, k.output.trans h.output, Nat.le_trans h.size k.size, fun b hb hn => (k.block b (Nat.lt_of_lt_of_le hb h.size) (by rcases hg with rfl | hg; exact hn; simp; omega)).trans (h.block b hb hn)⟩
theorem grow_below {w w' : World} (h : Below w.heap.size w w') (g : Option Nat) : w.grownBy w' g := ⟨h.os, h.tape, h.output, h.size, fun b hb _ => h.block b hb⟩

set_option maxRecDepth 100000 in
set_option maxHeartbeats 1000000 in
theorem l4word_q (g : Nat) (v wv : Value) (l wd : List Int) (w : World) (hv : OwnQ w g v l) (hs : Bs w wv wd) (hn : wv.ownBlock ≠ some g) (h0 : 0 < l.length) (hl : l.length ≤ 1000000) (hwl : wd.length ≤ 1000000) :
    Calls Tryd.prog 18 #[v, wv] w fun e w' => ∃ u g', e = .returned u ∧ OwnQ w' g' u (l ++ [32] ++ wd) ∧ w.grownBy w' (some g) ∧ (g' = g ∨ w.heap.size ≤ g') := by
  have HN : Hid (wv.ownBlock ≠ some g) := hn
  obtain ⟨wa, wn, wc, rfl⟩ := hs.form3
  obtain ⟨cap, rfl⟩ := hv.form
  have h0' : (0 : Int) < (l.length : Int) := by omega
  have AB : Below w.heap.size w (w.alloc (.cells #[.int .u8 32] 5)) := (Below.refl _ _).alloc (Nat.le_refl _) _
  have HA : Hid (w.grownBy (w.alloc (.cells #[.int .u8 32] 5)) (some g)) := grow_below AB _
  have HOA : Hid (OwnQ (w.alloc (.cells #[.int .u8 32] 5)) g (.slice (some ⟨g, 0, none⟩) l.length cap) l) := hv.below AB
  have HSA : Hid (Bs (w.alloc (.cells #[.int .u8 32] 5)) (.slice wa wn wc) wd) := hs.below AB
  clear hv hs AB hn
  obtain ⟨i0, hi, hz0, hz1, hz2⟩ := info_parts info5
  go_enter Tryd.func18, Tryd.ntmps18
  go_wp2_with (at_builtin; refine wpList_appendQ rfl (.tmp 8) (.tmp 9) 22 rfl i0 Tryd.underlying22 hi hz0 hz1 hz2 g _ _ rfl HOA.out _ [32] rfl (bs_one _ _ (by omega)) (by simp only [List.length_cons, List.length_nil]; omega) ?_)
  intro v2 w2 g2 hO2 hG2 hg2
  have HO2 : Hid (OwnQ w2 g2 v2 (l ++ [32])) := by simpa [Hid] using hO2
  have HG : Hid (g2 = g ∨ w.heap.size ≤ g2) := by
    rcases hg2 with h | h
    · exact .inl h
    · right; (first | omega | (simp at h; omega))
  have HT2 : Hid (w.grownBy w2 (some g)) := grow_trans HA.out hG2 (.inl rfl)
  have HW : Hid (Bs w2 (.slice wa wn wc) wd) := HSA.out.grown hG2 HN.out
  clear hO2 hG2 hg2 HA HOA HSA
  go_wp2_with (at_builtin; refine wpList_appendQ rfl (.tmp 11) (.tmp 12) 22 rfl i0 Tryd.underlying22 hi hz0 hz1 hz2 g2 _ _ rfl HO2.out _ wd rfl HW.out (by simp only [List.length_append, List.length_cons, List.length_nil]; omega) ?_)
  intro v3 w3 g3 hO3 hG3 hg3
  have HO3 : Hid (OwnQ w3 g3 v3 (l ++ [32] ++ wd)) := by simpa [Hid] using hO3
  have HT3 : Hid (w.grownBy w3 (some g)) := grow_trans HT2.out hG3 HG.out
  have HG3 : Hid (g3 = g ∨ w.heap.size ≤ g3) := by
    have hs2 := HT2.out.size
    rcases hg3 with h | h
    · rw [h]; exact HG.out
    · right; omega
  clear hO3 hG3 hg3 HT2 HO2 HW HG
  go_wp2
  go_ret
  exact ⟨_, _, rfl, HO3.out, HT3.out, HG3.out⟩

end Go.Proofs.YtmonloebkdpahaaDoor

/- What l4digits, l4quoted, l4flags of package spec do. -/
namespace Go.Proofs.YtmonloebkdpahaaDoor
open Go.RowKit
set_option maxRecDepth 100000
set_option linter.unusedVariables false

set_option maxRecDepth 100000 in
set_option maxHeartbeats 1000000 in
theorem l4digits_r (n : Nat) (hn : n ≤ 9999999) (w : World) :
    Calls Tryd.prog 20 #[.int .i64 n] w fun e w' => ∃ u, e = .returned u ∧ OwnB w' w.heap.size u (digB n) ∧ Below w.heap.size w w' := by
  induction n using Nat.strongRecOn generalizing w with
  | ind n ih =>
    obtain ⟨i0, hi, hz0, hz1, hz2⟩ := info_parts info5
    by_cases h : n < 10
    · have h' : (n : Int) < 10 := by omega
      have HO : Hid (OwnB (w.alloc (.cells #[.int .u8 (48 + (n : Int))] 5)) w.heap.size (.slice (some ⟨w.heap.size, 0, none⟩) 1 1) (digB n)) := by rw [digB_small h]; exact ownB_one w _ (Nat.le_refl _) _ (by omega)
      clear ih
      go_enter Tryd.func20, Tryd.ntmps20
      go_wp2
      go_ret
      exact ⟨_, rfl, HO.out, (Below.refl _ _).alloc (Nat.le_refl _) _⟩
    · have h' : ¬ (n : Int) < 10 := by omega
      have hq : (n : Int) / 10 = ((n / 10 : Nat) : Int) := by omega
      have hr : (n : Int) % 10 = ((n % 10 : Nat) : Int) := by omega
      have HD : Hid (digB n = digB (n / 10) ++ [48 + ((n % 10 : Nat) : Int)]) := digB_big h
      have hc := ih (n / 10) (by omega) (by omega) w
      have hlen := digB_len10 (show n / 10 ≤ 9999999 by omega)
      clear ih
      generalize hQ : n / 10 = Q at hq hc HD hlen
      generalize hR : n % 10 = R at hr HD
      have hRb : R < 10 := by omega
      go_enter Tryd.func20, Tryd.ntmps20
      go_wp2_with fail
      refine hc.mono ?_
      rintro e w1 ⟨u1, rfl, O1, B1⟩
      have s1 := B1.size
      have HO : Hid (OwnB w1 w.heap.size u1 (digB Q)) := O1
      have HB : Hid (Below w.heap.size w w1) := B1
      clear O1 B1 hc
      go_wp2_with (at_builtin; refine wpList_append_bytes rfl (.tmp 11) (.tmp 16) 22 rfl i0 Tryd.underlying22 hi hz0 hz1 hz2 w.heap.size _ _ rfl (HO.out.alloc _) _ [48 + (R : Int)] rfl (bs_one _ _ (by omega)) (by simp; omega) (by simp; omega) w (HB.out.alloc s1 _) ?_)
      intro v2 w2 hO2 hB2 _
      have HO2 : Hid (OwnB w2 w.heap.size v2 (digB n)) := by rw [HD.out]; exact hO2
      clear hO2
      go_wp2
      go_ret
      exact ⟨_, rfl, HO2.out, hB2⟩

set_option maxHeartbeats 1000000 in
theorem l4quoted_r (v : Value) (t : List Int) (w : World) (hv : Bs w v t) (ht : t.length ≤ 2000000) :
    Calls Tryd.prog 23 #[v] w fun e w' => ∃ u, e = .returned u ∧ OwnB w' w.heap.size u (quoB t) ∧ Below w.heap.size w w' := by
  have HV : Hid (∀ wi, Below w.heap.size w wi → Bs wi v t) := fun wi h => hv.below h
  obtain ⟨ho, a, cap, rfl, hlc, hcm, -⟩ := hv
  unfold maxLen at hcm
  obtain ⟨i0, hi, hz0, hz1, hz2⟩ := info_parts info5
  have H0 : Hid (OwnB (w.alloc (.cells #[.int .u8 34] 5)) w.heap.size (.slice (some ⟨w.heap.size, 0, none⟩) 1 1) ([34] ++ (t.take 0).flatMap escB)) := by simpa [Hid] using ownB_one w _ (Nat.le_refl _) 34 (by omega)
  have HB : Hid (Below w.heap.size w (w.alloc (.cells #[.int .u8 34] 5))) := (Below.refl _ _).alloc (Nat.le_refl _) _
  go_enter Tryd.func23, Tryd.ntmps23
  go_wp2
  go_loopw [3, 4] (fun b i wr => ∃ k : Nat, k ≤ t.length ∧ i = .int .i64 k ∧ Hid (OwnB wr w.heap.size b ([34] ++ (t.take k).flatMap escB)) ∧ Hid (Below w.heap.size w wr)) (fun _ i _ => t.length - (intOf i).toNat)
  case atStart => exact ⟨0, Nat.zero_le _, rfl, H0, HB⟩
  case round =>
    clear H0 HB
    obtain ⟨k, hk, rfl, hO, hB⟩ := hrel
    have hsz := hB.out.size
    have hfl := flat_len escB 2 (t.take k) (fun x _ => escB_len x)
    have htk : (t.take k).length ≤ 2000000 := by simp; omega
    by_cases hlt : k < t.length
    · obtain ⟨x, hx⟩ : ∃ x, t[k]? = some x := ⟨t[k], List.getElem?_eq_getElem hlt⟩
      have hxo : 0 ≤ x ∧ x ≤ 255 := ho x (List.mem_of_getElem? hx)
      have HST : Hid ((t.take (k + 1)).flatMap escB = (t.take k).flatMap escB ++ escB x) := flat_step escB hx
      obtain ⟨ho', a', cap', hv', -, -, -, hcells⟩ := HV.out wr hB.out
      simp only [Value.slice.injEq, true_and] at hv'
      obtain ⟨rfl, rfl⟩ := hv'
      obtain ⟨b, off, rfl, hlb, hc⟩ := hcells (by omega)
      have d0 := hc k hlt
      rw [List.getD_eq_getElem?_getD, hx, Option.getD_some] at d0
      clear hcells hc ho'
      by_cases he : x = 34 ∨ x = 92
      · have HE : Hid (escB x = [92, x]) := by simp only [Hid, escB, if_pos he]
        rcases he with rfl | rfl
        all_goals
          go_wp2_with (at_builtin; refine wpList_append_bytes rfl (.tmp 24) (.tmp 25) 22 rfl i0 Tryd.underlying22 hi hz0 hz1 hz2 w.heap.size _ _ rfl (hO.out.alloc _) _ [92] rfl (bs_one _ _ (by omega)) (by simp only [List.length_append, List.length_cons, List.length_nil]; omega) (by simp; omega) w (hB.out.alloc hsz _) ?_)
          intro v2 w2 hO2 hB2 _
          have s2 := hB2.size
          have HO2 : Hid (OwnB w2 w.heap.size v2 ([34] ++ (t.take k).flatMap escB ++ [92])) := by simpa [Hid] using hO2
          obtain ⟨_, a', cap', hv', -, -, -, hcells⟩ := HV.out w2 hB2
          simp only [Value.slice.injEq, true_and] at hv'
          obtain ⟨rfl, rfl⟩ := hv'
          obtain ⟨b2, off2, hb2, hlb2, hc2⟩ := hcells (by omega)
          simp only [Option.some.injEq, Addr.mk.injEq, and_true] at hb2
          obtain ⟨rfl, rfl⟩ := hb2
          have d2 := hc2 k hlt
          rw [List.getD_eq_getElem?_getD, hx, Option.getD_some] at d2
          clear hO2 d0 hcells hc2 hO hB hlb
          go_wp2_with (at_builtin; refine wpList_append_bytes rfl (.tmp 27) (.tmp 32) 22 rfl i0 Tryd.underlying22 hi hz0 hz1 hz2 w.heap.size _ _ rfl (HO2.out.alloc _) _ _ rfl (bs_one _ _ (by omega)) (by simp only [List.length_append, List.length_cons, List.length_nil]; omega) (by simp; omega) w (hB2.alloc s2 _) ?_)
          intro v3 w3 hO3 hB3 _
          have HO3 : Hid (OwnB w3 w.heap.size v3 ([34] ++ (t.take (k + 1)).flatMap escB)) := by
            rw [HST.out, HE.out]
            simpa [Hid, show List.range 1 = [0] from rfl, show List.range 2 = [0, 1] from rfl, show List.range 3 = [0, 1, 2] from rfl, show List.range 4 = [0, 1, 2, 3] from rfl] using hO3
          clear hO3
          go_wp2
          go_roundw
          case rel => exact ⟨k + 1, by omega, by go_num, HO3, hB3⟩
          case measure => simp [intOf]; omega
      · have HE : Hid (escB x = [x]) := by simp only [Hid, escB, if_neg he]
        have h34 : x ≠ 34 := by omega
        have h92 : x ≠ 92 := by omega
        have b34 : (x == 34) = false := by simp [h34]
        have b92 : (x == 92) = false := by simp [h92]
        go_wp2_with (at_builtin; refine wpList_append_bytes rfl (.tmp 27) (.tmp 32) 22 rfl i0 Tryd.underlying22 hi hz0 hz1 hz2 w.heap.size _ _ rfl (hO.out.alloc _) _ [x] rfl (bs_one _ _ (by omega)) (by simp only [List.length_append, List.length_cons, List.length_nil]; omega) (by simp; omega) w (hB.out.alloc hsz _) ?_)
        intro v3 w3 hO3 hB3 _
        have HO3 : Hid (OwnB w3 w.heap.size v3 ([34] ++ (t.take (k + 1)).flatMap escB)) := by
          rw [HST.out, HE.out]
          simpa [Hid] using hO3
        clear hO3
        go_wp2
        go_roundw
        case rel => exact ⟨k + 1, by omega, by go_num, HO3, hB3⟩
        case measure => simp [intOf]; omega
    · obtain rfl : k = t.length := by omega
      go_wp2_with (at_builtin; refine wpList_append_bytes rfl (.tmp 34) (.tmp 35) 22 rfl i0 Tryd.underlying22 hi hz0 hz1 hz2 w.heap.size _ _ rfl (hO.out.alloc _) _ [34] rfl (bs_one _ _ (by omega)) (by simp only [List.length_append, List.length_cons, List.length_nil]; omega) (by simp; omega) w (hB.out.alloc hsz _) ?_)
      intro v2 w2 hO2 hB2 _
      have HO2 : Hid (OwnB w2 w.heap.size v2 (quoB t)) := by simpa [Hid, quoB] using hO2
      clear hO2
      go_wp2
      go_ret
      exact ⟨_, rfl, HO2.out, hB2⟩

theorem bit_one : ∀ x : Nat, x ≤ 31 → (bits BinOp.and IntKind.i64 (x : Int) 1 == 1) = decide (x % 2 = 1) := by
  intro x hx
  have h : ∀ x : Fin 32, (bits BinOp.and IntKind.i64 ((x : Nat) : Int) 1 == 1) = decide ((x : Nat) % 2 = 1) := by decide +kernel
  exact h ⟨x, by omega⟩
set_option maxRecDepth 100000 in
set_option maxHeartbeats 1000000 in
theorem l4flags_r (f : Nat) (hf : f ≤ 31) (w : World) :
    Calls Tryd.prog 22 #[.int .i64 f] w fun e w' => ∃ u, e = .returned u ∧ OwnB w' w.heap.size u (flagsB f) ∧ Below w.heap.size w w' := by
  obtain ⟨i0, hi, hz0, hz1, hz2⟩ := info_parts info5
  have H0 : Hid (OwnB (w.alloc (.cells #[.int .u8 40] 5)) w.heap.size (.slice (some ⟨w.heap.size, 0, none⟩) 1 1) ([40] ++ (List.range 0).flatMap (flagAt f))) := by simpa [Hid] using ownB_one w _ (Nat.le_refl _) 40 (by omega)
  have HB : Hid (Below w.heap.size w (w.alloc (.cells #[.int .u8 40] 5))) := (Below.refl _ _).alloc (Nat.le_refl _) _
  go_enter Tryd.func22, Tryd.ntmps22
  go_wp2
  go_loopw [3, 4] (fun b i wr => ∃ k : Nat, k ≤ 5 ∧ i = .int .i64 k ∧ Hid (OwnB wr w.heap.size b ([40] ++ (List.range k).flatMap (flagAt f))) ∧ Hid (Below w.heap.size w wr)) (fun _ i _ => 5 - (intOf i).toNat)
  case atStart => exact ⟨0, Nat.zero_le _, rfl, H0, HB⟩
  case round =>
    clear H0 HB
    obtain ⟨k, hk, rfl, hO, hB⟩ := hrel
    have hsz := hB.out.size
    have hfl := flat_len (flagAt f) 1 (List.range k) (fun x _ => flagAt_len f x)
    simp only [List.length_range] at hfl
    by_cases hlt : k < 5
    · have HST : Hid ((List.range (k + 1)).flatMap (flagAt f) = (List.range k).flatMap (flagAt f) ++ flagAt f k) := range5_step f k
      have hsmall : ∀ P : Nat, 0 < P → f / P ≤ 31 := fun P hp => Nat.le_trans (Nat.div_le_self _ _) hf
      obtain rfl | rfl | rfl | rfl | rfl : k = 0 ∨ k = 1 ∨ k = 2 ∨ k = 3 ∨ k = 4 := by omega
      · have hE : flagAt f 0 = (if f % 2 = 1 then [83] else []) := by simp [flagAt, letB]
        have hb : (bits BinOp.and IntKind.i64 (f : Int) 1 == 1) = decide (f % 2 = 1) := by
          have h := bit_one (f) (hf)
          simpa using h
        by_cases hc : f % 2 = 1
        · rw [if_pos hc] at hE
          rw [decide_eq_true hc] at hb
          have HE : Hid (flagAt f 0 = [83]) := hE
          clear hE
          go_wp2_with (at_builtin; refine wpList_append_bytes rfl (.tmp 15) (.tmp 18) 22 rfl i0 Tryd.underlying22 hi hz0 hz1 hz2 w.heap.size _ _ rfl (hO.out.alloc _) _ [83] rfl (bs_one _ 83 (by omega)) (by simp only [List.length_append, List.length_cons, List.length_nil]; omega) (by simp; omega) w (hB.out.alloc hsz _) ?_)
          intro v3 w3 hO3 hB3 _
          have HO3 : Hid (OwnB w3 w.heap.size v3 ([40] ++ (List.range (0 + 1)).flatMap (flagAt f))) := by
            rw [HST.out, HE.out]
            simpa [Hid, show List.range 1 = [0] from rfl, show List.range 2 = [0, 1] from rfl, show List.range 3 = [0, 1, 2] from rfl, show List.range 4 = [0, 1, 2, 3] from rfl] using hO3
          clear hO3
          go_wp2
          go_roundw
          case rel => exact ⟨0 + 1, by omega, by go_num, HO3, hB3⟩
          case measure => simp [intOf]
        · rw [if_neg hc] at hE
          rw [decide_eq_false hc] at hb
          have HEQ : Hid ([40] ++ (List.range 0).flatMap (flagAt f) = [40] ++ (List.range (0 + 1)).flatMap (flagAt f)) := by rw [Hid, HST.out, hE, List.append_nil]
          clear hE
          go_wp2
          go_roundw
          case rel => exact ⟨0 + 1, by omega, by go_num, by rw [← HEQ.out]; exact hO, hB⟩
          case measure => simp [intOf]
      · have hE : flagAt f 1 = (if f / 2 % 2 = 1 then [65] else []) := by simp [flagAt, letB]
        have hb : (bits BinOp.and IntKind.i64 ((f : Int) / 2) 1 == 1) = decide (f / 2 % 2 = 1) := by
          have h := bit_one (f / 2) (hsmall 2 (by omega))
          simpa using h
        by_cases hc : f / 2 % 2 = 1
        · rw [if_pos hc] at hE
          rw [decide_eq_true hc] at hb
          have HE : Hid (flagAt f 1 = [65]) := hE
          clear hE
          go_wp2_with (at_builtin; refine wpList_append_bytes rfl (.tmp 15) (.tmp 18) 22 rfl i0 Tryd.underlying22 hi hz0 hz1 hz2 w.heap.size _ _ rfl (hO.out.alloc _) _ [65] rfl (bs_one _ 65 (by omega)) (by simp only [List.length_append, List.length_cons, List.length_nil]; omega) (by simp; omega) w (hB.out.alloc hsz _) ?_)
          intro v3 w3 hO3 hB3 _
          have HO3 : Hid (OwnB w3 w.heap.size v3 ([40] ++ (List.range (1 + 1)).flatMap (flagAt f))) := by
            rw [HST.out, HE.out]
            simpa [Hid, show List.range 1 = [0] from rfl, show List.range 2 = [0, 1] from rfl, show List.range 3 = [0, 1, 2] from rfl, show List.range 4 = [0, 1, 2, 3] from rfl] using hO3
          clear hO3
          go_wp2
          go_roundw
          case rel => exact ⟨1 + 1, by omega, by go_num, HO3, hB3⟩
          case measure => simp [intOf]
        · rw [if_neg hc] at hE
          rw [decide_eq_false hc] at hb
          have HEQ : Hid ([40] ++ (List.range 1).flatMap (flagAt f) = [40] ++ (List.range (1 + 1)).flatMap (flagAt f)) := by rw [Hid, HST.out, hE, List.append_nil]
          clear hE
          go_wp2
          go_roundw
          case rel => exact ⟨1 + 1, by omega, by go_num, by rw [← HEQ.out]; exact hO, hB⟩
          case measure => simp [intOf]
      · have hE : flagAt f 2 = (if f / 4 % 2 = 1 then [70] else []) := by simp [flagAt, letB]
        have hb : (bits BinOp.and IntKind.i64 ((f : Int) / 4) 1 == 1) = decide (f / 4 % 2 = 1) := by
          have h := bit_one (f / 4) (hsmall 4 (by omega))
          simpa using h
        by_cases hc : f / 4 % 2 = 1
        · rw [if_pos hc] at hE
          rw [decide_eq_true hc] at hb
          have HE : Hid (flagAt f 2 = [70]) := hE
          clear hE
          go_wp2_with (at_builtin; refine wpList_append_bytes rfl (.tmp 15) (.tmp 18) 22 rfl i0 Tryd.underlying22 hi hz0 hz1 hz2 w.heap.size _ _ rfl (hO.out.alloc _) _ [70] rfl (bs_one _ 70 (by omega)) (by simp only [List.length_append, List.length_cons, List.length_nil]; omega) (by simp; omega) w (hB.out.alloc hsz _) ?_)
          intro v3 w3 hO3 hB3 _
          have HO3 : Hid (OwnB w3 w.heap.size v3 ([40] ++ (List.range (2 + 1)).flatMap (flagAt f))) := by
            rw [HST.out, HE.out]
            simpa [Hid, show List.range 1 = [0] from rfl, show List.range 2 = [0, 1] from rfl, show List.range 3 = [0, 1, 2] from rfl, show List.range 4 = [0, 1, 2, 3] from rfl] using hO3
          clear hO3
          go_wp2
          go_roundw
          case rel => exact ⟨2 + 1, by omega, by go_num, HO3, hB3⟩
          case measure => simp [intOf]
        · rw [if_neg hc] at hE
          rw [decide_eq_false hc] at hb
          have HEQ : Hid ([40] ++ (List.range 2).flatMap (flagAt f) = [40] ++ (List.range (2 + 1)).flatMap (flagAt f)) := by rw [Hid, HST.out, hE, List.append_nil]
          clear hE
          go_wp2
          go_roundw
          case rel => exact ⟨2 + 1, by omega, by go_num, by rw [← HEQ.out]; exact hO, hB⟩
          case measure => simp [intOf]
      · have hE : flagAt f 3 = (if f / 8 % 2 = 1 then [68] else []) := by simp [flagAt, letB]
        have hb : (bits BinOp.and IntKind.i64 ((f : Int) / 8) 1 == 1) = decide (f / 8 % 2 = 1) := by
          have h := bit_one (f / 8) (hsmall 8 (by omega))
          simpa using h
        by_cases hc : f / 8 % 2 = 1
        · rw [if_pos hc] at hE
          rw [decide_eq_true hc] at hb
          have HE : Hid (flagAt f 3 = [68]) := hE
          clear hE
          go_wp2_with (at_builtin; refine wpList_append_bytes rfl (.tmp 15) (.tmp 18) 22 rfl i0 Tryd.underlying22 hi hz0 hz1 hz2 w.heap.size _ _ rfl (hO.out.alloc _) _ [68] rfl (bs_one _ 68 (by omega)) (by simp only [List.length_append, List.length_cons, List.length_nil]; omega) (by simp; omega) w (hB.out.alloc hsz _) ?_)
          intro v3 w3 hO3 hB3 _
          have HO3 : Hid (OwnB w3 w.heap.size v3 ([40] ++ (List.range (3 + 1)).flatMap (flagAt f))) := by
            rw [HST.out, HE.out]
            simpa [Hid, show List.range 1 = [0] from rfl, show List.range 2 = [0, 1] from rfl, show List.range 3 = [0, 1, 2] from rfl, show List.range 4 = [0, 1, 2, 3] from rfl] using hO3
          clear hO3
          go_wp2
          go_roundw
          case rel => exact ⟨3 + 1, by omega, by go_num, HO3, hB3⟩
          case measure => simp [intOf]
        · rw [if_neg hc] at hE
          rw [decide_eq_false hc] at hb
          have HEQ : Hid ([40] ++ (List.range 3).flatMap (flagAt f) = [40] ++ (List.range (3 + 1)).flatMap (flagAt f)) := by rw [Hid, HST.out, hE, List.append_nil]
          clear hE
          go_wp2
          go_roundw
          case rel => exact ⟨3 + 1, by omega, by go_num, by rw [← HEQ.out]; exact hO, hB⟩
          case measure => simp [intOf]
      · have hE : flagAt f 4 = (if f / 16 % 2 = 1 then [82] else []) := by simp [flagAt, letB]
        have hb : (bits BinOp.and IntKind.i64 ((f : Int) / 16) 1 == 1) = decide (f / 16 % 2 = 1) := by
          have h := bit_one (f / 16) (hsmall 16 (by omega))
          simpa using h
        by_cases hc : f / 16 % 2 = 1
        · rw [if_pos hc] at hE
          rw [decide_eq_true hc] at hb
          have HE : Hid (flagAt f 4 = [82]) := hE
          clear hE
          go_wp2_with (at_builtin; refine wpList_append_bytes rfl (.tmp 15) (.tmp 18) 22 rfl i0 Tryd.underlying22 hi hz0 hz1 hz2 w.heap.size _ _ rfl (hO.out.alloc _) _ [82] rfl (bs_one _ 82 (by omega)) (by simp only [List.length_append, List.length_cons, List.length_nil]; omega) (by simp; omega) w (hB.out.alloc hsz _) ?_)
          intro v3 w3 hO3 hB3 _
          have HO3 : Hid (OwnB w3 w.heap.size v3 ([40] ++ (List.range (4 + 1)).flatMap (flagAt f))) := by
            rw [HST.out, HE.out]
            simpa [Hid, show List.range 1 = [0] from rfl, show List.range 2 = [0, 1] from rfl, show List.range 3 = [0, 1, 2] from rfl, show List.range 4 = [0, 1, 2, 3] from rfl] using hO3
          clear hO3
          go_wp2
          go_roundw
          case rel => exact ⟨4 + 1, by omega, by go_num, HO3, hB3⟩
          case measure => simp [intOf]
        · rw [if_neg hc] at hE
          rw [decide_eq_false hc] at hb
          have HEQ : Hid ([40] ++ (List.range 4).flatMap (flagAt f) = [40] ++ (List.range (4 + 1)).flatMap (flagAt f)) := by rw [Hid, HST.out, hE, List.append_nil]
          clear hE
          go_wp2
          go_roundw
          case rel => exact ⟨4 + 1, by omega, by go_num, by rw [← HEQ.out]; exact hO, hB⟩
          case measure => simp [intOf]
    · obtain rfl : k = 5 := by omega
      go_wp2_with (at_builtin; refine wpList_append_bytes rfl (.tmp 20) (.tmp 21) 22 rfl i0 Tryd.underlying22 hi hz0 hz1 hz2 w.heap.size _ _ rfl (hO.out.alloc _) _ _ rfl (bs_one _ _ (by omega)) (by simp only [List.length_append, List.length_cons, List.length_nil]; omega) (by simp; omega) w (hB.out.alloc hsz _) ?_)
      intro v2 w2 hO2 hB2 _
      have HO2 : Hid (OwnB w2 w.heap.size v2 (flagsB f)) := by simpa [Hid, flagsB, show List.range 5 = [0, 1, 2, 3, 4] from rfl] using hO2
      clear hO2
      go_wp2
      go_ret
      exact ⟨_, rfl, HO2.out, hB2⟩

end Go.Proofs.YtmonloebkdpahaaDoor

/- Names, texts and commands as plain lists and numbers: no program is named here. -/
namespace Go.Proofs.YtmonloebkdpahaaDoor

theorem ret_b {a b : Bool} (h : b = a) : Ending.returned (.bool a) = .returned (.bool b) := by rw [h]

/-- Every number of the list lies between two. -/
def allIn (lo hi : Int) (l : List Int) : Bool := l.all fun x => decide (lo ≤ x) && decide (x ≤ hi)
/-- A name: one to six small letters. -/
def nameB (l : List Int) : Bool := decide (1 ≤ l.length) && (decide (l.length ≤ 6) && allIn 97 122 l)
/-- A text: at most thirty bytes that can be seen. -/
def textB (l : List Int) : Bool := decide (l.length ≤ 30) && allIn 32 126 l
/-- A number lies between two. -/
def inB (n lo hi : Int) : Bool := decide (lo ≤ n) && decide (n ≤ hi)

theorem allIn_yes {lo hi : Int} {l : List Int} (h : ∀ j, j < l.length → lo ≤ l.getD j 0 ∧ l.getD j 0 ≤ hi) : allIn lo hi l = true := by
  unfold allIn
  rw [List.all_eq_true]
  intro x hx
  obtain ⟨j, hj, rfl⟩ := List.getElem_of_mem hx
  have := h j hj
  simp [hj] at this
  simp [this]
theorem allIn_no {lo hi : Int} {l : List Int} (j : Nat) (hj : j < l.length) (h : ¬ (lo ≤ l.getD j 0 ∧ l.getD j 0 ≤ hi)) : allIn lo hi l = false := by
  cases e : allIn lo hi l with
  | false => rfl
  | true =>
    exfalso
    unfold allIn at e
    rw [List.all_eq_true] at e
    have := e _ (List.getElem_mem hj)
    simp [hj] at h
    simp at this
    omega

theorem ret_i {k : IntKind} {a b : Int} (h : a = b) : Ending.returned (.int k a) = .returned (.int k b) := by rw [h]
/-- The place of the first that fits; -1 where there is none. -/
def firstI {α : Type} (p : α → Bool) (l : List α) : Int := match l.findIdx? p with | some i => i | none => -1
theorem firstI_hit {p : Int → Bool} {l : List Int} {k : Nat} (hk : k < l.length) (h : p (l.getD k 0) = true) (hA : ∀ j, j < k → p (l.getD j 0) = false) : firstI p l = k := by
  have : l.findIdx? p = some k := by
    rw [List.findIdx?_eq_some_iff_getElem]
    refine ⟨hk, by simpa [hk] using h, fun j hj => ?_⟩
    have := hA j hj
    simp [show j < l.length by omega] at this
    simp [this]
  simp [firstI, this]
theorem firstI_none {p : Int → Bool} {l : List Int} (hA : ∀ j, j < l.length → p (l.getD j 0) = false) : firstI p l = -1 := by
  have : l.findIdx? p = none := by
    rw [List.findIdx?_eq_none_iff]
    intro x hx
    obtain ⟨j, hj, rfl⟩ := List.getElem_of_mem hx
    have := hA j hj
    simpa [hj] using this
  simp [firstI, this]
theorem any_firstI {α : Type} (p : α → Bool) (l : List α) : l.any p = decide (0 ≤ firstI p l) := by
  unfold firstI
  cases h : l.findIdx? p with
  | none =>
    rw [List.findIdx?_eq_none_iff] at h
    simp only [show ¬ (0 : Int) ≤ -1 by omega, decide_false]
    rw [List.any_eq_false]
    intro x hx
    simp [h x hx]
  | some i =>
    rw [List.findIdx?_eq_some_iff_getElem] at h
    obtain ⟨hi, hp, -⟩ := h
    simp only [show (0 : Int) ≤ (i : Int) by omega, decide_true]
    rw [List.any_eq_true]
    exact ⟨_, List.getElem_mem hi, hp⟩

/-- Which kinds have a second name, a number of a mail, flags and how, a number of a change, a text. -/
def toB (k : Int) : Bool := decide (k = 6)
def uidB (k : Int) : Bool := decide (k = 3) || (decide (k = 5) || decide (k = 6))
def modeB (k : Int) : Bool := decide (k = 2) || (decide (k = 3) || decide (k = 6))
def sinceB (k : Int) : Bool := decide (k = 3) || decide (k = 8)
def textsB (k : Int) : Bool := decide (k = 2)

/-- A command that may be. -/
def cmdB (k : Int) (bx tt : List Int) (uid mode fl si : Int) (tx : List Int) : Bool :=
  decide (0 ≤ k ∧ k ≤ 9) && (if k = 9 then decide (bx.length = 0) else nameB bx) && (if k = 6 then nameB tt else decide (tt.length = 0)) &&
  (if k = 3 ∨ k = 5 ∨ k = 6 then inB uid 1 1000000 else decide (uid = 0)) && inB mode 0 (if k = 3 then 2 else if k = 6 then 1 else 0) &&
  inB fl 0 (if k = 2 ∨ k = 3 then 31 else 0) && inB si 0 (if k = 3 ∨ k = 8 then 1000000 else 0) && (if k = 2 then textB tx else decide (tx.length = 0))

theorem nameB_len {l : List Int} (h : nameB l = true) : 1 ≤ l.length ∧ l.length ≤ 6 := by unfold nameB at h; simp at h; exact ⟨h.1, h.2.1⟩
end Go.Proofs.YtmonloebkdpahaaDoor

/- Commands as texts, on lists. -/
namespace Go.Proofs.YtmonloebkdpahaaDoor
open Go.RowKit

end Go.Proofs.YtmonloebkdpahaaDoor

/- What l4kind of package spec does. -/
namespace Go.Proofs.YtmonloebkdpahaaDoor
open Go.RowKit
set_option linter.unusedVariables false

end Go.Proofs.YtmonloebkdpahaaDoor

/- Regions that draw their order, walked in the text's order: what each operation asks of the others is reckoned once for a region, in a table. -/
namespace Go.Proofs.YtmonloebkdpahaaDoor
set_option linter.unusedVariables false

/-- The operations of the region with this number. -/
def opsAt (id : Nat) : Code → Option (Array Oper)
  | .region i ops _ => if i == id then some ops else none
  | .seq a b => (opsAt id a).or (opsAt id b)
  | .cond _ a b => (opsAt id a).or (opsAt id b)
  | .block _ a => opsAt id a
  | .loop a => opsAt id a
  | _ => none

/-- The first i of n are listed. -/
def upto (n i : Nat) : Array Bool := (List.replicate i true ++ List.replicate (n - i) false).toArray
theorem upto_zero (n : Nat) : upto n 0 = Array.replicate n false := by simp [upto]
theorem upto_succ {n i : Nat} (h : i < n) : (upto n i).setIfInBounds i true = upto n (i + 1) := by
  have e : n - i = (n - (i + 1)) + 1 := by omega
  unfold upto
  rw [List.setIfInBounds_toArray]
  congr 1
  rw [List.set_append_right _ _ (by simp), List.length_replicate, Nat.sub_self, e, List.replicate_succ, List.set_cons_zero, List.replicate_succ', List.append_assoc]
  rfl

def statAt (ops : Array Oper) (n i : Nat) : Bool := Region.free .any ops (upto n i) i && (Region.ready .any ops (upto n i)).contains i
/-- cs: the operations that come up alone. -/
def table (ops : Array Oper) (n : Nat) (cs : List Nat) : Bool := (ops.size == n) && (Region.noSelect ops && ((List.range n).all (statAt ops n) && ((Region.ready .any ops (upto n n)).isEmpty && cs.all fun i => (Nat.blt i n) && (Region.ready .any ops (upto n i) == [i]))))

/-- The table's word, in a wrapping that no walk looks into. -/
structure Tab (ops : Array Oper) (n : Nat) (cs : List Nat) : Prop where
  out : table ops n cs = true

/-- What is left of the region when the first i operations are done. -/
def wpAt (P : Program) (ops : Array Oper) (Q : Exit → Act → World → Prop) (S : World → Prop) (n i : Nat) (a : Act) (w : World) : Prop := wpAnyH P .any ops Q S (n - i) (upto n i) a w

/-- Slot d filled: what 'put' does, in a form that computes by itself. -/
def setT (a : Act) (d : Nat) (v : Value) : Act := { a with tmps := (a.tmps.toList.set d v).toArray }
theorem put_setT (a : Act) (d : Nat) (v : Value) : a.put (some d) v = setT a d v := by
  unfold Act.put setT
  simp only
  congr 1
  exact Array.ext' (by simp)

section
variable {P : Program} {ops : Array Oper} {Q : Exit → Act → World → Prop} {S : World → Prop} {n : Nat} {cs : List Nat} {a : Act} {w : World}
theorem tab_of {c : Option Code} {id : Nat} (h : c.bind (opsAt id) = some ops) (T : (c.bind (opsAt id)).all (fun o => table o n cs) = true) : Tab ops n cs := by
  rw [h] at T; exact ⟨by simpa using T⟩
theorem table_parts (T' : Tab ops n cs) : ops.size = n ∧ Region.noSelect ops = true ∧ (∀ i, i < n → Region.free .any ops (upto n i) i = true ∧ (Region.ready .any ops (upto n i)).contains i = true) ∧ Region.ready .any ops (upto n n) = [] ∧ ∀ i, i ∈ cs → i < n ∧ Region.ready .any ops (upto n i) = [i] := by
  have T := T'.out
  simp only [table, Bool.and_eq_true, beq_iff_eq, List.all_eq_true, List.mem_range, statAt, List.isEmpty_iff, Nat.blt_eq] at T
  exact ⟨T.1, T.2.1, fun i hi => T.2.2.1 i hi, T.2.2.2.1, fun i hi => T.2.2.2.2 i hi⟩
theorem wp_begin {id : Nat} (T : Tab ops n cs) (hm : P.follows .mixedOrders = true) (hS : S w.drew) (h : Tab ops n cs → S w.drew → wpAt P ops Q S n 0 a w.drew) : Code.wp P (.region id ops true) Q a w := by
  refine wp_region_held_drew (S := S) hm hS fun hs => ?_
  obtain ⟨h1, -⟩ := table_parts T
  subst h1
  rw [← upto_zero]
  exact h T hs
/-- Operation i is taken; it is wanted. -/
theorem tkp (i d : Nat) {oi : Oper} (v : Value) (T : Tab ops n cs) (hy : ∀ w, S w → (execOp a.eval oi).run P w = .ok (.value v) w) (hS : S w) (h : wpAt P ops Q S n (i + 1) (setT a d v) w)
    (hi : ops[i]? = some oi := by rfl)
    (hg : (oi.dst == some d && Region.wanted oi (yielded ops a.tmps)) = true := by kernel_rfl)
    (hQ : ∀ c a w, Q (.panic c) (a.put (some d) v) w → Q (.panic c) a w := by exact fun _ _ _ h => h) : wpAt P ops Q S n i a w := by
  obtain ⟨h1, h2, h3, h4, h5⟩ := table_parts T
  have hlt : i < n := by have := (Array.getElem?_eq_some_iff.1 hi).1; omega
  simp only [Bool.and_eq_true, beq_iff_eq] at hg
  rw [← put_setT] at h
  unfold wpAt at h ⊢
  rw [show n - i = (n - (i + 1)) + 1 by omega]
  rw [← upto_succ hlt] at h
  exact wpAnyH_take hi h2 (h3 i hlt).1 (h3 i hlt).2 (by rw [hg.1]; exact hQ) (Or.inl ⟨hg.2, hy⟩) hS (by rw [hg.1]; exact h)
/-- None of these is wanted; ds: the slots that they would fill. -/
def skipsD (ops : Array Oper) : Nat → List Nat → Array Value → Bool
  | _, [], _ => true
  | i, d :: ds, tm => match ops[i]? with
    | some o => (o.dst == some d) && (!(Region.wanted o (yielded ops tm)) && skipsD ops (i + 1) ds (tm.toList.set d undef).toArray)
    | none => false
theorem skp (T : Tab ops n cs) (hQ : ∀ (d : Nat) v c a w, Q (.panic c) (a.put (some d) v) w → Q (.panic c) a w) (hS : S w) :
    ∀ (ds : List Nat) (i : Nat) (a : Act), skipsD ops i ds a.tmps = true → wpAt P ops Q S n (i + ds.length) (ds.foldl (fun a d => setT a d undef) a) w → wpAt P ops Q S n i a w
  | [], _, _, _, h => h
  | d :: ds, i, a, hk, h => by
    unfold skipsD at hk
    split at hk
    · rename_i o ho
      simp only [Bool.and_eq_true, beq_iff_eq, Bool.not_eq_true'] at hk
      obtain ⟨k1, k2, k3⟩ := hk
      obtain ⟨h1, h2, h3, h4, h5⟩ := table_parts T
      have hlt : i < n := by have := (Array.getElem?_eq_some_iff.1 ho).1; omega
      have hr := skp T hQ hS ds (i + 1) (setT a d undef) (by simpa [setT] using k3) (by rw [show i + 1 + ds.length = i + (d :: ds).length by simp; omega]; exact h)
      rw [← put_setT] at hr
      unfold wpAt at hr ⊢
      rw [show n - i = (n - (i + 1)) + 1 by omega]
      rw [← upto_succ hlt] at hr
      exact wpAnyH_take (v := undef) ho h2 (h3 i hlt).1 (h3 i hlt).2 (fun c a w => by rw [k1]; exact hQ d _ c a w) (Or.inr ⟨k2, rfl⟩) hS (by rw [k1]; exact hr)
    · cases hk
theorem skj {i j : Nat} (ds : List Nat) (hj : i + ds.length = j) (T : Tab ops n cs) (hQ : ∀ (d : Nat) v c a w, Q (.panic c) (a.put (some d) v) w → Q (.panic c) a w) (hS : S w) (hk : skipsD ops i ds a.tmps = true)
    (h : wpAt P ops Q S n j (ds.foldl (fun a d => setT a d undef) a) w) : wpAt P ops Q S n i a w := skp T hQ hS ds i a hk (by rw [hj]; exact h)
/-- Operation i is a call: it comes up alone. -/
theorem clp (i : Nat) (T : Tab ops n cs) (hi : i ∈ cs) (h : AllReadyH P .any ops Q S (n - (i + 1)) (upto n i) a w [i]) : wpAt P ops Q S n i a w := by
  obtain ⟨h1, h2, h3, h4, h5⟩ := table_parts T
  have hlt := (h5 i hi).1
  unfold wpAt
  rw [show n - i = (n - (i + 1)) + 1 by omega]
  exact wpAnyH_ready (h5 i hi).2 (by simp) h
theorem wpAt_in {i f : Nat} {l : Array Bool} (hlt : i < n) (hf : f = n - (i + 1)) (hl : l = (upto n i).setIfInBounds i true) (h : wpAt P ops Q S n (i + 1) a w) : wpAnyH P .any ops Q S f l a w := by
  subst hf hl
  rw [upto_succ hlt]
  exact h
theorem wp_end (T : Tab ops n cs) (h : Q .normal a w) : wpAt P ops Q S n n a w := by
  obtain ⟨h1, h2, h3, h4, h5⟩ := table_parts T
  exact wpAnyH_done h4 h _
end
theorem put0 {α : Type} (x : α) (l : List α) (a : α) : (x :: l).set 0 a = a :: l := rfl
theorem putS {α : Type} (x : α) (l : List α) (i : Nat) (a : α) : (x :: l).set (i + 1) a = x :: l.set i a := rfl

/-- 'tkp', what it yields and the state behind it found by themselves. -/
theorem tkq {P : Program} {ops : Array Oper} {Q : Exit → Act → World → Prop} {S : World → Prop} {n : Nat} {cs : List Nat} {a a' : Act} {w : World} (i d : Nat) {oi : Oper} {v : Value} (T : Tab ops n cs) (hS : S w) (h : wpAt P ops Q S n (i + 1) a' w)
    (hi : ops[i]? = some oi := by rfl)
    (hg : (oi.dst == some d && Region.wanted oi (yielded ops a.tmps)) = true := by kernel_rfl)
    (hy : ∀ w, S w → (execOp a.eval oi).run P w = .ok (.value v) w := by (intro w s; (try dsimp only at s); go_simp <;> with_reducible rfl))
    (ha : setT a d v = a' := by (conv => lhs; dsimp only [setT, List.toList_toArray, put0, putS]))
    (hQ : ∀ c a w, Q (.panic c) (a.put (some d) v) w → Q (.panic c) a w := by exact fun _ _ _ h => h) : wpAt P ops Q S n i a w :=
  tkp i d v T hy hS (by rw [ha]; exact h) hi hg hQ

end Go.Proofs.YtmonloebkdpahaaDoor

/- Regions that draw their order, walked in a given order: what each operation asks of the others is reckoned once for a region, in a table. -/
namespace Go.Proofs.YtmonloebkdpahaaDoor
set_option linter.unusedVariables false

/-- Which operations are done when the first p of the order are. -/
def doneA (n : Nat) (l : List Nat) : Array Bool := l.foldl (fun a i => a.setIfInBounds i true) (Array.replicate n false)
theorem doneA_step {n p i : Nat} {ord : List Nat} (h : ord[p]? = some i) : (doneA n (ord.take p)).setIfInBounds i true = doneA n (ord.take (p + 1)) := by
  have hp : p < ord.length := (List.getElem?_eq_some_iff.1 h).1
  rw [List.take_succ_eq_append_getElem hp, (List.getElem?_eq_some_iff.1 h).2]
  unfold doneA
  rw [List.foldl_append]
  rfl
/-- cs: the places of those that come up alone. -/
def tableO (ops : Array Oper) (n : Nat) (ord cs : List Nat) : Bool :=
  (ops.size == n) && ((ord.length == n) && (Region.noSelect ops && ((List.range n).all (fun p => match ord[p]? with
    | some i => cs.contains p || (Region.free .any ops (doneA n (ord.take p)) i && (Region.ready .any ops (doneA n (ord.take p))).contains i)
    | none => false) && ((Region.ready .any ops (doneA n (ord.take n))).isEmpty && cs.all fun p => match ord[p]? with
    | some i => Nat.blt p n && (Region.ready .any ops (doneA n (ord.take p)) == [i])
    | none => false))))

/-- What is left of the region when the first p operations of the order are done. -/
def wpOrd (P : Program) (ops : Array Oper) (Q : Exit → Act → World → Prop) (S : World → Prop) (n : Nat) (ord : List Nat) (p : Nat) (a : Act) (w : World) : Prop := wpAnyH P .any ops Q S (n - p) (doneA n (ord.take p)) a w

/-- The table's word, in a wrapping that no walk looks into. -/
structure TabO (ops : Array Oper) (n : Nat) (ord cs : List Nat) : Prop where
  out : tableO ops n ord cs = true

section
variable {P : Program} {ops : Array Oper} {Q : Exit → Act → World → Prop} {S : World → Prop} {n : Nat} {ord cs : List Nat} {a : Act} {w : World}
theorem tabO_of {c : Option Code} {id : Nat} (h : c.bind (opsAt id) = some ops) (T : (c.bind (opsAt id)).all (fun o => tableO o n ord cs) = true) : TabO ops n ord cs := by
  rw [h] at T; exact ⟨by simpa using T⟩
theorem tabO_parts (T' : TabO ops n ord cs) : ops.size = n ∧ ord.length = n ∧ Region.noSelect ops = true ∧ (∀ p i, ord[p]? = some i → ¬ p ∈ cs → Region.free .any ops (doneA n (ord.take p)) i = true ∧ (Region.ready .any ops (doneA n (ord.take p))).contains i = true) ∧ Region.ready .any ops (doneA n (ord.take n)) = [] ∧
    ∀ p i, p ∈ cs → ord[p]? = some i → p < n ∧ Region.ready .any ops (doneA n (ord.take p)) = [i] := by
  have T := T'.out
  simp only [tableO, Bool.and_eq_true, beq_iff_eq, List.all_eq_true, List.mem_range, List.isEmpty_iff] at T
  obtain ⟨h1, h2, h3, h4, h5, h6⟩ := T
  refine ⟨h1, h2, h3, fun p i hp hc => ?_, h5, fun p i hc hp => ?_⟩
  · have hlt : p < n := by have := (List.getElem?_eq_some_iff.1 hp).1; omega
    have := h4 p hlt
    rw [hp] at this
    simp only [Bool.or_eq_true, Bool.and_eq_true, List.contains_iff_mem] at this
    rcases this with h | h
    · exact absurd h hc
    · exact ⟨h.1, by simpa using h.2⟩
  · have := h6 p hc
    rw [hp] at this
    simp only [Bool.and_eq_true, beq_iff_eq, Nat.blt_eq] at this
    exact this
theorem wpO_begin {id : Nat} (T : TabO ops n ord cs) (hm : P.follows .mixedOrders = true) (hS : S w.drew) (h : TabO ops n ord cs → S w.drew → wpOrd P ops Q S n ord 0 a w.drew) : Code.wp P (.region id ops true) Q a w := by
  refine wp_region_held_drew (S := S) hm hS fun hs => ?_
  obtain ⟨h1, -⟩ := tabO_parts T
  subst h1
  exact h T hs
/-- The operation at place p of the order is taken; it is wanted. -/
theorem tko (p i d : Nat) {oi : Oper} (v : Value) (T : TabO ops n ord cs) (hy : ∀ w, S w → (execOp a.eval oi).run P w = .ok (.value v) w) (hS : S w) (h : wpOrd P ops Q S n ord (p + 1) (setT a d v) w)
    (hp : ord[p]? = some i := by rfl) (hc : ¬ p ∈ cs := by decide)
    (hi : ops[i]? = some oi := by rfl)
    (hg : (oi.dst == some d && Region.wanted oi (yielded ops a.tmps)) = true := by kernel_rfl)
    (hQ : ∀ c a w, Q (.panic c) (a.put (some d) v) w → Q (.panic c) a w := by exact fun _ _ _ h => h) : wpOrd P ops Q S n ord p a w := by
  obtain ⟨h1, h2, h3, h4, h5, h6⟩ := tabO_parts T
  have hlt : p < n := by have := (List.getElem?_eq_some_iff.1 hp).1; omega
  simp only [Bool.and_eq_true, beq_iff_eq] at hg
  rw [← put_setT] at h
  unfold wpOrd at h ⊢
  rw [show n - p = (n - (p + 1)) + 1 by omega]
  rw [← doneA_step hp] at h
  exact wpAnyH_take hi h3 (h4 p i hp hc).1 (h4 p i hp hc).2 (by rw [hg.1]; exact hQ) (Or.inl ⟨hg.2, hy⟩) hS (by rw [hg.1]; exact h)
/-- The operation at place p comes up alone: a call, or one that makes memory. -/
theorem clo (p i : Nat) (T : TabO ops n ord cs) (hc : p ∈ cs) (hp : ord[p]? = some i) (h : AllReadyH P .any ops Q S (n - (p + 1)) (doneA n (ord.take p)) a w [i]) : wpOrd P ops Q S n ord p a w := by
  obtain ⟨h1, h2, h3, h4, h5, h6⟩ := tabO_parts T
  have hlt := (h6 p i hc hp).1
  unfold wpOrd
  rw [show n - p = (n - (p + 1)) + 1 by omega]
  exact wpAnyH_ready (h6 p i hc hp).2 (by simp) h
theorem wpOrd_in {p i f : Nat} {l : Array Bool} (hp : ord[p]? = some i) (hf : f = n - (p + 1)) (hl : l = (doneA n (ord.take p)).setIfInBounds i true) (h : wpOrd P ops Q S n ord (p + 1) a w) : wpAnyH P .any ops Q S f l a w := by
  subst hf hl
  rw [doneA_step hp]
  exact h
theorem wpO_end (T : TabO ops n ord cs) (h : Q .normal a w) : wpOrd P ops Q S n ord n a w := by
  obtain ⟨h1, h2, h3, h4, h5, h6⟩ := tabO_parts T
  exact wpAnyH_done h5 h _
end

end Go.Proofs.YtmonloebkdpahaaDoor

/- In a region that draws its order: operations whose guards are not met are passed by together. -/
namespace Go.Proofs.YtmonloebkdpahaaDoor


/-- These operations may come up one behind the other, and none is wanted; ds: the slots that they would fill. -/
def skipsOk (md : Region.Mode) (ops : Array Oper) : List Nat → List Nat → Array Bool → Array Value → Bool
  | [], [], _, _ => true
  | i :: is, d :: ds, l, tm => match ops[i]? with
    | some o => (o.dst == some d) && (Region.free md ops l i && ((Region.ready md ops l).contains i && (!(Region.wanted o (yielded ops tm)) && skipsOk md ops is ds (l.setIfInBounds i true) (tm.setIfInBounds d undef))))
    | none => false
  | _, _, _, _ => false

theorem wpAnyH_skips {P : Program} {md : Region.Mode} {ops : Array Oper} {Q : Exit → Act → World → Prop} {S : World → Prop} {w : World} (hs : Region.noSelect ops = true)
    (hQ : ∀ (d : Nat) v c a w, Q (.panic c) (a.put (some d) v) w → Q (.panic c) a w) (hS : S w) :
    ∀ (is ds : List Nat) (l : Array Bool) (a : Act) (fuel : Nat), skipsOk md ops is ds l a.tmps = true →
      wpAnyH P md ops Q S fuel (is.foldl (fun l i => l.setIfInBounds i true) l) (ds.foldl (fun a d => a.put (some d) undef) a) w → wpAnyH P md ops Q S (fuel + is.length) l a w
  | [], [], _, _, _, _, h => h
  | [], _ :: _, _, _, _, hk, _ => by simp [skipsOk] at hk
  | _ :: _, [], _, _, _, hk, _ => by simp [skipsOk] at hk
  | i :: is, d :: ds, l, a, fuel, hk, h => by
    unfold skipsOk at hk
    split at hk
    · rename_i o ho
      simp only [Bool.and_eq_true, beq_iff_eq, Bool.not_eq_true'] at hk
      obtain ⟨h1, h2, h3, h4, h5⟩ := hk
      refine wpAnyH_take (fuel := fuel + is.length) (i := i) (oi := o) (v := undef) ho hs h2 h3 (fun c a w => by rw [h1]; exact hQ d _ c a w) (Or.inr ⟨h4, rfl⟩) hS ?_
      rw [h1]
      exact wpAnyH_skips hs hQ hS is ds _ _ fuel (by simpa [Act.put] using h5) h
    · cases hk

/-- One operation is taken first; the slot that it fills is named. -/
theorem wpAnyH_takeD {P : Program} {md : Region.Mode} {ops : Array Oper} {Q : Exit → Act → World → Prop} {S : World → Prop} {i : Nat} (d : Nat) {oi : Oper} {v : Value} {fuel : Nat} {listed : Array Bool} {a : Act} {w : World} (hi : ops[i]? = some oi)
    (hd : oi.dst = some d) (hs : Region.noSelect ops = true) (hf : Region.free md ops listed i = true) (hr : (Region.ready md ops listed).contains i = true)
    (hQ : ∀ c a w, Q (.panic c) (a.put (some d) v) w → Q (.panic c) a w) (hy : YieldsIf P ops S oi v a) (hS : S w)
    (h : wpAnyH P md ops Q S fuel (listed.setIfInBounds i true) (a.put (some d) v) w) : wpAnyH P md ops Q S (fuel + 1) listed a w :=
  wpAnyH_take hi hs hf hr (by rw [hd]; exact hQ) hy hS (by rw [hd]; exact h)

/-- The same, its side conditions in one Bool; short, for it is written often. -/
theorem tk {P : Program} {md : Region.Mode} {ops : Array Oper} {Q : Exit → Act → World → Prop} {S : World → Prop} (i d : Nat) {oi : Oper} (v : Value) {fuel : Nat} {listed : Array Bool} {a : Act} {w : World}
    (hy : ∀ w, S w → (execOp a.eval oi).run P w = .ok (.value v) w) (hS : S w) (h : wpAnyH P md ops Q S fuel (listed.setIfInBounds i true) (a.put (some d) v) w)
    (hi : ops[i]? = some oi := by rfl)
    (hc : (Region.noSelect ops && (Region.free md ops listed i && (Region.ready md ops listed).contains i)) = true := by decide +kernel)
    (hg : (oi.dst == some d && Region.wanted oi (yielded ops a.tmps)) = true := by kernel_rfl)
    (hQ : ∀ c a w, Q (.panic c) (a.put (some d) v) w → Q (.panic c) a w := by exact fun _ _ _ h => h) : wpAnyH P md ops Q S (fuel + 1) listed a w := by
  simp only [Bool.and_eq_true, beq_iff_eq] at hc hg
  obtain ⟨h2, h3, h4⟩ := hc
  obtain ⟨h1, h5⟩ := hg
  exact wpAnyH_takeD d hi h1 h2 h3 h4 hQ (Or.inl ⟨h5, hy⟩) hS h
theorem sA {α : Type} (l : List α) (i : Nat) (a : α) : l.toArray.setIfInBounds i a = (l.set i a).toArray := by simp
theorem s0 {α : Type} (x : α) (l : List α) (a : α) : (x :: l).set 0 a = a :: l := rfl
theorem sS {α : Type} (x : α) (l : List α) (i : Nat) (a : α) : (x :: l).set (i + 1) a = x :: l.set i a := rfl
/-- The same, what it yields and the state behind it found by themselves. -/
theorem tq {P : Program} {md : Region.Mode} {ops : Array Oper} {Q : Exit → Act → World → Prop} {S : World → Prop} (i d : Nat) {oi : Oper} {v : Value} {fuel : Nat} {listed : Array Bool} {a a' : Act} {w : World}
    (hS : S w) (h : wpAnyH P md ops Q S fuel (listed.setIfInBounds i true) a' w)
    (hi : ops[i]? = some oi := by rfl)
    (hc : (Region.noSelect ops && (Region.free md ops listed i && (Region.ready md ops listed).contains i)) = true := by decide +kernel)
    (hg : (oi.dst == some d && Region.wanted oi (yielded ops a.tmps)) = true := by kernel_rfl)
    (hy : ∀ w, S w → (execOp a.eval oi).run P w = .ok (.value v) w := by (intro w s; (try dsimp only at s); go_simp <;> with_reducible rfl))
    (ha : a.put (some d) v = a' := by (conv => lhs; simp only [Act.put, sA, s0, sS]))
    (hQ : ∀ c a w, Q (.panic c) (a.put (some d) v) w → Q (.panic c) a w := by exact fun _ _ _ h => h) : wpAnyH P md ops Q S (fuel + 1) listed a w :=
  tk i d v hy hS (by rw [ha]; exact h) hi hc hg hQ

end Go.Proofs.YtmonloebkdpahaaDoor

/- Commands in memory. -/
namespace Go.Proofs.YtmonloebkdpahaaDoor
open Go.RowKit

def I64 (n : Int) : Prop := -9223372036854775808 ≤ n ∧ n ≤ 9223372036854775807

/-- The value v reads as a command. -/
def CmdV (w : World) (v : Value) (k : Int) (bx tt : List Int) (uid mode fl si : Int) (tx : List Int) : Prop :=
  ∃ u0 u1 u2, v = .agg #[.int .i64 k, u0, u1, .int .i64 uid, .int .i64 mode, .int .i64 fl, .int .i64 si, u2] ∧ Bs w u0 bx ∧ Bs w u1 tt ∧ Bs w u2 tx ∧ I64 k ∧ I64 uid ∧ I64 mode ∧ I64 fl ∧ I64 si
theorem CmdV.below {w w' : World} {v : Value} {k : Int} {bx tt : List Int} {uid mode fl si : Int} {tx : List Int} (h : CmdV w v k bx tt uid mode fl si tx) (hb : Below w.heap.size w w') : CmdV w' v k bx tt uid mode fl si tx :=
  let ⟨u0, u1, u2, hv, h0, h1, h2, r⟩ := h; ⟨u0, u1, u2, hv, h0.below hb, h1.below hb, h2.below hb, r⟩

end Go.Proofs.YtmonloebkdpahaaDoor

/- Blocks that hold a struct: what the walk asks of them. -/
namespace Go.Proofs.YtmonloebkdpahaaDoor
open Go.RowKit

/-- A block of eight cells: what the walk asks of it. -/
theorem box8 {w : World} {g : Nat} {t : TypeId} {c0 c1 c2 c3 c4 c5 c6 c7 : Value} (h : w.heap[g]? = some (.cells #[c0, c1, c2, c3, c4, c5, c6, c7] t (0, 0))) :
    w.cell? ⟨g, 0, none⟩ = some c0 ∧ w.cell? ⟨g, 1, none⟩ = some c1 ∧ w.cell? ⟨g, 2, none⟩ = some c2 ∧ w.cell? ⟨g, 3, none⟩ = some c3 ∧ w.cell? ⟨g, 4, none⟩ = some c4 ∧ w.cell? ⟨g, 5, none⟩ = some c5 ∧ w.cell? ⟨g, 6, none⟩ = some c6 ∧ w.cell? ⟨g, 7, none⟩ = some c7 :=
  ⟨by rw [cell_of_row w g 0 _ t (0, 0) h]; rfl, by rw [cell_of_row w g 1 _ t (0, 0) h]; rfl, by rw [cell_of_row w g 2 _ t (0, 0) h]; rfl, by rw [cell_of_row w g 3 _ t (0, 0) h]; rfl,
   by rw [cell_of_row w g 4 _ t (0, 0) h]; rfl, by rw [cell_of_row w g 5 _ t (0, 0) h]; rfl, by rw [cell_of_row w g 6 _ t (0, 0) h]; rfl, by rw [cell_of_row w g 7 _ t (0, 0) h]; rfl⟩

end Go.Proofs.YtmonloebkdpahaaDoor

/- Commands of the call's own in memory; blocks of eight cells that are written. -/
namespace Go.Proofs.YtmonloebkdpahaaDoor
open Go.RowKit

/-- A command of the call's own: its three slices lie one behind the other in blocks from B on and below T. -/
def CmdR (w : World) (B T : Nat) (v : Value) (k : Int) (bx tt : List Int) (uid mode fl si : Int) (tx : List Int) : Prop :=
  ∃ u0 u1 u2 T0 T1, v = .agg #[.int .i64 k, u0, u1, .int .i64 uid, .int .i64 mode, .int .i64 fl, .int .i64 si, u2] ∧ Row w B T0 u0 bx ∧ Row w T0 T1 u1 tt ∧ Row w T1 T u2 tx ∧ B ≤ T0 ∧ T0 ≤ T1 ∧ T1 ≤ T ∧ I64 k ∧ I64 uid ∧ I64 mode ∧ I64 fl ∧ I64 si

section
variable {w w' : World} {B T B' T' : Nat} {x : Value} {k : Int} {bx tt : List Int} {uid mode fl si : Int} {tx : List Int}
theorem CmdR.v (h : CmdR w B T x k bx tt uid mode fl si tx) : CmdV w x k bx tt uid mode fl si tx :=
  let ⟨u0, u1, u2, _, _, hv, h0, h1, h2, _, _, _, r⟩ := h; ⟨u0, u1, u2, hv, h0.bs, h1.bs, h2.bs, r⟩
theorem CmdR.below (h : CmdR w B T x k bx tt uid mode fl si tx) (hb : Below w.heap.size w w') : CmdR w' B T x k bx tt uid mode fl si tx :=
  let ⟨u0, u1, u2, T0, T1, hv, h0, h1, h2, r⟩ := h; ⟨u0, u1, u2, T0, T1, hv, h0.below hb, h1.below hb, h2.below hb, r⟩
theorem CmdR.wide (h : CmdR w B T x k bx tt uid mode fl si tx) (hB : B' ≤ B) (hT : T ≤ T') : CmdR w B' T' x k bx tt uid mode fl si tx :=
  let ⟨u0, u1, u2, T0, T1, hv, h0, h1, h2, r0, r1, r2, r⟩ := h; ⟨u0, u1, u2, T0, T1, hv, h0.wide hB (Nat.le_refl _), h1, h2.wide (Nat.le_refl _) hT, by omega, r1, by omega, r⟩
end

theorem box8l {w : World} {g : Nat} {t : TypeId} {c0 c1 c2 c3 c4 c5 c6 c7 : Value} (h : w.heap[g]? = some (.cells #[c0, c1, c2, c3, c4, c5, c6, c7] t (0, 0))) :
    w.cell? ⟨g, 0, none⟩ = some c0 ∧ w.cell? ⟨g, 1, none⟩ = some c1 ∧ w.cell? ⟨g, 2, none⟩ = some c2 ∧ w.cell? ⟨g, 3, none⟩ = some c3 ∧ w.cell? ⟨g, 4, none⟩ = some c4 ∧ w.cell? ⟨g, 5, none⟩ = some c5 ∧ w.cell? ⟨g, 6, none⟩ = some c6 ∧ w.cell? ⟨g, 7, none⟩ = some c7 ∧ g < w.heap.size := by
  obtain ⟨f0, f1, f2, f3, f4, f5, f6, f7⟩ := box8 h
  exact ⟨f0, f1, f2, f3, f4, f5, f6, f7, lt_of_heap h⟩

/-- A block of eight cells that is written: its marks. -/
theorem box8z {w : World} {g : Nat} {t : TypeId} {cs : Array Value} (h : w.heap[g]? = some (.cells cs t (0, 0))) : (∀ i, w.frozen? ⟨g, i, none⟩ = false) ∧ g < w.heap.size :=
  ⟨fun i => frozen_of_row w g i _ t h, lt_of_heap h⟩
theorem box_set {w : World} {g i : Nat} {t : TypeId} {cs : Array Value} {v : Value} (h : w.heap[g]? = some (.cells cs t (0, 0))) : (w.setCell ⟨g, i, none⟩ v).heap[g]? = some (.cells (cs.setIfInBounds i v) t (0, 0)) := heap_setCell_same w g i _ t v h
theorem box_size {w : World} {g i : Nat} {v : Value} : (w.setCell ⟨g, i, none⟩ v).heap.size = w.heap.size := by simp [World.setCell]

end Go.Proofs.YtmonloebkdpahaaDoor

/- What the words of a line may be. -/
namespace Go.Proofs.YtmonloebkdpahaaDoor
open Go.RowKit

theorem digB_oct (n : Nat) : Oct (digB n) := ofU8_oct _
theorem flagsB_oct (f : Int) : Oct (flagsB f) := by
  intro y hy
  simp only [flagsB, List.mem_append, List.mem_cons, List.not_mem_nil, or_false, List.mem_flatMap, List.mem_range] at hy
  rcases hy with (rfl | ⟨i, hi, hy⟩) | rfl
  · omega
  · unfold flagAt at hy
    split at hy
    · simp only [List.mem_cons, List.not_mem_nil, or_false] at hy
      subst hy
      unfold letB
      split <;> omega
    · cases hy
  · omega
theorem flagsB_len (f : Int) : (flagsB f).length ≤ 7 := by
  have := flat_len (flagAt f) 1 (List.range 5) (fun x _ => flagAt_len f x)
  simp only [flagsB, List.length_append, List.length_cons, List.length_nil, List.length_range] at *
  omega
theorem quoB_oct {t : List Int} (h : Oct t) : Oct (quoB t) := by
  intro y hy
  simp only [quoB, List.mem_append, List.mem_cons, List.not_mem_nil, or_false, List.mem_flatMap] at hy
  rcases hy with (rfl | ⟨i, hi, hy⟩) | rfl
  · omega
  · have := h i hi
    unfold escB at hy
    split at hy <;> simp only [List.mem_cons, List.not_mem_nil, or_false] at hy <;> omega
  · omega
theorem quoB_len (t : List Int) : (quoB t).length ≤ 2 * t.length + 2 := by
  have := flat_len escB 2 t (fun x _ => escB_len x)
  simp only [quoB, List.length_append, List.length_cons, List.length_nil]
  omega

end Go.Proofs.YtmonloebkdpahaaDoor

/- A text that grows word by word: what is kept of it. -/
namespace Go.Proofs.YtmonloebkdpahaaDoor
open Go.RowKit
set_option linter.unusedVariables false

/-- The text v lies in block g, made behind A; all that A had is as it was. -/
def St (A wx : World) (g : Nat) (v : Value) (L : List Int) (n : Nat) : Prop := A.heap.size ≤ g ∧ OwnQ wx g v L ∧ Below A.heap.size A wx ∧ 0 < L.length ∧ L.length ≤ n
theorem St.own {A wx : World} {g : Nat} {v : Value} {L : List Int} {n : Nat} (h : St A wx g v L n) : OwnQ wx g v L := h.2.1
theorem St.old {A wx : World} {g : Nat} {v : Value} {L : List Int} {n : Nat} (h : St A wx g v L n) : Below A.heap.size A wx := h.2.2.1
theorem St.ge {A wx : World} {g : Nat} {v : Value} {L : List Int} {n : Nat} (h : St A wx g v L n) : A.heap.size ≤ g := h.1
theorem St.lt {A wx : World} {g : Nat} {v : Value} {L : List Int} {n : Nat} (h : St A wx g v L n) : g < wx.heap.size := h.2.1.lt
theorem St.below {A wx w' : World} {g : Nat} {v : Value} {L : List Int} {n : Nat} (h : St A wx g v L n) (hb : Below wx.heap.size wx w') : St A w' g v L n := ⟨h.1, h.2.1.below hb, Below.step h.2.2.1 hb, h.2.2.2⟩
theorem below_grownQ {A w w' : World} {g : Nat} (h : Below A.heap.size A w) (hg : w.grownBy w' (some g)) (hge : A.heap.size ≤ g) : Below A.heap.size A w' := h.grown hg h.size (fun k hk => by cases hk; exact hge)
theorem l4word_s (A : World) (g : Nat) (v wv : Value) (L wd : List Int) (n m : Nat) (w : World) (h : St A w g v L n) (hs : Bs w wv wd) (hn : wv.ownBlock ≠ some g) (hm : wd.length ≤ m) (hb : n + m ≤ 999999) :
    Calls Tryd.prog 18 #[v, wv] w fun e w' => ∃ u g', e = .returned u ∧ St A w' g' u (L ++ [32] ++ wd) (n + 1 + m) ∧ w.grownBy w' (some g) ∧ (g' = g ∨ w.heap.size ≤ g') := by
  have h0 := h.2.2.2
  refine (l4word_q g v wv L wd w h.own hs hn h0.1 (by omega) (by omega)).mono ?_
  rintro e w' ⟨u, g', rfl, hO, hG, hg⟩
  refine ⟨u, g', rfl, ⟨?_, hO, below_grownQ h.old hG h.ge, by simp; omega, by simp; omega⟩, hG, hg⟩
  have h1 := h.ge
  have h2 := h.old.size
  rcases hg with rfl | hg <;> omega
/-- A row that was made later than block g lies elsewhere. -/
theorem OwnB.ne {w : World} {B g : Nat} {v : Value} {l : List Int} (h : OwnB w B v l) (hg : g < B) : v.ownBlock ≠ some g := fun e => by have := (h.row.lt g e).1; omega
theorem bs_old_ne {w : World} {v : Value} {l : List Int} {g : Nat} (h : Bs w v l) (hg : w.heap.size ≤ g) (h0 : 0 < l.length) : v.ownBlock ≠ some g := by
  obtain ⟨_, a, cap, rfl, _, _, _, h4⟩ := h
  obtain ⟨b, off, rfl, hb, _⟩ := h4 h0
  simp only [Value.ownBlock, ne_eq, Option.some.injEq]
  omega
/-- The rest of a region under a stronger condition. -/
theorem wpAnyH_more {P : Program} {md : Region.Mode} {ops : Array Oper} {Q : Exit → Act → World → Prop} {S S' : World → Prop} (hS : ∀ w, S' w → S w) :
    ∀ (fuel : Nat) (l : Array Bool) (a : Act) (w : World), wpAnyH P md ops Q S' fuel l a w → wpAnyH P md ops Q S fuel l a w
  | 0, _, _, _, h => h
  | fuel + 1, _, _, _, h => ⟨h.1, fun i hi => wpOp_mono (fun a' w' h' => ⟨hS w' h'.1, wpAnyH_more hS fuel _ a' w' h'.2⟩) (h.2 i hi)⟩
theorem hidm {p : Prop} (h : p) : Hid p := h
theorem wpOrd_more {P : Program} {ops : Array Oper} {Q : Exit → Act → World → Prop} {S : World → Prop} {n p : Nat} {ord : List Nat} {a : Act} {w : World} (S' : World → Prop) (hS : ∀ w, S' w → S w) (h : wpOrd P ops Q S' n ord p a w) : wpOrd P ops Q S n ord p a w := wpAnyH_more hS _ _ _ _ h
theorem St.made {A wx : World} {g : Nat} {v : Value} {L : List Int} {n : Nat} (h : St A wx g v L n) : ∀ k, v.ownBlock = some k → A.heap.size ≤ k := by
  intro k hk
  obtain ⟨cap, rfl⟩ := h.own.form
  have e : g = k := by simpa [Value.ownBlock] using hk
  have := h.ge
  omega
theorem run_convert_str (s : List Int) (w : World) : (convert 9 22 (.string (strOfNums s))).run Tryd.prog w = .ok (.slice (some ⟨w.heap.size, 0, none⟩) s.length (grownCap w s.length 0 5)) (Lib.bytesWorld w 5 (strOfNums s)) := by
  have h := Lib.run_convert_string_bytes (P := Tryd.prog) w 9 22 5 (strOfNums s) Tryd.underlying9 Tryd.underlying22 Tryd.underlying5
  rwa [strOfNums_size] at h

/-- What '[]byte("..")' of a constant answers. -/
theorem lit_conv (W : World) (l : List Int) (hl : Oct l) (hn : l.length ≤ 1000) : ∃ w', (convert 22 22 (.slice (some ⟨W.heap.size, 0, none⟩) l.length l.length)).run Tryd.prog (W.alloc (.cells (vals l).toArray 5)) = .ok (.slice (some ⟨W.heap.size, 0, none⟩) l.length l.length) w' ∧
    OwnQ w' W.heap.size (.slice (some ⟨W.heap.size, 0, none⟩) l.length l.length) l ∧ Below W.heap.size W w' := by
  have hsh : (W.alloc (.cells (vals l).toArray 5)).shape? W.heap.size = some (5, (vals l).toArray.size) := by
    simp [World.shape?, World.alloc, -World.alloc_eq]
  refine ⟨(W.alloc (.cells (vals l).toArray 5)).freeze ⟨W.heap.size, (vals l).toArray.size, none⟩ 1, ?_, ⟨hl, l.length, (vals l).toArray, ((vals l).toArray.size, (vals l).toArray.size + 1), rfl, ?_, .inr (by simp [length_vals]), Nat.le_refl _, by unfold maxLen; omega, by simp [length_vals], by simp [List.take_of_length_le, length_vals]⟩, rfl, rfl, rfl, ?_, fun k hk => ?_⟩
  · simp [convert, run_underlying Tryd.underlying22, run_underlying Tryd.underlying5, markStringish, hsh, Result.andThen]
  · simp [World.freeze, World.alloc, -World.alloc_eq]
    rw [Array.getElem_modify_self]
    simp
  · simp [World.freeze, World.alloc, -World.alloc_eq]
  · have h1 : W.heap.size ≠ k := by omega
    simp [World.freeze, World.alloc, -World.alloc_eq, Array.getElem?_modify, Array.getElem?_push, h1, Ne.symm h1]
end Go.Proofs.YtmonloebkdpahaaDoor

/- What l3drawName and l3drawText of package spec do. -/
namespace Go.Proofs.YtmonloebkdpahaaDoor
open Go.RowKit
set_option maxRecDepth 100000
set_option linter.unusedVariables false
set_option linter.unusedSimpArgs false

section
variable {w w1 w2 : World} {g : Nat}
theorem gb_below' (h : w.grownBy w1 (some g)) (hb : Below w1.heap.size w1 w2) : w.grownBy w2 (some g) := ⟨hb.os.trans h.os, hb.tape.trans h.tape, hb.output.trans h.output, Nat.le_trans h.size hb.size, fun k hk hne => (hb.block k (Nat.lt_of_lt_of_le hk h.size)).trans (h.block k hk hne)⟩
theorem gb_trans' (h : w.grownBy w1 (some g)) (h2 : w1.grownBy w2 (some g)) : w.grownBy w2 (some g) := ⟨h2.os.trans h.os, h2.tape.trans h.tape, h2.output.trans h.output, Nat.le_trans h.size h2.size, fun k hk hne => (h2.block k (Nat.lt_of_lt_of_le hk h.size) hne).trans (h.block k hk hne)⟩
end
set_option maxRecDepth 100000 in
set_option maxHeartbeats 2000000 in
theorem l3drawName_any (w0 w : World) (g : Nat) (cv : Value) (L : List Int) (hc : Cur w0 w g cv L) :
    Calls Tryd.prog 75 #[.pointer (some ⟨g, 0, none⟩)] w fun e w' => ∃ u gq m, e = .returned u ∧ OwnQ w' gq u m ∧ w.heap.size ≤ gq ∧ nameB m = true ∧ Cur w0 w' g cv L ∧ w.grownBy w' (some g) := by
  have AB : Below w.heap.size w (w.alloc (.cells #[.string ⟨#[105, 110, 98, 111, 120]⟩, .string ⟨#[115, 101, 110, 116]⟩, .string ⟨#[116, 114, 97, 115, 104]⟩, .string ⟨#[97]⟩, .string ⟨#[98]⟩] 9)) := (Below.refl _ _).alloc (Nat.le_refl _) _
  have K0 := box_new w (.cells #[.string ⟨#[105, 110, 98, 111, 120]⟩, .string ⟨#[115, 101, 110, 116]⟩, .string ⟨#[116, 114, 97, 115, 104]⟩, .string ⟨#[97]⟩, .string ⟨#[98]⟩] 9)
  have hgl := hc.lt.2
  have hc0 := hc.below AB
  go_enter Tryd.func75, Tryd.ntmps75
  go_wp2_with fail
  refine (l1Below_any w0 _ g cv L 5 hc0 (by omega) (by omega)).mono ?_
  rintro e w1 ⟨x, rfl, hx0, hx1, hc1, hg1⟩
  have K1 : w1.heap[w.heap.size]? = _ := (hg1.block w.heap.size (lt_of_heap K0) (by simp; omega)).trans K0
  have hl1 := lt_of_heap K1
  have HC1 : Hid (Cur w0 w1 g cv L) := hc1
  have HG1 : Hid (w.grownBy w1 (some g)) := gb_trans' (gb_below' (World.grownBy.refl _ _) AB) hg1
  have hs1 := HG1.out.size
  clear hc hc0 hc1 hg1 AB K0
  obtain ⟨j, rfl⟩ := Int.eq_ofNat_of_zero_le hx0
  obtain rfl | rfl | rfl | rfl | rfl : j = 0 ∨ j = 1 ∨ j = 2 ∨ j = 3 ∨ j = 4 := by omega
  · have hcell : w1.cell? ⟨w.heap.size, 0, none⟩ = some (.string ⟨#[105, 110, 98, 111, 120]⟩) := by rw [cell_of_row w1 w.heap.size 0 _ _ (0, 0) K1]; rfl
    have hcv : (convert 9 22 (.string ⟨#[105, 110, 98, 111, 120]⟩)).run Tryd.prog w1 = .ok (.slice (some ⟨w1.heap.size, 0, none⟩) 5 (grownCap w1 5 0 5)) (Lib.bytesWorld w1 5 (strOfNums [105, 110, 98, 111, 120])) := run_convert_str [105, 110, 98, 111, 120] w1
    obtain ⟨q1, q2⟩ := bytesWorldQ w1 [105, 110, 98, 111, 120] (by intro x hx; simp at hx <;> omega) (by decide)
    have HQ : Hid (OwnQ (Lib.bytesWorld w1 5 (strOfNums [105, 110, 98, 111, 120])) w1.heap.size (.slice (some ⟨w1.heap.size, 0, none⟩) 5 (grownCap w1 5 0 5)) [105, 110, 98, 111, 120] ∧ Below w1.heap.size w1 (Lib.bytesWorld w1 5 (strOfNums [105, 110, 98, 111, 120]))) := ⟨q1, q2⟩
    clear q1 q2
    generalize Lib.bytesWorld w1 5 (strOfNums [105, 110, 98, 111, 120]) = w2 at hcv HQ
    go_wp2
    go_ret
    exact ⟨_, w1.heap.size, [105, 110, 98, 111, 120], rfl, HQ.out.1, by omega, by decide, HC1.out.below HQ.out.2, gb_below' HG1.out HQ.out.2⟩
  · have hcell : w1.cell? ⟨w.heap.size, 1, none⟩ = some (.string ⟨#[115, 101, 110, 116]⟩) := by rw [cell_of_row w1 w.heap.size 1 _ _ (0, 0) K1]; rfl
    have hcv : (convert 9 22 (.string ⟨#[115, 101, 110, 116]⟩)).run Tryd.prog w1 = .ok (.slice (some ⟨w1.heap.size, 0, none⟩) 4 (grownCap w1 4 0 5)) (Lib.bytesWorld w1 5 (strOfNums [115, 101, 110, 116])) := run_convert_str [115, 101, 110, 116] w1
    obtain ⟨q1, q2⟩ := bytesWorldQ w1 [115, 101, 110, 116] (by intro x hx; simp at hx <;> omega) (by decide)
    have HQ : Hid (OwnQ (Lib.bytesWorld w1 5 (strOfNums [115, 101, 110, 116])) w1.heap.size (.slice (some ⟨w1.heap.size, 0, none⟩) 4 (grownCap w1 4 0 5)) [115, 101, 110, 116] ∧ Below w1.heap.size w1 (Lib.bytesWorld w1 5 (strOfNums [115, 101, 110, 116]))) := ⟨q1, q2⟩
    clear q1 q2
    generalize Lib.bytesWorld w1 5 (strOfNums [115, 101, 110, 116]) = w2 at hcv HQ
    go_wp2
    go_ret
    exact ⟨_, w1.heap.size, [115, 101, 110, 116], rfl, HQ.out.1, by omega, by decide, HC1.out.below HQ.out.2, gb_below' HG1.out HQ.out.2⟩
  · have hcell : w1.cell? ⟨w.heap.size, 2, none⟩ = some (.string ⟨#[116, 114, 97, 115, 104]⟩) := by rw [cell_of_row w1 w.heap.size 2 _ _ (0, 0) K1]; rfl
    have hcv : (convert 9 22 (.string ⟨#[116, 114, 97, 115, 104]⟩)).run Tryd.prog w1 = .ok (.slice (some ⟨w1.heap.size, 0, none⟩) 5 (grownCap w1 5 0 5)) (Lib.bytesWorld w1 5 (strOfNums [116, 114, 97, 115, 104])) := run_convert_str [116, 114, 97, 115, 104] w1
    obtain ⟨q1, q2⟩ := bytesWorldQ w1 [116, 114, 97, 115, 104] (by intro x hx; simp at hx <;> omega) (by decide)
    have HQ : Hid (OwnQ (Lib.bytesWorld w1 5 (strOfNums [116, 114, 97, 115, 104])) w1.heap.size (.slice (some ⟨w1.heap.size, 0, none⟩) 5 (grownCap w1 5 0 5)) [116, 114, 97, 115, 104] ∧ Below w1.heap.size w1 (Lib.bytesWorld w1 5 (strOfNums [116, 114, 97, 115, 104]))) := ⟨q1, q2⟩
    clear q1 q2
    generalize Lib.bytesWorld w1 5 (strOfNums [116, 114, 97, 115, 104]) = w2 at hcv HQ
    go_wp2
    go_ret
    exact ⟨_, w1.heap.size, [116, 114, 97, 115, 104], rfl, HQ.out.1, by omega, by decide, HC1.out.below HQ.out.2, gb_below' HG1.out HQ.out.2⟩
  · have hcell : w1.cell? ⟨w.heap.size, 3, none⟩ = some (.string ⟨#[97]⟩) := by rw [cell_of_row w1 w.heap.size 3 _ _ (0, 0) K1]; rfl
    have hcv : (convert 9 22 (.string ⟨#[97]⟩)).run Tryd.prog w1 = .ok (.slice (some ⟨w1.heap.size, 0, none⟩) 1 (grownCap w1 1 0 5)) (Lib.bytesWorld w1 5 (strOfNums [97])) := run_convert_str [97] w1
    obtain ⟨q1, q2⟩ := bytesWorldQ w1 [97] (by intro x hx; simp at hx <;> omega) (by decide)
    have HQ : Hid (OwnQ (Lib.bytesWorld w1 5 (strOfNums [97])) w1.heap.size (.slice (some ⟨w1.heap.size, 0, none⟩) 1 (grownCap w1 1 0 5)) [97] ∧ Below w1.heap.size w1 (Lib.bytesWorld w1 5 (strOfNums [97]))) := ⟨q1, q2⟩
    clear q1 q2
    generalize Lib.bytesWorld w1 5 (strOfNums [97]) = w2 at hcv HQ
    go_wp2
    go_ret
    exact ⟨_, w1.heap.size, [97], rfl, HQ.out.1, by omega, by decide, HC1.out.below HQ.out.2, gb_below' HG1.out HQ.out.2⟩
  · have hcell : w1.cell? ⟨w.heap.size, 4, none⟩ = some (.string ⟨#[98]⟩) := by rw [cell_of_row w1 w.heap.size 4 _ _ (0, 0) K1]; rfl
    have hcv : (convert 9 22 (.string ⟨#[98]⟩)).run Tryd.prog w1 = .ok (.slice (some ⟨w1.heap.size, 0, none⟩) 1 (grownCap w1 1 0 5)) (Lib.bytesWorld w1 5 (strOfNums [98])) := run_convert_str [98] w1
    obtain ⟨q1, q2⟩ := bytesWorldQ w1 [98] (by intro x hx; simp at hx <;> omega) (by decide)
    have HQ : Hid (OwnQ (Lib.bytesWorld w1 5 (strOfNums [98])) w1.heap.size (.slice (some ⟨w1.heap.size, 0, none⟩) 1 (grownCap w1 1 0 5)) [98] ∧ Below w1.heap.size w1 (Lib.bytesWorld w1 5 (strOfNums [98]))) := ⟨q1, q2⟩
    clear q1 q2
    generalize Lib.bytesWorld w1 5 (strOfNums [98]) = w2 at hcv HQ
    go_wp2
    go_ret
    exact ⟨_, w1.heap.size, [98], rfl, HQ.out.1, by omega, by decide, HC1.out.below HQ.out.2, gb_below' HG1.out HQ.out.2⟩


set_option maxRecDepth 100000 in
set_option maxHeartbeats 2000000 in
theorem l3drawText_any (w0 w : World) (g : Nat) (cv : Value) (L : List Int) (hc : Cur w0 w g cv L) :
    Calls Tryd.prog 77 #[.pointer (some ⟨g, 0, none⟩)] w fun e w' => ∃ u gq m, e = .returned u ∧ OwnQ w' gq u m ∧ w.heap.size ≤ gq ∧ textB m = true ∧ Cur w0 w' g cv L ∧ w.grownBy w' (some g) := by
  have AB : Below w.heap.size w (w.alloc (.cells #[.string ⟨#[104, 105]⟩, .string ⟨#[]⟩, .string ⟨#[97, 32, 98]⟩, .string ⟨#[34, 113, 34]⟩, .string ⟨#[114, 101, 58, 32, 120]⟩, .string ⟨#[92]⟩] 9)) := (Below.refl _ _).alloc (Nat.le_refl _) _
  have K0 := box_new w (.cells #[.string ⟨#[104, 105]⟩, .string ⟨#[]⟩, .string ⟨#[97, 32, 98]⟩, .string ⟨#[34, 113, 34]⟩, .string ⟨#[114, 101, 58, 32, 120]⟩, .string ⟨#[92]⟩] 9)
  have hgl := hc.lt.2
  have hc0 := hc.below AB
  go_enter Tryd.func77, Tryd.ntmps77
  go_wp2_with fail
  refine (l1Below_any w0 _ g cv L 6 hc0 (by omega) (by omega)).mono ?_
  rintro e w1 ⟨x, rfl, hx0, hx1, hc1, hg1⟩
  have K1 : w1.heap[w.heap.size]? = _ := (hg1.block w.heap.size (lt_of_heap K0) (by simp; omega)).trans K0
  have hl1 := lt_of_heap K1
  have HC1 : Hid (Cur w0 w1 g cv L) := hc1
  have HG1 : Hid (w.grownBy w1 (some g)) := gb_trans' (gb_below' (World.grownBy.refl _ _) AB) hg1
  have hs1 := HG1.out.size
  clear hc hc0 hc1 hg1 AB K0
  obtain ⟨j, rfl⟩ := Int.eq_ofNat_of_zero_le hx0
  obtain rfl | rfl | rfl | rfl | rfl | rfl : j = 0 ∨ j = 1 ∨ j = 2 ∨ j = 3 ∨ j = 4 ∨ j = 5 := by omega
  · have hcell : w1.cell? ⟨w.heap.size, 0, none⟩ = some (.string ⟨#[104, 105]⟩) := by rw [cell_of_row w1 w.heap.size 0 _ _ (0, 0) K1]; rfl
    have hcv : (convert 9 22 (.string ⟨#[104, 105]⟩)).run Tryd.prog w1 = .ok (.slice (some ⟨w1.heap.size, 0, none⟩) 2 (grownCap w1 2 0 5)) (Lib.bytesWorld w1 5 (strOfNums [104, 105])) := run_convert_str [104, 105] w1
    obtain ⟨q1, q2⟩ := bytesWorldQ w1 [104, 105] (by intro x hx; simp at hx <;> omega) (by decide)
    have HQ : Hid (OwnQ (Lib.bytesWorld w1 5 (strOfNums [104, 105])) w1.heap.size (.slice (some ⟨w1.heap.size, 0, none⟩) 2 (grownCap w1 2 0 5)) [104, 105] ∧ Below w1.heap.size w1 (Lib.bytesWorld w1 5 (strOfNums [104, 105]))) := ⟨q1, q2⟩
    clear q1 q2
    generalize Lib.bytesWorld w1 5 (strOfNums [104, 105]) = w2 at hcv HQ
    go_wp2
    go_ret
    exact ⟨_, w1.heap.size, [104, 105], rfl, HQ.out.1, by omega, by decide, HC1.out.below HQ.out.2, gb_below' HG1.out HQ.out.2⟩
  · have hcell : w1.cell? ⟨w.heap.size, 1, none⟩ = some (.string ⟨#[]⟩) := by rw [cell_of_row w1 w.heap.size 1 _ _ (0, 0) K1]; rfl
    have hcv : (convert 9 22 (.string ⟨#[]⟩)).run Tryd.prog w1 = .ok (.slice (some ⟨w1.heap.size, 0, none⟩) 0 (grownCap w1 0 0 5)) (Lib.bytesWorld w1 5 (strOfNums [])) := run_convert_str [] w1
    obtain ⟨q1, q2⟩ := bytesWorldQ w1 [] (by intro x hx; simp at hx <;> omega) (by decide)
    have HQ : Hid (OwnQ (Lib.bytesWorld w1 5 (strOfNums [])) w1.heap.size (.slice (some ⟨w1.heap.size, 0, none⟩) 0 (grownCap w1 0 0 5)) [] ∧ Below w1.heap.size w1 (Lib.bytesWorld w1 5 (strOfNums []))) := ⟨q1, q2⟩
    clear q1 q2
    generalize Lib.bytesWorld w1 5 (strOfNums []) = w2 at hcv HQ
    go_wp2
    go_ret
    exact ⟨_, w1.heap.size, [], rfl, HQ.out.1, by omega, by decide, HC1.out.below HQ.out.2, gb_below' HG1.out HQ.out.2⟩
  · have hcell : w1.cell? ⟨w.heap.size, 2, none⟩ = some (.string ⟨#[97, 32, 98]⟩) := by rw [cell_of_row w1 w.heap.size 2 _ _ (0, 0) K1]; rfl
    have hcv : (convert 9 22 (.string ⟨#[97, 32, 98]⟩)).run Tryd.prog w1 = .ok (.slice (some ⟨w1.heap.size, 0, none⟩) 3 (grownCap w1 3 0 5)) (Lib.bytesWorld w1 5 (strOfNums [97, 32, 98])) := run_convert_str [97, 32, 98] w1
    obtain ⟨q1, q2⟩ := bytesWorldQ w1 [97, 32, 98] (by intro x hx; simp at hx <;> omega) (by decide)
    have HQ : Hid (OwnQ (Lib.bytesWorld w1 5 (strOfNums [97, 32, 98])) w1.heap.size (.slice (some ⟨w1.heap.size, 0, none⟩) 3 (grownCap w1 3 0 5)) [97, 32, 98] ∧ Below w1.heap.size w1 (Lib.bytesWorld w1 5 (strOfNums [97, 32, 98]))) := ⟨q1, q2⟩
    clear q1 q2
    generalize Lib.bytesWorld w1 5 (strOfNums [97, 32, 98]) = w2 at hcv HQ
    go_wp2
    go_ret
    exact ⟨_, w1.heap.size, [97, 32, 98], rfl, HQ.out.1, by omega, by decide, HC1.out.below HQ.out.2, gb_below' HG1.out HQ.out.2⟩
  · have hcell : w1.cell? ⟨w.heap.size, 3, none⟩ = some (.string ⟨#[34, 113, 34]⟩) := by rw [cell_of_row w1 w.heap.size 3 _ _ (0, 0) K1]; rfl
    have hcv : (convert 9 22 (.string ⟨#[34, 113, 34]⟩)).run Tryd.prog w1 = .ok (.slice (some ⟨w1.heap.size, 0, none⟩) 3 (grownCap w1 3 0 5)) (Lib.bytesWorld w1 5 (strOfNums [34, 113, 34])) := run_convert_str [34, 113, 34] w1
    obtain ⟨q1, q2⟩ := bytesWorldQ w1 [34, 113, 34] (by intro x hx; simp at hx <;> omega) (by decide)
    have HQ : Hid (OwnQ (Lib.bytesWorld w1 5 (strOfNums [34, 113, 34])) w1.heap.size (.slice (some ⟨w1.heap.size, 0, none⟩) 3 (grownCap w1 3 0 5)) [34, 113, 34] ∧ Below w1.heap.size w1 (Lib.bytesWorld w1 5 (strOfNums [34, 113, 34]))) := ⟨q1, q2⟩
    clear q1 q2
    generalize Lib.bytesWorld w1 5 (strOfNums [34, 113, 34]) = w2 at hcv HQ
    go_wp2
    go_ret
    exact ⟨_, w1.heap.size, [34, 113, 34], rfl, HQ.out.1, by omega, by decide, HC1.out.below HQ.out.2, gb_below' HG1.out HQ.out.2⟩
  · have hcell : w1.cell? ⟨w.heap.size, 4, none⟩ = some (.string ⟨#[114, 101, 58, 32, 120]⟩) := by rw [cell_of_row w1 w.heap.size 4 _ _ (0, 0) K1]; rfl
    have hcv : (convert 9 22 (.string ⟨#[114, 101, 58, 32, 120]⟩)).run Tryd.prog w1 = .ok (.slice (some ⟨w1.heap.size, 0, none⟩) 5 (grownCap w1 5 0 5)) (Lib.bytesWorld w1 5 (strOfNums [114, 101, 58, 32, 120])) := run_convert_str [114, 101, 58, 32, 120] w1
    obtain ⟨q1, q2⟩ := bytesWorldQ w1 [114, 101, 58, 32, 120] (by intro x hx; simp at hx <;> omega) (by decide)
    have HQ : Hid (OwnQ (Lib.bytesWorld w1 5 (strOfNums [114, 101, 58, 32, 120])) w1.heap.size (.slice (some ⟨w1.heap.size, 0, none⟩) 5 (grownCap w1 5 0 5)) [114, 101, 58, 32, 120] ∧ Below w1.heap.size w1 (Lib.bytesWorld w1 5 (strOfNums [114, 101, 58, 32, 120]))) := ⟨q1, q2⟩
    clear q1 q2
    generalize Lib.bytesWorld w1 5 (strOfNums [114, 101, 58, 32, 120]) = w2 at hcv HQ
    go_wp2
    go_ret
    exact ⟨_, w1.heap.size, [114, 101, 58, 32, 120], rfl, HQ.out.1, by omega, by decide, HC1.out.below HQ.out.2, gb_below' HG1.out HQ.out.2⟩
  · have hcell : w1.cell? ⟨w.heap.size, 5, none⟩ = some (.string ⟨#[92]⟩) := by rw [cell_of_row w1 w.heap.size 5 _ _ (0, 0) K1]; rfl
    have hcv : (convert 9 22 (.string ⟨#[92]⟩)).run Tryd.prog w1 = .ok (.slice (some ⟨w1.heap.size, 0, none⟩) 1 (grownCap w1 1 0 5)) (Lib.bytesWorld w1 5 (strOfNums [92])) := run_convert_str [92] w1
    obtain ⟨q1, q2⟩ := bytesWorldQ w1 [92] (by intro x hx; simp at hx <;> omega) (by decide)
    have HQ : Hid (OwnQ (Lib.bytesWorld w1 5 (strOfNums [92])) w1.heap.size (.slice (some ⟨w1.heap.size, 0, none⟩) 1 (grownCap w1 1 0 5)) [92] ∧ Below w1.heap.size w1 (Lib.bytesWorld w1 5 (strOfNums [92]))) := ⟨q1, q2⟩
    clear q1 q2
    generalize Lib.bytesWorld w1 5 (strOfNums [92]) = w2 at hcv HQ
    go_wp2
    go_ret
    exact ⟨_, w1.heap.size, [92], rfl, HQ.out.1, by omega, by decide, HC1.out.below HQ.out.2, gb_below' HG1.out HQ.out.2⟩


end Go.Proofs.YtmonloebkdpahaaDoor

/- What l1PickInt of package spec draws: one of the ints. -/
namespace Go.Proofs.YtmonloebkdpahaaDoor
open Go.RowKit
set_option maxRecDepth 100000

/-- Ints from lo to hi in a block of their own. -/
def IntsB (w : World) (v : Value) (g n : Nat) (lo hi : Int) : Prop :=
  1 ≤ n ∧ n ≤ 1000 ∧ ∃ k, k ≠ g ∧ k < w.heap.size ∧ v = .slice (some ⟨k, 0, none⟩) n n ∧ ∀ i, i < n → ∃ x, w.cell? ⟨k, i, none⟩ = some (.int .i64 x) ∧ lo ≤ x ∧ x ≤ hi

set_option maxHeartbeats 400000 in
theorem l1PickInt_b (w0 w : World) (g n : Nat) (cv v : Value) (L : List Int) (lo hi : Int) (hc : Cur w0 w g cv L) (hv : IntsB w v g n lo hi) :
    Calls Tryd.prog 42 #[.pointer (some ⟨g, 0, none⟩), v] w fun e w' => ∃ x, e = .returned (.int .i64 x) ∧ lo ≤ x ∧ x ≤ hi ∧ Cur w0 w' g cv L ∧ w.grownBy w' (some g) := by
  obtain ⟨hn, hn1, k, hkg, hks, rfl, hcells⟩ := hv
  go_enter Tryd.func42, Tryd.ntmps42
  go_wp2_with fail
  refine (l1Below_any w0 _ g cv L n hc (by omega) (by omega)).mono ?_
  rintro e w1 ⟨x, rfl, hx0, hx1, hc1, hg1⟩
  obtain ⟨j, rfl⟩ := Int.eq_ofNat_of_zero_le hx0
  obtain ⟨y, hy, hy0, hy1⟩ := hcells j (by omega)
  have hy' : w1.cell? ⟨k, j, none⟩ = some (.int .i64 y) := hg1.cell hy (by simpa using hkg)
  clear hcells hy
  go_wp2
  go_ret
  exact ⟨_, rfl, hy0, hy1, hc1, hg1⟩
theorem intsB_made (w : World) (g : Nat) (xs : List Int) (t : TypeId) (lo hi : Int) (hg : g < w.heap.size) (h0 : 1 ≤ xs.length) (h1 : xs.length ≤ 1000) (hx : ∀ x ∈ xs, lo ≤ x ∧ x ≤ hi) :
    IntsB (w.alloc (.cells (xs.map (Value.int .i64)).toArray t)) (.slice (some ⟨w.heap.size, 0, none⟩) xs.length xs.length) g xs.length lo hi := by
  refine ⟨h0, h1, w.heap.size, by omega, by simp, rfl, fun i hi => ⟨xs[i], ?_, hx _ (List.getElem_mem hi)⟩⟩
  rw [cell_of_row _ _ i _ t (0, 0) (heap_alloc_new w _)]
  simp [hi]

end Go.Proofs.YtmonloebkdpahaaDoor

/- append of bytes as one step of a region that draws its order. -/
namespace Go.Proofs.YtmonloebkdpahaaDoor
open Go.RowKit

end Go.Proofs.YtmonloebkdpahaaDoor

/- What PutText and GetText answer, on lists. -/
namespace Go.Proofs.YtmonloebkdpahaaDoor
open Go.RowKit

end Go.Proofs.YtmonloebkdpahaaDoor

/- What l1spoil of package spec answers. -/
namespace Go.Proofs.YtmonloebkdpahaaDoor
open Go.RowKit

theorem oct_set {l : List Int} (h : Oct l) (i : Nat) (x : Int) (hx : 0 ≤ x ∧ x ≤ 255) : Oct (l.set i x) := by
  intro y hy
  rcases List.mem_or_eq_of_mem_set hy with h' | rfl
  · exact h y h'
  · exact hx
/-- A byte of a row that the call owns is written. -/
theorem Own.set {w : World} {gb n cap i : Nat} {l : List Int} {x : Int} (h : Own w gb (.slice (some ⟨gb, 0, none⟩) n cap) l) (hx : 0 ≤ x ∧ x ≤ 255) :
    Own (w.setCell ⟨gb, i, none⟩ (.int .u8 x)) gb (.slice (some ⟨gb, 0, none⟩) n cap) (l.set i x) := by
  rcases h.2 with ⟨h', _⟩ | ⟨cap', cur, hv, hh, h1, h2, h3, h4⟩
  · simp at h'
  · simp only [Value.slice.injEq, true_and] at hv
    obtain ⟨rfl, rfl⟩ := hv
    refine ⟨oct_set h.1 i x hx, .inr ⟨cap, _, by simp, heap_setCell_same w gb i cur _ _ hh, by simpa using h1, h2, by simpa using h3, ?_⟩⟩
    rw [Array.toList_setIfInBounds, List.length_set, List.take_set, h4]
    simp [vals, List.map_set]
theorem Own.cut {w : World} {gb n cap : Nat} {l : List Int} (h : Own w gb (.slice (some ⟨gb, 0, none⟩) n cap) l) (i : Nat) (hi : i ≤ l.length) :
    Own w gb (.slice (some ⟨gb, 0, none⟩) i cap) (l.take i) := by
  rcases h.2 with ⟨h', _⟩ | ⟨cap', cur, hv, hh, h1, h2, h3, h4⟩
  · simp at h'
  · simp only [Value.slice.injEq, true_and] at hv
    obtain ⟨rfl, rfl⟩ := hv
    have hl : (l.take i).length = i := by simp; omega
    refine ⟨oct_take h.1 i, .inr ⟨cap, cur, by rw [hl], hh, by rw [hl]; omega, h2, h3, ?_⟩⟩
    rw [hl]
    have := congrArg (List.take i) h4
    rw [List.take_take, Nat.min_eq_left hi] at this
    rw [this]
    simp [vals, List.map_take]

theorem Cur.set {w0 w : World} {g gb i : Nat} {cv x : Value} {L : List Int} (h : Cur w0 w g cv L) (h1 : w0.heap.size ≤ gb) (hne : g ≠ gb) : Cur w0 (w.setCell ⟨gb, i, none⟩ x) g cv L := by
  obtain ⟨hg, hB, hbs, j, q, h0, h2, hh⟩ := h
  exact ⟨hg, hB.setCell h1 _, hbs, j, q, h0, h2, (Below.heap_setCell w ⟨gb, i, none⟩ x g hne).trans hh⟩
theorem Cur.drew {w0 w : World} {g : Nat} {cv : Value} {L : List Int} (h : Cur w0 w g cv L) : Cur w0 w.drew g cv L :=
  let ⟨hg, hB, hbs, j, q, h0, h2, hh⟩ := h; ⟨hg, hB.drew, hbs, j, q, h0, h2, hh⟩
end Go.Proofs.YtmonloebkdpahaaDoor

/- What l3parts and l3seq of package spec do. -/
namespace Go.Proofs.YtmonloebkdpahaaDoor
open Go.RowKit
set_option maxRecDepth 100000

set_option maxHeartbeats 400000 in
theorem l3parts_any (k : Int) (w : World) :
    Calls Tryd.prog 76 #[.int .i64 k] w fun e w' => e = .returned (.tuple #[.bool (toB k), .bool (uidB k), .bool (modeB k), .bool (sinceB k), .bool (textsB k)]) ∧ w' = w := by
  go_enter Tryd.func76, Tryd.ntmps76
  go_wp2
  all_goals exact bodyPost_ret (v := .tuple #[.bool (toB k), .bool (uidB k), .bool (modeB k), .bool (sinceB k), .bool (textsB k)]) (by simp [results, Tryd.results76, go_sem, toB, uidB, modeB, sinceB, textsB, *] <;> (simp only [beq_iff_eq, beq_eq_false_iff_ne, ne_eq] at *; omega)) rfl ⟨rfl, rfl⟩

theorem l3seq_any (n : Int) (w : World) :
    Calls Tryd.prog 46 #[.int .i64 n] w fun e w' => e = .returned (.bool (inB n 0 1000000)) ∧ w' = w := by
  go_enter Tryd.func46, Tryd.ntmps46
  go_wp2
  all_goals (go_ret; exact ⟨by simp [inB, *] <;> omega, rfl⟩)

end Go.Proofs.YtmonloebkdpahaaDoor

/- Commands as data. -/
namespace Go.Proofs.YtmonloebkdpahaaDoor
open Go.RowKit

structure CmdD where
  k : Int
  bx : List Int
  tt : List Int
  uid : Int
  mode : Int
  fl : Int
  si : Int
  tx : List Int
theorem CmdR.set {w : World} {g i B T : Nat} {v x : Value} {k : Int} {bx tt : List Int} {uid mode fl si : Int} {tx : List Int} (h : CmdR w B T v k bx tt uid mode fl si tx) (hd : g < B ∨ T ≤ g) : CmdR (w.setCell ⟨g, i, none⟩ x) B T v k bx tt uid mode fl si tx :=
  let ⟨u0, u1, u2, T0, T1, hv, h0, h1, h2, r0, r1, r2, r⟩ := h; ⟨u0, u1, u2, T0, T1, hv, h0.set (by omega), h1.set (by omega), h2.set (by omega), r0, r1, r2, r⟩

end Go.Proofs.YtmonloebkdpahaaDoor
