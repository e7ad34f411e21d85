/- What numSize and numOf of package impl do. -/
import Derived.Test.YtiafkmjndcfjlaaDoorBase
import Derived.Test.YtiafkmjndcfjlaaDoorLibGet
import Derived.Laws.BitsAllLaws
namespace Go.Proofs.YtiafkmjndcfjlaaDoor
open Go.RowKit
set_option maxRecDepth 100000

theorem szL_more (cs : List Int) (t k : Nat) (h : k < t) (hk : k < cs.length) (hx : ¬ cs.getD k 0 < 128) : szL k ((cs.take t).drop k) = szL (k + 1) ((cs.take t).drop (k + 1)) := by
  rw [drop_get _ k (by simp; omega)]
  simp only [szL]
  rw [if_neg (by simpa [h] using hx)]
theorem szL_end (cs : List Int) (t k : Nat) (h : t ≤ k) : szL k ((cs.take t).drop k) = 0 := by
  rw [List.drop_eq_nil_of_le (by simp; omega)]; rfl
theorem szL_bad (cs : List Int) (t k : Nat) (h : k < t) (hk : k < cs.length) (hx : cs.getD k 0 = 0) (h0 : 0 < k) : szL k ((cs.take t).drop k) = 0 := by
  rw [drop_get _ k (by simp; omega)]
  have : (cs.take t).getD k 0 = 0 := by simpa [h] using hx
  simp only [szL, this]
  simp [h0]
theorem szL_good (cs : List Int) (t k : Nat) (h : k < t) (hk : k < cs.length) (hx : cs.getD k 0 < 128) (h0 : ¬ (cs.getD k 0 = 0 ∧ 0 < k)) : szL k ((cs.take t).drop k) = k + 1 := by
  rw [drop_get _ k (by simp; omega)]
  have : (cs.take t).getD k 0 = cs.getD k 0 := by simp [h]
  simp only [szL, this]
  rw [if_pos hx, if_neg h0]

set_option maxHeartbeats 1000000 in
theorem numSize_any (c0 c1 c2 c3 c4 : Int) (t : Nat) (w : World) (ht : t ≤ 5) (ho : Oct [c0, c1, c2, c3, c4]) :
    Calls Tryd.prog 40 #[.agg #[.int .u8 c0, .int .u8 c1, .int .u8 c2, .int .u8 c3, .int .u8 c4], .int .i64 t] w fun e w' => e = .returned (.int .i64 (szL 0 ([c0, c1, c2, c3, c4].take t))) ∧ Below w.heap.size w w' := by
  generalize hG : szL 0 ([c0, c1, c2, c3, c4].take t) = G
  have HG : Hid (szL 0 (([c0, c1, c2, c3, c4].take t).drop 0) = G) := hG
  clear hG
  have hB : Below w.heap.size w (w.alloc (.cells #[.int .u8 c0, .int .u8 c1, .int .u8 c2, .int .u8 c3, .int .u8 c4] 71)) := (Below.refl _ _).alloc (Nat.le_refl _) _
  go_enter Tryd.func40, Tryd.ntmps40
  go_wp2
  go_loop [7] (fun i => ∃ k : Nat, k ≤ t ∧ i = .int .i64 k ∧ Hid (szL k (([c0, c1, c2, c3, c4].take t).drop k) = G)) (fun i => t - (intOf i).toNat)
  case atStart => exact ⟨0, Nat.zero_le _, rfl, HG⟩
  case round =>
    obtain ⟨k, hk, rfl, HR⟩ := hrel
    clear HG
    by_cases hlt : k < t
    · rcases (show k = 0 ∨ k = 1 ∨ k = 2 ∨ k = 3 ∨ k = 4 by omega) with rfl | rfl | rfl | rfl | rfl
      · have hc := ho c0 (by simp)
        by_cases hx : c0 < 128
        · by_cases hz : c0 = 0
          · have hz' : (c0 == 0) = true := by simp [hz]
            have e : G = 1 := by rw [← HR.out]; exact szL_good [c0, c1, c2, c3, c4] t 0 hlt (by simp) hx (by omega)
            clear hz
            have E : Hid (G = 1) := e
            clear e
            go_wp2
            go_ret
            exact ⟨by rw [E.out]; rfl, hB⟩
          · have hz' : (c0 == 0) = false := by simp [hz]
            have E : Hid (G = 1) := by rw [← HR.out]; exact szL_good [c0, c1, c2, c3, c4] t 0 hlt (by simp) hx (fun h => hz h.1)
            clear hz
            go_wp2
            go_ret
            exact ⟨by rw [E.out]; rfl, hB⟩
        · have E : Hid (szL 1 (([c0, c1, c2, c3, c4].take t).drop 1) = G) := by rw [← HR.out]; exact (szL_more [c0, c1, c2, c3, c4] t 0 hlt (by simp) hx).symm
          go_wp2
          go_round
          case rel => exact ⟨1, by omega, rfl, E⟩
          case measure => simp [intOf]; omega
      · have hc := ho c1 (by simp)
        by_cases hx : c1 < 128
        · by_cases hz : c1 = 0
          · have hz' : (c1 == 0) = true := by simp [hz]
            have e : G = 0 := by rw [← HR.out]; exact szL_bad [c0, c1, c2, c3, c4] t 1 hlt (by simp) hz (by omega)
            clear hz
            have E : Hid (G = 0) := e
            clear e
            go_wp2
            go_ret
            exact ⟨by rw [E.out]; rfl, hB⟩
          · have hz' : (c1 == 0) = false := by simp [hz]
            have E : Hid (G = 2) := by rw [← HR.out]; exact szL_good [c0, c1, c2, c3, c4] t 1 hlt (by simp) hx (fun h => hz h.1)
            clear hz
            go_wp2
            go_ret
            exact ⟨by rw [E.out]; rfl, hB⟩
        · have E : Hid (szL 2 (([c0, c1, c2, c3, c4].take t).drop 2) = G) := by rw [← HR.out]; exact (szL_more [c0, c1, c2, c3, c4] t 1 hlt (by simp) hx).symm
          go_wp2
          go_round
          case rel => exact ⟨2, by omega, rfl, E⟩
          case measure => simp [intOf]; omega
      · have hc := ho c2 (by simp)
        by_cases hx : c2 < 128
        · by_cases hz : c2 = 0
          · have hz' : (c2 == 0) = true := by simp [hz]
            have e : G = 0 := by rw [← HR.out]; exact szL_bad [c0, c1, c2, c3, c4] t 2 hlt (by simp) hz (by omega)
            clear hz
            have E : Hid (G = 0) := e
            clear e
            go_wp2
            go_ret
            exact ⟨by rw [E.out]; rfl, hB⟩
          · have hz' : (c2 == 0) = false := by simp [hz]
            have E : Hid (G = 3) := by rw [← HR.out]; exact szL_good [c0, c1, c2, c3, c4] t 2 hlt (by simp) hx (fun h => hz h.1)
            clear hz
            go_wp2
            go_ret
            exact ⟨by rw [E.out]; rfl, hB⟩
        · have E : Hid (szL 3 (([c0, c1, c2, c3, c4].take t).drop 3) = G) := by rw [← HR.out]; exact (szL_more [c0, c1, c2, c3, c4] t 2 hlt (by simp) hx).symm
          go_wp2
          go_round
          case rel => exact ⟨3, by omega, rfl, E⟩
          case measure => simp [intOf]; omega
      · have hc := ho c3 (by simp)
        by_cases hx : c3 < 128
        · by_cases hz : c3 = 0
          · have hz' : (c3 == 0) = true := by simp [hz]
            have e : G = 0 := by rw [← HR.out]; exact szL_bad [c0, c1, c2, c3, c4] t 3 hlt (by simp) hz (by omega)
            clear hz
            have E : Hid (G = 0) := e
            clear e
            go_wp2
            go_ret
            exact ⟨by rw [E.out]; rfl, hB⟩
          · have hz' : (c3 == 0) = false := by simp [hz]
            have E : Hid (G = 4) := by rw [← HR.out]; exact szL_good [c0, c1, c2, c3, c4] t 3 hlt (by simp) hx (fun h => hz h.1)
            clear hz
            go_wp2
            go_ret
            exact ⟨by rw [E.out]; rfl, hB⟩
        · have E : Hid (szL 4 (([c0, c1, c2, c3, c4].take t).drop 4) = G) := by rw [← HR.out]; exact (szL_more [c0, c1, c2, c3, c4] t 3 hlt (by simp) hx).symm
          go_wp2
          go_round
          case rel => exact ⟨4, by omega, rfl, E⟩
          case measure => simp [intOf]; omega
      · have hc := ho c4 (by simp)
        by_cases hx : c4 < 128
        · by_cases hz : c4 = 0
          · have hz' : (c4 == 0) = true := by simp [hz]
            have e : G = 0 := by rw [← HR.out]; exact szL_bad [c0, c1, c2, c3, c4] t 4 hlt (by simp) hz (by omega)
            clear hz
            have E : Hid (G = 0) := e
            clear e
            go_wp2
            go_ret
            exact ⟨by rw [E.out]; rfl, hB⟩
          · have hz' : (c4 == 0) = false := by simp [hz]
            have E : Hid (G = 5) := by rw [← HR.out]; exact szL_good [c0, c1, c2, c3, c4] t 4 hlt (by simp) hx (fun h => hz h.1)
            clear hz
            go_wp2
            go_ret
            exact ⟨by rw [E.out]; rfl, hB⟩
        · have E : Hid (szL 5 (([c0, c1, c2, c3, c4].take t).drop 5) = G) := by rw [← HR.out]; exact (szL_more [c0, c1, c2, c3, c4] t 4 hlt (by simp) hx).symm
          go_wp2
          go_round
          case rel => exact ⟨5, by omega, rfl, E⟩
          case measure => simp [intOf]; omega
    · go_wp2
      go_ret
      have e : G = 0 := by rw [← HR.out]; exact szL_end _ _ _ (by omega)
      exact ⟨by rw [e]; rfl, hB⟩


theorem andNot128_fin : ∀ x : Fin 256, bits BinOp.andNot IntKind.u8 (x.val : Int) 128 = (x.val : Int) % 128 := by decide +kernel
theorem andNot128 (x : Int) (h0 : 0 ≤ x) (h1 : x ≤ 255) : bits BinOp.andNot IntKind.u8 x 128 = x % 128 := by
  have h := andNot128_fin ⟨x.toNat, by omega⟩
  simp only at h
  rw [show ((x.toNat : Nat) : Int) = x by omega] at h
  exact h
theorem or_add (k : Nat) (N x : Int) (hk : k ≤ 28) (h0 : 0 ≤ N) (h1 : N < 2 ^ k) (h2 : 0 ≤ x) (h3 : x < 128) : bits BinOp.or IntKind.u64 N (x * 2 ^ k) = N + x * 2 ^ k := by
  obtain ⟨n, rfl⟩ := Int.eq_ofNat_of_zero_le h0
  obtain ⟨y, rfl⟩ := Int.eq_ofNat_of_zero_le h2
  have hp : (2 : Nat) ^ k ≤ 2 ^ 28 := Nat.pow_le_pow_right (by omega) hk
  have h1' : n < 2 ^ k := by
    have : (n : Int) < ((2 ^ k : Nat) : Int) := by simpa using h1
    omega
  have e : (y : Int) * 2 ^ k = ((y <<< k : Nat) : Int) := by rw [Nat.shiftLeft_eq]; simp
  have hb : y <<< k < 18446744073709551616 := by
    rw [Nat.shiftLeft_eq]
    exact Nat.lt_of_le_of_lt (Nat.mul_le_mul (show y ≤ 128 by omega) hp) (by decide)
  rw [e, u64_or_nat n _ (by omega) hb, Nat.or_comm, ← Nat.shiftLeft_add_eq_or_of_lt h1' y]
  simp [Int.add_comm]

set_option maxHeartbeats 1000000 in
theorem numOf_1 (c0 c1 c2 c3 c4 : Int) (w : World) (ho : Oct [c0, c1, c2, c3, c4]) :
    Calls Tryd.prog 41 #[.agg #[.int .u8 c0, .int .u8 c1, .int .u8 c2, .int .u8 c3, .int .u8 c4], .int .i64 1] w fun e w' => e = .returned (.int .u64 (c0 % 128)) ∧ Below w.heap.size w w' := by
  have n0 := andNot128 c0 (ho c0 (by simp)).1 (ho c0 (by simp)).2
  have b0 := ho c0 (by simp)
  have o0 : bits BinOp.or IntKind.u64 0 (c0 % 128) = c0 % 128 := by simpa using or_add 0 0 (c0 % 128) (by omega) (by omega) (by omega) (by omega) (by omega)
  go_enter Tryd.func41, Tryd.ntmps41
  go_wp2
  refine wp_loop_rounds 2 ?_
  rw [rounds_succ]
  go_wp2
  rw [rounds_succ]
  go_wp2
  go_ret
  exact ⟨rfl, (Below.refl _ _).alloc (Nat.le_refl _) _⟩

set_option maxHeartbeats 1000000 in
theorem numOf_2 (c0 c1 c2 c3 c4 : Int) (w : World) (ho : Oct [c0, c1, c2, c3, c4]) :
    Calls Tryd.prog 41 #[.agg #[.int .u8 c0, .int .u8 c1, .int .u8 c2, .int .u8 c3, .int .u8 c4], .int .i64 2] w fun e w' => e = .returned (.int .u64 (c0 % 128 + c1 % 128 * 128)) ∧ Below w.heap.size w w' := by
  have n0 := andNot128 c0 (ho c0 (by simp)).1 (ho c0 (by simp)).2
  have b0 := ho c0 (by simp)
  have n1 := andNot128 c1 (ho c1 (by simp)).1 (ho c1 (by simp)).2
  have b1 := ho c1 (by simp)
  have o0 : bits BinOp.or IntKind.u64 0 (c0 % 128) = c0 % 128 := by simpa using or_add 0 0 (c0 % 128) (by omega) (by omega) (by omega) (by omega) (by omega)
  have o1 : bits BinOp.or IntKind.u64 (c0 % 128) (c1 % 128 * 128) = c0 % 128 + c1 % 128 * 128 := or_add 7 (c0 % 128) (c1 % 128) (by omega) (by omega) (by omega) (by omega) (by omega)
  go_enter Tryd.func41, Tryd.ntmps41
  go_wp2
  refine wp_loop_rounds 3 ?_
  rw [rounds_succ]
  go_wp2
  rw [rounds_succ]
  go_wp2
  rw [rounds_succ]
  go_wp2
  go_ret
  exact ⟨rfl, (Below.refl _ _).alloc (Nat.le_refl _) _⟩

set_option maxHeartbeats 1000000 in
theorem numOf_3 (c0 c1 c2 c3 c4 : Int) (w : World) (ho : Oct [c0, c1, c2, c3, c4]) :
    Calls Tryd.prog 41 #[.agg #[.int .u8 c0, .int .u8 c1, .int .u8 c2, .int .u8 c3, .int .u8 c4], .int .i64 3] w fun e w' => e = .returned (.int .u64 (c0 % 128 + c1 % 128 * 128 + c2 % 128 * 16384)) ∧ Below w.heap.size w w' := by
  have n0 := andNot128 c0 (ho c0 (by simp)).1 (ho c0 (by simp)).2
  have b0 := ho c0 (by simp)
  have n1 := andNot128 c1 (ho c1 (by simp)).1 (ho c1 (by simp)).2
  have b1 := ho c1 (by simp)
  have n2 := andNot128 c2 (ho c2 (by simp)).1 (ho c2 (by simp)).2
  have b2 := ho c2 (by simp)
  have o0 : bits BinOp.or IntKind.u64 0 (c0 % 128) = c0 % 128 := by simpa using or_add 0 0 (c0 % 128) (by omega) (by omega) (by omega) (by omega) (by omega)
  have o1 : bits BinOp.or IntKind.u64 (c0 % 128) (c1 % 128 * 128) = c0 % 128 + c1 % 128 * 128 := or_add 7 (c0 % 128) (c1 % 128) (by omega) (by omega) (by omega) (by omega) (by omega)
  have o2 : bits BinOp.or IntKind.u64 (c0 % 128 + c1 % 128 * 128) (c2 % 128 * 16384) = c0 % 128 + c1 % 128 * 128 + c2 % 128 * 16384 := or_add 14 (c0 % 128 + c1 % 128 * 128) (c2 % 128) (by omega) (by omega) (by omega) (by omega) (by omega)
  go_enter Tryd.func41, Tryd.ntmps41
  go_wp2
  refine wp_loop_rounds 4 ?_
  rw [rounds_succ]
  go_wp2
  rw [rounds_succ]
  go_wp2
  rw [rounds_succ]
  go_wp2
  rw [rounds_succ]
  go_wp2
  go_ret
  exact ⟨rfl, (Below.refl _ _).alloc (Nat.le_refl _) _⟩

set_option maxHeartbeats 1000000 in
theorem numOf_4 (c0 c1 c2 c3 c4 : Int) (w : World) (ho : Oct [c0, c1, c2, c3, c4]) :
    Calls Tryd.prog 41 #[.agg #[.int .u8 c0, .int .u8 c1, .int .u8 c2, .int .u8 c3, .int .u8 c4], .int .i64 4] w fun e w' => e = .returned (.int .u64 (c0 % 128 + c1 % 128 * 128 + c2 % 128 * 16384 + c3 % 128 * 2097152)) ∧ Below w.heap.size w w' := by
  have n0 := andNot128 c0 (ho c0 (by simp)).1 (ho c0 (by simp)).2
  have b0 := ho c0 (by simp)
  have n1 := andNot128 c1 (ho c1 (by simp)).1 (ho c1 (by simp)).2
  have b1 := ho c1 (by simp)
  have n2 := andNot128 c2 (ho c2 (by simp)).1 (ho c2 (by simp)).2
  have b2 := ho c2 (by simp)
  have n3 := andNot128 c3 (ho c3 (by simp)).1 (ho c3 (by simp)).2
  have b3 := ho c3 (by simp)
  have o0 : bits BinOp.or IntKind.u64 0 (c0 % 128) = c0 % 128 := by simpa using or_add 0 0 (c0 % 128) (by omega) (by omega) (by omega) (by omega) (by omega)
  have o1 : bits BinOp.or IntKind.u64 (c0 % 128) (c1 % 128 * 128) = c0 % 128 + c1 % 128 * 128 := or_add 7 (c0 % 128) (c1 % 128) (by omega) (by omega) (by omega) (by omega) (by omega)
  have o2 : bits BinOp.or IntKind.u64 (c0 % 128 + c1 % 128 * 128) (c2 % 128 * 16384) = c0 % 128 + c1 % 128 * 128 + c2 % 128 * 16384 := or_add 14 (c0 % 128 + c1 % 128 * 128) (c2 % 128) (by omega) (by omega) (by omega) (by omega) (by omega)
  have o3 : bits BinOp.or IntKind.u64 (c0 % 128 + c1 % 128 * 128 + c2 % 128 * 16384) (c3 % 128 * 2097152) = c0 % 128 + c1 % 128 * 128 + c2 % 128 * 16384 + c3 % 128 * 2097152 := or_add 21 (c0 % 128 + c1 % 128 * 128 + c2 % 128 * 16384) (c3 % 128) (by omega) (by omega) (by omega) (by omega) (by omega)
  go_enter Tryd.func41, Tryd.ntmps41
  go_wp2
  refine wp_loop_rounds 5 ?_
  rw [rounds_succ]
  go_wp2
  rw [rounds_succ]
  go_wp2
  rw [rounds_succ]
  go_wp2
  rw [rounds_succ]
  go_wp2
  rw [rounds_succ]
  go_wp2
  go_ret
  exact ⟨rfl, (Below.refl _ _).alloc (Nat.le_refl _) _⟩

set_option maxHeartbeats 1000000 in
theorem numOf_5 (c0 c1 c2 c3 c4 : Int) (w : World) (ho : Oct [c0, c1, c2, c3, c4]) :
    Calls Tryd.prog 41 #[.agg #[.int .u8 c0, .int .u8 c1, .int .u8 c2, .int .u8 c3, .int .u8 c4], .int .i64 5] w fun e w' => e = .returned (.int .u64 (c0 % 128 + c1 % 128 * 128 + c2 % 128 * 16384 + c3 % 128 * 2097152 + c4 % 128 * 268435456)) ∧ Below w.heap.size w w' := by
  have n0 := andNot128 c0 (ho c0 (by simp)).1 (ho c0 (by simp)).2
  have b0 := ho c0 (by simp)
  have n1 := andNot128 c1 (ho c1 (by simp)).1 (ho c1 (by simp)).2
  have b1 := ho c1 (by simp)
  have n2 := andNot128 c2 (ho c2 (by simp)).1 (ho c2 (by simp)).2
  have b2 := ho c2 (by simp)
  have n3 := andNot128 c3 (ho c3 (by simp)).1 (ho c3 (by simp)).2
  have b3 := ho c3 (by simp)
  have n4 := andNot128 c4 (ho c4 (by simp)).1 (ho c4 (by simp)).2
  have b4 := ho c4 (by simp)
  have o0 : bits BinOp.or IntKind.u64 0 (c0 % 128) = c0 % 128 := by simpa using or_add 0 0 (c0 % 128) (by omega) (by omega) (by omega) (by omega) (by omega)
  have o1 : bits BinOp.or IntKind.u64 (c0 % 128) (c1 % 128 * 128) = c0 % 128 + c1 % 128 * 128 := or_add 7 (c0 % 128) (c1 % 128) (by omega) (by omega) (by omega) (by omega) (by omega)
  have o2 : bits BinOp.or IntKind.u64 (c0 % 128 + c1 % 128 * 128) (c2 % 128 * 16384) = c0 % 128 + c1 % 128 * 128 + c2 % 128 * 16384 := or_add 14 (c0 % 128 + c1 % 128 * 128) (c2 % 128) (by omega) (by omega) (by omega) (by omega) (by omega)
  have o3 : bits BinOp.or IntKind.u64 (c0 % 128 + c1 % 128 * 128 + c2 % 128 * 16384) (c3 % 128 * 2097152) = c0 % 128 + c1 % 128 * 128 + c2 % 128 * 16384 + c3 % 128 * 2097152 := or_add 21 (c0 % 128 + c1 % 128 * 128 + c2 % 128 * 16384) (c3 % 128) (by omega) (by omega) (by omega) (by omega) (by omega)
  have o4 : bits BinOp.or IntKind.u64 (c0 % 128 + c1 % 128 * 128 + c2 % 128 * 16384 + c3 % 128 * 2097152) (c4 % 128 * 268435456) = c0 % 128 + c1 % 128 * 128 + c2 % 128 * 16384 + c3 % 128 * 2097152 + c4 % 128 * 268435456 := or_add 28 (c0 % 128 + c1 % 128 * 128 + c2 % 128 * 16384 + c3 % 128 * 2097152) (c4 % 128) (by omega) (by omega) (by omega) (by omega) (by omega)
  go_enter Tryd.func41, Tryd.ntmps41
  go_wp2
  refine wp_loop_rounds 6 ?_
  rw [rounds_succ]
  go_wp2
  rw [rounds_succ]
  go_wp2
  rw [rounds_succ]
  go_wp2
  rw [rounds_succ]
  go_wp2
  rw [rounds_succ]
  go_wp2
  rw [rounds_succ]
  go_wp2
  go_ret
  exact ⟨rfl, (Below.refl _ _).alloc (Nat.le_refl _) _⟩

theorem numOf_any (c0 c1 c2 c3 c4 : Int) (k : Nat) (w : World) (hk0 : 1 ≤ k) (hk : k ≤ 5) (ho : Oct [c0, c1, c2, c3, c4]) :
    Calls Tryd.prog 41 #[.agg #[.int .u8 c0, .int .u8 c1, .int .u8 c2, .int .u8 c3, .int .u8 c4], .int .i64 k] w fun e w' => e = .returned (.int .u64 (valL ([c0, c1, c2, c3, c4].take k))) ∧ Below w.heap.size w w' := by
  rcases (show k = 1 ∨ k = 2 ∨ k = 3 ∨ k = 4 ∨ k = 5 by omega) with rfl | rfl | rfl | rfl | rfl
  · exact (numOf_1 c0 c1 c2 c3 c4 w ho).mono fun e w' ⟨h1, h2⟩ => ⟨by rw [h1]; congr 2; simp [valL], h2⟩
  · exact (numOf_2 c0 c1 c2 c3 c4 w ho).mono fun e w' ⟨h1, h2⟩ => ⟨by rw [h1]; congr 2; simp [valL]; omega, h2⟩
  · exact (numOf_3 c0 c1 c2 c3 c4 w ho).mono fun e w' ⟨h1, h2⟩ => ⟨by rw [h1]; congr 2; simp [valL]; omega, h2⟩
  · exact (numOf_4 c0 c1 c2 c3 c4 w ho).mono fun e w' ⟨h1, h2⟩ => ⟨by rw [h1]; congr 2; simp [valL]; omega, h2⟩
  · exact (numOf_5 c0 c1 c2 c3 c4 w ho).mono fun e w' ⟨h1, h2⟩ => ⟨by rw [h1]; congr 2; simp [valL]; omega, h2⟩

end Go.Proofs.YtiafkmjndcfjlaaDoor
