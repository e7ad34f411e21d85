/- What cutNum of package impl does. -/
import Derived.Test.YtiafkmjndcfjlaaDoorBase
namespace Go.Proofs.YtiafkmjndcfjlaaDoor
open Go.RowKit
set_option maxRecDepth 100000

theorem or128_fin : ∀ x : Fin 256, bits BinOp.or IntKind.u8 (x.val : Int) 128 = (x.val : Int) % 128 + 128 := by decide +kernel
theorem or128 (x : Int) : bits BinOp.or IntKind.u8 (x % 256) 128 = x % 128 + 128 := by
  have h := or128_fin ⟨(x % 256).toNat, by omega⟩
  simp only at h
  rw [show (((x % 256).toNat : Nat) : Int) = x % 256 by omega] at h
  rw [h]; omega

set_option maxHeartbeats 1000000 in
theorem cutNum_1 (n : Int) (w : World) (h0 : 0 ≤ n) (h1 : n < 128) :
    Calls Tryd.prog 42 #[.int .u32 n] w fun e w' => e = .returned (.tuple #[.agg #[.int .u8 (n), .int .u8 (0), .int .u8 (0), .int .u8 (0), .int .u8 (0)], .int .i64 1]) ∧ Below w.heap.size w w' := by
  go_enter Tryd.func42, Tryd.ntmps42
  go_wp2
  refine wp_loop_rounds 1 ?_
  rw [rounds_succ]
  go_wp2
  refine bodyPost_ret (v := .tuple #[.agg #[.int .u8 (n), .int .u8 (0), .int .u8 (0), .int .u8 (0), .int .u8 (0)], .int .i64 1]) (by simp [results, Tryd.results42, go_sem]) rfl ⟨rfl, ?_⟩
  exact ((Below.refl _ _).alloc (Nat.le_refl _) _).alloc (by simp) _

set_option maxHeartbeats 1000000 in
theorem cutNum_2 (n : Int) (w : World) (h0 : 128 ≤ n) (h1 : n < 16384) :
    Calls Tryd.prog 42 #[.int .u32 n] w fun e w' => e = .returned (.tuple #[.agg #[.int .u8 ((n) % 128 + 128), .int .u8 (n / 128), .int .u8 (0), .int .u8 (0), .int .u8 (0)], .int .i64 2]) ∧ Below w.heap.size w w' := by
  go_enter Tryd.func42, Tryd.ntmps42
  go_wp2
  refine wp_loop_rounds 2 ?_
  rw [rounds_succ]
  go_wp2
  rw [rounds_succ]
  go_wp2
  refine bodyPost_ret (v := .tuple #[.agg #[.int .u8 (bits BinOp.or IntKind.u8 (n % 256) 128), .int .u8 (n / 128), .int .u8 (0), .int .u8 (0), .int .u8 (0)], .int .i64 2]) (by simp [results, Tryd.results42, go_sem]) rfl ⟨by simp only [or128], ?_⟩
  exact ((Below.refl _ _).alloc (Nat.le_refl _) _).alloc (by simp) _

set_option maxHeartbeats 1000000 in
theorem cutNum_3 (n : Int) (w : World) (h0 : 16384 ≤ n) (h1 : n < 2097152) :
    Calls Tryd.prog 42 #[.int .u32 n] w fun e w' => e = .returned (.tuple #[.agg #[.int .u8 ((n) % 128 + 128), .int .u8 ((n / 128) % 128 + 128), .int .u8 (n / 128 / 128), .int .u8 (0), .int .u8 (0)], .int .i64 3]) ∧ Below w.heap.size w w' := by
  go_enter Tryd.func42, Tryd.ntmps42
  go_wp2
  refine wp_loop_rounds 3 ?_
  rw [rounds_succ]
  go_wp2
  rw [rounds_succ]
  go_wp2
  rw [rounds_succ]
  go_wp2
  refine bodyPost_ret (v := .tuple #[.agg #[.int .u8 (bits BinOp.or IntKind.u8 (n % 256) 128), .int .u8 (bits BinOp.or IntKind.u8 ((n / 128) % 256) 128), .int .u8 (n / 128 / 128), .int .u8 (0), .int .u8 (0)], .int .i64 3]) (by simp [results, Tryd.results42, go_sem]) rfl ⟨by simp only [or128], ?_⟩
  exact ((Below.refl _ _).alloc (Nat.le_refl _) _).alloc (by simp) _

set_option maxHeartbeats 1000000 in
theorem cutNum_4 (n : Int) (w : World) (h0 : 2097152 ≤ n) (h1 : n < 268435456) :
    Calls Tryd.prog 42 #[.int .u32 n] w fun e w' => e = .returned (.tuple #[.agg #[.int .u8 ((n) % 128 + 128), .int .u8 ((n / 128) % 128 + 128), .int .u8 ((n / 128 / 128) % 128 + 128), .int .u8 (n / 128 / 128 / 128), .int .u8 (0)], .int .i64 4]) ∧ Below w.heap.size w w' := by
  go_enter Tryd.func42, Tryd.ntmps42
  go_wp2
  refine wp_loop_rounds 4 ?_
  rw [rounds_succ]
  go_wp2
  rw [rounds_succ]
  go_wp2
  rw [rounds_succ]
  go_wp2
  rw [rounds_succ]
  go_wp2
  refine bodyPost_ret (v := .tuple #[.agg #[.int .u8 (bits BinOp.or IntKind.u8 (n % 256) 128), .int .u8 (bits BinOp.or IntKind.u8 ((n / 128) % 256) 128), .int .u8 (bits BinOp.or IntKind.u8 ((n / 128 / 128) % 256) 128), .int .u8 (n / 128 / 128 / 128), .int .u8 (0)], .int .i64 4]) (by simp [results, Tryd.results42, go_sem]) rfl ⟨by simp only [or128], ?_⟩
  exact ((Below.refl _ _).alloc (Nat.le_refl _) _).alloc (by simp) _

set_option maxHeartbeats 1000000 in
theorem cutNum_5 (n : Int) (w : World) (h0 : 268435456 ≤ n) (h1 : n < 2147483648) :
    Calls Tryd.prog 42 #[.int .u32 n] w fun e w' => e = .returned (.tuple #[.agg #[.int .u8 ((n) % 128 + 128), .int .u8 ((n / 128) % 128 + 128), .int .u8 ((n / 128 / 128) % 128 + 128), .int .u8 ((n / 128 / 128 / 128) % 128 + 128), .int .u8 (n / 128 / 128 / 128 / 128)], .int .i64 5]) ∧ Below w.heap.size w w' := by
  go_enter Tryd.func42, Tryd.ntmps42
  go_wp2
  refine wp_loop_rounds 5 ?_
  rw [rounds_succ]
  go_wp2
  rw [rounds_succ]
  go_wp2
  rw [rounds_succ]
  go_wp2
  rw [rounds_succ]
  go_wp2
  rw [rounds_succ]
  go_wp2
  refine bodyPost_ret (v := .tuple #[.agg #[.int .u8 (bits BinOp.or IntKind.u8 (n % 256) 128), .int .u8 (bits BinOp.or IntKind.u8 ((n / 128) % 256) 128), .int .u8 (bits BinOp.or IntKind.u8 ((n / 128 / 128) % 256) 128), .int .u8 (bits BinOp.or IntKind.u8 ((n / 128 / 128 / 128) % 256) 128), .int .u8 (n / 128 / 128 / 128 / 128)], .int .i64 5]) (by simp [results, Tryd.results42, go_sem]) rfl ⟨by simp only [or128], ?_⟩
  exact ((Below.refl _ _).alloc (Nat.le_refl _) _).alloc (by simp) _

/-- The five bytes that cutNum answers hold the number's bytes, as many as it says. -/
theorem cutNum_any (n : Int) (w : World) (h0 : 0 ≤ n) (h1 : n ≤ 2147483647) :
    Calls Tryd.prog 42 #[.int .u32 n] w fun e w' => ∃ (c0 c1 c2 c3 c4 : Int) (k : Nat), e = .returned (.tuple #[.agg #[.int .u8 c0, .int .u8 c1, .int .u8 c2, .int .u8 c3, .int .u8 c4], .int .i64 k]) ∧
      k ≤ 5 ∧ Oct [c0, c1, c2, c3, c4] ∧ enc 4 n = [c0, c1, c2, c3, c4].take k ∧ Below w.heap.size w w' := by
  by_cases g1 : n < 128
  · refine (cutNum_1 n w (by omega) (by omega)).mono ?_
    rintro e w' ⟨rfl, hb⟩
    exact ⟨_, _, _, _, _, 1, rfl, by omega, by simp [Oct]; omega, by rw [enc_lo 4 (n) (by omega)]; rfl, hb⟩
  by_cases g2 : n < 16384
  · refine (cutNum_2 n w (by omega) (by omega)).mono ?_
    rintro e w' ⟨rfl, hb⟩
    exact ⟨_, _, _, _, _, 2, rfl, by omega, by simp [Oct]; omega, by rw [enc_hi 3 (n) (by omega), enc_lo 3 (n / 128) (by omega)]; rfl, hb⟩
  by_cases g3 : n < 2097152
  · refine (cutNum_3 n w (by omega) (by omega)).mono ?_
    rintro e w' ⟨rfl, hb⟩
    exact ⟨_, _, _, _, _, 3, rfl, by omega, by simp [Oct]; omega, by rw [enc_hi 3 (n) (by omega), enc_hi 2 (n / 128) (by omega), enc_lo 2 (n / 128 / 128) (by omega)]; rfl, hb⟩
  by_cases g4 : n < 268435456
  · refine (cutNum_4 n w (by omega) (by omega)).mono ?_
    rintro e w' ⟨rfl, hb⟩
    exact ⟨_, _, _, _, _, 4, rfl, by omega, by simp [Oct]; omega, by rw [enc_hi 3 (n) (by omega), enc_hi 2 (n / 128) (by omega), enc_hi 1 (n / 128 / 128) (by omega), enc_lo 1 (n / 128 / 128 / 128) (by omega)]; rfl, hb⟩
  refine (cutNum_5 n w (by omega) (by omega)).mono ?_
  rintro e w' ⟨rfl, hb⟩
  exact ⟨_, _, _, _, _, 5, rfl, by omega, by simp [Oct]; omega, by rw [enc_hi 3 (n) (by omega), enc_hi 2 (n / 128) (by omega), enc_hi 1 (n / 128 / 128) (by omega), enc_hi 0 (n / 128 / 128 / 128) (by omega), enc_lo 0 (n / 128 / 128 / 128 / 128) (by omega)]; rfl, hb⟩

end Go.Proofs.YtiafkmjndcfjlaaDoor
