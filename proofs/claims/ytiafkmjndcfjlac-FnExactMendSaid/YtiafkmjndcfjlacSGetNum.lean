/- What GetNum of package spec does. -/
import Derived.Test.YtiafkmjndcfjlacBase
namespace Go.Proofs.Ytiafkmjndcfjlac
open Go.RowKit

set_option maxHeartbeats 1000000 in
theorem specGetNum_any (v : Value) (l : List Int) (at' : Int) (w : World) (hv : Bs w v l) (hl : l.length ≤ 2000000) (hn0 : -9223372036854775808 ≤ at') (hn1 : at' ≤ 9223372036854775807) :
    Calls Try.prog 20 #[v, .int .i64 at'] w fun e w' => e = .returned (.tuple #[.int .i64 (getL l at').1, .int .i64 (getL l at').2]) ∧ w' = w := by
  obtain ⟨ho, a, cap, rfl, hlc, hcm, hnil, hcells⟩ := hv
  unfold maxLen at hcm
  by_cases hneg : at' < 0
  · have hG : getL l at' = (0, -1) := by simp [getL, hneg]
    have HG : Hid (getL l at' = (0, -1)) := hG
    clear hG
    go_enter Try.func20, Try.ntmps20
    go_wp2
    go_ret2
    exact ⟨ret2 HG.out, rfl⟩
  · obtain ⟨A, rfl⟩ := Int.eq_ofNat_of_zero_le (show 0 ≤ at' by omega)
    have hG : getL l (A : Int) = outOf A (dec 5 0 0 1 (l.drop A)) := by unfold getL; rw [if_neg hneg]; simp
    obtain ⟨G, hGG⟩ : ∃ G, G = getL l (A : Int) := ⟨_, rfl⟩
    rw [← hGG]
    have HG : Hid (G = outOf A (dec 5 0 0 1 (l.drop A))) := by rw [hGG]; exact hG
    clear hG hGG
    go_enter Try.func20, Try.ntmps20
    go_wp2
    go_loop [6, 7, 8] (fun t s i => ∃ (k : Nat) (N sc : Int), k ≤ 5 ∧ 0 ≤ N ∧ N < sc ∧ Hid (sc = 128 ^ k) ∧ t = .int .i64 N ∧ s = .int .i64 sc ∧ i = .int .i64 k ∧ Hid (G = outOf A (dec (5 - k) k N sc (l.drop (A + k))))) (fun _ _ i => 5 - (intOf i).toNat)
    case atStart => exact ⟨0, 0, 1, by omega, by omega, by omega, rfl, rfl, rfl, rfl, HG⟩
    case round =>
      obtain ⟨k, N, sc, hk, hN0, hN1, HS, rfl, rfl, rfl, HR⟩ := hrel
      clear HG
      by_cases hin : A + k < l.length
      · obtain ⟨b, off, rfl, hlb, hc⟩ := hcells (by omega)
        have hx := hc (A + k) hin
        have hxb := oct_get ho (A + k)
        obtain ⟨x, hxe⟩ : ∃ x, x = l.getD (A + k) 0 := ⟨_, rfl⟩
        rw [← hxe] at hx hxb
        obtain ⟨hx0, hx1⟩ := hxb
        have HX : Hid (x = l.getD (A + k) 0) := hxe
        clear hxe hc hcells
        rcases (show k = 0 ∨ k = 1 ∨ k = 2 ∨ k = 3 ∨ k = 4 ∨ k = 5 by omega) with rfl | rfl | rfl | rfl | rfl | rfl
        case inr.inr.inr.inr.inr =>
          have HE : Hid (G = (0, -1)) := HR.out
          go_wp2
          go_ret2
          exact ⟨ret2 HE.out, rfl⟩
        case inl =>
          obtain rfl : sc = 1 := HS.out
          rw [Nat.add_zero] at hx
          by_cases hx2 : x < 128
          · by_cases hxz : x = 0
            · have hxz' : (x == 0) = true := by simp [hxz]
              have HE : Hid (G = (N + x % 128 * 1, (A : Int) + 1)) := by have := HR.out; rw [dec_good _ _ _ _ _ _ hin (by rw [← HX.out]; exact hx2) (by rw [← HX.out]; omega)] at this; rw [HX.out]; exact this
              clear hxz
              go_wp2
              go_ret2
              exact ⟨ret2' HE.out (by omega) (by omega), rfl⟩
            · have hxz' : (x == 0) = false := by simp [hxz]
              have HE : Hid (G = (N + x % 128 * 1, (A : Int) + 1)) := by have := HR.out; rw [dec_good _ _ _ _ _ _ hin (by rw [← HX.out]; exact hx2) (by rw [← HX.out]; omega)] at this; rw [HX.out]; exact this
              clear hxz
              go_wp2
              go_ret2
              exact ⟨ret2' HE.out (by omega) (by omega), rfl⟩
          · have HE : Hid (G = outOf A (dec 4 1 (N + x % 128 * 1) 128 (l.drop (A + 1)))) := by have := HR.out; rw [dec_more _ _ _ _ _ _ hin (by rw [← HX.out]; exact hx2)] at this; rw [HX.out]; exact this
            go_wp2
            go_round
            case rel => exact ⟨1, N + x % 128 * 1, 128, by omega, by omega, by omega, rfl, by go_num, rfl, rfl, HE⟩
            case measure => simp [intOf]
        case inr.inl =>
          obtain rfl : sc = 128 := HS.out
          by_cases hx2 : x < 128
          · by_cases hxz : x = 0
            · have hxz' : (x == 0) = true := by simp [hxz]
              have HE : Hid (G = (0, -1)) := by have := HR.out; rw [dec_bad _ _ _ _ _ _ hin (by rw [← HX.out]; exact hx2) (by rw [← HX.out]; left; exact ⟨hxz, by omega⟩)] at this; exact this
              clear hxz
              go_wp2
              go_ret2
              exact ⟨ret2 HE.out, rfl⟩
            · have hxz' : (x == 0) = false := by simp [hxz]
              have HE : Hid (G = (N + x % 128 * 128, (A : Int) + 2)) := by have := HR.out; rw [dec_good _ _ _ _ _ _ hin (by rw [← HX.out]; exact hx2) (by rw [← HX.out]; omega)] at this; rw [HX.out]; exact this
              clear hxz
              go_wp2
              go_ret2
              exact ⟨ret2' HE.out (by omega) (by omega), rfl⟩
          · have HE : Hid (G = outOf A (dec 3 2 (N + x % 128 * 128) 16384 (l.drop (A + 2)))) := by have := HR.out; rw [dec_more _ _ _ _ _ _ hin (by rw [← HX.out]; exact hx2)] at this; rw [HX.out]; exact this
            go_wp2
            go_round
            case rel => exact ⟨2, N + x % 128 * 128, 16384, by omega, by omega, by omega, rfl, rfl, rfl, rfl, HE⟩
            case measure => simp [intOf]
        case inr.inr.inl =>
          obtain rfl : sc = 16384 := HS.out
          by_cases hx2 : x < 128
          · by_cases hxz : x = 0
            · have hxz' : (x == 0) = true := by simp [hxz]
              have HE : Hid (G = (0, -1)) := by have := HR.out; rw [dec_bad _ _ _ _ _ _ hin (by rw [← HX.out]; exact hx2) (by rw [← HX.out]; left; exact ⟨hxz, by omega⟩)] at this; exact this
              clear hxz
              go_wp2
              go_ret2
              exact ⟨ret2 HE.out, rfl⟩
            · have hxz' : (x == 0) = false := by simp [hxz]
              have HE : Hid (G = (N + x % 128 * 16384, (A : Int) + 3)) := by have := HR.out; rw [dec_good _ _ _ _ _ _ hin (by rw [← HX.out]; exact hx2) (by rw [← HX.out]; omega)] at this; rw [HX.out]; exact this
              clear hxz
              go_wp2
              go_ret2
              exact ⟨ret2' HE.out (by omega) (by omega), rfl⟩
          · have HE : Hid (G = outOf A (dec 2 3 (N + x % 128 * 16384) 2097152 (l.drop (A + 3)))) := by have := HR.out; rw [dec_more _ _ _ _ _ _ hin (by rw [← HX.out]; exact hx2)] at this; rw [HX.out]; exact this
            go_wp2
            go_round
            case rel => exact ⟨3, N + x % 128 * 16384, 2097152, by omega, by omega, by omega, rfl, rfl, rfl, rfl, HE⟩
            case measure => simp [intOf]
        case inr.inr.inr.inl =>
          obtain rfl : sc = 2097152 := HS.out
          by_cases hx2 : x < 128
          · by_cases hxz : x = 0
            · have hxz' : (x == 0) = true := by simp [hxz]
              have HE : Hid (G = (0, -1)) := by have := HR.out; rw [dec_bad _ _ _ _ _ _ hin (by rw [← HX.out]; exact hx2) (by rw [← HX.out]; left; exact ⟨hxz, by omega⟩)] at this; exact this
              clear hxz
              go_wp2
              go_ret2
              exact ⟨ret2 HE.out, rfl⟩
            · have hxz' : (x == 0) = false := by simp [hxz]
              have HE : Hid (G = (N + x % 128 * 2097152, (A : Int) + 4)) := by have := HR.out; rw [dec_good _ _ _ _ _ _ hin (by rw [← HX.out]; exact hx2) (by rw [← HX.out]; omega)] at this; rw [HX.out]; exact this
              clear hxz
              go_wp2
              go_ret2
              exact ⟨ret2' HE.out (by omega) (by omega), rfl⟩
          · have HE : Hid (G = outOf A (dec 1 4 (N + x % 128 * 2097152) 268435456 (l.drop (A + 4)))) := by have := HR.out; rw [dec_more _ _ _ _ _ _ hin (by rw [← HX.out]; exact hx2)] at this; rw [HX.out]; exact this
            go_wp2
            go_round
            case rel => exact ⟨4, N + x % 128 * 2097152, 268435456, by omega, by omega, by omega, rfl, rfl, rfl, rfl, HE⟩
            case measure => simp [intOf]
        case inr.inr.inr.inr.inl =>
          obtain rfl : sc = 268435456 := HS.out
          by_cases hx2 : x < 128
          · by_cases hxz : x = 0
            · have hxz' : (x == 0) = true := by simp [hxz]
              have HE : Hid (G = (0, -1)) := by have := HR.out; rw [dec_bad _ _ _ _ _ _ hin (by rw [← HX.out]; exact hx2) (by rw [← HX.out]; left; exact ⟨hxz, by omega⟩)] at this; exact this
              clear hxz
              go_wp2
              go_ret2
              exact ⟨ret2 HE.out, rfl⟩
            · have hxz' : (x == 0) = false := by simp [hxz]
              by_cases hbig : 2147483647 < N + x % 128 * 268435456
              · have HE : Hid (G = (0, -1)) := by have := HR.out; rw [dec_bad _ _ _ _ _ _ hin (by rw [← HX.out]; exact hx2) (by rw [← HX.out]; right; exact hbig)] at this; exact this
                clear hxz
                go_wp2
                go_ret2
                exact ⟨ret2 HE.out, rfl⟩
              · have HE : Hid (G = (N + x % 128 * 268435456, (A : Int) + 5)) := by have := HR.out; rw [dec_good _ _ _ _ _ _ hin (by rw [← HX.out]; exact hx2) (by rw [← HX.out]; omega)] at this; rw [HX.out]; exact this
                clear hxz
                go_wp2
                go_ret2
                exact ⟨ret2' HE.out (by omega) (by omega), rfl⟩
          · have HE : Hid (G = outOf A (dec 0 5 (N + x % 128 * 268435456) 34359738368 (l.drop (A + 5)))) := by have := HR.out; rw [dec_more _ _ _ _ _ _ hin (by rw [← HX.out]; exact hx2)] at this; rw [HX.out]; exact this
            go_wp2
            go_round
            case rel => exact ⟨5, N + x % 128 * 268435456, 34359738368, by omega, by omega, by omega, rfl, rfl, rfl, rfl, HE⟩
            case measure => simp [intOf]
      · have HE : Hid (G = (0, -1)) := by have := HR.out; rw [dec_end _ _ _ _ _ _ (by omega)] at this; exact this
        by_cases hk5 : k < 5
        all_goals
          go_wp2
          go_ret2
          exact ⟨ret2 HE.out, rfl⟩

theorem specGetNum_b (v : Value) (l : List Int) (at' : Int) (w : World) (hv : Bs w v l) (hl : l.length ≤ 2000000) (hn0 : -9223372036854775808 ≤ at') (hn1 : at' ≤ 9223372036854775807) :
    Calls Try.prog 20 #[v, .int .i64 at'] w fun e w' => e = .returned (.tuple #[.int .i64 (getL l at').1, .int .i64 (getL l at').2]) ∧ Below w.heap.size w w' :=
  (specGetNum_any v l at' w hv hl hn0 hn1).mono fun _ _ ⟨h1, h2⟩ => ⟨h1, h2 ▸ Below.refl _ _⟩

end Go.Proofs.Ytiafkmjndcfjlac
