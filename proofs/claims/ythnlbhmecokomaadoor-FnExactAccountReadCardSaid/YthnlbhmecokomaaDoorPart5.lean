/- The proof's texts, part 5. -/
import Derived.Test.YthnlbhmecokomaaDoorPart1
import Derived.Test.YthnlbhmecokomaaDoorPart2
import Derived.Deep.RegionHeld3

/- What GetNum of package spec does. -/
namespace Go.Proofs.YthnlbhmecokomaaDoor
open Go.RowKit
set_option maxRecDepth 100000

set_option maxHeartbeats 1000000 in
theorem specGetNum_any (v : Value) (l : List Int) (at' : Int) (w : World) (hv : Bs w v l) (hl : l.length ≤ 2000000) (hn0 : -9223372036854775808 ≤ at') (hn1 : at' ≤ 9223372036854775807) :
    Calls Tryd.prog 44 #[v, .int .i64 at'] w fun e w' => e = .returned (.tuple #[.int .i64 (getL l at').1, .int .i64 (getL l at').2]) ∧ w' = w := by
  obtain ⟨ho, a, cap, rfl, hlc, hcm, hnil, hcells⟩ := hv
  unfold maxLen at hcm
  by_cases hneg : at' < 0
  · have hG : getL l at' = (0, -1) := by simp [getL, hneg]
    have HG : Hid (getL l at' = (0, -1)) := hG
    clear hG
    go_enter Tryd.func44, Tryd.ntmps44
    go_wp2
    go_ret2
    exact ⟨ret2 HG.out, rfl⟩
  · obtain ⟨A, rfl⟩ := Int.eq_ofNat_of_zero_le (show 0 ≤ at' by omega)
    have hG : getL l (A : Int) = outOf A (dec 5 0 0 1 (l.drop A)) := by unfold getL; rw [if_neg hneg]; simp
    obtain ⟨G, hGG⟩ : ∃ G, G = getL l (A : Int) := ⟨_, rfl⟩
    rw [← hGG]
    have HG : Hid (G = outOf A (dec 5 0 0 1 (l.drop A))) := by rw [hGG]; exact hG
    clear hG hGG
    go_enter Tryd.func44, Tryd.ntmps44
    go_wp2
    go_loop [6, 7, 8] (fun t s i => ∃ (k : Nat) (N sc : Int), k ≤ 5 ∧ 0 ≤ N ∧ N < sc ∧ Hid (sc = 128 ^ k) ∧ t = .int .i64 N ∧ s = .int .i64 sc ∧ i = .int .i64 k ∧ Hid (G = outOf A (dec (5 - k) k N sc (l.drop (A + k))))) (fun _ _ i => 5 - (intOf i).toNat)
    case atStart => exact ⟨0, 0, 1, by omega, by omega, by omega, rfl, rfl, rfl, rfl, HG⟩
    case round =>
      obtain ⟨k, N, sc, hk, hN0, hN1, HS, rfl, rfl, rfl, HR⟩ := hrel
      clear HG
      by_cases hin : A + k < l.length
      · obtain ⟨b, off, rfl, hlb, hc⟩ := hcells (by omega)
        have hx := hc (A + k) hin
        have hxb := oct_get ho (A + k)
        obtain ⟨x, hxe⟩ : ∃ x, x = l.getD (A + k) 0 := ⟨_, rfl⟩
        rw [← hxe] at hx hxb
        obtain ⟨hx0, hx1⟩ := hxb
        have HX : Hid (x = l.getD (A + k) 0) := hxe
        clear hxe hc hcells
        rcases (show k = 0 ∨ k = 1 ∨ k = 2 ∨ k = 3 ∨ k = 4 ∨ k = 5 by omega) with rfl | rfl | rfl | rfl | rfl | rfl
        case inr.inr.inr.inr.inr =>
          have HE : Hid (G = (0, -1)) := HR.out
          go_wp2
          go_ret2
          exact ⟨ret2 HE.out, rfl⟩
        case inl =>
          obtain rfl : sc = 1 := HS.out
          rw [Nat.add_zero] at hx
          by_cases hx2 : x < 128
          · by_cases hxz : x = 0
            · have hxz' : (x == 0) = true := by simp [hxz]
              have HE : Hid (G = (N + x % 128 * 1, (A : Int) + 1)) := by have := HR.out; rw [dec_good _ _ _ _ _ _ hin (by rw [← HX.out]; exact hx2) (by rw [← HX.out]; omega)] at this; rw [HX.out]; exact this
              clear hxz
              go_wp2
              go_ret2
              exact ⟨ret2' HE.out (by omega) (by omega), rfl⟩
            · have hxz' : (x == 0) = false := by simp [hxz]
              have HE : Hid (G = (N + x % 128 * 1, (A : Int) + 1)) := by have := HR.out; rw [dec_good _ _ _ _ _ _ hin (by rw [← HX.out]; exact hx2) (by rw [← HX.out]; omega)] at this; rw [HX.out]; exact this
              clear hxz
              go_wp2
              go_ret2
              exact ⟨ret2' HE.out (by omega) (by omega), rfl⟩
          · have HE : Hid (G = outOf A (dec 4 1 (N + x % 128 * 1) 128 (l.drop (A + 1)))) := by have := HR.out; rw [dec_more _ _ _ _ _ _ hin (by rw [← HX.out]; exact hx2)] at this; rw [HX.out]; exact this
            go_wp2
            go_round
            case rel => exact ⟨1, N + x % 128 * 1, 128, by omega, by omega, by omega, rfl, by go_num, rfl, rfl, HE⟩
            case measure => simp [intOf]
        case inr.inl =>
          obtain rfl : sc = 128 := HS.out
          by_cases hx2 : x < 128
          · by_cases hxz : x = 0
            · have hxz' : (x == 0) = true := by simp [hxz]
              have HE : Hid (G = (0, -1)) := by have := HR.out; rw [dec_bad _ _ _ _ _ _ hin (by rw [← HX.out]; exact hx2) (by rw [← HX.out]; left; exact ⟨hxz, by omega⟩)] at this; exact this
              clear hxz
              go_wp2
              go_ret2
              exact ⟨ret2 HE.out, rfl⟩
            · have hxz' : (x == 0) = false := by simp [hxz]
              have HE : Hid (G = (N + x % 128 * 128, (A : Int) + 2)) := by have := HR.out; rw [dec_good _ _ _ _ _ _ hin (by rw [← HX.out]; exact hx2) (by rw [← HX.out]; omega)] at this; rw [HX.out]; exact this
              clear hxz
              go_wp2
              go_ret2
              exact ⟨ret2' HE.out (by omega) (by omega), rfl⟩
          · have HE : Hid (G = outOf A (dec 3 2 (N + x % 128 * 128) 16384 (l.drop (A + 2)))) := by have := HR.out; rw [dec_more _ _ _ _ _ _ hin (by rw [← HX.out]; exact hx2)] at this; rw [HX.out]; exact this
            go_wp2
            go_round
            case rel => exact ⟨2, N + x % 128 * 128, 16384, by omega, by omega, by omega, rfl, rfl, rfl, rfl, HE⟩
            case measure => simp [intOf]
        case inr.inr.inl =>
          obtain rfl : sc = 16384 := HS.out
          by_cases hx2 : x < 128
          · by_cases hxz : x = 0
            · have hxz' : (x == 0) = true := by simp [hxz]
              have HE : Hid (G = (0, -1)) := by have := HR.out; rw [dec_bad _ _ _ _ _ _ hin (by rw [← HX.out]; exact hx2) (by rw [← HX.out]; left; exact ⟨hxz, by omega⟩)] at this; exact this
              clear hxz
              go_wp2
              go_ret2
              exact ⟨ret2 HE.out, rfl⟩
            · have hxz' : (x == 0) = false := by simp [hxz]
              have HE : Hid (G = (N + x % 128 * 16384, (A : Int) + 3)) := by have := HR.out; rw [dec_good _ _ _ _ _ _ hin (by rw [← HX.out]; exact hx2) (by rw [← HX.out]; omega)] at this; rw [HX.out]; exact this
              clear hxz
              go_wp2
              go_ret2
              exact ⟨ret2' HE.out (by omega) (by omega), rfl⟩
          · have HE : Hid (G = outOf A (dec 2 3 (N + x % 128 * 16384) 2097152 (l.drop (A + 3)))) := by have := HR.out; rw [dec_more _ _ _ _ _ _ hin (by rw [← HX.out]; exact hx2)] at this; rw [HX.out]; exact this
            go_wp2
            go_round
            case rel => exact ⟨3, N + x % 128 * 16384, 2097152, by omega, by omega, by omega, rfl, rfl, rfl, rfl, HE⟩
            case measure => simp [intOf]
        case inr.inr.inr.inl =>
          obtain rfl : sc = 2097152 := HS.out
          by_cases hx2 : x < 128
          · by_cases hxz : x = 0
            · have hxz' : (x == 0) = true := by simp [hxz]
              have HE : Hid (G = (0, -1)) := by have := HR.out; rw [dec_bad _ _ _ _ _ _ hin (by rw [← HX.out]; exact hx2) (by rw [← HX.out]; left; exact ⟨hxz, by omega⟩)] at this; exact this
              clear hxz
              go_wp2
              go_ret2
              exact ⟨ret2 HE.out, rfl⟩
            · have hxz' : (x == 0) = false := by simp [hxz]
              have HE : Hid (G = (N + x % 128 * 2097152, (A : Int) + 4)) := by have := HR.out; rw [dec_good _ _ _ _ _ _ hin (by rw [← HX.out]; exact hx2) (by rw [← HX.out]; omega)] at this; rw [HX.out]; exact this
              clear hxz
              go_wp2
              go_ret2
              exact ⟨ret2' HE.out (by omega) (by omega), rfl⟩
          · have HE : Hid (G = outOf A (dec 1 4 (N + x % 128 * 2097152) 268435456 (l.drop (A + 4)))) := by have := HR.out; rw [dec_more _ _ _ _ _ _ hin (by rw [← HX.out]; exact hx2)] at this; rw [HX.out]; exact this
            go_wp2
            go_round
            case rel => exact ⟨4, N + x % 128 * 2097152, 268435456, by omega, by omega, by omega, rfl, rfl, rfl, rfl, HE⟩
            case measure => simp [intOf]
        case inr.inr.inr.inr.inl =>
          obtain rfl : sc = 268435456 := HS.out
          by_cases hx2 : x < 128
          · by_cases hxz : x = 0
            · have hxz' : (x == 0) = true := by simp [hxz]
              have HE : Hid (G = (0, -1)) := by have := HR.out; rw [dec_bad _ _ _ _ _ _ hin (by rw [← HX.out]; exact hx2) (by rw [← HX.out]; left; exact ⟨hxz, by omega⟩)] at this; exact this
              clear hxz
              go_wp2
              go_ret2
              exact ⟨ret2 HE.out, rfl⟩
            · have hxz' : (x == 0) = false := by simp [hxz]
              by_cases hbig : 2147483647 < N + x % 128 * 268435456
              · have HE : Hid (G = (0, -1)) := by have := HR.out; rw [dec_bad _ _ _ _ _ _ hin (by rw [← HX.out]; exact hx2) (by rw [← HX.out]; right; exact hbig)] at this; exact this
                clear hxz
                go_wp2
                go_ret2
                exact ⟨ret2 HE.out, rfl⟩
              · have HE : Hid (G = (N + x % 128 * 268435456, (A : Int) + 5)) := by have := HR.out; rw [dec_good _ _ _ _ _ _ hin (by rw [← HX.out]; exact hx2) (by rw [← HX.out]; omega)] at this; rw [HX.out]; exact this
                clear hxz
                go_wp2
                go_ret2
                exact ⟨ret2' HE.out (by omega) (by omega), rfl⟩
          · have HE : Hid (G = outOf A (dec 0 5 (N + x % 128 * 268435456) 34359738368 (l.drop (A + 5)))) := by have := HR.out; rw [dec_more _ _ _ _ _ _ hin (by rw [← HX.out]; exact hx2)] at this; rw [HX.out]; exact this
            go_wp2
            go_round
            case rel => exact ⟨5, N + x % 128 * 268435456, 34359738368, by omega, by omega, by omega, rfl, rfl, rfl, rfl, HE⟩
            case measure => simp [intOf]
      · have HE : Hid (G = (0, -1)) := by have := HR.out; rw [dec_end _ _ _ _ _ _ (by omega)] at this; exact this
        by_cases hk5 : k < 5
        all_goals
          go_wp2
          go_ret2
          exact ⟨ret2 HE.out, rfl⟩

theorem specGetNum_b (v : Value) (l : List Int) (at' : Int) (w : World) (hv : Bs w v l) (hl : l.length ≤ 2000000) (hn0 : -9223372036854775808 ≤ at') (hn1 : at' ≤ 9223372036854775807) :
    Calls Tryd.prog 44 #[v, .int .i64 at'] w fun e w' => e = .returned (.tuple #[.int .i64 (getL l at').1, .int .i64 (getL l at').2]) ∧ Below w.heap.size w w' :=
  (specGetNum_any v l at' w hv hl hn0 hn1).mono fun _ _ ⟨h1, h2⟩ => ⟨h1, h2 ▸ Below.refl _ _⟩

end Go.Proofs.YthnlbhmecokomaaDoor

/- What GetText of package spec does. -/
namespace Go.Proofs.YthnlbhmecokomaaDoor
open Go.RowKit
set_option maxRecDepth 100000

set_option maxHeartbeats 400000 in
theorem specGetText_r (v : Value) (l : List Int) (at' : Int) (w : World) (hv : Bs w v l) (hl : l.length ≤ 2000000) (hn0 : -9223372036854775808 ≤ at') (hn1 : at' ≤ 9223372036854775807) :
    Calls Tryd.prog 61 #[v, .int .i64 at'] w fun e w' => ∃ r, e = .returned (.tuple #[r, .int .i64 (getTL l at').2]) ∧ Row w' w.heap.size w'.heap.size r (getTL l at').1 ∧ Below w.heap.size w w' := by
  have HV : Hid (Bs w v l) := hv
  obtain ⟨i0, hi, hz0, hz1, hz2⟩ := info_parts info5
  obtain ⟨a, cap, rfl⟩ : ∃ a cap, v = .slice a l.length cap := by obtain ⟨_, a, cap, h, _⟩ := hv; exact ⟨a, cap, h⟩
  have hbd := getL_bd l at'
  have HT : Hid (getTL l at' = if (getL l at').2 < 0 ∨ 30 < (getL l at').1 ∨ (l.length : Int) - (getL l at').2 < (getL l at').1 then ([], -1) else ((l.drop (getL l at').2.toNat).take (getL l at').1.toNat, (getL l at').2 + (getL l at').1)) := rfl
  generalize hG : getL l at' = G at hbd HT
  generalize getTL l at' = R at HT
  have HG : Hid (getL l at' = G) := hG
  clear hG
  obtain ⟨n, next⟩ := G
  simp only at hbd HT
  by_cases hx : next < 0
  · have HR : Hid (R = ([], -1)) := by rw [HT.out, if_pos (.inl hx)]; rfl
    clear hbd hv
    go_enter Tryd.func61, Tryd.ntmps61
    go_wp2_with fail
    refine (specGetNum_b _ l at' _ HV.out hl hn0 hn1).mono ?_
    rintro e w1 ⟨rfl, B⟩
    rw [HG.out]
    go_wp2
    go_ret2
    rw [HR.out]
    exact ⟨_, rfl, Row.nil _ _ _, B⟩
  · obtain ⟨hb0, hb1, hb2, hb3⟩ : 0 ≤ n ∧ n ≤ 2147483647 ∧ 1 ≤ next ∧ next ≤ l.length := by
      rcases hbd with h | h
      · simp only [Prod.mk.injEq] at h; omega
      · exact h
    clear hbd
    by_cases hy : 30 < n
    · have HR : Hid (R = ([], -1)) := by rw [HT.out, if_pos (.inr (.inl hy))]; rfl
      clear hv
      go_enter Tryd.func61, Tryd.ntmps61
      go_wp2_with fail
      refine (specGetNum_b _ l at' _ HV.out hl hn0 hn1).mono ?_
      rintro e w1 ⟨rfl, B⟩
      rw [HG.out]
      go_wp2
      go_ret2
      rw [HR.out]
      exact ⟨_, rfl, Row.nil _ _ _, B⟩
    · by_cases hz : (l.length : Int) - next < n
      · have HR : Hid (R = ([], -1)) := by rw [HT.out, if_pos (.inr (.inr hz))]; rfl
        clear hv
        go_enter Tryd.func61, Tryd.ntmps61
        go_wp2_with fail
        refine (specGetNum_b _ l at' _ HV.out hl hn0 hn1).mono ?_
        rintro e w1 ⟨rfl, B⟩
        rw [HG.out]
        go_wp2
        go_ret2
        rw [HR.out]
        exact ⟨_, rfl, Row.nil _ _ _, B⟩
      · have HR : Hid (R = ((l.drop next.toNat).take n.toNat, next + n)) := by rw [HT.out, if_neg (by omega)]; rfl
        obtain ⟨N, rfl⟩ := Int.eq_ofNat_of_zero_le hb0
        obtain ⟨X, rfl⟩ := Int.eq_ofNat_of_zero_le (show 0 ≤ next by omega)
        obtain ⟨b, off, rfl⟩ : ∃ b off, a = some ⟨b, off, none⟩ := by
          obtain ⟨_, a', cap', h1, _, _, _, h4⟩ := hv
          simp only [Value.slice.injEq] at h1
          obtain ⟨rfl, -, -⟩ := h1
          obtain ⟨b, off, h, _⟩ := h4 (by omega)
          exact ⟨b, off, h⟩
        have hcap : l.length ≤ cap ∧ cap ≤ 9223372036854775807 := by
          obtain ⟨_, a', cap', h1, h2, h3, _⟩ := hv
          simp only [Value.slice.injEq] at h1
          obtain ⟨-, -, rfl⟩ := h1
          exact ⟨h2, h3⟩
        obtain ⟨hc0, hc1⟩ := hcap
        clear hv
        go_enter Tryd.func61, Tryd.ntmps61
        go_wp2_with fail
        refine (specGetNum_b _ l at' _ HV.out hl hn0 hn1).mono ?_
        rintro e w1 ⟨rfl, B⟩
        rw [HG.out]
        have HE : Hid (OwnB (w1.alloc (.cells #[] 5)) w1.heap.size (.slice (some ⟨w1.heap.size, 0, none⟩) 0 0) []) := ownB_empty w1 _ (Nat.le_refl _)
        have HBE : Hid (Below w1.heap.size w1 (w1.alloc (.cells #[] 5))) := (Below.refl _ _).alloc (Nat.le_refl _) _
        by_cases hcX : cap = X
        · subst hcX
          obtain rfl : N = 0 := by omega
          have HRR : Hid (R = ([], (cap : Int))) := by rw [HR.out]; simp [Hid]
          go_wp2_with (at_builtin; refine wpList_append_bytes rfl (.tmp 28) (.tmp 34) 22 rfl i0 Tryd.underlying22 hi hz0 hz1 hz2 w1.heap.size _ [] rfl HE.out _ [] rfl (bs_empty _ _ _ (by simp)) (by simp) (by simp) w1 HBE.out ?_)
          intro r w2 hO2 hB2 _
          have H2 : Hid (Row w2 w.heap.size w2.heap.size r []) := (OwnB.toRow (by simpa using hO2)).wide B.size (Nat.le_refl _)
          have HB : Hid (Below w.heap.size w w2) := Below.step B hB2
          clear hO2 B hB2
          go_wp2
          go_ret2
          rw [HRR.out]
          exact ⟨_, rfl, H2.out, HB.out⟩
        · have HC : Hid (Bs (w1.alloc (.cells #[] 5)) (.slice (some ⟨b, off + X, none⟩) (X + N - X) (cap - X)) ((l.drop X).take N)) := by rw [Nat.add_sub_cancel_left]; exact (bs_cut (HV.out.below B) X N (by omega)).alloc _
          have HRR : Hid (R = ((l.drop X).take N, (X : Int) + N)) := HR.out
          go_wp2_with (at_builtin; refine wpList_append_bytes rfl (.tmp 28) (.tmp 34) 22 rfl i0 Tryd.underlying22 hi hz0 hz1 hz2 w1.heap.size _ [] rfl HE.out _ ((l.drop X).take N) rfl HC.out (by simp; omega) (by simp) w1 HBE.out ?_)
          intro r w2 hO2 hB2 _
          have H2 : Hid (Row w2 w.heap.size w2.heap.size r ((l.drop X).take N)) := (OwnB.toRow (by simpa using hO2)).wide B.size (Nat.le_refl _)
          have HB : Hid (Below w.heap.size w w2) := Below.step B hB2
          clear hO2 B hB2
          go_wp2
          go_ret2
          rw [HRR.out]
          exact ⟨_, rfl, H2.out, HB.out⟩

end Go.Proofs.YthnlbhmecokomaaDoor

/- What l4get, l4getText of package spec do: numbers and texts are read behind a cursor. -/
namespace Go.Proofs.YthnlbhmecokomaaDoor
open Go.RowKit
set_option maxRecDepth 100000
set_option linter.unusedVariables false

set_option maxRecDepth 100000 in
set_option maxHeartbeats 1000000 in
theorem l4get_c (g : Nat) (bv : Value) (l : List Int) (p : Int) (w : World) (hc : w.heap[g]? = some (.cells #[bv, .int .i64 p] 37 (0, 0))) (hb : Bs w bv l) (hl : l.length ≤ 2000000) (hp0 : -1 ≤ p) (hp1 : p ≤ 9000000) :
    Calls Tryd.prog 24 #[.pointer (some ⟨g, 0, none⟩)] w fun e w' => e = .returned (.int .i64 (gN l p).1) ∧ w'.heap[g]? = some (.cells #[bv, .int .i64 (gN l p).2] 37 (0, 0)) ∧ w.grownBy w' (some g) := by
  have HC : Hid (w.heap[g]? = some (.cells #[bv, .int .i64 p] 37 (0, 0))) := hc
  obtain ⟨c0, c1⟩ := bx2 hc
  have hlg := lt_of_heap hc
  by_cases hn : p < 0
  · have HE : Hid (gN l p = (0, p)) := by simp [Hid, gN, hn]
    go_enter Tryd.func24, Tryd.ntmps24
    go_wp2
    go_ret
    rw [HE.out]
    exact ⟨rfl, HC.out, World.grownBy.refl _ _⟩
  · have HE : Hid (gN l p = getL l p) := by simp [Hid, gN, hn]
    have HB : Hid (Bs w.drew bv l) := hb.below (Below.refl _ _).drew
    obtain ⟨ba, bn, bc, rfl⟩ := hb.form3
    have hcall := specGetNum_any _ l p _ HB.out hl (by omega) (by omega)
    generalize hG : getL l p = G at hcall HE
    obtain ⟨n, q⟩ := G
    simp only at hcall
    have HS : Hid (∀ w', Below w.heap.size w w' → w'.cell? ⟨g, 0, none⟩ = some (.slice ba bn bc) ∧ w'.cell? ⟨g, 1, none⟩ = some (.int .i64 p)) := fun w' h => bx2 (box_below h HC.out)
    have DR : Below w.heap.size w w.drew := (Below.refl _ _).drew
    have fz : ∀ i, w.drew.frozen? ⟨g, i, none⟩ = false := fun i => frozen_of_row w.drew g i _ _ (box_below DR HC.out)
    clear hb hG hc
    go_enter Tryd.func24, Tryd.ntmps24
    go_wp2
    go_region_held3 (fun w' => w'.cell? ⟨g, 0, none⟩ = some (.slice ba bn bc) ∧ w'.cell? ⟨g, 1, none⟩ = some (.int .i64 p))
      (first | exact HS.out _ DR | go_keep)
      ((first | (go_at_call 44; refine hcall.mono ?_; rintro e w1 ⟨rfl, rfl⟩)))
    clear hcall
    have e0 : w.drew.cell? ⟨g, 0, none⟩ = _ := (HS.out _ DR).1
    have e1 : w.drew.cell? ⟨g, 1, none⟩ = _ := (HS.out _ DR).2
    have hlg2 : g < w.drew.heap.size := hlg
    go_wp2
    go_ret
    rw [HE.out]
    refine ⟨rfl, ?_, ?_⟩
    · exact heap_setCell_same w.drew g 1 _ _ _ (box_below DR HC.out)
    · have h : w.grownBy (w.setCell ⟨g, 1, none⟩ (.int .i64 q)) (some g) := grownBy_setCell (World.grownBy.refl w (some g))
      exact ⟨h.os, h.tape, h.output, h.size, h.block⟩

set_option maxRecDepth 100000 in
set_option maxHeartbeats 1000000 in
theorem l4getText_c (g : Nat) (bv : Value) (l : List Int) (p : Int) (w : World) (hc : w.heap[g]? = some (.cells #[bv, .int .i64 p] 37 (0, 0))) (hb : Bs w bv l) (hl : l.length ≤ 2000000) (hp0 : -1 ≤ p) (hp1 : p ≤ 9000000) :
    Calls Tryd.prog 45 #[.pointer (some ⟨g, 0, none⟩)] w fun e w' => ∃ u, e = .returned u ∧ Row w' w.heap.size w'.heap.size u (gT l p).1 ∧ w'.heap[g]? = some (.cells #[bv, .int .i64 (gT l p).2] 37 (0, 0)) ∧ w.grownBy w' (some g) := by
  have HC : Hid (w.heap[g]? = some (.cells #[bv, .int .i64 p] 37 (0, 0))) := hc
  obtain ⟨c0, c1⟩ := bx2 hc
  have hlg := lt_of_heap hc
  by_cases hn : p < 0
  · have HE : Hid (gT l p = ([], p)) := by simp [Hid, gT, hn]
    go_enter Tryd.func45, Tryd.ntmps45
    go_wp2
    go_ret
    rw [HE.out]
    exact ⟨_, rfl, Row.nil _ _ _, HC.out, World.grownBy.refl _ _⟩
  · have HE : Hid (gT l p = getTL l p) := by simp [Hid, gT, hn]
    have HB : Hid (Bs w.drew bv l) := hb.below (Below.refl _ _).drew
    obtain ⟨ba, bn, bc, rfl⟩ := hb.form3
    have hcall := specGetText_r _ l p _ HB.out hl (by omega) (by omega)
    generalize hG : getTL l p = G at hcall HE
    obtain ⟨n, q⟩ := G
    simp only at hcall
    have HS : Hid (∀ w', Below w.heap.size w w' → w'.cell? ⟨g, 0, none⟩ = some (.slice ba bn bc) ∧ w'.cell? ⟨g, 1, none⟩ = some (.int .i64 p)) := fun w' h => bx2 (box_below h HC.out)
    have DR : Below w.heap.size w w.drew := (Below.refl _ _).drew
    clear hb hG hc
    go_enter Tryd.func45, Tryd.ntmps45
    go_wp2
    go_region_held3 (fun w' => w'.cell? ⟨g, 0, none⟩ = some (.slice ba bn bc) ∧ w'.cell? ⟨g, 1, none⟩ = some (.int .i64 p))
      (first | exact HS.out _ C1 | exact HS.out _ DR | go_keep)
      ((first | (go_at_call 61; refine hcall.mono ?_; rintro e w1 ⟨r1, rfl, R1, B1⟩; have C1 := Below.step DR B1)))
    clear hcall
    have K1 := box_below C1 HC.out
    have fz : ∀ i, w1.frozen? ⟨g, i, none⟩ = false := fun i => frozen_of_row w1 g i _ _ K1
    obtain ⟨e0, e1⟩ := bx2 K1
    have hlg2 := lt_of_heap K1
    have HR : Hid (Row (w1.setCell ⟨g, 1, none⟩ (.int .i64 q)) w.heap.size (w1.setCell ⟨g, 1, none⟩ (.int .i64 q)).heap.size r1 n) := by
      have h := R1.set (g := g) (i := 1) (x := .int .i64 q) (.inl hlg)
      simpa [Hid, World.setCell] using h
    go_wp2
    go_ret
    rw [HE.out]
    refine ⟨_, rfl, HR.out, heap_setCell_same w1 g 1 _ _ _ K1, ?_⟩
    exact grownBy_setCell ⟨C1.os, C1.tape, C1.output, C1.size, fun k hk _ => C1.block k hk⟩

end Go.Proofs.YthnlbhmecokomaaDoor
