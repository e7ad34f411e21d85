/- What PutNum of package spec does. -/
import Derived.Test.YtiafkmjndcfjlaaDoorBase
namespace Go.Proofs.YtiafkmjndcfjlaaDoor
open Go.RowKit
set_option maxRecDepth 100000

set_option maxHeartbeats 400000 in
theorem specPutNum_any (v : Value) (l : List Int) (n : Int) (w : World) (hv : Bs w v l) (hl : l.length ≤ 2000000) (hn0 : -9223372036854775808 ≤ n) (hn1 : n ≤ 9223372036854775807) :
    Calls Tryd.prog 39 #[v, .int .i64 n] w fun e w' => ∃ u, e = .returned u ∧ OwnB w' w.heap.size u (putL l n) ∧ Below w.heap.size w w' := by
  have HV : Hid (∀ o, Bs (w.alloc o) v l) := fun o => hv.alloc o
  have HE : Hid (OwnB (w.alloc (.cells #[] 5)) w.heap.size (.slice (some ⟨w.heap.size, 0, none⟩) 0 0) []) := ownB_empty w _ (Nat.le_refl _)
  have HB : Hid (Below w.heap.size w (w.alloc (.cells #[] 5))) := (Below.refl _ _).alloc (Nat.le_refl _) _
  obtain ⟨i0, hi, hz0, hz1, hz2⟩ := info_parts info5
  clear hv
  by_cases hb : 0 ≤ n ∧ n ≤ 2147483647
  · obtain ⟨hb0, hb1⟩ := hb
    have hp : putL l n = l ++ enc 4 n := by simp [putL, hb0, hb1]
    have HP : Hid (putL l n = l ++ enc 4 n) := hp
    clear hp
    go_enter Tryd.func39, Tryd.ntmps39
    go_wp2_with (at_builtin; refine wpList_append_bytes rfl (.tmp 6) (.tmp 7) 22 rfl i0 Tryd.underlying22 hi hz0 hz1 hz2 w.heap.size _ [] rfl HE.out v l rfl (HV.out _) (by simp; omega) (by simp) w HB.out ?_)
    intro v1 w1 hO1 hB1 _
    have HO1 : Hid (OwnB w1 w.heap.size v1 l) := by simpa [Hid] using hO1
    clear hO1
    go_wp2_with fail
    go_loopw [1, 5] (fun t q wr => ∃ (f : Nat) (m : Int) (xs : List Int), 0 ≤ m ∧ m ≤ 2147483647 ∧ f ≤ 4 ∧ Hid (m < 128 * 128 ^ f) ∧ t = .int .i64 m ∧ Hid (OwnB wr w.heap.size q xs) ∧ Hid (xs ++ enc f m = l ++ enc 4 n) ∧ xs.length + f = l.length + 4 ∧ Below w.heap.size w wr) (fun t _ _ => (intOf t).toNat)
    case atStart => exact ⟨4, n, l, hb0, hb1, by omega, by simp [Hid]; omega, rfl, HO1, rfl, rfl, hB1⟩
    case round =>
      obtain ⟨f, m, xs, hm0, hm1, hf, HM, rfl, HX, HEQ, hxl, hBr⟩ := hrel
      have HXL : Hid (xs.length + f = l.length + 4) := hxl
      have hxl' : xs.length ≤ l.length + 4 := by omega
      clear hxl
      have hsz := hBr.size
      by_cases hlt : 127 < m
      · obtain ⟨f', rfl⟩ : ∃ f', f = f' + 1 := by
          cases f with
          | zero => have := HM.out; simp at this; omega
          | succ f' => exact ⟨f', rfl⟩
        go_wp2_with (at_builtin; refine wpList_append_bytes rfl (.tmp 18) (.tmp 23) 22 rfl i0 Tryd.underlying22 hi hz0 hz1 hz2 w.heap.size _ xs rfl (HX.out.alloc _) _ [m % 128 + 128] rfl (bs_one _ _ (by omega)) (by simp; omega) (by simp; omega) w (hBr.alloc hsz _) ?_)
        intro v2 w2 hO2 hB2 _
        have HO2 : Hid (OwnB w2 w.heap.size v2 (xs ++ [m % 128 + 128])) := hO2
        clear hO2
        go_wp2
        go_roundw
        case rel => exact ⟨f', m / 128, xs ++ [m % 128 + 128], by omega, by omega, by omega, by have := HM.out; unfold Hid; rw [Int.pow_succ] at this; omega, by go_num, HO2, enc_step hlt HEQ.out, by have := HXL.out; simp; omega, hB2⟩
        case measure => simp [intOf]; omega
      · go_wp2_with (at_builtin; refine wpList_append_bytes rfl (.tmp 27) (.tmp 30) 22 rfl i0 Tryd.underlying22 hi hz0 hz1 hz2 w.heap.size _ xs rfl (HX.out.alloc _) _ [m] rfl (bs_one _ _ (by omega)) (by simp; omega) (by simp; omega) w (hBr.alloc hsz _) ?_)
        intro v2 w2 hO2 hB2 _
        have HO2 : Hid (OwnB w2 w.heap.size v2 (putL l n)) := by
          rw [HP.out, ← HEQ.out]
          rw [enc_lo f m (by omega)]; exact hO2
        clear hO2
        go_wp2
        go_ret
        exact ⟨_, rfl, HO2.out, hB2⟩
  · have hp : putL l n = l := by simp [putL]; omega
    have HP : Hid (putL l n = l) := hp
    clear hp
    by_cases hneg : n < 0
    all_goals
      go_enter Tryd.func39, Tryd.ntmps39
      go_wp2_with (at_builtin; refine wpList_append_bytes rfl (.tmp 6) (.tmp 7) 22 rfl i0 Tryd.underlying22 hi hz0 hz1 hz2 w.heap.size _ [] rfl HE.out v l rfl (HV.out _) (by simp; omega) (by simp) w HB.out ?_)
      intro v1 w1 hO1 hB1 _
      have HO1 : Hid (OwnB w1 w.heap.size v1 l) := by simpa [Hid] using hO1
      clear hO1
      go_wp2
      go_ret
      exact ⟨_, rfl, by rw [HP.out]; exact HO1.out, hB1⟩

theorem specPutNum_r (v : Value) (l : List Int) (n : Int) (w : World) (hv : Bs w v l) (hl : l.length ≤ 2000000) (hn0 : -9223372036854775808 ≤ n) (hn1 : n ≤ 9223372036854775807) :
    Calls Tryd.prog 39 #[v, .int .i64 n] w fun e w' => ∃ u, e = .returned u ∧ Row w' w.heap.size w'.heap.size u (putL l n) ∧ Below w.heap.size w w' :=
  (specPutNum_any v l n w hv hl hn0 hn1).mono fun _ _ ⟨u, h1, h2, h3⟩ => ⟨u, h1, h2.toRow, h3⟩

end Go.Proofs.YtiafkmjndcfjlaaDoor
