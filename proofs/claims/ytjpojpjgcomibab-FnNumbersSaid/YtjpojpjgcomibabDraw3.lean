/- What DrawPutNum and DrawPutText of package spec answer. -/
import Derived.Test.YtjpojpjgcomibabDraw2
namespace Go.Proofs.Ytjpojpjgcomibab
open Go.RowKit

set_option maxHeartbeats 400000 in
theorem drawPutNum_any (v : Value) (L : List Int) (w : World) (hv : Bs w v L) :
    Calls Try.prog 4 #[v] w fun e w' => ∃ u l n, e = .returned (.tuple #[u, .int .i64 n]) ∧ l.length ≤ 4 ∧ -9223372036854775808 ≤ n ∧ n ≤ 9223372036854775807 ∧ Row w' w.heap.size w'.heap.size u l ∧ Below w.heap.size w w' := by
  go_enter Try.func4, Try.ntmps4
  go_wp2_with fail
  refine (l1New_any v L _ hv).mono ?_
  rintro e w1 ⟨g, rfl, hc, B⟩
  have s1 := hc.lt
  go_wp2_with fail
  refine (l1some_any w _ g v L 4 hc (by omega)).mono ?_
  rintro e w2 ⟨u, l, rfl, hl, R, hc2, hg2⟩
  have X2 := below_grown B hg2 s1.1
  go_wp2_with fail
  refine (l1num_any w _ g v L hc2).mono ?_
  rintro e w3 ⟨n, rfl, hn0, hn1, hc3, hg3⟩
  have X3 := below_grown X2 hg3 s1.1
  have R3 := (R.drawn hg3 (.inl s1.2)).wide B.size hg3.size
  clear R hc hc2 hc3 hg2 hg3 X2 B
  go_wp2
  go_ret2
  exact ⟨_, l, n, rfl, hl, hn0, hn1, R3, X3⟩

set_option maxHeartbeats 400000 in
theorem drawPutText_any (v : Value) (L : List Int) (w : World) (hv : Bs w v L) :
    Calls Try.prog 7 #[v] w fun e w' => ∃ u l u' t, e = .returned (.tuple #[u, u']) ∧ l.length ≤ 3 ∧ t.length ≤ 31 ∧ Row w' w.heap.size w'.heap.size u l ∧ Row w' w.heap.size w'.heap.size u' t ∧ Below w.heap.size w w' := by
  obtain ⟨i0, hi, hz0, hz1, hz2⟩ := info_parts info5
  go_enter Try.func7, Try.ntmps7
  go_wp2_with fail
  refine (l1New_any v L _ hv).mono ?_
  rintro e w1 ⟨g, rfl, hc, B⟩
  have s1 := hc.lt
  go_wp2_with fail
  refine (l1some_any w _ g v L 3 hc (by omega)).mono ?_
  rintro e w2 ⟨u, l, rfl, hl, R, hc2, hg2⟩
  have X2 := below_grown B hg2 s1.1
  have s2 := hg2.size
  go_wp2_with fail
  refine (l1some_any w _ g v L 6 hc2 (by omega)).mono ?_
  rintro e w3 ⟨u', t, rfl, ht, R', hc3, hg3⟩
  have X3 := below_grown X2 hg3 s1.1
  have s3 := hg3.size
  have R3 := R.drawn hg3 (.inl s1.2)
  go_wp2_with fail
  refine (l1Once_any w _ g v L 6 hc3 (by omega) (by omega)).mono ?_
  rintro e w4 ⟨x, rfl, hc4, hg4⟩
  have X4 := below_grown X3 hg4 s1.1
  have s4 := hg4.size
  have R4 := (R3.drawn hg4 (.inl s1.2)).wide (Nat.le_refl _) (show w2.heap.size ≤ w4.heap.size by omega)
  have R4' := (R'.drawn hg4 (.inl (by omega))).wide (show w.heap.size ≤ w2.heap.size from X2.size) s4
  have HB : Hid (w.heap.size ≤ w4.heap.size) := X4.size
  clear R R' R3 hc hc2 hc3 hg2 hg3 hg4 X2 X3
  cases x with
  | false =>
    go_wp2
    go_ret2
    exact ⟨_, l, _, t, rfl, hl, by omega, R4.wide B.size (Nat.le_refl _), R4', X4⟩
  | true =>
    go_wp2_with fail
    refine (l1Below_any w _ g v L 2 hc4 (by omega) (by omega)).mono ?_
    rintro e w5 ⟨y, rfl, hy0, hy1, hc5, hg5⟩
    have X5 := below_grown X4 hg5 s1.1
    have s5 := hg5.size
    have R5 := R4.drawn hg5 (.inl s1.2)
    obtain ⟨Y, rfl⟩ := Int.eq_ofNat_of_zero_le hy0
    have hY : Y ≤ 1 := by omega
    clear R4 R4' hc4 hc5 hg5 X4
    go_wp2_with (at_make; refine wpList_make_full _ rfl _ _ 22 rfl w5.heap.size 5 i0 (.int .u8 0) 1 Try.underlying22 hi hz0 hz1 _ _ _ _ (30 + Y) rfl rfl (by omega) (by omega) (by rw [hz2]; omega) (by unfold maxLen; omega) (Nat.le_refl _) ?_)
    intro w6 hown hgrow
    have B6 := (Below.refl w5.heap.size w5).grown hgrow (Nat.le_refl _) (by simp)
    have s6 := B6.size
    have O6 : Own w6 w5.heap.size (.slice (some ⟨w5.heap.size, 0, none⟩) (List.replicate (30 + Y) (0 : Int)).length (List.replicate (30 + Y) (0 : Int)).length) (List.replicate (30 + Y) 0) :=
      own_made (by intro z hz; have := (List.mem_replicate.1 hz).2; omega) (by simp [maxLen]; omega) (by have := made_heap hown; simpa [vals] using this)
    simp only [List.length_replicate] at O6
    have H6 : Hid (Row w6 w.heap.size w6.heap.size (.slice (some ⟨w5.heap.size, 0, none⟩) (30 + Y) (30 + Y)) (List.replicate (30 + Y) 0)) := (OwnB.toRow ⟨_, Nat.le_refl _, O6⟩).wide (by omega) (Nat.le_refl _)
    have H6' : Hid (Row w6 w.heap.size w6.heap.size u l) := (R5.below B6).wide B.size (by omega)
    have HX : Hid (Below w.heap.size w w6) := Below.step X5 B6
    clear hown hgrow B6 O6 R5 X5 B
    go_wp2
    go_ret2
    exact ⟨_, l, _, _, rfl, hl, by simp; omega, H6'.out, H6.out, HX.out⟩

end Go.Proofs.Ytjpojpjgcomibab
