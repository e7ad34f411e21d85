/- What DrawGetNum of package spec answers. -/
import Derived.Test.YtjpojpjgcomibabDraw4
import Derived.Test.YtjpojpjgcomibabSPutNum
namespace Go.Proofs.Ytjpojpjgcomibab
open Go.RowKit

set_option maxHeartbeats 1000000 in
theorem drawGetNum_any (v : Value) (L : List Int) (w : World) (hv : Bs w v L) :
    Calls Try.prog 11 #[v] w fun e w' => ∃ u l n, e = .returned (.tuple #[u, .int .i64 n]) ∧ l.length ≤ 20 ∧ -9223372036854775808 ≤ n ∧ n ≤ 9223372036854775807 ∧ Row w' w.heap.size w'.heap.size u l ∧ Below w.heap.size w w' := by
  obtain ⟨i0, hi, hz0, hz1, hz2⟩ := info_parts info5
  go_enter Try.func11, Try.ntmps11
  go_wp2_with fail
  refine (l1New_any v L _ hv).mono ?_
  rintro e w1 ⟨g, rfl, hc, B⟩
  obtain ⟨s1, s1'⟩ := hc.lt
  have s0 := B.size
  go_wp2_with fail
  refine (l1some_any w _ g v L 3 hc (by omega)).mono ?_
  rintro e w2 ⟨u, l, rfl, hl, R, hc2, hg2⟩
  have X := below_grown B hg2 s1
  have s2 := hg2.size
  obtain ⟨a2, cap2, rfl⟩ : ∃ a cap, u = .slice a l.length cap := by obtain ⟨_, a, cap, h, _⟩ := R.bs; exact ⟨a, cap, h⟩
  go_wp2_with fail
  refine (l1num_any w _ g v L hc2).mono ?_
  rintro e w3 ⟨n, rfl, hn0, hn1, hc3, hg3⟩
  replace X := below_grown X hg3 s1
  replace R := R.drawn hg3 (.inl s1')
  have s3 := hg3.size
  go_wp2_with fail
  refine (specPutNum_r _ l n _ R.bs (by omega) hn0 hn1).mono ?_
  rintro e w4 ⟨u4, rfl, R4, B4⟩
  replace X := Below.step X B4
  have s4 := B4.size
  have hc4 := hc3.below B4
  have hpl := putL_length l n
  have hp8 : (putL l n).length ≤ 8 := by omega
  generalize putL l n = P at R4 hp8
  clear R hc hc2 hc3 hg2 hg3 B4 hpl
  go_wp2_with fail
  refine (l1some_any w _ g v L 3 hc4 (by omega)).mono ?_
  rintro e w5 ⟨u5, m, rfl, hm, R5, hc5, hg5⟩
  replace X := below_grown X hg5 s1
  have s5 := hg5.size
  have HO5 : Hid (OwnB w5 w1.heap.size u4 P) := ((R4.drawn hg5 (.inl (by omega))).wide (show w1.heap.size ≤ w3.heap.size by omega) (Nat.le_refl _)).own
  have HB5 : Hid (Bs w5 u5 m) := R5.bs
  clear R4 R5 hc4 hg5
  go_wp2_with (at_builtin; refine wpList_append_bytes rfl (.tmp 17) (.tmp 19) 22 rfl i0 Try.underlying22 hi hz0 hz1 hz2 w1.heap.size _ P rfl HO5.out _ m rfl HB5.out (by omega) (by omega) w5 (Below.refl _ _) ?_)
  intro u6 w6 hO6 hB6 _
  have R6 := hO6.toRow
  have hc6 := hc5.belowB hB6 s1'
  replace X := X.trans (hB6.mono (by omega))
  have s6 := hB6.size
  have hl6 : (P ++ m).length ≤ 11 := by simp; omega
  generalize P ++ m = Q at R6 hl6
  clear hO6 hB6 hc5 HO5 HB5
  go_wp2_with fail
  refine (l1Once_any w _ g v L 3 hc6 (by omega) (by omega)).mono ?_
  rintro e w7 ⟨x, rfl, hc7, hg7⟩
  replace X := below_grown X hg7 s1
  replace R6 := R6.drawn hg7 (.inl s1')
  have s7 := hg7.size
  clear hc6 hg7
  cases x with
  | true =>
    go_wp2_with fail
    refine (l1spoil_any w _ g v u6 L Q hc7 R6.bs (by omega)).mono ?_
    rintro e w8 ⟨u8, q, rfl, hq, R8, hc8, hg8⟩
    replace X := below_grown X hg8 s1
    have s8 := hg8.size
    replace R8 := R8.wide (show w1.heap.size ≤ w7.heap.size by omega) (Nat.le_refl _)
    clear R6 hc7 hg8
    obtain ⟨a9, cap9, rfl⟩ : ∃ a cap, u8 = .slice a q.length cap := by obtain ⟨_, a, cap, h, _⟩ := R8.bs; exact ⟨a, cap, h⟩
    go_wp2_with fail
    refine (l1Once_any w _ g v L 6 hc8 (by omega) (by omega)).mono ?_
    rintro e w9 ⟨z, rfl, hc9, hg9⟩
    replace X := below_grown X hg9 s1
    have R9 := R8.drawn hg9 (.inl s1')
    have s9 := hg9.size
    clear R8 hc8 hg9
    cases z with
    | false =>
      have R9' := R9.wide s0 (show _ ≤ w9.heap.size by omega)
      clear R9
      go_wp2
      go_ret2
      exact ⟨_, _, _, rfl, by omega, by omega, by omega, R9', X⟩
    | true =>
      have hlt9 := hc9.lt.2
      go_wp2_with fail
      refine (l1PickInt_any w _ g 6 v _ L (hc9.below ((Below.refl _ _).alloc (Nat.le_refl _) _)) (ints_made w9 g [-1, 0, (q.length : Int), (q.length : Int) + 1, 9223372036854775807, -9223372036854775808] _ hlt9 (by simp) (by simp) (by simp; omega))).mono ?_
      rintro e w10 ⟨y, rfl, hy0, hy1, hc10, hg10⟩
      have B9 : ∀ o, Below w9.heap.size w9 (w9.alloc o) := fun o => (Below.refl _ _).alloc (Nat.le_refl _) o
      replace X := below_grown (Below.step X (B9 _)) hg10 s1
      have s10 := hg10.size
      simp at s10
      have R10 := ((R9.below (B9 _)).drawn hg10 (.inl s1')).wide s0 (show _ ≤ w10.heap.size by omega)
      clear R9 B9 hc9 hc10 hg10
      go_wp2
      go_ret2
      exact ⟨_, _, _, rfl, by omega, hy0, hy1, R10, X⟩
  | false =>
    obtain ⟨a9, cap9, rfl⟩ : ∃ a cap, u6 = .slice a Q.length cap := by obtain ⟨_, a, cap, h, _⟩ := R6.bs; exact ⟨a, cap, h⟩
    go_wp2_with fail
    refine (l1Once_any w _ g v L 6 hc7 (by omega) (by omega)).mono ?_
    rintro e w9 ⟨z, rfl, hc9, hg9⟩
    replace X := below_grown X hg9 s1
    have R9 := R6.drawn hg9 (.inl s1')
    have s9 := hg9.size
    clear R6 hc7 hg9
    cases z with
    | false =>
      have R9' := R9.wide s0 (show _ ≤ w9.heap.size by omega)
      clear R9
      go_wp2
      go_ret2
      exact ⟨_, _, _, rfl, by omega, by omega, by omega, R9', X⟩
    | true =>
      have hlt9 := hc9.lt.2
      go_wp2_with fail
      refine (l1PickInt_any w _ g 6 v _ L (hc9.below ((Below.refl _ _).alloc (Nat.le_refl _) _)) (ints_made w9 g [-1, 0, (Q.length : Int), (Q.length : Int) + 1, 9223372036854775807, -9223372036854775808] _ hlt9 (by simp) (by simp) (by simp; omega))).mono ?_
      rintro e w10 ⟨y, rfl, hy0, hy1, hc10, hg10⟩
      have B9 : ∀ o, Below w9.heap.size w9 (w9.alloc o) := fun o => (Below.refl _ _).alloc (Nat.le_refl _) o
      replace X := below_grown (Below.step X (B9 _)) hg10 s1
      have s10 := hg10.size
      simp at s10
      have R10 := ((R9.below (B9 _)).drawn hg10 (.inl s1')).wide s0 (show _ ≤ w10.heap.size by omega)
      clear R9 B9 hc9 hc10 hg10
      go_wp2
      go_ret2
      exact ⟨_, _, _, rfl, by omega, hy0, hy1, R10, X⟩

end Go.Proofs.Ytjpojpjgcomibab
