/- The proof's texts, part 6. -/
import Derived.Test.YtdokgpdfdenoaaaGreatPart5
import Derived.Test.YtdokgpdfdenoaaaGreatPart1
import Derived.Deep.Light
import Derived.Test.YtdokgpdfdenoaaaGreatPart4
import Derived.Shelf.Abstract
import Derived.Deep.RegionHeld3

/- What CmdOk of package spec does of kind 5. -/
namespace Go.Proofs.YtdokgpdfdenoaaaGreat
open Go.RowKit
set_option maxRecDepth 100000
set_option linter.unusedVariables false

set_option maxRecDepth 100000 in
set_option maxHeartbeats 4000000 in
theorem specCmdOk_5 (a0 a1 a2 : Option Addr) (nb nt nx c0 c1 c2 : Nat) (bx tt : List Int) (uid mode fl si : Int) (tx : List Int) (w : World) (HN : Hid (bx.length = nb ∧ tt.length = nt ∧ tx.length = nx))
    (H0 : Hid (∀ o, Bs (w.alloc o) (.slice a0 nb c0) bx ∧ Bs (w.alloc o) (.slice a1 nt c1) tt ∧ Bs (w.alloc o) (.slice a2 nx c2) tx)) (i10 : -9223372036854775808 ≤ uid) (i11 : uid ≤ 9223372036854775807) (i20 : -9223372036854775808 ≤ mode) (i21 : mode ≤ 9223372036854775807) (i30 : -9223372036854775808 ≤ fl) (i31 : fl ≤ 9223372036854775807) (i40 : -9223372036854775808 ≤ si) (i41 : si ≤ 9223372036854775807) :
    Calls Tryz.prog 34 #[.agg #[.int .i64 5, .slice a0 nb c0, .slice a1 nt c1, .int .i64 uid, .int .i64 mode, .int .i64 fl, .int .i64 si, .slice a2 nx c2]] w fun e w' => e = .returned (.bool (cmdB 5 bx tt uid mode fl si tx)) ∧ Below w.heap.size w w' := by
  have hp : ∀ w, Calls Tryz.prog 55 #[.int .i64 5] w fun e w' => e = .returned (.tuple #[.bool false, .bool true, .bool false, .bool false, .bool false]) ∧ w' = w := fun w => l3parts_any 5 w
  have ab : Hid (∀ o, Below w.heap.size w (w.alloc o)) := fun o => (Below.refl _ _).alloc (Nat.le_refl _) o
  rcases Nat.eq_zero_or_pos nb with rfl | hnb
  all_goals rcases Nat.eq_zero_or_pos nt with rfl | hnt
  all_goals try have hnb' : (nb : Int) ≠ 0 := by omega
  all_goals try have hnt' : (nt : Int) ≠ 0 := by omega
  all_goals try have hnt2 : (0 : Int) < nt := by omega
  all_goals go_enter Tryz.func34, Tryz.ntmps34
  all_goals go_wp2_with (first
    | (go_at_call 54; (refine (l3name_any _ bx _ (H0.out _).1).mono ?_); rintro e w' ⟨rfl, rfl⟩)
    | (go_at_call 56; refine (l3text_any _ tx _ (H0.out _).2.2).mono ?_; rintro e w' ⟨rfl, rfl⟩)
    | (go_at_call 55; refine (hp _).mono ?_; rintro e w' ⟨rfl, rfl⟩)
    | (go_at_call 32; refine (l3seq_any _ _).mono ?_; rintro e w' ⟨rfl, rfl⟩))
  all_goals go_ret
  all_goals refine ⟨ret_b ?_, ab.out _⟩
  all_goals clear hp H0
  all_goals have HN' := HN.out
  all_goals (try go_light)
  all_goals obtain ⟨e0, e1, e2⟩ := HN'
  all_goals clear HN ab
  all_goals have z0 := nameB_nil (l := bx)
  all_goals have z1 := nameB_nil (l := tt)
  all_goals have z2 := textB_nil (l := tx)
  all_goals (try have y0 := HX.out)
  all_goals (try have y1 := HY.out)
  all_goals (try clear HX HY)
  all_goals (unfold cmdB; unfold inB at *; cases hn : nameB bx <;> cases hm : nameB tt <;> cases ht : textB tx <;> simp [hn, hm, ht, e0, e1, e2] at * <;> first | omega | (rw [Bool.eq_iff_iff]; simp; omega))

end Go.Proofs.YtdokgpdfdenoaaaGreat

/- What CmdOk of package spec does of kind 6. -/
namespace Go.Proofs.YtdokgpdfdenoaaaGreat
open Go.RowKit
set_option maxRecDepth 100000
set_option linter.unusedVariables false

set_option maxRecDepth 100000 in
set_option maxHeartbeats 4000000 in
theorem specCmdOk_6 (a0 a1 a2 : Option Addr) (nb nt nx c0 c1 c2 : Nat) (bx tt : List Int) (uid mode fl si : Int) (tx : List Int) (w : World) (HN : Hid (bx.length = nb ∧ tt.length = nt ∧ tx.length = nx))
    (H0 : Hid (∀ o, Bs (w.alloc o) (.slice a0 nb c0) bx ∧ Bs (w.alloc o) (.slice a1 nt c1) tt ∧ Bs (w.alloc o) (.slice a2 nx c2) tx)) (i10 : -9223372036854775808 ≤ uid) (i11 : uid ≤ 9223372036854775807) (i20 : -9223372036854775808 ≤ mode) (i21 : mode ≤ 9223372036854775807) (i30 : -9223372036854775808 ≤ fl) (i31 : fl ≤ 9223372036854775807) (i40 : -9223372036854775808 ≤ si) (i41 : si ≤ 9223372036854775807) :
    Calls Tryz.prog 34 #[.agg #[.int .i64 6, .slice a0 nb c0, .slice a1 nt c1, .int .i64 uid, .int .i64 mode, .int .i64 fl, .int .i64 si, .slice a2 nx c2]] w fun e w' => e = .returned (.bool (cmdB 6 bx tt uid mode fl si tx)) ∧ Below w.heap.size w w' := by
  have hp : ∀ w, Calls Tryz.prog 55 #[.int .i64 6] w fun e w' => e = .returned (.tuple #[.bool true, .bool true, .bool true, .bool false, .bool false]) ∧ w' = w := fun w => l3parts_any 6 w
  have ab : Hid (∀ o, Below w.heap.size w (w.alloc o)) := fun o => (Below.refl _ _).alloc (Nat.le_refl _) o
  rcases Nat.eq_zero_or_pos nb with rfl | hnb
  · go_enter Tryz.func34, Tryz.ntmps34
    go_wp2
    go_ret
    exact ⟨ret_b (by have h0 := nameB_nil HN.out.1; unfold cmdB; simp [h0]), ab.out _⟩
  have hnb' : (nb : Int) ≠ 0 := by omega
  have hn0 : ∀ o, Calls Tryz.prog 54 #[.slice a0 nb c0] (w.alloc o) fun e w' => e = .returned (.bool (nameB bx)) ∧ w' = w.alloc o := fun o => l3name_any _ bx _ (H0.out o).1
  have hn1 : ∀ o, Calls Tryz.prog 54 #[.slice a1 nt c1] (w.alloc o) fun e w' => e = .returned (.bool (nameB tt)) ∧ w' = w.alloc o := fun o => l3name_any _ tt _ (H0.out o).2.1
  generalize hX : nameB bx = X at hn0
  generalize hY : nameB tt = Y at hn1
  have HX : Hid (nameB bx = X) := hX
  have HY : Hid (nameB tt = Y) := hY
  clear hX hY
  rcases X with _ | _
  · go_enter Tryz.func34, Tryz.ntmps34
    go_wp2_with fail
    refine (hn0 _).mono ?_
    rintro e w' ⟨rfl, rfl⟩
    go_wp2
    go_ret
    exact ⟨ret_b (by have h0 := HX.out; unfold cmdB; simp [h0]), ab.out _⟩
  rcases Nat.eq_zero_or_pos nt with rfl | hnt
  · go_enter Tryz.func34, Tryz.ntmps34
    go_wp2_with fail
    refine (hn0 _).mono ?_
    rintro e w' ⟨rfl, rfl⟩
    go_wp2_with (first
    | (go_at_call 56; refine (l3text_any _ tx _ (H0.out _).2.2).mono ?_; rintro e w' ⟨rfl, rfl⟩)
    | (go_at_call 55; refine (hp _).mono ?_; rintro e w' ⟨rfl, rfl⟩)
    | (go_at_call 32; refine (l3seq_any _ _).mono ?_; rintro e w' ⟨rfl, rfl⟩))
    go_ret
    exact ⟨ret_b (by have h0 := nameB_nil HN.out.2.1; unfold cmdB; simp [h0]), ab.out _⟩
  have hnt' : (nt : Int) ≠ 0 := by omega
  have hnt2 : (0 : Int) < nt := by omega
  rcases Y with _ | _
  · go_enter Tryz.func34, Tryz.ntmps34
    go_wp2_with fail
    refine (hn0 _).mono ?_
    rintro e w' ⟨rfl, rfl⟩
    go_wp2_with (first
    | (go_at_call 56; refine (l3text_any _ tx _ (H0.out _).2.2).mono ?_; rintro e w' ⟨rfl, rfl⟩)
    | (go_at_call 55; refine (hp _).mono ?_; rintro e w' ⟨rfl, rfl⟩)
    | (go_at_call 32; refine (l3seq_any _ _).mono ?_; rintro e w' ⟨rfl, rfl⟩))
    refine (hn1 _).mono ?_
    rintro e w' ⟨rfl, rfl⟩
    go_wp2_with (first
    | (go_at_call 56; refine (l3text_any _ tx _ (H0.out _).2.2).mono ?_; rintro e w' ⟨rfl, rfl⟩)
    | (go_at_call 55; refine (hp _).mono ?_; rintro e w' ⟨rfl, rfl⟩)
    | (go_at_call 32; refine (l3seq_any _ _).mono ?_; rintro e w' ⟨rfl, rfl⟩))
    go_ret
    exact ⟨ret_b (by have h0 := HY.out; unfold cmdB; simp [h0]), ab.out _⟩
  go_enter Tryz.func34, Tryz.ntmps34
  go_wp2_with fail
  refine (hn0 _).mono ?_
  rintro e w' ⟨rfl, rfl⟩
  go_wp2_with (first
    | (go_at_call 56; refine (l3text_any _ tx _ (H0.out _).2.2).mono ?_; rintro e w' ⟨rfl, rfl⟩)
    | (go_at_call 55; refine (hp _).mono ?_; rintro e w' ⟨rfl, rfl⟩)
    | (go_at_call 32; refine (l3seq_any _ _).mono ?_; rintro e w' ⟨rfl, rfl⟩))
  refine (hn1 _).mono ?_
  rintro e w' ⟨rfl, rfl⟩
  go_wp2_with (first
    | (go_at_call 56; refine (l3text_any _ tx _ (H0.out _).2.2).mono ?_; rintro e w' ⟨rfl, rfl⟩)
    | (go_at_call 55; refine (hp _).mono ?_; rintro e w' ⟨rfl, rfl⟩)
    | (go_at_call 32; refine (l3seq_any _ _).mono ?_; rintro e w' ⟨rfl, rfl⟩))
  all_goals go_ret
  all_goals refine ⟨ret_b ?_, ab.out _⟩
  all_goals clear hp H0 hn0 hn1
  all_goals have HN' := HN.out
  all_goals (try go_light)
  all_goals obtain ⟨e0, e1, e2⟩ := HN'
  all_goals clear HN ab
  all_goals have z0 := nameB_nil (l := bx)
  all_goals have z1 := nameB_nil (l := tt)
  all_goals have z2 := textB_nil (l := tx)
  all_goals (try have y0 := HX.out)
  all_goals (try have y1 := HY.out)
  all_goals (try clear HX HY)
  all_goals (unfold cmdB; unfold inB at *; cases hn : nameB bx <;> cases hm : nameB tt <;> cases ht : textB tx <;> simp [hn, hm, ht, e0, e1, e2] at * <;> first | omega | (rw [Bool.eq_iff_iff]; simp; omega))

end Go.Proofs.YtdokgpdfdenoaaaGreat

/- What CmdOk of package spec does of kind 8. -/
namespace Go.Proofs.YtdokgpdfdenoaaaGreat
open Go.RowKit
set_option maxRecDepth 100000
set_option linter.unusedVariables false

set_option maxRecDepth 100000 in
set_option maxHeartbeats 4000000 in
theorem specCmdOk_8 (a0 a1 a2 : Option Addr) (nb nt nx c0 c1 c2 : Nat) (bx tt : List Int) (uid mode fl si : Int) (tx : List Int) (w : World) (HN : Hid (bx.length = nb ∧ tt.length = nt ∧ tx.length = nx))
    (H0 : Hid (∀ o, Bs (w.alloc o) (.slice a0 nb c0) bx ∧ Bs (w.alloc o) (.slice a1 nt c1) tt ∧ Bs (w.alloc o) (.slice a2 nx c2) tx)) (i10 : -9223372036854775808 ≤ uid) (i11 : uid ≤ 9223372036854775807) (i20 : -9223372036854775808 ≤ mode) (i21 : mode ≤ 9223372036854775807) (i30 : -9223372036854775808 ≤ fl) (i31 : fl ≤ 9223372036854775807) (i40 : -9223372036854775808 ≤ si) (i41 : si ≤ 9223372036854775807) :
    Calls Tryz.prog 34 #[.agg #[.int .i64 8, .slice a0 nb c0, .slice a1 nt c1, .int .i64 uid, .int .i64 mode, .int .i64 fl, .int .i64 si, .slice a2 nx c2]] w fun e w' => e = .returned (.bool (cmdB 8 bx tt uid mode fl si tx)) ∧ Below w.heap.size w w' := by
  have hp : ∀ w, Calls Tryz.prog 55 #[.int .i64 8] w fun e w' => e = .returned (.tuple #[.bool false, .bool false, .bool false, .bool true, .bool false]) ∧ w' = w := fun w => l3parts_any 8 w
  have ab : Hid (∀ o, Below w.heap.size w (w.alloc o)) := fun o => (Below.refl _ _).alloc (Nat.le_refl _) o
  rcases Nat.eq_zero_or_pos nb with rfl | hnb
  all_goals rcases Nat.eq_zero_or_pos nt with rfl | hnt
  all_goals try have hnb' : (nb : Int) ≠ 0 := by omega
  all_goals try have hnt' : (nt : Int) ≠ 0 := by omega
  all_goals try have hnt2 : (0 : Int) < nt := by omega
  all_goals go_enter Tryz.func34, Tryz.ntmps34
  all_goals go_wp2_with (first
    | (go_at_call 54; (refine (l3name_any _ bx _ (H0.out _).1).mono ?_); rintro e w' ⟨rfl, rfl⟩)
    | (go_at_call 56; refine (l3text_any _ tx _ (H0.out _).2.2).mono ?_; rintro e w' ⟨rfl, rfl⟩)
    | (go_at_call 55; refine (hp _).mono ?_; rintro e w' ⟨rfl, rfl⟩)
    | (go_at_call 32; refine (l3seq_any _ _).mono ?_; rintro e w' ⟨rfl, rfl⟩))
  all_goals go_ret
  all_goals refine ⟨ret_b ?_, ab.out _⟩
  all_goals clear hp H0
  all_goals have HN' := HN.out
  all_goals (try go_light)
  all_goals obtain ⟨e0, e1, e2⟩ := HN'
  all_goals clear HN ab
  all_goals have z0 := nameB_nil (l := bx)
  all_goals have z1 := nameB_nil (l := tt)
  all_goals have z2 := textB_nil (l := tx)
  all_goals (try have y0 := HX.out)
  all_goals (try have y1 := HY.out)
  all_goals (try clear HX HY)
  all_goals (unfold cmdB; unfold inB at *; cases hn : nameB bx <;> cases hm : nameB tt <;> cases ht : textB tx <;> simp [hn, hm, ht, e0, e1, e2] at * <;> first | omega | (rw [Bool.eq_iff_iff]; simp; omega))

end Go.Proofs.YtdokgpdfdenoaaaGreat

/- What CmdOk of package spec does of kind 9. -/
namespace Go.Proofs.YtdokgpdfdenoaaaGreat
open Go.RowKit
set_option maxRecDepth 100000
set_option linter.unusedVariables false

set_option maxRecDepth 100000 in
set_option maxHeartbeats 4000000 in
theorem specCmdOk_9 (a0 a1 a2 : Option Addr) (nb nt nx c0 c1 c2 : Nat) (bx tt : List Int) (uid mode fl si : Int) (tx : List Int) (w : World) (HN : Hid (bx.length = nb ∧ tt.length = nt ∧ tx.length = nx))
    (H0 : Hid (∀ o, Bs (w.alloc o) (.slice a0 nb c0) bx ∧ Bs (w.alloc o) (.slice a1 nt c1) tt ∧ Bs (w.alloc o) (.slice a2 nx c2) tx)) (i10 : -9223372036854775808 ≤ uid) (i11 : uid ≤ 9223372036854775807) (i20 : -9223372036854775808 ≤ mode) (i21 : mode ≤ 9223372036854775807) (i30 : -9223372036854775808 ≤ fl) (i31 : fl ≤ 9223372036854775807) (i40 : -9223372036854775808 ≤ si) (i41 : si ≤ 9223372036854775807) :
    Calls Tryz.prog 34 #[.agg #[.int .i64 9, .slice a0 nb c0, .slice a1 nt c1, .int .i64 uid, .int .i64 mode, .int .i64 fl, .int .i64 si, .slice a2 nx c2]] w fun e w' => e = .returned (.bool (cmdB 9 bx tt uid mode fl si tx)) ∧ Below w.heap.size w w' := by
  have hp : ∀ w, Calls Tryz.prog 55 #[.int .i64 9] w fun e w' => e = .returned (.tuple #[.bool false, .bool false, .bool false, .bool false, .bool false]) ∧ w' = w := fun w => l3parts_any 9 w
  have ab : Hid (∀ o, Below w.heap.size w (w.alloc o)) := fun o => (Below.refl _ _).alloc (Nat.le_refl _) o
  rcases Nat.eq_zero_or_pos nb with rfl | hnb
  all_goals rcases Nat.eq_zero_or_pos nt with rfl | hnt
  all_goals try have hnb' : (nb : Int) ≠ 0 := by omega
  all_goals try have hnt' : (nt : Int) ≠ 0 := by omega
  all_goals try have hnt2 : (0 : Int) < nt := by omega
  all_goals go_enter Tryz.func34, Tryz.ntmps34
  all_goals go_wp2_with (first
    | (go_at_call 54; (refine (l3name_any _ bx _ (H0.out _).1).mono ?_); rintro e w' ⟨rfl, rfl⟩)
    | (go_at_call 56; refine (l3text_any _ tx _ (H0.out _).2.2).mono ?_; rintro e w' ⟨rfl, rfl⟩)
    | (go_at_call 55; refine (hp _).mono ?_; rintro e w' ⟨rfl, rfl⟩)
    | (go_at_call 32; refine (l3seq_any _ _).mono ?_; rintro e w' ⟨rfl, rfl⟩))
  all_goals go_ret
  all_goals refine ⟨ret_b ?_, ab.out _⟩
  all_goals clear hp H0
  all_goals have HN' := HN.out
  all_goals (try go_light)
  all_goals obtain ⟨e0, e1, e2⟩ := HN'
  all_goals clear HN ab
  all_goals have z0 := nameB_nil (l := bx)
  all_goals have z1 := nameB_nil (l := tt)
  all_goals have z2 := textB_nil (l := tx)
  all_goals (try have y0 := HX.out)
  all_goals (try have y1 := HY.out)
  all_goals (try clear HX HY)
  all_goals (unfold cmdB; unfold inB at *; cases hn : nameB bx <;> cases hm : nameB tt <;> cases ht : textB tx <;> simp [hn, hm, ht, e0, e1, e2] at * <;> first | omega | (rw [Bool.eq_iff_iff]; simp; omega))

end Go.Proofs.YtdokgpdfdenoaaaGreat

/- What CmdOk of package spec does. -/
namespace Go.Proofs.YtdokgpdfdenoaaaGreat
open Go.RowKit
set_option maxRecDepth 100000

set_option maxRecDepth 100000 in
set_option maxHeartbeats 2000000 in
theorem specCmdOk_any (v : Value) (k : Int) (bx tt : List Int) (uid mode fl si : Int) (tx : List Int) (w : World) (hv : CmdV w v k bx tt uid mode fl si tx) :
    Calls Tryz.prog 34 #[v] w fun e w' => e = .returned (.bool (cmdB k bx tt uid mode fl si tx)) ∧ Below w.heap.size w w' := by
  obtain ⟨u0, u1, u2, rfl, g0, g1, g2, i0, i1, i2, i3, i4⟩ := hv
  have ab : ∀ o, Below w.heap.size w (w.alloc o) := fun o => (Below.refl _ _).alloc (Nat.le_refl _) o
  have H0 : Hid (∀ o, Bs (w.alloc o) u0 bx ∧ Bs (w.alloc o) u1 tt ∧ Bs (w.alloc o) u2 tx) := fun o => ⟨g0.below (ab o), g1.below (ab o), g2.below (ab o)⟩
  obtain ⟨a0, c0, rfl⟩ := g0.form
  obtain ⟨a1, c1, rfl⟩ := g1.form
  obtain ⟨a2, c2, rfl⟩ := g2.form
  obtain ⟨i10, i11⟩ := i1
  obtain ⟨i20, i21⟩ := i2
  obtain ⟨i30, i31⟩ := i3
  obtain ⟨i40, i41⟩ := i4
  obtain ⟨i00, i01⟩ := i0
  by_cases h : 0 ≤ k ∧ k ≤ 9
  · have hk : k = 0 ∨ k = 1 ∨ k = 2 ∨ k = 3 ∨ k = 4 ∨ k = 5 ∨ k = 6 ∨ k = 7 ∨ k = 8 ∨ k = 9 := by omega
    rcases hk with rfl | rfl | rfl | rfl | rfl | rfl | rfl | rfl | rfl | rfl
    · exact specCmdOk_A 0 (by omega) (by omega) (by omega) (by omega) (by omega) (by omega) (by omega) (by omega) a0 a1 a2 _ _ _ c0 c1 c2 bx tt uid mode fl si tx w ⟨rfl, rfl, rfl⟩ H0 i10 i11 i20 i21 i30 i31 i40 i41
    · exact specCmdOk_A 1 (by omega) (by omega) (by omega) (by omega) (by omega) (by omega) (by omega) (by omega) a0 a1 a2 _ _ _ c0 c1 c2 bx tt uid mode fl si tx w ⟨rfl, rfl, rfl⟩ H0 i10 i11 i20 i21 i30 i31 i40 i41
    · exact specCmdOk_2 a0 a1 a2 _ _ _ c0 c1 c2 bx tt uid mode fl si tx w ⟨rfl, rfl, rfl⟩ H0 i10 i11 i20 i21 i30 i31 i40 i41
    · exact specCmdOk_3 a0 a1 a2 _ _ _ c0 c1 c2 bx tt uid mode fl si tx w ⟨rfl, rfl, rfl⟩ H0 i10 i11 i20 i21 i30 i31 i40 i41
    · exact specCmdOk_A 4 (by omega) (by omega) (by omega) (by omega) (by omega) (by omega) (by omega) (by omega) a0 a1 a2 _ _ _ c0 c1 c2 bx tt uid mode fl si tx w ⟨rfl, rfl, rfl⟩ H0 i10 i11 i20 i21 i30 i31 i40 i41
    · exact specCmdOk_5 a0 a1 a2 _ _ _ c0 c1 c2 bx tt uid mode fl si tx w ⟨rfl, rfl, rfl⟩ H0 i10 i11 i20 i21 i30 i31 i40 i41
    · exact specCmdOk_6 a0 a1 a2 _ _ _ c0 c1 c2 bx tt uid mode fl si tx w ⟨rfl, rfl, rfl⟩ H0 i10 i11 i20 i21 i30 i31 i40 i41
    · exact specCmdOk_A 7 (by omega) (by omega) (by omega) (by omega) (by omega) (by omega) (by omega) (by omega) a0 a1 a2 _ _ _ c0 c1 c2 bx tt uid mode fl si tx w ⟨rfl, rfl, rfl⟩ H0 i10 i11 i20 i21 i30 i31 i40 i41
    · exact specCmdOk_8 a0 a1 a2 _ _ _ c0 c1 c2 bx tt uid mode fl si tx w ⟨rfl, rfl, rfl⟩ H0 i10 i11 i20 i21 i30 i31 i40 i41
    · exact specCmdOk_9 a0 a1 a2 _ _ _ c0 c1 c2 bx tt uid mode fl si tx w ⟨rfl, rfl, rfl⟩ H0 i10 i11 i20 i21 i30 i31 i40 i41
  · have HZ : Hid (cmdB k bx tt uid mode fl si tx = false) := by simp [Hid, cmdB, h]
    by_cases h1 : k < 0
    · go_enter Tryz.func34, Tryz.ntmps34
      go_wp2
      go_ret
      exact ⟨ret_b HZ.out, ab _⟩
    · have h2 : 9 < k := by omega
      go_enter Tryz.func34, Tryz.ntmps34
      go_wp2
      go_ret
      exact ⟨ret_b HZ.out, ab _⟩

end Go.Proofs.YtdokgpdfdenoaaaGreat

/- Plain facts on boxes. -/
namespace Go.Proofs.YtdokgpdfdenoaaaGreat
set_option linter.unusedVariables false

theorem mailNo {q uid next flags seq bs : Int} {T : Bool} (hq : 0 ≤ q) (h : uid < 1 ∨ next ≤ uid ∨ uid ≤ q ∨ flags < 0 ∨ 31 < flags ∨ seq < 1 ∨ bs < seq ∨ T = false) : (inB uid (q + 1) (next - 1) && (inB flags 0 31 && (inB seq 1 bs && T))) = false := by
  rw [Bool.eq_false_iff]
  intro e
  simp only [inB, Bool.and_eq_true, decide_eq_true_eq] at e
  obtain ⟨⟨e1, e2⟩, ⟨e3, e4⟩, ⟨e5, e6⟩, e7⟩ := e
  rcases h with h | h | h | h | h | h | h | h
  all_goals first | omega | (rw [h] at e7; cases e7)
theorem mailYes {q uid next flags seq bs : Int} {T : Bool} (h0 : q < uid) (h1 : uid < next) (h2 : 0 ≤ flags) (h3 : flags ≤ 31) (h4 : 1 ≤ seq) (h5 : seq ≤ bs) (h6 : 1 ≤ uid) (h7 : T = true) : (inB uid (q + 1) (next - 1) && (inB flags 0 31 && (inB seq 1 bs && T))) = true := by
  simp only [inB, Bool.and_eq_true, decide_eq_true_eq]
  exact ⟨⟨by omega, by omega⟩, ⟨h2, h3⟩, ⟨h4, h5⟩, h7⟩
theorem goneNo {uid next seq ms bs : Int} {M G : Bool} (h : uid < 1 ∨ next ≤ uid ∨ M = true ∨ bs < seq ∨ seq < ms ∨ G = true) : (inB uid 1 (next - 1) && (inB seq ms bs && (!M && !G))) = false := by
  rw [Bool.eq_false_iff]
  intro e
  simp only [inB, Bool.and_eq_true, decide_eq_true_eq, Bool.not_eq_true'] at e
  obtain ⟨⟨e1, e2⟩, ⟨e3, e4⟩, e5, e6⟩ := e
  rcases h with h | h | h | h | h | h
  all_goals first | omega | (rw [h] at e5; cases e5) | (rw [h] at e6; cases e6)
theorem goneYes {uid next seq ms bs : Int} {M G : Bool} (h0 : 1 ≤ uid) (h1 : uid < next) (h2 : ms ≤ seq) (h3 : seq ≤ bs) (h4 : M = false) (h5 : G = false) : (inB uid 1 (next - 1) && (inB seq ms bs && (!M && !G))) = true := by
  simp only [inB, Bool.and_eq_true, decide_eq_true_eq, Bool.not_eq_true']
  exact ⟨⟨h0, by omega⟩, ⟨h2, h3⟩, h4, h5⟩
theorem boxB_noM {x : BoxD} {mv : Int} (h : (List.range x.mails.length).all (mailAt x) = false) : boxB x mv = false := by simp [boxB, mailsB, h]
def earlyB (x : BoxD) (k : Nat) : Bool := match x.gones[k]? with
  | some m => decide (m.uid < 1) || (decide (x.next ≤ m.uid) || ((x.mails.any fun o => decide (o.uid = m.uid)) || (decide (m.seq < 1) || decide (x.seq < m.seq))))
  | none => false
theorem first_bad {p : Nat → Bool} {n : Nat} (h : (List.range n).all p = false) : ∃ k, k < n ∧ (∀ j, j < k → p j = true) ∧ p k = false := by
  apply Classical.byContradiction
  intro hno
  have hall : ∀ k, k < n → p k = true := fun k => Nat.strongRecOn k (fun k ih hk => by
    cases hp : p k with
    | true => rfl
    | false => exact absurd ⟨k, hk, fun j hj => ih j hj (by omega), hp⟩ hno)
  have : (List.range n).all p = true := List.all_eq_true.2 (fun k hk => hall k (List.mem_range.1 hk))
  rw [this] at h; cases h
theorem only_bad {p : Nat → Bool} {k j : Nat} (h1 : ∀ i, i < k → p i = true) (h2 : p k = false) (h3 : ∀ i, i < j → p i = true) (h4 : p j = false) : j = k := by
  rcases Nat.lt_trichotomy j k with h | h | h
  · rw [h1 j h] at h4; cases h4
  · exact h
  · rw [h3 k h] at h2; cases h2
theorem boxB_noG {x : BoxD} {mv : Int} (h : (List.range x.gones.length).all (goneAt x) = false) : boxB x mv = false := by simp [boxB, gonesB, h]

def clsB (x : BoxD) (k : Nat) : Nat := match x.gones[k]? with
  | some m => if m.uid < 1 then 1 else if x.next ≤ m.uid then 2 else if (x.mails.any fun o => decide (o.uid = m.uid)) = true then 3 else if m.seq < 1 then 4 else if x.seq < m.seq then 5 else if (0 : Int) < (k : Int) then (if m.seq < minS x k then 8 else if m.seq < x.lost then 9 else 10) else (if m.seq < x.lost then 6 else 7)
  | none => 1
theorem clsB_range (x : BoxD) (k : Nat) : 1 ≤ clsB x k ∧ clsB x k ≤ 10 := by
  unfold clsB
  repeat' split
  all_goals omega
theorem early_cls {x : BoxD} {k : Nat} (h : earlyB x k = true) : clsB x k ≤ 5 := by
  unfold earlyB at h
  unfold clsB
  split
  · rename_i m hm
    rw [hm] at h
    simp only [Bool.or_eq_true, decide_eq_true_eq] at h
    split
    · omega
    split
    · omega
    split
    · omega
    split
    · omega
    split
    · omega
    rcases h with h | h | h | h | h <;> contradiction
  · omega


end Go.Proofs.YtdokgpdfdenoaaaGreat

/- What slices.IndexFunc and slices.ContainsFunc of mails and of what went do. -/
namespace Go.Proofs.YtdokgpdfdenoaaaGreat
open Go.RowKit Go.Shelf
set_option maxRecDepth 100000
set_option linter.unusedVariables false

theorem firstI_hit' {α : Type} {p : α → Bool} {l : List α} {k : Nat} {x : α} (hk : k < l.length) (hx : l[k]? = some x) (h : p x = true) (hA : ∀ j x, j < k → l[j]? = some x → p x = false) : firstI p l = k := by
  have : l.findIdx? p = some k := by
    rw [List.findIdx?_eq_some_iff_getElem]
    refine ⟨hk, by rw [List.getElem?_eq_getElem hk] at hx; cases hx; exact h, fun j hj => ?_⟩
    rw [hA j _ hj (List.getElem?_eq_getElem (by omega))]; simp
  simp [firstI, this]
theorem firstI_none' {α : Type} {p : α → Bool} {l : List α} (hA : ∀ j x, j < l.length → l[j]? = some x → p x = false) : firstI p l = -1 := by
  have : l.findIdx? p = none := by
    rw [List.findIdx?_eq_none_iff]
    intro x hx
    obtain ⟨j, hj, rfl⟩ := List.getElem_of_mem hx
    exact hA j _ hj (List.getElem?_eq_getElem hj)
  simp [firstI, this]
def GoneV (_ : World) (v : Value) (x : GoneD) : Prop := v = .agg #[.int .i64 x.uid, .int .i64 x.seq]

set_option maxRecDepth 100000 in
set_option maxHeartbeats 1000000 in
theorem indexFuncMail (g : Nat) (lb : Array Value) (p : MailD → Bool) (v : Value) (l : List MailD) (w : World) (hv : MailsV w v l) (eg : ∀ args w, (callFunc g args).run Tryz.prog w = .ok (.enter g args) w)
    (hp : ∀ wi x u, Below w.heap.size w wi → MailV wi u x → Calls Tryz.prog g (#[u] ++ lb) wi fun e w' => e = .returned (.bool (p x)) ∧ Below wi.heap.size wi w') :
    Calls Tryz.prog 107 #[v, .func (.func g) #[] lb] w fun e w' => e = .returned (.int .i64 (firstI p l)) ∧ Below w.heap.size w w' := by
  have HV : Hid (∀ wi, Below w.heap.size w wi → MailsV wi v l) := fun wi h => hv.below keepsMail h
  have HP : Hid (∀ wi x u, Below w.heap.size w wi → MailV wi u x → Calls Tryz.prog g (#[u] ++ lb) wi fun e w' => e = .returned (.bool (p x)) ∧ Below wi.heap.size wi w') := hp
  obtain ⟨a, cap, rfl, hlc, hcm⟩ := hv.form
  clear hv hp
  go_enter Tryz.func107, Tryz.ntmps107
  go_wp2
  go_loopw [5, 8] (fun _ i wr => ∃ k : Nat, k ≤ l.length ∧ i = .int .i64 k ∧ Hid (∀ j x, j < k → l[j]? = some x → p x = false) ∧ Hid (Below w.heap.size w wr)) (fun _ i _ => l.length - (intOf i).toNat)
  case atStart => exact ⟨0, Nat.zero_le _, rfl, (fun j x hj => absurd hj (Nat.not_lt_zero _)), Below.refl _ _⟩
  case round =>
    obtain ⟨k, hk, rfl, hA, hB⟩ := hrel
    by_cases hlt : k < l.length
    · obtain ⟨x, hx⟩ : ∃ x, l[k]? = some x := ⟨l[k], List.getElem?_eq_getElem hlt⟩
      obtain ⟨b, off, cap', u, hv', hlb, d0, d1, d2, d3, hu, i0, i1, i2⟩ := MailsV.cell (HV.out wr hB.out) k x hx
      simp only [Value.slice.injEq, true_and] at hv'
      obtain ⟨rfl, rfl⟩ := hv'
      obtain ⟨ua, un, uc, rfl⟩ := hu.form3
      have hcall := HP.out wr x (.agg #[.int .i64 x.uid, .int .i64 x.flags, .int .i64 x.seq, .slice ua un uc]) hB.out ⟨_, rfl, hu, i0, i1, i2⟩
      have HX : Hid (l[k]? = some x) := hx
      clear hx
      cases hq : p x with
      | true =>
        rw [hq] at hcall
        have HQ : Hid (p x = true) := hq
        clear hq
        go_wp2_with (go_at_fn g; refine hcall.mono ?_; rintro e w1 ⟨rfl, B⟩)
        go_ret
        exact ⟨ret_i (firstI_hit' hlt HX.out HQ.out hA.out).symm, Below.step hB.out B⟩
      | false =>
        rw [hq] at hcall
        have HQ : Hid (p x = false) := hq
        clear hq
        go_wp2_with (go_at_fn g; refine hcall.mono ?_; rintro e w1 ⟨rfl, B⟩)
        have HB2 : Hid (Below w.heap.size w w1) := Below.step hB.out B
        clear B hB
        go_roundw
        case rel =>
          refine ⟨k + 1, by omega, by go_num, (show Hid _ from fun j y hj hy => ?_), HB2⟩
          by_cases e : j = k
          · subst e; rw [HX.out] at hy; cases hy; exact HQ.out
          · exact hA.out j y (by omega) hy
        case measure => simp [intOf]; omega
    · obtain rfl : k = l.length := by omega
      go_wp2
      go_ret
      exact ⟨ret_i (firstI_none' hA.out).symm, hB.out⟩

set_option maxRecDepth 100000 in
set_option maxHeartbeats 1000000 in
theorem containsFuncMail (g : Nat) (lb : Array Value) (p : MailD → Bool) (v : Value) (l : List MailD) (w : World) (hv : MailsV w v l) (eg : ∀ args w, (callFunc g args).run Tryz.prog w = .ok (.enter g args) w)
    (hp : ∀ wi x u, Below w.heap.size w wi → MailV wi u x → Calls Tryz.prog g (#[u] ++ lb) wi fun e w' => e = .returned (.bool (p x)) ∧ Below wi.heap.size wi w') :
    Calls Tryz.prog 102 #[v, .func (.func g) #[] lb] w fun e w' => e = .returned (.bool (l.any p)) ∧ Below w.heap.size w w' := by
  have hi := indexFuncMail g lb p v l w hv eg hp
  have HF : Hid (l.any p = decide (0 ≤ firstI p l)) := any_firstI p l
  generalize firstI p l = i at hi HF
  obtain ⟨a, cap, rfl, -⟩ := hv.form
  clear hp hv
  go_enter Tryz.func102, Tryz.ntmps102
  go_wp2_with (go_at_call 107; refine hi.mono ?_; rintro e w1 ⟨rfl, B⟩)
  go_ret
  exact ⟨ret_b HF.out, B⟩

set_option maxRecDepth 100000 in
set_option maxHeartbeats 1000000 in
theorem indexFuncGone (g : Nat) (lb : Array Value) (p : GoneD → Bool) (v : Value) (l : List GoneD) (w : World) (hv : GonesV w v l) (eg : ∀ args w, (callFunc g args).run Tryz.prog w = .ok (.enter g args) w)
    (hp : ∀ wi x u, Below w.heap.size w wi → GoneV wi u x → Calls Tryz.prog g (#[u] ++ lb) wi fun e w' => e = .returned (.bool (p x)) ∧ Below wi.heap.size wi w') :
    Calls Tryz.prog 108 #[v, .func (.func g) #[] lb] w fun e w' => e = .returned (.int .i64 (firstI p l)) ∧ Below w.heap.size w w' := by
  have HV : Hid (∀ wi, Below w.heap.size w wi → GonesV wi v l) := fun wi h => hv.below keepsGone h
  have HP : Hid (∀ wi x u, Below w.heap.size w wi → GoneV wi u x → Calls Tryz.prog g (#[u] ++ lb) wi fun e w' => e = .returned (.bool (p x)) ∧ Below wi.heap.size wi w') := hp
  obtain ⟨a, cap, rfl, hlc, hcm⟩ := hv.form
  clear hv hp
  go_enter Tryz.func108, Tryz.ntmps108
  go_wp2
  go_loopw [5, 8] (fun _ i wr => ∃ k : Nat, k ≤ l.length ∧ i = .int .i64 k ∧ Hid (∀ j x, j < k → l[j]? = some x → p x = false) ∧ Hid (Below w.heap.size w wr)) (fun _ i _ => l.length - (intOf i).toNat)
  case atStart => exact ⟨0, Nat.zero_le _, rfl, (fun j x hj => absurd hj (Nat.not_lt_zero _)), Below.refl _ _⟩
  case round =>
    obtain ⟨k, hk, rfl, hA, hB⟩ := hrel
    by_cases hlt : k < l.length
    · obtain ⟨x, hx⟩ : ∃ x, l[k]? = some x := ⟨l[k], List.getElem?_eq_getElem hlt⟩
      obtain ⟨b, off, cap', hv', hlb, d0, d1, i0, i1⟩ := GonesV.cell (HV.out wr hB.out) k x hx
      simp only [Value.slice.injEq, true_and] at hv'
      obtain ⟨rfl, rfl⟩ := hv'
      have hcall := HP.out wr x (.agg #[.int .i64 x.uid, .int .i64 x.seq]) hB.out rfl
      have HX : Hid (l[k]? = some x) := hx
      clear hx
      cases hq : p x with
      | true =>
        rw [hq] at hcall
        have HQ : Hid (p x = true) := hq
        clear hq
        go_wp2_with (go_at_fn g; refine hcall.mono ?_; rintro e w1 ⟨rfl, B⟩)
        go_ret
        exact ⟨ret_i (firstI_hit' hlt HX.out HQ.out hA.out).symm, Below.step hB.out B⟩
      | false =>
        rw [hq] at hcall
        have HQ : Hid (p x = false) := hq
        clear hq
        go_wp2_with (go_at_fn g; refine hcall.mono ?_; rintro e w1 ⟨rfl, B⟩)
        have HB2 : Hid (Below w.heap.size w w1) := Below.step hB.out B
        clear B hB
        go_roundw
        case rel =>
          refine ⟨k + 1, by omega, by go_num, (show Hid _ from fun j y hj hy => ?_), HB2⟩
          by_cases e : j = k
          · subst e; rw [HX.out] at hy; cases hy; exact HQ.out
          · exact hA.out j y (by omega) hy
        case measure => simp [intOf]; omega
    · obtain rfl : k = l.length := by omega
      go_wp2
      go_ret
      exact ⟨ret_i (firstI_none' hA.out).symm, hB.out⟩

set_option maxRecDepth 100000 in
set_option maxHeartbeats 1000000 in
theorem containsFuncGone (g : Nat) (lb : Array Value) (p : GoneD → Bool) (v : Value) (l : List GoneD) (w : World) (hv : GonesV w v l) (eg : ∀ args w, (callFunc g args).run Tryz.prog w = .ok (.enter g args) w)
    (hp : ∀ wi x u, Below w.heap.size w wi → GoneV wi u x → Calls Tryz.prog g (#[u] ++ lb) wi fun e w' => e = .returned (.bool (p x)) ∧ Below wi.heap.size wi w') :
    Calls Tryz.prog 104 #[v, .func (.func g) #[] lb] w fun e w' => e = .returned (.bool (l.any p)) ∧ Below w.heap.size w w' := by
  have hi := indexFuncGone g lb p v l w hv eg hp
  have HF : Hid (l.any p = decide (0 ≤ firstI p l)) := any_firstI p l
  generalize firstI p l = i at hi HF
  obtain ⟨a, cap, rfl, -⟩ := hv.form
  clear hp hv
  go_enter Tryz.func104, Tryz.ntmps104
  go_wp2_with (go_at_call 108; refine hi.mono ?_; rintro e w1 ⟨rfl, B⟩)
  go_ret
  exact ⟨ret_b HF.out, B⟩

end Go.Proofs.YtdokgpdfdenoaaaGreat

/- What l3mail and l3gone of package spec do. -/
namespace Go.Proofs.YtdokgpdfdenoaaaGreat
open Go.RowKit
set_option maxRecDepth 100000
set_option linter.unusedVariables false
set_option linter.unusedSimpArgs false

set_option maxRecDepth 100000 in
set_option maxHeartbeats 4000000 in
theorem l3mail_any (v : Value) (x : BoxD) (uid : Int) (w : World) (hv : BoxV w v x) :
    Calls Tryz.prog 69 #[v, .int .i64 uid] w fun e w' => e = .returned (.int .i64 (firstI (fun m => decide (m.uid = uid)) x.mails)) ∧ Below w.heap.size w w' := by
  obtain ⟨u0, u1, u2, rfl, g0, g1, g2, i0, i1, i2, i3⟩ := hv
  have H0 : Hid (∀ wi, Below w.heap.size w wi → Bs wi u0 x.name ∧ MailsV wi u1 x.mails ∧ GonesV wi u2 x.gones) := fun wi h => ⟨g0.below h, g1.below keepsMail h, g2.below keepsGone h⟩
  obtain ⟨a0, n0, c0, rfl⟩ := g0.form3
  obtain ⟨a1, c1, rfl, m0, m1⟩ := g1.form
  obtain ⟨a2, c2, rfl, m2, m3⟩ := g2.form
  clear g0 g1 g2
  have HX : Hid (Below w.heap.size w (w.alloc (.cells #[.slice a0 n0 c0, .int .i64 x.valid, .int .i64 x.next, .int .i64 x.seq, .slice a1 x.mails.length c1, .slice a2 x.gones.length c2, .int .i64 x.lost] 89))) := (Below.refl _ _).alloc (Nat.le_refl _) _
  go_enter Tryz.func69, Tryz.ntmps69
  go_wp2
  go_loop [5] (fun i => ∃ k : Nat, k ≤ x.mails.length ∧ i = .int .i64 k ∧ Hid (∀ j m, j < k → x.mails[j]? = some m → decide (m.uid = uid) = false)) (fun i => x.mails.length - (intOf i).toNat)
  case atStart => exact ⟨0, Nat.zero_le _, rfl, fun j m hj => absurd hj (Nat.not_lt_zero _)⟩
  case round =>
    obtain ⟨k, hk, rfl, hA⟩ := hrel
    by_cases hlt : k < x.mails.length
    · obtain ⟨m, hm⟩ : ∃ m, x.mails[k]? = some m := ⟨x.mails[k], List.getElem?_eq_getElem hlt⟩
      obtain ⟨b, off, cap', u, hv', hlb, d0, d1, d2, d3, hu, j0, j1, j2⟩ := MailsV.cell (H0.out _ HX.out).2.1 k m hm
      simp only [Value.slice.injEq, true_and] at hv'
      obtain ⟨rfl, rfl⟩ := hv'
      have HM : Hid (x.mails[k]? = some m) := hm
      clear hm hu d1 d2 d3
      by_cases he : m.uid = uid
      · have he' : (m.uid == uid) = true := by simpa using he
        have HE : Hid (m.uid = uid) := he
        clear he
        go_wp2
        go_ret
        exact ⟨ret_i (firstI_hit' hlt HM.out (by simpa using HE.out) hA.out).symm, HX.out⟩
      · have he' : (m.uid == uid) = false := by simpa using he
        have HE : Hid (m.uid ≠ uid) := he
        clear he
        go_wp2
        go_round
        case rel =>
          refine ⟨k + 1, by omega, by go_num, (show Hid _ from fun j y hj hy => ?_)⟩
          by_cases e : j = k
          · subst e; rw [HM.out] at hy; cases hy; simpa using HE.out
          · exact hA.out j y (by omega) hy
        case measure => simp [intOf]; omega
    · obtain rfl : k = x.mails.length := by omega
      go_wp2
      go_ret
      exact ⟨ret_i (firstI_none' hA.out).symm, HX.out⟩

set_option maxRecDepth 100000 in
set_option maxHeartbeats 4000000 in
theorem l3gone_any (v : Value) (l : List GoneD) (uid : Int) (w : World) (hv : GonesV w v l) :
    Calls Tryz.prog 70 #[v, .int .i64 uid] w fun e w' => e = .returned (.bool (l.any fun o => decide (o.uid = uid))) ∧ w' = w := by
  have HV : Hid (GonesV w v l) := hv
  obtain ⟨a, cap, rfl, hlc, hcm⟩ := hv.form
  clear hv
  go_enter Tryz.func70, Tryz.ntmps70
  go_wp2
  go_loop [5] (fun i => ∃ k : Nat, k ≤ l.length ∧ i = .int .i64 k ∧ Hid (∀ j m, j < k → l[j]? = some m → m.uid ≠ uid)) (fun i => l.length - (intOf i).toNat)
  case atStart => exact ⟨0, Nat.zero_le _, rfl, fun j m hj => absurd hj (Nat.not_lt_zero _)⟩
  case round =>
    obtain ⟨k, hk, rfl, hA⟩ := hrel
    by_cases hlt : k < l.length
    · obtain ⟨m, hm⟩ : ∃ m, l[k]? = some m := ⟨l[k], List.getElem?_eq_getElem hlt⟩
      obtain ⟨b, off, cap', hv', hlb, d0, d1, j0, j1⟩ := GonesV.cell HV.out k m hm
      simp only [Value.slice.injEq, true_and] at hv'
      obtain ⟨rfl, rfl⟩ := hv'
      have HM : Hid (l[k]? = some m) := hm
      clear hm d1
      by_cases he : m.uid = uid
      · have he' : (m.uid == uid) = true := by simpa using he
        have HE : Hid (m.uid = uid) := he
        clear he
        go_wp2
        go_ret
        exact ⟨ret_b (List.any_eq_true.2 ⟨m, List.mem_of_getElem? HM.out, by simpa using HE.out⟩), rfl⟩
      · have he' : (m.uid == uid) = false := by simpa using he
        have HE : Hid (m.uid ≠ uid) := he
        clear he
        go_wp2
        go_round
        case rel =>
          refine ⟨k + 1, by omega, by go_num, (show Hid _ from fun j y hj hy => ?_)⟩
          by_cases e : j = k
          · subst e; rw [HM.out] at hy; cases hy; exact HE.out
          · exact hA.out j y (by omega) hy
        case measure => simp [intOf]; omega
    · obtain rfl : k = l.length := by omega
      go_wp2
      go_ret
      refine ⟨ret_b (List.any_eq_false.2 fun m hm => ?_), rfl⟩
      obtain ⟨j, hj, rfl⟩ := List.getElem_of_mem hm
      simpa using hA.out j _ hj (List.getElem?_eq_getElem hj)

end Go.Proofs.YtdokgpdfdenoaaaGreat

/- What slices.IndexFunc and slices.ContainsFunc do of bytes, whatever function is handed in. -/
namespace Go.Proofs.YtdokgpdfdenoaaaGreat
open Go.RowKit Go.Shelf
set_option maxRecDepth 100000

set_option maxHeartbeats 400000 in
theorem indexFuncB (g : Nat) (lb : Array Value) (p : Int → Bool) (v : Value) (l : List Int) (w : World) (hv : Bs w v l) (eg : ∀ args w, (callFunc g args).run Tryz.prog w = .ok (.enter g args) w)
    (hp : ∀ x, 0 ≤ x → x ≤ 255 → Calls Tryz.prog g (#[.int .u8 x] ++ lb) w fun e w' => e = .returned (.bool (p x)) ∧ w' = w) :
    Calls Tryz.prog 106 #[v, .func (.func g) #[] lb] w fun e w' => e = .returned (.int .i64 (firstI p l)) ∧ w' = w := by
  obtain ⟨ho, a, cap, rfl, hlc, hcm, hnil, hcells⟩ := hv
  unfold maxLen at hcm
  go_enter Tryz.func106, Tryz.ntmps106
  go_wp2
  go_loop [5, 8] (fun _ i => ∃ k : Nat, k ≤ l.length ∧ i = .int .i64 k ∧ Hid (∀ j, j < k → p (l.getD j 0) = false)) (fun _ i => l.length - (intOf i).toNat)
  case atStart => exact ⟨0, Nat.zero_le _, rfl, fun j hj => absurd hj (Nat.not_lt_zero _)⟩
  case round =>
    obtain ⟨k, hk, rfl, hA⟩ := hrel
    by_cases hlt : k < l.length
    · obtain ⟨b, off, rfl, hlb, hc⟩ := hcells (by omega)
      have hx := hc k hlt
      have hbx := oct_get ho k
      generalize hy : l.getD k 0 = x at hx hbx
      have HX : Hid (l.getD k 0 = x) := hy
      clear hy hc hcells
      have hcall := hp x hbx.1 hbx.2
      clear hp
      cases hq : p x with
      | true =>
        rw [hq] at hcall
        go_wp2_with (go_at_fn g; refine hcall.mono ?_; rintro e w' ⟨rfl, rfl⟩)
        go_ret
        exact ⟨ret_i (firstI_hit hlt (by rw [HX.out]; exact hq) hA.out).symm, rfl⟩
      | false =>
        rw [hq] at hcall
        go_wp2_with (go_at_fn g; refine hcall.mono ?_; rintro e w' ⟨rfl, rfl⟩)
        go_round
        case rel =>
          refine ⟨k + 1, by omega, by go_num, (show Hid _ from fun j hj => ?_)⟩
          by_cases e : j = k
          · subst e; rw [HX.out]; exact hq
          · exact hA.out j (by omega)
        case measure => simp [intOf]; omega
    · obtain rfl : k = l.length := by omega
      go_wp2
      go_ret
      exact ⟨ret_i (firstI_none hA.out).symm, rfl⟩

set_option maxHeartbeats 400000 in
theorem containsFuncB (g : Nat) (lb : Array Value) (p : Int → Bool) (v : Value) (l : List Int) (w : World) (hv : Bs w v l) (eg : ∀ args w, (callFunc g args).run Tryz.prog w = .ok (.enter g args) w)
    (hp : ∀ x, 0 ≤ x → x ≤ 255 → Calls Tryz.prog g (#[.int .u8 x] ++ lb) w fun e w' => e = .returned (.bool (p x)) ∧ w' = w) :
    Calls Tryz.prog 100 #[v, .func (.func g) #[] lb] w fun e w' => e = .returned (.bool (l.any p)) ∧ w' = w := by
  have hi := indexFuncB g lb p v l w hv eg hp
  have HF : Hid (l.any p = decide (0 ≤ firstI p l)) := any_firstI p l
  generalize firstI p l = i at hi HF
  obtain ⟨ho, a, cap, rfl, -⟩ := hv
  clear hp
  go_enter Tryz.func100, Tryz.ntmps100
  go_wp2_with (go_at_call 106; refine hi.mono ?_; rintro e w' ⟨rfl, rfl⟩)
  go_ret
  exact ⟨ret_b HF.out, rfl⟩

end Go.Proofs.YtdokgpdfdenoaaaGreat

/- What within, allWithin, nameOk, nameWanted, textOk of package impl do. -/
namespace Go.Proofs.YtdokgpdfdenoaaaGreat
open Go.RowKit Go.Shelf
set_option maxRecDepth 100000

theorem textB_len {l : List Int} (h : textB l = true) : l.length ≤ 30 := by unfold textB at h; simp at h; exact h.1

theorem within_any (n lo hi : Int) (w : World) :
    Calls Tryz.prog 18 #[.int .i64 n, .int .i64 lo, .int .i64 hi] w fun e w' => e = .returned (.bool (inB n lo hi)) ∧ w' = w := by
  by_cases h0 : lo ≤ n
  · by_cases h1 : n ≤ hi
    · go_enter Tryz.func18, Tryz.ntmps18
      go_wp2
      go_ret
      exact ⟨ret_b (by simp [inB, h0, h1]), rfl⟩
    · go_enter Tryz.func18, Tryz.ntmps18
      go_wp2
      go_ret
      exact ⟨ret_b (by simp [inB, h1]), rfl⟩
  · go_enter Tryz.func18, Tryz.ntmps18
    go_wp2
    go_ret
    exact ⟨ret_b (by simp [inB]; omega), rfl⟩

theorem allWithin1_any (x lo hi : Int) (b1 b2 : Nat) (w : World) (c1 : w.cell? ⟨b1, 0, none⟩ = some (.int .u8 lo)) (c2 : w.cell? ⟨b2, 0, none⟩ = some (.int .u8 hi)) :
    Calls Tryz.prog 101 #[.int .u8 x, .pointer (some ⟨b1, 0, none⟩), .pointer (some ⟨b2, 0, none⟩)] w fun e w' => e = .returned (.bool (decide (x < lo) || decide (hi < x))) ∧ w' = w := by
  by_cases h0 : x < lo
  · go_enter Tryz.func101, Tryz.ntmps101
    go_wp2
    go_ret
    exact ⟨ret_b (by simp [h0]), rfl⟩
  · go_enter Tryz.func101, Tryz.ntmps101
    go_wp2
    go_ret
    exact ⟨ret_b (by simp; omega), rfl⟩

theorem allIn_any (lo hi : Int) (l : List Int) : (!l.any fun x => decide (x < lo) || decide (hi < x)) = allIn lo hi l := by
  induction l with
  | nil => rfl
  | cons x l ih =>
    simp only [List.any_cons, allIn, List.all_cons, Bool.not_or]
    rw [ih]
    congr 1
    by_cases h0 : x < lo <;> by_cases h1 : hi < x <;> simp [h0, h1] <;> omega

set_option maxHeartbeats 400000 in
theorem allWithin_any (v : Value) (l : List Int) (lo hi : Int) (w : World) (hv : Bs w v l) :
    Calls Tryz.prog 93 #[v, .int .u8 lo, .int .u8 hi] w fun e w' => e = .returned (.bool (allIn lo hi l)) ∧ Below w.heap.size w w' := by
  have bx := boxes2 w (.cells #[.int .u8 lo] 5) (.cells #[.int .u8 hi] 5)
  have H : Hid (Calls Tryz.prog 100 #[v, .func (.func 101) #[] #[.pointer (some ⟨w.heap.size, 0, none⟩), .pointer (some ⟨w.heap.size + 1, 0, none⟩)]] ((w.alloc (.cells #[.int .u8 lo] 5)).alloc (.cells #[.int .u8 hi] 5)) fun e w' => e = .returned (.bool (l.any fun x => decide (x < lo) || decide (hi < x))) ∧ w' = (w.alloc (.cells #[.int .u8 lo] 5)).alloc (.cells #[.int .u8 hi] 5)) := by
    refine containsFuncB _ _ _ v l _ (hv.below bx.2.2) (fun args w => by kernel_rfl) fun x _ _ => allWithin1_any x lo hi _ _ _ ?_ ?_
    · rw [cell_of_row _ _ 0 _ _ (0, 0) bx.1]; rfl
    · rw [cell_of_row _ _ 0 _ _ (0, 0) bx.2.1]; rfl
  have HA := allIn_any lo hi l
  have HB : Hid (Below w.heap.size w ((w.alloc (.cells #[.int .u8 lo] 5)).alloc (.cells #[.int .u8 hi] 5))) := bx.2.2
  generalize (l.any fun x => decide (x < lo) || decide (hi < x)) = X at H HA
  have HA' : Hid ((!X) = allIn lo hi l) := HA
  clear HA bx
  obtain ⟨a, n, c, rfl⟩ := hv.form3
  clear hv
  go_enter Tryz.func93, Tryz.ntmps93
  go_wp2_with (go_at_call 100; refine H.out.mono ?_; rintro e w' ⟨rfl, rfl⟩)
  go_ret
  exact ⟨ret_b HA'.out.symm, HB.out⟩

set_option maxHeartbeats 400000 in
theorem nameOk_any (v : Value) (l : List Int) (w : World) (hv : Bs w v l) :
    Calls Tryz.prog 92 #[v] w fun e w' => e = .returned (.bool (nameB l)) ∧ Below w.heap.size w w' := by
  have H : Hid (Bs w v l) := hv
  obtain ⟨ho, a, cap, rfl, hlc, hcm, -⟩ := hv
  unfold maxLen at hcm
  by_cases h0 : 1 ≤ l.length ∧ l.length ≤ 6
  · have e1 : inB (l.length : Int) 1 6 = true := by simp [inB]; omega
    have e2 : Hid (nameB l = allIn 97 122 l) := by simp [Hid, nameB, h0.1, h0.2]
    have hw := within_any (l.length : Int) 1 6
    rw [e1] at hw
    clear e1
    go_enter Tryz.func92, Tryz.ntmps92
    go_wp2_with (first | (go_at_call 18; refine (hw _).mono ?_; rintro e w' ⟨rfl, rfl⟩) | (go_at_call 93; refine (allWithin_any _ l 97 122 _ H.out).mono ?_; rintro e w1 ⟨rfl, B⟩))
    go_ret
    exact ⟨ret_b e2.out, B⟩
  · have e1 : inB (l.length : Int) 1 6 = false := by simp [inB]; omega
    have e2 : Hid (nameB l = false) := by
      simp only [Hid, nameB]
      by_cases h1 : 1 ≤ l.length
      · simp [show ¬ l.length ≤ 6 by omega]
      · simp [h1]
    have hw := within_any (l.length : Int) 1 6
    rw [e1] at hw
    clear e1
    go_enter Tryz.func92, Tryz.ntmps92
    go_wp2_with (first | (go_at_call 18; refine (hw _).mono ?_; rintro e w' ⟨rfl, rfl⟩))
    go_ret
    exact ⟨ret_b e2.out, Below.refl _ _⟩

set_option maxHeartbeats 400000 in
theorem textOk_any (v : Value) (l : List Int) (w : World) (hv : Bs w v l) :
    Calls Tryz.prog 81 #[v] w fun e w' => e = .returned (.bool (textB l)) ∧ Below w.heap.size w w' := by
  have H : Hid (Bs w v l) := hv
  obtain ⟨ho, a, cap, rfl, hlc, hcm, -⟩ := hv
  unfold maxLen at hcm
  by_cases h0 : l.length ≤ 30
  · have e2 : Hid (textB l = allIn 32 126 l) := by simp [Hid, textB, h0]
    go_enter Tryz.func81, Tryz.ntmps81
    go_wp2_with (first | (go_at_call 93; refine (allWithin_any _ l 32 126 _ H.out).mono ?_; rintro e w1 ⟨rfl, B⟩))
    go_ret
    exact ⟨ret_b e2.out, B⟩
  · have e2 : Hid (textB l = false) := by simp [Hid, textB, h0]
    go_enter Tryz.func81, Tryz.ntmps81
    go_wp2
    go_ret
    exact ⟨ret_b e2.out, Below.refl _ _⟩

end Go.Proofs.YtdokgpdfdenoaaaGreat

/- What seenOk and mailsOk of package impl do. -/
namespace Go.Proofs.YtdokgpdfdenoaaaGreat
open Go.RowKit Go.Shelf
set_option maxRecDepth 100000
set_option linter.unusedVariables false

set_option maxRecDepth 100000 in
set_option maxHeartbeats 1000000 in
theorem seenOk_any (v : Value) (l : List Int) (w : World) (hv : IntsV w v l) :
    Calls Tryz.prog 82 #[v] w fun e w' => e = .returned (.bool (seenB l)) ∧ w' = w := by
  have HV : Hid (IntsV w v l) := hv
  obtain ⟨a, cap, rfl, hlc, hcm⟩ := hv.form
  clear hv
  by_cases h0 : l.length ≤ 60
  · have HS : Hid (seenB l = (List.range l.length).all (seenAt l)) := by simp [Hid, seenB, h0]
    go_enter Tryz.func82, Tryz.ntmps82
    go_wp2
    go_loop [3, 5, 11] (fun q _ i => ∃ k : Nat, k ≤ l.length ∧ i = .int .i64 k ∧ q = .int .i64 (prevI l k) ∧ Hid (∀ j, j < k → seenAt l j = true)) (fun _ _ i => l.length - (intOf i).toNat)
    case atStart => exact ⟨0, Nat.zero_le _, rfl, rfl, fun j hj => absurd hj (Nat.not_lt_zero _)⟩
    case round =>
      obtain ⟨k, hk, rfl, rfl, hA⟩ := hrel
      by_cases hlt : k < l.length
      · obtain ⟨x, hx⟩ : ∃ x, l[k]? = some x := ⟨l[k], List.getElem?_eq_getElem hlt⟩
        obtain ⟨b, off, cap', hv', hlb, d0, i0⟩ := IntsV.cell HV.out k x hx
        simp only [Value.slice.injEq, true_and] at hv'
        obtain ⟨rfl, rfl⟩ := hv'
        have hp := prevI_ok hk hA.out
        have HD : Hid (l.getD k 0 = x) := by simp [Hid, List.getD, hx]
        have HE : Hid (seenAt l k = inB x (prevI l k + 1) 1000000) := by show seenAt l k = _; unfold seenAt; rw [HD.out]
        generalize hQ : prevI l k = q at hp HE
        clear hQ
        obtain ⟨hp0, hp1, -⟩ := hp
        have hcall := within_any x (q + 1) 1000000
        generalize hX : inB x (q + 1) 1000000 = X at hcall HE
        clear hX hx
        cases X with
        | true =>
          go_wp2_with (go_at_call 18; refine (hcall _).mono ?_; rintro e w' ⟨rfl, rfl⟩)
          go_round
          case rel =>
            refine ⟨k + 1, by omega, by go_num, by simp only [prevI]; rw [HD.out], (show Hid _ from fun j hj => ?_)⟩
            by_cases e : j = k
            · subst e; exact HE.out
            · exact hA.out j (by omega)
          case measure => simp [intOf]; omega
        | false =>
          go_wp2_with (go_at_call 18; refine (hcall _).mono ?_; rintro e w' ⟨rfl, rfl⟩)
          go_ret
          exact ⟨ret_b (by rw [HS.out]; exact rangeAll_no k hlt HE.out), rfl⟩
      · obtain rfl : k = l.length := by omega
        go_wp2
        go_ret
        exact ⟨ret_b (by rw [HS.out]; exact rangeAll_yes hA.out), rfl⟩
  · have HS : Hid (seenB l = false) := by simp [Hid, seenB, h0]
    go_enter Tryz.func82, Tryz.ntmps82
    go_wp2
    go_ret
    exact ⟨ret_b HS.out, rfl⟩

set_option maxRecDepth 100000 in
set_option maxHeartbeats 1000000 in
theorem mailsOk_any (v : Value) (x : BoxD) (w : World) (hv : BoxV w v x) (hn0 : 1 ≤ x.next) (hn1 : x.next ≤ 1000000) :
    Calls Tryz.prog 94 #[v] w fun e w' => e = .returned (.bool (mailsB x)) ∧ Below w.heap.size w w' := by
  obtain ⟨u0, u1, u2, rfl, g0, g1, g2, i0, i1, i2, i3⟩ := hv
  have H0 : Hid (∀ wi, Below w.heap.size w wi → Bs wi u0 x.name ∧ MailsV wi u1 x.mails ∧ GonesV wi u2 x.gones) := fun wi h => ⟨g0.below h, g1.below keepsMail h, g2.below keepsGone h⟩
  obtain ⟨a0, n0, c0, rfl⟩ := g0.form3
  obtain ⟨a1, c1, rfl, m0, m1⟩ := g1.form
  obtain ⟨a2, c2, rfl, m2, m3⟩ := g2.form
  clear g0 g1 g2
  have kA := box_new w (.cells #[.slice a0 n0 c0, .int .i64 x.valid, .int .i64 x.next, .int .i64 x.seq, .slice a1 x.mails.length c1, .slice a2 x.gones.length c2, .int .i64 x.lost] 89)
  have X : Below w.heap.size w (w.alloc (.cells #[.slice a0 n0 c0, .int .i64 x.valid, .int .i64 x.next, .int .i64 x.seq, .slice a1 x.mails.length c1, .slice a2 x.gones.length c2, .int .i64 x.lost] 89)) := (Below.refl _ _).alloc (Nat.le_refl _) _
  by_cases h0 : x.mails.length ≤ 12
  · have HS : Hid (mailsB x = (List.range x.mails.length).all (mailAt x)) := by simp [Hid, mailsB, h0]
    have HK : Hid ((w.alloc (.cells #[.slice a0 n0 c0, .int .i64 x.valid, .int .i64 x.next, .int .i64 x.seq, .slice a1 x.mails.length c1, .slice a2 x.gones.length c2, .int .i64 x.lost] 89)).heap[w.heap.size]? = some (.cells #[.slice a0 n0 c0, .int .i64 x.valid, .int .i64 x.next, .int .i64 x.seq, .slice a1 x.mails.length c1, .slice a2 x.gones.length c2, .int .i64 x.lost] 89)) := kA
    have HX : Hid (Below w.heap.size w (w.alloc (.cells #[.slice a0 n0 c0, .int .i64 x.valid, .int .i64 x.next, .int .i64 x.seq, .slice a1 x.mails.length c1, .slice a2 x.gones.length c2, .int .i64 x.lost] 89))) := X
    clear kA X
    go_enter Tryz.func94, Tryz.ntmps94
    go_wp2
    go_loopw [3, 5, 13] (fun q _ i wr => ∃ k : Nat, k ≤ x.mails.length ∧ i = .int .i64 k ∧ q = .int .i64 (prevU x.mails k) ∧ Hid (∀ j, j < k → mailAt x j = true) ∧ Hid (wr.heap[w.heap.size]? = some (.cells #[.slice a0 n0 c0, .int .i64 x.valid, .int .i64 x.next, .int .i64 x.seq, .slice a1 x.mails.length c1, .slice a2 x.gones.length c2, .int .i64 x.lost] 89)) ∧ Hid (Below w.heap.size w wr)) (fun _ _ i _ => x.mails.length - (intOf i).toNat)
    case atStart => exact ⟨0, Nat.zero_le _, rfl, rfl, (fun j hj => absurd hj (Nat.not_lt_zero _)), HK, HX⟩
    case round =>
      obtain ⟨k, hk, rfl, rfl, hA, hK, hB⟩ := hrel
      by_cases hlt : k < x.mails.length
      · obtain ⟨m, hm⟩ : ∃ m, x.mails[k]? = some m := ⟨x.mails[k], List.getElem?_eq_getElem hlt⟩
        obtain ⟨b, off, cap', u, hv', hlb, d0, d1, d2, d3, hu, j0, j1, j2⟩ := MailsV.cell (H0.out wr hB.out).2.1 k m hm
        simp only [Value.slice.injEq, true_and] at hv'
        obtain ⟨rfl, rfl⟩ := hv'
        obtain ⟨ua, un, uc, rfl⟩ := hu.form3
        have hp := prevU_ok hn1 hk hA.out
        have HE : Hid (mailAt x k = (inB m.uid (prevU x.mails k + 1) (x.next - 1) && (inB m.flags 0 31 && (inB m.seq 1 x.seq && textB m.text)))) := by simp [Hid, mailAt, hm]
        have HP1 : Hid (prevU x.mails (k + 1) = m.uid) := by simp [Hid, prevU, hm]
        generalize hQ : prevU x.mails k = q at hp HE
        clear hQ hm
        obtain ⟨hp0, hp1⟩ := hp
        obtain ⟨uid, flags, seq, text⟩ := m
        simp only at d0 d1 d2 d3 hu j0 j1 j2 HE HP1
        have c1' := within_any uid (q + 1) (x.next - 1)
        have c2' := within_any flags 0 31
        have c3' := within_any seq 1 x.seq
        generalize inB uid (q + 1) (x.next - 1) = X1 at c1' HE
        generalize inB flags 0 31 = X2 at c2' HE
        generalize inB seq 1 x.seq = X3 at c3' HE
        have ab : Below wr.heap.size wr (wr.alloc (.cells #[.int .i64 uid, .int .i64 flags, .int .i64 seq, .slice ua un uc] 115)) := (Below.refl _ _).alloc (Nat.le_refl _) _
        have c4' := textOk_any _ text _ (hu.below ab)
        generalize textB text = X4 at c4' HE
        have hKA := hK.out
        obtain ⟨e0, e1, e2, e3, e4, e5, e6⟩ := bx7 hKA
        have hlA := lt_of_heap hKA
        have HKm : Hid ((wr.alloc (.cells #[.int .i64 uid, .int .i64 flags, .int .i64 seq, .slice ua un uc] 115)).heap[wr.heap.size]? = some (.cells #[.int .i64 uid, .int .i64 flags, .int .i64 seq, .slice ua un uc] 115)) := box_new wr _
        have HKb : Hid ((wr.alloc (.cells #[.int .i64 uid, .int .i64 flags, .int .i64 seq, .slice ua un uc] 115)).heap[w.heap.size]? = some (.cells #[.slice a0 n0 c0, .int .i64 x.valid, .int .i64 x.next, .int .i64 x.seq, .slice (some ⟨b, off, none⟩) x.mails.length c1, .slice a2 x.gones.length c2, .int .i64 x.lost] 89)) := box_alloc hKA _
        have HB1 : Hid (Below w.heap.size w (wr.alloc (.cells #[.int .i64 uid, .int .i64 flags, .int .i64 seq, .slice ua un uc] 115))) := Below.step hB.out ab
        clear hKA hu ab hK hB
        go_wp2_with fail
        refine (c1' _).mono ?_
        rintro e w' ⟨rfl, rfl⟩
        cases X1 with
        | false =>
          go_wp2
          go_ret
          exact ⟨ret_b (by rw [HS.out]; exact rangeAll_no k hlt HE.out), HB1.out⟩
        | true =>
        go_wp2_with fail
        refine (c2' _).mono ?_
        rintro e w' ⟨rfl, rfl⟩
        cases X2 with
        | false =>
          go_wp2
          go_ret
          exact ⟨ret_b (by rw [HS.out]; exact rangeAll_no k hlt HE.out), HB1.out⟩
        | true =>
        go_wp2_with fail
        refine (c3' _).mono ?_
        rintro e w' ⟨rfl, rfl⟩
        cases X3 with
        | false =>
          go_wp2
          go_ret
          exact ⟨ret_b (by rw [HS.out]; exact rangeAll_no k hlt HE.out), HB1.out⟩
        | true =>
        go_wp2_with fail
        refine c4'.mono ?_
        rintro e w2 ⟨rfl, B⟩
        have HB2 : Hid (Below w.heap.size w w2) := Below.step HB1.out B
        have HKb2 : Hid (w2.heap[w.heap.size]? = some (.cells #[.slice a0 n0 c0, .int .i64 x.valid, .int .i64 x.next, .int .i64 x.seq, .slice (some ⟨b, off, none⟩) x.mails.length c1, .slice a2 x.gones.length c2, .int .i64 x.lost] 89)) := box_below B HKb.out
        obtain ⟨t0, t1, t2, t3⟩ := bx4 (box_below B HKm.out)
        clear B HB1 HKb HKm
        cases X4 with
        | false =>
          go_wp2
          go_ret
          exact ⟨ret_b (by rw [HS.out]; exact rangeAll_no k hlt HE.out), HB2.out⟩
        | true =>
        go_wp2
        go_roundw
        case rel =>
          refine ⟨k + 1, by omega, by go_num, by rw [HP1.out], (show Hid _ from fun j hj => ?_), HKb2, HB2⟩
          by_cases e : j = k
          · subst e; exact HE.out
          · exact hA.out j (by omega)
        case measure => simp [intOf]; omega
      · obtain rfl : k = x.mails.length := by omega
        go_wp2
        go_ret
        exact ⟨ret_b (by rw [HS.out]; exact rangeAll_yes hA.out), hB.out⟩
  · have HS : Hid (mailsB x = false) := by simp [Hid, mailsB, h0]
    go_enter Tryz.func94, Tryz.ntmps94
    go_wp2
    go_ret
    exact ⟨ret_b HS.out, X⟩

end Go.Proofs.YtdokgpdfdenoaaaGreat

/- What gonesOk of package impl do. -/
namespace Go.Proofs.YtdokgpdfdenoaaaGreat
open Go.RowKit Go.Shelf
set_option maxRecDepth 100000
set_option linter.unusedVariables false

theorem Rd.take {α : Type} {sz : Nat} {E : World → List Value → α → Prop} {w : World} {a : Option Addr} {n cap : Nat} {l : List α} (h : Rd sz E w (.slice a n cap) l) (k : Nat) (hk : k ≤ l.length) : Rd sz E w (.slice a k cap) (l.take k) := by
  obtain ⟨a', cap', cs, hv, h1, h2, h3, h4, h5⟩ := h
  simp only [Value.slice.injEq] at hv
  obtain ⟨rfl, -, rfl⟩ := hv
  have hl : (l.take k).length = k := by simp; omega
  refine ⟨a, cap, cs, by rw [hl], by rw [hl]; omega, h2, h3, fun i x hx => ?_, fun hp => ?_⟩
  · rw [List.getElem?_take] at hx
    split at hx
    · exact h4 i x hx
    · cases hx
  · rw [hl] at hp
    obtain ⟨b, off, ha, hlt, hc⟩ := h5 (by omega)
    exact ⟨b, off, ha, hlt, fun i j u hi hu => hc i j u (by rw [hl] at hi; omega) hu⟩

set_option maxRecDepth 100000 in
set_option maxHeartbeats 1000000 in
theorem gonesOk1_any (u : Value) (m : MailD) (bg : Nat) (guid : Int) (w : World) (hu : MailV w u m) (hc : w.cell? ⟨bg, 0, none⟩ = some (.int .i64 guid)) (hb : bg < w.heap.size) :
    Calls Tryz.prog 103 #[u, .pointer (some ⟨bg, 0, none⟩)] w fun e w' => e = .returned (.bool (decide (m.uid = guid))) ∧ Below w.heap.size w w' := by
  obtain ⟨u, rfl, h, -⟩ := hu
  obtain ⟨ua, un, uc, rfl⟩ := h.form3
  clear h
  obtain ⟨uid, flags, seq, text⟩ := m
  simp only
  go_enter Tryz.func103, Tryz.ntmps103
  go_wp2
  go_ret
  exact ⟨ret_b (by rw [Bool.eq_iff_iff]; simp), (Below.refl _ _).alloc (Nat.le_refl _) _⟩

set_option maxRecDepth 100000 in
set_option maxHeartbeats 1000000 in
theorem gonesOk2_any (u : Value) (m : GoneD) (bg : Nat) (guid : Int) (w : World) (hu : GoneV w u m) (hc : w.cell? ⟨bg, 0, none⟩ = some (.int .i64 guid)) (hb : bg < w.heap.size) :
    Calls Tryz.prog 105 #[u, .pointer (some ⟨bg, 0, none⟩)] w fun e w' => e = .returned (.bool (decide (m.uid = guid))) ∧ Below w.heap.size w w' := by
  unfold GoneV at hu
  subst hu
  obtain ⟨uid, seq⟩ := m
  simp only
  go_enter Tryz.func105, Tryz.ntmps105
  go_wp2
  go_ret
  exact ⟨ret_b (by rw [Bool.eq_iff_iff]; simp), (Below.refl _ _).alloc (Nat.le_refl _) _⟩

set_option maxRecDepth 100000 in
set_option maxHeartbeats 1000000 in
theorem gonesOk_any (v : Value) (x : BoxD) (w : World) (hv : BoxV w v x) (hn0 : 1 ≤ x.next) (hn1 : x.next ≤ 1000000) :
    Calls Tryz.prog 95 #[v] w fun e w' => e = .returned (.bool (gonesB x)) ∧ Below w.heap.size w w' := by
  obtain ⟨u0, u1, u2, rfl, g0, g1, g2, i0, i1, i2, i3⟩ := hv
  have H0 : Hid (∀ wi, Below w.heap.size w wi → Bs wi u0 x.name ∧ MailsV wi u1 x.mails ∧ GonesV wi u2 x.gones) := fun wi h => ⟨g0.below h, g1.below keepsMail h, g2.below keepsGone h⟩
  obtain ⟨a0, n0, c0, rfl⟩ := g0.form3
  obtain ⟨a1, c1, rfl, m0, m1⟩ := g1.form
  obtain ⟨a2, c2, rfl, m2, m3⟩ := g2.form
  clear g0 g1 g2
  have kA := box_new w (.cells #[.slice a0 n0 c0, .int .i64 x.valid, .int .i64 x.next, .int .i64 x.seq, .slice a1 x.mails.length c1, .slice a2 x.gones.length c2, .int .i64 x.lost] 89)
  have X : Below w.heap.size w (w.alloc (.cells #[.slice a0 n0 c0, .int .i64 x.valid, .int .i64 x.next, .int .i64 x.seq, .slice a1 x.mails.length c1, .slice a2 x.gones.length c2, .int .i64 x.lost] 89)) := (Below.refl _ _).alloc (Nat.le_refl _) _
  by_cases h0 : x.gones.length ≤ 40
  · have HS : Hid (gonesB x = (List.range x.gones.length).all (goneAt x)) := by simp [Hid, gonesB, h0]
    have HK : Hid ((w.alloc (.cells #[.slice a0 n0 c0, .int .i64 x.valid, .int .i64 x.next, .int .i64 x.seq, .slice a1 x.mails.length c1, .slice a2 x.gones.length c2, .int .i64 x.lost] 89)).heap[w.heap.size]? = some (.cells #[.slice a0 n0 c0, .int .i64 x.valid, .int .i64 x.next, .int .i64 x.seq, .slice a1 x.mails.length c1, .slice a2 x.gones.length c2, .int .i64 x.lost] 89)) := kA
    have HX : Hid (Below w.heap.size w (w.alloc (.cells #[.slice a0 n0 c0, .int .i64 x.valid, .int .i64 x.next, .int .i64 x.seq, .slice a1 x.mails.length c1, .slice a2 x.gones.length c2, .int .i64 x.lost] 89))) := X
    clear kA X
    by_cases hml : 1 < x.lost
    · have hml0 : Hid True := trivial
      go_enter Tryz.func95, Tryz.ntmps95
      go_wp2
      go_loopw [3, 4, 5, 16] (fun q _ _ i wr => ∃ k : Nat, k ≤ x.gones.length ∧ i = .int .i64 k ∧ q = .int .i64 (minS x k) ∧ Hid (∀ j, j < k → goneAt x j = true) ∧ Hid (wr.heap[w.heap.size]? = some (.cells #[.slice a0 n0 c0, .int .i64 x.valid, .int .i64 x.next, .int .i64 x.seq, .slice a1 x.mails.length c1, .slice a2 x.gones.length c2, .int .i64 x.lost] 89)) ∧ Hid (Below w.heap.size w wr)) (fun _ _ _ i _ => x.gones.length - (intOf i).toNat)
      case atStart => exact ⟨0, Nat.zero_le _, rfl, by simp [minS] <;> omega, (fun j hj => absurd hj (Nat.not_lt_zero _)), HK, HX⟩
      case round =>
        obtain ⟨k, hk, rfl, rfl, hA, hK, hB⟩ := hrel
        by_cases hlt : k < x.gones.length
        · obtain ⟨m, hm⟩ : ∃ m, x.gones[k]? = some m := ⟨x.gones[k], List.getElem?_eq_getElem hlt⟩
          obtain ⟨b, off, cap', hv', hlb, d0, d1, j0, j1⟩ := GonesV.cell (H0.out wr hB.out).2.2 k m hm
          simp only [Value.slice.injEq, true_and] at hv'
          obtain ⟨rfl, rfl⟩ := hv'
          have HE : Hid (goneAt x k = (inB m.uid 1 (x.next - 1) && (inB m.seq (minS x k) x.seq && (!(x.mails.any fun o => decide (o.uid = m.uid)) && !((x.gones.take k).any fun o => decide (o.uid = m.uid)))))) := by simp [Hid, goneAt, hm]
          have HP1 : Hid (minS x (k + 1) = m.seq) := by simp [Hid, minS, hm]
          generalize hQ : minS x k = q at HE
          clear hQ hm
          obtain ⟨uid, seq⟩ := m
          simp only at d0 d1 j0 j1 HE HP1
          have c1' := within_any uid 1 (x.next - 1)
          have c2' := within_any seq q x.seq
          generalize inB uid 1 (x.next - 1) = X1 at c1' HE
          generalize inB seq q x.seq = X2 at c2' HE
          have HKg : Hid ((wr.alloc (.cells #[.int .i64 uid, .int .i64 seq] 117)).heap[wr.heap.size]? = some (.cells #[.int .i64 uid, .int .i64 seq] 117)) := box_new wr _
          have HKb : Hid ((wr.alloc (.cells #[.int .i64 uid, .int .i64 seq] 117)).heap[w.heap.size]? = some (.cells #[.slice a0 n0 c0, .int .i64 x.valid, .int .i64 x.next, .int .i64 x.seq, .slice a1 x.mails.length c1, .slice (some ⟨b, off, none⟩) x.gones.length c2, .int .i64 x.lost] 89)) := box_alloc hK.out _
          have HB1 : Hid (Below w.heap.size w (wr.alloc (.cells #[.int .i64 uid, .int .i64 seq] 117))) := Below.step hB.out ((Below.refl _ _).alloc (Nat.le_refl _) _)
          have c3' := containsFuncMail 103 #[.pointer (some ⟨wr.heap.size, 0, none⟩)] (fun o => decide (o.uid = uid)) _ x.mails _ (H0.out _ HB1.out).2.1 (fun args w => by kernel_rfl) (fun wi o u hbi hu => gonesOk1_any u o wr.heap.size uid wi hu (bx2 (box_below hbi HKg.out)).1 (lt_of_heap (box_below hbi HKg.out)))
          have HC4 : Hid (∀ wi, Below (wr.alloc (.cells #[.int .i64 uid, .int .i64 seq] 117)).heap.size (wr.alloc (.cells #[.int .i64 uid, .int .i64 seq] 117)) wi → Calls Tryz.prog 104 #[.slice (some ⟨b, off, none⟩) k c2, .func (.func 105) #[] #[.pointer (some ⟨wr.heap.size, 0, none⟩)]] wi fun e w' => e = .returned (.bool ((x.gones.take k).any fun o => decide (o.uid = uid))) ∧ Below wi.heap.size wi w') := fun wi hbi =>
            containsFuncGone 105 #[.pointer (some ⟨wr.heap.size, 0, none⟩)] (fun o => decide (o.uid = uid)) _ (x.gones.take k) _ (((H0.out _ (Below.step HB1.out hbi)).2.2).take k hk) (fun args w => by kernel_rfl) (fun wj o u hbj hu => gonesOk2_any u o wr.heap.size uid wj hu (bx2 (box_below hbj (box_below hbi HKg.out))).1 (lt_of_heap (box_below hbj (box_below hbi HKg.out))))
          generalize (x.mails.any fun o => decide (o.uid = uid)) = X3 at c3' HE
          generalize ((x.gones.take k).any fun o => decide (o.uid = uid)) = X4 at HC4 HE
          obtain ⟨e0, e1, e2, e3, e4, e5, e6⟩ := bx7 hK.out
          have hlA := lt_of_heap hK.out
          clear hK hB
          go_wp2_with fail
          refine (c1' _).mono ?_
          rintro e w' ⟨rfl, rfl⟩
          cases X1 with
          | false =>
            go_wp2
            go_ret
            exact ⟨ret_b (by rw [HS.out]; exact rangeAll_no k hlt HE.out), HB1.out⟩
          | true =>
          go_wp2_with fail
          refine (c2' _).mono ?_
          rintro e w' ⟨rfl, rfl⟩
          cases X2 with
          | false =>
            go_wp2
            go_ret
            exact ⟨ret_b (by rw [HS.out]; exact rangeAll_no k hlt HE.out), HB1.out⟩
          | true =>
          go_wp2_with fail
          refine c3'.mono ?_
          rintro e w2 ⟨rfl, B⟩
          have HB2 : Hid (Below w.heap.size w w2) := Below.step HB1.out B
          have HKb2 : Hid (w2.heap[w.heap.size]? = some (.cells #[.slice a0 n0 c0, .int .i64 x.valid, .int .i64 x.next, .int .i64 x.seq, .slice a1 x.mails.length c1, .slice (some ⟨b, off, none⟩) x.gones.length c2, .int .i64 x.lost] 89)) := box_below B HKb.out
          have HKg2 : Hid (w2.heap[wr.heap.size]? = some (.cells #[.int .i64 uid, .int .i64 seq] 117)) := box_below B HKg.out
          have c4' := HC4.out w2 B
          obtain ⟨t0, t1⟩ := bx2 HKg2.out
          obtain ⟨s0, s1, s2, s3, s4, s5, s6⟩ := bx7 HKb2.out
          clear B HB1 HKb HKg HC4 e0 e1 e2 e3 e4 e5 e6
          cases X3 with
          | true =>
            go_wp2
            go_ret
            exact ⟨ret_b (by rw [HS.out]; exact rangeAll_no k hlt HE.out), HB2.out⟩
          | false =>
          go_wp2_with fail
          refine c4'.mono ?_
          rintro e w3 ⟨rfl, B⟩
          have HB3 : Hid (Below w.heap.size w w3) := Below.step HB2.out B
          have HKb3 : Hid (w3.heap[w.heap.size]? = some (.cells #[.slice a0 n0 c0, .int .i64 x.valid, .int .i64 x.next, .int .i64 x.seq, .slice a1 x.mails.length c1, .slice (some ⟨b, off, none⟩) x.gones.length c2, .int .i64 x.lost] 89)) := box_below B HKb2.out
          clear t0 t1 s0 s1 s2 s3 s4 s5 s6
          obtain ⟨t0, t1⟩ := bx2 (box_below B HKg2.out)
          clear B HB2 HKb2 HKg2
          cases X4 with
          | true =>
            go_wp2
            go_ret
            exact ⟨ret_b (by rw [HS.out]; exact rangeAll_no k hlt HE.out), HB3.out⟩
          | false =>
          go_wp2
          go_roundw
          case rel =>
            refine ⟨k + 1, by omega, by go_num, by rw [HP1.out], (show Hid _ from fun j hj => ?_), HKb3, HB3⟩
            by_cases e : j = k
            · subst e; exact HE.out
            · exact hA.out j (by omega)
          case measure => simp [intOf]; omega
        · obtain rfl : k = x.gones.length := by omega
          go_wp2
          go_ret
          exact ⟨ret_b (by rw [HS.out]; exact rangeAll_yes hA.out), hB.out⟩
    · have hml' : x.lost ≤ 1 := by omega
      clear hml
      go_enter Tryz.func95, Tryz.ntmps95
      go_wp2
      go_loopw [3, 4, 5, 16] (fun q _ _ i wr => ∃ k : Nat, k ≤ x.gones.length ∧ i = .int .i64 k ∧ q = .int .i64 (minS x k) ∧ Hid (∀ j, j < k → goneAt x j = true) ∧ Hid (wr.heap[w.heap.size]? = some (.cells #[.slice a0 n0 c0, .int .i64 x.valid, .int .i64 x.next, .int .i64 x.seq, .slice a1 x.mails.length c1, .slice a2 x.gones.length c2, .int .i64 x.lost] 89)) ∧ Hid (Below w.heap.size w wr)) (fun _ _ _ i _ => x.gones.length - (intOf i).toNat)
      case atStart => exact ⟨0, Nat.zero_le _, rfl, by simp [minS] <;> omega, (fun j hj => absurd hj (Nat.not_lt_zero _)), HK, HX⟩
      case round =>
        obtain ⟨k, hk, rfl, rfl, hA, hK, hB⟩ := hrel
        by_cases hlt : k < x.gones.length
        · obtain ⟨m, hm⟩ : ∃ m, x.gones[k]? = some m := ⟨x.gones[k], List.getElem?_eq_getElem hlt⟩
          obtain ⟨b, off, cap', hv', hlb, d0, d1, j0, j1⟩ := GonesV.cell (H0.out wr hB.out).2.2 k m hm
          simp only [Value.slice.injEq, true_and] at hv'
          obtain ⟨rfl, rfl⟩ := hv'
          have HE : Hid (goneAt x k = (inB m.uid 1 (x.next - 1) && (inB m.seq (minS x k) x.seq && (!(x.mails.any fun o => decide (o.uid = m.uid)) && !((x.gones.take k).any fun o => decide (o.uid = m.uid)))))) := by simp [Hid, goneAt, hm]
          have HP1 : Hid (minS x (k + 1) = m.seq) := by simp [Hid, minS, hm]
          generalize hQ : minS x k = q at HE
          clear hQ hm
          obtain ⟨uid, seq⟩ := m
          simp only at d0 d1 j0 j1 HE HP1
          have c1' := within_any uid 1 (x.next - 1)
          have c2' := within_any seq q x.seq
          generalize inB uid 1 (x.next - 1) = X1 at c1' HE
          generalize inB seq q x.seq = X2 at c2' HE
          have HKg : Hid ((wr.alloc (.cells #[.int .i64 uid, .int .i64 seq] 117)).heap[wr.heap.size]? = some (.cells #[.int .i64 uid, .int .i64 seq] 117)) := box_new wr _
          have HKb : Hid ((wr.alloc (.cells #[.int .i64 uid, .int .i64 seq] 117)).heap[w.heap.size]? = some (.cells #[.slice a0 n0 c0, .int .i64 x.valid, .int .i64 x.next, .int .i64 x.seq, .slice a1 x.mails.length c1, .slice (some ⟨b, off, none⟩) x.gones.length c2, .int .i64 x.lost] 89)) := box_alloc hK.out _
          have HB1 : Hid (Below w.heap.size w (wr.alloc (.cells #[.int .i64 uid, .int .i64 seq] 117))) := Below.step hB.out ((Below.refl _ _).alloc (Nat.le_refl _) _)
          have c3' := containsFuncMail 103 #[.pointer (some ⟨wr.heap.size, 0, none⟩)] (fun o => decide (o.uid = uid)) _ x.mails _ (H0.out _ HB1.out).2.1 (fun args w => by kernel_rfl) (fun wi o u hbi hu => gonesOk1_any u o wr.heap.size uid wi hu (bx2 (box_below hbi HKg.out)).1 (lt_of_heap (box_below hbi HKg.out)))
          have HC4 : Hid (∀ wi, Below (wr.alloc (.cells #[.int .i64 uid, .int .i64 seq] 117)).heap.size (wr.alloc (.cells #[.int .i64 uid, .int .i64 seq] 117)) wi → Calls Tryz.prog 104 #[.slice (some ⟨b, off, none⟩) k c2, .func (.func 105) #[] #[.pointer (some ⟨wr.heap.size, 0, none⟩)]] wi fun e w' => e = .returned (.bool ((x.gones.take k).any fun o => decide (o.uid = uid))) ∧ Below wi.heap.size wi w') := fun wi hbi =>
            containsFuncGone 105 #[.pointer (some ⟨wr.heap.size, 0, none⟩)] (fun o => decide (o.uid = uid)) _ (x.gones.take k) _ (((H0.out _ (Below.step HB1.out hbi)).2.2).take k hk) (fun args w => by kernel_rfl) (fun wj o u hbj hu => gonesOk2_any u o wr.heap.size uid wj hu (bx2 (box_below hbj (box_below hbi HKg.out))).1 (lt_of_heap (box_below hbj (box_below hbi HKg.out))))
          generalize (x.mails.any fun o => decide (o.uid = uid)) = X3 at c3' HE
          generalize ((x.gones.take k).any fun o => decide (o.uid = uid)) = X4 at HC4 HE
          obtain ⟨e0, e1, e2, e3, e4, e5, e6⟩ := bx7 hK.out
          have hlA := lt_of_heap hK.out
          clear hK hB
          go_wp2_with fail
          refine (c1' _).mono ?_
          rintro e w' ⟨rfl, rfl⟩
          cases X1 with
          | false =>
            go_wp2
            go_ret
            exact ⟨ret_b (by rw [HS.out]; exact rangeAll_no k hlt HE.out), HB1.out⟩
          | true =>
          go_wp2_with fail
          refine (c2' _).mono ?_
          rintro e w' ⟨rfl, rfl⟩
          cases X2 with
          | false =>
            go_wp2
            go_ret
            exact ⟨ret_b (by rw [HS.out]; exact rangeAll_no k hlt HE.out), HB1.out⟩
          | true =>
          go_wp2_with fail
          refine c3'.mono ?_
          rintro e w2 ⟨rfl, B⟩
          have HB2 : Hid (Below w.heap.size w w2) := Below.step HB1.out B
          have HKb2 : Hid (w2.heap[w.heap.size]? = some (.cells #[.slice a0 n0 c0, .int .i64 x.valid, .int .i64 x.next, .int .i64 x.seq, .slice a1 x.mails.length c1, .slice (some ⟨b, off, none⟩) x.gones.length c2, .int .i64 x.lost] 89)) := box_below B HKb.out
          have HKg2 : Hid (w2.heap[wr.heap.size]? = some (.cells #[.int .i64 uid, .int .i64 seq] 117)) := box_below B HKg.out
          have c4' := HC4.out w2 B
          obtain ⟨t0, t1⟩ := bx2 HKg2.out
          obtain ⟨s0, s1, s2, s3, s4, s5, s6⟩ := bx7 HKb2.out
          clear B HB1 HKb HKg HC4 e0 e1 e2 e3 e4 e5 e6
          cases X3 with
          | true =>
            go_wp2
            go_ret
            exact ⟨ret_b (by rw [HS.out]; exact rangeAll_no k hlt HE.out), HB2.out⟩
          | false =>
          go_wp2_with fail
          refine c4'.mono ?_
          rintro e w3 ⟨rfl, B⟩
          have HB3 : Hid (Below w.heap.size w w3) := Below.step HB2.out B
          have HKb3 : Hid (w3.heap[w.heap.size]? = some (.cells #[.slice a0 n0 c0, .int .i64 x.valid, .int .i64 x.next, .int .i64 x.seq, .slice a1 x.mails.length c1, .slice (some ⟨b, off, none⟩) x.gones.length c2, .int .i64 x.lost] 89)) := box_below B HKb2.out
          clear t0 t1 s0 s1 s2 s3 s4 s5 s6
          obtain ⟨t0, t1⟩ := bx2 (box_below B HKg2.out)
          clear B HB2 HKb2 HKg2
          cases X4 with
          | true =>
            go_wp2
            go_ret
            exact ⟨ret_b (by rw [HS.out]; exact rangeAll_no k hlt HE.out), HB3.out⟩
          | false =>
          go_wp2
          go_roundw
          case rel =>
            refine ⟨k + 1, by omega, by go_num, by rw [HP1.out], (show Hid _ from fun j hj => ?_), HKb3, HB3⟩
            by_cases e : j = k
            · subst e; exact HE.out
            · exact hA.out j (by omega)
          case measure => simp [intOf]; omega
        · obtain rfl : k = x.gones.length := by omega
          go_wp2
          go_ret
          exact ⟨ret_b (by rw [HS.out]; exact rangeAll_yes hA.out), hB.out⟩
  · have HS : Hid (gonesB x = false) := by simp [Hid, gonesB, h0]
    go_enter Tryz.func95, Tryz.ntmps95
    go_wp2
    go_ret
    exact ⟨ret_b HS.out, X⟩

end Go.Proofs.YtdokgpdfdenoaaaGreat

/- In a region that draws its order: operations whose guards are not met are passed by together. -/
namespace Go.Proofs.YtdokgpdfdenoaaaGreat


/-- These operations may come up one behind the other, and none is wanted; ds: the slots that they would fill. -/
def skipsOk (md : Region.Mode) (ops : Array Oper) : List Nat → List Nat → Array Bool → Array Value → Bool
  | [], [], _, _ => true
  | i :: is, d :: ds, l, tm => match ops[i]? with
    | some o => (o.dst == some d) && (Region.free md ops l i && ((Region.ready md ops l).contains i && (!(Region.wanted o (yielded ops tm)) && skipsOk md ops is ds (l.setIfInBounds i true) (tm.setIfInBounds d undef))))
    | none => false
  | _, _, _, _ => false

theorem wpAnyH_skips {P : Program} {md : Region.Mode} {ops : Array Oper} {Q : Exit → Act → World → Prop} {S : World → Prop} {w : World} (hs : Region.noSelect ops = true)
    (hQ : ∀ (d : Nat) v c a w, Q (.panic c) (a.put (some d) v) w → Q (.panic c) a w) (hS : S w) :
    ∀ (is ds : List Nat) (l : Array Bool) (a : Act) (fuel : Nat), skipsOk md ops is ds l a.tmps = true →
      wpAnyH P md ops Q S fuel (is.foldl (fun l i => l.setIfInBounds i true) l) (ds.foldl (fun a d => a.put (some d) undef) a) w → wpAnyH P md ops Q S (fuel + is.length) l a w
  | [], [], _, _, _, _, h => h
  | [], _ :: _, _, _, _, hk, _ => by simp [skipsOk] at hk
  | _ :: _, [], _, _, _, hk, _ => by simp [skipsOk] at hk
  | i :: is, d :: ds, l, a, fuel, hk, h => by
    unfold skipsOk at hk
    split at hk
    · rename_i o ho
      simp only [Bool.and_eq_true, beq_iff_eq, Bool.not_eq_true'] at hk
      obtain ⟨h1, h2, h3, h4, h5⟩ := hk
      refine wpAnyH_take (fuel := fuel + is.length) (i := i) (oi := o) (v := undef) ho hs h2 h3 (fun c a w => by rw [h1]; exact hQ d _ c a w) (Or.inr ⟨h4, rfl⟩) hS ?_
      rw [h1]
      exact wpAnyH_skips hs hQ hS is ds _ _ fuel (by simpa [Act.put] using h5) h
    · cases hk

/-- One operation is taken first; the slot that it fills is named. -/
theorem wpAnyH_takeD {P : Program} {md : Region.Mode} {ops : Array Oper} {Q : Exit → Act → World → Prop} {S : World → Prop} {i : Nat} (d : Nat) {oi : Oper} {v : Value} {fuel : Nat} {listed : Array Bool} {a : Act} {w : World} (hi : ops[i]? = some oi)
    (hd : oi.dst = some d) (hs : Region.noSelect ops = true) (hf : Region.free md ops listed i = true) (hr : (Region.ready md ops listed).contains i = true)
    (hQ : ∀ c a w, Q (.panic c) (a.put (some d) v) w → Q (.panic c) a w) (hy : YieldsIf P ops S oi v a) (hS : S w)
    (h : wpAnyH P md ops Q S fuel (listed.setIfInBounds i true) (a.put (some d) v) w) : wpAnyH P md ops Q S (fuel + 1) listed a w :=
  wpAnyH_take hi hs hf hr (by rw [hd]; exact hQ) hy hS (by rw [hd]; exact h)

/-- The same, its side conditions in one Bool; short, for it is written often. -/
theorem tk {P : Program} {md : Region.Mode} {ops : Array Oper} {Q : Exit → Act → World → Prop} {S : World → Prop} (i d : Nat) {oi : Oper} (v : Value) {fuel : Nat} {listed : Array Bool} {a : Act} {w : World}
    (hy : ∀ w, S w → (execOp a.eval oi).run P w = .ok (.value v) w) (hS : S w) (h : wpAnyH P md ops Q S fuel (listed.setIfInBounds i true) (a.put (some d) v) w)
    (hi : ops[i]? = some oi := by rfl)
    (hc : (Region.noSelect ops && (Region.free md ops listed i && (Region.ready md ops listed).contains i)) = true := by decide +kernel)
    (hg : (oi.dst == some d && Region.wanted oi (yielded ops a.tmps)) = true := by kernel_rfl)
    (hQ : ∀ c a w, Q (.panic c) (a.put (some d) v) w → Q (.panic c) a w := by exact fun _ _ _ h => h) : wpAnyH P md ops Q S (fuel + 1) listed a w := by
  simp only [Bool.and_eq_true, beq_iff_eq] at hc hg
  obtain ⟨h2, h3, h4⟩ := hc
  obtain ⟨h1, h5⟩ := hg
  exact wpAnyH_takeD d hi h1 h2 h3 h4 hQ (Or.inl ⟨h5, hy⟩) hS h
theorem sA {α : Type} (l : List α) (i : Nat) (a : α) : l.toArray.setIfInBounds i a = (l.set i a).toArray := by simp
theorem s0 {α : Type} (x : α) (l : List α) (a : α) : (x :: l).set 0 a = a :: l := rfl
theorem sS {α : Type} (x : α) (l : List α) (i : Nat) (a : α) : (x :: l).set (i + 1) a = x :: l.set i a := rfl
/-- The same, what it yields and the state behind it found by themselves. -/
theorem tq {P : Program} {md : Region.Mode} {ops : Array Oper} {Q : Exit → Act → World → Prop} {S : World → Prop} (i d : Nat) {oi : Oper} {v : Value} {fuel : Nat} {listed : Array Bool} {a a' : Act} {w : World}
    (hS : S w) (h : wpAnyH P md ops Q S fuel (listed.setIfInBounds i true) a' w)
    (hi : ops[i]? = some oi := by rfl)
    (hc : (Region.noSelect ops && (Region.free md ops listed i && (Region.ready md ops listed).contains i)) = true := by decide +kernel)
    (hg : (oi.dst == some d && Region.wanted oi (yielded ops a.tmps)) = true := by kernel_rfl)
    (hy : ∀ w, S w → (execOp a.eval oi).run P w = .ok (.value v) w := by (intro w s; (try dsimp only at s); go_simp <;> with_reducible rfl))
    (ha : a.put (some d) v = a' := by (conv => lhs; simp only [Act.put, sA, s0, sS]))
    (hQ : ∀ c a w, Q (.panic c) (a.put (some d) v) w → Q (.panic c) a w := by exact fun _ _ _ h => h) : wpAnyH P md ops Q S (fuel + 1) listed a w :=
  tk i d v hy hS (by rw [ha]; exact h) hi hc hg hQ

end Go.Proofs.YtdokgpdfdenoaaaGreat
