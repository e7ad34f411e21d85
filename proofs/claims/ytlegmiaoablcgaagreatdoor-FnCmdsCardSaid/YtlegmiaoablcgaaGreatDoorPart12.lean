/- The proof's texts, part 12. -/
import Derived.Test.YtlegmiaoablcgaaGreatDoorPart11
import Derived.Test.YtlegmiaoablcgaaGreatDoorPart9
import Derived.Test.YtlegmiaoablcgaaGreatDoorPart2
import Derived.Deep.Light
import Derived.Test.YtlegmiaoablcgaaGreatDoorPart8
import Derived.Lib.AppendStr
import Derived.Test.YtlegmiaoablcgaaGreatDoorPart10
import Derived.Test.YtlegmiaoablcgaaGreatDoorPart3

/- What CmdOk of package spec does of kind 6. -/
namespace Go.Proofs.YtlegmiaoablcgaaGreatDoor
open Go.RowKit
set_option maxRecDepth 100000
set_option linter.unusedVariables false

set_option maxRecDepth 100000 in
set_option maxHeartbeats 4000000 in
theorem specCmdOk_6 (a0 a1 a2 : Option Addr) (nb nt nx c0 c1 c2 : Nat) (bx tt : List Int) (uid mode fl si : Int) (tx : List Int) (w : World) (HN : Hid (bx.length = nb ∧ tt.length = nt ∧ tx.length = nx))
    (H0 : Hid (∀ o, Bs (w.alloc o) (.slice a0 nb c0) bx ∧ Bs (w.alloc o) (.slice a1 nt c1) tt ∧ Bs (w.alloc o) (.slice a2 nx c2) tx)) (i10 : -9223372036854775808 ≤ uid) (i11 : uid ≤ 9223372036854775807) (i20 : -9223372036854775808 ≤ mode) (i21 : mode ≤ 9223372036854775807) (i30 : -9223372036854775808 ≤ fl) (i31 : fl ≤ 9223372036854775807) (i40 : -9223372036854775808 ≤ si) (i41 : si ≤ 9223372036854775807) :
    Calls Tryz.prog 6 #[.agg #[.int .i64 6, .slice a0 nb c0, .slice a1 nt c1, .int .i64 uid, .int .i64 mode, .int .i64 fl, .int .i64 si, .slice a2 nx c2]] w fun e w' => e = .returned (.bool (cmdB 6 bx tt uid mode fl si tx)) ∧ Below w.heap.size w w' := by
  have hp : ∀ w, Calls Tryz.prog 17 #[.int .i64 6] w fun e w' => e = .returned (.tuple #[.bool true, .bool true, .bool true, .bool false, .bool false]) ∧ w' = w := fun w => l3parts_any 6 w
  have ab : Hid (∀ o, Below w.heap.size w (w.alloc o)) := fun o => (Below.refl _ _).alloc (Nat.le_refl _) o
  rcases Nat.eq_zero_or_pos nb with rfl | hnb
  · go_enter Tryz.func6, Tryz.ntmps6
    go_wp2
    go_ret
    exact ⟨ret_b (by have h0 := nameB_nil HN.out.1; unfold cmdB; simp [h0]), ab.out _⟩
  have hnb' : (nb : Int) ≠ 0 := by omega
  have hn0 : ∀ o, Calls Tryz.prog 16 #[.slice a0 nb c0] (w.alloc o) fun e w' => e = .returned (.bool (nameB bx)) ∧ w' = w.alloc o := fun o => l3name_any _ bx _ (H0.out o).1
  have hn1 : ∀ o, Calls Tryz.prog 16 #[.slice a1 nt c1] (w.alloc o) fun e w' => e = .returned (.bool (nameB tt)) ∧ w' = w.alloc o := fun o => l3name_any _ tt _ (H0.out o).2.1
  generalize hX : nameB bx = X at hn0
  generalize hY : nameB tt = Y at hn1
  have HX : Hid (nameB bx = X) := hX
  have HY : Hid (nameB tt = Y) := hY
  clear hX hY
  rcases X with _ | _
  · go_enter Tryz.func6, Tryz.ntmps6
    go_wp2_with fail
    refine (hn0 _).mono ?_
    rintro e w' ⟨rfl, rfl⟩
    go_wp2
    go_ret
    exact ⟨ret_b (by have h0 := HX.out; unfold cmdB; simp [h0]), ab.out _⟩
  rcases Nat.eq_zero_or_pos nt with rfl | hnt
  · go_enter Tryz.func6, Tryz.ntmps6
    go_wp2_with fail
    refine (hn0 _).mono ?_
    rintro e w' ⟨rfl, rfl⟩
    go_wp2_with (first
    | (go_at_call 19; refine (l3text_any _ tx _ (H0.out _).2.2).mono ?_; rintro e w' ⟨rfl, rfl⟩)
    | (go_at_call 17; refine (hp _).mono ?_; rintro e w' ⟨rfl, rfl⟩)
    | (go_at_call 18; refine (l3seq_any _ _).mono ?_; rintro e w' ⟨rfl, rfl⟩))
    go_ret
    exact ⟨ret_b (by have h0 := nameB_nil HN.out.2.1; unfold cmdB; simp [h0]), ab.out _⟩
  have hnt' : (nt : Int) ≠ 0 := by omega
  have hnt2 : (0 : Int) < nt := by omega
  rcases Y with _ | _
  · go_enter Tryz.func6, Tryz.ntmps6
    go_wp2_with fail
    refine (hn0 _).mono ?_
    rintro e w' ⟨rfl, rfl⟩
    go_wp2_with (first
    | (go_at_call 19; refine (l3text_any _ tx _ (H0.out _).2.2).mono ?_; rintro e w' ⟨rfl, rfl⟩)
    | (go_at_call 17; refine (hp _).mono ?_; rintro e w' ⟨rfl, rfl⟩)
    | (go_at_call 18; refine (l3seq_any _ _).mono ?_; rintro e w' ⟨rfl, rfl⟩))
    refine (hn1 _).mono ?_
    rintro e w' ⟨rfl, rfl⟩
    go_wp2_with (first
    | (go_at_call 19; refine (l3text_any _ tx _ (H0.out _).2.2).mono ?_; rintro e w' ⟨rfl, rfl⟩)
    | (go_at_call 17; refine (hp _).mono ?_; rintro e w' ⟨rfl, rfl⟩)
    | (go_at_call 18; refine (l3seq_any _ _).mono ?_; rintro e w' ⟨rfl, rfl⟩))
    go_ret
    exact ⟨ret_b (by have h0 := HY.out; unfold cmdB; simp [h0]), ab.out _⟩
  go_enter Tryz.func6, Tryz.ntmps6
  go_wp2_with fail
  refine (hn0 _).mono ?_
  rintro e w' ⟨rfl, rfl⟩
  go_wp2_with (first
    | (go_at_call 19; refine (l3text_any _ tx _ (H0.out _).2.2).mono ?_; rintro e w' ⟨rfl, rfl⟩)
    | (go_at_call 17; refine (hp _).mono ?_; rintro e w' ⟨rfl, rfl⟩)
    | (go_at_call 18; refine (l3seq_any _ _).mono ?_; rintro e w' ⟨rfl, rfl⟩))
  refine (hn1 _).mono ?_
  rintro e w' ⟨rfl, rfl⟩
  go_wp2_with (first
    | (go_at_call 19; refine (l3text_any _ tx _ (H0.out _).2.2).mono ?_; rintro e w' ⟨rfl, rfl⟩)
    | (go_at_call 17; refine (hp _).mono ?_; rintro e w' ⟨rfl, rfl⟩)
    | (go_at_call 18; refine (l3seq_any _ _).mono ?_; rintro e w' ⟨rfl, rfl⟩))
  all_goals go_ret
  all_goals refine ⟨ret_b ?_, ab.out _⟩
  all_goals clear hp H0 hn0 hn1
  all_goals have HN' := HN.out
  all_goals (try go_light)
  all_goals obtain ⟨e0, e1, e2⟩ := HN'
  all_goals clear HN ab
  all_goals have z0 := nameB_nil (l := bx)
  all_goals have z1 := nameB_nil (l := tt)
  all_goals have z2 := textB_nil (l := tx)
  all_goals (try have y0 := HX.out)
  all_goals (try have y1 := HY.out)
  all_goals (try clear HX HY)
  all_goals (unfold cmdB; unfold inB at *; cases hn : nameB bx <;> cases hm : nameB tt <;> cases ht : textB tx <;> simp [hn, hm, ht, e0, e1, e2] at * <;> first | omega | (rw [Bool.eq_iff_iff]; simp; omega))

end Go.Proofs.YtlegmiaoablcgaaGreatDoor

/- What CmdOk of package spec does of kind 8. -/
namespace Go.Proofs.YtlegmiaoablcgaaGreatDoor
open Go.RowKit
set_option maxRecDepth 100000
set_option linter.unusedVariables false

set_option maxRecDepth 100000 in
set_option maxHeartbeats 4000000 in
theorem specCmdOk_8 (a0 a1 a2 : Option Addr) (nb nt nx c0 c1 c2 : Nat) (bx tt : List Int) (uid mode fl si : Int) (tx : List Int) (w : World) (HN : Hid (bx.length = nb ∧ tt.length = nt ∧ tx.length = nx))
    (H0 : Hid (∀ o, Bs (w.alloc o) (.slice a0 nb c0) bx ∧ Bs (w.alloc o) (.slice a1 nt c1) tt ∧ Bs (w.alloc o) (.slice a2 nx c2) tx)) (i10 : -9223372036854775808 ≤ uid) (i11 : uid ≤ 9223372036854775807) (i20 : -9223372036854775808 ≤ mode) (i21 : mode ≤ 9223372036854775807) (i30 : -9223372036854775808 ≤ fl) (i31 : fl ≤ 9223372036854775807) (i40 : -9223372036854775808 ≤ si) (i41 : si ≤ 9223372036854775807) :
    Calls Tryz.prog 6 #[.agg #[.int .i64 8, .slice a0 nb c0, .slice a1 nt c1, .int .i64 uid, .int .i64 mode, .int .i64 fl, .int .i64 si, .slice a2 nx c2]] w fun e w' => e = .returned (.bool (cmdB 8 bx tt uid mode fl si tx)) ∧ Below w.heap.size w w' := by
  have hp : ∀ w, Calls Tryz.prog 17 #[.int .i64 8] w fun e w' => e = .returned (.tuple #[.bool false, .bool false, .bool false, .bool true, .bool false]) ∧ w' = w := fun w => l3parts_any 8 w
  have ab : Hid (∀ o, Below w.heap.size w (w.alloc o)) := fun o => (Below.refl _ _).alloc (Nat.le_refl _) o
  rcases Nat.eq_zero_or_pos nb with rfl | hnb
  all_goals rcases Nat.eq_zero_or_pos nt with rfl | hnt
  all_goals try have hnb' : (nb : Int) ≠ 0 := by omega
  all_goals try have hnt' : (nt : Int) ≠ 0 := by omega
  all_goals try have hnt2 : (0 : Int) < nt := by omega
  all_goals go_enter Tryz.func6, Tryz.ntmps6
  all_goals go_wp2_with (first
    | (go_at_call 16; (refine (l3name_any _ bx _ (H0.out _).1).mono ?_); rintro e w' ⟨rfl, rfl⟩)
    | (go_at_call 19; refine (l3text_any _ tx _ (H0.out _).2.2).mono ?_; rintro e w' ⟨rfl, rfl⟩)
    | (go_at_call 17; refine (hp _).mono ?_; rintro e w' ⟨rfl, rfl⟩)
    | (go_at_call 18; refine (l3seq_any _ _).mono ?_; rintro e w' ⟨rfl, rfl⟩))
  all_goals go_ret
  all_goals refine ⟨ret_b ?_, ab.out _⟩
  all_goals clear hp H0
  all_goals have HN' := HN.out
  all_goals (try go_light)
  all_goals obtain ⟨e0, e1, e2⟩ := HN'
  all_goals clear HN ab
  all_goals have z0 := nameB_nil (l := bx)
  all_goals have z1 := nameB_nil (l := tt)
  all_goals have z2 := textB_nil (l := tx)
  all_goals (try have y0 := HX.out)
  all_goals (try have y1 := HY.out)
  all_goals (try clear HX HY)
  all_goals (unfold cmdB; unfold inB at *; cases hn : nameB bx <;> cases hm : nameB tt <;> cases ht : textB tx <;> simp [hn, hm, ht, e0, e1, e2] at * <;> first | omega | (rw [Bool.eq_iff_iff]; simp; omega))

end Go.Proofs.YtlegmiaoablcgaaGreatDoor

/- What CmdOk of package spec does of kind 9. -/
namespace Go.Proofs.YtlegmiaoablcgaaGreatDoor
open Go.RowKit
set_option maxRecDepth 100000
set_option linter.unusedVariables false

set_option maxRecDepth 100000 in
set_option maxHeartbeats 4000000 in
theorem specCmdOk_9 (a0 a1 a2 : Option Addr) (nb nt nx c0 c1 c2 : Nat) (bx tt : List Int) (uid mode fl si : Int) (tx : List Int) (w : World) (HN : Hid (bx.length = nb ∧ tt.length = nt ∧ tx.length = nx))
    (H0 : Hid (∀ o, Bs (w.alloc o) (.slice a0 nb c0) bx ∧ Bs (w.alloc o) (.slice a1 nt c1) tt ∧ Bs (w.alloc o) (.slice a2 nx c2) tx)) (i10 : -9223372036854775808 ≤ uid) (i11 : uid ≤ 9223372036854775807) (i20 : -9223372036854775808 ≤ mode) (i21 : mode ≤ 9223372036854775807) (i30 : -9223372036854775808 ≤ fl) (i31 : fl ≤ 9223372036854775807) (i40 : -9223372036854775808 ≤ si) (i41 : si ≤ 9223372036854775807) :
    Calls Tryz.prog 6 #[.agg #[.int .i64 9, .slice a0 nb c0, .slice a1 nt c1, .int .i64 uid, .int .i64 mode, .int .i64 fl, .int .i64 si, .slice a2 nx c2]] w fun e w' => e = .returned (.bool (cmdB 9 bx tt uid mode fl si tx)) ∧ Below w.heap.size w w' := by
  have hp : ∀ w, Calls Tryz.prog 17 #[.int .i64 9] w fun e w' => e = .returned (.tuple #[.bool false, .bool false, .bool false, .bool false, .bool false]) ∧ w' = w := fun w => l3parts_any 9 w
  have ab : Hid (∀ o, Below w.heap.size w (w.alloc o)) := fun o => (Below.refl _ _).alloc (Nat.le_refl _) o
  rcases Nat.eq_zero_or_pos nb with rfl | hnb
  all_goals rcases Nat.eq_zero_or_pos nt with rfl | hnt
  all_goals try have hnb' : (nb : Int) ≠ 0 := by omega
  all_goals try have hnt' : (nt : Int) ≠ 0 := by omega
  all_goals try have hnt2 : (0 : Int) < nt := by omega
  all_goals go_enter Tryz.func6, Tryz.ntmps6
  all_goals go_wp2_with (first
    | (go_at_call 16; (refine (l3name_any _ bx _ (H0.out _).1).mono ?_); rintro e w' ⟨rfl, rfl⟩)
    | (go_at_call 19; refine (l3text_any _ tx _ (H0.out _).2.2).mono ?_; rintro e w' ⟨rfl, rfl⟩)
    | (go_at_call 17; refine (hp _).mono ?_; rintro e w' ⟨rfl, rfl⟩)
    | (go_at_call 18; refine (l3seq_any _ _).mono ?_; rintro e w' ⟨rfl, rfl⟩))
  all_goals go_ret
  all_goals refine ⟨ret_b ?_, ab.out _⟩
  all_goals clear hp H0
  all_goals have HN' := HN.out
  all_goals (try go_light)
  all_goals obtain ⟨e0, e1, e2⟩ := HN'
  all_goals clear HN ab
  all_goals have z0 := nameB_nil (l := bx)
  all_goals have z1 := nameB_nil (l := tt)
  all_goals have z2 := textB_nil (l := tx)
  all_goals (try have y0 := HX.out)
  all_goals (try have y1 := HY.out)
  all_goals (try clear HX HY)
  all_goals (unfold cmdB; unfold inB at *; cases hn : nameB bx <;> cases hm : nameB tt <;> cases ht : textB tx <;> simp [hn, hm, ht, e0, e1, e2] at * <;> first | omega | (rw [Bool.eq_iff_iff]; simp; omega))

end Go.Proofs.YtlegmiaoablcgaaGreatDoor

/- What CmdOk of package spec does. -/
namespace Go.Proofs.YtlegmiaoablcgaaGreatDoor
open Go.RowKit
set_option maxRecDepth 100000

set_option maxRecDepth 100000 in
set_option maxHeartbeats 2000000 in
theorem specCmdOk_any (v : Value) (k : Int) (bx tt : List Int) (uid mode fl si : Int) (tx : List Int) (w : World) (hv : CmdV w v k bx tt uid mode fl si tx) :
    Calls Tryz.prog 6 #[v] w fun e w' => e = .returned (.bool (cmdB k bx tt uid mode fl si tx)) ∧ Below w.heap.size w w' := by
  obtain ⟨u0, u1, u2, rfl, g0, g1, g2, i0, i1, i2, i3, i4⟩ := hv
  have ab : ∀ o, Below w.heap.size w (w.alloc o) := fun o => (Below.refl _ _).alloc (Nat.le_refl _) o
  have H0 : Hid (∀ o, Bs (w.alloc o) u0 bx ∧ Bs (w.alloc o) u1 tt ∧ Bs (w.alloc o) u2 tx) := fun o => ⟨g0.below (ab o), g1.below (ab o), g2.below (ab o)⟩
  obtain ⟨a0, c0, rfl⟩ := g0.form
  obtain ⟨a1, c1, rfl⟩ := g1.form
  obtain ⟨a2, c2, rfl⟩ := g2.form
  obtain ⟨i10, i11⟩ := i1
  obtain ⟨i20, i21⟩ := i2
  obtain ⟨i30, i31⟩ := i3
  obtain ⟨i40, i41⟩ := i4
  obtain ⟨i00, i01⟩ := i0
  by_cases h : 0 ≤ k ∧ k ≤ 9
  · have hk : k = 0 ∨ k = 1 ∨ k = 2 ∨ k = 3 ∨ k = 4 ∨ k = 5 ∨ k = 6 ∨ k = 7 ∨ k = 8 ∨ k = 9 := by omega
    rcases hk with rfl | rfl | rfl | rfl | rfl | rfl | rfl | rfl | rfl | rfl
    · exact specCmdOk_A 0 (by omega) (by omega) (by omega) (by omega) (by omega) (by omega) (by omega) (by omega) a0 a1 a2 _ _ _ c0 c1 c2 bx tt uid mode fl si tx w ⟨rfl, rfl, rfl⟩ H0 i10 i11 i20 i21 i30 i31 i40 i41
    · exact specCmdOk_A 1 (by omega) (by omega) (by omega) (by omega) (by omega) (by omega) (by omega) (by omega) a0 a1 a2 _ _ _ c0 c1 c2 bx tt uid mode fl si tx w ⟨rfl, rfl, rfl⟩ H0 i10 i11 i20 i21 i30 i31 i40 i41
    · exact specCmdOk_2 a0 a1 a2 _ _ _ c0 c1 c2 bx tt uid mode fl si tx w ⟨rfl, rfl, rfl⟩ H0 i10 i11 i20 i21 i30 i31 i40 i41
    · exact specCmdOk_3 a0 a1 a2 _ _ _ c0 c1 c2 bx tt uid mode fl si tx w ⟨rfl, rfl, rfl⟩ H0 i10 i11 i20 i21 i30 i31 i40 i41
    · exact specCmdOk_A 4 (by omega) (by omega) (by omega) (by omega) (by omega) (by omega) (by omega) (by omega) a0 a1 a2 _ _ _ c0 c1 c2 bx tt uid mode fl si tx w ⟨rfl, rfl, rfl⟩ H0 i10 i11 i20 i21 i30 i31 i40 i41
    · exact specCmdOk_5 a0 a1 a2 _ _ _ c0 c1 c2 bx tt uid mode fl si tx w ⟨rfl, rfl, rfl⟩ H0 i10 i11 i20 i21 i30 i31 i40 i41
    · exact specCmdOk_6 a0 a1 a2 _ _ _ c0 c1 c2 bx tt uid mode fl si tx w ⟨rfl, rfl, rfl⟩ H0 i10 i11 i20 i21 i30 i31 i40 i41
    · exact specCmdOk_A 7 (by omega) (by omega) (by omega) (by omega) (by omega) (by omega) (by omega) (by omega) a0 a1 a2 _ _ _ c0 c1 c2 bx tt uid mode fl si tx w ⟨rfl, rfl, rfl⟩ H0 i10 i11 i20 i21 i30 i31 i40 i41
    · exact specCmdOk_8 a0 a1 a2 _ _ _ c0 c1 c2 bx tt uid mode fl si tx w ⟨rfl, rfl, rfl⟩ H0 i10 i11 i20 i21 i30 i31 i40 i41
    · exact specCmdOk_9 a0 a1 a2 _ _ _ c0 c1 c2 bx tt uid mode fl si tx w ⟨rfl, rfl, rfl⟩ H0 i10 i11 i20 i21 i30 i31 i40 i41
  · have HZ : Hid (cmdB k bx tt uid mode fl si tx = false) := by simp [Hid, cmdB, h]
    by_cases h1 : k < 0
    · go_enter Tryz.func6, Tryz.ntmps6
      go_wp2
      go_ret
      exact ⟨ret_b HZ.out, ab _⟩
    · have h2 : 9 < k := by omega
      go_enter Tryz.func6, Tryz.ntmps6
      go_wp2
      go_ret
      exact ⟨ret_b HZ.out, ab _⟩

end Go.Proofs.YtlegmiaoablcgaaGreatDoor

/- What l4text, CmdText of package spec do. -/
namespace Go.Proofs.YtlegmiaoablcgaaGreatDoor
open Go.RowKit
set_option maxRecDepth 100000
set_option linter.unusedVariables false
set_option linter.unusedSimpArgs false

theorem textB_len' {l : List Int} (h : textB l = true) : l.length ≤ 30 := by unfold textB at h; simp at h; exact h.1
theorem cmd_facts {k : Int} {bx tt : List Int} {uid mode fl si : Int} {tx : List Int} (h : cmdB k bx tt uid mode fl si tx = true) :
    (0 ≤ k ∧ k ≤ 9) ∧ (k ≠ 9 → nameB bx = true) ∧ (k = 6 → nameB tt = true) ∧ (0 ≤ uid ∧ uid ≤ 1000000) ∧ (0 ≤ mode ∧ mode ≤ 2) ∧ (0 ≤ fl ∧ fl ≤ 31) ∧ (0 ≤ si ∧ si ≤ 1000000) ∧ tx.length ≤ 30 := by
  simp only [cmdB, Bool.and_eq_true, decide_eq_true_eq] at h
  obtain ⟨⟨⟨⟨⟨⟨⟨h0, h1⟩, h2⟩, h3⟩, h4⟩, h5⟩, h6⟩, h7⟩ := h
  refine ⟨h0, fun hk => ?_, fun hk => ?_, ?_, ?_, ?_, ?_, ?_⟩
  · rwa [if_neg hk] at h1
  · rwa [if_pos hk] at h2
  · split at h3
    · simp only [inB, Bool.and_eq_true, decide_eq_true_eq] at h3; omega
    · simp only [decide_eq_true_eq] at h3; omega
  · simp only [inB, Bool.and_eq_true, decide_eq_true_eq] at h4
    split at h4
    · omega
    · split at h4 <;> omega
  · simp only [inB, Bool.and_eq_true, decide_eq_true_eq] at h5
    split at h5 <;> omega
  · simp only [inB, Bool.and_eq_true, decide_eq_true_eq] at h6
    split at h6 <;> omega
  · split at h7
    · exact textB_len' h7
    · simp only [decide_eq_true_eq] at h7; omega
theorem ctB_yes {k : Int} {bx tt : List Int} {uid mode fl si : Int} {tx : List Int} (h : cmdB k bx tt uid mode fl si tx = true) : ctB k bx tt uid mode fl si tx = kindW k ++ (toksB k bx tt uid mode fl si tx).flatMap (fun s => [32] ++ s) := by unfold ctB; rw [h]
theorem ctB_no {k : Int} {bx tt : List Int} {uid mode fl si : Int} {tx : List Int} (h : cmdB k bx tt uid mode fl si tx = false) : ctB k bx tt uid mode fl si tx = [] := by unfold ctB; rw [h]

theorem l4text_own (v : Value) (k : Int) (bx tt : List Int) (uid mode fl si : Int) (tx : List Int) (w : World) (hv : CmdV w v k bx tt uid mode fl si tx) (hok : cmdB k bx tt uid mode fl si tx = true) :
    Calls Tryz.prog 26 #[v] w fun e w' => ∃ u, e = .returned u ∧ OwnA w w' u (ctB k bx tt uid mode fl si tx) ∧ Below w.heap.size w w' := by
  rw [ctB_yes hok]
  obtain ⟨hk, hb, ht, hu, hm, hf, hs, hx⟩ := cmd_facts hok
  clear hok
  obtain ⟨u0, u1, u2, rfl, g0, g1, g2, -⟩ := hv
  have HG : Hid (∀ wi, Below w.heap.size w wi → Bs wi u0 bx ∧ Bs wi u1 tt ∧ Bs wi u2 tx) := fun wi h => ⟨g0.below h, g1.below h, g2.below h⟩
  obtain ⟨a0, n0, c0, rfl⟩ := g0.form3
  obtain ⟨a1, n1, c1, rfl⟩ := g1.form3
  obtain ⟨a2, n2, c2, rfl⟩ := g2.form3
  clear g0 g1 g2
  obtain ⟨un, rfl⟩ : ∃ n : Nat, uid = n := ⟨uid.toNat, by omega⟩
  obtain ⟨mn, rfl⟩ : ∃ n : Nat, mode = n := ⟨mode.toNat, by omega⟩
  obtain ⟨fn, rfl⟩ : ∃ n : Nat, fl = n := ⟨fl.toNat, by omega⟩
  obtain ⟨sn, rfl⟩ : ∃ n : Nat, si = n := ⟨si.toNat, by omega⟩
  by_cases h9 : k = 9
  · subst h9
    refine (l4text_9' a0 a1 a2 n0 n1 n2 c0 c1 c2 bx tt un mn fn sn tx w HG).mono ?_
    rintro e w' ⟨u, rfl, hB, r⟩
    exact ⟨u, rfl, by simpa [toksB] using hB, r⟩
  have hl := nameB_len (hb h9)
  have hk' : k = 0 ∨ k = 1 ∨ k = 2 ∨ k = 3 ∨ k = 4 ∨ k = 5 ∨ k = 6 ∨ k = 7 ∨ k = 8 := by omega
  clear h9 hb
  rcases hk' with rfl | rfl | rfl | rfl | rfl | rfl | rfl | rfl | rfl
  · refine (l4text_0 a0 a1 a2 n0 n1 n2 c0 c1 c2 bx tt un mn fn sn tx w HG hl.2 hl.1).mono ?_
    rintro e w' ⟨u, rfl, hB, r⟩
    exact ⟨u, rfl, by simpa [toksB] using hB, r⟩
  · refine (l4text_1 a0 a1 a2 n0 n1 n2 c0 c1 c2 bx tt un mn fn sn tx w HG hl.2 hl.1).mono ?_
    rintro e w' ⟨u, rfl, hB, r⟩
    exact ⟨u, rfl, by simpa [toksB] using hB, r⟩
  · refine (l4text_2 a0 a1 a2 n0 n1 n2 c0 c1 c2 bx tt un mn fn sn tx w HG hl.2 hl.1 fn rfl (by omega) hx).mono ?_
    rintro e w' ⟨u, rfl, hB, r⟩
    exact ⟨u, rfl, by simpa [toksB] using hB, r⟩
  · refine (l4text_3 a0 a1 a2 n0 n1 n2 c0 c1 c2 bx tt un mn fn sn tx w HG hl.2 hl.1 un mn fn sn rfl (by omega) rfl (by omega) rfl (by omega) rfl (by omega)).mono ?_
    rintro e w' ⟨u, rfl, hB, r⟩
    refine ⟨u, rfl, ?_, r⟩
    by_cases h0 : (0 : Int) < (sn : Int)
    · have h1 : 0 < sn := by omega
      rw [if_pos h0] at hB
      simpa [toksB, h0, h1] using hB
    · have h1 : sn = 0 := by omega
      rw [if_neg h0] at hB
      subst h1
      simpa [toksB] using hB
  · refine (l4text_4 a0 a1 a2 n0 n1 n2 c0 c1 c2 bx tt un mn fn sn tx w HG hl.2 hl.1).mono ?_
    rintro e w' ⟨u, rfl, hB, r⟩
    exact ⟨u, rfl, by simpa [toksB] using hB, r⟩
  · refine (l4text_5 a0 a1 a2 n0 n1 n2 c0 c1 c2 bx tt un mn fn sn tx w HG hl.2 hl.1 un rfl (by omega)).mono ?_
    rintro e w' ⟨u, rfl, hB, r⟩
    exact ⟨u, rfl, by simpa [toksB] using hB, r⟩
  · have htl := nameB_len (ht rfl)
    refine (l4text_6 a0 a1 a2 n0 n1 n2 c0 c1 c2 bx tt un mn fn sn tx w HG hl.2 hl.1 un rfl (by omega) htl.2 htl.1).mono ?_
    rintro e w' ⟨u, rfl, hB, r⟩
    refine ⟨u, rfl, ?_, r⟩
    by_cases h0 : (mn : Int) = 1
    · rw [if_pos h0] at hB
      simpa [toksB, h0] using hB
    · rw [if_neg h0] at hB
      simpa [toksB, h0] using hB
  · refine (l4text_7 a0 a1 a2 n0 n1 n2 c0 c1 c2 bx tt un mn fn sn tx w HG hl.2 hl.1).mono ?_
    rintro e w' ⟨u, rfl, hB, r⟩
    exact ⟨u, rfl, by simpa [toksB] using hB, r⟩
  · refine (l4text_8 a0 a1 a2 n0 n1 n2 c0 c1 c2 bx tt un mn fn sn tx w HG hl.2 hl.1 sn rfl (by omega)).mono ?_
    rintro e w' ⟨u, rfl, hB, r⟩
    exact ⟨u, rfl, by simpa [toksB] using hB, r⟩

theorem l4text_any (v : Value) (k : Int) (bx tt : List Int) (uid mode fl si : Int) (tx : List Int) (w : World) (hv : CmdV w v k bx tt uid mode fl si tx) (hok : cmdB k bx tt uid mode fl si tx = true) :
    Calls Tryz.prog 26 #[v] w fun e w' => ∃ u, e = .returned u ∧ Bs w' u (ctB k bx tt uid mode fl si tx) ∧ (∀ b, u.ownBlock = some b → w.heap.size ≤ b) ∧ Below w.heap.size w w' := by
  refine (l4text_own v k bx tt uid mode fl si tx w hv hok).mono ?_
  rintro e w' ⟨u, rfl, hO, hb⟩
  exact ⟨u, rfl, hO.bs, hO.new, hb⟩

set_option maxHeartbeats 1000000 in
theorem specCmdText_r (v : Value) (k : Int) (bx tt : List Int) (uid mode fl si : Int) (tx : List Int) (w : World) (hv : CmdV w v k bx tt uid mode fl si tx) :
    Calls Tryz.prog 9 #[v] w fun e w' => ∃ u, e = .returned (.tuple #[u, .bool (cmdB k bx tt uid mode fl si tx)]) ∧ Bs w' u (ctB k bx tt uid mode fl si tx) ∧ (∀ b, u.ownBlock = some b → w.heap.size ≤ b) ∧ Below w.heap.size w w' := by
  have HV : Hid (∀ wi, Below w.heap.size w wi → CmdV wi v k bx tt uid mode fl si tx) := fun wi h => hv.below h
  obtain ⟨u0, u1, u2, rfl, g0, g1, g2, -⟩ := hv
  obtain ⟨a0, n0, c0, rfl⟩ := g0.form3
  obtain ⟨a1, n1, c1, rfl⟩ := g1.form3
  obtain ⟨a2, n2, c2, rfl⟩ := g2.form3
  clear g0 g1 g2
  have AB : ∀ o, Below w.heap.size w (w.alloc o) := fun o => (Below.refl _ _).alloc (Nat.le_refl _) o
  have kA := box_new w (.cells #[.int .i64 k, .slice a0 n0 c0, .slice a1 n1 c1, .int .i64 uid, .int .i64 mode, .int .i64 fl, .int .i64 si, .slice a2 n2 c2] 24)
  go_enter Tryz.func9, Tryz.ntmps9
  go_wp2_with fail
  refine (specCmdOk_any _ k bx tt uid mode fl si tx _ (HV.out _ (AB _))).mono ?_
  rintro e w1 ⟨rfl, B⟩
  have X := Below.step (AB _) B
  replace kA := box_below B kA
  clear B AB
  obtain ⟨f0, f1, f2, f3, f4, f5, f6, f7⟩ := box8 kA
  have hlA := lt_of_heap kA
  cases hok : cmdB k bx tt uid mode fl si tx with
  | false =>
    have HE : Hid (ctB k bx tt uid mode fl si tx = []) := ctB_no hok
    have HO : Hid (cmdB k bx tt uid mode fl si tx = false) := hok
    clear hok
    go_wp2
    refine bodyPost_ret (v := .tuple #[.slice none 0 0, .bool false]) (by simp [results, Tryz.results9, go_sem]) rfl ⟨.slice none 0 0, by rw [HO.out], ?_, fun b hb => by simp [Value.ownBlock] at hb, X⟩
    rw [HE.out]
    exact bs_nil _
  | true =>
    have HO : Hid (cmdB k bx tt uid mode fl si tx = true) := hok
    clear hok
    go_wp2_with fail
    refine (l4text_any _ k bx tt uid mode fl si tx _ (HV.out _ X) HO.out).mono ?_
    rintro e w2 ⟨u, rfl, hB, hn, B⟩
    have hs1 := X.size
    clear f0 f1 f2 f3 f4 f5 f6 f7 hlA kA
    have HF : Hid (Bs w2 u (ctB k bx tt uid mode fl si tx) ∧ (∀ b, u.ownBlock = some b → w.heap.size ≤ b) ∧ Below w.heap.size w w2) := ⟨hB, fun b hb => Nat.le_trans hs1 (hn b hb), Below.step X B⟩
    clear hB hn B X
    go_wp2
    exact bodyPost_ret (v := .tuple #[u, .bool true]) (by simp [results, Tryz.results9, go_sem]) rfl ⟨u, by rw [HO.out], HF.out⟩

end Go.Proofs.YtlegmiaoablcgaaGreatDoor

/- How long a command's text is at most. -/
namespace Go.Proofs.YtlegmiaoablcgaaGreatDoor
open Go.RowKit

theorem ctB_short (k : Int) (bx tt : List Int) (uid mode fl si : Int) (tx : List Int) : (ctB k bx tt uid mode fl si tx).length ≤ 900 := by
  cases h : cmdB k bx tt uid mode fl si tx with
  | false => rw [ctB_no h]; simp
  | true =>
    rw [ctB_yes h]
    obtain ⟨hk, hb, htn, hu, hm, hf, hs, hx⟩ := cmd_facts h
    have hql := quoB_len tx
    have hfl := flagsB_len fl
    have hdu := digB_len10 (n := uid.toNat) (by omega)
    have hds := digB_len10 (n := si.toNat) (by omega)
    have hmw : (modeW mode).length ≤ 7 := by
      obtain ⟨mn, rfl⟩ : ∃ n : Nat, mode = n := ⟨mode.toNat, by omega⟩
      exact (modeW_ok mn (by omega)).1
    have hsw : sinceW.length = 5 ∧ awayW.length = 4 := ⟨rfl, rfl⟩
    have hbl : k ≠ 9 → bx.length ≤ 6 := fun h9 => (nameB_len (hb h9)).2
    have htl : k = 6 → tt.length ≤ 6 := fun h => (nameB_len (htn h)).2
    have hkw : (kindW k).length ≤ 7 := by
      have hk' : k = 0 ∨ k = 1 ∨ k = 2 ∨ k = 3 ∨ k = 4 ∨ k = 5 ∨ k = 6 ∨ k = 7 ∨ k = 8 ∨ k = 9 := by omega
      rcases hk' with rfl | rfl | rfl | rfl | rfl | rfl | rfl | rfl | rfl | rfl <;> decide
    rw [List.length_append]
    have key : ((toksB k bx tt uid mode fl si tx).flatMap (fun s => [32] ++ s)).length ≤ 800 := by
      have hk' : k = 0 ∨ k = 1 ∨ k = 2 ∨ k = 3 ∨ k = 4 ∨ k = 5 ∨ k = 6 ∨ k = 7 ∨ k = 8 ∨ k = 9 := by omega
      rcases hk' with rfl | rfl | rfl | rfl | rfl | rfl | rfl | rfl | rfl | rfl <;> simp [toksB] <;> (try split) <;> (try simp) <;> (try have := hbl (by omega)) <;> (try have := htl rfl) <;> omega
    omega

end Go.Proofs.YtlegmiaoablcgaaGreatDoor

/- Strings and bytes put behind a text of one's own. -/
namespace Go.Proofs.YtlegmiaoablcgaaGreatDoor
open Go.RowKit
set_option linter.unusedVariables false

/-- What append of a string does behind such a row. -/
theorem run_appendStrQ {P : Program} (w : World) (t u ty : TypeId) (i : TypeInfo) (ht : P.underlying t = some (.slice 5)) (hu : P.underlying u = some .string) (hi : P.info? 5 = some i) (hz : i.zero = some (.int .u8 0)) (hsize : i.size = 1) (hby : i.bytes = 1)
    (g : Nat) (v : Value) (l : List Int) (hown : OwnQ w g v l) (m : List Int) (hm : Oct m) (hlen : l.length + m.length ≤ 140737488355328) :
    ∃ v' w' g', (Builtin.append_ #[t, u] ty #[v, .string (strOfNums m)]).run P w = .ok v' w' ∧ OwnQ w' g' v' (l ++ m) ∧ w.grownBy w' (some g) ∧ (g' = g ∨ w.heap.size ≤ g') := by
  have hold := hown.holds
  obtain ⟨ho, cap, cur, fz, rfl, hh, hfz, h1, h2, h3, h4⟩ := hown
  have hlm : (l ++ m).length = l.length + m.length := by simp
  have hss := strOfNums_size m
  have hsc := strCells_nums hm
  by_cases hroom : l.length + m.length ≤ cap
  · have hf := Lib.run_firstCells_string (P := P) w 1 (strOfNums m)
    have hst := storeQ P g l.length 5 fz (vals m) 0 cur w hh (by rw [length_vals]; rcases hfz with h | h <;> omega) (by rw [length_vals]; omega) (oneCell_vals m)
    simp only [Nat.add_zero, length_vals] at hst
    rw [hss, hsc] at hf
    refine ⟨.slice (some ⟨g, 0, none⟩) (l.length + m.length) cap, w.setRow g (cur.toList.take l.length ++ vals m ++ cur.toList.drop (l.length + m.length)).toArray, g, ?_, ⟨oct_append ho hm, cap, _, fz, by rw [hlm], setRow_heap w g cur _ _ _ hh, hfz, by rw [hlm]; exact hroom, h2, ?_, ?_⟩, ⟨rfl, rfl, rfl, by simp, fun k _ hk => setRow_other w g k _ (fun e => hk (by rw [e]))⟩, .inl rfl⟩
    · simp [Builtin.append_, run_underlying ht, run_underlying hu, sizeOf, typeInfo, hi, hsize, Builtin.lenOf, hss, hroom, hf, Addr.add_lit, hst]
    · simp only [List.size_toArray, List.length_append, List.length_take, List.length_drop, Array.length_toList, length_vals]; omega
    · have hv : (vals l ++ vals m).length = (l ++ m).length := by simp [length_vals]
      show ((cur.toList.take l.length ++ vals m ++ cur.toList.drop (l.length + m.length)).take (l ++ m).length) = _
      rw [h4, vals_append, ← hv]
      exact List.take_left
  · have hr := Lib.run_append_grow_string (P := P) w t u ty 5 i (.int .u8 0) ht hu hi hz ⟨g, 0, none⟩ l.length cap (vals l) (by rw [hsize, length_vals, Nat.mul_one]) (fun j y hy => by rw [Addr.add_lit, Nat.zero_add]; exact hold j y hy) (strOfNums m) (by omega) (by omega) (by rw [hby]; exact growslice_fits (by omega) (by omega))
    rw [hss, hsc] at hr
    have hge := grownCap_ge w (l.length + m.length) cap 5
    have hcm : grownCap w (l.length + m.length) cap 5 ≤ maxLen := grownCap_le_maxLen w (l.length + m.length) cap _ (by unfold maxLen; omega)
    refine ⟨_, _, w.heap.size, hr, ⟨oct_append ho hm, _, _, (0, 0), by rw [hlm], heap_alloc_new w.drew _, .inl rfl, by rw [hlm]; exact hge, hcm, ?_, ?_⟩, ⟨rfl, rfl, rfl, by simp, fun k hk _ => Below.heap_alloc w.drew _ k hk⟩, .inr (Nat.le_refl _)⟩
    · have hz1 : (Value.int IntKind.u8 0).cells.size = 1 := rfl
      simp only [Array.size_append, List.size_toArray, size_zeroCells, hz1, length_vals]
      omega
    · have hv : (vals l ++ vals m).length = (l ++ m).length := by simp [length_vals]
      simp only [Array.toList_append, List.append_assoc]
      rw [← List.append_assoc, vals_append, ← hv]
      exact List.take_left

theorem ite_of {c : Bool} {p q : Prop} (hc : c = true) (h : p) : if c = true then p else q := by rw [if_pos hc]; exact h
/-- An append behind such a text, as an operation of a region that draws its order: of a string, of bytes. -/
theorem wp_appStrQ {P : Program} {w : World} {o : Oper} {a : Act} {K : Act → World → Prop} {Q : Exit → Act → World → Prop} (d : Nat) (hd : o.dst = some d) (s x : Operand) (t u : TypeId)
    (ho : o.op = .call { callee := .builtin .append, args := #[s, x], argTypes := #[t, u] })
    (i : TypeInfo) (ht : P.underlying t = some (.slice 5)) (hu : P.underlying u = some .string) (hi : P.info? 5 = some i) (hz : i.zero = some (.int .u8 0)) (hsize : i.size = 1) (hby : i.bytes = 1)
    (g : Nat) (v : Value) (l : List Int) (hs : a.eval s = v) (hown : OwnQ w g v l) (m : List Int) (hx : a.eval x = .string (strOfNums m)) (hm : Oct m) (hlen : l.length + m.length ≤ 140737488355328)
    (h : ∀ v' w' g', OwnQ w' g' v' (l ++ m) → w.grownBy w' (some g) → (g' = g ∨ w.heap.size ≤ g') → K (a.put (some d) v') w') : o.wp P a w K Q := by
  obtain ⟨v', w', g', hr, h2, h3, h4⟩ := run_appendStrQ (P := P) w t u o.type i ht hu hi hz hsize hby g v l hown m hm hlen
  unfold Oper.wp execOp
  simp only [ho, resolve, invoke, builtin, Sem.run_bind, Sem.run_pure, Result.andThen_ok, List.map_toArray, List.map_cons, List.map_nil, hs, hx, hr]
  have := h v' w' g' h2 h3 h4
  rw [← hd] at this
  exact this
theorem wp_appQ {P : Program} {w : World} {o : Oper} {a : Act} {K : Act → World → Prop} {Q : Exit → Act → World → Prop} (d : Nat) (hd : o.dst = some d) (s x : Operand) (t : TypeId)
    (ho : o.op = .call { callee := .builtin .append, args := #[s, x], argTypes := #[t, t] })
    (i : TypeInfo) (ht : P.underlying t = some (.slice 5)) (hi : P.info? 5 = some i) (hz : i.zero = some (.int .u8 0)) (hsize : i.size = 1) (hby : i.bytes = 1)
    (g : Nat) (v : Value) (l : List Int) (hs : a.eval s = v) (hown : OwnQ w g v l) (u : Value) (m : List Int) (hx : a.eval x = u) (hm : Bs w u m) (hlen : l.length + m.length ≤ 140737488355328)
    (h : ∀ v' w' g', OwnQ w' g' v' (l ++ m) → w.grownBy w' (some g) → (g' = g ∨ w.heap.size ≤ g') → K (a.put (some d) v') w') : o.wp P a w K Q := by
  obtain ⟨v', w', g', hr, h2, h3, h4⟩ := run_appendQ (P := P) w t o.type i ht hi hz hsize hby g v l hown u m hm hlen
  unfold Oper.wp execOp
  simp only [ho, resolve, invoke, builtin, Sem.run_bind, Sem.run_pure, Result.andThen_ok, List.map_toArray, List.map_cons, List.map_nil, hs, hx, hr]
  have := h v' w' g' h2 h3 h4
  rw [← hd] at this
  exact this

end Go.Proofs.YtlegmiaoablcgaaGreatDoor

/- What DrawCmdRead of package spec draws: some bytes. -/
namespace Go.Proofs.YtlegmiaoablcgaaGreatDoor
open Go.RowKit
set_option maxRecDepth 100000
set_option linter.unusedVariables false
set_option linter.unusedSimpArgs false

theorem tab_dcr8 : (Tryz.f11.body.bind (opsAt 8)).all (fun o => tableS o 12 [1, 2, 3, 5, 7, 8, 9, 0, 4, 6, 10, 11] [7, 8, 9, 10] [12] 0) = true := by kernel_rfl
theorem und_int : Tryz.prog.underlying 3 = some (.int .i64) := by kernel_rfl
theorem und_str9 : Tryz.prog.underlying 9 = some .string := by kernel_rfl
section
variable {w0 w w' : World} {g k : Nat} {cv v : Value} {L l : List Int} {B n : Nat}
theorem OwnN.draw (h : OwnN w B v l) (hc : Cur w0 w g cv L) (hG : w.grownBy w' (some g)) : OwnN w' B v l := by
  rcases h with h | ⟨q, hq, h⟩
  · exact .inl h
  · refine .inr ⟨q, hq, h.frame (hG.block q h.lt ?_)⟩
    obtain ⟨_, _, _, i, j, _, _, hh⟩ := hc
    obtain ⟨_, cap, cur, fz, _, hk, _⟩ := h
    intro e
    simp only [Option.some.injEq] at e
    rw [← e] at hh
    rw [hk] at hh
    simp at hh
/-- Where DrawCmdRead stands. -/
structure DS (w0 w : World) (g : Nat) (cv : Value) (L : List Int) (v : Value) (m : List Int) (n : Nat) : Prop where
  cur : Cur w0 w g cv L
  own : OwnN w w0.heap.size v m
  len : m.length ≤ n
theorem DS.draw (h : DS w0 w g cv L v l n) (hC : Cur w0 w' g cv L) (hG : w.grownBy w' (some g)) : DS w0 w' g cv L v l n := ⟨hC, h.own.draw h.cur hG, h.len⟩
theorem DS.below (h : DS w0 w g cv L v l n) (hb : Below w.heap.size w w') : DS w0 w' g cv L v l n := ⟨h.cur.below hb, h.own.below hb, h.len⟩
theorem DS.le {n' : Nat} (h : DS w0 w g cv L v l n) (hn : n ≤ n') : DS w0 w g cv L v l n' := ⟨h.cur, h.own, Nat.le_trans h.len hn⟩
theorem DS.out2 (h : DS w0 w g cv L v l n) (hn : n ≤ 2000) : Bs w v l ∧ l.length ≤ 2000 ∧ (∀ k, v.ownBlock = some k → w0.heap.size ≤ k) ∧ Below w0.heap.size w0 w := ⟨h.own.bs, Nat.le_trans h.len hn, h.own.new, h.cur.2.1⟩
theorem DS.fin {v' : Value} (h : DS w0 w g cv L v l n) (hO : OwnN w' w0.heap.size v' (l ++ zeroL 120)) (hB : Below w0.heap.size w w') (hn : n ≤ 1500) : Bs w' v' (l ++ zeroL 120) ∧ (l ++ zeroL 120).length ≤ 2000 ∧ (∀ k, v'.ownBlock = some k → w0.heap.size ≤ k) ∧ Below w0.heap.size w0 w' := by
  have := h.len
  exact ⟨hO.bs, by rw [List.length_append, zeroL_len]; omega, hO.new, h.cur.2.1.trans hB⟩
theorem DS.some (h : DS w0 w g cv L v l n) (h0 : 0 < l.length) : ∃ q cap, v = .slice (some ⟨q, 0, none⟩) l.length cap ∧ l.length ≤ cap ∧ cap ≤ 9223372036854775807 ∧ q < w.heap.size := by
  rcases h.own with ⟨_, rfl⟩ | ⟨q, hq, hO⟩
  · simp at h0
  · have hl := hO.lt
    obtain ⟨_, cap, cur, fz, rfl, hk, _, h1, h2, _⟩ := hO
    exact ⟨q, cap, rfl, h1, by unfold maxLen at h2; omega, hl⟩
theorem pick_str (h : w.heap[k]? = some (.cells #[.string ⟨#[32, 83, 73, 78, 67, 69, 32]⟩, .string ⟨#[32, 40, 83, 41, 32]⟩, .string ⟨#[32, 53, 32]⟩, .string ⟨#[34, 120, 34]⟩, .string ⟨#[32, 65, 87, 65, 89]⟩, .string ⟨#[32, 76, 73, 83, 84, 32]⟩, .string ⟨#[32]⟩, .string ⟨#[40]⟩, .string ⟨#[92]⟩] 9 (0, 0))) (j : Nat) (hj : j < 9) : ∃ m, Oct m ∧ m.length ≤ 7 ∧ w.cell? ⟨k, j, none⟩ = some (.string (strOfNums m)) := by
  obtain rfl | rfl | rfl | rfl | rfl | rfl | rfl | rfl | rfl : j = 0 ∨ j = 1 ∨ j = 2 ∨ j = 3 ∨ j = 4 ∨ j = 5 ∨ j = 6 ∨ j = 7 ∨ j = 8 := by omega
  · exact ⟨[32, 83, 73, 78, 67, 69, 32], by intro x hx; simp at hx <;> omega, by decide, by rw [cell_of_row w k 0 _ _ (0, 0) h]; rfl⟩
  · exact ⟨[32, 40, 83, 41, 32], by intro x hx; simp at hx <;> omega, by decide, by rw [cell_of_row w k 1 _ _ (0, 0) h]; rfl⟩
  · exact ⟨[32, 53, 32], by intro x hx; simp at hx <;> omega, by decide, by rw [cell_of_row w k 2 _ _ (0, 0) h]; rfl⟩
  · exact ⟨[34, 120, 34], by intro x hx; simp at hx <;> omega, by decide, by rw [cell_of_row w k 3 _ _ (0, 0) h]; rfl⟩
  · exact ⟨[32, 65, 87, 65, 89], by intro x hx; simp at hx <;> omega, by decide, by rw [cell_of_row w k 4 _ _ (0, 0) h]; rfl⟩
  · exact ⟨[32, 76, 73, 83, 84, 32], by intro x hx; simp at hx <;> omega, by decide, by rw [cell_of_row w k 5 _ _ (0, 0) h]; rfl⟩
  · exact ⟨[32], by intro x hx; simp at hx <;> omega, by decide, by rw [cell_of_row w k 6 _ _ (0, 0) h]; rfl⟩
  · exact ⟨[40], by intro x hx; simp at hx <;> omega, by decide, by rw [cell_of_row w k 7 _ _ (0, 0) h]; rfl⟩
  · exact ⟨[92], by intro x hx; simp at hx <;> omega, by decide, by rw [cell_of_row w k 8 _ _ (0, 0) h]; rfl⟩
theorem own_empty (w : World) : OwnQ (w.drew.alloc (.cells #[] 5)) w.heap.size (.slice (some ⟨w.heap.size, 0, none⟩) 0 0) [] := ⟨oct_nil, 0, #[], (0, 0), rfl, heap_alloc_new w.drew _, .inl rfl, Nat.le_refl _, by unfold maxLen; omega, rfl, rfl⟩
end
set_option maxRecDepth 100000 in
set_option maxHeartbeats 8000000 in
theorem drawCmdRead_any (v : Value) (L : List Int) (w : World) (hv : Bs w v L) :
    Calls Tryz.prog 11 #[v] w fun e w' => ∃ u m, e = .returned u ∧ Bs w' u m ∧ m.length ≤ 2000 ∧ (∀ k, u.ownBlock = some k → w.heap.size ≤ k) ∧ Below w.heap.size w w' := by
  obtain ⟨i0, hi, hz0, hz1, hz2⟩ := info_parts info5
  have HV : Hid (Bs w v L) := hv
  clear hv
  go_enter Tryz.func11, Tryz.ntmps11
  go_wp2_with fail
  refine (l1New_any _ L w HV.out).mono ?_
  rintro e w1 ⟨g, rfl, C1, -⟩
  have HC1 := hidm C1
  clear C1
  go_wp2_with fail
  refine (l3cmd_any w _ g v L HC1.out).mono ?_
  rintro e w2 ⟨u, rfl, c, hc, hok, C2, -⟩
  have HC2 := hidm C2
  have HW := hidm hc
  have HO := hidm hok
  have hs2 : w.heap.size ≤ w2.heap.size := C2.2.1.size
  obtain ⟨u0, u1, u2, rfl, -⟩ := hc
  clear C2 hok HC1
  go_wp2_with fail
  refine (l4text_own _ c.k c.bx c.tt c.uid c.mode c.fl c.si c.tx _ HW.out HO.out).mono ?_
  rintro e w3 ⟨b, rfl, ⟨q0, hO, hq0⟩, hB⟩
  have D := hidm (⟨HC2.out.below hB, .inr ⟨q0, by omega, hO⟩, ctB_short _ _ _ _ _ _ _ _⟩ : DS w w3 g v L b (ctB c.k c.bx c.tt c.uid c.mode c.fl c.si c.tx) 900)
  generalize ctB c.k c.bx c.tt c.uid c.mode c.fl c.si c.tx = m at D
  clear hO hB HC2 HW HO hq0 hs2
  obtain ⟨ba, bc, rfl⟩ := D.out.own.form
  go_wp2_with fail
  refine (l1Once_any w _ g v L 2 D.out.cur (by omega) (by omega)).mono ?_
  rintro e w4 ⟨y, rfl, C4, G4⟩
  have D4 := hidm (D.out.draw C4 G4)
  clear C4 G4 D
  cases y
  · skip
    go_wp2_with fail
    refine (l1Once_any w _ g v L 4 D4.out.cur (by omega) (by omega)).mono ?_
    rintro e wA ⟨y, rfl, CA, GA⟩
    have DA := hidm (D4.out.draw CA GA)
    clear CA GA D4
    cases y
    · skip
      go_wp2_with fail
      refine (l1Once_any w _ g v L 40 DA.out.cur (by omega) (by omega)).mono ?_
      rintro e wy ⟨z, rfl, CZ, GZ⟩
      have DZ := hidm (DA.out.draw CZ GZ)
      clear CZ GZ DA
      cases z
      · go_wp2
        go_ret
        exact ⟨_, _, rfl, DZ.out.out2 (by omega)⟩
      · have hwl : w.heap.size ≤ wy.heap.size := DZ.out.cur.2.1.size
        have hml := DZ.out.len
        go_wp2_with (at_builtin; refine wpList_appendZ rfl (.tmp 46) (.const (.int .i64 120)) 22 3 rfl i0 Tryz.underlying22 und_int hi hz0 hz1 hz2 w.heap.size _ _ rfl DZ.out.own hwl 120 rfl (by omega) (by omega) (by omega) ?_)
        intro vz wz hOz hBz
        obtain ⟨za, zc, rfl⟩ := hOz.form
        have HF := hidm (DZ.out.fin hOz hBz (by omega))
        clear hOz hBz
        go_wp2
        go_ret
        exact ⟨_, _, rfl, HF.out⟩
    · by_cases h0 : m.length = 0
      · obtain rfl : m = [] := List.eq_nil_of_length_eq_zero h0
        simp only [List.length_nil] at DA
        go_wp2_with fail
        refine (l1Once_any w _ g v L 40 DA.out.cur (by omega) (by omega)).mono ?_
        rintro e wy ⟨z, rfl, CZ, GZ⟩
        have DZ := hidm (DA.out.draw CZ GZ)
        clear CZ GZ DA
        cases z
        · go_wp2
          go_ret
          exact ⟨_, _, rfl, DZ.out.out2 (by omega)⟩
        · have hwl : w.heap.size ≤ wy.heap.size := DZ.out.cur.2.1.size
          have hml := DZ.out.len
          go_wp2_with (at_builtin; refine wpList_appendZ rfl (.tmp 46) (.const (.int .i64 120)) 22 3 rfl i0 Tryz.underlying22 und_int hi hz0 hz1 hz2 w.heap.size _ _ rfl DZ.out.own hwl 120 rfl (by omega) (by omega) (by omega) ?_)
          intro vz wz hOz hBz
          obtain ⟨za, zc, rfl⟩ := hOz.form
          have HF := hidm (DZ.out.fin hOz hBz (by omega))
          clear hOz hBz
          go_wp2
          go_ret
          exact ⟨_, _, rfl, HF.out⟩
      · obtain ⟨q, cap, eS, hcp0, hcp1, hql⟩ := DA.out.some (by omega)
        simp only [Value.slice.injEq] at eS
        obtain ⟨rfl, -, rfl⟩ := eS
        have hmi : (0 : Int) < (m.length : Int) := by omega
        have hml := DA.out.len
        go_wp2_with fail
        refine (l1Below_any w _ g v L m.length DA.out.cur (by omega) (by omega)).mono ?_
        rintro e wB ⟨x, rfl, x0, x1, CB, GB⟩
        obtain ⟨I, rfl⟩ := Int.eq_ofNat_of_zero_le x0
        have DB := hidm (DA.out.draw CB GB)
        clear CB GB DA
        have bA : Below wB.heap.size wB (wB.alloc (.cells #[.string ⟨#[32, 83, 73, 78, 67, 69, 32]⟩, .string ⟨#[32, 40, 83, 41, 32]⟩, .string ⟨#[32, 53, 32]⟩, .string ⟨#[34, 120, 34]⟩, .string ⟨#[32, 65, 87, 65, 89]⟩, .string ⟨#[32, 76, 73, 83, 84, 32]⟩, .string ⟨#[32]⟩, .string ⟨#[40]⟩, .string ⟨#[92]⟩] 9)) := (Below.refl _ _).alloc (Nat.le_refl _) _
        have K0 := box_new wB (.cells #[.string ⟨#[32, 83, 73, 78, 67, 69, 32]⟩, .string ⟨#[32, 40, 83, 41, 32]⟩, .string ⟨#[32, 53, 32]⟩, .string ⟨#[34, 120, 34]⟩, .string ⟨#[32, 65, 87, 65, 89]⟩, .string ⟨#[32, 76, 73, 83, 84, 32]⟩, .string ⟨#[32]⟩, .string ⟨#[40]⟩, .string ⟨#[92]⟩] 9)
        have DB1 := hidm (DB.out.below bA)
        have hgB := DB.out.cur.lt.2
        clear bA DB
        go_wp2_with fail
        refine (l1Below_any w _ g v L 9 DB1.out.cur (by omega) (by omega)).mono ?_
        rintro e wC ⟨y, rfl, y0, y1, CC, GC⟩
        obtain ⟨J, rfl⟩ := Int.eq_ofNat_of_zero_le y0
        have DC := hidm (DB1.out.draw CC GC)
        have KC := (GC.block wB.heap.size (lt_of_heap K0) (by simp; omega)).trans K0
        obtain ⟨s, hso, hsl, hcell⟩ := pick_str KC J (by omega)
        have hlC := lt_of_heap KC
        obtain ⟨q', cap', e', -, -, hqC⟩ := DC.out.some (by omega)
        simp only [Value.slice.injEq, Option.some.injEq, Addr.mk.injEq] at e'
        obtain ⟨⟨rfl, -⟩, -, rfl⟩ := e'
        clear CC GC DB1 K0 KC
        have hI1 : I ≤ bc := by omega
        have hI2 : I ≤ m.length := by omega
        have hI3 : ¬ (bc = I) := by omega
        go_wp2
        refine wpS_begin 12 (S := fun w' => True) (tabS_of (by kernel_rfl) tab_dcr8) (by kernel_rfl) (trivial) (fun hTb hHeld => ?_)
        refine tks 0 1 34 hTb hHeld ?_
        refine tks 1 2 35 hTb hHeld ?_
        refine tks 2 3 36 hTb hHeld ?_
        refine tks 3 5 38 hTb hHeld ?_
        refine tks 4 7 40 hTb hHeld ?_
        refine tks 5 8 41 hTb hHeld ?_
        refine tks 6 9 42 hTb hHeld ?_
        refine cls 7 0 hTb (by decide) rfl rfl (fun K hK => ?_)
        go_simp
        have zE : (wC.alloc (.cells #[] 5)).drew.heap.size = wC.heap.size + 1 := by simp
        have HE := hidm (own_empty wC)
        have BE : Below wC.heap.size wC (wC.drew.alloc (.cells #[] 5)) := (Below.refl _ _).drew.alloc (Nat.le_refl _) _
        have hq1 := DC.out.own.bs
        have HT1 := hidm ((bs_cut hq1 0 I (by omega)).below BE)
        have HT2 := hidm ((bs_cut hq1 I (m.length - I) (by omega)).below BE)
        have DE := hidm (DC.out.below BE)
        simp only [Nat.zero_add, Nat.sub_zero, List.drop_zero] at HT1 HT2
        refine hK.out _ _ (trivial) (fun hHeld => ?_)
        clear hK K
        refine cls 8 4 hTb (by decide) rfl rfl (fun K hK => ?_)
        refine ite_of (by kernel_rfl) (wp_appQ 37 rfl (.tmp 33) (.tmp 36) 22 rfl i0 Tryz.underlying22 hi hz0 hz1 hz2 wC.heap.size _ [] rfl HE.out _ _ rfl HT1.out (by simp; omega) ?_)
        intro v1 w1' g1 O1 G1 hg1
        refine hK.out _ _ (trivial) (fun hHeld => ?_)
        clear hK K
        refine cls 9 6 hTb (by decide) rfl rfl (fun K hK => ?_)
        refine ite_of (by kernel_rfl) (wp_appStrQ 39 rfl (.tmp 37) (.tmp 38) 22 9 rfl i0 Tryz.underlying22 und_str9 hi hz0 hz1 hz2 g1 _ _ rfl O1 s rfl hso (by simp; omega) ?_)
        intro v2 w2' g2 O2 G2 hg2
        refine hK.out _ _ (trivial) (fun hHeld => ?_)
        clear hK K
        refine cls 10 10 hTb (by decide) rfl rfl (fun K hK => ?_)
        have HT3 := hidm ((HT2.out.grown G1 (by simp [Value.ownBlock]; omega)).grown G2 (by simp [Value.ownBlock]; omega))
        refine ite_of (by kernel_rfl) (wp_appQ 43 rfl (.tmp 39) (.tmp 42) 22 rfl i0 Tryz.underlying22 hi hz0 hz1 hz2 g2 _ _ rfl O2 _ _ rfl HT3.out (by simp; omega) ?_)
        intro v3 w3' g3 O3 G3 hg3
        refine hK.out _ _ (trivial) (fun hHeld => ?_)
        clear hK K
        refine tks 11 11 4 hTb hHeld ?_
        refine wpS_end hTb ?_
        have hgC := DC.out.cur.lt.2
        have DD : Hid (DS w w3' g v L v3 (((m.take I) ++ s) ++ ((m.drop I).take (m.length - I))) (900 + 7)) := by
          have hwC := DC.out.cur.2.1.size
          have gg1 : wC.heap.size ≤ g1 := by have := BE.size; omega
          have gg2 : wC.heap.size ≤ g2 := by have := BE.size; have := G1.size; omega
          have gg3 : wC.heap.size ≤ g3 := by have := BE.size; have := G1.size; have := G2.size; omega
          have b1 : Below wC.heap.size wC w1' := BE.grown G1 BE.size (fun k hk => by cases hk; exact Nat.le_refl _)
          have b2 : Below wC.heap.size wC w2' := b1.grown G2 b1.size (fun k hk => by cases hk; exact gg1)
          have b3 : Below wC.heap.size wC w3' := b2.grown G3 b2.size (fun k hk => by cases hk; exact gg2)
          exact ⟨DC.out.cur.below b3, .inr ⟨g3, by omega, by simpa using O3⟩, by simp; omega⟩
        generalize ((m.take I) ++ s) ++ ((m.drop I).take (m.length - I)) = m3 at DD
        obtain ⟨da, dc, rfl⟩ := DD.out.own.form
        clear HE BE hq1 HT1 HT2 HT3 DE O1 G1 hg1 O2 G2 hg2 O3 G3 hg3 hTb hHeld DC hcell hlC hqC
        go_wp2_with fail
        refine (l1Once_any w _ g v L 40 DD.out.cur (by omega) (by omega)).mono ?_
        rintro e wy ⟨z, rfl, CZ, GZ⟩
        have DZ := hidm (DD.out.draw CZ GZ)
        clear CZ GZ DD
        cases z
        · go_wp2
          go_ret
          exact ⟨_, _, rfl, DZ.out.out2 (by omega)⟩
        · have hwl : w.heap.size ≤ wy.heap.size := DZ.out.cur.2.1.size
          have hml := DZ.out.len
          go_wp2_with (at_builtin; refine wpList_appendZ rfl (.tmp 46) (.const (.int .i64 120)) 22 3 rfl i0 Tryz.underlying22 und_int hi hz0 hz1 hz2 w.heap.size _ _ rfl DZ.out.own hwl 120 rfl (by omega) (by omega) (by omega) ?_)
          intro vz wz hOz hBz
          obtain ⟨za, zc, rfl⟩ := hOz.form
          have HF := hidm (DZ.out.fin hOz hBz (by omega))
          clear hOz hBz
          go_wp2
          go_ret
          exact ⟨_, _, rfl, HF.out⟩
  · go_wp2_with fail
    refine (l1spoil_any w _ g v _ L m D4.out.cur D4.out.own.bs (by have := D4.out.len; omega)).mono ?_
    rintro e w5 ⟨u5, m5, rfl, hl5, R5, C5, G5⟩
    have D5 := hidm (⟨C5, R5.ownN D4.out.cur.2.1.size, by have := D4.out.len; omega⟩ : DS w w5 g v L u5 m5 901)
    clear hl5 R5 C5 G5 D4
    obtain ⟨b5, c5, rfl⟩ := D5.out.own.form
    go_wp2_with fail
    refine (l1Once_any w _ g v L 4 D5.out.cur (by omega) (by omega)).mono ?_
    rintro e wA ⟨y, rfl, CA, GA⟩
    have DA := hidm (D5.out.draw CA GA)
    clear CA GA D5
    cases y
    · skip
      go_wp2_with fail
      refine (l1Once_any w _ g v L 40 DA.out.cur (by omega) (by omega)).mono ?_
      rintro e wy ⟨z, rfl, CZ, GZ⟩
      have DZ := hidm (DA.out.draw CZ GZ)
      clear CZ GZ DA
      cases z
      · go_wp2
        go_ret
        exact ⟨_, _, rfl, DZ.out.out2 (by omega)⟩
      · have hwl : w.heap.size ≤ wy.heap.size := DZ.out.cur.2.1.size
        have hml := DZ.out.len
        go_wp2_with (at_builtin; refine wpList_appendZ rfl (.tmp 46) (.const (.int .i64 120)) 22 3 rfl i0 Tryz.underlying22 und_int hi hz0 hz1 hz2 w.heap.size _ _ rfl DZ.out.own hwl 120 rfl (by omega) (by omega) (by omega) ?_)
        intro vz wz hOz hBz
        obtain ⟨za, zc, rfl⟩ := hOz.form
        have HF := hidm (DZ.out.fin hOz hBz (by omega))
        clear hOz hBz
        go_wp2
        go_ret
        exact ⟨_, _, rfl, HF.out⟩
    · by_cases h0 : m5.length = 0
      · obtain rfl : m5 = [] := List.eq_nil_of_length_eq_zero h0
        simp only [List.length_nil] at DA
        go_wp2_with fail
        refine (l1Once_any w _ g v L 40 DA.out.cur (by omega) (by omega)).mono ?_
        rintro e wy ⟨z, rfl, CZ, GZ⟩
        have DZ := hidm (DA.out.draw CZ GZ)
        clear CZ GZ DA
        cases z
        · go_wp2
          go_ret
          exact ⟨_, _, rfl, DZ.out.out2 (by omega)⟩
        · have hwl : w.heap.size ≤ wy.heap.size := DZ.out.cur.2.1.size
          have hml := DZ.out.len
          go_wp2_with (at_builtin; refine wpList_appendZ rfl (.tmp 46) (.const (.int .i64 120)) 22 3 rfl i0 Tryz.underlying22 und_int hi hz0 hz1 hz2 w.heap.size _ _ rfl DZ.out.own hwl 120 rfl (by omega) (by omega) (by omega) ?_)
          intro vz wz hOz hBz
          obtain ⟨za, zc, rfl⟩ := hOz.form
          have HF := hidm (DZ.out.fin hOz hBz (by omega))
          clear hOz hBz
          go_wp2
          go_ret
          exact ⟨_, _, rfl, HF.out⟩
      · obtain ⟨q, cap, eS, hcp0, hcp1, hql⟩ := DA.out.some (by omega)
        simp only [Value.slice.injEq] at eS
        obtain ⟨rfl, -, rfl⟩ := eS
        have hmi : (0 : Int) < (m5.length : Int) := by omega
        have hml := DA.out.len
        go_wp2_with fail
        refine (l1Below_any w _ g v L m5.length DA.out.cur (by omega) (by omega)).mono ?_
        rintro e wB ⟨x, rfl, x0, x1, CB, GB⟩
        obtain ⟨I, rfl⟩ := Int.eq_ofNat_of_zero_le x0
        have DB := hidm (DA.out.draw CB GB)
        clear CB GB DA
        have bA : Below wB.heap.size wB (wB.alloc (.cells #[.string ⟨#[32, 83, 73, 78, 67, 69, 32]⟩, .string ⟨#[32, 40, 83, 41, 32]⟩, .string ⟨#[32, 53, 32]⟩, .string ⟨#[34, 120, 34]⟩, .string ⟨#[32, 65, 87, 65, 89]⟩, .string ⟨#[32, 76, 73, 83, 84, 32]⟩, .string ⟨#[32]⟩, .string ⟨#[40]⟩, .string ⟨#[92]⟩] 9)) := (Below.refl _ _).alloc (Nat.le_refl _) _
        have K0 := box_new wB (.cells #[.string ⟨#[32, 83, 73, 78, 67, 69, 32]⟩, .string ⟨#[32, 40, 83, 41, 32]⟩, .string ⟨#[32, 53, 32]⟩, .string ⟨#[34, 120, 34]⟩, .string ⟨#[32, 65, 87, 65, 89]⟩, .string ⟨#[32, 76, 73, 83, 84, 32]⟩, .string ⟨#[32]⟩, .string ⟨#[40]⟩, .string ⟨#[92]⟩] 9)
        have DB1 := hidm (DB.out.below bA)
        have hgB := DB.out.cur.lt.2
        clear bA DB
        go_wp2_with fail
        refine (l1Below_any w _ g v L 9 DB1.out.cur (by omega) (by omega)).mono ?_
        rintro e wC ⟨y, rfl, y0, y1, CC, GC⟩
        obtain ⟨J, rfl⟩ := Int.eq_ofNat_of_zero_le y0
        have DC := hidm (DB1.out.draw CC GC)
        have KC := (GC.block wB.heap.size (lt_of_heap K0) (by simp; omega)).trans K0
        obtain ⟨s, hso, hsl, hcell⟩ := pick_str KC J (by omega)
        have hlC := lt_of_heap KC
        obtain ⟨q', cap', e', -, -, hqC⟩ := DC.out.some (by omega)
        simp only [Value.slice.injEq, Option.some.injEq, Addr.mk.injEq] at e'
        obtain ⟨⟨rfl, -⟩, -, rfl⟩ := e'
        clear CC GC DB1 K0 KC
        have hI1 : I ≤ c5 := by omega
        have hI2 : I ≤ m5.length := by omega
        have hI3 : ¬ (c5 = I) := by omega
        go_wp2
        refine wpS_begin 12 (S := fun w' => True) (tabS_of (by kernel_rfl) tab_dcr8) (by kernel_rfl) (trivial) (fun hTb hHeld => ?_)
        refine tks 0 1 34 hTb hHeld ?_
        refine tks 1 2 35 hTb hHeld ?_
        refine tks 2 3 36 hTb hHeld ?_
        refine tks 3 5 38 hTb hHeld ?_
        refine tks 4 7 40 hTb hHeld ?_
        refine tks 5 8 41 hTb hHeld ?_
        refine tks 6 9 42 hTb hHeld ?_
        refine cls 7 0 hTb (by decide) rfl rfl (fun K hK => ?_)
        go_simp
        have zE : (wC.alloc (.cells #[] 5)).drew.heap.size = wC.heap.size + 1 := by simp
        have HE := hidm (own_empty wC)
        have BE : Below wC.heap.size wC (wC.drew.alloc (.cells #[] 5)) := (Below.refl _ _).drew.alloc (Nat.le_refl _) _
        have hq1 := DC.out.own.bs
        have HT1 := hidm ((bs_cut hq1 0 I (by omega)).below BE)
        have HT2 := hidm ((bs_cut hq1 I (m5.length - I) (by omega)).below BE)
        have DE := hidm (DC.out.below BE)
        simp only [Nat.zero_add, Nat.sub_zero, List.drop_zero] at HT1 HT2
        refine hK.out _ _ (trivial) (fun hHeld => ?_)
        clear hK K
        refine cls 8 4 hTb (by decide) rfl rfl (fun K hK => ?_)
        refine ite_of (by kernel_rfl) (wp_appQ 37 rfl (.tmp 33) (.tmp 36) 22 rfl i0 Tryz.underlying22 hi hz0 hz1 hz2 wC.heap.size _ [] rfl HE.out _ _ rfl HT1.out (by simp; omega) ?_)
        intro v1 w1' g1 O1 G1 hg1
        refine hK.out _ _ (trivial) (fun hHeld => ?_)
        clear hK K
        refine cls 9 6 hTb (by decide) rfl rfl (fun K hK => ?_)
        refine ite_of (by kernel_rfl) (wp_appStrQ 39 rfl (.tmp 37) (.tmp 38) 22 9 rfl i0 Tryz.underlying22 und_str9 hi hz0 hz1 hz2 g1 _ _ rfl O1 s rfl hso (by simp; omega) ?_)
        intro v2 w2' g2 O2 G2 hg2
        refine hK.out _ _ (trivial) (fun hHeld => ?_)
        clear hK K
        refine cls 10 10 hTb (by decide) rfl rfl (fun K hK => ?_)
        have HT3 := hidm ((HT2.out.grown G1 (by simp [Value.ownBlock]; omega)).grown G2 (by simp [Value.ownBlock]; omega))
        refine ite_of (by kernel_rfl) (wp_appQ 43 rfl (.tmp 39) (.tmp 42) 22 rfl i0 Tryz.underlying22 hi hz0 hz1 hz2 g2 _ _ rfl O2 _ _ rfl HT3.out (by simp; omega) ?_)
        intro v3 w3' g3 O3 G3 hg3
        refine hK.out _ _ (trivial) (fun hHeld => ?_)
        clear hK K
        refine tks 11 11 4 hTb hHeld ?_
        refine wpS_end hTb ?_
        have hgC := DC.out.cur.lt.2
        have DD : Hid (DS w w3' g v L v3 (((m5.take I) ++ s) ++ ((m5.drop I).take (m5.length - I))) (901 + 7)) := by
          have hwC := DC.out.cur.2.1.size
          have gg1 : wC.heap.size ≤ g1 := by have := BE.size; omega
          have gg2 : wC.heap.size ≤ g2 := by have := BE.size; have := G1.size; omega
          have gg3 : wC.heap.size ≤ g3 := by have := BE.size; have := G1.size; have := G2.size; omega
          have b1 : Below wC.heap.size wC w1' := BE.grown G1 BE.size (fun k hk => by cases hk; exact Nat.le_refl _)
          have b2 : Below wC.heap.size wC w2' := b1.grown G2 b1.size (fun k hk => by cases hk; exact gg1)
          have b3 : Below wC.heap.size wC w3' := b2.grown G3 b2.size (fun k hk => by cases hk; exact gg2)
          exact ⟨DC.out.cur.below b3, .inr ⟨g3, by omega, by simpa using O3⟩, by simp; omega⟩
        generalize ((m5.take I) ++ s) ++ ((m5.drop I).take (m5.length - I)) = m3 at DD
        obtain ⟨da, dc, rfl⟩ := DD.out.own.form
        clear HE BE hq1 HT1 HT2 HT3 DE O1 G1 hg1 O2 G2 hg2 O3 G3 hg3 hTb hHeld DC hcell hlC hqC
        go_wp2_with fail
        refine (l1Once_any w _ g v L 40 DD.out.cur (by omega) (by omega)).mono ?_
        rintro e wy ⟨z, rfl, CZ, GZ⟩
        have DZ := hidm (DD.out.draw CZ GZ)
        clear CZ GZ DD
        cases z
        · go_wp2
          go_ret
          exact ⟨_, _, rfl, DZ.out.out2 (by omega)⟩
        · have hwl : w.heap.size ≤ wy.heap.size := DZ.out.cur.2.1.size
          have hml := DZ.out.len
          go_wp2_with (at_builtin; refine wpList_appendZ rfl (.tmp 46) (.const (.int .i64 120)) 22 3 rfl i0 Tryz.underlying22 und_int hi hz0 hz1 hz2 w.heap.size _ _ rfl DZ.out.own hwl 120 rfl (by omega) (by omega) (by omega) ?_)
          intro vz wz hOz hBz
          obtain ⟨za, zc, rfl⟩ := hOz.form
          have HF := hidm (DZ.out.fin hOz hBz (by omega))
          clear hOz hBz
          go_wp2
          go_ret
          exact ⟨_, _, rfl, HF.out⟩

end Go.Proofs.YtlegmiaoablcgaaGreatDoor

/- What stays while bytes of the call's own are put behind one another: all below B, and all that are no bytes. -/
namespace Go.Proofs.YtlegmiaoablcgaaGreatDoor
open Go.RowKit

structure Tw (B : Nat) (w w' : World) : Prop where
  below : Below B w w'
  typed : ∀ (b : Nat) (c : Array Value) (t : TypeId) (f : Nat × Nat), t ≠ 5 → w.heap[b]? = some (Obj.cells c t f) → w'.heap[b]? = some (Obj.cells c t f)

theorem Tw.refl (B : Nat) (w : World) : Tw B w w := ⟨Below.refl _ _, fun _ _ _ _ _ h => h⟩
theorem Tw.trans {B : Nat} {a b c : World} (h : Tw B a b) (k : Tw B b c) : Tw B a c := ⟨h.below.trans k.below, fun i cs t f ht hc => k.typed i cs t f ht (h.typed i cs t f ht hc)⟩
theorem Tw.of_below {B : Nat} {w w' : World} (hB : B ≤ w.heap.size) (h : Below w.heap.size w w') : Tw B w w' := ⟨h.mono hB, fun b _ _ _ _ hb => (h.block b (lt_of_heap hb)).trans hb⟩
theorem Tw.alloc {B : Nat} {w : World} (hB : B ≤ w.heap.size) (o : Obj) : Tw B w (w.alloc o) := Tw.of_below hB ((Below.refl _ _).alloc (Nat.le_refl _) o)
theorem Tw.grown {B : Nat} {w w' : World} {v : Value} {l : List Int} (hv : OwnB w B v l) (hB : B ≤ w.heap.size) (hg : w.grownBy w' v.ownBlock) : Tw B w w' := by
  refine ⟨(Below.refl B w).grown hg hB (fun k hk => (hv.row.lt k hk).1), fun b c t f ht hb => (hg.block b (lt_of_heap hb) fun e => ?_).trans hb⟩
  obtain ⟨g, _, _, ⟨rfl, _⟩ | ⟨cap, cur, rfl, hh, _⟩⟩ := hv
  · simp [Value.ownBlock] at e
  · simp only [Value.ownBlock, Option.some.injEq] at e
    subst e
    rw [hb] at hh
    simp only [Option.some.injEq, Obj.cells.injEq] at hh
    exact ht hh.2.1
theorem Tw.size {B : Nat} {w w' : World} (h : Tw B w w') : w.heap.size ≤ w'.heap.size := h.below.size
theorem Tw.box {B g : Nat} {w w' : World} {c : Array Value} {t : TypeId} (h : Tw B w w') (ht : t ≠ 5) (hb : w.heap[g]? = some (.cells c t (0, 0))) : w'.heap[g]? = some (.cells c t (0, 0)) := h.typed g c t _ ht hb
theorem OwnB.nil' (w : World) (B : Nat) : OwnB w B (.slice none 0 0) [] := ⟨B, Nat.le_refl _, oct_nil, .inl ⟨rfl, rfl⟩⟩

end Go.Proofs.YtlegmiaoablcgaaGreatDoor
