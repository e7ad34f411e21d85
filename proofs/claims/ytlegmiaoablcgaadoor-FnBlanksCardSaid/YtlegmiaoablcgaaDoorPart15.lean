/- The proof's texts, part 15. -/
import Derived.Test.YtlegmiaoablcgaaDoorPart3
import Derived.Test.YtlegmiaoablcgaaDoorPart12
import Derived.Test.YtlegmiaoablcgaaDoorPart2
import Derived.Deep.Light
import Derived.Test.YtlegmiaoablcgaaDoorPart14
import Derived.Test.YtlegmiaoablcgaaDoorPart11
import Derived.Lib.AppendStr
import Derived.Test.YtlegmiaoablcgaaDoorPart13
import Derived.Test.YtlegmiaoablcgaaDoorPart6
import Derived.Test.YtlegmiaoablcgaaDoorPart9
import Derived.Test.YtlegmiaoablcgaaDoorPart5
import Derived.Laws.BytesArg

/- What CmdOk of package spec does of kind 8. -/
namespace Go.Proofs.YtlegmiaoablcgaaDoor
open Go.RowKit
set_option maxRecDepth 100000
set_option linter.unusedVariables false

set_option maxRecDepth 100000 in
set_option maxHeartbeats 4000000 in
theorem specCmdOk_8 (a0 a1 a2 : Option Addr) (nb nt nx c0 c1 c2 : Nat) (bx tt : List Int) (uid mode fl si : Int) (tx : List Int) (w : World) (HN : Hid (bx.length = nb ∧ tt.length = nt ∧ tx.length = nx))
    (H0 : Hid (∀ o, Bs (w.alloc o) (.slice a0 nb c0) bx ∧ Bs (w.alloc o) (.slice a1 nt c1) tt ∧ Bs (w.alloc o) (.slice a2 nx c2) tx)) (i10 : -9223372036854775808 ≤ uid) (i11 : uid ≤ 9223372036854775807) (i20 : -9223372036854775808 ≤ mode) (i21 : mode ≤ 9223372036854775807) (i30 : -9223372036854775808 ≤ fl) (i31 : fl ≤ 9223372036854775807) (i40 : -9223372036854775808 ≤ si) (i41 : si ≤ 9223372036854775807) :
    Calls Tryd.prog 25 #[.agg #[.int .i64 8, .slice a0 nb c0, .slice a1 nt c1, .int .i64 uid, .int .i64 mode, .int .i64 fl, .int .i64 si, .slice a2 nx c2]] w fun e w' => e = .returned (.bool (cmdB 8 bx tt uid mode fl si tx)) ∧ Below w.heap.size w w' := by
  have hp : ∀ w, Calls Tryd.prog 45 #[.int .i64 8] w fun e w' => e = .returned (.tuple #[.bool false, .bool false, .bool false, .bool true, .bool false]) ∧ w' = w := fun w => l3parts_any 8 w
  have ab : Hid (∀ o, Below w.heap.size w (w.alloc o)) := fun o => (Below.refl _ _).alloc (Nat.le_refl _) o
  rcases Nat.eq_zero_or_pos nb with rfl | hnb
  all_goals rcases Nat.eq_zero_or_pos nt with rfl | hnt
  all_goals try have hnb' : (nb : Int) ≠ 0 := by omega
  all_goals try have hnt' : (nt : Int) ≠ 0 := by omega
  all_goals try have hnt2 : (0 : Int) < nt := by omega
  all_goals go_enter Tryd.func25, Tryd.ntmps25
  all_goals go_wp2_with (first
    | (go_at_call 48; (refine (l3name_any _ bx _ (H0.out _).1).mono ?_); rintro e w' ⟨rfl, rfl⟩)
    | (go_at_call 50; refine (l3text_any _ tx _ (H0.out _).2.2).mono ?_; rintro e w' ⟨rfl, rfl⟩)
    | (go_at_call 45; refine (hp _).mono ?_; rintro e w' ⟨rfl, rfl⟩)
    | (go_at_call 49; refine (l3seq_any _ _).mono ?_; rintro e w' ⟨rfl, rfl⟩))
  all_goals go_ret
  all_goals refine ⟨ret_b ?_, ab.out _⟩
  all_goals clear hp H0
  all_goals have HN' := HN.out
  all_goals (try go_light)
  all_goals obtain ⟨e0, e1, e2⟩ := HN'
  all_goals clear HN ab
  all_goals have z0 := nameB_nil (l := bx)
  all_goals have z1 := nameB_nil (l := tt)
  all_goals have z2 := textB_nil (l := tx)
  all_goals (try have y0 := HX.out)
  all_goals (try have y1 := HY.out)
  all_goals (try clear HX HY)
  all_goals (unfold cmdB; unfold inB at *; cases hn : nameB bx <;> cases hm : nameB tt <;> cases ht : textB tx <;> simp [hn, hm, ht, e0, e1, e2] at * <;> first | omega | (rw [Bool.eq_iff_iff]; simp; omega))

end Go.Proofs.YtlegmiaoablcgaaDoor

/- What CmdOk of package spec does of kind 9. -/
namespace Go.Proofs.YtlegmiaoablcgaaDoor
open Go.RowKit
set_option maxRecDepth 100000
set_option linter.unusedVariables false

set_option maxRecDepth 100000 in
set_option maxHeartbeats 4000000 in
theorem specCmdOk_9 (a0 a1 a2 : Option Addr) (nb nt nx c0 c1 c2 : Nat) (bx tt : List Int) (uid mode fl si : Int) (tx : List Int) (w : World) (HN : Hid (bx.length = nb ∧ tt.length = nt ∧ tx.length = nx))
    (H0 : Hid (∀ o, Bs (w.alloc o) (.slice a0 nb c0) bx ∧ Bs (w.alloc o) (.slice a1 nt c1) tt ∧ Bs (w.alloc o) (.slice a2 nx c2) tx)) (i10 : -9223372036854775808 ≤ uid) (i11 : uid ≤ 9223372036854775807) (i20 : -9223372036854775808 ≤ mode) (i21 : mode ≤ 9223372036854775807) (i30 : -9223372036854775808 ≤ fl) (i31 : fl ≤ 9223372036854775807) (i40 : -9223372036854775808 ≤ si) (i41 : si ≤ 9223372036854775807) :
    Calls Tryd.prog 25 #[.agg #[.int .i64 9, .slice a0 nb c0, .slice a1 nt c1, .int .i64 uid, .int .i64 mode, .int .i64 fl, .int .i64 si, .slice a2 nx c2]] w fun e w' => e = .returned (.bool (cmdB 9 bx tt uid mode fl si tx)) ∧ Below w.heap.size w w' := by
  have hp : ∀ w, Calls Tryd.prog 45 #[.int .i64 9] w fun e w' => e = .returned (.tuple #[.bool false, .bool false, .bool false, .bool false, .bool false]) ∧ w' = w := fun w => l3parts_any 9 w
  have ab : Hid (∀ o, Below w.heap.size w (w.alloc o)) := fun o => (Below.refl _ _).alloc (Nat.le_refl _) o
  rcases Nat.eq_zero_or_pos nb with rfl | hnb
  all_goals rcases Nat.eq_zero_or_pos nt with rfl | hnt
  all_goals try have hnb' : (nb : Int) ≠ 0 := by omega
  all_goals try have hnt' : (nt : Int) ≠ 0 := by omega
  all_goals try have hnt2 : (0 : Int) < nt := by omega
  all_goals go_enter Tryd.func25, Tryd.ntmps25
  all_goals go_wp2_with (first
    | (go_at_call 48; (refine (l3name_any _ bx _ (H0.out _).1).mono ?_); rintro e w' ⟨rfl, rfl⟩)
    | (go_at_call 50; refine (l3text_any _ tx _ (H0.out _).2.2).mono ?_; rintro e w' ⟨rfl, rfl⟩)
    | (go_at_call 45; refine (hp _).mono ?_; rintro e w' ⟨rfl, rfl⟩)
    | (go_at_call 49; refine (l3seq_any _ _).mono ?_; rintro e w' ⟨rfl, rfl⟩))
  all_goals go_ret
  all_goals refine ⟨ret_b ?_, ab.out _⟩
  all_goals clear hp H0
  all_goals have HN' := HN.out
  all_goals (try go_light)
  all_goals obtain ⟨e0, e1, e2⟩ := HN'
  all_goals clear HN ab
  all_goals have z0 := nameB_nil (l := bx)
  all_goals have z1 := nameB_nil (l := tt)
  all_goals have z2 := textB_nil (l := tx)
  all_goals (try have y0 := HX.out)
  all_goals (try have y1 := HY.out)
  all_goals (try clear HX HY)
  all_goals (unfold cmdB; unfold inB at *; cases hn : nameB bx <;> cases hm : nameB tt <;> cases ht : textB tx <;> simp [hn, hm, ht, e0, e1, e2] at * <;> first | omega | (rw [Bool.eq_iff_iff]; simp; omega))

end Go.Proofs.YtlegmiaoablcgaaDoor

/- What CmdOk of package spec does. -/
namespace Go.Proofs.YtlegmiaoablcgaaDoor
open Go.RowKit
set_option maxRecDepth 100000

set_option maxRecDepth 100000 in
set_option maxHeartbeats 2000000 in
theorem specCmdOk_any (v : Value) (k : Int) (bx tt : List Int) (uid mode fl si : Int) (tx : List Int) (w : World) (hv : CmdV w v k bx tt uid mode fl si tx) :
    Calls Tryd.prog 25 #[v] w fun e w' => e = .returned (.bool (cmdB k bx tt uid mode fl si tx)) ∧ Below w.heap.size w w' := by
  obtain ⟨u0, u1, u2, rfl, g0, g1, g2, i0, i1, i2, i3, i4⟩ := hv
  have ab : ∀ o, Below w.heap.size w (w.alloc o) := fun o => (Below.refl _ _).alloc (Nat.le_refl _) o
  have H0 : Hid (∀ o, Bs (w.alloc o) u0 bx ∧ Bs (w.alloc o) u1 tt ∧ Bs (w.alloc o) u2 tx) := fun o => ⟨g0.below (ab o), g1.below (ab o), g2.below (ab o)⟩
  obtain ⟨a0, c0, rfl⟩ := g0.form
  obtain ⟨a1, c1, rfl⟩ := g1.form
  obtain ⟨a2, c2, rfl⟩ := g2.form
  obtain ⟨i10, i11⟩ := i1
  obtain ⟨i20, i21⟩ := i2
  obtain ⟨i30, i31⟩ := i3
  obtain ⟨i40, i41⟩ := i4
  obtain ⟨i00, i01⟩ := i0
  by_cases h : 0 ≤ k ∧ k ≤ 9
  · have hk : k = 0 ∨ k = 1 ∨ k = 2 ∨ k = 3 ∨ k = 4 ∨ k = 5 ∨ k = 6 ∨ k = 7 ∨ k = 8 ∨ k = 9 := by omega
    rcases hk with rfl | rfl | rfl | rfl | rfl | rfl | rfl | rfl | rfl | rfl
    · exact specCmdOk_A 0 (by omega) (by omega) (by omega) (by omega) (by omega) (by omega) (by omega) (by omega) a0 a1 a2 _ _ _ c0 c1 c2 bx tt uid mode fl si tx w ⟨rfl, rfl, rfl⟩ H0 i10 i11 i20 i21 i30 i31 i40 i41
    · exact specCmdOk_A 1 (by omega) (by omega) (by omega) (by omega) (by omega) (by omega) (by omega) (by omega) a0 a1 a2 _ _ _ c0 c1 c2 bx tt uid mode fl si tx w ⟨rfl, rfl, rfl⟩ H0 i10 i11 i20 i21 i30 i31 i40 i41
    · exact specCmdOk_2 a0 a1 a2 _ _ _ c0 c1 c2 bx tt uid mode fl si tx w ⟨rfl, rfl, rfl⟩ H0 i10 i11 i20 i21 i30 i31 i40 i41
    · exact specCmdOk_3 a0 a1 a2 _ _ _ c0 c1 c2 bx tt uid mode fl si tx w ⟨rfl, rfl, rfl⟩ H0 i10 i11 i20 i21 i30 i31 i40 i41
    · exact specCmdOk_A 4 (by omega) (by omega) (by omega) (by omega) (by omega) (by omega) (by omega) (by omega) a0 a1 a2 _ _ _ c0 c1 c2 bx tt uid mode fl si tx w ⟨rfl, rfl, rfl⟩ H0 i10 i11 i20 i21 i30 i31 i40 i41
    · exact specCmdOk_5 a0 a1 a2 _ _ _ c0 c1 c2 bx tt uid mode fl si tx w ⟨rfl, rfl, rfl⟩ H0 i10 i11 i20 i21 i30 i31 i40 i41
    · exact specCmdOk_6 a0 a1 a2 _ _ _ c0 c1 c2 bx tt uid mode fl si tx w ⟨rfl, rfl, rfl⟩ H0 i10 i11 i20 i21 i30 i31 i40 i41
    · exact specCmdOk_A 7 (by omega) (by omega) (by omega) (by omega) (by omega) (by omega) (by omega) (by omega) a0 a1 a2 _ _ _ c0 c1 c2 bx tt uid mode fl si tx w ⟨rfl, rfl, rfl⟩ H0 i10 i11 i20 i21 i30 i31 i40 i41
    · exact specCmdOk_8 a0 a1 a2 _ _ _ c0 c1 c2 bx tt uid mode fl si tx w ⟨rfl, rfl, rfl⟩ H0 i10 i11 i20 i21 i30 i31 i40 i41
    · exact specCmdOk_9 a0 a1 a2 _ _ _ c0 c1 c2 bx tt uid mode fl si tx w ⟨rfl, rfl, rfl⟩ H0 i10 i11 i20 i21 i30 i31 i40 i41
  · have HZ : Hid (cmdB k bx tt uid mode fl si tx = false) := by simp [Hid, cmdB, h]
    by_cases h1 : k < 0
    · go_enter Tryd.func25, Tryd.ntmps25
      go_wp2
      go_ret
      exact ⟨ret_b HZ.out, ab _⟩
    · have h2 : 9 < k := by omega
      go_enter Tryd.func25, Tryd.ntmps25
      go_wp2
      go_ret
      exact ⟨ret_b HZ.out, ab _⟩

end Go.Proofs.YtlegmiaoablcgaaDoor

/- What l4text, CmdText of package spec do. -/
namespace Go.Proofs.YtlegmiaoablcgaaDoor
open Go.RowKit
set_option maxRecDepth 100000
set_option linter.unusedVariables false
set_option linter.unusedSimpArgs false

theorem textB_len' {l : List Int} (h : textB l = true) : l.length ≤ 30 := by unfold textB at h; simp at h; exact h.1
theorem cmd_facts {k : Int} {bx tt : List Int} {uid mode fl si : Int} {tx : List Int} (h : cmdB k bx tt uid mode fl si tx = true) :
    (0 ≤ k ∧ k ≤ 9) ∧ (k ≠ 9 → nameB bx = true) ∧ (k = 6 → nameB tt = true) ∧ (0 ≤ uid ∧ uid ≤ 1000000) ∧ (0 ≤ mode ∧ mode ≤ 2) ∧ (0 ≤ fl ∧ fl ≤ 31) ∧ (0 ≤ si ∧ si ≤ 1000000) ∧ tx.length ≤ 30 := by
  simp only [cmdB, Bool.and_eq_true, decide_eq_true_eq] at h
  obtain ⟨⟨⟨⟨⟨⟨⟨h0, h1⟩, h2⟩, h3⟩, h4⟩, h5⟩, h6⟩, h7⟩ := h
  refine ⟨h0, fun hk => ?_, fun hk => ?_, ?_, ?_, ?_, ?_, ?_⟩
  · rwa [if_neg hk] at h1
  · rwa [if_pos hk] at h2
  · split at h3
    · simp only [inB, Bool.and_eq_true, decide_eq_true_eq] at h3; omega
    · simp only [decide_eq_true_eq] at h3; omega
  · simp only [inB, Bool.and_eq_true, decide_eq_true_eq] at h4
    split at h4
    · omega
    · split at h4 <;> omega
  · simp only [inB, Bool.and_eq_true, decide_eq_true_eq] at h5
    split at h5 <;> omega
  · simp only [inB, Bool.and_eq_true, decide_eq_true_eq] at h6
    split at h6 <;> omega
  · split at h7
    · exact textB_len' h7
    · simp only [decide_eq_true_eq] at h7; omega
theorem ctB_yes {k : Int} {bx tt : List Int} {uid mode fl si : Int} {tx : List Int} (h : cmdB k bx tt uid mode fl si tx = true) : ctB k bx tt uid mode fl si tx = kindW k ++ (toksB k bx tt uid mode fl si tx).flatMap (fun s => [32] ++ s) := by unfold ctB; rw [h]
theorem ctB_no {k : Int} {bx tt : List Int} {uid mode fl si : Int} {tx : List Int} (h : cmdB k bx tt uid mode fl si tx = false) : ctB k bx tt uid mode fl si tx = [] := by unfold ctB; rw [h]

theorem l4text_own (v : Value) (k : Int) (bx tt : List Int) (uid mode fl si : Int) (tx : List Int) (w : World) (hv : CmdV w v k bx tt uid mode fl si tx) (hok : cmdB k bx tt uid mode fl si tx = true) :
    Calls Tryd.prog 20 #[v] w fun e w' => ∃ u, e = .returned u ∧ OwnA w w' u (ctB k bx tt uid mode fl si tx) ∧ Below w.heap.size w w' := by
  rw [ctB_yes hok]
  obtain ⟨hk, hb, ht, hu, hm, hf, hs, hx⟩ := cmd_facts hok
  clear hok
  obtain ⟨u0, u1, u2, rfl, g0, g1, g2, -⟩ := hv
  have HG : Hid (∀ wi, Below w.heap.size w wi → Bs wi u0 bx ∧ Bs wi u1 tt ∧ Bs wi u2 tx) := fun wi h => ⟨g0.below h, g1.below h, g2.below h⟩
  obtain ⟨a0, n0, c0, rfl⟩ := g0.form3
  obtain ⟨a1, n1, c1, rfl⟩ := g1.form3
  obtain ⟨a2, n2, c2, rfl⟩ := g2.form3
  clear g0 g1 g2
  obtain ⟨un, rfl⟩ : ∃ n : Nat, uid = n := ⟨uid.toNat, by omega⟩
  obtain ⟨mn, rfl⟩ : ∃ n : Nat, mode = n := ⟨mode.toNat, by omega⟩
  obtain ⟨fn, rfl⟩ : ∃ n : Nat, fl = n := ⟨fl.toNat, by omega⟩
  obtain ⟨sn, rfl⟩ : ∃ n : Nat, si = n := ⟨si.toNat, by omega⟩
  by_cases h9 : k = 9
  · subst h9
    refine (l4text_9' a0 a1 a2 n0 n1 n2 c0 c1 c2 bx tt un mn fn sn tx w HG).mono ?_
    rintro e w' ⟨u, rfl, hB, r⟩
    exact ⟨u, rfl, by simpa [toksB] using hB, r⟩
  have hl := nameB_len (hb h9)
  have hk' : k = 0 ∨ k = 1 ∨ k = 2 ∨ k = 3 ∨ k = 4 ∨ k = 5 ∨ k = 6 ∨ k = 7 ∨ k = 8 := by omega
  clear h9 hb
  rcases hk' with rfl | rfl | rfl | rfl | rfl | rfl | rfl | rfl | rfl
  · refine (l4text_0 a0 a1 a2 n0 n1 n2 c0 c1 c2 bx tt un mn fn sn tx w HG hl.2 hl.1).mono ?_
    rintro e w' ⟨u, rfl, hB, r⟩
    exact ⟨u, rfl, by simpa [toksB] using hB, r⟩
  · refine (l4text_1 a0 a1 a2 n0 n1 n2 c0 c1 c2 bx tt un mn fn sn tx w HG hl.2 hl.1).mono ?_
    rintro e w' ⟨u, rfl, hB, r⟩
    exact ⟨u, rfl, by simpa [toksB] using hB, r⟩
  · refine (l4text_2 a0 a1 a2 n0 n1 n2 c0 c1 c2 bx tt un mn fn sn tx w HG hl.2 hl.1 fn rfl (by omega) hx).mono ?_
    rintro e w' ⟨u, rfl, hB, r⟩
    exact ⟨u, rfl, by simpa [toksB] using hB, r⟩
  · refine (l4text_3 a0 a1 a2 n0 n1 n2 c0 c1 c2 bx tt un mn fn sn tx w HG hl.2 hl.1 un mn fn sn rfl (by omega) rfl (by omega) rfl (by omega) rfl (by omega)).mono ?_
    rintro e w' ⟨u, rfl, hB, r⟩
    refine ⟨u, rfl, ?_, r⟩
    by_cases h0 : (0 : Int) < (sn : Int)
    · have h1 : 0 < sn := by omega
      rw [if_pos h0] at hB
      simpa [toksB, h0, h1] using hB
    · have h1 : sn = 0 := by omega
      rw [if_neg h0] at hB
      subst h1
      simpa [toksB] using hB
  · refine (l4text_4 a0 a1 a2 n0 n1 n2 c0 c1 c2 bx tt un mn fn sn tx w HG hl.2 hl.1).mono ?_
    rintro e w' ⟨u, rfl, hB, r⟩
    exact ⟨u, rfl, by simpa [toksB] using hB, r⟩
  · refine (l4text_5 a0 a1 a2 n0 n1 n2 c0 c1 c2 bx tt un mn fn sn tx w HG hl.2 hl.1 un rfl (by omega)).mono ?_
    rintro e w' ⟨u, rfl, hB, r⟩
    exact ⟨u, rfl, by simpa [toksB] using hB, r⟩
  · have htl := nameB_len (ht rfl)
    refine (l4text_6 a0 a1 a2 n0 n1 n2 c0 c1 c2 bx tt un mn fn sn tx w HG hl.2 hl.1 un rfl (by omega) htl.2 htl.1).mono ?_
    rintro e w' ⟨u, rfl, hB, r⟩
    refine ⟨u, rfl, ?_, r⟩
    by_cases h0 : (mn : Int) = 1
    · rw [if_pos h0] at hB
      simpa [toksB, h0] using hB
    · rw [if_neg h0] at hB
      simpa [toksB, h0] using hB
  · refine (l4text_7 a0 a1 a2 n0 n1 n2 c0 c1 c2 bx tt un mn fn sn tx w HG hl.2 hl.1).mono ?_
    rintro e w' ⟨u, rfl, hB, r⟩
    exact ⟨u, rfl, by simpa [toksB] using hB, r⟩
  · refine (l4text_8 a0 a1 a2 n0 n1 n2 c0 c1 c2 bx tt un mn fn sn tx w HG hl.2 hl.1 sn rfl (by omega)).mono ?_
    rintro e w' ⟨u, rfl, hB, r⟩
    exact ⟨u, rfl, by simpa [toksB] using hB, r⟩

theorem l4text_any (v : Value) (k : Int) (bx tt : List Int) (uid mode fl si : Int) (tx : List Int) (w : World) (hv : CmdV w v k bx tt uid mode fl si tx) (hok : cmdB k bx tt uid mode fl si tx = true) :
    Calls Tryd.prog 20 #[v] w fun e w' => ∃ u, e = .returned u ∧ Bs w' u (ctB k bx tt uid mode fl si tx) ∧ (∀ b, u.ownBlock = some b → w.heap.size ≤ b) ∧ Below w.heap.size w w' := by
  refine (l4text_own v k bx tt uid mode fl si tx w hv hok).mono ?_
  rintro e w' ⟨u, rfl, hO, hb⟩
  exact ⟨u, rfl, hO.bs, hO.new, hb⟩

set_option maxHeartbeats 1000000 in
theorem specCmdText_r (v : Value) (k : Int) (bx tt : List Int) (uid mode fl si : Int) (tx : List Int) (w : World) (hv : CmdV w v k bx tt uid mode fl si tx) :
    Calls Tryd.prog 8 #[v] w fun e w' => ∃ u, e = .returned (.tuple #[u, .bool (cmdB k bx tt uid mode fl si tx)]) ∧ Bs w' u (ctB k bx tt uid mode fl si tx) ∧ (∀ b, u.ownBlock = some b → w.heap.size ≤ b) ∧ Below w.heap.size w w' := by
  have HV : Hid (∀ wi, Below w.heap.size w wi → CmdV wi v k bx tt uid mode fl si tx) := fun wi h => hv.below h
  obtain ⟨u0, u1, u2, rfl, g0, g1, g2, -⟩ := hv
  obtain ⟨a0, n0, c0, rfl⟩ := g0.form3
  obtain ⟨a1, n1, c1, rfl⟩ := g1.form3
  obtain ⟨a2, n2, c2, rfl⟩ := g2.form3
  clear g0 g1 g2
  have AB : ∀ o, Below w.heap.size w (w.alloc o) := fun o => (Below.refl _ _).alloc (Nat.le_refl _) o
  have kA := box_new w (.cells #[.int .i64 k, .slice a0 n0 c0, .slice a1 n1 c1, .int .i64 uid, .int .i64 mode, .int .i64 fl, .int .i64 si, .slice a2 n2 c2] 24)
  go_enter Tryd.func8, Tryd.ntmps8
  go_wp2_with fail
  refine (specCmdOk_any _ k bx tt uid mode fl si tx _ (HV.out _ (AB _))).mono ?_
  rintro e w1 ⟨rfl, B⟩
  have X := Below.step (AB _) B
  replace kA := box_below B kA
  clear B AB
  obtain ⟨f0, f1, f2, f3, f4, f5, f6, f7⟩ := box8 kA
  have hlA := lt_of_heap kA
  cases hok : cmdB k bx tt uid mode fl si tx with
  | false =>
    have HE : Hid (ctB k bx tt uid mode fl si tx = []) := ctB_no hok
    have HO : Hid (cmdB k bx tt uid mode fl si tx = false) := hok
    clear hok
    go_wp2
    refine bodyPost_ret (v := .tuple #[.slice none 0 0, .bool false]) (by simp [results, Tryd.results8, go_sem]) rfl ⟨.slice none 0 0, by rw [HO.out], ?_, fun b hb => by simp [Value.ownBlock] at hb, X⟩
    rw [HE.out]
    exact bs_nil _
  | true =>
    have HO : Hid (cmdB k bx tt uid mode fl si tx = true) := hok
    clear hok
    go_wp2_with fail
    refine (l4text_any _ k bx tt uid mode fl si tx _ (HV.out _ X) HO.out).mono ?_
    rintro e w2 ⟨u, rfl, hB, hn, B⟩
    have hs1 := X.size
    clear f0 f1 f2 f3 f4 f5 f6 f7 hlA kA
    have HF : Hid (Bs w2 u (ctB k bx tt uid mode fl si tx) ∧ (∀ b, u.ownBlock = some b → w.heap.size ≤ b) ∧ Below w.heap.size w w2) := ⟨hB, fun b hb => Nat.le_trans hs1 (hn b hb), Below.step X B⟩
    clear hB hn B X
    go_wp2
    exact bodyPost_ret (v := .tuple #[u, .bool true]) (by simp [results, Tryd.results8, go_sem]) rfl ⟨u, by rw [HO.out], HF.out⟩

end Go.Proofs.YtlegmiaoablcgaaDoor

/- How long a command's text is at most. -/
namespace Go.Proofs.YtlegmiaoablcgaaDoor
open Go.RowKit

theorem ctB_short (k : Int) (bx tt : List Int) (uid mode fl si : Int) (tx : List Int) : (ctB k bx tt uid mode fl si tx).length ≤ 900 := by
  cases h : cmdB k bx tt uid mode fl si tx with
  | false => rw [ctB_no h]; simp
  | true =>
    rw [ctB_yes h]
    obtain ⟨hk, hb, htn, hu, hm, hf, hs, hx⟩ := cmd_facts h
    have hql := quoB_len tx
    have hfl := flagsB_len fl
    have hdu := digB_len10 (n := uid.toNat) (by omega)
    have hds := digB_len10 (n := si.toNat) (by omega)
    have hmw : (modeW mode).length ≤ 7 := by
      obtain ⟨mn, rfl⟩ : ∃ n : Nat, mode = n := ⟨mode.toNat, by omega⟩
      exact (modeW_ok mn (by omega)).1
    have hsw : sinceW.length = 5 ∧ awayW.length = 4 := ⟨rfl, rfl⟩
    have hbl : k ≠ 9 → bx.length ≤ 6 := fun h9 => (nameB_len (hb h9)).2
    have htl : k = 6 → tt.length ≤ 6 := fun h => (nameB_len (htn h)).2
    have hkw : (kindW k).length ≤ 7 := by
      have hk' : k = 0 ∨ k = 1 ∨ k = 2 ∨ k = 3 ∨ k = 4 ∨ k = 5 ∨ k = 6 ∨ k = 7 ∨ k = 8 ∨ k = 9 := by omega
      rcases hk' with rfl | rfl | rfl | rfl | rfl | rfl | rfl | rfl | rfl | rfl <;> decide
    rw [List.length_append]
    have key : ((toksB k bx tt uid mode fl si tx).flatMap (fun s => [32] ++ s)).length ≤ 800 := by
      have hk' : k = 0 ∨ k = 1 ∨ k = 2 ∨ k = 3 ∨ k = 4 ∨ k = 5 ∨ k = 6 ∨ k = 7 ∨ k = 8 ∨ k = 9 := by omega
      rcases hk' with rfl | rfl | rfl | rfl | rfl | rfl | rfl | rfl | rfl | rfl <;> simp [toksB] <;> (try split) <;> (try simp) <;> (try have := hbl (by omega)) <;> (try have := htl rfl) <;> omega
    omega

end Go.Proofs.YtlegmiaoablcgaaDoor

/- Strings and bytes put behind a text of one's own. -/
namespace Go.Proofs.YtlegmiaoablcgaaDoor
open Go.RowKit
set_option linter.unusedVariables false

/-- What append of a string does behind such a row. -/
theorem run_appendStrQ {P : Program} (w : World) (t u ty : TypeId) (i : TypeInfo) (ht : P.underlying t = some (.slice 5)) (hu : P.underlying u = some .string) (hi : P.info? 5 = some i) (hz : i.zero = some (.int .u8 0)) (hsize : i.size = 1) (hby : i.bytes = 1)
    (g : Nat) (v : Value) (l : List Int) (hown : OwnQ w g v l) (m : List Int) (hm : Oct m) (hlen : l.length + m.length ≤ 140737488355328) :
    ∃ v' w' g', (Builtin.append_ #[t, u] ty #[v, .string (strOfNums m)]).run P w = .ok v' w' ∧ OwnQ w' g' v' (l ++ m) ∧ w.grownBy w' (some g) ∧ (g' = g ∨ w.heap.size ≤ g') := by
  have hold := hown.holds
  obtain ⟨ho, cap, cur, fz, rfl, hh, hfz, h1, h2, h3, h4⟩ := hown
  have hlm : (l ++ m).length = l.length + m.length := by simp
  have hss := strOfNums_size m
  have hsc := strCells_nums hm
  by_cases hroom : l.length + m.length ≤ cap
  · have hf := Lib.run_firstCells_string (P := P) w 1 (strOfNums m)
    have hst := storeQ P g l.length 5 fz (vals m) 0 cur w hh (by rw [length_vals]; rcases hfz with h | h <;> omega) (by rw [length_vals]; omega) (oneCell_vals m)
    simp only [Nat.add_zero, length_vals] at hst
    rw [hss, hsc] at hf
    refine ⟨.slice (some ⟨g, 0, none⟩) (l.length + m.length) cap, w.setRow g (cur.toList.take l.length ++ vals m ++ cur.toList.drop (l.length + m.length)).toArray, g, ?_, ⟨oct_append ho hm, cap, _, fz, by rw [hlm], setRow_heap w g cur _ _ _ hh, hfz, by rw [hlm]; exact hroom, h2, ?_, ?_⟩, ⟨rfl, rfl, rfl, by simp, fun k _ hk => setRow_other w g k _ (fun e => hk (by rw [e]))⟩, .inl rfl⟩
    · simp [Builtin.append_, run_underlying ht, run_underlying hu, sizeOf, typeInfo, hi, hsize, Builtin.lenOf, hss, hroom, hf, Addr.add_lit, hst]
    · simp only [List.size_toArray, List.length_append, List.length_take, List.length_drop, Array.length_toList, length_vals]; omega
    · have hv : (vals l ++ vals m).length = (l ++ m).length := by simp [length_vals]
      show ((cur.toList.take l.length ++ vals m ++ cur.toList.drop (l.length + m.length)).take (l ++ m).length) = _
      rw [h4, vals_append, ← hv]
      exact List.take_left
  · have hr := Lib.run_append_grow_string (P := P) w t u ty 5 i (.int .u8 0) ht hu hi hz ⟨g, 0, none⟩ l.length cap (vals l) (by rw [hsize, length_vals, Nat.mul_one]) (fun j y hy => by rw [Addr.add_lit, Nat.zero_add]; exact hold j y hy) (strOfNums m) (by omega) (by omega) (by rw [hby]; exact growslice_fits (by omega) (by omega))
    rw [hss, hsc] at hr
    have hge := grownCap_ge w (l.length + m.length) cap 5
    have hcm : grownCap w (l.length + m.length) cap 5 ≤ maxLen := grownCap_le_maxLen w (l.length + m.length) cap _ (by unfold maxLen; omega)
    refine ⟨_, _, w.heap.size, hr, ⟨oct_append ho hm, _, _, (0, 0), by rw [hlm], heap_alloc_new w.drew _, .inl rfl, by rw [hlm]; exact hge, hcm, ?_, ?_⟩, ⟨rfl, rfl, rfl, by simp, fun k hk _ => Below.heap_alloc w.drew _ k hk⟩, .inr (Nat.le_refl _)⟩
    · have hz1 : (Value.int IntKind.u8 0).cells.size = 1 := rfl
      simp only [Array.size_append, List.size_toArray, size_zeroCells, hz1, length_vals]
      omega
    · have hv : (vals l ++ vals m).length = (l ++ m).length := by simp [length_vals]
      simp only [Array.toList_append, List.append_assoc]
      rw [← List.append_assoc, vals_append, ← hv]
      exact List.take_left

theorem ite_of {c : Bool} {p q : Prop} (hc : c = true) (h : p) : if c = true then p else q := by rw [if_pos hc]; exact h
/-- An append behind such a text, as an operation of a region that draws its order: of a string, of bytes. -/
theorem wp_appStrQ {P : Program} {w : World} {o : Oper} {a : Act} {K : Act → World → Prop} {Q : Exit → Act → World → Prop} (d : Nat) (hd : o.dst = some d) (s x : Operand) (t u : TypeId)
    (ho : o.op = .call { callee := .builtin .append, args := #[s, x], argTypes := #[t, u] })
    (i : TypeInfo) (ht : P.underlying t = some (.slice 5)) (hu : P.underlying u = some .string) (hi : P.info? 5 = some i) (hz : i.zero = some (.int .u8 0)) (hsize : i.size = 1) (hby : i.bytes = 1)
    (g : Nat) (v : Value) (l : List Int) (hs : a.eval s = v) (hown : OwnQ w g v l) (m : List Int) (hx : a.eval x = .string (strOfNums m)) (hm : Oct m) (hlen : l.length + m.length ≤ 140737488355328)
    (h : ∀ v' w' g', OwnQ w' g' v' (l ++ m) → w.grownBy w' (some g) → (g' = g ∨ w.heap.size ≤ g') → K (a.put (some d) v') w') : o.wp P a w K Q := by
  obtain ⟨v', w', g', hr, h2, h3, h4⟩ := run_appendStrQ (P := P) w t u o.type i ht hu hi hz hsize hby g v l hown m hm hlen
  unfold Oper.wp execOp
  simp only [ho, resolve, invoke, builtin, Sem.run_bind, Sem.run_pure, Result.andThen_ok, List.map_toArray, List.map_cons, List.map_nil, hs, hx, hr]
  have := h v' w' g' h2 h3 h4
  rw [← hd] at this
  exact this
theorem wp_appQ {P : Program} {w : World} {o : Oper} {a : Act} {K : Act → World → Prop} {Q : Exit → Act → World → Prop} (d : Nat) (hd : o.dst = some d) (s x : Operand) (t : TypeId)
    (ho : o.op = .call { callee := .builtin .append, args := #[s, x], argTypes := #[t, t] })
    (i : TypeInfo) (ht : P.underlying t = some (.slice 5)) (hi : P.info? 5 = some i) (hz : i.zero = some (.int .u8 0)) (hsize : i.size = 1) (hby : i.bytes = 1)
    (g : Nat) (v : Value) (l : List Int) (hs : a.eval s = v) (hown : OwnQ w g v l) (u : Value) (m : List Int) (hx : a.eval x = u) (hm : Bs w u m) (hlen : l.length + m.length ≤ 140737488355328)
    (h : ∀ v' w' g', OwnQ w' g' v' (l ++ m) → w.grownBy w' (some g) → (g' = g ∨ w.heap.size ≤ g') → K (a.put (some d) v') w') : o.wp P a w K Q := by
  obtain ⟨v', w', g', hr, h2, h3, h4⟩ := run_appendQ (P := P) w t o.type i ht hi hz hsize hby g v l hown u m hm hlen
  unfold Oper.wp execOp
  simp only [ho, resolve, invoke, builtin, Sem.run_bind, Sem.run_pure, Result.andThen_ok, List.map_toArray, List.map_cons, List.map_nil, hs, hx, hr]
  have := h v' w' g' h2 h3 h4
  rw [← hd] at this
  exact this

end Go.Proofs.YtlegmiaoablcgaaDoor

/- What DrawCmdRead of package spec draws: some bytes. -/
namespace Go.Proofs.YtlegmiaoablcgaaDoor
open Go.RowKit
set_option maxRecDepth 100000
set_option linter.unusedVariables false
set_option linter.unusedSimpArgs false

theorem tab_dcr8 : (Tryd.f6.body.bind (opsAt 8)).all (fun o => tableS o 12 [1, 2, 3, 5, 7, 8, 9, 0, 4, 6, 10, 11] [7, 8, 9, 10] [12] 0) = true := by kernel_rfl
theorem und_int : Tryd.prog.underlying 3 = some (.int .i64) := by kernel_rfl
theorem und_str9 : Tryd.prog.underlying 9 = some .string := by kernel_rfl
section
variable {w0 w w' : World} {g k : Nat} {cv v : Value} {L l : List Int} {B n : Nat}
theorem OwnN.draw (h : OwnN w B v l) (hc : Cur w0 w g cv L) (hG : w.grownBy w' (some g)) : OwnN w' B v l := by
  rcases h with h | ⟨q, hq, h⟩
  · exact .inl h
  · refine .inr ⟨q, hq, h.frame (hG.block q h.lt ?_)⟩
    obtain ⟨_, _, _, i, j, _, _, hh⟩ := hc
    obtain ⟨_, cap, cur, fz, _, hk, _⟩ := h
    intro e
    simp only [Option.some.injEq] at e
    rw [← e] at hh
    rw [hk] at hh
    simp at hh
/-- Where DrawCmdRead stands. -/
structure DS (w0 w : World) (g : Nat) (cv : Value) (L : List Int) (v : Value) (m : List Int) (n : Nat) : Prop where
  cur : Cur w0 w g cv L
  own : OwnN w w0.heap.size v m
  len : m.length ≤ n
theorem DS.draw (h : DS w0 w g cv L v l n) (hC : Cur w0 w' g cv L) (hG : w.grownBy w' (some g)) : DS w0 w' g cv L v l n := ⟨hC, h.own.draw h.cur hG, h.len⟩
theorem DS.below (h : DS w0 w g cv L v l n) (hb : Below w.heap.size w w') : DS w0 w' g cv L v l n := ⟨h.cur.below hb, h.own.below hb, h.len⟩
theorem DS.le {n' : Nat} (h : DS w0 w g cv L v l n) (hn : n ≤ n') : DS w0 w g cv L v l n' := ⟨h.cur, h.own, Nat.le_trans h.len hn⟩
theorem DS.out2 (h : DS w0 w g cv L v l n) (hn : n ≤ 2000) : Bs w v l ∧ l.length ≤ 2000 ∧ (∀ k, v.ownBlock = some k → w0.heap.size ≤ k) ∧ Below w0.heap.size w0 w := ⟨h.own.bs, Nat.le_trans h.len hn, h.own.new, h.cur.2.1⟩
theorem DS.fin {v' : Value} (h : DS w0 w g cv L v l n) (hO : OwnN w' w0.heap.size v' (l ++ zeroL 120)) (hB : Below w0.heap.size w w') (hn : n ≤ 1500) : Bs w' v' (l ++ zeroL 120) ∧ (l ++ zeroL 120).length ≤ 2000 ∧ (∀ k, v'.ownBlock = some k → w0.heap.size ≤ k) ∧ Below w0.heap.size w0 w' := by
  have := h.len
  exact ⟨hO.bs, by rw [List.length_append, zeroL_len]; omega, hO.new, h.cur.2.1.trans hB⟩
theorem DS.some (h : DS w0 w g cv L v l n) (h0 : 0 < l.length) : ∃ q cap, v = .slice (some ⟨q, 0, none⟩) l.length cap ∧ l.length ≤ cap ∧ cap ≤ 9223372036854775807 ∧ q < w.heap.size := by
  rcases h.own with ⟨_, rfl⟩ | ⟨q, hq, hO⟩
  · simp at h0
  · have hl := hO.lt
    obtain ⟨_, cap, cur, fz, rfl, hk, _, h1, h2, _⟩ := hO
    exact ⟨q, cap, rfl, h1, by unfold maxLen at h2; omega, hl⟩
theorem pick_str (h : w.heap[k]? = some (.cells #[.string ⟨#[32, 83, 73, 78, 67, 69, 32]⟩, .string ⟨#[32, 40, 83, 41, 32]⟩, .string ⟨#[32, 53, 32]⟩, .string ⟨#[34, 120, 34]⟩, .string ⟨#[32, 65, 87, 65, 89]⟩, .string ⟨#[32, 76, 73, 83, 84, 32]⟩, .string ⟨#[32]⟩, .string ⟨#[40]⟩, .string ⟨#[92]⟩] 9 (0, 0))) (j : Nat) (hj : j < 9) : ∃ m, Oct m ∧ m.length ≤ 7 ∧ w.cell? ⟨k, j, none⟩ = some (.string (strOfNums m)) := by
  obtain rfl | rfl | rfl | rfl | rfl | rfl | rfl | rfl | rfl : j = 0 ∨ j = 1 ∨ j = 2 ∨ j = 3 ∨ j = 4 ∨ j = 5 ∨ j = 6 ∨ j = 7 ∨ j = 8 := by omega
  · exact ⟨[32, 83, 73, 78, 67, 69, 32], by intro x hx; simp at hx <;> omega, by decide, by rw [cell_of_row w k 0 _ _ (0, 0) h]; rfl⟩
  · exact ⟨[32, 40, 83, 41, 32], by intro x hx; simp at hx <;> omega, by decide, by rw [cell_of_row w k 1 _ _ (0, 0) h]; rfl⟩
  · exact ⟨[32, 53, 32], by intro x hx; simp at hx <;> omega, by decide, by rw [cell_of_row w k 2 _ _ (0, 0) h]; rfl⟩
  · exact ⟨[34, 120, 34], by intro x hx; simp at hx <;> omega, by decide, by rw [cell_of_row w k 3 _ _ (0, 0) h]; rfl⟩
  · exact ⟨[32, 65, 87, 65, 89], by intro x hx; simp at hx <;> omega, by decide, by rw [cell_of_row w k 4 _ _ (0, 0) h]; rfl⟩
  · exact ⟨[32, 76, 73, 83, 84, 32], by intro x hx; simp at hx <;> omega, by decide, by rw [cell_of_row w k 5 _ _ (0, 0) h]; rfl⟩
  · exact ⟨[32], by intro x hx; simp at hx <;> omega, by decide, by rw [cell_of_row w k 6 _ _ (0, 0) h]; rfl⟩
  · exact ⟨[40], by intro x hx; simp at hx <;> omega, by decide, by rw [cell_of_row w k 7 _ _ (0, 0) h]; rfl⟩
  · exact ⟨[92], by intro x hx; simp at hx <;> omega, by decide, by rw [cell_of_row w k 8 _ _ (0, 0) h]; rfl⟩
theorem own_empty (w : World) : OwnQ (w.drew.alloc (.cells #[] 5)) w.heap.size (.slice (some ⟨w.heap.size, 0, none⟩) 0 0) [] := ⟨oct_nil, 0, #[], (0, 0), rfl, heap_alloc_new w.drew _, .inl rfl, Nat.le_refl _, by unfold maxLen; omega, rfl, rfl⟩
end
set_option maxRecDepth 100000 in
set_option maxHeartbeats 8000000 in
theorem drawCmdRead_any (v : Value) (L : List Int) (w : World) (hv : Bs w v L) :
    Calls Tryd.prog 6 #[v] w fun e w' => ∃ u m, e = .returned u ∧ Bs w' u m ∧ m.length ≤ 2000 ∧ (∀ k, u.ownBlock = some k → w.heap.size ≤ k) ∧ Below w.heap.size w w' := by
  obtain ⟨i0, hi, hz0, hz1, hz2⟩ := info_parts info5
  have HV : Hid (Bs w v L) := hv
  clear hv
  go_enter Tryd.func6, Tryd.ntmps6
  go_wp2_with fail
  refine (l1New_any _ L w HV.out).mono ?_
  rintro e w1 ⟨g, rfl, C1, -⟩
  have HC1 := hidm C1
  clear C1
  go_wp2_with fail
  refine (l3cmd_any w _ g v L HC1.out).mono ?_
  rintro e w2 ⟨u, rfl, c, hc, hok, C2, -⟩
  have HC2 := hidm C2
  have HW := hidm hc
  have HO := hidm hok
  have hs2 : w.heap.size ≤ w2.heap.size := C2.2.1.size
  obtain ⟨u0, u1, u2, rfl, -⟩ := hc
  clear C2 hok HC1
  go_wp2_with fail
  refine (l4text_own _ c.k c.bx c.tt c.uid c.mode c.fl c.si c.tx _ HW.out HO.out).mono ?_
  rintro e w3 ⟨b, rfl, ⟨q0, hO, hq0⟩, hB⟩
  have D := hidm (⟨HC2.out.below hB, .inr ⟨q0, by omega, hO⟩, ctB_short _ _ _ _ _ _ _ _⟩ : DS w w3 g v L b (ctB c.k c.bx c.tt c.uid c.mode c.fl c.si c.tx) 900)
  generalize ctB c.k c.bx c.tt c.uid c.mode c.fl c.si c.tx = m at D
  clear hO hB HC2 HW HO hq0 hs2
  obtain ⟨ba, bc, rfl⟩ := D.out.own.form
  go_wp2_with fail
  refine (l1Once_any w _ g v L 2 D.out.cur (by omega) (by omega)).mono ?_
  rintro e w4 ⟨y, rfl, C4, G4⟩
  have D4 := hidm (D.out.draw C4 G4)
  clear C4 G4 D
  cases y
  · skip
    go_wp2_with fail
    refine (l1Once_any w _ g v L 4 D4.out.cur (by omega) (by omega)).mono ?_
    rintro e wA ⟨y, rfl, CA, GA⟩
    have DA := hidm (D4.out.draw CA GA)
    clear CA GA D4
    cases y
    · skip
      go_wp2_with fail
      refine (l1Once_any w _ g v L 40 DA.out.cur (by omega) (by omega)).mono ?_
      rintro e wy ⟨z, rfl, CZ, GZ⟩
      have DZ := hidm (DA.out.draw CZ GZ)
      clear CZ GZ DA
      cases z
      · go_wp2
        go_ret
        exact ⟨_, _, rfl, DZ.out.out2 (by omega)⟩
      · have hwl : w.heap.size ≤ wy.heap.size := DZ.out.cur.2.1.size
        have hml := DZ.out.len
        go_wp2_with (at_builtin; refine wpList_appendZ rfl (.tmp 46) (.const (.int .i64 120)) 22 3 rfl i0 Tryd.underlying22 und_int hi hz0 hz1 hz2 w.heap.size _ _ rfl DZ.out.own hwl 120 rfl (by omega) (by omega) (by omega) ?_)
        intro vz wz hOz hBz
        obtain ⟨za, zc, rfl⟩ := hOz.form
        have HF := hidm (DZ.out.fin hOz hBz (by omega))
        clear hOz hBz
        go_wp2
        go_ret
        exact ⟨_, _, rfl, HF.out⟩
    · by_cases h0 : m.length = 0
      · obtain rfl : m = [] := List.eq_nil_of_length_eq_zero h0
        simp only [List.length_nil] at DA
        go_wp2_with fail
        refine (l1Once_any w _ g v L 40 DA.out.cur (by omega) (by omega)).mono ?_
        rintro e wy ⟨z, rfl, CZ, GZ⟩
        have DZ := hidm (DA.out.draw CZ GZ)
        clear CZ GZ DA
        cases z
        · go_wp2
          go_ret
          exact ⟨_, _, rfl, DZ.out.out2 (by omega)⟩
        · have hwl : w.heap.size ≤ wy.heap.size := DZ.out.cur.2.1.size
          have hml := DZ.out.len
          go_wp2_with (at_builtin; refine wpList_appendZ rfl (.tmp 46) (.const (.int .i64 120)) 22 3 rfl i0 Tryd.underlying22 und_int hi hz0 hz1 hz2 w.heap.size _ _ rfl DZ.out.own hwl 120 rfl (by omega) (by omega) (by omega) ?_)
          intro vz wz hOz hBz
          obtain ⟨za, zc, rfl⟩ := hOz.form
          have HF := hidm (DZ.out.fin hOz hBz (by omega))
          clear hOz hBz
          go_wp2
          go_ret
          exact ⟨_, _, rfl, HF.out⟩
      · obtain ⟨q, cap, eS, hcp0, hcp1, hql⟩ := DA.out.some (by omega)
        simp only [Value.slice.injEq] at eS
        obtain ⟨rfl, -, rfl⟩ := eS
        have hmi : (0 : Int) < (m.length : Int) := by omega
        have hml := DA.out.len
        go_wp2_with fail
        refine (l1Below_any w _ g v L m.length DA.out.cur (by omega) (by omega)).mono ?_
        rintro e wB ⟨x, rfl, x0, x1, CB, GB⟩
        obtain ⟨I, rfl⟩ := Int.eq_ofNat_of_zero_le x0
        have DB := hidm (DA.out.draw CB GB)
        clear CB GB DA
        have bA : Below wB.heap.size wB (wB.alloc (.cells #[.string ⟨#[32, 83, 73, 78, 67, 69, 32]⟩, .string ⟨#[32, 40, 83, 41, 32]⟩, .string ⟨#[32, 53, 32]⟩, .string ⟨#[34, 120, 34]⟩, .string ⟨#[32, 65, 87, 65, 89]⟩, .string ⟨#[32, 76, 73, 83, 84, 32]⟩, .string ⟨#[32]⟩, .string ⟨#[40]⟩, .string ⟨#[92]⟩] 9)) := (Below.refl _ _).alloc (Nat.le_refl _) _
        have K0 := box_new wB (.cells #[.string ⟨#[32, 83, 73, 78, 67, 69, 32]⟩, .string ⟨#[32, 40, 83, 41, 32]⟩, .string ⟨#[32, 53, 32]⟩, .string ⟨#[34, 120, 34]⟩, .string ⟨#[32, 65, 87, 65, 89]⟩, .string ⟨#[32, 76, 73, 83, 84, 32]⟩, .string ⟨#[32]⟩, .string ⟨#[40]⟩, .string ⟨#[92]⟩] 9)
        have DB1 := hidm (DB.out.below bA)
        have hgB := DB.out.cur.lt.2
        clear bA DB
        go_wp2_with fail
        refine (l1Below_any w _ g v L 9 DB1.out.cur (by omega) (by omega)).mono ?_
        rintro e wC ⟨y, rfl, y0, y1, CC, GC⟩
        obtain ⟨J, rfl⟩ := Int.eq_ofNat_of_zero_le y0
        have DC := hidm (DB1.out.draw CC GC)
        have KC := (GC.block wB.heap.size (lt_of_heap K0) (by simp; omega)).trans K0
        obtain ⟨s, hso, hsl, hcell⟩ := pick_str KC J (by omega)
        have hlC := lt_of_heap KC
        obtain ⟨q', cap', e', -, -, hqC⟩ := DC.out.some (by omega)
        simp only [Value.slice.injEq, Option.some.injEq, Addr.mk.injEq] at e'
        obtain ⟨⟨rfl, -⟩, -, rfl⟩ := e'
        clear CC GC DB1 K0 KC
        have hI1 : I ≤ bc := by omega
        have hI2 : I ≤ m.length := by omega
        have hI3 : ¬ (bc = I) := by omega
        go_wp2
        refine wpS_begin 12 (S := fun w' => True) (tabS_of (by kernel_rfl) tab_dcr8) (by kernel_rfl) (trivial) (fun hTb hHeld => ?_)
        refine tks 0 1 34 hTb hHeld ?_
        refine tks 1 2 35 hTb hHeld ?_
        refine tks 2 3 36 hTb hHeld ?_
        refine tks 3 5 38 hTb hHeld ?_
        refine tks 4 7 40 hTb hHeld ?_
        refine tks 5 8 41 hTb hHeld ?_
        refine tks 6 9 42 hTb hHeld ?_
        refine cls 7 0 hTb (by decide) rfl rfl (fun K hK => ?_)
        go_simp
        have zE : (wC.alloc (.cells #[] 5)).drew.heap.size = wC.heap.size + 1 := by simp
        have HE := hidm (own_empty wC)
        have BE : Below wC.heap.size wC (wC.drew.alloc (.cells #[] 5)) := (Below.refl _ _).drew.alloc (Nat.le_refl _) _
        have hq1 := DC.out.own.bs
        have HT1 := hidm ((bs_cut hq1 0 I (by omega)).below BE)
        have HT2 := hidm ((bs_cut hq1 I (m.length - I) (by omega)).below BE)
        have DE := hidm (DC.out.below BE)
        simp only [Nat.zero_add, Nat.sub_zero, List.drop_zero] at HT1 HT2
        refine hK.out _ _ (trivial) (fun hHeld => ?_)
        clear hK K
        refine cls 8 4 hTb (by decide) rfl rfl (fun K hK => ?_)
        refine ite_of (by kernel_rfl) (wp_appQ 37 rfl (.tmp 33) (.tmp 36) 22 rfl i0 Tryd.underlying22 hi hz0 hz1 hz2 wC.heap.size _ [] rfl HE.out _ _ rfl HT1.out (by simp; omega) ?_)
        intro v1 w1' g1 O1 G1 hg1
        refine hK.out _ _ (trivial) (fun hHeld => ?_)
        clear hK K
        refine cls 9 6 hTb (by decide) rfl rfl (fun K hK => ?_)
        refine ite_of (by kernel_rfl) (wp_appStrQ 39 rfl (.tmp 37) (.tmp 38) 22 9 rfl i0 Tryd.underlying22 und_str9 hi hz0 hz1 hz2 g1 _ _ rfl O1 s rfl hso (by simp; omega) ?_)
        intro v2 w2' g2 O2 G2 hg2
        refine hK.out _ _ (trivial) (fun hHeld => ?_)
        clear hK K
        refine cls 10 10 hTb (by decide) rfl rfl (fun K hK => ?_)
        have HT3 := hidm ((HT2.out.grown G1 (by simp [Value.ownBlock]; omega)).grown G2 (by simp [Value.ownBlock]; omega))
        refine ite_of (by kernel_rfl) (wp_appQ 43 rfl (.tmp 39) (.tmp 42) 22 rfl i0 Tryd.underlying22 hi hz0 hz1 hz2 g2 _ _ rfl O2 _ _ rfl HT3.out (by simp; omega) ?_)
        intro v3 w3' g3 O3 G3 hg3
        refine hK.out _ _ (trivial) (fun hHeld => ?_)
        clear hK K
        refine tks 11 11 4 hTb hHeld ?_
        refine wpS_end hTb ?_
        have hgC := DC.out.cur.lt.2
        have DD : Hid (DS w w3' g v L v3 (((m.take I) ++ s) ++ ((m.drop I).take (m.length - I))) (900 + 7)) := by
          have hwC := DC.out.cur.2.1.size
          have gg1 : wC.heap.size ≤ g1 := by have := BE.size; omega
          have gg2 : wC.heap.size ≤ g2 := by have := BE.size; have := G1.size; omega
          have gg3 : wC.heap.size ≤ g3 := by have := BE.size; have := G1.size; have := G2.size; omega
          have b1 : Below wC.heap.size wC w1' := BE.grown G1 BE.size (fun k hk => by cases hk; exact Nat.le_refl _)
          have b2 : Below wC.heap.size wC w2' := b1.grown G2 b1.size (fun k hk => by cases hk; exact gg1)
          have b3 : Below wC.heap.size wC w3' := b2.grown G3 b2.size (fun k hk => by cases hk; exact gg2)
          exact ⟨DC.out.cur.below b3, .inr ⟨g3, by omega, by simpa using O3⟩, by simp; omega⟩
        generalize ((m.take I) ++ s) ++ ((m.drop I).take (m.length - I)) = m3 at DD
        obtain ⟨da, dc, rfl⟩ := DD.out.own.form
        clear HE BE hq1 HT1 HT2 HT3 DE O1 G1 hg1 O2 G2 hg2 O3 G3 hg3 hTb hHeld DC hcell hlC hqC
        go_wp2_with fail
        refine (l1Once_any w _ g v L 40 DD.out.cur (by omega) (by omega)).mono ?_
        rintro e wy ⟨z, rfl, CZ, GZ⟩
        have DZ := hidm (DD.out.draw CZ GZ)
        clear CZ GZ DD
        cases z
        · go_wp2
          go_ret
          exact ⟨_, _, rfl, DZ.out.out2 (by omega)⟩
        · have hwl : w.heap.size ≤ wy.heap.size := DZ.out.cur.2.1.size
          have hml := DZ.out.len
          go_wp2_with (at_builtin; refine wpList_appendZ rfl (.tmp 46) (.const (.int .i64 120)) 22 3 rfl i0 Tryd.underlying22 und_int hi hz0 hz1 hz2 w.heap.size _ _ rfl DZ.out.own hwl 120 rfl (by omega) (by omega) (by omega) ?_)
          intro vz wz hOz hBz
          obtain ⟨za, zc, rfl⟩ := hOz.form
          have HF := hidm (DZ.out.fin hOz hBz (by omega))
          clear hOz hBz
          go_wp2
          go_ret
          exact ⟨_, _, rfl, HF.out⟩
  · go_wp2_with fail
    refine (l1spoil_any w _ g v _ L m D4.out.cur D4.out.own.bs (by have := D4.out.len; omega)).mono ?_
    rintro e w5 ⟨u5, m5, rfl, hl5, R5, C5, G5⟩
    have D5 := hidm (⟨C5, R5.ownN D4.out.cur.2.1.size, by have := D4.out.len; omega⟩ : DS w w5 g v L u5 m5 901)
    clear hl5 R5 C5 G5 D4
    obtain ⟨b5, c5, rfl⟩ := D5.out.own.form
    go_wp2_with fail
    refine (l1Once_any w _ g v L 4 D5.out.cur (by omega) (by omega)).mono ?_
    rintro e wA ⟨y, rfl, CA, GA⟩
    have DA := hidm (D5.out.draw CA GA)
    clear CA GA D5
    cases y
    · skip
      go_wp2_with fail
      refine (l1Once_any w _ g v L 40 DA.out.cur (by omega) (by omega)).mono ?_
      rintro e wy ⟨z, rfl, CZ, GZ⟩
      have DZ := hidm (DA.out.draw CZ GZ)
      clear CZ GZ DA
      cases z
      · go_wp2
        go_ret
        exact ⟨_, _, rfl, DZ.out.out2 (by omega)⟩
      · have hwl : w.heap.size ≤ wy.heap.size := DZ.out.cur.2.1.size
        have hml := DZ.out.len
        go_wp2_with (at_builtin; refine wpList_appendZ rfl (.tmp 46) (.const (.int .i64 120)) 22 3 rfl i0 Tryd.underlying22 und_int hi hz0 hz1 hz2 w.heap.size _ _ rfl DZ.out.own hwl 120 rfl (by omega) (by omega) (by omega) ?_)
        intro vz wz hOz hBz
        obtain ⟨za, zc, rfl⟩ := hOz.form
        have HF := hidm (DZ.out.fin hOz hBz (by omega))
        clear hOz hBz
        go_wp2
        go_ret
        exact ⟨_, _, rfl, HF.out⟩
    · by_cases h0 : m5.length = 0
      · obtain rfl : m5 = [] := List.eq_nil_of_length_eq_zero h0
        simp only [List.length_nil] at DA
        go_wp2_with fail
        refine (l1Once_any w _ g v L 40 DA.out.cur (by omega) (by omega)).mono ?_
        rintro e wy ⟨z, rfl, CZ, GZ⟩
        have DZ := hidm (DA.out.draw CZ GZ)
        clear CZ GZ DA
        cases z
        · go_wp2
          go_ret
          exact ⟨_, _, rfl, DZ.out.out2 (by omega)⟩
        · have hwl : w.heap.size ≤ wy.heap.size := DZ.out.cur.2.1.size
          have hml := DZ.out.len
          go_wp2_with (at_builtin; refine wpList_appendZ rfl (.tmp 46) (.const (.int .i64 120)) 22 3 rfl i0 Tryd.underlying22 und_int hi hz0 hz1 hz2 w.heap.size _ _ rfl DZ.out.own hwl 120 rfl (by omega) (by omega) (by omega) ?_)
          intro vz wz hOz hBz
          obtain ⟨za, zc, rfl⟩ := hOz.form
          have HF := hidm (DZ.out.fin hOz hBz (by omega))
          clear hOz hBz
          go_wp2
          go_ret
          exact ⟨_, _, rfl, HF.out⟩
      · obtain ⟨q, cap, eS, hcp0, hcp1, hql⟩ := DA.out.some (by omega)
        simp only [Value.slice.injEq] at eS
        obtain ⟨rfl, -, rfl⟩ := eS
        have hmi : (0 : Int) < (m5.length : Int) := by omega
        have hml := DA.out.len
        go_wp2_with fail
        refine (l1Below_any w _ g v L m5.length DA.out.cur (by omega) (by omega)).mono ?_
        rintro e wB ⟨x, rfl, x0, x1, CB, GB⟩
        obtain ⟨I, rfl⟩ := Int.eq_ofNat_of_zero_le x0
        have DB := hidm (DA.out.draw CB GB)
        clear CB GB DA
        have bA : Below wB.heap.size wB (wB.alloc (.cells #[.string ⟨#[32, 83, 73, 78, 67, 69, 32]⟩, .string ⟨#[32, 40, 83, 41, 32]⟩, .string ⟨#[32, 53, 32]⟩, .string ⟨#[34, 120, 34]⟩, .string ⟨#[32, 65, 87, 65, 89]⟩, .string ⟨#[32, 76, 73, 83, 84, 32]⟩, .string ⟨#[32]⟩, .string ⟨#[40]⟩, .string ⟨#[92]⟩] 9)) := (Below.refl _ _).alloc (Nat.le_refl _) _
        have K0 := box_new wB (.cells #[.string ⟨#[32, 83, 73, 78, 67, 69, 32]⟩, .string ⟨#[32, 40, 83, 41, 32]⟩, .string ⟨#[32, 53, 32]⟩, .string ⟨#[34, 120, 34]⟩, .string ⟨#[32, 65, 87, 65, 89]⟩, .string ⟨#[32, 76, 73, 83, 84, 32]⟩, .string ⟨#[32]⟩, .string ⟨#[40]⟩, .string ⟨#[92]⟩] 9)
        have DB1 := hidm (DB.out.below bA)
        have hgB := DB.out.cur.lt.2
        clear bA DB
        go_wp2_with fail
        refine (l1Below_any w _ g v L 9 DB1.out.cur (by omega) (by omega)).mono ?_
        rintro e wC ⟨y, rfl, y0, y1, CC, GC⟩
        obtain ⟨J, rfl⟩ := Int.eq_ofNat_of_zero_le y0
        have DC := hidm (DB1.out.draw CC GC)
        have KC := (GC.block wB.heap.size (lt_of_heap K0) (by simp; omega)).trans K0
        obtain ⟨s, hso, hsl, hcell⟩ := pick_str KC J (by omega)
        have hlC := lt_of_heap KC
        obtain ⟨q', cap', e', -, -, hqC⟩ := DC.out.some (by omega)
        simp only [Value.slice.injEq, Option.some.injEq, Addr.mk.injEq] at e'
        obtain ⟨⟨rfl, -⟩, -, rfl⟩ := e'
        clear CC GC DB1 K0 KC
        have hI1 : I ≤ c5 := by omega
        have hI2 : I ≤ m5.length := by omega
        have hI3 : ¬ (c5 = I) := by omega
        go_wp2
        refine wpS_begin 12 (S := fun w' => True) (tabS_of (by kernel_rfl) tab_dcr8) (by kernel_rfl) (trivial) (fun hTb hHeld => ?_)
        refine tks 0 1 34 hTb hHeld ?_
        refine tks 1 2 35 hTb hHeld ?_
        refine tks 2 3 36 hTb hHeld ?_
        refine tks 3 5 38 hTb hHeld ?_
        refine tks 4 7 40 hTb hHeld ?_
        refine tks 5 8 41 hTb hHeld ?_
        refine tks 6 9 42 hTb hHeld ?_
        refine cls 7 0 hTb (by decide) rfl rfl (fun K hK => ?_)
        go_simp
        have zE : (wC.alloc (.cells #[] 5)).drew.heap.size = wC.heap.size + 1 := by simp
        have HE := hidm (own_empty wC)
        have BE : Below wC.heap.size wC (wC.drew.alloc (.cells #[] 5)) := (Below.refl _ _).drew.alloc (Nat.le_refl _) _
        have hq1 := DC.out.own.bs
        have HT1 := hidm ((bs_cut hq1 0 I (by omega)).below BE)
        have HT2 := hidm ((bs_cut hq1 I (m5.length - I) (by omega)).below BE)
        have DE := hidm (DC.out.below BE)
        simp only [Nat.zero_add, Nat.sub_zero, List.drop_zero] at HT1 HT2
        refine hK.out _ _ (trivial) (fun hHeld => ?_)
        clear hK K
        refine cls 8 4 hTb (by decide) rfl rfl (fun K hK => ?_)
        refine ite_of (by kernel_rfl) (wp_appQ 37 rfl (.tmp 33) (.tmp 36) 22 rfl i0 Tryd.underlying22 hi hz0 hz1 hz2 wC.heap.size _ [] rfl HE.out _ _ rfl HT1.out (by simp; omega) ?_)
        intro v1 w1' g1 O1 G1 hg1
        refine hK.out _ _ (trivial) (fun hHeld => ?_)
        clear hK K
        refine cls 9 6 hTb (by decide) rfl rfl (fun K hK => ?_)
        refine ite_of (by kernel_rfl) (wp_appStrQ 39 rfl (.tmp 37) (.tmp 38) 22 9 rfl i0 Tryd.underlying22 und_str9 hi hz0 hz1 hz2 g1 _ _ rfl O1 s rfl hso (by simp; omega) ?_)
        intro v2 w2' g2 O2 G2 hg2
        refine hK.out _ _ (trivial) (fun hHeld => ?_)
        clear hK K
        refine cls 10 10 hTb (by decide) rfl rfl (fun K hK => ?_)
        have HT3 := hidm ((HT2.out.grown G1 (by simp [Value.ownBlock]; omega)).grown G2 (by simp [Value.ownBlock]; omega))
        refine ite_of (by kernel_rfl) (wp_appQ 43 rfl (.tmp 39) (.tmp 42) 22 rfl i0 Tryd.underlying22 hi hz0 hz1 hz2 g2 _ _ rfl O2 _ _ rfl HT3.out (by simp; omega) ?_)
        intro v3 w3' g3 O3 G3 hg3
        refine hK.out _ _ (trivial) (fun hHeld => ?_)
        clear hK K
        refine tks 11 11 4 hTb hHeld ?_
        refine wpS_end hTb ?_
        have hgC := DC.out.cur.lt.2
        have DD : Hid (DS w w3' g v L v3 (((m5.take I) ++ s) ++ ((m5.drop I).take (m5.length - I))) (901 + 7)) := by
          have hwC := DC.out.cur.2.1.size
          have gg1 : wC.heap.size ≤ g1 := by have := BE.size; omega
          have gg2 : wC.heap.size ≤ g2 := by have := BE.size; have := G1.size; omega
          have gg3 : wC.heap.size ≤ g3 := by have := BE.size; have := G1.size; have := G2.size; omega
          have b1 : Below wC.heap.size wC w1' := BE.grown G1 BE.size (fun k hk => by cases hk; exact Nat.le_refl _)
          have b2 : Below wC.heap.size wC w2' := b1.grown G2 b1.size (fun k hk => by cases hk; exact gg1)
          have b3 : Below wC.heap.size wC w3' := b2.grown G3 b2.size (fun k hk => by cases hk; exact gg2)
          exact ⟨DC.out.cur.below b3, .inr ⟨g3, by omega, by simpa using O3⟩, by simp; omega⟩
        generalize ((m5.take I) ++ s) ++ ((m5.drop I).take (m5.length - I)) = m3 at DD
        obtain ⟨da, dc, rfl⟩ := DD.out.own.form
        clear HE BE hq1 HT1 HT2 HT3 DE O1 G1 hg1 O2 G2 hg2 O3 G3 hg3 hTb hHeld DC hcell hlC hqC
        go_wp2_with fail
        refine (l1Once_any w _ g v L 40 DD.out.cur (by omega) (by omega)).mono ?_
        rintro e wy ⟨z, rfl, CZ, GZ⟩
        have DZ := hidm (DD.out.draw CZ GZ)
        clear CZ GZ DD
        cases z
        · go_wp2
          go_ret
          exact ⟨_, _, rfl, DZ.out.out2 (by omega)⟩
        · have hwl : w.heap.size ≤ wy.heap.size := DZ.out.cur.2.1.size
          have hml := DZ.out.len
          go_wp2_with (at_builtin; refine wpList_appendZ rfl (.tmp 46) (.const (.int .i64 120)) 22 3 rfl i0 Tryd.underlying22 und_int hi hz0 hz1 hz2 w.heap.size _ _ rfl DZ.out.own hwl 120 rfl (by omega) (by omega) (by omega) ?_)
          intro vz wz hOz hBz
          obtain ⟨za, zc, rfl⟩ := hOz.form
          have HF := hidm (DZ.out.fin hOz hBz (by omega))
          clear hOz hBz
          go_wp2
          go_ret
          exact ⟨_, _, rfl, HF.out⟩

end Go.Proofs.YtlegmiaoablcgaaDoor

/- The parser's steps, one behind the other, are the reading on lists. -/
namespace Go.Proofs.YtlegmiaoablcgaaDoor
open Go.RowKit

def bump (st : PS) : PS := ⟨st.i + 1, st.bad, st.p⟩
def modeS (ts : List TokD) (st : PS) : Option Int := if seesS (modeW 2) ts st then some 2 else if seesS (modeW 1) ts st then some 1 else if seesS (modeW 0) ts st then some 0 else none
def restS (e : Int) (ts : List TokD) (c : CmdD) (st : PS) : CmdD × PS :=
  if c.k = 2 then
    ({ c with fl := (takeS e 4 0 ts st).1.n, tx := (takeS e 5 0 ts (takeS e 4 0 ts st).2).1.tx }, (takeS e 5 0 ts (takeS e 4 0 ts st).2).2)
  else if c.k = 3 then
    match modeS ts (takeS e 3 1 ts st).2 with
    | none => ({ c with uid := (takeS e 3 1 ts st).1.n, mode := -1 }, failS e ts (takeS e 3 1 ts st).2)
    | some m =>
      if seesS sinceW ts (takeS e 4 0 ts (bump (takeS e 3 1 ts st).2)).2 then
        ({ c with uid := (takeS e 3 1 ts st).1.n, mode := m, fl := (takeS e 4 0 ts (bump (takeS e 3 1 ts st).2)).1.n, si := (takeS e 3 1 ts (bump (takeS e 4 0 ts (bump (takeS e 3 1 ts st).2)).2)).1.n }, (takeS e 3 1 ts (bump (takeS e 4 0 ts (bump (takeS e 3 1 ts st).2)).2)).2)
      else ({ c with uid := (takeS e 3 1 ts st).1.n, mode := m, fl := (takeS e 4 0 ts (bump (takeS e 3 1 ts st).2)).1.n }, (takeS e 4 0 ts (bump (takeS e 3 1 ts st).2)).2)
  else if c.k = 5 then ({ c with uid := (takeS e 3 1 ts st).1.n }, (takeS e 3 1 ts st).2)
  else if c.k = 6 then
    if seesS awayW ts (takeS e 2 0 ts (takeS e 3 1 ts st).2).2 then ({ c with uid := (takeS e 3 1 ts st).1.n, tt := (takeS e 2 0 ts (takeS e 3 1 ts st).2).1.tx, mode := 1 }, bump (takeS e 2 0 ts (takeS e 3 1 ts st).2).2)
    else ({ c with uid := (takeS e 3 1 ts st).1.n, tt := (takeS e 2 0 ts (takeS e 3 1 ts st).2).1.tx }, (takeS e 2 0 ts (takeS e 3 1 ts st).2).2)
  else if c.k = 8 then ({ c with si := (takeS e 3 0 ts st).1.n }, (takeS e 3 0 ts st).2)
  else (c, st)

theorem take_ok {e k least : Int} {ts : List TokD} {i : Nat} {p : Int} {r : TokD × List TokD} (h : takeM e k least (ts.drop i) = .ok r) : takeS e k least ts ⟨i, false, p⟩ = (r.1, ⟨i + 1, false, p⟩) ∧ ts.drop (i + 1) = r.2 := by
  refine ⟨by simp [takeS, h], ?_⟩
  rw [← List.drop_drop]
  cases hd : ts.drop i with
  | nil => rw [hd] at h; simp [takeM] at h
  | cons t q =>
    rw [hd] at h
    simp only [takeM] at h
    split at h
    · cases h; simp
    · cases h
theorem take_err {e k least : Int} {ts : List TokD} {i : Nat} {p q : Int} (h : takeM e k least (ts.drop i) = .error q) : takeS e k least ts ⟨i, false, p⟩ = (zeroT, ⟨i, true, q⟩) := by simp [takeS, h]
theorem take_bad (e k least : Int) (ts : List TokD) (i : Nat) (p : Int) : takeS e k least ts ⟨i, true, p⟩ = (zeroT, ⟨i, true, p⟩) := by simp [takeS]
theorem sees_bad (x : List Int) (ts : List TokD) (i : Nat) (p : Int) : seesS x ts ⟨i, true, p⟩ = false := by simp [seesS]
theorem sees_good (x : List Int) (ts : List TokD) (i : Nat) (p : Int) : seesS x ts ⟨i, false, p⟩ = seesM x (ts.drop i) := by simp [seesS]
theorem mode_bad (ts : List TokD) (i : Nat) (p : Int) : modeS ts ⟨i, true, p⟩ = none := by simp [modeS, seesS]
theorem mode_good (ts : List TokD) (i : Nat) (p : Int) : modeS ts ⟨i, false, p⟩ = modeM (ts.drop i) := by simp [modeS, modeM, seesS]
theorem fail_bad (e : Int) (ts : List TokD) (i : Nat) (p : Int) : failS e ts ⟨i, true, p⟩ = ⟨i, true, p⟩ := by simp [failS]
theorem fail_good (e : Int) (ts : List TokD) (i : Nat) (p : Int) : failS e ts ⟨i, false, p⟩ = ⟨i, true, failM e (ts.drop i)⟩ := by simp [failS]
theorem drop1 (ts : List TokD) (i : Nat) : (ts.drop i).drop 1 = ts.drop (i + 1) := by rw [List.drop_drop]

/-- What the steps come to: the list's reading, or the place at which it fails. -/
def Sim (ts : List TokD) (res : Except Int (CmdD × List TokD)) (x : CmdD × PS) : Prop := match res with
  | .ok r => x.1 = r.1 ∧ x.2.bad = false ∧ ts.drop x.2.i = r.2
  | .error p => x.2.bad = true ∧ x.2.p = p
theorem rest_sim (e : Int) (ts : List TokD) (c : CmdD) (i : Nat) (p : Int) : Sim ts (restM e c (ts.drop i)) (restS e ts c ⟨i, false, p⟩) := by
  unfold restM restS
  split
  · cases h : takeM e 4 0 (ts.drop i) with
    | error q => simp [take_err h, take_bad, Sim, bind, Except.bind]
    | ok a =>
      obtain ⟨h1, h2⟩ := take_ok (p := p) h
      rw [h1]
      simp only [bind, Except.bind, ← h2]
      cases h' : takeM e 5 0 (ts.drop (i + 1)) with
      | error q => simp [take_err h', Sim]
      | ok b =>
        obtain ⟨h3, h4⟩ := take_ok (p := p) h'
        simp [h3, Sim, h4]
  · split
    · cases h : takeM e 3 1 (ts.drop i) with
      | error q => simp [take_err h, mode_bad, fail_bad, Sim, bind, Except.bind]
      | ok a =>
        obtain ⟨h1, h2⟩ := take_ok (p := p) h
        rw [h1]
        simp only [bind, Except.bind, ← h2, mode_good]
        cases hm : modeM (ts.drop (i + 1)) with
        | none => simp [fail_good, Sim]
        | some m =>
          simp only [bump, drop1]
          cases h' : takeM e 4 0 (ts.drop (i + 1 + 1)) with
          | error q => simp [take_err h', sees_bad, Sim]
          | ok b =>
            obtain ⟨h3, h4⟩ := take_ok (p := p) h'
            simp only [h3, ← h4, sees_good]
            split
            · rename_i hs
              simp only [drop1]
              cases h'' : takeM e 3 1 (ts.drop (i + 1 + 1 + 1 + 1)) with
              | error q => simp [take_err h'', Sim]
              | ok d =>
                obtain ⟨h5, h6⟩ := take_ok (p := p) h''
                simp [h5, Sim, h6]
            · simp [Sim]
    · split
      · cases h : takeM e 3 1 (ts.drop i) with
        | error q => simp [take_err h, Sim, bind, Except.bind]
        | ok a =>
          obtain ⟨h1, h2⟩ := take_ok (p := p) h
          simp [h1, bind, Except.bind, Sim, h2]
      · split
        · cases h : takeM e 3 1 (ts.drop i) with
          | error q => simp [take_err h, take_bad, sees_bad, Sim, bind, Except.bind]
          | ok a =>
            obtain ⟨h1, h2⟩ := take_ok (p := p) h
            rw [h1]
            simp only [bind, Except.bind, ← h2]
            cases h' : takeM e 2 0 (ts.drop (i + 1)) with
            | error q => simp [take_err h', sees_bad, Sim]
            | ok b =>
              obtain ⟨h3, h4⟩ := take_ok (p := p) h'
              simp only [h3, ← h4, sees_good, bump]
              split <;> simp [Sim]
        · split
          · cases h : takeM e 3 0 (ts.drop i) with
            | error q => simp [take_err h, Sim, bind, Except.bind]
            | ok a =>
              obtain ⟨h1, h2⟩ := take_ok (p := p) h
              simp [h1, bind, Except.bind, Sim, h2]
          · simp [Sim]
theorem rest_bad (e : Int) (ts : List TokD) (c : CmdD) (i : Nat) (p : Int) : (restS e ts c ⟨i, true, p⟩).2.bad = true ∧ (restS e ts c ⟨i, true, p⟩).2.p = p := by
  unfold restS
  split
  · simp [take_bad]
  · split
    · simp [take_bad, mode_bad, fail_bad]
    · split
      · simp [take_bad]
      · split
        · simp [take_bad, sees_bad]
        · split
          · simp [take_bad]
          · simp

end Go.Proofs.YtlegmiaoablcgaaDoor

/- The parser's steps, up to the line's end, are the reading on lists; what a command that was read may be. -/
namespace Go.Proofs.YtlegmiaoablcgaaDoor
open Go.RowKit
set_option linter.unusedSimpArgs false

def kOf (ts : List TokD) (st : PS) : Nat → Int
  | 0 => -1
  | k + 1 => if seesS (kindW k) ts st then k else kOf ts st k
theorem kindW_inj : ∀ a b : Fin 10, kindW (a : Nat) = kindW (b : Nat) → a = b := by decide
theorem kOf_kind (ts : List TokD) (i : Nat) (p : Int) : kOf ts ⟨i, false, p⟩ 10 = match kindM (ts.drop i) with | none => -1 | some k => (k : Int) := by
  cases hk : kindM (ts.drop i) with
  | none =>
    have hno : ∀ k : Nat, k < 10 → seesS (kindW k) ts ⟨i, false, p⟩ = false := fun k hk10 => by
      rw [sees_good]
      have := List.find?_eq_none.1 hk k (by simpa using hk10)
      simpa using this
    have : ∀ n : Nat, n ≤ 10 → kOf ts ⟨i, false, p⟩ n = -1 := by
      intro n
      induction n with
      | zero => intro _; rfl
      | succ n ih => intro hn; simp only [kOf]; rw [if_neg (by rw [hno n (by omega)]; simp)]; exact ih (by omega)
    exact this 10 (Nat.le_refl _)
  | some k =>
    have hlt := kindM_lt hk
    have hs : seesM (kindW k) (ts.drop i) = true := by
      unfold kindM at hk
      simpa using List.find?_some hk
    have hot : ∀ j : Nat, j < 10 → j ≠ k → seesS (kindW j) ts ⟨i, false, p⟩ = false := fun j hj hne => by
      rw [sees_good]
      cases hd : ts.drop i with
      | nil => rfl
      | cons t r =>
        rw [hd] at hs
        simp only [seesM, decide_eq_true_eq] at hs
        simp only [seesM, decide_eq_false_iff_not]
        rintro ⟨-, h2⟩
        have := kindW_inj ⟨j, hj⟩ ⟨k, hlt⟩ (h2.symm.trans hs.2)
        exact hne (by simpa using this)
    have : ∀ n : Nat, n ≤ 10 → kOf ts ⟨i, false, p⟩ n = if k < n then (k : Int) else -1 := by
      intro n
      induction n with
      | zero => intro _; rfl
      | succ n ih =>
        intro hn
        simp only [kOf]
        by_cases he : n = k
        · subst he
          rw [if_pos (by rw [sees_good]; exact hs), if_pos (by omega)]
        · rw [if_neg (by rw [hot n (by omega) he]; simp), ih (by omega)]
          by_cases h : k < n
          · rw [if_pos h, if_pos (by omega)]
          · rw [if_neg h, if_neg (by omega)]
    rw [this 10 (Nat.le_refl _), if_pos hlt]
/-- What is left of a line must be nothing. -/
def lastS (e : Int) (ts : List TokD) (st : PS) : PS := if !st.bad && decide (st.i < ts.length) then failS e ts st else st
def finS (e : Int) (ts : List TokD) (R : CmdD × PS) : Except Int CmdD := if (lastS e ts R.2).bad then .error (lastS e ts R.2).p else .ok R.1
theorem fin_sim {e : Int} {ts : List TokD} {res : Except Int (CmdD × List TokD)} {R : CmdD × PS} (h : Sim ts res R) : finS e ts R = endM res := by
  obtain ⟨c, i, bad, p⟩ := R
  cases res with
  | error q =>
    obtain ⟨h1, h2⟩ := h
    simp only at h1 h2
    subst h1 h2
    simp [finS, lastS, endM, Except.bind]
  | ok r =>
    obtain ⟨h1, h2, h3⟩ := h
    simp only at h1 h2 h3
    subst h1 h2
    by_cases hl : i < ts.length
    · cases hr : r.2 with
      | nil => rw [hr] at h3; exact absurd (List.drop_eq_nil_iff.1 h3) (by omega)
      | cons t q =>
        rw [hr] at h3
        simp [finS, lastS, hl, failS, h3, failM, endM, Except.bind, hr]
    · have : r.2 = [] := by rw [← h3]; exact List.drop_eq_nil_iff.2 (by omega)
      simp [finS, lastS, hl, endM, Except.bind, this]
theorem fin_bad {e : Int} {ts : List TokD} {R : CmdD × PS} {q : Int} (h : R.2.bad = true ∧ R.2.p = q) : finS e ts R = .error q := by
  simp [finS, lastS, h.1, h.2]
/-- The steps behind the kind. -/
def stepS (e : Int) (ts : List TokD) (k : Int) (st : PS) : CmdD × PS := if k = 9 then restS e ts ⟨9, [], [], 0, 0, 0, 0, []⟩ st else restS e ts ⟨k, (takeS e 2 0 ts st).1.tx, [], 0, 0, 0, 0, []⟩ (takeS e 2 0 ts st).2
theorem spec_same {e : Int} {ts : List TokD} {k : Nat} (hk : kindM ts = some k) : cmdM e ts = finS e ts (stepS e ts k ⟨1, false, 0⟩) := by
  unfold cmdM
  rw [hk]
  have hd : ts.drop 1 = ts.drop (1 : Nat) := rfl
  unfold stepS
  by_cases h9 : k = 9
  · subst h9
    have h := fin_sim (e := e) (rest_sim e ts ⟨9, [], [], 0, 0, 0, 0, []⟩ 1 0)
    rw [show ((9 : Nat) : Int) = 9 from rfl, if_pos rfl, h]
    simp only [if_true, Except.bind, bind, endM]
    rfl
  · have h9' : ¬ ((k : Int) = 9) := by omega
    rw [if_neg h9']
    simp only [if_neg h9, Except.bind, bind]
    cases ht : takeM e 2 0 (ts.drop 1) with
    | error q =>
      rw [take_err (p := 0) ht]
      simp only
      rw [fin_bad (rest_bad e ts _ 1 q)]
    | ok b =>
      obtain ⟨h1, h2⟩ := take_ok (p := 0) ht
      rw [h1]
      simp only
      have h := fin_sim (e := e) (rest_sim e ts ⟨k, b.1.tx, [], 0, 0, 0, 0, []⟩ 2 0)
      rw [show (1 : Nat) + 1 = 2 from rfl] at h1 h2 ⊢
      rw [h, ← h2]
      rfl

end Go.Proofs.YtlegmiaoablcgaaDoor

/- Blanks ahead of a line and behind it change nothing but places, on lists. -/
namespace Go.Proofs.YtlegmiaoablcgaaDoor
open Go.RowKit
set_option linter.unusedSimpArgs false

def shT (n : Int) (t : TokD) : TokD := { t with p := t.p + n }
def shL (n : Int) (ts : List TokD) : List TokD := ts.map (shT n)
def shE {α : Type} (n : Int) (f : α → α) : Except Int α → Except Int α
  | .ok a => .ok (f a)
  | .error p => .error (p + n)
theorem one_sh (n i : Int) (s : List Int) : oneM (i + n) s = (oneM i s).map fun p => (shT n p.1, p.2) := by
  cases s with
  | nil => rfl
  | cons x r =>
    simp only [oneM]
    split
    · cases (flagsM lettersM 1 0 r).2 with
      | nil => rfl
      | cons y q => simp only; split <;> rfl
    · split
      · cases textM r with
        | none => rfl
        | some p => simp only; split <;> rfl
      · cases numM ((x :: r).takeWhile ldB) with
        | some m => rfl
        | none =>
          simp only
          split
          · rfl
          · split <;> rfl
theorem lex_sh (n : Int) : ∀ (f : Nat) (i : Int) (s : List Int), lexM f (i + n) s = shE n (shL n) (lexM f i s)
  | 0, i, s => rfl
  | f + 1, i, [] => rfl
  | f + 1, i, x :: r => by
    simp only [lexM]
    split
    · rw [show i + n + 1 = i + 1 + n by omega, lex_sh n f (i + 1) r]
    · rw [one_sh]
      cases oneM i (x :: r) with
      | none => rfl
      | some p =>
        simp only [Option.map_some]
        rw [show i + n + (((x :: r).length : Int) - (p.2.length : Int)) = i + (((x :: r).length : Int) - (p.2.length : Int)) + n by omega, lex_sh n f _ p.2]
        cases lexM f (i + (((x :: r).length : Int) - (p.2.length : Int))) p.2 <;> rfl
/-- More than enough rounds change nothing. -/
theorem lex_fuel : ∀ (f : Nat) (i : Int) (s : List Int), s.length < f → ∀ g, s.length < g → lexM f i s = lexM g i s
  | 0, i, s, h, _, _ => by omega
  | f + 1, i, [], _, g, hg => by cases g with | zero => omega | succ g => rfl
  | f + 1, i, x :: r, h, g, hg => by
    cases g with
    | zero => omega
    | succ g =>
      simp only [List.length_cons] at h hg
      simp only [lexM]
      split
      · exact lex_fuel f _ r (by omega) g (by omega)
      · cases ho : oneM i (x :: r) with
        | none => rfl
        | some p =>
          have hl := oneM_less ho
          simp only [List.length_cons] at hl
          simp only
          rw [lex_fuel f _ p.2 (by omega) g (by omega)]
theorem lex_ahead : ∀ (n : Nat) (f : Nat) (i : Int) (s : List Int), lexM (f + n) i (List.replicate n 32 ++ s) = lexM f (i + n) s
  | 0, f, i, s => by simp
  | n + 1, f, i, s => by
    rw [List.replicate_succ, List.cons_append, ← Nat.add_assoc, lexM, if_pos rfl, lex_ahead n f (i + 1) s]
    congr 1
    omega
theorem lex_blanks : ∀ (n f : Nat) (i : Int), lexM f i (List.replicate n 32) = .ok []
  | _, 0, _ => rfl
  | 0, f + 1, _ => rfl
  | n + 1, f + 1, i => by rw [List.replicate_succ, lexM, if_pos rfl, lex_blanks n f]
theorem flags_b (b : List Int) (hb : ∀ x ∈ lettersM, ∀ y, b.head? = some y → y ≠ x) : ∀ (ls : List Int) (v n : Int) (r : List Int), (∀ x ∈ ls, x ∈ lettersM) → flagsM ls v n (r ++ b) = ((flagsM ls v n r).1, (flagsM ls v n r).2 ++ b)
  | [], v, n, r, _ => rfl
  | x :: ls, v, n, [], hls => by
    have ih := fun v => flags_b b hb ls v n [] (fun y hy => hls y (by simp [hy]))
    cases b with
    | nil => simp only [List.nil_append, flagsM, List.append_nil]
    | cons y q =>
      simp only [List.nil_append] at ih ⊢
      rw [flagsM, if_neg (hb x (hls x (by simp)) y rfl), flagsM]
      exact ih (v * 2)
  | x :: ls, v, n, y :: q, hls => by
    simp only [List.cons_append, flagsM]
    split
    · exact flags_b b hb ls _ _ q (fun z hz => hls z (by simp [hz]))
    · exact flags_b b hb ls _ _ (y :: q) (fun z hz => hls z (by simp [hz]))
theorem text_b (b : List Int) : ∀ (m : Nat) (r : List Int), r.length ≤ m → ∀ p, textM r = some p → textM (r ++ b) = some (p.1, p.2 ++ b)
  | _, [], _, p, h => by simp [textM] at h
  | 0, _ :: _, hm, _, _ => by simp at hm
  | m + 1, x :: r, hm, p, h => by
    rw [textM_cons] at h
    rw [List.cons_append, textM_cons]
    split at h
    · rename_i h1
      cases h
      rw [if_pos h1]
    · rename_i h1
      rw [if_neg h1]
      split at h
      · rename_i h2
        rw [if_pos h2]
        cases r with
        | nil => simp at h
        | cons y q =>
          simp only [List.cons_append] at h ⊢
          split at h
          · rename_i h3
            rw [if_pos h3]
            cases hq : textM q with
            | none => rw [hq] at h; cases h
            | some p' =>
              rw [hq] at h
              cases h
              rw [text_b b m q (by simp at hm; omega) p' hq]
              rfl
          · cases h
      · rename_i h2
        rw [if_neg h2]
        cases hq : textM r with
        | none => rw [hq] at h; cases h
        | some p' =>
          rw [hq] at h
          cases h
          rw [text_b b m r (by simpa using hm) p' hq]
          rfl
theorem tw_b {p : Int → Bool} {b : List Int} (hb : ∀ y, b.head? = some y → p y = false) : ∀ s : List Int, (s ++ b).takeWhile p = s.takeWhile p ∧ (s ++ b).dropWhile p = s.dropWhile p ++ b
  | [] => by
    cases b with
    | nil => simp
    | cons y q => simp [hb y rfl]
  | x :: s => by
    by_cases h : p x = true
    · simp [h, (tw_b hb s).1, (tw_b hb s).2]
    · simp [h]
theorem one_b {b : List Int} (hb : ∀ y, b.head? = some y → y = 32) {i : Int} {s : List Int} {p : TokD × List Int} (h : oneM i s = some p) : oneM i (s ++ b) = some (p.1, p.2 ++ b) := by
  cases s with
  | nil => simp [oneM] at h
  | cons x r =>
    have hfl := flags_b b (fun x hx y hy => by rw [hb y hy]; simp [lettersM] at hx; omega) lettersM 1 0 r (fun _ h => h)
    have htw := tw_b (p := ldB) (b := b) (fun y hy => by rw [hb y hy]; rfl) (x :: r)
    simp only [oneM] at h
    simp only [List.cons_append, oneM]
    simp only [List.cons_append] at htw
    rw [htw.1, htw.2, hfl]
    split at h
    · rename_i h1
      rw [if_pos h1]
      cases hf : (flagsM lettersM 1 0 r).2 with
      | nil => rw [hf] at h; cases h
      | cons y q =>
        rw [hf] at h
        simp only [List.cons_append] at h ⊢
        split at h
        · rename_i h2
          cases h
          rw [if_pos h2]
        · cases h
    · rename_i h1
      rw [if_neg h1]
      split at h
      · rename_i h2
        rw [if_pos h2]
        cases ht : textM r with
        | none => rw [ht] at h; cases h
        | some q =>
          rw [ht] at h
          rw [text_b b r.length r (Nat.le_refl _) q ht]
          simp only at h ⊢
          split at h
          · rename_i h3
            cases h
            rw [if_pos h3]
          · cases h
      · rename_i h2
        rw [if_neg h2]
        cases hn : numM ((x :: r).takeWhile ldB) with
        | some m => rw [hn] at h; cases h; rfl
        | none =>
          rw [hn] at h
          simp only at h ⊢
          split at h
          · rename_i h3; cases h; rw [if_pos h3]
          · rename_i h3
            rw [if_neg h3]
            split at h
            · rename_i h4; cases h; rw [if_pos h4]
            · cases h
theorem lex_behind (n : Nat) : ∀ (f : Nat) (i : Int) (s : List Int) (ts : List TokD), (s ++ List.replicate n 32).length < f → lexM f i s = .ok ts → lexM f i (s ++ List.replicate n 32) = .ok ts
  | 0, i, s, ts, hl, _ => by omega
  | f + 1, i, [], ts, hl, h => by
    simp only [lexM] at h
    cases h
    rw [List.nil_append, lex_blanks]
  | f + 1, i, x :: r, ts, hl, h => by
    have hb : ∀ y, (List.replicate n (32 : Int)).head? = some y → y = 32 := fun y hy => by
      cases n with
      | zero => simp at hy
      | succ n => simp [List.replicate_succ] at hy; exact hy.symm
    simp only [List.cons_append, List.length_cons] at hl
    simp only [lexM] at h
    rw [List.cons_append, lexM]
    split at h
    · rename_i h1
      rw [if_pos h1]
      exact lex_behind n f _ r ts (by omega) h
    · rename_i h1
      rw [if_neg h1]
      cases ho : oneM i (x :: r) with
      | none => rw [ho] at h; cases h
      | some p =>
        rw [ho] at h
        have ho2 := one_b hb ho
        rw [List.cons_append] at ho2
        rw [ho2]
        have hless := oneM_less ho
        simp only at h ⊢
        rw [show i + (((x :: (r ++ List.replicate n (32 : Int))).length : Int) - ((p.2 ++ List.replicate n (32 : Int)).length : Int)) = i + (((x :: r).length : Int) - (p.2.length : Int)) by simp only [List.length_cons, List.length_append]; omega]
        cases hx : lexM f (i + (((x :: r).length : Int) - (p.2.length : Int))) p.2 with
        | error e => rw [hx] at h; cases h
        | ok us =>
          rw [hx] at h
          cases h
          rw [lex_behind n f _ p.2 us (by simp only [List.length_append, List.length_cons] at hl hless ⊢; omega) hx]
theorem take_sh (n e k least : Int) (ts : List TokD) : takeM (e + n) k least (shL n ts) = shE n (fun p => (shT n p.1, shL n p.2)) (takeM e k least ts) := by
  cases ts with
  | nil => rfl
  | cons t r =>
    simp only [shL, List.map_cons, takeM, shT]
    split <;> rfl
theorem sees_sh (n : Int) (x : List Int) (ts : List TokD) : seesM x (shL n ts) = seesM x ts := by cases ts <;> rfl
theorem drop_sh (n : Int) (k : Nat) (ts : List TokD) : (shL n ts).drop k = shL n (ts.drop k) := by simp [shL, List.map_drop]
theorem fail_sh (n e : Int) (ts : List TokD) : failM (e + n) (shL n ts) = failM e ts + n := by cases ts <;> rfl
theorem mode_sh (n : Int) (ts : List TokD) : modeM (shL n ts) = modeM ts := by simp [modeM, sees_sh]
theorem kind_sh (n : Int) (ts : List TokD) : kindM (shL n ts) = kindM ts := by simp [kindM, sees_sh]
theorem rest_sh (n e : Int) (c : CmdD) (ts : List TokD) : restM (e + n) c (shL n ts) = shE n (fun p => (p.1, shL n p.2)) (restM e c ts) := by
  unfold restM
  split
  · rw [take_sh]
    cases takeM e 4 0 ts with
    | error p => rfl
    | ok a =>
      simp only [shE, bind, Except.bind]
      rw [take_sh]
      cases takeM e 5 0 a.2 <;> rfl
  · split
    · rw [take_sh]
      cases takeM e 3 1 ts with
      | error p => rfl
      | ok a =>
        simp only [shE, bind, Except.bind]
        rw [mode_sh]
        cases modeM a.2 with
        | none => simp only [fail_sh]
        | some m =>
          simp only
          rw [drop_sh, take_sh]
          cases takeM e 4 0 (a.2.drop 1) with
          | error p => rfl
          | ok b =>
            simp only [shE]
            rw [sees_sh]
            split
            · rw [drop_sh, take_sh]
              cases takeM e 3 1 (b.2.drop 1) <;> rfl
            · rfl
    · split
      · rw [take_sh]
        cases takeM e 3 1 ts <;> rfl
      · split
        · rw [take_sh]
          cases takeM e 3 1 ts with
          | error p => rfl
          | ok a =>
            simp only [shE, bind, Except.bind]
            rw [take_sh]
            cases takeM e 2 0 a.2 with
            | error p => rfl
            | ok b =>
              simp only [shE]
              rw [sees_sh]
              split
              · rw [drop_sh]; rfl
              · rfl
        · split
          · rw [take_sh]
            cases takeM e 3 0 ts <;> rfl
          · rfl
theorem cmd_sh (n e : Int) (ts : List TokD) : cmdM (e + n) (shL n ts) = shE n id (cmdM e ts) := by
  unfold cmdM
  rw [kind_sh]
  cases kindM ts with
  | none => simp only [fail_sh]; rfl
  | some k =>
    simp only [bind, Except.bind]
    have key : ∀ (bx : List Int) (us : List TokD), ((restM (e + n) ⟨k, bx, [], 0, 0, 0, 0, []⟩ (shL n us)).bind fun r => match r.2 with | [] => .ok r.1 | t :: _ => .error t.p) = shE n id ((restM e ⟨k, bx, [], 0, 0, 0, 0, []⟩ us).bind fun r => match r.2 with | [] => .ok r.1 | t :: _ => .error t.p) := by
      intro bx us
      rw [rest_sh]
      cases restM e ⟨k, bx, [], 0, 0, 0, 0, []⟩ us with
      | error p => rfl
      | ok r =>
        obtain ⟨c, ts'⟩ := r
        cases ts' <;> rfl
    by_cases h9 : k = 9
    · rw [if_pos h9, if_pos h9, drop_sh]
      exact key [] _
    · rw [if_neg h9, if_neg h9, drop_sh, take_sh]
      cases takeM e 2 0 (ts.drop 1) with
      | error p => rfl
      | ok b => exact key b.1.tx b.2
/-- Where the line ends matters at what fails alone. -/
theorem take_e {e e' k least : Int} {ts : List TokD} {p : TokD × List TokD} (h : takeM e k least ts = .ok p) : takeM e' k least ts = .ok p := by
  cases ts with
  | nil => cases h
  | cons t r => exact h
theorem rest_e {e e' : Int} {c : CmdD} {ts : List TokD} {r : CmdD × List TokD} (h : restM e c ts = .ok r) : restM e' c ts = .ok r := by
  unfold restM at h ⊢
  split at h
  · rename_i h1
    rw [if_pos h1]
    cases ha : takeM e 4 0 ts with
    | error p => rw [ha] at h; cases h
    | ok a =>
      rw [ha] at h
      rw [take_e ha]
      simp only [bind, Except.bind] at h ⊢
      cases hb : takeM e 5 0 a.2 with
      | error p => rw [hb] at h; cases h
      | ok b => rw [hb] at h; rw [take_e hb]; exact h
  · rename_i h1
    rw [if_neg h1]
    split at h
    · rename_i h2
      rw [if_pos h2]
      cases ha : takeM e 3 1 ts with
      | error p => rw [ha] at h; cases h
      | ok a =>
        rw [ha] at h
        rw [take_e ha]
        simp only [bind, Except.bind] at h ⊢
        cases hm : modeM a.2 with
        | none => rw [hm] at h; cases h
        | some m =>
          rw [hm] at h
          simp only at h ⊢
          cases hb : takeM e 4 0 (a.2.drop 1) with
          | error p => rw [hb] at h; cases h
          | ok b =>
            rw [hb] at h
            rw [take_e hb]
            simp only at h ⊢
            split at h
            · rename_i h3
              rw [if_pos h3]
              cases hd : takeM e 3 1 (b.2.drop 1) with
              | error p => rw [hd] at h; cases h
              | ok d => rw [hd] at h; rw [take_e hd]; exact h
            · rename_i h3
              rw [if_neg h3]
              exact h
    · rename_i h2
      rw [if_neg h2]
      split at h
      · rename_i h3
        rw [if_pos h3]
        cases ha : takeM e 3 1 ts with
        | error p => rw [ha] at h; cases h
        | ok a => rw [ha] at h; rw [take_e ha]; exact h
      · rename_i h3
        rw [if_neg h3]
        split at h
        · rename_i h4
          rw [if_pos h4]
          cases ha : takeM e 3 1 ts with
          | error p => rw [ha] at h; cases h
          | ok a =>
            rw [ha] at h
            rw [take_e ha]
            simp only [bind, Except.bind] at h ⊢
            cases hb : takeM e 2 0 a.2 with
            | error p => rw [hb] at h; cases h
            | ok b => rw [hb] at h; rw [take_e hb]; exact h
        · rename_i h4
          rw [if_neg h4]
          split at h
          · rename_i h5
            rw [if_pos h5]
            cases ha : takeM e 3 0 ts with
            | error p => rw [ha] at h; cases h
            | ok a => rw [ha] at h; rw [take_e ha]; exact h
          · rename_i h5
            rw [if_neg h5]
            exact h
theorem cmd_e {e e' : Int} {ts : List TokD} {c : CmdD} (h : cmdM e ts = .ok c) : cmdM e' ts = .ok c := by
  unfold cmdM at h ⊢
  cases hk : kindM ts with
  | none => rw [hk] at h; cases h
  | some k =>
    rw [hk] at h
    simp only [bind, Except.bind] at h ⊢
    have key : ∀ (bx : List Int) (us : List TokD), ((restM e ⟨k, bx, [], 0, 0, 0, 0, []⟩ us).bind fun r => match r.2 with | [] => .ok r.1 | t :: _ => .error t.p) = Except.ok c → ((restM e' ⟨k, bx, [], 0, 0, 0, 0, []⟩ us).bind fun r => match r.2 with | [] => .ok r.1 | t :: _ => .error t.p) = Except.ok c := by
      intro bx us hh
      cases hr : restM e ⟨k, bx, [], 0, 0, 0, 0, []⟩ us with
      | error p => rw [hr] at hh; cases hh
      | ok r => rw [hr] at hh; rw [rest_e hr]; exact hh
    by_cases h9 : k = 9
    · rw [if_pos h9] at h ⊢
      exact key [] _ h
    · rw [if_neg h9] at h ⊢
      cases h2 : takeM e 2 0 (ts.drop 1) with
      | error p => rw [h2] at h; cases h
      | ok b => rw [h2] at h; rw [take_e h2]; exact key b.1.tx b.2 h
/-- Blanks ahead of a line. -/
theorem read_ahead {l : List Int} {n : Nat} (h : l.length + 2 * n ≤ 120) : readM (List.replicate n 32 ++ l) = ((readM l).1, (readM l).2.1, if 1 < (readM l).2.1 then (readM l).2.2 + n else (readM l).2.2) := by
  have hlen : (List.replicate n (32 : Int) ++ l).length = l.length + n := by simp; omega
  unfold readM
  rw [if_neg (by omega), if_neg (by omega), hlen, show l.length + n + 1 = (l.length + 1) + n by omega, lex_ahead, lex_sh]
  cases lexM (l.length + 1) 0 l with
  | error i => simp [shE]
  | ok ts =>
    simp only [shE]
    rw [show (((l.length + n : Nat) : Int)) = (l.length : Int) + n by omega, cmd_sh]
    cases cmdM l.length ts <;> simp [shE]
/-- Blanks behind one that is well. -/
theorem read_behind {l : List Int} {n : Nat} (h : l.length + n ≤ 120) (hw : (readM l).2.1 = 0) : readM (l ++ List.replicate n 32) = ((readM l).1, 0, 0) := by
  have hlen : (l ++ List.replicate n (32 : Int)).length = l.length + n := by simp
  unfold readM at hw ⊢
  rw [if_neg (by omega)] at hw ⊢
  rw [if_neg (by omega), hlen]
  cases hx : lexM (l.length + 1) 0 l with
  | error i => rw [hx] at hw; simp at hw
  | ok ts =>
    rw [hx] at hw
    have h1 : lexM (l.length + n + 1) 0 l = .ok ts := by rw [← hx]; exact lex_fuel _ _ _ (by omega) _ (by omega)
    rw [lex_behind n _ 0 l ts (by rw [hlen]; omega) h1]
    simp only at hw ⊢
    cases hc : cmdM l.length ts with
    | error p => rw [hc] at hw; simp at hw
    | ok c => rw [cmd_e hc]

end Go.Proofs.YtlegmiaoablcgaaDoor

/- The place that CmdRead answers lies in the line. -/
namespace Go.Proofs.YtlegmiaoablcgaaDoor
open Go.RowKit
set_option linter.unusedSimpArgs false

theorem take_pos {e k least p M : Int} {ts : List TokD} (h : takeM e k least ts = .error p) (he : 0 ≤ e ∧ e ≤ M) (hok : ∀ t ∈ ts, 0 ≤ t.p ∧ t.p ≤ M) : 0 ≤ p ∧ p ≤ M := by
  cases ts with
  | nil => simp only [takeM] at h; cases h; exact he
  | cons t r =>
    simp only [takeM] at h
    split at h
    · cases h
    · cases h; exact hok t (by simp)
theorem fail_pos {e M : Int} {ts : List TokD} (he : 0 ≤ e ∧ e ≤ M) (hok : ∀ t ∈ ts, 0 ≤ t.p ∧ t.p ≤ M) : 0 ≤ failM e ts ∧ failM e ts ≤ M := by
  cases ts with
  | nil => exact he
  | cons t r => exact hok t (by simp)
/-- A result whose place, or whose tokens left, lie in the line. -/
def InX (M : Int) {α : Type} : Except Int (α × List TokD) → Prop
  | .error p => 0 ≤ p ∧ p ≤ M
  | .ok r => ∀ t ∈ r.2, 0 ≤ t.p ∧ t.p ≤ M
theorem take_in {e k least M : Int} {ts : List TokD} (he : 0 ≤ e ∧ e ≤ M) (hok : ∀ t ∈ ts, 0 ≤ t.p ∧ t.p ≤ M) : InX M (takeM e k least ts) := by
  cases h : takeM e k least ts with
  | error p => exact take_pos h he hok
  | ok a => exact fun t ht => hok t ((take_mem h).1 t ht)
theorem bind_in {M : Int} {α β : Type} {x : Except Int (α × List TokD)} {f : α × List TokD → Except Int (β × List TokD)} (hx : InX M x) (hf : ∀ a, (∀ t ∈ a.2, 0 ≤ t.p ∧ t.p ≤ M) → InX M (f a)) : InX M (x >>= f) := by
  cases x with
  | error p => exact hx
  | ok a => exact hf a hx
theorem drop_in {M : Int} {ts : List TokD} (hok : ∀ t ∈ ts, 0 ≤ t.p ∧ t.p ≤ M) (n : Nat) : ∀ t ∈ ts.drop n, 0 ≤ t.p ∧ t.p ≤ M := fun t ht => hok t (List.mem_of_mem_drop ht)
theorem rest_in {e M : Int} {c : CmdD} {ts : List TokD} (he : 0 ≤ e ∧ e ≤ M) (hok : ∀ t ∈ ts, 0 ≤ t.p ∧ t.p ≤ M) : InX M (restM e c ts) := by
  unfold restM
  split
  · exact bind_in (take_in he hok) fun a ha => bind_in (take_in he ha) fun b hb => hb
  split
  · refine bind_in (take_in he hok) fun a ha => ?_
    cases modeM a.2 with
    | none => exact fail_pos he ha
    | some m =>
      refine bind_in (take_in he (drop_in ha 1)) fun b hb => ?_
      split
      · exact bind_in (take_in he (drop_in hb 1)) fun d hd => hd
      · exact hb
  split
  · exact bind_in (take_in he hok) fun a ha => ha
  split
  · refine bind_in (take_in he hok) fun a ha => bind_in (take_in he ha) fun b hb => ?_
    split
    · exact drop_in hb 1
    · exact hb
  split
  · exact bind_in (take_in he hok) fun a ha => ha
  · exact hok
theorem cmd_pos {e M p : Int} {ts : List TokD} (he : 0 ≤ e ∧ e ≤ M) (hok : ∀ t ∈ ts, 0 ≤ t.p ∧ t.p ≤ M) (h : cmdM e ts = .error p) : 0 ≤ p ∧ p ≤ M := by
  unfold cmdM at h
  cases hk : kindM ts with
  | none => rw [hk] at h; cases h; exact fail_pos he hok
  | some k =>
    rw [hk] at h
    simp only at h
    have h1 : InX M (if k = 9 then Except.ok (([] : List Int), ts.drop 1) else do
      let b ← takeM e 2 0 (ts.drop 1)
      .ok (b.1.tx, b.2)) := by
      split
      · exact drop_in hok 1
      · exact bind_in (take_in he (drop_in hok 1)) fun b hb => hb
    generalize (if k = 9 then Except.ok (([] : List Int), ts.drop 1) else do
      let b ← takeM e 2 0 (ts.drop 1)
      .ok (b.1.tx, b.2)) = A at h h1
    cases A with
    | error q => cases h; exact h1
    | ok a =>
      simp only [bind, Except.bind] at h
      have h2 := rest_in (e := e) (c := ⟨k, a.1, [], 0, 0, 0, 0, []⟩) he h1
      generalize restM e ⟨k, a.1, [], 0, 0, 0, 0, []⟩ a.2 = R at h h2
      cases R with
      | error q => cases h; exact h2
      | ok r =>
        simp only at h
        obtain ⟨r1, r2⟩ := r
        cases r2 with
        | nil => cases h
        | cons t q => cases h; exact h2 t (by simp)
def InL (M : Int) : Except Int (List TokD) → Prop
  | .error p => 0 ≤ p ∧ p ≤ M
  | .ok ts => ∀ t ∈ ts, 0 ≤ t.p ∧ t.p ≤ M
theorem InL.mono {M N : Int} {x : Except Int (List TokD)} (h : InL M x) (hM : M ≤ N) : InL N x := by
  cases x with
  | error p => exact ⟨h.1, Int.le_trans h.2 hM⟩
  | ok ts => exact fun t ht => ⟨(h t ht).1, Int.le_trans (h t ht).2 hM⟩
theorem lex_pos : ∀ (f : Nat) (i : Int) (s : List Int), 0 ≤ i → InL (i + s.length) (lexM f i s)
  | 0, i, s, h => by intro t ht; simp at ht
  | f + 1, i, [], h => by intro t ht; simp at ht
  | f + 1, i, x :: r, h => by
    simp only [lexM]
    by_cases h32 : x = 32
    · rw [if_pos h32]
      exact (lex_pos f (i + 1) r (by omega)).mono (by simp only [List.length_cons]; omega)
    · rw [if_neg h32]
      cases hone : oneM i (x :: r) with
      | none => exact ⟨h, by simp only [List.length_cons]; omega⟩
      | some p =>
        have hs := oneM_suf hone
        have hl := hs.1.length_le
        have h1 := lex_pos f (i + (((x :: r).length : Int) - (p.2.length : Int))) p.2 (by omega)
        simp only
        generalize lexM f (i + (((x :: r).length : Int) - (p.2.length : Int))) p.2 = A at h1 ⊢
        cases A with
        | error j => exact InL.mono (x := .error j) h1 (by omega)
        | ok ts =>
          intro t ht
          rcases List.mem_cons.1 ht with rfl | ht
          · rw [hs.2]; omega
          · have := h1 t ht; omega
theorem read_pos (l : List Int) : 0 ≤ (readM l).2.2 ∧ (readM l).2.2 ≤ 120 := by
  unfold readM
  split
  · simp
  · rename_i hl
    have h1 := lex_pos (l.length + 1) 0 l (by omega)
    cases h : lexM (l.length + 1) 0 l with
    | error i => rw [h] at h1; have h2 : 0 ≤ i ∧ i ≤ 0 + (l.length : Int) := h1; simp only; omega
    | ok ts =>
      rw [h] at h1
      have h2 : ∀ t ∈ ts, 0 ≤ t.p ∧ t.p ≤ 0 + (l.length : Int) := h1
      simp only
      cases hc : cmdM l.length ts with
      | error p =>
        have := cmd_pos (M := 120) (by omega) (fun t ht => by have := h2 t ht; omega) hc
        exact this
      | ok c => simp

end Go.Proofs.YtlegmiaoablcgaaDoor

/- What at of package laws answers. -/
namespace Go.Proofs.YtlegmiaoablcgaaDoor
open Go.RowKit
set_option maxRecDepth 100000

set_option maxHeartbeats 400000 in
theorem at_any (v : Value) (M : List Int) (i : Int) (w : World) (hv : Bs w v M) (hi0 : 0 ≤ i) (hi1 : i ≤ 1000) :
    Calls Tryd.prog 7 #[v, .int .i64 i] w fun e w' => ∃ x, e = .returned (.int .i64 x) ∧ 0 ≤ x ∧ x ≤ 255 ∧ Below w.heap.size w w' := by
  obtain ⟨ho, a, cap, rfl, h1, h2, h3, h4⟩ := hv
  unfold maxLen at h2
  by_cases hz : M = []
  · subst hz
    go_enter Tryd.func7, Tryd.ntmps7
    go_wp2
    go_ret
    exact ⟨0, rfl, by omega, by omega, Below.refl _ _⟩
  · have hp : 0 < M.length := List.length_pos_iff.2 hz
    have hne : ((M.length : Int) == 0) = false := by simp; omega
    obtain ⟨b, off, rfl, hb, hc⟩ := h4 hp
    obtain ⟨j, hj, hjl⟩ : ∃ j : Nat, i % (M.length : Int) = j ∧ j < M.length := ⟨(i % (M.length : Int)).toNat, by have := Int.emod_nonneg i (show (M.length : Int) ≠ 0 by omega); omega, by have := Int.emod_lt_of_pos i (show (0 : Int) < M.length by omega); omega⟩
    have hx := hc j hjl
    have hxo : 0 ≤ M.getD j 0 ∧ M.getD j 0 ≤ 255 := by
      have := ho (M.getD j 0) (by simp [List.getD, hjl])
      omega
    obtain ⟨hx0, hx1⟩ := hxo
    generalize M.getD j 0 = x at hx hx0 hx1
    have hjl' : (j : Int) < M.length := by omega
    clear hc h4 h3 hz
    go_enter Tryd.func7, Tryd.ntmps7
    go_wp2
    go_ret
    exact ⟨x, rfl, hx0, hx1, Below.refl _ _⟩
theorem keep_form (y : Int) (n : Nat) (h0 : 0 ≤ y) : ∃ K : Nat, y.tmod ((n : Int) + 2) = K ∧ K ≤ n + 1 := by
  rw [Int.tmod_eq_emod_of_nonneg h0]
  exact ⟨(y % ((n : Int) + 2)).toNat, by have := Int.emod_nonneg y (show (n : Int) + 2 ≠ 0 by omega); omega, by have := Int.emod_lt_of_pos y (show (0 : Int) < (n : Int) + 2 by omega); omega⟩

end Go.Proofs.YtlegmiaoablcgaaDoor

/- What sameBytes of package laws answers. -/
namespace Go.Proofs.YtlegmiaoablcgaaDoor
open Go.RowKit
set_option maxRecDepth 100000

set_option maxHeartbeats 400000 in
theorem sameBytes_yes (v u : Value) (l : List Int) (w : World) (hv : Bs w v l) (hu : Bs w u l) :
    Calls Tryd.prog 9 #[v, u] w fun e w' => e = .returned (.bool true) ∧ Below w.heap.size w w' := by
  have h1 := run_convert_bs hv
  have h2 := run_convert_bs hu
  go_enter Tryd.func9, Tryd.ntmps9
  go_wp2
  go_ret
  exact ⟨rfl, Below.refl _ _⟩

end Go.Proofs.YtlegmiaoablcgaaDoor
