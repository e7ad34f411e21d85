/- What CmdOk of package spec does of kind 3. -/
import Derived.Test.YtompmicdieebhaaS3name
import Derived.Test.YtompmicdieebhaaS3text
import Derived.Test.YtompmicdieebhaaS3parts
import Derived.Test.YtompmicdieebhaaLibCmd
import Derived.Deep.Light
namespace Go.Proofs.Ytompmicdieebhaa
open Go.RowKit
set_option maxRecDepth 100000
set_option linter.unusedVariables false

set_option maxRecDepth 100000 in
set_option maxHeartbeats 4000000 in
theorem specCmdOk_3 (a0 a1 a2 : Option Addr) (nb nt nx c0 c1 c2 : Nat) (bx tt : List Int) (uid mode fl si : Int) (tx : List Int) (w : World) (HN : Hid (bx.length = nb ∧ tt.length = nt ∧ tx.length = nx))
    (H0 : Hid (∀ o, Bs (w.alloc o) (.slice a0 nb c0) bx ∧ Bs (w.alloc o) (.slice a1 nt c1) tt ∧ Bs (w.alloc o) (.slice a2 nx c2) tx)) (i10 : -9223372036854775808 ≤ uid) (i11 : uid ≤ 9223372036854775807) (i20 : -9223372036854775808 ≤ mode) (i21 : mode ≤ 9223372036854775807) (i30 : -9223372036854775808 ≤ fl) (i31 : fl ≤ 9223372036854775807) (i40 : -9223372036854775808 ≤ si) (i41 : si ≤ 9223372036854775807) :
    Calls Try.prog 10 #[.agg #[.int .i64 3, .slice a0 nb c0, .slice a1 nt c1, .int .i64 uid, .int .i64 mode, .int .i64 fl, .int .i64 si, .slice a2 nx c2]] w fun e w' => e = .returned (.bool (cmdB 3 bx tt uid mode fl si tx)) ∧ Below w.heap.size w w' := by
  have hp : ∀ w, Calls Try.prog 18 #[.int .i64 3] w fun e w' => e = .returned (.tuple #[.bool false, .bool true, .bool true, .bool true, .bool false]) ∧ w' = w := fun w => l3parts_any 3 w
  have ab : Hid (∀ o, Below w.heap.size w (w.alloc o)) := fun o => (Below.refl _ _).alloc (Nat.le_refl _) o
  rcases Nat.eq_zero_or_pos nb with rfl | hnb
  all_goals rcases Nat.eq_zero_or_pos nt with rfl | hnt
  all_goals try have hnb' : (nb : Int) ≠ 0 := by omega
  all_goals try have hnt' : (nt : Int) ≠ 0 := by omega
  all_goals try have hnt2 : (0 : Int) < nt := by omega
  all_goals go_enter Try.func10, Try.ntmps10
  all_goals go_wp2_with (first
    | (go_at_call 17; (refine (l3name_any _ bx _ (H0.out _).1).mono ?_); rintro e w' ⟨rfl, rfl⟩)
    | (go_at_call 20; refine (l3text_any _ tx _ (H0.out _).2.2).mono ?_; rintro e w' ⟨rfl, rfl⟩)
    | (go_at_call 18; refine (hp _).mono ?_; rintro e w' ⟨rfl, rfl⟩)
    | (go_at_call 19; refine (l3seq_any _ _).mono ?_; rintro e w' ⟨rfl, rfl⟩))
  all_goals go_ret
  all_goals refine ⟨ret_b ?_, ab.out _⟩
  all_goals clear hp H0
  all_goals have HN' := HN.out
  all_goals (try go_light)
  all_goals obtain ⟨e0, e1, e2⟩ := HN'
  all_goals clear HN ab
  all_goals have z0 := nameB_nil (l := bx)
  all_goals have z1 := nameB_nil (l := tt)
  all_goals have z2 := textB_nil (l := tx)
  all_goals (try have y0 := HX.out)
  all_goals (try have y1 := HY.out)
  all_goals (try clear HX HY)
  all_goals (unfold cmdB; unfold inB at *; cases hn : nameB bx <;> cases hm : nameB tt <;> cases ht : textB tx <;> simp [hn, hm, ht, e0, e1, e2] at * <;> first | omega | (rw [Bool.eq_iff_iff]; simp; omega))

end Go.Proofs.Ytompmicdieebhaa
