/- What cmdWanted of package impl does. -/
import Derived.Test.YtompmicdieebhaaCmdZ
import Derived.Test.YtompmicdieebhaaI3cmd
namespace Go.Proofs.Ytompmicdieebhaa
open Go.RowKit
set_option maxRecDepth 100000
set_option linter.unusedVariables false
set_option linter.unusedSimpArgs false

set_option maxHeartbeats 1000000 in
theorem cmdWanted_zero (k : Int) (a0 a1 a2 : Option Addr) (nb nt nx c0 c1 c2 : Nat) (uid mode fl si : Int) (w : World) :
    Calls Try.prog 14 #[.bool false, .agg #[.int .i64 k, .slice a0 nb c0, .slice a1 nt c1, .int .i64 uid, .int .i64 mode, .int .i64 fl, .int .i64 si, .slice a2 nx c2]] w fun e w' => e = .returned (.bool (zC k nb nt uid mode fl si nx)) ∧ Below w.heap.size w w' := by
  have HX : Hid (∀ o, Below w.heap.size w (w.alloc o)) := fun o => (Below.refl _ _).alloc (Nat.le_refl _) o
  go_enter Try.func14, Try.ntmps14
  go_wp2
  all_goals (go_ret; refine ⟨ret_b ?_, HX.out _⟩; clear HX; unfold zC; (try simp only [beq_iff_eq, beq_eq_false_iff_ne, ne_eq] at *); rw [Bool.eq_iff_iff]; simp; omega)
theorem cmdWanted_any (b : Bool) (v : Value) (c : CmdD) (w : World) (hv : CmdV w v c.k c.bx c.tt c.uid c.mode c.fl c.si c.tx) :
    Calls Try.prog 14 #[.bool b, v] w fun e w' => e = .returned (.bool (bif b then cmdD c else zeroC c)) ∧ Below w.heap.size w w' := by
  have H0 : Hid (∀ wi, Below w.heap.size w wi → CmdV wi v c.k c.bx c.tt c.uid c.mode c.fl c.si c.tx) := fun wi h => hv.below h
  obtain ⟨u0, u1, u2, rfl, g0, g1, g2, -⟩ := hv
  obtain ⟨a0, c0, rfl⟩ := g0.form
  obtain ⟨a1, c1, rfl⟩ := g1.form
  obtain ⟨a2, c2, rfl⟩ := g2.form
  clear g0 g1 g2
  cases b with
  | false => exact cmdWanted_zero _ _ _ _ _ _ _ _ _ _ _ _ _ _ w
  | true =>
    have ab : ∀ o, Below w.heap.size w (w.alloc o) := fun o => (Below.refl _ _).alloc (Nat.le_refl _) o
    go_enter Try.func14, Try.ntmps14
    go_wp2_with fail
    refine (implCmdOk_any _ c.k c.bx c.tt c.uid c.mode c.fl c.si c.tx _ (H0.out _ (ab _))).mono ?_
    rintro e w1 ⟨rfl, B⟩
    replace B := Below.step (ab _) B
    clear ab H0
    go_wp2
    go_ret
    exact ⟨rfl, B⟩

end Go.Proofs.Ytompmicdieebhaa
