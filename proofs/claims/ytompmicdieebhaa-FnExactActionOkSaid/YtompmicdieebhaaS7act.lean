/- What ActionOk of package spec does. -/
import Derived.Test.YtompmicdieebhaaActM
import Derived.Test.YtompmicdieebhaaS5zeroC
import Derived.Test.YtompmicdieebhaaS3cmd
namespace Go.Proofs.Ytompmicdieebhaa
open Go.RowKit
set_option maxRecDepth 100000
set_option linter.unusedVariables false
set_option linter.unusedSimpArgs false

set_option maxRecDepth 100000 in
set_option maxHeartbeats 2000000 in
theorem specActionOk_in (K D I U : Int) (hK : 0 ≤ K) (hK' : K ≤ 9) (hD : 0 ≤ D) (hD' : D ≤ 3) (hI : 0 ≤ I) (hI' : I ≤ 2147483647) (hU : 0 ≤ U) (hU' : U ≤ 2) (k : Int) (a0 a1 a2 : Option Addr) (n0 n1 n2 c0 c1 c2 : Nat) (uid mode fl si : Int) (w : World) (X0 X1 : Bool)
    (h0 : Hid (∀ wi, Below w.heap.size w wi → Calls Try.prog 10 #[.agg #[.int .i64 k, .slice a0 n0 c0, .slice a1 n1 c1, .int .i64 uid, .int .i64 mode, .int .i64 fl, .int .i64 si, .slice a2 n2 c2]] wi fun e w' => e = .returned (.bool X0) ∧ Below wi.heap.size wi w'))
    (h1 : Hid (∀ wi, Below w.heap.size w wi → Calls Try.prog 11 #[.agg #[.int .i64 k, .slice a0 n0 c0, .slice a1 n1 c1, .int .i64 uid, .int .i64 mode, .int .i64 fl, .int .i64 si, .slice a2 n2 c2]] wi fun e w' => e = .returned (.bool X1) ∧ Below wi.heap.size wi w')) :
    Calls Try.prog 5 #[.agg #[.int .i64 K, .int .i64 D, .int .i64 I, .int .i64 U, .int .i64 k, .slice a0 n0 c0, .slice a1 n1 c1, .int .i64 uid, .int .i64 mode, .int .i64 fl, .int .i64 si, .slice a2 n2 c2]] w fun e w' => e = .returned (.bool (bif decide (K = 0) then X0 else X1)) ∧ Below w.heap.size w w' := by
  have X : Below w.heap.size w (w.alloc (.cells #[.int .i64 K, .int .i64 D, .int .i64 I, .int .i64 U, .int .i64 k, .slice a0 n0 c0, .slice a1 n1 c1, .int .i64 uid, .int .i64 mode, .int .i64 fl, .int .i64 si, .slice a2 n2 c2] 31)) := (Below.refl _ _).alloc (Nat.le_refl _) _
  by_cases hz : K = 0
  · subst hz
    go_enter Try.func5, Try.ntmps5
    go_wp2_with fail
    refine (h0.out _ X).mono ?_
    rintro e w1 ⟨rfl, B⟩
    replace X := Below.step X B
    clear B h0 h1
    go_wp2
    go_ret
    exact ⟨rfl, X⟩
  · have HZ : Hid ((bif decide (K = 0) then X0 else X1) = X1) := by simp [Hid, hz]
    go_enter Try.func5, Try.ntmps5
    go_wp2_with fail
    refine (h1.out _ X).mono ?_
    rintro e w1 ⟨rfl, B⟩
    replace X := Below.step X B
    clear B h0 h1
    go_wp2
    go_ret
    exact ⟨ret_b HZ.out, X⟩

set_option maxRecDepth 100000 in
set_option maxHeartbeats 4000000 in
theorem specActionOk_any (v : Value) (r : ActD) (w : World) (hv : ActV w v r) :
    Calls Try.prog 5 #[v] w fun e w' => e = .returned (.bool (actB r)) ∧ Below w.heap.size w w' := by
  have H0 : Hid (∀ wi, Below w.heap.size w wi → ActV wi v r) := fun wi h => hv.below h
  obtain ⟨a0, n0, c0, a1, n1, c1, a2, n2, c2, rfl⟩ := hv.form
  clear hv
  by_cases h : (0 ≤ r.kind ∧ r.kind ≤ 9) ∧ (0 ≤ r.node ∧ r.node ≤ 3) ∧ (0 ≤ r.i ∧ r.i ≤ 2147483647) ∧ (0 ≤ r.user ∧ r.user ≤ 2)
  · rw [actB_in h]
    exact specActionOk_in r.kind r.node r.i r.user h.1.1 h.1.2 h.2.1.1 h.2.1.2 h.2.2.1.1 h.2.2.1.2 h.2.2.2.1 h.2.2.2.2 _ _ _ _ _ _ _ _ _ _ _ _ _ _ w (cmdD r.cmd) (zeroC r.cmd)
      (fun wi h => specCmdOk_any _ r.cmd.k r.cmd.bx r.cmd.tt r.cmd.uid r.cmd.mode r.cmd.fl r.cmd.si r.cmd.tx wi (H0.out wi h).parts.1) (fun wi h => l5zeroCmd_any _ r.cmd wi (H0.out wi h).parts.1)
  · have HC : Hid (¬ ((0 ≤ r.kind ∧ r.kind ≤ 9) ∧ (0 ≤ r.node ∧ r.node ≤ 3) ∧ (0 ≤ r.i ∧ r.i ≤ 2147483647) ∧ (0 ≤ r.user ∧ r.user ≤ 2))) := h
    have HX : Hid (∀ o, Below w.heap.size w (w.alloc o)) := fun o => (Below.refl _ _).alloc (Nat.le_refl _) o
    clear h H0
    go_enter Try.func5, Try.ntmps5
    go_wp2_with fail
    all_goals first
      | exact (HC.out ⟨by omega, by omega, by omega, by omega⟩).elim
      | (go_ret; exact ⟨ret_b (actB_out HC.out), HX.out _⟩)

end Go.Proofs.Ytompmicdieebhaa
