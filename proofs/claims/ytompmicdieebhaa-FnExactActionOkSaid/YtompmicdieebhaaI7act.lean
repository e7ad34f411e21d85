/- What ActionOk of package impl does. -/
import Derived.Test.YtompmicdieebhaaActM
import Derived.Test.YtompmicdieebhaaI5cw
namespace Go.Proofs.Ytompmicdieebhaa
open Go.RowKit
set_option maxRecDepth 100000
set_option linter.unusedVariables false
set_option linter.unusedSimpArgs false

set_option maxRecDepth 100000 in
set_option maxHeartbeats 2000000 in
theorem implActionOk_gen (K D I U : Int) (b0 : Bool) (hb0 : (K == 0) = b0) (hd0 : decide (K = 0) = b0) (k : Int) (a0 a1 a2 : Option Addr) (n0 n1 n2 c0 c1 c2 : Nat) (uid mode fl si : Int) (w : World) (c X0 X1 X2 X3 X4 : Bool)
    (h0 : ∀ w, Calls Try.prog 13 #[.int .i64 K, .int .i64 0, .int .i64 9] w fun e w' => e = .returned (.bool X0) ∧ w' = w)
    (h1 : ∀ w, Calls Try.prog 13 #[.int .i64 D, .int .i64 0, .int .i64 3] w fun e w' => e = .returned (.bool X1) ∧ w' = w)
    (h2 : ∀ w, Calls Try.prog 13 #[.int .i64 I, .int .i64 0, .int .i64 2147483647] w fun e w' => e = .returned (.bool X2) ∧ w' = w)
    (h3 : ∀ w, Calls Try.prog 13 #[.int .i64 U, .int .i64 0, .int .i64 2] w fun e w' => e = .returned (.bool X3) ∧ w' = w)
    (h4 : Hid (∀ wi, Below w.heap.size w wi → Calls Try.prog 14 #[.bool b0, .agg #[.int .i64 k, .slice a0 n0 c0, .slice a1 n1 c1, .int .i64 uid, .int .i64 mode, .int .i64 fl, .int .i64 si, .slice a2 n2 c2]] wi fun e w' => e = .returned (.bool X4) ∧ Below wi.heap.size wi w'))
    (HC : Hid (c = (X0 && (X1 && (X2 && (X3 && X4)))))) :
    Calls Try.prog 7 #[.agg #[.int .i64 K, .int .i64 D, .int .i64 I, .int .i64 U, .int .i64 k, .slice a0 n0 c0, .slice a1 n1 c1, .int .i64 uid, .int .i64 mode, .int .i64 fl, .int .i64 si, .slice a2 n2 c2]] w fun e w' => e = .returned (.bool c) ∧ Below w.heap.size w w' := by
  have HX : Hid (∀ o, Below w.heap.size w (w.alloc o)) := fun o => (Below.refl _ _).alloc (Nat.le_refl _) o
  go_enter Try.func7, Try.ntmps7
  go_wp2_with fail
  refine (h0 _).mono ?_
  rintro e w' ⟨rfl, rfl⟩
  clear h0
  cases X0 with
  | false =>
    go_wp2
    go_ret
    exact ⟨ret_b HC.out, HX.out _⟩
  | true =>
  go_wp2_with fail
  refine (h1 _).mono ?_
  rintro e w' ⟨rfl, rfl⟩
  clear h1
  cases X1 with
  | false =>
    go_wp2
    go_ret
    exact ⟨ret_b HC.out, HX.out _⟩
  | true =>
  go_wp2_with fail
  refine (h2 _).mono ?_
  rintro e w' ⟨rfl, rfl⟩
  clear h2
  cases X2 with
  | false =>
    go_wp2
    go_ret
    exact ⟨ret_b HC.out, HX.out _⟩
  | true =>
  go_wp2_with fail
  refine (h3 _).mono ?_
  rintro e w' ⟨rfl, rfl⟩
  clear h3
  cases X3 with
  | false =>
    go_wp2
    go_ret
    exact ⟨ret_b HC.out, HX.out _⟩
  | true =>
  go_wp2_with fail
  (try rw [hb0])
  (try rw [hd0])
  refine (h4.out _ (HX.out _)).mono ?_
  rintro e w1 ⟨rfl, B⟩
  have X := Below.step (HX.out _) B
  clear B h4 HX
  go_wp2
  go_ret
  exact ⟨ret_b HC.out, X⟩
theorem implActionOk_any (v : Value) (r : ActD) (w : World) (hv : ActV w v r) :
    Calls Try.prog 7 #[v] w fun e w' => e = .returned (.bool (actB r)) ∧ Below w.heap.size w w' := by
  have H0 : Hid (∀ wi, Below w.heap.size w wi → ActV wi v r) := fun wi h => hv.below h
  obtain ⟨a0, n0, c0, a1, n1, c1, a2, n2, c2, rfl⟩ := hv.form
  clear hv
  have e0 : (r.kind == 0) = decide (r.kind = 0) := by rw [Bool.eq_iff_iff]; simp
  exact implActionOk_gen r.kind r.node r.i r.user _ e0 rfl _ _ _ _ _ _ _ _ _ _ _ _ _ _ w _ _ _ _ _ _ (within_any _ _ _) (within_any _ _ _) (within_any _ _ _) (within_any _ _ _)
    (fun wi h => cmdWanted_any _ _ r.cmd wi (H0.out wi h).parts.1) rfl

end Go.Proofs.Ytompmicdieebhaa
