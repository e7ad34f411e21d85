/- What szAction, toAction, eqAction of package laws do. -/
import Derived.Test.YtompmicdieebhaaExCmd
import Derived.Test.YtompmicdieebhaaLibAct
namespace Go.Proofs.Ytompmicdieebhaa
open Go.RowKit
set_option maxRecDepth 100000
set_option linter.unusedVariables false

set_option maxRecDepth 100000 in
set_option maxHeartbeats 1000000 in
theorem szAction_any (v : Value) (r : ActD) (left : Int) (w : World) (hv : ActV w v r) (h0 : 0 ≤ left) (h1 : left ≤ 4000000) :
    Calls Try.prog 4 #[v, .int .i64 left] w fun e w' => ∃ y : Int, e = .returned (.int .i64 y) ∧ (y = -1 ∨ (0 ≤ y ∧ y + (r.cmd.bx.length + r.cmd.tt.length + r.cmd.tx.length : Nat) = left)) ∧ Below w.heap.size w w' := by
  have H0 : Hid (∀ wi, Below w.heap.size w wi → ActV wi v r) := fun wi h => hv.below h
  obtain ⟨a0, n0, c0, a1, n1, c1, a2, n2, c2, rfl⟩ := hv.form
  clear hv
  have X : Below w.heap.size w (w.alloc (.cells #[.int .i64 r.kind, .int .i64 r.node, .int .i64 r.i, .int .i64 r.user, .int .i64 r.cmd.k, .slice a0 n0 c0, .slice a1 n1 c1, .int .i64 r.cmd.uid, .int .i64 r.cmd.mode, .int .i64 r.cmd.fl, .int .i64 r.cmd.si, .slice a2 n2 c2] 26)) := (Below.refl _ _).alloc (Nat.le_refl _) _
  go_enter Try.func4, Try.ntmps4
  go_wp2_with fail
  refine (szCmd_any _ r.cmd.k r.cmd.bx r.cmd.tt r.cmd.uid r.cmd.mode r.cmd.fl r.cmd.si r.cmd.tx left _ (H0.out _ X).parts.1 h0 h1).mono ?_
  rintro e w1 ⟨y0, rfl, hy, B⟩
  replace X := Below.step X B
  clear B
  rcases hy with rfl | ⟨q0, p0⟩
  · go_wp2
    go_ret
    exact ⟨-1, rfl, .inl rfl, X⟩
  go_wp2
  go_ret
  exact ⟨y0, rfl, .inr ⟨q0, by omega⟩, X⟩

set_option maxRecDepth 100000 in
set_option maxHeartbeats 2000000 in
theorem eqAction_yes (v u : Value) (r : ActD) (w : World) (hv : ActV w v r) (hu : ActV w u r) :
    Calls Try.prog 8 #[v, u] w fun e w' => e = .returned (.bool true) ∧ Below w.heap.size w w' := by
  have H0 : Hid (∀ wi, Below w.heap.size w wi → ActV wi v r ∧ ActV wi u r) := fun wi h => ⟨hv.below h, hu.below h⟩
  obtain ⟨a0, n0, c0, a1, n1, c1, a2, n2, c2, rfl⟩ := hv.form
  obtain ⟨b0, m0, d0, b1, m1, d1, b2, m2, d2, rfl⟩ := hu.form
  clear hv hu
  obtain ⟨kA, kB, X⟩ := boxes2 w (.cells #[.int .i64 r.kind, .int .i64 r.node, .int .i64 r.i, .int .i64 r.user, .int .i64 r.cmd.k, .slice a0 n0 c0, .slice a1 n1 c1, .int .i64 r.cmd.uid, .int .i64 r.cmd.mode, .int .i64 r.cmd.fl, .int .i64 r.cmd.si, .slice a2 n2 c2] 31) (.cells #[.int .i64 r.kind, .int .i64 r.node, .int .i64 r.i, .int .i64 r.user, .int .i64 r.cmd.k, .slice b0 m0 d0, .slice b1 m1 d1, .int .i64 r.cmd.uid, .int .i64 r.cmd.mode, .int .i64 r.cmd.fl, .int .i64 r.cmd.si, .slice b2 m2 d2] 31)
  clear kA kB
  go_enter Try.func8, Try.ntmps8
  go_wp2_with fail
  refine (eqCmd_yes _ _ r.cmd.k r.cmd.bx r.cmd.tt r.cmd.uid r.cmd.mode r.cmd.fl r.cmd.si r.cmd.tx _ (H0.out _ X).1.parts.1 (H0.out _ X).2.parts.1).mono ?_
  rintro e w1 ⟨rfl, B⟩
  replace X := Below.step X B
  clear B
  go_wp2
  go_ret
  exact ⟨rfl, X⟩

set_option maxRecDepth 100000 in
set_option maxHeartbeats 2000000 in
theorem toAction_r (v : Value) (r : ActD) (w : World) (hv : ActV w v r) (h0 : r.cmd.bx.length ≤ 2000000) (h1 : r.cmd.tt.length ≤ 2000000) (h2 : r.cmd.tx.length ≤ 2000000) :
    Calls Try.prog 6 #[v] w fun e w' => ∃ u, e = .returned u ∧ ActR w' w.heap.size w'.heap.size u r ∧ Below w.heap.size w w' := by
  have H0 : Hid (∀ wi, Below w.heap.size w wi → ActV wi v r) := fun wi h => hv.below h
  obtain ⟨a0, n0, c0, a1, n1, c1, a2, n2, c2, rfl⟩ := hv.form
  clear hv
  go_enter Try.func6, Try.ntmps6
  go_wp2_with fail
  refine (toCmd_r _ r.cmd.k r.cmd.bx r.cmd.tt r.cmd.uid r.cmd.mode r.cmd.fl r.cmd.si r.cmd.tx _ (H0.out _ (box3_below w _ _ _)).parts.1 h0 h1 h2).mono ?_
  rintro e w1 ⟨uu, rfl, R0, B⟩
  obtain ⟨p0, p1, p2, rfl, g0, g1, g2, -⟩ := R0.v
  obtain ⟨x0, m0, y0, rfl⟩ := g0.form3
  obtain ⟨x1, m1, y1, rfl⟩ := g1.form3
  obtain ⟨x2, m2, y2, rfl⟩ := g2.form3
  clear g0 g1 g2
  have b3 := box3 w (.cells #[.int .i64 r.kind, .int .i64 r.node, .int .i64 r.i, .int .i64 r.user, .int .i64 r.cmd.k, .slice a0 n0 c0, .slice a1 n1 c1, .int .i64 r.cmd.uid, .int .i64 r.cmd.mode, .int .i64 r.cmd.fl, .int .i64 r.cmd.si, .slice a2 n2 c2] 26) (.cells #[.int .i64 0, .int .i64 0, .int .i64 0, .int .i64 0, .int .i64 0, .slice none 0 0, .slice none 0 0, .int .i64 0, .int .i64 0, .int .i64 0, .int .i64 0, .slice none 0 0] 31) (.cells #[.int .i64 r.kind, .int .i64 r.node, .int .i64 r.i, .int .i64 r.user, .int .i64 0, .slice none 0 0, .slice none 0 0, .int .i64 0, .int .i64 0, .int .i64 0, .int .i64 0, .slice none 0 0] 31)
  have kR := box_below B b3.2.1
  have kO := box_below B b3.2.2
  have s1 : w.heap.size + 3 ≤ w1.heap.size := by have := B.size; simp at this; omega
  have X := Below.step (box3_below w _ _ _) B
  replace R0 := R0.wide (B' := w.heap.size + 3) (T' := w1.heap.size) (by simp) (Nat.le_refl _)
  clear b3 B
  obtain ⟨oz, ol⟩ := box8z kO
  obtain ⟨o0, o1, o2, o3, o4, o5, o6, o7, o8, o9, o10, o11⟩ := bx12 kO
  obtain ⟨rz, rl⟩ := box8z kR
  obtain ⟨r0, r1, r2, r3, r4, r5, r6, r7, r8, r9, r10, r11⟩ := bx12 kR
  go_wp2
  refine bodyPost_ret (v := .agg #[.int .i64 r.kind, .int .i64 r.node, .int .i64 r.i, .int .i64 r.user, .int .i64 r.cmd.k, .slice x0 m0 y0, .slice x1 m1 y1, .int .i64 r.cmd.uid, .int .i64 r.cmd.mode, .int .i64 r.cmd.fl, .int .i64 r.cmd.si, .slice x2 m2 y2]) (by simp [results, Try.results6, go_sem, r0, r1, r2, r3, r4, r5, r6, r7, r8, r9, r10, r11]) rfl ⟨_, rfl, ?_, ?_⟩
  · simp only [box_size]
    have hp := (H0.out _ (Below.refl _ _)).parts.2
    refine ⟨_, _, _, rfl, CmdR.wide (B := w.heap.size + 3) ?_ (by omega) (Nat.le_refl _), hp⟩
    repeat refine CmdR.set ?_ (.inl (by omega))
    exact R0
  · repeat refine Below.setCell ?_ (by simp <;> omega) _
    exact X

end Go.Proofs.Ytompmicdieebhaa
