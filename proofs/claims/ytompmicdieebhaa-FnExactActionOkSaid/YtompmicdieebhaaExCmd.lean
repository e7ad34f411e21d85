/- What szCmd, toCmd, eqCmd of package laws do. -/
import Derived.Test.YtompmicdieebhaaEx1
import Derived.Test.YtompmicdieebhaaExLog0
import Derived.Test.YtompmicdieebhaaLibCmdR
namespace Go.Proofs.Ytompmicdieebhaa
open Go.RowKit
set_option maxRecDepth 100000
set_option linter.unusedVariables false

set_option maxRecDepth 100000 in
set_option maxHeartbeats 1000000 in
theorem toCmd_r (v : Value) (k : Int) (bx tt : List Int) (uid mode fl si : Int) (tx : List Int) (w : World) (hv : CmdV w v k bx tt uid mode fl si tx) (h0 : bx.length ≤ 2000000) (h1 : tt.length ≤ 2000000) (h2 : tx.length ≤ 2000000) :
    Calls Try.prog 12 #[v] w fun e w' => ∃ u, e = .returned u ∧ CmdR w' w.heap.size w'.heap.size u k bx tt uid mode fl si tx ∧ Below w.heap.size w w' := by
  obtain ⟨u0, u1, u2, rfl, g0, g1, g2, i0, i1, i2, i3, i4⟩ := hv
  have H0 : Hid (∀ wi, Below w.heap.size w wi → Bs wi u0 bx ∧ Bs wi u1 tt ∧ Bs wi u2 tx) := fun wi h => ⟨g0.below h, g1.below h, g2.below h⟩
  obtain ⟨a0, n0, c0, rfl⟩ := g0.form3
  obtain ⟨a1, n1, c1, rfl⟩ := g1.form3
  obtain ⟨a2, n2, c2, rfl⟩ := g2.form3
  have HI : Hid (I64 k ∧ I64 uid ∧ I64 mode ∧ I64 fl ∧ I64 si) := ⟨i0, i1, i2, i3, i4⟩
  clear g0 g1 g2 i0 i1 i2 i3 i4
  go_enter Try.func12, Try.ntmps12
  go_wp2_with fail
  refine (toByteS_r _ bx _ (H0.out _ (box3_below w _ _ _)).1 h0).mono ?_
  rintro e w1 ⟨u0, rfl, R0, B⟩
  obtain ⟨x0, m0, y0, rfl⟩ := R0.bs.form3
  have b3 := box3 w (.cells #[.int .i64 k, .slice a0 n0 c0, .slice a1 n1 c1, .int .i64 uid, .int .i64 mode, .int .i64 fl, .int .i64 si, .slice a2 n2 c2] 24) (.cells #[.int .i64 0, .slice none 0 0, .slice none 0 0, .int .i64 0, .int .i64 0, .int .i64 0, .int .i64 0, .slice none 0 0] 29) (.cells #[.int .i64 k, .slice none 0 0, .slice none 0 0, .int .i64 0, .int .i64 0, .int .i64 0, .int .i64 0, .slice none 0 0] 29)
  have kA := box_below B b3.1
  have kR := box_below B b3.2.1
  have kO := box_below B b3.2.2
  have s1 : w.heap.size + 3 ≤ w1.heap.size := by have := B.size; simp at this; omega
  have X := Below.step (box3_below w _ _ _) B
  replace R0 := R0.wide (B' := w.heap.size + 3) (T' := w1.heap.size) (by simp) (Nat.le_refl _)
  clear b3 B
  obtain ⟨-, -, f2, -, -, -, -, -⟩ := box8 kA
  obtain ⟨oz, ol⟩ := box8z kO
  obtain ⟨o0, o1, o2, o3, o4, o5, o6, o7⟩ := box8 kO
  go_wp2_with fail
  clear f2 oz ol o0 o1 o2 o3 o4 o5 o6 o7
  replace X := X.setCell (p := ⟨w.heap.size + 1 + 1, 1, none⟩) (by simp; omega) (.slice x0 m0 y0)
  replace R0 := R0.set (g := w.heap.size + 1 + 1) (i := 1) (x := .slice x0 m0 y0) (.inl (by omega))
  replace kA := box_other (i := 1) (v := .slice x0 m0 y0) kA (show w.heap.size ≠ w.heap.size + 1 + 1 by omega)
  replace kR := box_other (i := 1) (v := .slice x0 m0 y0) kR (show w.heap.size + 1 ≠ w.heap.size + 1 + 1 by omega)
  replace kO : (World.setCell _ _ _).heap[w.heap.size + 1 + 1]? = some (Obj.cells #[.int .i64 k, .slice x0 m0 y0, .slice none 0 0, .int .i64 0, .int .i64 0, .int .i64 0, .int .i64 0, .slice none 0 0] 29) := box_set (i := 1) (v := .slice x0 m0 y0) kO
  refine (toByteS_r _ tt _ (H0.out _ X).2.1 h1).mono ?_
  rintro e w2 ⟨u1, rfl, R1, B⟩
  obtain ⟨x1, m1, y1, rfl⟩ := R1.bs.form3
  simp only [box_size] at R1
  have s2 : w1.heap.size ≤ w2.heap.size := by have := B.size; simpa only [box_size] using this
  replace X := Below.step X B
  replace R0 := R0.below B
  replace kA := box_below B kA
  replace kR := box_below B kR
  replace kO := box_below B kO
  clear B
  obtain ⟨-, -, -, f3, f4, f5, f6, f7⟩ := box8 kA
  obtain ⟨oz, ol⟩ := box8z kO
  obtain ⟨o0, o1, o2, o3, o4, o5, o6, o7⟩ := box8 kO
  go_wp2_with fail
  clear f3 f4 f5 f6 f7 oz ol o0 o1 o2 o3 o4 o5 o6 o7
  replace X := X.setCell (p := ⟨w.heap.size + 1 + 1, 2, none⟩) (by simp; omega) (.slice x1 m1 y1)
  replace R0 := R0.set (g := w.heap.size + 1 + 1) (i := 2) (x := .slice x1 m1 y1) (.inl (by omega))
  replace R1 := R1.set (g := w.heap.size + 1 + 1) (i := 2) (x := .slice x1 m1 y1) (.inl (by omega))
  replace kA := box_other (i := 2) (v := .slice x1 m1 y1) kA (show w.heap.size ≠ w.heap.size + 1 + 1 by omega)
  replace kR := box_other (i := 2) (v := .slice x1 m1 y1) kR (show w.heap.size + 1 ≠ w.heap.size + 1 + 1 by omega)
  replace kO : (World.setCell _ _ _).heap[w.heap.size + 1 + 1]? = some (Obj.cells #[.int .i64 k, .slice x0 m0 y0, .slice x1 m1 y1, .int .i64 0, .int .i64 0, .int .i64 0, .int .i64 0, .slice none 0 0] 29) := box_set (i := 2) (v := .slice x1 m1 y1) kO
  replace X := X.setCell (p := ⟨w.heap.size + 1 + 1, 3, none⟩) (by simp; omega) (.int .i64 uid)
  replace R0 := R0.set (g := w.heap.size + 1 + 1) (i := 3) (x := .int .i64 uid) (.inl (by omega))
  replace R1 := R1.set (g := w.heap.size + 1 + 1) (i := 3) (x := .int .i64 uid) (.inl (by omega))
  replace kA := box_other (i := 3) (v := .int .i64 uid) kA (show w.heap.size ≠ w.heap.size + 1 + 1 by omega)
  replace kR := box_other (i := 3) (v := .int .i64 uid) kR (show w.heap.size + 1 ≠ w.heap.size + 1 + 1 by omega)
  replace kO : (World.setCell _ _ _).heap[w.heap.size + 1 + 1]? = some (Obj.cells #[.int .i64 k, .slice x0 m0 y0, .slice x1 m1 y1, .int .i64 uid, .int .i64 0, .int .i64 0, .int .i64 0, .slice none 0 0] 29) := box_set (i := 3) (v := .int .i64 uid) kO
  replace X := X.setCell (p := ⟨w.heap.size + 1 + 1, 4, none⟩) (by simp; omega) (.int .i64 mode)
  replace R0 := R0.set (g := w.heap.size + 1 + 1) (i := 4) (x := .int .i64 mode) (.inl (by omega))
  replace R1 := R1.set (g := w.heap.size + 1 + 1) (i := 4) (x := .int .i64 mode) (.inl (by omega))
  replace kA := box_other (i := 4) (v := .int .i64 mode) kA (show w.heap.size ≠ w.heap.size + 1 + 1 by omega)
  replace kR := box_other (i := 4) (v := .int .i64 mode) kR (show w.heap.size + 1 ≠ w.heap.size + 1 + 1 by omega)
  replace kO : (World.setCell _ _ _).heap[w.heap.size + 1 + 1]? = some (Obj.cells #[.int .i64 k, .slice x0 m0 y0, .slice x1 m1 y1, .int .i64 uid, .int .i64 mode, .int .i64 0, .int .i64 0, .slice none 0 0] 29) := box_set (i := 4) (v := .int .i64 mode) kO
  replace X := X.setCell (p := ⟨w.heap.size + 1 + 1, 5, none⟩) (by simp; omega) (.int .i64 fl)
  replace R0 := R0.set (g := w.heap.size + 1 + 1) (i := 5) (x := .int .i64 fl) (.inl (by omega))
  replace R1 := R1.set (g := w.heap.size + 1 + 1) (i := 5) (x := .int .i64 fl) (.inl (by omega))
  replace kA := box_other (i := 5) (v := .int .i64 fl) kA (show w.heap.size ≠ w.heap.size + 1 + 1 by omega)
  replace kR := box_other (i := 5) (v := .int .i64 fl) kR (show w.heap.size + 1 ≠ w.heap.size + 1 + 1 by omega)
  replace kO : (World.setCell _ _ _).heap[w.heap.size + 1 + 1]? = some (Obj.cells #[.int .i64 k, .slice x0 m0 y0, .slice x1 m1 y1, .int .i64 uid, .int .i64 mode, .int .i64 fl, .int .i64 0, .slice none 0 0] 29) := box_set (i := 5) (v := .int .i64 fl) kO
  replace X := X.setCell (p := ⟨w.heap.size + 1 + 1, 6, none⟩) (by simp; omega) (.int .i64 si)
  replace R0 := R0.set (g := w.heap.size + 1 + 1) (i := 6) (x := .int .i64 si) (.inl (by omega))
  replace R1 := R1.set (g := w.heap.size + 1 + 1) (i := 6) (x := .int .i64 si) (.inl (by omega))
  replace kA := box_other (i := 6) (v := .int .i64 si) kA (show w.heap.size ≠ w.heap.size + 1 + 1 by omega)
  replace kR := box_other (i := 6) (v := .int .i64 si) kR (show w.heap.size + 1 ≠ w.heap.size + 1 + 1 by omega)
  replace kO : (World.setCell _ _ _).heap[w.heap.size + 1 + 1]? = some (Obj.cells #[.int .i64 k, .slice x0 m0 y0, .slice x1 m1 y1, .int .i64 uid, .int .i64 mode, .int .i64 fl, .int .i64 si, .slice none 0 0] 29) := box_set (i := 6) (v := .int .i64 si) kO
  refine (toByteS_r _ tx _ (H0.out _ X).2.2 h2).mono ?_
  rintro e w3 ⟨u2, rfl, R2, B⟩
  obtain ⟨x2, m2, y2, rfl⟩ := R2.bs.form3
  simp only [box_size] at R2
  have s3 : w2.heap.size ≤ w3.heap.size := by have := B.size; simpa only [box_size] using this
  replace X := Below.step X B
  replace R0 := R0.below B
  replace R1 := R1.below B
  replace kA := box_below B kA
  replace kR := box_below B kR
  replace kO := box_below B kO
  clear B
  obtain ⟨-, -, -, -, -, -, -, -⟩ := box8 kA
  obtain ⟨oz, ol⟩ := box8z kO
  obtain ⟨o0, o1, o2, o3, o4, o5, o6, o7⟩ := box8 kO
  obtain ⟨rz, rl⟩ := box8z kR
  obtain ⟨r0, r1, r2, r3, r4, r5, r6, r7⟩ := box8 kR
  go_wp2
  refine bodyPost_ret (v := .agg #[.int .i64 k, .slice x0 m0 y0, .slice x1 m1 y1, .int .i64 uid, .int .i64 mode, .int .i64 fl, .int .i64 si, .slice x2 m2 y2]) (by simp [results, Try.results12, go_sem, r0, r1, r2, r3, r4, r5, r6, r7]) rfl ⟨_, rfl, ?_, ?_⟩
  · simp only [box_size]
    exact ⟨_, _, _, w1.heap.size, w2.heap.size, rfl, ((((((((((R0.set (g := w.heap.size + 1 + 1) (i := 7) (x := .slice x2 m2 y2) (.inl (by omega))).set (g := w.heap.size + 1) (i := 0) (x := .int .i64 k) (.inl (by omega))).set (g := w.heap.size + 1) (i := 1) (x := .slice x0 m0 y0) (.inl (by omega))).set (g := w.heap.size + 1) (i := 2) (x := .slice x1 m1 y1) (.inl (by omega))).set (g := w.heap.size + 1) (i := 3) (x := .int .i64 uid) (.inl (by omega))).set (g := w.heap.size + 1) (i := 4) (x := .int .i64 mode) (.inl (by omega))).set (g := w.heap.size + 1) (i := 5) (x := .int .i64 fl) (.inl (by omega))).set (g := w.heap.size + 1) (i := 6) (x := .int .i64 si) (.inl (by omega))).set (g := w.heap.size + 1) (i := 7) (x := .slice x2 m2 y2) (.inl (by omega)))).wide (by omega) (Nat.le_refl _), (((((((((R1.set (g := w.heap.size + 1 + 1) (i := 7) (x := .slice x2 m2 y2) (.inl (by omega))).set (g := w.heap.size + 1) (i := 0) (x := .int .i64 k) (.inl (by omega))).set (g := w.heap.size + 1) (i := 1) (x := .slice x0 m0 y0) (.inl (by omega))).set (g := w.heap.size + 1) (i := 2) (x := .slice x1 m1 y1) (.inl (by omega))).set (g := w.heap.size + 1) (i := 3) (x := .int .i64 uid) (.inl (by omega))).set (g := w.heap.size + 1) (i := 4) (x := .int .i64 mode) (.inl (by omega))).set (g := w.heap.size + 1) (i := 5) (x := .int .i64 fl) (.inl (by omega))).set (g := w.heap.size + 1) (i := 6) (x := .int .i64 si) (.inl (by omega))).set (g := w.heap.size + 1) (i := 7) (x := .slice x2 m2 y2) (.inl (by omega))), (((((((((R2.set (g := w.heap.size + 1 + 1) (i := 7) (x := .slice x2 m2 y2) (.inl (by omega))).set (g := w.heap.size + 1) (i := 0) (x := .int .i64 k) (.inl (by omega))).set (g := w.heap.size + 1) (i := 1) (x := .slice x0 m0 y0) (.inl (by omega))).set (g := w.heap.size + 1) (i := 2) (x := .slice x1 m1 y1) (.inl (by omega))).set (g := w.heap.size + 1) (i := 3) (x := .int .i64 uid) (.inl (by omega))).set (g := w.heap.size + 1) (i := 4) (x := .int .i64 mode) (.inl (by omega))).set (g := w.heap.size + 1) (i := 5) (x := .int .i64 fl) (.inl (by omega))).set (g := w.heap.size + 1) (i := 6) (x := .int .i64 si) (.inl (by omega))).set (g := w.heap.size + 1) (i := 7) (x := .slice x2 m2 y2) (.inl (by omega))), by omega, by omega, by omega, HI.out⟩
  · exact (((((((((X.setCell (p := ⟨w.heap.size + 1 + 1, 7, none⟩) (by simp <;> omega) (.slice x2 m2 y2)).setCell (p := ⟨w.heap.size + 1, 0, none⟩) (by simp <;> omega) (.int .i64 k)).setCell (p := ⟨w.heap.size + 1, 1, none⟩) (by simp <;> omega) (.slice x0 m0 y0)).setCell (p := ⟨w.heap.size + 1, 2, none⟩) (by simp <;> omega) (.slice x1 m1 y1)).setCell (p := ⟨w.heap.size + 1, 3, none⟩) (by simp <;> omega) (.int .i64 uid)).setCell (p := ⟨w.heap.size + 1, 4, none⟩) (by simp <;> omega) (.int .i64 mode)).setCell (p := ⟨w.heap.size + 1, 5, none⟩) (by simp <;> omega) (.int .i64 fl)).setCell (p := ⟨w.heap.size + 1, 6, none⟩) (by simp <;> omega) (.int .i64 si)).setCell (p := ⟨w.heap.size + 1, 7, none⟩) (by simp <;> omega) (.slice x2 m2 y2))

set_option maxRecDepth 100000 in
set_option maxHeartbeats 1000000 in
theorem eqCmd_yes (v u : Value) (k : Int) (bx tt : List Int) (uid mode fl si : Int) (tx : List Int) (w : World) (hv : CmdV w v k bx tt uid mode fl si tx) (hu : CmdV w u k bx tt uid mode fl si tx) :
    Calls Try.prog 15 #[v, u] w fun e w' => e = .returned (.bool true) ∧ Below w.heap.size w w' := by
  obtain ⟨u0, u1, u2, rfl, g0, g1, g2, i0, i1, i2, i3, i4⟩ := hv
  obtain ⟨v0, v1, v2, rfl, g3, g4, g5, -⟩ := hu
  have H0 : Hid (∀ wi, Below w.heap.size w wi → (Bs wi u0 bx ∧ Bs wi v0 bx) ∧ (Bs wi u1 tt ∧ Bs wi v1 tt) ∧ (Bs wi u2 tx ∧ Bs wi v2 tx)) := fun wi h => ⟨⟨g0.below h, g3.below h⟩, ⟨g1.below h, g4.below h⟩, ⟨g2.below h, g5.below h⟩⟩
  obtain ⟨a0, n0, c0, rfl⟩ := g0.form3
  obtain ⟨a1, n1, c1, rfl⟩ := g1.form3
  obtain ⟨a2, n2, c2, rfl⟩ := g2.form3
  obtain ⟨p0, m0, q0, rfl⟩ := g3.form3
  obtain ⟨p1, m1, q1, rfl⟩ := g4.form3
  obtain ⟨p2, m2, q2, rfl⟩ := g5.form3
  clear g0 g1 g2 g3 g4 g5 i0 i1 i2 i3 i4
  have bx2 := boxes2 w (.cells #[.int .i64 k, .slice a0 n0 c0, .slice a1 n1 c1, .int .i64 uid, .int .i64 mode, .int .i64 fl, .int .i64 si, .slice a2 n2 c2] 29) (.cells #[.int .i64 k, .slice p0 m0 q0, .slice p1 m1 q1, .int .i64 uid, .int .i64 mode, .int .i64 fl, .int .i64 si, .slice p2 m2 q2] 29)
  obtain ⟨kA, kB, X⟩ := bx2
  go_enter Try.func15, Try.ntmps15
  go_wp2_with fail
  refine (eqByteS_yes _ _ bx _ (H0.out _ X).1.1 (H0.out _ X).1.2).mono ?_
  rintro e w1 ⟨rfl, B⟩
  replace X := Below.step X B
  replace kA := box_below B kA
  replace kB := box_below B kB
  clear B
  obtain ⟨f0, f1, f2, f3, f4, f5, f6, f7⟩ := box8 kA
  obtain ⟨d0, d1, d2, d3, d4, d5, d6, d7⟩ := box8 kB
  go_wp2_with fail
  refine (eqByteS_yes _ _ tt _ (H0.out _ X).2.1.1 (H0.out _ X).2.1.2).mono ?_
  rintro e w2 ⟨rfl, B⟩
  clear f0 f1 f2 f3 f4 f5 f6 f7 d0 d1 d2 d3 d4 d5 d6 d7
  replace X := Below.step X B
  replace kA := box_below B kA
  replace kB := box_below B kB
  clear B
  obtain ⟨f0, f1, f2, f3, f4, f5, f6, f7⟩ := box8 kA
  obtain ⟨d0, d1, d2, d3, d4, d5, d6, d7⟩ := box8 kB
  go_wp2_with fail
  refine (eqByteS_yes _ _ tx _ (H0.out _ X).2.2.1 (H0.out _ X).2.2.2).mono ?_
  rintro e w3 ⟨rfl, B⟩
  clear f0 f1 f2 f3 f4 f5 f6 f7 d0 d1 d2 d3 d4 d5 d6 d7
  replace X := Below.step X B
  replace kA := box_below B kA
  replace kB := box_below B kB
  clear B
  obtain ⟨f0, f1, f2, f3, f4, f5, f6, f7⟩ := box8 kA
  obtain ⟨d0, d1, d2, d3, d4, d5, d6, d7⟩ := box8 kB
  go_wp2
  go_ret
  exact ⟨rfl, X⟩

set_option maxRecDepth 100000 in
set_option maxHeartbeats 1000000 in
theorem szCmd_any (v : Value) (k : Int) (bx tt : List Int) (uid mode fl si : Int) (tx : List Int) (left : Int) (w : World) (hv : CmdV w v k bx tt uid mode fl si tx) (h0 : 0 ≤ left) (h1 : left ≤ 4000000) :
    Calls Try.prog 9 #[v, .int .i64 left] w fun e w' => ∃ x : Int, e = .returned (.int .i64 x) ∧ (x = -1 ∨ (0 ≤ x ∧ x + bx.length + tt.length + tx.length = left)) ∧ Below w.heap.size w w' := by
  obtain ⟨u0, u1, u2, rfl, g0, g1, g2, -⟩ := hv
  have HB : Hid (Below w.heap.size w (w.alloc (.cells #[.int .i64 k, u0, u1, .int .i64 uid, .int .i64 mode, .int .i64 fl, .int .i64 si, u2] 24))) := (Below.refl _ _).alloc (Nat.le_refl _) _
  have H0 : Hid (∀ wi, Below w.heap.size w wi → Bs wi u0 bx ∧ Bs wi u1 tt ∧ Bs wi u2 tx) := fun wi h => ⟨g0.below h, g1.below h, g2.below h⟩
  obtain ⟨a0, n0, c0, rfl⟩ := g0.form3
  obtain ⟨a1, n1, c1, rfl⟩ := g1.form3
  obtain ⟨a2, n2, c2, rfl⟩ := g2.form3
  clear g0 g1 g2
  have S0 := szL_or left bx.length
  go_enter Try.func9, Try.ntmps9
  go_wp2_with fail
  refine (szByteS_any _ bx left _ (H0.out _ HB.out).1 h0 h1).mono ?_
  rintro e w1 ⟨rfl, rfl⟩
  generalize szL' left bx.length = x0 at S0
  rcases S0 with rfl | ⟨q0, q1⟩
  · go_wp2
    go_ret
    exact ⟨-1, rfl, .inl rfl, HB.out⟩
  have S1 := szL_or x0 tt.length
  go_wp2_with fail
  refine (szByteS_any _ tt x0 _ (H0.out _ HB.out).2.1 q0 (by omega)).mono ?_
  rintro e w1 ⟨rfl, rfl⟩
  generalize szL' x0 tt.length = x1 at S1
  rcases S1 with rfl | ⟨q2, q3⟩
  · go_wp2
    go_ret
    exact ⟨-1, rfl, .inl rfl, HB.out⟩
  have S2 := szL_or x1 tx.length
  go_wp2_with fail
  refine (szByteS_any _ tx x1 _ (H0.out _ HB.out).2.2 q2 (by omega)).mono ?_
  rintro e w1 ⟨rfl, rfl⟩
  generalize szL' x1 tx.length = x2 at S2
  rcases S2 with rfl | ⟨q4, q5⟩
  · go_wp2
    go_ret
    exact ⟨-1, rfl, .inl rfl, HB.out⟩
  go_wp2
  go_ret
  exact ⟨x2, rfl, .inr ⟨q4, by omega⟩, HB.out⟩

end Go.Proofs.Ytompmicdieebhaa
