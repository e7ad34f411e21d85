/- Actions in memory: what they read as, and those of the call's own. -/
import Derived.Test.YtompmicdieebhaaLibCmdD
namespace Go.Proofs.Ytompmicdieebhaa
open Go.RowKit

structure ActD where
  kind : Int
  node : Int
  i : Int
  user : Int
  cmd : CmdD

/-- The value v reads as an action. -/
def ActV (w : World) (v : Value) (r : ActD) : Prop :=
  ∃ u0 u1 u2, v = .agg #[.int .i64 r.kind, .int .i64 r.node, .int .i64 r.i, .int .i64 r.user, .int .i64 r.cmd.k, u0, u1, .int .i64 r.cmd.uid, .int .i64 r.cmd.mode, .int .i64 r.cmd.fl, .int .i64 r.cmd.si, u2] ∧ CmdV w (.agg #[.int .i64 r.cmd.k, u0, u1, .int .i64 r.cmd.uid, .int .i64 r.cmd.mode, .int .i64 r.cmd.fl, .int .i64 r.cmd.si, u2]) r.cmd.k r.cmd.bx r.cmd.tt r.cmd.uid r.cmd.mode r.cmd.fl r.cmd.si r.cmd.tx ∧ I64 r.kind ∧ I64 r.node ∧ I64 r.i ∧ I64 r.user
theorem ActV.below {w w' : World} {v : Value} {r : ActD} (h : ActV w v r) (hb : Below w.heap.size w w') : ActV w' v r :=
  let ⟨u0, u1, u2, h0, h1, i⟩ := h; ⟨u0, u1, u2, h0, h1.below hb, i⟩
/-- An action of the call's own in blocks from B on and below T. -/
def ActR (w : World) (B T : Nat) (v : Value) (r : ActD) : Prop :=
  ∃ u0 u1 u2, v = .agg #[.int .i64 r.kind, .int .i64 r.node, .int .i64 r.i, .int .i64 r.user, .int .i64 r.cmd.k, u0, u1, .int .i64 r.cmd.uid, .int .i64 r.cmd.mode, .int .i64 r.cmd.fl, .int .i64 r.cmd.si, u2] ∧ CmdR w B T (.agg #[.int .i64 r.cmd.k, u0, u1, .int .i64 r.cmd.uid, .int .i64 r.cmd.mode, .int .i64 r.cmd.fl, .int .i64 r.cmd.si, u2]) r.cmd.k r.cmd.bx r.cmd.tt r.cmd.uid r.cmd.mode r.cmd.fl r.cmd.si r.cmd.tx ∧ I64 r.kind ∧ I64 r.node ∧ I64 r.i ∧ I64 r.user
section
variable {w w' : World} {B T B' T' : Nat} {x : Value} {r : ActD}
theorem ActR.v (h : ActR w B T x r) : ActV w x r := let ⟨u0, u1, u2, h0, h1, i⟩ := h; ⟨u0, u1, u2, h0, h1.v, i⟩
theorem ActR.below (h : ActR w B T x r) (hb : Below w.heap.size w w') : ActR w' B T x r := let ⟨u0, u1, u2, h0, h1, i⟩ := h; ⟨u0, u1, u2, h0, h1.below hb, i⟩
theorem ActR.wide (h : ActR w B T x r) (hB : B' ≤ B) (hT : T ≤ T') : ActR w B' T' x r := let ⟨u0, u1, u2, h0, h1, i⟩ := h; ⟨u0, u1, u2, h0, h1.wide hB hT, i⟩
theorem ActR.keptW (h : ActR w B T x r) (hw : Within B' T' w w') (hd : T ≤ B' ∨ T' ≤ B) : ActR w' B T x r := let ⟨u0, u1, u2, h0, h1, i⟩ := h; ⟨u0, u1, u2, h0, h1.keptW hw hd, i⟩
end
theorem bx12 {w : World} {g : Nat} {t : TypeId} {c0 c1 c2 c3 c4 c5 c6 c7 c8 c9 c10 c11 : Value} (h : w.heap[g]? = some (.cells #[c0, c1, c2, c3, c4, c5, c6, c7, c8, c9, c10, c11] t (0, 0))) :
    w.cell? ⟨g, 0, none⟩ = some c0 ∧ w.cell? ⟨g, 1, none⟩ = some c1 ∧ w.cell? ⟨g, 2, none⟩ = some c2 ∧ w.cell? ⟨g, 3, none⟩ = some c3 ∧ w.cell? ⟨g, 4, none⟩ = some c4 ∧ w.cell? ⟨g, 5, none⟩ = some c5 ∧ w.cell? ⟨g, 6, none⟩ = some c6 ∧ w.cell? ⟨g, 7, none⟩ = some c7 ∧ w.cell? ⟨g, 8, none⟩ = some c8 ∧ w.cell? ⟨g, 9, none⟩ = some c9 ∧ w.cell? ⟨g, 10, none⟩ = some c10 ∧ w.cell? ⟨g, 11, none⟩ = some c11 :=
  ⟨by rw [cell_of_row w g 0 _ t (0, 0) h]; rfl, by rw [cell_of_row w g 1 _ t (0, 0) h]; rfl, by rw [cell_of_row w g 2 _ t (0, 0) h]; rfl, by rw [cell_of_row w g 3 _ t (0, 0) h]; rfl, by rw [cell_of_row w g 4 _ t (0, 0) h]; rfl, by rw [cell_of_row w g 5 _ t (0, 0) h]; rfl, by rw [cell_of_row w g 6 _ t (0, 0) h]; rfl, by rw [cell_of_row w g 7 _ t (0, 0) h]; rfl, by rw [cell_of_row w g 8 _ t (0, 0) h]; rfl, by rw [cell_of_row w g 9 _ t (0, 0) h]; rfl, by rw [cell_of_row w g 10 _ t (0, 0) h]; rfl, by rw [cell_of_row w g 11 _ t (0, 0) h]; rfl⟩
theorem box12l {w : World} {g : Nat} {t : TypeId} {c0 c1 c2 c3 c4 c5 c6 c7 c8 c9 c10 c11 : Value} (h : w.heap[g]? = some (.cells #[c0, c1, c2, c3, c4, c5, c6, c7, c8, c9, c10, c11] t (0, 0))) :
    w.cell? ⟨g, 0, none⟩ = some c0 ∧ w.cell? ⟨g, 1, none⟩ = some c1 ∧ w.cell? ⟨g, 2, none⟩ = some c2 ∧ w.cell? ⟨g, 3, none⟩ = some c3 ∧ w.cell? ⟨g, 4, none⟩ = some c4 ∧ w.cell? ⟨g, 5, none⟩ = some c5 ∧ w.cell? ⟨g, 6, none⟩ = some c6 ∧ w.cell? ⟨g, 7, none⟩ = some c7 ∧ w.cell? ⟨g, 8, none⟩ = some c8 ∧ w.cell? ⟨g, 9, none⟩ = some c9 ∧ w.cell? ⟨g, 10, none⟩ = some c10 ∧ w.cell? ⟨g, 11, none⟩ = some c11 ∧ g < w.heap.size := by
  obtain ⟨f0, f1, f2, f3, f4, f5, f6, f7, f8, f9, f10, f11⟩ := bx12 h
  exact ⟨f0, f1, f2, f3, f4, f5, f6, f7, f8, f9, f10, f11, lt_of_heap h⟩

/-- An action's shape laid open. -/
theorem ActV.form {w : World} {v : Value} {r : ActD} (h : ActV w v r) : ∃ a0 n0 c0 a1 n1 c1 a2 n2 c2, v = .agg #[.int .i64 r.kind, .int .i64 r.node, .int .i64 r.i, .int .i64 r.user, .int .i64 r.cmd.k, .slice a0 n0 c0, .slice a1 n1 c1, .int .i64 r.cmd.uid, .int .i64 r.cmd.mode, .int .i64 r.cmd.fl, .int .i64 r.cmd.si, .slice a2 n2 c2] := by
  obtain ⟨u0, u1, u2, rfl, ⟨p0, p1, p2, e, q0, q1, q2, -⟩, -⟩ := h
  simp only [Value.agg.injEq, Array.mk.injEq, List.cons.injEq, and_true, true_and] at e
  obtain ⟨rfl, rfl, rfl⟩ := e
  obtain ⟨a0, n0, c0, rfl⟩ := q0.form3
  obtain ⟨a1, n1, c1, rfl⟩ := q1.form3
  obtain ⟨a2, n2, c2, rfl⟩ := q2.form3
  exact ⟨_, _, _, _, _, _, _, _, _, rfl⟩
/-- An action's parts, at an action whose shape lies open. -/
theorem ActV.parts {w : World} {x0 x1 x2 : Value} {r : ActD} (h : ActV w (.agg #[.int .i64 r.kind, .int .i64 r.node, .int .i64 r.i, .int .i64 r.user, .int .i64 r.cmd.k, x0, x1, .int .i64 r.cmd.uid, .int .i64 r.cmd.mode, .int .i64 r.cmd.fl, .int .i64 r.cmd.si, x2]) r) : CmdV w (.agg #[.int .i64 r.cmd.k, x0, x1, .int .i64 r.cmd.uid, .int .i64 r.cmd.mode, .int .i64 r.cmd.fl, .int .i64 r.cmd.si, x2]) r.cmd.k r.cmd.bx r.cmd.tt r.cmd.uid r.cmd.mode r.cmd.fl r.cmd.si r.cmd.tx ∧ I64 r.kind ∧ I64 r.node ∧ I64 r.i ∧ I64 r.user := by
  obtain ⟨u0, u1, u2, e, h1, i⟩ := h
  simp only [Value.agg.injEq, Array.mk.injEq, List.cons.injEq, and_true, true_and] at e
  obtain ⟨rfl, rfl, rfl⟩ := e
  exact ⟨h1, i⟩

end Go.Proofs.Ytompmicdieebhaa
