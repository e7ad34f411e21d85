/- Commands of the call's own in memory; blocks of eight cells that are written. -/
import Derived.Test.YtompmicdieebhaaLibCmd
import Derived.Test.YtompmicdieebhaaLibBox
namespace Go.Proofs.Ytompmicdieebhaa
open Go.RowKit

/-- A command of the call's own: its three slices lie one behind the other in blocks from B on and below T. -/
def CmdR (w : World) (B T : Nat) (v : Value) (k : Int) (bx tt : List Int) (uid mode fl si : Int) (tx : List Int) : Prop :=
  ∃ u0 u1 u2 T0 T1, v = .agg #[.int .i64 k, u0, u1, .int .i64 uid, .int .i64 mode, .int .i64 fl, .int .i64 si, u2] ∧ Row w B T0 u0 bx ∧ Row w T0 T1 u1 tt ∧ Row w T1 T u2 tx ∧ B ≤ T0 ∧ T0 ≤ T1 ∧ T1 ≤ T ∧ I64 k ∧ I64 uid ∧ I64 mode ∧ I64 fl ∧ I64 si

section
variable {w w' : World} {B T B' T' : Nat} {x : Value} {k : Int} {bx tt : List Int} {uid mode fl si : Int} {tx : List Int}
theorem CmdR.v (h : CmdR w B T x k bx tt uid mode fl si tx) : CmdV w x k bx tt uid mode fl si tx :=
  let ⟨u0, u1, u2, _, _, hv, h0, h1, h2, _, _, _, r⟩ := h; ⟨u0, u1, u2, hv, h0.bs, h1.bs, h2.bs, r⟩
theorem CmdR.below (h : CmdR w B T x k bx tt uid mode fl si tx) (hb : Below w.heap.size w w') : CmdR w' B T x k bx tt uid mode fl si tx :=
  let ⟨u0, u1, u2, T0, T1, hv, h0, h1, h2, r⟩ := h; ⟨u0, u1, u2, T0, T1, hv, h0.below hb, h1.below hb, h2.below hb, r⟩
theorem CmdR.wide (h : CmdR w B T x k bx tt uid mode fl si tx) (hB : B' ≤ B) (hT : T ≤ T') : CmdR w B' T' x k bx tt uid mode fl si tx :=
  let ⟨u0, u1, u2, T0, T1, hv, h0, h1, h2, r0, r1, r2, r⟩ := h; ⟨u0, u1, u2, T0, T1, hv, h0.wide hB (Nat.le_refl _), h1, h2.wide (Nat.le_refl _) hT, by omega, r1, by omega, r⟩
theorem CmdR.keptW (h : CmdR w B T x k bx tt uid mode fl si tx) (hw : Within B' T' w w') (hd : T ≤ B' ∨ T' ≤ B) : CmdR w' B T x k bx tt uid mode fl si tx :=
  let ⟨u0, u1, u2, T0, T1, hv, h0, h1, h2, r0, r1, r2, r⟩ := h; ⟨u0, u1, u2, T0, T1, hv, h0.keptW hw (by omega), h1.keptW hw (by omega), h2.keptW hw (by omega), r0, r1, r2, r⟩
end

theorem box8l {w : World} {g : Nat} {t : TypeId} {c0 c1 c2 c3 c4 c5 c6 c7 : Value} (h : w.heap[g]? = some (.cells #[c0, c1, c2, c3, c4, c5, c6, c7] t (0, 0))) :
    w.cell? ⟨g, 0, none⟩ = some c0 ∧ w.cell? ⟨g, 1, none⟩ = some c1 ∧ w.cell? ⟨g, 2, none⟩ = some c2 ∧ w.cell? ⟨g, 3, none⟩ = some c3 ∧ w.cell? ⟨g, 4, none⟩ = some c4 ∧ w.cell? ⟨g, 5, none⟩ = some c5 ∧ w.cell? ⟨g, 6, none⟩ = some c6 ∧ w.cell? ⟨g, 7, none⟩ = some c7 ∧ g < w.heap.size := by
  obtain ⟨f0, f1, f2, f3, f4, f5, f6, f7⟩ := box8 h
  exact ⟨f0, f1, f2, f3, f4, f5, f6, f7, lt_of_heap h⟩

/-- A block of eight cells that is written: its marks. -/
theorem box8z {w : World} {g : Nat} {t : TypeId} {cs : Array Value} (h : w.heap[g]? = some (.cells cs t (0, 0))) : (∀ i, w.frozen? ⟨g, i, none⟩ = false) ∧ g < w.heap.size :=
  ⟨fun i => frozen_of_row w g i _ t h, lt_of_heap h⟩
theorem box_set {w : World} {g i : Nat} {t : TypeId} {cs : Array Value} {v : Value} (h : w.heap[g]? = some (.cells cs t (0, 0))) : (w.setCell ⟨g, i, none⟩ v).heap[g]? = some (.cells (cs.setIfInBounds i v) t (0, 0)) := heap_setCell_same w g i _ t v h
theorem box_size {w : World} {g i : Nat} {v : Value} : (w.setCell ⟨g, i, none⟩ v).heap.size = w.heap.size := by simp [World.setCell]

end Go.Proofs.Ytompmicdieebhaa
