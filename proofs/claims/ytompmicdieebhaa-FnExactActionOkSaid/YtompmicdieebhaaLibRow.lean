/- Rows of bytes that lie in blocks from B on and below T: so that two of them are seen to be apart. -/
import Derived.Test.YtompmicdieebhaaLibApp
namespace Go.Proofs.Ytompmicdieebhaa
open Go.RowKit

/-- The value v is nil, or lies at the head of a block from B on and below T; its bytes are l. -/
def Row (w : World) (B T : Nat) (v : Value) (l : List Int) : Prop :=
  Oct l ∧ w.ownsRow B 5 1 v l.length (vals l) ∧ ∀ g, v.ownBlock = some g → g < T

theorem OwnB.toRow {w : World} {B : Nat} {v : Value} {l : List Int} (h : OwnB w B v l) : Row w B w.heap.size v l := ⟨h.oct, h.row, fun g hg => (h.row.lt g hg).2⟩
/-- A row whose block is known. -/
theorem Own.toRow {w : World} {g : Nat} {v : Value} {l : List Int} (h : Own w g v l) : Row w g (g + 1) v l := by
  refine ⟨h.1, h.row, fun k hk => ?_⟩
  rcases h.2 with ⟨hv, _⟩ | ⟨cap, cur, hv, _⟩
  · rw [hv] at hk; simp [Value.ownBlock] at hk
  · rw [hv] at hk; simp [Value.ownBlock] at hk; omega
theorem Row.oct {w : World} {B T : Nat} {v : Value} {l : List Int} (h : Row w B T v l) : Oct l := h.1
theorem Row.own {w : World} {B T : Nat} {v : Value} {l : List Int} (h : Row w B T v l) : OwnB w B v l := own_of_row h.1 rfl h.2.1
theorem Row.bs {w : World} {B T : Nat} {v : Value} {l : List Int} (h : Row w B T v l) : Bs w v l := h.own.bs
theorem Row.wide {w : World} {B T B' T' : Nat} {v : Value} {l : List Int} (h : Row w B T v l) (hB : B' ≤ B) (hT : T ≤ T') : Row w B' T' v l := by
  refine ⟨h.1, ⟨h.2.1.1, ?_⟩, fun g hg => Nat.lt_of_lt_of_le (h.2.2 g hg) hT⟩
  rcases h.2.1.2 with hn | ⟨g, cap, cur, hv, hg, r⟩
  · exact .inl hn
  · exact .inr ⟨g, cap, cur, hv, Nat.le_trans hB hg, r⟩
theorem Row.below {w w' : World} {B T : Nat} {v : Value} {l : List Int} (h : Row w B T v l) (hb : Below w.heap.size w w') : Row w' B T v l :=
  ⟨h.1, (h.own.below hb).row, h.2.2⟩
/-- Another row was written. -/
theorem Row.kept {w w' : World} {B T B' T' : Nat} {v u : Value} {l m : List Int} (h : Row w B T v l) (hu : Row w B' T' u m) (hg : w.grownBy w' u.ownBlock) (hd : T ≤ B' ∨ T' ≤ B) : Row w' B T v l := by
  refine ⟨h.1, h.2.1.kept hg ?_, h.2.2⟩
  cases hv : v.ownBlock with
  | none => exact .inl rfl
  | some g =>
    refine .inr fun e => ?_
    have h1 := (h.2.1.lt g hv).1
    have h2 := h.2.2 g hv
    have h3 := (hu.2.1.lt g e.symm).1
    have h4 := hu.2.2 g e.symm
    omega
theorem Row.nil (w : World) (B T : Nat) : Row w B T (.slice none 0 0) [] := ⟨oct_nil, World.ownsRow_nil _ _ _ _, fun g hg => by simp [Value.ownBlock] at hg⟩
/-- What lies below the row's blocks has not turned. -/
theorem Row.wrote {w0 w w' : World} {B T : Nat} {u : Value} {m : List Int} (hu : Row w B T u m) (hg : w.grownBy w' u.ownBlock) (hb : Below w0.heap.size w0 w) (hB : w0.heap.size ≤ B) : Below w0.heap.size w0 w' :=
  hb.grown hg hb.size (fun k hk => Nat.le_trans hB (hu.2.1.lt k hk).1)

/-- A row stays while another block is written. -/
theorem Row.drawn {w w' : World} {g B T : Nat} {v : Value} {l : List Int} (h : Row w B T v l) (hw : w.grownBy w' (some g)) (hd : g < B ∨ T ≤ g) : Row w' B T v l := by
  refine ⟨h.1, h.2.1.kept hw ?_, h.2.2⟩
  cases hv : v.ownBlock with
  | none => exact .inl rfl
  | some k =>
    refine .inr fun e => ?_
    have h1 := (h.2.1.lt k hv).1
    have h2 := h.2.2 k hv
    simp only [Option.some.injEq] at e
    omega
/-- A row stays while a cell of another block is written. -/
theorem Row.set {w : World} {g i B T : Nat} {v x : Value} {l : List Int} (h : Row w B T v l) (hd : g < B ∨ T ≤ g) : Row (w.setCell ⟨g, i, none⟩ x) B T v l :=
  h.drawn (grownBy_setCell (World.grownBy.refl _ _)) hd
theorem below_of_drewN {w w' : World} (h : ∃ n, w' = w.drewN n) : Below w.heap.size w w' := by
  obtain ⟨n, rfl⟩ := h; exact below_drewN n (Below.refl _ _)
theorem Below.step {w w1 w2 : World} (h : Below w.heap.size w w1) (h' : Below w1.heap.size w1 w2) : Below w.heap.size w w2 := h.trans (h'.mono h.size)

end Go.Proofs.Ytompmicdieebhaa
