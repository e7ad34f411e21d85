/- One cell of a block is set: the other blocks are as they were. -/
import Derived.Test.YtiafkmjndcfjlaaDoorLibLog
namespace Go.Proofs.YtiafkmjndcfjlaaDoor
open Go.RowKit

theorem within_set1 {w w1 : World} {g i : Nat} {x : Value} (h : Within g (g + 1) w w1) : Within g (g + 1) w (w1.setCell ⟨g, i, none⟩ x) :=
  ⟨h.os, h.tape, h.output, Nat.le_trans h.size (by simp [World.setCell]), fun k hk hd => by
    obtain ⟨o, ho⟩ : ∃ o, w1.heap[k]? = some o := ⟨_, Array.getElem?_eq_getElem (Nat.lt_of_lt_of_le hk h.size)⟩
    have := box_other (k := g) (i := i) (v := x) ho (by omega)
    rw [this, ← ho]
    exact h.block k hk hd⟩

end Go.Proofs.YtiafkmjndcfjlaaDoor
