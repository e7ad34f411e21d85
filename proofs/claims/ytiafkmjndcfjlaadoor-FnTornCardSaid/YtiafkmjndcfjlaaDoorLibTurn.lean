/- Rows and boxes behind the turn of a block that is no cells. -/
import Derived.RangeFuncBox
import Derived.Test.YtiafkmjndcfjlaaDoorLibRows
namespace Go.Proofs.YtiafkmjndcfjlaaDoor
open Go.RowKit

theorem ownsRow_turn {w w' : World} {row : Option Nat} {B n : Nat} {e : TypeId} {v : Value} {xs : List Value} (h : w.ownsRow B e 1 v n xs) (hg : w.grownBy w' row) (hr : ∀ r, row = some r → ∃ o : Obj, w.heap[r]? = some o ∧ o.isCells = false) : w'.ownsRow B e 1 v n xs := by
  refine h.kept hg ?_
  rcases h.2 with ⟨rfl, _⟩ | ⟨g, cap, cur, rfl, _, hgb, _⟩
  · exact .inl rfl
  · refine .inr fun e' => ?_
    obtain ⟨o, ho, hc⟩ := hr g (by simpa [Value.ownBlock] using e'.symm)
    rw [hgb] at ho; cases ho; cases hc
theorem Row.turn {w w' : World} {row : Option Nat} {B T : Nat} {v : Value} {l : List Int} (h : Row w B T v l) (hg : w.grownBy w' row) (hr : ∀ r, row = some r → ∃ o : Obj, w.heap[r]? = some o ∧ o.isCells = false) : Row w' B T v l :=
  ⟨h.1, ownsRow_turn h.2.1 hg hr, h.2.2⟩
theorem RowF.turn {w w' : World} {row : Option Nat} {B T : Nat} {v : Value} {us : List Value} {f : Nat → List Int} (h : RowF w B T v us f) (hg : w.grownBy w' row) (hr : ∀ r, row = some r → ∃ o : Obj, w.heap[r]? = some o ∧ o.isCells = false) : RowF w' B T v us f :=
  ⟨ownsRow_turn h.row hg hr, h.top, fun i u hu => (h.rows i u hu).turn hg hr, h.distinct⟩
theorem RowS.turn {w w' : World} {row : Option Nat} {B T : Nat} {v : Value} {ls : List (List Int)} (h : RowS w B T v ls) (hg : w.grownBy w' row) (hr : ∀ r, row = some r → ∃ o : Obj, w.heap[r]? = some o ∧ o.isCells = false) : RowS w' B T v ls :=
  let ⟨us, e, h⟩ := h; ⟨us, e, h.turn hg hr⟩
theorem boxed_turn {w w' : World} {row : Option Nat} {B : Nat} {t : TypeId} {v : Value} (h : Boxed w B t v) (hg : w.grownBy w' row) (hr : ∀ r, row = some r → ∃ o : Obj, w.heap[r]? = some o ∧ o.isCells = false) : Boxed w' B t v :=
  h.kept hg fun e' => by
    obtain ⟨o, ho, hc⟩ := hr B e'.symm
    rw [show w.heap[B]? = _ from h] at ho; cases ho; cases hc

end Go.Proofs.YtiafkmjndcfjlaaDoor
