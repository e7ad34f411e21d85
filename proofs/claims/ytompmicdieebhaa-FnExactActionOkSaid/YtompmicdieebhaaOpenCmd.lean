/- From what a row reads of an argument to what the walks ask: a command that came in. -/
import Derived.Test.YtompmicdieebhaaOpenFld
import Derived.Test.YtompmicdieebhaaLibCmd
namespace Go.Proofs.Ytompmicdieebhaa
open Go.ChangeShapes Go.WideShapes Go.ChangeAt Go.RowKit

/-- A command that came in, as the walks want it. -/
theorem open_cmd {H : Type} {enc : TypeId × Value → H} {W : World} {base : Nat} {cs : Array Value} {d : DataW H} {p : List MemPlace} (hs : cs.size = 8)
    (h : DataW.Trod enc Try.prog W base (fun _ => true) true 24 (.agg cs) d p) : ∃ k bx tt uid mode fl si tx, CmdV W (.agg cs) k bx tt uid mode fl si tx := by
  obtain ⟨fuel, hf⟩ := h
  obtain ⟨cs⟩ := cs
  match cs, hs with
  | [c0, c1, c2, c3, c4, c5, c6, c7], _ =>
    have u := Try.underlying24
    obtain ⟨_, _, h0⟩ := open_field u hf 0 3 0 c0 rfl cellsI rfl
    obtain ⟨_, _, h1⟩ := open_field u hf 1 22 1 c1 rfl cellsB rfl
    obtain ⟨_, _, h2⟩ := open_field u hf 2 22 2 c2 rfl cellsB rfl
    obtain ⟨_, _, h3⟩ := open_field u hf 3 3 3 c3 rfl cellsI rfl
    obtain ⟨_, _, h4⟩ := open_field u hf 4 3 4 c4 rfl cellsI rfl
    obtain ⟨_, _, h5⟩ := open_field u hf 5 3 5 c5 rfl cellsI rfl
    obtain ⟨_, _, h6⟩ := open_field u hf 6 3 6 c6 rfl cellsI rfl
    obtain ⟨_, _, h7⟩ := open_field u hf 7 22 7 c7 rfl cellsB rfl
    obtain ⟨k, rfl, i0⟩ := open_cellI h0
    obtain ⟨bx, b1⟩ := open_cellB h1
    obtain ⟨tt, b2⟩ := open_cellB h2
    obtain ⟨uid, rfl, i3⟩ := open_cellI h3
    obtain ⟨mode, rfl, i4⟩ := open_cellI h4
    obtain ⟨fl, rfl, i5⟩ := open_cellI h5
    obtain ⟨si, rfl, i6⟩ := open_cellI h6
    obtain ⟨tx, b7⟩ := open_cellB h7
    exact ⟨k, bx, tt, uid, mode, fl, si, tx, c1, c2, c7, rfl, b1, b2, b7, i0, i3, i4, i5, i6⟩

end Go.Proofs.Ytompmicdieebhaa
