/- From what a row reads of an argument to what the walks ask: a log that came in. -/
import Derived.Test.YtiafkmjndcfjlabDoorOpen
import Derived.Test.YtiafkmjndcfjlabDoorLibLog
import Derived.ChangeSame
namespace Go.Proofs.YtiafkmjndcfjlabDoor
open Go.ChangeShapes Go.WideShapes Go.ChangeAt Go.RowKit

/-- One cell that is read as a slice of bytes. -/
theorem open_cell {H : Type} {enc : TypeId × Value → H} {W : World} {base fuel : Nat} {c : Value} {y : DataW H × List MemPlace}
    (h : DataW.trod enc Tryd.prog W base (fun _ => true) true fuel 22 [c] = some y) : ∃ l, Bs W c l := by
  have h' := h
  rcases open_ints Tryd.underlying22 Tryd.underlying5 (by kernel_rfl) h with ⟨hcs, _⟩ | ⟨x, l, c', zs, hcs, _⟩
  · obtain rfl : c = .slice none 0 0 := by simpa using hcs
    exact open_bytes (d := y.1) (p := y.2) ⟨fuel, by simpa [Value.cells] using h'⟩
  · obtain rfl : c = .slice (some x) l c' := by simpa using hcs
    exact open_bytes (d := y.1) (p := y.2) ⟨fuel, by simpa [Value.cells] using h'⟩

/-- A log that came in, as the walks want it. -/
theorem open_log {H : Type} {enc : TypeId × Value → H} {W : World} {base : Nat} {cs : Array Value} {d : DataW H} {p : List MemPlace} (hs : cs.size = 2)
    (h : DataW.Trod enc Tryd.prog W base (fun _ => true) true 24 (.agg cs) d p) : ∃ a b, LogV W (.agg cs) a b := by
  obtain ⟨fuel, hf⟩ := h
  obtain ⟨y0, y1, n, -, -, h0, h1⟩ := trod_struct2 Tryd.underlying24 hf
  obtain ⟨cs⟩ := cs
  match cs, hs with
  | [c0, c1], _ =>
    have e : Tryd.prog.cellsOf 22 = 1 := by kernel_rfl
    simp only [Value.cells, e] at h0 h1
    obtain ⟨a, ha⟩ := open_cell h0
    obtain ⟨b, hb⟩ := open_cell h1
    exact ⟨a, b, c0, c1, rfl, ha, hb⟩

end Go.Proofs.YtiafkmjndcfjlabDoor
