/- A struct's fields laid open. -/
import Derived.Test.YtompmicdieebhaaOpen
import Derived.Test.YtompmicdieebhaaLibCmd
import Derived.ChangeSame
import Derived.Deep.Light
namespace Go.Proofs.Ytompmicdieebhaa
open Go.ChangeShapes Go.WideShapes Go.ChangeAt Go.RowKit

/-- One field of a struct that is read; it takes one cell. -/
theorem open_field {H : Type} {enc : TypeId × Value → H} {P : Program} {W : World} {base fuel : Nat} {spare : Nat → Bool} {held : Bool} {t : TypeId} {fs : Array Field} {cs : List Value} {x : DataW H × List MemPlace}
    (ht : P.underlying t = some (.struct fs)) (h : DataW.trod enc P W base spare held fuel t cs = some x) (i : Nat) (ty : TypeId) (off : Nat) (c : Value) (hf : fs[i]?.map (fun f => (f.type, f.offset)) = some (ty, off)) (h1 : P.cellsOf ty = 1) (hc : (cs.drop off).take 1 = [c]) :
    ∃ n y, DataW.trod enc P W base spare held n ty [c] = some y := by
  obtain ⟨f, hf0, hf1⟩ := Option.map_eq_some_iff.1 hf
  simp only [Prod.mk.injEq] at hf1
  obtain ⟨rfl, rfl⟩ := hf1
  obtain ⟨xs, n, _, rfl, hl, hlen, hf'⟩ := DataW.trod_struct ht h
  have := hf' i f (by simpa using hf0)
  rw [h1, hc] at this
  have hi : i < xs.length := by rw [hlen]; exact (Array.getElem?_eq_some_iff.1 hf0).1
  exact ⟨n, xs[i], by rw [this, List.getElem?_eq_getElem hi]⟩

/-- One cell that is read as a slice of bytes. -/
theorem open_cellB {H : Type} {enc : TypeId × Value → H} {W : World} {base fuel : Nat} {c : Value} {y : DataW H × List MemPlace}
    (h : DataW.trod enc Try.prog W base (fun _ => true) true fuel 22 [c] = some y) : ∃ l, Bs W c l := by
  have h' := h
  rcases open_ints Try.underlying22 Try.underlying5 (by kernel_rfl) h with ⟨hcs, _⟩ | ⟨x, l, c', zs, hcs, _⟩
  · obtain rfl : c = .slice none 0 0 := by simpa using hcs
    exact open_bytes (d := y.1) (p := y.2) ⟨fuel, by simpa [Value.cells] using h'⟩
  · obtain rfl : c = .slice (some x) l c' := by simpa using hcs
    exact open_bytes (d := y.1) (p := y.2) ⟨fuel, by simpa [Value.cells] using h'⟩
/-- One cell that is read as a number. -/
theorem open_cellI {H : Type} {enc : TypeId × Value → H} {W : World} {base fuel : Nat} {c : Value} {y : DataW H × List MemPlace}
    (h : DataW.trod enc Try.prog W base (fun _ => true) true fuel 3 [c] = some y) : ∃ n, c = .int .i64 n ∧ I64 n := by
  obtain ⟨n, hc, -, hw⟩ := DataW.trod_int Try.underlying3 h
  exact ⟨n, by simpa using hc, wf_int hw⟩

theorem cellsB : Try.prog.cellsOf 22 = 1 := by kernel_rfl
theorem cellsI : Try.prog.cellsOf 3 = 1 := by kernel_rfl

end Go.Proofs.Ytompmicdieebhaa
