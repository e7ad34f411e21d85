/- A field of a struct that takes several cells. -/
import Derived.Test.YtompmicdieebhaaOpenFld
namespace Go.Proofs.Ytompmicdieebhaa
open Go.ChangeShapes Go.WideShapes Go.ChangeAt Go.RowKit

/-- A field of a struct that takes several cells. -/
theorem open_part {H : Type} {enc : TypeId × Value → H} {P : Program} {W : World} {base fuel : Nat} {spare : Nat → Bool} {held : Bool} {t : TypeId} {fs : Array Field} {cs : List Value} {x : DataW H × List MemPlace}
    (ht : P.underlying t = some (.struct fs)) (h : DataW.trod enc P W base spare held fuel t cs = some x) (i : Nat) (ty : TypeId) (off n : Nat) (c : List Value) (hf : fs[i]?.map (fun f => (f.type, f.offset)) = some (ty, off)) (h1 : P.cellsOf ty = n) (hc : (cs.drop off).take n = c) :
    ∃ n y, DataW.trod enc P W base spare held n ty c = some y := by
  obtain ⟨f, hf0, hf1⟩ := Option.map_eq_some_iff.1 hf
  simp only [Prod.mk.injEq] at hf1
  obtain ⟨rfl, rfl⟩ := hf1
  obtain ⟨xs, m, _, rfl, hl, hlen, hf'⟩ := DataW.trod_struct ht h
  have := hf' i f (by simpa using hf0)
  rw [h1, hc] at this
  have hi : i < xs.length := by rw [hlen]; exact (Array.getElem?_eq_some_iff.1 hf0).1
  exact ⟨m, xs[i], by rw [this, List.getElem?_eq_getElem hi]⟩

end Go.Proofs.Ytompmicdieebhaa
