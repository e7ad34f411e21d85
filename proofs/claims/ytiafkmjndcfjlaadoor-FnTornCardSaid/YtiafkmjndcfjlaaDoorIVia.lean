/- The contract of the function that the method records answers; a piece of code by what it leaves. -/
import Derived.Test.YtiafkmjndcfjlaaDoorIRecs
import Derived.Test.YtiafkmjndcfjlaaDoorJoined
import Derived.Test.YtiafkmjndcfjlaaDoorLibTurn
import Derived.Test.YtiafkmjndcfjlaaDoorLibSet
namespace Go.Proofs.YtiafkmjndcfjlaaDoor
open Go.RowKit Go.Shelf

theorem records_stops (n Bn g : Nat) (w0 w : World) (v0 v1 : Value) (a : List Int) (hn : 1 ≤ n) (ha : a.length ≤ 1000000)
    (hg : w0.heap[g]? = some (.cells #[v0, v1] 24 (0, 0))) (hv : Bs w0 v0 a) (hB0 : Below w0.heap.size w0 w)
    (hBn : w.heap[Bn]? = some (.cells #[.pointer (some ⟨g, 0, none⟩)] 59 (0, 0))) :
    SeqStopsK Fence.wide n Tryd.prog 31 #[.pointer (some ⟨Bn, 0, none⟩)] (encR (w0 := w0)) (KpR w0.heap.size Bn) (fun xs => xs.map recOf = (scanL a).1 ∧ lastOf xs = ((scanL a).2 : Int)) (fun _ => True) a.length w := fun l J Jx W hW hJ _ hY h0 =>
  records1_in n l Bn g w0 v0 v1 a hn ha hg hv J Jx W hJ (Below.step hB0 hW) (box_below hW hBn) hY h0

/-- A piece of code by what it leaves. -/
theorem wpIn_via {F : Fence} {n : Nat} {P : Program} {c : Code} {Q : Exit → Act → World → Prop} {a : Act} {W : World} (R : Act → World → Prop) (ht : ∀ Q' : Exit → Act → World → Prop, (∀ a w, R a w → Q' .normal a w) → c.wpIn F n P Q' a W) (hQ : ∀ a w, R a w → Q .normal a w) : c.wpIn F n P Q a W := ht Q hQ

/-- What a piece of code leaves where it does not panic. -/
def OnlyN (R : Act → World → Prop) : Exit → Act → World → Prop
  | .normal, a, w => R a w
  | _, _, _ => False
theorem wpIn_only {F : Fence} {n : Nat} {P : Program} {c : Code} {Q : Exit → Act → World → Prop} {a : Act} {W : World} (R : Act → World → Prop) (ht : c.wpIn F n P (OnlyN R) a W) (hQ : ∀ a w, R a w → Q .normal a w) : c.wpIn F n P Q a W :=
  wpIn_mono ht fun e a w h => by
    cases e <;> first | exact hQ _ _ h | exact (h : False).elim

end Go.Proofs.YtiafkmjndcfjlaaDoor
