/- From what a row reads of an argument to what the walks ask: an action that came in. -/
import Derived.Test.YtompmicdieebhaaOpenCmd
import Derived.Test.YtompmicdieebhaaOpenPart
import Derived.Test.YtompmicdieebhaaLibAct
namespace Go.Proofs.Ytompmicdieebhaa
open Go.ChangeShapes Go.WideShapes Go.ChangeAt Go.RowKit

theorem open_actCells {H : Type} {enc : TypeId × Value → H} {W : World} {base n : Nat} {cs' : List Value} {y : DataW H × List MemPlace} (hl : cs'.length = 12)
    (hf : DataW.trod enc Try.prog W base (fun _ => true) true n 26 cs' = some y) : ∃ r, ActV W (.agg cs'.toArray) r := by
  match cs', hl with
  | [p0, p1, p2, p3, p4, p5, p6, p7, p8, p9, p10, p11], _ =>
    have u := Try.underlying26
    obtain ⟨_, _, h0⟩ := open_field u hf 0 3 0 p0 rfl cellsI rfl
    obtain ⟨_, _, h1⟩ := open_field u hf 1 3 1 p1 rfl cellsI rfl
    obtain ⟨_, _, h2⟩ := open_field u hf 2 3 2 p2 rfl cellsI rfl
    obtain ⟨_, _, h3⟩ := open_field u hf 3 3 3 p3 rfl cellsI rfl
    obtain ⟨_, _, h4⟩ := open_part u hf 4 24 4 8 [p4, p5, p6, p7, p8, p9, p10, p11] rfl (by kernel_rfl) rfl
    obtain ⟨kind, rfl, i0⟩ := open_cellI h0
    obtain ⟨node, rfl, i1⟩ := open_cellI h1
    obtain ⟨ii, rfl, i2⟩ := open_cellI h2
    obtain ⟨user, rfl, i3⟩ := open_cellI h3
    obtain ⟨k, bx, tt, uid, mode, fl, si, tx, hc⟩ := open_cmd (cs := #[p4, p5, p6, p7, p8, p9, p10, p11]) (d := _) (p := _) rfl ⟨_, h4⟩
    have hc' := hc
    obtain ⟨u0, u1, u2, e, -⟩ := hc
    simp only [Value.agg.injEq, Array.mk.injEq, List.cons.injEq, and_true] at e
    obtain ⟨rfl, rfl, rfl, rfl, rfl, rfl, rfl, rfl⟩ := e
    exact ⟨⟨kind, node, ii, user, ⟨k, bx, tt, uid, mode, fl, si, tx⟩⟩, _, _, _, rfl, hc', i0, i1, i2, i3⟩
theorem open_action {H : Type} {enc : TypeId × Value → H} {W : World} {base : Nat} {cs : Array Value} {d : DataW H} {p : List MemPlace} (hs : cs.size = 12)
    (h : DataW.Trod enc Try.prog W base (fun _ => true) true 26 (.agg cs) d p) : ∃ r, ActV W (.agg cs) r := by
  obtain ⟨fuel, hf⟩ := h
  obtain ⟨cs⟩ := cs
  exact open_actCells (cs' := cs) (by simpa using hs) hf

end Go.Proofs.Ytompmicdieebhaa
