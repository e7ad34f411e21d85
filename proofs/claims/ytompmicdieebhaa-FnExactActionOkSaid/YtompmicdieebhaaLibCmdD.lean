/- Commands as data. -/
import Derived.Test.YtompmicdieebhaaLibCmdR
namespace Go.Proofs.Ytompmicdieebhaa
open Go.RowKit

structure CmdD where
  k : Int
  bx : List Int
  tt : List Int
  uid : Int
  mode : Int
  fl : Int
  si : Int
  tx : List Int
theorem CmdR.set {w : World} {g i B T : Nat} {v x : Value} {k : Int} {bx tt : List Int} {uid mode fl si : Int} {tx : List Int} (h : CmdR w B T v k bx tt uid mode fl si tx) (hd : g < B ∨ T ≤ g) : CmdR (w.setCell ⟨g, i, none⟩ x) B T v k bx tt uid mode fl si tx :=
  let ⟨u0, u1, u2, T0, T1, hv, h0, h1, h2, r0, r1, r2, r⟩ := h; ⟨u0, u1, u2, T0, T1, hv, h0.set (by omega), h1.set (by omega), h2.set (by omega), r0, r1, r2, r⟩

end Go.Proofs.Ytompmicdieebhaa
