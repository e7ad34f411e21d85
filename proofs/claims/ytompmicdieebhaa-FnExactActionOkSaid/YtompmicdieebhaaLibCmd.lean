/- Commands in memory. -/
import Derived.Test.YtompmicdieebhaaLibLog
namespace Go.Proofs.Ytompmicdieebhaa
open Go.RowKit

def I64 (n : Int) : Prop := -9223372036854775808 ≤ n ∧ n ≤ 9223372036854775807

/-- The value v reads as a command. -/
def CmdV (w : World) (v : Value) (k : Int) (bx tt : List Int) (uid mode fl si : Int) (tx : List Int) : Prop :=
  ∃ u0 u1 u2, v = .agg #[.int .i64 k, u0, u1, .int .i64 uid, .int .i64 mode, .int .i64 fl, .int .i64 si, u2] ∧ Bs w u0 bx ∧ Bs w u1 tt ∧ Bs w u2 tx ∧ I64 k ∧ I64 uid ∧ I64 mode ∧ I64 fl ∧ I64 si
theorem CmdV.below {w w' : World} {v : Value} {k : Int} {bx tt : List Int} {uid mode fl si : Int} {tx : List Int} (h : CmdV w v k bx tt uid mode fl si tx) (hb : Below w.heap.size w w') : CmdV w' v k bx tt uid mode fl si tx :=
  let ⟨u0, u1, u2, hv, h0, h1, h2, r⟩ := h; ⟨u0, u1, u2, hv, h0.below hb, h1.below hb, h2.below hb, r⟩

end Go.Proofs.Ytompmicdieebhaa
