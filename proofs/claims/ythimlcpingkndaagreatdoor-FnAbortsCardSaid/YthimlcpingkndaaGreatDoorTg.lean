/- The proof's texts, part 16. -/
import Derived.Test.YthimlcpingkndaaGreatDoorT0
import Derived.Test.YthimlcpingkndaaGreatDoorRows
import Derived.ChangeSame
import Derived.ChangeVars
import Derived.JoinedOf
import Derived.RowKit
import Derived.RowKitTokens
import Derived.LaidLaws
import Derived.LaidHandle
import Derived.OpenVars
import Derived.Stop.Joined
import Derived.Stop.LaidErr
namespace Go.Proofs.YthimlcpingkndaaGreatDoor
/- A world that meets what the row lays (CR errors, strconv's, its tables, errors' own type). -/
open Go.ChangeShapes Go.WideShapes Go.RowKit Go.Stop
abbrev laidL : List (String × DataW Unit) := [("math/bits.deBruijn32tab", Rows.laid_math_bits_deBruijn32tab), ("math/bits.deBruijn64tab", Rows.laid_math_bits_deBruijn64tab), ("internal/strconv.uint64pow10", Rows.laid_internal_strconv_uint64pow10), ("errors.errorType", Rows.laid_errors_errorType), ("strconv.ErrRange", Rows.laid_strconv_ErrRange), ("strconv.ErrSyntax", Rows.laid_strconv_ErrSyntax), ("loop.example/g00359/impl.errNoRoom", Rows.laid_loop_example_g00359_impl_errNoRoom), ("loop.example/g00359/impl.errGaveUp", Rows.laid_loop_example_g00359_impl_errGaveUp)]
def sM:DataW Unit->Array Value
 | .agg l=>(l.map fun
  | .lit (.int k z)=>Value.int k z
  | _=>undef).toArray
 | _=>#[]
def textOf:DataW Unit->ByteArray
 | .iface _ (.ptr (.agg [.lit (.string l)]))=>⟨(l.map λx=>UInt8.ofNat x.toNat).toArray⟩
 | _=>⟨#[]⟩
noncomputable def low:Nat:=(World.holding Tryz.prog default ⟨#[],#[],[]⟩).heap.size
def iQ (cs:Array Value):Obj->Obj
 | .cells _ t frozen=>.cells cs t frozen
 | o=>o
noncomputable def laidWorld (os:Os):World :=
 let w0:=World.holding Tryz.prog os ⟨#[.cells #[.string (textOf Rows.laid_loop_example_g00359_impl_errGaveUp)] 432,.cells #[.string (textOf Rows.laid_strconv_ErrRange)] 432,.cells #[.string (textOf Rows.laid_strconv_ErrSyntax)] 432,.cells #[.string (textOf Rows.laid_loop_example_g00359_impl_errNoRoom)] 432],#[],[]⟩
 { w0 with heap:=(((((((w0.heap.modify 2 (iQ #[.iface 430 (.pointer (some ⟨low,0,none⟩))])).modify 6 (iQ #[.iface 430 (.pointer (some ⟨low+1,0,none⟩))])).modify 5 (iQ #[.iface 430 (.pointer (some ⟨low+2,0,none⟩))])).modify 1 (iQ #[.iface 430 (.pointer (some ⟨low+3,0,none⟩))])).modify 4 (iQ (sM Rows.laid_internal_strconv_uint64pow10))).modify 7 (iQ (sM Rows.laid_math_bits_deBruijn32tab))).modify 8 (iQ (sM Rows.laid_math_bits_deBruijn64tab))).modify 0 (iQ #[.iface 204 (.agg #[typeHandle Tryz.prog 101])]) }
theorem laid_met (os:Os) (args:Array Value):laidMetH Tryz.prog laidL ((laidWorld os).forCall (λ_ _=>0) ⟨#[],args,[]⟩).memory :=
 laidMetH_of_parts (laidMet_of_run' 200 (by kernel_rfl) (by kernel_rfl)) (by kernel_rfl)
end Go.Proofs.YthimlcpingkndaaGreatDoor
