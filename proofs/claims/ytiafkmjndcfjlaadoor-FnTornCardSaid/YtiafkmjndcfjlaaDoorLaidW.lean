/- What the laid variable gives a walk; a world that meets it. -/
import Derived.Test.YtiafkmjndcfjlaaDoorOpen
import Derived.Test.YtiafkmjndcfjlaaDoorILogWrite
import Derived.ChangeSame
import Derived.ChangeVars
import Derived.JoinedOf
import Derived.RowKit
import Derived.RowKitTokens
import Derived.LaidLaws
import Derived.LaidHandle
import Derived.Stop.Joined
import Derived.Stop.LaidErr
import Derived.WalkSmall
namespace Go.Proofs.YtiafkmjndcfjlaaDoor
open Go.ChangeShapes Go.WideShapes Go.ChangeAt Go.RowKit Go.Stop

theorem gN : Tryd.prog.globalNamed "loop.example/g00359/impl.errNoRoom" = some 0 := by kernel_rfl
theorem gNType : (Tryd.prog.globals[0]?).map (·.type) = some 50 := by kernel_rfl
theorem cellsE : Tryd.prog.cellsOf 114 = 1 := by kernel_rfl
theorem cellsS : Tryd.prog.cellsOf 9 = 1 := by kernel_rfl
theorem starE : "*" ++ "errors.errorString" = "*errors.errorString" := by decide
theorem rowE (u : TypeId) (h : Tryd.prog.typeName? 3 u = some "*errors.errorString") : u = 89 :=
  typeName_ptr_named (nm := "errors.errorString") (by rw [starE]; kernel_rfl) (by kernel_rfl) (by decide) u (by rw [starE]; exact h)

abbrev laidL : List (String × DataW Unit) := [("loop.example/g00359/impl.errNoRoom", Rows.laid_loop_example_g00359_impl_errNoRoom)]
theorem sent_of_laid {W : World} (h : laidMetH Tryd.prog laidL W) : ∃ ea, W.var? Tryd.prog "loop.example/g00359/impl.errNoRoom" = some #[.iface 89 (.pointer (some ea))] ∧ Sent W ea := by
  have h' : laidMet Tryd.prog laidL W := h
  obtain ⟨ea, s, hv, -⟩ := laid_sentinel h' gN gNType Tryd.underlying50 rowE Tryd.underlying89 Tryd.underlying114 rfl rfl Tryd.underlying9 cellsE cellsS
  exact ⟨ea, hv, by simpa [Sent] using World.var?_cell gN hv 0⟩

abbrev roomS : ByteArray := { data := #[116, 104, 101, 114, 101, 32, 105, 115, 32, 110, 111, 32, 114, 111, 111, 109, 32, 102, 111, 114, 32, 116, 104, 101, 32, 114, 101, 99, 111, 114, 100] }
noncomputable def low : Nat := (World.holding Tryd.prog default ⟨#[], #[], []⟩).heap.size
noncomputable def laidWorld (os : Os) : World :=
  let w0 := World.holding Tryd.prog os ⟨#[.cells #[.string roomS] 114], #[], []⟩
  { w0 with heap := w0.heap.modify 0 fun
      | .cells _ t frozen => .cells #[.iface 89 (.pointer (some ⟨low, 0, none⟩))] t frozen
      | o => o }
theorem laid_met (os : Os) (args : Array Value) : laidMetH Tryd.prog laidL ((laidWorld os).forCall (fun _ _ => 0) ⟨#[], args, []⟩).memory :=
  laidMet_of_run (l := laidL) (ps := [.cell 0 0, .cell low 0]) 8 (by kernel_rfl) (by kernel_rfl) (by kernel_rfl)

end Go.Proofs.YtiafkmjndcfjlaaDoor
