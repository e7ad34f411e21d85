/-
  DERIVED. GIVEN WITH THE SEED: THE CARDS: each row of YtlegmiaoablcgaaDoorRows.lean that lists a variable, with what it lists TIED to the program's text (the seventh form; the later family's looks); each row that meets fmt, with fmt's text TOLD by the authors' own Lean function (tested against real Go, not proved from fmt's source: count such statements apart). THE CARD IS WHAT COUNTS. Prove the row's statement (the work); the ties are given (YtlegmiaoablcgaaDoorTie.lean); close each card by the builder's one call (the guide's Derived/Test/ToyasCard.lean, 'card_holds'). Laid BY PROGRAM, IN A SANDBOX (cutbox-door.mjs). By AI agents, Wed Nov 11 2026. No macro, syntax, notation, axiom, sorry.
-/
import Derived.Test.YtlegmiaoablcgaaDoorRows
import GoSem.ClaimSeven
namespace Go.Proofs.YtlegmiaoablcgaaDoor
namespace Rows

/-- THE TIED CARD OF 'laws.FnBlanks'. -/
def fnBlanksCard : Claim7 := { stood := { row := fnBlanksRow, standIns := [], harness := (true, "21d9838fddaca4e9cde9d13607095c58ff409a3d8fc7b1dc3821858cca981db2"), looks := true }, kinds := [], alts := [], laidByText := true, laidKinds := [.data, .data, .data, .sentinel, .sentinel, .sentinel], laidTests := true, laidLooks := .later }
def FnBlanksCardSaid : Prop := Claim7.holds Tryd.pinned (.plain (OpenSpec.ofChange fnBlanksSpec)) fnBlanksCard

/-- THE TIED CARD OF 'laws.FnExactCmdRead'. -/
def fnExactCmdReadCard : Claim7 := { stood := { row := fnExactCmdReadRow, standIns := [], harness := (true, "21d9838fddaca4e9cde9d13607095c58ff409a3d8fc7b1dc3821858cca981db2"), looks := true }, kinds := [], alts := [], laidByText := true, laidKinds := [.data, .data, .data, .sentinel, .sentinel, .sentinel], laidTests := true, laidLooks := .later }
def FnExactCmdReadCardSaid : Prop := Claim7.holds Tryd.pinned (.plain (OpenSpec.ofChange fnExactCmdReadSpec)) fnExactCmdReadCard

/-- THE SECOND FORM's CARD OF 'laws.FnBlanks'. -/
def fnBlanksUptoCard : Claim7 := { stood := { row := fnBlanksUptoRow, standIns := [], harness := (true, "21d9838fddaca4e9cde9d13607095c58ff409a3d8fc7b1dc3821858cca981db2"), looks := true }, kinds := [], alts := [], laidByText := true, laidKinds := [.data, .data, .data, .sentinel, .sentinel, .sentinel], laidTests := true, laidLooks := .later }
def FnBlanksUptoCardSaid : Prop := Claim7.holds Tryd.pinned (.plain (OpenSpec.upto fnBlanksSpec)) fnBlanksUptoCard

/-- THE SECOND FORM's CARD OF 'laws.FnExactCmdRead'. -/
def fnExactCmdReadUptoCard : Claim7 := { stood := { row := fnExactCmdReadUptoRow, standIns := [], harness := (true, "21d9838fddaca4e9cde9d13607095c58ff409a3d8fc7b1dc3821858cca981db2"), looks := true }, kinds := [], alts := [], laidByText := true, laidKinds := [.data, .data, .data, .sentinel, .sentinel, .sentinel], laidTests := true, laidLooks := .later }
def FnExactCmdReadUptoCardSaid : Prop := Claim7.holds Tryd.pinned (.plain (OpenSpec.upto fnExactCmdReadSpec)) fnExactCmdReadUptoCard
end Rows
end Go.Proofs.YtlegmiaoablcgaaDoor
