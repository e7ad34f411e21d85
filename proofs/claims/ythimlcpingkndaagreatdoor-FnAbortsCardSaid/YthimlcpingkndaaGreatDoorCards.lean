/-
  DERIVED. GIVEN WITH THE SEED: THE CARDS: each row of YthimlcpingkndaaGreatDoorRows.lean that lists a variable, with what it lists TIED to the program's text (the seventh form; the later family's looks); each row that meets fmt, with fmt's text TOLD by the authors' own Lean function (tested against real Go, not proved from fmt's source: count such statements apart). THE CARD IS WHAT COUNTS. Prove the row's statement (the work); the ties are given (YthimlcpingkndaaGreatDoorTie.lean); close each card by the builder's one call (the guide's Derived/Test/ToyasCard.lean, 'card_holds'). Laid BY PROGRAM, IN A SANDBOX (cutbox-door.mjs). By AI agents, Wed Nov 11 2026. No macro, syntax, notation, axiom, sorry.
-/
import Derived.Test.YthimlcpingkndaaGreatDoorRows
import GoSem.ClaimSeven
namespace Go.Proofs.YthimlcpingkndaaGreatDoor
namespace Rows

/-- THE TIED CARD OF 'laws.FnAborts'. -/
def fnAbortsCard : Claim7 := { stood := { row := fnAbortsRow, standIns := [], harness := (true, "fe3b9f0ae08a55f4a2ffc8e58921f657434fbbf257d92451c5c5bbd4be8b7ad8"), looks := true }, kinds := [], alts := [], laidByText := true, laidKinds := [.data, .data, .data, .handle, .sentinel, .sentinel, .sentinel, .sentinel], laidTests := true, laidLooks := .later }
def FnAbortsCardSaid : Prop := Claim7.holds Tryz.pinned (.plain (OpenSpec.ofChange fnAbortsSpec)) fnAbortsCard

/-- THE SECOND FORM's CARD OF 'laws.FnAborts'. -/
def fnAbortsUptoCard : Claim7 := { stood := { row := fnAbortsUptoRow, standIns := [], harness := (true, "fe3b9f0ae08a55f4a2ffc8e58921f657434fbbf257d92451c5c5bbd4be8b7ad8"), looks := true }, kinds := [], alts := [], laidByText := true, laidKinds := [.data, .data, .data, .handle, .sentinel, .sentinel, .sentinel, .sentinel], laidTests := true, laidLooks := .later }
def FnAbortsUptoCardSaid : Prop := Claim7.holds Tryz.pinned (.plain (OpenSpec.upto fnAbortsSpec)) fnAbortsUptoCard
end Rows
end Go.Proofs.YthimlcpingkndaaGreatDoor
