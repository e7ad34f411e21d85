/-
  DERIVED. GIVEN WITH THE SEED: THE CARDS: each row of YtnlhkgoppjejeaaDoorRows.lean that lists a variable, with what it lists TIED to the program's text (the seventh form; the later family's looks); each row that meets fmt, with fmt's text TOLD by the authors' own Lean function (tested against real Go, not proved from fmt's source: count such statements apart). THE CARD IS WHAT COUNTS. Prove the row's statement (the work); the ties are given (YtnlhkgoppjejeaaDoorTie.lean); close each card by the builder's one call (the guide's Derived/Test/ToyasCard.lean, 'card_holds'). Laid BY PROGRAM, IN A SANDBOX (cutbox-door.mjs). By AI agents, Wed Nov 11 2026. No macro, syntax, notation, axiom, sorry.
-/
import Derived.Test.YtnlhkgoppjejeaaDoorRows
import GoSem.ClaimSeven
namespace Go.Proofs.YtnlhkgoppjejeaaDoor
namespace Rows

/-- THE TIED CARD OF 'laws.FnAccounts'. -/
def fnAccountsCard : Claim7 := { stood := { row := fnAccountsRow, standIns := [], harness := (true, "22763223b9d08ba6456f08c51670e1366d81fe8325c7c79386a8ebc852eb8019"), looks := false }, kinds := [], alts := [], laidByText := true, laidKinds := [.sentinel], laidTests := true, laidLooks := .later }
def FnAccountsCardSaid : Prop := Claim7.holds Tryd.pinned (.plain (OpenSpec.ofChange fnAccountsSpec)) fnAccountsCard

/-- THE SECOND FORM's CARD OF 'laws.FnAccounts'. -/
def fnAccountsUptoCard : Claim7 := { stood := { row := fnAccountsUptoRow, standIns := [], harness := (true, "22763223b9d08ba6456f08c51670e1366d81fe8325c7c79386a8ebc852eb8019"), looks := false }, kinds := [], alts := [], laidByText := true, laidKinds := [.sentinel], laidTests := true, laidLooks := .later }
def FnAccountsUptoCardSaid : Prop := Claim7.holds Tryd.pinned (.plain (OpenSpec.upto fnAccountsSpec)) fnAccountsUptoCard
end Rows
end Go.Proofs.YtnlhkgoppjejeaaDoor
