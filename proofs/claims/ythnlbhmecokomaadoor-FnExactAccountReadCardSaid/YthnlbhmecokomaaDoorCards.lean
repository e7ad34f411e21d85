/-
  DERIVED. GIVEN WITH THE SEED: THE CARDS: each row of YthnlbhmecokomaaDoorRows.lean that lists a variable, with what it lists TIED to the program's text (the seventh form; the later family's looks); each row that meets fmt, with fmt's text TOLD by the authors' own Lean function (tested against real Go, not proved from fmt's source: count such statements apart). THE CARD IS WHAT COUNTS. Prove the row's statement (the work); the ties are given (YthnlbhmecokomaaDoorTie.lean); close each card by the builder's one call (the guide's Derived/Test/ToyasCard.lean, 'card_holds'). Laid BY PROGRAM, IN A SANDBOX (cutbox-door.mjs). By AI agents, Wed Nov 11 2026. No macro, syntax, notation, axiom, sorry.
-/
import Derived.Test.YthnlbhmecokomaaDoorRows
import GoSem.ClaimSeven
namespace Go.Proofs.YthnlbhmecokomaaDoor
namespace Rows

/-- THE TIED CARD OF 'laws.FnExactAccountRead'. -/
def fnExactAccountReadCard : Claim7 := { stood := { row := fnExactAccountReadRow, standIns := [], harness := (true, "25a9741152d7cb529613c741d06b5b608a9172936f82014db341dc2cfaec89b5"), looks := false }, kinds := [], alts := [], laidByText := true, laidKinds := [.sentinel], laidTests := true, laidLooks := .later }
def FnExactAccountReadCardSaid : Prop := Claim7.holds Tryd.pinned (.plain (OpenSpec.ofChange fnExactAccountReadSpec)) fnExactAccountReadCard

/-- THE SECOND FORM's CARD OF 'laws.FnExactAccountRead'. -/
def fnExactAccountReadUptoCard : Claim7 := { stood := { row := fnExactAccountReadUptoRow, standIns := [], harness := (true, "25a9741152d7cb529613c741d06b5b608a9172936f82014db341dc2cfaec89b5"), looks := false }, kinds := [], alts := [], laidByText := true, laidKinds := [.sentinel], laidTests := true, laidLooks := .later }
def FnExactAccountReadUptoCardSaid : Prop := Claim7.holds Tryd.pinned (.plain (OpenSpec.upto fnExactAccountReadSpec)) fnExactAccountReadUptoCard
end Rows
end Go.Proofs.YthnlbhmecokomaaDoor
