/-
  DERIVED. GIVEN WITH THE SEED: THE CARDS: each row of YtifpjdpcmfneaaaGreatDoorRows.lean that lists a variable, with what it lists TIED to the program's text (the seventh form; the later family's looks); each row that meets fmt, with fmt's text TOLD by the authors' own Lean function (tested against real Go, not proved from fmt's source: count such statements apart). THE CARD IS WHAT COUNTS. Prove the row's statement (the work); the ties are given (YtifpjdpcmfneaaaGreatDoorTie.lean); close each card by the builder's one call (the guide's Derived/Test/ToyasCard.lean, 'card_holds'). Laid BY PROGRAM, IN A SANDBOX (cutbox-door.mjs). By AI agents, Wed Nov 11 2026. No macro, syntax, notation, axiom, sorry.
-/
import Derived.Test.YtifpjdpcmfneaaaGreatDoorRows
import GoSem.ClaimSeven
namespace Go.Proofs.YtifpjdpcmfneaaaGreatDoor
namespace Rows

/-- THE TIED CARD OF 'laws.FnExactRecordBytes'. -/
def fnExactRecordBytesCard : Claim7 := { stood := { row := fnExactRecordBytesRow, standIns := [], harness := (true, "3ef0b9faaee28a2d442f6365e8c45f033f5c386dc4244c7fcadde1072ceadec8"), looks := false }, kinds := [], alts := [], laidByText := true, laidKinds := [.data, .data, .data, .sentinel], laidTests := true, laidLooks := .later }
def FnExactRecordBytesCardSaid : Prop := Claim7.holds Tryz.pinned (.plain (OpenSpec.ofChange fnExactRecordBytesSpec)) fnExactRecordBytesCard

/-- THE SECOND FORM's CARD OF 'laws.FnExactRecordBytes'. -/
def fnExactRecordBytesUptoCard : Claim7 := { stood := { row := fnExactRecordBytesUptoRow, standIns := [], harness := (true, "3ef0b9faaee28a2d442f6365e8c45f033f5c386dc4244c7fcadde1072ceadec8"), looks := false }, kinds := [], alts := [], laidByText := true, laidKinds := [.data, .data, .data, .sentinel], laidTests := true, laidLooks := .later }
def FnExactRecordBytesUptoCardSaid : Prop := Claim7.holds Tryz.pinned (.plain (OpenSpec.upto fnExactRecordBytesSpec)) fnExactRecordBytesUptoCard
end Rows
end Go.Proofs.YtifpjdpcmfneaaaGreatDoor
