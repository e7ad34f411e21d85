/- The proof's texts, part 52. -/
import Derived.Test.YtfabngnaejjcmaaGreatDoorT0
import Derived.Test.YtfabngnaejjcmaaGreatDoorRows
import Derived.JoinedOf
namespace Go.Proofs.YtfabngnaejjcmaaGreatDoor
set_option linter.unusedVariables false
set_option maxRecDepth 100000
/- The row of FnBooks: each of its facts by itself. -/
theorem fP {a b:Bool} (ha:a=true) (hb:b=true):(a && b)=true:=by rw[ha,hb];rfl
theorem air:(Rows.fnBooksRow.wf (OpenSpec.ofChange Rows.fnBooksSpec))=true:=by kernel_rfl
theorem ais:(laidOutB Tryz.pinned.checked.prog)=true:=by kernel_rfl
theorem ait:(mapsRowed Tryz.pinned.checked.prog)=true:=by kernel_rfl
theorem aiu:(Tryz.f3.params.all (Tryz.pinned.checked.prog.readableRec ·))=true:=by kernel_rfl
theorem aiv:(namedTie Tryz.pinned.checked.prog Rows.fnBooksRow.named Rows.fnBooksSpec.vars)=true:=by kernel_rfl
theorem aiw:((Rows.fnBooksRow.stops == []))=true:=by kernel_rfl
theorem aix:((Tryz.pinned.checked.prog.stops == []))=true:=by kernel_rfl
theorem aiy:((Rows.fnBooksRow.knobs == []))=true:=by kernel_rfl
theorem aiz:((Tryz.pinned.checked.prog.stopKnobs == []))=true:=by kernel_rfl
theorem aiA:((Rows.fnBooksRow.inPlace == Tryz.pinned.checked.prog.inPlace 3))=true:=by kernel_rfl
theorem aiB:((Rows.fnBooksRow.unfollowed == Tryz.pinned.checked.prog.unfollowed 3))=true:=by kernel_rfl
theorem aiC:((Rows.fnBooksRow.recurses == Tryz.pinned.checked.prog.recurses 3))=true:=by kernel_rfl
theorem aiD:((Rows.fnBooksRow.named == Tryz.pinned.checked.prog.varsNamed 3))=true:=by kernel_rfl
theorem aiE:((Rows.fnBooksRow.maps == (Tryz.f3.params.toList ++ Rows.fnBooksSpec.plain.varTypes Tryz.pinned.checked.prog).any (Tryz.pinned.checked.prog.mapsRec ·)))=true:=by kernel_rfl
theorem aiF:((Rows.fnBooksRow.ifaces == (Tryz.f3.params.toList ++ Rows.fnBooksSpec.plain.varTypes Tryz.pinned.checked.prog).any (Tryz.pinned.checked.prog.ifacesRec ·)))=true:=by kernel_rfl
theorem aiG:((Rows.fnBooksRow.mapsOut == Tryz.pinned.checked.prog.mapsAmong Tryz.f3.resultTypes.toList))=true:=by kernel_rfl
theorem aiH:((Rows.fnBooksRow.loops == (Tryz.f3.params.toList ++ Rows.fnBooksSpec.plain.varTypes Tryz.pinned.checked.prog).any (Tryz.pinned.checked.prog.loopsFrom ·)))=true:=by kernel_rfl
theorem aiI:((Rows.fnBooksRow.wideKeys == (Tryz.f3.params.toList ++ Rows.fnBooksSpec.plain.varTypes Tryz.pinned.checked.prog ++ Tryz.f3.resultTypes.toList).any (Tryz.pinned.checked.prog.wideKeysFrom ·)))=true:=by kernel_rfl
theorem aiJ:(Rows.fnBooksSpec.vars.all (Tryz.pinned.checked.prog.varReadable ·))=true:=by kernel_rfl
theorem aiK:(Tryz.f3.resultTypes.all (λt=>Tryz.pinned.checked.prog.readableRec t && decide (t < Tryz.pinned.checked.prog.types.size)))=true:=by kernel_rfl
theorem aiL:((Rows.fnBooksRow.ifacesOut == Tryz.f3.resultTypes.toList.any (Tryz.pinned.checked.prog.ifacesRec ·)))=true:=by kernel_rfl
theorem aiM:((Rows.fnBooksRow.loopsOut == Tryz.f3.resultTypes.toList.any (Tryz.pinned.checked.prog.loopsFrom ·)))=true:=by kernel_rfl
theorem aiN:((Rows.fnBooksRow.plainKeys == Tryz.pinned.checked.prog.plainKeys))=true:=by kernel_rfl
theorem aiO:(Rows.fnBooksRow.shortTexts.isNone)=true:=by kernel_rfl
theorem aiP:(Tryz.pinned.checked.prog.stopsHeard)=true:=by kernel_rfl
theorem aiQ:(Tryz.pinned.checked.prog.mayEnter)=true:=by kernel_rfl
theorem aiR:((Rows.fnBooksRow.lifted == Tryz.pinned.checked.prog.liftsFinal))=true:=by kernel_rfl
theorem aiS:((Tryz.pinned.checked.prog.make == some Rows.fnBooksRow.make))=true:=by kernel_rfl
theorem aiT:((Rows.fnBooksRow.kinds == (if Rows.fnBooksRow.domain.isEmpty then [] else Tryz.f3.params.toList.map λt=>match Tryz.pinned.checked.prog.underlying t with | some (.int k)=>some k | _=>none)))=true:=by kernel_rfl
theorem aiU:((Rows.fnBooksRow.pinned == Rows.fnBooksRow.pinnedBy))=true:=by kernel_rfl
theorem aiV:((Rows.fnBooksRow.veiled == (Tryz.f3.params.toList ++ Rows.fnBooksSpec.plain.varTypes Tryz.pinned.checked.prog ++ Tryz.f3.resultTypes.toList).any (Tryz.pinned.checked.prog.veiledRec ·)))=true:=by kernel_rfl
theorem aiW:(Rows.fnBooksRow.veiledFits Tryz.pinned.checked.prog Tryz.f3.params.toList (Tryz.f3.params.toList ++ Rows.fnBooksSpec.plain.varTypes Tryz.pinned.checked.prog ++ Tryz.f3.resultTypes.toList))=true:=by kernel_rfl
theorem fnBooks_facts:joinedFacts Tryz.pinned.checked.prog 3 Tryz.f3 Rows.fnBooksSpec Rows.fnBooksRow=true:=(fP (fP (fP (fP (fP (fP (fP (fP (fP (fP (fP (fP (fP (fP (fP (fP (fP (fP (fP (fP (fP (fP (fP (fP (fP (fP (fP (fP (fP (fP (fP air ais) ait) aiu) aiv) aiw) aix) aiy) aiz) aiA) aiB) aiC) aiD) aiE) aiF) aiG) aiH) aiI) aiJ) aiK) aiL) aiM) aiN) aiO) aiP) aiQ) aiR) aiS) aiT) aiU) aiV) aiW)
end Go.Proofs.YtfabngnaejjcmaaGreatDoor
