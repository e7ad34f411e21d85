/- The proof's texts, part 15. -/
import Derived.Test.YthimlcpingkndaaGreatDoorT0
import Derived.Test.YthimlcpingkndaaGreatDoorRows
import Derived.JoinedOf
namespace Go.Proofs.YthimlcpingkndaaGreatDoor
set_option linter.unusedVariables false
set_option maxRecDepth 100000
/- The row of FnAborts: each of its facts by itself. -/
theorem bN {a b:Bool} (ha:a=true) (hb:b=true):(a && b)=true:=by rw[ha,hb];rfl
theorem Bu:(Rows.fnAbortsRow.wf (OpenSpec.ofChange Rows.fnAbortsSpec))=true:=by kernel_rfl
theorem Bv:(laidOutB Tryz.pinned.checked.prog)=true:=by kernel_rfl
theorem Bw:(mapsRowed Tryz.pinned.checked.prog)=true:=by kernel_rfl
theorem Bz:(Tryz.f3.params.all (Tryz.pinned.checked.prog.readableRec ·))=true:=by kernel_rfl
theorem BA:(namedTie Tryz.pinned.checked.prog Rows.fnAbortsRow.named Rows.fnAbortsSpec.vars)=true:=by kernel_rfl
theorem BD:((Rows.fnAbortsRow.stops == []))=true:=by kernel_rfl
theorem BF:((Tryz.pinned.checked.prog.stops == []))=true:=by kernel_rfl
theorem BG:((Rows.fnAbortsRow.knobs == []))=true:=by kernel_rfl
theorem BH:((Tryz.pinned.checked.prog.stopKnobs == []))=true:=by kernel_rfl
theorem BI:((Rows.fnAbortsRow.inPlace == Tryz.pinned.checked.prog.inPlace 3))=true:=by kernel_rfl
theorem BJ:((Rows.fnAbortsRow.unfollowed == Tryz.pinned.checked.prog.unfollowed 3))=true:=by kernel_rfl
theorem BK:((Rows.fnAbortsRow.recurses == Tryz.pinned.checked.prog.recurses 3))=true:=by kernel_rfl
theorem BL:((Rows.fnAbortsRow.named == Tryz.pinned.checked.prog.varsNamed 3))=true:=by kernel_rfl
theorem BM:((Rows.fnAbortsRow.maps == (Tryz.f3.params.toList ++ Rows.fnAbortsSpec.plain.varTypes Tryz.pinned.checked.prog).any (Tryz.pinned.checked.prog.mapsRec ·)))=true:=by kernel_rfl
theorem BN:((Rows.fnAbortsRow.ifaces == (Tryz.f3.params.toList ++ Rows.fnAbortsSpec.plain.varTypes Tryz.pinned.checked.prog).any (Tryz.pinned.checked.prog.ifacesRec ·)))=true:=by kernel_rfl
theorem BO:((Rows.fnAbortsRow.mapsOut == Tryz.pinned.checked.prog.mapsAmong Tryz.f3.resultTypes.toList))=true:=by kernel_rfl
theorem BP:((Rows.fnAbortsRow.loops == (Tryz.f3.params.toList ++ Rows.fnAbortsSpec.plain.varTypes Tryz.pinned.checked.prog).any (Tryz.pinned.checked.prog.loopsFrom ·)))=true:=by kernel_rfl
theorem BQ:((Rows.fnAbortsRow.wideKeys == (Tryz.f3.params.toList ++ Rows.fnAbortsSpec.plain.varTypes Tryz.pinned.checked.prog ++ Tryz.f3.resultTypes.toList).any (Tryz.pinned.checked.prog.wideKeysFrom ·)))=true:=by kernel_rfl
theorem BR:(Rows.fnAbortsSpec.vars.all (Tryz.pinned.checked.prog.varReadable ·))=true:=by kernel_rfl
theorem BS:(Tryz.f3.resultTypes.all (λt=>Tryz.pinned.checked.prog.readableRec t && decide (t < Tryz.pinned.checked.prog.types.size)))=true:=by kernel_rfl
theorem BU:((Rows.fnAbortsRow.ifacesOut == Tryz.f3.resultTypes.toList.any (Tryz.pinned.checked.prog.ifacesRec ·)))=true:=by kernel_rfl
theorem BX:((Rows.fnAbortsRow.loopsOut == Tryz.f3.resultTypes.toList.any (Tryz.pinned.checked.prog.loopsFrom ·)))=true:=by kernel_rfl
theorem BZ:((Rows.fnAbortsRow.plainKeys == Tryz.pinned.checked.prog.plainKeys))=true:=by kernel_rfl
theorem Ca:(Rows.fnAbortsRow.shortTexts.isNone)=true:=by kernel_rfl
theorem Cb:(Tryz.pinned.checked.prog.stopsHeard)=true:=by kernel_rfl
theorem Cc:(Tryz.pinned.checked.prog.mayEnter)=true:=by kernel_rfl
theorem Ce:((Rows.fnAbortsRow.lifted == Tryz.pinned.checked.prog.liftsFinal))=true:=by kernel_rfl
theorem Cg:((Tryz.pinned.checked.prog.make == some Rows.fnAbortsRow.make))=true:=by kernel_rfl
theorem Ch:((Rows.fnAbortsRow.kinds == (if Rows.fnAbortsRow.domain.isEmpty then [] else Tryz.f3.params.toList.map λt=>match Tryz.pinned.checked.prog.underlying t with | some (.int k)=>some k | _=>none)))=true:=by kernel_rfl
theorem Ci:((Rows.fnAbortsRow.pinned == Rows.fnAbortsRow.pinnedBy))=true:=by kernel_rfl
theorem Cj:((Rows.fnAbortsRow.veiled == (Tryz.f3.params.toList ++ Rows.fnAbortsSpec.plain.varTypes Tryz.pinned.checked.prog ++ Tryz.f3.resultTypes.toList).any (Tryz.pinned.checked.prog.veiledRec ·)))=true:=by kernel_rfl
theorem Ck:(Rows.fnAbortsRow.veiledFits Tryz.pinned.checked.prog Tryz.f3.params.toList (Tryz.f3.params.toList ++ Rows.fnAbortsSpec.plain.varTypes Tryz.pinned.checked.prog ++ Tryz.f3.resultTypes.toList))=true:=by kernel_rfl
theorem fnAborts_facts:joinedFacts Tryz.pinned.checked.prog 3 Tryz.f3 Rows.fnAbortsSpec Rows.fnAbortsRow=true:=(bN (bN (bN (bN (bN (bN (bN (bN (bN (bN (bN (bN (bN (bN (bN (bN (bN (bN (bN (bN (bN (bN (bN (bN (bN (bN (bN (bN (bN (bN (bN Bu Bv) Bw) Bz) BA) BD) BF) BG) BH) BI) BJ) BK) BL) BM) BN) BO) BP) BQ) BR) BS) BU) BX) BZ) Ca) Cb) Cc) Ce) Cg) Ch) Ci) Cj) Ck)
end Go.Proofs.YthimlcpingkndaaGreatDoor
