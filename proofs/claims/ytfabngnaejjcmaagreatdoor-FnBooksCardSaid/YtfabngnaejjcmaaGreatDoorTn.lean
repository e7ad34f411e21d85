/- The proof's texts, part 23. -/
import Derived.Test.YtfabngnaejjcmaaGreatDoorTm
namespace Go.Proofs.YtfabngnaejjcmaaGreatDoor
open Go.RowKit
set_option linter.unusedVariables false
set_option linter.unusedSimpArgs false
set_option maxRecDepth 100000
/- What ac3 of package spec does. -/
theorem ac4:(Tryz.f72.body.bind (eO 8)).all (λo=>jH o 11 [0,1,2,3,4,5,6,7,8,9,10] [7,8,10] [9,11] 0)=true:=by kernel_rfl
theorem ac5:(Tryz.f72.body.bind (eO 13)).all (λo=>jH o 11 [0,1,2,3,4,5,6,7,8,9,10] [7,8,10] [9,11] 0)=true:=by kernel_rfl
/-- What changed since a number. -/
def bO (b:aB) (since:Int):aB:=⟨b.name,b.valid,b.next,b.seq,b.ah.filter (λm:aL=>decide (since < m.seq)),b.au.filter (λm:bE=>decide (since < m.seq)),b.lost⟩
theorem ac6 (b:aB) (since:Int):bG (bO b since)<=bG b:=by
 have h1:∀l:List aL,iq (l.filter (λm:aL=>decide (since < m.seq)))<=iq l:=by
  intro l
  induction l with
  | nil=>simp
  | cons x l ih =>
   rw[List.filter_cons]
   split
   ·simp only[iq,List.map_cons,List.sum_cons] at ih ⊢;omega
   ·simp only[iq,List.map_cons,List.sum_cons] at ih ⊢;omega
 have h2:=h1 b.ah;have h3:=List.length_filter_le (λm:bE=>decide (since < m.seq)) b.au;simp only[bG,bO];omega
def Ca:aB:=⟨[],0,0,0,[],[],0⟩
def zn (b:aB) (since:Int):iw:=if since < b.lost then ⟨4,b.lost,Ca,[]⟩ else ⟨0,0,bO b since,[]⟩
end Go.Proofs.YtfabngnaejjcmaaGreatDoor
