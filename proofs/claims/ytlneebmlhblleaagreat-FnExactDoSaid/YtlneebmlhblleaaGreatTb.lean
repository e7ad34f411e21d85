/- The proof's texts, part 11. -/
import Derived.Test.YtlneebmlhblleaaGreatTa
namespace Go.Proofs.YtlneebmlhblleaaGreat
open Go.RowKit
set_option linter.unusedVariables false
set_option linter.unusedSimpArgs false
set_option maxRecDepth 100000
/- What YX of package spec does. -/
theorem YZ:(Tryz.f61.body.bind (bQ 8)).all (fun o=>dQ o 11 [0,1,2,3,4,5,6,7,8,9,10] [7,8,10] [9,11] 0)=true:=by kernel_rfl
theorem Y0:(Tryz.f61.body.bind (bQ 13)).all (fun o=>dQ o 11 [0,1,2,3,4,5,6,7,8,9,10] [7,8,10] [9,11] 0)=true:=by kernel_rfl
/-- What changed since a number. -/
def cZ (b:aD) (since:Int):aD:=⟨b.name,b.valid,b.next,b.seq,b.ah.filter (fun m:aF=>decide (since < m.seq)),b.au.filter (fun m:bf=>decide (since < m.seq)),b.lost⟩
theorem Y1 (b:aD) (since:Int):bA (cZ b since)≤bA b:=by
 have h1:∀ l:List aF,dG (l.filter (fun m:aF=>decide (since < m.seq)))≤dG l:=by
  intro l
  induction l with
  | nil=>simp
  | cons x l ih =>
   rw [List.filter_cons]
   split
   ·simp only [dG,List.map_cons,List.sum_cons] at ih ⊢;omega
   ·simp only [dG,List.map_cons,List.sum_cons] at ih ⊢;omega
 have h2:=h1 b.ah
 have h3:=List.length_filter_le (fun m:bf=>decide (since < m.seq)) b.au
 simp only [bA,cZ]
 omega
def jQ:aD:=⟨[],0,0,0,[],[],0⟩
def ni (b:aD) (since:Int):cO:=if since < b.lost then ⟨4,b.lost,jQ,[]⟩ else ⟨0,0,cZ b since,[]⟩
end Go.Proofs.YtlneebmlhblleaaGreat
