/- The proof's texts, part 14. -/
import Derived.Test.YtmglhdkeidhafaaGreatTd
namespace Go.Proofs.YtmglhdkeidhafaaGreat
open Go.RowKit
set_option linter.unusedVariables false
set_option linter.unusedSimpArgs false
set_option maxRecDepth 100000
/- What Xn of package spec does. -/
theorem Xo:(Tryz.f93.body.bind (bR 8)).all (fun o=>dW o 11 [0,1,2,3,4,5,6,7,8,9,10] [7,8,10] [9,11] 0)=true:=by kernel_rfl
theorem Xp:(Tryz.f93.body.bind (bR 13)).all (fun o=>dW o 11 [0,1,2,3,4,5,6,7,8,9,10] [7,8,10] [9,11] 0)=true:=by kernel_rfl
/-- What changed since a number. -/
def dx (b:aA) (since:Int):aA:=⟨b.name,b.valid,b.next,b.seq,b.ah.filter (fun m:aC=>decide (since < m.seq)),b.au.filter (fun m:bB=>decide (since < m.seq)),b.lost⟩
theorem Xq (b:aA) (since:Int):bT (dx b since)≤bT b:=by
 have h1:∀ l:List aC,iB (l.filter (fun m:aC=>decide (since < m.seq)))≤iB l:=by
  intro l
  induction l with
  | nil=>simp
  | cons x l ih =>
   rw [List.filter_cons]
   split
   ·simp only [iB,List.map_cons,List.sum_cons] at ih ⊢;omega
   ·simp only [iB,List.map_cons,List.sum_cons] at ih ⊢;omega
 have h2:=h1 b.ah
 have h3:=List.length_filter_le (fun m:bB=>decide (since < m.seq)) b.au
 simp only [bT,dx]
 omega
def pR:aA:=⟨[],0,0,0,[],[],0⟩
def nD (b:aA) (since:Int):dI:=if since < b.lost then ⟨4,b.lost,pR,[]⟩ else ⟨0,0,dx b since,[]⟩
end Go.Proofs.YtmglhdkeidhafaaGreat
