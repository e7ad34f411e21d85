/- The proof's texts, part 26. -/
import Derived.Test.YtnlhkgoppjejeaaDoorPart25

/- What l3changes of package spec does. -/
namespace Go.Proofs.YtnlhkgoppjejeaaDoor
open Go.RowKit
set_option maxRecDepth 100000
set_option linter.unusedVariables false
set_option linter.unusedSimpArgs false

theorem tabS_chg8:(Tryd.f74.body.bind (opsAt 8)).all (fun o=>tableS o 11 [0,1,2,3,4,5,6,7,8,9,10] [7,8,10] [9,11] 0)=true:=by kernel_rfl
theorem tabS_chg13:(Tryd.f74.body.bind (opsAt 13)).all (fun o=>tableS o 11 [0,1,2,3,4,5,6,7,8,9,10] [7,8,10] [9,11] 0)=true:=by kernel_rfl
/-- What changed since a number. -/
def chgX (b:BoxD) (since:Int):BoxD:=⟨b.name,b.valid,b.next,b.seq,b.mails.filter (fun m:MailD=>decide (since < m.seq)),b.gones.filter (fun m:GoneD=>decide (since < m.seq)),b.lost⟩
theorem chg_sz (b:BoxD) (since:Int):szX (chgX b since)≤szX b:=by
 have h1:∀ l:List MailD,szM (l.filter (fun m:MailD=>decide (since < m.seq)))≤szM l:=by
  intro l
  induction l with
  | nil=>simp
  | cons x l ih =>
   rw [List.filter_cons]
   split
   ·simp only [szM,List.map_cons,List.sum_cons] at ih ⊢;omega
   ·simp only [szM,List.map_cons,List.sum_cons] at ih ⊢;omega
 have h2:=h1 b.mails
 have h3:=List.length_filter_le (fun m:GoneD=>decide (since < m.seq)) b.gones
 simp only [szX,chgX]
 omega
def zeroX:BoxD:=⟨[],0,0,0,[],[],0⟩
def chgD (b:BoxD) (since:Int):RepD:=if since < b.lost then ⟨4,b.lost,zeroX,[]⟩ else ⟨0,0,chgX b since,[]⟩

end Go.Proofs.YtnlhkgoppjejeaaDoor
