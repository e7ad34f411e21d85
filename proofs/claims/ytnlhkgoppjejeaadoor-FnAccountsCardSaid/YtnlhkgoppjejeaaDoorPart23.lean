/- The proof's texts, part 23. -/
import Derived.Test.YtnlhkgoppjejeaaDoorPart10
import Derived.Test.YtnlhkgoppjejeaaDoorPart2
import Derived.Test.YtnlhkgoppjejeaaDoorPart22
import Derived.Test.YtnlhkgoppjejeaaDoorPart1
import Derived.Test.YtnlhkgoppjejeaaDoorPart12
import Derived.Test.YtnlhkgoppjejeaaDoorPart4
import Derived.Deep.RegionLaw
import Derived.Test.YtnlhkgoppjejeaaDoorPart9

/- Commands as texts, on lists. -/
namespace Go.Proofs.YtnlhkgoppjejeaaDoor
open Go.RowKit

end Go.Proofs.YtnlhkgoppjejeaaDoor

/- What l4kind of package spec does. -/
namespace Go.Proofs.YtnlhkgoppjejeaaDoor
open Go.RowKit
set_option linter.unusedVariables false

end Go.Proofs.YtnlhkgoppjejeaaDoor

/- What the words of a line may be. -/
namespace Go.Proofs.YtnlhkgoppjejeaaDoor
open Go.RowKit

end Go.Proofs.YtnlhkgoppjejeaaDoor

/- A text that grows word by word: what is kept of it. -/
namespace Go.Proofs.YtnlhkgoppjejeaaDoor
open Go.RowKit
set_option linter.unusedVariables false

/-- The text v lies in block g, made behind A; all that A had is as it was. -/
def St (A wx:World) (g:Nat) (v:Value) (L:List Int) (n:Nat):Prop:=A.heap.size≤g∧OwnQ wx g v L∧Below A.heap.size A wx∧0 < L.length∧L.length≤n
theorem St.own {A wx:World} {g:Nat} {v:Value} {L:List Int} {n:Nat} (h:St A wx g v L n):OwnQ wx g v L:=h.2.1
theorem St.old {A wx:World} {g:Nat} {v:Value} {L:List Int} {n:Nat} (h:St A wx g v L n):Below A.heap.size A wx:=h.2.2.1
theorem St.ge {A wx:World} {g:Nat} {v:Value} {L:List Int} {n:Nat} (h:St A wx g v L n):A.heap.size≤g:=h.1
theorem St.lt {A wx:World} {g:Nat} {v:Value} {L:List Int} {n:Nat} (h:St A wx g v L n):g < wx.heap.size:=h.2.1.lt
theorem St.below {A wx w':World} {g:Nat} {v:Value} {L:List Int} {n:Nat} (h:St A wx g v L n) (hb:Below wx.heap.size wx w'):St A w' g v L n:=⟨h.1,h.2.1.below hb,Below.step h.2.2.1 hb,h.2.2.2⟩
/-- A row that was made later than block g lies elsewhere. -/
theorem OwnB.ne {w:World} {B g:Nat} {v:Value} {l:List Int} (h:OwnB w B v l) (hg:g < B):v.ownBlock≠some g:=fun e=>by have:=(h.row.lt g e).1;omega
theorem hidm {p:Prop} (h:p):Hid p:=h
theorem St.made {A wx:World} {g:Nat} {v:Value} {L:List Int} {n:Nat} (h:St A wx g v L n):∀ k,v.ownBlock=some k→A.heap.size≤k:=by
 intro k hk
 obtain ⟨cap,rfl⟩:=h.own.form
 have e:g=k:=by simpa [Value.ownBlock] using hk
 have:=h.ge
 omega
theorem run_convert_str (s:List Int) (w:World):(convert 9 22 (.string (strOfNums s))).run Tryd.prog w=.ok (.slice (some ⟨w.heap.size,0,none⟩) s.length (grownCap w s.length 0 5)) (Lib.bytesWorld w 5 (strOfNums s)):=by
 have h:=Lib.run_convert_string_bytes (P:=Tryd.prog) w 9 22 5 (strOfNums s) Tryd.underlying9 Tryd.underlying22 Tryd.underlying5
 rwa [strOfNums_size] at h

/-- What '[]byte("..")' of a constant answers. -/
theorem lit_conv (W:World) (l:List Int) (hl:Oct l) (hn:l.length≤1000):∃ w',(convert 22 22 (.slice (some ⟨W.heap.size,0,none⟩) l.length l.length)).run Tryd.prog (W.alloc (.cells (vals l).toArray 5))=.ok (.slice (some ⟨W.heap.size,0,none⟩) l.length l.length) w' ∧
  OwnQ w' W.heap.size (.slice (some ⟨W.heap.size,0,none⟩) l.length l.length) l∧Below W.heap.size W w':=by
 have hsh:(W.alloc (.cells (vals l).toArray 5)).shape? W.heap.size=some (5,(vals l).toArray.size):=by
  simp [World.shape?,World.alloc,-World.alloc_eq]
 refine ⟨(W.alloc (.cells (vals l).toArray 5)).freeze ⟨W.heap.size,(vals l).toArray.size,none⟩ 1,?_,⟨hl,l.length,(vals l).toArray,((vals l).toArray.size,(vals l).toArray.size+1),rfl,?_,.inr (by simp [length_vals]),Nat.le_refl _,by unfold maxLen;omega,by simp [length_vals],by simp [List.take_of_length_le,length_vals]⟩,rfl,rfl,rfl,?_,fun k hk=>?_⟩
 ·simp [convert,run_underlying Tryd.underlying22,run_underlying Tryd.underlying5,markStringish,hsh,Result.andThen]
 ·simp [World.freeze,World.alloc,-World.alloc_eq]
  rw [Array.getElem_modify_self]
  simp
 ·simp [World.freeze,World.alloc,-World.alloc_eq]
 ·have h1:W.heap.size≠k:=by omega
  simp [World.freeze,World.alloc,-World.alloc_eq,Array.getElem?_modify,Array.getElem?_push,h1,Ne.symm h1]
end Go.Proofs.YtnlhkgoppjejeaaDoor

/- What l3drawName and l3drawText of package spec do. -/
namespace Go.Proofs.YtnlhkgoppjejeaaDoor
open Go.RowKit
set_option maxRecDepth 100000
set_option linter.unusedVariables false
set_option linter.unusedSimpArgs false

section
variable {w w1 w2 : World} {g : Nat}
theorem gb_below' (h:w.grownBy w1 (some g)) (hb:Below w1.heap.size w1 w2):w.grownBy w2 (some g):=⟨hb.os.trans h.os,hb.tape.trans h.tape,hb.output.trans h.output,Nat.le_trans h.size hb.size,fun k hk hne=>(hb.block k (Nat.lt_of_lt_of_le hk h.size)).trans (h.block k hk hne)⟩
theorem gb_trans' (h:w.grownBy w1 (some g)) (h2:w1.grownBy w2 (some g)):w.grownBy w2 (some g):=⟨h2.os.trans h.os,h2.tape.trans h.tape,h2.output.trans h.output,Nat.le_trans h.size h2.size,fun k hk hne=>(h2.block k (Nat.lt_of_lt_of_le hk h.size) hne).trans (h.block k hk hne)⟩
end
set_option maxRecDepth 100000 in
set_option maxHeartbeats 2000000 in
theorem l3drawName_any (w0 w:World) (g:Nat) (cv:Value) (L:List Int) (hc:Cur w0 w g cv L) :
  Calls Tryd.prog 64 #[.pointer (some ⟨g,0,none⟩)] w fun e w'=>∃ u gq m,e=.returned u∧OwnQ w' gq u m∧w.heap.size≤gq∧nameB m=true∧Cur w0 w' g cv L∧w.grownBy w' (some g):=by
 have AB:Below w.heap.size w (w.alloc (.cells #[.string ⟨#[105,110,98,111,120]⟩,.string ⟨#[115,101,110,116]⟩,.string ⟨#[116,114,97,115,104]⟩,.string ⟨#[97]⟩,.string ⟨#[98]⟩] 9)):=(Below.refl _ _).alloc (Nat.le_refl _) _
 have K0:=box_new w (.cells #[.string ⟨#[105,110,98,111,120]⟩,.string ⟨#[115,101,110,116]⟩,.string ⟨#[116,114,97,115,104]⟩,.string ⟨#[97]⟩,.string ⟨#[98]⟩] 9)
 have hgl:=hc.lt.2
 have hc0:=hc.below AB
 go_enter Tryd.func64,Tryd.ntmps64
 go_wp2_with fail
 refine (l1Below_any w0 _ g cv L 5 hc0 (by omega) (by omega)).mono ?_
 rintro e w1 ⟨x,rfl,hx0,hx1,hc1,hg1⟩
 have K1:w1.heap[w.heap.size]?=_:=(hg1.block w.heap.size (lt_of_heap K0) (by simp;omega)).trans K0
 have hl1:=lt_of_heap K1
 have HC1:Hid (Cur w0 w1 g cv L):=hc1
 have HG1:Hid (w.grownBy w1 (some g)):=gb_trans' (gb_below' (World.grownBy.refl _ _) AB) hg1
 have hs1:=HG1.out.size
 clear hc hc0 hc1 hg1 AB K0
 obtain ⟨j,rfl⟩:=Int.eq_ofNat_of_zero_le hx0
 obtain rfl | rfl | rfl | rfl | rfl:j=0∨j=1∨j=2∨j=3∨j=4:=by omega
 ·have hcell:w1.cell? ⟨w.heap.size,0,none⟩=some (.string ⟨#[105,110,98,111,120]⟩):=by rw [cell_of_row w1 w.heap.size 0 _ _ (0,0) K1];rfl
  have hcv:(convert 9 22 (.string ⟨#[105,110,98,111,120]⟩)).run Tryd.prog w1=.ok (.slice (some ⟨w1.heap.size,0,none⟩) 5 (grownCap w1 5 0 5)) (Lib.bytesWorld w1 5 (strOfNums [105,110,98,111,120])):=run_convert_str [105,110,98,111,120] w1
  obtain ⟨q1,q2⟩:=bytesWorldQ w1 [105,110,98,111,120] (by intro x hx;simp at hx <;> omega) (by decide)
  have HQ:Hid (OwnQ (Lib.bytesWorld w1 5 (strOfNums [105,110,98,111,120])) w1.heap.size (.slice (some ⟨w1.heap.size,0,none⟩) 5 (grownCap w1 5 0 5)) [105,110,98,111,120]∧Below w1.heap.size w1 (Lib.bytesWorld w1 5 (strOfNums [105,110,98,111,120]))):=⟨q1,q2⟩
  clear q1 q2
  generalize Lib.bytesWorld w1 5 (strOfNums [105,110,98,111,120])=w2 at hcv HQ
  go_wp2
  go_ret
  exact ⟨_,w1.heap.size,[105,110,98,111,120],rfl,HQ.out.1,by omega,by decide,HC1.out.below HQ.out.2,gb_below' HG1.out HQ.out.2⟩
 ·have hcell:w1.cell? ⟨w.heap.size,1,none⟩=some (.string ⟨#[115,101,110,116]⟩):=by rw [cell_of_row w1 w.heap.size 1 _ _ (0,0) K1];rfl
  have hcv:(convert 9 22 (.string ⟨#[115,101,110,116]⟩)).run Tryd.prog w1=.ok (.slice (some ⟨w1.heap.size,0,none⟩) 4 (grownCap w1 4 0 5)) (Lib.bytesWorld w1 5 (strOfNums [115,101,110,116])):=run_convert_str [115,101,110,116] w1
  obtain ⟨q1,q2⟩:=bytesWorldQ w1 [115,101,110,116] (by intro x hx;simp at hx <;> omega) (by decide)
  have HQ:Hid (OwnQ (Lib.bytesWorld w1 5 (strOfNums [115,101,110,116])) w1.heap.size (.slice (some ⟨w1.heap.size,0,none⟩) 4 (grownCap w1 4 0 5)) [115,101,110,116]∧Below w1.heap.size w1 (Lib.bytesWorld w1 5 (strOfNums [115,101,110,116]))):=⟨q1,q2⟩
  clear q1 q2
  generalize Lib.bytesWorld w1 5 (strOfNums [115,101,110,116])=w2 at hcv HQ
  go_wp2
  go_ret
  exact ⟨_,w1.heap.size,[115,101,110,116],rfl,HQ.out.1,by omega,by decide,HC1.out.below HQ.out.2,gb_below' HG1.out HQ.out.2⟩
 ·have hcell:w1.cell? ⟨w.heap.size,2,none⟩=some (.string ⟨#[116,114,97,115,104]⟩):=by rw [cell_of_row w1 w.heap.size 2 _ _ (0,0) K1];rfl
  have hcv:(convert 9 22 (.string ⟨#[116,114,97,115,104]⟩)).run Tryd.prog w1=.ok (.slice (some ⟨w1.heap.size,0,none⟩) 5 (grownCap w1 5 0 5)) (Lib.bytesWorld w1 5 (strOfNums [116,114,97,115,104])):=run_convert_str [116,114,97,115,104] w1
  obtain ⟨q1,q2⟩:=bytesWorldQ w1 [116,114,97,115,104] (by intro x hx;simp at hx <;> omega) (by decide)
  have HQ:Hid (OwnQ (Lib.bytesWorld w1 5 (strOfNums [116,114,97,115,104])) w1.heap.size (.slice (some ⟨w1.heap.size,0,none⟩) 5 (grownCap w1 5 0 5)) [116,114,97,115,104]∧Below w1.heap.size w1 (Lib.bytesWorld w1 5 (strOfNums [116,114,97,115,104]))):=⟨q1,q2⟩
  clear q1 q2
  generalize Lib.bytesWorld w1 5 (strOfNums [116,114,97,115,104])=w2 at hcv HQ
  go_wp2
  go_ret
  exact ⟨_,w1.heap.size,[116,114,97,115,104],rfl,HQ.out.1,by omega,by decide,HC1.out.below HQ.out.2,gb_below' HG1.out HQ.out.2⟩
 ·have hcell:w1.cell? ⟨w.heap.size,3,none⟩=some (.string ⟨#[97]⟩):=by rw [cell_of_row w1 w.heap.size 3 _ _ (0,0) K1];rfl
  have hcv:(convert 9 22 (.string ⟨#[97]⟩)).run Tryd.prog w1=.ok (.slice (some ⟨w1.heap.size,0,none⟩) 1 (grownCap w1 1 0 5)) (Lib.bytesWorld w1 5 (strOfNums [97])):=run_convert_str [97] w1
  obtain ⟨q1,q2⟩:=bytesWorldQ w1 [97] (by intro x hx;simp at hx <;> omega) (by decide)
  have HQ:Hid (OwnQ (Lib.bytesWorld w1 5 (strOfNums [97])) w1.heap.size (.slice (some ⟨w1.heap.size,0,none⟩) 1 (grownCap w1 1 0 5)) [97]∧Below w1.heap.size w1 (Lib.bytesWorld w1 5 (strOfNums [97]))):=⟨q1,q2⟩
  clear q1 q2
  generalize Lib.bytesWorld w1 5 (strOfNums [97])=w2 at hcv HQ
  go_wp2
  go_ret
  exact ⟨_,w1.heap.size,[97],rfl,HQ.out.1,by omega,by decide,HC1.out.below HQ.out.2,gb_below' HG1.out HQ.out.2⟩
 ·have hcell:w1.cell? ⟨w.heap.size,4,none⟩=some (.string ⟨#[98]⟩):=by rw [cell_of_row w1 w.heap.size 4 _ _ (0,0) K1];rfl
  have hcv:(convert 9 22 (.string ⟨#[98]⟩)).run Tryd.prog w1=.ok (.slice (some ⟨w1.heap.size,0,none⟩) 1 (grownCap w1 1 0 5)) (Lib.bytesWorld w1 5 (strOfNums [98])):=run_convert_str [98] w1
  obtain ⟨q1,q2⟩:=bytesWorldQ w1 [98] (by intro x hx;simp at hx <;> omega) (by decide)
  have HQ:Hid (OwnQ (Lib.bytesWorld w1 5 (strOfNums [98])) w1.heap.size (.slice (some ⟨w1.heap.size,0,none⟩) 1 (grownCap w1 1 0 5)) [98]∧Below w1.heap.size w1 (Lib.bytesWorld w1 5 (strOfNums [98]))):=⟨q1,q2⟩
  clear q1 q2
  generalize Lib.bytesWorld w1 5 (strOfNums [98])=w2 at hcv HQ
  go_wp2
  go_ret
  exact ⟨_,w1.heap.size,[98],rfl,HQ.out.1,by omega,by decide,HC1.out.below HQ.out.2,gb_below' HG1.out HQ.out.2⟩


set_option maxRecDepth 100000 in
set_option maxHeartbeats 2000000 in
theorem l3drawText_any (w0 w:World) (g:Nat) (cv:Value) (L:List Int) (hc:Cur w0 w g cv L) :
  Calls Tryd.prog 66 #[.pointer (some ⟨g,0,none⟩)] w fun e w'=>∃ u gq m,e=.returned u∧OwnQ w' gq u m∧w.heap.size≤gq∧textB m=true∧Cur w0 w' g cv L∧w.grownBy w' (some g):=by
 have AB:Below w.heap.size w (w.alloc (.cells #[.string ⟨#[104,105]⟩,.string ⟨#[]⟩,.string ⟨#[97,32,98]⟩,.string ⟨#[34,113,34]⟩,.string ⟨#[114,101,58,32,120]⟩,.string ⟨#[92]⟩] 9)):=(Below.refl _ _).alloc (Nat.le_refl _) _
 have K0:=box_new w (.cells #[.string ⟨#[104,105]⟩,.string ⟨#[]⟩,.string ⟨#[97,32,98]⟩,.string ⟨#[34,113,34]⟩,.string ⟨#[114,101,58,32,120]⟩,.string ⟨#[92]⟩] 9)
 have hgl:=hc.lt.2
 have hc0:=hc.below AB
 go_enter Tryd.func66,Tryd.ntmps66
 go_wp2_with fail
 refine (l1Below_any w0 _ g cv L 6 hc0 (by omega) (by omega)).mono ?_
 rintro e w1 ⟨x,rfl,hx0,hx1,hc1,hg1⟩
 have K1:w1.heap[w.heap.size]?=_:=(hg1.block w.heap.size (lt_of_heap K0) (by simp;omega)).trans K0
 have hl1:=lt_of_heap K1
 have HC1:Hid (Cur w0 w1 g cv L):=hc1
 have HG1:Hid (w.grownBy w1 (some g)):=gb_trans' (gb_below' (World.grownBy.refl _ _) AB) hg1
 have hs1:=HG1.out.size
 clear hc hc0 hc1 hg1 AB K0
 obtain ⟨j,rfl⟩:=Int.eq_ofNat_of_zero_le hx0
 obtain rfl | rfl | rfl | rfl | rfl | rfl:j=0∨j=1∨j=2∨j=3∨j=4∨j=5:=by omega
 ·have hcell:w1.cell? ⟨w.heap.size,0,none⟩=some (.string ⟨#[104,105]⟩):=by rw [cell_of_row w1 w.heap.size 0 _ _ (0,0) K1];rfl
  have hcv:(convert 9 22 (.string ⟨#[104,105]⟩)).run Tryd.prog w1=.ok (.slice (some ⟨w1.heap.size,0,none⟩) 2 (grownCap w1 2 0 5)) (Lib.bytesWorld w1 5 (strOfNums [104,105])):=run_convert_str [104,105] w1
  obtain ⟨q1,q2⟩:=bytesWorldQ w1 [104,105] (by intro x hx;simp at hx <;> omega) (by decide)
  have HQ:Hid (OwnQ (Lib.bytesWorld w1 5 (strOfNums [104,105])) w1.heap.size (.slice (some ⟨w1.heap.size,0,none⟩) 2 (grownCap w1 2 0 5)) [104,105]∧Below w1.heap.size w1 (Lib.bytesWorld w1 5 (strOfNums [104,105]))):=⟨q1,q2⟩
  clear q1 q2
  generalize Lib.bytesWorld w1 5 (strOfNums [104,105])=w2 at hcv HQ
  go_wp2
  go_ret
  exact ⟨_,w1.heap.size,[104,105],rfl,HQ.out.1,by omega,by decide,HC1.out.below HQ.out.2,gb_below' HG1.out HQ.out.2⟩
 ·have hcell:w1.cell? ⟨w.heap.size,1,none⟩=some (.string ⟨#[]⟩):=by rw [cell_of_row w1 w.heap.size 1 _ _ (0,0) K1];rfl
  have hcv:(convert 9 22 (.string ⟨#[]⟩)).run Tryd.prog w1=.ok (.slice (some ⟨w1.heap.size,0,none⟩) 0 (grownCap w1 0 0 5)) (Lib.bytesWorld w1 5 (strOfNums [])):=run_convert_str [] w1
  obtain ⟨q1,q2⟩:=bytesWorldQ w1 [] (by intro x hx;simp at hx <;> omega) (by decide)
  have HQ:Hid (OwnQ (Lib.bytesWorld w1 5 (strOfNums [])) w1.heap.size (.slice (some ⟨w1.heap.size,0,none⟩) 0 (grownCap w1 0 0 5)) []∧Below w1.heap.size w1 (Lib.bytesWorld w1 5 (strOfNums []))):=⟨q1,q2⟩
  clear q1 q2
  generalize Lib.bytesWorld w1 5 (strOfNums [])=w2 at hcv HQ
  go_wp2
  go_ret
  exact ⟨_,w1.heap.size,[],rfl,HQ.out.1,by omega,by decide,HC1.out.below HQ.out.2,gb_below' HG1.out HQ.out.2⟩
 ·have hcell:w1.cell? ⟨w.heap.size,2,none⟩=some (.string ⟨#[97,32,98]⟩):=by rw [cell_of_row w1 w.heap.size 2 _ _ (0,0) K1];rfl
  have hcv:(convert 9 22 (.string ⟨#[97,32,98]⟩)).run Tryd.prog w1=.ok (.slice (some ⟨w1.heap.size,0,none⟩) 3 (grownCap w1 3 0 5)) (Lib.bytesWorld w1 5 (strOfNums [97,32,98])):=run_convert_str [97,32,98] w1
  obtain ⟨q1,q2⟩:=bytesWorldQ w1 [97,32,98] (by intro x hx;simp at hx <;> omega) (by decide)
  have HQ:Hid (OwnQ (Lib.bytesWorld w1 5 (strOfNums [97,32,98])) w1.heap.size (.slice (some ⟨w1.heap.size,0,none⟩) 3 (grownCap w1 3 0 5)) [97,32,98]∧Below w1.heap.size w1 (Lib.bytesWorld w1 5 (strOfNums [97,32,98]))):=⟨q1,q2⟩
  clear q1 q2
  generalize Lib.bytesWorld w1 5 (strOfNums [97,32,98])=w2 at hcv HQ
  go_wp2
  go_ret
  exact ⟨_,w1.heap.size,[97,32,98],rfl,HQ.out.1,by omega,by decide,HC1.out.below HQ.out.2,gb_below' HG1.out HQ.out.2⟩
 ·have hcell:w1.cell? ⟨w.heap.size,3,none⟩=some (.string ⟨#[34,113,34]⟩):=by rw [cell_of_row w1 w.heap.size 3 _ _ (0,0) K1];rfl
  have hcv:(convert 9 22 (.string ⟨#[34,113,34]⟩)).run Tryd.prog w1=.ok (.slice (some ⟨w1.heap.size,0,none⟩) 3 (grownCap w1 3 0 5)) (Lib.bytesWorld w1 5 (strOfNums [34,113,34])):=run_convert_str [34,113,34] w1
  obtain ⟨q1,q2⟩:=bytesWorldQ w1 [34,113,34] (by intro x hx;simp at hx <;> omega) (by decide)
  have HQ:Hid (OwnQ (Lib.bytesWorld w1 5 (strOfNums [34,113,34])) w1.heap.size (.slice (some ⟨w1.heap.size,0,none⟩) 3 (grownCap w1 3 0 5)) [34,113,34]∧Below w1.heap.size w1 (Lib.bytesWorld w1 5 (strOfNums [34,113,34]))):=⟨q1,q2⟩
  clear q1 q2
  generalize Lib.bytesWorld w1 5 (strOfNums [34,113,34])=w2 at hcv HQ
  go_wp2
  go_ret
  exact ⟨_,w1.heap.size,[34,113,34],rfl,HQ.out.1,by omega,by decide,HC1.out.below HQ.out.2,gb_below' HG1.out HQ.out.2⟩
 ·have hcell:w1.cell? ⟨w.heap.size,4,none⟩=some (.string ⟨#[114,101,58,32,120]⟩):=by rw [cell_of_row w1 w.heap.size 4 _ _ (0,0) K1];rfl
  have hcv:(convert 9 22 (.string ⟨#[114,101,58,32,120]⟩)).run Tryd.prog w1=.ok (.slice (some ⟨w1.heap.size,0,none⟩) 5 (grownCap w1 5 0 5)) (Lib.bytesWorld w1 5 (strOfNums [114,101,58,32,120])):=run_convert_str [114,101,58,32,120] w1
  obtain ⟨q1,q2⟩:=bytesWorldQ w1 [114,101,58,32,120] (by intro x hx;simp at hx <;> omega) (by decide)
  have HQ:Hid (OwnQ (Lib.bytesWorld w1 5 (strOfNums [114,101,58,32,120])) w1.heap.size (.slice (some ⟨w1.heap.size,0,none⟩) 5 (grownCap w1 5 0 5)) [114,101,58,32,120]∧Below w1.heap.size w1 (Lib.bytesWorld w1 5 (strOfNums [114,101,58,32,120]))):=⟨q1,q2⟩
  clear q1 q2
  generalize Lib.bytesWorld w1 5 (strOfNums [114,101,58,32,120])=w2 at hcv HQ
  go_wp2
  go_ret
  exact ⟨_,w1.heap.size,[114,101,58,32,120],rfl,HQ.out.1,by omega,by decide,HC1.out.below HQ.out.2,gb_below' HG1.out HQ.out.2⟩
 ·have hcell:w1.cell? ⟨w.heap.size,5,none⟩=some (.string ⟨#[92]⟩):=by rw [cell_of_row w1 w.heap.size 5 _ _ (0,0) K1];rfl
  have hcv:(convert 9 22 (.string ⟨#[92]⟩)).run Tryd.prog w1=.ok (.slice (some ⟨w1.heap.size,0,none⟩) 1 (grownCap w1 1 0 5)) (Lib.bytesWorld w1 5 (strOfNums [92])):=run_convert_str [92] w1
  obtain ⟨q1,q2⟩:=bytesWorldQ w1 [92] (by intro x hx;simp at hx <;> omega) (by decide)
  have HQ:Hid (OwnQ (Lib.bytesWorld w1 5 (strOfNums [92])) w1.heap.size (.slice (some ⟨w1.heap.size,0,none⟩) 1 (grownCap w1 1 0 5)) [92]∧Below w1.heap.size w1 (Lib.bytesWorld w1 5 (strOfNums [92]))):=⟨q1,q2⟩
  clear q1 q2
  generalize Lib.bytesWorld w1 5 (strOfNums [92])=w2 at hcv HQ
  go_wp2
  go_ret
  exact ⟨_,w1.heap.size,[92],rfl,HQ.out.1,by omega,by decide,HC1.out.below HQ.out.2,gb_below' HG1.out HQ.out.2⟩


end Go.Proofs.YtnlhkgoppjejeaaDoor

/- What l1PickInt of package spec draws: one of the ints. -/
namespace Go.Proofs.YtnlhkgoppjejeaaDoor
open Go.RowKit
set_option maxRecDepth 100000

/-- Ints from lo to hi in a block of their own. -/
def IntsB (w:World) (v:Value) (g n:Nat) (lo hi:Int):Prop :=
 1≤n∧n≤1000∧∃ k,k≠g∧k < w.heap.size∧v=.slice (some ⟨k,0,none⟩) n n∧∀ i,i < n→∃ x,w.cell? ⟨k,i,none⟩=some (.int .i64 x)∧lo≤x∧x≤hi

set_option maxHeartbeats 400000 in
theorem l1PickInt_b (w0 w:World) (g n:Nat) (cv v:Value) (L:List Int) (lo hi:Int) (hc:Cur w0 w g cv L) (hv:IntsB w v g n lo hi) :
  Calls Tryd.prog 31 #[.pointer (some ⟨g,0,none⟩),v] w fun e w'=>∃ x,e=.returned (.int .i64 x)∧lo≤x∧x≤hi∧Cur w0 w' g cv L∧w.grownBy w' (some g):=by
 obtain ⟨hn,hn1,k,hkg,hks,rfl,hcells⟩:=hv
 go_enter Tryd.func31,Tryd.ntmps31
 go_wp2_with fail
 refine (l1Below_any w0 _ g cv L n hc (by omega) (by omega)).mono ?_
 rintro e w1 ⟨x,rfl,hx0,hx1,hc1,hg1⟩
 obtain ⟨j,rfl⟩:=Int.eq_ofNat_of_zero_le hx0
 obtain ⟨y,hy,hy0,hy1⟩:=hcells j (by omega)
 have hy':w1.cell? ⟨k,j,none⟩=some (.int .i64 y):=hg1.cell hy (by simpa using hkg)
 clear hcells hy
 go_wp2
 go_ret
 exact ⟨_,rfl,hy0,hy1,hc1,hg1⟩
theorem intsB_made (w:World) (g:Nat) (xs:List Int) (t:TypeId) (lo hi:Int) (hg:g < w.heap.size) (h0:1≤xs.length) (h1:xs.length≤1000) (hx:∀ x ∈ xs,lo≤x∧x≤hi) :
  IntsB (w.alloc (.cells (xs.map (Value.int .i64)).toArray t)) (.slice (some ⟨w.heap.size,0,none⟩) xs.length xs.length) g xs.length lo hi:=by
 refine ⟨h0,h1,w.heap.size,by omega,by simp,rfl,fun i hi=>⟨xs[i],?_,hx _ (List.getElem_mem hi)⟩⟩
 rw [cell_of_row _ _ i _ t (0,0) (heap_alloc_new w _)]
 simp [hi]

end Go.Proofs.YtnlhkgoppjejeaaDoor

/- append of bytes as one step of a region that draws its order. -/
namespace Go.Proofs.YtnlhkgoppjejeaaDoor
open Go.RowKit

theorem step_append_bytes {P:Program} {ops:Array Oper} {o:Oper} {a:Act} {w:World} {K:Act→World→Prop} {Q:Exit→Act→World→Prop} {E:Prop} (hgd:o.guard=none) (s x:Operand) (t:TypeId)
  (ho:o.op=.call { callee:=.builtin .append,args:=#[s,x],argTypes:=#[t,t] })
  (i:TypeInfo) (ht:P.underlying t=some (.slice 5)) (hi:P.info? 5=some i) (hz:i.zero=some (.int .u8 0)) (hsize:i.size=1) (hby:i.bytes=1)
  (B:Nat) (v:Value) (l:List Int) (hs:a.eval s=v) (hown:OwnB w B v l) (u:Value) (m:List Int) (hx:a.eval x=u) (hm:Bs w u m)
  (hlen:l.length+m.length≤140737488355328) (hbase:B≤w.heap.size) (w0:World) (hb:Below B w0 w)
  (h:∀ v' w',OwnB w' B v' (l ++ m)→Below B w0 w'→w.grownBy w' v.ownBlock→K (a.put o.dst v') w') :
  if Region.wanted o (yielded ops a.tmps)=true then Oper.wp P o a w K Q else E:=by
 have hw:Region.wanted o (yielded ops a.tmps)=true:=by simp [Region.wanted,hgd]
 rw [if_pos hw]
 obtain ⟨hmo,ad,cap,hu,h1,h2,h3,h4⟩:=hm
 have hr:=hown.row
 cases ad with
 | none =>
  have:cap=0:=h3 rfl
  subst this
  have:m=[]:=List.eq_nil_of_length_eq_zero (by omega)
  subst this
  have hx':a.eval x=.slice none 0 0:=by rw [hx,hu];rfl
  have hrun:=run_append_owned_none (P:=P) (w:=w) B t o.type 5 i 1 ht hi v l.length (vals l) hr
  unfold Oper.wp
  simp [execOp,ho,resolve,invoke,builtin,hs,hx',hrun,Result.andThen]
  exact h v w (by simpa using hown) hb (World.grownBy.refl _ _)
 | some ad =>
  have hl:l.length+m.length≤maxLen:=by unfold maxLen;omega
  refine wp_append_own w s x t ho B 5 i (.int .u8 0) 1 1 ht hi hz hsize hby rfl (by omega) v l.length (vals l) hs hr ad m.length cap (vals m) (by rw [hx,hu]) (by simp [length_vals]) ?_ (oneCell_vals m) hl (by omega) hbase ?_
  ·intro j y hy
   have hj:j < m.length:=by have:=(List.getElem?_eq_some_iff.1 hy).1;simpa [length_vals] using this
   obtain ⟨b,off,had,_,hc⟩:=h4 (by omega)
   cases had
   rw [Addr.add_lit,hc j hj,← hy,vals_get m j hj]
  ·intro v' w' hown' hg _
   obtain ⟨g,hgB,hg'⟩:=own_of_row (n:=l.length+m.length) (oct_append hown.oct hmo) (by simp) (by rw [vals_append];exact hown')
   exact h v' w' ⟨g,hgB,hg'⟩ (hb.grown hg hbase (fun k hk=>(hr.lt k hk).1)) hg

end Go.Proofs.YtnlhkgoppjejeaaDoor

/- What l1spoil of package spec answers. -/
namespace Go.Proofs.YtnlhkgoppjejeaaDoor
open Go.RowKit
set_option maxRecDepth 100000

theorem oct_set {l:List Int} (h:Oct l) (i:Nat) (x:Int) (hx:0≤x∧x≤255):Oct (l.set i x):=by
 intro y hy
 rcases List.mem_or_eq_of_mem_set hy with h' | rfl
 ·exact h y h'
 ·exact hx
/-- A byte of a row that the call owns is written. -/
theorem Own.set {w:World} {gb n cap i:Nat} {l:List Int} {x:Int} (h:Own w gb (.slice (some ⟨gb,0,none⟩) n cap) l) (hx:0≤x∧x≤255) :
  Own (w.setCell ⟨gb,i,none⟩ (.int .u8 x)) gb (.slice (some ⟨gb,0,none⟩) n cap) (l.set i x):=by
 rcases h.2 with ⟨h',_⟩ | ⟨cap',cur,hv,hh,h1,h2,h3,h4⟩
 ·simp at h'
 ·simp only [Value.slice.injEq,true_and] at hv
  obtain ⟨rfl,rfl⟩:=hv
  refine ⟨oct_set h.1 i x hx,.inr ⟨cap,_,by simp,heap_setCell_same w gb i cur _ _ hh,by simpa using h1,h2,by simpa using h3,?_⟩⟩
  rw [Array.toList_setIfInBounds,List.length_set,List.take_set,h4]
  simp [vals,List.map_set]
theorem Own.cut {w:World} {gb n cap:Nat} {l:List Int} (h:Own w gb (.slice (some ⟨gb,0,none⟩) n cap) l) (i:Nat) (hi:i≤l.length) :
  Own w gb (.slice (some ⟨gb,0,none⟩) i cap) (l.take i):=by
 rcases h.2 with ⟨h',_⟩ | ⟨cap',cur,hv,hh,h1,h2,h3,h4⟩
 ·simp at h'
 ·simp only [Value.slice.injEq,true_and] at hv
  obtain ⟨rfl,rfl⟩:=hv
  have hl:(l.take i).length=i:=by simp;omega
  refine ⟨oct_take h.1 i,.inr ⟨cap,cur,by rw [hl],hh,by rw [hl];omega,h2,h3,?_⟩⟩
  rw [hl]
  have:=congrArg (List.take i) h4
  rw [List.take_take,Nat.min_eq_left hi] at this
  rw [this]
  simp [vals,List.map_take]

theorem Cur.set {w0 w:World} {g gb i:Nat} {cv x:Value} {L:List Int} (h:Cur w0 w g cv L) (h1:w0.heap.size≤gb) (hne:g≠gb):Cur w0 (w.setCell ⟨gb,i,none⟩ x) g cv L:=by
 obtain ⟨hg,hB,hbs,j,q,h0,h2,hh⟩:=h
 exact ⟨hg,hB.setCell h1 _,hbs,j,q,h0,h2,(Below.heap_setCell w ⟨gb,i,none⟩ x g hne).trans hh⟩
theorem Cur.drew {w0 w:World} {g:Nat} {cv:Value} {L:List Int} (h:Cur w0 w g cv L):Cur w0 w.drew g cv L :=
 let ⟨hg,hB,hbs,j,q,h0,h2,hh⟩:=h;⟨hg,hB.drew,hbs,j,q,h0,h2,hh⟩
theorem grownBy_new {w w1:World} {r:Option Nat} {gb i:Nat} {x:Value} (h:w.grownBy w1 r) (hg:w.heap.size≤gb):w.grownBy (w1.setCell ⟨gb,i,none⟩ x) r :=
 ⟨h.os,h.tape,h.output,by have:=h.size;simpa [World.setCell] using this,fun k hk hne=>(Below.heap_setCell w1 ⟨gb,i,none⟩ x k (by simp;omega)).trans (h.block k hk hne)⟩
theorem bits_u8 (op:BinOp) (x y:Int):0≤bits op IntKind.u8 x y∧bits op IntKind.u8 x y≤255:=by
 unfold bits
 simp only [IntKind.wrap_u8']
 omega

set_option maxHeartbeats 1000000 in
theorem l1spoil_any (w0 w:World) (g:Nat) (cv v:Value) (L l:List Int) (hc:Cur w0 w g cv L) (hv:Bs w v l) (hl:l.length≤10000) :
  Calls Tryd.prog 29 #[.pointer (some ⟨g,0,none⟩),v] w fun e w'=>∃ u m,e=.returned u∧m.length≤l.length+1∧Row w' w.heap.size w'.heap.size u m∧Cur w0 w' g cv L∧w.grownBy w' (some g):=by
 obtain ⟨i0,hi,hz0,hz1,hz2⟩:=info_parts info5
 obtain ⟨hlt0,hlt1⟩:=hc.lt
 have HE:Hid (OwnB (w.alloc (.cells #[] 5)) w.heap.size (.slice (some ⟨w.heap.size,0,none⟩) 0 0) []):=ownB_empty w _ (Nat.le_refl _)
 have HB:Hid (Below w.heap.size w (w.alloc (.cells #[] 5))):=(Below.refl _ _).alloc (Nat.le_refl _) _
 have HV:Hid (Bs w v l):=hv
 go_enter Tryd.func29,Tryd.ntmps29
 go_wp2_with (at_builtin;refine wpList_append_bytes rfl (.tmp 7) (.tmp 8) 22 rfl i0 Tryd.underlying22 hi hz0 hz1 hz2 w.heap.size _ [] rfl HE.out v l rfl (HV.out.alloc _) (by simp;omega) (by simp) w HB.out ?_)
 intro v1 w1 hO1 hB1 _
 have HO1:Hid (OwnB w1 w.heap.size v1 l):=by simpa [Hid] using hO1
 have HC1:Hid (Cur w0 w1 g cv L∧w.grownBy w1 (some g)):=⟨hc.belowB hB1 hlt1,grown_belowD hB1⟩
 obtain ⟨a1,cap1,rfl⟩:∃ a cap,v1=.slice a l.length cap:=by obtain ⟨_,a,cap,h,_⟩:=HO1.out.bs;exact ⟨a,cap,h⟩
 clear hO1 hB1 hc HE HB
 by_cases h0:l=[]
 ·subst h0
  simp only [List.length_nil] at HO1
  go_wp2_with fail
  refine (l1Byte_any w0 _ g cv L HC1.out.1).mono ?_
  rintro e w2 ⟨y,rfl,hy0,hy1,hc2,hg2⟩
  have HO:Hid (OwnB w2 w.heap.size (.slice a1 0 cap1) []):=HO1.out.drawn hg2 hlt1
  have HG:Hid (w.grownBy w2 (some g)∧Cur w0 w2 g cv L):=⟨grownBy_trans HC1.out.2 hg2,hc2⟩
  have hsz:w.heap.size≤w2.heap.size:=HG.out.1.size
  clear hc2 hg2
  go_wp2_with (at_builtin;refine wpList_append_bytes rfl (.tmp 13) (.tmp 17) 22 rfl i0 Tryd.underlying22 hi hz0 hz1 hz2 w.heap.size _ [] rfl (HO.out.alloc _) _ [y] rfl (bs_one _ _ (by omega)) (by simp) (by simp;omega) _ (Below.refl _ _) ?_)
  intro v3 w3 hO3 hB3 _
  have HR:Hid (Row w3 w.heap.size w3.heap.size v3 [y]∧Cur w0 w3 g cv L∧w.grownBy w3 (some g)) :=
   ⟨hO3.toRow,(HG.out.2.belowB ((Below.refl _ _).alloc hsz _) hlt1).belowB hB3 hlt1,grownBy_belowB HG.out.1 (((Below.refl _ _).alloc hsz _).trans hB3) (Nat.le_refl _)⟩
  clear hO3 hB3
  go_wp2
  go_ret
  exact ⟨_,_,rfl,by simp,HR.out.1,HR.out.2.1,HR.out.2.2⟩
 ·have h1:0 < l.length:=List.length_pos_iff.2 h0
  have h0':((l.length:Int) == 0)=false:=by simp [h0]
  obtain ⟨gb,rfl,HG1⟩:∃ gb,a1=some ⟨gb,0,none⟩∧w.heap.size≤gb:=by
   obtain ⟨gb,hgb,_,h⟩:=HO1.out
   rcases h with ⟨h,h'⟩ | ⟨cap,cur,h,_⟩
   ·exact absurd h' h0
   ·simp only [Value.slice.injEq] at h;exact ⟨gb,h.1,hgb⟩
  have HOW:Hid (Own w1 gb (.slice (some ⟨gb,0,none⟩) l.length cap1) l):=by
   obtain ⟨gb',hgb,ho,h⟩:=HO1.out
   rcases h with ⟨h,h'⟩ | ⟨cap,cur,h,r⟩
   ·simp at h
   ·have e:gb=gb':=by simp only [Value.slice.injEq,Option.some.injEq,Addr.mk.injEq] at h;exact h.1.1
    subst e
    exact ⟨ho,.inr ⟨cap,cur,h,r⟩⟩
  clear HO1
  go_wp2_with fail
  refine (l1Below_any w0 _ g cv L l.length HC1.out.1 (by omega) (by omega)).mono ?_
  rintro e w2 ⟨y,rfl,hy0,hy1,hc2,hg2⟩
  obtain ⟨I,rfl⟩:=Int.eq_ofNat_of_zero_le hy0
  go_wp2_with fail
  refine (l1Below_any w0 _ g cv L 5 hc2 (by omega) (by omega)).mono ?_
  rintro e w3 ⟨d,rfl,hd0,hd1,hc3,hg3⟩
  have HC3:Hid (Cur w0 w3 g cv L∧w.grownBy w3 (some g)):=⟨hc3,grownBy_trans (grownBy_trans HC1.out.2 hg2) hg3⟩
  have HO3:Hid (Own w3 gb (.slice (some ⟨gb,0,none⟩) l.length cap1) l):=(HOW.out.kept hg2 (by omega)).kept hg3 (by omega)
  have hs3:w.heap.size≤w3.heap.size:=HC3.out.2.size
  clear hc2 hg2 hc3 hg3 HOW HC1
  have hcap:l.length≤cap1∧cap1≤9223372036854775807:=by
   obtain ⟨_,a',cap',h1,h2,h3,_⟩:=HO3.out.bs
   simp only [Value.slice.injEq] at h1
   obtain ⟨-,-,rfl⟩:=h1
   exact ⟨h2,h3⟩
  obtain ⟨hc0,hc1⟩:=hcap
  rcases (show d=0∨d=1∨d=2∨d=3∨d=4 by omega) with rfl | rfl | rfl | rfl | rfl
  ·have HR:Hid (Row w3 w.heap.size w3.heap.size (.slice (some ⟨gb,0,none⟩) I cap1) (l.take I)):=OwnB.toRow ⟨gb,HG1,HO3.out.cut I (by omega)⟩
   go_wp2
   go_ret
   exact ⟨_,_,rfl,by simp;omega,HR.out,HC3.out.1,HC3.out.2⟩
  ·go_wp2_with fail
   refine (l1Byte_any w0 _ g cv L HC3.out.1).mono ?_
   rintro e w4 ⟨y,rfl,hy0,hy1,hc4,hg4⟩
   have HO:Hid (OwnB w4 w.heap.size (.slice (some ⟨gb,0,none⟩) l.length cap1) l):=⟨gb,HG1,HO3.out.kept hg4 (by omega)⟩
   have HG:Hid (w.grownBy w4 (some g)∧Cur w0 w4 g cv L):=⟨grownBy_trans HC3.out.2 hg4,hc4⟩
   have hsz:w.heap.size≤w4.heap.size:=HG.out.1.size
   clear hc4 hg4
   go_wp2_with (at_builtin;refine wpList_append_bytes rfl (.tmp 43) (.tmp 47) 22 rfl i0 Tryd.underlying22 hi hz0 hz1 hz2 w.heap.size _ l rfl (HO.out.alloc _) _ [y] rfl (bs_one _ _ (by omega)) (by simp;omega) (by simp;omega) _ (Below.refl _ _) ?_)
   intro v5 w5 hO5 hB5 _
   have HR:Hid (Row w5 w.heap.size w5.heap.size v5 (l ++ [y])∧Cur w0 w5 g cv L∧w.grownBy w5 (some g)) :=
    ⟨hO5.toRow,(HG.out.2.belowB ((Below.refl _ _).alloc hsz _) hlt1).belowB hB5 hlt1,grownBy_belowB HG.out.1 (((Below.refl _ _).alloc hsz _).trans hB5) (Nat.le_refl _)⟩
   clear hO5 hB5
   go_wp2
   go_ret
   exact ⟨_,_,rfl,by simp,HR.out.1,HR.out.2.1,HR.out.2.2⟩
  ·go_wp2_with fail
   refine (l1Byte_any w0 _ g cv L HC3.out.1).mono ?_
   rintro e w4 ⟨y,rfl,hy0,hy1,hc4,hg4⟩
   have HO:Hid (Own w4 gb (.slice (some ⟨gb,0,none⟩) l.length cap1) l):=HO3.out.kept hg4 (by omega)
   have HG:Hid (w.grownBy w4 (some g)∧Cur w0 w4 g cv L):=⟨grownBy_trans HC3.out.2 hg4,hc4⟩
   have fx:=HO.out.row.cellAt I (by omega)
   have fx':∃ x,w4.cell? ⟨gb,I,none⟩=some x:=⟨_,fx.trans (vals_get l I (by omega))⟩
   have fz:=HO.out.row.frozenAt I
   obtain ⟨x,hx⟩:=fx'
   clear fx hc4 hg4
   go_wp2
   go_ret
   have hR:=OwnB.toRow ⟨gb,HG1,HO.out.set (i:=I) (x:=y) (by omega)⟩
   exact ⟨_,_,rfl,by simp,hR,HG.out.2.set (by omega) (by omega),grownBy_new HG.out.1 HG1⟩
  ·have HE:Hid (OwnB (w3.alloc (.cells #[] 5)).drew w3.heap.size (.slice (some ⟨w3.heap.size,0,none⟩) 0 0) []):=ownB_empty w3 _ (Nat.le_refl _)
   have HB:Hid (Below w3.heap.size w3 (w3.alloc (.cells #[] 5)).drew):=((Below.refl _ _).alloc (Nat.le_refl _) _).drew
   have HS1:Hid (Bs (w3.alloc (.cells #[] 5)).drew (.slice (some ⟨gb,0,none⟩) I cap1) (l.take I)):=(HO3.out.cut I (by omega)).bs.below HB.out
   have hI0:(0:Int)≤(I:Int)+1:=by omega
   have hI1:(I:Int)+1≤(l.length:Int):=by omega
   have hI2:(I:Int)+1≤(cap1:Int):=by omega
   have hI3:(I:Int)≤(cap1:Int):=by omega
   have hwr:IntKind.i64.wrap ((I:Int)+1)=((I+1:Nat):Int):=by rw [IntWalk.i64_in _ (by omega)];simp
   have hI4:((I+1:Nat):Int)≤(l.length:Int):=by omega
   by_cases hce:cap1=I+1
   ·have hle:l.length=I+1:=by omega
    have HLE:Hid (l.length=I+1):=hle
    have HS2:Hid (∀ wx (n c:Nat),n+(I+1)=l.length→c≤I+1→Bs wx (.slice (some ⟨gb,0,none⟩) n c) (l.drop (I+1))):=by
     intro wx n c hn hc
     obtain rfl:n=0:=by omega
     rw [List.drop_eq_nil_of_le (by omega)]
     exact bs_empty _ _ _ (by unfold maxLen;omega)
    have hI5:(I:Int)≤(I:Int)+1:=by omega
    clear hle
    subst hce
    go_wp2
    go_region_law ((first | (refine step_append_bytes rfl (.tmp 59) (.tmp 62) 22 rfl i0 Tryd.underlying22 hi hz0 hz1 hz2 w3.heap.size _ [] rfl HE.out _ (l.take I) rfl HS1.out (by simp;omega) (by simp) w3 HB.out ?_;intro v4 w4 hO4 hB4 hG4;rw [List.nil_append] at hO4) | (refine step_append_bytes rfl (.tmp 63) (.tmp 67) 22 rfl i0 Tryd.underlying22 hi hz0 hz1 hz2 w3.heap.size _ (l.take I) rfl hO4 _ (l.drop (I+1)) rfl (HS2.out _ _ _ (by have:=HLE.out;omega) (by omega)) (by simp;omega) hB4.size w3 hB4 ?_;intro v5 w5 hO5 hB5 hG5)))
    all_goals
     have HR:Hid (Row w5 w.heap.size w5.heap.size v5 (l.take I ++ l.drop (I+1))):=hO5.toRow.wide hs3 (Nat.le_refl _)
     have HF:Hid (Cur w0 w5 g cv L∧w.grownBy w5 (some g)):=⟨HC3.out.1.below hB5,grownBy_belowB HC3.out.2 hB5 hs3⟩
     clear hO5 hB5 hG5 hO4 hB4 hG4
     go_wp2
     go_ret
     exact ⟨_,_,rfl,by simp;omega,HR.out,HF.out.1,HF.out.2⟩
   ·have HS2:Hid (∀ wx,Below w3.heap.size w3 wx→Bs wx (.slice (some ⟨gb,I+1,none⟩) (l.length - (I+1)) (cap1 - (I+1))) (l.drop (I+1))):=by
     intro wx hb
     have:=bs_cut (HO3.out.bs.below hb) (I+1) (l.length - (I+1)) (by omega)
     rw [Nat.zero_add,List.take_of_length_le (by simp)] at this
     exact this
    go_wp2
    go_region_law ((first | (refine step_append_bytes rfl (.tmp 59) (.tmp 62) 22 rfl i0 Tryd.underlying22 hi hz0 hz1 hz2 w3.heap.size _ [] rfl HE.out _ (l.take I) rfl HS1.out (by simp;omega) (by simp) w3 HB.out ?_;intro v4 w4 hO4 hB4 hG4;rw [List.nil_append] at hO4) | (refine step_append_bytes rfl (.tmp 63) (.tmp 67) 22 rfl i0 Tryd.underlying22 hi hz0 hz1 hz2 w3.heap.size _ (l.take I) rfl hO4 _ (l.drop (I+1)) rfl (HS2.out _ hB4) (by simp;omega) hB4.size w3 hB4 ?_;intro v5 w5 hO5 hB5 hG5)))
    all_goals
     have HR:Hid (Row w5 w.heap.size w5.heap.size v5 (l.take I ++ l.drop (I+1))):=hO5.toRow.wide hs3 (Nat.le_refl _)
     have HF:Hid (Cur w0 w5 g cv L∧w.grownBy w5 (some g)):=⟨HC3.out.1.below hB5,grownBy_belowB HC3.out.2 hB5 hs3⟩
     clear hO5 hB5 hG5 hO4 hB4 hG4
     go_wp2
     go_ret
     exact ⟨_,_,rfl,by simp;omega,HR.out,HF.out.1,HF.out.2⟩
  ·have HCD:Hid (Cur w0 w3.drew g cv L):=HC3.out.1.drew
   have fx0:=HO3.out.row.cellAt I (by omega)
   have fx:w3.cell? ⟨gb,I,none⟩=some (.int .u8 (l.getD I 0)):=fx0.trans (vals_get l I (by omega))
   have fz:=HO3.out.row.frozenAt I
   obtain ⟨x,hx⟩:∃ x,x=l.getD I 0:=⟨_,rfl⟩
   rw [← hx] at fx
   have hgg:some gb≠some g:=by simp;omega
   have hI1:(0:Int)≤(I:Int):=by omega
   have HF:Hid (∀ w4:World,w3.drew.grownBy w4 (some g)→w4.cell? ⟨gb,I,none⟩=some (.int .u8 x)∧w4.frozen? ⟨gb,I,none⟩=false) :=
    fun w4 h=>⟨h.cell (a:=⟨gb,I,none⟩) fx hgg,(HO3.out.kept (w':=w4) (k:=g) ⟨h.os,h.tape,h.output,h.size,h.block⟩ (by omega)).row.frozenAt I⟩
   clear fx0 hx
   go_wp2
   go_region_with ((go_at_call 30;refine (l1Below_any w0 _ g cv L 8 HCD.out (by omega) (by omega)).mono ?_;rintro e w4 ⟨y,rfl,hy0,hy1,hc4,hg4⟩;obtain ⟨fx4,fz4⟩:=HF.out w4 hg4))
   all_goals
    have HO4:Hid (Own w4 gb (.slice (some ⟨gb,0,none⟩) l.length cap1) l):=HO3.out.kept (w':=w4) (k:=g) ⟨hg4.os,hg4.tape,hg4.output,hg4.size,hg4.block⟩ (by omega)
    have HG4:Hid (w.grownBy w4 (some g)∧Cur w0 w4 g cv L):=⟨grownBy_trans HC3.out.2 ⟨hg4.os,hg4.tape,hg4.output,hg4.size,hg4.block⟩,hc4⟩
    clear hc4 hg4 fx4 fz4 fx fz
    go_wp2
    go_ret
    refine ⟨_,l.set I _,rfl,?_,OwnB.toRow ⟨gb,HG1,HO4.out.set (bits_u8 _ _ _)⟩,HG4.out.2.set (by omega) (by omega),grownBy_new HG4.out.1 HG1⟩
    simp

end Go.Proofs.YtnlhkgoppjejeaaDoor
