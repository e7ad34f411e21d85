/- The proof's texts, part 20. -/
import Derived.Test.YtfabngnaejjcmaaGreatDoorTj
import Derived.Test.YtfabngnaejjcmaaGreatDoorT6
namespace Go.Proofs.YtfabngnaejjcmaaGreatDoor
open Go.RowKit
set_option linter.unusedVariables false
set_option linter.unusedSimpArgs false
set_option maxHeartbeats 2000000
set_option maxRecDepth 100000
/- A text that grows word by word: what is kept of it. -/
/-- The text v lies in block g, made behind A; all that A had is as it was. -/
def St (A wx:World) (g:Nat) (v:Value) (L:List Int) (n:Nat):Prop:=A.heap.size<=g/\bL wx g v L/\Below A.heap.size A wx/\0 < L.length/\L.length<=n
theorem St.own {A wx:World} {g:Nat} {v:Value} {L:List Int} {n:Nat} (h:St A wx g v L n):bL wx g v L:=h.2.1
theorem St.old {A wx:World} {g:Nat} {v:Value} {L:List Int} {n:Nat} (h:St A wx g v L n):Below A.heap.size A wx:=h.2.2.1
theorem St.ge {A wx:World} {g:Nat} {v:Value} {L:List Int} {n:Nat} (h:St A wx g v L n):A.heap.size<=g:=h.1
theorem St.lt {A wx:World} {g:Nat} {v:Value} {L:List Int} {n:Nat} (h:St A wx g v L n):g < wx.heap.size:=h.2.1.lt
theorem St.below {A wx w':World} {g:Nat} {v:Value} {L:List Int} {n:Nat} (h:St A wx g v L n) (hb:Below wx.heap.size wx w'):St A w' g v L n:=⟨h.1,h.2.1.below hb,Below.step h.2.2.1 hb,h.2.2.2⟩
/-- A row that was made later than block g lies elsewhere. -/
theorem iV.ne {w:World} {B g:Nat} {v:Value} {l:List Int} (h:iV w B v l) (hg:g < B):v.ownBlock≠some g:=λe=>by have:=(h.row.lt g e).1;omega
theorem ay {p:Prop} (h:p):Hid p:=h
theorem St.made {A wx:World} {g:Nat} {v:Value} {L:List Int} {n:Nat} (h:St A wx g v L n):∀k,v.ownBlock=some k->A.heap.size<=k:=by
 intro k hk;obtain⟨cap,rfl⟩:=h.own.form;have e:g=k:=by simpa [Value.ownBlock] using hk
 have:=h.ge;omega
theorem nL (s:List Int) (w:World):(convert 9 22 (.string (strOfNums s))).run Tryz.prog w=.ok (.slice (some ⟨w.heap.size,0,none⟩) s.length (grownCap w s.length 0 5)) (Lib.bytesWorld w 5 (strOfNums s)):=by
 have h:=Lib.run_convert_string_bytes (P:=Tryz.prog) w 9 22 5 (strOfNums s) Tryz.underlying9 Tryz.underlying22 Tryz.underlying5
 rwa [strOfNums_size] at h
/-- What '[]byte("..")' of a constant answers. -/
theorem ME (W:World) (l:List Int) (hl:Oct l) (hn:l.length<=1000):∃w',(convert 22 22 (.slice (some ⟨W.heap.size,0,none⟩) l.length l.length)).run Tryz.prog (W.alloc (.cells (vals l).toArray 5))=.ok (.slice (some ⟨W.heap.size,0,none⟩) l.length l.length) w' /\
  bL w' W.heap.size (.slice (some ⟨W.heap.size,0,none⟩) l.length l.length) l/\Below W.heap.size W w':=by
 have hsh:(W.alloc (.cells (vals l).toArray 5)).shape? W.heap.size=some (5,(vals l).toArray.size):=by
  simp[World.shape?,World.alloc,-World.alloc_eq]
 refine⟨(W.alloc (.cells (vals l).toArray 5)).freeze ⟨W.heap.size,(vals l).toArray.size,none⟩ 1,?_,⟨hl,l.length,(vals l).toArray,((vals l).toArray.size,(vals l).toArray.size+1),rfl,?_,.inr (by simp[kM]),Nat.le_refl _,by unfold maxLen;omega,by simp[kM],by simp[List.take_of_length_le,kM]⟩,rfl,rfl,rfl,?_,λk hk=>?_⟩
 ·simp[convert,run_underlying Tryz.underlying22,run_underlying Tryz.underlying5,markStringish,hsh,Result.andThen]
 ·simp[World.freeze,World.alloc,-World.alloc_eq]
  rw[Array.getElem_modify_self];simp
 ·simp[World.freeze,World.alloc,-World.alloc_eq]
 ·have h1:W.heap.size≠k:=by omega
  simp[World.freeze,World.alloc,-World.alloc_eq,Array.getElem?_modify,Array.getElem?_push,h1,Ne.symm h1]
/- What aki and akj of package spec do. -/
section
variable {w w1 w2 : World} {g : Nat}
theorem eX (h:w.grownBy w1 (some g)) (hb:Below w1.heap.size w1 w2):w.grownBy w2 (some g):=⟨hb.os.trans h.os,hb.tape.trans h.tape,hb.output.trans h.output,Nat.le_trans h.size hb.size,λk hk hne=>(hb.block k (Nat.lt_of_lt_of_le hk h.size)).trans (h.block k hk hne)⟩
theorem nM (h:w.grownBy w1 (some g)) (h2:w1.grownBy w2 (some g)):w.grownBy w2 (some g):=⟨h2.os.trans h.os,h2.tape.trans h.tape,h2.output.trans h.output,Nat.le_trans h.size h2.size,λk hk hne=>(h2.block k (Nat.lt_of_lt_of_le hk h.size) hne).trans (h.block k hk hne)⟩
end
theorem Uj (w0 w:World) (g:Nat) (cv:Value) (L:List Int) (hc:aS w0 w g cv L) :
  Calls Tryz.prog 38 #[.pointer (some ⟨g,0,none⟩)] w λe w'=>∃u gq m,e=.returned u/\bL w' gq u m/\w.heap.size<=gq/\gF m=true/\aS w0 w' g cv L/\w.grownBy w' (some g):=by
 have AB:Below w.heap.size w (w.alloc (.cells #[.string ⟨#[105,110,98,111,120]⟩,.string ⟨#[115,101,110,116]⟩,.string ⟨#[116,114,97,115,104]⟩,.string ⟨#[97]⟩,.string ⟨#[98]⟩] 9)):=bn _ _;have K0:=aW w (.cells #[.string ⟨#[105,110,98,111,120]⟩,.string ⟨#[115,101,110,116]⟩,.string ⟨#[116,114,97,115,104]⟩,.string ⟨#[97]⟩,.string ⟨#[98]⟩] 9);have hgl:=hc.lt.2;have hc0:=hc.below AB
 go_enter Tryz.func38,Tryz.ntmps38;go_wp2_with fail
 refine(iH w0 _ g cv L 5 hc0 (by omega) (by omega)).mono ?_;rintro e w1 ⟨x,rfl,hx0,hx1,hc1,hg1⟩;have K1:w1.heap[w.heap.size]?=_:=(hg1.block w.heap.size (lt_of_heap K0) (by simp;omega)).trans K0;have hl1:=lt_of_heap K1;have dJ:Hid (aS w0 w1 g cv L):=hc1;have iP:Hid (w.grownBy w1 (some g)):=nM (eX (World.grownBy.refl _ _) AB) hg1;have hs1:=iP.out.size;clear hc hc0 hc1 hg1 AB K0;obtain⟨j,rfl⟩:=Int.eq_ofNat_of_zero_le hx0;obtain rfl | rfl | rfl | rfl | rfl:j=0\/j=1\/j=2\/j=3\/j=4:=by omega
 ·have hcell:w1.cell? ⟨w.heap.size,0,none⟩=some (.string ⟨#[105,110,98,111,120]⟩):=by rw[cell_of_row w1 w.heap.size 0 _ _ (0,0) K1];rfl
  have hcv:(convert 9 22 (.string ⟨#[105,110,98,111,120]⟩)).run Tryz.prog w1=.ok (.slice (some ⟨w1.heap.size,0,none⟩) 5 (grownCap w1 5 0 5)) (Lib.bytesWorld w1 5 (strOfNums [105,110,98,111,120])):=nL [105,110,98,111,120] w1;obtain⟨q1,q2⟩:=nK w1 [105,110,98,111,120] (by intro x hx;simp at hx <;> omega) (by decide);have HQ:Hid (bL (Lib.bytesWorld w1 5 (strOfNums [105,110,98,111,120])) w1.heap.size (.slice (some ⟨w1.heap.size,0,none⟩) 5 (grownCap w1 5 0 5)) [105,110,98,111,120]/\Below w1.heap.size w1 (Lib.bytesWorld w1 5 (strOfNums [105,110,98,111,120]))):=⟨q1,q2⟩;clear q1 q2
  generalize Lib.bytesWorld w1 5 (strOfNums [105,110,98,111,120])=w2 at hcv HQ;go_wp2;go_ret;exact⟨_,w1.heap.size,[105,110,98,111,120],rfl,HQ.out.1,by omega,by decide,dJ.out.below HQ.out.2,eX iP.out HQ.out.2⟩
 ·have hcell:w1.cell? ⟨w.heap.size,1,none⟩=some (.string ⟨#[115,101,110,116]⟩):=by rw[cell_of_row w1 w.heap.size 1 _ _ (0,0) K1];rfl
  have hcv:(convert 9 22 (.string ⟨#[115,101,110,116]⟩)).run Tryz.prog w1=.ok (.slice (some ⟨w1.heap.size,0,none⟩) 4 (grownCap w1 4 0 5)) (Lib.bytesWorld w1 5 (strOfNums [115,101,110,116])):=nL [115,101,110,116] w1;obtain⟨q1,q2⟩:=nK w1 [115,101,110,116] (by intro x hx;simp at hx <;> omega) (by decide);have HQ:Hid (bL (Lib.bytesWorld w1 5 (strOfNums [115,101,110,116])) w1.heap.size (.slice (some ⟨w1.heap.size,0,none⟩) 4 (grownCap w1 4 0 5)) [115,101,110,116]/\Below w1.heap.size w1 (Lib.bytesWorld w1 5 (strOfNums [115,101,110,116]))):=⟨q1,q2⟩;clear q1 q2
  generalize Lib.bytesWorld w1 5 (strOfNums [115,101,110,116])=w2 at hcv HQ;go_wp2;go_ret;exact⟨_,w1.heap.size,[115,101,110,116],rfl,HQ.out.1,by omega,by decide,dJ.out.below HQ.out.2,eX iP.out HQ.out.2⟩
 ·have hcell:w1.cell? ⟨w.heap.size,2,none⟩=some (.string ⟨#[116,114,97,115,104]⟩):=by rw[cell_of_row w1 w.heap.size 2 _ _ (0,0) K1];rfl
  have hcv:(convert 9 22 (.string ⟨#[116,114,97,115,104]⟩)).run Tryz.prog w1=.ok (.slice (some ⟨w1.heap.size,0,none⟩) 5 (grownCap w1 5 0 5)) (Lib.bytesWorld w1 5 (strOfNums [116,114,97,115,104])):=nL [116,114,97,115,104] w1;obtain⟨q1,q2⟩:=nK w1 [116,114,97,115,104] (by intro x hx;simp at hx <;> omega) (by decide);have HQ:Hid (bL (Lib.bytesWorld w1 5 (strOfNums [116,114,97,115,104])) w1.heap.size (.slice (some ⟨w1.heap.size,0,none⟩) 5 (grownCap w1 5 0 5)) [116,114,97,115,104]/\Below w1.heap.size w1 (Lib.bytesWorld w1 5 (strOfNums [116,114,97,115,104]))):=⟨q1,q2⟩;clear q1 q2
  generalize Lib.bytesWorld w1 5 (strOfNums [116,114,97,115,104])=w2 at hcv HQ;go_wp2;go_ret;exact⟨_,w1.heap.size,[116,114,97,115,104],rfl,HQ.out.1,by omega,by decide,dJ.out.below HQ.out.2,eX iP.out HQ.out.2⟩
 ·have hcell:w1.cell? ⟨w.heap.size,3,none⟩=some (.string ⟨#[97]⟩):=by rw[cell_of_row w1 w.heap.size 3 _ _ (0,0) K1];rfl
  have hcv:(convert 9 22 (.string ⟨#[97]⟩)).run Tryz.prog w1=.ok (.slice (some ⟨w1.heap.size,0,none⟩) 1 (grownCap w1 1 0 5)) (Lib.bytesWorld w1 5 (strOfNums [97])):=nL [97] w1;obtain⟨q1,q2⟩:=nK w1 [97] (by intro x hx;simp at hx <;> omega) (by decide);have HQ:Hid (bL (Lib.bytesWorld w1 5 (strOfNums [97])) w1.heap.size (.slice (some ⟨w1.heap.size,0,none⟩) 1 (grownCap w1 1 0 5)) [97]/\Below w1.heap.size w1 (Lib.bytesWorld w1 5 (strOfNums [97]))):=⟨q1,q2⟩;clear q1 q2;generalize Lib.bytesWorld w1 5 (strOfNums [97])=w2 at hcv HQ;go_wp2;go_ret
  exact⟨_,w1.heap.size,[97],rfl,HQ.out.1,by omega,by decide,dJ.out.below HQ.out.2,eX iP.out HQ.out.2⟩
 ·have hcell:w1.cell? ⟨w.heap.size,4,none⟩=some (.string ⟨#[98]⟩):=by rw[cell_of_row w1 w.heap.size 4 _ _ (0,0) K1];rfl
  have hcv:(convert 9 22 (.string ⟨#[98]⟩)).run Tryz.prog w1=.ok (.slice (some ⟨w1.heap.size,0,none⟩) 1 (grownCap w1 1 0 5)) (Lib.bytesWorld w1 5 (strOfNums [98])):=nL [98] w1;obtain⟨q1,q2⟩:=nK w1 [98] (by intro x hx;simp at hx <;> omega) (by decide);have HQ:Hid (bL (Lib.bytesWorld w1 5 (strOfNums [98])) w1.heap.size (.slice (some ⟨w1.heap.size,0,none⟩) 1 (grownCap w1 1 0 5)) [98]/\Below w1.heap.size w1 (Lib.bytesWorld w1 5 (strOfNums [98]))):=⟨q1,q2⟩;clear q1 q2;generalize Lib.bytesWorld w1 5 (strOfNums [98])=w2 at hcv HQ;go_wp2;go_ret
  exact⟨_,w1.heap.size,[98],rfl,HQ.out.1,by omega,by decide,dJ.out.below HQ.out.2,eX iP.out HQ.out.2⟩
theorem acn (w0 w:World) (g:Nat) (cv:Value) (L:List Int) (hc:aS w0 w g cv L) :
  Calls Tryz.prog 40 #[.pointer (some ⟨g,0,none⟩)] w λe w'=>∃u gq m,e=.returned u/\bL w' gq u m/\w.heap.size<=gq/\jP m=true/\aS w0 w' g cv L/\w.grownBy w' (some g):=by
 have AB:Below w.heap.size w (w.alloc (.cells #[.string ⟨#[104,105]⟩,.string ⟨#[]⟩,.string ⟨#[97,32,98]⟩,.string ⟨#[34,113,34]⟩,.string ⟨#[114,101,58,32,120]⟩,.string ⟨#[92]⟩] 9)):=bn _ _;have K0:=aW w (.cells #[.string ⟨#[104,105]⟩,.string ⟨#[]⟩,.string ⟨#[97,32,98]⟩,.string ⟨#[34,113,34]⟩,.string ⟨#[114,101,58,32,120]⟩,.string ⟨#[92]⟩] 9);have hgl:=hc.lt.2;have hc0:=hc.below AB
 go_enter Tryz.func40,Tryz.ntmps40;go_wp2_with fail
 refine(iH w0 _ g cv L 6 hc0 (by omega) (by omega)).mono ?_;rintro e w1 ⟨x,rfl,hx0,hx1,hc1,hg1⟩;have K1:w1.heap[w.heap.size]?=_:=(hg1.block w.heap.size (lt_of_heap K0) (by simp;omega)).trans K0;have hl1:=lt_of_heap K1;have dJ:Hid (aS w0 w1 g cv L):=hc1;have iP:Hid (w.grownBy w1 (some g)):=nM (eX (World.grownBy.refl _ _) AB) hg1;have hs1:=iP.out.size;clear hc hc0 hc1 hg1 AB K0;obtain⟨j,rfl⟩:=Int.eq_ofNat_of_zero_le hx0;obtain rfl | rfl | rfl | rfl | rfl | rfl:j=0\/j=1\/j=2\/j=3\/j=4\/j=5:=by omega
 ·have hcell:w1.cell? ⟨w.heap.size,0,none⟩=some (.string ⟨#[104,105]⟩):=by rw[cell_of_row w1 w.heap.size 0 _ _ (0,0) K1];rfl
  have hcv:(convert 9 22 (.string ⟨#[104,105]⟩)).run Tryz.prog w1=.ok (.slice (some ⟨w1.heap.size,0,none⟩) 2 (grownCap w1 2 0 5)) (Lib.bytesWorld w1 5 (strOfNums [104,105])):=nL [104,105] w1;obtain⟨q1,q2⟩:=nK w1 [104,105] (by intro x hx;simp at hx <;> omega) (by decide);have HQ:Hid (bL (Lib.bytesWorld w1 5 (strOfNums [104,105])) w1.heap.size (.slice (some ⟨w1.heap.size,0,none⟩) 2 (grownCap w1 2 0 5)) [104,105]/\Below w1.heap.size w1 (Lib.bytesWorld w1 5 (strOfNums [104,105]))):=⟨q1,q2⟩;clear q1 q2;generalize Lib.bytesWorld w1 5 (strOfNums [104,105])=w2 at hcv HQ;go_wp2;go_ret
  exact⟨_,w1.heap.size,[104,105],rfl,HQ.out.1,by omega,by decide,dJ.out.below HQ.out.2,eX iP.out HQ.out.2⟩
 ·have hcell:w1.cell? ⟨w.heap.size,1,none⟩=some (.string ⟨#[]⟩):=by rw[cell_of_row w1 w.heap.size 1 _ _ (0,0) K1];rfl
  have hcv:(convert 9 22 (.string ⟨#[]⟩)).run Tryz.prog w1=.ok (.slice (some ⟨w1.heap.size,0,none⟩) 0 (grownCap w1 0 0 5)) (Lib.bytesWorld w1 5 (strOfNums [])):=nL [] w1;obtain⟨q1,q2⟩:=nK w1 [] (by intro x hx;simp at hx <;> omega) (by decide);have HQ:Hid (bL (Lib.bytesWorld w1 5 (strOfNums [])) w1.heap.size (.slice (some ⟨w1.heap.size,0,none⟩) 0 (grownCap w1 0 0 5)) []/\Below w1.heap.size w1 (Lib.bytesWorld w1 5 (strOfNums []))):=⟨q1,q2⟩;clear q1 q2;generalize Lib.bytesWorld w1 5 (strOfNums [])=w2 at hcv HQ;go_wp2;go_ret
  exact⟨_,w1.heap.size,[],rfl,HQ.out.1,by omega,by decide,dJ.out.below HQ.out.2,eX iP.out HQ.out.2⟩
 ·have hcell:w1.cell? ⟨w.heap.size,2,none⟩=some (.string ⟨#[97,32,98]⟩):=by rw[cell_of_row w1 w.heap.size 2 _ _ (0,0) K1];rfl
  have hcv:(convert 9 22 (.string ⟨#[97,32,98]⟩)).run Tryz.prog w1=.ok (.slice (some ⟨w1.heap.size,0,none⟩) 3 (grownCap w1 3 0 5)) (Lib.bytesWorld w1 5 (strOfNums [97,32,98])):=nL [97,32,98] w1;obtain⟨q1,q2⟩:=nK w1 [97,32,98] (by intro x hx;simp at hx <;> omega) (by decide);have HQ:Hid (bL (Lib.bytesWorld w1 5 (strOfNums [97,32,98])) w1.heap.size (.slice (some ⟨w1.heap.size,0,none⟩) 3 (grownCap w1 3 0 5)) [97,32,98]/\Below w1.heap.size w1 (Lib.bytesWorld w1 5 (strOfNums [97,32,98]))):=⟨q1,q2⟩;clear q1 q2;generalize Lib.bytesWorld w1 5 (strOfNums [97,32,98])=w2 at hcv HQ;go_wp2;go_ret
  exact⟨_,w1.heap.size,[97,32,98],rfl,HQ.out.1,by omega,by decide,dJ.out.below HQ.out.2,eX iP.out HQ.out.2⟩
 ·have hcell:w1.cell? ⟨w.heap.size,3,none⟩=some (.string ⟨#[34,113,34]⟩):=by rw[cell_of_row w1 w.heap.size 3 _ _ (0,0) K1];rfl
  have hcv:(convert 9 22 (.string ⟨#[34,113,34]⟩)).run Tryz.prog w1=.ok (.slice (some ⟨w1.heap.size,0,none⟩) 3 (grownCap w1 3 0 5)) (Lib.bytesWorld w1 5 (strOfNums [34,113,34])):=nL [34,113,34] w1;obtain⟨q1,q2⟩:=nK w1 [34,113,34] (by intro x hx;simp at hx <;> omega) (by decide);have HQ:Hid (bL (Lib.bytesWorld w1 5 (strOfNums [34,113,34])) w1.heap.size (.slice (some ⟨w1.heap.size,0,none⟩) 3 (grownCap w1 3 0 5)) [34,113,34]/\Below w1.heap.size w1 (Lib.bytesWorld w1 5 (strOfNums [34,113,34]))):=⟨q1,q2⟩;clear q1 q2;generalize Lib.bytesWorld w1 5 (strOfNums [34,113,34])=w2 at hcv HQ;go_wp2;go_ret
  exact⟨_,w1.heap.size,[34,113,34],rfl,HQ.out.1,by omega,by decide,dJ.out.below HQ.out.2,eX iP.out HQ.out.2⟩
 ·have hcell:w1.cell? ⟨w.heap.size,4,none⟩=some (.string ⟨#[114,101,58,32,120]⟩):=by rw[cell_of_row w1 w.heap.size 4 _ _ (0,0) K1];rfl
  have hcv:(convert 9 22 (.string ⟨#[114,101,58,32,120]⟩)).run Tryz.prog w1=.ok (.slice (some ⟨w1.heap.size,0,none⟩) 5 (grownCap w1 5 0 5)) (Lib.bytesWorld w1 5 (strOfNums [114,101,58,32,120])):=nL [114,101,58,32,120] w1;obtain⟨q1,q2⟩:=nK w1 [114,101,58,32,120] (by intro x hx;simp at hx <;> omega) (by decide);have HQ:Hid (bL (Lib.bytesWorld w1 5 (strOfNums [114,101,58,32,120])) w1.heap.size (.slice (some ⟨w1.heap.size,0,none⟩) 5 (grownCap w1 5 0 5)) [114,101,58,32,120]/\Below w1.heap.size w1 (Lib.bytesWorld w1 5 (strOfNums [114,101,58,32,120]))):=⟨q1,q2⟩;clear q1 q2
  generalize Lib.bytesWorld w1 5 (strOfNums [114,101,58,32,120])=w2 at hcv HQ;go_wp2;go_ret;exact⟨_,w1.heap.size,[114,101,58,32,120],rfl,HQ.out.1,by omega,by decide,dJ.out.below HQ.out.2,eX iP.out HQ.out.2⟩
 ·have hcell:w1.cell? ⟨w.heap.size,5,none⟩=some (.string ⟨#[92]⟩):=by rw[cell_of_row w1 w.heap.size 5 _ _ (0,0) K1];rfl
  have hcv:(convert 9 22 (.string ⟨#[92]⟩)).run Tryz.prog w1=.ok (.slice (some ⟨w1.heap.size,0,none⟩) 1 (grownCap w1 1 0 5)) (Lib.bytesWorld w1 5 (strOfNums [92])):=nL [92] w1;obtain⟨q1,q2⟩:=nK w1 [92] (by intro x hx;simp at hx <;> omega) (by decide);have HQ:Hid (bL (Lib.bytesWorld w1 5 (strOfNums [92])) w1.heap.size (.slice (some ⟨w1.heap.size,0,none⟩) 1 (grownCap w1 1 0 5)) [92]/\Below w1.heap.size w1 (Lib.bytesWorld w1 5 (strOfNums [92]))):=⟨q1,q2⟩;clear q1 q2;generalize Lib.bytesWorld w1 5 (strOfNums [92])=w2 at hcv HQ;go_wp2;go_ret
  exact⟨_,w1.heap.size,[92],rfl,HQ.out.1,by omega,by decide,dJ.out.below HQ.out.2,eX iP.out HQ.out.2⟩
/- What Uk of package spec draws: a command that may be. -/
/-- Bytes of one's own, or none. -/
def nN (w:World) (v:Value) (l:List Int):Prop:=(v=.slice none 0 0/\l=[])\/∃q,bL w q v l
/-- Bytes that lie in none of three blocks, but behind the last one. -/
def QB (w:World) (g k rr:Nat) (v:Value) (l:List Int):Prop:=(∃a n c,v=.slice a n c)/\Bs w v l/\v.ownBlock≠some g/\v.ownBlock≠some k/\v.ownBlock≠some rr/\(∀b,v.ownBlock=some b->rr < b/\b < w.heap.size)/\nN w v l
/-- The text: none, or bytes of the call's own beside all else. -/
def wX (w:World) (g k rr:Nat) (v0 v1 v2:Value) (l:List Int):Prop:=(v2=.slice none 0 0/\l=[])\/∃q,bL w q v2 l/\v0.ownBlock≠some q/\v1.ownBlock≠some q/\q≠g/\q≠k/\rr < q
/-- Where Uk stands. -/
structure bF (w0 wI w:World) (g k rr:Nat) (cv:Value) (L:List Int) (c:gP):Prop where
 cur:aS w0 w g cv L
 gr:wI.grownBy w (some g)
 res:w.heap[rr]?=some (.cells #[.int .i64 0,.slice none 0 0,.slice none 0 0,.int .i64 0,.int .i64 0,.int .i64 0,.int .i64 0,.slice none 0 0] 35 (0,0))
 cmd:∃v0 v1 v2,w.heap[k]?=some (.cells #[.int .i64 c.k,v0,v1,.int .i64 c.uid,.int .i64 c.mode,.int .i64 c.fl,.int .i64 c.si,v2] 35 (0,0))/\QB w g k rr v0 c.bx/\QB w g k rr v1 c.tt/\wX w g k rr v0 v1 v2 c.tx
/-- Where the blocks lie. -/
structure vg (w0 wI:World) (g k rr:Nat):Prop where
 gI:g < wI.heap.size
 g0:w0.heap.size<=g
 kI:wI.heap.size<=k
 rI:wI.heap.size<=rr
 kr:k≠rr
section
variable {w0 wI w w' : World} {g k rr : Nat} {cv v v0 v1 v2 : Value} {L l : List Int} {c : gP}
theorem nN.gb {j:Nat} (h:nN w v l) (hG:w.grownBy w' (some j)) (hj:v.ownBlock≠some j):nN w' v l:=by
 rcases h with h | ⟨q,h⟩
 ·exact .inl h
 ·refine .inr ⟨q,h.frame (hG.block q h.lt λe=>hj ?_)⟩
  obtain⟨cap,rfl⟩:=h.form;simp only[Value.ownBlock];exact e
theorem QB.gb {j:Nat} (h:QB w g k rr v l) (hG:w.grownBy w' (some j)) (hj:j=g\/j=k\/j=rr):QB w' g k rr v l:=by
 refine⟨h.1,h.2.1.grown hG ?_,h.2.2.1,h.2.2.2.1,h.2.2.2.2.1,λb hb=>⟨(h.2.2.2.2.2.1 b hb).1,Nat.lt_of_lt_of_le (h.2.2.2.2.2.1 b hb).2 hG.size⟩,h.2.2.2.2.2.2.gb hG ?_⟩
 all_goals
  rcases hj with rfl | rfl | rfl
  ·exact h.2.2.1
  ·exact h.2.2.2.1
  ·exact h.2.2.2.2.1
theorem wX.gb {j:Nat} (h:wX w g k rr v0 v1 v2 l) (hG:w.grownBy w' (some j)) (hj:j=g\/j=k\/j=rr):wX w' g k rr v0 v1 v2 l:=by
 rcases h with h | ⟨q,h,h0,h1,h2,h3,h4⟩
 ·exact .inl h
 ·exact .inr ⟨q,h.frame (hG.block q h.lt (by simp only[ne_eq,Option.some.injEq];omega)),h0,h1,h2,h3,h4⟩
theorem wX.bs (h:wX w g k rr v0 v1 v2 l):Bs w v2 l:=by
 rcases h with⟨rfl,rfl⟩ | ⟨q,h,-⟩
 ·exact vQ w
 ·exact h.bs
theorem wX.form (h:wX w g k rr v0 v1 v2 l):∃a n c,v2=.slice a n c:=by
 rcases h with⟨rfl,rfl⟩ | ⟨q,h,-⟩
 ·exact⟨_,_,_,rfl⟩
 ·obtain⟨cap,rfl⟩:=h.form;exact⟨_,_,_,rfl⟩
theorem bF.draw (h:bF w0 wI w g k rr cv L c) (P:vg w0 wI g k rr) (hC:aS w0 w' g cv L) (hG:w.grownBy w' (some g)):bF w0 wI w' g k rr cv L c:=by
 obtain⟨v0,v1,v2,hc,q0,q1,q2⟩:=h.cmd;have p1:=P.gI;have p2:=P.kI;have p3:=P.rI;exact⟨hC,nM h.gr hG,(hG.block rr (lt_of_heap h.res) (by simp;omega)).trans h.res,v0,v1,v2,(hG.block k (lt_of_heap hc) (by simp;omega)).trans hc,q0.gb hG (.inl rfl),q1.gb hG (.inl rfl),q2.gb hG (.inl rfl)⟩
theorem Jh (w:World) (k i:Nat) (x:Value):w.grownBy (w.setCell ⟨k,i,none⟩ x) (some k):=grownBy_setCell (World.grownBy.refl _ _)
theorem Ji {i:Nat} {x:Value} (h:wI.grownBy w (some g)) (hk:wI.heap.size<=k):wI.grownBy (w.setCell ⟨k,i,none⟩ x) (some g):=⟨h.os,h.tape,h.output,by rw[dW];exact h.size,λj hj hne=>(Below.heap_setCell _ _ _ _ (show j≠k by omega)).trans (h.block j hj hne)⟩
theorem bF.qJ {j:Nat} {n:Int} {c':gP} (h:bF w0 wI w g k rr cv L c) (P:vg w0 wI g k rr) (hj:(j=0/\c' = { c with k:=n })\/(j=3/\c' = { c with uid:=n })\/(j=4/\c' = { c with mode:=n })\/(j=5/\c' = { c with fl:=n })\/(j=6/\c' = { c with si:=n })):bF w0 wI (w.setCell ⟨k,j,none⟩ (.int .i64 n)) g k rr cv L c':=by
 obtain⟨v0,v1,v2,hc,q0,q1,q2⟩:=h.cmd;have p1:=P.gI;have p2:=P.kI;have p0:=P.g0;have hG:=Jh w k j (.int .i64 n);have hq:k=g\/k=k\/k=rr:=.inr (.inl rfl);refine⟨h.cur.set (by omega) (by omega),Ji h.gr p2,eB (k:=k) (i:=j) (v:=.int .i64 n) h.res (Ne.symm P.kr),?_⟩;rcases hj with⟨rfl,rfl⟩ | ⟨rfl,rfl⟩ | ⟨rfl,rfl⟩ | ⟨rfl,rfl⟩ | ⟨rfl,rfl⟩
 ·exact⟨v0,v1,v2,aD (i:=0) (v:=.int .i64 n) hc,q0.gb hG hq,q1.gb hG hq,q2.gb hG hq⟩
 ·exact⟨v0,v1,v2,aD (i:=3) (v:=.int .i64 n) hc,q0.gb hG hq,q1.gb hG hq,q2.gb hG hq⟩
 ·exact⟨v0,v1,v2,aD (i:=4) (v:=.int .i64 n) hc,q0.gb hG hq,q1.gb hG hq,q2.gb hG hq⟩
 ·exact⟨v0,v1,v2,aD (i:=5) (v:=.int .i64 n) hc,q0.gb hG hq,q1.gb hG hq,q2.gb hG hq⟩
 ·exact⟨v0,v1,v2,aD (i:=6) (v:=.int .i64 n) hc,q0.gb hG hq,q1.gb hG hq,q2.gb hG hq⟩
theorem QB.of {gq N:Nat} (h:bL w gq v l) (hN:N<=gq) (h1:g < N) (h2:k < N) (h3:rr < N):QB w g k rr v l:=by
 have hlt:=h.lt;obtain⟨cap,rfl⟩:=h.form;have e:(Value.slice (some ⟨gq,0,none⟩) l.length cap).ownBlock=some gq:=rfl;refine⟨⟨_,_,_,rfl⟩,h.bs,?_,?_,?_,?_,.inr ⟨gq,h⟩⟩
 ·rw[e];simp;omega
 ·rw[e];simp;omega
 ·rw[e];simp;omega
 ·rw[e];rintro b hb;cases hb;omega
theorem QB.nil (w:World) (g k rr:Nat):QB w g k rr (.slice none 0 0) []:=⟨⟨_,_,_,rfl⟩,vQ w,by simp[Value.ownBlock],by simp[Value.ownBlock],by simp[Value.ownBlock],by simp[Value.ownBlock],.inl ⟨rfl,rfl⟩⟩
/-- Bytes that were made since are put into a cell. -/
theorem bF.wY {j gq:Nat} {u:Value} {x:List Int} {c':gP} (h:bF w0 wI w g k rr cv L c) (P:vg w0 wI g k rr) (hC:aS w0 w' g cv L) (hG:w.grownBy w' (some g)) (O:bL w' gq u x) (hge:w.heap.size<=gq) (hj:(j=1/\c' = { c with bx:=x })\/(j=2/\c' = { c with tt:=x })\/(j=7/\c' = { c with tx:=x })):bF w0 wI (w'.setCell ⟨k,j,none⟩ u) g k rr cv L c':=by
 have p1:=P.gI;have p2:=P.kI;have p0:=P.g0;have hgl:=h.cur.lt.2;have hrl:=lt_of_heap h.res;obtain⟨v0,v1,v2,hc,q0,q1,q2⟩:=h.cmd;have hkl:=lt_of_heap hc;have Q:=QB.of O hge hgl hkl hrl;have hD:=h.draw P hC hG;have hc':=(hG.block k hkl (by simp;omega)).trans hc;have hq:k=g\/k=k\/k=rr:=.inr (.inl rfl);have g0:=q0.gb hG (.inl rfl);have g1:=q1.gb hG (.inl rfl);have g2:=q2.gb hG (.inl rfl);have hS:=Jh w' k j u;obtain⟨cp,rfl⟩:=O.form;refine⟨hD.cur.set (by omega) (by omega),Ji hD.gr p2,eB (k:=k) (i:=j) (v:=.slice (some ⟨gq,0,none⟩) x.length cp) hD.res (Ne.symm P.kr),?_⟩
 rcases hj with⟨rfl,rfl⟩ | ⟨rfl,rfl⟩ | ⟨rfl,rfl⟩
 ·refine⟨_,v1,v2,aD (i:=1) hc',Q.gb hS hq,g1.gb hS hq,?_⟩
  rcases q2 with e | ⟨q,t,t0,t1,t2,t3,t4⟩
  ·exact .inl e
  ·have hl:=t.lt
   refine .inr ⟨q,(t.frame (hG.block q hl (by simp;omega))).frame (Below.heap_setCell _ _ _ _ (show q≠k from t3)),?_,t1,t2,t3,t4⟩;simp only[Value.ownBlock,ne_eq,Option.some.injEq];omega
 ·refine⟨v0,_,v2,aD (i:=2) hc',g0.gb hS hq,Q.gb hS hq,?_⟩
  rcases q2 with e | ⟨q,t,t0,t1,t2,t3,t4⟩
  ·exact .inl e
  ·have hl:=t.lt
   refine .inr ⟨q,(t.frame (hG.block q hl (by simp;omega))).frame (Below.heap_setCell _ _ _ _ (show q≠k from t3)),t0,?_,t2,t3,t4⟩;simp only[Value.ownBlock,ne_eq,Option.some.injEq];omega
 ·refine⟨v0,v1,_,aD (i:=7) hc',g0.gb hS hq,g1.gb hS hq,.inr ⟨gq,O.frame (Below.heap_setCell _ _ _ _ (show gq≠k by omega)),λe=>?_,λe=>?_,by omega,by omega,by omega⟩⟩
  ·have:=(q0.2.2.2.2.2.1 gq e).2;omega
  ·have:=(q1.2.2.2.2.2.1 gq e).2;omega
theorem bF.aco {c':gP} (h:bF w0 wI w g k rr cv L c) (P:vg w0 wI g k rr) (hj:c' = { c with bx:=[] }):bF w0 wI (w.setCell ⟨k,1,none⟩ (.slice none 0 0)) g k rr cv L c':=by
 obtain⟨v0,v1,v2,hc,q0,q1,q2⟩:=h.cmd;have p1:=P.gI;have p2:=P.kI;have p0:=P.g0;have hS:=Jh w k 1 (.slice none 0 0);have hq:k=g\/k=k\/k=rr:=.inr (.inl rfl);subst hj;refine⟨h.cur.set (by omega) (by omega),Ji h.gr p2,eB (k:=k) (i:=1) (v:=.slice none 0 0) h.res (Ne.symm P.kr),.slice none 0 0,v1,v2,aD (i:=1) hc,QB.nil _ _ _ _,q1.gb hS hq,?_⟩;rcases q2.gb hS hq with e | ⟨q,t,t0,t1,r⟩
 ·exact .inl e
 ·exact .inr ⟨q,t,by simp[Value.ownBlock],t1,r⟩
theorem bF.below (h:bF w0 wI w g k rr cv L c) (P:vg w0 wI g k rr) (hb:Below w.heap.size w w'):bF w0 wI w' g k rr cv L c:=h.draw P (h.cur.below hb) (eX (World.grownBy.refl _ _) hb)
theorem bF.cells (h:bF w0 wI w g k rr cv L c):∃v1 v2 v7:Value,w.cell? ⟨k,0,none⟩=some (.int .i64 c.k)/\w.cell? ⟨k,1,none⟩=some v1/\w.cell? ⟨k,2,none⟩=some v2/\w.cell? ⟨k,3,none⟩=some (.int .i64 c.uid)/\w.cell? ⟨k,4,none⟩=some (.int .i64 c.mode)/\w.cell? ⟨k,5,none⟩=some (.int .i64 c.fl)/\w.cell? ⟨k,6,none⟩=some (.int .i64 c.si)/\w.cell? ⟨k,7,none⟩=some v7/\(∀i,w.frozen? ⟨k,i,none⟩=false)/\k < w.heap.size:=by
 obtain⟨v0,v1,v2,hc,-⟩:=h.cmd;obtain⟨d0,d1,d2,d3,d4,d5,d6,d7,d8⟩:=bP hc;exact⟨_,_,_,d0,d1,d2,d3,d4,d5,d6,d7,(aO hc).1,d8⟩
end
/- 'append', 'copy', 'clear'; the next of a map. -/
section
variable {P : Program} {w0 : World} {φ : Ph} {s s' : Ob} {w : World} {n n' : Nat} {r l1 : Lg} {v : AV}
/-- Cells that are stored into a block, one behind the other. -/
theorem Ul {b off t:Nat} {fz:Nat × Nat}:∀(L:List Value) (w:World) (C:Array Value) (i:Nat),w.heap[b]?=some (.cells C t fz)->IE fz C.size->off+i+L.length<=C.size->(∀V ∈ L,V.oneCell'=true) ->
  ∃w' C',(storeCells ⟨b,off,none⟩ L i).run P w=.ok () w'/\w'.heap[b]?=some (.cells C' t fz)/\C'.size=C.size/\(∀(k:Nat) (V:Value),L[k]?=some V->C'[off+i+k]?=some V)/\(∀k,(k < off+i\/off+i+L.length<=k)->C'[k]?=C[k]?)/\(∀k,k≠b->w'.heap[k]?=w.heap[k]?)/\∀(B:Nat) (W:World),B<=b->Below B W w->Below B W w'
 | [],w,C,i,h,hf,hl,h1=>⟨w,C,rfl,h,rfl,by simp,λ_ _=>rfl,λ_ _=>rfl,λ_ _ _ h=>h⟩
 | V :: L,w,C,i,h,hf,hl,h1=>by
  simp only[List.length_cons] at hl;have hlt:off+i < C.size:=by omega
  have hst:(store ⟨b,off+i,none⟩ V).run P w=.ok () (w.setCell ⟨b,off+i,none⟩ V):=by
   rw[run_store P w _ V .plain (h1 V (by simp)),II (B:=0) h (Array.getElem?_eq_getElem hlt),TA h hf hlt];simp
  obtain⟨w',C',k1,k2,k3,k4,k5,k6,k7⟩:=Ul (b:=b) (off:=off) (t:=t) (fz:=fz) L (w.setCell ⟨b,off+i,none⟩ V) (C.setIfInBounds (off+i) V) (i+1) (Tz h V) (by simpa using hf) (by simp;omega) (λU hU=>h1 U (by simp[hU]));refine⟨w',C',?_,k2,by simpa using k3,λk U hk=>?_,λk hk=>?_,λk hk=>(k6 k hk).trans (heap_set w _ V hk),λB W hB hW=>k7 B W hB (hW.setCell (p:=⟨b,off+i,none⟩) hB V)⟩
  ·simp only[storeCells,Sem.run_bind,Addr.qI,hst,Result.andThen_ok]
   exact k1
  ·cases k with
   | zero =>
    simp only[List.getElem?_cons_zero,Option.some.injEq] at hk;subst hk;rw[Nat.add_zero,k5 _ (.inl (by omega))];simp[hlt]
   | succ k=>rw[show off+i+(k+1)=off+(i+1)+k by omega];exact k4 k U (by simpa using hk)
  ·rw[k5 k (by simp only[List.length_cons] at hk;omega),Array.getElem?_setIfInBounds_ne (by simp only[List.length_cons] at hk;omega)]
/-- What is forgotten. -/
theorem Rel.forget {i:Nat} (h:Rel P w0 φ s w) (hi:i < 16000000):Rel P w0 φ (s.put i 0 none) w:=by
 have gp:∀j q,(s.put i 0 none).get j q=if j=i/\q=0 then none else s.get j q:=λj q=>Ob.get_put hi (by omega)
 have g0:∀j o,(s.put i 0 none).get j 0=some o->j≠i/\s.get j 0=some o:=λj o hj=>by
  rw[gp] at hj
  by_cases e:j=i
  ·rw[if_pos ⟨e,rfl⟩] at hj;cases hj
  ·rw[if_neg (λh=>e h.1)] at hj;exact⟨e,hj⟩
 refine⟨h.base,λj t e k op hj=>?_,λj es c hj=>h.map j es c (g0 _ _ hj).2,λj m a l k hj=>h.it j m a l k (g0 _ _ hj).2,λj k hj=>h.sp j k (g0 _ _ hj).2,λj u hj=>h.head j u (g0 _ _ hj).2,λj p hj=>h.dom j p λe=>hj (by rw[gp];split <;> first | rfl | exact e),λj j' b x y h1 h2 h3 h4=>?_⟩
 ·obtain⟨h1,h2⟩:=g0 _ _ hj
  obtain⟨b,x,C,fz,R⟩:=h.row j t e k op h2;exact⟨b,x,C,fz,R.EC (Ph.le_refl _) rfl (λp=>by rw[gp,if_neg (λh=>h1 h.1)])⟩
 ·refine h.inj j j' b x y (λe=>h1 ?_) (λe=>h2 ?_) h3 h4
  ·rw[gp];split <;> first | rfl | exact e
  ·rw[gp];split <;> first | rfl | exact e
theorem Um {x:AV} {m:Nat} (h:wM x s n=.ok m s' n' r l1):∀b,x=.sc (.string b)->m=b.size:=by
 intro b hb;subst hb;obtain⟨rfl,_,_⟩:=aF (show(pure _:M _) _ _=_ from h);rfl
theorem acp {L:List Value} {C:Array Value} {o:Nat} {b:Nat} {t:Nat} {fz:Nat × Nat} (h:w.heap[b]?=some (.cells C t fz)) (hL:∀(j:Nat) (V:Value),L[j]?=some V->w.cell? ⟨b,o+j,none⟩=some V):∀(j:Nat) (V:Value),L[j]?=some V->C[o+j]?=some V:=by
 intro j V hj;have:=hL j V hj;simpa [World.cell?,h] using this
theorem acr {ts:List Nat} {ty:Nat} {x y:AV} {X Y:Value} (h:Rel P w0 φ s w) (hx:x.den φ=some X) (hy:y.den φ=some Y) (e:DW P ts x y s n=.ok v s' n' r l1) (hf:Free φ n n'):Made P w0 φ s' w n n' v (Builtin.append_ ts.toArray ty #[X,Y]):=by
 unfold DW at e;obtain⟨t,sa,na,ra,ma,rb,mb,ea,eb,rfl,rfl⟩:=ak e;obtain⟨rfl,rfl,h0⟩:=wW ea;obtain⟨el,s1,n1,r1,m1,r2,m2,e1,e2,rfl,rfl⟩:=ak eb;obtain⟨rfl,rfl,h1⟩:=pJ e1;obtain⟨k,s2,n2,r3,m3,r4,m4,e3,e4,rfl,rfl⟩:=ak e2;obtain⟨rfl,rfl,hsz⟩:=kJ e3;obtain⟨jU,s3,n3,r5,m5,r6,m6,e5,e6,rfl,rfl⟩:=ak e4;obtain⟨hby,rfl,rfl⟩:=bW e5;obtain⟨u,s4,n4,r7,m7,r8,m8,e7,e8,rfl,rfl⟩:=ak e6;obtain⟨rfl,rfl,hno⟩:=abp e7;have hno':I6 P ts.toArray[1]?:=by
  rw[show ts.toArray[1]?=(ts.drop 1)[0]? by simp];exact hno
 obtain⟨z,s5,n5,r9,m9,lg,m10,e9,e10,rfl,rfl⟩:=ak e8;obtain⟨rfl,rfl,i,Z,hi,hz,hZ,-⟩:=BN (φ:=φ) e9;obtain⟨m,s6,n6,zf,m11,zh,m12,e11,e12,rfl,rfl⟩:=ak e10;obtain⟨rfl,rfl,hm⟩:=Mg (P:=P) (w:=w) hy e11;have hmb:=Um e11;obtain⟨new,s7,n7,BQ,m13,Jd,m14,e13,e14,rfl,rfl⟩:=ak e12;obtain⟨rfl,rfl,NW,hN,hN1,zi⟩:=TK h hy e13 hmb;obtain⟨hb,e15⟩:=eG e14;simp only[Bool.and_eq_true] at hb;have ln:new.length=m * k:=Nat.eq_of_beq_eq_true hb.1;have lz:z.length=k:=Nat.eq_of_beq_eq_true hb.2;have hsz':i.size=k:=by rw[hi] at hsz;simpa using hsz
 have Je:i.bytes=jU:=by rw[hi] at hby;simpa using hby
 have hzl:Z.cells.size=k:=by have:=nI hZ;simp at this;omega
 clear e e2 e4 e6 e8 e10 e12 e14 ea eb
 split at e15
 ·-- nil
  rename_i nn cc;cases fE hx
  cases hm0:Nat.beq m 0 with
  | true =>
   rw[hm0] at e15;cases Nat.eq_of_beq_eq_true hm0
   obtain⟨hle,e16⟩:=eG (show cd (Nat.ble nn cc) _ (M.no 27) _ _=_ from e15);obtain⟨rfl,rfl,rfl⟩:=aF e16;have hle':=Nat.le_of_ble_eq_true hle;refine ze h ⟨rfl,rfl,.slice none nn cc,rfl,?_⟩;have hs:=run_sizeOf (w:=w) hsz;have hfw:=zi w rfl;simp only[Builtin.append_,h0,List.getElem?_toArray,List.getElem?_cons_zero,List.getElem?_cons_succ,Sem.run_bind,iZ h1,hs,Result.andThen_ok];rcases hno' with hz' | ⟨u,hz',⟨e,MF⟩ | MF⟩
   ·simp only[List.getElem?_toArray] at hz';rw[hz'];simp[hm,hle',hfw]
   ·simp only[List.getElem?_toArray] at hz';rw[hz'];simp[hm,hle',hfw,underlying,MF]
   ·simp only[List.getElem?_toArray] at hz';rw[hz'];simp[hm,hle',hfw,underlying,MF]
  | false =>
   rw[hm0] at e15;obtain⟨hb2,e16⟩:=eG (show cd _ _ (M.no 28) _ _=_ from e15);simp only[Bool.and_eq_true] at hb2;cases Nat.eq_of_beq_eq_true hb2.1
   cases Nat.eq_of_beq_eq_true hb2.2.1
   have hroom:=TQ hb2.2.2;have m0:m≠0:=λh=>by subst h;cases hm0
   obtain⟨j,s8,n8,Jj,m15,r16,m16,e17,e18,rfl,rfl⟩:=ak e16;obtain⟨rfl,rfl,rfl⟩:=aF e18;obtain⟨rfl,rfl,k1,k2,k3,k4⟩:=EF e17;have hφ:=hf _ (Nat.le_refl _) (by omega);have hge:=grownCap_ge w (0+m) 0 el;obtain⟨xx,zk⟩:∃xx,grownCap w (0+m) 0 el=0+m+xx:=⟨_,(Nat.add_sub_cancel' hge).symm⟩;have hap:=TP (P:=P) (w:=w) (ts:=ts.toArray) (ty:=ty) (a:=none) (k:=0) (c:=0) (old:=[]) (jU:=jU) (z:=Z) h0 h1 hi hsz' Je hz hno' hm zi (λW _=>rfl) (by omega) (by rw[Nat.zero_add];exact hroom)
   refine⟨_,_,_,hap,Mr (k:=0) (m:=m) (c:=0) (x:=xx) (lo:=[]) (ln:=new) h hφ hi hsz' hzl rfl hN (by simp) ln (by simpa using k1) zk (by simpa using k2) (by simpa using k3) (by simpa using k4),wU,nJ hφ,?_⟩;rw[zk];simp[AV.den,kW]
 ·rename_i ii oo nn cc
  obtain⟨b,yy,hp,rfl⟩:=pO hx;cases hin:Nat.ble (nn+m) cc with
  | true =>
   rw[hin] at e15;have hle:=Nat.le_of_ble_eq_true hin;obtain⟨q,s8,n8,Jj,m15,r16,m16,e16,e17,rfl,rfl⟩:=ak (show(rowAt ii >>= _) _ _=_ from e15);obtain⟨hg,rfl,rfl⟩:=uV e16;obtain⟨q2,s9,n9,r17,m17,r18,m18,e18,e19,rfl,rfl⟩:=ak e17;obtain⟨rfl,rfl,rfl⟩:=aF e19;obtain⟨rfl,-,k1⟩:=IL hp h hg hN e18;obtain⟨w',k2,k3⟩:=k1 0 (Nat.zero_le _);refine⟨φ,_,w',TN (S:=.nilIface) (ty:=ty) (k:=nn) (c:=cc+yy) (sz:=k) h0 h1 hsz hno' hm (zi w rfl) (by omega) (by rw[Addr.qI];exact k2),k3,.refl _ _,Ph.le_refl _,?_⟩;simp[AV.den,hp]
  | false =>
   rw[hin] at e15;have hgt:cc < nn+m:=Nat.lt_of_not_le λh=>by rw[Nat.ble_eq_true_of_le h] at hin;cases hin
   obtain⟨hb2,e16⟩:=eG (show cd _ _ (M.no 30) _ _=_ from e15);have hroom:=TQ hb2;unfold grow at e16;obtain⟨q,s8,n8,Jj,m15,r16,m16,e17,e18,rfl,rfl⟩:=ak e16;obtain⟨hg,rfl,rfl⟩:=uV e17;obtain⟨old,s9,n9,r17,m17,r18,m18,e19,e20,rfl,rfl⟩:=ak e18;obtain⟨rfl,rfl,lo,hc⟩:=IG e19;have lo':old.length=nn * k:=lo;obtain⟨b',x',C,fz,R⟩:=h.row _ _ _ _ _ hg;have hp':=R.ph;rw[hp] at hp';cases hp';obtain⟨OL,hO,hO1,hO2⟩:=IJ R hc;have lO:=nI hO;have hld:∀W:World,W.heap=w.heap->(Builtin.firstCells k nn (.slice (some ⟨b,oo,none⟩) nn (cc+yy))).run P W=.ok OL.toArray W:=λW hW=>by
    simp only[Builtin.firstCells];rw[show nn * k=OL.length by omega];exact IK λj V e=>by
     have:=hO2 j V e;simpa [World.cell?,hW] using this
   have hge:=grownCap_ge w (nn+m) (cc+yy) el;obtain⟨xx,zk⟩:∃xx,grownCap w (nn+m) (cc+yy) el=nn+m+xx:=⟨_,(Nat.add_sub_cancel' hge).symm⟩;have hap:cc+yy < nn+m->_:=λhlt=>TP (P:=P) (w:=w) (ts:=ts.toArray) (ty:=ty) (a:=some ⟨b,oo,none⟩) (k:=nn) (c:=cc+yy) (old:=OL) (jU:=jU) (z:=Z) h0 h1 hi hsz' Je hz hno' hm zi hld hlt (by omega);cases hop:q.2.2.2 with
   | false =>
    rw[hop] at e20;have y0:=R.shut hop;subst y0;obtain⟨j,s10,n10,r19,m19,r20,m20,e21,e22,rfl,rfl⟩:=ak (show(pE el k (old ++ new) true >>= _) _ _=_ from e20);obtain⟨rfl,rfl,rfl⟩:=aF e22;obtain⟨rfl,rfl,k1,k2,k3,k4⟩:=EF e21;have hφ:=hf _ (Nat.le_refl _) (by omega);refine⟨_,_,_,hap (by omega),Mr (k:=nn) (m:=m) (c:=cc+0) (x:=xx) (lo:=old) (ln:=new) h hφ hi hsz' hzl hO hN lo' ln k1 zk k2 k3 k4,wU,nJ hφ,?_⟩;rw[zk];simp[AV.den,kW]
   | true =>
    rw[hop] at e20;obtain⟨hb3,e21⟩:=eG (show cd _ _ (M.no 29) _ _=_ from e20);simp only[Bool.and_eq_true] at hb3;cases Nat.eq_of_beq_eq_true hb3.1
    have c1:q.2.2.1=cc * k:=Nat.eq_of_beq_eq_true hb3.2.1;have c2:q.1=el:=Nat.eq_of_beq_eq_true hb3.2.2.1;have c3:k=q.2.1:=Nat.eq_of_beq_eq_true hb3.2.2.2;obtain⟨q2,s10,n10,r19,m19,r20,m20,e22,e23,rfl,rfl⟩:=ak e21;obtain⟨rfl,_,rfl,zm,_⟩:=sP e22;obtain⟨j,s11,n11,r21,m21,r22,m22,e24,e25,rfl,rfl⟩:=ak e23;obtain⟨rfl,rfl,rfl⟩:=aF e25;obtain⟨rfl,rfl,k1,k2,k3,k4⟩:=EF e24;have hφ:=hf _ (Nat.le_refl _) (by omega);have hF:=h.forget zm
    by_cases Un:nn+m<=cc+yy
    ·obtain⟨x2,hx2⟩:∃x2,cc+yy=nn+m+x2:=⟨_,(Nat.add_sub_cancel' Un).symm⟩
     have hCs:C.size=(nn+m+x2) * k:=by rw[← hx2,R.size,c1,← c3,Nat.add_mul]
     have lN:=nI hN;have Jk:(nn+m+x2) * k=nn * k+m * k+x2 * k:=by rw[Nat.add_mul,Nat.add_mul]
     obtain⟨w',C',j1,j2,j3,j4,j5,j6,j7⟩:=Ul (P:=P) (b:=b) (off:=0+nn * k) NW w C 0 R.heap R.fz (by omega) hN1;refine⟨kH φ j b x2,_,w',TN (S:=.nilIface) (ty:=ty) (k:=nn) (c:=cc+yy) (sz:=k) h0 h1 hsz hno' hm (zi w rfl) Un (by rw[Addr.qI];exact j1),?_,wU,nJ hφ,by rw[hx2];simp[AV.den,kW]⟩;have hL:=wT hO hN;have hCO:=acp R.heap hO2;refine IU (W:=w') (l:=old ++ new) (e:=k) (C:=C') (fz:=fz) (L:=OL ++ NW) hF hφ (j7 _ _ R.le h.base) R.le (λkk hk _=>j6 kk hk) (λi' y' hi' hb'=>?_) (c2 ▸ j2) ?_ (λe=>by cases e) (by rw[j3];exact R.fz) hsz hL (λV hV=>?_) (λkk V hk=>?_) k2 k3 k4
     ·have hne:i'≠ii:=λe=>by subst e;rw[Ob.get_put zm (by omega),if_pos ⟨rfl,rfl⟩] at hi';exact hi' rfl
      rw[Ob.get_put zm (by omega),if_neg (λh=>hne h.1)] at hi';exact hne (h.inj i' ii b y' yy hi' (by rw[hg];simp) hb' hp)
     ·rw[j3,hCs,Jk];simp only[List.length_append];omega
     ·rcases List.mem_append.1 hV with hV | hV
      ·exact hO1 V hV
      ·exact hN1 V hV
     ·by_cases hkk:kk < OL.length
      ·rw[List.getElem?_append_left hkk] at hk
       rw[j5 kk (.inl (by omega))];have:=hCO kk V hk;simpa using this
      ·rw[List.getElem?_append_right (by omega)] at hk
       have:=j4 _ V hk
       rwa [show 0+nn * k+0+(kk - OL.length)=kk by omega] at this
    ·refine⟨_,_,_,hap (by omega),Mr (k:=nn) (m:=m) (c:=cc+yy) (x:=xx) (lo:=old) (ln:=new) hF hφ hi hsz' hzl hO hN lo' ln k1 zk k2 k3 k4,wU,nJ hφ,?_⟩
     rw[zk];simp[AV.den,kW]
 ·cases e15
theorem acA {ts:List Nat} {ty:Nat} {x:AV} {X:Value} (h:Rel P w0 φ s w) (hx:x.den φ=some X) (e:DZ P ts x s n=.ok v s' n' r l1):n'=n/\v=.fC []/\∃w',(Builtin.clear_ ts.toArray ty #[X]).run P w=.ok (.tuple #[]) w'/\Rel P w0 φ s' w':=by
 unfold DZ at e
 split at e
 ·rename_i i o k c
  obtain⟨b,y,hp,rfl⟩:=pO hx;obtain⟨t,s1,n1,r1,m1,r2,m2,e1,e2,rfl,rfl⟩:=ak e;obtain⟨rfl,rfl,h0⟩:=wW e1;obtain⟨el,s2,n2,r3,m3,r4,m4,e3,e4,rfl,rfl⟩:=ak e2;obtain⟨rfl,rfl,h1⟩:=pJ e3;cases k with
  | zero =>
   obtain⟨rfl,rfl,rfl⟩:=aF (show(pure _:M _) _ _=_ from e4);exact⟨rfl,rfl,w,by simp[Builtin.clear_,h0,underlying,h1],h⟩
  | succ k =>
   obtain⟨z,s3,n3,r5,m5,r6,m6,e5,e6,rfl,rfl⟩:=ak (show(sI P el >>= _) _ _=_ from e4);obtain⟨rfl,rfl,ii,Z,hi,hz,hZ,-⟩:=BN (φ:=φ) e5;obtain⟨q,s4,n4,r7,m7,r8,m8,e7,e8,rfl,rfl⟩:=ak e6;obtain⟨hg,rfl,rfl⟩:=uV e7;obtain⟨u,s5,n5,r9,m9,lg,m10,e9,e10,rfl,rfl⟩:=ak e8;obtain⟨rfl,rfl,rfl⟩:=aF e10;have hR:=Jc hZ (k+1);obtain⟨rfl,-,k1⟩:=IL hp h hg hR e9;obtain⟨w',k2,k3⟩:=k1 0 (Nat.zero_le _);have hzl:z.length=Z.cells.size:=by have:=nI hZ;simp at this;omega
   rw[hzl] at k2;have k4:(storeCells ⟨b,o,none⟩ (Builtin.zeroCells Z.cells (k+1)).toList).run P w=.ok () w':=k2;have BP:(zeroValue el).run P w=.ok Z w:=by simp[zeroValue,typeInfo,hi,hz]
   refine⟨rfl,rfl,w',?_,k3⟩;simp only[Builtin.clear_,h0,List.getElem?_toArray,List.getElem?_cons_zero,Sem.run_bind,iZ h1,Result.andThen_ok,BP,k4];simp
 ·cases fE hx
  obtain⟨t,s1,n1,r1,m1,r2,m2,e1,e2,rfl,rfl⟩:=ak e;obtain⟨rfl,rfl,h0⟩:=wW e1;obtain⟨el,s2,n2,r3,m3,r4,m4,e3,e4,rfl,rfl⟩:=ak e2;obtain⟨rfl,rfl,h1⟩:=pJ e3;obtain⟨rfl,rfl,rfl⟩:=aF e4;exact⟨rfl,rfl,w,by simp[Builtin.clear_,h0,underlying,h1],h⟩
 ·cases e
theorem acB {ts:List Nat} {ty:Nat} {d x:AV} {D X:Value} (h:Rel P w0 φ s w) (hd:d.den φ=some D) (hx:x.den φ=some X) (e:Ii P ts d x s n=.ok v s' n' r l1):n'=n/\∃V w',v.den φ=some V/\(Builtin.copy_ ts.toArray ty #[D,X]).run P w=.ok V w'/\Rel P w0 φ s' w':=by
 unfold Ii at e;obtain⟨t,s1,n1,r1,m1,r2,m2,e1,e2,rfl,rfl⟩:=ak e;obtain⟨rfl,rfl,h0⟩:=wW e1;obtain⟨el,s2,n2,r3,m3,r4,m4,e3,e4,rfl,rfl⟩:=ak e2;obtain⟨rfl,rfl,h1⟩:=pJ e3;obtain⟨sz,s3,n3,r5,m5,r6,m6,e5,e6,rfl,rfl⟩:=ak e4;obtain⟨rfl,rfl,hsz⟩:=kJ e5;obtain⟨dl,s4,n4,r7,m7,r8,m8,e7,e8,rfl,rfl⟩:=ak e6;obtain⟨rfl,rfl,hdl⟩:=Mg (P:=P) (w:=w) hd e7;obtain⟨xl,s5,n5,r9,m9,lg,m10,e9,e10,rfl,rfl⟩:=ak e8;obtain⟨rfl,rfl,hxl⟩:=Mg (P:=P) (w:=w) hx e9;have hmin:(cd (Nat.ble xl dl) xl dl)=Nat.min xl dl:=by
  cases hb:Nat.ble xl dl with
  | true=>exact(Nat.min_eq_left (Nat.le_of_ble_eq_true hb)).symm
  | false =>
   have:dl < xl:=Nat.lt_of_not_le λh=>by rw[Nat.ble_eq_true_of_le h] at hb;cases hb
   show dl=Nat.min xl dl;exact(Nat.min_eq_right (by omega)).symm
 rw[hmin] at e10;obtain⟨hstr,e25⟩:=eG (show cd (or (not (isStr x)) (Nat.beq (Nat.min xl dl) xl)) _ (M.no 38) _ _=_ from e10);obtain⟨new,s6,n6,zf,m11,zh,m12,e11,e12,rfl,rfl⟩:=ak e25;have hb0:∀b,x=.sc (.string b)->Nat.min xl dl=b.size:=by
  intro b hb;subst hb;have hxb:=Um e9 b rfl;simp only[isStr,Bool.not_true,Bool.false_or] at hstr;have:=Nat.eq_of_beq_eq_true hstr;omega
 obtain⟨rfl,rfl,NW,hN,hN1,zi⟩:=TK h hx e11 hb0;obtain⟨u,s7,n7,BQ,m13,Jd,m14,e13,e14,rfl,rfl⟩:=ak e12;obtain⟨rfl,rfl,rfl⟩:=aF e14;have key:n'=n6/\∃w' a c,D=.slice a dl c/\(match a with | some a=>storeCells a NW | none=>pure ():Sem Unit).run P w=.ok () w'/\Rel P w0 φ s' w':=by
  unfold Ih at e13
  split at e13
  ·rename_i i o k c
   obtain⟨b,y,hp,rfl⟩:=pO hd;obtain⟨q,s8,n8,Jj,m15,r16,m16,e15,e16,rfl,rfl⟩:=ak e13;obtain⟨hg,rfl,rfl⟩:=uV e15;obtain⟨rfl,-,k1⟩:=IL hp h hg hN e16;obtain⟨w',k2,k3⟩:=k1 0 (Nat.zero_le _);obtain⟨h9,_,_⟩:=aF (show(pure k:M _) _ _=_ from e7);subst h9;exact⟨rfl,w',_,_,rfl,k2,k3⟩
  ·obtain⟨b,y,hp,rfl⟩:=IZ hd
   split at e13
   ·obtain⟨-,rfl,rfl⟩:=aF e13
    simp only[aH] at hN;cases hN;obtain⟨h9,_,_⟩:=aF (show(pure 0:M _) _ _=_ from e7);subst h9;exact⟨rfl,w,_,_,rfl,by simp[storeCells],h⟩
   ·cases e13
  ·rename_i k c
   cases fE hd
   obtain⟨-,rfl,rfl⟩:=aF e13;obtain⟨h9,_,_⟩:=aF (show(pure k:M _) _ _=_ from e7);subst h9;exact⟨rfl,w,_,_,rfl,by simp,h⟩
  ·cases e13
 obtain⟨rfl,w',a,c,rfl,k2,k3⟩:=key;refine⟨rfl,goInt (Nat.min xl dl),w',rfl,?_,k3⟩;have hf:=zi w rfl;simp only[Builtin.copy_,h0,List.getElem?_toArray,List.getElem?_cons_zero,List.getElem?_cons_succ,Sem.run_bind,iZ h1,Result.andThen_ok,hxl,run_sizeOf hsz,hf];cases a with
 | none=>simp at k2;subst k2;simp
 | some a=>simp only at k2;simp[k2]
end
/- The next of a map of one at most. -/
section
variable {P : Program} {w0 : World} {φ : Ph} {s s' : Ob} {w : World} {n n' : Nat} {r l1 : Lg} {v : AV}
theorem acC {i b x m m' y since since' last last':Nat} {seen seen':List Nat} (h:Rel P w0 φ s w) (hg:s.get i 0=some (.it m since seen last)) (hp:φ i=some (b,x)) (hm:φ m=some (m',y)) (hi:i < 16000000) :
  (setObj b (.mapIter (some m') since' seen'.toArray last')).run P w=.ok () { w with heap:=w.heap.setIfInBounds b (.mapIter (some m') since' seen'.toArray last') }/\Rel P w0 φ (s.put i 0 (some (.it m since' seen' last'))) { w with heap:=w.heap.setIfInBounds b (.mapIter (some m') since' seen'.toArray last') }:=by
 obtain⟨b',y',m2,y2,h1,h2,h3,h4⟩:=h.it _ _ _ _ _ hg;rw[hp] at h1;cases h1;have hlt:b < w.heap.size:=(Array.getElem?_eq_some_iff.1 h4).1;refine⟨by simp[setObj,Sem.run,h4],?_⟩;have gp:∀j q,(s.put i 0 (some (.it m since' seen' last'))).get j q=if j=i/\q=0 then some (.it m since' seen' last') else s.get j q:=λj q=>Ob.get_put hi (by omega)
 have g0:(s.put i 0 (some (.it m since' seen' last'))).get i 0=some (.it m since' seen' last'):=by rw[gp,if_pos ⟨rfl,rfl⟩]
 have hW:∀(o:Obj) k,k≠b->(w.heap.setIfInBounds b o)[k]?=w.heap[k]?:=λo k hk=>by simp[Array.getElem?_setIfInBounds,show ¬b=k from λe=>hk e.symm]
 refine h.but (j:=i) (b:=b) (Ph.le_refl _) ⟨h.base.os,h.base.tape,h.base.output,by have:=h.base.size;simpa using this,λk hk=>(hW _ k (by omega)).trans (h.base.block k hk)⟩ (λk hk _=>hW _ k hk) (λi' p hne=>by rw[gp,if_neg (by omega)]) (λ_ _=>rfl)
  (λi' y hne ha hb=>hne (h.inj i' i b y x ha (by rw[hg];simp) hb hp)) (λv' hv'=>by rw[g0] at hv';cases hv') (λp _=>by rw[hp];simp) (λc y _ hc=>by rw[hp] at hc;cases hc;rfl)
  (λt' e' k' op' hg'=>by rw[g0] at hg';cases hg') (λes2 c2 hg'=>by rw[g0] at hg';cases hg') (λm3 a l c hg'=>?_)
 rw[g0] at hg';cases hg';exact⟨b,x,m',y,hp,h2,hm,by simp[hlt]⟩
theorem acD {ty:Nat} {x:AV} {X:Value} (h:Rel P w0 φ s w) (hx:x.den φ=some X) (e:Em x s n=.ok v s' n' r l1):n'=n/\∃V w',v.den φ=some V/\(Instr.next X false ty).run P w=.ok V w'/\Rel P w0 φ s' w':=by
 unfold Em at e;obtain⟨p,s1,n1,r1,m1,r2,m2,e1,e2,rfl,rfl⟩:=ak e;obtain⟨rfl,rfl,rfl⟩:=BO e1;obtain⟨hp0,e3⟩:=eG e2;have p0:=Nat.eq_of_beq_eq_true hp0;obtain⟨t,s2,n2,r3,m3,r4,m4,e4,e5,rfl,rfl⟩:=ak e3;obtain⟨hg,rfl,rfl⟩:=Uh e4;obtain⟨q,s3,n3,r5,m5,r6,m6,e6,e7,rfl,rfl⟩:=ak e5;obtain⟨hg2,rfl,rfl⟩:=yX e6;obtain⟨b,z,hp,rfl⟩:=pK hx;obtain⟨b',x',m',y',k1,k2,k3,k4⟩:=h.it _ _ _ _ _ hg;rw[hp] at k1;cases k1;obtain⟨b2,x2,ES,j1,j2,j3,hE⟩:=h.map _ _ _ hg2;rw[k3] at j1;cases j1;rw[p0];have Jl:(getObj b).run P w=.ok (.mapIter (some m') t.2.1 t.2.2.1.toArray t.2.2.2) w:=by simp[getObj,Sem.run,k4]
 have Jm:=sV (P:=P) j3;obtain⟨es,cl⟩:=q;dsimp only at hg2 hE j3 Jm e7
 match es,hg2,hE,e7 with
 | [],hg2,hE,e7 =>
  obtain⟨rfl,rfl,rfl⟩:=aF (show(pure _:M _) _ _=_ from e7);simp only[dU,Option.some.injEq] at hE;have MG:ES = #[]:=by apply Array.ext';simp[← hE]
  subst MG;refine⟨rfl,.tuple #[.bool false],w,by simp[AV.den,aH],?_,h⟩;simp[Instr.next,Jl,Jm,Question.forced]
 | [(k,u,bb)],hg2,hE,e7 =>
  obtain⟨K,V,L,a1,a2,a3,a4⟩:=sO hE;simp only[dU,Option.some.injEq] at a3;subst a3;have MG:ES = #[{ key:=K,val:=V,born:=bb }]:=by apply Array.ext';simp[a4]
  subst MG
  change (cd (List.elem bb t.2.2.1) _ _:M AV) _ _=_ at e7
  cases hel:List.elem bb t.2.2.1 with
  | true =>
   rw[hel] at e7;obtain⟨hb,e8⟩:=eG (show cd (Nat.blt bb t.2.2.2) _ (M.no 93) _ _=_ from e7);obtain⟨rfl,rfl,rfl⟩:=aF e8;have hlt:=mP hb;have hmem:bb ∈ t.2.2.1:=by simpa using hel
   refine⟨rfl,.tuple #[.bool false],w,by simp[AV.den,aH],?_,h⟩;simp[Instr.next,Jl,Jm,Question.forced,hmem,show ¬t.2.2.2<=bb by omega]
  | false =>
   rw[hel] at e7;obtain⟨hb,e8⟩:=eG (show cd (and (Nat.blt bb t.2.1) (List.isEmpty t.2.2.1)) _ (M.no 93) _ _=_ from e7);simp only[Bool.and_eq_true] at hb;have hlt:=mP hb.1;have hnil:t.2.2.1=[]:=by simpa using hb.2
   obtain⟨z1,s4,n4,r7,m7,r8,m8,e9,e10,rfl,rfl⟩:=ak e8;obtain⟨rfl,_,rfl,hi,_⟩:=sP e9;obtain⟨rfl,rfl,rfl⟩:=aF e10;obtain⟨g1,g2⟩:=acC (since':=t.2.1) (seen':=[bb]) (last':=cl) h hg hp k3 hi;refine⟨rfl,.tuple #[.bool true,K,V],_,by simp only[AV.den,aH,a1,a2],?_,g2⟩;rw[hnil] at Jl;have g1':(setObj b (.mapIter (some m') t.2.1 #[bb] cl)).run P w=_:=g1;simp[Instr.next,Jl,Jm,Question.forced,hlt,show ¬t.2.1<=bb by omega,g1']
 | _ :: _ :: _,_,_,e7=>cases e7
end
end Go.Proofs.YtfabngnaejjcmaaGreatDoor
