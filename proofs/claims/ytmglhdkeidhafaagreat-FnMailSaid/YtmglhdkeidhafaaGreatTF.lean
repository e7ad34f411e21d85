/- The proof's texts, part 41. -/
import Derived.Test.YtmglhdkeidhafaaGreatTE
namespace Go.Proofs.YtmglhdkeidhafaaGreat
open Go.RowKit
set_option linter.unusedVariables false
set_option linter.unusedSimpArgs false
set_option maxHeartbeats 2000000
set_option maxRecDepth 100000
/- A text that grows word by word: what is kept of it. -/
/-- The text v lies in block g, made behind A; all that A had is as it was. -/
def St (A wx:World) (g:Nat) (v:Value) (L:List Int) (n:Nat):Prop:=A.heap.size≤g∧bZ wx g v L∧Below A.heap.size A wx∧0 < L.length∧L.length≤n
theorem St.own {A wx:World} {g:Nat} {v:Value} {L:List Int} {n:Nat} (h:St A wx g v L n):bZ wx g v L:=h.2.1
theorem St.old {A wx:World} {g:Nat} {v:Value} {L:List Int} {n:Nat} (h:St A wx g v L n):Below A.heap.size A wx:=h.2.2.1
theorem St.ge {A wx:World} {g:Nat} {v:Value} {L:List Int} {n:Nat} (h:St A wx g v L n):A.heap.size≤g:=h.1
theorem St.lt {A wx:World} {g:Nat} {v:Value} {L:List Int} {n:Nat} (h:St A wx g v L n):g < wx.heap.size:=h.2.1.lt
theorem St.below {A wx w':World} {g:Nat} {v:Value} {L:List Int} {n:Nat} (h:St A wx g v L n) (hb:Below wx.heap.size wx w'):St A w' g v L n:=⟨h.1,h.2.1.below hb,Below.step h.2.2.1 hb,h.2.2.2⟩
/-- A row that was made later than block g lies elsewhere. -/
theorem iq.ne {w:World} {B g:Nat} {v:Value} {l:List Int} (h:iq w B v l) (hg:g < B):v.ownBlock≠some g:=fun e=>by have:=(h.row.lt g e).1;omega
theorem aD {p:Prop} (h:p):Hid p:=h
theorem St.made {A wx:World} {g:Nat} {v:Value} {L:List Int} {n:Nat} (h:St A wx g v L n):∀ k,v.ownBlock=some k→A.heap.size≤k:=by
 intro k hk
 obtain ⟨cap,rfl⟩:=h.own.form
 have e:g=k:=by simpa [Value.ownBlock] using hk
 have:=h.ge
 omega
theorem mO (s:List Int) (w:World):(convert 9 22 (.string (strOfNums s))).run Tryz.prog w=.ok (.slice (some ⟨w.heap.size,0,none⟩) s.length (grownCap w s.length 0 5)) (Lib.bytesWorld w 5 (strOfNums s)):=by
 have h:=Lib.run_convert_string_bytes (P:=Tryz.prog) w 9 22 5 (strOfNums s) Tryz.underlying9 Tryz.underlying22 Tryz.underlying5
 rwa [strOfNums_size] at h
/-- What '[]byte("..")' of a constant answers. -/
theorem LY (W:World) (l:List Int) (hl:Oct l) (hn:l.length≤1000):∃ w',(convert 22 22 (.slice (some ⟨W.heap.size,0,none⟩) l.length l.length)).run Tryz.prog (W.alloc (.cells (vals l).toArray 5))=.ok (.slice (some ⟨W.heap.size,0,none⟩) l.length l.length) w' ∧
  bZ w' W.heap.size (.slice (some ⟨W.heap.size,0,none⟩) l.length l.length) l∧Below W.heap.size W w':=by
 have hsh:(W.alloc (.cells (vals l).toArray 5)).shape? W.heap.size=some (5,(vals l).toArray.size):=by
  simp [World.shape?,World.alloc,-World.alloc_eq]
 refine ⟨(W.alloc (.cells (vals l).toArray 5)).freeze ⟨W.heap.size,(vals l).toArray.size,none⟩ 1,?_,⟨hl,l.length,(vals l).toArray,((vals l).toArray.size,(vals l).toArray.size+1),rfl,?_,.inr (by simp [ig]),Nat.le_refl _,by unfold maxLen;omega,by simp [ig],by simp [List.take_of_length_le,ig]⟩,rfl,rfl,rfl,?_,fun k hk=>?_⟩
 ·simp [convert,run_underlying Tryz.underlying22,run_underlying Tryz.underlying5,markStringish,hsh,Result.andThen]
 ·simp [World.freeze,World.alloc,-World.alloc_eq]
  rw [Array.getElem_modify_self]
  simp
 ·simp [World.freeze,World.alloc,-World.alloc_eq]
 ·have h1:W.heap.size≠k:=by omega
  simp [World.freeze,World.alloc,-World.alloc_eq,Array.getElem?_modify,Array.getElem?_push,h1,Ne.symm h1]
/- What ahb and ahc of package spec do. -/
section
variable {w w1 w2 : World} {g : Nat}
theorem gy (h:w.grownBy w1 (some g)) (hb:Below w1.heap.size w1 w2):w.grownBy w2 (some g):=⟨hb.os.trans h.os,hb.tape.trans h.tape,hb.output.trans h.output,Nat.le_trans h.size hb.size,fun k hk hne=>(hb.block k (Nat.lt_of_lt_of_le hk h.size)).trans (h.block k hk hne)⟩
theorem wN (h:w.grownBy w1 (some g)) (h2:w1.grownBy w2 (some g)):w.grownBy w2 (some g):=⟨h2.os.trans h.os,h2.tape.trans h.tape,h2.output.trans h.output,Nat.le_trans h.size h2.size,fun k hk hne=>(h2.block k (Nat.lt_of_lt_of_le hk h.size) hne).trans (h.block k hk hne)⟩
end
theorem Tj (w0 w:World) (g:Nat) (cv:Value) (L:List Int) (hc:bN w0 w g cv L) :
  Calls Tryz.prog 62 #[.pointer (some ⟨g,0,none⟩)] w fun e w'=>∃ u gq m,e=.returned u∧bZ w' gq u m∧w.heap.size≤gq∧bG m=true∧bN w0 w' g cv L∧w.grownBy w' (some g):=by
 have AB:Below w.heap.size w (w.alloc (.cells #[.string ⟨#[105,110,98,111,120]⟩,.string ⟨#[115,101,110,116]⟩,.string ⟨#[116,114,97,115,104]⟩,.string ⟨#[97]⟩,.string ⟨#[98]⟩] 9)):=bn _ _
 have K0:=aW w (.cells #[.string ⟨#[105,110,98,111,120]⟩,.string ⟨#[115,101,110,116]⟩,.string ⟨#[116,114,97,115,104]⟩,.string ⟨#[97]⟩,.string ⟨#[98]⟩] 9)
 have hgl:=hc.lt.2
 have hc0:=hc.below AB
 go_enter Tryz.func62,Tryz.ntmps62
 go_wp2_with fail
 refine (kQ w0 _ g cv L 5 hc0 (by omega) (by omega)).mono ?_
 rintro e w1 ⟨x,rfl,hx0,hx1,hc1,hg1⟩
 have K1:w1.heap[w.heap.size]?=_:=(hg1.block w.heap.size (lt_of_heap K0) (by simp;omega)).trans K0
 have hl1:=lt_of_heap K1
 have dH:Hid (bN w0 w1 g cv L):=hc1
 have gN:Hid (w.grownBy w1 (some g)):=wN (gy (World.grownBy.refl _ _) AB) hg1
 have hs1:=gN.out.size
 clear hc hc0 hc1 hg1 AB K0
 obtain ⟨j,rfl⟩:=Int.eq_ofNat_of_zero_le hx0
 obtain rfl | rfl | rfl | rfl | rfl:j=0∨j=1∨j=2∨j=3∨j=4:=by omega
 ·have hcell:w1.cell? ⟨w.heap.size,0,none⟩=some (.string ⟨#[105,110,98,111,120]⟩):=by rw [cell_of_row w1 w.heap.size 0 _ _ (0,0) K1];rfl
  have hcv:(convert 9 22 (.string ⟨#[105,110,98,111,120]⟩)).run Tryz.prog w1=.ok (.slice (some ⟨w1.heap.size,0,none⟩) 5 (grownCap w1 5 0 5)) (Lib.bytesWorld w1 5 (strOfNums [105,110,98,111,120])):=mO [105,110,98,111,120] w1
  obtain ⟨q1,q2⟩:=l9 w1 [105,110,98,111,120] (by intro x hx;simp at hx <;> omega) (by decide)
  have HQ:Hid (bZ (Lib.bytesWorld w1 5 (strOfNums [105,110,98,111,120])) w1.heap.size (.slice (some ⟨w1.heap.size,0,none⟩) 5 (grownCap w1 5 0 5)) [105,110,98,111,120]∧Below w1.heap.size w1 (Lib.bytesWorld w1 5 (strOfNums [105,110,98,111,120]))):=⟨q1,q2⟩
  clear q1 q2
  generalize Lib.bytesWorld w1 5 (strOfNums [105,110,98,111,120])=w2 at hcv HQ
  go_wp2
  go_ret
  exact ⟨_,w1.heap.size,[105,110,98,111,120],rfl,HQ.out.1,by omega,by decide,dH.out.below HQ.out.2,gy gN.out HQ.out.2⟩
 ·have hcell:w1.cell? ⟨w.heap.size,1,none⟩=some (.string ⟨#[115,101,110,116]⟩):=by rw [cell_of_row w1 w.heap.size 1 _ _ (0,0) K1];rfl
  have hcv:(convert 9 22 (.string ⟨#[115,101,110,116]⟩)).run Tryz.prog w1=.ok (.slice (some ⟨w1.heap.size,0,none⟩) 4 (grownCap w1 4 0 5)) (Lib.bytesWorld w1 5 (strOfNums [115,101,110,116])):=mO [115,101,110,116] w1
  obtain ⟨q1,q2⟩:=l9 w1 [115,101,110,116] (by intro x hx;simp at hx <;> omega) (by decide)
  have HQ:Hid (bZ (Lib.bytesWorld w1 5 (strOfNums [115,101,110,116])) w1.heap.size (.slice (some ⟨w1.heap.size,0,none⟩) 4 (grownCap w1 4 0 5)) [115,101,110,116]∧Below w1.heap.size w1 (Lib.bytesWorld w1 5 (strOfNums [115,101,110,116]))):=⟨q1,q2⟩
  clear q1 q2
  generalize Lib.bytesWorld w1 5 (strOfNums [115,101,110,116])=w2 at hcv HQ
  go_wp2
  go_ret
  exact ⟨_,w1.heap.size,[115,101,110,116],rfl,HQ.out.1,by omega,by decide,dH.out.below HQ.out.2,gy gN.out HQ.out.2⟩
 ·have hcell:w1.cell? ⟨w.heap.size,2,none⟩=some (.string ⟨#[116,114,97,115,104]⟩):=by rw [cell_of_row w1 w.heap.size 2 _ _ (0,0) K1];rfl
  have hcv:(convert 9 22 (.string ⟨#[116,114,97,115,104]⟩)).run Tryz.prog w1=.ok (.slice (some ⟨w1.heap.size,0,none⟩) 5 (grownCap w1 5 0 5)) (Lib.bytesWorld w1 5 (strOfNums [116,114,97,115,104])):=mO [116,114,97,115,104] w1
  obtain ⟨q1,q2⟩:=l9 w1 [116,114,97,115,104] (by intro x hx;simp at hx <;> omega) (by decide)
  have HQ:Hid (bZ (Lib.bytesWorld w1 5 (strOfNums [116,114,97,115,104])) w1.heap.size (.slice (some ⟨w1.heap.size,0,none⟩) 5 (grownCap w1 5 0 5)) [116,114,97,115,104]∧Below w1.heap.size w1 (Lib.bytesWorld w1 5 (strOfNums [116,114,97,115,104]))):=⟨q1,q2⟩
  clear q1 q2
  generalize Lib.bytesWorld w1 5 (strOfNums [116,114,97,115,104])=w2 at hcv HQ
  go_wp2
  go_ret
  exact ⟨_,w1.heap.size,[116,114,97,115,104],rfl,HQ.out.1,by omega,by decide,dH.out.below HQ.out.2,gy gN.out HQ.out.2⟩
 ·have hcell:w1.cell? ⟨w.heap.size,3,none⟩=some (.string ⟨#[97]⟩):=by rw [cell_of_row w1 w.heap.size 3 _ _ (0,0) K1];rfl
  have hcv:(convert 9 22 (.string ⟨#[97]⟩)).run Tryz.prog w1=.ok (.slice (some ⟨w1.heap.size,0,none⟩) 1 (grownCap w1 1 0 5)) (Lib.bytesWorld w1 5 (strOfNums [97])):=mO [97] w1
  obtain ⟨q1,q2⟩:=l9 w1 [97] (by intro x hx;simp at hx <;> omega) (by decide)
  have HQ:Hid (bZ (Lib.bytesWorld w1 5 (strOfNums [97])) w1.heap.size (.slice (some ⟨w1.heap.size,0,none⟩) 1 (grownCap w1 1 0 5)) [97]∧Below w1.heap.size w1 (Lib.bytesWorld w1 5 (strOfNums [97]))):=⟨q1,q2⟩
  clear q1 q2
  generalize Lib.bytesWorld w1 5 (strOfNums [97])=w2 at hcv HQ
  go_wp2
  go_ret
  exact ⟨_,w1.heap.size,[97],rfl,HQ.out.1,by omega,by decide,dH.out.below HQ.out.2,gy gN.out HQ.out.2⟩
 ·have hcell:w1.cell? ⟨w.heap.size,4,none⟩=some (.string ⟨#[98]⟩):=by rw [cell_of_row w1 w.heap.size 4 _ _ (0,0) K1];rfl
  have hcv:(convert 9 22 (.string ⟨#[98]⟩)).run Tryz.prog w1=.ok (.slice (some ⟨w1.heap.size,0,none⟩) 1 (grownCap w1 1 0 5)) (Lib.bytesWorld w1 5 (strOfNums [98])):=mO [98] w1
  obtain ⟨q1,q2⟩:=l9 w1 [98] (by intro x hx;simp at hx <;> omega) (by decide)
  have HQ:Hid (bZ (Lib.bytesWorld w1 5 (strOfNums [98])) w1.heap.size (.slice (some ⟨w1.heap.size,0,none⟩) 1 (grownCap w1 1 0 5)) [98]∧Below w1.heap.size w1 (Lib.bytesWorld w1 5 (strOfNums [98]))):=⟨q1,q2⟩
  clear q1 q2
  generalize Lib.bytesWorld w1 5 (strOfNums [98])=w2 at hcv HQ
  go_wp2
  go_ret
  exact ⟨_,w1.heap.size,[98],rfl,HQ.out.1,by omega,by decide,dH.out.below HQ.out.2,gy gN.out HQ.out.2⟩
theorem acZ (w0 w:World) (g:Nat) (cv:Value) (L:List Int) (hc:bN w0 w g cv L) :
  Calls Tryz.prog 63 #[.pointer (some ⟨g,0,none⟩)] w fun e w'=>∃ u gq m,e=.returned u∧bZ w' gq u m∧w.heap.size≤gq∧dU m=true∧bN w0 w' g cv L∧w.grownBy w' (some g):=by
 have AB:Below w.heap.size w (w.alloc (.cells #[.string ⟨#[104,105]⟩,.string ⟨#[]⟩,.string ⟨#[97,32,98]⟩,.string ⟨#[34,113,34]⟩,.string ⟨#[114,101,58,32,120]⟩,.string ⟨#[92]⟩] 9)):=bn _ _
 have K0:=aW w (.cells #[.string ⟨#[104,105]⟩,.string ⟨#[]⟩,.string ⟨#[97,32,98]⟩,.string ⟨#[34,113,34]⟩,.string ⟨#[114,101,58,32,120]⟩,.string ⟨#[92]⟩] 9)
 have hgl:=hc.lt.2
 have hc0:=hc.below AB
 go_enter Tryz.func63,Tryz.ntmps63
 go_wp2_with fail
 refine (kQ w0 _ g cv L 6 hc0 (by omega) (by omega)).mono ?_
 rintro e w1 ⟨x,rfl,hx0,hx1,hc1,hg1⟩
 have K1:w1.heap[w.heap.size]?=_:=(hg1.block w.heap.size (lt_of_heap K0) (by simp;omega)).trans K0
 have hl1:=lt_of_heap K1
 have dH:Hid (bN w0 w1 g cv L):=hc1
 have gN:Hid (w.grownBy w1 (some g)):=wN (gy (World.grownBy.refl _ _) AB) hg1
 have hs1:=gN.out.size
 clear hc hc0 hc1 hg1 AB K0
 obtain ⟨j,rfl⟩:=Int.eq_ofNat_of_zero_le hx0
 obtain rfl | rfl | rfl | rfl | rfl | rfl:j=0∨j=1∨j=2∨j=3∨j=4∨j=5:=by omega
 ·have hcell:w1.cell? ⟨w.heap.size,0,none⟩=some (.string ⟨#[104,105]⟩):=by rw [cell_of_row w1 w.heap.size 0 _ _ (0,0) K1];rfl
  have hcv:(convert 9 22 (.string ⟨#[104,105]⟩)).run Tryz.prog w1=.ok (.slice (some ⟨w1.heap.size,0,none⟩) 2 (grownCap w1 2 0 5)) (Lib.bytesWorld w1 5 (strOfNums [104,105])):=mO [104,105] w1
  obtain ⟨q1,q2⟩:=l9 w1 [104,105] (by intro x hx;simp at hx <;> omega) (by decide)
  have HQ:Hid (bZ (Lib.bytesWorld w1 5 (strOfNums [104,105])) w1.heap.size (.slice (some ⟨w1.heap.size,0,none⟩) 2 (grownCap w1 2 0 5)) [104,105]∧Below w1.heap.size w1 (Lib.bytesWorld w1 5 (strOfNums [104,105]))):=⟨q1,q2⟩
  clear q1 q2
  generalize Lib.bytesWorld w1 5 (strOfNums [104,105])=w2 at hcv HQ
  go_wp2
  go_ret
  exact ⟨_,w1.heap.size,[104,105],rfl,HQ.out.1,by omega,by decide,dH.out.below HQ.out.2,gy gN.out HQ.out.2⟩
 ·have hcell:w1.cell? ⟨w.heap.size,1,none⟩=some (.string ⟨#[]⟩):=by rw [cell_of_row w1 w.heap.size 1 _ _ (0,0) K1];rfl
  have hcv:(convert 9 22 (.string ⟨#[]⟩)).run Tryz.prog w1=.ok (.slice (some ⟨w1.heap.size,0,none⟩) 0 (grownCap w1 0 0 5)) (Lib.bytesWorld w1 5 (strOfNums [])):=mO [] w1
  obtain ⟨q1,q2⟩:=l9 w1 [] (by intro x hx;simp at hx <;> omega) (by decide)
  have HQ:Hid (bZ (Lib.bytesWorld w1 5 (strOfNums [])) w1.heap.size (.slice (some ⟨w1.heap.size,0,none⟩) 0 (grownCap w1 0 0 5)) []∧Below w1.heap.size w1 (Lib.bytesWorld w1 5 (strOfNums []))):=⟨q1,q2⟩
  clear q1 q2
  generalize Lib.bytesWorld w1 5 (strOfNums [])=w2 at hcv HQ
  go_wp2
  go_ret
  exact ⟨_,w1.heap.size,[],rfl,HQ.out.1,by omega,by decide,dH.out.below HQ.out.2,gy gN.out HQ.out.2⟩
 ·have hcell:w1.cell? ⟨w.heap.size,2,none⟩=some (.string ⟨#[97,32,98]⟩):=by rw [cell_of_row w1 w.heap.size 2 _ _ (0,0) K1];rfl
  have hcv:(convert 9 22 (.string ⟨#[97,32,98]⟩)).run Tryz.prog w1=.ok (.slice (some ⟨w1.heap.size,0,none⟩) 3 (grownCap w1 3 0 5)) (Lib.bytesWorld w1 5 (strOfNums [97,32,98])):=mO [97,32,98] w1
  obtain ⟨q1,q2⟩:=l9 w1 [97,32,98] (by intro x hx;simp at hx <;> omega) (by decide)
  have HQ:Hid (bZ (Lib.bytesWorld w1 5 (strOfNums [97,32,98])) w1.heap.size (.slice (some ⟨w1.heap.size,0,none⟩) 3 (grownCap w1 3 0 5)) [97,32,98]∧Below w1.heap.size w1 (Lib.bytesWorld w1 5 (strOfNums [97,32,98]))):=⟨q1,q2⟩
  clear q1 q2
  generalize Lib.bytesWorld w1 5 (strOfNums [97,32,98])=w2 at hcv HQ
  go_wp2
  go_ret
  exact ⟨_,w1.heap.size,[97,32,98],rfl,HQ.out.1,by omega,by decide,dH.out.below HQ.out.2,gy gN.out HQ.out.2⟩
 ·have hcell:w1.cell? ⟨w.heap.size,3,none⟩=some (.string ⟨#[34,113,34]⟩):=by rw [cell_of_row w1 w.heap.size 3 _ _ (0,0) K1];rfl
  have hcv:(convert 9 22 (.string ⟨#[34,113,34]⟩)).run Tryz.prog w1=.ok (.slice (some ⟨w1.heap.size,0,none⟩) 3 (grownCap w1 3 0 5)) (Lib.bytesWorld w1 5 (strOfNums [34,113,34])):=mO [34,113,34] w1
  obtain ⟨q1,q2⟩:=l9 w1 [34,113,34] (by intro x hx;simp at hx <;> omega) (by decide)
  have HQ:Hid (bZ (Lib.bytesWorld w1 5 (strOfNums [34,113,34])) w1.heap.size (.slice (some ⟨w1.heap.size,0,none⟩) 3 (grownCap w1 3 0 5)) [34,113,34]∧Below w1.heap.size w1 (Lib.bytesWorld w1 5 (strOfNums [34,113,34]))):=⟨q1,q2⟩
  clear q1 q2
  generalize Lib.bytesWorld w1 5 (strOfNums [34,113,34])=w2 at hcv HQ
  go_wp2
  go_ret
  exact ⟨_,w1.heap.size,[34,113,34],rfl,HQ.out.1,by omega,by decide,dH.out.below HQ.out.2,gy gN.out HQ.out.2⟩
 ·have hcell:w1.cell? ⟨w.heap.size,4,none⟩=some (.string ⟨#[114,101,58,32,120]⟩):=by rw [cell_of_row w1 w.heap.size 4 _ _ (0,0) K1];rfl
  have hcv:(convert 9 22 (.string ⟨#[114,101,58,32,120]⟩)).run Tryz.prog w1=.ok (.slice (some ⟨w1.heap.size,0,none⟩) 5 (grownCap w1 5 0 5)) (Lib.bytesWorld w1 5 (strOfNums [114,101,58,32,120])):=mO [114,101,58,32,120] w1
  obtain ⟨q1,q2⟩:=l9 w1 [114,101,58,32,120] (by intro x hx;simp at hx <;> omega) (by decide)
  have HQ:Hid (bZ (Lib.bytesWorld w1 5 (strOfNums [114,101,58,32,120])) w1.heap.size (.slice (some ⟨w1.heap.size,0,none⟩) 5 (grownCap w1 5 0 5)) [114,101,58,32,120]∧Below w1.heap.size w1 (Lib.bytesWorld w1 5 (strOfNums [114,101,58,32,120]))):=⟨q1,q2⟩
  clear q1 q2
  generalize Lib.bytesWorld w1 5 (strOfNums [114,101,58,32,120])=w2 at hcv HQ
  go_wp2
  go_ret
  exact ⟨_,w1.heap.size,[114,101,58,32,120],rfl,HQ.out.1,by omega,by decide,dH.out.below HQ.out.2,gy gN.out HQ.out.2⟩
 ·have hcell:w1.cell? ⟨w.heap.size,5,none⟩=some (.string ⟨#[92]⟩):=by rw [cell_of_row w1 w.heap.size 5 _ _ (0,0) K1];rfl
  have hcv:(convert 9 22 (.string ⟨#[92]⟩)).run Tryz.prog w1=.ok (.slice (some ⟨w1.heap.size,0,none⟩) 1 (grownCap w1 1 0 5)) (Lib.bytesWorld w1 5 (strOfNums [92])):=mO [92] w1
  obtain ⟨q1,q2⟩:=l9 w1 [92] (by intro x hx;simp at hx <;> omega) (by decide)
  have HQ:Hid (bZ (Lib.bytesWorld w1 5 (strOfNums [92])) w1.heap.size (.slice (some ⟨w1.heap.size,0,none⟩) 1 (grownCap w1 1 0 5)) [92]∧Below w1.heap.size w1 (Lib.bytesWorld w1 5 (strOfNums [92]))):=⟨q1,q2⟩
  clear q1 q2
  generalize Lib.bytesWorld w1 5 (strOfNums [92])=w2 at hcv HQ
  go_wp2
  go_ret
  exact ⟨_,w1.heap.size,[92],rfl,HQ.out.1,by omega,by decide,dH.out.below HQ.out.2,gy gN.out HQ.out.2⟩
/- What Tk of package spec draws: a command that may be. -/
/-- Bytes of one's own, or none. -/
def nQ (w:World) (v:Value) (l:List Int):Prop:=(v=.slice none 0 0∧l=[])∨∃ q,bZ w q v l
/-- Bytes that lie in none of three blocks, but behind the last one. -/
def QB (w:World) (g k rr:Nat) (v:Value) (l:List Int):Prop:=(∃ a n c,v=.slice a n c)∧Bs w v l∧v.ownBlock≠some g∧v.ownBlock≠some k∧v.ownBlock≠some rr∧(∀ b,v.ownBlock=some b→rr < b∧b < w.heap.size)∧nQ w v l
/-- The text: none, or bytes of the call's own beside all else. -/
def wO (w:World) (g k rr:Nat) (v0 v1 v2:Value) (l:List Int):Prop:=(v2=.slice none 0 0∧l=[])∨∃ q,bZ w q v2 l∧v0.ownBlock≠some q∧v1.ownBlock≠some q∧q≠g∧q≠k∧rr < q
/-- Where Tk stands. -/
structure bS (w0 wI w:World) (g k rr:Nat) (cv:Value) (L:List Int) (c:dS):Prop where
 cur:bN w0 w g cv L
 gr:wI.grownBy w (some g)
 res:w.heap[rr]?=some (.cells #[.int .i64 0,.slice none 0 0,.slice none 0 0,.int .i64 0,.int .i64 0,.int .i64 0,.int .i64 0,.slice none 0 0] 28 (0,0))
 cmd:∃ v0 v1 v2,w.heap[k]?=some (.cells #[.int .i64 c.k,v0,v1,.int .i64 c.uid,.int .i64 c.mode,.int .i64 c.fl,.int .i64 c.si,v2] 28 (0,0))∧QB w g k rr v0 c.bx∧QB w g k rr v1 c.tt∧wO w g k rr v0 v1 v2 c.tx
/-- Where the blocks lie. -/
structure uT (w0 wI:World) (g k rr:Nat):Prop where
 gI:g < wI.heap.size
 g0:w0.heap.size≤g
 kI:wI.heap.size≤k
 rI:wI.heap.size≤rr
 kr:k≠rr
section
variable {w0 wI w w' : World} {g k rr : Nat} {cv v v0 v1 v2 : Value} {L l : List Int} {c : dS}
theorem nQ.gb {j:Nat} (h:nQ w v l) (hG:w.grownBy w' (some j)) (hj:v.ownBlock≠some j):nQ w' v l:=by
 rcases h with h | ⟨q,h⟩
 ·exact .inl h
 ·refine .inr ⟨q,h.frame (hG.block q h.lt fun e=>hj ?_)⟩
  obtain ⟨cap,rfl⟩:=h.form
  simp only [Value.ownBlock]
  exact e
theorem QB.gb {j:Nat} (h:QB w g k rr v l) (hG:w.grownBy w' (some j)) (hj:j=g∨j=k∨j=rr):QB w' g k rr v l:=by
 refine ⟨h.1,h.2.1.grown hG ?_,h.2.2.1,h.2.2.2.1,h.2.2.2.2.1,fun b hb=>⟨(h.2.2.2.2.2.1 b hb).1,Nat.lt_of_lt_of_le (h.2.2.2.2.2.1 b hb).2 hG.size⟩,h.2.2.2.2.2.2.gb hG ?_⟩
 all_goals
  rcases hj with rfl | rfl | rfl
  ·exact h.2.2.1
  ·exact h.2.2.2.1
  ·exact h.2.2.2.2.1
theorem wO.gb {j:Nat} (h:wO w g k rr v0 v1 v2 l) (hG:w.grownBy w' (some j)) (hj:j=g∨j=k∨j=rr):wO w' g k rr v0 v1 v2 l:=by
 rcases h with h | ⟨q,h,h0,h1,h2,h3,h4⟩
 ·exact .inl h
 ·exact .inr ⟨q,h.frame (hG.block q h.lt (by simp only [ne_eq,Option.some.injEq];omega)),h0,h1,h2,h3,h4⟩
theorem wO.bs (h:wO w g k rr v0 v1 v2 l):Bs w v2 l:=by
 rcases h with ⟨rfl,rfl⟩ | ⟨q,h,-⟩
 ·exact yN w
 ·exact h.bs
theorem wO.form (h:wO w g k rr v0 v1 v2 l):∃ a n c,v2=.slice a n c:=by
 rcases h with ⟨rfl,rfl⟩ | ⟨q,h,-⟩
 ·exact ⟨_,_,_,rfl⟩
 ·obtain ⟨cap,rfl⟩:=h.form;exact ⟨_,_,_,rfl⟩
theorem bS.draw (h:bS w0 wI w g k rr cv L c) (P:uT w0 wI g k rr) (hC:bN w0 w' g cv L) (hG:w.grownBy w' (some g)):bS w0 wI w' g k rr cv L c:=by
 obtain ⟨v0,v1,v2,hc,q0,q1,q2⟩:=h.cmd
 have p1:=P.gI
 have p2:=P.kI
 have p3:=P.rI
 exact ⟨hC,wN h.gr hG,(hG.block rr (lt_of_heap h.res) (by simp;omega)).trans h.res,v0,v1,v2,(hG.block k (lt_of_heap hc) (by simp;omega)).trans hc,q0.gb hG (.inl rfl),q1.gb hG (.inl rfl),q2.gb hG (.inl rfl)⟩
theorem Ga (w:World) (k i:Nat) (x:Value):w.grownBy (w.setCell ⟨k,i,none⟩ x) (some k):=grownBy_setCell (World.grownBy.refl _ _)
theorem Gb {i:Nat} {x:Value} (h:wI.grownBy w (some g)) (hk:wI.heap.size≤k):wI.grownBy (w.setCell ⟨k,i,none⟩ x) (some g):=⟨h.os,h.tape,h.output,by rw [bf];exact h.size,fun j hj hne=>(Below.heap_setCell _ _ _ _ (show j≠k by omega)).trans (h.block j hj hne)⟩
theorem bS.qg {j:Nat} {n:Int} {c':dS} (h:bS w0 wI w g k rr cv L c) (P:uT w0 wI g k rr) (hj:(j=0∧c' = { c with k:=n })∨(j=3∧c' = { c with uid:=n })∨(j=4∧c' = { c with mode:=n })∨(j=5∧c' = { c with fl:=n })∨(j=6∧c' = { c with si:=n })):bS w0 wI (w.setCell ⟨k,j,none⟩ (.int .i64 n)) g k rr cv L c':=by
 obtain ⟨v0,v1,v2,hc,q0,q1,q2⟩:=h.cmd
 have p1:=P.gI
 have p2:=P.kI
 have p0:=P.g0
 have hG:=Ga w k j (.int .i64 n)
 have hq:k=g∨k=k∨k=rr:=.inr (.inl rfl)
 refine ⟨h.cur.set (by omega) (by omega),Gb h.gr p2,cO (k:=k) (i:=j) (v:=.int .i64 n) h.res (Ne.symm P.kr),?_⟩
 rcases hj with ⟨rfl,rfl⟩ | ⟨rfl,rfl⟩ | ⟨rfl,rfl⟩ | ⟨rfl,rfl⟩ | ⟨rfl,rfl⟩
 ·exact ⟨v0,v1,v2,aJ (i:=0) (v:=.int .i64 n) hc,q0.gb hG hq,q1.gb hG hq,q2.gb hG hq⟩
 ·exact ⟨v0,v1,v2,aJ (i:=3) (v:=.int .i64 n) hc,q0.gb hG hq,q1.gb hG hq,q2.gb hG hq⟩
 ·exact ⟨v0,v1,v2,aJ (i:=4) (v:=.int .i64 n) hc,q0.gb hG hq,q1.gb hG hq,q2.gb hG hq⟩
 ·exact ⟨v0,v1,v2,aJ (i:=5) (v:=.int .i64 n) hc,q0.gb hG hq,q1.gb hG hq,q2.gb hG hq⟩
 ·exact ⟨v0,v1,v2,aJ (i:=6) (v:=.int .i64 n) hc,q0.gb hG hq,q1.gb hG hq,q2.gb hG hq⟩
theorem QB.of {gq N:Nat} (h:bZ w gq v l) (hN:N≤gq) (h1:g < N) (h2:k < N) (h3:rr < N):QB w g k rr v l:=by
 have hlt:=h.lt
 obtain ⟨cap,rfl⟩:=h.form
 have e:(Value.slice (some ⟨gq,0,none⟩) l.length cap).ownBlock=some gq:=rfl
 refine ⟨⟨_,_,_,rfl⟩,h.bs,?_,?_,?_,?_,.inr ⟨gq,h⟩⟩
 ·rw [e];simp;omega
 ·rw [e];simp;omega
 ·rw [e];simp;omega
 ·rw [e];rintro b hb;cases hb;omega
theorem QB.nil (w:World) (g k rr:Nat):QB w g k rr (.slice none 0 0) []:=⟨⟨_,_,_,rfl⟩,yN w,by simp [Value.ownBlock],by simp [Value.ownBlock],by simp [Value.ownBlock],by simp [Value.ownBlock],.inl ⟨rfl,rfl⟩⟩
/-- Bytes that were made since are put into a cell. -/
theorem bS.wP {j gq:Nat} {u:Value} {x:List Int} {c':dS} (h:bS w0 wI w g k rr cv L c) (P:uT w0 wI g k rr) (hC:bN w0 w' g cv L) (hG:w.grownBy w' (some g)) (O:bZ w' gq u x) (hge:w.heap.size≤gq) (hj:(j=1∧c' = { c with bx:=x })∨(j=2∧c' = { c with tt:=x })∨(j=7∧c' = { c with tx:=x })):bS w0 wI (w'.setCell ⟨k,j,none⟩ u) g k rr cv L c':=by
 have p1:=P.gI
 have p2:=P.kI
 have p0:=P.g0
 have hgl:=h.cur.lt.2
 have hrl:=lt_of_heap h.res
 obtain ⟨v0,v1,v2,hc,q0,q1,q2⟩:=h.cmd
 have hkl:=lt_of_heap hc
 have Q:=QB.of O hge hgl hkl hrl
 have hD:=h.draw P hC hG
 have hc':=(hG.block k hkl (by simp;omega)).trans hc
 have hq:k=g∨k=k∨k=rr:=.inr (.inl rfl)
 have g0:=q0.gb hG (.inl rfl)
 have g1:=q1.gb hG (.inl rfl)
 have g2:=q2.gb hG (.inl rfl)
 have hS:=Ga w' k j u
 obtain ⟨cp,rfl⟩:=O.form
 refine ⟨hD.cur.set (by omega) (by omega),Gb hD.gr p2,cO (k:=k) (i:=j) (v:=.slice (some ⟨gq,0,none⟩) x.length cp) hD.res (Ne.symm P.kr),?_⟩
 rcases hj with ⟨rfl,rfl⟩ | ⟨rfl,rfl⟩ | ⟨rfl,rfl⟩
 ·refine ⟨_,v1,v2,aJ (i:=1) hc',Q.gb hS hq,g1.gb hS hq,?_⟩
  rcases q2 with e | ⟨q,t,t0,t1,t2,t3,t4⟩
  ·exact .inl e
  ·have hl:=t.lt
   refine .inr ⟨q,(t.frame (hG.block q hl (by simp;omega))).frame (Below.heap_setCell _ _ _ _ (show q≠k from t3)),?_,t1,t2,t3,t4⟩
   simp only [Value.ownBlock,ne_eq,Option.some.injEq];omega
 ·refine ⟨v0,_,v2,aJ (i:=2) hc',g0.gb hS hq,Q.gb hS hq,?_⟩
  rcases q2 with e | ⟨q,t,t0,t1,t2,t3,t4⟩
  ·exact .inl e
  ·have hl:=t.lt
   refine .inr ⟨q,(t.frame (hG.block q hl (by simp;omega))).frame (Below.heap_setCell _ _ _ _ (show q≠k from t3)),t0,?_,t2,t3,t4⟩
   simp only [Value.ownBlock,ne_eq,Option.some.injEq];omega
 ·refine ⟨v0,v1,_,aJ (i:=7) hc',g0.gb hS hq,g1.gb hS hq,.inr ⟨gq,O.frame (Below.heap_setCell _ _ _ _ (show gq≠k by omega)),fun e=>?_,fun e=>?_,by omega,by omega,by omega⟩⟩
  ·have:=(q0.2.2.2.2.2.1 gq e).2;omega
  ·have:=(q1.2.2.2.2.2.1 gq e).2;omega
theorem bS.ac3 {c':dS} (h:bS w0 wI w g k rr cv L c) (P:uT w0 wI g k rr) (hj:c' = { c with bx:=[] }):bS w0 wI (w.setCell ⟨k,1,none⟩ (.slice none 0 0)) g k rr cv L c':=by
 obtain ⟨v0,v1,v2,hc,q0,q1,q2⟩:=h.cmd
 have p1:=P.gI
 have p2:=P.kI
 have p0:=P.g0
 have hS:=Ga w k 1 (.slice none 0 0)
 have hq:k=g∨k=k∨k=rr:=.inr (.inl rfl)
 subst hj
 refine ⟨h.cur.set (by omega) (by omega),Gb h.gr p2,cO (k:=k) (i:=1) (v:=.slice none 0 0) h.res (Ne.symm P.kr),.slice none 0 0,v1,v2,aJ (i:=1) hc,QB.nil _ _ _ _,q1.gb hS hq,?_⟩
 rcases q2.gb hS hq with e | ⟨q,t,t0,t1,r⟩
 ·exact .inl e
 ·exact .inr ⟨q,t,by simp [Value.ownBlock],t1,r⟩
theorem bS.below (h:bS w0 wI w g k rr cv L c) (P:uT w0 wI g k rr) (hb:Below w.heap.size w w'):bS w0 wI w' g k rr cv L c:=h.draw P (h.cur.below hb) (gy (World.grownBy.refl _ _) hb)
theorem bS.cells (h:bS w0 wI w g k rr cv L c):∃ v1 v2 v7:Value,w.cell? ⟨k,0,none⟩=some (.int .i64 c.k)∧w.cell? ⟨k,1,none⟩=some v1∧w.cell? ⟨k,2,none⟩=some v2∧w.cell? ⟨k,3,none⟩=some (.int .i64 c.uid)∧w.cell? ⟨k,4,none⟩=some (.int .i64 c.mode)∧w.cell? ⟨k,5,none⟩=some (.int .i64 c.fl)∧w.cell? ⟨k,6,none⟩=some (.int .i64 c.si)∧w.cell? ⟨k,7,none⟩=some v7∧(∀ i,w.frozen? ⟨k,i,none⟩=false)∧k < w.heap.size:=by
 obtain ⟨v0,v1,v2,hc,-⟩:=h.cmd
 obtain ⟨d0,d1,d2,d3,d4,d5,d6,d7,d8⟩:=bQ hc
 exact ⟨_,_,_,d0,d1,d2,d3,d4,d5,d6,d7,(aZ hc).1,d8⟩
end
/- What wM of package impl does. -/
theorem ac4 (k:Int) (h:0≤k∧k≤9) (bx tt:List Int) (uid mode fl si:Int) (tx:List Int):dK k bx tt uid mode fl si tx =
  ((bif (!decide (k=9)) then bG bx else decide (bx.length=0)) && ((bif decide (k=6) then bG tt else decide (tt.length=0)) && (aM uid (if k=3∨k=5∨k=6 then 1 else 0) (if k=3∨k=5∨k=6 then 1000000 else 0) && (aM mode 0 (if k=3 then 2 else if k=6 then 1 else 0) && (aM fl 0 (if k=2∨k=3 then 31 else 0) && (aM si 0 (if k=3∨k=8 then 1000000 else 0) && (decide ((tx.length:Int)≤(if k=2 then 30 else 0)) && dU tx))))))):=by
 have hk:k=0∨k=1∨k=2∨k=3∨k=4∨k=5∨k=6∨k=7∨k=8∨k=9:=by omega
 have z:=vg (l:=tx)
 have z2:=Wq (l:=tx)
 unfold dK aM
 generalize dU tx=T at *
 generalize bG bx=NB at *
 generalize bG tt=NT at *
 generalize tx.length=n at *
 generalize bx.length=n1 at *
 generalize tt.length=n2 at *
 clear h
 rcases hk with rfl | rfl | rfl | rfl | rfl | rfl | rfl | rfl | rfl | rfl <;> cases T <;> cases NB <;> cases NT <;> rw [Bool.eq_iff_iff] <;> simp at * <;> omega
theorem ac5 (k:Int) (hk:0≤k∧k≤9) (W0 W1:Bool) (W2 W3 W4 W5 W6 W7:Int) (hW:Ey k=.agg #[.bool W0,.bool W1,.int .i64 W2,.int .i64 W3,.int .i64 W4,.int .i64 W5,.int .i64 W6,.int .i64 W7]) (a0 a1 a2:Option Addr) (nb nt nx c0 c1 c2:Nat) (bx tt:List Int) (uid mode fl si:Int) (tx:List Int) (w:World)
  (H0:Hid (∀ wi,Below w.heap.size w wi→Bs wi (.slice a0 nb c0) bx∧Bs wi (.slice a1 nt c1) tt∧Bs wi (.slice a2 nx c2) tx)) (c:Bool)
  (HC:Hid (c=((bif W0 then bG bx else decide (bx.length=0)) && ((bif W1 then bG tt else decide (tt.length=0)) && (aM uid W2 W3 && (aM mode 0 W4 && (aM fl 0 W5 && (aM si 0 W6 && (decide ((nx:Int)≤W7) && dU tx))))))))) :
  Calls Tryz.prog 13 #[.agg #[.int .i64 k,.slice a0 nb c0,.slice a1 nt c1,.int .i64 uid,.int .i64 mode,.int .i64 fl,.int .i64 si,.slice a2 nx c2]] w fun e w'=>e=.returned (.bool c)∧Below w.heap.size w w':=by
 have hp:∀ w,Calls Tryz.prog 34 #[.int .i64 k] w fun e w'=>e=.returned (.agg #[.bool W0,.bool W1,.int .i64 W2,.int .i64 W3,.int .i64 W4,.int .i64 W5,.int .i64 W6,.int .i64 W7])∧Below w.heap.size w w':=fun w=>by rw [← hW];exact WY k hk w
 have ab:∀ (x:World) o,Below x.heap.size x (x.alloc o):=fun x o=>bn _ o
 have hin:∀ w,Calls Tryz.prog 22 #[.int .i64 k,.int .i64 0,.int .i64 9] w fun e w'=>e=.returned (.bool true)∧w'=w:=fun w=>by
  have h:=jy k 0 9 w
  rwa [show aM k 0 9=true by simp [aM,hk.1,hk.2]] at h
 clear hW
 have hy0:∀ w (_:Bs w (.slice a0 nb c0) bx),Calls Tryz.prog 35 #[.bool W0,.slice a0 nb c0] w fun e w'=>e=.returned (.bool (bif W0 then bG bx else decide (bx.length=0)))∧Below w.heap.size w w':=fun w h=>OE _ _ bx w h
 have hy1:∀ w (_:Bs w (.slice a1 nt c1) tt),Calls Tryz.prog 35 #[.bool W1,.slice a1 nt c1] w fun e w'=>e=.returned (.bool (bif W1 then bG tt else decide (tt.length=0)))∧Below w.heap.size w w':=fun w h=>OE _ _ tt w h
 have hy2:=jy uid W2 W3
 have hy3:=jy mode 0 W4
 have hy4:=jy fl 0 W5
 have Bq:=jy si 0 W6
 have Br:=Oq (.slice a2 nx c2) tx
 generalize (bif W0 then bG bx else decide (bx.length=0))=X0 at HC hy0
 generalize (bif W1 then bG tt else decide (tt.length=0))=X1 at HC hy1
 generalize aM uid W2 W3=X2 at HC hy2
 generalize aM mode 0 W4=X3 at HC hy3
 generalize aM fl 0 W5=X4 at HC hy4
 generalize aM si 0 W6=X5 at HC Bq
 generalize dU tx=X7 at HC Br
 have bx0:=aW w (.cells #[.int .i64 k,.slice a0 nb c0,.slice a1 nt c1,.int .i64 uid,.int .i64 mode,.int .i64 fl,.int .i64 si,.slice a2 nx c2] 28)
 go_enter Tryz.func13,Tryz.ntmps13
 go_wp2_with fail
 refine (hin _).mono ?_
 rintro e w' ⟨rfl,rfl⟩
 go_wp2_with fail
 refine (hp _).mono ?_
 rintro e w1 ⟨rfl,B⟩
 have X:=Below.step (ab w _) B
 have s1:w.heap.size < w1.heap.size:=by have:=B.size;simp at this;omega
 have kc:=aB B bx0
 clear bx0 B hp hin
 obtain ⟨Gc,c_1,c_2,Gd,Gf,Gg,Gh,Gi⟩:=yM kc
 have kw:=aW w1 (.cells #[.bool W0,.bool W1,.int .i64 W2,.int .i64 W3,.int .i64 W4,.int .i64 W5,.int .i64 W6,.int .i64 W7] 74)
 replace kc:=yL kc (.cells #[.bool W0,.bool W1,.int .i64 W2,.int .i64 W3,.int .i64 W4,.int .i64 W5,.int .i64 W6,.int .i64 W7] 74)
 replace X:=Below.step X (ab w1 (.cells #[.bool W0,.bool W1,.int .i64 W2,.int .i64 W3,.int .i64 W4,.int .i64 W5,.int .i64 W6,.int .i64 W7] 74))
 clear ab
 go_wp2_with fail
 refine (hy0 _ (H0.out _ X).1).mono ?_
 rintro e w2 ⟨rfl,B⟩
 clear Gc c_1 c_2 Gd Gf Gg Gh Gi hy0 s1
 replace kc:=aB B kc
 replace kw:=aB B kw
 replace X:=Below.step X B
 clear B
 obtain ⟨Gc,c_1,c_2,Gd,Gf,Gg,Gh,Gi⟩:=yM kc
 obtain ⟨Tm,Tn,Tp,Tq,Tt,Tv,Tx,Tz⟩:=yM kw
 cases X0 with
 | false =>
  go_wp2
  go_ret
  exact ⟨aP HC.out,X⟩
 | true =>
 go_wp2_with fail
 refine (hy1 _ (H0.out _ X).2.1).mono ?_
 rintro e w3 ⟨rfl,B⟩
 clear Gc c_1 c_2 Gd Gf Gg Gh Gi Tm Tn Tp Tq Tt Tv Tx Tz hy1
 replace kc:=aB B kc
 replace kw:=aB B kw
 replace X:=Below.step X B
 clear B
 obtain ⟨Gc,c_1,c_2,Gd,Gf,Gg,Gh,Gi⟩:=yM kc
 obtain ⟨Tm,Tn,Tp,Tq,Tt,Tv,Tx,Tz⟩:=yM kw
 cases X1 with
 | false =>
  go_wp2
  go_ret
  exact ⟨aP HC.out,X⟩
 | true =>
 go_wp2_with fail
 refine (hy2 _).mono ?_
 rintro e w' ⟨rfl,rfl⟩
 cases X2 with
 | false =>
  go_wp2
  go_ret
  exact ⟨aP HC.out,X⟩
 | true =>
 go_wp2_with fail
 refine (hy3 _).mono ?_
 rintro e w' ⟨rfl,rfl⟩
 cases X3 with
 | false =>
  go_wp2
  go_ret
  exact ⟨aP HC.out,X⟩
 | true =>
 go_wp2_with fail
 refine (hy4 _).mono ?_
 rintro e w' ⟨rfl,rfl⟩
 cases X4 with
 | false =>
  go_wp2
  go_ret
  exact ⟨aP HC.out,X⟩
 | true =>
 go_wp2_with fail
 refine (Bq _).mono ?_
 rintro e w' ⟨rfl,rfl⟩
 cases X5 with
 | false =>
  go_wp2
  go_ret
  exact ⟨aP HC.out,X⟩
 | true =>
 by_cases h6:(nx:Int)≤W7
 ·rw [decide_eq_true h6] at HC
  go_wp2_with fail
  refine (Br _ (H0.out _ X).2.2).mono ?_
  rintro e w4 ⟨rfl,B⟩
  go_wp2
  go_ret
  exact ⟨aP HC.out,Below.step X B⟩
 ·rw [decide_eq_false h6] at HC
  go_wp2
  go_ret
  exact ⟨aP HC.out,X⟩
theorem ac6 (v:Value) (k:Int) (bx tt:List Int) (uid mode fl si:Int) (tx:List Int) (w:World) (hv:iQ w v k bx tt uid mode fl si tx) :
  Calls Tryz.prog 13 #[v] w fun e w'=>e=.returned (.bool (dK k bx tt uid mode fl si tx))∧Below w.heap.size w w':=by
 obtain ⟨u0,u1,u2,rfl,g0,g1,g2,i0,i1,i2,i3,i4⟩:=hv
 have H0:Hid (∀ wi,Below w.heap.size w wi→Bs wi u0 bx∧Bs wi u1 tt∧Bs wi u2 tx):=fun wi h=>⟨g0.below h,g1.below h,g2.below h⟩
 obtain ⟨a0,c0,rfl⟩:=g0.form
 obtain ⟨a1,c1,rfl⟩:=g1.form
 obtain ⟨a2,c2,rfl⟩:=g2.form
 by_cases h:0≤k∧k≤9
 ·exact ac5 k h _ _ _ _ _ _ _ _ rfl a0 a1 a2 _ _ _ c0 c1 c2 bx tt uid mode fl si tx w H0 _ (ac4 k h bx tt uid mode fl si tx)
 ·have HZ:Hid (dK k bx tt uid mode fl si tx=false):=by simp [Hid,dK,h]
  have hin:∀ w,Calls Tryz.prog 22 #[.int .i64 k,.int .i64 0,.int .i64 9] w fun e w'=>e=.returned (.bool false)∧w'=w:=fun w=>by
   have h':=jy k 0 9 w
   rwa [show aM k 0 9=false by simp [aM];omega] at h'
  go_enter Tryz.func13,Tryz.ntmps13
  go_wp2_with fail
  refine (hin _).mono ?_
  rintro e w' ⟨rfl,rfl⟩
  go_wp2
  go_ret
  exact ⟨aP HZ.out,bn _ _⟩
end Go.Proofs.YtmglhdkeidhafaaGreat
