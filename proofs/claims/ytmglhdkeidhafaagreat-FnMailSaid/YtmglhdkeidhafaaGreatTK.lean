/- The proof's texts, part 46. -/
import Derived.Test.YtmglhdkeidhafaaGreatTG
namespace Go.Proofs.YtmglhdkeidhafaaGreat
open Go.RowKit
set_option linter.unusedVariables false
set_option linter.unusedSimpArgs false
set_option maxHeartbeats 8000000
set_option maxRecDepth 100000
/- What ahm of package spec draws: a command that can be read. -/
theorem adI {w:World} {B:Nat} {v:Value} {l:List Int} (h:iq w B v l) (hl:0 < l.length):∃ g,B≤g∧bZ w g v l:=by
 obtain ⟨g,hg,ho,⟨rfl,rfl⟩ | ⟨cap,cur,h1,h2,h3,h4,h5,h6⟩⟩:=h
 ·simp at hl
 ·exact ⟨g,hg,ho,cap,cur,(0,0),h1,h2,.inl rfl,h3,h4,h5,h6⟩
section
variable {w0 w w1 w' wI : World} {g k rr : Nat} {cv v0 v1 v2 : Value} {L l : List Int} {c : dS} {a0 a1 : Option Addr} {n0 n1 c0 c1 : Nat}
/-- The command that was drawn is put into a variable. -/
theorem bS.start (hC:bN w0 w1 g cv L) (hG:(w.alloc (.cells #[.int .i64 0,.slice none 0 0,.slice none 0 0,.int .i64 0,.int .i64 0,.int .i64 0,.int .i64 0,.slice none 0 0] 28)).grownBy w1 (some g)) (hg:g < w.heap.size) (hW:LZ (w.alloc (.cells #[.int .i64 0,.slice none 0 0,.slice none 0 0,.int .i64 0,.int .i64 0,.int .i64 0,.int .i64 0,.slice none 0 0] 28)) w1 (.slice a0 n0 c0) (.slice a1 n1 c1) v2 c.bx c.tt c.tx) :
  bS w0 w (w1.alloc (.cells #[.int .i64 c.k,.slice a0 n0 c0,.slice a1 n1 c1,.int .i64 c.uid,.int .i64 c.mode,.int .i64 c.fl,.int .i64 c.si,v2] 28)) g w1.heap.size w.heap.size cv L c:=by
 have AB:Below w.heap.size w (w.alloc (.cells #[.int .i64 0,.slice none 0 0,.slice none 0 0,.int .i64 0,.int .i64 0,.int .i64 0,.int .i64 0,.slice none 0 0] 28)):=bn _ _
 have K0:=aW w (.cells #[.int .i64 0,.slice none 0 0,.slice none 0 0,.int .i64 0,.int .i64 0,.int .i64 0,.int .i64 0,.slice none 0 0] 28)
 have bA:Below w1.heap.size w1 (w1.alloc (.cells #[.int .i64 c.k,.slice a0 n0 c0,.slice a1 n1 c1,.int .i64 c.uid,.int .i64 c.mode,.int .i64 c.fl,.int .i64 c.si,v2] 28)):=bn _ _
 have hs:(w.alloc (.cells #[.int .i64 0,.slice none 0 0,.slice none 0 0,.int .i64 0,.int .i64 0,.int .i64 0,.int .i64 0,.slice none 0 0] 28)).heap.size=w.heap.size+1:=by simp
 obtain ⟨b0,b1,s0,s1,T,o0,o1⟩:=hW
 have hb:=bA.size
 have K1:=(hG.block w.heap.size (by omega) (by simp;omega)).trans K0
 have hl1:=lt_of_heap K1
 have qb:∀ (a:Option Addr) (n cc:Nat) (l:List Int),Bs w1 (.slice a n cc) l→(∀ b,(Value.slice a n cc).ownBlock=some b→(w.alloc (.cells #[.int .i64 0,.slice none 0 0,.slice none 0 0,.int .i64 0,.int .i64 0,.int .i64 0,.int .i64 0,.slice none 0 0] 28)).heap.size≤b∧b < w1.heap.size)→nQ w1 (.slice a n cc) l→QB (w1.alloc (.cells #[.int .i64 c.k,.slice a0 n0 c0,.slice a1 n1 c1,.int .i64 c.uid,.int .i64 c.mode,.int .i64 c.fl,.int .i64 c.si,v2] 28)) g w1.heap.size w.heap.size (.slice a n cc) l:=by
  intro a n cc l h1 h2 h3
  refine ⟨⟨_,_,_,rfl⟩,h1.below bA,fun e=>?_,fun e=>?_,fun e=>?_,fun b e=>?_,h3.gb (gy (World.grownBy.refl w1 (some g)) bA) (fun e=>?_)⟩ <;> (have:=h2 _ e;omega)
 refine ⟨hC.below bA,gy (wN (gy (World.grownBy.refl _ _) AB) hG) bA,aB bA K1,_,_,_,aW w1 _,qb _ _ _ _ b0 s0 o0,qb _ _ _ _ b1 s1 o1,?_⟩
 rcases T with e | ⟨q,t,t0,t1,t2⟩
 ·exact .inl e
 ·have:=t.lt
  exact .inr ⟨q,t.below bA,t0,t1,by omega,by omega,by omega⟩
/-- A byte more is put behind the text. -/
theorem bS.adJ {q g':Nat} {v':Value} {x:List Int} {c':dS} (h:bS w0 wI w g k rr cv L c) (P:uT w0 wI g k rr) (hk:w.heap[k]?=some (.cells #[.int .i64 c.k,v0,v1,.int .i64 c.uid,.int .i64 c.mode,.int .i64 c.fl,.int .i64 c.si,v2] 28 (0,0))) (q0:QB w g k rr v0 c.bx) (q1:QB w g k rr v1 c.tt) (t:v0.ownBlock≠some q∧v1.ownBlock≠some q∧q≠g∧q≠k∧rr < q) (F8:q < w.heap.size)
  (hG:w.grownBy w' (some q)) (O:bZ w' g' v' x) (hg:g'=q∨w.heap.size≤g') (hc':c' = { c with tx:=x }):bS w0 wI (w'.setCell ⟨k,7,none⟩ v') g k rr cv L c'∧w'.heap[k]?=w.heap[k]?:=by
 have p1:=P.gI
 have p2:=P.kI
 have p0:=P.g0
 have p3:=P.rI
 have p4:=P.kr
 have hkl:=lt_of_heap hk
 have hgl:=h.cur.lt.2
 subst hc'
 have hB:Below (rr+1) w w':=(Below.refl _ _).grown hG (by omega) (fun j hj=>by cases hj;omega)
 have hkk:=hG.block k hkl (by simp;omega)
 have hk':=hkk.trans hk
 have hS:=Ga w' k 7 v'
 have hq:k=g∨k=k∨k=rr:=.inr (.inl rfl)
 have hsz:=hG.size
 have fr:∀ (v:Value) (l:List Int),QB w g k rr v l→v.ownBlock≠some q→QB w' g k rr v l:=fun v l h hn=>⟨h.1,h.2.1.grown hG hn,h.2.2.1,h.2.2.2.1,h.2.2.2.2.1,fun b hb=>⟨(h.2.2.2.2.2.1 b hb).1,Nat.lt_of_lt_of_le (h.2.2.2.2.2.1 b hb).2 hG.size⟩,h.2.2.2.2.2.2.gb hG hn⟩
 refine ⟨⟨(Gj h.cur hB (by omega)).set (by omega) (by omega),Gb (L8 h.gr hB (by omega)) p2,cO (k:=k) (i:=7) (v:=v') ((hG.block rr (lt_of_heap h.res) (by simp;omega)).trans h.res) (Ne.symm P.kr),v0,v1,v',aJ (i:=7) hk',(fr _ _ q0 t.1).gb hS hq,(fr _ _ q1 t.2.1).gb hS hq,.inr ⟨g',O.frame (Below.heap_setCell _ _ _ _ (show g'≠k by omega)),?_,?_,by omega,by omega,by omega⟩⟩,hkk⟩
 ·rcases hg with rfl | hg
  ·exact t.1
  ·intro e;have:=(q0.2.2.2.2.2.1 _ e).2;omega
 ·rcases hg with rfl | hg
  ·exact t.2.1
  ·intro e;have:=(q1.2.2.2.2.2.1 _ e).2;omega
end
theorem adK (w0 w:World) (g:Nat) (cv:Value) (L:List Int) (hc:bN w0 w g cv L) :
  Calls Tryz.prog 12 #[.pointer (some ⟨g,0,none⟩)] w fun e w'=>∃ u,e=.returned u∧(∃ c:dS,iQ w' u c.k c.bx c.tt c.uid c.mode c.fl c.si c.tx∧L6 w w' u c)∧bN w0 w' g cv L∧w.grownBy w' (some g):=by
 obtain ⟨i0,hi,hz0,hz1,hz2⟩:=info_parts info5
 have AB:Below w.heap.size w (w.alloc (.cells #[.int .i64 0,.slice none 0 0,.slice none 0 0,.int .i64 0,.int .i64 0,.int .i64 0,.int .i64 0,.slice none 0 0] 28)):=bn _ _
 have hgl:=hc.lt.2
 have hg0:=hc.lt.1
 have uG:=aD (hc.below AB)
 clear hc AB
 go_enter Tryz.func12,Tryz.ntmps12
 go_wp2_with fail
 refine (TA w0 _ g cv L uG.out).mono ?_
 rintro e w1 ⟨u,rfl,⟨k,bx,tt,uid,mode,fl,si,tx⟩,hV,hok,C1,G1,a0,n0,c0,a1,n1,c1,v2,rfl,hW⟩
 have HJ:Hid (ay k∧ay uid∧ay mode∧ay fl∧ay si):=by
  obtain ⟨u0,u1,u2,hu,-,-,-,r⟩:=hV
  exact r
 have htx:tx.length≤30:=by
  simp only [dK,Bool.and_eq_true] at hok
  have h7:=hok.2
  split at h7
  ·simp only [dU,Bool.and_eq_true,decide_eq_true_eq] at h7;exact h7.1
  ·simp only [decide_eq_true_eq] at h7;omega
 have hs1:=G1.size
 simp at hs1
 have PP:Hid (uT w0 w g w1.heap.size w.heap.size):=⟨hgl,hg0,by omega,Nat.le_refl _,by omega⟩
 have HX:=aD (bS.start (c:=⟨k,bx,tt,uid,mode,fl,si,tx⟩) C1 G1 hgl hW)
 dsimp only at HX
 obtain ⟨a2,n2,c2,rfl⟩:∃ a n c,v2=.slice a n c:=by
  rcases hW.2.2.2.2.1 with ⟨rfl,-⟩ | ⟨q,t,-⟩
  ·exact ⟨_,_,_,rfl⟩
  ·obtain ⟨cap,rfl⟩:=t.form;exact ⟨_,_,_,rfl⟩
 clear hV hok C1 G1 hW uG
 go_wp2_with fail
 refine (Es w0 _ g cv L 8 HX.out.cur (by omega) (by omega)).mono ?_
 rintro e w2 ⟨y,rfl,C,G⟩
 have HY:=aD (HX.out.draw PP.out C G)
 clear HX C G
 have HX:=HY
 clear HY
 cases y
 ·go_upto_region 3 with fail
  obtain ⟨q0,n0,c0,q1,n1,c1,q2,n2,c2,hk,hF⟩:=HX.out.fin PP.out
  dsimp only at hk
  obtain ⟨d0,d1,d2,d3,d4,d5,d6,d7,-⟩:=bQ hk
  obtain ⟨dz,dl⟩:=aZ hk
  obtain ⟨r0,r1,r2,r3,r4,r5,r6,r7,-⟩:=bQ HX.out.res
  obtain ⟨rz,rl⟩:=aZ HX.out.res
  go_wp2
  obtain ⟨hK,F0,F1,F2,FC,FG,FW⟩:=hF.out _ _ _ rfl rfl rfl
  obtain ⟨f0,f1,f2,f3,f4,f5,f6,f7,-⟩:=bQ hK
  refine bodyPost_ret (v:=.agg #[.int .i64 k,.slice q0 n0 c0,.slice q1 n1 c1,.int .i64 uid,.int .i64 mode,.int .i64 fl,.int .i64 si,.slice q2 n2 c2]) (by simp [results,Tryz.results12,go_sem,f0,f1,f2,f3,f4,f5,f6,f7]) rfl ?_
  exact ⟨_,rfl,⟨⟨k,bx,tt,uid,mode,fl,si,tx⟩,⟨_,_,_,rfl,F0,F1,F2,HJ.out.1,HJ.out.2.1,HJ.out.2.2.1,HJ.out.2.2.2.1,HJ.out.2.2.2.2⟩,_,_,_,_,_,_,_,rfl,FW⟩,FC,FG⟩
 obtain ⟨y1,y2,y7,f0,f1,f2,f3,f4,f5,f6,f7,fz,bK⟩:=HX.out.cells
 dsimp only at f0 f3 f4 f5 f6
 go_wp2_with fail
 refine (kQ w0 _ g cv L 8 HX.out.cur (by omega) (by omega)).mono ?_
 rintro e w3 ⟨n,rfl,np,nq,C,G⟩
 have HY:=aD (HX.out.draw PP.out C G)
 clear HX C G f0 f1 f2 f3 f4 f5 f6 f7 fz bK
 have HX:=HY
 clear HY
 obtain ⟨y1,y2,y7,f0,f1,f2,f3,f4,f5,f6,f7,fz,bK⟩:=HX.out.cells
 dsimp only at f0 f3 f4 f5 f6
 obtain rfl | rfl | rfl | rfl | rfl | rfl | rfl | rfl:n=0∨n=1∨n=2∨n=3∨n=4∨n=5∨n=6∨n=7:=by omega
 ·have jL:=HX.out.cur.lt.2
  have hI:=ni w3 g [-1,10,3,6,9] 3 (-1) 10 jL (by simp) (by simp) (by intro x hx;simp at hx;omega)
  have bA:Below _ w3 (w3.alloc (.cells #[.int .i64 (-1),.int .i64 10,.int .i64 3,.int .i64 6,.int .i64 9] 3)):=bn _ _
  have HI:Hid (lJ (w3.alloc (.cells #[.int .i64 (-1),.int .i64 10,.int .i64 3,.int .i64 6,.int .i64 9] 3)) (.slice (some ⟨w3.heap.size,0,none⟩) 5 5) g 5 (-1) 10):=by simpa [Hid] using hI
  have HZ:=aD (HX.out.below PP.out bA)
  clear hI jL bA
  go_wp2_with fail
  refine (ng w0 _ g 5 cv _ L (-1) 10 HZ.out.cur HI.out).mono ?_
  rintro e w4 ⟨a,rfl,ap,aq,C,G⟩
  have HY:=aD (HZ.out.draw PP.out C G)
  clear HI HZ C G HX
  have HX:=HY
  clear HY
  clear f0 f1 f2 f3 f4 f5 f6 f7 fz bK
  obtain ⟨y1,y2,y7,f0,f1,f2,f3,f4,f5,f6,f7,fz,bK⟩:=HX.out.cells
  dsimp only at f0 f3 f4 f5 f6
  have HY:Hid (bS w0 w (w4.setCell ⟨w1.heap.size,0,none⟩ (.int .i64 a)) g w1.heap.size w.heap.size cv L ⟨a,bx,tt,uid,mode,fl,si,tx⟩):=aD (HX.out.qg (n:=a) PP.out (.inl ⟨rfl,rfl⟩))
  clear HX
  have HX:=HY
  clear HY
  go_upto_region 20 with fail
  clear f0 f1 f2 f3 f4 f5 f6 f7 fz bK
  generalize (w4.setCell ⟨w1.heap.size,0,none⟩ (.int .i64 a))=wz at HX ⊢
  obtain ⟨q0,n0,c0,q1,n1,c1,q2,n2,c2,hk,hF⟩:=HX.out.fin PP.out
  dsimp only at hk
  obtain ⟨d0,d1,d2,d3,d4,d5,d6,d7,-⟩:=bQ hk
  obtain ⟨dz,dl⟩:=aZ hk
  obtain ⟨r0,r1,r2,r3,r4,r5,r6,r7,-⟩:=bQ HX.out.res
  obtain ⟨rz,rl⟩:=aZ HX.out.res
  go_wp2
  obtain ⟨hK,F0,F1,F2,FC,FG,FW⟩:=hF.out _ _ _ rfl rfl rfl
  obtain ⟨f0,f1,f2,f3,f4,f5,f6,f7,-⟩:=bQ hK
  refine bodyPost_ret (v:=.agg #[.int .i64 a,.slice q0 n0 c0,.slice q1 n1 c1,.int .i64 uid,.int .i64 mode,.int .i64 fl,.int .i64 si,.slice q2 n2 c2]) (by simp [results,Tryz.results12,go_sem,f0,f1,f2,f3,f4,f5,f6,f7]) rfl ?_
  exact ⟨_,rfl,⟨⟨a,bx,tt,uid,mode,fl,si,tx⟩,⟨_,_,_,rfl,F0,F1,F2,by unfold ay;dsimp only;omega,HJ.out.2.1,HJ.out.2.2.1,HJ.out.2.2.2.1,HJ.out.2.2.2.2⟩,_,_,_,_,_,_,_,rfl,FW⟩,FC,FG⟩
 ·have AB:Below w3.heap.size w3 (w3.alloc (.cells #[.string ⟨#[]⟩,.string ⟨#[65]⟩,.string ⟨#[116,111,111,108,111,110,103]⟩] 9)):=bn _ _
  have K0:=aW w3 (.cells #[.string ⟨#[]⟩,.string ⟨#[65]⟩,.string ⟨#[116,111,111,108,111,110,103]⟩] 9)
  have HZ:=aD (HX.out.below PP.out AB)
  have ahn:=HX.out.cur.lt.2
  clear AB
  go_wp2_with fail
  refine (kQ w0 _ g cv L 3 HZ.out.cur (by omega) (by omega)).mono ?_
  rintro e w4 ⟨x,rfl,hx0,hx1,C,G⟩
  have K1:w4.heap[w3.heap.size]?=_:=(G.block w3.heap.size (lt_of_heap K0) (by simp;omega)).trans K0
  have hl1:=lt_of_heap K1
  have HY:=aD (HZ.out.draw PP.out C G)
  clear HZ C G HX K0
  have HX:=HY
  clear HY
  clear f0 f1 f2 f3 f4 f5 f6 f7 fz bK
  obtain ⟨j,rfl⟩:=Int.eq_ofNat_of_zero_le hx0
  obtain rfl | rfl | rfl:j=0∨j=1∨j=2:=by omega
  ·have hcell:w4.cell? ⟨w3.heap.size,0,none⟩=some (.string ⟨#[]⟩):=by rw [cell_of_row w4 w3.heap.size 0 _ _ (0,0) K1];rfl
   have hcv:(convert 9 22 (.string ⟨#[]⟩)).run Tryz.prog w4=.ok (.slice (some ⟨w4.heap.size,0,none⟩) 0 (grownCap w4 0 0 5)) (Lib.bytesWorld w4 5 (strOfNums [])):=mO [] w4
   obtain ⟨q1,q2⟩:=l9 w4 [] (by intro x hx;simp at hx <;> omega) (by decide)
   have HY:Hid (bS w0 w ((Lib.bytesWorld w4 5 (strOfNums [])).setCell ⟨w1.heap.size,1,none⟩ (.slice (some ⟨w4.heap.size,0,none⟩) 0 (grownCap w4 0 0 5))) g w1.heap.size w.heap.size cv L ⟨k,[],tt,uid,mode,fl,si,tx⟩):=aD (HX.out.wP PP.out (HX.out.cur.below q2) (gy (World.grownBy.refl _ _) q2) q1 (Nat.le_refl _) (.inl ⟨rfl,rfl⟩))
   have iC:=aD (HX.out.below PP.out q2)
   clear q1 q2 HX
   have HX:=iC
   clear iC
   generalize Lib.bytesWorld w4 5 (strOfNums [])=w5 at hcv HX HY
   obtain ⟨y1,y2,y7,f0,f1,f2,f3,f4,f5,f6,f7,fz,bK⟩:=HX.out.cells
   dsimp only at f0 f3 f4 f5 f6
   clear HX
   have HX:=HY
   clear HY
   generalize grownCap w4 0 0 5=gc at hcv HX
   go_upto_region 20 with fail
   clear f0 f1 f2 f3 f4 f5 f6 f7 fz bK
   generalize (w5.setCell ⟨w1.heap.size,1,none⟩ (.slice (some ⟨w4.heap.size,0,none⟩) 0 gc))=wz at HX ⊢
   obtain ⟨q0,n0,c0,q1,n1,c1,q2,n2,c2,hk,hF⟩:=HX.out.fin PP.out
   dsimp only at hk
   obtain ⟨d0,d1,d2,d3,d4,d5,d6,d7,-⟩:=bQ hk
   obtain ⟨dz,dl⟩:=aZ hk
   obtain ⟨r0,r1,r2,r3,r4,r5,r6,r7,-⟩:=bQ HX.out.res
   obtain ⟨rz,rl⟩:=aZ HX.out.res
   go_wp2
   obtain ⟨hK,F0,F1,F2,FC,FG,FW⟩:=hF.out _ _ _ rfl rfl rfl
   obtain ⟨f0,f1,f2,f3,f4,f5,f6,f7,-⟩:=bQ hK
   refine bodyPost_ret (v:=.agg #[.int .i64 k,.slice q0 n0 c0,.slice q1 n1 c1,.int .i64 uid,.int .i64 mode,.int .i64 fl,.int .i64 si,.slice q2 n2 c2]) (by simp [results,Tryz.results12,go_sem,f0,f1,f2,f3,f4,f5,f6,f7]) rfl ?_
   exact ⟨_,rfl,⟨⟨k,[],tt,uid,mode,fl,si,tx⟩,⟨_,_,_,rfl,F0,F1,F2,HJ.out.1,HJ.out.2.1,HJ.out.2.2.1,HJ.out.2.2.2.1,HJ.out.2.2.2.2⟩,_,_,_,_,_,_,_,rfl,FW⟩,FC,FG⟩
  ·have hcell:w4.cell? ⟨w3.heap.size,1,none⟩=some (.string ⟨#[65]⟩):=by rw [cell_of_row w4 w3.heap.size 1 _ _ (0,0) K1];rfl
   have hcv:(convert 9 22 (.string ⟨#[65]⟩)).run Tryz.prog w4=.ok (.slice (some ⟨w4.heap.size,0,none⟩) 1 (grownCap w4 1 0 5)) (Lib.bytesWorld w4 5 (strOfNums [65])):=mO [65] w4
   obtain ⟨q1,q2⟩:=l9 w4 [65] (by intro x hx;simp at hx <;> omega) (by decide)
   have HY:Hid (bS w0 w ((Lib.bytesWorld w4 5 (strOfNums [65])).setCell ⟨w1.heap.size,1,none⟩ (.slice (some ⟨w4.heap.size,0,none⟩) 1 (grownCap w4 1 0 5))) g w1.heap.size w.heap.size cv L ⟨k,[65],tt,uid,mode,fl,si,tx⟩):=aD (HX.out.wP PP.out (HX.out.cur.below q2) (gy (World.grownBy.refl _ _) q2) q1 (Nat.le_refl _) (.inl ⟨rfl,rfl⟩))
   have iC:=aD (HX.out.below PP.out q2)
   clear q1 q2 HX
   have HX:=iC
   clear iC
   generalize Lib.bytesWorld w4 5 (strOfNums [65])=w5 at hcv HX HY
   obtain ⟨y1,y2,y7,f0,f1,f2,f3,f4,f5,f6,f7,fz,bK⟩:=HX.out.cells
   dsimp only at f0 f3 f4 f5 f6
   clear HX
   have HX:=HY
   clear HY
   generalize grownCap w4 1 0 5=gc at hcv HX
   go_upto_region 20 with fail
   clear f0 f1 f2 f3 f4 f5 f6 f7 fz bK
   generalize (w5.setCell ⟨w1.heap.size,1,none⟩ (.slice (some ⟨w4.heap.size,0,none⟩) 1 gc))=wz at HX ⊢
   obtain ⟨q0,n0,c0,q1,n1,c1,q2,n2,c2,hk,hF⟩:=HX.out.fin PP.out
   dsimp only at hk
   obtain ⟨d0,d1,d2,d3,d4,d5,d6,d7,-⟩:=bQ hk
   obtain ⟨dz,dl⟩:=aZ hk
   obtain ⟨r0,r1,r2,r3,r4,r5,r6,r7,-⟩:=bQ HX.out.res
   obtain ⟨rz,rl⟩:=aZ HX.out.res
   go_wp2
   obtain ⟨hK,F0,F1,F2,FC,FG,FW⟩:=hF.out _ _ _ rfl rfl rfl
   obtain ⟨f0,f1,f2,f3,f4,f5,f6,f7,-⟩:=bQ hK
   refine bodyPost_ret (v:=.agg #[.int .i64 k,.slice q0 n0 c0,.slice q1 n1 c1,.int .i64 uid,.int .i64 mode,.int .i64 fl,.int .i64 si,.slice q2 n2 c2]) (by simp [results,Tryz.results12,go_sem,f0,f1,f2,f3,f4,f5,f6,f7]) rfl ?_
   exact ⟨_,rfl,⟨⟨k,[65],tt,uid,mode,fl,si,tx⟩,⟨_,_,_,rfl,F0,F1,F2,HJ.out.1,HJ.out.2.1,HJ.out.2.2.1,HJ.out.2.2.2.1,HJ.out.2.2.2.2⟩,_,_,_,_,_,_,_,rfl,FW⟩,FC,FG⟩
  ·have hcell:w4.cell? ⟨w3.heap.size,2,none⟩=some (.string ⟨#[116,111,111,108,111,110,103]⟩):=by rw [cell_of_row w4 w3.heap.size 2 _ _ (0,0) K1];rfl
   have hcv:(convert 9 22 (.string ⟨#[116,111,111,108,111,110,103]⟩)).run Tryz.prog w4=.ok (.slice (some ⟨w4.heap.size,0,none⟩) 7 (grownCap w4 7 0 5)) (Lib.bytesWorld w4 5 (strOfNums [116,111,111,108,111,110,103])):=mO [116,111,111,108,111,110,103] w4
   obtain ⟨q1,q2⟩:=l9 w4 [116,111,111,108,111,110,103] (by intro x hx;simp at hx <;> omega) (by decide)
   have HY:Hid (bS w0 w ((Lib.bytesWorld w4 5 (strOfNums [116,111,111,108,111,110,103])).setCell ⟨w1.heap.size,1,none⟩ (.slice (some ⟨w4.heap.size,0,none⟩) 7 (grownCap w4 7 0 5))) g w1.heap.size w.heap.size cv L ⟨k,[116,111,111,108,111,110,103],tt,uid,mode,fl,si,tx⟩):=aD (HX.out.wP PP.out (HX.out.cur.below q2) (gy (World.grownBy.refl _ _) q2) q1 (Nat.le_refl _) (.inl ⟨rfl,rfl⟩))
   have iC:=aD (HX.out.below PP.out q2)
   clear q1 q2 HX
   have HX:=iC
   clear iC
   generalize Lib.bytesWorld w4 5 (strOfNums [116,111,111,108,111,110,103])=w5 at hcv HX HY
   obtain ⟨y1,y2,y7,f0,f1,f2,f3,f4,f5,f6,f7,fz,bK⟩:=HX.out.cells
   dsimp only at f0 f3 f4 f5 f6
   clear HX
   have HX:=HY
   clear HY
   generalize grownCap w4 7 0 5=gc at hcv HX
   go_upto_region 20 with fail
   clear f0 f1 f2 f3 f4 f5 f6 f7 fz bK
   generalize (w5.setCell ⟨w1.heap.size,1,none⟩ (.slice (some ⟨w4.heap.size,0,none⟩) 7 gc))=wz at HX ⊢
   obtain ⟨q0,n0,c0,q1,n1,c1,q2,n2,c2,hk,hF⟩:=HX.out.fin PP.out
   dsimp only at hk
   obtain ⟨d0,d1,d2,d3,d4,d5,d6,d7,-⟩:=bQ hk
   obtain ⟨dz,dl⟩:=aZ hk
   obtain ⟨r0,r1,r2,r3,r4,r5,r6,r7,-⟩:=bQ HX.out.res
   obtain ⟨rz,rl⟩:=aZ HX.out.res
   go_wp2
   obtain ⟨hK,F0,F1,F2,FC,FG,FW⟩:=hF.out _ _ _ rfl rfl rfl
   obtain ⟨f0,f1,f2,f3,f4,f5,f6,f7,-⟩:=bQ hK
   refine bodyPost_ret (v:=.agg #[.int .i64 k,.slice q0 n0 c0,.slice q1 n1 c1,.int .i64 uid,.int .i64 mode,.int .i64 fl,.int .i64 si,.slice q2 n2 c2]) (by simp [results,Tryz.results12,go_sem,f0,f1,f2,f3,f4,f5,f6,f7]) rfl ?_
   exact ⟨_,rfl,⟨⟨k,[116,111,111,108,111,110,103],tt,uid,mode,fl,si,tx⟩,⟨_,_,_,rfl,F0,F1,F2,HJ.out.1,HJ.out.2.1,HJ.out.2.2.1,HJ.out.2.2.2.1,HJ.out.2.2.2.2⟩,_,_,_,_,_,_,_,rfl,FW⟩,FC,FG⟩
 ·have jL:=HX.out.cur.lt.2
  have hI:=ni w3 g [-1,0,1,1000000,1000001] 3 (-1) 1000001 jL (by simp) (by simp) (by intro x hx;simp at hx;omega)
  have bA:Below _ w3 (w3.alloc (.cells #[.int .i64 (-1),.int .i64 0,.int .i64 1,.int .i64 1000000,.int .i64 1000001] 3)):=bn _ _
  have HI:Hid (lJ (w3.alloc (.cells #[.int .i64 (-1),.int .i64 0,.int .i64 1,.int .i64 1000000,.int .i64 1000001] 3)) (.slice (some ⟨w3.heap.size,0,none⟩) 5 5) g 5 (-1) 1000001):=by simpa [Hid] using hI
  have HZ:=aD (HX.out.below PP.out bA)
  clear hI jL bA
  go_wp2_with fail
  refine (ng w0 _ g 5 cv _ L (-1) 1000001 HZ.out.cur HI.out).mono ?_
  rintro e w4 ⟨a,rfl,ap,aq,C,G⟩
  have HY:=aD (HZ.out.draw PP.out C G)
  clear HI HZ C G HX
  have HX:=HY
  clear HY
  clear f0 f1 f2 f3 f4 f5 f6 f7 fz bK
  obtain ⟨y1,y2,y7,f0,f1,f2,f3,f4,f5,f6,f7,fz,bK⟩:=HX.out.cells
  dsimp only at f0 f3 f4 f5 f6
  have HY:Hid (bS w0 w (w4.setCell ⟨w1.heap.size,3,none⟩ (.int .i64 a)) g w1.heap.size w.heap.size cv L ⟨k,bx,tt,a,mode,fl,si,tx⟩):=aD (HX.out.qg (n:=a) PP.out (.inr (.inl ⟨rfl,rfl⟩)))
  clear HX
  have HX:=HY
  clear HY
  go_upto_region 20 with fail
  clear f0 f1 f2 f3 f4 f5 f6 f7 fz bK
  generalize (w4.setCell ⟨w1.heap.size,3,none⟩ (.int .i64 a))=wz at HX ⊢
  obtain ⟨q0,n0,c0,q1,n1,c1,q2,n2,c2,hk,hF⟩:=HX.out.fin PP.out
  dsimp only at hk
  obtain ⟨d0,d1,d2,d3,d4,d5,d6,d7,-⟩:=bQ hk
  obtain ⟨dz,dl⟩:=aZ hk
  obtain ⟨r0,r1,r2,r3,r4,r5,r6,r7,-⟩:=bQ HX.out.res
  obtain ⟨rz,rl⟩:=aZ HX.out.res
  go_wp2
  obtain ⟨hK,F0,F1,F2,FC,FG,FW⟩:=hF.out _ _ _ rfl rfl rfl
  obtain ⟨f0,f1,f2,f3,f4,f5,f6,f7,-⟩:=bQ hK
  refine bodyPost_ret (v:=.agg #[.int .i64 k,.slice q0 n0 c0,.slice q1 n1 c1,.int .i64 a,.int .i64 mode,.int .i64 fl,.int .i64 si,.slice q2 n2 c2]) (by simp [results,Tryz.results12,go_sem,f0,f1,f2,f3,f4,f5,f6,f7]) rfl ?_
  exact ⟨_,rfl,⟨⟨k,bx,tt,a,mode,fl,si,tx⟩,⟨_,_,_,rfl,F0,F1,F2,HJ.out.1,by unfold ay;dsimp only;omega,HJ.out.2.2.1,HJ.out.2.2.2.1,HJ.out.2.2.2.2⟩,_,_,_,_,_,_,_,rfl,FW⟩,FC,FG⟩
 ·have jL:=HX.out.cur.lt.2
  have hI:=ni w3 g [-1,1,2,3] 3 (-1) 3 jL (by simp) (by simp) (by intro x hx;simp at hx;omega)
  have bA:Below _ w3 (w3.alloc (.cells #[.int .i64 (-1),.int .i64 1,.int .i64 2,.int .i64 3] 3)):=bn _ _
  have HI:Hid (lJ (w3.alloc (.cells #[.int .i64 (-1),.int .i64 1,.int .i64 2,.int .i64 3] 3)) (.slice (some ⟨w3.heap.size,0,none⟩) 4 4) g 4 (-1) 3):=by simpa [Hid] using hI
  have HZ:=aD (HX.out.below PP.out bA)
  clear hI jL bA
  go_wp2_with fail
  refine (ng w0 _ g 4 cv _ L (-1) 3 HZ.out.cur HI.out).mono ?_
  rintro e w4 ⟨a,rfl,ap,aq,C,G⟩
  have HY:=aD (HZ.out.draw PP.out C G)
  clear HI HZ C G HX
  have HX:=HY
  clear HY
  clear f0 f1 f2 f3 f4 f5 f6 f7 fz bK
  obtain ⟨y1,y2,y7,f0,f1,f2,f3,f4,f5,f6,f7,fz,bK⟩:=HX.out.cells
  dsimp only at f0 f3 f4 f5 f6
  have HY:Hid (bS w0 w (w4.setCell ⟨w1.heap.size,4,none⟩ (.int .i64 a)) g w1.heap.size w.heap.size cv L ⟨k,bx,tt,uid,a,fl,si,tx⟩):=aD (HX.out.qg (n:=a) PP.out (.inr (.inr (.inl ⟨rfl,rfl⟩))))
  clear HX
  have HX:=HY
  clear HY
  go_upto_region 20 with fail
  clear f0 f1 f2 f3 f4 f5 f6 f7 fz bK
  generalize (w4.setCell ⟨w1.heap.size,4,none⟩ (.int .i64 a))=wz at HX ⊢
  obtain ⟨q0,n0,c0,q1,n1,c1,q2,n2,c2,hk,hF⟩:=HX.out.fin PP.out
  dsimp only at hk
  obtain ⟨d0,d1,d2,d3,d4,d5,d6,d7,-⟩:=bQ hk
  obtain ⟨dz,dl⟩:=aZ hk
  obtain ⟨r0,r1,r2,r3,r4,r5,r6,r7,-⟩:=bQ HX.out.res
  obtain ⟨rz,rl⟩:=aZ HX.out.res
  go_wp2
  obtain ⟨hK,F0,F1,F2,FC,FG,FW⟩:=hF.out _ _ _ rfl rfl rfl
  obtain ⟨f0,f1,f2,f3,f4,f5,f6,f7,-⟩:=bQ hK
  refine bodyPost_ret (v:=.agg #[.int .i64 k,.slice q0 n0 c0,.slice q1 n1 c1,.int .i64 uid,.int .i64 a,.int .i64 fl,.int .i64 si,.slice q2 n2 c2]) (by simp [results,Tryz.results12,go_sem,f0,f1,f2,f3,f4,f5,f6,f7]) rfl ?_
  exact ⟨_,rfl,⟨⟨k,bx,tt,uid,a,fl,si,tx⟩,⟨_,_,_,rfl,F0,F1,F2,HJ.out.1,HJ.out.2.1,by unfold ay;dsimp only;omega,HJ.out.2.2.2.1,HJ.out.2.2.2.2⟩,_,_,_,_,_,_,_,rfl,FW⟩,FC,FG⟩
 ·have jL:=HX.out.cur.lt.2
  have hI:=ni w3 g [-1,1,31,32] 3 (-1) 32 jL (by simp) (by simp) (by intro x hx;simp at hx;omega)
  have bA:Below _ w3 (w3.alloc (.cells #[.int .i64 (-1),.int .i64 1,.int .i64 31,.int .i64 32] 3)):=bn _ _
  have HI:Hid (lJ (w3.alloc (.cells #[.int .i64 (-1),.int .i64 1,.int .i64 31,.int .i64 32] 3)) (.slice (some ⟨w3.heap.size,0,none⟩) 4 4) g 4 (-1) 32):=by simpa [Hid] using hI
  have HZ:=aD (HX.out.below PP.out bA)
  clear hI jL bA
  go_wp2_with fail
  refine (ng w0 _ g 4 cv _ L (-1) 32 HZ.out.cur HI.out).mono ?_
  rintro e w4 ⟨a,rfl,ap,aq,C,G⟩
  have HY:=aD (HZ.out.draw PP.out C G)
  clear HI HZ C G HX
  have HX:=HY
  clear HY
  clear f0 f1 f2 f3 f4 f5 f6 f7 fz bK
  obtain ⟨y1,y2,y7,f0,f1,f2,f3,f4,f5,f6,f7,fz,bK⟩:=HX.out.cells
  dsimp only at f0 f3 f4 f5 f6
  have HY:Hid (bS w0 w (w4.setCell ⟨w1.heap.size,5,none⟩ (.int .i64 a)) g w1.heap.size w.heap.size cv L ⟨k,bx,tt,uid,mode,a,si,tx⟩):=aD (HX.out.qg (n:=a) PP.out (.inr (.inr (.inr (.inl ⟨rfl,rfl⟩)))))
  clear HX
  have HX:=HY
  clear HY
  go_upto_region 20 with fail
  clear f0 f1 f2 f3 f4 f5 f6 f7 fz bK
  generalize (w4.setCell ⟨w1.heap.size,5,none⟩ (.int .i64 a))=wz at HX ⊢
  obtain ⟨q0,n0,c0,q1,n1,c1,q2,n2,c2,hk,hF⟩:=HX.out.fin PP.out
  dsimp only at hk
  obtain ⟨d0,d1,d2,d3,d4,d5,d6,d7,-⟩:=bQ hk
  obtain ⟨dz,dl⟩:=aZ hk
  obtain ⟨r0,r1,r2,r3,r4,r5,r6,r7,-⟩:=bQ HX.out.res
  obtain ⟨rz,rl⟩:=aZ HX.out.res
  go_wp2
  obtain ⟨hK,F0,F1,F2,FC,FG,FW⟩:=hF.out _ _ _ rfl rfl rfl
  obtain ⟨f0,f1,f2,f3,f4,f5,f6,f7,-⟩:=bQ hK
  refine bodyPost_ret (v:=.agg #[.int .i64 k,.slice q0 n0 c0,.slice q1 n1 c1,.int .i64 uid,.int .i64 mode,.int .i64 a,.int .i64 si,.slice q2 n2 c2]) (by simp [results,Tryz.results12,go_sem,f0,f1,f2,f3,f4,f5,f6,f7]) rfl ?_
  exact ⟨_,rfl,⟨⟨k,bx,tt,uid,mode,a,si,tx⟩,⟨_,_,_,rfl,F0,F1,F2,HJ.out.1,HJ.out.2.1,HJ.out.2.2.1,by unfold ay;dsimp only;omega,HJ.out.2.2.2.2⟩,_,_,_,_,_,_,_,rfl,FW⟩,FC,FG⟩
 ·have jL:=HX.out.cur.lt.2
  have hI:=ni w3 g [-1,1,1000000,1000001] 3 (-1) 1000001 jL (by simp) (by simp) (by intro x hx;simp at hx;omega)
  have bA:Below _ w3 (w3.alloc (.cells #[.int .i64 (-1),.int .i64 1,.int .i64 1000000,.int .i64 1000001] 3)):=bn _ _
  have HI:Hid (lJ (w3.alloc (.cells #[.int .i64 (-1),.int .i64 1,.int .i64 1000000,.int .i64 1000001] 3)) (.slice (some ⟨w3.heap.size,0,none⟩) 4 4) g 4 (-1) 1000001):=by simpa [Hid] using hI
  have HZ:=aD (HX.out.below PP.out bA)
  clear hI jL bA
  go_wp2_with fail
  refine (ng w0 _ g 4 cv _ L (-1) 1000001 HZ.out.cur HI.out).mono ?_
  rintro e w4 ⟨a,rfl,ap,aq,C,G⟩
  have HY:=aD (HZ.out.draw PP.out C G)
  clear HI HZ C G HX
  have HX:=HY
  clear HY
  clear f0 f1 f2 f3 f4 f5 f6 f7 fz bK
  obtain ⟨y1,y2,y7,f0,f1,f2,f3,f4,f5,f6,f7,fz,bK⟩:=HX.out.cells
  dsimp only at f0 f3 f4 f5 f6
  have HY:Hid (bS w0 w (w4.setCell ⟨w1.heap.size,6,none⟩ (.int .i64 a)) g w1.heap.size w.heap.size cv L ⟨k,bx,tt,uid,mode,fl,a,tx⟩):=aD (HX.out.qg (n:=a) PP.out (.inr (.inr (.inr (.inr ⟨rfl,rfl⟩)))))
  clear HX
  have HX:=HY
  clear HY
  go_upto_region 20 with fail
  clear f0 f1 f2 f3 f4 f5 f6 f7 fz bK
  generalize (w4.setCell ⟨w1.heap.size,6,none⟩ (.int .i64 a))=wz at HX ⊢
  obtain ⟨q0,n0,c0,q1,n1,c1,q2,n2,c2,hk,hF⟩:=HX.out.fin PP.out
  dsimp only at hk
  obtain ⟨d0,d1,d2,d3,d4,d5,d6,d7,-⟩:=bQ hk
  obtain ⟨dz,dl⟩:=aZ hk
  obtain ⟨r0,r1,r2,r3,r4,r5,r6,r7,-⟩:=bQ HX.out.res
  obtain ⟨rz,rl⟩:=aZ HX.out.res
  go_wp2
  obtain ⟨hK,F0,F1,F2,FC,FG,FW⟩:=hF.out _ _ _ rfl rfl rfl
  obtain ⟨f0,f1,f2,f3,f4,f5,f6,f7,-⟩:=bQ hK
  refine bodyPost_ret (v:=.agg #[.int .i64 k,.slice q0 n0 c0,.slice q1 n1 c1,.int .i64 uid,.int .i64 mode,.int .i64 fl,.int .i64 a,.slice q2 n2 c2]) (by simp [results,Tryz.results12,go_sem,f0,f1,f2,f3,f4,f5,f6,f7]) rfl ?_
  exact ⟨_,rfl,⟨⟨k,bx,tt,uid,mode,fl,a,tx⟩,⟨_,_,_,rfl,F0,F1,F2,HJ.out.1,HJ.out.2.1,HJ.out.2.2.1,HJ.out.2.2.2.1,by unfold ay;dsimp only;omega⟩,_,_,_,_,_,_,_,rfl,FW⟩,FC,FG⟩
 ·have bA:Below w3.heap.size w3 (w3.alloc (.cells #[.int .u8 7] 5)):=bn _ _
  have HB1:=aD (UR w3 7 (by omega))
  have uS:=aD bA
  have HZ:=aD (HX.out.below PP.out bA)
  obtain ⟨v0,v1,v2,hk,q0,q1,T⟩:=HX.out.cmd
  dsimp only at hk q0 q1 T
  clear bA
  clear f0 f1 f2 f3 f4 f5 f6 f7 fz bK
  obtain ⟨f0,f1,f2,f3,f4,f5,f6,f7,bK⟩:=bQ hk
  have fz:=(aZ hk).1
  rcases T with ⟨rfl,rfl⟩ | ⟨q,t,t0,t1,t2,t3,t4⟩
  ·have HE:Hid (iq (w3.alloc (.cells #[.int .u8 7] 5)) w3.heap.size (.slice none 0 0) []):=⟨w3.heap.size,Nat.le_refl _,Af,.inl ⟨rfl,rfl⟩⟩
   go_wp2_with (at_builtin;refine UU rfl (.tmp 57) (.tmp 58) 22 rfl i0 Tryz.underlying22 hi hz0 hz1 hz2 w3.heap.size _ [] rfl HE.out _ [7] rfl HB1.out (by simp) (by simp) w3 uS.out ?_)
   rintro v' w4 OO B4 -
   obtain ⟨TX,Ac⟩:∃ TX:List Int,TX=[7]:=⟨_,rfl⟩
   rw [← Ac] at OO
   obtain ⟨gq,hge,O⟩:=adI OO (by rw [Ac];simp)
   obtain ⟨cp,rfl⟩:=O.form
   have HY:Hid (bS w0 w (w4.setCell ⟨w1.heap.size,7,none⟩ (.slice (some ⟨gq,0,none⟩) TX.length cp)) g w1.heap.size w.heap.size cv L ⟨k,bx,tt,uid,mode,fl,si,TX⟩):=aD (HX.out.wP PP.out (HX.out.cur.below B4) (gy (World.grownBy.refl _ _) B4) O hge (.inr (.inr ⟨rfl,rfl⟩)))
   have iC:=aD (HX.out.below PP.out B4)
   clear Ac OO O hge B4 HX HE HB1 uS HZ hk q0 q1 f0 f1 f2 f3 f4 f5 f6 f7 fz bK
   have HX:=iC
   clear iC
   obtain ⟨y1,y2,y7,f0,f1,f2,f3,f4,f5,f6,f7,fz,bK⟩:=HX.out.cells
   dsimp only at f0 f3 f4 f5 f6
   clear HX
   have HX:=HY
   clear HY
   go_upto_region 20 with fail
   clear f0 f1 f2 f3 f4 f5 f6 f7 fz bK
   generalize (w4.setCell ⟨w1.heap.size,7,none⟩ (.slice (some ⟨gq,0,none⟩) TX.length cp))=wz at HX ⊢
   obtain ⟨q0,n0,c0,q1,n1,c1,q2,n2,c2,hk,hF⟩:=HX.out.fin PP.out
   dsimp only at hk
   obtain ⟨d0,d1,d2,d3,d4,d5,d6,d7,-⟩:=bQ hk
   obtain ⟨dz,dl⟩:=aZ hk
   obtain ⟨r0,r1,r2,r3,r4,r5,r6,r7,-⟩:=bQ HX.out.res
   obtain ⟨rz,rl⟩:=aZ HX.out.res
   go_wp2
   obtain ⟨hK,F0,F1,F2,FC,FG,FW⟩:=hF.out _ _ _ rfl rfl rfl
   obtain ⟨f0,f1,f2,f3,f4,f5,f6,f7,-⟩:=bQ hK
   refine bodyPost_ret (v:=.agg #[.int .i64 k,.slice q0 n0 c0,.slice q1 n1 c1,.int .i64 uid,.int .i64 mode,.int .i64 fl,.int .i64 si,.slice q2 n2 c2]) (by simp [results,Tryz.results12,go_sem,f0,f1,f2,f3,f4,f5,f6,f7]) rfl ?_
   exact ⟨_,rfl,⟨⟨k,bx,tt,uid,mode,fl,si,TX⟩,⟨_,_,_,rfl,F0,F1,F2,HJ.out.1,HJ.out.2.1,HJ.out.2.2.1,HJ.out.2.2.2.1,HJ.out.2.2.2.2⟩,_,_,_,_,_,_,_,rfl,FW⟩,FC,FG⟩
  ·have F8:=Nat.lt_of_lt_of_le t.lt uS.out.size
   have HT:Hid (bZ (w3.alloc (.cells #[.int .u8 7] 5)) q v2 tx):=t.below uS.out
   have HP:Hid (∀ w4 g' v' x,bZ w4 g' v' x→(w3.alloc (.cells #[.int .u8 7] 5)).grownBy w4 (some q)→(g'=q∨(w3.alloc (.cells #[.int .u8 7] 5)).heap.size≤g')→bS w0 w (w4.setCell ⟨w1.heap.size,7,none⟩ v') g w1.heap.size w.heap.size cv L ⟨k,bx,tt,uid,mode,fl,si,x⟩∧w4.heap[w1.heap.size]?=some (.cells #[.int .i64 k,v0,v1,.int .i64 uid,.int .i64 mode,.int .i64 fl,.int .i64 si,v2] 28 (0,0))):=by
    intro w4 g' v' x O G hg
    have gA:=gy (World.grownBy.refl w3 (some g)) uS.out
    have TY:=aB uS.out hk
    have:=HZ.out.adJ PP.out TY (q0.gb gA (.inl rfl)) (q1.gb gA (.inl rfl)) ⟨t0,t1,t2,t3,t4⟩ F8 G O hg rfl
    exact ⟨this.1,this.2.trans TY⟩
   obtain ⟨TX,Ac⟩:∃ TX:List Int,TX=tx ++ [7]:=⟨_,rfl⟩
   obtain ⟨cp0,rfl⟩:=t.form
   clear hk q0 q1 t t0 t1 t2 t3 t4 HX HZ
   go_wp2_with (at_builtin;refine WG rfl (.tmp 57) (.tmp 58) 22 rfl i0 Tryz.underlying22 hi hz0 hz1 hz2 q _ tx rfl HT.out _ [7] rfl HB1.out (by simp;omega) ?_)
   rintro v' w4 g' O G hg
   rw [← Ac] at O
   obtain ⟨HX0,hk⟩:=HP.out w4 g' v' TX O G (by simpa using hg)
   obtain ⟨cp,rfl⟩:=O.form
   have HX:=aD HX0
   clear Ac O G hg HX0 HP HT HB1 uS f0 f1 f2 f3 f4 f5 f6 f7 fz bK
   obtain ⟨f0,f1,f2,f3,f4,f5,f6,f7,bK⟩:=bQ hk
   have fz:=(aZ hk).1
   clear hk
   go_upto_region 20 with fail
   clear f0 f1 f2 f3 f4 f5 f6 f7 fz bK
   generalize (w4.setCell ⟨w1.heap.size,7,none⟩ (.slice (some ⟨g',0,none⟩) TX.length cp))=wz at HX ⊢
   obtain ⟨q0,n0,c0,q1,n1,c1,q2,n2,c2,hk,hF⟩:=HX.out.fin PP.out
   dsimp only at hk
   obtain ⟨d0,d1,d2,d3,d4,d5,d6,d7,-⟩:=bQ hk
   obtain ⟨dz,dl⟩:=aZ hk
   obtain ⟨r0,r1,r2,r3,r4,r5,r6,r7,-⟩:=bQ HX.out.res
   obtain ⟨rz,rl⟩:=aZ HX.out.res
   go_wp2
   obtain ⟨hK,F0,F1,F2,FC,FG,FW⟩:=hF.out _ _ _ rfl rfl rfl
   obtain ⟨f0,f1,f2,f3,f4,f5,f6,f7,-⟩:=bQ hK
   refine bodyPost_ret (v:=.agg #[.int .i64 k,.slice q0 n0 c0,.slice q1 n1 c1,.int .i64 uid,.int .i64 mode,.int .i64 fl,.int .i64 si,.slice q2 n2 c2]) (by simp [results,Tryz.results12,go_sem,f0,f1,f2,f3,f4,f5,f6,f7]) rfl ?_
   exact ⟨_,rfl,⟨⟨k,bx,tt,uid,mode,fl,si,TX⟩,⟨_,_,_,rfl,F0,F1,F2,HJ.out.1,HJ.out.2.1,HJ.out.2.2.1,HJ.out.2.2.2.1,HJ.out.2.2.2.2⟩,_,_,_,_,_,_,_,rfl,FW⟩,FC,FG⟩
 ·obtain ⟨w4,hcs,qx,b4⟩:∃ w',Sem.run Tryz.prog (convert 22 22 (.slice (some ⟨w3.heap.size,0,none⟩) 4 4)) (w3.alloc (.cells #[.int .u8 115,.int .u8 101,.int .u8 110,.int .u8 116] 5))=.ok (.slice (some ⟨w3.heap.size,0,none⟩) 4 4) w'∧bZ w' w3.heap.size (.slice (some ⟨w3.heap.size,0,none⟩) 4 4) [115,101,110,116]∧Below w3.heap.size w3 w':=LY w3 [115,101,110,116] (by intro x hx;simp at hx;omega) (by decide)
  have HY:Hid (bS w0 w (w4.setCell ⟨w1.heap.size,2,none⟩ (.slice (some ⟨w3.heap.size,0,none⟩) 4 4)) g w1.heap.size w.heap.size cv L ⟨k,bx,[115,101,110,116],uid,mode,fl,si,tx⟩):=aD (HX.out.wP PP.out (HX.out.cur.below b4) (gy (World.grownBy.refl _ _) b4) qx (Nat.le_refl _) (.inr (.inl ⟨rfl,rfl⟩)))
  have iC:=aD (HX.out.below PP.out b4)
  clear qx b4 HX
  have HX:=iC
  clear iC
  clear f0 f1 f2 f3 f4 f5 f6 f7 fz bK
  obtain ⟨y1,y2,y7,f0,f1,f2,f3,f4,f5,f6,f7,fz,bK⟩:=HX.out.cells
  dsimp only at f0 f3 f4 f5 f6
  clear HX
  have HX:=HY
  clear HY
  go_upto_region 20 with fail
  clear f0 f1 f2 f3 f4 f5 f6 f7 fz bK
  generalize (w4.setCell ⟨w1.heap.size,2,none⟩ (.slice (some ⟨w3.heap.size,0,none⟩) 4 4))=wz at HX ⊢
  obtain ⟨q0,n0,c0,q1,n1,c1,q2,n2,c2,hk,hF⟩:=HX.out.fin PP.out
  dsimp only at hk
  obtain ⟨d0,d1,d2,d3,d4,d5,d6,d7,-⟩:=bQ hk
  obtain ⟨dz,dl⟩:=aZ hk
  obtain ⟨r0,r1,r2,r3,r4,r5,r6,r7,-⟩:=bQ HX.out.res
  obtain ⟨rz,rl⟩:=aZ HX.out.res
  go_wp2
  obtain ⟨hK,F0,F1,F2,FC,FG,FW⟩:=hF.out _ _ _ rfl rfl rfl
  obtain ⟨f0,f1,f2,f3,f4,f5,f6,f7,-⟩:=bQ hK
  refine bodyPost_ret (v:=.agg #[.int .i64 k,.slice q0 n0 c0,.slice q1 n1 c1,.int .i64 uid,.int .i64 mode,.int .i64 fl,.int .i64 si,.slice q2 n2 c2]) (by simp [results,Tryz.results12,go_sem,f0,f1,f2,f3,f4,f5,f6,f7]) rfl ?_
  exact ⟨_,rfl,⟨⟨k,bx,[115,101,110,116],uid,mode,fl,si,tx⟩,⟨_,_,_,rfl,F0,F1,F2,HJ.out.1,HJ.out.2.1,HJ.out.2.2.1,HJ.out.2.2.2.1,HJ.out.2.2.2.2⟩,_,_,_,_,_,_,_,rfl,FW⟩,FC,FG⟩
end Go.Proofs.YtmglhdkeidhafaaGreat
