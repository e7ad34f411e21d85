/- The proof's texts, part 21. -/
import Derived.Test.YtfabngnaejjcmaaGreatDoorTk
import Derived.Deep.DeepCutAuto
import Derived.Deep.CutBlock
namespace Go.Proofs.YtfabngnaejjcmaaGreatDoor
open Go.RowKit
set_option linter.unusedVariables false
set_option linter.unusedSimpArgs false
set_option maxHeartbeats 8000000
set_option maxRecDepth 100000
/- What Uk of package spec draws: a command that may be. -/
/-- The parts of a command that was drawn: bytes that were made since wI; the text is none, or the call's own. -/
def MH (wI w:World) (v0 v1 v2:Value) (bx tt tx:List Int):Prop:=Bs w v0 bx/\Bs w v1 tt/\(∀b,v0.ownBlock=some b->wI.heap.size<=b/\b < w.heap.size)/\(∀b,v1.ownBlock=some b->wI.heap.size<=b/\b < w.heap.size) /\
 ((v2=.slice none 0 0/\tx=[])\/∃q,bL w q v2 tx/\v0.ownBlock≠some q/\v1.ownBlock≠some q/\wI.heap.size<=q)/\nN w v0 bx/\nN w v1 tt
def Jo (wI w:World) (u:Value) (c:gP):Prop:=∃a0 n0 c0 a1 n1 c1 v2,u=.agg #[.int .i64 c.k,.slice a0 n0 c0,.slice a1 n1 c1,.int .i64 c.uid,.int .i64 c.mode,.int .i64 c.fl,.int .i64 c.si,v2]/\MH wI w (.slice a0 n0 c0) (.slice a1 n1 c1) v2 c.bx c.tt c.tx
section
variable {w0 wI W W' : World} {g rr : Nat} {cv : Value} {L : List Int}
theorem jl (i:Nat) (x:Value) (h:wI.grownBy W (some rr)):wI.grownBy (W.setCell ⟨rr,i,none⟩ x) (some rr):=grownBy_setCell h
theorem wZ (h:wI.grownBy W (some g)) (hB:Below rr W W') (hr:wI.heap.size<=rr):wI.grownBy W' (some g):=⟨hB.os.trans h.os,hB.tape.trans h.tape,hB.output.trans h.output,Nat.le_trans h.size hB.size,λj hj hne=>(hB.block j (by omega)).trans (h.block j hj hne)⟩
theorem vk (h:aS w0 W g cv L) (hB:Below rr W W') (hr:g < rr):aS w0 W' g cv L:=by
 obtain⟨hg,hb,hbs,i,q,h0,h1,hh⟩:=h;exact⟨hg,hb.trans (hB.mono (by omega)),hbs,i,q,h0,h1,(hB.block g hr).trans hh⟩
end
section
variable {w0 wI W : World} {g k rr : Nat} {cv : Value} {L : List Int} {c : gP}
theorem bF.fin (h:bF w0 wI W g k rr cv L c) (P:vg w0 wI g k rr):∃a0 n0 c0 a1 n1 c1 a2 n2 c2,W.heap[k]?=some (.cells #[.int .i64 c.k,.slice a0 n0 c0,.slice a1 n1 c1,.int .i64 c.uid,.int .i64 c.mode,.int .i64 c.fl,.int .i64 c.si,.slice a2 n2 c2] 35 (0,0)) /\
  Hid (∀v0 v1 v2,v0=.slice a0 n0 c0->v1=.slice a1 n1 c1->v2=.slice a2 n2 c2->((((((((W.setCell ⟨rr,0,none⟩ (.int .i64 c.k)).setCell ⟨rr,1,none⟩ v0).setCell ⟨rr,2,none⟩ v1).setCell ⟨rr,3,none⟩ (.int .i64 c.uid)).setCell ⟨rr,4,none⟩ (.int .i64 c.mode)).setCell ⟨rr,5,none⟩ (.int .i64 c.fl)).setCell ⟨rr,6,none⟩ (.int .i64 c.si)).setCell ⟨rr,7,none⟩ v2).heap[rr]?=some (.cells #[.int .i64 c.k,v0,v1,.int .i64 c.uid,.int .i64 c.mode,.int .i64 c.fl,.int .i64 c.si,v2] 35 (0,0))/\Bs ((((((((W.setCell ⟨rr,0,none⟩ (.int .i64 c.k)).setCell ⟨rr,1,none⟩ v0).setCell ⟨rr,2,none⟩ v1).setCell ⟨rr,3,none⟩ (.int .i64 c.uid)).setCell ⟨rr,4,none⟩ (.int .i64 c.mode)).setCell ⟨rr,5,none⟩ (.int .i64 c.fl)).setCell ⟨rr,6,none⟩ (.int .i64 c.si)).setCell ⟨rr,7,none⟩ v2) v0 c.bx/\Bs ((((((((W.setCell ⟨rr,0,none⟩ (.int .i64 c.k)).setCell ⟨rr,1,none⟩ v0).setCell ⟨rr,2,none⟩ v1).setCell ⟨rr,3,none⟩ (.int .i64 c.uid)).setCell ⟨rr,4,none⟩ (.int .i64 c.mode)).setCell ⟨rr,5,none⟩ (.int .i64 c.fl)).setCell ⟨rr,6,none⟩ (.int .i64 c.si)).setCell ⟨rr,7,none⟩ v2) v1 c.tt/\Bs ((((((((W.setCell ⟨rr,0,none⟩ (.int .i64 c.k)).setCell ⟨rr,1,none⟩ v0).setCell ⟨rr,2,none⟩ v1).setCell ⟨rr,3,none⟩ (.int .i64 c.uid)).setCell ⟨rr,4,none⟩ (.int .i64 c.mode)).setCell ⟨rr,5,none⟩ (.int .i64 c.fl)).setCell ⟨rr,6,none⟩ (.int .i64 c.si)).setCell ⟨rr,7,none⟩ v2) v2 c.tx/\aS w0 ((((((((W.setCell ⟨rr,0,none⟩ (.int .i64 c.k)).setCell ⟨rr,1,none⟩ v0).setCell ⟨rr,2,none⟩ v1).setCell ⟨rr,3,none⟩ (.int .i64 c.uid)).setCell ⟨rr,4,none⟩ (.int .i64 c.mode)).setCell ⟨rr,5,none⟩ (.int .i64 c.fl)).setCell ⟨rr,6,none⟩ (.int .i64 c.si)).setCell ⟨rr,7,none⟩ v2) g cv L/\wI.grownBy ((((((((W.setCell ⟨rr,0,none⟩ (.int .i64 c.k)).setCell ⟨rr,1,none⟩ v0).setCell ⟨rr,2,none⟩ v1).setCell ⟨rr,3,none⟩ (.int .i64 c.uid)).setCell ⟨rr,4,none⟩ (.int .i64 c.mode)).setCell ⟨rr,5,none⟩ (.int .i64 c.fl)).setCell ⟨rr,6,none⟩ (.int .i64 c.si)).setCell ⟨rr,7,none⟩ v2) (some g)/\MH wI ((((((((W.setCell ⟨rr,0,none⟩ (.int .i64 c.k)).setCell ⟨rr,1,none⟩ v0).setCell ⟨rr,2,none⟩ v1).setCell ⟨rr,3,none⟩ (.int .i64 c.uid)).setCell ⟨rr,4,none⟩ (.int .i64 c.mode)).setCell ⟨rr,5,none⟩ (.int .i64 c.fl)).setCell ⟨rr,6,none⟩ (.int .i64 c.si)).setCell ⟨rr,7,none⟩ v2) v0 v1 v2 c.bx c.tt c.tx):=by
 obtain⟨u0,u1,u2,hc,⟨⟨a0,n0,c0,rfl⟩,b0,-,-,r0,s0,o0⟩,⟨⟨a1,n1,c1,rfl⟩,b1,-,-,r1,s1,o1⟩,T2⟩:=h.cmd;obtain⟨a2,n2,c2,rfl⟩:=T2.form;refine⟨a0,n0,c0,a1,n1,c1,a2,n2,c2,hc,?_⟩;intro v0 v1 v2 e0 e1 e2;have G:=jl 7 v2 (jl 6 (.int .i64 c.si) (jl 5 (.int .i64 c.fl) (jl 4 (.int .i64 c.mode) (jl 3 (.int .i64 c.uid) (jl 2 v1 (jl 1 v0 (jl 0 (.int .i64 c.k) (World.grownBy.refl W (some rr)))))))));have p1:=P.gI;have p3:=P.rI;have hB:=Zk (d0:=.int .i64 c.k) (d1:=v0) (d2:=v1) (d3:=.int .i64 c.uid) (d4:=.int .i64 c.mode) (d5:=.int .i64 c.fl) (d6:=.int .i64 c.si) (d7:=v2) (Below.refl rr W) (Nat.le_refl rr)
 have hsz:=hB.size;have T3:=T2.gb G (.inr (.inr rfl));subst e0 e1 e2;refine⟨Qq h.res,b0.grown G r0,b1.grown G r1,T3.bs,vk h.cur hB (by omega),wZ h.gr hB p3,b0.grown G r0,b1.grown G r1,λb hb=>?_,λb hb=>?_,?_,o0.gb G r0,o1.gb G r1⟩
 ·have:=s0 b hb;omega
 ·have:=s1 b hb;omega
 ·rcases T3 with e | ⟨q,t,t0,t1,t2,t3,t4⟩
  ·exact .inl e
  ·exact .inr ⟨q,t,t0,t1,by omega⟩
end
theorem MI (w0 w:World) (g:Nat) (cv:Value) (L:List Int) (hc:aS w0 w g cv L) :
  Calls Tryz.prog 22 #[.pointer (some ⟨g,0,none⟩)] w λe w'=>∃u,e=.returned u/\∃c:gP,om w' u c.k c.bx c.tt c.uid c.mode c.fl c.si c.tx/\qO c.k c.bx c.tt c.uid c.mode c.fl c.si c.tx=true/\aS w0 w' g cv L/\w.grownBy w' (some g)/\Jo w w' u c:=by
 have AB:Below w.heap.size w (w.alloc (.cells #[.int .i64 0,.slice none 0 0,.slice none 0 0,.int .i64 0,.int .i64 0,.int .i64 0,.int .i64 0,.slice none 0 0] 35)):=bn _ _;have K0:=aW w (.cells #[.int .i64 0,.slice none 0 0,.slice none 0 0,.int .i64 0,.int .i64 0,.int .i64 0,.int .i64 0,.slice none 0 0] 35);have hgl:=hc.lt.2;have hg0:=hc.lt.1;have hc0:=hc.below AB
 have hI:=ko (w.alloc (.cells #[.int .i64 0,.slice none 0 0,.slice none 0 0,.int .i64 0,.int .i64 0,.int .i64 0,.int .i64 0,.slice none 0 0] 35)) g [0,0,1,2,2,2,2,3,3,4,5,6,6,7,8,9] 3 0 9 (by simp;omega) (by simp) (by simp) (by intro x hx;simp at hx;omega)
 have bA:Below (w.alloc (.cells #[.int .i64 0,.slice none 0 0,.slice none 0 0,.int .i64 0,.int .i64 0,.int .i64 0,.int .i64 0,.slice none 0 0] 35)).heap.size (w.alloc (.cells #[.int .i64 0,.slice none 0 0,.slice none 0 0,.int .i64 0,.int .i64 0,.int .i64 0,.int .i64 0,.slice none 0 0] 35)) ((w.alloc (.cells #[.int .i64 0,.slice none 0 0,.slice none 0 0,.int .i64 0,.int .i64 0,.int .i64 0,.int .i64 0,.slice none 0 0] 35)).alloc (.cells #[.int .i64 0,.int .i64 0,.int .i64 1,.int .i64 2,.int .i64 2,.int .i64 2,.int .i64 2,.int .i64 3,.int .i64 3,.int .i64 4,.int .i64 5,.int .i64 6,.int .i64 6,.int .i64 7,.int .i64 8,.int .i64 9] 3)):=bn _ _
 have HI:Hid (jD ((w.alloc (.cells #[.int .i64 0,.slice none 0 0,.slice none 0 0,.int .i64 0,.int .i64 0,.int .i64 0,.int .i64 0,.slice none 0 0] 35)).alloc (.cells #[.int .i64 0,.int .i64 0,.int .i64 1,.int .i64 2,.int .i64 2,.int .i64 2,.int .i64 2,.int .i64 3,.int .i64 3,.int .i64 4,.int .i64 5,.int .i64 6,.int .i64 6,.int .i64 7,.int .i64 8,.int .i64 9] 3)) (.slice (some ⟨w.heap.size+1,0,none⟩) 16 16) g 16 0 9):=by simpa [Hid] using hI
 have Uo:=ay (hc0.below bA);have HK:=ay (aA bA K0);have HG:=ay (eX (eX (World.grownBy.refl w (some g)) AB) bA);clear hI hc hc0 AB K0 bA
 go_enter Tryz.func22,Tryz.ntmps22;go_wp2_with fail
 refine(kg w0 _ g 16 cv _ L 0 9 Uo.out HI.out).mono ?_;rintro e w1 ⟨x,rfl,hx0,hx1,C1,G1⟩;have K1:=ay ((G1.block w.heap.size (lt_of_heap HK.out) (by simp;omega)).trans HK.out);have iP:=ay (nM HG.out G1);have dJ:=ay C1;clear HI Uo HK HG C1 G1;go_wp2_with fail
 refine(Uj w0 _ g cv L dJ.out).mono ?_;rintro e w2 ⟨u,gq,bx,rfl,O,hge,hnb,C2,G2⟩;obtain⟨cp,rfl⟩:=O.form;have hl1:=lt_of_heap K1.out;have K2:=(G2.block w.heap.size hl1 (by simp;omega)).trans K1.out;have hl2:=lt_of_heap K2;have lq:=C2.lt.2;have PP:Hid (vg w0 w g w2.heap.size w.heap.size):=⟨hgl,hg0,by omega,Nat.le_refl _,by omega⟩;have HX:Hid (bF w0 w (w2.alloc (.cells #[.int .i64 x,.slice (some ⟨gq,0,none⟩) bx.length cp,.slice none 0 0,.int .i64 0,.int .i64 0,.int .i64 0,.int .i64 0,.slice none 0 0] 35)) g w2.heap.size w.heap.size cv L ⟨x,bx,[],0,0,0,0,[]⟩):=by
  have bA:Below w2.heap.size w2 (w2.alloc (.cells #[.int .i64 x,.slice (some ⟨gq,0,none⟩) bx.length cp,.slice none 0 0,.int .i64 0,.int .i64 0,.int .i64 0,.int .i64 0,.slice none 0 0] 35)):=bn _ _;have hlq:=O.lt;refine⟨C2.below bA,eX (nM iP.out G2) bA,aA bA K2,_,_,_,aW w2 _,⟨⟨_,_,_,rfl⟩,(O.below bA).bs,?_,?_,?_,?_,.inr ⟨gq,O.below bA⟩⟩,QB.nil _ _ _ _,.inl ⟨rfl,rfl⟩⟩
  ·simp only[Value.ownBlock,ne_eq,Option.some.injEq];omega
  ·simp only[Value.ownBlock,ne_eq,Option.some.injEq];omega
  ·simp only[Value.ownBlock,ne_eq,Option.some.injEq];omega
  ·intro b hb;simp only[Value.ownBlock,Option.some.injEq] at hb;subst hb;have:=bA.size;omega
 clear K1 iP dJ O hge C2 G2 K2;go_wp2_with fail
 refine(xX w0 _ g cv L 3 HX.out.cur (by omega) (by omega)).mono ?_;rintro e w3 ⟨y,rfl,C3,G3⟩;have su:=ay (HX.out.draw PP.out C3 G3);clear HX C3 G3;have HX:=su;clear su
 go_upto_if 16 with fail
 go_cut [] (λwx=>∃bx:List Int,gF bx=true/\Hid (bF w0 w wx g w2.heap.size w.heap.size cv L ⟨x,bx,[],0,0,0,0,[]⟩))
 case first =>
  cases y
  ·go_wp2
   go_meet
   case rel=>exact⟨bx,hnb,HX⟩
  ·obtain⟨y1,y2,y7,f0,f1,f2,f3,f4,f5,f6,f7,fz,bC⟩:=HX.out.cells
   dsimp only at f0 f3 f4 f5 f6;obtain⟨w4,hcs,qx,b4⟩:∃w',Sem.run Tryz.prog (convert 22 22 (.slice (some ⟨w3.heap.size,0,none⟩) 5 5)) (w3.alloc (.cells #[.int .u8 105,.int .u8 110,.int .u8 98,.int .u8 111,.int .u8 120] 5))=.ok (.slice (some ⟨w3.heap.size,0,none⟩) 5 5) w'/\bL w' w3.heap.size (.slice (some ⟨w3.heap.size,0,none⟩) 5 5) [105,110,98,111,120]/\Below w3.heap.size w3 w':=ME w3 [105,110,98,111,120] (by intro x hx;simp at hx;omega) (by decide)
   have HY:Hid (bF w0 w (w4.setCell ⟨w2.heap.size,1,none⟩ (.slice (some ⟨w3.heap.size,0,none⟩) 5 5)) g w2.heap.size w.heap.size cv L ⟨x,[105,110,98,111,120],[],0,0,0,0,[]⟩):=ay (HX.out.wY PP.out (HX.out.cur.below b4) (eX (World.grownBy.refl _ _) b4) qx (Nat.le_refl _) (.inl ⟨rfl,rfl⟩));have HZ:=ay (HX.out.below PP.out b4);clear qx b4 HX;have HX:=HZ;clear HZ;clear f0 f1 f2 f3 f4 f5 f6 f7 fz bC;obtain⟨y1,y2,y7,f0,f1,f2,f3,f4,f5,f6,f7,fz,bC⟩:=HX.out.cells;dsimp only at f0 f3 f4 f5 f6;go_wp2;go_meet
   case rel=>exact⟨_,by decide,HY⟩
 case rest =>
  obtain⟨bx,hnb,HX⟩:=hcut;obtain⟨y1,y2,y7,f0,f1,f2,f3,f4,f5,f6,f7,fz,bC⟩:=HX.out.cells;dsimp only at f0 f3 f4 f5 f6;go_wp2_with fail
  refine(Zj x _).mono ?_;rintro e w3 ⟨rfl,rfl⟩;clear f0 f1 f2 f3 f4 f5 f6 f7 fz bC;obtain⟨y1,y2,y7,f0,f1,f2,f3,f4,f5,f6,f7,fz,bC⟩:=HX.out.cells;dsimp only at f0 f3 f4 f5 f6
  go_upto_if 31 with fail
  go_cut [] (λwx=>∃bx:List Int,(x=9->bx=[])/\(x≠9->gF bx=true)/\Hid (bF w0 w wx g w2.heap.size w.heap.size cv L ⟨x,bx,[],0,0,0,0,[]⟩))
  case first =>
   by_cases h9:x=9
   ·have hb:(x == 9)=true:=by simp[h9]
    have HY:Hid (bF w0 w (w3.setCell ⟨w2.heap.size,1,none⟩ (.slice none 0 0)) g w2.heap.size w.heap.size cv L ⟨x,[],[],0,0,0,0,[]⟩):=ay (HX.out.aco PP.out rfl);go_wp2;go_meet
    case rel=>exact⟨[],λ_=>rfl,λh=>absurd h9 h,HY⟩
   ·have hb:(x == 9)=false:=by simp[h9]
    go_wp2;go_meet
    case rel=>exact⟨bx,λh=>absurd h h9,λ_=>hnb,HX⟩
  case rest =>
   obtain⟨bx,hb9,hbn,HX⟩:=hcut
   go_upto_if 33 with fail
   go_cut [4] (λ_ wx=>∃tt:List Int,(x=6->gF tt=true)/\(x≠6->tt=[])/\Hid (bF w0 w wx g w2.heap.size w.heap.size cv L ⟨x,bx,tt,0,0,0,0,[]⟩))
   case first =>
    cases hq:toB x
    ·go_wp2
     go_meet
     case rel=>exact⟨[],λh=>absurd hq (by simp[toB,h]),λ_=>rfl,HX⟩
    ·obtain⟨y1,y2,y7,f0,f1,f2,f3,f4,f5,f6,f7,fz,bC⟩:=HX.out.cells
     dsimp only at f0 f3 f4 f5 f6;go_wp2_with fail
     refine(Uj w0 _ g cv L HX.out.cur).mono ?_;rintro e w5 ⟨u,gq,m,rfl,O,hge,mb,C,G⟩;obtain⟨cp,rfl⟩:=O.form;have HY:Hid (bF w0 w (w5.setCell ⟨w2.heap.size,2,none⟩ (.slice (some ⟨gq,0,none⟩) m.length cp)) g w2.heap.size w.heap.size cv L ⟨x,bx,m,0,0,0,0,[]⟩):=ay (HX.out.wY PP.out C G O hge (.inr (.inl ⟨rfl,rfl⟩)));have HZ:=ay (HX.out.draw PP.out C G);clear O hge C G HX;have HX:=HZ;clear HZ;clear f0 f1 f2 f3 f4 f5 f6 f7 fz bC;obtain⟨y1,y2,y7,f0,f1,f2,f3,f4,f5,f6,f7,fz,bC⟩:=HX.out.cells;dsimp only at f0 f3 f4 f5 f6;go_wp2;go_meet
     case rel=>exact⟨m,λ_=>mb,λh=>absurd (by simpa [toB] using hq) h,HY⟩
   case rest =>
    obtain⟨tt,ht6,htn,HX⟩:=hcut
    go_upto_if 37 with fail
    go_cut [5] (λ_ wx=>∃uid:Int,(x=3\/x=5\/x=6->1<=uid/\uid<=5)/\(¬(x=3\/x=5\/x=6)->uid=0)/\Hid (bF w0 w wx g w2.heap.size w.heap.size cv L ⟨x,bx,tt,uid,0,0,0,[]⟩))
    case first =>
     cases hq:zV x
     ·go_wp2
      go_meet
      case rel=>exact⟨0,λh=>absurd hq (by simp[zV];omega),λ_=>rfl,HX⟩
     ·obtain⟨y1,y2,y7,f0,f1,f2,f3,f4,f5,f6,f7,fz,bC⟩:=HX.out.cells
      dsimp only at f0 f3 f4 f5 f6;go_wp2_with fail
      refine(iH w0 _ g cv L 5 HX.out.cur (by omega) (by omega)).mono ?_;rintro e w5 ⟨a,rfl,ap,aq,C,G⟩;have HY:=ay (HX.out.draw PP.out C G);clear C G;clear f0 f1 f2 f3 f4 f5 f6 f7 fz bC;clear HX;have HX:=HY;clear HY;obtain⟨y1,y2,y7,f0,f1,f2,f3,f4,f5,f6,f7,fz,bC⟩:=HX.out.cells;dsimp only at f0 f3 f4 f5 f6;have HY:Hid (bF w0 w (w5.setCell ⟨w2.heap.size,3,none⟩ (.int .i64 (1+a))) g w2.heap.size w.heap.size cv L ⟨x,bx,tt,(1+a),0,0,0,[]⟩):=ay (HX.out.qJ (n:=(1+a)) PP.out (.inr (.inl ⟨rfl,rfl⟩)));go_wp2;go_meet
      case rel=>exact⟨_,λ_=>⟨by omega,by omega⟩,λh=>absurd (by simpa [zV] using hq) h,HY⟩
    case rest =>
     obtain⟨uid,hu1,hu0,HX⟩:=hcut
     go_upto_if 42 with fail
     go_cut [6] (λ_ wx=>∃mode fl:Int,(x=2\/x=3\/x=6->0<=mode/\mode<=2/\0<=fl/\fl<=31)/\(¬(x=2\/x=3\/x=6)->mode=0/\fl=0)/\Hid (bF w0 w wx g w2.heap.size w.heap.size cv L ⟨x,bx,tt,uid,mode,fl,0,[]⟩))
     case first =>
      cases hq:zW x
      ·go_wp2
       go_meet
       case rel=>exact⟨0,0,λh=>absurd hq (by simp[zW];omega),λ_=>⟨rfl,rfl⟩,HX⟩
      ·obtain⟨y1,y2,y7,f0,f1,f2,f3,f4,f5,f6,f7,fz,bC⟩:=HX.out.cells
       dsimp only at f0 f3 f4 f5 f6;go_wp2_with fail
       refine(iH w0 _ g cv L 3 HX.out.cur (by omega) (by omega)).mono ?_;rintro e w5 ⟨a,rfl,ap,aq,C,G⟩;have HY:=ay (HX.out.draw PP.out C G);clear C G;clear f0 f1 f2 f3 f4 f5 f6 f7 fz bC;clear HX;have HX:=HY;clear HY;obtain⟨y1,y2,y7,f0,f1,f2,f3,f4,f5,f6,f7,fz,bC⟩:=HX.out.cells;dsimp only at f0 f3 f4 f5 f6;have HY:Hid (bF w0 w (w5.setCell ⟨w2.heap.size,4,none⟩ (.int .i64 a)) g w2.heap.size w.heap.size cv L ⟨x,bx,tt,uid,a,0,0,[]⟩):=ay (HX.out.qJ (n:=a) PP.out (.inr (.inr (.inl ⟨rfl,rfl⟩))));clear HX;have HX:=HY;clear HY;have lq:=HX.out.cur.lt.2
       have hI:=ko (w5.setCell ⟨w2.heap.size,4,none⟩ (.int .i64 a)) g [0,1,8,8,9,31,16] 3 0 31 lq (by simp) (by simp) (by intro x hx;simp at hx;omega);have bA:Below _ (w5.setCell ⟨w2.heap.size,4,none⟩ (.int .i64 a)) ((w5.setCell ⟨w2.heap.size,4,none⟩ (.int .i64 a)).alloc (.cells #[.int .i64 0,.int .i64 1,.int .i64 8,.int .i64 8,.int .i64 9,.int .i64 31,.int .i64 16] 3)):=bn _ _
       have HI:Hid (jD ((w5.setCell ⟨w2.heap.size,4,none⟩ (.int .i64 a)).alloc (.cells #[.int .i64 0,.int .i64 1,.int .i64 8,.int .i64 8,.int .i64 9,.int .i64 31,.int .i64 16] 3)) (.slice (some ⟨w5.heap.size,0,none⟩) 7 7) g 7 0 31):=by simpa [Hid] using hI
       have HZ:=ay (HX.out.below PP.out bA);clear hI lq bA;go_wp2_with fail
       refine(kg w0 _ g 7 cv _ L 0 31 HZ.out.cur HI.out).mono ?_;rintro e w6 ⟨c,rfl,cp,cq,C,G⟩;have HY:=ay (HZ.out.draw PP.out C G);clear HI HZ C G;clear f0 f1 f2 f3 f4 f5 f6 f7 fz bC;clear HX;have HX:=HY;clear HY;obtain⟨y1,y2,y7,f0,f1,f2,f3,f4,f5,f6,f7,fz,bC⟩:=HX.out.cells;dsimp only at f0 f3 f4 f5 f6;have HY:Hid (bF w0 w (w6.setCell ⟨w2.heap.size,5,none⟩ (.int .i64 c)) g w2.heap.size w.heap.size cv L ⟨x,bx,tt,uid,a,c,0,[]⟩):=ay (HX.out.qJ (n:=c) PP.out (.inr (.inr (.inr (.inl ⟨rfl,rfl⟩)))));go_wp2;go_meet
       case rel=>exact⟨_,_,λ_=>⟨by omega,by omega,by omega,by omega⟩,λh=>absurd (by simpa [zW] using hq) h,HY⟩
     case rest =>
      obtain⟨mode,fl,hm1,hm0,HX⟩:=hcut;obtain⟨y1,y2,y7,f0,f1,f2,f3,f4,f5,f6,f7,fz,bC⟩:=HX.out.cells;dsimp only at f0 f3 f4 f5 f6
      go_upto_block 0 with fail
      go_cut [] (λwx=>∃EM Jp:Int,(x=2->EM=0/\Jp=fl)/\(x=6->0<=EM/\EM<=1/\Jp=0)/\(¬(x=2\/x=6)->EM=mode/\Jp=fl)/\Hid (bF w0 w wx g w2.heap.size w.heap.size cv L ⟨x,bx,tt,uid,EM,Jp,0,[]⟩))
      case first =>
       by_cases h2:x=2
       ·have hb:(x == 2)=true:=by simp[h2]
        have HY:Hid (bF w0 w (wc.setCell ⟨w2.heap.size,4,none⟩ (.int .i64 0)) g w2.heap.size w.heap.size cv L ⟨x,bx,tt,uid,0,fl,0,[]⟩):=ay (HX.out.qJ (n:=0) PP.out (.inr (.inr (.inl ⟨rfl,rfl⟩))));go_wp2;go_meet
        case rel=>exact⟨0,fl,λ_=>⟨rfl,rfl⟩,λh=>absurd h (by omega),λh=>absurd (Or.inl h2) h,HY⟩
       by_cases h6:x=6
       ·have hb:(x == 2)=false:=by simp[h2]
        have hb6:(x == 6)=true:=by simp[h6]
        have H6:=ay h6;clear h6;go_wp2_with fail
        refine(iH w0 _ g cv L 2 HX.out.cur (by omega) (by omega)).mono ?_;rintro e w5 ⟨a,rfl,ap,aq,C,G⟩;have HY:=ay (HX.out.draw PP.out C G);clear C G;clear f0 f1 f2 f3 f4 f5 f6 f7 fz bC;clear HX;have HX:=HY;clear HY;obtain⟨y1,y2,y7,f0,f1,f2,f3,f4,f5,f6,f7,fz,bC⟩:=HX.out.cells;dsimp only at f0 f3 f4 f5 f6;have HY:Hid (bF w0 w (w5.setCell ⟨w2.heap.size,4,none⟩ (.int .i64 a)) g w2.heap.size w.heap.size cv L ⟨x,bx,tt,uid,a,fl,0,[]⟩):=ay (HX.out.qJ (n:=a) PP.out (.inr (.inr (.inl ⟨rfl,rfl⟩))));clear HX;have HX:=HY;clear HY
        have HY:Hid (bF w0 w ((w5.setCell ⟨w2.heap.size,4,none⟩ (.int .i64 a)).setCell ⟨w2.heap.size,5,none⟩ (.int .i64 0)) g w2.heap.size w.heap.size cv L ⟨x,bx,tt,uid,a,0,0,[]⟩):=ay (HX.out.qJ (n:=0) PP.out (.inr (.inr (.inr (.inl ⟨rfl,rfl⟩)))));go_wp2;go_meet
        case rel=>exact⟨a,0,λh=>absurd h h2,λ_=>⟨by omega,by omega,rfl⟩,λh=>absurd (Or.inr H6.out) h,HY⟩
       have hb:(x == 2)=false:=by simp[h2]
       have hb6:(x == 6)=false:=by simp[h6]
       go_wp2;go_meet
       case rel=>exact⟨mode,fl,λh=>absurd h h2,λh=>absurd h h6,λ_=>⟨rfl,rfl⟩,HX⟩
      case rest =>
       obtain⟨xk,xq,hf2,Uq,hf0,HX⟩:=hcut
       go_upto_if 61 with fail
       go_cut [7] (λ_ wx=>∃si:Int,(x=3\/x=8->0<=si/\si<=7)/\(¬(x=3\/x=8)->si=0)/\Hid (bF w0 w wx g w2.heap.size w.heap.size cv L ⟨x,bx,tt,uid,xk,xq,si,[]⟩))
       case first =>
        cases hq:zX x
        ·go_wp2
         go_meet
         case rel=>exact⟨0,λh=>absurd hq (by simp[zX];omega),λ_=>rfl,HX⟩
        ·obtain⟨y1,y2,y7,f0,f1,f2,f3,f4,f5,f6,f7,fz,bC⟩:=HX.out.cells
         dsimp only at f0 f3 f4 f5 f6;go_wp2_with fail
         refine(iH w0 _ g cv L 8 HX.out.cur (by omega) (by omega)).mono ?_;rintro e w5 ⟨a,rfl,ap,aq,C,G⟩;have HY:=ay (HX.out.draw PP.out C G);clear C G;clear f0 f1 f2 f3 f4 f5 f6 f7 fz bC;clear HX;have HX:=HY;clear HY;obtain⟨y1,y2,y7,f0,f1,f2,f3,f4,f5,f6,f7,fz,bC⟩:=HX.out.cells;dsimp only at f0 f3 f4 f5 f6;go_wp2_with fail
         refine(iH w0 _ g cv L 2 HX.out.cur (by omega) (by omega)).mono ?_;rintro e w6 ⟨c,rfl,cp,cq,C,G⟩;have HY:=ay (HX.out.draw PP.out C G);clear C G;clear f0 f1 f2 f3 f4 f5 f6 f7 fz bC;clear HX;have HX:=HY;clear HY;obtain⟨y1,y2,y7,f0,f1,f2,f3,f4,f5,f6,f7,fz,bC⟩:=HX.out.cells;dsimp only at f0 f3 f4 f5 f6;have hmul:0<=a * c/\a * c<=7:=by
          obtain rfl | rfl:c=0\/c=1:=by omega
          ·omega
          ·omega
         have HY:Hid (bF w0 w (w6.setCell ⟨w2.heap.size,6,none⟩ (.int .i64 (a * c))) g w2.heap.size w.heap.size cv L ⟨x,bx,tt,uid,xk,xq,(a * c),[]⟩):=ay (HX.out.qJ (n:=(a * c)) PP.out (.inr (.inr (.inr (.inr ⟨rfl,rfl⟩)))));go_wp2;go_meet
         case rel=>exact⟨_,λ_=>hmul,λh=>absurd (by simpa [zX] using hq) h,HY⟩
       case rest =>
        obtain⟨si,hs1,hs0,HX⟩:=hcut
        go_upto_if 68 with fail
        go_cut [8] (λ_ wx=>∃tx:List Int,(x=2->jP tx=true)/\(x≠2->tx=[])/\Hid (bF w0 w wx g w2.heap.size w.heap.size cv L ⟨x,bx,tt,uid,xk,xq,si,tx⟩))
        case first =>
         cases hq:zY x
         ·go_wp2
          go_meet
          case rel=>exact⟨[],λh=>absurd hq (by simp[zY,h]),λ_=>rfl,HX⟩
         ·obtain⟨y1,y2,y7,f0,f1,f2,f3,f4,f5,f6,f7,fz,bC⟩:=HX.out.cells
          dsimp only at f0 f3 f4 f5 f6;go_wp2_with fail
          refine(acn w0 _ g cv L HX.out.cur).mono ?_;rintro e w5 ⟨u,gq,m,rfl,O,hge,mb,C,G⟩;obtain⟨cp,rfl⟩:=O.form;have HY:Hid (bF w0 w (w5.setCell ⟨w2.heap.size,7,none⟩ (.slice (some ⟨gq,0,none⟩) m.length cp)) g w2.heap.size w.heap.size cv L ⟨x,bx,tt,uid,xk,xq,si,m⟩):=ay (HX.out.wY PP.out C G O hge (.inr (.inr ⟨rfl,rfl⟩)));have HZ:=ay (HX.out.draw PP.out C G);clear O hge C G HX;have HX:=HZ;clear HZ;clear f0 f1 f2 f3 f4 f5 f6 f7 fz bC;obtain⟨y1,y2,y7,f0,f1,f2,f3,f4,f5,f6,f7,fz,bC⟩:=HX.out.cells;dsimp only at f0 f3 f4 f5 f6;go_wp2;go_meet
          case rel=>exact⟨m,λ_=>mb,λh=>absurd (by simpa [zY] using hq) h,HY⟩
        case rest =>
         obtain⟨tx,hx2,hxn,HX⟩:=hcut;obtain⟨q0,n0,c0,q1,n1,c1,q2,n2,c2,hk,hF⟩:=HX.out.fin PP.out;dsimp only at hk;obtain⟨d0,d1,d2,d3,d4,d5,d6,d7,-⟩:=bP hk;obtain⟨dz,dl⟩:=aO hk;obtain⟨r0,r1,r2,r3,r4,r5,r6,r7,-⟩:=bP HX.out.res;obtain⟨rz,rl⟩:=aO HX.out.res;go_wp2;obtain⟨hK,F0,F1,F2,FC,FG,FW⟩:=hF.out _ _ _ rfl rfl rfl;obtain⟨f0,f1,f2,f3,f4,f5,f6,f7,-⟩:=bP hK;have hr:(0<=uid/\uid<=5)/\(0<=xk/\xk<=2)/\(0<=xq/\xq<=31)/\(0<=si/\si<=7):=by
          obtain rfl | rfl | rfl | rfl | rfl | rfl | rfl | rfl | rfl | rfl:x=0\/x=1\/x=2\/x=3\/x=4\/x=5\/x=6\/x=7\/x=8\/x=9:=by omega
          all_goals (simp at hu1 hu0 hm1 hm0 hf2 Uq hf0 hs1 hs0;omega)
         refine bodyPost_ret (v:=.agg #[.int .i64 x,.slice q0 n0 c0,.slice q1 n1 c1,.int .i64 uid,.int .i64 xk,.int .i64 xq,.int .i64 si,.slice q2 n2 c2]) (by simp[results,Tryz.results22,go_sem,f0,f1,f2,f3,f4,f5,f6,f7]) rfl ?_;refine⟨_,rfl,⟨x,bx,tt,uid,xk,xq,si,tx⟩,⟨_,_,_,rfl,F0,F1,F2,by unfold av;dsimp only;omega,by unfold av;dsimp only;omega,by unfold av;dsimp only;omega,by unfold av;dsimp only;omega,by unfold av;dsimp only;omega⟩,?_,FC,FG,_,_,_,_,_,_,_,rfl,FW⟩;obtain rfl | rfl | rfl | rfl | rfl | rfl | rfl | rfl | rfl | rfl:x=0\/x=1\/x=2\/x=3\/x=4\/x=5\/x=6\/x=7\/x=8\/x=9:=by omega
         all_goals (simp at hu1 hu0 hm1 hm0 hf2 Uq hf0 hs1 hs0 hb9 hbn ht6 htn hx2 hxn;simp[qO,aQ, *];try omega)
/- An operation, as the machine does it. -/
section
variable {P : Program} {w0 : World} {φ : Ph} {s s' : Ob} {w : World} {n n' : Nat} {r l1 : Lg} {v : AV}
/-- What the operands say. -/
def sZ (φ:Ph) (ρ:Operand->M AV) (ρ':Operand->Value):Prop:=∀x v s n s' n' r l,ρ x s n=.ok v s' n' r l->s'=s/\n'=n/\v.den φ=some (ρ' x)
theorem sZ.at {ρ:Operand->M AV} {ρ':Operand->Value} (h:sZ φ ρ ρ') {x:Operand} (e:ρ x s n=.ok v s' n' r l1):s'=s/\n'=n/\v.den φ=some (ρ' x):=h x v s n s' n' r l1 e
theorem BR {ρ:Operand->M AV} {ρ':Operand->Value} (h:sZ φ ρ ρ'):∀ {xs:List Operand} {l:List AV} {s s':Ob} {n n':Nat} {r l1:Lg},nG ρ xs s n=.ok l s' n' r l1->s'=s/\n'=n/\aH φ l=some (xs.map ρ')
 | [],l,s,s',n,n',r,l1,e=>by obtain⟨rfl,rfl,rfl⟩:=aF (show(pure []:M _) _ _=_ from e);exact⟨rfl,rfl,rfl⟩
 | x :: xs,l,s,s',n,n',r,l1,e=>by
  obtain⟨v,s1,n1,r1,m1,r2,m2,e1,e2,rfl,rfl⟩:=ak (show(ρ x >>= _) _ _=_ from e);obtain⟨rfl,rfl,hv⟩:=h.at e1;obtain⟨l',s2,n2,r3,m3,r4,m4,e3,e4,rfl,rfl⟩:=ak e2;obtain⟨rfl,rfl,hl⟩:=BR h e3;obtain⟨rfl,rfl,rfl⟩:=aF e4;exact⟨rfl,rfl,lV hv hl⟩
theorem MJ {ρ:Operand->M AV} {ρ':Operand->Value} (h:sZ φ ρ ρ'):∀ {ps:List (Nat × Operand)} {l:List (Nat × AV)} {s s':Ob} {n n':Nat} {r l1:Lg},AX ρ ps s n=.ok l s' n' r l1->s'=s/\n'=n/\EK φ l (ps.map λx=>(x.1,ρ' x.2))
 | [],l,s,s',n,n',r,l1,e=>by obtain⟨rfl,rfl,rfl⟩:=aF (show(pure []:M _) _ _=_ from e);exact⟨rfl,rfl,trivial⟩
 | x :: xs,l,s,s',n,n',r,l1,e=>by
  obtain⟨v,s1,n1,r1,m1,r2,m2,e1,e2,rfl,rfl⟩:=ak (show((do let v ← ρ x.2;pure (x.1,v):M _) >>= _) _ _=_ from e);obtain⟨u,s3,n3,r5,m5,r6,m6,e5,e6,rfl,rfl⟩:=ak e1;obtain⟨rfl,rfl,hv⟩:=h.at e5;obtain⟨rfl,rfl,rfl⟩:=aF e6;obtain⟨l',s2,n2,r3,m3,r4,m4,e3,e4,rfl,rfl⟩:=ak e2;obtain⟨rfl,rfl,hl⟩:=MJ h (ps:=xs) e3;obtain⟨rfl,rfl,rfl⟩:=aF e4;exact⟨rfl,rfl,rfl,hv,hl⟩
theorem Jq {ρ:Operand->M AV} {ρ':Operand->Value} (h:sZ φ ρ ρ') {x:Option Operand} {y:Option AV} (e:sK ρ x s n=.ok y s' n' r l1):s'=s/\n'=n/\(∀u,y=some u->∃U,x.map ρ'=some U/\u.den φ=some U)/\(y=none->x.map ρ'=none):=by
 cases x with
 | none=>obtain⟨rfl,rfl,rfl⟩:=aF (show(pure none:M _) _ _=_ from e);exact⟨rfl,rfl,by simp,by simp⟩
 | some x =>
  obtain⟨u,s1,n1,r1,m1,r2,m2,e1,e2,rfl,rfl⟩:=ak (show(ρ x >>= _) _ _=_ from e);obtain⟨rfl,rfl,hv⟩:=h.at e1;obtain⟨rfl,rfl,rfl⟩:=aF e2;exact⟨rfl,rfl,λu hu=>by cases hu;exact⟨_,rfl,hv⟩,by simp⟩
/-- A call, as the machine does it. -/
def vo (P:Program) (w0:World) (call:Nat->List AV->M AV):Prop:=∀f l L φ s w n v s' n' r m,Rel P w0 φ s w->aH φ l=some L->call f l s n=.ok v s' n' r m->Free φ n n' ->
 (∃ fn, P.funcs[f]? = some fn ∧ fn.body.isSome = true ∧ (fn.name == "runtime.NumGoroutine") = false) ∧ Calls P f L.toArray w fun e w' => ∃ V ψ, e = .returned V ∧ Rel P w0 ψ s' w' ∧ Ext φ ψ n n' ∧ φ.le ψ ∧ v.den ψ = some V
theorem MK {f : Nat} {A : Array Value} (h : ∃ fn, P.funcs[f]? = some fn ∧ fn.body.isSome = true ∧ (fn.name == "runtime.NumGoroutine") = false) : (callFunc f A).run P w = .ok (.enter f A) w := by
 obtain⟨fn,h1,h2,h3⟩:=h;cases hb:fn.body with
 | none=>rw[hb] at h2;cases h2
 | some c =>
  have h3' : ¬ fn.name = "runtime.NumGoroutine" := by simpa using h3
  simp[callFunc,h1,h3',hb]
/-- What is asked behind an operation. -/
def Post (P:Program) (w0:World) (φ:Ph) (s':Ob) (n n':Nat) (v:AV) (o:Oper) (a:Act) (K:Act->World->Prop):Prop :=
 ∀ψ V w',Rel P w0 ψ s' w'->Ext φ ψ n n'->φ.le ψ->(v=.bad\/v.den ψ=some V)->K (a.put o.dst V) w'
section
variable {o : Oper} {a : Act} {K : Act -> World -> Prop} {Q : Exit -> Act -> World -> Prop}
theorem tu {S:Sem Value} (h:Made P w0 φ s' w n n' v S) (hS:execOp a.eval o=(do pure (.value (← S)))) (hK:Post P w0 φ s' n n' v o a K):Oper.wp P o a w K Q:=by
 obtain⟨ψ,V,w',h1,h2,h3,h4,h5⟩:=h;unfold Oper.wp;rw[hS,Sem.run_bind,h1,Result.andThen_ok,Sem.run_pure,Oper.upon_value];exact hK ψ V w' h2 h3 h4 (.inr h5)
theorem jm {S:Sem Value} (h:Rel P w0 φ s w) (k:s'=s/\n'=n/\∃V,v.den φ=some V/\S.run P w=.ok V w) (hS:execOp a.eval o=(do pure (.value (← S)))) (hK:Post P w0 φ s' n n' v o a K):Oper.wp P o a w K Q :=
 tu (ze h k) hS hK
theorem ML {S:Sem Unit} (h:MB P w0 φ s' w n n' v S) (hS:execOp a.eval o=(do S;pure .skip)) (hK:Post P w0 φ s' n n' v o a K):Oper.wp P o a w K Q:=by
 obtain⟨rfl,rfl,w',h1,h2⟩:=h;unfold Oper.wp;rw[hS,Sem.run_bind,h1,Result.andThen_ok,Sem.run_pure,Oper.upon_skip];exact hK φ _ w' h2 (.refl _ _) (Ph.le_refl _) (.inr rfl)
theorem Jr {S:Sem Value} (h:n'=n/\∃V w',v.den φ=some V/\S.run P w=.ok V w'/\Rel P w0 φ s' w') (hS:execOp a.eval o=(do pure (.value (← S)))) (hK:Post P w0 φ s' n n' v o a K):Oper.wp P o a w K Q:=by
 obtain⟨rfl,V,w',h1,h2,h3⟩:=h;exact tu ⟨φ,V,w',h2,h3,.refl _ _,Ph.le_refl _,h1⟩ hS hK
theorem Ur {call : Nat → List AV → M AV} (hc : vo P w0 call) {f : Nat} {l : List AV} {L : List Value} (h : Rel P w0 φ s w) (hl : aH φ l = some L) (e : call f l s n = .ok v s' n' r l1) (hf : Free φ n n') (hS : (∃ fn, P.funcs[f]? = some fn ∧ fn.body.isSome = true ∧ (fn.name == "runtime.NumGoroutine") = false) → (execOp a.eval o).run P w = .ok (.enter f L.toArray) w) (hK : Post P w0 φ s' n n' v o a K) : Oper.wp P o a w K Q := by
 obtain⟨h1,h2⟩:=hc f l L φ s w n v s' n' r l1 h hl e hf;unfold Oper.wp;rw[hS h1,Oper.upon_enter];refine h2.mono ?_;rintro e' w' ⟨V,ψ,rfl,k1,k2,k3,k4⟩;exact hK ψ V w' k1 k2 k3 (.inr k4)
end
theorem Us {f:Fn} {l c:List AV} {V:Value} (h:(AV.fn f l c).den φ=some V):∃L C,aH φ l=some L/\aH φ c=some C/\V=.func f L.toArray C.toArray:=by
 simp only[AV.den] at h;cases h1:aH φ l with
 | none=>rw[h1] at h;cases h
 | some L =>
  cases h2:aH φ c with
  | none=>rw[h1,h2] at h;cases h
  | some C=>rw[h1,h2] at h;cases h;exact⟨L,C,rfl,rfl,rfl⟩
theorem acG {t:Nat} {i:TypeInfo} {m:Method} {f:Nat} {b:Bool} {d:TypeDesc} {V:Value} {name:String} (h1:P.info? t=some i) (h2:i.methods.find? (·.name == name)=some m) (hd:P.underlying t=some d) (hf:m.func=some (f,b)) (hp:m.path.toList=[]) (hb:b=qY P t) (k:Nat) :
  (method (k+1) t V name).run P w=.ok (f,V) w:=by
 rw[method];simp only[Sem.run_bind,typeInfo,run_program,Result.andThen_ok,h1,Sem.run_pure,h2,hp,follow,hf];subst hb;cases d <;> simp[receiverAt,underlying,hd,qY,Place.get]
theorem acH {call:Nat->List AV->M AV} (hc:vo P w0 call) {ρ:Operand->M AV} {a:Act} {c:Call} {dst:Option Nat} {ty:Nat} {ps:String} {af:Array Edge} {gd:Option (Nat × Bool)} {K:Act->World->Prop} {Q:Exit->Act->World->Prop} (h:Rel P w0 φ s w) (hr:sZ φ ρ a.eval) (e:Ip P ρ call c s n=.ok v s' n' r l1) (hf:Free φ n n') (hK:Post P w0 φ s' n n' v ⟨dst,.call c,ty,ps,af,gd⟩ a K):Oper.wp P ⟨dst,.call c,ty,ps,af,gd⟩ a w K Q:=by
 obtain⟨callee,args,ats⟩:=c;have ha:(args.map a.eval)=(args.toList.map a.eval).toArray:=by rw[← List.map_toArray,Array.toArray_toList]
 cases callee with
 | builtin b =>
  obtain⟨l,s1,n1,r1,m1,r2,m2,e1,e2,rfl,rfl⟩:=ak (show(nG ρ args.toList >>= _) _ _=_ from e);obtain⟨rfl,rfl,hl⟩:=BR hr e1;generalize args.toList.map a.eval=L at hl ha;cases b <;> first | (cases e2;done) | skip
  case append =>
   match l,hl,e2 with
   | [x,y],hl,e2 =>
    obtain⟨X,L',hx,hl',rfl⟩:=jk hl;obtain⟨Y,L2,hy,hl2,rfl⟩:=jk hl';simp only[aH] at hl2;cases hl2;exact tu (acr (ty:=ty) h hx hy e2 hf) (by simp only[execOp,resolve,ha];rfl) hK
   | [],_,e2=>cases e2
   | [_],_,e2=>cases e2
   | _ :: _ :: _ :: _,_,e2=>cases e2
  case len =>
   match l,hl,e2 with
   | [x],hl,e2 =>
    obtain⟨X,L',hx,hl',rfl⟩:=jk hl;simp only[aH] at hl';cases hl';exact jm h (acj (ty:=ty) h hx e2) (by simp only[execOp,resolve,ha];rfl) hK
   | [],_,e2=>cases e2
   | _ :: _ :: _,_,e2=>cases e2
  case copy =>
   match l,hl,e2 with
   | [x,y],hl,e2 =>
    obtain⟨X,L',hx,hl',rfl⟩:=jk hl;obtain⟨Y,L2,hy,hl2,rfl⟩:=jk hl';simp only[aH] at hl2;cases hl2;exact Jr (acB (ty:=ty) h hx hy e2) (by simp only[execOp,resolve,ha];rfl) hK
   | [],_,e2=>cases e2
   | [_],_,e2=>cases e2
   | _ :: _ :: _ :: _,_,e2=>cases e2
  case clear =>
   match l,hl,e2 with
   | [x],hl,e2 =>
    obtain⟨X,L',hx,hl',rfl⟩:=jk hl;simp only[aH] at hl';cases hl';obtain⟨k1,k2,w',k3,k4⟩:=acA (ty:=ty) h hx e2;exact Jr ⟨k1,.tuple #[],w',by rw[k2];rfl,k3,k4⟩ (by simp only[execOp,resolve,ha];rfl) hK
   | [],_,e2=>cases e2
   | _ :: _ :: _,_,e2=>cases e2
  case delete =>
   match l,hl,e2 with
   | [x,y],hl,e2 =>
    obtain⟨X,L',hx,hl',rfl⟩:=jk hl;obtain⟨Y,L2,hy,hl2,rfl⟩:=jk hl';simp only[aH] at hl2;cases hl2;obtain⟨k1,k2,w',k3,k4⟩:=abU ty h hy hx e2;exact Jr ⟨k1,.tuple #[],w',by rw[k2];rfl,k3,k4⟩ (by simp only[execOp,resolve,ha];rfl) hK
   | [],_,e2=>cases e2
   | [_],_,e2=>cases e2
   | _ :: _ :: _ :: _,_,e2=>cases e2
  case max=>exact jm h (Ui (b:=true) (ts:=ats) (ty:=ty) hl e2) (by simp only[execOp,resolve,ha];rfl) hK
  case min=>exact jm h (Ui (b:=false) (ts:=ats) (ty:=ty) hl e2) (by simp only[execOp,resolve,ha];rfl) hK
 | value f =>
  obtain⟨l,s1,n1,r1,m1,r2,m2,e1,e2,rfl,rfl⟩:=ak (show(nG ρ args.toList >>= _) _ _=_ from e);obtain⟨rfl,rfl,hl⟩:=BR hr e1;obtain⟨u,s2,n2,r3,m3,r4,m4,e3,e4,rfl,rfl⟩:=ak e2;obtain⟨rfl,rfl,hu⟩:=hr.at e3;unfold Bt at e4
  split at e4
  ·rename_i g x c
   obtain⟨X,C,hx,hcc,hV⟩:=Us hu;refine Ur hc h (wT (wT hx hl) hcc) e4 hf (λhg=>?_) hK;simp only[execOp,resolve,hV,Deferred.ofValue,Sem.run_bind,Sem.run_pure,Result.andThen_ok,invoke,ha];rw[MK hg];simp
  ·cases e4
 | invoke f name =>
  obtain⟨l,s1,n1,r1,m1,r2,m2,e1,e2,rfl,rfl⟩:=ak (show(nG ρ args.toList >>= _) _ _=_ from e);obtain⟨rfl,rfl,hl⟩:=BR hr e1;obtain⟨u,s2,n2,r3,m3,r4,m4,e3,e4,rfl,rfl⟩:=ak e2;obtain⟨rfl,rfl,hu⟩:=hr.at e3;unfold Im at e4
  split at e4
  ·rename_i t y
   obtain⟨Y,hY,hV⟩:=yZ hu;obtain⟨i,s3,n3,r5,m5,r6,m6,e5,e6,rfl,rfl⟩:=ak e4;obtain⟨h1,rfl,rfl⟩:=bW e5;obtain⟨m,s4,n4,r7,m7,r8,m8,e7,e8,rfl,rfl⟩:=ak e6;obtain⟨h2,rfl,rfl⟩:=bW e7;obtain⟨d,s5,n5,r9,m9,lg,m10,e9,e10,rfl,rfl⟩:=ak e8;obtain⟨rfl,rfl,hd⟩:=iO e9;cases hfn:m.func with
   | none=>rw[hfn] at e10;cases e10
   | some fb =>
   obtain⟨g,b⟩:=fb;cases hp:m.path.toList with
   | cons x l=>rw[hfn,hp] at e10;cases e10
   | nil =>
   rw[hfn,hp] at e10;cases hx:Bool.xor b (qY P t) with
   | true =>
    have e11:(cd (Bool.xor b (qY P t)) (M.no 104) (call g (y :: l)):M AV) _ _=_:=e10;rw[hx] at e11;cases e11
   | false =>
    have e11:(cd (Bool.xor b (qY P t)) (M.no 104) (call g (y :: l)):M AV) _ _=_:=e10;rw[hx] at e11;have hb:b=qY P t:=by revert hx;cases b <;> cases qY P t <;> simp
    refine Ur hc h (lV hY hl) e11 hf (λhg=>?_) hK;have hk:P.types.size+Made.depth=(P.types.size+Made.depth - 1)+1:=by simp[Made.depth]
    simp only[execOp,resolve,hV,Sem.run_bind,Sem.run_pure,Result.andThen_ok,invoke,ha];simp only[List.append_toArray,List.cons_append,List.nil_append,List.getElem?_toArray,List.getElem?_cons_zero,callMethod,Sem.run_bind,run_program,Result.andThen_ok];rw[hk,acG h1 h2 hd hfn hp hb];simp only[Result.andThen_ok];rw[MK hg];simp;exact List.take_of_length_le (by simp)
  ·cases e4
theorem acI {t:Nat} {lo:Option AV} {Lo:Option Value} {hi mx x:AV} {Hi Mx X:Value} (hlo:∀y,lo=some y->∃Y,Lo=some Y/\y.den φ=some Y) (hln:lo=none->Lo=none) (hhi:hi.den φ=some Hi) (hmx:mx.den φ=some Mx)
  (hx:x.den φ=some X) (e:Bn P t lo hi mx x s n=.ok v s' n' r l1):s'=s/\n'=n/\v=.bad/\∃V,(Instr.sliceAt t X Lo (some Hi) (some Mx)).run P w=.ok V w:=by
 unfold Bn at e
 split at e
 ·rename_i i o k c
  obtain⟨b,y,hp,rfl⟩:=pO hx;obtain⟨el,s1,n1,r1,m1,r2,m2,e1,e2,rfl,rfl⟩:=ak e;obtain⟨rfl,rfl,h1⟩:=pJ e1;obtain⟨sz,s2,n2,r3,m3,r4,m4,e3,e4,rfl,rfl⟩:=ak e2;obtain⟨rfl,rfl,hsz⟩:=kJ e3;obtain⟨m1',s3,n3,r5,m5,r6,m6,e5,e6,rfl,rfl⟩:=ak e4;obtain⟨rfl,rfl,Ut,rfl⟩:=I7 hmx e5;obtain⟨mm,s4,n4,r7,m7,r8,m8,e7,e8,rfl,rfl⟩:=ak e6;obtain⟨rfl,rfl,rfl,hm⟩:=Ms e7;obtain⟨h1',s5,n5,r9,m9,lg,m10,e9,e10,rfl,rfl⟩:=ak e8;obtain⟨rfl,rfl,Uu,rfl⟩:=I7 hhi e9;obtain⟨hh,s6,n6,zf,m11,zh,m12,e11,e12,rfl,rfl⟩:=ak e10;obtain⟨rfl,rfl,rfl,hhm⟩:=Ms e11;obtain⟨ll,s7,n7,BQ,m13,Jd,m14,e13,e14,rfl,rfl⟩:=ak e12
  obtain⟨rfl,rfl,hl⟩:=uY hlo hln e13;obtain⟨rfl,rfl,rfl⟩:=aF e14;refine⟨rfl,rfl,rfl,?_⟩;have hb:(Instr.sliceBounds true k (c+y) Lo (some (.int Uu hh)) (some (.int Ut mm))).run P w=.ok (ll,hh,mm) w:=by
   have sb:∀ {kd:IntKind} {i y:Nat} {code:BoundsCode},i<=y->(Instr.sliceBound (.int kd i) y code).run P w=.ok i w:=fun {kd i y code} hle=>by
    simp only[Instr.sliceBound,asIntOf,Sem.run_bind,Sem.run_pure,Result.andThen_ok];rw[if_pos ⟨by omega,by omega⟩];simp
   have b1:=λcode=>sb (kd:=Ut) (code:=code) (show mm<=c+y by omega);have b2:=λcode=>sb (kd:=Uu) (code:=code) hhm;rcases hl with⟨rfl,rfl⟩ | ⟨kl,rfl,h2⟩
   ·simp[Instr.sliceBounds,b1,b2]
   ·have b3:=λcode=>sb (kd:=kl) (code:=code) h2
    simp[Instr.sliceBounds,b1,b2,b3]
  exact⟨_,by simp[Instr.sliceAt,underlying,h1,Instr.slice,hb,run_sizeOf hsz];rfl⟩
 ·cases e
/-- Every operation. -/
theorem acJ {call:Nat->List AV->M AV} (hc:vo P w0 call) {ρ:Operand->M AV} {a:Act} {o:Oper} {K:Act->World->Prop} {Q:Exit->Act->World->Prop} (h:Rel P w0 φ s w) (hr:sZ φ ρ a.eval) (e:Et P call ρ o.op s n=.ok v s' n' r l1) (hf:Free φ n n') (hK:Post P w0 φ s' n n' v o a K):Oper.wp P o a w K Q:=by
 obtain⟨dst,op,ty,ps,af,gd⟩:=o;cases op <;> first | (cases e;done) | skip
 case move x=>exact jm (S:=pure (a.eval x)) h (by obtain⟨h1,h2,h3⟩:=hr.at (show ρ x s n=_ from e);exact⟨h1,h2,_,h3,by simp⟩) (by simp[execOp]) hK
 case assign x=>exact jm (S:=pure (a.eval x)) h (by obtain⟨h1,h2,h3⟩:=hr.at (show ρ x s n=_ from e);exact⟨h1,h2,_,h3,by simp⟩) (by simp[execOp]) hK
 case pick c x y =>
  obtain⟨u,s1,n1,r1,m1,r2,m2,e1,e2,rfl,rfl⟩:=ak (show(ρ c >>= λu=>Ea (ρ x) (ρ y) u) _ _=_ from e);obtain⟨rfl,rfl,hu⟩:=hr.at e1;unfold Ea at e2
  split at e2
  ·have hcv:=fE hu
   obtain⟨rfl,rfl,h3⟩:=hr.at e2;exact jm (S:=pure (a.eval x)) h ⟨rfl,rfl,_,h3,by simp⟩ (by simp[execOp,hcv,asBool]) hK
  ·have hcv:=fE hu
   obtain⟨rfl,rfl,h3⟩:=hr.at e2;exact jm (S:=pure (a.eval y)) h ⟨rfl,rfl,_,h3,by simp⟩ (by simp[execOp,hcv,asBool]) hK
  ·cases e2
 case alloc t=>exact tu (ab0 h e hf) rfl hK
 case box t x =>
  obtain⟨u,s1,n1,r1,m1,r2,m2,e1,e2,rfl,rfl⟩:=ak (show(ρ x >>= λu=>yO P t u.cells) _ _=_ from e);obtain⟨rfl,rfl,hu⟩:=hr.at e1;exact tu (Ub h (Mf hu) e2 hf) rfl hK
 case build t pp =>
  obtain⟨u,s1,n1,r1,m1,r2,m2,e1,e2,rfl,rfl⟩:=ak (show(AX ρ pp.toList >>= λu=>AY P t u) _ _=_ from e);obtain⟨rfl,rfl,hu⟩:=MJ hr e1;refine jm h (ab4 (w:=w) hu e2) ?_ hK;rw[← Array.toList_map,Array.toArray_toList];rfl
 case buildSlice t len pp =>
  obtain⟨u,s1,n1,r1,m1,r2,m2,e1,e2,rfl,rfl⟩:=ak (show(AX ρ pp.toList >>= λu=>AZ P t len u) _ _=_ from e);obtain⟨rfl,rfl,hu⟩:=MJ hr e1;refine tu (ab6 h hu e2 hf) ?_ hK;rw[← Array.toList_map,Array.toArray_toList];rfl
 case load t x =>
  obtain⟨u,s1,n1,r1,m1,r2,m2,e1,e2,rfl,rfl⟩:=ak (show(ρ x >>= λu=>yP P t u) _ _=_ from e);obtain⟨rfl,rfl,hu⟩:=hr.at e1;exact jm h (abq h hu e2) rfl hK
 case store t x y =>
  obtain⟨u,s1,n1,r1,m1,r2,m2,e1,e2,rfl,rfl⟩:=ak (show(ρ x >>= λu=>ρ y >>= λz=>A8 P t u z) _ _=_ from e);obtain⟨rfl,rfl,hu⟩:=hr.at e1;obtain⟨z,s2,n2,r3,m3,r4,m4,e3,e4,rfl,rfl⟩:=ak e2;obtain⟨rfl,rfl,hz⟩:=hr.at e3;exact ML (ab1 h hu hz e4) rfl hK
 case nilCheck x =>
  obtain⟨u,s1,n1,r1,m1,r2,m2,e1,e2,rfl,rfl⟩:=ak (show(ρ x >>= λu=>Ec P u) _ _=_ from e);obtain⟨rfl,rfl,hu⟩:=hr.at e1;obtain⟨rfl,rfl,hv,hx⟩:=abE (w:=w) (ρ:=a.eval) (x:=x) (o:=⟨dst,.nilCheck x,ty,ps,af,gd⟩) rfl rfl hu e2;unfold Oper.wp;rw[hx,Oper.upon_value];exact hK φ _ w h (.refl _ _) (Ph.le_refl _) (.inr hv)
 case binOp bop t x y q =>
  obtain⟨u,s1,n1,r1,m1,r2,m2,e1,e2,rfl,rfl⟩:=ak (show(ρ x >>= λu=>ρ y >>= λz=>Bc P bop t x y u z) _ _=_ from e);obtain⟨rfl,rfl,hu⟩:=hr.at e1;obtain⟨z,s2,n2,r3,m3,r4,m4,e3,e4,rfl,rfl⟩:=ak e2;obtain⟨rfl,rfl,hz⟩:=hr.at e3;exact jm h (abA (w:=w) hu hz e4) rfl hK
 case unOp uop q x =>
  obtain⟨u,s1,n1,r1,m1,r2,m2,e1,e2,rfl,rfl⟩:=ak (show(ρ x >>= λu=>Bd P uop u) _ _=_ from e);obtain⟨rfl,rfl,hu⟩:=hr.at e1;exact jm h (abB (w:=w) hu e2) rfl hK
 case convert src dt x =>
  obtain⟨u,s1,n1,r1,m1,r2,m2,e1,e2,rfl,rfl⟩:=ak (show(ρ x >>= λu=>Bf P src dt u) _ _=_ from e);obtain⟨rfl,rfl,hu⟩:=hr.at e1;exact tu (ace h hu e2 hf) rfl hK
 case makeInterface t x =>
  obtain⟨u,s1,n1,r1,m1,r2,m2,e1,e2,rfl,rfl⟩:=ak (show(ρ x >>= λu=>Bg P t u) _ _=_ from e);obtain⟨rfl,rfl,hu⟩:=hr.at e1;exact jm h (abC (w:=w) hu e2) rfl hK
 case makeFunc f x c =>
  obtain⟨u,s1,n1,r1,m1,r2,m2,e1,e2,rfl,rfl⟩:=ak (show(nG ρ x.toList >>= λu=>nG ρ c.toList >>= λz=>(pure (.fn f u z):M AV)) _ _=_ from e);obtain⟨rfl,rfl,hu⟩:=BR hr e1;obtain⟨z,s2,n2,r3,m3,r4,m4,e3,e4,rfl,rfl⟩:=ak e2;obtain⟨rfl,rfl,hz⟩:=BR hr e3;obtain⟨rfl,rfl,rfl⟩:=aF e4;exact jm (S:=Instr.makeFunc f (x.map a.eval) (c.map a.eval)) h ⟨rfl,rfl,.func f (x.map a.eval) (c.map a.eval),by
   have t1:∀y:Array Operand,(y.toList.map a.eval).toArray=y.map a.eval:=λy=>by rw[← List.map_toArray,Array.toArray_toList]
   simp only[AV.den,hu,hz,t1],by simp[Instr.makeFunc]⟩ rfl hK
 case makeMap t x =>
  obtain⟨u,s1,n1,r1,m1,r2,m2,e1,e2,rfl,rfl⟩:=ak (show(sK ρ x >>= λu=>Bh P t u) _ _=_ from e);obtain⟨rfl,rfl,hu,hn⟩:=Jq hr e1;exact tu (ab8 h hu hn e2 hf) rfl hK
 case makeSlice t x y =>
  obtain⟨u,s1,n1,r1,m1,r2,m2,e1,e2,rfl,rfl⟩:=ak (show(ρ x >>= λu=>ρ y >>= λz=>Bj P t u z) _ _=_ from e);obtain⟨rfl,rfl,hu⟩:=hr.at e1;obtain⟨z,s2,n2,r3,m3,r4,m4,e3,e4,rfl,rfl⟩:=ak e2;obtain⟨rfl,rfl,hz⟩:=hr.at e3;exact tu (ab7 h hu hz e4 hf) rfl hK
 case slice t x lo hi mx =>
  cases mx with
  | none =>
   obtain⟨l,s1,n1,r1,m1,r2,m2,e1,e2,rfl,rfl⟩:=ak (show(sK ρ lo >>= λl=>sK ρ hi >>= λh=>ρ x >>= λu=>Bl P t l h u) _ _=_ from e);obtain⟨rfl,rfl,hl,hln⟩:=Jq hr e1;obtain⟨hh,s2,n2,r3,m3,r4,m4,e3,e4,rfl,rfl⟩:=ak e2;obtain⟨rfl,rfl,hhi,hhn⟩:=Jq hr e3;obtain⟨u,s3,n3,r5,m5,r6,m6,e5,e6,rfl,rfl⟩:=ak e4;obtain⟨rfl,rfl,hu⟩:=hr.at e5;exact jm h (abH hl hln hhi hhn h hu e6) rfl hK
  | some mx =>
   cases hi with
   | none=>cases e
   | some hi =>
   obtain⟨l,s1,n1,r1,m1,r2,m2,e1,e2,rfl,rfl⟩:=ak (show(sK ρ lo >>= λl=>ρ hi >>= λh=>ρ mx >>= λm=>ρ x >>= λu=>Bn P t l h m u) _ _=_ from e);obtain⟨rfl,rfl,hl,hln⟩:=Jq hr e1;obtain⟨hh,s2,n2,r3,m3,r4,m4,e3,e4,rfl,rfl⟩:=ak e2;obtain⟨rfl,rfl,hhi⟩:=hr.at e3;obtain⟨mm,s3,n3,r5,m5,r6,m6,e5,e6,rfl,rfl⟩:=ak e4;obtain⟨rfl,rfl,hmx⟩:=hr.at e5;obtain⟨u,s4,n4,r7,m7,r8,m8,e7,e8,rfl,rfl⟩:=ak e6;obtain⟨rfl,rfl,hu⟩:=hr.at e7;obtain⟨rfl,rfl,rfl,V,hV⟩:=acI (w:=w) hl hln hhi hmx hu e8;unfold Oper.wp
   rw[show execOp a.eval ⟨dst,.slice t x lo (some hi) (some mx),ty,ps,af,gd⟩=(do pure (.value (← Instr.sliceAt t (a.eval x) (lo.map a.eval) (some (a.eval hi)) (some (a.eval mx))))) from rfl,Sem.run_bind,hV,Result.andThen_ok,Sem.run_pure,Oper.upon_value];exact hK φ _ w h (.refl _ _) (Ph.le_refl _) (.inl rfl)
 case fieldAddr t x f =>
  obtain⟨u,s1,n1,r1,m1,r2,m2,e1,e2,rfl,rfl⟩:=ak (show(ρ x >>= λu=>Bo P t f u) _ _=_ from e);obtain⟨rfl,rfl,hu⟩:=hr.at e1;exact jm h (abt (w:=w) hu e2) rfl hK
 case field t x f =>
  obtain⟨u,s1,n1,r1,m1,r2,m2,e1,e2,rfl,rfl⟩:=ak (show(ρ x >>= λu=>Ef P t f u) _ _=_ from e);obtain⟨rfl,rfl,hu⟩:=hr.at e1;exact jm h (abr (w:=w) hu e2) rfl hK
 case indexAddr t x ix =>
  obtain⟨z,s2,n2,r3,m3,r4,m4,e3,e4,rfl,rfl⟩:=ak (show(ρ ix >>= λz=>ρ x >>= λu=>Eh P t z u) _ _=_ from e);obtain⟨rfl,rfl,hz⟩:=hr.at e3;obtain⟨u,s1,n1,r1,m1,r2,m2,e1,e2,rfl,rfl⟩:=ak e4;obtain⟨rfl,rfl,hu⟩:=hr.at e1;exact jm h (abu (w:=w) hu hz e2) rfl hK
 case index t x ix =>
  obtain⟨z,s2,n2,r3,m3,r4,m4,e3,e4,rfl,rfl⟩:=ak (show(ρ ix >>= λz=>ρ x >>= λu=>Bp P t z u) _ _=_ from e);obtain⟨rfl,rfl,hz⟩:=hr.at e3;obtain⟨u,s1,n1,r1,m1,r2,m2,e1,e2,rfl,rfl⟩:=ak e4;obtain⟨rfl,rfl,hu⟩:=hr.at e1;exact jm h (abv (w:=w) hu hz e2) rfl hK
 case lookup t x ix ok =>
  obtain⟨z,s2,n2,r3,m3,r4,m4,e3,e4,rfl,rfl⟩:=ak (show(ρ ix >>= λz=>ρ x >>= λu=>Bq P t z ok u) _ _=_ from e);obtain⟨rfl,rfl,hz⟩:=hr.at e3;obtain⟨u,s1,n1,r1,m1,r2,m2,e1,e2,rfl,rfl⟩:=ak e4;obtain⟨rfl,rfl,hu⟩:=hr.at e1;exact jm h (abQ h hz hu e2) rfl hK
 case mapUpdate t m k x =>
  obtain⟨z,s2,n2,r3,m3,r4,m4,e3,e4,rfl,rfl⟩:=ak (show(ρ k >>= λz=>ρ x >>= λy=>ρ m >>= λu=>Br P t z y u) _ _=_ from e);obtain⟨rfl,rfl,hz⟩:=hr.at e3;obtain⟨y,s3,n3,r5,m5,r6,m6,e5,e6,rfl,rfl⟩:=ak e4;obtain⟨rfl,rfl,hy⟩:=hr.at e5;obtain⟨u,s1,n1,r1,m1,r2,m2,e1,e2,rfl,rfl⟩:=ak e6;obtain⟨rfl,rfl,hu⟩:=hr.at e1;exact ML (T9 h hz hu hy e2) rfl hK
 case insert t m k x =>
  obtain⟨z,s2,n2,r3,m3,r4,m4,e3,e4,rfl,rfl⟩:=ak (show(ρ k >>= λz=>ρ x >>= λy=>ρ m >>= λu=>Br P t z y u) _ _=_ from e);obtain⟨rfl,rfl,hz⟩:=hr.at e3;obtain⟨y,s3,n3,r5,m5,r6,m6,e5,e6,rfl,rfl⟩:=ak e4;obtain⟨rfl,rfl,hy⟩:=hr.at e5;obtain⟨u,s1,n1,r1,m1,r2,m2,e1,e2,rfl,rfl⟩:=ak e6;obtain⟨rfl,rfl,hu⟩:=hr.at e1;exact ML (T9 h hz hu hy e2) rfl hK
 case range t x =>
  obtain⟨u,s1,n1,r1,m1,r2,m2,e1,e2,rfl,rfl⟩:=ak (show(ρ x >>= λu=>Ej P t u) _ _=_ from e);obtain⟨rfl,rfl,hu⟩:=hr.at e1;exact tu (acf h hu e2 hf) rfl hK
 case next x b =>
  cases b with
  | true=>cases e
  | false =>
  obtain⟨u,s1,n1,r1,m1,r2,m2,e1,e2,rfl,rfl⟩:=ak (show(ρ x >>= λu=>Em u) _ _=_ from e);obtain⟨rfl,rfl,hu⟩:=hr.at e1;exact Jr (acD (ty:=ty) h hu e2) rfl hK
 case entry x =>
  obtain⟨u,s1,n1,r1,m1,r2,m2,e1,e2,rfl,rfl⟩:=ak (show(ρ x >>= λu=>Eo u) _ _=_ from e);obtain⟨rfl,rfl,hu⟩:=hr.at e1;exact jm h (acg h hu e2) rfl hK
 case typeAssert x t0 t ok =>
  obtain⟨u,s1,n1,r1,m1,r2,m2,e1,e2,rfl,rfl⟩:=ak (show(ρ x >>= λu=>Er P t ok u) _ _=_ from e);obtain⟨rfl,rfl,hu⟩:=hr.at e1;exact jm h (ach (w:=w) (t0:=t0) hu e2) rfl hK
 case extract x k =>
  obtain⟨u,s1,n1,r1,m1,r2,m2,e1,e2,rfl,rfl⟩:=ak (show(ρ x >>= λu=>Es k u) _ _=_ from e);obtain⟨rfl,rfl,hu⟩:=hr.at e1;exact jm h (abw (w:=w) hu e2) rfl hK
 case call c=>exact acH hc h hr e hf hK
end
end Go.Proofs.YtfabngnaejjcmaaGreatDoor
