/- The proof's texts, part 42. -/
import Derived.Test.YtmglhdkeidhafaaGreatTF
import Derived.Deep.CutBlock
namespace Go.Proofs.YtmglhdkeidhafaaGreat
open Go.RowKit
set_option linter.unusedVariables false
set_option linter.unusedSimpArgs false
set_option maxHeartbeats 8000000
set_option maxRecDepth 100000
/- What Tk of package spec draws: a command that may be. -/
/-- The parts of a command that was drawn: bytes that were made since wI; the text is none, or the call's own. -/
def LZ (wI w:World) (v0 v1 v2:Value) (bx tt tx:List Int):Prop:=Bs w v0 bx∧Bs w v1 tt∧(∀ b,v0.ownBlock=some b→wI.heap.size≤b∧b < w.heap.size)∧(∀ b,v1.ownBlock=some b→wI.heap.size≤b∧b < w.heap.size) ∧
 ((v2=.slice none 0 0∧tx=[])∨∃ q,bZ w q v2 tx∧v0.ownBlock≠some q∧v1.ownBlock≠some q∧wI.heap.size≤q)∧nQ w v0 bx∧nQ w v1 tt
def L6 (wI w:World) (u:Value) (c:dS):Prop:=∃ a0 n0 c0 a1 n1 c1 v2,u=.agg #[.int .i64 c.k,.slice a0 n0 c0,.slice a1 n1 c1,.int .i64 c.uid,.int .i64 c.mode,.int .i64 c.fl,.int .i64 c.si,v2]∧LZ wI w (.slice a0 n0 c0) (.slice a1 n1 c1) v2 c.bx c.tt c.tx
section
variable {w0 wI W W' : World} {g rr : Nat} {cv : Value} {L : List Int}
theorem jk (i:Nat) (x:Value) (h:wI.grownBy W (some rr)):wI.grownBy (W.setCell ⟨rr,i,none⟩ x) (some rr):=grownBy_setCell h
theorem L8 (h:wI.grownBy W (some g)) (hB:Below rr W W') (hr:wI.heap.size≤rr):wI.grownBy W' (some g):=⟨hB.os.trans h.os,hB.tape.trans h.tape,hB.output.trans h.output,Nat.le_trans h.size hB.size,fun j hj hne=>(hB.block j (by omega)).trans (h.block j hj hne)⟩
theorem Gj (h:bN w0 W g cv L) (hB:Below rr W W') (hr:g < rr):bN w0 W' g cv L:=by
 obtain ⟨hg,hb,hbs,i,q,h0,h1,hh⟩:=h
 exact ⟨hg,hb.trans (hB.mono (by omega)),hbs,i,q,h0,h1,(hB.block g hr).trans hh⟩
end
section
variable {w0 wI W : World} {g k rr : Nat} {cv : Value} {L : List Int} {c : dS}
theorem bS.fin (h:bS w0 wI W g k rr cv L c) (P:uT w0 wI g k rr):∃ a0 n0 c0 a1 n1 c1 a2 n2 c2,W.heap[k]?=some (.cells #[.int .i64 c.k,.slice a0 n0 c0,.slice a1 n1 c1,.int .i64 c.uid,.int .i64 c.mode,.int .i64 c.fl,.int .i64 c.si,.slice a2 n2 c2] 28 (0,0)) ∧
  Hid (∀ v0 v1 v2,v0=.slice a0 n0 c0→v1=.slice a1 n1 c1→v2=.slice a2 n2 c2→((((((((W.setCell ⟨rr,0,none⟩ (.int .i64 c.k)).setCell ⟨rr,1,none⟩ v0).setCell ⟨rr,2,none⟩ v1).setCell ⟨rr,3,none⟩ (.int .i64 c.uid)).setCell ⟨rr,4,none⟩ (.int .i64 c.mode)).setCell ⟨rr,5,none⟩ (.int .i64 c.fl)).setCell ⟨rr,6,none⟩ (.int .i64 c.si)).setCell ⟨rr,7,none⟩ v2).heap[rr]?=some (.cells #[.int .i64 c.k,v0,v1,.int .i64 c.uid,.int .i64 c.mode,.int .i64 c.fl,.int .i64 c.si,v2] 28 (0,0))∧Bs ((((((((W.setCell ⟨rr,0,none⟩ (.int .i64 c.k)).setCell ⟨rr,1,none⟩ v0).setCell ⟨rr,2,none⟩ v1).setCell ⟨rr,3,none⟩ (.int .i64 c.uid)).setCell ⟨rr,4,none⟩ (.int .i64 c.mode)).setCell ⟨rr,5,none⟩ (.int .i64 c.fl)).setCell ⟨rr,6,none⟩ (.int .i64 c.si)).setCell ⟨rr,7,none⟩ v2) v0 c.bx∧Bs ((((((((W.setCell ⟨rr,0,none⟩ (.int .i64 c.k)).setCell ⟨rr,1,none⟩ v0).setCell ⟨rr,2,none⟩ v1).setCell ⟨rr,3,none⟩ (.int .i64 c.uid)).setCell ⟨rr,4,none⟩ (.int .i64 c.mode)).setCell ⟨rr,5,none⟩ (.int .i64 c.fl)).setCell ⟨rr,6,none⟩ (.int .i64 c.si)).setCell ⟨rr,7,none⟩ v2) v1 c.tt∧Bs ((((((((W.setCell ⟨rr,0,none⟩ (.int .i64 c.k)).setCell ⟨rr,1,none⟩ v0).setCell ⟨rr,2,none⟩ v1).setCell ⟨rr,3,none⟩ (.int .i64 c.uid)).setCell ⟨rr,4,none⟩ (.int .i64 c.mode)).setCell ⟨rr,5,none⟩ (.int .i64 c.fl)).setCell ⟨rr,6,none⟩ (.int .i64 c.si)).setCell ⟨rr,7,none⟩ v2) v2 c.tx∧bN w0 ((((((((W.setCell ⟨rr,0,none⟩ (.int .i64 c.k)).setCell ⟨rr,1,none⟩ v0).setCell ⟨rr,2,none⟩ v1).setCell ⟨rr,3,none⟩ (.int .i64 c.uid)).setCell ⟨rr,4,none⟩ (.int .i64 c.mode)).setCell ⟨rr,5,none⟩ (.int .i64 c.fl)).setCell ⟨rr,6,none⟩ (.int .i64 c.si)).setCell ⟨rr,7,none⟩ v2) g cv L∧wI.grownBy ((((((((W.setCell ⟨rr,0,none⟩ (.int .i64 c.k)).setCell ⟨rr,1,none⟩ v0).setCell ⟨rr,2,none⟩ v1).setCell ⟨rr,3,none⟩ (.int .i64 c.uid)).setCell ⟨rr,4,none⟩ (.int .i64 c.mode)).setCell ⟨rr,5,none⟩ (.int .i64 c.fl)).setCell ⟨rr,6,none⟩ (.int .i64 c.si)).setCell ⟨rr,7,none⟩ v2) (some g)∧LZ wI ((((((((W.setCell ⟨rr,0,none⟩ (.int .i64 c.k)).setCell ⟨rr,1,none⟩ v0).setCell ⟨rr,2,none⟩ v1).setCell ⟨rr,3,none⟩ (.int .i64 c.uid)).setCell ⟨rr,4,none⟩ (.int .i64 c.mode)).setCell ⟨rr,5,none⟩ (.int .i64 c.fl)).setCell ⟨rr,6,none⟩ (.int .i64 c.si)).setCell ⟨rr,7,none⟩ v2) v0 v1 v2 c.bx c.tt c.tx):=by
 obtain ⟨u0,u1,u2,hc,⟨⟨a0,n0,c0,rfl⟩,b0,-,-,r0,s0,o0⟩,⟨⟨a1,n1,c1,rfl⟩,b1,-,-,r1,s1,o1⟩,T2⟩:=h.cmd
 obtain ⟨a2,n2,c2,rfl⟩:=T2.form
 refine ⟨a0,n0,c0,a1,n1,c1,a2,n2,c2,hc,?_⟩
 intro v0 v1 v2 e0 e1 e2
 have G:=jk 7 v2 (jk 6 (.int .i64 c.si) (jk 5 (.int .i64 c.fl) (jk 4 (.int .i64 c.mode) (jk 3 (.int .i64 c.uid) (jk 2 v1 (jk 1 v0 (jk 0 (.int .i64 c.k) (World.grownBy.refl W (some rr)))))))))
 have p1:=P.gI
 have p3:=P.rI
 have hB:=Ov (d0:=.int .i64 c.k) (d1:=v0) (d2:=v1) (d3:=.int .i64 c.uid) (d4:=.int .i64 c.mode) (d5:=.int .i64 c.fl) (d6:=.int .i64 c.si) (d7:=v2) (Below.refl rr W) (Nat.le_refl rr)
 have hsz:=hB.size
 have T3:=T2.gb G (.inr (.inr rfl))
 subst e0 e1 e2
 refine ⟨Io h.res,b0.grown G r0,b1.grown G r1,T3.bs,Gj h.cur hB (by omega),L8 h.gr hB p3,b0.grown G r0,b1.grown G r1,fun b hb=>?_,fun b hb=>?_,?_,o0.gb G r0,o1.gb G r1⟩
 ·have:=s0 b hb;omega
 ·have:=s1 b hb;omega
 ·rcases T3 with e | ⟨q,t,t0,t1,t2,t3,t4⟩
  ·exact .inl e
  ·exact .inr ⟨q,t,t0,t1,by omega⟩
end
theorem TA (w0 w:World) (g:Nat) (cv:Value) (L:List Int) (hc:bN w0 w g cv L) :
  Calls Tryz.prog 33 #[.pointer (some ⟨g,0,none⟩)] w fun e w'=>∃ u,e=.returned u∧∃ c:dS,iQ w' u c.k c.bx c.tt c.uid c.mode c.fl c.si c.tx∧dK c.k c.bx c.tt c.uid c.mode c.fl c.si c.tx=true∧bN w0 w' g cv L∧w.grownBy w' (some g)∧L6 w w' u c:=by
 have AB:Below w.heap.size w (w.alloc (.cells #[.int .i64 0,.slice none 0 0,.slice none 0 0,.int .i64 0,.int .i64 0,.int .i64 0,.int .i64 0,.slice none 0 0] 28)):=bn _ _
 have K0:=aW w (.cells #[.int .i64 0,.slice none 0 0,.slice none 0 0,.int .i64 0,.int .i64 0,.int .i64 0,.int .i64 0,.slice none 0 0] 28)
 have hgl:=hc.lt.2
 have hg0:=hc.lt.1
 have hc0:=hc.below AB
 have hI:=ni (w.alloc (.cells #[.int .i64 0,.slice none 0 0,.slice none 0 0,.int .i64 0,.int .i64 0,.int .i64 0,.int .i64 0,.slice none 0 0] 28)) g [0,0,1,2,2,2,2,3,3,4,5,6,6,7,8,9] 3 0 9 (by simp;omega) (by simp) (by simp) (by intro x hx;simp at hx;omega)
 have bA:Below (w.alloc (.cells #[.int .i64 0,.slice none 0 0,.slice none 0 0,.int .i64 0,.int .i64 0,.int .i64 0,.int .i64 0,.slice none 0 0] 28)).heap.size (w.alloc (.cells #[.int .i64 0,.slice none 0 0,.slice none 0 0,.int .i64 0,.int .i64 0,.int .i64 0,.int .i64 0,.slice none 0 0] 28)) ((w.alloc (.cells #[.int .i64 0,.slice none 0 0,.slice none 0 0,.int .i64 0,.int .i64 0,.int .i64 0,.int .i64 0,.slice none 0 0] 28)).alloc (.cells #[.int .i64 0,.int .i64 0,.int .i64 1,.int .i64 2,.int .i64 2,.int .i64 2,.int .i64 2,.int .i64 3,.int .i64 3,.int .i64 4,.int .i64 5,.int .i64 6,.int .i64 6,.int .i64 7,.int .i64 8,.int .i64 9] 3)):=bn _ _
 have HI:Hid (lJ ((w.alloc (.cells #[.int .i64 0,.slice none 0 0,.slice none 0 0,.int .i64 0,.int .i64 0,.int .i64 0,.int .i64 0,.slice none 0 0] 28)).alloc (.cells #[.int .i64 0,.int .i64 0,.int .i64 1,.int .i64 2,.int .i64 2,.int .i64 2,.int .i64 2,.int .i64 3,.int .i64 3,.int .i64 4,.int .i64 5,.int .i64 6,.int .i64 6,.int .i64 7,.int .i64 8,.int .i64 9] 3)) (.slice (some ⟨w.heap.size+1,0,none⟩) 16 16) g 16 0 9):=by simpa [Hid] using hI
 have TB:=aD (hc0.below bA)
 have HK:=aD (aB bA K0)
 have HG:=aD (gy (gy (World.grownBy.refl w (some g)) AB) bA)
 clear hI hc hc0 AB K0 bA
 go_enter Tryz.func33,Tryz.ntmps33
 go_wp2_with fail
 refine (ng w0 _ g 16 cv _ L 0 9 TB.out HI.out).mono ?_
 rintro e w1 ⟨x,rfl,hx0,hx1,C1,G1⟩
 have K1:=aD ((G1.block w.heap.size (lt_of_heap HK.out) (by simp;omega)).trans HK.out)
 have gN:=aD (wN HG.out G1)
 have dH:=aD C1
 clear HI TB HK HG C1 G1
 go_wp2_with fail
 refine (Tj w0 _ g cv L dH.out).mono ?_
 rintro e w2 ⟨u,gq,bx,rfl,O,hge,hnb,C2,G2⟩
 obtain ⟨cp,rfl⟩:=O.form
 have hl1:=lt_of_heap K1.out
 have K2:=(G2.block w.heap.size hl1 (by simp;omega)).trans K1.out
 have hl2:=lt_of_heap K2
 have jL:=C2.lt.2
 have PP:Hid (uT w0 w g w2.heap.size w.heap.size):=⟨hgl,hg0,by omega,Nat.le_refl _,by omega⟩
 have HX:Hid (bS w0 w (w2.alloc (.cells #[.int .i64 x,.slice (some ⟨gq,0,none⟩) bx.length cp,.slice none 0 0,.int .i64 0,.int .i64 0,.int .i64 0,.int .i64 0,.slice none 0 0] 28)) g w2.heap.size w.heap.size cv L ⟨x,bx,[],0,0,0,0,[]⟩):=by
  have bA:Below w2.heap.size w2 (w2.alloc (.cells #[.int .i64 x,.slice (some ⟨gq,0,none⟩) bx.length cp,.slice none 0 0,.int .i64 0,.int .i64 0,.int .i64 0,.int .i64 0,.slice none 0 0] 28)):=bn _ _
  have hlq:=O.lt
  refine ⟨C2.below bA,gy (wN gN.out G2) bA,aB bA K2,_,_,_,aW w2 _,⟨⟨_,_,_,rfl⟩,(O.below bA).bs,?_,?_,?_,?_,.inr ⟨gq,O.below bA⟩⟩,QB.nil _ _ _ _,.inl ⟨rfl,rfl⟩⟩
  ·simp only [Value.ownBlock,ne_eq,Option.some.injEq];omega
  ·simp only [Value.ownBlock,ne_eq,Option.some.injEq];omega
  ·simp only [Value.ownBlock,ne_eq,Option.some.injEq];omega
  ·intro b hb;simp only [Value.ownBlock,Option.some.injEq] at hb;subst hb;have:=bA.size;omega
 clear K1 gN dH O hge C2 G2 K2
 go_wp2_with fail
 refine (Es w0 _ g cv L 3 HX.out.cur (by omega) (by omega)).mono ?_
 rintro e w3 ⟨y,rfl,C3,G3⟩
 have nY:=aD (HX.out.draw PP.out C3 G3)
 clear HX C3 G3
 have HX:=nY
 clear nY
 go_upto_if 16 with fail
 go_cut [] (fun wx=>∃ bx:List Int,bG bx=true∧Hid (bS w0 w wx g w2.heap.size w.heap.size cv L ⟨x,bx,[],0,0,0,0,[]⟩))
 case first =>
  cases y
  ·go_wp2
   go_meet
   case rel=>exact ⟨bx,hnb,HX⟩
  ·obtain ⟨y1,y2,y7,f0,f1,f2,f3,f4,f5,f6,f7,fz,bK⟩:=HX.out.cells
   dsimp only at f0 f3 f4 f5 f6
   obtain ⟨w4,hcs,qx,b4⟩:∃ w',Sem.run Tryz.prog (convert 22 22 (.slice (some ⟨w3.heap.size,0,none⟩) 5 5)) (w3.alloc (.cells #[.int .u8 105,.int .u8 110,.int .u8 98,.int .u8 111,.int .u8 120] 5))=.ok (.slice (some ⟨w3.heap.size,0,none⟩) 5 5) w'∧bZ w' w3.heap.size (.slice (some ⟨w3.heap.size,0,none⟩) 5 5) [105,110,98,111,120]∧Below w3.heap.size w3 w':=LY w3 [105,110,98,111,120] (by intro x hx;simp at hx;omega) (by decide)
   have HY:Hid (bS w0 w (w4.setCell ⟨w2.heap.size,1,none⟩ (.slice (some ⟨w3.heap.size,0,none⟩) 5 5)) g w2.heap.size w.heap.size cv L ⟨x,[105,110,98,111,120],[],0,0,0,0,[]⟩):=aD (HX.out.wP PP.out (HX.out.cur.below b4) (gy (World.grownBy.refl _ _) b4) qx (Nat.le_refl _) (.inl ⟨rfl,rfl⟩))
   have HZ:=aD (HX.out.below PP.out b4)
   clear qx b4 HX
   have HX:=HZ
   clear HZ
   clear f0 f1 f2 f3 f4 f5 f6 f7 fz bK
   obtain ⟨y1,y2,y7,f0,f1,f2,f3,f4,f5,f6,f7,fz,bK⟩:=HX.out.cells
   dsimp only at f0 f3 f4 f5 f6
   go_wp2
   go_meet
   case rel=>exact ⟨_,by decide,HY⟩
 case rest =>
  obtain ⟨bx,hnb,HX⟩:=hcut
  obtain ⟨y1,y2,y7,f0,f1,f2,f3,f4,f5,f6,f7,fz,bK⟩:=HX.out.cells
  dsimp only at f0 f3 f4 f5 f6
  go_wp2_with fail
  refine (vE x _).mono ?_
  rintro e w3 ⟨rfl,rfl⟩
  clear f0 f1 f2 f3 f4 f5 f6 f7 fz bK
  obtain ⟨y1,y2,y7,f0,f1,f2,f3,f4,f5,f6,f7,fz,bK⟩:=HX.out.cells
  dsimp only at f0 f3 f4 f5 f6
  go_upto_if 31 with fail
  go_cut [] (fun wx=>∃ bx:List Int,(x=9→bx=[])∧(x≠9→bG bx=true)∧Hid (bS w0 w wx g w2.heap.size w.heap.size cv L ⟨x,bx,[],0,0,0,0,[]⟩))
  case first =>
   by_cases h9:x=9
   ·have hb:(x == 9)=true:=by simp [h9]
    have HY:Hid (bS w0 w (w3.setCell ⟨w2.heap.size,1,none⟩ (.slice none 0 0)) g w2.heap.size w.heap.size cv L ⟨x,[],[],0,0,0,0,[]⟩):=aD (HX.out.ac3 PP.out rfl)
    go_wp2
    go_meet
    case rel=>exact ⟨[],fun _=>rfl,fun h=>absurd h9 h,HY⟩
   ·have hb:(x == 9)=false:=by simp [h9]
    go_wp2
    go_meet
    case rel=>exact ⟨bx,fun h=>absurd h h9,fun _=>hnb,HX⟩
  case rest =>
   obtain ⟨bx,hb9,hbn,HX⟩:=hcut
   go_upto_if 33 with fail
   go_cut [4] (fun _ wx=>∃ tt:List Int,(x=6→bG tt=true)∧(x≠6→tt=[])∧Hid (bS w0 w wx g w2.heap.size w.heap.size cv L ⟨x,bx,tt,0,0,0,0,[]⟩))
   case first =>
    cases hq:toB x
    ·go_wp2
     go_meet
     case rel=>exact ⟨[],fun h=>absurd hq (by simp [toB,h]),fun _=>rfl,HX⟩
    ·obtain ⟨y1,y2,y7,f0,f1,f2,f3,f4,f5,f6,f7,fz,bK⟩:=HX.out.cells
     dsimp only at f0 f3 f4 f5 f6
     go_wp2_with fail
     refine (Tj w0 _ g cv L HX.out.cur).mono ?_
     rintro e w5 ⟨u,gq,m,rfl,O,hge,mb,C,G⟩
     obtain ⟨cp,rfl⟩:=O.form
     have HY:Hid (bS w0 w (w5.setCell ⟨w2.heap.size,2,none⟩ (.slice (some ⟨gq,0,none⟩) m.length cp)) g w2.heap.size w.heap.size cv L ⟨x,bx,m,0,0,0,0,[]⟩):=aD (HX.out.wP PP.out C G O hge (.inr (.inl ⟨rfl,rfl⟩)))
     have HZ:=aD (HX.out.draw PP.out C G)
     clear O hge C G HX
     have HX:=HZ
     clear HZ
     clear f0 f1 f2 f3 f4 f5 f6 f7 fz bK
     obtain ⟨y1,y2,y7,f0,f1,f2,f3,f4,f5,f6,f7,fz,bK⟩:=HX.out.cells
     dsimp only at f0 f3 f4 f5 f6
     go_wp2
     go_meet
     case rel=>exact ⟨m,fun _=>mb,fun h=>absurd (by simpa [toB] using hq) h,HY⟩
   case rest =>
    obtain ⟨tt,ht6,htn,HX⟩:=hcut
    go_upto_if 37 with fail
    go_cut [5] (fun _ wx=>∃ uid:Int,(x=3∨x=5∨x=6→1≤uid∧uid≤5)∧(¬ (x=3∨x=5∨x=6)→uid=0)∧Hid (bS w0 w wx g w2.heap.size w.heap.size cv L ⟨x,bx,tt,uid,0,0,0,[]⟩))
    case first =>
     cases hq:uX x
     ·go_wp2
      go_meet
      case rel=>exact ⟨0,fun h=>absurd hq (by simp [uX];omega),fun _=>rfl,HX⟩
     ·obtain ⟨y1,y2,y7,f0,f1,f2,f3,f4,f5,f6,f7,fz,bK⟩:=HX.out.cells
      dsimp only at f0 f3 f4 f5 f6
      go_wp2_with fail
      refine (kQ w0 _ g cv L 5 HX.out.cur (by omega) (by omega)).mono ?_
      rintro e w5 ⟨a,rfl,ap,aq,C,G⟩
      have HY:=aD (HX.out.draw PP.out C G)
      clear C G
      clear f0 f1 f2 f3 f4 f5 f6 f7 fz bK
      clear HX
      have HX:=HY
      clear HY
      obtain ⟨y1,y2,y7,f0,f1,f2,f3,f4,f5,f6,f7,fz,bK⟩:=HX.out.cells
      dsimp only at f0 f3 f4 f5 f6
      have HY:Hid (bS w0 w (w5.setCell ⟨w2.heap.size,3,none⟩ (.int .i64 (1+a))) g w2.heap.size w.heap.size cv L ⟨x,bx,tt,(1+a),0,0,0,[]⟩):=aD (HX.out.qg (n:=(1+a)) PP.out (.inr (.inl ⟨rfl,rfl⟩)))
      go_wp2
      go_meet
      case rel=>exact ⟨_,fun _=>⟨by omega,by omega⟩,fun h=>absurd (by simpa [uX] using hq) h,HY⟩
    case rest =>
     obtain ⟨uid,hu1,hu0,HX⟩:=hcut
     go_upto_if 42 with fail
     go_cut [6] (fun _ wx=>∃ mode fl:Int,(x=2∨x=3∨x=6→0≤mode∧mode≤2∧0≤fl∧fl≤31)∧(¬ (x=2∨x=3∨x=6)→mode=0∧fl=0)∧Hid (bS w0 w wx g w2.heap.size w.heap.size cv L ⟨x,bx,tt,uid,mode,fl,0,[]⟩))
     case first =>
      cases hq:uY x
      ·go_wp2
       go_meet
       case rel=>exact ⟨0,0,fun h=>absurd hq (by simp [uY];omega),fun _=>⟨rfl,rfl⟩,HX⟩
      ·obtain ⟨y1,y2,y7,f0,f1,f2,f3,f4,f5,f6,f7,fz,bK⟩:=HX.out.cells
       dsimp only at f0 f3 f4 f5 f6
       go_wp2_with fail
       refine (kQ w0 _ g cv L 3 HX.out.cur (by omega) (by omega)).mono ?_
       rintro e w5 ⟨a,rfl,ap,aq,C,G⟩
       have HY:=aD (HX.out.draw PP.out C G)
       clear C G
       clear f0 f1 f2 f3 f4 f5 f6 f7 fz bK
       clear HX
       have HX:=HY
       clear HY
       obtain ⟨y1,y2,y7,f0,f1,f2,f3,f4,f5,f6,f7,fz,bK⟩:=HX.out.cells
       dsimp only at f0 f3 f4 f5 f6
       have HY:Hid (bS w0 w (w5.setCell ⟨w2.heap.size,4,none⟩ (.int .i64 a)) g w2.heap.size w.heap.size cv L ⟨x,bx,tt,uid,a,0,0,[]⟩):=aD (HX.out.qg (n:=a) PP.out (.inr (.inr (.inl ⟨rfl,rfl⟩))))
       clear HX
       have HX:=HY
       clear HY
       have jL:=HX.out.cur.lt.2
       have hI:=ni (w5.setCell ⟨w2.heap.size,4,none⟩ (.int .i64 a)) g [0,1,8,8,9,31,16] 3 0 31 jL (by simp) (by simp) (by intro x hx;simp at hx;omega)
       have bA:Below _ (w5.setCell ⟨w2.heap.size,4,none⟩ (.int .i64 a)) ((w5.setCell ⟨w2.heap.size,4,none⟩ (.int .i64 a)).alloc (.cells #[.int .i64 0,.int .i64 1,.int .i64 8,.int .i64 8,.int .i64 9,.int .i64 31,.int .i64 16] 3)):=bn _ _
       have HI:Hid (lJ ((w5.setCell ⟨w2.heap.size,4,none⟩ (.int .i64 a)).alloc (.cells #[.int .i64 0,.int .i64 1,.int .i64 8,.int .i64 8,.int .i64 9,.int .i64 31,.int .i64 16] 3)) (.slice (some ⟨w5.heap.size,0,none⟩) 7 7) g 7 0 31):=by simpa [Hid] using hI
       have HZ:=aD (HX.out.below PP.out bA)
       clear hI jL bA
       go_wp2_with fail
       refine (ng w0 _ g 7 cv _ L 0 31 HZ.out.cur HI.out).mono ?_
       rintro e w6 ⟨c,rfl,cp,cq,C,G⟩
       have HY:=aD (HZ.out.draw PP.out C G)
       clear HI HZ C G
       clear f0 f1 f2 f3 f4 f5 f6 f7 fz bK
       clear HX
       have HX:=HY
       clear HY
       obtain ⟨y1,y2,y7,f0,f1,f2,f3,f4,f5,f6,f7,fz,bK⟩:=HX.out.cells
       dsimp only at f0 f3 f4 f5 f6
       have HY:Hid (bS w0 w (w6.setCell ⟨w2.heap.size,5,none⟩ (.int .i64 c)) g w2.heap.size w.heap.size cv L ⟨x,bx,tt,uid,a,c,0,[]⟩):=aD (HX.out.qg (n:=c) PP.out (.inr (.inr (.inr (.inl ⟨rfl,rfl⟩)))))
       go_wp2
       go_meet
       case rel=>exact ⟨_,_,fun _=>⟨by omega,by omega,by omega,by omega⟩,fun h=>absurd (by simpa [uY] using hq) h,HY⟩
     case rest =>
      obtain ⟨mode,fl,hm1,hm0,HX⟩:=hcut
      obtain ⟨y1,y2,y7,f0,f1,f2,f3,f4,f5,f6,f7,fz,bK⟩:=HX.out.cells
      dsimp only at f0 f3 f4 f5 f6
      go_upto_block 0 with fail
      go_cut [] (fun wx=>∃ Dl Gl:Int,(x=2→Dl=0∧Gl=fl)∧(x=6→0≤Dl∧Dl≤1∧Gl=0)∧(¬ (x=2∨x=6)→Dl=mode∧Gl=fl)∧Hid (bS w0 w wx g w2.heap.size w.heap.size cv L ⟨x,bx,tt,uid,Dl,Gl,0,[]⟩))
      case first =>
       by_cases h2:x=2
       ·have hb:(x == 2)=true:=by simp [h2]
        have HY:Hid (bS w0 w (wc.setCell ⟨w2.heap.size,4,none⟩ (.int .i64 0)) g w2.heap.size w.heap.size cv L ⟨x,bx,tt,uid,0,fl,0,[]⟩):=aD (HX.out.qg (n:=0) PP.out (.inr (.inr (.inl ⟨rfl,rfl⟩))))
        go_wp2
        go_meet
        case rel=>exact ⟨0,fl,fun _=>⟨rfl,rfl⟩,fun h=>absurd h (by omega),fun h=>absurd (Or.inl h2) h,HY⟩
       by_cases h6:x=6
       ·have hb:(x == 2)=false:=by simp [h2]
        have hb6:(x == 6)=true:=by simp [h6]
        have H6:=aD h6
        clear h6
        go_wp2_with fail
        refine (kQ w0 _ g cv L 2 HX.out.cur (by omega) (by omega)).mono ?_
        rintro e w5 ⟨a,rfl,ap,aq,C,G⟩
        have HY:=aD (HX.out.draw PP.out C G)
        clear C G
        clear f0 f1 f2 f3 f4 f5 f6 f7 fz bK
        clear HX
        have HX:=HY
        clear HY
        obtain ⟨y1,y2,y7,f0,f1,f2,f3,f4,f5,f6,f7,fz,bK⟩:=HX.out.cells
        dsimp only at f0 f3 f4 f5 f6
        have HY:Hid (bS w0 w (w5.setCell ⟨w2.heap.size,4,none⟩ (.int .i64 a)) g w2.heap.size w.heap.size cv L ⟨x,bx,tt,uid,a,fl,0,[]⟩):=aD (HX.out.qg (n:=a) PP.out (.inr (.inr (.inl ⟨rfl,rfl⟩))))
        clear HX
        have HX:=HY
        clear HY
        have HY:Hid (bS w0 w ((w5.setCell ⟨w2.heap.size,4,none⟩ (.int .i64 a)).setCell ⟨w2.heap.size,5,none⟩ (.int .i64 0)) g w2.heap.size w.heap.size cv L ⟨x,bx,tt,uid,a,0,0,[]⟩):=aD (HX.out.qg (n:=0) PP.out (.inr (.inr (.inr (.inl ⟨rfl,rfl⟩)))))
        go_wp2
        go_meet
        case rel=>exact ⟨a,0,fun h=>absurd h h2,fun _=>⟨by omega,by omega,rfl⟩,fun h=>absurd (Or.inr H6.out) h,HY⟩
       have hb:(x == 2)=false:=by simp [h2]
       have hb6:(x == 6)=false:=by simp [h6]
       go_wp2
       go_meet
       case rel=>exact ⟨mode,fl,fun h=>absurd h h2,fun h=>absurd h h6,fun _=>⟨rfl,rfl⟩,HX⟩
      case rest =>
       obtain ⟨wQ,wR,hf2,TD,hf0,HX⟩:=hcut
       go_upto_if 61 with fail
       go_cut [7] (fun _ wx=>∃ si:Int,(x=3∨x=8→0≤si∧si≤7)∧(¬ (x=3∨x=8)→si=0)∧Hid (bS w0 w wx g w2.heap.size w.heap.size cv L ⟨x,bx,tt,uid,wQ,wR,si,[]⟩))
       case first =>
        cases hq:uZ x
        ·go_wp2
         go_meet
         case rel=>exact ⟨0,fun h=>absurd hq (by simp [uZ];omega),fun _=>rfl,HX⟩
        ·obtain ⟨y1,y2,y7,f0,f1,f2,f3,f4,f5,f6,f7,fz,bK⟩:=HX.out.cells
         dsimp only at f0 f3 f4 f5 f6
         go_wp2_with fail
         refine (kQ w0 _ g cv L 8 HX.out.cur (by omega) (by omega)).mono ?_
         rintro e w5 ⟨a,rfl,ap,aq,C,G⟩
         have HY:=aD (HX.out.draw PP.out C G)
         clear C G
         clear f0 f1 f2 f3 f4 f5 f6 f7 fz bK
         clear HX
         have HX:=HY
         clear HY
         obtain ⟨y1,y2,y7,f0,f1,f2,f3,f4,f5,f6,f7,fz,bK⟩:=HX.out.cells
         dsimp only at f0 f3 f4 f5 f6
         go_wp2_with fail
         refine (kQ w0 _ g cv L 2 HX.out.cur (by omega) (by omega)).mono ?_
         rintro e w6 ⟨c,rfl,cp,cq,C,G⟩
         have HY:=aD (HX.out.draw PP.out C G)
         clear C G
         clear f0 f1 f2 f3 f4 f5 f6 f7 fz bK
         clear HX
         have HX:=HY
         clear HY
         obtain ⟨y1,y2,y7,f0,f1,f2,f3,f4,f5,f6,f7,fz,bK⟩:=HX.out.cells
         dsimp only at f0 f3 f4 f5 f6
         have hmul:0≤a * c∧a * c≤7:=by
          obtain rfl | rfl:c=0∨c=1:=by omega
          ·omega
          ·omega
         have HY:Hid (bS w0 w (w6.setCell ⟨w2.heap.size,6,none⟩ (.int .i64 (a * c))) g w2.heap.size w.heap.size cv L ⟨x,bx,tt,uid,wQ,wR,(a * c),[]⟩):=aD (HX.out.qg (n:=(a * c)) PP.out (.inr (.inr (.inr (.inr ⟨rfl,rfl⟩)))))
         go_wp2
         go_meet
         case rel=>exact ⟨_,fun _=>hmul,fun h=>absurd (by simpa [uZ] using hq) h,HY⟩
       case rest =>
        obtain ⟨si,hs1,hs0,HX⟩:=hcut
        go_upto_if 68 with fail
        go_cut [8] (fun _ wx=>∃ tx:List Int,(x=2→dU tx=true)∧(x≠2→tx=[])∧Hid (bS w0 w wx g w2.heap.size w.heap.size cv L ⟨x,bx,tt,uid,wQ,wR,si,tx⟩))
        case first =>
         cases hq:Go.Proofs.YtmglhdkeidhafaaGreat.u6 x
         ·go_wp2
          go_meet
          case rel=>exact ⟨[],fun h=>absurd hq (by simp [Go.Proofs.YtmglhdkeidhafaaGreat.u6,h]),fun _=>rfl,HX⟩
         ·obtain ⟨y1,y2,y7,f0,f1,f2,f3,f4,f5,f6,f7,fz,bK⟩:=HX.out.cells
          dsimp only at f0 f3 f4 f5 f6
          go_wp2_with fail
          refine (acZ w0 _ g cv L HX.out.cur).mono ?_
          rintro e w5 ⟨u,gq,m,rfl,O,hge,mb,C,G⟩
          obtain ⟨cp,rfl⟩:=O.form
          have HY:Hid (bS w0 w (w5.setCell ⟨w2.heap.size,7,none⟩ (.slice (some ⟨gq,0,none⟩) m.length cp)) g w2.heap.size w.heap.size cv L ⟨x,bx,tt,uid,wQ,wR,si,m⟩):=aD (HX.out.wP PP.out C G O hge (.inr (.inr ⟨rfl,rfl⟩)))
          have HZ:=aD (HX.out.draw PP.out C G)
          clear O hge C G HX
          have HX:=HZ
          clear HZ
          clear f0 f1 f2 f3 f4 f5 f6 f7 fz bK
          obtain ⟨y1,y2,y7,f0,f1,f2,f3,f4,f5,f6,f7,fz,bK⟩:=HX.out.cells
          dsimp only at f0 f3 f4 f5 f6
          go_wp2
          go_meet
          case rel=>exact ⟨m,fun _=>mb,fun h=>absurd (by simpa [Go.Proofs.YtmglhdkeidhafaaGreat.u6] using hq) h,HY⟩
        case rest =>
         obtain ⟨tx,hx2,hxn,HX⟩:=hcut
         obtain ⟨q0,n0,c0,q1,n1,c1,q2,n2,c2,hk,hF⟩:=HX.out.fin PP.out
         dsimp only at hk
         obtain ⟨d0,d1,d2,d3,d4,d5,d6,d7,-⟩:=bQ hk
         obtain ⟨dz,dl⟩:=aZ hk
         obtain ⟨r0,r1,r2,r3,r4,r5,r6,r7,-⟩:=bQ HX.out.res
         obtain ⟨rz,rl⟩:=aZ HX.out.res
         go_wp2
         obtain ⟨hK,F0,F1,F2,FC,FG,FW⟩:=hF.out _ _ _ rfl rfl rfl
         obtain ⟨f0,f1,f2,f3,f4,f5,f6,f7,-⟩:=bQ hK
         have hr:(0≤uid∧uid≤5)∧(0≤wQ∧wQ≤2)∧(0≤wR∧wR≤31)∧(0≤si∧si≤7):=by
          obtain rfl | rfl | rfl | rfl | rfl | rfl | rfl | rfl | rfl | rfl:x=0∨x=1∨x=2∨x=3∨x=4∨x=5∨x=6∨x=7∨x=8∨x=9:=by omega
          all_goals (simp at hu1 hu0 hm1 hm0 hf2 TD hf0 hs1 hs0;omega)
         refine bodyPost_ret (v:=.agg #[.int .i64 x,.slice q0 n0 c0,.slice q1 n1 c1,.int .i64 uid,.int .i64 wQ,.int .i64 wR,.int .i64 si,.slice q2 n2 c2]) (by simp [results,Tryz.results33,go_sem,f0,f1,f2,f3,f4,f5,f6,f7]) rfl ?_
         refine ⟨_,rfl,⟨x,bx,tt,uid,wQ,wR,si,tx⟩,⟨_,_,_,rfl,F0,F1,F2,by unfold ay;dsimp only;omega,by unfold ay;dsimp only;omega,by unfold ay;dsimp only;omega,by unfold ay;dsimp only;omega,by unfold ay;dsimp only;omega⟩,?_,FC,FG,_,_,_,_,_,_,_,rfl,FW⟩
         obtain rfl | rfl | rfl | rfl | rfl | rfl | rfl | rfl | rfl | rfl:x=0∨x=1∨x=2∨x=3∨x=4∨x=5∨x=6∨x=7∨x=8∨x=9:=by omega
         all_goals (simp at hu1 hu0 hm1 hm0 hf2 TD hf0 hs1 hs0 hb9 hbn ht6 htn hx2 hxn;simp [dK,aM, *];try omega)
end Go.Proofs.YtmglhdkeidhafaaGreat
