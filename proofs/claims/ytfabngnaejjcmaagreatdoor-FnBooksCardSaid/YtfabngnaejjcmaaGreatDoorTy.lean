/- The proof's texts, part 34. -/
import Derived.Test.YtfabngnaejjcmaaGreatDoorTq
import Derived.Test.YtfabngnaejjcmaaGreatDoorTx
namespace Go.Proofs.YtfabngnaejjcmaaGreatDoor
open Go.RowKit
set_option linter.unusedVariables false
set_option linter.unusedSimpArgs false
set_option maxHeartbeats 4000000
set_option maxRecDepth 100000
/- What U5 of package spec does where the flags change; all its ways. -/
theorem afI:(Tryz.f69.body.bind (eO 13)).all (λo=>jH o 12 [0,1,2,3,4,5,6,7,8,9,10,11] [11] [9,12] 0)=true:=by kernel_rfl
theorem Turns.wide {w w':World} {S S':Nat->Prop} {g o:Nat} (h:Turns w w' S g o) (hS:∀k,S k->S' k):Turns w w' S' g o:=⟨h.1,λk h1 h2 h3=>h.2.1 k h1 h2 (λh4=>h3 (hS k h4)),h.2.2⟩
theorem afJ (g o:Nat) (b:aB) (S:Nat->Prop) (k uid mode fl si:Int) (x0 x1 x2:Option Addr) (n0 n1 n2 m0 m1 m2:Nat) (w:World) (hp:aG w S g o b) (hsx:bG b<=2000000) (i:Nat) (m:aL) (hm:b.ah[i]?=some m) (hfi:bD (λm:aL=>decide (m.uid=uid)) b.ah=(i:Int)) (hs:¬(0 < si/\si < m.seq)) (hfl:jI m.flags mode fl≠m.flags) (hfull:¬1000000<=b.seq) (afK:av (jI m.flags mode fl)) :
  Calls Tryz.prog 69 #[.pointer (some ⟨g,o,none⟩),.agg #[.int .i64 k,.slice x0 n0 m0,.slice x1 n1 m1,.int .i64 uid,.int .i64 mode,.int .i64 fl,.int .i64 si,.slice x2 n2 m2]] w λe w'=>∃u,e=.returned u/\jr w' u (bJ 0 (b.seq+1))/\Turns w w' S g o/\aG w' S g o ⟨b.name,b.valid,b.next,b.seq+1,b.ah.set i ⟨m.uid,jI m.flags mode fl,b.seq+1,m.text⟩,b.au,b.lost⟩:=by
 obtain⟨S0,iU⟩:∃S0,S0=λk=>S k/\k < w.heap.size:=⟨_,rfl⟩;have eu:Hid (∀k,S0 k->S k):=by subst iU;exact λk h=>h.1
 have hS0:¬S0 (w.heap.size+1):=by subst iU;exact λh=>by have:=h.2;omega
 have HP:Hid (∀w',Below w.heap.size w w'->aG w' S0 g o b):=by subst iU;exact λw' h=>hp.cut.below h
 clear iU;have HM:Hid (b.ah[i]?=some m):=hm;have HFL:Hid (av (jI m.flags mode fl)):=afK;have bX:g < w.heap.size:=kK hp.ty;obtain⟨u0,u1,u2,h0,h1,h2,hint,c0,c1,c2,c3,c4,c5,c6⟩:=hp.cells;have HV:Hid (∀w',Below w.heap.size w w'->bT w' (.agg #[u0,.int .i64 b.valid,.int .i64 b.next,.int .i64 b.seq,u1,u2,.int .i64 b.lost]) b):=λw' h=>⟨u0,u1,u2,rfl,h0.bs.below h,h1.v.below kP h,h2.1.below kN h,hint⟩;obtain⟨a0,q0,z0,rfl⟩:=h0.bs.aP;obtain⟨a1,z1,rfl,-⟩:=h1.v.form;obtain⟨mb,off,zc,mu,hv',hlm,f0,f1,f2,f3,-,vD,xw,tJ⟩:=h1.v.cell i m hm;simp only[Value.slice.injEq,true_and] at hv'
 obtain⟨rfl,rfl⟩:=hv';have hil:i < b.ah.length:=(gs1 hm).1;have hml:b.ah.length<=2000000:=by have:=mG b.ah;unfold bG at hsx;omega
 obtain⟨a2,z2,rfl,-⟩:=h2.1.form;obtain⟨HB,dL,aR,kL⟩:=vC w (.cells #[.int .i64 k,.slice x0 n0 m0,.slice x1 n1 m1,.int .i64 uid,.int .i64 mode,.int .i64 fl,.int .i64 si,.slice x2 n2 m2] 35) (.cells #[.int .i64 0,.int .i64 0,.slice none 0 0,.int .i64 0,.int .i64 0,.int .i64 0,.slice none 0 0,.slice none 0 0,.int .i64 0,.slice none 0 0] 73)
 have HC:Hid (∀W w',Below w.heap.size w W->W.heap[w.heap.size]?=some (.cells #[.int .i64 k,.slice x0 n0 m0,.slice x1 n1 m1,.int .i64 uid,.int .i64 mode,.int .i64 fl,.int .i64 si,.slice x2 n2 m2] 35 (0,0))->Below W.heap.size W w'->w'.cell? ⟨g,o,none⟩=some (.slice a0 q0 z0)/\w'.cell? ⟨g,o+1,none⟩=some (.int .i64 b.valid)/\w'.cell? ⟨g,o+2,none⟩=some (.int .i64 b.next)/\w'.cell? ⟨g,o+3,none⟩=some (.int .i64 b.seq)/\w'.cell? ⟨g,o+4,none⟩=some (.slice (some ⟨mb,off,none⟩) b.ah.length z1)/\w'.cell? ⟨g,o+5,none⟩=some (.slice a2 b.au.length z2)/\w'.cell? ⟨g,o+6,none⟩=some (.int .i64 b.lost)/\w'.cell? ⟨w.heap.size,3,none⟩=some (.int .i64 uid)/\w'.cell? ⟨w.heap.size,4,none⟩=some (.int .i64 mode)/\w'.cell? ⟨w.heap.size,5,none⟩=some (.int .i64 fl)/\w'.cell? ⟨w.heap.size,6,none⟩=some (.int .i64 si)/\w'.cell? ⟨mb,off+i * 4+1,none⟩=some (.int .i64 m.flags)/\w'.cell? ⟨mb,off+i * 4+2,none⟩=some (.int .i64 m.seq)):=by
  intro W w' hb hc hw;have h:=λj=>hb.cell (p:=⟨g,j,none⟩) bX;have h':=λj=>hw.cell (p:=⟨g,j,none⟩) (Nat.lt_of_lt_of_le bX hb.size);have hm0:=λj=>hb.cell (p:=⟨mb,j,none⟩) hlm;have hm':=λj=>hw.cell (p:=⟨mb,j,none⟩) (Nat.lt_of_lt_of_le hlm hb.size);have hk:=aA hw hc;have hq:=λj=>cell_of_row w' w.heap.size j _ _ (0,0) hk
  exact⟨(h' _).trans ((h _).trans c0),(h' _).trans ((h _).trans c1),(h' _).trans ((h _).trans c2),(h' _).trans ((h _).trans c3),(h' _).trans ((h _).trans c4),(h' _).trans ((h _).trans c5),(h' _).trans ((h _).trans c6),hq 3,hq 4,hq 5,hq 6,(hm' _).trans ((hm0 _).trans f1),(hm' _).trans ((hm0 _).trans f2)⟩
 have xD:=hint.2.2.1.1;clear h0 h1 h2 hp c0 c1 c2 c3 c4 c5 c6 hint f0 f1 f2 f3
 go_enter Tryz.func69,Tryz.ntmps69;go_wp2;generalize ((w.alloc (.cells #[.int .i64 k,.slice x0 n0 m0,.slice x1 n1 m1,.int .i64 uid,.int .i64 mode,.int .i64 fl,.int .i64 si,.slice x2 n2 m2] 35)).alloc (.cells #[.int .i64 0,.int .i64 0,.slice none 0 0,.int .i64 0,.int .i64 0,.int .i64 0,.slice none 0 0,.slice none 0 0,.int .i64 0,.slice none 0 0] 73))=W at HB dL aR kL ⊢
 have HS:Hid (∀w',Below W.heap.size W w'->w'.cell? ⟨g,o,none⟩=some (.slice a0 q0 z0)/\w'.cell? ⟨g,o+1,none⟩=some (.int .i64 b.valid)/\w'.cell? ⟨g,o+2,none⟩=some (.int .i64 b.next)/\w'.cell? ⟨g,o+3,none⟩=some (.int .i64 b.seq)/\w'.cell? ⟨g,o+4,none⟩=some (.slice (some ⟨mb,off,none⟩) b.ah.length z1)/\w'.cell? ⟨g,o+5,none⟩=some (.slice a2 b.au.length z2)/\w'.cell? ⟨g,o+6,none⟩=some (.int .i64 b.lost)/\w'.cell? ⟨w.heap.size,3,none⟩=some (.int .i64 uid)/\w'.cell? ⟨w.heap.size,4,none⟩=some (.int .i64 mode)/\w'.cell? ⟨w.heap.size,5,none⟩=some (.int .i64 fl)/\w'.cell? ⟨w.heap.size,6,none⟩=some (.int .i64 si)/\w'.cell? ⟨mb,off+i * 4+1,none⟩=some (.int .i64 m.flags)/\w'.cell? ⟨mb,off+i * 4+2,none⟩=some (.int .i64 m.seq)):=λw' h=>HC.out W w' HB.out dL.out h
 have DR:Below W.heap.size W W.drew:=(bd _ _);have hl1:w.heap.size < W.drew.heap.size:=by show _ < W.heap.size;omega
 have hl2:g < W.drew.heap.size:=by show _ < W.heap.size;omega
 have dV:Hid _:=HV.out W.drew (Below.step HB.out DR)
 go_region_held3 (λw'=>w'.cell? ⟨g,o,none⟩=some (.slice a0 q0 z0)/\w'.cell? ⟨g,o+1,none⟩=some (.int .i64 b.valid)/\w'.cell? ⟨g,o+2,none⟩=some (.int .i64 b.next)/\w'.cell? ⟨g,o+3,none⟩=some (.int .i64 b.seq)/\w'.cell? ⟨g,o+4,none⟩=some (.slice (some ⟨mb,off,none⟩) b.ah.length z1)/\w'.cell? ⟨g,o+5,none⟩=some (.slice a2 b.au.length z2)/\w'.cell? ⟨g,o+6,none⟩=some (.int .i64 b.lost)/\w'.cell? ⟨w.heap.size,3,none⟩=some (.int .i64 uid)/\w'.cell? ⟨w.heap.size,4,none⟩=some (.int .i64 mode)/\w'.cell? ⟨w.heap.size,5,none⟩=some (.int .i64 fl)/\w'.cell? ⟨w.heap.size,6,none⟩=some (.int .i64 si)/\w'.cell? ⟨mb,off+i * 4+1,none⟩=some (.int .i64 m.flags)/\w'.cell? ⟨mb,off+i * 4+2,none⟩=some (.int .i64 m.seq))
  (first | exact HS.out _ DR | exact HS.out _ (Below.step DR B1) | go_keep)
  ((go_at_call 73;refine(uh _ b uid _ dV.out).mono ?_;rintro e w1 ⟨rfl,B1⟩))
 have HB1:Hid (Below W.heap.size W w1):=Below.step DR B1;have bN:Hid _:=aA HB1.out aR.out;have hw1:W.heap.size<=w1.heap.size:=HB1.out.size;clear B1 dV;obtain⟨e0,e1,e2,e3,e4,e5,e6,e7,e8,e9,e10,e11,e12⟩:=HS.out _ HB1.out;have tK:g < w1.heap.size:=by omega
 have U6:mb < w1.heap.size:=by omega
 have xA:w.heap.size < w1.heap.size:=by omega
 have M7:(i:Int) < b.ah.length:=by omega
 have hs3:(0 < si/\¬(si < m.seq))\/(si<=0/\decide (0 < si)=false):=by
  by_cases hs0:0 < si
  ·exact .inl ⟨hs0,λh=>hs ⟨hs0,h⟩⟩
  ·exact .inr ⟨by omega,decide_eq_false hs0⟩
 rcases hs3 with⟨hs0,hs1⟩ | ⟨hs1,hs2⟩
 all_goals
  go_wp2
  go_quiet (fail)
  go_wp2;have HB2:Hid (Below W.heap.size W (w1.drewN nq)):=below_drewN nq HB1.out;have hw2:(w1.drewN nq).heap.size=w1.heap.size:=rfl;clear e0 e1 e2 e3 e4 e5 e6 e7 e8 e9 e10 e11 e12;generalize w1.drewN nq=w2 at HB2 hw2 ⊢;have pU:Below W.heap.size W w2.drew:=Below.step HB2.out (bd _ _);have hg2:g < w2.drew.heap.size:=by show _ < w2.heap.size;omega
  have hm2:mb < w2.drew.heap.size:=by show _ < w2.heap.size;omega
  have hc2:w.heap.size < w2.drew.heap.size:=by show _ < w2.heap.size;omega
  go_region_held3 (λw'=>w'.cell? ⟨g,o,none⟩=some (.slice a0 q0 z0)/\w'.cell? ⟨g,o+1,none⟩=some (.int .i64 b.valid)/\w'.cell? ⟨g,o+2,none⟩=some (.int .i64 b.next)/\w'.cell? ⟨g,o+3,none⟩=some (.int .i64 b.seq)/\w'.cell? ⟨g,o+4,none⟩=some (.slice (some ⟨mb,off,none⟩) b.ah.length z1)/\w'.cell? ⟨g,o+5,none⟩=some (.slice a2 b.au.length z2)/\w'.cell? ⟨g,o+6,none⟩=some (.int .i64 b.lost)/\w'.cell? ⟨w.heap.size,3,none⟩=some (.int .i64 uid)/\w'.cell? ⟨w.heap.size,4,none⟩=some (.int .i64 mode)/\w'.cell? ⟨w.heap.size,5,none⟩=some (.int .i64 fl)/\w'.cell? ⟨w.heap.size,6,none⟩=some (.int .i64 si)/\w'.cell? ⟨mb,off+i * 4+1,none⟩=some (.int .i64 m.flags)/\w'.cell? ⟨mb,off+i * 4+2,none⟩=some (.int .i64 m.seq))
   (first | exact HS.out _ pU | go_keep)
   ((go_at_call 101;refine(QZ m.flags mode fl _).mono ?_;rintro e w3 ⟨rfl,rfl⟩))
  have hw4:w2.drew.heap.size=w1.heap.size:=hw2;clear hg2 hm2 hc2;generalize w2.drew=w4 at pU hw4 ⊢;have hg2:g < w4.heap.size:=by omega
  have hm2:mb < w4.heap.size:=by omega
  have hc2:w.heap.size < w4.heap.size:=by omega
  have gK:Hid _:=aA pU aR.out;obtain⟨e0,e1,e2,e3,e4,e5,e6,e7,e8,e9,e10,e11,e12⟩:=HS.out _ pU;have X4:Below w.heap.size w w4:=Below.step HB.out pU;have O6:Hid (aG w4 S0 g o b):=HP.out w4 X4;have vE:Hid (Turns w w4 S0 g o):=oH X4;have hz:=O6.out.open;clear HS dL HC HV aR pU HB2 X4;have zM:Hid (aG (w4.setCell ⟨g,o+3,none⟩ (.int .i64 (b.seq+1))) S0 g o (eH b)):=O6.out.ET (b.seq+1) ⟨by omega,by omega⟩;have oZ:Hid (Turns w (w4.setCell ⟨g,o+3,none⟩ (.int .i64 (b.seq+1))) S0 g o):=Turns.trans vE.out (mR (S':=S0) O6.out (by omega)) (λk h=>.inl h)
  have rG:Hid _:=eB (k:=g) (i:=o+3) (v:=.int .i64 (b.seq+1)) gK.out (by omega);go_upto_region 12 with fail
  clear e0 e1 e2 e3 e4 e5 e6 e7 e8 e9 e10 e11 e12 hz hg2 hm2 hc2;generalize w4.setCell ⟨g,o+3,none⟩ (.int .i64 (b.seq+1))=w5 at zM oZ rG ⊢;obtain⟨mx,cx,d4,lx,nx,sx,tx,df,dq,zx,pf,ps⟩:=zM.out.jC (show(eH b).ah[i]?=some m from HM.out);have O7:Hid (aG (w5.setCell ⟨mx,i * 4+1,none⟩ (.int .i64 (jI m.flags mode fl))) S0 g o _):=pf (jI m.flags mode fl) HFL.out;have O8:Hid (Turns w (w5.setCell ⟨mx,i * 4+1,none⟩ (.int .i64 (jI m.flags mode fl))) S0 g o):=Turns.trans oZ.out (MZ (S:=S0) tx (.inl sx)) (λk h=>.inl h)
  have O9:Hid _:=eB (k:=mx) (i:=i * 4+1) (v:=.int .i64 (jI m.flags mode fl)) rG.out (λe=>by subst e;exact hS0 sx);have lg5:=zM.out.lt;simp only[eH] at d4;clear pf ps;go_upto_region 13 with fail
  clear d4 lx nx sx tx df dq zx lg5;generalize w5.setCell ⟨mx,i * 4+1,none⟩ (.int .i64 (jI m.flags mode fl))=w6 at O7 O8 O9 ⊢;have FT:Hid (aG w6.drew S0 g o _):=O7.out.below (bd _ _);have vF:Hid (Turns w w6.drew S0 g o):=Turns.trans O8.out (oH (S:=S0) (bd _ _)) (λk h=>.inl h);have FU:Hid _:=aA (bd _ _) O9.out;have hmm:(b.ah.set i ⟨m.uid,jI m.flags mode fl,m.seq,m.text⟩)[i]?=some ⟨m.uid,jI m.flags mode fl,m.seq,m.text⟩:=List.getElem?_set_self hil;obtain⟨my,cy,d4,ly,ny,sy,ty,df,dq,zy,pf,ps⟩:=FT.out.jC hmm;simp only[eH,List.length_set] at d4;obtain⟨-,-,-,-,-,-,-,-,-,-,d3,-⟩:=FT.out.cells
  simp only[eH] at d3;have rH:Hid (aG (w6.drew.setCell ⟨my,i * 4+2,none⟩ (.int .i64 (b.seq+1))) S0 g o _):=ps (b.seq+1) ⟨by omega,by omega⟩;have Ck:Hid (Turns w (w6.drew.setCell ⟨my,i * 4+2,none⟩ (.int .i64 (b.seq+1))) S0 g o):=Turns.trans vF.out (MZ (S:=S0) ty (.inl sy)) (λk h=>.inl h);have jY:Hid _:=eB (k:=my) (i:=i * 4+2) (v:=.int .i64 (b.seq+1)) FU.out (λe=>by subst e;exact hS0 sy);have lg6:=FT.out.lt;clear pf ps df O7 O8 O9
  refine jR 9 (S:=λw'=>(w'.cell? ⟨g,o+4,none⟩=some (.slice (some ⟨my,0,none⟩) b.ah.length cy)/\w'.cell? ⟨g,o+3,none⟩=some (.int .i64 (b.seq+1)))) (jQ (by kernel_rfl) afI) (by kernel_rfl) (⟨d4,d3⟩) (λaj hHeld=>?_);refine tks 0 0 94 aj hHeld ?_;refine tks 1 1 95 aj hHeld ?_;refine tks 2 2 96 aj hHeld ?_;refine tks 3 3 97 aj hHeld ?_;refine tks 4 4 98 aj hHeld ?_;refine tks 5 5 99 aj hHeld ?_;refine tks 6 6 100 aj hHeld ?_;refine tks 7 7 101 aj hHeld ?_;refine tks 8 8 102 aj hHeld ?_;refine kC (S':=λw'=>True) 9 12 aj (by decide) (trivial) (λhHeld=>?_);refine tks 9 9 103 aj hHeld ?_
  refine tks 10 10 104 aj hHeld ?_;refine cls 11 11 aj (by decide) rfl rfl (λK hK=>?_);go_simp;refine hK.out _ _ (trivial) (λhHeld=>?_);clear hK K;refine jS aj ?_;clear d3 d4 ly ny sy ty dq zy lg6;go_upto_region 14 with fail
  have eD:(w6.setCell ⟨my,i * 4+2,none⟩ (.int .i64 (b.seq+1))).drew=w6.drew.setCell ⟨my,i * 4+2,none⟩ (.int .i64 (b.seq+1)):=rfl;rw[eD];clear eD;generalize w6.drew.setCell ⟨my,i * 4+2,none⟩ (.int .i64 (b.seq+1))=w7 at rH Ck jY ⊢;obtain⟨-,-,-,-,-,-,-,-,-,-,d3,-⟩:=rH.out.cells;simp only[eH] at d3;have lg7:=rH.out.lt;obtain⟨r0,r1,r2,r3,r4,r5,r6,r7,r8,r9⟩:=bf jY.out;have fz:∀i,w7.frozen? ⟨w.heap.size+1,i,none⟩=false:=λi=>frozen_of_row _ _ i _ _ jY.out;have hlr:=lt_of_heap jY.out;have HF:Hid _:=JC jY.out (by omega) Ck.out _ _ rH.out bX hS0 0 (b.seq+1) ⟨aK,by omega,by omega⟩;go_wp2
  obtain⟨f0,f1,f2,f3,f4,f5,f6,f7,f8,f9⟩:=bf HF.out.1;refine bodyPost_ret (v:=.agg #[.int .i64 0,.int .i64 (b.seq+1),.slice none 0 0,.int .i64 0,.int .i64 0,.int .i64 0,.slice none 0 0,.slice none 0 0,.int .i64 0,.slice none 0 0]) (by simp[results,Tryz.results69,go_sem,f0,f1,f2,f3,f4,f5,f6,f7,f8,f9]) rfl ⟨_,rfl,HF.out.2.2.2,Turns.wide HF.out.2.1 eu.out,?_⟩;have hb:=HF.out.2.2.1;rw[List.set_set] at hb;exact aG.mono hb eu.out
/- What U5 of package spec does: all its ways in one contract. -/
theorem afO (g o:Nat) (b:aB) (S:Nat->Prop) (k uid mode fl si:Int) (x0 x1 x2:Option Addr) (n0 n1 n2 m0 m1 m2:Nat) (w:World) (hp:aG w S g o b) (hsx:bG b<=2000000) (hfl:av fl) :
  Calls Tryz.prog 69 #[.pointer (some ⟨g,o,none⟩),.agg #[.int .i64 k,.slice x0 n0 m0,.slice x1 n1 m1,.int .i64 uid,.int .i64 mode,.int .i64 fl,.int .i64 si,.slice x2 n2 m2]] w λe w'=>∃u,e=.returned u/\jr w' u (tC b uid mode fl si).2/\Turns w w' S g o/\aG w' S g o (tC b uid mode fl si).1:=by
 unfold tC;cases hf:b.ah.findIdx? (λm:aL=>decide (m.uid=uid)) with
 | none=>exact adh g o b S k uid mode fl si x0 x1 x2 n0 n1 n2 m0 m1 m2 w hp hsx (by unfold bD;rw[hf])
 | some i =>
  have hfi:bD (λm:aL=>decide (m.uid=uid)) b.ah=(i:Int):=by unfold bD;rw[hf]
  obtain⟨hi,-,-⟩:=List.findIdx?_eq_some_iff_getElem.mp hf;have hm:b.ah[i]?=some b.ah[i]:=bK hi;generalize b.ah[i]=m at hm;simp only[hm]
  by_cases hs:0 < si/\si < m.seq
  ·rw[if_pos hs]
   exact adi g o b S k uid mode fl si x0 x1 x2 n0 n1 n2 m0 m1 m2 w hp hsx i m hm hfi hs.1 hs.2
  ·rw[if_neg hs]
   by_cases hq:jI m.flags mode fl=m.flags
   ·rw[if_pos hq]
    exact U7 g o b S k uid mode fl si x0 x1 x2 n0 n1 n2 m0 m1 m2 w hp hsx i m hm hfi hs 0 m.seq (.inl ⟨hq,rfl,rfl⟩)
   ·rw[if_neg hq]
    by_cases hz:1000000<=b.seq
    ·rw[if_pos hz]
     exact U7 g o b S k uid mode fl si x0 x1 x2 n0 n1 n2 m0 m1 m2 w hp hsx i m hm hfi hs 3 0 (.inr ⟨hq,hz,rfl,rfl⟩)
    ·rw[if_neg hz]
     exact afJ g o b S k uid mode fl si x0 x1 x2 n0 n1 n2 m0 m1 m2 w hp hsx i m hm hfi hs hq hz (Z5 hfl)
end Go.Proofs.YtfabngnaejjcmaaGreatDoor
