/- The proof's texts, part 26. -/
import Derived.Test.YtmglhdkeidhafaaGreatTi
import Derived.Test.YtmglhdkeidhafaaGreatTg
namespace Go.Proofs.YtmglhdkeidhafaaGreat
open Go.RowKit
set_option linter.unusedVariables false
set_option linter.unusedSimpArgs false
set_option maxHeartbeats 4000000
set_option maxRecDepth 100000
/- What Pw of package spec does where the flags change; all its ways. -/
theorem aaf:(Tryz.f90.body.bind (bR 13)).all (fun o=>dW o 12 [0,1,2,3,4,5,6,7,8,9,10,11] [11] [9,12] 0)=true:=by kernel_rfl
theorem Turns.wide {w w':World} {S S':Nat→Prop} {g o:Nat} (h:Turns w w' S g o) (hS:∀ k,S k→S' k):Turns w w' S' g o:=⟨h.1,fun k h1 h2 h3=>h.2.1 k h1 h2 (fun h4=>h3 (hS k h4)),h.2.2⟩
theorem aag (g o:Nat) (b:aA) (S:Nat→Prop) (k uid mode fl si:Int) (x0 x1 x2:Option Addr) (n0 n1 n2 m0 m1 m2:Nat) (w:World) (hp:aK w S g o b) (hsx:bT b≤2000000) (i:Nat) (m:aC) (hm:b.ah[i]?=some m) (hfi:bC (fun m:aC=>decide (m.uid=uid)) b.ah=(i:Int)) (hs:¬ (0 < si∧si < m.seq)) (hfl:fC m.flags mode fl≠m.flags) (hfull:¬ 1000000≤b.seq) (aah:ay (fC m.flags mode fl)) :
  Calls Tryz.prog 90 #[.pointer (some ⟨g,o,none⟩),.agg #[.int .i64 k,.slice x0 n0 m0,.slice x1 n1 m1,.int .i64 uid,.int .i64 mode,.int .i64 fl,.int .i64 si,.slice x2 n2 m2]] w fun e w'=>∃ u,e=.returned u∧je w' u (aN 0 (b.seq+1))∧Turns w w' S g o∧aK w' S g o ⟨b.name,b.valid,b.next,b.seq+1,b.ah.set i ⟨m.uid,fC m.flags mode fl,b.seq+1,m.text⟩,b.au,b.lost⟩:=by
 obtain ⟨S0,iM⟩:∃ S0,S0=fun k=>S k∧k < w.heap.size:=⟨_,rfl⟩
 have eB:Hid (∀ k,S0 k→S k):=by subst iM;exact fun k h=>h.1
 have hS0:¬ S0 (w.heap.size+1):=by subst iM;exact fun h=>by have:=h.2;omega
 have HP:Hid (∀ w',Below w.heap.size w w'→aK w' S0 g o b):=by subst iM;exact fun w' h=>hp.cut.below h
 clear iM
 have HM:Hid (b.ah[i]?=some m):=hm
 have yh:Hid (ay (fC m.flags mode fl)):=aah
 have bE:g < w.heap.size:=jS hp.ty
 obtain ⟨u0,u1,u2,h0,h1,h2,hint,c0,c1,c2,c3,c4,c5,c6⟩:=hp.cells
 have HV:Hid (∀ w',Below w.heap.size w w'→bI w' (.agg #[u0,.int .i64 b.valid,.int .i64 b.next,.int .i64 b.seq,u1,u2,.int .i64 b.lost]) b):=fun w' h=>⟨u0,u1,u2,rfl,h0.bs.below h,h1.v.below iG h,h2.1.below gU h,hint⟩
 obtain ⟨a0,q0,z0,rfl⟩:=h0.bs.aG
 obtain ⟨a1,z1,rfl,-⟩:=h1.v.form
 obtain ⟨mb,off,zc,mu,hv',hlm,f0,f1,f2,f3,-,uD,vK,sD⟩:=h1.v.cell i m hm
 simp only [Value.slice.injEq,true_and] at hv'
 obtain ⟨rfl,rfl⟩:=hv'
 have hil:i < b.ah.length:=(gs1 hm).1
 have hml:b.ah.length≤2000000:=by have:=lF b.ah;unfold bT at hsx;omega
 obtain ⟨a2,z2,rfl,-⟩:=h2.1.form
 obtain ⟨HB,bO,aQ,jf⟩:=uz w (.cells #[.int .i64 k,.slice x0 n0 m0,.slice x1 n1 m1,.int .i64 uid,.int .i64 mode,.int .i64 fl,.int .i64 si,.slice x2 n2 m2] 28) (.cells #[.int .i64 0,.int .i64 0,.slice none 0 0,.int .i64 0,.int .i64 0,.int .i64 0,.slice none 0 0,.slice none 0 0,.int .i64 0,.slice none 0 0] 37)
 have HC:Hid (∀ W w',Below w.heap.size w W→W.heap[w.heap.size]?=some (.cells #[.int .i64 k,.slice x0 n0 m0,.slice x1 n1 m1,.int .i64 uid,.int .i64 mode,.int .i64 fl,.int .i64 si,.slice x2 n2 m2] 28 (0,0))→Below W.heap.size W w'→w'.cell? ⟨g,o,none⟩=some (.slice a0 q0 z0)∧w'.cell? ⟨g,o+1,none⟩=some (.int .i64 b.valid)∧w'.cell? ⟨g,o+2,none⟩=some (.int .i64 b.next)∧w'.cell? ⟨g,o+3,none⟩=some (.int .i64 b.seq)∧w'.cell? ⟨g,o+4,none⟩=some (.slice (some ⟨mb,off,none⟩) b.ah.length z1)∧w'.cell? ⟨g,o+5,none⟩=some (.slice a2 b.au.length z2)∧w'.cell? ⟨g,o+6,none⟩=some (.int .i64 b.lost)∧w'.cell? ⟨w.heap.size,3,none⟩=some (.int .i64 uid)∧w'.cell? ⟨w.heap.size,4,none⟩=some (.int .i64 mode)∧w'.cell? ⟨w.heap.size,5,none⟩=some (.int .i64 fl)∧w'.cell? ⟨w.heap.size,6,none⟩=some (.int .i64 si)∧w'.cell? ⟨mb,off+i * 4+1,none⟩=some (.int .i64 m.flags)∧w'.cell? ⟨mb,off+i * 4+2,none⟩=some (.int .i64 m.seq)):=by
  intro W w' hb hc hw
  have h:=fun j=>hb.cell (p:=⟨g,j,none⟩) bE
  have h':=fun j=>hw.cell (p:=⟨g,j,none⟩) (Nat.lt_of_lt_of_le bE hb.size)
  have hm0:=fun j=>hb.cell (p:=⟨mb,j,none⟩) hlm
  have hm':=fun j=>hw.cell (p:=⟨mb,j,none⟩) (Nat.lt_of_lt_of_le hlm hb.size)
  have hk:=aB hw hc
  have hq:=fun j=>cell_of_row w' w.heap.size j _ _ (0,0) hk
  exact ⟨(h' _).trans ((h _).trans c0),(h' _).trans ((h _).trans c1),(h' _).trans ((h _).trans c2),(h' _).trans ((h _).trans c3),(h' _).trans ((h _).trans c4),(h' _).trans ((h _).trans c5),(h' _).trans ((h _).trans c6),hq 3,hq 4,hq 5,hq 6,(hm' _).trans ((hm0 _).trans f1),(hm' _).trans ((hm0 _).trans f2)⟩
 have qL:=hint.2.2.1.1
 clear h0 h1 h2 hp c0 c1 c2 c3 c4 c5 c6 hint f0 f1 f2 f3
 go_enter Tryz.func90,Tryz.ntmps90
 go_wp2
 generalize ((w.alloc (.cells #[.int .i64 k,.slice x0 n0 m0,.slice x1 n1 m1,.int .i64 uid,.int .i64 mode,.int .i64 fl,.int .i64 si,.slice x2 n2 m2] 28)).alloc (.cells #[.int .i64 0,.int .i64 0,.slice none 0 0,.int .i64 0,.int .i64 0,.int .i64 0,.slice none 0 0,.slice none 0 0,.int .i64 0,.slice none 0 0] 37))=W at HB bO aQ jf ⊢
 have HS:Hid (∀ w',Below W.heap.size W w'→w'.cell? ⟨g,o,none⟩=some (.slice a0 q0 z0)∧w'.cell? ⟨g,o+1,none⟩=some (.int .i64 b.valid)∧w'.cell? ⟨g,o+2,none⟩=some (.int .i64 b.next)∧w'.cell? ⟨g,o+3,none⟩=some (.int .i64 b.seq)∧w'.cell? ⟨g,o+4,none⟩=some (.slice (some ⟨mb,off,none⟩) b.ah.length z1)∧w'.cell? ⟨g,o+5,none⟩=some (.slice a2 b.au.length z2)∧w'.cell? ⟨g,o+6,none⟩=some (.int .i64 b.lost)∧w'.cell? ⟨w.heap.size,3,none⟩=some (.int .i64 uid)∧w'.cell? ⟨w.heap.size,4,none⟩=some (.int .i64 mode)∧w'.cell? ⟨w.heap.size,5,none⟩=some (.int .i64 fl)∧w'.cell? ⟨w.heap.size,6,none⟩=some (.int .i64 si)∧w'.cell? ⟨mb,off+i * 4+1,none⟩=some (.int .i64 m.flags)∧w'.cell? ⟨mb,off+i * 4+2,none⟩=some (.int .i64 m.seq)):=fun w' h=>HC.out W w' HB.out bO.out h
 have DR:Below W.heap.size W W.drew:=(bd _ _)
 have hl1:w.heap.size < W.drew.heap.size:=by show _ < W.heap.size;omega
 have hl2:g < W.drew.heap.size:=by show _ < W.heap.size;omega
 have dY:Hid _:=HV.out W.drew (Below.step HB.out DR)
 go_region_held3 (fun w'=>w'.cell? ⟨g,o,none⟩=some (.slice a0 q0 z0)∧w'.cell? ⟨g,o+1,none⟩=some (.int .i64 b.valid)∧w'.cell? ⟨g,o+2,none⟩=some (.int .i64 b.next)∧w'.cell? ⟨g,o+3,none⟩=some (.int .i64 b.seq)∧w'.cell? ⟨g,o+4,none⟩=some (.slice (some ⟨mb,off,none⟩) b.ah.length z1)∧w'.cell? ⟨g,o+5,none⟩=some (.slice a2 b.au.length z2)∧w'.cell? ⟨g,o+6,none⟩=some (.int .i64 b.lost)∧w'.cell? ⟨w.heap.size,3,none⟩=some (.int .i64 uid)∧w'.cell? ⟨w.heap.size,4,none⟩=some (.int .i64 mode)∧w'.cell? ⟨w.heap.size,5,none⟩=some (.int .i64 fl)∧w'.cell? ⟨w.heap.size,6,none⟩=some (.int .i64 si)∧w'.cell? ⟨mb,off+i * 4+1,none⟩=some (.int .i64 m.flags)∧w'.cell? ⟨mb,off+i * 4+2,none⟩=some (.int .i64 m.seq))
  (first | exact HS.out _ DR | exact HS.out _ (Below.step DR B1) | go_keep)
  ((go_at_call 51;refine (rH _ b uid _ dY.out).mono ?_;rintro e w1 ⟨rfl,B1⟩))
 have HB1:Hid (Below W.heap.size W w1):=Below.step DR B1
 have bX:Hid _:=aB HB1.out aQ.out
 have hw1:W.heap.size≤w1.heap.size:=HB1.out.size
 clear B1 dY
 obtain ⟨e0,e1,e2,e3,e4,e5,e6,e7,e8,e9,e10,e11,e12⟩:=HS.out _ HB1.out
 have sF:g < w1.heap.size:=by omega
 have Px:mb < w1.heap.size:=by omega
 have vL:w.heap.size < w1.heap.size:=by omega
 have IY:(i:Int) < b.ah.length:=by omega
 have hs3:(0 < si∧¬ (si < m.seq))∨(si≤0∧decide (0 < si)=false):=by
  by_cases hs0:0 < si
  ·exact .inl ⟨hs0,fun h=>hs ⟨hs0,h⟩⟩
  ·exact .inr ⟨by omega,decide_eq_false hs0⟩
 rcases hs3 with ⟨hs0,hs1⟩ | ⟨hs1,hs2⟩
 all_goals
  go_wp2
  go_quiet (fail)
  go_wp2
  have HB2:Hid (Below W.heap.size W (w1.drewN nq)):=below_drewN nq HB1.out
  have hw2:(w1.drewN nq).heap.size=w1.heap.size:=rfl
  clear e0 e1 e2 e3 e4 e5 e6 e7 e8 e9 e10 e11 e12
  generalize w1.drewN nq=w2 at HB2 hw2 ⊢
  have oF:Below W.heap.size W w2.drew:=Below.step HB2.out (bd _ _)
  have hg2:g < w2.drew.heap.size:=by show _ < w2.heap.size;omega
  have hm2:mb < w2.drew.heap.size:=by show _ < w2.heap.size;omega
  have hc2:w.heap.size < w2.drew.heap.size:=by show _ < w2.heap.size;omega
  go_region_held3 (fun w'=>w'.cell? ⟨g,o,none⟩=some (.slice a0 q0 z0)∧w'.cell? ⟨g,o+1,none⟩=some (.int .i64 b.valid)∧w'.cell? ⟨g,o+2,none⟩=some (.int .i64 b.next)∧w'.cell? ⟨g,o+3,none⟩=some (.int .i64 b.seq)∧w'.cell? ⟨g,o+4,none⟩=some (.slice (some ⟨mb,off,none⟩) b.ah.length z1)∧w'.cell? ⟨g,o+5,none⟩=some (.slice a2 b.au.length z2)∧w'.cell? ⟨g,o+6,none⟩=some (.int .i64 b.lost)∧w'.cell? ⟨w.heap.size,3,none⟩=some (.int .i64 uid)∧w'.cell? ⟨w.heap.size,4,none⟩=some (.int .i64 mode)∧w'.cell? ⟨w.heap.size,5,none⟩=some (.int .i64 fl)∧w'.cell? ⟨w.heap.size,6,none⟩=some (.int .i64 si)∧w'.cell? ⟨mb,off+i * 4+1,none⟩=some (.int .i64 m.flags)∧w'.cell? ⟨mb,off+i * 4+2,none⟩=some (.int .i64 m.seq))
   (first | exact HS.out _ oF | go_keep)
   ((go_at_call 105;refine (OH m.flags mode fl _).mono ?_;rintro e w3 ⟨rfl,rfl⟩))
  have hw4:w2.drew.heap.size=w1.heap.size:=hw2
  clear hg2 hm2 hc2
  generalize w2.drew=w4 at oF hw4 ⊢
  have hg2:g < w4.heap.size:=by omega
  have hm2:mb < w4.heap.size:=by omega
  have hc2:w.heap.size < w4.heap.size:=by omega
  have cB:Hid _:=aB oF aQ.out
  obtain ⟨e0,e1,e2,e3,e4,e5,e6,e7,e8,e9,e10,e11,e12⟩:=HS.out _ oF
  have X4:Below w.heap.size w w4:=Below.step HB.out oF
  have Kr:Hid (aK w4 S0 g o b):=HP.out w4 X4
  have gu:Hid (Turns w w4 S0 g o):=nG X4
  have hz:=Kr.out.open
  clear HS bO HC HV aQ oF HB2 X4
  have yc:Hid (aK (w4.setCell ⟨g,o+3,none⟩ (.int .i64 (b.seq+1))) S0 g o (aX b)):=Kr.out.su (b.seq+1) ⟨by omega,by omega⟩
  have o9:Hid (Turns w (w4.setCell ⟨g,o+3,none⟩ (.int .i64 (b.seq+1))) S0 g o):=Turns.trans gu.out (lK (S':=S0) Kr.out (by omega)) (fun k h=>.inl h)
  have sN:Hid _:=cO (k:=g) (i:=o+3) (v:=.int .i64 (b.seq+1)) cB.out (by omega)
  go_upto_region 12 with fail
  clear e0 e1 e2 e3 e4 e5 e6 e7 e8 e9 e10 e11 e12 hz hg2 hm2 hc2
  generalize w4.setCell ⟨g,o+3,none⟩ (.int .i64 (b.seq+1))=w5 at yc o9 sN ⊢
  obtain ⟨mx,cx,d4,lx,nx,sx,tx,df,dq,zx,pf,ps⟩:=yc.out.dV (show (aX b).ah[i]?=some m from HM.out)
  have Kt:Hid (aK (w5.setCell ⟨mx,i * 4+1,none⟩ (.int .i64 (fC m.flags mode fl))) S0 g o _):=pf (fC m.flags mode fl) yh.out
  have Ku:Hid (Turns w (w5.setCell ⟨mx,i * 4+1,none⟩ (.int .i64 (fC m.flags mode fl))) S0 g o):=Turns.trans o9.out (IE (S:=S0) tx (.inl sx)) (fun k h=>.inl h)
  have Kv:Hid _:=cO (k:=mx) (i:=i * 4+1) (v:=.int .i64 (fC m.flags mode fl)) sN.out (fun e=>by subst e;exact hS0 sx)
  have lg5:=yc.out.lt
  simp only [aX] at d4
  clear pf ps
  go_upto_region 13 with fail
  clear d4 lx nx sx tx df dq zx lg5
  generalize w5.setCell ⟨mx,i * 4+1,none⟩ (.int .i64 (fC m.flags mode fl))=w6 at Kt Ku Kv ⊢
  have Ct:Hid (aK w6.drew S0 g o _):=Kt.out.below (bd _ _)
  have kU:Hid (Turns w w6.drew S0 g o):=Turns.trans Ku.out (nG (S:=S0) (bd _ _)) (fun k h=>.inl h)
  have yg:Hid _:=aB (bd _ _) Kv.out
  have hmm:(b.ah.set i ⟨m.uid,fC m.flags mode fl,m.seq,m.text⟩)[i]?=some ⟨m.uid,fC m.flags mode fl,m.seq,m.text⟩:=List.getElem?_set_self hil
  obtain ⟨my,cy,d4,ly,ny,sy,ty,df,dq,zy,pf,ps⟩:=Ct.out.dV hmm
  simp only [aX,List.length_set] at d4
  obtain ⟨-,-,-,-,-,-,-,-,-,-,d3,-⟩:=Ct.out.cells
  simp only [aX] at d3
  have qV:Hid (aK (w6.drew.setCell ⟨my,i * 4+2,none⟩ (.int .i64 (b.seq+1))) S0 g o _):=ps (b.seq+1) ⟨by omega,by omega⟩
  have iN:Hid (Turns w (w6.drew.setCell ⟨my,i * 4+2,none⟩ (.int .i64 (b.seq+1))) S0 g o):=Turns.trans kU.out (IE (S:=S0) ty (.inl sy)) (fun k h=>.inl h)
  have gQ:Hid _:=cO (k:=my) (i:=i * 4+2) (v:=.int .i64 (b.seq+1)) yg.out (fun e=>by subst e;exact hS0 sy)
  have lg6:=Ct.out.lt
  clear pf ps df Kt Ku Kv
  refine eO 9 (S:=fun w'=>(w'.cell? ⟨g,o+4,none⟩=some (.slice (some ⟨my,0,none⟩) b.ah.length cy)∧w'.cell? ⟨g,o+3,none⟩=some (.int .i64 (b.seq+1)))) (eH (by kernel_rfl) aaf) (by kernel_rfl) (⟨d4,d3⟩) (fun aj hHeld=>?_)
  refine tks 0 0 94 aj hHeld ?_
  refine tks 1 1 95 aj hHeld ?_
  refine tks 2 2 96 aj hHeld ?_
  refine tks 3 3 97 aj hHeld ?_
  refine tks 4 4 98 aj hHeld ?_
  refine tks 5 5 99 aj hHeld ?_
  refine tks 6 6 100 aj hHeld ?_
  refine tks 7 7 101 aj hHeld ?_
  refine tks 8 8 102 aj hHeld ?_
  refine gH (S':=fun w'=>True) 9 12 aj (by decide) (trivial) (fun hHeld=>?_)
  refine tks 9 9 103 aj hHeld ?_
  refine tks 10 10 104 aj hHeld ?_
  refine cls 11 11 aj (by decide) rfl rfl (fun K hK=>?_)
  go_simp
  refine hK.out _ _ (trivial) (fun hHeld=>?_)
  clear hK K
  refine eP aj ?_
  clear d3 d4 ly ny sy ty dq zy lg6
  go_upto_region 14 with fail
  have eD:(w6.setCell ⟨my,i * 4+2,none⟩ (.int .i64 (b.seq+1))).drew=w6.drew.setCell ⟨my,i * 4+2,none⟩ (.int .i64 (b.seq+1)):=rfl
  rw [eD]
  clear eD
  generalize w6.drew.setCell ⟨my,i * 4+2,none⟩ (.int .i64 (b.seq+1))=w7 at qV iN gQ ⊢
  obtain ⟨-,-,-,-,-,-,-,-,-,-,d3,-⟩:=qV.out.cells
  simp only [aX] at d3
  have lg7:=qV.out.lt
  obtain ⟨r0,r1,r2,r3,r4,r5,r6,r7,r8,r9⟩:=aO gQ.out
  have fz:∀ i,w7.frozen? ⟨w.heap.size+1,i,none⟩=false:=fun i=>frozen_of_row _ _ i _ _ gQ.out
  have hlr:=lt_of_heap gQ.out
  have HF:Hid _:=ER gQ.out (by omega) iN.out _ _ qV.out bE hS0 0 (b.seq+1) ⟨aI,by omega,by omega⟩
  go_wp2
  obtain ⟨f0,f1,f2,f3,f4,f5,f6,f7,f8,f9⟩:=aO HF.out.1
  refine bodyPost_ret (v:=.agg #[.int .i64 0,.int .i64 (b.seq+1),.slice none 0 0,.int .i64 0,.int .i64 0,.int .i64 0,.slice none 0 0,.slice none 0 0,.int .i64 0,.slice none 0 0]) (by simp [results,Tryz.results90,go_sem,f0,f1,f2,f3,f4,f5,f6,f7,f8,f9]) rfl ⟨_,rfl,HF.out.2.2.2,Turns.wide HF.out.2.1 eB.out,?_⟩
  have hb:=HF.out.2.2.1
  rw [List.set_set] at hb
  exact aK.mono hb eB.out
/- What Pw of package spec does: all its ways in one contract. -/
theorem aak (g o:Nat) (b:aA) (S:Nat→Prop) (k uid mode fl si:Int) (x0 x1 x2:Option Addr) (n0 n1 n2 m0 m1 m2:Nat) (w:World) (hp:aK w S g o b) (hsx:bT b≤2000000) (hfl:ay fl) :
  Calls Tryz.prog 90 #[.pointer (some ⟨g,o,none⟩),.agg #[.int .i64 k,.slice x0 n0 m0,.slice x1 n1 m1,.int .i64 uid,.int .i64 mode,.int .i64 fl,.int .i64 si,.slice x2 n2 m2]] w fun e w'=>∃ u,e=.returned u∧je w' u (iD b uid mode fl si).2∧Turns w w' S g o∧aK w' S g o (iD b uid mode fl si).1:=by
 unfold iD
 cases hf:b.ah.findIdx? (fun m:aC=>decide (m.uid=uid)) with
 | none=>exact XH g o b S k uid mode fl si x0 x1 x2 n0 n1 n2 m0 m1 m2 w hp hsx (by unfold bC;rw [hf])
 | some i =>
  have hfi:bC (fun m:aC=>decide (m.uid=uid)) b.ah=(i:Int):=by unfold bC;rw [hf]
  obtain ⟨hi,-,-⟩:=List.findIdx?_eq_some_iff_getElem.mp hf
  have hm:b.ah[i]?=some b.ah[i]:=aL hi
  generalize b.ah[i]=m at hm
  simp only [hm]
  by_cases hs:0 < si∧si < m.seq
  ·rw [if_pos hs]
   exact XI g o b S k uid mode fl si x0 x1 x2 n0 n1 n2 m0 m1 m2 w hp hsx i m hm hfi hs.1 hs.2
  ·rw [if_neg hs]
   by_cases hq:fC m.flags mode fl=m.flags
   ·rw [if_pos hq]
    exact Py g o b S k uid mode fl si x0 x1 x2 n0 n1 n2 m0 m1 m2 w hp hsx i m hm hfi hs 0 m.seq (.inl ⟨hq,rfl,rfl⟩)
   ·rw [if_neg hq]
    by_cases hz:1000000≤b.seq
    ·rw [if_pos hz]
     exact Py g o b S k uid mode fl si x0 x1 x2 n0 n1 n2 m0 m1 m2 w hp hsx i m hm hfi hs 3 0 (.inr ⟨hq,hz,rfl,rfl⟩)
    ·rw [if_neg hz]
     exact aag g o b S k uid mode fl si x0 x1 x2 n0 n1 n2 m0 m1 m2 w hp hsx i m hm hfi hs hq hz (OJ hfl)
/- A gP beside a variable that holds a reply; the map is written in a region that draws. -/
/-- A reply without a box and names. -/
def aY (c n:Int):Value:=.agg #[.int .i64 c,.int .i64 n,.slice none 0 0,.int .i64 0,.int .i64 0,.int .i64 0,.slice none 0 0,.slice none 0 0,.int .i64 0,.slice none 0 0]
/-- What a command leaves at the gP. -/
def Left (wt w w':World) (S:Nat→Prop) (gd g n:Nat) (u1:Value) (a:aF):Prop :=
 ∃ S' u0 n' E,aT wt w' S' gd g n' a u0 u1 E∧(∀ k,S' k→S k∨w.heap.size≤k)∧iV w w' S gd g∧n'≤n+1
section
variable {wt w w' w1 : World} {S S' : Nat → Prop} {gd g n n' : Nat} {a a' : aF} {u0 u1 : Value} {E : aU} {r : Nat}
theorem aT.ty (h:aT wt w S gd g n a u0 u1 E):Ty w gd 80∧gd≠g:=by
 refine ⟨⟨_,_,h.cells⟩,fun e=>?_⟩
 subst e
 obtain ⟨D,⟨es,c,e1,-⟩,-⟩:=h.map
 rw [h.cells] at e1
 cases e1
theorem aT.off (h:aT wt w S gd g n a u0 u1 E) {o:Array Value} {t:TypeId} {z:Nat × Nat} (hr:w.heap[r]?=some (.cells o t z)) (h1:t≠80) (h2:t≠3):r≠gd∧r≠g∧u1.ownBlock≠some r:=by
 refine ⟨fun e=>?_,fun e=>?_,fun e=>?_⟩
 ·subst e
  rw [h.cells] at hr
  cases hr
  exact h1 rfl
 ·subst e
  obtain ⟨D,⟨es,c,e1,-⟩,-⟩:=h.map
  rw [hr] at e1
  cases e1
 ·rcases xO h.seen with ⟨e',-⟩ | ⟨gs,e',ht⟩
  ·rw [e'] at e;simp [Value.ownBlock] at e
  ·rw [e'] at e
   cases e
   obtain ⟨_,_,ht⟩:=ht
   rw [hr] at ht
   cases ht
   exact h2 rfl
/-- Something is written into a block that is none of the rY. -/
theorem aT.aside (h:aT wt w S gd g n a u0 u1 E) (hs:w'.heap.size=w.heap.size) (hp:w'.os=w.os∧w'.tape=w.tape∧w'.output=w.output) (hk:∀ k,k≠r→w'.heap[k]?=w.heap[k]?) (hr:wt.heap.size≤r) (hS:¬ S r) (hne:r≠gd∧r≠g∧u1.ownBlock≠some r):aT wt w' S gd g n a u0 u1 E :=
 h.kept (by omega) ⟨hp.1.trans h.base.os,hp.2.1.trans h.base.tape,hp.2.2.trans h.base.output,by rw [hs];exact h.base.size,fun k hk'=>(hk k (by omega)).trans (h.base.block k hk')⟩ fun k _ hk'=>hk k fun e=>by
  subst e
  rcases hk' with h1 | h1 | h1 | h1
  ·exact hne.1 h1
  ·exact hne.2.1 h1
  ·exact hS h1
  ·exact hne.2.2 h1
theorem Cu (h:iV w w1 S gd g) (hs:w'.heap.size=w1.heap.size) (hp:w'.os=w1.os∧w'.tape=w1.tape∧w'.output=w1.output) (hk:∀ k,k≠r→w'.heap[k]?=w1.heap[k]?) (hr:w.heap.size≤r):iV w w' S gd g :=
 ⟨by rw [hs];exact h.1,fun k h1 h2 h3 h4=>(hk k (by omega)).trans (h.2.1 k h1 h2 h3 h4),hp.1.trans h.2.2.1,hp.2.1.trans h.2.2.2.1,hp.2.2.trans h.2.2.2.2⟩
/-- A field of a box is written. -/
theorem yj {i j gb cap:Nat} {v:Value} (h:aT wt w1 S' gd g n a u0 u1 E) (hu:u0=.slice (some ⟨gb,0,none⟩) a.boxes.length cap) (hi:i < a.boxes.length) (hS:∀ k,S' k→S k∨w.heap.size≤k) (ht:iV w w1 S gd g):iV w (w1.setCell ⟨gb,j,none⟩ v) S gd g:=by
 obtain ⟨dJ,cap',v0,v5,f,e1,-,-,-,hg,-⟩:=h.read (aL hi)
 rw [hu] at e1
 simp only [Value.slice.injEq,Option.some.injEq,Addr.mk.injEq,and_true,true_and] at e1
 obtain ⟨rfl,-⟩:=e1
 refine ⟨by rw [bf];exact ht.1,fun k h1 h2 h3 h4=>(Below.heap_setCell _ _ _ _ fun e=>?_).trans (ht.2.1 k h1 h2 h3 h4),ht.2.2⟩
 have e:k=gb:=e
 subst e
 exact (hS k hg).elim h4 (by omega)
theorem Fu {w2:World} (ht:iV w w1 S gd g) (hG:w1.grownBy w2 (some g)):iV w w2 S gd g :=
 ⟨Nat.le_trans ht.1 hG.size,fun k h1 h2 h3 h4=>(hG.block k (Nat.lt_of_lt_of_le h1 ht.1) fun e=>h3 (Option.some.inj e)).trans (ht.2.1 k h1 h2 h3 h4),hG.os.trans ht.2.2.1,hG.tape.trans ht.2.2.2.1,hG.output.trans ht.2.2.2.2⟩
/-- A Vl ten cells are written. -/
theorem oJ {d0 d1 d2 d3 d4 d5 d6 d7 d8 d9:Value} (hr:w.heap[r]?=some (.cells #[d0,d1,d2,d3,d4,d5,d6,d7,d8,d9] 37 (0,0))) (c0 c1 c2 c3 c4 c5 c6 c7 c8 c9:Value) :
  (((((((((((w.setCell ⟨r,0,none⟩ c0).setCell ⟨r,1,none⟩ c1).setCell ⟨r,2,none⟩ c2).setCell ⟨r,3,none⟩ c3).setCell ⟨r,4,none⟩ c4).setCell ⟨r,5,none⟩ c5).setCell ⟨r,6,none⟩ c6).setCell ⟨r,7,none⟩ c7).setCell ⟨r,8,none⟩ c8).setCell ⟨r,9,none⟩ c9)).heap[r]?=some (.cells #[c0,c1,c2,c3,c4,c5,c6,c7,c8,c9] 37 (0,0))∧(((((((((((w.setCell ⟨r,0,none⟩ c0).setCell ⟨r,1,none⟩ c1).setCell ⟨r,2,none⟩ c2).setCell ⟨r,3,none⟩ c3).setCell ⟨r,4,none⟩ c4).setCell ⟨r,5,none⟩ c5).setCell ⟨r,6,none⟩ c6).setCell ⟨r,7,none⟩ c7).setCell ⟨r,8,none⟩ c8).setCell ⟨r,9,none⟩ c9)).heap.size=w.heap.size∧((((((((((((w.setCell ⟨r,0,none⟩ c0).setCell ⟨r,1,none⟩ c1).setCell ⟨r,2,none⟩ c2).setCell ⟨r,3,none⟩ c3).setCell ⟨r,4,none⟩ c4).setCell ⟨r,5,none⟩ c5).setCell ⟨r,6,none⟩ c6).setCell ⟨r,7,none⟩ c7).setCell ⟨r,8,none⟩ c8).setCell ⟨r,9,none⟩ c9)).os=w.os∧(((((((((((w.setCell ⟨r,0,none⟩ c0).setCell ⟨r,1,none⟩ c1).setCell ⟨r,2,none⟩ c2).setCell ⟨r,3,none⟩ c3).setCell ⟨r,4,none⟩ c4).setCell ⟨r,5,none⟩ c5).setCell ⟨r,6,none⟩ c6).setCell ⟨r,7,none⟩ c7).setCell ⟨r,8,none⟩ c8).setCell ⟨r,9,none⟩ c9)).tape=w.tape∧(((((((((((w.setCell ⟨r,0,none⟩ c0).setCell ⟨r,1,none⟩ c1).setCell ⟨r,2,none⟩ c2).setCell ⟨r,3,none⟩ c3).setCell ⟨r,4,none⟩ c4).setCell ⟨r,5,none⟩ c5).setCell ⟨r,6,none⟩ c6).setCell ⟨r,7,none⟩ c7).setCell ⟨r,8,none⟩ c8).setCell ⟨r,9,none⟩ c9)).output=w.output)∧∀ k,k≠r→(((((((((((w.setCell ⟨r,0,none⟩ c0).setCell ⟨r,1,none⟩ c1).setCell ⟨r,2,none⟩ c2).setCell ⟨r,3,none⟩ c3).setCell ⟨r,4,none⟩ c4).setCell ⟨r,5,none⟩ c5).setCell ⟨r,6,none⟩ c6).setCell ⟨r,7,none⟩ c7).setCell ⟨r,8,none⟩ c8).setCell ⟨r,9,none⟩ c9)).heap[k]?=w.heap[k]? :=
 ⟨PK hr c0 c1 c2 c3 c4 c5 c6 c7 c8 c9,by simp only [bf],⟨by simp only [Aj],by simp only [Ak],by simp only [Al]⟩,fun k hk=>by
  rw [Below.heap_setCell _ _ _ _ (show k≠r from hk),Below.heap_setCell _ _ _ _ (show k≠r from hk),Below.heap_setCell _ _ _ _ (show k≠r from hk),Below.heap_setCell _ _ _ _ (show k≠r from hk),Below.heap_setCell _ _ _ _ (show k≠r from hk),Below.heap_setCell _ _ _ _ (show k≠r from hk),Below.heap_setCell _ _ _ _ (show k≠r from hk),Below.heap_setCell _ _ _ _ (show k≠r from hk),Below.heap_setCell _ _ _ _ (show k≠r from hk),Below.heap_setCell _ _ _ _ (show k≠r from hk)]⟩
/-- The reply is laid into its variable. -/
theorem aT.rep (h:aT wt w S gd g n a u0 u1 E) {d0 d1 d2 d3 d4 d5 d6 d7 d8 d9:Value} (hr:w.heap[r]?=some (.cells #[d0,d1,d2,d3,d4,d5,d6,d7,d8,d9] 37 (0,0))) (hS:¬ S r) (hN:wt.heap.size≤r) (c0 c1 c2 c3 c4 c5 c6 c7 c8 c9:Value) :
  (((((((((((w.setCell ⟨r,0,none⟩ c0).setCell ⟨r,1,none⟩ c1).setCell ⟨r,2,none⟩ c2).setCell ⟨r,3,none⟩ c3).setCell ⟨r,4,none⟩ c4).setCell ⟨r,5,none⟩ c5).setCell ⟨r,6,none⟩ c6).setCell ⟨r,7,none⟩ c7).setCell ⟨r,8,none⟩ c8).setCell ⟨r,9,none⟩ c9)).heap[r]?=some (.cells #[c0,c1,c2,c3,c4,c5,c6,c7,c8,c9] 37 (0,0))∧aT wt (((((((((((w.setCell ⟨r,0,none⟩ c0).setCell ⟨r,1,none⟩ c1).setCell ⟨r,2,none⟩ c2).setCell ⟨r,3,none⟩ c3).setCell ⟨r,4,none⟩ c4).setCell ⟨r,5,none⟩ c5).setCell ⟨r,6,none⟩ c6).setCell ⟨r,7,none⟩ c7).setCell ⟨r,8,none⟩ c8).setCell ⟨r,9,none⟩ c9)) S gd g n a u0 u1 E∧((((((((((((w.setCell ⟨r,0,none⟩ c0).setCell ⟨r,1,none⟩ c1).setCell ⟨r,2,none⟩ c2).setCell ⟨r,3,none⟩ c3).setCell ⟨r,4,none⟩ c4).setCell ⟨r,5,none⟩ c5).setCell ⟨r,6,none⟩ c6).setCell ⟨r,7,none⟩ c7).setCell ⟨r,8,none⟩ c8).setCell ⟨r,9,none⟩ c9)).heap.size=w.heap.size∧((((((((((((w.setCell ⟨r,0,none⟩ c0).setCell ⟨r,1,none⟩ c1).setCell ⟨r,2,none⟩ c2).setCell ⟨r,3,none⟩ c3).setCell ⟨r,4,none⟩ c4).setCell ⟨r,5,none⟩ c5).setCell ⟨r,6,none⟩ c6).setCell ⟨r,7,none⟩ c7).setCell ⟨r,8,none⟩ c8).setCell ⟨r,9,none⟩ c9)).os=w.os∧(((((((((((w.setCell ⟨r,0,none⟩ c0).setCell ⟨r,1,none⟩ c1).setCell ⟨r,2,none⟩ c2).setCell ⟨r,3,none⟩ c3).setCell ⟨r,4,none⟩ c4).setCell ⟨r,5,none⟩ c5).setCell ⟨r,6,none⟩ c6).setCell ⟨r,7,none⟩ c7).setCell ⟨r,8,none⟩ c8).setCell ⟨r,9,none⟩ c9)).tape=w.tape∧(((((((((((w.setCell ⟨r,0,none⟩ c0).setCell ⟨r,1,none⟩ c1).setCell ⟨r,2,none⟩ c2).setCell ⟨r,3,none⟩ c3).setCell ⟨r,4,none⟩ c4).setCell ⟨r,5,none⟩ c5).setCell ⟨r,6,none⟩ c6).setCell ⟨r,7,none⟩ c7).setCell ⟨r,8,none⟩ c8).setCell ⟨r,9,none⟩ c9)).output=w.output)∧∀ k,k≠r→(((((((((((w.setCell ⟨r,0,none⟩ c0).setCell ⟨r,1,none⟩ c1).setCell ⟨r,2,none⟩ c2).setCell ⟨r,3,none⟩ c3).setCell ⟨r,4,none⟩ c4).setCell ⟨r,5,none⟩ c5).setCell ⟨r,6,none⟩ c6).setCell ⟨r,7,none⟩ c7).setCell ⟨r,8,none⟩ c8).setCell ⟨r,9,none⟩ c9)).heap[k]?=w.heap[k]?) :=
 let ⟨h1,h2,h3,h4⟩:=oJ hr c0 c1 c2 c3 c4 c5 c6 c7 c8 c9
 ⟨h1,h.aside h2 h3 h4 hN hS (h.off hr (by decide) (by decide)),h2,h3,h4⟩
theorem sO {N:Nat} (h:Below N w w1) (hs:w'.heap.size=w1.heap.size) (hp:w'.os=w1.os∧w'.tape=w1.tape∧w'.output=w1.output) (hk:∀ k,k≠r→w'.heap[k]?=w1.heap[k]?) (hr:N≤r):Below N w w' :=
 ⟨hp.1.trans h.os,hp.2.1.trans h.tape,hp.2.2.trans h.output,by rw [hs];exact h.size,fun k h1=>(hk k (by omega)).trans (h.block k h1)⟩
/-- A reply without a box and names, wherever. -/
theorem vZ (w:World) (B T:Nat) {c x:Int} (hc:ay c) (hx:ay x) (hB:B≤T):dX w B T (aY c x) (aN c x) :=
 ⟨_,_,_,_,B,rfl,⟨_,_,_,fun _=>False,fun _=>False,fun _=>False,rfl,RO.nil _ _,.inl ⟨rfl,rfl⟩,.inl ⟨rfl,rfl⟩,fun _ h=>h.elim,fun _ h=>h.elim,fun _ h=>h.elim,aI,aI,aI,aI⟩,.inl ⟨rfl,rfl⟩,Nat.le_refl _,hB,hc,hx⟩
end
theorem Rl {w w':World} {o:Oper} {a:Act} {K:Act→World→Prop} {Q:Exit→Act→World→Prop} (t:TypeId) (m x v:Operand) (hd:o.dst=none) (ho:o.op=.mapUpdate t m x v) {m' x' v':Value} (h1:a.eval m=m') (h2:a.eval x=x') (h3:a.eval v=v') (hr:(Instr.mapUpdate t m' x' v').run Tryz.prog w=.ok () w') (k:K a w'):o.wp Tryz.prog a w K Q:=by
 unfold Oper.wp execOp
 simp only [ho,h1,h2,h3,Sem.run_bind,Sem.run_pure,Result.andThen_ok,hr]
 show K (a.put o.dst undef) _
 rw [hd]
 exact k
/- A command's end at a gP: a reply without a box is laid into its variable. -/
section
variable {wt w w' w1 : World} {S S' : Nat → Prop} {gd g n n' : Nat} {a a' : aF} {u0 u1 : Value} {E : aU} {r : Nat}
/-- The ten cells of a reply. -/
abbrev oK (w:World) (r:Nat) (c0 c1 c2 c3 c4 c5 c6 c7 c8 c9:Value):World :=
 (((((((((w.setCell ⟨r,0,none⟩ c0).setCell ⟨r,1,none⟩ c1).setCell ⟨r,2,none⟩ c2).setCell ⟨r,3,none⟩ c3).setCell ⟨r,4,none⟩ c4).setCell ⟨r,5,none⟩ c5).setCell ⟨r,6,none⟩ c6).setCell ⟨r,7,none⟩ c7).setCell ⟨r,8,none⟩ c8).setCell ⟨r,9,none⟩ c9
abbrev wh (w:World) (r:Nat) (c x:Int):World:=oK w r (.int .i64 c) (.int .i64 x) (.slice none 0 0) (.int .i64 0) (.int .i64 0) (.int .i64 0) (.slice none 0 0) (.slice none 0 0) (.int .i64 0) (.slice none 0 0)
theorem aT.done (h:aT wt w1 S' gd g n' a u0 u1 E) (hS:∀ k,S' k→S k∨w.heap.size≤k) (hT:iV w w1 S gd g) (hn:n'≤n+1) {d0 d1 d2 d3 d4 d5 d6 d7 d8 d9:Value} (hr:w1.heap[r]?=some (.cells #[d0,d1,d2,d3,d4,d5,d6,d7,d8,d9] 37 (0,0))) (hS':¬ S' r) (hw:wt.heap.size≤w.heap.size) (hN:w.heap.size≤r) {c x:Int} (hc:ay c) (hx:ay x) :
  (wh w1 r c x).heap[r]?=some (.cells #[.int .i64 c,.int .i64 x,.slice none 0 0,.int .i64 0,.int .i64 0,.int .i64 0,.slice none 0 0,.slice none 0 0,.int .i64 0,.slice none 0 0] 37 (0,0))∧dX (wh w1 r c x) w.heap.size (wh w1 r c x).heap.size (aY c x) (aN c x)∧Left wt w (wh w1 r c x) S gd g n u1 a:=by
 obtain ⟨h1,h2,h3,h4⟩:=oJ hr (.int .i64 c) (.int .i64 x) (.slice none 0 0) (.int .i64 0) (.int .i64 0) (.int .i64 0) (.slice none 0 0) (.slice none 0 0) (.int .i64 0) (.slice none 0 0)
 refine ⟨h1,vZ _ _ _ hc hx (by rw [h2];exact hT.1),S',u0,n',E,h.aside h2 h3 h4 (Nat.le_trans hw hN) hS' (h.off hr (by decide) (by decide)),hS,Cu hT h2 h3 h4 hN,hn⟩
theorem gG {w:World} {r:Nat} {d0 d1 d2 d3 d4 d5 d6 d7 d8 d9:Value} {t:TypeId} (hr:w.heap[r]?=some (.cells #[d0,d1,d2,d3,d4,d5,d6,d7,d8,d9] t (0,0))):(∀ i,w.frozen? ⟨r,i,none⟩=false)∧r < w.heap.size∧w.cell? ⟨r,0,none⟩=some d0∧w.cell? ⟨r,1,none⟩=some d1∧w.cell? ⟨r,2,none⟩=some d2∧w.cell? ⟨r,3,none⟩=some d3∧w.cell? ⟨r,4,none⟩=some d4∧w.cell? ⟨r,5,none⟩=some d5∧w.cell? ⟨r,6,none⟩=some d6∧w.cell? ⟨r,7,none⟩=some d7∧w.cell? ⟨r,8,none⟩=some d8∧w.cell? ⟨r,9,none⟩=some d9 :=
 ⟨(aZ hr).1,lt_of_heap hr,aO hr⟩
theorem Fv {i:Nat} {b:aA} (hb:a.boxes[i]?=some b):aH a i b=a:=by
 unfold aH
 have:a.boxes.set i b=a.boxes:=by
  obtain ⟨h1,h2⟩:=gs1 hb
  rw [← h2]
  exact List.set_getElem_self h1
 rw [this]
/-- A reply with a box is laid into its variable. -/
theorem aal {w w2:World} {d0 d1 d2 d3 d4 d5 d6 d7 d8 d9:Value} (hr:w2.heap[w.heap.size]?=some (.cells #[d0,d1,d2,d3,d4,d5,d6,d7,d8,d9] 37 (0,0))) (hA:Below w.heap.size w w2) {x:aA} {v0 v1 v2:Value} {bn bs bv bl:Int} (hE:fI w2 [v0,.int .i64 bv,.int .i64 bn,.int .i64 bs,v1,v2,.int .i64 bl] x (In (w.heap.size+1) w2.heap.size)) (e0:x.valid=bv) (e1:x.next=bn) (e2:x.seq=bs) (e3:x.lost=bl) {c y:Int} (hc:ay c) (hy:ay y) :
  (oK w2 w.heap.size (.int .i64 c) (.int .i64 y) v0 (.int .i64 bv) (.int .i64 bn) (.int .i64 bs) v1 v2 (.int .i64 bl) (.slice none 0 0)).heap[w.heap.size]?=some (.cells #[.int .i64 c,.int .i64 y,v0,.int .i64 bv,.int .i64 bn,.int .i64 bs,v1,v2,.int .i64 bl,.slice none 0 0] 37 (0,0))∧dX (oK w2 w.heap.size (.int .i64 c) (.int .i64 y) v0 (.int .i64 bv) (.int .i64 bn) (.int .i64 bs) v1 v2 (.int .i64 bl) (.slice none 0 0)) w.heap.size (oK w2 w.heap.size (.int .i64 c) (.int .i64 y) v0 (.int .i64 bv) (.int .i64 bn) (.int .i64 bs) v1 v2 (.int .i64 bl) (.slice none 0 0)).heap.size (.agg #[.int .i64 c,.int .i64 y,v0,.int .i64 bv,.int .i64 bn,.int .i64 bs,v1,v2,.int .i64 bl,.slice none 0 0]) ⟨c,y,x,[]⟩∧Below w.heap.size w (oK w2 w.heap.size (.int .i64 c) (.int .i64 y) v0 (.int .i64 bv) (.int .i64 bn) (.int .i64 bs) v1 v2 (.int .i64 bl) (.slice none 0 0)):=by
 subst e0 e1 e2 e3
 obtain ⟨h1,h2,h3,h4⟩:=oJ hr (.int .i64 c) (.int .i64 y) v0 (.int .i64 x.valid) (.int .i64 x.next) (.int .i64 x.seq) v1 v2 (.int .i64 x.lost) (.slice none 0 0)
 refine ⟨h1,?_,sO hA h2 h3 h4 (Nat.le_refl _)⟩
 refine ⟨v0,v1,v2,_,w2.heap.size,rfl,?_,.inl ⟨rfl,rfl⟩,hA.size,by rw [h2];exact Nat.le_refl _,hc,hy⟩
 exact (jN _ _ _ _ _ hE fun k hk _=>h4 k (by have:=hk.1;omega)).wide fun k hk=>⟨by have:=hk.1;omega,hk.2⟩
theorem aam {w w2:World} {d0 d1 d2 d3 d4 d5 d6 d7 d8 d9:Value} (hr:w2.heap[w.heap.size]?=some (.cells #[d0,d1,d2,d3,d4,d5,d6,d7,d8,d9] 37 (0,0))) (hA:Below w.heap.size w w2) {c y:Int} (hc:ay c) (hy:ay y) :
  (wh w2 w.heap.size c y).heap[w.heap.size]?=some (.cells #[.int .i64 c,.int .i64 y,.slice none 0 0,.int .i64 0,.int .i64 0,.int .i64 0,.slice none 0 0,.slice none 0 0,.int .i64 0,.slice none 0 0] 37 (0,0))∧dX (wh w2 w.heap.size c y) w.heap.size (wh w2 w.heap.size c y).heap.size (aY c y) (aN c y)∧Below w.heap.size w (wh w2 w.heap.size c y):=by
 obtain ⟨h1,h2,h3,h4⟩:=oJ hr (.int .i64 c) (.int .i64 y) (.slice none 0 0) (.int .i64 0) (.int .i64 0) (.int .i64 0) (.slice none 0 0) (.slice none 0 0) (.int .i64 0) (.slice none 0 0)
 exact ⟨h1,vZ _ _ _ hc hy (by rw [h2];exact hA.size),sO hA h2 h3 h4 (Nat.le_refl _)⟩
end
/- A command's reply is handed on: it is laid into the caller's variable. -/
theorem dX.form {w:World} {B T:Nat} {v:Value} {y:dI} (h:dX w B T v y):∃ a0 n0 k0 a1 n1 k1 a2 n2 k2 a3 n3 k3,v=.agg #[.int .i64 y.code,.int .i64 y.num,.slice a0 n0 k0,.int .i64 y.box.valid,.int .i64 y.box.next,.int .i64 y.box.seq,.slice a1 n1 k1,.slice a2 n2 k2,.int .i64 y.box.lost,.slice a3 n3 k3]:=by
 obtain ⟨u0,u1,u2,u3,rfl,⟨p0,p1,p2,e,g0,g1,g2,-⟩,hn,-⟩:=h.rv
 simp only [Value.agg.injEq,Array.mk.injEq,List.cons.injEq,and_true,true_and] at e
 obtain ⟨rfl,rfl,rfl⟩:=e
 obtain ⟨a0,n0,k0,rfl⟩:=g0.aG
 obtain ⟨a1,k1,rfl,-⟩:=g1.form
 obtain ⟨a2,k2,rfl,-⟩:=g2.form
 obtain ⟨a3,k3,rfl,-⟩:=hn.form
 exact ⟨_,_,_,_,_,_,_,_,_,_,_,_,rfl⟩
theorem Fw {wt w w1 w2:World} {S:Nat→Prop} {gd g n r:Nat} {a a':aF} {u0 u1 v:Value} {E:aU} {y:dI} {d0 d1 d2 d3 d4 d5 d6 d7 d8 d9:Value} (hD:aT wt w1 S gd g n a u0 u1 E) (hS:∀ k,S k→k < w.heap.size) (hA:Below w.heap.size w w1) (hr:w1.heap[r]?=some (.cells #[d0,d1,d2,d3,d4,d5,d6,d7,d8,d9] 37 (0,0))) (hrw:w.heap.size≤r) (hw:wt.heap.size≤w.heap.size) (hR:dX w2 w1.heap.size w2.heap.size v y) (hL:Left wt w1 w2 S gd g n u1 a') :
  ∃ a0 n0 k0 a1 n1 k1 a2 n2 k2 a3 n3 k3,v=.agg #[.int .i64 y.code,.int .i64 y.num,.slice a0 n0 k0,.int .i64 y.box.valid,.int .i64 y.box.next,.int .i64 y.box.seq,.slice a1 n1 k1,.slice a2 n2 k2,.int .i64 y.box.lost,.slice a3 n3 k3] ∧
   w2.heap[r]?=some (.cells #[d0,d1,d2,d3,d4,d5,d6,d7,d8,d9] 37 (0,0)) ∧
   ∀ W,W=oK w2 r (.int .i64 y.code) (.int .i64 y.num) (.slice a0 n0 k0) (.int .i64 y.box.valid) (.int .i64 y.box.next) (.int .i64 y.box.seq) (.slice a1 n1 k1) (.slice a2 n2 k2) (.int .i64 y.box.lost) (.slice a3 n3 k3) →
    W.heap[r]?=some (.cells #[.int .i64 y.code,.int .i64 y.num,.slice a0 n0 k0,.int .i64 y.box.valid,.int .i64 y.box.next,.int .i64 y.box.seq,.slice a1 n1 k1,.slice a2 n2 k2,.int .i64 y.box.lost,.slice a3 n3 k3] 37 (0,0))∧dX W w.heap.size W.heap.size v y∧Left wt w W S gd g n u1 a':=by
 obtain ⟨a0,n0,k0,a1,n1,k1,a2,n2,k2,a3,n3,k3,rfl⟩:=hR.form
 obtain ⟨S2,u2,Rm,E2,hD2,hS2,hT,hn⟩:=hL
 have hrl:=lt_of_heap hr
 have hof:=hD.off hr (by decide) (by decide)
 have hr2:w2.heap[r]?=some (.cells #[d0,d1,d2,d3,d4,d5,d6,d7,d8,d9] 37 (0,0)):=(hT.2.1 r hrl hof.1 hof.2.1 (fun h=>by have:=hS r h;omega)).trans hr
 refine ⟨a0,n0,k0,a1,n1,k1,a2,n2,k2,a3,n3,k3,rfl,hr2,fun W hW=>?_⟩
 subst hW
 obtain ⟨h1,h2,h3,h4⟩:=oJ hr2 (.int .i64 y.code) (.int .i64 y.num) (.slice a0 n0 k0) (.int .i64 y.box.valid) (.int .i64 y.box.next) (.int .i64 y.box.seq) (.slice a1 n1 k1) (.slice a2 n2 k2) (.int .i64 y.box.lost) (.slice a3 n3 k3)
 have Kw:¬ S2 r:=fun h=>(hS2 r h).elim (fun h=>by have:=hS r h;omega) (by omega)
 have hs1:=hA.size
 have hs2:=hT.1
 refine ⟨h1,?_,S2,u2,Rm,E2,hD2.aside h2 h3 h4 (by omega) Kw (hD2.off hr2 (by decide) (by decide)),fun k hk=>(hS2 k hk).imp id (by omega),Cu ((fZ hA).trans hT (fun k hk=>.inl hk)) h2 h3 h4 hrw,hn⟩
 rw [h2]
 obtain ⟨p0,p1,p2,p3,T0,e0,e1,e2,e3,e4,e5⟩:=hR
 refine dX.wide (B:=w1.heap.size) ⟨p0,p1,p2,p3,T0,e0,jN _ _ _ _ _ e1 fun k hk _=>h4 k (by have:=hk.1;omega),e2.frame mW fun k hk _=>h4 k (by have:=hk.1;omega),e3,e4,e5⟩ hs1 (Nat.le_refl _)
theorem Ky {wt w w':World} {S:Nat→Prop} {gd g n:Nat} {a:aF} {u0 u1:Value} {E:aU} (hD:aT wt w S gd g n a u0 u1 E) (hB:Below w.heap.size w w'):Left wt w w' S gd g n u1 a :=
 ⟨S,u0,n,E,hD.below hB,fun k hk=>.inl hk,fZ hB,by omega⟩
end Go.Proofs.YtmglhdkeidhafaaGreat
