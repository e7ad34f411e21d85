/- The proof's texts, part 24. -/
import Derived.Test.YtmglhdkeidhafaaGreatTm
import Derived.Test.YtmglhdkeidhafaaGreatTn
import Derived.Test.YtmglhdkeidhafaaGreatTl
namespace Go.Proofs.YtmglhdkeidhafaaGreat
open Go.RowKit
set_option linter.unusedVariables false
set_option linter.unusedSimpArgs false
set_option maxHeartbeats 20000000
set_option maxRecDepth 100000
/- What EP of package spec does where it copies a dV away. -/
theorem Rf (ga k:Nat) (a:aF) (b:aA) (tt:List Int) (S:Nat→Prop) (kd uid mode fl si:Int) (x0 x1 x2:Option Addr) (n0 n1 n2 m0 m1 m2:Nat) (w:World) (hp:aS w S ga a) (hb:a.boxes[k]?=some b) (hto:Bs w (.slice x1 n1 m1) tt) (hbl:a.boxes.length≤2000000) (hsx:bT b≤2000000) (i t:Nat) (bt bu:aA) (m:aC) (hm:b.ah[i]?=some m) (hf:bC (fun m:aC=>decide (m.uid=uid)) b.ah=(i:Int)) (hf2:bC (fun x:aA=>decide (x.name=tt)) a.boxes=(t:Int)) (hbt:a.boxes[t]?=some bt) (lQ:bT bt≤2000000) (hbu:(aH a k (aV (aX b) i)).boxes[t]?=some bu) (hu1:bu.ah.length≤2000000) (hu2:bu.seq < 1000000000) (hu3:bu.next < 1000000000) (hm1:mode=1) (BF:(t=k∧dh bt 0=true)∨(t≠k∧dh bt 1=true)) (qL:¬ 999999≤b.seq) :
  Calls Tryz.prog 92 #[.pointer (some ⟨ga,0,none⟩),.int .i64 k,.agg #[.int .i64 kd,.slice x0 n0 m0,.slice x1 n1 m1,.int .i64 uid,.int .i64 mode,.int .i64 fl,.int .i64 si,.slice x2 n2 m2]] w fun e w'=>∃ u S',e=.returned u∧je w' u (aN 0 bu.next)∧aR w w' S ga∧aS w' S' ga (aH (aH a k (aV (aX b) i)) t (jA bu m.flags m.text))∧∀ k,S' k→S k∨w.heap.size≤k:=by
 have HM:Hid (mode=1):=hm1
 clear hm1
 obtain ⟨S0,iM⟩:∃ S0:Nat→Prop,S0=fun k=>S k∧k < w.heap.size:=⟨_,rfl⟩
 have eB:Hid (∀ k,S0 k→S k):=by subst iM;exact fun k h=>h.1
 have HSL:Hid (∀ k,S0 k→k < w.heap.size):=by subst iM;exact fun k h=>h.2
 have HW:Hid _:=BF
 clear BF
 have HP:Hid (∀ w',Below w.heap.size w w'→aS w' S0 ga a):=by subst iM;exact fun w' h=>hp.cut.below h
 clear iM
 have jT:Hid (∀ w',Below w.heap.size w w'→Bs w' (.slice x1 n1 m1) tt):=fun w' h=>hto.below h
 have iF:=hp.lt
 obtain ⟨g,cap,S1,cb,fE,hpb,hS1,-⟩:=hp.at hb
 obtain ⟨v9,u9,lM,jB,lN,hbq,nI⟩:=hp.cells
 have e9:v9=.slice (some ⟨g,0,none⟩) a.boxes.length cap:=Option.some.inj (jB.symm.trans cb)
 subst e9
 have kT:Hid (∀ w',Below w.heap.size w w'→iw w' (.agg #[.int .i64 a.valid,.slice (some ⟨g,0,none⟩) a.boxes.length cap,u9]) a):=fun w' h=>nI.below h
 have hkl:k < a.boxes.length:=(gs1 hb).1
 have bE:g < w.heap.size:=jS hpb.ty
 have hcap:a.boxes.length≤cap:=by obtain ⟨_,_,e,h,-⟩:=hbq.v.form;cases e;exact h
 obtain ⟨u0,u1,u2,h0,h1,h2,hint,c0,c1,c2,c3,c4,c5,c6⟩:=hpb.cells
 obtain ⟨a0,q0,z0,rfl⟩:=h0.bs.aG
 obtain ⟨a1,z1,rfl,-⟩:=h1.v.form
 obtain ⟨a2,z2,rfl,-⟩:=h2.1.form
 have HV:Hid (∀ w',Below w.heap.size w w'→bI w' (.agg #[.slice a0 q0 z0,.int .i64 b.valid,.int .i64 b.next,.int .i64 b.seq,.slice a1 b.ah.length z1,.slice a2 b.au.length z2,.int .i64 b.lost]) b):=fun w' h=>⟨_,_,_,rfl,h0.bs.below h,h1.v.below iG h,h2.1.below gU h,hint⟩
 obtain ⟨HB,bO,aQ,jf⟩:=uz w (.cells #[.int .i64 kd,.slice x0 n0 m0,.slice x1 n1 m1,.int .i64 uid,.int .i64 mode,.int .i64 fl,.int .i64 si,.slice x2 n2 m2] 28) (.cells #[.int .i64 0,.int .i64 0,.slice none 0 0,.int .i64 0,.int .i64 0,.int .i64 0,.slice none 0 0,.slice none 0 0,.int .i64 0,.slice none 0 0] 37)
 have HC:Hid (∀ W w',Below w.heap.size w W→W.heap[w.heap.size]?=some (.cells #[.int .i64 kd,.slice x0 n0 m0,.slice x1 n1 m1,.int .i64 uid,.int .i64 mode,.int .i64 fl,.int .i64 si,.slice x2 n2 m2] 28 (0,0))→Below W.heap.size W w'→w'.cell? ⟨g,k * 7,none⟩=some (.slice a0 q0 z0)∧w'.cell? ⟨g,k * 7+1,none⟩=some (.int .i64 b.valid)∧w'.cell? ⟨g,k * 7+2,none⟩=some (.int .i64 b.next)∧w'.cell? ⟨g,k * 7+3,none⟩=some (.int .i64 b.seq)∧w'.cell? ⟨g,k * 7+4,none⟩=some (.slice a1 b.ah.length z1)∧w'.cell? ⟨g,k * 7+5,none⟩=some (.slice a2 b.au.length z2)∧w'.cell? ⟨g,k * 7+6,none⟩=some (.int .i64 b.lost)∧w'.cell? ⟨ga,0,none⟩=some (.int .i64 a.valid)∧w'.cell? ⟨ga,1,none⟩=some (.slice (some ⟨g,0,none⟩) a.boxes.length cap)∧w'.cell? ⟨ga,2,none⟩=some (u9)∧w'.cell? ⟨w.heap.size,2,none⟩=some (.slice x1 n1 m1)∧w'.cell? ⟨w.heap.size,3,none⟩=some (.int .i64 uid)∧w'.cell? ⟨w.heap.size,4,none⟩=some (.int .i64 mode)):=by
  intro W w' hb hc hw
  have h:=fun j=>hb.cell (p:=⟨g,j,none⟩) bE
  have h':=fun j=>hw.cell (p:=⟨g,j,none⟩) (Nat.lt_of_lt_of_le bE hb.size)
  have i:=fun j=>hb.cell (p:=⟨ga,j,none⟩) iF
  have i':=fun j=>hw.cell (p:=⟨ga,j,none⟩) (Nat.lt_of_lt_of_le iF hb.size)
  have hk:=aB hw hc
  have hq:=fun j=>cell_of_row w' w.heap.size j _ _ (0,0) hk
  exact ⟨(h' _).trans ((h _).trans c0),(h' _).trans ((h _).trans c1),(h' _).trans ((h _).trans c2),(h' _).trans ((h _).trans c3),(h' _).trans ((h _).trans c4),(h' _).trans ((h _).trans c5),(h' _).trans ((h _).trans c6),(i' _).trans ((i _).trans lM),(i' _).trans ((i _).trans jB),(i' _).trans ((i _).trans lN),hq 2,hq 3,hq 4⟩
 have hki:(k:Int) < (a.boxes.length:Int):=by omega
 clear h0 h1 h2 hp hpb hbq nI hto c0 c1 c2 c3 c4 c5 c6 lM jB lN cb hint
 go_enter Tryz.func92,Tryz.ntmps92
 go_upto_region 1 with fail
 generalize ((w.alloc (.cells #[.int .i64 kd,.slice x0 n0 m0,.slice x1 n1 m1,.int .i64 uid,.int .i64 mode,.int .i64 fl,.int .i64 si,.slice x2 n2 m2] 28)).alloc (.cells #[.int .i64 0,.int .i64 0,.slice none 0 0,.int .i64 0,.int .i64 0,.int .i64 0,.slice none 0 0,.slice none 0 0,.int .i64 0,.slice none 0 0] 37))=W at HB bO aQ jf ⊢
 have HS:Hid (∀ w',Below W.heap.size W w'→w'.cell? ⟨g,k * 7,none⟩=some (.slice a0 q0 z0)∧w'.cell? ⟨g,k * 7+1,none⟩=some (.int .i64 b.valid)∧w'.cell? ⟨g,k * 7+2,none⟩=some (.int .i64 b.next)∧w'.cell? ⟨g,k * 7+3,none⟩=some (.int .i64 b.seq)∧w'.cell? ⟨g,k * 7+4,none⟩=some (.slice a1 b.ah.length z1)∧w'.cell? ⟨g,k * 7+5,none⟩=some (.slice a2 b.au.length z2)∧w'.cell? ⟨g,k * 7+6,none⟩=some (.int .i64 b.lost)∧w'.cell? ⟨ga,0,none⟩=some (.int .i64 a.valid)∧w'.cell? ⟨ga,1,none⟩=some (.slice (some ⟨g,0,none⟩) a.boxes.length cap)∧w'.cell? ⟨ga,2,none⟩=some (u9)∧w'.cell? ⟨w.heap.size,2,none⟩=some (.slice x1 n1 m1)∧w'.cell? ⟨w.heap.size,3,none⟩=some (.int .i64 uid)∧w'.cell? ⟨w.heap.size,4,none⟩=some (.int .i64 mode)):=fun w' h=>HC.out W w' HB.out bO.out h
 obtain ⟨-,-,-,-,-,-,-,s0,s1,s2,-⟩:=HS.out W (Below.refl _ _)
 have hl0:ga < W.heap.size:=by omega
 go_upto_region 2 with fail
 clear s0 s1 s2
 have DR:Below W.heap.size W W.drew:=(bd _ _)
 have hl1:w.heap.size < W.drew.heap.size:=by show _ < W.heap.size;omega
 have hl2:g < W.drew.heap.size:=by show _ < W.heap.size;omega
 have dY:Hid _:=HV.out W.drew (Below.step HB.out DR)
 go_region_held3 (fun w'=>w'.cell? ⟨g,k * 7,none⟩=some (.slice a0 q0 z0)∧w'.cell? ⟨g,k * 7+1,none⟩=some (.int .i64 b.valid)∧w'.cell? ⟨g,k * 7+2,none⟩=some (.int .i64 b.next)∧w'.cell? ⟨g,k * 7+3,none⟩=some (.int .i64 b.seq)∧w'.cell? ⟨g,k * 7+4,none⟩=some (.slice a1 b.ah.length z1)∧w'.cell? ⟨g,k * 7+5,none⟩=some (.slice a2 b.au.length z2)∧w'.cell? ⟨g,k * 7+6,none⟩=some (.int .i64 b.lost)∧w'.cell? ⟨ga,0,none⟩=some (.int .i64 a.valid)∧w'.cell? ⟨ga,1,none⟩=some (.slice (some ⟨g,0,none⟩) a.boxes.length cap)∧w'.cell? ⟨ga,2,none⟩=some (u9)∧w'.cell? ⟨w.heap.size,2,none⟩=some (.slice x1 n1 m1)∧w'.cell? ⟨w.heap.size,3,none⟩=some (.int .i64 uid)∧w'.cell? ⟨w.heap.size,4,none⟩=some (.int .i64 mode))
  (first | exact HS.out _ DR | exact HS.out _ (Below.step DR B1) | go_keep)
  ((go_at_call 51;refine (rH _ b uid _ dY.out).mono ?_;rintro e w1 ⟨rfl,B1⟩))
 have HB1:Hid (Below W.heap.size W w1):=Below.step DR B1
 have hw1:W.heap.size≤w1.heap.size:=HB1.out.size
 clear B1 dY DR hl1 hl2
 go_upto_region 3 with fail
 have DR:Below W.heap.size W w1.drew:=HB1.out.drew
 have hl1:w.heap.size < w1.drew.heap.size:=by show _ < w1.heap.size;omega
 have hl2:g < w1.drew.heap.size:=by show _ < w1.heap.size;omega
 have hl3:ga < w1.drew.heap.size:=by show _ < w1.heap.size;omega
 have dY:Hid _:=kT.out w1.drew (Below.step HB.out DR)
 have mH:Hid _:=jT.out w1.drew (Below.step HB.out DR)
 go_region_held3 (fun w'=>w'.cell? ⟨g,k * 7,none⟩=some (.slice a0 q0 z0)∧w'.cell? ⟨g,k * 7+1,none⟩=some (.int .i64 b.valid)∧w'.cell? ⟨g,k * 7+2,none⟩=some (.int .i64 b.next)∧w'.cell? ⟨g,k * 7+3,none⟩=some (.int .i64 b.seq)∧w'.cell? ⟨g,k * 7+4,none⟩=some (.slice a1 b.ah.length z1)∧w'.cell? ⟨g,k * 7+5,none⟩=some (.slice a2 b.au.length z2)∧w'.cell? ⟨g,k * 7+6,none⟩=some (.int .i64 b.lost)∧w'.cell? ⟨ga,0,none⟩=some (.int .i64 a.valid)∧w'.cell? ⟨ga,1,none⟩=some (.slice (some ⟨g,0,none⟩) a.boxes.length cap)∧w'.cell? ⟨ga,2,none⟩=some (u9)∧w'.cell? ⟨w.heap.size,2,none⟩=some (.slice x1 n1 m1)∧w'.cell? ⟨w.heap.size,3,none⟩=some (.int .i64 uid)∧w'.cell? ⟨w.heap.size,4,none⟩=some (.int .i64 mode))
  (first | exact HS.out _ DR | exact HS.out _ (Below.step DR B2) | go_keep)
  ((go_at_call 87;refine (uj _ _ a tt _ dY.out mH.out hbl).mono ?_;rintro e w2 ⟨rfl,B2⟩))
 have HB2:Hid (Below W.heap.size W w2):=Below.step DR B2
 have cB:Hid _:=aB HB2.out aQ.out
 have hw2:W.heap.size≤w2.heap.size:=HB2.out.size
 clear B2 dY mH DR hl1 hl2 hl3 HB1 hw1
 obtain ⟨-,-,-,s3,-,-,-,s7,s8,-,-,-,s12⟩:=HS.out w2 HB2.out
 obtain ⟨g',cap',S2,cb',-,hpt,-,-⟩:=(HP.out w2 (Below.step HB.out HB2.out)).at hbt
 have e9:=Option.some.inj (cb'.symm.trans s8)
 simp only [Value.slice.injEq,Option.some.injEq,Addr.mk.injEq,and_true,true_and] at e9
 obtain ⟨rfl,rfl⟩:=e9
 obtain ⟨y0',y1',y2',g0,g1,g2,vN,t0,t1,t2,t3,t4,t5,t6⟩:=hpt.cells
 obtain ⟨y0,p0,k0,rfl⟩:=g0.bs.aG
 obtain ⟨y1,k1,rfl,-⟩:=g1.v.form
 obtain ⟨y2,k2,rfl,-⟩:=g2.1.form
 have sH:Hid (bI w2 (.agg #[.slice y0 p0 k0,.int .i64 bt.valid,.int .i64 bt.next,.int .i64 bt.seq,.slice y1 bt.ah.length k1,.slice y2 bt.au.length k2,.int .i64 bt.lost]) bt):=⟨_,_,_,rfl,g0.bs,g1.v,g2.1,vN⟩
 have htl:t < a.boxes.length:=(gs1 hbt).1
 have hti:(t:Int) < (a.boxes.length:Int):=by omega
 have hl1:w.heap.size < w2.heap.size:=by omega
 have hl2:g' < w2.heap.size:=jS hpt.ty
 have hl3:ga < w2.heap.size:=by omega
 clear g0 g1 g2 vN hpt cb'
 have hm1:=HM.out
 subst hm1
 have hw:=HW.out
 clear HW
 rcases hw with ⟨htk,hroom⟩ | ⟨htk,hroom⟩
 all_goals first | (have PN:((t:Int) == (k:Int))=false:=by simp;omega) | (have PN:((t:Int) == (k:Int))=true:=by simp;omega)
 all_goals (
  have HTK:Hid _:=htk
  clear htk
  go_wp2_with fail
  first | (have tt:=(show dh bt 1=true from hroom);clear tt;refine (zn _ bt 1 w2 sH.out (by decide) (by decide) (by have:=lF bt.ah;unfold bT at lQ;omega)).mono ?_) | refine (zn _ bt 0 w2 sH.out (by decide) (by decide) (by have:=lF bt.ah;unfold bT at lQ;omega)).mono ?_
  rintro e w3 ⟨rfl,B3⟩
  have HB3:Hid (Below W.heap.size W w3):=Below.step HB2.out B3
  have cK:Hid _:=aB B3 cB.out
  have hw3:W.heap.size≤w3.heap.size:=HB3.out.size
  have hl4:g' < w3.heap.size:=by have:=B3.size;omega
  clear B3 s3 s7 s8 s12 t0 t1 t2 t3 t4 t5 t6 sH
  obtain ⟨-,-,-,s3,-⟩:=HS.out w3 HB3.out
  rw [hroom]
  have X3:Below w.heap.size w w3:=Below.step HB.out HB3.out
  have dZ:Hid (aS w3 S0 ga a):=HP.out w3 X3
  have HT3:Hid (aR w w3 S0 ga):=aR.below X3
  obtain ⟨gx,cx,Sx,xV,JU,hpx,Cc,-⟩:=dZ.out.at hb
  obtain ⟨-,-,-,-,-,-,-,-,s8,-⟩:=HS.out w3 HB3.out
  have e9:=Option.some.inj (xV.symm.trans s8)
  simp only [Value.slice.injEq,Option.some.injEq,Addr.mk.injEq,and_true,true_and] at e9
  obtain ⟨rfl,rfl⟩:=e9
  obtain ⟨mb,mc,ut,d4,hmc,hlm,f0,f1,f2,f3,hro,j0,j1,j2⟩:=hpx.II hm
  obtain ⟨x9,n9,c9,rfl⟩:=hro.bs.aG
  have jU:Hid (RO w3 Any (.slice x9 n9 c9) m.text):=hro
  have HJ:Hid (ay m.flags):=j1
  have hii:(i:Int) < (b.ah.length:Int):=by have:=(gs1 hm).1;omega
  have Zj:gx < w3.heap.size:=hpx.lt
  have JV:ga < w3.heap.size:=by omega
  have hr3:w.heap.size+1 < w3.heap.size:=by omega
  have vU:Hid (w3.cell? ⟨ga,1,none⟩=some (.slice (some ⟨gx,0,none⟩) a.boxes.length cx)):=xV
  clear hpx hro j0 j1 j2 xV Cc JU X3 hl4 HS bO HC HV aQ kT jT s8
  go_upto_region 13 with fail
  have AB:Below w3.heap.size w3 (w3.alloc (.cells #[.int .i64 m.uid,.int .i64 m.flags,.int .i64 m.seq,.slice x9 n9 c9] 72)):=bn _ _
  have jE:Hid ((w3.alloc (.cells #[.int .i64 m.uid,.int .i64 m.flags,.int .i64 m.seq,.slice x9 n9 c9] 72)).heap[w3.heap.size]?=some (.cells #[.int .i64 m.uid,.int .i64 m.flags,.int .i64 m.seq,.slice x9 n9 c9] 72 (0,0))):=aW w3 _
  have gX:Hid (aS (w3.alloc (.cells #[.int .i64 m.uid,.int .i64 m.flags,.int .i64 m.seq,.slice x9 n9 c9] 72)) S0 ga a):=dZ.out.below AB
  have xW:Hid (RO (w3.alloc (.cells #[.int .i64 m.uid,.int .i64 m.flags,.int .i64 m.seq,.slice x9 n9 c9] 72)) Any (.slice x9 n9 c9) m.text):=jU.out.below AB
  have gu:Hid (aR w (w3.alloc (.cells #[.int .i64 m.uid,.int .i64 m.flags,.int .i64 m.seq,.slice x9 n9 c9] 72)) S0 ga):=HT3.out.trans (aR.below (S:=S0) AB) (fun k h=>.inl h)
  have fF:Hid _:=aB AB cK.out
  have gN:Hid ((w3.alloc (.cells #[.int .i64 m.uid,.int .i64 m.flags,.int .i64 m.seq,.slice x9 n9 c9] 72)).cell? ⟨ga,1,none⟩=some (.slice (some ⟨gx,0,none⟩) a.boxes.length cx)):=(AB.cell (p:=⟨ga,1,none⟩) JV).trans vU.out
  have hw4:(w3.alloc (.cells #[.int .i64 m.uid,.int .i64 m.flags,.int .i64 m.seq,.slice x9 n9 c9] 72)).heap.size=w3.heap.size+1:=by simp
  generalize (w3.alloc (.cells #[.int .i64 m.uid,.int .i64 m.flags,.int .i64 m.seq,.slice x9 n9 c9] 72))=w4 at jE gX xW gu fF gN hw4 ⊢
  clear vU AB dZ jU HT3 cK f0 f1 f2 f3 d4 hlm hmc HB3 s3 HB cB HB2
  obtain ⟨g4,cap4,S4,Rh,Ri,zG,zH,hback⟩:=gX.out.at hb
  have zI:Hid _:=hback
  have hg4:g4 < w.heap.size:=HSL.out g4 Ri
  have sM:=zG.open
  obtain ⟨-,-,-,-,-,-,⟨-,-,Kk,-⟩,-,-,-,q3,-⟩:=zG.cells
  have qz:=zG.lt
  have hsl:(-9223372036854775808:Int)≤b.seq:=Kk.1
  have ZY:ay (b.seq+1):=⟨by have:=Kk.1;omega,by omega⟩
  have yc:Hid (aK (w4.setCell ⟨g4,k * 7+3,none⟩ (.int .i64 (b.seq+1))) S4 g4 (k * 7) (aX b)):=zG.su (b.seq+1) ZY
  have o9:Hid (Turns w4 (w4.setCell ⟨g4,k * 7+3,none⟩ (.int .i64 (b.seq+1))) S4 g4 (k * 7)):=lK zG (by omega)
  have Ej:(w4.setCell ⟨g4,k * 7+3,none⟩ (.int .i64 (b.seq+1))).heap.size=w4.heap.size:=bf
  have qQ:Hid (∀ k,S4 k→S0 k):=fun k h=>(zH k h).1
  have e9:=Option.some.inj (Rh.symm.trans gN.out)
  simp only [Value.slice.injEq,Option.some.injEq,Addr.mk.injEq,and_true,true_and] at e9
  obtain ⟨rfl,rfl⟩:=e9
  clear hback zG zH Rh Kk gN
  go_upto_region 15 with fail
  clear q3 qz sM
  generalize w4.setCell ⟨g4,k * 7+3,none⟩ (.int .i64 (b.seq+1))=w5 at yc o9 Ej ⊢
  have Z0:(aX b).ah[i]?=some m:=hm
  go_wp2_with fail
  refine (QI g4 (k * 7) i (aX b) m S4 w5 yc.out Z0 (by have:=lF b.ah;unfold bT at hsx;show b.ah.length≤2000000;omega) (by unfold bT at hsx;show b.au.length≤2000000;omega)).mono ?_
  rintro e w6 ⟨rfl,qR,zJ⟩
  have uL:Hid (Turns w4 w6 S4 g4 (k * 7)):=Turns.trans o9.out qR (fun k h=>.inl h)
  have jF:Hid (aS w6 (fun k=>S0 k∨w4.heap.size≤k) ga (aH a k (aV (aX b) i))):=zI.out w6 _ _ uL.out zJ (fun k h=>h.elim .inl fun h=>.inr (by omega))
  have kU:Hid (aR w w6 S0 ga):=gu.out.trans (aR.box uL.out Ri qQ.out) (fun k h=>.inl h)
  have Kl:∀ k,w.heap.size≤k→k < w4.heap.size→w6.heap[k]?=w4.heap[k]?:=fun k h1 h2=>uL.out.2.1 k h2 (by omega) (fun h=>by have:=HSL.out k (qQ.out k h);omega)
  have qP:Hid (w6.heap[w3.heap.size]?=some (.cells #[.int .i64 m.uid,.int .i64 m.flags,.int .i64 m.seq,.slice x9 n9 c9] 72 (0,0))):=(Kl _ (by omega) (by omega)).trans jE.out
  have iU:Hid (w6.heap[w.heap.size+1]?=some (.cells #[.int .i64 0,.int .i64 0,.slice none 0 0,.int .i64 0,.int .i64 0,.int .i64 0,.slice none 0 0,.slice none 0 0,.int .i64 0,.slice none 0 0] 37 (0,0))):=(Kl _ (by omega) (by omega)).trans fF.out
  have JW:Hid (RO w6 Any (.slice x9 n9 c9) m.text):=jP xW.out uL.out.2.2.1
  have xQ:w4.heap.size≤w6.heap.size:=uL.out.1
  have kW:Hid (∀ k,(S0 k∨w4.heap.size≤k)→(k < w.heap.size∨w3.heap.size < k)∧(S0 k∨w.heap.size≤k)):=fun k h=>h.elim (fun h=>⟨.inl (HSL.out k h),.inl h⟩) (fun h=>⟨.inr (by omega),.inr (by omega)⟩)
  clear Kl uL gX gu jE fF xW qR zJ zI yc o9
  go_upto_region 16 with fail
  obtain ⟨S6,Km⟩:∃ S6:Nat→Prop,S6=fun k=>S0 k∨w4.heap.size≤k:=⟨_,rfl⟩
  rw [← Km] at jF
  replace kW:Hid (∀ k,S6 k→(k < w.heap.size∨w3.heap.size < k)∧(S0 k∨w.heap.size≤k)):=by rw [Km];exact kW
  clear Km
  have j5:Below w6.heap.size w6 w6.drew:=(bd _ _)
  have HAD:Hid (aS w6.drew S6 ga (aH a k (aV (aX b) i))):=jF.out.below j5
  obtain ⟨gt,ct,St,JX,Ce,hpt,hSt,Cg⟩:=HAD.out.at hbu
  have xX:Hid _:=Cg
  have Ch:Hid (aK w6.drew St gt (t * 7) bu):=hpt
  have HST:Hid (∀ k,St k→S6 k):=fun k h=>(hSt k h).1
  have Zk:(t:Int) < ((aH a k (aV (aX b) i)).boxes.length:Int):=by have:=(gs1 hbu).1;omega
  have Zl:t < (aH a k (aV (aX b) i)).boxes.length:=(gs1 hbu).1
  have Zm:gt < w6.drew.heap.size:=hpt.lt
  have Zn:ga < w6.drew.heap.size:=HAD.out.lt
  have Zo:w3.heap.size < w6.drew.heap.size:=by show _ < w6.heap.size;omega
  have JY:w.heap.size+1 < w6.drew.heap.size:=by show _ < w6.heap.size;omega
  obtain ⟨-,n1,-,n3⟩:=iZ (aB j5 qP.out)
  have hwd:w6.heap.size=w6.drew.heap.size:=rfl
  have JZ:Hid (∀ w',w6.drew.heap.size≤w'.heap.size→bD w6.drew w' 5→Bs w' (.slice x9 n9 c9) m.text):=(JW.out.below j5).stay
  have mH:Hid (aR w w6.drew S0 ga):=kU.out.trans (aR.below (S:=S0) j5) (fun k h=>.inl h)
  have j6:Hid (w6.drew.heap[w.heap.size+1]?=some (.cells #[.int .i64 0,.int .i64 0,.slice none 0 0,.int .i64 0,.int .i64 0,.int .i64 0,.slice none 0 0,.slice none 0 0,.int .i64 0,.slice none 0 0] 37 (0,0))):=aB j5 iU.out
  have hbn:=Ch.out.cells
  obtain ⟨-,-,-,-,-,-,⟨-,Ci,-,-⟩,-⟩:=hbn
  have J2:Hid (ay bu.next):=Ci
  clear hpt Cg j5 Ci hSt
  refine eO 10 (S:=fun w'=>(w'.cell? ⟨ga,1,none⟩=some (.slice (some ⟨gt,0,none⟩) (aH a k (aV (aX b) i)).boxes.length ct)∧w'.cell? ⟨w3.heap.size,1,none⟩=some (.int .i64 m.flags)∧w'.cell? ⟨w3.heap.size,3,none⟩=some (.slice x9 n9 c9))) (eH (by kernel_rfl) QG) (by kernel_rfl) (⟨JX,n1,n3⟩) (fun aj hHeld=>?_)
  refine tks 0 0 86 aj hHeld ?_
  refine tks 1 1 87 aj hHeld ?_
  refine tks 2 2 88 aj hHeld ?_
  refine tks 3 3 89 aj hHeld ?_
  refine tks 4 4 90 aj hHeld ?_
  refine tks 5 5 91 aj hHeld ?_
  refine tks 6 6 92 aj hHeld ?_
  refine tks 7 7 93 aj hHeld ?_
  refine tks 8 8 94 aj hHeld ?_
  refine tks 9 9 95 aj hHeld ?_
  refine gH (S':=fun w'=>True) 10 13 aj (by decide) (trivial) (fun hHeld=>?_)
  refine cls 10 10 aj (by decide) rfl rfl (fun K hK=>?_)
  go_simp
  refine (I6 gt (t * 7) bu St m.flags _ m.text _ Ch.out HJ.out JZ.out (by have:=He (List.mem_of_getElem? hm);unfold bT at hsx;omega) hu1 hu2 hu3).mono ?_
  rintro e w7 ⟨rfl,jG,Cj⟩
  have vS:Hid (aS w7 (fun k=>S6 k∨w6.drew.heap.size≤k) ga (aH (aH a k (aV (aX b) i)) t (jA bu m.flags m.text))):=xX.out w7 _ _ jG Cj (fun k h=>h)
  have iN:Hid (aR w w7 S0 ga):=mH.out.trans (aR.box jG Ce HST.out) (fun k h=>(kW.out k h).2)
  have Zp:=jG.1
  have gQ:Hid (w7.heap[w.heap.size+1]?=some (.cells #[.int .i64 0,.int .i64 0,.slice none 0 0,.int .i64 0,.int .i64 0,.int .i64 0,.slice none 0 0,.slice none 0 0,.int .i64 0,.slice none 0 0] 37 (0,0))):=(jG.2.1 _ JY (fun e=>by have:=(kW.out gt Ce).1;omega) (fun h=>by have:=(kW.out _ (HST.out _ h)).1;omega)).trans j6.out
  clear jG Cj
  refine hK.out _ _ (trivial) (fun hHeld=>?_)
  clear hK K
  refine tks 11 11 97 aj hHeld ?_
  refine cls 12 12 aj (by decide) rfl rfl (fun K hK=>?_)
  obtain ⟨r0,r1,r2,r3,r4,r5,r6,r7,r8,r9⟩:=aO gQ.out
  have fz:∀ i,w7.frozen? ⟨w.heap.size+1,i,none⟩=false:=fun i=>frozen_of_row w7 _ i _ _ gQ.out
  have hlr:=lt_of_heap gQ.out
  have HF:Hid _:=zB (w:=w) gQ.out (by omega) iN.out _ _ vS.out iF (fun h=>h.elim (fun h=>by have:=(kW.out _ h).1;omega) (fun h=>by omega)) 0 bu.next ⟨aI,J2.out⟩
  go_simp
  refine hK.out _ _ (trivial) (fun hHeld=>?_)
  clear hK K
  refine eP aj ?_
  go_wp2
  obtain ⟨f0,f1,f2,f3,f4,f5,f6,f7,f8,f9⟩:=aO HF.out.1
  refine bodyPost_ret (v:=.agg #[.int .i64 0,.int .i64 bu.next,.slice none 0 0,.int .i64 0,.int .i64 0,.int .i64 0,.slice none 0 0,.slice none 0 0,.int .i64 0,.slice none 0 0]) (by simp [results,Tryz.results92,go_sem,f0,f1,f2,f3,f4,f5,f6,f7,f8,f9]) rfl ⟨_,_,rfl,HF.out.2.2.2,aR.wide HF.out.2.1 eB.out,HF.out.2.2.1,fun k h=>?_⟩
  rcases h with h | h
  ·exact (kW.out k h).2.elim (fun h=>.inl (eB.out k h)) .inr
  ·exact .inr (by omega))
/- What PU and EP of package spec do: all their ways in one contract each. -/
theorem Z4 (ga:Nat) (a:aF) (S:Nat→Prop) (nv:Value) (nm:List Int) (w:World) (hp:aS w S ga a) (hst:∀ w',w.heap.size≤w'.heap.size→bD w w' 5→Bs w' nv nm) (hnl:nm.length≤2000000) (hbl:a.boxes.length≤2000000) :
  Calls Tryz.prog 86 #[.pointer (some ⟨ga,0,none⟩),nv] w (jh w S ga (nE a nm)):=by
 have iL:=hst w (Nat.le_refl _) (bD.refl _ _)
 unfold nE
 by_cases h1:0≤bC (fun x:aA=>decide (x.name=nm)) a.boxes
 ·rw [if_pos h1]
  exact (XR ga a S nv nm w hp iL hbl h1).mono fun e w' h=>jh.same h
 ·rw [if_neg h1]
  by_cases h2:4≤a.boxes.length
  ·rw [if_pos (.inl h2)]
   exact (XU ga a S nv nm w hp iL hbl (by omega) h2).mono fun e w' h=>jh.same h
  ·by_cases h3:1000000≤a.valid
   ·rw [if_pos (.inr h3)]
    exact (XV ga a S nv nm w hp iL hbl (by omega) h2 h3).mono fun e w' h=>jh.same h
   ·rw [if_neg (fun h=>h.elim h2 h3)]
    exact (Y1 ga a S nv nm w hp hst hnl hbl (by omega) h2 h3).mono fun e w' h=>jh.code h
theorem Fp {α:Type} {p:α→Bool} {l:List α} (h:l.findIdx? p=none):bC p l = -1:=by unfold bC;rw [h]
theorem Fq {α:Type} {p:α→Bool} {l:List α} {i:Nat} (h:l.findIdx? p=some i):bC p l=(i:Int)∧∃ x,l[i]?=some x:=by
 obtain ⟨hi,-,-⟩:=List.findIdx?_eq_some_iff_getElem.mp h
 exact ⟨by unfold bC;rw [h],_,aL hi⟩
theorem Z5 (ga k:Nat) (a:aF) (b:aA) (tt:List Int) (S:Nat→Prop) (kd uid mode fl si:Int) (x0 x1 x2:Option Addr) (n0 n1 n2 m0 m1 m2:Nat) (w:World) (hp:aS w S ga a) (hb:a.boxes[k]?=some b) (hto:Bs w (.slice x1 n1 m1) tt) (hsz:∀ x ∈ a.boxes,bT x≤900000) (hbl:a.boxes.length≤2000000) :
  Calls Tryz.prog 92 #[.pointer (some ⟨ga,0,none⟩),.int .i64 k,.agg #[.int .i64 kd,.slice x0 n0 m0,.slice x1 n1 m1,.int .i64 uid,.int .i64 mode,.int .i64 fl,.int .i64 si,.slice x2 n2 m2]] w (jh w S ga (kS a k b tt uid mode)):=by
 have hsb:=hsz b (List.mem_of_getElem? hb)
 have hsx:bT b≤2000000:=by omega
 unfold kS
 cases h1:b.ah.findIdx? (fun m:aC=>decide (m.uid=uid)) with
 | none=>exact (PL ga k a b tt S kd uid mode fl si x0 x1 x2 n0 n1 n2 m0 m1 m2 w hp hb hto hbl hsx (.inl (Fp h1))).mono fun e w' h=>jh.same h
 | some i =>
  obtain ⟨e1,m,hm⟩:=Fq h1
  cases h2:a.boxes.findIdx? (fun x:aA=>decide (x.name=tt)) with
  | none=>exact (PL ga k a b tt S kd uid mode fl si x0 x1 x2 n0 n1 n2 m0 m1 m2 w hp hb hto hbl hsx (.inr ⟨i,e1,Fp h2⟩)).mono fun e w' h=>jh.same h
  | some t =>
   obtain ⟨e2,bt,hbt⟩:=Fq h2
   have hst:=hsz bt (List.mem_of_getElem? hbt)
   have lQ:bT bt≤2000000:=by omega
   have htl:=lF bt.ah
   have agy:=lF b.ah
   have agz:iB bt.ah≤bT bt:=by unfold bT;omega
   have hb':iB b.ah≤bT b:=by unfold bT;omega
   simp only [hm,hbt]
   by_cases hmode:mode=1
   ·by_cases htk:t=k
    ·rw [show (if mode=1∧t=k then (0:Int) else 1)=0 from if_pos ⟨hmode,htk⟩]
     have hbb:bt=b:=by rw [htk,hb] at hbt;exact (Option.some.inj hbt).symm
     cases hr:dh bt 0 with
     | false =>
      rw [if_pos (.inl rfl)]
      exact (BD ga k a b tt S kd uid mode fl si x0 x1 x2 n0 n1 n2 m0 m1 m2 w hp hb hto hbl hsx i t bt e1 e2 hbt lQ (.inr (.inl ⟨hmode,htk,hr⟩))).mono fun e w' h=>jh.same h
     | true =>
      by_cases hq:999999≤b.seq
      ·rw [if_pos (.inr ⟨hmode,hq⟩)]
       exact (BD ga k a b tt S kd uid mode fl si x0 x1 x2 n0 n1 n2 m0 m1 m2 w hp hb hto hbl hsx i t bt e1 e2 hbt lQ (.inr (.inr (.inr (.inl ⟨hmode,htk,hr,hq⟩))))).mono fun e w' h=>jh.same h
      ·rw [if_neg (fun h=>h.elim (fun h=>by cases h) (fun h=>hq h.2)),if_pos hmode]
       have hk:k < a.boxes.length:=(gs1 hb).1
       have hu:(aH a k (aV (aX b) i)).boxes[t]?=some (aV (aX b) i):=by rw [htk];exact List.getElem?_set_self hk
       simp only [hu]
       have hd:(aV (aX b) i).ah.length≤b.ah.length∧(aV (aX b) i).seq=b.seq+1∧(aV (aX b) i).next=b.next:=by
        unfold aV
        rw [show (aX b).ah[i]?=some m from hm]
        exact ⟨by show (b.ah.take i ++ b.ah.drop (i+1)).length≤_;rw [List.length_append,List.length_take,List.length_drop];omega,rfl,rfl⟩
       have hr0:=hr
       rw [hbb] at hr
       simp only [dh,Bool.and_eq_true,decide_eq_true_eq] at hr
       exact (Rf ga k a b tt S kd uid mode fl si x0 x1 x2 n0 n1 n2 m0 m1 m2 w hp hb hto hbl hsx i t bt _ m hm e1 e2 hbt lQ hu (by omega) (by omega) (by omega) hmode (.inl ⟨htk,hr0⟩) hq).mono fun e w' h=>jh.code h
    ·rw [show (if mode=1∧t=k then (0:Int) else 1)=1 from if_neg (fun h=>htk h.2)]
     cases hr:dh bt 1 with
     | false =>
      rw [if_pos (.inl rfl)]
      exact (BD ga k a b tt S kd uid mode fl si x0 x1 x2 n0 n1 n2 m0 m1 m2 w hp hb hto hbl hsx i t bt e1 e2 hbt lQ (.inr (.inr (.inl ⟨hmode,htk,hr⟩)))).mono fun e w' h=>jh.same h
     | true =>
      by_cases hq:999999≤b.seq
      ·rw [if_pos (.inr ⟨hmode,hq⟩)]
       exact (BD ga k a b tt S kd uid mode fl si x0 x1 x2 n0 n1 n2 m0 m1 m2 w hp hb hto hbl hsx i t bt e1 e2 hbt lQ (.inr (.inr (.inr (.inr ⟨hmode,htk,hr,hq⟩))))).mono fun e w' h=>jh.same h
      ·rw [if_neg (fun h=>h.elim (fun h=>by cases h) (fun h=>hq h.2)),if_pos hmode]
       have hu:(aH a k (aV (aX b) i)).boxes[t]?=some bt:=by show (a.boxes.set k _)[t]?=_;rw [List.getElem?_set_ne (Ne.symm htk)];exact hbt
       simp only [hu]
       have hr':=hr
       simp only [dh,Bool.and_eq_true,decide_eq_true_eq] at hr'
       exact (Rf ga k a b tt S kd uid mode fl si x0 x1 x2 n0 n1 n2 m0 m1 m2 w hp hb hto hbl hsx i t bt bt m hm e1 e2 hbt lQ hu (by omega) (by omega) (by omega) hmode (.inr ⟨htk,hr⟩) hq).mono fun e w' h=>jh.code h
   ·rw [show (if mode=1∧t=k then (0:Int) else 1)=1 from if_neg (fun h=>hmode h.1)]
    cases hr:dh bt 1 with
    | false =>
     rw [if_pos (.inl rfl)]
     exact (BD ga k a b tt S kd uid mode fl si x0 x1 x2 n0 n1 n2 m0 m1 m2 w hp hb hto hbl hsx i t bt e1 e2 hbt lQ (.inl ⟨hmode,hr⟩)).mono fun e w' h=>jh.same h
    | true =>
     rw [if_neg (fun h=>h.elim (fun h=>by cases h) (fun h=>hmode h.1)),if_neg hmode]
     simp only [hbt]
     have hr':=hr
     simp only [dh,Bool.and_eq_true,decide_eq_true_eq] at hr'
     exact (Zi ga k a b tt S kd uid mode fl si x0 x1 x2 n0 n1 n2 m0 m1 m2 w hp hb hto hbl hsx i t bt bt m hm e1 e2 hbt lQ hbt (by omega) (by omega) (by omega) hmode hr).mono fun e w' h=>jh.code h
end Go.Proofs.YtmglhdkeidhafaaGreat
