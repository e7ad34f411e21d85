/- The proof's texts, part 31. -/
import Derived.Test.YtfabngnaejjcmaaGreatDoorTt
import Derived.Test.YtfabngnaejjcmaaGreatDoorTu
import Derived.Test.YtfabngnaejjcmaaGreatDoorTs
namespace Go.Proofs.YtfabngnaejjcmaaGreatDoor
open Go.RowKit
set_option linter.unusedVariables false
set_option linter.unusedSimpArgs false
set_option maxHeartbeats 20000000
set_option maxRecDepth 100000
/- What Jz of package spec does where it copies a jC away. -/
theorem WR (ga k:Nat) (a:aT) (b:aB) (tt:List Int) (S:Nat->Prop) (kd uid mode fl si:Int) (x0 x1 x2:Option Addr) (n0 n1 n2 m0 m1 m2:Nat) (w:World) (hp:aJ w S ga a) (hb:a.boxes[k]?=some b) (hto:Bs w (.slice x1 n1 m1) tt) (hbl:a.boxes.length<=2000000) (hsx:bG b<=2000000) (i t:Nat) (bt bu:aB) (m:aL) (hm:b.ah[i]?=some m) (hf:bD (λm:aL=>decide (m.uid=uid)) b.ah=(i:Int)) (hf2:bD (λx:aB=>decide (x.name=tt)) a.boxes=(t:Int)) (hbt:a.boxes[t]?=some bt) (mW:bG bt<=2000000) (hbu:(eY a k (dK (eH b) i)).boxes[t]?=some bu) (hu1:bu.ah.length<=2000000) (hu2:bu.seq < 1000000000) (hu3:bu.next < 1000000000) (hm1:mode=1) (EZ:(t=k/\fJ bt 0=true)\/(t≠k/\fJ bt 1=true)) (xD:¬999999<=b.seq) :
  Calls Tryz.prog 71 #[.pointer (some ⟨ga,0,none⟩),.int .i64 k,.agg #[.int .i64 kd,.slice x0 n0 m0,.slice x1 n1 m1,.int .i64 uid,.int .i64 mode,.int .i64 fl,.int .i64 si,.slice x2 n2 m2]] w λe w'=>∃u S',e=.returned u/\jr w' u (bJ 0 bu.next)/\aI w w' S ga/\aJ w' S' ga (eY (eY a k (dK (eH b) i)) t (qK bu m.flags m.text))/\∀k,S' k->S k\/w.heap.size<=k:=by
 have HM:Hid (mode=1):=hm1;clear hm1;obtain⟨S0,iU⟩:∃S0:Nat->Prop,S0=λk=>S k/\k < w.heap.size:=⟨_,rfl⟩;have eu:Hid (∀k,S0 k->S k):=by subst iU;exact λk h=>h.1
 have HSL:Hid (∀k,S0 k->k < w.heap.size):=by subst iU;exact λk h=>h.2
 have HW:Hid _:=EZ;clear EZ;have HP:Hid (∀w',Below w.heap.size w w'->aJ w' S0 ga a):=by subst iU;exact λw' h=>hp.cut.below h
 clear iU;have nU:Hid (∀w',Below w.heap.size w w'->Bs w' (.slice x1 n1 m1) tt):=λw' h=>hto.below h;have iF:=hp.lt;obtain⟨g,cap,S1,cb,jv,hpb,hS1,-⟩:=hp.at hb;obtain⟨v9,u9,mU,jN,mV,hbq,oI⟩:=hp.cells;have e9:v9=.slice (some ⟨g,0,none⟩) a.boxes.length cap:=Option.some.inj (jN.symm.trans cb);subst e9;have oJ:Hid (∀w',Below w.heap.size w w'->mF w' (.agg #[.int .i64 a.valid,.slice (some ⟨g,0,none⟩) a.boxes.length cap,u9]) a):=λw' h=>oI.below h;have hkl:k < a.boxes.length:=(gs1 hb).1;have bX:g < w.heap.size:=kK hpb.ty
 have hcap:a.boxes.length<=cap:=by obtain⟨_,_,e,h,-⟩:=hbq.v.form;cases e;exact h
 obtain⟨u0,u1,u2,h0,h1,h2,hint,c0,c1,c2,c3,c4,c5,c6⟩:=hpb.cells;obtain⟨a0,q0,z0,rfl⟩:=h0.bs.aP;obtain⟨a1,z1,rfl,-⟩:=h1.v.form;obtain⟨a2,z2,rfl,-⟩:=h2.1.form;have HV:Hid (∀w',Below w.heap.size w w'->bT w' (.agg #[.slice a0 q0 z0,.int .i64 b.valid,.int .i64 b.next,.int .i64 b.seq,.slice a1 b.ah.length z1,.slice a2 b.au.length z2,.int .i64 b.lost]) b):=λw' h=>⟨_,_,_,rfl,h0.bs.below h,h1.v.below kP h,h2.1.below kN h,hint⟩
 obtain⟨HB,dL,aR,kL⟩:=vC w (.cells #[.int .i64 kd,.slice x0 n0 m0,.slice x1 n1 m1,.int .i64 uid,.int .i64 mode,.int .i64 fl,.int .i64 si,.slice x2 n2 m2] 35) (.cells #[.int .i64 0,.int .i64 0,.slice none 0 0,.int .i64 0,.int .i64 0,.int .i64 0,.slice none 0 0,.slice none 0 0,.int .i64 0,.slice none 0 0] 73)
 have HC:Hid (∀W w',Below w.heap.size w W->W.heap[w.heap.size]?=some (.cells #[.int .i64 kd,.slice x0 n0 m0,.slice x1 n1 m1,.int .i64 uid,.int .i64 mode,.int .i64 fl,.int .i64 si,.slice x2 n2 m2] 35 (0,0))->Below W.heap.size W w'->w'.cell? ⟨g,k * 7,none⟩=some (.slice a0 q0 z0)/\w'.cell? ⟨g,k * 7+1,none⟩=some (.int .i64 b.valid)/\w'.cell? ⟨g,k * 7+2,none⟩=some (.int .i64 b.next)/\w'.cell? ⟨g,k * 7+3,none⟩=some (.int .i64 b.seq)/\w'.cell? ⟨g,k * 7+4,none⟩=some (.slice a1 b.ah.length z1)/\w'.cell? ⟨g,k * 7+5,none⟩=some (.slice a2 b.au.length z2)/\w'.cell? ⟨g,k * 7+6,none⟩=some (.int .i64 b.lost)/\w'.cell? ⟨ga,0,none⟩=some (.int .i64 a.valid)/\w'.cell? ⟨ga,1,none⟩=some (.slice (some ⟨g,0,none⟩) a.boxes.length cap)/\w'.cell? ⟨ga,2,none⟩=some (u9)/\w'.cell? ⟨w.heap.size,2,none⟩=some (.slice x1 n1 m1)/\w'.cell? ⟨w.heap.size,3,none⟩=some (.int .i64 uid)/\w'.cell? ⟨w.heap.size,4,none⟩=some (.int .i64 mode)):=by
  intro W w' hb hc hw;have h:=λj=>hb.cell (p:=⟨g,j,none⟩) bX;have h':=λj=>hw.cell (p:=⟨g,j,none⟩) (Nat.lt_of_lt_of_le bX hb.size);have i:=λj=>hb.cell (p:=⟨ga,j,none⟩) iF;have i':=λj=>hw.cell (p:=⟨ga,j,none⟩) (Nat.lt_of_lt_of_le iF hb.size);have hk:=aA hw hc;have hq:=λj=>cell_of_row w' w.heap.size j _ _ (0,0) hk
  exact⟨(h' _).trans ((h _).trans c0),(h' _).trans ((h _).trans c1),(h' _).trans ((h _).trans c2),(h' _).trans ((h _).trans c3),(h' _).trans ((h _).trans c4),(h' _).trans ((h _).trans c5),(h' _).trans ((h _).trans c6),(i' _).trans ((i _).trans mU),(i' _).trans ((i _).trans jN),(i' _).trans ((i _).trans mV),hq 2,hq 3,hq 4⟩
 have hki:(k:Int) < (a.boxes.length:Int):=by omega
 clear h0 h1 h2 hp hpb hbq oI hto c0 c1 c2 c3 c4 c5 c6 mU jN mV cb hint
 go_enter Tryz.func71,Tryz.ntmps71;go_upto_region 1 with fail
 generalize ((w.alloc (.cells #[.int .i64 kd,.slice x0 n0 m0,.slice x1 n1 m1,.int .i64 uid,.int .i64 mode,.int .i64 fl,.int .i64 si,.slice x2 n2 m2] 35)).alloc (.cells #[.int .i64 0,.int .i64 0,.slice none 0 0,.int .i64 0,.int .i64 0,.int .i64 0,.slice none 0 0,.slice none 0 0,.int .i64 0,.slice none 0 0] 73))=W at HB dL aR kL ⊢
 have HS:Hid (∀w',Below W.heap.size W w'->w'.cell? ⟨g,k * 7,none⟩=some (.slice a0 q0 z0)/\w'.cell? ⟨g,k * 7+1,none⟩=some (.int .i64 b.valid)/\w'.cell? ⟨g,k * 7+2,none⟩=some (.int .i64 b.next)/\w'.cell? ⟨g,k * 7+3,none⟩=some (.int .i64 b.seq)/\w'.cell? ⟨g,k * 7+4,none⟩=some (.slice a1 b.ah.length z1)/\w'.cell? ⟨g,k * 7+5,none⟩=some (.slice a2 b.au.length z2)/\w'.cell? ⟨g,k * 7+6,none⟩=some (.int .i64 b.lost)/\w'.cell? ⟨ga,0,none⟩=some (.int .i64 a.valid)/\w'.cell? ⟨ga,1,none⟩=some (.slice (some ⟨g,0,none⟩) a.boxes.length cap)/\w'.cell? ⟨ga,2,none⟩=some (u9)/\w'.cell? ⟨w.heap.size,2,none⟩=some (.slice x1 n1 m1)/\w'.cell? ⟨w.heap.size,3,none⟩=some (.int .i64 uid)/\w'.cell? ⟨w.heap.size,4,none⟩=some (.int .i64 mode)):=λw' h=>HC.out W w' HB.out dL.out h
 obtain⟨-,-,-,-,-,-,-,s0,s1,s2,-⟩:=HS.out W (Below.refl _ _);have hl0:ga < W.heap.size:=by omega
 go_upto_region 2 with fail
 clear s0 s1 s2;have DR:Below W.heap.size W W.drew:=(bd _ _);have hl1:w.heap.size < W.drew.heap.size:=by show _ < W.heap.size;omega
 have hl2:g < W.drew.heap.size:=by show _ < W.heap.size;omega
 have dV:Hid _:=HV.out W.drew (Below.step HB.out DR)
 go_region_held3 (λw'=>w'.cell? ⟨g,k * 7,none⟩=some (.slice a0 q0 z0)/\w'.cell? ⟨g,k * 7+1,none⟩=some (.int .i64 b.valid)/\w'.cell? ⟨g,k * 7+2,none⟩=some (.int .i64 b.next)/\w'.cell? ⟨g,k * 7+3,none⟩=some (.int .i64 b.seq)/\w'.cell? ⟨g,k * 7+4,none⟩=some (.slice a1 b.ah.length z1)/\w'.cell? ⟨g,k * 7+5,none⟩=some (.slice a2 b.au.length z2)/\w'.cell? ⟨g,k * 7+6,none⟩=some (.int .i64 b.lost)/\w'.cell? ⟨ga,0,none⟩=some (.int .i64 a.valid)/\w'.cell? ⟨ga,1,none⟩=some (.slice (some ⟨g,0,none⟩) a.boxes.length cap)/\w'.cell? ⟨ga,2,none⟩=some (u9)/\w'.cell? ⟨w.heap.size,2,none⟩=some (.slice x1 n1 m1)/\w'.cell? ⟨w.heap.size,3,none⟩=some (.int .i64 uid)/\w'.cell? ⟨w.heap.size,4,none⟩=some (.int .i64 mode))
  (first | exact HS.out _ DR | exact HS.out _ (Below.step DR B1) | go_keep)
  ((go_at_call 73;refine(uh _ b uid _ dV.out).mono ?_;rintro e w1 ⟨rfl,B1⟩))
 have HB1:Hid (Below W.heap.size W w1):=Below.step DR B1;have hw1:W.heap.size<=w1.heap.size:=HB1.out.size;clear B1 dV DR hl1 hl2;go_upto_region 3 with fail
 have DR:Below W.heap.size W w1.drew:=HB1.out.drew;have hl1:w.heap.size < w1.drew.heap.size:=by show _ < w1.heap.size;omega
 have hl2:g < w1.drew.heap.size:=by show _ < w1.heap.size;omega
 have hl3:ga < w1.drew.heap.size:=by show _ < w1.heap.size;omega
 have dV:Hid _:=oJ.out w1.drew (Below.step HB.out DR);have nV:Hid _:=nU.out w1.drew (Below.step HB.out DR)
 go_region_held3 (λw'=>w'.cell? ⟨g,k * 7,none⟩=some (.slice a0 q0 z0)/\w'.cell? ⟨g,k * 7+1,none⟩=some (.int .i64 b.valid)/\w'.cell? ⟨g,k * 7+2,none⟩=some (.int .i64 b.next)/\w'.cell? ⟨g,k * 7+3,none⟩=some (.int .i64 b.seq)/\w'.cell? ⟨g,k * 7+4,none⟩=some (.slice a1 b.ah.length z1)/\w'.cell? ⟨g,k * 7+5,none⟩=some (.slice a2 b.au.length z2)/\w'.cell? ⟨g,k * 7+6,none⟩=some (.int .i64 b.lost)/\w'.cell? ⟨ga,0,none⟩=some (.int .i64 a.valid)/\w'.cell? ⟨ga,1,none⟩=some (.slice (some ⟨g,0,none⟩) a.boxes.length cap)/\w'.cell? ⟨ga,2,none⟩=some (u9)/\w'.cell? ⟨w.heap.size,2,none⟩=some (.slice x1 n1 m1)/\w'.cell? ⟨w.heap.size,3,none⟩=some (.int .i64 uid)/\w'.cell? ⟨w.heap.size,4,none⟩=some (.int .i64 mode))
  (first | exact HS.out _ DR | exact HS.out _ (Below.step DR B2) | go_keep)
  ((go_at_call 66;refine(uj _ _ a tt _ dV.out nV.out hbl).mono ?_;rintro e w2 ⟨rfl,B2⟩))
 have HB2:Hid (Below W.heap.size W w2):=Below.step DR B2;have gK:Hid _:=aA HB2.out aR.out;have hw2:W.heap.size<=w2.heap.size:=HB2.out.size;clear B2 dV nV DR hl1 hl2 hl3 HB1 hw1;obtain⟨-,-,-,s3,-,-,-,s7,s8,-,-,-,s12⟩:=HS.out w2 HB2.out;obtain⟨g',cap',S2,cb',-,hpt,-,-⟩:=(HP.out w2 (Below.step HB.out HB2.out)).at hbt;have e9:=Option.some.inj (cb'.symm.trans s8);simp only[Value.slice.injEq,Option.some.injEq,Addr.mk.injEq,and_true,true_and] at e9;obtain⟨rfl,rfl⟩:=e9;obtain⟨y0',y1',y2',g0,g1,g2,xC,t0,t1,t2,t3,t4,t5,t6⟩:=hpt.cells;obtain⟨y0,p0,k0,rfl⟩:=g0.bs.aP;obtain⟨y1,k1,rfl,-⟩:=g1.v.form
 obtain⟨y2,k2,rfl,-⟩:=g2.1.form;have tN:Hid (bT w2 (.agg #[.slice y0 p0 k0,.int .i64 bt.valid,.int .i64 bt.next,.int .i64 bt.seq,.slice y1 bt.ah.length k1,.slice y2 bt.au.length k2,.int .i64 bt.lost]) bt):=⟨_,_,_,rfl,g0.bs,g1.v,g2.1,xC⟩;have htl:t < a.boxes.length:=(gs1 hbt).1;have hti:(t:Int) < (a.boxes.length:Int):=by omega
 have hl1:w.heap.size < w2.heap.size:=by omega
 have hl2:g' < w2.heap.size:=kK hpt.ty;have hl3:ga < w2.heap.size:=by omega
 clear g0 g1 g2 xC hpt cb';have hm1:=HM.out;subst hm1;have hw:=HW.out;clear HW;rcases hw with⟨htk,hroom⟩ | ⟨htk,hroom⟩
 all_goals first | (have Vi:((t:Int) == (k:Int))=false:=by simp;omega) | (have Vi:((t:Int) == (k:Int))=true:=by simp;omega)
 all_goals (
  have JU:Hid _:=htk;clear htk;go_wp2_with fail
  first | (have tt:=(show fJ bt 1=true from hroom);clear tt;refine(Ao _ bt 1 w2 tN.out (by decide) (by decide) (by have:=mG bt.ah;unfold bG at mW;omega)).mono ?_) | refine(Ao _ bt 0 w2 tN.out (by decide) (by decide) (by have:=mG bt.ah;unfold bG at mW;omega)).mono ?_
  rintro e w3 ⟨rfl,B3⟩;have HB3:Hid (Below W.heap.size W w3):=Below.step HB2.out B3;have oK:Hid _:=aA B3 gK.out;have hw3:W.heap.size<=w3.heap.size:=HB3.out.size;have hl4:g' < w3.heap.size:=by have:=B3.size;omega
  clear B3 s3 s7 s8 s12 t0 t1 t2 t3 t4 t5 t6 tN;obtain⟨-,-,-,s3,-⟩:=HS.out w3 HB3.out;rw[hroom];have X3:Below w.heap.size w w3:=Below.step HB.out HB3.out;have lD:Hid (aJ w3 S0 ga a):=HP.out w3 X3;have HT3:Hid (aI w w3 S0 ga):=aI.below X3;obtain⟨gx,cx,Sx,zH,Oo,hpx,Oq,-⟩:=lD.out.at hb;obtain⟨-,-,-,-,-,-,-,-,s8,-⟩:=HS.out w3 HB3.out;have e9:=Option.some.inj (zH.symm.trans s8);simp only[Value.slice.injEq,Option.some.injEq,Addr.mk.injEq,and_true,true_and] at e9;obtain⟨rfl,rfl⟩:=e9;obtain⟨mb,mc,ut,d4,hmc,hlm,f0,f1,f2,f3,hro,j0,j1,j2⟩:=hpx.M0 hm;obtain⟨x9,n9,c9,rfl⟩:=hro.bs.aP
  have FB:Hid (RO w3 Any (.slice x9 n9 c9) m.text):=hro;have HJ:Hid (av m.flags):=j1;have hii:(i:Int) < (b.ah.length:Int):=by have:=(gs1 hm).1;omega
  have aeL:gx < w3.heap.size:=hpx.lt;have Ot:ga < w3.heap.size:=by omega
  have hr3:w.heap.size+1 < w3.heap.size:=by omega
  have FD:Hid (w3.cell? ⟨ga,1,none⟩=some (.slice (some ⟨gx,0,none⟩) a.boxes.length cx)):=zH;clear hpx hro j0 j1 j2 zH Oq Oo X3 hl4 HS dL HC HV aR oJ nU s8;go_upto_region 13 with fail
  have AB:Below w3.heap.size w3 (w3.alloc (.cells #[.int .i64 m.uid,.int .i64 m.flags,.int .i64 m.seq,.slice x9 n9 c9] 77)):=bn _ _;have zI:Hid ((w3.alloc (.cells #[.int .i64 m.uid,.int .i64 m.flags,.int .i64 m.seq,.slice x9 n9 c9] 77)).heap[w3.heap.size]?=some (.cells #[.int .i64 m.uid,.int .i64 m.flags,.int .i64 m.seq,.slice x9 n9 c9] 77 (0,0))):=aW w3 _;have zJ:Hid (aJ (w3.alloc (.cells #[.int .i64 m.uid,.int .i64 m.flags,.int .i64 m.seq,.slice x9 n9 c9] 77)) S0 ga a):=lD.out.below AB
  have zK:Hid (RO (w3.alloc (.cells #[.int .i64 m.uid,.int .i64 m.flags,.int .i64 m.seq,.slice x9 n9 c9] 77)) Any (.slice x9 n9 c9) m.text):=FB.out.below AB;have vE:Hid (aI w (w3.alloc (.cells #[.int .i64 m.uid,.int .i64 m.flags,.int .i64 m.seq,.slice x9 n9 c9] 77)) S0 ga):=HT3.out.trans (aI.below (S:=S0) AB) (λk h=>.inl h);have zL:Hid _:=aA AB oK.out;have iP:Hid ((w3.alloc (.cells #[.int .i64 m.uid,.int .i64 m.flags,.int .i64 m.seq,.slice x9 n9 c9] 77)).cell? ⟨ga,1,none⟩=some (.slice (some ⟨gx,0,none⟩) a.boxes.length cx)):=(AB.cell (p:=⟨ga,1,none⟩) Ot).trans FD.out
  have hw4:(w3.alloc (.cells #[.int .i64 m.uid,.int .i64 m.flags,.int .i64 m.seq,.slice x9 n9 c9] 77)).heap.size=w3.heap.size+1:=by simp
  generalize (w3.alloc (.cells #[.int .i64 m.uid,.int .i64 m.flags,.int .i64 m.seq,.slice x9 n9 c9] 77))=w4 at zI zJ zK vE zL iP hw4 ⊢;clear FD AB lD FB HT3 oK f0 f1 f2 f3 d4 hlm hmc HB3 s3 HB gK HB2;obtain⟨g4,cap4,S4,WS,WT,Cn,WU,hback⟩:=zJ.out.at hb;have Co:Hid _:=hback;have hg4:g4 < w.heap.size:=HSL.out g4 WT;have hz4:=Cn.open;obtain⟨-,-,-,-,-,-,⟨-,-,OY,-⟩,-,-,-,q3,-⟩:=Cn.cells;have qz:=Cn.lt;have hsl:(-9223372036854775808:Int)<=b.seq:=OY.1;have afr:av (b.seq+1):=⟨by have:=OY.1;omega,by omega⟩
  have zM:Hid (aG (w4.setCell ⟨g4,k * 7+3,none⟩ (.int .i64 (b.seq+1))) S4 g4 (k * 7) (eH b)):=Cn.ET (b.seq+1) afr;have oZ:Hid (Turns w4 (w4.setCell ⟨g4,k * 7+3,none⟩ (.int .i64 (b.seq+1))) S4 g4 (k * 7)):=mR Cn (by omega);have Lb:(w4.setCell ⟨g4,k * 7+3,none⟩ (.int .i64 (b.seq+1))).heap.size=w4.heap.size:=dW;have WV:Hid (∀k,S4 k->S0 k):=λk h=>(WU k h).1;have e9:=Option.some.inj (WS.symm.trans iP.out);simp only[Value.slice.injEq,Option.some.injEq,Addr.mk.injEq,and_true,true_and] at e9;obtain⟨rfl,rfl⟩:=e9;clear hback Cn WU WS OY iP;go_upto_region 15 with fail
  clear q3 qz hz4;generalize w4.setCell ⟨g4,k * 7+3,none⟩ (.int .i64 (b.seq+1))=w5 at zM oZ Lb ⊢;have hm5:(eH b).ah[i]?=some m:=hm;go_wp2_with fail
  refine(Wp g4 (k * 7) i (eH b) m S4 w5 zM.out hm5 (by have:=mG b.ah;unfold bG at hsx;show b.ah.length<=2000000;omega) (by unfold bG at hsx;show b.au.length<=2000000;omega)).mono ?_;rintro e w6 ⟨rfl,Cq,Cr⟩;have Ct:Hid (Turns w4 w6 S4 g4 (k * 7)):=Turns.trans oZ.out Cq (λk h=>.inl h);have mX:Hid (aJ w6 (λk=>S0 k\/w4.heap.size<=k) ga (eY a k (dK (eH b) i))):=Co.out w6 _ _ Ct.out Cr (λk h=>h.elim .inl λh=>.inr (by omega));have vF:Hid (aI w w6 S0 ga):=vE.out.trans (aI.box Ct.out WT WV.out) (λk h=>.inl h)
  have OZ:∀k,w.heap.size<=k->k < w4.heap.size->w6.heap[k]?=w4.heap[k]?:=λk h1 h2=>Ct.out.2.1 k h2 (by omega) (λh=>by have:=HSL.out k (WV.out k h);omega);have Ou:Hid (w6.heap[w3.heap.size]?=some (.cells #[.int .i64 m.uid,.int .i64 m.flags,.int .i64 m.seq,.slice x9 n9 c9] 77 (0,0))):=(OZ _ (by omega) (by omega)).trans zI.out;have Av:Hid (w6.heap[w.heap.size+1]?=some (.cells #[.int .i64 0,.int .i64 0,.slice none 0 0,.int .i64 0,.int .i64 0,.int .i64 0,.slice none 0 0,.slice none 0 0,.int .i64 0,.slice none 0 0] 73 (0,0))):=(OZ _ (by omega) (by omega)).trans zL.out
  have Ov:Hid (RO w6 Any (.slice x9 n9 c9) m.text):=lM zK.out Ct.out.2.2.1;have zD:w4.heap.size<=w6.heap.size:=Ct.out.1;have nY:Hid (∀k,(S0 k\/w4.heap.size<=k)->(k < w.heap.size\/w3.heap.size < k)/\(S0 k\/w.heap.size<=k)):=λk h=>h.elim (λh=>⟨.inl (HSL.out k h),.inl h⟩) (λh=>⟨.inr (by omega),.inr (by omega)⟩);clear OZ Ct zJ vE zI zL zK Cq Cr Co zM oZ;go_upto_region 16 with fail
  obtain⟨S6,O0⟩:∃S6:Nat->Prop,S6=λk=>S0 k\/w4.heap.size<=k:=⟨_,rfl⟩;rw[← O0] at mX;replace nY:Hid (∀k,S6 k->(k < w.heap.size\/w3.heap.size < k)/\(S0 k\/w.heap.size<=k)):=by rw[O0];exact nY
  clear O0;have pX:Below w6.heap.size w6 w6.drew:=(bd _ _);have HAD:Hid (aJ w6.drew S6 ga (eY a k (dK (eH b) i))):=mX.out.below pX;obtain⟨gt,ct,St,Ox,FE,hpt,hSt,FH⟩:=HAD.out.at hbu;have Oy:Hid _:=FH;have FI:Hid (aG w6.drew St gt (t * 7) bu):=hpt;have HST:Hid (∀k,St k->S6 k):=λk h=>(hSt k h).1;have aeM:(t:Int) < ((eY a k (dK (eH b) i)).boxes.length:Int):=by have:=(gs1 hbu).1;omega
  have aeN:t < (eY a k (dK (eH b) i)).boxes.length:=(gs1 hbu).1;have aeO:gt < w6.drew.heap.size:=hpt.lt;have aeP:ga < w6.drew.heap.size:=HAD.out.lt;have aeQ:w3.heap.size < w6.drew.heap.size:=by show _ < w6.heap.size;omega
  have Oz:w.heap.size+1 < w6.drew.heap.size:=by show _ < w6.heap.size;omega
  obtain⟨-,n1,-,n3⟩:=Ac (aA pX Ou.out);have hwd:w6.heap.size=w6.drew.heap.size:=rfl;have OA:Hid (∀w',w6.drew.heap.size<=w'.heap.size->aY w6.drew w' 5->Bs w' (.slice x9 n9 c9) m.text):=(Ov.out.below pX).stay;have nV:Hid (aI w w6.drew S0 ga):=vF.out.trans (aI.below (S:=S0) pX) (λk h=>.inl h);have pY:Hid (w6.drew.heap[w.heap.size+1]?=some (.cells #[.int .i64 0,.int .i64 0,.slice none 0 0,.int .i64 0,.int .i64 0,.int .i64 0,.slice none 0 0,.slice none 0 0,.int .i64 0,.slice none 0 0] 73 (0,0))):=aA pX Av.out;have hbn:=FI.out.cells;obtain⟨-,-,-,-,-,-,⟨-,FJ,-,-⟩,-⟩:=hbn
  have OB:Hid (av bu.next):=FJ;clear hpt FH pX FJ hSt;refine jR 10 (S:=λw'=>(w'.cell? ⟨ga,1,none⟩=some (.slice (some ⟨gt,0,none⟩) (eY a k (dK (eH b) i)).boxes.length ct)/\w'.cell? ⟨w3.heap.size,1,none⟩=some (.int .i64 m.flags)/\w'.cell? ⟨w3.heap.size,3,none⟩=some (.slice x9 n9 c9))) (jQ (by kernel_rfl) Wn) (by kernel_rfl) (⟨Ox,n1,n3⟩) (λaj hHeld=>?_);refine tks 0 0 86 aj hHeld ?_;refine tks 1 1 87 aj hHeld ?_;refine tks 2 2 88 aj hHeld ?_;refine tks 3 3 89 aj hHeld ?_;refine tks 4 4 90 aj hHeld ?_;refine tks 5 5 91 aj hHeld ?_;refine tks 6 6 92 aj hHeld ?_;refine tks 7 7 93 aj hHeld ?_
  refine tks 8 8 94 aj hHeld ?_;refine tks 9 9 95 aj hHeld ?_;refine kC (S':=λw'=>True) 10 13 aj (by decide) (trivial) (λhHeld=>?_);refine cls 10 10 aj (by decide) rfl rfl (λK hK=>?_);go_simp;refine(Nb gt (t * 7) bu St m.flags _ m.text _ FI.out HJ.out OA.out (by have:=KP (List.mem_of_getElem? hm);unfold bG at hsx;omega) hu1 hu2 hu3).mono ?_;rintro e w7 ⟨rfl,rF,FK⟩;have xI:Hid (aJ w7 (λk=>S6 k\/w6.drew.heap.size<=k) ga (eY (eY a k (dK (eH b) i)) t (qK bu m.flags m.text))):=Oy.out w7 _ _ rF FK (λk h=>h)
  have Ck:Hid (aI w w7 S0 ga):=nV.out.trans (aI.box rF FE HST.out) (λk h=>(nY.out k h).2);have aeR:=rF.1;have jY:Hid (w7.heap[w.heap.size+1]?=some (.cells #[.int .i64 0,.int .i64 0,.slice none 0 0,.int .i64 0,.int .i64 0,.int .i64 0,.slice none 0 0,.slice none 0 0,.int .i64 0,.slice none 0 0] 73 (0,0))):=(rF.2.1 _ Oz (λe=>by have:=(nY.out gt FE).1;omega) (λh=>by have:=(nY.out _ (HST.out _ h)).1;omega)).trans pY.out;clear rF FK;refine hK.out _ _ (trivial) (λhHeld=>?_);clear hK K;refine tks 11 11 97 aj hHeld ?_;refine cls 12 12 aj (by decide) rfl rfl (λK hK=>?_)
  obtain⟨r0,r1,r2,r3,r4,r5,r6,r7,r8,r9⟩:=bf jY.out;have fz:∀i,w7.frozen? ⟨w.heap.size+1,i,none⟩=false:=λi=>frozen_of_row w7 _ i _ _ jY.out;have hlr:=lt_of_heap jY.out;have HF:Hid _:=Ci (w:=w) jY.out (by omega) Ck.out _ _ xI.out iF (λh=>h.elim (λh=>by have:=(nY.out _ h).1;omega) (λh=>by omega)) 0 bu.next ⟨aK,OB.out⟩;go_simp;refine hK.out _ _ (trivial) (λhHeld=>?_);clear hK K;refine jS aj ?_;go_wp2;obtain⟨f0,f1,f2,f3,f4,f5,f6,f7,f8,f9⟩:=bf HF.out.1
  refine bodyPost_ret (v:=.agg #[.int .i64 0,.int .i64 bu.next,.slice none 0 0,.int .i64 0,.int .i64 0,.int .i64 0,.slice none 0 0,.slice none 0 0,.int .i64 0,.slice none 0 0]) (by simp[results,Tryz.results71,go_sem,f0,f1,f2,f3,f4,f5,f6,f7,f8,f9]) rfl ⟨_,_,rfl,HF.out.2.2.2,aI.wide HF.out.2.1 eu.out,HF.out.2.2.1,λk h=>?_⟩;rcases h with h | h
  ·exact(nY.out k h).2.elim (λh=>.inl (eu.out k h)) .inr
  ·exact .inr (by omega))
/- What Vg and Jz of package spec do: all their ways in one contract each. -/
theorem aft (ga:Nat) (a:aT) (S:Nat->Prop) (nv:Value) (nm:List Int) (w:World) (hp:aJ w S ga a) (hst:∀w',w.heap.size<=w'.heap.size->aY w w' 5->Bs w' nv nm) (hnl:nm.length<=2000000) (hbl:a.boxes.length<=2000000) :
  Calls Tryz.prog 65 #[.pointer (some ⟨ga,0,none⟩),nv] w (jy w S ga (ER a nm)):=by
 have jW:=hst w (Nat.le_refl _) (aY.refl _ _);unfold ER
 by_cases h1:0<=bD (λx:aB=>decide (x.name=nm)) a.boxes
 ·rw[if_pos h1]
  exact(adq ga a S nv nm w hp jW hbl h1).mono λe w' h=>jy.same h
 ·rw[if_neg h1]
  by_cases h2:4<=a.boxes.length
  ·rw[if_pos (.inl h2)]
   exact(adr ga a S nv nm w hp jW hbl (by omega) h2).mono λe w' h=>jy.same h
  ·by_cases h3:1000000<=a.valid
   ·rw[if_pos (.inr h3)]
    exact(ads ga a S nv nm w hp jW hbl (by omega) h2 h3).mono λe w' h=>jy.same h
   ·rw[if_neg (λh=>h.elim h2 h3)]
    exact(aer ga a S nv nm w hp hst hnl hbl (by omega) h2 h3).mono λe w' h=>jy.code h
theorem JV {α:Type} {p:α->Bool} {l:List α} (h:l.findIdx? p=none):bD p l = -1:=by unfold bD;rw[h]
theorem JW {α:Type} {p:α->Bool} {l:List α} {i:Nat} (h:l.findIdx? p=some i):bD p l=(i:Int)/\∃x,l[i]?=some x:=by
 obtain⟨hi,-,-⟩:=List.findIdx?_eq_some_iff_getElem.mp h;exact⟨by unfold bD;rw[h],_,bK hi⟩
theorem afu (ga k:Nat) (a:aT) (b:aB) (tt:List Int) (S:Nat->Prop) (kd uid mode fl si:Int) (x0 x1 x2:Option Addr) (n0 n1 n2 m0 m1 m2:Nat) (w:World) (hp:aJ w S ga a) (hb:a.boxes[k]?=some b) (hto:Bs w (.slice x1 n1 m1) tt) (hsz:∀x ∈ a.boxes,bG x<=900000) (hbl:a.boxes.length<=2000000) :
  Calls Tryz.prog 71 #[.pointer (some ⟨ga,0,none⟩),.int .i64 k,.agg #[.int .i64 kd,.slice x0 n0 m0,.slice x1 n1 m1,.int .i64 uid,.int .i64 mode,.int .i64 fl,.int .i64 si,.slice x2 n2 m2]] w (jy w S ga (Cb a k b tt uid mode)):=by
 have hsb:=hsz b (List.mem_of_getElem? hb);have hsx:bG b<=2000000:=by omega
 unfold Cb;cases h1:b.ah.findIdx? (λm:aL=>decide (m.uid=uid)) with
 | none=>exact(Ve ga k a b tt S kd uid mode fl si x0 x1 x2 n0 n1 n2 m0 m1 m2 w hp hb hto hbl hsx (.inl (JV h1))).mono λe w' h=>jy.same h
 | some i =>
  obtain⟨e1,m,hm⟩:=JW h1;cases h2:a.boxes.findIdx? (λx:aB=>decide (x.name=tt)) with
  | none=>exact(Ve ga k a b tt S kd uid mode fl si x0 x1 x2 n0 n1 n2 m0 m1 m2 w hp hb hto hbl hsx (.inr ⟨i,e1,JV h2⟩)).mono λe w' h=>jy.same h
  | some t =>
   obtain⟨e2,bt,hbt⟩:=JW h2;have hst:=hsz bt (List.mem_of_getElem? hbt);have mW:bG bt<=2000000:=by omega
   have htl:=mG bt.ah;have ak4:=mG b.ah;have ak5:iq bt.ah<=bG bt:=by unfold bG;omega
   have hb':iq b.ah<=bG b:=by unfold bG;omega
   simp only[hm,hbt]
   by_cases hmode:mode=1
   ·by_cases htk:t=k
    ·rw[show(if mode=1/\t=k then (0:Int) else 1)=0 from if_pos ⟨hmode,htk⟩]
     have hbb:bt=b:=by rw[htk,hb] at hbt;exact(Option.some.inj hbt).symm
     cases hr:fJ bt 0 with
     | false =>
      rw[if_pos (.inl rfl)];exact(EY ga k a b tt S kd uid mode fl si x0 x1 x2 n0 n1 n2 m0 m1 m2 w hp hb hto hbl hsx i t bt e1 e2 hbt mW (.inr (.inl ⟨hmode,htk,hr⟩))).mono λe w' h=>jy.same h
     | true =>
      by_cases hq:999999<=b.seq
      ·rw[if_pos (.inr ⟨hmode,hq⟩)]
       exact(EY ga k a b tt S kd uid mode fl si x0 x1 x2 n0 n1 n2 m0 m1 m2 w hp hb hto hbl hsx i t bt e1 e2 hbt mW (.inr (.inr (.inr (.inl ⟨hmode,htk,hr,hq⟩))))).mono λe w' h=>jy.same h
      ·rw[if_neg (λh=>h.elim (λh=>by cases h) (λh=>hq h.2)),if_pos hmode]
       have hk:k < a.boxes.length:=(gs1 hb).1;have hu:(eY a k (dK (eH b) i)).boxes[t]?=some (dK (eH b) i):=by rw[htk];exact List.getElem?_set_self hk
       simp only[hu];have hd:(dK (eH b) i).ah.length<=b.ah.length/\(dK (eH b) i).seq=b.seq+1/\(dK (eH b) i).next=b.next:=by
        unfold dK;rw[show(eH b).ah[i]?=some m from hm];exact⟨by show(b.ah.take i ++ b.ah.drop (i+1)).length<=_;rw[List.length_append,List.length_take,List.length_drop];omega,rfl,rfl⟩
       have hr0:=hr;rw[hbb] at hr;simp only[fJ,Bool.and_eq_true,decide_eq_true_eq] at hr;exact(WR ga k a b tt S kd uid mode fl si x0 x1 x2 n0 n1 n2 m0 m1 m2 w hp hb hto hbl hsx i t bt _ m hm e1 e2 hbt mW hu (by omega) (by omega) (by omega) hmode (.inl ⟨htk,hr0⟩) hq).mono λe w' h=>jy.code h
    ·rw[show(if mode=1/\t=k then (0:Int) else 1)=1 from if_neg (λh=>htk h.2)]
     cases hr:fJ bt 1 with
     | false =>
      rw[if_pos (.inl rfl)];exact(EY ga k a b tt S kd uid mode fl si x0 x1 x2 n0 n1 n2 m0 m1 m2 w hp hb hto hbl hsx i t bt e1 e2 hbt mW (.inr (.inr (.inl ⟨hmode,htk,hr⟩)))).mono λe w' h=>jy.same h
     | true =>
      by_cases hq:999999<=b.seq
      ·rw[if_pos (.inr ⟨hmode,hq⟩)]
       exact(EY ga k a b tt S kd uid mode fl si x0 x1 x2 n0 n1 n2 m0 m1 m2 w hp hb hto hbl hsx i t bt e1 e2 hbt mW (.inr (.inr (.inr (.inr ⟨hmode,htk,hr,hq⟩))))).mono λe w' h=>jy.same h
      ·rw[if_neg (λh=>h.elim (λh=>by cases h) (λh=>hq h.2)),if_pos hmode]
       have hu:(eY a k (dK (eH b) i)).boxes[t]?=some bt:=by show(a.boxes.set k _)[t]?=_;rw[List.getElem?_set_ne (Ne.symm htk)];exact hbt
       simp only[hu];have hr':=hr;simp only[fJ,Bool.and_eq_true,decide_eq_true_eq] at hr';exact(WR ga k a b tt S kd uid mode fl si x0 x1 x2 n0 n1 n2 m0 m1 m2 w hp hb hto hbl hsx i t bt bt m hm e1 e2 hbt mW hu (by omega) (by omega) (by omega) hmode (.inr ⟨htk,hr⟩) hq).mono λe w' h=>jy.code h
   ·rw[show(if mode=1/\t=k then (0:Int) else 1)=1 from if_neg (λh=>hmode h.1)]
    cases hr:fJ bt 1 with
    | false =>
     rw[if_pos (.inl rfl)];exact(EY ga k a b tt S kd uid mode fl si x0 x1 x2 n0 n1 n2 m0 m1 m2 w hp hb hto hbl hsx i t bt e1 e2 hbt mW (.inl ⟨hmode,hr⟩)).mono λe w' h=>jy.same h
    | true =>
     rw[if_neg (λh=>h.elim (λh=>by cases h) (λh=>hmode h.1)),if_neg hmode];simp only[hbt];have hr':=hr;simp only[fJ,Bool.and_eq_true,decide_eq_true_eq] at hr';exact(aeK ga k a b tt S kd uid mode fl si x0 x1 x2 n0 n1 n2 m0 m1 m2 w hp hb hto hbl hsx i t bt bt m hm e1 e2 hbt mW hbt (by omega) (by omega) (by omega) hmode hr).mono λe w' h=>jy.code h
end Go.Proofs.YtfabngnaejjcmaaGreatDoor
