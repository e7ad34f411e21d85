/- The proof's texts, part 34. -/
import Derived.Test.YtlneebmlhblleaaGreatTw
import Derived.Test.YtlneebmlhblleaaGreatTx
import Derived.Test.YtlneebmlhblleaaGreatTv
namespace Go.Proofs.YtlneebmlhblleaaGreat
open Go.RowKit
set_option linter.unusedVariables false
set_option linter.unusedSimpArgs false
set_option maxHeartbeats 20000000
set_option maxRecDepth 100000
/- What Ii of package spec does where it copies a fQ away. -/
theorem VI (ga k:Nat) (a:aJ) (b:aD) (tt:List Int) (S:Nat→Prop) (kd uid mode fl si:Int) (x0 x1 x2:Option Addr) (n0 n1 n2 m0 m1 m2:Nat) (w:World) (hp:aU w S ga a) (hb:a.boxes[k]?=some b) (hto:Bs w (.slice x1 n1 m1) tt) (hbl:a.boxes.length≤2000000) (hsx:bA b≤2000000) (i t:Nat) (bt bu:aD) (m:aF) (hm:b.ah[i]?=some m) (hf:bB (fun m:aF=>decide (m.uid=uid)) b.ah=(i:Int)) (hf2:bB (fun x:aD=>decide (x.name=tt)) a.boxes=(t:Int)) (hbt:a.boxes[t]?=some bt) (mI:bA bt≤2000000) (hbu:(aL a k (bG (bH b) i)).boxes[t]?=some bu) (hu1:bu.ah.length≤2000000) (hu2:bu.seq < 1000000000) (hu3:bu.next < 1000000000) (hm1:mode=1) (Ej:(t=k∧dx bt 0=true)∨(t≠k∧dx bt 1=true)) (wN:¬ 999999≤b.seq) :
  Calls Tryz.prog 60 #[.pointer (some ⟨ga,0,none⟩),.int .i64 k,.agg #[.int .i64 kd,.slice x0 n0 m0,.slice x1 n1 m1,.int .i64 uid,.int .i64 mode,.int .i64 fl,.int .i64 si,.slice x2 n2 m2]] w fun e w'=>∃ u S',e=.returned u∧jk w' u (aQ 0 bu.next)∧aT w w' S ga∧aU w' S' ga (aL (aL a k (bG (bH b) i)) t (jR bu m.flags m.text))∧∀ k,S' k→S k∨w.heap.size≤k:=by
 have HM:Hid (mode=1):=hm1
 clear hm1
 obtain ⟨S0,iL⟩:∃ S0:Nat→Prop,S0=fun k=>S k∧k < w.heap.size:=⟨_,rfl⟩
 have dU:Hid (∀ k,S0 k→S k):=by subst iL;exact fun k h=>h.1
 have HSL:Hid (∀ k,S0 k→k < w.heap.size):=by subst iL;exact fun k h=>h.2
 have HW:Hid _:=Ej
 clear Ej
 have HP:Hid (∀ w',Below w.heap.size w w'→aU w' S0 ga a):=by subst iL;exact fun w' h=>hp.cut.below h
 clear iL
 have kE:Hid (∀ w',Below w.heap.size w w'→Bs w' (.slice x1 n1 m1) tt):=fun w' h=>hto.below h
 have gY:=hp.lt
 obtain ⟨g,cap,S1,cb,iW,hpb,hS1,-⟩:=hp.at hb
 obtain ⟨v9,u9,mG,jM,mH,hbq,oC⟩:=hp.cells
 have e9:v9=.slice (some ⟨g,0,none⟩) a.boxes.length cap:=Option.some.inj (jM.symm.trans cb)
 subst e9
 have iZ:Hid (∀ w',Below w.heap.size w w'→dM w' (.agg #[.int .i64 a.valid,.slice (some ⟨g,0,none⟩) a.boxes.length cap,u9]) a):=fun w' h=>oC.below h
 have hkl:k < a.boxes.length:=(gs1 hb).1
 have bM:g < w.heap.size:=mq hpb.ty
 have hcap:a.boxes.length≤cap:=by obtain ⟨_,_,e,h,-⟩:=hbq.v.form;cases e;exact h
 obtain ⟨u0,u1,u2,h0,h1,h2,hint,c0,c1,c2,c3,c4,c5,c6⟩:=hpb.cells
 obtain ⟨a0,q0,z0,rfl⟩:=h0.bs.aG
 obtain ⟨a1,z1,rfl,-⟩:=h1.v.form
 obtain ⟨a2,z2,rfl,-⟩:=h2.1.form
 have HV:Hid (∀ w',Below w.heap.size w w'→bK w' (.agg #[.slice a0 q0 z0,.int .i64 b.valid,.int .i64 b.next,.int .i64 b.seq,.slice a1 b.ah.length z1,.slice a2 b.au.length z2,.int .i64 b.lost]) b):=fun w' h=>⟨_,_,_,rfl,h0.bs.below h,h1.v.below eU h,h2.1.below dY h,hint⟩
 obtain ⟨HB,bC,aO,jm⟩:=uP w (.cells #[.int .i64 kd,.slice x0 n0 m0,.slice x1 n1 m1,.int .i64 uid,.int .i64 mode,.int .i64 fl,.int .i64 si,.slice x2 n2 m2] 44) (.cells #[.int .i64 0,.int .i64 0,.slice none 0 0,.int .i64 0,.int .i64 0,.int .i64 0,.slice none 0 0,.slice none 0 0,.int .i64 0,.slice none 0 0] 40)
 have HC:Hid (∀ W w',Below w.heap.size w W→W.heap[w.heap.size]?=some (.cells #[.int .i64 kd,.slice x0 n0 m0,.slice x1 n1 m1,.int .i64 uid,.int .i64 mode,.int .i64 fl,.int .i64 si,.slice x2 n2 m2] 44 (0,0))→Below W.heap.size W w'→w'.cell? ⟨g,k * 7,none⟩=some (.slice a0 q0 z0)∧w'.cell? ⟨g,k * 7+1,none⟩=some (.int .i64 b.valid)∧w'.cell? ⟨g,k * 7+2,none⟩=some (.int .i64 b.next)∧w'.cell? ⟨g,k * 7+3,none⟩=some (.int .i64 b.seq)∧w'.cell? ⟨g,k * 7+4,none⟩=some (.slice a1 b.ah.length z1)∧w'.cell? ⟨g,k * 7+5,none⟩=some (.slice a2 b.au.length z2)∧w'.cell? ⟨g,k * 7+6,none⟩=some (.int .i64 b.lost)∧w'.cell? ⟨ga,0,none⟩=some (.int .i64 a.valid)∧w'.cell? ⟨ga,1,none⟩=some (.slice (some ⟨g,0,none⟩) a.boxes.length cap)∧w'.cell? ⟨ga,2,none⟩=some (u9)∧w'.cell? ⟨w.heap.size,2,none⟩=some (.slice x1 n1 m1)∧w'.cell? ⟨w.heap.size,3,none⟩=some (.int .i64 uid)∧w'.cell? ⟨w.heap.size,4,none⟩=some (.int .i64 mode)):=by
  intro W w' hb hc hw
  have h:=fun j=>hb.cell (p:=⟨g,j,none⟩) bM
  have h':=fun j=>hw.cell (p:=⟨g,j,none⟩) (Nat.lt_of_lt_of_le bM hb.size)
  have i:=fun j=>hb.cell (p:=⟨ga,j,none⟩) gY
  have i':=fun j=>hw.cell (p:=⟨ga,j,none⟩) (Nat.lt_of_lt_of_le gY hb.size)
  have hk:=ay hw hc
  have hq:=fun j=>cell_of_row w' w.heap.size j _ _ (0,0) hk
  exact ⟨(h' _).trans ((h _).trans c0),(h' _).trans ((h _).trans c1),(h' _).trans ((h _).trans c2),(h' _).trans ((h _).trans c3),(h' _).trans ((h _).trans c4),(h' _).trans ((h _).trans c5),(h' _).trans ((h _).trans c6),(i' _).trans ((i _).trans mG),(i' _).trans ((i _).trans jM),(i' _).trans ((i _).trans mH),hq 2,hq 3,hq 4⟩
 have hki:(k:Int) < (a.boxes.length:Int):=by omega
 clear h0 h1 h2 hp hpb hbq oC hto c0 c1 c2 c3 c4 c5 c6 mG jM mH cb hint
 go_enter Tryz.func60,Tryz.ntmps60
 go_upto_region 1 with fail
 generalize ((w.alloc (.cells #[.int .i64 kd,.slice x0 n0 m0,.slice x1 n1 m1,.int .i64 uid,.int .i64 mode,.int .i64 fl,.int .i64 si,.slice x2 n2 m2] 44)).alloc (.cells #[.int .i64 0,.int .i64 0,.slice none 0 0,.int .i64 0,.int .i64 0,.int .i64 0,.slice none 0 0,.slice none 0 0,.int .i64 0,.slice none 0 0] 40))=W at HB bC aO jm ⊢
 have HS:Hid (∀ w',Below W.heap.size W w'→w'.cell? ⟨g,k * 7,none⟩=some (.slice a0 q0 z0)∧w'.cell? ⟨g,k * 7+1,none⟩=some (.int .i64 b.valid)∧w'.cell? ⟨g,k * 7+2,none⟩=some (.int .i64 b.next)∧w'.cell? ⟨g,k * 7+3,none⟩=some (.int .i64 b.seq)∧w'.cell? ⟨g,k * 7+4,none⟩=some (.slice a1 b.ah.length z1)∧w'.cell? ⟨g,k * 7+5,none⟩=some (.slice a2 b.au.length z2)∧w'.cell? ⟨g,k * 7+6,none⟩=some (.int .i64 b.lost)∧w'.cell? ⟨ga,0,none⟩=some (.int .i64 a.valid)∧w'.cell? ⟨ga,1,none⟩=some (.slice (some ⟨g,0,none⟩) a.boxes.length cap)∧w'.cell? ⟨ga,2,none⟩=some (u9)∧w'.cell? ⟨w.heap.size,2,none⟩=some (.slice x1 n1 m1)∧w'.cell? ⟨w.heap.size,3,none⟩=some (.int .i64 uid)∧w'.cell? ⟨w.heap.size,4,none⟩=some (.int .i64 mode)):=fun w' h=>HC.out W w' HB.out bC.out h
 obtain ⟨-,-,-,-,-,-,-,s0,s1,s2,-⟩:=HS.out W (Below.refl _ _)
 have hl0:ga < W.heap.size:=by omega
 go_upto_region 2 with fail
 clear s0 s1 s2
 have DR:Below W.heap.size W W.drew:=bd _ _
 have hl1:w.heap.size < W.drew.heap.size:=by show _ < W.heap.size;omega
 have hl2:g < W.drew.heap.size:=by show _ < W.heap.size;omega
 have dR:Hid _:=HV.out W.drew (Below.step HB.out DR)
 go_region_held3 (fun w'=>w'.cell? ⟨g,k * 7,none⟩=some (.slice a0 q0 z0)∧w'.cell? ⟨g,k * 7+1,none⟩=some (.int .i64 b.valid)∧w'.cell? ⟨g,k * 7+2,none⟩=some (.int .i64 b.next)∧w'.cell? ⟨g,k * 7+3,none⟩=some (.int .i64 b.seq)∧w'.cell? ⟨g,k * 7+4,none⟩=some (.slice a1 b.ah.length z1)∧w'.cell? ⟨g,k * 7+5,none⟩=some (.slice a2 b.au.length z2)∧w'.cell? ⟨g,k * 7+6,none⟩=some (.int .i64 b.lost)∧w'.cell? ⟨ga,0,none⟩=some (.int .i64 a.valid)∧w'.cell? ⟨ga,1,none⟩=some (.slice (some ⟨g,0,none⟩) a.boxes.length cap)∧w'.cell? ⟨ga,2,none⟩=some (u9)∧w'.cell? ⟨w.heap.size,2,none⟩=some (.slice x1 n1 m1)∧w'.cell? ⟨w.heap.size,3,none⟩=some (.int .i64 uid)∧w'.cell? ⟨w.heap.size,4,none⟩=some (.int .i64 mode))
  (first | exact HS.out _ DR | exact HS.out _ (Below.step DR B1) | go_keep)
  ((go_at_call 62;refine (sI _ b uid _ dR.out).mono ?_;rintro e w1 ⟨rfl,B1⟩))
 have HB1:Hid (Below W.heap.size W w1):=Below.step DR B1
 have hw1:W.heap.size≤w1.heap.size:=HB1.out.size
 clear B1 dR DR hl1 hl2
 go_upto_region 3 with fail
 have DR:Below W.heap.size W w1.drew:=HB1.out.drew
 have hl1:w.heap.size < w1.drew.heap.size:=by show _ < w1.heap.size;omega
 have hl2:g < w1.drew.heap.size:=by show _ < w1.heap.size;omega
 have hl3:ga < w1.drew.heap.size:=by show _ < w1.heap.size;omega
 have dR:Hid _:=iZ.out w1.drew (Below.step HB.out DR)
 have nN:Hid _:=kE.out w1.drew (Below.step HB.out DR)
 go_region_held3 (fun w'=>w'.cell? ⟨g,k * 7,none⟩=some (.slice a0 q0 z0)∧w'.cell? ⟨g,k * 7+1,none⟩=some (.int .i64 b.valid)∧w'.cell? ⟨g,k * 7+2,none⟩=some (.int .i64 b.next)∧w'.cell? ⟨g,k * 7+3,none⟩=some (.int .i64 b.seq)∧w'.cell? ⟨g,k * 7+4,none⟩=some (.slice a1 b.ah.length z1)∧w'.cell? ⟨g,k * 7+5,none⟩=some (.slice a2 b.au.length z2)∧w'.cell? ⟨g,k * 7+6,none⟩=some (.int .i64 b.lost)∧w'.cell? ⟨ga,0,none⟩=some (.int .i64 a.valid)∧w'.cell? ⟨ga,1,none⟩=some (.slice (some ⟨g,0,none⟩) a.boxes.length cap)∧w'.cell? ⟨ga,2,none⟩=some (u9)∧w'.cell? ⟨w.heap.size,2,none⟩=some (.slice x1 n1 m1)∧w'.cell? ⟨w.heap.size,3,none⟩=some (.int .i64 uid)∧w'.cell? ⟨w.heap.size,4,none⟩=some (.int .i64 mode))
  (first | exact HS.out _ DR | exact HS.out _ (Below.step DR B2) | go_keep)
  ((go_at_call 55;refine (uM _ _ a tt _ dR.out nN.out hbl).mono ?_;rintro e w2 ⟨rfl,B2⟩))
 have HB2:Hid (Below W.heap.size W w2):=Below.step DR B2
 have bV:Hid _:=ay HB2.out aO.out
 have hw2:W.heap.size≤w2.heap.size:=HB2.out.size
 clear B2 dR nN DR hl1 hl2 hl3 HB1 hw1
 obtain ⟨-,-,-,s3,-,-,-,s7,s8,-,-,-,s12⟩:=HS.out w2 HB2.out
 obtain ⟨g',cap',S2,cb',-,hpt,-,-⟩:=(HP.out w2 (Below.step HB.out HB2.out)).at hbt
 have e9:=Option.some.inj (cb'.symm.trans s8)
 simp only [Value.slice.injEq,Option.some.injEq,Addr.mk.injEq,and_true,true_and] at e9
 obtain ⟨rfl,rfl⟩:=e9
 obtain ⟨y0',y1',y2',g0,g1,g2,xH,t0,t1,t2,t3,t4,t5,t6⟩:=hpt.cells
 obtain ⟨y0,p0,k0,rfl⟩:=g0.bs.aG
 obtain ⟨y1,k1,rfl,-⟩:=g1.v.form
 obtain ⟨y2,k2,rfl,-⟩:=g2.1.form
 have uj:Hid (bK w2 (.agg #[.slice y0 p0 k0,.int .i64 bt.valid,.int .i64 bt.next,.int .i64 bt.seq,.slice y1 bt.ah.length k1,.slice y2 bt.au.length k2,.int .i64 bt.lost]) bt):=⟨_,_,_,rfl,g0.bs,g1.v,g2.1,xH⟩
 have htl:t < a.boxes.length:=(gs1 hbt).1
 have hti:(t:Int) < (a.boxes.length:Int):=by omega
 have hl1:w.heap.size < w2.heap.size:=by omega
 have hl2:g' < w2.heap.size:=mq hpt.ty
 have hl3:ga < w2.heap.size:=by omega
 clear g0 g1 g2 xH hpt cb'
 have hm1:=HM.out
 subst hm1
 have hw:=HW.out
 clear HW
 rcases hw with ⟨htk,hroom⟩ | ⟨htk,hroom⟩
 all_goals first | (have Vh:((t:Int) == (k:Int))=false:=by simp;omega) | (have Vh:((t:Int) == (k:Int))=true:=by simp;omega)
 all_goals (
  have HTK:Hid _:=htk
  clear htk
  go_wp2_with fail
  first | (have tt:=(show dx bt 1=true from hroom);clear tt;refine (zX _ bt 1 w2 uj.out (by decide) (by decide) (by have:=jZ bt.ah;unfold bA at mI;omega)).mono ?_) | refine (zX _ bt 0 w2 uj.out (by decide) (by decide) (by have:=jZ bt.ah;unfold bA at mI;omega)).mono ?_
  rintro e w3 ⟨rfl,B3⟩
  have HB3:Hid (Below W.heap.size W w3):=Below.step HB2.out B3
  have bX:Hid _:=ay B3 bV.out
  have hw3:W.heap.size≤w3.heap.size:=HB3.out.size
  have hl4:g' < w3.heap.size:=by have:=B3.size;omega
  clear B3 s3 s7 s8 s12 t0 t1 t2 t3 t4 t5 t6 uj
  obtain ⟨-,-,-,s3,-⟩:=HS.out w3 HB3.out
  rw [hroom]
  have X3:Below w.heap.size w w3:=Below.step HB.out HB3.out
  have fH:Hid (aU w3 S0 ga a):=HP.out w3 X3
  have HT3:Hid (aT w w3 S0 ga):=aT.below X3
  obtain ⟨gx,cx,Sx,zw,Nb,hpx,Cy,-⟩:=fH.out.at hb
  obtain ⟨-,-,-,-,-,-,-,-,s8,-⟩:=HS.out w3 HB3.out
  have e9:=Option.some.inj (zw.symm.trans s8)
  simp only [Value.slice.injEq,Option.some.injEq,Addr.mk.injEq,and_true,true_and] at e9
  obtain ⟨rfl,rfl⟩:=e9
  obtain ⟨mb,mc,ut,d4,hmc,hlm,f0,f1,f2,f3,hro,j0,j1,j2⟩:=hpx.J5 hm
  obtain ⟨x9,n9,c9,rfl⟩:=hro.bs.aG
  have ko:Hid (RO w3 Any (.slice x9 n9 c9) m.text):=hro
  have HJ:Hid (aB m.flags):=j1
  have hii:(i:Int) < (b.ah.length:Int):=by have:=(gs1 hm).1;omega
  have ael:gx < w3.heap.size:=hpx.lt
  have Nc:ga < w3.heap.size:=by omega
  have hr3:w.heap.size+1 < w3.heap.size:=by omega
  have wX:Hid (w3.cell? ⟨ga,1,none⟩=some (.slice (some ⟨gx,0,none⟩) a.boxes.length cx)):=zw
  clear hpx hro j0 j1 j2 zw Cy Nb X3 hl4 HS bC HC HV aO iZ kE s8
  go_upto_region 13 with fail
  have AB:Below w3.heap.size w3 (w3.alloc (.cells #[.int .i64 m.uid,.int .i64 m.flags,.int .i64 m.seq,.slice x9 n9 c9] 124)):=bn _ _
  have jH:Hid ((w3.alloc (.cells #[.int .i64 m.uid,.int .i64 m.flags,.int .i64 m.seq,.slice x9 n9 c9] 124)).heap[w3.heap.size]?=some (.cells #[.int .i64 m.uid,.int .i64 m.flags,.int .i64 m.seq,.slice x9 n9 c9] 124 (0,0))):=aV w3 _
  have gN:Hid (aU (w3.alloc (.cells #[.int .i64 m.uid,.int .i64 m.flags,.int .i64 m.seq,.slice x9 n9 c9] 124)) S0 ga a):=fH.out.below AB
  have zA:Hid (RO (w3.alloc (.cells #[.int .i64 m.uid,.int .i64 m.flags,.int .i64 m.seq,.slice x9 n9 c9] 124)) Any (.slice x9 n9 c9) m.text):=ko.out.below AB
  have fV:Hid (aT w (w3.alloc (.cells #[.int .i64 m.uid,.int .i64 m.flags,.int .i64 m.seq,.slice x9 n9 c9] 124)) S0 ga):=HT3.out.trans (aT.below (S:=S0) AB) (fun k h=>.inl h)
  have dW:Hid _:=ay AB bX.out
  have tF:Hid ((w3.alloc (.cells #[.int .i64 m.uid,.int .i64 m.flags,.int .i64 m.seq,.slice x9 n9 c9] 124)).cell? ⟨ga,1,none⟩=some (.slice (some ⟨gx,0,none⟩) a.boxes.length cx)):=(AB.cell (p:=⟨ga,1,none⟩) Nc).trans wX.out
  have hw4:(w3.alloc (.cells #[.int .i64 m.uid,.int .i64 m.flags,.int .i64 m.seq,.slice x9 n9 c9] 124)).heap.size=w3.heap.size+1:=by simp
  generalize (w3.alloc (.cells #[.int .i64 m.uid,.int .i64 m.flags,.int .i64 m.seq,.slice x9 n9 c9] 124))=w4 at jH gN zA fV dW tF hw4 ⊢
  clear wX AB fH ko HT3 bX f0 f1 f2 f3 d4 hlm hmc HB3 s3 HB bV HB2
  obtain ⟨g4,cap4,S4,VJ,VK,AL,Aa,hback⟩:=gN.out.at hb
  have AO:Hid _:=hback
  have hg4:g4 < w.heap.size:=HSL.out g4 VK
  have qE:=AL.open
  obtain ⟨-,-,-,-,-,-,⟨-,-,ND,-⟩,-,-,-,q3,-⟩:=AL.cells
  have qz:=AL.lt
  have hsl:(-9223372036854775808:Int)≤b.seq:=ND.1
  have aeZ:aB (b.seq+1):=⟨by have:=ND.1;omega,by omega⟩
  have rP:Hid (aN (w4.setCell ⟨g4,k * 7+3,none⟩ (.int .i64 (b.seq+1))) S4 g4 (k * 7) (bH b)):=AL.uN (b.seq+1) aeZ
  have qm:Hid (Turns w4 (w4.setCell ⟨g4,k * 7+3,none⟩ (.int .i64 (b.seq+1))) S4 g4 (k * 7)):=sN AL (by omega)
  have FW:(w4.setCell ⟨g4,k * 7+3,none⟩ (.int .i64 (b.seq+1))).heap.size=w4.heap.size:=aZ
  have rE:Hid (∀ k,S4 k→S0 k):=fun k h=>(Aa k h).1
  have e9:=Option.some.inj (VJ.symm.trans tF.out)
  simp only [Value.slice.injEq,Option.some.injEq,Addr.mk.injEq,and_true,true_and] at e9
  obtain ⟨rfl,rfl⟩:=e9
  clear hback AL Aa VJ ND tF
  go_upto_region 15 with fail
  clear q3 qz qE
  generalize w4.setCell ⟨g4,k * 7+3,none⟩ (.int .i64 (b.seq+1))=w5 at rP qm FW ⊢
  have hm5:(bH b).ah[i]?=some m:=hm
  go_wp2_with fail
  refine (Vk g4 (k * 7) i (bH b) m S4 w5 rP.out hm5 (by have:=jZ b.ah;unfold bA at hsx;show b.ah.length≤2000000;omega) (by unfold bA at hsx;show b.au.length≤2000000;omega)).mono ?_
  rintro e w6 ⟨rfl,rF,rQ⟩
  have uS:Hid (Turns w4 w6 S4 g4 (k * 7)):=Turns.trans qm.out rF (fun k h=>.inl h)
  have gD:Hid (aU w6 (fun k=>S0 k∨w4.heap.size≤k) ga (aL a k (bG (bH b) i))):=AO.out w6 _ _ uS.out rQ (fun k h=>h.elim .inl fun h=>.inr (by omega))
  have lS:Hid (aT w w6 S0 ga):=fV.out.trans (aT.box uS.out VK rE.out) (fun k h=>.inl h)
  have NG:∀ k,w.heap.size≤k→k < w4.heap.size→w6.heap[k]?=w4.heap[k]?:=fun k h1 h2=>uS.out.2.1 k h2 (by omega) (fun h=>by have:=HSL.out k (rE.out k h);omega)
  have ru:Hid (w6.heap[w3.heap.size]?=some (.cells #[.int .i64 m.uid,.int .i64 m.flags,.int .i64 m.seq,.slice x9 n9 c9] 124 (0,0))):=(NG _ (by omega) (by omega)).trans jH.out
  have iQ:Hid (w6.heap[w.heap.size+1]?=some (.cells #[.int .i64 0,.int .i64 0,.slice none 0 0,.int .i64 0,.int .i64 0,.int .i64 0,.slice none 0 0,.slice none 0 0,.int .i64 0,.slice none 0 0] 40 (0,0))):=(NG _ (by omega) (by omega)).trans dW.out
  have Nf:Hid (RO w6 Any (.slice x9 n9 c9) m.text):=mR zA.out uS.out.2.2.1
  have zm:w4.heap.size≤w6.heap.size:=uS.out.1
  have nI:Hid (∀ k,(S0 k∨w4.heap.size≤k)→(k < w.heap.size∨w3.heap.size < k)∧(S0 k∨w.heap.size≤k)):=fun k h=>h.elim (fun h=>⟨.inl (HSL.out k h),.inl h⟩) (fun h=>⟨.inr (by omega),.inr (by omega)⟩)
  clear NG uS gN fV jH dW zA rF rQ AO rP qm
  go_upto_region 16 with fail
  obtain ⟨S6,NH⟩:∃ S6:Nat→Prop,S6=fun k=>S0 k∨w4.heap.size≤k:=⟨_,rfl⟩
  rw [← NH] at gD
  replace nI:Hid (∀ k,S6 k→(k < w.heap.size∨w3.heap.size < k)∧(S0 k∨w.heap.size≤k)):=by rw [NH];exact nI
  clear NH
  have kW:Below w6.heap.size w6 w6.drew:=bd _ _
  have HAD:Hid (aU w6.drew S6 ga (aL a k (bG (bH b) i))):=gD.out.below kW
  obtain ⟨gt,ct,St,Ng,El,hpt,hSt,Em⟩:=HAD.out.at hbu
  have yM:Hid _:=Em
  have En:Hid (aN w6.drew St gt (t * 7) bu):=hpt
  have HST:Hid (∀ k,St k→S6 k):=fun k h=>(hSt k h).1
  have aem:(t:Int) < ((aL a k (bG (bH b) i)).boxes.length:Int):=by have:=(gs1 hbu).1;omega
  have aen:t < (aL a k (bG (bH b) i)).boxes.length:=(gs1 hbu).1
  have aeo:gt < w6.drew.heap.size:=hpt.lt
  have aep:ga < w6.drew.heap.size:=HAD.out.lt
  have aer:w3.heap.size < w6.drew.heap.size:=by show _ < w6.heap.size;omega
  have Nh:w.heap.size+1 < w6.drew.heap.size:=by show _ < w6.heap.size;omega
  obtain ⟨-,n1,-,n3⟩:=gF (ay kW ru.out)
  have hwd:w6.heap.size=w6.drew.heap.size:=rfl
  have Ni:Hid (∀ w',w6.drew.heap.size≤w'.heap.size→bT w6.drew w' 5→Bs w' (.slice x9 n9 c9) m.text):=(Nf.out.below kW).stay
  have nN:Hid (aT w w6.drew S0 ga):=lS.out.trans (aT.below (S:=S0) kW) (fun k h=>.inl h)
  have iX:Hid (w6.drew.heap[w.heap.size+1]?=some (.cells #[.int .i64 0,.int .i64 0,.slice none 0 0,.int .i64 0,.int .i64 0,.int .i64 0,.slice none 0 0,.slice none 0 0,.int .i64 0,.slice none 0 0] 40 (0,0))):=ay kW iQ.out
  have hbn:=En.out.cells
  obtain ⟨-,-,-,-,-,-,⟨-,Eo,-,-⟩,-⟩:=hbn
  have Nj:Hid (aB bu.next):=Eo
  clear hpt Em kW Eo hSt
  refine eF 10 (S:=fun w'=>(w'.cell? ⟨ga,1,none⟩=some (.slice (some ⟨gt,0,none⟩) (aL a k (bG (bH b) i)).boxes.length ct)∧w'.cell? ⟨w3.heap.size,1,none⟩=some (.int .i64 m.flags)∧w'.cell? ⟨w3.heap.size,3,none⟩=some (.slice x9 n9 c9))) (eB (by kernel_rfl) Vi) (by kernel_rfl) (⟨Ng,n1,n3⟩) (fun aj hHeld=>?_)
  refine tks 0 0 86 aj hHeld ?_
  refine tks 1 1 87 aj hHeld ?_
  refine tks 2 2 88 aj hHeld ?_
  refine tks 3 3 89 aj hHeld ?_
  refine tks 4 4 90 aj hHeld ?_
  refine tks 5 5 91 aj hHeld ?_
  refine tks 6 6 92 aj hHeld ?_
  refine tks 7 7 93 aj hHeld ?_
  refine tks 8 8 94 aj hHeld ?_
  refine tks 9 9 95 aj hHeld ?_
  refine gL (S':=fun w'=>True) 10 13 aj (by decide) (trivial) (fun hHeld=>?_)
  refine cls 10 10 aj (by decide) rfl rfl (fun K hK=>?_)
  go_simp
  refine (Mc gt (t * 7) bu St m.flags _ m.text _ En.out HJ.out Ni.out (by have:=zI (List.mem_of_getElem? hm);unfold bA at hsx;omega) hu1 hu2 hu3).mono ?_
  rintro e w7 ⟨rfl,jI,Ep⟩
  have rO:Hid (aU w7 (fun k=>S6 k∨w6.drew.heap.size≤k) ga (aL (aL a k (bG (bH b) i)) t (jR bu m.flags m.text))):=yM.out w7 _ _ jI Ep (fun k h=>h)
  have iF:Hid (aT w w7 S0 ga):=nN.out.trans (aT.box jI El HST.out) (fun k h=>(nI.out k h).2)
  have aes:=jI.1
  have fq:Hid (w7.heap[w.heap.size+1]?=some (.cells #[.int .i64 0,.int .i64 0,.slice none 0 0,.int .i64 0,.int .i64 0,.int .i64 0,.slice none 0 0,.slice none 0 0,.int .i64 0,.slice none 0 0] 40 (0,0))):=(jI.2.1 _ Nh (fun e=>by have:=(nI.out gt El).1;omega) (fun h=>by have:=(nI.out _ (HST.out _ h)).1;omega)).trans iX.out
  clear jI Ep
  refine hK.out _ _ (trivial) (fun hHeld=>?_)
  clear hK K
  refine tks 11 11 97 aj hHeld ?_
  refine cls 12 12 aj (by decide) rfl rfl (fun K hK=>?_)
  obtain ⟨r0,r1,r2,r3,r4,r5,r6,r7,r8,r9⟩:=aM fq.out
  have fz:∀ i,w7.frozen? ⟨w.heap.size+1,i,none⟩=false:=fun i=>frozen_of_row w7 _ i _ _ fq.out
  have hlr:=lt_of_heap fq.out
  have HF:Hid _:=AA (w:=w) fq.out (by omega) iF.out _ _ rO.out gY (fun h=>h.elim (fun h=>by have:=(nI.out _ h).1;omega) (fun h=>by omega)) 0 bu.next ⟨aI,Nj.out⟩
  go_simp
  refine hK.out _ _ (trivial) (fun hHeld=>?_)
  clear hK K
  refine eG aj ?_
  go_wp2
  obtain ⟨f0,f1,f2,f3,f4,f5,f6,f7,f8,f9⟩:=aM HF.out.1
  refine bodyPost_ret (v:=.agg #[.int .i64 0,.int .i64 bu.next,.slice none 0 0,.int .i64 0,.int .i64 0,.int .i64 0,.slice none 0 0,.slice none 0 0,.int .i64 0,.slice none 0 0]) (by simp [results,Tryz.results60,go_sem,f0,f1,f2,f3,f4,f5,f6,f7,f8,f9]) rfl ⟨_,_,rfl,HF.out.2.2.2,aT.wide HF.out.2.1 dU.out,HF.out.2.2.1,fun k h=>?_⟩
  rcases h with h | h
  ·exact (nI.out k h).2.elim (fun h=>.inl (dU.out k h)) .inr
  ·exact .inr (by omega))
/- What Um and Ii of package spec do: all their ways in one contract each. -/
theorem ae1 (ga:Nat) (a:aJ) (S:Nat→Prop) (nv:Value) (nm:List Int) (w:World) (hp:aU w S ga a) (hst:∀ w',w.heap.size≤w'.heap.size→bT w w' 5→Bs w' nv nm) (hnl:nm.length≤2000000) (hbl:a.boxes.length≤2000000) :
  Calls Tryz.prog 54 #[.pointer (some ⟨ga,0,none⟩),nv] w (jr w S ga (qx a nm)):=by
 have iI:=hst w (Nat.le_refl _) (bT.refl _ _)
 unfold qx
 by_cases h1:0≤bB (fun x:aD=>decide (x.name=nm)) a.boxes
 ·rw [if_pos h1]
  exact (acV ga a S nv nm w hp iI hbl h1).mono fun e w' h=>jr.same h
 ·rw [if_neg h1]
  by_cases h2:4≤a.boxes.length
  ·rw [if_pos (.inl h2)]
   exact (acW ga a S nv nm w hp iI hbl (by omega) h2).mono fun e w' h=>jr.same h
  ·by_cases h3:1000000≤a.valid
   ·rw [if_pos (.inr h3)]
    exact (acX ga a S nv nm w hp iI hbl (by omega) h2 h3).mono fun e w' h=>jr.same h
   ·rw [if_neg (fun h=>h.elim h2 h3)]
    exact (ad3 ga a S nv nm w hp hst hnl hbl (by omega) h2 h3).mono fun e w' h=>jr.code h
theorem Il {α:Type} {p:α→Bool} {l:List α} (h:l.findIdx? p=none):bB p l = -1:=by unfold bB;rw [h]
theorem Im {α:Type} {p:α→Bool} {l:List α} {i:Nat} (h:l.findIdx? p=some i):bB p l=(i:Int)∧∃ x,l[i]?=some x:=by
 obtain ⟨hi,-,-⟩:=List.findIdx?_eq_some_iff_getElem.mp h
 exact ⟨by unfold bB;rw [h],_,aK hi⟩
theorem ae2 (ga k:Nat) (a:aJ) (b:aD) (tt:List Int) (S:Nat→Prop) (kd uid mode fl si:Int) (x0 x1 x2:Option Addr) (n0 n1 n2 m0 m1 m2:Nat) (w:World) (hp:aU w S ga a) (hb:a.boxes[k]?=some b) (hto:Bs w (.slice x1 n1 m1) tt) (hsz:∀ x ∈ a.boxes,bA x≤900000) (hbl:a.boxes.length≤2000000) :
  Calls Tryz.prog 60 #[.pointer (some ⟨ga,0,none⟩),.int .i64 k,.agg #[.int .i64 kd,.slice x0 n0 m0,.slice x1 n1 m1,.int .i64 uid,.int .i64 mode,.int .i64 fl,.int .i64 si,.slice x2 n2 m2]] w (jr w S ga (lN a k b tt uid mode)):=by
 have hsb:=hsz b (List.mem_of_getElem? hb)
 have hsx:bA b≤2000000:=by omega
 unfold lN
 cases h1:b.ah.findIdx? (fun m:aF=>decide (m.uid=uid)) with
 | none=>exact (Vg ga k a b tt S kd uid mode fl si x0 x1 x2 n0 n1 n2 m0 m1 m2 w hp hb hto hbl hsx (.inl (Il h1))).mono fun e w' h=>jr.same h
 | some i =>
  obtain ⟨e1,m,hm⟩:=Im h1
  cases h2:a.boxes.findIdx? (fun x:aD=>decide (x.name=tt)) with
  | none=>exact (Vg ga k a b tt S kd uid mode fl si x0 x1 x2 n0 n1 n2 m0 m1 m2 w hp hb hto hbl hsx (.inr ⟨i,e1,Il h2⟩)).mono fun e w' h=>jr.same h
  | some t =>
   obtain ⟨e2,bt,hbt⟩:=Im h2
   have hst:=hsz bt (List.mem_of_getElem? hbt)
   have mI:bA bt≤2000000:=by omega
   have htl:=jZ bt.ah
   have ajg:=jZ b.ah
   have ajh:dG bt.ah≤bA bt:=by unfold bA;omega
   have hb':dG b.ah≤bA b:=by unfold bA;omega
   simp only [hm,hbt]
   by_cases hmode:mode=1
   ·by_cases htk:t=k
    ·rw [show (if mode=1∧t=k then (0:Int) else 1)=0 from if_pos ⟨hmode,htk⟩]
     have hbb:bt=b:=by rw [htk,hb] at hbt;exact (Option.some.inj hbt).symm
     cases hr:dx bt 0 with
     | false =>
      rw [if_pos (.inl rfl)]
      exact (Ei ga k a b tt S kd uid mode fl si x0 x1 x2 n0 n1 n2 m0 m1 m2 w hp hb hto hbl hsx i t bt e1 e2 hbt mI (.inr (.inl ⟨hmode,htk,hr⟩))).mono fun e w' h=>jr.same h
     | true =>
      by_cases hq:999999≤b.seq
      ·rw [if_pos (.inr ⟨hmode,hq⟩)]
       exact (Ei ga k a b tt S kd uid mode fl si x0 x1 x2 n0 n1 n2 m0 m1 m2 w hp hb hto hbl hsx i t bt e1 e2 hbt mI (.inr (.inr (.inr (.inl ⟨hmode,htk,hr,hq⟩))))).mono fun e w' h=>jr.same h
      ·rw [if_neg (fun h=>h.elim (fun h=>by cases h) (fun h=>hq h.2)),if_pos hmode]
       have hk:k < a.boxes.length:=(gs1 hb).1
       have hu:(aL a k (bG (bH b) i)).boxes[t]?=some (bG (bH b) i):=by rw [htk];exact List.getElem?_set_self hk
       simp only [hu]
       have hd:(bG (bH b) i).ah.length≤b.ah.length∧(bG (bH b) i).seq=b.seq+1∧(bG (bH b) i).next=b.next:=by
        unfold bG
        rw [show (bH b).ah[i]?=some m from hm]
        exact ⟨by show (b.ah.take i ++ b.ah.drop (i+1)).length≤_;rw [List.length_append,List.length_take,List.length_drop];omega,rfl,rfl⟩
       have hr0:=hr
       rw [hbb] at hr
       simp only [dx,Bool.and_eq_true,decide_eq_true_eq] at hr
       exact (VI ga k a b tt S kd uid mode fl si x0 x1 x2 n0 n1 n2 m0 m1 m2 w hp hb hto hbl hsx i t bt _ m hm e1 e2 hbt mI hu (by omega) (by omega) (by omega) hmode (.inl ⟨htk,hr0⟩) hq).mono fun e w' h=>jr.code h
    ·rw [show (if mode=1∧t=k then (0:Int) else 1)=1 from if_neg (fun h=>htk h.2)]
     cases hr:dx bt 1 with
     | false =>
      rw [if_pos (.inl rfl)]
      exact (Ei ga k a b tt S kd uid mode fl si x0 x1 x2 n0 n1 n2 m0 m1 m2 w hp hb hto hbl hsx i t bt e1 e2 hbt mI (.inr (.inr (.inl ⟨hmode,htk,hr⟩)))).mono fun e w' h=>jr.same h
     | true =>
      by_cases hq:999999≤b.seq
      ·rw [if_pos (.inr ⟨hmode,hq⟩)]
       exact (Ei ga k a b tt S kd uid mode fl si x0 x1 x2 n0 n1 n2 m0 m1 m2 w hp hb hto hbl hsx i t bt e1 e2 hbt mI (.inr (.inr (.inr (.inr ⟨hmode,htk,hr,hq⟩))))).mono fun e w' h=>jr.same h
      ·rw [if_neg (fun h=>h.elim (fun h=>by cases h) (fun h=>hq h.2)),if_pos hmode]
       have hu:(aL a k (bG (bH b) i)).boxes[t]?=some bt:=by show (a.boxes.set k _)[t]?=_;rw [List.getElem?_set_ne (Ne.symm htk)];exact hbt
       simp only [hu]
       have hr':=hr
       simp only [dx,Bool.and_eq_true,decide_eq_true_eq] at hr'
       exact (VI ga k a b tt S kd uid mode fl si x0 x1 x2 n0 n1 n2 m0 m1 m2 w hp hb hto hbl hsx i t bt bt m hm e1 e2 hbt mI hu (by omega) (by omega) (by omega) hmode (.inr ⟨htk,hr⟩) hq).mono fun e w' h=>jr.code h
   ·rw [show (if mode=1∧t=k then (0:Int) else 1)=1 from if_neg (fun h=>hmode h.1)]
    cases hr:dx bt 1 with
    | false =>
     rw [if_pos (.inl rfl)]
     exact (Ei ga k a b tt S kd uid mode fl si x0 x1 x2 n0 n1 n2 m0 m1 m2 w hp hb hto hbl hsx i t bt e1 e2 hbt mI (.inl ⟨hmode,hr⟩)).mono fun e w' h=>jr.same h
    | true =>
     rw [if_neg (fun h=>h.elim (fun h=>by cases h) (fun h=>hmode h.1)),if_neg hmode]
     simp only [hbt]
     have hr':=hr
     simp only [dx,Bool.and_eq_true,decide_eq_true_eq] at hr'
     exact (aek ga k a b tt S kd uid mode fl si x0 x1 x2 n0 n1 n2 m0 m1 m2 w hp hb hto hbl hsx i t bt bt m hm e1 e2 hbt mI hbt (by omega) (by omega) (by omega) hmode hr).mono fun e w' h=>jr.code h
/- Small laws for ae3. -/
theorem aN.cut {w:World} {S:Nat→Prop} {g o:Nat} {b:aD} (h:aN w S g o b):aN w (fun k=>S k∧k < w.heap.size) g o b:=by
 obtain ⟨cur,c,hh,⟨u0,u1,u2,e,h1,h2,h3,r⟩,hc⟩:=h
 refine ⟨cur,c,hh,⟨u0,u1,u2,e,h1,?_,Ga h3,r⟩,hc⟩
 rcases h2 with h | ⟨m,cap,cu,cs,fs,hv,hm,k1,k2,k3,k4,k5,k6,k7⟩
 ·exact .inl h
 ·exact .inr ⟨m,cap,cu,cs,fun _ _=>False,hv,hm,k1,k2,k3,⟨k4,lt_of_heap hm⟩,k5,by simp,by simp⟩
/-- How many ah a box behind a pointer holds. -/
def Eu (w:World) (g o:Nat):Nat:=match w.cell? ⟨g,o+4,none⟩ with | some (.slice _ n _)=>n | _=>0
theorem aN.VL {w:World} {S:Nat→Prop} {g o:Nat} {b:aD} (h:aN w S g o b):Eu w g o=b.ah.length:=by
 obtain ⟨u0,u1,u2,h0,h1,h2,hi,c0,c1,c2,c3,c4,c5,c6⟩:=h.cells
 obtain ⟨a,c,rfl,-⟩:=h1.v.form
 unfold Eu
 rw [c4]
theorem VN {l:List aF} {k:Nat} {m:aF} (h:l[k]?=some m):(l.take (k+1)).countP eZ=(l.take k).countP eZ+if eZ m then 1 else 0:=by
 obtain ⟨hk,rfl⟩:=gs1 h
 rw [List.take_succ_eq_append_getElem hk,List.countP_append]
 simp [List.countP_cons]
theorem ae4 {b:aD} {i:Nat} {m:aF} (h:b.ah[i]?=some m):(bG b i).ah.length+1=b.ah.length∧(bG b i).au.length≤b.au.length+1:=by
 have hi:=(gs1 h).1
 unfold bG
 rw [h]
 refine ⟨by simp;omega,?_⟩
 have:=Y7 (b.au ++ [⟨m.uid,b.seq⟩]) b.lost
 simpa using this
/-- A reply that is laid above all that was there; what turned ahead of it. -/
theorem Io {w w1:World} {S:Nat→Prop} {g o r:Nat} {d0 d1 d2 d3 d4 d5 d6 d7 d8 d9:Value} (hR:w1.heap[r]?=some (.cells #[d0,d1,d2,d3,d4,d5,d6,d7,d8,d9] 40 (0,0))) (hr:w.heap.size≤r) (ht:Turns w w1 S g o) (b:aD) (S':Nat→Prop) (hp:aN w1 S' g o b) (hg:g < w.heap.size) (hS:¬ S' r) (c n:Int) (hc:aB c∧aB n) :
  let w2:=((((((((((w1.setCell ⟨r,0,none⟩ (.int .i64 c)).setCell ⟨r,1,none⟩ (.int .i64 n)).setCell ⟨r,2,none⟩ (.slice none 0 0)).setCell ⟨r,3,none⟩ (.int .i64 0)).setCell ⟨r,4,none⟩ (.int .i64 0)).setCell ⟨r,5,none⟩ (.int .i64 0)).setCell ⟨r,6,none⟩ (.slice none 0 0)).setCell ⟨r,7,none⟩ (.slice none 0 0)).setCell ⟨r,8,none⟩ (.int .i64 0)).setCell ⟨r,9,none⟩ (.slice none 0 0))
  w2.heap[r]?=some (.cells #[.int .i64 c,.int .i64 n,.slice none 0 0,.int .i64 0,.int .i64 0,.int .i64 0,.slice none 0 0,.slice none 0 0,.int .i64 0,.slice none 0 0] 40 (0,0))∧Turns w w2 S g o∧aN w2 S' g o b∧jk w2 (.agg #[.int .i64 c,.int .i64 n,.slice none 0 0,.int .i64 0,.int .i64 0,.int .i64 0,.slice none 0 0,.slice none 0 0,.int .i64 0,.slice none 0 0]) (aQ c n):=by
 intro w2
 have hoth:∀ k,k≠r→w2.heap[k]?=w1.heap[k]?:=fun k hk=>by
  show ((((((((((w1.setCell ⟨r,0,none⟩ (.int .i64 c)).setCell ⟨r,1,none⟩ (.int .i64 n)).setCell ⟨r,2,none⟩ (.slice none 0 0)).setCell ⟨r,3,none⟩ (.int .i64 0)).setCell ⟨r,4,none⟩ (.int .i64 0)).setCell ⟨r,5,none⟩ (.int .i64 0)).setCell ⟨r,6,none⟩ (.slice none 0 0)).setCell ⟨r,7,none⟩ (.slice none 0 0)).setCell ⟨r,8,none⟩ (.int .i64 0)).setCell ⟨r,9,none⟩ (.slice none 0 0)).heap[k]?=_
  rw [Below.heap_setCell _ _ _ _ (show k≠r from hk),Below.heap_setCell _ _ _ _ (show k≠r from hk),Below.heap_setCell _ _ _ _ (show k≠r from hk),Below.heap_setCell _ _ _ _ (show k≠r from hk),Below.heap_setCell _ _ _ _ (show k≠r from hk),Below.heap_setCell _ _ _ _ (show k≠r from hk),Below.heap_setCell _ _ _ _ (show k≠r from hk),Below.heap_setCell _ _ _ _ (show k≠r from hk),Below.heap_setCell _ _ _ _ (show k≠r from hk),Below.heap_setCell _ _ _ _ (show k≠r from hk)]
 have hsz:w2.heap.size=w1.heap.size:=by show ((((((((((w1.setCell ⟨r,0,none⟩ (.int .i64 c)).setCell ⟨r,1,none⟩ (.int .i64 n)).setCell ⟨r,2,none⟩ (.slice none 0 0)).setCell ⟨r,3,none⟩ (.int .i64 0)).setCell ⟨r,4,none⟩ (.int .i64 0)).setCell ⟨r,5,none⟩ (.int .i64 0)).setCell ⟨r,6,none⟩ (.slice none 0 0)).setCell ⟨r,7,none⟩ (.slice none 0 0)).setCell ⟨r,8,none⟩ (.int .i64 0)).setCell ⟨r,9,none⟩ (.slice none 0 0)).heap.size=_;simp only [aZ]
 have hos:w2.os=w1.os:=by show ((((((((((w1.setCell ⟨r,0,none⟩ (.int .i64 c)).setCell ⟨r,1,none⟩ (.int .i64 n)).setCell ⟨r,2,none⟩ (.slice none 0 0)).setCell ⟨r,3,none⟩ (.int .i64 0)).setCell ⟨r,4,none⟩ (.int .i64 0)).setCell ⟨r,5,none⟩ (.int .i64 0)).setCell ⟨r,6,none⟩ (.slice none 0 0)).setCell ⟨r,7,none⟩ (.slice none 0 0)).setCell ⟨r,8,none⟩ (.int .i64 0)).setCell ⟨r,9,none⟩ (.slice none 0 0)).os=_;simp only [Ck]
 have Co:w2.tape=w1.tape:=by show ((((((((((w1.setCell ⟨r,0,none⟩ (.int .i64 c)).setCell ⟨r,1,none⟩ (.int .i64 n)).setCell ⟨r,2,none⟩ (.slice none 0 0)).setCell ⟨r,3,none⟩ (.int .i64 0)).setCell ⟨r,4,none⟩ (.int .i64 0)).setCell ⟨r,5,none⟩ (.int .i64 0)).setCell ⟨r,6,none⟩ (.slice none 0 0)).setCell ⟨r,7,none⟩ (.slice none 0 0)).setCell ⟨r,8,none⟩ (.int .i64 0)).setCell ⟨r,9,none⟩ (.slice none 0 0)).tape=_;simp only [Cm]
 have Cq:w2.output=w1.output:=by show ((((((((((w1.setCell ⟨r,0,none⟩ (.int .i64 c)).setCell ⟨r,1,none⟩ (.int .i64 n)).setCell ⟨r,2,none⟩ (.slice none 0 0)).setCell ⟨r,3,none⟩ (.int .i64 0)).setCell ⟨r,4,none⟩ (.int .i64 0)).setCell ⟨r,5,none⟩ (.int .i64 0)).setCell ⟨r,6,none⟩ (.slice none 0 0)).setCell ⟨r,7,none⟩ (.slice none 0 0)).setCell ⟨r,8,none⟩ (.int .i64 0)).setCell ⟨r,9,none⟩ (.slice none 0 0)).output=_;simp only [Cn]
 have hT:∀ t,t≠40→bT w1 w2 t:=fun t hne k hk=>hoth k fun e=>by obtain ⟨cs,fz,hh⟩:=hk;rw [e,hR] at hh;cases hh;exact hne rfl
 have hrg:g≠r:=by omega
 refine ⟨?_,⟨by rw [hsz];exact ht.1,fun k h1 h2 h3=>(hoth k (by omega)).trans (ht.2.1 k h1 h2 h3),ht.2.2.1.trans (hT _ (by decide)),ht.2.2.2.1.trans (hT _ (by decide)),fun cur hc=>?_,hos.trans ht.2.2.2.2.2.1,Co.trans ht.2.2.2.2.2.2.1,Cq.trans ht.2.2.2.2.2.2.2⟩,hp.qy (hoth g hrg) (fun k h1 h2=>hoth k fun e=>hS (e ▸ h1)) (hT _ (by decide)) (hT _ (by decide)),?_⟩
 ·exact (oW (w:={ w1 with heap:=#[] }) hR (Nat.zero_le _) ⟨rfl,rfl,rfl,Nat.zero_le _,fun k hk=>absurd hk (Nat.not_lt_zero _)⟩ c n).1
 ·obtain ⟨cur',h1,h2⟩:=ht.2.2.2.2.1 cur hc
  exact ⟨cur',(hoth g hrg).trans h1,h2⟩
 ·exact ⟨_,_,_,_,rfl,⟨_,_,_,rfl,ng _,Rd.nil _,Rd.nil _,aI,aI,aI,aI⟩,⟨rfl,rfl⟩,hc⟩
/- What ae3 of package spec does. -/
theorem ae5 {n k:Nat} {b:aD} {m:aF} (h:b.ah[k]?=some m) (hd:eZ m=true):iR (n+1) b k=iR n (bG b k) k:=by rw [iR,h];simp [hd]
theorem ae6 {n k:Nat} {b:aD} {m:aF} (h:b.ah[k]?=some m) (hd:eZ m=false):iR (n+1) b k=iR n b (k+1):=by rw [iR,h];simp [hd]
theorem ae7 (g o:Nat) (b:aD) (S:Nat→Prop) (w:World) (hp:aN w S g o b) (hml:b.ah.length≤900000) (hgl:b.au.length≤900000) :
  Calls Tryz.prog 59 #[.pointer (some ⟨g,o,none⟩)] w fun e w'=>∃ u,e=.returned u∧jk w' u (iD b).2∧Turns w w' S g o∧aN w' (fun k=>S k∨w.heap.size≤k) g o (iD b).1:=by
 have bM:g < w.heap.size:=hp.lt
 have B1:Below w.heap.size w (w.alloc (.cells #[.int .i64 0,.int .i64 0,.slice none 0 0,.int .i64 0,.int .i64 0,.int .i64 0,.slice none 0 0,.slice none 0 0,.int .i64 0,.slice none 0 0] 40)):=bn _ _
 have HP:Hid (aN (w.alloc (.cells #[.int .i64 0,.int .i64 0,.slice none 0 0,.int .i64 0,.int .i64 0,.int .i64 0,.slice none 0 0,.slice none 0 0,.int .i64 0,.slice none 0 0] 40)) (fun k=>S k∧k < w.heap.size) g o b):=hp.cut.below B1
 have HT1:Hid (Turns w (w.alloc (.cells #[.int .i64 0,.int .i64 0,.slice none 0 0,.int .i64 0,.int .i64 0,.int .i64 0,.slice none 0 0,.slice none 0 0,.int .i64 0,.slice none 0 0] 40)) S g o):=oU B1
 have aO:Hid _:=aV w (.cells #[.int .i64 0,.int .i64 0,.slice none 0 0,.int .i64 0,.int .i64 0,.int .i64 0,.slice none 0 0,.slice none 0 0,.int .i64 0,.slice none 0 0] 40)
 have gP:Hid ((w.alloc (.cells #[.int .i64 0,.int .i64 0,.slice none 0 0,.int .i64 0,.int .i64 0,.int .i64 0,.slice none 0 0,.slice none 0 0,.int .i64 0,.slice none 0 0] 40)).heap.size=w.heap.size+1):=by show _=_;simp
 have hS0:¬ (S w.heap.size∧w.heap.size < w.heap.size):=fun h=>Nat.lt_irrefl _ h.2
 clear B1 hp
 go_enter Tryz.func59,Tryz.ntmps59
 go_wp2
 generalize w.alloc (.cells #[.int .i64 0,.int .i64 0,.slice none 0 0,.int .i64 0,.int .i64 0,.int .i64 0,.slice none 0 0,.slice none 0 0,.int .i64 0,.slice none 0 0] 40)=w1 at HP HT1 aO gP ⊢
 have sw1:w.heap.size < w1.heap.size:=by have:=gP.out;omega
 go_loopw [3,4] (fun nv iv wr=>∃ k:Nat,k≤b.ah.length∧iv=.int .i64 k∧nv=.int .i64 (((b.ah.take k).countP eZ:Nat):Int)∧wr=w1) (fun _ iv _=>b.ah.length - (intOf iv).toNat)
 case atStart=>exact ⟨0,Nat.zero_le _,rfl,by simp,rfl⟩
 case round =>
  obtain ⟨k,hk,rfl,rfl,hwr⟩:=hrel
  subst hwr
  obtain ⟨u0,u1,u2,h0,h1,h2,hint,c0,c1,c2,c3,c4,c5,c6⟩:=HP.out.cells
  have sP:g < wr.heap.size:=by omega
  have hcn:(b.ah.take k).countP eZ≤k:=Nat.le_trans List.countP_le_length (by simp;omega)
  by_cases hlt:k < b.ah.length
  ·obtain ⟨m,hm⟩:∃ m,b.ah[k]?=some m:=⟨b.ah[k],aK hlt⟩
   obtain ⟨mb,off,z1,mu,hv',hlm,f0,f1,f2,f3,-,uQ,wJ,sO⟩:=h1.v.cell k m hm
   subst hv'
   have hki:(k:Int) < b.ah.length:=by omega
   have HM:Hid (b.ah[k]?=some m):=hm
   clear h0 h1 h2 hint c0 c1 c2 c3 c5 c6 f0 f2 f3 uQ wJ sO hm
   cases hd:eZ m with
   | true =>
    have e1:decide (0 < bits .and .i64 m.flags 8)=true:=hd
    have HC:Hid ((((b.ah.take (k+1)).countP eZ:Nat):Int)=(((b.ah.take k).countP eZ:Nat):Int)+1):=by show _=_;rw [VN HM.out,hd];simp
    clear hd
    go_wp2
    go_roundw
    case rel=>exact ⟨k+1,by omega,by go_num,by rw [HC.out],trivial⟩
    case measure=>simp [intOf];omega
   | false =>
    have e1:decide (0 < bits .and .i64 m.flags 8)=false:=hd
    have HC:Hid ((((b.ah.take (k+1)).countP eZ:Nat):Int)=(((b.ah.take k).countP eZ:Nat):Int)):=by show _=_;rw [VN HM.out,hd];simp
    clear hd
    go_wp2
    go_roundw
    case rel=>exact ⟨k+1,by omega,by go_num,by rw [HC.out],trivial⟩
    case measure=>simp [intOf];omega
  ·obtain rfl:k=b.ah.length:=by omega
   obtain ⟨a1,z1,rfl,-⟩:=h1.v.form
   rw [List.take_length] at hcn ⊢
   have i2:=hint.2.2.1
   clear h0 h1 h2 hint c0 c1 c2 c5 c6
   by_cases hn0:b.ah.countP eZ=0
   ·have HX:Hid (iD b=(b,aQ 0 0)):=by show _=_;unfold iD;rw [if_pos hn0]
    rw [hn0]
    obtain ⟨r0,r1,r2,r3,r4,r5,r6,r7,r8,r9⟩:=aM aO.out
    have fz:∀ i,wr.frozen? ⟨w.heap.size,i,none⟩=false:=fun i=>frozen_of_row _ _ i _ _ aO.out
    have hlr:=lt_of_heap aO.out
    have HF:Hid _:=Io aO.out (Nat.le_refl _) HT1.out _ _ HP.out bM hS0 (0) (0) ⟨aI,aI⟩
    go_wp2
    obtain ⟨f0,f1,f2,f3,f4,f5,f6,f7,f8,f9⟩:=aM HF.out.1
    refine bodyPost_ret (v:=.agg #[.int .i64 0,.int .i64 0,.slice none 0 0,.int .i64 0,.int .i64 0,.int .i64 0,.slice none 0 0,.slice none 0 0,.int .i64 0,.slice none 0 0]) (by simp [results,Tryz.results59,go_sem,f0,f1,f2,f3,f4,f5,f6,f7,f8,f9]) rfl ⟨_,rfl,?_,HF.out.2.1,?_⟩
    ·rw [HX.out]
     exact HF.out.2.2.2
    ·rw [HX.out]
     exact aN.mono HF.out.2.2.1 fun k h=>.inl h.1
   ·have hn1:¬ ((b.ah.countP eZ:Nat):Int)=0:=by omega
    have e0:(((b.ah.countP eZ:Nat):Int) == 0)=false:=by simpa using hn0
    have kT:Hid (b.ah.countP eZ≤b.ah.length):=hcn
    generalize hN:b.ah.countP eZ=N at *
    have mU:Hid (b.ah.countP eZ=N):=hN
    clear hN
    by_cases hfull:1000000≤b.seq
    ·have HX:Hid (iD b=(b,aQ 3 0)):=by show _=_;unfold iD;rw [mU.out,if_neg hn0,if_pos hfull]
     clear hn0 hn1
     obtain ⟨r0,r1,r2,r3,r4,r5,r6,r7,r8,r9⟩:=aM aO.out
     have fz:∀ i,wr.frozen? ⟨w.heap.size,i,none⟩=false:=fun i=>frozen_of_row _ _ i _ _ aO.out
     have hlr:=lt_of_heap aO.out
     have HF:Hid _:=Io aO.out (Nat.le_refl _) HT1.out _ _ HP.out bM hS0 (3) (0) ⟨⟨by decide,by decide⟩,aI⟩
     go_wp2
     obtain ⟨f0,f1,f2,f3,f4,f5,f6,f7,f8,f9⟩:=aM HF.out.1
     refine bodyPost_ret (v:=.agg #[.int .i64 3,.int .i64 0,.slice none 0 0,.int .i64 0,.int .i64 0,.int .i64 0,.slice none 0 0,.slice none 0 0,.int .i64 0,.slice none 0 0]) (by simp [results,Tryz.results59,go_sem,f0,f1,f2,f3,f4,f5,f6,f7,f8,f9]) rfl ⟨_,rfl,?_,HF.out.2.1,?_⟩
     ·rw [HX.out]
      exact HF.out.2.2.2
     ·rw [HX.out]
      exact aN.mono HF.out.2.2.1 fun k h=>.inl h.1
    ·have HX:Hid (iD b=(iR b.ah.length (bH b) 0,aQ 0 (N:Nat))):=by show _=_;unfold iD;rw [mU.out,if_neg hn0,if_neg hfull]
     have b2:=i2.1
     have hz:=HP.out.open
     have NI:Hid (aN (wr.setCell ⟨g,o+3,none⟩ (.int .i64 (b.seq+1))) (fun k=>S k∧k < w.heap.size) g o (bH b)):=HP.out.uN (b.seq+1) ⟨by omega,by omega⟩
     have NJ:Hid (Turns w (wr.setCell ⟨g,o+3,none⟩ (.int .i64 (b.seq+1))) S g o):=Turns.trans HT1.out (sN (S':=S) HP.out (by omega)) (fun k h=>.inl h)
     have NK:Hid _:=bP (k:=g) (i:=o+3) (v:=.int .i64 (b.seq+1)) aO.out (by omega)
     have VO:(wr.setCell ⟨g,o+3,none⟩ (.int .i64 (b.seq+1))).heap.size=wr.heap.size:=aZ
     have HZS:Hid _:=VO
     clear hn0 hn1 VO
     go_wp2
     clear c3 c4 hz
     generalize wr.setCell ⟨g,o+3,none⟩ (.int .i64 (b.seq+1))=w4 at NI NJ NK HZS ⊢
     clear HP HT1 aO
     have hSS:¬ ((S w.heap.size∧w.heap.size < w.heap.size)∨w.heap.size+1≤w.heap.size):=fun h=>h.elim hS0 (fun h=>by omega)
     go_loopw [5] (fun iv wr=>∃ (k:Nat) (bk:aD),k≤bk.ah.length∧iv=.int .i64 k∧bk.ah.length+bk.au.length≤1900000∧Hid (iR b.ah.length (bH b) 0=iR (bk.ah.length - k) bk k)∧Hid (aN wr (fun k=>(S k∧k < w.heap.size)∨w.heap.size+1≤k) g o bk)∧Hid (Turns w wr S g o)∧Hid (wr.heap[w.heap.size]?=some (.cells #[.int .i64 0,.int .i64 0,.slice none 0 0,.int .i64 0,.int .i64 0,.int .i64 0,.slice none 0 0,.slice none 0 0,.int .i64 0,.slice none 0 0] 40 (0,0)))) (fun iv wr=>Eu wr g o - (intOf iv).toNat)
     case atStart=>exact ⟨0,bH b,Nat.zero_le _,rfl,by show b.ah.length+b.au.length≤_;omega,rfl,aN.mono NI.out fun k h=>.inl h,NJ.out,NK.out⟩
     case round =>
      rename World=>wq
      obtain ⟨k,bk,hk,rfl,hbd,hE,hP,hT,hK⟩:=hrel
      clear NI NJ NK
      obtain ⟨u0,u1,u2,h0,h1,h2,hint,c0,c1,c2,c3,c4,c5,c6⟩:=hP.out.cells
      have hlq:g < wq.heap.size:=hP.out.lt
      have hwq:w.heap.size < wq.heap.size:=lt_of_heap hK.out
      by_cases hlt:k < bk.ah.length
      ·obtain ⟨m,hm⟩:∃ m,bk.ah[k]?=some m:=⟨bk.ah[k],aK hlt⟩
       obtain ⟨mb,off,z1,mu,hv',hlm,f0,f1,f2,f3,-,uQ,wJ,sO⟩:=h1.v.cell k m hm
       subst hv'
       have hki:(k:Int) < bk.ah.length:=by omega
       have HM:Hid (bk.ah[k]?=some m):=hm
       have qZ:Hid (Eu wq g o=bk.ah.length):=hP.out.VL
       clear h0 h1 h2 hint c0 c1 c2 c3 c5 c6 f0 f2 f3 uQ wJ sO hm
       cases hd:eZ m with
       | true =>
        have e1:decide (0 < bits .and .i64 m.flags 8)=true:=hd
        have hdrop:=Vk g o k bk m _ wq hP.out HM.out (by omega) (by omega)
        have HD:=ae4 HM.out
        have HE2:Hid (iR b.ah.length (bH b) 0=iR ((bG bk k).ah.length - k) (bG bk k) k):=by
         show _=_
         rw [hE.out,show bk.ah.length - k=((bG bk k).ah.length - k)+1 by omega,ae5 HM.out hd]
        have HDh:Hid _:=HD
        have hkd:k≤(bG bk k).ah.length:=by omega
        have afa:(bG bk k).ah.length+(bG bk k).au.length≤1900000:=by omega
        clear hd HD
        go_wp2_with fail
        refine hdrop.mono ?_
        rintro e w6 ⟨rfl,rF,rQ⟩
        have Ev:Hid (aN w6 (fun k=>(S k∧k < w.heap.size)∨w.heap.size+1≤k) g o (bG bk k)):=aN.mono rQ fun k h=>h.elim id fun h=>.inr (by omega)
        have lS:Hid (Turns w w6 S g o):=Turns.trans hT.out rF (fun k h=>h.elim (fun h=>.inl h.1) (fun h=>.inr (by omega)))
        have nH:Hid _:=(rF.2.1 w.heap.size hwq (by omega) hSS).trans hK.out
        have afb:Hid (Eu w6 g o=(bG bk k).ah.length):=rQ.VL
        clear hdrop rF rQ hP hT hK
        go_wp2
        go_roundw
        case rel=>exact ⟨k,bG bk k,hkd,by go_num,afa,HE2.out,Ev.out,lS.out,nH.out⟩
        case measure=>rw [afb.out,qZ.out];have:=HDh.out;simp [intOf];omega
       | false =>
        have e1:decide (0 < bits .and .i64 m.flags 8)=false:=hd
        have HE2:Hid (iR b.ah.length (bH b) 0=iR (bk.ah.length - (k+1)) bk (k+1)):=by
         show _=_
         rw [hE.out,show bk.ah.length - k=(bk.ah.length - (k+1))+1 by omega,ae6 HM.out hd]
        clear hd
        go_wp2
        go_roundw
        case rel=>exact ⟨k+1,bk,by omega,by go_num,hbd,HE2.out,hP.out,hT.out,hK.out⟩
        case measure=>rw [qZ.out];simp [intOf];omega
      ·have hkk:k=bk.ah.length:=by omega
       have VP:Hid (iD b=(bk,aQ 0 (N:Nat))):=by
        show _=_
        rw [HX.out,hE.out,hkk,Nat.sub_self];rfl
       have hNb:(N:Int)≤900000:=by have:=kT.out;omega
       subst hkk
       obtain ⟨a1,z1,rfl,-⟩:=h1.v.form
       clear h0 h1 h2 hint c0 c1 c2 c3 c5 c6
       obtain ⟨r0,r1,r2,r3,r4,r5,r6,r7,r8,r9⟩:=aM hK.out
       have fz:∀ i,wq.frozen? ⟨w.heap.size,i,none⟩=false:=fun i=>frozen_of_row _ _ i _ _ hK.out
       have hlr:=lt_of_heap hK.out
       have HF:Hid _:=Io hK.out (Nat.le_refl _) hT.out _ _ hP.out bM hSS (0) ((N:Int)) ⟨aI,by omega,by omega⟩
       go_wp2
       obtain ⟨f0,f1,f2,f3,f4,f5,f6,f7,f8,f9⟩:=aM HF.out.1
       refine bodyPost_ret (v:=.agg #[.int .i64 0,.int .i64 (N:Int),.slice none 0 0,.int .i64 0,.int .i64 0,.int .i64 0,.slice none 0 0,.slice none 0 0,.int .i64 0,.slice none 0 0]) (by simp [results,Tryz.results59,go_sem,f0,f1,f2,f3,f4,f5,f6,f7,f8,f9]) rfl ⟨_,rfl,?_,HF.out.2.1,?_⟩
       ·rw [VP.out]
        exact HF.out.2.2.2
       ·rw [VP.out]
        exact aN.mono HF.out.2.2.1 fun k h=>h.elim (fun h=>.inl h.1) (fun h=>.inr (by omega))
/- A box behind a pointer: a fQ of its list is written. -/
/-- One cell of a fQ in the list's block is written. -/
theorem afc {w:World} {S:Nat→Prop} {v:Value} {l:List aF} (h:ji w S v l) {i:Nat} {m:aF} (hm:l[i]?=some m) :
  ∃ mb cap,v=.slice (some ⟨mb,0,none⟩) l.length cap∧S mb∧Ty w mb 124∧w.cell? ⟨mb,i * 4+1,none⟩=some (.int .i64 m.flags)∧w.cell? ⟨mb,i * 4+2,none⟩=some (.int .i64 m.seq)∧(∀ j,w.frozen? ⟨mb,j,none⟩=false) ∧
   (∀ fl,aB fl→ji (w.setCell ⟨mb,i * 4+1,none⟩ (.int .i64 fl)) S v (l.set i ⟨m.uid,fl,m.seq,m.text⟩))∧(∀ sq,aB sq→ji (w.setCell ⟨mb,i * 4+2,none⟩ (.int .i64 sq)) S v (l.set i ⟨m.uid,m.flags,sq,m.text⟩)):=by
 have hi:i < l.length:=(gs1 hm).1
 rcases h with ⟨-,h⟩ | ⟨g,cap,cur,cs,fs,hv,hh,h1,h2,h3,h4,h5,h6,h7⟩
 ·subst h;simp at hm
 obtain ⟨⟨u,hc,hu,j0,j1,j2⟩,hl,hcell⟩:=h5 i m hm
 have hty:Ty w g 124:=⟨_,_,hh⟩
 have hsz:i * 4+4≤cur.size:=by rw [h3];omega
 have key:∀ (q:Nat) (x:Value) (m':aF) (c':List Value),q < 4→c'=(cs i).set q x→sK w c' m' Any→ji (w.setCell ⟨g,i * 4+q,none⟩ x) S v (l.set i m'):=by
  intro q x m' c' hq hc' hm'
  refine .inr ⟨g,cap,_,fun j=>if j=i then c' else cs j,fun _ _=>False,by rw [List.length_set];exact hv,aP hh,by rw [List.length_set];exact h1,h2,by rw [Array.size_setIfInBounds];exact h3,h4,fun j y hy=>?_,by simp,by simp⟩
  by_cases e:j=i
  ·subst e
   rw [List.getElem?_set_self hi] at hy
   cases hy
   simp only [if_pos]
   refine ⟨wH hm' (iT hty (by decide)),by rw [hc',List.length_set];exact hl,fun k z hz=>?_⟩
   rw [hc'] at hz
   by_cases ek:k=q
   ·subst ek
    rw [List.getElem?_set_self (by omega)] at hz
    cases hz
    rw [Array.getElem?_setIfInBounds_self_of_lt (by omega)]
   ·rw [List.getElem?_set_ne (Ne.symm ek)] at hz
    rw [Array.getElem?_setIfInBounds_ne (by omega)]
    exact hcell k z hz
  ·rw [List.getElem?_set_ne (Ne.symm e)] at hy
   simp only [if_neg e]
   obtain ⟨q0,q1,q2⟩:=h5 j y hy
   refine ⟨wH q0 (iT hty (by decide)),q1,fun k z hz=>?_⟩
   have hk:k < 4:=by have:=(gs1 hz).1;omega
   rw [Array.getElem?_setIfInBounds_ne (by rcases Nat.lt_or_gt_of_ne e with e | e <;> omega)]
   exact q2 k z hz
 refine ⟨g,cap,hv,h4,hty,?_,?_,fun j=>by simp [World.frozen?,hh],fun fl hf=>key 1 _ _ [.int .i64 m.uid,.int .i64 fl,.int .i64 m.seq,u] (by omega) (by rw [hc];rfl) ⟨u,rfl,hu,j0,hf,j2⟩,fun sq hs=>key 2 _ _ [.int .i64 m.uid,.int .i64 m.flags,.int .i64 sq,u] (by omega) (by rw [hc];rfl) ⟨u,rfl,hu,j0,j1,hs⟩⟩
 ·rw [cell_of_row w g _ cur _ (0,0) hh];exact hcell 1 _ (by rw [hc];rfl)
 ·rw [cell_of_row w g _ cur _ (0,0) hh];exact hcell 2 _ (by rw [hc];rfl)
/-- .. of a box behind a pointer. -/
theorem aN.fQ {w:World} {S:Nat→Prop} {g o i:Nat} {b:aD} {m:aF} (h:aN w S g o b) (hm:b.ah[i]?=some m) :
  ∃ mb cap,w.cell? ⟨g,o+4,none⟩=some (.slice (some ⟨mb,0,none⟩) b.ah.length cap)∧mb < w.heap.size∧mb≠g∧S mb∧Ty w mb 124∧w.cell? ⟨mb,i * 4+1,none⟩=some (.int .i64 m.flags)∧w.cell? ⟨mb,i * 4+2,none⟩=some (.int .i64 m.seq)∧(∀ j,w.frozen? ⟨mb,j,none⟩=false) ∧
   (∀ fl,aB fl→aN (w.setCell ⟨mb,i * 4+1,none⟩ (.int .i64 fl)) S g o ⟨b.name,b.valid,b.next,b.seq,b.ah.set i ⟨m.uid,fl,m.seq,m.text⟩,b.au,b.lost⟩)∧(∀ sq,aB sq→aN (w.setCell ⟨mb,i * 4+2,none⟩ (.int .i64 sq)) S g o ⟨b.name,b.valid,b.next,b.seq,b.ah.set i ⟨m.uid,m.flags,sq,m.text⟩,b.au,b.lost⟩):=by
 have hb:=h.ty
 obtain ⟨cur,c,hh,⟨u0,u1,u2,e,h1,h2,h3,r⟩,hc⟩:=h
 obtain ⟨mb,cap,hv,hS,hty,k1,k2,hz,hf,hs⟩:=afc h2 hm
 have hne:mb≠g:=fun e2=>by subst e2;obtain ⟨cs,fz,hq⟩:=hty;exact kN hq hb (by decide)
 have go:∀ (q:Nat) (x:Value) (ms:List aF),ji (w.setCell ⟨mb,q,none⟩ x) S u1 ms→aN (w.setCell ⟨mb,q,none⟩ x) S g o ⟨b.name,b.valid,b.next,b.seq,ms,b.au,b.lost⟩:=fun q x ms hms =>
  ⟨cur,c,bP hh (Ne.symm hne),⟨u0,u1,u2,e,mR h1 (iT hty (by decide)),hms,zY h3 (iT hty (by decide)),r⟩,hc⟩
 refine ⟨mb,cap,?_,mq hty,hne,hS,hty,k1,k2,hz,fun fl hf'=>go _ _ _ (hf fl hf'),fun sq hs'=>go _ _ _ (hs sq hs')⟩
 rw [cell_of_row w g _ cur _ (0,0) hh]
 rw [hc 4 u1 (by rw [e];rfl),hv]
end Go.Proofs.YtlneebmlhblleaaGreat
