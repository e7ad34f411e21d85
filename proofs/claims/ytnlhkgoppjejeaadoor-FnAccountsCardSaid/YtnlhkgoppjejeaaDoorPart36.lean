/- The proof's texts, part 36. -/
import Derived.Test.YtnlhkgoppjejeaaDoorPart34
import Derived.Test.YtnlhkgoppjejeaaDoorPart31
import Derived.Test.YtnlhkgoppjejeaaDoorPart35
import Derived.Test.YtnlhkgoppjejeaaDoorPart12
import Derived.Test.YtnlhkgoppjejeaaDoorPart30
import Derived.Test.YtnlhkgoppjejeaaDoorPart33
import Derived.Test.YtnlhkgoppjejeaaDoorPart29

/- What l3copy of package spec does where it copies a mail away. -/
namespace Go.Proofs.YtnlhkgoppjejeaaDoor
open Go.RowKit
set_option maxRecDepth 100000
set_option linter.unusedVariables false
set_option linter.unusedSimpArgs false

set_option maxRecDepth 100000 in
set_option maxHeartbeats 20000000 in
theorem l3copy_mv (ga k:Nat) (a:AccD) (b:BoxD) (tt:List Int) (S:Nat→Prop) (kd uid mode fl si:Int) (x0 x1 x2:Option Addr) (n0 n1 n2 m0 m1 m2:Nat) (w:World) (hp:AccP w S ga a) (hb:a.boxes[k]?=some b) (hto:Bs w (.slice x1 n1 m1) tt) (hbl:a.boxes.length≤2000000) (hsx:szX b≤2000000) (i t:Nat) (bt bu:BoxD) (m:MailD) (hm:b.mails[i]?=some m) (hf:firstI (fun m:MailD=>decide (m.uid=uid)) b.mails=(i:Int)) (hf2:firstI (fun x:BoxD=>decide (x.name=tt)) a.boxes=(t:Int)) (hbt:a.boxes[t]?=some bt) (hsxt:szX bt≤2000000) (hbu:(setB a k (dropX (seqX b) i)).boxes[t]?=some bu) (hu1:bu.mails.length≤2000000) (hu2:bu.seq < 1000000000) (hu3:bu.next < 1000000000) (hm1:mode=1) (hway:(t=k∧roomB bt 0=true)∨(t≠k∧roomB bt 1=true)) (hsq:¬ 999999≤b.seq) :
  Calls Tryd.prog 73 #[.pointer (some ⟨ga,0,none⟩),.int .i64 k,.agg #[.int .i64 kd,.slice x0 n0 m0,.slice x1 n1 m1,.int .i64 uid,.int .i64 mode,.int .i64 fl,.int .i64 si,.slice x2 n2 m2]] w fun e w'=>∃ u S',e=.returned u∧RepC w' u (codeR 0 bu.next)∧TurnsA w w' S ga∧AccP w' S' ga (setB (setB a k (dropX (seqX b) i)) t (addX bu m.flags m.text))∧∀ k,S' k→S k∨w.heap.size≤k:=by
 have HM:Hid (mode=1):=hm1
 clear hm1
 obtain ⟨S0,hS0e⟩:∃ S0:Nat→Prop,S0=fun k=>S k∧k < w.heap.size:=⟨_,rfl⟩
 have HSUB:Hid (∀ k,S0 k→S k):=by subst hS0e;exact fun k h=>h.1
 have HSL:Hid (∀ k,S0 k→k < w.heap.size):=by subst hS0e;exact fun k h=>h.2
 have HW:Hid _:=hway
 clear hway
 have HP:Hid (∀ w',Below w.heap.size w w'→AccP w' S0 ga a):=by subst hS0e;exact fun w' h=>hp.cut.below h
 clear hS0e
 have HTO:Hid (∀ w',Below w.heap.size w w'→Bs w' (.slice x1 n1 m1) tt):=fun w' h=>hto.below h
 have hlga:=hp.lt
 obtain ⟨g,cap,S1,cb,hSg,hpb,hS1,-⟩:=hp.at hb
 obtain ⟨v9,u9,ca0,ca1,ca2,hbq,hav⟩:=hp.cells
 have e9:v9=.slice (some ⟨g,0,none⟩) a.boxes.length cap:=Option.some.inj (ca1.symm.trans cb)
 subst e9
 have HAV:Hid (∀ w',Below w.heap.size w w'→AccV w' (.agg #[.int .i64 a.valid,.slice (some ⟨g,0,none⟩) a.boxes.length cap,u9]) a):=fun w' h=>hav.below h
 have hkl:k < a.boxes.length:=(List.getElem?_eq_some_iff.1 hb).1
 have hlg:g < w.heap.size:=ty_lt hpb.ty
 have hcap:a.boxes.length≤cap:=by obtain ⟨_,_,e,h,-⟩:=hbq.v.form;cases e;exact h
 obtain ⟨u0,u1,u2,h0,h1,h2,hint,c0,c1,c2,c3,c4,c5,c6⟩:=hpb.cells
 obtain ⟨a0,q0,z0,rfl⟩:=h0.bs.form3
 obtain ⟨a1,z1,rfl,-⟩:=h1.v.form
 obtain ⟨a2,z2,rfl,-⟩:=h2.1.form
 have HV:Hid (∀ w',Below w.heap.size w w'→BoxV w' (.agg #[.slice a0 q0 z0,.int .i64 b.valid,.int .i64 b.next,.int .i64 b.seq,.slice a1 b.mails.length z1,.slice a2 b.gones.length z2,.int .i64 b.lost]) b):=fun w' h=>⟨_,_,_,rfl,h0.bs.below h,h1.v.below keepsMail h,h2.1.below keepsGone h,hint⟩
 obtain ⟨HB,HKC,HKR,hsW⟩:=heads2 w (.cells #[.int .i64 kd,.slice x0 n0 m0,.slice x1 n1 m1,.int .i64 uid,.int .i64 mode,.int .i64 fl,.int .i64 si,.slice x2 n2 m2] 80) (.cells #[.int .i64 0,.int .i64 0,.slice none 0 0,.int .i64 0,.int .i64 0,.int .i64 0,.slice none 0 0,.slice none 0 0,.int .i64 0,.slice none 0 0] 84)
 have HC:Hid (∀ W w',Below w.heap.size w W→W.heap[w.heap.size]?=some (.cells #[.int .i64 kd,.slice x0 n0 m0,.slice x1 n1 m1,.int .i64 uid,.int .i64 mode,.int .i64 fl,.int .i64 si,.slice x2 n2 m2] 80 (0,0))→Below W.heap.size W w'→w'.cell? ⟨g,k * 7,none⟩=some (.slice a0 q0 z0)∧w'.cell? ⟨g,k * 7+1,none⟩=some (.int .i64 b.valid)∧w'.cell? ⟨g,k * 7+2,none⟩=some (.int .i64 b.next)∧w'.cell? ⟨g,k * 7+3,none⟩=some (.int .i64 b.seq)∧w'.cell? ⟨g,k * 7+4,none⟩=some (.slice a1 b.mails.length z1)∧w'.cell? ⟨g,k * 7+5,none⟩=some (.slice a2 b.gones.length z2)∧w'.cell? ⟨g,k * 7+6,none⟩=some (.int .i64 b.lost)∧w'.cell? ⟨ga,0,none⟩=some (.int .i64 a.valid)∧w'.cell? ⟨ga,1,none⟩=some (.slice (some ⟨g,0,none⟩) a.boxes.length cap)∧w'.cell? ⟨ga,2,none⟩=some (u9)∧w'.cell? ⟨w.heap.size,2,none⟩=some (.slice x1 n1 m1)∧w'.cell? ⟨w.heap.size,3,none⟩=some (.int .i64 uid)∧w'.cell? ⟨w.heap.size,4,none⟩=some (.int .i64 mode)):=by
  intro W w' hb hc hw
  have h:=fun j=>hb.cell (p:=⟨g,j,none⟩) hlg
  have h':=fun j=>hw.cell (p:=⟨g,j,none⟩) (Nat.lt_of_lt_of_le hlg hb.size)
  have i:=fun j=>hb.cell (p:=⟨ga,j,none⟩) hlga
  have i':=fun j=>hw.cell (p:=⟨ga,j,none⟩) (Nat.lt_of_lt_of_le hlga hb.size)
  have hk:=box_below hw hc
  have hq:=fun j=>cell_of_row w' w.heap.size j _ _ (0,0) hk
  exact ⟨(h' _).trans ((h _).trans c0),(h' _).trans ((h _).trans c1),(h' _).trans ((h _).trans c2),(h' _).trans ((h _).trans c3),(h' _).trans ((h _).trans c4),(h' _).trans ((h _).trans c5),(h' _).trans ((h _).trans c6),(i' _).trans ((i _).trans ca0),(i' _).trans ((i _).trans ca1),(i' _).trans ((i _).trans ca2),hq 2,hq 3,hq 4⟩
 have hki:(k:Int) < (a.boxes.length:Int):=by omega
 clear h0 h1 h2 hp hpb hbq hav hto c0 c1 c2 c3 c4 c5 c6 ca0 ca1 ca2 cb hint
 go_enter Tryd.func73,Tryd.ntmps73
 go_upto_region 1 with fail
 generalize ((w.alloc (.cells #[.int .i64 kd,.slice x0 n0 m0,.slice x1 n1 m1,.int .i64 uid,.int .i64 mode,.int .i64 fl,.int .i64 si,.slice x2 n2 m2] 80)).alloc (.cells #[.int .i64 0,.int .i64 0,.slice none 0 0,.int .i64 0,.int .i64 0,.int .i64 0,.slice none 0 0,.slice none 0 0,.int .i64 0,.slice none 0 0] 84))=W at HB HKC HKR hsW ⊢
 have HS:Hid (∀ w',Below W.heap.size W w'→w'.cell? ⟨g,k * 7,none⟩=some (.slice a0 q0 z0)∧w'.cell? ⟨g,k * 7+1,none⟩=some (.int .i64 b.valid)∧w'.cell? ⟨g,k * 7+2,none⟩=some (.int .i64 b.next)∧w'.cell? ⟨g,k * 7+3,none⟩=some (.int .i64 b.seq)∧w'.cell? ⟨g,k * 7+4,none⟩=some (.slice a1 b.mails.length z1)∧w'.cell? ⟨g,k * 7+5,none⟩=some (.slice a2 b.gones.length z2)∧w'.cell? ⟨g,k * 7+6,none⟩=some (.int .i64 b.lost)∧w'.cell? ⟨ga,0,none⟩=some (.int .i64 a.valid)∧w'.cell? ⟨ga,1,none⟩=some (.slice (some ⟨g,0,none⟩) a.boxes.length cap)∧w'.cell? ⟨ga,2,none⟩=some (u9)∧w'.cell? ⟨w.heap.size,2,none⟩=some (.slice x1 n1 m1)∧w'.cell? ⟨w.heap.size,3,none⟩=some (.int .i64 uid)∧w'.cell? ⟨w.heap.size,4,none⟩=some (.int .i64 mode)):=fun w' h=>HC.out W w' HB.out HKC.out h
 obtain ⟨-,-,-,-,-,-,-,s0,s1,s2,-⟩:=HS.out W (Below.refl _ _)
 have hl0:ga < W.heap.size:=by omega
 go_upto_region 2 with fail
 clear s0 s1 s2
 have DR:Below W.heap.size W W.drew:=(Below.refl _ _).drew
 have hl1:w.heap.size < W.drew.heap.size:=by show _ < W.heap.size;omega
 have hl2:g < W.drew.heap.size:=by show _ < W.heap.size;omega
 have HVD:Hid _:=HV.out W.drew (Below.step HB.out DR)
 go_region_held3 (fun w'=>w'.cell? ⟨g,k * 7,none⟩=some (.slice a0 q0 z0)∧w'.cell? ⟨g,k * 7+1,none⟩=some (.int .i64 b.valid)∧w'.cell? ⟨g,k * 7+2,none⟩=some (.int .i64 b.next)∧w'.cell? ⟨g,k * 7+3,none⟩=some (.int .i64 b.seq)∧w'.cell? ⟨g,k * 7+4,none⟩=some (.slice a1 b.mails.length z1)∧w'.cell? ⟨g,k * 7+5,none⟩=some (.slice a2 b.gones.length z2)∧w'.cell? ⟨g,k * 7+6,none⟩=some (.int .i64 b.lost)∧w'.cell? ⟨ga,0,none⟩=some (.int .i64 a.valid)∧w'.cell? ⟨ga,1,none⟩=some (.slice (some ⟨g,0,none⟩) a.boxes.length cap)∧w'.cell? ⟨ga,2,none⟩=some (u9)∧w'.cell? ⟨w.heap.size,2,none⟩=some (.slice x1 n1 m1)∧w'.cell? ⟨w.heap.size,3,none⟩=some (.int .i64 uid)∧w'.cell? ⟨w.heap.size,4,none⟩=some (.int .i64 mode))
  (first | exact HS.out _ DR | exact HS.out _ (Below.step DR B1) | go_keep)
  ((go_at_call 36;refine (l3mail_any _ b uid _ HVD.out).mono ?_;rintro e w1 ⟨rfl,B1⟩))
 have HB1:Hid (Below W.heap.size W w1):=Below.step DR B1
 have hw1:W.heap.size≤w1.heap.size:=HB1.out.size
 clear B1 HVD DR hl1 hl2
 go_upto_region 3 with fail
 have DR:Below W.heap.size W w1.drew:=HB1.out.drew
 have hl1:w.heap.size < w1.drew.heap.size:=by show _ < w1.heap.size;omega
 have hl2:g < w1.drew.heap.size:=by show _ < w1.heap.size;omega
 have hl3:ga < w1.drew.heap.size:=by show _ < w1.heap.size;omega
 have HVD:Hid _:=HAV.out w1.drew (Below.step HB.out DR)
 have HTD:Hid _:=HTO.out w1.drew (Below.step HB.out DR)
 go_region_held3 (fun w'=>w'.cell? ⟨g,k * 7,none⟩=some (.slice a0 q0 z0)∧w'.cell? ⟨g,k * 7+1,none⟩=some (.int .i64 b.valid)∧w'.cell? ⟨g,k * 7+2,none⟩=some (.int .i64 b.next)∧w'.cell? ⟨g,k * 7+3,none⟩=some (.int .i64 b.seq)∧w'.cell? ⟨g,k * 7+4,none⟩=some (.slice a1 b.mails.length z1)∧w'.cell? ⟨g,k * 7+5,none⟩=some (.slice a2 b.gones.length z2)∧w'.cell? ⟨g,k * 7+6,none⟩=some (.int .i64 b.lost)∧w'.cell? ⟨ga,0,none⟩=some (.int .i64 a.valid)∧w'.cell? ⟨ga,1,none⟩=some (.slice (some ⟨g,0,none⟩) a.boxes.length cap)∧w'.cell? ⟨ga,2,none⟩=some (u9)∧w'.cell? ⟨w.heap.size,2,none⟩=some (.slice x1 n1 m1)∧w'.cell? ⟨w.heap.size,3,none⟩=some (.int .i64 uid)∧w'.cell? ⟨w.heap.size,4,none⟩=some (.int .i64 mode))
  (first | exact HS.out _ DR | exact HS.out _ (Below.step DR B2) | go_keep)
  ((go_at_call 68;refine (l3box_any _ _ a tt _ HVD.out HTD.out hbl).mono ?_;rintro e w2 ⟨rfl,B2⟩))
 have HB2:Hid (Below W.heap.size W w2):=Below.step DR B2
 have HKR2:Hid _:=box_below HB2.out HKR.out
 have hw2:W.heap.size≤w2.heap.size:=HB2.out.size
 clear B2 HVD HTD DR hl1 hl2 hl3 HB1 hw1
 obtain ⟨-,-,-,s3,-,-,-,s7,s8,-,-,-,s12⟩:=HS.out w2 HB2.out
 obtain ⟨g',cap',S2,cb',-,hpt,-,-⟩:=(HP.out w2 (Below.step HB.out HB2.out)).at hbt
 have e9:=Option.some.inj (cb'.symm.trans s8)
 simp only [Value.slice.injEq,Option.some.injEq,Addr.mk.injEq,and_true,true_and] at e9
 obtain ⟨rfl,rfl⟩:=e9
 obtain ⟨y0',y1',y2',g0,g1,g2,gint,t0,t1,t2,t3,t4,t5,t6⟩:=hpt.cells
 obtain ⟨y0,p0,k0,rfl⟩:=g0.bs.form3
 obtain ⟨y1,k1,rfl,-⟩:=g1.v.form
 obtain ⟨y2,k2,rfl,-⟩:=g2.1.form
 have HVT:Hid (BoxV w2 (.agg #[.slice y0 p0 k0,.int .i64 bt.valid,.int .i64 bt.next,.int .i64 bt.seq,.slice y1 bt.mails.length k1,.slice y2 bt.gones.length k2,.int .i64 bt.lost]) bt):=⟨_,_,_,rfl,g0.bs,g1.v,g2.1,gint⟩
 have htl:t < a.boxes.length:=(List.getElem?_eq_some_iff.1 hbt).1
 have hti:(t:Int) < (a.boxes.length:Int):=by omega
 have hl1:w.heap.size < w2.heap.size:=by omega
 have hl2:g' < w2.heap.size:=ty_lt hpt.ty
 have hl3:ga < w2.heap.size:=by omega
 clear g0 g1 g2 gint hpt cb'
 have hm1:=HM.out
 subst hm1
 have hw:=HW.out
 clear HW
 rcases hw with ⟨htk,hroom⟩ | ⟨htk,hroom⟩
 all_goals first | (have htk1:((t:Int) == (k:Int))=false:=by simp;omega) | (have htk1:((t:Int) == (k:Int))=true:=by simp;omega)
 all_goals (
  have HTK:Hid _:=htk
  clear htk
  go_wp2_with fail
  first | (have tt:=(show roomB bt 1=true from hroom);clear tt;refine (l3room_any _ bt 1 w2 HVT.out (by decide) (by decide) (by have:=szM_len bt.mails;unfold szX at hsxt;omega)).mono ?_) | refine (l3room_any _ bt 0 w2 HVT.out (by decide) (by decide) (by have:=szM_len bt.mails;unfold szX at hsxt;omega)).mono ?_
  rintro e w3 ⟨rfl,B3⟩
  have HB3:Hid (Below W.heap.size W w3):=Below.step HB2.out B3
  have HKR3:Hid _:=box_below B3 HKR2.out
  have hw3:W.heap.size≤w3.heap.size:=HB3.out.size
  have hl4:g' < w3.heap.size:=by have:=B3.size;omega
  clear B3 s3 s7 s8 s12 t0 t1 t2 t3 t4 t5 t6 HVT
  obtain ⟨-,-,-,s3,-⟩:=HS.out w3 HB3.out
  rw [hroom]
  have X3:Below w.heap.size w w3:=Below.step HB.out HB3.out
  have HA3:Hid (AccP w3 S0 ga a):=HP.out w3 X3
  have HT3:Hid (TurnsA w w3 S0 ga):=TurnsA.below X3
  obtain ⟨gx,cx,Sx,cbx,hSgx,hpx,hSx,-⟩:=HA3.out.at hb
  obtain ⟨-,-,-,-,-,-,-,-,s8,-⟩:=HS.out w3 HB3.out
  have e9:=Option.some.inj (cbx.symm.trans s8)
  simp only [Value.slice.injEq,Option.some.injEq,Addr.mk.injEq,and_true,true_and] at e9
  obtain ⟨rfl,rfl⟩:=e9
  obtain ⟨mb,mc,ut,d4,hmc,hlm,f0,f1,f2,f3,hro,j0,j1,j2⟩:=hpx.mail4 hm
  obtain ⟨x9,n9,c9,rfl⟩:=hro.bs.form3
  have HRO:Hid (RO w3 Any (.slice x9 n9 c9) m.text):=hro
  have HJ:Hid (I64 m.flags):=j1
  have hii:(i:Int) < (b.mails.length:Int):=by have:=(List.getElem?_eq_some_iff.1 hm).1;omega
  have hlgx:gx < w3.heap.size:=hpx.lt
  have hga3:ga < w3.heap.size:=by omega
  have hr3:w.heap.size+1 < w3.heap.size:=by omega
  have HG3:Hid (w3.cell? ⟨ga,1,none⟩=some (.slice (some ⟨gx,0,none⟩) a.boxes.length cx)):=cbx
  clear hpx hro j0 j1 j2 cbx hSx hSgx X3 hl4 HS HKC HC HV HKR HAV HTO s8
  go_upto_region 13 with fail
  have AB:Below w3.heap.size w3 (w3.alloc (.cells #[.int .i64 m.uid,.int .i64 m.flags,.int .i64 m.seq,.slice x9 n9 c9] 67)):=(Below.refl _ _).alloc (Nat.le_refl _) _
  have HKM:Hid ((w3.alloc (.cells #[.int .i64 m.uid,.int .i64 m.flags,.int .i64 m.seq,.slice x9 n9 c9] 67)).heap[w3.heap.size]?=some (.cells #[.int .i64 m.uid,.int .i64 m.flags,.int .i64 m.seq,.slice x9 n9 c9] 67 (0,0))):=box_new w3 _
  have HA4:Hid (AccP (w3.alloc (.cells #[.int .i64 m.uid,.int .i64 m.flags,.int .i64 m.seq,.slice x9 n9 c9] 67)) S0 ga a):=HA3.out.below AB
  have HRO4:Hid (RO (w3.alloc (.cells #[.int .i64 m.uid,.int .i64 m.flags,.int .i64 m.seq,.slice x9 n9 c9] 67)) Any (.slice x9 n9 c9) m.text):=HRO.out.below AB
  have HT4:Hid (TurnsA w (w3.alloc (.cells #[.int .i64 m.uid,.int .i64 m.flags,.int .i64 m.seq,.slice x9 n9 c9] 67)) S0 ga):=HT3.out.trans (TurnsA.below (S:=S0) AB) (fun k h=>.inl h)
  have HKR4:Hid _:=box_below AB HKR3.out
  have HG1:Hid ((w3.alloc (.cells #[.int .i64 m.uid,.int .i64 m.flags,.int .i64 m.seq,.slice x9 n9 c9] 67)).cell? ⟨ga,1,none⟩=some (.slice (some ⟨gx,0,none⟩) a.boxes.length cx)):=(AB.cell (p:=⟨ga,1,none⟩) hga3).trans HG3.out
  have hw4:(w3.alloc (.cells #[.int .i64 m.uid,.int .i64 m.flags,.int .i64 m.seq,.slice x9 n9 c9] 67)).heap.size=w3.heap.size+1:=by simp
  generalize (w3.alloc (.cells #[.int .i64 m.uid,.int .i64 m.flags,.int .i64 m.seq,.slice x9 n9 c9] 67))=w4 at HKM HA4 HRO4 HT4 HKR4 HG1 hw4 ⊢
  clear HG3 AB HA3 HRO HT3 HKR3 f0 f1 f2 f3 d4 hlm hmc HB3 s3 HB HKR2 HB2
  obtain ⟨g4,cap4,S4,cb4,hSg4,hp4,hS4,hback⟩:=HA4.out.at hb
  have HBK:Hid _:=hback
  have hg4:g4 < w.heap.size:=HSL.out g4 hSg4
  have hz4:=hp4.open
  obtain ⟨-,-,-,-,-,-,⟨-,-,q64,-⟩,-,-,-,q3,-⟩:=hp4.cells
  have qz:=hp4.lt
  have hsl:(-9223372036854775808:Int)≤b.seq:=q64.1
  have hsq64:I64 (b.seq+1):=⟨by have:=q64.1;omega,by omega⟩
  have HP5:Hid (BoxP (w4.setCell ⟨g4,k * 7+3,none⟩ (.int .i64 (b.seq+1))) S4 g4 (k * 7) (seqX b)):=hp4.setSeq (b.seq+1) hsq64
  have HT5:Hid (Turns w4 (w4.setCell ⟨g4,k * 7+3,none⟩ (.int .i64 (b.seq+1))) S4 g4 (k * 7)):=turns_set hp4 (by omega)
  have hw5:(w4.setCell ⟨g4,k * 7+3,none⟩ (.int .i64 (b.seq+1))).heap.size=w4.heap.size:=box_size
  have HS4:Hid (∀ k,S4 k→S0 k):=fun k h=>(hS4 k h).1
  have e9:=Option.some.inj (cb4.symm.trans HG1.out)
  simp only [Value.slice.injEq,Option.some.injEq,Addr.mk.injEq,and_true,true_and] at e9
  obtain ⟨rfl,rfl⟩:=e9
  clear hback hp4 hS4 cb4 q64 HG1
  go_upto_region 15 with fail
  clear q3 qz hz4
  generalize w4.setCell ⟨g4,k * 7+3,none⟩ (.int .i64 (b.seq+1))=w5 at HP5 HT5 hw5 ⊢
  have hm5:(seqX b).mails[i]?=some m:=hm
  go_wp2_with fail
  refine (l3drop_r g4 (k * 7) i (seqX b) m S4 w5 HP5.out hm5 (by have:=szM_len b.mails;unfold szX at hsx;show b.mails.length≤2000000;omega) (by unfold szX at hsx;show b.gones.length≤2000000;omega)).mono ?_
  rintro e w6 ⟨rfl,hT6,hP6⟩
  have HTT:Hid (Turns w4 w6 S4 g4 (k * 7)):=Turns.trans HT5.out hT6 (fun k h=>.inl h)
  have HA6:Hid (AccP w6 (fun k=>S0 k∨w4.heap.size≤k) ga (setB a k (dropX (seqX b) i))):=HBK.out w6 _ _ HTT.out hP6 (fun k h=>h.elim .inl fun h=>.inr (by omega))
  have HT6:Hid (TurnsA w w6 S0 ga):=HT4.out.trans (TurnsA.box HTT.out hSg4 HS4.out) (fun k h=>.inl h)
  have hne4:∀ k,w.heap.size≤k→k < w4.heap.size→w6.heap[k]?=w4.heap[k]?:=fun k h1 h2=>HTT.out.2.1 k h2 (by omega) (fun h=>by have:=HSL.out k (HS4.out k h);omega)
  have HKM6:Hid (w6.heap[w3.heap.size]?=some (.cells #[.int .i64 m.uid,.int .i64 m.flags,.int .i64 m.seq,.slice x9 n9 c9] 67 (0,0))):=(hne4 _ (by omega) (by omega)).trans HKM.out
  have HKR6:Hid (w6.heap[w.heap.size+1]?=some (.cells #[.int .i64 0,.int .i64 0,.slice none 0 0,.int .i64 0,.int .i64 0,.int .i64 0,.slice none 0 0,.slice none 0 0,.int .i64 0,.slice none 0 0] 84 (0,0))):=(hne4 _ (by omega) (by omega)).trans HKR4.out
  have HRO6:Hid (RO w6 Any (.slice x9 n9 c9) m.text):=ro_oth HRO4.out HTT.out.2.2.1
  have hw6:w4.heap.size≤w6.heap.size:=HTT.out.1
  have HSB:Hid (∀ k,(S0 k∨w4.heap.size≤k)→(k < w.heap.size∨w3.heap.size < k)∧(S0 k∨w.heap.size≤k)):=fun k h=>h.elim (fun h=>⟨.inl (HSL.out k h),.inl h⟩) (fun h=>⟨.inr (by omega),.inr (by omega)⟩)
  clear hne4 HTT HA4 HT4 HKM HKR4 HRO4 hT6 hP6 HBK HP5 HT5
  go_upto_region 16 with fail
  obtain ⟨S6,hS6e⟩:∃ S6:Nat→Prop,S6=fun k=>S0 k∨w4.heap.size≤k:=⟨_,rfl⟩
  rw [← hS6e] at HA6
  replace HSB:Hid (∀ k,S6 k→(k < w.heap.size∨w3.heap.size < k)∧(S0 k∨w.heap.size≤k)):=by rw [hS6e];exact HSB
  clear hS6e
  have hDR:Below w6.heap.size w6 w6.drew:=(Below.refl _ _).drew
  have HAD:Hid (AccP w6.drew S6 ga (setB a k (dropX (seqX b) i))):=HA6.out.below hDR
  obtain ⟨gt,ct,St,cbt,hSgt,hpt,hSt,hbackt⟩:=HAD.out.at hbu
  have HBT:Hid _:=hbackt
  have HPT:Hid (BoxP w6.drew St gt (t * 7) bu):=hpt
  have HST:Hid (∀ k,St k→S6 k):=fun k h=>(hSt k h).1
  have htl9:(t:Int) < ((setB a k (dropX (seqX b) i)).boxes.length:Int):=by have:=(List.getElem?_eq_some_iff.1 hbu).1;omega
  have htl8:t < (setB a k (dropX (seqX b) i)).boxes.length:=(List.getElem?_eq_some_iff.1 hbu).1
  have hlgt:gt < w6.drew.heap.size:=hpt.lt
  have hlg9:ga < w6.drew.heap.size:=HAD.out.lt
  have hlm9:w3.heap.size < w6.drew.heap.size:=by show _ < w6.heap.size;omega
  have hlr9:w.heap.size+1 < w6.drew.heap.size:=by show _ < w6.heap.size;omega
  obtain ⟨-,n1,-,n3⟩:=bx4 (box_below hDR HKM6.out)
  have hwd:w6.heap.size=w6.drew.heap.size:=rfl
  have HRD:Hid (∀ w',w6.drew.heap.size≤w'.heap.size→StayT w6.drew w' 5→Bs w' (.slice x9 n9 c9) m.text):=(HRO6.out.below hDR).stay
  have HTD:Hid (TurnsA w w6.drew S0 ga):=HT6.out.trans (TurnsA.below (S:=S0) hDR) (fun k h=>.inl h)
  have HKD:Hid (w6.drew.heap[w.heap.size+1]?=some (.cells #[.int .i64 0,.int .i64 0,.slice none 0 0,.int .i64 0,.int .i64 0,.int .i64 0,.slice none 0 0,.slice none 0 0,.int .i64 0,.slice none 0 0] 84 (0,0))):=box_below hDR HKR6.out
  have hbn:=HPT.out.cells
  obtain ⟨-,-,-,-,-,-,⟨-,hbn64,-,-⟩,-⟩:=hbn
  have HBN:Hid (I64 bu.next):=hbn64
  clear hpt hbackt hDR hbn64 hSt
  refine wpS_begin 10 (S:=fun w'=>(w'.cell? ⟨ga,1,none⟩=some (.slice (some ⟨gt,0,none⟩) (setB a k (dropX (seqX b) i)).boxes.length ct)∧w'.cell? ⟨w3.heap.size,1,none⟩=some (.int .i64 m.flags)∧w'.cell? ⟨w3.heap.size,3,none⟩=some (.slice x9 n9 c9))) (tabS_of (by kernel_rfl) tab_copy16) (by kernel_rfl) (⟨cbt,n1,n3⟩) (fun hTb hHeld=>?_)
  refine tks 0 0 86 hTb hHeld ?_
  refine tks 1 1 87 hTb hHeld ?_
  refine tks 2 2 88 hTb hHeld ?_
  refine tks 3 3 89 hTb hHeld ?_
  refine tks 4 4 90 hTb hHeld ?_
  refine tks 5 5 91 hTb hHeld ?_
  refine tks 6 6 92 hTb hHeld ?_
  refine tks 7 7 93 hTb hHeld ?_
  refine tks 8 8 94 hTb hHeld ?_
  refine tks 9 9 95 hTb hHeld ?_
  refine wpS_next (S':=fun w'=>True) 10 13 hTb (by decide) (trivial) (fun hHeld=>?_)
  refine cls 10 10 hTb (by decide) rfl rfl (fun K hK=>?_)
  go_simp
  refine (l3add_r gt (t * 7) bu St m.flags _ m.text _ HPT.out HJ.out HRD.out (by have:=szM_mem (List.mem_of_getElem? hm);unfold szX at hsx;omega) hu1 hu2 hu3).mono ?_
  rintro e w7 ⟨rfl,hT7,hP7⟩
  have HA7:Hid (AccP w7 (fun k=>S6 k∨w6.drew.heap.size≤k) ga (setB (setB a k (dropX (seqX b) i)) t (addX bu m.flags m.text))):=HBT.out w7 _ _ hT7 hP7 (fun k h=>h)
  have HT7:Hid (TurnsA w w7 S0 ga):=HTD.out.trans (TurnsA.box hT7 hSgt HST.out) (fun k h=>(HSB.out k h).2)
  have hsz7:=hT7.1
  have HK7:Hid (w7.heap[w.heap.size+1]?=some (.cells #[.int .i64 0,.int .i64 0,.slice none 0 0,.int .i64 0,.int .i64 0,.int .i64 0,.slice none 0 0,.slice none 0 0,.int .i64 0,.slice none 0 0] 84 (0,0))):=(hT7.2.1 _ hlr9 (fun e=>by have:=(HSB.out gt hSgt).1;omega) (fun h=>by have:=(HSB.out _ (HST.out _ h)).1;omega)).trans HKD.out
  clear hT7 hP7
  refine hK.out _ _ (trivial) (fun hHeld=>?_)
  clear hK K
  refine tks 11 11 97 hTb hHeld ?_
  refine cls 12 12 hTb (by decide) rfl rfl (fun K hK=>?_)
  obtain ⟨r0,r1,r2,r3,r4,r5,r6,r7,r8,r9⟩:=bx10 HK7.out
  have fz:∀ i,w7.frozen? ⟨w.heap.size+1,i,none⟩=false:=fun i=>frozen_of_row w7 _ i _ _ HK7.out
  have hlr:=lt_of_heap HK7.out
  have HF:Hid _:=rep_turnA (w:=w) HK7.out (by omega) HT7.out _ _ HA7.out hlga (fun h=>h.elim (fun h=>by have:=(HSB.out _ h).1;omega) (fun h=>by omega)) 0 bu.next ⟨i64c0,HBN.out⟩
  go_simp
  refine hK.out _ _ (trivial) (fun hHeld=>?_)
  clear hK K
  refine wpS_end hTb ?_
  go_wp2
  obtain ⟨f0,f1,f2,f3,f4,f5,f6,f7,f8,f9⟩:=bx10 HF.out.1
  refine bodyPost_ret (v:=.agg #[.int .i64 0,.int .i64 bu.next,.slice none 0 0,.int .i64 0,.int .i64 0,.int .i64 0,.slice none 0 0,.slice none 0 0,.int .i64 0,.slice none 0 0]) (by simp [results,Tryd.results73,go_sem,f0,f1,f2,f3,f4,f5,f6,f7,f8,f9]) rfl ⟨_,_,rfl,HF.out.2.2.2,TurnsA.wide HF.out.2.1 HSUB.out,HF.out.2.2.1,fun k h=>?_⟩
  rcases h with h | h
  ·exact (HSB.out k h).2.elim (fun h=>.inl (HSUB.out k h)) .inr
  ·exact .inr (by omega))

end Go.Proofs.YtnlhkgoppjejeaaDoor

/- What l3create and l3copy of package spec do: all their ways in one contract each. -/
namespace Go.Proofs.YtnlhkgoppjejeaaDoor
open Go.RowKit
set_option linter.unusedVariables false
set_option linter.unusedSimpArgs false

theorem l3create_r (ga:Nat) (a:AccD) (S:Nat→Prop) (nv:Value) (nm:List Int) (w:World) (hp:AccP w S ga a) (hst:∀ w',w.heap.size≤w'.heap.size→StayT w w' 5→Bs w' nv nm) (hnl:nm.length≤2000000) (hbl:a.boxes.length≤2000000) :
  Calls Tryd.prog 67 #[.pointer (some ⟨ga,0,none⟩),nv] w (DoneA w S ga (createA a nm)):=by
 have hnv:=hst w (Nat.le_refl _) (StayT.refl _ _)
 unfold createA
 by_cases h1:0≤firstI (fun x:BoxD=>decide (x.name=nm)) a.boxes
 ·rw [if_pos h1]
  exact (l3create_has ga a S nv nm w hp hnv hbl h1).mono fun e w' h=>DoneA.same h
 ·rw [if_neg h1]
  by_cases h2:4≤a.boxes.length
  ·rw [if_pos (.inl h2)]
   exact (l3create_full1 ga a S nv nm w hp hnv hbl (by omega) h2).mono fun e w' h=>DoneA.same h
  ·by_cases h3:1000000≤a.valid
   ·rw [if_pos (.inr h3)]
    exact (l3create_full2 ga a S nv nm w hp hnv hbl (by omega) h2 h3).mono fun e w' h=>DoneA.same h
   ·rw [if_neg (fun h=>h.elim h2 h3)]
    exact (l3create_new ga a S nv nm w hp hst hnl hbl (by omega) h2 h3).mono fun e w' h=>DoneA.code h

theorem first_none {α:Type} {p:α→Bool} {l:List α} (h:l.findIdx? p=none):firstI p l = -1:=by unfold firstI;rw [h]
theorem first_some {α:Type} {p:α→Bool} {l:List α} {i:Nat} (h:l.findIdx? p=some i):firstI p l=(i:Int)∧∃ x,l[i]?=some x:=by
 obtain ⟨hi,-,-⟩:=List.findIdx?_eq_some_iff_getElem.mp h
 exact ⟨by unfold firstI;rw [h],_,List.getElem?_eq_getElem hi⟩
theorem l3copy_r (ga k:Nat) (a:AccD) (b:BoxD) (tt:List Int) (S:Nat→Prop) (kd uid mode fl si:Int) (x0 x1 x2:Option Addr) (n0 n1 n2 m0 m1 m2:Nat) (w:World) (hp:AccP w S ga a) (hb:a.boxes[k]?=some b) (hto:Bs w (.slice x1 n1 m1) tt) (hsz:∀ x ∈ a.boxes,szX x≤900000) (hbl:a.boxes.length≤2000000) :
  Calls Tryd.prog 73 #[.pointer (some ⟨ga,0,none⟩),.int .i64 k,.agg #[.int .i64 kd,.slice x0 n0 m0,.slice x1 n1 m1,.int .i64 uid,.int .i64 mode,.int .i64 fl,.int .i64 si,.slice x2 n2 m2]] w (DoneA w S ga (copyA a k b tt uid mode)):=by
 have hsb:=hsz b (List.mem_of_getElem? hb)
 have hsx:szX b≤2000000:=by omega
 unfold copyA
 cases h1:b.mails.findIdx? (fun m:MailD=>decide (m.uid=uid)) with
 | none=>exact (l3copy_no ga k a b tt S kd uid mode fl si x0 x1 x2 n0 n1 n2 m0 m1 m2 w hp hb hto hbl hsx (.inl (first_none h1))).mono fun e w' h=>DoneA.same h
 | some i =>
  obtain ⟨e1,m,hm⟩:=first_some h1
  cases h2:a.boxes.findIdx? (fun x:BoxD=>decide (x.name=tt)) with
  | none=>exact (l3copy_no ga k a b tt S kd uid mode fl si x0 x1 x2 n0 n1 n2 m0 m1 m2 w hp hb hto hbl hsx (.inr ⟨i,e1,first_none h2⟩)).mono fun e w' h=>DoneA.same h
  | some t =>
   obtain ⟨e2,bt,hbt⟩:=first_some h2
   have hst:=hsz bt (List.mem_of_getElem? hbt)
   have hsxt:szX bt≤2000000:=by omega
   have htl:=szM_len bt.mails
   have hbl':=szM_len b.mails
   have hbt':szM bt.mails≤szX bt:=by unfold szX;omega
   have hb':szM b.mails≤szX b:=by unfold szX;omega
   simp only [hm,hbt]
   by_cases hmode:mode=1
   ·by_cases htk:t=k
    ·rw [show (if mode=1∧t=k then (0:Int) else 1)=0 from if_pos ⟨hmode,htk⟩]
     have hbb:bt=b:=by rw [htk,hb] at hbt;exact (Option.some.inj hbt).symm
     cases hr:roomB bt 0 with
     | false =>
      rw [if_pos (.inl rfl)]
      exact (l3copy_full ga k a b tt S kd uid mode fl si x0 x1 x2 n0 n1 n2 m0 m1 m2 w hp hb hto hbl hsx i t bt e1 e2 hbt hsxt (.inr (.inl ⟨hmode,htk,hr⟩))).mono fun e w' h=>DoneA.same h
     | true =>
      by_cases hq:999999≤b.seq
      ·rw [if_pos (.inr ⟨hmode,hq⟩)]
       exact (l3copy_full ga k a b tt S kd uid mode fl si x0 x1 x2 n0 n1 n2 m0 m1 m2 w hp hb hto hbl hsx i t bt e1 e2 hbt hsxt (.inr (.inr (.inr (.inl ⟨hmode,htk,hr,hq⟩))))).mono fun e w' h=>DoneA.same h
      ·rw [if_neg (fun h=>h.elim (fun h=>by cases h) (fun h=>hq h.2)),if_pos hmode]
       have hk:k < a.boxes.length:=(List.getElem?_eq_some_iff.1 hb).1
       have hu:(setB a k (dropX (seqX b) i)).boxes[t]?=some (dropX (seqX b) i):=by rw [htk];exact List.getElem?_set_self hk
       simp only [hu]
       have hd:(dropX (seqX b) i).mails.length≤b.mails.length∧(dropX (seqX b) i).seq=b.seq+1∧(dropX (seqX b) i).next=b.next:=by
        unfold dropX
        rw [show (seqX b).mails[i]?=some m from hm]
        exact ⟨by show (b.mails.take i ++ b.mails.drop (i+1)).length≤_;rw [List.length_append,List.length_take,List.length_drop];omega,rfl,rfl⟩
       have hr0:=hr
       rw [hbb] at hr
       simp only [roomB,Bool.and_eq_true,decide_eq_true_eq] at hr
       exact (l3copy_mv ga k a b tt S kd uid mode fl si x0 x1 x2 n0 n1 n2 m0 m1 m2 w hp hb hto hbl hsx i t bt _ m hm e1 e2 hbt hsxt hu (by omega) (by omega) (by omega) hmode (.inl ⟨htk,hr0⟩) hq).mono fun e w' h=>DoneA.code h
    ·rw [show (if mode=1∧t=k then (0:Int) else 1)=1 from if_neg (fun h=>htk h.2)]
     cases hr:roomB bt 1 with
     | false =>
      rw [if_pos (.inl rfl)]
      exact (l3copy_full ga k a b tt S kd uid mode fl si x0 x1 x2 n0 n1 n2 m0 m1 m2 w hp hb hto hbl hsx i t bt e1 e2 hbt hsxt (.inr (.inr (.inl ⟨hmode,htk,hr⟩)))).mono fun e w' h=>DoneA.same h
     | true =>
      by_cases hq:999999≤b.seq
      ·rw [if_pos (.inr ⟨hmode,hq⟩)]
       exact (l3copy_full ga k a b tt S kd uid mode fl si x0 x1 x2 n0 n1 n2 m0 m1 m2 w hp hb hto hbl hsx i t bt e1 e2 hbt hsxt (.inr (.inr (.inr (.inr ⟨hmode,htk,hr,hq⟩))))).mono fun e w' h=>DoneA.same h
      ·rw [if_neg (fun h=>h.elim (fun h=>by cases h) (fun h=>hq h.2)),if_pos hmode]
       have hu:(setB a k (dropX (seqX b) i)).boxes[t]?=some bt:=by show (a.boxes.set k _)[t]?=_;rw [List.getElem?_set_ne (Ne.symm htk)];exact hbt
       simp only [hu]
       have hr':=hr
       simp only [roomB,Bool.and_eq_true,decide_eq_true_eq] at hr'
       exact (l3copy_mv ga k a b tt S kd uid mode fl si x0 x1 x2 n0 n1 n2 m0 m1 m2 w hp hb hto hbl hsx i t bt bt m hm e1 e2 hbt hsxt hu (by omega) (by omega) (by omega) hmode (.inr ⟨htk,hr⟩) hq).mono fun e w' h=>DoneA.code h
   ·rw [show (if mode=1∧t=k then (0:Int) else 1)=1 from if_neg (fun h=>hmode h.1)]
    cases hr:roomB bt 1 with
    | false =>
     rw [if_pos (.inl rfl)]
     exact (l3copy_full ga k a b tt S kd uid mode fl si x0 x1 x2 n0 n1 n2 m0 m1 m2 w hp hb hto hbl hsx i t bt e1 e2 hbt hsxt (.inl ⟨hmode,hr⟩)).mono fun e w' h=>DoneA.same h
    | true =>
     rw [if_neg (fun h=>h.elim (fun h=>by cases h) (fun h=>hmode h.1)),if_neg hmode]
     simp only [hbt]
     have hr':=hr
     simp only [roomB,Bool.and_eq_true,decide_eq_true_eq] at hr'
     exact (l3copy_cp0 ga k a b tt S kd uid mode fl si x0 x1 x2 n0 n1 n2 m0 m1 m2 w hp hb hto hbl hsx i t bt bt m hm e1 e2 hbt hsxt hbt (by omega) (by omega) (by omega) hmode hr).mono fun e w' h=>DoneA.code h

end Go.Proofs.YtnlhkgoppjejeaaDoor

/- Small laws for l3expunge. -/
namespace Go.Proofs.YtnlhkgoppjejeaaDoor
open Go.RowKit
set_option linter.unusedVariables false
set_option linter.unusedSimpArgs false

theorem BoxP.cut {w:World} {S:Nat→Prop} {g o:Nat} {b:BoxD} (h:BoxP w S g o b):BoxP w (fun k=>S k∧k < w.heap.size) g o b:=by
 obtain ⟨cur,c,hh,⟨u0,u1,u2,e,h1,h2,h3,r⟩,hc⟩:=h
 refine ⟨cur,c,hh,⟨u0,u1,u2,e,h1,?_,gonesq_in h3,r⟩,hc⟩
 rcases h2 with h | ⟨m,cap,cu,cs,fs,hv,hm,k1,k2,k3,k4,k5,k6,k7⟩
 ·exact .inl h
 ·exact .inr ⟨m,cap,cu,cs,fun _ _=>False,hv,hm,k1,k2,k3,⟨k4,lt_of_heap hm⟩,k5,by simp,by simp⟩
/-- How many mails a box behind a pointer holds. -/
def mLen (w:World) (g o:Nat):Nat:=match w.cell? ⟨g,o+4,none⟩ with | some (.slice _ n _)=>n | _=>0
theorem BoxP.mlen {w:World} {S:Nat→Prop} {g o:Nat} {b:BoxD} (h:BoxP w S g o b):mLen w g o=b.mails.length:=by
 obtain ⟨u0,u1,u2,h0,h1,h2,hi,c0,c1,c2,c3,c4,c5,c6⟩:=h.cells
 obtain ⟨a,c,rfl,-⟩:=h1.v.form
 unfold mLen
 rw [c4]
theorem countP_take {l:List MailD} {k:Nat} {m:MailD} (h:l[k]?=some m):(l.take (k+1)).countP delM=(l.take k).countP delM+if delM m then 1 else 0:=by
 obtain ⟨hk,rfl⟩:=List.getElem?_eq_some_iff.1 h
 rw [List.take_succ_eq_append_getElem hk,List.countP_append]
 simp [List.countP_cons]
theorem dropX_len {b:BoxD} {i:Nat} {m:MailD} (h:b.mails[i]?=some m):(dropX b i).mails.length+1=b.mails.length∧(dropX b i).gones.length≤b.gones.length+1:=by
 have hi:=(List.getElem?_eq_some_iff.1 h).1
 unfold dropX
 rw [h]
 refine ⟨by simp;omega,?_⟩
 have:=trimG_len (b.gones ++ [⟨m.uid,b.seq⟩]) b.lost
 simpa using this
/-- A reply that is laid above all that was there; what turned ahead of it. -/
theorem rep_turn {w w1:World} {S:Nat→Prop} {g o r:Nat} {d0 d1 d2 d3 d4 d5 d6 d7 d8 d9:Value} (hR:w1.heap[r]?=some (.cells #[d0,d1,d2,d3,d4,d5,d6,d7,d8,d9] 84 (0,0))) (hr:w.heap.size≤r) (ht:Turns w w1 S g o) (b:BoxD) (S':Nat→Prop) (hp:BoxP w1 S' g o b) (hg:g < w.heap.size) (hS:¬ S' r) (c n:Int) (hc:I64 c∧I64 n) :
  let w2:=((((((((((w1.setCell ⟨r,0,none⟩ (.int .i64 c)).setCell ⟨r,1,none⟩ (.int .i64 n)).setCell ⟨r,2,none⟩ (.slice none 0 0)).setCell ⟨r,3,none⟩ (.int .i64 0)).setCell ⟨r,4,none⟩ (.int .i64 0)).setCell ⟨r,5,none⟩ (.int .i64 0)).setCell ⟨r,6,none⟩ (.slice none 0 0)).setCell ⟨r,7,none⟩ (.slice none 0 0)).setCell ⟨r,8,none⟩ (.int .i64 0)).setCell ⟨r,9,none⟩ (.slice none 0 0))
  w2.heap[r]?=some (.cells #[.int .i64 c,.int .i64 n,.slice none 0 0,.int .i64 0,.int .i64 0,.int .i64 0,.slice none 0 0,.slice none 0 0,.int .i64 0,.slice none 0 0] 84 (0,0))∧Turns w w2 S g o∧BoxP w2 S' g o b∧RepC w2 (.agg #[.int .i64 c,.int .i64 n,.slice none 0 0,.int .i64 0,.int .i64 0,.int .i64 0,.slice none 0 0,.slice none 0 0,.int .i64 0,.slice none 0 0]) (codeR c n):=by
 intro w2
 have hoth:∀ k,k≠r→w2.heap[k]?=w1.heap[k]?:=fun k hk=>by
  show ((((((((((w1.setCell ⟨r,0,none⟩ (.int .i64 c)).setCell ⟨r,1,none⟩ (.int .i64 n)).setCell ⟨r,2,none⟩ (.slice none 0 0)).setCell ⟨r,3,none⟩ (.int .i64 0)).setCell ⟨r,4,none⟩ (.int .i64 0)).setCell ⟨r,5,none⟩ (.int .i64 0)).setCell ⟨r,6,none⟩ (.slice none 0 0)).setCell ⟨r,7,none⟩ (.slice none 0 0)).setCell ⟨r,8,none⟩ (.int .i64 0)).setCell ⟨r,9,none⟩ (.slice none 0 0)).heap[k]?=_
  rw [Below.heap_setCell _ _ _ _ (show k≠r from hk),Below.heap_setCell _ _ _ _ (show k≠r from hk),Below.heap_setCell _ _ _ _ (show k≠r from hk),Below.heap_setCell _ _ _ _ (show k≠r from hk),Below.heap_setCell _ _ _ _ (show k≠r from hk),Below.heap_setCell _ _ _ _ (show k≠r from hk),Below.heap_setCell _ _ _ _ (show k≠r from hk),Below.heap_setCell _ _ _ _ (show k≠r from hk),Below.heap_setCell _ _ _ _ (show k≠r from hk),Below.heap_setCell _ _ _ _ (show k≠r from hk)]
 have hsz:w2.heap.size=w1.heap.size:=by show ((((((((((w1.setCell ⟨r,0,none⟩ (.int .i64 c)).setCell ⟨r,1,none⟩ (.int .i64 n)).setCell ⟨r,2,none⟩ (.slice none 0 0)).setCell ⟨r,3,none⟩ (.int .i64 0)).setCell ⟨r,4,none⟩ (.int .i64 0)).setCell ⟨r,5,none⟩ (.int .i64 0)).setCell ⟨r,6,none⟩ (.slice none 0 0)).setCell ⟨r,7,none⟩ (.slice none 0 0)).setCell ⟨r,8,none⟩ (.int .i64 0)).setCell ⟨r,9,none⟩ (.slice none 0 0)).heap.size=_;simp only [box_size]
 have hos:w2.os=w1.os:=by show ((((((((((w1.setCell ⟨r,0,none⟩ (.int .i64 c)).setCell ⟨r,1,none⟩ (.int .i64 n)).setCell ⟨r,2,none⟩ (.slice none 0 0)).setCell ⟨r,3,none⟩ (.int .i64 0)).setCell ⟨r,4,none⟩ (.int .i64 0)).setCell ⟨r,5,none⟩ (.int .i64 0)).setCell ⟨r,6,none⟩ (.slice none 0 0)).setCell ⟨r,7,none⟩ (.slice none 0 0)).setCell ⟨r,8,none⟩ (.int .i64 0)).setCell ⟨r,9,none⟩ (.slice none 0 0)).os=_;simp only [set_os]
 have htape:w2.tape=w1.tape:=by show ((((((((((w1.setCell ⟨r,0,none⟩ (.int .i64 c)).setCell ⟨r,1,none⟩ (.int .i64 n)).setCell ⟨r,2,none⟩ (.slice none 0 0)).setCell ⟨r,3,none⟩ (.int .i64 0)).setCell ⟨r,4,none⟩ (.int .i64 0)).setCell ⟨r,5,none⟩ (.int .i64 0)).setCell ⟨r,6,none⟩ (.slice none 0 0)).setCell ⟨r,7,none⟩ (.slice none 0 0)).setCell ⟨r,8,none⟩ (.int .i64 0)).setCell ⟨r,9,none⟩ (.slice none 0 0)).tape=_;simp only [set_tape]
 have houtput:w2.output=w1.output:=by show ((((((((((w1.setCell ⟨r,0,none⟩ (.int .i64 c)).setCell ⟨r,1,none⟩ (.int .i64 n)).setCell ⟨r,2,none⟩ (.slice none 0 0)).setCell ⟨r,3,none⟩ (.int .i64 0)).setCell ⟨r,4,none⟩ (.int .i64 0)).setCell ⟨r,5,none⟩ (.int .i64 0)).setCell ⟨r,6,none⟩ (.slice none 0 0)).setCell ⟨r,7,none⟩ (.slice none 0 0)).setCell ⟨r,8,none⟩ (.int .i64 0)).setCell ⟨r,9,none⟩ (.slice none 0 0)).output=_;simp only [set_output]
 have hT:∀ t,t≠84→StayT w1 w2 t:=fun t hne k hk=>hoth k fun e=>by obtain ⟨cs,fz,hh⟩:=hk;rw [e,hR] at hh;cases hh;exact hne rfl
 have hrg:g≠r:=by omega
 refine ⟨?_,⟨by rw [hsz];exact ht.1,fun k h1 h2 h3=>(hoth k (by omega)).trans (ht.2.1 k h1 h2 h3),ht.2.2.1.trans (hT _ (by decide)),ht.2.2.2.1.trans (hT _ (by decide)),fun cur hc=>?_,hos.trans ht.2.2.2.2.2.1,htape.trans ht.2.2.2.2.2.2.1,houtput.trans ht.2.2.2.2.2.2.2⟩,hp.oth (hoth g hrg) (fun k h1 h2=>hoth k fun e=>hS (e ▸ h1)) (hT _ (by decide)) (hT _ (by decide)),?_⟩
 ·exact (rep_fin (w:={ w1 with heap:=#[] }) hR (Nat.zero_le _) ⟨rfl,rfl,rfl,Nat.zero_le _,fun k hk=>absurd hk (Nat.not_lt_zero _)⟩ c n).1
 ·obtain ⟨cur',h1,h2⟩:=ht.2.2.2.2.1 cur hc
  exact ⟨cur',(hoth g hrg).trans h1,h2⟩
 ·exact ⟨_,_,_,_,rfl,⟨_,_,_,rfl,bs_nil' _,Rd.nil _,Rd.nil _,i64c0,i64c0,i64c0,i64c0⟩,⟨rfl,rfl⟩,hc⟩

end Go.Proofs.YtnlhkgoppjejeaaDoor
