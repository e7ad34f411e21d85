/- The proof's texts, part 34. -/
import Derived.Test.YtnlhkgoppjejeaaDoorPart28
import Derived.Test.YtnlhkgoppjejeaaDoorPart29
import Derived.Test.YtnlhkgoppjejeaaDoorPart27
import Derived.Test.YtnlhkgoppjejeaaDoorPart31
import Derived.Test.YtnlhkgoppjejeaaDoorPart32
import Derived.Test.YtnlhkgoppjejeaaDoorPart12

/- What l3copy of package spec does where it copies nothing. -/
namespace Go.Proofs.YtnlhkgoppjejeaaDoor
open Go.RowKit
set_option maxRecDepth 100000
set_option linter.unusedVariables false
set_option linter.unusedSimpArgs false

set_option maxRecDepth 100000 in
set_option maxHeartbeats 4000000 in
theorem l3copy_no (ga k:Nat) (a:AccD) (b:BoxD) (tt:List Int) (S:Nat→Prop) (kd uid mode fl si:Int) (x0 x1 x2:Option Addr) (n0 n1 n2 m0 m1 m2:Nat) (w:World) (hp:AccP w S ga a) (hb:a.boxes[k]?=some b) (hto:Bs w (.slice x1 n1 m1) tt) (hbl:a.boxes.length≤2000000) (hsx:szX b≤2000000) (hf:firstI (fun m:MailD=>decide (m.uid=uid)) b.mails = -1∨∃ i:Nat,firstI (fun m:MailD=>decide (m.uid=uid)) b.mails=(i:Int)∧firstI (fun x:BoxD=>decide (x.name=tt)) a.boxes = -1) :
  Calls Tryd.prog 73 #[.pointer (some ⟨ga,0,none⟩),.int .i64 k,.agg #[.int .i64 kd,.slice x0 n0 m0,.slice x1 n1 m1,.int .i64 uid,.int .i64 mode,.int .i64 fl,.int .i64 si,.slice x2 n2 m2]] w fun e w'=>∃ u,e=.returned u∧RepC w' u (codeR 1 0)∧Below w.heap.size w w'∧AccP w' S ga a:=by
 have HP:Hid (∀ w',Below w.heap.size w w'→AccP w' S ga a):=fun w' h=>hp.below h
 have HN:Hid _:=hf
 clear hf
 have HTO:Hid (∀ w',Below w.heap.size w w'→Bs w' (.slice x1 n1 m1) tt):=fun w' h=>hto.below h
 have hlga:=hp.lt
 obtain ⟨g,cap,S1,cb,hSg,hpb,hS1,-⟩:=hp.at hb
 obtain ⟨v9,u9,ca0,ca1,ca2,hbq,hav⟩:=hp.cells
 have e9:v9=.slice (some ⟨g,0,none⟩) a.boxes.length cap:=Option.some.inj (ca1.symm.trans cb)
 subst e9
 have HAV:Hid (∀ w',Below w.heap.size w w'→AccV w' (.agg #[.int .i64 a.valid,.slice (some ⟨g,0,none⟩) a.boxes.length cap,u9]) a):=fun w' h=>hav.below h
 have hkl:k < a.boxes.length:=(List.getElem?_eq_some_iff.1 hb).1
 have hlg:g < w.heap.size:=ty_lt hpb.ty
 have hcap:a.boxes.length≤cap:=by obtain ⟨_,_,e,h,-⟩:=hbq.v.form;cases e;exact h
 obtain ⟨u0,u1,u2,h0,h1,h2,hint,c0,c1,c2,c3,c4,c5,c6⟩:=hpb.cells
 obtain ⟨a0,q0,z0,rfl⟩:=h0.bs.form3
 obtain ⟨a1,z1,rfl,-⟩:=h1.v.form
 obtain ⟨a2,z2,rfl,-⟩:=h2.1.form
 have HV:Hid (∀ w',Below w.heap.size w w'→BoxV w' (.agg #[.slice a0 q0 z0,.int .i64 b.valid,.int .i64 b.next,.int .i64 b.seq,.slice a1 b.mails.length z1,.slice a2 b.gones.length z2,.int .i64 b.lost]) b):=fun w' h=>⟨_,_,_,rfl,h0.bs.below h,h1.v.below keepsMail h,h2.1.below keepsGone h,hint⟩
 obtain ⟨HB,HKC,HKR,hsW⟩:=heads2 w (.cells #[.int .i64 kd,.slice x0 n0 m0,.slice x1 n1 m1,.int .i64 uid,.int .i64 mode,.int .i64 fl,.int .i64 si,.slice x2 n2 m2] 80) (.cells #[.int .i64 0,.int .i64 0,.slice none 0 0,.int .i64 0,.int .i64 0,.int .i64 0,.slice none 0 0,.slice none 0 0,.int .i64 0,.slice none 0 0] 84)
 have HC:Hid (∀ W w',Below w.heap.size w W→W.heap[w.heap.size]?=some (.cells #[.int .i64 kd,.slice x0 n0 m0,.slice x1 n1 m1,.int .i64 uid,.int .i64 mode,.int .i64 fl,.int .i64 si,.slice x2 n2 m2] 80 (0,0))→Below W.heap.size W w'→w'.cell? ⟨g,k * 7,none⟩=some (.slice a0 q0 z0)∧w'.cell? ⟨g,k * 7+1,none⟩=some (.int .i64 b.valid)∧w'.cell? ⟨g,k * 7+2,none⟩=some (.int .i64 b.next)∧w'.cell? ⟨g,k * 7+3,none⟩=some (.int .i64 b.seq)∧w'.cell? ⟨g,k * 7+4,none⟩=some (.slice a1 b.mails.length z1)∧w'.cell? ⟨g,k * 7+5,none⟩=some (.slice a2 b.gones.length z2)∧w'.cell? ⟨g,k * 7+6,none⟩=some (.int .i64 b.lost)∧w'.cell? ⟨ga,0,none⟩=some (.int .i64 a.valid)∧w'.cell? ⟨ga,1,none⟩=some (.slice (some ⟨g,0,none⟩) a.boxes.length cap)∧w'.cell? ⟨ga,2,none⟩=some (u9)∧w'.cell? ⟨w.heap.size,2,none⟩=some (.slice x1 n1 m1)∧w'.cell? ⟨w.heap.size,3,none⟩=some (.int .i64 uid)∧w'.cell? ⟨w.heap.size,4,none⟩=some (.int .i64 mode)):=by
  intro W w' hb hc hw
  have h:=fun j=>hb.cell (p:=⟨g,j,none⟩) hlg
  have h':=fun j=>hw.cell (p:=⟨g,j,none⟩) (Nat.lt_of_lt_of_le hlg hb.size)
  have i:=fun j=>hb.cell (p:=⟨ga,j,none⟩) hlga
  have i':=fun j=>hw.cell (p:=⟨ga,j,none⟩) (Nat.lt_of_lt_of_le hlga hb.size)
  have hk:=box_below hw hc
  have hq:=fun j=>cell_of_row w' w.heap.size j _ _ (0,0) hk
  exact ⟨(h' _).trans ((h _).trans c0),(h' _).trans ((h _).trans c1),(h' _).trans ((h _).trans c2),(h' _).trans ((h _).trans c3),(h' _).trans ((h _).trans c4),(h' _).trans ((h _).trans c5),(h' _).trans ((h _).trans c6),(i' _).trans ((i _).trans ca0),(i' _).trans ((i _).trans ca1),(i' _).trans ((i _).trans ca2),hq 2,hq 3,hq 4⟩
 have hki:(k:Int) < (a.boxes.length:Int):=by omega
 clear h0 h1 h2 hp hpb hbq hav hto c0 c1 c2 c3 c4 c5 c6 ca0 ca1 ca2 cb hint
 go_enter Tryd.func73,Tryd.ntmps73
 go_upto_region 1 with fail
 generalize ((w.alloc (.cells #[.int .i64 kd,.slice x0 n0 m0,.slice x1 n1 m1,.int .i64 uid,.int .i64 mode,.int .i64 fl,.int .i64 si,.slice x2 n2 m2] 80)).alloc (.cells #[.int .i64 0,.int .i64 0,.slice none 0 0,.int .i64 0,.int .i64 0,.int .i64 0,.slice none 0 0,.slice none 0 0,.int .i64 0,.slice none 0 0] 84))=W at HB HKC HKR hsW ⊢
 have HS:Hid (∀ w',Below W.heap.size W w'→w'.cell? ⟨g,k * 7,none⟩=some (.slice a0 q0 z0)∧w'.cell? ⟨g,k * 7+1,none⟩=some (.int .i64 b.valid)∧w'.cell? ⟨g,k * 7+2,none⟩=some (.int .i64 b.next)∧w'.cell? ⟨g,k * 7+3,none⟩=some (.int .i64 b.seq)∧w'.cell? ⟨g,k * 7+4,none⟩=some (.slice a1 b.mails.length z1)∧w'.cell? ⟨g,k * 7+5,none⟩=some (.slice a2 b.gones.length z2)∧w'.cell? ⟨g,k * 7+6,none⟩=some (.int .i64 b.lost)∧w'.cell? ⟨ga,0,none⟩=some (.int .i64 a.valid)∧w'.cell? ⟨ga,1,none⟩=some (.slice (some ⟨g,0,none⟩) a.boxes.length cap)∧w'.cell? ⟨ga,2,none⟩=some (u9)∧w'.cell? ⟨w.heap.size,2,none⟩=some (.slice x1 n1 m1)∧w'.cell? ⟨w.heap.size,3,none⟩=some (.int .i64 uid)∧w'.cell? ⟨w.heap.size,4,none⟩=some (.int .i64 mode)):=fun w' h=>HC.out W w' HB.out HKC.out h
 obtain ⟨-,-,-,-,-,-,-,s0,s1,s2,-⟩:=HS.out W (Below.refl _ _)
 have hl0:ga < W.heap.size:=by omega
 go_upto_region 2 with fail
 clear s0 s1 s2
 have DR:Below W.heap.size W W.drew:=(Below.refl _ _).drew
 have hl1:w.heap.size < W.drew.heap.size:=by show _ < W.heap.size;omega
 have hl2:g < W.drew.heap.size:=by show _ < W.heap.size;omega
 have HVD:Hid _:=HV.out W.drew (Below.step HB.out DR)
 go_region_held3 (fun w'=>w'.cell? ⟨g,k * 7,none⟩=some (.slice a0 q0 z0)∧w'.cell? ⟨g,k * 7+1,none⟩=some (.int .i64 b.valid)∧w'.cell? ⟨g,k * 7+2,none⟩=some (.int .i64 b.next)∧w'.cell? ⟨g,k * 7+3,none⟩=some (.int .i64 b.seq)∧w'.cell? ⟨g,k * 7+4,none⟩=some (.slice a1 b.mails.length z1)∧w'.cell? ⟨g,k * 7+5,none⟩=some (.slice a2 b.gones.length z2)∧w'.cell? ⟨g,k * 7+6,none⟩=some (.int .i64 b.lost)∧w'.cell? ⟨ga,0,none⟩=some (.int .i64 a.valid)∧w'.cell? ⟨ga,1,none⟩=some (.slice (some ⟨g,0,none⟩) a.boxes.length cap)∧w'.cell? ⟨ga,2,none⟩=some (u9)∧w'.cell? ⟨w.heap.size,2,none⟩=some (.slice x1 n1 m1)∧w'.cell? ⟨w.heap.size,3,none⟩=some (.int .i64 uid)∧w'.cell? ⟨w.heap.size,4,none⟩=some (.int .i64 mode))
  (first | exact HS.out _ DR | exact HS.out _ (Below.step DR B1) | go_keep)
  ((go_at_call 36;refine (l3mail_any _ b uid _ HVD.out).mono ?_;rintro e w1 ⟨rfl,B1⟩))
 have HB1:Hid (Below W.heap.size W w1):=Below.step DR B1
 have hw1:W.heap.size≤w1.heap.size:=HB1.out.size
 clear B1 HVD DR hl1 hl2
 go_upto_region 3 with fail
 have DR:Below W.heap.size W w1.drew:=HB1.out.drew
 have hl1:w.heap.size < w1.drew.heap.size:=by show _ < w1.heap.size;omega
 have hl2:g < w1.drew.heap.size:=by show _ < w1.heap.size;omega
 have hl3:ga < w1.drew.heap.size:=by show _ < w1.heap.size;omega
 have HVD:Hid _:=HAV.out w1.drew (Below.step HB.out DR)
 have HTD:Hid _:=HTO.out w1.drew (Below.step HB.out DR)
 go_region_held3 (fun w'=>w'.cell? ⟨g,k * 7,none⟩=some (.slice a0 q0 z0)∧w'.cell? ⟨g,k * 7+1,none⟩=some (.int .i64 b.valid)∧w'.cell? ⟨g,k * 7+2,none⟩=some (.int .i64 b.next)∧w'.cell? ⟨g,k * 7+3,none⟩=some (.int .i64 b.seq)∧w'.cell? ⟨g,k * 7+4,none⟩=some (.slice a1 b.mails.length z1)∧w'.cell? ⟨g,k * 7+5,none⟩=some (.slice a2 b.gones.length z2)∧w'.cell? ⟨g,k * 7+6,none⟩=some (.int .i64 b.lost)∧w'.cell? ⟨ga,0,none⟩=some (.int .i64 a.valid)∧w'.cell? ⟨ga,1,none⟩=some (.slice (some ⟨g,0,none⟩) a.boxes.length cap)∧w'.cell? ⟨ga,2,none⟩=some (u9)∧w'.cell? ⟨w.heap.size,2,none⟩=some (.slice x1 n1 m1)∧w'.cell? ⟨w.heap.size,3,none⟩=some (.int .i64 uid)∧w'.cell? ⟨w.heap.size,4,none⟩=some (.int .i64 mode))
  (first | exact HS.out _ DR | exact HS.out _ (Below.step DR B2) | go_keep)
  ((go_at_call 68;refine (l3box_any _ _ a tt _ HVD.out HTD.out hbl).mono ?_;rintro e w2 ⟨rfl,B2⟩))
 have HB2:Hid (Below W.heap.size W w2):=Below.step DR B2
 have HKR2:Hid _:=box_below HB2.out HKR.out
 have hw2:W.heap.size≤w2.heap.size:=HB2.out.size
 clear B2 HVD HTD DR hl1 hl2 hl3 HB1 hw1
 have hn3:firstI (fun m:MailD=>decide (m.uid=uid)) b.mails = -1∨(0≤firstI (fun m:MailD=>decide (m.uid=uid)) b.mails∧firstI (fun x:BoxD=>decide (x.name=tt)) a.boxes = -1):=by
  rcases HN.out with h | ⟨i,h,h2⟩
  ·exact .inl h
  ·exact .inr ⟨by omega,h2⟩
 clear HN
 generalize firstI (fun m:MailD=>decide (m.uid=uid)) b.mails=fm at *
 generalize firstI (fun x:BoxD=>decide (x.name=tt)) a.boxes=fb at *
 rcases hn3 with hf | ⟨hi0,hf2⟩
 all_goals
  obtain ⟨r0,r1,r2,r3,r4,r5,r6,r7,r8,r9⟩:=bx10 HKR2.out
  have fz:∀ i,w2.frozen? ⟨w.heap.size+1,i,none⟩=false:=fun i=>frozen_of_row w2 _ i _ _ HKR2.out
  have hlr:w.heap.size+1 < w2.heap.size:=by omega
  clear HS HKC HC HV HKR HAV HTO
  have HF:Hid _:=rep_fin (w:=w) HKR2.out (by omega) (Below.step HB.out HB2.out) 1 0
  go_wp2
  obtain ⟨f0,f1,f2,f3,f4,f5,f6,f7,f8,f9⟩:=bx10 HF.out.1
  refine bodyPost_ret (v:=.agg #[.int .i64 1,.int .i64 0,.slice none 0 0,.int .i64 0,.int .i64 0,.int .i64 0,.slice none 0 0,.slice none 0 0,.int .i64 0,.slice none 0 0]) (by simp [results,Tryd.results73,go_sem,f0,f1,f2,f3,f4,f5,f6,f7,f8,f9]) rfl ⟨_,rfl,?_,HF.out.2,HP.out _ HF.out.2⟩
  exact ⟨_,_,_,_,rfl,⟨_,_,_,rfl,bs_nil' _,Rd.nil _,Rd.nil _,i64c0,i64c0,i64c0,i64c0⟩,⟨rfl,rfl⟩,⟨by decide,by decide⟩,i64c0⟩

end Go.Proofs.YtnlhkgoppjejeaaDoor

/- What l3copy of package spec does where the box is full. -/
namespace Go.Proofs.YtnlhkgoppjejeaaDoor
open Go.RowKit
set_option maxRecDepth 100000
set_option linter.unusedVariables false
set_option linter.unusedSimpArgs false

set_option maxRecDepth 100000 in
set_option maxHeartbeats 20000000 in
theorem l3copy_full (ga k:Nat) (a:AccD) (b:BoxD) (tt:List Int) (S:Nat→Prop) (kd uid mode fl si:Int) (x0 x1 x2:Option Addr) (n0 n1 n2 m0 m1 m2:Nat) (w:World) (hp:AccP w S ga a) (hb:a.boxes[k]?=some b) (hto:Bs w (.slice x1 n1 m1) tt) (hbl:a.boxes.length≤2000000) (hsx:szX b≤2000000) (i t:Nat) (bt:BoxD) (hf:firstI (fun m:MailD=>decide (m.uid=uid)) b.mails=(i:Int)) (hf2:firstI (fun x:BoxD=>decide (x.name=tt)) a.boxes=(t:Int)) (hbt:a.boxes[t]?=some bt) (hsxt:szX bt≤2000000) (hway:(mode≠1∧roomB bt 1=false)∨(mode=1∧t=k∧roomB bt 0=false)∨(mode=1∧t≠k∧roomB bt 1=false)∨(mode=1∧t=k∧roomB bt 0=true∧999999≤b.seq)∨(mode=1∧t≠k∧roomB bt 1=true∧999999≤b.seq))  :
  Calls Tryd.prog 73 #[.pointer (some ⟨ga,0,none⟩),.int .i64 k,.agg #[.int .i64 kd,.slice x0 n0 m0,.slice x1 n1 m1,.int .i64 uid,.int .i64 mode,.int .i64 fl,.int .i64 si,.slice x2 n2 m2]] w fun e w'=>∃ u,e=.returned u∧RepC w' u (codeR 3 0)∧Below w.heap.size w w'∧AccP w' S ga a:=by
 have HW:Hid _:=hway
 clear hway
 have HP:Hid (∀ w',Below w.heap.size w w'→AccP w' S ga a):=fun w' h=>hp.below h
 have HTO:Hid (∀ w',Below w.heap.size w w'→Bs w' (.slice x1 n1 m1) tt):=fun w' h=>hto.below h
 have hlga:=hp.lt
 obtain ⟨g,cap,S1,cb,hSg,hpb,hS1,-⟩:=hp.at hb
 obtain ⟨v9,u9,ca0,ca1,ca2,hbq,hav⟩:=hp.cells
 have e9:v9=.slice (some ⟨g,0,none⟩) a.boxes.length cap:=Option.some.inj (ca1.symm.trans cb)
 subst e9
 have HAV:Hid (∀ w',Below w.heap.size w w'→AccV w' (.agg #[.int .i64 a.valid,.slice (some ⟨g,0,none⟩) a.boxes.length cap,u9]) a):=fun w' h=>hav.below h
 have hkl:k < a.boxes.length:=(List.getElem?_eq_some_iff.1 hb).1
 have hlg:g < w.heap.size:=ty_lt hpb.ty
 have hcap:a.boxes.length≤cap:=by obtain ⟨_,_,e,h,-⟩:=hbq.v.form;cases e;exact h
 obtain ⟨u0,u1,u2,h0,h1,h2,hint,c0,c1,c2,c3,c4,c5,c6⟩:=hpb.cells
 obtain ⟨a0,q0,z0,rfl⟩:=h0.bs.form3
 obtain ⟨a1,z1,rfl,-⟩:=h1.v.form
 obtain ⟨a2,z2,rfl,-⟩:=h2.1.form
 have HV:Hid (∀ w',Below w.heap.size w w'→BoxV w' (.agg #[.slice a0 q0 z0,.int .i64 b.valid,.int .i64 b.next,.int .i64 b.seq,.slice a1 b.mails.length z1,.slice a2 b.gones.length z2,.int .i64 b.lost]) b):=fun w' h=>⟨_,_,_,rfl,h0.bs.below h,h1.v.below keepsMail h,h2.1.below keepsGone h,hint⟩
 obtain ⟨HB,HKC,HKR,hsW⟩:=heads2 w (.cells #[.int .i64 kd,.slice x0 n0 m0,.slice x1 n1 m1,.int .i64 uid,.int .i64 mode,.int .i64 fl,.int .i64 si,.slice x2 n2 m2] 80) (.cells #[.int .i64 0,.int .i64 0,.slice none 0 0,.int .i64 0,.int .i64 0,.int .i64 0,.slice none 0 0,.slice none 0 0,.int .i64 0,.slice none 0 0] 84)
 have HC:Hid (∀ W w',Below w.heap.size w W→W.heap[w.heap.size]?=some (.cells #[.int .i64 kd,.slice x0 n0 m0,.slice x1 n1 m1,.int .i64 uid,.int .i64 mode,.int .i64 fl,.int .i64 si,.slice x2 n2 m2] 80 (0,0))→Below W.heap.size W w'→w'.cell? ⟨g,k * 7,none⟩=some (.slice a0 q0 z0)∧w'.cell? ⟨g,k * 7+1,none⟩=some (.int .i64 b.valid)∧w'.cell? ⟨g,k * 7+2,none⟩=some (.int .i64 b.next)∧w'.cell? ⟨g,k * 7+3,none⟩=some (.int .i64 b.seq)∧w'.cell? ⟨g,k * 7+4,none⟩=some (.slice a1 b.mails.length z1)∧w'.cell? ⟨g,k * 7+5,none⟩=some (.slice a2 b.gones.length z2)∧w'.cell? ⟨g,k * 7+6,none⟩=some (.int .i64 b.lost)∧w'.cell? ⟨ga,0,none⟩=some (.int .i64 a.valid)∧w'.cell? ⟨ga,1,none⟩=some (.slice (some ⟨g,0,none⟩) a.boxes.length cap)∧w'.cell? ⟨ga,2,none⟩=some (u9)∧w'.cell? ⟨w.heap.size,2,none⟩=some (.slice x1 n1 m1)∧w'.cell? ⟨w.heap.size,3,none⟩=some (.int .i64 uid)∧w'.cell? ⟨w.heap.size,4,none⟩=some (.int .i64 mode)):=by
  intro W w' hb hc hw
  have h:=fun j=>hb.cell (p:=⟨g,j,none⟩) hlg
  have h':=fun j=>hw.cell (p:=⟨g,j,none⟩) (Nat.lt_of_lt_of_le hlg hb.size)
  have i:=fun j=>hb.cell (p:=⟨ga,j,none⟩) hlga
  have i':=fun j=>hw.cell (p:=⟨ga,j,none⟩) (Nat.lt_of_lt_of_le hlga hb.size)
  have hk:=box_below hw hc
  have hq:=fun j=>cell_of_row w' w.heap.size j _ _ (0,0) hk
  exact ⟨(h' _).trans ((h _).trans c0),(h' _).trans ((h _).trans c1),(h' _).trans ((h _).trans c2),(h' _).trans ((h _).trans c3),(h' _).trans ((h _).trans c4),(h' _).trans ((h _).trans c5),(h' _).trans ((h _).trans c6),(i' _).trans ((i _).trans ca0),(i' _).trans ((i _).trans ca1),(i' _).trans ((i _).trans ca2),hq 2,hq 3,hq 4⟩
 have hki:(k:Int) < (a.boxes.length:Int):=by omega
 clear h0 h1 h2 hp hpb hbq hav hto c0 c1 c2 c3 c4 c5 c6 ca0 ca1 ca2 cb hint
 go_enter Tryd.func73,Tryd.ntmps73
 go_upto_region 1 with fail
 generalize ((w.alloc (.cells #[.int .i64 kd,.slice x0 n0 m0,.slice x1 n1 m1,.int .i64 uid,.int .i64 mode,.int .i64 fl,.int .i64 si,.slice x2 n2 m2] 80)).alloc (.cells #[.int .i64 0,.int .i64 0,.slice none 0 0,.int .i64 0,.int .i64 0,.int .i64 0,.slice none 0 0,.slice none 0 0,.int .i64 0,.slice none 0 0] 84))=W at HB HKC HKR hsW ⊢
 have HS:Hid (∀ w',Below W.heap.size W w'→w'.cell? ⟨g,k * 7,none⟩=some (.slice a0 q0 z0)∧w'.cell? ⟨g,k * 7+1,none⟩=some (.int .i64 b.valid)∧w'.cell? ⟨g,k * 7+2,none⟩=some (.int .i64 b.next)∧w'.cell? ⟨g,k * 7+3,none⟩=some (.int .i64 b.seq)∧w'.cell? ⟨g,k * 7+4,none⟩=some (.slice a1 b.mails.length z1)∧w'.cell? ⟨g,k * 7+5,none⟩=some (.slice a2 b.gones.length z2)∧w'.cell? ⟨g,k * 7+6,none⟩=some (.int .i64 b.lost)∧w'.cell? ⟨ga,0,none⟩=some (.int .i64 a.valid)∧w'.cell? ⟨ga,1,none⟩=some (.slice (some ⟨g,0,none⟩) a.boxes.length cap)∧w'.cell? ⟨ga,2,none⟩=some (u9)∧w'.cell? ⟨w.heap.size,2,none⟩=some (.slice x1 n1 m1)∧w'.cell? ⟨w.heap.size,3,none⟩=some (.int .i64 uid)∧w'.cell? ⟨w.heap.size,4,none⟩=some (.int .i64 mode)):=fun w' h=>HC.out W w' HB.out HKC.out h
 obtain ⟨-,-,-,-,-,-,-,s0,s1,s2,-⟩:=HS.out W (Below.refl _ _)
 have hl0:ga < W.heap.size:=by omega
 go_upto_region 2 with fail
 clear s0 s1 s2
 have DR:Below W.heap.size W W.drew:=(Below.refl _ _).drew
 have hl1:w.heap.size < W.drew.heap.size:=by show _ < W.heap.size;omega
 have hl2:g < W.drew.heap.size:=by show _ < W.heap.size;omega
 have HVD:Hid _:=HV.out W.drew (Below.step HB.out DR)
 go_region_held3 (fun w'=>w'.cell? ⟨g,k * 7,none⟩=some (.slice a0 q0 z0)∧w'.cell? ⟨g,k * 7+1,none⟩=some (.int .i64 b.valid)∧w'.cell? ⟨g,k * 7+2,none⟩=some (.int .i64 b.next)∧w'.cell? ⟨g,k * 7+3,none⟩=some (.int .i64 b.seq)∧w'.cell? ⟨g,k * 7+4,none⟩=some (.slice a1 b.mails.length z1)∧w'.cell? ⟨g,k * 7+5,none⟩=some (.slice a2 b.gones.length z2)∧w'.cell? ⟨g,k * 7+6,none⟩=some (.int .i64 b.lost)∧w'.cell? ⟨ga,0,none⟩=some (.int .i64 a.valid)∧w'.cell? ⟨ga,1,none⟩=some (.slice (some ⟨g,0,none⟩) a.boxes.length cap)∧w'.cell? ⟨ga,2,none⟩=some (u9)∧w'.cell? ⟨w.heap.size,2,none⟩=some (.slice x1 n1 m1)∧w'.cell? ⟨w.heap.size,3,none⟩=some (.int .i64 uid)∧w'.cell? ⟨w.heap.size,4,none⟩=some (.int .i64 mode))
  (first | exact HS.out _ DR | exact HS.out _ (Below.step DR B1) | go_keep)
  ((go_at_call 36;refine (l3mail_any _ b uid _ HVD.out).mono ?_;rintro e w1 ⟨rfl,B1⟩))
 have HB1:Hid (Below W.heap.size W w1):=Below.step DR B1
 have hw1:W.heap.size≤w1.heap.size:=HB1.out.size
 clear B1 HVD DR hl1 hl2
 go_upto_region 3 with fail
 have DR:Below W.heap.size W w1.drew:=HB1.out.drew
 have hl1:w.heap.size < w1.drew.heap.size:=by show _ < w1.heap.size;omega
 have hl2:g < w1.drew.heap.size:=by show _ < w1.heap.size;omega
 have hl3:ga < w1.drew.heap.size:=by show _ < w1.heap.size;omega
 have HVD:Hid _:=HAV.out w1.drew (Below.step HB.out DR)
 have HTD:Hid _:=HTO.out w1.drew (Below.step HB.out DR)
 go_region_held3 (fun w'=>w'.cell? ⟨g,k * 7,none⟩=some (.slice a0 q0 z0)∧w'.cell? ⟨g,k * 7+1,none⟩=some (.int .i64 b.valid)∧w'.cell? ⟨g,k * 7+2,none⟩=some (.int .i64 b.next)∧w'.cell? ⟨g,k * 7+3,none⟩=some (.int .i64 b.seq)∧w'.cell? ⟨g,k * 7+4,none⟩=some (.slice a1 b.mails.length z1)∧w'.cell? ⟨g,k * 7+5,none⟩=some (.slice a2 b.gones.length z2)∧w'.cell? ⟨g,k * 7+6,none⟩=some (.int .i64 b.lost)∧w'.cell? ⟨ga,0,none⟩=some (.int .i64 a.valid)∧w'.cell? ⟨ga,1,none⟩=some (.slice (some ⟨g,0,none⟩) a.boxes.length cap)∧w'.cell? ⟨ga,2,none⟩=some (u9)∧w'.cell? ⟨w.heap.size,2,none⟩=some (.slice x1 n1 m1)∧w'.cell? ⟨w.heap.size,3,none⟩=some (.int .i64 uid)∧w'.cell? ⟨w.heap.size,4,none⟩=some (.int .i64 mode))
  (first | exact HS.out _ DR | exact HS.out _ (Below.step DR B2) | go_keep)
  ((go_at_call 68;refine (l3box_any _ _ a tt _ HVD.out HTD.out hbl).mono ?_;rintro e w2 ⟨rfl,B2⟩))
 have HB2:Hid (Below W.heap.size W w2):=Below.step DR B2
 have HKR2:Hid _:=box_below HB2.out HKR.out
 have hw2:W.heap.size≤w2.heap.size:=HB2.out.size
 clear B2 HVD HTD DR hl1 hl2 hl3 HB1 hw1
 obtain ⟨-,-,-,s3,-,-,-,s7,s8,-,-,-,s12⟩:=HS.out w2 HB2.out
 obtain ⟨g',cap',S2,cb',-,hpt,-,-⟩:=(HP.out w2 (Below.step HB.out HB2.out)).at hbt
 have e9:=Option.some.inj (cb'.symm.trans s8)
 simp only [Value.slice.injEq,Option.some.injEq,Addr.mk.injEq,and_true,true_and] at e9
 obtain ⟨rfl,rfl⟩:=e9
 obtain ⟨y0',y1',y2',g0,g1,g2,gint,t0,t1,t2,t3,t4,t5,t6⟩:=hpt.cells
 obtain ⟨y0,p0,k0,rfl⟩:=g0.bs.form3
 obtain ⟨y1,k1,rfl,-⟩:=g1.v.form
 obtain ⟨y2,k2,rfl,-⟩:=g2.1.form
 have HVT:Hid (BoxV w2 (.agg #[.slice y0 p0 k0,.int .i64 bt.valid,.int .i64 bt.next,.int .i64 bt.seq,.slice y1 bt.mails.length k1,.slice y2 bt.gones.length k2,.int .i64 bt.lost]) bt):=⟨_,_,_,rfl,g0.bs,g1.v,g2.1,gint⟩
 have htl:t < a.boxes.length:=(List.getElem?_eq_some_iff.1 hbt).1
 have hti:(t:Int) < (a.boxes.length:Int):=by omega
 have hl1:w.heap.size < w2.heap.size:=by omega
 have hl2:g' < w2.heap.size:=ty_lt hpt.ty
 have hl3:ga < w2.heap.size:=by omega
 clear g0 g1 g2 gint hpt cb'
 have hw:=HW.out
 clear HW
 rcases hw with ⟨hm,hroom⟩ | ⟨hm,htk,hroom⟩ | ⟨hm,htk,hroom⟩ | ⟨hm,htk,hroom,hsq⟩ | ⟨hm,htk,hroom,hsq⟩
 all_goals try (have hm1:(mode == 1)=false:=by simp [hm])
 all_goals try subst hm
 all_goals try subst htk
 all_goals try (have htk1:((t:Int) == (k:Int))=false:=by simp;omega)
 all_goals (
  go_wp2_with fail
  first | (have tt:=(show roomB bt 1=_ from hroom);clear tt;refine (l3room_any _ bt 1 w2 HVT.out (by decide) (by decide) (by have:=szM_len bt.mails;unfold szX at hsxt;omega)).mono ?_) | refine (l3room_any _ bt 0 w2 HVT.out (by decide) (by decide) (by have:=szM_len bt.mails;unfold szX at hsxt;omega)).mono ?_
  rintro e w3 ⟨rfl,B3⟩
  have HB3:Hid (Below W.heap.size W w3):=Below.step HB2.out B3
  have HKR3:Hid _:=box_below B3 HKR2.out
  have hw3:W.heap.size≤w3.heap.size:=HB3.out.size
  have hl4:g' < w3.heap.size:=by have:=B3.size;omega
  clear B3 s3 s7 s8 s12 t0 t1 t2 t3 t4 t5 t6 HVT
  obtain ⟨-,-,-,s3,-⟩:=HS.out w3 HB3.out
  rw [hroom]
  obtain ⟨r0,r1,r2,r3,r4,r5,r6,r7,r8,r9⟩:=bx10 HKR3.out
  have fz:∀ i,w3.frozen? ⟨w.heap.size+1,i,none⟩=false:=fun i=>frozen_of_row w3 _ i _ _ HKR3.out
  have hlr:w.heap.size+1 < w3.heap.size:=by omega
  clear HS HKC HC HV HKR HAV HTO
  have HF:Hid _:=rep_fin (w:=w) HKR3.out (by omega) (Below.step HB.out HB3.out) 3 0
  go_wp2
  obtain ⟨f0,f1,f2,f3,f4,f5,f6,f7,f8,f9⟩:=bx10 HF.out.1
  refine bodyPost_ret (v:=.agg #[.int .i64 3,.int .i64 0,.slice none 0 0,.int .i64 0,.int .i64 0,.int .i64 0,.slice none 0 0,.slice none 0 0,.int .i64 0,.slice none 0 0]) (by simp [results,Tryd.results73,go_sem,f0,f1,f2,f3,f4,f5,f6,f7,f8,f9]) rfl ⟨_,rfl,?_,HF.out.2,HP.out _ HF.out.2⟩
  exact ⟨_,_,_,_,rfl,⟨_,_,_,rfl,bs_nil' _,Rd.nil _,Rd.nil _,i64c0,i64c0,i64c0,i64c0⟩,⟨rfl,rfl⟩,⟨by decide,by decide⟩,i64c0⟩)

end Go.Proofs.YtnlhkgoppjejeaaDoor

/- What l3copy of package spec does where it copies a mail. -/
namespace Go.Proofs.YtnlhkgoppjejeaaDoor
open Go.RowKit
set_option maxRecDepth 100000
set_option linter.unusedVariables false
set_option linter.unusedSimpArgs false

theorem tab_copy16:(Tryd.f73.body.bind (opsAt 16)).all (fun o=>tableS o 13 [0,1,2,3,4,5,6,7,8,9,10,11,12] [10,12] [10,13] 8)=true:=by kernel_rfl

set_option maxRecDepth 100000 in
set_option maxHeartbeats 4000000 in
theorem l3copy_cp0 (ga k:Nat) (a:AccD) (b:BoxD) (tt:List Int) (S:Nat→Prop) (kd uid mode fl si:Int) (x0 x1 x2:Option Addr) (n0 n1 n2 m0 m1 m2:Nat) (w:World) (hp:AccP w S ga a) (hb:a.boxes[k]?=some b) (hto:Bs w (.slice x1 n1 m1) tt) (hbl:a.boxes.length≤2000000) (hsx:szX b≤2000000) (i t:Nat) (bt bu:BoxD) (m:MailD) (hm:b.mails[i]?=some m) (hf:firstI (fun m:MailD=>decide (m.uid=uid)) b.mails=(i:Int)) (hf2:firstI (fun x:BoxD=>decide (x.name=tt)) a.boxes=(t:Int)) (hbt:a.boxes[t]?=some bt) (hsxt:szX bt≤2000000) (hbu:a.boxes[t]?=some bu) (hu1:bu.mails.length≤2000000) (hu2:bu.seq < 1000000000) (hu3:bu.next < 1000000000) (hm1:mode≠1) (hroom:roomB bt 1=true) :
  Calls Tryd.prog 73 #[.pointer (some ⟨ga,0,none⟩),.int .i64 k,.agg #[.int .i64 kd,.slice x0 n0 m0,.slice x1 n1 m1,.int .i64 uid,.int .i64 mode,.int .i64 fl,.int .i64 si,.slice x2 n2 m2]] w fun e w'=>∃ u S',e=.returned u∧RepC w' u (codeR 0 bu.next)∧TurnsA w w' S ga∧AccP w' S' ga (setB a t (addX bu m.flags m.text))∧∀ k,S' k→S k∨w.heap.size≤k:=by
 obtain ⟨S0,hS0e⟩:∃ S0:Nat→Prop,S0=fun k=>S k∧k < w.heap.size:=⟨_,rfl⟩
 have HSUB:Hid (∀ k,S0 k→S k):=by subst hS0e;exact fun k h=>h.1
 have HSL:Hid (∀ k,S0 k→k < w.heap.size):=by subst hS0e;exact fun k h=>h.2
 have HP:Hid (∀ w',Below w.heap.size w w'→AccP w' S0 ga a):=by subst hS0e;exact fun w' h=>hp.cut.below h
 clear hS0e
 have HTO:Hid (∀ w',Below w.heap.size w w'→Bs w' (.slice x1 n1 m1) tt):=fun w' h=>hto.below h
 have hlga:=hp.lt
 obtain ⟨g,cap,S1,cb,hSg,hpb,hS1,-⟩:=hp.at hb
 obtain ⟨v9,u9,ca0,ca1,ca2,hbq,hav⟩:=hp.cells
 have e9:v9=.slice (some ⟨g,0,none⟩) a.boxes.length cap:=Option.some.inj (ca1.symm.trans cb)
 subst e9
 have HAV:Hid (∀ w',Below w.heap.size w w'→AccV w' (.agg #[.int .i64 a.valid,.slice (some ⟨g,0,none⟩) a.boxes.length cap,u9]) a):=fun w' h=>hav.below h
 have hkl:k < a.boxes.length:=(List.getElem?_eq_some_iff.1 hb).1
 have hlg:g < w.heap.size:=ty_lt hpb.ty
 have hcap:a.boxes.length≤cap:=by obtain ⟨_,_,e,h,-⟩:=hbq.v.form;cases e;exact h
 obtain ⟨u0,u1,u2,h0,h1,h2,hint,c0,c1,c2,c3,c4,c5,c6⟩:=hpb.cells
 obtain ⟨a0,q0,z0,rfl⟩:=h0.bs.form3
 obtain ⟨a1,z1,rfl,-⟩:=h1.v.form
 obtain ⟨a2,z2,rfl,-⟩:=h2.1.form
 have HV:Hid (∀ w',Below w.heap.size w w'→BoxV w' (.agg #[.slice a0 q0 z0,.int .i64 b.valid,.int .i64 b.next,.int .i64 b.seq,.slice a1 b.mails.length z1,.slice a2 b.gones.length z2,.int .i64 b.lost]) b):=fun w' h=>⟨_,_,_,rfl,h0.bs.below h,h1.v.below keepsMail h,h2.1.below keepsGone h,hint⟩
 obtain ⟨HB,HKC,HKR,hsW⟩:=heads2 w (.cells #[.int .i64 kd,.slice x0 n0 m0,.slice x1 n1 m1,.int .i64 uid,.int .i64 mode,.int .i64 fl,.int .i64 si,.slice x2 n2 m2] 80) (.cells #[.int .i64 0,.int .i64 0,.slice none 0 0,.int .i64 0,.int .i64 0,.int .i64 0,.slice none 0 0,.slice none 0 0,.int .i64 0,.slice none 0 0] 84)
 have HC:Hid (∀ W w',Below w.heap.size w W→W.heap[w.heap.size]?=some (.cells #[.int .i64 kd,.slice x0 n0 m0,.slice x1 n1 m1,.int .i64 uid,.int .i64 mode,.int .i64 fl,.int .i64 si,.slice x2 n2 m2] 80 (0,0))→Below W.heap.size W w'→w'.cell? ⟨g,k * 7,none⟩=some (.slice a0 q0 z0)∧w'.cell? ⟨g,k * 7+1,none⟩=some (.int .i64 b.valid)∧w'.cell? ⟨g,k * 7+2,none⟩=some (.int .i64 b.next)∧w'.cell? ⟨g,k * 7+3,none⟩=some (.int .i64 b.seq)∧w'.cell? ⟨g,k * 7+4,none⟩=some (.slice a1 b.mails.length z1)∧w'.cell? ⟨g,k * 7+5,none⟩=some (.slice a2 b.gones.length z2)∧w'.cell? ⟨g,k * 7+6,none⟩=some (.int .i64 b.lost)∧w'.cell? ⟨ga,0,none⟩=some (.int .i64 a.valid)∧w'.cell? ⟨ga,1,none⟩=some (.slice (some ⟨g,0,none⟩) a.boxes.length cap)∧w'.cell? ⟨ga,2,none⟩=some (u9)∧w'.cell? ⟨w.heap.size,2,none⟩=some (.slice x1 n1 m1)∧w'.cell? ⟨w.heap.size,3,none⟩=some (.int .i64 uid)∧w'.cell? ⟨w.heap.size,4,none⟩=some (.int .i64 mode)):=by
  intro W w' hb hc hw
  have h:=fun j=>hb.cell (p:=⟨g,j,none⟩) hlg
  have h':=fun j=>hw.cell (p:=⟨g,j,none⟩) (Nat.lt_of_lt_of_le hlg hb.size)
  have i:=fun j=>hb.cell (p:=⟨ga,j,none⟩) hlga
  have i':=fun j=>hw.cell (p:=⟨ga,j,none⟩) (Nat.lt_of_lt_of_le hlga hb.size)
  have hk:=box_below hw hc
  have hq:=fun j=>cell_of_row w' w.heap.size j _ _ (0,0) hk
  exact ⟨(h' _).trans ((h _).trans c0),(h' _).trans ((h _).trans c1),(h' _).trans ((h _).trans c2),(h' _).trans ((h _).trans c3),(h' _).trans ((h _).trans c4),(h' _).trans ((h _).trans c5),(h' _).trans ((h _).trans c6),(i' _).trans ((i _).trans ca0),(i' _).trans ((i _).trans ca1),(i' _).trans ((i _).trans ca2),hq 2,hq 3,hq 4⟩
 have hki:(k:Int) < (a.boxes.length:Int):=by omega
 clear h0 h1 h2 hp hpb hbq hav hto c0 c1 c2 c3 c4 c5 c6 ca0 ca1 ca2 cb hint
 go_enter Tryd.func73,Tryd.ntmps73
 go_upto_region 1 with fail
 generalize ((w.alloc (.cells #[.int .i64 kd,.slice x0 n0 m0,.slice x1 n1 m1,.int .i64 uid,.int .i64 mode,.int .i64 fl,.int .i64 si,.slice x2 n2 m2] 80)).alloc (.cells #[.int .i64 0,.int .i64 0,.slice none 0 0,.int .i64 0,.int .i64 0,.int .i64 0,.slice none 0 0,.slice none 0 0,.int .i64 0,.slice none 0 0] 84))=W at HB HKC HKR hsW ⊢
 have HS:Hid (∀ w',Below W.heap.size W w'→w'.cell? ⟨g,k * 7,none⟩=some (.slice a0 q0 z0)∧w'.cell? ⟨g,k * 7+1,none⟩=some (.int .i64 b.valid)∧w'.cell? ⟨g,k * 7+2,none⟩=some (.int .i64 b.next)∧w'.cell? ⟨g,k * 7+3,none⟩=some (.int .i64 b.seq)∧w'.cell? ⟨g,k * 7+4,none⟩=some (.slice a1 b.mails.length z1)∧w'.cell? ⟨g,k * 7+5,none⟩=some (.slice a2 b.gones.length z2)∧w'.cell? ⟨g,k * 7+6,none⟩=some (.int .i64 b.lost)∧w'.cell? ⟨ga,0,none⟩=some (.int .i64 a.valid)∧w'.cell? ⟨ga,1,none⟩=some (.slice (some ⟨g,0,none⟩) a.boxes.length cap)∧w'.cell? ⟨ga,2,none⟩=some (u9)∧w'.cell? ⟨w.heap.size,2,none⟩=some (.slice x1 n1 m1)∧w'.cell? ⟨w.heap.size,3,none⟩=some (.int .i64 uid)∧w'.cell? ⟨w.heap.size,4,none⟩=some (.int .i64 mode)):=fun w' h=>HC.out W w' HB.out HKC.out h
 obtain ⟨-,-,-,-,-,-,-,s0,s1,s2,-⟩:=HS.out W (Below.refl _ _)
 have hl0:ga < W.heap.size:=by omega
 go_upto_region 2 with fail
 clear s0 s1 s2
 have DR:Below W.heap.size W W.drew:=(Below.refl _ _).drew
 have hl1:w.heap.size < W.drew.heap.size:=by show _ < W.heap.size;omega
 have hl2:g < W.drew.heap.size:=by show _ < W.heap.size;omega
 have HVD:Hid _:=HV.out W.drew (Below.step HB.out DR)
 go_region_held3 (fun w'=>w'.cell? ⟨g,k * 7,none⟩=some (.slice a0 q0 z0)∧w'.cell? ⟨g,k * 7+1,none⟩=some (.int .i64 b.valid)∧w'.cell? ⟨g,k * 7+2,none⟩=some (.int .i64 b.next)∧w'.cell? ⟨g,k * 7+3,none⟩=some (.int .i64 b.seq)∧w'.cell? ⟨g,k * 7+4,none⟩=some (.slice a1 b.mails.length z1)∧w'.cell? ⟨g,k * 7+5,none⟩=some (.slice a2 b.gones.length z2)∧w'.cell? ⟨g,k * 7+6,none⟩=some (.int .i64 b.lost)∧w'.cell? ⟨ga,0,none⟩=some (.int .i64 a.valid)∧w'.cell? ⟨ga,1,none⟩=some (.slice (some ⟨g,0,none⟩) a.boxes.length cap)∧w'.cell? ⟨ga,2,none⟩=some (u9)∧w'.cell? ⟨w.heap.size,2,none⟩=some (.slice x1 n1 m1)∧w'.cell? ⟨w.heap.size,3,none⟩=some (.int .i64 uid)∧w'.cell? ⟨w.heap.size,4,none⟩=some (.int .i64 mode))
  (first | exact HS.out _ DR | exact HS.out _ (Below.step DR B1) | go_keep)
  ((go_at_call 36;refine (l3mail_any _ b uid _ HVD.out).mono ?_;rintro e w1 ⟨rfl,B1⟩))
 have HB1:Hid (Below W.heap.size W w1):=Below.step DR B1
 have hw1:W.heap.size≤w1.heap.size:=HB1.out.size
 clear B1 HVD DR hl1 hl2
 go_upto_region 3 with fail
 have DR:Below W.heap.size W w1.drew:=HB1.out.drew
 have hl1:w.heap.size < w1.drew.heap.size:=by show _ < w1.heap.size;omega
 have hl2:g < w1.drew.heap.size:=by show _ < w1.heap.size;omega
 have hl3:ga < w1.drew.heap.size:=by show _ < w1.heap.size;omega
 have HVD:Hid _:=HAV.out w1.drew (Below.step HB.out DR)
 have HTD:Hid _:=HTO.out w1.drew (Below.step HB.out DR)
 go_region_held3 (fun w'=>w'.cell? ⟨g,k * 7,none⟩=some (.slice a0 q0 z0)∧w'.cell? ⟨g,k * 7+1,none⟩=some (.int .i64 b.valid)∧w'.cell? ⟨g,k * 7+2,none⟩=some (.int .i64 b.next)∧w'.cell? ⟨g,k * 7+3,none⟩=some (.int .i64 b.seq)∧w'.cell? ⟨g,k * 7+4,none⟩=some (.slice a1 b.mails.length z1)∧w'.cell? ⟨g,k * 7+5,none⟩=some (.slice a2 b.gones.length z2)∧w'.cell? ⟨g,k * 7+6,none⟩=some (.int .i64 b.lost)∧w'.cell? ⟨ga,0,none⟩=some (.int .i64 a.valid)∧w'.cell? ⟨ga,1,none⟩=some (.slice (some ⟨g,0,none⟩) a.boxes.length cap)∧w'.cell? ⟨ga,2,none⟩=some (u9)∧w'.cell? ⟨w.heap.size,2,none⟩=some (.slice x1 n1 m1)∧w'.cell? ⟨w.heap.size,3,none⟩=some (.int .i64 uid)∧w'.cell? ⟨w.heap.size,4,none⟩=some (.int .i64 mode))
  (first | exact HS.out _ DR | exact HS.out _ (Below.step DR B2) | go_keep)
  ((go_at_call 68;refine (l3box_any _ _ a tt _ HVD.out HTD.out hbl).mono ?_;rintro e w2 ⟨rfl,B2⟩))
 have HB2:Hid (Below W.heap.size W w2):=Below.step DR B2
 have HKR2:Hid _:=box_below HB2.out HKR.out
 have hw2:W.heap.size≤w2.heap.size:=HB2.out.size
 clear B2 HVD HTD DR hl1 hl2 hl3 HB1 hw1
 obtain ⟨-,-,-,s3,-,-,-,s7,s8,-,-,-,s12⟩:=HS.out w2 HB2.out
 obtain ⟨g',cap',S2,cb',-,hpt,-,-⟩:=(HP.out w2 (Below.step HB.out HB2.out)).at hbt
 have e9:=Option.some.inj (cb'.symm.trans s8)
 simp only [Value.slice.injEq,Option.some.injEq,Addr.mk.injEq,and_true,true_and] at e9
 obtain ⟨rfl,rfl⟩:=e9
 obtain ⟨y0',y1',y2',g0,g1,g2,gint,t0,t1,t2,t3,t4,t5,t6⟩:=hpt.cells
 obtain ⟨y0,p0,k0,rfl⟩:=g0.bs.form3
 obtain ⟨y1,k1,rfl,-⟩:=g1.v.form
 obtain ⟨y2,k2,rfl,-⟩:=g2.1.form
 have HVT:Hid (BoxV w2 (.agg #[.slice y0 p0 k0,.int .i64 bt.valid,.int .i64 bt.next,.int .i64 bt.seq,.slice y1 bt.mails.length k1,.slice y2 bt.gones.length k2,.int .i64 bt.lost]) bt):=⟨_,_,_,rfl,g0.bs,g1.v,g2.1,gint⟩
 have htl:t < a.boxes.length:=(List.getElem?_eq_some_iff.1 hbt).1
 have hti:(t:Int) < (a.boxes.length:Int):=by omega
 have hl1:w.heap.size < w2.heap.size:=by omega
 have hl2:g' < w2.heap.size:=ty_lt hpt.ty
 have hl3:ga < w2.heap.size:=by omega
 clear g0 g1 g2 gint hpt cb'
 have hm1:(mode == 1)=false:=by simp [hm1]
 go_wp2_with fail
 refine (l3room_any _ bt 1 w2 HVT.out (by decide) (by decide) (by have:=szM_len bt.mails;unfold szX at hsxt;omega)).mono ?_
 rintro e w3 ⟨rfl,B3⟩
 have HB3:Hid (Below W.heap.size W w3):=Below.step HB2.out B3
 have HKR3:Hid _:=box_below B3 HKR2.out
 have hw3:W.heap.size≤w3.heap.size:=HB3.out.size
 have hl4:g' < w3.heap.size:=by have:=B3.size;omega
 clear B3 s3 s7 s8 s12 t0 t1 t2 t3 t4 t5 t6 HVT
 obtain ⟨-,-,-,s3,-⟩:=HS.out w3 HB3.out
 rw [hroom]
 have X3:Below w.heap.size w w3:=Below.step HB.out HB3.out
 have HA3:Hid (AccP w3 S0 ga a):=HP.out w3 X3
 have HT3:Hid (TurnsA w w3 S0 ga):=TurnsA.below X3
 obtain ⟨gx,cx,Sx,cbx,hSgx,hpx,hSx,-⟩:=HA3.out.at hb
 obtain ⟨-,-,-,-,-,-,-,-,s8,-⟩:=HS.out w3 HB3.out
 have e9:=Option.some.inj (cbx.symm.trans s8)
 simp only [Value.slice.injEq,Option.some.injEq,Addr.mk.injEq,and_true,true_and] at e9
 obtain ⟨rfl,rfl⟩:=e9
 obtain ⟨mb,mc,ut,d4,hmc,hlm,f0,f1,f2,f3,hro,j0,j1,j2⟩:=hpx.mail4 hm
 obtain ⟨x9,n9,c9,rfl⟩:=hro.bs.form3
 have HRO:Hid (RO w3 Any (.slice x9 n9 c9) m.text):=hro
 have HJ:Hid (I64 m.flags):=j1
 have hii:(i:Int) < (b.mails.length:Int):=by have:=(List.getElem?_eq_some_iff.1 hm).1;omega
 have hlgx:gx < w3.heap.size:=hpx.lt
 have hga3:ga < w3.heap.size:=by omega
 have hr3:w.heap.size+1 < w3.heap.size:=by omega
 have HG3:Hid (w3.cell? ⟨ga,1,none⟩=some (.slice (some ⟨gx,0,none⟩) a.boxes.length cx)):=cbx
 clear hpx hro j0 j1 j2 cbx hSx hSgx X3 hl4 HS HKC HC HV HKR HAV HTO s8
 go_upto_region 13 with fail
 have AB:Below w3.heap.size w3 (w3.alloc (.cells #[.int .i64 m.uid,.int .i64 m.flags,.int .i64 m.seq,.slice x9 n9 c9] 67)):=(Below.refl _ _).alloc (Nat.le_refl _) _
 have HKM:Hid ((w3.alloc (.cells #[.int .i64 m.uid,.int .i64 m.flags,.int .i64 m.seq,.slice x9 n9 c9] 67)).heap[w3.heap.size]?=some (.cells #[.int .i64 m.uid,.int .i64 m.flags,.int .i64 m.seq,.slice x9 n9 c9] 67 (0,0))):=box_new w3 _
 have HA4:Hid (AccP (w3.alloc (.cells #[.int .i64 m.uid,.int .i64 m.flags,.int .i64 m.seq,.slice x9 n9 c9] 67)) S0 ga a):=HA3.out.below AB
 have HRO4:Hid (RO (w3.alloc (.cells #[.int .i64 m.uid,.int .i64 m.flags,.int .i64 m.seq,.slice x9 n9 c9] 67)) Any (.slice x9 n9 c9) m.text):=HRO.out.below AB
 have HT4:Hid (TurnsA w (w3.alloc (.cells #[.int .i64 m.uid,.int .i64 m.flags,.int .i64 m.seq,.slice x9 n9 c9] 67)) S0 ga):=HT3.out.trans (TurnsA.below (S:=S0) AB) (fun k h=>.inl h)
 have HKR4:Hid _:=box_below AB HKR3.out
 have HG1:Hid ((w3.alloc (.cells #[.int .i64 m.uid,.int .i64 m.flags,.int .i64 m.seq,.slice x9 n9 c9] 67)).cell? ⟨ga,1,none⟩=some (.slice (some ⟨gx,0,none⟩) a.boxes.length cx)):=(AB.cell (p:=⟨ga,1,none⟩) hga3).trans HG3.out
 have hw4:(w3.alloc (.cells #[.int .i64 m.uid,.int .i64 m.flags,.int .i64 m.seq,.slice x9 n9 c9] 67)).heap.size=w3.heap.size+1:=by simp
 generalize (w3.alloc (.cells #[.int .i64 m.uid,.int .i64 m.flags,.int .i64 m.seq,.slice x9 n9 c9] 67))=w4 at HKM HA4 HRO4 HT4 HKR4 HG1 hw4 ⊢
 clear HG3 AB HA3 HRO HT3 HKR3 f0 f1 f2 f3 d4 hlm hmc HB3 s3 HB HKR2 HB2
 have HA6:Hid (AccP w4 S0 ga a):=HA4
 have HT6:Hid (TurnsA w w4 S0 ga):=HT4
 have HKM6:Hid (w4.heap[w3.heap.size]?=some (.cells #[.int .i64 m.uid,.int .i64 m.flags,.int .i64 m.seq,.slice x9 n9 c9] 67 (0,0))):=HKM
 have HKR6:Hid (w4.heap[w.heap.size+1]?=some (.cells #[.int .i64 0,.int .i64 0,.slice none 0 0,.int .i64 0,.int .i64 0,.int .i64 0,.slice none 0 0,.slice none 0 0,.int .i64 0,.slice none 0 0] 84 (0,0))):=HKR4
 have HRO6:Hid (RO w4 Any (.slice x9 n9 c9) m.text):=HRO4
 have hw6:w4.heap.size≤w4.heap.size:=Nat.le_refl _
 have HSB:Hid (∀ k,S0 k→(k < w.heap.size∨w3.heap.size < k)∧(S0 k∨w.heap.size≤k)):=fun k h=>⟨.inl (HSL.out k h),.inl h⟩
 clear HA4 HT4 HKM HKR4 HRO4 HG1
 go_upto_region 16 with fail
 have hDR:Below w4.heap.size w4 w4.drew:=(Below.refl _ _).drew
 have HAD:Hid (AccP w4.drew S0 ga a):=HA6.out.below hDR
 obtain ⟨gt,ct,St,cbt,hSgt,hpt,hSt,hbackt⟩:=HAD.out.at hbu
 have HBT:Hid _:=hbackt
 have HPT:Hid (BoxP w4.drew St gt (t * 7) bu):=hpt
 have HST:Hid (∀ k,St k→S0 k):=fun k h=>(hSt k h).1
 have htl9:(t:Int) < (a.boxes.length:Int):=by have:=(List.getElem?_eq_some_iff.1 hbu).1;omega
 have htl8:t < a.boxes.length:=(List.getElem?_eq_some_iff.1 hbu).1
 have hlgt:gt < w4.drew.heap.size:=hpt.lt
 have hlg9:ga < w4.drew.heap.size:=HAD.out.lt
 have hlm9:w3.heap.size < w4.drew.heap.size:=by show _ < w4.heap.size;omega
 have hlr9:w.heap.size+1 < w4.drew.heap.size:=by show _ < w4.heap.size;omega
 obtain ⟨-,n1,-,n3⟩:=bx4 (box_below hDR HKM6.out)
 have hwd:w4.heap.size=w4.drew.heap.size:=rfl
 have HRD:Hid (∀ w',w4.drew.heap.size≤w'.heap.size→StayT w4.drew w' 5→Bs w' (.slice x9 n9 c9) m.text):=(HRO6.out.below hDR).stay
 have HTD:Hid (TurnsA w w4.drew S0 ga):=HT6.out.trans (TurnsA.below (S:=S0) hDR) (fun k h=>.inl h)
 have HKD:Hid (w4.drew.heap[w.heap.size+1]?=some (.cells #[.int .i64 0,.int .i64 0,.slice none 0 0,.int .i64 0,.int .i64 0,.int .i64 0,.slice none 0 0,.slice none 0 0,.int .i64 0,.slice none 0 0] 84 (0,0))):=box_below hDR HKR6.out
 have hbn:=HPT.out.cells
 obtain ⟨-,-,-,-,-,-,⟨-,hbn64,-,-⟩,-⟩:=hbn
 have HBN:Hid (I64 bu.next):=hbn64
 clear hpt hbackt hDR hbn64 hSt
 refine wpS_begin 10 (S:=fun w'=>(w'.cell? ⟨ga,1,none⟩=some (.slice (some ⟨gt,0,none⟩) a.boxes.length ct)∧w'.cell? ⟨w3.heap.size,1,none⟩=some (.int .i64 m.flags)∧w'.cell? ⟨w3.heap.size,3,none⟩=some (.slice x9 n9 c9))) (tabS_of (by kernel_rfl) tab_copy16) (by kernel_rfl) (⟨cbt,n1,n3⟩) (fun hTb hHeld=>?_)
 refine tks 0 0 86 hTb hHeld ?_
 refine tks 1 1 87 hTb hHeld ?_
 refine tks 2 2 88 hTb hHeld ?_
 refine tks 3 3 89 hTb hHeld ?_
 refine tks 4 4 90 hTb hHeld ?_
 refine tks 5 5 91 hTb hHeld ?_
 refine tks 6 6 92 hTb hHeld ?_
 refine tks 7 7 93 hTb hHeld ?_
 refine tks 8 8 94 hTb hHeld ?_
 refine tks 9 9 95 hTb hHeld ?_
 refine wpS_next (S':=fun w'=>True) 10 13 hTb (by decide) (trivial) (fun hHeld=>?_)
 refine cls 10 10 hTb (by decide) rfl rfl (fun K hK=>?_)
 go_simp
 refine (l3add_r gt (t * 7) bu St m.flags _ m.text _ HPT.out HJ.out HRD.out (by have:=szM_mem (List.mem_of_getElem? hm);unfold szX at hsx;omega) hu1 hu2 hu3).mono ?_
 rintro e w7 ⟨rfl,hT7,hP7⟩
 have HA7:Hid (AccP w7 (fun k=>S0 k∨w4.drew.heap.size≤k) ga (setB a t (addX bu m.flags m.text))):=HBT.out w7 _ _ hT7 hP7 (fun k h=>h)
 have HT7:Hid (TurnsA w w7 S0 ga):=HTD.out.trans (TurnsA.box hT7 hSgt HST.out) (fun k h=>(HSB.out k h).2)
 have hsz7:=hT7.1
 have HK7:Hid (w7.heap[w.heap.size+1]?=some (.cells #[.int .i64 0,.int .i64 0,.slice none 0 0,.int .i64 0,.int .i64 0,.int .i64 0,.slice none 0 0,.slice none 0 0,.int .i64 0,.slice none 0 0] 84 (0,0))):=(hT7.2.1 _ hlr9 (fun e=>by have:=(HSB.out gt hSgt).1;omega) (fun h=>by have:=(HSB.out _ (HST.out _ h)).1;omega)).trans HKD.out
 clear hT7 hP7
 refine hK.out _ _ (trivial) (fun hHeld=>?_)
 clear hK K
 refine tks 11 11 97 hTb hHeld ?_
 refine cls 12 12 hTb (by decide) rfl rfl (fun K hK=>?_)
 obtain ⟨r0,r1,r2,r3,r4,r5,r6,r7,r8,r9⟩:=bx10 HK7.out
 have fz:∀ i,w7.frozen? ⟨w.heap.size+1,i,none⟩=false:=fun i=>frozen_of_row w7 _ i _ _ HK7.out
 have hlr:=lt_of_heap HK7.out
 have HF:Hid _:=rep_turnA (w:=w) HK7.out (by omega) HT7.out _ _ HA7.out hlga (fun h=>h.elim (fun h=>by have:=(HSB.out _ h).1;omega) (fun h=>by omega)) 0 bu.next ⟨i64c0,HBN.out⟩
 go_simp
 refine hK.out _ _ (trivial) (fun hHeld=>?_)
 clear hK K
 refine wpS_end hTb ?_
 go_wp2
 obtain ⟨f0,f1,f2,f3,f4,f5,f6,f7,f8,f9⟩:=bx10 HF.out.1
 refine bodyPost_ret (v:=.agg #[.int .i64 0,.int .i64 bu.next,.slice none 0 0,.int .i64 0,.int .i64 0,.int .i64 0,.slice none 0 0,.slice none 0 0,.int .i64 0,.slice none 0 0]) (by simp [results,Tryd.results73,go_sem,f0,f1,f2,f3,f4,f5,f6,f7,f8,f9]) rfl ⟨_,_,rfl,HF.out.2.2.2,TurnsA.wide HF.out.2.1 HSUB.out,HF.out.2.2.1,fun k h=>?_⟩
 rcases h with h | h
 ·exact (HSB.out k h).2.elim (fun h=>.inl (HSUB.out k h)) .inr
 ·exact .inr (by omega)

end Go.Proofs.YtnlhkgoppjejeaaDoor
