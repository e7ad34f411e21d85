/- The proof's texts, part 32. -/
import Derived.Test.YtlneebmlhblleaaGreatTt
import Derived.Test.YtlneebmlhblleaaGreatTu
namespace Go.Proofs.YtlneebmlhblleaaGreat
open Go.RowKit
set_option linter.unusedVariables false
set_option linter.unusedSimpArgs false
set_option maxHeartbeats 20000000
set_option maxRecDepth 100000
/- What Ii of package spec does where it copies nothing. -/
theorem Vg (ga k:Nat) (a:aJ) (b:aD) (tt:List Int) (S:Nat→Prop) (kd uid mode fl si:Int) (x0 x1 x2:Option Addr) (n0 n1 n2 m0 m1 m2:Nat) (w:World) (hp:aU w S ga a) (hb:a.boxes[k]?=some b) (hto:Bs w (.slice x1 n1 m1) tt) (hbl:a.boxes.length≤2000000) (hsx:bA b≤2000000) (hf:bB (fun m:aF=>decide (m.uid=uid)) b.ah = -1∨∃ i:Nat,bB (fun m:aF=>decide (m.uid=uid)) b.ah=(i:Int)∧bB (fun x:aD=>decide (x.name=tt)) a.boxes = -1) :
  Calls Tryz.prog 60 #[.pointer (some ⟨ga,0,none⟩),.int .i64 k,.agg #[.int .i64 kd,.slice x0 n0 m0,.slice x1 n1 m1,.int .i64 uid,.int .i64 mode,.int .i64 fl,.int .i64 si,.slice x2 n2 m2]] w fun e w'=>∃ u,e=.returned u∧jk w' u (aQ 1 0)∧Below w.heap.size w w'∧aU w' S ga a:=by
 have HP:Hid (∀ w',Below w.heap.size w w'→aU w' S ga a):=fun w' h=>hp.below h
 have HN:Hid _:=hf
 clear hf
 have kE:Hid (∀ w',Below w.heap.size w w'→Bs w' (.slice x1 n1 m1) tt):=fun w' h=>hto.below h
 have gY:=hp.lt
 obtain ⟨g,cap,S1,cb,iW,hpb,hS1,-⟩:=hp.at hb
 obtain ⟨v9,u9,mG,jM,mH,hbq,oC⟩:=hp.cells
 have e9:v9=.slice (some ⟨g,0,none⟩) a.boxes.length cap:=Option.some.inj (jM.symm.trans cb)
 subst e9
 have iZ:Hid (∀ w',Below w.heap.size w w'→dM w' (.agg #[.int .i64 a.valid,.slice (some ⟨g,0,none⟩) a.boxes.length cap,u9]) a):=fun w' h=>oC.below h
 have hkl:k < a.boxes.length:=(gs1 hb).1
 have bM:g < w.heap.size:=mq hpb.ty
 have hcap:a.boxes.length≤cap:=by obtain ⟨_,_,e,h,-⟩:=hbq.v.form;cases e;exact h
 obtain ⟨u0,u1,u2,h0,h1,h2,hint,c0,c1,c2,c3,c4,c5,c6⟩:=hpb.cells
 obtain ⟨a0,q0,z0,rfl⟩:=h0.bs.aG
 obtain ⟨a1,z1,rfl,-⟩:=h1.v.form
 obtain ⟨a2,z2,rfl,-⟩:=h2.1.form
 have HV:Hid (∀ w',Below w.heap.size w w'→bK w' (.agg #[.slice a0 q0 z0,.int .i64 b.valid,.int .i64 b.next,.int .i64 b.seq,.slice a1 b.ah.length z1,.slice a2 b.au.length z2,.int .i64 b.lost]) b):=fun w' h=>⟨_,_,_,rfl,h0.bs.below h,h1.v.below eU h,h2.1.below dY h,hint⟩
 obtain ⟨HB,bC,aO,jm⟩:=uP w (.cells #[.int .i64 kd,.slice x0 n0 m0,.slice x1 n1 m1,.int .i64 uid,.int .i64 mode,.int .i64 fl,.int .i64 si,.slice x2 n2 m2] 44) (.cells #[.int .i64 0,.int .i64 0,.slice none 0 0,.int .i64 0,.int .i64 0,.int .i64 0,.slice none 0 0,.slice none 0 0,.int .i64 0,.slice none 0 0] 40)
 have HC:Hid (∀ W w',Below w.heap.size w W→W.heap[w.heap.size]?=some (.cells #[.int .i64 kd,.slice x0 n0 m0,.slice x1 n1 m1,.int .i64 uid,.int .i64 mode,.int .i64 fl,.int .i64 si,.slice x2 n2 m2] 44 (0,0))→Below W.heap.size W w'→w'.cell? ⟨g,k * 7,none⟩=some (.slice a0 q0 z0)∧w'.cell? ⟨g,k * 7+1,none⟩=some (.int .i64 b.valid)∧w'.cell? ⟨g,k * 7+2,none⟩=some (.int .i64 b.next)∧w'.cell? ⟨g,k * 7+3,none⟩=some (.int .i64 b.seq)∧w'.cell? ⟨g,k * 7+4,none⟩=some (.slice a1 b.ah.length z1)∧w'.cell? ⟨g,k * 7+5,none⟩=some (.slice a2 b.au.length z2)∧w'.cell? ⟨g,k * 7+6,none⟩=some (.int .i64 b.lost)∧w'.cell? ⟨ga,0,none⟩=some (.int .i64 a.valid)∧w'.cell? ⟨ga,1,none⟩=some (.slice (some ⟨g,0,none⟩) a.boxes.length cap)∧w'.cell? ⟨ga,2,none⟩=some (u9)∧w'.cell? ⟨w.heap.size,2,none⟩=some (.slice x1 n1 m1)∧w'.cell? ⟨w.heap.size,3,none⟩=some (.int .i64 uid)∧w'.cell? ⟨w.heap.size,4,none⟩=some (.int .i64 mode)):=by
  intro W w' hb hc hw
  have h:=fun j=>hb.cell (p:=⟨g,j,none⟩) bM
  have h':=fun j=>hw.cell (p:=⟨g,j,none⟩) (Nat.lt_of_lt_of_le bM hb.size)
  have i:=fun j=>hb.cell (p:=⟨ga,j,none⟩) gY
  have i':=fun j=>hw.cell (p:=⟨ga,j,none⟩) (Nat.lt_of_lt_of_le gY hb.size)
  have hk:=ay hw hc
  have hq:=fun j=>cell_of_row w' w.heap.size j _ _ (0,0) hk
  exact ⟨(h' _).trans ((h _).trans c0),(h' _).trans ((h _).trans c1),(h' _).trans ((h _).trans c2),(h' _).trans ((h _).trans c3),(h' _).trans ((h _).trans c4),(h' _).trans ((h _).trans c5),(h' _).trans ((h _).trans c6),(i' _).trans ((i _).trans mG),(i' _).trans ((i _).trans jM),(i' _).trans ((i _).trans mH),hq 2,hq 3,hq 4⟩
 have hki:(k:Int) < (a.boxes.length:Int):=by omega
 clear h0 h1 h2 hp hpb hbq oC hto c0 c1 c2 c3 c4 c5 c6 mG jM mH cb hint
 go_enter Tryz.func60,Tryz.ntmps60
 go_upto_region 1 with fail
 generalize ((w.alloc (.cells #[.int .i64 kd,.slice x0 n0 m0,.slice x1 n1 m1,.int .i64 uid,.int .i64 mode,.int .i64 fl,.int .i64 si,.slice x2 n2 m2] 44)).alloc (.cells #[.int .i64 0,.int .i64 0,.slice none 0 0,.int .i64 0,.int .i64 0,.int .i64 0,.slice none 0 0,.slice none 0 0,.int .i64 0,.slice none 0 0] 40))=W at HB bC aO jm ⊢
 have HS:Hid (∀ w',Below W.heap.size W w'→w'.cell? ⟨g,k * 7,none⟩=some (.slice a0 q0 z0)∧w'.cell? ⟨g,k * 7+1,none⟩=some (.int .i64 b.valid)∧w'.cell? ⟨g,k * 7+2,none⟩=some (.int .i64 b.next)∧w'.cell? ⟨g,k * 7+3,none⟩=some (.int .i64 b.seq)∧w'.cell? ⟨g,k * 7+4,none⟩=some (.slice a1 b.ah.length z1)∧w'.cell? ⟨g,k * 7+5,none⟩=some (.slice a2 b.au.length z2)∧w'.cell? ⟨g,k * 7+6,none⟩=some (.int .i64 b.lost)∧w'.cell? ⟨ga,0,none⟩=some (.int .i64 a.valid)∧w'.cell? ⟨ga,1,none⟩=some (.slice (some ⟨g,0,none⟩) a.boxes.length cap)∧w'.cell? ⟨ga,2,none⟩=some (u9)∧w'.cell? ⟨w.heap.size,2,none⟩=some (.slice x1 n1 m1)∧w'.cell? ⟨w.heap.size,3,none⟩=some (.int .i64 uid)∧w'.cell? ⟨w.heap.size,4,none⟩=some (.int .i64 mode)):=fun w' h=>HC.out W w' HB.out bC.out h
 obtain ⟨-,-,-,-,-,-,-,s0,s1,s2,-⟩:=HS.out W (Below.refl _ _)
 have hl0:ga < W.heap.size:=by omega
 go_upto_region 2 with fail
 clear s0 s1 s2
 have DR:Below W.heap.size W W.drew:=bd _ _
 have hl1:w.heap.size < W.drew.heap.size:=by show _ < W.heap.size;omega
 have hl2:g < W.drew.heap.size:=by show _ < W.heap.size;omega
 have dR:Hid _:=HV.out W.drew (Below.step HB.out DR)
 go_region_held3 (fun w'=>w'.cell? ⟨g,k * 7,none⟩=some (.slice a0 q0 z0)∧w'.cell? ⟨g,k * 7+1,none⟩=some (.int .i64 b.valid)∧w'.cell? ⟨g,k * 7+2,none⟩=some (.int .i64 b.next)∧w'.cell? ⟨g,k * 7+3,none⟩=some (.int .i64 b.seq)∧w'.cell? ⟨g,k * 7+4,none⟩=some (.slice a1 b.ah.length z1)∧w'.cell? ⟨g,k * 7+5,none⟩=some (.slice a2 b.au.length z2)∧w'.cell? ⟨g,k * 7+6,none⟩=some (.int .i64 b.lost)∧w'.cell? ⟨ga,0,none⟩=some (.int .i64 a.valid)∧w'.cell? ⟨ga,1,none⟩=some (.slice (some ⟨g,0,none⟩) a.boxes.length cap)∧w'.cell? ⟨ga,2,none⟩=some (u9)∧w'.cell? ⟨w.heap.size,2,none⟩=some (.slice x1 n1 m1)∧w'.cell? ⟨w.heap.size,3,none⟩=some (.int .i64 uid)∧w'.cell? ⟨w.heap.size,4,none⟩=some (.int .i64 mode))
  (first | exact HS.out _ DR | exact HS.out _ (Below.step DR B1) | go_keep)
  ((go_at_call 62;refine (sI _ b uid _ dR.out).mono ?_;rintro e w1 ⟨rfl,B1⟩))
 have HB1:Hid (Below W.heap.size W w1):=Below.step DR B1
 have hw1:W.heap.size≤w1.heap.size:=HB1.out.size
 clear B1 dR DR hl1 hl2
 go_upto_region 3 with fail
 have DR:Below W.heap.size W w1.drew:=HB1.out.drew
 have hl1:w.heap.size < w1.drew.heap.size:=by show _ < w1.heap.size;omega
 have hl2:g < w1.drew.heap.size:=by show _ < w1.heap.size;omega
 have hl3:ga < w1.drew.heap.size:=by show _ < w1.heap.size;omega
 have dR:Hid _:=iZ.out w1.drew (Below.step HB.out DR)
 have nN:Hid _:=kE.out w1.drew (Below.step HB.out DR)
 go_region_held3 (fun w'=>w'.cell? ⟨g,k * 7,none⟩=some (.slice a0 q0 z0)∧w'.cell? ⟨g,k * 7+1,none⟩=some (.int .i64 b.valid)∧w'.cell? ⟨g,k * 7+2,none⟩=some (.int .i64 b.next)∧w'.cell? ⟨g,k * 7+3,none⟩=some (.int .i64 b.seq)∧w'.cell? ⟨g,k * 7+4,none⟩=some (.slice a1 b.ah.length z1)∧w'.cell? ⟨g,k * 7+5,none⟩=some (.slice a2 b.au.length z2)∧w'.cell? ⟨g,k * 7+6,none⟩=some (.int .i64 b.lost)∧w'.cell? ⟨ga,0,none⟩=some (.int .i64 a.valid)∧w'.cell? ⟨ga,1,none⟩=some (.slice (some ⟨g,0,none⟩) a.boxes.length cap)∧w'.cell? ⟨ga,2,none⟩=some (u9)∧w'.cell? ⟨w.heap.size,2,none⟩=some (.slice x1 n1 m1)∧w'.cell? ⟨w.heap.size,3,none⟩=some (.int .i64 uid)∧w'.cell? ⟨w.heap.size,4,none⟩=some (.int .i64 mode))
  (first | exact HS.out _ DR | exact HS.out _ (Below.step DR B2) | go_keep)
  ((go_at_call 55;refine (uM _ _ a tt _ dR.out nN.out hbl).mono ?_;rintro e w2 ⟨rfl,B2⟩))
 have HB2:Hid (Below W.heap.size W w2):=Below.step DR B2
 have bV:Hid _:=ay HB2.out aO.out
 have hw2:W.heap.size≤w2.heap.size:=HB2.out.size
 clear B2 dR nN DR hl1 hl2 hl3 HB1 hw1
 have Ag:bB (fun m:aF=>decide (m.uid=uid)) b.ah = -1∨(0≤bB (fun m:aF=>decide (m.uid=uid)) b.ah∧bB (fun x:aD=>decide (x.name=tt)) a.boxes = -1):=by
  rcases HN.out with h | ⟨i,h,h2⟩
  ·exact .inl h
  ·exact .inr ⟨by omega,h2⟩
 clear HN
 generalize bB (fun m:aF=>decide (m.uid=uid)) b.ah=fm at *
 generalize bB (fun x:aD=>decide (x.name=tt)) a.boxes=fb at *
 rcases Ag with hf | ⟨hi0,hf2⟩
 all_goals
  obtain ⟨r0,r1,r2,r3,r4,r5,r6,r7,r8,r9⟩:=aM bV.out
  have fz:∀ i,w2.frozen? ⟨w.heap.size+1,i,none⟩=false:=fun i=>frozen_of_row w2 _ i _ _ bV.out
  have hlr:w.heap.size+1 < w2.heap.size:=by omega
  clear HS bC HC HV aO iZ kE
  have HF:Hid _:=oW (w:=w) bV.out (by omega) (Below.step HB.out HB2.out) 1 0
  go_wp2
  have ff:=aM HF.out.1
  refine bodyPost_ret (v:=.agg #[.int .i64 1,.int .i64 0,.slice none 0 0,.int .i64 0,.int .i64 0,.int .i64 0,.slice none 0 0,.slice none 0 0,.int .i64 0,.slice none 0 0]) (by simp [results,Tryz.results60,go_sem,ff]) rfl ⟨_,rfl,?_,HF.out.2,HP.out _ HF.out.2⟩
  exact ⟨_,_,_,_,rfl,⟨_,_,_,rfl,ng _,Rd.nil _,Rd.nil _,aI,aI,aI,aI⟩,⟨rfl,rfl⟩,⟨by decide,by decide⟩,aI⟩
/- What Ii of package spec does where the box is full. -/
theorem Ei (ga k:Nat) (a:aJ) (b:aD) (tt:List Int) (S:Nat→Prop) (kd uid mode fl si:Int) (x0 x1 x2:Option Addr) (n0 n1 n2 m0 m1 m2:Nat) (w:World) (hp:aU w S ga a) (hb:a.boxes[k]?=some b) (hto:Bs w (.slice x1 n1 m1) tt) (hbl:a.boxes.length≤2000000) (hsx:bA b≤2000000) (i t:Nat) (bt:aD) (hf:bB (fun m:aF=>decide (m.uid=uid)) b.ah=(i:Int)) (hf2:bB (fun x:aD=>decide (x.name=tt)) a.boxes=(t:Int)) (hbt:a.boxes[t]?=some bt) (mI:bA bt≤2000000) (Ej:(mode≠1∧dx bt 1=false)∨(mode=1∧t=k∧dx bt 0=false)∨(mode=1∧t≠k∧dx bt 1=false)∨(mode=1∧t=k∧dx bt 0=true∧999999≤b.seq)∨(mode=1∧t≠k∧dx bt 1=true∧999999≤b.seq))  :
  Calls Tryz.prog 60 #[.pointer (some ⟨ga,0,none⟩),.int .i64 k,.agg #[.int .i64 kd,.slice x0 n0 m0,.slice x1 n1 m1,.int .i64 uid,.int .i64 mode,.int .i64 fl,.int .i64 si,.slice x2 n2 m2]] w fun e w'=>∃ u,e=.returned u∧jk w' u (aQ 3 0)∧Below w.heap.size w w'∧aU w' S ga a:=by
 have HW:Hid _:=Ej
 clear Ej
 have HP:Hid (∀ w',Below w.heap.size w w'→aU w' S ga a):=fun w' h=>hp.below h
 have kE:Hid (∀ w',Below w.heap.size w w'→Bs w' (.slice x1 n1 m1) tt):=fun w' h=>hto.below h
 have gY:=hp.lt
 obtain ⟨g,cap,S1,cb,iW,hpb,hS1,-⟩:=hp.at hb
 obtain ⟨v9,u9,mG,jM,mH,hbq,oC⟩:=hp.cells
 have e9:v9=.slice (some ⟨g,0,none⟩) a.boxes.length cap:=Option.some.inj (jM.symm.trans cb)
 subst e9
 have iZ:Hid (∀ w',Below w.heap.size w w'→dM w' (.agg #[.int .i64 a.valid,.slice (some ⟨g,0,none⟩) a.boxes.length cap,u9]) a):=fun w' h=>oC.below h
 have hkl:k < a.boxes.length:=(gs1 hb).1
 have bM:g < w.heap.size:=mq hpb.ty
 have hcap:a.boxes.length≤cap:=by obtain ⟨_,_,e,h,-⟩:=hbq.v.form;cases e;exact h
 obtain ⟨u0,u1,u2,h0,h1,h2,hint,c0,c1,c2,c3,c4,c5,c6⟩:=hpb.cells
 obtain ⟨a0,q0,z0,rfl⟩:=h0.bs.aG
 obtain ⟨a1,z1,rfl,-⟩:=h1.v.form
 obtain ⟨a2,z2,rfl,-⟩:=h2.1.form
 have HV:Hid (∀ w',Below w.heap.size w w'→bK w' (.agg #[.slice a0 q0 z0,.int .i64 b.valid,.int .i64 b.next,.int .i64 b.seq,.slice a1 b.ah.length z1,.slice a2 b.au.length z2,.int .i64 b.lost]) b):=fun w' h=>⟨_,_,_,rfl,h0.bs.below h,h1.v.below eU h,h2.1.below dY h,hint⟩
 obtain ⟨HB,bC,aO,jm⟩:=uP w (.cells #[.int .i64 kd,.slice x0 n0 m0,.slice x1 n1 m1,.int .i64 uid,.int .i64 mode,.int .i64 fl,.int .i64 si,.slice x2 n2 m2] 44) (.cells #[.int .i64 0,.int .i64 0,.slice none 0 0,.int .i64 0,.int .i64 0,.int .i64 0,.slice none 0 0,.slice none 0 0,.int .i64 0,.slice none 0 0] 40)
 have HC:Hid (∀ W w',Below w.heap.size w W→W.heap[w.heap.size]?=some (.cells #[.int .i64 kd,.slice x0 n0 m0,.slice x1 n1 m1,.int .i64 uid,.int .i64 mode,.int .i64 fl,.int .i64 si,.slice x2 n2 m2] 44 (0,0))→Below W.heap.size W w'→w'.cell? ⟨g,k * 7,none⟩=some (.slice a0 q0 z0)∧w'.cell? ⟨g,k * 7+1,none⟩=some (.int .i64 b.valid)∧w'.cell? ⟨g,k * 7+2,none⟩=some (.int .i64 b.next)∧w'.cell? ⟨g,k * 7+3,none⟩=some (.int .i64 b.seq)∧w'.cell? ⟨g,k * 7+4,none⟩=some (.slice a1 b.ah.length z1)∧w'.cell? ⟨g,k * 7+5,none⟩=some (.slice a2 b.au.length z2)∧w'.cell? ⟨g,k * 7+6,none⟩=some (.int .i64 b.lost)∧w'.cell? ⟨ga,0,none⟩=some (.int .i64 a.valid)∧w'.cell? ⟨ga,1,none⟩=some (.slice (some ⟨g,0,none⟩) a.boxes.length cap)∧w'.cell? ⟨ga,2,none⟩=some (u9)∧w'.cell? ⟨w.heap.size,2,none⟩=some (.slice x1 n1 m1)∧w'.cell? ⟨w.heap.size,3,none⟩=some (.int .i64 uid)∧w'.cell? ⟨w.heap.size,4,none⟩=some (.int .i64 mode)):=by
  intro W w' hb hc hw
  have h:=fun j=>hb.cell (p:=⟨g,j,none⟩) bM
  have h':=fun j=>hw.cell (p:=⟨g,j,none⟩) (Nat.lt_of_lt_of_le bM hb.size)
  have i:=fun j=>hb.cell (p:=⟨ga,j,none⟩) gY
  have i':=fun j=>hw.cell (p:=⟨ga,j,none⟩) (Nat.lt_of_lt_of_le gY hb.size)
  have hk:=ay hw hc
  have hq:=fun j=>cell_of_row w' w.heap.size j _ _ (0,0) hk
  exact ⟨(h' _).trans ((h _).trans c0),(h' _).trans ((h _).trans c1),(h' _).trans ((h _).trans c2),(h' _).trans ((h _).trans c3),(h' _).trans ((h _).trans c4),(h' _).trans ((h _).trans c5),(h' _).trans ((h _).trans c6),(i' _).trans ((i _).trans mG),(i' _).trans ((i _).trans jM),(i' _).trans ((i _).trans mH),hq 2,hq 3,hq 4⟩
 have hki:(k:Int) < (a.boxes.length:Int):=by omega
 clear h0 h1 h2 hp hpb hbq oC hto c0 c1 c2 c3 c4 c5 c6 mG jM mH cb hint
 go_enter Tryz.func60,Tryz.ntmps60
 go_upto_region 1 with fail
 generalize ((w.alloc (.cells #[.int .i64 kd,.slice x0 n0 m0,.slice x1 n1 m1,.int .i64 uid,.int .i64 mode,.int .i64 fl,.int .i64 si,.slice x2 n2 m2] 44)).alloc (.cells #[.int .i64 0,.int .i64 0,.slice none 0 0,.int .i64 0,.int .i64 0,.int .i64 0,.slice none 0 0,.slice none 0 0,.int .i64 0,.slice none 0 0] 40))=W at HB bC aO jm ⊢
 have HS:Hid (∀ w',Below W.heap.size W w'→w'.cell? ⟨g,k * 7,none⟩=some (.slice a0 q0 z0)∧w'.cell? ⟨g,k * 7+1,none⟩=some (.int .i64 b.valid)∧w'.cell? ⟨g,k * 7+2,none⟩=some (.int .i64 b.next)∧w'.cell? ⟨g,k * 7+3,none⟩=some (.int .i64 b.seq)∧w'.cell? ⟨g,k * 7+4,none⟩=some (.slice a1 b.ah.length z1)∧w'.cell? ⟨g,k * 7+5,none⟩=some (.slice a2 b.au.length z2)∧w'.cell? ⟨g,k * 7+6,none⟩=some (.int .i64 b.lost)∧w'.cell? ⟨ga,0,none⟩=some (.int .i64 a.valid)∧w'.cell? ⟨ga,1,none⟩=some (.slice (some ⟨g,0,none⟩) a.boxes.length cap)∧w'.cell? ⟨ga,2,none⟩=some (u9)∧w'.cell? ⟨w.heap.size,2,none⟩=some (.slice x1 n1 m1)∧w'.cell? ⟨w.heap.size,3,none⟩=some (.int .i64 uid)∧w'.cell? ⟨w.heap.size,4,none⟩=some (.int .i64 mode)):=fun w' h=>HC.out W w' HB.out bC.out h
 obtain ⟨-,-,-,-,-,-,-,s0,s1,s2,-⟩:=HS.out W (Below.refl _ _)
 have hl0:ga < W.heap.size:=by omega
 go_upto_region 2 with fail
 clear s0 s1 s2
 have DR:Below W.heap.size W W.drew:=bd _ _
 have hl1:w.heap.size < W.drew.heap.size:=by show _ < W.heap.size;omega
 have hl2:g < W.drew.heap.size:=by show _ < W.heap.size;omega
 have dR:Hid _:=HV.out W.drew (Below.step HB.out DR)
 go_region_held3 (fun w'=>w'.cell? ⟨g,k * 7,none⟩=some (.slice a0 q0 z0)∧w'.cell? ⟨g,k * 7+1,none⟩=some (.int .i64 b.valid)∧w'.cell? ⟨g,k * 7+2,none⟩=some (.int .i64 b.next)∧w'.cell? ⟨g,k * 7+3,none⟩=some (.int .i64 b.seq)∧w'.cell? ⟨g,k * 7+4,none⟩=some (.slice a1 b.ah.length z1)∧w'.cell? ⟨g,k * 7+5,none⟩=some (.slice a2 b.au.length z2)∧w'.cell? ⟨g,k * 7+6,none⟩=some (.int .i64 b.lost)∧w'.cell? ⟨ga,0,none⟩=some (.int .i64 a.valid)∧w'.cell? ⟨ga,1,none⟩=some (.slice (some ⟨g,0,none⟩) a.boxes.length cap)∧w'.cell? ⟨ga,2,none⟩=some (u9)∧w'.cell? ⟨w.heap.size,2,none⟩=some (.slice x1 n1 m1)∧w'.cell? ⟨w.heap.size,3,none⟩=some (.int .i64 uid)∧w'.cell? ⟨w.heap.size,4,none⟩=some (.int .i64 mode))
  (first | exact HS.out _ DR | exact HS.out _ (Below.step DR B1) | go_keep)
  ((go_at_call 62;refine (sI _ b uid _ dR.out).mono ?_;rintro e w1 ⟨rfl,B1⟩))
 have HB1:Hid (Below W.heap.size W w1):=Below.step DR B1
 have hw1:W.heap.size≤w1.heap.size:=HB1.out.size
 clear B1 dR DR hl1 hl2
 go_upto_region 3 with fail
 have DR:Below W.heap.size W w1.drew:=HB1.out.drew
 have hl1:w.heap.size < w1.drew.heap.size:=by show _ < w1.heap.size;omega
 have hl2:g < w1.drew.heap.size:=by show _ < w1.heap.size;omega
 have hl3:ga < w1.drew.heap.size:=by show _ < w1.heap.size;omega
 have dR:Hid _:=iZ.out w1.drew (Below.step HB.out DR)
 have nN:Hid _:=kE.out w1.drew (Below.step HB.out DR)
 go_region_held3 (fun w'=>w'.cell? ⟨g,k * 7,none⟩=some (.slice a0 q0 z0)∧w'.cell? ⟨g,k * 7+1,none⟩=some (.int .i64 b.valid)∧w'.cell? ⟨g,k * 7+2,none⟩=some (.int .i64 b.next)∧w'.cell? ⟨g,k * 7+3,none⟩=some (.int .i64 b.seq)∧w'.cell? ⟨g,k * 7+4,none⟩=some (.slice a1 b.ah.length z1)∧w'.cell? ⟨g,k * 7+5,none⟩=some (.slice a2 b.au.length z2)∧w'.cell? ⟨g,k * 7+6,none⟩=some (.int .i64 b.lost)∧w'.cell? ⟨ga,0,none⟩=some (.int .i64 a.valid)∧w'.cell? ⟨ga,1,none⟩=some (.slice (some ⟨g,0,none⟩) a.boxes.length cap)∧w'.cell? ⟨ga,2,none⟩=some (u9)∧w'.cell? ⟨w.heap.size,2,none⟩=some (.slice x1 n1 m1)∧w'.cell? ⟨w.heap.size,3,none⟩=some (.int .i64 uid)∧w'.cell? ⟨w.heap.size,4,none⟩=some (.int .i64 mode))
  (first | exact HS.out _ DR | exact HS.out _ (Below.step DR B2) | go_keep)
  ((go_at_call 55;refine (uM _ _ a tt _ dR.out nN.out hbl).mono ?_;rintro e w2 ⟨rfl,B2⟩))
 have HB2:Hid (Below W.heap.size W w2):=Below.step DR B2
 have bV:Hid _:=ay HB2.out aO.out
 have hw2:W.heap.size≤w2.heap.size:=HB2.out.size
 clear B2 dR nN DR hl1 hl2 hl3 HB1 hw1
 obtain ⟨-,-,-,s3,-,-,-,s7,s8,-,-,-,s12⟩:=HS.out w2 HB2.out
 obtain ⟨g',cap',S2,cb',-,hpt,-,-⟩:=(HP.out w2 (Below.step HB.out HB2.out)).at hbt
 have e9:=Option.some.inj (cb'.symm.trans s8)
 simp only [Value.slice.injEq,Option.some.injEq,Addr.mk.injEq,and_true,true_and] at e9
 obtain ⟨rfl,rfl⟩:=e9
 obtain ⟨y0',y1',y2',g0,g1,g2,xH,t0,t1,t2,t3,t4,t5,t6⟩:=hpt.cells
 obtain ⟨y0,p0,k0,rfl⟩:=g0.bs.aG
 obtain ⟨y1,k1,rfl,-⟩:=g1.v.form
 obtain ⟨y2,k2,rfl,-⟩:=g2.1.form
 have uj:Hid (bK w2 (.agg #[.slice y0 p0 k0,.int .i64 bt.valid,.int .i64 bt.next,.int .i64 bt.seq,.slice y1 bt.ah.length k1,.slice y2 bt.au.length k2,.int .i64 bt.lost]) bt):=⟨_,_,_,rfl,g0.bs,g1.v,g2.1,xH⟩
 have htl:t < a.boxes.length:=(gs1 hbt).1
 have hti:(t:Int) < (a.boxes.length:Int):=by omega
 have hl1:w.heap.size < w2.heap.size:=by omega
 have hl2:g' < w2.heap.size:=mq hpt.ty
 have hl3:ga < w2.heap.size:=by omega
 clear g0 g1 g2 xH hpt cb'
 have hw:=HW.out
 clear HW
 rcases hw with ⟨hm,hroom⟩ | ⟨hm,htk,hroom⟩ | ⟨hm,htk,hroom⟩ | ⟨hm,htk,hroom,wN⟩ | ⟨hm,htk,hroom,wN⟩
 all_goals try (have hm1:(mode == 1)=false:=by simp [hm])
 all_goals try subst hm
 all_goals try subst htk
 all_goals try (have Vh:((t:Int) == (k:Int))=false:=by simp;omega)
 all_goals (
  go_wp2_with fail
  first | (have tt:=(show dx bt 1=_ from hroom);clear tt;refine (zX _ bt 1 w2 uj.out (by decide) (by decide) (by have:=jZ bt.ah;unfold bA at mI;omega)).mono ?_) | refine (zX _ bt 0 w2 uj.out (by decide) (by decide) (by have:=jZ bt.ah;unfold bA at mI;omega)).mono ?_
  rintro e w3 ⟨rfl,B3⟩
  have HB3:Hid (Below W.heap.size W w3):=Below.step HB2.out B3
  have bX:Hid _:=ay B3 bV.out
  have hw3:W.heap.size≤w3.heap.size:=HB3.out.size
  have hl4:g' < w3.heap.size:=by have:=B3.size;omega
  clear B3 s3 s7 s8 s12 t0 t1 t2 t3 t4 t5 t6 uj
  obtain ⟨-,-,-,s3,-⟩:=HS.out w3 HB3.out
  rw [hroom]
  obtain ⟨r0,r1,r2,r3,r4,r5,r6,r7,r8,r9⟩:=aM bX.out
  have fz:∀ i,w3.frozen? ⟨w.heap.size+1,i,none⟩=false:=fun i=>frozen_of_row w3 _ i _ _ bX.out
  have hlr:w.heap.size+1 < w3.heap.size:=by omega
  clear HS bC HC HV aO iZ kE
  have HF:Hid _:=oW (w:=w) bX.out (by omega) (Below.step HB.out HB3.out) 3 0
  go_wp2
  have ff:=aM HF.out.1
  refine bodyPost_ret (v:=.agg #[.int .i64 3,.int .i64 0,.slice none 0 0,.int .i64 0,.int .i64 0,.int .i64 0,.slice none 0 0,.slice none 0 0,.int .i64 0,.slice none 0 0]) (by simp [results,Tryz.results60,go_sem,ff]) rfl ⟨_,rfl,?_,HF.out.2,HP.out _ HF.out.2⟩
  exact ⟨_,_,_,_,rfl,⟨_,_,_,rfl,ng _,Rd.nil _,Rd.nil _,aI,aI,aI,aI⟩,⟨rfl,rfl⟩,⟨by decide,by decide⟩,aI⟩)
/- What Ii of package spec does where it copies a fQ. -/
theorem Vi:(Tryz.f60.body.bind (bQ 16)).all (fun o=>dQ o 13 [0,1,2,3,4,5,6,7,8,9,10,11,12] [10,12] [10,13] 8)=true:=by kernel_rfl
theorem aek (ga k:Nat) (a:aJ) (b:aD) (tt:List Int) (S:Nat→Prop) (kd uid mode fl si:Int) (x0 x1 x2:Option Addr) (n0 n1 n2 m0 m1 m2:Nat) (w:World) (hp:aU w S ga a) (hb:a.boxes[k]?=some b) (hto:Bs w (.slice x1 n1 m1) tt) (hbl:a.boxes.length≤2000000) (hsx:bA b≤2000000) (i t:Nat) (bt bu:aD) (m:aF) (hm:b.ah[i]?=some m) (hf:bB (fun m:aF=>decide (m.uid=uid)) b.ah=(i:Int)) (hf2:bB (fun x:aD=>decide (x.name=tt)) a.boxes=(t:Int)) (hbt:a.boxes[t]?=some bt) (mI:bA bt≤2000000) (hbu:a.boxes[t]?=some bu) (hu1:bu.ah.length≤2000000) (hu2:bu.seq < 1000000000) (hu3:bu.next < 1000000000) (hm1:mode≠1) (hroom:dx bt 1=true) :
  Calls Tryz.prog 60 #[.pointer (some ⟨ga,0,none⟩),.int .i64 k,.agg #[.int .i64 kd,.slice x0 n0 m0,.slice x1 n1 m1,.int .i64 uid,.int .i64 mode,.int .i64 fl,.int .i64 si,.slice x2 n2 m2]] w fun e w'=>∃ u S',e=.returned u∧jk w' u (aQ 0 bu.next)∧aT w w' S ga∧aU w' S' ga (aL a t (jR bu m.flags m.text))∧∀ k,S' k→S k∨w.heap.size≤k:=by
 obtain ⟨S0,iL⟩:∃ S0:Nat→Prop,S0=fun k=>S k∧k < w.heap.size:=⟨_,rfl⟩
 have dU:Hid (∀ k,S0 k→S k):=by subst iL;exact fun k h=>h.1
 have HSL:Hid (∀ k,S0 k→k < w.heap.size):=by subst iL;exact fun k h=>h.2
 have HP:Hid (∀ w',Below w.heap.size w w'→aU w' S0 ga a):=by subst iL;exact fun w' h=>hp.cut.below h
 clear iL
 have kE:Hid (∀ w',Below w.heap.size w w'→Bs w' (.slice x1 n1 m1) tt):=fun w' h=>hto.below h
 have gY:=hp.lt
 obtain ⟨g,cap,S1,cb,iW,hpb,hS1,-⟩:=hp.at hb
 obtain ⟨v9,u9,mG,jM,mH,hbq,oC⟩:=hp.cells
 have e9:v9=.slice (some ⟨g,0,none⟩) a.boxes.length cap:=Option.some.inj (jM.symm.trans cb)
 subst e9
 have iZ:Hid (∀ w',Below w.heap.size w w'→dM w' (.agg #[.int .i64 a.valid,.slice (some ⟨g,0,none⟩) a.boxes.length cap,u9]) a):=fun w' h=>oC.below h
 have hkl:k < a.boxes.length:=(gs1 hb).1
 have bM:g < w.heap.size:=mq hpb.ty
 have hcap:a.boxes.length≤cap:=by obtain ⟨_,_,e,h,-⟩:=hbq.v.form;cases e;exact h
 obtain ⟨u0,u1,u2,h0,h1,h2,hint,c0,c1,c2,c3,c4,c5,c6⟩:=hpb.cells
 obtain ⟨a0,q0,z0,rfl⟩:=h0.bs.aG
 obtain ⟨a1,z1,rfl,-⟩:=h1.v.form
 obtain ⟨a2,z2,rfl,-⟩:=h2.1.form
 have HV:Hid (∀ w',Below w.heap.size w w'→bK w' (.agg #[.slice a0 q0 z0,.int .i64 b.valid,.int .i64 b.next,.int .i64 b.seq,.slice a1 b.ah.length z1,.slice a2 b.au.length z2,.int .i64 b.lost]) b):=fun w' h=>⟨_,_,_,rfl,h0.bs.below h,h1.v.below eU h,h2.1.below dY h,hint⟩
 obtain ⟨HB,bC,aO,jm⟩:=uP w (.cells #[.int .i64 kd,.slice x0 n0 m0,.slice x1 n1 m1,.int .i64 uid,.int .i64 mode,.int .i64 fl,.int .i64 si,.slice x2 n2 m2] 44) (.cells #[.int .i64 0,.int .i64 0,.slice none 0 0,.int .i64 0,.int .i64 0,.int .i64 0,.slice none 0 0,.slice none 0 0,.int .i64 0,.slice none 0 0] 40)
 have HC:Hid (∀ W w',Below w.heap.size w W→W.heap[w.heap.size]?=some (.cells #[.int .i64 kd,.slice x0 n0 m0,.slice x1 n1 m1,.int .i64 uid,.int .i64 mode,.int .i64 fl,.int .i64 si,.slice x2 n2 m2] 44 (0,0))→Below W.heap.size W w'→w'.cell? ⟨g,k * 7,none⟩=some (.slice a0 q0 z0)∧w'.cell? ⟨g,k * 7+1,none⟩=some (.int .i64 b.valid)∧w'.cell? ⟨g,k * 7+2,none⟩=some (.int .i64 b.next)∧w'.cell? ⟨g,k * 7+3,none⟩=some (.int .i64 b.seq)∧w'.cell? ⟨g,k * 7+4,none⟩=some (.slice a1 b.ah.length z1)∧w'.cell? ⟨g,k * 7+5,none⟩=some (.slice a2 b.au.length z2)∧w'.cell? ⟨g,k * 7+6,none⟩=some (.int .i64 b.lost)∧w'.cell? ⟨ga,0,none⟩=some (.int .i64 a.valid)∧w'.cell? ⟨ga,1,none⟩=some (.slice (some ⟨g,0,none⟩) a.boxes.length cap)∧w'.cell? ⟨ga,2,none⟩=some (u9)∧w'.cell? ⟨w.heap.size,2,none⟩=some (.slice x1 n1 m1)∧w'.cell? ⟨w.heap.size,3,none⟩=some (.int .i64 uid)∧w'.cell? ⟨w.heap.size,4,none⟩=some (.int .i64 mode)):=by
  intro W w' hb hc hw
  have h:=fun j=>hb.cell (p:=⟨g,j,none⟩) bM
  have h':=fun j=>hw.cell (p:=⟨g,j,none⟩) (Nat.lt_of_lt_of_le bM hb.size)
  have i:=fun j=>hb.cell (p:=⟨ga,j,none⟩) gY
  have i':=fun j=>hw.cell (p:=⟨ga,j,none⟩) (Nat.lt_of_lt_of_le gY hb.size)
  have hk:=ay hw hc
  have hq:=fun j=>cell_of_row w' w.heap.size j _ _ (0,0) hk
  exact ⟨(h' _).trans ((h _).trans c0),(h' _).trans ((h _).trans c1),(h' _).trans ((h _).trans c2),(h' _).trans ((h _).trans c3),(h' _).trans ((h _).trans c4),(h' _).trans ((h _).trans c5),(h' _).trans ((h _).trans c6),(i' _).trans ((i _).trans mG),(i' _).trans ((i _).trans jM),(i' _).trans ((i _).trans mH),hq 2,hq 3,hq 4⟩
 have hki:(k:Int) < (a.boxes.length:Int):=by omega
 clear h0 h1 h2 hp hpb hbq oC hto c0 c1 c2 c3 c4 c5 c6 mG jM mH cb hint
 go_enter Tryz.func60,Tryz.ntmps60
 go_upto_region 1 with fail
 generalize ((w.alloc (.cells #[.int .i64 kd,.slice x0 n0 m0,.slice x1 n1 m1,.int .i64 uid,.int .i64 mode,.int .i64 fl,.int .i64 si,.slice x2 n2 m2] 44)).alloc (.cells #[.int .i64 0,.int .i64 0,.slice none 0 0,.int .i64 0,.int .i64 0,.int .i64 0,.slice none 0 0,.slice none 0 0,.int .i64 0,.slice none 0 0] 40))=W at HB bC aO jm ⊢
 have HS:Hid (∀ w',Below W.heap.size W w'→w'.cell? ⟨g,k * 7,none⟩=some (.slice a0 q0 z0)∧w'.cell? ⟨g,k * 7+1,none⟩=some (.int .i64 b.valid)∧w'.cell? ⟨g,k * 7+2,none⟩=some (.int .i64 b.next)∧w'.cell? ⟨g,k * 7+3,none⟩=some (.int .i64 b.seq)∧w'.cell? ⟨g,k * 7+4,none⟩=some (.slice a1 b.ah.length z1)∧w'.cell? ⟨g,k * 7+5,none⟩=some (.slice a2 b.au.length z2)∧w'.cell? ⟨g,k * 7+6,none⟩=some (.int .i64 b.lost)∧w'.cell? ⟨ga,0,none⟩=some (.int .i64 a.valid)∧w'.cell? ⟨ga,1,none⟩=some (.slice (some ⟨g,0,none⟩) a.boxes.length cap)∧w'.cell? ⟨ga,2,none⟩=some (u9)∧w'.cell? ⟨w.heap.size,2,none⟩=some (.slice x1 n1 m1)∧w'.cell? ⟨w.heap.size,3,none⟩=some (.int .i64 uid)∧w'.cell? ⟨w.heap.size,4,none⟩=some (.int .i64 mode)):=fun w' h=>HC.out W w' HB.out bC.out h
 obtain ⟨-,-,-,-,-,-,-,s0,s1,s2,-⟩:=HS.out W (Below.refl _ _)
 have hl0:ga < W.heap.size:=by omega
 go_upto_region 2 with fail
 clear s0 s1 s2
 have DR:Below W.heap.size W W.drew:=bd _ _
 have hl1:w.heap.size < W.drew.heap.size:=by show _ < W.heap.size;omega
 have hl2:g < W.drew.heap.size:=by show _ < W.heap.size;omega
 have dR:Hid _:=HV.out W.drew (Below.step HB.out DR)
 go_region_held3 (fun w'=>w'.cell? ⟨g,k * 7,none⟩=some (.slice a0 q0 z0)∧w'.cell? ⟨g,k * 7+1,none⟩=some (.int .i64 b.valid)∧w'.cell? ⟨g,k * 7+2,none⟩=some (.int .i64 b.next)∧w'.cell? ⟨g,k * 7+3,none⟩=some (.int .i64 b.seq)∧w'.cell? ⟨g,k * 7+4,none⟩=some (.slice a1 b.ah.length z1)∧w'.cell? ⟨g,k * 7+5,none⟩=some (.slice a2 b.au.length z2)∧w'.cell? ⟨g,k * 7+6,none⟩=some (.int .i64 b.lost)∧w'.cell? ⟨ga,0,none⟩=some (.int .i64 a.valid)∧w'.cell? ⟨ga,1,none⟩=some (.slice (some ⟨g,0,none⟩) a.boxes.length cap)∧w'.cell? ⟨ga,2,none⟩=some (u9)∧w'.cell? ⟨w.heap.size,2,none⟩=some (.slice x1 n1 m1)∧w'.cell? ⟨w.heap.size,3,none⟩=some (.int .i64 uid)∧w'.cell? ⟨w.heap.size,4,none⟩=some (.int .i64 mode))
  (first | exact HS.out _ DR | exact HS.out _ (Below.step DR B1) | go_keep)
  ((go_at_call 62;refine (sI _ b uid _ dR.out).mono ?_;rintro e w1 ⟨rfl,B1⟩))
 have HB1:Hid (Below W.heap.size W w1):=Below.step DR B1
 have hw1:W.heap.size≤w1.heap.size:=HB1.out.size
 clear B1 dR DR hl1 hl2
 go_upto_region 3 with fail
 have DR:Below W.heap.size W w1.drew:=HB1.out.drew
 have hl1:w.heap.size < w1.drew.heap.size:=by show _ < w1.heap.size;omega
 have hl2:g < w1.drew.heap.size:=by show _ < w1.heap.size;omega
 have hl3:ga < w1.drew.heap.size:=by show _ < w1.heap.size;omega
 have dR:Hid _:=iZ.out w1.drew (Below.step HB.out DR)
 have nN:Hid _:=kE.out w1.drew (Below.step HB.out DR)
 go_region_held3 (fun w'=>w'.cell? ⟨g,k * 7,none⟩=some (.slice a0 q0 z0)∧w'.cell? ⟨g,k * 7+1,none⟩=some (.int .i64 b.valid)∧w'.cell? ⟨g,k * 7+2,none⟩=some (.int .i64 b.next)∧w'.cell? ⟨g,k * 7+3,none⟩=some (.int .i64 b.seq)∧w'.cell? ⟨g,k * 7+4,none⟩=some (.slice a1 b.ah.length z1)∧w'.cell? ⟨g,k * 7+5,none⟩=some (.slice a2 b.au.length z2)∧w'.cell? ⟨g,k * 7+6,none⟩=some (.int .i64 b.lost)∧w'.cell? ⟨ga,0,none⟩=some (.int .i64 a.valid)∧w'.cell? ⟨ga,1,none⟩=some (.slice (some ⟨g,0,none⟩) a.boxes.length cap)∧w'.cell? ⟨ga,2,none⟩=some (u9)∧w'.cell? ⟨w.heap.size,2,none⟩=some (.slice x1 n1 m1)∧w'.cell? ⟨w.heap.size,3,none⟩=some (.int .i64 uid)∧w'.cell? ⟨w.heap.size,4,none⟩=some (.int .i64 mode))
  (first | exact HS.out _ DR | exact HS.out _ (Below.step DR B2) | go_keep)
  ((go_at_call 55;refine (uM _ _ a tt _ dR.out nN.out hbl).mono ?_;rintro e w2 ⟨rfl,B2⟩))
 have HB2:Hid (Below W.heap.size W w2):=Below.step DR B2
 have bV:Hid _:=ay HB2.out aO.out
 have hw2:W.heap.size≤w2.heap.size:=HB2.out.size
 clear B2 dR nN DR hl1 hl2 hl3 HB1 hw1
 obtain ⟨-,-,-,s3,-,-,-,s7,s8,-,-,-,s12⟩:=HS.out w2 HB2.out
 obtain ⟨g',cap',S2,cb',-,hpt,-,-⟩:=(HP.out w2 (Below.step HB.out HB2.out)).at hbt
 have e9:=Option.some.inj (cb'.symm.trans s8)
 simp only [Value.slice.injEq,Option.some.injEq,Addr.mk.injEq,and_true,true_and] at e9
 obtain ⟨rfl,rfl⟩:=e9
 obtain ⟨y0',y1',y2',g0,g1,g2,xH,t0,t1,t2,t3,t4,t5,t6⟩:=hpt.cells
 obtain ⟨y0,p0,k0,rfl⟩:=g0.bs.aG
 obtain ⟨y1,k1,rfl,-⟩:=g1.v.form
 obtain ⟨y2,k2,rfl,-⟩:=g2.1.form
 have uj:Hid (bK w2 (.agg #[.slice y0 p0 k0,.int .i64 bt.valid,.int .i64 bt.next,.int .i64 bt.seq,.slice y1 bt.ah.length k1,.slice y2 bt.au.length k2,.int .i64 bt.lost]) bt):=⟨_,_,_,rfl,g0.bs,g1.v,g2.1,xH⟩
 have htl:t < a.boxes.length:=(gs1 hbt).1
 have hti:(t:Int) < (a.boxes.length:Int):=by omega
 have hl1:w.heap.size < w2.heap.size:=by omega
 have hl2:g' < w2.heap.size:=mq hpt.ty
 have hl3:ga < w2.heap.size:=by omega
 clear g0 g1 g2 xH hpt cb'
 have hm1:(mode == 1)=false:=by simp [hm1]
 go_wp2_with fail
 refine (zX _ bt 1 w2 uj.out (by decide) (by decide) (by have:=jZ bt.ah;unfold bA at mI;omega)).mono ?_
 rintro e w3 ⟨rfl,B3⟩
 have HB3:Hid (Below W.heap.size W w3):=Below.step HB2.out B3
 have bX:Hid _:=ay B3 bV.out
 have hw3:W.heap.size≤w3.heap.size:=HB3.out.size
 have hl4:g' < w3.heap.size:=by have:=B3.size;omega
 clear B3 s3 s7 s8 s12 t0 t1 t2 t3 t4 t5 t6 uj
 obtain ⟨-,-,-,s3,-⟩:=HS.out w3 HB3.out
 rw [hroom]
 have X3:Below w.heap.size w w3:=Below.step HB.out HB3.out
 have fH:Hid (aU w3 S0 ga a):=HP.out w3 X3
 have HT3:Hid (aT w w3 S0 ga):=aT.below X3
 obtain ⟨gx,cx,Sx,zw,Nb,hpx,Cy,-⟩:=fH.out.at hb
 obtain ⟨-,-,-,-,-,-,-,-,s8,-⟩:=HS.out w3 HB3.out
 have e9:=Option.some.inj (zw.symm.trans s8)
 simp only [Value.slice.injEq,Option.some.injEq,Addr.mk.injEq,and_true,true_and] at e9
 obtain ⟨rfl,rfl⟩:=e9
 obtain ⟨mb,mc,ut,d4,hmc,hlm,f0,f1,f2,f3,hro,j0,j1,j2⟩:=hpx.J5 hm
 obtain ⟨x9,n9,c9,rfl⟩:=hro.bs.aG
 have ko:Hid (RO w3 Any (.slice x9 n9 c9) m.text):=hro
 have HJ:Hid (aB m.flags):=j1
 have hii:(i:Int) < (b.ah.length:Int):=by have:=(gs1 hm).1;omega
 have ael:gx < w3.heap.size:=hpx.lt
 have Nc:ga < w3.heap.size:=by omega
 have hr3:w.heap.size+1 < w3.heap.size:=by omega
 have wX:Hid (w3.cell? ⟨ga,1,none⟩=some (.slice (some ⟨gx,0,none⟩) a.boxes.length cx)):=zw
 clear hpx hro j0 j1 j2 zw Cy Nb X3 hl4 HS bC HC HV aO iZ kE s8
 go_upto_region 13 with fail
 have AB:Below w3.heap.size w3 (w3.alloc (.cells #[.int .i64 m.uid,.int .i64 m.flags,.int .i64 m.seq,.slice x9 n9 c9] 124)):=bn _ _
 have jH:Hid ((w3.alloc (.cells #[.int .i64 m.uid,.int .i64 m.flags,.int .i64 m.seq,.slice x9 n9 c9] 124)).heap[w3.heap.size]?=some (.cells #[.int .i64 m.uid,.int .i64 m.flags,.int .i64 m.seq,.slice x9 n9 c9] 124 (0,0))):=aV w3 _
 have gN:Hid (aU (w3.alloc (.cells #[.int .i64 m.uid,.int .i64 m.flags,.int .i64 m.seq,.slice x9 n9 c9] 124)) S0 ga a):=fH.out.below AB
 have zA:Hid (RO (w3.alloc (.cells #[.int .i64 m.uid,.int .i64 m.flags,.int .i64 m.seq,.slice x9 n9 c9] 124)) Any (.slice x9 n9 c9) m.text):=ko.out.below AB
 have fV:Hid (aT w (w3.alloc (.cells #[.int .i64 m.uid,.int .i64 m.flags,.int .i64 m.seq,.slice x9 n9 c9] 124)) S0 ga):=HT3.out.trans (aT.below (S:=S0) AB) (fun k h=>.inl h)
 have dW:Hid _:=ay AB bX.out
 have tF:Hid ((w3.alloc (.cells #[.int .i64 m.uid,.int .i64 m.flags,.int .i64 m.seq,.slice x9 n9 c9] 124)).cell? ⟨ga,1,none⟩=some (.slice (some ⟨gx,0,none⟩) a.boxes.length cx)):=(AB.cell (p:=⟨ga,1,none⟩) Nc).trans wX.out
 have hw4:(w3.alloc (.cells #[.int .i64 m.uid,.int .i64 m.flags,.int .i64 m.seq,.slice x9 n9 c9] 124)).heap.size=w3.heap.size+1:=by simp
 generalize (w3.alloc (.cells #[.int .i64 m.uid,.int .i64 m.flags,.int .i64 m.seq,.slice x9 n9 c9] 124))=w4 at jH gN zA fV dW tF hw4 ⊢
 clear wX AB fH ko HT3 bX f0 f1 f2 f3 d4 hlm hmc HB3 s3 HB bV HB2
 have gD:Hid (aU w4 S0 ga a):=gN
 have lS:Hid (aT w w4 S0 ga):=fV
 have ru:Hid (w4.heap[w3.heap.size]?=some (.cells #[.int .i64 m.uid,.int .i64 m.flags,.int .i64 m.seq,.slice x9 n9 c9] 124 (0,0))):=jH
 have iQ:Hid (w4.heap[w.heap.size+1]?=some (.cells #[.int .i64 0,.int .i64 0,.slice none 0 0,.int .i64 0,.int .i64 0,.int .i64 0,.slice none 0 0,.slice none 0 0,.int .i64 0,.slice none 0 0] 40 (0,0))):=dW
 have Nf:Hid (RO w4 Any (.slice x9 n9 c9) m.text):=zA
 have zm:w4.heap.size≤w4.heap.size:=Nat.le_refl _
 have nI:Hid (∀ k,S0 k→(k < w.heap.size∨w3.heap.size < k)∧(S0 k∨w.heap.size≤k)):=fun k h=>⟨.inl (HSL.out k h),.inl h⟩
 clear gN fV jH dW zA tF
 go_upto_region 16 with fail
 have kW:Below w4.heap.size w4 w4.drew:=bd _ _
 have HAD:Hid (aU w4.drew S0 ga a):=gD.out.below kW
 obtain ⟨gt,ct,St,Ng,El,hpt,hSt,Em⟩:=HAD.out.at hbu
 have yM:Hid _:=Em
 have En:Hid (aN w4.drew St gt (t * 7) bu):=hpt
 have HST:Hid (∀ k,St k→S0 k):=fun k h=>(hSt k h).1
 have aem:(t:Int) < (a.boxes.length:Int):=by have:=(gs1 hbu).1;omega
 have aen:t < a.boxes.length:=(gs1 hbu).1
 have aeo:gt < w4.drew.heap.size:=hpt.lt
 have aep:ga < w4.drew.heap.size:=HAD.out.lt
 have aer:w3.heap.size < w4.drew.heap.size:=by show _ < w4.heap.size;omega
 have Nh:w.heap.size+1 < w4.drew.heap.size:=by show _ < w4.heap.size;omega
 obtain ⟨-,n1,-,n3⟩:=gF (ay kW ru.out)
 have hwd:w4.heap.size=w4.drew.heap.size:=rfl
 have Ni:Hid (∀ w',w4.drew.heap.size≤w'.heap.size→bT w4.drew w' 5→Bs w' (.slice x9 n9 c9) m.text):=(Nf.out.below kW).stay
 have nN:Hid (aT w w4.drew S0 ga):=lS.out.trans (aT.below (S:=S0) kW) (fun k h=>.inl h)
 have iX:Hid (w4.drew.heap[w.heap.size+1]?=some (.cells #[.int .i64 0,.int .i64 0,.slice none 0 0,.int .i64 0,.int .i64 0,.int .i64 0,.slice none 0 0,.slice none 0 0,.int .i64 0,.slice none 0 0] 40 (0,0))):=ay kW iQ.out
 have hbn:=En.out.cells
 obtain ⟨-,-,-,-,-,-,⟨-,Eo,-,-⟩,-⟩:=hbn
 have Nj:Hid (aB bu.next):=Eo
 clear hpt Em kW Eo hSt
 refine eF 10 (S:=fun w'=>(w'.cell? ⟨ga,1,none⟩=some (.slice (some ⟨gt,0,none⟩) a.boxes.length ct)∧w'.cell? ⟨w3.heap.size,1,none⟩=some (.int .i64 m.flags)∧w'.cell? ⟨w3.heap.size,3,none⟩=some (.slice x9 n9 c9))) (eB (by kernel_rfl) Vi) (by kernel_rfl) (⟨Ng,n1,n3⟩) (fun aj hHeld=>?_)
 refine tks 0 0 86 aj hHeld ?_
 refine tks 1 1 87 aj hHeld ?_
 refine tks 2 2 88 aj hHeld ?_
 refine tks 3 3 89 aj hHeld ?_
 refine tks 4 4 90 aj hHeld ?_
 refine tks 5 5 91 aj hHeld ?_
 refine tks 6 6 92 aj hHeld ?_
 refine tks 7 7 93 aj hHeld ?_
 refine tks 8 8 94 aj hHeld ?_
 refine tks 9 9 95 aj hHeld ?_
 refine gL (S':=fun w'=>True) 10 13 aj (by decide) (trivial) (fun hHeld=>?_)
 refine cls 10 10 aj (by decide) rfl rfl (fun K hK=>?_)
 go_simp
 refine (Mc gt (t * 7) bu St m.flags _ m.text _ En.out HJ.out Ni.out (by have:=zI (List.mem_of_getElem? hm);unfold bA at hsx;omega) hu1 hu2 hu3).mono ?_
 rintro e w7 ⟨rfl,jI,Ep⟩
 have rO:Hid (aU w7 (fun k=>S0 k∨w4.drew.heap.size≤k) ga (aL a t (jR bu m.flags m.text))):=yM.out w7 _ _ jI Ep (fun k h=>h)
 have iF:Hid (aT w w7 S0 ga):=nN.out.trans (aT.box jI El HST.out) (fun k h=>(nI.out k h).2)
 have aes:=jI.1
 have fq:Hid (w7.heap[w.heap.size+1]?=some (.cells #[.int .i64 0,.int .i64 0,.slice none 0 0,.int .i64 0,.int .i64 0,.int .i64 0,.slice none 0 0,.slice none 0 0,.int .i64 0,.slice none 0 0] 40 (0,0))):=(jI.2.1 _ Nh (fun e=>by have:=(nI.out gt El).1;omega) (fun h=>by have:=(nI.out _ (HST.out _ h)).1;omega)).trans iX.out
 clear jI Ep
 refine hK.out _ _ (trivial) (fun hHeld=>?_)
 clear hK K
 refine tks 11 11 97 aj hHeld ?_
 refine cls 12 12 aj (by decide) rfl rfl (fun K hK=>?_)
 obtain ⟨r0,r1,r2,r3,r4,r5,r6,r7,r8,r9⟩:=aM fq.out
 have fz:∀ i,w7.frozen? ⟨w.heap.size+1,i,none⟩=false:=fun i=>frozen_of_row w7 _ i _ _ fq.out
 have hlr:=lt_of_heap fq.out
 have HF:Hid _:=AA (w:=w) fq.out (by omega) iF.out _ _ rO.out gY (fun h=>h.elim (fun h=>by have:=(nI.out _ h).1;omega) (fun h=>by omega)) 0 bu.next ⟨aI,Nj.out⟩
 go_simp
 refine hK.out _ _ (trivial) (fun hHeld=>?_)
 clear hK K
 refine eG aj ?_
 go_wp2
 obtain ⟨f0,f1,f2,f3,f4,f5,f6,f7,f8,f9⟩:=aM HF.out.1
 refine bodyPost_ret (v:=.agg #[.int .i64 0,.int .i64 bu.next,.slice none 0 0,.int .i64 0,.int .i64 0,.int .i64 0,.slice none 0 0,.slice none 0 0,.int .i64 0,.slice none 0 0]) (by simp [results,Tryz.results60,go_sem,f0,f1,f2,f3,f4,f5,f6,f7,f8,f9]) rfl ⟨_,_,rfl,HF.out.2.2.2,aT.wide HF.out.2.1 dU.out,HF.out.2.2.1,fun k h=>?_⟩
 rcases h with h | h
 ·exact (nI.out k h).2.elim (fun h=>.inl (dU.out k h)) .inr
 ·exact .inr (by omega)
end Go.Proofs.YtlneebmlhblleaaGreat
