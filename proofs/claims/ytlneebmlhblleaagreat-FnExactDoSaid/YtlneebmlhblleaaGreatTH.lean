/- The proof's texts, part 43. -/
import Derived.Test.YtlneebmlhblleaaGreatTD
import Derived.Test.YtlneebmlhblleaaGreatTG
namespace Go.Proofs.YtlneebmlhblleaaGreat
open Go.RowKit
set_option linter.unusedVariables false
set_option linter.unusedSimpArgs false
set_option maxHeartbeats 40000000
set_option maxRecDepth 100000
/- The law FnExactDo, walked out of the contracts. -/
theorem agH:(Tryz.f3.body.bind (bQ 8)).all (fun o=>Aw o [some 28,some 29,some 30,some 31,some 32,some 27,some 33,some 34,some 6,some 7,none,none] DK)=true:=by kernel_rfl
theorem agI:(Tryz.f3.body.bind (bQ 35)).all (fun o=>Aw o [some 105,some 106,some 107,some 108,some 109,some 104,some 110,some 111,some 15,some 16,none,none] DK)=true:=by kernel_rfl
theorem agJ (v u:Value) (a:aJ) (c:iC) (w:World) (hv:dM w v a) (hu:ig w u c.k c.bx c.tt c.uid c.mode c.fl c.si c.tx) :
  Calls Tryz.prog 3 #[v,u] w fun e w'=>e=.returned (.bool true)∧Below w.heap.size w w':=by
 have iZ:=ak hv
 have lT:=ak hu
 obtain ⟨u0,u1,rfl,g0,g1,hiv⟩:=hv
 obtain ⟨ba,bc,rfl,-⟩:=g0.form
 obtain ⟨sa,sc,rfl,-⟩:=g1.form
 obtain ⟨q0,q1,q2,rfl,r0,r1,r2,-⟩:=hu
 obtain ⟨x0,m0,z0,rfl⟩:=r0.aG
 obtain ⟨x1,m1,z1,rfl⟩:=r1.aG
 obtain ⟨x2,m2,z2,rfl⟩:=r2.aG
 obtain ⟨kA,kC,X⟩:=gJ w (.cells #[.int .i64 a.valid,.slice ba a.boxes.length bc,.slice sa a.seen.length sc] 25) (.cells #[.int .i64 c.k,.slice x0 m0 z0,.slice x1 m1 z1,.int .i64 c.uid,.int .i64 c.mode,.int .i64 c.fl,.int .i64 c.si,.slice x2 m2 z2] 28)
 clear g0 g1 r0 r1 r2 hiv
 go_enter Tryz.func3,Tryz.ntmps3
 go_upto_region 1 with fail
 generalize (w.alloc (.cells #[.int .i64 a.valid,.slice ba a.boxes.length bc,.slice sa a.seen.length sc] 25)).alloc (.cells #[.int .i64 c.k,.slice x0 m0 z0,.slice x1 m1 z1,.int .i64 c.uid,.int .i64 c.mode,.int .i64 c.fl,.int .i64 c.si,.slice x2 m2 z2] 28)=w1 at kA kC X ⊢
 have jc:=ak X
 have bU:Hid (∀ W,Below w1.heap.size w1 W→W.heap[w.heap.size]?=some (.cells #[.int .i64 a.valid,.slice ba a.boxes.length bc,.slice sa a.seen.length sc] 25 (0,0))):=fun W h=>ay h kA
 have bC:Hid (∀ W,Below w1.heap.size w1 W→W.heap[w.heap.size+1]?=some (.cells #[.int .i64 c.k,.slice x0 m0 z0,.slice x1 m1 z1,.int .i64 c.uid,.int .i64 c.mode,.int .i64 c.fl,.int .i64 c.si,.slice x2 m2 z2] 28 (0,0))):=fun W h=>ay h kC
 have zF:Hid (∀ W,Below w1.heap.size w1 W→dM W (.agg #[.int .i64 a.valid,.slice ba a.boxes.length bc,.slice sa a.seen.length sc]) a):=fun W h=>iZ.out.below (Below.step jc.out h)
 have zG:Hid (∀ W,Below w1.heap.size w1 W→ig W (.agg #[.int .i64 c.k,.slice x0 m0 z0,.slice x1 m1 z1,.int .i64 c.uid,.int .i64 c.mode,.int .i64 c.fl,.int .i64 c.si,.slice x2 m2 z2]) c.k c.bx c.tt c.uid c.mode c.fl c.si c.tx):=fun W h=>lT.out.below (Below.step jc.out h)
 clear kA kC X
 have X:=Below.refl w1.heap.size w1
 obtain ⟨e0,e1,e2⟩:=bD (bU.out _ X)
 have el:=lt_of_heap (bU.out _ X)
 go_wp2_with fail
 refine (agA _ a 1048576 _ (zF.out _ X) (by omega) (by omega)).mono ?_
 rintro e w2 ⟨y,rfl,hx,B⟩
 clear e0 e1 e2 el
 replace X:=Below.step X B
 clear B
 rcases hx with rfl | ⟨hx0,hx1⟩
 ·go_wp2
  go_ret
  exact ⟨rfl,Below.step jc.out X⟩
 obtain ⟨o0,o1,o2,o3,o4,o5,o6,o7,o8⟩:=l5 (bC.out _ X)
 go_wp2_with fail
 refine (agi _ c.k c.bx c.tt c.uid c.mode c.fl c.si c.tx y _ (zG.out _ X) (by omega) (by omega)).mono ?_
 rintro e w3 ⟨z,rfl,hy,B⟩
 clear o0 o1 o2 o3 o4 o5 o6 o7 o8
 replace X:=Below.step X B
 clear B
 rcases hy with rfl | ⟨hy0,hy1⟩
 ·go_wp2
  go_ret
  exact ⟨rfl,Below.step jc.out X⟩
 have hsz:jf a.boxes≤2000000∧a.seen.length≤2000000∧c.bx.length≤2000000∧c.tt.length≤2000000∧c.tx.length≤2000000:=by omega
 have gP:=ak (acE a c)
 clear hx0 hx1 hy1
 go_upto_region 8 with fail
 have DR:Below w3.heap.size w3 w3.drew:=bd _ _
 have HV:Hid (∀ w',Below w3.heap.size w3 w'→Below w1.heap.size w1 w'):=fun w' h=>Below.step X h
 go_cut [6,7] (fun s6 s7 wx=>DI w3 wx s6 s7 (aH a c))
 case first =>
  refine Ud (F:=LF w3 (.agg #[.int .i64 a.valid,.slice ba a.boxes.length bc,.slice sa a.seen.length sc]) (.agg #[.int .i64 c.k,.slice x0 m0 z0,.slice x1 m1 z1,.int .i64 c.uid,.int .i64 c.mode,.int .i64 c.fl,.int .i64 c.si,.slice x2 m2 z2]) a c) (TU (by kernel_rfl) agH) (by kernel_rfl) ⟨?_,?_,?_,?_,?_,?_,?_,?_,?_,?_,?_,?_,trivial⟩ (fun V=>LF.start DR rfl) (fun V x h=>?_)
  ·refine iK (fun L V x h hL hw hC=>?_)
   have h10:=lg hC hL
   have h11:=jA hC hL
   obtain ⟨xc,y,b6,b7,v1,v2,g⟩:=h.old h10
   have H:=bU.out _ (HV.out _ g.d)
   obtain ⟨e0,e1,e2⟩:=bD H
   have el:=lt_of_heap H
   refine ⟨_,_,rfl,fun v=>(by conv=>lhs;simp only [Act.put,sA,s0,sS]),fun K hK=>?_⟩
   go_simp
   exact hK.out _ _ (g.iy.lf h10 h11)
  ·refine iK (fun L V x h hL hw hC=>?_)
   have h10:=lg hC hL
   have h11:=jA hC hL
   obtain ⟨xc,y,b6,b7,v1,v2,g⟩:=h.old h10
   obtain ⟨k0,-⟩:=hw
   have e0:=g.f0 k0
   refine ⟨_,_,(by conv=>lhs;simp only [k0,e0,cond_true]),fun v=>(by conv=>lhs;simp only [Act.put,sA,s0,sS]),fun K hK=>?_⟩
   go_simp
   refine (FY _ a _ (zF.out _ (HV.out _ g.d)) hsz.1 hsz.2.1).mono ?_
   rintro e y ⟨u,rfl,R,B⟩
   exact hK.out _ _ (((g.below B).iA R.v).lf h10 h11)
  ·refine iK (fun L V x h hL hw hC=>?_)
   have h10:=lg hC hL
   have h11:=jA hC hL
   obtain ⟨xc,y,b6,b7,v1,v2,g⟩:=h.old h10
   have H:=bC.out _ (HV.out _ g.d)
   obtain ⟨o0,o1,o2,o3,o4,o5,o6,o7,o8⟩:=l5 H
   refine ⟨_,_,rfl,fun v=>(by conv=>lhs;simp only [Act.put,sA,s0,sS]),fun K hK=>?_⟩
   go_simp
   exact hK.out _ _ (g.iB.lf h10 h11)
  ·refine iK (fun L V x h hL hw hC=>?_)
   have h10:=lg hC hL
   have h11:=jA hC hL
   obtain ⟨xc,y,b6,b7,v1,v2,g⟩:=h.old h10
   obtain ⟨-,k2,-⟩:=hw
   have e2:=g.f2 k2
   refine ⟨_,_,(by conv=>lhs;simp only [k2,e2,cond_true]),fun v=>(by conv=>lhs;simp only [Act.put,sA,s0,sS]),fun K hK=>?_⟩
   go_simp
   refine (IE _ c.k c.bx c.tt c.uid c.mode c.fl c.si c.tx _ (zG.out _ (HV.out _ g.d)) hsz.2.2.1 hsz.2.2.2.1 hsz.2.2.2.2).mono ?_
   rintro e y ⟨u,rfl,R,B⟩
   exact hK.out _ _ (((g.below B).Ue (show Au _ _ _ _ c from R)).lf h10 h11)
  ·refine iK (fun L V x h hL hw hC=>?_)
   have h10:=lg hC hL
   have h11:=jA hC hL
   obtain ⟨xc,y,b6,b7,v1,v2,g⟩:=h.old h10
   obtain ⟨k1,k3,-⟩:=hw
   obtain ⟨p,t,r⟩:=g.f3 k3
   refine ⟨_,_,(by conv=>lhs;simp only [k1,k3,cond_true]),fun v=>(by conv=>lhs;simp only [Act.put,sA,s0,sS]),fun K hK=>?_⟩
   go_simp
   refine (agb _ _ _ a c (g.f1 k1) r.cs hsz.2.1 hsz.1 ⟨hsz.2.2.1,hsz.2.2.2.2⟩).mono ?_
   rintro e y ⟨p1,p2,rfl,R,B⟩
   exact hK.out _ _ ((g.Uf hL hC B R).lf h10 h11)
  ·refine iK (fun L V x h hL hw hC=>?_)
   have h10:=lg hC hL
   have h11:=jA hC hL
   obtain ⟨xc,y,b6,b7,v1,v2,g⟩:=h.old h10
   obtain ⟨k4,-⟩:=hw
   have e4:=(g.f4 k4).1
   refine ⟨_,_,(by conv=>lhs;simp only [k4,e4,cond_true]),fun v=>(by conv=>lhs;simp only [Act.put,sA,s0,sS]),fun K hK=>?_⟩
   go_simp
   exact hK.out _ _ (g.Ug.lf h10 h11)
  ·refine iK (fun L V x h hL hw hC=>?_)
   have h10:=lg hC hL
   have h11:=jA hC hL
   obtain ⟨xc,y,b6,b7,v1,v2,g⟩:=h.old h10
   obtain ⟨k5,-⟩:=hw
   have e5:=g.f5 k5
   refine ⟨_,_,(by conv=>lhs;simp only [k5,e5,cond_true]),fun v=>(by conv=>lhs;simp only [Act.put,sA,s0,sS]),fun K hK=>?_⟩
   go_simp
   exact hK.out _ _ (g.Uh.lf h10 h11)
  ·refine iK (fun L V x h hL hw hC=>?_)
   have h11:=jA hC hL
   obtain ⟨k5,-⟩:=hw
   obtain ⟨v1,v2,e5,G⟩:=h.Hq k5 h11
   refine ⟨_,_,(by conv=>lhs;simp only [k5,e5,cond_true]),fun v=>(by conv=>lhs;simp only [Act.put,sA,s0,sS]),fun K hK=>?_⟩
   go_simp
   exact hK.out _ _ G
  ·refine iK (fun L V x h hL hw hC=>?_)
   have h10:=lg hC hL
   have h11:=jA hC hL
   obtain ⟨xc,y,b6,b7,v1,v2,g⟩:=h.old h10
   refine ⟨_,_,rfl,fun v=>(by conv=>lhs;simp only [Act.put,sA,s0,sS]),fun K hK=>?_⟩
   go_simp
   exact hK.out _ _ (g.Ui.lf h10 h11)
  ·refine iK (fun L V x h hL hw hC=>?_)
   have h10:=lg hC hL
   have h11:=jA hC hL
   obtain ⟨xc,y,b6,b7,v1,v2,g⟩:=h.old h10
   refine ⟨_,_,rfl,fun v=>(by conv=>lhs;simp only [Act.put,sA,s0,sS]),fun K hK=>?_⟩
   go_simp
   exact hK.out _ _ (g.Uj.lf h10 h11)
  ·refine iK (fun L V x h hL hw hC=>?_)
   have h11:=jA hC hL
   obtain ⟨b6,p0,k0,p1,k1,e8,e6,H,G⟩:=h.Uk hw hL h11
   obtain ⟨-,-,-,-,-,-,k6,k8,-,-⟩:=hw
   obtain ⟨y0,y1,y2⟩:=bD H
   obtain ⟨yz,yl⟩:=bR H
   refine ⟨_,fun _=>_,(by conv=>lhs;simp only [k6,k8,e6,e8,cond_true]),fun _=>rfl,fun K hK=>?_⟩
   go_simp
   exact hK.out undef _ (G undef)
  ·refine iK (fun L V x h hL hw hC=>?_)
   obtain ⟨b7,a0,m0,j0,a1,j1,a2,j2,a3,j3,e9,e7,H,G⟩:=h.Ul hw hL
   obtain ⟨-,-,-,-,-,-,-,k7,-,k9,-⟩:=hw
   obtain ⟨rz,rl,r0,r1,r2,r3,r4,r5,r6,r7,r8,r9⟩:=eT H
   refine ⟨_,fun _=>_,(by conv=>lhs;simp only [k7,k9,e7,e9,cond_true]),fun _=>rfl,fun K hK=>?_⟩
   go_simp
   exact hK.out undef _ (G undef)
  ·simp only [cond_true]
   go_wp2
   go_meet
   case rel=>exact h.fin
 case rest =>
 obtain ⟨b6,b7,p0,p1,a0,a1,a2,a3,k0,k1,m4,j0,j1,j2,j3,rfl,rfl,nH,fq,gD,vE,HB⟩:=hcut
 rename World=>wy
 have X8:=Below.step X HB.out
 replace bU:=ak (fun W (h:Below wy.heap.size wy W)=>bU.out W (Below.step X8 h))
 replace bC:=ak (fun W (h:Below wy.heap.size wy W)=>bC.out W (Below.step X8 h))
 replace zF:=ak (fun W (h:Below wy.heap.size wy W)=>zF.out W (Below.step X8 h))
 replace zG:=ak (fun W (h:Below wy.heap.size wy W)=>zG.out W (Below.step X8 h))
 replace jc:=ak (fun W (h:Below wy.heap.size wy W)=>Below.step jc.out (Below.step X8 h))
 replace nH:=ak (fun W (h:Below wy.heap.size wy W)=>ay h nH.out)
 replace fq:=ak (fun W (h:Below wy.heap.size wy W)=>ay h fq.out)
 replace gD:=ak (fun W (h:Below wy.heap.size wy W)=>gD.out.below h)
 replace vE:=ak (fun W (h:Below wy.heap.size wy W)=>vE.out.below h)
 clear X X8 HV HB DR iZ lT
 have X:=Below.refl wy.heap.size wy
 obtain ⟨e0,e1,e2⟩:=bD (bU.out _ X)
 have el:=lt_of_heap (bU.out _ X)
 go_wp2_with fail
 refine (FY _ a _ (zF.out _ X) hsz.1 hsz.2.1).mono ?_
 rintro e w9 ⟨vx,rfl,R8,B⟩
 clear e0 e1 e2 el
 replace X:=Below.step X B
 have s9:=B.size
 clear B
 obtain ⟨f0,g0,f1,g1,rfl⟩:=R8.v.form'
 go_upto_region 10 with fail
 have AB:=(Below.refl w9.heap.size w9).alloc (Nat.le_refl _) (.cells #[.int .i64 a.valid,.slice f0 a.boxes.length g0,.slice f1 a.seen.length g1] 33)
 have K8:=aV w9 (.cells #[.int .i64 a.valid,.slice f0 a.boxes.length g0,.slice f1 a.seen.length g1] 33)
 replace R8:=R8.below AB
 replace X:=Below.step X AB
 have s10:w9.heap.size+1≤(w9.alloc (.cells #[.int .i64 a.valid,.slice f0 a.boxes.length g0,.slice f1 a.seen.length g1] 33)).heap.size:=by simp
 generalize w9.alloc (.cells #[.int .i64 a.valid,.slice f0 a.boxes.length g0,.slice f1 a.seen.length g1] 33)=wa at K8 R8 X s10 ⊢
 clear AB
 obtain ⟨o0,o1,o2,o3,o4,o5,o6,o7,o8⟩:=l5 (bC.out _ X)
 go_wp2_with fail
 refine (IE _ c.k c.bx c.tt c.uid c.mode c.fl c.si c.tx _ (zG.out _ X) hsz.2.2.1 hsz.2.2.2.1 hsz.2.2.2.2).mono ?_
 rintro e wb ⟨vx,rfl,R9,B⟩
 clear o0 o1 o2 o3 o4 o5 o6 o7 o8
 replace X:=Below.step X B
 replace R8:=R8.below B
 replace K8:=ay B K8
 have s11:=B.size
 clear B
 obtain ⟨q0,q1,q2,rfl,t0,t1,t2,-⟩:=R9.v
 obtain ⟨f2,n2,g2,rfl⟩:=t0.aG
 obtain ⟨f3,n3,g3,rfl⟩:=t1.aG
 obtain ⟨f4,n4,g4,rfl⟩:=t2.aG
 clear t0 t1 t2
 go_upto_region 11 with fail
 have AB:=(Below.refl wb.heap.size wb).alloc (Nat.le_refl _) (.cells #[.int .i64 c.k,.slice f2 n2 g2,.slice f3 n3 g3,.int .i64 c.uid,.int .i64 c.mode,.int .i64 c.fl,.int .i64 c.si,.slice f4 n4 g4] 44)
 have K9:=aV wb (.cells #[.int .i64 c.k,.slice f2 n2 g2,.slice f3 n3 g3,.int .i64 c.uid,.int .i64 c.mode,.int .i64 c.fl,.int .i64 c.si,.slice f4 n4 g4] 44)
 replace K8:=ay AB K8
 replace R8:=R8.below AB
 replace R9:=R9.below AB
 replace X:=Below.step X AB
 have s12:wb.heap.size+1≤(wb.alloc (.cells #[.int .i64 c.k,.slice f2 n2 g2,.slice f3 n3 g3,.int .i64 c.uid,.int .i64 c.mode,.int .i64 c.fl,.int .i64 c.si,.slice f4 n4 g4] 44)).heap.size:=by simp
 generalize wb.alloc (.cells #[.int .i64 c.k,.slice f2 n2 g2,.slice f3 n3 g3,.int .i64 c.uid,.int .i64 c.mode,.int .i64 c.fl,.int .i64 c.si,.slice f4 n4 g4] 44)=wc at K8 K9 R8 R9 X s12 ⊢
 clear AB
 obtain ⟨e0,e1,e2⟩:=bD K8
 have el:=lt_of_heap K8
 obtain ⟨o0,o1,o2,o3,o4,o5,o6,o7,o8⟩:=l5 K9
 go_wp2_with fail
 refine (TA _ _ _ a c R8.v R9.v hsz.2.1).mono ?_
 rintro e wd ⟨v1,v2,rfl,RT,B⟩
 clear e0 e1 e2 el o0 o1 o2 o3 o4 o5 o6 o7 o8
 replace X:=Below.step X B
 replace R8:=R8.below B
 replace R9:=R9.below B
 replace K8:=ay B K8
 replace K9:=ay B K9
 have s13:=B.size
 clear B
 obtain ⟨T1,T2,RG,RR,t1,t2,t3⟩:=RT.own
 clear RT
 obtain ⟨f5,g5,f6,g6,rfl⟩:=RG.v.form'
 obtain ⟨f7,n7,g7,f8,g8,f9,g9,fa,ga,rfl⟩:=RR.rv.form
 go_upto_region 12 with fail
 obtain ⟨KA,KB,AB⟩:=gJ wd (.cells #[.int .i64 (aH a c).1.valid,.slice f5 (aH a c).1.boxes.length g5,.slice f6 (aH a c).1.seen.length g6] 33) (.cells #[.int .i64 (aH a c).2.code,.int .i64 (aH a c).2.num,.slice f7 n7 g7,.int .i64 (aH a c).2.box.valid,.int .i64 (aH a c).2.box.next,.int .i64 (aH a c).2.box.seq,.slice f8 (aH a c).2.box.ah.length g8,.slice f9 (aH a c).2.box.au.length g9,.int .i64 (aH a c).2.box.lost,.slice fa (aH a c).2.names.length ga] 40)
 replace KA:=ay (Below.refl _ _) KA
 replace K8:=ay AB K8
 replace K9:=ay AB K9
 replace R8:=R8.below AB
 replace R9:=R9.below AB
 replace RG:=RG.below AB
 replace RR:=RR.below AB
 replace X:=Below.step X AB
 have Z:wd.heap.size+2≤((wd.alloc (.cells #[.int .i64 (aH a c).1.valid,.slice f5 (aH a c).1.boxes.length g5,.slice f6 (aH a c).1.seen.length g6] 33)).alloc (.cells #[.int .i64 (aH a c).2.code,.int .i64 (aH a c).2.num,.slice f7 n7 g7,.int .i64 (aH a c).2.box.valid,.int .i64 (aH a c).2.box.next,.int .i64 (aH a c).2.box.seq,.slice f8 (aH a c).2.box.ah.length g8,.slice f9 (aH a c).2.box.au.length g9,.int .i64 (aH a c).2.box.lost,.slice fa (aH a c).2.names.length ga] 40)).heap.size:=by simp
 generalize (wd.alloc (.cells #[.int .i64 (aH a c).1.valid,.slice f5 (aH a c).1.boxes.length g5,.slice f6 (aH a c).1.seen.length g6] 33)).alloc (.cells #[.int .i64 (aH a c).2.code,.int .i64 (aH a c).2.num,.slice f7 n7 g7,.int .i64 (aH a c).2.box.valid,.int .i64 (aH a c).2.box.next,.int .i64 (aH a c).2.box.seq,.slice f8 (aH a c).2.box.ah.length g8,.slice f9 (aH a c).2.box.au.length g9,.int .i64 (aH a c).2.box.lost,.slice fa (aH a c).2.names.length ga] 40)=we at KA KB K8 K9 R8 R9 RG RR X Z ⊢
 clear AB
 obtain ⟨vF,vG,vH⟩:=bD KA
 have vI:=lt_of_heap KA
 obtain ⟨EJ,EK,EM⟩:=bD (nH.out _ X)
 have EN:=lt_of_heap (nH.out _ X)
 go_wp2_with fail
 refine (II _ _ (aH a c).1 _ RG.v (gD.out _ X)).mono ?_
 rintro e v1 ⟨rfl,B⟩
 clear vF vG vH vI EJ EK EM EN
 replace X:=Below.step X B
 replace K8:=ay B K8
 replace K9:=ay B K9
 replace R8:=R8.below B
 replace R9:=R9.below B
 replace KA:=ay B KA
 replace KB:=ay B KB
 replace RG:=RG.below B
 replace RR:=RR.below B
 replace Z:=Nat.le_trans Z B.size
 clear B
 obtain ⟨vJ,vK,vL,vM,vN,vO,vP,vQ,vR,vS⟩:=aM KB
 have vT:=lt_of_heap KB
 obtain ⟨EO,EP,ER,ES,ET,EU,EW,EX,EY,EZ⟩:=aM (fq.out _ X)
 have E8:=lt_of_heap (fq.out _ X)
 go_wp2_with fail
 refine (Ov _ _ (aH a c).2 _ RR.rv (vE.out _ X)).mono ?_
 rintro e v2 ⟨rfl,B⟩
 clear vJ vK vL vM vN vO vP vQ vR vS vT EO EP ER ES ET EU EW EX EY EZ E8
 replace X:=Below.step X B
 replace K8:=ay B K8
 replace K9:=ay B K9
 replace R8:=R8.below B
 replace R9:=R9.below B
 replace KA:=ay B KA
 replace KB:=ay B KB
 replace RG:=RG.below B
 replace RR:=RR.below B
 replace Z:=Nat.le_trans Z B.size
 clear B
 go_upto_region 14 with fail
 have DR:Below v2.heap.size v2 v2.drew:=bd _ _
 refine wp_region_held_drew (S:=fun w'=>w'.rangeAt w9.heap.size 0 [.int .i64 a.valid,.slice f0 a.boxes.length g0,.slice f1 a.seen.length g1]∧w'.rangeAt w.heap.size 0 [.int .i64 a.valid,.slice ba a.boxes.length bc,.slice sa a.seen.length sc]) (by kernel_rfl) ⟨fC (ay DR K8),fC (ay DR (bU.out _ X))⟩ (fun aks=>(show wpAnyH _ _ _ _ _ 5 #[false,false,false,false,false] _ _ from ?_))
 refine Hf 0 55 33 (.tmp 8) w9.heap.size 0 [.int .i64 a.valid,.slice f0 a.boxes.length g0,.slice f1 a.seen.length g1] aks (fun w h=>h.1) Tryz.underlying33 ?_
 refine Hf 1 56 25 (.tmp 2) w.heap.size 0 [.int .i64 a.valid,.slice ba a.boxes.length bc,.slice sa a.seen.length sc] aks (fun w h=>h.2) Tryz.underlying25 ?_
 replace X:=Below.step X DR
 replace K8:=ay DR K8
 replace K9:=ay DR K9
 replace R8:=R8.below DR
 replace R9:=R9.below DR
 replace KA:=ay DR KA
 replace KB:=ay DR KB
 replace RG:=RG.below DR
 replace RR:=RR.below DR
 replace Z:=Nat.le_trans Z DR.size
 have pF:Hid (∀ w',Below v2.drew.heap.size v2.drew w'→w'.rangeAt w9.heap.size 0 [.int .i64 a.valid,.slice f0 a.boxes.length g0,.slice f1 a.seen.length g1]∧w'.rangeAt w.heap.size 0 [.int .i64 a.valid,.slice ba a.boxes.length bc,.slice sa a.seen.length sc]):=fun w' h=>⟨fC (ay h K8),fC (ay h (bU.out _ X))⟩
 clear DR
 refine wpAnyH_ready (rs:=[2]) (by kernel_rfl) (by simp) ?_
 refine AllReadyH.cons rfl (fun K hK=>?_) AllReadyH.nil
 go_simp
 refine (FY _ a _ (zF.out _ X) hsz.1 hsz.2.1).mono ?_
 rintro e v3 ⟨vx,rfl,RX,B⟩
 replace X:=Below.step X B
 replace K8:=ay B K8
 replace K9:=ay B K9
 replace R8:=R8.below B
 replace R9:=R9.below B
 replace KA:=ay B KA
 replace KB:=ay B KB
 replace RG:=RG.below B
 replace RR:=RR.below B
 replace Z:=Nat.le_trans Z B.size
 refine hK.out _ _ (pF.out _ B) (fun aks=>?_)
 clear hK K B
 refine wpAnyH_ready (rs:=[3]) (by kernel_rfl) (by simp) ?_
 refine AllReadyH.cons rfl (fun K hK=>?_) AllReadyH.nil
 go_simp
 refine (II _ _ a _ R8.v RX.v).mono ?_
 rintro e v4 ⟨rfl,B⟩
 replace X:=Below.step X B
 replace K8:=ay B K8
 replace K9:=ay B K9
 replace R8:=R8.below B
 replace R9:=R9.below B
 replace KA:=ay B KA
 replace KB:=ay B KB
 replace RG:=RG.below B
 replace RR:=RR.below B
 replace Z:=Nat.le_trans Z B.size
 refine hK.out _ _ ⟨fC K8,fC (bU.out _ X)⟩ (fun aks=>?_)
 clear hK K B pF
 refine tq 4 59 aks ?_
 refine wpAnyH_done (by kernel_rfl) ?_ _
 go_upto_region 16 with fail
 have DR:Below v4.heap.size v4 v4.drew:=bd _ _
 refine wp_region_held_drew (S:=fun w'=>w'.rangeAt wb.heap.size 0 [.int .i64 c.k,.slice f2 n2 g2,.slice f3 n3 g3,.int .i64 c.uid,.int .i64 c.mode,.int .i64 c.fl,.int .i64 c.si,.slice f4 n4 g4]∧w'.rangeAt (w.heap.size+1) 0 [.int .i64 c.k,.slice x0 m0 z0,.slice x1 m1 z1,.int .i64 c.uid,.int .i64 c.mode,.int .i64 c.fl,.int .i64 c.si,.slice x2 m2 z2]) (by kernel_rfl) ⟨fC (ay DR K9),fC (ay DR (bC.out _ X))⟩ (fun aks=>(show wpAnyH _ _ _ _ _ 5 #[false,false,false,false,false] _ _ from ?_))
 refine Hf 0 60 44 (.tmp 9) wb.heap.size 0 [.int .i64 c.k,.slice f2 n2 g2,.slice f3 n3 g3,.int .i64 c.uid,.int .i64 c.mode,.int .i64 c.fl,.int .i64 c.si,.slice f4 n4 g4] aks (fun w h=>h.1) Tryz.underlying44 ?_
 refine Hf 1 61 28 (.tmp 3) (w.heap.size+1) 0 [.int .i64 c.k,.slice x0 m0 z0,.slice x1 m1 z1,.int .i64 c.uid,.int .i64 c.mode,.int .i64 c.fl,.int .i64 c.si,.slice x2 m2 z2] aks (fun w h=>h.2) Tryz.underlying28 ?_
 replace X:=Below.step X DR
 replace K8:=ay DR K8
 replace K9:=ay DR K9
 replace R8:=R8.below DR
 replace R9:=R9.below DR
 replace KA:=ay DR KA
 replace KB:=ay DR KB
 replace RG:=RG.below DR
 replace RR:=RR.below DR
 replace Z:=Nat.le_trans Z DR.size
 have pF:Hid (∀ w',Below v4.drew.heap.size v4.drew w'→w'.rangeAt wb.heap.size 0 [.int .i64 c.k,.slice f2 n2 g2,.slice f3 n3 g3,.int .i64 c.uid,.int .i64 c.mode,.int .i64 c.fl,.int .i64 c.si,.slice f4 n4 g4]∧w'.rangeAt (w.heap.size+1) 0 [.int .i64 c.k,.slice x0 m0 z0,.slice x1 m1 z1,.int .i64 c.uid,.int .i64 c.mode,.int .i64 c.fl,.int .i64 c.si,.slice x2 m2 z2]):=fun w' h=>⟨fC (ay h K9),fC (ay h (bC.out _ X))⟩
 clear DR
 refine wpAnyH_ready (rs:=[2]) (by kernel_rfl) (by simp) ?_
 refine AllReadyH.cons rfl (fun K hK=>?_) AllReadyH.nil
 go_simp
 refine (IE _ c.k c.bx c.tt c.uid c.mode c.fl c.si c.tx _ (zG.out _ X) hsz.2.2.1 hsz.2.2.2.1 hsz.2.2.2.2).mono ?_
 rintro e v5 ⟨vy,rfl,RY,B⟩
 replace X:=Below.step X B
 replace K8:=ay B K8
 replace K9:=ay B K9
 replace R8:=R8.below B
 replace R9:=R9.below B
 replace KA:=ay B KA
 replace KB:=ay B KB
 replace RG:=RG.below B
 replace RR:=RR.below B
 replace Z:=Nat.le_trans Z B.size
 refine hK.out _ _ (pF.out _ B) (fun aks=>?_)
 clear hK K B
 refine wpAnyH_ready (rs:=[3]) (by kernel_rfl) (by simp) ?_
 refine AllReadyH.cons rfl (fun K hK=>?_) AllReadyH.nil
 go_simp
 refine (agh _ _ c.k c.bx c.tt c.uid c.mode c.fl c.si c.tx _ R9.v RY.v).mono ?_
 rintro e v6 ⟨rfl,B⟩
 replace X:=Below.step X B
 replace K8:=ay B K8
 replace K9:=ay B K9
 replace R8:=R8.below B
 replace R9:=R9.below B
 replace KA:=ay B KA
 replace KB:=ay B KB
 replace RG:=RG.below B
 replace RR:=RR.below B
 replace Z:=Nat.le_trans Z B.size
 refine hK.out _ _ ⟨fC K9,fC (bC.out _ X)⟩ (fun aks=>?_)
 clear hK K B pF
 refine tq 4 64 aks ?_
 refine wpAnyH_done (by kernel_rfl) ?_ _
 obtain ⟨agK,agL,agM⟩:=bD K8
 have agN:=lt_of_heap K8
 go_wp2_with fail
 refine (agn wy.heap.size w9.heap.size _ a 1 _ R8 (by omega) hsz.1 hsz.2.1 (by omega) (by omega)).mono ?_
 rintro e wm1 ⟨rfl,-,Wi⟩
 clear R8
 clear agK agL agM agN
 replace X:=Within.below Wi X (by omega)
 replace K8:=qP Wi K8 (by omega)
 replace K9:=qP Wi K9 (by omega)
 replace R9:=R9.gZ Wi (by omega)
 replace KA:=qP Wi KA (by omega)
 replace KB:=qP Wi KB (by omega)
 replace RG:=jY.frame RG fun b hb hl=>Wi.block b hl (by have:=hb;unfold In at this;omega)
 replace RR:=RR.gZ Wi (by omega)
 replace Z:=Nat.le_trans Z Wi.size
 clear Wi
 have hw1:=Ar a.boxes
 have hw2:=DC a.seen
 obtain ⟨agO,agP,agQ,agR,agS,agT,agU,agV,agW⟩:=l5 K9
 go_wp2_with fail
 refine (agp wa.heap.size wb.heap.size _ c.k c.bx c.tt c.uid c.mode c.fl c.si c.tx _ _ R9 (by omega) hsz.2.2.1 hsz.2.2.2.1 hsz.2.2.2.2 (by omega) (by omega)).mono ?_
 rintro e wm2 ⟨rfl,-,Wi⟩
 clear R9
 clear agO agP agQ agR agS agT agU agV agW
 replace X:=Within.below Wi X (by omega)
 replace K8:=qP Wi K8 (by omega)
 replace K9:=qP Wi K9 (by omega)
 replace KA:=qP Wi KA (by omega)
 replace KB:=qP Wi KB (by omega)
 replace RG:=jY.frame RG fun b hb hl=>Wi.block b hl (by have:=hb;unfold In at this;omega)
 replace RR:=RR.gZ Wi (by omega)
 replace Z:=Nat.le_trans Z Wi.size
 clear Wi
 clear K8 K9 hw1 hw2
 obtain ⟨vF,vG,vH⟩:=bD KA
 have vI:=lt_of_heap KA
 obtain ⟨EJ,EK,EM⟩:=bD (nH.out _ X)
 have EN:=lt_of_heap (nH.out _ X)
 have hm1:¬ ((1:Int)+kF a.boxes+ou a.seen+c.bx.length+c.tt.length+c.tx.length < 0):=by omega
 go_wp2_with fail
 refine (II _ _ (aH a c).1 _ RG.v (gD.out _ X)).mono ?_
 rintro e v7 ⟨rfl,B⟩
 clear vF vG vH vI EJ EK EM EN
 replace X:=Below.step X B
 replace KA:=ay B KA
 replace KB:=ay B KB
 replace RG:=RG.below B
 replace RR:=RR.below B
 replace Z:=Nat.le_trans Z B.size
 clear B
 obtain ⟨vJ,vK,vL,vM,vN,vO,vP,vQ,vR,vS⟩:=aM KB
 have vT:=lt_of_heap KB
 obtain ⟨EO,EP,ER,ES,ET,EU,EW,EX,EY,EZ⟩:=aM (fq.out _ X)
 have E8:=lt_of_heap (fq.out _ X)
 go_wp2_with fail
 refine (Ov _ _ (aH a c).2 _ RR.rv (vE.out _ X)).mono ?_
 rintro e v8 ⟨rfl,B⟩
 clear vJ vK vL vM vN vO vP vQ vR vS vT EO EP ER ES ET EU EW EX EY EZ E8
 replace X:=Below.step X B
 replace KA:=ay B KA
 replace KB:=ay B KB
 replace RG:=RG.below B
 replace RR:=RR.below B
 replace Z:=Nat.le_trans Z B.size
 clear B
 clear hm1
 obtain ⟨vF,vG,vH⟩:=bD KA
 have vI:=lt_of_heap KA
 go_wp2_with fail
 refine (WJ _ _ (aH a c).1 1 _ RG (fun b hb=>by unfold In at hb;omega) gP.out.1.1 gP.out.1.2 (by omega) (by omega)).mono ?_
 rintro e wm3 ⟨rfl,RH,Wr⟩
 clear vF vG vH vI RG
 replace X:=Wr.below X (fun b hb=>by unfold In at hb;omega) X.size
 replace KA:=(Wr.block _ (lt_of_heap KA) (by unfold In;omega)).trans KA
 replace KB:=(Wr.block _ (lt_of_heap KB) (by unfold In;omega)).trans KB
 replace RR:=RR.frame fun b h1 h2 hl=>Wr.block b hl (by unfold In;omega)
 replace Z:=Nat.le_trans Z Wr.size
 clear Wr
 have RG:=RH
 clear RH
 have HW:=ak (And.intro (Ar (aH a c).1.boxes) (And.intro (DC (aH a c).1.seen) gP.out.1))
 obtain ⟨vJ,vK,vL,vM,vN,vO,vP,vQ,vR,vS⟩:=aM KB
 have vT:=lt_of_heap KB
 go_wp2_with fail
 refine (ags T1 T2 _ (aH a c).2 _ _ RR (by omega) gP.out.2.1 gP.out.2.2.1 gP.out.2.2.2.1 gP.out.2.2.2.2 (by have:=HW.out;omega) (by have:=HW.out;omega)).mono ?_
 rintro e wm4 ⟨rfl,RH,Wi⟩
 generalize hM:(1:Int)+kF (aH a c).1.boxes+ou (aH a c).1.seen+(aH a c).2.box.name.length+dL (aH a c).2.box.ah+fZ (aH a c).2.box.au+qO (aH a c).2.names=M
 have HM:=ak hM
 clear hM
 clear RR
 clear vJ vK vL vM vN vO vP vQ vR vS vT
 replace X:=Within.below Wi X (by omega)
 replace KA:=qP Wi KA (by omega)
 replace KB:=qP Wi KB (by omega)
 replace RG:=jY.frame RG fun b hb hl=>Wi.block b hl (by have:=hb;unfold In at this;omega)
 replace Z:=Nat.le_trans Z Wi.size
 clear Wi
 have RR:=RH
 clear RH
 obtain ⟨vF,vG,vH⟩:=bD KA
 have vI:=lt_of_heap KA
 go_wp2_with fail
 refine (WQ _ (aH a c).1 1 _ RG.v gP.out.1.1 gP.out.1.2 (by omega) (by omega)).mono ?_
 rintro e v9 ⟨rfl,B⟩
 clear vF vG vH vI
 replace X:=Below.step X B
 replace KA:=ay B KA
 replace KB:=ay B KB
 replace RG:=RG.below B
 replace RR:=RR.below B
 replace Z:=Nat.le_trans Z B.size
 clear B
 have hm1:¬ ((1:Int)+kF (aH a c).1.boxes+ou (aH a c).1.seen < 0):=by omega
 obtain ⟨vJ,vK,vL,vM,vN,vO,vP,vQ,vR,vS⟩:=aM KB
 have vT:=lt_of_heap KB
 go_wp2_with fail
 refine (WR _ (aH a c).2 _ _ RR.rv gP.out.2.1 gP.out.2.2.1 gP.out.2.2.2.1 gP.out.2.2.2.2 (by have:=HW.out;omega) (by have:=HW.out;omega)).mono ?_
 rintro e v10 ⟨rfl,B⟩
 rw [HM.out]
 clear vJ vK vL vM vN vO vP vQ vR vS vT
 replace X:=Below.step X B
 replace KA:=ay B KA
 replace KB:=ay B KB
 replace RG:=RG.below B
 replace RR:=RR.below B
 replace Z:=Nat.le_trans Z B.size
 clear B
 clear hm1
 have hm2:¬ (M < 0):=by have:=HM.out;omega
 go_upto_region 35 with fail
 clear hm2
 generalize Value.agg #[.int .i64 a.valid,.slice ba a.boxes.length bc,.slice sa a.seen.length sc]=L0
 generalize Value.agg #[.int .i64 c.k,.slice x0 m0 z0,.slice x1 m1 z1,.int .i64 c.uid,.int .i64 c.mode,.int .i64 c.fl,.int .i64 c.si,.slice x2 m2 z2]=L1
 generalize Value.agg #[.int .i64 a.valid,.slice f0 a.boxes.length g0,.slice f1 a.seen.length g1]=L2
 generalize Value.agg #[.int .i64 c.k,.slice f2 n2 g2,.slice f3 n3 g3,.int .i64 c.uid,.int .i64 c.mode,.int .i64 c.fl,.int .i64 c.si,.slice f4 n4 g4]=L3
 generalize Value.agg #[.int .i64 (aH a c).1.valid,.slice f5 (aH a c).1.boxes.length g5,.slice f6 (aH a c).1.seen.length g6]=L4
 generalize Value.agg #[.int .i64 (aH a c).2.code,.int .i64 (aH a c).2.num,.slice f7 n7 g7,.int .i64 (aH a c).2.box.valid,.int .i64 (aH a c).2.box.next,.int .i64 (aH a c).2.box.seq,.slice f8 (aH a c).2.box.ah.length g8,.slice f9 (aH a c).2.box.au.length g9,.int .i64 (aH a c).2.box.lost,.slice fa (aH a c).2.names.length ga]=L5
 generalize Value.agg #[.int .i64 (aH a c).1.valid,.slice p0 (aH a c).1.boxes.length k0,.slice p1 (aH a c).1.seen.length k1]=L6
 generalize Value.agg #[.int .i64 (aH a c).2.code,.int .i64 (aH a c).2.num,.slice a0 m4 j0,.int .i64 (aH a c).2.box.valid,.int .i64 (aH a c).2.box.next,.int .i64 (aH a c).2.box.seq,.slice a1 (aH a c).2.box.ah.length j1,.slice a2 (aH a c).2.box.au.length j2,.int .i64 (aH a c).2.box.lost,.slice a3 (aH a c).2.names.length j3]=L7
 generalize Value.tuple #[L4,L5]=L8
 generalize Value.tuple #[L6,L7]=L9
 have DR:Below v10.heap.size v10 v10.drew:=bd _ _
 have HV:Hid (∀ w',Below v10.heap.size v10 w'→Below wy.heap.size wy w'):=fun w' h=>Below.step X h
 go_cut [15,16] (fun s6 s7 wx=>DI v10 wx s6 s7 (aH a c))
 case first =>
  clear KA KB RG RR Z HW HM gP nH fq gD vE jc t1 t2 t3 s9 s10 s11 s12 s13
  refine Ud (F:=LF v10 (.agg #[.int .i64 a.valid,.slice ba a.boxes.length bc,.slice sa a.seen.length sc]) (.agg #[.int .i64 c.k,.slice x0 m0 z0,.slice x1 m1 z1,.int .i64 c.uid,.int .i64 c.mode,.int .i64 c.fl,.int .i64 c.si,.slice x2 m2 z2]) a c) (TU (by kernel_rfl) agI) (by kernel_rfl) ⟨?_,?_,?_,?_,?_,?_,?_,?_,?_,?_,?_,?_,trivial⟩ (fun V=>LF.start DR rfl) (fun V x h=>?_)
  ·refine iK (fun L V x h hL hw hC=>?_)
   have h10:=lg hC hL
   have h11:=jA hC hL
   obtain ⟨xc,y,b6,b7,v1,v2,g⟩:=h.old h10
   have H:=bU.out _ (HV.out _ g.d)
   obtain ⟨e0,e1,e2⟩:=bD H
   have el:=lt_of_heap H
   refine ⟨_,_,rfl,fun v=>(by conv=>lhs;simp only [Act.put,sA,s0,sS]),fun K hK=>?_⟩
   go_simp
   exact hK.out _ _ (g.iy.lf h10 h11)
  ·refine iK (fun L V x h hL hw hC=>?_)
   have h10:=lg hC hL
   have h11:=jA hC hL
   obtain ⟨xc,y,b6,b7,v1,v2,g⟩:=h.old h10
   obtain ⟨k0,-⟩:=hw
   have e0:=g.f0 k0
   refine ⟨_,_,(by conv=>lhs;simp only [k0,e0,cond_true]),fun v=>(by conv=>lhs;simp only [Act.put,sA,s0,sS]),fun K hK=>?_⟩
   go_simp
   refine (FY _ a _ (zF.out _ (HV.out _ g.d)) hsz.1 hsz.2.1).mono ?_
   rintro e y ⟨u,rfl,R,B⟩
   exact hK.out _ _ (((g.below B).iA R.v).lf h10 h11)
  ·refine iK (fun L V x h hL hw hC=>?_)
   have h10:=lg hC hL
   have h11:=jA hC hL
   obtain ⟨xc,y,b6,b7,v1,v2,g⟩:=h.old h10
   have H:=bC.out _ (HV.out _ g.d)
   obtain ⟨o0,o1,o2,o3,o4,o5,o6,o7,o8⟩:=l5 H
   refine ⟨_,_,rfl,fun v=>(by conv=>lhs;simp only [Act.put,sA,s0,sS]),fun K hK=>?_⟩
   go_simp
   exact hK.out _ _ (g.iB.lf h10 h11)
  ·refine iK (fun L V x h hL hw hC=>?_)
   have h10:=lg hC hL
   have h11:=jA hC hL
   obtain ⟨xc,y,b6,b7,v1,v2,g⟩:=h.old h10
   obtain ⟨-,k2,-⟩:=hw
   have e2:=g.f2 k2
   refine ⟨_,_,(by conv=>lhs;simp only [k2,e2,cond_true]),fun v=>(by conv=>lhs;simp only [Act.put,sA,s0,sS]),fun K hK=>?_⟩
   go_simp
   refine (IE _ c.k c.bx c.tt c.uid c.mode c.fl c.si c.tx _ (zG.out _ (HV.out _ g.d)) hsz.2.2.1 hsz.2.2.2.1 hsz.2.2.2.2).mono ?_
   rintro e y ⟨u,rfl,R,B⟩
   exact hK.out _ _ (((g.below B).Ue (show Au _ _ _ _ c from R)).lf h10 h11)
  ·refine iK (fun L V x h hL hw hC=>?_)
   have h10:=lg hC hL
   have h11:=jA hC hL
   obtain ⟨xc,y,b6,b7,v1,v2,g⟩:=h.old h10
   obtain ⟨k1,k3,-⟩:=hw
   obtain ⟨p,t,r⟩:=g.f3 k3
   refine ⟨_,_,(by conv=>lhs;simp only [k1,k3,cond_true]),fun v=>(by conv=>lhs;simp only [Act.put,sA,s0,sS]),fun K hK=>?_⟩
   go_simp
   refine (acM _ _ _ a c (g.f1 k1) (iN.v r) hsz.2.1).mono ?_
   rintro e y ⟨p1,p2,rfl,R,B⟩
   exact hK.out _ _ ((g.Uf hL hC B R).lf h10 h11)
  ·refine iK (fun L V x h hL hw hC=>?_)
   have h10:=lg hC hL
   have h11:=jA hC hL
   obtain ⟨xc,y,b6,b7,v1,v2,g⟩:=h.old h10
   obtain ⟨k4,-⟩:=hw
   have e4:=(g.f4 k4).1
   refine ⟨_,_,(by conv=>lhs;simp only [k4,e4,cond_true]),fun v=>(by conv=>lhs;simp only [Act.put,sA,s0,sS]),fun K hK=>?_⟩
   go_simp
   exact hK.out _ _ (g.Ug.lf h10 h11)
  ·refine iK (fun L V x h hL hw hC=>?_)
   have h10:=lg hC hL
   have h11:=jA hC hL
   obtain ⟨xc,y,b6,b7,v1,v2,g⟩:=h.old h10
   obtain ⟨k5,-⟩:=hw
   have e5:=g.f5 k5
   refine ⟨_,_,(by conv=>lhs;simp only [k5,e5,cond_true]),fun v=>(by conv=>lhs;simp only [Act.put,sA,s0,sS]),fun K hK=>?_⟩
   go_simp
   exact hK.out _ _ (g.Uh.lf h10 h11)
  ·refine iK (fun L V x h hL hw hC=>?_)
   have h11:=jA hC hL
   obtain ⟨k5,-⟩:=hw
   obtain ⟨v1,v2,e5,G⟩:=h.Hq k5 h11
   refine ⟨_,_,(by conv=>lhs;simp only [k5,e5,cond_true]),fun v=>(by conv=>lhs;simp only [Act.put,sA,s0,sS]),fun K hK=>?_⟩
   go_simp
   exact hK.out _ _ G
  ·refine iK (fun L V x h hL hw hC=>?_)
   have h10:=lg hC hL
   have h11:=jA hC hL
   obtain ⟨xc,y,b6,b7,v1,v2,g⟩:=h.old h10
   refine ⟨_,_,rfl,fun v=>(by conv=>lhs;simp only [Act.put,sA,s0,sS]),fun K hK=>?_⟩
   go_simp
   exact hK.out _ _ (g.Ui.lf h10 h11)
  ·refine iK (fun L V x h hL hw hC=>?_)
   have h10:=lg hC hL
   have h11:=jA hC hL
   obtain ⟨xc,y,b6,b7,v1,v2,g⟩:=h.old h10
   refine ⟨_,_,rfl,fun v=>(by conv=>lhs;simp only [Act.put,sA,s0,sS]),fun K hK=>?_⟩
   go_simp
   exact hK.out _ _ (g.Uj.lf h10 h11)
  ·refine iK (fun L V x h hL hw hC=>?_)
   have h11:=jA hC hL
   obtain ⟨b6,p0,k0,p1,k1,e8,e6,H,G⟩:=h.Uk hw hL h11
   obtain ⟨-,-,-,-,-,-,k6,k8,-,-⟩:=hw
   obtain ⟨y0,y1,y2⟩:=bD H
   obtain ⟨yz,yl⟩:=bR H
   refine ⟨_,fun _=>_,(by conv=>lhs;simp only [k6,k8,e6,e8,cond_true]),fun _=>rfl,fun K hK=>?_⟩
   go_simp
   exact hK.out undef _ (G undef)
  ·refine iK (fun L V x h hL hw hC=>?_)
   obtain ⟨b7,a0,m0,j0,a1,j1,a2,j2,a3,j3,e9,e7,H,G⟩:=h.Ul hw hL
   obtain ⟨-,-,-,-,-,-,-,k7,-,k9,-⟩:=hw
   obtain ⟨rz,rl,r0,r1,r2,r3,r4,r5,r6,r7,r8,r9⟩:=eT H
   refine ⟨_,fun _=>_,(by conv=>lhs;simp only [k7,k9,e7,e9,cond_true]),fun _=>rfl,fun K hK=>?_⟩
   go_simp
   exact hK.out undef _ (G undef)
  ·simp only [cond_true]
   go_wp2
   go_meet
   case rel=>exact h.fin
 case rest =>
 obtain ⟨b6,b7,q0,q1,d0,d1,d2,d3,i0,i1,i4,l0,l1,l2,l3,rfl,rfl,KC,KD,HA,HR,HB⟩:=hcut
 rename World=>wz
 replace KC:=KC.out
 replace KD:=KD.out
 have B:=HB.out
 have RC:=HA.out
 have RD:=HR.out
 clear HA HR HB DR HV
 replace X:=Below.step X B
 replace KA:=ay B KA
 replace KB:=ay B KB
 replace RG:=RG.below B
 replace RR:=RR.below B
 replace Z:=Nat.le_trans Z B.size
 clear B
 obtain ⟨agX,agY,agZ⟩:=bD KC
 have ag0:=lt_of_heap KC
 obtain ⟨EJ,EK,EM⟩:=bD (nH.out _ X)
 have EN:=lt_of_heap (nH.out _ X)
 go_wp2_with fail
 refine (II _ _ (aH a c).1 _ RC (gD.out _ X)).mono ?_
 rintro e v11 ⟨rfl,B⟩
 clear agX agY agZ ag0 EJ EK EM EN
 replace X:=Below.step X B
 replace KA:=ay B KA
 replace KB:=ay B KB
 replace RG:=RG.below B
 replace RR:=RR.below B
 replace KC:=ay B KC
 replace KD:=ay B KD
 replace RC:=RC.below B
 replace RD:=RD.below B
 replace Z:=Nat.le_trans Z B.size
 clear B
 obtain ⟨ag1,ag2,ag3,ag4,ag5,ag6,ag7,ag8,ag9,aha⟩:=aM KD
 have ahb:=lt_of_heap KD
 obtain ⟨EO,EP,ER,ES,ET,EU,EW,EX,EY,EZ⟩:=aM (fq.out _ X)
 have E8:=lt_of_heap (fq.out _ X)
 go_wp2_with fail
 refine (Ov _ _ (aH a c).2 _ RD (vE.out _ X)).mono ?_
 rintro e v12 ⟨rfl,B⟩
 clear ag1 ag2 ag3 ag4 ag5 ag6 ag7 ag8 ag9 aha ahb EO EP ER ES ET EU EW EX EY EZ E8
 replace X:=Below.step X B
 replace KA:=ay B KA
 replace KB:=ay B KB
 replace RG:=RG.below B
 replace RR:=RR.below B
 replace KC:=ay B KC
 replace KD:=ay B KD
 replace RC:=RC.below B
 replace RD:=RD.below B
 replace Z:=Nat.le_trans Z B.size
 clear B
 clear KC KD RC RD
 obtain ⟨vF,vG,vH⟩:=bD KA
 have vI:=lt_of_heap KA
 go_wp2_with fail
 refine (WQ _ (aH a c).1 1 _ RG.v gP.out.1.1 gP.out.1.2 (by omega) (by omega)).mono ?_
 rintro e v13 ⟨rfl,B⟩
 clear vF vG vH vI
 replace X:=Below.step X B
 replace KA:=ay B KA
 replace KB:=ay B KB
 replace RG:=RG.below B
 replace RR:=RR.below B
 replace Z:=Nat.le_trans Z B.size
 clear B
 have hm1:¬ ((1:Int)+kF (aH a c).1.boxes+ou (aH a c).1.seen < 0):=by omega
 obtain ⟨vJ,vK,vL,vM,vN,vO,vP,vQ,vR,vS⟩:=aM KB
 have vT:=lt_of_heap KB
 go_wp2_with fail
 refine (WR _ (aH a c).2 _ _ RR.rv gP.out.2.1 gP.out.2.2.1 gP.out.2.2.2.1 gP.out.2.2.2.2 (by have:=HW.out;omega) (by have:=HW.out;omega)).mono ?_
 rintro e v14 ⟨rfl,B⟩
 rw [HM.out]
 clear vJ vK vL vM vN vO vP vQ vR vS vT
 replace X:=Below.step X B
 replace KA:=ay B KA
 replace KB:=ay B KB
 replace RG:=RG.below B
 replace RR:=RR.below B
 replace Z:=Nat.le_trans Z B.size
 clear B
 clear hm1
 have hm2:¬ (M < 0):=by have:=HM.out;omega
 go_wp2
 go_ret
 exact ⟨rfl,jc.out _ X⟩
theorem exactDo_w (v:Value) (a:aJ) (u:Value) (k:Int) (bx tt:List Int) (uid mode fl si:Int) (tx:List Int) (w:World) (hv:dM w v a) (hu:ig w u k bx tt uid mode fl si tx) :
 Calls Tryz.prog 3 #[v,u] w fun e w'=>e=.returned (.bool true)∧Below w.heap.size w w':=agJ v u a ⟨k,bx,tt,uid,mode,fl,si,tx⟩ w hv hu
end Go.Proofs.YtlneebmlhblleaaGreat
