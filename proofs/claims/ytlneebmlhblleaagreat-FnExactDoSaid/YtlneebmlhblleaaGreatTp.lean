/- The proof's texts, part 25. -/
import Derived.Test.YtlneebmlhblleaaGreatTl
import Derived.Test.YtlneebmlhblleaaGreatTo
namespace Go.Proofs.YtlneebmlhblleaaGreat
open Go.RowKit
set_option linter.unusedVariables false
set_option linter.unusedSimpArgs false
set_option maxHeartbeats 8000000
set_option maxRecDepth 100000
/- do of package o9 gH. -/
structure SC (b:aD) (v:Int):Prop where
 valid:b.valid≤v
 SE:wO b
 m12:b.ah.length≤12
 gs:b.au.length≤1000
 seq:b.seq≤1000000
 fit:Fit b
/-- What an account must be that commands work on. -/
structure Good (a:aJ):Prop where
 sorted:a.boxes.Pairwise (fun y z=>dH y.name z.name=true)
 b4:a.boxes.length≤4
 v0:0≤a.valid
 v1:a.valid≤1000000
 box:∀ b ∈ a.boxes,SC b a.valid
theorem abR:(Tryz.f31.body.bind (bQ 23)).all (fun o=>dQ o 9 [0,1,3,4,5,2,6,7,8] [5,6,8] [8,9] 8)=true:=by kernel_rfl
theorem abS (wt w:World) (S:Nat→Prop) (gd g n:Nat) (a:aJ) (u0 u1 cv:Value) (E:aX) (bx tt tx:List Int) (kd uid mode fl si:Int) (h:aW wt w S gd g n a u0 u1 E) (hg:Good a) (hn:n≤1000000) (hc:ig wt cv kd bx tt uid mode fl si tx) (hk:0≤kd∧kd≤9) (hbx:bx.length≤2000000) (res:aJ × cO) (hres:res=dz a ⟨kd,bx,tt,uid,mode,fl,si,tx⟩) :
  Calls Tryz.prog 31 #[.pointer (some ⟨gd,0,none⟩),cv] w fun e w'=>∃ v,e=.returned v∧dD w' w.heap.size w'.heap.size v res.2∧Left wt w w' S gd g n u1 res.1:=by
 obtain ⟨a',y⟩:=res
 have lT:=ak hc
 obtain ⟨q0,q1,q2,rfl,g0,g1,g2,ii⟩:=hc
 obtain ⟨x0,m0,z0,rfl⟩:=g0.aG
 obtain ⟨x1,m1,z1,rfl⟩:=g1.aG
 obtain ⟨x2,m2,z2,rfl⟩:=g2.aG
 obtain ⟨kC,kR,A2⟩:=gJ w (.cells #[.int .i64 kd,.slice x0 m0 z0,.slice x1 m1 z1,.int .i64 uid,.int .i64 mode,.int .i64 fl,.int .i64 si,.slice x2 m2 z2] 44) (.cells #[.int .i64 0,.int .i64 0,.slice none 0 0,.int .i64 0,.int .i64 0,.int .i64 0,.slice none 0 0,.slice none 0 0,.int .i64 0,.slice none 0 0] 40)
 have bN:=ak hres
 have HG:=ak hg
 have Dc:=ak ii
 have jC:=ak g0
 have HD1:=ak (h.below A2)
 have HA1:=ak A2
 have fA:=ak kC
 have bW:=ak kR
 have HSL:Hid (∀ k,S k→k < w.heap.size):=fun k hk=>(h.low k hk).2.1
 have hw0:=h.base.size
 clear h A2 kC kR g0 g1 g2 ii hres hg
 go_enter Tryz.func31,Tryz.ntmps31
 go_upto_region 1 with fail
 generalize (w.alloc (.cells #[.int .i64 kd,.slice x0 m0 z0,.slice x1 m1 z1,.int .i64 uid,.int .i64 mode,.int .i64 fl,.int .i64 si,.slice x2 m2 z2] 44)).alloc (.cells #[.int .i64 0,.int .i64 0,.slice none 0 0,.int .i64 0,.int .i64 0,.int .i64 0,.slice none 0 0,.slice none 0 0,.int .i64 0,.slice none 0 0] 40)=w1 at HD1 HA1 fA bW ⊢
 obtain ⟨o0,o1,o2,o3,o4,o5,o6,o7,o8⟩:=l5 fA.out
 by_cases k0:kd=0
 ·subst k0
  have HD2:=HD1
  have HA2:=HA1
  have bV:=bW
  have lU:=ak (aax wt w1 S gd g n a u0 u1 (.slice x0 m0 z0) E bx HD1.out jC.out HG.out.sorted HG.out.b4 ⟨HG.out.v0,HG.out.v1⟩ (fun b hb=>(HG.out.box b hb).valid) hbx (a',y) (by rw [bN.out];simp [dz]))
  go_wp2_with fail
  refine lU.out.mono ?_
  rintro e w3 ⟨v,rfl,iY,hL⟩
  obtain ⟨a0,n0,k0,a1,n1,k1,a2,n2,k2,a3,n3,k3,rfl,hr2,hfin⟩:=Gs HD2.out HSL.out HA2.out bV.out (Nat.le_succ _) hw0 iY hL
  have fJ:=ak (hfin _ rfl)
  obtain ⟨yz,yl,y0,y1,y2,y3,y4,y5,y6,y7,y8,y9⟩:=eT hr2
  clear iY hL hfin hr2 o0 o1 o2 o3 o4 o5 o6 o7 o8 lU
  go_wp2
  have ff:=aM fJ.out.1
  refine bodyPost_ret (v:=.agg #[.int .i64 y.code,.int .i64 y.num,.slice a0 n0 k0,.int .i64 y.box.valid,.int .i64 y.box.next,.int .i64 y.box.seq,.slice a1 n1 k1,.slice a2 n2 k2,.int .i64 y.box.lost,.slice a3 n3 k3]) (by simp [results,Tryz.results31,go_sem,ff]) rfl ⟨_,rfl,?_⟩
  exact fJ.out.2
 by_cases k9:kd=9
 ·subst k9
  have HD2:=HD1
  have HA2:=HA1
  have bV:=bW
  have hq:a'=a∧y=⟨0,0,jQ,a.boxes.map fun x=>x.name⟩:=by have:=bN.out;simpa [dz] using this
  have hcl:=aaL wt w1 S gd g n a u0 u1 E HD1.out (fun b hb=>(HG.out.box b hb).fit.nm) (by have:=HG.out.b4;omega)
  rw [← hq.2] at hcl
  have lU:=ak hcl
  have GL:=ak hq.1
  clear hq hcl
  go_wp2_with fail
  refine lU.out.mono ?_
  rintro e w3 ⟨v,rfl,iY,hBL⟩
  have hL:=Kq HD2.out hBL
  rw [← GL.out] at hL
  obtain ⟨a0,n0,k0,a1,n1,k1,a2,n2,k2,a3,n3,k3,rfl,hr2,hfin⟩:=Gs HD2.out HSL.out HA2.out bV.out (Nat.le_succ _) hw0 iY hL
  have fJ:=ak (hfin _ rfl)
  obtain ⟨yz,yl,y0,y1,y2,y3,y4,y5,y6,y7,y8,y9⟩:=eT hr2
  clear iY hL hfin hr2 o0 o1 o2 o3 o4 o5 o6 o7 o8 lU hBL
  go_wp2
  have ff:=aM fJ.out.1
  refine bodyPost_ret (v:=.agg #[.int .i64 y.code,.int .i64 y.num,.slice a0 n0 k0,.int .i64 y.box.valid,.int .i64 y.box.next,.int .i64 y.box.seq,.slice a1 n1 k1,.slice a2 n2 k2,.int .i64 y.box.lost,.slice a3 n3 k3]) (by simp [results,Tryz.results31,go_sem,ff]) rfl ⟨_,rfl,?_⟩
  exact fJ.out.2
 have SF:(kd == 0)=false:=by simp [k0]
 have SG:(kd == 9)=false:=by simp [k9]
 have wS:=ak (Ki wt w1 S gd g n a u0 u1 (.slice x0 m0 z0) E bx HD1.out (jC.out.below HD1.out.base))
 go_wp2_with fail
 refine wS.out.mono ?_
 rintro e w2 ⟨p,rfl,B2,hp⟩
 have HD2:=ak (HD1.out.below B2)
 have HA2:=ak (Below.step HA1.out B2)
 have jv:=ak (ay B2 fA.out)
 have bV:=ak (ay B2 bW.out)
 clear B2 wS HD1 HA1 fA bW o0 o1 o2 o3 o4 o5 o6 o7 o8 SF SG
 rcases hp with ⟨rfl,hfn⟩ | ⟨k,b,gb,cap,rfl,hft,hb,hu⟩
 ·obtain ⟨rfl,rfl⟩:a'=a∧y=aQ 1 0:=by have:=bN.out;simpa [dz,hfn,k0,k9] using this
  clear hfn
  have HF:=ak (HD2.out.done (n:=n) (fun k hk=>.inl hk) (fT HA2.out) (by omega) bV.out (fun hS=>by have:=HSL.out _ hS;omega) hw0 (by omega) (c:=1) (x:=0) ⟨by decide,by decide⟩ aI)
  obtain ⟨yz,yl,y0,y1,y2,y3,y4,y5,y6,y7,y8,y9⟩:=eT bV.out
  go_wp2
  have ff:=aM HF.out.1
  refine bodyPost_ret (v:=aY 1 0) (by simp [results,Tryz.results31,aY,go_sem,ff]) rfl ⟨aY 1 0,rfl,?_⟩
  exact HF.out.2
 have hil:=(gs1 hb).1
 have lV:=HG.out.box b (List.mem_of_getElem? hb)
 obtain ⟨o0,o1,o2,o3,o4,o5,o6,o7,o8⟩:=l5 jv.out
 by_cases k7:kd=7
 ·subst k7
  obtain ⟨rfl,rfl⟩:a=a'∧y=⟨0,b.ah.length,⟨b.name,b.valid,b.next,b.seq,[],[],b.lost⟩,[]⟩:=by have:=bN.out;simp [dz,hft,hb] at this;exact ⟨this.1.symm,this.2⟩
  obtain ⟨fF,cap',v0,v5,f,e1,-,-,hlb,-,-,⟨c0,c1,c2,c3,c4,c5,c6⟩,r0,r5,-,jj⟩:=HD2.out.read hb
  rw [hu] at e1
  simp only [Value.slice.injEq,Option.some.injEq,Addr.mk.injEq,and_true,true_and] at e1
  obtain ⟨rfl,rfl⟩:=e1
  have DR:Below w2.heap.size w2 w2.drew:=bd _ _
  have hbv:bK w2 (.agg #[v0,.int .i64 b.valid,.int .i64 b.next,.int .i64 b.seq,.slice none 0 0,v5,.int .i64 b.lost]) ⟨b.name,b.valid,b.next,b.seq,[],b.au,b.lost⟩:=⟨v0,.slice none 0 0,v5,rfl,r0.bs,Rd.nil _,r5.1,jj⟩
  obtain ⟨na,nn,nc,rfl⟩:=r0.bs.aG
  obtain ⟨ga,gc,rfl,-⟩:=r5.1.form
  have gW:=ak hbv
  have HJJ:=ak jj
  have mo:=ak lV.fit.nm
  have nC:=ak (J8 wt w2.drew S gd g n k gb cap a b u0 u1 E (HD2.out.below DR) hb hu (by omega) lV.m12)
  have qj:Hid (∀ w',Below w2.heap.size w2 w'→w'.rangeAt gb (k * 7) [.slice na nn nc,.int .i64 b.valid,.int .i64 b.next,.int .i64 b.seq,.slice none 0 0,.slice ga b.au.length gc,.int .i64 b.lost]):=fun w' hw j u hj=>(hw.cell (p:=⟨gb,k * 7+j,none⟩) hlb).trans (by
   rcases j with _ | _ | _ | _ | _ | _ | _ | j
   · cases hj;exact c0
   · cases hj;exact c1
   · cases hj;exact c2
   · cases hj;exact c3
   · cases hj;exact c4
   · cases hj;exact c5
   · cases hj;exact c6
   · simp at hj)
  have Dh:Hid (b.ah.length≤12):=lV.m12
  clear lV hbv r0 r5 jj c0 c1 c2 c3 c4 c5 c6
  go_upto_region 23 with fail
  clear o0 o1 o2 o3 o4 o5 o6 o7 o8
  refine eF 8 (S:=fun w'=>w'.rangeAt gb (k * 7) [.slice na nn nc,.int .i64 b.valid,.int .i64 b.next,.int .i64 b.seq,.slice none 0 0,.slice ga b.au.length gc,.int .i64 b.lost]) (eB (by kernel_rfl) abR) (by kernel_rfl) (qj.out _ DR) (fun aj aks=>?_)
  refine tks 0 0 67 aj aks ?_
  refine tks 1 1 68 aj aks ?_
  refine tks 2 3 70 aj aks ?_
  refine tks 3 4 71 aj aks ?_
  refine pq 4 5 72 37 (.tmp 71) gb (k * 7) [.slice na nn nc,.int .i64 b.valid,.int .i64 b.next,.int .i64 b.seq,.slice none 0 0,.slice ga b.au.length gc,.int .i64 b.lost] aj aks (fun w h=>h) Tryz.underlying37 ?_
  refine cls 5 2 aj (by decide) rfl rfl (fun K hK=>?_)
  go_simp
  refine nC.out.mono ?_
  rintro e w3 ⟨rfl,B3⟩
  have HB3:=ak (Below.step DR B3)
  refine hK.out _ _ (qj.out _ HB3.out) (fun aks=>?_)
  clear hK K B3
  have mD:=ak (Bh _ ⟨b.name,b.valid,b.next,b.seq,[],b.au,b.lost⟩ w3 (gW.out.below HB3.out) mo.out)
  refine cls 6 6 aj (by decide) rfl rfl (fun K hK=>?_)
  go_simp
  refine mD.out.mono ?_
  rintro e w4 ⟨xa,xn,xc,rfl,oh,B4⟩
  have hB4:=Below.step HB3.out B4
  refine hK.out _ _ (qj.out _ hB4) (fun aks=>?_)
  clear hK K
  refine tks 7 7 74 aj aks ?_
  have hs3:=HB3.out.size
  have hs4:=B4.size
  have abU:aB (b.ah.length:Int):=by have:=Dh.out;exact ⟨by omega,by omega⟩
  have iY:dD w4 w2.heap.size w4.heap.size (.agg #[.int .i64 0,.int .i64 b.ah.length,.slice xa xn xc,.int .i64 b.valid,.int .i64 b.next,.int .i64 b.seq,.slice none 0 0,.slice none 0 0,.int .i64 b.lost,.slice none 0 0]) ⟨0,b.ah.length,⟨b.name,b.valid,b.next,b.seq,[],[],b.lost⟩,[]⟩ :=
   ⟨_,_,_,_,w4.heap.size,rfl,⟨_,_,_,In w3.heap.size w4.heap.size,fun _=>False,fun _=>False,rfl,oh,.inl ⟨rfl,rfl⟩,.inl ⟨rfl,rfl⟩,fun x hx=>⟨⟨by have:=hx.1;omega,hx.2⟩,fun h=>h,fun h=>h⟩,fun _ h=>h.elim,fun _ h=>h.elim,HJJ.out⟩,.inl ⟨rfl,rfl⟩,by omega,Nat.le_refl _,aI,abU⟩
  obtain ⟨a0,n0,k0,a1,n1,k1,a2,n2,k2,a3,n3,k3,ev,hr2,hfin⟩:=Gs HD2.out HSL.out HA2.out bV.out (Nat.le_succ _) hw0 iY (Kq HD2.out hB4)
  simp only [Value.agg.injEq,Array.mk.injEq,List.cons.injEq,Value.slice.injEq,and_true,true_and] at ev
  obtain ⟨⟨rfl,rfl,rfl⟩,⟨rfl,rfl,rfl⟩,⟨rfl,rfl,rfl⟩,⟨rfl,rfl,rfl⟩⟩:=ev
  have fJ:=ak (hfin _ rfl)
  obtain ⟨yz,yl,y0,y1,y2,y3,y4,y5,y6,y7,y8,y9⟩:=eT hr2
  clear iY hfin hr2 oh B4 hB4 mD nC HB3
  refine gL (S':=fun w'=>True) 8 9 aj (by decide) trivial (fun aks=>?_)
  refine cls 8 8 aj (by decide) rfl rfl (fun K hK=>?_)
  go_simp
  refine hK.out _ _ trivial (fun aks=>?_)
  clear hK K
  refine eG aj ?_
  clear yz yl y0 y1 y2 y3 y4 y5 y6 y7 y8 y9
  go_wp2
  have ff:=aM fJ.out.1
  refine bodyPost_ret (v:=.agg #[.int .i64 0,.int .i64 b.ah.length,.slice xa xn xc,.int .i64 b.valid,.int .i64 b.next,.int .i64 b.seq,.slice none 0 0,.slice none 0 0,.int .i64 b.lost,.slice none 0 0]) (by simp [results,Tryz.results31,go_sem,ff]) rfl ⟨_,rfl,?_⟩
  exact fJ.out.2
 obtain ⟨kk,hkk⟩:∃ kk,kk=kd:=⟨_,rfl⟩
 have HKK:=ak hkk
 clear hkk
 rcases (show kd=1∨kd=2∨kd=3∨kd=4∨kd=5∨kd=6∨kd=8 by omega) with rfl | rfl | rfl | rfl | rfl | rfl | rfl
 all_goals first
  | (
    have tt:=(show kk=1 from HKK.out)
    clear tt
    obtain ⟨fF,cap',_,_,_,e1,-,-,hlb,-,-,⟨-,c1,-⟩,-⟩:=HD2.out.read hb
    rw [hu] at e1
    simp only [Value.slice.injEq,Option.some.injEq,Addr.mk.injEq,and_true,true_and] at e1
    obtain ⟨rfl,rfl⟩:=e1
    have lU:=ak (aaV wt w2 S gd g n k gb cap a b u0 u1 E HD2.out hb hn lV.m12 (a',y) (by rw [bN.out];simp [dz,hft,hb]))
    clear hu)
  | (
    have tt:=(show kk=2 from HKK.out)
    clear tt
    have lU:=ak (Zx wt w2 S gd g n k gb cap a b u0 u1 _ E ⟨2,bx,tt,uid,mode,fl,si,tx⟩ HD2.out hb hu hn lV.valid lV.SE lV.m12 lT.out (a',y) (by rw [bN.out];simp [dz,hft,hb])))
  | (
    have tt:=(show kk=3 from HKK.out)
    clear tt
    have hq:a'=aL a k (j6 b uid mode fl si).1∧y=(j6 b uid mode fl si).2:=by have:=bN.out;simpa [dz,hft,hb] using this
    have hcl:=aa2 wt w2 S gd g n k gb cap a b u0 u1 _ E ⟨3,bx,tt,uid,mode,fl,si,tx⟩ HD2.out hb hu hn lV.valid lT.out lV.seq _ rfl
    simp only at hcl
    rw [← hq.1,← hq.2] at hcl
    have lU:=ak hcl
    clear hq hcl)
  | (
    have tt:=(show kk=4 from HKK.out)
    clear tt
    have lU:=ak (abm wt w2 S gd g n k gb cap a b u0 u1 E HD2.out hb hu hn lV.m12 lV.gs lV.seq (a',y) (by rw [bN.out];simp [dz,hft,hb])))
  | (
    have tt:=(show kk=5 from HKK.out)
    clear tt
    have hq:a'=a∧y=Da b uid:=by
      have h5:=bN.out
      simp [dz,hft,hb] at h5
      unfold Da
      cases hf:b.ah.findIdx? (fun m=>decide (m.uid=uid)) <;> rw [hf] at h5 <;> simpa using h5
    have lU:=ak (abM wt w2 S gd g n k gb cap a b u0 u1 E uid HD2.out hb hu lV.fit Dc.out.2.1 y hq.2)
    have GL:=ak hq.1
    clear hq)
  | (
    have tt:=(show kk=6 from HKK.out)
    clear tt
    have lU:=ak (ZX wt w2 S gd g n k gb cap a b u0 u1 _ E ⟨6,bx,tt,uid,mode,fl,si,tx⟩ HD2.out hb hu hn (fun x hx=>let q:=HG.out.box x hx;⟨q.valid,q.SE,q.m12,q.gs⟩) lV.seq lT.out (a',y) (by rw [bN.out];simp [dz,hft,hb])))
  | (
    have tt:=(show kk=8 from HKK.out)
    clear tt
    have hq:a'=a∧y=ni b si:=by have:=bN.out;simpa [dz,hft,hb] using this
    have hcl:=abP wt w2 S gd g n k gb cap a b u0 u1 E si HD2.out hb hu (by omega) lV.fit
    rw [← hq.2] at hcl
    have lU:=ak hcl
    have GL:=ak hq.1
    clear hq hcl)
 all_goals
  clear lV
  go_wp2_with fail
  refine lU.out.mono ?_
  rintro e w3 ⟨v,rfl,iY,hL⟩
  try
   replace hL:=Kq HD2.out hL
   rw [← GL.out] at hL
  try clear c1 hlb
  obtain ⟨a0,n0,k0,a1,n1,k1,a2,n2,k2,a3,n3,k3,rfl,hr2,hfin⟩:=Gs HD2.out HSL.out HA2.out bV.out (Nat.le_succ _) hw0 iY hL
  have fJ:=ak (hfin _ rfl)
  obtain ⟨yz,yl,y0,y1,y2,y3,y4,y5,y6,y7,y8,y9⟩:=eT hr2
  clear iY hL hfin hr2 o0 o1 o2 o3 o4 o5 o6 o7 o8 lU
  go_wp2
  have ff:=aM fJ.out.1
  refine bodyPost_ret (v:=.agg #[.int .i64 y.code,.int .i64 y.num,.slice a0 n0 k0,.int .i64 y.box.valid,.int .i64 y.box.next,.int .i64 y.box.seq,.slice a1 n1 k1,.slice a2 n2 k2,.int .i64 y.box.lost,.slice a3 n3 k3]) (by simp [results,Tryz.results31,go_sem,ff]) rfl ⟨_,rfl,?_⟩
  exact fJ.out.2
theorem abV (wt w:World) (S:Nat→Prop) (gd g n:Nat) (a:aJ) (u0 u1 cv:Value) (E:aX) (c:iC) (h:aW wt w S gd g n a u0 u1 E) (hg:Good a) (hn:n≤1000000) (hc:ig wt cv c.k c.bx c.tt c.uid c.mode c.fl c.si c.tx) (hbx:c.bx.length≤2000000) (hk:0≤c.k∧c.k≤9) :
  Calls Tryz.prog 31 #[.pointer (some ⟨gd,0,none⟩),cv] w fun e w'=>∃ v,e=.returned v∧dD w' w.heap.size w'.heap.size v (dz a c).2∧Left wt w w' S gd g n u1 (dz a c).1:=by
 obtain ⟨k,bx,tt,uid,mode,fl,si,tx⟩:=c
 simp only at hc hbx hk
 exact abS wt w S gd g n a u0 u1 cv E bx tt tx k uid mode fl si h hg hn hc hk hbx _ rfl
/- What an account that may be is, as the sJ commands want it, on lists. -/
theorem Li {l m:List Int}:dH l m=true↔Lib.compareBytes (dN l) (dN m) < 0:=by
 unfold dH
 have:=FP (dN l) (dN m)
 cases h:Op.bytesLess (dN l) (dN m) <;> rw [h] at this <;> simp at this ⊢ <;> omega
theorem Lj {a:aJ} (h:jg a=true) {i:Nat} {b:aD} (hb:a.boxes[i]?=some b):gV b a.valid=true∧oL a.boxes b i=true∧∀ o ∈ a.boxes.take i,o.valid≠b.valid:=by
 simp only [jg,Bool.and_eq_true,List.all_eq_true,List.mem_range] at h
 have:=h.2.2.2 i (gs1 hb).1
 simp only [qh,hb,Bool.and_eq_true,Bool.not_eq_true',List.any_eq_false,decide_eq_true_eq] at this
 exact ⟨this.1,this.2.1,this.2.2⟩
theorem SH {a:aJ} (h:jg a=true):∀ (j i:Nat) (x y:aD),i < j→a.boxes[i]?=some x→a.boxes[j]?=some y→dH x.name y.name=true
 | 0,i,x,y,hij,_,_=>by omega
 | j+1,i,x,y,hij,hx,hy=>by
  have hjl:j < a.boxes.length:=by have:=(gs1 hy).1;omega
  have ha:=(Lj h hy).2.1
  simp only [oL,nameAt,aK hjl] at ha
  by_cases e:i=j
  ·subst e
   rw [aK hjl] at hx
   cases hx
   exact ha
  ·have:=SH h j i x a.boxes[j] (by omega) hx (aK hjl)
   exact Li.2 (CG _ _ _ (Li.1 this) (Li.1 ha))
theorem abW {a:aJ} (h:jg a=true):0≤a.valid∧a.valid≤1000000∧a.boxes.length≤4:=by
 simp only [jg,Bool.and_eq_true,aS,decide_eq_true_eq] at h
 exact ⟨h.1.1,h.1.2,h.2.1⟩
theorem Di {b:aD} {v:Int} (h:gV b v=true):b.name.length≤6∧b.valid≤v∧0≤b.seq∧b.seq≤1000000:=by
 simp only [gV,bZ,Bool.and_eq_true,aS,decide_eq_true_eq] at h
 exact ⟨h.1.2.1,h.2.1.2,h.2.2.2.1.1,h.2.2.2.1.2⟩
theorem Ll {a:aJ} (h:jg a=true):Good a∧sZ a∧qC a∧a.boxes.Pairwise (fun x y=>x.valid≠y.valid)∧∀ b ∈ a.boxes,nk b.ah∧b.ah.length≤12∧b.au.length≤1000∧b.valid≤a.valid∧b.name.length≤2000000:=by
 obtain ⟨v0,v1,l4⟩:=abW h
 have hb:∀ b ∈ a.boxes,gV b a.valid=true:=fun b hb=>by
  obtain ⟨i,hi⟩:=List.mem_iff_getElem?.1 hb
  exact (Lj h hi).1
 have hG:∀ b ∈ a.boxes,SC b a.valid:=fun b hm=>by
  have ok:=FR (hb b hm)
  obtain ⟨n6,vv,s0,s1⟩:=Di (hb b hm)
  exact ⟨vv,fun m hm'=>(ok.mem m hm').2.1,ok.len,by have:=ok.FQ;omega,s1,⟨by omega,ok.len,fun m hm'=>by have:=(ok.mem m hm').2.2.2;omega,by have:=ok.FQ;omega⟩⟩
 refine ⟨⟨?_,l4,v0,v1,hG⟩,fun b hm=>?_,⟨l4,fun b hm=>?_⟩,?_,fun b hm=>?_⟩
 ·rw [List.pairwise_iff_getElem]
  exact fun i j hi hj hij=>SH h j i _ _ hij (aK hi) (aK hj)
 ·have ok:=FR (hb b hm)
  have hbb:=hb b hm
  refine ⟨(Di hbb).2.2.1,fun m hm'=>by have:=(ok.mem m hm').2.2.1;omega,fun x hx=>?_⟩
  simp only [gV,Bool.and_eq_true,oK,List.all_eq_true,List.mem_range] at hbb
  have hg:=hbb.2.2.2.2.2.2.2
  obtain ⟨i,hi⟩:=List.mem_iff_getElem?.1 hx
  have hil:=(gs1 hi).1
  have h1:=Po (b:=b) (k:=i) (by omega) (fun j hj=>hg j (by omega))
  have h2:=hg i hil
  simp only [mh,hi,aS,Bool.and_eq_true,decide_eq_true_eq] at h2
  omega
 ·have ok:=FR (hb b hm)
  exact ⟨(Di (hb b hm)).1,ok.len,fun m hm'=>(ok.mem m hm').2.2.2,ok.FQ⟩
 ·rw [List.pairwise_iff_getElem]
  intro i j hi hj hij
  refine (Lj h (aK hj)).2.2 _ ?_
  rw [List.mem_iff_getElem?]
  exact ⟨i,by rw [List.getElem?_take_of_lt hij];exact aK hi⟩
 ·have ok:=FR (hb b hm)
  have:=(Di (hb b hm)).1
  exact ⟨ok.sorted,ok.len,by have:=ok.FQ;omega,(Di (hb b hm)).2.1,by omega⟩
/-- What SI wants of what a command leaves. -/
theorem abX {a:aJ} (hi:qC a) (hp:sZ a):∀ b ∈ a.boxes,Fit b∧(∀ m ∈ b.ah,0 < m.seq)∧∀ x ∈ b.au,0 < x.seq:=fun b hb=>by
 obtain ⟨i1,i2,i3,i4⟩:=hi.2 b hb
 exact ⟨⟨by omega,i2,fun m hm=>by have:=i3 m hm;omega,by omega⟩,(hp b hb).ms,(hp b hb).gs⟩
/- What Do answers; how it refuses. -/
/-- Behind a call that led from w to w': what it made stays, and what it did not make stays but for variables of accounts and SK. -/
def Kept (w w' W:World):Prop:=w'.heap.size≤W.heap.size∧(∀ k,w.heap.size≤k→k < w'.heap.size→W.heap[k]?=w'.heap[k]?)∧∀ t,t≠33→t≠40→∀ k,Ty w' k t→W.heap[k]?=w'.heap[k]?
/-- What Do answers. -/
def aH (a:aJ) (c:iC):aJ × cO:=if (jg a && fM c.k c.bx c.tt c.uid c.mode c.fl c.si c.tx)=true then dz a c else (⟨0,[],[]⟩,aQ 5 0)
theorem SL {k:Int} {bx tt:List Int} {uid mode fl si:Int} {tx:List Int} (h:fM k bx tt uid mode fl si tx=true):(0≤k∧k≤9)∧bx.length≤6∧tx.length≤30:=by
 simp only [fM,Bool.and_eq_true,decide_eq_true_eq] at h
 obtain ⟨⟨⟨⟨⟨⟨⟨h1,h2⟩,-⟩,-⟩,-⟩,-⟩,-⟩,h3⟩:=h
 refine ⟨h1,?_,?_⟩
 ·split at h2
  ·simp at h2;simp [h2]
  ·simp only [bZ,Bool.and_eq_true,decide_eq_true_eq] at h2
   exact h2.2.1
 ·split at h3
  ·simp only [fD,Bool.and_eq_true,decide_eq_true_eq] at h3
   exact h3.1
  ·simp at h3;simp [h3]
/-- The three cells of an account. -/
abbrev jU (w:World) (r:Nat) (c0 c1 c2:Value):World:=((w.setCell ⟨r,0,none⟩ c0).setCell ⟨r,1,none⟩ c1).setCell ⟨r,2,none⟩ c2
theorem Lm {w:World} {r:Nat} {d0 d1 d2:Value} (h:w.heap[r]?=some (.cells #[d0,d1,d2] 33 (0,0))) (c0 c1 c2:Value) :
  (jU w r c0 c1 c2).heap[r]?=some (.cells #[c0,c1,c2] 33 (0,0))∧(jU w r c0 c1 c2).heap.size=w.heap.size∧((jU w r c0 c1 c2).os=w.os∧(jU w r c0 c1 c2).tape=w.tape∧(jU w r c0 c1 c2).output=w.output)∧∀ k,k≠r→(jU w r c0 c1 c2).heap[k]?=w.heap[k]? :=
 ⟨aP (i:=2) (v:=c2) (aP (i:=1) (v:=c1) (aP (i:=0) (v:=c0) h)),by simp only [aZ],⟨by simp only [Ck],by simp only [Cm],by simp only [Cn]⟩,fun k hk=>by
  rw [Below.heap_setCell _ _ _ _ (show k≠r from hk),Below.heap_setCell _ _ _ _ (show k≠r from hk),Below.heap_setCell _ _ _ _ (show k≠r from hk)]⟩
/-- An account and a reply are laid into the two results. -/
theorem Dj {w W:World} {d0 d1 d2 e0 e1 e2 e3 e4 e5 e6 e7 e8 e9:Value} (hZ:W.heap[w.heap.size+2]?=some (.cells #[d0,d1,d2] 33 (0,0))) (hR:W.heap[w.heap.size+3]?=some (.cells #[e0,e1,e2,e3,e4,e5,e6,e7,e8,e9] 40 (0,0))) (B:Below w.heap.size w W) (p0 p1 p2 c0 c1 c2 c3 c4 c5 c6 c7 c8 c9:Value) :
  (iE (jU W (w.heap.size+2) p0 p1 p2) (w.heap.size+3) c0 c1 c2 c3 c4 c5 c6 c7 c8 c9).heap[w.heap.size+3]?=some (.cells #[c0,c1,c2,c3,c4,c5,c6,c7,c8,c9] 40 (0,0))∧(iE (jU W (w.heap.size+2) p0 p1 p2) (w.heap.size+3) c0 c1 c2 c3 c4 c5 c6 c7 c8 c9).heap[w.heap.size+2]?=some (.cells #[p0,p1,p2] 33 (0,0))∧Below w.heap.size w (iE (jU W (w.heap.size+2) p0 p1 p2) (w.heap.size+3) c0 c1 c2 c3 c4 c5 c6 c7 c8 c9)∧(jU W (w.heap.size+2) p0 p1 p2).heap[w.heap.size+3]?=W.heap[w.heap.size+3]?∧(∀ k,k≠w.heap.size+2→k≠w.heap.size+3→(iE (jU W (w.heap.size+2) p0 p1 p2) (w.heap.size+3) c0 c1 c2 c3 c4 c5 c6 c7 c8 c9).heap[k]?=W.heap[k]?)∧(iE (jU W (w.heap.size+2) p0 p1 p2) (w.heap.size+3) c0 c1 c2 c3 c4 c5 c6 c7 c8 c9).heap.size=W.heap.size:=by
 obtain ⟨h1,h2,h3,h4⟩:=Lm hZ p0 p1 p2
 obtain ⟨k1,k2,k3,k4⟩:=nZ ((h4 (w.heap.size+3) (by omega)).trans hR) c0 c1 c2 c3 c4 c5 c6 c7 c8 c9
 exact ⟨k1,(k4 _ (by omega)).trans h1,qB (qB B h2 h3 h4 (by omega)) k2 k3 k4 (by omega),h4 _ (by omega),fun k n1 n2=>(k4 k n2).trans (h4 k n1),k2.trans h2⟩
/- account of package o9 gH: what the gH stands for, in memory of its own. -/
theorem abY:(Tryz.f32.body.bind (bQ 1)).all (fun o=>dQ o 11 [0,1,2,3,4,5,6,7,8,9,10] [9,10] [10,11] 8)=true:=by kernel_rfl
theorem abZ:(Tryz.f32.body.bind (bQ 5)).all (fun o=>dQ o 14 [0,1,2,3,4,5,6,7,8,9,10,11,12,13] [9,10,11,13] [12,14] 8)=true:=by kernel_rfl
theorem ab0 {b:aD} (h1:∀ m ∈ b.ah,0 < m.seq) (h2:∀ x ∈ b.au,0 < x.seq):C8 b 0=b:=by
 unfold C8
 rw [List.filter_eq_self.2 (fun m hm=>by simpa using h1 m hm),List.filter_eq_self.2 (fun x hx=>by simpa using h2 x hx)]
theorem ab1 {w w':World} {B:Nat} {v:Value} {c:List Value} {b:aD} (h:pV w (In B w.heap.size) v b) (hb:Below w.heap.size w w') (hv:v=.agg c.toArray) (hs:w.heap.size≤w'.heap.size):dh w' c b (In B w'.heap.size):=by
 obtain ⟨c',e,hE⟩:=h
 rw [hv] at e
 have:c=c':=by simpa using e
 subst this
 exact (gq _ _ _ _ _ hE fun k _ hlt=>hb.block k hlt).wide fun k hk=>⟨hk.1,Nat.lt_of_lt_of_le hk.2 hs⟩
theorem SI (wt w:World) (S:Nat→Prop) (gd g n:Nat) (a:aJ) (u0 u1:Value) (E:aX) (h:aW wt w S gd g n a u0 u1 E) (hn:n≤2000000) (hf:∀ b ∈ a.boxes,Fit b∧(∀ m ∈ b.ah,0 < m.seq)∧∀ x ∈ b.au,0 < x.seq) (h4:a.boxes.length≤1000) :
  Calls Tryz.prog 32 #[.pointer (some ⟨gd,0,none⟩)] w fun e w'=>∃ bv,e=.returned (.agg #[.int .i64 a.valid,bv,u1])∧l7 w' (In w.heap.size w'.heap.size) bv a.boxes∧Below w.heap.size w w':=by
 have A1:Below w.heap.size w (w.alloc (.cells #[.int .i64 0,.slice none 0 0,.slice none 0 0] 33)):=bn _ _
 have HK:=ak (aV w (.cells #[.int .i64 0,.slice none 0 0,.slice none 0 0] 33))
 have HD:=ak (h.below A1)
 have HA:=ak A1
 have HF:=ak hf
 have HD0:=ak h
 obtain ⟨z0,hi,hz0,hz1,hz2⟩:=info_parts uH
 obtain ⟨sa,sn,sc,rfl⟩:∃ a n c,u1=.slice a n c:=by
  rcases h.seen with ⟨e,-⟩ | ⟨_,_,_,_,_,e,-⟩
  ·exact ⟨_,_,_,e⟩
  ·exact ⟨_,_,_,e⟩
 obtain ⟨va,vc,rfl,hm1,hm2⟩:∃ va vc,u0=.slice va a.boxes.length vc∧a.boxes.length≤vc∧vc≤maxLen:=by
  obtain ⟨x,y,e,k1,k2⟩:=h.boxes.v.form
  rw [List.length_map] at e k1
  exact ⟨x,y,e,k1,k2⟩
 have hz:(w.alloc (.cells #[.int .i64 0,.slice none 0 0,.slice none 0 0] 33)).heap.size=w.heap.size+1:=by simp
 have hgl:=lt_of_heap h.cells
 clear h A1 hf
 go_enter Tryz.func32,Tryz.ntmps32
 go_upto_region 1 with fail
 generalize w.alloc (.cells #[.int .i64 0,.slice none 0 0,.slice none 0 0] 33)=w1 at HK HD HA hz ⊢
 have hw1:w.heap.size+1≤w1.heap.size:=by omega
 have HZ:=ak hz
 clear hz
 have D1:Below w1.heap.size w1 w1.drew:=bd _ _
 have A3:Below w1.heap.size w1 (w1.drew.alloc (.cells #[.int .i64 0,.slice none 0 0,.slice none 0 0] 33)):=D1.alloc (Nat.le_refl _) _
 have dA:Hid (∀ w',Below w1.heap.size w1 w'→w'.cell? ⟨gd,0,none⟩=some (.int .i64 a.valid)∧w'.cell? ⟨gd,3,none⟩=some (.slice sa sn sc)):=fun w' hw=>⟨(cell_of_row _ gd 0 _ _ (0,0) (HD.out.below hw).cells).trans rfl,(cell_of_row _ gd 3 _ _ (0,0) (HD.out.below hw).cells).trans rfl⟩
 refine eF 10 (S:=fun w'=>w'.cell? ⟨gd,0,none⟩=some (.int .i64 a.valid)∧w'.cell? ⟨gd,3,none⟩=some (.slice sa sn sc)) (eB (by kernel_rfl) abY) (by kernel_rfl) (dA.out _ D1) (fun aj aks=>?_)
 refine tks 0 0 5 aj aks ?_
 refine tks 1 1 6 aj aks ?_
 refine tks 2 2 7 aj aks ?_
 refine tks 3 3 8 aj aks ?_
 refine tks 4 4 9 aj aks ?_
 refine tks 5 5 10 aj aks ?_
 refine tks 6 6 11 aj aks ?_
 refine tks 7 7 12 aj aks ?_
 refine tks 8 8 13 aj aks ?_
 refine cls 9 9 aj (by decide) rfl rfl (fun K hK=>?_)
 go_simp
 refine hK.out _ _ (dA.out _ A3) (fun aks=>?_)
 clear hK K
 refine gL (S':=fun w'=>True) 10 11 aj (by decide) (trivial) (fun aks=>?_)
 refine cls 10 10 aj (by decide) rfl rfl (fun K hK=>?_)
 go_simp
 refine hK.out _ _ (trivial) (fun aks=>?_)
 clear hK K
 refine eG aj ?_
 go_upto_region 2 with fail
 have A2:Below w1.heap.size w1 (w1.alloc (.cells #[.int .i64 a.valid,.slice none 0 0,.slice sa sn sc] 33)).drew:=(bn _ _).drew
 have HD2:=ak (HD.out.below A2)
 have HA2:=ak (Below.step HA.out A2)
 have dw:=ak (ay A2 HK.out)
 have p9:Hid ((w1.alloc (.cells #[.int .i64 a.valid,.slice none 0 0,.slice sa sn sc] 33)).drew.heap[w1.heap.size]?=some (.cells #[.int .i64 a.valid,.slice none 0 0,.slice sa sn sc] 33 (0,0))):=aV w1 _
 have SN:w1.heap.size+1≤(w1.alloc (.cells #[.int .i64 a.valid,.slice none 0 0,.slice sa sn sc] 33)).drew.heap.size:=(show w1.heap.size+1≤(w1.alloc (.cells #[.int .i64 a.valid,.slice none 0 0,.slice sa sn sc] 33)).heap.size by simp)
 clear dA A2 A3 D1 HD HA HK
 generalize (w1.alloc (.cells #[.int .i64 a.valid,.slice none 0 0,.slice sa sn sc] 33)).drew=w2 at HD2 HA2 dw p9 SN ⊢
 have d1:w2.cell? ⟨gd,1,none⟩=some (.slice va a.boxes.length vc):=(cell_of_row _ gd 1 _ _ (0,0) HD2.out.cells).trans rfl
 have SQ:=lt_of_heap HD2.out.cells
 go_wp2
 clear d1 SQ
 go_loopw [4,19] (fun _ iv wr=>∃ (k:Nat) (la:Option Addr) (ln lc:Nat),k≤a.boxes.length∧iv=.int .i64 k∧Hid (Below w.heap.size w wr)∧Hid (wr.heap[w.heap.size]?=some (.cells #[.int .i64 0,.slice none 0 0,.slice none 0 0] 33 (0,0)))∧Hid (wr.heap[w1.heap.size]?=some (.cells #[.int .i64 a.valid,.slice la ln lc,.slice sa sn sc] 33 (0,0)))∧Hid (l7 wr (In (w1.heap.size+1) wr.heap.size) (.slice la ln lc) (a.boxes.take k))∧w1.heap.size+1≤wr.heap.size) (fun _ iv _=>a.boxes.length - (intOf iv).toNat)
 case atStart=>exact ⟨0,none,0,0,Nat.zero_le _,rfl,HA2.out,dw.out,p9.out,.inl ⟨rfl,by simp⟩,SN⟩
 case round =>
  obtain ⟨k,la,ln,lc,hk,rfl,HA,HK,HX,HO,hs⟩:=hrel
  have HD:=ak (HD0.out.below HA.out)
  clear HD2 HA2 dw p9
  by_cases hlt:k < a.boxes.length
  ·obtain ⟨b,hb⟩:∃ b,a.boxes[k]?=some b:=⟨_,aK hlt⟩
   obtain ⟨gb,cap,_,_,_,e1,-⟩:=HD.out.read hb
   simp only [Value.slice.injEq,true_and] at e1
   obtain ⟨rfl,rfl⟩:=e1
   have hki:(k:Int) < a.boxes.length:=by omega
   have DR:Below wr.heap.size wr wr.drew:=bd _ _
   have GN:=HF.out b (List.mem_of_getElem? hb)
   have GQ:=ak (ab0 GN.2.1 GN.2.2)
   have Ao:=ak (Sn wt wr.drew S gd g n k gb vc a b _ (.slice sa sn sc) E 0 (HD.out.below DR) hb rfl hn GN.1)
   have su:Hid (∀ w',Below wr.heap.size wr w'→w'.cell? ⟨w1.heap.size,1,none⟩=some (.slice la ln lc)∧w'.cell? ⟨gd,1,none⟩=some (.slice (some ⟨gb,0,none⟩) a.boxes.length vc)):=fun w' hw=>⟨(bD (ay hw HX.out)).2.1,(cell_of_row _ gd 1 _ _ (0,0) (HD.out.below hw).cells).trans rfl⟩
   have mD:=ak hb
   have ab2:∀ (a0 a1 a2:Option Addr) (k0 c0 k1 c1 k2 c2:Nat),∀ u ∈ [Value.slice a0 k0 c0,.int .i64 b.valid,.int .i64 b.next,.int .i64 b.seq,.slice a1 k1 c1,.slice a2 k2 c2,.int .i64 b.lost],u.oneCell'=true:=by
    intro a0 a1 a2 k0 c0 k1 c1 k2 c2 u hu
    simp only [List.mem_cons,List.not_mem_nil,or_false] at hu
    rcases hu with rfl | rfl | rfl | rfl | rfl | rfl | rfl <;> rfl
   have ab3:=lt_of_heap HD.out.cells
   clear hb GN
   go_upto_region 5 with fail
   refine eF 12 (S:=fun w'=>w'.cell? ⟨w1.heap.size,1,none⟩=some (.slice la ln lc)∧w'.cell? ⟨gd,1,none⟩=some (.slice (some ⟨gb,0,none⟩) a.boxes.length vc)) (eB (by kernel_rfl) abZ) (by kernel_rfl) (su.out _ DR) (fun aj aks=>?_)
   refine tks 0 0 22 aj aks ?_
   refine tks 1 1 23 aj aks ?_
   refine tks 2 2 24 aj aks ?_
   refine tks 3 3 25 aj aks ?_
   refine tks 4 4 26 aj aks ?_
   refine tks 5 5 27 aj aks ?_
   refine tks 6 6 28 aj aks ?_
   refine tks 7 7 29 aj aks ?_
   refine tks 8 8 30 aj aks ?_
   refine cls 9 9 aj (by decide) rfl rfl (fun K hK=>?_)
   go_simp
   refine Ao.out.mono ?_
   rintro e w4 ⟨v,rfl,hO4,hB4⟩
   rw [GQ.out] at hO4
   obtain ⟨a0,k0,c0,a1,k1,c1,a2,k2,c2,rfl⟩:=hO4.form
   have rE:=ak (su.out _ (Below.step DR hB4))
   have lH:=ak (Below.step DR hB4)
   have lG:=ak hO4
   have hs4:wr.heap.size≤w4.heap.size:=hB4.size
   clear hO4 hB4
   refine hK.out _ _ (rE.out) (fun aks=>?_)
   clear hK K
   refine cls 10 10 aj (by decide) rfl rfl (fun K hK=>?_)
   go_simp
   have AB:Below w4.heap.size w4 (w4.alloc (.cells #[.slice a0 k0 c0,.int .i64 b.valid,.int .i64 b.next,.int .i64 b.seq,.slice a1 k1 c1,.slice a2 k2 c2,.int .i64 b.lost] 37)):=bn _ _
   refine hK.out _ _ (su.out _ (Below.step lH.out AB)) (fun aks=>?_)
   clear hK K
   refine cls 11 11 aj (by decide) rfl rfl (fun K hK=>?_)
   have hMs:wr.heap.size≤(w4.alloc (.cells #[.slice a0 k0 c0,.int .i64 b.valid,.int .i64 b.next,.int .i64 b.seq,.slice a1 k1 c1,.slice a2 k2 c2,.int .i64 b.lost] 37)).heap.size:=by simp;omega
   have lM:dh (w4.alloc (.cells #[.slice a0 k0 c0,.int .i64 b.valid,.int .i64 b.next,.int .i64 b.seq,.slice a1 k1 c1,.slice a2 k2 c2,.int .i64 b.lost] 37)) [.slice a0 k0 c0,.int .i64 b.valid,.int .i64 b.next,.int .i64 b.seq,.slice a1 k1 c1,.slice a2 k2 c2,.int .i64 b.lost] b (In wr.heap.size (w4.alloc (.cells #[.slice a0 k0 c0,.int .i64 b.valid,.int .i64 b.next,.int .i64 b.seq,.slice a1 k1 c1,.slice a2 k2 c2,.int .i64 b.lost] 37)).heap.size):=ab1 lG.out AB rfl (by simp)
   have hl1:(a.boxes.take k).length+1≤maxLen:=by unfold maxLen;simp;omega
   have hl2:((a.boxes.take k).length+1) * 104≤140737488355328:=by simp;omega
   refine dO (by kernel_rfl) (Bd 33 rfl (.tmp 23) (.tmp 32) rfl gq (B:=w1.heap.size+1) (M:=wr.heap.size) (Ow.below gq (Ow.below gq HO.out lH.out) AB) hMs hs Tryz.underlying31 hi hz0 hz1 hz2 rfl (by omega) rfl b [.slice a0 k0 c0,.int .i64 b.valid,.int .i64 b.next,.int .i64 b.seq,.slice a1 k1 c1,.slice a2 k2 c2,.int .i64 b.lost] rfl lM ⟨w4.heap.size,0,none⟩ 1 rfl (mO w4 _ _) (ab2 _ _ _ _ _ _ _ _ _) hl1 hl2 ?_)
   intro DV wz kr hgz eO
   obtain ⟨da,dn,dc,mX⟩:=bE.aG kr
   subst mX
   have hge:∀ j,(Value.slice la ln lc).ownBlock=some j→w1.heap.size+1≤j:=fun j hj=>(eO j hj).1
   have KX:=lF hgz hge (ay (Below.step lH.out AB) HX.out) (by omega)
   have fO:Hid (Below (w1.heap.size+1) wr wz):=rX ((Below.step lH.out AB).mono hs) hgz hge (Nat.le_refl _) (by simp;omega)
   have qE:w4.heap.size+1≤wz.heap.size:=by have:=hgz.size;simpa using this
   have rA:Hid (wz.cell? ⟨w1.heap.size,1,none⟩=some (.slice la ln lc)∧wz.cell? ⟨gd,1,none⟩=some (.slice (some ⟨gb,0,none⟩) a.boxes.length vc)):=⟨(bD KX).2.1,(fO.out.cell (p:=⟨gd,1,none⟩) (show gd < w1.heap.size+1 by omega)).trans (su.out wr (Below.refl _ _)).2⟩
   refine hK.out _ _ (rA.out) (fun aks=>?_)
   clear hK K
   refine gL (S':=fun w'=>True) 12 14 aj (by decide) (trivial) (fun aks=>?_)
   obtain ⟨zx,zl⟩:=bR KX
   obtain ⟨d0,d1,d2⟩:=bD KX
   refine tks 12 12 34 aj aks ?_
   refine cls 13 13 aj (by decide) rfl rfl (fun K hK=>?_)
   go_simp
   refine hK.out _ _ (trivial) (fun aks=>?_)
   clear hK K
   refine eG aj ?_
   have wC:Hid (Below w1.heap.size wr (wz.setCell ⟨w1.heap.size,1,none⟩ (.slice da dn dc))):=(fO.out.mono (Nat.le_succ _)).setCell (p:=⟨w1.heap.size,1,none⟩) (Nat.le_refl _) _
   have gD:=ak (HA.out.trans (wC.out.mono (show w.heap.size≤w1.heap.size by omega)))
   have nH:=ak ((wC.out.block _ (show w.heap.size < w1.heap.size by omega)).trans HK.out)
   have wD:Hid ((wz.setCell ⟨w1.heap.size,1,none⟩ (.slice da dn dc)).heap[w1.heap.size]?=some (.cells #[.int .i64 a.valid,.slice da dn dc,.slice sa sn sc] 33 (0,0))):=aP (i:=1) (v:=.slice da dn dc) KX
   have oO:Hid (l7 (wz.setCell ⟨w1.heap.size,1,none⟩ (.slice da dn dc)) (In (w1.heap.size+1) (wz.setCell ⟨w1.heap.size,1,none⟩ (.slice da dn dc)).heap.size) (.slice da dn dc) (a.boxes.take (k+1))):=by
    rw [List.take_add_one,mD.out,aZ]
    exact Ow.frame gq kr fun q hq _=>Below.heap_setCell _ _ _ _ (show q≠w1.heap.size by have:=hq.1;omega)
   have hs6:w1.heap.size+1≤(wz.setCell ⟨w1.heap.size,1,none⟩ (.slice da dn dc)).heap.size:=by rw [aZ];omega
   clear KX fO rA kr hgz eO hge AB hMs lM hl1 hl2 lG lH rE Ao GQ su zx zl d0 d1 d2 HA HK HX HO HD ab3
   go_wp2
   go_roundw
   case rel=>exact ⟨k+1,da,dn,dc,by omega,by go_num,gD.out,nH.out,wD.out,oO.out,hs6⟩
   case measure=>simp [intOf];omega
  ·obtain rfl:k=a.boxes.length:=by omega
   have hki:¬ (a.boxes.length:Int) < a.boxes.length:=by omega
   obtain ⟨x0,x1,x2⟩:=bD HX.out
   have xl:=lt_of_heap HX.out
   obtain ⟨y0,y1,y2⟩:=bD HK.out
   have yz:=(bR HK.out).1
   have yl:=lt_of_heap HK.out
   have KF:(((wr.setCell ⟨w.heap.size,0,none⟩ (.int .i64 a.valid)).setCell ⟨w.heap.size,1,none⟩ (.slice la ln lc)).setCell ⟨w.heap.size,2,none⟩ (.slice sa sn sc)).heap[w.heap.size]?=some (.cells #[.int .i64 a.valid,.slice la ln lc,.slice sa sn sc] 33 (0,0)):=aP (i:=2) (v:=.slice sa sn sc) (aP (i:=1) (v:=.slice la ln lc) (aP (i:=0) (v:=.int .i64 a.valid) HK.out))
   have CJ:=ak KF
   have HBF:=ak (((HA.out.setCell (p:=⟨w.heap.size,0,none⟩) (Nat.le_refl _) (.int .i64 a.valid)).setCell (p:=⟨w.heap.size,1,none⟩) (Nat.le_refl _) (.slice la ln lc)).setCell (p:=⟨w.heap.size,2,none⟩) (Nat.le_refl _) (.slice sa sn sc))
   have GR:Hid (l7 (((wr.setCell ⟨w.heap.size,0,none⟩ (.int .i64 a.valid)).setCell ⟨w.heap.size,1,none⟩ (.slice la ln lc)).setCell ⟨w.heap.size,2,none⟩ (.slice sa sn sc)) (In w.heap.size (((wr.setCell ⟨w.heap.size,0,none⟩ (.int .i64 a.valid)).setCell ⟨w.heap.size,1,none⟩ (.slice la ln lc)).setCell ⟨w.heap.size,2,none⟩ (.slice sa sn sc)).heap.size) (.slice la ln lc) a.boxes):=by
    have:=HO.out
    rw [List.take_length] at this
    rw [aZ,aZ,aZ]
    refine Ow.mono (Ow.frame gq this fun q hq _=>?_) fun q hq=>⟨by have:=hq.1;omega,hq.2⟩
    have hne:q≠w.heap.size:=by have:=hq.1;omega
    rw [Below.heap_setCell _ _ _ _ (show q≠w.heap.size from hne),Below.heap_setCell _ _ _ _ (show q≠w.heap.size from hne),Below.heap_setCell _ _ _ _ (show q≠w.heap.size from hne)]
   clear KF HO HD
   go_wp2
   obtain ⟨f0,f1,f2⟩:=bD CJ.out
   refine bodyPost_ret (v:=.agg #[.int .i64 a.valid,.slice la ln lc,.slice sa sn sc]) (by simp [results,Tryz.results32,go_sem,f0,f1,f2]) rfl ⟨_,rfl,GR.out,HBF.out⟩
end Go.Proofs.YtlneebmlhblleaaGreat
