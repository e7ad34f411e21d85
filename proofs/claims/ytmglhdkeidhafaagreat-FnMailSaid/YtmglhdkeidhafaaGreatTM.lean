/- The proof's texts, part 48. -/
import Derived.Test.YtmglhdkeidhafaaGreatTL
import Derived.Test.YtmglhdkeidhafaaGreatTA
import Derived.Test.YtmglhdkeidhafaaGreatTx
namespace Go.Proofs.YtmglhdkeidhafaaGreat
open Go.RowKit
set_option linter.unusedVariables false
set_option linter.unusedSimpArgs false
set_option maxHeartbeats 8000000
set_option maxRecDepth 100000
/- do of package oU gP. -/
structure Ua (b:aA) (v:Int):Prop where
 valid:b.valid≤v
 Ub:wD b
 m12:b.ah.length≤12
 gs:b.au.length≤1000
 seq:b.seq≤1000000
 fit:Fit b
/-- What an account must be that commands work on. -/
structure Good (a:aF):Prop where
 sorted:a.boxes.Pairwise (fun y z=>bV y.name z.name=true)
 b4:a.boxes.length≤4
 v0:0≤a.valid
 v1:a.valid≤1000000
 box:∀ b ∈ a.boxes,Ua b a.valid
theorem adW:(Tryz.f15.body.bind (bR 23)).all (fun o=>dW o 9 [0,1,3,4,5,2,6,7,8] [5,6,8] [8,9] 8)=true:=by kernel_rfl
theorem adX (wt w:World) (S:Nat→Prop) (gd g n:Nat) (a:aF) (u0 u1 cv:Value) (E:aU) (bx tt tx:List Int) (kd uid mode fl si:Int) (h:aT wt w S gd g n a u0 u1 E) (hg:Good a) (hn:n≤1000000) (hc:iQ wt cv kd bx tt uid mode fl si tx) (hk:0≤kd∧kd≤9) (hbx:bx.length≤2000000) (res:aF × dI) (hres:res=dA a ⟨kd,bx,tt,uid,mode,fl,si,tx⟩) :
  Calls Tryz.prog 15 #[.pointer (some ⟨gd,0,none⟩),cv] w fun e w'=>∃ v,e=.returned v∧dX w' w.heap.size w'.heap.size v res.2∧Left wt w w' S gd g n u1 res.1:=by
 obtain ⟨a',y⟩:=res
 have qO:=ak hc
 obtain ⟨q0,q1,q2,rfl,g0,g1,g2,ii⟩:=hc
 obtain ⟨x0,m0,z0,rfl⟩:=g0.aG
 obtain ⟨x1,m1,z1,rfl⟩:=g1.aG
 obtain ⟨x2,m2,z2,rfl⟩:=g2.aG
 obtain ⟨kC,kR,A2⟩:=iX w (.cells #[.int .i64 kd,.slice x0 m0 z0,.slice x1 m1 z1,.int .i64 uid,.int .i64 mode,.int .i64 fl,.int .i64 si,.slice x2 m2 z2] 28) (.cells #[.int .i64 0,.int .i64 0,.slice none 0 0,.int .i64 0,.int .i64 0,.int .i64 0,.slice none 0 0,.slice none 0 0,.int .i64 0,.slice none 0 0] 37)
 have bH:=ak hres
 have HG:=ak hg
 have CZ:=ak ii
 have j4:=ak g0
 have HD1:=ak (h.below A2)
 have HA1:=ak A2
 have fG:=ak kC
 have bX:=ak kR
 have HSL:Hid (∀ k,S k→k < w.heap.size):=fun k hk=>(h.low k hk).2.1
 have hw0:=h.base.size
 clear h A2 kC kR g0 g1 g2 ii hres hg
 go_enter Tryz.func15,Tryz.ntmps15
 go_upto_region 1 with fail
 generalize (w.alloc (.cells #[.int .i64 kd,.slice x0 m0 z0,.slice x1 m1 z1,.int .i64 uid,.int .i64 mode,.int .i64 fl,.int .i64 si,.slice x2 m2 z2] 28)).alloc (.cells #[.int .i64 0,.int .i64 0,.slice none 0 0,.int .i64 0,.int .i64 0,.int .i64 0,.slice none 0 0,.slice none 0 0,.int .i64 0,.slice none 0 0] 37)=w1 at HD1 HA1 fG bX ⊢
 obtain ⟨o0,o1,o2,o3,o4,o5,o6,o7,o8⟩:=bQ fG.out
 by_cases k0:kd=0
 ·subst k0
  have HD2:=HD1
  have HA2:=HA1
  have cB:=bX
  have lg:=ak (adO wt w1 S gd g n a u0 u1 (.slice x0 m0 z0) E bx HD1.out j4.out HG.out.sorted HG.out.b4 ⟨HG.out.v0,HG.out.v1⟩ (fun b hb=>(HG.out.box b hb).valid) hbx (a',y) (by rw [bH.out];simp [dA]))
  go_wp2_with fail
  refine lg.out.mono ?_
  rintro e w3 ⟨v,rfl,lu,hL⟩
  obtain ⟨a0,n0,k0,a1,n1,k1,a2,n2,k2,a3,n3,k3,rfl,hr2,hfin⟩:=Fw HD2.out HSL.out HA2.out cB.out (Nat.le_succ _) hw0 lu hL
  have fO:=ak (hfin _ rfl)
  obtain ⟨yz,yl,y0,y1,y2,y3,y4,y5,y6,y7,y8,y9⟩:=gG hr2
  clear lu hL hfin hr2 o0 o1 o2 o3 o4 o5 o6 o7 o8 lg
  go_wp2
  have ff:=aO fO.out.1
  refine bodyPost_ret (v:=.agg #[.int .i64 y.code,.int .i64 y.num,.slice a0 n0 k0,.int .i64 y.box.valid,.int .i64 y.box.next,.int .i64 y.box.seq,.slice a1 n1 k1,.slice a2 n2 k2,.int .i64 y.box.lost,.slice a3 n3 k3]) (by simp [results,Tryz.results15,go_sem,ff]) rfl ⟨_,rfl,?_⟩
  exact fO.out.2
 by_cases k9:kd=9
 ·subst k9
  have HD2:=HD1
  have HA2:=HA1
  have cB:=bX
  have hq:a'=a∧y=⟨0,0,pR,a.boxes.map fun x=>x.name⟩:=by have:=bH.out;simpa [dA] using this
  have hcl:=adV wt w1 S gd g n a u0 u1 E HD1.out (fun b hb=>(HG.out.box b hb).fit.nm) (by have:=HG.out.b4;omega)
  rw [← hq.2] at hcl
  have lg:=ak hcl
  have Gt:=ak hq.1
  clear hq hcl
  go_wp2_with fail
  refine lg.out.mono ?_
  rintro e w3 ⟨v,rfl,lu,hBL⟩
  have hL:=Ky HD2.out hBL
  rw [← Gt.out] at hL
  obtain ⟨a0,n0,k0,a1,n1,k1,a2,n2,k2,a3,n3,k3,rfl,hr2,hfin⟩:=Fw HD2.out HSL.out HA2.out cB.out (Nat.le_succ _) hw0 lu hL
  have fO:=ak (hfin _ rfl)
  obtain ⟨yz,yl,y0,y1,y2,y3,y4,y5,y6,y7,y8,y9⟩:=gG hr2
  clear lu hL hfin hr2 o0 o1 o2 o3 o4 o5 o6 o7 o8 lg hBL
  go_wp2
  have ff:=aO fO.out.1
  refine bodyPost_ret (v:=.agg #[.int .i64 y.code,.int .i64 y.num,.slice a0 n0 k0,.int .i64 y.box.valid,.int .i64 y.box.next,.int .i64 y.box.seq,.slice a1 n1 k1,.slice a2 n2 k2,.int .i64 y.box.lost,.slice a3 n3 k3]) (by simp [results,Tryz.results15,go_sem,ff]) rfl ⟨_,rfl,?_⟩
  exact fO.out.2
 have FD:(kd == 0)=false:=by simp [k0]
 have RH:(kd == 9)=false:=by simp [k9]
 have wH:=ak (K9 wt w1 S gd g n a u0 u1 (.slice x0 m0 z0) E bx HD1.out (j4.out.below HD1.out.base))
 go_wp2_with fail
 refine wH.out.mono ?_
 rintro e w2 ⟨p,rfl,B2,hp⟩
 have HD2:=ak (HD1.out.below B2)
 have HA2:=ak (Below.step HA1.out B2)
 have ku:=ak (aB B2 fG.out)
 have cB:=ak (aB B2 bX.out)
 clear B2 wH HD1 HA1 fG bX o0 o1 o2 o3 o4 o5 o6 o7 o8 FD RH
 rcases hp with ⟨rfl,hfn⟩ | ⟨k,b,gb,cap,rfl,hft,hb,hu⟩
 ·obtain ⟨rfl,rfl⟩:a'=a∧y=aN 1 0:=by have:=bH.out;simpa [dA,hfn,k0,k9] using this
  clear hfn
  have HF:=ak (HD2.out.done (n:=n) (fun k hk=>.inl hk) (fZ HA2.out) (by omega) cB.out (fun hS=>by have:=HSL.out _ hS;omega) hw0 (by omega) (c:=1) (x:=0) ⟨by decide,by decide⟩ aI)
  obtain ⟨yz,yl,y0,y1,y2,y3,y4,y5,y6,y7,y8,y9⟩:=gG cB.out
  go_wp2
  have ff:=aO HF.out.1
  refine bodyPost_ret (v:=aY 1 0) (by simp [results,Tryz.results15,aY,go_sem,ff]) rfl ⟨aY 1 0,rfl,?_⟩
  exact HF.out.2
 have hil:=(gs1 hb).1
 have lC:=HG.out.box b (List.mem_of_getElem? hb)
 obtain ⟨o0,o1,o2,o3,o4,o5,o6,o7,o8⟩:=bQ ku.out
 by_cases k7:kd=7
 ·subst k7
  obtain ⟨rfl,rfl⟩:a=a'∧y=⟨0,b.ah.length,⟨b.name,b.valid,b.next,b.seq,[],[],b.lost⟩,[]⟩:=by have:=bH.out;simp [dA,hft,hb] at this;exact ⟨this.1.symm,this.2⟩
  obtain ⟨dJ,cap',v0,v5,f,e1,-,-,hlb,-,-,⟨c0,c1,c2,c3,c4,c5,c6⟩,r0,r5,-,jj⟩:=HD2.out.read hb
  rw [hu] at e1
  simp only [Value.slice.injEq,Option.some.injEq,Addr.mk.injEq,and_true,true_and] at e1
  obtain ⟨rfl,rfl⟩:=e1
  have DR:Below w2.heap.size w2 w2.drew:=(bd _ _)
  have hbv:bI w2 (.agg #[v0,.int .i64 b.valid,.int .i64 b.next,.int .i64 b.seq,.slice none 0 0,v5,.int .i64 b.lost]) ⟨b.name,b.valid,b.next,b.seq,[],b.au,b.lost⟩:=⟨v0,.slice none 0 0,v5,rfl,r0.bs,Rd.nil _,r5.1,jj⟩
  obtain ⟨na,nn,nc,rfl⟩:=r0.bs.aG
  obtain ⟨ga,gc,rfl,-⟩:=r5.1.form
  have gM:=ak hbv
  have HJJ:=ak jj
  have lH:=ak lC.fit.nm
  have mK:=ak (IX wt w2.drew S gd g n k gb cap a b u0 u1 E (HD2.out.below DR) hb hu (by omega) lC.m12)
  have uh:Hid (∀ w',Below w2.heap.size w2 w'→w'.rangeAt gb (k * 7) [.slice na nn nc,.int .i64 b.valid,.int .i64 b.next,.int .i64 b.seq,.slice none 0 0,.slice ga b.au.length gc,.int .i64 b.lost]):=fun w' hw j u hj=>(hw.cell (p:=⟨gb,k * 7+j,none⟩) hlb).trans (by
   rcases j with _ | _ | _ | _ | _ | _ | _ | j
   · cases hj;exact c0
   · cases hj;exact c1
   · cases hj;exact c2
   · cases hj;exact c3
   · cases hj;exact c4
   · cases hj;exact c5
   · cases hj;exact c6
   · simp at hj)
  have Dj:Hid (b.ah.length≤12):=lC.m12
  clear lC hbv r0 r5 jj c0 c1 c2 c3 c4 c5 c6
  go_upto_region 23 with fail
  clear o0 o1 o2 o3 o4 o5 o6 o7 o8
  refine eO 8 (S:=fun w'=>w'.rangeAt gb (k * 7) [.slice na nn nc,.int .i64 b.valid,.int .i64 b.next,.int .i64 b.seq,.slice none 0 0,.slice ga b.au.length gc,.int .i64 b.lost]) (eH (by kernel_rfl) adW) (by kernel_rfl) (uh.out _ DR) (fun aj ahz=>?_)
  refine tks 0 0 67 aj ahz ?_
  refine tks 1 1 68 aj ahz ?_
  refine tks 2 3 70 aj ahz ?_
  refine tks 3 4 71 aj ahz ?_
  refine qp 4 5 72 34 (.tmp 71) gb (k * 7) [.slice na nn nc,.int .i64 b.valid,.int .i64 b.next,.int .i64 b.seq,.slice none 0 0,.slice ga b.au.length gc,.int .i64 b.lost] aj ahz (fun w h=>h) Tryz.underlying34 ?_
  refine cls 5 2 aj (by decide) rfl rfl (fun K hK=>?_)
  go_simp
  refine mK.out.mono ?_
  rintro e w3 ⟨rfl,B3⟩
  have HB3:=ak (Below.step DR B3)
  refine hK.out _ _ (uh.out _ HB3.out) (fun ahz=>?_)
  clear hK K B3
  have fq:=ak (Bc _ ⟨b.name,b.valid,b.next,b.seq,[],b.au,b.lost⟩ w3 (gM.out.below HB3.out) lH.out)
  refine cls 6 6 aj (by decide) rfl rfl (fun K hK=>?_)
  go_simp
  refine fq.out.mono ?_
  rintro e w4 ⟨xa,xn,xc,rfl,nP,B4⟩
  have hB4:=Below.step HB3.out B4
  refine hK.out _ _ (uh.out _ hB4) (fun ahz=>?_)
  clear hK K
  refine tks 7 7 74 aj ahz ?_
  have hs3:=HB3.out.size
  have hs4:=B4.size
  have adZ:ay (b.ah.length:Int):=by have:=Dj.out;exact ⟨by omega,by omega⟩
  have lu:dX w4 w2.heap.size w4.heap.size (.agg #[.int .i64 0,.int .i64 b.ah.length,.slice xa xn xc,.int .i64 b.valid,.int .i64 b.next,.int .i64 b.seq,.slice none 0 0,.slice none 0 0,.int .i64 b.lost,.slice none 0 0]) ⟨0,b.ah.length,⟨b.name,b.valid,b.next,b.seq,[],[],b.lost⟩,[]⟩ :=
   ⟨_,_,_,_,w4.heap.size,rfl,⟨_,_,_,In w3.heap.size w4.heap.size,fun _=>False,fun _=>False,rfl,nP,.inl ⟨rfl,rfl⟩,.inl ⟨rfl,rfl⟩,fun x hx=>⟨⟨by have:=hx.1;omega,hx.2⟩,fun h=>h,fun h=>h⟩,fun _ h=>h.elim,fun _ h=>h.elim,HJJ.out⟩,.inl ⟨rfl,rfl⟩,by omega,Nat.le_refl _,aI,adZ⟩
  obtain ⟨a0,n0,k0,a1,n1,k1,a2,n2,k2,a3,n3,k3,ev,hr2,hfin⟩:=Fw HD2.out HSL.out HA2.out cB.out (Nat.le_succ _) hw0 lu (Ky HD2.out hB4)
  simp only [Value.agg.injEq,Array.mk.injEq,List.cons.injEq,Value.slice.injEq,and_true,true_and] at ev
  obtain ⟨⟨rfl,rfl,rfl⟩,⟨rfl,rfl,rfl⟩,⟨rfl,rfl,rfl⟩,⟨rfl,rfl,rfl⟩⟩:=ev
  have fO:=ak (hfin _ rfl)
  obtain ⟨yz,yl,y0,y1,y2,y3,y4,y5,y6,y7,y8,y9⟩:=gG hr2
  clear lu hfin hr2 nP B4 hB4 fq mK HB3
  refine gH (S':=fun w'=>True) 8 9 aj (by decide) trivial (fun ahz=>?_)
  refine cls 8 8 aj (by decide) rfl rfl (fun K hK=>?_)
  go_simp
  refine hK.out _ _ trivial (fun ahz=>?_)
  clear hK K
  refine eP aj ?_
  clear yz yl y0 y1 y2 y3 y4 y5 y6 y7 y8 y9
  go_wp2
  have ff:=aO fO.out.1
  refine bodyPost_ret (v:=.agg #[.int .i64 0,.int .i64 b.ah.length,.slice xa xn xc,.int .i64 b.valid,.int .i64 b.next,.int .i64 b.seq,.slice none 0 0,.slice none 0 0,.int .i64 b.lost,.slice none 0 0]) (by simp [results,Tryz.results15,go_sem,ff]) rfl ⟨_,rfl,?_⟩
  exact fO.out.2
 obtain ⟨kk,hkk⟩:∃ kk,kk=kd:=⟨_,rfl⟩
 have HKK:=ak hkk
 clear hkk
 rcases (show kd=1∨kd=2∨kd=3∨kd=4∨kd=5∨kd=6∨kd=8 by omega) with rfl | rfl | rfl | rfl | rfl | rfl | rfl
 all_goals first
  | (
    have tt:=(show kk=1 from HKK.out)
    clear tt
    obtain ⟨dJ,cap',_,_,_,e1,-,-,hlb,-,-,⟨-,c1,-⟩,-⟩:=HD2.out.read hb
    rw [hu] at e1
    simp only [Value.slice.injEq,Option.some.injEq,Addr.mk.injEq,and_true,true_and] at e1
    obtain ⟨rfl,rfl⟩:=e1
    have lg:=ak (acg wt w2 S gd g n k gb cap a b u0 u1 E HD2.out hb hn lC.m12 (a',y) (by rw [bH.out];simp [dA,hft,hb]))
    clear hu)
  | (
    have tt:=(show kk=2 from HKK.out)
    clear tt
    have lg:=ak (aa0 wt w2 S gd g n k gb cap a b u0 u1 _ E ⟨2,bx,tt,uid,mode,fl,si,tx⟩ HD2.out hb hu hn lC.valid lC.Ub lC.m12 qO.out (a',y) (by rw [bH.out];simp [dA,hft,hb])))
  | (
    have tt:=(show kk=3 from HKK.out)
    clear tt
    have hq:a'=aH a k (iD b uid mode fl si).1∧y=(iD b uid mode fl si).2:=by have:=bH.out;simpa [dA,hft,hb] using this
    have hcl:=abY wt w2 S gd g n k gb cap a b u0 u1 _ E ⟨3,bx,tt,uid,mode,fl,si,tx⟩ HD2.out hb hu hn lC.valid qO.out lC.seq _ rfl
    simp only at hcl
    rw [← hq.1,← hq.2] at hcl
    have lg:=ak hcl
    clear hq hcl)
  | (
    have tt:=(show kk=4 from HKK.out)
    clear tt
    have lg:=ak (acr wt w2 S gd g n k gb cap a b u0 u1 E HD2.out hb hu hn lC.m12 lC.gs lC.seq (a',y) (by rw [bH.out];simp [dA,hft,hb])))
  | (
    have tt:=(show kk=5 from HKK.out)
    clear tt
    have hq:a'=a∧y=CX b uid:=by
      have h5:=bH.out
      simp [dA,hft,hb] at h5
      unfold CX
      cases hf:b.ah.findIdx? (fun m=>decide (m.uid=uid)) <;> rw [hf] at h5 <;> simpa using h5
    have lg:=ak (abC wt w2 S gd g n k gb cap a b u0 u1 E uid HD2.out hb hu lC.fit CZ.out.2.1 y hq.2)
    have Gt:=ak hq.1
    clear hq)
  | (
    have tt:=(show kk=6 from HKK.out)
    clear tt
    have lg:=ak (abp wt w2 S gd g n k gb cap a b u0 u1 _ E ⟨6,bx,tt,uid,mode,fl,si,tx⟩ HD2.out hb hu hn (fun x hx=>let q:=HG.out.box x hx;⟨q.valid,q.Ub,q.m12,q.gs⟩) lC.seq qO.out (a',y) (by rw [bH.out];simp [dA,hft,hb])))
  | (
    have tt:=(show kk=8 from HKK.out)
    clear tt
    have hq:a'=a∧y=nD b si:=by have:=bH.out;simpa [dA,hft,hb] using this
    have hcl:=abF wt w2 S gd g n k gb cap a b u0 u1 E si HD2.out hb hu (by omega) lC.fit
    rw [← hq.2] at hcl
    have lg:=ak hcl
    have Gt:=ak hq.1
    clear hq hcl)
 all_goals
  clear lC
  go_wp2_with fail
  refine lg.out.mono ?_
  rintro e w3 ⟨v,rfl,lu,hL⟩
  try
   replace hL:=Ky HD2.out hL
   rw [← Gt.out] at hL
  try clear c1 hlb
  obtain ⟨a0,n0,k0,a1,n1,k1,a2,n2,k2,a3,n3,k3,rfl,hr2,hfin⟩:=Fw HD2.out HSL.out HA2.out cB.out (Nat.le_succ _) hw0 lu hL
  have fO:=ak (hfin _ rfl)
  obtain ⟨yz,yl,y0,y1,y2,y3,y4,y5,y6,y7,y8,y9⟩:=gG hr2
  clear lu hL hfin hr2 o0 o1 o2 o3 o4 o5 o6 o7 o8 lg
  go_wp2
  have ff:=aO fO.out.1
  refine bodyPost_ret (v:=.agg #[.int .i64 y.code,.int .i64 y.num,.slice a0 n0 k0,.int .i64 y.box.valid,.int .i64 y.box.next,.int .i64 y.box.seq,.slice a1 n1 k1,.slice a2 n2 k2,.int .i64 y.box.lost,.slice a3 n3 k3]) (by simp [results,Tryz.results15,go_sem,ff]) rfl ⟨_,rfl,?_⟩
  exact fO.out.2
theorem ad1 (wt w:World) (S:Nat→Prop) (gd g n:Nat) (a:aF) (u0 u1 cv:Value) (E:aU) (c:dS) (h:aT wt w S gd g n a u0 u1 E) (hg:Good a) (hn:n≤1000000) (hc:iQ wt cv c.k c.bx c.tt c.uid c.mode c.fl c.si c.tx) (hbx:c.bx.length≤2000000) (hk:0≤c.k∧c.k≤9) :
  Calls Tryz.prog 15 #[.pointer (some ⟨gd,0,none⟩),cv] w fun e w'=>∃ v,e=.returned v∧dX w' w.heap.size w'.heap.size v (dA a c).2∧Left wt w w' S gd g n u1 (dA a c).1:=by
 obtain ⟨k,bx,tt,uid,mode,fl,si,tx⟩:=c
 simp only at hc hbx hk
 exact adX wt w S gd g n a u0 u1 cv E bx tt tx k uid mode fl si h hg hn hc hk hbx _ rfl
/- What an account that may be is, as the rY commands want it, on lists. -/
theorem Ad {l m:List Int}:bV l m=true↔Lib.compareBytes (dN l) (dN m) < 0:=by
 unfold bV
 have:=Ea (dN l) (dN m)
 cases h:Op.bytesLess (dN l) (dN m) <;> rw [h] at this <;> simp at this ⊢ <;> omega
theorem Gu {a:aF} (h:fA a=true) {i:Nat} {b:aA} (hb:a.boxes[i]?=some b):gB b a.valid=true∧mV a.boxes b i=true∧∀ o ∈ a.boxes.take i,o.valid≠b.valid:=by
 simp only [fA,Bool.and_eq_true,List.all_eq_true,List.mem_range] at h
 have:=h.2.2.2 i (gs1 hb).1
 simp only [nV,hb,Bool.and_eq_true,Bool.not_eq_true',List.any_eq_false,decide_eq_true_eq] at this
 exact ⟨this.1,this.2.1,this.2.2⟩
theorem Ms {a:aF} (h:fA a=true):∀ (j i:Nat) (x y:aA),i < j→a.boxes[i]?=some x→a.boxes[j]?=some y→bV x.name y.name=true
 | 0,i,x,y,hij,_,_=>by omega
 | j+1,i,x,y,hij,hx,hy=>by
  have hjl:j < a.boxes.length:=by have:=(gs1 hy).1;omega
  have ha:=(Gu h hy).2.1
  simp only [mV,nameAt,aL hjl] at ha
  by_cases e:i=j
  ·subst e
   rw [aL hjl] at hx
   cases hx
   exact ha
  ·have:=Ms h j i x a.boxes[j] (by omega) hx (aL hjl)
   exact Ad.2 (zh _ _ _ (Ad.1 this) (Ad.1 ha))
theorem Uc {a:aF} (h:fA a=true):0≤a.valid∧a.valid≤1000000∧a.boxes.length≤4:=by
 simp only [fA,Bool.and_eq_true,aM,decide_eq_true_eq] at h
 exact ⟨h.1.1,h.1.2,h.2.1⟩
theorem Du {b:aA} {v:Int} (h:gB b v=true):b.name.length≤6∧b.valid≤v∧0≤b.seq∧b.seq≤1000000:=by
 simp only [gB,bG,Bool.and_eq_true,aM,decide_eq_true_eq] at h
 exact ⟨h.1.2.1,h.2.1.2,h.2.2.2.1.1,h.2.2.2.1.2⟩
theorem Ud {a:aF} (h:fA a=true):Good a∧sU a∧kY a∧a.boxes.Pairwise (fun x y=>x.valid≠y.valid)∧∀ b ∈ a.boxes,mF b.ah∧b.ah.length≤12∧b.au.length≤1000∧b.valid≤a.valid∧b.name.length≤2000000:=by
 obtain ⟨v0,v1,l4⟩:=Uc h
 have hb:∀ b ∈ a.boxes,gB b a.valid=true:=fun b hb=>by
  obtain ⟨i,hi⟩:=List.mem_iff_getElem?.1 hb
  exact (Gu h hi).1
 have hG:∀ b ∈ a.boxes,Ua b a.valid:=fun b hm=>by
  have ok:=Bo (hb b hm)
  obtain ⟨n6,vv,s0,s1⟩:=Du (hb b hm)
  exact ⟨vv,fun m hm'=>(ok.mem m hm').2.1,ok.len,by have:=ok.EA;omega,s1,⟨by omega,ok.len,fun m hm'=>by have:=(ok.mem m hm').2.2.2;omega,by have:=ok.EA;omega⟩⟩
 refine ⟨⟨?_,l4,v0,v1,hG⟩,fun b hm=>?_,⟨l4,fun b hm=>?_⟩,?_,fun b hm=>?_⟩
 ·rw [List.pairwise_iff_getElem]
  exact fun i j hi hj hij=>Ms h j i _ _ hij (aL hi) (aL hj)
 ·have ok:=Bo (hb b hm)
  have hbb:=hb b hm
  refine ⟨(Du hbb).2.2.1,fun m hm'=>by have:=(ok.mem m hm').2.2.1;omega,fun x hx=>?_⟩
  simp only [gB,Bool.and_eq_true,l7,List.all_eq_true,List.mem_range] at hbb
  have hg:=hbb.2.2.2.2.2.2.2
  obtain ⟨i,hi⟩:=List.mem_iff_getElem?.1 hx
  have hil:=(gs1 hi).1
  have h1:=Hf (b:=b) (k:=i) (by omega) (fun j hj=>hg j (by omega))
  have h2:=hg i hil
  simp only [jO,hi,aM,Bool.and_eq_true,decide_eq_true_eq] at h2
  omega
 ·have ok:=Bo (hb b hm)
  exact ⟨(Du (hb b hm)).1,ok.len,fun m hm'=>(ok.mem m hm').2.2.2,ok.EA⟩
 ·rw [List.pairwise_iff_getElem]
  intro i j hi hj hij
  refine (Gu h (aL hj)).2.2 _ ?_
  rw [List.mem_iff_getElem?]
  exact ⟨i,by rw [List.getElem?_take_of_lt hij];exact aL hi⟩
 ·have ok:=Bo (hb b hm)
  have:=(Du (hb b hm)).1
  exact ⟨ok.sorted,ok.len,by have:=ok.EA;omega,(Du (hb b hm)).2.1,by omega⟩
/-- What SB wants of what a command leaves. -/
theorem ad2 {a:aF} (hi:kY a) (hp:sU a):∀ b ∈ a.boxes,Fit b∧(∀ m ∈ b.ah,0 < m.seq)∧∀ x ∈ b.au,0 < x.seq:=fun b hb=>by
 obtain ⟨i1,i2,i3,i4⟩:=hi.2 b hb
 exact ⟨⟨by omega,i2,fun m hm=>by have:=i3 m hm;omega,by omega⟩,(hp b hb).ms,(hp b hb).gs⟩
/- What Do answers; how it refuses. -/
/-- Behind a call that led from w to w': what it made stays, and what it did not make stays but for variables of accounts and Ob. -/
def Kept (w w' W:World):Prop:=w'.heap.size≤W.heap.size∧(∀ k,w.heap.size≤k→k < w'.heap.size→W.heap[k]?=w'.heap[k]?)∧∀ t,t≠26→t≠37→∀ k,Ty w' k t→W.heap[k]?=w'.heap[k]?
/-- What Do answers. -/
def kF (a:aF) (c:dS):aF × dI:=if (fA a && dK c.k c.bx c.tt c.uid c.mode c.fl c.si c.tx)=true then dA a c else (⟨0,[],[]⟩,aN 5 0)
theorem ad3 {k:Int} {bx tt:List Int} {uid mode fl si:Int} {tx:List Int} (h:dK k bx tt uid mode fl si tx=true):(0≤k∧k≤9)∧bx.length≤6∧tx.length≤30:=by
 simp only [dK,Bool.and_eq_true,decide_eq_true_eq] at h
 obtain ⟨⟨⟨⟨⟨⟨⟨h1,h2⟩,-⟩,-⟩,-⟩,-⟩,-⟩,h3⟩:=h
 refine ⟨h1,?_,?_⟩
 ·split at h2
  ·simp at h2;simp [h2]
  ·simp only [bG,Bool.and_eq_true,decide_eq_true_eq] at h2
   exact h2.2.1
 ·split at h3
  ·simp only [dU,Bool.and_eq_true,decide_eq_true_eq] at h3
   exact h3.1
  ·simp at h3;simp [h3]
/-- The three cells of an account. -/
abbrev qh (w:World) (r:Nat) (c0 c1 c2:Value):World:=((w.setCell ⟨r,0,none⟩ c0).setCell ⟨r,1,none⟩ c1).setCell ⟨r,2,none⟩ c2
theorem ad4 {w:World} {r:Nat} {d0 d1 d2:Value} (h:w.heap[r]?=some (.cells #[d0,d1,d2] 26 (0,0))) (c0 c1 c2:Value) :
  (qh w r c0 c1 c2).heap[r]?=some (.cells #[c0,c1,c2] 26 (0,0))∧(qh w r c0 c1 c2).heap.size=w.heap.size∧((qh w r c0 c1 c2).os=w.os∧(qh w r c0 c1 c2).tape=w.tape∧(qh w r c0 c1 c2).output=w.output)∧∀ k,k≠r→(qh w r c0 c1 c2).heap[k]?=w.heap[k]? :=
 ⟨aJ (i:=2) (v:=c2) (aJ (i:=1) (v:=c1) (aJ (i:=0) (v:=c0) h)),by simp only [bf],⟨by simp only [Aj],by simp only [Ak],by simp only [Al]⟩,fun k hk=>by
  rw [Below.heap_setCell _ _ _ _ (show k≠r from hk),Below.heap_setCell _ _ _ _ (show k≠r from hk),Below.heap_setCell _ _ _ _ (show k≠r from hk)]⟩
/-- An account and a reply are laid into the two results. -/
theorem Ue {w W:World} {d0 d1 d2 e0 e1 e2 e3 e4 e5 e6 e7 e8 e9:Value} (hZ:W.heap[w.heap.size+2]?=some (.cells #[d0,d1,d2] 26 (0,0))) (hR:W.heap[w.heap.size+3]?=some (.cells #[e0,e1,e2,e3,e4,e5,e6,e7,e8,e9] 37 (0,0))) (B:Below w.heap.size w W) (p0 p1 p2 c0 c1 c2 c3 c4 c5 c6 c7 c8 c9:Value) :
  (oK (qh W (w.heap.size+2) p0 p1 p2) (w.heap.size+3) c0 c1 c2 c3 c4 c5 c6 c7 c8 c9).heap[w.heap.size+3]?=some (.cells #[c0,c1,c2,c3,c4,c5,c6,c7,c8,c9] 37 (0,0))∧(oK (qh W (w.heap.size+2) p0 p1 p2) (w.heap.size+3) c0 c1 c2 c3 c4 c5 c6 c7 c8 c9).heap[w.heap.size+2]?=some (.cells #[p0,p1,p2] 26 (0,0))∧Below w.heap.size w (oK (qh W (w.heap.size+2) p0 p1 p2) (w.heap.size+3) c0 c1 c2 c3 c4 c5 c6 c7 c8 c9)∧(qh W (w.heap.size+2) p0 p1 p2).heap[w.heap.size+3]?=W.heap[w.heap.size+3]?∧(∀ k,k≠w.heap.size+2→k≠w.heap.size+3→(oK (qh W (w.heap.size+2) p0 p1 p2) (w.heap.size+3) c0 c1 c2 c3 c4 c5 c6 c7 c8 c9).heap[k]?=W.heap[k]?)∧(oK (qh W (w.heap.size+2) p0 p1 p2) (w.heap.size+3) c0 c1 c2 c3 c4 c5 c6 c7 c8 c9).heap.size=W.heap.size:=by
 obtain ⟨h1,h2,h3,h4⟩:=ad4 hZ p0 p1 p2
 obtain ⟨k1,k2,k3,k4⟩:=oJ ((h4 (w.heap.size+3) (by omega)).trans hR) c0 c1 c2 c3 c4 c5 c6 c7 c8 c9
 exact ⟨k1,(k4 _ (by omega)).trans h1,sO (sO B h2 h3 h4 (by omega)) k2 k3 k4 (by omega),h4 _ (by omega),fun k n1 n2=>(k4 k n2).trans (h4 k n1),k2.trans h2⟩
end Go.Proofs.YtmglhdkeidhafaaGreat
