/- The proof's texts, part 41. -/
import Derived.Test.YtlneebmlhblleaaGreatTE
namespace Go.Proofs.YtlneebmlhblleaaGreat
open Go.RowKit
set_option linter.unusedVariables false
set_option maxHeartbeats 2000000
set_option maxRecDepth 100000
/- What ajX of package laws does. -/
def jN (k:Int) (x:aD):aD:=⟨marks k x.name.length,x.valid,x.next,x.seq,mF (k+x.name.length) x.ah,pK (k+x.name.length+dL x.ah) x.au,x.lost⟩
theorem agr (S:Nat→Prop) (v:Value) (x:aD) (k:Int) (w:World) (hv:pV w S v x) (hS:∀ b,S b→b < w.heap.size) (hn:x.name.length≤2000000) (hm:dG x.ah≤2000000) (hg:x.au.length≤2000000) (hk0:0≤k) (hk1:k≤1000000000) :
  Calls Tryz.prog 41 #[v,.int .i64 k] w fun e w'=>e=.returned (.int .i64 (k+x.name.length+dL x.ah+fZ x.au))∧pV w' S v (jN k x)∧Wr S w w':=by
 obtain ⟨c,rfl,u0,u1,u2,S0,S1,S2,rfl,h0,h1,h2,d0,d1,d2,i0⟩:=hv
 have hb:dL x.ah≤6000000:=by have:=zh x.ah;omega
 obtain ⟨a0,n0,c0,rfl⟩:=h0.bs.aG
 obtain ⟨a1,c1,rfl,-⟩:=(h1.rd fun _ _ _ _=>je.rd:bY _ _ _).form
 obtain ⟨a2,c2,rfl,-⟩:=(h2.rd fun _ _ _ _ h=>h:bO _ _ _).form
 have N0:¬ S0 w.heap.size:=fun h=>by have:=hS _ (d0 _ h).1;omega
 have N1:¬ S1 w.heap.size:=fun h=>by have:=hS _ (d1 _ h).1;omega
 have AB:Below w.heap.size w (w.alloc (.cells #[.slice a0 n0 c0,.int .i64 x.valid,.int .i64 x.next,.int .i64 x.seq,.slice a1 x.ah.length c1,.slice a2 x.au.length c2,.int .i64 x.lost] 37)):=bn _ _
 have hsz:w.heap.size < (w.alloc (.cells #[.slice a0 n0 c0,.int .i64 x.valid,.int .i64 x.next,.int .i64 x.seq,.slice a1 x.ah.length c1,.slice a2 x.au.length c2,.int .i64 x.lost] 37)).heap.size:=by simp
 have H0:Hid (RO (w.alloc (.cells #[.slice a0 n0 c0,.int .i64 x.valid,.int .i64 x.next,.int .i64 x.seq,.slice a1 x.ah.length c1,.slice a2 x.au.length c2,.int .i64 x.lost] 37)) S0 (.slice a0 n0 c0) x.name):=h0.below AB
 have H1:Hid (jO (w.alloc (.cells #[.slice a0 n0 c0,.int .i64 x.valid,.int .i64 x.next,.int .i64 x.seq,.slice a1 x.ah.length c1,.slice a2 x.au.length c2,.int .i64 x.lost] 37)) S1 (.slice a1 x.ah.length c1) x.ah):=h1.below kI AB
 have H2:Hid (fB (w.alloc (.cells #[.slice a0 n0 c0,.int .i64 x.valid,.int .i64 x.next,.int .i64 x.seq,.slice a1 x.ah.length c1,.slice a2 x.au.length c2,.int .i64 x.lost] 37)) S2 (.slice a2 x.au.length c2) x.au):=h2.below jB AB
 have HK:Hid ((w.alloc (.cells #[.slice a0 n0 c0,.int .i64 x.valid,.int .i64 x.next,.int .i64 x.seq,.slice a1 x.ah.length c1,.slice a2 x.au.length c2,.int .i64 x.lost] 37)).heap[w.heap.size]?=some (.cells #[.slice a0 n0 c0,.int .i64 x.valid,.int .i64 x.next,.int .i64 x.seq,.slice a1 x.ah.length c1,.slice a2 x.au.length c2,.int .i64 x.lost] 37)):=aV w _
 have eH:Hid (Below w.heap.size w (w.alloc (.cells #[.slice a0 n0 c0,.int .i64 x.valid,.int .i64 x.next,.int .i64 x.seq,.slice a1 x.ah.length c1,.slice a2 x.au.length c2,.int .i64 x.lost] 37))):=AB
 have HD:Hid ((∀ y,S0 y→S y∧¬ S1 y∧¬ S2 y)∧(∀ y,S1 y→S y∧¬ S2 y)∧(∀ y,S2 y→S y)):=⟨d0,d1,d2⟩
 clear h0 h1 h2 d0 d1 d2 AB
 obtain ⟨f0,f1,f2,f3,f4,f5,f6⟩:=bF HK.out
 go_enter Tryz.func41,Tryz.ntmps41
 go_wp2_with fail
 refine (He S0 _ x.name k _ H0.out hn hk0 (by omega)).mono ?_
 rintro e w1 ⟨rfl,R1,W1⟩
 have s1:=W1.size
 have K1:w1.heap[w.heap.size]?=_:=(W1.block _ hsz N0).trans HK.out
 have G0:Hid (RO w1 S0 (.slice a0 n0 c0) (marks k x.name.length)):=R1
 have G1:Hid (jO w1 S1 (.slice a1 x.ah.length c1) x.ah):=H1.out.frame kI fun b hb hlt=>W1.block b hlt fun h=>(HD.out.1 b h).2.1 hb
 have G2:Hid (fB w1 S2 (.slice a2 x.au.length c2) x.au):=H2.out.frame jB fun b hb hlt=>W1.block b hlt fun h=>(HD.out.1 b h).2.2 hb
 have HW1:Hid (Wr S w w1):=(Wr.of_below eH.out).trans (W1.mono fun b h=>(HD.out.1 b h).1)
 clear f0 f1 f2 f3 f4 f5 f6 R1 H0 H1 H2 HK W1 eH
 obtain ⟨f0,f1,f2,f3,f4,f5,f6⟩:=bF K1
 have hlA:=lt_of_heap K1
 go_wp2_with fail
 refine (Wz S1 _ x.ah _ _ G1.out hm (by omega) (by omega)).mono ?_
 rintro e w2 ⟨rfl,R2,W2⟩
 have s2:=W2.size
 have K2:w2.heap[w.heap.size]?=_:=(W2.block _ hlA N1).trans K1
 have J0:Hid (RO w2 S0 (.slice a0 n0 c0) (marks k x.name.length)):=G0.out.frame fun b hb hlt=>W2.block b hlt (HD.out.1 b hb).2.1
 have J1:Hid (jO w2 S1 (.slice a1 x.ah.length c1) (mF (k+x.name.length) x.ah)):=R2
 have J2:Hid (fB w2 S2 (.slice a2 x.au.length c2) x.au):=G2.out.frame jB fun b hb hlt=>W2.block b hlt fun h=>(HD.out.2.1 b h).2 hb
 have HW2:Hid (Wr S w w2):=HW1.out.trans (W2.mono fun b h=>(HD.out.2.1 b h).1)
 clear f0 f1 f2 f3 f4 f5 f6 R2 G0 G1 G2 K1 W2 HW1 hlA
 obtain ⟨f0,f1,f2,f3,f4,f5,f6⟩:=bF K2
 have hlA:=lt_of_heap K2
 clear K2
 go_wp2_with fail
 refine (Wy S2 _ x.au _ _ J2.out hg (by omega) (by omega)).mono ?_
 rintro e w3 ⟨rfl,R3,W3⟩
 have HF:Hid (pV w3 S (.agg #[.slice a0 n0 c0,.int .i64 x.valid,.int .i64 x.next,.int .i64 x.seq,.slice a1 x.ah.length c1,.slice a2 x.au.length c2,.int .i64 x.lost]) (jN k x)∧Wr S w w3):=by
  refine ⟨⟨_,rfl,.slice a0 n0 c0,.slice a1 x.ah.length c1,.slice a2 x.au.length c2,S0,S1,S2,rfl,?_,?_,R3,HD.out.1,HD.out.2.1,HD.out.2.2,i0⟩,HW2.out.trans (W3.mono HD.out.2.2)⟩
  ·exact J0.out.frame fun b hb hlt=>W3.block b hlt (HD.out.1 b hb).2.2
  ·exact J1.out.frame kI fun b hb hlt=>W3.block b hlt (HD.out.2.1 b hb).2
 clear R3 W3 J0 J1 J2 HW2 HD f0 f1 f2 f3 f4 f5 f6 hlA
 go_wp2
 go_ret
 exact ⟨rfl,HF.out.1,HF.out.2⟩
/- What ajY of package laws does. -/
def oG (k:Int) (x:cO):cO:=⟨x.code,x.num,jN k x.box,um (k+x.box.name.length+dL x.box.ah+fZ x.box.au) x.names⟩
theorem ags (B T:Nat) (v:Value) (x:cO) (k:Int) (w:World) (hv:dD w B T v x) (hT:T≤w.heap.size) (hn:x.box.name.length≤2000000) (hm:dG x.box.ah≤2000000) (hg:x.box.au.length≤2000000) (hN:oM x.names≤2000000) (hk0:0≤k) (hk1:k≤100000000) :
  Calls Tryz.prog 15 #[v,.int .i64 k] w fun e w'=>e=.returned (.int .i64 (k+x.box.name.length+dL x.box.ah+fZ x.box.au+qO x.names))∧dD w' B T v (oG k x)∧Within B T w w':=by
 obtain ⟨a0,n0,c0,a1,c1,a2,c2,a3,c3,rfl⟩:=hv.rv.form
 obtain ⟨u0,u1,u2,u3,T0,e,hb,hN',j0,j1,hi⟩:=hv
 simp only [Value.agg.injEq,Array.mk.injEq,List.cons.injEq,and_true,true_and] at e
 obtain ⟨rfl,rfl,rfl,rfl⟩:=e
 have hwm:dL x.box.ah≤6000000:=by have:=zh x.box.ah;omega
 have hwg:fZ x.box.au≤4000000:=by have:=Aq x.box.au;omega
 have AB:Below w.heap.size w (w.alloc (.cells #[.int .i64 x.code,.int .i64 x.num,.slice a0 n0 c0,.int .i64 x.box.valid,.int .i64 x.box.next,.int .i64 x.box.seq,.slice a1 x.box.ah.length c1,.slice a2 x.box.au.length c2,.int .i64 x.box.lost,.slice a3 x.names.length c3] 40)):=bn _ _
 have kA:=aV w (.cells #[.int .i64 x.code,.int .i64 x.num,.slice a0 n0 c0,.int .i64 x.box.valid,.int .i64 x.box.next,.int .i64 x.box.seq,.slice a1 x.box.ah.length c1,.slice a2 x.box.au.length c2,.int .i64 x.box.lost,.slice a3 x.names.length c3] 40)
 have HB:Hid (pV (w.alloc (.cells #[.int .i64 x.code,.int .i64 x.num,.slice a0 n0 c0,.int .i64 x.box.valid,.int .i64 x.box.next,.int .i64 x.box.seq,.slice a1 x.box.ah.length c1,.slice a2 x.box.au.length c2,.int .i64 x.box.lost,.slice a3 x.names.length c3] 40)) (In B T0) (.agg #[.slice a0 n0 c0,.int .i64 x.box.valid,.int .i64 x.box.next,.int .i64 x.box.seq,.slice a1 x.box.ah.length c1,.slice a2 x.box.au.length c2,.int .i64 x.box.lost]) x.box):=⟨_,rfl,gq _ _ _ _ _ hb fun b _ hlt=>AB.block b hlt⟩
 have HN:Hid (kM (w.alloc (.cells #[.int .i64 x.code,.int .i64 x.num,.slice a0 n0 c0,.int .i64 x.box.valid,.int .i64 x.box.next,.int .i64 x.box.seq,.slice a1 x.box.ah.length c1,.slice a2 x.box.au.length c2,.int .i64 x.box.lost,.slice a3 x.names.length c3] 40)) (In T0 T) (.slice a3 x.names.length c3) x.names):=hN'.below kL AB
 have HW:Hid (Within B T w (w.alloc (.cells #[.int .i64 x.code,.int .i64 x.num,.slice a0 n0 c0,.int .i64 x.box.valid,.int .i64 x.box.next,.int .i64 x.box.seq,.slice a1 x.box.ah.length c1,.slice a2 x.box.au.length c2,.int .i64 x.box.lost,.slice a3 x.names.length c3] 40))):=Within.OC AB
 have hsA:w.heap.size < (w.alloc (.cells #[.int .i64 x.code,.int .i64 x.num,.slice a0 n0 c0,.int .i64 x.box.valid,.int .i64 x.box.next,.int .i64 x.box.seq,.slice a1 x.box.ah.length c1,.slice a2 x.box.au.length c2,.int .i64 x.box.lost,.slice a3 x.names.length c3] 40)).heap.size:=by simp
 clear AB hb hN'
 go_enter Tryz.func15,Tryz.ntmps15
 go_wp2_with fail
 refine (agr (In B T0) _ x.box k _ HB.out (fun b hb=>by have:=hb.2;omega) hn hm hg hk0 (by omega)).mono ?_
 rintro e w1 ⟨rfl,R1,W1⟩
 have G1:=W1.within
 have Ir:Hid (kM w1 (In T0 T) (.slice a3 x.names.length c3) x.names):=HN.out.frame kL fun b hb hlt=>G1.block b hlt (by have:=hb.1;omega)
 have HB1:Hid (pV w1 (In B T0) (.agg #[.slice a0 n0 c0,.int .i64 x.box.valid,.int .i64 x.box.next,.int .i64 x.box.seq,.slice a1 x.box.ah.length c1,.slice a2 x.box.au.length c2,.int .i64 x.box.lost]) (jN k x.box)):=R1
 have HW1:Hid (Within B T w w1):=HW.out.trans (G1.wide (Nat.le_refl _) j1)
 replace kA:=qP G1 kA (.inr (by omega))
 have hs1:=G1.size
 clear G1 W1 HB HN HW R1
 obtain ⟨f0,f1,f2,f3,f4,f5,f6,f7,f8,f9⟩:=aM kA
 have hlA:=lt_of_heap kA
 clear kA
 go_wp2_with fail
 refine (agq (In T0 T) _ x.names _ _ Ir.out hN (by omega) (by omega)).mono ?_
 rintro e w2 ⟨rfl,R2,W2⟩
 have G2:=W2.within
 have HF:Hid (dD w2 B T (.agg #[.int .i64 x.code,.int .i64 x.num,.slice a0 n0 c0,.int .i64 x.box.valid,.int .i64 x.box.next,.int .i64 x.box.seq,.slice a1 x.box.ah.length c1,.slice a2 x.box.au.length c2,.int .i64 x.box.lost,.slice a3 x.names.length c3]) (oG k x)∧Within B T w w2):=by
  obtain ⟨c,e,hc⟩:=HB1.out
  obtain rfl:c=[.slice a0 n0 c0,.int .i64 x.box.valid,.int .i64 x.box.next,.int .i64 x.box.seq,.slice a1 x.box.ah.length c1,.slice a2 x.box.au.length c2,.int .i64 x.box.lost]:=by
   have:=congrArg (fun v=>match v with | .agg c=>c.toList | _=>[]) e
   simpa using this.symm
  refine ⟨⟨.slice a0 n0 c0,.slice a1 x.box.ah.length c1,.slice a2 x.box.au.length c2,.slice a3 x.names.length c3,T0,rfl,?_,R2,j0,j1,hi⟩,HW1.out.trans (G2.wide j0 (Nat.le_refl _))⟩
  ·have:=gq _ _ _ _ _ hc fun b hb hlt=>G2.block b hlt (by have:=hb.2;omega)
   exact this
 clear R2 W2 G2 Ir HB1 HW1 f0 f1 f2 f3 f4 f5 f6 f7 f8 f9 hlA
 go_wp2
 go_ret
 exact ⟨rfl,HF.out.1,HF.out.2⟩
/- What aj0 of package laws do of what was marked. -/
theorem WM (v:Value) (l:List aF) (k:Int) (w:World) (hv:bY w v (mF k l)) (hs:dG l≤2000000) (hk0:0≤k) (hk1:k≤100000000000) :
  Calls Tryz.prog 92 #[v,.int .i64 k] w fun e w'=>e=.returned (.int .i64 (k+dL l))∧Below w.heap.size w w':=by
 have HV:Hid (∀ wi,Below w.heap.size w wi→bY wi v (mF k l)):=fun wi h=>hv.below eU h
 obtain ⟨a,cap,rfl,hlc,hcm⟩:=hv.form
 have hlen:(mF k l).length=l.length:=tN
 rw [hlen] at hlc
 simp only [hlen] at HV ⊢
 clear hv
 have hl:l.length≤2000000:=Nat.le_trans (jZ l) hs
 have rU:Hid (dL l≤6000000):=by have:=zh l;unfold Hid;omega
 go_enter Tryz.func92,Tryz.ntmps92
 go_wp2
 go_loopw [1,5] (fun q i wr=>∃ j:Nat,j≤l.length∧i=.int .i64 j∧q=.int .i64 (k+(pre (bJ om nL l) j:Nat))∧Hid (Below w.heap.size w wr)) (fun _ i _=>l.length - (intOf i).toNat)
 case atStart=>exact ⟨0,Nat.zero_le _,rfl,by simp [pre],Below.refl _ _⟩
 case round =>
  obtain ⟨j,hj,rfl,rfl,hW⟩:=hrel
  by_cases hlt:j < l.length
  ·obtain ⟨x,hx⟩:∃ x,l[j]?=some x:=⟨l[j],aK hlt⟩
   have hp1:pre (bJ om nL l) (j+1)=pre (bJ om nL l) j+(3+x.text.length):=tQ hx
   have kG:pre (bJ om nL l) (j+1)≤dL l:=tT hlt
   have hn:=tO (z:=om) (mk:=vg) (wt:=nL) (k:=k) hx
   generalize pre (bJ om nL l) j=P at kG hp1 hn
   have hP:(P:Int)≤6000000:=by have:=rU.out;omega
   have hxt:x.text.length≤2000000:=by have:=zI (List.mem_of_getElem? hx);omega
   obtain ⟨b,off,cap',u,hv',hlb,d0,d1,d2,d3,hu,-⟩:=bY.cell (HV.out wr hW.out) j _ hn
   simp only [hlen,Value.slice.injEq,true_and] at hv'
   obtain ⟨rfl,rfl⟩:=hv'
   obtain ⟨ua,un,uc,rfl⟩:=hu.aG
   simp only [vg] at d0 d1 d2 hu
   have e1:IntKind.i64.wrap (k+(P:Int)+1)=k+P+1:=IntWalk.i64_in _ (by omega)
   have e2:(k+(P:Int)+1+1)=k+P+2:=by omega
   have e3:(k+(P:Int)+2+1)=k+P+3:=by omega
   have HU:Hid (Bs wr (.slice ua un uc) (marks (k+P+3) x.text.length)):=hu
   clear hn hx hu
   go_wp2_with fail
   refine (FL _ x.text.length (k+P+3) _ HU.out hxt (by omega) (by omega)).mono ?_
   rintro e w2 ⟨rfl,B2⟩
   have HW2:Hid (Below w.heap.size w w2):=Below.step hW.out B2
   clear B2 d0 d1 d2 d3 HU
   go_wp2
   go_roundw
   case rel=>exact ⟨j+1,by omega,by go_num,by rw [hp1];go_num,HW2⟩
   case measure=>simp [intOf];omega
  ·go_wp2
   go_ret
   obtain rfl:j=l.length:=by omega
   exact ⟨rfl,hW.out⟩
/- What aj1 of package laws do of what was marked. -/
theorem WO (v:Value) (l:List bf) (k:Int) (w:World) (hv:bO w v (pK k l)) (hl:l.length≤2000000) (hk0:0≤k) (hk1:k≤100000000000) :
  Calls Tryz.prog 93 #[v,.int .i64 k] w fun e w'=>e=.returned (.int .i64 (k+fZ l))∧Below w.heap.size w w':=by
 have HV:Hid (∀ wi,Below w.heap.size w wi→bO wi v (pK k l)):=fun wi h=>hv.below dY h
 obtain ⟨a,cap,rfl,hlc,hcm⟩:=hv.form
 have hlen:(pK k l).length=l.length:=tN
 rw [hlen] at hlc
 simp only [hlen] at HV ⊢
 clear hv
 have rU:=(show Hid _ from Aq l)
 go_enter Tryz.func93,Tryz.ntmps93
 go_wp2
 go_loopw [1,5] (fun q i wr=>∃ j:Nat,j≤l.length∧i=.int .i64 j∧q=.int .i64 (k+(pre (bJ oo nK l) j:Nat))∧Hid (Below w.heap.size w wr)) (fun _ i _=>l.length - (intOf i).toNat)
 case atStart=>exact ⟨0,Nat.zero_le _,rfl,by simp [pre],Below.refl _ _⟩
 case round =>
  obtain ⟨j,hj,rfl,rfl,hW⟩:=hrel
  by_cases hlt:j < l.length
  ·obtain ⟨x,hx⟩:∃ x,l[j]?=some x:=⟨l[j],aK hlt⟩
   have hp1:pre (bJ oo nK l) (j+1)=pre (bJ oo nK l) j+2:=tQ hx
   have kG:pre (bJ oo nK l) j≤fZ l:=tT (Nat.le_of_lt hlt)
   have hn:=tO (z:=oo) (mk:=zf) (wt:=nK) (k:=k) hx
   generalize pre (bJ oo nK l) j=P at kG hp1 hn
   have hP:(P:Int)≤4000000:=by have:=rU.out;omega
   obtain ⟨b,off,cap',hv',hlb,d0,d1,-⟩:=bO.cell (HV.out wr hW.out) j _ hn
   simp only [hlen,Value.slice.injEq,true_and] at hv'
   obtain ⟨rfl,rfl⟩:=hv'
   simp only [zf] at d0 d1
   clear hn hx
   go_wp2
   go_roundw
   case rel=>exact ⟨j+1,by omega,by go_num,by rw [hp1];go_num,hW⟩
   case measure=>simp [intOf];omega
  ·go_wp2
   go_ret
   obtain rfl:j=l.length:=by omega
   exact ⟨rfl,hW.out⟩
/- What aj2 of package laws do of what was marked. -/
theorem agt (v:Value) (l:List aD) (k:Int) (w:World) (hv:cK w v (qL k l)) (hs:jf l≤2000000) (hk0:0≤k) (hk1:k≤10000000000) :
  Calls Tryz.prog 43 #[v,.int .i64 k] w fun e w'=>e=.returned (.int .i64 (k+kF l))∧Below w.heap.size w w':=by
 have HV:Hid (∀ wi,Below w.heap.size w wi→cK wi v (qL k l)):=fun wi h=>hv.below lq h
 obtain ⟨a,cap,rfl,hlc,hcm⟩:=hv.form
 have hlen:(qL k l).length=l.length:=tN
 rw [hlen] at hlc
 simp only [hlen] at HV ⊢
 clear hv
 have hl:l.length≤2000000:=Nat.le_trans (Fu l) hs
 have rU:Hid (kF l≤8000000):=by have:=Ar l;unfold Hid;omega
 go_enter Tryz.func43,Tryz.ntmps43
 go_wp2
 go_loopw [1,5] (fun q i wr=>∃ j:Nat,j≤l.length∧i=.int .i64 j∧q=.int .i64 (k+(pre (bJ oq jV l) j:Nat))∧Hid (Below w.heap.size w wr)) (fun _ i _=>l.length - (intOf i).toNat)
 case atStart=>exact ⟨0,Nat.zero_le _,rfl,by simp [pre],Below.refl _ _⟩
 case round =>
  obtain ⟨j,hj,rfl,rfl,hW⟩:=hrel
  by_cases hlt:j < l.length
  ·obtain ⟨x,hx⟩:∃ x,l[j]?=some x:=⟨l[j],aK hlt⟩
   have hp1:pre (bJ oq jV l) (j+1)=pre (bJ oq jV l) j+jV x:=tQ hx
   have kG:pre (bJ oq jV l) (j+1)≤kF l:=tT hlt
   have hn:=tO (z:=oq) (mk:=tV) (wt:=jV) (k:=k) hx
   generalize pre (bJ oq jV l) j=P at kG hp1 hn
   have hxs:=Fq (List.mem_of_getElem? hx)
   have hx0:x.name.length≤2000000:=by simp only [bA] at hxs;omega
   have hx1:dG x.ah≤2000000:=by simp only [bA] at hxs;omega
   have hx2:x.au.length≤2000000:=by simp only [bA] at hxs;omega
   have hwt:jV x=x.name.length+3+dL x.ah+fZ x.au+1:=rfl
   have hP:(P:Int)≤8000000:=by have:=rU.out;omega
   have hPm:(dL x.ah:Int)≤8000000:=by have:=rU.out;omega
   have hPg:(fZ x.au:Int)≤8000000:=by have:=rU.out;omega
   have HC:Hid (∀ wi,Below wr.heap.size wr wi→∃ b off u0 u1 u2,a=some ⟨b,off,none⟩∧b < wi.heap.size∧wi.cell? ⟨b,off+j * 7,none⟩=some u0∧wi.cell? ⟨b,off+j * 7+1,none⟩=some (.int .i64 (k+P+x.name.length))∧wi.cell? ⟨b,off+j * 7+2,none⟩=some (.int .i64 (k+P+x.name.length+1))∧wi.cell? ⟨b,off+j * 7+3,none⟩=some (.int .i64 (k+P+x.name.length+2))∧wi.cell? ⟨b,off+j * 7+4,none⟩=some u1∧wi.cell? ⟨b,off+j * 7+5,none⟩=some u2∧wi.cell? ⟨b,off+j * 7+6,none⟩=some (.int .i64 (k+P+x.name.length+3+dL x.ah+fZ x.au))∧Bs wi u0 (marks (k+P) x.name.length)∧bY wi u1 (mF (k+P+x.name.length+3) x.ah)∧bO wi u2 (pK (k+P+x.name.length+3+dL x.ah) x.au)):=by
    intro wi h
    obtain ⟨b,off,cap',u0,u1,u2,hv',hlb,d0,d1,d2,d3,d4,d5,d6,g0,g1,g2,-⟩:=cK.cell (HV.out wi (Below.step hW.out h)) j _ hn
    simp only [hlen,Value.slice.injEq,true_and] at hv'
    obtain ⟨rfl,rfl⟩:=hv'
    exact ⟨b,off,u0,u1,u2,rfl,hlb,d0,d1,d2,d3,d4,d5,d6,g0,g1,g2⟩
   obtain ⟨b,off,u0,u1,u2,rfl,hlb,d0,d1,d2,d3,d4,d5,d6,g0,g1,g2⟩:=HC.out wr (Below.refl _ _)
   obtain ⟨a0,n0,c0,rfl⟩:=g0.aG
   obtain ⟨a1,c1,rfl,-⟩:=g1.form
   obtain ⟨a2,c2,rfl,-⟩:=g2.form
   have HG:Hid (∀ wi,Below wr.heap.size wr wi→Bs wi (.slice a0 n0 c0) (marks (k+P) x.name.length)∧bY wi (.slice a1 (mF (k+P+x.name.length+3) x.ah).length c1) (mF (k+P+x.name.length+3) x.ah)∧bO wi (.slice a2 (pK (k+P+x.name.length+3+dL x.ah) x.au).length c2) (pK (k+P+x.name.length+3+dL x.ah) x.au)):=fun wi h=>⟨g0.below h,g1.below eU h,g2.below dY h⟩
   clear g0 g1 g2 hn hx HC hxs
   have HD:Hid (wr.cell? ⟨b,off+j * 7+1,none⟩=some (.int .i64 (k+P+x.name.length))∧wr.cell? ⟨b,off+j * 7+2,none⟩=some (.int .i64 (k+P+x.name.length+1))∧wr.cell? ⟨b,off+j * 7+3,none⟩=some (.int .i64 (k+P+x.name.length+2))∧wr.cell? ⟨b,off+j * 7+4,none⟩=some (.slice a1 (mF (k+P+x.name.length+3) x.ah).length c1)∧wr.cell? ⟨b,off+j * 7+5,none⟩=some (.slice a2 (pK (k+P+x.name.length+3+dL x.ah) x.au).length c2)∧wr.cell? ⟨b,off+j * 7+6,none⟩=some (.int .i64 (k+P+x.name.length+3+dL x.ah+fZ x.au))):=⟨d1,d2,d3,d4,d5,d6⟩
   clear d1 d2 d3 d4 d5 d6
   go_wp2_with fail
   refine (FL _ x.name.length (k+P) _ (HG.out _ (Below.refl _ _)).1 hx0 (by omega) (by omega)).mono ?_
   rintro e w1 ⟨rfl,B1⟩
   have C1:=B1
   have hl1:b < w1.heap.size:=Nat.lt_of_lt_of_le hlb B1.size
   have d1:=(B1.cell (p:=⟨b,off+j * 7+1,none⟩) hlb).trans HD.out.1
   have d2:=(B1.cell (p:=⟨b,off+j * 7+2,none⟩) hlb).trans HD.out.2.1
   have d3:=(B1.cell (p:=⟨b,off+j * 7+3,none⟩) hlb).trans HD.out.2.2.1
   have d4:=(B1.cell (p:=⟨b,off+j * 7+4,none⟩) hlb).trans HD.out.2.2.2.1
   have e2:(k+(P:Int)+x.name.length+1+1)=k+P+x.name.length+2:=by omega
   have e3:(k+(P:Int)+x.name.length+2+1)=k+P+x.name.length+3:=by omega
   clear d0 B1
   go_wp2_with fail
   refine (WM _ x.ah (k+P+x.name.length+3) _ (HG.out _ C1).2.1 hx1 (by omega) (by omega)).mono ?_
   rintro e w2 ⟨rfl,B2⟩
   have C2:=Below.step C1 B2
   have hl2:b < w2.heap.size:=Nat.lt_of_lt_of_le hlb C2.size
   have d5:=(C2.cell (p:=⟨b,off+j * 7+5,none⟩) hlb).trans HD.out.2.2.2.2.1
   clear d1 d2 d3 d4 B2 C1 hl1 e2 e3
   go_wp2_with fail
   refine (WO _ x.au (k+P+x.name.length+3+dL x.ah) _ (HG.out _ C2).2.2 hx2 (by omega) (by omega)).mono ?_
   rintro e w3 ⟨rfl,B3⟩
   have C3:=Below.step C2 B3
   have hl3:b < w3.heap.size:=Nat.lt_of_lt_of_le hlb C3.size
   have d6:=(C3.cell (p:=⟨b,off+j * 7+6,none⟩) hlb).trans HD.out.2.2.2.2.2
   have HW3:Hid (Below w.heap.size w w3):=Below.step hW.out C3
   clear d5 B3 C2 C3 HG HD hl2
   go_wp2
   go_roundw
   case rel=>exact ⟨j+1,by omega,by go_num,by rw [hp1,hwt];go_num,HW3⟩
   case measure=>simp [intOf];omega
  ·go_wp2
   go_ret
   obtain rfl:j=l.length:=by omega
   exact ⟨rfl,hW.out⟩
/- What aj3 of package laws do of what was marked. -/
theorem agu (v:Value) (l:List Int) (k:Int) (w:World) (hv:dS w v (xA k l)) (hl:l.length≤2000000) (hk0:0≤k) (hk1:k≤100000000000) :
  Calls Tryz.prog 44 #[v,.int .i64 k] w fun e w'=>e=.returned (.int .i64 (k+ou l))∧Below w.heap.size w w':=by
 have HV:Hid (∀ wi,Below w.heap.size w wi→dS wi v (xA k l)):=fun wi h=>hv.below nP h
 obtain ⟨a,cap,rfl,hlc,hcm⟩:=hv.form
 have hlen:(xA k l).length=l.length:=tN
 rw [hlen] at hlc
 simp only [hlen] at HV ⊢
 clear hv
 have rU:=(show Hid _ from DC l)
 go_enter Tryz.func44,Tryz.ntmps44
 go_wp2
 go_loopw [1,5] (fun q i wr=>∃ j:Nat,j≤l.length∧i=.int .i64 j∧q=.int .i64 (k+(pre (bJ 0 nJ l) j:Nat))∧Hid (Below w.heap.size w wr)) (fun _ i _=>l.length - (intOf i).toNat)
 case atStart=>exact ⟨0,Nat.zero_le _,rfl,by simp [pre],Below.refl _ _⟩
 case round =>
  obtain ⟨j,hj,rfl,rfl,hW⟩:=hrel
  by_cases hlt:j < l.length
  ·obtain ⟨x,hx⟩:∃ x,l[j]?=some x:=⟨l[j],aK hlt⟩
   have hp1:pre (bJ 0 nJ l) (j+1)=pre (bJ 0 nJ l) j+1:=tQ hx
   have kG:pre (bJ 0 nJ l) j≤ou l:=tT (Nat.le_of_lt hlt)
   have hn:=tO (z:=0) (mk:=mkInt) (wt:=nJ) (k:=k) hx
   generalize pre (bJ 0 nJ l) j=P at kG hp1 hn
   have hP:(P:Int)≤4000000:=by have:=rU.out;omega
   obtain ⟨b,off,cap',hv',hlb,d0,-⟩:=dS.cell (HV.out wr hW.out) j _ hn
   simp only [hlen,Value.slice.injEq,true_and] at hv'
   obtain ⟨rfl,rfl⟩:=hv'
   simp only [mkInt] at d0
   clear hn hx
   go_wp2
   go_roundw
   case rel=>exact ⟨j+1,by omega,by go_num,by rw [hp1];go_num,hW⟩
   case measure=>simp [intOf];omega
  ·go_wp2
   go_ret
   obtain rfl:j=l.length:=by omega
   exact ⟨rfl,hW.out⟩
/- What aj4 of package laws do of what was marked. -/
theorem WQ (v:Value) (x:aJ) (k:Int) (w:World) (hv:dM w v (pU k x)) (hs:jf x.boxes≤2000000) (hl:x.seen.length≤2000000) (hk0:0≤k) (hk1:k≤1000000000) :
  Calls Tryz.prog 16 #[v,.int .i64 k] w fun e w'=>e=.returned (.int .i64 (k+kF x.boxes+ou x.seen))∧Below w.heap.size w w':=by
 obtain ⟨u0,u1,rfl,g0,g1,i0⟩:=hv
 have hb:kF x.boxes≤8000000:=by have:=Ar x.boxes;omega
 have HWI:Hid (ou x.seen≤2000000):=by have:=DC x.seen;unfold Hid;omega
 obtain ⟨a0,c0,rfl,-⟩:=g0.form
 obtain ⟨a1,c1,rfl,-⟩:=g1.form
 have HG:Hid (∀ wi,Below w.heap.size w wi→cK wi (.slice a0 (pU k x).boxes.length c0) (pU k x).boxes∧dS wi (.slice a1 (pU k x).seen.length c1) (pU k x).seen):=fun wi h=>⟨g0.below lq h,g1.below nP h⟩
 clear g0 g1
 generalize (pU k x).boxes.length=nb at HG
 generalize (pU k x).seen.length=ns at HG
 have HX:Hid (Below w.heap.size w (w.alloc (.cells #[.int .i64 (pU k x).valid,.slice a0 nb c0,.slice a1 ns c1] 33))):=bn _ _
 have HK:Hid ((w.alloc (.cells #[.int .i64 (pU k x).valid,.slice a0 nb c0,.slice a1 ns c1] 33)).heap[w.heap.size]?=some (.cells #[.int .i64 (pU k x).valid,.slice a0 nb c0,.slice a1 ns c1] 33)):=aV w _
 obtain ⟨f0,f1,f2⟩:=bD HK.out
 have hlA:=lt_of_heap HK.out
 go_enter Tryz.func16,Tryz.ntmps16
 go_wp2_with fail
 refine (agt _ x.boxes k _ (HG.out _ HX.out).1 hs hk0 (by omega)).mono ?_
 rintro e w1 ⟨rfl,B1⟩
 have C1:=Below.step HX.out B1
 have K1:=ay B1 HK.out
 clear f0 f1 f2 hlA B1 HK
 obtain ⟨f0,f1,f2⟩:=bD K1
 have hlA:=lt_of_heap K1
 go_wp2_with fail
 refine (agu _ x.seen (k+kF x.boxes) _ (HG.out _ C1).2 hl (by omega) (by omega)).mono ?_
 rintro e w2 ⟨rfl,B2⟩
 have HB2:Hid (Below w.heap.size w w2):=Below.step C1 B2
 clear f0 f1 f2 hlA K1 C1 B2 HG
 go_wp2
 go_ret
 exact ⟨rfl,HB2.out⟩
/- What aj6 of package laws does of what was marked. -/
theorem agv (v:Value) (x:aD) (k:Int) (w:World) (hv:bK w v (jN k x)) (hn:x.name.length≤2000000) (hs:dG x.ah≤2000000) (hl:x.au.length≤2000000) (hk0:0≤k) (hk1:k≤1000000000) :
  Calls Tryz.prog 45 #[v,.int .i64 k] w fun e w'=>e=.returned (.int .i64 (k+x.name.length+dL x.ah+fZ x.au))∧Below w.heap.size w w':=by
 obtain ⟨u0,u1,u2,rfl,g0,g1,g2,-⟩:=hv
 have hb:dL x.ah≤6000000:=by have:=zh x.ah;omega
 have hb2:fZ x.au≤4000000:=by have:=Aq x.au;omega
 obtain ⟨a0,n0,c0,rfl⟩:=g0.aG
 obtain ⟨a1,c1,rfl,-⟩:=g1.form
 obtain ⟨a2,c2,rfl,-⟩:=g2.form
 have HG:Hid (∀ wi,Below w.heap.size w wi→Bs wi (.slice a0 n0 c0) (jN k x).name∧bY wi (.slice a1 (jN k x).ah.length c1) (jN k x).ah∧bO wi (.slice a2 (jN k x).au.length c2) (jN k x).au):=fun wi h=>⟨g0.below h,g1.below eU h,g2.below dY h⟩
 clear g0 g1 g2
 generalize (jN k x).ah.length=nb at HG
 generalize (jN k x).au.length=ns at HG
 have HX:Hid (Below w.heap.size w (w.alloc (.cells #[.slice a0 n0 c0,.int .i64 (jN k x).valid,.int .i64 (jN k x).next,.int .i64 (jN k x).seq,.slice a1 nb c1,.slice a2 ns c2,.int .i64 (jN k x).lost] 37))):=bn _ _
 have HK:Hid _:=aV w (.cells #[.slice a0 n0 c0,.int .i64 (jN k x).valid,.int .i64 (jN k x).next,.int .i64 (jN k x).seq,.slice a1 nb c1,.slice a2 ns c2,.int .i64 (jN k x).lost] 37)
 obtain ⟨f0,f1,f2,f3,f4,f5,f6⟩:=bF HK.out
 have hlA:=lt_of_heap HK.out
 go_enter Tryz.func45,Tryz.ntmps45
 go_wp2_with fail
 refine (FL _ x.name.length k _ (HG.out _ HX.out).1 (by omega) (by omega) (by omega)).mono ?_
 rintro e w1 ⟨rfl,B1⟩
 have C1:=Below.step HX.out B1
 have K1:=ay B1 HK.out
 clear f0 f1 f2 f3 f4 f5 f6 hlA B1 HK
 obtain ⟨f0,f1,f2,f3,f4,f5,f6⟩:=bF K1
 have hlA:=lt_of_heap K1
 go_wp2_with fail
 refine (WM _ x.ah (k+x.name.length) _ (HG.out _ C1).2.1 hs (by omega) (by omega)).mono ?_
 rintro e w2 ⟨rfl,B2⟩
 have C2:=Below.step C1 B2
 have K2:=ay B2 K1
 clear f0 f1 f2 f3 f4 f5 f6 hlA B2 K1 C1
 obtain ⟨f0,f1,f2,f3,f4,f5,f6⟩:=bF K2
 have hlA:=lt_of_heap K2
 go_wp2_with fail
 refine (WO _ x.au (k+x.name.length+dL x.ah) _ (HG.out _ C2).2.2 hl (by omega) (by omega)).mono ?_
 rintro e w3 ⟨rfl,B3⟩
 have HB3:Hid (Below w.heap.size w w3):=Below.step C2 B3
 clear f0 f1 f2 f3 f4 f5 f6 hlA K2 C2 B3 HG
 go_wp2
 go_ret
 exact ⟨rfl,HB3.out⟩
/- What aj7, aj8 of package laws do of what was marked. -/
theorem agw (v:Value) (l:List (List Int)) (k:Int) (w:World) (hv:mQ w v (um k l)) (hs:oM l≤2000000) (hk0:0≤k) (hk1:k≤100000000000) :
  Calls Tryz.prog 46 #[v,.int .i64 k] w fun e w'=>e=.returned (.int .i64 (k+qO l))∧Below w.heap.size w w':=by
 have HV:Hid (∀ wi,Below w.heap.size w wi→mQ wi v (um k l)):=fun wi h=>hv.below BJ h
 obtain ⟨a,cap,rfl,hlc,hcm⟩:=hv.form
 have hlen:(um k l).length=l.length:=tN
 rw [hlen] at hlc
 simp only [hlen] at HV ⊢
 clear hv
 have hl:l.length≤2000000:=Nat.le_trans (Pw l) hs
 have rU:Hid (qO l≤2000000):=by have:=Ou l;unfold Hid;omega
 go_enter Tryz.func46,Tryz.ntmps46
 go_wp2
 go_loopw [1,5] (fun q i wr=>∃ j:Nat,j≤l.length∧i=.int .i64 j∧q=.int .i64 (k+(pre (bJ [] nO l) j:Nat))∧Hid (Below w.heap.size w wr)) (fun _ i _=>l.length - (intOf i).toNat)
 case atStart=>exact ⟨0,Nat.zero_le _,rfl,by simp [pre],Below.refl _ _⟩
 case round =>
  obtain ⟨j,hj,rfl,rfl,hW⟩:=hrel
  by_cases hlt:j < l.length
  ·obtain ⟨x,hx⟩:∃ x,l[j]?=some x:=⟨l[j],aK hlt⟩
   have hp1:pre (bJ [] nO l) (j+1)=pre (bJ [] nO l) j+x.length:=tQ hx
   have kG:pre (bJ [] nO l) (j+1)≤qO l:=tT hlt
   have hn:=tO (z:=[]) (mk:=mkName) (wt:=nO) (k:=k) hx
   generalize pre (bJ [] nO l) j=P at kG hp1 hn
   have hP:(P:Int)≤2000000:=by have:=rU.out;omega
   have hxt:x.length≤2000000:=by have:=Pv (List.mem_of_getElem? hx);omega
   obtain ⟨b,off,cap',u,hv',hlb,d0,hu⟩:=mQ.cell (HV.out wr hW.out) j _ hn
   simp only [hlen,Value.slice.injEq,true_and] at hv'
   obtain ⟨rfl,rfl⟩:=hv'
   obtain ⟨ua,un,uc,rfl⟩:=hu.aG
   have HU:Hid (Bs wr (.slice ua un uc) (marks (k+P) x.length)):=hu
   clear hn hx hu
   go_wp2_with fail
   refine (FL _ x.length (k+P) _ HU.out hxt (by omega) (by omega)).mono ?_
   rintro e w2 ⟨rfl,B2⟩
   have HW2:Hid (Below w.heap.size w w2):=Below.step hW.out B2
   clear B2 d0 HU
   go_wp2
   go_roundw
   case rel=>exact ⟨j+1,by omega,by go_num,by rw [hp1];go_num,HW2⟩
   case measure=>simp [intOf];omega
  ·go_wp2
   go_ret
   obtain rfl:j=l.length:=by omega
   exact ⟨rfl,hW.out⟩
theorem WR (v:Value) (x:cO) (k:Int) (w:World) (hv:iO w v (oG k x)) (hn:x.box.name.length≤2000000) (hm:dG x.box.ah≤2000000) (hg:x.box.au.length≤2000000) (hN:oM x.names≤2000000) (hk0:0≤k) (hk1:k≤100000000) :
  Calls Tryz.prog 17 #[v,.int .i64 k] w fun e w'=>e=.returned (.int .i64 (k+x.box.name.length+dL x.box.ah+fZ x.box.au+qO x.names))∧Below w.heap.size w w':=by
 have hb:dL x.box.ah≤6000000:=by have:=zh x.box.ah;omega
 have hb2:fZ x.box.au≤4000000:=by have:=Aq x.box.au;omega
 have HWN:Hid (qO x.names≤2000000):=by have:=Ou x.names;unfold Hid;omega
 obtain ⟨a0,n0,c0,a1,c1,a2,c2,a3,c3,rfl⟩:=hv.form
 obtain ⟨hbx,hnm,-⟩:=hv.parts
 have HM:Hid (∀ wi,Below w.heap.size w wi→bK wi (.agg #[.slice a0 n0 c0,.int .i64 (oG k x).box.valid,.int .i64 (oG k x).box.next,.int .i64 (oG k x).box.seq,.slice a1 (oG k x).box.ah.length c1,.slice a2 (oG k x).box.au.length c2,.int .i64 (oG k x).box.lost]) (jN k x.box)∧mQ wi (.slice a3 (oG k x).names.length c3) (um (k+x.box.name.length+dL x.box.ah+fZ x.box.au) x.names)):=fun wi h=>⟨hbx.below h,hnm.below BJ h⟩
 clear hbx hnm hv
 generalize (oG k x).box.ah.length=m1 at HM ⊢
 generalize (oG k x).box.au.length=m2 at HM ⊢
 generalize (oG k x).names.length=m3 at HM ⊢
 generalize oG k x=r at HM ⊢
 have HX:Hid (Below w.heap.size w (w.alloc (.cells #[.int .i64 r.code,.int .i64 r.num,.slice a0 n0 c0,.int .i64 r.box.valid,.int .i64 r.box.next,.int .i64 r.box.seq,.slice a1 m1 c1,.slice a2 m2 c2,.int .i64 r.box.lost,.slice a3 m3 c3] 40))):=bn _ _
 have HK:Hid _:=aV w (.cells #[.int .i64 r.code,.int .i64 r.num,.slice a0 n0 c0,.int .i64 r.box.valid,.int .i64 r.box.next,.int .i64 r.box.seq,.slice a1 m1 c1,.slice a2 m2 c2,.int .i64 r.box.lost,.slice a3 m3 c3] 40)
 obtain ⟨f0,f1,f2,f3,f4,f5,f6,f7,f8,f9⟩:=aM HK.out
 have hlA:=lt_of_heap HK.out
 go_enter Tryz.func17,Tryz.ntmps17
 go_wp2_with fail
 refine (agv _ x.box k _ (HM.out _ HX.out).1 hn hm hg hk0 (by omega)).mono ?_
 rintro e w1 ⟨rfl,B1⟩
 have C1:=Below.step HX.out B1
 have K1:=ay B1 HK.out
 clear f0 f1 f2 f3 f4 f5 f6 f7 f8 f9 hlA B1 HK
 obtain ⟨f0,f1,f2,f3,f4,f5,f6,f7,f8,f9⟩:=aM K1
 have hlA:=lt_of_heap K1
 go_wp2_with fail
 refine (agw _ x.names _ _ (HM.out _ C1).2 hN (by omega) (by omega)).mono ?_
 rintro e w2 ⟨rfl,B2⟩
 have HB2:Hid (Below w.heap.size w w2):=Below.step C1 B2
 clear f0 f1 f2 f3 f4 f5 f6 f7 f8 f9 hlA K1 C1 B2 HM
 have:=HWN.out
 go_wp2
 go_ret
 exact ⟨rfl,HB2.out⟩
/- What aj9, akb, akc of package laws do. -/
theorem agy (v:Value) (l:List Int) (left:Int) (w:World) (hv:dS w v l) (h0:0≤left) (h1:left≤4000000) :
  Calls Tryz.prog 19 #[v,.int .i64 left] w fun e w'=>∃ y:Int,e=.returned (.int .i64 y)∧(y = -1∨(0≤y∧y+l.length=left))∧Below w.heap.size w w':=by
 obtain ⟨a,cap,rfl,hlc,hcm⟩:=hv.form
 clear hv
 by_cases hb:left - (l.length:Int) < 0
 ·go_enter Tryz.func19,Tryz.ntmps19
  go_wp2
  go_ret
  exact ⟨-1,rfl,.inl rfl,Below.refl _ _⟩
 ·go_enter Tryz.func19,Tryz.ntmps19
  go_wp2
  go_ret
  exact ⟨left - l.length,rfl,.inr ⟨by omega,by omega⟩,Below.refl _ _⟩
theorem agz (v:Value) (l:List aD) (left:Int) (w:World) (hv:cK w v l) (h0:0≤left) (h1:left≤4000000) :
  Calls Tryz.prog 18 #[v,.int .i64 left] w fun e w'=>∃ y:Int,e=.returned (.int .i64 y)∧(y = -1∨(0≤y∧y+jf l=left))∧Below w.heap.size w w':=by
 have HV:Hid (∀ wi,Below w.heap.size w wi→cK wi v l):=fun wi h=>hv.below lq h
 obtain ⟨a,cap,rfl,hlc,hcm⟩:=hv.form
 clear hv
 by_cases hb:left - (l.length:Int) < 0
 ·go_enter Tryz.func18,Tryz.ntmps18
  go_wp2
  go_ret
  exact ⟨-1,rfl,.inl rfl,Below.refl _ _⟩
 ·go_enter Tryz.func18,Tryz.ntmps18
  go_wp2
  go_loopw [1,5] (fun q i wr=>∃ (k:Nat) (y:Int),k≤l.length∧i=.int .i64 k∧q=.int .i64 y∧0≤y∧Hid (y+l.length+tot (bA) (l.take k)=left)∧Hid (Below w.heap.size w wr)) (fun _ i _=>l.length - (intOf i).toNat)
  case atStart=>exact ⟨0,left - l.length,Nat.zero_le _,rfl,rfl,by omega,(show Hid _ from by simp [Hid,tot]),Below.refl _ _⟩
  case round =>
   obtain ⟨k,y,hk,rfl,rfl,hy0,hy1,hB⟩:=hrel
   by_cases hlt:k < l.length
   ·obtain ⟨x,hx⟩:∃ x,l[k]?=some x:=⟨l[k],aK hlt⟩
    obtain ⟨b,off,cap',u0,u1,u2,hv',hlb,d0,d1,d2,d3,d4,d5,d6,hu0,hu1,hu2,i0,i1,i2,i3⟩:=cK.cell (HV.out wr hB.out) k x hx
    simp only [Value.slice.injEq,true_and] at hv'
    obtain ⟨rfl,rfl⟩:=hv'
    obtain ⟨ua,un,uc,rfl⟩:=hu0.aG
    obtain ⟨va,vc,rfl,-⟩:=hu1.form
    obtain ⟨wa,wc,rfl,-⟩:=hu2.form
    have HT:Hid (tot (bA) (l.take (k+1))=tot (bA) (l.take k)+(bA) x):=Ry _ hx
    go_wp2_with fail
    refine (aaJ _ x _ _ ⟨_,_,_,rfl,hu0,hu1,hu2,i0,i1,i2,i3⟩ hy0 (by have:=hy1.out;omega)).mono ?_
    rintro e w2 ⟨y2,rfl,hy2,B⟩
    have HB2:Hid (Below w.heap.size w w2):=Below.step hB.out B
    clear B hB d0 d1 d2 d3 d4 d5 d6
    rcases hy2 with rfl | ⟨q0,q1⟩
    ·go_wp2
     go_ret
     exact ⟨-1,rfl,.inl rfl,HB2.out⟩
    ·have HE:Hid (y2+l.length+tot (bA) (l.take (k+1))=left):=by
      have h1:=HT.out
      have h2:=hy1.out
      simp only [Hid]
      omega
     clear q1
     go_wp2
     go_roundw
     case rel=>exact ⟨k+1,y2,by omega,by go_num,rfl,q0,HE,HB2⟩
     case measure=>simp [intOf];omega
   ·obtain rfl:k=l.length:=by omega
    go_wp2
    go_ret
    refine ⟨y,rfl,.inr ⟨hy0,?_⟩,hB.out⟩
    have h2:=hy1.out
    rw [List.take_length] at h2
    have h3:=aaF l
    omega
theorem agA (v:Value) (x:aJ) (left:Int) (w:World) (hv:dM w v x) (h0:0≤left) (h1:left≤4000000) :
  Calls Tryz.prog 4 #[v,.int .i64 left] w fun e w'=>∃ y:Int,e=.returned (.int .i64 y)∧(y = -1∨(0≤y∧y+(jf x.boxes+x.seen.length:Nat)=left))∧Below w.heap.size w w':=by
 obtain ⟨u0,u1,rfl,g0,g1,-⟩:=hv
 obtain ⟨valid,boxes,seen⟩:=x
 simp only at g0 g1
 have H0:Hid (∀ wi,Below w.heap.size w wi→cK wi u0 boxes∧dS wi u1 seen):=fun wi h=>⟨g0.below lq h,g1.below nP h⟩
 obtain ⟨a0,c0,rfl,-⟩:=g0.form
 obtain ⟨a1,c1,rfl,-⟩:=g1.form
 clear g0 g1
 simp only
 have X:Below w.heap.size w (w.alloc (.cells #[.int .i64 valid,.slice a0 boxes.length c0,.slice a1 seen.length c1] 25)):=bn _ _
 have kA:=aV w (.cells #[.int .i64 valid,.slice a0 boxes.length c0,.slice a1 seen.length c1] 25)
 go_enter Tryz.func4,Tryz.ntmps4
 go_wp2_with fail
 refine (agz _ boxes left _ (H0.out _ X).1 h0 h1).mono ?_
 rintro e w1 ⟨y0,rfl,hy,B⟩
 replace X:=Below.step X B
 replace kA:=ay B kA
 clear B
 obtain ⟨f0,f1,f2⟩:=bD kA
 rcases hy with rfl | ⟨q0,p0⟩
 ·go_wp2
  go_ret
  exact ⟨-1,rfl,.inl rfl,X⟩
 go_wp2_with fail
 clear f0 f1 f2
 refine (agy _ seen y0 _ (H0.out _ X).2 q0 (by omega)).mono ?_
 rintro e w2 ⟨y1,rfl,hy,B⟩
 replace X:=Below.step X B
 replace kA:=ay B kA
 clear B
 obtain ⟨f0,f1,f2⟩:=bD kA
 rcases hy with rfl | ⟨q1,p1⟩
 ·go_wp2
  go_ret
  exact ⟨-1,rfl,.inl rfl,X⟩
 go_wp2
 go_ret
 exact ⟨y1,rfl,.inr ⟨q1,by omega⟩,X⟩
/- What akd, ake, akf, akg, akh of package laws do. -/
theorem agB (v u:Value) (x:aF) (w:World) (hv:gK w v x) (hu:gK w u x) :
  Calls Tryz.prog 124 #[v,u] w fun e w'=>e=.returned (.bool true)∧Below w.heap.size w w':=by
 obtain ⟨u0,rfl,g0,-⟩:=hv
 obtain ⟨u1,rfl,g1,-⟩:=hu
 obtain ⟨uid,flags,seq,text⟩:=x
 simp only at g0 g1
 have H0:Hid (∀ wi,Below w.heap.size w wi→Bs wi u0 text∧Bs wi u1 text):=fun wi h=>⟨g0.below h,g1.below h⟩
 obtain ⟨a0,n0,c0,rfl⟩:=g0.aG
 obtain ⟨a1,n1,c1,rfl⟩:=g1.aG
 clear g0 g1
 simp only
 obtain ⟨kA,kB,X⟩:=gJ w (.cells #[.int .i64 uid,.int .i64 flags,.int .i64 seq,.slice a0 n0 c0] 124) (.cells #[.int .i64 uid,.int .i64 flags,.int .i64 seq,.slice a1 n1 c1] 124)
 go_enter Tryz.func124,Tryz.ntmps124
 go_wp2_with fail
 refine (zN _ _ text _ (H0.out _ X).1 (H0.out _ X).2).mono ?_
 rintro e w1 ⟨rfl,B⟩
 replace X:=Below.step X B
 replace kA:=ay B kA
 replace kB:=ay B kB
 clear B
 obtain ⟨f0,f1,f2,f3⟩:=gF kA
 obtain ⟨e0,e1,e2,e3⟩:=gF kB
 go_wp2
 go_ret
 exact ⟨rfl,X⟩
theorem agC (v u:Value) (l:List aF) (w:World) (hv:bY w v l) (hu:bY w u l) :
  Calls Tryz.prog 87 #[v,u] w fun e w'=>e=.returned (.bool true)∧Below w.heap.size w w':=by
 have HV:Hid (∀ wi,Below w.heap.size w wi→bY wi v l∧bY wi u l):=fun wi h=>⟨hv.below eU h,hu.below eU h⟩
 obtain ⟨a,cap,rfl,hlc,hcm⟩:=hv.form
 obtain ⟨a2,cap2,rfl,CP,hcm2⟩:=hu.form
 clear hv hu
 go_enter Tryz.func87,Tryz.ntmps87
 go_wp2
 go_loopw [5] (fun i wr=>∃ k:Nat,k≤l.length∧i=.int .i64 k∧Hid (Below w.heap.size w wr)) (fun i _=>l.length - (intOf i).toNat)
 case atStart=>exact ⟨0,Nat.zero_le _,rfl,Below.refl _ _⟩
 case round =>
  obtain ⟨k,hk,rfl,hB⟩:=hrel
  by_cases hlt:k < l.length
  ·obtain ⟨x,hx⟩:∃ x,l[k]?=some x:=⟨l[k],aK hlt⟩
   have DR:Below wr.heap.size wr wr.drew:=bd _ _
   obtain ⟨b,off,cap',u,hv',hlb,d0,d1,d2,d3,hu,i0,i1,i2⟩:=bY.cell (HV.out wr hB.out).1 k x hx
   obtain ⟨b2,off2,Gw,u2,hv2,gB,z0,z1,z2,z3,hu2,j0,j1,j2⟩:=bY.cell (HV.out wr hB.out).2 k x hx
   simp only [Value.slice.injEq,true_and] at hv' hv2
   obtain ⟨rfl,rfl⟩:=hv'
   obtain ⟨rfl,rfl⟩:=hv2
   obtain ⟨ua,un,uc,rfl⟩:=hu.aG
   obtain ⟨ta,tn,tc,rfl⟩:=hu2.aG
   have HA:Hid (gK wr.drew (.agg #[.int .i64 x.uid,.int .i64 x.flags,.int .i64 x.seq,.slice ua un uc]) x∧gK wr.drew (.agg #[.int .i64 x.uid,.int .i64 x.flags,.int .i64 x.seq,.slice ta tn tc]) x):=⟨⟨_,rfl,hu.below DR,i0,i1,i2⟩,⟨_,rfl,hu2.below DR,j0,j1,j2⟩⟩
   go_wp2
   go_region_held3 (fun w'=>w'.cell? ⟨b,off+k * 4,none⟩=some (.int .i64 x.uid)∧w'.cell? ⟨b,off+k * 4+1,none⟩=some (.int .i64 x.flags)∧w'.cell? ⟨b,off+k * 4+2,none⟩=some (.int .i64 x.seq)∧w'.cell? ⟨b,off+k * 4+3,none⟩=some (.slice ua un uc)∧w'.cell? ⟨b2,off2+k * 4,none⟩=some (.int .i64 x.uid)∧w'.cell? ⟨b2,off2+k * 4+1,none⟩=some (.int .i64 x.flags)∧w'.cell? ⟨b2,off2+k * 4+2,none⟩=some (.int .i64 x.seq)∧w'.cell? ⟨b2,off2+k * 4+3,none⟩=some (.slice ta tn tc))
    (first | go_keep | exact ⟨d0,d1,d2,d3,z0,z1,z2,z3⟩ | exact ⟨(B.cell (p:=⟨_,_,none⟩) (by exact hlb)).trans d0,(B.cell (p:=⟨_,_,none⟩) (by exact hlb)).trans d1,(B.cell (p:=⟨_,_,none⟩) (by exact hlb)).trans d2,(B.cell (p:=⟨_,_,none⟩) (by exact hlb)).trans d3,(B.cell (p:=⟨_,_,none⟩) (by exact gB)).trans z0,(B.cell (p:=⟨_,_,none⟩) (by exact gB)).trans z1,(B.cell (p:=⟨_,_,none⟩) (by exact gB)).trans z2,(B.cell (p:=⟨_,_,none⟩) (by exact gB)).trans z3⟩)
    ((go_at_call 124;refine (agB _ _ x _ HA.out.1 HA.out.2).mono ?_;rintro e w1 ⟨rfl,B⟩))
   have HB2:Hid (Below w.heap.size w w1):=Below.step (Below.step hB.out DR) B
   clear d0 d1 d2 d3 z0 z1 z2 z3 B hB
   go_wp2
   go_roundw
   case rel=>exact ⟨k+1,by omega,by go_num,HB2⟩
   case measure=>simp [intOf];omega
  ·go_wp2
   go_ret
   exact ⟨rfl,hB.out⟩
theorem agD (v u:Value) (x:bf) (w:World) (hv:v=.agg #[.int .i64 x.uid,.int .i64 x.seq]) (hu:u=.agg #[.int .i64 x.uid,.int .i64 x.seq]) :
  Calls Tryz.prog 125 #[v,u] w fun e w'=>e=.returned (.bool true)∧Below w.heap.size w w':=by
 subst hv
 subst hu
 obtain ⟨uid,seq⟩:=x
 simp only
 obtain ⟨kA,kB,X⟩:=gJ w (.cells #[.int .i64 uid,.int .i64 seq] 126) (.cells #[.int .i64 uid,.int .i64 seq] 126)
 go_enter Tryz.func125,Tryz.ntmps125
 go_wp2
 go_ret
 exact ⟨rfl,X⟩
theorem agE (v u:Value) (l:List bf) (w:World) (hv:bO w v l) (hu:bO w u l) :
  Calls Tryz.prog 88 #[v,u] w fun e w'=>e=.returned (.bool true)∧Below w.heap.size w w':=by
 have HV:Hid (∀ wi,Below w.heap.size w wi→bO wi v l∧bO wi u l):=fun wi h=>⟨hv.below dY h,hu.below dY h⟩
 obtain ⟨a,cap,rfl,hlc,hcm⟩:=hv.form
 obtain ⟨a2,cap2,rfl,CP,hcm2⟩:=hu.form
 clear hv hu
 go_enter Tryz.func88,Tryz.ntmps88
 go_wp2
 go_loopw [5] (fun i wr=>∃ k:Nat,k≤l.length∧i=.int .i64 k∧Hid (Below w.heap.size w wr)) (fun i _=>l.length - (intOf i).toNat)
 case atStart=>exact ⟨0,Nat.zero_le _,rfl,Below.refl _ _⟩
 case round =>
  obtain ⟨k,hk,rfl,hB⟩:=hrel
  by_cases hlt:k < l.length
  ·obtain ⟨x,hx⟩:∃ x,l[k]?=some x:=⟨l[k],aK hlt⟩
   have DR:Below wr.heap.size wr wr.drew:=bd _ _
   obtain ⟨b,off,cap',hv',hlb,d0,d1,i0,i1⟩:=bO.cell (HV.out wr hB.out).1 k x hx
   obtain ⟨b2,off2,Gw,hv2,gB,z0,z1,j0,j1⟩:=bO.cell (HV.out wr hB.out).2 k x hx
   simp only [Value.slice.injEq,true_and] at hv' hv2
   obtain ⟨rfl,rfl⟩:=hv'
   obtain ⟨rfl,rfl⟩:=hv2
   have HA:Hid (True):=trivial
   go_wp2
   go_region_held3 (fun w'=>w'.cell? ⟨b,off+k * 2,none⟩=some (.int .i64 x.uid)∧w'.cell? ⟨b,off+k * 2+1,none⟩=some (.int .i64 x.seq)∧w'.cell? ⟨b2,off2+k * 2,none⟩=some (.int .i64 x.uid)∧w'.cell? ⟨b2,off2+k * 2+1,none⟩=some (.int .i64 x.seq))
    (first | go_keep | exact ⟨d0,d1,z0,z1⟩ | exact ⟨(B.cell (p:=⟨_,_,none⟩) (by exact hlb)).trans d0,(B.cell (p:=⟨_,_,none⟩) (by exact hlb)).trans d1,(B.cell (p:=⟨_,_,none⟩) (by exact gB)).trans z0,(B.cell (p:=⟨_,_,none⟩) (by exact gB)).trans z1⟩)
    ((go_at_call 125;refine (agD _ _ x _ rfl rfl).mono ?_;rintro e w1 ⟨rfl,B⟩))
   have HB2:Hid (Below w.heap.size w w1):=Below.step (Below.step hB.out DR) B
   clear d0 d1 z0 z1 B hB
   go_wp2
   go_roundw
   case rel=>exact ⟨k+1,by omega,by go_num,HB2⟩
   case measure=>simp [intOf];omega
  ·go_wp2
   go_ret
   exact ⟨rfl,hB.out⟩
theorem WS (v u:Value) (x:aD) (w:World) (hv:bK w v x) (hu:bK w u x) :
  Calls Tryz.prog 35 #[v,u] w fun e w'=>e=.returned (.bool true)∧Below w.heap.size w w':=by
 obtain ⟨u0,u1,u2,rfl,g0,g1,g2,-⟩:=hv
 obtain ⟨u3,u4,u5,rfl,g3,g4,g5,-⟩:=hu
 obtain ⟨name,valid,next,seq,ah,au,lost⟩:=x
 simp only at g0 g1 g2 g3 g4 g5
 have H0:Hid (∀ wi,Below w.heap.size w wi→(Bs wi u0 name∧Bs wi u3 name)∧(bY wi u1 ah∧bY wi u4 ah)∧(bO wi u2 au∧bO wi u5 au)):=fun wi h=>⟨⟨g0.below h,g3.below h⟩,⟨g1.below eU h,g4.below eU h⟩,⟨g2.below dY h,g5.below dY h⟩⟩
 obtain ⟨a0,n0,c0,rfl⟩:=g0.aG
 obtain ⟨a1,c1,rfl,-⟩:=g1.form
 obtain ⟨a2,c2,rfl,-⟩:=g2.form
 obtain ⟨a3,n3,c3,rfl⟩:=g3.aG
 obtain ⟨a4,c4,rfl,-⟩:=g4.form
 obtain ⟨a5,c5,rfl,-⟩:=g5.form
 clear g0 g1 g2 g3 g4 g5
 simp only
 obtain ⟨kA,kB,X⟩:=gJ w (.cells #[.slice a0 n0 c0,.int .i64 valid,.int .i64 next,.int .i64 seq,.slice a1 ah.length c1,.slice a2 au.length c2,.int .i64 lost] 37) (.cells #[.slice a3 n3 c3,.int .i64 valid,.int .i64 next,.int .i64 seq,.slice a4 ah.length c4,.slice a5 au.length c5,.int .i64 lost] 37)
 go_enter Tryz.func35,Tryz.ntmps35
 go_wp2_with fail
 refine (zN _ _ name _ (H0.out _ X).1.1 (H0.out _ X).1.2).mono ?_
 rintro e w1 ⟨rfl,B⟩
 replace X:=Below.step X B
 replace kA:=ay B kA
 replace kB:=ay B kB
 clear B
 obtain ⟨f0,f1,f2,f3,f4,f5,f6⟩:=bF kA
 obtain ⟨e0,e1,e2,e3,e4,e5,e6⟩:=bF kB
 go_wp2_with fail
 clear f0 e0 f1 e1 f2 e2 f3 e3 f4 e4 f5 e5 f6 e6
 refine (agC _ _ ah _ (H0.out _ X).2.1.1 (H0.out _ X).2.1.2).mono ?_
 rintro e w2 ⟨rfl,B⟩
 replace X:=Below.step X B
 replace kA:=ay B kA
 replace kB:=ay B kB
 clear B
 obtain ⟨f0,f1,f2,f3,f4,f5,f6⟩:=bF kA
 obtain ⟨e0,e1,e2,e3,e4,e5,e6⟩:=bF kB
 go_wp2_with fail
 clear f0 e0 f1 e1 f2 e2 f3 e3 f4 e4 f5 e5 f6 e6
 refine (agE _ _ au _ (H0.out _ X).2.2.1 (H0.out _ X).2.2.2).mono ?_
 rintro e w3 ⟨rfl,B⟩
 replace X:=Below.step X B
 replace kA:=ay B kA
 replace kB:=ay B kB
 clear B
 obtain ⟨f0,f1,f2,f3,f4,f5,f6⟩:=bF kA
 obtain ⟨e0,e1,e2,e3,e4,e5,e6⟩:=bF kB
 go_wp2
 go_ret
 exact ⟨rfl,X⟩
end Go.Proofs.YtlneebmlhblleaaGreat
