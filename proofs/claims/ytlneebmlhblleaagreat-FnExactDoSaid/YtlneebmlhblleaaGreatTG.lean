/- The proof's texts, part 42. -/
import Derived.Test.YtlneebmlhblleaaGreatTF
namespace Go.Proofs.YtlneebmlhblleaaGreat
open Go.RowKit
set_option linter.unusedVariables false
set_option maxHeartbeats 2000000
set_option maxRecDepth 100000
/- What aki, akj, akk of package laws do. -/
theorem agF (v u:Value) (l:List Int) (w:World) (hv:dS w v l) (hu:dS w u l) :
  Calls Tryz.prog 34 #[v,u] w fun e w'=>e=.returned (.bool true)∧Below w.heap.size w w':=by
 have HV:Hid (∀ wi,Below w.heap.size w wi→dS wi v l∧dS wi u l):=fun wi h=>⟨hv.below nP h,hu.below nP h⟩
 obtain ⟨a,cap,rfl,hlc,hcm⟩:=hv.form
 obtain ⟨a2,cap2,rfl,CP,hcm2⟩:=hu.form
 clear hv hu
 go_enter Tryz.func34,Tryz.ntmps34
 go_wp2
 go_loopw [5] (fun i wr=>∃ k:Nat,k≤l.length∧i=.int .i64 k∧Hid (Below w.heap.size w wr)) (fun i _=>l.length - (intOf i).toNat)
 case atStart=>exact ⟨0,Nat.zero_le _,rfl,Below.refl _ _⟩
 case round =>
  obtain ⟨k,hk,rfl,hB⟩:=hrel
  by_cases hlt:k < l.length
  ·obtain ⟨x,hx⟩:∃ x,l[k]?=some x:=⟨l[k],aK hlt⟩
   obtain ⟨b,off,cap',hv',hlb,d0,i0⟩:=dS.cell (HV.out wr hB.out).1 k x hx
   obtain ⟨b2,off2,Gw,hv2,gB,z0,j0⟩:=dS.cell (HV.out wr hB.out).2 k x hx
   simp only [Value.slice.injEq,true_and] at hv' hv2
   obtain ⟨rfl,rfl⟩:=hv'
   obtain ⟨rfl,rfl⟩:=hv2
   go_wp2
   go_quiet (fail)
   go_wp2
   go_roundw
   case rel=>exact ⟨k+1,by omega,by go_num,below_drewN _ hB.out⟩
   case measure=>simp [intOf];omega
  ·go_wp2
   go_ret
   exact ⟨rfl,hB.out⟩
theorem agG (v u:Value) (l:List aD) (w:World) (hv:cK w v l) (hu:cK w u l) :
  Calls Tryz.prog 33 #[v,u] w fun e w'=>e=.returned (.bool true)∧Below w.heap.size w w':=by
 have HV:Hid (∀ wi,Below w.heap.size w wi→cK wi v l∧cK wi u l):=fun wi h=>⟨hv.below lq h,hu.below lq h⟩
 obtain ⟨a,cap,rfl,hlc,hcm⟩:=hv.form
 obtain ⟨a2,cap2,rfl,CP,hcm2⟩:=hu.form
 clear hv hu
 go_enter Tryz.func33,Tryz.ntmps33
 go_wp2
 go_loopw [5] (fun i wr=>∃ k:Nat,k≤l.length∧i=.int .i64 k∧Hid (Below w.heap.size w wr)) (fun i _=>l.length - (intOf i).toNat)
 case atStart=>exact ⟨0,Nat.zero_le _,rfl,Below.refl _ _⟩
 case round =>
  obtain ⟨k,hk,rfl,hB⟩:=hrel
  by_cases hlt:k < l.length
  ·obtain ⟨x,hx⟩:∃ x,l[k]?=some x:=⟨l[k],aK hlt⟩
   have DR:Below wr.heap.size wr wr.drew:=bd _ _
   obtain ⟨b,off,cap',u0,u1,u2,hv',hlb,d0,d1,d2,d3,d4,d5,d6,hu0,hu1,hu2,i0,i1,i2,i3⟩:=cK.cell (HV.out wr hB.out).1 k x hx
   obtain ⟨b2,off2,Gw,u3,u4,u5,hv2,gB,z0,z1,z2,z3,z4,z5,z6,hu3,WT,WU,j0,j1,j2,j3⟩:=cK.cell (HV.out wr hB.out).2 k x hx
   simp only [Value.slice.injEq,true_and] at hv' hv2
   obtain ⟨rfl,rfl⟩:=hv'
   obtain ⟨rfl,rfl⟩:=hv2
   obtain ⟨ua,un,uc,rfl⟩:=hu0.aG
   obtain ⟨va,vc,rfl,-⟩:=hu1.form
   obtain ⟨wa,wc,rfl,-⟩:=hu2.form
   obtain ⟨ra,rn,rc,rfl⟩:=hu3.aG
   obtain ⟨sa,sc,rfl,-⟩:=WT.form
   obtain ⟨ta,tc,rfl,-⟩:=WU.form
   have HA:Hid (bK wr.drew (.agg #[.slice ua un uc,.int .i64 x.valid,.int .i64 x.next,.int .i64 x.seq,.slice va x.ah.length vc,.slice wa x.au.length wc,.int .i64 x.lost]) x∧bK wr.drew (.agg #[.slice ra rn rc,.int .i64 x.valid,.int .i64 x.next,.int .i64 x.seq,.slice sa x.ah.length sc,.slice ta x.au.length tc,.int .i64 x.lost]) x):=⟨⟨_,_,_,rfl,hu0.below DR,hu1.below eU DR,hu2.below dY DR,i0,i1,i2,i3⟩,⟨_,_,_,rfl,hu3.below DR,WT.below eU DR,WU.below dY DR,j0,j1,j2,j3⟩⟩
   go_wp2
   go_region_held3 (fun w'=>w'.cell? ⟨b,off+k * 7,none⟩=some (.slice ua un uc)∧w'.cell? ⟨b,off+k * 7+1,none⟩=some (.int .i64 x.valid)∧w'.cell? ⟨b,off+k * 7+2,none⟩=some (.int .i64 x.next)∧w'.cell? ⟨b,off+k * 7+3,none⟩=some (.int .i64 x.seq)∧w'.cell? ⟨b,off+k * 7+4,none⟩=some (.slice va x.ah.length vc)∧w'.cell? ⟨b,off+k * 7+5,none⟩=some (.slice wa x.au.length wc)∧w'.cell? ⟨b,off+k * 7+6,none⟩=some (.int .i64 x.lost)∧w'.cell? ⟨b2,off2+k * 7,none⟩=some (.slice ra rn rc)∧w'.cell? ⟨b2,off2+k * 7+1,none⟩=some (.int .i64 x.valid)∧w'.cell? ⟨b2,off2+k * 7+2,none⟩=some (.int .i64 x.next)∧w'.cell? ⟨b2,off2+k * 7+3,none⟩=some (.int .i64 x.seq)∧w'.cell? ⟨b2,off2+k * 7+4,none⟩=some (.slice sa x.ah.length sc)∧w'.cell? ⟨b2,off2+k * 7+5,none⟩=some (.slice ta x.au.length tc)∧w'.cell? ⟨b2,off2+k * 7+6,none⟩=some (.int .i64 x.lost))
    (first | go_keep | exact ⟨d0,d1,d2,d3,d4,d5,d6,z0,z1,z2,z3,z4,z5,z6⟩ | exact ⟨(B.cell (p:=⟨_,_,none⟩) (by exact hlb)).trans d0,(B.cell (p:=⟨_,_,none⟩) (by exact hlb)).trans d1,(B.cell (p:=⟨_,_,none⟩) (by exact hlb)).trans d2,(B.cell (p:=⟨_,_,none⟩) (by exact hlb)).trans d3,(B.cell (p:=⟨_,_,none⟩) (by exact hlb)).trans d4,(B.cell (p:=⟨_,_,none⟩) (by exact hlb)).trans d5,(B.cell (p:=⟨_,_,none⟩) (by exact hlb)).trans d6,(B.cell (p:=⟨_,_,none⟩) (by exact gB)).trans z0,(B.cell (p:=⟨_,_,none⟩) (by exact gB)).trans z1,(B.cell (p:=⟨_,_,none⟩) (by exact gB)).trans z2,(B.cell (p:=⟨_,_,none⟩) (by exact gB)).trans z3,(B.cell (p:=⟨_,_,none⟩) (by exact gB)).trans z4,(B.cell (p:=⟨_,_,none⟩) (by exact gB)).trans z5,(B.cell (p:=⟨_,_,none⟩) (by exact gB)).trans z6⟩)
    ((go_at_call 35;refine (WS _ _ x _ HA.out.1 HA.out.2).mono ?_;rintro e w1 ⟨rfl,B⟩))
   have HB2:Hid (Below w.heap.size w w1):=Below.step (Below.step hB.out DR) B
   clear d0 d1 d2 d3 d4 d5 d6 z0 z1 z2 z3 z4 z5 z6 B hB
   go_wp2
   go_roundw
   case rel=>exact ⟨k+1,by omega,by go_num,HB2⟩
   case measure=>simp [intOf];omega
  ·go_wp2
   go_ret
   exact ⟨rfl,hB.out⟩
theorem II (v u:Value) (x:aJ) (w:World) (hv:dM w v x) (hu:dM w u x) :
  Calls Tryz.prog 10 #[v,u] w fun e w'=>e=.returned (.bool true)∧Below w.heap.size w w':=by
 obtain ⟨u0,u1,rfl,g0,g1,-⟩:=hv
 obtain ⟨u2,u3,rfl,g2,g3,-⟩:=hu
 obtain ⟨valid,boxes,seen⟩:=x
 simp only at g0 g1 g2 g3
 have H0:Hid (∀ wi,Below w.heap.size w wi→(cK wi u0 boxes∧cK wi u2 boxes)∧(dS wi u1 seen∧dS wi u3 seen)):=fun wi h=>⟨⟨g0.below lq h,g2.below lq h⟩,⟨g1.below nP h,g3.below nP h⟩⟩
 obtain ⟨a0,c0,rfl,-⟩:=g0.form
 obtain ⟨a1,c1,rfl,-⟩:=g1.form
 obtain ⟨a2,c2,rfl,-⟩:=g2.form
 obtain ⟨a3,c3,rfl,-⟩:=g3.form
 clear g0 g1 g2 g3
 simp only
 obtain ⟨kA,kB,X⟩:=gJ w (.cells #[.int .i64 valid,.slice a0 boxes.length c0,.slice a1 seen.length c1] 33) (.cells #[.int .i64 valid,.slice a2 boxes.length c2,.slice a3 seen.length c3] 33)
 go_enter Tryz.func10,Tryz.ntmps10
 go_wp2_with fail
 refine (agG _ _ boxes _ (H0.out _ X).1.1 (H0.out _ X).1.2).mono ?_
 rintro e w1 ⟨rfl,B⟩
 replace X:=Below.step X B
 replace kA:=ay B kA
 replace kB:=ay B kB
 clear B
 obtain ⟨f0,f1,f2⟩:=bD kA
 obtain ⟨e0,e1,e2⟩:=bD kB
 go_wp2_with fail
 clear f0 e0 f1 e1 f2 e2
 refine (agF _ _ seen _ (H0.out _ X).2.1 (H0.out _ X).2.2).mono ?_
 rintro e w2 ⟨rfl,B⟩
 replace X:=Below.step X B
 replace kA:=ay B kA
 replace kB:=ay B kB
 clear B
 obtain ⟨f0,f1,f2⟩:=bD kA
 obtain ⟨e0,e1,e2⟩:=bD kB
 go_wp2
 go_ret
 exact ⟨rfl,X⟩
/- What akl, akm, akn of package laws do. -/
theorem Ov (v u:Value) (x:cO) (w:World) (hv:iO w v x) (hu:iO w u x) :
  Calls Tryz.prog 11 #[v,u] w fun e w'=>e=.returned (.bool true)∧Below w.heap.size w w':=by
 have H0:Hid (∀ wi,Below w.heap.size w wi→iO wi v x∧iO wi u x):=fun wi h=>⟨hv.below h,hu.below h⟩
 obtain ⟨a0,n0,c0,a1,c1,a2,c2,a3,c3,rfl⟩:=hv.form
 obtain ⟨b0,m0,d0,b1,d1,b2,d2,b3,d3,rfl⟩:=hu.form
 clear hv hu
 obtain ⟨kA,kB,X⟩:=gJ w (.cells #[.int .i64 x.code,.int .i64 x.num,.slice a0 n0 c0,.int .i64 x.box.valid,.int .i64 x.box.next,.int .i64 x.box.seq,.slice a1 x.box.ah.length c1,.slice a2 x.box.au.length c2,.int .i64 x.box.lost,.slice a3 x.names.length c3] 40) (.cells #[.int .i64 x.code,.int .i64 x.num,.slice b0 m0 d0,.int .i64 x.box.valid,.int .i64 x.box.next,.int .i64 x.box.seq,.slice b1 x.box.ah.length d1,.slice b2 x.box.au.length d2,.int .i64 x.box.lost,.slice b3 x.names.length d3] 40)
 go_enter Tryz.func11,Tryz.ntmps11
 go_wp2_with fail
 refine (WS _ _ x.box _ (H0.out _ X).1.parts.1 (H0.out _ X).2.parts.1).mono ?_
 rintro e w1 ⟨rfl,B⟩
 replace X:=Below.step X B
 replace kA:=ay B kA
 replace kB:=ay B kB
 clear B
 obtain ⟨f0,f1,f2,f3,f4,f5,f6,f7,f8,f9⟩:=aM kA
 obtain ⟨e0,e1,e2,e3,e4,e5,e6,e7,e8,e9⟩:=aM kB
 go_wp2_with fail
 clear f0 f1 f2 f3 f4 f5 f6 f7 f8 f9 e0 e1 e2 e3 e4 e5 e6 e7 e8 e9
 refine (aaK _ _ x.names _ (H0.out _ X).1.parts.2.1 (H0.out _ X).2.parts.2.1).mono ?_
 rintro e w2 ⟨rfl,B⟩
 replace X:=Below.step X B
 clear B
 go_wp2
 go_ret
 exact ⟨rfl,X⟩
end Go.Proofs.YtlneebmlhblleaaGreat
