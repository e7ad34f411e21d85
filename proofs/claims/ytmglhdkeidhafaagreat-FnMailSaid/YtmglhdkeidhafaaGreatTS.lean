/- The proof's texts, part 54. -/
import Derived.Test.YtmglhdkeidhafaaGreatTJ
import Derived.Test.YtmglhdkeidhafaaGreatTK
import Derived.Test.YtmglhdkeidhafaaGreatTR
import Derived.Test.YtmglhdkeidhafaaGreatTO
namespace Go.Proofs.YtmglhdkeidhafaaGreat
open Go.RowKit
set_option linter.unusedVariables false
set_option linter.unusedSimpArgs false
set_option maxHeartbeats 8000000
set_option maxRecDepth 100000
/- What DrawDo of package spec draws: an account and a command that can be read. -/
theorem aeA {w w3 w4:World} {a:aF} {c:dS} {a0 a1 q0 q1 q2:Option Addr} {c0 c1 m0 z0 m1 z1 m2 z2:Nat} {x0 x1 x2 y0 y1 y2 y3 y4 y5 y6 y7:Value}
  (hT:Mf w3 (.agg #[.int .i64 a.valid,.slice a0 a.boxes.length c0,.slice a1 a.seen.length c1]) a) (hs:w3.heap.size≤w4.heap.size) (hG:∀ k,k < w3.heap.size→¬ sZ w3 k→w4.heap[k]?=w3.heap[k]?) (hC:qK w4 (.agg #[.int .i64 c.k,.slice q0 m0 z0,.slice q1 m1 z1,.int .i64 c.uid,.int .i64 c.mode,.int .i64 c.fl,.int .i64 c.si,.slice q2 m2 z2]) c) (hb:Below w.heap.size w w4)
  (kA3:w3.heap[w.heap.size]?=some (.cells #[x0,x1,x2] 26 (0,0))) (kC3:w3.heap[w.heap.size+1]?=some (.cells #[y0,y1,y2,y3,y4,y5,y6,y7] 28 (0,0)))
  (kA:w4.heap[w.heap.size]?=some (.cells #[x0,x1,x2] 26 (0,0))) (kC:w4.heap[w.heap.size+1]?=some (.cells #[y0,y1,y2,y3,y4,y5,y6,y7] 28 (0,0))) :
  (((((((((((w4.setCell ⟨w.heap.size,0,none⟩ (.int .i64 a.valid)).setCell ⟨w.heap.size,1,none⟩ (.slice a0 a.boxes.length c0)).setCell ⟨w.heap.size,2,none⟩ (.slice a1 a.seen.length c1)).setCell ⟨w.heap.size+1,0,none⟩ (.int .i64 c.k)).setCell ⟨w.heap.size+1,1,none⟩ (.slice q0 m0 z0)).setCell ⟨w.heap.size+1,2,none⟩ (.slice q1 m1 z1)).setCell ⟨w.heap.size+1,3,none⟩ (.int .i64 c.uid)).setCell ⟨w.heap.size+1,4,none⟩ (.int .i64 c.mode)).setCell ⟨w.heap.size+1,5,none⟩ (.int .i64 c.fl)).setCell ⟨w.heap.size+1,6,none⟩ (.int .i64 c.si)).setCell ⟨w.heap.size+1,7,none⟩ (.slice q2 m2 z2)).heap[w.heap.size]?=some (.cells #[.int .i64 a.valid,.slice a0 a.boxes.length c0,.slice a1 a.seen.length c1] 26 (0,0))∧(((((((((((w4.setCell ⟨w.heap.size,0,none⟩ (.int .i64 a.valid)).setCell ⟨w.heap.size,1,none⟩ (.slice a0 a.boxes.length c0)).setCell ⟨w.heap.size,2,none⟩ (.slice a1 a.seen.length c1)).setCell ⟨w.heap.size+1,0,none⟩ (.int .i64 c.k)).setCell ⟨w.heap.size+1,1,none⟩ (.slice q0 m0 z0)).setCell ⟨w.heap.size+1,2,none⟩ (.slice q1 m1 z1)).setCell ⟨w.heap.size+1,3,none⟩ (.int .i64 c.uid)).setCell ⟨w.heap.size+1,4,none⟩ (.int .i64 c.mode)).setCell ⟨w.heap.size+1,5,none⟩ (.int .i64 c.fl)).setCell ⟨w.heap.size+1,6,none⟩ (.int .i64 c.si)).setCell ⟨w.heap.size+1,7,none⟩ (.slice q2 m2 z2)).heap[w.heap.size+1]?=some (.cells #[.int .i64 c.k,.slice q0 m0 z0,.slice q1 m1 z1,.int .i64 c.uid,.int .i64 c.mode,.int .i64 c.fl,.int .i64 c.si,.slice q2 m2 z2] 28 (0,0))∧iw (((((((((((w4.setCell ⟨w.heap.size,0,none⟩ (.int .i64 a.valid)).setCell ⟨w.heap.size,1,none⟩ (.slice a0 a.boxes.length c0)).setCell ⟨w.heap.size,2,none⟩ (.slice a1 a.seen.length c1)).setCell ⟨w.heap.size+1,0,none⟩ (.int .i64 c.k)).setCell ⟨w.heap.size+1,1,none⟩ (.slice q0 m0 z0)).setCell ⟨w.heap.size+1,2,none⟩ (.slice q1 m1 z1)).setCell ⟨w.heap.size+1,3,none⟩ (.int .i64 c.uid)).setCell ⟨w.heap.size+1,4,none⟩ (.int .i64 c.mode)).setCell ⟨w.heap.size+1,5,none⟩ (.int .i64 c.fl)).setCell ⟨w.heap.size+1,6,none⟩ (.int .i64 c.si)).setCell ⟨w.heap.size+1,7,none⟩ (.slice q2 m2 z2)) (.agg #[.int .i64 a.valid,.slice a0 a.boxes.length c0,.slice a1 a.seen.length c1]) a∧iQ (((((((((((w4.setCell ⟨w.heap.size,0,none⟩ (.int .i64 a.valid)).setCell ⟨w.heap.size,1,none⟩ (.slice a0 a.boxes.length c0)).setCell ⟨w.heap.size,2,none⟩ (.slice a1 a.seen.length c1)).setCell ⟨w.heap.size+1,0,none⟩ (.int .i64 c.k)).setCell ⟨w.heap.size+1,1,none⟩ (.slice q0 m0 z0)).setCell ⟨w.heap.size+1,2,none⟩ (.slice q1 m1 z1)).setCell ⟨w.heap.size+1,3,none⟩ (.int .i64 c.uid)).setCell ⟨w.heap.size+1,4,none⟩ (.int .i64 c.mode)).setCell ⟨w.heap.size+1,5,none⟩ (.int .i64 c.fl)).setCell ⟨w.heap.size+1,6,none⟩ (.int .i64 c.si)).setCell ⟨w.heap.size+1,7,none⟩ (.slice q2 m2 z2)) (.agg #[.int .i64 c.k,.slice q0 m0 z0,.slice q1 m1 z1,.int .i64 c.uid,.int .i64 c.mode,.int .i64 c.fl,.int .i64 c.si,.slice q2 m2 z2]) c.k c.bx c.tt c.uid c.mode c.fl c.si c.tx∧Below w.heap.size w (((((((((((w4.setCell ⟨w.heap.size,0,none⟩ (.int .i64 a.valid)).setCell ⟨w.heap.size,1,none⟩ (.slice a0 a.boxes.length c0)).setCell ⟨w.heap.size,2,none⟩ (.slice a1 a.seen.length c1)).setCell ⟨w.heap.size+1,0,none⟩ (.int .i64 c.k)).setCell ⟨w.heap.size+1,1,none⟩ (.slice q0 m0 z0)).setCell ⟨w.heap.size+1,2,none⟩ (.slice q1 m1 z1)).setCell ⟨w.heap.size+1,3,none⟩ (.int .i64 c.uid)).setCell ⟨w.heap.size+1,4,none⟩ (.int .i64 c.mode)).setCell ⟨w.heap.size+1,5,none⟩ (.int .i64 c.fl)).setCell ⟨w.heap.size+1,6,none⟩ (.int .i64 c.si)).setCell ⟨w.heap.size+1,7,none⟩ (.slice q2 m2 z2)):=by
 have k3:=aJ (i:=2) (v:=.slice a1 a.seen.length c1) (aJ (i:=1) (v:=.slice a0 a.boxes.length c0) (aJ (i:=0) (v:=.int .i64 a.valid) kA))
 have UN:(((w4.setCell ⟨w.heap.size,0,none⟩ (.int .i64 a.valid)).setCell ⟨w.heap.size,1,none⟩ (.slice a0 a.boxes.length c0)).setCell ⟨w.heap.size,2,none⟩ (.slice a1 a.seen.length c1)).heap[w.heap.size+1]?=_:=(cO (cO (cO kC (by omega)) (by omega)) (by omega))
 have b3:Below w.heap.size w (((w4.setCell ⟨w.heap.size,0,none⟩ (.int .i64 a.valid)).setCell ⟨w.heap.size,1,none⟩ (.slice a0 a.boxes.length c0)).setCell ⟨w.heap.size,2,none⟩ (.slice a1 a.seen.length c1)):=(((hb).setCell (p:=⟨w.heap.size,0,none⟩) (Nat.le_refl _) _).setCell (p:=⟨w.heap.size,1,none⟩) (Nat.le_refl _) _).setCell (p:=⟨w.heap.size,2,none⟩) (Nat.le_refl _) _
 have o3:∀ k,k≠w.heap.size→(((w4.setCell ⟨w.heap.size,0,none⟩ (.int .i64 a.valid)).setCell ⟨w.heap.size,1,none⟩ (.slice a0 a.boxes.length c0)).setCell ⟨w.heap.size,2,none⟩ (.slice a1 a.seen.length c1)).heap[k]?=w4.heap[k]?:=fun k h=>by
  rw [Below.heap_setCell _ _ _ _ (show k≠w.heap.size from h),Below.heap_setCell _ _ _ _ (show k≠w.heap.size from h),Below.heap_setCell _ _ _ _ (show k≠w.heap.size from h)]
 have z3:(((w4.setCell ⟨w.heap.size,0,none⟩ (.int .i64 a.valid)).setCell ⟨w.heap.size,1,none⟩ (.slice a0 a.boxes.length c0)).setCell ⟨w.heap.size,2,none⟩ (.slice a1 a.seen.length c1)).heap.size=w4.heap.size:=by simp only [bf]
 generalize (((w4.setCell ⟨w.heap.size,0,none⟩ (.int .i64 a.valid)).setCell ⟨w.heap.size,1,none⟩ (.slice a0 a.boxes.length c0)).setCell ⟨w.heap.size,2,none⟩ (.slice a1 a.seen.length c1))=v3 at k3 UN b3 o3 z3 ⊢
 have e:=Io (d0:=.int .i64 c.k) (d1:=.slice q0 m0 z0) (d2:=.slice q1 m1 z1) (d3:=.int .i64 c.uid) (d4:=.int .i64 c.mode) (d5:=.int .i64 c.fl) (d6:=.int .i64 c.si) (d7:=.slice q2 m2 z2) UN
 have oA:=Wy (R:=w.heap.size+1) (d0:=.int .i64 c.k) (d1:=.slice q0 m0 z0) (d2:=.slice q1 m1 z1) (d3:=.int .i64 c.uid) (d4:=.int .i64 c.mode) (d5:=.int .i64 c.fl) (d6:=.int .i64 c.si) (d7:=.slice q2 m2 z2) k3 (by omega)
 have bF:=Ov (R:=w.heap.size+1) (d0:=.int .i64 c.k) (d1:=.slice q0 m0 z0) (d2:=.slice q1 m1 z1) (d3:=.int .i64 c.uid) (d4:=.int .i64 c.mode) (d5:=.int .i64 c.fl) (d6:=.int .i64 c.si) (d7:=.slice q2 m2 z2) b3 (by omega)
 have o8:∀ k,k≠w.heap.size+1→((((((((v3.setCell ⟨w.heap.size+1,0,none⟩ (.int .i64 c.k)).setCell ⟨w.heap.size+1,1,none⟩ (.slice q0 m0 z0)).setCell ⟨w.heap.size+1,2,none⟩ (.slice q1 m1 z1)).setCell ⟨w.heap.size+1,3,none⟩ (.int .i64 c.uid)).setCell ⟨w.heap.size+1,4,none⟩ (.int .i64 c.mode)).setCell ⟨w.heap.size+1,5,none⟩ (.int .i64 c.fl)).setCell ⟨w.heap.size+1,6,none⟩ (.int .i64 c.si)).setCell ⟨w.heap.size+1,7,none⟩ (.slice q2 m2 z2)).heap[k]?=v3.heap[k]?:=fun k h=>by
  rw [Below.heap_setCell _ _ _ _ (show k≠w.heap.size+1 from h),Below.heap_setCell _ _ _ _ (show k≠w.heap.size+1 from h),Below.heap_setCell _ _ _ _ (show k≠w.heap.size+1 from h),Below.heap_setCell _ _ _ _ (show k≠w.heap.size+1 from h),Below.heap_setCell _ _ _ _ (show k≠w.heap.size+1 from h),Below.heap_setCell _ _ _ _ (show k≠w.heap.size+1 from h),Below.heap_setCell _ _ _ _ (show k≠w.heap.size+1 from h),Below.heap_setCell _ _ _ _ (show k≠w.heap.size+1 from h)]
 have z8:((((((((v3.setCell ⟨w.heap.size+1,0,none⟩ (.int .i64 c.k)).setCell ⟨w.heap.size+1,1,none⟩ (.slice q0 m0 z0)).setCell ⟨w.heap.size+1,2,none⟩ (.slice q1 m1 z1)).setCell ⟨w.heap.size+1,3,none⟩ (.int .i64 c.uid)).setCell ⟨w.heap.size+1,4,none⟩ (.int .i64 c.mode)).setCell ⟨w.heap.size+1,5,none⟩ (.int .i64 c.fl)).setCell ⟨w.heap.size+1,6,none⟩ (.int .i64 c.si)).setCell ⟨w.heap.size+1,7,none⟩ (.slice q2 m2 z2)).heap.size=v3.heap.size:=by simp only [bf]
 generalize ((((((((v3.setCell ⟨w.heap.size+1,0,none⟩ (.int .i64 c.k)).setCell ⟨w.heap.size+1,1,none⟩ (.slice q0 m0 z0)).setCell ⟨w.heap.size+1,2,none⟩ (.slice q1 m1 z1)).setCell ⟨w.heap.size+1,3,none⟩ (.int .i64 c.uid)).setCell ⟨w.heap.size+1,4,none⟩ (.int .i64 c.mode)).setCell ⟨w.heap.size+1,5,none⟩ (.int .i64 c.fl)).setCell ⟨w.heap.size+1,6,none⟩ (.int .i64 c.si)).setCell ⟨w.heap.size+1,7,none⟩ (.slice q2 m2 z2))=v8 at e oA bF o8 z8 ⊢
 refine ⟨oA,e,hT v8 (by omega) fun k hk hn=>?_,?_,bF⟩
 ·rw [o8 k (fun h=>by subst h;exact hn (.inr (.inr ⟨_,_,kC3⟩))),o3 k (fun h=>by subst h;exact hn (.inl ⟨_,_,kA3⟩))]
  exact hG k hk hn
 ·have hS:=hC.on (w':=v8) (by omega) fun k hk=>by
   obtain ⟨cs,fz,hk⟩:=hk
   rw [o8 k (fun h=>by subst h;exact dO hk ⟨_,_,kC⟩ (by decide)),o3 k (fun h=>by subst h;exact dO hk ⟨_,_,kA⟩ (by decide))]
  obtain ⟨u0,u1,u2,e',s0,s1,s2,i⟩:=hS
  exact ⟨u0,u1,u2,e',s0.bs,s1.bs,s2.bs,i⟩
theorem aeC (v:Value) (L:List Int) (w:World) (hv:Bs w v L) :
  Calls Tryz.prog 4 #[v] w fun e w'=>∃ u1 u2,e=.returned (.tuple #[u1,u2])∧(∃ a,iw w' u1 a)∧(∃ c:dS,iQ w' u2 c.k c.bx c.tt c.uid c.mode c.fl c.si c.tx)∧Below w.heap.size w w':=by
 obtain ⟨kA,kC,X⟩:=iX w (.cells #[.int .i64 0,.slice none 0 0,.slice none 0 0] 26) (.cells #[.int .i64 0,.slice none 0 0,.slice none 0 0,.int .i64 0,.int .i64 0,.int .i64 0,.int .i64 0,.slice none 0 0] 28)
 have hs1:((w.alloc (.cells #[.int .i64 0,.slice none 0 0,.slice none 0 0] 26)).alloc (.cells #[.int .i64 0,.slice none 0 0,.slice none 0 0,.int .i64 0,.int .i64 0,.int .i64 0,.int .i64 0,.slice none 0 0] 28)).heap.size=w.heap.size+2:=by simp
 have HV:=aD (hv.below X)
 obtain ⟨va,cap,rfl⟩:=hv.form
 clear hv
 go_enter Tryz.func4,Tryz.ntmps4
 go_upto_region 1 with fail
 generalize (w.alloc (.cells #[.int .i64 0,.slice none 0 0,.slice none 0 0] 26)).alloc (.cells #[.int .i64 0,.slice none 0 0,.slice none 0 0,.int .i64 0,.int .i64 0,.int .i64 0,.int .i64 0,.slice none 0 0] 28)=w1 at kA kC X hs1 HV ⊢
 have HA:=aD kA
 have HC:=aD kC
 have HB:=aD X
 clear kA kC X
 go_wp2_with fail
 refine (Wm _ L w1 HV.out).mono ?_
 rintro e w2 ⟨g,rfl,C2,B2⟩
 have Dk:=aD C2
 clear C2 B2
 go_wp2_with fail
 refine (adB w1 _ g _ L Dk.out).mono ?_
 rintro e w3 ⟨u,rfl,a,hT,hI,C3⟩
 have GA:=aD C3
 have HT:=aD hT
 obtain ⟨b0,b1,rfl,g0,g1,i0⟩:=hT w3 (Nat.le_refl _) (fun _ _ _=>rfl)
 obtain ⟨a0,c0,rfl,-⟩:=g0.form
 obtain ⟨a1,c1,rfl,-⟩:=g1.form
 clear C3 hT hI g0 g1 i0
 go_wp2_with fail
 refine (adK w1 _ g _ L GA.out).mono ?_
 rintro e w4 ⟨u2,rfl,⟨c,hcv,hcw⟩,C4,G4⟩
 have hcs:=TF hcw hcv
 obtain ⟨d0,d1,d2,rfl,r0,r1,r2,-⟩:=hcv
 obtain ⟨q0,m0,z0,rfl⟩:=r0.aG
 obtain ⟨q1,m1,z1,rfl⟩:=r1.aG
 obtain ⟨q2,m2,z2,rfl⟩:=r2.aG
 have b3:=GA.out.2.1
 have b4:=C4.2.1
 have GD:=(b4.block w.heap.size (by omega)).trans HA.out
 have GH:=(b4.block (w.heap.size+1) (by omega)).trans HC.out
 have FIN:=aD (aeA HT.out G4.size (fun k hk hn=>G4.block k hk fun e=>hn (by
  simp only [Option.some.injEq] at e
  subst e
  exact .inr (.inl GA.out.ty))) hcs (HB.out.trans (b4.mono (by omega))) ((b3.block w.heap.size (by omega)).trans HA.out) ((b3.block (w.heap.size+1) (by omega)).trans HC.out) GD GH)
 obtain ⟨e0,e1,e2⟩:=bM GD
 obtain ⟨fz,fl⟩:=aZ GD
 obtain ⟨o0,o1,o2,o3,o4,o5,o6,o7,-⟩:=bQ GH
 obtain ⟨fy,fk⟩:=aZ GH
 clear hcw hcs C4 G4 r0 r1 r2 b3 b4 GD GH HT GA Dk HV HA HC HB hs1
 go_wp2
 obtain ⟨F1,F2,F3,F4,F5⟩:=FIN.out
 obtain ⟨f0,f1,f2⟩:=bM F1
 obtain ⟨h0,h1,h2,h3,h4,h5,h6,h7,-⟩:=bQ F2
 exact bodyPost_ret (v:=.tuple #[.agg #[.int .i64 a.valid,.slice a0 a.boxes.length c0,.slice a1 a.seen.length c1],.agg #[.int .i64 c.k,.slice q0 m0 z0,.slice q1 m1 z1,.int .i64 c.uid,.int .i64 c.mode,.int .i64 c.fl,.int .i64 c.si,.slice q2 m2 z2]]) (by simp [results,Tryz.results4,go_sem,f0,f1,f2,h0,h1,h2,h3,h4,h5,h6,h7]) rfl ⟨_,_,rfl,⟨a,F3⟩,⟨c,F4⟩,F5⟩
/- The law FnMail, walked out of the contracts. -/
/-- What the law asks of what Do answers. -/
theorem aeD {a:aF} {c:dS} (h:(fA a && dK c.k c.bx c.tt c.uid c.mode c.fl c.si c.tx)=false):kF a c=(⟨0,[],[]⟩,aN 5 0):=by
 unfold kF
 rw [if_neg (by rw [h];simp)]
theorem aeE {a:aF} {c:dS} (h1:fA a=true) (h2:dK c.k c.bx c.tt c.uid c.mode c.fl c.si c.tx=true):fA (kF a c).1=true∧(kF a c).1.seen=a.seen∧((kF a c).2.code≠0∨c.k=5∨7≤c.k→(kF a c).1=a):=by
 have e:kF a c=dA a c:=by unfold kF;rw [if_pos (by rw [h1,h2];rfl)]
 rw [e]
 exact ⟨aep h1 h2,aes a c,aer⟩
theorem mail_walk (v:Value) (L:List Int) (w:World) (hv:Bs w v L) :
  Calls Tryz.prog 3 #[v] w fun e w'=>e=.returned (.bool true)∧Below w.heap.size w w':=by
 have HV:=aD hv
 obtain ⟨va,cap,rfl⟩:=hv.form
 clear hv
 go_enter Tryz.func3,Tryz.ntmps3
 go_wp2_with fail
 refine (aeC _ L w HV.out).mono ?_
 rintro e w1 ⟨u1,u2,rfl,⟨a,hA⟩,⟨c,hC⟩,B⟩
 obtain ⟨a0,c0,a1,c1,rfl⟩:=hA.form'
 have uG:=aD hC
 obtain ⟨d0,d1,d2,rfl,r0,r1,r2,-⟩:=hC
 obtain ⟨q0,m0,z0,rfl⟩:=r0.aG
 obtain ⟨q1,m1,z1,rfl⟩:=r1.aG
 obtain ⟨q2,m2,z2,rfl⟩:=r2.aG
 obtain ⟨kA,kC,AB⟩:=iX w1 (.cells #[.int .i64 a.valid,.slice a0 a.boxes.length c0,.slice a1 a.seen.length c1] 26) (.cells #[.int .i64 c.k,.slice q0 m0 z0,.slice q1 m1 z1,.int .i64 c.uid,.int .i64 c.mode,.int .i64 c.fl,.int .i64 c.si,.slice q2 m2 z2] 28)
 have HA:=aD (hA.below AB)
 have HC:=aD (iQ.below uG.out AB)
 have X:=Below.step B AB
 clear hA uG B AB r0 r1 r2 HV
 go_upto_region 2 with fail
 generalize (w1.alloc (.cells #[.int .i64 a.valid,.slice a0 a.boxes.length c0,.slice a1 a.seen.length c1] 26)).alloc (.cells #[.int .i64 c.k,.slice q0 m0 z0,.slice q1 m1 z1,.int .i64 c.uid,.int .i64 c.mode,.int .i64 c.fl,.int .i64 c.si,.slice q2 m2 z2] 28)=w2 at kA kC HA HC X ⊢
 have HX:=aD X
 clear X
 obtain ⟨e0,e1,e2⟩:=bM kA
 have el:=lt_of_heap kA
 obtain ⟨o0,o1,o2,o3,o4,o5,o6,o7,o8⟩:=bQ kC
 go_wp2_with fail
 refine (aev _ _ _ a c HA.out HC.out).mono ?_
 rintro e w3 ⟨v1,v2,rfl,R,B⟩
 clear e0 e1 e2 el o0 o1 o2 o3 o4 o5 o6 o7 o8
 have vQ:=aD (aeD (a:=a) (c:=c))
 have MO:=aD (aeE (a:=a) (c:=c))
 generalize kF a c=xr at R vQ MO
 obtain ⟨x,r⟩:=xr
 obtain ⟨hx,hr⟩:=R w3 (Kept.refl _ _)
 clear R
 simp only at hx hr
 obtain ⟨p0,k0,p1,k1,rfl⟩:=hx.form'
 obtain ⟨b0,n0,j0,b1,j1,b2,j2,b3,j3,rfl⟩:=hr.form
 clear hr
 obtain ⟨kX,kR,AB⟩:=iX w3 (.cells #[.int .i64 x.valid,.slice p0 x.boxes.length k0,.slice p1 x.seen.length k1] 26) (.cells #[.int .i64 r.code,.int .i64 r.num,.slice b0 n0 j0,.int .i64 r.box.valid,.int .i64 r.box.next,.int .i64 r.box.seq,.slice b1 r.box.ah.length j1,.slice b2 r.box.au.length j2,.int .i64 r.box.lost,.slice b3 r.names.length j3] 37)
 have uF:=Below.step B AB
 replace kA:=aB uF kA
 replace kC:=aB uF kC
 replace HA:=aD (HA.out.below uF)
 replace HC:=aD (iQ.below HC.out uF)
 have nA:=aD (hx.below AB)
 replace HX:=aD (Below.step HX.out uF)
 clear hx B AB uF
 go_upto_region 3 with fail
 generalize (w3.alloc (.cells #[.int .i64 x.valid,.slice p0 x.boxes.length k0,.slice p1 x.seen.length k1] 26)).alloc (.cells #[.int .i64 r.code,.int .i64 r.num,.slice b0 n0 j0,.int .i64 r.box.valid,.int .i64 r.box.next,.int .i64 r.box.seq,.slice b1 r.box.ah.length j1,.slice b2 r.box.au.length j2,.int .i64 r.box.lost,.slice b3 r.names.length j3] 37)=w4 at kA kC kX kR HA HC nA HX ⊢
 obtain ⟨e0,e1,e2⟩:=bM kA
 have el:=lt_of_heap kA
 go_wp2_with fail
 refine (acW _ a _ HA.out).mono ?_
 rintro e w5 ⟨rfl,B⟩
 clear e0 e1 e2 el
 replace kA:=aB B kA
 replace kC:=aB B kC
 replace kX:=aB B kX
 replace kR:=aB B kR
 replace HA:=aD (HA.out.below B)
 replace HC:=aD (iQ.below HC.out B)
 replace nA:=aD (nA.out.below B)
 replace HX:=aD (Below.step HX.out B)
 clear B
 cases hacc:fA a with
 | false =>
  have hno:=vQ.out (by rw [hacc];rfl)
  simp only [Prod.mk.injEq] at hno
  obtain ⟨rfl,rfl⟩:=hno
  simp only [aN] at kR kX
  obtain ⟨x0,x1,x2⟩:=bM kX
  have xl:=lt_of_heap kX
  obtain ⟨t0,t1,t2,t3,t4,t5,t6,t7,t8,t9⟩:=aO kR
  have tl:=lt_of_heap kR
  go_wp2
  go_ret
  exact ⟨rfl,HX.out⟩
 | true =>
  obtain ⟨o0,o1,o2,o3,o4,o5,o6,o7,o8⟩:=bQ kC
  go_wp2_with fail
  refine (aez _ c.k c.bx c.tt c.uid c.mode c.fl c.si c.tx _ HC.out).mono ?_
  rintro e w6 ⟨rfl,B⟩
  clear o0 o1 o2 o3 o4 o5 o6 o7 o8
  replace kA:=aB B kA
  replace kC:=aB B kC
  replace kX:=aB B kX
  replace kR:=aB B kR
  replace HA:=aD (HA.out.below B)
  replace nA:=aD (nA.out.below B)
  replace HX:=aD (Below.step HX.out B)
  clear B
  cases wU:dK c.k c.bx c.tt c.uid c.mode c.fl c.si c.tx with
  | false =>
   have hno:=vQ.out (by rw [wU,Bool.and_false])
   simp only [Prod.mk.injEq] at hno
   obtain ⟨rfl,rfl⟩:=hno
   simp only [aN] at kR kX
   obtain ⟨x0,x1,x2⟩:=bM kX
   have xl:=lt_of_heap kX
   obtain ⟨t0,t1,t2,t3,t4,t5,t6,t7,t8,t9⟩:=aO kR
   have tl:=lt_of_heap kR
   go_wp2
   go_ret
   exact ⟨rfl,HX.out⟩
  | true =>
   obtain ⟨y1,y2,y3⟩:=MO.out hacc wU
   replace y1:fA x=true:=y1
   replace y2:x.seen=a.seen:=y2
   replace y3:r.code≠0∨c.k=5∨7≤c.k→x=a:=y3
   have HS:=aD y3
   clear y3 vQ MO hacc wU
   obtain ⟨xv,xb,xs⟩:=x
   replace y2:xs=a.seen:=y2
   subst y2
   obtain ⟨x0,x1,x2⟩:=bM kX
   have xl:=lt_of_heap kX
   go_wp2_with fail
   refine (Te _ _ _ nA.out).mono ?_
   rintro e w7 ⟨rfl,B⟩
   rw [y1]
   clear x0 x1 x2 xl y1
   replace kA:=aB B kA
   replace kC:=aB B kC
   replace kX:=aB B kX
   replace kR:=aB B kR
   replace HA:=aD (HA.out.below B)
   replace nA:=aD (nA.out.below B)
   replace HX:=aD (Below.step HX.out B)
   clear B HC
   obtain ⟨e0,e1,e2⟩:=bM kA
   have el:=lt_of_heap kA
   obtain ⟨x0,x1,x2⟩:=bM kX
   have xl:=lt_of_heap kX
   obtain ⟨o0,o1,o2,o3,o4,o5,o6,o7,o8⟩:=bQ kC
   obtain ⟨t0,t1,t2,t3,t4,t5,t6,t7,t8,t9⟩:=aO kR
   have tl:=lt_of_heap kR
   by_cases q:r.code=0∧¬ (c.k=5)∧¬ (7≤c.k)
   ·obtain ⟨nL,q1',q2'⟩:=q
    have q3':¬ (c.k ≥ 7):=q2'
    go_wp2
    go_ret
    exact ⟨rfl,HX.out⟩
   ·have hsame:Hid ((⟨xv,xb,a.seen⟩:aF)=a):=HS.out (by omega)
    have hv:Hid (xv=a.valid∧xb=a.boxes):=by
     have:=hsame.out
     exact ⟨congrArg aF.valid this,congrArg aF.boxes this⟩
    by_cases k5:c.k=5
    ·by_cases cz:r.code=0
     all_goals
      go_wp2_with fail
      refine (Iz _ _ _ a _ nA.out HA.out hv.out.1 hv.out.2).mono ?_
      rintro e w8 ⟨rfl,B⟩
      go_wp2
      go_ret
      exact ⟨rfl,Below.step HX.out B⟩
    ·by_cases k7:7≤c.k
     ·have k7':c.k ≥ 7:=k7
      by_cases cz:r.code=0
      all_goals
       go_wp2_with fail
       refine (Iz _ _ _ a _ nA.out HA.out hv.out.1 hv.out.2).mono ?_
       rintro e w8 ⟨rfl,B⟩
       go_wp2
       go_ret
       exact ⟨rfl,Below.step HX.out B⟩
     ·have k7':¬ (c.k ≥ 7):=k7
      have cz:¬ (r.code=0):=by omega
      go_wp2_with fail
      refine (Iz _ _ _ a _ nA.out HA.out hv.out.1 hv.out.2).mono ?_
      rintro e w8 ⟨rfl,B⟩
      go_wp2
      go_ret
      exact ⟨rfl,Below.step HX.out B⟩
end Go.Proofs.YtmglhdkeidhafaaGreat
