/- The proof's texts, part 48. -/
import Derived.Test.YtnlhkgoppjejeaaDoorPart47
import Derived.Test.YtnlhkgoppjejeaaDoorPart22
import Derived.Test.YtnlhkgoppjejeaaDoorPart23
import Derived.Test.YtnlhkgoppjejeaaDoorPart17
import Derived.Test.YtnlhkgoppjejeaaDoorPart8
import Derived.Test.YtnlhkgoppjejeaaDoorPart18
import Derived.Test.YtnlhkgoppjejeaaDoorPart19
import Derived.Test.YtnlhkgoppjejeaaDoorPart15
import Derived.Test.YtnlhkgoppjejeaaDoorPart20
import Derived.Test.YtnlhkgoppjejeaaDoorRows
import Derived.Test.YtnlhkgoppjejeaaDoorPart1
import Derived.ProofKit
import Derived.OpenShut
import Derived.ShutString
import Derived.ChangeOld
import Derived.Test.YtnlhkgoppjejeaaDoorPart11
import Derived.ChangeSame
import Derived.ChangeVars
import Derived.JoinedOf
import Derived.RowKit
import Derived.RowKitTokens
import Derived.LaidLaws
import Derived.LaidHandle
import Derived.Stop.Joined
import Derived.Stop.LaidErr
import Derived.WalkSmall

/- What DrawAccountBytes, DrawAccountRead of package spec draw: an account that can be read, some bytes. -/
namespace Go.Proofs.YtnlhkgoppjejeaaDoor
open Go.RowKit
set_option maxRecDepth 100000
set_option linter.unusedVariables false
set_option linter.unusedSimpArgs false

set_option maxRecDepth 100000 in
set_option maxHeartbeats 4000000 in
theorem drawAccountBytes_any (v:Value) (L:List Int) (w:World) (hv:Bs w v L) :
  Calls Tryd.prog 4 #[v] w fun e w'=>∃ u,e=.returned u∧∃ a,AccV w' u a∧InvB a∧Below w.heap.size w w':=by
 have AB:Below w.heap.size w (w.alloc (.cells #[.int .i64 0,.slice none 0 0,.slice none 0 0] 26)):=(Below.refl _ _).alloc (Nat.le_refl _) _
 have HV:=hidm (hv.below AB)
 have HK:=hidm (box_new w (.cells #[.int .i64 0,.slice none 0 0,.slice none 0 0] 26))
 have HB:=hidm AB
 have hs1:(w.alloc (.cells #[.int .i64 0,.slice none 0 0,.slice none 0 0] 26)).heap.size=w.heap.size+1:=by simp
 obtain ⟨va,cap,rfl⟩:=hv.form
 clear hv AB
 go_enter Tryd.func4,Tryd.ntmps4
 go_upto_region 1 with fail
 generalize w.alloc (.cells #[.int .i64 0,.slice none 0 0,.slice none 0 0] 26)=w1 at HV HK HB hs1 ⊢
 go_wp2_with fail
 refine (l1New_any _ L w1 HV.out).mono ?_
 rintro e w2 ⟨g,rfl,C2,B2⟩
 have HC:=hidm C2
 clear C2 B2
 go_wp2_with fail
 refine (l3bent_any w1 _ g _ L HC.out).mono ?_
 rintro e w3 ⟨u,rfl,a,hT,hI,C3⟩
 have hb3:=C3.2.1
 have hV:=hT w3 (Nat.le_refl _) (fun _ _ _=>rfl)
 obtain ⟨b0,b1,rfl,g0,g1,i0⟩:=hV
 obtain ⟨a0,c0,rfl,-⟩:=g0.form
 obtain ⟨a1,c1,rfl,-⟩:=g1.form
 have hr:=(hb3.block w.heap.size (by omega)).trans HK.out
 obtain ⟨r0,r1,r2⟩:=bx3 hr
 have fz:=(box8z hr).1
 have hlr:=lt_of_heap hr
 have KF:Hid ((((w3.setCell ⟨w.heap.size,0,none⟩ (.int .i64 a.valid)).setCell ⟨w.heap.size,1,none⟩ (.slice a0 a.boxes.length c0)).setCell ⟨w.heap.size,2,none⟩ (.slice a1 a.seen.length c1)).heap[w.heap.size]?=some (.cells #[.int .i64 a.valid,.slice a0 a.boxes.length c0,.slice a1 a.seen.length c1] 26 (0,0))):=box_set (i:=2) (v:=.slice a1 a.seen.length c1) (box_set (i:=1) (v:=.slice a0 a.boxes.length c0) (box_set (i:=0) (v:=.int .i64 a.valid) hr))
 have HF:Hid (AccV (((w3.setCell ⟨w.heap.size,0,none⟩ (.int .i64 a.valid)).setCell ⟨w.heap.size,1,none⟩ (.slice a0 a.boxes.length c0)).setCell ⟨w.heap.size,2,none⟩ (.slice a1 a.seen.length c1)) (.agg #[.int .i64 a.valid,.slice a0 a.boxes.length c0,.slice a1 a.seen.length c1]) a):=hT _ (by simp only [box_size];exact Nat.le_refl _) fun k _ hn=>by
  have hne:k≠w.heap.size:=fun e=>hn (e ▸ ⟨_,_,hr⟩)
  rw [Below.heap_setCell _ _ _ _ (show k≠w.heap.size from hne),Below.heap_setCell _ _ _ _ (show k≠w.heap.size from hne),Below.heap_setCell _ _ _ _ (show k≠w.heap.size from hne)]
 have BF:Hid (Below w.heap.size w (((w3.setCell ⟨w.heap.size,0,none⟩ (.int .i64 a.valid)).setCell ⟨w.heap.size,1,none⟩ (.slice a0 a.boxes.length c0)).setCell ⟨w.heap.size,2,none⟩ (.slice a1 a.seen.length c1))):=(((HB.out.trans (hb3.mono (by omega))).setCell (p:=⟨w.heap.size,0,none⟩) (Nat.le_refl _) _).setCell (p:=⟨w.heap.size,1,none⟩) (Nat.le_refl _) _).setCell (p:=⟨w.heap.size,2,none⟩) (Nat.le_refl _) _
 clear hT C3 hb3 g0 g1 hr HK HB HC HV
 go_wp2
 obtain ⟨e0,e1,e2⟩:=bx3 KF.out
 exact bodyPost_ret (v:=.agg #[.int .i64 a.valid,.slice a0 a.boxes.length c0,.slice a1 a.seen.length c1]) (by simp [results,Tryd.results4,go_sem,e0,e1,e2]) rfl ⟨_,rfl,a,HF.out,hI,BF.out⟩

theorem InvA.szs {a:AccD} (h:InvA a):szXs a.boxes≤2000000:=h.b.sz
theorem InvA.bytes {a:AccD} (h:InvA a) (hs:a.seen.length≤5):(accBs a).length≤5980:=by
 have n1:=numB_len a.valid
 have n2:=numB_len a.boxes.length
 have n3:=numB_len a.seen.length
 have n4:=nums_len a.seen
 have n5:=flat_len boxBs 1100 a.boxes fun x hx=>boxBs_len x (h.2 x hx).2.1 (h.2 x hx).2.2.2
 have:=h.1
 simp only [accBs,List.length_append]
 omega

set_option maxRecDepth 100000 in
set_option maxHeartbeats 4000000 in
theorem drawAccountRead_any (v:Value) (L:List Int) (w:World) (hv:Bs w v L) :
  Calls Tryd.prog 10 #[v] w fun e w'=>∃ u,e=.returned u∧∃ m,Bs w' u m∧m.length≤6000∧Below w.heap.size w w':=by
 have HV:=hidm hv
 obtain ⟨va,cap,rfl⟩:=hv.form
 clear hv
 go_enter Tryd.func10,Tryd.ntmps10
 go_wp2_with fail
 refine (l1New_any _ L w HV.out).mono ?_
 rintro e w2 ⟨g,rfl,C2,B2⟩
 have HC:=hidm C2
 clear C2 B2 HV
 go_wp2_with fail
 refine (l3account_any w _ g _ L HC.out).mono ?_
 rintro e w3 ⟨a,S,b0,b1,rfl,hq,hs,hi,hI,hlow,C3,G3,hsl⟩
 have HA:Hid (AccV w3 (.agg #[.int .i64 a.valid,b0,b1]) a):=⟨_,_,rfl,hq.v,Ow.rd (fun _ _ _ _ h=>h) hs,hi⟩
 obtain ⟨a0,c0,rfl,-⟩:=hq.v.form
 obtain ⟨a1,n1,c1,rfl⟩:∃ ua un uc,b1=.slice ua un uc:=by
  rcases hs with ⟨h,-⟩ | ⟨q,cap,cur,cs,fs,h,-⟩ <;> exact ⟨_,_,_,h⟩
 have HC3:=hidm C3
 have hlen:=hI.bytes hsl
 have hz:=hI.szs
 have HI:=hidm hI
 clear hq hs hlow C3 G3 HC hI
 go_wp2_with fail
 refine (l4account_r _ a _ HA.out HI.out.1 (fun b hb=>⟨(HI.out.2 b hb).2.1,(HI.out.2 b hb).2.2.2⟩) (by omega) hz).mono ?_
 rintro e w4 ⟨y,rfl,R4,B4⟩
 have HY:=hidm R4.bs
 have hnb:∀ k,y.ownBlock=some k→w3.heap.size≤k:=fun k hk=>(R4.2.1.lt k hk).1
 have hg3:=HC3.out.lt.2
 have HC4:=hidm (HC3.out.below B4)
 obtain ⟨ya,yc,rfl⟩:=R4.bs.form
 clear R4 B4 HC3 HA
 go_wp2_with fail
 refine (l1Once_any w _ g _ L 2 HC4.out (by omega) (by omega)).mono ?_
 rintro e w5 ⟨z,rfl,C5,G5⟩
 have HY5:=hidm (HY.out.grown G5 (fun e=>by have:=hnb _ e;omega))
 have HC5:=hidm C5
 clear HY HC4 C5 G5 hnb
 cases z
 ·go_wp2
  go_ret
  exact ⟨_,rfl,_,HY5.out,by omega,HC5.out.2.1⟩
 ·go_wp2_with fail
  refine (l1spoil_any w _ g _ _ L _ HC5.out HY5.out (by omega)).mono ?_
  rintro e w6 ⟨u,m,rfl,hm,R6,C6,-⟩
  have HR:=hidm R6.bs
  have HC6:=hidm C6
  obtain ⟨ma,mn,mc,rfl⟩:=R6.bs.form3
  clear R6 C6 HC5 HY5
  go_wp2
  go_ret
  exact ⟨_,rfl,_,HR.out,by omega,HC6.out.2.1⟩

end Go.Proofs.YtnlhkgoppjejeaaDoor

/- The law FnAccounts, walked out of the contracts. -/
namespace Go.Proofs.YtnlhkgoppjejeaaDoor
open Go.RowKit
set_option maxRecDepth 100000
set_option linter.unusedVariables false
set_option linter.unusedSimpArgs false

theorem AccV.formA {w:World} {v:Value} {a:AccD} (h:AccV w v a):∃ a0 c0 a1 c1,v=.agg #[.int .i64 a.valid,.slice a0 a.boxes.length c0,.slice a1 a.seen.length c1]:=by
 obtain ⟨u0,u1,rfl,g0,g1,-⟩:=h
 obtain ⟨a0,c0,rfl,-⟩:=g0.form
 obtain ⟨a1,c1,rfl,-⟩:=g1.form
 exact ⟨_,_,_,_,rfl⟩
theorem outS_sz (l:List Int):szXs (outS l).boxes≤2000000:=by
 cases h:okS l with
 | true=>exact acc_sz (acc_just h).1
 | false=>unfold outS;rw [h];simp [nilA,szXs]

set_option maxRecDepth 100000 in
set_option maxHeartbeats 8000000 in
theorem accounts_walk (v:Value) (L:List Int) (ea:Addr) (w:World) (hv:Bs w v L) (hE:Gave w ea) :
  Calls Tryd.prog 3 #[v] w fun e w'=>e=.returned (.bool true)∧Below w.heap.size w w':=by
 have HV:Hid (∀ wi,Below w.heap.size w wi→Bs wi v L):=fun wi h=>hv.below h
 have HE:Hid (∀ wi,Below w.heap.size w wi→Gave wi ea):=fun wi h=>hE.below h
 obtain ⟨va,cap,rfl⟩:=hv.form
 clear hv hE
 go_enter Tryd.func3,Tryd.ntmps3
 go_wp2_with fail
 refine (drawAccountBytes_any _ L w (HV.out _ (Below.refl _ _))).mono ?_
 rintro e w1 ⟨u,rfl,a,hA,hI,B⟩
 have hz:=hI.sz
 obtain ⟨a0,c0,a1,c1,rfl⟩:=hA.formA
 have AB:Below w1.heap.size w1 (w1.alloc (.cells #[.int .i64 a.valid,.slice a0 a.boxes.length c0,.slice a1 a.seen.length c1] 26)):=(Below.refl _ _).alloc (Nat.le_refl _) _
 have X2:=hidm (Below.step B AB)
 have K2:=hidm (box_new w1 (.cells #[.int .i64 a.valid,.slice a0 a.boxes.length c0,.slice a1 a.seen.length c1] 26))
 have HA2:=hidm (hA.below AB)
 clear hA B AB hI
 go_upto_region 2 with fail
 generalize w1.alloc (.cells #[.int .i64 a.valid,.slice a0 a.boxes.length c0,.slice a1 a.seen.length c1] 26)=w2 at X2 K2 HA2 ⊢
 obtain ⟨f0,f1,f2⟩:=bx3 K2.out
 have lA:=lt_of_heap K2.out
 go_wp2_with fail
 clear f0 f1 f2 lA
 refine (implAccountBytes_r _ a _ HA2.out hz).mono ?_
 rintro e w3 ⟨y,rfl,R3,B⟩
 have HY:=hidm R3.bs
 obtain ⟨ya,yc,rfl⟩:=R3.bs.form
 have X3:=hidm (Below.step X2.out B)
 have K3:=hidm (box_below B K2.out)
 have HA3:=hidm (HA2.out.below B)
 clear R3 B X2 K2 HA2
 have hback:accB a=true→Oct (accBs a)→okS (accBs a)=true∧outS (accBs a)=a:=acc_back_ok
 have hroom:accB a=true→(accBs a).length≤5980:=acc_room
 have hout:accB a=true→outB a=accBs a:=fun h=>by unfold outB;rw [h]
 have HBK:=hidm hback
 have HRM:=hidm hroom
 have HOU:=hidm hout
 clear hback hroom hout
 obtain ⟨Y,hY⟩:∃ Y,Y=accB a:=⟨_,rfl⟩
 rw [← hY]
 obtain ⟨f0,f1,f2⟩:=bx3 K3.out
 have lA:=lt_of_heap K3.out
 go_wp2_with fail
 clear f0 f1 f2 lA
 refine (specAccountOk_any _ a _ HA3.out).mono ?_
 rintro e w4 ⟨rfl,B⟩
 rw [← hY]
 have X4:=hidm (Below.step X3.out B)
 have K4:=hidm (box_below B K3.out)
 have HA4:=hidm (HA3.out.below B)
 have HY4:=hidm (HY.out.below B)
 clear B X3 K3 HA3 HY
 have hYY:(Y != Y)=false:=by simp
 obtain ⟨f0,f1,f2⟩:=bx3 K4.out
 have lA:=lt_of_heap K4.out
 go_wp2_with fail
 clear f0 f1 f2 lA
 refine (implAccountOk_any _ a _ HA4.out).mono ?_
 rintro e w5 ⟨rfl,B⟩
 rw [← hY]
 have X5:=hidm (Below.step X4.out B)
 have K5:=hidm (box_below B K4.out)
 have HA5:=hidm (HA4.out.below B)
 have HY5:=hidm (HY4.out.below B)
 have HYE:=hidm hY
 clear B X4 K4 HA4 HY4 hY
 go_upto_if 30 with fail
 go_cut [] (fun wx=>Hid (Below w.heap.size w wx))
 case first =>
  cases Y
  ·go_wp2
   go_meet
   case rel=>exact X5
  ·have hok:=HYE.out.symm
   have HB5:Hid (Bs w5 (.slice ya (outB a).length yc) (accBs a)):=by have:=HY5.out;rw [HOU.out hok] at this ⊢;exact this
   have hln:(outB a).length≤5980:=by rw [HOU.out hok];exact HRM.out hok
   obtain ⟨ko,kk⟩:=HBK.out hok HB5.out.1
   have hl2:(accBs a).length≤2000000:=by have:=HRM.out hok;omega
   clear HY5 HOU HRM HBK HYE hok
   go_wp2_with fail
   refine (implAccountRead_r _ (accBs a) ea _ HB5.out (HE.out _ X5.out) hl2).mono ?_
   rintro e w6 ⟨u,rfl,RA,B⟩
   rw [kk] at RA
   rw [ko]
   have hA6:=RA.v
   obtain ⟨xa0,xc0,xa1,xc1,rfl⟩:=hA6.formA
   have AB:Below w6.heap.size w6 (w6.alloc (.cells #[.int .i64 a.valid,.slice xa0 a.boxes.length xc0,.slice xa1 a.seen.length xc1] 26)):=(Below.refl _ _).alloc (Nat.le_refl _) _
   have X7:=hidm (Below.step (Below.step X5.out B) AB)
   have K7:=hidm (box_below AB (box_below B K5.out))
   have KX:=hidm (box_new w6 (.cells #[.int .i64 a.valid,.slice xa0 a.boxes.length xc0,.slice xa1 a.seen.length xc1] 26))
   have HA7:=hidm ((HA5.out.below B).below AB)
   have HX7:=hidm (hA6.below AB)
   clear RA B AB X5 K5 HA5 HB5 ko kk hA6
   go_upto_region 7 with fail
   generalize w6.alloc (.cells #[.int .i64 a.valid,.slice xa0 a.boxes.length xc0,.slice xa1 a.seen.length xc1] 26)=w7 at X7 K7 KX HA7 HX7 ⊢
   obtain ⟨f0,f1,f2⟩:=bx3 K7.out
   obtain ⟨x0,x1,x2⟩:=bx3 KX.out
   have lA:=lt_of_heap K7.out
   have lX:=lt_of_heap KX.out
   go_wp2_with fail
   clear f0 f1 f2 x0 x1 x2 lA lX
   refine (sameBoxes_yes _ _ a a _ HX7.out HA7.out rfl rfl).mono ?_
   rintro e w8 ⟨rfl,B⟩
   have X8:=hidm (Below.step X7.out B)
   have K8:=hidm (box_below B K7.out)
   have KX8:=hidm (box_below B KX.out)
   clear B X7 K7 KX HA7 HX7
   obtain ⟨f0,f1,f2⟩:=bx3 K8.out
   obtain ⟨x0,x1,x2⟩:=bx3 KX8.out
   have lA:=lt_of_heap K8.out
   have lX:=lt_of_heap KX8.out
   have hni:¬ (5980:Int) < ((outB a).length:Int):=by omega
   go_wp2
   go_meet
   case rel=>exact X8
 case rest =>
  have X9:=hcut
  clear X5 K5 HA5 HY5 HOU HRM HBK HYE
  go_wp2_with fail
  refine (drawAccountRead_any _ L _ (HV.out _ X9.out)).mono ?_
  rintro e w6 ⟨y,rfl,m,hM,hml,B⟩
  have HM:=hidm hM
  have X6:=hidm (Below.step X9.out B)
  obtain ⟨ma,mc,rfl⟩:=hM.form
  clear hM B X9
  go_wp2_with fail
  refine (implAccountRead_r _ m ea _ HM.out (HE.out _ X6.out) (by omega)).mono ?_
  rintro e w7 ⟨u,rfl,RA,B⟩
  have hsz:=outS_sz m
  have hjust:okS m=true→accB (outS m)=true∧accBs (outS m)=m:=acc_just
  have hA7:=RA.v
  generalize outS m=x at hsz hjust hA7
  generalize okS m=ok at hjust ⊢
  obtain ⟨xa0,xc0,xa1,xc1,rfl⟩:=hA7.formA
  have AB:Below w7.heap.size w7 (w7.alloc (.cells #[.int .i64 x.valid,.slice xa0 x.boxes.length xc0,.slice xa1 x.seen.length xc1] 26)):=(Below.refl _ _).alloc (Nat.le_refl _) _
  have X8:=hidm (Below.step (Below.step X6.out B) AB)
  have K8:=hidm (box_new w7 (.cells #[.int .i64 x.valid,.slice xa0 x.boxes.length xc0,.slice xa1 x.seen.length xc1] 26))
  have HX8:=hidm (hA7.below AB)
  have HM8:=hidm ((HM.out.below B).below AB)
  have HJ:=hidm hjust
  clear RA B AB X6 HM hA7 hjust
  go_upto_region 11 with fail
  generalize w7.alloc (.cells #[.int .i64 x.valid,.slice xa0 x.boxes.length xc0,.slice xa1 x.seen.length xc1] 26)=w8 at X8 K8 HX8 HM8 ⊢
  obtain ⟨f0,f1,f2⟩:=bx3 K8.out
  have lA:=lt_of_heap K8.out
  go_wp2_with fail
  clear f0 f1 f2 lA
  refine (implAccountBytes_r _ x _ HX8.out hsz).mono ?_
  rintro e w9 ⟨z,rfl,R9,B⟩
  have HZ:=hidm R9.bs
  obtain ⟨za,zc,rfl⟩:=R9.bs.form
  have X9:=hidm (Below.step X8.out B)
  have HM9:=hidm (HM8.out.below B)
  clear R9 B X8 K8 HX8 HM8
  cases ok
  ·go_wp2
   go_ret
   exact ⟨by simp,X9.out⟩
  ·obtain ⟨j0,j1⟩:=HJ.out rfl
   have HZ9:Hid (Bs w9 (.slice za (outB x).length zc) m):=by
    have h:=HZ.out
    have e:outB x=m:=by unfold outB;rw [j0];exact j1
    rw [e] at h ⊢
    exact h
   clear HZ HJ j1
   rw [j0]
   go_wp2_with fail
   refine (sameBytes_yes _ _ m _ HZ9.out HM9.out).mono ?_
   rintro e w10 ⟨rfl,B⟩
   have X10:=hidm (Below.step X9.out B)
   clear B X9 HZ9 HM9
   go_wp2
   go_ret
   exact ⟨by simp,X10.out⟩

end Go.Proofs.YtnlhkgoppjejeaaDoor

/- From what a row reads of an argument to what the walks ask: a slice of bytes that came in. -/
namespace Go.Proofs.YtnlhkgoppjejeaaDoor
open Go.ChangeShapes Go.WideShapes Go.ChangeAt Go.RowKit

theorem ownKnob_none:ownKnob Tryd.prog.godebug=none:=by kernel_rfl
theorem laidOut:laidOutB Tryd.prog=true:=by kernel_rfl

theorem wf_byte {n:Int} (h:(Lit.int .u8 n).wf=true):0≤n∧n≤255:=bounds_u8 h
/-- A slice of bytes that came in, as the walks want it. -/
theorem open_bytes {H:Type} {enc:TypeId × Value→H} {W:World} {base:Nat} {a:Option Addr} {len cap:Nat} {d:DataW H} {p:List MemPlace}
  (h:DataW.Trod enc Tryd.prog W base (fun _=>true) true 22 (.slice a len cap) d p):∃ l,Bs W (.slice a len cap) l:=by
 obtain ⟨fuel,hf⟩:=h
 rcases open_ints Tryd.underlying22 Tryd.underlying5 (by kernel_rfl) hf with ⟨hcs,_⟩ | ⟨x,l,c,zs,hcs,_,hl,hm,hz,_,hcell,hwz⟩
 ·simp [Value.cells] at hcs
  obtain ⟨rfl,rfl,rfl⟩:=hcs
  exact ⟨[],oct_nil,none,0,rfl,by simp,by simp,fun _=>rfl,fun h=>absurd h (by simp)⟩
 ·simp [Value.cells] at hcs
  obtain ⟨rfl,rfl,rfl⟩:=hcs
  simp at hz
  have ht:(zs.take len).length=len:=by simp;omega
  refine ⟨zs.take len,fun x hx=>wf_byte (hwz x (List.mem_of_mem_take hx)),some x,cap,by rw [ht],by omega,hm,(fun h=>by cases h),fun hp=>?_⟩
  rw [ht] at hp
  obtain ⟨b,off,spot⟩:=x
  have h0:=hcell 0 (by omega)
  have hspot:spot=none:=by simpa [Addr.add] using World.cell?_spot h0
  subst hspot
  refine ⟨b,off,rfl,?_,fun i hi=>?_⟩
  ·have:=World.block_lt_of_cell? W _ h0
   simpa [Addr.add] using this
  ·rw [ht] at hi
   have:=hcell i (by omega)
   rw [Addr.add_lit] at this
   rw [this]
   simp [hi]

end Go.Proofs.YtnlhkgoppjejeaaDoor

/- What the laid variable errGaveUp gives a walk; a world that meets it. -/
namespace Go.Proofs.YtnlhkgoppjejeaaDoor
open Go.ChangeShapes Go.WideShapes Go.ChangeAt Go.RowKit Go.Stop

theorem gvN : Tryd.prog.globalNamed "loop.example/g00359/impl.errGaveUp" = some 1 := by kernel_rfl
theorem gvType:(Tryd.prog.globals[1]?).map (·.type)=some 101:=by kernel_rfl
theorem cellsE:Tryd.prog.cellsOf 143=1:=by kernel_rfl
theorem cellsS:Tryd.prog.cellsOf 9=1:=by kernel_rfl
theorem starE : "*" ++ "errors.errorString" = "*errors.errorString" := by decide
theorem rowE (u : TypeId) (h : Tryd.prog.typeName? 3 u = some "*errors.errorString") : u = 127 :=
 typeName_ptr_named (nm := "errors.errorString") (by rw [starE]; kernel_rfl) (by kernel_rfl) (by decide) u (by rw [starE]; exact h)

abbrev laidL : List (String × DataW Unit) := [("loop.example/g00359/impl.errGaveUp", Rows.laid_loop_example_g00359_impl_errGaveUp)]
theorem sent_of_laid {W : World} (h : laidMetH Tryd.prog laidL W) : ∃ ea, W.var? Tryd.prog "loop.example/g00359/impl.errGaveUp" = some #[.iface 127 (.pointer (some ea))] ∧ Gave W ea := by
 have h':laidMet Tryd.prog laidL W:=h
 obtain ⟨ea,s,hv,-⟩:=laid_sentinel h' gvN gvType Tryd.underlying101 rowE Tryd.underlying127 Tryd.underlying143 rfl rfl Tryd.underlying9 cellsE cellsS
 exact ⟨ea,hv,by simpa [Gave] using World.var?_cell gvN hv 0⟩

abbrev gaveS:ByteArray:={ data:=#[116,104,101,32,114,101,97,100,101,114,32,103,97,118,101,32,117,112] }
noncomputable def low:Nat:=(World.holding Tryd.prog default ⟨#[],#[],[]⟩).heap.size
noncomputable def laidWorld (os:Os):World :=
 let w0:=World.holding Tryd.prog os ⟨#[.cells #[.string gaveS] 143],#[],[]⟩
 { w0 with heap:=w0.heap.modify 1 fun
  | .cells _ t frozen=>.cells #[.iface 127 (.pointer (some ⟨low,0,none⟩))] t frozen
  | o=>o }
theorem laid_met (os:Os) (args:Array Value):laidMetH Tryd.prog laidL ((laidWorld os).forCall (fun _ _=>0) ⟨#[],args,[]⟩).memory :=
 laidMet_of_run (l:=laidL) (ps:=[.cell 1 0,.cell low 0]) 8 (by kernel_rfl) (by kernel_rfl) (by kernel_rfl)

end Go.Proofs.YtnlhkgoppjejeaaDoor
