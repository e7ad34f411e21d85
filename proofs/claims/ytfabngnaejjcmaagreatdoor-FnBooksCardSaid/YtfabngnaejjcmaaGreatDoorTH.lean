/- The proof's texts, part 43. -/
import Derived.Test.YtfabngnaejjcmaaGreatDoorT9
import Derived.Test.YtfabngnaejjcmaaGreatDoorTj
namespace Go.Proofs.YtfabngnaejjcmaaGreatDoor
set_option linter.unusedVariables false
set_option maxHeartbeats 4000000
set_option maxRecDepth 100000
/- What R3 of package impl do. -/
open Go.RowKit Go.Shelf
theorem ahf (u:Value) (m:aB) (bg:Nat) (vd:Int) (w:World) (hu:bT w u m) (hc:w.cell? ⟨bg,1,none⟩=some (.int .i64 vd)) (hb:bg < w.heap.size) :
  Calls Tryz.prog 110 #[u,.pointer (some ⟨bg,0,none⟩)] w λe w'=>e=.returned (.bool (decide (m.valid=vd)))/\Below w.heap.size w w':=by
 obtain⟨u0,u1,u2,rfl,g0,g1,g2,-⟩:=hu;obtain⟨a0,n0,c0,rfl⟩:=g0.aP;obtain⟨a1,c1,rfl,-⟩:=g1.form;obtain⟨a2,c2,rfl,-⟩:=g2.form;clear g0 g1 g2;obtain⟨name,valid,next,seq,ah,au,lost⟩:=m;simp only
 go_enter Tryz.func110,Tryz.ntmps110;go_wp2;go_ret;exact⟨aN (by rw[Bool.eq_iff_iff];simp),bn _ _⟩
theorem ahg (v:Value) (x:aT) (w:World) (hv:mF w v x) :
  Calls Tryz.prog 76 #[v] w λe w'=>e=.returned (.bool (Dc x))/\Below w.heap.size w w':=by
 obtain⟨u0,u1,rfl,g0,g1,i0⟩:=hv;have H0:Hid (∀wi,Below w.heap.size w wi->lH wi u0 x.boxes/\xY wi u1 x.seen):=λwi h=>⟨g0.below CV h,g1.below Qz h⟩;obtain⟨a0,c0,rfl,m0,m1⟩:=g0.form;obtain⟨a1,c1,rfl,m2,m3⟩:=g1.form;clear g0 g1;have HK:Hid ((w.alloc (.cells #[.int .i64 x.valid,.slice a0 x.boxes.length c0,.slice a1 x.seen.length c1] 39)).heap[w.heap.size]?=some (.cells #[.int .i64 x.valid,.slice a0 x.boxes.length c0,.slice a1 x.seen.length c1] 39)):=aW w _
 have HX:Hid (Below w.heap.size w (w.alloc (.cells #[.int .i64 x.valid,.slice a0 x.boxes.length c0,.slice a1 x.seen.length c1] 39))):=bn _ _;have HC:Hid (Dc x=(aQ x.valid 0 1000000 && (decide (x.boxes.length<=4) && (vV x.seen && (List.range x.boxes.length).all (Ae x))))):=rfl;have hy1:=gW x.valid 0 1000000;have hy2:=Z6 _ x.seen _ (H0.out _ HX.out).2;generalize aQ x.valid 0 1000000=X1 at HC hy1;generalize vV x.seen=X2 at HC hy2;cases X1 with
 | false =>
  go_enter Tryz.func76,Tryz.ntmps76;go_wp2_with fail
  refine(hy1 _).mono ?_;rintro e w' ⟨rfl,rfl⟩;go_wp2;go_ret;exact⟨aN HC.out,HX.out⟩
 | true =>
 rcases Nat.lt_or_ge 4 x.boxes.length with h4 | h4
 ·rw[decide_eq_false (Nat.not_le_of_lt h4)] at HC
  have h4':(4:Int) < x.boxes.length:=by omega
  go_enter Tryz.func76,Tryz.ntmps76;go_wp2_with fail
  refine(hy1 _).mono ?_;rintro e w' ⟨rfl,rfl⟩;go_wp2;go_ret;exact⟨aN HC.out,HX.out⟩
 rw[decide_eq_true h4] at HC;have h4':(x.boxes.length:Int)<=4:=by omega
 cases X2 with
 | false =>
  go_enter Tryz.func76,Tryz.ntmps76;go_wp2_with fail
  refine(hy1 _).mono ?_;rintro e w' ⟨rfl,rfl⟩;go_wp2_with fail
  refine hy2.mono ?_;rintro e w' ⟨rfl,rfl⟩;go_wp2;go_ret;exact⟨aN HC.out,HX.out⟩
 | true =>
 have HS:Hid (Dc x=(List.range x.boxes.length).all (Ae x)):=HC.out;clear HC
 go_enter Tryz.func76,Tryz.ntmps76;go_wp2_with fail
 refine(hy1 _).mono ?_;rintro e w' ⟨rfl,rfl⟩;go_wp2_with fail
 refine hy2.mono ?_;rintro e w' ⟨rfl,rfl⟩;clear hy1 hy2;go_wp2
 go_loopw [3,4,5,25] (λ_ _ _ i wr=>∃k:Nat,k<=x.boxes.length/\i=.int .i64 k/\Hid (∀j,j < k->Ae x j=true)/\Hid (wr.heap[w.heap.size]?=some (.cells #[.int .i64 x.valid,.slice a0 x.boxes.length c0,.slice a1 x.seen.length c1] 39))/\Hid (Below w.heap.size w wr)) (λ_ _ _ i _=>x.boxes.length - (intOf i).toNat)
 case atStart=>exact⟨0,Nat.zero_le _,rfl,(λj hj=>absurd hj (Nat.not_lt_zero _)),HK,HX⟩
 case round =>
  obtain⟨k,hk,rfl,hA,hK,hB⟩:=hrel
  by_cases hlt:k < x.boxes.length
  ·obtain⟨m,hm⟩:∃m,x.boxes[k]?=some m:=⟨x.boxes[k],bK hlt⟩
   obtain⟨b,off,cap',u0,u1,u2,hv',hlb,d0,d1,d2,d3,d4,d5,d6,hu0,hu1,hu2,j0,j1,j2,j3⟩:=lH.cell (H0.out wr hB.out).1 k m hm;simp only[Value.slice.injEq,true_and] at hv';obtain⟨rfl,rfl⟩:=hv';obtain⟨ua,un,uc,rfl⟩:=hu0.aP;obtain⟨va,vc,rfl,-⟩:=hu1.form;obtain⟨wa,wc,rfl,-⟩:=hu2.form;have lZ:Hid (∀wi,Below wr.heap.size wr wi->bT wi (.agg #[.slice ua un uc,.int .i64 m.valid,.int .i64 m.next,.int .i64 m.seq,.slice va m.ah.length vc,.slice wa m.au.length wc,.int .i64 m.lost]) m):=λwi h=>⟨_,_,_,rfl,hu0.below h,hu1.below kP h,hu2.below kN h,j0,j1,j2,j3⟩
   have HE:Hid (Ae x k=(Da m x.valid && (Db x.boxes m k && !((x.boxes.take k).any λo=>decide (o.valid=m.valid))))):=by simp[Hid,Ae,hm]
   have kD:Hid ((wr.alloc (.cells #[.slice ua un uc,.int .i64 m.valid,.int .i64 m.next,.int .i64 m.seq,.slice va m.ah.length vc,.slice wa m.au.length wc,.int .i64 m.lost] 70)).heap[wr.heap.size]?=some (.cells #[.slice ua un uc,.int .i64 m.valid,.int .i64 m.next,.int .i64 m.seq,.slice va m.ah.length vc,.slice wa m.au.length wc,.int .i64 m.lost] 70)):=aW wr _
   have mJ:Hid ((wr.alloc (.cells #[.slice ua un uc,.int .i64 m.valid,.int .i64 m.next,.int .i64 m.seq,.slice va m.ah.length vc,.slice wa m.au.length wc,.int .i64 m.lost] 70)).heap[w.heap.size]?=some (.cells #[.int .i64 x.valid,.slice (some ⟨b,off,none⟩) x.boxes.length c0,.slice a1 x.seen.length c1] 39)):=vR hK.out _;have HA1:Hid (Below wr.heap.size wr (wr.alloc (.cells #[.slice ua un uc,.int .i64 m.valid,.int .i64 m.next,.int .i64 m.seq,.slice va m.ah.length vc,.slice wa m.au.length wc,.int .i64 m.lost] 70))):=bn _ _
   have HB1:Hid (Below w.heap.size w (wr.alloc (.cells #[.slice ua un uc,.int .i64 m.valid,.int .i64 m.next,.int .i64 m.seq,.slice va m.ah.length vc,.slice wa m.au.length wc,.int .i64 m.lost] 70))):=Below.step hB.out HA1.out
   have vN:Hid (∀wi,Below (wr.alloc (.cells #[.slice ua un uc,.int .i64 m.valid,.int .i64 m.next,.int .i64 m.seq,.slice va m.ah.length vc,.slice wa m.au.length wc,.int .i64 m.lost] 70)).heap.size (wr.alloc (.cells #[.slice ua un uc,.int .i64 m.valid,.int .i64 m.next,.int .i64 m.seq,.slice va m.ah.length vc,.slice wa m.au.length wc,.int .i64 m.lost] 70)) wi->Calls Tryz.prog 109 #[.slice (some ⟨b,off,none⟩) k c0,.func (.func 110) #[] #[.pointer (some ⟨wr.heap.size,0,none⟩)]] wi λe w'=>e=.returned (.bool ((x.boxes.take k).any λo=>decide (o.valid=m.valid)))/\Below wi.heap.size wi w'):=λwi hbi =>
    aaJ 110 #[.pointer (some ⟨wr.heap.size,0,none⟩)] (λo=>decide (o.valid=m.valid)) _ (x.boxes.take k) _ (((H0.out _ (Below.step HB1.out hbi)).1).Ho k hk) (λargs w=>by kernel_rfl) (λwj o u hbj hu=>ahf u o wr.heap.size m.valid wj hu (fV (aA hbj (aA hbi kD.out))).2.1 (lt_of_heap (aA hbj (aA hbi kD.out))))
   generalize ((x.boxes.take k).any λo=>decide (o.valid=m.valid))=X3 at vN HE;have dJ:=λwi (h:bT wi (.agg #[.slice ua un uc,.int .i64 m.valid,.int .i64 m.next,.int .i64 m.seq,.slice va m.ah.length vc,.slice wa m.au.length wc,.int .i64 m.lost]) m)=>aaH _ m x.valid wi h;generalize Da m x.valid=X1 at HE dJ;have P9:=hK.out;obtain⟨e0,e1,e2⟩:=fU P9;have hlA:=lt_of_heap P9;clear P9 hm
   have DR:Below (wr.alloc (.cells #[.slice ua un uc,.int .i64 m.valid,.int .i64 m.next,.int .i64 m.seq,.slice va m.ah.length vc,.slice wa m.au.length wc,.int .i64 m.lost] 70)).heap.size (wr.alloc (.cells #[.slice ua un uc,.int .i64 m.valid,.int .i64 m.next,.int .i64 m.seq,.slice va m.ah.length vc,.slice wa m.au.length wc,.int .i64 m.lost] 70)) (wr.alloc (.cells #[.slice ua un uc,.int .i64 m.valid,.int .i64 m.next,.int .i64 m.seq,.slice va m.ah.length vc,.slice wa m.au.length wc,.int .i64 m.lost] 70)).drew:=(bd _ _)
   have HF:Hid (∀w',Below (wr.alloc (.cells #[.slice ua un uc,.int .i64 m.valid,.int .i64 m.next,.int .i64 m.seq,.slice va m.ah.length vc,.slice wa m.au.length wc,.int .i64 m.lost] 70)).heap.size (wr.alloc (.cells #[.slice ua un uc,.int .i64 m.valid,.int .i64 m.next,.int .i64 m.seq,.slice va m.ah.length vc,.slice wa m.au.length wc,.int .i64 m.lost] 70)) w'->w'.cell? ⟨wr.heap.size,0,none⟩=some (.slice ua un uc)/\w'.cell? ⟨wr.heap.size,1,none⟩=some (.int .i64 m.valid)/\w'.cell? ⟨wr.heap.size,2,none⟩=some (.int .i64 m.next)/\w'.cell? ⟨wr.heap.size,3,none⟩=some (.int .i64 m.seq)/\w'.cell? ⟨wr.heap.size,4,none⟩=some (.slice va m.ah.length vc)/\w'.cell? ⟨wr.heap.size,5,none⟩=some (.slice wa m.au.length wc)/\w'.cell? ⟨wr.heap.size,6,none⟩=some (.int .i64 m.lost)/\w'.cell? ⟨w.heap.size,0,none⟩=some (.int .i64 x.valid)):=by
    intro w' h;obtain⟨r0,r1,r2,r3,r4,r5,r6⟩:=fV (aA h kD.out);exact⟨r0,r1,r2,r3,r4,r5,r6,(fU (aA h mJ.out)).1⟩
   cases X1 with
   | false =>
    go_wp2
    refine wp_region_held_drew (S:=λw'=>w'.cell? ⟨wr.heap.size,0,none⟩=some (.slice ua un uc)/\w'.cell? ⟨wr.heap.size,1,none⟩=some (.int .i64 m.valid)/\w'.cell? ⟨wr.heap.size,2,none⟩=some (.int .i64 m.next)/\w'.cell? ⟨wr.heap.size,3,none⟩=some (.int .i64 m.seq)/\w'.cell? ⟨wr.heap.size,4,none⟩=some (.slice va m.ah.length vc)/\w'.cell? ⟨wr.heap.size,5,none⟩=some (.slice wa m.au.length wc)/\w'.cell? ⟨wr.heap.size,6,none⟩=some (.int .i64 m.lost)/\w'.cell? ⟨w.heap.size,0,none⟩=some (.int .i64 x.valid)) (by kernel_rfl) (HF.out _ DR) (λal3=>(show wpAnyH _ _ _ _ _ 21 #[false,false,false,false,false,false,false,false,false,false,false,false,false,false,false,false,false,false,false,false,false] _ _ from ?_))
    refine tq 0 34 al3 ?_;refine tq 1 35 al3 ?_;refine tq 2 36 al3 ?_;refine wpAnyH_ready (rs:=[3]) (by kernel_rfl) (by simp) ?_;refine AllReadyH.cons rfl (λK hK=>?_) AllReadyH.nil;go_simp;refine(dJ _ (lZ.out _ (Below.step HA1.out DR))).mono ?_;rintro e w1 ⟨rfl,B⟩;refine hK.out _ _ (HF.out _ (Below.step DR B)) (λal3=>?_);clear hK K;refine tq 4 38 al3 ?_;refine tq 5 39 al3 ?_;refine Dh (by kernel_rfl) (λ_ _ _ _ _ h=>h) al3 [6,7,8,9,10,11,12,13,14,15,16,17,18,19] [40,41,42,43,44,45,46,47,48,49,50,51,52,53] _ _ _ (by kernel_rfl) ?_
    simp only[List.foldl_cons,List.foldl_nil,Act.put,sA,s0,sS];refine tq 20 54 al3 ?_;refine wpAnyH_done (by kernel_rfl) ?_ _;clear dJ vN HF lZ kD mJ HA1
    repeat clear al3
    go_wp2;go_ret;exact⟨aN (by rw[HS.out];exact lJ k hlt HE.out),Below.step (Below.step HB1.out DR) B⟩
   | true =>
    by_cases hkz:(0:Int) < (k:Int)
    rotate_left
    ·have Gn:Hid (Db x.boxes m k=true):=by
          have:k=0:=by omega
          subst this;rfl
     rw[Gn.out,Bool.true_and,Bool.true_and] at HE;clear Gn;have hkN:¬0 < k:=by omega
     have hd:decide (0 < k)=false:=by simpa using hkN
     go_wp2
     refine wp_region_held_drew (S:=λw'=>w'.cell? ⟨wr.heap.size,0,none⟩=some (.slice ua un uc)/\w'.cell? ⟨wr.heap.size,1,none⟩=some (.int .i64 m.valid)/\w'.cell? ⟨wr.heap.size,2,none⟩=some (.int .i64 m.next)/\w'.cell? ⟨wr.heap.size,3,none⟩=some (.int .i64 m.seq)/\w'.cell? ⟨wr.heap.size,4,none⟩=some (.slice va m.ah.length vc)/\w'.cell? ⟨wr.heap.size,5,none⟩=some (.slice wa m.au.length wc)/\w'.cell? ⟨wr.heap.size,6,none⟩=some (.int .i64 m.lost)/\w'.cell? ⟨w.heap.size,0,none⟩=some (.int .i64 x.valid)) (by kernel_rfl) (HF.out _ DR) (λal3=>(show wpAnyH _ _ _ _ _ 21 #[false,false,false,false,false,false,false,false,false,false,false,false,false,false,false,false,false,false,false,false,false] _ _ from ?_))
     refine tq 0 34 al3 ?_;refine tq 1 35 al3 ?_;refine tq 2 36 al3 ?_;refine wpAnyH_ready (rs:=[3]) (by kernel_rfl) (by simp) ?_;refine AllReadyH.cons rfl (λK hK=>?_) AllReadyH.nil;go_simp;refine(dJ _ (lZ.out _ (Below.step HA1.out DR))).mono ?_;rintro e w1 ⟨rfl,B⟩;refine hK.out _ _ (HF.out _ (Below.step DR B)) (λal3=>?_);clear hK K;refine tq 4 38 al3 ?_;refine tq 5 39 al3 ?_;refine tq 6 40 al3 ?_;refine tq 7 41 al3 ?_;refine tq 8 42 al3 ?_;refine Dh (by kernel_rfl) (λ_ _ _ _ _ h=>h) al3 [9,10,11,12,13,14,15,16,17,18] [43,44,45,46,47,48,49,50,51,52] _ _ _ (by kernel_rfl) ?_
     simp only[List.foldl_cons,List.foldl_nil,Act.put,sA,s0,sS];refine tq 19 53 al3 ?_;refine tq 20 54 al3 ?_;refine wpAnyH_done (by kernel_rfl) ?_ _
     repeat clear al3
     have c3':=vN.out w1 (Below.step DR B);have HB2:Hid (Below w.heap.size w w1):=Below.step (Below.step HB1.out DR) B;have nC:Hid (w1.heap[w.heap.size]?=some (.cells #[.int .i64 x.valid,.slice (some ⟨b,off,none⟩) x.boxes.length c0,.slice a1 x.seen.length c1] 39)):=aA B (aA DR mJ.out);clear B DR HB1 mJ HA1 dJ HF vN;cases X3 with
     | true =>
      go_wp2_with fail
      refine c3'.mono ?_;rintro e w3 ⟨rfl,B⟩;go_wp2;go_ret;exact⟨aN (by rw[HS.out];exact lJ k hlt HE.out),Below.step HB2.out B⟩
     | false =>
      go_wp2_with fail
      refine c3'.mono ?_;rintro e w3 ⟨rfl,B⟩;have HB3:Hid (Below w.heap.size w w3):=Below.step HB2.out B;have yC:Hid (w3.heap[w.heap.size]?=some (.cells #[.int .i64 x.valid,.slice (some ⟨b,off,none⟩) x.boxes.length c0,.slice a1 x.seen.length c1] 39)):=aA B nC.out;clear B HB2 nC;go_wp2;go_roundw
      case rel =>
       refine⟨k+1,by omega,by go_num,(show Hid _ from λi hi=>?_),yC,HB3⟩
       by_cases e:i=k
       ·subst e;exact HE.out
       ·exact hA.out i (by omega)
      case measure=>simp[intOf];omega
    ·obtain⟨j,hj⟩:∃j,k=j+1:=⟨k - 1,by omega⟩
     have hjk:(j:Int) < (k:Int):=by omega
     have hkN:0 < k:=by omega
     have hd:decide (0 < k)=true:=by simpa using hkN
     have hj0:(0:Int)<=(j:Int):=by omega
     have hw1:IntKind.i64.wrap ((k:Int) - 1)=(j:Int):=by rw[IntWalk.i64_in _ (by omega)];omega
     have HJ:Hid (k=j+1):=hj;clear hj;obtain⟨m',hm'⟩:∃m',x.boxes[j]?=some m':=⟨x.boxes[j]'(by have:=HJ.out;omega),bK (by have:=HJ.out;omega)⟩;obtain⟨b2,off2,cap2,p0,q1,q2,hv2,Xa,t0,-,-,-,-,-,-,hp0,-⟩:=lH.cell (H0.out wr hB.out).1 j m' hm';simp only[Value.slice.injEq,true_and,Option.some.injEq,Addr.mk.injEq,and_true] at hv2;obtain⟨⟨rfl,rfl⟩,rfl⟩:=hv2;obtain⟨pa,pn,pc,rfl⟩:=hp0.aP;have Gn:Hid (Db x.boxes m k=ku m'.name m.name):=by rw[HJ.out];simp[Hid,Db,nameAt,hm']
     rw[Gn.out] at HE;have HCM:Hid (∀wi,Below wr.heap.size wr wi->Calls Tryz.prog 108 #[.slice pa pn pc,.slice ua un uc] wi λe w'=>e=.returned (.int .i64 (Lib.compareBytes (jG m'.name) (jG m.name)))/\w'=wi):=λwi h=>abZ _ _ m'.name m.name wi (hp0.below h) (hu0.below h);have CG:Hid (ku m'.name m.name = !decide (0<=Lib.compareBytes (jG m'.name) (jG m.name))):=by simp only[Hid];rw[QE];simp[ku]
     generalize Lib.compareBytes (jG m'.name) (jG m.name)=cv at HCM CG;generalize ku m'.name m.name=L at HE CG
     have xW:Hid (∀w',Below (wr.alloc (.cells #[.slice ua un uc,.int .i64 m.valid,.int .i64 m.next,.int .i64 m.seq,.slice va m.ah.length vc,.slice wa m.au.length wc,.int .i64 m.lost] 70)).heap.size (wr.alloc (.cells #[.slice ua un uc,.int .i64 m.valid,.int .i64 m.next,.int .i64 m.seq,.slice va m.ah.length vc,.slice wa m.au.length wc,.int .i64 m.lost] 70)) w'->(w'.cell? ⟨wr.heap.size,0,none⟩=some (.slice ua un uc)/\w'.cell? ⟨wr.heap.size,1,none⟩=some (.int .i64 m.valid)/\w'.cell? ⟨wr.heap.size,2,none⟩=some (.int .i64 m.next)/\w'.cell? ⟨wr.heap.size,3,none⟩=some (.int .i64 m.seq)/\w'.cell? ⟨wr.heap.size,4,none⟩=some (.slice va m.ah.length vc)/\w'.cell? ⟨wr.heap.size,5,none⟩=some (.slice wa m.au.length wc)/\w'.cell? ⟨wr.heap.size,6,none⟩=some (.int .i64 m.lost)/\w'.cell? ⟨w.heap.size,0,none⟩=some (.int .i64 x.valid))/\w'.cell? ⟨b,off+j * 7,none⟩=some (.slice pa pn pc)):=by
      intro w' h;exact⟨HF.out w' h,((Below.step HA1.out h).cell (p:=⟨b,off+j * 7,none⟩) hlb).trans t0⟩
     clear hm' Gn
     by_cases hcv:0<=cv
     ·have HL:Hid (L=false):=by rw[Hid,CG.out,decide_eq_true hcv];rfl
      clear CG;go_wp2
      refine wp_region_held_drew (S:=λw'=>(w'.cell? ⟨wr.heap.size,0,none⟩=some (.slice ua un uc)/\w'.cell? ⟨wr.heap.size,1,none⟩=some (.int .i64 m.valid)/\w'.cell? ⟨wr.heap.size,2,none⟩=some (.int .i64 m.next)/\w'.cell? ⟨wr.heap.size,3,none⟩=some (.int .i64 m.seq)/\w'.cell? ⟨wr.heap.size,4,none⟩=some (.slice va m.ah.length vc)/\w'.cell? ⟨wr.heap.size,5,none⟩=some (.slice wa m.au.length wc)/\w'.cell? ⟨wr.heap.size,6,none⟩=some (.int .i64 m.lost)/\w'.cell? ⟨w.heap.size,0,none⟩=some (.int .i64 x.valid))/\w'.cell? ⟨b,off+j * 7,none⟩=some (.slice pa pn pc)) (by kernel_rfl) (xW.out _ DR) (λal3=>(show wpAnyH _ _ _ _ _ 21 #[false,false,false,false,false,false,false,false,false,false,false,false,false,false,false,false,false,false,false,false,false] _ _ from ?_))
      refine tq 0 34 al3 ?_;refine tq 1 35 al3 ?_;refine tq 2 36 al3 ?_;refine wpAnyH_ready (rs:=[3]) (by kernel_rfl) (by simp) ?_;refine AllReadyH.cons rfl (λK hK=>?_) AllReadyH.nil;go_simp;refine(dJ _ (lZ.out _ (Below.step HA1.out DR))).mono ?_;rintro e w1 ⟨rfl,B⟩;refine hK.out _ _ (xW.out _ (Below.step DR B)) (λal3=>?_);clear hK K;refine tq 4 38 al3 ?_;refine tq 5 39 al3 ?_;refine tq 6 40 al3 ?_;refine tq 7 41 al3 ?_;refine tq 8 42 al3 ?_;refine tq 9 43 al3 ?_;refine tq 10 44 al3 ?_;refine tq 11 45 al3 ?_;refine tq 12 46 al3 ?_;refine tq 13 47 al3 ?_;refine tq 14 48 al3 ?_
      refine tq 15 49 al3 ?_;refine tq 16 50 al3 ?_;refine wpAnyH_ready (rs:=[17]) (by kernel_rfl) (by simp) ?_;refine AllReadyH.cons rfl (λK hK=>?_) AllReadyH.nil;go_simp;refine(HCM.out _ (Below.step (Below.step HA1.out DR) B)).mono ?_;rintro e w2 ⟨rfl,rfl⟩;refine hK.out _ _ (xW.out _ (Below.step DR B)) (λal3=>?_);clear hK K;refine tq 18 52 al3 ?_;refine tq 19 53 al3 ?_;refine tq 20 54 al3 ?_;refine wpAnyH_done (by kernel_rfl) ?_ _;clear dJ vN HF lZ kD mJ HA1 xW HCM
      repeat clear al3
      go_wp2;go_ret;exact⟨aN (by rw[HS.out];exact lJ k hlt (by rw[HE.out,HL.out];rfl)),Below.step (Below.step HB1.out DR) B⟩
     ·have HL:Hid (L=true):=by rw[Hid,CG.out,decide_eq_false hcv];rfl
      rw[HL.out,Bool.true_and,Bool.true_and] at HE;clear CG;go_wp2
      refine wp_region_held_drew (S:=λw'=>(w'.cell? ⟨wr.heap.size,0,none⟩=some (.slice ua un uc)/\w'.cell? ⟨wr.heap.size,1,none⟩=some (.int .i64 m.valid)/\w'.cell? ⟨wr.heap.size,2,none⟩=some (.int .i64 m.next)/\w'.cell? ⟨wr.heap.size,3,none⟩=some (.int .i64 m.seq)/\w'.cell? ⟨wr.heap.size,4,none⟩=some (.slice va m.ah.length vc)/\w'.cell? ⟨wr.heap.size,5,none⟩=some (.slice wa m.au.length wc)/\w'.cell? ⟨wr.heap.size,6,none⟩=some (.int .i64 m.lost)/\w'.cell? ⟨w.heap.size,0,none⟩=some (.int .i64 x.valid))/\w'.cell? ⟨b,off+j * 7,none⟩=some (.slice pa pn pc)) (by kernel_rfl) (xW.out _ DR) (λal3=>(show wpAnyH _ _ _ _ _ 21 #[false,false,false,false,false,false,false,false,false,false,false,false,false,false,false,false,false,false,false,false,false] _ _ from ?_))
      refine tq 0 34 al3 ?_;refine tq 1 35 al3 ?_;refine tq 2 36 al3 ?_;refine wpAnyH_ready (rs:=[3]) (by kernel_rfl) (by simp) ?_;refine AllReadyH.cons rfl (λK hK=>?_) AllReadyH.nil;go_simp;refine(dJ _ (lZ.out _ (Below.step HA1.out DR))).mono ?_;rintro e w1 ⟨rfl,B⟩;refine hK.out _ _ (xW.out _ (Below.step DR B)) (λal3=>?_);clear hK K;refine tq 4 38 al3 ?_;refine tq 5 39 al3 ?_;refine tq 6 40 al3 ?_;refine tq 7 41 al3 ?_;refine tq 8 42 al3 ?_;refine tq 9 43 al3 ?_;refine tq 10 44 al3 ?_;refine tq 11 45 al3 ?_;refine tq 12 46 al3 ?_;refine tq 13 47 al3 ?_;refine tq 14 48 al3 ?_
      refine tq 15 49 al3 ?_;refine tq 16 50 al3 ?_;refine wpAnyH_ready (rs:=[17]) (by kernel_rfl) (by simp) ?_;refine AllReadyH.cons rfl (λK hK=>?_) AllReadyH.nil;go_simp;refine(HCM.out _ (Below.step (Below.step HA1.out DR) B)).mono ?_;rintro e w2 ⟨rfl,rfl⟩;refine hK.out _ _ (xW.out _ (Below.step DR B)) (λal3=>?_);clear hK K;refine tq 18 52 al3 ?_;refine tq 19 53 al3 ?_;refine tq 20 54 al3 ?_;refine wpAnyH_done (by kernel_rfl) ?_ _
      repeat clear al3
      clear xW HCM;have c3':=vN.out w2 (Below.step DR B);have HB2:Hid (Below w.heap.size w w2):=Below.step (Below.step HB1.out DR) B;have nC:Hid (w2.heap[w.heap.size]?=some (.cells #[.int .i64 x.valid,.slice (some ⟨b,off,none⟩) x.boxes.length c0,.slice a1 x.seen.length c1] 39)):=aA B (aA DR mJ.out);clear B DR HB1 mJ HA1 dJ HF vN;cases X3 with
      | true =>
       go_wp2_with fail
       refine c3'.mono ?_;rintro e w3 ⟨rfl,B⟩;go_wp2;go_ret;exact⟨aN (by rw[HS.out];exact lJ k hlt HE.out),Below.step HB2.out B⟩
      | false =>
       go_wp2_with fail
       refine c3'.mono ?_;rintro e w3 ⟨rfl,B⟩;have HB3:Hid (Below w.heap.size w w3):=Below.step HB2.out B;have yC:Hid (w3.heap[w.heap.size]?=some (.cells #[.int .i64 x.valid,.slice (some ⟨b,off,none⟩) x.boxes.length c0,.slice a1 x.seen.length c1] 39)):=aA B nC.out;clear B HB2 nC;go_wp2;go_roundw
       case rel =>
        refine⟨k+1,by omega,by go_num,(show Hid _ from λi hi=>?_),yC,HB3⟩
        by_cases e:i=k
        ·subst e;exact HE.out
        ·exact hA.out i (by omega)
       case measure=>simp[intOf];omega
  ·obtain rfl:k=x.boxes.length:=by omega
   go_wp2;go_ret;exact⟨aN (by rw[HS.out];exact CZ hA.out),hB.out⟩
end Go.Proofs.YtfabngnaejjcmaaGreatDoor
