/- The proof's texts, part 27. -/
import Derived.Test.YtlneebmlhblleaaGreatTq
namespace Go.Proofs.YtlneebmlhblleaaGreat
open Go.RowKit
set_option linter.unusedVariables false
set_option linter.unusedSimpArgs false
set_option maxHeartbeats 8000000
set_option maxRecDepth 100000
/- What Tk of package impl do. -/
open Go.RowKit Go.Shelf
theorem acj (u:Value) (m:aD) (bg:Nat) (vd:Int) (w:World) (hu:bK w u m) (hc:w.cell? ⟨bg,1,none⟩=some (.int .i64 vd)) (hb:bg < w.heap.size) :
  Calls Tryz.prog 69 #[u,.pointer (some ⟨bg,0,none⟩)] w fun e w'=>e=.returned (.bool (decide (m.valid=vd)))∧Below w.heap.size w w':=by
 obtain ⟨u0,u1,u2,rfl,g0,g1,g2,-⟩:=hu
 obtain ⟨a0,n0,c0,rfl⟩:=g0.aG
 obtain ⟨a1,c1,rfl,-⟩:=g1.form
 obtain ⟨a2,c2,rfl,-⟩:=g2.form
 clear g0 g1 g2
 obtain ⟨name,valid,next,seq,ah,au,lost⟩:=m
 simp only
 go_enter Tryz.func69,Tryz.ntmps69
 go_wp2
 go_ret
 exact ⟨aR (by rw [Bool.eq_iff_iff];simp),bn _ _⟩
theorem acn (v:Value) (x:aJ) (w:World) (hv:dM w v x) :
  Calls Tryz.prog 28 #[v] w fun e w'=>e=.returned (.bool (jg x))∧Below w.heap.size w w':=by
 obtain ⟨u0,u1,rfl,g0,g1,i0⟩:=hv
 have H0:Hid (∀ wi,Below w.heap.size w wi→cK wi u0 x.boxes∧dS wi u1 x.seen):=fun wi h=>⟨g0.below lq h,g1.below nP h⟩
 obtain ⟨a0,c0,rfl,m0,m1⟩:=g0.form
 obtain ⟨a1,c1,rfl,m2,m3⟩:=g1.form
 clear g0 g1
 have HK:Hid ((w.alloc (.cells #[.int .i64 x.valid,.slice a0 x.boxes.length c0,.slice a1 x.seen.length c1] 33)).heap[w.heap.size]?=some (.cells #[.int .i64 x.valid,.slice a0 x.boxes.length c0,.slice a1 x.seen.length c1] 33)):=aV w _
 have HX:Hid (Below w.heap.size w (w.alloc (.cells #[.int .i64 x.valid,.slice a0 x.boxes.length c0,.slice a1 x.seen.length c1] 33))):=bn _ _
 have HC:Hid (jg x=(aS x.valid 0 1000000 && (decide (x.boxes.length≤4) && (qd x.seen && (List.range x.boxes.length).all (qh x))))):=rfl
 have hy1:=jJ x.valid 0 1000000
 have hy2:=abB _ x.seen _ (H0.out _ HX.out).2
 generalize aS x.valid 0 1000000=X1 at HC hy1
 generalize qd x.seen=X2 at HC hy2
 cases X1 with
 | false =>
  go_enter Tryz.func28,Tryz.ntmps28
  go_wp2_with fail
  refine (hy1 _).mono ?_
  rintro e w' ⟨rfl,rfl⟩
  go_wp2
  go_ret
  exact ⟨aR HC.out,HX.out⟩
 | true =>
 rcases Nat.lt_or_ge 4 x.boxes.length with h4 | h4
 ·rw [decide_eq_false (Nat.not_le_of_lt h4)] at HC
  have h4':(4:Int) < x.boxes.length:=by omega
  go_enter Tryz.func28,Tryz.ntmps28
  go_wp2_with fail
  refine (hy1 _).mono ?_
  rintro e w' ⟨rfl,rfl⟩
  go_wp2
  go_ret
  exact ⟨aR HC.out,HX.out⟩
 rw [decide_eq_true h4] at HC
 have h4':(x.boxes.length:Int)≤4:=by omega
 cases X2 with
 | false =>
  go_enter Tryz.func28,Tryz.ntmps28
  go_wp2_with fail
  refine (hy1 _).mono ?_
  rintro e w' ⟨rfl,rfl⟩
  go_wp2_with fail
  refine hy2.mono ?_
  rintro e w' ⟨rfl,rfl⟩
  go_wp2
  go_ret
  exact ⟨aR HC.out,HX.out⟩
 | true =>
 have HS:Hid (jg x=(List.range x.boxes.length).all (qh x)):=HC.out
 clear HC
 go_enter Tryz.func28,Tryz.ntmps28
 go_wp2_with fail
 refine (hy1 _).mono ?_
 rintro e w' ⟨rfl,rfl⟩
 go_wp2_with fail
 refine hy2.mono ?_
 rintro e w' ⟨rfl,rfl⟩
 clear hy1 hy2
 go_wp2
 go_loopw [3,4,5,25] (fun _ _ _ i wr=>∃ k:Nat,k≤x.boxes.length∧i=.int .i64 k∧Hid (∀ j,j < k→qh x j=true)∧Hid (wr.heap[w.heap.size]?=some (.cells #[.int .i64 x.valid,.slice a0 x.boxes.length c0,.slice a1 x.seen.length c1] 33))∧Hid (Below w.heap.size w wr)) (fun _ _ _ i _=>x.boxes.length - (intOf i).toNat)
 case atStart=>exact ⟨0,Nat.zero_le _,rfl,(fun j hj=>absurd hj (Nat.not_lt_zero _)),HK,HX⟩
 case round =>
  obtain ⟨k,hk,rfl,hA,hK,hB⟩:=hrel
  by_cases hlt:k < x.boxes.length
  ·obtain ⟨m,hm⟩:∃ m,x.boxes[k]?=some m:=⟨x.boxes[k],aK hlt⟩
   obtain ⟨b,off,cap',u0,u1,u2,hv',hlb,d0,d1,d2,d3,d4,d5,d6,hu0,hu1,hu2,j0,j1,j2,j3⟩:=cK.cell (H0.out wr hB.out).1 k m hm
   simp only [Value.slice.injEq,true_and] at hv'
   obtain ⟨rfl,rfl⟩:=hv'
   obtain ⟨ua,un,uc,rfl⟩:=hu0.aG
   obtain ⟨va,vc,rfl,-⟩:=hu1.form
   obtain ⟨wa,wc,rfl,-⟩:=hu2.form
   have gW:Hid (∀ wi,Below wr.heap.size wr wi→bK wi (.agg #[.slice ua un uc,.int .i64 m.valid,.int .i64 m.next,.int .i64 m.seq,.slice va m.ah.length vc,.slice wa m.au.length wc,.int .i64 m.lost]) m):=fun wi h=>⟨_,_,_,rfl,hu0.below h,hu1.below eU h,hu2.below dY h,j0,j1,j2,j3⟩
   have HE:Hid (qh x k=(gV m x.valid && (oL x.boxes m k && !((x.boxes.take k).any fun o=>decide (o.valid=m.valid))))):=by simp [Hid,qh,hm]
   have ku:Hid ((wr.alloc (.cells #[.slice ua un uc,.int .i64 m.valid,.int .i64 m.next,.int .i64 m.seq,.slice va m.ah.length vc,.slice wa m.au.length wc,.int .i64 m.lost] 37)).heap[wr.heap.size]?=some (.cells #[.slice ua un uc,.int .i64 m.valid,.int .i64 m.next,.int .i64 m.seq,.slice va m.ah.length vc,.slice wa m.au.length wc,.int .i64 m.lost] 37)):=aV wr _
   have gU:Hid ((wr.alloc (.cells #[.slice ua un uc,.int .i64 m.valid,.int .i64 m.next,.int .i64 m.seq,.slice va m.ah.length vc,.slice wa m.au.length wc,.int .i64 m.lost] 37)).heap[w.heap.size]?=some (.cells #[.int .i64 x.valid,.slice (some ⟨b,off,none⟩) x.boxes.length c0,.slice a1 x.seen.length c1] 33)):=uq hK.out _
   have HA1:Hid (Below wr.heap.size wr (wr.alloc (.cells #[.slice ua un uc,.int .i64 m.valid,.int .i64 m.next,.int .i64 m.seq,.slice va m.ah.length vc,.slice wa m.au.length wc,.int .i64 m.lost] 37))):=bn _ _
   have HB1:Hid (Below w.heap.size w (wr.alloc (.cells #[.slice ua un uc,.int .i64 m.valid,.int .i64 m.next,.int .i64 m.seq,.slice va m.ah.length vc,.slice wa m.au.length wc,.int .i64 m.lost] 37))):=Below.step hB.out HA1.out
   have yX:Hid (∀ wi,Below (wr.alloc (.cells #[.slice ua un uc,.int .i64 m.valid,.int .i64 m.next,.int .i64 m.seq,.slice va m.ah.length vc,.slice wa m.au.length wc,.int .i64 m.lost] 37)).heap.size (wr.alloc (.cells #[.slice ua un uc,.int .i64 m.valid,.int .i64 m.next,.int .i64 m.seq,.slice va m.ah.length vc,.slice wa m.au.length wc,.int .i64 m.lost] 37)) wi→Calls Tryz.prog 68 #[.slice (some ⟨b,off,none⟩) k c0,.func (.func 69) #[] #[.pointer (some ⟨wr.heap.size,0,none⟩)]] wi fun e w'=>e=.returned (.bool ((x.boxes.take k).any fun o=>decide (o.valid=m.valid)))∧Below wi.heap.size wi w'):=fun wi hbi =>
    ZL 69 #[.pointer (some ⟨wr.heap.size,0,none⟩)] (fun o=>decide (o.valid=m.valid)) _ (x.boxes.take k) _ (((H0.out _ (Below.step HB1.out hbi)).1).GI k hk) (fun args w=>by kernel_rfl) (fun wj o u hbj hu=>acj u o wr.heap.size m.valid wj hu (bF (ay hbj (ay hbi ku.out))).2.1 (lt_of_heap (ay hbj (ay hbi ku.out))))
   generalize ((x.boxes.take k).any fun o=>decide (o.valid=m.valid))=X3 at yX HE
   have gI:=fun wi (h:bK wi (.agg #[.slice ua un uc,.int .i64 m.valid,.int .i64 m.next,.int .i64 m.seq,.slice va m.ah.length vc,.slice wa m.au.length wc,.int .i64 m.lost]) m)=>abE _ m x.valid wi h
   generalize gV m x.valid=X1 at HE gI
   have LB:=hK.out
   obtain ⟨e0,e1,e2⟩:=bD LB
   have hlA:=lt_of_heap LB
   clear LB hm
   have DR:Below (wr.alloc (.cells #[.slice ua un uc,.int .i64 m.valid,.int .i64 m.next,.int .i64 m.seq,.slice va m.ah.length vc,.slice wa m.au.length wc,.int .i64 m.lost] 37)).heap.size (wr.alloc (.cells #[.slice ua un uc,.int .i64 m.valid,.int .i64 m.next,.int .i64 m.seq,.slice va m.ah.length vc,.slice wa m.au.length wc,.int .i64 m.lost] 37)) (wr.alloc (.cells #[.slice ua un uc,.int .i64 m.valid,.int .i64 m.next,.int .i64 m.seq,.slice va m.ah.length vc,.slice wa m.au.length wc,.int .i64 m.lost] 37)).drew:=(bd _ _)
   have HF:Hid (∀ w',Below (wr.alloc (.cells #[.slice ua un uc,.int .i64 m.valid,.int .i64 m.next,.int .i64 m.seq,.slice va m.ah.length vc,.slice wa m.au.length wc,.int .i64 m.lost] 37)).heap.size (wr.alloc (.cells #[.slice ua un uc,.int .i64 m.valid,.int .i64 m.next,.int .i64 m.seq,.slice va m.ah.length vc,.slice wa m.au.length wc,.int .i64 m.lost] 37)) w'→w'.cell? ⟨wr.heap.size,0,none⟩=some (.slice ua un uc)∧w'.cell? ⟨wr.heap.size,1,none⟩=some (.int .i64 m.valid)∧w'.cell? ⟨wr.heap.size,2,none⟩=some (.int .i64 m.next)∧w'.cell? ⟨wr.heap.size,3,none⟩=some (.int .i64 m.seq)∧w'.cell? ⟨wr.heap.size,4,none⟩=some (.slice va m.ah.length vc)∧w'.cell? ⟨wr.heap.size,5,none⟩=some (.slice wa m.au.length wc)∧w'.cell? ⟨wr.heap.size,6,none⟩=some (.int .i64 m.lost)∧w'.cell? ⟨w.heap.size,0,none⟩=some (.int .i64 x.valid)):=by
    intro w' h
    obtain ⟨r0,r1,r2,r3,r4,r5,r6⟩:=bF (ay h ku.out)
    exact ⟨r0,r1,r2,r3,r4,r5,r6,(bD (ay h gU.out)).1⟩
   cases X1 with
   | false =>
    go_wp2
    refine wp_region_held_drew (S:=fun w'=>w'.cell? ⟨wr.heap.size,0,none⟩=some (.slice ua un uc)∧w'.cell? ⟨wr.heap.size,1,none⟩=some (.int .i64 m.valid)∧w'.cell? ⟨wr.heap.size,2,none⟩=some (.int .i64 m.next)∧w'.cell? ⟨wr.heap.size,3,none⟩=some (.int .i64 m.seq)∧w'.cell? ⟨wr.heap.size,4,none⟩=some (.slice va m.ah.length vc)∧w'.cell? ⟨wr.heap.size,5,none⟩=some (.slice wa m.au.length wc)∧w'.cell? ⟨wr.heap.size,6,none⟩=some (.int .i64 m.lost)∧w'.cell? ⟨w.heap.size,0,none⟩=some (.int .i64 x.valid)) (by kernel_rfl) (HF.out _ DR) (fun aks=>(show wpAnyH _ _ _ _ _ 21 #[false,false,false,false,false,false,false,false,false,false,false,false,false,false,false,false,false,false,false,false,false] _ _ from ?_))
    refine tq 0 34 aks ?_
    refine tq 1 35 aks ?_
    refine tq 2 36 aks ?_
    refine wpAnyH_ready (rs:=[3]) (by kernel_rfl) (by simp) ?_
    refine AllReadyH.cons rfl (fun K hK=>?_) AllReadyH.nil
    go_simp
    refine (gI _ (gW.out _ (Below.step HA1.out DR))).mono ?_
    rintro e w1 ⟨rfl,B⟩
    refine hK.out _ _ (HF.out _ (Below.step DR B)) (fun aks=>?_)
    clear hK K
    refine tq 4 38 aks ?_
    refine tq 5 39 aks ?_
    refine BI (by kernel_rfl) (fun _ _ _ _ _ h=>h) aks [6,7,8,9,10,11,12,13,14,15,16,17,18,19] [40,41,42,43,44,45,46,47,48,49,50,51,52,53] _ _ _ (by kernel_rfl) ?_
    simp only [List.foldl_cons,List.foldl_nil,Act.put,sA,s0,sS]
    refine tq 20 54 aks ?_
    refine wpAnyH_done (by kernel_rfl) ?_ _
    clear gI yX HF gW ku gU HA1
    repeat clear aks
    go_wp2
    go_ret
    exact ⟨aR (by rw [HS.out];exact iq k hlt HE.out),Below.step (Below.step HB1.out DR) B⟩
   | true =>
    by_cases hkz:(0:Int) < (k:Int)
    rotate_left
    ·have uY:Hid (oL x.boxes m k=true):=by
          have:k=0:=by omega
          subst this;rfl
     rw [uY.out,Bool.true_and,Bool.true_and] at HE
     clear uY
     have hkN:¬ 0 < k:=by omega
     have hd:decide (0 < k)=false:=by simpa using hkN
     go_wp2
     refine wp_region_held_drew (S:=fun w'=>w'.cell? ⟨wr.heap.size,0,none⟩=some (.slice ua un uc)∧w'.cell? ⟨wr.heap.size,1,none⟩=some (.int .i64 m.valid)∧w'.cell? ⟨wr.heap.size,2,none⟩=some (.int .i64 m.next)∧w'.cell? ⟨wr.heap.size,3,none⟩=some (.int .i64 m.seq)∧w'.cell? ⟨wr.heap.size,4,none⟩=some (.slice va m.ah.length vc)∧w'.cell? ⟨wr.heap.size,5,none⟩=some (.slice wa m.au.length wc)∧w'.cell? ⟨wr.heap.size,6,none⟩=some (.int .i64 m.lost)∧w'.cell? ⟨w.heap.size,0,none⟩=some (.int .i64 x.valid)) (by kernel_rfl) (HF.out _ DR) (fun aks=>(show wpAnyH _ _ _ _ _ 21 #[false,false,false,false,false,false,false,false,false,false,false,false,false,false,false,false,false,false,false,false,false] _ _ from ?_))
     refine tq 0 34 aks ?_
     refine tq 1 35 aks ?_
     refine tq 2 36 aks ?_
     refine wpAnyH_ready (rs:=[3]) (by kernel_rfl) (by simp) ?_
     refine AllReadyH.cons rfl (fun K hK=>?_) AllReadyH.nil
     go_simp
     refine (gI _ (gW.out _ (Below.step HA1.out DR))).mono ?_
     rintro e w1 ⟨rfl,B⟩
     refine hK.out _ _ (HF.out _ (Below.step DR B)) (fun aks=>?_)
     clear hK K
     refine tq 4 38 aks ?_
     refine tq 5 39 aks ?_
     refine tq 6 40 aks ?_
     refine tq 7 41 aks ?_
     refine tq 8 42 aks ?_
     refine BI (by kernel_rfl) (fun _ _ _ _ _ h=>h) aks [9,10,11,12,13,14,15,16,17,18] [43,44,45,46,47,48,49,50,51,52] _ _ _ (by kernel_rfl) ?_
     simp only [List.foldl_cons,List.foldl_nil,Act.put,sA,s0,sS]
     refine tq 19 53 aks ?_
     refine tq 20 54 aks ?_
     refine wpAnyH_done (by kernel_rfl) ?_ _
     repeat clear aks
     have c3':=yX.out w1 (Below.step DR B)
     have HB2:Hid (Below w.heap.size w w1):=Below.step (Below.step HB1.out DR) B
     have nG:Hid (w1.heap[w.heap.size]?=some (.cells #[.int .i64 x.valid,.slice (some ⟨b,off,none⟩) x.boxes.length c0,.slice a1 x.seen.length c1] 33)):=ay B (ay DR gU.out)
     clear B DR HB1 gU HA1 gI HF yX
     cases X3 with
     | true =>
      go_wp2_with fail
      refine c3'.mono ?_
      rintro e w3 ⟨rfl,B⟩
      go_wp2
      go_ret
      exact ⟨aR (by rw [HS.out];exact iq k hlt HE.out),Below.step HB2.out B⟩
     | false =>
      go_wp2_with fail
      refine c3'.mono ?_
      rintro e w3 ⟨rfl,B⟩
      have HB3:Hid (Below w.heap.size w w3):=Below.step HB2.out B
      have yT:Hid (w3.heap[w.heap.size]?=some (.cells #[.int .i64 x.valid,.slice (some ⟨b,off,none⟩) x.boxes.length c0,.slice a1 x.seen.length c1] 33)):=ay B nG.out
      clear B HB2 nG
      go_wp2
      go_roundw
      case rel =>
       refine ⟨k+1,by omega,by go_num,(show Hid _ from fun i hi=>?_),yT,HB3⟩
       by_cases e:i=k
       ·subst e;exact HE.out
       ·exact hA.out i (by omega)
      case measure=>simp [intOf];omega
    ·obtain ⟨j,hj⟩:∃ j,k=j+1:=⟨k - 1,by omega⟩
     have hjk:(j:Int) < (k:Int):=by omega
     have hkN:0 < k:=by omega
     have hd:decide (0 < k)=true:=by simpa using hkN
     have hj0:(0:Int)≤(j:Int):=by omega
     have hw1:IntKind.i64.wrap ((k:Int) - 1)=(j:Int):=by rw [IntWalk.i64_in _ (by omega)];omega
     have HJ:Hid (k=j+1):=hj
     clear hj
     obtain ⟨m',hm'⟩:∃ m',x.boxes[j]?=some m':=⟨x.boxes[j]'(by have:=HJ.out;omega),aK (by have:=HJ.out;omega)⟩
     obtain ⟨b2,off2,cap2,p0,q1,q2,hv2,gB,t0,-,-,-,-,-,-,hp0,-⟩:=cK.cell (H0.out wr hB.out).1 j m' hm'
     simp only [Value.slice.injEq,true_and,Option.some.injEq,Addr.mk.injEq,and_true] at hv2
     obtain ⟨⟨rfl,rfl⟩,rfl⟩:=hv2
     obtain ⟨pa,pn,pc,rfl⟩:=hp0.aG
     have uY:Hid (oL x.boxes m k=dH m'.name m.name):=by rw [HJ.out];simp [Hid,oL,nameAt,hm']
     rw [uY.out] at HE
     have HCM:Hid (∀ wi,Below wr.heap.size wr wi→Calls Tryz.prog 67 #[.slice pa pn pc,.slice ua un uc] wi fun e w'=>e=.returned (.int .i64 (Lib.compareBytes (dN m'.name) (dN m.name)))∧w'=wi):=fun wi h=>Ro _ _ m'.name m.name wi (hp0.below h) (hu0.below h)
     have Ap:Hid (dH m'.name m.name = !decide (0≤Lib.compareBytes (dN m'.name) (dN m.name))):=by simp only [Hid];rw [FP];simp [dH]
     generalize Lib.compareBytes (dN m'.name) (dN m.name)=cv at HCM Ap
     generalize dH m'.name m.name=L at HE Ap
     have xk:Hid (∀ w',Below (wr.alloc (.cells #[.slice ua un uc,.int .i64 m.valid,.int .i64 m.next,.int .i64 m.seq,.slice va m.ah.length vc,.slice wa m.au.length wc,.int .i64 m.lost] 37)).heap.size (wr.alloc (.cells #[.slice ua un uc,.int .i64 m.valid,.int .i64 m.next,.int .i64 m.seq,.slice va m.ah.length vc,.slice wa m.au.length wc,.int .i64 m.lost] 37)) w'→(w'.cell? ⟨wr.heap.size,0,none⟩=some (.slice ua un uc)∧w'.cell? ⟨wr.heap.size,1,none⟩=some (.int .i64 m.valid)∧w'.cell? ⟨wr.heap.size,2,none⟩=some (.int .i64 m.next)∧w'.cell? ⟨wr.heap.size,3,none⟩=some (.int .i64 m.seq)∧w'.cell? ⟨wr.heap.size,4,none⟩=some (.slice va m.ah.length vc)∧w'.cell? ⟨wr.heap.size,5,none⟩=some (.slice wa m.au.length wc)∧w'.cell? ⟨wr.heap.size,6,none⟩=some (.int .i64 m.lost)∧w'.cell? ⟨w.heap.size,0,none⟩=some (.int .i64 x.valid))∧w'.cell? ⟨b,off+j * 7,none⟩=some (.slice pa pn pc)):=by
      intro w' h
      exact ⟨HF.out w' h,((Below.step HA1.out h).cell (p:=⟨b,off+j * 7,none⟩) hlb).trans t0⟩
     clear hm' uY
     by_cases hcv:0≤cv
     ·have HL:Hid (L=false):=by rw [Hid,Ap.out,decide_eq_true hcv];rfl
      clear Ap
      go_wp2
      refine wp_region_held_drew (S:=fun w'=>(w'.cell? ⟨wr.heap.size,0,none⟩=some (.slice ua un uc)∧w'.cell? ⟨wr.heap.size,1,none⟩=some (.int .i64 m.valid)∧w'.cell? ⟨wr.heap.size,2,none⟩=some (.int .i64 m.next)∧w'.cell? ⟨wr.heap.size,3,none⟩=some (.int .i64 m.seq)∧w'.cell? ⟨wr.heap.size,4,none⟩=some (.slice va m.ah.length vc)∧w'.cell? ⟨wr.heap.size,5,none⟩=some (.slice wa m.au.length wc)∧w'.cell? ⟨wr.heap.size,6,none⟩=some (.int .i64 m.lost)∧w'.cell? ⟨w.heap.size,0,none⟩=some (.int .i64 x.valid))∧w'.cell? ⟨b,off+j * 7,none⟩=some (.slice pa pn pc)) (by kernel_rfl) (xk.out _ DR) (fun aks=>(show wpAnyH _ _ _ _ _ 21 #[false,false,false,false,false,false,false,false,false,false,false,false,false,false,false,false,false,false,false,false,false] _ _ from ?_))
      refine tq 0 34 aks ?_
      refine tq 1 35 aks ?_
      refine tq 2 36 aks ?_
      refine wpAnyH_ready (rs:=[3]) (by kernel_rfl) (by simp) ?_
      refine AllReadyH.cons rfl (fun K hK=>?_) AllReadyH.nil
      go_simp
      refine (gI _ (gW.out _ (Below.step HA1.out DR))).mono ?_
      rintro e w1 ⟨rfl,B⟩
      refine hK.out _ _ (xk.out _ (Below.step DR B)) (fun aks=>?_)
      clear hK K
      refine tq 4 38 aks ?_
      refine tq 5 39 aks ?_
      refine tq 6 40 aks ?_
      refine tq 7 41 aks ?_
      refine tq 8 42 aks ?_
      refine tq 9 43 aks ?_
      refine tq 10 44 aks ?_
      refine tq 11 45 aks ?_
      refine tq 12 46 aks ?_
      refine tq 13 47 aks ?_
      refine tq 14 48 aks ?_
      refine tq 15 49 aks ?_
      refine tq 16 50 aks ?_
      refine wpAnyH_ready (rs:=[17]) (by kernel_rfl) (by simp) ?_
      refine AllReadyH.cons rfl (fun K hK=>?_) AllReadyH.nil
      go_simp
      refine (HCM.out _ (Below.step (Below.step HA1.out DR) B)).mono ?_
      rintro e w2 ⟨rfl,rfl⟩
      refine hK.out _ _ (xk.out _ (Below.step DR B)) (fun aks=>?_)
      clear hK K
      refine tq 18 52 aks ?_
      refine tq 19 53 aks ?_
      refine tq 20 54 aks ?_
      refine wpAnyH_done (by kernel_rfl) ?_ _
      clear gI yX HF gW ku gU HA1 xk HCM
      repeat clear aks
      go_wp2
      go_ret
      exact ⟨aR (by rw [HS.out];exact iq k hlt (by rw [HE.out,HL.out];rfl)),Below.step (Below.step HB1.out DR) B⟩
     ·have HL:Hid (L=true):=by rw [Hid,Ap.out,decide_eq_false hcv];rfl
      rw [HL.out,Bool.true_and,Bool.true_and] at HE
      clear Ap
      go_wp2
      refine wp_region_held_drew (S:=fun w'=>(w'.cell? ⟨wr.heap.size,0,none⟩=some (.slice ua un uc)∧w'.cell? ⟨wr.heap.size,1,none⟩=some (.int .i64 m.valid)∧w'.cell? ⟨wr.heap.size,2,none⟩=some (.int .i64 m.next)∧w'.cell? ⟨wr.heap.size,3,none⟩=some (.int .i64 m.seq)∧w'.cell? ⟨wr.heap.size,4,none⟩=some (.slice va m.ah.length vc)∧w'.cell? ⟨wr.heap.size,5,none⟩=some (.slice wa m.au.length wc)∧w'.cell? ⟨wr.heap.size,6,none⟩=some (.int .i64 m.lost)∧w'.cell? ⟨w.heap.size,0,none⟩=some (.int .i64 x.valid))∧w'.cell? ⟨b,off+j * 7,none⟩=some (.slice pa pn pc)) (by kernel_rfl) (xk.out _ DR) (fun aks=>(show wpAnyH _ _ _ _ _ 21 #[false,false,false,false,false,false,false,false,false,false,false,false,false,false,false,false,false,false,false,false,false] _ _ from ?_))
      refine tq 0 34 aks ?_
      refine tq 1 35 aks ?_
      refine tq 2 36 aks ?_
      refine wpAnyH_ready (rs:=[3]) (by kernel_rfl) (by simp) ?_
      refine AllReadyH.cons rfl (fun K hK=>?_) AllReadyH.nil
      go_simp
      refine (gI _ (gW.out _ (Below.step HA1.out DR))).mono ?_
      rintro e w1 ⟨rfl,B⟩
      refine hK.out _ _ (xk.out _ (Below.step DR B)) (fun aks=>?_)
      clear hK K
      refine tq 4 38 aks ?_
      refine tq 5 39 aks ?_
      refine tq 6 40 aks ?_
      refine tq 7 41 aks ?_
      refine tq 8 42 aks ?_
      refine tq 9 43 aks ?_
      refine tq 10 44 aks ?_
      refine tq 11 45 aks ?_
      refine tq 12 46 aks ?_
      refine tq 13 47 aks ?_
      refine tq 14 48 aks ?_
      refine tq 15 49 aks ?_
      refine tq 16 50 aks ?_
      refine wpAnyH_ready (rs:=[17]) (by kernel_rfl) (by simp) ?_
      refine AllReadyH.cons rfl (fun K hK=>?_) AllReadyH.nil
      go_simp
      refine (HCM.out _ (Below.step (Below.step HA1.out DR) B)).mono ?_
      rintro e w2 ⟨rfl,rfl⟩
      refine hK.out _ _ (xk.out _ (Below.step DR B)) (fun aks=>?_)
      clear hK K
      refine tq 18 52 aks ?_
      refine tq 19 53 aks ?_
      refine tq 20 54 aks ?_
      refine wpAnyH_done (by kernel_rfl) ?_ _
      repeat clear aks
      clear xk HCM
      have c3':=yX.out w2 (Below.step DR B)
      have HB2:Hid (Below w.heap.size w w2):=Below.step (Below.step HB1.out DR) B
      have nG:Hid (w2.heap[w.heap.size]?=some (.cells #[.int .i64 x.valid,.slice (some ⟨b,off,none⟩) x.boxes.length c0,.slice a1 x.seen.length c1] 33)):=ay B (ay DR gU.out)
      clear B DR HB1 gU HA1 gI HF yX
      cases X3 with
      | true =>
       go_wp2_with fail
       refine c3'.mono ?_
       rintro e w3 ⟨rfl,B⟩
       go_wp2
       go_ret
       exact ⟨aR (by rw [HS.out];exact iq k hlt HE.out),Below.step HB2.out B⟩
      | false =>
       go_wp2_with fail
       refine c3'.mono ?_
       rintro e w3 ⟨rfl,B⟩
       have HB3:Hid (Below w.heap.size w w3):=Below.step HB2.out B
       have yT:Hid (w3.heap[w.heap.size]?=some (.cells #[.int .i64 x.valid,.slice (some ⟨b,off,none⟩) x.boxes.length c0,.slice a1 x.seen.length c1] 33)):=ay B nG.out
       clear B HB2 nG
       go_wp2
       go_roundw
       case rel =>
        refine ⟨k+1,by omega,by go_num,(show Hid _ from fun i hi=>?_),yT,HB3⟩
        by_cases e:i=k
        ·subst e;exact HE.out
        ·exact hA.out i (by omega)
       case measure=>simp [intOf];omega
  ·obtain rfl:k=x.boxes.length:=by omega
   go_wp2
   go_ret
   exact ⟨aR (by rw [HS.out];exact uE hA.out),hB.out⟩
/- What aiE of package impl does. -/
theorem Tm (wt:Bool) (v:Value) (l:List Int) (w:World) (hv:Bs w v l) :
  Calls Tryz.prog 71 #[.bool wt,v] w fun e w'=>e=.returned (.bool (bif wt then bZ l else decide (l.length=0)))∧Below w.heap.size w w':=by
 have H:Hid (Bs w v l):=hv
 obtain ⟨ho,a,cap,rfl,hlc,hcm,-⟩:=hv
 cases wt with
 | true =>
  go_enter Tryz.func71,Tryz.ntmps71
  go_wp2_with (first | (go_at_call 101;refine (Sj _ l _ H.out).mono ?_;rintro e w1 ⟨rfl,B⟩))
  go_ret
  exact ⟨aR rfl,B⟩
 | false =>
  by_cases h:l.length=0
  ·have h':l=[]:=List.eq_nil_of_length_eq_zero h
   subst h'
   go_enter Tryz.func71,Tryz.ntmps71
   go_wp2
   go_ret
   exact ⟨aR rfl,Below.refl _ _⟩
  ·have h2:(l.length:Int)≠0:=by omega
   have e:Hid ((bif false then bZ l else decide (l.length=0))=false):=by simp [Hid];exact fun e=>h (by rw [e];rfl)
   generalize l.length=n at h2 hlc h e
   go_enter Tryz.func71,Tryz.ntmps71
   go_wp2
   go_ret
   exact ⟨aR (e.out.trans (by simp [h])),Below.refl _ _⟩
/-- Which fields a kind of command has. -/
def GY (k:Int):Value :=
 .agg #[.bool (!decide (k=9)),.bool (decide (k=6)),.int .i64 (if k=3∨k=5∨k=6 then 1 else 0),.int .i64 (if k=3∨k=5∨k=6 then 1000000 else 0),.int .i64 (if k=3 then 2 else if k=6 then 1 else 0),
  .int .i64 (if k=2∨k=3 then 31 else 0),.int .i64 (if k=3∨k=8 then 1000000 else 0),.int .i64 (if k=2 then 30 else 0)]
theorem aco (k:Int) (h:0≤k∧k≤9) (w:World) :
  Calls Tryz.prog 70 #[.int .i64 k] w fun e w'=>e=.returned (GY k)∧Below w.heap.size w w':=by
 have hk:k=0∨k=1∨k=2∨k=3∨k=4∨k=5∨k=6∨k=7∨k=8∨k=9:=by omega
 clear h
 rcases hk with rfl | rfl | rfl | rfl | rfl | rfl | rfl | rfl | rfl | rfl
 all_goals
  go_enter Tryz.func70,Tryz.ntmps70
  go_wp2
 all_goals refine bodyPost_ret (v:=GY _) (by simp [results,Tryz.results70,go_sem,GY]) rfl ⟨rfl,?_⟩
 all_goals exact bn _ _
/- What xq of package impl does. -/
theorem acp (k:Int) (h:0≤k∧k≤9) (bx tt:List Int) (uid mode fl si:Int) (tx:List Int):fM k bx tt uid mode fl si tx =
  ((bif (!decide (k=9)) then bZ bx else decide (bx.length=0)) && ((bif decide (k=6) then bZ tt else decide (tt.length=0)) && (aS uid (if k=3∨k=5∨k=6 then 1 else 0) (if k=3∨k=5∨k=6 then 1000000 else 0) && (aS mode 0 (if k=3 then 2 else if k=6 then 1 else 0) && (aS fl 0 (if k=2∨k=3 then 31 else 0) && (aS si 0 (if k=3∨k=8 then 1000000 else 0) && (decide ((tx.length:Int)≤(if k=2 then 30 else 0)) && fD tx))))))):=by
 have hk:k=0∨k=1∨k=2∨k=3∨k=4∨k=5∨k=6∨k=7∨k=8∨k=9:=by omega
 have z:=wo (l:=tx)
 have z2:=abx (l:=tx)
 unfold fM aS
 generalize fD tx=T at *
 generalize bZ bx=NB at *
 generalize bZ tt=NT at *
 generalize tx.length=n at *
 generalize bx.length=n1 at *
 generalize tt.length=n2 at *
 clear h
 rcases hk with rfl | rfl | rfl | rfl | rfl | rfl | rfl | rfl | rfl | rfl <;> cases T <;> cases NB <;> cases NT <;> rw [Bool.eq_iff_iff] <;> simp at * <;> omega
theorem acr (k:Int) (hk:0≤k∧k≤9) (W0 W1:Bool) (W2 W3 W4 W5 W6 W7:Int) (hW:GY k=.agg #[.bool W0,.bool W1,.int .i64 W2,.int .i64 W3,.int .i64 W4,.int .i64 W5,.int .i64 W6,.int .i64 W7]) (a0 a1 a2:Option Addr) (nb nt nx c0 c1 c2:Nat) (bx tt:List Int) (uid mode fl si:Int) (tx:List Int) (w:World)
  (H0:Hid (∀ wi,Below w.heap.size w wi→Bs wi (.slice a0 nb c0) bx∧Bs wi (.slice a1 nt c1) tt∧Bs wi (.slice a2 nx c2) tx)) (c:Bool)
  (HC:Hid (c=((bif W0 then bZ bx else decide (bx.length=0)) && ((bif W1 then bZ tt else decide (tt.length=0)) && (aS uid W2 W3 && (aS mode 0 W4 && (aS fl 0 W5 && (aS si 0 W6 && (decide ((nx:Int)≤W7) && fD tx))))))))) :
  Calls Tryz.prog 29 #[.agg #[.int .i64 k,.slice a0 nb c0,.slice a1 nt c1,.int .i64 uid,.int .i64 mode,.int .i64 fl,.int .i64 si,.slice a2 nx c2]] w fun e w'=>e=.returned (.bool c)∧Below w.heap.size w w':=by
 have hp:∀ w,Calls Tryz.prog 70 #[.int .i64 k] w fun e w'=>e=.returned (.agg #[.bool W0,.bool W1,.int .i64 W2,.int .i64 W3,.int .i64 W4,.int .i64 W5,.int .i64 W6,.int .i64 W7])∧Below w.heap.size w w':=fun w=>by rw [← hW];exact aco k hk w
 have ab:∀ (x:World) o,Below x.heap.size x (x.alloc o):=fun x o=>bn _ o
 have hin:∀ w,Calls Tryz.prog 64 #[.int .i64 k,.int .i64 0,.int .i64 9] w fun e w'=>e=.returned (.bool true)∧w'=w:=fun w=>by
  have h:=jJ k 0 9 w
  rwa [show aS k 0 9=true by simp [aS,hk.1,hk.2]] at h
 clear hW
 have hy0:∀ w (_:Bs w (.slice a0 nb c0) bx),Calls Tryz.prog 71 #[.bool W0,.slice a0 nb c0] w fun e w'=>e=.returned (.bool (bif W0 then bZ bx else decide (bx.length=0)))∧Below w.heap.size w w':=fun w h=>Tm _ _ bx w h
 have hy1:∀ w (_:Bs w (.slice a1 nt c1) tt),Calls Tryz.prog 71 #[.bool W1,.slice a1 nt c1] w fun e w'=>e=.returned (.bool (bif W1 then bZ tt else decide (tt.length=0)))∧Below w.heap.size w w':=fun w h=>Tm _ _ tt w h
 have hy2:=jJ uid W2 W3
 have hy3:=jJ mode 0 W4
 have hy4:=jJ fl 0 W5
 have CY:=jJ si 0 W6
 have CZ:=Sk (.slice a2 nx c2) tx
 generalize (bif W0 then bZ bx else decide (bx.length=0))=X0 at HC hy0
 generalize (bif W1 then bZ tt else decide (tt.length=0))=X1 at HC hy1
 generalize aS uid W2 W3=X2 at HC hy2
 generalize aS mode 0 W4=X3 at HC hy3
 generalize aS fl 0 W5=X4 at HC hy4
 generalize aS si 0 W6=X5 at HC CY
 generalize fD tx=X7 at HC CZ
 have bx0:=aV w (.cells #[.int .i64 k,.slice a0 nb c0,.slice a1 nt c1,.int .i64 uid,.int .i64 mode,.int .i64 fl,.int .i64 si,.slice a2 nx c2] 44)
 go_enter Tryz.func29,Tryz.ntmps29
 go_wp2_with fail
 refine (hin _).mono ?_
 rintro e w' ⟨rfl,rfl⟩
 go_wp2_with fail
 refine (hp _).mono ?_
 rintro e w1 ⟨rfl,B⟩
 have X:=Below.step (ab w _) B
 have s1:w.heap.size < w1.heap.size:=by have:=B.size;simp at this;omega
 have kc:=ay B bx0
 clear bx0 B hp hin
 obtain ⟨GZ,c_1,c_2,G5,G6,G7,G8,G9⟩:=jd kc
 have kw:=aV w1 (.cells #[.bool W0,.bool W1,.int .i64 W2,.int .i64 W3,.int .i64 W4,.int .i64 W5,.int .i64 W6,.int .i64 W7] 102)
 replace kc:=uq kc (.cells #[.bool W0,.bool W1,.int .i64 W2,.int .i64 W3,.int .i64 W4,.int .i64 W5,.int .i64 W6,.int .i64 W7] 102)
 replace X:=Below.step X (ab w1 (.cells #[.bool W0,.bool W1,.int .i64 W2,.int .i64 W3,.int .i64 W4,.int .i64 W5,.int .i64 W6,.int .i64 W7] 102))
 clear ab
 go_wp2_with fail
 refine (hy0 _ (H0.out _ X).1).mono ?_
 rintro e w2 ⟨rfl,B⟩
 clear GZ c_1 c_2 G5 G6 G7 G8 G9 hy0 s1
 replace kc:=ay B kc
 replace kw:=ay B kw
 replace X:=Below.step X B
 clear B
 obtain ⟨GZ,c_1,c_2,G5,G6,G7,G8,G9⟩:=jd kc
 obtain ⟨Tn,Tp,Tq,Tt,Tv,Tw,Tx,Tz⟩:=jd kw
 cases X0 with
 | false =>
  go_wp2
  go_ret
  exact ⟨aR HC.out,X⟩
 | true =>
 go_wp2_with fail
 refine (hy1 _ (H0.out _ X).2.1).mono ?_
 rintro e w3 ⟨rfl,B⟩
 clear GZ c_1 c_2 G5 G6 G7 G8 G9 Tn Tp Tq Tt Tv Tw Tx Tz hy1
 replace kc:=ay B kc
 replace kw:=ay B kw
 replace X:=Below.step X B
 clear B
 obtain ⟨GZ,c_1,c_2,G5,G6,G7,G8,G9⟩:=jd kc
 obtain ⟨Tn,Tp,Tq,Tt,Tv,Tw,Tx,Tz⟩:=jd kw
 cases X1 with
 | false =>
  go_wp2
  go_ret
  exact ⟨aR HC.out,X⟩
 | true =>
 go_wp2_with fail
 refine (hy2 _).mono ?_
 rintro e w' ⟨rfl,rfl⟩
 cases X2 with
 | false =>
  go_wp2
  go_ret
  exact ⟨aR HC.out,X⟩
 | true =>
 go_wp2_with fail
 refine (hy3 _).mono ?_
 rintro e w' ⟨rfl,rfl⟩
 cases X3 with
 | false =>
  go_wp2
  go_ret
  exact ⟨aR HC.out,X⟩
 | true =>
 go_wp2_with fail
 refine (hy4 _).mono ?_
 rintro e w' ⟨rfl,rfl⟩
 cases X4 with
 | false =>
  go_wp2
  go_ret
  exact ⟨aR HC.out,X⟩
 | true =>
 go_wp2_with fail
 refine (CY _).mono ?_
 rintro e w' ⟨rfl,rfl⟩
 cases X5 with
 | false =>
  go_wp2
  go_ret
  exact ⟨aR HC.out,X⟩
 | true =>
 by_cases h6:(nx:Int)≤W7
 ·rw [decide_eq_true h6] at HC
  go_wp2_with fail
  refine (CZ _ (H0.out _ X).2.2).mono ?_
  rintro e w4 ⟨rfl,B⟩
  go_wp2
  go_ret
  exact ⟨aR HC.out,Below.step X B⟩
 ·rw [decide_eq_false h6] at HC
  go_wp2
  go_ret
  exact ⟨aR HC.out,X⟩
theorem acs (v:Value) (k:Int) (bx tt:List Int) (uid mode fl si:Int) (tx:List Int) (w:World) (hv:ig w v k bx tt uid mode fl si tx) :
  Calls Tryz.prog 29 #[v] w fun e w'=>e=.returned (.bool (fM k bx tt uid mode fl si tx))∧Below w.heap.size w w':=by
 obtain ⟨u0,u1,u2,rfl,g0,g1,g2,i0,i1,i2,i3,i4⟩:=hv
 have H0:Hid (∀ wi,Below w.heap.size w wi→Bs wi u0 bx∧Bs wi u1 tt∧Bs wi u2 tx):=fun wi h=>⟨g0.below h,g1.below h,g2.below h⟩
 obtain ⟨a0,c0,rfl⟩:=g0.form
 obtain ⟨a1,c1,rfl⟩:=g1.form
 obtain ⟨a2,c2,rfl⟩:=g2.form
 by_cases h:0≤k∧k≤9
 ·exact acr k h _ _ _ _ _ _ _ _ rfl a0 a1 a2 _ _ _ c0 c1 c2 bx tt uid mode fl si tx w H0 _ (acp k h bx tt uid mode fl si tx)
 ·have HZ:Hid (fM k bx tt uid mode fl si tx=false):=by simp [Hid,fM,h]
  have hin:∀ w,Calls Tryz.prog 64 #[.int .i64 k,.int .i64 0,.int .i64 9] w fun e w'=>e=.returned (.bool false)∧w'=w:=fun w=>by
   have h':=jJ k 0 9 w
   rwa [show aS k 0 9=false by simp [aS];omega] at h'
  go_enter Tryz.func29,Tryz.ntmps29
  go_wp2_with fail
  refine (hin _).mono ?_
  rintro e w' ⟨rfl,rfl⟩
  go_wp2
  go_ret
  exact ⟨aR HZ.out,bn _ _⟩
/- Do of package impl. -/
/-- An account and a reply of the call's own, apart. -/
def Dn (w w':World) (v1 v2:Value) (r:aJ × cO):Prop :=
 ∃ bv sv T1 T2,v1=.agg #[.int .i64 r.1.valid,bv,sv]∧gQ w' (In w.heap.size T1) sv r.1.seen∧dD w' T1 T2 v2 r.2∧l7 w' (In T2 w'.heap.size) bv r.1.boxes∧w.heap.size≤T1∧T1≤T2∧T2≤w'.heap.size∧aB r.1.valid
theorem acu {w:World} {S P:Nat→Prop} {v:Value} {l:List Int} (h:gQ w S v l) (hP:∀ g,v.ownBlock=some g→P g):gQ w P v l:=by
 rcases h with h | ⟨g,cap,cur,cs,fs,hv,hh,h1,h2,h3,h4,h5,h6,h7⟩
 ·exact .inl h
 ·exact .inr ⟨g,cap,cur,cs,fun _ _=>False,hv,hh,h1,h2,h3,hP g (by rw [hv];rfl),fun i x hx=>h5 i x hx,fun _ _ _ h=>h.elim,fun _ _ _ _ _ _ h=>h.elim⟩
theorem acv:(Tryz.f9.body.bind (bQ 5)).all (fun o=>dQ o 5 [0,2,1,3,4] [2,3,4] [5] 0)=true:=by kernel_rfl
theorem TA (w:World) (av cv:Value) (a:aJ) (c:iC) (hv:dM w av a) (hc:ig w cv c.k c.bx c.tt c.uid c.mode c.fl c.si c.tx) (hs:a.seen.length≤2000000) :
  Calls Tryz.prog 9 #[av,cv] w fun e w'=>∃ v1 v2,e=.returned (.tuple #[v1,v2])∧Dn w w' v1 v2 (aH a c)∧Below w.heap.size w w':=by
 have iZ:Hid (∀ w',Below w.heap.size w w'→dM w' av a):=fun w' hw=>hv.below hw
 have lT:Hid (∀ w',Below w.heap.size w w'→ig w' cv c.k c.bx c.tt c.uid c.mode c.fl c.si c.tx):=fun w' hw=>hc.below hw
 obtain ⟨u0,u1,rfl,g0,g1,hiv⟩:=hv
 obtain ⟨ba,bc,rfl,-⟩:=g0.form
 obtain ⟨sa,sc,rfl,-⟩:=g1.form
 obtain ⟨q0,q1,q2,rfl,r0,r1,r2,-⟩:=hc
 obtain ⟨x0,m0,z0,rfl⟩:=r0.aG
 obtain ⟨x1,m1,z1,rfl⟩:=r1.aG
 obtain ⟨x2,m2,z2,rfl⟩:=r2.aG
 obtain ⟨kA,kC,X1⟩:=gJ w (.cells #[.int .i64 a.valid,.slice ba a.boxes.length bc,.slice sa a.seen.length sc] 33) (.cells #[.int .i64 c.k,.slice x0 m0 z0,.slice x1 m1 z1,.int .i64 c.uid,.int .i64 c.mode,.int .i64 c.fl,.int .i64 c.si,.slice x2 m2 z2] 44)
 obtain ⟨kZ,kR,X2⟩:=gJ ((w.alloc (.cells #[.int .i64 a.valid,.slice ba a.boxes.length bc,.slice sa a.seen.length sc] 33)).alloc (.cells #[.int .i64 c.k,.slice x0 m0 z0,.slice x1 m1 z1,.int .i64 c.uid,.int .i64 c.mode,.int .i64 c.fl,.int .i64 c.si,.slice x2 m2 z2] 44)) (.cells #[.int .i64 0,.slice none 0 0,.slice none 0 0] 33) (.cells #[.int .i64 0,.int .i64 0,.slice none 0 0,.int .i64 0,.int .i64 0,.int .i64 0,.slice none 0 0,.slice none 0 0,.int .i64 0,.slice none 0 0] 40)
 have hz:((w.alloc (.cells #[.int .i64 a.valid,.slice ba a.boxes.length bc,.slice sa a.seen.length sc] 33)).alloc (.cells #[.int .i64 c.k,.slice x0 m0 z0,.slice x1 m1 z1,.int .i64 c.uid,.int .i64 c.mode,.int .i64 c.fl,.int .i64 c.si,.slice x2 m2 z2] 44)).heap.size=w.heap.size+2:=by simp
 rw [hz] at kZ kR
 have bU:=ak (ay X2 kA)
 have bC:=ak (ay X2 kC)
 have gX:=ak kZ
 have aO:Hid (((((w.alloc (.cells #[.int .i64 a.valid,.slice ba a.boxes.length bc,.slice sa a.seen.length sc] 33)).alloc (.cells #[.int .i64 c.k,.slice x0 m0 z0,.slice x1 m1 z1,.int .i64 c.uid,.int .i64 c.mode,.int .i64 c.fl,.int .i64 c.si,.slice x2 m2 z2] 44)).alloc (.cells #[.int .i64 0,.slice none 0 0,.slice none 0 0] 33)).alloc (.cells #[.int .i64 0,.int .i64 0,.slice none 0 0,.int .i64 0,.int .i64 0,.int .i64 0,.slice none 0 0,.slice none 0 0,.int .i64 0,.slice none 0 0] 40)).heap[w.heap.size+3]?=some (.cells #[.int .i64 0,.int .i64 0,.slice none 0 0,.int .i64 0,.int .i64 0,.int .i64 0,.slice none 0 0,.slice none 0 0,.int .i64 0,.slice none 0 0] 40 (0,0))):=kR
 have HA:=ak (Below.step X1 X2)
 have qE:w.heap.size+4≤((((w.alloc (.cells #[.int .i64 a.valid,.slice ba a.boxes.length bc,.slice sa a.seen.length sc] 33)).alloc (.cells #[.int .i64 c.k,.slice x0 m0 z0,.slice x1 m1 z1,.int .i64 c.uid,.int .i64 c.mode,.int .i64 c.fl,.int .i64 c.si,.slice x2 m2 z2] 44)).alloc (.cells #[.int .i64 0,.slice none 0 0,.slice none 0 0] 33)).alloc (.cells #[.int .i64 0,.int .i64 0,.slice none 0 0,.int .i64 0,.int .i64 0,.int .i64 0,.slice none 0 0,.slice none 0 0,.int .i64 0,.slice none 0 0] 40)).heap.size:=by simp
 clear g0 g1 hiv r0 r1 r2 kA kC kZ kR X1 X2 hz
 go_enter Tryz.func9,Tryz.ntmps9
 go_upto_region 1 with fail
 simp only [Nat.add_assoc,Nat.reduceAdd]
 generalize (((w.alloc (.cells #[.int .i64 a.valid,.slice ba a.boxes.length bc,.slice sa a.seen.length sc] 33)).alloc (.cells #[.int .i64 c.k,.slice x0 m0 z0,.slice x1 m1 z1,.int .i64 c.uid,.int .i64 c.mode,.int .i64 c.fl,.int .i64 c.si,.slice x2 m2 z2] 44)).alloc (.cells #[.int .i64 0,.slice none 0 0,.slice none 0 0] 33)).alloc (.cells #[.int .i64 0,.int .i64 0,.slice none 0 0,.int .i64 0,.int .i64 0,.int .i64 0,.slice none 0 0,.slice none 0 0,.int .i64 0,.slice none 0 0] 40)=w1 at bU bC gX aO HA qE ⊢
 have Dp:=ak (acn _ a w1 (iZ.out w1 HA.out))
 obtain ⟨y0,y1,y2⟩:=bD bU.out
 have yl:=lt_of_heap bU.out
 go_wp2_with fail
 refine Dp.out.mono ?_
 rintro e w2 ⟨rfl,B2⟩
 have HA2:=ak (Below.step HA.out B2)
 have Dq:=ak (ay B2 bU.out)
 have jv:=ak (ay B2 bC.out)
 have rG:=ak (ay B2 gX.out)
 have bV:=ak (ay B2 aO.out)
 have hs2:=B2.size
 clear B2 Dp y0 y1 y2 yl HA bU bC gX aO
 have qV:=ak (acs _ c.k c.bx c.tt c.uid c.mode c.fl c.si c.tx w2 (lT.out w2 HA2.out))
 cases hacc:jg a with
 | false =>
  have bI:Hid (aH a c=(⟨0,[],[]⟩,aQ 5 0)):=by show _=_;unfold aH;rw [if_neg (by simp [hacc])]
  obtain ⟨y0,y1,y2⟩:=bD rG.out
  obtain ⟨yz,yl⟩:=bR rG.out
  obtain ⟨rz,rl,r0,r1,r2,r3,r4,r5,r6,r7,r8,r9⟩:=eT bV.out
  have HF:=ak (Dj rG.out bV.out HA2.out (.int .i64 0) (.slice none 0 0) (.slice none 0 0) (.int .i64 5) (.int .i64 0) (.slice none 0 0) (.int .i64 0) (.int .i64 0) (.int .i64 0) (.slice none 0 0) (.slice none 0 0) (.int .i64 0) (.slice none 0 0))
  go_wp2
  have ff:=aM HF.out.1
  obtain ⟨e0,e1,e2⟩:=bD HF.out.2.1
  refine bodyPost_ret (v:=.tuple #[.agg #[.int .i64 0,.slice none 0 0,.slice none 0 0],aY 5 0]) (by simp [results,Tryz.results9,aY,go_sem,e0,e1,e2,ff]) rfl ⟨_,_,rfl,?_,HF.out.2.2.1⟩
  rw [bI.out]
  exact ⟨_,_,w.heap.size,w.heap.size,rfl,.inl ⟨rfl,rfl⟩,sU _ _ _ ⟨by decide,by decide⟩ aI (Nat.le_refl _),.inl ⟨rfl,rfl⟩,Nat.le_refl _,Nat.le_refl _,HF.out.2.2.1.size,aI⟩
 | true =>
  obtain ⟨o0,o1,o2,o3,o4,o5,o6,o7,o8⟩:=l5 jv.out
  go_wp2_with fail
  refine qV.out.mono ?_
  rintro e w3 ⟨rfl,B3⟩
  have fH:=ak (Below.step HA2.out B3)
  have yY:=ak (ay B3 Dq.out)
  have lQ:=ak (ay B3 jv.out)
  have rH:=ak (ay B3 rG.out)
  have bX:=ak (ay B3 bV.out)
  have hs3:=B3.size
  clear B3 qV o0 o1 o2 o3 o4 o5 o6 o7 o8 HA2 Dq jv rG bV
  cases xu:fM c.k c.bx c.tt c.uid c.mode c.fl c.si c.tx with
  | false =>
   have bI:Hid (aH a c=(⟨0,[],[]⟩,aQ 5 0)):=by show _=_;unfold aH;rw [if_neg (by simp [hacc,xu])]
   obtain ⟨y0,y1,y2⟩:=bD rH.out
   obtain ⟨yz,yl⟩:=bR rH.out
   obtain ⟨rz,rl,r0,r1,r2,r3,r4,r5,r6,r7,r8,r9⟩:=eT bX.out
   have HF:=ak (Dj rH.out bX.out fH.out (.int .i64 0) (.slice none 0 0) (.slice none 0 0) (.int .i64 5) (.int .i64 0) (.slice none 0 0) (.int .i64 0) (.int .i64 0) (.int .i64 0) (.slice none 0 0) (.slice none 0 0) (.int .i64 0) (.slice none 0 0))
   go_wp2
   have ff:=aM HF.out.1
   obtain ⟨e0,e1,e2⟩:=bD HF.out.2.1
   refine bodyPost_ret (v:=.tuple #[.agg #[.int .i64 0,.slice none 0 0,.slice none 0 0],aY 5 0]) (by simp [results,Tryz.results9,aY,go_sem,e0,e1,e2,ff]) rfl ⟨_,_,rfl,?_,HF.out.2.2.1⟩
   rw [bI.out]
   exact ⟨_,_,w.heap.size,w.heap.size,rfl,.inl ⟨rfl,rfl⟩,sU _ _ _ ⟨by decide,by decide⟩ aI (Nat.le_refl _),.inl ⟨rfl,rfl⟩,Nat.le_refl _,Nat.le_refl _,HF.out.2.2.1.size,aI⟩
  | true =>
   obtain ⟨hG,hP,hI,hds,hok⟩:=Ll hacc
   obtain ⟨ck,cb,ct⟩:=SL xu
   have bI:Hid (aH a c=dz a c):=by show _=_;unfold aH;rw [if_pos (by simp [hacc,xu])]
   have HG:=ak hG
   have kE:=ak (abX (J7 (c:=c) hI cb ct) (Z7 (c:=c) hP))
   have LD:Hid ((dz a c).1.boxes.length≤4):=(J7 (c:=c) hI cb ct).1
   have TB:=ak (acd w3 _ a (iZ.out w3 fH.out) hs hG.b4 hok hds)
   have TD:=ak (And.intro ck cb)
   obtain ⟨y0,y1,y2⟩:=bD yY.out
   have yl:=lt_of_heap yY.out
   clear hG hP hI hds hok ck cb ct hacc xu
   go_wp2_with fail
   refine TB.out.mono ?_
   rintro e w4 ⟨gd,rfl,S,g,n,u0,u1,E,hD,hn,hB4,hgd⟩
   have HD4:=ak hD
   have gN:=ak (Below.step fH.out hB4)
   have Gn:=ak (ay hB4 lQ.out)
   have acw:=ak (ay hB4 rH.out)
   have dW:=ak (ay hB4 bX.out)
   have hs4:=hB4.size
   have nI:Hid (∀ q,u1.ownBlock=some q→q < w4.heap.size):=fun q hq=>by
    rcases yD hD.seen with ⟨e',-⟩ | ⟨gs,e',_,_,ht⟩
    ·rw [e'] at hq;simp [Value.ownBlock] at hq
    ·rw [e'] at hq
     cases hq
     exact lt_of_heap ht
   have Dr:=ak (abV w3 w4 S gd g n a u0 u1 _ E c hD HG.out (by omega) (lT.out w3 fH.out) (by have:=TD.out.2;omega) TD.out.1)
   obtain ⟨o0,o1,o2,o3,o4,o5,o6,o7,o8⟩:=l5 Gn.out
   clear hD hB4 TB y0 y1 y2 yl yY lQ rH bX
   go_wp2_with fail
   refine Dr.out.mono ?_
   rintro e w5 ⟨v,rfl,iY,S5,u5,n5,E5,hD5,hS5,yZ,hn5⟩
   obtain ⟨a0,n0,k0,a1,n1,k1,a2,n2,k2,a3,n3,k3,rfl⟩:=iY.form
   obtain ⟨A',hA'⟩:∃ A',A'=dz a c:=⟨_,rfl⟩
   rw [← hA'] at bI kE LD iY hD5 ⊢
   clear hA'
   obtain ⟨X,Y⟩:=A'
   simp only at kE LD iY hD5 ⊢
   have hoth:∀ q,q < w3.heap.size→w5.heap[q]?=w4.heap[q]?:=fun q hq=>yZ.2.1 q (by omega) (by omega) (by have:=HD4.out.nY.2;omega) (fun h=>by have:=(HD4.out.low q h).1;omega)
   have TF:=(hoth _ (by omega)).trans acw.out
   have TG:=(hoth _ (by omega)).trans dW.out
   have kg:Hid (Below w.heap.size w w5):=⟨yZ.2.2.1.trans gN.out.os,yZ.2.2.2.1.trans gN.out.tape,yZ.2.2.2.2.trans gN.out.output,Nat.le_trans gN.out.size yZ.1,fun q hq=>(hoth q (by omega)).trans (gN.out.block q hq)⟩
   have hs5:=yZ.1
   have A6:Below w5.heap.size w5 (w5.alloc (.cells #[.int .i64 Y.code,.int .i64 Y.num,.slice a0 n0 k0,.int .i64 Y.box.valid,.int .i64 Y.box.next,.int .i64 Y.box.seq,.slice a1 n1 k1,.slice a2 n2 k2,.int .i64 Y.box.lost,.slice a3 n3 k3] 40)):=bn _ _
   have HD6:=ak (hD5.below A6)
   have gD:=ak (Below.step kg.out A6)
   have TH:=ak (ay A6 TF)
   have iQ:=ak (ay A6 TG)
   have mP:=ak (aV w5 (.cells #[.int .i64 Y.code,.int .i64 Y.num,.slice a0 n0 k0,.int .i64 Y.box.valid,.int .i64 Y.box.next,.int .i64 Y.box.seq,.slice a1 n1 k1,.slice a2 n2 k2,.int .i64 Y.box.lost,.slice a3 n3 k3] 40))
   have TI:=ak (iY.below A6)
   have yV:=ak (acu (hD5.below A6).seen (P:=In w3.heap.size w4.heap.size) (fun q hq=>⟨by
    rcases yD (hD5.below A6).seen with ⟨e',-⟩ | ⟨gs,e',_,_,ht⟩
    ·rw [e'] at hq;simp [Value.ownBlock] at hq
    ·have h3:w3.heap.size≤q:=by
      rcases hD5.seen with ⟨e2,-⟩ | ⟨g2,_,_,_,_,e2,_,_,_,_,h4,_⟩
      ·rw [e2] at hq;simp [Value.ownBlock] at hq
      ·rw [e2] at hq;simp only [Value.ownBlock,Option.some.injEq] at hq;subst hq;exact h4
     exact h3,nI.out q hq⟩))
   have TJ:(w5.alloc (.cells #[.int .i64 Y.code,.int .i64 Y.num,.slice a0 n0 k0,.int .i64 Y.box.valid,.int .i64 Y.box.next,.int .i64 Y.box.seq,.slice a1 n1 k1,.slice a2 n2 k2,.int .i64 Y.box.lost,.slice a3 n3 k3] 40)).heap.size=w5.heap.size+1:=by simp
   clear iY hD5 hS5 yZ hoth TF TG A6 Dr o0 o1 o2 o3 o4 o5 o6 o7 o8
   go_upto_region 5 with fail
   generalize w5.alloc (.cells #[.int .i64 Y.code,.int .i64 Y.num,.slice a0 n0 k0,.int .i64 Y.box.valid,.int .i64 Y.box.next,.int .i64 Y.box.seq,.slice a1 n1 k1,.slice a2 n2 k2,.int .i64 Y.box.lost,.slice a3 n3 k3] 40)=w6 at HD6 gD TH iQ mP TI yV TJ ⊢
   have aiG:w5.heap.size+1≤w6.heap.size:=by omega
   clear TJ
   have DR:Below w6.heap.size w6 w6.drew:=(bd _ _)
   have TK:=ak (SI w3 w6.drew S5 gd g n5 X u5 u1 E5 (HD6.out.below DR) (by omega) kE.out (by have:=LD.out;omega))
   obtain ⟨sa',uZ,sc',rfl⟩:∃ x y z,u1=.slice x y z:=by
    rcases yV.out with ⟨e,-⟩ | ⟨_,_,_,_,_,e,-⟩
    ·exact ⟨_,_,_,e⟩
    ·exact ⟨_,_,_,e⟩
   have GA:=ak HD6.out.i64
   refine eF 5 (S:=fun w'=>w'.rangeAt w5.heap.size 0 [.int .i64 Y.code,.int .i64 Y.num,.slice a0 n0 k0,.int .i64 Y.box.valid,.int .i64 Y.box.next,.int .i64 Y.box.seq,.slice a1 n1 k1,.slice a2 n2 k2,.int .i64 Y.box.lost,.slice a3 n3 k3]) (eB (by kernel_rfl) acv) (by kernel_rfl) (fC (ay DR mP.out)) (fun aj aks=>?_)
   refine tks 0 0 23 aj aks ?_
   refine pq 1 2 25 40 (.tmp 7) w5.heap.size 0 [.int .i64 Y.code,.int .i64 Y.num,.slice a0 n0 k0,.int .i64 Y.box.valid,.int .i64 Y.box.next,.int .i64 Y.box.seq,.slice a1 n1 k1,.slice a2 n2 k2,.int .i64 Y.box.lost,.slice a3 n3 k3] aj aks (fun w h=>h) Tryz.underlying40 ?_
   refine cls 2 1 aj (by decide) rfl rfl (fun K hK=>?_)
   go_simp
   refine TK.out.mono ?_
   rintro e w7 ⟨bv,rfl,LG,B7⟩
   obtain ⟨xa,xn,xc,rfl⟩:∃ x y z,bv=.slice x y z:=by
    rcases LG with ⟨e,-⟩ | ⟨_,_,_,_,_,e,-⟩
    ·exact ⟨_,_,_,e⟩
    ·exact ⟨_,_,_,e⟩
   have ze:=Below.step DR B7
   have LH:=ay ze mP.out
   have Dt:=ay ze TH.out
   have wZ:=ay ze iQ.out
   refine hK.out _ _ (fC LH) (fun aks=>?_)
   clear hK K
   have hs7:=ze.size
   have TL:(((w7.setCell ⟨w.heap.size+2,0,none⟩ (.int .i64 X.valid)).setCell ⟨w.heap.size+2,1,none⟩ (.slice xa xn xc)).setCell ⟨w.heap.size+2,2,none⟩ (.slice sa' uZ sc')).heap[w.heap.size+2]?=some (.cells #[.int .i64 X.valid,.slice xa xn xc,.slice sa' uZ sc'] 33 (0,0)):=aP (i:=2) (v:=.slice sa' uZ sc') (aP (i:=1) (v:=.slice xa xn xc) (aP (i:=0) (v:=.int .i64 X.valid) Dt))
   have h8:∀ q,q≠w.heap.size+2→(((w7.setCell ⟨w.heap.size+2,0,none⟩ (.int .i64 X.valid)).setCell ⟨w.heap.size+2,1,none⟩ (.slice xa xn xc)).setCell ⟨w.heap.size+2,2,none⟩ (.slice sa' uZ sc')).heap[q]?=w7.heap[q]?:=fun q hq=>by
    rw [Below.heap_setCell _ _ _ _ (show q≠w.heap.size+2 from hq),Below.heap_setCell _ _ _ _ (show q≠w.heap.size+2 from hq),Below.heap_setCell _ _ _ _ (show q≠w.heap.size+2 from hq)]
   have Du:(((w7.setCell ⟨w.heap.size+2,0,none⟩ (.int .i64 X.valid)).setCell ⟨w.heap.size+2,1,none⟩ (.slice xa xn xc)).setCell ⟨w.heap.size+2,2,none⟩ (.slice sa' uZ sc')).heap.size=w7.heap.size:=by rw [aZ,aZ,aZ]
   have TM:=(h8 _ (by omega)).trans LH
   have Ah:=(h8 _ (by omega)).trans wZ
   have B8:Below w.heap.size w (((w7.setCell ⟨w.heap.size+2,0,none⟩ (.int .i64 X.valid)).setCell ⟨w.heap.size+2,1,none⟩ (.slice xa xn xc)).setCell ⟨w.heap.size+2,2,none⟩ (.slice sa' uZ sc')):=(((Below.step gD.out ze).setCell (p:=⟨w.heap.size+2,0,none⟩) (show w.heap.size≤w.heap.size+2 by omega) _).setCell (p:=⟨w.heap.size+2,1,none⟩) (show w.heap.size≤w.heap.size+2 by omega) _).setCell (p:=⟨w.heap.size+2,2,none⟩) (show w.heap.size≤w.heap.size+2 by omega) _
   have HBO:=ak LG
   have TN:=ak ze
   have H8:=ak h8
   have TP:=ak Du
   have tH:=ak (And.intro TL (And.intro TM (And.intro Ah B8)))
   obtain ⟨y0,y1,y2⟩:=bD Dt
   have yz:=(bR Dt).1
   have yl:=lt_of_heap Dt
   clear LG B7 ze LH wZ Dt TL h8 Du TM Ah B8 TK
   refine cls 3 3 aj (by decide) rfl rfl (fun K hK=>?_)
   go_simp
   refine hK.out _ _ (fC tH.out.2.1) (fun aks=>?_)
   clear hK K y0 y1 y2 yz yl
   generalize ((w7.setCell ⟨w.heap.size+2,0,none⟩ (.int .i64 X.valid)).setCell ⟨w.heap.size+2,1,none⟩ (.slice xa xn xc)).setCell ⟨w.heap.size+2,2,none⟩ (.slice sa' uZ sc')=w8 at H8 TP tH aks ⊢
   have HF:=ak (nZ tH.out.2.2.1 (.int .i64 Y.code) (.int .i64 Y.num) (.slice a0 n0 k0) (.int .i64 Y.box.valid) (.int .i64 Y.box.next) (.int .i64 Y.box.seq) (.slice a1 n1 k1) (.slice a2 n2 k2) (.int .i64 Y.box.lost) (.slice a3 n3 k3))
   obtain ⟨rz,rl,r0,r1,r2,r3,r4,r5,r6,r7,r8,r9⟩:=eT tH.out.2.2.1
   have qj:Hid ((iE w8 (w.heap.size+3) (.int .i64 Y.code) (.int .i64 Y.num) (.slice a0 n0 k0) (.int .i64 Y.box.valid) (.int .i64 Y.box.next) (.int .i64 Y.box.seq) (.slice a1 n1 k1) (.slice a2 n2 k2) (.int .i64 Y.box.lost) (.slice a3 n3 k3)).rangeAt w5.heap.size 0 [.int .i64 Y.code,.int .i64 Y.num,.slice a0 n0 k0,.int .i64 Y.box.valid,.int .i64 Y.box.next,.int .i64 Y.box.seq,.slice a1 n1 k1,.slice a2 n2 k2,.int .i64 Y.box.lost,.slice a3 n3 k3]):=fC ((HF.out.2.2.2 w5.heap.size (by omega)).trans tH.out.2.1)
   refine cls 4 4 aj (by decide) rfl rfl (fun K hK=>?_)
   go_simp
   refine hK.out _ _ qj.out (fun aks=>?_)
   clear hK K rz rl r0 r1 r2 r3 r4 r5 r6 r7 r8 r9
   refine eG aj ?_
   clear aks qj
   go_wp2
   have ff:=aM HF.out.1
   obtain ⟨e0,e1,e2⟩:=bD ((HF.out.2.2.2 (w.heap.size+2) (by omega)).trans tH.out.1)
   refine bodyPost_ret (v:=.tuple #[.agg #[.int .i64 X.valid,.slice xa xn xc,.slice sa' uZ sc'],.agg #[.int .i64 Y.code,.int .i64 Y.num,.slice a0 n0 k0,.int .i64 Y.box.valid,.int .i64 Y.box.next,.int .i64 Y.box.seq,.slice a1 n1 k1,.slice a2 n2 k2,.int .i64 Y.box.lost,.slice a3 n3 k3]]) (by simp [results,Tryz.results9,go_sem,e0,e1,e2,ff]) rfl ⟨_,_,rfl,?_,qB tH.out.2.2.2 HF.out.2.1 HF.out.2.2.1 HF.out.2.2.2 (show w.heap.size≤w.heap.size+3 by omega)⟩
   rw [bI.out]
   have jm:=HF.out.2.1
   have Du:=TP.out
   have aiH:=TN.out.size
   have hfr:∀ q,w3.heap.size≤q→q < w6.heap.size→(iE w8 (w.heap.size+3) (.int .i64 Y.code) (.int .i64 Y.num) (.slice a0 n0 k0) (.int .i64 Y.box.valid) (.int .i64 Y.box.next) (.int .i64 Y.box.seq) (.slice a1 n1 k1) (.slice a2 n2 k2) (.int .i64 Y.box.lost) (.slice a3 n3 k3)).heap[q]?=w6.heap[q]?:=fun q h1 h2=>(HF.out.2.2.2 q (by omega)).trans ((H8.out q (by omega)).trans (TN.out.block q h2))
   have hbo:l7 w7 (In w6.heap.size w7.heap.size) (.slice xa xn xc) X.boxes:=HBO.out
   refine ⟨.slice xa xn xc,.slice sa' uZ sc',w4.heap.size,w5.heap.size,rfl,?_,?_,?_,by omega,hs5,by rw [jm,Du];omega,GA.out⟩
   ·exact Ow.mono (Ow.frame oH yV.out fun q hq hl=>hfr q hq.1 hl) fun q hq=>⟨by have:=hq.1;omega,hq.2⟩
   ·obtain ⟨p0,p1,p2,p3,T0,t0,t1,t2,t3,t4,t5⟩:=TI.out
    exact ⟨p0,p1,p2,p3,T0,t0,gq _ _ _ _ _ t1 fun q hq hl=>hfr q (by have:=hq.1;omega) hl,t2.frame kL fun q hq hl=>hfr q (by have:=hq.1;omega) hl,t3,t4,t5⟩
   ·rw [jm,Du]
    exact Ow.mono (Ow.frame gq hbo fun q hq _=>(HF.out.2.2.2 q (by have:=hq.1;omega)).trans (H8.out q (by have:=hq.1;omega))) fun q hq=>⟨by have:=hq.1;omega,hq.2⟩
end Go.Proofs.YtlneebmlhblleaaGreat
