/- The proof's texts, part 37. -/
import Derived.Test.YtmglhdkeidhafaaGreatTc
namespace Go.Proofs.YtmglhdkeidhafaaGreat
set_option linter.unusedVariables false
set_option maxHeartbeats 4000000
set_option maxRecDepth 100000
/- What Td of package impl do. -/
open Go.RowKit Go.Shelf
theorem acB (u:Value) (m:aA) (bg:Nat) (vd:Int) (w:World) (hu:bI w u m) (hc:w.cell? ⟨bg,1,none⟩=some (.int .i64 vd)) (hb:bg < w.heap.size) :
  Calls Tryz.prog 27 #[u,.pointer (some ⟨bg,0,none⟩)] w fun e w'=>e=.returned (.bool (decide (m.valid=vd)))∧Below w.heap.size w w':=by
 obtain ⟨u0,u1,u2,rfl,g0,g1,g2,-⟩:=hu
 obtain ⟨a0,n0,c0,rfl⟩:=g0.aG
 obtain ⟨a1,c1,rfl,-⟩:=g1.form
 obtain ⟨a2,c2,rfl,-⟩:=g2.form
 clear g0 g1 g2
 obtain ⟨name,valid,next,seq,ah,au,lost⟩:=m
 simp only
 go_enter Tryz.func27,Tryz.ntmps27
 go_wp2
 go_ret
 exact ⟨aP (by rw [Bool.eq_iff_iff];simp),bn _ _⟩
theorem Te (v:Value) (x:aF) (w:World) (hv:iw w v x) :
  Calls Tryz.prog 8 #[v] w fun e w'=>e=.returned (.bool (fA x))∧Below w.heap.size w w':=by
 obtain ⟨u0,u1,rfl,g0,g1,i0⟩:=hv
 have H0:Hid (∀ wi,Below w.heap.size w wi→gJ wi u0 x.boxes∧oZ wi u1 x.seen):=fun wi h=>⟨g0.below tK h,g1.below DX h⟩
 obtain ⟨a0,c0,rfl,m0,m1⟩:=g0.form
 obtain ⟨a1,c1,rfl,m2,m3⟩:=g1.form
 clear g0 g1
 have HK:Hid ((w.alloc (.cells #[.int .i64 x.valid,.slice a0 x.boxes.length c0,.slice a1 x.seen.length c1] 26)).heap[w.heap.size]?=some (.cells #[.int .i64 x.valid,.slice a0 x.boxes.length c0,.slice a1 x.seen.length c1] 26)):=aW w _
 have HX:Hid (Below w.heap.size w (w.alloc (.cells #[.int .i64 x.valid,.slice a0 x.boxes.length c0,.slice a1 x.seen.length c1] 26))):=bn _ _
 have HC:Hid (fA x=(aM x.valid 0 1000000 && (decide (x.boxes.length≤4) && (nU x.seen && (List.range x.boxes.length).all (nV x))))):=rfl
 have hy1:=jy x.valid 0 1000000
 have hy2:=Ww _ x.seen _ (H0.out _ HX.out).2
 generalize aM x.valid 0 1000000=X1 at HC hy1
 generalize nU x.seen=X2 at HC hy2
 cases X1 with
 | false =>
  go_enter Tryz.func8,Tryz.ntmps8
  go_wp2_with fail
  refine (hy1 _).mono ?_
  rintro e w' ⟨rfl,rfl⟩
  go_wp2
  go_ret
  exact ⟨aP HC.out,HX.out⟩
 | true =>
 rcases Nat.lt_or_ge 4 x.boxes.length with h4 | h4
 ·rw [decide_eq_false (Nat.not_le_of_lt h4)] at HC
  have h4':(4:Int) < x.boxes.length:=by omega
  go_enter Tryz.func8,Tryz.ntmps8
  go_wp2_with fail
  refine (hy1 _).mono ?_
  rintro e w' ⟨rfl,rfl⟩
  go_wp2
  go_ret
  exact ⟨aP HC.out,HX.out⟩
 rw [decide_eq_true h4] at HC
 have h4':(x.boxes.length:Int)≤4:=by omega
 cases X2 with
 | false =>
  go_enter Tryz.func8,Tryz.ntmps8
  go_wp2_with fail
  refine (hy1 _).mono ?_
  rintro e w' ⟨rfl,rfl⟩
  go_wp2_with fail
  refine hy2.mono ?_
  rintro e w' ⟨rfl,rfl⟩
  go_wp2
  go_ret
  exact ⟨aP HC.out,HX.out⟩
 | true =>
 have HS:Hid (fA x=(List.range x.boxes.length).all (nV x)):=HC.out
 clear HC
 go_enter Tryz.func8,Tryz.ntmps8
 go_wp2_with fail
 refine (hy1 _).mono ?_
 rintro e w' ⟨rfl,rfl⟩
 go_wp2_with fail
 refine hy2.mono ?_
 rintro e w' ⟨rfl,rfl⟩
 clear hy1 hy2
 go_wp2
 go_loopw [3,4,5,25] (fun _ _ _ i wr=>∃ k:Nat,k≤x.boxes.length∧i=.int .i64 k∧Hid (∀ j,j < k→nV x j=true)∧Hid (wr.heap[w.heap.size]?=some (.cells #[.int .i64 x.valid,.slice a0 x.boxes.length c0,.slice a1 x.seen.length c1] 26))∧Hid (Below w.heap.size w wr)) (fun _ _ _ i _=>x.boxes.length - (intOf i).toNat)
 case atStart=>exact ⟨0,Nat.zero_le _,rfl,(fun j hj=>absurd hj (Nat.not_lt_zero _)),HK,HX⟩
 case round =>
  obtain ⟨k,hk,rfl,hA,hK,hB⟩:=hrel
  by_cases hlt:k < x.boxes.length
  ·obtain ⟨m,hm⟩:∃ m,x.boxes[k]?=some m:=⟨x.boxes[k],aL hlt⟩
   obtain ⟨b,off,cap',u0,u1,u2,hv',hlb,d0,d1,d2,d3,d4,d5,d6,hu0,hu1,hu2,j0,j1,j2,j3⟩:=gJ.cell (H0.out wr hB.out).1 k m hm
   simp only [Value.slice.injEq,true_and] at hv'
   obtain ⟨rfl,rfl⟩:=hv'
   obtain ⟨ua,un,uc,rfl⟩:=hu0.aG
   obtain ⟨va,vc,rfl,-⟩:=hu1.form
   obtain ⟨wa,wc,rfl,-⟩:=hu2.form
   have gM:Hid (∀ wi,Below wr.heap.size wr wi→bI wi (.agg #[.slice ua un uc,.int .i64 m.valid,.int .i64 m.next,.int .i64 m.seq,.slice va m.ah.length vc,.slice wa m.au.length wc,.int .i64 m.lost]) m):=fun wi h=>⟨_,_,_,rfl,hu0.below h,hu1.below iG h,hu2.below gU h,j0,j1,j2,j3⟩
   have HE:Hid (nV x k=(gB m x.valid && (mV x.boxes m k && !((x.boxes.take k).any fun o=>decide (o.valid=m.valid))))):=by simp [Hid,nV,hm]
   have jR:Hid ((wr.alloc (.cells #[.slice ua un uc,.int .i64 m.valid,.int .i64 m.next,.int .i64 m.seq,.slice va m.ah.length vc,.slice wa m.au.length wc,.int .i64 m.lost] 34)).heap[wr.heap.size]?=some (.cells #[.slice ua un uc,.int .i64 m.valid,.int .i64 m.next,.int .i64 m.seq,.slice va m.ah.length vc,.slice wa m.au.length wc,.int .i64 m.lost] 34)):=aW wr _
   have iy:Hid ((wr.alloc (.cells #[.slice ua un uc,.int .i64 m.valid,.int .i64 m.next,.int .i64 m.seq,.slice va m.ah.length vc,.slice wa m.au.length wc,.int .i64 m.lost] 34)).heap[w.heap.size]?=some (.cells #[.int .i64 x.valid,.slice (some ⟨b,off,none⟩) x.boxes.length c0,.slice a1 x.seen.length c1] 26)):=yL hK.out _
   have HA1:Hid (Below wr.heap.size wr (wr.alloc (.cells #[.slice ua un uc,.int .i64 m.valid,.int .i64 m.next,.int .i64 m.seq,.slice va m.ah.length vc,.slice wa m.au.length wc,.int .i64 m.lost] 34))):=bn _ _
   have HB1:Hid (Below w.heap.size w (wr.alloc (.cells #[.slice ua un uc,.int .i64 m.valid,.int .i64 m.next,.int .i64 m.seq,.slice va m.ah.length vc,.slice wa m.au.length wc,.int .i64 m.lost] 34))):=Below.step hB.out HA1.out
   have uQ:Hid (∀ wi,Below (wr.alloc (.cells #[.slice ua un uc,.int .i64 m.valid,.int .i64 m.next,.int .i64 m.seq,.slice va m.ah.length vc,.slice wa m.au.length wc,.int .i64 m.lost] 34)).heap.size (wr.alloc (.cells #[.slice ua un uc,.int .i64 m.valid,.int .i64 m.next,.int .i64 m.seq,.slice va m.ah.length vc,.slice wa m.au.length wc,.int .i64 m.lost] 34)) wi→Calls Tryz.prog 26 #[.slice (some ⟨b,off,none⟩) k c0,.func (.func 27) #[] #[.pointer (some ⟨wr.heap.size,0,none⟩)]] wi fun e w'=>e=.returned (.bool ((x.boxes.take k).any fun o=>decide (o.valid=m.valid)))∧Below wi.heap.size wi w'):=fun wi hbi =>
    Xf 27 #[.pointer (some ⟨wr.heap.size,0,none⟩)] (fun o=>decide (o.valid=m.valid)) _ (x.boxes.take k) _ (((H0.out _ (Below.step HB1.out hbi)).1).EB k hk) (fun args w=>by kernel_rfl) (fun wj o u hbj hu=>acB u o wr.heap.size m.valid wj hu (bU (aB hbj (aB hbi jR.out))).2.1 (lt_of_heap (aB hbj (aB hbi jR.out))))
   generalize ((x.boxes.take k).any fun o=>decide (o.valid=m.valid))=X3 at uQ HE
   have dH:=fun wi (h:bI wi (.agg #[.slice ua un uc,.int .i64 m.valid,.int .i64 m.next,.int .i64 m.seq,.slice va m.ah.length vc,.slice wa m.au.length wc,.int .i64 m.lost]) m)=>Xh _ m x.valid wi h
   generalize gB m x.valid=X1 at HE dH
   have LQ:=hK.out
   obtain ⟨e0,e1,e2⟩:=bM LQ
   have hlA:=lt_of_heap LQ
   clear LQ hm
   have DR:Below (wr.alloc (.cells #[.slice ua un uc,.int .i64 m.valid,.int .i64 m.next,.int .i64 m.seq,.slice va m.ah.length vc,.slice wa m.au.length wc,.int .i64 m.lost] 34)).heap.size (wr.alloc (.cells #[.slice ua un uc,.int .i64 m.valid,.int .i64 m.next,.int .i64 m.seq,.slice va m.ah.length vc,.slice wa m.au.length wc,.int .i64 m.lost] 34)) (wr.alloc (.cells #[.slice ua un uc,.int .i64 m.valid,.int .i64 m.next,.int .i64 m.seq,.slice va m.ah.length vc,.slice wa m.au.length wc,.int .i64 m.lost] 34)).drew:=(bd _ _)
   have HF:Hid (∀ w',Below (wr.alloc (.cells #[.slice ua un uc,.int .i64 m.valid,.int .i64 m.next,.int .i64 m.seq,.slice va m.ah.length vc,.slice wa m.au.length wc,.int .i64 m.lost] 34)).heap.size (wr.alloc (.cells #[.slice ua un uc,.int .i64 m.valid,.int .i64 m.next,.int .i64 m.seq,.slice va m.ah.length vc,.slice wa m.au.length wc,.int .i64 m.lost] 34)) w'→w'.cell? ⟨wr.heap.size,0,none⟩=some (.slice ua un uc)∧w'.cell? ⟨wr.heap.size,1,none⟩=some (.int .i64 m.valid)∧w'.cell? ⟨wr.heap.size,2,none⟩=some (.int .i64 m.next)∧w'.cell? ⟨wr.heap.size,3,none⟩=some (.int .i64 m.seq)∧w'.cell? ⟨wr.heap.size,4,none⟩=some (.slice va m.ah.length vc)∧w'.cell? ⟨wr.heap.size,5,none⟩=some (.slice wa m.au.length wc)∧w'.cell? ⟨wr.heap.size,6,none⟩=some (.int .i64 m.lost)∧w'.cell? ⟨w.heap.size,0,none⟩=some (.int .i64 x.valid)):=by
    intro w' h
    obtain ⟨r0,r1,r2,r3,r4,r5,r6⟩:=bU (aB h jR.out)
    exact ⟨r0,r1,r2,r3,r4,r5,r6,(bM (aB h iy.out)).1⟩
   cases X1 with
   | false =>
    go_wp2
    refine wp_region_held_drew (S:=fun w'=>w'.cell? ⟨wr.heap.size,0,none⟩=some (.slice ua un uc)∧w'.cell? ⟨wr.heap.size,1,none⟩=some (.int .i64 m.valid)∧w'.cell? ⟨wr.heap.size,2,none⟩=some (.int .i64 m.next)∧w'.cell? ⟨wr.heap.size,3,none⟩=some (.int .i64 m.seq)∧w'.cell? ⟨wr.heap.size,4,none⟩=some (.slice va m.ah.length vc)∧w'.cell? ⟨wr.heap.size,5,none⟩=some (.slice wa m.au.length wc)∧w'.cell? ⟨wr.heap.size,6,none⟩=some (.int .i64 m.lost)∧w'.cell? ⟨w.heap.size,0,none⟩=some (.int .i64 x.valid)) (by kernel_rfl) (HF.out _ DR) (fun ahz=>(show wpAnyH _ _ _ _ _ 21 #[false,false,false,false,false,false,false,false,false,false,false,false,false,false,false,false,false,false,false,false,false] _ _ from ?_))
    refine tq 0 34 ahz ?_
    refine tq 1 35 ahz ?_
    refine tq 2 36 ahz ?_
    refine wpAnyH_ready (rs:=[3]) (by kernel_rfl) (by simp) ?_
    refine AllReadyH.cons rfl (fun K hK=>?_) AllReadyH.nil
    go_simp
    refine (dH _ (gM.out _ (Below.step HA1.out DR))).mono ?_
    rintro e w1 ⟨rfl,B⟩
    refine hK.out _ _ (HF.out _ (Below.step DR B)) (fun ahz=>?_)
    clear hK K
    refine tq 4 38 ahz ?_
    refine tq 5 39 ahz ?_
    refine Ao (by kernel_rfl) (fun _ _ _ _ _ h=>h) ahz [6,7,8,9,10,11,12,13,14,15,16,17,18,19] [40,41,42,43,44,45,46,47,48,49,50,51,52,53] _ _ _ (by kernel_rfl) ?_
    simp only [List.foldl_cons,List.foldl_nil,Act.put,sA,s0,sS]
    refine tq 20 54 ahz ?_
    refine wpAnyH_done (by kernel_rfl) ?_ _
    clear dH uQ HF gM jR iy HA1
    repeat clear ahz
    go_wp2
    go_ret
    exact ⟨aP (by rw [HS.out];exact iH k hlt HE.out),Below.step (Below.step HB1.out DR) B⟩
   | true =>
    by_cases hkz:(0:Int) < (k:Int)
    rotate_left
    ·have uR:Hid (mV x.boxes m k=true):=by
          have:k=0:=by omega
          subst this;rfl
     rw [uR.out,Bool.true_and,Bool.true_and] at HE
     clear uR
     have hkN:¬ 0 < k:=by omega
     have hd:decide (0 < k)=false:=by simpa using hkN
     go_wp2
     refine wp_region_held_drew (S:=fun w'=>w'.cell? ⟨wr.heap.size,0,none⟩=some (.slice ua un uc)∧w'.cell? ⟨wr.heap.size,1,none⟩=some (.int .i64 m.valid)∧w'.cell? ⟨wr.heap.size,2,none⟩=some (.int .i64 m.next)∧w'.cell? ⟨wr.heap.size,3,none⟩=some (.int .i64 m.seq)∧w'.cell? ⟨wr.heap.size,4,none⟩=some (.slice va m.ah.length vc)∧w'.cell? ⟨wr.heap.size,5,none⟩=some (.slice wa m.au.length wc)∧w'.cell? ⟨wr.heap.size,6,none⟩=some (.int .i64 m.lost)∧w'.cell? ⟨w.heap.size,0,none⟩=some (.int .i64 x.valid)) (by kernel_rfl) (HF.out _ DR) (fun ahz=>(show wpAnyH _ _ _ _ _ 21 #[false,false,false,false,false,false,false,false,false,false,false,false,false,false,false,false,false,false,false,false,false] _ _ from ?_))
     refine tq 0 34 ahz ?_
     refine tq 1 35 ahz ?_
     refine tq 2 36 ahz ?_
     refine wpAnyH_ready (rs:=[3]) (by kernel_rfl) (by simp) ?_
     refine AllReadyH.cons rfl (fun K hK=>?_) AllReadyH.nil
     go_simp
     refine (dH _ (gM.out _ (Below.step HA1.out DR))).mono ?_
     rintro e w1 ⟨rfl,B⟩
     refine hK.out _ _ (HF.out _ (Below.step DR B)) (fun ahz=>?_)
     clear hK K
     refine tq 4 38 ahz ?_
     refine tq 5 39 ahz ?_
     refine tq 6 40 ahz ?_
     refine tq 7 41 ahz ?_
     refine tq 8 42 ahz ?_
     refine Ao (by kernel_rfl) (fun _ _ _ _ _ h=>h) ahz [9,10,11,12,13,14,15,16,17,18] [43,44,45,46,47,48,49,50,51,52] _ _ _ (by kernel_rfl) ?_
     simp only [List.foldl_cons,List.foldl_nil,Act.put,sA,s0,sS]
     refine tq 19 53 ahz ?_
     refine tq 20 54 ahz ?_
     refine wpAnyH_done (by kernel_rfl) ?_ _
     repeat clear ahz
     have c3':=uQ.out w1 (Below.step DR B)
     have HB2:Hid (Below w.heap.size w w1):=Below.step (Below.step HB1.out DR) B
     have l8:Hid (w1.heap[w.heap.size]?=some (.cells #[.int .i64 x.valid,.slice (some ⟨b,off,none⟩) x.boxes.length c0,.slice a1 x.seen.length c1] 26)):=aB B (aB DR iy.out)
     clear B DR HB1 iy HA1 dH HF uQ
     cases X3 with
     | true =>
      go_wp2_with fail
      refine c3'.mono ?_
      rintro e w3 ⟨rfl,B⟩
      go_wp2
      go_ret
      exact ⟨aP (by rw [HS.out];exact iH k hlt HE.out),Below.step HB2.out B⟩
     | false =>
      go_wp2_with fail
      refine c3'.mono ?_
      rintro e w3 ⟨rfl,B⟩
      have HB3:Hid (Below w.heap.size w w3):=Below.step HB2.out B
      have xH:Hid (w3.heap[w.heap.size]?=some (.cells #[.int .i64 x.valid,.slice (some ⟨b,off,none⟩) x.boxes.length c0,.slice a1 x.seen.length c1] 26)):=aB B l8.out
      clear B HB2 l8
      go_wp2
      go_roundw
      case rel =>
       refine ⟨k+1,by omega,by go_num,(show Hid _ from fun i hi=>?_),xH,HB3⟩
       by_cases e:i=k
       ·subst e;exact HE.out
       ·exact hA.out i (by omega)
      case measure=>simp [intOf];omega
    ·obtain ⟨j,hj⟩:∃ j,k=j+1:=⟨k - 1,by omega⟩
     have hjk:(j:Int) < (k:Int):=by omega
     have hkN:0 < k:=by omega
     have hd:decide (0 < k)=true:=by simpa using hkN
     have hj0:(0:Int)≤(j:Int):=by omega
     have hw1:IntKind.i64.wrap ((k:Int) - 1)=(j:Int):=by rw [IntWalk.i64_in _ (by omega)];omega
     have HJ:Hid (k=j+1):=hj
     clear hj
     obtain ⟨m',hm'⟩:∃ m',x.boxes[j]?=some m':=⟨x.boxes[j]'(by have:=HJ.out;omega),aL (by have:=HJ.out;omega)⟩
     obtain ⟨b2,off2,cap2,p0,q1,q2,hv2,iJ,t0,-,-,-,-,-,-,hp0,-⟩:=gJ.cell (H0.out wr hB.out).1 j m' hm'
     simp only [Value.slice.injEq,true_and,Option.some.injEq,Addr.mk.injEq,and_true] at hv2
     obtain ⟨⟨rfl,rfl⟩,rfl⟩:=hv2
     obtain ⟨pa,pn,pc,rfl⟩:=hp0.aG
     have uR:Hid (mV x.boxes m k=bV m'.name m.name):=by rw [HJ.out];simp [Hid,mV,nameAt,hm']
     rw [uR.out] at HE
     have HCM:Hid (∀ wi,Below wr.heap.size wr wi→Calls Tryz.prog 25 #[.slice pa pn pc,.slice ua un uc] wi fun e w'=>e=.returned (.int .i64 (Lib.compareBytes (dN m'.name) (dN m.name)))∧w'=wi):=fun wi h=>Oa _ _ m'.name m.name wi (hp0.below h) (hu0.below h)
     have zV:Hid (bV m'.name m.name = !decide (0≤Lib.compareBytes (dN m'.name) (dN m.name))):=by simp only [Hid];rw [Ea];simp [bV]
     generalize Lib.compareBytes (dN m'.name) (dN m.name)=cv at HCM zV
     generalize bV m'.name m.name=L at HE zV
     have wL:Hid (∀ w',Below (wr.alloc (.cells #[.slice ua un uc,.int .i64 m.valid,.int .i64 m.next,.int .i64 m.seq,.slice va m.ah.length vc,.slice wa m.au.length wc,.int .i64 m.lost] 34)).heap.size (wr.alloc (.cells #[.slice ua un uc,.int .i64 m.valid,.int .i64 m.next,.int .i64 m.seq,.slice va m.ah.length vc,.slice wa m.au.length wc,.int .i64 m.lost] 34)) w'→(w'.cell? ⟨wr.heap.size,0,none⟩=some (.slice ua un uc)∧w'.cell? ⟨wr.heap.size,1,none⟩=some (.int .i64 m.valid)∧w'.cell? ⟨wr.heap.size,2,none⟩=some (.int .i64 m.next)∧w'.cell? ⟨wr.heap.size,3,none⟩=some (.int .i64 m.seq)∧w'.cell? ⟨wr.heap.size,4,none⟩=some (.slice va m.ah.length vc)∧w'.cell? ⟨wr.heap.size,5,none⟩=some (.slice wa m.au.length wc)∧w'.cell? ⟨wr.heap.size,6,none⟩=some (.int .i64 m.lost)∧w'.cell? ⟨w.heap.size,0,none⟩=some (.int .i64 x.valid))∧w'.cell? ⟨b,off+j * 7,none⟩=some (.slice pa pn pc)):=by
      intro w' h
      exact ⟨HF.out w' h,((Below.step HA1.out h).cell (p:=⟨b,off+j * 7,none⟩) hlb).trans t0⟩
     clear hm' uR
     by_cases hcv:0≤cv
     ·have HL:Hid (L=false):=by rw [Hid,zV.out,decide_eq_true hcv];rfl
      clear zV
      go_wp2
      refine wp_region_held_drew (S:=fun w'=>(w'.cell? ⟨wr.heap.size,0,none⟩=some (.slice ua un uc)∧w'.cell? ⟨wr.heap.size,1,none⟩=some (.int .i64 m.valid)∧w'.cell? ⟨wr.heap.size,2,none⟩=some (.int .i64 m.next)∧w'.cell? ⟨wr.heap.size,3,none⟩=some (.int .i64 m.seq)∧w'.cell? ⟨wr.heap.size,4,none⟩=some (.slice va m.ah.length vc)∧w'.cell? ⟨wr.heap.size,5,none⟩=some (.slice wa m.au.length wc)∧w'.cell? ⟨wr.heap.size,6,none⟩=some (.int .i64 m.lost)∧w'.cell? ⟨w.heap.size,0,none⟩=some (.int .i64 x.valid))∧w'.cell? ⟨b,off+j * 7,none⟩=some (.slice pa pn pc)) (by kernel_rfl) (wL.out _ DR) (fun ahz=>(show wpAnyH _ _ _ _ _ 21 #[false,false,false,false,false,false,false,false,false,false,false,false,false,false,false,false,false,false,false,false,false] _ _ from ?_))
      refine tq 0 34 ahz ?_
      refine tq 1 35 ahz ?_
      refine tq 2 36 ahz ?_
      refine wpAnyH_ready (rs:=[3]) (by kernel_rfl) (by simp) ?_
      refine AllReadyH.cons rfl (fun K hK=>?_) AllReadyH.nil
      go_simp
      refine (dH _ (gM.out _ (Below.step HA1.out DR))).mono ?_
      rintro e w1 ⟨rfl,B⟩
      refine hK.out _ _ (wL.out _ (Below.step DR B)) (fun ahz=>?_)
      clear hK K
      refine tq 4 38 ahz ?_
      refine tq 5 39 ahz ?_
      refine tq 6 40 ahz ?_
      refine tq 7 41 ahz ?_
      refine tq 8 42 ahz ?_
      refine tq 9 43 ahz ?_
      refine tq 10 44 ahz ?_
      refine tq 11 45 ahz ?_
      refine tq 12 46 ahz ?_
      refine tq 13 47 ahz ?_
      refine tq 14 48 ahz ?_
      refine tq 15 49 ahz ?_
      refine tq 16 50 ahz ?_
      refine wpAnyH_ready (rs:=[17]) (by kernel_rfl) (by simp) ?_
      refine AllReadyH.cons rfl (fun K hK=>?_) AllReadyH.nil
      go_simp
      refine (HCM.out _ (Below.step (Below.step HA1.out DR) B)).mono ?_
      rintro e w2 ⟨rfl,rfl⟩
      refine hK.out _ _ (wL.out _ (Below.step DR B)) (fun ahz=>?_)
      clear hK K
      refine tq 18 52 ahz ?_
      refine tq 19 53 ahz ?_
      refine tq 20 54 ahz ?_
      refine wpAnyH_done (by kernel_rfl) ?_ _
      clear dH uQ HF gM jR iy HA1 wL HCM
      repeat clear ahz
      go_wp2
      go_ret
      exact ⟨aP (by rw [HS.out];exact iH k hlt (by rw [HE.out,HL.out];rfl)),Below.step (Below.step HB1.out DR) B⟩
     ·have HL:Hid (L=true):=by rw [Hid,zV.out,decide_eq_false hcv];rfl
      rw [HL.out,Bool.true_and,Bool.true_and] at HE
      clear zV
      go_wp2
      refine wp_region_held_drew (S:=fun w'=>(w'.cell? ⟨wr.heap.size,0,none⟩=some (.slice ua un uc)∧w'.cell? ⟨wr.heap.size,1,none⟩=some (.int .i64 m.valid)∧w'.cell? ⟨wr.heap.size,2,none⟩=some (.int .i64 m.next)∧w'.cell? ⟨wr.heap.size,3,none⟩=some (.int .i64 m.seq)∧w'.cell? ⟨wr.heap.size,4,none⟩=some (.slice va m.ah.length vc)∧w'.cell? ⟨wr.heap.size,5,none⟩=some (.slice wa m.au.length wc)∧w'.cell? ⟨wr.heap.size,6,none⟩=some (.int .i64 m.lost)∧w'.cell? ⟨w.heap.size,0,none⟩=some (.int .i64 x.valid))∧w'.cell? ⟨b,off+j * 7,none⟩=some (.slice pa pn pc)) (by kernel_rfl) (wL.out _ DR) (fun ahz=>(show wpAnyH _ _ _ _ _ 21 #[false,false,false,false,false,false,false,false,false,false,false,false,false,false,false,false,false,false,false,false,false] _ _ from ?_))
      refine tq 0 34 ahz ?_
      refine tq 1 35 ahz ?_
      refine tq 2 36 ahz ?_
      refine wpAnyH_ready (rs:=[3]) (by kernel_rfl) (by simp) ?_
      refine AllReadyH.cons rfl (fun K hK=>?_) AllReadyH.nil
      go_simp
      refine (dH _ (gM.out _ (Below.step HA1.out DR))).mono ?_
      rintro e w1 ⟨rfl,B⟩
      refine hK.out _ _ (wL.out _ (Below.step DR B)) (fun ahz=>?_)
      clear hK K
      refine tq 4 38 ahz ?_
      refine tq 5 39 ahz ?_
      refine tq 6 40 ahz ?_
      refine tq 7 41 ahz ?_
      refine tq 8 42 ahz ?_
      refine tq 9 43 ahz ?_
      refine tq 10 44 ahz ?_
      refine tq 11 45 ahz ?_
      refine tq 12 46 ahz ?_
      refine tq 13 47 ahz ?_
      refine tq 14 48 ahz ?_
      refine tq 15 49 ahz ?_
      refine tq 16 50 ahz ?_
      refine wpAnyH_ready (rs:=[17]) (by kernel_rfl) (by simp) ?_
      refine AllReadyH.cons rfl (fun K hK=>?_) AllReadyH.nil
      go_simp
      refine (HCM.out _ (Below.step (Below.step HA1.out DR) B)).mono ?_
      rintro e w2 ⟨rfl,rfl⟩
      refine hK.out _ _ (wL.out _ (Below.step DR B)) (fun ahz=>?_)
      clear hK K
      refine tq 18 52 ahz ?_
      refine tq 19 53 ahz ?_
      refine tq 20 54 ahz ?_
      refine wpAnyH_done (by kernel_rfl) ?_ _
      repeat clear ahz
      clear wL HCM
      have c3':=uQ.out w2 (Below.step DR B)
      have HB2:Hid (Below w.heap.size w w2):=Below.step (Below.step HB1.out DR) B
      have l8:Hid (w2.heap[w.heap.size]?=some (.cells #[.int .i64 x.valid,.slice (some ⟨b,off,none⟩) x.boxes.length c0,.slice a1 x.seen.length c1] 26)):=aB B (aB DR iy.out)
      clear B DR HB1 iy HA1 dH HF uQ
      cases X3 with
      | true =>
       go_wp2_with fail
       refine c3'.mono ?_
       rintro e w3 ⟨rfl,B⟩
       go_wp2
       go_ret
       exact ⟨aP (by rw [HS.out];exact iH k hlt HE.out),Below.step HB2.out B⟩
      | false =>
       go_wp2_with fail
       refine c3'.mono ?_
       rintro e w3 ⟨rfl,B⟩
       have HB3:Hid (Below w.heap.size w w3):=Below.step HB2.out B
       have xH:Hid (w3.heap[w.heap.size]?=some (.cells #[.int .i64 x.valid,.slice (some ⟨b,off,none⟩) x.boxes.length c0,.slice a1 x.seen.length c1] 26)):=aB B l8.out
       clear B HB2 l8
       go_wp2
       go_roundw
       case rel =>
        refine ⟨k+1,by omega,by go_num,(show Hid _ from fun i hi=>?_),xH,HB3⟩
        by_cases e:i=k
        ·subst e;exact HE.out
        ·exact hA.out i (by omega)
       case measure=>simp [intOf];omega
  ·obtain rfl:k=x.boxes.length:=by omega
   go_wp2
   go_ret
   exact ⟨aP (by rw [HS.out];exact tO hA.out),hB.out⟩
end Go.Proofs.YtmglhdkeidhafaaGreat
