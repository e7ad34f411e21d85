/- The proof's texts, part 39. -/
import Derived.Test.YtmglhdkeidhafaaGreatTC
namespace Go.Proofs.YtmglhdkeidhafaaGreat
open Go.RowKit
set_option linter.unusedVariables false
set_option linter.unusedSimpArgs false
set_option maxHeartbeats 40000000
set_option maxRecDepth 100000
/- What Td of package spec do. -/
theorem acM:(Tryz.f6.body.bind (bR 6)).all (fun o=>table o 31 [7])=true:=by kernel_rfl
theorem LW {q n:Int} (hq:0≤q) (h:n < 1∨1000000 < n∨n≤q):aM n (q+1) 1000000=false:=by
 rw [Bool.eq_false_iff]
 intro e
 simp only [aM,Bool.and_eq_true,decide_eq_true_eq] at e
 omega
theorem Tf {q n:Int} (h0:q < n) (h1:n≤1000000):aM n (q+1) 1000000=true:=by
 simp only [aM,Bool.and_eq_true,decide_eq_true_eq]
 omega
theorem acN (l:List Int):(strOfNums l).toList=dN l:=by
 rw [ByteArray.toList_eq]
 rfl
theorem acO (v:Value) (x:aF) (w:World) (hv:iw w v x) (q0:0≤x.valid) (q1:x.valid≤1000000) (q2:(x.boxes.length:Int)≤4) (q3:(x.seen.length:Int)≤60) :
  Calls Tryz.prog 6 #[v] w fun e w'=>e=.returned (.bool (fA x))∧Below w.heap.size w w':=by
 have CJ:Hid ((List.range x.boxes.length).all (nV x)=false→fA x=false):=fun h=>by simp [fA,h]
 have LX:Hid ((List.range x.seen.length).all (seenAt x.seen)=false→fA x=false):=fun h=>by simp [fA,nU,h]
 obtain ⟨u0,u1,rfl,g0,g1,i0⟩:=hv
 have H0:Hid (∀ wi,Below w.heap.size w wi→gJ wi u0 x.boxes∧oZ wi u1 x.seen):=fun wi h=>⟨g0.below tK h,g1.below DX h⟩
 obtain ⟨a0,c0,rfl,m0,m1⟩:=g0.form
 obtain ⟨a1,c1,rfl,m2,m3⟩:=g1.form
 clear g0 g1
 have HK:Hid ((w.alloc (.cells #[.int .i64 x.valid,.slice a0 x.boxes.length c0,.slice a1 x.seen.length c1] 26)).heap[w.heap.size]?=some (.cells #[.int .i64 x.valid,.slice a0 x.boxes.length c0,.slice a1 x.seen.length c1] 26)):=aW w _
 have HX:Hid (Below w.heap.size w (w.alloc (.cells #[.int .i64 x.valid,.slice a0 x.boxes.length c0,.slice a1 x.seen.length c1] 26))):=bn _ _
 go_enter Tryz.func6,Tryz.ntmps6
 go_wp2
 go_loopw [3,4] (fun i _ wr=>∃ k:Nat,k≤x.boxes.length∧i=.int .i64 k∧Hid (∀ j,j < k→nV x j=true)∧Hid (wr.heap[w.heap.size]?=some (.cells #[.int .i64 x.valid,.slice a0 x.boxes.length c0,.slice a1 x.seen.length c1] 26))∧Hid (Below w.heap.size w wr)) (fun i _ _=>x.boxes.length - (intOf i).toNat)
 case atStart=>exact ⟨0,Nat.zero_le _,rfl,(fun j hj=>absurd hj (Nat.not_lt_zero _)),HK,HX⟩
 case round =>
  obtain ⟨k,hk,rfl,hA,hK,hB⟩:=hrel
  obtain ⟨e0,e1,e2⟩:=bM hK.out
  have hlA:=lt_of_heap hK.out
  by_cases hlt:k < x.boxes.length
  ·obtain ⟨m,hm⟩:∃ m,x.boxes[k]?=some m:=⟨x.boxes[k],aL hlt⟩
   obtain ⟨b,off,cap',u0,u1,u2,hv',hlb,d0,d1,d2,d3,d4,d5,d6,hu0,hu1,hu2,j0,j1,j2,j3⟩:=gJ.cell (H0.out wr hB.out).1 k m hm
   simp only [Value.slice.injEq,true_and] at hv'
   obtain ⟨rfl,rfl⟩:=hv'
   obtain ⟨ua,un,uc,rfl⟩:=hu0.aG
   obtain ⟨va,vc,rfl,-⟩:=hu1.form
   obtain ⟨wa,wc,rfl,-⟩:=hu2.form
   have gM:Hid (∀ wi,Below wr.heap.size wr wi→bI wi (.agg #[.slice ua un uc,.int .i64 m.valid,.int .i64 m.next,.int .i64 m.seq,.slice va m.ah.length vc,.slice wa m.au.length wc,.int .i64 m.lost]) m):=fun wi h=>⟨_,_,_,rfl,hu0.below h,hu1.below iG h,hu2.below gU h,j0,j1,j2,j3⟩
   have HU0:Hid (Bs wr (.slice ua un uc) m.name):=hu0
   clear hu0 hu1 hu2
   have HE:Hid (nV x k=(gB m x.valid && (mV x.boxes m k && !((x.boxes.take k).any fun o=>decide (o.valid=m.valid))))):=by simp [Hid,nV,hm]
   have HM:Hid (x.boxes[k]?=some m):=hm
   clear hm
   have dH:=fun wi (h:bI wi (.agg #[.slice ua un uc,.int .i64 m.valid,.int .i64 m.next,.int .i64 m.seq,.slice va m.ah.length vc,.slice wa m.au.length wc,.int .i64 m.lost]) m)=>acL _ m x.valid wi h
   generalize gB m x.valid=X1 at HE dH
   have DR:Below wr.heap.size wr wr.drew:=(bd _ _)
   have LJ:(k:Int) < (x.boxes.length:Int):=by omega
   obtain ⟨j,hj⟩:∃ j,j=k - 1:=⟨_,rfl⟩
   obtain ⟨m',hm'⟩:∃ m',x.boxes[j]?=some m':=⟨x.boxes[j]'(by omega),aL (by omega)⟩
   obtain ⟨b2,off2,cap2,p0,p1,p2,hv2,iJ,t0,-,-,-,-,-,-,hp0,-⟩:=gJ.cell (H0.out wr hB.out).1 j m' hm'
   simp only [Value.slice.injEq,true_and,Option.some.injEq,Addr.mk.injEq,and_true] at hv2
   obtain ⟨⟨rfl,rfl⟩,rfl⟩:=hv2
   obtain ⟨pa,pn,pc,rfl⟩:=hp0.aG
   have uR:Hid (mV x.boxes m k=(!decide (0 < k) || bV m'.name m.name)):=by
    by_cases h:0 < k
    ·rw [show k=j+1 by omega];simp [Hid,mV,nameAt,hm']
    ·rw [show k=0 by omega];rfl
   have HS:Hid (∀ w',Below wr.heap.size wr w'→lS w' w.heap.size 0 [.int .i64 x.valid,.slice (some ⟨b,off,none⟩) x.boxes.length c0,.slice a1 x.seen.length c1]∧lS w' b (off+k * 7) [.slice ua un uc,.int .i64 m.valid,.int .i64 m.next,.int .i64 m.seq,.slice va m.ah.length vc,.slice wa m.au.length wc,.int .i64 m.lost]∧w'.cell? ⟨b,off+j * 7,none⟩=some (.slice pa pn pc)∧(convert 22 9 (.slice pa pn pc)).run Tryz.prog w'=.ok (.string (strOfNums m'.name)) w'∧(convert 22 9 (.slice ua un uc)).run Tryz.prog w'=.ok (.string (strOfNums m.name)) w'):=fun w' h =>
    ⟨CO (aB h hK.out),⟨(h.cell (p:=⟨b,_,none⟩) hlb).trans d0,(h.cell (p:=⟨b,_,none⟩) hlb).trans d1,(h.cell (p:=⟨b,_,none⟩) hlb).trans d2,(h.cell (p:=⟨b,_,none⟩) hlb).trans d3,(h.cell (p:=⟨b,_,none⟩) hlb).trans d4,(h.cell (p:=⟨b,_,none⟩) hlb).trans d5,(h.cell (p:=⟨b,_,none⟩) hlb).trans d6,trivial⟩,(h.cell (p:=⟨b,_,none⟩) iJ).trans t0,rA (hp0.below h),rA (HU0.out.below h)⟩
   have F7:Op.bytesLess (strOfNums m'.name).toList (strOfNums m.name).toList=bV m'.name m.name:=by simp only [bV,acN]
   have BR:=jK F7
   have HDR:=jK DR
   have Dk:=jK (dH _ (gM.out _ DR))
   have hjl:(j:Int) < (x.boxes.length:Int):=by omega
   have hj0:(0:Int)≤(j:Int):=by omega
   clear hm' t0 hp0 F7 DR dH
   go_upto_region 6 with fail
   clear d0 d1 d2 d3 d4 d5 d6 e0 e1 e2 hlA
   go_cut [63] (fun s wx=>∃ C:Bool,s=.bool C∧Hid ((!C)=(X1 && mV x.boxes m k))∧Hid (Below wr.heap.size wr wx))
   case first =>
    have F7:=BR.out
    generalize bV m'.name m.name=L at F7 uR
    rcases (show (decide (0 < k)=true∧IntKind.i64.wrap ((k:Int) - 1)=(j:Int))∨decide (0 < k)=false by
     by_cases h:0 < k
     ·exact .inl ⟨by simpa using h,by rw [IntWalk.i64_in _ (by omega)];omega⟩
     ·exact .inr (by simpa using h)) with ⟨hd,hw1⟩ | hd
    all_goals
     clear hj
     refine GU (S:=fun w'=>lS w' w.heap.size 0 [.int .i64 x.valid,.slice (some ⟨b,off,none⟩) x.boxes.length c0,.slice a1 x.seen.length c1]∧lS w' b (off+k * 7) [.slice ua un uc,.int .i64 m.valid,.int .i64 m.next,.int .i64 m.seq,.slice va m.ah.length vc,.slice wa m.au.length wc,.int .i64 m.lost]∧w'.cell? ⟨b,off+j * 7,none⟩=some (.slice pa pn pc)∧(convert 22 9 (.slice pa pn pc)).run Tryz.prog w'=.ok (.string (strOfNums m'.name)) w'∧(convert 22 9 (.slice ua un uc)).run Tryz.prog w'=.ok (.string (strOfNums m.name)) w') (GR (by kernel_rfl) acM) (by kernel_rfl) (HS.out _ HDR.out) (fun aj ahz=>?_)
     repeat (first | refine yu aj ahz ?_)
     refine FH (R:=fun v w'=>v=.bool X1∧Below wr.heap.size wr w') aj (by decide) (fun K' hK=>?_) (fun v w' h=>HS.out _ h.2) ?_
     ·go_simp
      refine Dk.out.mono ?_
      rintro e w2 ⟨rfl,B⟩
      exact hK.out _ _ ⟨rfl,Below.step HDR.out B⟩
     rintro v w1 ⟨rfl,B⟩ ahz
     have HB2:=jK B
     clear B
     repeat (first | refine zM aj ahz (fun C hC=>?_) | refine yu aj ahz ?_ | refine zL aj ahz ?_ | refine KS aj ahz ?_ | refine KT aj ahz ?_)
     refine GV aj ?_
     clear ahz
     go_wp2
     go_meet
     case rel=>exact ⟨C,rfl,by have hA:=uR.out;simp only [Hid] at hC ⊢;rw [hC,hA];simp [hd],HB2⟩
   case rest =>
    obtain ⟨C,rfl,HC,HW⟩:=hcut
    rename World=>w1
    have HB1:Hid (Below w.heap.size w w1):=Below.step hB.out HW.out
    cases C
    ·have hX:X1=true∧mV x.boxes m k=true:=by simpa using HC.out.symm
     rw [hX.1,hX.2] at HE
     have gW:Hid (w1.heap[w.heap.size]?=some (.cells #[.int .i64 x.valid,.slice (some ⟨b,off,none⟩) x.boxes.length c0,.slice a1 x.seen.length c1] 26)):=aB HW.out hK.out
     have HD1:Hid (∀ w',Below w1.heap.size w1 w'→∀ p y,x.boxes[p]?=some y→w'.cell? ⟨b,off+p * 7+1,none⟩=some (.int .i64 y.valid)):=by
      intro w' h p y hy
      obtain ⟨b3,ag4,ag5,z0,z1,z2,hv3,-,-,t1,-⟩:=gJ.cell (H0.out w' (Below.step HB1.out h)).1 p y hy
      simp only [Value.slice.injEq,true_and,Option.some.injEq,Addr.mk.injEq,and_true] at hv3
      obtain ⟨⟨rfl,rfl⟩,rfl⟩:=hv3
      exact t1
     clear hK hB HC HW hX uR HS BR HDR Dk gM
     go_wp2
     go_loopw [4] (fun i wr=>∃ q:Nat,q≤k∧i=.int .i64 q∧Hid (∀ p y,p < q→x.boxes[p]?=some y→y.valid≠m.valid)∧Hid (Below w1.heap.size w1 wr)) (fun i _=>k - (intOf i).toNat)
     case atStart=>exact ⟨0,Nat.zero_le _,rfl,(fun p y hp=>absurd hp (Nat.not_lt_zero _)),Below.refl _ _⟩
     case round =>
      rename_i wr0 _
      obtain ⟨q,hq,rfl,hV,hB2⟩:=hrel
      have hK2:=aB hB2.out gW.out
      obtain ⟨e0,e1,e2⟩:=bM hK2
      have hlA:=lt_of_heap hK2
      clear hK2
      by_cases F8:q < k
      ·obtain ⟨y,hy⟩:∃ y,x.boxes[q]?=some y:=⟨x.boxes[q]'(by omega),aL (by omega)⟩
       have r0:=HD1.out _ hB2.out q y hy
       have r1:=HD1.out _ hB2.out k m HM.out
       have HY:Hid (x.boxes[q]?=some y):=hy
       clear hy
       have hqL:(q:Int) < (x.boxes.length:Int):=by omega
       have LJ:(k:Int) < (x.boxes.length:Int):=by omega
       by_cases he:y.valid=m.valid
       ·have he':(y.valid == m.valid)=true:=by simpa using he
        have wJ:Hid (y.valid=m.valid):=he
        clear he
        go_wp2
        go_quiet (fail)
        go_wp2
        go_ret
        exact ⟨aP (CJ.out (iH k hlt (HE.out.trans (by rw [List.any_eq_true.2 ⟨y,List.mem_of_getElem? (l:=x.boxes.take k) (by rw [List.getElem?_take,if_pos F8];exact HY.out),by simpa using wJ.out⟩];simp)))),below_drewN _ (Below.step HB1.out hB2.out)⟩
       ·have he':(y.valid == m.valid)=false:=by simpa using he
        have wJ:Hid (y.valid≠m.valid):=he
        clear he
        go_wp2
        go_quiet (fail)
        go_wp2
        go_roundw
        case rel =>
         refine ⟨q+1,by omega,by go_num,(show Hid _ from fun p z hp hz=>?_),below_drewN _ hB2.out⟩
         by_cases e:p=q
         ·subst e;rw [HY.out] at hz;cases hz;exact wJ.out
         ·exact hV.out p z (by omega) hz
        case measure=>simp [intOf];omega
      ·obtain rfl:q=k:=by omega
       go_wp2
       go_roundw
       case rel =>
        refine ⟨q+1,by omega,by go_num,(show Hid _ from fun i hi=>?_),aB hB2.out gW.out,Below.step HB1.out hB2.out⟩
        by_cases e:i=q
        ·subst e
         refine HE.out.trans ?_
         have z:((x.boxes.take i).any fun o=>decide (o.valid=m.valid))=false:=by
          rw [List.any_eq_false]
          intro o ho
          obtain ⟨p,hp,rfl⟩:=List.getElem_of_mem ho
          have hp':p < i:=by simp at hp;omega
          have:=hV.out p (x.boxes[p]'(by omega)) hp' (aL (by omega))
          simpa using this
         rw [z]
         simp
        ·exact hA.out i (by omega)
       case measure=>simp [intOf];omega
    ·have hX:(X1 && mV x.boxes m k)=false:=HC.out.symm
     go_wp2
     go_ret
     exact ⟨aP (CJ.out (iH k hlt (HE.out.trans (by rw [← Bool.and_assoc,hX];rfl)))),HB1.out⟩
  ·obtain rfl:k=x.boxes.length:=by omega
   have uS:Hid (∀ j,j < x.boxes.length→nV x j=true):=hA.out
   clear hlt hA
   go_wp2
   clear e0 e1 e2
   go_loopw [5] (fun i wr=>∃ k:Nat,k≤x.seen.length∧i=.int .i64 k∧Hid (∀ j,j < k→seenAt x.seen j=true)∧Hid (wr.heap[w.heap.size]?=some (.cells #[.int .i64 x.valid,.slice a0 x.boxes.length c0,.slice a1 x.seen.length c1] 26))∧Hid (Below w.heap.size w wr)) (fun i _=>x.seen.length - (intOf i).toNat)
   case atStart=>exact ⟨0,Nat.zero_le _,rfl,(fun j hj=>absurd hj (Nat.not_lt_zero _)),hK,hB⟩
   case round =>
    clear hK hB
    obtain ⟨k,hk,rfl,hA,hK,hB⟩:=hrel
    obtain ⟨e0,e1,e2⟩:=bM hK.out
    have hlA:=lt_of_heap hK.out
    by_cases hlt:k < x.seen.length
    ·obtain ⟨n,hn⟩:∃ n,x.seen[k]?=some n:=⟨x.seen[k],aL hlt⟩
     obtain ⟨b,off,cap',hv',hlb,d0,i0⟩:=oZ.cell (H0.out wr hB.out).2 k n hn
     simp only [Value.slice.injEq,true_and] at hv'
     obtain ⟨rfl,rfl⟩:=hv'
     have hp:=M8 hk hA.out
     have HE:Hid (seenAt x.seen k=aM n (mR x.seen k+1) 1000000):=by show seenAt x.seen k=_;unfold seenAt;rw [show x.seen.getD k 0=n by simp [List.getD,hn]]
     generalize hQ:mR x.seen k=q at hp HE
     have HQ:Hid (mR x.seen k=q):=hQ
     clear hQ hn
     have LJ:(k:Int) < (x.seen.length:Int):=by omega
     by_cases h1:n < 1
     ·have acQ:decide (n < 1)=true:=decide_eq_true h1
      go_wp2
      go_quiet (fail)
      go_wp2
      go_ret
      exact ⟨aP (LX.out (iH k hlt (HE.out.trans (LW hp.1 (.inl h1))))),below_drewN _ hB.out⟩
     have acQ:decide (n < 1)=false:=decide_eq_false h1
     by_cases h2:1000000 < n
     ·have acR:decide (1000000 < n)=true:=decide_eq_true h2
      go_wp2
      go_quiet (fail)
      go_wp2
      go_ret
      exact ⟨aP (LX.out (iH k hlt (HE.out.trans (LW hp.1 (.inr (.inl h2)))))),below_drewN _ hB.out⟩
     have acR:decide (1000000 < n)=false:=decide_eq_false h2
     by_cases hkz:(0:Int) < (k:Int)
     ·obtain ⟨j,hj⟩:∃ j,k=j+1:=⟨k - 1,by omega⟩
      have hjl:(j:Int) < (x.seen.length:Int):=by omega
      have hj0:(0:Int)≤(j:Int):=by omega
      have hw1:IntKind.i64.wrap ((k:Int) - 1)=(j:Int):=by rw [IntWalk.i64_in _ (by omega)];omega
      have hkN:0 < k:=by omega
      have hd:decide (0 < k)=true:=by simpa using hkN
      have HJ:Hid (k=j+1):=hj
      clear hj
      obtain ⟨n',hn'⟩:∃ n',x.seen[j]?=some n':=⟨x.seen[j]'(by have:=HJ.out;omega),aL (by have:=HJ.out;omega)⟩
      obtain ⟨b2,off2,cap2,hv2,iJ,t0,-⟩:=oZ.cell (H0.out wr hB.out).2 j n' hn'
      simp only [Value.slice.injEq,true_and,Option.some.injEq,Addr.mk.injEq,and_true] at hv2
      obtain ⟨⟨rfl,rfl⟩,rfl⟩:=hv2
      have F9:Hid (n'=q):=by rw [← HQ.out,HJ.out];simp [Hid,mR,List.getD,hn']
      clear hn'
      by_cases h3:n≤n'
      ·have acS:decide (n≤n')=true:=decide_eq_true h3
       go_wp2
       go_quiet (fail)
       go_wp2
       go_ret
       exact ⟨aP (LX.out (iH k hlt (HE.out.trans (LW hp.1 (.inr (.inr (by have:=F9.out;omega))))))),below_drewN _ hB.out⟩
      have acS:decide (n≤n')=false:=decide_eq_false h3
      go_wp2
      go_quiet (fail)
      go_wp2
      go_roundw
      case rel =>
       refine ⟨k+1,by omega,by go_num,(show Hid _ from fun i hi=>?_),hK.out,below_drewN _ hB.out⟩
       by_cases e:i=k
       ·subst e;exact HE.out.trans (Tf (by have:=F9.out;omega) (by omega))
       ·exact hA.out i (by omega)
      case measure=>simp [intOf];omega
     ·have hkN:¬ 0 < k:=by omega
      have hd:decide (0 < k)=false:=by simpa using hkN
      have F9:Hid (q=0):=by
       rw [← HQ.out]
       have:k=0:=by omega
       rw [this];rfl
      go_wp2
      go_quiet (fail)
      go_wp2
      go_roundw
      case rel =>
       refine ⟨k+1,by omega,by go_num,(show Hid _ from fun i hi=>?_),hK.out,below_drewN _ hB.out⟩
       by_cases e:i=k
       ·subst e;exact HE.out.trans (Tf (by have:=F9.out;omega) (by omega))
       ·exact hA.out i (by omega)
      case measure=>simp [intOf];omega
    ·obtain rfl:k=x.seen.length:=by omega
     go_wp2
     go_ret
     refine ⟨aP ?_,hB.out⟩
     have z1:=tO uS.out
     have z2:=tO hA.out
     simp [fA,nU,aM,z1,z2,q0,q1]
     omega
end Go.Proofs.YtmglhdkeidhafaaGreat
