/- The proof's texts, part 38. -/
import Derived.Test.YtmglhdkeidhafaaGreatTt
namespace Go.Proofs.YtmglhdkeidhafaaGreat
open Go.RowKit
set_option linter.unusedVariables false
set_option linter.unusedSimpArgs false
set_option maxHeartbeats 40000000
set_option maxRecDepth 100000
/- What ag3 of package spec does of every box. -/
theorem acC:(Tryz.f17.body.bind (bR 7)).all (fun o=>table o 54 [51])=true:=by kernel_rfl
theorem acD:(Tryz.f17.body.bind (bR 13)).all (fun o=>table o 61 [14,59])=true:=by kernel_rfl
theorem acE {x:aA} {mv:Int} (h:(List.range x.ah.length).all (lG x)=false):gB x mv=false:=by simp [gB,mU,h]
theorem acF {x:aA} {mv:Int} (h:(List.range x.au.length).all (jO x)=false):gB x mv=false:=by simp [gB,l7,h]
theorem acG {k:Nat} {q pu uid next flags seq bs:Int} {T:Bool} (hq:0≤q) (h0:¬ 0 < k→q=0) (h1:0 < k→pu=q) :
  (aM uid (q+1) (next - 1) && (aM flags 0 31 && (aM seq 1 bs && T))) = !(((((((decide (uid < 1) || decide (next≤uid)) || (decide (0 < k) && decide (uid≤pu))) || decide (flags < 0)) || decide (31 < flags)) || decide (seq < 1)) || decide (bs < seq)) || !T):=by
 rw [Bool.eq_iff_iff]
 by_cases hk:0 < k
 ·have:=h1 hk
  cases T <;> simp [aM,hk] <;> omega
 ·have:=h0 hk
  cases T <;> simp [aM,hk] <;> omega
theorem acH {k:Nat} {ms uid next seq ps bs lost:Int} {M G:Bool} (h1:1≤ms) (h2:lost≤ms) (h0:¬ 0 < k→ms≤1∨ms≤lost) (h3:0 < k→ps=ms) :
  (aM uid 1 (next - 1) && (aM seq ms bs && (!M && !G))) = !(((((((decide (uid < 1) || decide (next≤uid)) || M) || decide (seq < 1)) || decide (bs < seq)) || (decide (0 < k) && decide (seq < ps))) || decide (seq < lost)) || G):=by
 rw [Bool.eq_iff_iff]
 by_cases hk:0 < k
 ·have:=h3 hk
  cases M <;> cases G <;> simp [aM,hk] <;> omega
 ·have:=h0 hk
  cases M <;> cases G <;> simp [aM,hk] <;> omega
theorem acI (v:Value) (x:aA) (mv:Int) (w:World) (hv:bI w v x) (hX1:bG x.name=true) (q0:1≤x.valid) (q1:x.valid≤mv) (q2:1≤x.next) (q3:x.next≤1000000) (q4:0≤x.seq) (q5:x.seq≤1000000) (q6:(x.ah.length:Int)≤12) (q7:(x.au.length:Int)≤40) (q8:0≤x.lost) (q9:x.lost≤x.seq) :
  Calls Tryz.prog 17 #[v,.int .i64 mv] w fun e w'=>e=.returned (.bool (gB x mv))∧Below w.heap.size w w':=by
 have HV:Hid (∀ wi,Below w.heap.size w wi→bI wi v x):=fun wi h=>hv.below h
 have HN1:Hid (bG x.name=true):=hX1
 obtain ⟨u0,u1,u2,rfl,g0,g1,g2,i0,i1,i2,i3⟩:=hv
 have H0:Hid (∀ wi,Below w.heap.size w wi→Bs wi u0 x.name∧eT wi u1 x.ah∧dD wi u2 x.au):=fun wi h=>⟨g0.below h,g1.below iG h,g2.below gU h⟩
 obtain ⟨a0,n0,c0,rfl⟩:=g0.aG
 obtain ⟨a1,c1,rfl,m0,m1⟩:=g1.form
 obtain ⟨a2,c2,rfl,m2,m3⟩:=g2.form
 clear g0 g1 g2
 have HX:Hid (∀ o,Below w.heap.size w (w.alloc o)):=fun o=>bn _ o
 have HK:=jK (aW w (.cells #[.slice a0 n0 c0,.int .i64 x.valid,.int .i64 x.next,.int .i64 x.seq,.slice a1 x.ah.length c1,.slice a2 x.au.length c2,.int .i64 x.lost] 34))
 have hn:=fun o=>qI _ x.name _ (H0.out _ (HX.out o)).1
 rw [hX1] at hn
 have z0:decide (x.valid < 1)=false:=by simpa using q0
 have z1:decide (mv < x.valid)=false:=by simpa using q1
 have z2:decide (x.next < 1)=false:=by simpa using q2
 have z3:decide (1000000 < x.next)=false:=by simpa using q3
 have z4:decide (x.seq < 0)=false:=by simpa using q4
 have z5:decide (1000000 < x.seq)=false:=by simpa using q5
 have z6:decide (12 < (x.ah.length:Int))=false:=by simpa using q6
 have z7:decide (40 < (x.au.length:Int))=false:=by simpa using q7
 have z8:decide (x.lost < 0)=false:=by simpa using q8
 have z9:decide (x.seq < x.lost)=false:=by simpa using q9
 go_enter Tryz.func17,Tryz.ntmps17
 go_wp2_with fail
 refine (hn _).mono ?_
 rintro e w' ⟨rfl,rfl⟩
 clear hn hX1
 go_wp2
 clear z0 z1 z2 z3 z4 z5 z6 z7 z8 z9
 go_loopw [5,6] (fun i _ wr=>∃ k:Nat,k≤x.ah.length∧i=.int .i64 k∧Hid (∀ j,j < k→lG x j=true)∧Hid (wr.heap[w.heap.size]?=some (.cells #[.slice a0 n0 c0,.int .i64 x.valid,.int .i64 x.next,.int .i64 x.seq,.slice a1 x.ah.length c1,.slice a2 x.au.length c2,.int .i64 x.lost] 34))∧Hid (Below w.heap.size w wr)) (fun i _ _=>x.ah.length - (intOf i).toNat)
 case atStart=>exact ⟨0,Nat.zero_le _,rfl,(fun j hj=>absurd hj (Nat.not_lt_zero _)),HK,HX.out _⟩
 case round =>
  obtain ⟨k,hk,rfl,hA,hK,hB⟩:=hrel
  by_cases hlt:k < x.ah.length
  ·obtain ⟨m,hm⟩:∃ m,x.ah[k]?=some m:=⟨x.ah[k],aL hlt⟩
   obtain ⟨b,off,cap',u,hv',hlb,d0,d1,d2,d3,hu,j0,j1,j2⟩:=eT.cell (H0.out wr hB.out).2.1 k m hm
   simp only [Value.slice.injEq,true_and] at hv'
   obtain ⟨rfl,rfl⟩:=hv'
   obtain ⟨ua,un,uc,rfl⟩:=hu.aG
   obtain ⟨j,hj⟩:∃ j,j=k - 1:=⟨_,rfl⟩
   obtain ⟨m',hm'⟩:∃ m',x.ah[j]?=some m':=⟨x.ah[j]'(by omega),aL (by omega)⟩
   obtain ⟨b2,off2,cap2,u2,hv2,iJ,t0,-⟩:=eT.cell (H0.out wr hB.out).2.1 j m' hm'
   simp only [Value.slice.injEq,true_and,Option.some.injEq,Addr.mk.injEq,and_true] at hv2
   obtain ⟨⟨rfl,rfl⟩,rfl⟩:=hv2
   have HE:Hid (lG x k = !(((((((decide (m.uid < 1) || decide (x.next≤m.uid)) || (decide (0 < k) && decide (m.uid≤m'.uid))) || decide (m.flags < 0)) || decide (31 < m.flags)) || decide (m.seq < 1)) || decide (x.seq < m.seq)) || !dU m.text)):=by
    unfold Hid lG
    simp only [hm]
    refine acG (M9 q3 hk hA.out).1 (fun h=>?_) (fun h=>?_)
    ·rw [show k=0 by omega];rfl
    ·rw [show k=j+1 by omega];simp [jW,hm']
   generalize m'.uid=pu at t0 HE
   clear hm'
   obtain ⟨uid,flags,seq,text⟩:=m
   simp only at d0 d1 d2 d3 hu j0 j1 j2 HE
   have hB1:=(hB.out).alloc hB.out.size (.cells #[.int .i64 uid,.int .i64 flags,.int .i64 seq,.slice ua un uc] 72)
   have hA1:=(Below.refl wr.heap.size wr).alloc (Nat.le_refl _) (.cells #[.int .i64 uid,.int .i64 flags,.int .i64 seq,.slice ua un uc] 72)
   have rX:=jK (aW wr (.cells #[.int .i64 uid,.int .i64 flags,.int .i64 seq,.slice ua un uc] 72))
   have iy:=jK (aB hA1 hK.out)
   have zW:=jK ((hA1.cell iJ).trans t0)
   have HB1:=jK hB1
   have HU:=jK (hu.below hA1)
   obtain ⟨e0,e1,e2,e3,e4,e5,e6⟩:=bU hK.out
   have hlA:=lt_of_heap hK.out
   clear hu hA1 hB1 t0
   go_upto_region 7 with fail
   clear e0 e1 e2 e3 e4 e5 e6 hlA d0 d1 d2 d3
   generalize wr.alloc (.cells #[.int .i64 uid,.int .i64 flags,.int .i64 seq,.slice ua un uc] 72)=W at rX iy zW HB1 HU ⊢
   have DR:Below W.heap.size W W.drew:=(bd _ _)
   have HT:=jK (pJ (.slice ua un uc) text W.drew (Bs.below HU.out DR))
   generalize dU text=XT at HE HT
   have hjl:(j:Int) < (x.ah.length:Int):=by omega
   have hj0:(0:Int)≤(j:Int):=by omega
   rcases (show (decide (0 < k)=true∧IntKind.i64.wrap ((k:Int) - 1)=(j:Int))∨decide (0 < k)=false by
    by_cases h:0 < k
    ·exact .inl ⟨by simpa using h,by rw [IntWalk.i64_in _ (by omega)];omega⟩
    ·exact .inr (by simpa using h)) with ⟨hd,hw1⟩ | hd
   all_goals
    simp only [hd,Bool.true_and,Bool.false_and] at HE
    clear hj
    refine GU (S:=fun w'=>lS w' wr.heap.size 0 [.int .i64 uid,.int .i64 flags,.int .i64 seq,.slice ua un uc]∧lS w' w.heap.size 0 [.slice a0 n0 c0,.int .i64 x.valid,.int .i64 x.next,.int .i64 x.seq,.slice (some ⟨b,off,none⟩) x.ah.length c1,.slice a2 x.au.length c2,.int .i64 x.lost]∧w'.cell? ⟨b,off+j * 4,none⟩=some (.int .i64 pu)) (GR (by kernel_rfl) acC) (by kernel_rfl) ⟨CO (aB DR rX.out),CO (aB DR iy.out),zW.out⟩ (fun aj ahz=>?_)
    repeat (first | refine zM aj ahz (fun C hC=>?_) | refine yu aj ahz ?_ | refine zL aj ahz ?_ | refine KS aj ahz ?_ | refine KT aj ahz ?_)
    refine FH (R:=fun v w'=>v=cond C undef (.bool XT)∧w'=W.drew) aj (by decide) (fun K' hK=>?_) (fun v w' h=>h.2 ▸ ahz) ?_
    ·cases C
     ·go_simp
      refine HT.out.mono ?_
      rintro e w2 ⟨rfl,rfl⟩
      exact hK.out _ _ ⟨rfl,rfl⟩
     ·go_simp
      exact hK.out _ _ ⟨rfl,rfl⟩
    rintro v w2 ⟨rfl,rfl⟩ ahz
    repeat (first | refine zM aj ahz (fun C hC=>?_) | refine yu aj ahz ?_ | refine zL aj ahz ?_)
    refine GV aj ?_
    have Di:Hid (lG x k = !C):=by
     have h:=HE.out
     simp only [Hid] at *
     subst_vars
     exact h
    have HB2:=jK (Below.step HB1.out DR)
    have dB:=jK (aB DR iy.out)
    clear hC HT HE rX iy zW HU HB1 ahz DR
    cases C
    ·go_wp2
     go_roundw
     case rel =>
      refine ⟨k+1,by omega,by go_num,(show Hid _ from fun i hi=>?_),dB,HB2⟩
      by_cases e:i=k
      ·subst e;exact Di.out
      ·exact hA.out i (by omega)
     case measure=>simp [intOf];omega
    ·go_wp2
     go_ret
     exact ⟨aP (acE (iH k hlt Di.out)),HB2.out⟩
  ·obtain rfl:k=x.ah.length:=by omega
   obtain ⟨e0,e1,e2,e3,e4,e5,e6⟩:=bU hK.out
   go_wp2
   clear hlt e0 e1 e2 e3 e4 e5 e6
   have vH:Hid (∀ j,j < x.ah.length→lG x j=true):=hA.out
   clear hA
   go_loopw [7,8] (fun i _ wr=>∃ k:Nat,k≤x.au.length∧i=.int .i64 k∧Hid (∀ j,j < k→jO x j=true)∧Hid (wr.heap[w.heap.size]?=some (.cells #[.slice a0 n0 c0,.int .i64 x.valid,.int .i64 x.next,.int .i64 x.seq,.slice a1 x.ah.length c1,.slice a2 x.au.length c2,.int .i64 x.lost] 34))∧Hid (Below w.heap.size w wr)) (fun i _ _=>x.au.length - (intOf i).toNat)
   case atStart=>exact ⟨0,Nat.zero_le _,rfl,(fun j hj=>absurd hj (Nat.not_lt_zero _)),hK,hB⟩
   case round =>
    clear hK hB
    obtain ⟨k,hk,rfl,hA,hK,hB⟩:=hrel
    by_cases hlt:k < x.au.length
    ·obtain ⟨m,hm⟩:∃ m,x.au[k]?=some m:=⟨x.au[k],aL hlt⟩
     obtain ⟨b,off,cap',hv',hlb,d0,d1,j0,j1⟩:=dD.cell (H0.out wr hB.out).2.2 k m hm
     simp only [Value.slice.injEq,true_and] at hv'
     obtain ⟨rfl,rfl⟩:=hv'
     obtain ⟨j,hj⟩:∃ j,j=k - 1:=⟨_,rfl⟩
     obtain ⟨m',hm'⟩:∃ m',x.au[j]?=some m':=⟨x.au[j]'(by omega),aL (by omega)⟩
     obtain ⟨b2,off2,cap2,hv2,iJ,-,t0,-⟩:=dD.cell (H0.out wr hB.out).2.2 j m' hm'
     simp only [Value.slice.injEq,true_and,Option.some.injEq,Addr.mk.injEq,and_true] at hv2
     obtain ⟨⟨rfl,rfl⟩,rfl⟩:=hv2
     have HE:Hid (jO x k = !(((((((decide (m.uid < 1) || decide (x.next≤m.uid)) || decide (0≤bC (fun o=>decide (o.uid=m.uid)) x.ah)) || decide (m.seq < 1)) || decide (x.seq < m.seq)) || (decide (0 < k) && decide (m.seq < m'.seq))) || decide (m.seq < x.lost)) || ((x.au.take k).any fun o=>decide (o.uid=m.uid)))):=by
      have h:=Hf hk hA.out
      unfold Hid jO
      simp only [hm]
      rw [yO]
      refine acH h.1 h.2 (fun h=>?_) (fun h=>?_)
      ·rw [show k=0 by omega];simp only [minS];omega
      ·rw [show k=j+1 by omega];simp [minS,hm']
     generalize m'.seq=ps at t0 HE
     clear hm'
     obtain ⟨uid,seq⟩:=m
     simp only at d0 d1 j0 j1 HE
     have hkc:k≤c2:=by omega
     have hB1:=(hB.out).alloc hB.out.size (.cells #[.int .i64 uid,.int .i64 seq] 70)
     have hA1:=(Below.refl wr.heap.size wr).alloc (Nat.le_refl _) (.cells #[.int .i64 uid,.int .i64 seq] 70)
     have rX:=jK (aW wr (.cells #[.int .i64 uid,.int .i64 seq] 70))
     have iy:=jK (aB hA1 hK.out)
     have HA1:=jK hA1
     have HB1:=jK hB1
     have zW:Hid (wr.cell? ⟨b,off+j * 2+1,none⟩=some (.int .i64 ps)):=t0
     have Dj:Hid (∀ wi,Below wr.heap.size wr wi→Calls Tryz.prog 51 #[.agg #[.slice a0 n0 c0,.int .i64 x.valid,.int .i64 x.next,.int .i64 x.seq,.slice a1 x.ah.length c1,.slice (some ⟨b,off,none⟩) x.au.length c2,.int .i64 x.lost],.int .i64 uid] wi fun e w'=>e=.returned (.int .i64 (bC (fun m=>decide (m.uid=uid)) x.ah))∧Below wi.heap.size wi w'):=fun wi h=>rH _ x uid wi (HV.out _ (Below.step hB.out h))
     have LU:Hid (∀ wi,Below wr.heap.size wr wi→Calls Tryz.prog 52 #[.slice (some ⟨b,off,none⟩) k c2,.int .i64 uid] wi fun e w'=>e=.returned (.bool ((x.au.take k).any fun o=>decide (o.uid=uid)))∧w'=wi):=fun wi h=>Vo _ (x.au.take k) uid wi (((H0.out _ (Below.step hB.out h)).2.2).EB k hk)
     generalize bC (fun m=>decide (m.uid=uid)) x.ah=fi at Dj HE
     generalize ((x.au.take k).any fun o=>decide (o.uid=uid))=XG at HE LU
     obtain ⟨e0,e1,e2,e3,e4,e5,e6⟩:=bU hK.out
     have hlA:=lt_of_heap hK.out
     clear hA1 hB1 t0
     go_upto_region 13 with fail
     clear e0 e1 e2 e3 e4 e5 e6 hlA d0 d1
     generalize wr.alloc (.cells #[.int .i64 uid,.int .i64 seq] 70)=W at rX iy HA1 HB1 ⊢
     have LV:Hid (∀ w',Below W.heap.size W w'→lS w' wr.heap.size 0 [.int .i64 uid,.int .i64 seq]∧lS w' w.heap.size 0 [.slice a0 n0 c0,.int .i64 x.valid,.int .i64 x.next,.int .i64 x.seq,.slice a1 x.ah.length c1,.slice (some ⟨b,off,none⟩) x.au.length c2,.int .i64 x.lost]∧w'.cell? ⟨b,off+j * 2+1,none⟩=some (.int .i64 ps)):=fun w' h=>⟨CO (aB h rX.out),CO (aB h iy.out),((Below.step HA1.out h).cell iJ).trans zW.out⟩
     have HDR:Hid (Below W.heap.size W W.drew):=(bd _ _)
     have hjl:(j:Int) < (x.au.length:Int):=by omega
     have hj0:(0:Int)≤(j:Int):=by omega
     rcases (show (decide (0 < k)=true∧IntKind.i64.wrap ((k:Int) - 1)=(j:Int))∨decide (0 < k)=false by
      by_cases h:0 < k
      ·exact .inl ⟨by simpa using h,by rw [IntWalk.i64_in _ (by omega)];omega⟩
      ·exact .inr (by simpa using h)) with ⟨hd,hw1⟩ | hd
     all_goals
      simp only [hd,Bool.true_and,Bool.false_and] at HE
      clear hj
      refine GU (S:=fun w'=>lS w' wr.heap.size 0 [.int .i64 uid,.int .i64 seq]∧lS w' w.heap.size 0 [.slice a0 n0 c0,.int .i64 x.valid,.int .i64 x.next,.int .i64 x.seq,.slice a1 x.ah.length c1,.slice (some ⟨b,off,none⟩) x.au.length c2,.int .i64 x.lost]∧w'.cell? ⟨b,off+j * 2+1,none⟩=some (.int .i64 ps)) (GR (by kernel_rfl) acD) (by kernel_rfl) (LV.out _ HDR.out) (fun aj ahz=>?_)
      repeat (first | refine zM aj ahz (fun C hC=>?_) | refine yu aj ahz ?_ | refine zL aj ahz ?_)
      refine FH (R:=fun v w'=>v=cond C undef (.int .i64 fi)∧Below W.heap.size W w') aj (by decide) (fun K' hK=>?_) (fun v w' h=>LV.out _ h.2) ?_
      ·cases C
       ·go_simp
        refine (Dj.out _ (Below.step HA1.out HDR.out)).mono ?_
        rintro e w2 ⟨rfl,B⟩
        exact hK.out _ _ ⟨rfl,Below.step HDR.out B⟩
       ·go_simp
        exact hK.out _ _ ⟨rfl,HDR.out⟩
      rintro v w2 ⟨rfl,B⟩ ahz
      have HB2:=jK B
      clear B
      repeat (first | refine zM aj ahz (fun C hC=>?_) | refine yu aj ahz ?_ | refine zL aj ahz ?_ | refine KS aj ahz ?_ | refine KT aj ahz ?_)
      refine FH (R:=fun v w'=>v=cond C undef (.bool XG)∧w'=w2) aj (by decide) (fun K' hK=>?_) (fun v w' h=>h.2 ▸ ahz) ?_
      ·cases C
       ·go_simp
        refine (LU.out _ (Below.step HA1.out HB2.out)).mono ?_
        rintro e w2 ⟨rfl,rfl⟩
        exact hK.out _ _ ⟨rfl,rfl⟩
       ·go_simp
        exact hK.out _ _ ⟨rfl,rfl⟩
      rintro v w3 ⟨rfl,rfl⟩ ahz
      repeat (first | refine zM aj ahz (fun C hC=>?_) | refine yu aj ahz ?_ | refine zL aj ahz ?_)
      refine GV aj ?_
      have Di:Hid (jO x k = !C):=by
       have h:=HE.out
       simp only [Hid] at *
       subst_vars
       exact h
      have HB3:=jK (Below.step HB1.out HB2.out)
      have dB:=jK (aB HB2.out iy.out)
      clear hC HE rX iy zW HB1 ahz HDR LV Dj LU HA1 HB2
      cases C
      ·go_wp2
       go_roundw
       case rel =>
        refine ⟨k+1,by omega,by go_num,(show Hid _ from fun i hi=>?_),dB,HB3⟩
        by_cases e:i=k
        ·subst e;exact Di.out
        ·exact hA.out i (by omega)
       case measure=>simp [intOf];omega
      ·go_wp2
       go_ret
       exact ⟨aP (acF (iH k hlt Di.out)),HB3.out⟩
    ·obtain rfl:k=x.au.length:=by omega
     obtain ⟨e0,e1,e2,e3,e4,e5,e6⟩:=bU hK.out
     go_wp2
     go_ret
     refine ⟨aP ?_,hB.out⟩
     have z1:=tO vH.out
     have z2:=tO hA.out
     simp [gB,mU,l7,aM,z1,z2,HN1.out,q0,q1,q2,q3,q4,q5,q8,q9]
     omega
theorem acK {x:aA} {mv:Int} (h:¬ (1≤x.valid∧x.valid≤mv∧1≤x.next∧x.next≤1000000∧0≤x.seq∧x.seq≤1000000∧(x.ah.length:Int)≤12∧(x.au.length:Int)≤40∧0≤x.lost∧x.lost≤x.seq)):gB x mv=false:=by
 rw [Bool.eq_false_iff]
 intro e
 simp only [gB,mU,l7,aM,Bool.and_eq_true,decide_eq_true_eq] at e
 obtain ⟨-,⟨e1,e2⟩,⟨e3,e4⟩,⟨e5,e6⟩,⟨e7,e8⟩,⟨e9,-⟩,e10,-⟩:=e
 exact h ⟨e1,e2,e3,e4,e5,e6,by omega,by omega,e7,e8⟩
theorem acL (v:Value) (x:aA) (mv:Int) (w:World) (hv:bI w v x) :
  Calls Tryz.prog 17 #[v,.int .i64 mv] w fun e w'=>e=.returned (.bool (gB x mv))∧Below w.heap.size w w':=by
 cases hX:bG x.name with
 | true =>
  by_cases hC:1≤x.valid∧x.valid≤mv∧1≤x.next∧x.next≤1000000∧0≤x.seq∧x.seq≤1000000∧(x.ah.length:Int)≤12∧(x.au.length:Int)≤40∧0≤x.lost∧x.lost≤x.seq
  ·obtain ⟨q0,q1,q2,q3,q4,q5,q6,q7,q8,q9⟩:=hC
   exact acI v x mv w hv hX q0 q1 q2 q3 q4 q5 q6 q7 q8 q9
  ·obtain ⟨u0,u1,u2,rfl,g0,g1,g2,-⟩:=hv
   have HX:Hid (∀ o,Below w.heap.size w (w.alloc o)):=fun o=>bn _ o
   have hn:∀ o,Calls Tryz.prog 18 #[u0] (w.alloc o) fun e w'=>e=.returned (.bool true)∧w'=w.alloc o:=fun o=>by
    have h:=qI _ x.name _ (g0.below (HX.out o))
    rwa [hX] at h
   obtain ⟨a0,n0,c0,rfl⟩:=g0.aG
   obtain ⟨a1,c1,rfl,m0,m1⟩:=g1.form
   obtain ⟨a2,c2,rfl,m2,m3⟩:=g2.form
   clear g0 g1 g2 hX
   have HC:Hid (¬ (1≤x.valid∧x.valid≤mv∧1≤x.next∧x.next≤1000000∧0≤x.seq∧x.seq≤1000000∧(x.ah.length:Int)≤12∧(x.au.length:Int)≤40∧0≤x.lost∧x.lost≤x.seq)):=hC
   clear hC
   go_enter Tryz.func17,Tryz.ntmps17
   go_wp2_with fail
   refine (hn _).mono ?_
   rintro e w' ⟨rfl,rfl⟩
   clear hn
   go_wp2
   all_goals first
    | (go_ret;exact ⟨aP (acK HC.out),HX.out _⟩)
    | exact (HC.out ⟨by omega,by omega,by omega,by omega,by omega,by omega,by omega,by omega,by omega,by omega⟩).elim
 | false =>
  have HZ:Hid (gB x mv=false):=by simp [Hid,gB,hX]
  obtain ⟨u0,u1,u2,rfl,g0,g1,g2,-⟩:=hv
  have HX:Hid (∀ o,Below w.heap.size w (w.alloc o)):=fun o=>bn _ o
  have hn:∀ o,Calls Tryz.prog 18 #[u0] (w.alloc o) fun e w'=>e=.returned (.bool false)∧w'=w.alloc o:=fun o=>by
   have h:=qI _ x.name _ (g0.below (HX.out o))
   rwa [hX] at h
  obtain ⟨a0,n0,c0,rfl⟩:=g0.aG
  obtain ⟨a1,c1,rfl,m0,m1⟩:=g1.form
  obtain ⟨a2,c2,rfl,m2,m3⟩:=g2.form
  clear g0 g1 g2 hX
  go_enter Tryz.func17,Tryz.ntmps17
  go_wp2_with fail
  refine (hn _).mono ?_
  rintro e w' ⟨rfl,rfl⟩
  clear hn
  go_wp2
  go_ret
  exact ⟨aP HZ.out,HX.out _⟩
end Go.Proofs.YtmglhdkeidhafaaGreat
