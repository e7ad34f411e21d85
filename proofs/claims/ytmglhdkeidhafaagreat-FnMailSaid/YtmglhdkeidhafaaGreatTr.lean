/- The proof's texts, part 27. -/
import Derived.Test.YtmglhdkeidhafaaGreatTi
namespace Go.Proofs.YtmglhdkeidhafaaGreat
open Go.RowKit
set_option linter.unusedVariables false
set_option linter.unusedSimpArgs false
set_option maxHeartbeats 8000000
set_option maxRecDepth 100000
/- What Xn of package spec does: its reply stays while its own blocks do. -/
theorem aan (v:Value) (b:aA) (since:Int) (w:World) (hv:bI w v b) (hsx:bT b≤2000000) :
  Calls Tryz.prog 93 #[v,.int .i64 since] w fun e w'=>∃ u,e=.returned u∧jg w' w.heap.size u (nD b since)∧Below w.heap.size w w':=by
 obtain ⟨u0,u1,u2,rfl,g0,g1,g2,hint⟩:=hv
 have yX:Hid (ay b.valid∧ay b.next∧ay b.seq∧ay b.lost):=hint
 have lH:Hid (∀ wi,Below w.heap.size w wi→Bs wi u0 b.name):=fun wi h=>g0.below h
 have HMM:Hid (eT w u1 b.ah):=g1
 have HGG:Hid (dD w u2 b.au):=g2
 have hsz:b.name.length≤2000000∧iB b.ah≤2000000∧b.au.length≤2000000:=by unfold bT at hsx;omega
 have VB:b.ah.length≤2000000:=by have:=lF b.ah;omega
 have agC:b.au.length≤2000000:=hsz.2.2
 have Fx:Hid (bT (dx b since)≤2000000):=Nat.le_trans (Xq b since) hsx
 obtain ⟨a0,eU,eX,rfl⟩:=g0.aG
 obtain ⟨a1,jI,rfl,-⟩:=g1.form
 obtain ⟨a2,iT,rfl,-⟩:=g2.form
 obtain ⟨i0,hi,hz0,hz1,hz2⟩:=info_parts AJ
 obtain ⟨i1,hj,hy0,hy1,hy2⟩:=info_parts yS
 have HB0:Hid (Below w.heap.size w (((w.alloc (.cells #[.slice a0 eU eX,.int .i64 b.valid,.int .i64 b.next,.int .i64 b.seq,.slice a1 b.ah.length jI,.slice a2 b.au.length iT,.int .i64 b.lost] 34)).alloc (.cells #[.int .i64 0,.int .i64 0,.slice none 0 0,.int .i64 0,.int .i64 0,.int .i64 0,.slice none 0 0,.slice none 0 0,.int .i64 0,.slice none 0 0] 37)).alloc (.cells #[.slice a0 eU eX,.int .i64 b.valid,.int .i64 b.next,.int .i64 b.seq,.slice none 0 0,.slice none 0 0,.int .i64 b.lost] 34))):=((bn _ _).alloc (by simp) _).alloc (by simp;omega) _
 have Kz:Hid ((((w.alloc (.cells #[.slice a0 eU eX,.int .i64 b.valid,.int .i64 b.next,.int .i64 b.seq,.slice a1 b.ah.length jI,.slice a2 b.au.length iT,.int .i64 b.lost] 34)).alloc (.cells #[.int .i64 0,.int .i64 0,.slice none 0 0,.int .i64 0,.int .i64 0,.int .i64 0,.slice none 0 0,.slice none 0 0,.int .i64 0,.slice none 0 0] 37)).alloc (.cells #[.slice a0 eU eX,.int .i64 b.valid,.int .i64 b.next,.int .i64 b.seq,.slice none 0 0,.slice none 0 0,.int .i64 b.lost] 34)).heap[w.heap.size]?=some (.cells #[.slice a0 eU eX,.int .i64 b.valid,.int .i64 b.next,.int .i64 b.seq,.slice a1 b.ah.length jI,.slice a2 b.au.length iT,.int .i64 b.lost] 34 (0,0))):=aB (bn _ _) (iX w _ _).1
 have wm:Hid ((((w.alloc (.cells #[.slice a0 eU eX,.int .i64 b.valid,.int .i64 b.next,.int .i64 b.seq,.slice a1 b.ah.length jI,.slice a2 b.au.length iT,.int .i64 b.lost] 34)).alloc (.cells #[.int .i64 0,.int .i64 0,.slice none 0 0,.int .i64 0,.int .i64 0,.int .i64 0,.slice none 0 0,.slice none 0 0,.int .i64 0,.slice none 0 0] 37)).alloc (.cells #[.slice a0 eU eX,.int .i64 b.valid,.int .i64 b.next,.int .i64 b.seq,.slice none 0 0,.slice none 0 0,.int .i64 b.lost] 34)).heap[w.heap.size+1]?=some (.cells #[.int .i64 0,.int .i64 0,.slice none 0 0,.int .i64 0,.int .i64 0,.int .i64 0,.slice none 0 0,.slice none 0 0,.int .i64 0,.slice none 0 0] 37 (0,0))):=aB (bn _ _) (iX w _ _).2.1
 have HX0:Hid ((((w.alloc (.cells #[.slice a0 eU eX,.int .i64 b.valid,.int .i64 b.next,.int .i64 b.seq,.slice a1 b.ah.length jI,.slice a2 b.au.length iT,.int .i64 b.lost] 34)).alloc (.cells #[.int .i64 0,.int .i64 0,.slice none 0 0,.int .i64 0,.int .i64 0,.int .i64 0,.slice none 0 0,.slice none 0 0,.int .i64 0,.slice none 0 0] 37)).alloc (.cells #[.slice a0 eU eX,.int .i64 b.valid,.int .i64 b.next,.int .i64 b.seq,.slice none 0 0,.slice none 0 0,.int .i64 b.lost] 34)).heap[w.heap.size+2]?=some (.cells #[.slice a0 eU eX,.int .i64 b.valid,.int .i64 b.next,.int .i64 b.seq,.slice none 0 0,.slice none 0 0,.int .i64 b.lost] 34 (0,0))):=by
  have h:=aW ((w.alloc (.cells #[.slice a0 eU eX,.int .i64 b.valid,.int .i64 b.next,.int .i64 b.seq,.slice a1 b.ah.length jI,.slice a2 b.au.length iT,.int .i64 b.lost] 34)).alloc (.cells #[.int .i64 0,.int .i64 0,.slice none 0 0,.int .i64 0,.int .i64 0,.int .i64 0,.slice none 0 0,.slice none 0 0,.int .i64 0,.slice none 0 0] 37)) (.cells #[.slice a0 eU eX,.int .i64 b.valid,.int .i64 b.next,.int .i64 b.seq,.slice none 0 0,.slice none 0 0,.int .i64 b.lost] 34)
  rw [show ((w.alloc (.cells #[.slice a0 eU eX,.int .i64 b.valid,.int .i64 b.next,.int .i64 b.seq,.slice a1 b.ah.length jI,.slice a2 b.au.length iT,.int .i64 b.lost] 34)).alloc (.cells #[.int .i64 0,.int .i64 0,.slice none 0 0,.int .i64 0,.int .i64 0,.int .i64 0,.slice none 0 0,.slice none 0 0,.int .i64 0,.slice none 0 0] 37)).heap.size=w.heap.size+2 by simp] at h
  exact h
 have hs0:(((w.alloc (.cells #[.slice a0 eU eX,.int .i64 b.valid,.int .i64 b.next,.int .i64 b.seq,.slice a1 b.ah.length jI,.slice a2 b.au.length iT,.int .i64 b.lost] 34)).alloc (.cells #[.int .i64 0,.int .i64 0,.slice none 0 0,.int .i64 0,.int .i64 0,.int .i64 0,.slice none 0 0,.slice none 0 0,.int .i64 0,.slice none 0 0] 37)).alloc (.cells #[.slice a0 eU eX,.int .i64 b.valid,.int .i64 b.next,.int .i64 b.seq,.slice none 0 0,.slice none 0 0,.int .i64 b.lost] 34)).heap.size=w.heap.size+3:=by simp
 have qB:Hid _:=hs0
 clear g0 g1 g2 hint hs0
 by_cases hst:since < b.lost
 ·have HC:Hid (nD b since=⟨4,b.lost,pR,[]⟩):=by show _=_;unfold nD;rw [if_pos hst]
  obtain ⟨r0,r1,r2,r3,r4,r5,r6,r7,r8,r9⟩:=aO wm.out
  have HBs:Hid (Below w.heap.size w (((w.alloc (.cells #[.slice a0 eU eX,.int .i64 b.valid,.int .i64 b.next,.int .i64 b.seq,.slice a1 b.ah.length jI,.slice a2 b.au.length iT,.int .i64 b.lost] 34)).alloc (.cells #[.int .i64 4,.int .i64 b.lost,.slice none 0 0,.int .i64 0,.int .i64 0,.int .i64 0,.slice none 0 0,.slice none 0 0,.int .i64 0,.slice none 0 0] 37)).alloc (.cells #[.slice a0 eU eX,.int .i64 b.valid,.int .i64 b.next,.int .i64 b.seq,.slice none 0 0,.slice none 0 0,.int .i64 b.lost] 34))):=((bn _ _).alloc (by simp) _).alloc (by simp;omega) _
  clear r0 r1 r2 r3 r4 r5 r6 r7 r8 r9 HB0 Kz wm HX0 qB
  go_enter Tryz.func93,Tryz.ntmps93
  go_wp2
  refine bodyPost_ret (v:=.agg #[.int .i64 4,.int .i64 b.lost,.slice none 0 0,.int .i64 0,.int .i64 0,.int .i64 0,.slice none 0 0,.slice none 0 0,.int .i64 0,.slice none 0 0]) (by simp [results,Tryz.results93,go_sem]) rfl ⟨_,rfl,?_,?_⟩
  ·rw [HC.out]
   exact ⟨fun w' _ _=>⟨_,_,_,_,rfl,⟨_,_,_,rfl,mD _,Rd.nil _,Rd.nil _,aI,aI,aI,aI⟩,Rd.nil _,OZ,yX.out.2.2.2⟩,_,_,_,_,_,_,_,_,_,_,rfl,.inl ⟨rfl,rfl⟩⟩
  ·exact HBs.out
 have HC:Hid (nD b since=⟨0,0,dx b since,[]⟩):=by show _=_;unfold nD;rw [if_neg hst]
 obtain ⟨N,hNe⟩:∃ N,N=w.heap.size+3:=⟨_,rfl⟩
 go_enter Tryz.func93,Tryz.ntmps93
 go_wp2
 generalize hw0:(((w.alloc (.cells #[.slice a0 eU eX,.int .i64 b.valid,.int .i64 b.next,.int .i64 b.seq,.slice a1 b.ah.length jI,.slice a2 b.au.length iT,.int .i64 b.lost] 34)).alloc (.cells #[.int .i64 0,.int .i64 0,.slice none 0 0,.int .i64 0,.int .i64 0,.int .i64 0,.slice none 0 0,.slice none 0 0,.int .i64 0,.slice none 0 0] 37)).alloc (.cells #[.slice a0 eU eX,.int .i64 b.valid,.int .i64 b.next,.int .i64 b.seq,.slice none 0 0,.slice none 0 0,.int .i64 b.lost] 34))=w0 at *
 clear hw0
 have hN0:N≤w0.heap.size:=by have:=qB.out;omega
 clear qB
 go_loopw [6] (fun i wr=>∃ (k:Nat) (va:Option Addr) (vn vc:Nat),k≤b.ah.length∧i=.int .i64 k∧Hid (Below w.heap.size w wr)∧Hid (wr.heap[w.heap.size]?=some (.cells #[.slice a0 eU eX,.int .i64 b.valid,.int .i64 b.next,.int .i64 b.seq,.slice a1 b.ah.length jI,.slice a2 b.au.length iT,.int .i64 b.lost] 34 (0,0)))∧Hid (wr.heap[w.heap.size+1]?=some (.cells #[.int .i64 0,.int .i64 0,.slice none 0 0,.int .i64 0,.int .i64 0,.int .i64 0,.slice none 0 0,.slice none 0 0,.int .i64 0,.slice none 0 0] 37 (0,0)))∧Hid (wr.heap[w.heap.size+2]?=some (.cells #[.slice a0 eU eX,.int .i64 b.valid,.int .i64 b.next,.int .i64 b.seq,.slice va vn vc,.slice none 0 0,.int .i64 b.lost] 34 (0,0)))∧N≤wr.heap.size∧Hid (mq w wr N wr.heap.size (.slice va vn vc) ((b.ah.take k).filter (fun m:aC=>decide (since < m.seq))))) (fun i _=>b.ah.length - (intOf i).toNat)
 case atStart=>exact ⟨0,none,0,0,Nat.zero_le _,rfl,HB0,Kz,wm,HX0,hN0,.inl ⟨rfl,rfl⟩⟩
 case round =>
  clear HB0 Kz wm HX0 hN0
  obtain ⟨k,va,vn,vc,hk,rfl,HB,fT,aQ,HX,hs,HO⟩:=hrel
  obtain ⟨c0,c1,c2,c3,c4,c5,c6⟩:=bU fT.out
  obtain ⟨y0,y1,y2,y3,y4,y5,y6⟩:=bU HX.out
  have lA:=lt_of_heap fT.out
  have lX:=lt_of_heap HX.out
  by_cases hlt:k < b.ah.length
  ·obtain ⟨x,hx⟩:∃ x,b.ah[k]?=some x:=⟨b.ah[k],aL hlt⟩
   obtain ⟨bb,off,cp,t,hv',hlb,e0,e1,e2,e3,ht,hxi⟩:=eT.cell HMM.out k x hx
   simp only [Value.slice.injEq,true_and] at hv'
   obtain ⟨rfl,rfl⟩:=hv'
   have Cv:Hid (yQ w [.int .i64 x.uid,.int .i64 x.flags,.int .i64 x.seq,t] x):=⟨_,rfl,ht,hxi⟩
   obtain ⟨ta,tn,tc,rfl⟩:=ht.aG
   clear ht hxi
   have E0:=e0
   have E1:=e1
   have E2:=e2
   have E3:=e3
   replace e0:=cell_later HB.out e0
   replace e1:=cell_later HB.out e1
   replace e2:=cell_later HB.out e2
   replace e3:=cell_later HB.out e3
   have iJ:bb < wr.heap.size:=Nat.lt_of_lt_of_le hlb HB.out.size
   have mo:Hid (b.ah[k]?=some x):=hx
   have hki:(k:Int) < b.ah.length:=by omega
   clear hx
   by_cases hq:since < x.seq
   ·have HQ:Hid (since < x.seq):=hq
    have HS:Hid (∀ w',Below wr.heap.size wr w'→(w'.cell? ⟨w.heap.size+2,4,none⟩=some (.slice va vn vc)∧w'.cell? ⟨w.heap.size,4,none⟩=some (.slice (some ⟨bb,off,none⟩) b.ah.length jI))∧w'.cell? ⟨bb,off+k * 4,none⟩=some (.int .i64 x.uid)∧w'.cell? ⟨bb,off+k * 4+1,none⟩=some (.int .i64 x.flags)∧w'.cell? ⟨bb,off+k * 4+2,none⟩=some (.int .i64 x.seq)∧w'.cell? ⟨bb,off+k * 4+3,none⟩=some (.slice ta tn tc)):=fun w' h=>⟨⟨cell_later h y4,cell_later h c4⟩,cell_later h e0,cell_later h e1,cell_later h e2,cell_later h e3⟩
    have DR:Below wr.heap.size wr wr.drew:=(bd _ _)
    go_upto_region 8 with fail
    clear c0 c1 c2 c3 c4 c5 c6 y0 y1 y2 y3 y4 y5 y6
    refine eO 9 (S:=fun w'=>(w'.cell? ⟨w.heap.size+2,4,none⟩=some (.slice va vn vc)∧w'.cell? ⟨w.heap.size,4,none⟩=some (.slice (some ⟨bb,off,none⟩) b.ah.length jI))∧w'.cell? ⟨bb,off+k * 4,none⟩=some (.int .i64 x.uid)∧w'.cell? ⟨bb,off+k * 4+1,none⟩=some (.int .i64 x.flags)∧w'.cell? ⟨bb,off+k * 4+2,none⟩=some (.int .i64 x.seq)∧w'.cell? ⟨bb,off+k * 4+3,none⟩=some (.slice ta tn tc)) (eH (by kernel_rfl) Xo) (by kernel_rfl) (HS.out _ DR) (fun aj ahz=>?_)
    refine tks 0 0 41 aj ahz ?_
    refine tks 1 1 42 aj ahz ?_
    refine tks 2 2 43 aj ahz ?_
    refine tks 3 3 44 aj ahz ?_
    refine tks 4 4 45 aj ahz ?_
    refine tks 5 5 46 aj ahz ?_
    refine tks 6 6 47 aj ahz ?_
    refine cls 7 7 aj (by decide) rfl rfl (fun K hK=>?_)
    go_simp
    have AB:Below wr.heap.size wr (wr.drew.alloc (.cells #[.int .i64 x.uid,.int .i64 x.flags,.int .i64 x.seq,.slice ta tn tc] 72)):=(bd _ _).alloc (Nat.le_refl _) _
    refine hK.out _ _ (HS.out _ AB) (fun ahz=>?_)
    clear hK K
    refine cls 8 8 aj (by decide) rfl rfl (fun K hK=>?_)
    have hMs:wr.heap.size≤(wr.drew.alloc (.cells #[.int .i64 x.uid,.int .i64 x.flags,.int .i64 x.seq,.slice ta tn tc] 72)).heap.size:=AB.size
    have nJ:ED w (wr.drew.alloc (.cells #[.int .i64 x.uid,.int .i64 x.flags,.int .i64 x.seq,.slice ta tn tc] 72)) [.int .i64 x.uid,.int .i64 x.flags,.int .i64 x.seq,.slice ta tn tc] x (In wr.heap.size (wr.drew.alloc (.cells #[.int .i64 x.uid,.int .i64 x.flags,.int .i64 x.seq,.slice ta tn tc] 72)).heap.size):=Cv.out
    have hfl:((b.ah.take k).filter (fun m:aC=>decide (since < m.seq))).length≤k:=Nat.le_trans (List.length_filter_le _ _) (by simp;omega)
    have hp1:((b.ah.take k).filter (fun m:aC=>decide (since < m.seq))).length+1≤maxLen:=by unfold maxLen;omega
    have hp2:(((b.ah.take k).filter (fun m:aC=>decide (since < m.seq))).length+1) * 48≤140737488355328:=by omega
    refine dR (by kernel_rfl) (AA 49 rfl (.tmp 42) (.tmp 48) rfl (Bt w) (B:=N) (M:=wr.heap.size) (Ow.below (Bt w) HO.out AB) hMs hs Tryz.underlying31 hi hz0 hz1 hz2 rfl (by omega) rfl x [.int .i64 x.uid,.int .i64 x.flags,.int .i64 x.seq,.slice ta tn tc] rfl nJ ⟨wr.heap.size,0,none⟩ 1 rfl (kH wr.drew _ _) AR hp1 hp2 ?_)
    intro DV wz hO hgz fP
    obtain ⟨da,dn,dc,og⟩:=tV.aG hO
    subst og
    clear hfl
    have hge:∀ j,(Value.slice va vn vc).ownBlock=some j→N≤j:=fun j hj=>(fP j hj).1
    have KX:=l5 hgz hge (aB AB HX.out) (by omega)
    have rR:=ak (l5 hgz hge (aB AB fT.out) (by omega))
    have qE:=ak (l5 hgz hge (aB AB aQ.out) (by omega))
    have jw:Hid (Below w.heap.size w wz):=rD (Below.step HB.out AB) hgz hge (by omega) (by have:=AB.size;omega)
    have sz:wr.heap.size≤wz.heap.size:=Nat.le_trans AB.size hgz.size
    obtain ⟨zx,zl⟩:=aZ KX
    obtain ⟨d0,d1,d2,d3,d4,d5,d6⟩:=bU KX
    refine hK.out _ _ (⟨⟨d4,(bU rR.out).2.2.2.2.1⟩,(cell_later jw.out E0),(cell_later jw.out E1),(cell_later jw.out E2),(cell_later jw.out E3)⟩) (fun ahz=>?_)
    clear hK K
    refine gH (S':=fun w'=>True) 9 11 aj (by decide) (trivial) (fun ahz=>?_)
    refine tks 9 9 50 aj ahz ?_
    refine cls 10 10 aj (by decide) rfl rfl (fun K hK=>?_)
    go_simp
    refine hK.out _ _ (trivial) (fun ahz=>?_)
    clear hK K
    refine eP aj ?_
    have pq:Hid ((wz.setCell ⟨w.heap.size+2,4,none⟩ (.slice da dn dc)).heap[w.heap.size+2]?=some (.cells #[.slice a0 eU eX,.int .i64 b.valid,.int .i64 b.next,.int .i64 b.seq,.slice da dn dc,.slice none 0 0,.int .i64 b.lost] 34 (0,0))):=aJ KX
    have AX:=ak (cO (k:=w.heap.size+2) (i:=4) (v:=.slice da dn dc) rR.out (by omega))
    have rT:=ak (cO (k:=w.heap.size+2) (i:=4) (v:=.slice da dn dc) qE.out (by omega))
    have lI:Hid (Below w.heap.size w (wz.setCell ⟨w.heap.size+2,4,none⟩ (.slice da dn dc))):=jw.out.setCell (p:=⟨w.heap.size+2,4,none⟩) (by simp) _
    have hfx:(b.ah.take (k+1)).filter (fun m:aC=>decide (since < m.seq))=(b.ah.take k).filter (fun m:aC=>decide (since < m.seq)) ++ [x]:=by rw [yV mo.out,List.filter_append];simp [HQ.out]
    have qF:Hid (mq w (wz.setCell ⟨w.heap.size+2,4,none⟩ (.slice da dn dc)) N (wz.setCell ⟨w.heap.size+2,4,none⟩ (.slice da dn dc)).heap.size (.slice da dn dc) ((b.ah.take (k+1)).filter (fun m:aC=>decide (since < m.seq)))):=by show mq w _ _ _ _ _;rw [bf,hfx];exact OY hO (.inl (by omega))
    have rU:N≤(wz.setCell ⟨w.heap.size+2,4,none⟩ (.slice da dn dc)).heap.size:=by rw [bf];have:=AB.size;omega
    clear KX rR qE jw HX fT aQ HB HO nJ hO hgz fP hge AB DR HS Cv hfx e0 E0 e1 E1 e2 E2 e3 E3
    go_wp2
    go_roundw
    case rel=>exact ⟨k+1,da,dn,dc,by omega,by go_num,lI,AX,rT,pq,rU,qF⟩
    case measure=>simp [intOf];omega
   ·have hfx:(b.ah.take (k+1)).filter (fun m:aC=>decide (since < m.seq))=(b.ah.take k).filter (fun m:aC=>decide (since < m.seq)):=by rw [yV mo.out,List.filter_append];simp [hq]
    have qF:Hid (mq w wr N wr.heap.size (.slice va vn vc) ((b.ah.take (k+1)).filter (fun m:aC=>decide (since < m.seq)))):=by show mq w _ _ _ _ _;rw [hfx];exact HO.out
    clear hfx HO
    go_wp2
    go_roundw
    case rel=>exact ⟨k+1,va,vn,vc,by omega,by go_num,HB,fT,aQ,HX,hs,qF⟩
    case measure=>simp [intOf];omega
  ·obtain rfl:k=b.ah.length:=by omega
   have Rn:=HB
   have Ro:=fT
   have Rp:=aQ
   have Rq:=HX
   have KA:Hid (mq w wr N wr.heap.size (.slice va vn vc) (b.ah.filter (fun m:aC=>decide (since < m.seq)))):=by have h:=HO.out;rw [List.take_length] at h;exact h
   obtain ⟨M1,hM1⟩:∃ M,M=wr.heap.size:=⟨_,rfl⟩
   clear HO
   go_wp2
   clear c0 c1 c2 c3 c4 c5 c6 y0 y1 y2 y3 y4 y5 y6 HB fT aQ HX
   rw [← hM1] at KA
   have hMN:N≤M1:=by omega
   clear hs
   go_loopw [7] (fun i wr=>∃ (k:Nat) (ga:Option Addr) (gn gc:Nat),k≤b.au.length∧i=.int .i64 k∧Hid (Below w.heap.size w wr)∧Hid (wr.heap[w.heap.size]?=some (.cells #[.slice a0 eU eX,.int .i64 b.valid,.int .i64 b.next,.int .i64 b.seq,.slice a1 b.ah.length jI,.slice a2 b.au.length iT,.int .i64 b.lost] 34 (0,0)))∧Hid (wr.heap[w.heap.size+1]?=some (.cells #[.int .i64 0,.int .i64 0,.slice none 0 0,.int .i64 0,.int .i64 0,.int .i64 0,.slice none 0 0,.slice none 0 0,.int .i64 0,.slice none 0 0] 37 (0,0)))∧Hid (wr.heap[w.heap.size+2]?=some (.cells #[.slice a0 eU eX,.int .i64 b.valid,.int .i64 b.next,.int .i64 b.seq,.slice va vn vc,.slice ga gn gc,.int .i64 b.lost] 34 (0,0)))∧M1≤wr.heap.size∧Hid (mq w wr N M1 (.slice va vn vc) (b.ah.filter (fun m:aC=>decide (since < m.seq))))∧Hid (lZ wr M1 wr.heap.size (.slice ga gn gc) ((b.au.take k).filter (fun m:bB=>decide (since < m.seq))))) (fun i _=>b.au.length - (intOf i).toNat)
   case atStart=>exact ⟨0,none,0,0,Nat.zero_le _,rfl,Rn,Ro,Rp,Rq,(show M1≤wr.heap.size by omega),KA,.inl ⟨rfl,rfl⟩⟩
   case round =>
    obtain ⟨k,ga,gn,gc,hk,rfl,HB,fT,aQ,HX,hs,Cw,HO⟩:=hrel
    clear Rn Ro Rp Rq KA
    obtain ⟨c0,c1,c2,c3,c4,c5,c6⟩:=bU fT.out
    obtain ⟨y0,y1,y2,y3,y4,y5,y6⟩:=bU HX.out
    have lA:=lt_of_heap fT.out
    have lX:=lt_of_heap HX.out
    by_cases hlt:k < b.au.length
    ·obtain ⟨x,hx⟩:∃ x,b.au[k]?=some x:=⟨b.au[k],aL hlt⟩
     obtain ⟨bb,off,cp,hv',hlb,e0,e1,hxi⟩:=dD.cell HGG.out k x hx
     simp only [Value.slice.injEq,true_and] at hv'
     obtain ⟨rfl,rfl⟩:=hv'
     have Cv:Hid (ay x.uid∧ay x.seq):=hxi
     clear hxi
     have E0:=e0
     have E1:=e1
     replace e0:=cell_later HB.out e0
     replace e1:=cell_later HB.out e1
     have iJ:bb < wr.heap.size:=Nat.lt_of_lt_of_le hlb HB.out.size
     have mo:Hid (b.au[k]?=some x):=hx
     have hki:(k:Int) < b.au.length:=by omega
     clear hx
     by_cases hq:since < x.seq
     ·have HQ:Hid (since < x.seq):=hq
      have HS:Hid (∀ w',Below wr.heap.size wr w'→(w'.cell? ⟨w.heap.size+2,5,none⟩=some (.slice ga gn gc)∧w'.cell? ⟨w.heap.size,5,none⟩=some (.slice (some ⟨bb,off,none⟩) b.au.length iT))∧w'.cell? ⟨bb,off+k * 2,none⟩=some (.int .i64 x.uid)∧w'.cell? ⟨bb,off+k * 2+1,none⟩=some (.int .i64 x.seq)):=fun w' h=>⟨⟨cell_later h y5,cell_later h c5⟩,cell_later h e0,cell_later h e1⟩
      have DR:Below wr.heap.size wr wr.drew:=(bd _ _)
      go_upto_region 13 with fail
      clear c0 c1 c2 c3 c4 c5 c6 y0 y1 y2 y3 y4 y5 y6
      refine eO 9 (S:=fun w'=>(w'.cell? ⟨w.heap.size+2,5,none⟩=some (.slice ga gn gc)∧w'.cell? ⟨w.heap.size,5,none⟩=some (.slice (some ⟨bb,off,none⟩) b.au.length iT))∧w'.cell? ⟨bb,off+k * 2,none⟩=some (.int .i64 x.uid)∧w'.cell? ⟨bb,off+k * 2+1,none⟩=some (.int .i64 x.seq)) (eH (by kernel_rfl) Xp) (by kernel_rfl) (HS.out _ DR) (fun aj ahz=>?_)
      refine tks 0 0 66 aj ahz ?_
      refine tks 1 1 67 aj ahz ?_
      refine tks 2 2 68 aj ahz ?_
      refine tks 3 3 69 aj ahz ?_
      refine tks 4 4 70 aj ahz ?_
      refine tks 5 5 71 aj ahz ?_
      refine tks 6 6 72 aj ahz ?_
      refine cls 7 7 aj (by decide) rfl rfl (fun K hK=>?_)
      go_simp
      have AB:Below wr.heap.size wr (wr.drew.alloc (.cells #[.int .i64 x.uid,.int .i64 x.seq] 70)):=(bd _ _).alloc (Nat.le_refl _) _
      refine hK.out _ _ (HS.out _ AB) (fun ahz=>?_)
      clear hK K
      refine cls 8 8 aj (by decide) rfl rfl (fun K hK=>?_)
      have hMs:wr.heap.size≤(wr.drew.alloc (.cells #[.int .i64 x.uid,.int .i64 x.seq] 70)).heap.size:=AB.size
      have nJ:Az (wr.drew.alloc (.cells #[.int .i64 x.uid,.int .i64 x.seq] 70)) [.int .i64 x.uid,.int .i64 x.seq] x (In wr.heap.size (wr.drew.alloc (.cells #[.int .i64 x.uid,.int .i64 x.seq] 70)).heap.size):=⟨rfl,Cv.out⟩
      have hfl:((b.au.take k).filter (fun m:bB=>decide (since < m.seq))).length≤k:=Nat.le_trans (List.length_filter_le _ _) (by simp;omega)
      have hp1:((b.au.take k).filter (fun m:bB=>decide (since < m.seq))).length+1≤maxLen:=by unfold maxLen;omega
      have hp2:(((b.au.take k).filter (fun m:bB=>decide (since < m.seq))).length+1) * 16≤140737488355328:=by omega
      refine dR (by kernel_rfl) (AA 74 rfl (.tmp 67) (.tmp 73) rfl nT (B:=M1) (M:=wr.heap.size) (Ow.below nT HO.out AB) hMs hs Tryz.underlying32 hj hy0 hy1 hy2 rfl (by omega) rfl x [.int .i64 x.uid,.int .i64 x.seq] rfl nJ ⟨wr.heap.size,0,none⟩ 1 rfl (kH wr.drew _ _) EC hp1 hp2 ?_)
      intro DV wz hO hgz fP
      obtain ⟨da,dn,dc,og⟩:=tV.aG hO
      subst og
      clear hfl
      have hge:∀ j,(Value.slice ga gn gc).ownBlock=some j→M1≤j:=fun j hj=>(fP j hj).1
      have KX:=l5 hgz hge (aB AB HX.out) (by omega)
      have rR:=ak (l5 hgz hge (aB AB fT.out) (by omega))
      have qE:=ak (l5 hgz hge (aB AB aQ.out) (by omega))
      have jw:Hid (Below w.heap.size w wz):=rD (Below.step HB.out AB) hgz hge (by omega) (by have:=AB.size;omega)
      have Rs:Hid (mq w wz N M1 (.slice va vn vc) (b.ah.filter (fun m:aC=>decide (since < m.seq)))):=Xi (Ow.below (Bt w) Cw.out AB) hgz hge
      have sz:wr.heap.size≤wz.heap.size:=Nat.le_trans AB.size hgz.size
      obtain ⟨zx,zl⟩:=aZ KX
      obtain ⟨d0,d1,d2,d3,d4,d5,d6⟩:=bU KX
      refine hK.out _ _ (⟨⟨d5,(bU rR.out).2.2.2.2.2.1⟩,(cell_later jw.out E0),(cell_later jw.out E1)⟩) (fun ahz=>?_)
      clear hK K
      refine gH (S':=fun w'=>True) 9 11 aj (by decide) (trivial) (fun ahz=>?_)
      refine tks 9 9 75 aj ahz ?_
      refine cls 10 10 aj (by decide) rfl rfl (fun K hK=>?_)
      go_simp
      refine hK.out _ _ (trivial) (fun ahz=>?_)
      clear hK K
      refine eP aj ?_
      have pq:Hid ((wz.setCell ⟨w.heap.size+2,5,none⟩ (.slice da dn dc)).heap[w.heap.size+2]?=some (.cells #[.slice a0 eU eX,.int .i64 b.valid,.int .i64 b.next,.int .i64 b.seq,.slice va vn vc,.slice da dn dc,.int .i64 b.lost] 34 (0,0))):=aJ KX
      have AX:=ak (cO (k:=w.heap.size+2) (i:=5) (v:=.slice da dn dc) rR.out (by omega))
      have rT:=ak (cO (k:=w.heap.size+2) (i:=5) (v:=.slice da dn dc) qE.out (by omega))
      have lI:Hid (Below w.heap.size w (wz.setCell ⟨w.heap.size+2,5,none⟩ (.slice da dn dc))):=jw.out.setCell (p:=⟨w.heap.size+2,5,none⟩) (by simp) _
      have hfx:(b.au.take (k+1)).filter (fun m:bB=>decide (since < m.seq))=(b.au.take k).filter (fun m:bB=>decide (since < m.seq)) ++ [x]:=by rw [yV mo.out,List.filter_append];simp [HQ.out]
      have qF:Hid (lZ (wz.setCell ⟨w.heap.size+2,5,none⟩ (.slice da dn dc)) M1 (wz.setCell ⟨w.heap.size+2,5,none⟩ (.slice da dn dc)).heap.size (.slice da dn dc) ((b.au.take (k+1)).filter (fun m:bB=>decide (since < m.seq)))):=by show lZ _ _ _ _ _;rw [bf,hfx];exact cZ.set hO (.inl (by omega))
      have aar:Hid (mq w (wz.setCell ⟨w.heap.size+2,5,none⟩ (.slice da dn dc)) N M1 (.slice va vn vc) (b.ah.filter (fun m:aC=>decide (since < m.seq)))):=OY Rs.out (.inl (by omega))
      have rU:M1≤(wz.setCell ⟨w.heap.size+2,5,none⟩ (.slice da dn dc)).heap.size:=by rw [bf];have:=AB.size;omega
      clear KX rR qE jw HX fT aQ HB HO nJ hO hgz fP hge AB DR HS Cv hfx e0 E0 e1 E1 Cw Rs
      go_wp2
      go_roundw
      case rel=>exact ⟨k+1,da,dn,dc,by omega,by go_num,lI,AX,rT,pq,rU,aar,qF⟩
      case measure=>simp [intOf];omega
     ·have hfx:(b.au.take (k+1)).filter (fun m:bB=>decide (since < m.seq))=(b.au.take k).filter (fun m:bB=>decide (since < m.seq)):=by rw [yV mo.out,List.filter_append];simp [hq]
      have qF:Hid (lZ wr M1 wr.heap.size (.slice ga gn gc) ((b.au.take (k+1)).filter (fun m:bB=>decide (since < m.seq)))):=by show lZ _ _ _ _ _;rw [hfx];exact HO.out
      clear hfx HO
      go_wp2
      go_roundw
      case rel=>exact ⟨k+1,ga,gn,gc,by omega,by go_num,HB,fT,aQ,HX,hs,Cw,qF⟩
      case measure=>simp [intOf];omega
    ·obtain rfl:k=b.au.length:=by omega
     have Rt:Hid (lZ wr M1 wr.heap.size (.slice ga gn gc) (b.au.filter (fun m:bB=>decide (since < m.seq)))):=by have h:=HO.out;rw [List.take_length] at h;exact h
     have j4:Hid (bI wr (.agg #[.slice a0 eU eX,.int .i64 b.valid,.int .i64 b.next,.int .i64 b.seq,.slice va vn vc,.slice ga gn gc,.int .i64 b.lost]) (dx b since)):=⟨_,_,_,rfl,lH.out wr HB.out,mq.v Cw.out HB.out,Ow.rd (fun _ _ _ _ h=>h) Rt.out,yX.out⟩
     clear HO
     go_wp2_with fail
     refine (Nj _ (dx b since) _ j4.out Fx.out).mono ?_
     rintro e w9 ⟨u,rfl,⟨cs,hcs,hE⟩,B9⟩
     subst hcs
     obtain ⟨o0,oL,oM,o1,oN,oO,o2,oP,oQ,rfl⟩:=OW hE
     have Fy:=aB B9 aQ.out
     have lI:Hid (Below w.heap.size w w9):=Below.step HB.out B9
     have HBw:Hid (w.heap.size≤wr.heap.size):=HB.out.size
     have HE9:Hid (wX w9 [.slice o0 oL oM,.int .i64 (dx b since).valid,.int .i64 (dx b since).next,.int .i64 (dx b since).seq,.slice o1 oN oO,.slice o2 oP oQ,.int .i64 (dx b since).lost] (dx b since)):=hE.rd
     have Ru:Hid (fI w9 [.slice o0 oL oM,.int .i64 (dx b since).valid,.int .i64 (dx b since).next,.int .i64 (dx b since).seq,.slice o1 oN oO,.slice o2 oP oQ,.int .i64 (dx b since).lost] (dx b since) (In wr.heap.size w9.heap.size)):=hE
     obtain ⟨r0,r1,r2,r3,r4,r5,r6,r7,r8,r9⟩:=aO Fy
     obtain ⟨rz,rl⟩:=aZ Fy
     have KF:=(aJ (i:=9) (v:=.slice none 0 0) (aJ (i:=8) (v:=.int .i64 (dx b since).lost) (aJ (i:=7) (v:=.slice o2 oP oQ) (aJ (i:=6) (v:=.slice o1 oN oO) (aJ (i:=5) (v:=.int .i64 (dx b since).seq) (aJ (i:=4) (v:=.int .i64 (dx b since).next) (aJ (i:=3) (v:=.int .i64 (dx b since).valid) (aJ (i:=2) (v:=.slice o0 oL oM) (aJ (i:=1) (v:=.int .i64 0) (aJ (i:=0) (v:=.int .i64 0) Fy))))))))))
     have ff:=aO KF
     have HBf:Hid (Below w.heap.size w ((((((((((w9.setCell ⟨w.heap.size+1,0,none⟩ (.int .i64 0)).setCell ⟨w.heap.size+1,1,none⟩ (.int .i64 0)).setCell ⟨w.heap.size+1,2,none⟩ (.slice o0 oL oM)).setCell ⟨w.heap.size+1,3,none⟩ (.int .i64 (dx b since).valid)).setCell ⟨w.heap.size+1,4,none⟩ (.int .i64 (dx b since).next)).setCell ⟨w.heap.size+1,5,none⟩ (.int .i64 (dx b since).seq)).setCell ⟨w.heap.size+1,6,none⟩ (.slice o1 oN oO)).setCell ⟨w.heap.size+1,7,none⟩ (.slice o2 oP oQ)).setCell ⟨w.heap.size+1,8,none⟩ (.int .i64 (dx b since).lost)).setCell ⟨w.heap.size+1,9,none⟩ (.slice none 0 0))):=((((((((((lI.out.setCell (p:=⟨w.heap.size+1,0,none⟩) (by simp) (.int .i64 0)).setCell (p:=⟨w.heap.size+1,1,none⟩) (by simp) (.int .i64 0)).setCell (p:=⟨w.heap.size+1,2,none⟩) (by simp) (.slice o0 oL oM)).setCell (p:=⟨w.heap.size+1,3,none⟩) (by simp) (.int .i64 (dx b since).valid)).setCell (p:=⟨w.heap.size+1,4,none⟩) (by simp) (.int .i64 (dx b since).next)).setCell (p:=⟨w.heap.size+1,5,none⟩) (by simp) (.int .i64 (dx b since).seq)).setCell (p:=⟨w.heap.size+1,6,none⟩) (by simp) (.slice o1 oN oO)).setCell (p:=⟨w.heap.size+1,7,none⟩) (by simp) (.slice o2 oP oQ)).setCell (p:=⟨w.heap.size+1,8,none⟩) (by simp) (.int .i64 (dx b since).lost)).setCell (p:=⟨w.heap.size+1,9,none⟩) (by simp) (.slice none 0 0))
     have HEf:Hid (fI ((((((((((w9.setCell ⟨w.heap.size+1,0,none⟩ (.int .i64 0)).setCell ⟨w.heap.size+1,1,none⟩ (.int .i64 0)).setCell ⟨w.heap.size+1,2,none⟩ (.slice o0 oL oM)).setCell ⟨w.heap.size+1,3,none⟩ (.int .i64 (dx b since).valid)).setCell ⟨w.heap.size+1,4,none⟩ (.int .i64 (dx b since).next)).setCell ⟨w.heap.size+1,5,none⟩ (.int .i64 (dx b since).seq)).setCell ⟨w.heap.size+1,6,none⟩ (.slice o1 oN oO)).setCell ⟨w.heap.size+1,7,none⟩ (.slice o2 oP oQ)).setCell ⟨w.heap.size+1,8,none⟩ (.int .i64 (dx b since).lost)).setCell ⟨w.heap.size+1,9,none⟩ (.slice none 0 0)) [.slice o0 oL oM,.int .i64 (dx b since).valid,.int .i64 (dx b since).next,.int .i64 (dx b since).seq,.slice o1 oN oO,.slice o2 oP oQ,.int .i64 (dx b since).lost] (dx b since) (In wr.heap.size w9.heap.size)):=(fI.set (g:=w.heap.size+1) (i:=9) (x:=.slice none 0 0) (fI.set (g:=w.heap.size+1) (i:=8) (x:=.int .i64 (dx b since).lost) (fI.set (g:=w.heap.size+1) (i:=7) (x:=.slice o2 oP oQ) (fI.set (g:=w.heap.size+1) (i:=6) (x:=.slice o1 oN oO) (fI.set (g:=w.heap.size+1) (i:=5) (x:=.int .i64 (dx b since).seq) (fI.set (g:=w.heap.size+1) (i:=4) (x:=.int .i64 (dx b since).next) (fI.set (g:=w.heap.size+1) (i:=3) (x:=.int .i64 (dx b since).valid) (fI.set (g:=w.heap.size+1) (i:=2) (x:=.slice o0 oL oM) (fI.set (g:=w.heap.size+1) (i:=1) (x:=.int .i64 0) (fI.set (g:=w.heap.size+1) (i:=0) (x:=.int .i64 0) Ru.out (.inl (by omega))) (.inl (by omega))) (.inl (by omega))) (.inl (by omega))) (.inl (by omega))) (.inl (by omega))) (.inl (by omega))) (.inl (by omega))) (.inl (by omega))) (.inl (by omega)))
     clear KF Fy hE B9 c0 c1 c2 c3 c4 c5 c6 y0 y1 y2 y3 y4 y5 y6 HB fT aQ HX HE9 Ru j4 Rt Cw
     go_wp2
     refine bodyPost_ret (v:=.agg #[.int .i64 0,.int .i64 0,.slice o0 oL oM,.int .i64 (dx b since).valid,.int .i64 (dx b since).next,.int .i64 (dx b since).seq,.slice o1 oN oO,.slice o2 oP oQ,.int .i64 (dx b since).lost,.slice none 0 0]) (by simp [results,Tryz.results93,go_sem,ff]) rfl ⟨_,rfl,?_,HBf.out⟩
     rw [HC.out]
     refine ⟨fun w' hs' hk'=>?_,_,_,_,_,_,_,_,_,_,_,rfl,.inl ⟨rfl,rfl⟩⟩
     obtain ⟨z0,z1,z2,ez,zz⟩:=(jN _ _ _ _ _ HEf.out fun k h1 h2=>hk' k (Nat.le_trans HBw.out h1.1) h2).rd
     simp only [List.cons.injEq,and_true,true_and] at ez
     obtain ⟨rfl,rfl,rfl⟩:=ez
     exact ⟨_,_,_,_,rfl,⟨_,_,_,rfl,zz⟩,Rd.nil _,aI,aI⟩
end Go.Proofs.YtmglhdkeidhafaaGreat
