/- The proof's texts, part 36. -/
import Derived.Test.YtlneebmlhblleaaGreatTg
namespace Go.Proofs.YtlneebmlhblleaaGreat
open Go.RowKit
set_option linter.unusedVariables false
set_option linter.unusedSimpArgs false
set_option maxHeartbeats 8000000
set_option maxRecDepth 100000
/- What YX of package spec does: its reply stays while its own blocks do. -/
theorem afj (v:Value) (b:aD) (since:Int) (w:World) (hv:bK w v b) (hsx:bA b≤2000000) :
  Calls Tryz.prog 61 #[v,.int .i64 since] w fun e w'=>∃ u,e=.returned u∧jo w' w.heap.size u (ni b since)∧Below w.heap.size w w':=by
 obtain ⟨u0,u1,u2,rfl,g0,g1,g2,hint⟩:=hv
 have wB:Hid (aB b.valid∧aB b.next∧aB b.seq∧aB b.lost):=hint
 have mo:Hid (∀ wi,Below w.heap.size w wi→Bs wi u0 b.name):=fun wi h=>g0.below h
 have HMM:Hid (bY w u1 b.ah):=g1
 have HGG:Hid (bO w u2 b.au):=g2
 have hsz:b.name.length≤2000000∧dG b.ah≤2000000∧b.au.length≤2000000:=by unfold bA at hsx;omega
 have YC:b.ah.length≤2000000:=by have:=jZ b.ah;omega
 have ajk:b.au.length≤2000000:=hsz.2.2
 have GQ:Hid (bA (cZ b since)≤2000000):=Nat.le_trans (Y1 b since) hsx
 obtain ⟨a0,dZ,dF,rfl⟩:=g0.aG
 obtain ⟨a1,gu,rfl,-⟩:=g1.form
 obtain ⟨a2,iP,rfl,-⟩:=g2.form
 obtain ⟨i0,hi,hz0,hz1,hz2⟩:=info_parts zO
 obtain ⟨i1,hj,hy0,hy1,hy2⟩:=info_parts yt
 have HB0:Hid (Below w.heap.size w (((w.alloc (.cells #[.slice a0 dZ dF,.int .i64 b.valid,.int .i64 b.next,.int .i64 b.seq,.slice a1 b.ah.length gu,.slice a2 b.au.length iP,.int .i64 b.lost] 37)).alloc (.cells #[.int .i64 0,.int .i64 0,.slice none 0 0,.int .i64 0,.int .i64 0,.int .i64 0,.slice none 0 0,.slice none 0 0,.int .i64 0,.slice none 0 0] 40)).alloc (.cells #[.slice a0 dZ dF,.int .i64 b.valid,.int .i64 b.next,.int .i64 b.seq,.slice none 0 0,.slice none 0 0,.int .i64 b.lost] 37))):=((bn _ _).alloc (by simp) _).alloc (by simp;omega) _
 have NS:Hid ((((w.alloc (.cells #[.slice a0 dZ dF,.int .i64 b.valid,.int .i64 b.next,.int .i64 b.seq,.slice a1 b.ah.length gu,.slice a2 b.au.length iP,.int .i64 b.lost] 37)).alloc (.cells #[.int .i64 0,.int .i64 0,.slice none 0 0,.int .i64 0,.int .i64 0,.int .i64 0,.slice none 0 0,.slice none 0 0,.int .i64 0,.slice none 0 0] 40)).alloc (.cells #[.slice a0 dZ dF,.int .i64 b.valid,.int .i64 b.next,.int .i64 b.seq,.slice none 0 0,.slice none 0 0,.int .i64 b.lost] 37)).heap[w.heap.size]?=some (.cells #[.slice a0 dZ dF,.int .i64 b.valid,.int .i64 b.next,.int .i64 b.seq,.slice a1 b.ah.length gu,.slice a2 b.au.length iP,.int .i64 b.lost] 37 (0,0))):=ay (bn _ _) (gJ w _ _).1
 have xL:Hid ((((w.alloc (.cells #[.slice a0 dZ dF,.int .i64 b.valid,.int .i64 b.next,.int .i64 b.seq,.slice a1 b.ah.length gu,.slice a2 b.au.length iP,.int .i64 b.lost] 37)).alloc (.cells #[.int .i64 0,.int .i64 0,.slice none 0 0,.int .i64 0,.int .i64 0,.int .i64 0,.slice none 0 0,.slice none 0 0,.int .i64 0,.slice none 0 0] 40)).alloc (.cells #[.slice a0 dZ dF,.int .i64 b.valid,.int .i64 b.next,.int .i64 b.seq,.slice none 0 0,.slice none 0 0,.int .i64 b.lost] 37)).heap[w.heap.size+1]?=some (.cells #[.int .i64 0,.int .i64 0,.slice none 0 0,.int .i64 0,.int .i64 0,.int .i64 0,.slice none 0 0,.slice none 0 0,.int .i64 0,.slice none 0 0] 40 (0,0))):=ay (bn _ _) (gJ w _ _).2.1
 have HX0:Hid ((((w.alloc (.cells #[.slice a0 dZ dF,.int .i64 b.valid,.int .i64 b.next,.int .i64 b.seq,.slice a1 b.ah.length gu,.slice a2 b.au.length iP,.int .i64 b.lost] 37)).alloc (.cells #[.int .i64 0,.int .i64 0,.slice none 0 0,.int .i64 0,.int .i64 0,.int .i64 0,.slice none 0 0,.slice none 0 0,.int .i64 0,.slice none 0 0] 40)).alloc (.cells #[.slice a0 dZ dF,.int .i64 b.valid,.int .i64 b.next,.int .i64 b.seq,.slice none 0 0,.slice none 0 0,.int .i64 b.lost] 37)).heap[w.heap.size+2]?=some (.cells #[.slice a0 dZ dF,.int .i64 b.valid,.int .i64 b.next,.int .i64 b.seq,.slice none 0 0,.slice none 0 0,.int .i64 b.lost] 37 (0,0))):=by
  have h:=aV ((w.alloc (.cells #[.slice a0 dZ dF,.int .i64 b.valid,.int .i64 b.next,.int .i64 b.seq,.slice a1 b.ah.length gu,.slice a2 b.au.length iP,.int .i64 b.lost] 37)).alloc (.cells #[.int .i64 0,.int .i64 0,.slice none 0 0,.int .i64 0,.int .i64 0,.int .i64 0,.slice none 0 0,.slice none 0 0,.int .i64 0,.slice none 0 0] 40)) (.cells #[.slice a0 dZ dF,.int .i64 b.valid,.int .i64 b.next,.int .i64 b.seq,.slice none 0 0,.slice none 0 0,.int .i64 b.lost] 37)
  rw [show ((w.alloc (.cells #[.slice a0 dZ dF,.int .i64 b.valid,.int .i64 b.next,.int .i64 b.seq,.slice a1 b.ah.length gu,.slice a2 b.au.length iP,.int .i64 b.lost] 37)).alloc (.cells #[.int .i64 0,.int .i64 0,.slice none 0 0,.int .i64 0,.int .i64 0,.int .i64 0,.slice none 0 0,.slice none 0 0,.int .i64 0,.slice none 0 0] 40)).heap.size=w.heap.size+2 by simp] at h
  exact h
 have hs0:(((w.alloc (.cells #[.slice a0 dZ dF,.int .i64 b.valid,.int .i64 b.next,.int .i64 b.seq,.slice a1 b.ah.length gu,.slice a2 b.au.length iP,.int .i64 b.lost] 37)).alloc (.cells #[.int .i64 0,.int .i64 0,.slice none 0 0,.int .i64 0,.int .i64 0,.int .i64 0,.slice none 0 0,.slice none 0 0,.int .i64 0,.slice none 0 0] 40)).alloc (.cells #[.slice a0 dZ dF,.int .i64 b.valid,.int .i64 b.next,.int .i64 b.seq,.slice none 0 0,.slice none 0 0,.int .i64 b.lost] 37)).heap.size=w.heap.size+3:=by simp
 have eY:Hid _:=hs0
 clear g0 g1 g2 hint hs0
 by_cases hst:since < b.lost
 ·have HC:Hid (ni b since=⟨4,b.lost,jQ,[]⟩):=by show _=_;unfold ni;rw [if_pos hst]
  obtain ⟨r0,r1,r2,r3,r4,r5,r6,r7,r8,r9⟩:=aM xL.out
  have HBs:Hid (Below w.heap.size w (((w.alloc (.cells #[.slice a0 dZ dF,.int .i64 b.valid,.int .i64 b.next,.int .i64 b.seq,.slice a1 b.ah.length gu,.slice a2 b.au.length iP,.int .i64 b.lost] 37)).alloc (.cells #[.int .i64 4,.int .i64 b.lost,.slice none 0 0,.int .i64 0,.int .i64 0,.int .i64 0,.slice none 0 0,.slice none 0 0,.int .i64 0,.slice none 0 0] 40)).alloc (.cells #[.slice a0 dZ dF,.int .i64 b.valid,.int .i64 b.next,.int .i64 b.seq,.slice none 0 0,.slice none 0 0,.int .i64 b.lost] 37))):=((bn _ _).alloc (by simp) _).alloc (by simp;omega) _
  clear r0 r1 r2 r3 r4 r5 r6 r7 r8 r9 HB0 NS xL HX0 eY
  go_enter Tryz.func61,Tryz.ntmps61
  go_wp2
  refine bodyPost_ret (v:=.agg #[.int .i64 4,.int .i64 b.lost,.slice none 0 0,.int .i64 0,.int .i64 0,.int .i64 0,.slice none 0 0,.slice none 0 0,.int .i64 0,.slice none 0 0]) (by simp [results,Tryz.results61,go_sem]) rfl ⟨_,rfl,?_,?_⟩
  ·rw [HC.out]
   exact ⟨fun w' _ _=>⟨_,_,_,_,rfl,⟨_,_,_,rfl,ng _,Rd.nil _,Rd.nil _,aI,aI,aI,aI⟩,Rd.nil _,Qc,wB.out.2.2.2⟩,_,_,_,_,_,_,_,_,_,_,rfl,.inl ⟨rfl,rfl⟩⟩
  ·exact HBs.out
 have HC:Hid (ni b since=⟨0,0,cZ b since,[]⟩):=by show _=_;unfold ni;rw [if_neg hst]
 obtain ⟨N,hNe⟩:∃ N,N=w.heap.size+3:=⟨_,rfl⟩
 go_enter Tryz.func61,Tryz.ntmps61
 go_wp2
 generalize hw0:(((w.alloc (.cells #[.slice a0 dZ dF,.int .i64 b.valid,.int .i64 b.next,.int .i64 b.seq,.slice a1 b.ah.length gu,.slice a2 b.au.length iP,.int .i64 b.lost] 37)).alloc (.cells #[.int .i64 0,.int .i64 0,.slice none 0 0,.int .i64 0,.int .i64 0,.int .i64 0,.slice none 0 0,.slice none 0 0,.int .i64 0,.slice none 0 0] 40)).alloc (.cells #[.slice a0 dZ dF,.int .i64 b.valid,.int .i64 b.next,.int .i64 b.seq,.slice none 0 0,.slice none 0 0,.int .i64 b.lost] 37))=w0 at *
 clear hw0
 have hN0:N≤w0.heap.size:=by have:=eY.out;omega
 clear eY
 go_loopw [6] (fun i wr=>∃ (k:Nat) (va:Option Addr) (vn vc:Nat),k≤b.ah.length∧i=.int .i64 k∧Hid (Below w.heap.size w wr)∧Hid (wr.heap[w.heap.size]?=some (.cells #[.slice a0 dZ dF,.int .i64 b.valid,.int .i64 b.next,.int .i64 b.seq,.slice a1 b.ah.length gu,.slice a2 b.au.length iP,.int .i64 b.lost] 37 (0,0)))∧Hid (wr.heap[w.heap.size+1]?=some (.cells #[.int .i64 0,.int .i64 0,.slice none 0 0,.int .i64 0,.int .i64 0,.int .i64 0,.slice none 0 0,.slice none 0 0,.int .i64 0,.slice none 0 0] 40 (0,0)))∧Hid (wr.heap[w.heap.size+2]?=some (.cells #[.slice a0 dZ dF,.int .i64 b.valid,.int .i64 b.next,.int .i64 b.seq,.slice va vn vc,.slice none 0 0,.int .i64 b.lost] 37 (0,0)))∧N≤wr.heap.size∧Hid (mZ w wr N wr.heap.size (.slice va vn vc) ((b.ah.take k).filter (fun m:aF=>decide (since < m.seq))))) (fun i _=>b.ah.length - (intOf i).toNat)
 case atStart=>exact ⟨0,none,0,0,Nat.zero_le _,rfl,HB0,NS,xL,HX0,hN0,.inl ⟨rfl,rfl⟩⟩
 case round =>
  clear HB0 NS xL HX0 hN0
  obtain ⟨k,va,vn,vc,hk,rfl,HB,bU,aO,HX,hs,HO⟩:=hrel
  obtain ⟨c0,c1,c2,c3,c4,c5,c6⟩:=bF bU.out
  obtain ⟨y0,y1,y2,y3,y4,y5,y6⟩:=bF HX.out
  have lA:=lt_of_heap bU.out
  have lX:=lt_of_heap HX.out
  by_cases hlt:k < b.ah.length
  ·obtain ⟨x,hx⟩:∃ x,b.ah[k]?=some x:=⟨b.ah[k],aK hlt⟩
   obtain ⟨bb,off,cp,t,hv',hlb,e0,e1,e2,e3,ht,hxi⟩:=bY.cell HMM.out k x hx
   simp only [Value.slice.injEq,true_and] at hv'
   obtain ⟨rfl,rfl⟩:=hv'
   have Ew:Hid (zH w [.int .i64 x.uid,.int .i64 x.flags,.int .i64 x.seq,t] x):=⟨_,rfl,ht,hxi⟩
   obtain ⟨ta,tn,tc,rfl⟩:=ht.aG
   clear ht hxi
   have E0:=e0
   have E1:=e1
   have E2:=e2
   have E3:=e3
   replace e0:=cell_later HB.out e0
   replace e1:=cell_later HB.out e1
   replace e2:=cell_later HB.out e2
   replace e3:=cell_later HB.out e3
   have gB:bb < wr.heap.size:=Nat.lt_of_lt_of_le hlb HB.out.size
   have lK:Hid (b.ah[k]?=some x):=hx
   have hki:(k:Int) < b.ah.length:=by omega
   clear hx
   by_cases hq:since < x.seq
   ·have HQ:Hid (since < x.seq):=hq
    have HS:Hid (∀ w',Below wr.heap.size wr w'→(w'.cell? ⟨w.heap.size+2,4,none⟩=some (.slice va vn vc)∧w'.cell? ⟨w.heap.size,4,none⟩=some (.slice (some ⟨bb,off,none⟩) b.ah.length gu))∧w'.cell? ⟨bb,off+k * 4,none⟩=some (.int .i64 x.uid)∧w'.cell? ⟨bb,off+k * 4+1,none⟩=some (.int .i64 x.flags)∧w'.cell? ⟨bb,off+k * 4+2,none⟩=some (.int .i64 x.seq)∧w'.cell? ⟨bb,off+k * 4+3,none⟩=some (.slice ta tn tc)):=fun w' h=>⟨⟨cell_later h y4,cell_later h c4⟩,cell_later h e0,cell_later h e1,cell_later h e2,cell_later h e3⟩
    have DR:Below wr.heap.size wr wr.drew:=bd _ _
    go_upto_region 8 with fail
    clear c0 c1 c2 c3 c4 c5 c6 y0 y1 y2 y3 y4 y5 y6
    refine eF 9 (S:=fun w'=>(w'.cell? ⟨w.heap.size+2,4,none⟩=some (.slice va vn vc)∧w'.cell? ⟨w.heap.size,4,none⟩=some (.slice (some ⟨bb,off,none⟩) b.ah.length gu))∧w'.cell? ⟨bb,off+k * 4,none⟩=some (.int .i64 x.uid)∧w'.cell? ⟨bb,off+k * 4+1,none⟩=some (.int .i64 x.flags)∧w'.cell? ⟨bb,off+k * 4+2,none⟩=some (.int .i64 x.seq)∧w'.cell? ⟨bb,off+k * 4+3,none⟩=some (.slice ta tn tc)) (eB (by kernel_rfl) YZ) (by kernel_rfl) (HS.out _ DR) (fun aj aks=>?_)
    refine tks 0 0 41 aj aks ?_
    refine tks 1 1 42 aj aks ?_
    refine tks 2 2 43 aj aks ?_
    refine tks 3 3 44 aj aks ?_
    refine tks 4 4 45 aj aks ?_
    refine tks 5 5 46 aj aks ?_
    refine tks 6 6 47 aj aks ?_
    refine cls 7 7 aj (by decide) rfl rfl (fun K hK=>?_)
    go_simp
    have AB:Below wr.heap.size wr (wr.drew.alloc (.cells #[.int .i64 x.uid,.int .i64 x.flags,.int .i64 x.seq,.slice ta tn tc] 124)):=(bd _ _).alloc (Nat.le_refl _) _
    refine hK.out _ _ (HS.out _ AB) (fun aks=>?_)
    clear hK K
    refine cls 8 8 aj (by decide) rfl rfl (fun K hK=>?_)
    have hMs:wr.heap.size≤(wr.drew.alloc (.cells #[.int .i64 x.uid,.int .i64 x.flags,.int .i64 x.seq,.slice ta tn tc] 124)).heap.size:=AB.size
    have lM:F5 w (wr.drew.alloc (.cells #[.int .i64 x.uid,.int .i64 x.flags,.int .i64 x.seq,.slice ta tn tc] 124)) [.int .i64 x.uid,.int .i64 x.flags,.int .i64 x.seq,.slice ta tn tc] x (In wr.heap.size (wr.drew.alloc (.cells #[.int .i64 x.uid,.int .i64 x.flags,.int .i64 x.seq,.slice ta tn tc] 124)).heap.size):=Ew.out
    have hfl:((b.ah.take k).filter (fun m:aF=>decide (since < m.seq))).length≤k:=Nat.le_trans (List.length_filter_le _ _) (by simp;omega)
    have hp1:((b.ah.take k).filter (fun m:aF=>decide (since < m.seq))).length+1≤maxLen:=by unfold maxLen;omega
    have hp2:(((b.ah.take k).filter (fun m:aF=>decide (since < m.seq))).length+1) * 48≤140737488355328:=by omega
    refine dO (by kernel_rfl) (Bd 49 rfl (.tmp 42) (.tmp 48) rfl (Cc w) (B:=N) (M:=wr.heap.size) (Ow.below (Cc w) HO.out AB) hMs hs Tryz.underlying34 hi hz0 hz1 hz2 rfl (by omega) rfl x [.int .i64 x.uid,.int .i64 x.flags,.int .i64 x.seq,.slice ta tn tc] rfl lM ⟨wr.heap.size,0,none⟩ 1 rfl (mO wr.drew _ _) BL hp1 hp2 ?_)
    intro DV wz hO hgz eO
    obtain ⟨da,dn,dc,mX⟩:=sj.aG hO
    subst mX
    clear hfl
    have hge:∀ j,(Value.slice va vn vc).ownBlock=some j→N≤j:=fun j hj=>(eO j hj).1
    have KX:=lF hgz hge (ay AB HX.out) (by omega)
    have nW:=ak (lF hgz hge (ay AB bU.out) (by omega))
    have nX:=ak (lF hgz hge (ay AB aO.out) (by omega))
    have fO:Hid (Below w.heap.size w wz):=rX (Below.step HB.out AB) hgz hge (by omega) (by have:=AB.size;omega)
    have sz:wr.heap.size≤wz.heap.size:=Nat.le_trans AB.size hgz.size
    obtain ⟨zx,zl⟩:=bR KX
    obtain ⟨d0,d1,d2,d3,d4,d5,d6⟩:=bF KX
    refine hK.out _ _ (⟨⟨d4,(bF nW.out).2.2.2.2.1⟩,(cell_later fO.out E0),(cell_later fO.out E1),(cell_later fO.out E2),(cell_later fO.out E3)⟩) (fun aks=>?_)
    clear hK K
    refine gL (S':=fun w'=>True) 9 11 aj (by decide) (trivial) (fun aks=>?_)
    refine tks 9 9 50 aj aks ?_
    refine cls 10 10 aj (by decide) rfl rfl (fun K hK=>?_)
    go_simp
    refine hK.out _ _ (trivial) (fun aks=>?_)
    clear hK K
    refine eG aj ?_
    have uL:Hid ((wz.setCell ⟨w.heap.size+2,4,none⟩ (.slice da dn dc)).heap[w.heap.size+2]?=some (.cells #[.slice a0 dZ dF,.int .i64 b.valid,.int .i64 b.next,.int .i64 b.seq,.slice da dn dc,.slice none 0 0,.int .i64 b.lost] 37 (0,0))):=aP KX
    have yA:=ak (bP (k:=w.heap.size+2) (i:=4) (v:=.slice da dn dc) nW.out (by omega))
    have qp:=ak (bP (k:=w.heap.size+2) (i:=4) (v:=.slice da dn dc) nX.out (by omega))
    have oP:Hid (Below w.heap.size w (wz.setCell ⟨w.heap.size+2,4,none⟩ (.slice da dn dc))):=fO.out.setCell (p:=⟨w.heap.size+2,4,none⟩) (by simp) _
    have hfx:(b.ah.take (k+1)).filter (fun m:aF=>decide (since < m.seq))=(b.ah.take k).filter (fun m:aF=>decide (since < m.seq)) ++ [x]:=by rw [yu lK.out,List.filter_append];simp [HQ.out]
    have oQ:Hid (mZ w (wz.setCell ⟨w.heap.size+2,4,none⟩ (.slice da dn dc)) N (wz.setCell ⟨w.heap.size+2,4,none⟩ (.slice da dn dc)).heap.size (.slice da dn dc) ((b.ah.take (k+1)).filter (fun m:aF=>decide (since < m.seq)))):=by show mZ w _ _ _ _ _;rw [aZ,hfx];exact Qb hO (.inl (by omega))
    have qw:N≤(wz.setCell ⟨w.heap.size+2,4,none⟩ (.slice da dn dc)).heap.size:=by rw [aZ];have:=AB.size;omega
    clear KX nW nX fO HX bU aO HB HO lM hO hgz eO hge AB DR HS Ew hfx e0 E0 e1 E1 e2 E2 e3 E3
    go_wp2
    go_roundw
    case rel=>exact ⟨k+1,da,dn,dc,by omega,by go_num,oP,yA,qp,uL,qw,oQ⟩
    case measure=>simp [intOf];omega
   ·have hfx:(b.ah.take (k+1)).filter (fun m:aF=>decide (since < m.seq))=(b.ah.take k).filter (fun m:aF=>decide (since < m.seq)):=by rw [yu lK.out,List.filter_append];simp [hq]
    have oQ:Hid (mZ w wr N wr.heap.size (.slice va vn vc) ((b.ah.take (k+1)).filter (fun m:aF=>decide (since < m.seq)))):=by show mZ w _ _ _ _ _;rw [hfx];exact HO.out
    clear hfx HO
    go_wp2
    go_roundw
    case rel=>exact ⟨k+1,va,vn,vc,by omega,by go_num,HB,bU,aO,HX,hs,oQ⟩
    case measure=>simp [intOf];omega
  ·obtain rfl:k=b.ah.length:=by omega
   have VQ:=HB
   have VR:=bU
   have VT:=aO
   have VU:=HX
   have NU:Hid (mZ w wr N wr.heap.size (.slice va vn vc) (b.ah.filter (fun m:aF=>decide (since < m.seq)))):=by have h:=HO.out;rw [List.take_length] at h;exact h
   obtain ⟨M1,hM1⟩:∃ M,M=wr.heap.size:=⟨_,rfl⟩
   clear HO
   go_wp2
   clear c0 c1 c2 c3 c4 c5 c6 y0 y1 y2 y3 y4 y5 y6 HB bU aO HX
   rw [← hM1] at NU
   have hMN:N≤M1:=by omega
   clear hs
   go_loopw [7] (fun i wr=>∃ (k:Nat) (ga:Option Addr) (gn gc:Nat),k≤b.au.length∧i=.int .i64 k∧Hid (Below w.heap.size w wr)∧Hid (wr.heap[w.heap.size]?=some (.cells #[.slice a0 dZ dF,.int .i64 b.valid,.int .i64 b.next,.int .i64 b.seq,.slice a1 b.ah.length gu,.slice a2 b.au.length iP,.int .i64 b.lost] 37 (0,0)))∧Hid (wr.heap[w.heap.size+1]?=some (.cells #[.int .i64 0,.int .i64 0,.slice none 0 0,.int .i64 0,.int .i64 0,.int .i64 0,.slice none 0 0,.slice none 0 0,.int .i64 0,.slice none 0 0] 40 (0,0)))∧Hid (wr.heap[w.heap.size+2]?=some (.cells #[.slice a0 dZ dF,.int .i64 b.valid,.int .i64 b.next,.int .i64 b.seq,.slice va vn vc,.slice ga gn gc,.int .i64 b.lost] 37 (0,0)))∧M1≤wr.heap.size∧Hid (mZ w wr N M1 (.slice va vn vc) (b.ah.filter (fun m:aF=>decide (since < m.seq))))∧Hid (l8 wr M1 wr.heap.size (.slice ga gn gc) ((b.au.take k).filter (fun m:bf=>decide (since < m.seq))))) (fun i _=>b.au.length - (intOf i).toNat)
   case atStart=>exact ⟨0,none,0,0,Nat.zero_le _,rfl,VQ,VR,VT,VU,(show M1≤wr.heap.size by omega),NU,.inl ⟨rfl,rfl⟩⟩
   case round =>
    obtain ⟨k,ga,gn,gc,hk,rfl,HB,bU,aO,HX,hs,Ey,HO⟩:=hrel
    clear VQ VR VT VU NU
    obtain ⟨c0,c1,c2,c3,c4,c5,c6⟩:=bF bU.out
    obtain ⟨y0,y1,y2,y3,y4,y5,y6⟩:=bF HX.out
    have lA:=lt_of_heap bU.out
    have lX:=lt_of_heap HX.out
    by_cases hlt:k < b.au.length
    ·obtain ⟨x,hx⟩:∃ x,b.au[k]?=some x:=⟨b.au[k],aK hlt⟩
     obtain ⟨bb,off,cp,hv',hlb,e0,e1,hxi⟩:=bO.cell HGG.out k x hx
     simp only [Value.slice.injEq,true_and] at hv'
     obtain ⟨rfl,rfl⟩:=hv'
     have Ew:Hid (aB x.uid∧aB x.seq):=hxi
     clear hxi
     have E0:=e0
     have E1:=e1
     replace e0:=cell_later HB.out e0
     replace e1:=cell_later HB.out e1
     have gB:bb < wr.heap.size:=Nat.lt_of_lt_of_le hlb HB.out.size
     have lK:Hid (b.au[k]?=some x):=hx
     have hki:(k:Int) < b.au.length:=by omega
     clear hx
     by_cases hq:since < x.seq
     ·have HQ:Hid (since < x.seq):=hq
      have HS:Hid (∀ w',Below wr.heap.size wr w'→(w'.cell? ⟨w.heap.size+2,5,none⟩=some (.slice ga gn gc)∧w'.cell? ⟨w.heap.size,5,none⟩=some (.slice (some ⟨bb,off,none⟩) b.au.length iP))∧w'.cell? ⟨bb,off+k * 2,none⟩=some (.int .i64 x.uid)∧w'.cell? ⟨bb,off+k * 2+1,none⟩=some (.int .i64 x.seq)):=fun w' h=>⟨⟨cell_later h y5,cell_later h c5⟩,cell_later h e0,cell_later h e1⟩
      have DR:Below wr.heap.size wr wr.drew:=bd _ _
      go_upto_region 13 with fail
      clear c0 c1 c2 c3 c4 c5 c6 y0 y1 y2 y3 y4 y5 y6
      refine eF 9 (S:=fun w'=>(w'.cell? ⟨w.heap.size+2,5,none⟩=some (.slice ga gn gc)∧w'.cell? ⟨w.heap.size,5,none⟩=some (.slice (some ⟨bb,off,none⟩) b.au.length iP))∧w'.cell? ⟨bb,off+k * 2,none⟩=some (.int .i64 x.uid)∧w'.cell? ⟨bb,off+k * 2+1,none⟩=some (.int .i64 x.seq)) (eB (by kernel_rfl) Y0) (by kernel_rfl) (HS.out _ DR) (fun aj aks=>?_)
      refine tks 0 0 66 aj aks ?_
      refine tks 1 1 67 aj aks ?_
      refine tks 2 2 68 aj aks ?_
      refine tks 3 3 69 aj aks ?_
      refine tks 4 4 70 aj aks ?_
      refine tks 5 5 71 aj aks ?_
      refine tks 6 6 72 aj aks ?_
      refine cls 7 7 aj (by decide) rfl rfl (fun K hK=>?_)
      go_simp
      have AB:Below wr.heap.size wr (wr.drew.alloc (.cells #[.int .i64 x.uid,.int .i64 x.seq] 126)):=(bd _ _).alloc (Nat.le_refl _) _
      refine hK.out _ _ (HS.out _ AB) (fun aks=>?_)
      clear hK K
      refine cls 8 8 aj (by decide) rfl rfl (fun K hK=>?_)
      have hMs:wr.heap.size≤(wr.drew.alloc (.cells #[.int .i64 x.uid,.int .i64 x.seq] 126)).heap.size:=AB.size
      have lM:vV (wr.drew.alloc (.cells #[.int .i64 x.uid,.int .i64 x.seq] 126)) [.int .i64 x.uid,.int .i64 x.seq] x (In wr.heap.size (wr.drew.alloc (.cells #[.int .i64 x.uid,.int .i64 x.seq] 126)).heap.size):=⟨rfl,Ew.out⟩
      have hfl:((b.au.take k).filter (fun m:bf=>decide (since < m.seq))).length≤k:=Nat.le_trans (List.length_filter_le _ _) (by simp;omega)
      have hp1:((b.au.take k).filter (fun m:bf=>decide (since < m.seq))).length+1≤maxLen:=by unfold maxLen;omega
      have hp2:(((b.au.take k).filter (fun m:bf=>decide (since < m.seq))).length+1) * 16≤140737488355328:=by omega
      refine dO (by kernel_rfl) (Bd 74 rfl (.tmp 67) (.tmp 73) rfl jB (B:=M1) (M:=wr.heap.size) (Ow.below jB HO.out AB) hMs hs Tryz.underlying35 hj hy0 hy1 hy2 rfl (by omega) rfl x [.int .i64 x.uid,.int .i64 x.seq] rfl lM ⟨wr.heap.size,0,none⟩ 1 rfl (mO wr.drew _ _) F4 hp1 hp2 ?_)
      intro DV wz hO hgz eO
      obtain ⟨da,dn,dc,mX⟩:=sj.aG hO
      subst mX
      clear hfl
      have hge:∀ j,(Value.slice ga gn gc).ownBlock=some j→M1≤j:=fun j hj=>(eO j hj).1
      have KX:=lF hgz hge (ay AB HX.out) (by omega)
      have nW:=ak (lF hgz hge (ay AB bU.out) (by omega))
      have nX:=ak (lF hgz hge (ay AB aO.out) (by omega))
      have fO:Hid (Below w.heap.size w wz):=rX (Below.step HB.out AB) hgz hge (by omega) (by have:=AB.size;omega)
      have VW:Hid (mZ w wz N M1 (.slice va vn vc) (b.ah.filter (fun m:aF=>decide (since < m.seq)))):=YW (Ow.below (Cc w) Ey.out AB) hgz hge
      have sz:wr.heap.size≤wz.heap.size:=Nat.le_trans AB.size hgz.size
      obtain ⟨zx,zl⟩:=bR KX
      obtain ⟨d0,d1,d2,d3,d4,d5,d6⟩:=bF KX
      refine hK.out _ _ (⟨⟨d5,(bF nW.out).2.2.2.2.2.1⟩,(cell_later fO.out E0),(cell_later fO.out E1)⟩) (fun aks=>?_)
      clear hK K
      refine gL (S':=fun w'=>True) 9 11 aj (by decide) (trivial) (fun aks=>?_)
      refine tks 9 9 75 aj aks ?_
      refine cls 10 10 aj (by decide) rfl rfl (fun K hK=>?_)
      go_simp
      refine hK.out _ _ (trivial) (fun aks=>?_)
      clear hK K
      refine eG aj ?_
      have uL:Hid ((wz.setCell ⟨w.heap.size+2,5,none⟩ (.slice da dn dc)).heap[w.heap.size+2]?=some (.cells #[.slice a0 dZ dF,.int .i64 b.valid,.int .i64 b.next,.int .i64 b.seq,.slice va vn vc,.slice da dn dc,.int .i64 b.lost] 37 (0,0))):=aP KX
      have yA:=ak (bP (k:=w.heap.size+2) (i:=5) (v:=.slice da dn dc) nW.out (by omega))
      have qp:=ak (bP (k:=w.heap.size+2) (i:=5) (v:=.slice da dn dc) nX.out (by omega))
      have oP:Hid (Below w.heap.size w (wz.setCell ⟨w.heap.size+2,5,none⟩ (.slice da dn dc))):=fO.out.setCell (p:=⟨w.heap.size+2,5,none⟩) (by simp) _
      have hfx:(b.au.take (k+1)).filter (fun m:bf=>decide (since < m.seq))=(b.au.take k).filter (fun m:bf=>decide (since < m.seq)) ++ [x]:=by rw [yu lK.out,List.filter_append];simp [HQ.out]
      have oQ:Hid (l8 (wz.setCell ⟨w.heap.size+2,5,none⟩ (.slice da dn dc)) M1 (wz.setCell ⟨w.heap.size+2,5,none⟩ (.slice da dn dc)).heap.size (.slice da dn dc) ((b.au.take (k+1)).filter (fun m:bf=>decide (since < m.seq)))):=by show l8 _ _ _ _ _;rw [aZ,hfx];exact bE.set hO (.inl (by omega))
      have afn:Hid (mZ w (wz.setCell ⟨w.heap.size+2,5,none⟩ (.slice da dn dc)) N M1 (.slice va vn vc) (b.ah.filter (fun m:aF=>decide (since < m.seq)))):=Qb VW.out (.inl (by omega))
      have qw:M1≤(wz.setCell ⟨w.heap.size+2,5,none⟩ (.slice da dn dc)).heap.size:=by rw [aZ];have:=AB.size;omega
      clear KX nW nX fO HX bU aO HB HO lM hO hgz eO hge AB DR HS Ew hfx e0 E0 e1 E1 Ey VW
      go_wp2
      go_roundw
      case rel=>exact ⟨k+1,da,dn,dc,by omega,by go_num,oP,yA,qp,uL,qw,afn,oQ⟩
      case measure=>simp [intOf];omega
     ·have hfx:(b.au.take (k+1)).filter (fun m:bf=>decide (since < m.seq))=(b.au.take k).filter (fun m:bf=>decide (since < m.seq)):=by rw [yu lK.out,List.filter_append];simp [hq]
      have oQ:Hid (l8 wr M1 wr.heap.size (.slice ga gn gc) ((b.au.take (k+1)).filter (fun m:bf=>decide (since < m.seq)))):=by show l8 _ _ _ _ _;rw [hfx];exact HO.out
      clear hfx HO
      go_wp2
      go_roundw
      case rel=>exact ⟨k+1,ga,gn,gc,by omega,by go_num,HB,bU,aO,HX,hs,Ey,oQ⟩
      case measure=>simp [intOf];omega
    ·obtain rfl:k=b.au.length:=by omega
     have VX:Hid (l8 wr M1 wr.heap.size (.slice ga gn gc) (b.au.filter (fun m:bf=>decide (since < m.seq)))):=by have h:=HO.out;rw [List.take_length] at h;exact h
     have jC:Hid (bK wr (.agg #[.slice a0 dZ dF,.int .i64 b.valid,.int .i64 b.next,.int .i64 b.seq,.slice va vn vc,.slice ga gn gc,.int .i64 b.lost]) (cZ b since)):=⟨_,_,_,rfl,mo.out wr HB.out,mZ.v Ey.out HB.out,Ow.rd (fun _ _ _ _ h=>h) VX.out,wB.out⟩
     clear HO
     go_wp2_with fail
     refine (Jp _ (cZ b since) _ jC.out GQ.out).mono ?_
     rintro e w9 ⟨u,rfl,⟨cs,hcs,hE⟩,B9⟩
     subst hcs
     obtain ⟨o0,iy,jD,o1,iA,jE,o2,iB,jF,rfl⟩:=JH hE
     have Ip:=ay B9 aO.out
     have oP:Hid (Below w.heap.size w w9):=Below.step HB.out B9
     have HBw:Hid (w.heap.size≤wr.heap.size):=HB.out.size
     have HE9:Hid (vU w9 [.slice o0 iy jD,.int .i64 (cZ b since).valid,.int .i64 (cZ b since).next,.int .i64 (cZ b since).seq,.slice o1 iA jE,.slice o2 iB jF,.int .i64 (cZ b since).lost] (cZ b since)):=hE.rd
     have VY:Hid (dh w9 [.slice o0 iy jD,.int .i64 (cZ b since).valid,.int .i64 (cZ b since).next,.int .i64 (cZ b since).seq,.slice o1 iA jE,.slice o2 iB jF,.int .i64 (cZ b since).lost] (cZ b since) (In wr.heap.size w9.heap.size)):=hE
     obtain ⟨r0,r1,r2,r3,r4,r5,r6,r7,r8,r9⟩:=aM Ip
     obtain ⟨rz,rl⟩:=bR Ip
     have KF:=(aP (i:=9) (v:=.slice none 0 0) (aP (i:=8) (v:=.int .i64 (cZ b since).lost) (aP (i:=7) (v:=.slice o2 iB jF) (aP (i:=6) (v:=.slice o1 iA jE) (aP (i:=5) (v:=.int .i64 (cZ b since).seq) (aP (i:=4) (v:=.int .i64 (cZ b since).next) (aP (i:=3) (v:=.int .i64 (cZ b since).valid) (aP (i:=2) (v:=.slice o0 iy jD) (aP (i:=1) (v:=.int .i64 0) (aP (i:=0) (v:=.int .i64 0) Ip))))))))))
     have ff:=aM KF
     have HBf:Hid (Below w.heap.size w ((((((((((w9.setCell ⟨w.heap.size+1,0,none⟩ (.int .i64 0)).setCell ⟨w.heap.size+1,1,none⟩ (.int .i64 0)).setCell ⟨w.heap.size+1,2,none⟩ (.slice o0 iy jD)).setCell ⟨w.heap.size+1,3,none⟩ (.int .i64 (cZ b since).valid)).setCell ⟨w.heap.size+1,4,none⟩ (.int .i64 (cZ b since).next)).setCell ⟨w.heap.size+1,5,none⟩ (.int .i64 (cZ b since).seq)).setCell ⟨w.heap.size+1,6,none⟩ (.slice o1 iA jE)).setCell ⟨w.heap.size+1,7,none⟩ (.slice o2 iB jF)).setCell ⟨w.heap.size+1,8,none⟩ (.int .i64 (cZ b since).lost)).setCell ⟨w.heap.size+1,9,none⟩ (.slice none 0 0))):=((((((((((oP.out.setCell (p:=⟨w.heap.size+1,0,none⟩) (by simp) (.int .i64 0)).setCell (p:=⟨w.heap.size+1,1,none⟩) (by simp) (.int .i64 0)).setCell (p:=⟨w.heap.size+1,2,none⟩) (by simp) (.slice o0 iy jD)).setCell (p:=⟨w.heap.size+1,3,none⟩) (by simp) (.int .i64 (cZ b since).valid)).setCell (p:=⟨w.heap.size+1,4,none⟩) (by simp) (.int .i64 (cZ b since).next)).setCell (p:=⟨w.heap.size+1,5,none⟩) (by simp) (.int .i64 (cZ b since).seq)).setCell (p:=⟨w.heap.size+1,6,none⟩) (by simp) (.slice o1 iA jE)).setCell (p:=⟨w.heap.size+1,7,none⟩) (by simp) (.slice o2 iB jF)).setCell (p:=⟨w.heap.size+1,8,none⟩) (by simp) (.int .i64 (cZ b since).lost)).setCell (p:=⟨w.heap.size+1,9,none⟩) (by simp) (.slice none 0 0))
     have HEf:Hid (dh ((((((((((w9.setCell ⟨w.heap.size+1,0,none⟩ (.int .i64 0)).setCell ⟨w.heap.size+1,1,none⟩ (.int .i64 0)).setCell ⟨w.heap.size+1,2,none⟩ (.slice o0 iy jD)).setCell ⟨w.heap.size+1,3,none⟩ (.int .i64 (cZ b since).valid)).setCell ⟨w.heap.size+1,4,none⟩ (.int .i64 (cZ b since).next)).setCell ⟨w.heap.size+1,5,none⟩ (.int .i64 (cZ b since).seq)).setCell ⟨w.heap.size+1,6,none⟩ (.slice o1 iA jE)).setCell ⟨w.heap.size+1,7,none⟩ (.slice o2 iB jF)).setCell ⟨w.heap.size+1,8,none⟩ (.int .i64 (cZ b since).lost)).setCell ⟨w.heap.size+1,9,none⟩ (.slice none 0 0)) [.slice o0 iy jD,.int .i64 (cZ b since).valid,.int .i64 (cZ b since).next,.int .i64 (cZ b since).seq,.slice o1 iA jE,.slice o2 iB jF,.int .i64 (cZ b since).lost] (cZ b since) (In wr.heap.size w9.heap.size)):=(dh.set (g:=w.heap.size+1) (i:=9) (x:=.slice none 0 0) (dh.set (g:=w.heap.size+1) (i:=8) (x:=.int .i64 (cZ b since).lost) (dh.set (g:=w.heap.size+1) (i:=7) (x:=.slice o2 iB jF) (dh.set (g:=w.heap.size+1) (i:=6) (x:=.slice o1 iA jE) (dh.set (g:=w.heap.size+1) (i:=5) (x:=.int .i64 (cZ b since).seq) (dh.set (g:=w.heap.size+1) (i:=4) (x:=.int .i64 (cZ b since).next) (dh.set (g:=w.heap.size+1) (i:=3) (x:=.int .i64 (cZ b since).valid) (dh.set (g:=w.heap.size+1) (i:=2) (x:=.slice o0 iy jD) (dh.set (g:=w.heap.size+1) (i:=1) (x:=.int .i64 0) (dh.set (g:=w.heap.size+1) (i:=0) (x:=.int .i64 0) VY.out (.inl (by omega))) (.inl (by omega))) (.inl (by omega))) (.inl (by omega))) (.inl (by omega))) (.inl (by omega))) (.inl (by omega))) (.inl (by omega))) (.inl (by omega))) (.inl (by omega)))
     clear KF Ip hE B9 c0 c1 c2 c3 c4 c5 c6 y0 y1 y2 y3 y4 y5 y6 HB bU aO HX HE9 VY jC VX Ey
     go_wp2
     refine bodyPost_ret (v:=.agg #[.int .i64 0,.int .i64 0,.slice o0 iy jD,.int .i64 (cZ b since).valid,.int .i64 (cZ b since).next,.int .i64 (cZ b since).seq,.slice o1 iA jE,.slice o2 iB jF,.int .i64 (cZ b since).lost,.slice none 0 0]) (by simp [results,Tryz.results61,go_sem,ff]) rfl ⟨_,rfl,?_,HBf.out⟩
     rw [HC.out]
     refine ⟨fun w' hs' hk'=>?_,_,_,_,_,_,_,_,_,_,_,rfl,.inl ⟨rfl,rfl⟩⟩
     obtain ⟨z0,z1,z2,ez,zz⟩:=(gq _ _ _ _ _ HEf.out fun k h1 h2=>hk' k (Nat.le_trans HBw.out h1.1) h2).rd
     simp only [List.cons.injEq,and_true,true_and] at ez
     obtain ⟨rfl,rfl,rfl⟩:=ez
     exact ⟨_,_,_,_,rfl,⟨_,_,_,rfl,zz⟩,Rd.nil _,aI,aI⟩
end Go.Proofs.YtlneebmlhblleaaGreat
