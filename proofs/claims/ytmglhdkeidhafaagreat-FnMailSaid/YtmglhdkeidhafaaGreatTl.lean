/- The proof's texts, part 21. -/
import Derived.Test.YtmglhdkeidhafaaGreatTj
import Derived.Test.YtmglhdkeidhafaaGreatTi
import Derived.Test.YtmglhdkeidhafaaGreatTk
import Derived.Deep.CutBlock
namespace Go.Proofs.YtmglhdkeidhafaaGreat
open Go.RowKit
set_option linter.unusedVariables false
set_option linter.unusedSimpArgs false
set_option maxHeartbeats 8000000
set_option maxRecDepth 100000
/- What PU of package spec does where it creates a box. -/
/-- A box's variable is filled. -/
theorem JI {w0 x:World} {X:Nat} {S:Nat→Prop} {v:Value} {nm:List Int} (hk:x.heap[X]?=some (.cells #[.slice none 0 0,.int .i64 0,.int .i64 0,.int .i64 0,.slice none 0 0,.slice none 0 0,.int .i64 0] 34 (0,0))) (hD:Below w0.heap.size w0 x) (hX:w0.heap.size≤X) (hR:RO x S v nm) (c0 c1 c2 c3 c4 c5 c6:Value) :
  (((((((x.setCell ⟨X,0,none⟩ c0).setCell ⟨X,1,none⟩ c1).setCell ⟨X,2,none⟩ c2).setCell ⟨X,3,none⟩ c3).setCell ⟨X,4,none⟩ c4).setCell ⟨X,5,none⟩ c5).setCell ⟨X,6,none⟩ c6).heap[X]?=some (.cells #[c0,c1,c2,c3,c4,c5,c6] 34 (0,0))∧Below w0.heap.size w0 (((((((x.setCell ⟨X,0,none⟩ c0).setCell ⟨X,1,none⟩ c1).setCell ⟨X,2,none⟩ c2).setCell ⟨X,3,none⟩ c3).setCell ⟨X,4,none⟩ c4).setCell ⟨X,5,none⟩ c5).setCell ⟨X,6,none⟩ c6)∧RO (((((((x.setCell ⟨X,0,none⟩ c0).setCell ⟨X,1,none⟩ c1).setCell ⟨X,2,none⟩ c2).setCell ⟨X,3,none⟩ c3).setCell ⟨X,4,none⟩ c4).setCell ⟨X,5,none⟩ c5).setCell ⟨X,6,none⟩ c6) S v nm:=by
 refine ⟨(aJ (i:=6) (v:=c6) (aJ (i:=5) (v:=c5) (aJ (i:=4) (v:=c4) (aJ (i:=3) (v:=c3) (aJ (i:=2) (v:=c2) (aJ (i:=1) (v:=c1) (aJ (i:=0) (v:=c0) hk))))))),(((((((hD.setCell (p:=⟨X,0,none⟩) hX c0).setCell (p:=⟨X,1,none⟩) hX c1).setCell (p:=⟨X,2,none⟩) hX c2).setCell (p:=⟨X,3,none⟩) hX c3).setCell (p:=⟨X,4,none⟩) hX c4).setCell (p:=⟨X,5,none⟩) hX c5).setCell (p:=⟨X,6,none⟩) hX c6),jP hR fun k hT=>?_⟩
 have hne:k≠X:=fun e=>by subst e;exact dO hk hT (by decide)
 rw [Below.heap_setCell _ _ _ _ (show k≠X from hne),Below.heap_setCell _ _ _ _ (show k≠X from hne),Below.heap_setCell _ _ _ _ (show k≠X from hne),Below.heap_setCell _ _ _ _ (show k≠X from hne),Below.heap_setCell _ _ _ _ (show k≠X from hne),Below.heap_setCell _ _ _ _ (show k≠X from hne),Below.heap_setCell _ _ _ _ (show k≠X from hne)]
/-- The two parts of an IB boxes, as values. -/
theorem Y0 {w:World} {S:Nat→Prop} {v:Value} {l:List aA} {k:Nat} (h:iK w S v l) (hk:k≤l.length):∃ V1 V3 n3 CL,sw w V1 k 7 (CL.take (k * 7))∧(∀ w',Below w.heap.size w w'→sw w' V3 n3 7 (CL.drop (k * 7)))∧EL 7 iE w l S CL∧l.length=k+n3 ∧
  ((v=.slice none 0 0∧V1=.slice none 0 0∧V3=.slice none 0 0∧n3=0∧k=0)∨∃ g cap,v=.slice (some ⟨g,0,none⟩) l.length cap∧l.length≤cap∧g < w.heap.size∧V1=.slice (some ⟨g,0,none⟩) k cap∧((k < cap∧n3=l.length - k∧V3=.slice (some ⟨g,k * 7,none⟩) (l.length - k) (cap - k))∨(k=l.length∧cap=l.length∧n3=0∧V3=.slice (some ⟨g,0,none⟩) 0 0))):=by
 rcases Ow.el h with ⟨rfl,rfl⟩ | ⟨g,cap,cur,rfl,hh,h1,h2,h3,hS,hel⟩
 ·obtain rfl:k=0:=by simpa using hk
  exact ⟨_,_,0,[],.inl ⟨rfl,rfl,rfl⟩,fun _ _=>.inl ⟨rfl,rfl,rfl⟩,(rfl:([]:List Value)=[]),rfl,.inl ⟨rfl,rfl,rfl,rfl,rfl⟩⟩
 ·have hs:l.length * 7≤cur.size:=by omega
  by_cases hc:k < cap
  ·exact ⟨_,_,l.length - k,_,EN hh hs hk cap,fun w' hb=>PE ((hb.block g (lt_of_heap hh)).trans hh) hs hk (cap - k),hel.mono fun k h=>h.1,by omega,.inr ⟨g,cap,rfl,h1,lt_of_heap hh,rfl,.inl ⟨hc,rfl,rfl⟩⟩⟩
  ·obtain rfl:k=l.length:=by omega
   obtain rfl:cap=l.length:=by omega
   exact ⟨_,_,0,_,EN hh hs hk _,fun w' _=>PG w' g l.length cur 0,hel.mono fun k h=>h.1,by omega,.inr ⟨g,_,rfl,h1,lt_of_heap hh,rfl,.inr ⟨rfl,rfl,rfl,rfl⟩⟩⟩
theorem Y1 (ga:Nat) (a:aF) (S:Nat→Prop) (nv:Value) (nm:List Int) (w:World) (hp:aS w S ga a) (hst:∀ w',w.heap.size≤w'.heap.size→bD w w' 5→Bs w' nv nm) (hnl:nm.length≤2000000) (hbl:a.boxes.length≤2000000) (hf:bC (fun x:aA=>decide (x.name=nm)) a.boxes < 0) (h4:¬ 4≤a.boxes.length) (hv:¬ 1000000≤a.valid) :
  Calls Tryz.prog 86 #[.pointer (some ⟨ga,0,none⟩),nv] w fun e w'=>∃ u S',e=.returned u∧je w' u (aN 0 (a.valid+1))∧aR w w' S ga∧aS w' S' ga ⟨a.valid+1,a.boxes.takeWhile (fun x:aA=>bV x.name nm) ++ (⟨nm,a.valid+1,1,0,[],[],0⟩ :: a.boxes.dropWhile (fun x:aA=>bV x.name nm)),a.seen⟩∧∀ k,S' k→S k∨w.heap.size≤k:=by
 obtain ⟨S0,iM⟩:∃ S0:Nat→Prop,S0=fun k=>S k∧k < w.heap.size:=⟨_,rfl⟩
 have eB:Hid (∀ k,S0 k→S k):=by subst iM;exact fun k h=>h.1
 have HSL:Hid (∀ k,S0 k→k < w.heap.size):=by subst iM;exact fun k h=>h.2
 have HP:Hid (∀ w',Below w.heap.size w w'→aS w' S0 ga a):=by subst iM;exact fun w' h=>hp.cut.below h
 clear iM
 have iL:=hst w (Nat.le_refl _) (bD.refl _ _)
 have vQ:Hid (Oct nm):=iL.1
 have HST:Hid (∀ w',w.heap.size≤w'.heap.size→bD w w' 5→Bs w' nv nm):=hst
 clear hst
 have HN:Hid (∀ w',Below w.heap.size w w'→Bs w' nv nm):=fun w' h=>iL.below h
 have bE:=hp.lt
 obtain ⟨q0,q1,q2,rfl⟩:=iL.aG
 clear hp iL
 have HB:Hid (Below w.heap.size w (w.alloc (.cells #[.int .i64 0,.int .i64 0,.slice none 0 0,.int .i64 0,.int .i64 0,.int .i64 0,.slice none 0 0,.slice none 0 0,.int .i64 0,.slice none 0 0] 37))):=bn _ _
 have HK:Hid ((w.alloc (.cells #[.int .i64 0,.int .i64 0,.slice none 0 0,.int .i64 0,.int .i64 0,.int .i64 0,.slice none 0 0,.slice none 0 0,.int .i64 0,.slice none 0 0] 37)).heap[w.heap.size]?=some (.cells #[.int .i64 0,.int .i64 0,.slice none 0 0,.int .i64 0,.int .i64 0,.int .i64 0,.slice none 0 0,.slice none 0 0,.int .i64 0,.slice none 0 0] 37 (0,0))):=aW w _
 go_enter Tryz.func86,Tryz.ntmps86
 go_upto_region 1 with fail
 generalize w.alloc (.cells #[.int .i64 0,.int .i64 0,.slice none 0 0,.int .i64 0,.int .i64 0,.int .i64 0,.slice none 0 0,.slice none 0 0,.int .i64 0,.slice none 0 0] 37)=W at HB HK ⊢
 obtain ⟨u0,u1,c0,c1,c2,hb,hv⟩:=(HP.out W HB.out).cells
 have hl2:ga < W.heap.size:=Nat.lt_of_lt_of_le bE HB.out.size
 have HV:Hid _:=hv
 obtain ⟨e0,e1,rfl,-⟩:=hb.v.form
 clear hb hv
 go_wp2_with fail
 refine (uj _ _ a nm _ HV.out (HN.out _ HB.out) hbl).mono ?_
 rintro e w1 ⟨rfl,B1⟩
 have HB1:Hid (Below w.heap.size w w1):=Below.step HB.out B1
 have gW:Hid _:=aB B1 HK.out
 have d0:w1.cell? ⟨ga,0,none⟩=some (.int .i64 a.valid):=(B1.cell (p:=⟨ga,0,none⟩) hl2).trans c0
 have d1:w1.cell? ⟨ga,1,none⟩=some (.slice e0 a.boxes.length e1):=(B1.cell (p:=⟨ga,1,none⟩) hl2).trans c1
 have hl3:ga < w1.heap.size:=Nat.lt_of_lt_of_le hl2 B1.size
 clear B1 HK c0 c1 c2 HV HN
 generalize bC (fun x:aA=>decide (x.name=nm)) a.boxes=fi at *
 have PV:(a.boxes.length:Int) < 4:=by omega
 have HA1:Hid (aS w1 S0 ga a):=HP.out w1 HB1.out
 have hvl:(-9223372036854775808:Int)≤a.valid:=by
  obtain ⟨-,-,-,-,-,-,r⟩:=HA1.out
  exact r.1
 have hv64:ay (a.valid+1):=⟨by omega,by omega⟩
 have Qm:Hid (ay (a.valid+1)):=hv64
 have fz:=HA1.out.open
 have HA2:Hid (aS (w1.setCell ⟨ga,0,none⟩ (.int .i64 (a.valid+1))) S0 ga ⟨a.valid+1,a.boxes,a.seen⟩):=HA1.out.zw hv64
 have HT2:Hid (aR w (w1.setCell ⟨ga,0,none⟩ (.int .i64 (a.valid+1))) S0 ga):=(aR.below (S:=S0) HB1.out).trans (aR.set (S:=S0) HA1.out) (fun k h=>.inl h)
 have dB:Hid _:=cO (k:=ga) (i:=0) (v:=.int .i64 (a.valid+1)) gW.out (by omega)
 have hs2:(w1.setCell ⟨ga,0,none⟩ (.int .i64 (a.valid+1))).heap.size=w1.heap.size:=bf
 have hs1:w.heap.size < w1.heap.size:=lt_of_heap gW.out
 clear hv64
 go_upto_region 6 with fail
 generalize w1.setCell ⟨ga,0,none⟩ (.int .i64 (a.valid+1))=w0 at HA2 HT2 dB hs2 ⊢
 clear d0 d1 fz HA1 HB1 gW HP HB
 have lH:Hid (∀ w',Below w0.heap.size w0 w'→Bs w' (.slice q0 q1 q2) nm):=fun w' h=>HST.out w' (Nat.le_trans HT2.out.1 h.size) (HT2.out.2.2.1.trans (fU h))
 clear HST
 have agf:ga < w0.heap.size:=HA2.out.lt
 obtain ⟨v0,v1,k0,k1,-,hbq,-⟩:=HA2.out.cells
 have uG:Hid (w0.cell? ⟨ga,0,none⟩=some (.int .i64 (a.valid+1))):=k0
 have dH:Hid (w0.cell? ⟨ga,1,none⟩=some v0):=k1
 have sJ:Hid (iK w0 S0 v0 a.boxes):=hbq
 have HS:Hid (∀ w',Below w0.heap.size w0 w'→w'.cell? ⟨ga,0,none⟩=some (.int .i64 (a.valid+1))):=fun w' h=>cell_later h uG.out
 obtain ⟨i0,hi,hz0,hz1,hz2⟩:=info_parts xq
 obtain ⟨i1,hj,hy0,hy1,hy2⟩:=info_parts info5
 have hl3:nm.length≤maxLen:=by unfold maxLen;omega
 have hl4:nm.length * 1≤140737488355328:=by omega
 obtain ⟨N,hNe⟩:∃ N,N=w0.heap.size:=⟨_,rfl⟩
 have rM:Hid (N=w0.heap.size):=hNe
 have Qn:N≤w0.heap.size:=by omega
 clear k0 k1 hbq hNe hs2
 go_cut [5] (fun s wx=>∃ bx na nn nc,s=.pointer (some ⟨bx,0,none⟩)∧Hid (wx.heap[bx]?=some (.cells #[.slice na nn nc,.int .i64 (a.valid+1),.int .i64 1,.int .i64 0,.slice none 0 0,.slice none 0 0,.int .i64 0] 34 (0,0)))∧Hid (RO wx (fun k=>N≤k) (.slice na nn nc) nm)∧N≤bx∧Hid (Below w0.heap.size w0 wx))
 case first =>
  have hN0:N≤w0.drew.heap.size:=Qn
  have D0:Hid (Below w0.heap.size w0 w0.drew):=(bd _ _)
  refine wp_region_held_drew (S:=fun w'=>w'.cell? ⟨ga,0,none⟩=some (.int .i64 (a.valid+1))) (by kernel_rfl) (HS.out _ D0.out) (fun ahz=>(show wpAnyH _ _ _ _ _ 10 #[false,false,false,false,false,false,false,false,false,false] _ _ from ?_))
  refine tq 1 37 ahz ?_
  refine tq 3 39 ahz ?_
  refine tq 4 40 ahz ?_
  refine tq 5 41 ahz ?_
  refine tq 6 42 ahz ?_
  generalize hwd:w0.drew=x0 at D0 hN0 ahz ⊢
  clear hwd
  refine wpAnyH_ready (rs:=[0,8]) (by kernel_rfl) (by simp) ?_
  refine AllReadyH.cons rfl (fun K hK=>?_) (AllReadyH.cons rfl (fun K hK=>?_) AllReadyH.nil)
  ·go_simp
   have AB:Below x0.heap.size x0 (x0.alloc (.cells #[] 5)):=bn _ _
   have D1:=ak (Below.step D0.out AB)
   have hN1:=Nat.le_trans hN0 AB.size
   have Qo:=ak (kJ x0 5 1 N hN0)
   have hE1:w0.heap.size≤x0.heap.size:=D0.out.size
   refine hK.out _ _ (HS.out _ D1.out) (fun ahz=>?_)
   clear hK K AB
   generalize hw1:x0.alloc (.cells #[] 5)=x1 at *
   clear hw1
   refine wpAnyH_ready (rs:=[2,8]) (by kernel_rfl) (by simp) ?_
   refine AllReadyH.cons rfl (fun K hK=>?_) (AllReadyH.cons rfl (fun K hK=>?_) AllReadyH.nil)
   ·refine dR (by kernel_rfl) (jX (B:=N) 38 rfl (.tmp 36) (.tmp 37) rfl Qo.out (Bs.rF (lH.out _ D1.out)) (one_byte _) Tryz.underlying22 hj hy0 hy1 hy2 rfl (by omega) rfl rfl hl3 hl4 hN1 ?_)
    intro V x2 xs hO hX hG hB
    have hG':x1.grownBy x2 (some (x0.heap.size)):=hG
    have D2:=ak (kK D1.out hG' (show w0.heap.size≤x0.heap.size from hE1))
    have Jd:=Nat.le_trans hN1 hG'.size
    have hR:RO x2 (fun k=>N≤k) V nm:=rG vQ.out hO hX (fun g hg=>dP hO hg)
    obtain ⟨na,nn,nc,hV⟩:=hR.bs.aG
    subst hV
    have Y2:Hid (RO x2 (fun k=>N≤k) (.slice na nn nc) nm):=hR
    refine hK.out _ _ (HS.out _ D2.out) (fun ahz=>?_)
    clear hK K hO hX hG hG' hB hR
    conv=>arg 8;simp only [Act.put,sA,s0,sS]
    refine tq 7 43 ahz ?_
    refine wpAnyH_ready (rs:=[8]) (by kernel_rfl) (by simp) ?_
    refine AllReadyH.cons rfl (fun K hK=>?_) AllReadyH.nil
    go_simp
    have AB:Below x2.heap.size x2 (x2.alloc (.cells #[.slice none 0 0,.int .i64 0,.int .i64 0,.int .i64 0,.slice none 0 0,.slice none 0 0,.int .i64 0] 34)):=bn _ _
    have D3:=ak (Below.step D2.out AB)
    have hN3:=Nat.le_trans Jd AB.size
    have Y3:=ak (Y2.out.below AB)
    have JJ:=ak (aW x2 (.cells #[.slice none 0 0,.int .i64 0,.int .i64 0,.int .i64 0,.slice none 0 0,.slice none 0 0,.int .i64 0] 34))
    have Y4:w0.heap.size≤x2.heap.size:=D2.out.size
    refine hK.out _ _ (HS.out _ D3.out) (fun ahz=>?_)
    clear hK K AB
    generalize hw3:x2.alloc (.cells #[.slice none 0 0,.int .i64 0,.int .i64 0,.int .i64 0,.slice none 0 0,.slice none 0 0,.int .i64 0] 34)=x3 at *
    clear hw3
    refine wpAnyH_ready (rs:=[9]) (by kernel_rfl) (by simp) ?_
    refine AllReadyH.cons rfl (fun K hK=>?_) AllReadyH.nil
    obtain ⟨zx,zl⟩:=aZ JJ.out
    obtain ⟨q0,q1,q2,q3,q4,q5,q6⟩:=bU JJ.out
    obtain ⟨KF,DF,RF⟩:=JI JJ.out D3.out Y4 Y3.out (.slice na nn nc) (.int .i64 (a.valid+1)) (.int .i64 1) (.int .i64 0) (.slice none 0 0) (.slice none 0 0) (.int .i64 0)
    go_simp
    refine hK.out _ _ (HS.out _ DF) (fun ahz=>?_)
    clear hK K
    refine wpAnyH_done (by kernel_rfl) ?_ _
    go_wp2
    go_meet
    case rel=>exact ⟨_,_,_,_,rfl,KF,RF,Jd,DF⟩
   ·go_simp
    have AB:Below x1.heap.size x1 (x1.alloc (.cells #[.slice none 0 0,.int .i64 0,.int .i64 0,.int .i64 0,.slice none 0 0,.slice none 0 0,.int .i64 0] 34)):=bn _ _
    have D4:=ak (Below.step D1.out AB)
    have Qp:=Nat.le_trans hN1 AB.size
    have Qq:=ak (own_below Qo.out AB)
    have Y5:=ak (aW x1 (.cells #[.slice none 0 0,.int .i64 0,.int .i64 0,.int .i64 0,.slice none 0 0,.slice none 0 0,.int .i64 0] 34))
    have sI:w0.heap.size≤x1.heap.size:=D1.out.size
    refine hK.out _ _ (HS.out _ D4.out) (fun ahz=>?_)
    clear hK K AB
    generalize hw4:x1.alloc (.cells #[.slice none 0 0,.int .i64 0,.int .i64 0,.int .i64 0,.slice none 0 0,.slice none 0 0,.int .i64 0] 34)=x4 at *
    clear hw4
    refine wpAnyH_ready (rs:=[2]) (by kernel_rfl) (by simp) ?_
    refine AllReadyH.cons rfl (fun K hK=>?_) AllReadyH.nil
    refine dR (by kernel_rfl) (jX (B:=N) 38 rfl (.tmp 36) (.tmp 37) rfl Qq.out (Bs.rF (lH.out _ D4.out)) (one_byte _) Tryz.underlying22 hj hy0 hy1 hy2 rfl (by omega) rfl rfl hl3 hl4 Qp ?_)
    intro V x5 xs hO hX hG hB
    have hG':x4.grownBy x5 (some (x0.heap.size)):=hG
    have D5:=ak (kK D4.out hG' (show w0.heap.size≤x0.heap.size from hE1))
    have hN5:=Nat.le_trans Qp hG'.size
    have KE:=rJ Qq.out
    have JK:=ak (Ef hG' Y5.out KE (by decide))
    clear KE
    have hR:RO x5 (fun k=>N≤k) V nm:=rG vQ.out hO hX (fun g hg=>dP hO hg)
    obtain ⟨na,nn,nc,hV⟩:=hR.bs.aG
    subst hV
    have Y6:Hid (RO x5 (fun k=>N≤k) (.slice na nn nc) nm):=hR
    refine hK.out _ _ (HS.out _ D5.out) (fun ahz=>?_)
    clear hK K hO hX hG hG' hB hR
    conv=>arg 8;simp only [Act.put,sA,s0,sS]
    refine tq 7 43 ahz ?_
    refine wpAnyH_ready (rs:=[9]) (by kernel_rfl) (by simp) ?_
    refine AllReadyH.cons rfl (fun K hK=>?_) AllReadyH.nil
    obtain ⟨zx,zl⟩:=aZ JK.out
    obtain ⟨q0,q1,q2,q3,q4,q5,q6⟩:=bU JK.out
    obtain ⟨KF,DF,RF⟩:=JI JK.out D5.out sI Y6.out (.slice na nn nc) (.int .i64 (a.valid+1)) (.int .i64 1) (.int .i64 0) (.slice none 0 0) (.slice none 0 0) (.int .i64 0)
    go_simp
    refine hK.out _ _ (HS.out _ DF) (fun ahz=>?_)
    clear hK K
    refine wpAnyH_done (by kernel_rfl) ?_ _
    go_wp2
    go_meet
    case rel=>exact ⟨_,_,_,_,rfl,KF,RF,hN1,DF⟩
  ·go_simp
   have AB:Below x0.heap.size x0 (x0.alloc (.cells #[.slice none 0 0,.int .i64 0,.int .i64 0,.int .i64 0,.slice none 0 0,.slice none 0 0,.int .i64 0] 34)):=bn _ _
   have D6:=ak (Below.step D0.out AB)
   have Jf:=Nat.le_trans hN0 AB.size
   have Y7:=ak (aW x0 (.cells #[.slice none 0 0,.int .i64 0,.int .i64 0,.int .i64 0,.slice none 0 0,.slice none 0 0,.int .i64 0] 34))
   have rP:w0.heap.size≤x0.heap.size:=D0.out.size
   refine hK.out _ _ (HS.out _ D6.out) (fun ahz=>?_)
   clear hK K AB
   generalize xQ:x0.alloc (.cells #[.slice none 0 0,.int .i64 0,.int .i64 0,.int .i64 0,.slice none 0 0,.slice none 0 0,.int .i64 0] 34)=x6 at *
   clear xQ
   refine wpAnyH_ready (rs:=[0]) (by kernel_rfl) (by simp) ?_
   refine AllReadyH.cons rfl (fun K hK=>?_) AllReadyH.nil
   go_simp
   have AB:Below x6.heap.size x6 (x6.alloc (.cells #[] 5)):=bn _ _
   have D7:=ak (Below.step D6.out AB)
   have Qr:=Nat.le_trans Jf AB.size
   have Y8:=ak (aB AB Y7.out)
   have Qs:=ak (kJ x6 5 1 N Jf)
   have Y9:w0.heap.size≤x6.heap.size:=D6.out.size
   refine hK.out _ _ (HS.out _ D7.out) (fun ahz=>?_)
   clear hK K AB
   generalize hw7:x6.alloc (.cells #[] 5)=x7 at *
   clear hw7
   refine wpAnyH_ready (rs:=[2]) (by kernel_rfl) (by simp) ?_
   refine AllReadyH.cons rfl (fun K hK=>?_) AllReadyH.nil
   refine dR (by kernel_rfl) (jX (B:=N) 38 rfl (.tmp 36) (.tmp 37) rfl Qs.out (Bs.rF (lH.out _ D7.out)) (one_byte _) Tryz.underlying22 hj hy0 hy1 hy2 rfl (by omega) rfl rfl hl3 hl4 Qr ?_)
   intro V x8 xs hO hX hG hB
   have hG':x7.grownBy x8 (some (x6.heap.size)):=hG
   have D8:=ak (kK D7.out hG' (show w0.heap.size≤x6.heap.size from Y9))
   have hN8:=Nat.le_trans Qr hG'.size
   have KE:=rJ Qs.out
   have JL:=ak (Ef hG' Y8.out KE (by decide))
   clear KE
   have hR:RO x8 (fun k=>N≤k) V nm:=rG vQ.out hO hX (fun g hg=>dP hO hg)
   obtain ⟨na,nn,nc,hV⟩:=hR.bs.aG
   subst hV
   have Za:Hid (RO x8 (fun k=>N≤k) (.slice na nn nc) nm):=hR
   refine hK.out _ _ (HS.out _ D8.out) (fun ahz=>?_)
   clear hK K hO hX hG hG' hB hR
   conv=>arg 8;simp only [Act.put,sA,s0,sS]
   refine tq 7 43 ahz ?_
   refine wpAnyH_ready (rs:=[9]) (by kernel_rfl) (by simp) ?_
   refine AllReadyH.cons rfl (fun K hK=>?_) AllReadyH.nil
   obtain ⟨zx,zl⟩:=aZ JL.out
   obtain ⟨q0,q1,q2,q3,q4,q5,q6⟩:=bU JL.out
   obtain ⟨KF,DF,RF⟩:=JI JL.out D8.out rP Za.out (.slice na nn nc) (.int .i64 (a.valid+1)) (.int .i64 1) (.int .i64 0) (.slice none 0 0) (.slice none 0 0) (.int .i64 0)
   go_simp
   refine hK.out _ _ (HS.out _ DF) (fun ahz=>?_)
   clear hK K
   refine wpAnyH_done (by kernel_rfl) ?_ _
   go_wp2
   go_meet
   case rel=>exact ⟨_,_,_,_,rfl,KF,RF,hN0,DF⟩
 case rest =>
  obtain ⟨bx,na,nn,nc,rfl,nY,Qt,hbx,HD⟩:=hcut
  have hNe:=rM.out
  subst hNe
  have AU:Hid (RO wc Any (.slice na nn nc) nm):=Qt.out.mono fun _ _=>trivial
  have hlx:=lt_of_heap nY.out
  have Fe:Hid (aS wc S0 ga ⟨a.valid+1,a.boxes,a.seen⟩):=HA2.out.below HD.out
  have Qu:Hid (aR w wc S0 ga):=HT2.out.trans (aR.below (S:=S0) HD.out) (fun k h=>.inl h)
  have JM:Hid _:=aB HD.out dB.out
  have Qv:Hid (∀ w',Below wc.heap.size wc w'→Bs w' (.slice q0 q1 q2) nm):=fun w' h=>lH.out w' (Below.step HD.out h)
  have JN:ga < wc.heap.size:=Fe.out.lt
  have hlr:w.heap.size < wc.heap.size:=lt_of_heap JM.out
  have Qw:Hid (∀ k,S0 k→k < wc.heap.size):=fun k h=>by have:=HSL.out k h;omega
  obtain ⟨v0,v1,k0,k1,-,hbq,-⟩:=Fe.out.cells
  have uG:Hid (wc.cell? ⟨ga,0,none⟩=some (.int .i64 (a.valid+1))):=k0
  have dH:Hid (wc.cell? ⟨ga,1,none⟩=some v0):=k1
  have sJ:Hid (iK wc S0 v0 a.boxes):=hbq
  clear k0 k1 hbq HD HA2 HT2 dB lH HS Qt rM Qn
  go_upto_block 0 with fail
  go_cut [6] (fun iv wr=>∃ k:Nat,k≤a.boxes.length∧iv=.int .i64 k∧Hid (∀ j x,j < k→a.boxes[j]?=some x→bV x.name nm=true)∧Hid (∀ x,a.boxes[k]?=some x→bV x.name nm=false)∧Hid (Below wc.heap.size wc wr))
  case first =>
   rcases Ow.el sJ.out with ⟨hv0,hnil⟩ | ⟨g,cap,cur,hv0,hgh,hc1,hc2,hc3,fE,hel⟩
   ·subst hv0
    have Qx:Hid (a.boxes=[]):=hnil
    clear hnil sJ
    go_wp2
    go_loopw [6] (fun iv wr=>∃ k:Nat,k≤a.boxes.length∧iv=.int .i64 k∧Hid (∀ j x,j < k→a.boxes[j]?=some x→bV x.name nm=true)∧Hid (Below wc.heap.size wc wr)) (fun iv _=>a.boxes.length - (intOf iv).toNat)
    case atStart=>exact ⟨0,Nat.zero_le _,rfl,(fun j m hj=>absurd hj (Nat.not_lt_zero _)),Below.refl _ _⟩
    case round =>
     obtain ⟨k,hk,rfl,hA,hB⟩:=hrel
     have hwr:=hB.out.size
     have hgr:ga < wr.drew.heap.size:=by show ga < wr.heap.size;omega
     have Zb:ga < wr.heap.size:=by omega
     have j4:Hid (Below wc.heap.size wc wr.drew):=hB.out.drew
     have hk0:k=0:=by have h:=hk;rw [Qx.out] at h;simpa using h
     subst hk0
     go_wp2
     refine wp_region_held_drew (S:=fun w'=>w'.cell? ⟨ga,1,none⟩=some (.slice none 0 0)) (by kernel_rfl) ((j4.out.cell (p:=⟨ga,1,none⟩) JN).trans dH.out) (fun ahz=>(show wpAnyH _ _ _ _ _ 21 #[false,false,false,false,false,false,false,false,false,false,false,false,false,false,false,false,false,false,false,false,false] _ _ from ?_))
     refine tq 0 44 ahz ?_
     refine tq 1 45 ahz ?_
     refine tq 2 46 ahz ?_
     refine tq 3 47 ahz ?_
     refine tq 4 48 ahz ?_
     refine tq 5 49 ahz ?_
     refine tq 6 50 ahz ?_
     refine tq 7 51 ahz ?_
     refine Ao (by kernel_rfl) (fun _ _ _ _ _ h=>h) ahz [8,9,10,11,12,13,14,15,16,17,18,19] [52,53,54,55,56,57,58,59,60,61,62,63] _ _ _ (by kernel_rfl) ?_
     simp only [List.foldl_cons,List.foldl_nil,Act.put,sA,s0,sS]
     refine tq 20 64 ahz ?_
     refine wpAnyH_done (by kernel_rfl) ?_ _
     go_wp2
     go_meet
     case rel=>exact ⟨_,by omega,rfl,hA,(show Hid _ from fun y hy=>by rw [Qx.out] at hy;cases hy),j4⟩
   ·subst hv0
    have BQ:Hid _:=hgh
    have gM:Hid (∀ w',Below wc.heap.size wc w'→gJ w' (.slice (some ⟨g,0,none⟩) a.boxes.length cap) a.boxes):=fun w' h=>sJ.out.v.below tK h
    have agk:Hid (EL 7 iE wc a.boxes S0 (cur.toList.take (a.boxes.length * 7))):=hel.mono fun k h=>h.1
    have agl:g < wc.heap.size:=lt_of_heap hgh
    clear hgh hel sJ
    go_wp2
    go_loopw [6] (fun iv wr=>∃ k:Nat,k≤a.boxes.length∧iv=.int .i64 k∧Hid (∀ j x,j < k→a.boxes[j]?=some x→bV x.name nm=true)∧Hid (Below wc.heap.size wc wr)) (fun iv _=>a.boxes.length - (intOf iv).toNat)
    case atStart=>exact ⟨0,Nat.zero_le _,rfl,(fun j m hj=>absurd hj (Nat.not_lt_zero _)),Below.refl _ _⟩
    case round =>
     obtain ⟨k,hk,rfl,hA,hB⟩:=hrel
     have hwr:=hB.out.size
     have hgr:ga < wr.drew.heap.size:=by show ga < wr.heap.size;omega
     have Zb:ga < wr.heap.size:=by omega
     have j4:Hid (Below wc.heap.size wc wr.drew):=hB.out.drew
     by_cases hlt:k < a.boxes.length
     ·obtain ⟨x,hx⟩:∃ x,a.boxes[k]?=some x:=⟨a.boxes[k],aL hlt⟩
      obtain ⟨b,off,cp,t,z1,z2,hv',hlb,f0,-,-,-,-,-,-,ht,-⟩:=gJ.cell (gM.out wr.drew j4.out) k x hx
      simp only [Value.slice.injEq,Option.some.injEq,Addr.mk.injEq,and_true,true_and] at hv'
      obtain ⟨⟨rfl,rfl⟩,rfl⟩:=hv'
      rw [Nat.zero_add] at f0
      have qO:Hid (∀ w',Below wr.drew.heap.size wr.drew w'→(convert 22 9 (t)).run Tryz.prog w'=.ok (.string (strOfNums x.name)) w'∧(convert 22 9 (.slice q0 q1 q2)).run Tryz.prog w'=.ok (.string (strOfNums nm)) w'):=fun w' h=>⟨rA (ht.below h),rA (Qv.out w' (Below.step j4.out h))⟩
      obtain ⟨ta,tn,tc,rfl⟩:=ht.aG
      have BR:Hid (Op.bytesLess (strOfNums x.name).toList (strOfNums nm).toList=bV x.name nm):=by simp only [Hid,bV,Hz]
      have mo:Hid (a.boxes[k]?=some x):=hx
      have hki:(k:Int) < a.boxes.length:=by omega
      have xR:Hid ((wr.drew.cell? ⟨ga,1,none⟩=some (.slice (some ⟨g,0,none⟩) a.boxes.length cap)∧wr.drew.cell? ⟨g,k * 7,none⟩=some (.slice ta tn tc))∧(convert 22 9 (.slice ta tn tc)).run Tryz.prog wr.drew=.ok (.string (strOfNums x.name)) wr.drew∧(convert 22 9 (.slice q0 q1 q2)).run Tryz.prog wr.drew=.ok (.string (strOfNums nm)) wr.drew):=⟨⟨(j4.out.cell (p:=⟨ga,1,none⟩) JN).trans dH.out,f0⟩,qO.out _ (Below.refl _ _)⟩
      clear ht hx f0 qO hlb
      have HZ:Hid (∃ z,z=bV x.name nm):=⟨_,rfl⟩
      obtain ⟨z,hz⟩:=HZ.out
      have hb:=BR.out.trans hz.symm
      have HZ:Hid (z=bV x.name nm):=hz
      clear hz BR
      go_wp2
      refine wp_region_held_drew (S:=fun w'=>(w'.cell? ⟨ga,1,none⟩=some (.slice (some ⟨g,0,none⟩) a.boxes.length cap)∧w'.cell? ⟨g,k * 7,none⟩=some (.slice ta tn tc))∧(convert 22 9 (.slice ta tn tc)).run Tryz.prog w'=.ok (.string (strOfNums x.name)) w'∧(convert 22 9 (.slice q0 q1 q2)).run Tryz.prog w'=.ok (.string (strOfNums nm)) w') (by kernel_rfl) (xR.out) (fun ahz=>(show wpAnyH _ _ _ _ _ 21 #[false,false,false,false,false,false,false,false,false,false,false,false,false,false,false,false,false,false,false,false,false] _ _ from ?_))
      refine tq 0 44 ahz ?_
      refine tq 1 45 ahz ?_
      refine tq 2 46 ahz ?_
      refine tq 3 47 ahz ?_
      refine tq 4 48 ahz ?_
      refine tq 5 49 ahz ?_
      refine tq 6 50 ahz ?_
      refine tq 7 51 ahz ?_
      refine tq 8 52 ahz ?_
      refine tq 9 53 ahz ?_
      refine tq 10 54 ahz ?_
      refine tq 11 55 ahz ?_
      refine tq 12 56 ahz ?_
      refine tq 13 57 ahz ?_
      refine tq 14 58 ahz ?_
      refine tq 15 59 ahz ?_
      refine tq 16 60 ahz ?_
      refine tq 17 61 ahz ?_
      refine tq 18 62 ahz ?_
      refine tq 19 63 ahz ?_
      refine tq 20 64 ahz ?_
      refine wpAnyH_done (by kernel_rfl) ?_ _
      cases z with
      | true =>
       go_wp2
       go_roundw
       case rel =>
        refine ⟨k+1,by omega,by go_num,(show Hid _ from fun j y hj hy=>?_),j4⟩
        by_cases e:j=k
        ·subst e;rw [mo.out] at hy;cases hy;exact HZ.out.symm
        ·exact hA.out j y (by omega) hy
       case measure=>simp [intOf];omega
      | false =>
       go_wp2
       go_meet
       case rel=>exact ⟨_,by omega,rfl,hA,(show Hid _ from fun y hy=>by rw [mo.out] at hy;cases hy;exact HZ.out.symm),j4⟩
     ·obtain rfl:k=a.boxes.length:=by omega
      go_wp2
      refine wp_region_held_drew (S:=fun w'=>w'.cell? ⟨ga,1,none⟩=some (.slice (some ⟨g,0,none⟩) a.boxes.length cap)) (by kernel_rfl) ((j4.out.cell (p:=⟨ga,1,none⟩) JN).trans dH.out) (fun ahz=>(show wpAnyH _ _ _ _ _ 21 #[false,false,false,false,false,false,false,false,false,false,false,false,false,false,false,false,false,false,false,false,false] _ _ from ?_))
      refine tq 0 44 ahz ?_
      refine tq 1 45 ahz ?_
      refine tq 2 46 ahz ?_
      refine tq 3 47 ahz ?_
      refine tq 4 48 ahz ?_
      refine tq 5 49 ahz ?_
      refine tq 6 50 ahz ?_
      refine tq 7 51 ahz ?_
      refine Ao (by kernel_rfl) (fun _ _ _ _ _ h=>h) ahz [8,9,10,11,12,13,14,15,16,17,18,19] [52,53,54,55,56,57,58,59,60,61,62,63] _ _ _ (by kernel_rfl) ?_
      simp only [List.foldl_cons,List.foldl_nil,Act.put,sA,s0,sS]
      refine tq 20 64 ahz ?_
      refine wpAnyH_done (by kernel_rfl) ?_ _
      go_wp2
      go_meet
      case rel=>exact ⟨_,by omega,rfl,hA,(show Hid _ from fun y hy=>by rw [List.getElem?_eq_none (Nat.le_refl _)] at hy;cases hy),j4⟩
  case rest =>
   obtain ⟨k,hk,rfl,hA,hZ,xS⟩:=hcut
   have Qy:Hid _:=takeWhile_take (fun x:aA=>bV x.name nm) a.boxes k hA.out hZ.out hk
   have DZ:=xS.out.size
   have JO:=ak (Fe.out.below xS.out)
   have Zc:Hid (aR w wc S0 ga):=Qu.out.trans (aR.below (S:=S0) xS.out) (fun k h=>.inl h)
   have Zd:=ak (aB xS.out JM.out)
   have Qz:=ak (aB xS.out nY.out)
   have Ze:Hid (RO wc Any (.slice na nn nc) nm):=AU.out.below xS.out
   have Zf:Hid (∀ k,S0 k→k < wc.heap.size):=fun k h=>Nat.lt_of_lt_of_le (Qw.out k h) DZ
   have Zg:ga < wc.heap.size:=by omega
   have agm:bx < wc.heap.size:=lt_of_heap Qz.out
   clear Fe Qu JM nY AU Qw uG dH sJ hA hZ Qv xS
   obtain ⟨vb,-,-,l1,-,hbq,-⟩:=JO.out.cells
   obtain ⟨V1,V3,n3,CL,hsrc1,h3,hel,zC,ways⟩:=Y0 hbq hk
   have H3:=ak h3
   have mJ:=ak zC
   have JQ:=ak hel
   have BU:∀ y ∈ CL.take (k * 7),y.oneCell'=true:=fun y hy=>xP JQ.out y (List.mem_of_mem_take hy)
   have BX:∀ y ∈ CL.drop (k * 7),y.oneCell'=true:=fun y hy=>xP JQ.out y (List.mem_of_mem_drop hy)
   clear h3 hel hbq zC
   rcases ways with ⟨rfl,rfl,rfl,rfl,rfl⟩ | ⟨g,cap,rfl,hcp,hgl,rfl,⟨hkc,rfl,rfl⟩ | ⟨rfl,rfl,rfl,rfl⟩⟩
   all_goals
    go_wp2_with (at_builtin;refine IK (B:=wc.heap.size) rfl (.tmp 67) (.tmp 73) rfl (World.ownsRow_nil _ _ _ _) hsrc1 BU Tryz.underlying23 hi hz0 hz1 hz2 rfl (by omega) rfl rfl (by unfold maxLen;omega) (by omega) (Nat.le_refl _) ?_)
    intro V w4 hO4 hG4 hB4
    obtain ⟨p1,p2,p3,rfl⟩:=jC hO4
    have D4:Below wc.heap.size wc w4:=mI (Below.refl _ _) hG4 (fun j hj=>by cases hj)
    have hw4:=D4.size
    obtain ⟨b0,b1,b2,b3,b4,b5,b6⟩:=bU (aB D4 Qz.out)
    have Zh:bx < w4.heap.size:=by omega
    have Fg:Below w4.heap.size w4 (w4.alloc (.cells #[.slice na nn nc,.int .i64 (a.valid+1),.int .i64 1,.int .i64 0,.slice none 0 0,.slice none 0 0,.int .i64 0] 34)):=bn _ _
    have yY:=ak (own_below hO4 Fg)
    have vR:sw (w4.alloc (.cells #[.slice na nn nc,.int .i64 (a.valid+1),.int .i64 1,.int .i64 0,.slice none 0 0,.slice none 0 0,.int .i64 0] 34)) (.slice (some ⟨w4.heap.size,0,none⟩) 1 1) 1 7 [.slice na nn nc,.int .i64 (a.valid+1),.int .i64 1,.int .i64 0,.slice none 0 0,.slice none 0 0,.int .i64 0]:=.inr ⟨_,_,_,rfl,rfl,fun j y hy=>by rw [cell_of_row _ _ _ _ _ (0,0) (aW w4 (.cells #[.slice na nn nc,.int .i64 (a.valid+1),.int .i64 1,.int .i64 0,.slice none 0 0,.slice none 0 0,.int .i64 0] 34)),Nat.zero_add];simpa using hy⟩
    have QA:∀ y ∈ [Value.slice na nn nc,Value.int .i64 (a.valid+1),Value.int .i64 1,Value.int .i64 0,Value.slice none 0 0,Value.slice none 0 0,Value.int .i64 0],y.oneCell'=true:=by simp [Value.oneCell']
    have hsz5:=Nat.le_trans hw4 Fg.size
    clear hG4 hB4 hO4 hsrc1
    go_wp2_with (at_builtin;refine IK (B:=wc.heap.size) rfl (.tmp 75) (.tmp 77) rfl yY.out vR QA Tryz.underlying23 hi hz0 hz1 hz2 rfl (by omega) rfl rfl (by unfold maxLen;omega) (by omega) hsz5 ?_)
    intro V w6 iI fJ kL
    obtain ⟨t1,t2,t3,rfl⟩:=jC iI
    have HD6:Hid (Below wc.heap.size wc w6):=mI (Below.step D4 Fg) fJ (fun j hj=>dP yY.out hj)
    have xQ:=HD6.out.size
    have l6:=(HD6.out.cell (p:=⟨ga,1,none⟩) Zg).trans l1
    have agn:ga < w6.heap.size:=by omega
    have nZ:=ak iI
    have QC:=H3.out w6 HD6.out
    clear fJ kL iI yY vR QA Fg b0 b1 b2 b3 b4 b5 b6 D4 Zh
    go_wp2_with (at_builtin;refine IK (B:=wc.heap.size) rfl (.tmp 80) (.tmp 86) rfl nZ.out QC BX Tryz.underlying23 hi hz0 hz1 hz2 rfl (by omega) rfl rfl (by have:=mJ.out;unfold maxLen;omega) (by have:=mJ.out;omega) xQ ?_)
    intro V w7 xU uH JR
    obtain ⟨y1,y2,y3,rfl⟩:=jC xU
    have D7:Below wc.heap.size wc w7:=mI HD6.out uH (fun j hj=>dP nZ.out hj)
    have vS:=ak (JO.out.below D7)
    have sK:=ak (XM (A:=⟨a.valid+1,a.boxes,a.seen⟩) JO.out Zf.out D7 JQ.out Ze.out Qm.out xU (by have:=mJ.out;first | omega | (simp only;omega) | simp only) (by simp) hk)
    have vT:=ak ((Zc.out.trans (aR.below (S:=S0) D7) (fun k h=>.inl h)).trans (aR.set (S:=S0) (i:=1) (x:=.slice y1 y2 y3) vS.out) (fun k h=>.inl h))
    have jD:=ak (cO (k:=ga) (i:=1) (v:=.slice y1 y2 y3) (aB D7 Zd.out) (by omega))
    have BZ:=vS.out.open
    obtain ⟨QD,QE,c70,Ca,-⟩:=vS.out.cells
    have Cb:=vS.out.lt
    clear xU uH JR D7 l6 QC
    go_upto_region 14 with fail
    clear BZ c70 Ca Cb
    generalize w7.setCell ⟨ga,1,none⟩ (.slice y1 y2 y3)=w8 at sK vT jD ⊢
    obtain ⟨-,-,c80,-⟩:=sK.out.cells
    simp only at c80
    have agp:=sK.out.lt
    obtain ⟨r0,r1,r2,r3,r4,r5,r6,r7,r8,r9⟩:=aO jD.out
    have fz:∀ i,w8.frozen? ⟨w.heap.size,i,none⟩=false:=fun i=>frozen_of_row w8 _ i _ _ jD.out
    have QF:=lt_of_heap jD.out
    have HF:Hid _:=zB (w:=w) jD.out (Nat.le_refl _) vT.out _ _ sK.out bE (fun h=>h.elim (fun h=>by have:=HSL.out _ h;omega) (fun h=>by omega)) 0 (a.valid+1) ⟨aI,Qm.out⟩
    go_wp2
    obtain ⟨f0,f1,f2,f3,f4,f5,f6,f7,f8,f9⟩:=aO HF.out.1
    refine bodyPost_ret (v:=.agg #[.int .i64 0,.int .i64 (a.valid+1),.slice none 0 0,.int .i64 0,.int .i64 0,.int .i64 0,.slice none 0 0,.slice none 0 0,.int .i64 0,.slice none 0 0]) (by simp [results,Tryz.results86,go_sem,f0,f1,f2,f3,f4,f5,f6,f7,f8,f9]) rfl ⟨_,rfl,HF.out.2.2.2,aR.wide HF.out.2.1 eB.out,_,?_,(show ∀ k,(S0 k∨wc.heap.size≤k)→_ from fun k h=>h.elim (fun h=>.inl (eB.out k h)) (fun h=>.inr (by omega)))⟩
    rw [Qy.out.1,Qy.out.2]
    exact HF.out.2.2.1
end Go.Proofs.YtmglhdkeidhafaaGreat
