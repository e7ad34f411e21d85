/- The proof's texts, part 31. -/
import Derived.Test.YtlneebmlhblleaaGreatTt
import Derived.Test.YtlneebmlhblleaaGreatTu
import Derived.Deep.CutBlock
namespace Go.Proofs.YtlneebmlhblleaaGreat
open Go.RowKit
set_option linter.unusedVariables false
set_option linter.unusedSimpArgs false
set_option maxHeartbeats 8000000
set_option maxRecDepth 100000
/- What Um of package spec does where it creates a box. -/
/-- A box's variable is filled. -/
theorem MW {w0 x:World} {X:Nat} {S:Nat→Prop} {v:Value} {nm:List Int} (hk:x.heap[X]?=some (.cells #[.slice none 0 0,.int .i64 0,.int .i64 0,.int .i64 0,.slice none 0 0,.slice none 0 0,.int .i64 0] 37 (0,0))) (hD:Below w0.heap.size w0 x) (hX:w0.heap.size≤X) (hR:RO x S v nm) (c0 c1 c2 c3 c4 c5 c6:Value) :
  (((((((x.setCell ⟨X,0,none⟩ c0).setCell ⟨X,1,none⟩ c1).setCell ⟨X,2,none⟩ c2).setCell ⟨X,3,none⟩ c3).setCell ⟨X,4,none⟩ c4).setCell ⟨X,5,none⟩ c5).setCell ⟨X,6,none⟩ c6).heap[X]?=some (.cells #[c0,c1,c2,c3,c4,c5,c6] 37 (0,0))∧Below w0.heap.size w0 (((((((x.setCell ⟨X,0,none⟩ c0).setCell ⟨X,1,none⟩ c1).setCell ⟨X,2,none⟩ c2).setCell ⟨X,3,none⟩ c3).setCell ⟨X,4,none⟩ c4).setCell ⟨X,5,none⟩ c5).setCell ⟨X,6,none⟩ c6)∧RO (((((((x.setCell ⟨X,0,none⟩ c0).setCell ⟨X,1,none⟩ c1).setCell ⟨X,2,none⟩ c2).setCell ⟨X,3,none⟩ c3).setCell ⟨X,4,none⟩ c4).setCell ⟨X,5,none⟩ c5).setCell ⟨X,6,none⟩ c6) S v nm:=by
 refine ⟨(aP (i:=6) (v:=c6) (aP (i:=5) (v:=c5) (aP (i:=4) (v:=c4) (aP (i:=3) (v:=c3) (aP (i:=2) (v:=c2) (aP (i:=1) (v:=c1) (aP (i:=0) (v:=c0) hk))))))),(((((((hD.setCell (p:=⟨X,0,none⟩) hX c0).setCell (p:=⟨X,1,none⟩) hX c1).setCell (p:=⟨X,2,none⟩) hX c2).setCell (p:=⟨X,3,none⟩) hX c3).setCell (p:=⟨X,4,none⟩) hX c4).setCell (p:=⟨X,5,none⟩) hX c5).setCell (p:=⟨X,6,none⟩) hX c6),mR hR fun k hT=>?_⟩
 have hne:k≠X:=fun e=>by subst e;exact kN hk hT (by decide)
 rw [Below.heap_setCell _ _ _ _ (show k≠X from hne),Below.heap_setCell _ _ _ _ (show k≠X from hne),Below.heap_setCell _ _ _ _ (show k≠X from hne),Below.heap_setCell _ _ _ _ (show k≠X from hne),Below.heap_setCell _ _ _ _ (show k≠X from hne),Below.heap_setCell _ _ _ _ (show k≠X from hne),Below.heap_setCell _ _ _ _ (show k≠X from hne)]
/-- The two parts of an JQ boxes, as values. -/
theorem ad2 {w:World} {S:Nat→Prop} {v:Value} {l:List aD} {k:Nat} (h:jS w S v l) (hk:k≤l.length):∃ V1 V3 n3 CL,tZ w V1 k 7 (CL.take (k * 7))∧(∀ w',Below w.heap.size w w'→tZ w' V3 n3 7 (CL.drop (k * 7)))∧EL 7 gT w l S CL∧l.length=k+n3 ∧
  ((v=.slice none 0 0∧V1=.slice none 0 0∧V3=.slice none 0 0∧n3=0∧k=0)∨∃ g cap,v=.slice (some ⟨g,0,none⟩) l.length cap∧l.length≤cap∧g < w.heap.size∧V1=.slice (some ⟨g,0,none⟩) k cap∧((k < cap∧n3=l.length - k∧V3=.slice (some ⟨g,k * 7,none⟩) (l.length - k) (cap - k))∨(k=l.length∧cap=l.length∧n3=0∧V3=.slice (some ⟨g,0,none⟩) 0 0))):=by
 rcases Ow.el h with ⟨rfl,rfl⟩ | ⟨g,cap,cur,rfl,hh,h1,h2,h3,hS,hel⟩
 ·obtain rfl:k=0:=by simpa using hk
  exact ⟨_,_,0,[],.inl ⟨rfl,rfl,rfl⟩,fun _ _=>.inl ⟨rfl,rfl,rfl⟩,(rfl:([]:List Value)=[]),rfl,.inl ⟨rfl,rfl,rfl,rfl,rfl⟩⟩
 ·have hs:l.length * 7≤cur.size:=by omega
  by_cases hc:k < cap
  ·exact ⟨_,_,l.length - k,_,Ht hh hs hk cap,fun w' hb=>Ur ((hb.block g (lt_of_heap hh)).trans hh) hs hk (cap - k),hel.mono fun k h=>h.1,by omega,.inr ⟨g,cap,rfl,h1,lt_of_heap hh,rfl,.inl ⟨hc,rfl,rfl⟩⟩⟩
  ·obtain rfl:k=l.length:=by omega
   obtain rfl:cap=l.length:=by omega
   exact ⟨_,_,0,_,Ht hh hs hk _,fun w' _=>Us w' g l.length cur 0,hel.mono fun k h=>h.1,by omega,.inr ⟨g,_,rfl,h1,lt_of_heap hh,rfl,.inr ⟨rfl,rfl,rfl,rfl⟩⟩⟩
theorem ad3 (ga:Nat) (a:aJ) (S:Nat→Prop) (nv:Value) (nm:List Int) (w:World) (hp:aU w S ga a) (hst:∀ w',w.heap.size≤w'.heap.size→bT w w' 5→Bs w' nv nm) (hnl:nm.length≤2000000) (hbl:a.boxes.length≤2000000) (hf:bB (fun x:aD=>decide (x.name=nm)) a.boxes < 0) (h4:¬ 4≤a.boxes.length) (hv:¬ 1000000≤a.valid) :
  Calls Tryz.prog 54 #[.pointer (some ⟨ga,0,none⟩),nv] w fun e w'=>∃ u S',e=.returned u∧jk w' u (aQ 0 (a.valid+1))∧aT w w' S ga∧aU w' S' ga ⟨a.valid+1,a.boxes.takeWhile (fun x:aD=>dH x.name nm) ++ (⟨nm,a.valid+1,1,0,[],[],0⟩ :: a.boxes.dropWhile (fun x:aD=>dH x.name nm)),a.seen⟩∧∀ k,S' k→S k∨w.heap.size≤k:=by
 obtain ⟨S0,iL⟩:∃ S0:Nat→Prop,S0=fun k=>S k∧k < w.heap.size:=⟨_,rfl⟩
 have dU:Hid (∀ k,S0 k→S k):=by subst iL;exact fun k h=>h.1
 have HSL:Hid (∀ k,S0 k→k < w.heap.size):=by subst iL;exact fun k h=>h.2
 have HP:Hid (∀ w',Below w.heap.size w w'→aU w' S0 ga a):=by subst iL;exact fun w' h=>hp.cut.below h
 clear iL
 have iI:=hst w (Nat.le_refl _) (bT.refl _ _)
 have MX:Hid (Oct nm):=iI.1
 have HST:Hid (∀ w',w.heap.size≤w'.heap.size→bT w w' 5→Bs w' nv nm):=hst
 clear hst
 have HN:Hid (∀ w',Below w.heap.size w w'→Bs w' nv nm):=fun w' h=>iI.below h
 have bM:=hp.lt
 obtain ⟨q0,q1,q2,rfl⟩:=iI.aG
 clear hp iI
 have HB:Hid (Below w.heap.size w (w.alloc (.cells #[.int .i64 0,.int .i64 0,.slice none 0 0,.int .i64 0,.int .i64 0,.int .i64 0,.slice none 0 0,.slice none 0 0,.int .i64 0,.slice none 0 0] 40))):=bn _ _
 have HK:Hid ((w.alloc (.cells #[.int .i64 0,.int .i64 0,.slice none 0 0,.int .i64 0,.int .i64 0,.int .i64 0,.slice none 0 0,.slice none 0 0,.int .i64 0,.slice none 0 0] 40)).heap[w.heap.size]?=some (.cells #[.int .i64 0,.int .i64 0,.slice none 0 0,.int .i64 0,.int .i64 0,.int .i64 0,.slice none 0 0,.slice none 0 0,.int .i64 0,.slice none 0 0] 40 (0,0))):=aV w _
 go_enter Tryz.func54,Tryz.ntmps54
 go_upto_region 1 with fail
 generalize w.alloc (.cells #[.int .i64 0,.int .i64 0,.slice none 0 0,.int .i64 0,.int .i64 0,.int .i64 0,.slice none 0 0,.slice none 0 0,.int .i64 0,.slice none 0 0] 40)=W at HB HK ⊢
 obtain ⟨u0,u1,c0,c1,c2,hb,hv⟩:=(HP.out W HB.out).cells
 have hl2:ga < W.heap.size:=Nat.lt_of_lt_of_le bM HB.out.size
 have HV:Hid _:=hv
 obtain ⟨e0,e1,rfl,-⟩:=hb.v.form
 clear hb hv
 go_wp2_with fail
 refine (uM _ _ a nm _ HV.out (HN.out _ HB.out) hbl).mono ?_
 rintro e w1 ⟨rfl,B1⟩
 have HB1:Hid (Below w.heap.size w w1):=Below.step HB.out B1
 have jK:Hid _:=ay B1 HK.out
 have d0:w1.cell? ⟨ga,0,none⟩=some (.int .i64 a.valid):=(B1.cell (p:=⟨ga,0,none⟩) hl2).trans c0
 have d1:w1.cell? ⟨ga,1,none⟩=some (.slice e0 a.boxes.length e1):=(B1.cell (p:=⟨ga,1,none⟩) hl2).trans c1
 have hl3:ga < w1.heap.size:=Nat.lt_of_lt_of_le hl2 B1.size
 clear B1 HK c0 c1 c2 HV HN
 generalize bB (fun x:aD=>decide (x.name=nm)) a.boxes=fi at *
 have Un:(a.boxes.length:Int) < 4:=by omega
 have HA1:Hid (aU w1 S0 ga a):=HP.out w1 HB1.out
 have hvl:(-9223372036854775808:Int)≤a.valid:=by
  obtain ⟨-,-,-,-,-,-,r⟩:=HA1.out
  exact r.1
 have hv64:aB (a.valid+1):=⟨by omega,by omega⟩
 have UU:Hid (aB (a.valid+1)):=hv64
 have fz:=HA1.out.open
 have HA2:Hid (aU (w1.setCell ⟨ga,0,none⟩ (.int .i64 (a.valid+1))) S0 ga ⟨a.valid+1,a.boxes,a.seen⟩):=HA1.out.J4 hv64
 have HT2:Hid (aT w (w1.setCell ⟨ga,0,none⟩ (.int .i64 (a.valid+1))) S0 ga):=(aT.below (S:=S0) HB1.out).trans (aT.set (S:=S0) HA1.out) (fun k h=>.inl h)
 have dw:Hid _:=bP (k:=ga) (i:=0) (v:=.int .i64 (a.valid+1)) jK.out (by omega)
 have hs2:(w1.setCell ⟨ga,0,none⟩ (.int .i64 (a.valid+1))).heap.size=w1.heap.size:=aZ
 have hs1:w.heap.size < w1.heap.size:=lt_of_heap jK.out
 clear hv64
 go_upto_region 6 with fail
 generalize w1.setCell ⟨ga,0,none⟩ (.int .i64 (a.valid+1))=w0 at HA2 HT2 dw hs2 ⊢
 clear d0 d1 fz HA1 HB1 jK HP HB
 have mo:Hid (∀ w',Below w0.heap.size w0 w'→Bs w' (.slice q0 q1 q2) nm):=fun w' h=>HST.out w' (Nat.le_trans HT2.out.1 h.size) (HT2.out.2.2.1.trans (gG h))
 clear HST
 have aiZ:ga < w0.heap.size:=HA2.out.lt
 obtain ⟨v0,v1,k0,k1,-,hbq,-⟩:=HA2.out.cells
 have MZ:Hid (w0.cell? ⟨ga,0,none⟩=some (.int .i64 (a.valid+1))):=k0
 have gI:Hid (w0.cell? ⟨ga,1,none⟩=some v0):=k1
 have ug:Hid (jS w0 S0 v0 a.boxes):=hbq
 have HS:Hid (∀ w',Below w0.heap.size w0 w'→w'.cell? ⟨ga,0,none⟩=some (.int .i64 (a.valid+1))):=fun w' h=>cell_later h MZ.out
 obtain ⟨i0,hi,hz0,hz1,hz2⟩:=info_parts uH
 obtain ⟨i1,hj,hy0,hy1,hy2⟩:=info_parts info5
 have hl3:nm.length≤maxLen:=by unfold maxLen;omega
 have hl4:nm.length * 1≤140737488355328:=by omega
 obtain ⟨N,hNe⟩:∃ N,N=w0.heap.size:=⟨_,rfl⟩
 have mU:Hid (N=w0.heap.size):=hNe
 have UW:N≤w0.heap.size:=by omega
 clear k0 k1 hbq hNe hs2
 go_cut [5] (fun s wx=>∃ bx na nn nc,s=.pointer (some ⟨bx,0,none⟩)∧Hid (wx.heap[bx]?=some (.cells #[.slice na nn nc,.int .i64 (a.valid+1),.int .i64 1,.int .i64 0,.slice none 0 0,.slice none 0 0,.int .i64 0] 37 (0,0)))∧Hid (RO wx (fun k=>N≤k) (.slice na nn nc) nm)∧N≤bx∧Hid (Below w0.heap.size w0 wx))
 case first =>
  have hN0:N≤w0.drew.heap.size:=UW
  have D0:Hid (Below w0.heap.size w0 w0.drew):=bd _ _
  refine wp_region_held_drew (S:=fun w'=>w'.cell? ⟨ga,0,none⟩=some (.int .i64 (a.valid+1))) (by kernel_rfl) (HS.out _ D0.out) (fun aks=>(show wpAnyH _ _ _ _ _ 10 #[false,false,false,false,false,false,false,false,false,false] _ _ from ?_))
  refine tq 1 37 aks ?_
  refine tq 3 39 aks ?_
  refine tq 4 40 aks ?_
  refine tq 5 41 aks ?_
  refine tq 6 42 aks ?_
  generalize hwd:w0.drew=x0 at D0 hN0 aks ⊢
  clear hwd
  refine wpAnyH_ready (rs:=[0,8]) (by kernel_rfl) (by simp) ?_
  refine AllReadyH.cons rfl (fun K hK=>?_) (AllReadyH.cons rfl (fun K hK=>?_) AllReadyH.nil)
  ·go_simp
   have AB:Below x0.heap.size x0 (x0.alloc (.cells #[] 5)):=bn _ _
   have D1:=ak (Below.step D0.out AB)
   have hN1:=Nat.le_trans hN0 AB.size
   have UY:=ak (kK x0 5 1 N hN0)
   have hE1:w0.heap.size≤x0.heap.size:=D0.out.size
   refine hK.out _ _ (HS.out _ D1.out) (fun aks=>?_)
   clear hK K AB
   generalize hw1:x0.alloc (.cells #[] 5)=x1 at *
   clear hw1
   refine wpAnyH_ready (rs:=[2,8]) (by kernel_rfl) (by simp) ?_
   refine AllReadyH.cons rfl (fun K hK=>?_) (AllReadyH.cons rfl (fun K hK=>?_) AllReadyH.nil)
   ·refine dO (by kernel_rfl) (j5 (B:=N) 38 rfl (.tmp 36) (.tmp 37) rfl UY.out (Bs.rY (mo.out _ D1.out)) (one_byte _) Tryz.underlying26 hj hy0 hy1 hy2 rfl (by omega) rfl rfl hl3 hl4 hN1 ?_)
    intro V x2 xs hO hX hG hB
    have hG':x1.grownBy x2 (some (x0.heap.size)):=hG
    have D2:=ak (kP D1.out hG' (show w0.heap.size≤x0.heap.size from hE1))
    have Mi:=Nat.le_trans hN1 hG'.size
    have hR:RO x2 (fun k=>N≤k) V nm:=rZ MX.out hO hX (fun g hg=>dJ hO hg)
    obtain ⟨na,nn,nc,hV⟩:=hR.bs.aG
    subst hV
    have ad4:Hid (RO x2 (fun k=>N≤k) (.slice na nn nc) nm):=hR
    refine hK.out _ _ (HS.out _ D2.out) (fun aks=>?_)
    clear hK K hO hX hG hG' hB hR
    conv=>arg 8;simp only [Act.put,sA,s0,sS]
    refine tq 7 43 aks ?_
    refine wpAnyH_ready (rs:=[8]) (by kernel_rfl) (by simp) ?_
    refine AllReadyH.cons rfl (fun K hK=>?_) AllReadyH.nil
    go_simp
    have AB:Below x2.heap.size x2 (x2.alloc (.cells #[.slice none 0 0,.int .i64 0,.int .i64 0,.int .i64 0,.slice none 0 0,.slice none 0 0,.int .i64 0] 37)):=bn _ _
    have D3:=ak (Below.step D2.out AB)
    have hN3:=Nat.le_trans Mi AB.size
    have ad5:=ak (ad4.out.below AB)
    have M0:=ak (aV x2 (.cells #[.slice none 0 0,.int .i64 0,.int .i64 0,.int .i64 0,.slice none 0 0,.slice none 0 0,.int .i64 0] 37))
    have hX3:w0.heap.size≤x2.heap.size:=D2.out.size
    refine hK.out _ _ (HS.out _ D3.out) (fun aks=>?_)
    clear hK K AB
    generalize hw3:x2.alloc (.cells #[.slice none 0 0,.int .i64 0,.int .i64 0,.int .i64 0,.slice none 0 0,.slice none 0 0,.int .i64 0] 37)=x3 at *
    clear hw3
    refine wpAnyH_ready (rs:=[9]) (by kernel_rfl) (by simp) ?_
    refine AllReadyH.cons rfl (fun K hK=>?_) AllReadyH.nil
    obtain ⟨zx,zl⟩:=bR M0.out
    obtain ⟨q0,q1,q2,q3,q4,q5,q6⟩:=bF M0.out
    obtain ⟨KF,DF,RF⟩:=MW M0.out D3.out hX3 ad5.out (.slice na nn nc) (.int .i64 (a.valid+1)) (.int .i64 1) (.int .i64 0) (.slice none 0 0) (.slice none 0 0) (.int .i64 0)
    go_simp
    refine hK.out _ _ (HS.out _ DF) (fun aks=>?_)
    clear hK K
    refine wpAnyH_done (by kernel_rfl) ?_ _
    go_wp2
    go_meet
    case rel=>exact ⟨_,_,_,_,rfl,KF,RF,Mi,DF⟩
   ·go_simp
    have AB:Below x1.heap.size x1 (x1.alloc (.cells #[.slice none 0 0,.int .i64 0,.int .i64 0,.int .i64 0,.slice none 0 0,.slice none 0 0,.int .i64 0] 37)):=bn _ _
    have D4:=ak (Below.step D1.out AB)
    have UZ:=Nat.le_trans hN1 AB.size
    have U0:=ak (own_below UY.out AB)
    have ad7:=ak (aV x1 (.cells #[.slice none 0 0,.int .i64 0,.int .i64 0,.int .i64 0,.slice none 0 0,.slice none 0 0,.int .i64 0] 37))
    have uf:w0.heap.size≤x1.heap.size:=D1.out.size
    refine hK.out _ _ (HS.out _ D4.out) (fun aks=>?_)
    clear hK K AB
    generalize hw4:x1.alloc (.cells #[.slice none 0 0,.int .i64 0,.int .i64 0,.int .i64 0,.slice none 0 0,.slice none 0 0,.int .i64 0] 37)=x4 at *
    clear hw4
    refine wpAnyH_ready (rs:=[2]) (by kernel_rfl) (by simp) ?_
    refine AllReadyH.cons rfl (fun K hK=>?_) AllReadyH.nil
    refine dO (by kernel_rfl) (j5 (B:=N) 38 rfl (.tmp 36) (.tmp 37) rfl U0.out (Bs.rY (mo.out _ D4.out)) (one_byte _) Tryz.underlying26 hj hy0 hy1 hy2 rfl (by omega) rfl rfl hl3 hl4 UZ ?_)
    intro V x5 xs hO hX hG hB
    have hG':x4.grownBy x5 (some (x0.heap.size)):=hG
    have D5:=ak (kP D4.out hG' (show w0.heap.size≤x0.heap.size from hE1))
    have hN5:=Nat.le_trans UZ hG'.size
    have KE:=qR U0.out
    have M4:=ak (BK hG' ad7.out KE (by decide))
    clear KE
    have hR:RO x5 (fun k=>N≤k) V nm:=rZ MX.out hO hX (fun g hg=>dJ hO hg)
    obtain ⟨na,nn,nc,hV⟩:=hR.bs.aG
    subst hV
    have ad8:Hid (RO x5 (fun k=>N≤k) (.slice na nn nc) nm):=hR
    refine hK.out _ _ (HS.out _ D5.out) (fun aks=>?_)
    clear hK K hO hX hG hG' hB hR
    conv=>arg 8;simp only [Act.put,sA,s0,sS]
    refine tq 7 43 aks ?_
    refine wpAnyH_ready (rs:=[9]) (by kernel_rfl) (by simp) ?_
    refine AllReadyH.cons rfl (fun K hK=>?_) AllReadyH.nil
    obtain ⟨zx,zl⟩:=bR M4.out
    obtain ⟨q0,q1,q2,q3,q4,q5,q6⟩:=bF M4.out
    obtain ⟨KF,DF,RF⟩:=MW M4.out D5.out uf ad8.out (.slice na nn nc) (.int .i64 (a.valid+1)) (.int .i64 1) (.int .i64 0) (.slice none 0 0) (.slice none 0 0) (.int .i64 0)
    go_simp
    refine hK.out _ _ (HS.out _ DF) (fun aks=>?_)
    clear hK K
    refine wpAnyH_done (by kernel_rfl) ?_ _
    go_wp2
    go_meet
    case rel=>exact ⟨_,_,_,_,rfl,KF,RF,hN1,DF⟩
  ·go_simp
   have AB:Below x0.heap.size x0 (x0.alloc (.cells #[.slice none 0 0,.int .i64 0,.int .i64 0,.int .i64 0,.slice none 0 0,.slice none 0 0,.int .i64 0] 37)):=bn _ _
   have D6:=ak (Below.step D0.out AB)
   have Mk:=Nat.le_trans hN0 AB.size
   have ad9:=ak (aV x0 (.cells #[.slice none 0 0,.int .i64 0,.int .i64 0,.int .i64 0,.slice none 0 0,.slice none 0 0,.int .i64 0] 37))
   have sw:w0.heap.size≤x0.heap.size:=D0.out.size
   refine hK.out _ _ (HS.out _ D6.out) (fun aks=>?_)
   clear hK K AB
   generalize zm:x0.alloc (.cells #[.slice none 0 0,.int .i64 0,.int .i64 0,.int .i64 0,.slice none 0 0,.slice none 0 0,.int .i64 0] 37)=x6 at *
   clear zm
   refine wpAnyH_ready (rs:=[0]) (by kernel_rfl) (by simp) ?_
   refine AllReadyH.cons rfl (fun K hK=>?_) AllReadyH.nil
   go_simp
   have AB:Below x6.heap.size x6 (x6.alloc (.cells #[] 5)):=bn _ _
   have D7:=ak (Below.step D6.out AB)
   have U1:=Nat.le_trans Mk AB.size
   have aea:=ak (ay AB ad9.out)
   have U2:=ak (kK x6 5 1 N Mk)
   have hE7:w0.heap.size≤x6.heap.size:=D6.out.size
   refine hK.out _ _ (HS.out _ D7.out) (fun aks=>?_)
   clear hK K AB
   generalize hw7:x6.alloc (.cells #[] 5)=x7 at *
   clear hw7
   refine wpAnyH_ready (rs:=[2]) (by kernel_rfl) (by simp) ?_
   refine AllReadyH.cons rfl (fun K hK=>?_) AllReadyH.nil
   refine dO (by kernel_rfl) (j5 (B:=N) 38 rfl (.tmp 36) (.tmp 37) rfl U2.out (Bs.rY (mo.out _ D7.out)) (one_byte _) Tryz.underlying26 hj hy0 hy1 hy2 rfl (by omega) rfl rfl hl3 hl4 U1 ?_)
   intro V x8 xs hO hX hG hB
   have hG':x7.grownBy x8 (some (x6.heap.size)):=hG
   have D8:=ak (kP D7.out hG' (show w0.heap.size≤x6.heap.size from hE7))
   have hN8:=Nat.le_trans U1 hG'.size
   have KE:=qR U2.out
   have M5:=ak (BK hG' aea.out KE (by decide))
   clear KE
   have hR:RO x8 (fun k=>N≤k) V nm:=rZ MX.out hO hX (fun g hg=>dJ hO hg)
   obtain ⟨na,nn,nc,hV⟩:=hR.bs.aG
   subst hV
   have aec:Hid (RO x8 (fun k=>N≤k) (.slice na nn nc) nm):=hR
   refine hK.out _ _ (HS.out _ D8.out) (fun aks=>?_)
   clear hK K hO hX hG hG' hB hR
   conv=>arg 8;simp only [Act.put,sA,s0,sS]
   refine tq 7 43 aks ?_
   refine wpAnyH_ready (rs:=[9]) (by kernel_rfl) (by simp) ?_
   refine AllReadyH.cons rfl (fun K hK=>?_) AllReadyH.nil
   obtain ⟨zx,zl⟩:=bR M5.out
   obtain ⟨q0,q1,q2,q3,q4,q5,q6⟩:=bF M5.out
   obtain ⟨KF,DF,RF⟩:=MW M5.out D8.out sw aec.out (.slice na nn nc) (.int .i64 (a.valid+1)) (.int .i64 1) (.int .i64 0) (.slice none 0 0) (.slice none 0 0) (.int .i64 0)
   go_simp
   refine hK.out _ _ (HS.out _ DF) (fun aks=>?_)
   clear hK K
   refine wpAnyH_done (by kernel_rfl) ?_ _
   go_wp2
   go_meet
   case rel=>exact ⟨_,_,_,_,rfl,KF,RF,hN0,DF⟩
 case rest =>
  obtain ⟨bx,na,nn,nc,rfl,nU,U3,hbx,HD⟩:=hcut
  have hNe:=mU.out
  subst hNe
  have BM:Hid (RO wc Any (.slice na nn nc) nm):=U3.out.mono fun _ _=>trivial
  have hlx:=lt_of_heap nU.out
  have Ig:Hid (aU wc S0 ga ⟨a.valid+1,a.boxes,a.seen⟩):=HA2.out.below HD.out
  have U4:Hid (aT w wc S0 ga):=HT2.out.trans (aT.below (S:=S0) HD.out) (fun k h=>.inl h)
  have M6:Hid _:=ay HD.out dw.out
  have U5:Hid (∀ w',Below wc.heap.size wc w'→Bs w' (.slice q0 q1 q2) nm):=fun w' h=>mo.out w' (Below.step HD.out h)
  have M7:ga < wc.heap.size:=Ig.out.lt
  have hlr:w.heap.size < wc.heap.size:=lt_of_heap M6.out
  have U6:Hid (∀ k,S0 k→k < wc.heap.size):=fun k h=>by have:=HSL.out k h;omega
  obtain ⟨v0,v1,k0,k1,-,hbq,-⟩:=Ig.out.cells
  have MZ:Hid (wc.cell? ⟨ga,0,none⟩=some (.int .i64 (a.valid+1))):=k0
  have gI:Hid (wc.cell? ⟨ga,1,none⟩=some v0):=k1
  have ug:Hid (jS wc S0 v0 a.boxes):=hbq
  clear k0 k1 hbq HD HA2 HT2 dw mo HS U3 mU UW
  go_upto_block 0 with fail
  go_cut [6] (fun iv wr=>∃ k:Nat,k≤a.boxes.length∧iv=.int .i64 k∧Hid (∀ j x,j < k→a.boxes[j]?=some x→dH x.name nm=true)∧Hid (∀ x,a.boxes[k]?=some x→dH x.name nm=false)∧Hid (Below wc.heap.size wc wr))
  case first =>
   rcases Ow.el ug.out with ⟨hv0,hnil⟩ | ⟨g,cap,cur,hv0,hgh,hc1,hc2,hc3,iW,hel⟩
   ·subst hv0
    have U7:Hid (a.boxes=[]):=hnil
    clear hnil ug
    go_wp2
    go_loopw [6] (fun iv wr=>∃ k:Nat,k≤a.boxes.length∧iv=.int .i64 k∧Hid (∀ j x,j < k→a.boxes[j]?=some x→dH x.name nm=true)∧Hid (Below wc.heap.size wc wr)) (fun iv _=>a.boxes.length - (intOf iv).toNat)
    case atStart=>exact ⟨0,Nat.zero_le _,rfl,(fun j m hj=>absurd hj (Nat.not_lt_zero _)),Below.refl _ _⟩
    case round =>
     obtain ⟨k,hk,rfl,hA,hB⟩:=hrel
     have hwr:=hB.out.size
     have hgr:ga < wr.drew.heap.size:=by show ga < wr.heap.size;omega
     have aed:ga < wr.heap.size:=by omega
     have jC:Hid (Below wc.heap.size wc wr.drew):=hB.out.drew
     have hk0:k=0:=by have h:=hk;rw [U7.out] at h;simpa using h
     subst hk0
     go_wp2
     refine wp_region_held_drew (S:=fun w'=>w'.cell? ⟨ga,1,none⟩=some (.slice none 0 0)) (by kernel_rfl) ((jC.out.cell (p:=⟨ga,1,none⟩) M7).trans gI.out) (fun aks=>(show wpAnyH _ _ _ _ _ 21 #[false,false,false,false,false,false,false,false,false,false,false,false,false,false,false,false,false,false,false,false,false] _ _ from ?_))
     refine tq 0 44 aks ?_
     refine tq 1 45 aks ?_
     refine tq 2 46 aks ?_
     refine tq 3 47 aks ?_
     refine tq 4 48 aks ?_
     refine tq 5 49 aks ?_
     refine tq 6 50 aks ?_
     refine tq 7 51 aks ?_
     refine BI (by kernel_rfl) (fun _ _ _ _ _ h=>h) aks [8,9,10,11,12,13,14,15,16,17,18,19] [52,53,54,55,56,57,58,59,60,61,62,63] _ _ _ (by kernel_rfl) ?_
     simp only [List.foldl_cons,List.foldl_nil,Act.put,sA,s0,sS]
     refine tq 20 64 aks ?_
     refine wpAnyH_done (by kernel_rfl) ?_ _
     go_wp2
     go_meet
     case rel=>exact ⟨_,by omega,rfl,hA,(show Hid _ from fun y hy=>by rw [U7.out] at hy;cases hy),jC⟩
   ·subst hv0
    have Ea:Hid _:=hgh
    have gW:Hid (∀ w',Below wc.heap.size wc w'→cK w' (.slice (some ⟨g,0,none⟩) a.boxes.length cap) a.boxes):=fun w' h=>ug.out.v.below lq h
    have ai3:Hid (EL 7 gT wc a.boxes S0 (cur.toList.take (a.boxes.length * 7))):=hel.mono fun k h=>h.1
    have ai4:g < wc.heap.size:=lt_of_heap hgh
    clear hgh hel ug
    go_wp2
    go_loopw [6] (fun iv wr=>∃ k:Nat,k≤a.boxes.length∧iv=.int .i64 k∧Hid (∀ j x,j < k→a.boxes[j]?=some x→dH x.name nm=true)∧Hid (Below wc.heap.size wc wr)) (fun iv _=>a.boxes.length - (intOf iv).toNat)
    case atStart=>exact ⟨0,Nat.zero_le _,rfl,(fun j m hj=>absurd hj (Nat.not_lt_zero _)),Below.refl _ _⟩
    case round =>
     obtain ⟨k,hk,rfl,hA,hB⟩:=hrel
     have hwr:=hB.out.size
     have hgr:ga < wr.drew.heap.size:=by show ga < wr.heap.size;omega
     have aed:ga < wr.heap.size:=by omega
     have jC:Hid (Below wc.heap.size wc wr.drew):=hB.out.drew
     by_cases hlt:k < a.boxes.length
     ·obtain ⟨x,hx⟩:∃ x,a.boxes[k]?=some x:=⟨a.boxes[k],aK hlt⟩
      obtain ⟨b,off,cp,t,z1,z2,hv',hlb,f0,-,-,-,-,-,-,ht,-⟩:=cK.cell (gW.out wr.drew jC.out) k x hx
      simp only [Value.slice.injEq,Option.some.injEq,Addr.mk.injEq,and_true,true_and] at hv'
      obtain ⟨⟨rfl,rfl⟩,rfl⟩:=hv'
      rw [Nat.zero_add] at f0
      have lT:Hid (∀ w',Below wr.drew.heap.size wr.drew w'→(convert 26 9 (t)).run Tryz.prog w'=.ok (.string (strOfNums x.name)) w'∧(convert 26 9 (.slice q0 q1 q2)).run Tryz.prog w'=.ok (.string (strOfNums nm)) w'):=fun w' h=>⟨wm (ht.below h),wm (U5.out w' (Below.step jC.out h))⟩
      obtain ⟨ta,tn,tc,rfl⟩:=ht.aG
      have Eb:Hid (Op.bytesLess (strOfNums x.name).toList (strOfNums nm).toList=dH x.name nm):=by simp only [Hid,dH,Jg]
      have lK:Hid (a.boxes[k]?=some x):=hx
      have hki:(k:Int) < a.boxes.length:=by omega
      have pF:Hid ((wr.drew.cell? ⟨ga,1,none⟩=some (.slice (some ⟨g,0,none⟩) a.boxes.length cap)∧wr.drew.cell? ⟨g,k * 7,none⟩=some (.slice ta tn tc))∧(convert 26 9 (.slice ta tn tc)).run Tryz.prog wr.drew=.ok (.string (strOfNums x.name)) wr.drew∧(convert 26 9 (.slice q0 q1 q2)).run Tryz.prog wr.drew=.ok (.string (strOfNums nm)) wr.drew):=⟨⟨(jC.out.cell (p:=⟨ga,1,none⟩) M7).trans gI.out,f0⟩,lT.out _ (Below.refl _ _)⟩
      clear ht hx f0 lT hlb
      have HZ:Hid (∃ z,z=dH x.name nm):=⟨_,rfl⟩
      obtain ⟨z,hz⟩:=HZ.out
      have hb:=Eb.out.trans hz.symm
      have HZ:Hid (z=dH x.name nm):=hz
      clear hz Eb
      go_wp2
      refine wp_region_held_drew (S:=fun w'=>(w'.cell? ⟨ga,1,none⟩=some (.slice (some ⟨g,0,none⟩) a.boxes.length cap)∧w'.cell? ⟨g,k * 7,none⟩=some (.slice ta tn tc))∧(convert 26 9 (.slice ta tn tc)).run Tryz.prog w'=.ok (.string (strOfNums x.name)) w'∧(convert 26 9 (.slice q0 q1 q2)).run Tryz.prog w'=.ok (.string (strOfNums nm)) w') (by kernel_rfl) (pF.out) (fun aks=>(show wpAnyH _ _ _ _ _ 21 #[false,false,false,false,false,false,false,false,false,false,false,false,false,false,false,false,false,false,false,false,false] _ _ from ?_))
      refine tq 0 44 aks ?_
      refine tq 1 45 aks ?_
      refine tq 2 46 aks ?_
      refine tq 3 47 aks ?_
      refine tq 4 48 aks ?_
      refine tq 5 49 aks ?_
      refine tq 6 50 aks ?_
      refine tq 7 51 aks ?_
      refine tq 8 52 aks ?_
      refine tq 9 53 aks ?_
      refine tq 10 54 aks ?_
      refine tq 11 55 aks ?_
      refine tq 12 56 aks ?_
      refine tq 13 57 aks ?_
      refine tq 14 58 aks ?_
      refine tq 15 59 aks ?_
      refine tq 16 60 aks ?_
      refine tq 17 61 aks ?_
      refine tq 18 62 aks ?_
      refine tq 19 63 aks ?_
      refine tq 20 64 aks ?_
      refine wpAnyH_done (by kernel_rfl) ?_ _
      cases z with
      | true =>
       go_wp2
       go_roundw
       case rel =>
        refine ⟨k+1,by omega,by go_num,(show Hid _ from fun j y hj hy=>?_),jC⟩
        by_cases e:j=k
        ·subst e;rw [lK.out] at hy;cases hy;exact HZ.out.symm
        ·exact hA.out j y (by omega) hy
       case measure=>simp [intOf];omega
      | false =>
       go_wp2
       go_meet
       case rel=>exact ⟨_,by omega,rfl,hA,(show Hid _ from fun y hy=>by rw [lK.out] at hy;cases hy;exact HZ.out.symm),jC⟩
     ·obtain rfl:k=a.boxes.length:=by omega
      go_wp2
      refine wp_region_held_drew (S:=fun w'=>w'.cell? ⟨ga,1,none⟩=some (.slice (some ⟨g,0,none⟩) a.boxes.length cap)) (by kernel_rfl) ((jC.out.cell (p:=⟨ga,1,none⟩) M7).trans gI.out) (fun aks=>(show wpAnyH _ _ _ _ _ 21 #[false,false,false,false,false,false,false,false,false,false,false,false,false,false,false,false,false,false,false,false,false] _ _ from ?_))
      refine tq 0 44 aks ?_
      refine tq 1 45 aks ?_
      refine tq 2 46 aks ?_
      refine tq 3 47 aks ?_
      refine tq 4 48 aks ?_
      refine tq 5 49 aks ?_
      refine tq 6 50 aks ?_
      refine tq 7 51 aks ?_
      refine BI (by kernel_rfl) (fun _ _ _ _ _ h=>h) aks [8,9,10,11,12,13,14,15,16,17,18,19] [52,53,54,55,56,57,58,59,60,61,62,63] _ _ _ (by kernel_rfl) ?_
      simp only [List.foldl_cons,List.foldl_nil,Act.put,sA,s0,sS]
      refine tq 20 64 aks ?_
      refine wpAnyH_done (by kernel_rfl) ?_ _
      go_wp2
      go_meet
      case rel=>exact ⟨_,by omega,rfl,hA,(show Hid _ from fun y hy=>by rw [List.getElem?_eq_none (Nat.le_refl _)] at hy;cases hy),jC⟩
  case rest =>
   obtain ⟨k,hk,rfl,hA,hZ,zo⟩:=hcut
   have U8:Hid _:=takeWhile_take (fun x:aD=>dH x.name nm) a.boxes k hA.out hZ.out hk
   have Fy:=zo.out.size
   have M8:=ak (Ig.out.below zo.out)
   have HTl:Hid (aT w wc S0 ga):=U4.out.trans (aT.below (S:=S0) zo.out) (fun k h=>.inl h)
   have HKl:=ak (ay zo.out M6.out)
   have U9:=ak (ay zo.out nU.out)
   have HRl:Hid (RO wc Any (.slice na nn nc) nm):=BM.out.below zo.out
   have HLl:Hid (∀ k,S0 k→k < wc.heap.size):=fun k h=>Nat.lt_of_lt_of_le (U6.out k h) Fy
   have aei:ga < wc.heap.size:=by omega
   have ai5:bx < wc.heap.size:=lt_of_heap U9.out
   clear Ig U4 M6 nU BM U6 MZ gI ug hA hZ U5 zo
   obtain ⟨vb,-,-,l1,-,hbq,-⟩:=M8.out.cells
   obtain ⟨V1,V3,n3,CL,hsrc1,h3,hel,Ag,ways⟩:=ad2 hbq hk
   have H3:=ak h3
   have zq:=ak Ag
   have M9:=ak hel
   have Ec:∀ y ∈ CL.take (k * 7),y.oneCell'=true:=fun y hy=>zk M9.out y (List.mem_of_mem_take hy)
   have Ed:∀ y ∈ CL.drop (k * 7),y.oneCell'=true:=fun y hy=>zk M9.out y (List.mem_of_mem_drop hy)
   clear h3 hel hbq Ag
   rcases ways with ⟨rfl,rfl,rfl,rfl,rfl⟩ | ⟨g,cap,rfl,hcp,hgl,rfl,⟨hkc,rfl,rfl⟩ | ⟨rfl,rfl,rfl,rfl⟩⟩
   all_goals
    go_wp2_with (at_builtin;refine LX (B:=wc.heap.size) rfl (.tmp 67) (.tmp 73) rfl (World.ownsRow_nil _ _ _ _) hsrc1 Ec Tryz.underlying31 hi hz0 hz1 hz2 rfl (by omega) rfl rfl (by unfold maxLen;omega) (by omega) (Nat.le_refl _) ?_)
    intro V w4 hO4 hG4 hB4
    obtain ⟨p1,p2,p3,rfl⟩:=jL hO4
    have D4:Below wc.heap.size wc w4:=nM (Below.refl _ _) hG4 (fun j hj=>by cases hj)
    have hw4:=D4.size
    obtain ⟨b0,b1,b2,b3,b4,b5,b6⟩:=bF (ay D4 U9.out)
    have aej:bx < w4.heap.size:=by omega
    have Ih:Below w4.heap.size w4 (w4.alloc (.cells #[.slice na nn nc,.int .i64 (a.valid+1),.int .i64 1,.int .i64 0,.slice none 0 0,.slice none 0 0,.int .i64 0] 37)):=bn _ _
    have zS:=ak (own_below hO4 Ih)
    have xE:tZ (w4.alloc (.cells #[.slice na nn nc,.int .i64 (a.valid+1),.int .i64 1,.int .i64 0,.slice none 0 0,.slice none 0 0,.int .i64 0] 37)) (.slice (some ⟨w4.heap.size,0,none⟩) 1 1) 1 7 [.slice na nn nc,.int .i64 (a.valid+1),.int .i64 1,.int .i64 0,.slice none 0 0,.slice none 0 0,.int .i64 0]:=.inr ⟨_,_,_,rfl,rfl,fun j y hy=>by rw [cell_of_row _ _ _ _ _ (0,0) (aV w4 (.cells #[.slice na nn nc,.int .i64 (a.valid+1),.int .i64 1,.int .i64 0,.slice none 0 0,.slice none 0 0,.int .i64 0] 37)),Nat.zero_add];simpa using hy⟩
    have Va:∀ y ∈ [Value.slice na nn nc,Value.int .i64 (a.valid+1),Value.int .i64 1,Value.int .i64 0,Value.slice none 0 0,Value.slice none 0 0,Value.int .i64 0],y.oneCell'=true:=by simp [Value.oneCell']
    have hsz5:=Nat.le_trans hw4 Ih.size
    clear hG4 hB4 hO4 hsrc1
    go_wp2_with (at_builtin;refine LX (B:=wc.heap.size) rfl (.tmp 75) (.tmp 77) rfl zS.out xE Va Tryz.underlying31 hi hz0 hz1 hz2 rfl (by omega) rfl rfl (by unfold maxLen;omega) (by omega) hsz5 ?_)
    intro V w6 iw fE lJ
    obtain ⟨t1,t2,t3,rfl⟩:=jL iw
    have HD6:Hid (Below wc.heap.size wc w6):=nM (Below.step D4 Ih) fE (fun j hj=>dJ zS.out hj)
    have zm:=HD6.out.size
    have l6:=(HD6.out.cell (p:=⟨ga,1,none⟩) aei).trans l1
    have ai6:ga < w6.heap.size:=by omega
    have oO:=ak iw
    have Vb:=H3.out w6 HD6.out
    clear fE lJ iw zS xE Va Ih b0 b1 b2 b3 b4 b5 b6 D4 aej
    go_wp2_with (at_builtin;refine LX (B:=wc.heap.size) rfl (.tmp 80) (.tmp 86) rfl oO.out Vb Ed Tryz.underlying31 hi hz0 hz1 hz2 rfl (by omega) rfl rfl (by have:=zq.out;unfold maxLen;omega) (by have:=zq.out;omega) zm ?_)
    intro V w7 zu uW Na
    obtain ⟨y1,y2,y3,rfl⟩:=jL zu
    have D7:Below wc.heap.size wc w7:=nM HD6.out uW (fun j hj=>dJ oO.out hj)
    have rO:=ak (M8.out.below D7)
    have uh:=ak (ac4 (A:=⟨a.valid+1,a.boxes,a.seen⟩) M8.out HLl.out D7 M9.out HRl.out UU.out zu (by have:=zq.out;first | omega | (simp only;omega) | simp only) (by simp) hk)
    have xG:=ak ((HTl.out.trans (aT.below (S:=S0) D7) (fun k h=>.inl h)).trans (aT.set (S:=S0) (i:=1) (x:=.slice y1 y2 y3) rO.out) (fun k h=>.inl h))
    have gX:=ak (bP (k:=ga) (i:=1) (v:=.slice y1 y2 y3) (ay D7 HKl.out) (by omega))
    have Ee:=rO.out.open
    obtain ⟨Vd,Ve,c70,Ef,-⟩:=rO.out.cells
    have Eh:=rO.out.lt
    clear zu uW Na D7 l6 Vb
    go_upto_region 14 with fail
    clear Ee c70 Ef Eh
    generalize w7.setCell ⟨ga,1,none⟩ (.slice y1 y2 y3)=w8 at uh xG gX ⊢
    obtain ⟨-,-,c80,-⟩:=uh.out.cells
    simp only at c80
    have ai7:=uh.out.lt
    obtain ⟨r0,r1,r2,r3,r4,r5,r6,r7,r8,r9⟩:=aM gX.out
    have fz:∀ i,w8.frozen? ⟨w.heap.size,i,none⟩=false:=fun i=>frozen_of_row w8 _ i _ _ gX.out
    have Vf:=lt_of_heap gX.out
    have HF:Hid _:=AA (w:=w) gX.out (Nat.le_refl _) xG.out _ _ uh.out bM (fun h=>h.elim (fun h=>by have:=HSL.out _ h;omega) (fun h=>by omega)) 0 (a.valid+1) ⟨aI,UU.out⟩
    go_wp2
    obtain ⟨f0,f1,f2,f3,f4,f5,f6,f7,f8,f9⟩:=aM HF.out.1
    refine bodyPost_ret (v:=.agg #[.int .i64 0,.int .i64 (a.valid+1),.slice none 0 0,.int .i64 0,.int .i64 0,.int .i64 0,.slice none 0 0,.slice none 0 0,.int .i64 0,.slice none 0 0]) (by simp [results,Tryz.results54,go_sem,f0,f1,f2,f3,f4,f5,f6,f7,f8,f9]) rfl ⟨_,rfl,HF.out.2.2.2,aT.wide HF.out.2.1 dU.out,_,?_,(show ∀ k,(S0 k∨wc.heap.size≤k)→_ from fun k h=>h.elim (fun h=>.inl (dU.out k h)) (fun h=>.inr (by omega)))⟩
    rw [U8.out.1,U8.out.2]
    exact HF.out.2.2.1
end Go.Proofs.YtlneebmlhblleaaGreat
