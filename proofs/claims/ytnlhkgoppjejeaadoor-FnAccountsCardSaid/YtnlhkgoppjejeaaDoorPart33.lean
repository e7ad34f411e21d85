/- The proof's texts, part 33. -/
import Derived.Test.YtnlhkgoppjejeaaDoorPart30
import Derived.Test.YtnlhkgoppjejeaaDoorPart31
import Derived.Test.YtnlhkgoppjejeaaDoorPart32
import Derived.Test.YtnlhkgoppjejeaaDoorPart17
import Derived.Deep.DeepCutAuto
import Derived.Deep.CutBlock

/- What l3create of package spec does where it creates a box. -/
namespace Go.Proofs.YtnlhkgoppjejeaaDoor
open Go.RowKit
set_option maxRecDepth 100000
set_option linter.unusedVariables false
set_option linter.unusedSimpArgs false

/-- A box's variable is filled. -/
theorem new7 {w0 x:World} {X:Nat} {S:Nat→Prop} {v:Value} {nm:List Int} (hk:x.heap[X]?=some (.cells #[.slice none 0 0,.int .i64 0,.int .i64 0,.int .i64 0,.slice none 0 0,.slice none 0 0,.int .i64 0] 44 (0,0))) (hD:Below w0.heap.size w0 x) (hX:w0.heap.size≤X) (hR:RO x S v nm) (c0 c1 c2 c3 c4 c5 c6:Value) :
  (((((((x.setCell ⟨X,0,none⟩ c0).setCell ⟨X,1,none⟩ c1).setCell ⟨X,2,none⟩ c2).setCell ⟨X,3,none⟩ c3).setCell ⟨X,4,none⟩ c4).setCell ⟨X,5,none⟩ c5).setCell ⟨X,6,none⟩ c6).heap[X]?=some (.cells #[c0,c1,c2,c3,c4,c5,c6] 44 (0,0))∧Below w0.heap.size w0 (((((((x.setCell ⟨X,0,none⟩ c0).setCell ⟨X,1,none⟩ c1).setCell ⟨X,2,none⟩ c2).setCell ⟨X,3,none⟩ c3).setCell ⟨X,4,none⟩ c4).setCell ⟨X,5,none⟩ c5).setCell ⟨X,6,none⟩ c6)∧RO (((((((x.setCell ⟨X,0,none⟩ c0).setCell ⟨X,1,none⟩ c1).setCell ⟨X,2,none⟩ c2).setCell ⟨X,3,none⟩ c3).setCell ⟨X,4,none⟩ c4).setCell ⟨X,5,none⟩ c5).setCell ⟨X,6,none⟩ c6) S v nm:=by
 refine ⟨(box_set (i:=6) (v:=c6) (box_set (i:=5) (v:=c5) (box_set (i:=4) (v:=c4) (box_set (i:=3) (v:=c3) (box_set (i:=2) (v:=c2) (box_set (i:=1) (v:=c1) (box_set (i:=0) (v:=c0) hk))))))),(((((((hD.setCell (p:=⟨X,0,none⟩) hX c0).setCell (p:=⟨X,1,none⟩) hX c1).setCell (p:=⟨X,2,none⟩) hX c2).setCell (p:=⟨X,3,none⟩) hX c3).setCell (p:=⟨X,4,none⟩) hX c4).setCell (p:=⟨X,5,none⟩) hX c5).setCell (p:=⟨X,6,none⟩) hX c6),ro_oth hR fun k hT=>?_⟩
 have hne:k≠X:=fun e=>by subst e;exact ty_ne hk hT (by decide)
 rw [Below.heap_setCell _ _ _ _ (show k≠X from hne),Below.heap_setCell _ _ _ _ (show k≠X from hne),Below.heap_setCell _ _ _ _ (show k≠X from hne),Below.heap_setCell _ _ _ _ (show k≠X from hne),Below.heap_setCell _ _ _ _ (show k≠X from hne),Below.heap_setCell _ _ _ _ (show k≠X from hne),Below.heap_setCell _ _ _ _ (show k≠X from hne)]
/-- The two parts of an account's boxes, as values. -/
theorem boxes_cut {w:World} {S:Nat→Prop} {v:Value} {l:List BoxD} {k:Nat} (h:BoxesQ w S v l) (hk:k≤l.length):∃ V1 V3 n3 CL,SrcC w V1 k 7 (CL.take (k * 7))∧(∀ w',Below w.heap.size w w'→SrcC w' V3 n3 7 (CL.drop (k * 7)))∧EL 7 BoxQE w l S CL∧l.length=k+n3 ∧
  ((v=.slice none 0 0∧V1=.slice none 0 0∧V3=.slice none 0 0∧n3=0∧k=0)∨∃ g cap,v=.slice (some ⟨g,0,none⟩) l.length cap∧l.length≤cap∧g < w.heap.size∧V1=.slice (some ⟨g,0,none⟩) k cap∧((k < cap∧n3=l.length - k∧V3=.slice (some ⟨g,k * 7,none⟩) (l.length - k) (cap - k))∨(k=l.length∧cap=l.length∧n3=0∧V3=.slice (some ⟨g,0,none⟩) 0 0))):=by
 rcases Ow.el h with ⟨rfl,rfl⟩ | ⟨g,cap,cur,rfl,hh,h1,h2,h3,hS,hel⟩
 ·obtain rfl:k=0:=by simpa using hk
  exact ⟨_,_,0,[],.inl ⟨rfl,rfl,rfl⟩,fun _ _=>.inl ⟨rfl,rfl,rfl⟩,(rfl:([]:List Value)=[]),rfl,.inl ⟨rfl,rfl,rfl,rfl,rfl⟩⟩
 ·have hs:l.length * 7≤cur.size:=by omega
  by_cases hc:k < cap
  ·exact ⟨_,_,l.length - k,_,src_take hh hs hk cap,fun w' hb=>src_drop ((hb.block g (lt_of_heap hh)).trans hh) hs hk (cap - k),hel.mono fun k h=>h.1,by omega,.inr ⟨g,cap,rfl,h1,lt_of_heap hh,rfl,.inl ⟨hc,rfl,rfl⟩⟩⟩
  ·obtain rfl:k=l.length:=by omega
   obtain rfl:cap=l.length:=by omega
   exact ⟨_,_,0,_,src_take hh hs hk _,fun w' _=>src_end w' g l.length cur 0,hel.mono fun k h=>h.1,by omega,.inr ⟨g,_,rfl,h1,lt_of_heap hh,rfl,.inr ⟨rfl,rfl,rfl,rfl⟩⟩⟩

set_option maxRecDepth 100000 in
set_option maxHeartbeats 8000000 in
theorem l3create_new (ga:Nat) (a:AccD) (S:Nat→Prop) (nv:Value) (nm:List Int) (w:World) (hp:AccP w S ga a) (hst:∀ w',w.heap.size≤w'.heap.size→StayT w w' 5→Bs w' nv nm) (hnl:nm.length≤2000000) (hbl:a.boxes.length≤2000000) (hf:firstI (fun x:BoxD=>decide (x.name=nm)) a.boxes < 0) (h4:¬ 4≤a.boxes.length) (hv:¬ 1000000≤a.valid) :
  Calls Tryd.prog 67 #[.pointer (some ⟨ga,0,none⟩),nv] w fun e w'=>∃ u S',e=.returned u∧RepC w' u (codeR 0 (a.valid+1))∧TurnsA w w' S ga∧AccP w' S' ga ⟨a.valid+1,a.boxes.takeWhile (fun x:BoxD=>lessB x.name nm) ++ (⟨nm,a.valid+1,1,0,[],[],0⟩ :: a.boxes.dropWhile (fun x:BoxD=>lessB x.name nm)),a.seen⟩∧∀ k,S' k→S k∨w.heap.size≤k:=by
 obtain ⟨S0,hS0e⟩:∃ S0:Nat→Prop,S0=fun k=>S k∧k < w.heap.size:=⟨_,rfl⟩
 have HSUB:Hid (∀ k,S0 k→S k):=by subst hS0e;exact fun k h=>h.1
 have HSL:Hid (∀ k,S0 k→k < w.heap.size):=by subst hS0e;exact fun k h=>h.2
 have HP:Hid (∀ w',Below w.heap.size w w'→AccP w' S0 ga a):=by subst hS0e;exact fun w' h=>hp.cut.below h
 clear hS0e
 have hnv:=hst w (Nat.le_refl _) (StayT.refl _ _)
 have HNO:Hid (Oct nm):=hnv.1
 have HST:Hid (∀ w',w.heap.size≤w'.heap.size→StayT w w' 5→Bs w' nv nm):=hst
 clear hst
 have HN:Hid (∀ w',Below w.heap.size w w'→Bs w' nv nm):=fun w' h=>hnv.below h
 have hlg:=hp.lt
 obtain ⟨q0,q1,q2,rfl⟩:=hnv.form3
 clear hp hnv
 have HB:Hid (Below w.heap.size w (w.alloc (.cells #[.int .i64 0,.int .i64 0,.slice none 0 0,.int .i64 0,.int .i64 0,.int .i64 0,.slice none 0 0,.slice none 0 0,.int .i64 0,.slice none 0 0] 84))):=(Below.refl _ _).alloc (Nat.le_refl _) _
 have HK:Hid ((w.alloc (.cells #[.int .i64 0,.int .i64 0,.slice none 0 0,.int .i64 0,.int .i64 0,.int .i64 0,.slice none 0 0,.slice none 0 0,.int .i64 0,.slice none 0 0] 84)).heap[w.heap.size]?=some (.cells #[.int .i64 0,.int .i64 0,.slice none 0 0,.int .i64 0,.int .i64 0,.int .i64 0,.slice none 0 0,.slice none 0 0,.int .i64 0,.slice none 0 0] 84 (0,0))):=box_new w _
 go_enter Tryd.func67,Tryd.ntmps67
 go_upto_region 1 with fail
 generalize w.alloc (.cells #[.int .i64 0,.int .i64 0,.slice none 0 0,.int .i64 0,.int .i64 0,.int .i64 0,.slice none 0 0,.slice none 0 0,.int .i64 0,.slice none 0 0] 84)=W at HB HK ⊢
 obtain ⟨u0,u1,c0,c1,c2,hb,hv⟩:=(HP.out W HB.out).cells
 have hl2:ga < W.heap.size:=Nat.lt_of_lt_of_le hlg HB.out.size
 have HV:Hid _:=hv
 obtain ⟨e0,e1,rfl,-⟩:=hb.v.form
 clear hb hv
 go_wp2_with fail
 refine (l3box_any _ _ a nm _ HV.out (HN.out _ HB.out) hbl).mono ?_
 rintro e w1 ⟨rfl,B1⟩
 have HB1:Hid (Below w.heap.size w w1):=Below.step HB.out B1
 have HK1:Hid _:=box_below B1 HK.out
 have d0:w1.cell? ⟨ga,0,none⟩=some (.int .i64 a.valid):=(B1.cell (p:=⟨ga,0,none⟩) hl2).trans c0
 have d1:w1.cell? ⟨ga,1,none⟩=some (.slice e0 a.boxes.length e1):=(B1.cell (p:=⟨ga,1,none⟩) hl2).trans c1
 have hl3:ga < w1.heap.size:=Nat.lt_of_lt_of_le hl2 B1.size
 clear B1 HK c0 c1 c2 HV HN
 generalize firstI (fun x:BoxD=>decide (x.name=nm)) a.boxes=fi at *
 have h4i:(a.boxes.length:Int) < 4:=by omega
 have HA1:Hid (AccP w1 S0 ga a):=HP.out w1 HB1.out
 have hvl:(-9223372036854775808:Int)≤a.valid:=by
  obtain ⟨-,-,-,-,-,-,r⟩:=HA1.out
  exact r.1
 have hv64:I64 (a.valid+1):=⟨by omega,by omega⟩
 have HV64:Hid (I64 (a.valid+1)):=hv64
 have fz:=HA1.out.open
 have HA2:Hid (AccP (w1.setCell ⟨ga,0,none⟩ (.int .i64 (a.valid+1))) S0 ga ⟨a.valid+1,a.boxes,a.seen⟩):=HA1.out.setValid hv64
 have HT2:Hid (TurnsA w (w1.setCell ⟨ga,0,none⟩ (.int .i64 (a.valid+1))) S0 ga):=(TurnsA.below (S:=S0) HB1.out).trans (TurnsA.set (S:=S0) HA1.out) (fun k h=>.inl h)
 have HK2:Hid _:=box_other (k:=ga) (i:=0) (v:=.int .i64 (a.valid+1)) HK1.out (by omega)
 have hs2:(w1.setCell ⟨ga,0,none⟩ (.int .i64 (a.valid+1))).heap.size=w1.heap.size:=box_size
 have hs1:w.heap.size < w1.heap.size:=lt_of_heap HK1.out
 clear hv64
 go_upto_region 6 with fail
 generalize w1.setCell ⟨ga,0,none⟩ (.int .i64 (a.valid+1))=w0 at HA2 HT2 HK2 hs2 ⊢
 clear d0 d1 fz HA1 HB1 HK1 HP HB
 have HNM:Hid (∀ w',Below w0.heap.size w0 w'→Bs w' (.slice q0 q1 q2) nm):=fun w' h=>HST.out w' (Nat.le_trans HT2.out.1 h.size) (HT2.out.2.2.1.trans (stay_below h))
 clear HST
 have hga0:ga < w0.heap.size:=HA2.out.lt
 obtain ⟨v0,v1,k0,k1,-,hbq,-⟩:=HA2.out.cells
 have HC0:Hid (w0.cell? ⟨ga,0,none⟩=some (.int .i64 (a.valid+1))):=k0
 have HC1:Hid (w0.cell? ⟨ga,1,none⟩=some v0):=k1
 have HBQ:Hid (BoxesQ w0 S0 v0 a.boxes):=hbq
 have HS:Hid (∀ w',Below w0.heap.size w0 w'→w'.cell? ⟨ga,0,none⟩=some (.int .i64 (a.valid+1))):=fun w' h=>cell_later h HC0.out
 obtain ⟨i0,hi,hz0,hz1,hz2⟩:=info_parts infoBox
 obtain ⟨i1,hj,hy0,hy1,hy2⟩:=info_parts info5
 have hl3:nm.length≤maxLen:=by unfold maxLen;omega
 have hl4:nm.length * 1≤140737488355328:=by omega
 obtain ⟨N,hNe⟩:∃ N,N=w0.heap.size:=⟨_,rfl⟩
 have HNE:Hid (N=w0.heap.size):=hNe
 have hN00:N≤w0.heap.size:=by omega
 clear k0 k1 hbq hNe hs2
 go_cut [5] (fun s wx=>∃ bx na nn nc,s=.pointer (some ⟨bx,0,none⟩)∧Hid (wx.heap[bx]?=some (.cells #[.slice na nn nc,.int .i64 (a.valid+1),.int .i64 1,.int .i64 0,.slice none 0 0,.slice none 0 0,.int .i64 0] 44 (0,0)))∧Hid (RO wx (fun k=>N≤k) (.slice na nn nc) nm)∧N≤bx∧Hid (Below w0.heap.size w0 wx))
 case first =>
  have hN0:N≤w0.drew.heap.size:=hN00
  have D0:Hid (Below w0.heap.size w0 w0.drew):=(Below.refl _ _).drew
  refine wp_region_held_drew (S:=fun w'=>w'.cell? ⟨ga,0,none⟩=some (.int .i64 (a.valid+1))) (by kernel_rfl) (HS.out _ D0.out) (fun hHeld=>(show wpAnyH _ _ _ _ _ 10 #[false,false,false,false,false,false,false,false,false,false] _ _ from ?_))
  refine tq 1 37 hHeld ?_
  refine tq 3 39 hHeld ?_
  refine tq 4 40 hHeld ?_
  refine tq 5 41 hHeld ?_
  refine tq 6 42 hHeld ?_
  generalize hwd:w0.drew=x0 at D0 hN0 hHeld ⊢
  clear hwd
  refine wpAnyH_ready (rs:=[0,8]) (by kernel_rfl) (by simp) ?_
  refine AllReadyH.cons rfl (fun K hK=>?_) (AllReadyH.cons rfl (fun K hK=>?_) AllReadyH.nil)
  ·go_simp
   have AB:Below x0.heap.size x0 (x0.alloc (.cells #[] 5)):=(Below.refl _ _).alloc (Nat.le_refl _) _
   have D1:=hidm' (Below.step D0.out AB)
   have hN1:=Nat.le_trans hN0 AB.size
   have Fn1:=hidm' (owns_empty x0 5 1 N hN0)
   have hE1:w0.heap.size≤x0.heap.size:=D0.out.size
   refine hK.out _ _ (HS.out _ D1.out) (fun hHeld=>?_)
   clear hK K AB
   generalize hw1:x0.alloc (.cells #[] 5)=x1 at *
   clear hw1
   refine wpAnyH_ready (rs:=[2,8]) (by kernel_rfl) (by simp) ?_
   refine AllReadyH.cons rfl (fun K hK=>?_) (AllReadyH.cons rfl (fun K hK=>?_) AllReadyH.nil)
   ·refine ite_w (by kernel_rfl) (wp_cat (B:=N) 38 rfl (.tmp 36) (.tmp 37) rfl Fn1.out (Bs.rd1 (HNM.out _ D1.out)) (one_byte _) Tryd.underlying22 hj hy0 hy1 hy2 rfl (by omega) rfl rfl hl3 hl4 hN1 ?_)
    intro V x2 xs hO hX hG hB
    have hG':x1.grownBy x2 (some (x0.heap.size)):=hG
    have D2:=hidm' (below_gr0 D1.out hG' (show w0.heap.size≤x0.heap.size from hE1))
    have hN2:=Nat.le_trans hN1 hG'.size
    have hR:RO x2 (fun k=>N≤k) V nm:=ro_of HNO.out hO hX (fun g hg=>own_ge hO hg)
    obtain ⟨na,nn,nc,hV⟩:=hR.bs.form3
    subst hV
    have Frn2:Hid (RO x2 (fun k=>N≤k) (.slice na nn nc) nm):=hR
    refine hK.out _ _ (HS.out _ D2.out) (fun hHeld=>?_)
    clear hK K hO hX hG hG' hB hR
    conv=>arg 8;simp only [Act.put,sA,s0,sS]
    refine tq 7 43 hHeld ?_
    refine wpAnyH_ready (rs:=[8]) (by kernel_rfl) (by simp) ?_
    refine AllReadyH.cons rfl (fun K hK=>?_) AllReadyH.nil
    go_simp
    have AB:Below x2.heap.size x2 (x2.alloc (.cells #[.slice none 0 0,.int .i64 0,.int .i64 0,.int .i64 0,.slice none 0 0,.slice none 0 0,.int .i64 0] 44)):=(Below.refl _ _).alloc (Nat.le_refl _) _
    have D3:=hidm' (Below.step D2.out AB)
    have hN3:=Nat.le_trans hN2 AB.size
    have Frn3:=hidm' (Frn2.out.below AB)
    have Fkx3:=hidm' (box_new x2 (.cells #[.slice none 0 0,.int .i64 0,.int .i64 0,.int .i64 0,.slice none 0 0,.slice none 0 0,.int .i64 0] 44))
    have hX3:w0.heap.size≤x2.heap.size:=D2.out.size
    refine hK.out _ _ (HS.out _ D3.out) (fun hHeld=>?_)
    clear hK K AB
    generalize hw3:x2.alloc (.cells #[.slice none 0 0,.int .i64 0,.int .i64 0,.int .i64 0,.slice none 0 0,.slice none 0 0,.int .i64 0] 44)=x3 at *
    clear hw3
    refine wpAnyH_ready (rs:=[9]) (by kernel_rfl) (by simp) ?_
    refine AllReadyH.cons rfl (fun K hK=>?_) AllReadyH.nil
    obtain ⟨zx,zl⟩:=box8z Fkx3.out
    obtain ⟨q0,q1,q2,q3,q4,q5,q6⟩:=bx7 Fkx3.out
    obtain ⟨KF,DF,RF⟩:=new7 Fkx3.out D3.out hX3 Frn3.out (.slice na nn nc) (.int .i64 (a.valid+1)) (.int .i64 1) (.int .i64 0) (.slice none 0 0) (.slice none 0 0) (.int .i64 0)
    go_simp
    refine hK.out _ _ (HS.out _ DF) (fun hHeld=>?_)
    clear hK K
    refine wpAnyH_done (by kernel_rfl) ?_ _
    go_wp2
    go_meet
    case rel=>exact ⟨_,_,_,_,rfl,KF,RF,hN2,DF⟩
   ·go_simp
    have AB:Below x1.heap.size x1 (x1.alloc (.cells #[.slice none 0 0,.int .i64 0,.int .i64 0,.int .i64 0,.slice none 0 0,.slice none 0 0,.int .i64 0] 44)):=(Below.refl _ _).alloc (Nat.le_refl _) _
    have D4:=hidm' (Below.step D1.out AB)
    have hN4:=Nat.le_trans hN1 AB.size
    have Fn4:=hidm' (own_below Fn1.out AB)
    have Fkx4:=hidm' (box_new x1 (.cells #[.slice none 0 0,.int .i64 0,.int .i64 0,.int .i64 0,.slice none 0 0,.slice none 0 0,.int .i64 0] 44))
    have hX4:w0.heap.size≤x1.heap.size:=D1.out.size
    refine hK.out _ _ (HS.out _ D4.out) (fun hHeld=>?_)
    clear hK K AB
    generalize hw4:x1.alloc (.cells #[.slice none 0 0,.int .i64 0,.int .i64 0,.int .i64 0,.slice none 0 0,.slice none 0 0,.int .i64 0] 44)=x4 at *
    clear hw4
    refine wpAnyH_ready (rs:=[2]) (by kernel_rfl) (by simp) ?_
    refine AllReadyH.cons rfl (fun K hK=>?_) AllReadyH.nil
    refine ite_w (by kernel_rfl) (wp_cat (B:=N) 38 rfl (.tmp 36) (.tmp 37) rfl Fn4.out (Bs.rd1 (HNM.out _ D4.out)) (one_byte _) Tryd.underlying22 hj hy0 hy1 hy2 rfl (by omega) rfl rfl hl3 hl4 hN4 ?_)
    intro V x5 xs hO hX hG hB
    have hG':x4.grownBy x5 (some (x0.heap.size)):=hG
    have D5:=hidm' (below_gr0 D4.out hG' (show w0.heap.size≤x0.heap.size from hE1))
    have hN5:=Nat.le_trans hN4 hG'.size
    have KE:=own_ty Fn4.out
    have Fkx5:=hidm' (box_grT hG' Fkx4.out KE (by decide))
    clear KE
    have hR:RO x5 (fun k=>N≤k) V nm:=ro_of HNO.out hO hX (fun g hg=>own_ge hO hg)
    obtain ⟨na,nn,nc,hV⟩:=hR.bs.form3
    subst hV
    have Frn5:Hid (RO x5 (fun k=>N≤k) (.slice na nn nc) nm):=hR
    refine hK.out _ _ (HS.out _ D5.out) (fun hHeld=>?_)
    clear hK K hO hX hG hG' hB hR
    conv=>arg 8;simp only [Act.put,sA,s0,sS]
    refine tq 7 43 hHeld ?_
    refine wpAnyH_ready (rs:=[9]) (by kernel_rfl) (by simp) ?_
    refine AllReadyH.cons rfl (fun K hK=>?_) AllReadyH.nil
    obtain ⟨zx,zl⟩:=box8z Fkx5.out
    obtain ⟨q0,q1,q2,q3,q4,q5,q6⟩:=bx7 Fkx5.out
    obtain ⟨KF,DF,RF⟩:=new7 Fkx5.out D5.out hX4 Frn5.out (.slice na nn nc) (.int .i64 (a.valid+1)) (.int .i64 1) (.int .i64 0) (.slice none 0 0) (.slice none 0 0) (.int .i64 0)
    go_simp
    refine hK.out _ _ (HS.out _ DF) (fun hHeld=>?_)
    clear hK K
    refine wpAnyH_done (by kernel_rfl) ?_ _
    go_wp2
    go_meet
    case rel=>exact ⟨_,_,_,_,rfl,KF,RF,hN1,DF⟩
  ·go_simp
   have AB:Below x0.heap.size x0 (x0.alloc (.cells #[.slice none 0 0,.int .i64 0,.int .i64 0,.int .i64 0,.slice none 0 0,.slice none 0 0,.int .i64 0] 44)):=(Below.refl _ _).alloc (Nat.le_refl _) _
   have D6:=hidm' (Below.step D0.out AB)
   have hN6:=Nat.le_trans hN0 AB.size
   have Fkx6:=hidm' (box_new x0 (.cells #[.slice none 0 0,.int .i64 0,.int .i64 0,.int .i64 0,.slice none 0 0,.slice none 0 0,.int .i64 0] 44))
   have hX6:w0.heap.size≤x0.heap.size:=D0.out.size
   refine hK.out _ _ (HS.out _ D6.out) (fun hHeld=>?_)
   clear hK K AB
   generalize hw6:x0.alloc (.cells #[.slice none 0 0,.int .i64 0,.int .i64 0,.int .i64 0,.slice none 0 0,.slice none 0 0,.int .i64 0] 44)=x6 at *
   clear hw6
   refine wpAnyH_ready (rs:=[0]) (by kernel_rfl) (by simp) ?_
   refine AllReadyH.cons rfl (fun K hK=>?_) AllReadyH.nil
   go_simp
   have AB:Below x6.heap.size x6 (x6.alloc (.cells #[] 5)):=(Below.refl _ _).alloc (Nat.le_refl _) _
   have D7:=hidm' (Below.step D6.out AB)
   have hN7:=Nat.le_trans hN6 AB.size
   have Fkx7:=hidm' (box_below AB Fkx6.out)
   have Fn7:=hidm' (owns_empty x6 5 1 N hN6)
   have hE7:w0.heap.size≤x6.heap.size:=D6.out.size
   refine hK.out _ _ (HS.out _ D7.out) (fun hHeld=>?_)
   clear hK K AB
   generalize hw7:x6.alloc (.cells #[] 5)=x7 at *
   clear hw7
   refine wpAnyH_ready (rs:=[2]) (by kernel_rfl) (by simp) ?_
   refine AllReadyH.cons rfl (fun K hK=>?_) AllReadyH.nil
   refine ite_w (by kernel_rfl) (wp_cat (B:=N) 38 rfl (.tmp 36) (.tmp 37) rfl Fn7.out (Bs.rd1 (HNM.out _ D7.out)) (one_byte _) Tryd.underlying22 hj hy0 hy1 hy2 rfl (by omega) rfl rfl hl3 hl4 hN7 ?_)
   intro V x8 xs hO hX hG hB
   have hG':x7.grownBy x8 (some (x6.heap.size)):=hG
   have D8:=hidm' (below_gr0 D7.out hG' (show w0.heap.size≤x6.heap.size from hE7))
   have hN8:=Nat.le_trans hN7 hG'.size
   have KE:=own_ty Fn7.out
   have Fkx8:=hidm' (box_grT hG' Fkx7.out KE (by decide))
   clear KE
   have hR:RO x8 (fun k=>N≤k) V nm:=ro_of HNO.out hO hX (fun g hg=>own_ge hO hg)
   obtain ⟨na,nn,nc,hV⟩:=hR.bs.form3
   subst hV
   have Frn8:Hid (RO x8 (fun k=>N≤k) (.slice na nn nc) nm):=hR
   refine hK.out _ _ (HS.out _ D8.out) (fun hHeld=>?_)
   clear hK K hO hX hG hG' hB hR
   conv=>arg 8;simp only [Act.put,sA,s0,sS]
   refine tq 7 43 hHeld ?_
   refine wpAnyH_ready (rs:=[9]) (by kernel_rfl) (by simp) ?_
   refine AllReadyH.cons rfl (fun K hK=>?_) AllReadyH.nil
   obtain ⟨zx,zl⟩:=box8z Fkx8.out
   obtain ⟨q0,q1,q2,q3,q4,q5,q6⟩:=bx7 Fkx8.out
   obtain ⟨KF,DF,RF⟩:=new7 Fkx8.out D8.out hX6 Frn8.out (.slice na nn nc) (.int .i64 (a.valid+1)) (.int .i64 1) (.int .i64 0) (.slice none 0 0) (.slice none 0 0) (.int .i64 0)
   go_simp
   refine hK.out _ _ (HS.out _ DF) (fun hHeld=>?_)
   clear hK K
   refine wpAnyH_done (by kernel_rfl) ?_ _
   go_wp2
   go_meet
   case rel=>exact ⟨_,_,_,_,rfl,KF,RF,hN0,DF⟩
 case rest =>
  obtain ⟨bx,na,nn,nc,rfl,HX3,HRN0,hbx,HD⟩:=hcut
  have hNe:=HNE.out
  subst hNe
  have HRN:Hid (RO wc Any (.slice na nn nc) nm):=HRN0.out.mono fun _ _=>trivial
  have hlx:=lt_of_heap HX3.out
  have HAc:Hid (AccP wc S0 ga ⟨a.valid+1,a.boxes,a.seen⟩):=HA2.out.below HD.out
  have HTc:Hid (TurnsA w wc S0 ga):=HT2.out.trans (TurnsA.below (S:=S0) HD.out) (fun k h=>.inl h)
  have HKc:Hid _:=box_below HD.out HK2.out
  have HNc:Hid (∀ w',Below wc.heap.size wc w'→Bs w' (.slice q0 q1 q2) nm):=fun w' h=>HNM.out w' (Below.step HD.out h)
  have hgac:ga < wc.heap.size:=HAc.out.lt
  have hlr:w.heap.size < wc.heap.size:=lt_of_heap HKc.out
  have HL0:Hid (∀ k,S0 k→k < wc.heap.size):=fun k h=>by have:=HSL.out k h;omega
  obtain ⟨v0,v1,k0,k1,-,hbq,-⟩:=HAc.out.cells
  have HC0:Hid (wc.cell? ⟨ga,0,none⟩=some (.int .i64 (a.valid+1))):=k0
  have HC1:Hid (wc.cell? ⟨ga,1,none⟩=some v0):=k1
  have HBQ:Hid (BoxesQ wc S0 v0 a.boxes):=hbq
  clear k0 k1 hbq HD HA2 HT2 HK2 HNM HS HRN0 HNE hN00
  go_upto_block 0 with fail
  go_cut [6] (fun iv wr=>∃ k:Nat,k≤a.boxes.length∧iv=.int .i64 k∧Hid (∀ j x,j < k→a.boxes[j]?=some x→lessB x.name nm=true)∧Hid (∀ x,a.boxes[k]?=some x→lessB x.name nm=false)∧Hid (Below wc.heap.size wc wr))
  case first =>
   rcases Ow.el HBQ.out with ⟨hv0,hnil⟩ | ⟨g,cap,cur,hv0,hgh,hc1,hc2,hc3,hSg,hel⟩
   ·subst hv0
    have HNIL:Hid (a.boxes=[]):=hnil
    clear hnil HBQ
    go_wp2
    go_loopw [6] (fun iv wr=>∃ k:Nat,k≤a.boxes.length∧iv=.int .i64 k∧Hid (∀ j x,j < k→a.boxes[j]?=some x→lessB x.name nm=true)∧Hid (Below wc.heap.size wc wr)) (fun iv _=>a.boxes.length - (intOf iv).toNat)
    case atStart=>exact ⟨0,Nat.zero_le _,rfl,(fun j m hj=>absurd hj (Nat.not_lt_zero _)),Below.refl _ _⟩
    case round =>
     obtain ⟨k,hk,rfl,hA,hB⟩:=hrel
     have hwr:=hB.out.size
     have hgr:ga < wr.drew.heap.size:=by show ga < wr.heap.size;omega
     have hgr1:ga < wr.heap.size:=by omega
     have HBX:Hid (Below wc.heap.size wc wr.drew):=hB.out.drew
     have hk0:k=0:=by have h:=hk;rw [HNIL.out] at h;simpa using h
     subst hk0
     go_wp2
     refine wp_region_held_drew (S:=fun w'=>w'.cell? ⟨ga,1,none⟩=some (.slice none 0 0)) (by kernel_rfl) ((HBX.out.cell (p:=⟨ga,1,none⟩) hgac).trans HC1.out) (fun hHeld=>(show wpAnyH _ _ _ _ _ 21 #[false,false,false,false,false,false,false,false,false,false,false,false,false,false,false,false,false,false,false,false,false] _ _ from ?_))
     refine tq 0 44 hHeld ?_
     refine tq 1 45 hHeld ?_
     refine tq 2 46 hHeld ?_
     refine tq 3 47 hHeld ?_
     refine tq 4 48 hHeld ?_
     refine tq 5 49 hHeld ?_
     refine tq 6 50 hHeld ?_
     refine tq 7 51 hHeld ?_
     refine wpAnyH_skips (by kernel_rfl) (fun _ _ _ _ _ h=>h) hHeld [8,9,10,11,12,13,14,15,16,17,18,19] [52,53,54,55,56,57,58,59,60,61,62,63] _ _ _ (by kernel_rfl) ?_
     simp only [List.foldl_cons,List.foldl_nil,Act.put,sA,s0,sS]
     refine tq 20 64 hHeld ?_
     refine wpAnyH_done (by kernel_rfl) ?_ _
     go_wp2
     go_meet
     case rel=>exact ⟨_,by omega,rfl,hA,(show Hid _ from fun y hy=>by rw [HNIL.out] at hy;cases hy),HBX⟩
   ·subst hv0
    have HGH:Hid _:=hgh
    have HBV:Hid (∀ w',Below wc.heap.size wc w'→BoxesV w' (.slice (some ⟨g,0,none⟩) a.boxes.length cap) a.boxes):=fun w' h=>HBQ.out.v.below keepsBox h
    have HELC:Hid (EL 7 BoxQE wc a.boxes S0 (cur.toList.take (a.boxes.length * 7))):=hel.mono fun k h=>h.1
    have hglt:g < wc.heap.size:=lt_of_heap hgh
    clear hgh hel HBQ
    go_wp2
    go_loopw [6] (fun iv wr=>∃ k:Nat,k≤a.boxes.length∧iv=.int .i64 k∧Hid (∀ j x,j < k→a.boxes[j]?=some x→lessB x.name nm=true)∧Hid (Below wc.heap.size wc wr)) (fun iv _=>a.boxes.length - (intOf iv).toNat)
    case atStart=>exact ⟨0,Nat.zero_le _,rfl,(fun j m hj=>absurd hj (Nat.not_lt_zero _)),Below.refl _ _⟩
    case round =>
     obtain ⟨k,hk,rfl,hA,hB⟩:=hrel
     have hwr:=hB.out.size
     have hgr:ga < wr.drew.heap.size:=by show ga < wr.heap.size;omega
     have hgr1:ga < wr.heap.size:=by omega
     have HBX:Hid (Below wc.heap.size wc wr.drew):=hB.out.drew
     by_cases hlt:k < a.boxes.length
     ·obtain ⟨x,hx⟩:∃ x,a.boxes[k]?=some x:=⟨a.boxes[k],List.getElem?_eq_getElem hlt⟩
      obtain ⟨b,off,cp,t,z1,z2,hv',hlb,f0,-,-,-,-,-,-,ht,-⟩:=BoxesV.cell (HBV.out wr.drew HBX.out) k x hx
      simp only [Value.slice.injEq,Option.some.injEq,Addr.mk.injEq,and_true,true_and] at hv'
      obtain ⟨⟨rfl,rfl⟩,rfl⟩:=hv'
      rw [Nat.zero_add] at f0
      have HCV:Hid (∀ w',Below wr.drew.heap.size wr.drew w'→(convert 22 9 (t)).run Tryd.prog w'=.ok (.string (strOfNums x.name)) w'∧(convert 22 9 (.slice q0 q1 q2)).run Tryd.prog w'=.ok (.string (strOfNums nm)) w'):=fun w' h=>⟨run_convert_bs (ht.below h),run_convert_bs (HNc.out w' (Below.step HBX.out h))⟩
      obtain ⟨ta,tn,tc,rfl⟩:=ht.form3
      have HLB:Hid (Op.bytesLess (strOfNums x.name).toList (strOfNums nm).toList=lessB x.name nm):=by simp only [Hid,lessB,str_toList']
      have HXX:Hid (a.boxes[k]?=some x):=hx
      have hki:(k:Int) < a.boxes.length:=by omega
      have HSS:Hid ((wr.drew.cell? ⟨ga,1,none⟩=some (.slice (some ⟨g,0,none⟩) a.boxes.length cap)∧wr.drew.cell? ⟨g,k * 7,none⟩=some (.slice ta tn tc))∧(convert 22 9 (.slice ta tn tc)).run Tryd.prog wr.drew=.ok (.string (strOfNums x.name)) wr.drew∧(convert 22 9 (.slice q0 q1 q2)).run Tryd.prog wr.drew=.ok (.string (strOfNums nm)) wr.drew):=⟨⟨(HBX.out.cell (p:=⟨ga,1,none⟩) hgac).trans HC1.out,f0⟩,HCV.out _ (Below.refl _ _)⟩
      clear ht hx f0 HCV hlb
      have HZ:Hid (∃ z,z=lessB x.name nm):=⟨_,rfl⟩
      obtain ⟨z,hz⟩:=HZ.out
      have hb:=HLB.out.trans hz.symm
      have HZ:Hid (z=lessB x.name nm):=hz
      clear hz HLB
      go_wp2
      refine wp_region_held_drew (S:=fun w'=>(w'.cell? ⟨ga,1,none⟩=some (.slice (some ⟨g,0,none⟩) a.boxes.length cap)∧w'.cell? ⟨g,k * 7,none⟩=some (.slice ta tn tc))∧(convert 22 9 (.slice ta tn tc)).run Tryd.prog w'=.ok (.string (strOfNums x.name)) w'∧(convert 22 9 (.slice q0 q1 q2)).run Tryd.prog w'=.ok (.string (strOfNums nm)) w') (by kernel_rfl) (HSS.out) (fun hHeld=>(show wpAnyH _ _ _ _ _ 21 #[false,false,false,false,false,false,false,false,false,false,false,false,false,false,false,false,false,false,false,false,false] _ _ from ?_))
      refine tq 0 44 hHeld ?_
      refine tq 1 45 hHeld ?_
      refine tq 2 46 hHeld ?_
      refine tq 3 47 hHeld ?_
      refine tq 4 48 hHeld ?_
      refine tq 5 49 hHeld ?_
      refine tq 6 50 hHeld ?_
      refine tq 7 51 hHeld ?_
      refine tq 8 52 hHeld ?_
      refine tq 9 53 hHeld ?_
      refine tq 10 54 hHeld ?_
      refine tq 11 55 hHeld ?_
      refine tq 12 56 hHeld ?_
      refine tq 13 57 hHeld ?_
      refine tq 14 58 hHeld ?_
      refine tq 15 59 hHeld ?_
      refine tq 16 60 hHeld ?_
      refine tq 17 61 hHeld ?_
      refine tq 18 62 hHeld ?_
      refine tq 19 63 hHeld ?_
      refine tq 20 64 hHeld ?_
      refine wpAnyH_done (by kernel_rfl) ?_ _
      cases z with
      | true =>
       go_wp2
       go_roundw
       case rel =>
        refine ⟨k+1,by omega,by go_num,(show Hid _ from fun j y hj hy=>?_),HBX⟩
        by_cases e:j=k
        ·subst e;rw [HXX.out] at hy;cases hy;exact HZ.out.symm
        ·exact hA.out j y (by omega) hy
       case measure=>simp [intOf];omega
      | false =>
       go_wp2
       go_meet
       case rel=>exact ⟨_,by omega,rfl,hA,(show Hid _ from fun y hy=>by rw [HXX.out] at hy;cases hy;exact HZ.out.symm),HBX⟩
     ·obtain rfl:k=a.boxes.length:=by omega
      go_wp2
      refine wp_region_held_drew (S:=fun w'=>w'.cell? ⟨ga,1,none⟩=some (.slice (some ⟨g,0,none⟩) a.boxes.length cap)) (by kernel_rfl) ((HBX.out.cell (p:=⟨ga,1,none⟩) hgac).trans HC1.out) (fun hHeld=>(show wpAnyH _ _ _ _ _ 21 #[false,false,false,false,false,false,false,false,false,false,false,false,false,false,false,false,false,false,false,false,false] _ _ from ?_))
      refine tq 0 44 hHeld ?_
      refine tq 1 45 hHeld ?_
      refine tq 2 46 hHeld ?_
      refine tq 3 47 hHeld ?_
      refine tq 4 48 hHeld ?_
      refine tq 5 49 hHeld ?_
      refine tq 6 50 hHeld ?_
      refine tq 7 51 hHeld ?_
      refine wpAnyH_skips (by kernel_rfl) (fun _ _ _ _ _ h=>h) hHeld [8,9,10,11,12,13,14,15,16,17,18,19] [52,53,54,55,56,57,58,59,60,61,62,63] _ _ _ (by kernel_rfl) ?_
      simp only [List.foldl_cons,List.foldl_nil,Act.put,sA,s0,sS]
      refine tq 20 64 hHeld ?_
      refine wpAnyH_done (by kernel_rfl) ?_ _
      go_wp2
      go_meet
      case rel=>exact ⟨_,by omega,rfl,hA,(show Hid _ from fun y hy=>by rw [List.getElem?_eq_none (Nat.le_refl _)] at hy;cases hy),HBX⟩
  case rest =>
   obtain ⟨k,hk,rfl,hA,hZ,HBl⟩:=hcut
   have HTW:Hid _:=takeWhile_take (fun x:BoxD=>lessB x.name nm) a.boxes k hA.out hZ.out hk
   have hlw:=HBl.out.size
   have HAl:=hidm' (HAc.out.below HBl.out)
   have HTl:Hid (TurnsA w wc S0 ga):=HTc.out.trans (TurnsA.below (S:=S0) HBl.out) (fun k h=>.inl h)
   have HKl:=hidm' (box_below HBl.out HKc.out)
   have HXl:=hidm' (box_below HBl.out HX3.out)
   have HRl:Hid (RO wc Any (.slice na nn nc) nm):=HRN.out.below HBl.out
   have HLl:Hid (∀ k,S0 k→k < wc.heap.size):=fun k h=>Nat.lt_of_lt_of_le (HL0.out k h) hlw
   have hgal:ga < wc.heap.size:=by omega
   have hbxl:bx < wc.heap.size:=lt_of_heap HXl.out
   clear HAc HTc HKc HX3 HRN HL0 HC0 HC1 HBQ hA hZ HNc HBl
   obtain ⟨vb,-,-,l1,-,hbq,-⟩:=HAl.out.cells
   obtain ⟨V1,V3,n3,CL,hsrc1,h3,hel,hn3,ways⟩:=boxes_cut hbq hk
   have H3:=hidm' h3
   have HN3:=hidm' hn3
   have HEL:=hidm' hel
   have h1s:∀ y ∈ CL.take (k * 7),y.oneCell'=true:=fun y hy=>one_el HEL.out y (List.mem_of_mem_take hy)
   have h2s:∀ y ∈ CL.drop (k * 7),y.oneCell'=true:=fun y hy=>one_el HEL.out y (List.mem_of_mem_drop hy)
   clear h3 hel hbq hn3
   rcases ways with ⟨rfl,rfl,rfl,rfl,rfl⟩ | ⟨g,cap,rfl,hcp,hgl,rfl,⟨hkc,rfl,rfl⟩ | ⟨rfl,rfl,rfl,rfl⟩⟩
   all_goals
    go_wp2_with (at_builtin;refine wpList_catC (B:=wc.heap.size) rfl (.tmp 67) (.tmp 73) rfl (World.ownsRow_nil _ _ _ _) hsrc1 h1s Tryd.underlying23 hi hz0 hz1 hz2 rfl (by omega) rfl rfl (by unfold maxLen;omega) (by omega) (Nat.le_refl _) ?_)
    intro V w4 hO4 hG4 hB4
    obtain ⟨p1,p2,p3,rfl⟩:=own_form hO4
    have D4:Below wc.heap.size wc w4:=below_row (Below.refl _ _) hG4 (fun j hj=>by cases hj)
    have hw4:=D4.size
    obtain ⟨b0,b1,b2,b3,b4,b5,b6⟩:=bx7 (box_below D4 HXl.out)
    have hbx4:bx < w4.heap.size:=by omega
    have AB4:Below w4.heap.size w4 (w4.alloc (.cells #[.slice na nn nc,.int .i64 (a.valid+1),.int .i64 1,.int .i64 0,.slice none 0 0,.slice none 0 0,.int .i64 0] 44)):=(Below.refl _ _).alloc (Nat.le_refl _) _
    have HO5:=hidm' (own_below hO4 AB4)
    have hsrc2:SrcC (w4.alloc (.cells #[.slice na nn nc,.int .i64 (a.valid+1),.int .i64 1,.int .i64 0,.slice none 0 0,.slice none 0 0,.int .i64 0] 44)) (.slice (some ⟨w4.heap.size,0,none⟩) 1 1) 1 7 [.slice na nn nc,.int .i64 (a.valid+1),.int .i64 1,.int .i64 0,.slice none 0 0,.slice none 0 0,.int .i64 0]:=.inr ⟨_,_,_,rfl,rfl,fun j y hy=>by rw [cell_of_row _ _ _ _ _ (0,0) (box_new w4 (.cells #[.slice na nn nc,.int .i64 (a.valid+1),.int .i64 1,.int .i64 0,.slice none 0 0,.slice none 0 0,.int .i64 0] 44)),Nat.zero_add];simpa using hy⟩
    have hone2:∀ y ∈ [Value.slice na nn nc,Value.int .i64 (a.valid+1),Value.int .i64 1,Value.int .i64 0,Value.slice none 0 0,Value.slice none 0 0,Value.int .i64 0],y.oneCell'=true:=by simp [Value.oneCell']
    have hsz5:=Nat.le_trans hw4 AB4.size
    clear hG4 hB4 hO4 hsrc1
    go_wp2_with (at_builtin;refine wpList_catC (B:=wc.heap.size) rfl (.tmp 75) (.tmp 77) rfl HO5.out hsrc2 hone2 Tryd.underlying23 hi hz0 hz1 hz2 rfl (by omega) rfl rfl (by unfold maxLen;omega) (by omega) hsz5 ?_)
    intro V w6 hO6 hG6 hB6
    obtain ⟨t1,t2,t3,rfl⟩:=own_form hO6
    have HD6:Hid (Below wc.heap.size wc w6):=below_row (Below.step D4 AB4) hG6 (fun j hj=>own_ge HO5.out hj)
    have hw6:=HD6.out.size
    have l6:=(HD6.out.cell (p:=⟨ga,1,none⟩) hgal).trans l1
    have hga6:ga < w6.heap.size:=by omega
    have HO6:=hidm' hO6
    have hsrc3:=H3.out w6 HD6.out
    clear hG6 hB6 hO6 HO5 hsrc2 hone2 AB4 b0 b1 b2 b3 b4 b5 b6 D4 hbx4
    go_wp2_with (at_builtin;refine wpList_catC (B:=wc.heap.size) rfl (.tmp 80) (.tmp 86) rfl HO6.out hsrc3 h2s Tryd.underlying23 hi hz0 hz1 hz2 rfl (by omega) rfl rfl (by have:=HN3.out;unfold maxLen;omega) (by have:=HN3.out;omega) hw6 ?_)
    intro V w7 hO7 hG7 hB7
    obtain ⟨y1,y2,y3,rfl⟩:=own_form hO7
    have D7:Below wc.heap.size wc w7:=below_row HD6.out hG7 (fun j hj=>own_ge HO6.out hj)
    have HA7:=hidm' (HAl.out.below D7)
    have HAZ:=hidm' (create_end (A:=⟨a.valid+1,a.boxes,a.seen⟩) HAl.out HLl.out D7 HEL.out HRl.out HV64.out hO7 (by have:=HN3.out;first | omega | (simp only;omega) | simp only) (by simp) hk)
    have HTZ:=hidm' ((HTl.out.trans (TurnsA.below (S:=S0) D7) (fun k h=>.inl h)).trans (TurnsA.set (S:=S0) (i:=1) (x:=.slice y1 y2 y3) HA7.out) (fun k h=>.inl h))
    have HKZ:=hidm' (box_other (k:=ga) (i:=1) (v:=.slice y1 y2 y3) (box_below D7 HKl.out) (by omega))
    have fz7:=HA7.out.open
    obtain ⟨w70,w71,c70,c71,-⟩:=HA7.out.cells
    have hga7:=HA7.out.lt
    clear hO7 hG7 hB7 D7 l6 hsrc3
    go_upto_region 14 with fail
    clear fz7 c70 c71 hga7
    generalize w7.setCell ⟨ga,1,none⟩ (.slice y1 y2 y3)=w8 at HAZ HTZ HKZ ⊢
    obtain ⟨-,-,c80,-⟩:=HAZ.out.cells
    simp only at c80
    have hga8:=HAZ.out.lt
    obtain ⟨r0,r1,r2,r3,r4,r5,r6,r7,r8,r9⟩:=bx10 HKZ.out
    have fz:∀ i,w8.frozen? ⟨w.heap.size,i,none⟩=false:=fun i=>frozen_of_row w8 _ i _ _ HKZ.out
    have hlr8:=lt_of_heap HKZ.out
    have HF:Hid _:=rep_turnA (w:=w) HKZ.out (Nat.le_refl _) HTZ.out _ _ HAZ.out hlg (fun h=>h.elim (fun h=>by have:=HSL.out _ h;omega) (fun h=>by omega)) 0 (a.valid+1) ⟨i64c0,HV64.out⟩
    go_wp2
    obtain ⟨f0,f1,f2,f3,f4,f5,f6,f7,f8,f9⟩:=bx10 HF.out.1
    refine bodyPost_ret (v:=.agg #[.int .i64 0,.int .i64 (a.valid+1),.slice none 0 0,.int .i64 0,.int .i64 0,.int .i64 0,.slice none 0 0,.slice none 0 0,.int .i64 0,.slice none 0 0]) (by simp [results,Tryd.results67,go_sem,f0,f1,f2,f3,f4,f5,f6,f7,f8,f9]) rfl ⟨_,rfl,HF.out.2.2.2,TurnsA.wide HF.out.2.1 HSUB.out,_,?_,(show ∀ k,(S0 k∨wc.heap.size≤k)→_ from fun k h=>h.elim (fun h=>.inl (HSUB.out k h)) (fun h=>.inr (by omega)))⟩
    rw [HTW.out.1,HTW.out.2]
    exact HF.out.2.2.1

end Go.Proofs.YtnlhkgoppjejeaaDoor
