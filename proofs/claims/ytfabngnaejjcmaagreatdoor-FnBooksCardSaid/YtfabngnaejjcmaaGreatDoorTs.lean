/- The proof's texts, part 28. -/
import Derived.Test.YtfabngnaejjcmaaGreatDoorTq
import Derived.Test.YtfabngnaejjcmaaGreatDoorTr
namespace Go.Proofs.YtfabngnaejjcmaaGreatDoor
open Go.RowKit
set_option linter.unusedVariables false
set_option linter.unusedSimpArgs false
set_option maxHeartbeats 8000000
set_option maxRecDepth 100000
/- What Vg of package spec does where it creates a box. -/
/-- A box's variable is filled. -/
theorem N9 {w0 x:World} {X:Nat} {S:Nat->Prop} {v:Value} {nm:List Int} (hk:x.heap[X]?=some (.cells #[.slice none 0 0,.int .i64 0,.int .i64 0,.int .i64 0,.slice none 0 0,.slice none 0 0,.int .i64 0] 70 (0,0))) (hD:Below w0.heap.size w0 x) (hX:w0.heap.size<=X) (hR:RO x S v nm) (c0 c1 c2 c3 c4 c5 c6:Value) :
  (((((((x.setCell ⟨X,0,none⟩ c0).setCell ⟨X,1,none⟩ c1).setCell ⟨X,2,none⟩ c2).setCell ⟨X,3,none⟩ c3).setCell ⟨X,4,none⟩ c4).setCell ⟨X,5,none⟩ c5).setCell ⟨X,6,none⟩ c6).heap[X]?=some (.cells #[c0,c1,c2,c3,c4,c5,c6] 70 (0,0))/\Below w0.heap.size w0 (((((((x.setCell ⟨X,0,none⟩ c0).setCell ⟨X,1,none⟩ c1).setCell ⟨X,2,none⟩ c2).setCell ⟨X,3,none⟩ c3).setCell ⟨X,4,none⟩ c4).setCell ⟨X,5,none⟩ c5).setCell ⟨X,6,none⟩ c6)/\RO (((((((x.setCell ⟨X,0,none⟩ c0).setCell ⟨X,1,none⟩ c1).setCell ⟨X,2,none⟩ c2).setCell ⟨X,3,none⟩ c3).setCell ⟨X,4,none⟩ c4).setCell ⟨X,5,none⟩ c5).setCell ⟨X,6,none⟩ c6) S v nm:=by
 refine⟨(aD (i:=6) (v:=c6) (aD (i:=5) (v:=c5) (aD (i:=4) (v:=c4) (aD (i:=3) (v:=c3) (aD (i:=2) (v:=c2) (aD (i:=1) (v:=c1) (aD (i:=0) (v:=c0) hk))))))),(((((((hD.setCell (p:=⟨X,0,none⟩) hX c0).setCell (p:=⟨X,1,none⟩) hX c1).setCell (p:=⟨X,2,none⟩) hX c2).setCell (p:=⟨X,3,none⟩) hX c3).setCell (p:=⟨X,4,none⟩) hX c4).setCell (p:=⟨X,5,none⟩) hX c5).setCell (p:=⟨X,6,none⟩) hX c6),lM hR λk hT=>?_⟩;have hne:k≠X:=λe=>by subst e;exact dX hk hT (by decide)
 rw[Below.heap_setCell _ _ _ _ (show k≠X from hne),Below.heap_setCell _ _ _ _ (show k≠X from hne),Below.heap_setCell _ _ _ _ (show k≠X from hne),Below.heap_setCell _ _ _ _ (show k≠X from hne),Below.heap_setCell _ _ _ _ (show k≠X from hne),Below.heap_setCell _ _ _ _ (show k≠X from hne),Below.heap_setCell _ _ _ _ (show k≠X from hne)]
/-- The two parts of an UU boxes, as values. -/
theorem aep {w:World} {S:Nat->Prop} {v:Value} {l:List aB} {k:Nat} (h:iT w S v l) (hk:k<=l.length):∃V1 V3 n3 CL,tH w V1 k 7 (CL.take (k * 7))/\(∀w',Below w.heap.size w w'->tH w' V3 n3 7 (CL.drop (k * 7)))/\EL 7 iE w l S CL/\l.length=k+n3 /\
  ((v=.slice none 0 0/\V1=.slice none 0 0/\V3=.slice none 0 0/\n3=0/\k=0)\/∃g cap,v=.slice (some ⟨g,0,none⟩) l.length cap/\l.length<=cap/\g < w.heap.size/\V1=.slice (some ⟨g,0,none⟩) k cap/\((k < cap/\n3=l.length - k/\V3=.slice (some ⟨g,k * 7,none⟩) (l.length - k) (cap - k))\/(k=l.length/\cap=l.length/\n3=0/\V3=.slice (some ⟨g,0,none⟩) 0 0))):=by
 rcases Ow.el h with⟨rfl,rfl⟩ | ⟨g,cap,cur,rfl,hh,h1,h2,h3,hS,hel⟩
 ·obtain rfl:k=0:=by simpa using hk
  exact⟨_,_,0,[],.inl ⟨rfl,rfl,rfl⟩,λ_ _=>.inl ⟨rfl,rfl,rfl⟩,(rfl:([]:List Value)=[]),rfl,.inl ⟨rfl,rfl,rfl,rfl,rfl⟩⟩
 ·have hs:l.length * 7<=cur.size:=by omega
  by_cases hc:k < cap
  ·exact⟨_,_,l.length - k,_,Jy hh hs hk cap,λw' hb=>Vb ((hb.block g (lt_of_heap hh)).trans hh) hs hk (cap - k),hel.mono λk h=>h.1,by omega,.inr ⟨g,cap,rfl,h1,lt_of_heap hh,rfl,.inl ⟨hc,rfl,rfl⟩⟩⟩
  ·obtain rfl:k=l.length:=by omega
   obtain rfl:cap=l.length:=by omega
   exact⟨_,_,0,_,Jy hh hs hk _,λw' _=>Vd w' g l.length cur 0,hel.mono λk h=>h.1,by omega,.inr ⟨g,_,rfl,h1,lt_of_heap hh,rfl,.inr ⟨rfl,rfl,rfl,rfl⟩⟩⟩
theorem aer (ga:Nat) (a:aT) (S:Nat->Prop) (nv:Value) (nm:List Int) (w:World) (hp:aJ w S ga a) (hst:∀w',w.heap.size<=w'.heap.size->aY w w' 5->Bs w' nv nm) (hnl:nm.length<=2000000) (hbl:a.boxes.length<=2000000) (hf:bD (λx:aB=>decide (x.name=nm)) a.boxes < 0) (h4:¬4<=a.boxes.length) (hv:¬1000000<=a.valid) :
  Calls Tryz.prog 65 #[.pointer (some ⟨ga,0,none⟩),nv] w λe w'=>∃u S',e=.returned u/\jr w' u (bJ 0 (a.valid+1))/\aI w w' S ga/\aJ w' S' ga ⟨a.valid+1,a.boxes.takeWhile (λx:aB=>ku x.name nm) ++ (⟨nm,a.valid+1,1,0,[],[],0⟩ :: a.boxes.dropWhile (λx:aB=>ku x.name nm)),a.seen⟩/\∀k,S' k->S k\/w.heap.size<=k:=by
 obtain⟨S0,iU⟩:∃S0:Nat->Prop,S0=λk=>S k/\k < w.heap.size:=⟨_,rfl⟩;have eu:Hid (∀k,S0 k->S k):=by subst iU;exact λk h=>h.1
 have HSL:Hid (∀k,S0 k->k < w.heap.size):=by subst iU;exact λk h=>h.2
 have HP:Hid (∀w',Below w.heap.size w w'->aJ w' S0 ga a):=by subst iU;exact λw' h=>hp.cut.below h
 clear iU;have jW:=hst w (Nat.le_refl _) (aY.refl _ _);have Oa:Hid (Oct nm):=jW.1;have HST:Hid (∀w',w.heap.size<=w'.heap.size->aY w w' 5->Bs w' nv nm):=hst;clear hst;have HN:Hid (∀w',Below w.heap.size w w'->Bs w' nv nm):=λw' h=>jW.below h;have bX:=hp.lt;obtain⟨q0,q1,q2,rfl⟩:=jW.aP;clear hp jW;have HB:Hid (Below w.heap.size w (w.alloc (.cells #[.int .i64 0,.int .i64 0,.slice none 0 0,.int .i64 0,.int .i64 0,.int .i64 0,.slice none 0 0,.slice none 0 0,.int .i64 0,.slice none 0 0] 73))):=bn _ _
 have HK:Hid ((w.alloc (.cells #[.int .i64 0,.int .i64 0,.slice none 0 0,.int .i64 0,.int .i64 0,.int .i64 0,.slice none 0 0,.slice none 0 0,.int .i64 0,.slice none 0 0] 73)).heap[w.heap.size]?=some (.cells #[.int .i64 0,.int .i64 0,.slice none 0 0,.int .i64 0,.int .i64 0,.int .i64 0,.slice none 0 0,.slice none 0 0,.int .i64 0,.slice none 0 0] 73 (0,0))):=aW w _
 go_enter Tryz.func65,Tryz.ntmps65;go_upto_region 1 with fail
 generalize w.alloc (.cells #[.int .i64 0,.int .i64 0,.slice none 0 0,.int .i64 0,.int .i64 0,.int .i64 0,.slice none 0 0,.slice none 0 0,.int .i64 0,.slice none 0 0] 73)=W at HB HK ⊢;obtain⟨u0,u1,c0,c1,c2,hb,hv⟩:=(HP.out W HB.out).cells;have hl2:ga < W.heap.size:=Nat.lt_of_lt_of_le bX HB.out.size;have HV:Hid _:=hv;obtain⟨e0,e1,rfl,-⟩:=hb.v.form;clear hb hv;go_wp2_with fail
 refine(uj _ _ a nm _ HV.out (HN.out _ HB.out) hbl).mono ?_;rintro e w1 ⟨rfl,B1⟩;have HB1:Hid (Below w.heap.size w w1):=Below.step HB.out B1;have gD:Hid _:=aA B1 HK.out;have d0:w1.cell? ⟨ga,0,none⟩=some (.int .i64 a.valid):=(B1.cell (p:=⟨ga,0,none⟩) hl2).trans c0;have d1:w1.cell? ⟨ga,1,none⟩=some (.slice e0 a.boxes.length e1):=(B1.cell (p:=⟨ga,1,none⟩) hl2).trans c1;have hl3:ga < w1.heap.size:=Nat.lt_of_lt_of_le hl2 B1.size;clear B1 HK c0 c1 c2 HV HN;generalize bD (λx:aB=>decide (x.name=nm)) a.boxes=fi at *
 have Vh:(a.boxes.length:Int) < 4:=by omega
 have HA1:Hid (aJ w1 S0 ga a):=HP.out w1 HB1.out;have hvl:(-9223372036854775808:Int)<=a.valid:=by
  obtain⟨-,-,-,-,-,-,r⟩:=HA1.out;exact r.1
 have hv64:av (a.valid+1):=⟨by omega,by omega⟩;have VJ:Hid (av (a.valid+1)):=hv64;have fz:=HA1.out.open;have HA2:Hid (aJ (w1.setCell ⟨ga,0,none⟩ (.int .i64 (a.valid+1))) S0 ga ⟨a.valid+1,a.boxes,a.seen⟩):=HA1.out.Jv hv64;have HT2:Hid (aI w (w1.setCell ⟨ga,0,none⟩ (.int .i64 (a.valid+1))) S0 ga):=(aI.below (S:=S0) HB1.out).trans (aI.set (S:=S0) HA1.out) (λk h=>.inl h);have jJ:Hid _:=eB (k:=ga) (i:=0) (v:=.int .i64 (a.valid+1)) gD.out (by omega);have hs2:(w1.setCell ⟨ga,0,none⟩ (.int .i64 (a.valid+1))).heap.size=w1.heap.size:=dW;have hs1:w.heap.size < w1.heap.size:=lt_of_heap gD.out
 clear hv64;go_upto_region 6 with fail
 generalize w1.setCell ⟨ga,0,none⟩ (.int .i64 (a.valid+1))=w0 at HA2 HT2 jJ hs2 ⊢;clear d0 d1 fz HA1 HB1 gD HP HB;have qD:Hid (∀w',Below w0.heap.size w0 w'->Bs w' (.slice q0 q1 q2) nm):=λw' h=>HST.out w' (Nat.le_trans HT2.out.1 h.size) (HT2.out.2.2.1.trans (fT h));clear HST;have akM:ga < w0.heap.size:=HA2.out.lt;obtain⟨v0,v1,k0,k1,-,hbq,-⟩:=HA2.out.cells;have Cj:Hid (w0.cell? ⟨ga,0,none⟩=some (.int .i64 (a.valid+1))):=k0;have dJ:Hid (w0.cell? ⟨ga,1,none⟩=some v0):=k1;have tQ:Hid (iT w0 S0 v0 a.boxes):=hbq
 have HS:Hid (∀w',Below w0.heap.size w0 w'->w'.cell? ⟨ga,0,none⟩=some (.int .i64 (a.valid+1))):=λw' h=>cell_later h Cj.out;obtain⟨i0,hi,hz0,hz1,hz2⟩:=info_parts KR;obtain⟨i1,hj,hy0,hy1,hy2⟩:=info_parts info5;have hl3:nm.length<=maxLen:=by unfold maxLen;omega
 have hl4:nm.length * 1<=140737488355328:=by omega
 obtain⟨N,hNe⟩:∃N,N=w0.heap.size:=⟨_,rfl⟩;have sj:Hid (N=w0.heap.size):=hNe;have VK:N<=w0.heap.size:=by omega
 clear k0 k1 hbq hNe hs2
 go_cut [5] (λs wx=>∃bx na nn nc,s=.pointer (some ⟨bx,0,none⟩)/\Hid (wx.heap[bx]?=some (.cells #[.slice na nn nc,.int .i64 (a.valid+1),.int .i64 1,.int .i64 0,.slice none 0 0,.slice none 0 0,.int .i64 0] 70 (0,0)))/\Hid (RO wx (λk=>N<=k) (.slice na nn nc) nm)/\N<=bx/\Hid (Below w0.heap.size w0 wx))
 case first =>
  have hN0:N<=w0.drew.heap.size:=VK;have D0:Hid (Below w0.heap.size w0 w0.drew):=(bd _ _);refine wp_region_held_drew (S:=λw'=>w'.cell? ⟨ga,0,none⟩=some (.int .i64 (a.valid+1))) (by kernel_rfl) (HS.out _ D0.out) (λal3=>(show wpAnyH _ _ _ _ _ 10 #[false,false,false,false,false,false,false,false,false,false] _ _ from ?_));refine tq 1 37 al3 ?_;refine tq 3 39 al3 ?_;refine tq 4 40 al3 ?_;refine tq 5 41 al3 ?_;refine tq 6 42 al3 ?_;generalize hwd:w0.drew=x0 at D0 hN0 al3 ⊢;clear hwd;refine wpAnyH_ready (rs:=[0,8]) (by kernel_rfl) (by simp) ?_
  refine AllReadyH.cons rfl (λK hK=>?_) (AllReadyH.cons rfl (λK hK=>?_) AllReadyH.nil)
  ·go_simp
   have AB:Below x0.heap.size x0 (x0.alloc (.cells #[] 5)):=bn _ _;have D1:=aU (Below.step D0.out AB);have hN1:=Nat.le_trans hN0 AB.size;have VL:=aU (lK x0 5 1 N hN0);have hE1:w0.heap.size<=x0.heap.size:=D0.out.size;refine hK.out _ _ (HS.out _ D1.out) (λal3=>?_);clear hK K AB;generalize hw1:x0.alloc (.cells #[] 5)=x1 at *
   clear hw1;refine wpAnyH_ready (rs:=[2,8]) (by kernel_rfl) (by simp) ?_;refine AllReadyH.cons rfl (λK hK=>?_) (AllReadyH.cons rfl (λK hK=>?_) AllReadyH.nil)
   ·refine eZ (by kernel_rfl) (mI (B:=N) 38 rfl (.tmp 36) (.tmp 37) rfl VL.out (Bs.rV (qD.out _ D1.out)) (one_byte _) Tryz.underlying22 hj hy0 hy1 hy2 rfl (by omega) rfl rfl hl3 hl4 hN1 ?_)
    intro V x2 xs hO hX hG hB;have hG':x1.grownBy x2 (some (x0.heap.size)):=hG;have D2:=aU (lQ D1.out hG' (show w0.heap.size<=x0.heap.size from hE1));have Nl:=Nat.le_trans hN1 hG'.size;have hR:RO x2 (λk=>N<=k) V nm:=rW Oa.out hO hX (λg hg=>dS hO hg);obtain⟨na,nn,nc,hV⟩:=hR.bs.aP;subst hV;have aes:Hid (RO x2 (λk=>N<=k) (.slice na nn nc) nm):=hR;refine hK.out _ _ (HS.out _ D2.out) (λal3=>?_);clear hK K hO hX hG hG' hB hR
    conv=>arg 8;simp only[Act.put,sA,s0,sS]
    refine tq 7 43 al3 ?_;refine wpAnyH_ready (rs:=[8]) (by kernel_rfl) (by simp) ?_;refine AllReadyH.cons rfl (λK hK=>?_) AllReadyH.nil;go_simp;have AB:Below x2.heap.size x2 (x2.alloc (.cells #[.slice none 0 0,.int .i64 0,.int .i64 0,.int .i64 0,.slice none 0 0,.slice none 0 0,.int .i64 0] 70)):=bn _ _;have D3:=aU (Below.step D2.out AB);have hN3:=Nat.le_trans Nl AB.size;have aeu:=aU (aes.out.below AB);have Oc:=aU (aW x2 (.cells #[.slice none 0 0,.int .i64 0,.int .i64 0,.int .i64 0,.slice none 0 0,.slice none 0 0,.int .i64 0] 70));have hX3:w0.heap.size<=x2.heap.size:=D2.out.size
    refine hK.out _ _ (HS.out _ D3.out) (λal3=>?_);clear hK K AB;generalize hw3:x2.alloc (.cells #[.slice none 0 0,.int .i64 0,.int .i64 0,.int .i64 0,.slice none 0 0,.slice none 0 0,.int .i64 0] 70)=x3 at *
    clear hw3;refine wpAnyH_ready (rs:=[9]) (by kernel_rfl) (by simp) ?_;refine AllReadyH.cons rfl (λK hK=>?_) AllReadyH.nil;obtain⟨zx,zl⟩:=aO Oc.out;obtain⟨q0,q1,q2,q3,q4,q5,q6⟩:=fV Oc.out;obtain⟨KF,DF,RF⟩:=N9 Oc.out D3.out hX3 aeu.out (.slice na nn nc) (.int .i64 (a.valid+1)) (.int .i64 1) (.int .i64 0) (.slice none 0 0) (.slice none 0 0) (.int .i64 0);go_simp;refine hK.out _ _ (HS.out _ DF) (λal3=>?_);clear hK K;refine wpAnyH_done (by kernel_rfl) ?_ _;go_wp2;go_meet
    case rel=>exact⟨_,_,_,_,rfl,KF,RF,Nl,DF⟩
   ·go_simp
    have AB:Below x1.heap.size x1 (x1.alloc (.cells #[.slice none 0 0,.int .i64 0,.int .i64 0,.int .i64 0,.slice none 0 0,.slice none 0 0,.int .i64 0] 70)):=bn _ _;have D4:=aU (Below.step D1.out AB);have VN:=Nat.le_trans hN1 AB.size;have VO:=aU (own_below VL.out AB);have aew:=aU (aW x1 (.cells #[.slice none 0 0,.int .i64 0,.int .i64 0,.int .i64 0,.slice none 0 0,.slice none 0 0,.int .i64 0] 70));have tO:w0.heap.size<=x1.heap.size:=D1.out.size;refine hK.out _ _ (HS.out _ D4.out) (λal3=>?_);clear hK K AB
    generalize hw4:x1.alloc (.cells #[.slice none 0 0,.int .i64 0,.int .i64 0,.int .i64 0,.slice none 0 0,.slice none 0 0,.int .i64 0] 70)=x4 at *
    clear hw4;refine wpAnyH_ready (rs:=[2]) (by kernel_rfl) (by simp) ?_;refine AllReadyH.cons rfl (λK hK=>?_) AllReadyH.nil;refine eZ (by kernel_rfl) (mI (B:=N) 38 rfl (.tmp 36) (.tmp 37) rfl VO.out (Bs.rV (qD.out _ D4.out)) (one_byte _) Tryz.underlying22 hj hy0 hy1 hy2 rfl (by omega) rfl rfl hl3 hl4 VN ?_);intro V x5 xs hO hX hG hB;have hG':x4.grownBy x5 (some (x0.heap.size)):=hG;have D5:=aU (lQ D4.out hG' (show w0.heap.size<=x0.heap.size from hE1));have hN5:=Nat.le_trans VN hG'.size;have KE:=rZ VO.out;have Od:=aU (Hq hG' aew.out KE (by decide));clear KE
    have hR:RO x5 (λk=>N<=k) V nm:=rW Oa.out hO hX (λg hg=>dS hO hg);obtain⟨na,nn,nc,hV⟩:=hR.bs.aP;subst hV;have aex:Hid (RO x5 (λk=>N<=k) (.slice na nn nc) nm):=hR;refine hK.out _ _ (HS.out _ D5.out) (λal3=>?_);clear hK K hO hX hG hG' hB hR
    conv=>arg 8;simp only[Act.put,sA,s0,sS]
    refine tq 7 43 al3 ?_;refine wpAnyH_ready (rs:=[9]) (by kernel_rfl) (by simp) ?_;refine AllReadyH.cons rfl (λK hK=>?_) AllReadyH.nil;obtain⟨zx,zl⟩:=aO Od.out;obtain⟨q0,q1,q2,q3,q4,q5,q6⟩:=fV Od.out;obtain⟨KF,DF,RF⟩:=N9 Od.out D5.out tO aex.out (.slice na nn nc) (.int .i64 (a.valid+1)) (.int .i64 1) (.int .i64 0) (.slice none 0 0) (.slice none 0 0) (.int .i64 0);go_simp;refine hK.out _ _ (HS.out _ DF) (λal3=>?_);clear hK K;refine wpAnyH_done (by kernel_rfl) ?_ _;go_wp2;go_meet
    case rel=>exact⟨_,_,_,_,rfl,KF,RF,hN1,DF⟩
  ·go_simp
   have AB:Below x0.heap.size x0 (x0.alloc (.cells #[.slice none 0 0,.int .i64 0,.int .i64 0,.int .i64 0,.slice none 0 0,.slice none 0 0,.int .i64 0] 70)):=bn _ _;have D6:=aU (Below.step D0.out AB);have Nr:=Nat.le_trans hN0 AB.size;have aey:=aU (aW x0 (.cells #[.slice none 0 0,.int .i64 0,.int .i64 0,.int .i64 0,.slice none 0 0,.slice none 0 0,.int .i64 0] 70));have yD:w0.heap.size<=x0.heap.size:=D0.out.size;refine hK.out _ _ (HS.out _ D6.out) (λal3=>?_);clear hK K AB
   generalize zD:x0.alloc (.cells #[.slice none 0 0,.int .i64 0,.int .i64 0,.int .i64 0,.slice none 0 0,.slice none 0 0,.int .i64 0] 70)=x6 at *
   clear zD;refine wpAnyH_ready (rs:=[0]) (by kernel_rfl) (by simp) ?_;refine AllReadyH.cons rfl (λK hK=>?_) AllReadyH.nil;go_simp;have AB:Below x6.heap.size x6 (x6.alloc (.cells #[] 5)):=bn _ _;have D7:=aU (Below.step D6.out AB);have VP:=Nat.le_trans Nr AB.size;have aez:=aU (aA AB aey.out);have VQ:=aU (lK x6 5 1 N Nr);have hE7:w0.heap.size<=x6.heap.size:=D6.out.size;refine hK.out _ _ (HS.out _ D7.out) (λal3=>?_);clear hK K AB;generalize hw7:x6.alloc (.cells #[] 5)=x7 at *
   clear hw7;refine wpAnyH_ready (rs:=[2]) (by kernel_rfl) (by simp) ?_;refine AllReadyH.cons rfl (λK hK=>?_) AllReadyH.nil;refine eZ (by kernel_rfl) (mI (B:=N) 38 rfl (.tmp 36) (.tmp 37) rfl VQ.out (Bs.rV (qD.out _ D7.out)) (one_byte _) Tryz.underlying22 hj hy0 hy1 hy2 rfl (by omega) rfl rfl hl3 hl4 VP ?_);intro V x8 xs hO hX hG hB;have hG':x7.grownBy x8 (some (x6.heap.size)):=hG;have D8:=aU (lQ D7.out hG' (show w0.heap.size<=x6.heap.size from hE7));have hN8:=Nat.le_trans VP hG'.size;have KE:=rZ VQ.out;have Oe:=aU (Hq hG' aez.out KE (by decide));clear KE
   have hR:RO x8 (λk=>N<=k) V nm:=rW Oa.out hO hX (λg hg=>dS hO hg);obtain⟨na,nn,nc,hV⟩:=hR.bs.aP;subst hV;have aeB:Hid (RO x8 (λk=>N<=k) (.slice na nn nc) nm):=hR;refine hK.out _ _ (HS.out _ D8.out) (λal3=>?_);clear hK K hO hX hG hG' hB hR
   conv=>arg 8;simp only[Act.put,sA,s0,sS]
   refine tq 7 43 al3 ?_;refine wpAnyH_ready (rs:=[9]) (by kernel_rfl) (by simp) ?_;refine AllReadyH.cons rfl (λK hK=>?_) AllReadyH.nil;obtain⟨zx,zl⟩:=aO Oe.out;obtain⟨q0,q1,q2,q3,q4,q5,q6⟩:=fV Oe.out;obtain⟨KF,DF,RF⟩:=N9 Oe.out D8.out yD aeB.out (.slice na nn nc) (.int .i64 (a.valid+1)) (.int .i64 1) (.int .i64 0) (.slice none 0 0) (.slice none 0 0) (.int .i64 0);go_simp;refine hK.out _ _ (HS.out _ DF) (λal3=>?_);clear hK K;refine wpAnyH_done (by kernel_rfl) ?_ _;go_wp2;go_meet
   case rel=>exact⟨_,_,_,_,rfl,KF,RF,hN0,DF⟩
 case rest =>
  obtain⟨bx,na,nn,nc,rfl,su,VR,hbx,HD⟩:=hcut;have hNe:=sj.out;subst hNe;have Dq:Hid (RO wc Any (.slice na nn nc) nm):=VR.out.mono λ_ _=>trivial;have hlx:=lt_of_heap su.out;have JO:Hid (aJ wc S0 ga ⟨a.valid+1,a.boxes,a.seen⟩):=HA2.out.below HD.out;have VT:Hid (aI w wc S0 ga):=HT2.out.trans (aI.below (S:=S0) HD.out) (λk h=>.inl h);have Og:Hid _:=aA HD.out jJ.out;have VU:Hid (∀w',Below wc.heap.size wc w'->Bs w' (.slice q0 q1 q2) nm):=λw' h=>qD.out w' (Below.step HD.out h);have Oh:ga < wc.heap.size:=JO.out.lt;have hlr:w.heap.size < wc.heap.size:=lt_of_heap Og.out
  have VW:Hid (∀k,S0 k->k < wc.heap.size):=λk h=>by have:=HSL.out k h;omega
  obtain⟨v0,v1,k0,k1,-,hbq,-⟩:=JO.out.cells;have Cj:Hid (wc.cell? ⟨ga,0,none⟩=some (.int .i64 (a.valid+1))):=k0;have dJ:Hid (wc.cell? ⟨ga,1,none⟩=some v0):=k1;have tQ:Hid (iT wc S0 v0 a.boxes):=hbq;clear k0 k1 hbq HD HA2 HT2 jJ qD HS VR sj VK
  go_upto_block 0 with fail
  go_cut [6] (λiv wr=>∃k:Nat,k<=a.boxes.length/\iv=.int .i64 k/\Hid (∀j x,j < k->a.boxes[j]?=some x->ku x.name nm=true)/\Hid (∀x,a.boxes[k]?=some x->ku x.name nm=false)/\Hid (Below wc.heap.size wc wr))
  case first =>
   rcases Ow.el tQ.out with⟨hv0,hnil⟩ | ⟨g,cap,cur,hv0,hgh,hc1,hc2,hc3,jv,hel⟩
   ·subst hv0
    have VX:Hid (a.boxes=[]):=hnil;clear hnil tQ;go_wp2
    go_loopw [6] (λiv wr=>∃k:Nat,k<=a.boxes.length/\iv=.int .i64 k/\Hid (∀j x,j < k->a.boxes[j]?=some x->ku x.name nm=true)/\Hid (Below wc.heap.size wc wr)) (λiv _=>a.boxes.length - (intOf iv).toNat)
    case atStart=>exact⟨0,Nat.zero_le _,rfl,(λj m hj=>absurd hj (Nat.not_lt_zero _)),Below.refl _ _⟩
    case round =>
     obtain⟨k,hk,rfl,hA,hB⟩:=hrel;have hwr:=hB.out.size;have hgr:ga < wr.drew.heap.size:=by show ga < wr.heap.size;omega
     have aeC:ga < wr.heap.size:=by omega
     have pW:Hid (Below wc.heap.size wc wr.drew):=hB.out.drew;have hk0:k=0:=by have h:=hk;rw[VX.out] at h;simpa using h
     subst hk0;go_wp2;refine wp_region_held_drew (S:=λw'=>w'.cell? ⟨ga,1,none⟩=some (.slice none 0 0)) (by kernel_rfl) ((pW.out.cell (p:=⟨ga,1,none⟩) Oh).trans dJ.out) (λal3=>(show wpAnyH _ _ _ _ _ 21 #[false,false,false,false,false,false,false,false,false,false,false,false,false,false,false,false,false,false,false,false,false] _ _ from ?_));refine tq 0 44 al3 ?_;refine tq 1 45 al3 ?_;refine tq 2 46 al3 ?_;refine tq 3 47 al3 ?_;refine tq 4 48 al3 ?_;refine tq 5 49 al3 ?_;refine tq 6 50 al3 ?_;refine tq 7 51 al3 ?_
     refine Dh (by kernel_rfl) (λ_ _ _ _ _ h=>h) al3 [8,9,10,11,12,13,14,15,16,17,18,19] [52,53,54,55,56,57,58,59,60,61,62,63] _ _ _ (by kernel_rfl) ?_;simp only[List.foldl_cons,List.foldl_nil,Act.put,sA,s0,sS];refine tq 20 64 al3 ?_;refine wpAnyH_done (by kernel_rfl) ?_ _;go_wp2;go_meet
     case rel=>exact⟨_,by omega,rfl,hA,(show Hid _ from λy hy=>by rw[VX.out] at hy;cases hy),pW⟩
   ·subst hv0
    have Fq:Hid _:=hgh;have lZ:Hid (∀w',Below wc.heap.size wc w'->lH w' (.slice (some ⟨g,0,none⟩) a.boxes.length cap) a.boxes):=λw' h=>tQ.out.v.below CV h;have akQ:Hid (EL 7 iE wc a.boxes S0 (cur.toList.take (a.boxes.length * 7))):=hel.mono λk h=>h.1;have akR:g < wc.heap.size:=lt_of_heap hgh;clear hgh hel tQ;go_wp2
    go_loopw [6] (λiv wr=>∃k:Nat,k<=a.boxes.length/\iv=.int .i64 k/\Hid (∀j x,j < k->a.boxes[j]?=some x->ku x.name nm=true)/\Hid (Below wc.heap.size wc wr)) (λiv _=>a.boxes.length - (intOf iv).toNat)
    case atStart=>exact⟨0,Nat.zero_le _,rfl,(λj m hj=>absurd hj (Nat.not_lt_zero _)),Below.refl _ _⟩
    case round =>
     obtain⟨k,hk,rfl,hA,hB⟩:=hrel;have hwr:=hB.out.size;have hgr:ga < wr.drew.heap.size:=by show ga < wr.heap.size;omega
     have aeC:ga < wr.heap.size:=by omega
     have pW:Hid (Below wc.heap.size wc wr.drew):=hB.out.drew
     by_cases hlt:k < a.boxes.length
     ·obtain⟨x,hx⟩:∃x,a.boxes[k]?=some x:=⟨a.boxes[k],bK hlt⟩
      obtain⟨b,off,cp,t,z1,z2,hv',hlb,f0,-,-,-,-,-,-,ht,-⟩:=lH.cell (lZ.out wr.drew pW.out) k x hx;simp only[Value.slice.injEq,Option.some.injEq,Addr.mk.injEq,and_true,true_and] at hv';obtain⟨⟨rfl,rfl⟩,rfl⟩:=hv';rw[Nat.zero_add] at f0;have VY:Hid (∀w',Below wr.drew.heap.size wr.drew w'->(convert 22 9 (t)).run Tryz.prog w'=.ok (.string (strOfNums x.name)) w'/\(convert 22 9 (.slice q0 q1 q2)).run Tryz.prog w'=.ok (.string (strOfNums nm)) w'):=λw' h=>⟨GI (ht.below h),GI (VU.out w' (Below.step pW.out h))⟩;obtain⟨ta,tn,tc,rfl⟩:=ht.aP
      have VZ:Hid (Op.bytesLess (strOfNums x.name).toList (strOfNums nm).toList=ku x.name nm):=by simp only[Hid,ku,KS]
      have nA:Hid (a.boxes[k]?=some x):=hx;have hki:(k:Int) < a.boxes.length:=by omega
      have HSS:Hid ((wr.drew.cell? ⟨ga,1,none⟩=some (.slice (some ⟨g,0,none⟩) a.boxes.length cap)/\wr.drew.cell? ⟨g,k * 7,none⟩=some (.slice ta tn tc))/\(convert 22 9 (.slice ta tn tc)).run Tryz.prog wr.drew=.ok (.string (strOfNums x.name)) wr.drew/\(convert 22 9 (.slice q0 q1 q2)).run Tryz.prog wr.drew=.ok (.string (strOfNums nm)) wr.drew):=⟨⟨(pW.out.cell (p:=⟨ga,1,none⟩) Oh).trans dJ.out,f0⟩,VY.out _ (Below.refl _ _)⟩;clear ht hx f0 VY hlb;have HZ:Hid (∃z,z=ku x.name nm):=⟨_,rfl⟩;obtain⟨z,hz⟩:=HZ.out;have hb:=VZ.out.trans hz.symm;have HZ:Hid (z=ku x.name nm):=hz;clear hz VZ;go_wp2
      refine wp_region_held_drew (S:=λw'=>(w'.cell? ⟨ga,1,none⟩=some (.slice (some ⟨g,0,none⟩) a.boxes.length cap)/\w'.cell? ⟨g,k * 7,none⟩=some (.slice ta tn tc))/\(convert 22 9 (.slice ta tn tc)).run Tryz.prog w'=.ok (.string (strOfNums x.name)) w'/\(convert 22 9 (.slice q0 q1 q2)).run Tryz.prog w'=.ok (.string (strOfNums nm)) w') (by kernel_rfl) (HSS.out) (λal3=>(show wpAnyH _ _ _ _ _ 21 #[false,false,false,false,false,false,false,false,false,false,false,false,false,false,false,false,false,false,false,false,false] _ _ from ?_));refine tq 0 44 al3 ?_;refine tq 1 45 al3 ?_
      refine tq 2 46 al3 ?_;refine tq 3 47 al3 ?_;refine tq 4 48 al3 ?_;refine tq 5 49 al3 ?_;refine tq 6 50 al3 ?_;refine tq 7 51 al3 ?_;refine tq 8 52 al3 ?_;refine tq 9 53 al3 ?_;refine tq 10 54 al3 ?_;refine tq 11 55 al3 ?_;refine tq 12 56 al3 ?_;refine tq 13 57 al3 ?_;refine tq 14 58 al3 ?_;refine tq 15 59 al3 ?_;refine tq 16 60 al3 ?_;refine tq 17 61 al3 ?_;refine tq 18 62 al3 ?_;refine tq 19 63 al3 ?_;refine tq 20 64 al3 ?_;refine wpAnyH_done (by kernel_rfl) ?_ _;cases z with
      | true =>
       go_wp2;go_roundw
       case rel =>
        refine⟨k+1,by omega,by go_num,(show Hid _ from λj y hj hy=>?_),pW⟩
        by_cases e:j=k
        ·subst e;rw[nA.out] at hy;cases hy;exact HZ.out.symm
        ·exact hA.out j y (by omega) hy
       case measure=>simp[intOf];omega
      | false =>
       go_wp2;go_meet
       case rel=>exact⟨_,by omega,rfl,hA,(show Hid _ from λy hy=>by rw[nA.out] at hy;cases hy;exact HZ.out.symm),pW⟩
     ·obtain rfl:k=a.boxes.length:=by omega
      go_wp2;refine wp_region_held_drew (S:=λw'=>w'.cell? ⟨ga,1,none⟩=some (.slice (some ⟨g,0,none⟩) a.boxes.length cap)) (by kernel_rfl) ((pW.out.cell (p:=⟨ga,1,none⟩) Oh).trans dJ.out) (λal3=>(show wpAnyH _ _ _ _ _ 21 #[false,false,false,false,false,false,false,false,false,false,false,false,false,false,false,false,false,false,false,false,false] _ _ from ?_));refine tq 0 44 al3 ?_;refine tq 1 45 al3 ?_;refine tq 2 46 al3 ?_;refine tq 3 47 al3 ?_;refine tq 4 48 al3 ?_;refine tq 5 49 al3 ?_;refine tq 6 50 al3 ?_;refine tq 7 51 al3 ?_
      refine Dh (by kernel_rfl) (λ_ _ _ _ _ h=>h) al3 [8,9,10,11,12,13,14,15,16,17,18,19] [52,53,54,55,56,57,58,59,60,61,62,63] _ _ _ (by kernel_rfl) ?_;simp only[List.foldl_cons,List.foldl_nil,Act.put,sA,s0,sS];refine tq 20 64 al3 ?_;refine wpAnyH_done (by kernel_rfl) ?_ _;go_wp2;go_meet
      case rel=>exact⟨_,by omega,rfl,hA,(show Hid _ from λy hy=>by rw[List.getElem?_eq_none (Nat.le_refl _)] at hy;cases hy),pW⟩
  case rest =>
   obtain⟨k,hk,rfl,hA,hZ,zF⟩:=hcut;have V5:Hid _:=takeWhile_take (λx:aB=>ku x.name nm) a.boxes k hA.out hZ.out hk;have KQ:=zF.out.size;have Oi:=aU (JO.out.below zF.out);have HTl:Hid (aI w wc S0 ga):=VT.out.trans (aI.below (S:=S0) zF.out) (λk h=>.inl h);have HKl:=aU (aA zF.out Og.out);have V9:=aU (aA zF.out su.out);have HRl:Hid (RO wc Any (.slice na nn nc) nm):=Dq.out.below zF.out;have HLl:Hid (∀k,S0 k->k < wc.heap.size):=λk h=>Nat.lt_of_lt_of_le (VW.out k h) KQ;have aeI:ga < wc.heap.size:=by omega
   have akS:bx < wc.heap.size:=lt_of_heap V9.out;clear JO VT Og su Dq VW Cj dJ tQ hA hZ VU zF;obtain⟨vb,-,-,l1,-,hbq,-⟩:=Oi.out.cells;obtain⟨V1,V3,n3,CL,hsrc1,h3,hel,JA,ways⟩:=aep hbq hk;have H3:=aU h3;have nX:=aU JA;have Oj:=aU hel;have Fu:∀y ∈ CL.take (k * 7),y.oneCell'=true:=λy hy=>zw Oj.out y (List.mem_of_mem_take hy);have Fv:∀y ∈ CL.drop (k * 7),y.oneCell'=true:=λy hy=>zw Oj.out y (List.mem_of_mem_drop hy);clear h3 hel hbq JA;rcases ways with⟨rfl,rfl,rfl,rfl,rfl⟩ | ⟨g,cap,rfl,hcp,hgl,rfl,⟨hkc,rfl,rfl⟩ | ⟨rfl,rfl,rfl,rfl⟩⟩
   all_goals
    go_wp2_with (at_builtin;refine M6 (B:=wc.heap.size) rfl (.tmp 67) (.tmp 73) rfl (World.ownsRow_nil _ _ _ _) hsrc1 Fu Tryz.underlying36 hi hz0 hz1 hz2 rfl (by omega) rfl rfl (by unfold maxLen;omega) (by omega) (Nat.le_refl _) ?_)
    intro V w4 hO4 hG4 hB4;obtain⟨p1,p2,p3,rfl⟩:=jO hO4;have D4:Below wc.heap.size wc w4:=nW (Below.refl _ _) hG4 (λj hj=>by cases hj);have hw4:=D4.size;obtain⟨b0,b1,b2,b3,b4,b5,b6⟩:=fV (aA D4 V9.out);have aeJ:bx < w4.heap.size:=by omega
    have JQ:Below w4.heap.size w4 (w4.alloc (.cells #[.slice na nn nc,.int .i64 (a.valid+1),.int .i64 1,.int .i64 0,.slice none 0 0,.slice none 0 0,.int .i64 0] 70)):=bn _ _;have wo:=aU (own_below hO4 JQ)
    have xH:tH (w4.alloc (.cells #[.slice na nn nc,.int .i64 (a.valid+1),.int .i64 1,.int .i64 0,.slice none 0 0,.slice none 0 0,.int .i64 0] 70)) (.slice (some ⟨w4.heap.size,0,none⟩) 1 1) 1 7 [.slice na nn nc,.int .i64 (a.valid+1),.int .i64 1,.int .i64 0,.slice none 0 0,.slice none 0 0,.int .i64 0]:=.inr ⟨_,_,_,rfl,rfl,λj y hy=>by rw[cell_of_row _ _ _ _ _ (0,0) (aW w4 (.cells #[.slice na nn nc,.int .i64 (a.valid+1),.int .i64 1,.int .i64 0,.slice none 0 0,.slice none 0 0,.int .i64 0] 70)),Nat.zero_add];simpa using hy⟩
    have Wd:∀y ∈ [Value.slice na nn nc,Value.int .i64 (a.valid+1),Value.int .i64 1,Value.int .i64 0,Value.slice none 0 0,Value.slice none 0 0,Value.int .i64 0],y.oneCell'=true:=by simp[Value.oneCell']
    have hsz5:=Nat.le_trans hw4 JQ.size;clear hG4 hB4 hO4 hsrc1;go_wp2_with (at_builtin;refine M6 (B:=wc.heap.size) rfl (.tmp 75) (.tmp 77) rfl wo.out xH Wd Tryz.underlying36 hi hz0 hz1 hz2 rfl (by omega) rfl rfl (by unfold maxLen;omega) (by omega) hsz5 ?_)
    intro V w6 gH je uE;obtain⟨t1,t2,t3,rfl⟩:=jO gH;have HD6:Hid (Below wc.heap.size wc w6):=nW (Below.step D4 JQ) je (λj hj=>dS wo.out hj);have zD:=HD6.out.size;have l6:=(HD6.out.cell (p:=⟨ga,1,none⟩) aeI).trans l1;have akT:ga < w6.heap.size:=by omega
    have pq:=aU gH;have Wh:=H3.out w6 HD6.out;clear je uE gH wo xH Wd JQ b0 b1 b2 b3 b4 b5 b6 D4 aeJ;go_wp2_with (at_builtin;refine M6 (B:=wc.heap.size) rfl (.tmp 80) (.tmp 86) rfl pq.out Wh Fv Tryz.underlying36 hi hz0 hz1 hz2 rfl (by omega) rfl rfl (by have:=nX.out;unfold maxLen;omega) (by have:=nX.out;omega) zD ?_)
    intro V w7 zG Fw Om;obtain⟨y1,y2,y3,rfl⟩:=jO zG;have D7:Below wc.heap.size wc w7:=nW HD6.out Fw (λj hj=>dS pq.out hj);have xI:=aU (Oi.out.below D7);have tT:=aU (adn (A:=⟨a.valid+1,a.boxes,a.seen⟩) Oi.out HLl.out D7 Oj.out HRl.out VJ.out zG (by have:=nX.out;first | omega | (simp only;omega) | simp only) (by simp) hk);have xJ:=aU ((HTl.out.trans (aI.below (S:=S0) D7) (λk h=>.inl h)).trans (aI.set (S:=S0) (i:=1) (x:=.slice y1 y2 y3) xI.out) (λk h=>.inl h));have mo:=aU (eB (k:=ga) (i:=1) (v:=.slice y1 y2 y3) (aA D7 HKl.out) (by omega));have Fx:=xI.out.open
    obtain⟨Wi,Wj,c70,Fy,-⟩:=xI.out.cells;have Fz:=xI.out.lt;clear zG Fw Om D7 l6 Wh;go_upto_region 14 with fail
    clear Fx c70 Fy Fz;generalize w7.setCell ⟨ga,1,none⟩ (.slice y1 y2 y3)=w8 at tT xJ mo ⊢;obtain⟨-,-,c80,-⟩:=tT.out.cells;simp only at c80;have akU:=tT.out.lt;obtain⟨r0,r1,r2,r3,r4,r5,r6,r7,r8,r9⟩:=bf mo.out;have fz:∀i,w8.frozen? ⟨w.heap.size,i,none⟩=false:=λi=>frozen_of_row w8 _ i _ _ mo.out;have Wm:=lt_of_heap mo.out;have HF:Hid _:=Ci (w:=w) mo.out (Nat.le_refl _) xJ.out _ _ tT.out bX (λh=>h.elim (λh=>by have:=HSL.out _ h;omega) (λh=>by omega)) 0 (a.valid+1) ⟨aK,VJ.out⟩;go_wp2;obtain⟨f0,f1,f2,f3,f4,f5,f6,f7,f8,f9⟩:=bf HF.out.1
    refine bodyPost_ret (v:=.agg #[.int .i64 0,.int .i64 (a.valid+1),.slice none 0 0,.int .i64 0,.int .i64 0,.int .i64 0,.slice none 0 0,.slice none 0 0,.int .i64 0,.slice none 0 0]) (by simp[results,Tryz.results65,go_sem,f0,f1,f2,f3,f4,f5,f6,f7,f8,f9]) rfl ⟨_,rfl,HF.out.2.2.2,aI.wide HF.out.2.1 eu.out,_,?_,(show ∀k,(S0 k\/wc.heap.size<=k)->_ from λk h=>h.elim (λh=>.inl (eu.out k h)) (λh=>.inr (by omega)))⟩;rw[V5.out.1,V5.out.2];exact HF.out.2.2.1
end Go.Proofs.YtfabngnaejjcmaaGreatDoor
