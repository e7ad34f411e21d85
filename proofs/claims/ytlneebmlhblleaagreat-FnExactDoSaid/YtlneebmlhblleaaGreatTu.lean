/- The proof's texts, part 30. -/
import Derived.Test.YtlneebmlhblleaaGreatTh
namespace Go.Proofs.YtlneebmlhblleaaGreat
open Go.RowKit
set_option linter.unusedVariables false
set_option linter.unusedSimpArgs false
set_option maxHeartbeats 8000000
set_option maxRecDepth 100000
/- What aiJ of package spec does. -/
theorem ac5:(Tryz.f57.body.bind (bQ 4)).all (fun o=>qW o 22 [0,2,3,4,5,7,8,9,10,11,12,14,13,1,6,15,16,17,18,19,20,21] [13,14,15,17,18,21] [12] [19,22] 0)=true:=by kernel_rfl
theorem ac6:(Tryz.f57.body.bind (bQ 4)).all (fun o=>qW o 22 [0,2,3,4,5,7,8,9,10,11,12,14,1,13,6,15,16,17,18,19,20,21] [14,15,17,18,21] [12,13] [19,22] 0)=true:=by kernel_rfl
theorem ac7:(Tryz.f57.body.bind (bQ 4)).all (fun o=>qW o 22 [0,2,3,4,5,7,8,9,10,11,12,14,1,6,13,15,16,17,18,19,20,21] [14,15,17,18,21] [12,13] [19,22] 0)=true:=by kernel_rfl
theorem jL {w:World} {B n:Nat} {e:TypeId} {sz:Nat} {v:Value} {xs:List Value} (h:w.ownsRow B e sz v n xs):∃ a m c,v=.slice a m c:=by
 rcases h.2 with ⟨h,-⟩ | ⟨g,cap,cur,h,-⟩
 ·exact ⟨_,_,_,h⟩
 ·exact ⟨_,_,_,h⟩
theorem nM {w0 w w':World} {row:Option Nat} (h:Below w0.heap.size w0 w) (hg:w.grownBy w' row) (hr:∀ j,row=some j→w0.heap.size≤j):Below w0.heap.size w0 w' :=
 ⟨hg.os.trans h.os,hg.tape.trans h.tape,hg.output.trans h.output,Nat.le_trans h.size hg.size,fun k hk=>(hg.block k (Nat.lt_of_lt_of_le hk h.size) fun e=>by have:=hr k e.symm;omega).trans (h.block k hk)⟩
theorem LZ {w w':World} {S:Nat→Prop} {u v:Value} {l:List Int} {B n:Nat} {e:TypeId} {sz:Nat} {xs:List Value} (h:RO w S u l) (hg:w.grownBy w' v.ownBlock) (hr:w.ownsRow B e sz v n xs) (hne:5≠e):RO w' S u l:=by
 refine mR h fun k ⟨cs,fz,hk⟩=>hg.block k (lt_of_heap hk) fun e2=>?_
 rcases hr.2 with ⟨h',-⟩ | ⟨g',cap,cur,h',-,hh,-⟩
 ·rw [h'] at e2;cases e2
 ·rw [h'] at e2
  cases e2
  rw [hh] at hk
  cases hk
  exact hne rfl
/-- The list that has grown is the rV own. -/
theorem Ma {wb x:World} {S:Nat→Prop} {g o:Nat} {b0:aD} {ms:List aF} {xm:List Value} {da ta:Option Addr} {dn dc tn tc:Nat} {tx:List Int} {nx fl sq:Int} (hp:aN wb S g o b0) (hD:Below wb.heap.size wb x)
  (hm:x.ownsRow wb.heap.size 124 4 (.slice da dn dc) (ms.length+1) (xm ++ [.int .i64 nx,.int .i64 fl,.int .i64 sq,.slice ta tn tc])) 
  (hx:∀ i m,ms[i]?=some m→∃ c,c.length=4∧sK wb c m Any∧∀ j y,c[j]?=some y→xm[i * 4+j]?=some y) (hxl:xm.length=ms.length * 4)
  (ht:RO x (fun k=>wb.heap.size≤k) (.slice ta tn tc) tx) (hi:aB nx∧aB fl∧aB sq) :
  aN (x.setCell ⟨g,o+4,none⟩ (.slice da dn dc)) (fun k=>S k∨wb.heap.size≤k) g o ⟨b0.name,b0.valid,b0.next,b0.seq,ms ++ [⟨nx,fl,sq,tx⟩],b0.au,b0.lost⟩∧Turns wb (x.setCell ⟨g,o+4,none⟩ (.slice da dn dc)) (fun k=>wb.heap.size≤k) g o:=by
 have hp':=hp.below hD
 have hq:ji x (fun k=>wb.heap.size≤k) (.slice da dn dc) (ms ++ [⟨nx,fl,sq,tx⟩]):=by
  refine QU hm (by simp) (fun i m h=>?_) (fun k hk=>dJ hm hk)
  by_cases hlt:i < ms.length
  ·rw [List.getElem?_append_left hlt] at h
   obtain ⟨c,h1,h2,h3⟩:=hx i m h
   refine ⟨c,h1,wH h2 (gG hD),fun j y hy=>?_⟩
   have:=h3 j y hy
   rw [List.getElem?_append_left (gs1 this).1]
   exact this
  ·rw [List.getElem?_append_right (by omega)] at h
   have hi0:i=ms.length:=by
    have:=(gs1 h).1
    simp at this
    omega
   subst hi0
   simp only [Nat.sub_self,List.getElem?_cons_zero,Option.some.injEq] at h
   subst h
   refine ⟨[.int .i64 nx,.int .i64 fl,.int .i64 sq,.slice ta tn tc],rfl,⟨_,rfl,ht.mono fun _ _=>trivial,hi⟩,fun j y hy=>?_⟩
   rw [List.getElem?_append_right (by omega),show ms.length * 4+j - xm.length=j by omega]
   exact hy
 exact ⟨hp'.Qr (hq.mono fun _ h=>.inr h) (fun _ h=>.inl h),(oU hD).trans (sN (S':=fun k=>wb.heap.size≤k) hp' (by omega)) (fun k h=>.inl h)⟩
theorem Mc (g o:Nat) (b:aD) (S:Nat→Prop) (fl:Int) (tv:Value) (tx:List Int) (w:World) (hp:aN w S g o b) (hfl:aB fl) (ht:∀ w',w.heap.size≤w'.heap.size→bT w w' 5→Bs w' tv tx) (hlt:tx.length≤2000000) (hml:b.ah.length≤2000000) (hs1:b.seq < 1000000000) (hn1:b.next < 1000000000) :
  Calls Tryz.prog 57 #[.pointer (some ⟨g,o,none⟩),.int .i64 fl,tv] w fun e w'=>e=.returned (.int .i64 b.next)∧Turns w w' S g o∧aN w' (fun k=>S k∨w.heap.size≤k) g o (jR b fl tx):=by
 have hp0:=hp
 obtain ⟨u0,u1,u2,h0,h1,h2,⟨i0,i1,i2,i3⟩,c0,c1,c2,c3,c4,c5,c6⟩:=hp.cells
 have hz:=hp.open
 have bM:=hp.lt
 have b1:=i1.1
 have b2:=i2.1
 have jw:Hid (aN (w.setCell ⟨g,o+3,none⟩ (.int .i64 (b.seq+1))) S g o _):=hp.uN (b.seq+1) ⟨by omega,by omega⟩
 have HT1:Hid (Turns w (w.setCell ⟨g,o+3,none⟩ (.int .i64 (b.seq+1))) S g o):=sN hp (by omega)
 have DL:Hid (aB b.next∧aB fl∧aB (b.seq+1)):=⟨i1,hfl,by omega,by omega⟩
 obtain ⟨Ut,Uu,Uv,htv⟩:=(ht w (Nat.le_refl _) (bT.refl _ _)).aG
 subst htv
 have kE:Hid (Oct tx):=(ht w (Nat.le_refl _) (bT.refl _ _)).1
 have HT:Hid (∀ w',w.heap.size≤w'.heap.size→bT w w' 5→Bs w' (.slice Ut Uu Uv) tx):=ht
 obtain ⟨i0,hi,hz0,hz1,hz2⟩:=info_parts zO
 obtain ⟨j0,hj,hy0,hy1,hy2⟩:=info_parts info5
 have hl1:b.ah.length≤maxLen:=by unfold maxLen;omega
 have hl2:b.ah.length * 48≤140737488355328:=by omega
 have hl3:tx.length≤maxLen:=by unfold maxLen;omega
 have hl4:tx.length * 1≤140737488355328:=by omega
 have hl5:b.ah.length+1≤maxLen:=by unfold maxLen;omega
 have Md:(b.ah.length+1) * 48≤140737488355328:=by omega
 clear ht h0 h1 h2 hfl i1 i2 i3 hp hp0
 go_enter Tryz.func57,Tryz.ntmps57
 go_upto_region 2 with fail
 clear c0 c1 c2 c3 c4 c5 c6 hz bM
 generalize w.setCell ⟨g,o+3,none⟩ (.int .i64 (b.seq+1))=w1 at jw HT1 ⊢
 obtain ⟨u0,u1,u2,h0,h1,h2,hint,c0,c1,c2,c3,c4,c5,c6⟩:=jw.out.cells
 simp only at c0 c1 c2 c3 c4 c5 c6
 have hz:=jw.out.open
 have bM:=jw.out.lt
 have Me:Hid (aN (w1.setCell ⟨g,o+2,none⟩ (.int .i64 (b.next+1))) S g o _):=jw.out.JZ (b.next+1) ⟨by omega,by omega⟩
 have Mf:Hid (Turns w (w1.setCell ⟨g,o+2,none⟩ (.int .i64 (b.next+1))) S g o):=HT1.out.trans (sN (S':=S) jw.out (by omega)) (fun k h=>.inl h)
 clear h0 h1 h2 hint
 go_upto_region 4 with fail
 clear c0 c1 c2 c3 c4 c5 c6 hz bM
 generalize w1.setCell ⟨g,o+2,none⟩ (.int .i64 (b.next+1))=w2 at Me Mf ⊢
 clear jw HT1
 have jW:Hid (aN w2.drew S g o ⟨b.name,b.valid,b.next+1,b.seq+1,b.ah,b.au,b.lost⟩):=Me.out.below (bd _ _)
 have HT2:Hid (Turns w w2.drew S g o):=Mf.out.trans (oU (bd _ _)) (fun k h=>.inl h)
 obtain ⟨v0,v1,v2,g0,g1,g2,gi,c0,c1,c2,c3,c4,c5,c6⟩:=jW.out.cells
 simp only at c0 c1 c2 c3 c4 c5 c6 g0 g1 g2 gi
 have Mg:Hid (ji w2.drew S v1 b.ah):=g1
 obtain ⟨a1,z1,rfl,-⟩:=g1.v.form
 have HS:Hid (∀ w',Below w2.drew.heap.size w2.drew w'→(w'.cell? ⟨g,o+4,none⟩=some (.slice a1 b.ah.length z1)∧w'.cell? ⟨g,o+3,none⟩=some (.int .i64 (b.seq+1)))):=fun w' h=>⟨cell_later h c4,cell_later h c3⟩
 have Ct:Hid (∀ x,Below w2.drew.heap.size w2.drew x→Bs x (.slice Ut Uu Uv) tx):=fun x h=>HT.out x (Nat.le_trans HT2.out.1 h.size) (HT2.out.2.2.1.trans (gG h))
 have bM:=jW.out.lt
 clear g0 g1 g2 gi c0 c1 c2 c3 c4 c5 c6 Me Mf HT
 refine Ka 19 (S:=fun w'=>(w'.cell? ⟨g,o+4,none⟩=some (.slice a1 b.ah.length z1)∧w'.cell? ⟨g,o+3,none⟩=some (.int .i64 (b.seq+1)))) (uR (by kernel_rfl) ac5) (uR (by kernel_rfl) ac6) (uR (by kernel_rfl) ac7) (by kernel_rfl) (HS.out _ (Below.refl _ _)) (fun aj uX DN aks=>?_)
 have Dk:=ak aj
 have pI:=ak uX
 have Mh:=ak DN
 clear uX DN
 have D0:Hid (Below w2.drew.heap.size w2.drew w2.drew):=Below.refl _ _
 generalize w2.drew=wb at *
 refine dK 0 0 26 aj aks ?_
 refine dK 1 2 28 aj aks ?_
 refine dK 2 3 29 aj aks ?_
 refine dK 3 4 30 aj aks ?_
 refine dK 4 5 31 aj aks ?_
 refine dK 5 7 33 aj aks ?_
 refine dK 6 8 34 aj aks ?_
 refine dK 7 9 35 aj aks ?_
 refine dK 8 10 36 aj aks ?_
 refine dK 9 11 37 aj aks ?_
 refine dK 10 12 38 aj aks ?_
 refine dK 11 14 40 aj aks ?_
 refine Cu 12 [1,13] (by kernel_rfl) (by decide) (by decide) (by simp) ?_
 refine (jG.cons [0,2,3,4,5,7,8,9,10,11,12,14,1,13,6,15,16,17,18,19,20,21] rfl (by decide) (by decide) (fun K hK=>?_) (jG.cons [0,2,3,4,5,7,8,9,10,11,12,14,13,1,6,15,16,17,18,19,20,21] rfl (by decide) (by decide) (fun K hK=>?_) jG.nil))
 ·have aj:=pI.out
  go_simp
  have Uw:Below wb.heap.size wb (wb.alloc (.cells #[] 124)):=bn _ _
  have D2:Hid (Below wb.heap.size wb (wb.alloc (.cells #[] 124))):=Below.step D0.out Uw
  have Mi:wb.heap.size≤(wb.alloc (.cells #[] 124)).heap.size:=D2.out.size
  have Hu:Hid _:=kK wb 124 4 wb.heap.size D0.out.size
  refine hK.out _ _ (HS.out _ D2.out) (fun aks=>?_)
  clear hK K Uw
  generalize hw2:wb.alloc (.cells #[] 124)=x2 at *
  clear hw2
  refine Cu 13 [6,13] (by kernel_rfl) (by decide) (by decide) (by simp) ?_
  refine (jG.cons [0,2,3,4,5,7,8,9,10,11,12,14,1,6,13,15,16,17,18,19,20,21] rfl (by decide) (by decide) (fun K hK=>?_) (jG.cons [0,2,3,4,5,7,8,9,10,11,12,14,1,13,6,15,16,17,18,19,20,21] rfl (by decide) (by decide) (fun K hK=>?_) jG.nil))
  ·have aj:=Mh.out
   refine dO (by kernel_rfl) (j5 (B:=wb.heap.size) 32 rfl (.tmp 27) (.tmp 31) rfl Hu.out (Mg.out.at D2.out) (Cv _) Tryz.underlying34 hi hz0 hz1 hz2 rfl (by omega) rfl rfl hl1 hl2 D2.out.size ?_)
   intro V4 x4 xm hO4 uf hG4 hB4
   have DT:Hid _:=uf
   have DU:Hid (xm.length=b.ah.length * 4):=hO4.1
   have ac9:x2.grownBy x4 (some (wb.heap.size)):=hG4
   have KE4:=qR Hu.out
   have D4:Hid (Below wb.heap.size wb x4):=kP D2.out ac9 (dJ Hu.out rfl)
   have ada:Hid _:=hO4
   obtain ⟨ma,mn,mc,qb⟩:=jL hO4
   subst qb
   refine hK.out _ _ (HS.out _ D4.out) (fun aks=>?_)
   clear hK K hG4 hB4 hO4 uf
   refine fU 14 13 aj (by decide) rfl rfl (fun K hK=>?_)
   go_simp
   have Mj:Below x4.heap.size x4 (x4.alloc (.cells #[] 5)):=bn _ _
   have D6:Hid (Below wb.heap.size wb (x4.alloc (.cells #[] 5))):=Below.step D4.out Mj
   have Mk:wb.heap.size≤(x4.alloc (.cells #[] 5)).heap.size:=D6.out.size
   have adb:Hid _:=own_below ada.out Mj
   have Ml:Hid _:=kK x4 5 1 wb.heap.size D4.out.size
   refine hK.out _ _ (HS.out _ D6.out) (fun aks=>?_)
   clear hK K Mj
   generalize zm:x4.alloc (.cells #[] 5)=x6 at *
   clear zm
   refine fU 15 15 aj (by decide) rfl rfl (fun K hK=>?_)
   refine dO (by kernel_rfl) (j5 (B:=wb.heap.size) 41 rfl (.tmp 39) (.tmp 40) rfl Ml.out (Bs.rY (Ct.out _ D6.out)) (one_byte _) Tryz.underlying26 hj hy0 hy1 hy2 rfl (by omega) rfl rfl hl3 hl4 D6.out.size ?_)
   intro V8 x8 xt xB DW kU Af
   have Ux:x6.grownBy x8 (some (x4.heap.size)):=kU
   have KE8:=qR Ml.out
   have D8:Hid (Below wb.heap.size wb x8):=kP D6.out Ux (dJ Ml.out rfl)
   have adf:Hid _:=wu adb.out Ux KE8 (by decide)
   have DX:RO x8 (fun k=>wb.heap.size≤k) V8 tx:=rZ kE.out xB DW (fun g hg=>dJ xB hg)
   obtain ⟨ta,tn,tc,Mq⟩:=DX.bs.aG
   subst Mq
   have adg:Hid (RO x8 (fun k=>wb.heap.size≤k) (.slice ta tn tc) tx):=DX
   refine hK.out _ _ (HS.out _ D8.out) (fun aks=>?_)
   clear hK K kU Af xB DW DX
   refine dK 16 16 42 aj aks ?_
   refine fU 17 17 aj (by decide) rfl rfl (fun K hK=>?_)
   go_simp
   have Hw:Below x8.heap.size x8 (x8.alloc (.cells #[.int .i64 b.next,.int .i64 fl,.int .i64 (b.seq+1),.slice ta tn tc] 124)):=bn _ _
   have xC:Hid (Below wb.heap.size wb (x8.alloc (.cells #[.int .i64 b.next,.int .i64 fl,.int .i64 (b.seq+1),.slice ta tn tc] 124))):=Below.step D8.out Hw
   have aiL:wb.heap.size≤(x8.alloc (.cells #[.int .i64 b.next,.int .i64 fl,.int .i64 (b.seq+1),.slice ta tn tc] 124)).heap.size:=xC.out.size
   have Mr:Hid _:=own_below adf.out Hw
   have adh:Hid (RO (x8.alloc (.cells #[.int .i64 b.next,.int .i64 fl,.int .i64 (b.seq+1),.slice ta tn tc] 124)) (fun k=>wb.heap.size≤k) (.slice ta tn tc) tx):=adg.out.below Hw
   have FC:Hid _:=mO x8 #[.int .i64 b.next,.int .i64 fl,.int .i64 (b.seq+1),.slice ta tn tc] 124
   refine hK.out _ _ (HS.out _ xC.out) (fun aks=>?_)
   clear hK K Hw
   generalize adi:x8.alloc (.cells #[.int .i64 b.next,.int .i64 fl,.int .i64 (b.seq+1),.slice ta tn tc] 124)=x11 at *
   clear adi
   refine fU 18 18 aj (by decide) rfl rfl (fun K hK=>?_)
   refine dO (by kernel_rfl) (Ac 44 rfl (.tmp 32) (.tmp 43) rfl Mr.out Tryz.underlying34 hi hz0 hz1 hz2 rfl (by omega) rfl [.int .i64 b.next,.int .i64 fl,.int .i64 (b.seq+1),.slice ta tn tc] rfl ⟨x8.heap.size,0,none⟩ 1 rfl FC.out BL hl5 Md xC.out.size ?_)
   intro V13 Uy Ms Mt adj
   obtain ⟨da,dn,dc,adk⟩:=jL Ms
   subst adk
   have Mv:Hid (Below wb.heap.size wb Uy):=nM xC.out Mt (fun j hj=>dJ Mr.out hj)
   have adl:Hid (RO Uy (fun k=>wb.heap.size≤k) (.slice ta tn tc) tx):=LZ adh.out Mt Mr.out (by decide)
   have adn:Hid _:=Ms
   refine hK.out _ _ (HS.out _ Mv.out) (fun aks=>?_)
   clear hK K Mt adj Ms FC
   refine Ab (S':=fun _=>True) 19 22 (by decide) trivial (fun aks=>?_)
   refine dK 19 19 45 aj aks ?_
   refine dK 20 20 46 aj aks ?_
   refine fU 21 21 aj (by decide) rfl rfl (fun K hK=>?_)
   have HQ:=Ma jW.out Mv.out adn.out DT.out DU.out adl.out DL.out
   have rM:Hid _:=HQ.1
   have pJ:Hid _:=HQ.2
   clear HQ
   have gc:=jW.out.below Mv.out
   obtain ⟨v0,v1,v2,-,-,-,-,k0,k1,k2,k3,k4,k5,k6⟩:=gc.cells
   have gz:=gc.open
   have gl:=gc.lt
   go_simp
   refine hK.out _ _ trivial (fun aks=>?_)
   clear hK K
   refine wP aj ?_
   go_wp2
   go_ret
   exact ⟨rfl,Turns.trans HT2.out pJ.out (fun k h=>.inr (Nat.le_trans HT2.out.1 h)),aN.mono rM.out fun k h=>h.imp id fun h=>Nat.le_trans HT2.out.1 h⟩
  ·have aj:=pI.out
   go_simp
   have Mw:Below x2.heap.size x2 (x2.alloc (.cells #[] 5)):=bn _ _
   have DY:Hid (Below wb.heap.size wb (x2.alloc (.cells #[] 5))):=Below.step D2.out Mw
   have aiO:wb.heap.size≤(x2.alloc (.cells #[] 5)).heap.size:=DY.out.size
   have Mx:Hid _:=own_below Hu.out Mw
   have ado:Hid _:=kK x2 5 1 wb.heap.size D2.out.size
   refine hK.out _ _ (HS.out _ DY.out) (fun aks=>?_)
   clear hK K Mw
   generalize adp:x2.alloc (.cells #[] 5)=x15 at *
   clear adp
   refine fU 14 6 aj (by decide) rfl rfl (fun K hK=>?_)
   refine dO (by kernel_rfl) (j5 (B:=wb.heap.size) 32 rfl (.tmp 27) (.tmp 31) rfl Mx.out (Mg.out.at DY.out) (Cv _) Tryz.underlying34 hi hz0 hz1 hz2 rfl (by omega) rfl rfl hl1 hl2 DY.out.size ?_)
   intro V17 MB xm Hy Uz UA adr
   have DT:Hid _:=Uz
   have DU:Hid (xm.length=b.ah.length * 4):=Hy.1
   have UC:x15.grownBy MB (some (wb.heap.size)):=UA
   have ads:=qR Mx.out
   have Hz:Hid (Below wb.heap.size wb MB):=kP DY.out UC (dJ Mx.out rfl)
   have MC:Hid _:=wu ado.out UC ads (by decide)
   have adt:Hid _:=Hy
   obtain ⟨ma,mn,mc,adu⟩:=jL Hy
   subst adu
   refine hK.out _ _ (HS.out _ Hz.out) (fun aks=>?_)
   clear hK K UA adr Hy Uz
   refine fU 15 15 aj (by decide) rfl rfl (fun K hK=>?_)
   refine dO (by kernel_rfl) (j5 (B:=wb.heap.size) 41 rfl (.tmp 39) (.tmp 40) rfl MC.out (Bs.rY (Ct.out _ Hz.out)) (one_byte _) Tryz.underlying26 hj hy0 hy1 hy2 rfl (by omega) rfl rfl hl3 hl4 Hz.out.size ?_)
   intro V19 pO xt ME UD UE adw
   have UF:MB.grownBy pO (some (x2.heap.size)):=UE
   have adx:=qR MC.out
   have UG:Hid (Below wb.heap.size wb pO):=kP Hz.out UF (dJ MC.out rfl)
   have ady:Hid _:=wu adt.out UF adx (by decide)
   have MF:RO pO (fun k=>wb.heap.size≤k) V19 tx:=rZ kE.out ME UD (fun g hg=>dJ ME hg)
   obtain ⟨ta,tn,tc,adz⟩:=MF.bs.aG
   subst adz
   have adA:Hid (RO pO (fun k=>wb.heap.size≤k) (.slice ta tn tc) tx):=MF
   refine hK.out _ _ (HS.out _ UG.out) (fun aks=>?_)
   clear hK K UE adw ME UD MF
   refine dK 16 16 42 aj aks ?_
   refine fU 17 17 aj (by decide) rfl rfl (fun K hK=>?_)
   go_simp
   have H6:Below pO.heap.size pO (pO.alloc (.cells #[.int .i64 b.next,.int .i64 fl,.int .i64 (b.seq+1),.slice ta tn tc] 124)):=bn _ _
   have H7:Hid (Below wb.heap.size wb (pO.alloc (.cells #[.int .i64 b.next,.int .i64 fl,.int .i64 (b.seq+1),.slice ta tn tc] 124))):=Below.step UG.out H6
   have aiQ:wb.heap.size≤(pO.alloc (.cells #[.int .i64 b.next,.int .i64 fl,.int .i64 (b.seq+1),.slice ta tn tc] 124)).heap.size:=H7.out.size
   have MG:Hid _:=own_below ady.out H6
   have adB:Hid (RO (pO.alloc (.cells #[.int .i64 b.next,.int .i64 fl,.int .i64 (b.seq+1),.slice ta tn tc] 124)) (fun k=>wb.heap.size≤k) (.slice ta tn tc) tx):=adA.out.below H6
   have FC:Hid _:=mO pO #[.int .i64 b.next,.int .i64 fl,.int .i64 (b.seq+1),.slice ta tn tc] 124
   refine hK.out _ _ (HS.out _ H7.out) (fun aks=>?_)
   clear hK K H6
   generalize adC:pO.alloc (.cells #[.int .i64 b.next,.int .i64 fl,.int .i64 (b.seq+1),.slice ta tn tc] 124)=x22 at *
   clear adC
   refine fU 18 18 aj (by decide) rfl rfl (fun K hK=>?_)
   refine dO (by kernel_rfl) (Ac 44 rfl (.tmp 32) (.tmp 43) rfl MG.out Tryz.underlying34 hi hz0 hz1 hz2 rfl (by omega) rfl [.int .i64 b.next,.int .i64 fl,.int .i64 (b.seq+1),.slice ta tn tc] rfl ⟨pO.heap.size,0,none⟩ 1 rfl FC.out BL hl5 Md H7.out.size ?_)
   intro V24 x24 MH MI adD
   obtain ⟨da,dn,dc,adE⟩:=jL MH
   subst adE
   have MJ:Hid (Below wb.heap.size wb x24):=nM H7.out MI (fun j hj=>dJ MG.out hj)
   have adF:Hid (RO x24 (fun k=>wb.heap.size≤k) (.slice ta tn tc) tx):=LZ adB.out MI MG.out (by decide)
   have adG:Hid _:=MH
   refine hK.out _ _ (HS.out _ MJ.out) (fun aks=>?_)
   clear hK K MI adD MH FC
   refine Ab (S':=fun _=>True) 19 22 (by decide) trivial (fun aks=>?_)
   refine dK 19 19 45 aj aks ?_
   refine dK 20 20 46 aj aks ?_
   refine fU 21 21 aj (by decide) rfl rfl (fun K hK=>?_)
   have HQ:=Ma jW.out MJ.out adG.out DT.out DU.out adF.out DL.out
   have rM:Hid _:=HQ.1
   have pJ:Hid _:=HQ.2
   clear HQ
   have gc:=jW.out.below MJ.out
   obtain ⟨v0,v1,v2,-,-,-,-,k0,k1,k2,k3,k4,k5,k6⟩:=gc.cells
   have gz:=gc.open
   have gl:=gc.lt
   go_simp
   refine hK.out _ _ trivial (fun aks=>?_)
   clear hK K
   refine wP aj ?_
   go_wp2
   go_ret
   exact ⟨rfl,Turns.trans HT2.out pJ.out (fun k h=>.inr (Nat.le_trans HT2.out.1 h)),aN.mono rM.out fun k h=>h.imp id fun h=>Nat.le_trans HT2.out.1 h⟩
 ·have aj:=Dk.out
  go_simp
  have UH:Below wb.heap.size wb (wb.alloc (.cells #[] 5)):=bn _ _
  have H9:Hid (Below wb.heap.size wb (wb.alloc (.cells #[] 5))):=Below.step D0.out UH
  have aiT:wb.heap.size≤(wb.alloc (.cells #[] 5)).heap.size:=H9.out.size
  have adH:Hid _:=kK wb 5 1 wb.heap.size D0.out.size
  refine hK.out _ _ (HS.out _ H9.out) (fun aks=>?_)
  clear hK K UH
  generalize adI:wb.alloc (.cells #[] 5)=xD at *
  clear adI
  refine fU 13 1 aj (by decide) rfl rfl (fun K hK=>?_)
  go_simp
  have MK:Below xD.heap.size xD (xD.alloc (.cells #[] 124)):=bn _ _
  have DZ:Hid (Below wb.heap.size wb (xD.alloc (.cells #[] 124))):=Below.step H9.out MK
  have aiU:wb.heap.size≤(xD.alloc (.cells #[] 124)).heap.size:=DZ.out.size
  have adJ:Hid _:=own_below adH.out MK
  have ML:Hid _:=kK xD 124 4 wb.heap.size H9.out.size
  refine hK.out _ _ (HS.out _ DZ.out) (fun aks=>?_)
  clear hK K MK
  generalize adK:xD.alloc (.cells #[] 124)=x28 at *
  clear adK
  refine fU 14 6 aj (by decide) rfl rfl (fun K hK=>?_)
  refine dO (by kernel_rfl) (j5 (B:=wb.heap.size) 32 rfl (.tmp 27) (.tmp 31) rfl ML.out (Mg.out.at DZ.out) (Cv _) Tryz.underlying34 hi hz0 hz1 hz2 rfl (by omega) rfl rfl hl1 hl2 DZ.out.size ?_)
  intro V30 x30 xm Ia UJ UK adL
  have DT:Hid _:=UJ
  have DU:Hid (xm.length=b.ah.length * 4):=Ia.1
  have UL:x28.grownBy x30 (some (xD.heap.size)):=UK
  have adM:=qR ML.out
  have Ib:Hid (Below wb.heap.size wb x30):=kP DZ.out UL (dJ ML.out rfl)
  have MN:Hid _:=wu adJ.out UL adM (by decide)
  have adN:Hid _:=Ia
  obtain ⟨ma,mn,mc,adO⟩:=jL Ia
  subst adO
  refine hK.out _ _ (HS.out _ Ib.out) (fun aks=>?_)
  clear hK K UK adL Ia UJ
  refine fU 15 15 aj (by decide) rfl rfl (fun K hK=>?_)
  refine dO (by kernel_rfl) (j5 (B:=wb.heap.size) 41 rfl (.tmp 39) (.tmp 40) rfl MN.out (Bs.rY (Ct.out _ Ib.out)) (one_byte _) Tryz.underlying26 hj hy0 hy1 hy2 rfl (by omega) rfl rfl hl3 hl4 Ib.out.size ?_)
  intro V32 x32 xt MO UM UN adQ
  have UO:x30.grownBy x32 (some (wb.heap.size)):=UN
  have adR:=qR MN.out
  have UQ:Hid (Below wb.heap.size wb x32):=kP Ib.out UO (dJ MN.out rfl)
  have adS:Hid _:=wu adN.out UO adR (by decide)
  have MP:RO x32 (fun k=>wb.heap.size≤k) V32 tx:=rZ kE.out MO UM (fun g hg=>dJ MO hg)
  obtain ⟨ta,tn,tc,adT⟩:=MP.bs.aG
  subst adT
  have adU:Hid (RO x32 (fun k=>wb.heap.size≤k) (.slice ta tn tc) tx):=MP
  refine hK.out _ _ (HS.out _ UQ.out) (fun aks=>?_)
  clear hK K UN adQ MO UM MP
  refine dK 16 16 42 aj aks ?_
  refine fU 17 17 aj (by decide) rfl rfl (fun K hK=>?_)
  go_simp
  have Ic:Below x32.heap.size x32 (x32.alloc (.cells #[.int .i64 b.next,.int .i64 fl,.int .i64 (b.seq+1),.slice ta tn tc] 124)):=bn _ _
  have Ie:Hid (Below wb.heap.size wb (x32.alloc (.cells #[.int .i64 b.next,.int .i64 fl,.int .i64 (b.seq+1),.slice ta tn tc] 124))):=Below.step UQ.out Ic
  have aiW:wb.heap.size≤(x32.alloc (.cells #[.int .i64 b.next,.int .i64 fl,.int .i64 (b.seq+1),.slice ta tn tc] 124)).heap.size:=Ie.out.size
  have MQ:Hid _:=own_below adS.out Ic
  have adV:Hid (RO (x32.alloc (.cells #[.int .i64 b.next,.int .i64 fl,.int .i64 (b.seq+1),.slice ta tn tc] 124)) (fun k=>wb.heap.size≤k) (.slice ta tn tc) tx):=adU.out.below Ic
  have FC:Hid _:=mO x32 #[.int .i64 b.next,.int .i64 fl,.int .i64 (b.seq+1),.slice ta tn tc] 124
  refine hK.out _ _ (HS.out _ Ie.out) (fun aks=>?_)
  clear hK K Ic
  generalize adW:x32.alloc (.cells #[.int .i64 b.next,.int .i64 fl,.int .i64 (b.seq+1),.slice ta tn tc] 124)=x35 at *
  clear adW
  refine fU 18 18 aj (by decide) rfl rfl (fun K hK=>?_)
  refine dO (by kernel_rfl) (Ac 44 rfl (.tmp 32) (.tmp 43) rfl MQ.out Tryz.underlying34 hi hz0 hz1 hz2 rfl (by omega) rfl [.int .i64 b.next,.int .i64 fl,.int .i64 (b.seq+1),.slice ta tn tc] rfl ⟨x32.heap.size,0,none⟩ 1 rfl FC.out BL hl5 Md Ie.out.size ?_)
  intro V37 UR MS MU adX
  obtain ⟨da,dn,dc,adY⟩:=jL MS
  subst adY
  have MV:Hid (Below wb.heap.size wb UR):=nM Ie.out MU (fun j hj=>dJ MQ.out hj)
  have adZ:Hid (RO UR (fun k=>wb.heap.size≤k) (.slice ta tn tc) tx):=LZ adV.out MU MQ.out (by decide)
  have ad1:Hid _:=MS
  refine hK.out _ _ (HS.out _ MV.out) (fun aks=>?_)
  clear hK K MU adX MS FC
  refine Ab (S':=fun _=>True) 19 22 (by decide) trivial (fun aks=>?_)
  refine dK 19 19 45 aj aks ?_
  refine dK 20 20 46 aj aks ?_
  refine fU 21 21 aj (by decide) rfl rfl (fun K hK=>?_)
  have HQ:=Ma jW.out MV.out ad1.out DT.out DU.out adZ.out DL.out
  have rM:Hid _:=HQ.1
  have pJ:Hid _:=HQ.2
  clear HQ
  have gc:=jW.out.below MV.out
  obtain ⟨v0,v1,v2,-,-,-,-,k0,k1,k2,k3,k4,k5,k6⟩:=gc.cells
  have gz:=gc.open
  have gl:=gc.lt
  go_simp
  refine hK.out _ _ trivial (fun aks=>?_)
  clear hK K
  refine wP aj ?_
  go_wp2
  go_ret
  exact ⟨rfl,Turns.trans HT2.out pJ.out (fun k h=>.inr (Nat.le_trans HT2.out.1 h)),aN.mono rM.out fun k h=>h.imp id fun h=>Nat.le_trans HT2.out.1 h⟩
end Go.Proofs.YtlneebmlhblleaaGreat
