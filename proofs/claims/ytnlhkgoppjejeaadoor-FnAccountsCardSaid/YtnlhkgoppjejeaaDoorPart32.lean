/- The proof's texts, part 32. -/
import Derived.Test.YtnlhkgoppjejeaaDoorPart30
import Derived.Test.YtnlhkgoppjejeaaDoorPart20

/- What l3add of package spec does. -/
namespace Go.Proofs.YtnlhkgoppjejeaaDoor
open Go.RowKit
set_option maxRecDepth 100000
set_option linter.unusedVariables false
set_option linter.unusedSimpArgs false

theorem tab_addA:(Tryd.f70.body.bind (opsAt 4)).all (fun o=>tableB o 22 [0,2,3,4,5,7,8,9,10,11,12,14,13,1,6,15,16,17,18,19,20,21] [13,14,15,17,18,21] [12] [19,22] 0)=true:=by kernel_rfl
theorem tab_addB:(Tryd.f70.body.bind (opsAt 4)).all (fun o=>tableB o 22 [0,2,3,4,5,7,8,9,10,11,12,14,1,13,6,15,16,17,18,19,20,21] [14,15,17,18,21] [12,13] [19,22] 0)=true:=by kernel_rfl
theorem tab_addC:(Tryd.f70.body.bind (opsAt 4)).all (fun o=>tableB o 22 [0,2,3,4,5,7,8,9,10,11,12,14,1,6,13,15,16,17,18,19,20,21] [14,15,17,18,21] [12,13] [19,22] 0)=true:=by kernel_rfl

theorem own_form {w:World} {B n:Nat} {e:TypeId} {sz:Nat} {v:Value} {xs:List Value} (h:w.ownsRow B e sz v n xs):∃ a m c,v=.slice a m c:=by
 rcases h.2 with ⟨h,-⟩ | ⟨g,cap,cur,h,-⟩
 ·exact ⟨_,_,_,h⟩
 ·exact ⟨_,_,_,h⟩
theorem below_row {w0 w w':World} {row:Option Nat} (h:Below w0.heap.size w0 w) (hg:w.grownBy w' row) (hr:∀ j,row=some j→w0.heap.size≤j):Below w0.heap.size w0 w' :=
 ⟨hg.os.trans h.os,hg.tape.trans h.tape,hg.output.trans h.output,Nat.le_trans h.size hg.size,fun k hk=>(hg.block k (Nat.lt_of_lt_of_le hk h.size) fun e=>by have:=hr k e.symm;omega).trans (h.block k hk)⟩
theorem ro_row {w w':World} {S:Nat→Prop} {u v:Value} {l:List Int} {B n:Nat} {e:TypeId} {sz:Nat} {xs:List Value} (h:RO w S u l) (hg:w.grownBy w' v.ownBlock) (hr:w.ownsRow B e sz v n xs) (hne:5≠e):RO w' S u l:=by
 refine ro_oth h fun k ⟨cs,fz,hk⟩=>hg.block k (lt_of_heap hk) fun e2=>?_
 rcases hr.2 with ⟨h',-⟩ | ⟨g',cap,cur,h',-,hh,-⟩
 ·rw [h'] at e2;cases e2
 ·rw [h'] at e2
  cases e2
  rw [hh] at hk
  cases hk
  exact hne rfl
/-- The list that has grown is the box' own. -/
theorem add_end {wb x:World} {S:Nat→Prop} {g o:Nat} {b0:BoxD} {ms:List MailD} {xm:List Value} {da ta:Option Addr} {dn dc tn tc:Nat} {tx:List Int} {nx fl sq:Int} (hp:BoxP wb S g o b0) (hD:Below wb.heap.size wb x)
  (hm:x.ownsRow wb.heap.size 67 4 (.slice da dn dc) (ms.length+1) (xm ++ [.int .i64 nx,.int .i64 fl,.int .i64 sq,.slice ta tn tc])) 
  (hx:∀ i m,ms[i]?=some m→∃ c,c.length=4∧MailQE wb c m Any∧∀ j y,c[j]?=some y→xm[i * 4+j]?=some y) (hxl:xm.length=ms.length * 4)
  (ht:RO x (fun k=>wb.heap.size≤k) (.slice ta tn tc) tx) (hi:I64 nx∧I64 fl∧I64 sq) :
  BoxP (x.setCell ⟨g,o+4,none⟩ (.slice da dn dc)) (fun k=>S k∨wb.heap.size≤k) g o ⟨b0.name,b0.valid,b0.next,b0.seq,ms ++ [⟨nx,fl,sq,tx⟩],b0.gones,b0.lost⟩∧Turns wb (x.setCell ⟨g,o+4,none⟩ (.slice da dn dc)) (fun k=>wb.heap.size≤k) g o:=by
 have hp':=hp.below hD
 have hq:MailsQ x (fun k=>wb.heap.size≤k) (.slice da dn dc) (ms ++ [⟨nx,fl,sq,tx⟩]):=by
  refine mq_of hm (by simp) (fun i m h=>?_) (fun k hk=>own_ge hm hk)
  by_cases hlt:i < ms.length
  ·rw [List.getElem?_append_left hlt] at h
   obtain ⟨c,h1,h2,h3⟩:=hx i m h
   refine ⟨c,h1,mail_oth h2 (stay_below hD),fun j y hy=>?_⟩
   have:=h3 j y hy
   rw [List.getElem?_append_left (List.getElem?_eq_some_iff.1 this).1]
   exact this
  ·rw [List.getElem?_append_right (by omega)] at h
   have hi0:i=ms.length:=by
    have:=(List.getElem?_eq_some_iff.1 h).1
    simp at this
    omega
   subst hi0
   simp only [Nat.sub_self,List.getElem?_cons_zero,Option.some.injEq] at h
   subst h
   refine ⟨[.int .i64 nx,.int .i64 fl,.int .i64 sq,.slice ta tn tc],rfl,⟨_,rfl,ht.mono fun _ _=>trivial,hi⟩,fun j y hy=>?_⟩
   rw [List.getElem?_append_right (by omega),show ms.length * 4+j - xm.length=j by omega]
   exact hy
 exact ⟨hp'.setMails (hq.mono fun _ h=>.inr h) (fun _ h=>.inl h),(turns_below hD).trans (turns_set (S':=fun k=>wb.heap.size≤k) hp' (by omega)) (fun k h=>.inl h)⟩

set_option maxRecDepth 100000 in
set_option maxHeartbeats 8000000 in
theorem l3add_r (g o:Nat) (b:BoxD) (S:Nat→Prop) (fl:Int) (tv:Value) (tx:List Int) (w:World) (hp:BoxP w S g o b) (hfl:I64 fl) (ht:∀ w',w.heap.size≤w'.heap.size→StayT w w' 5→Bs w' tv tx) (hlt:tx.length≤2000000) (hml:b.mails.length≤2000000) (hs1:b.seq < 1000000000) (hn1:b.next < 1000000000) :
  Calls Tryd.prog 70 #[.pointer (some ⟨g,o,none⟩),.int .i64 fl,tv] w fun e w'=>e=.returned (.int .i64 b.next)∧Turns w w' S g o∧BoxP w' (fun k=>S k∨w.heap.size≤k) g o (addX b fl tx):=by
 have hp0:=hp
 obtain ⟨u0,u1,u2,h0,h1,h2,⟨i0,i1,i2,i3⟩,c0,c1,c2,c3,c4,c5,c6⟩:=hp.cells
 have hz:=hp.open
 have hlg:=hp.lt
 have b1:=i1.1
 have b2:=i2.1
 have HP1:Hid (BoxP (w.setCell ⟨g,o+3,none⟩ (.int .i64 (b.seq+1))) S g o _):=hp.setSeq (b.seq+1) ⟨by omega,by omega⟩
 have HT1:Hid (Turns w (w.setCell ⟨g,o+3,none⟩ (.int .i64 (b.seq+1))) S g o):=turns_set hp (by omega)
 have HIN:Hid (I64 b.next∧I64 fl∧I64 (b.seq+1)):=⟨i1,hfl,by omega,by omega⟩
 obtain ⟨ta0,tn0,tc0,htv⟩:=(ht w (Nat.le_refl _) (StayT.refl _ _)).form3
 subst htv
 have HTO:Hid (Oct tx):=(ht w (Nat.le_refl _) (StayT.refl _ _)).1
 have HT:Hid (∀ w',w.heap.size≤w'.heap.size→StayT w w' 5→Bs w' (.slice ta0 tn0 tc0) tx):=ht
 obtain ⟨i0,hi,hz0,hz1,hz2⟩:=info_parts infoMail
 obtain ⟨j0,hj,hy0,hy1,hy2⟩:=info_parts info5
 have hl1:b.mails.length≤maxLen:=by unfold maxLen;omega
 have hl2:b.mails.length * 48≤140737488355328:=by omega
 have hl3:tx.length≤maxLen:=by unfold maxLen;omega
 have hl4:tx.length * 1≤140737488355328:=by omega
 have hl5:b.mails.length+1≤maxLen:=by unfold maxLen;omega
 have hl6:(b.mails.length+1) * 48≤140737488355328:=by omega
 clear ht h0 h1 h2 hfl i1 i2 i3 hp hp0
 go_enter Tryd.func70,Tryd.ntmps70
 go_upto_region 2 with fail
 clear c0 c1 c2 c3 c4 c5 c6 hz hlg
 generalize w.setCell ⟨g,o+3,none⟩ (.int .i64 (b.seq+1))=w1 at HP1 HT1 ⊢
 obtain ⟨u0,u1,u2,h0,h1,h2,hint,c0,c1,c2,c3,c4,c5,c6⟩:=HP1.out.cells
 simp only at c0 c1 c2 c3 c4 c5 c6
 have hz:=HP1.out.open
 have hlg:=HP1.out.lt
 have HP2':Hid (BoxP (w1.setCell ⟨g,o+2,none⟩ (.int .i64 (b.next+1))) S g o _):=HP1.out.setNext (b.next+1) ⟨by omega,by omega⟩
 have HT2':Hid (Turns w (w1.setCell ⟨g,o+2,none⟩ (.int .i64 (b.next+1))) S g o):=HT1.out.trans (turns_set (S':=S) HP1.out (by omega)) (fun k h=>.inl h)
 clear h0 h1 h2 hint
 go_upto_region 4 with fail
 clear c0 c1 c2 c3 c4 c5 c6 hz hlg
 generalize w1.setCell ⟨g,o+2,none⟩ (.int .i64 (b.next+1))=w2 at HP2' HT2' ⊢
 clear HP1 HT1
 have HP2:Hid (BoxP w2.drew S g o ⟨b.name,b.valid,b.next+1,b.seq+1,b.mails,b.gones,b.lost⟩):=HP2'.out.below (Below.refl _ _).drew
 have HT2:Hid (Turns w w2.drew S g o):=HT2'.out.trans (turns_below (Below.refl _ _).drew) (fun k h=>.inl h)
 obtain ⟨v0,v1,v2,g0,g1,g2,gi,c0,c1,c2,c3,c4,c5,c6⟩:=HP2.out.cells
 simp only at c0 c1 c2 c3 c4 c5 c6 g0 g1 g2 gi
 have HMS:Hid (MailsQ w2.drew S v1 b.mails):=g1
 obtain ⟨a1,z1,rfl,-⟩:=g1.v.form
 have HS:Hid (∀ w',Below w2.drew.heap.size w2.drew w'→(w'.cell? ⟨g,o+4,none⟩=some (.slice a1 b.mails.length z1)∧w'.cell? ⟨g,o+3,none⟩=some (.int .i64 (b.seq+1)))):=fun w' h=>⟨cell_later h c4,cell_later h c3⟩
 have HTX:Hid (∀ x,Below w2.drew.heap.size w2.drew x→Bs x (.slice ta0 tn0 tc0) tx):=fun x h=>HT.out x (Nat.le_trans HT2.out.1 h.size) (HT2.out.2.2.1.trans (stay_below h))
 have hlg:=HP2.out.lt
 clear g0 g1 g2 gi c0 c1 c2 c3 c4 c5 c6 HP2' HT2' HT
 refine wpB_begin3 19 (S:=fun w'=>(w'.cell? ⟨g,o+4,none⟩=some (.slice a1 b.mails.length z1)∧w'.cell? ⟨g,o+3,none⟩=some (.int .i64 (b.seq+1)))) (tabB_of (by kernel_rfl) tab_addA) (tabB_of (by kernel_rfl) tab_addB) (tabB_of (by kernel_rfl) tab_addC) (by kernel_rfl) (HS.out _ (Below.refl _ _)) (fun hTb hTb2 hTb3 hHeld=>?_)
 have HTA:=hidm' hTb
 have HTB:=hidm' hTb2
 have HTC:=hidm' hTb3
 clear hTb2 hTb3
 have D0:Hid (Below w2.drew.heap.size w2.drew w2.drew):=Below.refl _ _
 generalize w2.drew=wb at *
 refine tkb 0 0 26 hTb hHeld ?_
 refine tkb 1 2 28 hTb hHeld ?_
 refine tkb 2 3 29 hTb hHeld ?_
 refine tkb 3 4 30 hTb hHeld ?_
 refine tkb 4 5 31 hTb hHeld ?_
 refine tkb 5 7 33 hTb hHeld ?_
 refine tkb 6 8 34 hTb hHeld ?_
 refine tkb 7 9 35 hTb hHeld ?_
 refine tkb 8 10 36 hTb hHeld ?_
 refine tkb 9 11 37 hTb hHeld ?_
 refine tkb 10 12 38 hTb hHeld ?_
 refine tkb 11 14 40 hTb hHeld ?_
 refine brb 12 [1,13] (by kernel_rfl) (by decide) (by decide) (by simp) ?_
 refine (AllS.cons [0,2,3,4,5,7,8,9,10,11,12,14,1,13,6,15,16,17,18,19,20,21] rfl (by decide) (by decide) (fun K hK=>?_) (AllS.cons [0,2,3,4,5,7,8,9,10,11,12,14,13,1,6,15,16,17,18,19,20,21] rfl (by decide) (by decide) (fun K hK=>?_) AllS.nil))
 ·have hTb:=HTB.out
  go_simp
  have AB2:Below wb.heap.size wb (wb.alloc (.cells #[] 67)):=(Below.refl _ _).alloc (Nat.le_refl _) _
  have D2:Hid (Below wb.heap.size wb (wb.alloc (.cells #[] 67))):=Below.step D0.out AB2
  have hN2:wb.heap.size≤(wb.alloc (.cells #[] 67)).heap.size:=D2.out.size
  have Fe12:Hid _:=owns_empty wb 67 4 wb.heap.size D0.out.size
  refine hK.out _ _ (HS.out _ D2.out) (fun hHeld=>?_)
  clear hK K AB2
  generalize hw2:wb.alloc (.cells #[] 67)=x2 at *
  clear hw2
  refine brb 13 [6,13] (by kernel_rfl) (by decide) (by decide) (by simp) ?_
  refine (AllS.cons [0,2,3,4,5,7,8,9,10,11,12,14,1,6,13,15,16,17,18,19,20,21] rfl (by decide) (by decide) (fun K hK=>?_) (AllS.cons [0,2,3,4,5,7,8,9,10,11,12,14,1,13,6,15,16,17,18,19,20,21] rfl (by decide) (by decide) (fun K hK=>?_) AllS.nil))
  ·have hTb:=HTC.out
   refine ite_w (by kernel_rfl) (wp_cat (B:=wb.heap.size) 32 rfl (.tmp 27) (.tmp 31) rfl Fe12.out (HMS.out.at D2.out) (one_at _) Tryd.underlying41 hi hz0 hz1 hz2 rfl (by omega) rfl rfl hl1 hl2 D2.out.size ?_)
   intro V4 x4 xm hO4 hX4 hG4 hB4
   have HXM:Hid _:=hX4
   have HXL:Hid (xm.length=b.mails.length * 4):=hO4.1
   have hG'4:x2.grownBy x4 (some (wb.heap.size)):=hG4
   have KE4:=own_ty Fe12.out
   have D4:Hid (Below wb.heap.size wb x4):=below_gr0 D2.out hG'4 (own_ge Fe12.out rfl)
   have Frm4:Hid _:=hO4
   obtain ⟨ma,mn,mc,hV4⟩:=own_form hO4
   subst hV4
   refine hK.out _ _ (HS.out _ D4.out) (fun hHeld=>?_)
   clear hK K hG4 hB4 hO4 hX4
   refine clb 14 13 hTb (by decide) rfl rfl (fun K hK=>?_)
   go_simp
   have AB6:Below x4.heap.size x4 (x4.alloc (.cells #[] 5)):=(Below.refl _ _).alloc (Nat.le_refl _) _
   have D6:Hid (Below wb.heap.size wb (x4.alloc (.cells #[] 5))):=Below.step D4.out AB6
   have hN6:wb.heap.size≤(x4.alloc (.cells #[] 5)).heap.size:=D6.out.size
   have Frm6:Hid _:=own_below Frm4.out AB6
   have Fe26:Hid _:=owns_empty x4 5 1 wb.heap.size D4.out.size
   refine hK.out _ _ (HS.out _ D6.out) (fun hHeld=>?_)
   clear hK K AB6
   generalize hw6:x4.alloc (.cells #[] 5)=x6 at *
   clear hw6
   refine clb 15 15 hTb (by decide) rfl rfl (fun K hK=>?_)
   refine ite_w (by kernel_rfl) (wp_cat (B:=wb.heap.size) 41 rfl (.tmp 39) (.tmp 40) rfl Fe26.out (Bs.rd1 (HTX.out _ D6.out)) (one_byte _) Tryd.underlying22 hj hy0 hy1 hy2 rfl (by omega) rfl rfl hl3 hl4 D6.out.size ?_)
   intro V8 x8 xt hO8 hX8 hG8 hB8
   have hG'8:x6.grownBy x8 (some (x4.heap.size)):=hG8
   have KE8:=own_ty Fe26.out
   have D8:Hid (Below wb.heap.size wb x8):=below_gr0 D6.out hG'8 (own_ge Fe26.out rfl)
   have Frm8:Hid _:=own_grT Frm6.out hG'8 KE8 (by decide)
   have hR8:RO x8 (fun k=>wb.heap.size≤k) V8 tx:=ro_of HTO.out hO8 hX8 (fun g hg=>own_ge hO8 hg)
   obtain ⟨ta,tn,tc,hV8⟩:=hR8.bs.form3
   subst hV8
   have Frt8:Hid (RO x8 (fun k=>wb.heap.size≤k) (.slice ta tn tc) tx):=hR8
   refine hK.out _ _ (HS.out _ D8.out) (fun hHeld=>?_)
   clear hK K hG8 hB8 hO8 hX8 hR8
   refine tkb 16 16 42 hTb hHeld ?_
   refine clb 17 17 hTb (by decide) rfl rfl (fun K hK=>?_)
   go_simp
   have AB11:Below x8.heap.size x8 (x8.alloc (.cells #[.int .i64 b.next,.int .i64 fl,.int .i64 (b.seq+1),.slice ta tn tc] 67)):=(Below.refl _ _).alloc (Nat.le_refl _) _
   have D11:Hid (Below wb.heap.size wb (x8.alloc (.cells #[.int .i64 b.next,.int .i64 fl,.int .i64 (b.seq+1),.slice ta tn tc] 67))):=Below.step D8.out AB11
   have hN11:wb.heap.size≤(x8.alloc (.cells #[.int .i64 b.next,.int .i64 fl,.int .i64 (b.seq+1),.slice ta tn tc] 67)).heap.size:=D11.out.size
   have Frm11:Hid _:=own_below Frm8.out AB11
   have Frt11:Hid (RO (x8.alloc (.cells #[.int .i64 b.next,.int .i64 fl,.int .i64 (b.seq+1),.slice ta tn tc] 67)) (fun k=>wb.heap.size≤k) (.slice ta tn tc) tx):=Frt8.out.below AB11
   have FC:Hid _:=cells_new x8 #[.int .i64 b.next,.int .i64 fl,.int .i64 (b.seq+1),.slice ta tn tc] 67
   refine hK.out _ _ (HS.out _ D11.out) (fun hHeld=>?_)
   clear hK K AB11
   generalize hw11:x8.alloc (.cells #[.int .i64 b.next,.int .i64 fl,.int .i64 (b.seq+1),.slice ta tn tc] 67)=x11 at *
   clear hw11
   refine clb 18 18 hTb (by decide) rfl rfl (fun K hK=>?_)
   refine ite_w (by kernel_rfl) (wp_app1 44 rfl (.tmp 32) (.tmp 43) rfl Frm11.out Tryd.underlying41 hi hz0 hz1 hz2 rfl (by omega) rfl [.int .i64 b.next,.int .i64 fl,.int .i64 (b.seq+1),.slice ta tn tc] rfl ⟨x8.heap.size,0,none⟩ 1 rfl FC.out one4' hl5 hl6 D11.out.size ?_)
   intro V13 x13 hO13 hG13 hB13
   obtain ⟨da,dn,dc,hV13⟩:=own_form hO13
   subst hV13
   have D13:Hid (Below wb.heap.size wb x13):=below_row D11.out hG13 (fun j hj=>own_ge Frm11.out hj)
   have Frt13:Hid (RO x13 (fun k=>wb.heap.size≤k) (.slice ta tn tc) tx):=ro_row Frt11.out hG13 Frm11.out (by decide)
   have Frm13:Hid _:=hO13
   refine hK.out _ _ (HS.out _ D13.out) (fun hHeld=>?_)
   clear hK K hG13 hB13 hO13 FC
   refine wpB_next (S':=fun _=>True) 19 22 (by decide) trivial (fun hHeld=>?_)
   refine tkb 19 19 45 hTb hHeld ?_
   refine tkb 20 20 46 hTb hHeld ?_
   refine clb 21 21 hTb (by decide) rfl rfl (fun K hK=>?_)
   have HQ:=add_end HP2.out D13.out Frm13.out HXM.out HXL.out Frt13.out HIN.out
   have HP9:Hid _:=HQ.1
   have HT9:Hid _:=HQ.2
   clear HQ
   have gc:=HP2.out.below D13.out
   obtain ⟨v0,v1,v2,-,-,-,-,k0,k1,k2,k3,k4,k5,k6⟩:=gc.cells
   have gz:=gc.open
   have gl:=gc.lt
   go_simp
   refine hK.out _ _ trivial (fun hHeld=>?_)
   clear hK K
   refine wpB_end hTb ?_
   go_wp2
   go_ret
   exact ⟨rfl,Turns.trans HT2.out HT9.out (fun k h=>.inr (Nat.le_trans HT2.out.1 h)),BoxP.mono HP9.out fun k h=>h.imp id fun h=>Nat.le_trans HT2.out.1 h⟩
  ·have hTb:=HTB.out
   go_simp
   have AB15:Below x2.heap.size x2 (x2.alloc (.cells #[] 5)):=(Below.refl _ _).alloc (Nat.le_refl _) _
   have D15:Hid (Below wb.heap.size wb (x2.alloc (.cells #[] 5))):=Below.step D2.out AB15
   have hN15:wb.heap.size≤(x2.alloc (.cells #[] 5)).heap.size:=D15.out.size
   have Fe115:Hid _:=own_below Fe12.out AB15
   have Fe215:Hid _:=owns_empty x2 5 1 wb.heap.size D2.out.size
   refine hK.out _ _ (HS.out _ D15.out) (fun hHeld=>?_)
   clear hK K AB15
   generalize hw15:x2.alloc (.cells #[] 5)=x15 at *
   clear hw15
   refine clb 14 6 hTb (by decide) rfl rfl (fun K hK=>?_)
   refine ite_w (by kernel_rfl) (wp_cat (B:=wb.heap.size) 32 rfl (.tmp 27) (.tmp 31) rfl Fe115.out (HMS.out.at D15.out) (one_at _) Tryd.underlying41 hi hz0 hz1 hz2 rfl (by omega) rfl rfl hl1 hl2 D15.out.size ?_)
   intro V17 x17 xm hO17 hX17 hG17 hB17
   have HXM:Hid _:=hX17
   have HXL:Hid (xm.length=b.mails.length * 4):=hO17.1
   have hG'17:x15.grownBy x17 (some (wb.heap.size)):=hG17
   have KE17:=own_ty Fe115.out
   have D17:Hid (Below wb.heap.size wb x17):=below_gr0 D15.out hG'17 (own_ge Fe115.out rfl)
   have Fe217:Hid _:=own_grT Fe215.out hG'17 KE17 (by decide)
   have Frm17:Hid _:=hO17
   obtain ⟨ma,mn,mc,hV17⟩:=own_form hO17
   subst hV17
   refine hK.out _ _ (HS.out _ D17.out) (fun hHeld=>?_)
   clear hK K hG17 hB17 hO17 hX17
   refine clb 15 15 hTb (by decide) rfl rfl (fun K hK=>?_)
   refine ite_w (by kernel_rfl) (wp_cat (B:=wb.heap.size) 41 rfl (.tmp 39) (.tmp 40) rfl Fe217.out (Bs.rd1 (HTX.out _ D17.out)) (one_byte _) Tryd.underlying22 hj hy0 hy1 hy2 rfl (by omega) rfl rfl hl3 hl4 D17.out.size ?_)
   intro V19 x19 xt hO19 hX19 hG19 hB19
   have hG'19:x17.grownBy x19 (some (x2.heap.size)):=hG19
   have KE19:=own_ty Fe217.out
   have D19:Hid (Below wb.heap.size wb x19):=below_gr0 D17.out hG'19 (own_ge Fe217.out rfl)
   have Frm19:Hid _:=own_grT Frm17.out hG'19 KE19 (by decide)
   have hR19:RO x19 (fun k=>wb.heap.size≤k) V19 tx:=ro_of HTO.out hO19 hX19 (fun g hg=>own_ge hO19 hg)
   obtain ⟨ta,tn,tc,hV19⟩:=hR19.bs.form3
   subst hV19
   have Frt19:Hid (RO x19 (fun k=>wb.heap.size≤k) (.slice ta tn tc) tx):=hR19
   refine hK.out _ _ (HS.out _ D19.out) (fun hHeld=>?_)
   clear hK K hG19 hB19 hO19 hX19 hR19
   refine tkb 16 16 42 hTb hHeld ?_
   refine clb 17 17 hTb (by decide) rfl rfl (fun K hK=>?_)
   go_simp
   have AB22:Below x19.heap.size x19 (x19.alloc (.cells #[.int .i64 b.next,.int .i64 fl,.int .i64 (b.seq+1),.slice ta tn tc] 67)):=(Below.refl _ _).alloc (Nat.le_refl _) _
   have D22:Hid (Below wb.heap.size wb (x19.alloc (.cells #[.int .i64 b.next,.int .i64 fl,.int .i64 (b.seq+1),.slice ta tn tc] 67))):=Below.step D19.out AB22
   have hN22:wb.heap.size≤(x19.alloc (.cells #[.int .i64 b.next,.int .i64 fl,.int .i64 (b.seq+1),.slice ta tn tc] 67)).heap.size:=D22.out.size
   have Frm22:Hid _:=own_below Frm19.out AB22
   have Frt22:Hid (RO (x19.alloc (.cells #[.int .i64 b.next,.int .i64 fl,.int .i64 (b.seq+1),.slice ta tn tc] 67)) (fun k=>wb.heap.size≤k) (.slice ta tn tc) tx):=Frt19.out.below AB22
   have FC:Hid _:=cells_new x19 #[.int .i64 b.next,.int .i64 fl,.int .i64 (b.seq+1),.slice ta tn tc] 67
   refine hK.out _ _ (HS.out _ D22.out) (fun hHeld=>?_)
   clear hK K AB22
   generalize hw22:x19.alloc (.cells #[.int .i64 b.next,.int .i64 fl,.int .i64 (b.seq+1),.slice ta tn tc] 67)=x22 at *
   clear hw22
   refine clb 18 18 hTb (by decide) rfl rfl (fun K hK=>?_)
   refine ite_w (by kernel_rfl) (wp_app1 44 rfl (.tmp 32) (.tmp 43) rfl Frm22.out Tryd.underlying41 hi hz0 hz1 hz2 rfl (by omega) rfl [.int .i64 b.next,.int .i64 fl,.int .i64 (b.seq+1),.slice ta tn tc] rfl ⟨x19.heap.size,0,none⟩ 1 rfl FC.out one4' hl5 hl6 D22.out.size ?_)
   intro V24 x24 hO24 hG24 hB24
   obtain ⟨da,dn,dc,hV24⟩:=own_form hO24
   subst hV24
   have D24:Hid (Below wb.heap.size wb x24):=below_row D22.out hG24 (fun j hj=>own_ge Frm22.out hj)
   have Frt24:Hid (RO x24 (fun k=>wb.heap.size≤k) (.slice ta tn tc) tx):=ro_row Frt22.out hG24 Frm22.out (by decide)
   have Frm24:Hid _:=hO24
   refine hK.out _ _ (HS.out _ D24.out) (fun hHeld=>?_)
   clear hK K hG24 hB24 hO24 FC
   refine wpB_next (S':=fun _=>True) 19 22 (by decide) trivial (fun hHeld=>?_)
   refine tkb 19 19 45 hTb hHeld ?_
   refine tkb 20 20 46 hTb hHeld ?_
   refine clb 21 21 hTb (by decide) rfl rfl (fun K hK=>?_)
   have HQ:=add_end HP2.out D24.out Frm24.out HXM.out HXL.out Frt24.out HIN.out
   have HP9:Hid _:=HQ.1
   have HT9:Hid _:=HQ.2
   clear HQ
   have gc:=HP2.out.below D24.out
   obtain ⟨v0,v1,v2,-,-,-,-,k0,k1,k2,k3,k4,k5,k6⟩:=gc.cells
   have gz:=gc.open
   have gl:=gc.lt
   go_simp
   refine hK.out _ _ trivial (fun hHeld=>?_)
   clear hK K
   refine wpB_end hTb ?_
   go_wp2
   go_ret
   exact ⟨rfl,Turns.trans HT2.out HT9.out (fun k h=>.inr (Nat.le_trans HT2.out.1 h)),BoxP.mono HP9.out fun k h=>h.imp id fun h=>Nat.le_trans HT2.out.1 h⟩
 ·have hTb:=HTA.out
  go_simp
  have AB26:Below wb.heap.size wb (wb.alloc (.cells #[] 5)):=(Below.refl _ _).alloc (Nat.le_refl _) _
  have D26:Hid (Below wb.heap.size wb (wb.alloc (.cells #[] 5))):=Below.step D0.out AB26
  have hN26:wb.heap.size≤(wb.alloc (.cells #[] 5)).heap.size:=D26.out.size
  have Fe226:Hid _:=owns_empty wb 5 1 wb.heap.size D0.out.size
  refine hK.out _ _ (HS.out _ D26.out) (fun hHeld=>?_)
  clear hK K AB26
  generalize hw26:wb.alloc (.cells #[] 5)=x26 at *
  clear hw26
  refine clb 13 1 hTb (by decide) rfl rfl (fun K hK=>?_)
  go_simp
  have AB28:Below x26.heap.size x26 (x26.alloc (.cells #[] 67)):=(Below.refl _ _).alloc (Nat.le_refl _) _
  have D28:Hid (Below wb.heap.size wb (x26.alloc (.cells #[] 67))):=Below.step D26.out AB28
  have hN28:wb.heap.size≤(x26.alloc (.cells #[] 67)).heap.size:=D28.out.size
  have Fe228:Hid _:=own_below Fe226.out AB28
  have Fe128:Hid _:=owns_empty x26 67 4 wb.heap.size D26.out.size
  refine hK.out _ _ (HS.out _ D28.out) (fun hHeld=>?_)
  clear hK K AB28
  generalize hw28:x26.alloc (.cells #[] 67)=x28 at *
  clear hw28
  refine clb 14 6 hTb (by decide) rfl rfl (fun K hK=>?_)
  refine ite_w (by kernel_rfl) (wp_cat (B:=wb.heap.size) 32 rfl (.tmp 27) (.tmp 31) rfl Fe128.out (HMS.out.at D28.out) (one_at _) Tryd.underlying41 hi hz0 hz1 hz2 rfl (by omega) rfl rfl hl1 hl2 D28.out.size ?_)
  intro V30 x30 xm hO30 hX30 hG30 hB30
  have HXM:Hid _:=hX30
  have HXL:Hid (xm.length=b.mails.length * 4):=hO30.1
  have hG'30:x28.grownBy x30 (some (x26.heap.size)):=hG30
  have KE30:=own_ty Fe128.out
  have D30:Hid (Below wb.heap.size wb x30):=below_gr0 D28.out hG'30 (own_ge Fe128.out rfl)
  have Fe230:Hid _:=own_grT Fe228.out hG'30 KE30 (by decide)
  have Frm30:Hid _:=hO30
  obtain ⟨ma,mn,mc,hV30⟩:=own_form hO30
  subst hV30
  refine hK.out _ _ (HS.out _ D30.out) (fun hHeld=>?_)
  clear hK K hG30 hB30 hO30 hX30
  refine clb 15 15 hTb (by decide) rfl rfl (fun K hK=>?_)
  refine ite_w (by kernel_rfl) (wp_cat (B:=wb.heap.size) 41 rfl (.tmp 39) (.tmp 40) rfl Fe230.out (Bs.rd1 (HTX.out _ D30.out)) (one_byte _) Tryd.underlying22 hj hy0 hy1 hy2 rfl (by omega) rfl rfl hl3 hl4 D30.out.size ?_)
  intro V32 x32 xt hO32 hX32 hG32 hB32
  have hG'32:x30.grownBy x32 (some (wb.heap.size)):=hG32
  have KE32:=own_ty Fe230.out
  have D32:Hid (Below wb.heap.size wb x32):=below_gr0 D30.out hG'32 (own_ge Fe230.out rfl)
  have Frm32:Hid _:=own_grT Frm30.out hG'32 KE32 (by decide)
  have hR32:RO x32 (fun k=>wb.heap.size≤k) V32 tx:=ro_of HTO.out hO32 hX32 (fun g hg=>own_ge hO32 hg)
  obtain ⟨ta,tn,tc,hV32⟩:=hR32.bs.form3
  subst hV32
  have Frt32:Hid (RO x32 (fun k=>wb.heap.size≤k) (.slice ta tn tc) tx):=hR32
  refine hK.out _ _ (HS.out _ D32.out) (fun hHeld=>?_)
  clear hK K hG32 hB32 hO32 hX32 hR32
  refine tkb 16 16 42 hTb hHeld ?_
  refine clb 17 17 hTb (by decide) rfl rfl (fun K hK=>?_)
  go_simp
  have AB35:Below x32.heap.size x32 (x32.alloc (.cells #[.int .i64 b.next,.int .i64 fl,.int .i64 (b.seq+1),.slice ta tn tc] 67)):=(Below.refl _ _).alloc (Nat.le_refl _) _
  have D35:Hid (Below wb.heap.size wb (x32.alloc (.cells #[.int .i64 b.next,.int .i64 fl,.int .i64 (b.seq+1),.slice ta tn tc] 67))):=Below.step D32.out AB35
  have hN35:wb.heap.size≤(x32.alloc (.cells #[.int .i64 b.next,.int .i64 fl,.int .i64 (b.seq+1),.slice ta tn tc] 67)).heap.size:=D35.out.size
  have Frm35:Hid _:=own_below Frm32.out AB35
  have Frt35:Hid (RO (x32.alloc (.cells #[.int .i64 b.next,.int .i64 fl,.int .i64 (b.seq+1),.slice ta tn tc] 67)) (fun k=>wb.heap.size≤k) (.slice ta tn tc) tx):=Frt32.out.below AB35
  have FC:Hid _:=cells_new x32 #[.int .i64 b.next,.int .i64 fl,.int .i64 (b.seq+1),.slice ta tn tc] 67
  refine hK.out _ _ (HS.out _ D35.out) (fun hHeld=>?_)
  clear hK K AB35
  generalize hw35:x32.alloc (.cells #[.int .i64 b.next,.int .i64 fl,.int .i64 (b.seq+1),.slice ta tn tc] 67)=x35 at *
  clear hw35
  refine clb 18 18 hTb (by decide) rfl rfl (fun K hK=>?_)
  refine ite_w (by kernel_rfl) (wp_app1 44 rfl (.tmp 32) (.tmp 43) rfl Frm35.out Tryd.underlying41 hi hz0 hz1 hz2 rfl (by omega) rfl [.int .i64 b.next,.int .i64 fl,.int .i64 (b.seq+1),.slice ta tn tc] rfl ⟨x32.heap.size,0,none⟩ 1 rfl FC.out one4' hl5 hl6 D35.out.size ?_)
  intro V37 x37 hO37 hG37 hB37
  obtain ⟨da,dn,dc,hV37⟩:=own_form hO37
  subst hV37
  have D37:Hid (Below wb.heap.size wb x37):=below_row D35.out hG37 (fun j hj=>own_ge Frm35.out hj)
  have Frt37:Hid (RO x37 (fun k=>wb.heap.size≤k) (.slice ta tn tc) tx):=ro_row Frt35.out hG37 Frm35.out (by decide)
  have Frm37:Hid _:=hO37
  refine hK.out _ _ (HS.out _ D37.out) (fun hHeld=>?_)
  clear hK K hG37 hB37 hO37 FC
  refine wpB_next (S':=fun _=>True) 19 22 (by decide) trivial (fun hHeld=>?_)
  refine tkb 19 19 45 hTb hHeld ?_
  refine tkb 20 20 46 hTb hHeld ?_
  refine clb 21 21 hTb (by decide) rfl rfl (fun K hK=>?_)
  have HQ:=add_end HP2.out D37.out Frm37.out HXM.out HXL.out Frt37.out HIN.out
  have HP9:Hid _:=HQ.1
  have HT9:Hid _:=HQ.2
  clear HQ
  have gc:=HP2.out.below D37.out
  obtain ⟨v0,v1,v2,-,-,-,-,k0,k1,k2,k3,k4,k5,k6⟩:=gc.cells
  have gz:=gc.open
  have gl:=gc.lt
  go_simp
  refine hK.out _ _ trivial (fun hHeld=>?_)
  clear hK K
  refine wpB_end hTb ?_
  go_wp2
  go_ret
  exact ⟨rfl,Turns.trans HT2.out HT9.out (fun k h=>.inr (Nat.le_trans HT2.out.1 h)),BoxP.mono HP9.out fun k h=>h.imp id fun h=>Nat.le_trans HT2.out.1 h⟩

end Go.Proofs.YtnlhkgoppjejeaaDoor
