/- The proof's texts, part 20. -/
import Derived.Test.YtmglhdkeidhafaaGreatTf
namespace Go.Proofs.YtmglhdkeidhafaaGreat
open Go.RowKit
set_option linter.unusedVariables false
set_option linter.unusedSimpArgs false
set_option maxHeartbeats 8000000
set_option maxRecDepth 100000
/- What afX of package spec does. -/
theorem XW:(Tryz.f89.body.bind (bR 4)).all (fun o=>qj o 22 [0,2,3,4,5,7,8,9,10,11,12,14,13,1,6,15,16,17,18,19,20,21] [13,14,15,17,18,21] [12] [19,22] 0)=true:=by kernel_rfl
theorem XY:(Tryz.f89.body.bind (bR 4)).all (fun o=>qj o 22 [0,2,3,4,5,7,8,9,10,11,12,14,1,13,6,15,16,17,18,19,20,21] [14,15,17,18,21] [12,13] [19,22] 0)=true:=by kernel_rfl
theorem XZ:(Tryz.f89.body.bind (bR 4)).all (fun o=>qj o 22 [0,2,3,4,5,7,8,9,10,11,12,14,1,6,13,15,16,17,18,19,20,21] [14,15,17,18,21] [12,13] [19,22] 0)=true:=by kernel_rfl
theorem jC {w:World} {B n:Nat} {e:TypeId} {sz:Nat} {v:Value} {xs:List Value} (h:w.ownsRow B e sz v n xs):∃ a m c,v=.slice a m c:=by
 rcases h.2 with ⟨h,-⟩ | ⟨g,cap,cur,h,-⟩
 ·exact ⟨_,_,_,h⟩
 ·exact ⟨_,_,_,h⟩
theorem mI {w0 w w':World} {row:Option Nat} (h:Below w0.heap.size w0 w) (hg:w.grownBy w' row) (hr:∀ j,row=some j→w0.heap.size≤j):Below w0.heap.size w0 w' :=
 ⟨hg.os.trans h.os,hg.tape.trans h.tape,hg.output.trans h.output,Nat.le_trans h.size hg.size,fun k hk=>(hg.block k (Nat.lt_of_lt_of_le hk h.size) fun e=>by have:=hr k e.symm;omega).trans (h.block k hk)⟩
theorem I4 {w w':World} {S:Nat→Prop} {u v:Value} {l:List Int} {B n:Nat} {e:TypeId} {sz:Nat} {xs:List Value} (h:RO w S u l) (hg:w.grownBy w' v.ownBlock) (hr:w.ownsRow B e sz v n xs) (hne:5≠e):RO w' S u l:=by
 refine jP h fun k ⟨cs,fz,hk⟩=>hg.block k (lt_of_heap hk) fun e2=>?_
 rcases hr.2 with ⟨h',-⟩ | ⟨g',cap,cur,h',-,hh,-⟩
 ·rw [h'] at e2;cases e2
 ·rw [h'] at e2
  cases e2
  rw [hh] at hk
  cases hk
  exact hne rfl
/-- The list that has grown is the rV own. -/
theorem I5 {wb x:World} {S:Nat→Prop} {g o:Nat} {b0:aA} {ms:List aC} {xm:List Value} {da ta:Option Addr} {dn dc tn tc:Nat} {tx:List Int} {nx fl sq:Int} (hp:aK wb S g o b0) (hD:Below wb.heap.size wb x)
  (hm:x.ownsRow wb.heap.size 72 4 (.slice da dn dc) (ms.length+1) (xm ++ [.int .i64 nx,.int .i64 fl,.int .i64 sq,.slice ta tn tc])) 
  (hx:∀ i m,ms[i]?=some m→∃ c,c.length=4∧sj wb c m Any∧∀ j y,c[j]?=some y→xm[i * 4+j]?=some y) (hxl:xm.length=ms.length * 4)
  (ht:RO x (fun k=>wb.heap.size≤k) (.slice ta tn tc) tx) (hi:ay nx∧ay fl∧ay sq) :
  aK (x.setCell ⟨g,o+4,none⟩ (.slice da dn dc)) (fun k=>S k∨wb.heap.size≤k) g o ⟨b0.name,b0.valid,b0.next,b0.seq,ms ++ [⟨nx,fl,sq,tx⟩],b0.au,b0.lost⟩∧Turns wb (x.setCell ⟨g,o+4,none⟩ (.slice da dn dc)) (fun k=>wb.heap.size≤k) g o:=by
 have hp':=hp.below hD
 have hq:jc x (fun k=>wb.heap.size≤k) (.slice da dn dc) (ms ++ [⟨nx,fl,sq,tx⟩]):=by
  refine O9 hm (by simp) (fun i m h=>?_) (fun k hk=>dP hm hk)
  by_cases hlt:i < ms.length
  ·rw [List.getElem?_append_left hlt] at h
   obtain ⟨c,h1,h2,h3⟩:=hx i m h
   refine ⟨c,h1,uq h2 (fU hD),fun j y hy=>?_⟩
   have:=h3 j y hy
   rw [List.getElem?_append_left (gs1 this).1]
   exact this
  ·rw [List.getElem?_append_right (by omega)] at h
   have hi0:i=ms.length:=by
    have:=(gs1 h).1
    simp at this
    omega
   subst hi0
   simp only [Nat.sub_self,List.getElem?_cons_zero,Option.some.injEq] at h
   subst h
   refine ⟨[.int .i64 nx,.int .i64 fl,.int .i64 sq,.slice ta tn tc],rfl,⟨_,rfl,ht.mono fun _ _=>trivial,hi⟩,fun j y hy=>?_⟩
   rw [List.getElem?_append_right (by omega),show ms.length * 4+j - xm.length=j by omega]
   exact hy
 exact ⟨hp'.O7 (hq.mono fun _ h=>.inr h) (fun _ h=>.inl h),(nG hD).trans (lK (S':=fun k=>wb.heap.size≤k) hp' (by omega)) (fun k h=>.inl h)⟩
theorem I6 (g o:Nat) (b:aA) (S:Nat→Prop) (fl:Int) (tv:Value) (tx:List Int) (w:World) (hp:aK w S g o b) (hfl:ay fl) (ht:∀ w',w.heap.size≤w'.heap.size→bD w w' 5→Bs w' tv tx) (hlt:tx.length≤2000000) (hml:b.ah.length≤2000000) (hs1:b.seq < 1000000000) (hn1:b.next < 1000000000) :
  Calls Tryz.prog 89 #[.pointer (some ⟨g,o,none⟩),.int .i64 fl,tv] w fun e w'=>e=.returned (.int .i64 b.next)∧Turns w w' S g o∧aK w' (fun k=>S k∨w.heap.size≤k) g o (jA b fl tx):=by
 have hp0:=hp
 obtain ⟨u0,u1,u2,h0,h1,h2,⟨i0,i1,i2,i3⟩,c0,c1,c2,c3,c4,c5,c6⟩:=hp.cells
 have hz:=hp.open
 have bE:=hp.lt
 have b1:=i1.1
 have b2:=i2.1
 have gV:Hid (aK (w.setCell ⟨g,o+3,none⟩ (.int .i64 (b.seq+1))) S g o _):=hp.su (b.seq+1) ⟨by omega,by omega⟩
 have HT1:Hid (Turns w (w.setCell ⟨g,o+3,none⟩ (.int .i64 (b.seq+1))) S g o):=lK hp (by omega)
 have I7:Hid (ay b.next∧ay fl∧ay (b.seq+1)):=⟨i1,hfl,by omega,by omega⟩
 obtain ⟨PW,PX,PY,X8⟩:=(ht w (Nat.le_refl _) (bD.refl _ _)).aG
 subst X8
 have jT:Hid (Oct tx):=(ht w (Nat.le_refl _) (bD.refl _ _)).1
 have HT:Hid (∀ w',w.heap.size≤w'.heap.size→bD w w' 5→Bs w' (.slice PW PX PY) tx):=ht
 obtain ⟨i0,hi,hz0,hz1,hz2⟩:=info_parts AJ
 obtain ⟨j0,hj,hy0,hy1,hy2⟩:=info_parts info5
 have hl1:b.ah.length≤maxLen:=by unfold maxLen;omega
 have hl2:b.ah.length * 48≤140737488355328:=by omega
 have hl3:tx.length≤maxLen:=by unfold maxLen;omega
 have hl4:tx.length * 1≤140737488355328:=by omega
 have hl5:b.ah.length+1≤maxLen:=by unfold maxLen;omega
 have I8:(b.ah.length+1) * 48≤140737488355328:=by omega
 clear ht h0 h1 h2 hfl i1 i2 i3 hp hp0
 go_enter Tryz.func89,Tryz.ntmps89
 go_upto_region 2 with fail
 clear c0 c1 c2 c3 c4 c5 c6 hz bE
 generalize w.setCell ⟨g,o+3,none⟩ (.int .i64 (b.seq+1))=w1 at gV HT1 ⊢
 obtain ⟨u0,u1,u2,h0,h1,h2,hint,c0,c1,c2,c3,c4,c5,c6⟩:=gV.out.cells
 simp only at c0 c1 c2 c3 c4 c5 c6
 have hz:=gV.out.open
 have bE:=gV.out.lt
 have I9:Hid (aK (w1.setCell ⟨g,o+2,none⟩ (.int .i64 (b.next+1))) S g o _):=gV.out.EH (b.next+1) ⟨by omega,by omega⟩
 have Ja:Hid (Turns w (w1.setCell ⟨g,o+2,none⟩ (.int .i64 (b.next+1))) S g o):=HT1.out.trans (lK (S':=S) gV.out (by omega)) (fun k h=>.inl h)
 clear h0 h1 h2 hint
 go_upto_region 4 with fail
 clear c0 c1 c2 c3 c4 c5 c6 hz bE
 generalize w1.setCell ⟨g,o+2,none⟩ (.int .i64 (b.next+1))=w2 at I9 Ja ⊢
 clear gV HT1
 have jJ:Hid (aK w2.drew S g o ⟨b.name,b.valid,b.next+1,b.seq+1,b.ah,b.au,b.lost⟩):=I9.out.below (bd _ _)
 have HT2:Hid (Turns w w2.drew S g o):=Ja.out.trans (nG (bd _ _)) (fun k h=>.inl h)
 obtain ⟨v0,v1,v2,g0,g1,g2,gi,c0,c1,c2,c3,c4,c5,c6⟩:=jJ.out.cells
 simp only at c0 c1 c2 c3 c4 c5 c6 g0 g1 g2 gi
 have Jb:Hid (jc w2.drew S v1 b.ah):=g1
 obtain ⟨a1,z1,rfl,-⟩:=g1.v.form
 have HS:Hid (∀ w',Below w2.drew.heap.size w2.drew w'→(w'.cell? ⟨g,o+4,none⟩=some (.slice a1 b.ah.length z1)∧w'.cell? ⟨g,o+3,none⟩=some (.int .i64 (b.seq+1)))):=fun w' h=>⟨cell_later h c4,cell_later h c3⟩
 have BI:Hid (∀ x,Below w2.drew.heap.size w2.drew x→Bs x (.slice PW PX PY) tx):=fun x h=>HT.out x (Nat.le_trans HT2.out.1 h.size) (HT2.out.2.2.1.trans (fU h))
 have bE:=jJ.out.lt
 clear g0 g1 g2 gi c0 c1 c2 c3 c4 c5 c6 I9 Ja HT
 refine G7 19 (S:=fun w'=>(w'.cell? ⟨g,o+4,none⟩=some (.slice a1 b.ah.length z1)∧w'.cell? ⟨g,o+3,none⟩=some (.int .i64 (b.seq+1)))) (tJ (by kernel_rfl) XW) (tJ (by kernel_rfl) XY) (tJ (by kernel_rfl) XZ) (by kernel_rfl) (HS.out _ (Below.refl _ _)) (fun aj uE BJ ahz=>?_)
 have BK:=ak aj
 have oG:=ak uE
 have Jc:=ak BJ
 clear uE BJ
 have D0:Hid (Below w2.drew.heap.size w2.drew w2.drew):=Below.refl _ _
 generalize w2.drew=wb at *
 refine dL 0 0 26 aj ahz ?_
 refine dL 1 2 28 aj ahz ?_
 refine dL 2 3 29 aj ahz ?_
 refine dL 3 4 30 aj ahz ?_
 refine dL 4 5 31 aj ahz ?_
 refine dL 5 7 33 aj ahz ?_
 refine dL 6 8 34 aj ahz ?_
 refine dL 7 9 35 aj ahz ?_
 refine dL 8 10 36 aj ahz ?_
 refine dL 9 11 37 aj ahz ?_
 refine dL 10 12 38 aj ahz ?_
 refine dL 11 14 40 aj ahz ?_
 refine Ay 12 [1,13] (by kernel_rfl) (by decide) (by decide) (by simp) ?_
 refine (jo.cons [0,2,3,4,5,7,8,9,10,11,12,14,1,13,6,15,16,17,18,19,20,21] rfl (by decide) (by decide) (fun K hK=>?_) (jo.cons [0,2,3,4,5,7,8,9,10,11,12,14,13,1,6,15,16,17,18,19,20,21] rfl (by decide) (by decide) (fun K hK=>?_) jo.nil))
 ·have aj:=oG.out
  go_simp
  have uF:Below wb.heap.size wb (wb.alloc (.cells #[] 72)):=bn _ _
  have D2:Hid (Below wb.heap.size wb (wb.alloc (.cells #[] 72))):=Below.step D0.out uF
  have Jd:wb.heap.size≤(wb.alloc (.cells #[] 72)).heap.size:=D2.out.size
  have ES:Hid _:=kJ wb 72 4 wb.heap.size D0.out.size
  refine hK.out _ _ (HS.out _ D2.out) (fun ahz=>?_)
  clear hK K uF
  generalize hw2:wb.alloc (.cells #[] 72)=x2 at *
  clear hw2
  refine Ay 13 [6,13] (by kernel_rfl) (by decide) (by decide) (by simp) ?_
  refine (jo.cons [0,2,3,4,5,7,8,9,10,11,12,14,1,6,13,15,16,17,18,19,20,21] rfl (by decide) (by decide) (fun K hK=>?_) (jo.cons [0,2,3,4,5,7,8,9,10,11,12,14,1,13,6,15,16,17,18,19,20,21] rfl (by decide) (by decide) (fun K hK=>?_) jo.nil))
  ·have aj:=Jc.out
   refine dR (by kernel_rfl) (jX (B:=wb.heap.size) 32 rfl (.tmp 27) (.tmp 31) rfl ES.out (Jb.out.at D2.out) (Bv _) Tryz.underlying31 hi hz0 hz1 hz2 rfl (by omega) rfl rfl hl1 hl2 D2.out.size ?_)
   intro V4 x4 xm hO4 sI hG4 hB4
   have BL:Hid _:=sI
   have BM:Hid (xm.length=b.ah.length * 4):=hO4.1
   have X9:x2.grownBy x4 (some (wb.heap.size)):=hG4
   have KE4:=rJ ES.out
   have D4:Hid (Below wb.heap.size wb x4):=kK D2.out X9 (dP ES.out rfl)
   have Ya:Hid _:=hO4
   obtain ⟨ma,mn,mc,pQ⟩:=jC hO4
   subst pQ
   refine hK.out _ _ (HS.out _ D4.out) (fun ahz=>?_)
   clear hK K hG4 hB4 hO4 sI
   refine fQ 14 13 aj (by decide) rfl rfl (fun K hK=>?_)
   go_simp
   have Je:Below x4.heap.size x4 (x4.alloc (.cells #[] 5)):=bn _ _
   have D6:Hid (Below wb.heap.size wb (x4.alloc (.cells #[] 5))):=Below.step D4.out Je
   have Jf:wb.heap.size≤(x4.alloc (.cells #[] 5)).heap.size:=D6.out.size
   have Yb:Hid _:=own_below Ya.out Je
   have Jg:Hid _:=kJ x4 5 1 wb.heap.size D4.out.size
   refine hK.out _ _ (HS.out _ D6.out) (fun ahz=>?_)
   clear hK K Je
   generalize xQ:x4.alloc (.cells #[] 5)=x6 at *
   clear xQ
   refine fQ 15 15 aj (by decide) rfl rfl (fun K hK=>?_)
   refine dR (by kernel_rfl) (jX (B:=wb.heap.size) 41 rfl (.tmp 39) (.tmp 40) rfl Jg.out (Bs.rF (BI.out _ D6.out)) (one_byte _) Tryz.underlying22 hj hy0 hy1 hy2 rfl (by omega) rfl rfl hl3 hl4 D6.out.size ?_)
   intro V8 x8 xt qM BN jZ zD
   have PZ:x6.grownBy x8 (some (x4.heap.size)):=jZ
   have Yc:=rJ Jg.out
   have D8:Hid (Below wb.heap.size wb x8):=kK D6.out PZ (dP Jg.out rfl)
   have Yd:Hid _:=vB Yb.out PZ Yc (by decide)
   have Jh:RO x8 (fun k=>wb.heap.size≤k) V8 tx:=rG jT.out qM BN (fun g hg=>dP qM hg)
   obtain ⟨ta,tn,tc,Ji⟩:=Jh.bs.aG
   subst Ji
   have Ye:Hid (RO x8 (fun k=>wb.heap.size≤k) (.slice ta tn tc) tx):=Jh
   refine hK.out _ _ (HS.out _ D8.out) (fun ahz=>?_)
   clear hK K jZ zD qM BN Jh
   refine dL 16 16 42 aj ahz ?_
   refine fQ 17 17 aj (by decide) rfl rfl (fun K hK=>?_)
   go_simp
   have ET:Below x8.heap.size x8 (x8.alloc (.cells #[.int .i64 b.next,.int .i64 fl,.int .i64 (b.seq+1),.slice ta tn tc] 72)):=bn _ _
   have vO:Hid (Below wb.heap.size wb (x8.alloc (.cells #[.int .i64 b.next,.int .i64 fl,.int .i64 (b.seq+1),.slice ta tn tc] 72))):=Below.step D8.out ET
   have afZ:wb.heap.size≤(x8.alloc (.cells #[.int .i64 b.next,.int .i64 fl,.int .i64 (b.seq+1),.slice ta tn tc] 72)).heap.size:=vO.out.size
   have Jj:Hid _:=own_below Yd.out ET
   have Yf:Hid (RO (x8.alloc (.cells #[.int .i64 b.next,.int .i64 fl,.int .i64 (b.seq+1),.slice ta tn tc] 72)) (fun k=>wb.heap.size≤k) (.slice ta tn tc) tx):=Ye.out.below ET
   have FC:Hid _:=kH x8 #[.int .i64 b.next,.int .i64 fl,.int .i64 (b.seq+1),.slice ta tn tc] 72
   refine hK.out _ _ (HS.out _ vO.out) (fun ahz=>?_)
   clear hK K ET
   generalize Yg:x8.alloc (.cells #[.int .i64 b.next,.int .i64 fl,.int .i64 (b.seq+1),.slice ta tn tc] 72)=x11 at *
   clear Yg
   refine fQ 18 18 aj (by decide) rfl rfl (fun K hK=>?_)
   refine dR (by kernel_rfl) (zA 44 rfl (.tmp 32) (.tmp 43) rfl Jj.out Tryz.underlying31 hi hz0 hz1 hz2 rfl (by omega) rfl [.int .i64 b.next,.int .i64 fl,.int .i64 (b.seq+1),.slice ta tn tc] rfl ⟨x8.heap.size,0,none⟩ 1 rfl FC.out AR hl5 I8 vO.out.size ?_)
   intro V13 P5 Jk Jl Yh
   obtain ⟨da,dn,dc,Yi⟩:=jC Jk
   subst Yi
   have Jm:Hid (Below wb.heap.size wb P5):=mI vO.out Jl (fun j hj=>dP Jj.out hj)
   have Yj:Hid (RO P5 (fun k=>wb.heap.size≤k) (.slice ta tn tc) tx):=I4 Yf.out Jl Jj.out (by decide)
   have Yk:Hid _:=Jk
   refine hK.out _ _ (HS.out _ Jm.out) (fun ahz=>?_)
   clear hK K Jl Yh Jk FC
   refine yP (S':=fun _=>True) 19 22 (by decide) trivial (fun ahz=>?_)
   refine dL 19 19 45 aj ahz ?_
   refine dL 20 20 46 aj ahz ?_
   refine fQ 21 21 aj (by decide) rfl rfl (fun K hK=>?_)
   have HQ:=I5 jJ.out Jm.out Yk.out BL.out BM.out Yj.out I7.out
   have qN:Hid _:=HQ.1
   have oH:Hid _:=HQ.2
   clear HQ
   have gc:=jJ.out.below Jm.out
   obtain ⟨v0,v1,v2,-,-,-,-,k0,k1,k2,k3,k4,k5,k6⟩:=gc.cells
   have gz:=gc.open
   have gl:=gc.lt
   go_simp
   refine hK.out _ _ trivial (fun ahz=>?_)
   clear hK K
   refine vo aj ?_
   go_wp2
   go_ret
   exact ⟨rfl,Turns.trans HT2.out oH.out (fun k h=>.inr (Nat.le_trans HT2.out.1 h)),aK.mono qN.out fun k h=>h.imp id fun h=>Nat.le_trans HT2.out.1 h⟩
  ·have aj:=oG.out
   go_simp
   have Jo:Below x2.heap.size x2 (x2.alloc (.cells #[] 5)):=bn _ _
   have BO:Hid (Below wb.heap.size wb (x2.alloc (.cells #[] 5))):=Below.step D2.out Jo
   have af3:wb.heap.size≤(x2.alloc (.cells #[] 5)).heap.size:=BO.out.size
   have Jp:Hid _:=own_below ES.out Jo
   have Yl:Hid _:=kJ x2 5 1 wb.heap.size D2.out.size
   refine hK.out _ _ (HS.out _ BO.out) (fun ahz=>?_)
   clear hK K Jo
   generalize Ym:x2.alloc (.cells #[] 5)=Yn at *
   clear Ym
   refine fQ 14 6 aj (by decide) rfl rfl (fun K hK=>?_)
   refine dR (by kernel_rfl) (jX (B:=wb.heap.size) 32 rfl (.tmp 27) (.tmp 31) rfl Jp.out (Jb.out.at BO.out) (Bv _) Tryz.underlying31 hi hz0 hz1 hz2 rfl (by omega) rfl rfl hl1 hl2 BO.out.size ?_)
   intro V17 Jq xm EU P6 P7 Yo
   have BL:Hid _:=P6
   have BM:Hid (xm.length=b.ah.length * 4):=EU.1
   have P8:Yn.grownBy Jq (some (wb.heap.size)):=P7
   have Yp:=rJ Jp.out
   have EW:Hid (Below wb.heap.size wb Jq):=kK BO.out P8 (dP Jp.out rfl)
   have Jr:Hid _:=vB Yl.out P8 Yp (by decide)
   have Yq:Hid _:=EU
   obtain ⟨ma,mn,mc,Yr⟩:=jC EU
   subst Yr
   refine hK.out _ _ (HS.out _ EW.out) (fun ahz=>?_)
   clear hK K P7 Yo EU P6
   refine fQ 15 15 aj (by decide) rfl rfl (fun K hK=>?_)
   refine dR (by kernel_rfl) (jX (B:=wb.heap.size) 41 rfl (.tmp 39) (.tmp 40) rfl Jr.out (Bs.rF (BI.out _ EW.out)) (one_byte _) Tryz.underlying22 hj hy0 hy1 hy2 rfl (by omega) rfl rfl hl3 hl4 EW.out.size ?_)
   intro Yt oI xt Js P9 Qa Yu
   have Qb:Jq.grownBy oI (some (x2.heap.size)):=Qa
   have Yv:=rJ Jr.out
   have Qc:Hid (Below wb.heap.size wb oI):=kK EW.out Qb (dP Jr.out rfl)
   have Yw:Hid _:=vB Yq.out Qb Yv (by decide)
   have Jt:RO oI (fun k=>wb.heap.size≤k) Yt tx:=rG jT.out Js P9 (fun g hg=>dP Js hg)
   obtain ⟨ta,tn,tc,Yx⟩:=Jt.bs.aG
   subst Yx
   have Yy:Hid (RO oI (fun k=>wb.heap.size≤k) (.slice ta tn tc) tx):=Jt
   refine hK.out _ _ (HS.out _ Qc.out) (fun ahz=>?_)
   clear hK K Qa Yu Js P9 Jt
   refine dL 16 16 42 aj ahz ?_
   refine fQ 17 17 aj (by decide) rfl rfl (fun K hK=>?_)
   go_simp
   have EX:Below oI.heap.size oI (oI.alloc (.cells #[.int .i64 b.next,.int .i64 fl,.int .i64 (b.seq+1),.slice ta tn tc] 72)):=bn _ _
   have EY:Hid (Below wb.heap.size wb (oI.alloc (.cells #[.int .i64 b.next,.int .i64 fl,.int .i64 (b.seq+1),.slice ta tn tc] 72))):=Below.step Qc.out EX
   have af5:wb.heap.size≤(oI.alloc (.cells #[.int .i64 b.next,.int .i64 fl,.int .i64 (b.seq+1),.slice ta tn tc] 72)).heap.size:=EY.out.size
   have Ju:Hid _:=own_below Yw.out EX
   have Yz:Hid (RO (oI.alloc (.cells #[.int .i64 b.next,.int .i64 fl,.int .i64 (b.seq+1),.slice ta tn tc] 72)) (fun k=>wb.heap.size≤k) (.slice ta tn tc) tx):=Yy.out.below EX
   have FC:Hid _:=kH oI #[.int .i64 b.next,.int .i64 fl,.int .i64 (b.seq+1),.slice ta tn tc] 72
   refine hK.out _ _ (HS.out _ EY.out) (fun ahz=>?_)
   clear hK K EX
   generalize YA:oI.alloc (.cells #[.int .i64 b.next,.int .i64 fl,.int .i64 (b.seq+1),.slice ta tn tc] 72)=x22 at *
   clear YA
   refine fQ 18 18 aj (by decide) rfl rfl (fun K hK=>?_)
   refine dR (by kernel_rfl) (zA 44 rfl (.tmp 32) (.tmp 43) rfl Ju.out Tryz.underlying31 hi hz0 hz1 hz2 rfl (by omega) rfl [.int .i64 b.next,.int .i64 fl,.int .i64 (b.seq+1),.slice ta tn tc] rfl ⟨oI.heap.size,0,none⟩ 1 rfl FC.out AR hl5 I8 EY.out.size ?_)
   intro V24 x24 Jv Jw YB
   obtain ⟨da,dn,dc,YC⟩:=jC Jv
   subst YC
   have Jy:Hid (Below wb.heap.size wb x24):=mI EY.out Jw (fun j hj=>dP Ju.out hj)
   have YD:Hid (RO x24 (fun k=>wb.heap.size≤k) (.slice ta tn tc) tx):=I4 Yz.out Jw Ju.out (by decide)
   have YE:Hid _:=Jv
   refine hK.out _ _ (HS.out _ Jy.out) (fun ahz=>?_)
   clear hK K Jw YB Jv FC
   refine yP (S':=fun _=>True) 19 22 (by decide) trivial (fun ahz=>?_)
   refine dL 19 19 45 aj ahz ?_
   refine dL 20 20 46 aj ahz ?_
   refine fQ 21 21 aj (by decide) rfl rfl (fun K hK=>?_)
   have HQ:=I5 jJ.out Jy.out YE.out BL.out BM.out YD.out I7.out
   have qN:Hid _:=HQ.1
   have oH:Hid _:=HQ.2
   clear HQ
   have gc:=jJ.out.below Jy.out
   obtain ⟨v0,v1,v2,-,-,-,-,k0,k1,k2,k3,k4,k5,k6⟩:=gc.cells
   have gz:=gc.open
   have gl:=gc.lt
   go_simp
   refine hK.out _ _ trivial (fun ahz=>?_)
   clear hK K
   refine vo aj ?_
   go_wp2
   go_ret
   exact ⟨rfl,Turns.trans HT2.out oH.out (fun k h=>.inr (Nat.le_trans HT2.out.1 h)),aK.mono qN.out fun k h=>h.imp id fun h=>Nat.le_trans HT2.out.1 h⟩
 ·have aj:=BK.out
  go_simp
  have Qd:Below wb.heap.size wb (wb.alloc (.cells #[] 5)):=bn _ _
  have EZ:Hid (Below wb.heap.size wb (wb.alloc (.cells #[] 5))):=Below.step D0.out Qd
  have af8:wb.heap.size≤(wb.alloc (.cells #[] 5)).heap.size:=EZ.out.size
  have YF:Hid _:=kJ wb 5 1 wb.heap.size D0.out.size
  refine hK.out _ _ (HS.out _ EZ.out) (fun ahz=>?_)
  clear hK K Qd
  generalize YG:wb.alloc (.cells #[] 5)=vP at *
  clear YG
  refine fQ 13 1 aj (by decide) rfl rfl (fun K hK=>?_)
  go_simp
  have Jz:Below vP.heap.size vP (vP.alloc (.cells #[] 72)):=bn _ _
  have BP:Hid (Below wb.heap.size wb (vP.alloc (.cells #[] 72))):=Below.step EZ.out Jz
  have af9:wb.heap.size≤(vP.alloc (.cells #[] 72)).heap.size:=BP.out.size
  have YH:Hid _:=own_below YF.out Jz
  have JA:Hid _:=kJ vP 72 4 wb.heap.size EZ.out.size
  refine hK.out _ _ (HS.out _ BP.out) (fun ahz=>?_)
  clear hK K Jz
  generalize YI:vP.alloc (.cells #[] 72)=x28 at *
  clear YI
  refine fQ 14 6 aj (by decide) rfl rfl (fun K hK=>?_)
  refine dR (by kernel_rfl) (jX (B:=wb.heap.size) 32 rfl (.tmp 27) (.tmp 31) rfl JA.out (Jb.out.at BP.out) (Bv _) Tryz.underlying31 hi hz0 hz1 hz2 rfl (by omega) rfl rfl hl1 hl2 BP.out.size ?_)
  intro V30 x30 xm E8 Qe Qf YJ
  have BL:Hid _:=Qe
  have BM:Hid (xm.length=b.ah.length * 4):=E8.1
  have Qg:x28.grownBy x30 (some (vP.heap.size)):=Qf
  have YK:=rJ JA.out
  have E9:Hid (Below wb.heap.size wb x30):=kK BP.out Qg (dP JA.out rfl)
  have JB:Hid _:=vB YH.out Qg YK (by decide)
  have YL:Hid _:=E8
  obtain ⟨ma,mn,mc,YM⟩:=jC E8
  subst YM
  refine hK.out _ _ (HS.out _ E9.out) (fun ahz=>?_)
  clear hK K Qf YJ E8 Qe
  refine fQ 15 15 aj (by decide) rfl rfl (fun K hK=>?_)
  refine dR (by kernel_rfl) (jX (B:=wb.heap.size) 41 rfl (.tmp 39) (.tmp 40) rfl JB.out (Bs.rF (BI.out _ E9.out)) (one_byte _) Tryz.underlying22 hj hy0 hy1 hy2 rfl (by omega) rfl rfl hl3 hl4 E9.out.size ?_)
  intro YN x32 xt JC Qh Qi YO
  have Qj:x30.grownBy x32 (some (wb.heap.size)):=Qi
  have YP:=rJ JB.out
  have Qk:Hid (Below wb.heap.size wb x32):=kK E9.out Qj (dP JB.out rfl)
  have YQ:Hid _:=vB YL.out Qj YP (by decide)
  have JD:RO x32 (fun k=>wb.heap.size≤k) YN tx:=rG jT.out JC Qh (fun g hg=>dP JC hg)
  obtain ⟨ta,tn,tc,YR⟩:=JD.bs.aG
  subst YR
  have YS:Hid (RO x32 (fun k=>wb.heap.size≤k) (.slice ta tn tc) tx):=JD
  refine hK.out _ _ (HS.out _ Qk.out) (fun ahz=>?_)
  clear hK K Qi YO JC Qh JD
  refine dL 16 16 42 aj ahz ?_
  refine fQ 17 17 aj (by decide) rfl rfl (fun K hK=>?_)
  go_simp
  have Fa:Below x32.heap.size x32 (x32.alloc (.cells #[.int .i64 b.next,.int .i64 fl,.int .i64 (b.seq+1),.slice ta tn tc] 72)):=bn _ _
  have Fb:Hid (Below wb.heap.size wb (x32.alloc (.cells #[.int .i64 b.next,.int .i64 fl,.int .i64 (b.seq+1),.slice ta tn tc] 72))):=Below.step Qk.out Fa
  have agb:wb.heap.size≤(x32.alloc (.cells #[.int .i64 b.next,.int .i64 fl,.int .i64 (b.seq+1),.slice ta tn tc] 72)).heap.size:=Fb.out.size
  have JE:Hid _:=own_below YQ.out Fa
  have YT:Hid (RO (x32.alloc (.cells #[.int .i64 b.next,.int .i64 fl,.int .i64 (b.seq+1),.slice ta tn tc] 72)) (fun k=>wb.heap.size≤k) (.slice ta tn tc) tx):=YS.out.below Fa
  have FC:Hid _:=kH x32 #[.int .i64 b.next,.int .i64 fl,.int .i64 (b.seq+1),.slice ta tn tc] 72
  refine hK.out _ _ (HS.out _ Fb.out) (fun ahz=>?_)
  clear hK K Fa
  generalize YU:x32.alloc (.cells #[.int .i64 b.next,.int .i64 fl,.int .i64 (b.seq+1),.slice ta tn tc] 72)=x35 at *
  clear YU
  refine fQ 18 18 aj (by decide) rfl rfl (fun K hK=>?_)
  refine dR (by kernel_rfl) (zA 44 rfl (.tmp 32) (.tmp 43) rfl JE.out Tryz.underlying31 hi hz0 hz1 hz2 rfl (by omega) rfl [.int .i64 b.next,.int .i64 fl,.int .i64 (b.seq+1),.slice ta tn tc] rfl ⟨x32.heap.size,0,none⟩ 1 rfl FC.out AR hl5 I8 Fb.out.size ?_)
  intro V37 Ql JF JG YV
  obtain ⟨da,dn,dc,YW⟩:=jC JF
  subst YW
  have JH:Hid (Below wb.heap.size wb Ql):=mI Fb.out JG (fun j hj=>dP JE.out hj)
  have YX:Hid (RO Ql (fun k=>wb.heap.size≤k) (.slice ta tn tc) tx):=I4 YT.out JG JE.out (by decide)
  have YZ:Hid _:=JF
  refine hK.out _ _ (HS.out _ JH.out) (fun ahz=>?_)
  clear hK K JG YV JF FC
  refine yP (S':=fun _=>True) 19 22 (by decide) trivial (fun ahz=>?_)
  refine dL 19 19 45 aj ahz ?_
  refine dL 20 20 46 aj ahz ?_
  refine fQ 21 21 aj (by decide) rfl rfl (fun K hK=>?_)
  have HQ:=I5 jJ.out JH.out YZ.out BL.out BM.out YX.out I7.out
  have qN:Hid _:=HQ.1
  have oH:Hid _:=HQ.2
  clear HQ
  have gc:=jJ.out.below JH.out
  obtain ⟨v0,v1,v2,-,-,-,-,k0,k1,k2,k3,k4,k5,k6⟩:=gc.cells
  have gz:=gc.open
  have gl:=gc.lt
  go_simp
  refine hK.out _ _ trivial (fun ahz=>?_)
  clear hK K
  refine vo aj ?_
  go_wp2
  go_ret
  exact ⟨rfl,Turns.trans HT2.out oH.out (fun k h=>.inr (Nat.le_trans HT2.out.1 h)),aK.mono qN.out fun k h=>h.imp id fun h=>Nat.le_trans HT2.out.1 h⟩
end Go.Proofs.YtmglhdkeidhafaaGreat
