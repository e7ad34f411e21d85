/- The proof's texts, part 35. -/
import Derived.Test.YtnlhkgoppjejeaaDoorPart31
import Derived.Test.YtnlhkgoppjejeaaDoorPart32

/- What l3drop of package spec does. -/
namespace Go.Proofs.YtnlhkgoppjejeaaDoor
open Go.RowKit
set_option maxRecDepth 100000
set_option linter.unusedVariables false
set_option linter.unusedSimpArgs false

theorem tab_drop0:(Tryd.f84.body.bind (opsAt 0)).all (fun o=>tableS o 15 [0,1,2,3,4,5,6,7,8,9,10,11,12,13,14] [13,14] [15] 0)=true:=by kernel_rfl
theorem tab_drop1:(Tryd.f84.body.bind (opsAt 1)).all (fun o=>tableS o 20 [0,2,3,4,5,6,7,9,10,11,12,13,14,15,1,8,16,17,18,19] [14,15,16,19] [17,20] 0)=true:=by kernel_rfl
theorem bxg {w:World} {g:Nat} {t:TypeId} {c0 c1:Value} (h:w.heap[g]?=some (.cells #[c0,c1] t (0,0))):w.cell? ⟨g,0,none⟩=some c0∧w.cell? ⟨g,1,none⟩=some c1:=⟨cell_of_row w g 0 _ t (0,0) h,cell_of_row w g 1 _ t (0,0) h⟩
theorem Rd.drop' {α:Type} {sz b off c k:Nat} {RE:World→List Value→α→Prop} {w:World} {m:List α} (h:Rd sz RE w (.slice (some ⟨b,off,none⟩) m.length c) m) (hk:k≤m.length):Rd sz RE w (.slice (if c=k then some ⟨b,off,none⟩ else some ⟨b,off+k * sz,none⟩) (m.length - k) (c - k)) (m.drop k):=by
 by_cases e:c=k
 ·have hc:m.length≤c:=by obtain ⟨_,_,_,e,h,-⟩:=h;cases e;exact h
  have hm:m.length=k:=by omega
  rw [if_pos e,hm,e,Nat.sub_self,List.drop_eq_nil_of_le (by omega)]
  exact ⟨some ⟨b,off,none⟩,0,fun _=>[],by simp,by simp,by simp,(fun h=>by cases h),by simp,by simp⟩
 ·rw [if_neg e]
  exact h.drop hk
theorem tab_dropGA:(Tryd.f84.body.bind (opsAt 2)).all (fun o=>tableB o 13 [0,2,3,4,5,7,8,1,6,9,10,11,12] [7,8,9,12] [6] [10,13] 0)=true:=by kernel_rfl
theorem tab_dropGB:(Tryd.f84.body.bind (opsAt 2)).all (fun o=>tableB o 13 [0,2,3,4,5,7,1,8,6,9,10,11,12] [8,9,12] [6,7] [10,13] 0)=true:=by kernel_rfl
theorem tab_dropGC:(Tryd.f84.body.bind (opsAt 2)).all (fun o=>tableB o 13 [0,2,3,4,5,7,1,6,8,9,10,11,12] [8,9,12] [6,7] [10,13] 0)=true:=by kernel_rfl
theorem own_lt {w:World} {B n g m c:Nat} {e:TypeId} {sz:Nat} {xs:List Value} (h:w.ownsRow B e sz (.slice (some ⟨g,0,none⟩) m c) n xs):g < w.heap.size:=by
 rcases h.2 with ⟨h,-⟩ | ⟨g',cap,cur,h,-,hh,-⟩
 ·cases h
 ·cases h
  exact lt_of_heap hh
theorem cells_in {w:World} {g:Nat} {cs:Array Value} {t:TypeId} (h:w.heap[g]?=some (.cells cs t (0,0))):∀ j u,cs.toList[j]?=some u→w.cell? ((⟨g,0,none⟩:Addr).add j)=some u:=by
 intro j u hu
 rw [Addr.add_lit,Nat.zero_add,cell_of_row _ _ _ _ _ (0,0) h]
 simpa using hu
/-- How many gones a box behind a pointer holds. -/
def gLen (w:World) (g o:Nat):Nat:=match w.cell? ⟨g,o+5,none⟩ with | some (.slice _ n _)=>n | _=>0
theorem cell_set_here {w:World} {g o j:Nat} {x:Value} (hf:∀ cur t,w.heap[g]?=some (.cells cur t (0,0))→o+7≤cur.size) (ht:Ty w g 44) (hj:j < 7) (h0:∃ cur,w.heap[g]?=some (.cells cur 44 (0,0))):(w.setCell ⟨g,o+j,none⟩ x).cell? ⟨g,o+j,none⟩=some x:=by
 obtain ⟨cur,hh⟩:=h0
 have hs:=hf cur _ hh
 rw [cell_of_row _ g (o+j) _ _ (0,0) (box_set hh),Array.getElem?_setIfInBounds_self_of_lt (by omega)]
theorem gonesq_tail {w:World} {S:Nat→Prop} {l:List GoneD} {b off c:Nat} (h:GonesQ w S (.slice (some ⟨b,off,none⟩) l.length c) l) (hl:1 < l.length):GonesQ w S (.slice (some ⟨b,off+1 * 2,none⟩) (l.length - 1) (c - 1)) (l.drop 1):=by
 refine ⟨h.1.drop (by omega),fun a n c' e=>?_⟩
 obtain ⟨hS,cur,hh,-,hs⟩:=h.2 ⟨b,off,none⟩ l.length c rfl
 obtain ⟨a0,cap,cs,hv,hle,-⟩:=h.1
 simp only [Value.slice.injEq,true_and] at hv
 obtain ⟨-,rfl⟩:=hv
 cases e
 exact ⟨hS,cur,hh,rfl,by simp only at hs ⊢;omega⟩
/-- What went is put behind those that went. -/
theorem drop_gones {wb x:World} {S:Nat→Prop} {g o:Nat} {b0:BoxD} {gs:List GoneD} {xg:List Value} {da:Option Addr} {dn dc:Nat} {nu ns:Int} (hp:BoxP wb S g o b0) (hF:∀ k,wb.heap.size≤k→S k) (hD:Below wb.heap.size wb x)
  (hm:x.ownsRow wb.heap.size 65 2 (.slice da dn dc) (gs.length+1) (xg ++ [.int .i64 nu,.int .i64 ns])) {wy:World}
  (hx:∀ i m,gs[i]?=some m→∃ c,c.length=2∧GoneRE wy c m∧∀ j y,c[j]?=some y→xg[i * 2+j]?=some y) (hxl:xg.length=gs.length * 2) (hi:I64 nu∧I64 ns) :
  BoxP (x.setCell ⟨g,o+5,none⟩ (.slice da dn dc)) S g o ⟨b0.name,b0.valid,b0.next,b0.seq,b0.mails,gs ++ [⟨nu,ns⟩],b0.lost⟩∧Turns wb (x.setCell ⟨g,o+5,none⟩ (.slice da dn dc)) S g o:=by
 have hp':=hp.below hD
 have hq:GonesO x (fun k=>wb.heap.size≤k) (.slice da dn dc) (gs ++ [⟨nu,ns⟩]):=by
  refine gones_of (w0:=wy) (by rw [List.length_append];exact hm) (fun i m h=>?_) (fun k hk=>own_ge hm hk)
  by_cases hlt:i < gs.length
  ·rw [List.getElem?_append_left hlt] at h
   obtain ⟨c,h1,h2,h3⟩:=hx i m h
   refine ⟨c,h1,h2,fun j y hy=>?_⟩
   have:=h3 j y hy
   rw [List.getElem?_append_left (List.getElem?_eq_some_iff.1 this).1]
   exact this
  ·rw [List.getElem?_append_right (by omega)] at h
   have hi0:i=gs.length:=by
    have:=(List.getElem?_eq_some_iff.1 h).1
    simp at this
    omega
   subst hi0
   simp only [Nat.sub_self,List.getElem?_cons_zero,Option.some.injEq] at h
   subst h
   refine ⟨[.int .i64 nu,.int .i64 ns],rfl,⟨rfl,hi⟩,fun j y hy=>?_⟩
   rw [List.getElem?_append_right (by omega),show gs.length * 2+j - xg.length=j by omega]
   exact hy
 exact ⟨hp'.setGones ((gones_q hq).mono hF),(turns_below hD).trans (turns_set (S':=S) hp' (by omega)) (fun k h=>.inl h)⟩
theorem drop_mails {wb x:World} {S:Nat→Prop} {g o i:Nat} {b0:BoxD} {ms:List MailD} {ya yb:List Value} {da:Option Addr} {dn dc:Nat} (hp:BoxP wb S g o b0) (hD:Below wb.heap.size wb x)
  (hm:x.ownsRow wb.heap.size 67 4 (.slice da dn dc) (0+(ms.take i).length+(ms.drop (i+1)).length) ([] ++ ya ++ yb)) (hla:ya.length=(ms.take i).length * 4)
  (hx:∀ k m,(ms.take i)[k]?=some m→∃ c,c.length=4∧MailQE wb c m Any∧∀ j y,c[j]?=some y→ya[k * 4+j]?=some y) (hlb:yb.length=(ms.drop (i+1)).length * 4)
  (hy:∀ k m,(ms.drop (i+1))[k]?=some m→∃ c,c.length=4∧MailQE wb c m Any∧∀ j y,c[j]?=some y→yb[k * 4+j]?=some y) :
  BoxP (x.setCell ⟨g,o+4,none⟩ (.slice da dn dc)) (fun k=>S k∨wb.heap.size≤k) g o ⟨b0.name,b0.valid,b0.next,b0.seq,ms.take i ++ ms.drop (i+1),b0.gones,b0.lost⟩∧Turns wb (x.setCell ⟨g,o+4,none⟩ (.slice da dn dc)) (fun k=>wb.heap.size≤k) g o:=by
 have hp':=hp.below hD
 have hq:MailsQ x (fun k=>wb.heap.size≤k) (.slice da dn dc) (ms.take i ++ ms.drop (i+1)):=by
  refine mq_of hm (by rw [List.length_append];omega) (fun k m h=>?_) (fun k hk=>own_ge hm hk)
  rw [List.nil_append]
  by_cases hlt:k < (ms.take i).length
  ·rw [List.getElem?_append_left hlt] at h
   obtain ⟨c,h1,h2,h3⟩:=hx k m h
   refine ⟨c,h1,mail_oth h2 (stay_below hD),fun j y hy=>?_⟩
   have:=h3 j y hy
   rw [List.getElem?_append_left (List.getElem?_eq_some_iff.1 this).1]
   exact this
  ·rw [List.getElem?_append_right (by omega)] at h
   obtain ⟨c,h1,h2,h3⟩:=hy _ m h
   refine ⟨c,h1,mail_oth h2 (stay_below hD),fun j y hy=>?_⟩
   have:=h3 j y hy
   rw [List.getElem?_append_right (by omega),hla,show k * 4+j - (ms.take i).length * 4=(k - (ms.take i).length) * 4+j by omega]
   exact this
 exact ⟨hp'.setMails (hq.mono fun _ h=>.inr h) (fun _ h=>.inl h),(turns_below hD).trans (turns_set (S':=fun k=>wb.heap.size≤k) hp' (by omega)) (fun k h=>.inl h)⟩

set_option maxRecDepth 100000 in
set_option maxHeartbeats 8000000 in
theorem l3drop_r (g o i:Nat) (b:BoxD) (m:MailD) (S:Nat→Prop) (w:World) (hp:BoxP w S g o b) (hm:b.mails[i]?=some m) (hml:b.mails.length≤2000000) (hgl:b.gones.length≤2000000) :
  Calls Tryd.prog 84 #[.pointer (some ⟨g,o,none⟩),.int .i64 i] w fun e w'=>e=.returned (.tuple #[])∧Turns w w' S g o∧BoxP w' (fun k=>S k∨w.heap.size≤k) g o (dropX b i):=by
 have HP:Hid (BoxP w S g o b):=hp
 have hlg:g < w.heap.size:=hp.lt
 obtain ⟨u0,u1,u2,h0,h1,h2,hint,c0,c1,c2,c3,c4,c5,c6⟩:=hp.cells
 obtain ⟨mb,off,z1,mu,hv',hlm,f0,f1,f2,f3,-,im0,im1,im2⟩:=h1.v.cell i m hm
 have hil:i < b.mails.length:=(List.getElem?_eq_some_iff.1 hm).1
 subst hv'
 have hili:(i:Int) < b.mails.length:=by omega
 have hzc:b.mails.length≤z1:=by obtain ⟨_,_,e,h,-⟩:=h1.v.form;cases e;exact h
 have HS:Hid (∀ w',Below w.heap.size w w'→((w'.cell? ⟨g,o+4,none⟩=some (.slice (some ⟨mb,off,none⟩) b.mails.length z1)∧w'.cell? ⟨g,o+3,none⟩=some (.int .i64 b.seq))∧w'.cell? ⟨mb,off+i * 4,none⟩=some (.int .i64 m.uid))):=fun w' h=>⟨⟨cell_later h c4,cell_later h c3⟩,cell_later h f0⟩
 have IM:Hid (I64 m.uid∧I64 b.seq):=⟨im0,hint.2.2.1⟩
 obtain ⟨i0,hi,hz0,hz1,hz2⟩:=info_parts infoMail
 obtain ⟨j0,hj,hy0,hy1,hy2⟩:=info_parts infoGone
 have HMI:Hid (b.mails[i]?=some m):=hm
 clear h0 h1 h2 hint c0 c1 c2 c3 c4 c5 c6 hp f0 f1 f2 f3 im0 im1 im2
 go_enter Tryd.func84,Tryd.ntmps84
 go_upto_region 0 with fail
 refine wpS_begin 15 (S:=fun w'=>((w'.cell? ⟨g,o+4,none⟩=some (.slice (some ⟨mb,off,none⟩) b.mails.length z1)∧w'.cell? ⟨g,o+3,none⟩=some (.int .i64 b.seq))∧w'.cell? ⟨mb,off+i * 4,none⟩=some (.int .i64 m.uid))) (tabS_of (by kernel_rfl) tab_drop0) (by kernel_rfl) (HS.out _ (Below.refl _ _).drew) (fun hTb hHeld=>?_)
 refine tks 0 0 5 hTb hHeld ?_
 refine tks 1 1 6 hTb hHeld ?_
 refine tks 2 2 7 hTb hHeld ?_
 refine tks 3 3 8 hTb hHeld ?_
 refine tks 4 4 9 hTb hHeld ?_
 refine tks 5 5 10 hTb hHeld ?_
 refine tks 6 6 11 hTb hHeld ?_
 refine tks 7 7 12 hTb hHeld ?_
 refine tks 8 8 13 hTb hHeld ?_
 refine tks 9 9 14 hTb hHeld ?_
 refine tks 10 10 15 hTb hHeld ?_
 refine tks 11 11 16 hTb hHeld ?_
 refine tks 12 12 17 hTb hHeld ?_
 refine cls 13 13 hTb (by decide) rfl rfl (fun K hK=>?_)
 go_simp
 have AB:Below w.heap.size w (w.drew.alloc (.cells #[.int .i64 0,.int .i64 0] 65)):=(Below.refl _ _).drew.alloc (Nat.le_refl _) _
 have KG:(w.drew.alloc (.cells #[.int .i64 0,.int .i64 0] 65)).heap[w.heap.size]?=some (.cells #[.int .i64 0,.int .i64 0] 65 (0,0)):=box_new w.drew _
 refine hK.out _ _ (HS.out _ AB) (fun hHeld=>?_)
 clear hK K
 have KG2:((w.alloc (.cells #[.int .i64 m.uid,.int .i64 b.seq] 65)).drew).heap[w.heap.size]?=some (.cells #[.int .i64 m.uid,.int .i64 b.seq] 65 (0,0)):=box_new w _
 have BS:Below w.heap.size w ((w.alloc (.cells #[.int .i64 m.uid,.int .i64 b.seq] 65)).drew):=((Below.refl _ _).alloc (Nat.le_refl _) _).drew
 have KG2h:=hidm' KG2
 have BSh:=hidm' BS
 clear KG2
 obtain ⟨gz,gl⟩:=box8z KG
 obtain ⟨t0,t1⟩:=bxg KG
 refine cls 14 14 hTb (by decide) rfl rfl (fun K hK=>?_)
 go_simp
 refine hK.out _ _ (HS.out _ BS) (fun hHeld=>?_)
 clear hK K
 refine wpS_end hTb ?_
 clear AB KG gz gl t0 t1 BS
 have HSL:Hid (∀ w',Below w.heap.size w w'→w'.cell? ⟨g,o+4,none⟩=some (.slice (some ⟨mb,off,none⟩) b.mails.length z1)):=fun w' h=>(HS.out w' h).1.1
 clear HS
 go_upto_region 1 with fail
 generalize ((w.alloc (.cells #[.int .i64 m.uid,.int .i64 b.seq] 65)).drew)=w1 at KG2h BSh ⊢
 have HP1:Hid (BoxP w1.drew S g o b):=(HP.out.below BSh.out).below (Below.refl _ _).drew
 have HT1:Hid (Turns w w1.drew S g o):=turns_below (BSh.out.drew)
 have HKG:Hid _:=box_below (Below.refl _ _).drew KG2h.out
 have sg:w.heap.size < w1.heap.size:=lt_of_heap KG2h.out
 obtain ⟨u0,u1,u2,h0,h1,h2,hint,c0,c1,c2,c3,c4,c5,c6⟩:=HP1.out.cells
 have hv1:u1=.slice (some ⟨mb,off,none⟩) b.mails.length z1:=by
  have:=HSL.out _ ((BSh.out).drew)
  rw [c4] at this
  exact Option.some.inj this
 subst hv1
 have HMA:Hid (∀ x,Below w1.drew.heap.size w1.drew x→Rd 4 (MailAt w1.drew) x (.slice (some ⟨mb,off,none⟩) b.mails.length z1) b.mails):=fun x h=>h1.at h
 have HS1:Hid (∀ w',Below w1.drew.heap.size w1.drew w'→(w'.cell? ⟨g,o+4,none⟩=some (.slice (some ⟨mb,off,none⟩) b.mails.length z1))):=fun w' h=>cell_later h c4
 have hti:i≤b.mails.length:=by omega
 have hiz:i≤z1:=by omega
 have hwr:IntKind.i64.wrap ((i:Int)+1)=(i:Int)+1:=by simp [IntKind.wrap,IntKind.bits,IntKind.signed];omega
 have htn:((i:Int)+1).toNat=i+1:=by omega
 have hb0:(0:Int)≤(i:Int)+1:=by omega
 have hb1:(i:Int)+1≤b.mails.length:=by omega
 have htd:i+1≤b.mails.length:=by omega
 have e1:(b.mails.take i).length=i:=by simp;omega
 have e2:(b.mails.drop (i+1)).length=b.mails.length - (i+1):=by simp
 have hl1:0+(b.mails.take i).length≤maxLen:=by rw [e1];unfold maxLen;omega
 have hl2:(0+(b.mails.take i).length) * 48≤140737488355328:=by rw [e1];omega
 have hl3:0+(b.mails.take i).length+(b.mails.drop (i+1)).length≤maxLen:=by rw [e1,e2];unfold maxLen;omega
 have hl4:(0+(b.mails.take i).length+(b.mails.drop (i+1)).length) * 48≤140737488355328:=by rw [e1,e2];omega
 clear h0 h1 h2 hint c0 c1 c2 c3 c4 c5 c6 e1 e2 HP
 have hlg1:g < w1.drew.heap.size:=HP1.out.lt
 have sg1:w.heap.size < w1.drew.heap.size:=sg
 refine wpS_begin 17 (S:=fun w'=>(w'.cell? ⟨g,o+4,none⟩=some (.slice (some ⟨mb,off,none⟩) b.mails.length z1))) (tabS_of (by kernel_rfl) tab_drop1) (by kernel_rfl) (HS1.out _ (Below.refl _ _)) (fun hTb hHeld=>?_)
 refine tks 0 0 18 hTb hHeld ?_
 refine tks 1 2 20 hTb hHeld ?_
 refine tks 2 3 21 hTb hHeld ?_
 refine tks 3 4 22 hTb hHeld ?_
 refine tks 4 5 23 hTb hHeld ?_
 refine tks 5 6 24 hTb hHeld ?_
 refine tks 6 7 25 hTb hHeld ?_
 refine tks 7 9 27 hTb hHeld ?_
 refine tks 8 10 28 hTb hHeld ?_
 refine tks 9 11 29 hTb hHeld ?_
 refine tks 10 12 30 hTb hHeld ?_
 refine tks 11 13 31 hTb hHeld ?_
 refine tks 12 14 32 hTb hHeld ?_
 refine tks 13 15 33 hTb hHeld ?_
 refine cls 14 1 hTb (by decide) rfl rfl (fun K hK=>?_)
 go_simp
 have AB:Below w1.drew.heap.size w1.drew (w1.drew.alloc (.cells #[] 67)):=(Below.refl _ _).alloc (Nat.le_refl _) _
 have HE1:=hidm' (owns_empty w1.drew 67 4 w1.drew.heap.size (Nat.le_refl _))
 refine hK.out _ _ (HS1.out _ AB) (fun hHeld=>?_)
 clear hK K
 refine cls 15 8 hTb (by decide) rfl rfl (fun K hK=>?_)
 refine ite_w (by kernel_rfl) (wp_catA (B:=w1.drew.heap.size) 26 rfl (.tmp 19) (.tmp 25) rfl HE1.out ((HMA.out _ AB).take hti) (one_at _) Tryd.underlying41 hi hz0 hz1 hz2 rfl (by omega) rfl rfl hl1 hl2 AB.size ?_)
 intro V8 x8 ya hO8 hL8 hX8 hG8 hB8
 have D8:Below w1.drew.heap.size w1.drew x8:=below_row AB hG8 (fun j hj=>own_ge HE1.out hj)
 obtain ⟨ma,mn,mc,hV8⟩:=own_form hO8
 subst hV8
 refine hK.out _ _ (HS1.out _ D8) (fun hHeld=>?_)
 clear hK K
 refine cls 16 16 hTb (by decide) rfl rfl (fun K hK=>?_)
 refine ite_w (by kernel_rfl) (wp_catA (B:=w1.drew.heap.size) 34 rfl (.tmp 26) (.tmp 33) rfl hO8 ((HMA.out _ D8).drop' htd) (one_at _) Tryd.underlying41 hi hz0 hz1 hz2 rfl (by omega) rfl rfl hl3 hl4 D8.size ?_)
 intro V16 x16 yb hO16 hL16 hX16 hG16 hB16
 have D16:Below w1.drew.heap.size w1.drew x16:=below_row D8 hG16 (fun j hj=>own_ge hO8 hj)
 obtain ⟨na,nn,nc,hV16⟩:=own_form hO16
 subst hV16
 refine hK.out _ _ (HS1.out _ D16) (fun hHeld=>?_)
 clear hK K
 refine wpS_next (S':=fun w'=>True) 17 20 hTb (by decide) (trivial) (fun hHeld=>?_)
 refine tks 17 17 35 hTb hHeld ?_
 refine tks 18 18 36 hTb hHeld ?_
 have HQ:Hid _:=drop_mails HP1.out D16 hO16 hL8 hX8 hL16 hX16
 have gc:=HP1.out.below D16
 obtain ⟨v0,v1,v2,-,-,-,-,k0,k1,k2,k3,k4,k5,k6⟩:=gc.cells
 have gz:=gc.open
 have gl:=gc.lt
 have HKG16:=hidm' (box_other (k:=g) (i:=o+4) (v:=.slice na nn nc) (box_below D16 HKG.out) (by omega))
 refine cls 19 19 hTb (by decide) rfl rfl (fun K hK=>?_)
 go_simp
 refine hK.out _ _ (trivial) (fun hHeld=>?_)
 clear hK K
 refine wpS_end hTb ?_
 clear gc gz gl k0 k1 k2 k3 k4 k5 k6 hX8 hL8 hG8 hB8 hX16 hL16 hG16 hB16 hO8 hO16 D8 AB HE1 HMA HS1 hl1 hl2 hl3 hl4 hiz hwr htn hb0 hb1 HP1 HKG
 go_upto_region 2 with fail
 have D16h:=hidm' D16
 clear D16
 generalize x16.setCell ⟨g,o+4,none⟩ (.slice na nn nc)=w2 at HQ HKG16 ⊢
 have HP2:Hid (BoxP w2.drew (fun k=>S k∨w1.drew.heap.size≤k) g o _):=HQ.out.1.below (Below.refl _ _).drew
 have HT2:Hid (Turns w w2.drew S g o):=Turns.trans (Turns.trans HT1.out HQ.out.2 (fun k h=>.inr (Nat.le_trans HT1.out.1 h))) (turns_below (S:=S) (Below.refl _ _).drew) (fun k h=>.inl h)
 have HK2:=hidm' (box_below (Below.refl _ _).drew HKG16.out)
 have HN2:Hid (w.heap.size≤w1.drew.heap.size):=HT1.out.1
 have HN3:Hid (w1.drew.heap.size≤w2.drew.heap.size):=HQ.out.2.1
 clear HQ HKG16 HT1 D16h
 go_cut [4] (fun s wx=>s=.pointer (some ⟨w.heap.size,0,none⟩)∧Hid (BoxP wx (fun k=>S k∨w1.drew.heap.size≤k) g o ⟨b.name,b.valid,b.next,b.seq,b.mails.take i ++ b.mails.drop (i+1),b.gones ++ [⟨m.uid,b.seq⟩],b.lost⟩)∧Hid (Turns w2.drew wx (fun k=>S k∨w1.drew.heap.size≤k) g o))
 case first =>
  obtain ⟨v0,v1,v2,g0,g1,g2,gi,c0,c1,c2,c3,c4,c5,c6⟩:=HP2.out.cells
  simp only at c0 c1 c2 c3 c4 c5 c6 g0 g1 g2 gi
  obtain ⟨ga,gc,rfl,-⟩:=g2.1.form
  have HGV:Hid (∀ x,Below w2.drew.heap.size w2.drew x→GonesV x (.slice ga b.gones.length gc) b.gones):=fun x h=>g2.1.below keepsGone h
  obtain ⟨t0,t1⟩:=bxg HK2.out
  have HS2:Hid (∀ w',Below w2.drew.heap.size w2.drew w'→(w'.cell? ⟨g,o+5,none⟩=some (.slice ga b.gones.length gc)∧w'.cell? ⟨w.heap.size,0,none⟩=some (.int .i64 m.uid)∧w'.cell? ⟨w.heap.size,1,none⟩=some (.int .i64 b.seq))):=fun w' h=>⟨cell_later h c5,cell_later h t0,cell_later h t1⟩
  have hg1:b.gones.length≤maxLen:=by unfold maxLen;omega
  have hg2:b.gones.length * 16≤140737488355328:=by omega
  have hg3:b.gones.length+1≤maxLen:=by unfold maxLen;omega
  have hg4:(b.gones.length+1) * 16≤140737488355328:=by omega
  have hlg2:=HP2.out.lt
  have hlw:=lt_of_heap HK2.out
  clear g0 g1 g2 gi c0 c1 c2 c3 c4 c5 c6 t0 t1
  refine wpB_begin3 10 (S:=fun w'=>(w'.cell? ⟨g,o+5,none⟩=some (.slice ga b.gones.length gc)∧w'.cell? ⟨w.heap.size,0,none⟩=some (.int .i64 m.uid)∧w'.cell? ⟨w.heap.size,1,none⟩=some (.int .i64 b.seq))) (tabB_of (by kernel_rfl) tab_dropGA) (tabB_of (by kernel_rfl) tab_dropGB) (tabB_of (by kernel_rfl) tab_dropGC) (by kernel_rfl) (HS2.out _ (Below.refl _ _)) (fun hTb hTb2 hTb3 hHeld=>?_)
  have HTA:=hidm' hTb
  have HTB:=hidm' hTb2
  have HTC:=hidm' hTb3
  clear hTb2 hTb3
  have D0:Hid (Below w2.drew.heap.size w2.drew w2.drew):=Below.refl _ _
  generalize w2.drew=wb at *
  refine tkb 0 0 37 hTb hHeld ?_
  refine tkb 1 2 39 hTb hHeld ?_
  refine tkb 2 3 40 hTb hHeld ?_
  refine tkb 3 4 41 hTb hHeld ?_
  refine tkb 4 5 42 hTb hHeld ?_
  refine tkb 5 7 44 hTb hHeld ?_
  refine brb 6 [1,8] (by kernel_rfl) (by decide) (by decide) (by simp) ?_
  refine (AllS.cons [0,2,3,4,5,7,1,8,6,9,10,11,12] rfl (by decide) (by decide) (fun K hK=>?_) (AllS.cons [0,2,3,4,5,7,8,1,6,9,10,11,12] rfl (by decide) (by decide) (fun K hK=>?_) AllS.nil))
  ·have hTb:=HTB.out
   go_simp
   have AB1:Below wb.heap.size wb (wb.alloc (.cells #[] 65)):=(Below.refl _ _).alloc (Nat.le_refl _) _
   have D1:Hid (Below wb.heap.size wb (wb.alloc (.cells #[] 65))):=Below.step D0.out AB1
   have Fe11:Hid _:=owns_empty wb 65 2 wb.heap.size D0.out.size
   refine hK.out _ _ (HS2.out _ D1.out) (fun hHeld=>?_)
   clear hK K AB1
   generalize wb.alloc (.cells #[] 65)=y1 at hHeld D1 Fe11 ⊢
   refine brb 7 [6,8] (by kernel_rfl) (by decide) (by decide) (by simp) ?_
   refine (AllS.cons [0,2,3,4,5,7,1,6,8,9,10,11,12] rfl (by decide) (by decide) (fun K hK=>?_) (AllS.cons [0,2,3,4,5,7,1,8,6,9,10,11,12] rfl (by decide) (by decide) (fun K hK=>?_) AllS.nil))
   ·have hTb:=HTC.out
    refine ite_w (by kernel_rfl) (wp_cat (B:=wb.heap.size) 43 rfl (.tmp 38) (.tmp 42) rfl Fe11.out (HGV.out _ D1.out) (one_gone _) Tryd.underlying42 hj hy0 hy1 hy2 rfl (by omega) rfl rfl hg1 hg2 D1.out.size ?_)
    intro V2 y2 xg hO2 hX2 hG2 hB2
    have HXG:Hid _:=hX2
    have HXGL:Hid (xg.length=b.gones.length * 2):=hO2.1
    have hG'2:y1.grownBy y2 (some (wb.heap.size)):=hG2
    have D2:Hid (Below wb.heap.size wb y2):=below_gr0 D1.out hG'2 (own_ge Fe11.out rfl)
    have Frg2:Hid _:=hO2
    obtain ⟨qa,qn,qc,hV2⟩:=own_form hO2
    subst hV2
    refine hK.out _ _ (HS2.out _ D2.out) (fun hHeld=>?_)
    clear hK K hG2 hB2 hO2 hX2
    refine clb 8 8 hTb (by decide) rfl rfl (fun K hK=>?_)
    go_simp
    have AB3:Below y2.heap.size y2 (y2.alloc (.cells #[.int .i64 m.uid,.int .i64 b.seq] 65)):=(Below.refl _ _).alloc (Nat.le_refl _) _
    have D3:Hid (Below wb.heap.size wb (y2.alloc (.cells #[.int .i64 m.uid,.int .i64 b.seq] 65))):=Below.step D2.out AB3
    have Frg3:Hid _:=own_below Frg2.out AB3
    have Fk83:Hid ((y2.alloc (.cells #[.int .i64 m.uid,.int .i64 b.seq] 65)).heap[y2.heap.size]?=some (.cells #[.int .i64 m.uid,.int .i64 b.seq] 65 (0,0))):=box_new y2 _
    refine hK.out _ _ (HS2.out _ D3.out) (fun hHeld=>?_)
    clear hK K AB3
    generalize y2.alloc (.cells #[.int .i64 m.uid,.int .i64 b.seq] 65)=y3 at hHeld D3 Frg3 Fk83 ⊢
    refine clb 9 9 hTb (by decide) rfl rfl (fun K hK=>?_)
    refine ite_w (by kernel_rfl) (wp_app1 46 rfl (.tmp 43) (.tmp 45) rfl Frg3.out Tryd.underlying42 hj hy0 hy1 hy2 rfl (by omega) rfl [.int .i64 m.uid,.int .i64 b.seq] rfl ⟨y2.heap.size,0,none⟩ 1 rfl (cells_in Fk83.out) one2' hg3 hg4 D3.out.size ?_)
    intro V4 y4 hO4 hG4 hB4
    obtain ⟨da,dn,dc,hV4⟩:=own_form hO4
    subst hV4
    have D4:Hid (Below wb.heap.size wb y4):=below_row D3.out hG4 (fun j hj=>own_ge Frg3.out hj)
    have Frg4:Hid _:=hO4
    refine hK.out _ _ (HS2.out _ D4.out) (fun hHeld=>?_)
    clear hK K hG4 hB4 hO4
    refine wpB_next (S':=fun _=>True) 10 13 (by decide) trivial (fun hHeld=>?_)
    refine tkb 10 10 47 hTb hHeld ?_
    refine tkb 11 11 48 hTb hHeld ?_
    refine clb 12 12 hTb (by decide) rfl rfl (fun K hK=>?_)
    have HQ:=drop_gones HP2.out (fun k h=>.inr (Nat.le_trans HN3.out h)) D4.out Frg4.out HXG.out HXGL.out IM.out
    have HP9:=hidm' HQ.1
    have HT9:=hidm' HQ.2
    clear HQ
    have gc:=HP2.out.below D4.out
    obtain ⟨v0,v1,v2,-,-,-,-,k0,k1,k2,k3,k4,k5,k6⟩:=gc.cells
    have gz:=gc.open
    have gl:=gc.lt
    go_simp
    refine hK.out _ _ trivial (fun hHeld=>?_)
    clear hK K
    refine wpB_end hTb ?_
    go_wp2
    all_goals go_meet
    all_goals exact ⟨rfl,HP9.out,HT9.out⟩
   ·have hTb:=HTB.out
    go_simp
    have AB5:Below y1.heap.size y1 (y1.alloc (.cells #[.int .i64 m.uid,.int .i64 b.seq] 65)):=(Below.refl _ _).alloc (Nat.le_refl _) _
    have D5:Hid (Below wb.heap.size wb (y1.alloc (.cells #[.int .i64 m.uid,.int .i64 b.seq] 65))):=Below.step D1.out AB5
    have hne5:y1.heap.size≠wb.heap.size:=Nat.ne_of_gt (own_lt Fe11.out)
    have Fe15:Hid _:=own_below Fe11.out AB5
    have Fk85:Hid ((y1.alloc (.cells #[.int .i64 m.uid,.int .i64 b.seq] 65)).heap[y1.heap.size]?=some (.cells #[.int .i64 m.uid,.int .i64 b.seq] 65 (0,0))):=box_new y1 _
    refine hK.out _ _ (HS2.out _ D5.out) (fun hHeld=>?_)
    clear hK K AB5
    generalize y1.alloc (.cells #[.int .i64 m.uid,.int .i64 b.seq] 65)=y5 at hHeld D5 Fe15 Fk85 ⊢
    refine clb 8 6 hTb (by decide) rfl rfl (fun K hK=>?_)
    refine ite_w (by kernel_rfl) (wp_cat (B:=wb.heap.size) 43 rfl (.tmp 38) (.tmp 42) rfl Fe15.out (HGV.out _ D5.out) (one_gone _) Tryd.underlying42 hj hy0 hy1 hy2 rfl (by omega) rfl rfl hg1 hg2 D5.out.size ?_)
    intro V6 y6 xg hO6 hX6 hG6 hB6
    have HXG:Hid _:=hX6
    have HXGL:Hid (xg.length=b.gones.length * 2):=hO6.1
    have hG'6:y5.grownBy y6 (some (wb.heap.size)):=hG6
    have D6:Hid (Below wb.heap.size wb y6):=below_gr0 D5.out hG'6 (own_ge Fe15.out rfl)
    have Fk86:Hid _:=gr_at hG'6 Fk85.out hne5
    have Frg6:Hid _:=hO6
    obtain ⟨qa,qn,qc,hV6⟩:=own_form hO6
    subst hV6
    refine hK.out _ _ (HS2.out _ D6.out) (fun hHeld=>?_)
    clear hK K hG6 hB6 hO6 hX6
    refine clb 9 9 hTb (by decide) rfl rfl (fun K hK=>?_)
    refine ite_w (by kernel_rfl) (wp_app1 46 rfl (.tmp 43) (.tmp 45) rfl Frg6.out Tryd.underlying42 hj hy0 hy1 hy2 rfl (by omega) rfl [.int .i64 m.uid,.int .i64 b.seq] rfl ⟨y1.heap.size,0,none⟩ 1 rfl (cells_in Fk86.out) one2' hg3 hg4 D6.out.size ?_)
    intro V7 y7 hO7 hG7 hB7
    obtain ⟨da,dn,dc,hV7⟩:=own_form hO7
    subst hV7
    have D7:Hid (Below wb.heap.size wb y7):=below_row D6.out hG7 (fun j hj=>own_ge Frg6.out hj)
    have Frg7:Hid _:=hO7
    refine hK.out _ _ (HS2.out _ D7.out) (fun hHeld=>?_)
    clear hK K hG7 hB7 hO7
    refine wpB_next (S':=fun _=>True) 10 13 (by decide) trivial (fun hHeld=>?_)
    refine tkb 10 10 47 hTb hHeld ?_
    refine tkb 11 11 48 hTb hHeld ?_
    refine clb 12 12 hTb (by decide) rfl rfl (fun K hK=>?_)
    have HQ:=drop_gones HP2.out (fun k h=>.inr (Nat.le_trans HN3.out h)) D7.out Frg7.out HXG.out HXGL.out IM.out
    have HP9:=hidm' HQ.1
    have HT9:=hidm' HQ.2
    clear HQ
    have gc:=HP2.out.below D7.out
    obtain ⟨v0,v1,v2,-,-,-,-,k0,k1,k2,k3,k4,k5,k6⟩:=gc.cells
    have gz:=gc.open
    have gl:=gc.lt
    go_simp
    refine hK.out _ _ trivial (fun hHeld=>?_)
    clear hK K
    refine wpB_end hTb ?_
    go_wp2
    all_goals go_meet
    all_goals exact ⟨rfl,HP9.out,HT9.out⟩
  ·have hTb:=HTA.out
   go_simp
   have AB8:Below wb.heap.size wb (wb.alloc (.cells #[.int .i64 m.uid,.int .i64 b.seq] 65)):=(Below.refl _ _).alloc (Nat.le_refl _) _
   have D8:Hid (Below wb.heap.size wb (wb.alloc (.cells #[.int .i64 m.uid,.int .i64 b.seq] 65))):=Below.step D0.out AB8
   have Fk88:Hid ((wb.alloc (.cells #[.int .i64 m.uid,.int .i64 b.seq] 65)).heap[wb.heap.size]?=some (.cells #[.int .i64 m.uid,.int .i64 b.seq] 65 (0,0))):=box_new wb _
   refine hK.out _ _ (HS2.out _ D8.out) (fun hHeld=>?_)
   clear hK K AB8
   generalize wb.alloc (.cells #[.int .i64 m.uid,.int .i64 b.seq] 65)=y8 at hHeld D8 Fk88 ⊢
   refine clb 7 1 hTb (by decide) rfl rfl (fun K hK=>?_)
   go_simp
   have AB9:Below y8.heap.size y8 (y8.alloc (.cells #[] 65)):=(Below.refl _ _).alloc (Nat.le_refl _) _
   have D9:Hid (Below wb.heap.size wb (y8.alloc (.cells #[] 65))):=Below.step D8.out AB9
   have hne9:wb.heap.size≠y8.heap.size:=Nat.ne_of_lt (lt_of_heap Fk88.out)
   have Fk89:Hid _:=box_below AB9 Fk88.out
   have Fe19:Hid _:=owns_empty y8 65 2 wb.heap.size D8.out.size
   refine hK.out _ _ (HS2.out _ D9.out) (fun hHeld=>?_)
   clear hK K AB9
   generalize y8.alloc (.cells #[] 65)=y9 at hHeld D9 Fe19 Fk89 ⊢
   refine clb 8 6 hTb (by decide) rfl rfl (fun K hK=>?_)
   refine ite_w (by kernel_rfl) (wp_cat (B:=wb.heap.size) 43 rfl (.tmp 38) (.tmp 42) rfl Fe19.out (HGV.out _ D9.out) (one_gone _) Tryd.underlying42 hj hy0 hy1 hy2 rfl (by omega) rfl rfl hg1 hg2 D9.out.size ?_)
   intro V10 y10 xg hO10 hX10 hG10 hB10
   have HXG:Hid _:=hX10
   have HXGL:Hid (xg.length=b.gones.length * 2):=hO10.1
   have hG'10:y9.grownBy y10 (some (y8.heap.size)):=hG10
   have D10:Hid (Below wb.heap.size wb y10):=below_gr0 D9.out hG'10 (own_ge Fe19.out rfl)
   have Fk810:Hid _:=gr_at hG'10 Fk89.out hne9
   have Frg10:Hid _:=hO10
   obtain ⟨qa,qn,qc,hV10⟩:=own_form hO10
   subst hV10
   refine hK.out _ _ (HS2.out _ D10.out) (fun hHeld=>?_)
   clear hK K hG10 hB10 hO10 hX10
   refine clb 9 9 hTb (by decide) rfl rfl (fun K hK=>?_)
   refine ite_w (by kernel_rfl) (wp_app1 46 rfl (.tmp 43) (.tmp 45) rfl Frg10.out Tryd.underlying42 hj hy0 hy1 hy2 rfl (by omega) rfl [.int .i64 m.uid,.int .i64 b.seq] rfl ⟨wb.heap.size,0,none⟩ 1 rfl (cells_in Fk810.out) one2' hg3 hg4 D10.out.size ?_)
   intro V11 y11 hO11 hG11 hB11
   obtain ⟨da,dn,dc,hV11⟩:=own_form hO11
   subst hV11
   have D11:Hid (Below wb.heap.size wb y11):=below_row D10.out hG11 (fun j hj=>own_ge Frg10.out hj)
   have Frg11:Hid _:=hO11
   refine hK.out _ _ (HS2.out _ D11.out) (fun hHeld=>?_)
   clear hK K hG11 hB11 hO11
   refine wpB_next (S':=fun _=>True) 10 13 (by decide) trivial (fun hHeld=>?_)
   refine tkb 10 10 47 hTb hHeld ?_
   refine tkb 11 11 48 hTb hHeld ?_
   refine clb 12 12 hTb (by decide) rfl rfl (fun K hK=>?_)
   have HQ:=drop_gones HP2.out (fun k h=>.inr (Nat.le_trans HN3.out h)) D11.out Frg11.out HXG.out HXGL.out IM.out
   have HP9:=hidm' HQ.1
   have HT9:=hidm' HQ.2
   clear HQ
   have gc:=HP2.out.below D11.out
   obtain ⟨v0,v1,v2,-,-,-,-,k0,k1,k2,k3,k4,k5,k6⟩:=gc.cells
   have gz:=gc.open
   have gl:=gc.lt
   go_simp
   refine hK.out _ _ trivial (fun hHeld=>?_)
   clear hK K
   refine wpB_end hTb ?_
   go_wp2
   all_goals go_meet
   all_goals exact ⟨rfl,HP9.out,HT9.out⟩
 case rest =>
  obtain ⟨rfl,HP3,HT3⟩:=hcut
  rename World=>w3
  have HT:Hid (Turns w w3 S g o):=Turns.trans HT2.out HT3.out (fun k h=>h.imp id fun h=>Nat.le_trans HN2.out h)
  have hgs:(b.gones ++ [(⟨m.uid,b.seq⟩:GoneD)]).length≤2000001:=by simp;omega
  have HX:Hid (dropX b i=⟨b.name,b.valid,b.next,b.seq,b.mails.take i ++ b.mails.drop (i+1),(trimG b.lost (b.gones ++ [⟨m.uid,b.seq⟩])).2,(trimG b.lost (b.gones ++ [⟨m.uid,b.seq⟩])).1⟩):=by
   show dropX b i=_
   unfold dropX
   rw [HMI.out]
  clear HP2 HT2 HK2 HT3
  generalize (b.gones ++ [(⟨m.uid,b.seq⟩:GoneD)])=gs at HP3 HX hgs
  go_wp2
  go_loopw [49] (fun _ wr=>∃ (k:Nat) (lk:Int),k≤gs.length∧Hid (trimG b.lost gs=trimG lk (gs.drop k))∧Hid (BoxP wr (fun k=>S k∨w1.drew.heap.size≤k) g o ⟨b.name,b.valid,b.next,b.seq,b.mails.take i ++ b.mails.drop (i+1),gs.drop k,lk⟩)∧Hid (Turns w wr S g o)) (fun _ wr=>gLen wr g o)
  case atStart=>exact ⟨0,b.lost,Nat.zero_le _,rfl,HP3.out,HT.out⟩
  case round =>
   obtain ⟨k,lk,hk,hTr,hP,hT⟩:=hrel
   clear HP3 HT
   obtain ⟨v0,v1,v2,g0,g1,g2,gi,c0,c1,c2,c3,c4,c5,c6⟩:=hP.out.cells
   simp only at c0 c1 c2 c3 c4 c5 c6 g0 g1 g2 gi
   have hz:=hP.out.open
   have hl:=hP.out.lt
   have HG2:Hid (GonesQ wr (fun k=>S k∨w1.drew.heap.size≤k) v2 (gs.drop k)):=g2
   have hdl:(gs.drop k).length=gs.length - k:=by simp
   by_cases h40:40 < (gs.drop k).length
   ·obtain ⟨x,hx⟩:∃ x,(gs.drop k)[0]?=some x:=⟨(gs.drop k)[0],List.getElem?_eq_getElem (by omega)⟩
    obtain ⟨bq,qo,gc,rfl,hlq,q0,q1,qi0,qi1⟩:=g2.1.cell 0 x hx
    have hgc:(gs.drop k).length≤gc:=by obtain ⟨_,_,e,h,-⟩:=g2.1.form;cases e;exact h
    have hi40:(40:Int) < ((gs.drop k).length:Int):=by omega
    have hi0:(0:Int) < ((gs.drop k).length:Int):=by omega
    rw [Nat.zero_mul,Nat.add_zero] at q0 q1
    have HXX:Hid (gs[k]?=some x):=by
     show gs[k]?=some x
     rw [List.getElem?_drop,Nat.add_zero] at hx
     exact hx
    have HPL:Hid (BoxP (wr.setCell ⟨g,o+6,none⟩ (.int .i64 x.seq)) (fun k=>S k∨w1.drew.heap.size≤k) g o _):=hP.out.setLost x.seq qi1
    have HTL:Hid (Turns w (wr.setCell ⟨g,o+6,none⟩ (.int .i64 x.seq)) S g o):=Turns.trans hT.out (turns_set (S':=S) hP.out (by omega)) (fun k h=>.inl h)
    have HTR:Hid (trimG b.lost gs=trimG x.seq (gs.drop (k+1))):=by
     show trimG b.lost gs=_
     rw [hTr.out,trimG_drop HXX.out (by omega)]
    have HGL:Hid (gLen wr g o=(gs.drop k).length):=by show gLen wr g o=_;unfold gLen;rw [c5]
    have QL:Hid (gs.drop k=(gs.drop k)):=rfl
    clear g0 g1 g2 gi hx
    go_upto_region 5 with fail
    clear c0 c1 c2 c3 c4 c5 c6 hz hl q0 q1 hlq
    generalize wr.setCell ⟨g,o+6,none⟩ (.int .i64 x.seq)=wl at HPL HTL ⊢
    obtain ⟨v0,v1,v2,g0,g1,g2,gi,c0,c1,c2,c3,c4,c5,c6⟩:=HPL.out.cells
    simp only at c0 c1 c2 c3 c4 c5 c6 g0 g1 g2 gi
    have hz:=HPL.out.open
    have hl:=HPL.out.lt
    obtain ⟨ga,gc',rfl,hgl1,-⟩:=g2.1.form
    have hga:∃ bq' qo',ga=some ⟨bq',qo',none⟩:=by
     obtain ⟨x',hx'⟩:∃ x,(gs.drop k)[0]?=some x:=⟨(gs.drop k)[0],List.getElem?_eq_getElem (by omega)⟩
     obtain ⟨bq',qo',_,e,-⟩:=g2.1.cell 0 x' hx'
     cases e
     exact ⟨bq',qo',rfl⟩
    obtain ⟨bq',qo',rfl⟩:=hga
    have hone:¬ gc'=1:=by omega
    have h1l:(1:Int)≤((gs.drop k).length:Int):=by omega
    have HGT:Hid (GonesQ wl (fun k=>S k∨w1.drew.heap.size≤k) (.slice (some ⟨bq',qo'+2,none⟩) (gs.length - k - 1) (gc' - 1)) (gs.drop (k+1))):=by
     have:=gonesq_tail g2 (by omega)
     rw [List.drop_drop,List.length_drop] at this
     exact this
    have HPG:Hid (BoxP (wl.setCell ⟨g,o+5,none⟩ (.slice (some ⟨bq',qo'+2,none⟩) (gs.length - k - 1) (gc' - 1))) (fun k=>S k∨w1.drew.heap.size≤k) g o _):=HPL.out.setGones HGT.out
    have HTG:Hid (Turns w (wl.setCell ⟨g,o+5,none⟩ (.slice (some ⟨bq',qo'+2,none⟩) (gs.length - k - 1) (gc' - 1))) S g o):=Turns.trans HTL.out (turns_set (S':=S) HPL.out (by omega)) (fun k h=>.inl h)
    have HGL2:Hid (gLen (wl.setCell ⟨g,o+5,none⟩ (.slice (some ⟨bq',qo'+2,none⟩) (gs.length - k - 1) (gc' - 1))) g o=gs.length - k - 1):=by
     show gLen _ g o=_
     obtain ⟨_,_,_,_,_,_,_,_,_,_,_,_,k5,_⟩:=HPG.out.cells
     unfold gLen
     rw [cell_set_here HPL.out.fit HPL.out.ty (by omega) (let ⟨cur,_,hh,_⟩:=HPL.out;⟨cur,hh⟩)]
    clear g0 g1 g2 gi
    go_wp2
    go_roundw
    case rel=>exact ⟨k+1,x.seq,by omega,HTR.out,HPG.out,HTG.out⟩
    case measure=>rw [HGL2.out,HGL.out,List.length_drop];omega
   ·have HE:Hid (trimG b.lost gs=(lk,gs.drop k)):=by
     show trimG b.lost gs=_
     rw [hTr.out,trimG_le (by omega)]
    have hi40:¬ ((40:Int) < ((gs.drop k).length:Int)):=by omega
    obtain ⟨ga,gc,rfl,-⟩:=g2.1.form
    clear g0 g1 g2 gi
    go_wp2
    go_end0
    refine ⟨rfl,hT.out,?_⟩
    rw [HX.out,HE.out]
    exact BoxP.mono hP.out fun k h=>h.imp id fun h=>Nat.le_trans HN2.out h

end Go.Proofs.YtnlhkgoppjejeaaDoor
