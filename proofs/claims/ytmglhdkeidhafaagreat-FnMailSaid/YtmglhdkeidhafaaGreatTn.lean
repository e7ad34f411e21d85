/- The proof's texts, part 23. -/
import Derived.Test.YtmglhdkeidhafaaGreatTk
namespace Go.Proofs.YtmglhdkeidhafaaGreat
open Go.RowKit
set_option linter.unusedVariables false
set_option linter.unusedSimpArgs false
set_option maxHeartbeats 8000000
set_option maxRecDepth 100000
/- What agq of package spec does. -/
theorem Zq:(Tryz.f106.body.bind (bR 0)).all (fun o=>dW o 15 [0,1,2,3,4,5,6,7,8,9,10,11,12,13,14] [13,14] [15] 0)=true:=by kernel_rfl
theorem Zr:(Tryz.f106.body.bind (bR 1)).all (fun o=>dW o 20 [0,2,3,4,5,6,7,9,10,11,12,13,14,15,1,8,16,17,18,19] [14,15,16,19] [17,20] 0)=true:=by kernel_rfl
theorem QH {w:World} {g:Nat} {t:TypeId} {c0 c1:Value} (h:w.heap[g]?=some (.cells #[c0,c1] t (0,0))):w.cell? ⟨g,0,none⟩=some c0∧w.cell? ⟨g,1,none⟩=some c1:=⟨cell_of_row w g 0 _ t (0,0) h,cell_of_row w g 1 _ t (0,0) h⟩
theorem Rd.drop' {α:Type} {sz b off c k:Nat} {RE:World→List Value→α→Prop} {w:World} {m:List α} (h:Rd sz RE w (.slice (some ⟨b,off,none⟩) m.length c) m) (hk:k≤m.length):Rd sz RE w (.slice (if c=k then some ⟨b,off,none⟩ else some ⟨b,off+k * sz,none⟩) (m.length - k) (c - k)) (m.drop k):=by
 by_cases e:c=k
 ·have hc:m.length≤c:=by obtain ⟨_,_,_,e,h,-⟩:=h;cases e;exact h
  have hm:m.length=k:=by omega
  rw [if_pos e,hm,e,Nat.sub_self,List.drop_eq_nil_of_le (by omega)]
  exact ⟨some ⟨b,off,none⟩,0,fun _=>[],by simp,by simp,by simp,(fun h=>by cases h),by simp,by simp⟩
 ·rw [if_neg e]
  exact h.drop hk
theorem Zt:(Tryz.f106.body.bind (bR 2)).all (fun o=>qj o 13 [0,2,3,4,5,7,8,1,6,9,10,11,12] [7,8,9,12] [6] [10,13] 0)=true:=by kernel_rfl
theorem Zu:(Tryz.f106.body.bind (bR 2)).all (fun o=>qj o 13 [0,2,3,4,5,7,1,8,6,9,10,11,12] [8,9,12] [6,7] [10,13] 0)=true:=by kernel_rfl
theorem Zv:(Tryz.f106.body.bind (bR 2)).all (fun o=>qj o 13 [0,2,3,4,5,7,1,6,8,9,10,11,12] [8,9,12] [6,7] [10,13] 0)=true:=by kernel_rfl
theorem Zw {w:World} {B n g m c:Nat} {e:TypeId} {sz:Nat} {xs:List Value} (h:w.ownsRow B e sz (.slice (some ⟨g,0,none⟩) m c) n xs):g < w.heap.size:=by
 rcases h.2 with ⟨h,-⟩ | ⟨g',cap,cur,h,-,hh,-⟩
 ·cases h
 ·cases h
  exact lt_of_heap hh
theorem J3 {w:World} {g:Nat} {cs:Array Value} {t:TypeId} (h:w.heap[g]?=some (.cells cs t (0,0))):∀ j u,cs.toList[j]?=some u→w.cell? ((⟨g,0,none⟩:Addr).add j)=some u:=by
 intro j u hu
 rw [Addr.add_lit,Nat.zero_add,cell_of_row _ _ _ _ _ (0,0) h]
 simpa using hu
theorem Zx {w:World} {g o j:Nat} {x:Value} (hf:∀ cur t,w.heap[g]?=some (.cells cur t (0,0))→o+7≤cur.size) (ht:Ty w g 34) (hj:j < 7) (h0:∃ cur,w.heap[g]?=some (.cells cur 34 (0,0))):(w.setCell ⟨g,o+j,none⟩ x).cell? ⟨g,o+j,none⟩=some x:=by
 obtain ⟨cur,hh⟩:=h0
 have hs:=hf cur _ hh
 rw [cell_of_row _ g (o+j) _ _ (0,0) (aJ hh),Array.getElem?_setIfInBounds_self_of_lt (by omega)]
/-- What went is put behind those that went. -/
theorem J4 {wb x:World} {S:Nat→Prop} {g o:Nat} {b0:aA} {gs:List bB} {xg:List Value} {da:Option Addr} {dn dc:Nat} {nu ns:Int} (hp:aK wb S g o b0) (hF:∀ k,wb.heap.size≤k→S k) (hD:Below wb.heap.size wb x)
  (hm:x.ownsRow wb.heap.size 70 2 (.slice da dn dc) (gs.length+1) (xg ++ [.int .i64 nu,.int .i64 ns])) {wy:World}
  (hx:∀ i m,gs[i]?=some m→∃ c,c.length=2∧wW wy c m∧∀ j y,c[j]?=some y→xg[i * 2+j]?=some y) (hxl:xg.length=gs.length * 2) (hi:ay nu∧ay ns) :
  aK (x.setCell ⟨g,o+5,none⟩ (.slice da dn dc)) S g o ⟨b0.name,b0.valid,b0.next,b0.seq,b0.ah,gs ++ [⟨nu,ns⟩],b0.lost⟩∧Turns wb (x.setCell ⟨g,o+5,none⟩ (.slice da dn dc)) S g o:=by
 have hp':=hp.below hD
 have hq:iY x (fun k=>wb.heap.size≤k) (.slice da dn dc) (gs ++ [⟨nu,ns⟩]):=by
  refine Ed (w0:=wy) (by rw [List.length_append];exact hm) (fun i m h=>?_) (fun k hk=>dP hm hk)
  by_cases hlt:i < gs.length
  ·rw [List.getElem?_append_left hlt] at h
   obtain ⟨c,h1,h2,h3⟩:=hx i m h
   refine ⟨c,h1,h2,fun j y hy=>?_⟩
   have:=h3 j y hy
   rw [List.getElem?_append_left (gs1 this).1]
   exact this
  ·rw [List.getElem?_append_right (by omega)] at h
   have hi0:i=gs.length:=by
    have:=(gs1 h).1
    simp at this
    omega
   subst hi0
   simp only [Nat.sub_self,List.getElem?_cons_zero,Option.some.injEq] at h
   subst h
   refine ⟨[.int .i64 nu,.int .i64 ns],rfl,⟨rfl,hi⟩,fun j y hy=>?_⟩
   rw [List.getElem?_append_right (by omega),show gs.length * 2+j - xg.length=j by omega]
   exact hy
 exact ⟨hp'.IG ((EF hq).mono hF),(nG hD).trans (lK (S':=S) hp' (by omega)) (fun k h=>.inl h)⟩
theorem Zy {wb x:World} {S:Nat→Prop} {g o i:Nat} {b0:aA} {ms:List aC} {ya yb:List Value} {da:Option Addr} {dn dc:Nat} (hp:aK wb S g o b0) (hD:Below wb.heap.size wb x)
  (hm:x.ownsRow wb.heap.size 72 4 (.slice da dn dc) (0+(ms.take i).length+(ms.drop (i+1)).length) ([] ++ ya ++ yb)) (hla:ya.length=(ms.take i).length * 4)
  (hx:∀ k m,(ms.take i)[k]?=some m→∃ c,c.length=4∧sj wb c m Any∧∀ j y,c[j]?=some y→ya[k * 4+j]?=some y) (hlb:yb.length=(ms.drop (i+1)).length * 4)
  (hy:∀ k m,(ms.drop (i+1))[k]?=some m→∃ c,c.length=4∧sj wb c m Any∧∀ j y,c[j]?=some y→yb[k * 4+j]?=some y) :
  aK (x.setCell ⟨g,o+4,none⟩ (.slice da dn dc)) (fun k=>S k∨wb.heap.size≤k) g o ⟨b0.name,b0.valid,b0.next,b0.seq,ms.take i ++ ms.drop (i+1),b0.au,b0.lost⟩∧Turns wb (x.setCell ⟨g,o+4,none⟩ (.slice da dn dc)) (fun k=>wb.heap.size≤k) g o:=by
 have hp':=hp.below hD
 have hq:jc x (fun k=>wb.heap.size≤k) (.slice da dn dc) (ms.take i ++ ms.drop (i+1)):=by
  refine O9 hm (by rw [List.length_append];omega) (fun k m h=>?_) (fun k hk=>dP hm hk)
  rw [List.nil_append]
  by_cases hlt:k < (ms.take i).length
  ·rw [List.getElem?_append_left hlt] at h
   obtain ⟨c,h1,h2,h3⟩:=hx k m h
   refine ⟨c,h1,uq h2 (fU hD),fun j y hy=>?_⟩
   have:=h3 j y hy
   rw [List.getElem?_append_left (gs1 this).1]
   exact this
  ·rw [List.getElem?_append_right (by omega)] at h
   obtain ⟨c,h1,h2,h3⟩:=hy _ m h
   refine ⟨c,h1,uq h2 (fU hD),fun j y hy=>?_⟩
   have:=h3 j y hy
   rw [List.getElem?_append_right (by omega),hla,show k * 4+j - (ms.take i).length * 4=(k - (ms.take i).length) * 4+j by omega]
   exact this
 exact ⟨hp'.O7 (hq.mono fun _ h=>.inr h) (fun _ h=>.inl h),(nG hD).trans (lK (S':=fun k=>wb.heap.size≤k) hp' (by omega)) (fun k h=>.inl h)⟩
theorem QI (g o i:Nat) (b:aA) (m:aC) (S:Nat→Prop) (w:World) (hp:aK w S g o b) (hm:b.ah[i]?=some m) (hml:b.ah.length≤2000000) (hgl:b.au.length≤2000000) :
  Calls Tryz.prog 106 #[.pointer (some ⟨g,o,none⟩),.int .i64 i] w fun e w'=>e=.returned (.tuple #[])∧Turns w w' S g o∧aK w' (fun k=>S k∨w.heap.size≤k) g o (aV b i):=by
 have HP:Hid (aK w S g o b):=hp
 have bE:g < w.heap.size:=hp.lt
 obtain ⟨u0,u1,u2,h0,h1,h2,hint,c0,c1,c2,c3,c4,c5,c6⟩:=hp.cells
 obtain ⟨mb,off,z1,mu,hv',hlm,f0,f1,f2,f3,-,uD,vK,sD⟩:=h1.v.cell i m hm
 have hil:i < b.ah.length:=(gs1 hm).1
 subst hv'
 have IY:(i:Int) < b.ah.length:=by omega
 have hzc:b.ah.length≤z1:=by obtain ⟨_,_,e,h,-⟩:=h1.v.form;cases e;exact h
 have HS:Hid (∀ w',Below w.heap.size w w'→((w'.cell? ⟨g,o+4,none⟩=some (.slice (some ⟨mb,off,none⟩) b.ah.length z1)∧w'.cell? ⟨g,o+3,none⟩=some (.int .i64 b.seq))∧w'.cell? ⟨mb,off+i * 4,none⟩=some (.int .i64 m.uid))):=fun w' h=>⟨⟨cell_later h c4,cell_later h c3⟩,cell_later h f0⟩
 have IM:Hid (ay m.uid∧ay b.seq):=⟨uD,hint.2.2.1⟩
 obtain ⟨i0,hi,hz0,hz1,hz2⟩:=info_parts AJ
 obtain ⟨j0,hj,hy0,hy1,hy2⟩:=info_parts yS
 have Ck:Hid (b.ah[i]?=some m):=hm
 clear h0 h1 h2 hint c0 c1 c2 c3 c4 c5 c6 hp f0 f1 f2 f3 uD vK sD
 go_enter Tryz.func106,Tryz.ntmps106
 go_upto_region 0 with fail
 refine eO 15 (S:=fun w'=>((w'.cell? ⟨g,o+4,none⟩=some (.slice (some ⟨mb,off,none⟩) b.ah.length z1)∧w'.cell? ⟨g,o+3,none⟩=some (.int .i64 b.seq))∧w'.cell? ⟨mb,off+i * 4,none⟩=some (.int .i64 m.uid))) (eH (by kernel_rfl) Zq) (by kernel_rfl) (HS.out _ (bd _ _)) (fun aj ahz=>?_)
 refine tks 0 0 5 aj ahz ?_
 refine tks 1 1 6 aj ahz ?_
 refine tks 2 2 7 aj ahz ?_
 refine tks 3 3 8 aj ahz ?_
 refine tks 4 4 9 aj ahz ?_
 refine tks 5 5 10 aj ahz ?_
 refine tks 6 6 11 aj ahz ?_
 refine tks 7 7 12 aj ahz ?_
 refine tks 8 8 13 aj ahz ?_
 refine tks 9 9 14 aj ahz ?_
 refine tks 10 10 15 aj ahz ?_
 refine tks 11 11 16 aj ahz ?_
 refine tks 12 12 17 aj ahz ?_
 refine cls 13 13 aj (by decide) rfl rfl (fun K hK=>?_)
 go_simp
 have AB:Below w.heap.size w (w.drew.alloc (.cells #[.int .i64 0,.int .i64 0] 70)):=(bd _ _).alloc (Nat.le_refl _) _
 have KG:(w.drew.alloc (.cells #[.int .i64 0,.int .i64 0] 70)).heap[w.heap.size]?=some (.cells #[.int .i64 0,.int .i64 0] 70 (0,0)):=aW w.drew _
 refine hK.out _ _ (HS.out _ AB) (fun ahz=>?_)
 clear hK K
 have QJ:((w.alloc (.cells #[.int .i64 m.uid,.int .i64 b.seq] 70)).drew).heap[w.heap.size]?=some (.cells #[.int .i64 m.uid,.int .i64 b.seq] 70 (0,0)):=aW w _
 have BS:Below w.heap.size w ((w.alloc (.cells #[.int .i64 m.uid,.int .i64 b.seq] 70)).drew):=(bn _ _).drew
 have J5:=ak QJ
 have Fh:=ak BS
 clear QJ
 obtain ⟨gz,gl⟩:=aZ KG
 obtain ⟨t0,t1⟩:=QH KG
 refine cls 14 14 aj (by decide) rfl rfl (fun K hK=>?_)
 go_simp
 refine hK.out _ _ (HS.out _ BS) (fun ahz=>?_)
 clear hK K
 refine eP aj ?_
 clear AB KG gz gl t0 t1 BS
 have HSL:Hid (∀ w',Below w.heap.size w w'→w'.cell? ⟨g,o+4,none⟩=some (.slice (some ⟨mb,off,none⟩) b.ah.length z1)):=fun w' h=>(HS.out w' h).1.1
 clear HS
 go_upto_region 1 with fail
 generalize ((w.alloc (.cells #[.int .i64 m.uid,.int .i64 b.seq] 70)).drew)=w1 at J5 Fh ⊢
 have gV:Hid (aK w1.drew S g o b):=(HP.out.below Fh.out).below (bd _ _)
 have HT1:Hid (Turns w w1.drew S g o):=nG (Fh.out.drew)
 have QK:Hid _:=aB (bd _ _) J5.out
 have sg:w.heap.size < w1.heap.size:=lt_of_heap J5.out
 obtain ⟨u0,u1,u2,h0,h1,h2,hint,c0,c1,c2,c3,c4,c5,c6⟩:=gV.out.cells
 have hv1:u1=.slice (some ⟨mb,off,none⟩) b.ah.length z1:=by
  have:=HSL.out _ ((Fh.out).drew)
  rw [c4] at this
  exact Option.some.inj this
 subst hv1
 have vH:Hid (∀ x,Below w1.drew.heap.size w1.drew x→Rd 4 (IJ w1.drew) x (.slice (some ⟨mb,off,none⟩) b.ah.length z1) b.ah):=fun x h=>h1.at h
 have dF:Hid (∀ w',Below w1.drew.heap.size w1.drew w'→(w'.cell? ⟨g,o+4,none⟩=some (.slice (some ⟨mb,off,none⟩) b.ah.length z1))):=fun w' h=>cell_later h c4
 have hti:i≤b.ah.length:=by omega
 have hiz:i≤z1:=by omega
 have hwr:IntKind.i64.wrap ((i:Int)+1)=(i:Int)+1:=by simp [IntKind.wrap,IntKind.bits,IntKind.signed];omega
 have htn:((i:Int)+1).toNat=i+1:=by omega
 have hb0:(0:Int)≤(i:Int)+1:=by omega
 have hb1:(i:Int)+1≤b.ah.length:=by omega
 have htd:i+1≤b.ah.length:=by omega
 have e1:(b.ah.take i).length=i:=by simp;omega
 have e2:(b.ah.drop (i+1)).length=b.ah.length - (i+1):=by simp
 have hl1:0+(b.ah.take i).length≤maxLen:=by rw [e1];unfold maxLen;omega
 have hl2:(0+(b.ah.take i).length) * 48≤140737488355328:=by rw [e1];omega
 have hl3:0+(b.ah.take i).length+(b.ah.drop (i+1)).length≤maxLen:=by rw [e1,e2];unfold maxLen;omega
 have hl4:(0+(b.ah.take i).length+(b.ah.drop (i+1)).length) * 48≤140737488355328:=by rw [e1,e2];omega
 clear h0 h1 h2 hint c0 c1 c2 c3 c4 c5 c6 e1 e2 HP
 have sF:g < w1.drew.heap.size:=gV.out.lt
 have sg1:w.heap.size < w1.drew.heap.size:=sg
 refine eO 17 (S:=fun w'=>(w'.cell? ⟨g,o+4,none⟩=some (.slice (some ⟨mb,off,none⟩) b.ah.length z1))) (eH (by kernel_rfl) Zr) (by kernel_rfl) (dF.out _ (Below.refl _ _)) (fun aj ahz=>?_)
 refine tks 0 0 18 aj ahz ?_
 refine tks 1 2 20 aj ahz ?_
 refine tks 2 3 21 aj ahz ?_
 refine tks 3 4 22 aj ahz ?_
 refine tks 4 5 23 aj ahz ?_
 refine tks 5 6 24 aj ahz ?_
 refine tks 6 7 25 aj ahz ?_
 refine tks 7 9 27 aj ahz ?_
 refine tks 8 10 28 aj ahz ?_
 refine tks 9 11 29 aj ahz ?_
 refine tks 10 12 30 aj ahz ?_
 refine tks 11 13 31 aj ahz ?_
 refine tks 12 14 32 aj ahz ?_
 refine tks 13 15 33 aj ahz ?_
 refine cls 14 1 aj (by decide) rfl rfl (fun K hK=>?_)
 go_simp
 have AB:Below w1.drew.heap.size w1.drew (w1.drew.alloc (.cells #[] 72)):=bn _ _
 have xY:=ak (kJ w1.drew 72 4 w1.drew.heap.size (Nat.le_refl _))
 refine hK.out _ _ (dF.out _ AB) (fun ahz=>?_)
 clear hK K
 refine cls 15 8 aj (by decide) rfl rfl (fun K hK=>?_)
 refine dR (by kernel_rfl) (Pb (B:=w1.drew.heap.size) 26 rfl (.tmp 19) (.tmp 25) rfl xY.out ((vH.out _ AB).take hti) (Bv _) Tryz.underlying31 hi hz0 hz1 hz2 rfl (by omega) rfl rfl hl1 hl2 AB.size ?_)
 intro V8 x8 ya qM QM BN jZ zD
 have D8:Below w1.drew.heap.size w1.drew x8:=mI AB jZ (fun j hj=>dP xY.out hj)
 obtain ⟨ma,mn,mc,Ji⟩:=jC qM
 subst Ji
 refine hK.out _ _ (dF.out _ D8) (fun ahz=>?_)
 clear hK K
 refine cls 16 16 aj (by decide) rfl rfl (fun K hK=>?_)
 refine dR (by kernel_rfl) (Pb (B:=w1.drew.heap.size) 34 rfl (.tmp 26) (.tmp 33) rfl qM ((vH.out _ D8).drop' htd) (Bv _) Tryz.underlying31 hi hz0 hz1 hz2 rfl (by omega) rfl rfl hl3 hl4 D8.size ?_)
 intro V16 QN yb J6 QO QS QT Zz
 have zF:Below w1.drew.heap.size w1.drew QN:=mI D8 QT (fun j hj=>dP qM hj)
 obtain ⟨na,nn,nc,ZA⟩:=jC J6
 subst ZA
 refine hK.out _ _ (dF.out _ zF) (fun ahz=>?_)
 clear hK K
 refine gH (S':=fun w'=>True) 17 20 aj (by decide) (trivial) (fun ahz=>?_)
 refine tks 17 17 35 aj ahz ?_
 refine tks 18 18 36 aj ahz ?_
 have HQ:Hid _:=Zy gV.out zF J6 QM BN QO QS
 have gc:=gV.out.below zF
 obtain ⟨v0,v1,v2,-,-,-,-,k0,k1,k2,k3,k4,k5,k6⟩:=gc.cells
 have gz:=gc.open
 have gl:=gc.lt
 have J7:=ak (cO (k:=g) (i:=o+4) (v:=.slice na nn nc) (aB zF QK.out) (by omega))
 refine cls 19 19 aj (by decide) rfl rfl (fun K hK=>?_)
 go_simp
 refine hK.out _ _ (trivial) (fun ahz=>?_)
 clear hK K
 refine eP aj ?_
 clear gc gz gl k0 k1 k2 k3 k4 k5 k6 BN QM jZ zD QS QO QT Zz qM J6 D8 AB xY vH dF hl1 hl2 hl3 hl4 hiz hwr htn hb0 hb1 gV QK
 go_upto_region 2 with fail
 have ZB:=ak zF
 clear zF
 generalize QN.setCell ⟨g,o+4,none⟩ (.slice na nn nc)=w2 at HQ J7 ⊢
 have jJ:Hid (aK w2.drew (fun k=>S k∨w1.drew.heap.size≤k) g o _):=HQ.out.1.below (bd _ _)
 have HT2:Hid (Turns w w2.drew S g o):=Turns.trans (Turns.trans HT1.out HQ.out.2 (fun k h=>.inr (Nat.le_trans HT1.out.1 h))) (nG (S:=S) (bd _ _)) (fun k h=>.inl h)
 have dB:=ak (aB (bd _ _) J7.out)
 have uI:Hid (w.heap.size≤w1.drew.heap.size):=HT1.out.1
 have mJ:Hid (w1.drew.heap.size≤w2.drew.heap.size):=HQ.out.2.1
 clear HQ J7 HT1 ZB
 go_cut [4] (fun s wx=>s=.pointer (some ⟨w.heap.size,0,none⟩)∧Hid (aK wx (fun k=>S k∨w1.drew.heap.size≤k) g o ⟨b.name,b.valid,b.next,b.seq,b.ah.take i ++ b.ah.drop (i+1),b.au ++ [⟨m.uid,b.seq⟩],b.lost⟩)∧Hid (Turns w2.drew wx (fun k=>S k∨w1.drew.heap.size≤k) g o))
 case first =>
  obtain ⟨v0,v1,v2,g0,g1,g2,gi,c0,c1,c2,c3,c4,c5,c6⟩:=jJ.out.cells
  simp only at c0 c1 c2 c3 c4 c5 c6 g0 g1 g2 gi
  obtain ⟨ga,gc,rfl,-⟩:=g2.1.form
  have vV:Hid (∀ x,Below w2.drew.heap.size w2.drew x→dD x (.slice ga b.au.length gc) b.au):=fun x h=>g2.1.below gU h
  obtain ⟨t0,t1⟩:=QH dB.out
  have HS2:Hid (∀ w',Below w2.drew.heap.size w2.drew w'→(w'.cell? ⟨g,o+5,none⟩=some (.slice ga b.au.length gc)∧w'.cell? ⟨w.heap.size,0,none⟩=some (.int .i64 m.uid)∧w'.cell? ⟨w.heap.size,1,none⟩=some (.int .i64 b.seq))):=fun w' h=>⟨cell_later h c5,cell_later h t0,cell_later h t1⟩
  have hg1:b.au.length≤maxLen:=by unfold maxLen;omega
  have hg2:b.au.length * 16≤140737488355328:=by omega
  have hg3:b.au.length+1≤maxLen:=by unfold maxLen;omega
  have hg4:(b.au.length+1) * 16≤140737488355328:=by omega
  have QU:=jJ.out.lt
  have DZ:=lt_of_heap dB.out
  clear g0 g1 g2 gi c0 c1 c2 c3 c4 c5 c6 t0 t1
  refine G7 10 (S:=fun w'=>(w'.cell? ⟨g,o+5,none⟩=some (.slice ga b.au.length gc)∧w'.cell? ⟨w.heap.size,0,none⟩=some (.int .i64 m.uid)∧w'.cell? ⟨w.heap.size,1,none⟩=some (.int .i64 b.seq))) (tJ (by kernel_rfl) Zt) (tJ (by kernel_rfl) Zu) (tJ (by kernel_rfl) Zv) (by kernel_rfl) (HS2.out _ (Below.refl _ _)) (fun aj uE BJ ahz=>?_)
  have BK:=ak aj
  have oG:=ak uE
  have Jc:=ak BJ
  clear uE BJ
  have D0:Hid (Below w2.drew.heap.size w2.drew w2.drew):=Below.refl _ _
  generalize w2.drew=wb at *
  refine dL 0 0 37 aj ahz ?_
  refine dL 1 2 39 aj ahz ?_
  refine dL 2 3 40 aj ahz ?_
  refine dL 3 4 41 aj ahz ?_
  refine dL 4 5 42 aj ahz ?_
  refine dL 5 7 44 aj ahz ?_
  refine Ay 6 [1,8] (by kernel_rfl) (by decide) (by decide) (by simp) ?_
  refine (jo.cons [0,2,3,4,5,7,1,8,6,9,10,11,12] rfl (by decide) (by decide) (fun K hK=>?_) (jo.cons [0,2,3,4,5,7,8,1,6,9,10,11,12] rfl (by decide) (by decide) (fun K hK=>?_) jo.nil))
  ·have aj:=oG.out
   go_simp
   have QV:Below wb.heap.size wb (wb.alloc (.cells #[] 70)):=bn _ _
   have D1:Hid (Below wb.heap.size wb (wb.alloc (.cells #[] 70))):=Below.step D0.out QV
   have Cm:Hid _:=kJ wb 70 2 wb.heap.size D0.out.size
   refine hK.out _ _ (HS2.out _ D1.out) (fun ahz=>?_)
   clear hK K QV
   generalize wb.alloc (.cells #[] 70)=y1 at ahz D1 Cm ⊢
   refine Ay 7 [6,8] (by kernel_rfl) (by decide) (by decide) (by simp) ?_
   refine (jo.cons [0,2,3,4,5,7,1,6,8,9,10,11,12] rfl (by decide) (by decide) (fun K hK=>?_) (jo.cons [0,2,3,4,5,7,1,8,6,9,10,11,12] rfl (by decide) (by decide) (fun K hK=>?_) jo.nil))
   ·have aj:=Jc.out
    refine dR (by kernel_rfl) (jX (B:=wb.heap.size) 43 rfl (.tmp 38) (.tmp 42) rfl Cm.out (vV.out _ D1.out) (AO _) Tryz.underlying32 hj hy0 hy1 hy2 rfl (by omega) rfl rfl hg1 hg2 D1.out.size ?_)
    intro V2 y2 xg hO2 hX2 hG2 hB2
    have Cn:Hid _:=hX2
    have Co:Hid (xg.length=b.au.length * 2):=hO2.1
    have ZC:y1.grownBy y2 (some (wb.heap.size)):=hG2
    have D2:Hid (Below wb.heap.size wb y2):=kK D1.out ZC (dP Cm.out rfl)
    have ZE:Hid _:=hO2
    obtain ⟨qa,qn,qc,hV2⟩:=jC hO2
    subst hV2
    refine hK.out _ _ (HS2.out _ D2.out) (fun ahz=>?_)
    clear hK K hG2 hB2 hO2 hX2
    refine fQ 8 8 aj (by decide) rfl rfl (fun K hK=>?_)
    go_simp
    have J8:Below y2.heap.size y2 (y2.alloc (.cells #[.int .i64 m.uid,.int .i64 b.seq] 70)):=bn _ _
    have D3:Hid (Below wb.heap.size wb (y2.alloc (.cells #[.int .i64 m.uid,.int .i64 b.seq] 70))):=Below.step D2.out J8
    have J9:Hid _:=own_below ZE.out J8
    have QW:Hid ((y2.alloc (.cells #[.int .i64 m.uid,.int .i64 b.seq] 70)).heap[y2.heap.size]?=some (.cells #[.int .i64 m.uid,.int .i64 b.seq] 70 (0,0))):=aW y2 _
    refine hK.out _ _ (HS2.out _ D3.out) (fun ahz=>?_)
    clear hK K J8
    generalize y2.alloc (.cells #[.int .i64 m.uid,.int .i64 b.seq] 70)=y3 at ahz D3 J9 QW ⊢
    refine fQ 9 9 aj (by decide) rfl rfl (fun K hK=>?_)
    refine dR (by kernel_rfl) (zA 46 rfl (.tmp 43) (.tmp 45) rfl J9.out Tryz.underlying32 hj hy0 hy1 hy2 rfl (by omega) rfl [.int .i64 m.uid,.int .i64 b.seq] rfl ⟨y2.heap.size,0,none⟩ 1 rfl (J3 QW.out) EC hg3 hg4 D3.out.size ?_)
    intro V4 y4 hO4 hG4 hB4
    obtain ⟨da,dn,dc,pQ⟩:=jC hO4
    subst pQ
    have D4:Hid (Below wb.heap.size wb y4):=mI D3.out hG4 (fun j hj=>dP J9.out hj)
    have ZF:Hid _:=hO4
    refine hK.out _ _ (HS2.out _ D4.out) (fun ahz=>?_)
    clear hK K hG4 hB4 hO4
    refine yP (S':=fun _=>True) 10 13 (by decide) trivial (fun ahz=>?_)
    refine dL 10 10 47 aj ahz ?_
    refine dL 11 11 48 aj ahz ?_
    refine fQ 12 12 aj (by decide) rfl rfl (fun K hK=>?_)
    have HQ:=J4 jJ.out (fun k h=>.inr (Nat.le_trans mJ.out h)) D4.out ZF.out Cn.out Co.out IM.out
    have qN:=ak HQ.1
    have oH:=ak HQ.2
    clear HQ
    have gc:=jJ.out.below D4.out
    obtain ⟨v0,v1,v2,-,-,-,-,k0,k1,k2,k3,k4,k5,k6⟩:=gc.cells
    have gz:=gc.open
    have gl:=gc.lt
    go_simp
    refine hK.out _ _ trivial (fun ahz=>?_)
    clear hK K
    refine vo aj ?_
    go_wp2
    all_goals go_meet
    all_goals exact ⟨rfl,qN.out,oH.out⟩
   ·have aj:=oG.out
    go_simp
    have Ka:Below y1.heap.size y1 (y1.alloc (.cells #[.int .i64 m.uid,.int .i64 b.seq] 70)):=bn _ _
    have D5:Hid (Below wb.heap.size wb (y1.alloc (.cells #[.int .i64 m.uid,.int .i64 b.seq] 70))):=Below.step D1.out Ka
    have hne5:y1.heap.size≠wb.heap.size:=Nat.ne_of_gt (Zw Cm.out)
    have Kc:Hid _:=own_below Cm.out Ka
    have QX:Hid ((y1.alloc (.cells #[.int .i64 m.uid,.int .i64 b.seq] 70)).heap[y1.heap.size]?=some (.cells #[.int .i64 m.uid,.int .i64 b.seq] 70 (0,0))):=aW y1 _
    refine hK.out _ _ (HS2.out _ D5.out) (fun ahz=>?_)
    clear hK K Ka
    generalize y1.alloc (.cells #[.int .i64 m.uid,.int .i64 b.seq] 70)=y5 at ahz D5 Kc QX ⊢
    refine fQ 8 6 aj (by decide) rfl rfl (fun K hK=>?_)
    refine dR (by kernel_rfl) (jX (B:=wb.heap.size) 43 rfl (.tmp 38) (.tmp 42) rfl Kc.out (vV.out _ D5.out) (AO _) Tryz.underlying32 hj hy0 hy1 hy2 rfl (by omega) rfl rfl hg1 hg2 D5.out.size ?_)
    intro V6 y6 xg iI rP fJ kL
    have Cn:Hid _:=rP
    have Co:Hid (xg.length=b.au.length * 2):=iI.1
    have QY:y5.grownBy y6 (some (wb.heap.size)):=fJ
    have D6:Hid (Below wb.heap.size wb y6):=kK D5.out QY (dP Kc.out rfl)
    have ZG:Hid _:=tT QY QX.out hne5
    have QZ:Hid _:=iI
    obtain ⟨qa,qn,qc,ZH⟩:=jC iI
    subst ZH
    refine hK.out _ _ (HS2.out _ D6.out) (fun ahz=>?_)
    clear hK K fJ kL iI rP
    refine fQ 9 9 aj (by decide) rfl rfl (fun K hK=>?_)
    refine dR (by kernel_rfl) (zA 46 rfl (.tmp 43) (.tmp 45) rfl QZ.out Tryz.underlying32 hj hy0 hy1 hy2 rfl (by omega) rfl [.int .i64 m.uid,.int .i64 b.seq] rfl ⟨y1.heap.size,0,none⟩ 1 rfl (J3 ZG.out) EC hg3 hg4 D6.out.size ?_)
    intro V7 y7 xU uH JR
    obtain ⟨da,dn,dc,ZI⟩:=jC xU
    subst ZI
    have D7:Hid (Below wb.heap.size wb y7):=mI D6.out uH (fun j hj=>dP QZ.out hj)
    have ZJ:Hid _:=xU
    refine hK.out _ _ (HS2.out _ D7.out) (fun ahz=>?_)
    clear hK K uH JR xU
    refine yP (S':=fun _=>True) 10 13 (by decide) trivial (fun ahz=>?_)
    refine dL 10 10 47 aj ahz ?_
    refine dL 11 11 48 aj ahz ?_
    refine fQ 12 12 aj (by decide) rfl rfl (fun K hK=>?_)
    have HQ:=J4 jJ.out (fun k h=>.inr (Nat.le_trans mJ.out h)) D7.out ZJ.out Cn.out Co.out IM.out
    have qN:=ak HQ.1
    have oH:=ak HQ.2
    clear HQ
    have gc:=jJ.out.below D7.out
    obtain ⟨v0,v1,v2,-,-,-,-,k0,k1,k2,k3,k4,k5,k6⟩:=gc.cells
    have gz:=gc.open
    have gl:=gc.lt
    go_simp
    refine hK.out _ _ trivial (fun ahz=>?_)
    clear hK K
    refine vo aj ?_
    go_wp2
    all_goals go_meet
    all_goals exact ⟨rfl,qN.out,oH.out⟩
  ·have aj:=BK.out
   go_simp
   have Q0:Below wb.heap.size wb (wb.alloc (.cells #[.int .i64 m.uid,.int .i64 b.seq] 70)):=bn _ _
   have D8:Hid (Below wb.heap.size wb (wb.alloc (.cells #[.int .i64 m.uid,.int .i64 b.seq] 70))):=Below.step D0.out Q0
   have Ke:Hid ((wb.alloc (.cells #[.int .i64 m.uid,.int .i64 b.seq] 70)).heap[wb.heap.size]?=some (.cells #[.int .i64 m.uid,.int .i64 b.seq] 70 (0,0))):=aW wb _
   refine hK.out _ _ (HS2.out _ D8.out) (fun ahz=>?_)
   clear hK K Q0
   generalize wb.alloc (.cells #[.int .i64 m.uid,.int .i64 b.seq] 70)=y8 at ahz D8 Ke ⊢
   refine fQ 7 1 aj (by decide) rfl rfl (fun K hK=>?_)
   go_simp
   have uJ:Below y8.heap.size y8 (y8.alloc (.cells #[] 70)):=bn _ _
   have D9:Hid (Below wb.heap.size wb (y8.alloc (.cells #[] 70))):=Below.step D8.out uJ
   have ZK:wb.heap.size≠y8.heap.size:=Nat.ne_of_lt (lt_of_heap Ke.out)
   have Q5:Hid _:=aB uJ Ke.out
   have Kg:Hid _:=kJ y8 70 2 wb.heap.size D8.out.size
   refine hK.out _ _ (HS2.out _ D9.out) (fun ahz=>?_)
   clear hK K uJ
   generalize y8.alloc (.cells #[] 70)=y9 at ahz D9 Kg Q5 ⊢
   refine fQ 8 6 aj (by decide) rfl rfl (fun K hK=>?_)
   refine dR (by kernel_rfl) (jX (B:=wb.heap.size) 43 rfl (.tmp 38) (.tmp 42) rfl Kg.out (vV.out _ D9.out) (AO _) Tryz.underlying32 hj hy0 hy1 hy2 rfl (by omega) rfl rfl hg1 hg2 D9.out.size ?_)
   intro V10 Q6 xg vW Q7 Cq ZL
   have Cn:Hid _:=Q7
   have Co:Hid (xg.length=b.au.length * 2):=vW.1
   have Q8:y9.grownBy Q6 (some (y8.heap.size)):=Cq
   have Kh:Hid (Below wb.heap.size wb Q6):=kK D9.out Q8 (dP Kg.out rfl)
   have ZM:Hid _:=tT Q8 Q5.out ZK
   have Q9:Hid _:=vW
   obtain ⟨qa,qn,qc,ZN⟩:=jC vW
   subst ZN
   refine hK.out _ _ (HS2.out _ Kh.out) (fun ahz=>?_)
   clear hK K Cq ZL vW Q7
   refine fQ 9 9 aj (by decide) rfl rfl (fun K hK=>?_)
   refine dR (by kernel_rfl) (zA 46 rfl (.tmp 43) (.tmp 45) rfl Q9.out Tryz.underlying32 hj hy0 hy1 hy2 rfl (by omega) rfl [.int .i64 m.uid,.int .i64 b.seq] rfl ⟨wb.heap.size,0,none⟩ 1 rfl (J3 ZM.out) EC hg3 hg4 Kh.out.size ?_)
   intro V11 ZO Ki Ra ZP
   obtain ⟨da,dn,dc,ZQ⟩:=jC Ki
   subst ZQ
   have vO:Hid (Below wb.heap.size wb ZO):=mI Kh.out Ra (fun j hj=>dP Q9.out hj)
   have ZR:Hid _:=Ki
   refine hK.out _ _ (HS2.out _ vO.out) (fun ahz=>?_)
   clear hK K Ra ZP Ki
   refine yP (S':=fun _=>True) 10 13 (by decide) trivial (fun ahz=>?_)
   refine dL 10 10 47 aj ahz ?_
   refine dL 11 11 48 aj ahz ?_
   refine fQ 12 12 aj (by decide) rfl rfl (fun K hK=>?_)
   have HQ:=J4 jJ.out (fun k h=>.inr (Nat.le_trans mJ.out h)) vO.out ZR.out Cn.out Co.out IM.out
   have qN:=ak HQ.1
   have oH:=ak HQ.2
   clear HQ
   have gc:=jJ.out.below vO.out
   obtain ⟨v0,v1,v2,-,-,-,-,k0,k1,k2,k3,k4,k5,k6⟩:=gc.cells
   have gz:=gc.open
   have gl:=gc.lt
   go_simp
   refine hK.out _ _ trivial (fun ahz=>?_)
   clear hK K
   refine vo aj ?_
   go_wp2
   all_goals go_meet
   all_goals exact ⟨rfl,qN.out,oH.out⟩
 case rest =>
  obtain ⟨rfl,Kj,HT3⟩:=hcut
  rename World=>w3
  have HT:Hid (Turns w w3 S g o):=Turns.trans HT2.out HT3.out (fun k h=>h.imp id fun h=>Nat.le_trans uI.out h)
  have hgs:(b.au ++ [(⟨m.uid,b.seq⟩:bB)]).length≤2000001:=by simp;omega
  have HX:Hid (aV b i=⟨b.name,b.valid,b.next,b.seq,b.ah.take i ++ b.ah.drop (i+1),(dw b.lost (b.au ++ [⟨m.uid,b.seq⟩])).2,(dw b.lost (b.au ++ [⟨m.uid,b.seq⟩])).1⟩):=by
   show aV b i=_
   unfold aV
   rw [Ck.out]
  clear jJ HT2 dB HT3
  generalize (b.au ++ [(⟨m.uid,b.seq⟩:bB)])=gs at Kj HX hgs
  go_wp2
  go_loopw [49] (fun _ wr=>∃ (k:Nat) (lk:Int),k≤gs.length∧Hid (dw b.lost gs=dw lk (gs.drop k))∧Hid (aK wr (fun k=>S k∨w1.drew.heap.size≤k) g o ⟨b.name,b.valid,b.next,b.seq,b.ah.take i ++ b.ah.drop (i+1),gs.drop k,lk⟩)∧Hid (Turns w wr S g o)) (fun _ wr=>oo wr g o)
  case atStart=>exact ⟨0,b.lost,Nat.zero_le _,rfl,Kj.out,HT.out⟩
  case round =>
   obtain ⟨k,lk,hk,hTr,hP,hT⟩:=hrel
   clear Kj HT
   obtain ⟨v0,v1,v2,g0,g1,g2,gi,c0,c1,c2,c3,c4,c5,c6⟩:=hP.out.cells
   simp only at c0 c1 c2 c3 c4 c5 c6 g0 g1 g2 gi
   have hz:=hP.out.open
   have hl:=hP.out.lt
   have HG2:Hid (fM wr (fun k=>S k∨w1.drew.heap.size≤k) v2 (gs.drop k)):=g2
   have hdl:(gs.drop k).length=gs.length - k:=by simp
   by_cases h40:40 < (gs.drop k).length
   ·obtain ⟨x,hx⟩:∃ x,(gs.drop k)[0]?=some x:=⟨(gs.drop k)[0],aL (by omega)⟩
    obtain ⟨bq,qo,gc,rfl,hlq,q0,q1,qi0,ZT⟩:=g2.1.cell 0 x hx
    have hgc:(gs.drop k).length≤gc:=by obtain ⟨_,_,e,h,-⟩:=g2.1.form;cases e;exact h
    have ZU:(40:Int) < ((gs.drop k).length:Int):=by omega
    have hi0:(0:Int) < ((gs.drop k).length:Int):=by omega
    rw [Nat.zero_mul,Nat.add_zero] at q0 q1
    have mo:Hid (gs[k]?=some x):=by
     show gs[k]?=some x
     rw [List.getElem?_drop,Nat.add_zero] at hx
     exact hx
    have uK:Hid (aK (wr.setCell ⟨g,o+6,none⟩ (.int .i64 x.seq)) (fun k=>S k∨w1.drew.heap.size≤k) g o _):=hP.out.EI x.seq ZT
    have Fj:Hid (Turns w (wr.setCell ⟨g,o+6,none⟩ (.int .i64 x.seq)) S g o):=Turns.trans hT.out (lK (S':=S) hP.out (by omega)) (fun k h=>.inl h)
    have Cr:Hid (dw b.lost gs=dw x.seq (gs.drop (k+1))):=by
     show dw b.lost gs=_
     rw [hTr.out,O6 mo.out (by omega)]
    have xZ:Hid (oo wr g o=(gs.drop k).length):=by show oo wr g o=_;unfold oo;rw [c5]
    have QL:Hid (gs.drop k=(gs.drop k)):=rfl
    clear g0 g1 g2 gi hx
    go_upto_region 5 with fail
    clear c0 c1 c2 c3 c4 c5 c6 hz hl q0 q1 hlq
    generalize wr.setCell ⟨g,o+6,none⟩ (.int .i64 x.seq)=wl at uK Fj ⊢
    obtain ⟨v0,v1,v2,g0,g1,g2,gi,c0,c1,c2,c3,c4,c5,c6⟩:=uK.out.cells
    simp only at c0 c1 c2 c3 c4 c5 c6 g0 g1 g2 gi
    have hz:=uK.out.open
    have hl:=uK.out.lt
    obtain ⟨ga,gc',rfl,Rb,-⟩:=g2.1.form
    have hga:∃ vX vY,ga=some ⟨vX,vY,none⟩:=by
     obtain ⟨x',hx'⟩:∃ x,(gs.drop k)[0]?=some x:=⟨(gs.drop k)[0],aL (by omega)⟩
     obtain ⟨vX,vY,_,e,-⟩:=g2.1.cell 0 x' hx'
     cases e
     exact ⟨vX,vY,rfl⟩
    obtain ⟨vX,vY,rfl⟩:=hga
    have hone:¬ gc'=1:=by omega
    have h1l:(1:Int)≤((gs.drop k).length:Int):=by omega
    have ZV:Hid (fM wl (fun k=>S k∨w1.drew.heap.size≤k) (.slice (some ⟨vX,vY+2,none⟩) (gs.length - k - 1) (gc' - 1)) (gs.drop (k+1))):=by
     have:=Pg g2 (by omega)
     rw [List.drop_drop,List.length_drop] at this
     exact this
    have Rc:Hid (aK (wl.setCell ⟨g,o+5,none⟩ (.slice (some ⟨vX,vY+2,none⟩) (gs.length - k - 1) (gc' - 1))) (fun k=>S k∨w1.drew.heap.size≤k) g o _):=uK.out.IG ZV.out
    have ZW:Hid (Turns w (wl.setCell ⟨g,o+5,none⟩ (.slice (some ⟨vX,vY+2,none⟩) (gs.length - k - 1) (gc' - 1))) S g o):=Turns.trans Fj.out (lK (S':=S) uK.out (by omega)) (fun k h=>.inl h)
    have ZX:Hid (oo (wl.setCell ⟨g,o+5,none⟩ (.slice (some ⟨vX,vY+2,none⟩) (gs.length - k - 1) (gc' - 1))) g o=gs.length - k - 1):=by
     show oo _ g o=_
     obtain ⟨_,_,_,_,_,_,_,_,_,_,_,_,k5,_⟩:=Rc.out.cells
     unfold oo
     rw [Zx uK.out.fit uK.out.ty (by omega) (let ⟨cur,_,hh,_⟩:=uK.out;⟨cur,hh⟩)]
    clear g0 g1 g2 gi
    go_wp2
    go_roundw
    case rel=>exact ⟨k+1,x.seq,by omega,Cr.out,Rc.out,ZW.out⟩
    case measure=>rw [ZX.out,xZ.out,List.length_drop];omega
   ·have HE:Hid (dw b.lost gs=(lk,gs.drop k)):=by
     show dw b.lost gs=_
     rw [hTr.out,O5 (by omega)]
    have ZU:¬ ((40:Int) < ((gs.drop k).length:Int)):=by omega
    obtain ⟨ga,gc,rfl,-⟩:=g2.1.form
    clear g0 g1 g2 gi
    go_wp2
    go_end0
    refine ⟨rfl,hT.out,?_⟩
    rw [HX.out,HE.out]
    exact aK.mono hP.out fun k h=>h.imp id fun h=>Nat.le_trans uI.out h
end Go.Proofs.YtmglhdkeidhafaaGreat
