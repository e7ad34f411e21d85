/- The proof's texts, part 33. -/
import Derived.Test.YtlneebmlhblleaaGreatTu
namespace Go.Proofs.YtlneebmlhblleaaGreat
open Go.RowKit
set_option linter.unusedVariables false
set_option linter.unusedSimpArgs false
set_option maxHeartbeats 8000000
set_option maxRecDepth 100000
/- What ai8 of package spec does. -/
theorem aeu:(Tryz.f98.body.bind (bQ 0)).all (fun o=>dQ o 15 [0,1,2,3,4,5,6,7,8,9,10,11,12,13,14] [13,14] [15] 0)=true:=by kernel_rfl
theorem aev:(Tryz.f98.body.bind (bQ 1)).all (fun o=>dQ o 20 [0,2,3,4,5,6,7,9,10,11,12,13,14,15,1,8,16,17,18,19] [14,15,16,19] [17,20] 0)=true:=by kernel_rfl
theorem Vj {w:World} {g:Nat} {t:TypeId} {c0 c1:Value} (h:w.heap[g]?=some (.cells #[c0,c1] t (0,0))):w.cell? ⟨g,0,none⟩=some c0∧w.cell? ⟨g,1,none⟩=some c1:=⟨cell_of_row w g 0 _ t (0,0) h,cell_of_row w g 1 _ t (0,0) h⟩
theorem Rd.drop' {α:Type} {sz b off c k:Nat} {RE:World→List Value→α→Prop} {w:World} {m:List α} (h:Rd sz RE w (.slice (some ⟨b,off,none⟩) m.length c) m) (hk:k≤m.length):Rd sz RE w (.slice (if c=k then some ⟨b,off,none⟩ else some ⟨b,off+k * sz,none⟩) (m.length - k) (c - k)) (m.drop k):=by
 by_cases e:c=k
 ·have hc:m.length≤c:=by obtain ⟨_,_,_,e,h,-⟩:=h;cases e;exact h
  have hm:m.length=k:=by omega
  rw [if_pos e,hm,e,Nat.sub_self,List.drop_eq_nil_of_le (by omega)]
  exact ⟨some ⟨b,off,none⟩,0,fun _=>[],by simp,by simp,by simp,(fun h=>by cases h),by simp,by simp⟩
 ·rw [if_neg e]
  exact h.drop hk
theorem aew:(Tryz.f98.body.bind (bQ 2)).all (fun o=>qW o 13 [0,2,3,4,5,7,8,1,6,9,10,11,12] [7,8,9,12] [6] [10,13] 0)=true:=by kernel_rfl
theorem aex:(Tryz.f98.body.bind (bQ 2)).all (fun o=>qW o 13 [0,2,3,4,5,7,1,8,6,9,10,11,12] [8,9,12] [6,7] [10,13] 0)=true:=by kernel_rfl
theorem aey:(Tryz.f98.body.bind (bQ 2)).all (fun o=>qW o 13 [0,2,3,4,5,7,1,6,8,9,10,11,12] [8,9,12] [6,7] [10,13] 0)=true:=by kernel_rfl
theorem aez {w:World} {B n g m c:Nat} {e:TypeId} {sz:Nat} {xs:List Value} (h:w.ownsRow B e sz (.slice (some ⟨g,0,none⟩) m c) n xs):g < w.heap.size:=by
 rcases h.2 with ⟨h,-⟩ | ⟨g',cap,cur,h,-,hh,-⟩
 ·cases h
 ·cases h
  exact lt_of_heap hh
theorem Nk {w:World} {g:Nat} {cs:Array Value} {t:TypeId} (h:w.heap[g]?=some (.cells cs t (0,0))):∀ j u,cs.toList[j]?=some u→w.cell? ((⟨g,0,none⟩:Addr).add j)=some u:=by
 intro j u hu
 rw [Addr.add_lit,Nat.zero_add,cell_of_row _ _ _ _ _ (0,0) h]
 simpa using hu
theorem aeA {w:World} {g o j:Nat} {x:Value} (hf:∀ cur t,w.heap[g]?=some (.cells cur t (0,0))→o+7≤cur.size) (ht:Ty w g 37) (hj:j < 7) (h0:∃ cur,w.heap[g]?=some (.cells cur 37 (0,0))):(w.setCell ⟨g,o+j,none⟩ x).cell? ⟨g,o+j,none⟩=some x:=by
 obtain ⟨cur,hh⟩:=h0
 have hs:=hf cur _ hh
 rw [cell_of_row _ g (o+j) _ _ (0,0) (aP hh),Array.getElem?_setIfInBounds_self_of_lt (by omega)]
/-- What went is put behind those that went. -/
theorem Nl {wb x:World} {S:Nat→Prop} {g o:Nat} {b0:aD} {gs:List bf} {xg:List Value} {da:Option Addr} {dn dc:Nat} {nu ns:Int} (hp:aN wb S g o b0) (hF:∀ k,wb.heap.size≤k→S k) (hD:Below wb.heap.size wb x)
  (hm:x.ownsRow wb.heap.size 126 2 (.slice da dn dc) (gs.length+1) (xg ++ [.int .i64 nu,.int .i64 ns])) {wy:World}
  (hx:∀ i m,gs[i]?=some m→∃ c,c.length=2∧xS wy c m∧∀ j y,c[j]?=some y→xg[i * 2+j]?=some y) (hxl:xg.length=gs.length * 2) (hi:aB nu∧aB ns) :
  aN (x.setCell ⟨g,o+5,none⟩ (.slice da dn dc)) S g o ⟨b0.name,b0.valid,b0.next,b0.seq,b0.ah,gs ++ [⟨nu,ns⟩],b0.lost⟩∧Turns wb (x.setCell ⟨g,o+5,none⟩ (.slice da dn dc)) S g o:=by
 have hp':=hp.below hD
 have hq:fB x (fun k=>wb.heap.size≤k) (.slice da dn dc) (gs ++ [⟨nu,ns⟩]):=by
  refine FU (w0:=wy) (by rw [List.length_append];exact hm) (fun i m h=>?_) (fun k hk=>dJ hm hk)
  by_cases hlt:i < gs.length
  ·rw [List.getElem?_append_left hlt] at h
   obtain ⟨c,h1,h2,h3⟩:=hx i m h
   refine ⟨c,h1,h2,fun j y hy=>?_⟩
   have:=h3 j y hy
   rw [List.getElem?_append_left (gs1 this).1]
   exact this
  ·rw [List.getElem?_append_right (by omega)] at h
   have hi0:i=gs.length:=by
    have:=(gs1 h).1
    simp at this
    omega
   subst hi0
   simp only [Nat.sub_self,List.getElem?_cons_zero,Option.some.injEq] at h
   subst h
   refine ⟨[.int .i64 nu,.int .i64 ns],rfl,⟨rfl,hi⟩,fun j y hy=>?_⟩
   rw [List.getElem?_append_right (by omega),show gs.length * 2+j - xg.length=j by omega]
   exact hy
 exact ⟨hp'.Qs ((F9 hq).mono hF),(oU hD).trans (sN (S':=S) hp' (by omega)) (fun k h=>.inl h)⟩
theorem aeB {wb x:World} {S:Nat→Prop} {g o i:Nat} {b0:aD} {ms:List aF} {ya yb:List Value} {da:Option Addr} {dn dc:Nat} (hp:aN wb S g o b0) (hD:Below wb.heap.size wb x)
  (hm:x.ownsRow wb.heap.size 124 4 (.slice da dn dc) (0+(ms.take i).length+(ms.drop (i+1)).length) ([] ++ ya ++ yb)) (hla:ya.length=(ms.take i).length * 4)
  (hx:∀ k m,(ms.take i)[k]?=some m→∃ c,c.length=4∧sK wb c m Any∧∀ j y,c[j]?=some y→ya[k * 4+j]?=some y) (hlb:yb.length=(ms.drop (i+1)).length * 4)
  (hy:∀ k m,(ms.drop (i+1))[k]?=some m→∃ c,c.length=4∧sK wb c m Any∧∀ j y,c[j]?=some y→yb[k * 4+j]?=some y) :
  aN (x.setCell ⟨g,o+4,none⟩ (.slice da dn dc)) (fun k=>S k∨wb.heap.size≤k) g o ⟨b0.name,b0.valid,b0.next,b0.seq,ms.take i ++ ms.drop (i+1),b0.au,b0.lost⟩∧Turns wb (x.setCell ⟨g,o+4,none⟩ (.slice da dn dc)) (fun k=>wb.heap.size≤k) g o:=by
 have hp':=hp.below hD
 have hq:ji x (fun k=>wb.heap.size≤k) (.slice da dn dc) (ms.take i ++ ms.drop (i+1)):=by
  refine QU hm (by rw [List.length_append];omega) (fun k m h=>?_) (fun k hk=>dJ hm hk)
  rw [List.nil_append]
  by_cases hlt:k < (ms.take i).length
  ·rw [List.getElem?_append_left hlt] at h
   obtain ⟨c,h1,h2,h3⟩:=hx k m h
   refine ⟨c,h1,wH h2 (gG hD),fun j y hy=>?_⟩
   have:=h3 j y hy
   rw [List.getElem?_append_left (gs1 this).1]
   exact this
  ·rw [List.getElem?_append_right (by omega)] at h
   obtain ⟨c,h1,h2,h3⟩:=hy _ m h
   refine ⟨c,h1,wH h2 (gG hD),fun j y hy=>?_⟩
   have:=h3 j y hy
   rw [List.getElem?_append_right (by omega),hla,show k * 4+j - (ms.take i).length * 4=(k - (ms.take i).length) * 4+j by omega]
   exact this
 exact ⟨hp'.Qr (hq.mono fun _ h=>.inr h) (fun _ h=>.inl h),(oU hD).trans (sN (S':=fun k=>wb.heap.size≤k) hp' (by omega)) (fun k h=>.inl h)⟩
theorem Vk (g o i:Nat) (b:aD) (m:aF) (S:Nat→Prop) (w:World) (hp:aN w S g o b) (hm:b.ah[i]?=some m) (hml:b.ah.length≤2000000) (hgl:b.au.length≤2000000) :
  Calls Tryz.prog 98 #[.pointer (some ⟨g,o,none⟩),.int .i64 i] w fun e w'=>e=.returned (.tuple #[])∧Turns w w' S g o∧aN w' (fun k=>S k∨w.heap.size≤k) g o (bG b i):=by
 have HP:Hid (aN w S g o b):=hp
 have bM:g < w.heap.size:=hp.lt
 obtain ⟨u0,u1,u2,h0,h1,h2,hint,c0,c1,c2,c3,c4,c5,c6⟩:=hp.cells
 obtain ⟨mb,off,z1,mu,hv',hlm,f0,f1,f2,f3,-,uQ,wJ,sO⟩:=h1.v.cell i m hm
 have hil:i < b.ah.length:=(gs1 hm).1
 subst hv'
 have J6:(i:Int) < b.ah.length:=by omega
 have hzc:b.ah.length≤z1:=by obtain ⟨_,_,e,h,-⟩:=h1.v.form;cases e;exact h
 have HS:Hid (∀ w',Below w.heap.size w w'→((w'.cell? ⟨g,o+4,none⟩=some (.slice (some ⟨mb,off,none⟩) b.ah.length z1)∧w'.cell? ⟨g,o+3,none⟩=some (.int .i64 b.seq))∧w'.cell? ⟨mb,off+i * 4,none⟩=some (.int .i64 m.uid))):=fun w' h=>⟨⟨cell_later h c4,cell_later h c3⟩,cell_later h f0⟩
 have IM:Hid (aB m.uid∧aB b.seq):=⟨uQ,hint.2.2.1⟩
 obtain ⟨i0,hi,hz0,hz1,hz2⟩:=info_parts zO
 obtain ⟨j0,hj,hy0,hy1,hy2⟩:=info_parts yt
 have CF:Hid (b.ah[i]?=some m):=hm
 clear h0 h1 h2 hint c0 c1 c2 c3 c4 c5 c6 hp f0 f1 f2 f3 uQ wJ sO
 go_enter Tryz.func98,Tryz.ntmps98
 go_upto_region 0 with fail
 refine eF 15 (S:=fun w'=>((w'.cell? ⟨g,o+4,none⟩=some (.slice (some ⟨mb,off,none⟩) b.ah.length z1)∧w'.cell? ⟨g,o+3,none⟩=some (.int .i64 b.seq))∧w'.cell? ⟨mb,off+i * 4,none⟩=some (.int .i64 m.uid))) (eB (by kernel_rfl) aeu) (by kernel_rfl) (HS.out _ (bd _ _)) (fun aj aks=>?_)
 refine tks 0 0 5 aj aks ?_
 refine tks 1 1 6 aj aks ?_
 refine tks 2 2 7 aj aks ?_
 refine tks 3 3 8 aj aks ?_
 refine tks 4 4 9 aj aks ?_
 refine tks 5 5 10 aj aks ?_
 refine tks 6 6 11 aj aks ?_
 refine tks 7 7 12 aj aks ?_
 refine tks 8 8 13 aj aks ?_
 refine tks 9 9 14 aj aks ?_
 refine tks 10 10 15 aj aks ?_
 refine tks 11 11 16 aj aks ?_
 refine tks 12 12 17 aj aks ?_
 refine cls 13 13 aj (by decide) rfl rfl (fun K hK=>?_)
 go_simp
 have AB:Below w.heap.size w (w.drew.alloc (.cells #[.int .i64 0,.int .i64 0] 126)):=(bd _ _).alloc (Nat.le_refl _) _
 have KG:(w.drew.alloc (.cells #[.int .i64 0,.int .i64 0] 126)).heap[w.heap.size]?=some (.cells #[.int .i64 0,.int .i64 0] 126 (0,0)):=aV w.drew _
 refine hK.out _ _ (HS.out _ AB) (fun aks=>?_)
 clear hK K
 have Vl:((w.alloc (.cells #[.int .i64 m.uid,.int .i64 b.seq] 126)).drew).heap[w.heap.size]?=some (.cells #[.int .i64 m.uid,.int .i64 b.seq] 126 (0,0)):=aV w _
 have BS:Below w.heap.size w ((w.alloc (.cells #[.int .i64 m.uid,.int .i64 b.seq] 126)).drew):=(bn _ _).drew
 have Nn:=ak Vl
 have Ij:=ak BS
 clear Vl
 obtain ⟨gz,gl⟩:=bR KG
 obtain ⟨t0,t1⟩:=Vj KG
 refine cls 14 14 aj (by decide) rfl rfl (fun K hK=>?_)
 go_simp
 refine hK.out _ _ (HS.out _ BS) (fun aks=>?_)
 clear hK K
 refine eG aj ?_
 clear AB KG gz gl t0 t1 BS
 have HSL:Hid (∀ w',Below w.heap.size w w'→w'.cell? ⟨g,o+4,none⟩=some (.slice (some ⟨mb,off,none⟩) b.ah.length z1)):=fun w' h=>(HS.out w' h).1.1
 clear HS
 go_upto_region 1 with fail
 generalize ((w.alloc (.cells #[.int .i64 m.uid,.int .i64 b.seq] 126)).drew)=w1 at Nn Ij ⊢
 have jw:Hid (aN w1.drew S g o b):=(HP.out.below Ij.out).below (bd _ _)
 have HT1:Hid (Turns w w1.drew S g o):=oU (Ij.out.drew)
 have Vm:Hid _:=ay (bd _ _) Nn.out
 have sg:w.heap.size < w1.heap.size:=lt_of_heap Nn.out
 obtain ⟨u0,u1,u2,h0,h1,h2,hint,c0,c1,c2,c3,c4,c5,c6⟩:=jw.out.cells
 have hv1:u1=.slice (some ⟨mb,off,none⟩) b.ah.length z1:=by
  have:=HSL.out _ ((Ij.out).drew)
  rw [c4] at this
  exact Option.some.inj this
 subst hv1
 have vY:Hid (∀ x,Below w1.drew.heap.size w1.drew x→Rd 4 (Kc w1.drew) x (.slice (some ⟨mb,off,none⟩) b.ah.length z1) b.ah):=fun x h=>h1.at h
 have dA:Hid (∀ w',Below w1.drew.heap.size w1.drew w'→(w'.cell? ⟨g,o+4,none⟩=some (.slice (some ⟨mb,off,none⟩) b.ah.length z1))):=fun w' h=>cell_later h c4
 have hti:i≤b.ah.length:=by omega
 have hiz:i≤z1:=by omega
 have hwr:IntKind.i64.wrap ((i:Int)+1)=(i:Int)+1:=by simp [IntKind.wrap,IntKind.bits,IntKind.signed];omega
 have htn:((i:Int)+1).toNat=i+1:=by omega
 have hb0:(0:Int)≤(i:Int)+1:=by omega
 have hb1:(i:Int)+1≤b.ah.length:=by omega
 have htd:i+1≤b.ah.length:=by omega
 have e1:(b.ah.take i).length=i:=by simp;omega
 have e2:(b.ah.drop (i+1)).length=b.ah.length - (i+1):=by simp
 have hl1:0+(b.ah.take i).length≤maxLen:=by rw [e1];unfold maxLen;omega
 have hl2:(0+(b.ah.take i).length) * 48≤140737488355328:=by rw [e1];omega
 have hl3:0+(b.ah.take i).length+(b.ah.drop (i+1)).length≤maxLen:=by rw [e1,e2];unfold maxLen;omega
 have hl4:(0+(b.ah.take i).length+(b.ah.drop (i+1)).length) * 48≤140737488355328:=by rw [e1,e2];omega
 clear h0 h1 h2 hint c0 c1 c2 c3 c4 c5 c6 e1 e2 HP
 have sP:g < w1.drew.heap.size:=jw.out.lt
 have sg1:w.heap.size < w1.drew.heap.size:=sg
 refine eF 17 (S:=fun w'=>(w'.cell? ⟨g,o+4,none⟩=some (.slice (some ⟨mb,off,none⟩) b.ah.length z1))) (eB (by kernel_rfl) aev) (by kernel_rfl) (dA.out _ (Below.refl _ _)) (fun aj aks=>?_)
 refine tks 0 0 18 aj aks ?_
 refine tks 1 2 20 aj aks ?_
 refine tks 2 3 21 aj aks ?_
 refine tks 3 4 22 aj aks ?_
 refine tks 4 5 23 aj aks ?_
 refine tks 5 6 24 aj aks ?_
 refine tks 6 7 25 aj aks ?_
 refine tks 7 9 27 aj aks ?_
 refine tks 8 10 28 aj aks ?_
 refine tks 9 11 29 aj aks ?_
 refine tks 10 12 30 aj aks ?_
 refine tks 11 13 31 aj aks ?_
 refine tks 12 14 32 aj aks ?_
 refine tks 13 15 33 aj aks ?_
 refine cls 14 1 aj (by decide) rfl rfl (fun K hK=>?_)
 go_simp
 have AB:Below w1.drew.heap.size w1.drew (w1.drew.alloc (.cells #[] 124)):=bn _ _
 have yI:=ak (kK w1.drew 124 4 w1.drew.heap.size (Nat.le_refl _))
 refine hK.out _ _ (dA.out _ AB) (fun aks=>?_)
 clear hK K
 refine cls 15 8 aj (by decide) rfl rfl (fun K hK=>?_)
 refine dO (by kernel_rfl) (QV (B:=w1.drew.heap.size) 26 rfl (.tmp 19) (.tmp 25) rfl yI.out ((vY.out _ AB).take hti) (Cv _) Tryz.underlying34 hi hz0 hz1 hz2 rfl (by omega) rfl rfl hl1 hl2 AB.size ?_)
 intro V8 x8 ya xB Vn DW kU Af
 have D8:Below w1.drew.heap.size w1.drew x8:=nM AB kU (fun j hj=>dJ yI.out hj)
 obtain ⟨ma,mn,mc,Mq⟩:=jL xB
 subst Mq
 refine hK.out _ _ (dA.out _ D8) (fun aks=>?_)
 clear hK K
 refine cls 16 16 aj (by decide) rfl rfl (fun K hK=>?_)
 refine dO (by kernel_rfl) (QV (B:=w1.drew.heap.size) 34 rfl (.tmp 26) (.tmp 33) rfl xB ((vY.out _ D8).drop' htd) (Cv _) Tryz.underlying34 hi hz0 hz1 hz2 rfl (by omega) rfl rfl hl3 hl4 D8.size ?_)
 intro V16 Vo yb Np Vp Vq Vr aeC
 have AJ:Below w1.drew.heap.size w1.drew Vo:=nM D8 Vr (fun j hj=>dJ xB hj)
 obtain ⟨na,nn,nc,aeD⟩:=jL Np
 subst aeD
 refine hK.out _ _ (dA.out _ AJ) (fun aks=>?_)
 clear hK K
 refine gL (S':=fun w'=>True) 17 20 aj (by decide) (trivial) (fun aks=>?_)
 refine tks 17 17 35 aj aks ?_
 refine tks 18 18 36 aj aks ?_
 have HQ:Hid _:=aeB jw.out AJ Np Vn DW Vp Vq
 have gc:=jw.out.below AJ
 obtain ⟨v0,v1,v2,-,-,-,-,k0,k1,k2,k3,k4,k5,k6⟩:=gc.cells
 have gz:=gc.open
 have gl:=gc.lt
 have Nq:=ak (bP (k:=g) (i:=o+4) (v:=.slice na nn nc) (ay AJ Vm.out) (by omega))
 refine cls 19 19 aj (by decide) rfl rfl (fun K hK=>?_)
 go_simp
 refine hK.out _ _ (trivial) (fun aks=>?_)
 clear hK K
 refine eG aj ?_
 clear gc gz gl k0 k1 k2 k3 k4 k5 k6 DW Vn kU Af Vq Vp Vr aeC xB Np D8 AB yI vY dA hl1 hl2 hl3 hl4 hiz hwr htn hb0 hb1 jw Vm
 go_upto_region 2 with fail
 have aeE:=ak AJ
 clear AJ
 generalize Vo.setCell ⟨g,o+4,none⟩ (.slice na nn nc)=w2 at HQ Nq ⊢
 have jW:Hid (aN w2.drew (fun k=>S k∨w1.drew.heap.size≤k) g o _):=HQ.out.1.below (bd _ _)
 have HT2:Hid (Turns w w2.drew S g o):=Turns.trans (Turns.trans HT1.out HQ.out.2 (fun k h=>.inr (Nat.le_trans HT1.out.1 h))) (oU (S:=S) (bd _ _)) (fun k h=>.inl h)
 have dw:=ak (ay (bd _ _) Nq.out)
 have Vs:Hid (w.heap.size≤w1.drew.heap.size):=HT1.out.1
 have zq:Hid (w1.drew.heap.size≤w2.drew.heap.size):=HQ.out.2.1
 clear HQ Nq HT1 aeE
 go_cut [4] (fun s wx=>s=.pointer (some ⟨w.heap.size,0,none⟩)∧Hid (aN wx (fun k=>S k∨w1.drew.heap.size≤k) g o ⟨b.name,b.valid,b.next,b.seq,b.ah.take i ++ b.ah.drop (i+1),b.au ++ [⟨m.uid,b.seq⟩],b.lost⟩)∧Hid (Turns w2.drew wx (fun k=>S k∨w1.drew.heap.size≤k) g o))
 case first =>
  obtain ⟨v0,v1,v2,g0,g1,g2,gi,c0,c1,c2,c3,c4,c5,c6⟩:=jW.out.cells
  simp only at c0 c1 c2 c3 c4 c5 c6 g0 g1 g2 gi
  obtain ⟨ga,gc,rfl,-⟩:=g2.1.form
  have wY:Hid (∀ x,Below w2.drew.heap.size w2.drew x→bO x (.slice ga b.au.length gc) b.au):=fun x h=>g2.1.below dY h
  obtain ⟨t0,t1⟩:=Vj dw.out
  have HS2:Hid (∀ w',Below w2.drew.heap.size w2.drew w'→(w'.cell? ⟨g,o+5,none⟩=some (.slice ga b.au.length gc)∧w'.cell? ⟨w.heap.size,0,none⟩=some (.int .i64 m.uid)∧w'.cell? ⟨w.heap.size,1,none⟩=some (.int .i64 b.seq))):=fun w' h=>⟨cell_later h c5,cell_later h t0,cell_later h t1⟩
  have hg1:b.au.length≤maxLen:=by unfold maxLen;omega
  have hg2:b.au.length * 16≤140737488355328:=by omega
  have hg3:b.au.length+1≤maxLen:=by unfold maxLen;omega
  have hg4:(b.au.length+1) * 16≤140737488355328:=by omega
  have SQ:=jW.out.lt
  have Fy:=lt_of_heap dw.out
  clear g0 g1 g2 gi c0 c1 c2 c3 c4 c5 c6 t0 t1
  refine Ka 10 (S:=fun w'=>(w'.cell? ⟨g,o+5,none⟩=some (.slice ga b.au.length gc)∧w'.cell? ⟨w.heap.size,0,none⟩=some (.int .i64 m.uid)∧w'.cell? ⟨w.heap.size,1,none⟩=some (.int .i64 b.seq))) (uR (by kernel_rfl) aew) (uR (by kernel_rfl) aex) (uR (by kernel_rfl) aey) (by kernel_rfl) (HS2.out _ (Below.refl _ _)) (fun aj uX DN aks=>?_)
  have Dk:=ak aj
  have pI:=ak uX
  have Mh:=ak DN
  clear uX DN
  have D0:Hid (Below w2.drew.heap.size w2.drew w2.drew):=Below.refl _ _
  generalize w2.drew=wb at *
  refine dK 0 0 37 aj aks ?_
  refine dK 1 2 39 aj aks ?_
  refine dK 2 3 40 aj aks ?_
  refine dK 3 4 41 aj aks ?_
  refine dK 4 5 42 aj aks ?_
  refine dK 5 7 44 aj aks ?_
  refine Cu 6 [1,8] (by kernel_rfl) (by decide) (by decide) (by simp) ?_
  refine (jG.cons [0,2,3,4,5,7,1,8,6,9,10,11,12] rfl (by decide) (by decide) (fun K hK=>?_) (jG.cons [0,2,3,4,5,7,8,1,6,9,10,11,12] rfl (by decide) (by decide) (fun K hK=>?_) jG.nil))
  ·have aj:=pI.out
   go_simp
   have Vt:Below wb.heap.size wb (wb.alloc (.cells #[] 126)):=bn _ _
   have D1:Hid (Below wb.heap.size wb (wb.alloc (.cells #[] 126))):=Below.step D0.out Vt
   have Er:Hid _:=kK wb 126 2 wb.heap.size D0.out.size
   refine hK.out _ _ (HS2.out _ D1.out) (fun aks=>?_)
   clear hK K Vt
   generalize wb.alloc (.cells #[] 126)=y1 at aks D1 Er ⊢
   refine Cu 7 [6,8] (by kernel_rfl) (by decide) (by decide) (by simp) ?_
   refine (jG.cons [0,2,3,4,5,7,1,6,8,9,10,11,12] rfl (by decide) (by decide) (fun K hK=>?_) (jG.cons [0,2,3,4,5,7,1,8,6,9,10,11,12] rfl (by decide) (by decide) (fun K hK=>?_) jG.nil))
   ·have aj:=Mh.out
    refine dO (by kernel_rfl) (j5 (B:=wb.heap.size) 43 rfl (.tmp 38) (.tmp 42) rfl Er.out (wY.out _ D1.out) (BG _) Tryz.underlying35 hj hy0 hy1 hy2 rfl (by omega) rfl rfl hg1 hg2 D1.out.size ?_)
    intro V2 y2 xg hO2 hX2 hG2 hB2
    have Es:Hid _:=hX2
    have Et:Hid (xg.length=b.au.length * 2):=hO2.1
    have aeF:y1.grownBy y2 (some (wb.heap.size)):=hG2
    have D2:Hid (Below wb.heap.size wb y2):=kP D1.out aeF (dJ Er.out rfl)
    have aeG:Hid _:=hO2
    obtain ⟨qa,qn,qc,hV2⟩:=jL hO2
    subst hV2
    refine hK.out _ _ (HS2.out _ D2.out) (fun aks=>?_)
    clear hK K hG2 hB2 hO2 hX2
    refine fU 8 8 aj (by decide) rfl rfl (fun K hK=>?_)
    go_simp
    have Nr:Below y2.heap.size y2 (y2.alloc (.cells #[.int .i64 m.uid,.int .i64 b.seq] 126)):=bn _ _
    have D3:Hid (Below wb.heap.size wb (y2.alloc (.cells #[.int .i64 m.uid,.int .i64 b.seq] 126))):=Below.step D2.out Nr
    have Ns:Hid _:=own_below aeG.out Nr
    have Vu:Hid ((y2.alloc (.cells #[.int .i64 m.uid,.int .i64 b.seq] 126)).heap[y2.heap.size]?=some (.cells #[.int .i64 m.uid,.int .i64 b.seq] 126 (0,0))):=aV y2 _
    refine hK.out _ _ (HS2.out _ D3.out) (fun aks=>?_)
    clear hK K Nr
    generalize y2.alloc (.cells #[.int .i64 m.uid,.int .i64 b.seq] 126)=y3 at aks D3 Ns Vu ⊢
    refine fU 9 9 aj (by decide) rfl rfl (fun K hK=>?_)
    refine dO (by kernel_rfl) (Ac 46 rfl (.tmp 43) (.tmp 45) rfl Ns.out Tryz.underlying35 hj hy0 hy1 hy2 rfl (by omega) rfl [.int .i64 m.uid,.int .i64 b.seq] rfl ⟨y2.heap.size,0,none⟩ 1 rfl (Nk Vu.out) F4 hg3 hg4 D3.out.size ?_)
    intro V4 y4 hO4 hG4 hB4
    obtain ⟨da,dn,dc,qb⟩:=jL hO4
    subst qb
    have D4:Hid (Below wb.heap.size wb y4):=nM D3.out hG4 (fun j hj=>dJ Ns.out hj)
    have aeH:Hid _:=hO4
    refine hK.out _ _ (HS2.out _ D4.out) (fun aks=>?_)
    clear hK K hG4 hB4 hO4
    refine Ab (S':=fun _=>True) 10 13 (by decide) trivial (fun aks=>?_)
    refine dK 10 10 47 aj aks ?_
    refine dK 11 11 48 aj aks ?_
    refine fU 12 12 aj (by decide) rfl rfl (fun K hK=>?_)
    have HQ:=Nl jW.out (fun k h=>.inr (Nat.le_trans zq.out h)) D4.out aeH.out Es.out Et.out IM.out
    have rM:=ak HQ.1
    have pJ:=ak HQ.2
    clear HQ
    have gc:=jW.out.below D4.out
    obtain ⟨v0,v1,v2,-,-,-,-,k0,k1,k2,k3,k4,k5,k6⟩:=gc.cells
    have gz:=gc.open
    have gl:=gc.lt
    go_simp
    refine hK.out _ _ trivial (fun aks=>?_)
    clear hK K
    refine wP aj ?_
    go_wp2
    all_goals go_meet
    all_goals exact ⟨rfl,rM.out,pJ.out⟩
   ·have aj:=pI.out
    go_simp
    have Nt:Below y1.heap.size y1 (y1.alloc (.cells #[.int .i64 m.uid,.int .i64 b.seq] 126)):=bn _ _
    have D5:Hid (Below wb.heap.size wb (y1.alloc (.cells #[.int .i64 m.uid,.int .i64 b.seq] 126))):=Below.step D1.out Nt
    have hne5:y1.heap.size≠wb.heap.size:=Nat.ne_of_gt (aez Er.out)
    have Nu:Hid _:=own_below Er.out Nt
    have Vv:Hid ((y1.alloc (.cells #[.int .i64 m.uid,.int .i64 b.seq] 126)).heap[y1.heap.size]?=some (.cells #[.int .i64 m.uid,.int .i64 b.seq] 126 (0,0))):=aV y1 _
    refine hK.out _ _ (HS2.out _ D5.out) (fun aks=>?_)
    clear hK K Nt
    generalize y1.alloc (.cells #[.int .i64 m.uid,.int .i64 b.seq] 126)=y5 at aks D5 Nu Vv ⊢
    refine fU 8 6 aj (by decide) rfl rfl (fun K hK=>?_)
    refine dO (by kernel_rfl) (j5 (B:=wb.heap.size) 43 rfl (.tmp 38) (.tmp 42) rfl Nu.out (wY.out _ D5.out) (BG _) Tryz.underlying35 hj hy0 hy1 hy2 rfl (by omega) rfl rfl hg1 hg2 D5.out.size ?_)
    intro V6 y6 xg iw sw fE lJ
    have Es:Hid _:=sw
    have Et:Hid (xg.length=b.au.length * 2):=iw.1
    have Vw:y5.grownBy y6 (some (wb.heap.size)):=fE
    have D6:Hid (Below wb.heap.size wb y6):=kP D5.out Vw (dJ Nu.out rfl)
    have aeI:Hid _:=uG Vw Vv.out hne5
    have Vx:Hid _:=iw
    obtain ⟨qa,qn,qc,hV6⟩:=jL iw
    subst hV6
    refine hK.out _ _ (HS2.out _ D6.out) (fun aks=>?_)
    clear hK K fE lJ iw sw
    refine fU 9 9 aj (by decide) rfl rfl (fun K hK=>?_)
    refine dO (by kernel_rfl) (Ac 46 rfl (.tmp 43) (.tmp 45) rfl Vx.out Tryz.underlying35 hj hy0 hy1 hy2 rfl (by omega) rfl [.int .i64 m.uid,.int .i64 b.seq] rfl ⟨y1.heap.size,0,none⟩ 1 rfl (Nk aeI.out) F4 hg3 hg4 D6.out.size ?_)
    intro V7 y7 zu uW Na
    obtain ⟨da,dn,dc,hV7⟩:=jL zu
    subst hV7
    have D7:Hid (Below wb.heap.size wb y7):=nM D6.out uW (fun j hj=>dJ Vx.out hj)
    have aeL:Hid _:=zu
    refine hK.out _ _ (HS2.out _ D7.out) (fun aks=>?_)
    clear hK K uW Na zu
    refine Ab (S':=fun _=>True) 10 13 (by decide) trivial (fun aks=>?_)
    refine dK 10 10 47 aj aks ?_
    refine dK 11 11 48 aj aks ?_
    refine fU 12 12 aj (by decide) rfl rfl (fun K hK=>?_)
    have HQ:=Nl jW.out (fun k h=>.inr (Nat.le_trans zq.out h)) D7.out aeL.out Es.out Et.out IM.out
    have rM:=ak HQ.1
    have pJ:=ak HQ.2
    clear HQ
    have gc:=jW.out.below D7.out
    obtain ⟨v0,v1,v2,-,-,-,-,k0,k1,k2,k3,k4,k5,k6⟩:=gc.cells
    have gz:=gc.open
    have gl:=gc.lt
    go_simp
    refine hK.out _ _ trivial (fun aks=>?_)
    clear hK K
    refine wP aj ?_
    go_wp2
    all_goals go_meet
    all_goals exact ⟨rfl,rM.out,pJ.out⟩
  ·have aj:=Dk.out
   go_simp
   have Vy:Below wb.heap.size wb (wb.alloc (.cells #[.int .i64 m.uid,.int .i64 b.seq] 126)):=bn _ _
   have D8:Hid (Below wb.heap.size wb (wb.alloc (.cells #[.int .i64 m.uid,.int .i64 b.seq] 126))):=Below.step D0.out Vy
   have Nv:Hid ((wb.alloc (.cells #[.int .i64 m.uid,.int .i64 b.seq] 126)).heap[wb.heap.size]?=some (.cells #[.int .i64 m.uid,.int .i64 b.seq] 126 (0,0))):=aV wb _
   refine hK.out _ _ (HS2.out _ D8.out) (fun aks=>?_)
   clear hK K Vy
   generalize wb.alloc (.cells #[.int .i64 m.uid,.int .i64 b.seq] 126)=y8 at aks D8 Nv ⊢
   refine fU 7 1 aj (by decide) rfl rfl (fun K hK=>?_)
   go_simp
   have Nw:Below y8.heap.size y8 (y8.alloc (.cells #[] 126)):=bn _ _
   have D9:Hid (Below wb.heap.size wb (y8.alloc (.cells #[] 126))):=Below.step D8.out Nw
   have aeM:wb.heap.size≠y8.heap.size:=Nat.ne_of_lt (lt_of_heap Nv.out)
   have Vz:Hid _:=ay Nw Nv.out
   have Ny:Hid _:=kK y8 126 2 wb.heap.size D8.out.size
   refine hK.out _ _ (HS2.out _ D9.out) (fun aks=>?_)
   clear hK K Nw
   generalize y8.alloc (.cells #[] 126)=y9 at aks D9 Ny Vz ⊢
   refine fU 8 6 aj (by decide) rfl rfl (fun K hK=>?_)
   refine dO (by kernel_rfl) (j5 (B:=wb.heap.size) 43 rfl (.tmp 38) (.tmp 42) rfl Ny.out (wY.out _ D9.out) (BG _) Tryz.underlying35 hj hy0 hy1 hy2 rfl (by omega) rfl rfl hg1 hg2 D9.out.size ?_)
   intro V10 VA xg Ik VB VD aeN
   have Es:Hid _:=VB
   have Et:Hid (xg.length=b.au.length * 2):=Ik.1
   have VE:y9.grownBy VA (some (y8.heap.size)):=VD
   have Nz:Hid (Below wb.heap.size wb VA):=kP D9.out VE (dJ Ny.out rfl)
   have aeO:Hid _:=uG VE Vz.out aeM
   have VF:Hid _:=Ik
   obtain ⟨qa,qn,qc,aeP⟩:=jL Ik
   subst aeP
   refine hK.out _ _ (HS2.out _ Nz.out) (fun aks=>?_)
   clear hK K VD aeN Ik VB
   refine fU 9 9 aj (by decide) rfl rfl (fun K hK=>?_)
   refine dO (by kernel_rfl) (Ac 46 rfl (.tmp 43) (.tmp 45) rfl VF.out Tryz.underlying35 hj hy0 hy1 hy2 rfl (by omega) rfl [.int .i64 m.uid,.int .i64 b.seq] rfl ⟨wb.heap.size,0,none⟩ 1 rfl (Nk aeO.out) F4 hg3 hg4 Nz.out.size ?_)
   intro V11 y11 NA VG aeR
   obtain ⟨da,dn,dc,aeS⟩:=jL NA
   subst aeS
   have xC:Hid (Below wb.heap.size wb y11):=nM Nz.out VG (fun j hj=>dJ VF.out hj)
   have aeT:Hid _:=NA
   refine hK.out _ _ (HS2.out _ xC.out) (fun aks=>?_)
   clear hK K VG aeR NA
   refine Ab (S':=fun _=>True) 10 13 (by decide) trivial (fun aks=>?_)
   refine dK 10 10 47 aj aks ?_
   refine dK 11 11 48 aj aks ?_
   refine fU 12 12 aj (by decide) rfl rfl (fun K hK=>?_)
   have HQ:=Nl jW.out (fun k h=>.inr (Nat.le_trans zq.out h)) xC.out aeT.out Es.out Et.out IM.out
   have rM:=ak HQ.1
   have pJ:=ak HQ.2
   clear HQ
   have gc:=jW.out.below xC.out
   obtain ⟨v0,v1,v2,-,-,-,-,k0,k1,k2,k3,k4,k5,k6⟩:=gc.cells
   have gz:=gc.open
   have gl:=gc.lt
   go_simp
   refine hK.out _ _ trivial (fun aks=>?_)
   clear hK K
   refine wP aj ?_
   go_wp2
   all_goals go_meet
   all_goals exact ⟨rfl,rM.out,pJ.out⟩
 case rest =>
  obtain ⟨rfl,NC,HT3⟩:=hcut
  rename World=>w3
  have HT:Hid (Turns w w3 S g o):=Turns.trans HT2.out HT3.out (fun k h=>h.imp id fun h=>Nat.le_trans Vs.out h)
  have hgs:(b.au ++ [(⟨m.uid,b.seq⟩:bf)]).length≤2000001:=by simp;omega
  have HX:Hid (bG b i=⟨b.name,b.valid,b.next,b.seq,b.ah.take i ++ b.ah.drop (i+1),(dX b.lost (b.au ++ [⟨m.uid,b.seq⟩])).2,(dX b.lost (b.au ++ [⟨m.uid,b.seq⟩])).1⟩):=by
   show bG b i=_
   unfold bG
   rw [CF.out]
  clear jW HT2 dw HT3
  generalize (b.au ++ [(⟨m.uid,b.seq⟩:bf)])=gs at NC HX hgs
  go_wp2
  go_loopw [49] (fun _ wr=>∃ (k:Nat) (lk:Int),k≤gs.length∧Hid (dX b.lost gs=dX lk (gs.drop k))∧Hid (aN wr (fun k=>S k∨w1.drew.heap.size≤k) g o ⟨b.name,b.valid,b.next,b.seq,b.ah.take i ++ b.ah.drop (i+1),gs.drop k,lk⟩)∧Hid (Turns w wr S g o)) (fun _ wr=>pE wr g o)
  case atStart=>exact ⟨0,b.lost,Nat.zero_le _,rfl,NC.out,HT.out⟩
  case round =>
   obtain ⟨k,lk,hk,hTr,hP,hT⟩:=hrel
   clear NC HT
   obtain ⟨v0,v1,v2,g0,g1,g2,gi,c0,c1,c2,c3,c4,c5,c6⟩:=hP.out.cells
   simp only at c0 c1 c2 c3 c4 c5 c6 g0 g1 g2 gi
   have hz:=hP.out.open
   have hl:=hP.out.lt
   have HG2:Hid (fP wr (fun k=>S k∨w1.drew.heap.size≤k) v2 (gs.drop k)):=g2
   have hdl:(gs.drop k).length=gs.length - k:=by simp
   by_cases h40:40 < (gs.drop k).length
   ·obtain ⟨x,hx⟩:∃ x,(gs.drop k)[0]?=some x:=⟨(gs.drop k)[0],aK (by omega)⟩
    obtain ⟨bq,qo,gc,rfl,hlq,q0,q1,qi0,qi1⟩:=g2.1.cell 0 x hx
    have hgc:(gs.drop k).length≤gc:=by obtain ⟨_,_,e,h,-⟩:=g2.1.form;cases e;exact h
    have aeV:(40:Int) < ((gs.drop k).length:Int):=by omega
    have hi0:(0:Int) < ((gs.drop k).length:Int):=by omega
    rw [Nat.zero_mul,Nat.add_zero] at q0 q1
    have lK:Hid (gs[k]?=some x):=by
     show gs[k]?=some x
     rw [List.getElem?_drop,Nat.add_zero] at hx
     exact hx
    have vw:Hid (aN (wr.setCell ⟨g,o+6,none⟩ (.int .i64 x.seq)) (fun k=>S k∨w1.drew.heap.size≤k) g o _):=hP.out.J3 x.seq qi1
    have GK:Hid (Turns w (wr.setCell ⟨g,o+6,none⟩ (.int .i64 x.seq)) S g o):=Turns.trans hT.out (sN (S':=S) hP.out (by omega)) (fun k h=>.inl h)
    have Cz:Hid (dX b.lost gs=dX x.seq (gs.drop (k+1))):=by
     show dX b.lost gs=_
     rw [hTr.out,Qj lK.out (by omega)]
    have yK:Hid (pE wr g o=(gs.drop k).length):=by show pE wr g o=_;unfold pE;rw [c5]
    have QL:Hid (gs.drop k=(gs.drop k)):=rfl
    clear g0 g1 g2 gi hx
    go_upto_region 5 with fail
    clear c0 c1 c2 c3 c4 c5 c6 hz hl q0 q1 hlq
    generalize wr.setCell ⟨g,o+6,none⟩ (.int .i64 x.seq)=wl at vw GK ⊢
    obtain ⟨v0,v1,v2,g0,g1,g2,gi,c0,c1,c2,c3,c4,c5,c6⟩:=vw.out.cells
    simp only at c0 c1 c2 c3 c4 c5 c6 g0 g1 g2 gi
    have hz:=vw.out.open
    have hl:=vw.out.lt
    obtain ⟨ga,gc',rfl,Tg,-⟩:=g2.1.form
    have hga:∃ xI xJ,ga=some ⟨xI,xJ,none⟩:=by
     obtain ⟨x',hx'⟩:∃ x,(gs.drop k)[0]?=some x:=⟨(gs.drop k)[0],aK (by omega)⟩
     obtain ⟨xI,xJ,_,e,-⟩:=g2.1.cell 0 x' hx'
     cases e
     exact ⟨xI,xJ,rfl⟩
    obtain ⟨xI,xJ,rfl⟩:=hga
    have hone:¬ gc'=1:=by omega
    have h1l:(1:Int)≤((gs.drop k).length:Int):=by omega
    have HGT:Hid (fP wl (fun k=>S k∨w1.drew.heap.size≤k) (.slice (some ⟨xI,xJ+2,none⟩) (gs.length - k - 1) (gc' - 1)) (gs.drop (k+1))):=by
     have:=QW g2 (by omega)
     rw [List.drop_drop,List.length_drop] at this
     exact this
    have VH:Hid (aN (wl.setCell ⟨g,o+5,none⟩ (.slice (some ⟨xI,xJ+2,none⟩) (gs.length - k - 1) (gc' - 1))) (fun k=>S k∨w1.drew.heap.size≤k) g o _):=vw.out.Qs HGT.out
    have HTG:Hid (Turns w (wl.setCell ⟨g,o+5,none⟩ (.slice (some ⟨xI,xJ+2,none⟩) (gs.length - k - 1) (gc' - 1))) S g o):=Turns.trans GK.out (sN (S':=S) vw.out (by omega)) (fun k h=>.inl h)
    have aeY:Hid (pE (wl.setCell ⟨g,o+5,none⟩ (.slice (some ⟨xI,xJ+2,none⟩) (gs.length - k - 1) (gc' - 1))) g o=gs.length - k - 1):=by
     show pE _ g o=_
     obtain ⟨_,_,_,_,_,_,_,_,_,_,_,_,k5,_⟩:=VH.out.cells
     unfold pE
     rw [aeA vw.out.fit vw.out.ty (by omega) (let ⟨cur,_,hh,_⟩:=vw.out;⟨cur,hh⟩)]
    clear g0 g1 g2 gi
    go_wp2
    go_roundw
    case rel=>exact ⟨k+1,x.seq,by omega,Cz.out,VH.out,HTG.out⟩
    case measure=>rw [aeY.out,yK.out,List.length_drop];omega
   ·have HE:Hid (dX b.lost gs=(lk,gs.drop k)):=by
     show dX b.lost gs=_
     rw [hTr.out,Qi (by omega)]
    have aeV:¬ ((40:Int) < ((gs.drop k).length:Int)):=by omega
    obtain ⟨ga,gc,rfl,-⟩:=g2.1.form
    clear g0 g1 g2 gi
    go_wp2
    go_end0
    refine ⟨rfl,hT.out,?_⟩
    rw [HX.out,HE.out]
    exact aN.mono hP.out fun k h=>h.imp id fun h=>Nat.le_trans Vs.out h
end Go.Proofs.YtlneebmlhblleaaGreat
