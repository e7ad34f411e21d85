/- The proof's texts, part 30. -/
import Derived.Test.YtfabngnaejjcmaaGreatDoorTr
namespace Go.Proofs.YtfabngnaejjcmaaGreatDoor
open Go.RowKit
set_option linter.unusedVariables false
set_option linter.unusedSimpArgs false
set_option maxHeartbeats 8000000
set_option maxRecDepth 100000
/- What akV of package spec does. -/
theorem aeS:(Tryz.f102.body.bind (eO 0)).all (λo=>jH o 15 [0,1,2,3,4,5,6,7,8,9,10,11,12,13,14] [13,14] [15] 0)=true:=by kernel_rfl
theorem aeT:(Tryz.f102.body.bind (eO 1)).all (λo=>jH o 20 [0,2,3,4,5,6,7,9,10,11,12,13,14,15,1,8,16,17,18,19] [14,15,16,19] [17,20] 0)=true:=by kernel_rfl
theorem Wo {w:World} {g:Nat} {t:TypeId} {c0 c1:Value} (h:w.heap[g]?=some (.cells #[c0,c1] t (0,0))):w.cell? ⟨g,0,none⟩=some c0/\w.cell? ⟨g,1,none⟩=some c1:=⟨cell_of_row w g 0 _ t (0,0) h,cell_of_row w g 1 _ t (0,0) h⟩
theorem Rd.drop' {α:Type} {sz b off c k:Nat} {RE:World->List Value->α->Prop} {w:World} {m:List α} (h:Rd sz RE w (.slice (some ⟨b,off,none⟩) m.length c) m) (hk:k<=m.length):Rd sz RE w (.slice (if c=k then some ⟨b,off,none⟩ else some ⟨b,off+k * sz,none⟩) (m.length - k) (c - k)) (m.drop k):=by
 by_cases e:c=k
 ·have hc:m.length<=c:=by obtain⟨_,_,_,e,h,-⟩:=h;cases e;exact h
  have hm:m.length=k:=by omega
  rw[if_pos e,hm,e,Nat.sub_self,List.drop_eq_nil_of_le (by omega)];exact⟨some ⟨b,off,none⟩,0,λ_=>[],by simp,by simp,by simp,(λh=>by cases h),by simp,by simp⟩
 ·rw[if_neg e]
  exact h.drop hk
theorem aeU:(Tryz.f102.body.bind (eO 2)).all (λo=>ug o 13 [0,2,3,4,5,7,8,1,6,9,10,11,12] [7,8,9,12] [6] [10,13] 0)=true:=by kernel_rfl
theorem aeV:(Tryz.f102.body.bind (eO 2)).all (λo=>ug o 13 [0,2,3,4,5,7,1,8,6,9,10,11,12] [8,9,12] [6,7] [10,13] 0)=true:=by kernel_rfl
theorem aeW:(Tryz.f102.body.bind (eO 2)).all (λo=>ug o 13 [0,2,3,4,5,7,1,6,8,9,10,11,12] [8,9,12] [6,7] [10,13] 0)=true:=by kernel_rfl
theorem aeX {w:World} {B n g m c:Nat} {e:TypeId} {sz:Nat} {xs:List Value} (h:w.ownsRow B e sz (.slice (some ⟨g,0,none⟩) m c) n xs):g < w.heap.size:=by
 rcases h.2 with⟨h,-⟩ | ⟨g',cap,cur,h,-,hh,-⟩
 ·cases h
 ·cases h
  exact lt_of_heap hh
theorem OC {w:World} {g:Nat} {cs:Array Value} {t:TypeId} (h:w.heap[g]?=some (.cells cs t (0,0))):∀j u,cs.toList[j]?=some u->w.cell? ((⟨g,0,none⟩:Addr).add j)=some u:=by
 intro j u hu;rw[Addr.add_lit,Nat.zero_add,cell_of_row _ _ _ _ _ (0,0) h];simpa using hu
theorem aeY {w:World} {g o j:Nat} {x:Value} (hf:∀cur t,w.heap[g]?=some (.cells cur t (0,0))->o+7<=cur.size) (ht:Ty w g 70) (hj:j < 7) (h0:∃cur,w.heap[g]?=some (.cells cur 70 (0,0))):(w.setCell ⟨g,o+j,none⟩ x).cell? ⟨g,o+j,none⟩=some x:=by
 obtain⟨cur,hh⟩:=h0;have hs:=hf cur _ hh;rw[cell_of_row _ g (o+j) _ _ (0,0) (aD hh),Array.getElem?_setIfInBounds_self_of_lt (by omega)]
/-- What went is put behind those that went. -/
theorem OD {wb x:World} {S:Nat->Prop} {g o:Nat} {b0:aB} {gs:List bE} {xg:List Value} {da:Option Addr} {dn dc:Nat} {nu ns:Int} (hp:aG wb S g o b0) (hF:∀k,wb.heap.size<=k->S k) (hD:Below wb.heap.size wb x)
  (hm:x.ownsRow wb.heap.size 115 2 (.slice da dn dc) (gs.length+1) (xg ++ [.int .i64 nu,.int .i64 ns])) {wy:World}
  (hx:∀i m,gs[i]?=some m->∃c,c.length=2/\Ab wy c m/\∀j y,c[j]?=some y->xg[i * 2+j]?=some y) (hxl:xg.length=gs.length * 2) (hi:av nu/\av ns) :
  aG (x.setCell ⟨g,o+5,none⟩ (.slice da dn dc)) S g o ⟨b0.name,b0.valid,b0.next,b0.seq,b0.ah,gs ++ [⟨nu,ns⟩],b0.lost⟩/\Turns wb (x.setCell ⟨g,o+5,none⟩ (.slice da dn dc)) S g o:=by
 have hp':=hp.below hD;have hq:lI x (λk=>wb.heap.size<=k) (.slice da dn dc) (gs ++ [⟨nu,ns⟩]):=by
  refine K3 (w0:=wy) (by rw[List.length_append];exact hm) (λi m h=>?_) (λk hk=>dS hm hk)
  by_cases hlt:i < gs.length
  ·rw[List.getElem?_append_left hlt] at h
   obtain⟨c,h1,h2,h3⟩:=hx i m h;refine⟨c,h1,h2,λj y hy=>?_⟩;have:=h3 j y hy;rw[List.getElem?_append_left (gs1 this).1];exact this
  ·rw[List.getElem?_append_right (by omega)] at h
   have hi0:i=gs.length:=by
    have:=(gs1 h).1;simp at this;omega
   subst hi0;simp only[Nat.sub_self,List.getElem?_cons_zero,Option.some.injEq] at h;subst h;refine⟨[.int .i64 nu,.int .i64 ns],rfl,⟨rfl,hi⟩,λj y hy=>?_⟩;rw[List.getElem?_append_right (by omega),show gs.length * 2+j - xg.length=j by omega];exact hy
 exact⟨hp'.M4 ((UR hq).mono hF),(oH hD).trans (mR (S':=S) hp' (by omega)) (λk h=>.inl h)⟩
theorem aeZ {wb x:World} {S:Nat->Prop} {g o i:Nat} {b0:aB} {ms:List aL} {ya yb:List Value} {da:Option Addr} {dn dc:Nat} (hp:aG wb S g o b0) (hD:Below wb.heap.size wb x)
  (hm:x.ownsRow wb.heap.size 77 4 (.slice da dn dc) (0+(ms.take i).length+(ms.drop (i+1)).length) ([] ++ ya ++ yb)) (hla:ya.length=(ms.take i).length * 4)
  (hx:∀k m,(ms.take i)[k]?=some m->∃c,c.length=4/\tF wb c m Any/\∀j y,c[j]?=some y->ya[k * 4+j]?=some y) (hlb:yb.length=(ms.drop (i+1)).length * 4)
  (hy:∀k m,(ms.drop (i+1))[k]?=some m->∃c,c.length=4/\tF wb c m Any/\∀j y,c[j]?=some y->yb[k * 4+j]?=some y) :
  aG (x.setCell ⟨g,o+4,none⟩ (.slice da dn dc)) (λk=>S k\/wb.heap.size<=k) g o ⟨b0.name,b0.valid,b0.next,b0.seq,ms.take i ++ ms.drop (i+1),b0.au,b0.lost⟩/\Turns wb (x.setCell ⟨g,o+4,none⟩ (.slice da dn dc)) (λk=>wb.heap.size<=k) g o:=by
 have hp':=hp.below hD;have hq:jq x (λk=>wb.heap.size<=k) (.slice da dn dc) (ms.take i ++ ms.drop (i+1)):=by
  refine U1 hm (by rw[List.length_append];omega) (λk m h=>?_) (λk hk=>dS hm hk);rw[List.nil_append]
  by_cases hlt:k < (ms.take i).length
  ·rw[List.getElem?_append_left hlt] at h
   obtain⟨c,h1,h2,h3⟩:=hx k m h;refine⟨c,h1,vB h2 (fT hD),λj y hy=>?_⟩;have:=h3 j y hy;rw[List.getElem?_append_left (gs1 this).1];exact this
  ·rw[List.getElem?_append_right (by omega)] at h
   obtain⟨c,h1,h2,h3⟩:=hy _ m h;refine⟨c,h1,vB h2 (fT hD),λj y hy=>?_⟩;have:=h3 j y hy;rw[List.getElem?_append_right (by omega),hla,show k * 4+j - (ms.take i).length * 4=(k - (ms.take i).length) * 4+j by omega];exact this
 exact⟨hp'.UZ (hq.mono λ_ h=>.inr h) (λ_ h=>.inl h),(oH hD).trans (mR (S':=λk=>wb.heap.size<=k) hp' (by omega)) (λk h=>.inl h)⟩
theorem Wp (g o i:Nat) (b:aB) (m:aL) (S:Nat->Prop) (w:World) (hp:aG w S g o b) (hm:b.ah[i]?=some m) (hml:b.ah.length<=2000000) (hgl:b.au.length<=2000000) :
  Calls Tryz.prog 102 #[.pointer (some ⟨g,o,none⟩),.int .i64 i] w λe w'=>e=.returned (.tuple #[])/\Turns w w' S g o/\aG w' (λk=>S k\/w.heap.size<=k) g o (dK b i):=by
 have HP:Hid (aG w S g o b):=hp;have bX:g < w.heap.size:=hp.lt;obtain⟨u0,u1,u2,h0,h1,h2,hint,c0,c1,c2,c3,c4,c5,c6⟩:=hp.cells;obtain⟨mb,off,z1,mu,hv',hlm,f0,f1,f2,f3,-,vD,xw,tJ⟩:=h1.v.cell i m hm;have hil:i < b.ah.length:=(gs1 hm).1;subst hv';have M7:(i:Int) < b.ah.length:=by omega
 have hzc:b.ah.length<=z1:=by obtain⟨_,_,e,h,-⟩:=h1.v.form;cases e;exact h
 have HS:Hid (∀w',Below w.heap.size w w'->((w'.cell? ⟨g,o+4,none⟩=some (.slice (some ⟨mb,off,none⟩) b.ah.length z1)/\w'.cell? ⟨g,o+3,none⟩=some (.int .i64 b.seq))/\w'.cell? ⟨mb,off+i * 4,none⟩=some (.int .i64 m.uid))):=λw' h=>⟨⟨cell_later h c4,cell_later h c3⟩,cell_later h f0⟩;have IM:Hid (av m.uid/\av b.seq):=⟨vD,hint.2.2.1⟩;obtain⟨i0,hi,hz0,hz1,hz2⟩:=info_parts GN;obtain⟨j0,hj,hy0,hy1,hy2⟩:=info_parts GQ;have HMI:Hid (b.ah[i]?=some m):=hm;clear h0 h1 h2 hint c0 c1 c2 c3 c4 c5 c6 hp f0 f1 f2 f3 vD xw tJ
 go_enter Tryz.func102,Tryz.ntmps102;go_upto_region 0 with fail
 refine jR 15 (S:=λw'=>((w'.cell? ⟨g,o+4,none⟩=some (.slice (some ⟨mb,off,none⟩) b.ah.length z1)/\w'.cell? ⟨g,o+3,none⟩=some (.int .i64 b.seq))/\w'.cell? ⟨mb,off+i * 4,none⟩=some (.int .i64 m.uid))) (jQ (by kernel_rfl) aeS) (by kernel_rfl) (HS.out _ (bd _ _)) (λaj al3=>?_);refine tks 0 0 5 aj al3 ?_;refine tks 1 1 6 aj al3 ?_;refine tks 2 2 7 aj al3 ?_;refine tks 3 3 8 aj al3 ?_;refine tks 4 4 9 aj al3 ?_;refine tks 5 5 10 aj al3 ?_;refine tks 6 6 11 aj al3 ?_;refine tks 7 7 12 aj al3 ?_;refine tks 8 8 13 aj al3 ?_;refine tks 9 9 14 aj al3 ?_;refine tks 10 10 15 aj al3 ?_
 refine tks 11 11 16 aj al3 ?_;refine tks 12 12 17 aj al3 ?_;refine cls 13 13 aj (by decide) rfl rfl (λK hK=>?_);go_simp;have AB:Below w.heap.size w (w.drew.alloc (.cells #[.int .i64 0,.int .i64 0] 115)):=(bd _ _).alloc (Nat.le_refl _) _;have KG:(w.drew.alloc (.cells #[.int .i64 0,.int .i64 0] 115)).heap[w.heap.size]?=some (.cells #[.int .i64 0,.int .i64 0] 115 (0,0)):=aW w.drew _;refine hK.out _ _ (HS.out _ AB) (λal3=>?_);clear hK K
 have Wq:((w.alloc (.cells #[.int .i64 m.uid,.int .i64 b.seq] 115)).drew).heap[w.heap.size]?=some (.cells #[.int .i64 m.uid,.int .i64 b.seq] 115 (0,0)):=aW w _;have BS:Below w.heap.size w ((w.alloc (.cells #[.int .i64 m.uid,.int .i64 b.seq] 115)).drew):=(bn _ _).drew;have OE:=aU Wq;have JR:=aU BS;clear Wq;obtain⟨gz,gl⟩:=aO KG;obtain⟨t0,t1⟩:=Wo KG;refine cls 14 14 aj (by decide) rfl rfl (λK hK=>?_);go_simp;refine hK.out _ _ (HS.out _ BS) (λal3=>?_);clear hK K;refine jS aj ?_;clear AB KG gz gl t0 t1 BS
 have HSL:Hid (∀w',Below w.heap.size w w'->w'.cell? ⟨g,o+4,none⟩=some (.slice (some ⟨mb,off,none⟩) b.ah.length z1)):=λw' h=>(HS.out w' h).1.1;clear HS;go_upto_region 1 with fail
 generalize ((w.alloc (.cells #[.int .i64 m.uid,.int .i64 b.seq] 115)).drew)=w1 at OE JR ⊢;have gT:Hid (aG w1.drew S g o b):=(HP.out.below JR.out).below (bd _ _);have HT1:Hid (Turns w w1.drew S g o):=oH (JR.out.drew);have Ws:Hid _:=aA (bd _ _) OE.out;have sg:w.heap.size < w1.heap.size:=lt_of_heap OE.out;obtain⟨u0,u1,u2,h0,h1,h2,hint,c0,c1,c2,c3,c4,c5,c6⟩:=gT.out.cells;have hv1:u1=.slice (some ⟨mb,off,none⟩) b.ah.length z1:=by
  have:=HSL.out _ ((JR.out).drew);rw[c4] at this;exact Option.some.inj this
 subst hv1;have OG:Hid (∀x,Below w1.drew.heap.size w1.drew x->Rd 4 (M5 w1.drew) x (.slice (some ⟨mb,off,none⟩) b.ah.length z1) b.ah):=λx h=>h1.at h;have FL:Hid (∀w',Below w1.drew.heap.size w1.drew w'->(w'.cell? ⟨g,o+4,none⟩=some (.slice (some ⟨mb,off,none⟩) b.ah.length z1))):=λw' h=>cell_later h c4;have hti:i<=b.ah.length:=by omega
 have hiz:i<=z1:=by omega
 have hwr:IntKind.i64.wrap ((i:Int)+1)=(i:Int)+1:=by simp[IntKind.wrap,IntKind.bits,IntKind.signed];omega
 have htn:((i:Int)+1).toNat=i+1:=by omega
 have hb0:(0:Int)<=(i:Int)+1:=by omega
 have hb1:(i:Int)+1<=b.ah.length:=by omega
 have htd:i+1<=b.ah.length:=by omega
 have e1:(b.ah.take i).length=i:=by simp;omega
 have e2:(b.ah.drop (i+1)).length=b.ah.length - (i+1):=by simp
 have hl1:0+(b.ah.take i).length<=maxLen:=by rw[e1];unfold maxLen;omega
 have hl2:(0+(b.ah.take i).length) * 48<=140737488355328:=by rw[e1];omega
 have hl3:0+(b.ah.take i).length+(b.ah.drop (i+1)).length<=maxLen:=by rw[e1,e2];unfold maxLen;omega
 have hl4:(0+(b.ah.take i).length+(b.ah.drop (i+1)).length) * 48<=140737488355328:=by rw[e1,e2];omega
 clear h0 h1 h2 hint c0 c1 c2 c3 c4 c5 c6 e1 e2 HP;have tK:g < w1.drew.heap.size:=gT.out.lt;have sg1:w.heap.size < w1.drew.heap.size:=sg;refine jR 17 (S:=λw'=>(w'.cell? ⟨g,o+4,none⟩=some (.slice (some ⟨mb,off,none⟩) b.ah.length z1))) (jQ (by kernel_rfl) aeT) (by kernel_rfl) (FL.out _ (Below.refl _ _)) (λaj al3=>?_);refine tks 0 0 18 aj al3 ?_;refine tks 1 2 20 aj al3 ?_;refine tks 2 3 21 aj al3 ?_;refine tks 3 4 22 aj al3 ?_;refine tks 4 5 23 aj al3 ?_;refine tks 5 6 24 aj al3 ?_;refine tks 6 7 25 aj al3 ?_;refine tks 7 9 27 aj al3 ?_;refine tks 8 10 28 aj al3 ?_
 refine tks 9 11 29 aj al3 ?_;refine tks 10 12 30 aj al3 ?_;refine tks 11 13 31 aj al3 ?_;refine tks 12 14 32 aj al3 ?_;refine tks 13 15 33 aj al3 ?_;refine cls 14 1 aj (by decide) rfl rfl (λK hK=>?_);go_simp;have AB:Below w1.drew.heap.size w1.drew (w1.drew.alloc (.cells #[] 77)):=bn _ _;have FM:=aU (lK w1.drew 77 4 w1.drew.heap.size (Nat.le_refl _));refine hK.out _ _ (FL.out _ AB) (λal3=>?_);clear hK K;refine cls 15 8 aj (by decide) rfl rfl (λK hK=>?_)
 refine eZ (by kernel_rfl) (U3 (B:=w1.drew.heap.size) 26 rfl (.tmp 19) (.tmp 25) rfl FM.out ((OG.out _ AB).take hti) (EU _) Tryz.underlying67 hi hz0 hz1 hz2 rfl (by omega) rfl rfl hl1 hl2 AB.size ?_);intro V8 x8 ya rC Wt Fg Fh Nt;have D8:Below w1.drew.heap.size w1.drew x8:=nW AB Fh (λj hj=>dS FM.out hj);obtain⟨ma,mn,mc,Nv⟩:=jO rC;subst Nv;refine hK.out _ _ (FL.out _ D8) (λal3=>?_);clear hK K;refine cls 16 16 aj (by decide) rfl rfl (λK hK=>?_)
 refine eZ (by kernel_rfl) (U3 (B:=w1.drew.heap.size) 34 rfl (.tmp 26) (.tmp 33) rfl rC ((OG.out _ D8).drop' htd) (EU _) Tryz.underlying67 hi hz0 hz1 hz2 rfl (by omega) rfl rfl hl3 hl4 D8.size ?_);intro V16 Wu yb OH Wv Ww Wx ae1;have Cm:Below w1.drew.heap.size w1.drew Wu:=nW D8 Wx (λj hj=>dS rC hj);obtain⟨na,nn,nc,ae2⟩:=jO OH;subst ae2;refine hK.out _ _ (FL.out _ Cm) (λal3=>?_);clear hK K;refine kC (S':=λw'=>True) 17 20 aj (by decide) (trivial) (λal3=>?_);refine tks 17 17 35 aj al3 ?_;refine tks 18 18 36 aj al3 ?_;have HQ:Hid _:=aeZ gT.out Cm OH Wt Fg Wv Ww
 have gc:=gT.out.below Cm;obtain⟨v0,v1,v2,-,-,-,-,k0,k1,k2,k3,k4,k5,k6⟩:=gc.cells;have gz:=gc.open;have gl:=gc.lt;have OI:=aU (eB (k:=g) (i:=o+4) (v:=.slice na nn nc) (aA Cm Ws.out) (by omega));refine cls 19 19 aj (by decide) rfl rfl (λK hK=>?_);go_simp;refine hK.out _ _ (trivial) (λal3=>?_);clear hK K;refine jS aj ?_;clear gc gz gl k0 k1 k2 k3 k4 k5 k6 Fg Wt Fh Nt Ww Wv Wx ae1 rC OH D8 AB FM OG FL hl1 hl2 hl3 hl4 hiz hwr htn hb0 hb1 gT Ws;go_upto_region 2 with fail
 have ae3:=aU Cm;clear Cm;generalize Wu.setCell ⟨g,o+4,none⟩ (.slice na nn nc)=w2 at HQ OI ⊢;have jX:Hid (aG w2.drew (λk=>S k\/w1.drew.heap.size<=k) g o _):=HQ.out.1.below (bd _ _);have HT2:Hid (Turns w w2.drew S g o):=Turns.trans (Turns.trans HT1.out HQ.out.2 (λk h=>.inr (Nat.le_trans HT1.out.1 h))) (oH (S:=S) (bd _ _)) (λk h=>.inl h);have jJ:=aU (aA (bd _ _) OI.out);have vG:Hid (w.heap.size<=w1.drew.heap.size):=HT1.out.1;have nX:Hid (w1.drew.heap.size<=w2.drew.heap.size):=HQ.out.2.1;clear HQ OI HT1 ae3
 go_cut [4] (λs wx=>s=.pointer (some ⟨w.heap.size,0,none⟩)/\Hid (aG wx (λk=>S k\/w1.drew.heap.size<=k) g o ⟨b.name,b.valid,b.next,b.seq,b.ah.take i ++ b.ah.drop (i+1),b.au ++ [⟨m.uid,b.seq⟩],b.lost⟩)/\Hid (Turns w2.drew wx (λk=>S k\/w1.drew.heap.size<=k) g o))
 case first =>
  obtain⟨v0,v1,v2,g0,g1,g2,gi,c0,c1,c2,c3,c4,c5,c6⟩:=jX.out.cells;simp only at c0 c1 c2 c3 c4 c5 c6 g0 g1 g2 gi;obtain⟨ga,gc,rfl,-⟩:=g2.1.form;have OJ:Hid (∀x,Below w2.drew.heap.size w2.drew x->jF x (.slice ga b.au.length gc) b.au):=λx h=>g2.1.below kN h;obtain⟨t0,t1⟩:=Wo jJ.out;have HS2:Hid (∀w',Below w2.drew.heap.size w2.drew w'->(w'.cell? ⟨g,o+5,none⟩=some (.slice ga b.au.length gc)/\w'.cell? ⟨w.heap.size,0,none⟩=some (.int .i64 m.uid)/\w'.cell? ⟨w.heap.size,1,none⟩=some (.int .i64 b.seq))):=λw' h=>⟨cell_later h c5,cell_later h t0,cell_later h t1⟩
  have hg1:b.au.length<=maxLen:=by unfold maxLen;omega
  have hg2:b.au.length * 16<=140737488355328:=by omega
  have hg3:b.au.length+1<=maxLen:=by unfold maxLen;omega
  have hg4:(b.au.length+1) * 16<=140737488355328:=by omega
  have akX:=jX.out.lt;have KQ:=lt_of_heap jJ.out;clear g0 g1 g2 gi c0 c1 c2 c3 c4 c5 c6 t0 t1;refine QO 10 (S:=λw'=>(w'.cell? ⟨g,o+5,none⟩=some (.slice ga b.au.length gc)/\w'.cell? ⟨w.heap.size,0,none⟩=some (.int .i64 m.uid)/\w'.cell? ⟨w.heap.size,1,none⟩=some (.int .i64 b.seq))) (Ai (by kernel_rfl) aeU) (Ai (by kernel_rfl) aeV) (Ai (by kernel_rfl) aeW) (by kernel_rfl) (HS2.out _ (Below.refl _ _)) (λaj E8 E9 al3=>?_);have Nj:=aU aj;have Fa:=aU E8;have Nk:=aU E9;clear E8 E9;have D0:Hid (Below w2.drew.heap.size w2.drew w2.drew):=Below.refl _ _;generalize w2.drew=wb at *
  refine fB 0 0 37 aj al3 ?_;refine fB 1 2 39 aj al3 ?_;refine fB 2 3 40 aj al3 ?_;refine fB 3 4 41 aj al3 ?_;refine fB 4 5 42 aj al3 ?_;refine fB 5 7 44 aj al3 ?_;refine Hg 6 [1,8] (by kernel_rfl) (by decide) (by decide) (by simp) ?_;refine(kQ.cons [0,2,3,4,5,7,1,8,6,9,10,11,12] rfl (by decide) (by decide) (λK hK=>?_) (kQ.cons [0,2,3,4,5,7,8,1,6,9,10,11,12] rfl (by decide) (by decide) (λK hK=>?_) kQ.nil))
  ·have aj:=Fa.out
   go_simp;have Wy:Below wb.heap.size wb (wb.alloc (.cells #[] 115)):=bn _ _;have D1:Hid (Below wb.heap.size wb (wb.alloc (.cells #[] 115))):=Below.step D0.out Wy;have FN:Hid _:=lK wb 115 2 wb.heap.size D0.out.size;refine hK.out _ _ (HS2.out _ D1.out) (λal3=>?_);clear hK K Wy;generalize wb.alloc (.cells #[] 115)=y1 at al3 D1 FN ⊢;refine Hg 7 [6,8] (by kernel_rfl) (by decide) (by decide) (by simp) ?_;refine(kQ.cons [0,2,3,4,5,7,1,6,8,9,10,11,12] rfl (by decide) (by decide) (λK hK=>?_) (kQ.cons [0,2,3,4,5,7,1,8,6,9,10,11,12] rfl (by decide) (by decide) (λK hK=>?_) kQ.nil))
   ·have aj:=Nk.out
    refine eZ (by kernel_rfl) (mI (B:=wb.heap.size) 43 rfl (.tmp 38) (.tmp 42) rfl FN.out (OJ.out _ D1.out) (GV _) Tryz.underlying68 hj hy0 hy1 hy2 rfl (by omega) rfl rfl hg1 hg2 D1.out.size ?_);intro V2 y2 xg hO2 hX2 hG2 hB2;have FP:Hid _:=hX2;have FQ:Hid (xg.length=b.au.length * 2):=hO2.1;have ae4:y1.grownBy y2 (some (wb.heap.size)):=hG2;have D2:Hid (Below wb.heap.size wb y2):=lQ D1.out ae4 (dS FN.out rfl);have ae5:Hid _:=hO2;obtain⟨qa,qn,qc,hV2⟩:=jO hO2;subst hV2;refine hK.out _ _ (HS2.out _ D2.out) (λal3=>?_);clear hK K hG2 hB2 hO2 hX2
    refine gX 8 8 aj (by decide) rfl rfl (λK hK=>?_);go_simp;have qd:Below y2.heap.size y2 (y2.alloc (.cells #[.int .i64 m.uid,.int .i64 b.seq] 115)):=bn _ _;have D3:Hid (Below wb.heap.size wb (y2.alloc (.cells #[.int .i64 m.uid,.int .i64 b.seq] 115))):=Below.step D2.out qd;have OM:Hid _:=own_below ae5.out qd;have Wz:Hid ((y2.alloc (.cells #[.int .i64 m.uid,.int .i64 b.seq] 115)).heap[y2.heap.size]?=some (.cells #[.int .i64 m.uid,.int .i64 b.seq] 115 (0,0))):=aW y2 _;refine hK.out _ _ (HS2.out _ D3.out) (λal3=>?_);clear hK K qd
    generalize y2.alloc (.cells #[.int .i64 m.uid,.int .i64 b.seq] 115)=y3 at al3 D3 OM Wz ⊢;refine gX 9 9 aj (by decide) rfl rfl (λK hK=>?_);refine eZ (by kernel_rfl) (Ch 46 rfl (.tmp 43) (.tmp 45) rfl OM.out Tryz.underlying68 hj hy0 hy1 hy2 rfl (by omega) rfl [.int .i64 m.uid,.int .i64 b.seq] rfl ⟨y2.heap.size,0,none⟩ 1 rfl (OC Wz.out) Js hg3 hg4 D3.out.size ?_);intro V4 y4 hO4 hG4 hB4;obtain⟨da,dn,dc,Np⟩:=jO hO4;subst Np;have D4:Hid (Below wb.heap.size wb y4):=nW D3.out hG4 (λj hj=>dS OM.out hj);have ae6:Hid _:=hO4;refine hK.out _ _ (HS2.out _ D4.out) (λal3=>?_)
    clear hK K hG4 hB4 hO4;refine Aj (S':=λ_=>True) 10 13 (by decide) trivial (λal3=>?_);refine fB 10 10 47 aj al3 ?_;refine fB 11 11 48 aj al3 ?_;refine gX 12 12 aj (by decide) rfl rfl (λK hK=>?_);have HQ:=OD jX.out (λk h=>.inr (Nat.le_trans nX.out h)) D4.out ae6.out FP.out FQ.out IM.out;have rD:=aU HQ.1;have rE:=aU HQ.2;clear HQ;have gc:=jX.out.below D4.out;obtain⟨v0,v1,v2,-,-,-,-,k0,k1,k2,k3,k4,k5,k6⟩:=gc.cells;have gz:=gc.open;have gl:=gc.lt;go_simp;refine hK.out _ _ trivial (λal3=>?_);clear hK K;refine Ak aj ?_;go_wp2
    all_goals go_meet
    all_goals exact⟨rfl,rD.out,rE.out⟩
   ·have aj:=Fa.out
    go_simp;have OP:Below y1.heap.size y1 (y1.alloc (.cells #[.int .i64 m.uid,.int .i64 b.seq] 115)):=bn _ _;have D5:Hid (Below wb.heap.size wb (y1.alloc (.cells #[.int .i64 m.uid,.int .i64 b.seq] 115))):=Below.step D1.out OP;have hne5:y1.heap.size≠wb.heap.size:=Nat.ne_of_gt (aeX FN.out);have OQ:Hid _:=own_below FN.out OP;have WA:Hid ((y1.alloc (.cells #[.int .i64 m.uid,.int .i64 b.seq] 115)).heap[y1.heap.size]?=some (.cells #[.int .i64 m.uid,.int .i64 b.seq] 115 (0,0))):=aW y1 _;refine hK.out _ _ (HS2.out _ D5.out) (λal3=>?_);clear hK K OP
    generalize y1.alloc (.cells #[.int .i64 m.uid,.int .i64 b.seq] 115)=y5 at al3 D5 OQ WA ⊢;refine gX 8 6 aj (by decide) rfl rfl (λK hK=>?_);refine eZ (by kernel_rfl) (mI (B:=wb.heap.size) 43 rfl (.tmp 38) (.tmp 42) rfl OQ.out (OJ.out _ D5.out) (GV _) Tryz.underlying68 hj hy0 hy1 hy2 rfl (by omega) rfl rfl hg1 hg2 D5.out.size ?_);intro V6 y6 xg gH yD je uE;have FP:Hid _:=yD;have FQ:Hid (xg.length=b.au.length * 2):=gH.1;have WC:y5.grownBy y6 (some (wb.heap.size)):=je;have D6:Hid (Below wb.heap.size wb y6):=lQ D5.out WC (dS OQ.out rfl);have ae7:Hid _:=uf WC WA.out hne5;have WE:Hid _:=gH
    obtain⟨qa,qn,qc,hV6⟩:=jO gH;subst hV6;refine hK.out _ _ (HS2.out _ D6.out) (λal3=>?_);clear hK K je uE gH yD;refine gX 9 9 aj (by decide) rfl rfl (λK hK=>?_);refine eZ (by kernel_rfl) (Ch 46 rfl (.tmp 43) (.tmp 45) rfl WE.out Tryz.underlying68 hj hy0 hy1 hy2 rfl (by omega) rfl [.int .i64 m.uid,.int .i64 b.seq] rfl ⟨y1.heap.size,0,none⟩ 1 rfl (OC ae7.out) Js hg3 hg4 D6.out.size ?_);intro V7 y7 zG Fw Om;obtain⟨da,dn,dc,hV7⟩:=jO zG;subst hV7;have D7:Hid (Below wb.heap.size wb y7):=nW D6.out Fw (λj hj=>dS WE.out hj);have afa:Hid _:=zG
    refine hK.out _ _ (HS2.out _ D7.out) (λal3=>?_);clear hK K Fw Om zG;refine Aj (S':=λ_=>True) 10 13 (by decide) trivial (λal3=>?_);refine fB 10 10 47 aj al3 ?_;refine fB 11 11 48 aj al3 ?_;refine gX 12 12 aj (by decide) rfl rfl (λK hK=>?_);have HQ:=OD jX.out (λk h=>.inr (Nat.le_trans nX.out h)) D7.out afa.out FP.out FQ.out IM.out;have rD:=aU HQ.1;have rE:=aU HQ.2;clear HQ;have gc:=jX.out.below D7.out;obtain⟨v0,v1,v2,-,-,-,-,k0,k1,k2,k3,k4,k5,k6⟩:=gc.cells;have gz:=gc.open;have gl:=gc.lt;go_simp;refine hK.out _ _ trivial (λal3=>?_);clear hK K;refine Ak aj ?_;go_wp2
    all_goals go_meet
    all_goals exact⟨rfl,rD.out,rE.out⟩
  ·have aj:=Nj.out
   go_simp;have WG:Below wb.heap.size wb (wb.alloc (.cells #[.int .i64 m.uid,.int .i64 b.seq] 115)):=bn _ _;have D8:Hid (Below wb.heap.size wb (wb.alloc (.cells #[.int .i64 m.uid,.int .i64 b.seq] 115))):=Below.step D0.out WG;have OT:Hid ((wb.alloc (.cells #[.int .i64 m.uid,.int .i64 b.seq] 115)).heap[wb.heap.size]?=some (.cells #[.int .i64 m.uid,.int .i64 b.seq] 115 (0,0))):=aW wb _;refine hK.out _ _ (HS2.out _ D8.out) (λal3=>?_);clear hK K WG;generalize wb.alloc (.cells #[.int .i64 m.uid,.int .i64 b.seq] 115)=y8 at al3 D8 OT ⊢;refine gX 7 1 aj (by decide) rfl rfl (λK hK=>?_);go_simp
   have vH:Below y8.heap.size y8 (y8.alloc (.cells #[] 115)):=bn _ _;have D9:Hid (Below wb.heap.size wb (y8.alloc (.cells #[] 115))):=Below.step D8.out vH;have afb:wb.heap.size≠y8.heap.size:=Nat.ne_of_lt (lt_of_heap OT.out);have WH:Hid _:=aA vH OT.out;have OU:Hid _:=lK y8 115 2 wb.heap.size D8.out.size;refine hK.out _ _ (HS2.out _ D9.out) (λal3=>?_);clear hK K vH;generalize y8.alloc (.cells #[] 115)=y9 at al3 D9 OU WH ⊢;refine gX 8 6 aj (by decide) rfl rfl (λK hK=>?_)
   refine eZ (by kernel_rfl) (mI (B:=wb.heap.size) 43 rfl (.tmp 38) (.tmp 42) rfl OU.out (OJ.out _ D9.out) (GV _) Tryz.underlying68 hj hy0 hy1 hy2 rfl (by omega) rfl rfl hg1 hg2 D9.out.size ?_);intro V10 WI xg xK WJ FR afc;have FP:Hid _:=WJ;have FQ:Hid (xg.length=b.au.length * 2):=xK.1;have WK:y9.grownBy WI (some (y8.heap.size)):=FR;have OV:Hid (Below wb.heap.size wb WI):=lQ D9.out WK (dS OU.out rfl);have afd:Hid _:=uf WK WH.out afb;have WL:Hid _:=xK;obtain⟨qa,qn,qc,afe⟩:=jO xK;subst afe;refine hK.out _ _ (HS2.out _ OV.out) (λal3=>?_);clear hK K FR afc xK WJ
   refine gX 9 9 aj (by decide) rfl rfl (λK hK=>?_);refine eZ (by kernel_rfl) (Ch 46 rfl (.tmp 43) (.tmp 45) rfl WL.out Tryz.underlying68 hj hy0 hy1 hy2 rfl (by omega) rfl [.int .i64 m.uid,.int .i64 b.seq] rfl ⟨wb.heap.size,0,none⟩ 1 rfl (OC afd.out) Js hg3 hg4 OV.out.size ?_);intro V11 y11 OW WM afg;obtain⟨da,dn,dc,afh⟩:=jO OW;subst afh;have xE:Hid (Below wb.heap.size wb y11):=nW OV.out WM (λj hj=>dS WL.out hj);have afi:Hid _:=OW;refine hK.out _ _ (HS2.out _ xE.out) (λal3=>?_);clear hK K WM afg OW;refine Aj (S':=λ_=>True) 10 13 (by decide) trivial (λal3=>?_)
   refine fB 10 10 47 aj al3 ?_;refine fB 11 11 48 aj al3 ?_;refine gX 12 12 aj (by decide) rfl rfl (λK hK=>?_);have HQ:=OD jX.out (λk h=>.inr (Nat.le_trans nX.out h)) xE.out afi.out FP.out FQ.out IM.out;have rD:=aU HQ.1;have rE:=aU HQ.2;clear HQ;have gc:=jX.out.below xE.out;obtain⟨v0,v1,v2,-,-,-,-,k0,k1,k2,k3,k4,k5,k6⟩:=gc.cells;have gz:=gc.open;have gl:=gc.lt;go_simp;refine hK.out _ _ trivial (λal3=>?_);clear hK K;refine Ak aj ?_;go_wp2
   all_goals go_meet
   all_goals exact⟨rfl,rD.out,rE.out⟩
 case rest =>
  obtain⟨rfl,OX,HT3⟩:=hcut
  rename World=>w3
  have HT:Hid (Turns w w3 S g o):=Turns.trans HT2.out HT3.out (λk h=>h.imp id λh=>Nat.le_trans vG.out h);have hgs:(b.au ++ [(⟨m.uid,b.seq⟩:bE)]).length<=2000001:=by simp;omega
  have HX:Hid (dK b i=⟨b.name,b.valid,b.next,b.seq,b.ah.take i ++ b.ah.drop (i+1),(iQ b.lost (b.au ++ [⟨m.uid,b.seq⟩])).2,(iQ b.lost (b.au ++ [⟨m.uid,b.seq⟩])).1⟩):=by
   show dK b i=_;unfold dK;rw[HMI.out]
  clear jX HT2 jJ HT3;generalize (b.au ++ [(⟨m.uid,b.seq⟩:bE)])=gs at OX HX hgs;go_wp2
  go_loopw [49] (λ_ wr=>∃(k:Nat) (lk:Int),k<=gs.length/\Hid (iQ b.lost gs=iQ lk (gs.drop k))/\Hid (aG wr (λk=>S k\/w1.drew.heap.size<=k) g o ⟨b.name,b.valid,b.next,b.seq,b.ah.take i ++ b.ah.drop (i+1),gs.drop k,lk⟩)/\Hid (Turns w wr S g o)) (λ_ wr=>zu wr g o)
  case atStart=>exact⟨0,b.lost,Nat.zero_le _,rfl,OX.out,HT.out⟩
  case round =>
   obtain⟨k,lk,hk,hTr,hP,hT⟩:=hrel;clear OX HT;obtain⟨v0,v1,v2,g0,g1,g2,gi,c0,c1,c2,c3,c4,c5,c6⟩:=hP.out.cells;simp only at c0 c1 c2 c3 c4 c5 c6 g0 g1 g2 gi;have hz:=hP.out.open;have hl:=hP.out.lt;have HG2:Hid (iR wr (λk=>S k\/w1.drew.heap.size<=k) v2 (gs.drop k)):=g2;have hdl:(gs.drop k).length=gs.length - k:=by simp
   by_cases h40:40 < (gs.drop k).length
   ·obtain⟨x,hx⟩:∃x,(gs.drop k)[0]?=some x:=⟨(gs.drop k)[0],bK (by omega)⟩
    obtain⟨bq,qo,gc,rfl,hlq,q0,q1,qi0,qi1⟩:=g2.1.cell 0 x hx;have hgc:(gs.drop k).length<=gc:=by obtain⟨_,_,e,h,-⟩:=g2.1.form;cases e;exact h
    have afk:(40:Int) < ((gs.drop k).length:Int):=by omega
    have hi0:(0:Int) < ((gs.drop k).length:Int):=by omega
    rw[Nat.zero_mul,Nat.add_zero] at q0 q1;have nA:Hid (gs[k]?=some x):=by
     show gs[k]?=some x;rw[List.getElem?_drop,Nat.add_zero] at hx;exact hx
    have vI:Hid (aG (wr.setCell ⟨g,o+6,none⟩ (.int .i64 x.seq)) (λk=>S k\/w1.drew.heap.size<=k) g o _):=hP.out.U0 x.seq qi1;have WO:Hid (Turns w (wr.setCell ⟨g,o+6,none⟩ (.int .i64 x.seq)) S g o):=Turns.trans hT.out (mR (S':=S) hP.out (by omega)) (λk h=>.inl h);have HTR:Hid (iQ b.lost gs=iQ x.seq (gs.drop (k+1))):=by
     show iQ b.lost gs=_;rw[hTr.out,ada nA.out (by omega)]
    have HGL:Hid (zu wr g o=(gs.drop k).length):=by show zu wr g o=_;unfold zu;rw[c5]
    have QL:Hid (gs.drop k=(gs.drop k)):=rfl;clear g0 g1 g2 gi hx;go_upto_region 5 with fail
    clear c0 c1 c2 c3 c4 c5 c6 hz hl q0 q1 hlq;generalize wr.setCell ⟨g,o+6,none⟩ (.int .i64 x.seq)=wl at vI WO ⊢;obtain⟨v0,v1,v2,g0,g1,g2,gi,c0,c1,c2,c3,c4,c5,c6⟩:=vI.out.cells;simp only at c0 c1 c2 c3 c4 c5 c6 g0 g1 g2 gi;have hz:=vI.out.open;have hl:=vI.out.lt;obtain⟨ga,gc',rfl,ak2,-⟩:=g2.1.form;have hga:∃xL xM,ga=some ⟨xL,xM,none⟩:=by
     obtain⟨x',hx'⟩:∃x,(gs.drop k)[0]?=some x:=⟨(gs.drop k)[0],bK (by omega)⟩;obtain⟨xL,xM,_,e,-⟩:=g2.1.cell 0 x' hx';cases e
     exact⟨xL,xM,rfl⟩
    obtain⟨xL,xM,rfl⟩:=hga;have hone:¬gc'=1:=by omega
    have h1l:(1:Int)<=((gs.drop k).length:Int):=by omega
    have HGT:Hid (iR wl (λk=>S k\/w1.drew.heap.size<=k) (.slice (some ⟨xL,xM+2,none⟩) (gs.length - k - 1) (gc' - 1)) (gs.drop (k+1))):=by
     have:=adg g2 (by omega);rw[List.drop_drop,List.length_drop] at this;exact this
    have WQ:Hid (aG (wl.setCell ⟨g,o+5,none⟩ (.slice (some ⟨xL,xM+2,none⟩) (gs.length - k - 1) (gc' - 1))) (λk=>S k\/w1.drew.heap.size<=k) g o _):=vI.out.M4 HGT.out;have HTG:Hid (Turns w (wl.setCell ⟨g,o+5,none⟩ (.slice (some ⟨xL,xM+2,none⟩) (gs.length - k - 1) (gc' - 1))) S g o):=Turns.trans WO.out (mR (S':=S) vI.out (by omega)) (λk h=>.inl h);have afp:Hid (zu (wl.setCell ⟨g,o+5,none⟩ (.slice (some ⟨xL,xM+2,none⟩) (gs.length - k - 1) (gc' - 1))) g o=gs.length - k - 1):=by
     show zu _ g o=_;obtain⟨_,_,_,_,_,_,_,_,_,_,_,_,k5,_⟩:=WQ.out.cells;unfold zu;rw[aeY vI.out.fit vI.out.ty (by omega) (let ⟨cur,_,hh,_⟩:=vI.out;⟨cur,hh⟩)]
    clear g0 g1 g2 gi;go_wp2;go_roundw
    case rel=>exact⟨k+1,x.seq,by omega,HTR.out,WQ.out,HTG.out⟩
    case measure=>rw[afp.out,HGL.out,List.length_drop];omega
   ·have HE:Hid (iQ b.lost gs=(lk,gs.drop k)):=by
     show iQ b.lost gs=_;rw[hTr.out,ac7 (by omega)]
    have afk:¬((40:Int) < ((gs.drop k).length:Int)):=by omega
    obtain⟨ga,gc,rfl,-⟩:=g2.1.form;clear g0 g1 g2 gi;go_wp2
    go_end0
    refine⟨rfl,hT.out,?_⟩;rw[HX.out,HE.out];exact aG.mono hP.out λk h=>h.imp id λh=>Nat.le_trans vG.out h
end Go.Proofs.YtfabngnaejjcmaaGreatDoor
