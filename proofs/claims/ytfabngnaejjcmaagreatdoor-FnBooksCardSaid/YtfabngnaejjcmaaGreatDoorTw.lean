/- The proof's texts, part 32. -/
import Derived.Test.YtfabngnaejjcmaaGreatDoorTq
import Derived.Test.YtfabngnaejjcmaaGreatDoorTu
namespace Go.Proofs.YtfabngnaejjcmaaGreatDoor
open Go.RowKit
set_option linter.unusedVariables false
set_option linter.unusedSimpArgs false
set_option maxHeartbeats 8000000
set_option maxRecDepth 100000
/- What adt of package spec does. -/
theorem afv {n k:Nat} {b:aB} {m:aL} (h:b.ah[k]?=some m) (hd:jo m=true):lC (n+1) b k=lC n (dK b k) k:=by rw[lC,h];simp[hd]
theorem afw {n k:Nat} {b:aB} {m:aL} (h:b.ah[k]?=some m) (hd:jo m=false):lC (n+1) b k=lC n b (k+1):=by rw[lC,h];simp[hd]
theorem afx (g o:Nat) (b:aB) (S:Nat->Prop) (w:World) (hp:aG w S g o b) (hml:b.ah.length<=900000) (hgl:b.au.length<=900000) :
  Calls Tryz.prog 70 #[.pointer (some ⟨g,o,none⟩)] w λe w'=>∃u,e=.returned u/\jr w' u (mQ b).2/\Turns w w' S g o/\aG w' (λk=>S k\/w.heap.size<=k) g o (mQ b).1:=by
 have bX:g < w.heap.size:=hp.lt;have B1:Below w.heap.size w (w.alloc (.cells #[.int .i64 0,.int .i64 0,.slice none 0 0,.int .i64 0,.int .i64 0,.int .i64 0,.slice none 0 0,.slice none 0 0,.int .i64 0,.slice none 0 0] 73)):=bn _ _;have HP:Hid (aG (w.alloc (.cells #[.int .i64 0,.int .i64 0,.slice none 0 0,.int .i64 0,.int .i64 0,.int .i64 0,.slice none 0 0,.slice none 0 0,.int .i64 0,.slice none 0 0] 73)) (λk=>S k/\k < w.heap.size) g o b):=hp.cut.below B1
 have HT1:Hid (Turns w (w.alloc (.cells #[.int .i64 0,.int .i64 0,.slice none 0 0,.int .i64 0,.int .i64 0,.int .i64 0,.slice none 0 0,.slice none 0 0,.int .i64 0,.slice none 0 0] 73)) S g o):=oH B1;have aR:Hid _:=aW w (.cells #[.int .i64 0,.int .i64 0,.slice none 0 0,.int .i64 0,.int .i64 0,.int .i64 0,.slice none 0 0,.slice none 0 0,.int .i64 0,.slice none 0 0] 73);have Cu:Hid ((w.alloc (.cells #[.int .i64 0,.int .i64 0,.slice none 0 0,.int .i64 0,.int .i64 0,.int .i64 0,.slice none 0 0,.slice none 0 0,.int .i64 0,.slice none 0 0] 73)).heap.size=w.heap.size+1):=by show _=_;simp
 have hS0:¬(S w.heap.size/\w.heap.size < w.heap.size):=λh=>Nat.lt_irrefl _ h.2;clear B1 hp
 go_enter Tryz.func70,Tryz.ntmps70;go_wp2;generalize w.alloc (.cells #[.int .i64 0,.int .i64 0,.slice none 0 0,.int .i64 0,.int .i64 0,.int .i64 0,.slice none 0 0,.slice none 0 0,.int .i64 0,.slice none 0 0] 73)=w1 at HP HT1 aR Cu ⊢;have sw1:w.heap.size < w1.heap.size:=by have:=Cu.out;omega
 go_loopw [3,4] (λnv iv wr=>∃k:Nat,k<=b.ah.length/\iv=.int .i64 k/\nv=.int .i64 (((b.ah.take k).countP jo:Nat):Int)/\wr=w1) (λ_ iv _=>b.ah.length - (intOf iv).toNat)
 case atStart=>exact⟨0,Nat.zero_le _,rfl,by simp,rfl⟩
 case round =>
  obtain⟨k,hk,rfl,rfl,hwr⟩:=hrel;subst hwr;obtain⟨u0,u1,u2,h0,h1,h2,hint,c0,c1,c2,c3,c4,c5,c6⟩:=HP.out.cells;have tK:g < wr.heap.size:=by omega
  have hcn:(b.ah.take k).countP jo<=k:=Nat.le_trans List.countP_le_length (by simp;omega)
  by_cases hlt:k < b.ah.length
  ·obtain⟨m,hm⟩:∃m,b.ah[k]?=some m:=⟨b.ah[k],bK hlt⟩
   obtain⟨mb,off,z1,mu,hv',hlm,f0,f1,f2,f3,-,vD,xw,tJ⟩:=h1.v.cell k m hm;subst hv';have hki:(k:Int) < b.ah.length:=by omega
   have HM:Hid (b.ah[k]?=some m):=hm;clear h0 h1 h2 hint c0 c1 c2 c3 c5 c6 f0 f2 f3 vD xw tJ hm;cases hd:jo m with
   | true =>
    have e1:decide (0 < bits .and .i64 m.flags 8)=true:=hd;have HC:Hid ((((b.ah.take (k+1)).countP jo:Nat):Int)=(((b.ah.take k).countP jo:Nat):Int)+1):=by show _=_;rw[Vk HM.out,hd];simp
    clear hd;go_wp2;go_roundw
    case rel=>exact⟨k+1,by omega,by go_num,by rw[HC.out],trivial⟩
    case measure=>simp[intOf];omega
   | false =>
    have e1:decide (0 < bits .and .i64 m.flags 8)=false:=hd;have HC:Hid ((((b.ah.take (k+1)).countP jo:Nat):Int)=(((b.ah.take k).countP jo:Nat):Int)):=by show _=_;rw[Vk HM.out,hd];simp
    clear hd;go_wp2;go_roundw
    case rel=>exact⟨k+1,by omega,by go_num,by rw[HC.out],trivial⟩
    case measure=>simp[intOf];omega
  ·obtain rfl:k=b.ah.length:=by omega
   obtain⟨a1,z1,rfl,-⟩:=h1.v.form;rw[List.take_length] at hcn ⊢;have i2:=hint.2.2.1;clear h0 h1 h2 hint c0 c1 c2 c5 c6
   by_cases hn0:b.ah.countP jo=0
   ·have HX:Hid (mQ b=(b,bJ 0 0)):=by show _=_;unfold mQ;rw[if_pos hn0]
    rw[hn0];obtain⟨r0,r1,r2,r3,r4,r5,r6,r7,r8,r9⟩:=bf aR.out;have fz:∀i,wr.frozen? ⟨w.heap.size,i,none⟩=false:=λi=>frozen_of_row _ _ i _ _ aR.out;have hlr:=lt_of_heap aR.out;have HF:Hid _:=JC aR.out (Nat.le_refl _) HT1.out _ _ HP.out bX hS0 (0) (0) ⟨aK,aK⟩;go_wp2;obtain⟨f0,f1,f2,f3,f4,f5,f6,f7,f8,f9⟩:=bf HF.out.1;refine bodyPost_ret (v:=.agg #[.int .i64 0,.int .i64 0,.slice none 0 0,.int .i64 0,.int .i64 0,.int .i64 0,.slice none 0 0,.slice none 0 0,.int .i64 0,.slice none 0 0]) (by simp[results,Tryz.results70,go_sem,f0,f1,f2,f3,f4,f5,f6,f7,f8,f9]) rfl ⟨_,rfl,?_,HF.out.2.1,?_⟩
    ·rw[HX.out]
     exact HF.out.2.2.2
    ·rw[HX.out]
     exact aG.mono HF.out.2.2.1 λk h=>.inl h.1
   ·have hn1:¬((b.ah.countP jo:Nat):Int)=0:=by omega
    have e0:(((b.ah.countP jo:Nat):Int) == 0)=false:=by simpa using hn0
    have JX:Hid (b.ah.countP jo<=b.ah.length):=hcn;generalize hN:b.ah.countP jo=N at *
    have sj:Hid (b.ah.countP jo=N):=hN;clear hN
    by_cases hfull:1000000<=b.seq
    ·have HX:Hid (mQ b=(b,bJ 3 0)):=by show _=_;unfold mQ;rw[sj.out,if_neg hn0,if_pos hfull]
     clear hn0 hn1;obtain⟨r0,r1,r2,r3,r4,r5,r6,r7,r8,r9⟩:=bf aR.out;have fz:∀i,wr.frozen? ⟨w.heap.size,i,none⟩=false:=λi=>frozen_of_row _ _ i _ _ aR.out;have hlr:=lt_of_heap aR.out;have HF:Hid _:=JC aR.out (Nat.le_refl _) HT1.out _ _ HP.out bX hS0 (3) (0) ⟨⟨by decide,by decide⟩,aK⟩;go_wp2;obtain⟨f0,f1,f2,f3,f4,f5,f6,f7,f8,f9⟩:=bf HF.out.1
     refine bodyPost_ret (v:=.agg #[.int .i64 3,.int .i64 0,.slice none 0 0,.int .i64 0,.int .i64 0,.int .i64 0,.slice none 0 0,.slice none 0 0,.int .i64 0,.slice none 0 0]) (by simp[results,Tryz.results70,go_sem,f0,f1,f2,f3,f4,f5,f6,f7,f8,f9]) rfl ⟨_,rfl,?_,HF.out.2.1,?_⟩
     ·rw[HX.out]
      exact HF.out.2.2.2
     ·rw[HX.out]
      exact aG.mono HF.out.2.2.1 λk h=>.inl h.1
    ·have HX:Hid (mQ b=(lC b.ah.length (eH b) 0,bJ 0 (N:Nat))):=by show _=_;unfold mQ;rw[sj.out,if_neg hn0,if_neg hfull]
     have b2:=i2.1;have hz:=HP.out.open;have O3:Hid (aG (wr.setCell ⟨g,o+3,none⟩ (.int .i64 (b.seq+1))) (λk=>S k/\k < w.heap.size) g o (eH b)):=HP.out.ET (b.seq+1) ⟨by omega,by omega⟩;have O4:Hid (Turns w (wr.setCell ⟨g,o+3,none⟩ (.int .i64 (b.seq+1))) S g o):=Turns.trans HT1.out (mR (S':=S) HP.out (by omega)) (λk h=>.inl h);have O5:Hid _:=eB (k:=g) (i:=o+3) (v:=.int .i64 (b.seq+1)) aR.out (by omega);have WW:(wr.setCell ⟨g,o+3,none⟩ (.int .i64 (b.seq+1))).heap.size=wr.heap.size:=dW;have HZS:Hid _:=WW;clear hn0 hn1 WW;go_wp2;clear c3 c4 hz
     generalize wr.setCell ⟨g,o+3,none⟩ (.int .i64 (b.seq+1))=w4 at O3 O4 O5 HZS ⊢;clear HP HT1 aR;have hSS:¬((S w.heap.size/\w.heap.size < w.heap.size)\/w.heap.size+1<=w.heap.size):=λh=>h.elim hS0 (λh=>by omega)
     go_loopw [5] (λiv wr=>∃(k:Nat) (bk:aB),k<=bk.ah.length/\iv=.int .i64 k/\bk.ah.length+bk.au.length<=1900000/\Hid (lC b.ah.length (eH b) 0=lC (bk.ah.length - k) bk k)/\Hid (aG wr (λk=>(S k/\k < w.heap.size)\/w.heap.size+1<=k) g o bk)/\Hid (Turns w wr S g o)/\Hid (wr.heap[w.heap.size]?=some (.cells #[.int .i64 0,.int .i64 0,.slice none 0 0,.int .i64 0,.int .i64 0,.int .i64 0,.slice none 0 0,.slice none 0 0,.int .i64 0,.slice none 0 0] 73 (0,0)))) (λiv wr=>E5 wr g o - (intOf iv).toNat)
     case atStart=>exact⟨0,eH b,Nat.zero_le _,rfl,by show b.ah.length+b.au.length<=_;omega,rfl,aG.mono O3.out λk h=>.inl h,O4.out,O5.out⟩
     case round =>
      rename World=>wq
      obtain⟨k,bk,hk,rfl,hbd,hE,hP,hT,hK⟩:=hrel;clear O3 O4 O5;obtain⟨u0,u1,u2,h0,h1,h2,hint,c0,c1,c2,c3,c4,c5,c6⟩:=hP.out.cells;have hlq:g < wq.heap.size:=hP.out.lt;have hwq:w.heap.size < wq.heap.size:=lt_of_heap hK.out
      by_cases hlt:k < bk.ah.length
      ·obtain⟨m,hm⟩:∃m,bk.ah[k]?=some m:=⟨bk.ah[k],bK hlt⟩
       obtain⟨mb,off,z1,mu,hv',hlm,f0,f1,f2,f3,-,vD,xw,tJ⟩:=h1.v.cell k m hm;subst hv';have hki:(k:Int) < bk.ah.length:=by omega
       have HM:Hid (bk.ah[k]?=some m):=hm;have WX:Hid (E5 wq g o=bk.ah.length):=hP.out.Vj;clear h0 h1 h2 hint c0 c1 c2 c3 c5 c6 f0 f2 f3 vD xw tJ hm;cases hd:jo m with
       | true =>
        have e1:decide (0 < bits .and .i64 m.flags 8)=true:=hd;have hdrop:=Wp g o k bk m _ wq hP.out HM.out (by omega) (by omega);have HD:=adu HM.out;have HE2:Hid (lC b.ah.length (eH b) 0=lC ((dK bk k).ah.length - k) (dK bk k) k):=by
         show _=_;rw[hE.out,show bk.ah.length - k=((dK bk k).ah.length - k)+1 by omega,afv HM.out hd]
        have HDh:Hid _:=HD;have hkd:k<=(dK bk k).ah.length:=by omega
        have afA:(dK bk k).ah.length+(dK bk k).au.length<=1900000:=by omega
        clear hd HD;go_wp2_with fail
        refine hdrop.mono ?_;rintro e w6 ⟨rfl,Cq,Cr⟩;have FT:Hid (aG w6 (λk=>(S k/\k < w.heap.size)\/w.heap.size+1<=k) g o (dK bk k)):=aG.mono Cr λk h=>h.elim id λh=>.inr (by omega);have vF:Hid (Turns w w6 S g o):=Turns.trans hT.out Cq (λk h=>h.elim (λh=>.inl h.1) (λh=>.inr (by omega)));have FU:Hid _:=(Cq.2.1 w.heap.size hwq (by omega) hSS).trans hK.out;have afB:Hid (E5 w6 g o=(dK bk k).ah.length):=Cr.Vj;clear hdrop Cq Cr hP hT hK;go_wp2;go_roundw
        case rel=>exact⟨k,dK bk k,hkd,by go_num,afA,HE2.out,FT.out,vF.out,FU.out⟩
        case measure=>rw[afB.out,WX.out];have:=HDh.out;simp[intOf];omega
       | false =>
        have e1:decide (0 < bits .and .i64 m.flags 8)=false:=hd;have HE2:Hid (lC b.ah.length (eH b) 0=lC (bk.ah.length - (k+1)) bk (k+1)):=by
         show _=_;rw[hE.out,show bk.ah.length - k=(bk.ah.length - (k+1))+1 by omega,afw HM.out hd]
        clear hd;go_wp2;go_roundw
        case rel=>exact⟨k+1,bk,by omega,by go_num,hbd,HE2.out,hP.out,hT.out,hK.out⟩
        case measure=>rw[WX.out];simp[intOf];omega
      ·have hkk:k=bk.ah.length:=by omega
       have WY:Hid (mQ b=(bk,bJ 0 (N:Nat))):=by
        show _=_;rw[HX.out,hE.out,hkk,Nat.sub_self];rfl
       have hNb:(N:Int)<=900000:=by have:=JX.out;omega
       subst hkk;obtain⟨a1,z1,rfl,-⟩:=h1.v.form;clear h0 h1 h2 hint c0 c1 c2 c3 c5 c6;obtain⟨r0,r1,r2,r3,r4,r5,r6,r7,r8,r9⟩:=bf hK.out;have fz:∀i,wq.frozen? ⟨w.heap.size,i,none⟩=false:=λi=>frozen_of_row _ _ i _ _ hK.out;have hlr:=lt_of_heap hK.out;have HF:Hid _:=JC hK.out (Nat.le_refl _) hT.out _ _ hP.out bX hSS (0) ((N:Int)) ⟨aK,by omega,by omega⟩;go_wp2;obtain⟨f0,f1,f2,f3,f4,f5,f6,f7,f8,f9⟩:=bf HF.out.1
       refine bodyPost_ret (v:=.agg #[.int .i64 0,.int .i64 (N:Int),.slice none 0 0,.int .i64 0,.int .i64 0,.int .i64 0,.slice none 0 0,.slice none 0 0,.int .i64 0,.slice none 0 0]) (by simp[results,Tryz.results70,go_sem,f0,f1,f2,f3,f4,f5,f6,f7,f8,f9]) rfl ⟨_,rfl,?_,HF.out.2.1,?_⟩
       ·rw[WY.out]
        exact HF.out.2.2.2
       ·rw[WY.out]
        exact aG.mono HF.out.2.2.1 λk h=>h.elim (λh=>.inl h.1) (λh=>.inr (by omega))
end Go.Proofs.YtfabngnaejjcmaaGreatDoor
