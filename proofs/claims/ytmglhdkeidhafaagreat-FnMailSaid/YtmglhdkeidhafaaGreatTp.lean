/- The proof's texts, part 25. -/
import Derived.Test.YtmglhdkeidhafaaGreatTi
import Derived.Test.YtmglhdkeidhafaaGreatTn
namespace Go.Proofs.YtmglhdkeidhafaaGreat
open Go.RowKit
set_option linter.unusedVariables false
set_option linter.unusedSimpArgs false
set_option maxHeartbeats 8000000
set_option maxRecDepth 100000
/- What XP of package spec does. -/
theorem Z6 {n k:Nat} {b:aA} {m:aC} (h:b.ah[k]?=some m) (hd:fD m=true):gD (n+1) b k=gD n (aV b k) k:=by rw [gD,h];simp [hd]
theorem Z7 {n k:Nat} {b:aA} {m:aC} (h:b.ah[k]?=some m) (hd:fD m=false):gD (n+1) b k=gD n b (k+1):=by rw [gD,h];simp [hd]
theorem Z8 (g o:Nat) (b:aA) (S:Nat→Prop) (w:World) (hp:aK w S g o b) (hml:b.ah.length≤900000) (hgl:b.au.length≤900000) :
  Calls Tryz.prog 91 #[.pointer (some ⟨g,o,none⟩)] w fun e w'=>∃ u,e=.returned u∧je w' u (gF b).2∧Turns w w' S g o∧aK w' (fun k=>S k∨w.heap.size≤k) g o (gF b).1:=by
 have bE:g < w.heap.size:=hp.lt
 have B1:Below w.heap.size w (w.alloc (.cells #[.int .i64 0,.int .i64 0,.slice none 0 0,.int .i64 0,.int .i64 0,.int .i64 0,.slice none 0 0,.slice none 0 0,.int .i64 0,.slice none 0 0] 37)):=bn _ _
 have HP:Hid (aK (w.alloc (.cells #[.int .i64 0,.int .i64 0,.slice none 0 0,.int .i64 0,.int .i64 0,.int .i64 0,.slice none 0 0,.slice none 0 0,.int .i64 0,.slice none 0 0] 37)) (fun k=>S k∧k < w.heap.size) g o b):=hp.cut.below B1
 have HT1:Hid (Turns w (w.alloc (.cells #[.int .i64 0,.int .i64 0,.slice none 0 0,.int .i64 0,.int .i64 0,.int .i64 0,.slice none 0 0,.slice none 0 0,.int .i64 0,.slice none 0 0] 37)) S g o):=nG B1
 have aQ:Hid _:=aW w (.cells #[.int .i64 0,.int .i64 0,.slice none 0 0,.int .i64 0,.int .i64 0,.int .i64 0,.slice none 0 0,.slice none 0 0,.int .i64 0,.slice none 0 0] 37)
 have zK:Hid ((w.alloc (.cells #[.int .i64 0,.int .i64 0,.slice none 0 0,.int .i64 0,.int .i64 0,.int .i64 0,.slice none 0 0,.slice none 0 0,.int .i64 0,.slice none 0 0] 37)).heap.size=w.heap.size+1):=by show _=_;simp
 have hS0:¬ (S w.heap.size∧w.heap.size < w.heap.size):=fun h=>Nat.lt_irrefl _ h.2
 clear B1 hp
 go_enter Tryz.func91,Tryz.ntmps91
 go_wp2
 generalize w.alloc (.cells #[.int .i64 0,.int .i64 0,.slice none 0 0,.int .i64 0,.int .i64 0,.int .i64 0,.slice none 0 0,.slice none 0 0,.int .i64 0,.slice none 0 0] 37)=w1 at HP HT1 aQ zK ⊢
 have sw1:w.heap.size < w1.heap.size:=by have:=zK.out;omega
 go_loopw [3,4] (fun nv iv wr=>∃ k:Nat,k≤b.ah.length∧iv=.int .i64 k∧nv=.int .i64 (((b.ah.take k).countP fD:Nat):Int)∧wr=w1) (fun _ iv _=>b.ah.length - (intOf iv).toNat)
 case atStart=>exact ⟨0,Nat.zero_le _,rfl,by simp,rfl⟩
 case round =>
  obtain ⟨k,hk,rfl,rfl,hwr⟩:=hrel
  subst hwr
  obtain ⟨u0,u1,u2,h0,h1,h2,hint,c0,c1,c2,c3,c4,c5,c6⟩:=HP.out.cells
  have sF:g < wr.heap.size:=by omega
  have hcn:(b.ah.take k).countP fD≤k:=Nat.le_trans List.countP_le_length (by simp;omega)
  by_cases hlt:k < b.ah.length
  ·obtain ⟨m,hm⟩:∃ m,b.ah[k]?=some m:=⟨b.ah[k],aL hlt⟩
   obtain ⟨mb,off,z1,mu,hv',hlm,f0,f1,f2,f3,-,uD,vK,sD⟩:=h1.v.cell k m hm
   subst hv'
   have hki:(k:Int) < b.ah.length:=by omega
   have HM:Hid (b.ah[k]?=some m):=hm
   clear h0 h1 h2 hint c0 c1 c2 c3 c5 c6 f0 f2 f3 uD vK sD hm
   cases hd:fD m with
   | true =>
    have e1:decide (0 < bits .and .i64 m.flags 8)=true:=hd
    have HC:Hid ((((b.ah.take (k+1)).countP fD:Nat):Int)=(((b.ah.take k).countP fD:Nat):Int)+1):=by show _=_;rw [PS HM.out,hd];simp
    clear hd
    go_wp2
    go_roundw
    case rel=>exact ⟨k+1,by omega,by go_num,by rw [HC.out],trivial⟩
    case measure=>simp [intOf];omega
   | false =>
    have e1:decide (0 < bits .and .i64 m.flags 8)=false:=hd
    have HC:Hid ((((b.ah.take (k+1)).countP fD:Nat):Int)=(((b.ah.take k).countP fD:Nat):Int)):=by show _=_;rw [PS HM.out,hd];simp
    clear hd
    go_wp2
    go_roundw
    case rel=>exact ⟨k+1,by omega,by go_num,by rw [HC.out],trivial⟩
    case measure=>simp [intOf];omega
  ·obtain rfl:k=b.ah.length:=by omega
   obtain ⟨a1,z1,rfl,-⟩:=h1.v.form
   rw [List.take_length] at hcn ⊢
   have i2:=hint.2.2.1
   clear h0 h1 h2 hint c0 c1 c2 c5 c6
   by_cases hn0:b.ah.countP fD=0
   ·have HX:Hid (gF b=(b,aN 0 0)):=by show _=_;unfold gF;rw [if_pos hn0]
    rw [hn0]
    obtain ⟨r0,r1,r2,r3,r4,r5,r6,r7,r8,r9⟩:=aO aQ.out
    have fz:∀ i,wr.frozen? ⟨w.heap.size,i,none⟩=false:=fun i=>frozen_of_row _ _ i _ _ aQ.out
    have hlr:=lt_of_heap aQ.out
    have HF:Hid _:=ER aQ.out (Nat.le_refl _) HT1.out _ _ HP.out bE hS0 (0) (0) ⟨aI,aI⟩
    go_wp2
    obtain ⟨f0,f1,f2,f3,f4,f5,f6,f7,f8,f9⟩:=aO HF.out.1
    refine bodyPost_ret (v:=.agg #[.int .i64 0,.int .i64 0,.slice none 0 0,.int .i64 0,.int .i64 0,.int .i64 0,.slice none 0 0,.slice none 0 0,.int .i64 0,.slice none 0 0]) (by simp [results,Tryz.results91,go_sem,f0,f1,f2,f3,f4,f5,f6,f7,f8,f9]) rfl ⟨_,rfl,?_,HF.out.2.1,?_⟩
    ·rw [HX.out]
     exact HF.out.2.2.2
    ·rw [HX.out]
     exact aK.mono HF.out.2.2.1 fun k h=>.inl h.1
   ·have hn1:¬ ((b.ah.countP fD:Nat):Int)=0:=by omega
    have e0:(((b.ah.countP fD:Nat):Int) == 0)=false:=by simpa using hn0
    have kg:Hid (b.ah.countP fD≤b.ah.length):=hcn
    generalize hN:b.ah.countP fD=N at *
    have rM:Hid (b.ah.countP fD=N):=hN
    clear hN
    by_cases hfull:1000000≤b.seq
    ·have HX:Hid (gF b=(b,aN 3 0)):=by show _=_;unfold gF;rw [rM.out,if_neg hn0,if_pos hfull]
     clear hn0 hn1
     obtain ⟨r0,r1,r2,r3,r4,r5,r6,r7,r8,r9⟩:=aO aQ.out
     have fz:∀ i,wr.frozen? ⟨w.heap.size,i,none⟩=false:=fun i=>frozen_of_row _ _ i _ _ aQ.out
     have hlr:=lt_of_heap aQ.out
     have HF:Hid _:=ER aQ.out (Nat.le_refl _) HT1.out _ _ HP.out bE hS0 (3) (0) ⟨⟨by decide,by decide⟩,aI⟩
     go_wp2
     obtain ⟨f0,f1,f2,f3,f4,f5,f6,f7,f8,f9⟩:=aO HF.out.1
     refine bodyPost_ret (v:=.agg #[.int .i64 3,.int .i64 0,.slice none 0 0,.int .i64 0,.int .i64 0,.int .i64 0,.slice none 0 0,.slice none 0 0,.int .i64 0,.slice none 0 0]) (by simp [results,Tryz.results91,go_sem,f0,f1,f2,f3,f4,f5,f6,f7,f8,f9]) rfl ⟨_,rfl,?_,HF.out.2.1,?_⟩
     ·rw [HX.out]
      exact HF.out.2.2.2
     ·rw [HX.out]
      exact aK.mono HF.out.2.2.1 fun k h=>.inl h.1
    ·have HX:Hid (gF b=(gD b.ah.length (aX b) 0,aN 0 (N:Nat))):=by show _=_;unfold gF;rw [rM.out,if_neg hn0,if_neg hfull]
     have b2:=i2.1
     have hz:=HP.out.open
     have Kn:Hid (aK (wr.setCell ⟨g,o+3,none⟩ (.int .i64 (b.seq+1))) (fun k=>S k∧k < w.heap.size) g o (aX b)):=HP.out.su (b.seq+1) ⟨by omega,by omega⟩
     have Ko:Hid (Turns w (wr.setCell ⟨g,o+3,none⟩ (.int .i64 (b.seq+1))) S g o):=Turns.trans HT1.out (lK (S':=S) HP.out (by omega)) (fun k h=>.inl h)
     have Kq:Hid _:=cO (k:=g) (i:=o+3) (v:=.int .i64 (b.seq+1)) aQ.out (by omega)
     have Rj:(wr.setCell ⟨g,o+3,none⟩ (.int .i64 (b.seq+1))).heap.size=wr.heap.size:=bf
     have Z9:Hid _:=Rj
     clear hn0 hn1 Rj
     go_wp2
     clear c3 c4 hz
     generalize wr.setCell ⟨g,o+3,none⟩ (.int .i64 (b.seq+1))=w4 at Kn Ko Kq Z9 ⊢
     clear HP HT1 aQ
     have hSS:¬ ((S w.heap.size∧w.heap.size < w.heap.size)∨w.heap.size+1≤w.heap.size):=fun h=>h.elim hS0 (fun h=>by omega)
     go_loopw [5] (fun iv wr=>∃ (k:Nat) (bk:aA),k≤bk.ah.length∧iv=.int .i64 k∧bk.ah.length+bk.au.length≤1900000∧Hid (gD b.ah.length (aX b) 0=gD (bk.ah.length - k) bk k)∧Hid (aK wr (fun k=>(S k∧k < w.heap.size)∨w.heap.size+1≤k) g o bk)∧Hid (Turns w wr S g o)∧Hid (wr.heap[w.heap.size]?=some (.cells #[.int .i64 0,.int .i64 0,.slice none 0 0,.int .i64 0,.int .i64 0,.int .i64 0,.slice none 0 0,.slice none 0 0,.int .i64 0,.slice none 0 0] 37 (0,0)))) (fun iv wr=>BH wr g o - (intOf iv).toNat)
     case atStart=>exact ⟨0,aX b,Nat.zero_le _,rfl,by show b.ah.length+b.au.length≤_;omega,rfl,aK.mono Kn.out fun k h=>.inl h,Ko.out,Kq.out⟩
     case round =>
      rename World=>wq
      obtain ⟨k,bk,hk,rfl,hbd,hE,hP,hT,hK⟩:=hrel
      clear Kn Ko Kq
      obtain ⟨u0,u1,u2,h0,h1,h2,hint,c0,c1,c2,c3,c4,c5,c6⟩:=hP.out.cells
      have hlq:g < wq.heap.size:=hP.out.lt
      have hwq:w.heap.size < wq.heap.size:=lt_of_heap hK.out
      by_cases hlt:k < bk.ah.length
      ·obtain ⟨m,hm⟩:∃ m,bk.ah[k]?=some m:=⟨bk.ah[k],aL hlt⟩
       obtain ⟨mb,off,z1,mu,hv',hlm,f0,f1,f2,f3,-,uD,vK,sD⟩:=h1.v.cell k m hm
       subst hv'
       have hki:(k:Int) < bk.ah.length:=by omega
       have HM:Hid (bk.ah[k]?=some m):=hm
       have qU:Hid (BH wq g o=bk.ah.length):=hP.out.PO
       clear h0 h1 h2 hint c0 c1 c2 c3 c5 c6 f0 f2 f3 uD vK sD hm
       cases hd:fD m with
       | true =>
        have e1:decide (0 < bits .and .i64 m.flags 8)=true:=hd
        have hdrop:=QI g o k bk m _ wq hP.out HM.out (by omega) (by omega)
        have HD:=XQ HM.out
        have HE2:Hid (gD b.ah.length (aX b) 0=gD ((aV bk k).ah.length - k) (aV bk k) k):=by
         show _=_
         rw [hE.out,show bk.ah.length - k=((aV bk k).ah.length - k)+1 by omega,Z6 HM.out hd]
        have HDh:Hid _:=HD
        have hkd:k≤(aV bk k).ah.length:=by omega
        have aad:(aV bk k).ah.length+(aV bk k).au.length≤1900000:=by omega
        clear hd HD
        go_wp2_with fail
        refine hdrop.mono ?_
        rintro e w6 ⟨rfl,qR,zJ⟩
        have Ct:Hid (aK w6 (fun k=>(S k∧k < w.heap.size)∨w.heap.size+1≤k) g o (aV bk k)):=aK.mono zJ fun k h=>h.elim id fun h=>.inr (by omega)
        have kU:Hid (Turns w w6 S g o):=Turns.trans hT.out qR (fun k h=>h.elim (fun h=>.inl h.1) (fun h=>.inr (by omega)))
        have yg:Hid _:=(qR.2.1 w.heap.size hwq (by omega) hSS).trans hK.out
        have aae:Hid (BH w6 g o=(aV bk k).ah.length):=zJ.PO
        clear hdrop qR zJ hP hT hK
        go_wp2
        go_roundw
        case rel=>exact ⟨k,aV bk k,hkd,by go_num,aad,HE2.out,Ct.out,kU.out,yg.out⟩
        case measure=>rw [aae.out,qU.out];have:=HDh.out;simp [intOf];omega
       | false =>
        have e1:decide (0 < bits .and .i64 m.flags 8)=false:=hd
        have HE2:Hid (gD b.ah.length (aX b) 0=gD (bk.ah.length - (k+1)) bk (k+1)):=by
         show _=_
         rw [hE.out,show bk.ah.length - k=(bk.ah.length - (k+1))+1 by omega,Z7 HM.out hd]
        clear hd
        go_wp2
        go_roundw
        case rel=>exact ⟨k+1,bk,by omega,by go_num,hbd,HE2.out,hP.out,hT.out,hK.out⟩
        case measure=>rw [qU.out];simp [intOf];omega
      ·have hkk:k=bk.ah.length:=by omega
       have Rk:Hid (gF b=(bk,aN 0 (N:Nat))):=by
        show _=_
        rw [HX.out,hE.out,hkk,Nat.sub_self];rfl
       have hNb:(N:Int)≤900000:=by have:=kg.out;omega
       subst hkk
       obtain ⟨a1,z1,rfl,-⟩:=h1.v.form
       clear h0 h1 h2 hint c0 c1 c2 c3 c5 c6
       obtain ⟨r0,r1,r2,r3,r4,r5,r6,r7,r8,r9⟩:=aO hK.out
       have fz:∀ i,wq.frozen? ⟨w.heap.size,i,none⟩=false:=fun i=>frozen_of_row _ _ i _ _ hK.out
       have hlr:=lt_of_heap hK.out
       have HF:Hid _:=ER hK.out (Nat.le_refl _) hT.out _ _ hP.out bE hSS (0) ((N:Int)) ⟨aI,by omega,by omega⟩
       go_wp2
       obtain ⟨f0,f1,f2,f3,f4,f5,f6,f7,f8,f9⟩:=aO HF.out.1
       refine bodyPost_ret (v:=.agg #[.int .i64 0,.int .i64 (N:Int),.slice none 0 0,.int .i64 0,.int .i64 0,.int .i64 0,.slice none 0 0,.slice none 0 0,.int .i64 0,.slice none 0 0]) (by simp [results,Tryz.results91,go_sem,f0,f1,f2,f3,f4,f5,f6,f7,f8,f9]) rfl ⟨_,rfl,?_,HF.out.2.1,?_⟩
       ·rw [Rk.out]
        exact HF.out.2.2.2
       ·rw [Rk.out]
        exact aK.mono HF.out.2.2.1 fun k h=>h.elim (fun h=>.inl h.1) (fun h=>.inr (by omega))
end Go.Proofs.YtmglhdkeidhafaaGreat
