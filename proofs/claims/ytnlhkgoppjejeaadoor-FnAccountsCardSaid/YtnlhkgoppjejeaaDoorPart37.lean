/- The proof's texts, part 37. -/
import Derived.Test.YtnlhkgoppjejeaaDoorPart36
import Derived.Test.YtnlhkgoppjejeaaDoorPart35
import Derived.Test.YtnlhkgoppjejeaaDoorPart30
import Derived.Test.YtnlhkgoppjejeaaDoorPart12
import Derived.Deep.RegionHeld3
import Derived.Test.YtnlhkgoppjejeaaDoorPart29
import Derived.Test.YtnlhkgoppjejeaaDoorPart27

/- What l3expunge of package spec does. -/
namespace Go.Proofs.YtnlhkgoppjejeaaDoor
open Go.RowKit
set_option maxRecDepth 100000
set_option linter.unusedVariables false
set_option linter.unusedSimpArgs false

theorem expLoop_hit {n k:Nat} {b:BoxD} {m:MailD} (h:b.mails[k]?=some m) (hd:delM m=true):expLoop (n+1) b k=expLoop n (dropX b k) k:=by rw [expLoop,h];simp [hd]
theorem expLoop_miss {n k:Nat} {b:BoxD} {m:MailD} (h:b.mails[k]?=some m) (hd:delM m=false):expLoop (n+1) b k=expLoop n b (k+1):=by rw [expLoop,h];simp [hd]

set_option maxRecDepth 100000 in
set_option maxHeartbeats 8000000 in
theorem l3expunge_r (g o:Nat) (b:BoxD) (S:Nat→Prop) (w:World) (hp:BoxP w S g o b) (hml:b.mails.length≤900000) (hgl:b.gones.length≤900000) :
  Calls Tryd.prog 72 #[.pointer (some ⟨g,o,none⟩)] w fun e w'=>∃ u,e=.returned u∧RepC w' u (expungeX b).2∧Turns w w' S g o∧BoxP w' (fun k=>S k∨w.heap.size≤k) g o (expungeX b).1:=by
 have hlg:g < w.heap.size:=hp.lt
 have B1:Below w.heap.size w (w.alloc (.cells #[.int .i64 0,.int .i64 0,.slice none 0 0,.int .i64 0,.int .i64 0,.int .i64 0,.slice none 0 0,.slice none 0 0,.int .i64 0,.slice none 0 0] 84)):=(Below.refl _ _).alloc (Nat.le_refl _) _
 have HP:Hid (BoxP (w.alloc (.cells #[.int .i64 0,.int .i64 0,.slice none 0 0,.int .i64 0,.int .i64 0,.int .i64 0,.slice none 0 0,.slice none 0 0,.int .i64 0,.slice none 0 0] 84)) (fun k=>S k∧k < w.heap.size) g o b):=hp.cut.below B1
 have HT1:Hid (Turns w (w.alloc (.cells #[.int .i64 0,.int .i64 0,.slice none 0 0,.int .i64 0,.int .i64 0,.int .i64 0,.slice none 0 0,.slice none 0 0,.int .i64 0,.slice none 0 0] 84)) S g o):=turns_below B1
 have HKR:Hid _:=box_new w (.cells #[.int .i64 0,.int .i64 0,.slice none 0 0,.int .i64 0,.int .i64 0,.int .i64 0,.slice none 0 0,.slice none 0 0,.int .i64 0,.slice none 0 0] 84)
 have HSZ:Hid ((w.alloc (.cells #[.int .i64 0,.int .i64 0,.slice none 0 0,.int .i64 0,.int .i64 0,.int .i64 0,.slice none 0 0,.slice none 0 0,.int .i64 0,.slice none 0 0] 84)).heap.size=w.heap.size+1):=by show _=_;simp
 have hS0:¬ (S w.heap.size∧w.heap.size < w.heap.size):=fun h=>Nat.lt_irrefl _ h.2
 clear B1 hp
 go_enter Tryd.func72,Tryd.ntmps72
 go_wp2
 generalize w.alloc (.cells #[.int .i64 0,.int .i64 0,.slice none 0 0,.int .i64 0,.int .i64 0,.int .i64 0,.slice none 0 0,.slice none 0 0,.int .i64 0,.slice none 0 0] 84)=w1 at HP HT1 HKR HSZ ⊢
 have sw1:w.heap.size < w1.heap.size:=by have:=HSZ.out;omega
 go_loopw [3,4] (fun nv iv wr=>∃ k:Nat,k≤b.mails.length∧iv=.int .i64 k∧nv=.int .i64 (((b.mails.take k).countP delM:Nat):Int)∧wr=w1) (fun _ iv _=>b.mails.length - (intOf iv).toNat)
 case atStart=>exact ⟨0,Nat.zero_le _,rfl,by simp,rfl⟩
 case round =>
  obtain ⟨k,hk,rfl,rfl,hwr⟩:=hrel
  subst hwr
  obtain ⟨u0,u1,u2,h0,h1,h2,hint,c0,c1,c2,c3,c4,c5,c6⟩:=HP.out.cells
  have hlg1:g < wr.heap.size:=by omega
  have hcn:(b.mails.take k).countP delM≤k:=Nat.le_trans List.countP_le_length (by simp;omega)
  by_cases hlt:k < b.mails.length
  ·obtain ⟨m,hm⟩:∃ m,b.mails[k]?=some m:=⟨b.mails[k],List.getElem?_eq_getElem hlt⟩
   obtain ⟨mb,off,z1,mu,hv',hlm,f0,f1,f2,f3,-,im0,im1,im2⟩:=h1.v.cell k m hm
   subst hv'
   have hki:(k:Int) < b.mails.length:=by omega
   have HM:Hid (b.mails[k]?=some m):=hm
   clear h0 h1 h2 hint c0 c1 c2 c3 c5 c6 f0 f2 f3 im0 im1 im2 hm
   cases hd:delM m with
   | true =>
    have e1:decide (0 < bits .and .i64 m.flags 8)=true:=hd
    have HC:Hid ((((b.mails.take (k+1)).countP delM:Nat):Int)=(((b.mails.take k).countP delM:Nat):Int)+1):=by show _=_;rw [countP_take HM.out,hd];simp
    clear hd
    go_wp2
    go_roundw
    case rel=>exact ⟨k+1,by omega,by go_num,by rw [HC.out],trivial⟩
    case measure=>simp [intOf];omega
   | false =>
    have e1:decide (0 < bits .and .i64 m.flags 8)=false:=hd
    have HC:Hid ((((b.mails.take (k+1)).countP delM:Nat):Int)=(((b.mails.take k).countP delM:Nat):Int)):=by show _=_;rw [countP_take HM.out,hd];simp
    clear hd
    go_wp2
    go_roundw
    case rel=>exact ⟨k+1,by omega,by go_num,by rw [HC.out],trivial⟩
    case measure=>simp [intOf];omega
  ·obtain rfl:k=b.mails.length:=by omega
   obtain ⟨a1,z1,rfl,-⟩:=h1.v.form
   rw [List.take_length] at hcn ⊢
   have i2:=hint.2.2.1
   clear h0 h1 h2 hint c0 c1 c2 c5 c6
   by_cases hn0:b.mails.countP delM=0
   ·have HX:Hid (expungeX b=(b,codeR 0 0)):=by show _=_;unfold expungeX;rw [if_pos hn0]
    rw [hn0]
    obtain ⟨r0,r1,r2,r3,r4,r5,r6,r7,r8,r9⟩:=bx10 HKR.out
    have fz:∀ i,wr.frozen? ⟨w.heap.size,i,none⟩=false:=fun i=>frozen_of_row _ _ i _ _ HKR.out
    have hlr:=lt_of_heap HKR.out
    have HF:Hid _:=rep_turn HKR.out (Nat.le_refl _) HT1.out _ _ HP.out hlg hS0 (0) (0) ⟨i64c0,i64c0⟩
    go_wp2
    obtain ⟨f0,f1,f2,f3,f4,f5,f6,f7,f8,f9⟩:=bx10 HF.out.1
    refine bodyPost_ret (v:=.agg #[.int .i64 0,.int .i64 0,.slice none 0 0,.int .i64 0,.int .i64 0,.int .i64 0,.slice none 0 0,.slice none 0 0,.int .i64 0,.slice none 0 0]) (by simp [results,Tryd.results72,go_sem,f0,f1,f2,f3,f4,f5,f6,f7,f8,f9]) rfl ⟨_,rfl,?_,HF.out.2.1,?_⟩
    ·rw [HX.out]
     exact HF.out.2.2.2
    ·rw [HX.out]
     exact BoxP.mono HF.out.2.2.1 fun k h=>.inl h.1
   ·have hn1:¬ ((b.mails.countP delM:Nat):Int)=0:=by omega
    have e0:(((b.mails.countP delM:Nat):Int) == 0)=false:=by simpa using hn0
    have HCN:Hid (b.mails.countP delM≤b.mails.length):=hcn
    generalize hN:b.mails.countP delM=N at *
    have HNE:Hid (b.mails.countP delM=N):=hN
    clear hN
    by_cases hfull:1000000≤b.seq
    ·have HX:Hid (expungeX b=(b,codeR 3 0)):=by show _=_;unfold expungeX;rw [HNE.out,if_neg hn0,if_pos hfull]
     clear hn0 hn1
     obtain ⟨r0,r1,r2,r3,r4,r5,r6,r7,r8,r9⟩:=bx10 HKR.out
     have fz:∀ i,wr.frozen? ⟨w.heap.size,i,none⟩=false:=fun i=>frozen_of_row _ _ i _ _ HKR.out
     have hlr:=lt_of_heap HKR.out
     have HF:Hid _:=rep_turn HKR.out (Nat.le_refl _) HT1.out _ _ HP.out hlg hS0 (3) (0) ⟨⟨by decide,by decide⟩,i64c0⟩
     go_wp2
     obtain ⟨f0,f1,f2,f3,f4,f5,f6,f7,f8,f9⟩:=bx10 HF.out.1
     refine bodyPost_ret (v:=.agg #[.int .i64 3,.int .i64 0,.slice none 0 0,.int .i64 0,.int .i64 0,.int .i64 0,.slice none 0 0,.slice none 0 0,.int .i64 0,.slice none 0 0]) (by simp [results,Tryd.results72,go_sem,f0,f1,f2,f3,f4,f5,f6,f7,f8,f9]) rfl ⟨_,rfl,?_,HF.out.2.1,?_⟩
     ·rw [HX.out]
      exact HF.out.2.2.2
     ·rw [HX.out]
      exact BoxP.mono HF.out.2.2.1 fun k h=>.inl h.1
    ·have HX:Hid (expungeX b=(expLoop b.mails.length (seqX b) 0,codeR 0 (N:Nat))):=by show _=_;unfold expungeX;rw [HNE.out,if_neg hn0,if_neg hfull]
     have b2:=i2.1
     have hz:=HP.out.open
     have HPS:Hid (BoxP (wr.setCell ⟨g,o+3,none⟩ (.int .i64 (b.seq+1))) (fun k=>S k∧k < w.heap.size) g o (seqX b)):=HP.out.setSeq (b.seq+1) ⟨by omega,by omega⟩
     have HTS:Hid (Turns w (wr.setCell ⟨g,o+3,none⟩ (.int .i64 (b.seq+1))) S g o):=Turns.trans HT1.out (turns_set (S':=S) HP.out (by omega)) (fun k h=>.inl h)
     have HKS:Hid _:=box_other (k:=g) (i:=o+3) (v:=.int .i64 (b.seq+1)) HKR.out (by omega)
     have hsS:(wr.setCell ⟨g,o+3,none⟩ (.int .i64 (b.seq+1))).heap.size=wr.heap.size:=box_size
     have HZS:Hid _:=hsS
     clear hn0 hn1 hsS
     go_wp2
     clear c3 c4 hz
     generalize wr.setCell ⟨g,o+3,none⟩ (.int .i64 (b.seq+1))=w4 at HPS HTS HKS HZS ⊢
     clear HP HT1 HKR
     have hSS:¬ ((S w.heap.size∧w.heap.size < w.heap.size)∨w.heap.size+1≤w.heap.size):=fun h=>h.elim hS0 (fun h=>by omega)
     go_loopw [5] (fun iv wr=>∃ (k:Nat) (bk:BoxD),k≤bk.mails.length∧iv=.int .i64 k∧bk.mails.length+bk.gones.length≤1900000∧Hid (expLoop b.mails.length (seqX b) 0=expLoop (bk.mails.length - k) bk k)∧Hid (BoxP wr (fun k=>(S k∧k < w.heap.size)∨w.heap.size+1≤k) g o bk)∧Hid (Turns w wr S g o)∧Hid (wr.heap[w.heap.size]?=some (.cells #[.int .i64 0,.int .i64 0,.slice none 0 0,.int .i64 0,.int .i64 0,.int .i64 0,.slice none 0 0,.slice none 0 0,.int .i64 0,.slice none 0 0] 84 (0,0)))) (fun iv wr=>mLen wr g o - (intOf iv).toNat)
     case atStart=>exact ⟨0,seqX b,Nat.zero_le _,rfl,by show b.mails.length+b.gones.length≤_;omega,rfl,BoxP.mono HPS.out fun k h=>.inl h,HTS.out,HKS.out⟩
     case round =>
      rename World=>wq
      obtain ⟨k,bk,hk,rfl,hbd,hE,hP,hT,hK⟩:=hrel
      clear HPS HTS HKS
      obtain ⟨u0,u1,u2,h0,h1,h2,hint,c0,c1,c2,c3,c4,c5,c6⟩:=hP.out.cells
      have hlq:g < wq.heap.size:=hP.out.lt
      have hwq:w.heap.size < wq.heap.size:=lt_of_heap hK.out
      by_cases hlt:k < bk.mails.length
      ·obtain ⟨m,hm⟩:∃ m,bk.mails[k]?=some m:=⟨bk.mails[k],List.getElem?_eq_getElem hlt⟩
       obtain ⟨mb,off,z1,mu,hv',hlm,f0,f1,f2,f3,-,im0,im1,im2⟩:=h1.v.cell k m hm
       subst hv'
       have hki:(k:Int) < bk.mails.length:=by omega
       have HM:Hid (bk.mails[k]?=some m):=hm
       have HML:Hid (mLen wq g o=bk.mails.length):=hP.out.mlen
       clear h0 h1 h2 hint c0 c1 c2 c3 c5 c6 f0 f2 f3 im0 im1 im2 hm
       cases hd:delM m with
       | true =>
        have e1:decide (0 < bits .and .i64 m.flags 8)=true:=hd
        have hdrop:=l3drop_r g o k bk m _ wq hP.out HM.out (by omega) (by omega)
        have HD:=dropX_len HM.out
        have HE2:Hid (expLoop b.mails.length (seqX b) 0=expLoop ((dropX bk k).mails.length - k) (dropX bk k) k):=by
         show _=_
         rw [hE.out,show bk.mails.length - k=((dropX bk k).mails.length - k)+1 by omega,expLoop_hit HM.out hd]
        have HDh:Hid _:=HD
        have hkd:k≤(dropX bk k).mails.length:=by omega
        have hbd2:(dropX bk k).mails.length+(dropX bk k).gones.length≤1900000:=by omega
        clear hd HD
        go_wp2_with fail
        refine hdrop.mono ?_
        rintro e w6 ⟨rfl,hT6,hP6⟩
        have HP6:Hid (BoxP w6 (fun k=>(S k∧k < w.heap.size)∨w.heap.size+1≤k) g o (dropX bk k)):=BoxP.mono hP6 fun k h=>h.elim id fun h=>.inr (by omega)
        have HT6:Hid (Turns w w6 S g o):=Turns.trans hT.out hT6 (fun k h=>h.elim (fun h=>.inl h.1) (fun h=>.inr (by omega)))
        have HK6:Hid _:=(hT6.2.1 w.heap.size hwq (by omega) hSS).trans hK.out
        have HML6:Hid (mLen w6 g o=(dropX bk k).mails.length):=hP6.mlen
        clear hdrop hT6 hP6 hP hT hK
        go_wp2
        go_roundw
        case rel=>exact ⟨k,dropX bk k,hkd,by go_num,hbd2,HE2.out,HP6.out,HT6.out,HK6.out⟩
        case measure=>rw [HML6.out,HML.out];have:=HDh.out;simp [intOf];omega
       | false =>
        have e1:decide (0 < bits .and .i64 m.flags 8)=false:=hd
        have HE2:Hid (expLoop b.mails.length (seqX b) 0=expLoop (bk.mails.length - (k+1)) bk (k+1)):=by
         show _=_
         rw [hE.out,show bk.mails.length - k=(bk.mails.length - (k+1))+1 by omega,expLoop_miss HM.out hd]
        clear hd
        go_wp2
        go_roundw
        case rel=>exact ⟨k+1,bk,by omega,by go_num,hbd,HE2.out,hP.out,hT.out,hK.out⟩
        case measure=>rw [HML.out];simp [intOf];omega
      ·have hkk:k=bk.mails.length:=by omega
       have HXE:Hid (expungeX b=(bk,codeR 0 (N:Nat))):=by
        show _=_
        rw [HX.out,hE.out,hkk,Nat.sub_self];rfl
       have hNb:(N:Int)≤900000:=by have:=HCN.out;omega
       subst hkk
       obtain ⟨a1,z1,rfl,-⟩:=h1.v.form
       clear h0 h1 h2 hint c0 c1 c2 c3 c5 c6
       obtain ⟨r0,r1,r2,r3,r4,r5,r6,r7,r8,r9⟩:=bx10 hK.out
       have fz:∀ i,wq.frozen? ⟨w.heap.size,i,none⟩=false:=fun i=>frozen_of_row _ _ i _ _ hK.out
       have hlr:=lt_of_heap hK.out
       have HF:Hid _:=rep_turn hK.out (Nat.le_refl _) hT.out _ _ hP.out hlg hSS (0) ((N:Int)) ⟨i64c0,by omega,by omega⟩
       go_wp2
       obtain ⟨f0,f1,f2,f3,f4,f5,f6,f7,f8,f9⟩:=bx10 HF.out.1
       refine bodyPost_ret (v:=.agg #[.int .i64 0,.int .i64 (N:Int),.slice none 0 0,.int .i64 0,.int .i64 0,.int .i64 0,.slice none 0 0,.slice none 0 0,.int .i64 0,.slice none 0 0]) (by simp [results,Tryd.results72,go_sem,f0,f1,f2,f3,f4,f5,f6,f7,f8,f9]) rfl ⟨_,rfl,?_,HF.out.2.1,?_⟩
       ·rw [HXE.out]
        exact HF.out.2.2.2
       ·rw [HXE.out]
        exact BoxP.mono HF.out.2.2.1 fun k h=>h.elim (fun h=>.inl h.1) (fun h=>.inr (by omega))

end Go.Proofs.YtnlhkgoppjejeaaDoor

/- A box behind a pointer: a mail of its list is written. -/
namespace Go.Proofs.YtnlhkgoppjejeaaDoor
open Go.RowKit
set_option linter.unusedVariables false

/-- One cell of a mail in the list's block is written. -/
theorem mailsq_put {w:World} {S:Nat→Prop} {v:Value} {l:List MailD} (h:MailsQ w S v l) {i:Nat} {m:MailD} (hm:l[i]?=some m) :
  ∃ mb cap,v=.slice (some ⟨mb,0,none⟩) l.length cap∧S mb∧Ty w mb 67∧w.cell? ⟨mb,i * 4+1,none⟩=some (.int .i64 m.flags)∧w.cell? ⟨mb,i * 4+2,none⟩=some (.int .i64 m.seq)∧(∀ j,w.frozen? ⟨mb,j,none⟩=false) ∧
   (∀ fl,I64 fl→MailsQ (w.setCell ⟨mb,i * 4+1,none⟩ (.int .i64 fl)) S v (l.set i ⟨m.uid,fl,m.seq,m.text⟩))∧(∀ sq,I64 sq→MailsQ (w.setCell ⟨mb,i * 4+2,none⟩ (.int .i64 sq)) S v (l.set i ⟨m.uid,m.flags,sq,m.text⟩)):=by
 have hi:i < l.length:=(List.getElem?_eq_some_iff.1 hm).1
 rcases h with ⟨-,h⟩ | ⟨g,cap,cur,cs,fs,hv,hh,h1,h2,h3,h4,h5,h6,h7⟩
 ·subst h;simp at hm
 obtain ⟨⟨u,hc,hu,j0,j1,j2⟩,hl,hcell⟩:=h5 i m hm
 have hty:Ty w g 67:=⟨_,_,hh⟩
 have hsz:i * 4+4≤cur.size:=by rw [h3];omega
 have key:∀ (q:Nat) (x:Value) (m':MailD) (c':List Value),q < 4→c'=(cs i).set q x→MailQE w c' m' Any→MailsQ (w.setCell ⟨g,i * 4+q,none⟩ x) S v (l.set i m'):=by
  intro q x m' c' hq hc' hm'
  refine .inr ⟨g,cap,_,fun j=>if j=i then c' else cs j,fun _ _=>False,by rw [List.length_set];exact hv,box_set hh,by rw [List.length_set];exact h1,h2,by rw [Array.size_setIfInBounds];exact h3,h4,fun j y hy=>?_,by simp,by simp⟩
  by_cases e:j=i
  ·subst e
   rw [List.getElem?_set_self hi] at hy
   cases hy
   simp only [if_pos]
   refine ⟨mail_oth hm' (stay_set hty (by decide)),by rw [hc',List.length_set];exact hl,fun k z hz=>?_⟩
   rw [hc'] at hz
   by_cases ek:k=q
   ·subst ek
    rw [List.getElem?_set_self (by omega)] at hz
    cases hz
    rw [Array.getElem?_setIfInBounds_self_of_lt (by omega)]
   ·rw [List.getElem?_set_ne (Ne.symm ek)] at hz
    rw [Array.getElem?_setIfInBounds_ne (by omega)]
    exact hcell k z hz
  ·rw [List.getElem?_set_ne (Ne.symm e)] at hy
   simp only [if_neg e]
   obtain ⟨q0,q1,q2⟩:=h5 j y hy
   refine ⟨mail_oth q0 (stay_set hty (by decide)),q1,fun k z hz=>?_⟩
   have hk:k < 4:=by have:=(List.getElem?_eq_some_iff.1 hz).1;omega
   rw [Array.getElem?_setIfInBounds_ne (by rcases Nat.lt_or_gt_of_ne e with e | e <;> omega)]
   exact q2 k z hz
 refine ⟨g,cap,hv,h4,hty,?_,?_,fun j=>by simp [World.frozen?,hh],fun fl hf=>key 1 _ _ [.int .i64 m.uid,.int .i64 fl,.int .i64 m.seq,u] (by omega) (by rw [hc];rfl) ⟨u,rfl,hu,j0,hf,j2⟩,fun sq hs=>key 2 _ _ [.int .i64 m.uid,.int .i64 m.flags,.int .i64 sq,u] (by omega) (by rw [hc];rfl) ⟨u,rfl,hu,j0,j1,hs⟩⟩
 ·rw [cell_of_row w g _ cur _ (0,0) hh];exact hcell 1 _ (by rw [hc];rfl)
 ·rw [cell_of_row w g _ cur _ (0,0) hh];exact hcell 2 _ (by rw [hc];rfl)
/-- .. of a box behind a pointer. -/
theorem BoxP.mail {w:World} {S:Nat→Prop} {g o i:Nat} {b:BoxD} {m:MailD} (h:BoxP w S g o b) (hm:b.mails[i]?=some m) :
  ∃ mb cap,w.cell? ⟨g,o+4,none⟩=some (.slice (some ⟨mb,0,none⟩) b.mails.length cap)∧mb < w.heap.size∧mb≠g∧S mb∧Ty w mb 67∧w.cell? ⟨mb,i * 4+1,none⟩=some (.int .i64 m.flags)∧w.cell? ⟨mb,i * 4+2,none⟩=some (.int .i64 m.seq)∧(∀ j,w.frozen? ⟨mb,j,none⟩=false) ∧
   (∀ fl,I64 fl→BoxP (w.setCell ⟨mb,i * 4+1,none⟩ (.int .i64 fl)) S g o ⟨b.name,b.valid,b.next,b.seq,b.mails.set i ⟨m.uid,fl,m.seq,m.text⟩,b.gones,b.lost⟩)∧(∀ sq,I64 sq→BoxP (w.setCell ⟨mb,i * 4+2,none⟩ (.int .i64 sq)) S g o ⟨b.name,b.valid,b.next,b.seq,b.mails.set i ⟨m.uid,m.flags,sq,m.text⟩,b.gones,b.lost⟩):=by
 have hb:=h.ty
 obtain ⟨cur,c,hh,⟨u0,u1,u2,e,h1,h2,h3,r⟩,hc⟩:=h
 obtain ⟨mb,cap,hv,hS,hty,k1,k2,hz,hf,hs⟩:=mailsq_put h2 hm
 have hne:mb≠g:=fun e2=>by subst e2;obtain ⟨cs,fz,hq⟩:=hty;exact ty_ne hq hb (by decide)
 have go:∀ (q:Nat) (x:Value) (ms:List MailD),MailsQ (w.setCell ⟨mb,q,none⟩ x) S u1 ms→BoxP (w.setCell ⟨mb,q,none⟩ x) S g o ⟨b.name,b.valid,b.next,b.seq,ms,b.gones,b.lost⟩:=fun q x ms hms =>
  ⟨cur,c,box_other hh (Ne.symm hne),⟨u0,u1,u2,e,ro_oth h1 (stay_set hty (by decide)),hms,gonesq_oth h3 (stay_set hty (by decide)),r⟩,hc⟩
 refine ⟨mb,cap,?_,ty_lt hty,hne,hS,hty,k1,k2,hz,fun fl hf'=>go _ _ _ (hf fl hf'),fun sq hs'=>go _ _ _ (hs sq hs')⟩
 rw [cell_of_row w g _ cur _ (0,0) hh]
 rw [hc 4 u1 (by rw [e];rfl),hv]

end Go.Proofs.YtnlhkgoppjejeaaDoor

/- What l3store of package spec does where the flags change; all its ways. -/
namespace Go.Proofs.YtnlhkgoppjejeaaDoor
open Go.RowKit
set_option maxRecDepth 100000
set_option linter.unusedVariables false
set_option linter.unusedSimpArgs false

theorem tab_store13:(Tryd.f71.body.bind (opsAt 13)).all (fun o=>tableS o 12 [0,1,2,3,4,5,6,7,8,9,10,11] [11] [9,12] 0)=true:=by kernel_rfl
theorem Turns.wide {w w':World} {S S':Nat→Prop} {g o:Nat} (h:Turns w w' S g o) (hS:∀ k,S k→S' k):Turns w w' S' g o:=⟨h.1,fun k h1 h2 h3=>h.2.1 k h1 h2 (fun h4=>h3 (hS k h4)),h.2.2⟩

set_option maxRecDepth 100000 in
set_option maxHeartbeats 4000000 in
theorem l3store_done (g o:Nat) (b:BoxD) (S:Nat→Prop) (k uid mode fl si:Int) (x0 x1 x2:Option Addr) (n0 n1 n2 m0 m1 m2:Nat) (w:World) (hp:BoxP w S g o b) (hsx:szX b≤2000000) (i:Nat) (m:MailD) (hm:b.mails[i]?=some m) (hfi:firstI (fun m:MailD=>decide (m.uid=uid)) b.mails=(i:Int)) (hs:¬ (0 < si∧si < m.seq)) (hfl:flD m.flags mode fl≠m.flags) (hfull:¬ 1000000≤b.seq) (hfi64:I64 (flD m.flags mode fl)) :
  Calls Tryd.prog 71 #[.pointer (some ⟨g,o,none⟩),.agg #[.int .i64 k,.slice x0 n0 m0,.slice x1 n1 m1,.int .i64 uid,.int .i64 mode,.int .i64 fl,.int .i64 si,.slice x2 n2 m2]] w fun e w'=>∃ u,e=.returned u∧RepC w' u (codeR 0 (b.seq+1))∧Turns w w' S g o∧BoxP w' S g o ⟨b.name,b.valid,b.next,b.seq+1,b.mails.set i ⟨m.uid,flD m.flags mode fl,b.seq+1,m.text⟩,b.gones,b.lost⟩:=by
 obtain ⟨S0,hS0e⟩:∃ S0,S0=fun k=>S k∧k < w.heap.size:=⟨_,rfl⟩
 have HSUB:Hid (∀ k,S0 k→S k):=by subst hS0e;exact fun k h=>h.1
 have hS0:¬ S0 (w.heap.size+1):=by subst hS0e;exact fun h=>by have:=h.2;omega
 have HP:Hid (∀ w',Below w.heap.size w w'→BoxP w' S0 g o b):=by subst hS0e;exact fun w' h=>hp.cut.below h
 clear hS0e
 have HM:Hid (b.mails[i]?=some m):=hm
 have HFL:Hid (I64 (flD m.flags mode fl)):=hfi64
 have hlg:g < w.heap.size:=ty_lt hp.ty
 obtain ⟨u0,u1,u2,h0,h1,h2,hint,c0,c1,c2,c3,c4,c5,c6⟩:=hp.cells
 have HV:Hid (∀ w',Below w.heap.size w w'→BoxV w' (.agg #[u0,.int .i64 b.valid,.int .i64 b.next,.int .i64 b.seq,u1,u2,.int .i64 b.lost]) b):=fun w' h=>⟨u0,u1,u2,rfl,h0.bs.below h,h1.v.below keepsMail h,h2.1.below keepsGone h,hint⟩
 obtain ⟨a0,q0,z0,rfl⟩:=h0.bs.form3
 obtain ⟨a1,z1,rfl,-⟩:=h1.v.form
 obtain ⟨mb,off,zc,mu,hv',hlm,f0,f1,f2,f3,-,im0,im1,im2⟩:=h1.v.cell i m hm
 simp only [Value.slice.injEq,true_and] at hv'
 obtain ⟨rfl,rfl⟩:=hv'
 have hil:i < b.mails.length:=(List.getElem?_eq_some_iff.1 hm).1
 have hml:b.mails.length≤2000000:=by have:=szM_len b.mails;unfold szX at hsx;omega
 obtain ⟨a2,z2,rfl,-⟩:=h2.1.form
 obtain ⟨HB,HKC,HKR,hsW⟩:=heads2 w (.cells #[.int .i64 k,.slice x0 n0 m0,.slice x1 n1 m1,.int .i64 uid,.int .i64 mode,.int .i64 fl,.int .i64 si,.slice x2 n2 m2] 80) (.cells #[.int .i64 0,.int .i64 0,.slice none 0 0,.int .i64 0,.int .i64 0,.int .i64 0,.slice none 0 0,.slice none 0 0,.int .i64 0,.slice none 0 0] 84)
 have HC:Hid (∀ W w',Below w.heap.size w W→W.heap[w.heap.size]?=some (.cells #[.int .i64 k,.slice x0 n0 m0,.slice x1 n1 m1,.int .i64 uid,.int .i64 mode,.int .i64 fl,.int .i64 si,.slice x2 n2 m2] 80 (0,0))→Below W.heap.size W w'→w'.cell? ⟨g,o,none⟩=some (.slice a0 q0 z0)∧w'.cell? ⟨g,o+1,none⟩=some (.int .i64 b.valid)∧w'.cell? ⟨g,o+2,none⟩=some (.int .i64 b.next)∧w'.cell? ⟨g,o+3,none⟩=some (.int .i64 b.seq)∧w'.cell? ⟨g,o+4,none⟩=some (.slice (some ⟨mb,off,none⟩) b.mails.length z1)∧w'.cell? ⟨g,o+5,none⟩=some (.slice a2 b.gones.length z2)∧w'.cell? ⟨g,o+6,none⟩=some (.int .i64 b.lost)∧w'.cell? ⟨w.heap.size,3,none⟩=some (.int .i64 uid)∧w'.cell? ⟨w.heap.size,4,none⟩=some (.int .i64 mode)∧w'.cell? ⟨w.heap.size,5,none⟩=some (.int .i64 fl)∧w'.cell? ⟨w.heap.size,6,none⟩=some (.int .i64 si)∧w'.cell? ⟨mb,off+i * 4+1,none⟩=some (.int .i64 m.flags)∧w'.cell? ⟨mb,off+i * 4+2,none⟩=some (.int .i64 m.seq)):=by
  intro W w' hb hc hw
  have h:=fun j=>hb.cell (p:=⟨g,j,none⟩) hlg
  have h':=fun j=>hw.cell (p:=⟨g,j,none⟩) (Nat.lt_of_lt_of_le hlg hb.size)
  have hm0:=fun j=>hb.cell (p:=⟨mb,j,none⟩) hlm
  have hm':=fun j=>hw.cell (p:=⟨mb,j,none⟩) (Nat.lt_of_lt_of_le hlm hb.size)
  have hk:=box_below hw hc
  have hq:=fun j=>cell_of_row w' w.heap.size j _ _ (0,0) hk
  exact ⟨(h' _).trans ((h _).trans c0),(h' _).trans ((h _).trans c1),(h' _).trans ((h _).trans c2),(h' _).trans ((h _).trans c3),(h' _).trans ((h _).trans c4),(h' _).trans ((h _).trans c5),(h' _).trans ((h _).trans c6),hq 3,hq 4,hq 5,hq 6,(hm' _).trans ((hm0 _).trans f1),(hm' _).trans ((hm0 _).trans f2)⟩
 have hsq:=hint.2.2.1.1
 clear h0 h1 h2 hp c0 c1 c2 c3 c4 c5 c6 hint f0 f1 f2 f3
 go_enter Tryd.func71,Tryd.ntmps71
 go_wp2
 generalize ((w.alloc (.cells #[.int .i64 k,.slice x0 n0 m0,.slice x1 n1 m1,.int .i64 uid,.int .i64 mode,.int .i64 fl,.int .i64 si,.slice x2 n2 m2] 80)).alloc (.cells #[.int .i64 0,.int .i64 0,.slice none 0 0,.int .i64 0,.int .i64 0,.int .i64 0,.slice none 0 0,.slice none 0 0,.int .i64 0,.slice none 0 0] 84))=W at HB HKC HKR hsW ⊢
 have HS:Hid (∀ w',Below W.heap.size W w'→w'.cell? ⟨g,o,none⟩=some (.slice a0 q0 z0)∧w'.cell? ⟨g,o+1,none⟩=some (.int .i64 b.valid)∧w'.cell? ⟨g,o+2,none⟩=some (.int .i64 b.next)∧w'.cell? ⟨g,o+3,none⟩=some (.int .i64 b.seq)∧w'.cell? ⟨g,o+4,none⟩=some (.slice (some ⟨mb,off,none⟩) b.mails.length z1)∧w'.cell? ⟨g,o+5,none⟩=some (.slice a2 b.gones.length z2)∧w'.cell? ⟨g,o+6,none⟩=some (.int .i64 b.lost)∧w'.cell? ⟨w.heap.size,3,none⟩=some (.int .i64 uid)∧w'.cell? ⟨w.heap.size,4,none⟩=some (.int .i64 mode)∧w'.cell? ⟨w.heap.size,5,none⟩=some (.int .i64 fl)∧w'.cell? ⟨w.heap.size,6,none⟩=some (.int .i64 si)∧w'.cell? ⟨mb,off+i * 4+1,none⟩=some (.int .i64 m.flags)∧w'.cell? ⟨mb,off+i * 4+2,none⟩=some (.int .i64 m.seq)):=fun w' h=>HC.out W w' HB.out HKC.out h
 have DR:Below W.heap.size W W.drew:=(Below.refl _ _).drew
 have hl1:w.heap.size < W.drew.heap.size:=by show _ < W.heap.size;omega
 have hl2:g < W.drew.heap.size:=by show _ < W.heap.size;omega
 have HVD:Hid _:=HV.out W.drew (Below.step HB.out DR)
 go_region_held3 (fun w'=>w'.cell? ⟨g,o,none⟩=some (.slice a0 q0 z0)∧w'.cell? ⟨g,o+1,none⟩=some (.int .i64 b.valid)∧w'.cell? ⟨g,o+2,none⟩=some (.int .i64 b.next)∧w'.cell? ⟨g,o+3,none⟩=some (.int .i64 b.seq)∧w'.cell? ⟨g,o+4,none⟩=some (.slice (some ⟨mb,off,none⟩) b.mails.length z1)∧w'.cell? ⟨g,o+5,none⟩=some (.slice a2 b.gones.length z2)∧w'.cell? ⟨g,o+6,none⟩=some (.int .i64 b.lost)∧w'.cell? ⟨w.heap.size,3,none⟩=some (.int .i64 uid)∧w'.cell? ⟨w.heap.size,4,none⟩=some (.int .i64 mode)∧w'.cell? ⟨w.heap.size,5,none⟩=some (.int .i64 fl)∧w'.cell? ⟨w.heap.size,6,none⟩=some (.int .i64 si)∧w'.cell? ⟨mb,off+i * 4+1,none⟩=some (.int .i64 m.flags)∧w'.cell? ⟨mb,off+i * 4+2,none⟩=some (.int .i64 m.seq))
  (first | exact HS.out _ DR | exact HS.out _ (Below.step DR B1) | go_keep)
  ((go_at_call 36;refine (l3mail_any _ b uid _ HVD.out).mono ?_;rintro e w1 ⟨rfl,B1⟩))
 have HB1:Hid (Below W.heap.size W w1):=Below.step DR B1
 have HKR1:Hid _:=box_below HB1.out HKR.out
 have hw1:W.heap.size≤w1.heap.size:=HB1.out.size
 clear B1 HVD
 obtain ⟨e0,e1,e2,e3,e4,e5,e6,e7,e8,e9,e10,e11,e12⟩:=HS.out _ HB1.out
 have hlg1:g < w1.heap.size:=by omega
 have hlm1:mb < w1.heap.size:=by omega
 have hlc1:w.heap.size < w1.heap.size:=by omega
 have hili:(i:Int) < b.mails.length:=by omega
 have hs3:(0 < si∧¬ (si < m.seq))∨(si≤0∧decide (0 < si)=false):=by
  by_cases hs0:0 < si
  ·exact .inl ⟨hs0,fun h=>hs ⟨hs0,h⟩⟩
  ·exact .inr ⟨by omega,decide_eq_false hs0⟩
 rcases hs3 with ⟨hs0,hs1⟩ | ⟨hs1,hs2⟩
 all_goals
  go_wp2
  go_quiet (fail)
  go_wp2
  have HB2:Hid (Below W.heap.size W (w1.drewN nq)):=below_drewN nq HB1.out
  have hw2:(w1.drewN nq).heap.size=w1.heap.size:=rfl
  clear e0 e1 e2 e3 e4 e5 e6 e7 e8 e9 e10 e11 e12
  generalize w1.drewN nq=w2 at HB2 hw2 ⊢
  have DR2:Below W.heap.size W w2.drew:=Below.step HB2.out (Below.refl _ _).drew
  have hg2:g < w2.drew.heap.size:=by show _ < w2.heap.size;omega
  have hm2:mb < w2.drew.heap.size:=by show _ < w2.heap.size;omega
  have hc2:w.heap.size < w2.drew.heap.size:=by show _ < w2.heap.size;omega
  go_region_held3 (fun w'=>w'.cell? ⟨g,o,none⟩=some (.slice a0 q0 z0)∧w'.cell? ⟨g,o+1,none⟩=some (.int .i64 b.valid)∧w'.cell? ⟨g,o+2,none⟩=some (.int .i64 b.next)∧w'.cell? ⟨g,o+3,none⟩=some (.int .i64 b.seq)∧w'.cell? ⟨g,o+4,none⟩=some (.slice (some ⟨mb,off,none⟩) b.mails.length z1)∧w'.cell? ⟨g,o+5,none⟩=some (.slice a2 b.gones.length z2)∧w'.cell? ⟨g,o+6,none⟩=some (.int .i64 b.lost)∧w'.cell? ⟨w.heap.size,3,none⟩=some (.int .i64 uid)∧w'.cell? ⟨w.heap.size,4,none⟩=some (.int .i64 mode)∧w'.cell? ⟨w.heap.size,5,none⟩=some (.int .i64 fl)∧w'.cell? ⟨w.heap.size,6,none⟩=some (.int .i64 si)∧w'.cell? ⟨mb,off+i * 4+1,none⟩=some (.int .i64 m.flags)∧w'.cell? ⟨mb,off+i * 4+2,none⟩=some (.int .i64 m.seq))
   (first | exact HS.out _ DR2 | go_keep)
   ((go_at_call 83;refine (l3flags_any m.flags mode fl _).mono ?_;rintro e w3 ⟨rfl,rfl⟩))
  have hw4:w2.drew.heap.size=w1.heap.size:=hw2
  clear hg2 hm2 hc2
  generalize w2.drew=w4 at DR2 hw4 ⊢
  have hg2:g < w4.heap.size:=by omega
  have hm2:mb < w4.heap.size:=by omega
  have hc2:w.heap.size < w4.heap.size:=by omega
  have HKR2:Hid _:=box_below DR2 HKR.out
  obtain ⟨e0,e1,e2,e3,e4,e5,e6,e7,e8,e9,e10,e11,e12⟩:=HS.out _ DR2
  have X4:Below w.heap.size w w4:=Below.step HB.out DR2
  have HP4:Hid (BoxP w4 S0 g o b):=HP.out w4 X4
  have HT4:Hid (Turns w w4 S0 g o):=turns_below X4
  have hz:=HP4.out.open
  clear HS HKC HC HV HKR DR2 HB2 X4
  have HP5:Hid (BoxP (w4.setCell ⟨g,o+3,none⟩ (.int .i64 (b.seq+1))) S0 g o (seqX b)):=HP4.out.setSeq (b.seq+1) ⟨by omega,by omega⟩
  have HT5:Hid (Turns w (w4.setCell ⟨g,o+3,none⟩ (.int .i64 (b.seq+1))) S0 g o):=Turns.trans HT4.out (turns_set (S':=S0) HP4.out (by omega)) (fun k h=>.inl h)
  have HK5:Hid _:=box_other (k:=g) (i:=o+3) (v:=.int .i64 (b.seq+1)) HKR2.out (by omega)
  go_upto_region 12 with fail
  clear e0 e1 e2 e3 e4 e5 e6 e7 e8 e9 e10 e11 e12 hz hg2 hm2 hc2
  generalize w4.setCell ⟨g,o+3,none⟩ (.int .i64 (b.seq+1))=w5 at HP5 HT5 HK5 ⊢
  obtain ⟨mx,cx,d4,lx,nx,sx,tx,df,dq,zx,pf,ps⟩:=HP5.out.mail (show (seqX b).mails[i]?=some m from HM.out)
  have HPF:Hid (BoxP (w5.setCell ⟨mx,i * 4+1,none⟩ (.int .i64 (flD m.flags mode fl))) S0 g o _):=pf (flD m.flags mode fl) HFL.out
  have HTF:Hid (Turns w (w5.setCell ⟨mx,i * 4+1,none⟩ (.int .i64 (flD m.flags mode fl))) S0 g o):=Turns.trans HT5.out (turns_mail (S:=S0) tx (.inl sx)) (fun k h=>.inl h)
  have HKF:Hid _:=box_other (k:=mx) (i:=i * 4+1) (v:=.int .i64 (flD m.flags mode fl)) HK5.out (fun e=>by subst e;exact hS0 sx)
  have lg5:=HP5.out.lt
  simp only [seqX] at d4
  clear pf ps
  go_upto_region 13 with fail
  clear d4 lx nx sx tx df dq zx lg5
  generalize w5.setCell ⟨mx,i * 4+1,none⟩ (.int .i64 (flD m.flags mode fl))=w6 at HPF HTF HKF ⊢
  have HP6:Hid (BoxP w6.drew S0 g o _):=HPF.out.below (Below.refl _ _).drew
  have HT6:Hid (Turns w w6.drew S0 g o):=Turns.trans HTF.out (turns_below (S:=S0) (Below.refl _ _).drew) (fun k h=>.inl h)
  have HK6:Hid _:=box_below (Below.refl _ _).drew HKF.out
  have hmm:(b.mails.set i ⟨m.uid,flD m.flags mode fl,m.seq,m.text⟩)[i]?=some ⟨m.uid,flD m.flags mode fl,m.seq,m.text⟩:=List.getElem?_set_self hil
  obtain ⟨my,cy,d4,ly,ny,sy,ty,df,dq,zy,pf,ps⟩:=HP6.out.mail hmm
  simp only [seqX,List.length_set] at d4
  obtain ⟨-,-,-,-,-,-,-,-,-,-,d3,-⟩:=HP6.out.cells
  simp only [seqX] at d3
  have HP7:Hid (BoxP (w6.drew.setCell ⟨my,i * 4+2,none⟩ (.int .i64 (b.seq+1))) S0 g o _):=ps (b.seq+1) ⟨by omega,by omega⟩
  have HT7:Hid (Turns w (w6.drew.setCell ⟨my,i * 4+2,none⟩ (.int .i64 (b.seq+1))) S0 g o):=Turns.trans HT6.out (turns_mail (S:=S0) ty (.inl sy)) (fun k h=>.inl h)
  have HK7:Hid _:=box_other (k:=my) (i:=i * 4+2) (v:=.int .i64 (b.seq+1)) HK6.out (fun e=>by subst e;exact hS0 sy)
  have lg6:=HP6.out.lt
  clear pf ps df HPF HTF HKF
  refine wpS_begin 9 (S:=fun w'=>(w'.cell? ⟨g,o+4,none⟩=some (.slice (some ⟨my,0,none⟩) b.mails.length cy)∧w'.cell? ⟨g,o+3,none⟩=some (.int .i64 (b.seq+1)))) (tabS_of (by kernel_rfl) tab_store13) (by kernel_rfl) (⟨d4,d3⟩) (fun hTb hHeld=>?_)
  refine tks 0 0 94 hTb hHeld ?_
  refine tks 1 1 95 hTb hHeld ?_
  refine tks 2 2 96 hTb hHeld ?_
  refine tks 3 3 97 hTb hHeld ?_
  refine tks 4 4 98 hTb hHeld ?_
  refine tks 5 5 99 hTb hHeld ?_
  refine tks 6 6 100 hTb hHeld ?_
  refine tks 7 7 101 hTb hHeld ?_
  refine tks 8 8 102 hTb hHeld ?_
  refine wpS_next (S':=fun w'=>True) 9 12 hTb (by decide) (trivial) (fun hHeld=>?_)
  refine tks 9 9 103 hTb hHeld ?_
  refine tks 10 10 104 hTb hHeld ?_
  refine cls 11 11 hTb (by decide) rfl rfl (fun K hK=>?_)
  go_simp
  refine hK.out _ _ (trivial) (fun hHeld=>?_)
  clear hK K
  refine wpS_end hTb ?_
  clear d3 d4 ly ny sy ty dq zy lg6
  go_upto_region 14 with fail
  have eD:(w6.setCell ⟨my,i * 4+2,none⟩ (.int .i64 (b.seq+1))).drew=w6.drew.setCell ⟨my,i * 4+2,none⟩ (.int .i64 (b.seq+1)):=rfl
  rw [eD]
  clear eD
  generalize w6.drew.setCell ⟨my,i * 4+2,none⟩ (.int .i64 (b.seq+1))=w7 at HP7 HT7 HK7 ⊢
  obtain ⟨-,-,-,-,-,-,-,-,-,-,d3,-⟩:=HP7.out.cells
  simp only [seqX] at d3
  have lg7:=HP7.out.lt
  obtain ⟨r0,r1,r2,r3,r4,r5,r6,r7,r8,r9⟩:=bx10 HK7.out
  have fz:∀ i,w7.frozen? ⟨w.heap.size+1,i,none⟩=false:=fun i=>frozen_of_row _ _ i _ _ HK7.out
  have hlr:=lt_of_heap HK7.out
  have HF:Hid _:=rep_turn HK7.out (by omega) HT7.out _ _ HP7.out hlg hS0 0 (b.seq+1) ⟨i64c0,by omega,by omega⟩
  go_wp2
  obtain ⟨f0,f1,f2,f3,f4,f5,f6,f7,f8,f9⟩:=bx10 HF.out.1
  refine bodyPost_ret (v:=.agg #[.int .i64 0,.int .i64 (b.seq+1),.slice none 0 0,.int .i64 0,.int .i64 0,.int .i64 0,.slice none 0 0,.slice none 0 0,.int .i64 0,.slice none 0 0]) (by simp [results,Tryd.results71,go_sem,f0,f1,f2,f3,f4,f5,f6,f7,f8,f9]) rfl ⟨_,rfl,HF.out.2.2.2,Turns.wide HF.out.2.1 HSUB.out,?_⟩
  have hb:=HF.out.2.2.1
  rw [List.set_set] at hb
  exact BoxP.mono hb HSUB.out

end Go.Proofs.YtnlhkgoppjejeaaDoor

/- What l3store of package spec does: all its ways in one contract. -/
namespace Go.Proofs.YtnlhkgoppjejeaaDoor
open Go.RowKit
set_option linter.unusedVariables false
set_option linter.unusedSimpArgs false

theorem bits_i64 (op:BinOp) (x y:Int):I64 (bits op IntKind.i64 x y):=by
 unfold bits
 simp only [IntKind.wrap_i64]
 unfold I64
 omega
theorem flD_i64 {was mode fl:Int} (h:I64 fl):I64 (flD was mode fl):=by
 unfold flD
 split
 ·exact bits_i64 _ _ _
 ·split
  ·exact bits_i64 _ _ _
  ·exact h

theorem l3store_r (g o:Nat) (b:BoxD) (S:Nat→Prop) (k uid mode fl si:Int) (x0 x1 x2:Option Addr) (n0 n1 n2 m0 m1 m2:Nat) (w:World) (hp:BoxP w S g o b) (hsx:szX b≤2000000) (hfl:I64 fl) :
  Calls Tryd.prog 71 #[.pointer (some ⟨g,o,none⟩),.agg #[.int .i64 k,.slice x0 n0 m0,.slice x1 n1 m1,.int .i64 uid,.int .i64 mode,.int .i64 fl,.int .i64 si,.slice x2 n2 m2]] w fun e w'=>∃ u,e=.returned u∧RepC w' u (storeX b uid mode fl si).2∧Turns w w' S g o∧BoxP w' S g o (storeX b uid mode fl si).1:=by
 unfold storeX
 cases hf:b.mails.findIdx? (fun m:MailD=>decide (m.uid=uid)) with
 | none=>exact l3store_none g o b S k uid mode fl si x0 x1 x2 n0 n1 n2 m0 m1 m2 w hp hsx (by unfold firstI;rw [hf])
 | some i =>
  have hfi:firstI (fun m:MailD=>decide (m.uid=uid)) b.mails=(i:Int):=by unfold firstI;rw [hf]
  obtain ⟨hi,-,-⟩:=List.findIdx?_eq_some_iff_getElem.mp hf
  have hm:b.mails[i]?=some b.mails[i]:=List.getElem?_eq_getElem hi
  generalize b.mails[i]=m at hm
  simp only [hm]
  by_cases hs:0 < si∧si < m.seq
  ·rw [if_pos hs]
   exact l3store_stale g o b S k uid mode fl si x0 x1 x2 n0 n1 n2 m0 m1 m2 w hp hsx i m hm hfi hs.1 hs.2
  ·rw [if_neg hs]
   by_cases hq:flD m.flags mode fl=m.flags
   ·rw [if_pos hq]
    exact l3store_end g o b S k uid mode fl si x0 x1 x2 n0 n1 n2 m0 m1 m2 w hp hsx i m hm hfi hs 0 m.seq (.inl ⟨hq,rfl,rfl⟩)
   ·rw [if_neg hq]
    by_cases hz:1000000≤b.seq
    ·rw [if_pos hz]
     exact l3store_end g o b S k uid mode fl si x0 x1 x2 n0 n1 n2 m0 m1 m2 w hp hsx i m hm hfi hs 3 0 (.inr ⟨hq,hz,rfl,rfl⟩)
    ·rw [if_neg hz]
     exact l3store_done g o b S k uid mode fl si x0 x1 x2 n0 n1 n2 m0 m1 m2 w hp hsx i m hm hfi hs hq hz (flD_i64 hfl)

end Go.Proofs.YtnlhkgoppjejeaaDoor
