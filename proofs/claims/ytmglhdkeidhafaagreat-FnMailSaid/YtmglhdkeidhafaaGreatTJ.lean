/- The proof's texts, part 45. -/
import Derived.Test.YtmglhdkeidhafaaGreatTI
namespace Go.Proofs.YtmglhdkeidhafaaGreat
open Go.RowKit
set_option linter.unusedVariables false
set_option linter.unusedSimpArgs false
set_option maxHeartbeats 8000000
set_option maxRecDepth 100000
/- What TL of package spec draws: an account that can be read. -/
theorem adz:(Tryz.f11.body.bind (bR 21)).all (fun o=>dW o 15 [0,1,2,3,4,5,6,7,8,9,10,11,12,13,14] [10,11,14] [12,15] 8)=true:=by kernel_rfl
theorem adA:(Tryz.f11.body.bind (bR 26)).all (fun o=>dW o 9 [0,1,2,3,4,5,6,7,8] [3,4,5,6,8] [7,9] 8)=true:=by kernel_rfl
/-- What it has seen is put anew. -/
theorem fH.seen {w0 wI w w1:World} {g ga:Nat} {cv v:Value} {L l:List Int} {a:aF} {S:Nat→Prop} (h:fH w0 wI w g ga cv L a S) (hg:g < wI.heap.size) (hb:Below w.heap.size w w1) (hO:eY w1 Any v l):kE w0 wI (w1.setCell ⟨ga,2,none⟩ v) g ga cv L:=by
 have h1:=h.below hb
 have hp:=h1.pl
 have hne:=h1.ne hg
 have hlow:=h1.low
 have h0:=h1.cur.1
 obtain ⟨hS,u0,u1,hk,hq,-,hi⟩:=h1.acc
 have hty:Ty w1 ga 26:=⟨_,_,hk⟩
 have hset:∀ k,k≠ga→(w1.setCell ⟨ga,2,none⟩ v).heap[k]?=w1.heap[k]?:=fun k h=>Below.heap_setCell _ _ _ _ h
 exact ⟨⟨a.valid,a.boxes,l⟩,S,u0,v,aJ (i:=2) (v:=v) hk,Me (Md hq) (fun k hk _=>hset k fun e=>hS (e ▸ hk)) (fV hty (by decide)) (fV hty (by decide)),jd hO fun k _ _ hT=>hset k fun e=>by obtain ⟨cs,fz,hT⟩:=hT;rw [e] at hT;exact dO hT hty (by decide),hi,h.inv.b,hlow,hp,h1.cur.but (K:=fun k=>k=ga) (by rw [bf];exact Nat.le_refl _) rfl rfl rfl (fun k _ h=>hset k h) hne.1 (fun k h=>by omega),(hset _ (by omega)).trans h1.res⟩
/-- The first dV of a box, where its flags lie. -/
theorem fH.dV {w0 wI w:World} {g ga gb cap i mb mc:Nat} {cv:Value} {L:List Int} {a:aF} {S:Nat→Prop} {b:aA} {m:aC} (h:fH w0 wI w g ga cv L a S) (hb:a.boxes[i]?=some b) (hx:jm w ga 1 (.slice (some ⟨gb,0,none⟩) a.boxes.length cap)) (hm:b.ah[0]?=some m) (hy:w.cell? ⟨gb,i * 7+4,none⟩=some (.slice (some ⟨mb,0,none⟩) b.ah.length mc)):w.cell? ⟨mb,1,none⟩=some (.int .i64 m.flags)∧(∀ j,w.frozen? ⟨mb,j,none⟩=false)∧mb < w.heap.size∧gb≠mb:=by
 obtain ⟨dJ,cap',S1,hc,-,hP,-,-⟩:=h.acc.at hb
 rw [show w.cell? ⟨ga,1,none⟩=_ from hx] at hc
 simp only [Option.some.injEq,Value.slice.injEq,Addr.mk.injEq,true_and,and_true] at hc
 obtain ⟨rfl,rfl⟩:=hc
 obtain ⟨mb',mc',q4,hl,hne,-,-,k1,-,hf,-⟩:=hP.dV hm
 rw [hy] at q4
 simp only [Option.some.injEq,Value.slice.injEq,Addr.mk.injEq,true_and,and_true] at q4
 obtain ⟨rfl,rfl⟩:=q4
 exact ⟨by simpa using k1,hf,hl,Ne.symm hne⟩
theorem adB (w0 w:World) (g:Nat) (cv:Value) (L:List Int) (hc:bN w0 w g cv L) :
  Calls Tryz.prog 11 #[.pointer (some ⟨g,0,none⟩)] w fun e w'=>∃ u,e=.returned u∧∃ a,Mf w' u a∧ru a∧bN w0 w' g cv L:=by
 have hgl:=hc.lt.2
 have AB:Below w.heap.size w (w.alloc (.cells #[.int .i64 0,.slice none 0 0,.slice none 0 0] 26)):=bn _ _
 have HC:=aD (hc.below AB)
 have HK:=aD (aW w (.cells #[.int .i64 0,.slice none 0 0,.slice none 0 0] 26))
 have hs1:(w.alloc (.cells #[.int .i64 0,.slice none 0 0,.slice none 0 0] 26)).heap.size=w.heap.size+1:=by simp
 clear hc AB
 go_enter Tryz.func11,Tryz.ntmps11
 go_upto_region 1 with fail
 generalize w.alloc (.cells #[.int .i64 0,.slice none 0 0,.slice none 0 0] 26)=w1 at HC HK hs1 ⊢
 go_wp2_with fail
 refine (adh w0 w1 g cv L HC.out).mono ?_
 rintro e w2 ⟨a,S,b0,b1,rfl,hq,hs,hi,hI,hlow,C2,G2,hsl⟩
 obtain ⟨a0,c0,rfl,-⟩:=hq.v.form
 obtain ⟨a1,n1,c1,rfl⟩:∃ ua un uc,b1=.slice ua un uc:=by
  rcases hs with ⟨h,-⟩ | ⟨q,cap,cur,cs,fs,h,-⟩ <;> exact ⟨_,_,_,h⟩
 have hz2:=G2.size
 have AB:Below w2.heap.size w2 (w2.alloc (.cells #[.int .i64 a.valid,.slice a0 a.boxes.length c0,.slice a1 n1 c1] 26)):=bn _ _
 have HB:Hid (fH w0 w (w2.alloc (.cells #[.int .i64 a.valid,.slice a0 a.boxes.length c0,.slice a1 n1 c1] 26)) g w2.heap.size cv L a (fun k=>S k∧k < w2.heap.size)) :=
  ⟨C2.below AB,aB AB ((G2.block _ (lt_of_heap HK.out) (by simp;omega)).trans HK.out),⟨fun h=>Nat.lt_irrefl _ h.2,_,_,aW w2 _,xK (iK.cut hq) (fun k _ h=>AB.block k h) (fU AB) (fU AB),Ow.mono (jd hs fun k _ h _=>AB.block k h) fun k h=>⟨fun h'=>h.1.1 h'.1,Nat.lt_of_lt_of_le h.2 AB.size⟩,hi⟩,hI,fun k h=>by have:=hlow k h.1;omega,fun k h=>Nat.lt_of_lt_of_le h.2 AB.size,by omega,_,_,aW w2 _,Ow.mono (jd hs fun k _ h _=>AB.block k h) fun k h=>⟨by have:=h.1.2;omega,Nat.lt_of_lt_of_le h.2 AB.size⟩⟩
 clear HC HK hq hs hi hI hlow C2 G2 AB
 go_upto_region 2 with fail
 generalize w2.alloc (.cells #[.int .i64 a.valid,.slice a0 a.boxes.length c0,.slice a1 n1 c1] 26)=w3 at HB ⊢
 generalize hSe:(fun k=>S k∧k < w2.heap.size)=S2 at HB
 clear hSe
 obtain ⟨ga,hga⟩:∃ ga,ga=w2.heap.size:=⟨_,rfl⟩
 rw [← hga] at HB ⊢
 clear hga hz2
 go_wp2_with fail
 refine (Es w0 _ g cv L 6 HB.out.cur (by omega) (by omega)).mono ?_
 rintro e w4 ⟨y,rfl,C4,G4⟩
 have gL:=aD (HB.out.draw hgl C4 G4)
 clear HB C4 G4
 cases y
 ·obtain ⟨x,b0,b1,d0,m1,d1,hga,hk,hr,HF⟩:=gL.out.fin.out hgl
  obtain ⟨f0,f1,f2⟩:=bM hk
  obtain ⟨r0,r1,r2⟩:=bM hr
  have fz:=(aZ hr).1
  have hlk:=lt_of_heap hk
  have hlr:=lt_of_heap hr
  clear hk hr gL
  go_wp2
  obtain ⟨e0,e1,e2⟩:=bM HF.out.1
  exact bodyPost_ret (v:=.agg #[.int .i64 x.valid,.slice b0 x.boxes.length d0,.slice b1 m1 d1]) (by simp [results,Tryz.results11,go_sem,e0,e1,e2]) rfl ⟨_,rfl,x,HF.out.2.1,HF.out.2.2.1,HF.out.2.2.2⟩
 ·obtain ⟨v0,v1,k0,k1,k2,hbq,-⟩:=gL.out.acc.cells
  obtain ⟨e0,ec,rfl,-⟩:=hbq.v.form
  have hla:=gL.out.acc.lt
  have hfa:=gL.out.acc.open
  by_cases hl:a.boxes.length=0
  ·have hlb:((a.boxes.length:Int) == 0)=true:=by simp [hl]
   clear hl
   have AB:Below w4.heap.size w4 (w4.alloc (.cells #[.int .i64 0] 3)):=bn _ _
   have HE:=aD (gL.out.seen hgl AB (v:=.slice (some ⟨w4.heap.size,0,none⟩) 1 1) (l:=[0]) (.inr ⟨w4.heap.size,1,_,fun _=>[.int .i64 0],fun _ _=>False,rfl,aW w4 _,Nat.le_refl _,by decide,rfl,trivial,fun i x hx=>by
    have:i=0:=by have:=(gs1 hx).1;simpa using this
    subst this
    simp only [List.getElem?_cons_zero,Option.some.injEq] at hx
    subst hx
    exact ⟨⟨rfl,aI⟩,rfl,fun j u hu=>by simpa using hu⟩,fun _ _ _ h=>h.elim,fun _ _ _ _ _ _ h=>h.elim⟩))
   rw [World.setCell_alloc_past _ _ _ _ hla] at HE
   clear AB hbq gL
   go_upto_region 6 with fail
   clear k0 k1 k2 hla hfa
   generalize (w4.setCell ⟨ga,2,none⟩ (.slice (some ⟨w4.heap.size,0,none⟩) 1 1)).alloc (.cells #[.int .i64 0] 3)=w5 at HE ⊢
   obtain ⟨x,b0,b1,d0,m1,d1,hga,hk,hr,HF⟩:=HE.out.out hgl
   obtain ⟨f0,f1,f2⟩:=bM hk
   obtain ⟨r0,r1,r2⟩:=bM hr
   have fz:=(aZ hr).1
   have hlk:=lt_of_heap hk
   have hlr:=lt_of_heap hr
   clear hk hr HE
   go_wp2
   obtain ⟨e0,e1,e2⟩:=bM HF.out.1
   exact bodyPost_ret (v:=.agg #[.int .i64 x.valid,.slice b0 x.boxes.length d0,.slice b1 m1 d1]) (by simp [results,Tryz.results11,go_sem,e0,e1,e2]) rfl ⟨_,rfl,x,HF.out.2.1,HF.out.2.2.1,HF.out.2.2.2⟩
  ·have hlb:((a.boxes.length:Int) == 0)=false:=by simp [hl]
   have h4:=gL.out.inv.1
   obtain ⟨gb,cap,S1,hc1,-⟩:=gL.out.acc.at (i:=0) (b:=a.boxes[0]) (aL (by omega))
   rw [k1] at hc1
   simp only [Option.some.injEq,Value.slice.injEq,true_and] at hc1
   obtain ⟨rfl,rfl⟩:=hc1
   have DR:Below w4.heap.size w4 w4.drew:=(bd _ _)
   have Aa:=aD (gL.out.below DR)
   have HX:Hid (jm w4.drew ga 1 (.slice (some ⟨gb,0,none⟩) a.boxes.length ec)):=(DR.cell (p:=⟨ga,1,none⟩) hla).trans k1
   have hld:ga < w4.drew.heap.size:=Aa.out.acc.lt
   clear hbq DR k0 k2 hfa gL
   go_upto_region 7 with fail
   go_region_held3 (fun w'=>w'.cell? ⟨ga,1,none⟩=some (.slice (some ⟨gb,0,none⟩) a.boxes.length ec))
    (first | exact HX.out | exact iC | go_keep)
    ((go_at_call 31;refine (kQ w0 _ g cv L (a.boxes.length:Int) Aa.out.cur (by omega) (by omega)).mono ?_;rintro e w5 ⟨x,rfl,hx0,hx1,C5,G5⟩;obtain ⟨i,rfl⟩:∃ i:Nat,x=i:=⟨x.toNat,by omega⟩;have iC:w5.cell? ⟨ga,1,none⟩=some (.slice (some ⟨gb,0,none⟩) a.boxes.length ec):=HX.out.gb G5 hld (by have:=Aa.out.ne hgl;omega)))
   have hnl:ga≠g:=by have:=Aa.out.ne hgl;omega
   have jr:=aD (Aa.out.draw hgl C5 G5)
   have qC:Hid (jm w5 ga 1 (.slice (some ⟨gb,0,none⟩) a.boxes.length ec)):=iC
   have TM:=jr.out.acc.lt
   have hil:i < a.boxes.length:=by omega
   obtain ⟨b,hb⟩:∃ b,a.boxes[i]?=some b:=⟨a.boxes[i],aL hil⟩
   have fq:=aD hb
   have hbi:=jr.out.inv.2 b (List.mem_of_getElem? hb)
   have Dp:=aD hbi
   clear Aa HX C5 G5 hb iC hbi k1 hla hld
   go_wp2_with fail
   refine (kQ w0 _ g cv L 9 jr.out.cur (by omega) (by omega)).mono ?_
   rintro e w6 ⟨n,rfl,hn0,hn1,C6,G6⟩
   have HB:=aD (jr.out.draw hgl C6 G6)
   have HX:=aD (qC.out.gb G6 TM hnl)
   clear jr qC C6 G6 TM
   go_upto_block 0 with fail
   go_cut [] (fun wx=>Hid (kE w0 w wx g ga cv L))
   case first =>
    obtain rfl | rfl | rfl | rfl | rfl | rfl | rfl | rfl | rfl:n=0∨n=1∨n=2∨n=3∨n=4∨n=5∨n=6∨n=7∨n=8:=by omega
    ·have AB:Below w6.heap.size w6 (w6.alloc (.cells #[.string ⟨#[]⟩,.string ⟨#[65]⟩,.string ⟨#[122,122,122,122,122,122,122]⟩,.string ⟨#[105,110,98,111,120]⟩] 9)):=bn _ _
     have K0:=aW w6 (.cells #[.string ⟨#[]⟩,.string ⟨#[65]⟩,.string ⟨#[122,122,122,122,122,122,122]⟩,.string ⟨#[105,110,98,111,120]⟩] 9)
     have bY:=aD (HB.out.below AB)
     have eZ:Hid (jm (w6.alloc (.cells #[.string ⟨#[]⟩,.string ⟨#[65]⟩,.string ⟨#[122,122,122,122,122,122,122]⟩,.string ⟨#[105,110,98,111,120]⟩] 9)) ga 1 (.slice (some ⟨gb,0,none⟩) a.boxes.length ec)):=(AB.cell (p:=⟨ga,1,none⟩) HB.out.acc.lt).trans HX.out
     have hla:=bY.out.acc.lt
     have hg6:=HB.out.cur.lt.2
     clear HB HX AB
     go_wp2_with fail
     refine (kQ w0 _ g cv L 4 bY.out.cur (by omega) (by omega)).mono ?_
     rintro e w8 ⟨x,rfl,hx0,hx1,C8,G8⟩
     have K1:w8.heap[w6.heap.size]?=_:=(G8.block w6.heap.size (lt_of_heap K0) (by simp;omega)).trans K0
     have hl1:=lt_of_heap K1
     have gT:=aD (bY.out.draw hgl C8 G8)
     have jM:=aD (eZ.out.gb G8 hla hnl)
     clear bY eZ C8 G8 hla K0
     obtain ⟨j,rfl⟩:=Int.eq_ofNat_of_zero_le hx0
     obtain ⟨nm,hcell,ho,TN⟩:∃ nm:List Int,w8.cell? ⟨w6.heap.size,j,none⟩=some (.string (strOfNums nm))∧Oct nm∧nm.length≤7:=by
      rw [cell_of_row w8 w6.heap.size j _ _ (0,0) K1]
      obtain rfl | rfl | rfl | rfl:j=0∨j=1∨j=2∨j=3:=by omega
      ·exact ⟨[],rfl,by intro x hx;simp at hx,by decide⟩
      ·exact ⟨[65],rfl,by intro x hx;simp at hx;omega,by decide⟩
      ·exact ⟨[122,122,122,122,122,122,122],rfl,by intro x hx;simp at hx;omega,by decide⟩
      ·exact ⟨[105,110,98,111,120],rfl,by intro x hx;simp at hx;omega,by decide⟩
     have hcv:(convert 9 22 (.string (strOfNums nm))).run Tryz.prog w8=.ok (.slice (some ⟨w8.heap.size,0,none⟩) nm.length (grownCap w8 nm.length 0 5)) (Lib.bytesWorld w8 5 (strOfNums nm)):=mO nm w8
     obtain ⟨p1,p2⟩:=l9 w8 nm ho (by omega)
     have lI:=aD (gT.out.below p2)
     have pq:=(p2.cell (p:=⟨ga,1,none⟩) gT.out.acc.lt).trans jM.out
     have gV:=aD p1
     clear p1 p2 gT jM K1
     generalize Lib.bytesWorld w8 5 (strOfNums nm)=w9 at hcv lI pq gV
     generalize grownCap w8 nm.length 0 5=gc at hcv gV
     obtain ⟨dJ,cap',S1,hc1,-,hP,-,-⟩:=lI.out.acc.at fq.out
     rw [pq] at hc1
     simp only [Option.some.injEq,Value.slice.injEq,Addr.mk.injEq,true_and,and_true] at hc1
     obtain ⟨rfl,rfl⟩:=hc1
     obtain ⟨v0,v1,v2,-,-,-,-,q0,-⟩:=hP.cells
     have fz:=hP.open
     have nR:=hP.lt
     have HF:=aD (lI.out.name hgl fq.out pq gV.out TN)
     clear hP lI pq gV ho TN
     go_wp2
     go_meet
     case rel=>exact HF
    ·have AB:Below w6.heap.size w6 (w6.alloc (.cells #[.int .i64 0,.int .i64 1,.int .i64 99] 3)):=bn _ _
     have HI:Hid (lJ (w6.alloc (.cells #[.int .i64 0,.int .i64 1,.int .i64 99] 3)) (.slice (some ⟨w6.heap.size,0,none⟩) 3 3) g 3 (0) 99):=by simpa [Hid] using ni w6 g [0,1,99] 3 (0) 99 HB.out.cur.lt.2 (by simp) (by simp) (by intro x hx;simp at hx;omega)
     have bY:=aD (HB.out.below AB)
     have eZ:Hid (jm (w6.alloc (.cells #[.int .i64 0,.int .i64 1,.int .i64 99] 3)) ga 1 (.slice (some ⟨gb,0,none⟩) a.boxes.length ec)):=(AB.cell (p:=⟨ga,1,none⟩) HB.out.acc.lt).trans HX.out
     have hla:=bY.out.acc.lt
     clear HB HX AB
     go_wp2_with fail
     refine (ng w0 _ g 3 _ _ L (0) 99 bY.out.cur HI.out).mono ?_
     rintro e w8 ⟨y,rfl,hy0,hy1,C8,G8⟩
     have hyi:ay y:=⟨by omega,by omega⟩
     have gT:=aD (bY.out.draw hgl C8 G8)
     have jM:=aD (eZ.out.gb G8 hla hnl)
     clear bY eZ HI C8 G8 hla
     obtain ⟨dJ,cap',S1,hc1,-,hP,-,-⟩:=gT.out.acc.at fq.out
     rw [show w8.cell? ⟨ga,1,none⟩=_ from jM.out] at hc1
     simp only [Option.some.injEq,Value.slice.injEq,Addr.mk.injEq,true_and,and_true] at hc1
     obtain ⟨rfl,rfl⟩:=hc1
     obtain ⟨v0,v1,v2,-,-,-,-,q0,q1,q2,q3,q4,q5,q6⟩:=hP.cells
     have fz:=hP.open
     have nR:=hP.lt
     have HF:=aD (gT.out.wS hgl fq.out jM.out (w':=w8.setCell ⟨gb,i * 7+1,none⟩ (.int .i64 y)) (b':=⟨b.name,y,b.next,b.seq,b.ah,b.au,b.lost⟩) (fun S1 h=>⟨S1,h.zw y hyi,lK h (by omega),fun _ h=>.inl h⟩) (eG.b (x:=⟨b.name,y,b.next,b.seq,b.ah,b.au,b.lost⟩) Dp.out))
     clear hP gT jM
     go_wp2
     go_meet
     case rel=>exact HF
    ·have AB:Below w6.heap.size w6 (w6.alloc (.cells #[.int .i64 0,.int .i64 1,.int .i64 1000000,.int .i64 1000001] 3)):=bn _ _
     have HI:Hid (lJ (w6.alloc (.cells #[.int .i64 0,.int .i64 1,.int .i64 1000000,.int .i64 1000001] 3)) (.slice (some ⟨w6.heap.size,0,none⟩) 4 4) g 4 (0) 1000001):=by simpa [Hid] using ni w6 g [0,1,1000000,1000001] 3 (0) 1000001 HB.out.cur.lt.2 (by simp) (by simp) (by intro x hx;simp at hx;omega)
     have bY:=aD (HB.out.below AB)
     have eZ:Hid (jm (w6.alloc (.cells #[.int .i64 0,.int .i64 1,.int .i64 1000000,.int .i64 1000001] 3)) ga 1 (.slice (some ⟨gb,0,none⟩) a.boxes.length ec)):=(AB.cell (p:=⟨ga,1,none⟩) HB.out.acc.lt).trans HX.out
     have hla:=bY.out.acc.lt
     clear HB HX AB
     go_wp2_with fail
     refine (ng w0 _ g 4 _ _ L (0) 1000001 bY.out.cur HI.out).mono ?_
     rintro e w8 ⟨y,rfl,hy0,hy1,C8,G8⟩
     have hyi:ay y:=⟨by omega,by omega⟩
     have gT:=aD (bY.out.draw hgl C8 G8)
     have jM:=aD (eZ.out.gb G8 hla hnl)
     clear bY eZ HI C8 G8 hla
     obtain ⟨dJ,cap',S1,hc1,-,hP,-,-⟩:=gT.out.acc.at fq.out
     rw [show w8.cell? ⟨ga,1,none⟩=_ from jM.out] at hc1
     simp only [Option.some.injEq,Value.slice.injEq,Addr.mk.injEq,true_and,and_true] at hc1
     obtain ⟨rfl,rfl⟩:=hc1
     obtain ⟨v0,v1,v2,-,-,-,-,q0,q1,q2,q3,q4,q5,q6⟩:=hP.cells
     have fz:=hP.open
     have nR:=hP.lt
     have HF:=aD (gT.out.wS hgl fq.out jM.out (w':=w8.setCell ⟨gb,i * 7+2,none⟩ (.int .i64 y)) (b':=⟨b.name,b.valid,y,b.seq,b.ah,b.au,b.lost⟩) (fun S1 h=>⟨S1,h.EH y hyi,lK h (by omega),fun _ h=>.inl h⟩) (eG.b (x:=⟨b.name,b.valid,y,b.seq,b.ah,b.au,b.lost⟩) Dp.out))
     clear hP gT jM
     go_wp2
     go_meet
     case rel=>exact HF
    ·have AB:Below w6.heap.size w6 (w6.alloc (.cells #[.int .i64 0,.int .i64 1000000,.int .i64 999999,.int .i64 1000001] 3)):=bn _ _
     have HI:Hid (lJ (w6.alloc (.cells #[.int .i64 0,.int .i64 1000000,.int .i64 999999,.int .i64 1000001] 3)) (.slice (some ⟨w6.heap.size,0,none⟩) 4 4) g 4 (0) 1000001):=by simpa [Hid] using ni w6 g [0,1000000,999999,1000001] 3 (0) 1000001 HB.out.cur.lt.2 (by simp) (by simp) (by intro x hx;simp at hx;omega)
     have bY:=aD (HB.out.below AB)
     have eZ:Hid (jm (w6.alloc (.cells #[.int .i64 0,.int .i64 1000000,.int .i64 999999,.int .i64 1000001] 3)) ga 1 (.slice (some ⟨gb,0,none⟩) a.boxes.length ec)):=(AB.cell (p:=⟨ga,1,none⟩) HB.out.acc.lt).trans HX.out
     have hla:=bY.out.acc.lt
     clear HB HX AB
     go_wp2_with fail
     refine (ng w0 _ g 4 _ _ L (0) 1000001 bY.out.cur HI.out).mono ?_
     rintro e w8 ⟨y,rfl,hy0,hy1,C8,G8⟩
     have hyi:ay y:=⟨by omega,by omega⟩
     have gT:=aD (bY.out.draw hgl C8 G8)
     have jM:=aD (eZ.out.gb G8 hla hnl)
     clear bY eZ HI C8 G8 hla
     obtain ⟨dJ,cap',S1,hc1,-,hP,-,-⟩:=gT.out.acc.at fq.out
     rw [show w8.cell? ⟨ga,1,none⟩=_ from jM.out] at hc1
     simp only [Option.some.injEq,Value.slice.injEq,Addr.mk.injEq,true_and,and_true] at hc1
     obtain ⟨rfl,rfl⟩:=hc1
     obtain ⟨v0,v1,v2,-,-,-,-,q0,q1,q2,q3,q4,q5,q6⟩:=hP.cells
     have fz:=hP.open
     have nR:=hP.lt
     have HF:=aD (gT.out.wS hgl fq.out jM.out (w':=w8.setCell ⟨gb,i * 7+3,none⟩ (.int .i64 y)) (b':=⟨b.name,b.valid,b.next,y,b.ah,b.au,b.lost⟩) (fun S1 h=>⟨S1,h.su y hyi,lK h (by omega),fun _ h=>.inl h⟩) (eG.b (x:=⟨b.name,b.valid,b.next,y,b.ah,b.au,b.lost⟩) Dp.out))
     clear hP gT jM
     go_wp2
     go_meet
     case rel=>exact HF
    ·have AB:Below w6.heap.size w6 (w6.alloc (.cells #[.int .i64 (-1),.int .i64 0,.int .i64 1,.int .i64 9] 3)):=bn _ _
     have HI:Hid (lJ (w6.alloc (.cells #[.int .i64 (-1),.int .i64 0,.int .i64 1,.int .i64 9] 3)) (.slice (some ⟨w6.heap.size,0,none⟩) 4 4) g 4 (-1) 9):=by simpa [Hid] using ni w6 g [-1,0,1,9] 3 (-1) 9 HB.out.cur.lt.2 (by simp) (by simp) (by intro x hx;simp at hx;omega)
     have bY:=aD (HB.out.below AB)
     have eZ:Hid (jm (w6.alloc (.cells #[.int .i64 (-1),.int .i64 0,.int .i64 1,.int .i64 9] 3)) ga 1 (.slice (some ⟨gb,0,none⟩) a.boxes.length ec)):=(AB.cell (p:=⟨ga,1,none⟩) HB.out.acc.lt).trans HX.out
     have hla:=bY.out.acc.lt
     clear HB HX AB
     go_wp2_with fail
     refine (ng w0 _ g 4 _ _ L (-1) 9 bY.out.cur HI.out).mono ?_
     rintro e w8 ⟨y,rfl,hy0,hy1,C8,G8⟩
     have hyi:ay y:=⟨by omega,by omega⟩
     have gT:=aD (bY.out.draw hgl C8 G8)
     have jM:=aD (eZ.out.gb G8 hla hnl)
     clear bY eZ HI C8 G8 hla
     obtain ⟨dJ,cap',S1,hc1,-,hP,-,-⟩:=gT.out.acc.at fq.out
     rw [show w8.cell? ⟨ga,1,none⟩=_ from jM.out] at hc1
     simp only [Option.some.injEq,Value.slice.injEq,Addr.mk.injEq,true_and,and_true] at hc1
     obtain ⟨rfl,rfl⟩:=hc1
     obtain ⟨v0,v1,v2,-,-,-,-,q0,q1,q2,q3,q4,q5,q6⟩:=hP.cells
     have fz:=hP.open
     have nR:=hP.lt
     have HF:=aD (gT.out.wS hgl fq.out jM.out (w':=w8.setCell ⟨gb,i * 7+6,none⟩ (.int .i64 y)) (b':=⟨b.name,b.valid,b.next,b.seq,b.ah,b.au,y⟩) (fun S1 h=>⟨S1,h.EI y hyi,lK h (by omega),fun _ h=>.inl h⟩) (eG.b (x:=⟨b.name,b.valid,b.next,b.seq,b.ah,b.au,y⟩) Dp.out))
     clear hP gT jM
     go_wp2
     go_meet
     case rel=>exact HF
    ·obtain ⟨dJ,cap',S1,hc1,fE,hP,hS1,-⟩:=HB.out.acc.at fq.out
     rw [show w6.cell? ⟨ga,1,none⟩=_ from HX.out] at hc1
     simp only [Option.some.injEq,Value.slice.injEq,Addr.mk.injEq,true_and,and_true] at hc1
     obtain ⟨rfl,rfl⟩:=hc1
     obtain ⟨v0,v1,v2,-,-,Ab,⟨-,-,qL,-⟩,q0,q1,q2,q3,q4,q5,q6⟩:=hP.cells
     obtain ⟨gq,gc,rfl,-⟩:=Ab.1.form
     have nR:=hP.lt
     have fz8:=hP.open
     have hty:=hP.ty
     have DR:Below w6.heap.size w6 w6.drew:=(bd _ _)
     have AB:Below w6.drew.heap.size w6.drew (w6.drew.alloc (.cells #[.int .i64 1,.int .i64 b.seq] 70)):=bn _ _
     have bY:Hid (fH w0 w ((w6.alloc (.cells #[.int .i64 1,.int .i64 b.seq] 70)).drew) g ga cv L a S2):=(HB.out.below DR).below AB
     have qV:Hid (aK ((w6.alloc (.cells #[.int .i64 1,.int .i64 b.seq] 70)).drew) S1 gb (i * 7) b):=(hP.below DR).below AB
     have eZ:Hid (jm ((w6.alloc (.cells #[.int .i64 1,.int .i64 b.seq] 70)).drew) ga 1 (.slice (some ⟨gb,0,none⟩) a.boxes.length ec)):=(AB.cell (p:=⟨ga,1,none⟩) (HB.out.below DR).acc.lt).trans ((DR.cell (p:=⟨ga,1,none⟩) HB.out.acc.lt).trans HX.out)
     have Mh:Hid (∀ j u,[Value.int .i64 1,Value.int .i64 b.seq][j]?=some u→((w6.alloc (.cells #[.int .i64 1,.int .i64 b.seq] 70)).drew).cell? ((⟨w6.heap.size,0,none⟩:Addr).add j)=some u):=kH w6.drew #[.int .i64 1,.int .i64 b.seq] 70
     have hbx:=Dp.out
     have Gr:w6.drew.cell? ⟨gb,i * 7+5,none⟩=some (.slice gq b.au.length gc)∧w6.drew.cell? ⟨gb,i * 7+3,none⟩=some (.int .i64 b.seq):=⟨(DR.cell (p:=⟨gb,i * 7+5,none⟩) nR).trans q5,(DR.cell (p:=⟨gb,i * 7+3,none⟩) nR).trans q3⟩
     have hs7:((w6.alloc (.cells #[.int .i64 1,.int .i64 b.seq] 70)).drew).cell? ⟨gb,i * 7+5,none⟩=some (.slice gq b.au.length gc)∧((w6.alloc (.cells #[.int .i64 1,.int .i64 b.seq] 70)).drew).cell? ⟨gb,i * 7+3,none⟩=some (.int .i64 b.seq):=⟨(AB.cell (p:=⟨gb,i * 7+5,none⟩) nR).trans Gr.1,(AB.cell (p:=⟨gb,i * 7+3,none⟩) nR).trans Gr.2⟩
     have H7:=aD hs7
     have TP:=aD Gr
     have Dq:=aD qL
     clear hP Ab q0 q1 q2 q3 q4 q5 q6 DR AB HB HX Gr hs7 qL fz8 hty
     go_upto_region 21 with fail
     refine eO 12 (S:=fun w'=>w'.cell? ⟨gb,i * 7+5,none⟩=some (.slice gq b.au.length gc)∧w'.cell? ⟨gb,i * 7+3,none⟩=some (.int .i64 b.seq)) (eH (by kernel_rfl) adz) (by kernel_rfl) TP.out (fun aj hHeld=>?_)
     refine tks 0 0 77 aj hHeld ?_
     refine tks 1 1 78 aj hHeld ?_
     refine tks 2 2 79 aj hHeld ?_
     refine tks 3 3 80 aj hHeld ?_
     refine tks 4 4 81 aj hHeld ?_
     refine tks 5 5 82 aj hHeld ?_
     refine tks 6 6 83 aj hHeld ?_
     refine tks 7 7 84 aj hHeld ?_
     refine tks 8 8 85 aj hHeld ?_
     refine tks 9 9 86 aj hHeld ?_
     refine cls 10 10 aj (by decide) rfl rfl (fun K hK=>?_)
     go_simp
     refine hK.out _ _ H7.out (fun hHeld=>?_)
     clear hK K TP
     generalize (w6.alloc (.cells #[.int .i64 1,.int .i64 b.seq] 70)).drew=w7 at bY qV eZ Mh H7 hHeld ⊢
     refine cls 11 11 aj (by decide) rfl rfl (fun K hK=>?_)
     obtain ⟨-,-,v2,-,-,Ab,-,-,-,-,-,-,q5,-⟩:=qV.out.cells
     rw [H7.out.1] at q5
     obtain rfl:=Option.some.inj q5
     have Mi:=qV.out.lt
     have hty:=qV.out.ty
     refine dR (by kernel_rfl) (Pj 88 rfl (.tmp 81) (.tmp 87) rfl Ab (by have:=hbx.2.2.2;omega) rfl ⟨w6.heap.size,0,none⟩ 1 rfl (x0:=1) (x1:=b.seq) Mh.out ⟨by decide,by decide⟩ Dq.out ?_)
     intro V w8 hG
     have HE:Hid (∀ V w8,xL w7 w8 (.slice gq b.au.length gc) V b.au 1 b.seq→kE w0 w (w8.setCell ⟨gb,i * 7+5,none⟩ V) g ga cv L∧(∃ oa on oc,V=.slice oa on oc)∧∃ cur,w8.heap[gb]?=some (.cells cur 34 (0,0))∧w7.heap[gb]?=some (.cells cur 34 (0,0))):=fun V w8 hG=>by
      obtain ⟨cur,c,hh,-⟩:=qV.out
      rcases hG with ⟨q',off,n,c',hv,hn,hc',rfl,rfl⟩ | ⟨zS,qM⟩
      ·simp only [Value.slice.injEq] at hv
       obtain ⟨rfl,rfl,rfl⟩:=hv
       have hroom:=bY.out.room hgl fq.out eZ.out H7.out.1 hn hc' (x0:=1) (x1:=b.seq) ⟨by decide,by decide⟩ Dq.out
       have hne:gb≠q':=fun e=>by
        obtain ⟨-,ads,hgh,-⟩:=Ab.2 ⟨q',off,none⟩ _ _ rfl
        rw [← e] at hgh
        exact dO hgh hty (by decide)
       exact ⟨hroom,⟨_,_,_,rfl⟩,cur,by rw [Below.heap_setCell _ _ _ _ (show gb≠q' from hne),Below.heap_setCell _ _ _ _ (show gb≠q' from hne)];exact hh,hh⟩
      ·exact ⟨bY.out.grow (w1:=w7) hgl fq.out eZ.out zS qM (by have:=hbx.2.2.2;simp;omega),by rcases qM with ⟨h,-⟩ | ⟨q,cap,cur,cs,fs,h,-⟩ <;> exact ⟨_,_,_,h⟩,cur,(zS.block gb Mi).trans hh,hh⟩
     obtain ⟨hE,⟨oa,on,oc,rfl⟩,cur,k8,k7⟩:=HE.out V w8 hG
     have HF:=aD hE
     have uV:∀ j,w8.cell? ⟨gb,j,none⟩=w7.cell? ⟨gb,j,none⟩:=fun j=>by rw [cell_of_row w8 gb j cur _ (0,0) k8,cell_of_row w7 gb j cur _ (0,0) k7]
     have c5:=(uV (i * 7+5)).trans H7.out.1
     have c3:=(uV (i * 7+3)).trans H7.out.2
     refine hK.out _ _ ⟨c5,c3⟩ (fun hHeld=>?_)
     clear hK K
     refine gH (S':=fun w'=>True) 12 15 aj (by decide) trivial (fun hHeld=>?_)
     refine tks 12 12 89 aj hHeld ?_
     refine tks 13 13 90 aj hHeld ?_
     refine cls 14 14 aj (by decide) rfl rfl (fun K hK=>?_)
     have fz:∀ j,w8.frozen? ⟨gb,j,none⟩=false:=fun j=>frozen_of_row w8 gb j _ _ k8
     have RG:=lt_of_heap k8
     clear HE hE hG Ab k7 k8 uV c3 bY qV eZ Mh H7 hHeld
     go_simp
     refine hK.out _ _ trivial (fun hHeld=>?_)
     clear hK K c5 fz
     refine eP aj ?_
     go_wp2
     go_meet
     case rel=>exact HF
    ·obtain ⟨dJ,cap',S1,hc1,-,hP,-,-⟩:=HB.out.acc.at fq.out
     rw [show w6.cell? ⟨ga,1,none⟩=_ from HX.out] at hc1
     simp only [Option.some.injEq,Value.slice.injEq,Addr.mk.injEq,true_and,and_true] at hc1
     obtain ⟨rfl,rfl⟩:=hc1
     by_cases hm:b.ah.length=0
     ·obtain ⟨v0,v1,v2,-,hms,-,-,q0,q1,q2,q3,q4,q5,q6⟩:=hP.cells
      obtain ⟨ma,mcc,rfl,-⟩:=hms.v.form
      have nR:=hP.lt
      have ou:¬ (0:Int) < (b.ah.length:Int):=by omega
      have HF:=aD HB.out.fin
      clear hP hms HB HX
      go_wp2
      go_meet
      case rel=>exact HF
     ·obtain ⟨m,hm0⟩:∃ m,b.ah[0]?=some m:=⟨b.ah[0],aL (by omega)⟩
      obtain ⟨mb,mc,q4,hlm,-⟩:=hP.dV hm0
      have nR:=hP.lt
      have ou:(0:Int) < (b.ah.length:Int):=by omega
      have DR:Below w6.heap.size w6 w6.drew:=(bd _ _)
      have AB:Below w6.drew.heap.size w6.drew (w6.drew.alloc (.cells #[.int .i64 (-1),.int .i64 31,.int .i64 32] 3)):=bn _ _
      have HI:Hid (lJ (w6.drew.alloc (.cells #[.int .i64 (-1),.int .i64 31,.int .i64 32] 3)) (.slice (some ⟨w6.drew.heap.size,0,none⟩) 3 3) g 3 (-1) 32):=by simpa [Hid] using ni w6.drew g [-1,31,32] 3 (-1) 32 (HB.out.below DR).cur.lt.2 (by simp) (by simp) (by intro x hx;simp at hx;omega)
      have bY:=aD ((HB.out.below DR).below AB)
      have eZ:Hid (jm (w6.drew.alloc (.cells #[.int .i64 (-1),.int .i64 31,.int .i64 32] 3)) ga 1 (.slice (some ⟨gb,0,none⟩) a.boxes.length ec)):=(AB.cell (p:=⟨ga,1,none⟩) (HB.out.below DR).acc.lt).trans ((DR.cell (p:=⟨ga,1,none⟩) HB.out.acc.lt).trans HX.out)
      have Mj:w6.drew.cell? ⟨gb,i * 7+4,none⟩=some (.slice (some ⟨mb,0,none⟩) b.ah.length mc):=(DR.cell (p:=⟨gb,i * 7+4,none⟩) nR).trans q4
      have TQ:(w6.drew.alloc (.cells #[.int .i64 (-1),.int .i64 31,.int .i64 32] 3)).cell? ⟨gb,i * 7+4,none⟩=some (.slice (some ⟨mb,0,none⟩) b.ah.length mc):=(AB.cell (p:=⟨gb,i * 7+4,none⟩) nR).trans Mj
      have TR:=aD TQ
      have HQ6:=aD Mj
      have TS:=aD hm0
      have hla:=bY.out.acc.lt
      have adF:gb < (w6.drew.alloc (.cells #[.int .i64 (-1),.int .i64 31,.int .i64 32] 3)).heap.size:=Nat.lt_of_lt_of_le nR AB.size
      have adG:gb≠g:=fun e=>by have:=HB.out.ne hgl;obtain ⟨ahg,ahh,S'',hc'',fE,-⟩:=HB.out.acc.at fq.out;rw [show w6.cell? ⟨ga,1,none⟩=_ from HX.out] at hc'';simp only [Option.some.injEq,Value.slice.injEq,Addr.mk.injEq,true_and,and_true] at hc'';obtain ⟨rfl,-⟩:=hc'';exact this.2 (e ▸ fE)
      clear hP DR AB HB HX Mj TQ hm0
      go_upto_if 98 with fail
      go_upto_region 24 with fail
      clear q4
      go_region_held3 (fun w'=>w'.cell? ⟨gb,i * 7+4,none⟩=some (.slice (some ⟨mb,0,none⟩) b.ah.length mc))
       (first | exact HQ6.out | exact TR.out | exact hq8 | exact TT | go_keep)
       ((go_at_call 32;refine (ng w0 _ g 3 _ _ L (-1) 32 bY.out.cur HI.out).mono ?_;rintro e w8 ⟨y,rfl,hy0,hy1,C8,G8⟩;have hq8:w8.cell? ⟨gb,i * 7+4,none⟩=some (.slice (some ⟨mb,0,none⟩) b.ah.length mc):=jm.gb TR.out G8 adF adG;obtain ⟨qm,fm,lm,nm⟩:=fH.dV (bY.out.draw hgl C8 G8) fq.out (eZ.out.gb G8 hla hnl) TS.out hq8;have TT:(w8.setCell ⟨mb,1,none⟩ (.int .i64 y)).cell? ⟨gb,i * 7+4,none⟩=some (.slice (some ⟨mb,0,none⟩) b.ah.length mc):=by unfold World.cell?;rw [Below.heap_setCell _ _ _ _ (show gb≠mb from nm)];exact hq8))
      all_goals
       have HF:=aD ((bY.out.draw hgl C8 G8).flags hgl fq.out (eZ.out.gb G8 hla hnl) TS.out hq8 (fl:=y) ⟨by omega,by omega⟩)
       clear bY eZ HI C8 G8 hq8 TT qm fm lm nm
       go_wp2
       go_meet
       exact HF
    ·obtain ⟨u0,u1,hk0,hs0⟩:=HB.out.sn
     obtain ⟨ua,un,uc,rfl⟩:∃ ua un uc,u1=.slice ua un uc:=by
      rcases hs0 with ⟨h,-⟩ | ⟨q,cap,cur,cs,fs,h,-⟩ <;> exact ⟨_,_,_,h⟩
     obtain ⟨i0,hi,hz0,hz1,hz2⟩:=info_parts Hl
     have DR:Below w6.heap.size w6 w6.drew:=(bd _ _)
     have AB:Below w6.drew.heap.size w6.drew (w6.drew.alloc (.cells #[.int .i64 0,.int .i64 1,.int .i64 1000000,.int .i64 1000001] 3)):=bn _ _
     have HI:Hid (lJ (w6.drew.alloc (.cells #[.int .i64 0,.int .i64 1,.int .i64 1000000,.int .i64 1000001] 3)) (.slice (some ⟨w6.drew.heap.size,0,none⟩) 4 4) g 4 0 1000001):=by simpa [Hid] using ni w6.drew g [0,1,1000000,1000001] 3 0 1000001 (HB.out.below DR).cur.lt.2 (by simp) (by simp) (by intro x hx;simp at hx;omega)
     have bY:=aD ((HB.out.below DR).below AB)
     have Gs:=aB DR hk0
     have gQ:=aD (aB AB Gs)
     have jv:Hid (eY (w6.drew.alloc (.cells #[.int .i64 0,.int .i64 1,.int .i64 1000000,.int .i64 1000001] 3)) (In (w.heap.size+1) (w6.drew.alloc (.cells #[.int .i64 0,.int .i64 1,.int .i64 1000000,.int .i64 1000001] 3)).heap.size) (.slice ua un uc) a.seen):=Ow.mono (jd (jd hs0 fun k _ h2 _=>DR.block k h2) fun k h1 _ _=>AB.block k h1.2) fun k h=>⟨h.1,Nat.lt_of_lt_of_le h.2 AB.size⟩
     have h2D:=(bM Gs).2.2
     have hla:=lt_of_heap gQ.out
     have hpl:=HB.out.pl
     have hlD:=lt_of_heap Gs
     clear hk0 hs0 Gs DR AB HB HX
     go_upto_region 26 with fail
     refine eO 7 (S:=fun w'=>w'.cell? ⟨ga,2,none⟩=some (.slice ua un uc)) (eH (by kernel_rfl) adA) (by kernel_rfl) h2D (fun aj hHeld=>?_)
     refine tks 0 0 110 aj hHeld ?_
     refine tks 1 1 111 aj hHeld ?_
     refine tks 2 2 112 aj hHeld ?_
     refine cls 3 3 aj (by decide) rfl rfl (fun K hK=>?_)
     go_simp
     refine hK.out _ _ (bM gQ.out).2.2 (fun hHeld=>?_)
     clear hK K
     refine cls 4 4 aj (by decide) rfl rfl (fun K hK=>?_)
     go_simp
     refine (ng w0 _ g 4 _ _ L 0 1000001 bY.out.cur HI.out).mono ?_
     rintro e w8 ⟨y,rfl,hy0,hy1,C8,G8⟩
     have hyi:ay y:=⟨by omega,by omega⟩
     have gT:=aD (bY.out.draw hgl C8 G8)
     have uV:=(G8.block ga hla (by simp;omega)).trans gQ.out
     have TU:eY w8 (In (w.heap.size+1) w8.heap.size) (.slice ua un uc) a.seen:=Ow.mono (jd jv.out fun k h1 h2 _=>G8.block k h2 (by have:=h1.1;simp;omega)) fun k h=>⟨h.1,Nat.lt_of_lt_of_le h.2 G8.size⟩
     refine hK.out _ _ (bM uV).2.2 (fun hHeld=>?_)
     clear hK K
     refine cls 5 5 aj (by decide) rfl rfl (fun K hK=>?_)
     go_simp
     have uJ:Below w8.heap.size w8 (w8.alloc (.cells #[.int .i64 y] 3)):=bn _ _
     refine hK.out _ _ (bM (aB uJ uV)).2.2 (fun hHeld=>?_)
     clear hK K
     refine cls 6 6 aj (by decide) rfl rfl (fun K hK=>?_)
     have hO:eY (w8.alloc (.cells #[.int .i64 y] 3)) (In (w.heap.size+1) w8.heap.size) (.slice ua un uc) a.seen:=jd TU fun k _ h _=>uJ.block k h
     have qA:w.heap.size+1≤w8.heap.size:=by have:=lt_of_heap uV;omega
     have hone:∀ u ∈ [Value.int .i64 y],u.oneCell'=true:=by simp [Value.oneCell']
     refine dR (by kernel_rfl) (AA 116 rfl (.tmp 111) (.tmp 115) rfl tL (B:=w.heap.size+1) (M:=w8.heap.size) hO uJ.size qA Tryz.underlying24 hi hz0 hz1 hz2 rfl (by omega) rfl y [.int .i64 y] rfl ⟨rfl,hyi⟩ ⟨w8.heap.size,0,none⟩ 1 rfl (kH w8 _ _) hone (by unfold maxLen;omega) (by omega) ?_)
     intro V w10 vW Cq TW
     obtain ⟨oa,on,oc,rfl⟩:∃ ua un uc,V=.slice ua un uc:=by
      rcases vW with ⟨h,-⟩ | ⟨q,cap,cur,cs,fs,h,-⟩ <;> exact ⟨_,_,_,h⟩
     obtain ⟨hE,hk10⟩:=gT.out.push hgl uV uJ vW Cq (fun g h=>(TW g h).1)
     have HF:=aD hE
     refine hK.out _ _ (bM hk10).2.2 (fun hHeld=>?_)
     clear hK K
     refine gH (S':=fun w'=>True) 7 9 aj (by decide) trivial (fun hHeld=>?_)
     refine tks 7 7 117 aj hHeld ?_
     refine cls 8 8 aj (by decide) rfl rfl (fun K hK=>?_)
     obtain ⟨e0,e1,e2⟩:=bM hk10
     have fz:=(aZ hk10).1
     have ahl:=lt_of_heap hk10
     go_simp
     refine hK.out _ _ trivial (fun hHeld=>?_)
     clear hK K
     refine eP aj ?_
     clear hE hk10 vW Cq TW hO uV TU uJ gT bY gQ jv HI C8 G8 e0 e1 e2 fz hone
     go_wp2
     go_meet
     case rel=>exact HF
    ·have AB:Below w6.heap.size w6 (w6.alloc (.cells #[.int .i64 0,.int .i64 (-1),.int .i64 1000000,.int .i64 1000001] 3)):=bn _ _
     have HI:Hid (lJ (w6.alloc (.cells #[.int .i64 0,.int .i64 (-1),.int .i64 1000000,.int .i64 1000001] 3)) (.slice (some ⟨w6.heap.size,0,none⟩) 4 4) g 4 (-1) 1000001):=by simpa [Hid] using ni w6 g [0,-1,1000000,1000001] 3 (-1) 1000001 HB.out.cur.lt.2 (by simp) (by simp) (by intro x hx;simp at hx;omega)
     have bY:=aD (HB.out.below AB)
     have eZ:Hid (jm (w6.alloc (.cells #[.int .i64 0,.int .i64 (-1),.int .i64 1000000,.int .i64 1000001] 3)) ga 1 (.slice (some ⟨gb,0,none⟩) a.boxes.length ec)):=(AB.cell (p:=⟨ga,1,none⟩) HB.out.acc.lt).trans HX.out
     have hla:=bY.out.acc.lt
     clear HB HX AB
     go_wp2_with fail
     refine (ng w0 _ g 4 _ _ L (-1) 1000001 bY.out.cur HI.out).mono ?_
     rintro e w8 ⟨y,rfl,hy0,hy1,C8,G8⟩
     have hyi:ay y:=⟨by omega,by omega⟩
     have gT:=aD (bY.out.draw hgl C8 G8)
     have jM:=aD (eZ.out.gb G8 hla hnl)
     clear bY eZ HI C8 G8 hla
     have hfa:=gT.out.acc.open
     have hla:=gT.out.acc.lt
     obtain ⟨-,-,k0,k1,k2,-⟩:=gT.out.acc.cells
     have HF:=aD (gT.out.valid hgl hyi)
     clear gT jM
     go_wp2
     go_meet
     case rel=>exact HF
   case rest =>
    obtain ⟨x,b0,b1,d0,m1,d1,hga,hk,hr,HF⟩:=hcut.out.out hgl
    obtain ⟨f0,f1,f2⟩:=bM hk
    obtain ⟨r0,r1,r2⟩:=bM hr
    have fz:=(aZ hr).1
    have hlk:=lt_of_heap hk
    have hlr:=lt_of_heap hr
    clear hk hr 
    go_wp2
    obtain ⟨e0,e1,e2⟩:=bM HF.out.1
    exact bodyPost_ret (v:=.agg #[.int .i64 x.valid,.slice b0 x.boxes.length d0,.slice b1 m1 d1]) (by simp [results,Tryz.results11,go_sem,e0,e1,e2]) rfl ⟨_,rfl,x,HF.out.2.1,HF.out.2.2.1,HF.out.2.2.2⟩
end Go.Proofs.YtmglhdkeidhafaaGreat
