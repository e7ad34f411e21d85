/- The proof's texts, part 47. -/
import Derived.Test.YtnlhkgoppjejeaaDoorPart46
import Derived.Test.YtnlhkgoppjejeaaDoorPart23
import Derived.Deep.RegionHeld3
import Derived.Deep.DeepCutAuto
import Derived.Deep.CutBlock

/- What l3bent of package spec draws: an account that can be read. -/
namespace Go.Proofs.YtnlhkgoppjejeaaDoor
open Go.RowKit
set_option maxRecDepth 100000
set_option linter.unusedVariables false
set_option linter.unusedSimpArgs false

theorem tab_bent21:(Tryd.f12.body.bind (opsAt 21)).all (fun o=>tableS o 15 [0,1,2,3,4,5,6,7,8,9,10,11,12,13,14] [10,11,14] [12,15] 8)=true:=by kernel_rfl
theorem tab_bent26:(Tryd.f12.body.bind (opsAt 26)).all (fun o=>tableS o 9 [0,1,2,3,4,5,6,7,8] [3,4,5,6,8] [7,9] 8)=true:=by kernel_rfl
/-- What it has seen is put anew. -/
theorem BSt.seen {w0 wI w w1:World} {g ga:Nat} {cv v:Value} {L l:List Int} {a:AccD} {S:Nat→Prop} (h:BSt w0 wI w g ga cv L a S) (hg:g < wI.heap.size) (hb:Below w.heap.size w w1) (hO:IntsO w1 Any v l):ESt w0 wI (w1.setCell ⟨ga,2,none⟩ v) g ga cv L:=by
 have h1:=h.below hb
 have hp:=h1.pl
 have hne:=h1.ne hg
 have hlow:=h1.low
 have h0:=h1.cur.1
 obtain ⟨hS,u0,u1,hk,hq,-,hi⟩:=h1.acc
 have hty:Ty w1 ga 26:=⟨_,_,hk⟩
 have hset:∀ k,k≠ga→(w1.setCell ⟨ga,2,none⟩ v).heap[k]?=w1.heap[k]?:=fun k h=>Below.heap_setCell _ _ _ _ h
 exact ⟨⟨a.valid,a.boxes,l⟩,S,u0,v,box_set (i:=2) (v:=v) hk,boxesw_oth (boxes_w hq) (fun k hk _=>hset k fun e=>hS (e ▸ hk)) (stay_set hty (by decide)) (stay_set hty (by decide)),intsp_oth hO fun k _ _ hT=>hset k fun e=>by obtain ⟨cs,fz,hT⟩:=hT;rw [e] at hT;exact ty_ne hT hty (by decide),hi,h.inv.b,hlow,hp,h1.cur.but (K:=fun k=>k=ga) (by rw [box_size];exact Nat.le_refl _) rfl rfl rfl (fun k _ h=>hset k h) hne.1 (fun k h=>by omega),(hset _ (by omega)).trans h1.res⟩

/-- The first mail of a box, where its flags lie. -/
theorem BSt.mail {w0 wI w:World} {g ga gb cap i mb mc:Nat} {cv:Value} {L:List Int} {a:AccD} {S:Nat→Prop} {b:BoxD} {m:MailD} (h:BSt w0 wI w g ga cv L a S) (hb:a.boxes[i]?=some b) (hx:CellS w ga 1 (.slice (some ⟨gb,0,none⟩) a.boxes.length cap)) (hm:b.mails[0]?=some m) (hy:w.cell? ⟨gb,i * 7+4,none⟩=some (.slice (some ⟨mb,0,none⟩) b.mails.length mc)):w.cell? ⟨mb,1,none⟩=some (.int .i64 m.flags)∧(∀ j,w.frozen? ⟨mb,j,none⟩=false)∧mb < w.heap.size∧gb≠mb:=by
 obtain ⟨gb',cap',S1,hc,-,hP,-,-⟩:=h.acc.at hb
 rw [show w.cell? ⟨ga,1,none⟩=_ from hx] at hc
 simp only [Option.some.injEq,Value.slice.injEq,Addr.mk.injEq,true_and,and_true] at hc
 obtain ⟨rfl,rfl⟩:=hc
 obtain ⟨mb',mc',q4,hl,hne,-,-,k1,-,hf,-⟩:=hP.mail hm
 rw [hy] at q4
 simp only [Option.some.injEq,Value.slice.injEq,Addr.mk.injEq,true_and,and_true] at q4
 obtain ⟨rfl,rfl⟩:=q4
 exact ⟨by simpa using k1,hf,hl,Ne.symm hne⟩

set_option maxRecDepth 100000 in
set_option maxHeartbeats 8000000 in
theorem l3bent_any (w0 w:World) (g:Nat) (cv:Value) (L:List Int) (hc:Cur w0 w g cv L) :
  Calls Tryd.prog 12 #[.pointer (some ⟨g,0,none⟩)] w fun e w'=>∃ u,e=.returned u∧∃ a,AccT w' u a∧InvB a∧Cur w0 w' g cv L:=by
 have hgl:=hc.lt.2
 have AB:Below w.heap.size w (w.alloc (.cells #[.int .i64 0,.slice none 0 0,.slice none 0 0] 26)):=(Below.refl _ _).alloc (Nat.le_refl _) _
 have HC:=hidm (hc.below AB)
 have HK:=hidm (box_new w (.cells #[.int .i64 0,.slice none 0 0,.slice none 0 0] 26))
 have hs1:(w.alloc (.cells #[.int .i64 0,.slice none 0 0,.slice none 0 0] 26)).heap.size=w.heap.size+1:=by simp
 clear hc AB
 go_enter Tryd.func12,Tryd.ntmps12
 go_upto_region 1 with fail
 generalize w.alloc (.cells #[.int .i64 0,.slice none 0 0,.slice none 0 0] 26)=w1 at HC HK hs1 ⊢
 go_wp2_with fail
 refine (l3account_any w0 w1 g cv L HC.out).mono ?_
 rintro e w2 ⟨a,S,b0,b1,rfl,hq,hs,hi,hI,hlow,C2,G2,hsl⟩
 obtain ⟨a0,c0,rfl,-⟩:=hq.v.form
 obtain ⟨a1,n1,c1,rfl⟩:∃ ua un uc,b1=.slice ua un uc:=by
  rcases hs with ⟨h,-⟩ | ⟨q,cap,cur,cs,fs,h,-⟩ <;> exact ⟨_,_,_,h⟩
 have hz2:=G2.size
 have AB:Below w2.heap.size w2 (w2.alloc (.cells #[.int .i64 a.valid,.slice a0 a.boxes.length c0,.slice a1 n1 c1] 26)):=(Below.refl _ _).alloc (Nat.le_refl _) _
 have HB:Hid (BSt w0 w (w2.alloc (.cells #[.int .i64 a.valid,.slice a0 a.boxes.length c0,.slice a1 n1 c1] 26)) g w2.heap.size cv L a (fun k=>S k∧k < w2.heap.size)) :=
  ⟨C2.below AB,box_below AB ((G2.block _ (lt_of_heap HK.out) (by simp;omega)).trans HK.out),⟨fun h=>Nat.lt_irrefl _ h.2,_,_,box_new w2 _,boxes_oth (BoxesQ.cut hq) (fun k _ h=>AB.block k h) (stay_below AB) (stay_below AB),Ow.mono (intsp_oth hs fun k _ h _=>AB.block k h) fun k h=>⟨fun h'=>h.1.1 h'.1,Nat.lt_of_lt_of_le h.2 AB.size⟩,hi⟩,hI,fun k h=>by have:=hlow k h.1;omega,fun k h=>Nat.lt_of_lt_of_le h.2 AB.size,by omega,_,_,box_new w2 _,Ow.mono (intsp_oth hs fun k _ h _=>AB.block k h) fun k h=>⟨by have:=h.1.2;omega,Nat.lt_of_lt_of_le h.2 AB.size⟩⟩
 clear HC HK hq hs hi hI hlow C2 G2 AB
 go_upto_region 2 with fail
 generalize w2.alloc (.cells #[.int .i64 a.valid,.slice a0 a.boxes.length c0,.slice a1 n1 c1] 26)=w3 at HB ⊢
 generalize hSe:(fun k=>S k∧k < w2.heap.size)=S2 at HB
 clear hSe
 obtain ⟨ga,hga⟩:∃ ga,ga=w2.heap.size:=⟨_,rfl⟩
 rw [← hga] at HB ⊢
 clear hga hz2
 go_wp2_with fail
 refine (l1Once_any w0 _ g cv L 6 HB.out.cur (by omega) (by omega)).mono ?_
 rintro e w4 ⟨y,rfl,C4,G4⟩
 have HB4:=hidm (HB.out.draw hgl C4 G4)
 clear HB C4 G4
 cases y
 ·obtain ⟨x,b0,b1,d0,m1,d1,hga,hk,hr,HF⟩:=HB4.out.fin.out hgl
  obtain ⟨f0,f1,f2⟩:=bx3 hk
  obtain ⟨r0,r1,r2⟩:=bx3 hr
  have fz:=(box8z hr).1
  have hlk:=lt_of_heap hk
  have hlr:=lt_of_heap hr
  clear hk hr HB4
  go_wp2
  obtain ⟨e0,e1,e2⟩:=bx3 HF.out.1
  exact bodyPost_ret (v:=.agg #[.int .i64 x.valid,.slice b0 x.boxes.length d0,.slice b1 m1 d1]) (by simp [results,Tryd.results12,go_sem,e0,e1,e2]) rfl ⟨_,rfl,x,HF.out.2.1,HF.out.2.2.1,HF.out.2.2.2⟩
 ·obtain ⟨v0,v1,k0,k1,k2,hbq,-⟩:=HB4.out.acc.cells
  obtain ⟨e0,ec,rfl,-⟩:=hbq.v.form
  have hla:=HB4.out.acc.lt
  have hfa:=HB4.out.acc.open
  by_cases hl:a.boxes.length=0
  ·have hlb:((a.boxes.length:Int) == 0)=true:=by simp [hl]
   clear hl
   have AB:Below w4.heap.size w4 (w4.alloc (.cells #[.int .i64 0] 3)):=(Below.refl _ _).alloc (Nat.le_refl _) _
   have HE:=hidm (HB4.out.seen hgl AB (v:=.slice (some ⟨w4.heap.size,0,none⟩) 1 1) (l:=[0]) (.inr ⟨w4.heap.size,1,_,fun _=>[.int .i64 0],fun _ _=>False,rfl,box_new w4 _,Nat.le_refl _,by decide,rfl,trivial,fun i x hx=>by
    have:i=0:=by have:=(List.getElem?_eq_some_iff.1 hx).1;simpa using this
    subst this
    simp only [List.getElem?_cons_zero,Option.some.injEq] at hx
    subst hx
    exact ⟨⟨rfl,i64c0⟩,rfl,fun j u hu=>by simpa using hu⟩,fun _ _ _ h=>h.elim,fun _ _ _ _ _ _ h=>h.elim⟩))
   rw [World.setCell_alloc_past _ _ _ _ hla] at HE
   clear AB hbq HB4
   go_upto_region 6 with fail
   clear k0 k1 k2 hla hfa
   generalize (w4.setCell ⟨ga,2,none⟩ (.slice (some ⟨w4.heap.size,0,none⟩) 1 1)).alloc (.cells #[.int .i64 0] 3)=w5 at HE ⊢
   obtain ⟨x,b0,b1,d0,m1,d1,hga,hk,hr,HF⟩:=HE.out.out hgl
   obtain ⟨f0,f1,f2⟩:=bx3 hk
   obtain ⟨r0,r1,r2⟩:=bx3 hr
   have fz:=(box8z hr).1
   have hlk:=lt_of_heap hk
   have hlr:=lt_of_heap hr
   clear hk hr HE
   go_wp2
   obtain ⟨e0,e1,e2⟩:=bx3 HF.out.1
   exact bodyPost_ret (v:=.agg #[.int .i64 x.valid,.slice b0 x.boxes.length d0,.slice b1 m1 d1]) (by simp [results,Tryd.results12,go_sem,e0,e1,e2]) rfl ⟨_,rfl,x,HF.out.2.1,HF.out.2.2.1,HF.out.2.2.2⟩
  ·have hlb:((a.boxes.length:Int) == 0)=false:=by simp [hl]
   have h4:=HB4.out.inv.1
   obtain ⟨gb,cap,S1,hc1,-⟩:=HB4.out.acc.at (i:=0) (b:=a.boxes[0]) (List.getElem?_eq_getElem (by omega))
   rw [k1] at hc1
   simp only [Option.some.injEq,Value.slice.injEq,true_and] at hc1
   obtain ⟨rfl,rfl⟩:=hc1
   have DR:Below w4.heap.size w4 w4.drew:=(Below.refl _ _).drew
   have HBD:=hidm (HB4.out.below DR)
   have HX:Hid (CellS w4.drew ga 1 (.slice (some ⟨gb,0,none⟩) a.boxes.length ec)):=(DR.cell (p:=⟨ga,1,none⟩) hla).trans k1
   have hld:ga < w4.drew.heap.size:=HBD.out.acc.lt
   clear hbq DR k0 k2 hfa HB4
   go_upto_region 7 with fail
   go_region_held3 (fun w'=>w'.cell? ⟨ga,1,none⟩=some (.slice (some ⟨gb,0,none⟩) a.boxes.length ec))
    (first | exact HX.out | exact HX5 | go_keep)
    ((go_at_call 30;refine (l1Below_any w0 _ g cv L (a.boxes.length:Int) HBD.out.cur (by omega) (by omega)).mono ?_;rintro e w5 ⟨x,rfl,hx0,hx1,C5,G5⟩;obtain ⟨i,rfl⟩:∃ i:Nat,x=i:=⟨x.toNat,by omega⟩;have HX5:w5.cell? ⟨ga,1,none⟩=some (.slice (some ⟨gb,0,none⟩) a.boxes.length ec):=HX.out.gb G5 hld (by have:=HBD.out.ne hgl;omega)))
   have hnl:ga≠g:=by have:=HBD.out.ne hgl;omega
   have HB5:=hidm (HBD.out.draw hgl C5 G5)
   have HX6:Hid (CellS w5 ga 1 (.slice (some ⟨gb,0,none⟩) a.boxes.length ec)):=HX5
   have hla5:=HB5.out.acc.lt
   have hil:i < a.boxes.length:=by omega
   obtain ⟨b,hb⟩:∃ b,a.boxes[i]?=some b:=⟨a.boxes[i],List.getElem?_eq_getElem hil⟩
   have HBB:=hidm hb
   have hbi:=HB5.out.inv.2 b (List.mem_of_getElem? hb)
   have HBI:=hidm hbi
   clear HBD HX C5 G5 hb HX5 hbi k1 hla hld
   go_wp2_with fail
   refine (l1Below_any w0 _ g cv L 9 HB5.out.cur (by omega) (by omega)).mono ?_
   rintro e w6 ⟨n,rfl,hn0,hn1,C6,G6⟩
   have HB:=hidm (HB5.out.draw hgl C6 G6)
   have HX:=hidm (HX6.out.gb G6 hla5 hnl)
   clear HB5 HX6 C6 G6 hla5
   go_upto_block 0 with fail
   go_cut [] (fun wx=>Hid (ESt w0 w wx g ga cv L))
   case first =>
    obtain rfl | rfl | rfl | rfl | rfl | rfl | rfl | rfl | rfl:n=0∨n=1∨n=2∨n=3∨n=4∨n=5∨n=6∨n=7∨n=8:=by omega
    ·have AB:Below w6.heap.size w6 (w6.alloc (.cells #[.string ⟨#[]⟩,.string ⟨#[65]⟩,.string ⟨#[122,122,122,122,122,122,122]⟩,.string ⟨#[105,110,98,111,120]⟩] 9)):=(Below.refl _ _).alloc (Nat.le_refl _) _
     have K0:=box_new w6 (.cells #[.string ⟨#[]⟩,.string ⟨#[65]⟩,.string ⟨#[122,122,122,122,122,122,122]⟩,.string ⟨#[105,110,98,111,120]⟩] 9)
     have HB7:=hidm (HB.out.below AB)
     have HX7:Hid (CellS (w6.alloc (.cells #[.string ⟨#[]⟩,.string ⟨#[65]⟩,.string ⟨#[122,122,122,122,122,122,122]⟩,.string ⟨#[105,110,98,111,120]⟩] 9)) ga 1 (.slice (some ⟨gb,0,none⟩) a.boxes.length ec)):=(AB.cell (p:=⟨ga,1,none⟩) HB.out.acc.lt).trans HX.out
     have hla:=HB7.out.acc.lt
     have hg6:=HB.out.cur.lt.2
     clear HB HX AB
     go_wp2_with fail
     refine (l1Below_any w0 _ g cv L 4 HB7.out.cur (by omega) (by omega)).mono ?_
     rintro e w8 ⟨x,rfl,hx0,hx1,C8,G8⟩
     have K1:w8.heap[w6.heap.size]?=_:=(G8.block w6.heap.size (lt_of_heap K0) (by simp;omega)).trans K0
     have hl1:=lt_of_heap K1
     have HB8:=hidm (HB7.out.draw hgl C8 G8)
     have HX8:=hidm (HX7.out.gb G8 hla hnl)
     clear HB7 HX7 C8 G8 hla K0
     obtain ⟨j,rfl⟩:=Int.eq_ofNat_of_zero_le hx0
     obtain ⟨nm,hcell,ho,hl7⟩:∃ nm:List Int,w8.cell? ⟨w6.heap.size,j,none⟩=some (.string (strOfNums nm))∧Oct nm∧nm.length≤7:=by
      rw [cell_of_row w8 w6.heap.size j _ _ (0,0) K1]
      obtain rfl | rfl | rfl | rfl:j=0∨j=1∨j=2∨j=3:=by omega
      ·exact ⟨[],rfl,by intro x hx;simp at hx,by decide⟩
      ·exact ⟨[65],rfl,by intro x hx;simp at hx;omega,by decide⟩
      ·exact ⟨[122,122,122,122,122,122,122],rfl,by intro x hx;simp at hx;omega,by decide⟩
      ·exact ⟨[105,110,98,111,120],rfl,by intro x hx;simp at hx;omega,by decide⟩
     have hcv:(convert 9 22 (.string (strOfNums nm))).run Tryd.prog w8=.ok (.slice (some ⟨w8.heap.size,0,none⟩) nm.length (grownCap w8 nm.length 0 5)) (Lib.bytesWorld w8 5 (strOfNums nm)):=run_convert_str nm w8
     obtain ⟨p1,p2⟩:=bytesWorldQ w8 nm ho (by omega)
     have HB9:=hidm (HB8.out.below p2)
     have HX9:=(p2.cell (p:=⟨ga,1,none⟩) HB8.out.acc.lt).trans HX8.out
     have HP1:=hidm p1
     clear p1 p2 HB8 HX8 K1
     generalize Lib.bytesWorld w8 5 (strOfNums nm)=w9 at hcv HB9 HX9 HP1
     generalize grownCap w8 nm.length 0 5=gc at hcv HP1
     obtain ⟨gb',cap',S1,hc1,-,hP,-,-⟩:=HB9.out.acc.at HBB.out
     rw [HX9] at hc1
     simp only [Option.some.injEq,Value.slice.injEq,Addr.mk.injEq,true_and,and_true] at hc1
     obtain ⟨rfl,rfl⟩:=hc1
     obtain ⟨v0,v1,v2,-,-,-,-,q0,-⟩:=hP.cells
     have fz:=hP.open
     have hl8:=hP.lt
     have HF:=hidm (HB9.out.name hgl HBB.out HX9 HP1.out hl7)
     clear hP HB9 HX9 HP1 ho hl7
     go_wp2
     go_meet
     case rel=>exact HF
    ·have AB:Below w6.heap.size w6 (w6.alloc (.cells #[.int .i64 0,.int .i64 1,.int .i64 99] 3)):=(Below.refl _ _).alloc (Nat.le_refl _) _
     have HI:Hid (IntsB (w6.alloc (.cells #[.int .i64 0,.int .i64 1,.int .i64 99] 3)) (.slice (some ⟨w6.heap.size,0,none⟩) 3 3) g 3 (0) 99):=by simpa [Hid] using intsB_made w6 g [0,1,99] 3 (0) 99 HB.out.cur.lt.2 (by simp) (by simp) (by intro x hx;simp at hx;omega)
     have HB7:=hidm (HB.out.below AB)
     have HX7:Hid (CellS (w6.alloc (.cells #[.int .i64 0,.int .i64 1,.int .i64 99] 3)) ga 1 (.slice (some ⟨gb,0,none⟩) a.boxes.length ec)):=(AB.cell (p:=⟨ga,1,none⟩) HB.out.acc.lt).trans HX.out
     have hla:=HB7.out.acc.lt
     clear HB HX AB
     go_wp2_with fail
     refine (l1PickInt_b w0 _ g 3 _ _ L (0) 99 HB7.out.cur HI.out).mono ?_
     rintro e w8 ⟨y,rfl,hy0,hy1,C8,G8⟩
     have hyi:I64 y:=⟨by omega,by omega⟩
     have HB8:=hidm (HB7.out.draw hgl C8 G8)
     have HX8:=hidm (HX7.out.gb G8 hla hnl)
     clear HB7 HX7 HI C8 G8 hla
     obtain ⟨gb',cap',S1,hc1,-,hP,-,-⟩:=HB8.out.acc.at HBB.out
     rw [show w8.cell? ⟨ga,1,none⟩=_ from HX8.out] at hc1
     simp only [Option.some.injEq,Value.slice.injEq,Addr.mk.injEq,true_and,and_true] at hc1
     obtain ⟨rfl,rfl⟩:=hc1
     obtain ⟨v0,v1,v2,-,-,-,-,q0,q1,q2,q3,q4,q5,q6⟩:=hP.cells
     have fz:=hP.open
     have hl8:=hP.lt
     have HF:=hidm (HB8.out.bend hgl HBB.out HX8.out (w':=w8.setCell ⟨gb,i * 7+1,none⟩ (.int .i64 y)) (b':=⟨b.name,y,b.next,b.seq,b.mails,b.gones,b.lost⟩) (fun S1 h=>⟨S1,h.setValid y hyi,turns_set h (by omega),fun _ h=>.inl h⟩) (InvX.b (x:=⟨b.name,y,b.next,b.seq,b.mails,b.gones,b.lost⟩) HBI.out))
     clear hP HB8 HX8
     go_wp2
     go_meet
     case rel=>exact HF
    ·have AB:Below w6.heap.size w6 (w6.alloc (.cells #[.int .i64 0,.int .i64 1,.int .i64 1000000,.int .i64 1000001] 3)):=(Below.refl _ _).alloc (Nat.le_refl _) _
     have HI:Hid (IntsB (w6.alloc (.cells #[.int .i64 0,.int .i64 1,.int .i64 1000000,.int .i64 1000001] 3)) (.slice (some ⟨w6.heap.size,0,none⟩) 4 4) g 4 (0) 1000001):=by simpa [Hid] using intsB_made w6 g [0,1,1000000,1000001] 3 (0) 1000001 HB.out.cur.lt.2 (by simp) (by simp) (by intro x hx;simp at hx;omega)
     have HB7:=hidm (HB.out.below AB)
     have HX7:Hid (CellS (w6.alloc (.cells #[.int .i64 0,.int .i64 1,.int .i64 1000000,.int .i64 1000001] 3)) ga 1 (.slice (some ⟨gb,0,none⟩) a.boxes.length ec)):=(AB.cell (p:=⟨ga,1,none⟩) HB.out.acc.lt).trans HX.out
     have hla:=HB7.out.acc.lt
     clear HB HX AB
     go_wp2_with fail
     refine (l1PickInt_b w0 _ g 4 _ _ L (0) 1000001 HB7.out.cur HI.out).mono ?_
     rintro e w8 ⟨y,rfl,hy0,hy1,C8,G8⟩
     have hyi:I64 y:=⟨by omega,by omega⟩
     have HB8:=hidm (HB7.out.draw hgl C8 G8)
     have HX8:=hidm (HX7.out.gb G8 hla hnl)
     clear HB7 HX7 HI C8 G8 hla
     obtain ⟨gb',cap',S1,hc1,-,hP,-,-⟩:=HB8.out.acc.at HBB.out
     rw [show w8.cell? ⟨ga,1,none⟩=_ from HX8.out] at hc1
     simp only [Option.some.injEq,Value.slice.injEq,Addr.mk.injEq,true_and,and_true] at hc1
     obtain ⟨rfl,rfl⟩:=hc1
     obtain ⟨v0,v1,v2,-,-,-,-,q0,q1,q2,q3,q4,q5,q6⟩:=hP.cells
     have fz:=hP.open
     have hl8:=hP.lt
     have HF:=hidm (HB8.out.bend hgl HBB.out HX8.out (w':=w8.setCell ⟨gb,i * 7+2,none⟩ (.int .i64 y)) (b':=⟨b.name,b.valid,y,b.seq,b.mails,b.gones,b.lost⟩) (fun S1 h=>⟨S1,h.setNext y hyi,turns_set h (by omega),fun _ h=>.inl h⟩) (InvX.b (x:=⟨b.name,b.valid,y,b.seq,b.mails,b.gones,b.lost⟩) HBI.out))
     clear hP HB8 HX8
     go_wp2
     go_meet
     case rel=>exact HF
    ·have AB:Below w6.heap.size w6 (w6.alloc (.cells #[.int .i64 0,.int .i64 1000000,.int .i64 999999,.int .i64 1000001] 3)):=(Below.refl _ _).alloc (Nat.le_refl _) _
     have HI:Hid (IntsB (w6.alloc (.cells #[.int .i64 0,.int .i64 1000000,.int .i64 999999,.int .i64 1000001] 3)) (.slice (some ⟨w6.heap.size,0,none⟩) 4 4) g 4 (0) 1000001):=by simpa [Hid] using intsB_made w6 g [0,1000000,999999,1000001] 3 (0) 1000001 HB.out.cur.lt.2 (by simp) (by simp) (by intro x hx;simp at hx;omega)
     have HB7:=hidm (HB.out.below AB)
     have HX7:Hid (CellS (w6.alloc (.cells #[.int .i64 0,.int .i64 1000000,.int .i64 999999,.int .i64 1000001] 3)) ga 1 (.slice (some ⟨gb,0,none⟩) a.boxes.length ec)):=(AB.cell (p:=⟨ga,1,none⟩) HB.out.acc.lt).trans HX.out
     have hla:=HB7.out.acc.lt
     clear HB HX AB
     go_wp2_with fail
     refine (l1PickInt_b w0 _ g 4 _ _ L (0) 1000001 HB7.out.cur HI.out).mono ?_
     rintro e w8 ⟨y,rfl,hy0,hy1,C8,G8⟩
     have hyi:I64 y:=⟨by omega,by omega⟩
     have HB8:=hidm (HB7.out.draw hgl C8 G8)
     have HX8:=hidm (HX7.out.gb G8 hla hnl)
     clear HB7 HX7 HI C8 G8 hla
     obtain ⟨gb',cap',S1,hc1,-,hP,-,-⟩:=HB8.out.acc.at HBB.out
     rw [show w8.cell? ⟨ga,1,none⟩=_ from HX8.out] at hc1
     simp only [Option.some.injEq,Value.slice.injEq,Addr.mk.injEq,true_and,and_true] at hc1
     obtain ⟨rfl,rfl⟩:=hc1
     obtain ⟨v0,v1,v2,-,-,-,-,q0,q1,q2,q3,q4,q5,q6⟩:=hP.cells
     have fz:=hP.open
     have hl8:=hP.lt
     have HF:=hidm (HB8.out.bend hgl HBB.out HX8.out (w':=w8.setCell ⟨gb,i * 7+3,none⟩ (.int .i64 y)) (b':=⟨b.name,b.valid,b.next,y,b.mails,b.gones,b.lost⟩) (fun S1 h=>⟨S1,h.setSeq y hyi,turns_set h (by omega),fun _ h=>.inl h⟩) (InvX.b (x:=⟨b.name,b.valid,b.next,y,b.mails,b.gones,b.lost⟩) HBI.out))
     clear hP HB8 HX8
     go_wp2
     go_meet
     case rel=>exact HF
    ·have AB:Below w6.heap.size w6 (w6.alloc (.cells #[.int .i64 (-1),.int .i64 0,.int .i64 1,.int .i64 9] 3)):=(Below.refl _ _).alloc (Nat.le_refl _) _
     have HI:Hid (IntsB (w6.alloc (.cells #[.int .i64 (-1),.int .i64 0,.int .i64 1,.int .i64 9] 3)) (.slice (some ⟨w6.heap.size,0,none⟩) 4 4) g 4 (-1) 9):=by simpa [Hid] using intsB_made w6 g [-1,0,1,9] 3 (-1) 9 HB.out.cur.lt.2 (by simp) (by simp) (by intro x hx;simp at hx;omega)
     have HB7:=hidm (HB.out.below AB)
     have HX7:Hid (CellS (w6.alloc (.cells #[.int .i64 (-1),.int .i64 0,.int .i64 1,.int .i64 9] 3)) ga 1 (.slice (some ⟨gb,0,none⟩) a.boxes.length ec)):=(AB.cell (p:=⟨ga,1,none⟩) HB.out.acc.lt).trans HX.out
     have hla:=HB7.out.acc.lt
     clear HB HX AB
     go_wp2_with fail
     refine (l1PickInt_b w0 _ g 4 _ _ L (-1) 9 HB7.out.cur HI.out).mono ?_
     rintro e w8 ⟨y,rfl,hy0,hy1,C8,G8⟩
     have hyi:I64 y:=⟨by omega,by omega⟩
     have HB8:=hidm (HB7.out.draw hgl C8 G8)
     have HX8:=hidm (HX7.out.gb G8 hla hnl)
     clear HB7 HX7 HI C8 G8 hla
     obtain ⟨gb',cap',S1,hc1,-,hP,-,-⟩:=HB8.out.acc.at HBB.out
     rw [show w8.cell? ⟨ga,1,none⟩=_ from HX8.out] at hc1
     simp only [Option.some.injEq,Value.slice.injEq,Addr.mk.injEq,true_and,and_true] at hc1
     obtain ⟨rfl,rfl⟩:=hc1
     obtain ⟨v0,v1,v2,-,-,-,-,q0,q1,q2,q3,q4,q5,q6⟩:=hP.cells
     have fz:=hP.open
     have hl8:=hP.lt
     have HF:=hidm (HB8.out.bend hgl HBB.out HX8.out (w':=w8.setCell ⟨gb,i * 7+6,none⟩ (.int .i64 y)) (b':=⟨b.name,b.valid,b.next,b.seq,b.mails,b.gones,y⟩) (fun S1 h=>⟨S1,h.setLost y hyi,turns_set h (by omega),fun _ h=>.inl h⟩) (InvX.b (x:=⟨b.name,b.valid,b.next,b.seq,b.mails,b.gones,y⟩) HBI.out))
     clear hP HB8 HX8
     go_wp2
     go_meet
     case rel=>exact HF
    ·obtain ⟨gb',cap',S1,hc1,hSg,hP,hS1,-⟩:=HB.out.acc.at HBB.out
     rw [show w6.cell? ⟨ga,1,none⟩=_ from HX.out] at hc1
     simp only [Option.some.injEq,Value.slice.injEq,Addr.mk.injEq,true_and,and_true] at hc1
     obtain ⟨rfl,rfl⟩:=hc1
     obtain ⟨v0,v1,v2,-,-,hgq,⟨-,-,hsq,-⟩,q0,q1,q2,q3,q4,q5,q6⟩:=hP.cells
     obtain ⟨gq,gc,rfl,-⟩:=hgq.1.form
     have hl8:=hP.lt
     have fz8:=hP.open
     have hty:=hP.ty
     have DR:Below w6.heap.size w6 w6.drew:=(Below.refl _ _).drew
     have AB:Below w6.drew.heap.size w6.drew (w6.drew.alloc (.cells #[.int .i64 1,.int .i64 b.seq] 65)):=(Below.refl _ _).alloc (Nat.le_refl _) _
     have HB7:Hid (BSt w0 w ((w6.alloc (.cells #[.int .i64 1,.int .i64 b.seq] 65)).drew) g ga cv L a S2):=(HB.out.below DR).below AB
     have HP7:Hid (BoxP ((w6.alloc (.cells #[.int .i64 1,.int .i64 b.seq] 65)).drew) S1 gb (i * 7) b):=(hP.below DR).below AB
     have HX7:Hid (CellS ((w6.alloc (.cells #[.int .i64 1,.int .i64 b.seq] 65)).drew) ga 1 (.slice (some ⟨gb,0,none⟩) a.boxes.length ec)):=(AB.cell (p:=⟨ga,1,none⟩) (HB.out.below DR).acc.lt).trans ((DR.cell (p:=⟨ga,1,none⟩) HB.out.acc.lt).trans HX.out)
     have HC7:Hid (∀ j u,[Value.int .i64 1,Value.int .i64 b.seq][j]?=some u→((w6.alloc (.cells #[.int .i64 1,.int .i64 b.seq] 65)).drew).cell? ((⟨w6.heap.size,0,none⟩:Addr).add j)=some u):=cells_new w6.drew #[.int .i64 1,.int .i64 b.seq] 65
     have hbx:=HBI.out
     have hsD:w6.drew.cell? ⟨gb,i * 7+5,none⟩=some (.slice gq b.gones.length gc)∧w6.drew.cell? ⟨gb,i * 7+3,none⟩=some (.int .i64 b.seq):=⟨(DR.cell (p:=⟨gb,i * 7+5,none⟩) hl8).trans q5,(DR.cell (p:=⟨gb,i * 7+3,none⟩) hl8).trans q3⟩
     have hs7:((w6.alloc (.cells #[.int .i64 1,.int .i64 b.seq] 65)).drew).cell? ⟨gb,i * 7+5,none⟩=some (.slice gq b.gones.length gc)∧((w6.alloc (.cells #[.int .i64 1,.int .i64 b.seq] 65)).drew).cell? ⟨gb,i * 7+3,none⟩=some (.int .i64 b.seq):=⟨(AB.cell (p:=⟨gb,i * 7+5,none⟩) hl8).trans hsD.1,(AB.cell (p:=⟨gb,i * 7+3,none⟩) hl8).trans hsD.2⟩
     have H7:=hidm hs7
     have HSD:=hidm hsD
     have HSQ:=hidm hsq
     clear hP hgq q0 q1 q2 q3 q4 q5 q6 DR AB HB HX hsD hs7 hsq fz8 hty
     go_upto_region 21 with fail
     refine wpS_begin 12 (S:=fun w'=>w'.cell? ⟨gb,i * 7+5,none⟩=some (.slice gq b.gones.length gc)∧w'.cell? ⟨gb,i * 7+3,none⟩=some (.int .i64 b.seq)) (tabS_of (by kernel_rfl) tab_bent21) (by kernel_rfl) HSD.out (fun hTb hHeld=>?_)
     refine tks 0 0 77 hTb hHeld ?_
     refine tks 1 1 78 hTb hHeld ?_
     refine tks 2 2 79 hTb hHeld ?_
     refine tks 3 3 80 hTb hHeld ?_
     refine tks 4 4 81 hTb hHeld ?_
     refine tks 5 5 82 hTb hHeld ?_
     refine tks 6 6 83 hTb hHeld ?_
     refine tks 7 7 84 hTb hHeld ?_
     refine tks 8 8 85 hTb hHeld ?_
     refine tks 9 9 86 hTb hHeld ?_
     refine cls 10 10 hTb (by decide) rfl rfl (fun K hK=>?_)
     go_simp
     refine hK.out _ _ H7.out (fun hHeld=>?_)
     clear hK K HSD
     generalize (w6.alloc (.cells #[.int .i64 1,.int .i64 b.seq] 65)).drew=w7 at HB7 HP7 HX7 HC7 H7 hHeld ⊢
     refine cls 11 11 hTb (by decide) rfl rfl (fun K hK=>?_)
     obtain ⟨-,-,v2,-,-,hgq,-,-,-,-,-,-,q5,-⟩:=HP7.out.cells
     rw [H7.out.1] at q5
     obtain rfl:=Option.some.inj q5
     have hgl7:=HP7.out.lt
     have hty:=HP7.out.ty
     refine ite_w (by kernel_rfl) (wp_gone 88 rfl (.tmp 81) (.tmp 87) rfl hgq (by have:=hbx.2.2.2;omega) rfl ⟨w6.heap.size,0,none⟩ 1 rfl (x0:=1) (x1:=b.seq) HC7.out ⟨by decide,by decide⟩ HSQ.out ?_)
     intro V w8 hG
     have HE:Hid (∀ V w8,GoneP w7 w8 (.slice gq b.gones.length gc) V b.gones 1 b.seq→ESt w0 w (w8.setCell ⟨gb,i * 7+5,none⟩ V) g ga cv L∧(∃ oa on oc,V=.slice oa on oc)∧∃ cur,w8.heap[gb]?=some (.cells cur 44 (0,0))∧w7.heap[gb]?=some (.cells cur 44 (0,0))):=fun V w8 hG=>by
      obtain ⟨cur,c,hh,-⟩:=HP7.out
      rcases hG with ⟨q',off,n,c',hv,hn,hc',rfl,rfl⟩ | ⟨hb8,hO8⟩
      ·simp only [Value.slice.injEq] at hv
       obtain ⟨rfl,rfl,rfl⟩:=hv
       have hroom:=HB7.out.room hgl HBB.out HX7.out H7.out.1 hn hc' (x0:=1) (x1:=b.seq) ⟨by decide,by decide⟩ HSQ.out
       have hne:gb≠q':=fun e=>by
        obtain ⟨-,gcur,hgh,-⟩:=hgq.2 ⟨q',off,none⟩ _ _ rfl
        rw [← e] at hgh
        exact ty_ne hgh hty (by decide)
       exact ⟨hroom,⟨_,_,_,rfl⟩,cur,by rw [Below.heap_setCell _ _ _ _ (show gb≠q' from hne),Below.heap_setCell _ _ _ _ (show gb≠q' from hne)];exact hh,hh⟩
      ·exact ⟨HB7.out.grow (w1:=w7) hgl HBB.out HX7.out hb8 hO8 (by have:=hbx.2.2.2;simp;omega),by rcases hO8 with ⟨h,-⟩ | ⟨q,cap,cur,cs,fs,h,-⟩ <;> exact ⟨_,_,_,h⟩,cur,(hb8.block gb hgl7).trans hh,hh⟩
     obtain ⟨hE,⟨oa,on,oc,rfl⟩,cur,k8,k7⟩:=HE.out V w8 hG
     have HF:=hidm hE
     have hk8:∀ j,w8.cell? ⟨gb,j,none⟩=w7.cell? ⟨gb,j,none⟩:=fun j=>by rw [cell_of_row w8 gb j cur _ (0,0) k8,cell_of_row w7 gb j cur _ (0,0) k7]
     have c5:=(hk8 (i * 7+5)).trans H7.out.1
     have c3:=(hk8 (i * 7+3)).trans H7.out.2
     refine hK.out _ _ ⟨c5,c3⟩ (fun hHeld=>?_)
     clear hK K
     refine wpS_next (S':=fun w'=>True) 12 15 hTb (by decide) trivial (fun hHeld=>?_)
     refine tks 12 12 89 hTb hHeld ?_
     refine tks 13 13 90 hTb hHeld ?_
     refine cls 14 14 hTb (by decide) rfl rfl (fun K hK=>?_)
     have fz:∀ j,w8.frozen? ⟨gb,j,none⟩=false:=fun j=>frozen_of_row w8 gb j _ _ k8
     have hl9:=lt_of_heap k8
     clear HE hE hG hgq k7 k8 hk8 c3 HB7 HP7 HX7 HC7 H7 hHeld
     go_simp
     refine hK.out _ _ trivial (fun hHeld=>?_)
     clear hK K c5 fz
     refine wpS_end hTb ?_
     go_wp2
     go_meet
     case rel=>exact HF
    ·obtain ⟨gb',cap',S1,hc1,-,hP,-,-⟩:=HB.out.acc.at HBB.out
     rw [show w6.cell? ⟨ga,1,none⟩=_ from HX.out] at hc1
     simp only [Option.some.injEq,Value.slice.injEq,Addr.mk.injEq,true_and,and_true] at hc1
     obtain ⟨rfl,rfl⟩:=hc1
     by_cases hm:b.mails.length=0
     ·obtain ⟨v0,v1,v2,-,hms,-,-,q0,q1,q2,q3,q4,q5,q6⟩:=hP.cells
      obtain ⟨ma,mcc,rfl,-⟩:=hms.v.form
      have hl8:=hP.lt
      have hmi:¬ (0:Int) < (b.mails.length:Int):=by omega
      have HF:=hidm HB.out.fin
      clear hP hms HB HX
      go_wp2
      go_meet
      case rel=>exact HF
     ·obtain ⟨m,hm0⟩:∃ m,b.mails[0]?=some m:=⟨b.mails[0],List.getElem?_eq_getElem (by omega)⟩
      obtain ⟨mb,mc,q4,hlm,-⟩:=hP.mail hm0
      have hl8:=hP.lt
      have hmi:(0:Int) < (b.mails.length:Int):=by omega
      have DR:Below w6.heap.size w6 w6.drew:=(Below.refl _ _).drew
      have AB:Below w6.drew.heap.size w6.drew (w6.drew.alloc (.cells #[.int .i64 (-1),.int .i64 31,.int .i64 32] 3)):=(Below.refl _ _).alloc (Nat.le_refl _) _
      have HI:Hid (IntsB (w6.drew.alloc (.cells #[.int .i64 (-1),.int .i64 31,.int .i64 32] 3)) (.slice (some ⟨w6.drew.heap.size,0,none⟩) 3 3) g 3 (-1) 32):=by simpa [Hid] using intsB_made w6.drew g [-1,31,32] 3 (-1) 32 (HB.out.below DR).cur.lt.2 (by simp) (by simp) (by intro x hx;simp at hx;omega)
      have HB7:=hidm ((HB.out.below DR).below AB)
      have HX7:Hid (CellS (w6.drew.alloc (.cells #[.int .i64 (-1),.int .i64 31,.int .i64 32] 3)) ga 1 (.slice (some ⟨gb,0,none⟩) a.boxes.length ec)):=(AB.cell (p:=⟨ga,1,none⟩) (HB.out.below DR).acc.lt).trans ((DR.cell (p:=⟨ga,1,none⟩) HB.out.acc.lt).trans HX.out)
      have hq6:w6.drew.cell? ⟨gb,i * 7+4,none⟩=some (.slice (some ⟨mb,0,none⟩) b.mails.length mc):=(DR.cell (p:=⟨gb,i * 7+4,none⟩) hl8).trans q4
      have hq7:(w6.drew.alloc (.cells #[.int .i64 (-1),.int .i64 31,.int .i64 32] 3)).cell? ⟨gb,i * 7+4,none⟩=some (.slice (some ⟨mb,0,none⟩) b.mails.length mc):=(AB.cell (p:=⟨gb,i * 7+4,none⟩) hl8).trans hq6
      have HQ7:=hidm hq7
      have HQ6:=hidm hq6
      have HM0:=hidm hm0
      have hla:=HB7.out.acc.lt
      have hgb7:gb < (w6.drew.alloc (.cells #[.int .i64 (-1),.int .i64 31,.int .i64 32] 3)).heap.size:=Nat.lt_of_lt_of_le hl8 AB.size
      have hgbg:gb≠g:=fun e=>by have:=HB.out.ne hgl;obtain ⟨gb'',cap'',S'',hc'',hSg,-⟩:=HB.out.acc.at HBB.out;rw [show w6.cell? ⟨ga,1,none⟩=_ from HX.out] at hc'';simp only [Option.some.injEq,Value.slice.injEq,Addr.mk.injEq,true_and,and_true] at hc'';obtain ⟨rfl,-⟩:=hc'';exact this.2 (e ▸ hSg)
      clear hP DR AB HB HX hq6 hq7 hm0
      go_upto_if 98 with fail
      go_upto_region 24 with fail
      clear q4
      go_region_held3 (fun w'=>w'.cell? ⟨gb,i * 7+4,none⟩=some (.slice (some ⟨mb,0,none⟩) b.mails.length mc))
       (first | exact HQ6.out | exact HQ7.out | exact hq8 | exact hq9 | go_keep)
       ((go_at_call 31;refine (l1PickInt_b w0 _ g 3 _ _ L (-1) 32 HB7.out.cur HI.out).mono ?_;rintro e w8 ⟨y,rfl,hy0,hy1,C8,G8⟩;have hq8:w8.cell? ⟨gb,i * 7+4,none⟩=some (.slice (some ⟨mb,0,none⟩) b.mails.length mc):=CellS.gb HQ7.out G8 hgb7 hgbg;obtain ⟨qm,fm,lm,nm⟩:=BSt.mail (HB7.out.draw hgl C8 G8) HBB.out (HX7.out.gb G8 hla hnl) HM0.out hq8;have hq9:(w8.setCell ⟨mb,1,none⟩ (.int .i64 y)).cell? ⟨gb,i * 7+4,none⟩=some (.slice (some ⟨mb,0,none⟩) b.mails.length mc):=by unfold World.cell?;rw [Below.heap_setCell _ _ _ _ (show gb≠mb from nm)];exact hq8))
      all_goals
       have HF:=hidm ((HB7.out.draw hgl C8 G8).flags hgl HBB.out (HX7.out.gb G8 hla hnl) HM0.out hq8 (fl:=y) ⟨by omega,by omega⟩)
       clear HB7 HX7 HI C8 G8 hq8 hq9 qm fm lm nm
       go_wp2
       go_meet
       exact HF
    ·obtain ⟨u0,u1,hk0,hs0⟩:=HB.out.sn
     obtain ⟨ua,un,uc,rfl⟩:∃ ua un uc,u1=.slice ua un uc:=by
      rcases hs0 with ⟨h,-⟩ | ⟨q,cap,cur,cs,fs,h,-⟩ <;> exact ⟨_,_,_,h⟩
     obtain ⟨i0,hi,hz0,hz1,hz2⟩:=info_parts infoInt
     have DR:Below w6.heap.size w6 w6.drew:=(Below.refl _ _).drew
     have AB:Below w6.drew.heap.size w6.drew (w6.drew.alloc (.cells #[.int .i64 0,.int .i64 1,.int .i64 1000000,.int .i64 1000001] 3)):=(Below.refl _ _).alloc (Nat.le_refl _) _
     have HI:Hid (IntsB (w6.drew.alloc (.cells #[.int .i64 0,.int .i64 1,.int .i64 1000000,.int .i64 1000001] 3)) (.slice (some ⟨w6.drew.heap.size,0,none⟩) 4 4) g 4 0 1000001):=by simpa [Hid] using intsB_made w6.drew g [0,1,1000000,1000001] 3 0 1000001 (HB.out.below DR).cur.lt.2 (by simp) (by simp) (by intro x hx;simp at hx;omega)
     have HB7:=hidm ((HB.out.below DR).below AB)
     have hkD:=box_below DR hk0
     have HK7:=hidm (box_below AB hkD)
     have HS7:Hid (IntsO (w6.drew.alloc (.cells #[.int .i64 0,.int .i64 1,.int .i64 1000000,.int .i64 1000001] 3)) (In (w.heap.size+1) (w6.drew.alloc (.cells #[.int .i64 0,.int .i64 1,.int .i64 1000000,.int .i64 1000001] 3)).heap.size) (.slice ua un uc) a.seen):=Ow.mono (intsp_oth (intsp_oth hs0 fun k _ h2 _=>DR.block k h2) fun k h1 _ _=>AB.block k h1.2) fun k h=>⟨h.1,Nat.lt_of_lt_of_le h.2 AB.size⟩
     have h2D:=(bx3 hkD).2.2
     have hla:=lt_of_heap HK7.out
     have hpl:=HB.out.pl
     have hlD:=lt_of_heap hkD
     clear hk0 hs0 hkD DR AB HB HX
     go_upto_region 26 with fail
     refine wpS_begin 7 (S:=fun w'=>w'.cell? ⟨ga,2,none⟩=some (.slice ua un uc)) (tabS_of (by kernel_rfl) tab_bent26) (by kernel_rfl) h2D (fun hTb hHeld=>?_)
     refine tks 0 0 110 hTb hHeld ?_
     refine tks 1 1 111 hTb hHeld ?_
     refine tks 2 2 112 hTb hHeld ?_
     refine cls 3 3 hTb (by decide) rfl rfl (fun K hK=>?_)
     go_simp
     refine hK.out _ _ (bx3 HK7.out).2.2 (fun hHeld=>?_)
     clear hK K
     refine cls 4 4 hTb (by decide) rfl rfl (fun K hK=>?_)
     go_simp
     refine (l1PickInt_b w0 _ g 4 _ _ L 0 1000001 HB7.out.cur HI.out).mono ?_
     rintro e w8 ⟨y,rfl,hy0,hy1,C8,G8⟩
     have hyi:I64 y:=⟨by omega,by omega⟩
     have HB8:=hidm (HB7.out.draw hgl C8 G8)
     have hk8:=(G8.block ga hla (by simp;omega)).trans HK7.out
     have hs8:IntsO w8 (In (w.heap.size+1) w8.heap.size) (.slice ua un uc) a.seen:=Ow.mono (intsp_oth HS7.out fun k h1 h2 _=>G8.block k h2 (by have:=h1.1;simp;omega)) fun k h=>⟨h.1,Nat.lt_of_lt_of_le h.2 G8.size⟩
     refine hK.out _ _ (bx3 hk8).2.2 (fun hHeld=>?_)
     clear hK K
     refine cls 5 5 hTb (by decide) rfl rfl (fun K hK=>?_)
     go_simp
     have AB9:Below w8.heap.size w8 (w8.alloc (.cells #[.int .i64 y] 3)):=(Below.refl _ _).alloc (Nat.le_refl _) _
     refine hK.out _ _ (bx3 (box_below AB9 hk8)).2.2 (fun hHeld=>?_)
     clear hK K
     refine cls 6 6 hTb (by decide) rfl rfl (fun K hK=>?_)
     have hO:IntsO (w8.alloc (.cells #[.int .i64 y] 3)) (In (w.heap.size+1) w8.heap.size) (.slice ua un uc) a.seen:=intsp_oth hs8 fun k _ h _=>AB9.block k h
     have hBM:w.heap.size+1≤w8.heap.size:=by have:=lt_of_heap hk8;omega
     have hone:∀ u ∈ [Value.int .i64 y],u.oneCell'=true:=by simp [Value.oneCell']
     refine ite_w (by kernel_rfl) (wp_push 116 rfl (.tmp 111) (.tmp 115) rfl framesInt (B:=w.heap.size+1) (M:=w8.heap.size) hO AB9.size hBM Tryd.underlying24 hi hz0 hz1 hz2 rfl (by omega) rfl y [.int .i64 y] rfl ⟨rfl,hyi⟩ ⟨w8.heap.size,0,none⟩ 1 rfl (cells_new w8 _ _) hone (by unfold maxLen;omega) (by omega) ?_)
     intro V w10 hO10 hG10 hv10
     obtain ⟨oa,on,oc,rfl⟩:∃ ua un uc,V=.slice ua un uc:=by
      rcases hO10 with ⟨h,-⟩ | ⟨q,cap,cur,cs,fs,h,-⟩ <;> exact ⟨_,_,_,h⟩
     obtain ⟨hE,hk10⟩:=HB8.out.push hgl hk8 AB9 hO10 hG10 (fun g h=>(hv10 g h).1)
     have HF:=hidm hE
     refine hK.out _ _ (bx3 hk10).2.2 (fun hHeld=>?_)
     clear hK K
     refine wpS_next (S':=fun w'=>True) 7 9 hTb (by decide) trivial (fun hHeld=>?_)
     refine tks 7 7 117 hTb hHeld ?_
     refine cls 8 8 hTb (by decide) rfl rfl (fun K hK=>?_)
     obtain ⟨e0,e1,e2⟩:=bx3 hk10
     have fz:=(box8z hk10).1
     have hl10:=lt_of_heap hk10
     go_simp
     refine hK.out _ _ trivial (fun hHeld=>?_)
     clear hK K
     refine wpS_end hTb ?_
     clear hE hk10 hO10 hG10 hv10 hO hk8 hs8 AB9 HB8 HB7 HK7 HS7 HI C8 G8 e0 e1 e2 fz hone
     go_wp2
     go_meet
     case rel=>exact HF
    ·have AB:Below w6.heap.size w6 (w6.alloc (.cells #[.int .i64 0,.int .i64 (-1),.int .i64 1000000,.int .i64 1000001] 3)):=(Below.refl _ _).alloc (Nat.le_refl _) _
     have HI:Hid (IntsB (w6.alloc (.cells #[.int .i64 0,.int .i64 (-1),.int .i64 1000000,.int .i64 1000001] 3)) (.slice (some ⟨w6.heap.size,0,none⟩) 4 4) g 4 (-1) 1000001):=by simpa [Hid] using intsB_made w6 g [0,-1,1000000,1000001] 3 (-1) 1000001 HB.out.cur.lt.2 (by simp) (by simp) (by intro x hx;simp at hx;omega)
     have HB7:=hidm (HB.out.below AB)
     have HX7:Hid (CellS (w6.alloc (.cells #[.int .i64 0,.int .i64 (-1),.int .i64 1000000,.int .i64 1000001] 3)) ga 1 (.slice (some ⟨gb,0,none⟩) a.boxes.length ec)):=(AB.cell (p:=⟨ga,1,none⟩) HB.out.acc.lt).trans HX.out
     have hla:=HB7.out.acc.lt
     clear HB HX AB
     go_wp2_with fail
     refine (l1PickInt_b w0 _ g 4 _ _ L (-1) 1000001 HB7.out.cur HI.out).mono ?_
     rintro e w8 ⟨y,rfl,hy0,hy1,C8,G8⟩
     have hyi:I64 y:=⟨by omega,by omega⟩
     have HB8:=hidm (HB7.out.draw hgl C8 G8)
     have HX8:=hidm (HX7.out.gb G8 hla hnl)
     clear HB7 HX7 HI C8 G8 hla
     have hfa:=HB8.out.acc.open
     have hla:=HB8.out.acc.lt
     obtain ⟨-,-,k0,k1,k2,-⟩:=HB8.out.acc.cells
     have HF:=hidm (HB8.out.valid hgl hyi)
     clear HB8 HX8
     go_wp2
     go_meet
     case rel=>exact HF
   case rest =>
    obtain ⟨x,b0,b1,d0,m1,d1,hga,hk,hr,HF⟩:=hcut.out.out hgl
    obtain ⟨f0,f1,f2⟩:=bx3 hk
    obtain ⟨r0,r1,r2⟩:=bx3 hr
    have fz:=(box8z hr).1
    have hlk:=lt_of_heap hk
    have hlr:=lt_of_heap hr
    clear hk hr 
    go_wp2
    obtain ⟨e0,e1,e2⟩:=bx3 HF.out.1
    exact bodyPost_ret (v:=.agg #[.int .i64 x.valid,.slice b0 x.boxes.length d0,.slice b1 m1 d1]) (by simp [results,Tryd.results12,go_sem,e0,e1,e2]) rfl ⟨_,rfl,x,HF.out.2.1,HF.out.2.2.1,HF.out.2.2.2⟩

end Go.Proofs.YtnlhkgoppjejeaaDoor
