/- The proof's texts, part 39. -/
import Derived.Test.YtnlhkgoppjejeaaDoorPart36
import Derived.Test.YtnlhkgoppjejeaaDoorPart37
import Derived.Test.YtnlhkgoppjejeaaDoorPart12

/- What l3do of package spec does: delete. -/
namespace Go.Proofs.YtnlhkgoppjejeaaDoor
open Go.RowKit
set_option maxRecDepth 100000
set_option linter.unusedVariables false
set_option linter.unusedSimpArgs false

theorem tab_do17:(Tryd.f50.body.bind (opsAt 17)).all (fun o=>tableS o 20 [0,2,3,4,5,6,7,9,10,11,12,13,14,15,1,8,16,17,18,19] [14,15,16,19] [19,20] 12)=true:=by kernel_rfl
theorem delete_end {wl w3:World} {S0:Nat→Prop} {ga k m:Nat} {A:AccD} {cells:List Value} {V:Value} (hA:AccP wl S0 ga A) (hSl:∀ k,S0 k→k < wl.heap.size) (hb:Below wl.heap.size wl w3) (hel:EL 7 BoxQE wl A.boxes S0 cells)
  (hrow:w3.ownsRow wl.heap.size 44 7 V m (cells.take (k * 7) ++ cells.drop ((k+1) * 7))) (hm:m+1=A.boxes.length) (hk:k < A.boxes.length) :
  AccP (w3.setCell ⟨ga,1,none⟩ V) (fun j=>S0 j∨wl.heap.size≤j) ga ⟨A.valid,A.boxes.take k ++ A.boxes.drop (k+1),A.seen⟩:=by
 have hl:(A.boxes.take k ++ A.boxes.drop (k+1)).length=m:=by rw [List.length_append,List.length_take,List.length_drop];omega
 rw [← hl] at hrow
 have he:=el_out k (el_oth hel (fun k _ hk=>hb.block k hk) (stay_below hb) (stay_below hb))
 exact hA.putBoxes hb (boxesq_row hrow he hSl) (fun h=>h.elim hA.1 (fun h=>by have:=hA.lt;omega)) (fun k h=>h)

set_option maxRecDepth 100000 in
set_option maxHeartbeats 8000000 in
theorem l3do_del (ga:Nat) (a:AccD) (S:Nat→Prop) (uid mode fl si:Int) (bx tt tx:List Int) (x0 x1 x2:Option Addr) (n0 n1 n2 m0 m1 m2:Nat) (w:World) (hp:AccP w S ga a)
  (hs0:∀ w',w.heap.size≤w'.heap.size→StayT w w' 5→Bs w' (.slice x0 n0 m0) bx) (hs1:∀ w',w.heap.size≤w'.heap.size→StayT w w' 5→Bs w' (.slice x1 n1 m1) tt) (hs2:∀ w',w.heap.size≤w'.heap.size→StayT w w' 5→Bs w' (.slice x2 n2 m2) tx)
  (hi64:I64 uid∧I64 mode∧I64 fl∧I64 si) (hcl:bx.length≤2000000∧tx.length≤2000000) (hsz:∀ x ∈ a.boxes,szX x≤900000) (hbl:a.boxes.length≤2000000) (k:Nat) (b:BoxD) (hb:a.boxes[k]?=some b) (hf:firstI (fun x:BoxD=>decide (x.name=bx)) a.boxes=(k:Int))  :
  Calls Tryd.prog 50 #[.pointer (some ⟨ga,0,none⟩),.agg #[.int .i64 1,.slice x0 n0 m0,.slice x1 n1 m1,.int .i64 uid,.int .i64 mode,.int .i64 fl,.int .i64 si,.slice x2 n2 m2]] w (DoneA w S ga (⟨a.valid,a.boxes.take k ++ a.boxes.drop (k+1),a.seen⟩,codeR 0 0)):=by
 obtain ⟨S0,hS0e⟩:∃ S0:Nat→Prop,S0=fun k=>S k∧k < w.heap.size:=⟨_,rfl⟩
 have HSUB:Hid (∀ k,S0 k→S k):=by subst hS0e;exact fun k h=>h.1
 have HSL:Hid (∀ k,S0 k→k < w.heap.size):=by subst hS0e;exact fun k h=>h.2
 have HP:Hid (∀ w',Below w.heap.size w w'→AccP w' S0 ga a):=by subst hS0e;exact fun w' h=>hp.cut.below h
 clear hS0e
 have hlga:=hp.lt
 have HQ0:Hid (∀ w',w.heap.size≤w'.heap.size→StayT w w' 5→Bs w' (.slice x0 n0 m0) bx):=hs0
 have HQ1:Hid (∀ w',w.heap.size≤w'.heap.size→StayT w w' 5→Bs w' (.slice x1 n1 m1) tt):=hs1
 have HQ2:Hid (∀ w',w.heap.size≤w'.heap.size→StayT w w' 5→Bs w' (.slice x2 n2 m2) tx):=hs2
 have HI:Hid (I64 uid∧I64 mode∧I64 fl∧I64 si):=hi64
 have HSZ:Hid (∀ x ∈ a.boxes,szX x≤900000):=hsz
 obtain ⟨HB,HKC,HKR,hsW⟩:=heads2 w (.cells #[.int .i64 1,.slice x0 n0 m0,.slice x1 n1 m1,.int .i64 uid,.int .i64 mode,.int .i64 fl,.int .i64 si,.slice x2 n2 m2] 80) (.cells #[.int .i64 0,.int .i64 0,.slice none 0 0,.int .i64 0,.int .i64 0,.int .i64 0,.slice none 0 0,.slice none 0 0,.int .i64 0,.slice none 0 0] 84)
 clear hs0 hs1 hs2 hp hi64 hsz
 go_enter Tryd.func50,Tryd.ntmps50
 go_upto_region 1 with fail
 generalize ((w.alloc (.cells #[.int .i64 1,.slice x0 n0 m0,.slice x1 n1 m1,.int .i64 uid,.int .i64 mode,.int .i64 fl,.int .i64 si,.slice x2 n2 m2] 80)).alloc (.cells #[.int .i64 0,.int .i64 0,.slice none 0 0,.int .i64 0,.int .i64 0,.int .i64 0,.slice none 0 0,.slice none 0 0,.int .i64 0,.slice none 0 0] 84))=W at HB HKC HKR hsW ⊢
 have q0:W.cell? ⟨w.heap.size,0,none⟩=some (.int .i64 1):=cell_of_row W w.heap.size 0 _ _ (0,0) HKC.out
 have hlc:w.heap.size < W.heap.size:=by omega
 go_upto_region 11 with fail
 clear q0
 have DR:Below W.heap.size W W.drew:=(Below.refl _ _).drew
 have HAD:Hid (AccP W.drew S0 ga a):=HP.out W.drew (Below.step HB.out DR)
 obtain ⟨v9,u9,ca0,ca1,ca2,hbq,hav⟩:=HAD.out.cells
 obtain ⟨e0,e1,rfl,-⟩:=hbq.v.form
 have HAV:Hid _:=hav
 have HNB:Hid (Bs W.drew (.slice x0 n0 m0) bx):=HQ0.out _ (Nat.le_trans HB.out.size DR.size) (stay_below (Below.step HB.out DR))
 have hlga1:ga < W.drew.heap.size:=by show ga < W.heap.size;omega
 have hlc1:w.heap.size < W.drew.heap.size:=hlc
 have HS:Hid (∀ w',Below W.drew.heap.size W.drew w'→w'.cell? ⟨ga,0,none⟩=some (.int .i64 a.valid)∧w'.cell? ⟨ga,1,none⟩=some (.slice e0 a.boxes.length e1)∧w'.cell? ⟨ga,2,none⟩=some u9∧w'.cell? ⟨w.heap.size,1,none⟩=some (.slice x0 n0 m0)):=fun w' h=>⟨(h.cell (p:=⟨ga,0,none⟩) hlga1).trans ca0,(h.cell (p:=⟨ga,1,none⟩) hlga1).trans ca1,(h.cell (p:=⟨ga,2,none⟩) hlga1).trans ca2,cell_of_row w' w.heap.size 1 _ _ (0,0) (box_below (Below.step DR h) HKC.out)⟩
 clear hbq hav ca0 ca1 ca2
 go_region_held3 (fun w'=>w'.cell? ⟨ga,0,none⟩=some (.int .i64 a.valid)∧w'.cell? ⟨ga,1,none⟩=some (.slice e0 a.boxes.length e1)∧w'.cell? ⟨ga,2,none⟩=some u9∧w'.cell? ⟨w.heap.size,1,none⟩=some (.slice x0 n0 m0))
  (first | exact HS.out _ (Below.refl _ _) | exact HS.out _ B1 | go_keep)
  ((go_at_call 68;refine (l3box_any _ _ a bx _ HAV.out HNB.out hbl).mono ?_;rintro e w1 ⟨rfl,B1⟩))
 have HB1:Hid (Below W.heap.size W w1):=Below.step DR B1
 have HKC1:Hid _:=box_below HB1.out HKC.out
 have HKR1:Hid _:=box_below HB1.out HKR.out
 have hw1:W.heap.size≤w1.heap.size:=HB1.out.size
 have HX1:Hid (Below w.heap.size w w1):=Below.step HB.out HB1.out
 have HE1:Hid (w1.cell? ⟨ga,1,none⟩=some (.slice e0 a.boxes.length e1)):=(HS.out w1 B1).2.1
 clear B1 HAV HNB DR hlga1 hlc1 HS HAD
 have HA1:Hid (AccP w1 S0 ga a):=HP.out w1 HX1.out
 obtain ⟨g,cap,Sb,cb,hSg,hpb,hSb,hback⟩:=HA1.out.at hb
 have e9:=Option.some.inj (cb.symm.trans HE1.out)
 simp only [Value.slice.injEq,true_and] at e9
 obtain ⟨rfl,rfl⟩:=e9
 have HBK:Hid _:=hback
 have HPB:Hid (BoxP w1 Sb g (k * 7) b):=hpb
 have HSb:Hid (∀ k,Sb k→S0 k):=fun k h=>(hSb k h).1
 have hkl:k < a.boxes.length:=(List.getElem?_eq_some_iff.1 hb).1
 have hki:(k:Int) < (a.boxes.length:Int):=by omega
 have hlg1:g < w1.heap.size:=hpb.lt
 have hga1:ga < w1.heap.size:=by omega
 have hlc1:w.heap.size < w1.heap.size:=by omega
 have hgw:g < w.heap.size:=HSL.out g hSg
 have hsx:szX b≤900000:=HSZ.out b (List.mem_of_getElem? hb)
 have hml:b.mails.length≤900000:=by have:=szM_len b.mails;unfold szX at hsx;omega
 have hgl:b.gones.length≤900000:=by unfold szX at hsx;omega
 have HC1:Hid (w1.cell? ⟨ga,1,none⟩=some (.slice (some ⟨g,0,none⟩) a.boxes.length cap)):=cb
 obtain ⟨v8,u8,ca0,ca1,ca2,hbq,-⟩:=HA1.out.cells
 have e8:v8=.slice (some ⟨g,0,none⟩) a.boxes.length cap:=Option.some.inj (ca1.symm.trans cb)
 subst e8
 have HBQ:Hid (BoxesQ w1 S0 (.slice (some ⟨g,0,none⟩) a.boxes.length cap) a.boxes):=hbq
 clear hpb hback hSb hbq ca0 ca1 ca2
 have q0:w1.cell? ⟨w.heap.size,0,none⟩=some (.int .i64 1):=cell_of_row w1 w.heap.size 0 _ _ (0,0) HKC1.out
 by_cases hce:cap=k+1
 ·have hke:k+1=a.boxes.length:=by have:=HBQ.out.v.form;obtain ⟨_,_,e,h,-⟩:=this;cases e;omega
  have HKE:Hid (k+1=a.boxes.length):=hke
  clear hke
  obtain ⟨g',cap',cur,hgv,hgh,hc1,hc2,hc3,-,hel⟩:=(Ow.el HBQ.out).resolve_left (fun h=>by have:=h.1;cases this)
  simp only [Value.slice.injEq,Option.some.injEq,Addr.mk.injEq,and_true,true_and] at hgv
  obtain ⟨rfl,rfl⟩:=hgv
  have HGH:Hid (w1.drew.heap[g]?=some (.cells cur 44 (0,0))):=hgh
  have DRX:Below w1.heap.size w1 w1.drew:=(Below.refl _ _).drew
  have HELD:Hid (EL 7 BoxQE w1.drew a.boxes S0 (cur.toList.take (a.boxes.length * 7))):=(el_oth (w':=w1.drew) hel (fun k _ hk=>DRX.block k hk) (stay_below DRX) (stay_below DRX)).mono fun k h=>h.1
  clear DRX
  have h1s:∀ y ∈ ((cur.toList.take (a.boxes.length * 7)).take (k * 7)),y.oneCell'=true:=fun y hy=>one_el HELD.out y (List.mem_of_mem_take hy)
  have h2s:∀ y ∈ ((cur.toList.take (a.boxes.length * 7)).drop ((k+1) * 7)),y.oneCell'=true:=fun y hy=>one_el HELD.out y (List.mem_of_mem_drop hy)
  have HAD:Hid (AccP w1.drew S0 ga a):=HA1.out.below (Below.refl _ _).drew
  have HXD:Hid (Below w.heap.size w w1.drew):=HX1.out.drew
  have HKD:Hid (w1.drew.heap[w.heap.size+1]?=_):=HKR1.out
  have HLD:Hid (∀ k,S0 k→k < w1.drew.heap.size):=fun k h=>by have:=HSL.out k h;show k < w1.heap.size;omega
  have hgd:g < w1.drew.heap.size:=hlg1
  have hgad:ga < w1.drew.heap.size:=hga1
  obtain ⟨i0,hi,hz0,hz1,hz2⟩:=info_parts infoBox
  have hm1:0+k≤maxLen:=by unfold maxLen;omega
  have hm2:(0+k) * 104≤140737488355328:=by omega
  have hm3:k+0≤maxLen:=by unfold maxLen;omega
  have hm4:(k+0) * 104≤140737488355328:=by omega
  have hiz:k≤cap:=by omega
  have hwr:IntKind.i64.wrap ((k:Int)+1)=(k:Int)+1:=by simp [IntKind.wrap,IntKind.bits,IntKind.signed];omega
  have htn:((k:Int)+1).toNat=k+1:=by omega
  have hb0:(0:Int)≤(k:Int)+1:=by omega
  have hb1:(k:Int)+1≤(a.boxes.length:Int):=by omega
  subst hce
  have hie:(k:Int)≤(k:Int)+1:=by omega
  clear hgh hel hc2
  go_upto_region 17 with fail
  clear q0 cb
  refine wpS_begin 19 (S:=fun w'=>w'.cell? ⟨ga,1,none⟩=some (.slice (some ⟨g,0,none⟩) a.boxes.length (k+1))) (tabS_of (by kernel_rfl) tab_do17) (by kernel_rfl) (HC1.out) (fun hTb hHeld=>?_)
  refine tks 0 0 64 hTb hHeld ?_
  refine tks 1 2 66 hTb hHeld ?_
  refine tks 2 3 67 hTb hHeld ?_
  refine tks 3 4 68 hTb hHeld ?_
  refine tks 4 5 69 hTb hHeld ?_
  refine tks 5 6 70 hTb hHeld ?_
  refine tks 6 7 71 hTb hHeld ?_
  refine tks 7 9 73 hTb hHeld ?_
  refine tks 8 10 74 hTb hHeld ?_
  refine tks 9 11 75 hTb hHeld ?_
  refine tks 10 12 76 hTb hHeld ?_
  refine tks 11 13 77 hTb hHeld ?_
  refine tks 12 14 78 hTb hHeld ?_
  refine tks 13 15 79 hTb hHeld ?_
  refine cls 14 1 hTb (by decide) rfl rfl (fun K hK=>?_)
  go_simp
  have AE:Below w1.drew.heap.size w1.drew (w1.drew.alloc (.cells #[] 44)):=(Below.refl _ _).alloc (Nat.le_refl _) _
  have HOE:Hid _:=owns_empty w1.drew 44 7 w1.drew.heap.size (Nat.le_refl _)
  have HDE:Hid (Below w1.drew.heap.size w1.drew (w1.drew.alloc (.cells #[] 44))):=AE
  refine hK.out _ _ ((AE.cell (p:=⟨ga,1,none⟩) hga1).trans HC1.out) (fun hHeld=>?_)
  clear hK K
  clear AE
  refine cls 15 8 hTb (by decide) rfl rfl (fun K hK=>?_)
  refine ite_w (by kernel_rfl) (wp_catC (B:=w1.drew.heap.size) 72 rfl (.tmp 65) (.tmp 71) rfl HOE.out (src_take ((HDE.out.block g hgd).trans HGH.out) (by omega) (by omega) (k+1)) h1s Tryd.underlying23 hi hz0 hz1 hz2 rfl (by omega) rfl rfl hm1 hm2 HDE.out.size ?_)
  intro V1 w4 hO4 hG4 hB4
  obtain ⟨p1,p2,p3,hV1⟩:=own_form hO4
  subst hV1
  have HD4:Hid (Below w1.drew.heap.size w1.drew w4):=below_row HDE.out hG4 (fun j hj=>own_ge HOE.out hj)
  have HO4:Hid (w4.ownsRow w1.drew.heap.size 44 7 (.slice p1 p2 p3) k ((cur.toList.take (a.boxes.length * 7)).take (k * 7))):=by simpa [World.ownsRow,Hid] using hO4
  clear hO4 hG4 hB4
  refine hK.out _ _ ((HD4.out.cell (p:=⟨ga,1,none⟩) hga1).trans HC1.out) (fun hHeld=>?_)
  clear hK K
  refine cls 16 16 hTb (by decide) rfl rfl (fun K hK=>?_)
  have hsrc2:SrcC w4 (.slice (some ⟨g,0,none⟩) 0 0) 0 7 ((cur.toList.take (a.boxes.length * 7)).drop ((k+1) * 7)):=by rw [HKE.out];exact (src_end w4 g a.boxes.length cur 0)
  refine ite_w (by kernel_rfl) (wp_catC (B:=w1.drew.heap.size) 80 rfl (.tmp 72) (.tmp 79) rfl HO4.out hsrc2 h2s Tryd.underlying23 hi hz0 hz1 hz2 rfl (by omega) rfl rfl hm3 hm4 HD4.out.size ?_)
  intro V2 w6 hO6 hG6 hB6
  obtain ⟨t1,t2,t3,hV2⟩:=own_form hO6
  subst hV2
  have HD6:Hid (Below w1.drew.heap.size w1.drew w6):=below_row HD4.out hG6 (fun j hj=>own_ge HO4.out hj)
  have HO6:Hid (w6.ownsRow w1.drew.heap.size 44 7 (.slice t1 t2 t3) (k+0) (((cur.toList.take (a.boxes.length * 7)).take (k * 7)) ++ ((cur.toList.take (a.boxes.length * 7)).drop ((k+1) * 7)))):=by simpa [World.ownsRow,Hid] using hO6
  clear hO6 hG6 hB6 hsrc2
  refine hK.out _ _ ((HD6.out.cell (p:=⟨ga,1,none⟩) hga1).trans HC1.out) (fun hHeld=>?_)
  clear hK K
  refine tks 17 17 81 hTb hHeld ?_
  refine tks 18 18 82 hTb hHeld ?_
  refine wpS_next (S':=fun w'=>True) 19 20 hTb (by decide) (trivial) (fun hHeld=>?_)
  refine cls 19 19 hTb (by decide) rfl rfl (fun K hK=>?_)
  have HA6:Hid (AccP w6 S0 ga a):=HAD.out.below HD6.out
  have HAZ:Hid (AccP (w6.setCell ⟨ga,1,none⟩ (.slice t1 t2 t3)) (fun j=>S0 j∨w1.drew.heap.size≤j) ga ⟨a.valid,a.boxes.take k ++ a.boxes.drop (k+1),a.seen⟩):=delete_end HAD.out HLD.out HD6.out HELD.out HO6.out (by omega) hkl
  have HTZ:Hid (TurnsA w (w6.setCell ⟨ga,1,none⟩ (.slice t1 t2 t3)) S0 ga):=(TurnsA.below (S:=S0) (Below.step HXD.out HD6.out)).trans (TurnsA.set (S:=S0) HA6.out) (fun k h=>.inl h)
  have HKZ:Hid _:=box_other (k:=ga) (i:=1) (v:=.slice t1 t2 t3) (box_below HD6.out HKD.out) (by omega)
  have fz7:=HA6.out.open
  obtain ⟨w70,w71,c70,c71,-⟩:=HA6.out.cells
  have hga7:=HA6.out.lt
  go_simp
  refine hK.out _ _ (trivial) (fun hHeld=>?_)
  clear hK K
  refine wpS_end hTb ?_
  go_upto_region 18 with fail
  clear fz7 c70 c71 hga7
  generalize w6.setCell ⟨ga,1,none⟩ (.slice t1 t2 t3)=w8 at HAZ HTZ HKZ ⊢
  obtain ⟨r0,r1,r2,r3,r4,r5,r6,r7,r8,r9⟩:=bx10 HKZ.out
  have fz:∀ i,w8.frozen? ⟨w.heap.size+1,i,none⟩=false:=fun i=>frozen_of_row w8 _ i _ _ HKZ.out
  have hlr8:=lt_of_heap HKZ.out
  have hd1:w1.drew.heap.size=w1.heap.size:=rfl
  have HF:Hid _:=rep_turnA (w:=w) HKZ.out (by omega) HTZ.out _ _ HAZ.out hlga (fun h=>h.elim (fun h=>by have:=HSL.out _ h;omega) (fun h=>by omega)) 0 0 ⟨i64c0,i64c0⟩
  go_wp2
  obtain ⟨f0,f1,f2,f3,f4,f5,f6,f7,f8,f9⟩:=bx10 HF.out.1
  refine bodyPost_ret (v:=.agg #[.int .i64 0,.int .i64 0,.slice none 0 0,.int .i64 0,.int .i64 0,.int .i64 0,.slice none 0 0,.slice none 0 0,.int .i64 0,.slice none 0 0]) (by simp [results,Tryd.results50,go_sem,f0,f1,f2,f3,f4,f5,f6,f7,f8,f9]) rfl ⟨_,_,rfl,reps_code HF.out.2.2.2,TurnsA.wide HF.out.2.1 HSUB.out,HF.out.2.2.1,(show ∀ k,(S0 k∨w1.drew.heap.size≤k)→_ from fun k h=>h.elim (fun h=>.inl (HSUB.out k h)) (fun h=>.inr (by omega)))⟩
 ·skip
  obtain ⟨g',cap',cur,hgv,hgh,hc1,hc2,hc3,-,hel⟩:=(Ow.el HBQ.out).resolve_left (fun h=>by have:=h.1;cases this)
  simp only [Value.slice.injEq,Option.some.injEq,Addr.mk.injEq,and_true,true_and] at hgv
  obtain ⟨rfl,rfl⟩:=hgv
  have HGH:Hid (w1.drew.heap[g]?=some (.cells cur 44 (0,0))):=hgh
  have DRX:Below w1.heap.size w1 w1.drew:=(Below.refl _ _).drew
  have HELD:Hid (EL 7 BoxQE w1.drew a.boxes S0 (cur.toList.take (a.boxes.length * 7))):=(el_oth (w':=w1.drew) hel (fun k _ hk=>DRX.block k hk) (stay_below DRX) (stay_below DRX)).mono fun k h=>h.1
  clear DRX
  have h1s:∀ y ∈ ((cur.toList.take (a.boxes.length * 7)).take (k * 7)),y.oneCell'=true:=fun y hy=>one_el HELD.out y (List.mem_of_mem_take hy)
  have h2s:∀ y ∈ ((cur.toList.take (a.boxes.length * 7)).drop ((k+1) * 7)),y.oneCell'=true:=fun y hy=>one_el HELD.out y (List.mem_of_mem_drop hy)
  have HAD:Hid (AccP w1.drew S0 ga a):=HA1.out.below (Below.refl _ _).drew
  have HXD:Hid (Below w.heap.size w w1.drew):=HX1.out.drew
  have HKD:Hid (w1.drew.heap[w.heap.size+1]?=_):=HKR1.out
  have HLD:Hid (∀ k,S0 k→k < w1.drew.heap.size):=fun k h=>by have:=HSL.out k h;show k < w1.heap.size;omega
  have hgd:g < w1.drew.heap.size:=hlg1
  have hgad:ga < w1.drew.heap.size:=hga1
  obtain ⟨i0,hi,hz0,hz1,hz2⟩:=info_parts infoBox
  have hm1:0+k≤maxLen:=by unfold maxLen;omega
  have hm2:(0+k) * 104≤140737488355328:=by omega
  have hm3:k+(a.boxes.length - (k+1))≤maxLen:=by unfold maxLen;omega
  have hm4:(k+(a.boxes.length - (k+1))) * 104≤140737488355328:=by omega
  have hiz:k≤cap:=by omega
  have hwr:IntKind.i64.wrap ((k:Int)+1)=(k:Int)+1:=by simp [IntKind.wrap,IntKind.bits,IntKind.signed];omega
  have htn:((k:Int)+1).toNat=k+1:=by omega
  have hb0:(0:Int)≤(k:Int)+1:=by omega
  have hb1:(k:Int)+1≤(a.boxes.length:Int):=by omega
  have hcn:¬ cap=k+1:=hce
  clear hgh hel hc2
  go_upto_region 17 with fail
  clear q0 cb
  refine wpS_begin 19 (S:=fun w'=>w'.cell? ⟨ga,1,none⟩=some (.slice (some ⟨g,0,none⟩) a.boxes.length cap)) (tabS_of (by kernel_rfl) tab_do17) (by kernel_rfl) (HC1.out) (fun hTb hHeld=>?_)
  refine tks 0 0 64 hTb hHeld ?_
  refine tks 1 2 66 hTb hHeld ?_
  refine tks 2 3 67 hTb hHeld ?_
  refine tks 3 4 68 hTb hHeld ?_
  refine tks 4 5 69 hTb hHeld ?_
  refine tks 5 6 70 hTb hHeld ?_
  refine tks 6 7 71 hTb hHeld ?_
  refine tks 7 9 73 hTb hHeld ?_
  refine tks 8 10 74 hTb hHeld ?_
  refine tks 9 11 75 hTb hHeld ?_
  refine tks 10 12 76 hTb hHeld ?_
  refine tks 11 13 77 hTb hHeld ?_
  refine tks 12 14 78 hTb hHeld ?_
  refine tks 13 15 79 hTb hHeld ?_
  refine cls 14 1 hTb (by decide) rfl rfl (fun K hK=>?_)
  go_simp
  have AE:Below w1.drew.heap.size w1.drew (w1.drew.alloc (.cells #[] 44)):=(Below.refl _ _).alloc (Nat.le_refl _) _
  have HOE:Hid _:=owns_empty w1.drew 44 7 w1.drew.heap.size (Nat.le_refl _)
  have HDE:Hid (Below w1.drew.heap.size w1.drew (w1.drew.alloc (.cells #[] 44))):=AE
  refine hK.out _ _ ((AE.cell (p:=⟨ga,1,none⟩) hga1).trans HC1.out) (fun hHeld=>?_)
  clear hK K
  clear AE
  refine cls 15 8 hTb (by decide) rfl rfl (fun K hK=>?_)
  refine ite_w (by kernel_rfl) (wp_catC (B:=w1.drew.heap.size) 72 rfl (.tmp 65) (.tmp 71) rfl HOE.out (src_take ((HDE.out.block g hgd).trans HGH.out) (by omega) (by omega) cap) h1s Tryd.underlying23 hi hz0 hz1 hz2 rfl (by omega) rfl rfl hm1 hm2 HDE.out.size ?_)
  intro V1 w4 hO4 hG4 hB4
  obtain ⟨p1,p2,p3,hV1⟩:=own_form hO4
  subst hV1
  have HD4:Hid (Below w1.drew.heap.size w1.drew w4):=below_row HDE.out hG4 (fun j hj=>own_ge HOE.out hj)
  have HO4:Hid (w4.ownsRow w1.drew.heap.size 44 7 (.slice p1 p2 p3) k ((cur.toList.take (a.boxes.length * 7)).take (k * 7))):=by simpa [World.ownsRow,Hid] using hO4
  clear hO4 hG4 hB4
  refine hK.out _ _ ((HD4.out.cell (p:=⟨ga,1,none⟩) hga1).trans HC1.out) (fun hHeld=>?_)
  clear hK K
  refine cls 16 16 hTb (by decide) rfl rfl (fun K hK=>?_)
  have hsrc2:=(src_drop (n:=a.boxes.length) (k:=k+1) ((HD4.out.block g hgd).trans HGH.out) (by omega) (by omega) (cap - (k+1)))
  refine ite_w (by kernel_rfl) (wp_catC (B:=w1.drew.heap.size) 80 rfl (.tmp 72) (.tmp 79) rfl HO4.out hsrc2 h2s Tryd.underlying23 hi hz0 hz1 hz2 rfl (by omega) rfl rfl hm3 hm4 HD4.out.size ?_)
  intro V2 w6 hO6 hG6 hB6
  obtain ⟨t1,t2,t3,hV2⟩:=own_form hO6
  subst hV2
  have HD6:Hid (Below w1.drew.heap.size w1.drew w6):=below_row HD4.out hG6 (fun j hj=>own_ge HO4.out hj)
  have HO6:Hid (w6.ownsRow w1.drew.heap.size 44 7 (.slice t1 t2 t3) (k+(a.boxes.length - (k+1))) (((cur.toList.take (a.boxes.length * 7)).take (k * 7)) ++ ((cur.toList.take (a.boxes.length * 7)).drop ((k+1) * 7)))):=by simpa [World.ownsRow,Hid] using hO6
  clear hO6 hG6 hB6 hsrc2
  refine hK.out _ _ ((HD6.out.cell (p:=⟨ga,1,none⟩) hga1).trans HC1.out) (fun hHeld=>?_)
  clear hK K
  refine tks 17 17 81 hTb hHeld ?_
  refine tks 18 18 82 hTb hHeld ?_
  refine wpS_next (S':=fun w'=>True) 19 20 hTb (by decide) (trivial) (fun hHeld=>?_)
  refine cls 19 19 hTb (by decide) rfl rfl (fun K hK=>?_)
  have HA6:Hid (AccP w6 S0 ga a):=HAD.out.below HD6.out
  have HAZ:Hid (AccP (w6.setCell ⟨ga,1,none⟩ (.slice t1 t2 t3)) (fun j=>S0 j∨w1.drew.heap.size≤j) ga ⟨a.valid,a.boxes.take k ++ a.boxes.drop (k+1),a.seen⟩):=delete_end HAD.out HLD.out HD6.out HELD.out HO6.out (by omega) hkl
  have HTZ:Hid (TurnsA w (w6.setCell ⟨ga,1,none⟩ (.slice t1 t2 t3)) S0 ga):=(TurnsA.below (S:=S0) (Below.step HXD.out HD6.out)).trans (TurnsA.set (S:=S0) HA6.out) (fun k h=>.inl h)
  have HKZ:Hid _:=box_other (k:=ga) (i:=1) (v:=.slice t1 t2 t3) (box_below HD6.out HKD.out) (by omega)
  have fz7:=HA6.out.open
  obtain ⟨w70,w71,c70,c71,-⟩:=HA6.out.cells
  have hga7:=HA6.out.lt
  go_simp
  refine hK.out _ _ (trivial) (fun hHeld=>?_)
  clear hK K
  refine wpS_end hTb ?_
  go_upto_region 18 with fail
  clear fz7 c70 c71 hga7
  generalize w6.setCell ⟨ga,1,none⟩ (.slice t1 t2 t3)=w8 at HAZ HTZ HKZ ⊢
  obtain ⟨r0,r1,r2,r3,r4,r5,r6,r7,r8,r9⟩:=bx10 HKZ.out
  have fz:∀ i,w8.frozen? ⟨w.heap.size+1,i,none⟩=false:=fun i=>frozen_of_row w8 _ i _ _ HKZ.out
  have hlr8:=lt_of_heap HKZ.out
  have hd1:w1.drew.heap.size=w1.heap.size:=rfl
  have HF:Hid _:=rep_turnA (w:=w) HKZ.out (by omega) HTZ.out _ _ HAZ.out hlga (fun h=>h.elim (fun h=>by have:=HSL.out _ h;omega) (fun h=>by omega)) 0 0 ⟨i64c0,i64c0⟩
  go_wp2
  obtain ⟨f0,f1,f2,f3,f4,f5,f6,f7,f8,f9⟩:=bx10 HF.out.1
  refine bodyPost_ret (v:=.agg #[.int .i64 0,.int .i64 0,.slice none 0 0,.int .i64 0,.int .i64 0,.int .i64 0,.slice none 0 0,.slice none 0 0,.int .i64 0,.slice none 0 0]) (by simp [results,Tryd.results50,go_sem,f0,f1,f2,f3,f4,f5,f6,f7,f8,f9]) rfl ⟨_,_,rfl,reps_code HF.out.2.2.2,TurnsA.wide HF.out.2.1 HSUB.out,HF.out.2.2.1,(show ∀ k,(S0 k∨w1.drew.heap.size≤k)→_ from fun k h=>h.elim (fun h=>.inl (HSUB.out k h)) (fun h=>.inr (by omega)))⟩


end Go.Proofs.YtnlhkgoppjejeaaDoor
