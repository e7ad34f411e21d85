/- The proof's texts, part 41. -/
import Derived.Test.YtnlhkgoppjejeaaDoorPart36
import Derived.Test.YtnlhkgoppjejeaaDoorPart37
import Derived.Test.YtnlhkgoppjejeaaDoorPart40
import Derived.Test.YtnlhkgoppjejeaaDoorPart12
import Derived.Test.YtnlhkgoppjejeaaDoorPart20

/- What l3do of package spec does: changes, status. -/
namespace Go.Proofs.YtnlhkgoppjejeaaDoor
open Go.RowKit
set_option maxRecDepth 100000
set_option linter.unusedVariables false
set_option linter.unusedSimpArgs false

theorem tab_do30:(Tryd.f50.body.bind (opsAt 30)).all (fun o=>tableS o 7 [0,1,2,3,4,5,6] [5,6] [6,7] 12)=true:=by kernel_rfl
theorem tab_do32:(Tryd.f50.body.bind (opsAt 32)).all (fun o=>tableS o 30 [0,1,2,3,4,6,7,8,9,11,12,13,14,15,16,17,18,19,20,21,22,23,24,25,26,5,10,27,28,29] [25,26,29] [29,30] 12)=true:=by kernel_rfl

set_option maxRecDepth 100000 in
set_option maxHeartbeats 8000000 in
theorem l3do_chg (ga:Nat) (a:AccD) (S:Nat→Prop) (uid mode fl si:Int) (bx tt tx:List Int) (x0 x1 x2:Option Addr) (n0 n1 n2 m0 m1 m2:Nat) (w:World) (hp:AccP w S ga a)
  (hs0:∀ w',w.heap.size≤w'.heap.size→StayT w w' 5→Bs w' (.slice x0 n0 m0) bx) (hs1:∀ w',w.heap.size≤w'.heap.size→StayT w w' 5→Bs w' (.slice x1 n1 m1) tt) (hs2:∀ w',w.heap.size≤w'.heap.size→StayT w w' 5→Bs w' (.slice x2 n2 m2) tx)
  (hi64:I64 uid∧I64 mode∧I64 fl∧I64 si) (hcl:bx.length≤2000000∧tx.length≤2000000) (hsz:∀ x ∈ a.boxes,szX x≤900000) (hbl:a.boxes.length≤2000000) (k:Nat) (b:BoxD) (hb:a.boxes[k]?=some b) (hf:firstI (fun x:BoxD=>decide (x.name=bx)) a.boxes=(k:Int)) (rr:RepD) (hrr:chgD b si=rr) :
  Calls Tryd.prog 50 #[.pointer (some ⟨ga,0,none⟩),.agg #[.int .i64 8,.slice x0 n0 m0,.slice x1 n1 m1,.int .i64 uid,.int .i64 mode,.int .i64 fl,.int .i64 si,.slice x2 n2 m2]] w (DoneA w S ga (a,rr)):=by
 obtain ⟨S0,hS0e⟩:∃ S0:Nat→Prop,S0=fun k=>S k∧k < w.heap.size:=⟨_,rfl⟩
 have HSUB:Hid (∀ k,S0 k→S k):=by subst hS0e;exact fun k h=>h.1
 have HSL:Hid (∀ k,S0 k→k < w.heap.size):=by subst hS0e;exact fun k h=>h.2
 have HP:Hid (∀ w',Below w.heap.size w w'→AccP w' S0 ga a):=by subst hS0e;exact fun w' h=>hp.cut.below h
 clear hS0e
 have hlga:=hp.lt
 have HQ0:Hid (∀ w',w.heap.size≤w'.heap.size→StayT w w' 5→Bs w' (.slice x0 n0 m0) bx):=hs0
 have HQ1:Hid (∀ w',w.heap.size≤w'.heap.size→StayT w w' 5→Bs w' (.slice x1 n1 m1) tt):=hs1
 have HQ2:Hid (∀ w',w.heap.size≤w'.heap.size→StayT w w' 5→Bs w' (.slice x2 n2 m2) tx):=hs2
 have HI:Hid (I64 uid∧I64 mode∧I64 fl∧I64 si):=hi64
 have HSZ:Hid (∀ x ∈ a.boxes,szX x≤900000):=hsz
 obtain ⟨HB,HKC,HKR,hsW⟩:=heads2 w (.cells #[.int .i64 8,.slice x0 n0 m0,.slice x1 n1 m1,.int .i64 uid,.int .i64 mode,.int .i64 fl,.int .i64 si,.slice x2 n2 m2] 80) (.cells #[.int .i64 0,.int .i64 0,.slice none 0 0,.int .i64 0,.int .i64 0,.int .i64 0,.slice none 0 0,.slice none 0 0,.int .i64 0,.slice none 0 0] 84)
 clear hs0 hs1 hs2 hp hi64 hsz
 go_enter Tryd.func50,Tryd.ntmps50
 go_upto_region 1 with fail
 generalize ((w.alloc (.cells #[.int .i64 8,.slice x0 n0 m0,.slice x1 n1 m1,.int .i64 uid,.int .i64 mode,.int .i64 fl,.int .i64 si,.slice x2 n2 m2] 80)).alloc (.cells #[.int .i64 0,.int .i64 0,.slice none 0 0,.int .i64 0,.int .i64 0,.int .i64 0,.slice none 0 0,.slice none 0 0,.int .i64 0,.slice none 0 0] 84))=W at HB HKC HKR hsW ⊢
 have q0:W.cell? ⟨w.heap.size,0,none⟩=some (.int .i64 8):=cell_of_row W w.heap.size 0 _ _ (0,0) HKC.out
 have hlc:w.heap.size < W.heap.size:=by omega
 go_upto_region 11 with fail
 clear q0
 have DR:Below W.heap.size W W.drew:=(Below.refl _ _).drew
 have HAD:Hid (AccP W.drew S0 ga a):=HP.out W.drew (Below.step HB.out DR)
 obtain ⟨v9,u9,ca0,ca1,ca2,hbq,hav⟩:=HAD.out.cells
 obtain ⟨e0,e1,rfl,-⟩:=hbq.v.form
 have HAV:Hid _:=hav
 have HNB:Hid (Bs W.drew (.slice x0 n0 m0) bx):=HQ0.out _ (Nat.le_trans HB.out.size DR.size) (stay_below (Below.step HB.out DR))
 have hlga1:ga < W.drew.heap.size:=by show ga < W.heap.size;omega
 have hlc1:w.heap.size < W.drew.heap.size:=hlc
 have HS:Hid (∀ w',Below W.drew.heap.size W.drew w'→w'.cell? ⟨ga,0,none⟩=some (.int .i64 a.valid)∧w'.cell? ⟨ga,1,none⟩=some (.slice e0 a.boxes.length e1)∧w'.cell? ⟨ga,2,none⟩=some u9∧w'.cell? ⟨w.heap.size,1,none⟩=some (.slice x0 n0 m0)):=fun w' h=>⟨(h.cell (p:=⟨ga,0,none⟩) hlga1).trans ca0,(h.cell (p:=⟨ga,1,none⟩) hlga1).trans ca1,(h.cell (p:=⟨ga,2,none⟩) hlga1).trans ca2,cell_of_row w' w.heap.size 1 _ _ (0,0) (box_below (Below.step DR h) HKC.out)⟩
 clear hbq hav ca0 ca1 ca2
 go_region_held3 (fun w'=>w'.cell? ⟨ga,0,none⟩=some (.int .i64 a.valid)∧w'.cell? ⟨ga,1,none⟩=some (.slice e0 a.boxes.length e1)∧w'.cell? ⟨ga,2,none⟩=some u9∧w'.cell? ⟨w.heap.size,1,none⟩=some (.slice x0 n0 m0))
  (first | exact HS.out _ (Below.refl _ _) | exact HS.out _ B1 | go_keep)
  ((go_at_call 68;refine (l3box_any _ _ a bx _ HAV.out HNB.out hbl).mono ?_;rintro e w1 ⟨rfl,B1⟩))
 have HB1:Hid (Below W.heap.size W w1):=Below.step DR B1
 have HKC1:Hid _:=box_below HB1.out HKC.out
 have HKR1:Hid _:=box_below HB1.out HKR.out
 have hw1:W.heap.size≤w1.heap.size:=HB1.out.size
 have HX1:Hid (Below w.heap.size w w1):=Below.step HB.out HB1.out
 have HE1:Hid (w1.cell? ⟨ga,1,none⟩=some (.slice e0 a.boxes.length e1)):=(HS.out w1 B1).2.1
 clear B1 HAV HNB DR hlga1 hlc1 HS HAD
 have HA1:Hid (AccP w1 S0 ga a):=HP.out w1 HX1.out
 obtain ⟨g,cap,Sb,cb,hSg,hpb,hSb,hback⟩:=HA1.out.at hb
 have e9:=Option.some.inj (cb.symm.trans HE1.out)
 simp only [Value.slice.injEq,true_and] at e9
 obtain ⟨rfl,rfl⟩:=e9
 have HBK:Hid _:=hback
 have HPB:Hid (BoxP w1 Sb g (k * 7) b):=hpb
 have HSb:Hid (∀ k,Sb k→S0 k):=fun k h=>(hSb k h).1
 have hkl:k < a.boxes.length:=(List.getElem?_eq_some_iff.1 hb).1
 have hki:(k:Int) < (a.boxes.length:Int):=by omega
 have hlg1:g < w1.heap.size:=hpb.lt
 have hga1:ga < w1.heap.size:=by omega
 have hlc1:w.heap.size < w1.heap.size:=by omega
 have hgw:g < w.heap.size:=HSL.out g hSg
 have hsx:szX b≤900000:=HSZ.out b (List.mem_of_getElem? hb)
 have hml:b.mails.length≤900000:=by have:=szM_len b.mails;unfold szX at hsx;omega
 have hgl:b.gones.length≤900000:=by unfold szX at hsx;omega
 have HC1:Hid (w1.cell? ⟨ga,1,none⟩=some (.slice (some ⟨g,0,none⟩) a.boxes.length cap)):=cb
 clear hpb hback hSb
 have q0:w1.cell? ⟨w.heap.size,0,none⟩=some (.int .i64 8):=cell_of_row w1 w.heap.size 0 _ _ (0,0) HKC1.out
 have q6:w1.cell? ⟨w.heap.size,6,none⟩=some (.int .i64 si):=cell_of_row w1 w.heap.size 6 _ _ (0,0) HKC1.out
 obtain ⟨u0,u1,u2,h0,h1,h2,hint,c0,c1,c2,c3,c4,c5,c6⟩:=HPB.out.cells
 obtain ⟨a0,q0',z0,rfl⟩:=h0.bs.form3
 obtain ⟨a1,z1,rfl,-⟩:=h1.v.form
 obtain ⟨a2,z2,rfl,-⟩:=h2.1.form
 have HBV:Hid (BoxV w1 (.agg #[.slice a0 q0' z0,.int .i64 b.valid,.int .i64 b.next,.int .i64 b.seq,.slice a1 b.mails.length z1,.slice a2 b.gones.length z2,.int .i64 b.lost]) b):=⟨_,_,_,rfl,h0.bs,h1.v,h2.1,hint⟩
 have HN64:Hid (I64 b.next):=hint.2.1
 clear h0 h1 h2 hint
 have HXD:Hid (Below w.heap.size w w1.drew):=HX1.out.drew
 have HKD:Hid (w1.drew.heap[w.heap.size+1]?=_):=HKR1.out
 have HKCD:Hid (w1.drew.heap[w.heap.size]?=_):=HKC1.out
 have hgd:g < w1.drew.heap.size:=hlg1
 have hld:w.heap.size < w1.drew.heap.size:=hlc1
 have hd1:w1.drew.heap.size=w1.heap.size:=rfl
 go_upto_region 30 with fail
 refine wpS_begin 6 (S:=fun w'=>w'.cell? ⟨g,k * 7,none⟩=some (.slice a0 q0' z0)∧w'.cell? ⟨g,k * 7+1,none⟩=some (.int .i64 b.valid)∧w'.cell? ⟨g,k * 7+2,none⟩=some (.int .i64 b.next)∧w'.cell? ⟨g,k * 7+3,none⟩=some (.int .i64 b.seq)∧w'.cell? ⟨g,k * 7+4,none⟩=some (.slice a1 b.mails.length z1)∧w'.cell? ⟨g,k * 7+5,none⟩=some (.slice a2 b.gones.length z2)∧w'.cell? ⟨g,k * 7+6,none⟩=some (.int .i64 b.lost)∧w'.cell? ⟨w.heap.size,6,none⟩=some (.int .i64 si)) (tabS_of (by kernel_rfl) tab_do30) (by kernel_rfl) (⟨c0,c1,c2,c3,c4,c5,c6,q6⟩) (fun hTb hHeld=>?_)
 refine tks 0 0 116 hTb hHeld ?_
 refine tks 1 1 117 hTb hHeld ?_
 refine tks 2 2 118 hTb hHeld ?_
 refine tks 3 3 119 hTb hHeld ?_
 refine tks 4 4 120 hTb hHeld ?_
 refine cls 5 5 hTb (by decide) rfl rfl (fun K hK=>?_)
 go_simp
 have hc:=l3changes_s _ b si w1.drew (HBV.out.below (Below.refl _ _).drew) (by omega)
 rw [hrr] at hc
 refine hc.mono ?_
 rintro e wz ⟨u,rfl,hrep,Bz⟩
 clear hc
 obtain ⟨y0,k0,j0,y1,j1,y2,j2,y3,j3,hU⟩:=hrep.v.form
 subst hU
 have HRS:Hid (RepS wz w1.drew.heap.size _ rr):=hrep
 have HXz:Hid (Below w.heap.size w wz):=Below.step HXD.out Bz
 have HKz:Hid _:=box_below Bz HKD.out
 have sz:=Bz.size
 refine hK.out _ _ (⟨(Bz.cell (p:=⟨g,_,none⟩) hgd).trans c0,(Bz.cell (p:=⟨g,_,none⟩) hgd).trans c1,(Bz.cell (p:=⟨g,_,none⟩) hgd).trans c2,(Bz.cell (p:=⟨g,_,none⟩) hgd).trans c3,(Bz.cell (p:=⟨g,_,none⟩) hgd).trans c4,(Bz.cell (p:=⟨g,_,none⟩) hgd).trans c5,(Bz.cell (p:=⟨g,_,none⟩) hgd).trans c6,(Bz.cell (p:=⟨w.heap.size,_,none⟩) hld).trans q6⟩) (fun hHeld=>?_)
 clear hK K
 refine wpS_next (S':=fun w'=>True) 6 7 hTb (by decide) (trivial) (fun hHeld=>?_)
 refine cls 6 6 hTb (by decide) rfl rfl (fun K hK=>?_)
 obtain ⟨r0,r1,r2,r3,r4,r5,r6,r7,r8,r9⟩:=bx10 HKz.out
 have fz:∀ i,wz.frozen? ⟨w.heap.size+1,i,none⟩=false:=fun i=>frozen_of_row wz _ i _ _ HKz.out
 have hlr:=lt_of_heap HKz.out
 have HF:Hid _:=rep_putA (w:=w) (ga:=ga) (S:=S0) (S':=S0) HKz.out (by omega) (TurnsA.below HXz.out) a (HP.out _ HXz.out) hlga (fun h=>by have:=HSL.out _ h;omega) _ (.int .i64 rr.code) (.int .i64 rr.num) (.slice y0 k0 j0) (.int .i64 rr.box.valid) (.int .i64 rr.box.next) (.int .i64 rr.box.seq) (.slice y1 rr.box.mails.length j1) (.slice y2 rr.box.gones.length j2) (.int .i64 rr.box.lost) (.slice y3 rr.names.length j3) HRS.out (by show w.heap.size+1 < w1.heap.size;omega)
 go_simp
 refine hK.out _ _ (trivial) (fun hHeld=>?_)
 clear hK K
 refine wpS_end hTb ?_
 go_wp2
 obtain ⟨f0,f1,f2,f3,f4,f5,f6,f7,f8,f9⟩:=bx10 HF.out.1
 refine bodyPost_ret (v:=.agg #[.int .i64 rr.code,.int .i64 rr.num,.slice y0 k0 j0,.int .i64 rr.box.valid,.int .i64 rr.box.next,.int .i64 rr.box.seq,.slice y1 rr.box.mails.length j1,.slice y2 rr.box.gones.length j2,.int .i64 rr.box.lost,.slice y3 rr.names.length j3]) (by simp [results,Tryd.results50,go_sem,f0,f1,f2,f3,f4,f5,f6,f7,f8,f9]) rfl ⟨_,S0,rfl,HF.out.2.2.2,TurnsA.wide HF.out.2.1 HSUB.out,HF.out.2.2.1,fun k h=>.inl (HSUB.out k h)⟩

set_option maxRecDepth 100000 in
set_option maxHeartbeats 8000000 in
theorem l3do_sta (ga:Nat) (a:AccD) (S:Nat→Prop) (uid mode fl si:Int) (bx tt tx:List Int) (x0 x1 x2:Option Addr) (n0 n1 n2 m0 m1 m2:Nat) (w:World) (hp:AccP w S ga a)
  (hs0:∀ w',w.heap.size≤w'.heap.size→StayT w w' 5→Bs w' (.slice x0 n0 m0) bx) (hs1:∀ w',w.heap.size≤w'.heap.size→StayT w w' 5→Bs w' (.slice x1 n1 m1) tt) (hs2:∀ w',w.heap.size≤w'.heap.size→StayT w w' 5→Bs w' (.slice x2 n2 m2) tx)
  (hi64:I64 uid∧I64 mode∧I64 fl∧I64 si) (hcl:bx.length≤2000000∧tx.length≤2000000) (hsz:∀ x ∈ a.boxes,szX x≤900000) (hbl:a.boxes.length≤2000000) (k:Nat) (b:BoxD) (hb:a.boxes[k]?=some b) (hf:firstI (fun x:BoxD=>decide (x.name=bx)) a.boxes=(k:Int))  :
  Calls Tryd.prog 50 #[.pointer (some ⟨ga,0,none⟩),.agg #[.int .i64 7,.slice x0 n0 m0,.slice x1 n1 m1,.int .i64 uid,.int .i64 mode,.int .i64 fl,.int .i64 si,.slice x2 n2 m2]] w (DoneA w S ga (a,⟨0,(b.mails.length:Nat),⟨b.name,b.valid,b.next,b.seq,[],[],b.lost⟩,[]⟩)):=by
 obtain ⟨S0,hS0e⟩:∃ S0:Nat→Prop,S0=fun k=>S k∧k < w.heap.size:=⟨_,rfl⟩
 have HSUB:Hid (∀ k,S0 k→S k):=by subst hS0e;exact fun k h=>h.1
 have HSL:Hid (∀ k,S0 k→k < w.heap.size):=by subst hS0e;exact fun k h=>h.2
 have HP:Hid (∀ w',Below w.heap.size w w'→AccP w' S0 ga a):=by subst hS0e;exact fun w' h=>hp.cut.below h
 clear hS0e
 have hlga:=hp.lt
 have HQ0:Hid (∀ w',w.heap.size≤w'.heap.size→StayT w w' 5→Bs w' (.slice x0 n0 m0) bx):=hs0
 have HQ1:Hid (∀ w',w.heap.size≤w'.heap.size→StayT w w' 5→Bs w' (.slice x1 n1 m1) tt):=hs1
 have HQ2:Hid (∀ w',w.heap.size≤w'.heap.size→StayT w w' 5→Bs w' (.slice x2 n2 m2) tx):=hs2
 have HI:Hid (I64 uid∧I64 mode∧I64 fl∧I64 si):=hi64
 have HSZ:Hid (∀ x ∈ a.boxes,szX x≤900000):=hsz
 obtain ⟨HB,HKC,HKR,hsW⟩:=heads2 w (.cells #[.int .i64 7,.slice x0 n0 m0,.slice x1 n1 m1,.int .i64 uid,.int .i64 mode,.int .i64 fl,.int .i64 si,.slice x2 n2 m2] 80) (.cells #[.int .i64 0,.int .i64 0,.slice none 0 0,.int .i64 0,.int .i64 0,.int .i64 0,.slice none 0 0,.slice none 0 0,.int .i64 0,.slice none 0 0] 84)
 clear hs0 hs1 hs2 hp hi64 hsz
 go_enter Tryd.func50,Tryd.ntmps50
 go_upto_region 1 with fail
 generalize ((w.alloc (.cells #[.int .i64 7,.slice x0 n0 m0,.slice x1 n1 m1,.int .i64 uid,.int .i64 mode,.int .i64 fl,.int .i64 si,.slice x2 n2 m2] 80)).alloc (.cells #[.int .i64 0,.int .i64 0,.slice none 0 0,.int .i64 0,.int .i64 0,.int .i64 0,.slice none 0 0,.slice none 0 0,.int .i64 0,.slice none 0 0] 84))=W at HB HKC HKR hsW ⊢
 have q0:W.cell? ⟨w.heap.size,0,none⟩=some (.int .i64 7):=cell_of_row W w.heap.size 0 _ _ (0,0) HKC.out
 have hlc:w.heap.size < W.heap.size:=by omega
 go_upto_region 11 with fail
 clear q0
 have DR:Below W.heap.size W W.drew:=(Below.refl _ _).drew
 have HAD:Hid (AccP W.drew S0 ga a):=HP.out W.drew (Below.step HB.out DR)
 obtain ⟨v9,u9,ca0,ca1,ca2,hbq,hav⟩:=HAD.out.cells
 obtain ⟨e0,e1,rfl,-⟩:=hbq.v.form
 have HAV:Hid _:=hav
 have HNB:Hid (Bs W.drew (.slice x0 n0 m0) bx):=HQ0.out _ (Nat.le_trans HB.out.size DR.size) (stay_below (Below.step HB.out DR))
 have hlga1:ga < W.drew.heap.size:=by show ga < W.heap.size;omega
 have hlc1:w.heap.size < W.drew.heap.size:=hlc
 have HS:Hid (∀ w',Below W.drew.heap.size W.drew w'→w'.cell? ⟨ga,0,none⟩=some (.int .i64 a.valid)∧w'.cell? ⟨ga,1,none⟩=some (.slice e0 a.boxes.length e1)∧w'.cell? ⟨ga,2,none⟩=some u9∧w'.cell? ⟨w.heap.size,1,none⟩=some (.slice x0 n0 m0)):=fun w' h=>⟨(h.cell (p:=⟨ga,0,none⟩) hlga1).trans ca0,(h.cell (p:=⟨ga,1,none⟩) hlga1).trans ca1,(h.cell (p:=⟨ga,2,none⟩) hlga1).trans ca2,cell_of_row w' w.heap.size 1 _ _ (0,0) (box_below (Below.step DR h) HKC.out)⟩
 clear hbq hav ca0 ca1 ca2
 go_region_held3 (fun w'=>w'.cell? ⟨ga,0,none⟩=some (.int .i64 a.valid)∧w'.cell? ⟨ga,1,none⟩=some (.slice e0 a.boxes.length e1)∧w'.cell? ⟨ga,2,none⟩=some u9∧w'.cell? ⟨w.heap.size,1,none⟩=some (.slice x0 n0 m0))
  (first | exact HS.out _ (Below.refl _ _) | exact HS.out _ B1 | go_keep)
  ((go_at_call 68;refine (l3box_any _ _ a bx _ HAV.out HNB.out hbl).mono ?_;rintro e w1 ⟨rfl,B1⟩))
 have HB1:Hid (Below W.heap.size W w1):=Below.step DR B1
 have HKC1:Hid _:=box_below HB1.out HKC.out
 have HKR1:Hid _:=box_below HB1.out HKR.out
 have hw1:W.heap.size≤w1.heap.size:=HB1.out.size
 have HX1:Hid (Below w.heap.size w w1):=Below.step HB.out HB1.out
 have HE1:Hid (w1.cell? ⟨ga,1,none⟩=some (.slice e0 a.boxes.length e1)):=(HS.out w1 B1).2.1
 clear B1 HAV HNB DR hlga1 hlc1 HS HAD
 have HA1:Hid (AccP w1 S0 ga a):=HP.out w1 HX1.out
 obtain ⟨g,cap,Sb,cb,hSg,hpb,hSb,hback⟩:=HA1.out.at hb
 have e9:=Option.some.inj (cb.symm.trans HE1.out)
 simp only [Value.slice.injEq,true_and] at e9
 obtain ⟨rfl,rfl⟩:=e9
 have HBK:Hid _:=hback
 have HPB:Hid (BoxP w1 Sb g (k * 7) b):=hpb
 have HSb:Hid (∀ k,Sb k→S0 k):=fun k h=>(hSb k h).1
 have hkl:k < a.boxes.length:=(List.getElem?_eq_some_iff.1 hb).1
 have hki:(k:Int) < (a.boxes.length:Int):=by omega
 have hlg1:g < w1.heap.size:=hpb.lt
 have hga1:ga < w1.heap.size:=by omega
 have hlc1:w.heap.size < w1.heap.size:=by omega
 have hgw:g < w.heap.size:=HSL.out g hSg
 have hsx:szX b≤900000:=HSZ.out b (List.mem_of_getElem? hb)
 have hml:b.mails.length≤900000:=by have:=szM_len b.mails;unfold szX at hsx;omega
 have hgl:b.gones.length≤900000:=by unfold szX at hsx;omega
 have HC1:Hid (w1.cell? ⟨ga,1,none⟩=some (.slice (some ⟨g,0,none⟩) a.boxes.length cap)):=cb
 clear hpb hback hSb
 have q0:w1.cell? ⟨w.heap.size,0,none⟩=some (.int .i64 7):=cell_of_row w1 w.heap.size 0 _ _ (0,0) HKC1.out
 obtain ⟨u0,u1,u2,h0,h1,h2,hint,c0,c1,c2,c3,c4,c5,c6⟩:=HPB.out.cells
 obtain ⟨a0,q0',z0,rfl⟩:=h0.bs.form3
 obtain ⟨a1,z1,rfl,-⟩:=h1.v.form
 obtain ⟨a2,z2,rfl,-⟩:=h2.1.form
 have HBV:Hid (BoxV w1 (.agg #[.slice a0 q0' z0,.int .i64 b.valid,.int .i64 b.next,.int .i64 b.seq,.slice a1 b.mails.length z1,.slice a2 b.gones.length z2,.int .i64 b.lost]) b):=⟨_,_,_,rfl,h0.bs,h1.v,h2.1,hint⟩
 have HINT:Hid (I64 b.valid∧I64 b.next∧I64 b.seq∧I64 b.lost):=hint
 have HNM:Hid (Bs w1.drew (.slice a0 q0' z0) b.name):=h0.bs.below (Below.refl _ _).drew
 clear h0 h1 h2 hint
 have HXD:Hid (Below w.heap.size w w1.drew):=HX1.out.drew
 have HKD:Hid (w1.drew.heap[w.heap.size+1]?=_):=HKR1.out
 have HKCD:Hid (w1.drew.heap[w.heap.size]?=_):=HKC1.out
 have hgd:g < w1.drew.heap.size:=hlg1
 have hld:w.heap.size < w1.drew.heap.size:=hlc1
 have hd1:w1.drew.heap.size=w1.heap.size:=rfl
 obtain ⟨i0,hi,hz0,hz1,hz2⟩:=info_parts info5
 have hnl:b.name.length≤900000:=by unfold szX at hsx;omega
 have hm1:b.name.length≤maxLen:=by unfold maxLen;omega
 have hm2:b.name.length * 1≤140737488355328:=by omega
 go_upto_region 32 with fail
 refine wpS_begin 29 (S:=fun w'=>w'.cell? ⟨g,k * 7,none⟩=some (.slice a0 q0' z0)∧w'.cell? ⟨g,k * 7+1,none⟩=some (.int .i64 b.valid)∧w'.cell? ⟨g,k * 7+2,none⟩=some (.int .i64 b.next)∧w'.cell? ⟨g,k * 7+3,none⟩=some (.int .i64 b.seq)∧w'.cell? ⟨g,k * 7+4,none⟩=some (.slice a1 b.mails.length z1)∧w'.cell? ⟨g,k * 7+6,none⟩=some (.int .i64 b.lost)) (tabS_of (by kernel_rfl) tab_do32) (by kernel_rfl) (⟨c0,c1,c2,c3,c4,c6⟩) (fun hTb hHeld=>?_)
 refine tks 0 0 124 hTb hHeld ?_
 refine tks 1 1 125 hTb hHeld ?_
 refine tks 2 2 126 hTb hHeld ?_
 refine tks 3 3 127 hTb hHeld ?_
 refine tks 4 4 128 hTb hHeld ?_
 refine tks 5 6 130 hTb hHeld ?_
 refine tks 6 7 131 hTb hHeld ?_
 refine tks 7 8 132 hTb hHeld ?_
 refine tks 8 9 133 hTb hHeld ?_
 refine tks 9 11 135 hTb hHeld ?_
 refine tks 10 12 136 hTb hHeld ?_
 refine tks 11 13 137 hTb hHeld ?_
 refine tks 12 14 138 hTb hHeld ?_
 refine tks 13 15 139 hTb hHeld ?_
 refine tks 14 16 140 hTb hHeld ?_
 refine tks 15 17 141 hTb hHeld ?_
 refine tks 16 18 142 hTb hHeld ?_
 refine tks 17 19 143 hTb hHeld ?_
 refine tks 18 20 144 hTb hHeld ?_
 refine tks 19 21 145 hTb hHeld ?_
 refine tks 20 22 146 hTb hHeld ?_
 refine tks 21 23 147 hTb hHeld ?_
 refine tks 22 24 148 hTb hHeld ?_
 refine tks 23 25 149 hTb hHeld ?_
 refine tks 24 26 150 hTb hHeld ?_
 refine cls 25 5 hTb (by decide) rfl rfl (fun K hK=>?_)
 go_simp
 have AE:Below w1.drew.heap.size w1.drew (w1.drew.alloc (.cells #[] 5)):=(Below.refl _ _).alloc (Nat.le_refl _) _
 have HOE:Hid _:=owns_empty w1.drew 5 1 w1.drew.heap.size (Nat.le_refl _)
 have HDE:Hid (Below w1.drew.heap.size w1.drew (w1.drew.alloc (.cells #[] 5))):=AE
 refine hK.out _ _ (⟨(AE.cell (p:=⟨g,_,none⟩) hgd).trans c0,(AE.cell (p:=⟨g,_,none⟩) hgd).trans c1,(AE.cell (p:=⟨g,_,none⟩) hgd).trans c2,(AE.cell (p:=⟨g,_,none⟩) hgd).trans c3,(AE.cell (p:=⟨g,_,none⟩) hgd).trans c4,(AE.cell (p:=⟨g,_,none⟩) hgd).trans c6⟩) (fun hHeld=>?_)
 clear hK K
 clear AE
 refine cls 26 10 hTb (by decide) rfl rfl (fun K hK=>?_)
 refine ite_w (by kernel_rfl) (wp_cat (B:=w1.drew.heap.size) 134 rfl (.tmp 129) (.tmp 133) rfl HOE.out (Bs.rd1 (HNM.out.below HDE.out)) (one_byte _) Tryd.underlying22 hi hz0 hz1 hz2 rfl (by omega) rfl rfl hm1 hm2 HDE.out.size ?_)
 intro V1 wz xs hO4 hX4 hG4 hB4
 have hR:RO wz (fun k=>w1.drew.heap.size≤k) V1 b.name:=ro_of HNM.out.1 hO4 hX4 (fun g hg=>own_ge hO4 hg)
 obtain ⟨y0,k0,j0,hV1⟩:=hR.bs.form3
 subst hV1
 have hG4':(w1.drew.alloc (.cells #[] 5)).grownBy wz (some w1.drew.heap.size):=hG4
 have Bz:Below w1.drew.heap.size w1.drew wz:=below_gr0 HDE.out hG4' (Nat.le_refl _)
 have HXz:Hid (Below w.heap.size w wz):=Below.step HXD.out Bz
 have HKz:Hid _:=box_below Bz HKD.out
 have sz:=Bz.size
 have HRS:Hid (RepS wz w1.drew.heap.size (.agg #[.int .i64 0,.int .i64 (b.mails.length:Nat),.slice y0 k0 j0,.int .i64 b.valid,.int .i64 b.next,.int .i64 b.seq,.slice none 0 0,.slice none 0 0,.int .i64 b.lost,.slice none 0 0]) ⟨0,(b.mails.length:Nat),⟨b.name,b.valid,b.next,b.seq,[],[],b.lost⟩,[]⟩):=⟨fun w' hs' hk'=>⟨_,_,_,_,rfl,⟨_,_,_,rfl,(hR.frame fun k h1 h2=>hk' k h1 h2).bs,Rd.nil _,Rd.nil _,HINT.out⟩,Rd.nil _,i64c0,⟨by show (-9223372036854775808:Int)≤(b.mails.length:Int);omega,by show (b.mails.length:Int)≤9223372036854775807;omega⟩⟩,_,_,_,_,_,_,_,_,_,_,rfl,.inl ⟨rfl,rfl⟩⟩
 clear hO4 hX4 hG4 hB4 hR hG4'
 refine hK.out _ _ (⟨(Bz.cell (p:=⟨g,_,none⟩) hgd).trans c0,(Bz.cell (p:=⟨g,_,none⟩) hgd).trans c1,(Bz.cell (p:=⟨g,_,none⟩) hgd).trans c2,(Bz.cell (p:=⟨g,_,none⟩) hgd).trans c3,(Bz.cell (p:=⟨g,_,none⟩) hgd).trans c4,(Bz.cell (p:=⟨g,_,none⟩) hgd).trans c6⟩) (fun hHeld=>?_)
 clear hK K
 refine tks 27 27 151 hTb hHeld ?_
 refine tks 28 28 152 hTb hHeld ?_
 refine wpS_next (S':=fun w'=>True) 29 30 hTb (by decide) (trivial) (fun hHeld=>?_)
 refine cls 29 29 hTb (by decide) rfl rfl (fun K hK=>?_)
 obtain ⟨r0,r1,r2,r3,r4,r5,r6,r7,r8,r9⟩:=bx10 HKz.out
 have fz:∀ i,wz.frozen? ⟨w.heap.size+1,i,none⟩=false:=fun i=>frozen_of_row wz _ i _ _ HKz.out
 have hlr:=lt_of_heap HKz.out
 have HF:Hid _:=rep_putA (w:=w) (ga:=ga) (S:=S0) (S':=S0) HKz.out (by omega) (TurnsA.below HXz.out) a (HP.out _ HXz.out) hlga (fun h=>by have:=HSL.out _ h;omega) _ (.int .i64 0) (.int .i64 (b.mails.length:Nat)) (.slice y0 k0 j0) (.int .i64 b.valid) (.int .i64 b.next) (.int .i64 b.seq) (.slice none 0 0) (.slice none 0 0) (.int .i64 b.lost) (.slice none 0 0) HRS.out (by show w.heap.size+1 < w1.heap.size;omega)
 go_simp
 refine hK.out _ _ (trivial) (fun hHeld=>?_)
 clear hK K
 refine wpS_end hTb ?_
 go_wp2
 obtain ⟨f0,f1,f2,f3,f4,f5,f6,f7,f8,f9⟩:=bx10 HF.out.1
 refine bodyPost_ret (v:=.agg #[.int .i64 0,.int .i64 (b.mails.length:Nat),.slice y0 k0 j0,.int .i64 b.valid,.int .i64 b.next,.int .i64 b.seq,.slice none 0 0,.slice none 0 0,.int .i64 b.lost,.slice none 0 0]) (by simp [results,Tryd.results50,go_sem,f0,f1,f2,f3,f4,f5,f6,f7,f8,f9]) rfl ⟨_,S0,rfl,HF.out.2.2.2,TurnsA.wide HF.out.2.1 HSUB.out,HF.out.2.2.1,fun k h=>.inl (HSUB.out k h)⟩


end Go.Proofs.YtnlhkgoppjejeaaDoor
