/- The proof's texts, part 38. -/
import Derived.Test.YtnlhkgoppjejeaaDoorPart36
import Derived.Test.YtnlhkgoppjejeaaDoorPart37

/- What l3do of package spec does: create, no box, append, store, expunge, copy. -/
namespace Go.Proofs.YtnlhkgoppjejeaaDoor
open Go.RowKit
set_option maxRecDepth 100000
set_option linter.unusedVariables false
set_option linter.unusedSimpArgs false

theorem storeX_code (b:BoxD) (uid mode fl si:Int):∃ c n,(storeX b uid mode fl si).2=codeR c n:=by
 unfold storeX
 split
 ·exact ⟨_,_,rfl⟩
 ·split
  ·exact ⟨_,_,rfl⟩
  ·split
   ·exact ⟨_,_,rfl⟩
   ·split
    ·exact ⟨_,_,rfl⟩
    ·split
     ·exact ⟨_,_,rfl⟩
     ·exact ⟨_,_,rfl⟩
theorem expungeX_code (b:BoxD):∃ c n,(expungeX b).2=codeR c n:=by
 unfold expungeX
 split
 ·exact ⟨_,_,rfl⟩
 ·split
  ·exact ⟨_,_,rfl⟩
  ·exact ⟨_,_,rfl⟩

set_option maxRecDepth 100000 in
set_option maxHeartbeats 8000000 in
theorem l3do_create (ga:Nat) (a:AccD) (S:Nat→Prop) (uid mode fl si:Int) (bx tt tx:List Int) (x0 x1 x2:Option Addr) (n0 n1 n2 m0 m1 m2:Nat) (w:World) (hp:AccP w S ga a)
  (hs0:∀ w',w.heap.size≤w'.heap.size→StayT w w' 5→Bs w' (.slice x0 n0 m0) bx) (hs1:∀ w',w.heap.size≤w'.heap.size→StayT w w' 5→Bs w' (.slice x1 n1 m1) tt) (hs2:∀ w',w.heap.size≤w'.heap.size→StayT w w' 5→Bs w' (.slice x2 n2 m2) tx)
  (hi64:I64 uid∧I64 mode∧I64 fl∧I64 si) (hcl:bx.length≤2000000∧tx.length≤2000000) (hsz:∀ x ∈ a.boxes,szX x≤900000) (hbl:a.boxes.length≤2000000) (res:AccD × RepD) (hres:createA a bx=res) :
  Calls Tryd.prog 50 #[.pointer (some ⟨ga,0,none⟩),.agg #[.int .i64 0,.slice x0 n0 m0,.slice x1 n1 m1,.int .i64 uid,.int .i64 mode,.int .i64 fl,.int .i64 si,.slice x2 n2 m2]] w (DoneA w S ga res):=by
 obtain ⟨S0,hS0e⟩:∃ S0:Nat→Prop,S0=fun k=>S k∧k < w.heap.size:=⟨_,rfl⟩
 have HSUB:Hid (∀ k,S0 k→S k):=by subst hS0e;exact fun k h=>h.1
 have HSL:Hid (∀ k,S0 k→k < w.heap.size):=by subst hS0e;exact fun k h=>h.2
 have HP:Hid (∀ w',Below w.heap.size w w'→AccP w' S0 ga a):=by subst hS0e;exact fun w' h=>hp.cut.below h
 clear hS0e
 have hlga:=hp.lt
 have HQ0:Hid (∀ w',w.heap.size≤w'.heap.size→StayT w w' 5→Bs w' (.slice x0 n0 m0) bx):=hs0
 have HQ1:Hid (∀ w',w.heap.size≤w'.heap.size→StayT w w' 5→Bs w' (.slice x1 n1 m1) tt):=hs1
 have HQ2:Hid (∀ w',w.heap.size≤w'.heap.size→StayT w w' 5→Bs w' (.slice x2 n2 m2) tx):=hs2
 have HI:Hid (I64 uid∧I64 mode∧I64 fl∧I64 si):=hi64
 have HSZ:Hid (∀ x ∈ a.boxes,szX x≤900000):=hsz
 obtain ⟨HB,HKC,HKR,hsW⟩:=heads2 w (.cells #[.int .i64 0,.slice x0 n0 m0,.slice x1 n1 m1,.int .i64 uid,.int .i64 mode,.int .i64 fl,.int .i64 si,.slice x2 n2 m2] 80) (.cells #[.int .i64 0,.int .i64 0,.slice none 0 0,.int .i64 0,.int .i64 0,.int .i64 0,.slice none 0 0,.slice none 0 0,.int .i64 0,.slice none 0 0] 84)
 clear hs0 hs1 hs2 hp hi64 hsz
 go_enter Tryd.func50,Tryd.ntmps50
 go_upto_region 1 with fail
 generalize ((w.alloc (.cells #[.int .i64 0,.slice x0 n0 m0,.slice x1 n1 m1,.int .i64 uid,.int .i64 mode,.int .i64 fl,.int .i64 si,.slice x2 n2 m2] 80)).alloc (.cells #[.int .i64 0,.int .i64 0,.slice none 0 0,.int .i64 0,.int .i64 0,.int .i64 0,.slice none 0 0,.slice none 0 0,.int .i64 0,.slice none 0 0] 84))=W at HB HKC HKR hsW ⊢
 have q0:W.cell? ⟨w.heap.size,0,none⟩=some (.int .i64 0):=cell_of_row W w.heap.size 0 _ _ (0,0) HKC.out
 have q1:W.cell? ⟨w.heap.size,1,none⟩=some (.slice x0 n0 m0):=cell_of_row W w.heap.size 1 _ _ (0,0) HKC.out
 have hlc:w.heap.size < W.heap.size:=by omega
 go_wp2_with fail
 have hc:=l3create_r ga a S0 (.slice x0 n0 m0) bx W (HP.out W HB.out) (fun w' h1 h2=>HQ0.out w' (Nat.le_trans HB.out.size h1) ((stay_below HB.out).trans h2)) hcl.1 hbl
 rw [hres] at hc
 refine hc.mono ?_
 rintro e w1 ⟨u,S1,rfl,hrep,hT,hA,hS1⟩
 clear q0 q1 hc
 obtain ⟨y0,k0,j0,y1,j1,y2,j2,y3,j3,hU⟩:=hrep.v.form
 subst hU
 have HT1:Hid (TurnsA w w1 S0 ga):=(TurnsA.below (S:=S0) HB.out).trans hT (fun k h=>.inl h)
 have HKR1:Hid (w1.heap[w.heap.size+1]?=some (.cells #[.int .i64 0,.int .i64 0,.slice none 0 0,.int .i64 0,.int .i64 0,.int .i64 0,.slice none 0 0,.slice none 0 0,.int .i64 0,.slice none 0 0] 84 (0,0))):=(hT.2.1 _ (by omega) (by omega) (fun h=>by have:=HSL.out _ h;omega)).trans HKR.out
 obtain ⟨r0,r1,r2,r3,r4,r5,r6,r7,r8,r9⟩:=bx10 HKR1.out
 have fz:∀ i,w1.frozen? ⟨w.heap.size+1,i,none⟩=false:=fun i=>frozen_of_row w1 _ i _ _ HKR1.out
 have hlr:=lt_of_heap HKR1.out
 have HF:Hid _:=rep_putA (w:=w) HKR1.out (by omega) HT1.out _ _ hA hlga (fun h=>(hS1 _ h).elim (fun h=>by have:=HSL.out _ h;omega) (fun h=>by omega)) _ _ _ _ _ _ _ _ _ _ _ hrep (by omega)
 have HSE:Hid (∀ k,S1 k→S k∨w.heap.size≤k):=fun k h=>(hS1 k h).elim (fun h=>.inl (HSUB.out k h)) (fun h=>.inr (by omega))
 clear hrep hT hA hS1
 go_wp2
 obtain ⟨f0,f1,f2,f3,f4,f5,f6,f7,f8,f9⟩:=bx10 HF.out.1
 refine bodyPost_ret (v:=.agg #[_,_,_,_,_,_,_,_,_,_]) (by simp [results,Tryd.results50,go_sem,f0,f1,f2,f3,f4,f5,f6,f7,f8,f9]) rfl ⟨_,_,rfl,HF.out.2.2.2,TurnsA.wide HF.out.2.1 HSUB.out,HF.out.2.2.1,HSE.out⟩

set_option maxRecDepth 100000 in
set_option maxHeartbeats 8000000 in
theorem l3do_none (ga:Nat) (a:AccD) (S:Nat→Prop) (kd uid mode fl si:Int) (bx tt tx:List Int) (x0 x1 x2:Option Addr) (n0 n1 n2 m0 m1 m2:Nat) (w:World) (hp:AccP w S ga a)
  (hs0:∀ w',w.heap.size≤w'.heap.size→StayT w w' 5→Bs w' (.slice x0 n0 m0) bx) (hs1:∀ w',w.heap.size≤w'.heap.size→StayT w w' 5→Bs w' (.slice x1 n1 m1) tt) (hs2:∀ w',w.heap.size≤w'.heap.size→StayT w w' 5→Bs w' (.slice x2 n2 m2) tx)
  (hi64:I64 uid∧I64 mode∧I64 fl∧I64 si) (hcl:bx.length≤2000000∧tx.length≤2000000) (hsz:∀ x ∈ a.boxes,szX x≤900000) (hbl:a.boxes.length≤2000000) (h0:kd≠0) (h9:kd≠9) (hf:firstI (fun x:BoxD=>decide (x.name=bx)) a.boxes = -1) :
  Calls Tryd.prog 50 #[.pointer (some ⟨ga,0,none⟩),.agg #[.int .i64 kd,.slice x0 n0 m0,.slice x1 n1 m1,.int .i64 uid,.int .i64 mode,.int .i64 fl,.int .i64 si,.slice x2 n2 m2]] w (DoneA w S ga (a,codeR 1 0)):=by
 obtain ⟨S0,hS0e⟩:∃ S0:Nat→Prop,S0=fun k=>S k∧k < w.heap.size:=⟨_,rfl⟩
 have HSUB:Hid (∀ k,S0 k→S k):=by subst hS0e;exact fun k h=>h.1
 have HSL:Hid (∀ k,S0 k→k < w.heap.size):=by subst hS0e;exact fun k h=>h.2
 have HP:Hid (∀ w',Below w.heap.size w w'→AccP w' S0 ga a):=by subst hS0e;exact fun w' h=>hp.cut.below h
 clear hS0e
 have hlga:=hp.lt
 have HQ0:Hid (∀ w',w.heap.size≤w'.heap.size→StayT w w' 5→Bs w' (.slice x0 n0 m0) bx):=hs0
 have HQ1:Hid (∀ w',w.heap.size≤w'.heap.size→StayT w w' 5→Bs w' (.slice x1 n1 m1) tt):=hs1
 have HQ2:Hid (∀ w',w.heap.size≤w'.heap.size→StayT w w' 5→Bs w' (.slice x2 n2 m2) tx):=hs2
 have HI:Hid (I64 uid∧I64 mode∧I64 fl∧I64 si):=hi64
 have HSZ:Hid (∀ x ∈ a.boxes,szX x≤900000):=hsz
 obtain ⟨HB,HKC,HKR,hsW⟩:=heads2 w (.cells #[.int .i64 kd,.slice x0 n0 m0,.slice x1 n1 m1,.int .i64 uid,.int .i64 mode,.int .i64 fl,.int .i64 si,.slice x2 n2 m2] 80) (.cells #[.int .i64 0,.int .i64 0,.slice none 0 0,.int .i64 0,.int .i64 0,.int .i64 0,.slice none 0 0,.slice none 0 0,.int .i64 0,.slice none 0 0] 84)
 clear hs0 hs1 hs2 hp hi64 hsz
 go_enter Tryd.func50,Tryd.ntmps50
 go_upto_region 1 with fail
 generalize ((w.alloc (.cells #[.int .i64 kd,.slice x0 n0 m0,.slice x1 n1 m1,.int .i64 uid,.int .i64 mode,.int .i64 fl,.int .i64 si,.slice x2 n2 m2] 80)).alloc (.cells #[.int .i64 0,.int .i64 0,.slice none 0 0,.int .i64 0,.int .i64 0,.int .i64 0,.slice none 0 0,.slice none 0 0,.int .i64 0,.slice none 0 0] 84))=W at HB HKC HKR hsW ⊢
 have h0b:(kd == 0)=false:=by simp [h0]
 have h9b:(kd == 9)=false:=by simp [h9]
 have q0:W.cell? ⟨w.heap.size,0,none⟩=some (.int .i64 kd):=cell_of_row W w.heap.size 0 _ _ (0,0) HKC.out
 have hlc:w.heap.size < W.heap.size:=by omega
 go_upto_region 11 with fail
 clear q0
 have DR:Below W.heap.size W W.drew:=(Below.refl _ _).drew
 have HAD:Hid (AccP W.drew S0 ga a):=HP.out W.drew (Below.step HB.out DR)
 obtain ⟨v9,u9,ca0,ca1,ca2,hbq,hav⟩:=HAD.out.cells
 obtain ⟨e0,e1,rfl,-⟩:=hbq.v.form
 have HAV:Hid _:=hav
 have HNB:Hid (Bs W.drew (.slice x0 n0 m0) bx):=HQ0.out _ (Nat.le_trans HB.out.size DR.size) (stay_below (Below.step HB.out DR))
 have hlga1:ga < W.drew.heap.size:=by show ga < W.heap.size;omega
 have hlc1:w.heap.size < W.drew.heap.size:=hlc
 have HS:Hid (∀ w',Below W.drew.heap.size W.drew w'→w'.cell? ⟨ga,0,none⟩=some (.int .i64 a.valid)∧w'.cell? ⟨ga,1,none⟩=some (.slice e0 a.boxes.length e1)∧w'.cell? ⟨ga,2,none⟩=some u9∧w'.cell? ⟨w.heap.size,1,none⟩=some (.slice x0 n0 m0)):=fun w' h=>⟨(h.cell (p:=⟨ga,0,none⟩) hlga1).trans ca0,(h.cell (p:=⟨ga,1,none⟩) hlga1).trans ca1,(h.cell (p:=⟨ga,2,none⟩) hlga1).trans ca2,cell_of_row w' w.heap.size 1 _ _ (0,0) (box_below (Below.step DR h) HKC.out)⟩
 clear hbq hav ca0 ca1 ca2
 go_region_held3 (fun w'=>w'.cell? ⟨ga,0,none⟩=some (.int .i64 a.valid)∧w'.cell? ⟨ga,1,none⟩=some (.slice e0 a.boxes.length e1)∧w'.cell? ⟨ga,2,none⟩=some u9∧w'.cell? ⟨w.heap.size,1,none⟩=some (.slice x0 n0 m0))
  (first | exact HS.out _ (Below.refl _ _) | exact HS.out _ B1 | go_keep)
  ((go_at_call 68;refine (l3box_any _ _ a bx _ HAV.out HNB.out hbl).mono ?_;rintro e w1 ⟨rfl,B1⟩))
 have HB1:Hid (Below W.heap.size W w1):=Below.step DR B1
 have HKC1:Hid _:=box_below HB1.out HKC.out
 have HKR1:Hid _:=box_below HB1.out HKR.out
 have hw1:W.heap.size≤w1.heap.size:=HB1.out.size
 have HX1:Hid (Below w.heap.size w w1):=Below.step HB.out HB1.out
 have HE1:Hid (w1.cell? ⟨ga,1,none⟩=some (.slice e0 a.boxes.length e1)):=(HS.out w1 B1).2.1
 clear B1 HAV HNB DR hlga1 hlc1 HS HAD
 have hlga1:ga < w1.heap.size:=by omega
 obtain ⟨r0,r1,r2,r3,r4,r5,r6,r7,r8,r9⟩:=bx10 HKR1.out
 have fz:∀ i,w1.frozen? ⟨w.heap.size+1,i,none⟩=false:=fun i=>frozen_of_row w1 _ i _ _ HKR1.out
 have hlr:w.heap.size+1 < w1.heap.size:=lt_of_heap HKR1.out
 have HF:Hid _:=rep_fin (w:=w) HKR1.out (by omega) (HX1.out) 1 0
 go_wp2
 obtain ⟨f0,f1,f2,f3,f4,f5,f6,f7,f8,f9⟩:=bx10 HF.out.1
 refine bodyPost_ret (v:=.agg #[.int .i64 1,.int .i64 0,.slice none 0 0,.int .i64 0,.int .i64 0,.int .i64 0,.slice none 0 0,.slice none 0 0,.int .i64 0,.slice none 0 0]) (by simp [results,Tryd.results50,go_sem,f0,f1,f2,f3,f4,f5,f6,f7,f8,f9]) rfl ⟨_,S0,rfl,reps_code ⟨_,_,_,_,rfl,⟨_,_,_,rfl,bs_nil' _,Rd.nil _,Rd.nil _,i64c0,i64c0,i64c0,i64c0⟩,⟨rfl,rfl⟩,(show I64 (1:Int) from ⟨by decide,by decide⟩),i64c0⟩,TurnsA.below HF.out.2,HP.out _ HF.out.2,fun k h=>.inl (HSUB.out k h)⟩

set_option maxRecDepth 100000 in
set_option maxHeartbeats 8000000 in
theorem l3do_appFull (ga:Nat) (a:AccD) (S:Nat→Prop) (uid mode fl si:Int) (bx tt tx:List Int) (x0 x1 x2:Option Addr) (n0 n1 n2 m0 m1 m2:Nat) (w:World) (hp:AccP w S ga a)
  (hs0:∀ w',w.heap.size≤w'.heap.size→StayT w w' 5→Bs w' (.slice x0 n0 m0) bx) (hs1:∀ w',w.heap.size≤w'.heap.size→StayT w w' 5→Bs w' (.slice x1 n1 m1) tt) (hs2:∀ w',w.heap.size≤w'.heap.size→StayT w w' 5→Bs w' (.slice x2 n2 m2) tx)
  (hi64:I64 uid∧I64 mode∧I64 fl∧I64 si) (hcl:bx.length≤2000000∧tx.length≤2000000) (hsz:∀ x ∈ a.boxes,szX x≤900000) (hbl:a.boxes.length≤2000000) (k:Nat) (b:BoxD) (hb:a.boxes[k]?=some b) (hf:firstI (fun x:BoxD=>decide (x.name=bx)) a.boxes=(k:Int)) (hroom:roomB b 1=false) :
  Calls Tryd.prog 50 #[.pointer (some ⟨ga,0,none⟩),.agg #[.int .i64 2,.slice x0 n0 m0,.slice x1 n1 m1,.int .i64 uid,.int .i64 mode,.int .i64 fl,.int .i64 si,.slice x2 n2 m2]] w (DoneA w S ga (a,codeR 3 0)):=by
 obtain ⟨S0,hS0e⟩:∃ S0:Nat→Prop,S0=fun k=>S k∧k < w.heap.size:=⟨_,rfl⟩
 have HSUB:Hid (∀ k,S0 k→S k):=by subst hS0e;exact fun k h=>h.1
 have HSL:Hid (∀ k,S0 k→k < w.heap.size):=by subst hS0e;exact fun k h=>h.2
 have HP:Hid (∀ w',Below w.heap.size w w'→AccP w' S0 ga a):=by subst hS0e;exact fun w' h=>hp.cut.below h
 clear hS0e
 have hlga:=hp.lt
 have HQ0:Hid (∀ w',w.heap.size≤w'.heap.size→StayT w w' 5→Bs w' (.slice x0 n0 m0) bx):=hs0
 have HQ1:Hid (∀ w',w.heap.size≤w'.heap.size→StayT w w' 5→Bs w' (.slice x1 n1 m1) tt):=hs1
 have HQ2:Hid (∀ w',w.heap.size≤w'.heap.size→StayT w w' 5→Bs w' (.slice x2 n2 m2) tx):=hs2
 have HI:Hid (I64 uid∧I64 mode∧I64 fl∧I64 si):=hi64
 have HSZ:Hid (∀ x ∈ a.boxes,szX x≤900000):=hsz
 obtain ⟨HB,HKC,HKR,hsW⟩:=heads2 w (.cells #[.int .i64 2,.slice x0 n0 m0,.slice x1 n1 m1,.int .i64 uid,.int .i64 mode,.int .i64 fl,.int .i64 si,.slice x2 n2 m2] 80) (.cells #[.int .i64 0,.int .i64 0,.slice none 0 0,.int .i64 0,.int .i64 0,.int .i64 0,.slice none 0 0,.slice none 0 0,.int .i64 0,.slice none 0 0] 84)
 clear hs0 hs1 hs2 hp hi64 hsz
 go_enter Tryd.func50,Tryd.ntmps50
 go_upto_region 1 with fail
 generalize ((w.alloc (.cells #[.int .i64 2,.slice x0 n0 m0,.slice x1 n1 m1,.int .i64 uid,.int .i64 mode,.int .i64 fl,.int .i64 si,.slice x2 n2 m2] 80)).alloc (.cells #[.int .i64 0,.int .i64 0,.slice none 0 0,.int .i64 0,.int .i64 0,.int .i64 0,.slice none 0 0,.slice none 0 0,.int .i64 0,.slice none 0 0] 84))=W at HB HKC HKR hsW ⊢
 have q0:W.cell? ⟨w.heap.size,0,none⟩=some (.int .i64 2):=cell_of_row W w.heap.size 0 _ _ (0,0) HKC.out
 have hlc:w.heap.size < W.heap.size:=by omega
 go_upto_region 11 with fail
 clear q0
 have DR:Below W.heap.size W W.drew:=(Below.refl _ _).drew
 have HAD:Hid (AccP W.drew S0 ga a):=HP.out W.drew (Below.step HB.out DR)
 obtain ⟨v9,u9,ca0,ca1,ca2,hbq,hav⟩:=HAD.out.cells
 obtain ⟨e0,e1,rfl,-⟩:=hbq.v.form
 have HAV:Hid _:=hav
 have HNB:Hid (Bs W.drew (.slice x0 n0 m0) bx):=HQ0.out _ (Nat.le_trans HB.out.size DR.size) (stay_below (Below.step HB.out DR))
 have hlga1:ga < W.drew.heap.size:=by show ga < W.heap.size;omega
 have hlc1:w.heap.size < W.drew.heap.size:=hlc
 have HS:Hid (∀ w',Below W.drew.heap.size W.drew w'→w'.cell? ⟨ga,0,none⟩=some (.int .i64 a.valid)∧w'.cell? ⟨ga,1,none⟩=some (.slice e0 a.boxes.length e1)∧w'.cell? ⟨ga,2,none⟩=some u9∧w'.cell? ⟨w.heap.size,1,none⟩=some (.slice x0 n0 m0)):=fun w' h=>⟨(h.cell (p:=⟨ga,0,none⟩) hlga1).trans ca0,(h.cell (p:=⟨ga,1,none⟩) hlga1).trans ca1,(h.cell (p:=⟨ga,2,none⟩) hlga1).trans ca2,cell_of_row w' w.heap.size 1 _ _ (0,0) (box_below (Below.step DR h) HKC.out)⟩
 clear hbq hav ca0 ca1 ca2
 go_region_held3 (fun w'=>w'.cell? ⟨ga,0,none⟩=some (.int .i64 a.valid)∧w'.cell? ⟨ga,1,none⟩=some (.slice e0 a.boxes.length e1)∧w'.cell? ⟨ga,2,none⟩=some u9∧w'.cell? ⟨w.heap.size,1,none⟩=some (.slice x0 n0 m0))
  (first | exact HS.out _ (Below.refl _ _) | exact HS.out _ B1 | go_keep)
  ((go_at_call 68;refine (l3box_any _ _ a bx _ HAV.out HNB.out hbl).mono ?_;rintro e w1 ⟨rfl,B1⟩))
 have HB1:Hid (Below W.heap.size W w1):=Below.step DR B1
 have HKC1:Hid _:=box_below HB1.out HKC.out
 have HKR1:Hid _:=box_below HB1.out HKR.out
 have hw1:W.heap.size≤w1.heap.size:=HB1.out.size
 have HX1:Hid (Below w.heap.size w w1):=Below.step HB.out HB1.out
 have HE1:Hid (w1.cell? ⟨ga,1,none⟩=some (.slice e0 a.boxes.length e1)):=(HS.out w1 B1).2.1
 clear B1 HAV HNB DR hlga1 hlc1 HS HAD
 have HA1:Hid (AccP w1 S0 ga a):=HP.out w1 HX1.out
 obtain ⟨g,cap,Sb,cb,hSg,hpb,hSb,hback⟩:=HA1.out.at hb
 have e9:=Option.some.inj (cb.symm.trans HE1.out)
 simp only [Value.slice.injEq,true_and] at e9
 obtain ⟨rfl,rfl⟩:=e9
 have HBK:Hid _:=hback
 have HPB:Hid (BoxP w1 Sb g (k * 7) b):=hpb
 have HSb:Hid (∀ k,Sb k→S0 k):=fun k h=>(hSb k h).1
 have hkl:k < a.boxes.length:=(List.getElem?_eq_some_iff.1 hb).1
 have hki:(k:Int) < (a.boxes.length:Int):=by omega
 have hlg1:g < w1.heap.size:=hpb.lt
 have hga1:ga < w1.heap.size:=by omega
 have hlc1:w.heap.size < w1.heap.size:=by omega
 have hgw:g < w.heap.size:=HSL.out g hSg
 have hsx:szX b≤900000:=HSZ.out b (List.mem_of_getElem? hb)
 have hml:b.mails.length≤900000:=by have:=szM_len b.mails;unfold szX at hsx;omega
 have hgl:b.gones.length≤900000:=by unfold szX at hsx;omega
 have HC1:Hid (w1.cell? ⟨ga,1,none⟩=some (.slice (some ⟨g,0,none⟩) a.boxes.length cap)):=cb
 clear hpb hback hSb
 have q0:w1.cell? ⟨w.heap.size,0,none⟩=some (.int .i64 2):=cell_of_row w1 w.heap.size 0 _ _ (0,0) HKC1.out
 obtain ⟨u0,u1,u2,h0,h1,h2,hint,c0,c1,c2,c3,c4,c5,c6⟩:=HPB.out.cells
 obtain ⟨a0,q0',z0,rfl⟩:=h0.bs.form3
 obtain ⟨a1,z1,rfl,-⟩:=h1.v.form
 obtain ⟨a2,z2,rfl,-⟩:=h2.1.form
 have HBV:Hid (BoxV w1 (.agg #[.slice a0 q0' z0,.int .i64 b.valid,.int .i64 b.next,.int .i64 b.seq,.slice a1 b.mails.length z1,.slice a2 b.gones.length z2,.int .i64 b.lost]) b):=⟨_,_,_,rfl,h0.bs,h1.v,h2.1,hint⟩
 have HN64:Hid (I64 b.next):=hint.2.1
 clear h0 h1 h2 hint
 go_wp2_with fail
 refine (l3room_any _ b 1 w1 HBV.out (by decide) (by decide) (by omega)).mono ?_
 rintro e w2 ⟨rfl,B2⟩
 have HX2:Hid (Below w.heap.size w w2):=Below.step HX1.out B2
 have HKR2:Hid _:=box_below B2 HKR1.out
 have HKC2:Hid _:=box_below B2 HKC1.out
 have HB2:Hid (Below w1.heap.size w1 w2):=B2
 have hw2:w1.heap.size≤w2.heap.size:=B2.size
 clear B2 c0 c1 c2 c3 c4 c5 c6 q0 HBV cb
 rw [hroom]
 obtain ⟨r0,r1,r2,r3,r4,r5,r6,r7,r8,r9⟩:=bx10 HKR2.out
 have fz:∀ i,w2.frozen? ⟨w.heap.size+1,i,none⟩=false:=fun i=>frozen_of_row w2 _ i _ _ HKR2.out
 have hlr:w.heap.size+1 < w2.heap.size:=lt_of_heap HKR2.out
 have HF:Hid _:=rep_fin (w:=w) HKR2.out (by omega) (HX2.out) 3 0
 go_wp2
 obtain ⟨f0,f1,f2,f3,f4,f5,f6,f7,f8,f9⟩:=bx10 HF.out.1
 refine bodyPost_ret (v:=.agg #[.int .i64 3,.int .i64 0,.slice none 0 0,.int .i64 0,.int .i64 0,.int .i64 0,.slice none 0 0,.slice none 0 0,.int .i64 0,.slice none 0 0]) (by simp [results,Tryd.results50,go_sem,f0,f1,f2,f3,f4,f5,f6,f7,f8,f9]) rfl ⟨_,S0,rfl,reps_code ⟨_,_,_,_,rfl,⟨_,_,_,rfl,bs_nil' _,Rd.nil _,Rd.nil _,i64c0,i64c0,i64c0,i64c0⟩,⟨rfl,rfl⟩,(show I64 (3:Int) from ⟨by decide,by decide⟩),i64c0⟩,TurnsA.below HF.out.2,HP.out _ HF.out.2,fun k h=>.inl (HSUB.out k h)⟩

set_option maxRecDepth 100000 in
set_option maxHeartbeats 8000000 in
theorem l3do_app (ga:Nat) (a:AccD) (S:Nat→Prop) (uid mode fl si:Int) (bx tt tx:List Int) (x0 x1 x2:Option Addr) (n0 n1 n2 m0 m1 m2:Nat) (w:World) (hp:AccP w S ga a)
  (hs0:∀ w',w.heap.size≤w'.heap.size→StayT w w' 5→Bs w' (.slice x0 n0 m0) bx) (hs1:∀ w',w.heap.size≤w'.heap.size→StayT w w' 5→Bs w' (.slice x1 n1 m1) tt) (hs2:∀ w',w.heap.size≤w'.heap.size→StayT w w' 5→Bs w' (.slice x2 n2 m2) tx)
  (hi64:I64 uid∧I64 mode∧I64 fl∧I64 si) (hcl:bx.length≤2000000∧tx.length≤2000000) (hsz:∀ x ∈ a.boxes,szX x≤900000) (hbl:a.boxes.length≤2000000) (k:Nat) (b:BoxD) (hb:a.boxes[k]?=some b) (hf:firstI (fun x:BoxD=>decide (x.name=bx)) a.boxes=(k:Int)) (hroom:roomB b 1=true) :
  Calls Tryd.prog 50 #[.pointer (some ⟨ga,0,none⟩),.agg #[.int .i64 2,.slice x0 n0 m0,.slice x1 n1 m1,.int .i64 uid,.int .i64 mode,.int .i64 fl,.int .i64 si,.slice x2 n2 m2]] w (DoneA w S ga (setB a k (addX b fl tx),codeR 0 b.next)):=by
 obtain ⟨S0,hS0e⟩:∃ S0:Nat→Prop,S0=fun k=>S k∧k < w.heap.size:=⟨_,rfl⟩
 have HSUB:Hid (∀ k,S0 k→S k):=by subst hS0e;exact fun k h=>h.1
 have HSL:Hid (∀ k,S0 k→k < w.heap.size):=by subst hS0e;exact fun k h=>h.2
 have HP:Hid (∀ w',Below w.heap.size w w'→AccP w' S0 ga a):=by subst hS0e;exact fun w' h=>hp.cut.below h
 clear hS0e
 have hlga:=hp.lt
 have HQ0:Hid (∀ w',w.heap.size≤w'.heap.size→StayT w w' 5→Bs w' (.slice x0 n0 m0) bx):=hs0
 have HQ1:Hid (∀ w',w.heap.size≤w'.heap.size→StayT w w' 5→Bs w' (.slice x1 n1 m1) tt):=hs1
 have HQ2:Hid (∀ w',w.heap.size≤w'.heap.size→StayT w w' 5→Bs w' (.slice x2 n2 m2) tx):=hs2
 have HI:Hid (I64 uid∧I64 mode∧I64 fl∧I64 si):=hi64
 have HSZ:Hid (∀ x ∈ a.boxes,szX x≤900000):=hsz
 obtain ⟨HB,HKC,HKR,hsW⟩:=heads2 w (.cells #[.int .i64 2,.slice x0 n0 m0,.slice x1 n1 m1,.int .i64 uid,.int .i64 mode,.int .i64 fl,.int .i64 si,.slice x2 n2 m2] 80) (.cells #[.int .i64 0,.int .i64 0,.slice none 0 0,.int .i64 0,.int .i64 0,.int .i64 0,.slice none 0 0,.slice none 0 0,.int .i64 0,.slice none 0 0] 84)
 clear hs0 hs1 hs2 hp hi64 hsz
 go_enter Tryd.func50,Tryd.ntmps50
 go_upto_region 1 with fail
 generalize ((w.alloc (.cells #[.int .i64 2,.slice x0 n0 m0,.slice x1 n1 m1,.int .i64 uid,.int .i64 mode,.int .i64 fl,.int .i64 si,.slice x2 n2 m2] 80)).alloc (.cells #[.int .i64 0,.int .i64 0,.slice none 0 0,.int .i64 0,.int .i64 0,.int .i64 0,.slice none 0 0,.slice none 0 0,.int .i64 0,.slice none 0 0] 84))=W at HB HKC HKR hsW ⊢
 have q0:W.cell? ⟨w.heap.size,0,none⟩=some (.int .i64 2):=cell_of_row W w.heap.size 0 _ _ (0,0) HKC.out
 have hlc:w.heap.size < W.heap.size:=by omega
 go_upto_region 11 with fail
 clear q0
 have DR:Below W.heap.size W W.drew:=(Below.refl _ _).drew
 have HAD:Hid (AccP W.drew S0 ga a):=HP.out W.drew (Below.step HB.out DR)
 obtain ⟨v9,u9,ca0,ca1,ca2,hbq,hav⟩:=HAD.out.cells
 obtain ⟨e0,e1,rfl,-⟩:=hbq.v.form
 have HAV:Hid _:=hav
 have HNB:Hid (Bs W.drew (.slice x0 n0 m0) bx):=HQ0.out _ (Nat.le_trans HB.out.size DR.size) (stay_below (Below.step HB.out DR))
 have hlga1:ga < W.drew.heap.size:=by show ga < W.heap.size;omega
 have hlc1:w.heap.size < W.drew.heap.size:=hlc
 have HS:Hid (∀ w',Below W.drew.heap.size W.drew w'→w'.cell? ⟨ga,0,none⟩=some (.int .i64 a.valid)∧w'.cell? ⟨ga,1,none⟩=some (.slice e0 a.boxes.length e1)∧w'.cell? ⟨ga,2,none⟩=some u9∧w'.cell? ⟨w.heap.size,1,none⟩=some (.slice x0 n0 m0)):=fun w' h=>⟨(h.cell (p:=⟨ga,0,none⟩) hlga1).trans ca0,(h.cell (p:=⟨ga,1,none⟩) hlga1).trans ca1,(h.cell (p:=⟨ga,2,none⟩) hlga1).trans ca2,cell_of_row w' w.heap.size 1 _ _ (0,0) (box_below (Below.step DR h) HKC.out)⟩
 clear hbq hav ca0 ca1 ca2
 go_region_held3 (fun w'=>w'.cell? ⟨ga,0,none⟩=some (.int .i64 a.valid)∧w'.cell? ⟨ga,1,none⟩=some (.slice e0 a.boxes.length e1)∧w'.cell? ⟨ga,2,none⟩=some u9∧w'.cell? ⟨w.heap.size,1,none⟩=some (.slice x0 n0 m0))
  (first | exact HS.out _ (Below.refl _ _) | exact HS.out _ B1 | go_keep)
  ((go_at_call 68;refine (l3box_any _ _ a bx _ HAV.out HNB.out hbl).mono ?_;rintro e w1 ⟨rfl,B1⟩))
 have HB1:Hid (Below W.heap.size W w1):=Below.step DR B1
 have HKC1:Hid _:=box_below HB1.out HKC.out
 have HKR1:Hid _:=box_below HB1.out HKR.out
 have hw1:W.heap.size≤w1.heap.size:=HB1.out.size
 have HX1:Hid (Below w.heap.size w w1):=Below.step HB.out HB1.out
 have HE1:Hid (w1.cell? ⟨ga,1,none⟩=some (.slice e0 a.boxes.length e1)):=(HS.out w1 B1).2.1
 clear B1 HAV HNB DR hlga1 hlc1 HS HAD
 have HA1:Hid (AccP w1 S0 ga a):=HP.out w1 HX1.out
 obtain ⟨g,cap,Sb,cb,hSg,hpb,hSb,hback⟩:=HA1.out.at hb
 have e9:=Option.some.inj (cb.symm.trans HE1.out)
 simp only [Value.slice.injEq,true_and] at e9
 obtain ⟨rfl,rfl⟩:=e9
 have HBK:Hid _:=hback
 have HPB:Hid (BoxP w1 Sb g (k * 7) b):=hpb
 have HSb:Hid (∀ k,Sb k→S0 k):=fun k h=>(hSb k h).1
 have hkl:k < a.boxes.length:=(List.getElem?_eq_some_iff.1 hb).1
 have hki:(k:Int) < (a.boxes.length:Int):=by omega
 have hlg1:g < w1.heap.size:=hpb.lt
 have hga1:ga < w1.heap.size:=by omega
 have hlc1:w.heap.size < w1.heap.size:=by omega
 have hgw:g < w.heap.size:=HSL.out g hSg
 have hsx:szX b≤900000:=HSZ.out b (List.mem_of_getElem? hb)
 have hml:b.mails.length≤900000:=by have:=szM_len b.mails;unfold szX at hsx;omega
 have hgl:b.gones.length≤900000:=by unfold szX at hsx;omega
 have HC1:Hid (w1.cell? ⟨ga,1,none⟩=some (.slice (some ⟨g,0,none⟩) a.boxes.length cap)):=cb
 clear hpb hback hSb
 have q0:w1.cell? ⟨w.heap.size,0,none⟩=some (.int .i64 2):=cell_of_row w1 w.heap.size 0 _ _ (0,0) HKC1.out
 obtain ⟨u0,u1,u2,h0,h1,h2,hint,c0,c1,c2,c3,c4,c5,c6⟩:=HPB.out.cells
 obtain ⟨a0,q0',z0,rfl⟩:=h0.bs.form3
 obtain ⟨a1,z1,rfl,-⟩:=h1.v.form
 obtain ⟨a2,z2,rfl,-⟩:=h2.1.form
 have HBV:Hid (BoxV w1 (.agg #[.slice a0 q0' z0,.int .i64 b.valid,.int .i64 b.next,.int .i64 b.seq,.slice a1 b.mails.length z1,.slice a2 b.gones.length z2,.int .i64 b.lost]) b):=⟨_,_,_,rfl,h0.bs,h1.v,h2.1,hint⟩
 have HN64:Hid (I64 b.next):=hint.2.1
 clear h0 h1 h2 hint
 go_wp2_with fail
 refine (l3room_any _ b 1 w1 HBV.out (by decide) (by decide) (by omega)).mono ?_
 rintro e w2 ⟨rfl,B2⟩
 have HX2:Hid (Below w.heap.size w w2):=Below.step HX1.out B2
 have HKR2:Hid _:=box_below B2 HKR1.out
 have HKC2:Hid _:=box_below B2 HKC1.out
 have HB2:Hid (Below w1.heap.size w1 w2):=B2
 have hw2:w1.heap.size≤w2.heap.size:=B2.size
 clear B2 c0 c1 c2 c3 c4 c5 c6 q0 HBV cb
 rw [hroom]
 have hr':=hroom
 simp only [roomB,Bool.and_eq_true,decide_eq_true_eq] at hr'
 have hr1:=hr'.1
 have hr2:=hr'.2.1
 clear hr'
 have HP2:Hid (BoxP w2 Sb g (k * 7) b):=HPB.out.below HB2.out
 have hlc2:w.heap.size < w2.heap.size:=by omega
 have q5:w2.cell? ⟨w.heap.size,5,none⟩=some (.int .i64 fl):=cell_of_row w2 w.heap.size 5 _ _ (0,0) HKC2.out
 have q7:w2.cell? ⟨w.heap.size,7,none⟩=some (.slice x2 n2 m2):=cell_of_row w2 w.heap.size 7 _ _ (0,0) HKC2.out
 go_wp2_with fail
 refine (l3add_r g (k * 7) b Sb fl _ tx w2 HP2.out HI.out.2.2.1 (fun w' h1 h2=>HQ2.out w' (Nat.le_trans HX2.out.size h1) ((stay_below HX2.out).trans h2)) hcl.2 (by omega) (by omega) (by omega)).mono ?_
 rintro e w3 ⟨rfl,hT3,hP3⟩
 have hTb:Turns w1 w3 Sb g (k * 7):=(turns_below HB2.out).trans hT3 (fun k h=>.inl h)
 have hPb:=hP3
 clear q5 q7 hT3 hP3
 have hA:AccP w3 (fun k=>S0 k∨w1.heap.size≤k) ga (setB a k (addX b fl tx)):=HBK.out w3 _ _ hTb hPb (fun k h=>h.elim .inl fun h=>.inr (by omega))
 have hT:TurnsA w1 w3 S0 ga:=TurnsA.box hTb hSg HSb.out
 have hS1:∀ k,(fun k=>S0 k∨w1.heap.size≤k) k→S0 k∨w1.heap.size≤k:=fun k h=>h
 obtain ⟨S1,hS1e⟩:∃ S1:Nat→Prop,S1=fun k=>S0 k∨w1.heap.size≤k:=⟨_,rfl⟩
 rw [← hS1e] at hA hS1
 clear hTb hPb hS1e
 have HT1:Hid (TurnsA w w3 S0 ga):=(TurnsA.below (S:=S0) HX1.out).trans hT (fun k h=>.inl h)
 have HKR3:Hid (w3.heap[w.heap.size+1]?=some (.cells #[.int .i64 0,.int .i64 0,.slice none 0 0,.int .i64 0,.int .i64 0,.int .i64 0,.slice none 0 0,.slice none 0 0,.int .i64 0,.slice none 0 0] 84 (0,0))):=(hT.2.1 _ (by omega) (by omega) (fun h=>by have:=HSL.out _ h;omega)).trans HKR1.out
 obtain ⟨r0,r1,r2,r3,r4,r5,r6,r7,r8,r9⟩:=bx10 HKR3.out
 have fz:∀ i,w3.frozen? ⟨w.heap.size+1,i,none⟩=false:=fun i=>frozen_of_row w3 _ i _ _ HKR3.out
 have hlr:=lt_of_heap HKR3.out
 have HF:Hid _:=rep_turnA (w:=w) HKR3.out (by omega) HT1.out _ _ hA hlga (fun h=>(hS1 _ h).elim (fun h=>by have:=HSL.out _ h;omega) (fun h=>by omega)) 0 b.next ⟨i64c0,HN64.out⟩
 have HSE:Hid (∀ k,S1 k→S k∨w.heap.size≤k):=fun k h=>(hS1 k h).elim (fun h=>.inl (HSUB.out k h)) (fun h=>.inr (by omega))
 clear hT hA hS1
 go_wp2
 obtain ⟨f0,f1,f2,f3,f4,f5,f6,f7,f8,f9⟩:=bx10 HF.out.1
 refine bodyPost_ret (v:=.agg #[.int .i64 0,.int .i64 b.next,.slice none 0 0,.int .i64 0,.int .i64 0,.int .i64 0,.slice none 0 0,.slice none 0 0,.int .i64 0,.slice none 0 0]) (by simp [results,Tryd.results50,go_sem,f0,f1,f2,f3,f4,f5,f6,f7,f8,f9]) rfl ⟨_,_,rfl,reps_code HF.out.2.2.2,TurnsA.wide HF.out.2.1 HSUB.out,HF.out.2.2.1,HSE.out⟩

set_option maxRecDepth 100000 in
set_option maxHeartbeats 8000000 in
theorem l3do_store (ga:Nat) (a:AccD) (S:Nat→Prop) (uid mode fl si:Int) (bx tt tx:List Int) (x0 x1 x2:Option Addr) (n0 n1 n2 m0 m1 m2:Nat) (w:World) (hp:AccP w S ga a)
  (hs0:∀ w',w.heap.size≤w'.heap.size→StayT w w' 5→Bs w' (.slice x0 n0 m0) bx) (hs1:∀ w',w.heap.size≤w'.heap.size→StayT w w' 5→Bs w' (.slice x1 n1 m1) tt) (hs2:∀ w',w.heap.size≤w'.heap.size→StayT w w' 5→Bs w' (.slice x2 n2 m2) tx)
  (hi64:I64 uid∧I64 mode∧I64 fl∧I64 si) (hcl:bx.length≤2000000∧tx.length≤2000000) (hsz:∀ x ∈ a.boxes,szX x≤900000) (hbl:a.boxes.length≤2000000) (k:Nat) (b:BoxD) (hb:a.boxes[k]?=some b) (hf:firstI (fun x:BoxD=>decide (x.name=bx)) a.boxes=(k:Int)) (z:BoxD × RepD) (hz:storeX b uid mode fl si=z) :
  Calls Tryd.prog 50 #[.pointer (some ⟨ga,0,none⟩),.agg #[.int .i64 3,.slice x0 n0 m0,.slice x1 n1 m1,.int .i64 uid,.int .i64 mode,.int .i64 fl,.int .i64 si,.slice x2 n2 m2]] w (DoneA w S ga (setB a k z.1,z.2)):=by
 obtain ⟨S0,hS0e⟩:∃ S0:Nat→Prop,S0=fun k=>S k∧k < w.heap.size:=⟨_,rfl⟩
 have HSUB:Hid (∀ k,S0 k→S k):=by subst hS0e;exact fun k h=>h.1
 have HSL:Hid (∀ k,S0 k→k < w.heap.size):=by subst hS0e;exact fun k h=>h.2
 have HP:Hid (∀ w',Below w.heap.size w w'→AccP w' S0 ga a):=by subst hS0e;exact fun w' h=>hp.cut.below h
 clear hS0e
 have hlga:=hp.lt
 have HQ0:Hid (∀ w',w.heap.size≤w'.heap.size→StayT w w' 5→Bs w' (.slice x0 n0 m0) bx):=hs0
 have HQ1:Hid (∀ w',w.heap.size≤w'.heap.size→StayT w w' 5→Bs w' (.slice x1 n1 m1) tt):=hs1
 have HQ2:Hid (∀ w',w.heap.size≤w'.heap.size→StayT w w' 5→Bs w' (.slice x2 n2 m2) tx):=hs2
 have HI:Hid (I64 uid∧I64 mode∧I64 fl∧I64 si):=hi64
 have HSZ:Hid (∀ x ∈ a.boxes,szX x≤900000):=hsz
 obtain ⟨HB,HKC,HKR,hsW⟩:=heads2 w (.cells #[.int .i64 3,.slice x0 n0 m0,.slice x1 n1 m1,.int .i64 uid,.int .i64 mode,.int .i64 fl,.int .i64 si,.slice x2 n2 m2] 80) (.cells #[.int .i64 0,.int .i64 0,.slice none 0 0,.int .i64 0,.int .i64 0,.int .i64 0,.slice none 0 0,.slice none 0 0,.int .i64 0,.slice none 0 0] 84)
 clear hs0 hs1 hs2 hp hi64 hsz
 go_enter Tryd.func50,Tryd.ntmps50
 go_upto_region 1 with fail
 generalize ((w.alloc (.cells #[.int .i64 3,.slice x0 n0 m0,.slice x1 n1 m1,.int .i64 uid,.int .i64 mode,.int .i64 fl,.int .i64 si,.slice x2 n2 m2] 80)).alloc (.cells #[.int .i64 0,.int .i64 0,.slice none 0 0,.int .i64 0,.int .i64 0,.int .i64 0,.slice none 0 0,.slice none 0 0,.int .i64 0,.slice none 0 0] 84))=W at HB HKC HKR hsW ⊢
 have q0:W.cell? ⟨w.heap.size,0,none⟩=some (.int .i64 3):=cell_of_row W w.heap.size 0 _ _ (0,0) HKC.out
 have hlc:w.heap.size < W.heap.size:=by omega
 go_upto_region 11 with fail
 clear q0
 have DR:Below W.heap.size W W.drew:=(Below.refl _ _).drew
 have HAD:Hid (AccP W.drew S0 ga a):=HP.out W.drew (Below.step HB.out DR)
 obtain ⟨v9,u9,ca0,ca1,ca2,hbq,hav⟩:=HAD.out.cells
 obtain ⟨e0,e1,rfl,-⟩:=hbq.v.form
 have HAV:Hid _:=hav
 have HNB:Hid (Bs W.drew (.slice x0 n0 m0) bx):=HQ0.out _ (Nat.le_trans HB.out.size DR.size) (stay_below (Below.step HB.out DR))
 have hlga1:ga < W.drew.heap.size:=by show ga < W.heap.size;omega
 have hlc1:w.heap.size < W.drew.heap.size:=hlc
 have HS:Hid (∀ w',Below W.drew.heap.size W.drew w'→w'.cell? ⟨ga,0,none⟩=some (.int .i64 a.valid)∧w'.cell? ⟨ga,1,none⟩=some (.slice e0 a.boxes.length e1)∧w'.cell? ⟨ga,2,none⟩=some u9∧w'.cell? ⟨w.heap.size,1,none⟩=some (.slice x0 n0 m0)):=fun w' h=>⟨(h.cell (p:=⟨ga,0,none⟩) hlga1).trans ca0,(h.cell (p:=⟨ga,1,none⟩) hlga1).trans ca1,(h.cell (p:=⟨ga,2,none⟩) hlga1).trans ca2,cell_of_row w' w.heap.size 1 _ _ (0,0) (box_below (Below.step DR h) HKC.out)⟩
 clear hbq hav ca0 ca1 ca2
 go_region_held3 (fun w'=>w'.cell? ⟨ga,0,none⟩=some (.int .i64 a.valid)∧w'.cell? ⟨ga,1,none⟩=some (.slice e0 a.boxes.length e1)∧w'.cell? ⟨ga,2,none⟩=some u9∧w'.cell? ⟨w.heap.size,1,none⟩=some (.slice x0 n0 m0))
  (first | exact HS.out _ (Below.refl _ _) | exact HS.out _ B1 | go_keep)
  ((go_at_call 68;refine (l3box_any _ _ a bx _ HAV.out HNB.out hbl).mono ?_;rintro e w1 ⟨rfl,B1⟩))
 have HB1:Hid (Below W.heap.size W w1):=Below.step DR B1
 have HKC1:Hid _:=box_below HB1.out HKC.out
 have HKR1:Hid _:=box_below HB1.out HKR.out
 have hw1:W.heap.size≤w1.heap.size:=HB1.out.size
 have HX1:Hid (Below w.heap.size w w1):=Below.step HB.out HB1.out
 have HE1:Hid (w1.cell? ⟨ga,1,none⟩=some (.slice e0 a.boxes.length e1)):=(HS.out w1 B1).2.1
 clear B1 HAV HNB DR hlga1 hlc1 HS HAD
 have HA1:Hid (AccP w1 S0 ga a):=HP.out w1 HX1.out
 obtain ⟨g,cap,Sb,cb,hSg,hpb,hSb,hback⟩:=HA1.out.at hb
 have e9:=Option.some.inj (cb.symm.trans HE1.out)
 simp only [Value.slice.injEq,true_and] at e9
 obtain ⟨rfl,rfl⟩:=e9
 have HBK:Hid _:=hback
 have HPB:Hid (BoxP w1 Sb g (k * 7) b):=hpb
 have HSb:Hid (∀ k,Sb k→S0 k):=fun k h=>(hSb k h).1
 have hkl:k < a.boxes.length:=(List.getElem?_eq_some_iff.1 hb).1
 have hki:(k:Int) < (a.boxes.length:Int):=by omega
 have hlg1:g < w1.heap.size:=hpb.lt
 have hga1:ga < w1.heap.size:=by omega
 have hlc1:w.heap.size < w1.heap.size:=by omega
 have hgw:g < w.heap.size:=HSL.out g hSg
 have hsx:szX b≤900000:=HSZ.out b (List.mem_of_getElem? hb)
 have hml:b.mails.length≤900000:=by have:=szM_len b.mails;unfold szX at hsx;omega
 have hgl:b.gones.length≤900000:=by unfold szX at hsx;omega
 have HC1:Hid (w1.cell? ⟨ga,1,none⟩=some (.slice (some ⟨g,0,none⟩) a.boxes.length cap)):=cb
 have HNG:Hid (¬ Sb g):=fun h=>(hSb g h).2 rfl
 clear hpb hback hSb
 have q0:w1.cell? ⟨w.heap.size,0,none⟩=some (.int .i64 3):=cell_of_row w1 w.heap.size 0 _ _ (0,0) HKC1.out
 have q1:w1.cell? ⟨w.heap.size,1,none⟩=some (.slice x0 n0 m0):=cell_of_row w1 w.heap.size 1 _ _ (0,0) HKC1.out
 have q2:w1.cell? ⟨w.heap.size,2,none⟩=some (.slice x1 n1 m1):=cell_of_row w1 w.heap.size 2 _ _ (0,0) HKC1.out
 have q3:w1.cell? ⟨w.heap.size,3,none⟩=some (.int .i64 uid):=cell_of_row w1 w.heap.size 3 _ _ (0,0) HKC1.out
 have q4:w1.cell? ⟨w.heap.size,4,none⟩=some (.int .i64 mode):=cell_of_row w1 w.heap.size 4 _ _ (0,0) HKC1.out
 have q5:w1.cell? ⟨w.heap.size,5,none⟩=some (.int .i64 fl):=cell_of_row w1 w.heap.size 5 _ _ (0,0) HKC1.out
 have q6:w1.cell? ⟨w.heap.size,6,none⟩=some (.int .i64 si):=cell_of_row w1 w.heap.size 6 _ _ (0,0) HKC1.out
 have q7:w1.cell? ⟨w.heap.size,7,none⟩=some (.slice x2 n2 m2):=cell_of_row w1 w.heap.size 7 _ _ (0,0) HKC1.out
 go_wp2_with fail
 have hc:=l3store_r g (k * 7) b Sb 3 uid mode fl si x0 x1 x2 n0 n1 n2 m0 m1 m2 w1 HPB.out (by omega) HI.out.2.2.1
 rw [hz] at hc
 clear q1 q2 q3 q4 q5 q6 q7
 refine hc.mono ?_
 rintro e w2 ⟨u,rfl,hrv,hTb,hPb⟩
 have hSbg:¬ Sb g:=HNG.out
 have hrep:RepS w2 w1.heap.size u z.2:=by
  obtain ⟨c,n,hcn⟩:=storeX_code b uid mode fl si
  rw [hz] at hcn
  rw [hcn] at hrv ⊢
  exact reps_code hrv
 clear hrv
 have hA:AccP w2 (fun k=>S0 k∨w1.heap.size≤k) ga (setB a k z.1):=HBK.out w2 _ _ hTb hPb (fun k h=>.inl h)
 have hT:TurnsA w1 w2 S0 ga:=TurnsA.box hTb hSg HSb.out
 have hS1:∀ k,(fun k=>S0 k∨w1.heap.size≤k) k→S0 k∨w1.heap.size≤k:=fun k h=>h
 obtain ⟨S1,hS1e⟩:∃ S1:Nat→Prop,S1=fun k=>S0 k∨w1.heap.size≤k:=⟨_,rfl⟩
 rw [← hS1e] at hA hS1
 clear hTb hPb hS1e
 clear hc cb q0
 obtain ⟨y0,k0,j0,y1,j1,y2,j2,y3,j3,hU⟩:=hrep.v.form
 subst hU
 have HT1:Hid (TurnsA w w2 S0 ga):=(TurnsA.below (S:=S0) HX1.out).trans hT (fun k h=>.inl h)
 have HKR1:Hid (w2.heap[w.heap.size+1]?=some (.cells #[.int .i64 0,.int .i64 0,.slice none 0 0,.int .i64 0,.int .i64 0,.int .i64 0,.slice none 0 0,.slice none 0 0,.int .i64 0,.slice none 0 0] 84 (0,0))):=(hT.2.1 _ (by omega) (by omega) (fun h=>by have:=HSL.out _ h;omega)).trans HKR1.out
 obtain ⟨r0,r1,r2,r3,r4,r5,r6,r7,r8,r9⟩:=bx10 HKR1.out
 have fz:∀ i,w2.frozen? ⟨w.heap.size+1,i,none⟩=false:=fun i=>frozen_of_row w2 _ i _ _ HKR1.out
 have hlr:=lt_of_heap HKR1.out
 have HF:Hid _:=rep_putA (w:=w) HKR1.out (by omega) HT1.out _ _ hA hlga (fun h=>(hS1 _ h).elim (fun h=>by have:=HSL.out _ h;omega) (fun h=>by omega)) _ _ _ _ _ _ _ _ _ _ _ hrep (by omega)
 have HSE:Hid (∀ k,S1 k→S k∨w.heap.size≤k):=fun k h=>(hS1 k h).elim (fun h=>.inl (HSUB.out k h)) (fun h=>.inr (by omega))
 clear hrep hT hA hS1
 go_wp2
 obtain ⟨f0,f1,f2,f3,f4,f5,f6,f7,f8,f9⟩:=bx10 HF.out.1
 refine bodyPost_ret (v:=.agg #[_,_,_,_,_,_,_,_,_,_]) (by simp [results,Tryd.results50,go_sem,f0,f1,f2,f3,f4,f5,f6,f7,f8,f9]) rfl ⟨_,_,rfl,HF.out.2.2.2,TurnsA.wide HF.out.2.1 HSUB.out,HF.out.2.2.1,HSE.out⟩

set_option maxRecDepth 100000 in
set_option maxHeartbeats 8000000 in
theorem l3do_exp (ga:Nat) (a:AccD) (S:Nat→Prop) (uid mode fl si:Int) (bx tt tx:List Int) (x0 x1 x2:Option Addr) (n0 n1 n2 m0 m1 m2:Nat) (w:World) (hp:AccP w S ga a)
  (hs0:∀ w',w.heap.size≤w'.heap.size→StayT w w' 5→Bs w' (.slice x0 n0 m0) bx) (hs1:∀ w',w.heap.size≤w'.heap.size→StayT w w' 5→Bs w' (.slice x1 n1 m1) tt) (hs2:∀ w',w.heap.size≤w'.heap.size→StayT w w' 5→Bs w' (.slice x2 n2 m2) tx)
  (hi64:I64 uid∧I64 mode∧I64 fl∧I64 si) (hcl:bx.length≤2000000∧tx.length≤2000000) (hsz:∀ x ∈ a.boxes,szX x≤900000) (hbl:a.boxes.length≤2000000) (k:Nat) (b:BoxD) (hb:a.boxes[k]?=some b) (hf:firstI (fun x:BoxD=>decide (x.name=bx)) a.boxes=(k:Int)) (z:BoxD × RepD) (hz:expungeX b=z) :
  Calls Tryd.prog 50 #[.pointer (some ⟨ga,0,none⟩),.agg #[.int .i64 4,.slice x0 n0 m0,.slice x1 n1 m1,.int .i64 uid,.int .i64 mode,.int .i64 fl,.int .i64 si,.slice x2 n2 m2]] w (DoneA w S ga (setB a k z.1,z.2)):=by
 obtain ⟨S0,hS0e⟩:∃ S0:Nat→Prop,S0=fun k=>S k∧k < w.heap.size:=⟨_,rfl⟩
 have HSUB:Hid (∀ k,S0 k→S k):=by subst hS0e;exact fun k h=>h.1
 have HSL:Hid (∀ k,S0 k→k < w.heap.size):=by subst hS0e;exact fun k h=>h.2
 have HP:Hid (∀ w',Below w.heap.size w w'→AccP w' S0 ga a):=by subst hS0e;exact fun w' h=>hp.cut.below h
 clear hS0e
 have hlga:=hp.lt
 have HQ0:Hid (∀ w',w.heap.size≤w'.heap.size→StayT w w' 5→Bs w' (.slice x0 n0 m0) bx):=hs0
 have HQ1:Hid (∀ w',w.heap.size≤w'.heap.size→StayT w w' 5→Bs w' (.slice x1 n1 m1) tt):=hs1
 have HQ2:Hid (∀ w',w.heap.size≤w'.heap.size→StayT w w' 5→Bs w' (.slice x2 n2 m2) tx):=hs2
 have HI:Hid (I64 uid∧I64 mode∧I64 fl∧I64 si):=hi64
 have HSZ:Hid (∀ x ∈ a.boxes,szX x≤900000):=hsz
 obtain ⟨HB,HKC,HKR,hsW⟩:=heads2 w (.cells #[.int .i64 4,.slice x0 n0 m0,.slice x1 n1 m1,.int .i64 uid,.int .i64 mode,.int .i64 fl,.int .i64 si,.slice x2 n2 m2] 80) (.cells #[.int .i64 0,.int .i64 0,.slice none 0 0,.int .i64 0,.int .i64 0,.int .i64 0,.slice none 0 0,.slice none 0 0,.int .i64 0,.slice none 0 0] 84)
 clear hs0 hs1 hs2 hp hi64 hsz
 go_enter Tryd.func50,Tryd.ntmps50
 go_upto_region 1 with fail
 generalize ((w.alloc (.cells #[.int .i64 4,.slice x0 n0 m0,.slice x1 n1 m1,.int .i64 uid,.int .i64 mode,.int .i64 fl,.int .i64 si,.slice x2 n2 m2] 80)).alloc (.cells #[.int .i64 0,.int .i64 0,.slice none 0 0,.int .i64 0,.int .i64 0,.int .i64 0,.slice none 0 0,.slice none 0 0,.int .i64 0,.slice none 0 0] 84))=W at HB HKC HKR hsW ⊢
 have q0:W.cell? ⟨w.heap.size,0,none⟩=some (.int .i64 4):=cell_of_row W w.heap.size 0 _ _ (0,0) HKC.out
 have hlc:w.heap.size < W.heap.size:=by omega
 go_upto_region 11 with fail
 clear q0
 have DR:Below W.heap.size W W.drew:=(Below.refl _ _).drew
 have HAD:Hid (AccP W.drew S0 ga a):=HP.out W.drew (Below.step HB.out DR)
 obtain ⟨v9,u9,ca0,ca1,ca2,hbq,hav⟩:=HAD.out.cells
 obtain ⟨e0,e1,rfl,-⟩:=hbq.v.form
 have HAV:Hid _:=hav
 have HNB:Hid (Bs W.drew (.slice x0 n0 m0) bx):=HQ0.out _ (Nat.le_trans HB.out.size DR.size) (stay_below (Below.step HB.out DR))
 have hlga1:ga < W.drew.heap.size:=by show ga < W.heap.size;omega
 have hlc1:w.heap.size < W.drew.heap.size:=hlc
 have HS:Hid (∀ w',Below W.drew.heap.size W.drew w'→w'.cell? ⟨ga,0,none⟩=some (.int .i64 a.valid)∧w'.cell? ⟨ga,1,none⟩=some (.slice e0 a.boxes.length e1)∧w'.cell? ⟨ga,2,none⟩=some u9∧w'.cell? ⟨w.heap.size,1,none⟩=some (.slice x0 n0 m0)):=fun w' h=>⟨(h.cell (p:=⟨ga,0,none⟩) hlga1).trans ca0,(h.cell (p:=⟨ga,1,none⟩) hlga1).trans ca1,(h.cell (p:=⟨ga,2,none⟩) hlga1).trans ca2,cell_of_row w' w.heap.size 1 _ _ (0,0) (box_below (Below.step DR h) HKC.out)⟩
 clear hbq hav ca0 ca1 ca2
 go_region_held3 (fun w'=>w'.cell? ⟨ga,0,none⟩=some (.int .i64 a.valid)∧w'.cell? ⟨ga,1,none⟩=some (.slice e0 a.boxes.length e1)∧w'.cell? ⟨ga,2,none⟩=some u9∧w'.cell? ⟨w.heap.size,1,none⟩=some (.slice x0 n0 m0))
  (first | exact HS.out _ (Below.refl _ _) | exact HS.out _ B1 | go_keep)
  ((go_at_call 68;refine (l3box_any _ _ a bx _ HAV.out HNB.out hbl).mono ?_;rintro e w1 ⟨rfl,B1⟩))
 have HB1:Hid (Below W.heap.size W w1):=Below.step DR B1
 have HKC1:Hid _:=box_below HB1.out HKC.out
 have HKR1:Hid _:=box_below HB1.out HKR.out
 have hw1:W.heap.size≤w1.heap.size:=HB1.out.size
 have HX1:Hid (Below w.heap.size w w1):=Below.step HB.out HB1.out
 have HE1:Hid (w1.cell? ⟨ga,1,none⟩=some (.slice e0 a.boxes.length e1)):=(HS.out w1 B1).2.1
 clear B1 HAV HNB DR hlga1 hlc1 HS HAD
 have HA1:Hid (AccP w1 S0 ga a):=HP.out w1 HX1.out
 obtain ⟨g,cap,Sb,cb,hSg,hpb,hSb,hback⟩:=HA1.out.at hb
 have e9:=Option.some.inj (cb.symm.trans HE1.out)
 simp only [Value.slice.injEq,true_and] at e9
 obtain ⟨rfl,rfl⟩:=e9
 have HBK:Hid _:=hback
 have HPB:Hid (BoxP w1 Sb g (k * 7) b):=hpb
 have HSb:Hid (∀ k,Sb k→S0 k):=fun k h=>(hSb k h).1
 have hkl:k < a.boxes.length:=(List.getElem?_eq_some_iff.1 hb).1
 have hki:(k:Int) < (a.boxes.length:Int):=by omega
 have hlg1:g < w1.heap.size:=hpb.lt
 have hga1:ga < w1.heap.size:=by omega
 have hlc1:w.heap.size < w1.heap.size:=by omega
 have hgw:g < w.heap.size:=HSL.out g hSg
 have hsx:szX b≤900000:=HSZ.out b (List.mem_of_getElem? hb)
 have hml:b.mails.length≤900000:=by have:=szM_len b.mails;unfold szX at hsx;omega
 have hgl:b.gones.length≤900000:=by unfold szX at hsx;omega
 have HC1:Hid (w1.cell? ⟨ga,1,none⟩=some (.slice (some ⟨g,0,none⟩) a.boxes.length cap)):=cb
 have HNG:Hid (¬ Sb g):=fun h=>(hSb g h).2 rfl
 clear hpb hback hSb
 have q0:w1.cell? ⟨w.heap.size,0,none⟩=some (.int .i64 4):=cell_of_row w1 w.heap.size 0 _ _ (0,0) HKC1.out
 go_wp2_with fail
 have hc:=l3expunge_r g (k * 7) b Sb w1 HPB.out (by omega) (by omega)
 rw [hz] at hc
 refine hc.mono ?_
 rintro e w2 ⟨u,rfl,hrv,hTb,hPb⟩
 have hSbg:¬ Sb g:=HNG.out
 have hrep:RepS w2 w1.heap.size u z.2:=by
  obtain ⟨c,n,hcn⟩:=expungeX_code b
  rw [hz] at hcn
  rw [hcn] at hrv ⊢
  exact reps_code hrv
 clear hrv
 have hA:AccP w2 (fun k=>S0 k∨w1.heap.size≤k) ga (setB a k z.1):=HBK.out w2 _ _ hTb hPb (fun k h=>h)
 have hT:TurnsA w1 w2 S0 ga:=TurnsA.box hTb hSg HSb.out
 have hS1:∀ k,(fun k=>S0 k∨w1.heap.size≤k) k→S0 k∨w1.heap.size≤k:=fun k h=>h
 obtain ⟨S1,hS1e⟩:∃ S1:Nat→Prop,S1=fun k=>S0 k∨w1.heap.size≤k:=⟨_,rfl⟩
 rw [← hS1e] at hA hS1
 clear hTb hPb hS1e
 clear hc cb q0
 obtain ⟨y0,k0,j0,y1,j1,y2,j2,y3,j3,hU⟩:=hrep.v.form
 subst hU
 have HT1:Hid (TurnsA w w2 S0 ga):=(TurnsA.below (S:=S0) HX1.out).trans hT (fun k h=>.inl h)
 have HKR1:Hid (w2.heap[w.heap.size+1]?=some (.cells #[.int .i64 0,.int .i64 0,.slice none 0 0,.int .i64 0,.int .i64 0,.int .i64 0,.slice none 0 0,.slice none 0 0,.int .i64 0,.slice none 0 0] 84 (0,0))):=(hT.2.1 _ (by omega) (by omega) (fun h=>by have:=HSL.out _ h;omega)).trans HKR1.out
 obtain ⟨r0,r1,r2,r3,r4,r5,r6,r7,r8,r9⟩:=bx10 HKR1.out
 have fz:∀ i,w2.frozen? ⟨w.heap.size+1,i,none⟩=false:=fun i=>frozen_of_row w2 _ i _ _ HKR1.out
 have hlr:=lt_of_heap HKR1.out
 have HF:Hid _:=rep_putA (w:=w) HKR1.out (by omega) HT1.out _ _ hA hlga (fun h=>(hS1 _ h).elim (fun h=>by have:=HSL.out _ h;omega) (fun h=>by omega)) _ _ _ _ _ _ _ _ _ _ _ hrep (by omega)
 have HSE:Hid (∀ k,S1 k→S k∨w.heap.size≤k):=fun k h=>(hS1 k h).elim (fun h=>.inl (HSUB.out k h)) (fun h=>.inr (by omega))
 clear hrep hT hA hS1
 go_wp2
 obtain ⟨f0,f1,f2,f3,f4,f5,f6,f7,f8,f9⟩:=bx10 HF.out.1
 refine bodyPost_ret (v:=.agg #[_,_,_,_,_,_,_,_,_,_]) (by simp [results,Tryd.results50,go_sem,f0,f1,f2,f3,f4,f5,f6,f7,f8,f9]) rfl ⟨_,_,rfl,HF.out.2.2.2,TurnsA.wide HF.out.2.1 HSUB.out,HF.out.2.2.1,HSE.out⟩

set_option maxRecDepth 100000 in
set_option maxHeartbeats 8000000 in
theorem l3do_copy (ga:Nat) (a:AccD) (S:Nat→Prop) (uid mode fl si:Int) (bx tt tx:List Int) (x0 x1 x2:Option Addr) (n0 n1 n2 m0 m1 m2:Nat) (w:World) (hp:AccP w S ga a)
  (hs0:∀ w',w.heap.size≤w'.heap.size→StayT w w' 5→Bs w' (.slice x0 n0 m0) bx) (hs1:∀ w',w.heap.size≤w'.heap.size→StayT w w' 5→Bs w' (.slice x1 n1 m1) tt) (hs2:∀ w',w.heap.size≤w'.heap.size→StayT w w' 5→Bs w' (.slice x2 n2 m2) tx)
  (hi64:I64 uid∧I64 mode∧I64 fl∧I64 si) (hcl:bx.length≤2000000∧tx.length≤2000000) (hsz:∀ x ∈ a.boxes,szX x≤900000) (hbl:a.boxes.length≤2000000) (k:Nat) (b:BoxD) (hb:a.boxes[k]?=some b) (hf:firstI (fun x:BoxD=>decide (x.name=bx)) a.boxes=(k:Int)) (res:AccD × RepD) (hres:copyA a k b tt uid mode=res) :
  Calls Tryd.prog 50 #[.pointer (some ⟨ga,0,none⟩),.agg #[.int .i64 6,.slice x0 n0 m0,.slice x1 n1 m1,.int .i64 uid,.int .i64 mode,.int .i64 fl,.int .i64 si,.slice x2 n2 m2]] w (DoneA w S ga res):=by
 obtain ⟨S0,hS0e⟩:∃ S0:Nat→Prop,S0=fun k=>S k∧k < w.heap.size:=⟨_,rfl⟩
 have HSUB:Hid (∀ k,S0 k→S k):=by subst hS0e;exact fun k h=>h.1
 have HSL:Hid (∀ k,S0 k→k < w.heap.size):=by subst hS0e;exact fun k h=>h.2
 have HP:Hid (∀ w',Below w.heap.size w w'→AccP w' S0 ga a):=by subst hS0e;exact fun w' h=>hp.cut.below h
 clear hS0e
 have hlga:=hp.lt
 have HQ0:Hid (∀ w',w.heap.size≤w'.heap.size→StayT w w' 5→Bs w' (.slice x0 n0 m0) bx):=hs0
 have HQ1:Hid (∀ w',w.heap.size≤w'.heap.size→StayT w w' 5→Bs w' (.slice x1 n1 m1) tt):=hs1
 have HQ2:Hid (∀ w',w.heap.size≤w'.heap.size→StayT w w' 5→Bs w' (.slice x2 n2 m2) tx):=hs2
 have HI:Hid (I64 uid∧I64 mode∧I64 fl∧I64 si):=hi64
 have HSZ:Hid (∀ x ∈ a.boxes,szX x≤900000):=hsz
 obtain ⟨HB,HKC,HKR,hsW⟩:=heads2 w (.cells #[.int .i64 6,.slice x0 n0 m0,.slice x1 n1 m1,.int .i64 uid,.int .i64 mode,.int .i64 fl,.int .i64 si,.slice x2 n2 m2] 80) (.cells #[.int .i64 0,.int .i64 0,.slice none 0 0,.int .i64 0,.int .i64 0,.int .i64 0,.slice none 0 0,.slice none 0 0,.int .i64 0,.slice none 0 0] 84)
 clear hs0 hs1 hs2 hp hi64 hsz
 go_enter Tryd.func50,Tryd.ntmps50
 go_upto_region 1 with fail
 generalize ((w.alloc (.cells #[.int .i64 6,.slice x0 n0 m0,.slice x1 n1 m1,.int .i64 uid,.int .i64 mode,.int .i64 fl,.int .i64 si,.slice x2 n2 m2] 80)).alloc (.cells #[.int .i64 0,.int .i64 0,.slice none 0 0,.int .i64 0,.int .i64 0,.int .i64 0,.slice none 0 0,.slice none 0 0,.int .i64 0,.slice none 0 0] 84))=W at HB HKC HKR hsW ⊢
 have q0:W.cell? ⟨w.heap.size,0,none⟩=some (.int .i64 6):=cell_of_row W w.heap.size 0 _ _ (0,0) HKC.out
 have hlc:w.heap.size < W.heap.size:=by omega
 go_upto_region 11 with fail
 clear q0
 have DR:Below W.heap.size W W.drew:=(Below.refl _ _).drew
 have HAD:Hid (AccP W.drew S0 ga a):=HP.out W.drew (Below.step HB.out DR)
 obtain ⟨v9,u9,ca0,ca1,ca2,hbq,hav⟩:=HAD.out.cells
 obtain ⟨e0,e1,rfl,-⟩:=hbq.v.form
 have HAV:Hid _:=hav
 have HNB:Hid (Bs W.drew (.slice x0 n0 m0) bx):=HQ0.out _ (Nat.le_trans HB.out.size DR.size) (stay_below (Below.step HB.out DR))
 have hlga1:ga < W.drew.heap.size:=by show ga < W.heap.size;omega
 have hlc1:w.heap.size < W.drew.heap.size:=hlc
 have HS:Hid (∀ w',Below W.drew.heap.size W.drew w'→w'.cell? ⟨ga,0,none⟩=some (.int .i64 a.valid)∧w'.cell? ⟨ga,1,none⟩=some (.slice e0 a.boxes.length e1)∧w'.cell? ⟨ga,2,none⟩=some u9∧w'.cell? ⟨w.heap.size,1,none⟩=some (.slice x0 n0 m0)):=fun w' h=>⟨(h.cell (p:=⟨ga,0,none⟩) hlga1).trans ca0,(h.cell (p:=⟨ga,1,none⟩) hlga1).trans ca1,(h.cell (p:=⟨ga,2,none⟩) hlga1).trans ca2,cell_of_row w' w.heap.size 1 _ _ (0,0) (box_below (Below.step DR h) HKC.out)⟩
 clear hbq hav ca0 ca1 ca2
 go_region_held3 (fun w'=>w'.cell? ⟨ga,0,none⟩=some (.int .i64 a.valid)∧w'.cell? ⟨ga,1,none⟩=some (.slice e0 a.boxes.length e1)∧w'.cell? ⟨ga,2,none⟩=some u9∧w'.cell? ⟨w.heap.size,1,none⟩=some (.slice x0 n0 m0))
  (first | exact HS.out _ (Below.refl _ _) | exact HS.out _ B1 | go_keep)
  ((go_at_call 68;refine (l3box_any _ _ a bx _ HAV.out HNB.out hbl).mono ?_;rintro e w1 ⟨rfl,B1⟩))
 have HB1:Hid (Below W.heap.size W w1):=Below.step DR B1
 have HKC1:Hid _:=box_below HB1.out HKC.out
 have HKR1:Hid _:=box_below HB1.out HKR.out
 have hw1:W.heap.size≤w1.heap.size:=HB1.out.size
 have HX1:Hid (Below w.heap.size w w1):=Below.step HB.out HB1.out
 have HE1:Hid (w1.cell? ⟨ga,1,none⟩=some (.slice e0 a.boxes.length e1)):=(HS.out w1 B1).2.1
 clear B1 HAV HNB DR hlga1 hlc1 HS HAD
 have HA1:Hid (AccP w1 S0 ga a):=HP.out w1 HX1.out
 obtain ⟨g,cap,Sb,cb,hSg,hpb,hSb,hback⟩:=HA1.out.at hb
 have e9:=Option.some.inj (cb.symm.trans HE1.out)
 simp only [Value.slice.injEq,true_and] at e9
 obtain ⟨rfl,rfl⟩:=e9
 have HBK:Hid _:=hback
 have HPB:Hid (BoxP w1 Sb g (k * 7) b):=hpb
 have HSb:Hid (∀ k,Sb k→S0 k):=fun k h=>(hSb k h).1
 have hkl:k < a.boxes.length:=(List.getElem?_eq_some_iff.1 hb).1
 have hki:(k:Int) < (a.boxes.length:Int):=by omega
 have hlg1:g < w1.heap.size:=hpb.lt
 have hga1:ga < w1.heap.size:=by omega
 have hlc1:w.heap.size < w1.heap.size:=by omega
 have hgw:g < w.heap.size:=HSL.out g hSg
 have hsx:szX b≤900000:=HSZ.out b (List.mem_of_getElem? hb)
 have hml:b.mails.length≤900000:=by have:=szM_len b.mails;unfold szX at hsx;omega
 have hgl:b.gones.length≤900000:=by unfold szX at hsx;omega
 have HC1:Hid (w1.cell? ⟨ga,1,none⟩=some (.slice (some ⟨g,0,none⟩) a.boxes.length cap)):=cb
 clear hpb hback hSb
 have q0:w1.cell? ⟨w.heap.size,0,none⟩=some (.int .i64 6):=cell_of_row w1 w.heap.size 0 _ _ (0,0) HKC1.out
 have q1:w1.cell? ⟨w.heap.size,1,none⟩=some (.slice x0 n0 m0):=cell_of_row w1 w.heap.size 1 _ _ (0,0) HKC1.out
 have q2:w1.cell? ⟨w.heap.size,2,none⟩=some (.slice x1 n1 m1):=cell_of_row w1 w.heap.size 2 _ _ (0,0) HKC1.out
 have q3:w1.cell? ⟨w.heap.size,3,none⟩=some (.int .i64 uid):=cell_of_row w1 w.heap.size 3 _ _ (0,0) HKC1.out
 have q4:w1.cell? ⟨w.heap.size,4,none⟩=some (.int .i64 mode):=cell_of_row w1 w.heap.size 4 _ _ (0,0) HKC1.out
 have q5:w1.cell? ⟨w.heap.size,5,none⟩=some (.int .i64 fl):=cell_of_row w1 w.heap.size 5 _ _ (0,0) HKC1.out
 have q6:w1.cell? ⟨w.heap.size,6,none⟩=some (.int .i64 si):=cell_of_row w1 w.heap.size 6 _ _ (0,0) HKC1.out
 have q7:w1.cell? ⟨w.heap.size,7,none⟩=some (.slice x2 n2 m2):=cell_of_row w1 w.heap.size 7 _ _ (0,0) HKC1.out
 go_wp2_with fail
 have hc:=l3copy_r ga k a b tt S0 6 uid mode fl si x0 x1 x2 n0 n1 n2 m0 m1 m2 w1 HA1.out hb (HQ1.out w1 HX1.out.size (stay_below HX1.out)) HSZ.out hbl
 rw [hres] at hc
 refine hc.mono ?_
 rintro e w2 ⟨u,S1,rfl,hrep,hT,hA,hS1⟩
 clear q0 q1 q2 q3 q4 q5 q6 q7 hc cb
 obtain ⟨y0,k0,j0,y1,j1,y2,j2,y3,j3,hU⟩:=hrep.v.form
 subst hU
 have HT1:Hid (TurnsA w w2 S0 ga):=(TurnsA.below (S:=S0) HX1.out).trans hT (fun k h=>.inl h)
 have HKR1:Hid (w2.heap[w.heap.size+1]?=some (.cells #[.int .i64 0,.int .i64 0,.slice none 0 0,.int .i64 0,.int .i64 0,.int .i64 0,.slice none 0 0,.slice none 0 0,.int .i64 0,.slice none 0 0] 84 (0,0))):=(hT.2.1 _ (by omega) (by omega) (fun h=>by have:=HSL.out _ h;omega)).trans HKR1.out
 obtain ⟨r0,r1,r2,r3,r4,r5,r6,r7,r8,r9⟩:=bx10 HKR1.out
 have fz:∀ i,w2.frozen? ⟨w.heap.size+1,i,none⟩=false:=fun i=>frozen_of_row w2 _ i _ _ HKR1.out
 have hlr:=lt_of_heap HKR1.out
 have HF:Hid _:=rep_putA (w:=w) HKR1.out (by omega) HT1.out _ _ hA hlga (fun h=>(hS1 _ h).elim (fun h=>by have:=HSL.out _ h;omega) (fun h=>by omega)) _ _ _ _ _ _ _ _ _ _ _ hrep (by omega)
 have HSE:Hid (∀ k,S1 k→S k∨w.heap.size≤k):=fun k h=>(hS1 k h).elim (fun h=>.inl (HSUB.out k h)) (fun h=>.inr (by omega))
 clear hrep hT hA hS1
 go_wp2
 obtain ⟨f0,f1,f2,f3,f4,f5,f6,f7,f8,f9⟩:=bx10 HF.out.1
 refine bodyPost_ret (v:=.agg #[_,_,_,_,_,_,_,_,_,_]) (by simp [results,Tryd.results50,go_sem,f0,f1,f2,f3,f4,f5,f6,f7,f8,f9]) rfl ⟨_,_,rfl,HF.out.2.2.2,TurnsA.wide HF.out.2.1 HSUB.out,HF.out.2.2.1,HSE.out⟩


end Go.Proofs.YtnlhkgoppjejeaaDoor
