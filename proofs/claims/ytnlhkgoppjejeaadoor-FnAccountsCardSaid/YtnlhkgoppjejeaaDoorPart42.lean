/- The proof's texts, part 42. -/
import Derived.Test.YtnlhkgoppjejeaaDoorPart36
import Derived.Test.YtnlhkgoppjejeaaDoorPart37
import Derived.Test.YtnlhkgoppjejeaaDoorPart12
import Derived.Test.YtnlhkgoppjejeaaDoorPart31
import Derived.Test.YtnlhkgoppjejeaaDoorPart1
import Derived.Test.YtnlhkgoppjejeaaDoorPart3
import Derived.Test.YtnlhkgoppjejeaaDoorPart14
import Derived.Deep.RegionHeld3

/- What l3do of package spec does: fetch. -/
namespace Go.Proofs.YtnlhkgoppjejeaaDoor
open Go.RowKit
set_option maxRecDepth 100000
set_option linter.unusedVariables false
set_option linter.unusedSimpArgs false

theorem tab_do36:(Tryd.f50.body.bind (opsAt 36)).all (fun o=>tableS o 34 [0,1,2,3,4,5,6,7,8,9,10,11,12,13,14,15,16,17,18,19,20,21,22,23,24,25,26,27,28,29,30,31,32,33] [31,33] [33,34] 12)=true:=by kernel_rfl
theorem szM_part (i:Nat):∀ l:List MailD,szM ((l.drop i).take 1)≤szM l
 | []=>by simp
 | x :: l=>by
  cases i with
  | zero=>simp [szM]
  | succ i =>
   have:=szM_part i l
   simp only [List.drop_succ_cons]
   refine Nat.le_trans this ?_
   simp [szM]

set_option maxRecDepth 100000 in
set_option maxHeartbeats 8000000 in
theorem l3do_fetch0 (ga:Nat) (a:AccD) (S:Nat→Prop) (kd uid mode fl si:Int) (bx tt tx:List Int) (x0 x1 x2:Option Addr) (n0 n1 n2 m0 m1 m2:Nat) (w:World) (hp:AccP w S ga a)
  (hs0:∀ w',w.heap.size≤w'.heap.size→StayT w w' 5→Bs w' (.slice x0 n0 m0) bx) (hs1:∀ w',w.heap.size≤w'.heap.size→StayT w w' 5→Bs w' (.slice x1 n1 m1) tt) (hs2:∀ w',w.heap.size≤w'.heap.size→StayT w w' 5→Bs w' (.slice x2 n2 m2) tx)
  (hi64:I64 uid∧I64 mode∧I64 fl∧I64 si) (hcl:bx.length≤2000000∧tx.length≤2000000) (hsz:∀ x ∈ a.boxes,szX x≤900000) (hbl:a.boxes.length≤2000000) (k:Nat) (b:BoxD) (hb:a.boxes[k]?=some b) (hf:firstI (fun x:BoxD=>decide (x.name=bx)) a.boxes=(k:Int)) (hne:kd≠0∧kd≠9∧kd≠1∧kd≠2∧kd≠3∧kd≠4∧kd≠6∧kd≠8∧kd≠7) (hfm:firstI (fun m:MailD=>decide (m.uid=uid)) b.mails = -1) :
  Calls Tryd.prog 50 #[.pointer (some ⟨ga,0,none⟩),.agg #[.int .i64 kd,.slice x0 n0 m0,.slice x1 n1 m1,.int .i64 uid,.int .i64 mode,.int .i64 fl,.int .i64 si,.slice x2 n2 m2]] w (DoneA w S ga (a,codeR 1 0)):=by
 obtain ⟨S0,hS0e⟩:∃ S0:Nat→Prop,S0=fun k=>S k∧k < w.heap.size:=⟨_,rfl⟩
 have HSUB:Hid (∀ k,S0 k→S k):=by subst hS0e;exact fun k h=>h.1
 have HSL:Hid (∀ k,S0 k→k < w.heap.size):=by subst hS0e;exact fun k h=>h.2
 have HP:Hid (∀ w',Below w.heap.size w w'→AccP w' S0 ga a):=by subst hS0e;exact fun w' h=>hp.cut.below h
 clear hS0e
 have hlga:=hp.lt
 have HQ0:Hid (∀ w',w.heap.size≤w'.heap.size→StayT w w' 5→Bs w' (.slice x0 n0 m0) bx):=hs0
 have HQ1:Hid (∀ w',w.heap.size≤w'.heap.size→StayT w w' 5→Bs w' (.slice x1 n1 m1) tt):=hs1
 have HQ2:Hid (∀ w',w.heap.size≤w'.heap.size→StayT w w' 5→Bs w' (.slice x2 n2 m2) tx):=hs2
 have HI:Hid (I64 uid∧I64 mode∧I64 fl∧I64 si):=hi64
 have HSZ:Hid (∀ x ∈ a.boxes,szX x≤900000):=hsz
 obtain ⟨HB,HKC,HKR,hsW⟩:=heads2 w (.cells #[.int .i64 kd,.slice x0 n0 m0,.slice x1 n1 m1,.int .i64 uid,.int .i64 mode,.int .i64 fl,.int .i64 si,.slice x2 n2 m2] 80) (.cells #[.int .i64 0,.int .i64 0,.slice none 0 0,.int .i64 0,.int .i64 0,.int .i64 0,.slice none 0 0,.slice none 0 0,.int .i64 0,.slice none 0 0] 84)
 clear hs0 hs1 hs2 hp hi64 hsz
 go_enter Tryd.func50,Tryd.ntmps50
 go_upto_region 1 with fail
 generalize ((w.alloc (.cells #[.int .i64 kd,.slice x0 n0 m0,.slice x1 n1 m1,.int .i64 uid,.int .i64 mode,.int .i64 fl,.int .i64 si,.slice x2 n2 m2] 80)).alloc (.cells #[.int .i64 0,.int .i64 0,.slice none 0 0,.int .i64 0,.int .i64 0,.int .i64 0,.slice none 0 0,.slice none 0 0,.int .i64 0,.slice none 0 0] 84))=W at HB HKC HKR hsW ⊢
 have h0b:(kd == 0)=false:=by simp [hne.1]
 have h9b:(kd == 9)=false:=by simp [hne.2.1]
 have h1b:(kd == 1)=false:=by simp [hne.2.2.1]
 have h2b:(kd == 2)=false:=by simp [hne.2.2.2.1]
 have h3b:(kd == 3)=false:=by simp [hne.2.2.2.2.1]
 have h4b:(kd == 4)=false:=by simp [hne.2.2.2.2.2.1]
 have h6b:(kd == 6)=false:=by simp [hne.2.2.2.2.2.2.1]
 have h8b:(kd == 8)=false:=by simp [hne.2.2.2.2.2.2.2.1]
 have h7b:(kd == 7)=false:=by simp [hne.2.2.2.2.2.2.2.2]
 have q0:W.cell? ⟨w.heap.size,0,none⟩=some (.int .i64 kd):=cell_of_row W w.heap.size 0 _ _ (0,0) HKC.out
 have hlc:w.heap.size < W.heap.size:=by omega
 go_upto_region 11 with fail
 clear q0
 have DR:Below W.heap.size W W.drew:=(Below.refl _ _).drew
 have HAD:Hid (AccP W.drew S0 ga a):=HP.out W.drew (Below.step HB.out DR)
 obtain ⟨v9,u9,ca0,ca1,ca2,hbq,hav⟩:=HAD.out.cells
 obtain ⟨e0,e1,rfl,-⟩:=hbq.v.form
 have HAV:Hid _:=hav
 have HNB:Hid (Bs W.drew (.slice x0 n0 m0) bx):=HQ0.out _ (Nat.le_trans HB.out.size DR.size) (stay_below (Below.step HB.out DR))
 have hlga1:ga < W.drew.heap.size:=by show ga < W.heap.size;omega
 have hlc1:w.heap.size < W.drew.heap.size:=hlc
 have HS:Hid (∀ w',Below W.drew.heap.size W.drew w'→w'.cell? ⟨ga,0,none⟩=some (.int .i64 a.valid)∧w'.cell? ⟨ga,1,none⟩=some (.slice e0 a.boxes.length e1)∧w'.cell? ⟨ga,2,none⟩=some u9∧w'.cell? ⟨w.heap.size,1,none⟩=some (.slice x0 n0 m0)):=fun w' h=>⟨(h.cell (p:=⟨ga,0,none⟩) hlga1).trans ca0,(h.cell (p:=⟨ga,1,none⟩) hlga1).trans ca1,(h.cell (p:=⟨ga,2,none⟩) hlga1).trans ca2,cell_of_row w' w.heap.size 1 _ _ (0,0) (box_below (Below.step DR h) HKC.out)⟩
 clear hbq hav ca0 ca1 ca2
 go_region_held3 (fun w'=>w'.cell? ⟨ga,0,none⟩=some (.int .i64 a.valid)∧w'.cell? ⟨ga,1,none⟩=some (.slice e0 a.boxes.length e1)∧w'.cell? ⟨ga,2,none⟩=some u9∧w'.cell? ⟨w.heap.size,1,none⟩=some (.slice x0 n0 m0))
  (first | exact HS.out _ (Below.refl _ _) | exact HS.out _ B1 | go_keep)
  ((go_at_call 68;refine (l3box_any _ _ a bx _ HAV.out HNB.out hbl).mono ?_;rintro e w1 ⟨rfl,B1⟩))
 have HB1:Hid (Below W.heap.size W w1):=Below.step DR B1
 have HKC1:Hid _:=box_below HB1.out HKC.out
 have HKR1:Hid _:=box_below HB1.out HKR.out
 have hw1:W.heap.size≤w1.heap.size:=HB1.out.size
 have HX1:Hid (Below w.heap.size w w1):=Below.step HB.out HB1.out
 have HE1:Hid (w1.cell? ⟨ga,1,none⟩=some (.slice e0 a.boxes.length e1)):=(HS.out w1 B1).2.1
 clear B1 HAV HNB DR hlga1 hlc1 HS HAD
 have HA1:Hid (AccP w1 S0 ga a):=HP.out w1 HX1.out
 obtain ⟨g,cap,Sb,cb,hSg,hpb,hSb,hback⟩:=HA1.out.at hb
 have e9:=Option.some.inj (cb.symm.trans HE1.out)
 simp only [Value.slice.injEq,true_and] at e9
 obtain ⟨rfl,rfl⟩:=e9
 have HBK:Hid _:=hback
 have HPB:Hid (BoxP w1 Sb g (k * 7) b):=hpb
 have HSb:Hid (∀ k,Sb k→S0 k):=fun k h=>(hSb k h).1
 have hkl:k < a.boxes.length:=(List.getElem?_eq_some_iff.1 hb).1
 have hki:(k:Int) < (a.boxes.length:Int):=by omega
 have hlg1:g < w1.heap.size:=hpb.lt
 have hga1:ga < w1.heap.size:=by omega
 have hlc1:w.heap.size < w1.heap.size:=by omega
 have hgw:g < w.heap.size:=HSL.out g hSg
 have hsx:szX b≤900000:=HSZ.out b (List.mem_of_getElem? hb)
 have hml:b.mails.length≤900000:=by have:=szM_len b.mails;unfold szX at hsx;omega
 have hgl:b.gones.length≤900000:=by unfold szX at hsx;omega
 have HC1:Hid (w1.cell? ⟨ga,1,none⟩=some (.slice (some ⟨g,0,none⟩) a.boxes.length cap)):=cb
 clear hpb hback hSb
 have q0:w1.cell? ⟨w.heap.size,0,none⟩=some (.int .i64 kd):=cell_of_row w1 w.heap.size 0 _ _ (0,0) HKC1.out
 have q3:w1.cell? ⟨w.heap.size,3,none⟩=some (.int .i64 uid):=cell_of_row w1 w.heap.size 3 _ _ (0,0) HKC1.out
 obtain ⟨u0,u1,u2,h0,h1,h2,hint,c0,c1,c2,c3,c4,c5,c6⟩:=HPB.out.cells
 obtain ⟨a0,q0',z0,rfl⟩:=h0.bs.form3
 obtain ⟨a1,z1,rfl,-⟩:=h1.v.form
 obtain ⟨a2,z2,rfl,-⟩:=h2.1.form
 have HBV:Hid (BoxV w1 (.agg #[.slice a0 q0' z0,.int .i64 b.valid,.int .i64 b.next,.int .i64 b.seq,.slice a1 b.mails.length z1,.slice a2 b.gones.length z2,.int .i64 b.lost]) b):=⟨_,_,_,rfl,h0.bs,h1.v,h2.1,hint⟩
 have HN64:Hid (I64 b.next):=hint.2.1
 clear h0 h1 h2 hint
 have DR:Below w1.heap.size w1 w1.drew:=(Below.refl _ _).drew
 have hgd:g < w1.drew.heap.size:=hlg1
 have hld:w.heap.size < w1.drew.heap.size:=hlc1
 have HS:Hid (∀ w',Below w1.drew.heap.size w1.drew w'→w'.cell? ⟨g,k * 7,none⟩=some (.slice a0 q0' z0)∧w'.cell? ⟨g,k * 7+1,none⟩=some (.int .i64 b.valid)∧w'.cell? ⟨g,k * 7+2,none⟩=some (.int .i64 b.next)∧w'.cell? ⟨g,k * 7+3,none⟩=some (.int .i64 b.seq)∧w'.cell? ⟨g,k * 7+4,none⟩=some (.slice a1 b.mails.length z1)∧w'.cell? ⟨g,k * 7+5,none⟩=some (.slice a2 b.gones.length z2)∧w'.cell? ⟨g,k * 7+6,none⟩=some (.int .i64 b.lost)∧w'.cell? ⟨w.heap.size,3,none⟩=some (.int .i64 uid)):=fun w' h=>⟨(h.cell (p:=⟨g,_,none⟩) hgd).trans c0,(h.cell (p:=⟨g,_,none⟩) hgd).trans c1,(h.cell (p:=⟨g,_,none⟩) hgd).trans c2,(h.cell (p:=⟨g,_,none⟩) hgd).trans c3,(h.cell (p:=⟨g,_,none⟩) hgd).trans c4,(h.cell (p:=⟨g,_,none⟩) hgd).trans c5,(h.cell (p:=⟨g,_,none⟩) hgd).trans c6,(h.cell (p:=⟨w.heap.size,_,none⟩) hld).trans q3⟩
 have HVD:Hid (BoxV w1.drew (.agg #[.slice a0 q0' z0,.int .i64 b.valid,.int .i64 b.next,.int .i64 b.seq,.slice a1 b.mails.length z1,.slice a2 b.gones.length z2,.int .i64 b.lost]) b):=HBV.out.below DR
 go_upto_region 33 with fail
 clear c0 c1 c2 c3 c4 c5 c6 q3
 go_region_held3 (fun w'=>w'.cell? ⟨g,k * 7,none⟩=some (.slice a0 q0' z0)∧w'.cell? ⟨g,k * 7+1,none⟩=some (.int .i64 b.valid)∧w'.cell? ⟨g,k * 7+2,none⟩=some (.int .i64 b.next)∧w'.cell? ⟨g,k * 7+3,none⟩=some (.int .i64 b.seq)∧w'.cell? ⟨g,k * 7+4,none⟩=some (.slice a1 b.mails.length z1)∧w'.cell? ⟨g,k * 7+5,none⟩=some (.slice a2 b.gones.length z2)∧w'.cell? ⟨g,k * 7+6,none⟩=some (.int .i64 b.lost)∧w'.cell? ⟨w.heap.size,3,none⟩=some (.int .i64 uid))
  (first | exact HS.out _ (Below.refl _ _) | exact HS.out _ B2 | go_keep)
  ((go_at_call 36;refine (l3mail_any _ b uid _ HVD.out).mono ?_;rintro e w2 ⟨rfl,B2⟩))
 have HB2:Hid (Below w1.heap.size w1 w2):=Below.step DR B2
 have HX2:Hid (Below w.heap.size w w2):=Below.step HX1.out HB2.out
 have HKR2:Hid _:=box_below HB2.out HKR1.out
 have HKC2:Hid _:=box_below HB2.out HKC1.out
 have hw2:w1.heap.size≤w2.heap.size:=HB2.out.size
 clear B2 HVD DR hgd hld HS HBV q0 cb
 obtain ⟨r0,r1,r2,r3,r4,r5,r6,r7,r8,r9⟩:=bx10 HKR2.out
 have fz:∀ i,w2.frozen? ⟨w.heap.size+1,i,none⟩=false:=fun i=>frozen_of_row w2 _ i _ _ HKR2.out
 have hlr:w.heap.size+1 < w2.heap.size:=lt_of_heap HKR2.out
 have HF:Hid _:=rep_fin (w:=w) HKR2.out (by omega) (HX2.out) 1 0
 go_wp2
 obtain ⟨f0,f1,f2,f3,f4,f5,f6,f7,f8,f9⟩:=bx10 HF.out.1
 refine bodyPost_ret (v:=.agg #[.int .i64 1,.int .i64 0,.slice none 0 0,.int .i64 0,.int .i64 0,.int .i64 0,.slice none 0 0,.slice none 0 0,.int .i64 0,.slice none 0 0]) (by simp [results,Tryd.results50,go_sem,f0,f1,f2,f3,f4,f5,f6,f7,f8,f9]) rfl ⟨_,S0,rfl,reps_code ⟨_,_,_,_,rfl,⟨_,_,_,rfl,bs_nil' _,Rd.nil _,Rd.nil _,i64c0,i64c0,i64c0,i64c0⟩,⟨rfl,rfl⟩,(show I64 (1:Int) from ⟨by decide,by decide⟩),i64c0⟩,TurnsA.below HF.out.2,HP.out _ HF.out.2,fun k h=>.inl (HSUB.out k h)⟩

set_option maxRecDepth 100000 in
set_option maxHeartbeats 8000000 in
theorem l3do_fetch1 (ga:Nat) (a:AccD) (S:Nat→Prop) (kd uid mode fl si:Int) (bx tt tx:List Int) (x0 x1 x2:Option Addr) (n0 n1 n2 m0 m1 m2:Nat) (w:World) (hp:AccP w S ga a)
  (hs0:∀ w',w.heap.size≤w'.heap.size→StayT w w' 5→Bs w' (.slice x0 n0 m0) bx) (hs1:∀ w',w.heap.size≤w'.heap.size→StayT w w' 5→Bs w' (.slice x1 n1 m1) tt) (hs2:∀ w',w.heap.size≤w'.heap.size→StayT w w' 5→Bs w' (.slice x2 n2 m2) tx)
  (hi64:I64 uid∧I64 mode∧I64 fl∧I64 si) (hcl:bx.length≤2000000∧tx.length≤2000000) (hsz:∀ x ∈ a.boxes,szX x≤900000) (hbl:a.boxes.length≤2000000) (k:Nat) (b:BoxD) (hb:a.boxes[k]?=some b) (hf:firstI (fun x:BoxD=>decide (x.name=bx)) a.boxes=(k:Int)) (hne:kd≠0∧kd≠9∧kd≠1∧kd≠2∧kd≠3∧kd≠4∧kd≠6∧kd≠8∧kd≠7) (i:Nat) (m:MailD) (hm:b.mails[i]?=some m) (hfm:firstI (fun m:MailD=>decide (m.uid=uid)) b.mails=(i:Int)) (bq:BoxD) (hbq:bq=⟨b.name,b.valid,b.next,b.seq,(b.mails.drop i).take 1,[],b.lost⟩) :
  Calls Tryd.prog 50 #[.pointer (some ⟨ga,0,none⟩),.agg #[.int .i64 kd,.slice x0 n0 m0,.slice x1 n1 m1,.int .i64 uid,.int .i64 mode,.int .i64 fl,.int .i64 si,.slice x2 n2 m2]] w (DoneA w S ga (a,⟨0,uid,bq,[]⟩)):=by
 obtain ⟨S0,hS0e⟩:∃ S0:Nat→Prop,S0=fun k=>S k∧k < w.heap.size:=⟨_,rfl⟩
 have HSUB:Hid (∀ k,S0 k→S k):=by subst hS0e;exact fun k h=>h.1
 have HSL:Hid (∀ k,S0 k→k < w.heap.size):=by subst hS0e;exact fun k h=>h.2
 have HP:Hid (∀ w',Below w.heap.size w w'→AccP w' S0 ga a):=by subst hS0e;exact fun w' h=>hp.cut.below h
 clear hS0e
 have hlga:=hp.lt
 have HQ0:Hid (∀ w',w.heap.size≤w'.heap.size→StayT w w' 5→Bs w' (.slice x0 n0 m0) bx):=hs0
 have HQ1:Hid (∀ w',w.heap.size≤w'.heap.size→StayT w w' 5→Bs w' (.slice x1 n1 m1) tt):=hs1
 have HQ2:Hid (∀ w',w.heap.size≤w'.heap.size→StayT w w' 5→Bs w' (.slice x2 n2 m2) tx):=hs2
 have HI:Hid (I64 uid∧I64 mode∧I64 fl∧I64 si):=hi64
 have HSZ:Hid (∀ x ∈ a.boxes,szX x≤900000):=hsz
 obtain ⟨HB,HKC,HKR,hsW⟩:=heads2 w (.cells #[.int .i64 kd,.slice x0 n0 m0,.slice x1 n1 m1,.int .i64 uid,.int .i64 mode,.int .i64 fl,.int .i64 si,.slice x2 n2 m2] 80) (.cells #[.int .i64 0,.int .i64 0,.slice none 0 0,.int .i64 0,.int .i64 0,.int .i64 0,.slice none 0 0,.slice none 0 0,.int .i64 0,.slice none 0 0] 84)
 clear hs0 hs1 hs2 hp hi64 hsz
 go_enter Tryd.func50,Tryd.ntmps50
 go_upto_region 1 with fail
 generalize ((w.alloc (.cells #[.int .i64 kd,.slice x0 n0 m0,.slice x1 n1 m1,.int .i64 uid,.int .i64 mode,.int .i64 fl,.int .i64 si,.slice x2 n2 m2] 80)).alloc (.cells #[.int .i64 0,.int .i64 0,.slice none 0 0,.int .i64 0,.int .i64 0,.int .i64 0,.slice none 0 0,.slice none 0 0,.int .i64 0,.slice none 0 0] 84))=W at HB HKC HKR hsW ⊢
 have h0b:(kd == 0)=false:=by simp [hne.1]
 have h9b:(kd == 9)=false:=by simp [hne.2.1]
 have h1b:(kd == 1)=false:=by simp [hne.2.2.1]
 have h2b:(kd == 2)=false:=by simp [hne.2.2.2.1]
 have h3b:(kd == 3)=false:=by simp [hne.2.2.2.2.1]
 have h4b:(kd == 4)=false:=by simp [hne.2.2.2.2.2.1]
 have h6b:(kd == 6)=false:=by simp [hne.2.2.2.2.2.2.1]
 have h8b:(kd == 8)=false:=by simp [hne.2.2.2.2.2.2.2.1]
 have h7b:(kd == 7)=false:=by simp [hne.2.2.2.2.2.2.2.2]
 have q0:W.cell? ⟨w.heap.size,0,none⟩=some (.int .i64 kd):=cell_of_row W w.heap.size 0 _ _ (0,0) HKC.out
 have hlc:w.heap.size < W.heap.size:=by omega
 go_upto_region 11 with fail
 clear q0
 have DR:Below W.heap.size W W.drew:=(Below.refl _ _).drew
 have HAD:Hid (AccP W.drew S0 ga a):=HP.out W.drew (Below.step HB.out DR)
 obtain ⟨v9,u9,ca0,ca1,ca2,hbq,hav⟩:=HAD.out.cells
 obtain ⟨e0,e1,rfl,-⟩:=hbq.v.form
 have HAV:Hid _:=hav
 have HNB:Hid (Bs W.drew (.slice x0 n0 m0) bx):=HQ0.out _ (Nat.le_trans HB.out.size DR.size) (stay_below (Below.step HB.out DR))
 have hlga1:ga < W.drew.heap.size:=by show ga < W.heap.size;omega
 have hlc1:w.heap.size < W.drew.heap.size:=hlc
 have HS:Hid (∀ w',Below W.drew.heap.size W.drew w'→w'.cell? ⟨ga,0,none⟩=some (.int .i64 a.valid)∧w'.cell? ⟨ga,1,none⟩=some (.slice e0 a.boxes.length e1)∧w'.cell? ⟨ga,2,none⟩=some u9∧w'.cell? ⟨w.heap.size,1,none⟩=some (.slice x0 n0 m0)):=fun w' h=>⟨(h.cell (p:=⟨ga,0,none⟩) hlga1).trans ca0,(h.cell (p:=⟨ga,1,none⟩) hlga1).trans ca1,(h.cell (p:=⟨ga,2,none⟩) hlga1).trans ca2,cell_of_row w' w.heap.size 1 _ _ (0,0) (box_below (Below.step DR h) HKC.out)⟩
 clear hbq hav ca0 ca1 ca2
 go_region_held3 (fun w'=>w'.cell? ⟨ga,0,none⟩=some (.int .i64 a.valid)∧w'.cell? ⟨ga,1,none⟩=some (.slice e0 a.boxes.length e1)∧w'.cell? ⟨ga,2,none⟩=some u9∧w'.cell? ⟨w.heap.size,1,none⟩=some (.slice x0 n0 m0))
  (first | exact HS.out _ (Below.refl _ _) | exact HS.out _ B1 | go_keep)
  ((go_at_call 68;refine (l3box_any _ _ a bx _ HAV.out HNB.out hbl).mono ?_;rintro e w1 ⟨rfl,B1⟩))
 have HB1:Hid (Below W.heap.size W w1):=Below.step DR B1
 have HKC1:Hid _:=box_below HB1.out HKC.out
 have HKR1:Hid _:=box_below HB1.out HKR.out
 have hw1:W.heap.size≤w1.heap.size:=HB1.out.size
 have HX1:Hid (Below w.heap.size w w1):=Below.step HB.out HB1.out
 have HE1:Hid (w1.cell? ⟨ga,1,none⟩=some (.slice e0 a.boxes.length e1)):=(HS.out w1 B1).2.1
 clear B1 HAV HNB DR hlga1 hlc1 HS HAD
 have HA1:Hid (AccP w1 S0 ga a):=HP.out w1 HX1.out
 obtain ⟨g,cap,Sb,cb,hSg,hpb,hSb,hback⟩:=HA1.out.at hb
 have e9:=Option.some.inj (cb.symm.trans HE1.out)
 simp only [Value.slice.injEq,true_and] at e9
 obtain ⟨rfl,rfl⟩:=e9
 have HBK:Hid _:=hback
 have HPB:Hid (BoxP w1 Sb g (k * 7) b):=hpb
 have HSb:Hid (∀ k,Sb k→S0 k):=fun k h=>(hSb k h).1
 have hkl:k < a.boxes.length:=(List.getElem?_eq_some_iff.1 hb).1
 have hki:(k:Int) < (a.boxes.length:Int):=by omega
 have hlg1:g < w1.heap.size:=hpb.lt
 have hga1:ga < w1.heap.size:=by omega
 have hlc1:w.heap.size < w1.heap.size:=by omega
 have hgw:g < w.heap.size:=HSL.out g hSg
 have hsx:szX b≤900000:=HSZ.out b (List.mem_of_getElem? hb)
 have hml:b.mails.length≤900000:=by have:=szM_len b.mails;unfold szX at hsx;omega
 have hgl:b.gones.length≤900000:=by unfold szX at hsx;omega
 have HC1:Hid (w1.cell? ⟨ga,1,none⟩=some (.slice (some ⟨g,0,none⟩) a.boxes.length cap)):=cb
 clear hpb hback hSb
 have q0:w1.cell? ⟨w.heap.size,0,none⟩=some (.int .i64 kd):=cell_of_row w1 w.heap.size 0 _ _ (0,0) HKC1.out
 have q3:w1.cell? ⟨w.heap.size,3,none⟩=some (.int .i64 uid):=cell_of_row w1 w.heap.size 3 _ _ (0,0) HKC1.out
 obtain ⟨u0,u1,u2,h0,h1,h2,hint,c0,c1,c2,c3,c4,c5,c6⟩:=HPB.out.cells
 obtain ⟨a0,q0',z0,rfl⟩:=h0.bs.form3
 obtain ⟨a1,z1,rfl,-⟩:=h1.v.form
 obtain ⟨a2,z2,rfl,-⟩:=h2.1.form
 have HBV:Hid (BoxV w1 (.agg #[.slice a0 q0' z0,.int .i64 b.valid,.int .i64 b.next,.int .i64 b.seq,.slice a1 b.mails.length z1,.slice a2 b.gones.length z2,.int .i64 b.lost]) b):=⟨_,_,_,rfl,h0.bs,h1.v,h2.1,hint⟩
 have HN64:Hid (I64 b.next):=hint.2.1
 clear h0 h1 h2 hint
 have DR:Below w1.heap.size w1 w1.drew:=(Below.refl _ _).drew
 have hgd:g < w1.drew.heap.size:=hlg1
 have hld:w.heap.size < w1.drew.heap.size:=hlc1
 have HS:Hid (∀ w',Below w1.drew.heap.size w1.drew w'→w'.cell? ⟨g,k * 7,none⟩=some (.slice a0 q0' z0)∧w'.cell? ⟨g,k * 7+1,none⟩=some (.int .i64 b.valid)∧w'.cell? ⟨g,k * 7+2,none⟩=some (.int .i64 b.next)∧w'.cell? ⟨g,k * 7+3,none⟩=some (.int .i64 b.seq)∧w'.cell? ⟨g,k * 7+4,none⟩=some (.slice a1 b.mails.length z1)∧w'.cell? ⟨g,k * 7+5,none⟩=some (.slice a2 b.gones.length z2)∧w'.cell? ⟨g,k * 7+6,none⟩=some (.int .i64 b.lost)∧w'.cell? ⟨w.heap.size,3,none⟩=some (.int .i64 uid)):=fun w' h=>⟨(h.cell (p:=⟨g,_,none⟩) hgd).trans c0,(h.cell (p:=⟨g,_,none⟩) hgd).trans c1,(h.cell (p:=⟨g,_,none⟩) hgd).trans c2,(h.cell (p:=⟨g,_,none⟩) hgd).trans c3,(h.cell (p:=⟨g,_,none⟩) hgd).trans c4,(h.cell (p:=⟨g,_,none⟩) hgd).trans c5,(h.cell (p:=⟨g,_,none⟩) hgd).trans c6,(h.cell (p:=⟨w.heap.size,_,none⟩) hld).trans q3⟩
 have HVD:Hid (BoxV w1.drew (.agg #[.slice a0 q0' z0,.int .i64 b.valid,.int .i64 b.next,.int .i64 b.seq,.slice a1 b.mails.length z1,.slice a2 b.gones.length z2,.int .i64 b.lost]) b):=HBV.out.below DR
 go_upto_region 33 with fail
 clear c0 c1 c2 c3 c4 c5 c6 q3
 go_region_held3 (fun w'=>w'.cell? ⟨g,k * 7,none⟩=some (.slice a0 q0' z0)∧w'.cell? ⟨g,k * 7+1,none⟩=some (.int .i64 b.valid)∧w'.cell? ⟨g,k * 7+2,none⟩=some (.int .i64 b.next)∧w'.cell? ⟨g,k * 7+3,none⟩=some (.int .i64 b.seq)∧w'.cell? ⟨g,k * 7+4,none⟩=some (.slice a1 b.mails.length z1)∧w'.cell? ⟨g,k * 7+5,none⟩=some (.slice a2 b.gones.length z2)∧w'.cell? ⟨g,k * 7+6,none⟩=some (.int .i64 b.lost)∧w'.cell? ⟨w.heap.size,3,none⟩=some (.int .i64 uid))
  (first | exact HS.out _ (Below.refl _ _) | exact HS.out _ B2 | go_keep)
  ((go_at_call 36;refine (l3mail_any _ b uid _ HVD.out).mono ?_;rintro e w2 ⟨rfl,B2⟩))
 have HB2:Hid (Below w1.heap.size w1 w2):=Below.step DR B2
 have HX2:Hid (Below w.heap.size w w2):=Below.step HX1.out HB2.out
 have HKR2:Hid _:=box_below HB2.out HKR1.out
 have HKC2:Hid _:=box_below HB2.out HKC1.out
 have hw2:w1.heap.size≤w2.heap.size:=HB2.out.size
 clear B2 HVD DR hgd hld HS HBV q0 cb
 have HPD:Hid (BoxP w2.drew Sb g (k * 7) b):=(HPB.out.below HB2.out).below (Below.refl _ _).drew
 obtain ⟨mb,mc,ut,d4,hmc,hlm,-⟩:=HPD.out.mail4 hm
 obtain ⟨u0,u1,u2,h0,h1,h2,hint,d0,d1,d2,d3,d4',-,d6⟩:=HPD.out.cells
 have e4:u1=.slice (some ⟨mb,0,none⟩) b.mails.length mc:=Option.some.inj (d4'.symm.trans d4)
 subst e4
 obtain ⟨b0,p0,y0,rfl⟩:=h0.bs.form3
 have hil:i < b.mails.length:=(List.getElem?_eq_some_iff.1 hm).1
 have HBQV:Hid (BoxV w2.drew (.agg #[.slice b0 p0 y0,.int .i64 b.valid,.int .i64 b.next,.int .i64 b.seq,.slice (some ⟨mb,i * 4,none⟩) 1 (mc - i),.slice none 0 0,.int .i64 b.lost]) bq):=by
  subst hbq
  have hd:=Rd.drop (k:=i) h1.v (by omega)
  rw [Nat.zero_add] at hd
  have hd':Rd 4 MailRE w2.drew (.slice (some ⟨mb,i * 4,none⟩) (b.mails.drop i).length (mc - i)) (b.mails.drop i):=by rw [List.length_drop];exact hd
  exact ⟨_,_,_,rfl,h0.bs,Rd.take hd' (by rw [List.length_drop];omega),Rd.nil _,hint⟩
 have HQV:Hid (bq.valid=b.valid∧bq.next=b.next∧bq.seq=b.seq∧bq.lost=b.lost):=by subst hbq;exact ⟨rfl,rfl,rfl,rfl⟩
 have hsq:szX bq≤900000:=by
  subst hbq
  have hms:szM ((b.mails.drop i).take 1)≤szM b.mails:=szM_part i b.mails
  unfold szX at hsx ⊢
  show b.name.length+szM ((b.mails.drop i).take 1)+([]:List GoneD).length+_≤_
  simp only [List.length_nil] at *
  omega
 have HXD:Hid (Below w.heap.size w w2.drew):=HX2.out.drew
 have HKD:Hid (w2.drew.heap[w.heap.size+1]?=_):=HKR2.out
 have hgd:g < w2.drew.heap.size:=by show g < w2.heap.size;omega
 have hld:w.heap.size < w2.drew.heap.size:=by show w.heap.size < w2.heap.size;omega
 have hd2:w2.drew.heap.size=w2.heap.size:=rfl
 have q3:w2.drew.cell? ⟨w.heap.size,3,none⟩=some (.int .i64 uid):=cell_of_row w2.drew w.heap.size 3 _ _ (0,0) HKC2.out
 have hz0:¬ mc=i:=by omega
 have hiz:i≤mc:=by omega
 have hi0:(0:Int)≤(i:Int):=by omega
 have hii9:(i:Int)≤900000:=by omega
 have hwr:IntKind.i64.wrap ((i:Int)+1)=(i:Int)+1:=by simp [IntKind.wrap,IntKind.bits,IntKind.signed];omega
 have htn:((i:Int)+1).toNat=i+1:=by omega
 have hb0:(0:Int)≤(i:Int)+1:=by omega
 have hb1:(i:Int)+1≤(mc:Int):=by omega
 have hb2:(i:Int)≤(i:Int)+1:=by omega
 clear h0 h1 h2 hint d4' hbq
 go_upto_region 36 with fail
 refine wpS_begin 33 (S:=fun w'=>w'.cell? ⟨g,k * 7,none⟩=some (.slice b0 p0 y0)∧w'.cell? ⟨g,k * 7+1,none⟩=some (.int .i64 b.valid)∧w'.cell? ⟨g,k * 7+2,none⟩=some (.int .i64 b.next)∧w'.cell? ⟨g,k * 7+3,none⟩=some (.int .i64 b.seq)∧w'.cell? ⟨g,k * 7+4,none⟩=some (.slice (some ⟨mb,0,none⟩) b.mails.length mc)∧w'.cell? ⟨g,k * 7+6,none⟩=some (.int .i64 b.lost)∧w'.cell? ⟨w.heap.size,3,none⟩=some (.int .i64 uid)) (tabS_of (by kernel_rfl) tab_do36) (by kernel_rfl) (⟨d0,d1,d2,d3,d4,d6,q3⟩) (fun hTb hHeld=>?_)
 refine tks 0 0 162 hTb hHeld ?_
 refine tks 1 1 163 hTb hHeld ?_
 refine tks 2 2 164 hTb hHeld ?_
 refine tks 3 3 165 hTb hHeld ?_
 refine tks 4 4 166 hTb hHeld ?_
 refine tks 5 5 167 hTb hHeld ?_
 refine tks 6 6 168 hTb hHeld ?_
 refine tks 7 7 169 hTb hHeld ?_
 refine tks 8 8 170 hTb hHeld ?_
 refine tks 9 9 171 hTb hHeld ?_
 refine tks 10 10 172 hTb hHeld ?_
 refine tks 11 11 173 hTb hHeld ?_
 refine tks 12 12 174 hTb hHeld ?_
 refine tks 13 13 175 hTb hHeld ?_
 refine tks 14 14 176 hTb hHeld ?_
 refine tks 15 15 177 hTb hHeld ?_
 refine tks 16 16 178 hTb hHeld ?_
 refine tks 17 17 179 hTb hHeld ?_
 refine tks 18 18 180 hTb hHeld ?_
 refine tks 19 19 181 hTb hHeld ?_
 refine tks 20 20 182 hTb hHeld ?_
 refine tks 21 21 183 hTb hHeld ?_
 refine tks 22 22 184 hTb hHeld ?_
 refine tks 23 23 185 hTb hHeld ?_
 refine tks 24 24 186 hTb hHeld ?_
 refine tks 25 25 187 hTb hHeld ?_
 refine tks 26 26 188 hTb hHeld ?_
 refine tks 27 27 189 hTb hHeld ?_
 refine tks 28 28 190 hTb hHeld ?_
 refine tks 29 29 191 hTb hHeld ?_
 refine tks 30 30 192 hTb hHeld ?_
 refine cls 31 31 hTb (by decide) rfl rfl (fun K hK=>?_)
 go_simp
 refine (l3ownBox_r _ bq _ HBQV.out (by omega)).mono ?_
 rintro e wz ⟨u,rfl,⟨cs,hcs,hE⟩,Bz⟩
 subst hcs
 obtain ⟨o0,on0,oc0,o1,on1,oc1,o2,on2,oc2,hcs⟩:=boxE_form hE
 subst hcs
 have HXz:Hid (Below w.heap.size w wz):=Below.step HXD.out Bz
 have HKz:Hid _:=box_below Bz HKD.out
 have sz:=Bz.size
 have HRS:Hid (RepS wz w2.drew.heap.size (.agg #[.int .i64 0,.int .i64 uid,.slice o0 on0 oc0,.int .i64 bq.valid,.int .i64 bq.next,.int .i64 bq.seq,.slice o1 on1 oc1,.slice o2 on2 oc2,.int .i64 bq.lost,.slice none 0 0]) ⟨0,uid,bq,[]⟩):=by
  refine ⟨fun w' hs' hk'=>?_,_,_,_,_,_,_,_,_,_,_,rfl,.inl ⟨rfl,rfl⟩⟩
  obtain ⟨z0,z1,z2,ez,zz⟩:=(framesBox _ _ _ _ _ hE fun k h1 h2=>hk' k h1.1 h2).rd
  simp only [List.cons.injEq,and_true,true_and] at ez
  obtain ⟨rfl,rfl,rfl⟩:=ez
  exact ⟨_,_,_,_,rfl,⟨_,_,_,rfl,zz⟩,Rd.nil _,i64c0,HI.out.1⟩
 clear hE
 refine hK.out _ _ (⟨(Bz.cell (p:=⟨g,_,none⟩) hgd).trans d0,(Bz.cell (p:=⟨g,_,none⟩) hgd).trans d1,(Bz.cell (p:=⟨g,_,none⟩) hgd).trans d2,(Bz.cell (p:=⟨g,_,none⟩) hgd).trans d3,(Bz.cell (p:=⟨g,_,none⟩) hgd).trans d4,(Bz.cell (p:=⟨g,_,none⟩) hgd).trans d6,(Bz.cell (p:=⟨w.heap.size,_,none⟩) hld).trans q3⟩) (fun hHeld=>?_)
 clear hK K
 refine tks 32 32 194 hTb hHeld ?_
 refine wpS_next (S':=fun w'=>True) 33 34 hTb (by decide) (trivial) (fun hHeld=>?_)
 refine cls 33 33 hTb (by decide) rfl rfl (fun K hK=>?_)
 obtain ⟨r0,r1,r2,r3,r4,r5,r6,r7,r8,r9⟩:=bx10 HKz.out
 have fz:∀ i,wz.frozen? ⟨w.heap.size+1,i,none⟩=false:=fun i=>frozen_of_row wz _ i _ _ HKz.out
 have hlr:=lt_of_heap HKz.out
 have HF:Hid _:=rep_putA (w:=w) (ga:=ga) (S:=S0) (S':=S0) HKz.out (by omega) (TurnsA.below HXz.out) a (HP.out _ HXz.out) hlga (fun h=>by have:=HSL.out _ h;omega) _ (.int .i64 0) (.int .i64 uid) (.slice o0 on0 oc0) (.int .i64 bq.valid) (.int .i64 bq.next) (.int .i64 bq.seq) (.slice o1 on1 oc1) (.slice o2 on2 oc2) (.int .i64 bq.lost) (.slice none 0 0) HRS.out (by show w.heap.size+1 < w2.heap.size;omega)
 go_simp
 refine hK.out _ _ (trivial) (fun hHeld=>?_)
 clear hK K
 refine wpS_end hTb ?_
 go_wp2
 obtain ⟨f0,f1,f2,f3,f4,f5,f6,f7,f8,f9⟩:=bx10 HF.out.1
 refine bodyPost_ret (v:=.agg #[.int .i64 0,.int .i64 uid,.slice o0 on0 oc0,.int .i64 bq.valid,.int .i64 bq.next,.int .i64 bq.seq,.slice o1 on1 oc1,.slice o2 on2 oc2,.int .i64 bq.lost,.slice none 0 0]) (by simp [results,Tryd.results50,go_sem,f0,f1,f2,f3,f4,f5,f6,f7,f8,f9]) rfl ⟨_,S0,rfl,HF.out.2.2.2,TurnsA.wide HF.out.2.1 HSUB.out,HF.out.2.2.1,fun k h=>.inl (HSUB.out k h)⟩


end Go.Proofs.YtnlhkgoppjejeaaDoor

/- What szByteS of package laws does. -/
namespace Go.Proofs.YtnlhkgoppjejeaaDoor
open Go.RowKit

end Go.Proofs.YtnlhkgoppjejeaaDoor

/- What szMail, szMailS, szGoneS, szBox of package laws do. -/
namespace Go.Proofs.YtnlhkgoppjejeaaDoor
open Go.RowKit
set_option linter.unusedVariables false

end Go.Proofs.YtnlhkgoppjejeaaDoor

/- What toByteSS, szByteSS, eqByteSS of package laws do of rows of names. -/
namespace Go.Proofs.YtnlhkgoppjejeaaDoor
open Go.RowKit
set_option linter.unusedVariables false

theorem infoBy:(Tryd.prog.info? 22).map (fun i=>(i.zero,i.size,i.bytes))=some (some (.slice none 0 0),1,24):=by kernel_rfl

end Go.Proofs.YtnlhkgoppjejeaaDoor
