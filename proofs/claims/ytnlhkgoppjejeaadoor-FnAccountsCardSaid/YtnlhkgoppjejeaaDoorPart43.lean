/- The proof's texts, part 43. -/
import Derived.Test.YtnlhkgoppjejeaaDoorPart36
import Derived.Test.YtnlhkgoppjejeaaDoorPart37
import Derived.Test.YtnlhkgoppjejeaaDoorPart12
import Derived.Test.YtnlhkgoppjejeaaDoorPart10
import Derived.Test.YtnlhkgoppjejeaaDoorPart42
import Derived.Test.YtnlhkgoppjejeaaDoorPart38
import Derived.Test.YtnlhkgoppjejeaaDoorPart39
import Derived.Test.YtnlhkgoppjejeaaDoorPart41
import Derived.Test.YtnlhkgoppjejeaaDoorPart27
import Derived.Test.YtnlhkgoppjejeaaDoorPart2
import Derived.Test.YtnlhkgoppjejeaaDoorPart25

/- What l3do of package spec does: list. -/
namespace Go.Proofs.YtnlhkgoppjejeaaDoor
open Go.RowKit
set_option maxRecDepth 100000
set_option linter.unusedVariables false
set_option linter.unusedSimpArgs false

theorem tab_do9:(Tryd.f50.body.bind (opsAt 9)).all (fun o=>tableS o 16 [0,1,3,4,5,6,7,8,9,10,2,11,12,13,14,15] [10,11,12,13,15] [15,16] 12)=true:=by kernel_rfl

set_option maxRecDepth 100000 in
set_option maxHeartbeats 8000000 in
theorem l3do_list (ga:Nat) (a:AccD) (S:Nat→Prop) (uid mode fl si:Int) (bx tt tx:List Int) (x0 x1 x2:Option Addr) (n0 n1 n2 m0 m1 m2:Nat) (w:World) (hp:AccP w S ga a)
  (hs0:∀ w',w.heap.size≤w'.heap.size→StayT w w' 5→Bs w' (.slice x0 n0 m0) bx) (hs1:∀ w',w.heap.size≤w'.heap.size→StayT w w' 5→Bs w' (.slice x1 n1 m1) tt) (hs2:∀ w',w.heap.size≤w'.heap.size→StayT w w' 5→Bs w' (.slice x2 n2 m2) tx)
  (hi64:I64 uid∧I64 mode∧I64 fl∧I64 si) (hcl:bx.length≤2000000∧tx.length≤2000000) (hsz:∀ x ∈ a.boxes,szX x≤900000) (hbl:a.boxes.length≤2000000)  :
  Calls Tryd.prog 50 #[.pointer (some ⟨ga,0,none⟩),.agg #[.int .i64 9,.slice x0 n0 m0,.slice x1 n1 m1,.int .i64 uid,.int .i64 mode,.int .i64 fl,.int .i64 si,.slice x2 n2 m2]] w (DoneA w S ga (a,⟨0,0,zeroX,(a.boxes.map fun x:BoxD=>x.name)⟩)):=by
 obtain ⟨S0,hS0e⟩:∃ S0:Nat→Prop,S0=fun k=>S k∧k < w.heap.size:=⟨_,rfl⟩
 have HSUB:Hid (∀ k,S0 k→S k):=by subst hS0e;exact fun k h=>h.1
 have HSL:Hid (∀ k,S0 k→k < w.heap.size):=by subst hS0e;exact fun k h=>h.2
 have HP:Hid (∀ w',Below w.heap.size w w'→AccP w' S0 ga a):=by subst hS0e;exact fun w' h=>hp.cut.below h
 clear hS0e
 have hlga:=hp.lt
 have HQ0:Hid (∀ w',w.heap.size≤w'.heap.size→StayT w w' 5→Bs w' (.slice x0 n0 m0) bx):=hs0
 have HQ1:Hid (∀ w',w.heap.size≤w'.heap.size→StayT w w' 5→Bs w' (.slice x1 n1 m1) tt):=hs1
 have HQ2:Hid (∀ w',w.heap.size≤w'.heap.size→StayT w w' 5→Bs w' (.slice x2 n2 m2) tx):=hs2
 have HI:Hid (I64 uid∧I64 mode∧I64 fl∧I64 si):=hi64
 have HSZ:Hid (∀ x ∈ a.boxes,szX x≤900000):=hsz
 obtain ⟨HB,HKC,HKR,hsW⟩:=heads2 w (.cells #[.int .i64 9,.slice x0 n0 m0,.slice x1 n1 m1,.int .i64 uid,.int .i64 mode,.int .i64 fl,.int .i64 si,.slice x2 n2 m2] 80) (.cells #[.int .i64 0,.int .i64 0,.slice none 0 0,.int .i64 0,.int .i64 0,.int .i64 0,.slice none 0 0,.slice none 0 0,.int .i64 0,.slice none 0 0] 84)
 clear hs0 hs1 hs2 hp hi64 hsz
 go_enter Tryd.func50,Tryd.ntmps50
 go_upto_region 1 with fail
 generalize ((w.alloc (.cells #[.int .i64 9,.slice x0 n0 m0,.slice x1 n1 m1,.int .i64 uid,.int .i64 mode,.int .i64 fl,.int .i64 si,.slice x2 n2 m2] 80)).alloc (.cells #[.int .i64 0,.int .i64 0,.slice none 0 0,.int .i64 0,.int .i64 0,.int .i64 0,.slice none 0 0,.slice none 0 0,.int .i64 0,.slice none 0 0] 84))=W at HB HKC HKR hsW ⊢
 have q0:W.cell? ⟨w.heap.size,0,none⟩=some (.int .i64 9):=cell_of_row W w.heap.size 0 _ _ (0,0) HKC.out
 have hlc:w.heap.size < W.heap.size:=by omega
 have AB0:Below W.heap.size W (W.alloc (.cells #[.int .i64 0,.int .i64 0,.slice none 0 0,.int .i64 0,.int .i64 0,.int .i64 0,.slice none 0 0,.slice none 0 0,.int .i64 0,.slice none 0 0] 84)):=(Below.refl _ _).alloc (Nat.le_refl _) _
 have HX0:Hid (Below w.heap.size w (W.alloc (.cells #[.int .i64 0,.int .i64 0,.slice none 0 0,.int .i64 0,.int .i64 0,.int .i64 0,.slice none 0 0,.slice none 0 0,.int .i64 0,.slice none 0 0] 84))):=Below.step HB.out AB0
 have HKR0:Hid _:=box_below AB0 HKR.out
 have HKO0:Hid ((W.alloc (.cells #[.int .i64 0,.int .i64 0,.slice none 0 0,.int .i64 0,.int .i64 0,.int .i64 0,.slice none 0 0,.slice none 0 0,.int .i64 0,.slice none 0 0] 84)).heap[w.heap.size+2]?=some (.cells #[.int .i64 0,.int .i64 0,.slice none 0 0,.int .i64 0,.int .i64 0,.int .i64 0,.slice none 0 0,.slice none 0 0,.int .i64 0,.slice none 0 0] 84 (0,0))):=by
  have h:=box_new W (.cells #[.int .i64 0,.int .i64 0,.slice none 0 0,.int .i64 0,.int .i64 0,.int .i64 0,.slice none 0 0,.slice none 0 0,.int .i64 0,.slice none 0 0] 84)
  rw [hsW] at h
  exact h
 have hsW1:(W.alloc (.cells #[.int .i64 0,.int .i64 0,.slice none 0 0,.int .i64 0,.int .i64 0,.int .i64 0,.slice none 0 0,.slice none 0 0,.int .i64 0,.slice none 0 0] 84)).heap.size=w.heap.size+3:=by simp [hsW]
 obtain ⟨i0,hi,hz0,hz1,hz2⟩:=info_parts info5
 obtain ⟨i1,hj,hy0,hy1,hy2⟩:=info_parts infoBy
 go_upto_region 6 with fail
 generalize (W.alloc (.cells #[.int .i64 0,.int .i64 0,.slice none 0 0,.int .i64 0,.int .i64 0,.int .i64 0,.slice none 0 0,.slice none 0 0,.int .i64 0,.slice none 0 0] 84))=W1 at HX0 HKR0 HKO0 hsW1 ⊢
 clear AB0 q0 HKR HKC HB
 go_wp2
 go_loopw [6] (fun iv wr=>∃ (k:Nat) (va:Option Addr) (vn vc:Nat),k≤a.boxes.length∧iv=.int .i64 k∧Hid (Below w.heap.size w wr)∧Hid (wr.heap[w.heap.size+1]?=some (.cells #[.int .i64 0,.int .i64 0,.slice none 0 0,.int .i64 0,.int .i64 0,.int .i64 0,.slice none 0 0,.slice none 0 0,.int .i64 0,.slice none 0 0] 84 (0,0)))∧Hid (wr.heap[w.heap.size+2]?=some (.cells #[.int .i64 0,.int .i64 0,.slice none 0 0,.int .i64 0,.int .i64 0,.int .i64 0,.slice none 0 0,.slice none 0 0,.int .i64 0,.slice va vn vc] 84 (0,0)))∧Hid (NamesO wr (In (w.heap.size+3) wr.heap.size) (.slice va vn vc) ((a.boxes.map fun x:BoxD=>x.name).take k))∧(w.heap.size+3)≤wr.heap.size) (fun iv _=>a.boxes.length - (intOf iv).toNat)
 case atStart=>exact ⟨0,none,0,0,Nat.zero_le _,rfl,HX0,HKR0,HKO0,.inl ⟨rfl,by simp⟩,by omega⟩
 case round =>
  obtain ⟨k,va,vn,vc,hk,rfl,HXr,HKR,HKO,HO,hs⟩:=hrel
  clear HX0 HKR0 HKO0
  have HAr:Hid (AccP wr S0 ga a):=HP.out wr HXr.out
  obtain ⟨v0,v1,-,c1,-,hbq,-⟩:=HAr.out.cells
  obtain ⟨e0,e1,rfl,-⟩:=hbq.v.form
  have hgar:=HAr.out.lt
  by_cases hlt:k < a.boxes.length
  ·obtain ⟨x,hx⟩:∃ x,a.boxes[k]?=some x:=⟨a.boxes[k],List.getElem?_eq_getElem hlt⟩
   obtain ⟨b,off,cp,t,z1,z2,hv',hlb,f0,-,-,-,-,-,-,ht,-⟩:=BoxesV.cell hbq.v k x hx
   simp only [Value.slice.injEq,true_and] at hv'
   obtain ⟨rfl,rfl⟩:=hv'
   have HT:Hid (Bs wr.drew t x.name):=ht.below (Below.refl _ _).drew
   obtain ⟨ta,tn,tc,rfl⟩:=ht.form3
   have HXX:Hid (a.boxes[k]?=some x):=hx
   have hki:(k:Int) < a.boxes.length:=by omega
   have hnl:x.name.length≤900000:=by have:=HSZ.out x (List.mem_of_getElem? hx);unfold szX at this;omega
   have hm1:x.name.length≤maxLen:=by unfold maxLen;omega
   have hm2:x.name.length * 1≤140737488355328:=by omega
   have hkl:((a.boxes.map fun x:BoxD=>x.name).take k).length=k:=by simp;omega
   have hp1:((a.boxes.map fun x:BoxD=>x.name).take k).length+1≤maxLen:=by rw [hkl];unfold maxLen;omega
   have hp2:(((a.boxes.map fun x:BoxD=>x.name).take k).length+1) * 24≤140737488355328:=by rw [hkl];omega
   obtain ⟨-,-,-,-,-,-,-,-,-,n9⟩:=bx10 HKO.out
   have hr2:w.heap.size+2 < wr.drew.heap.size:=by show _ < wr.heap.size;omega
   have hgad:ga < wr.drew.heap.size:=hgar
   have hlbd:b < wr.drew.heap.size:=hlb
   have hbN:b < (w.heap.size+3):=by
    have:=HSL.out b
    obtain ⟨g',c',-,e',-,-,-,-,hS',-⟩:=(Ow.el hbq).resolve_left (fun h=>by have:=h.1;cases this)
    cases e'
    have:=HSL.out _ hS'
    omega
   obtain ⟨oa,HGA'⟩:∃ o,wr.heap[ga]?=some o:=⟨_,(Array.getElem?_eq_getElem hgar)⟩
   obtain ⟨ob,HGB'⟩:∃ o,wr.heap[b]?=some o:=⟨_,(Array.getElem?_eq_getElem hlb)⟩
   have HGA:Hid (wr.drew.heap[ga]?=some oa):=HGA'
   have HGB:Hid (wr.drew.heap[b]?=some ob):=HGB'
   clear hx ht hbq hkl HGA' HGB' HAr
   go_upto_region 9 with fail
   refine wpS_begin 15 (S:=fun w'=>w'.cell? ⟨w.heap.size+2,9,none⟩=some (.slice va vn vc)∧w'.cell? ⟨ga,1,none⟩=some (.slice (some ⟨b,off,none⟩) a.boxes.length e1)∧w'.cell? ⟨b,off+k * 7,none⟩=some (.slice ta tn tc)) (tabS_of (by kernel_rfl) tab_do9) (by kernel_rfl) (⟨n9,c1,f0⟩) (fun hTb hHeld=>?_)
   refine tks 0 0 29 hTb hHeld ?_
   refine tks 1 1 30 hTb hHeld ?_
   refine tks 2 3 32 hTb hHeld ?_
   refine tks 3 4 33 hTb hHeld ?_
   refine tks 4 5 34 hTb hHeld ?_
   refine tks 5 6 35 hTb hHeld ?_
   refine tks 6 7 36 hTb hHeld ?_
   refine tks 7 8 37 hTb hHeld ?_
   refine tks 8 9 38 hTb hHeld ?_
   refine tks 9 10 39 hTb hHeld ?_
   refine cls 10 2 hTb (by decide) rfl rfl (fun K hK=>?_)
   go_simp
   have AE:Below wr.drew.heap.size wr.drew (wr.drew.alloc (.cells #[] 5)):=(Below.refl _ _).alloc (Nat.le_refl _) _
   have HOE:Hid _:=owns_empty wr.drew 5 1 wr.drew.heap.size (Nat.le_refl _)
   have HDE:Hid (Below wr.drew.heap.size wr.drew (wr.drew.alloc (.cells #[] 5))):=AE
   refine hK.out _ _ (⟨(AE.cell (p:=⟨w.heap.size+2,9,none⟩) hr2).trans n9,(AE.cell (p:=⟨ga,1,none⟩) hgad).trans c1,(AE.cell (p:=⟨b,_,none⟩) hlbd).trans f0⟩) (fun hHeld=>?_)
   clear hK K
   clear AE
   refine cls 11 11 hTb (by decide) rfl rfl (fun K hK=>?_)
   refine ite_w (by kernel_rfl) (wp_cat (B:=wr.drew.heap.size) 40 rfl (.tmp 31) (.tmp 39) rfl HOE.out (Bs.rd1 (HT.out.below HDE.out)) (one_byte _) Tryd.underlying22 hi hz0 hz1 hz2 rfl (by omega) rfl rfl hm1 hm2 HDE.out.size ?_)
   intro V1 x2 xs hO4 hX4 hG4 hB4
   have hR:RO x2 (fun k=>wr.drew.heap.size≤k) V1 x.name:=ro_of HT.out.1 hO4 hX4 (fun g hg=>own_ge hO4 hg)
   obtain ⟨y0,k0,j0,hV1⟩:=hR.bs.form3
   subst hV1
   have HR2:Hid (RO x2 (In wr.drew.heap.size x2.heap.size) (.slice y0 k0 j0) x.name):=ro_in hR
   have hG4':(wr.drew.alloc (.cells #[] 5)).grownBy x2 (some wr.drew.heap.size):=hG4
   have B2:Below wr.drew.heap.size wr.drew x2:=below_gr0 HDE.out hG4' (Nat.le_refl _)
   have HD2:Hid (Below wr.drew.heap.size wr.drew x2):=B2
   have s2:=B2.size
   clear hO4 hX4 hG4 hB4 hR hG4'
   refine hK.out _ _ (⟨(B2.cell (p:=⟨w.heap.size+2,9,none⟩) hr2).trans n9,(B2.cell (p:=⟨ga,1,none⟩) hgad).trans c1,(B2.cell (p:=⟨b,_,none⟩) hlbd).trans f0⟩) (fun hHeld=>?_)
   clear hK K
   clear B2
   refine cls 12 12 hTb (by decide) rfl rfl (fun K hK=>?_)
   go_simp
   have AB:Below x2.heap.size x2 (x2.alloc (.cells #[.slice y0 k0 j0] 22)):=(Below.refl _ _).alloc (Nat.le_refl _) _
   have HD3:Hid (Below wr.drew.heap.size wr.drew (x2.alloc (.cells #[.slice y0 k0 j0] 22))):=Below.step HD2.out AB
   have HE3:Hid (NameE (x2.alloc (.cells #[.slice y0 k0 j0] 22)) [.slice y0 k0 j0] x.name (In wr.heap.size (x2.alloc (.cells #[.slice y0 k0 j0] 22)).heap.size)):=⟨_,rfl,(HR2.out.below AB).mono fun k h=>⟨h.1,Nat.lt_of_lt_of_le h.2 AB.size⟩⟩
   have HO3:Hid (NamesO (x2.alloc (.cells #[.slice y0 k0 j0] 22)) (In (w.heap.size+3) wr.heap.size) (.slice va vn vc) ((a.boxes.map fun x:BoxD=>x.name).take k)):=Ow.below framesName HO.out (Below.step (Below.refl _ _).drew HD3.out)
   have HCN:Hid _:=cells_new x2 #[.slice y0 k0 j0] 22
   have s3:=HD3.out.size
   refine hK.out _ _ (⟨(HD3.out.cell (p:=⟨w.heap.size+2,9,none⟩) hr2).trans n9,(HD3.out.cell (p:=⟨ga,1,none⟩) hgad).trans c1,(HD3.out.cell (p:=⟨b,_,none⟩) hlbd).trans f0⟩) (fun hHeld=>?_)
   clear hK K
   clear AB
   refine cls 13 13 hTb (by decide) rfl rfl (fun K hK=>?_)
   refine ite_w (by kernel_rfl) (wp_push 42 rfl (.tmp 30) (.tmp 41) rfl framesName (B:=(w.heap.size+3)) (M:=wr.heap.size) HO3.out s3 hs Tryd.underlying82 hj hy0 hy1 hy2 rfl (by omega) rfl x.name [.slice y0 k0 j0] rfl HE3.out ⟨x2.heap.size,0,none⟩ 1 rfl HCN.out (by simp [Value.oneCell']) hp1 hp2 ?_)
   intro DV wz hO hgz hvz
   obtain ⟨da,dn,dc,hDV⟩:=OwF.form3 hO
   subst hDV
   have hge:∀ j,(Value.slice va vn vc).ownBlock=some j→(w.heap.size+3)≤j:=fun j hj=>(hvz j hj).1
   have HKX:=hidm' (grown_at hgz hge (box_below HD3.out HKO.out) (by omega))
   have HKRz:=hidm' (grown_at hgz hge (box_below HD3.out HKR.out) (by omega))
   have HBz:Hid (Below w.heap.size w wz):=grown_below (Below.step HXr.out.drew HD3.out) hgz hge (by omega) (by have:=HD3.out.size;have:=HXr.out.size;omega)
   have sz:wr.heap.size≤wz.heap.size:=Nat.le_trans HD3.out.size hgz.size
   have HOz:Hid _:=hO
   obtain ⟨t0,t1,t2,t3,t4,t5,t6,t7,t8,t9⟩:=bx10 HKX.out
   have hac:=grown_at hgz hge (box_below HD3.out HGA.out) (by omega)
   have hbc:=grown_at hgz hge (box_below HD3.out HGB.out) (by omega)
   clear hO hgz hvz hge
   refine hK.out _ _ (⟨t9,(show wz.cell? ⟨ga,1,none⟩=wr.drew.cell? ⟨ga,1,none⟩ from World.cell?_of_block (w:=wr.drew) (hac.trans HGA.out.symm)).trans c1,(show wz.cell? ⟨b,off+k * 7,none⟩=wr.drew.cell? ⟨b,off+k * 7,none⟩ from World.cell?_of_block (w:=wr.drew) (hbc.trans HGB.out.symm)).trans f0⟩) (fun hHeld=>?_)
   clear hK K
   refine tks 14 14 43 hTb hHeld ?_
   refine wpS_next (S':=fun w'=>True) 15 16 hTb (by decide) (trivial) (fun hHeld=>?_)
   refine cls 15 15 hTb (by decide) rfl rfl (fun K hK=>?_)
   have fz9:∀ i,wz.frozen? ⟨w.heap.size+2,i,none⟩=false:=fun i=>frozen_of_row wz _ i _ _ HKX.out
   have hl9:=lt_of_heap HKX.out
   go_simp
   refine hK.out _ _ (trivial) (fun hHeld=>?_)
   clear hK K
   refine wpS_end hTb ?_
   have HX9:Hid ((wz.setCell ⟨w.heap.size+2,9,none⟩ (.slice da dn dc)).heap[w.heap.size+2]?=some (.cells #[.int .i64 0,.int .i64 0,.slice none 0 0,.int .i64 0,.int .i64 0,.int .i64 0,.slice none 0 0,.slice none 0 0,.int .i64 0,.slice da dn dc] 84 (0,0))):=box_set (i:=9) (v:=.slice da dn dc) HKX.out
   have HKR9:=hidm' (box_other (k:=w.heap.size+2) (i:=9) (v:=.slice da dn dc) HKRz.out (by omega))
   have HB9:Hid (Below w.heap.size w (wz.setCell ⟨w.heap.size+2,9,none⟩ (.slice da dn dc))):=HBz.out.setCell (p:=⟨w.heap.size+2,9,none⟩) (by simp) _
   have hfx:(a.boxes.map fun x:BoxD=>x.name).take (k+1)=(a.boxes.map fun x:BoxD=>x.name).take k ++ [x.name]:=by rw [take_snoc];rw [List.getElem?_map,HXX.out];rfl
   have HO9:Hid (NamesO (wz.setCell ⟨w.heap.size+2,9,none⟩ (.slice da dn dc)) (In (w.heap.size+3) (wz.setCell ⟨w.heap.size+2,9,none⟩ (.slice da dn dc)).heap.size) (.slice da dn dc) ((a.boxes.map fun x:BoxD=>x.name).take (k+1))):=by
    show NamesO _ _ _ _
    rw [hfx,box_size]
    exact Ow.frame framesName HOz.out fun j hj _=>Below.heap_setCell _ _ _ _ (show j≠w.heap.size+2 by have:=hj.1;omega)
   have hs9:(w.heap.size+3)≤(wz.setCell ⟨w.heap.size+2,9,none⟩ (.slice da dn dc)).heap.size:=by rw [box_size];omega
   clear HKX HKRz HBz HOz HO HKO HKR HXr hfx fz9 hl9 HO3 HE3 HD3 HD2 HDE HR2 HOE HCN t0 t1 t2 t3 t4 t5 t6 t7 t8 t9 n9 f0 c1 hac hbc HGA HGB HT
   go_wp2
   go_roundw
   case rel=>exact ⟨k+1,da,dn,dc,by omega,by go_num,HB9,HKR9,HX9,HO9,hs9⟩
   case measure=>simp [intOf];omega
  ·obtain rfl:k=a.boxes.length:=by omega
   have HOF:Hid (NamesO wr (In (w.heap.size+3) wr.heap.size) (.slice va vn vc) (a.boxes.map fun x:BoxD=>x.name)):=by have h:=HO.out;rw [List.take_of_length_le (by simp)] at h;exact h
   obtain ⟨n0',n1',n2',n3',n4',n5',n6',n7',n8',n9'⟩:=bx10 HKO.out
   obtain ⟨r0,r1,r2,r3,r4,r5,r6,r7,r8,r9⟩:=bx10 HKR.out
   have fz:∀ i,wr.frozen? ⟨w.heap.size+1,i,none⟩=false:=fun i=>frozen_of_row wr _ i _ _ HKR.out
   have hlr:=lt_of_heap HKR.out
   have hlo:=lt_of_heap HKO.out
   have HRS:Hid (RepS wr (w.heap.size+3) (.agg #[.int .i64 0,.int .i64 0,.slice none 0 0,.int .i64 0,.int .i64 0,.int .i64 0,.slice none 0 0,.slice none 0 0,.int .i64 0,.slice va vn vc]) ⟨0,0,zeroX,(a.boxes.map fun x:BoxD=>x.name)⟩):=⟨fun w' hs' hk'=>⟨_,_,_,_,rfl,⟨_,_,_,rfl,bs_nil' _,Rd.nil _,Rd.nil _,i64c0,i64c0,i64c0,i64c0⟩,(Ow.frame framesName HOF.out fun j hj h2=>hk' j hj.1 h2).rd fun _ _ _ _=>NameE.rd,i64c0,i64c0⟩,_,_,_,_,_,_,_,_,_,_,rfl,.inr ⟨⟨rfl,rfl,rfl⟩,HOF.out⟩⟩
   have HF:Hid _:=rep_putA (w:=w) (ga:=ga) (S:=S0) (S':=S0) HKR.out (by omega) (TurnsA.below HXr.out) a HAr.out hlga (fun h=>by have:=HSL.out _ h;omega) _ (.int .i64 0) (.int .i64 0) (.slice none 0 0) (.int .i64 0) (.int .i64 0) (.int .i64 0) (.slice none 0 0) (.slice none 0 0) (.int .i64 0) (.slice va vn vc) HRS.out (by omega)
   clear hbq HAr
   go_wp2
   obtain ⟨f0,f1,f2,f3,f4,f5,f6,f7,f8,f9⟩:=bx10 HF.out.1
   refine bodyPost_ret (v:=.agg #[.int .i64 0,.int .i64 0,.slice none 0 0,.int .i64 0,.int .i64 0,.int .i64 0,.slice none 0 0,.slice none 0 0,.int .i64 0,.slice va vn vc]) (by simp [results,Tryd.results50,go_sem,f0,f1,f2,f3,f4,f5,f6,f7,f8,f9]) rfl ⟨_,S0,rfl,HF.out.2.2.2,TurnsA.wide HF.out.2.1 HSUB.out,HF.out.2.2.1,fun k h=>.inl (HSUB.out k h)⟩


end Go.Proofs.YtnlhkgoppjejeaaDoor

/- What l3do of package spec does: every command, in one contract. -/
namespace Go.Proofs.YtnlhkgoppjejeaaDoor
open Go.RowKit
set_option linter.unusedVariables false
set_option linter.unusedSimpArgs false

/-- A text that is read wherever the bytes stay. -/
def StayB (w:World) (v:Value) (l:List Int):Prop:=∀ w':World,w.heap.size≤w'.heap.size→StayT w w' 5→Bs w' v l
theorem StayB.bs {w:World} {v:Value} {l:List Int} (h:StayB w v l):Bs w v l:=h w (Nat.le_refl _) (StayT.refl _ _)
theorem StayB.on {w w':World} {v:Value} {l:List Int} (h:StayB w v l) (hs:w.heap.size≤w'.heap.size) (ht:StayT w w' 5):StayB w' v l:=fun w'' hs' ht'=>h w'' (Nat.le_trans hs hs') (ht.trans ht')
theorem StayB.below {w w':World} {v:Value} {l:List Int} (h:StayB w v l) (hb:Below w.heap.size w w'):StayB w' v l:=h.on hb.size (stay_below hb)
/-- A command that is read wherever the bytes stay. -/
def CmdS (w:World) (v:Value) (c:CmdD):Prop :=
 ∃ u0 u1 u2,v=.agg #[.int .i64 c.k,u0,u1,.int .i64 c.uid,.int .i64 c.mode,.int .i64 c.fl,.int .i64 c.si,u2]∧StayB w u0 c.bx∧StayB w u1 c.tt∧StayB w u2 c.tx∧I64 c.k∧I64 c.uid∧I64 c.mode∧I64 c.fl∧I64 c.si
theorem CmdS.on {w w':World} {v:Value} {c:CmdD} (h:CmdS w v c) (hs:w.heap.size≤w'.heap.size) (ht:StayT w w' 5):CmdS w' v c :=
 let ⟨u0,u1,u2,e,h0,h1,h2,r⟩:=h;⟨u0,u1,u2,e,h0.on hs ht,h1.on hs ht,h2.on hs ht,r⟩
theorem CmdS.below {w w':World} {v:Value} {c:CmdD} (h:CmdS w v c) (hb:Below w.heap.size w w'):CmdS w' v c:=h.on hb.size (stay_below hb)

theorem l3do_r (ga:Nat) (a:AccD) (c:CmdD) (S:Nat→Prop) (v:Value) (w:World) (hp:AccP w S ga a) (hc:CmdS w v c) (hcl:c.bx.length≤2000000∧c.tx.length≤2000000) (hsz:∀ x ∈ a.boxes,szX x≤900000) (hbl:a.boxes.length≤2000000) :
  Calls Tryd.prog 50 #[.pointer (some ⟨ga,0,none⟩),v] w (DoneA w S ga (doD a c)):=by
 obtain ⟨u0,u1,u2,rfl,h0,h1,h2,ik,hi⟩:=hc
 obtain ⟨x0,n0,m0,rfl⟩:=h0.bs.form3
 obtain ⟨x1,n1,m1,rfl⟩:=h1.bs.form3
 obtain ⟨x2,n2,m2,rfl⟩:=h2.bs.form3
 obtain ⟨k,bx,tt,uid,mode,fl,si,tx⟩:=c
 simp only at h0 h1 h2 ik hi hcl ⊢
 unfold doD
 simp only
 by_cases k0:k=0
 ·subst k0
  rw [if_pos rfl]
  exact l3do_create ga a S uid mode fl si bx tt tx x0 x1 x2 n0 n1 n2 m0 m1 m2 w hp h0 h1 h2 hi hcl hsz hbl _ rfl
 rw [if_neg k0]
 by_cases k9:k=9
 ·subst k9
  rw [if_pos rfl]
  exact l3do_list ga a S uid mode fl si bx tt tx x0 x1 x2 n0 n1 n2 m0 m1 m2 w hp h0 h1 h2 hi hcl hsz hbl
 rw [if_neg k9]
 cases hf:a.boxes.findIdx? (fun x:BoxD=>decide (x.name=bx)) with
 | none=>exact l3do_none ga a S k uid mode fl si bx tt tx x0 x1 x2 n0 n1 n2 m0 m1 m2 w hp h0 h1 h2 hi hcl hsz hbl k0 k9 (first_none hf)
 | some j =>
  obtain ⟨e1,b,hb⟩:=first_some hf
  simp only [hb]
  by_cases k1:k=1
  ·subst k1
   rw [if_pos rfl]
   exact l3do_del ga a S uid mode fl si bx tt tx x0 x1 x2 n0 n1 n2 m0 m1 m2 w hp h0 h1 h2 hi hcl hsz hbl j b hb e1
  rw [if_neg k1]
  by_cases k2:k=2
  ·subst k2
   rw [if_pos rfl]
   cases hr:roomB b 1 with
   | true=>exact l3do_app ga a S uid mode fl si bx tt tx x0 x1 x2 n0 n1 n2 m0 m1 m2 w hp h0 h1 h2 hi hcl hsz hbl j b hb e1 hr
   | false=>exact l3do_appFull ga a S uid mode fl si bx tt tx x0 x1 x2 n0 n1 n2 m0 m1 m2 w hp h0 h1 h2 hi hcl hsz hbl j b hb e1 hr
  rw [if_neg k2]
  by_cases k3:k=3
  ·subst k3
   rw [if_pos rfl]
   exact l3do_store ga a S uid mode fl si bx tt tx x0 x1 x2 n0 n1 n2 m0 m1 m2 w hp h0 h1 h2 hi hcl hsz hbl j b hb e1 _ rfl
  rw [if_neg k3]
  by_cases k4:k=4
  ·subst k4
   rw [if_pos rfl]
   exact l3do_exp ga a S uid mode fl si bx tt tx x0 x1 x2 n0 n1 n2 m0 m1 m2 w hp h0 h1 h2 hi hcl hsz hbl j b hb e1 _ rfl
  rw [if_neg k4]
  by_cases k6:k=6
  ·subst k6
   rw [if_pos rfl]
   exact l3do_copy ga a S uid mode fl si bx tt tx x0 x1 x2 n0 n1 n2 m0 m1 m2 w hp h0 h1 h2 hi hcl hsz hbl j b hb e1 _ rfl
  rw [if_neg k6]
  by_cases k8:k=8
  ·subst k8
   rw [if_pos rfl]
   exact l3do_chg ga a S uid mode fl si bx tt tx x0 x1 x2 n0 n1 n2 m0 m1 m2 w hp h0 h1 h2 hi hcl hsz hbl j b hb e1 _ rfl
  rw [if_neg k8]
  by_cases k7:k=7
  ·subst k7
   rw [if_pos rfl]
   exact l3do_sta ga a S uid mode fl si bx tt tx x0 x1 x2 n0 n1 n2 m0 m1 m2 w hp h0 h1 h2 hi hcl hsz hbl j b hb e1
  rw [if_neg k7]
  cases hg:b.mails.findIdx? (fun m:MailD=>decide (m.uid=uid)) with
  | none=>exact l3do_fetch0 ga a S k uid mode fl si bx tt tx x0 x1 x2 n0 n1 n2 m0 m1 m2 w hp h0 h1 h2 hi hcl hsz hbl j b hb e1 ⟨k0,k9,k1,k2,k3,k4,k6,k8,k7⟩ (first_none hg)
  | some i =>
   obtain ⟨e2,m,hm⟩:=first_some hg
   exact l3do_fetch1 ga a S k uid mode fl si bx tt tx x0 x1 x2 n0 n1 n2 m0 m1 m2 w hp h0 h1 h2 hi hcl hsz hbl j b hb e1 ⟨k0,k9,k1,k2,k3,k4,k6,k8,k7⟩ i m hm e2 _ rfl

end Go.Proofs.YtnlhkgoppjejeaaDoor

/- What commands leave of an account stays small, on lists. -/
namespace Go.Proofs.YtnlhkgoppjejeaaDoor
open Go.RowKit
set_option linter.unusedSimpArgs false

/-- A box as drawn commands leave one. -/
def InvX (x:BoxD):Prop:=x.name.length≤6∧x.mails.length≤12∧(∀ m ∈ x.mails,m.text.length≤30)∧x.gones.length≤40
def InvA (a:AccD):Prop:=a.boxes.length≤4∧∀ x ∈ a.boxes,InvX x
theorem szM_le30 {l:List MailD} (h:∀ m ∈ l,m.text.length≤30):szM l≤31 * l.length:=by
 induction l with
 | nil=>simp [szM]
 | cons m l ih =>
  have h1:=h m (by simp)
  have h2:=ih fun m hm=>h m (by simp [hm])
  simp only [szM,List.map_cons,List.sum_cons,List.length_cons] at h2 ⊢
  omega
theorem InvX.sz {x:BoxD} (h:InvX x):szX x≤900000:=by
 have:=szM_le30 h.2.2.1
 have h1:=h.1
 have h2:=h.2.1
 have h4:=h.2.2.2
 unfold szX
 omega
theorem InvA.set {a:AccD} {k:Nat} {b:BoxD} (h:InvA a) (hb:InvX b):InvA (setB a k b):=by
 refine ⟨by simpa [setB] using h.1,fun x hx=>?_⟩
 rcases List.mem_or_eq_of_mem_set hx with hx | rfl
 ·exact h.2 x hx
 ·exact hb
theorem trimG_forty (l:List GoneD):∀ lost:Int,(trimG lost l).2.length≤40:=by
 induction l with
 | nil=>intro _;simp [trimG]
 | cons x l ih =>
  intro lost
  rw [trimG]
  split
  ·exact ih x.seq
  ·simp only [List.length_cons];omega
theorem InvX.seq {b:BoxD} (h:InvX b):InvX (seqX b):=h
theorem InvX.drop {b:BoxD} {i:Nat} (h:InvX b):InvX (dropX b i)∧(dropX b i).mails.length≤b.mails.length∧(i < b.mails.length→(dropX b i).mails.length+1=b.mails.length):=by
 unfold dropX
 cases hm:b.mails[i]? with
 | none =>
  have:=List.getElem?_eq_none_iff.1 hm
  exact ⟨h,Nat.le_refl _,fun h=>by omega⟩
 | some m =>
  have hi:=(List.getElem?_eq_some_iff.1 hm).1
  have hl:(b.mails.take i ++ b.mails.drop (i+1)).length+1=b.mails.length:=by rw [List.length_append,List.length_take,List.length_drop];omega
  refine ⟨⟨h.1,by simp only;have:=h.2.1;omega,fun x hx=>?_,trimG_forty _ _⟩,by simp only;omega,fun _=>hl⟩
  rcases List.mem_append.1 hx with hx | hx
  ·exact h.2.2.1 x (List.mem_of_mem_take hx)
  ·exact h.2.2.1 x (List.mem_of_mem_drop hx)
theorem InvX.add {b:BoxD} {fl:Int} {tx:List Int} (h:InvX b) (hm:b.mails.length+1≤12) (ht:tx.length≤30):InvX (addX b fl tx):=by
 refine ⟨h.1,by simpa [addX] using hm,fun m hx=>?_,h.2.2.2⟩
 simp only [addX,List.mem_append,List.mem_singleton] at hx
 rcases hx with hx | rfl
 ·exact h.2.2.1 m hx
 ·exact ht
theorem InvX.store {b:BoxD} {uid mode fl si:Int} (h:InvX b):InvX (storeX b uid mode fl si).1:=by
 unfold storeX
 split
 ·exact h
 ·split
  ·exact h
  ·rename_i i _ m hm
   split
   ·exact h
   ·split
    ·exact h
    ·split
     ·exact h
     ·refine ⟨h.1,by simpa using h.2.1,fun x hx=>?_,h.2.2.2⟩
      rcases List.mem_or_eq_of_mem_set hx with hx | rfl
      ·exact h.2.2.1 x hx
      ·exact h.2.2.1 m (List.mem_of_getElem? hm)
theorem InvX.loop:∀ (n:Nat) (b:BoxD) (i:Nat),InvX b→InvX (expLoop n b i)
 | 0,b,_,h=>h
 | n+1,b,i,h=>by
  rw [expLoop]
  split
  ·exact h
  ·split
   ·exact InvX.loop n _ _ h.drop.1
   ·exact InvX.loop n _ _ h
theorem InvX.exp {b:BoxD} (h:InvX b):InvX (expungeX b).1:=by
 unfold expungeX
 split
 ·exact h
 ·split
  ·exact h
  ·exact InvX.loop _ _ _ h.seq
theorem room_le {b:BoxD} {n:Int} (h:roomB b n=true):(b.mails.length:Int)+n≤12:=by
 simp only [roomB,Bool.and_eq_true,decide_eq_true_eq] at h
 exact h.2.2
theorem InvA.copy {a:AccD} {k:Nat} {b:BoxD} {tt:List Int} {uid mode:Int} (h:InvA a) (hb:a.boxes[k]?=some b):InvA (copyA a k b tt uid mode).1:=by
 have hbx:=h.2 b (List.mem_of_getElem? hb)
 unfold copyA
 split
 ·rename_i i t hi ht
  split
  ·rename_i m bt hm hbt
   have hil:=(List.getElem?_eq_some_iff.1 hm).1
   have hmt:=hbx.2.2.1 m (List.mem_of_getElem? hm)
   by_cases hno:roomB bt (if mode=1∧t=k then 0 else 1)=false∨(mode=1∧999999≤b.seq)
   ·rw [if_pos hno];exact h
   ·rw [if_neg hno]
    have hroom:roomB bt (if mode=1∧t=k then 0 else 1)=true:=by
     cases hr:roomB bt (if mode=1∧t=k then 0 else 1) with
     | true=>rfl
     | false=>exact absurd (Or.inl hr) hno
    have hle:=room_le hroom
    have h1:InvA (if mode=1 then setB a k (dropX (seqX b) i) else a):=by
     split
     ·exact h.set hbx.seq.drop.1
     ·exact h
    simp only
    cases hbu:(if mode=1 then setB a k (dropX (seqX b) i) else a).boxes[t]? with
    | some bu =>
     refine h1.set (InvX.add (h1.2 bu (List.mem_of_getElem? hbu)) ?_ hmt)
     by_cases hm1:mode=1
     ·rw [if_pos hm1] at hbu
      simp only [setB] at hbu
      by_cases htk:t=k
      ·subst htk
       have hkl:=(List.getElem?_eq_some_iff.1 hb).1
       rw [List.getElem?_set_self hkl] at hbu
       cases hbu
       have hd:=(hbx.seq.drop (i:=i)).2.2 hil
       have hb12:=hbx.2.1
       have hsq:(seqX b).mails.length=b.mails.length:=rfl
       omega
      ·rw [List.getElem?_set_ne (Ne.symm htk),hbt] at hbu
       cases hbu
       rw [if_neg (fun h=>htk h.2)] at hle
       omega
     ·rw [if_neg hm1,hbt] at hbu
      cases hbu
      rw [if_neg (fun h=>hm1 h.1)] at hle
      omega
    | none=>exact h1
  ·exact h
 ·exact h
theorem inv_do {a:AccD} {c:CmdD} (h:InvA a) (hb:c.bx.length≤6) (ht:c.tx.length≤30):InvA (doD a c).1:=by
 unfold doD
 split
 ·unfold createA
  split
  ·exact h
  ·split
   ·exact h
   ·rename_i hf
    have h4:a.boxes.length < 4:=by omega
    refine ⟨?_,fun x hx=>?_⟩
    ·have:=congrArg List.length (List.takeWhile_append_dropWhile (p:=fun x:BoxD=>lessB x.name c.bx) (l:=a.boxes))
     rw [List.length_append] at this
     simp only [List.length_append,List.length_cons]
     omega
    ·simp only [List.mem_append,List.mem_cons] at hx
     rcases hx with hx | rfl | hx
     ·exact h.2 x ((List.takeWhile_sublist _).subset hx)
     ·exact ⟨hb,by simp,by simp,by simp⟩
     ·exact h.2 x ((List.dropWhile_sublist _).subset hx)
 ·split
  ·exact h
  ·split
   ·exact h
   ·split
    ·exact h
    ·rename_i k _ b hk
     have hx:=h.2 b (List.mem_of_getElem? hk)
     split
     ·refine ⟨?_,fun x hx=>?_⟩
      ·have:=h.1
       simp only [List.length_append,List.length_take,List.length_drop]
       omega
      ·rcases List.mem_append.1 hx with hx | hx
       ·exact h.2 x (List.mem_of_mem_take hx)
       ·exact h.2 x (List.mem_of_mem_drop hx)
     split
     ·split
      ·rename_i hr
       exact h.set (hx.add (by have:=room_le hr;omega) ht)
      ·exact h
     split
     ·exact h.set hx.store
     split
     ·exact h.set hx.exp
     split
     ·exact h.copy hk
     split
     ·exact h
     split
     ·exact h
     split
     ·exact h
     ·exact h
end Go.Proofs.YtnlhkgoppjejeaaDoor

/- What a drawn command and an account that is turned have in common: the draws of accounts. -/
namespace Go.Proofs.YtnlhkgoppjejeaaDoor
open Go.RowKit
set_option linter.unusedVariables false
set_option linter.unusedSimpArgs false

section
variable {w0 wI w w' : World} {g ga : Nat} {S : Nat → Prop} {cv u v : Value} {L l : List Int} {c : CmdD} {a : AccD}
theorem OwnX.stay (h:OwnX w v l):StayB w v l:=by
 intro w' hs ht
 rcases h with ⟨rfl,rfl⟩ | ⟨q,h⟩
 ·exact bs_nil w'
 ·refine (h.frame (ht q ?_)).bs
  obtain ⟨-,cap,cur,fz,-,hh,-⟩:=h
  exact ⟨_,_,hh⟩
/-- A command that was drawn is read wherever the bytes stay. -/
theorem cmdS_of (h:CmdW wI w u c) (hv:CmdV w u c.k c.bx c.tt c.uid c.mode c.fl c.si c.tx):CmdS w u c:=by
 obtain ⟨a0,n0,c0,a1,n1,c1,v2,rfl,-,-,-,-,T,o0,o1⟩:=h
 obtain ⟨u0,u1,u2,-,-,-,-,r⟩:=hv
 refine ⟨_,_,_,rfl,o0.stay,o1.stay,OwnX.stay ?_,r⟩
 rcases T with T | ⟨q,t,-⟩
 ·exact .inl T
 ·exact .inr ⟨q,t⟩
theorem Cur.ty (h:Cur w0 w g cv L):Ty w g 69:=by
 obtain ⟨-,-,-,i,q,-,-,hh⟩:=h
 exact ⟨_,_,hh⟩
/-- What stays while the cursor draws. -/
theorem Cur.stay {t:TypeId} (h:Cur w0 w g cv L) (hG:w.grownBy w' (some g)) (hne:t≠69):StayT w w' t:=by
 intro k hk
 obtain ⟨cs,fz,hh⟩:=hk
 refine hG.block k (lt_of_heap hh) fun e=>?_
 cases e
 exact ty_ne hh h.ty hne
theorem AccP.draw (h:AccP w S ga a) (hC:Cur w0 w g cv L) (hG:w.grownBy w' (some g)) (hS:¬ S g):AccP w' S ga a:=by
 have hga:ga≠g:=fun e=>by
  subst e
  obtain ⟨cs,fz,hh⟩:=h.ty
  exact ty_ne hh hC.ty (by decide)
 exact h.oth hG.size (hG.block ga h.lt (by simpa using hga)) (fun k hk hl=>hG.block k hl (by simp only [ne_eq,Option.some.injEq];exact fun e=>hS (e ▸ hk))) (hC.stay hG (by decide)) (hC.stay hG (by decide)) (hC.stay hG (by decide))
/-- The cursor stays while the account is turned. -/
theorem Cur.turns (h:Cur w0 w g cv L) (hT:TurnsA w w' S ga) (hg:g≠ga) (hS:¬ S g) (h0:w0.heap.size≤ga) (hS0:∀ k,S k→w0.heap.size≤k):Cur w0 w' g cv L:=by
 obtain ⟨h1,hb,h3,i,q,h4,h5,hh⟩:=h
 obtain ⟨t1,t2,-,-,t5,t6,t7,-⟩:=hT
 have hs:=hb.size
 refine ⟨h1,⟨t5.trans hb.os,t6.trans hb.tape,t7.trans hb.output,Nat.le_trans hs t1,fun k hk=>(t2 k (by omega) (by omega) (fun h=>by have:=hS0 k h;omega)).trans (hb.block k hk)⟩,h3,i,q,h4,h5,(t2 g (lt_of_heap hh) hg hS).trans hh⟩
theorem gb_turns (h:wI.grownBy w (some g)) (hT:TurnsA w w' S ga) (h0:wI.heap.size≤ga) (hS0:∀ k,S k→wI.heap.size≤k):wI.grownBy w' (some g):=by
 obtain ⟨t1,t2,-,-,t5,t6,t7,-⟩:=hT
 have hs:=h.size
 exact ⟨t5.trans h.os,t6.trans h.tape,t7.trans h.output,Nat.le_trans hs t1,fun k hk hne=>(t2 k (by omega) (by omega) (fun h=>by have:=hS0 k h;omega)).trans (h.block k hk hne)⟩
end
/-- Where l3account stands: the cursor, the result's variable, the account behind it. -/
structure ASt (w0 wI w:World) (g:Nat) (cv:Value) (L:List Int) (a:AccD) (S:Nat→Prop):Prop where
 cur:Cur w0 w g cv L
 gr:wI.grownBy w (some g)
 res:w.heap[wI.heap.size]?=some (.cells #[.int .i64 0,.slice none 0 0,.slice none 0 0] 26 (0,0))
 acc:AccP w S (wI.heap.size+1) a
 inv:InvA a
 low:∀ k,S k→wI.heap.size+2≤k
 high:∀ k,S k→k < w.heap.size
section
variable {w0 wI w w' : World} {g : Nat} {S S' : Nat → Prop} {cv : Value} {L : List Int} {a a' : AccD}
theorem ASt.draw (h:ASt w0 wI w g cv L a S) (hg:g < wI.heap.size) (hC:Cur w0 w' g cv L) (hG:w.grownBy w' (some g)):ASt w0 wI w' g cv L a S :=
 ⟨hC,gb_trans' h.gr hG,(hG.block _ (lt_of_heap h.res) (by simp;omega)).trans h.res,h.acc.draw h.cur hG fun hs=>by have:=h.low _ hs;omega,h.inv,h.low,fun k hk=>Nat.lt_of_lt_of_le (h.high k hk) hG.size⟩
theorem ASt.below (h:ASt w0 wI w g cv L a S) (hb:Below w.heap.size w w'):ASt w0 wI w' g cv L a S :=
 ⟨h.cur.below hb,gb_below' h.gr hb,box_below hb h.res,h.acc.below hb,h.inv,h.low,fun k hk=>Nat.lt_of_lt_of_le (h.high k hk) hb.size⟩
theorem ASt.turn (h:ASt w0 wI w g cv L a S) (hg:g < wI.heap.size) (hT:TurnsA w w' S (wI.heap.size+1)) (hA:AccP w' S' (wI.heap.size+1) a') (hS:∀ k,S' k→S k∨w.heap.size≤k) (hI:InvA a'):ASt w0 wI w' g cv L a' (fun k=>S' k∧k < w'.heap.size):=by
 have h0:=h.cur.1
 have hl:=h.acc.lt
 have hlo:=h.low
 refine ⟨h.cur.turns hT (by omega) (fun hs=>by have:=hlo _ hs;omega) (by omega) (fun k hk=>by have:=hlo _ hk;omega),gb_turns h.gr hT (by omega) (fun k hk=>by have:=hlo _ hk;omega),(hT.2.1 _ (lt_of_heap h.res) (by omega) (fun hs=>by have:=hlo _ hs;omega)).trans h.res,hA.cut,hI,fun k hk=>?_,fun k hk=>hk.2⟩
 rcases hS k hk.1 with hk | hk
 ·exact hlo k hk
 ·omega
/-- One more that it has seen. -/
theorem ASt.push {w1 w2:World} {B:Nat} {u0 u1 v:Value} {x:Int} (h:ASt w0 wI w g cv L a S) (hg:g < wI.heap.size) (hu:w.heap[wI.heap.size+1]?=some (.cells #[.int .i64 a.valid,u0,u1] 26 (0,0))) (hI:IntsO w (In B w.heap.size) u1 a.seen) (hSB:∀ k,S k→k < B) (hB:wI.heap.size+2≤B) (hB':B≤w.heap.size) (hb:Below w.heap.size w w1)
  (hO:IntsO w2 (In B w2.heap.size) v (a.seen ++ [x])) (hG:w1.grownBy w2 u1.ownBlock) (hv:∀ g,u1.ownBlock=some g→B≤g∧g < w.heap.size) :
  ASt w0 wI (w2.setCell ⟨wI.heap.size+1,2,none⟩ v) g cv L ⟨a.valid,a.boxes,a.seen ++ [x]⟩ S∧(w2.setCell ⟨wI.heap.size+1,2,none⟩ v).heap[wI.heap.size+1]?=some (.cells #[.int .i64 a.valid,u0,v] 26 (0,0))∧IntsO (w2.setCell ⟨wI.heap.size+1,2,none⟩ v) (In B (w2.setCell ⟨wI.heap.size+1,2,none⟩ v).heap.size) v (a.seen ++ [x]):=by
 have hX:Below B w w2:=grown_below (hb.mono hB') hG (fun g h=>(hv g h).1) (Nat.le_refl _) (Nat.le_trans hB' hb.size)
 have hoth:∀ k,k≠wI.heap.size+1→(w2.setCell ⟨wI.heap.size+1,2,none⟩ v).heap[k]?=w2.heap[k]?:=fun k h=>Below.heap_setCell _ _ _ _ h
 have hlow:∀ k,k < B→k≠wI.heap.size+1→(w2.setCell ⟨wI.heap.size+1,2,none⟩ v).heap[k]?=w.heap[k]?:=fun k h1 h2=>(hoth k h2).trans (hX.block k h1)
 have hsz:(w2.setCell ⟨wI.heap.size+1,2,none⟩ v).heap.size=w2.heap.size:=box_size
 have h2:=(hX.block _ (by omega)).trans hu
 have hh:(w2.setCell ⟨wI.heap.size+1,2,none⟩ v).heap[wI.heap.size+1]?=some (.cells #[.int .i64 a.valid,u0,v] 26 (0,0)):=box_set (i:=2) (v:=v) h2
 have hstay:∀ t,t≠26→t≠3→StayT w (w2.setCell ⟨wI.heap.size+1,2,none⟩ v) t:=fun t h3 h4 k hk=>by
  obtain ⟨cs,fz,hk⟩:=hk
  have hne:k≠wI.heap.size+1:=fun e=>by subst e;exact ty_ne hk ⟨_,_,hu⟩ h3
  refine (hoth k hne).trans ((hG.block k (Nat.lt_of_lt_of_le (lt_of_heap hk) hb.size) fun e=>?_).trans (hb.block k (lt_of_heap hk)))
  rcases hI with ⟨rfl,-⟩ | ⟨q,cap,cur,cs',fs,rfl,hq,-⟩
  ·cases e
  ·simp only [Value.ownBlock,Option.some.injEq] at e
   subst e
   exact ty_ne hk ⟨_,_,hq⟩ h4
 have hO':IntsO (w2.setCell ⟨wI.heap.size+1,2,none⟩ v) (In B (w2.setCell ⟨wI.heap.size+1,2,none⟩ v).heap.size) v (a.seen ++ [x]):=by
  rw [hsz]
  exact intsp_oth hO fun k h1 _ _=>hoth k (by have:=h1.1;omega)
 obtain ⟨hS,u0',u1',ha,hq,-,hi⟩:=h.acc
 rw [hu] at ha
 simp only [Option.some.injEq,Obj.cells.injEq,Array.mk.injEq,List.cons.injEq,true_and,and_true] at ha
 obtain ⟨rfl,rfl⟩:=ha
 obtain ⟨c1,c2,c3,i,q,c4,c5,c6⟩:=h.cur
 have hd:Below w.heap.size w w:=Below.refl _ _
 refine ⟨⟨⟨c1,?_,c3,i,q,c4,c5,(hlow g (by omega) (by omega)).trans c6⟩,?_,(hlow _ (by omega) (by omega)).trans h.res,⟨hS,u0,v,hh,boxes_oth hq (fun k h1 _=>hlow k (hSB k h1) fun e=>hS (e ▸ h1)) (hstay _ (by decide) (by decide)) (hstay _ (by decide) (by decide)),Ow.mono hO' fun k h1=>⟨fun h2=>by have:=hSB k h2;have:=h1.1;omega,h1.2⟩,hi⟩,h.inv,h.low,fun k hk=>by have:=h.high k hk;have:=hX.size;omega⟩,hh,hO'⟩
 ·exact c2.trans ((hX.mono (by omega)).setCell (p:=⟨wI.heap.size+1,2,none⟩) (show w0.heap.size≤wI.heap.size+1 by omega) _)
 ·have hz:=hX.size
  exact ⟨hX.os.trans h.gr.os,hX.tape.trans h.gr.tape,hX.output.trans h.gr.output,Nat.le_trans h.gr.size (by omega),fun k hk hne=>(hlow k (by omega) (by omega)).trans (h.gr.block k hk hne)⟩
/-- It stays where one block that is not its own turns. -/
theorem ASt.other {K:Nat} (h:ASt w0 wI w g cv L a S) (hg:g < wI.heap.size) (hG:w.grownBy w' (some K)) (hK:wI.heap.size+2≤K) (hT:Ty w K 80) (hS:¬ S K):ASt w0 wI w' g cv L a S:=by
 have hb:∀ k,k < w.heap.size→k≠K→w'.heap[k]?=w.heap[k]?:=fun k h1 h2=>hG.block k h1 (by simpa using h2)
 have hs:∀ t,t≠80→StayT w w' t:=fun t ht k hk=>hb k (ty_lt hk) fun e=>by
  subst e
  obtain ⟨cs,fz,hk⟩:=hk
  exact ty_ne hk hT ht
 obtain ⟨c1,c2,c3,i,q,c4,c5,c6⟩:=h.cur
 have hl:=h.acc.lt
 have hz:=h.gr.size
 refine ⟨⟨c1,⟨hG.os.trans c2.os,hG.tape.trans c2.tape,hG.output.trans c2.output,Nat.le_trans c2.size hG.size,fun k hk=>(hb k (by omega) (by omega)).trans (c2.block k hk)⟩,c3,i,q,c4,c5,(hb g (by omega) (by omega)).trans c6⟩,⟨hG.os.trans h.gr.os,hG.tape.trans h.gr.tape,hG.output.trans h.gr.output,Nat.le_trans hz hG.size,fun k hk hne=>(hb k (by omega) (by omega)).trans (h.gr.block k hk hne)⟩,(hb _ (lt_of_heap h.res) (by omega)).trans h.res,h.acc.oth hG.size (hb _ hl (by omega)) (fun k h1 h2=>hb k h2 fun e=>hS (e ▸ h1)) (hs _ (by decide)) (hs _ (by decide)) (hs _ (by decide)),h.inv,h.low,fun k hk=>Nat.lt_of_lt_of_le (h.high k hk) hG.size⟩
end

end Go.Proofs.YtnlhkgoppjejeaaDoor
