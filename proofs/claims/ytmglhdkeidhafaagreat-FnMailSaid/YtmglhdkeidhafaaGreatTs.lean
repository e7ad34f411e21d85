/- The proof's texts, part 28. -/
import Derived.Test.YtmglhdkeidhafaaGreatTo
import Derived.Test.YtmglhdkeidhafaaGreatTp
import Derived.Test.YtmglhdkeidhafaaGreatTq
import Derived.Test.YtmglhdkeidhafaaGreatTr
namespace Go.Proofs.YtmglhdkeidhafaaGreat
open Go.RowKit
set_option linter.unusedVariables false
set_option linter.unusedSimpArgs false
set_option maxHeartbeats 40000000
set_option maxRecDepth 100000
/- What O4 of package spec does on a box: none, delete, append, store, Fz, copy, changes, status, fetch. -/
theorem aaw (b:aA) (uid mode fl si:Int):∃ c n,(iD b uid mode fl si).2=aN c n:=by
 unfold iD
 split
 ·exact ⟨_,_,rfl⟩
 ·split
  ·exact ⟨_,_,rfl⟩
  ·split
   ·exact ⟨_,_,rfl⟩
   ·split
    ·exact ⟨_,_,rfl⟩
    ·split
     ·exact ⟨_,_,rfl⟩
     ·exact ⟨_,_,rfl⟩
theorem aax (b:aA):∃ c n,(gF b).2=aN c n:=by
 unfold gF
 split
 ·exact ⟨_,_,rfl⟩
 ·split
  ·exact ⟨_,_,rfl⟩
  ·exact ⟨_,_,rfl⟩
theorem Rv:(Tryz.f60.body.bind (bR 17)).all (fun o=>dW o 20 [0,2,3,4,5,6,7,9,10,11,12,13,14,15,1,8,16,17,18,19] [14,15,16,19] [19,20] 12)=true:=by kernel_rfl
theorem Rw {wl w3:World} {S0:Nat→Prop} {ga k m:Nat} {A:aF} {cells:List Value} {V:Value} (hA:aS wl S0 ga A) (IZ:∀ k,S0 k→k < wl.heap.size) (hb:Below wl.heap.size wl w3) (hel:EL 7 iE wl A.boxes S0 cells)
  (hrow:w3.ownsRow wl.heap.size 34 7 V m (cells.take (k * 7) ++ cells.drop ((k+1) * 7))) (hm:m+1=A.boxes.length) (hk:k < A.boxes.length) :
  aS (w3.setCell ⟨ga,1,none⟩ V) (fun j=>S0 j∨wl.heap.size≤j) ga ⟨A.valid,A.boxes.take k ++ A.boxes.drop (k+1),A.seen⟩:=by
 have hl:(A.boxes.take k ++ A.boxes.drop (k+1)).length=m:=by rw [List.length_append,List.length_take,List.length_drop];omega
 rw [← hl] at hrow
 have he:=XL k (EJ hel (fun k _ hk=>hb.block k hk) (fU hb) (fU hb))
 exact hA.Pz hb (O8 hrow he IZ) (fun h=>h.elim hA.1 (fun h=>by have:=hA.lt;omega)) (fun k h=>h)
theorem aay:(Tryz.f60.body.bind (bR 30)).all (fun o=>dW o 7 [0,1,2,3,4,5,6] [5,6] [6,7] 12)=true:=by kernel_rfl
theorem aaz:(Tryz.f60.body.bind (bR 32)).all (fun o=>dW o 30 [0,1,2,3,4,6,7,8,9,11,12,13,14,15,16,17,18,19,20,21,22,23,24,25,26,5,10,27,28,29] [25,26,29] [29,30] 12)=true:=by kernel_rfl
theorem aaA:(Tryz.f60.body.bind (bR 36)).all (fun o=>dW o 34 [0,1,2,3,4,5,6,7,8,9,10,11,12,13,14,15,16,17,18,19,20,21,22,23,24,25,26,27,28,29,30,31,32,33] [31,33] [33,34] 12)=true:=by kernel_rfl
theorem Rx (i:Nat):∀ l:List aC,iB ((l.drop i).take 1)≤iB l
 | []=>by simp
 | x :: l=>by
  cases i with
  | zero=>simp [iB]
  | succ i =>
   have:=Rx i l
   simp only [List.drop_succ_cons]
   refine Nat.le_trans this ?_
   simp [iB]
theorem aaB:(Tryz.f60.body.bind (bR 9)).all (fun o=>dW o 16 [0,1,3,4,5,6,7,8,9,10,2,11,12,13,14,15] [10,11,12,13,15] [15,16] 12)=true:=by kernel_rfl
theorem aaC (ga:Nat) (a:aF) (S:Nat→Prop) (kd uid mode fl si:Int) (bx tt tx:List Int) (x0 x1 x2:Option Addr) (n0 n1 n2 m0 m1 m2:Nat) (w:World) (hp:aS w S ga a)
  (hs0:∀ w',w.heap.size≤w'.heap.size→bD w w' 5→Bs w' (.slice x0 n0 m0) bx) (hs1:∀ w',w.heap.size≤w'.heap.size→bD w w' 5→Bs w' (.slice x1 n1 m1) tt) (hs2:∀ w',w.heap.size≤w'.heap.size→bD w w' 5→Bs w' (.slice x2 n2 m2) tx)
  (zm:ay uid∧ay mode∧ay fl∧ay si) (hcl:bx.length≤2000000∧tx.length≤2000000) (hsz:∀ x ∈ a.boxes,bT x≤900000) (hbl:a.boxes.length≤2000000) (res:aF × dI) (hres:res=dA a ⟨kd,bx,tt,uid,mode,fl,si,tx⟩) :
  Calls Tryz.prog 60 #[.pointer (some ⟨ga,0,none⟩),.agg #[.int .i64 kd,.slice x0 n0 m0,.slice x1 n1 m1,.int .i64 uid,.int .i64 mode,.int .i64 fl,.int .i64 si,.slice x2 n2 m2]] w (jh w S ga res):=by
 obtain ⟨S0,iM⟩:∃ S0:Nat→Prop,S0=fun k=>S k∧k < w.heap.size:=⟨_,rfl⟩
 have eB:Hid (∀ k,S0 k→S k):=by subst iM;exact fun k h=>h.1
 have HSL:Hid (∀ k,S0 k→k < w.heap.size):=by subst iM;exact fun k h=>h.2
 have HP:Hid (∀ w',Below w.heap.size w w'→aS w' S0 ga a):=by subst iM;exact fun w' h=>hp.cut.below h
 clear iM
 have iF:=hp.lt
 have Ry:Hid (∀ w',w.heap.size≤w'.heap.size→bD w w' 5→Bs w' (.slice x0 n0 m0) bx):=hs0
 have HQ1:Hid (∀ w',w.heap.size≤w'.heap.size→bD w w' 5→Bs w' (.slice x1 n1 m1) tt):=hs1
 have HQ2:Hid (∀ w',w.heap.size≤w'.heap.size→bD w w' 5→Bs w' (.slice x2 n2 m2) tx):=hs2
 have HI:Hid (ay uid∧ay mode∧ay fl∧ay si):=zm
 have zK:Hid (∀ x ∈ a.boxes,bT x≤900000):=hsz
 obtain ⟨HB,bO,aQ,jf⟩:=uz w (.cells #[.int .i64 kd,.slice x0 n0 m0,.slice x1 n1 m1,.int .i64 uid,.int .i64 mode,.int .i64 fl,.int .i64 si,.slice x2 n2 m2] 28) (.cells #[.int .i64 0,.int .i64 0,.slice none 0 0,.int .i64 0,.int .i64 0,.int .i64 0,.slice none 0 0,.slice none 0 0,.int .i64 0,.slice none 0 0] 37)
 have bH:=ak hres
 clear hs0 hs1 hs2 hp zm hsz hres
 go_enter Tryz.func60,Tryz.ntmps60
 go_upto_region 1 with fail
 generalize ((w.alloc (.cells #[.int .i64 kd,.slice x0 n0 m0,.slice x1 n1 m1,.int .i64 uid,.int .i64 mode,.int .i64 fl,.int .i64 si,.slice x2 n2 m2] 28)).alloc (.cells #[.int .i64 0,.int .i64 0,.slice none 0 0,.int .i64 0,.int .i64 0,.int .i64 0,.slice none 0 0,.slice none 0 0,.int .i64 0,.slice none 0 0] 37))=W at HB bO aQ jf ⊢
 by_cases h0:kd=0
 ·subst h0
  have hres:nE a bx=res:=by rw [bH.out];simp [dA]
  clear bH
  have q0:W.cell? ⟨w.heap.size,0,none⟩=some (.int .i64 0):=cell_of_row W w.heap.size 0 _ _ (0,0) bO.out
  have q1:W.cell? ⟨w.heap.size,1,none⟩=some (.slice x0 n0 m0):=cell_of_row W w.heap.size 1 _ _ (0,0) bO.out
  have hlc:w.heap.size < W.heap.size:=by omega
  go_wp2_with fail
  have hc:=Z4 ga a S0 (.slice x0 n0 m0) bx W (HP.out W HB.out) (fun w' h1 h2=>Ry.out w' (Nat.le_trans HB.out.size h1) ((fU HB.out).trans h2)) hcl.1 hbl
  rw [hres] at hc
  refine hc.mono ?_
  rintro e w1 ⟨u,S1,rfl,hrep,hT,hA,hS1⟩
  clear q0 q1 hc
  obtain ⟨y0,k0,j0,y1,j1,y2,j2,y3,j3,hU⟩:=hrep.v.form
  subst hU
  have HT1:Hid (aR w w1 S0 ga):=(aR.below (S:=S0) HB.out).trans hT (fun k h=>.inl h)
  have bX:Hid (w1.heap[w.heap.size+1]?=some (.cells #[.int .i64 0,.int .i64 0,.slice none 0 0,.int .i64 0,.int .i64 0,.int .i64 0,.slice none 0 0,.slice none 0 0,.int .i64 0,.slice none 0 0] 37 (0,0))):=(hT.2.1 _ (by omega) (by omega) (fun h=>by have:=HSL.out _ h;omega)).trans aQ.out
  obtain ⟨r0,r1,r2,r3,r4,r5,r6,r7,r8,r9⟩:=aO bX.out
  have fz:∀ i,w1.frozen? ⟨w.heap.size+1,i,none⟩=false:=fun i=>frozen_of_row w1 _ i _ _ bX.out
  have hlr:=lt_of_heap bX.out
  have HF:Hid _:=vM (w:=w) bX.out (by omega) HT1.out _ _ hA iF (fun h=>(hS1 _ h).elim (fun h=>by have:=HSL.out _ h;omega) (fun h=>by omega)) _ _ _ _ _ _ _ _ _ _ _ hrep (by omega)
  have pW:Hid (∀ k,S1 k→S k∨w.heap.size≤k):=fun k h=>(hS1 k h).elim (fun h=>.inl (eB.out k h)) (fun h=>.inr (by omega))
  clear hrep hT hA hS1
  go_wp2
  obtain ⟨f0,f1,f2,f3,f4,f5,f6,f7,f8,f9⟩:=aO HF.out.1
  refine bodyPost_ret (v:=.agg #[_,_,_,_,_,_,_,_,_,_]) (by simp [results,Tryz.results60,go_sem,f0,f1,f2,f3,f4,f5,f6,f7,f8,f9]) rfl ⟨_,_,rfl,HF.out.2.2.2,aR.wide HF.out.2.1 eB.out,HF.out.2.2.1,pW.out⟩
 by_cases h9:kd=9
 ·subst h9
  have e:res=(a,⟨0,0,pR,(a.boxes.map fun x:aA=>x.name)⟩):=by rw [bH.out];simp [dA]
  subst e
  clear bH
  have q0:W.cell? ⟨w.heap.size,0,none⟩=some (.int .i64 9):=cell_of_row W w.heap.size 0 _ _ (0,0) bO.out
  have hlc:w.heap.size < W.heap.size:=by omega
  have KC:Below W.heap.size W (W.alloc (.cells #[.int .i64 0,.int .i64 0,.slice none 0 0,.int .i64 0,.int .i64 0,.int .i64 0,.slice none 0 0,.slice none 0 0,.int .i64 0,.slice none 0 0] 37)):=bn _ _
  have HX0:Hid (Below w.heap.size w (W.alloc (.cells #[.int .i64 0,.int .i64 0,.slice none 0 0,.int .i64 0,.int .i64 0,.int .i64 0,.slice none 0 0,.slice none 0 0,.int .i64 0,.slice none 0 0] 37))):=Below.step HB.out KC
  have wm:Hid _:=aB KC aQ.out
  have KD:Hid ((W.alloc (.cells #[.int .i64 0,.int .i64 0,.slice none 0 0,.int .i64 0,.int .i64 0,.int .i64 0,.slice none 0 0,.slice none 0 0,.int .i64 0,.slice none 0 0] 37)).heap[w.heap.size+2]?=some (.cells #[.int .i64 0,.int .i64 0,.slice none 0 0,.int .i64 0,.int .i64 0,.int .i64 0,.slice none 0 0,.slice none 0 0,.int .i64 0,.slice none 0 0] 37 (0,0))):=by
   have h:=aW W (.cells #[.int .i64 0,.int .i64 0,.slice none 0 0,.int .i64 0,.int .i64 0,.int .i64 0,.slice none 0 0,.slice none 0 0,.int .i64 0,.slice none 0 0] 37)
   rw [jf] at h
   exact h
  have aaF:(W.alloc (.cells #[.int .i64 0,.int .i64 0,.slice none 0 0,.int .i64 0,.int .i64 0,.int .i64 0,.slice none 0 0,.slice none 0 0,.int .i64 0,.slice none 0 0] 37)).heap.size=w.heap.size+3:=by simp [jf]
  obtain ⟨i0,hi,hz0,hz1,hz2⟩:=info_parts info5
  obtain ⟨i1,hj,hy0,hy1,hy2⟩:=info_parts Ot
  go_upto_region 6 with fail
  generalize (W.alloc (.cells #[.int .i64 0,.int .i64 0,.slice none 0 0,.int .i64 0,.int .i64 0,.int .i64 0,.slice none 0 0,.slice none 0 0,.int .i64 0,.slice none 0 0] 37))=W1 at HX0 wm KD aaF ⊢
  clear KC q0 aQ bO HB
  go_wp2
  go_loopw [6] (fun iv wr=>∃ (k:Nat) (va:Option Addr) (vn vc:Nat),k≤a.boxes.length∧iv=.int .i64 k∧Hid (Below w.heap.size w wr)∧Hid (wr.heap[w.heap.size+1]?=some (.cells #[.int .i64 0,.int .i64 0,.slice none 0 0,.int .i64 0,.int .i64 0,.int .i64 0,.slice none 0 0,.slice none 0 0,.int .i64 0,.slice none 0 0] 37 (0,0)))∧Hid (wr.heap[w.heap.size+2]?=some (.cells #[.int .i64 0,.int .i64 0,.slice none 0 0,.int .i64 0,.int .i64 0,.int .i64 0,.slice none 0 0,.slice none 0 0,.int .i64 0,.slice va vn vc] 37 (0,0)))∧Hid (rE wr (In (w.heap.size+3) wr.heap.size) (.slice va vn vc) ((a.boxes.map fun x:aA=>x.name).take k))∧(w.heap.size+3)≤wr.heap.size) (fun iv _=>a.boxes.length - (intOf iv).toNat)
  case atStart=>exact ⟨0,none,0,0,Nat.zero_le _,rfl,HX0,wm,KD,.inl ⟨rfl,by simp⟩,by omega⟩
  case round =>
   obtain ⟨k,va,vn,vc,hk,rfl,Cx,aQ,pX,HO,hs⟩:=hrel
   clear HX0 wm KD
   have Cy:Hid (aS wr S0 ga a):=HP.out wr Cx.out
   obtain ⟨v0,v1,-,c1,-,hbq,-⟩:=Cy.out.cells
   obtain ⟨e0,e1,rfl,-⟩:=hbq.v.form
   have Rz:=Cy.out.lt
   by_cases hlt:k < a.boxes.length
   ·obtain ⟨x,hx⟩:∃ x,a.boxes[k]?=some x:=⟨a.boxes[k],aL hlt⟩
    obtain ⟨b,off,cp,t,z1,z2,hv',hlb,f0,-,-,-,-,-,-,ht,-⟩:=gJ.cell hbq.v k x hx
    simp only [Value.slice.injEq,true_and] at hv'
    obtain ⟨rfl,rfl⟩:=hv'
    have HT:Hid (Bs wr.drew t x.name):=ht.below (bd _ _)
    obtain ⟨ta,tn,tc,rfl⟩:=ht.aG
    have mo:Hid (a.boxes[k]?=some x):=hx
    have hki:(k:Int) < a.boxes.length:=by omega
    have hnl:x.name.length≤900000:=by have:=zK.out x (List.mem_of_getElem? hx);unfold bT at this;omega
    have hm1:x.name.length≤maxLen:=by unfold maxLen;omega
    have hm2:x.name.length * 1≤140737488355328:=by omega
    have hkl:((a.boxes.map fun x:aA=>x.name).take k).length=k:=by simp;omega
    have hp1:((a.boxes.map fun x:aA=>x.name).take k).length+1≤maxLen:=by rw [hkl];unfold maxLen;omega
    have hp2:(((a.boxes.map fun x:aA=>x.name).take k).length+1) * 24≤140737488355328:=by rw [hkl];omega
    obtain ⟨-,-,-,-,-,-,-,-,-,n9⟩:=aO pX.out
    have hr2:w.heap.size+2 < wr.drew.heap.size:=by show _ < wr.heap.size;omega
    have Cz:ga < wr.drew.heap.size:=Rz
    have KH:b < wr.drew.heap.size:=hlb
    have hbN:b < (w.heap.size+3):=by
     have:=HSL.out b
     obtain ⟨g',c',-,e',-,-,-,-,hS',-⟩:=(Ow.el hbq).resolve_left (fun h=>by have:=h.1;cases this)
     cases e'
     have:=HSL.out _ hS'
     omega
    obtain ⟨oa,RA⟩:∃ o,wr.heap[ga]?=some o:=⟨_,(Array.getElem?_eq_getElem Rz)⟩
    obtain ⟨ob,RB⟩:∃ o,wr.heap[b]?=some o:=⟨_,(Array.getElem?_eq_getElem hlb)⟩
    have KI:Hid (wr.drew.heap[ga]?=some oa):=RA
    have CB:Hid (wr.drew.heap[b]?=some ob):=RB
    clear hx ht hbq hkl RA RB Cy
    go_upto_region 9 with fail
    refine eO 15 (S:=fun w'=>w'.cell? ⟨w.heap.size+2,9,none⟩=some (.slice va vn vc)∧w'.cell? ⟨ga,1,none⟩=some (.slice (some ⟨b,off,none⟩) a.boxes.length e1)∧w'.cell? ⟨b,off+k * 7,none⟩=some (.slice ta tn tc)) (eH (by kernel_rfl) aaB) (by kernel_rfl) (⟨n9,c1,f0⟩) (fun aj hHeld=>?_)
    refine tks 0 0 29 aj hHeld ?_
    refine tks 1 1 30 aj hHeld ?_
    refine tks 2 3 32 aj hHeld ?_
    refine tks 3 4 33 aj hHeld ?_
    refine tks 4 5 34 aj hHeld ?_
    refine tks 5 6 35 aj hHeld ?_
    refine tks 6 7 36 aj hHeld ?_
    refine tks 7 8 37 aj hHeld ?_
    refine tks 8 9 38 aj hHeld ?_
    refine tks 9 10 39 aj hHeld ?_
    refine cls 10 2 aj (by decide) rfl rfl (fun K hK=>?_)
    go_simp
    have AE:Below wr.drew.heap.size wr.drew (wr.drew.alloc (.cells #[] 5)):=bn _ _
    have pY:Hid _:=kJ wr.drew 5 1 wr.drew.heap.size (Nat.le_refl _)
    have ko:Hid (Below wr.drew.heap.size wr.drew (wr.drew.alloc (.cells #[] 5))):=AE
    refine hK.out _ _ (⟨(AE.cell (p:=⟨w.heap.size+2,9,none⟩) hr2).trans n9,(AE.cell (p:=⟨ga,1,none⟩) Cz).trans c1,(AE.cell (p:=⟨b,_,none⟩) KH).trans f0⟩) (fun hHeld=>?_)
    clear hK K
    clear AE
    refine cls 11 11 aj (by decide) rfl rfl (fun K hK=>?_)
    refine dR (by kernel_rfl) (jX (B:=wr.drew.heap.size) 40 rfl (.tmp 31) (.tmp 39) rfl pY.out (Bs.rF (HT.out.below ko.out)) (one_byte _) Tryz.underlying22 hi hz0 hz1 hz2 rfl (by omega) rfl rfl hm1 hm2 ko.out.size ?_)
    intro V1 x2 xs hO4 sI hG4 hB4
    have hR:RO x2 (fun k=>wr.drew.heap.size≤k) V1 x.name:=rG HT.out.1 hO4 sI (fun g hg=>dP hO4 hg)
    obtain ⟨y0,k0,j0,hV1⟩:=hR.bs.aG
    subst hV1
    have HR2:Hid (RO x2 (In wr.drew.heap.size x2.heap.size) (.slice y0 k0 j0) x.name):=Ht hR
    have CF:(wr.drew.alloc (.cells #[] 5)).grownBy x2 (some wr.drew.heap.size):=hG4
    have B2:Below wr.drew.heap.size wr.drew x2:=kK ko.out CF (Nat.le_refl _)
    have HD2:Hid (Below wr.drew.heap.size wr.drew x2):=B2
    have s2:=B2.size
    clear hO4 sI hG4 hB4 hR CF
    refine hK.out _ _ (⟨(B2.cell (p:=⟨w.heap.size+2,9,none⟩) hr2).trans n9,(B2.cell (p:=⟨ga,1,none⟩) Cz).trans c1,(B2.cell (p:=⟨b,_,none⟩) KH).trans f0⟩) (fun hHeld=>?_)
    clear hK K
    clear B2
    refine cls 12 12 aj (by decide) rfl rfl (fun K hK=>?_)
    go_simp
    have AB:Below x2.heap.size x2 (x2.alloc (.cells #[.slice y0 k0 j0] 22)):=bn _ _
    have HD3:Hid (Below wr.drew.heap.size wr.drew (x2.alloc (.cells #[.slice y0 k0 j0] 22))):=Below.step HD2.out AB
    have CG:Hid (tQ (x2.alloc (.cells #[.slice y0 k0 j0] 22)) [.slice y0 k0 j0] x.name (In wr.heap.size (x2.alloc (.cells #[.slice y0 k0 j0] 22)).heap.size)):=⟨_,rfl,(HR2.out.below AB).mono fun k h=>⟨h.1,Nat.lt_of_lt_of_le h.2 AB.size⟩⟩
    have Ew:Hid (rE (x2.alloc (.cells #[.slice y0 k0 j0] 22)) (In (w.heap.size+3) wr.heap.size) (.slice va vn vc) ((a.boxes.map fun x:aA=>x.name).take k)):=Ow.below mW HO.out (Below.step (bd _ _) HD3.out)
    have kg:Hid _:=kH x2 #[.slice y0 k0 j0] 22
    have s3:=HD3.out.size
    refine hK.out _ _ (⟨(HD3.out.cell (p:=⟨w.heap.size+2,9,none⟩) hr2).trans n9,(HD3.out.cell (p:=⟨ga,1,none⟩) Cz).trans c1,(HD3.out.cell (p:=⟨b,_,none⟩) KH).trans f0⟩) (fun hHeld=>?_)
    clear hK K
    clear AB
    refine cls 13 13 aj (by decide) rfl rfl (fun K hK=>?_)
    refine dR (by kernel_rfl) (AA 42 rfl (.tmp 30) (.tmp 41) rfl mW (B:=(w.heap.size+3)) (M:=wr.heap.size) Ew.out s3 hs Tryz.underlying35 hj hy0 hy1 hy2 rfl (by omega) rfl x.name [.slice y0 k0 j0] rfl CG.out ⟨x2.heap.size,0,none⟩ 1 rfl kg.out (by simp [Value.oneCell']) hp1 hp2 ?_)
    intro DV wz hO hgz fP
    obtain ⟨da,dn,dc,og⟩:=tV.aG hO
    subst og
    have hge:∀ j,(Value.slice va vn vc).ownBlock=some j→(w.heap.size+3)≤j:=fun j hj=>(fP j hj).1
    have qW:=ak (l5 hgz hge (aB HD3.out pX.out) (by omega))
    have qE:=ak (l5 hgz hge (aB HD3.out aQ.out) (by omega))
    have jw:Hid (Below w.heap.size w wz):=rD (Below.step Cx.out.drew HD3.out) hgz hge (by omega) (by have:=HD3.out.size;have:=Cx.out.size;omega)
    have sz:wr.heap.size≤wz.heap.size:=Nat.le_trans HD3.out.size hgz.size
    have RD:Hid _:=hO
    obtain ⟨t0,t1,t2,t3,t4,t5,t6,t7,t8,t9⟩:=aO qW.out
    have hac:=l5 hgz hge (aB HD3.out KI.out) (by omega)
    have hbc:=l5 hgz hge (aB HD3.out CB.out) (by omega)
    clear hO hgz fP hge
    refine hK.out _ _ (⟨t9,(show wz.cell? ⟨ga,1,none⟩=wr.drew.cell? ⟨ga,1,none⟩ from World.cell?_of_block (w:=wr.drew) (hac.trans KI.out.symm)).trans c1,(show wz.cell? ⟨b,off+k * 7,none⟩=wr.drew.cell? ⟨b,off+k * 7,none⟩ from World.cell?_of_block (w:=wr.drew) (hbc.trans CB.out.symm)).trans f0⟩) (fun hHeld=>?_)
    clear hK K
    refine tks 14 14 43 aj hHeld ?_
    refine gH (S':=fun w'=>True) 15 16 aj (by decide) (trivial) (fun hHeld=>?_)
    refine cls 15 15 aj (by decide) rfl rfl (fun K hK=>?_)
    have fz9:∀ i,wz.frozen? ⟨w.heap.size+2,i,none⟩=false:=fun i=>frozen_of_row wz _ i _ _ qW.out
    have RG:=lt_of_heap qW.out
    go_simp
    refine hK.out _ _ (trivial) (fun hHeld=>?_)
    clear hK K
    refine eP aj ?_
    have pq:Hid ((wz.setCell ⟨w.heap.size+2,9,none⟩ (.slice da dn dc)).heap[w.heap.size+2]?=some (.cells #[.int .i64 0,.int .i64 0,.slice none 0 0,.int .i64 0,.int .i64 0,.int .i64 0,.slice none 0 0,.slice none 0 0,.int .i64 0,.slice da dn dc] 37 (0,0))):=aJ (i:=9) (v:=.slice da dn dc) qW.out
    have rT:=ak (cO (k:=w.heap.size+2) (i:=9) (v:=.slice da dn dc) qE.out (by omega))
    have lI:Hid (Below w.heap.size w (wz.setCell ⟨w.heap.size+2,9,none⟩ (.slice da dn dc))):=jw.out.setCell (p:=⟨w.heap.size+2,9,none⟩) (by simp) _
    have hfx:(a.boxes.map fun x:aA=>x.name).take (k+1)=(a.boxes.map fun x:aA=>x.name).take k ++ [x.name]:=by rw [yV];rw [List.getElem?_map,mo.out];rfl
    have qF:Hid (rE (wz.setCell ⟨w.heap.size+2,9,none⟩ (.slice da dn dc)) (In (w.heap.size+3) (wz.setCell ⟨w.heap.size+2,9,none⟩ (.slice da dn dc)).heap.size) (.slice da dn dc) ((a.boxes.map fun x:aA=>x.name).take (k+1))):=by
     show rE _ _ _ _
     rw [hfx,bf]
     exact Ow.frame mW RD.out fun j hj _=>Below.heap_setCell _ _ _ _ (show j≠w.heap.size+2 by have:=hj.1;omega)
    have rU:(w.heap.size+3)≤(wz.setCell ⟨w.heap.size+2,9,none⟩ (.slice da dn dc)).heap.size:=by rw [bf];omega
    clear qW qE jw RD HO pX aQ Cx hfx fz9 RG Ew CG HD3 HD2 ko HR2 pY kg t0 t1 t2 t3 t4 t5 t6 t7 t8 t9 n9 f0 c1 hac hbc KI CB HT
    go_wp2
    go_roundw
    case rel=>exact ⟨k+1,da,dn,dc,by omega,by go_num,lI,rT,pq,qF,rU⟩
    case measure=>simp [intOf];omega
   ·obtain rfl:k=a.boxes.length:=by omega
    have FB:Hid (rE wr (In (w.heap.size+3) wr.heap.size) (.slice va vn vc) (a.boxes.map fun x:aA=>x.name)):=by have h:=HO.out;rw [List.take_of_length_le (by simp)] at h;exact h
    obtain ⟨n0',n1',Rm,n3',n4',n5',n6',n7',n8',n9'⟩:=aO pX.out
    obtain ⟨r0,r1,r2,r3,r4,r5,r6,r7,r8,r9⟩:=aO aQ.out
    have fz:∀ i,wr.frozen? ⟨w.heap.size+1,i,none⟩=false:=fun i=>frozen_of_row wr _ i _ _ aQ.out
    have hlr:=lt_of_heap aQ.out
    have hlo:=lt_of_heap pX.out
    have bJ:Hid (jg wr (w.heap.size+3) (.agg #[.int .i64 0,.int .i64 0,.slice none 0 0,.int .i64 0,.int .i64 0,.int .i64 0,.slice none 0 0,.slice none 0 0,.int .i64 0,.slice va vn vc]) ⟨0,0,pR,(a.boxes.map fun x:aA=>x.name)⟩):=⟨fun w' hs' hk'=>⟨_,_,_,_,rfl,⟨_,_,_,rfl,mD _,Rd.nil _,Rd.nil _,aI,aI,aI,aI⟩,(Ow.frame mW FB.out fun j hj h2=>hk' j hj.1 h2).rd fun _ _ _ _=>tQ.rd,aI,aI⟩,_,_,_,_,_,_,_,_,_,_,rfl,.inr ⟨⟨rfl,rfl,rfl⟩,FB.out⟩⟩
    have HF:Hid _:=vM (w:=w) (ga:=ga) (S:=S0) (S':=S0) aQ.out (by omega) (aR.below Cx.out) a Cy.out iF (fun h=>by have:=HSL.out _ h;omega) _ (.int .i64 0) (.int .i64 0) (.slice none 0 0) (.int .i64 0) (.int .i64 0) (.int .i64 0) (.slice none 0 0) (.slice none 0 0) (.int .i64 0) (.slice va vn vc) bJ.out (by omega)
    clear hbq Cy
    go_wp2
    obtain ⟨f0,f1,f2,f3,f4,f5,f6,f7,f8,f9⟩:=aO HF.out.1
    refine bodyPost_ret (v:=.agg #[.int .i64 0,.int .i64 0,.slice none 0 0,.int .i64 0,.int .i64 0,.int .i64 0,.slice none 0 0,.slice none 0 0,.int .i64 0,.slice va vn vc]) (by simp [results,Tryz.results60,go_sem,f0,f1,f2,f3,f4,f5,f6,f7,f8,f9]) rfl ⟨_,S0,rfl,HF.out.2.2.2,aR.wide HF.out.2.1 eB.out,HF.out.2.2.1,fun k h=>.inl (eB.out k h)⟩
 have FD:(kd == 0)=false:=by simp [h0]
 have RH:(kd == 9)=false:=by simp [h9]
 have q0:W.cell? ⟨w.heap.size,0,none⟩=some (.int .i64 kd):=cell_of_row W w.heap.size 0 _ _ (0,0) bO.out
 have hlc:w.heap.size < W.heap.size:=by omega
 go_upto_region 11 with fail
 clear q0
 have DR:Below W.heap.size W W.drew:=(bd _ _)
 have HAD:Hid (aS W.drew S0 ga a):=HP.out W.drew (Below.step HB.out DR)
 obtain ⟨v9,u9,lM,jB,lN,hbq,nI⟩:=HAD.out.cells
 obtain ⟨e0,e1,rfl,-⟩:=hbq.v.form
 have kT:Hid _:=nI
 have CJ:Hid (Bs W.drew (.slice x0 n0 m0) bx):=Ry.out _ (Nat.le_trans HB.out.size DR.size) (fU (Below.step HB.out DR))
 have CK:ga < W.drew.heap.size:=by show ga < W.heap.size;omega
 have vL:w.heap.size < W.drew.heap.size:=hlc
 have HS:Hid (∀ w',Below W.drew.heap.size W.drew w'→w'.cell? ⟨ga,0,none⟩=some (.int .i64 a.valid)∧w'.cell? ⟨ga,1,none⟩=some (.slice e0 a.boxes.length e1)∧w'.cell? ⟨ga,2,none⟩=some u9∧w'.cell? ⟨w.heap.size,1,none⟩=some (.slice x0 n0 m0)):=fun w' h=>⟨(h.cell (p:=⟨ga,0,none⟩) CK).trans lM,(h.cell (p:=⟨ga,1,none⟩) CK).trans jB,(h.cell (p:=⟨ga,2,none⟩) CK).trans lN,cell_of_row w' w.heap.size 1 _ _ (0,0) (aB (Below.step DR h) bO.out)⟩
 clear hbq nI lM jB lN
 go_region_held3 (fun w'=>w'.cell? ⟨ga,0,none⟩=some (.int .i64 a.valid)∧w'.cell? ⟨ga,1,none⟩=some (.slice e0 a.boxes.length e1)∧w'.cell? ⟨ga,2,none⟩=some u9∧w'.cell? ⟨w.heap.size,1,none⟩=some (.slice x0 n0 m0))
  (first | exact HS.out _ (Below.refl _ _) | exact HS.out _ B1 | go_keep)
  ((go_at_call 87;refine (uj _ _ a bx _ kT.out CJ.out hbl).mono ?_;rintro e w1 ⟨rfl,B1⟩))
 have HB1:Hid (Below W.heap.size W w1):=Below.step DR B1
 have fG:Hid _:=aB HB1.out bO.out
 have bX:Hid _:=aB HB1.out aQ.out
 have hw1:W.heap.size≤w1.heap.size:=HB1.out.size
 have nK:Hid (Below w.heap.size w w1):=Below.step HB.out HB1.out
 have xY:Hid (w1.cell? ⟨ga,1,none⟩=some (.slice e0 a.boxes.length e1)):=(HS.out w1 B1).2.1
 clear B1 kT CJ DR CK vL HS HAD
 cases hfi:a.boxes.findIdx? (fun x:aA=>decide (x.name=bx)) with
 | none =>
  have hf:=Fp hfi
  have e:res=(a,aN 1 0):=by rw [bH.out];simp [dA,hfi,h0,h9]
  subst e
  clear bH hfi
  have CK:ga < w1.heap.size:=by omega
  obtain ⟨r0,r1,r2,r3,r4,r5,r6,r7,r8,r9⟩:=aO bX.out
  have fz:∀ i,w1.frozen? ⟨w.heap.size+1,i,none⟩=false:=fun i=>frozen_of_row w1 _ i _ _ bX.out
  have hlr:w.heap.size+1 < w1.heap.size:=lt_of_heap bX.out
  have HF:Hid _:=oD (w:=w) bX.out (by omega) (nK.out) 1 0
  go_wp2
  obtain ⟨f0,f1,f2,f3,f4,f5,f6,f7,f8,f9⟩:=aO HF.out.1
  refine bodyPost_ret (v:=.agg #[.int .i64 1,.int .i64 0,.slice none 0 0,.int .i64 0,.int .i64 0,.int .i64 0,.slice none 0 0,.slice none 0 0,.int .i64 0,.slice none 0 0]) (by simp [results,Tryz.results60,go_sem,f0,f1,f2,f3,f4,f5,f6,f7,f8,f9]) rfl ⟨_,S0,rfl,sG ⟨_,_,_,_,rfl,⟨_,_,_,rfl,mD _,Rd.nil _,Rd.nil _,aI,aI,aI,aI⟩,⟨rfl,rfl⟩,(show ay (1:Int) from ⟨by decide,by decide⟩),aI⟩,aR.below HF.out.2,HP.out _ HF.out.2,fun k h=>.inl (eB.out k h)⟩
 | some k =>
  obtain ⟨hf,b,hb⟩:=Fq hfi
  have fO:=ak hfi
  clear hfi
  have HA1:Hid (aS w1 S0 ga a):=HP.out w1 nK.out
  obtain ⟨g,cap,Sb,cb,fE,hpb,hSb,hback⟩:=HA1.out.at hb
  have e9:=Option.some.inj (cb.symm.trans xY.out)
  simp only [Value.slice.injEq,true_and] at e9
  obtain ⟨rfl,rfl⟩:=e9
  have zI:Hid _:=hback
  have wo:Hid (aK w1 Sb g (k * 7) b):=hpb
  have KJ:Hid (∀ k,Sb k→S0 k):=fun k h=>(hSb k h).1
  have hkl:k < a.boxes.length:=(gs1 hb).1
  have hki:(k:Int) < (a.boxes.length:Int):=by omega
  have sF:g < w1.heap.size:=hpb.lt
  have wu:ga < w1.heap.size:=by omega
  have vL:w.heap.size < w1.heap.size:=by omega
  have hgw:g < w.heap.size:=HSL.out g fE
  have hsx:bT b≤900000:=zK.out b (List.mem_of_getElem? hb)
  have hml:b.ah.length≤900000:=by have:=lF b.ah;unfold bT at hsx;omega
  have hgl:b.au.length≤900000:=by unfold bT at hsx;omega
  have dH:Hid (w1.cell? ⟨ga,1,none⟩=some (.slice (some ⟨g,0,none⟩) a.boxes.length cap)):=cb
  have RI:Hid (¬ Sb g):=fun h=>(hSb g h).2 rfl
  clear hpb hback hSb
  by_cases k1:kd=1
  ·subst k1
   have e:res=(⟨a.valid,a.boxes.take k ++ a.boxes.drop (k+1),a.seen⟩,aN 0 0):=by rw [bH.out];have h1:=fO.out;simp [dA,h1,hb]
   subst e
   clear bH fO
   obtain ⟨v8,u8,lM,jB,lN,hbq,-⟩:=HA1.out.cells
   have e8:v8=.slice (some ⟨g,0,none⟩) a.boxes.length cap:=Option.some.inj (jB.symm.trans cb)
   subst e8
   have sJ:Hid (iK w1 S0 (.slice (some ⟨g,0,none⟩) a.boxes.length cap) a.boxes):=hbq
   clear hbq lM jB lN
   have q0:w1.cell? ⟨w.heap.size,0,none⟩=some (.int .i64 1):=cell_of_row w1 w.heap.size 0 _ _ (0,0) fG.out
   by_cases hce:cap=k+1
   ·have hke:k+1=a.boxes.length:=by have:=sJ.out.v.form;obtain ⟨_,_,e,h,-⟩:=this;cases e;omega
    have FE:Hid (k+1=a.boxes.length):=hke
    clear hke
    obtain ⟨g',cap',cur,hgv,hgh,hc1,hc2,hc3,-,hel⟩:=(Ow.el sJ.out).resolve_left (fun h=>by have:=h.1;cases this)
    simp only [Value.slice.injEq,Option.some.injEq,Addr.mk.injEq,and_true,true_and] at hgv
    obtain ⟨rfl,rfl⟩:=hgv
    have BQ:Hid (w1.drew.heap[g]?=some (.cells cur 34 (0,0))):=hgh
    have uM:Below w1.heap.size w1 w1.drew:=(bd _ _)
    have HELD:Hid (EL 7 iE w1.drew a.boxes S0 (cur.toList.take (a.boxes.length * 7))):=(EJ (w':=w1.drew) hel (fun k _ hk=>uM.block k hk) (fU uM) (fU uM)).mono fun k h=>h.1
    clear uM
    have BU:∀ y ∈ ((cur.toList.take (a.boxes.length * 7)).take (k * 7)),y.oneCell'=true:=fun y hy=>xP HELD.out y (List.mem_of_mem_take hy)
    have BX:∀ y ∈ ((cur.toList.take (a.boxes.length * 7)).drop ((k+1) * 7)),y.oneCell'=true:=fun y hy=>xP HELD.out y (List.mem_of_mem_drop hy)
    have HAD:Hid (aS w1.drew S0 ga a):=HA1.out.below (bd _ _)
    have uN:Hid (Below w.heap.size w w1.drew):=nK.out.drew
    have j6:Hid (w1.drew.heap[w.heap.size+1]?=_):=bX.out
    have KL:Hid (∀ k,S0 k→k < w1.drew.heap.size):=fun k h=>by have:=HSL.out k h;show k < w1.heap.size;omega
    have hgd:g < w1.drew.heap.size:=sF
    have Cz:ga < w1.drew.heap.size:=wu
    obtain ⟨i0,hi,hz0,hz1,hz2⟩:=info_parts xq
    have hm1:0+k≤maxLen:=by unfold maxLen;omega
    have hm2:(0+k) * 104≤140737488355328:=by omega
    have KN:k+0≤maxLen:=by unfold maxLen;omega
    have KO:(k+0) * 104≤140737488355328:=by omega
    have hiz:k≤cap:=by omega
    have hwr:IntKind.i64.wrap ((k:Int)+1)=(k:Int)+1:=by simp [IntKind.wrap,IntKind.bits,IntKind.signed];omega
    have htn:((k:Int)+1).toNat=k+1:=by omega
    have hb0:(0:Int)≤(k:Int)+1:=by omega
    have hb1:(k:Int)+1≤(a.boxes.length:Int):=by omega
    subst hce
    have hie:(k:Int)≤(k:Int)+1:=by omega
    clear hgh hel hc2
    go_upto_region 17 with fail
    clear q0 cb
    refine eO 19 (S:=fun w'=>w'.cell? ⟨ga,1,none⟩=some (.slice (some ⟨g,0,none⟩) a.boxes.length (k+1))) (eH (by kernel_rfl) Rv) (by kernel_rfl) (dH.out) (fun aj hHeld=>?_)
    refine tks 0 0 64 aj hHeld ?_
    refine tks 1 2 66 aj hHeld ?_
    refine tks 2 3 67 aj hHeld ?_
    refine tks 3 4 68 aj hHeld ?_
    refine tks 4 5 69 aj hHeld ?_
    refine tks 5 6 70 aj hHeld ?_
    refine tks 6 7 71 aj hHeld ?_
    refine tks 7 9 73 aj hHeld ?_
    refine tks 8 10 74 aj hHeld ?_
    refine tks 9 11 75 aj hHeld ?_
    refine tks 10 12 76 aj hHeld ?_
    refine tks 11 13 77 aj hHeld ?_
    refine tks 12 14 78 aj hHeld ?_
    refine tks 13 15 79 aj hHeld ?_
    refine cls 14 1 aj (by decide) rfl rfl (fun K hK=>?_)
    go_simp
    have AE:Below w1.drew.heap.size w1.drew (w1.drew.alloc (.cells #[] 34)):=bn _ _
    have pY:Hid _:=kJ w1.drew 34 7 w1.drew.heap.size (Nat.le_refl _)
    have ko:Hid (Below w1.drew.heap.size w1.drew (w1.drew.alloc (.cells #[] 34))):=AE
    refine hK.out _ _ ((AE.cell (p:=⟨ga,1,none⟩) wu).trans dH.out) (fun hHeld=>?_)
    clear hK K
    clear AE
    refine cls 15 8 aj (by decide) rfl rfl (fun K hK=>?_)
    refine dR (by kernel_rfl) (EK (B:=w1.drew.heap.size) 72 rfl (.tmp 65) (.tmp 71) rfl pY.out (EN ((ko.out.block g hgd).trans BQ.out) (by omega) (by omega) (k+1)) BU Tryz.underlying23 hi hz0 hz1 hz2 rfl (by omega) rfl rfl hm1 hm2 ko.out.size ?_)
    intro V1 w4 hO4 hG4 hB4
    obtain ⟨p1,p2,p3,hV1⟩:=jC hO4
    subst hV1
    have HD4:Hid (Below w1.drew.heap.size w1.drew w4):=mI ko.out hG4 (fun j hj=>dP pY.out hj)
    have nC:Hid (w4.ownsRow w1.drew.heap.size 34 7 (.slice p1 p2 p3) k ((cur.toList.take (a.boxes.length * 7)).take (k * 7))):=by simpa [World.ownsRow,Hid] using hO4
    clear hO4 hG4 hB4
    refine hK.out _ _ ((HD4.out.cell (p:=⟨ga,1,none⟩) wu).trans dH.out) (fun hHeld=>?_)
    clear hK K
    refine cls 16 16 aj (by decide) rfl rfl (fun K hK=>?_)
    have vR:sw w4 (.slice (some ⟨g,0,none⟩) 0 0) 0 7 ((cur.toList.take (a.boxes.length * 7)).drop ((k+1) * 7)):=by rw [FE.out];exact (PG w4 g a.boxes.length cur 0)
    refine dR (by kernel_rfl) (EK (B:=w1.drew.heap.size) 80 rfl (.tmp 72) (.tmp 79) rfl nC.out vR BX Tryz.underlying23 hi hz0 hz1 hz2 rfl (by omega) rfl rfl KN KO HD4.out.size ?_)
    intro V2 w6 iI fJ kL
    obtain ⟨t1,t2,t3,hV2⟩:=jC iI
    subst hV2
    have HD6:Hid (Below w1.drew.heap.size w1.drew w6):=mI HD4.out fJ (fun j hj=>dP nC.out hj)
    have nZ:Hid (w6.ownsRow w1.drew.heap.size 34 7 (.slice t1 t2 t3) (k+0) (((cur.toList.take (a.boxes.length * 7)).take (k * 7)) ++ ((cur.toList.take (a.boxes.length * 7)).drop ((k+1) * 7)))):=by simpa [World.ownsRow,Hid] using iI
    clear iI fJ kL vR
    refine hK.out _ _ ((HD6.out.cell (p:=⟨ga,1,none⟩) wu).trans dH.out) (fun hHeld=>?_)
    clear hK K
    refine tks 17 17 81 aj hHeld ?_
    refine tks 18 18 82 aj hHeld ?_
    refine gH (S':=fun w'=>True) 19 20 aj (by decide) (trivial) (fun hHeld=>?_)
    refine cls 19 19 aj (by decide) rfl rfl (fun K hK=>?_)
    have jF:Hid (aS w6 S0 ga a):=HAD.out.below HD6.out
    have sK:Hid (aS (w6.setCell ⟨ga,1,none⟩ (.slice t1 t2 t3)) (fun j=>S0 j∨w1.drew.heap.size≤j) ga ⟨a.valid,a.boxes.take k ++ a.boxes.drop (k+1),a.seen⟩):=Rw HAD.out KL.out HD6.out HELD.out nZ.out (by omega) hkl
    have vT:Hid (aR w (w6.setCell ⟨ga,1,none⟩ (.slice t1 t2 t3)) S0 ga):=(aR.below (S:=S0) (Below.step uN.out HD6.out)).trans (aR.set (S:=S0) jF.out) (fun k h=>.inl h)
    have jD:Hid _:=cO (k:=ga) (i:=1) (v:=.slice t1 t2 t3) (aB HD6.out j6.out) (by omega)
    have BZ:=jF.out.open
    obtain ⟨QD,QE,c70,Ca,-⟩:=jF.out.cells
    have Cb:=jF.out.lt
    go_simp
    refine hK.out _ _ (trivial) (fun hHeld=>?_)
    clear hK K
    refine eP aj ?_
    go_upto_region 18 with fail
    clear BZ c70 Ca Cb
    generalize w6.setCell ⟨ga,1,none⟩ (.slice t1 t2 t3)=w8 at sK vT jD ⊢
    obtain ⟨r0,r1,r2,r3,r4,r5,r6,r7,r8,r9⟩:=aO jD.out
    have fz:∀ i,w8.frozen? ⟨w.heap.size+1,i,none⟩=false:=fun i=>frozen_of_row w8 _ i _ _ jD.out
    have QF:=lt_of_heap jD.out
    have hd1:w1.drew.heap.size=w1.heap.size:=rfl
    have HF:Hid _:=zB (w:=w) jD.out (by omega) vT.out _ _ sK.out iF (fun h=>h.elim (fun h=>by have:=HSL.out _ h;omega) (fun h=>by omega)) 0 0 ⟨aI,aI⟩
    go_wp2
    obtain ⟨f0,f1,f2,f3,f4,f5,f6,f7,f8,f9⟩:=aO HF.out.1
    refine bodyPost_ret (v:=.agg #[.int .i64 0,.int .i64 0,.slice none 0 0,.int .i64 0,.int .i64 0,.int .i64 0,.slice none 0 0,.slice none 0 0,.int .i64 0,.slice none 0 0]) (by simp [results,Tryz.results60,go_sem,f0,f1,f2,f3,f4,f5,f6,f7,f8,f9]) rfl ⟨_,_,rfl,sG HF.out.2.2.2,aR.wide HF.out.2.1 eB.out,HF.out.2.2.1,(show ∀ k,(S0 k∨w1.drew.heap.size≤k)→_ from fun k h=>h.elim (fun h=>.inl (eB.out k h)) (fun h=>.inr (by omega)))⟩
   ·skip
    obtain ⟨g',cap',cur,hgv,hgh,hc1,hc2,hc3,-,hel⟩:=(Ow.el sJ.out).resolve_left (fun h=>by have:=h.1;cases this)
    simp only [Value.slice.injEq,Option.some.injEq,Addr.mk.injEq,and_true,true_and] at hgv
    obtain ⟨rfl,rfl⟩:=hgv
    have BQ:Hid (w1.drew.heap[g]?=some (.cells cur 34 (0,0))):=hgh
    have uM:Below w1.heap.size w1 w1.drew:=(bd _ _)
    have HELD:Hid (EL 7 iE w1.drew a.boxes S0 (cur.toList.take (a.boxes.length * 7))):=(EJ (w':=w1.drew) hel (fun k _ hk=>uM.block k hk) (fU uM) (fU uM)).mono fun k h=>h.1
    clear uM
    have BU:∀ y ∈ ((cur.toList.take (a.boxes.length * 7)).take (k * 7)),y.oneCell'=true:=fun y hy=>xP HELD.out y (List.mem_of_mem_take hy)
    have BX:∀ y ∈ ((cur.toList.take (a.boxes.length * 7)).drop ((k+1) * 7)),y.oneCell'=true:=fun y hy=>xP HELD.out y (List.mem_of_mem_drop hy)
    have HAD:Hid (aS w1.drew S0 ga a):=HA1.out.below (bd _ _)
    have uN:Hid (Below w.heap.size w w1.drew):=nK.out.drew
    have j6:Hid (w1.drew.heap[w.heap.size+1]?=_):=bX.out
    have KL:Hid (∀ k,S0 k→k < w1.drew.heap.size):=fun k h=>by have:=HSL.out k h;show k < w1.heap.size;omega
    have hgd:g < w1.drew.heap.size:=sF
    have Cz:ga < w1.drew.heap.size:=wu
    obtain ⟨i0,hi,hz0,hz1,hz2⟩:=info_parts xq
    have hm1:0+k≤maxLen:=by unfold maxLen;omega
    have hm2:(0+k) * 104≤140737488355328:=by omega
    have KN:k+(a.boxes.length - (k+1))≤maxLen:=by unfold maxLen;omega
    have KO:(k+(a.boxes.length - (k+1))) * 104≤140737488355328:=by omega
    have hiz:k≤cap:=by omega
    have hwr:IntKind.i64.wrap ((k:Int)+1)=(k:Int)+1:=by simp [IntKind.wrap,IntKind.bits,IntKind.signed];omega
    have htn:((k:Int)+1).toNat=k+1:=by omega
    have hb0:(0:Int)≤(k:Int)+1:=by omega
    have hb1:(k:Int)+1≤(a.boxes.length:Int):=by omega
    have hcn:¬ cap=k+1:=hce
    clear hgh hel hc2
    go_upto_region 17 with fail
    clear q0 cb
    refine eO 19 (S:=fun w'=>w'.cell? ⟨ga,1,none⟩=some (.slice (some ⟨g,0,none⟩) a.boxes.length cap)) (eH (by kernel_rfl) Rv) (by kernel_rfl) (dH.out) (fun aj hHeld=>?_)
    refine tks 0 0 64 aj hHeld ?_
    refine tks 1 2 66 aj hHeld ?_
    refine tks 2 3 67 aj hHeld ?_
    refine tks 3 4 68 aj hHeld ?_
    refine tks 4 5 69 aj hHeld ?_
    refine tks 5 6 70 aj hHeld ?_
    refine tks 6 7 71 aj hHeld ?_
    refine tks 7 9 73 aj hHeld ?_
    refine tks 8 10 74 aj hHeld ?_
    refine tks 9 11 75 aj hHeld ?_
    refine tks 10 12 76 aj hHeld ?_
    refine tks 11 13 77 aj hHeld ?_
    refine tks 12 14 78 aj hHeld ?_
    refine tks 13 15 79 aj hHeld ?_
    refine cls 14 1 aj (by decide) rfl rfl (fun K hK=>?_)
    go_simp
    have AE:Below w1.drew.heap.size w1.drew (w1.drew.alloc (.cells #[] 34)):=bn _ _
    have pY:Hid _:=kJ w1.drew 34 7 w1.drew.heap.size (Nat.le_refl _)
    have ko:Hid (Below w1.drew.heap.size w1.drew (w1.drew.alloc (.cells #[] 34))):=AE
    refine hK.out _ _ ((AE.cell (p:=⟨ga,1,none⟩) wu).trans dH.out) (fun hHeld=>?_)
    clear hK K
    clear AE
    refine cls 15 8 aj (by decide) rfl rfl (fun K hK=>?_)
    refine dR (by kernel_rfl) (EK (B:=w1.drew.heap.size) 72 rfl (.tmp 65) (.tmp 71) rfl pY.out (EN ((ko.out.block g hgd).trans BQ.out) (by omega) (by omega) cap) BU Tryz.underlying23 hi hz0 hz1 hz2 rfl (by omega) rfl rfl hm1 hm2 ko.out.size ?_)
    intro V1 w4 hO4 hG4 hB4
    obtain ⟨p1,p2,p3,hV1⟩:=jC hO4
    subst hV1
    have HD4:Hid (Below w1.drew.heap.size w1.drew w4):=mI ko.out hG4 (fun j hj=>dP pY.out hj)
    have nC:Hid (w4.ownsRow w1.drew.heap.size 34 7 (.slice p1 p2 p3) k ((cur.toList.take (a.boxes.length * 7)).take (k * 7))):=by simpa [World.ownsRow,Hid] using hO4
    clear hO4 hG4 hB4
    refine hK.out _ _ ((HD4.out.cell (p:=⟨ga,1,none⟩) wu).trans dH.out) (fun hHeld=>?_)
    clear hK K
    refine cls 16 16 aj (by decide) rfl rfl (fun K hK=>?_)
    have vR:=(PE (n:=a.boxes.length) (k:=k+1) ((HD4.out.block g hgd).trans BQ.out) (by omega) (by omega) (cap - (k+1)))
    refine dR (by kernel_rfl) (EK (B:=w1.drew.heap.size) 80 rfl (.tmp 72) (.tmp 79) rfl nC.out vR BX Tryz.underlying23 hi hz0 hz1 hz2 rfl (by omega) rfl rfl KN KO HD4.out.size ?_)
    intro V2 w6 iI fJ kL
    obtain ⟨t1,t2,t3,hV2⟩:=jC iI
    subst hV2
    have HD6:Hid (Below w1.drew.heap.size w1.drew w6):=mI HD4.out fJ (fun j hj=>dP nC.out hj)
    have nZ:Hid (w6.ownsRow w1.drew.heap.size 34 7 (.slice t1 t2 t3) (k+(a.boxes.length - (k+1))) (((cur.toList.take (a.boxes.length * 7)).take (k * 7)) ++ ((cur.toList.take (a.boxes.length * 7)).drop ((k+1) * 7)))):=by simpa [World.ownsRow,Hid] using iI
    clear iI fJ kL vR
    refine hK.out _ _ ((HD6.out.cell (p:=⟨ga,1,none⟩) wu).trans dH.out) (fun hHeld=>?_)
    clear hK K
    refine tks 17 17 81 aj hHeld ?_
    refine tks 18 18 82 aj hHeld ?_
    refine gH (S':=fun w'=>True) 19 20 aj (by decide) (trivial) (fun hHeld=>?_)
    refine cls 19 19 aj (by decide) rfl rfl (fun K hK=>?_)
    have jF:Hid (aS w6 S0 ga a):=HAD.out.below HD6.out
    have sK:Hid (aS (w6.setCell ⟨ga,1,none⟩ (.slice t1 t2 t3)) (fun j=>S0 j∨w1.drew.heap.size≤j) ga ⟨a.valid,a.boxes.take k ++ a.boxes.drop (k+1),a.seen⟩):=Rw HAD.out KL.out HD6.out HELD.out nZ.out (by omega) hkl
    have vT:Hid (aR w (w6.setCell ⟨ga,1,none⟩ (.slice t1 t2 t3)) S0 ga):=(aR.below (S:=S0) (Below.step uN.out HD6.out)).trans (aR.set (S:=S0) jF.out) (fun k h=>.inl h)
    have jD:Hid _:=cO (k:=ga) (i:=1) (v:=.slice t1 t2 t3) (aB HD6.out j6.out) (by omega)
    have BZ:=jF.out.open
    obtain ⟨QD,QE,c70,Ca,-⟩:=jF.out.cells
    have Cb:=jF.out.lt
    go_simp
    refine hK.out _ _ (trivial) (fun hHeld=>?_)
    clear hK K
    refine eP aj ?_
    go_upto_region 18 with fail
    clear BZ c70 Ca Cb
    generalize w6.setCell ⟨ga,1,none⟩ (.slice t1 t2 t3)=w8 at sK vT jD ⊢
    obtain ⟨r0,r1,r2,r3,r4,r5,r6,r7,r8,r9⟩:=aO jD.out
    have fz:∀ i,w8.frozen? ⟨w.heap.size+1,i,none⟩=false:=fun i=>frozen_of_row w8 _ i _ _ jD.out
    have QF:=lt_of_heap jD.out
    have hd1:w1.drew.heap.size=w1.heap.size:=rfl
    have HF:Hid _:=zB (w:=w) jD.out (by omega) vT.out _ _ sK.out iF (fun h=>h.elim (fun h=>by have:=HSL.out _ h;omega) (fun h=>by omega)) 0 0 ⟨aI,aI⟩
    go_wp2
    obtain ⟨f0,f1,f2,f3,f4,f5,f6,f7,f8,f9⟩:=aO HF.out.1
    refine bodyPost_ret (v:=.agg #[.int .i64 0,.int .i64 0,.slice none 0 0,.int .i64 0,.int .i64 0,.int .i64 0,.slice none 0 0,.slice none 0 0,.int .i64 0,.slice none 0 0]) (by simp [results,Tryz.results60,go_sem,f0,f1,f2,f3,f4,f5,f6,f7,f8,f9]) rfl ⟨_,_,rfl,sG HF.out.2.2.2,aR.wide HF.out.2.1 eB.out,HF.out.2.2.1,(show ∀ k,(S0 k∨w1.drew.heap.size≤k)→_ from fun k h=>h.elim (fun h=>.inl (eB.out k h)) (fun h=>.inr (by omega)))⟩
  by_cases k2:kd=2
  ·subst k2
   obtain ⟨rm,hroom⟩:∃ rm,dh b 1=rm:=⟨_,rfl⟩
   have q0:w1.cell? ⟨w.heap.size,0,none⟩=some (.int .i64 2):=cell_of_row w1 w.heap.size 0 _ _ (0,0) fG.out
   obtain ⟨u0,u1,u2,h0,h1,h2,hint,c0,c1,c2,c3,c4,c5,c6⟩:=wo.out.cells
   obtain ⟨a0,nL,z0,rfl⟩:=h0.bs.aG
   obtain ⟨a1,z1,rfl,-⟩:=h1.v.form
   obtain ⟨a2,z2,rfl,-⟩:=h2.1.form
   have gM:Hid (bI w1 (.agg #[.slice a0 nL z0,.int .i64 b.valid,.int .i64 b.next,.int .i64 b.seq,.slice a1 b.ah.length z1,.slice a2 b.au.length z2,.int .i64 b.lost]) b):=⟨_,_,_,rfl,h0.bs,h1.v,h2.1,hint⟩
   have KP:Hid (ay b.next):=hint.2.1
   clear h0 h1 h2 hint
   go_wp2_with fail
   refine (zn _ b 1 w1 gM.out (by decide) (by decide) (by omega)).mono ?_
   rintro e w2 ⟨rfl,B2⟩
   have pK:Hid (Below w.heap.size w w2):=Below.step nK.out B2
   have cB:Hid _:=aB B2 bX.out
   have ku:Hid _:=aB B2 fG.out
   have HB2:Hid (Below w1.heap.size w1 w2):=B2
   have hw2:w1.heap.size≤w2.heap.size:=B2.size
   clear B2 c0 c1 c2 c3 c4 c5 c6 q0 gM cb
   rw [hroom]
   cases rm with
   | false =>
    have e:res=(a,aN 3 0):=by rw [bH.out];have h1:=fO.out;simp [dA,h1,hb,hroom]
    subst e
    clear bH fO
    obtain ⟨r0,r1,r2,r3,r4,r5,r6,r7,r8,r9⟩:=aO cB.out
    have fz:∀ i,w2.frozen? ⟨w.heap.size+1,i,none⟩=false:=fun i=>frozen_of_row w2 _ i _ _ cB.out
    have hlr:w.heap.size+1 < w2.heap.size:=lt_of_heap cB.out
    have HF:Hid _:=oD (w:=w) cB.out (by omega) (pK.out) 3 0
    go_wp2
    obtain ⟨f0,f1,f2,f3,f4,f5,f6,f7,f8,f9⟩:=aO HF.out.1
    refine bodyPost_ret (v:=.agg #[.int .i64 3,.int .i64 0,.slice none 0 0,.int .i64 0,.int .i64 0,.int .i64 0,.slice none 0 0,.slice none 0 0,.int .i64 0,.slice none 0 0]) (by simp [results,Tryz.results60,go_sem,f0,f1,f2,f3,f4,f5,f6,f7,f8,f9]) rfl ⟨_,S0,rfl,sG ⟨_,_,_,_,rfl,⟨_,_,_,rfl,mD _,Rd.nil _,Rd.nil _,aI,aI,aI,aI⟩,⟨rfl,rfl⟩,(show ay (3:Int) from ⟨by decide,by decide⟩),aI⟩,aR.below HF.out.2,HP.out _ HF.out.2,fun k h=>.inl (eB.out k h)⟩
   | true =>
    have e:res=(aH a k (jA b fl tx),aN 0 b.next):=by rw [bH.out];have h1:=fO.out;simp [dA,h1,hb,hroom]
    subst e
    clear bH fO
    have hr':=hroom
    simp only [dh,Bool.and_eq_true,decide_eq_true_eq] at hr'
    have hr1:=hr'.1
    have hr2:=hr'.2.1
    clear hr'
    have jJ:Hid (aK w2 Sb g (k * 7) b):=wo.out.below HB2.out
    have agH:w.heap.size < w2.heap.size:=by omega
    have q5:w2.cell? ⟨w.heap.size,5,none⟩=some (.int .i64 fl):=cell_of_row w2 w.heap.size 5 _ _ (0,0) ku.out
    have q7:w2.cell? ⟨w.heap.size,7,none⟩=some (.slice x2 n2 m2):=cell_of_row w2 w.heap.size 7 _ _ (0,0) ku.out
    go_wp2_with fail
    refine (I6 g (k * 7) b Sb fl _ tx w2 jJ.out HI.out.2.2.1 (fun w' h1 h2=>HQ2.out w' (Nat.le_trans pK.out.size h1) ((fU pK.out).trans h2)) hcl.2 (by omega) (by omega) (by omega)).mono ?_
    rintro e w3 ⟨rfl,RJ,hP3⟩
    have aj:Turns w1 w3 Sb g (k * 7):=(nG HB2.out).trans RJ (fun k h=>.inl h)
    have hPb:=hP3
    clear q5 q7 RJ hP3
    have hA:aS w3 (fun k=>S0 k∨w1.heap.size≤k) ga (aH a k (jA b fl tx)):=zI.out w3 _ _ aj hPb (fun k h=>h.elim .inl fun h=>.inr (by omega))
    have hT:aR w1 w3 S0 ga:=aR.box aj fE KJ.out
    have hS1:∀ k,(fun k=>S0 k∨w1.heap.size≤k) k→S0 k∨w1.heap.size≤k:=fun k h=>h
    obtain ⟨S1,wB⟩:∃ S1:Nat→Prop,S1=fun k=>S0 k∨w1.heap.size≤k:=⟨_,rfl⟩
    rw [← wB] at hA hS1
    clear aj hPb wB
    have HT1:Hid (aR w w3 S0 ga):=(aR.below (S:=S0) nK.out).trans hT (fun k h=>.inl h)
    have cK:Hid (w3.heap[w.heap.size+1]?=some (.cells #[.int .i64 0,.int .i64 0,.slice none 0 0,.int .i64 0,.int .i64 0,.int .i64 0,.slice none 0 0,.slice none 0 0,.int .i64 0,.slice none 0 0] 37 (0,0))):=(hT.2.1 _ (by omega) (by omega) (fun h=>by have:=HSL.out _ h;omega)).trans bX.out
    obtain ⟨r0,r1,r2,r3,r4,r5,r6,r7,r8,r9⟩:=aO cK.out
    have fz:∀ i,w3.frozen? ⟨w.heap.size+1,i,none⟩=false:=fun i=>frozen_of_row w3 _ i _ _ cK.out
    have hlr:=lt_of_heap cK.out
    have HF:Hid _:=zB (w:=w) cK.out (by omega) HT1.out _ _ hA iF (fun h=>(hS1 _ h).elim (fun h=>by have:=HSL.out _ h;omega) (fun h=>by omega)) 0 b.next ⟨aI,KP.out⟩
    have pW:Hid (∀ k,S1 k→S k∨w.heap.size≤k):=fun k h=>(hS1 k h).elim (fun h=>.inl (eB.out k h)) (fun h=>.inr (by omega))
    clear hT hA hS1
    go_wp2
    obtain ⟨f0,f1,f2,f3,f4,f5,f6,f7,f8,f9⟩:=aO HF.out.1
    refine bodyPost_ret (v:=.agg #[.int .i64 0,.int .i64 b.next,.slice none 0 0,.int .i64 0,.int .i64 0,.int .i64 0,.slice none 0 0,.slice none 0 0,.int .i64 0,.slice none 0 0]) (by simp [results,Tryz.results60,go_sem,f0,f1,f2,f3,f4,f5,f6,f7,f8,f9]) rfl ⟨_,_,rfl,sG HF.out.2.2.2,aR.wide HF.out.2.1 eB.out,HF.out.2.2.1,pW.out⟩
  by_cases k3:kd=3
  ·subst k3
   obtain ⟨z,hz⟩:∃ z,iD b uid mode fl si=z:=⟨_,rfl⟩
   have e:res=(aH a k z.1,z.2):=by rw [bH.out];have h1:=fO.out;simp [dA,h1,hb,hz]
   subst e
   clear bH fO
   have q0:w1.cell? ⟨w.heap.size,0,none⟩=some (.int .i64 3):=cell_of_row w1 w.heap.size 0 _ _ (0,0) fG.out
   have q1:w1.cell? ⟨w.heap.size,1,none⟩=some (.slice x0 n0 m0):=cell_of_row w1 w.heap.size 1 _ _ (0,0) fG.out
   have q2:w1.cell? ⟨w.heap.size,2,none⟩=some (.slice x1 n1 m1):=cell_of_row w1 w.heap.size 2 _ _ (0,0) fG.out
   have q3:w1.cell? ⟨w.heap.size,3,none⟩=some (.int .i64 uid):=cell_of_row w1 w.heap.size 3 _ _ (0,0) fG.out
   have q4:w1.cell? ⟨w.heap.size,4,none⟩=some (.int .i64 mode):=cell_of_row w1 w.heap.size 4 _ _ (0,0) fG.out
   have q5:w1.cell? ⟨w.heap.size,5,none⟩=some (.int .i64 fl):=cell_of_row w1 w.heap.size 5 _ _ (0,0) fG.out
   have q6:w1.cell? ⟨w.heap.size,6,none⟩=some (.int .i64 si):=cell_of_row w1 w.heap.size 6 _ _ (0,0) fG.out
   have q7:w1.cell? ⟨w.heap.size,7,none⟩=some (.slice x2 n2 m2):=cell_of_row w1 w.heap.size 7 _ _ (0,0) fG.out
   go_wp2_with fail
   have hc:=aak g (k * 7) b Sb 3 uid mode fl si x0 x1 x2 n0 n1 n2 m0 m1 m2 w1 wo.out (by omega) HI.out.2.2.1
   rw [hz] at hc
   clear q1 q2 q3 q4 q5 q6 q7
   refine hc.mono ?_
   rintro e w2 ⟨u,rfl,yt,aj,hPb⟩
   have aaH:¬ Sb g:=RI.out
   have hrep:jg w2 w1.heap.size u z.2:=by
    obtain ⟨c,n,hcn⟩:=aaw b uid mode fl si
    rw [hz] at hcn
    rw [hcn] at yt ⊢
    exact sG yt
   clear yt
   have hA:aS w2 (fun k=>S0 k∨w1.heap.size≤k) ga (aH a k z.1):=zI.out w2 _ _ aj hPb (fun k h=>.inl h)
   have hT:aR w1 w2 S0 ga:=aR.box aj fE KJ.out
   have hS1:∀ k,(fun k=>S0 k∨w1.heap.size≤k) k→S0 k∨w1.heap.size≤k:=fun k h=>h
   obtain ⟨S1,wB⟩:∃ S1:Nat→Prop,S1=fun k=>S0 k∨w1.heap.size≤k:=⟨_,rfl⟩
   rw [← wB] at hA hS1
   clear aj hPb wB
   clear hc cb q0
   obtain ⟨y0,k0,j0,y1,j1,y2,j2,y3,j3,hU⟩:=hrep.v.form
   subst hU
   have HT1:Hid (aR w w2 S0 ga):=(aR.below (S:=S0) nK.out).trans hT (fun k h=>.inl h)
   have bX:Hid (w2.heap[w.heap.size+1]?=some (.cells #[.int .i64 0,.int .i64 0,.slice none 0 0,.int .i64 0,.int .i64 0,.int .i64 0,.slice none 0 0,.slice none 0 0,.int .i64 0,.slice none 0 0] 37 (0,0))):=(hT.2.1 _ (by omega) (by omega) (fun h=>by have:=HSL.out _ h;omega)).trans bX.out
   obtain ⟨r0,r1,r2,r3,r4,r5,r6,r7,r8,r9⟩:=aO bX.out
   have fz:∀ i,w2.frozen? ⟨w.heap.size+1,i,none⟩=false:=fun i=>frozen_of_row w2 _ i _ _ bX.out
   have hlr:=lt_of_heap bX.out
   have HF:Hid _:=vM (w:=w) bX.out (by omega) HT1.out _ _ hA iF (fun h=>(hS1 _ h).elim (fun h=>by have:=HSL.out _ h;omega) (fun h=>by omega)) _ _ _ _ _ _ _ _ _ _ _ hrep (by omega)
   have pW:Hid (∀ k,S1 k→S k∨w.heap.size≤k):=fun k h=>(hS1 k h).elim (fun h=>.inl (eB.out k h)) (fun h=>.inr (by omega))
   clear hrep hT hA hS1
   go_wp2
   obtain ⟨f0,f1,f2,f3,f4,f5,f6,f7,f8,f9⟩:=aO HF.out.1
   refine bodyPost_ret (v:=.agg #[_,_,_,_,_,_,_,_,_,_]) (by simp [results,Tryz.results60,go_sem,f0,f1,f2,f3,f4,f5,f6,f7,f8,f9]) rfl ⟨_,_,rfl,HF.out.2.2.2,aR.wide HF.out.2.1 eB.out,HF.out.2.2.1,pW.out⟩
  by_cases k4:kd=4
  ·subst k4
   obtain ⟨z,hz⟩:∃ z,gF b=z:=⟨_,rfl⟩
   have e:res=(aH a k z.1,z.2):=by rw [bH.out];have h1:=fO.out;simp [dA,h1,hb,hz]
   subst e
   clear bH fO
   have q0:w1.cell? ⟨w.heap.size,0,none⟩=some (.int .i64 4):=cell_of_row w1 w.heap.size 0 _ _ (0,0) fG.out
   go_wp2_with fail
   have hc:=Z8 g (k * 7) b Sb w1 wo.out (by omega) (by omega)
   rw [hz] at hc
   refine hc.mono ?_
   rintro e w2 ⟨u,rfl,yt,aj,hPb⟩
   have aaH:¬ Sb g:=RI.out
   have hrep:jg w2 w1.heap.size u z.2:=by
    obtain ⟨c,n,hcn⟩:=aax b
    rw [hz] at hcn
    rw [hcn] at yt ⊢
    exact sG yt
   clear yt
   have hA:aS w2 (fun k=>S0 k∨w1.heap.size≤k) ga (aH a k z.1):=zI.out w2 _ _ aj hPb (fun k h=>h)
   have hT:aR w1 w2 S0 ga:=aR.box aj fE KJ.out
   have hS1:∀ k,(fun k=>S0 k∨w1.heap.size≤k) k→S0 k∨w1.heap.size≤k:=fun k h=>h
   obtain ⟨S1,wB⟩:∃ S1:Nat→Prop,S1=fun k=>S0 k∨w1.heap.size≤k:=⟨_,rfl⟩
   rw [← wB] at hA hS1
   clear aj hPb wB
   clear hc cb q0
   obtain ⟨y0,k0,j0,y1,j1,y2,j2,y3,j3,hU⟩:=hrep.v.form
   subst hU
   have HT1:Hid (aR w w2 S0 ga):=(aR.below (S:=S0) nK.out).trans hT (fun k h=>.inl h)
   have bX:Hid (w2.heap[w.heap.size+1]?=some (.cells #[.int .i64 0,.int .i64 0,.slice none 0 0,.int .i64 0,.int .i64 0,.int .i64 0,.slice none 0 0,.slice none 0 0,.int .i64 0,.slice none 0 0] 37 (0,0))):=(hT.2.1 _ (by omega) (by omega) (fun h=>by have:=HSL.out _ h;omega)).trans bX.out
   obtain ⟨r0,r1,r2,r3,r4,r5,r6,r7,r8,r9⟩:=aO bX.out
   have fz:∀ i,w2.frozen? ⟨w.heap.size+1,i,none⟩=false:=fun i=>frozen_of_row w2 _ i _ _ bX.out
   have hlr:=lt_of_heap bX.out
   have HF:Hid _:=vM (w:=w) bX.out (by omega) HT1.out _ _ hA iF (fun h=>(hS1 _ h).elim (fun h=>by have:=HSL.out _ h;omega) (fun h=>by omega)) _ _ _ _ _ _ _ _ _ _ _ hrep (by omega)
   have pW:Hid (∀ k,S1 k→S k∨w.heap.size≤k):=fun k h=>(hS1 k h).elim (fun h=>.inl (eB.out k h)) (fun h=>.inr (by omega))
   clear hrep hT hA hS1
   go_wp2
   obtain ⟨f0,f1,f2,f3,f4,f5,f6,f7,f8,f9⟩:=aO HF.out.1
   refine bodyPost_ret (v:=.agg #[_,_,_,_,_,_,_,_,_,_]) (by simp [results,Tryz.results60,go_sem,f0,f1,f2,f3,f4,f5,f6,f7,f8,f9]) rfl ⟨_,_,rfl,HF.out.2.2.2,aR.wide HF.out.2.1 eB.out,HF.out.2.2.1,pW.out⟩
  by_cases k6:kd=6
  ·subst k6
   have hres:kS a k b tt uid mode=res:=by rw [bH.out];have h1:=fO.out;simp [dA,h1,hb]
   clear bH fO
   have q0:w1.cell? ⟨w.heap.size,0,none⟩=some (.int .i64 6):=cell_of_row w1 w.heap.size 0 _ _ (0,0) fG.out
   have q1:w1.cell? ⟨w.heap.size,1,none⟩=some (.slice x0 n0 m0):=cell_of_row w1 w.heap.size 1 _ _ (0,0) fG.out
   have q2:w1.cell? ⟨w.heap.size,2,none⟩=some (.slice x1 n1 m1):=cell_of_row w1 w.heap.size 2 _ _ (0,0) fG.out
   have q3:w1.cell? ⟨w.heap.size,3,none⟩=some (.int .i64 uid):=cell_of_row w1 w.heap.size 3 _ _ (0,0) fG.out
   have q4:w1.cell? ⟨w.heap.size,4,none⟩=some (.int .i64 mode):=cell_of_row w1 w.heap.size 4 _ _ (0,0) fG.out
   have q5:w1.cell? ⟨w.heap.size,5,none⟩=some (.int .i64 fl):=cell_of_row w1 w.heap.size 5 _ _ (0,0) fG.out
   have q6:w1.cell? ⟨w.heap.size,6,none⟩=some (.int .i64 si):=cell_of_row w1 w.heap.size 6 _ _ (0,0) fG.out
   have q7:w1.cell? ⟨w.heap.size,7,none⟩=some (.slice x2 n2 m2):=cell_of_row w1 w.heap.size 7 _ _ (0,0) fG.out
   go_wp2_with fail
   have hc:=Z5 ga k a b tt S0 6 uid mode fl si x0 x1 x2 n0 n1 n2 m0 m1 m2 w1 HA1.out hb (HQ1.out w1 nK.out.size (fU nK.out)) zK.out hbl
   rw [hres] at hc
   refine hc.mono ?_
   rintro e w2 ⟨u,S1,rfl,hrep,hT,hA,hS1⟩
   clear q0 q1 q2 q3 q4 q5 q6 q7 hc cb
   obtain ⟨y0,k0,j0,y1,j1,y2,j2,y3,j3,hU⟩:=hrep.v.form
   subst hU
   have HT1:Hid (aR w w2 S0 ga):=(aR.below (S:=S0) nK.out).trans hT (fun k h=>.inl h)
   have bX:Hid (w2.heap[w.heap.size+1]?=some (.cells #[.int .i64 0,.int .i64 0,.slice none 0 0,.int .i64 0,.int .i64 0,.int .i64 0,.slice none 0 0,.slice none 0 0,.int .i64 0,.slice none 0 0] 37 (0,0))):=(hT.2.1 _ (by omega) (by omega) (fun h=>by have:=HSL.out _ h;omega)).trans bX.out
   obtain ⟨r0,r1,r2,r3,r4,r5,r6,r7,r8,r9⟩:=aO bX.out
   have fz:∀ i,w2.frozen? ⟨w.heap.size+1,i,none⟩=false:=fun i=>frozen_of_row w2 _ i _ _ bX.out
   have hlr:=lt_of_heap bX.out
   have HF:Hid _:=vM (w:=w) bX.out (by omega) HT1.out _ _ hA iF (fun h=>(hS1 _ h).elim (fun h=>by have:=HSL.out _ h;omega) (fun h=>by omega)) _ _ _ _ _ _ _ _ _ _ _ hrep (by omega)
   have pW:Hid (∀ k,S1 k→S k∨w.heap.size≤k):=fun k h=>(hS1 k h).elim (fun h=>.inl (eB.out k h)) (fun h=>.inr (by omega))
   clear hrep hT hA hS1
   go_wp2
   obtain ⟨f0,f1,f2,f3,f4,f5,f6,f7,f8,f9⟩:=aO HF.out.1
   refine bodyPost_ret (v:=.agg #[_,_,_,_,_,_,_,_,_,_]) (by simp [results,Tryz.results60,go_sem,f0,f1,f2,f3,f4,f5,f6,f7,f8,f9]) rfl ⟨_,_,rfl,HF.out.2.2.2,aR.wide HF.out.2.1 eB.out,HF.out.2.2.1,pW.out⟩
  by_cases k8:kd=8
  ·subst k8
   obtain ⟨rr,hrr⟩:∃ rr,nD b si=rr:=⟨_,rfl⟩
   have e:res=(a,rr):=by rw [bH.out];have h1:=fO.out;simp [dA,h1,hb,hrr]
   subst e
   clear bH fO
   have q0:w1.cell? ⟨w.heap.size,0,none⟩=some (.int .i64 8):=cell_of_row w1 w.heap.size 0 _ _ (0,0) fG.out
   have q6:w1.cell? ⟨w.heap.size,6,none⟩=some (.int .i64 si):=cell_of_row w1 w.heap.size 6 _ _ (0,0) fG.out
   obtain ⟨u0,u1,u2,h0,h1,h2,hint,c0,c1,c2,c3,c4,c5,c6⟩:=wo.out.cells
   obtain ⟨a0,nL,z0,rfl⟩:=h0.bs.aG
   obtain ⟨a1,z1,rfl,-⟩:=h1.v.form
   obtain ⟨a2,z2,rfl,-⟩:=h2.1.form
   have gM:Hid (bI w1 (.agg #[.slice a0 nL z0,.int .i64 b.valid,.int .i64 b.next,.int .i64 b.seq,.slice a1 b.ah.length z1,.slice a2 b.au.length z2,.int .i64 b.lost]) b):=⟨_,_,_,rfl,h0.bs,h1.v,h2.1,hint⟩
   have KP:Hid (ay b.next):=hint.2.1
   clear h0 h1 h2 hint
   have uN:Hid (Below w.heap.size w w1.drew):=nK.out.drew
   have j6:Hid (w1.drew.heap[w.heap.size+1]?=_):=bX.out
   have aaI:Hid (w1.drew.heap[w.heap.size]?=_):=fG.out
   have hgd:g < w1.drew.heap.size:=sF
   have hld:w.heap.size < w1.drew.heap.size:=vL
   have hd1:w1.drew.heap.size=w1.heap.size:=rfl
   go_upto_region 30 with fail
   refine eO 6 (S:=fun w'=>w'.cell? ⟨g,k * 7,none⟩=some (.slice a0 nL z0)∧w'.cell? ⟨g,k * 7+1,none⟩=some (.int .i64 b.valid)∧w'.cell? ⟨g,k * 7+2,none⟩=some (.int .i64 b.next)∧w'.cell? ⟨g,k * 7+3,none⟩=some (.int .i64 b.seq)∧w'.cell? ⟨g,k * 7+4,none⟩=some (.slice a1 b.ah.length z1)∧w'.cell? ⟨g,k * 7+5,none⟩=some (.slice a2 b.au.length z2)∧w'.cell? ⟨g,k * 7+6,none⟩=some (.int .i64 b.lost)∧w'.cell? ⟨w.heap.size,6,none⟩=some (.int .i64 si)) (eH (by kernel_rfl) aay) (by kernel_rfl) (⟨c0,c1,c2,c3,c4,c5,c6,q6⟩) (fun aj hHeld=>?_)
   refine tks 0 0 116 aj hHeld ?_
   refine tks 1 1 117 aj hHeld ?_
   refine tks 2 2 118 aj hHeld ?_
   refine tks 3 3 119 aj hHeld ?_
   refine tks 4 4 120 aj hHeld ?_
   refine cls 5 5 aj (by decide) rfl rfl (fun K hK=>?_)
   go_simp
   have hc:=aan _ b si w1.drew (gM.out.below (bd _ _)) (by omega)
   rw [hrr] at hc
   refine hc.mono ?_
   rintro e wz ⟨u,rfl,hrep,Bz⟩
   clear hc
   obtain ⟨y0,k0,j0,y1,j1,y2,j2,y3,j3,hU⟩:=hrep.v.form
   subst hU
   have bJ:Hid (jg wz w1.drew.heap.size _ rr):=hrep
   have wC:Hid (Below w.heap.size w wz):=Below.step uN.out Bz
   have nM:Hid _:=aB Bz j6.out
   have sz:=Bz.size
   refine hK.out _ _ (⟨(Bz.cell (p:=⟨g,_,none⟩) hgd).trans c0,(Bz.cell (p:=⟨g,_,none⟩) hgd).trans c1,(Bz.cell (p:=⟨g,_,none⟩) hgd).trans c2,(Bz.cell (p:=⟨g,_,none⟩) hgd).trans c3,(Bz.cell (p:=⟨g,_,none⟩) hgd).trans c4,(Bz.cell (p:=⟨g,_,none⟩) hgd).trans c5,(Bz.cell (p:=⟨g,_,none⟩) hgd).trans c6,(Bz.cell (p:=⟨w.heap.size,_,none⟩) hld).trans q6⟩) (fun hHeld=>?_)
   clear hK K
   refine gH (S':=fun w'=>True) 6 7 aj (by decide) (trivial) (fun hHeld=>?_)
   refine cls 6 6 aj (by decide) rfl rfl (fun K hK=>?_)
   obtain ⟨r0,r1,r2,r3,r4,r5,r6,r7,r8,r9⟩:=aO nM.out
   have fz:∀ i,wz.frozen? ⟨w.heap.size+1,i,none⟩=false:=fun i=>frozen_of_row wz _ i _ _ nM.out
   have hlr:=lt_of_heap nM.out
   have HF:Hid _:=vM (w:=w) (ga:=ga) (S:=S0) (S':=S0) nM.out (by omega) (aR.below wC.out) a (HP.out _ wC.out) iF (fun h=>by have:=HSL.out _ h;omega) _ (.int .i64 rr.code) (.int .i64 rr.num) (.slice y0 k0 j0) (.int .i64 rr.box.valid) (.int .i64 rr.box.next) (.int .i64 rr.box.seq) (.slice y1 rr.box.ah.length j1) (.slice y2 rr.box.au.length j2) (.int .i64 rr.box.lost) (.slice y3 rr.names.length j3) bJ.out (by show w.heap.size+1 < w1.heap.size;omega)
   go_simp
   refine hK.out _ _ (trivial) (fun hHeld=>?_)
   clear hK K
   refine eP aj ?_
   go_wp2
   obtain ⟨f0,f1,f2,f3,f4,f5,f6,f7,f8,f9⟩:=aO HF.out.1
   refine bodyPost_ret (v:=.agg #[.int .i64 rr.code,.int .i64 rr.num,.slice y0 k0 j0,.int .i64 rr.box.valid,.int .i64 rr.box.next,.int .i64 rr.box.seq,.slice y1 rr.box.ah.length j1,.slice y2 rr.box.au.length j2,.int .i64 rr.box.lost,.slice y3 rr.names.length j3]) (by simp [results,Tryz.results60,go_sem,f0,f1,f2,f3,f4,f5,f6,f7,f8,f9]) rfl ⟨_,S0,rfl,HF.out.2.2.2,aR.wide HF.out.2.1 eB.out,HF.out.2.2.1,fun k h=>.inl (eB.out k h)⟩
  by_cases k7:kd=7
  ·subst k7
   have e:res=(a,⟨0,(b.ah.length:Nat),⟨b.name,b.valid,b.next,b.seq,[],[],b.lost⟩,[]⟩):=by rw [bH.out];have h1:=fO.out;simp [dA,h1,hb]
   subst e
   clear bH fO
   have q0:w1.cell? ⟨w.heap.size,0,none⟩=some (.int .i64 7):=cell_of_row w1 w.heap.size 0 _ _ (0,0) fG.out
   obtain ⟨u0,u1,u2,h0,h1,h2,hint,c0,c1,c2,c3,c4,c5,c6⟩:=wo.out.cells
   obtain ⟨a0,nL,z0,rfl⟩:=h0.bs.aG
   obtain ⟨a1,z1,rfl,-⟩:=h1.v.form
   obtain ⟨a2,z2,rfl,-⟩:=h2.1.form
   have gM:Hid (bI w1 (.agg #[.slice a0 nL z0,.int .i64 b.valid,.int .i64 b.next,.int .i64 b.seq,.slice a1 b.ah.length z1,.slice a2 b.au.length z2,.int .i64 b.lost]) b):=⟨_,_,_,rfl,h0.bs,h1.v,h2.1,hint⟩
   have yX:Hid (ay b.valid∧ay b.next∧ay b.seq∧ay b.lost):=hint
   have lH:Hid (Bs w1.drew (.slice a0 nL z0) b.name):=h0.bs.below (bd _ _)
   clear h0 h1 h2 hint
   have uN:Hid (Below w.heap.size w w1.drew):=nK.out.drew
   have j6:Hid (w1.drew.heap[w.heap.size+1]?=_):=bX.out
   have aaI:Hid (w1.drew.heap[w.heap.size]?=_):=fG.out
   have hgd:g < w1.drew.heap.size:=sF
   have hld:w.heap.size < w1.drew.heap.size:=vL
   have hd1:w1.drew.heap.size=w1.heap.size:=rfl
   obtain ⟨i0,hi,hz0,hz1,hz2⟩:=info_parts info5
   have hnl:b.name.length≤900000:=by unfold bT at hsx;omega
   have hm1:b.name.length≤maxLen:=by unfold maxLen;omega
   have hm2:b.name.length * 1≤140737488355328:=by omega
   go_upto_region 32 with fail
   refine eO 29 (S:=fun w'=>w'.cell? ⟨g,k * 7,none⟩=some (.slice a0 nL z0)∧w'.cell? ⟨g,k * 7+1,none⟩=some (.int .i64 b.valid)∧w'.cell? ⟨g,k * 7+2,none⟩=some (.int .i64 b.next)∧w'.cell? ⟨g,k * 7+3,none⟩=some (.int .i64 b.seq)∧w'.cell? ⟨g,k * 7+4,none⟩=some (.slice a1 b.ah.length z1)∧w'.cell? ⟨g,k * 7+6,none⟩=some (.int .i64 b.lost)) (eH (by kernel_rfl) aaz) (by kernel_rfl) (⟨c0,c1,c2,c3,c4,c6⟩) (fun aj hHeld=>?_)
   refine tks 0 0 124 aj hHeld ?_
   refine tks 1 1 125 aj hHeld ?_
   refine tks 2 2 126 aj hHeld ?_
   refine tks 3 3 127 aj hHeld ?_
   refine tks 4 4 128 aj hHeld ?_
   refine tks 5 6 130 aj hHeld ?_
   refine tks 6 7 131 aj hHeld ?_
   refine tks 7 8 132 aj hHeld ?_
   refine tks 8 9 133 aj hHeld ?_
   refine tks 9 11 135 aj hHeld ?_
   refine tks 10 12 136 aj hHeld ?_
   refine tks 11 13 137 aj hHeld ?_
   refine tks 12 14 138 aj hHeld ?_
   refine tks 13 15 139 aj hHeld ?_
   refine tks 14 16 140 aj hHeld ?_
   refine tks 15 17 141 aj hHeld ?_
   refine tks 16 18 142 aj hHeld ?_
   refine tks 17 19 143 aj hHeld ?_
   refine tks 18 20 144 aj hHeld ?_
   refine tks 19 21 145 aj hHeld ?_
   refine tks 20 22 146 aj hHeld ?_
   refine tks 21 23 147 aj hHeld ?_
   refine tks 22 24 148 aj hHeld ?_
   refine tks 23 25 149 aj hHeld ?_
   refine tks 24 26 150 aj hHeld ?_
   refine cls 25 5 aj (by decide) rfl rfl (fun K hK=>?_)
   go_simp
   have AE:Below w1.drew.heap.size w1.drew (w1.drew.alloc (.cells #[] 5)):=bn _ _
   have pY:Hid _:=kJ w1.drew 5 1 w1.drew.heap.size (Nat.le_refl _)
   have ko:Hid (Below w1.drew.heap.size w1.drew (w1.drew.alloc (.cells #[] 5))):=AE
   refine hK.out _ _ (⟨(AE.cell (p:=⟨g,_,none⟩) hgd).trans c0,(AE.cell (p:=⟨g,_,none⟩) hgd).trans c1,(AE.cell (p:=⟨g,_,none⟩) hgd).trans c2,(AE.cell (p:=⟨g,_,none⟩) hgd).trans c3,(AE.cell (p:=⟨g,_,none⟩) hgd).trans c4,(AE.cell (p:=⟨g,_,none⟩) hgd).trans c6⟩) (fun hHeld=>?_)
   clear hK K
   clear AE
   refine cls 26 10 aj (by decide) rfl rfl (fun K hK=>?_)
   refine dR (by kernel_rfl) (jX (B:=w1.drew.heap.size) 134 rfl (.tmp 129) (.tmp 133) rfl pY.out (Bs.rF (lH.out.below ko.out)) (one_byte _) Tryz.underlying22 hi hz0 hz1 hz2 rfl (by omega) rfl rfl hm1 hm2 ko.out.size ?_)
   intro V1 wz xs hO4 sI hG4 hB4
   have hR:RO wz (fun k=>w1.drew.heap.size≤k) V1 b.name:=rG lH.out.1 hO4 sI (fun g hg=>dP hO4 hg)
   obtain ⟨y0,k0,j0,hV1⟩:=hR.bs.aG
   subst hV1
   have CF:(w1.drew.alloc (.cells #[] 5)).grownBy wz (some w1.drew.heap.size):=hG4
   have Bz:Below w1.drew.heap.size w1.drew wz:=kK ko.out CF (Nat.le_refl _)
   have wC:Hid (Below w.heap.size w wz):=Below.step uN.out Bz
   have nM:Hid _:=aB Bz j6.out
   have sz:=Bz.size
   have bJ:Hid (jg wz w1.drew.heap.size (.agg #[.int .i64 0,.int .i64 (b.ah.length:Nat),.slice y0 k0 j0,.int .i64 b.valid,.int .i64 b.next,.int .i64 b.seq,.slice none 0 0,.slice none 0 0,.int .i64 b.lost,.slice none 0 0]) ⟨0,(b.ah.length:Nat),⟨b.name,b.valid,b.next,b.seq,[],[],b.lost⟩,[]⟩):=⟨fun w' hs' hk'=>⟨_,_,_,_,rfl,⟨_,_,_,rfl,(hR.frame fun k h1 h2=>hk' k h1 h2).bs,Rd.nil _,Rd.nil _,yX.out⟩,Rd.nil _,aI,⟨by show (-9223372036854775808:Int)≤(b.ah.length:Int);omega,by show (b.ah.length:Int)≤9223372036854775807;omega⟩⟩,_,_,_,_,_,_,_,_,_,_,rfl,.inl ⟨rfl,rfl⟩⟩
   clear hO4 sI hG4 hB4 hR CF
   refine hK.out _ _ (⟨(Bz.cell (p:=⟨g,_,none⟩) hgd).trans c0,(Bz.cell (p:=⟨g,_,none⟩) hgd).trans c1,(Bz.cell (p:=⟨g,_,none⟩) hgd).trans c2,(Bz.cell (p:=⟨g,_,none⟩) hgd).trans c3,(Bz.cell (p:=⟨g,_,none⟩) hgd).trans c4,(Bz.cell (p:=⟨g,_,none⟩) hgd).trans c6⟩) (fun hHeld=>?_)
   clear hK K
   refine tks 27 27 151 aj hHeld ?_
   refine tks 28 28 152 aj hHeld ?_
   refine gH (S':=fun w'=>True) 29 30 aj (by decide) (trivial) (fun hHeld=>?_)
   refine cls 29 29 aj (by decide) rfl rfl (fun K hK=>?_)
   obtain ⟨r0,r1,r2,r3,r4,r5,r6,r7,r8,r9⟩:=aO nM.out
   have fz:∀ i,wz.frozen? ⟨w.heap.size+1,i,none⟩=false:=fun i=>frozen_of_row wz _ i _ _ nM.out
   have hlr:=lt_of_heap nM.out
   have HF:Hid _:=vM (w:=w) (ga:=ga) (S:=S0) (S':=S0) nM.out (by omega) (aR.below wC.out) a (HP.out _ wC.out) iF (fun h=>by have:=HSL.out _ h;omega) _ (.int .i64 0) (.int .i64 (b.ah.length:Nat)) (.slice y0 k0 j0) (.int .i64 b.valid) (.int .i64 b.next) (.int .i64 b.seq) (.slice none 0 0) (.slice none 0 0) (.int .i64 b.lost) (.slice none 0 0) bJ.out (by show w.heap.size+1 < w1.heap.size;omega)
   go_simp
   refine hK.out _ _ (trivial) (fun hHeld=>?_)
   clear hK K
   refine eP aj ?_
   go_wp2
   obtain ⟨f0,f1,f2,f3,f4,f5,f6,f7,f8,f9⟩:=aO HF.out.1
   refine bodyPost_ret (v:=.agg #[.int .i64 0,.int .i64 (b.ah.length:Nat),.slice y0 k0 j0,.int .i64 b.valid,.int .i64 b.next,.int .i64 b.seq,.slice none 0 0,.slice none 0 0,.int .i64 b.lost,.slice none 0 0]) (by simp [results,Tryz.results60,go_sem,f0,f1,f2,f3,f4,f5,f6,f7,f8,f9]) rfl ⟨_,S0,rfl,HF.out.2.2.2,aR.wide HF.out.2.1 eB.out,HF.out.2.2.1,fun k h=>.inl (eB.out k h)⟩
  have h1b:(kd == 1)=false:=by simp [k1]
  have h2b:(kd == 2)=false:=by simp [k2]
  have h3b:(kd == 3)=false:=by simp [k3]
  have h4b:(kd == 4)=false:=by simp [k4]
  have h6b:(kd == 6)=false:=by simp [k6]
  have h8b:(kd == 8)=false:=by simp [k8]
  have h7b:(kd == 7)=false:=by simp [k7]
  have q0:w1.cell? ⟨w.heap.size,0,none⟩=some (.int .i64 kd):=cell_of_row w1 w.heap.size 0 _ _ (0,0) fG.out
  have q3:w1.cell? ⟨w.heap.size,3,none⟩=some (.int .i64 uid):=cell_of_row w1 w.heap.size 3 _ _ (0,0) fG.out
  obtain ⟨u0,u1,u2,h0,h1,h2,hint,c0,c1,c2,c3,c4,c5,c6⟩:=wo.out.cells
  obtain ⟨a0,nL,z0,rfl⟩:=h0.bs.aG
  obtain ⟨a1,z1,rfl,-⟩:=h1.v.form
  obtain ⟨a2,z2,rfl,-⟩:=h2.1.form
  have gM:Hid (bI w1 (.agg #[.slice a0 nL z0,.int .i64 b.valid,.int .i64 b.next,.int .i64 b.seq,.slice a1 b.ah.length z1,.slice a2 b.au.length z2,.int .i64 b.lost]) b):=⟨_,_,_,rfl,h0.bs,h1.v,h2.1,hint⟩
  have KP:Hid (ay b.next):=hint.2.1
  clear h0 h1 h2 hint
  have DR:Below w1.heap.size w1 w1.drew:=(bd _ _)
  have hgd:g < w1.drew.heap.size:=sF
  have hld:w.heap.size < w1.drew.heap.size:=vL
  have HS:Hid (∀ w',Below w1.drew.heap.size w1.drew w'→w'.cell? ⟨g,k * 7,none⟩=some (.slice a0 nL z0)∧w'.cell? ⟨g,k * 7+1,none⟩=some (.int .i64 b.valid)∧w'.cell? ⟨g,k * 7+2,none⟩=some (.int .i64 b.next)∧w'.cell? ⟨g,k * 7+3,none⟩=some (.int .i64 b.seq)∧w'.cell? ⟨g,k * 7+4,none⟩=some (.slice a1 b.ah.length z1)∧w'.cell? ⟨g,k * 7+5,none⟩=some (.slice a2 b.au.length z2)∧w'.cell? ⟨g,k * 7+6,none⟩=some (.int .i64 b.lost)∧w'.cell? ⟨w.heap.size,3,none⟩=some (.int .i64 uid)):=fun w' h=>⟨(h.cell (p:=⟨g,_,none⟩) hgd).trans c0,(h.cell (p:=⟨g,_,none⟩) hgd).trans c1,(h.cell (p:=⟨g,_,none⟩) hgd).trans c2,(h.cell (p:=⟨g,_,none⟩) hgd).trans c3,(h.cell (p:=⟨g,_,none⟩) hgd).trans c4,(h.cell (p:=⟨g,_,none⟩) hgd).trans c5,(h.cell (p:=⟨g,_,none⟩) hgd).trans c6,(h.cell (p:=⟨w.heap.size,_,none⟩) hld).trans q3⟩
  have dY:Hid (bI w1.drew (.agg #[.slice a0 nL z0,.int .i64 b.valid,.int .i64 b.next,.int .i64 b.seq,.slice a1 b.ah.length z1,.slice a2 b.au.length z2,.int .i64 b.lost]) b):=gM.out.below DR
  go_upto_region 33 with fail
  clear c0 c1 c2 c3 c4 c5 c6 q3
  go_region_held3 (fun w'=>w'.cell? ⟨g,k * 7,none⟩=some (.slice a0 nL z0)∧w'.cell? ⟨g,k * 7+1,none⟩=some (.int .i64 b.valid)∧w'.cell? ⟨g,k * 7+2,none⟩=some (.int .i64 b.next)∧w'.cell? ⟨g,k * 7+3,none⟩=some (.int .i64 b.seq)∧w'.cell? ⟨g,k * 7+4,none⟩=some (.slice a1 b.ah.length z1)∧w'.cell? ⟨g,k * 7+5,none⟩=some (.slice a2 b.au.length z2)∧w'.cell? ⟨g,k * 7+6,none⟩=some (.int .i64 b.lost)∧w'.cell? ⟨w.heap.size,3,none⟩=some (.int .i64 uid))
   (first | exact HS.out _ (Below.refl _ _) | exact HS.out _ B2 | go_keep)
   ((go_at_call 51;refine (rH _ b uid _ dY.out).mono ?_;rintro e w2 ⟨rfl,B2⟩))
  have HB2:Hid (Below w1.heap.size w1 w2):=Below.step DR B2
  have pK:Hid (Below w.heap.size w w2):=Below.step nK.out HB2.out
  have cB:Hid _:=aB HB2.out bX.out
  have ku:Hid _:=aB HB2.out fG.out
  have hw2:w1.heap.size≤w2.heap.size:=HB2.out.size
  clear B2 dY DR hgd hld HS gM q0 cb
  cases hg:b.ah.findIdx? (fun m:aC=>decide (m.uid=uid)) with
  | none =>
   have hfm:=Fp hg
   have e:res=(a,aN 1 0):=by rw [bH.out];have h1:=fO.out;simp [dA,h1,hb,h0,h9,k1,k2,k3,k4,k6,k7,k8,hg]
   subst e
   clear bH fO hg
   obtain ⟨r0,r1,r2,r3,r4,r5,r6,r7,r8,r9⟩:=aO cB.out
   have fz:∀ i,w2.frozen? ⟨w.heap.size+1,i,none⟩=false:=fun i=>frozen_of_row w2 _ i _ _ cB.out
   have hlr:w.heap.size+1 < w2.heap.size:=lt_of_heap cB.out
   have HF:Hid _:=oD (w:=w) cB.out (by omega) (pK.out) 1 0
   go_wp2
   obtain ⟨f0,f1,f2,f3,f4,f5,f6,f7,f8,f9⟩:=aO HF.out.1
   refine bodyPost_ret (v:=.agg #[.int .i64 1,.int .i64 0,.slice none 0 0,.int .i64 0,.int .i64 0,.int .i64 0,.slice none 0 0,.slice none 0 0,.int .i64 0,.slice none 0 0]) (by simp [results,Tryz.results60,go_sem,f0,f1,f2,f3,f4,f5,f6,f7,f8,f9]) rfl ⟨_,S0,rfl,sG ⟨_,_,_,_,rfl,⟨_,_,_,rfl,mD _,Rd.nil _,Rd.nil _,aI,aI,aI,aI⟩,⟨rfl,rfl⟩,(show ay (1:Int) from ⟨by decide,by decide⟩),aI⟩,aR.below HF.out.2,HP.out _ HF.out.2,fun k h=>.inl (eB.out k h)⟩
  | some i =>
   obtain ⟨hfm,m,hm⟩:=Fq hg
   obtain ⟨bq,hbq⟩:∃ bq:aA,bq=⟨b.name,b.valid,b.next,b.seq,(b.ah.drop i).take 1,[],b.lost⟩:=⟨_,rfl⟩
   have e:res=(a,⟨0,uid,bq,[]⟩):=by rw [bH.out,hbq];have h1:=fO.out;simp [dA,h1,hb,h0,h9,k1,k2,k3,k4,k6,k7,k8,hg]
   subst e
   clear bH fO hg
   have RL:Hid (aK w2.drew Sb g (k * 7) b):=(wo.out.below HB2.out).below (bd _ _)
   obtain ⟨mb,mc,ut,d4,hmc,hlm,-⟩:=RL.out.II hm
   obtain ⟨u0,u1,u2,h0,h1,h2,hint,d0,d1,d2,d3,RN,-,d6⟩:=RL.out.cells
   have e4:u1=.slice (some ⟨mb,0,none⟩) b.ah.length mc:=Option.some.inj (RN.symm.trans d4)
   subst e4
   obtain ⟨b0,p0,y0,rfl⟩:=h0.bs.aG
   have hil:i < b.ah.length:=(gs1 hm).1
   have aaJ:Hid (bI w2.drew (.agg #[.slice b0 p0 y0,.int .i64 b.valid,.int .i64 b.next,.int .i64 b.seq,.slice (some ⟨mb,i * 4,none⟩) 1 (mc - i),.slice none 0 0,.int .i64 b.lost]) bq):=by
    subst hbq
    have hd:=Rd.drop (k:=i) h1.v (by omega)
    rw [Nat.zero_add] at hd
    have hd':Rd 4 yQ w2.drew (.slice (some ⟨mb,i * 4,none⟩) (b.ah.drop i).length (mc - i)) (b.ah.drop i):=by rw [List.length_drop];exact hd
    exact ⟨_,_,_,rfl,h0.bs,Rd.take hd' (by rw [List.length_drop];omega),Rd.nil _,hint⟩
   have HQV:Hid (bq.valid=b.valid∧bq.next=b.next∧bq.seq=b.seq∧bq.lost=b.lost):=by subst hbq;exact ⟨rfl,rfl,rfl,rfl⟩
   have qL:bT bq≤900000:=by
    subst hbq
    have hms:iB ((b.ah.drop i).take 1)≤iB b.ah:=Rx i b.ah
    unfold bT at hsx ⊢
    show b.name.length+iB ((b.ah.drop i).take 1)+([]:List bB).length+_≤_
    simp only [List.length_nil] at *
    omega
   have uN:Hid (Below w.heap.size w w2.drew):=pK.out.drew
   have j6:Hid (w2.drew.heap[w.heap.size+1]?=_):=cB.out
   have hgd:g < w2.drew.heap.size:=by show g < w2.heap.size;omega
   have hld:w.heap.size < w2.drew.heap.size:=by show w.heap.size < w2.heap.size;omega
   have hd2:w2.drew.heap.size=w2.heap.size:=rfl
   have q3:w2.drew.cell? ⟨w.heap.size,3,none⟩=some (.int .i64 uid):=cell_of_row w2.drew w.heap.size 3 _ _ (0,0) ku.out
   have hz0:¬ mc=i:=by omega
   have hiz:i≤mc:=by omega
   have hi0:(0:Int)≤(i:Int):=by omega
   have agP:(i:Int)≤900000:=by omega
   have hwr:IntKind.i64.wrap ((i:Int)+1)=(i:Int)+1:=by simp [IntKind.wrap,IntKind.bits,IntKind.signed];omega
   have htn:((i:Int)+1).toNat=i+1:=by omega
   have hb0:(0:Int)≤(i:Int)+1:=by omega
   have hb1:(i:Int)+1≤(mc:Int):=by omega
   have hb2:(i:Int)≤(i:Int)+1:=by omega
   clear h0 h1 h2 hint RN hbq
   go_upto_region 36 with fail
   refine eO 33 (S:=fun w'=>w'.cell? ⟨g,k * 7,none⟩=some (.slice b0 p0 y0)∧w'.cell? ⟨g,k * 7+1,none⟩=some (.int .i64 b.valid)∧w'.cell? ⟨g,k * 7+2,none⟩=some (.int .i64 b.next)∧w'.cell? ⟨g,k * 7+3,none⟩=some (.int .i64 b.seq)∧w'.cell? ⟨g,k * 7+4,none⟩=some (.slice (some ⟨mb,0,none⟩) b.ah.length mc)∧w'.cell? ⟨g,k * 7+6,none⟩=some (.int .i64 b.lost)∧w'.cell? ⟨w.heap.size,3,none⟩=some (.int .i64 uid)) (eH (by kernel_rfl) aaA) (by kernel_rfl) (⟨d0,d1,d2,d3,d4,d6,q3⟩) (fun aj hHeld=>?_)
   refine tks 0 0 162 aj hHeld ?_
   refine tks 1 1 163 aj hHeld ?_
   refine tks 2 2 164 aj hHeld ?_
   refine tks 3 3 165 aj hHeld ?_
   refine tks 4 4 166 aj hHeld ?_
   refine tks 5 5 167 aj hHeld ?_
   refine tks 6 6 168 aj hHeld ?_
   refine tks 7 7 169 aj hHeld ?_
   refine tks 8 8 170 aj hHeld ?_
   refine tks 9 9 171 aj hHeld ?_
   refine tks 10 10 172 aj hHeld ?_
   refine tks 11 11 173 aj hHeld ?_
   refine tks 12 12 174 aj hHeld ?_
   refine tks 13 13 175 aj hHeld ?_
   refine tks 14 14 176 aj hHeld ?_
   refine tks 15 15 177 aj hHeld ?_
   refine tks 16 16 178 aj hHeld ?_
   refine tks 17 17 179 aj hHeld ?_
   refine tks 18 18 180 aj hHeld ?_
   refine tks 19 19 181 aj hHeld ?_
   refine tks 20 20 182 aj hHeld ?_
   refine tks 21 21 183 aj hHeld ?_
   refine tks 22 22 184 aj hHeld ?_
   refine tks 23 23 185 aj hHeld ?_
   refine tks 24 24 186 aj hHeld ?_
   refine tks 25 25 187 aj hHeld ?_
   refine tks 26 26 188 aj hHeld ?_
   refine tks 27 27 189 aj hHeld ?_
   refine tks 28 28 190 aj hHeld ?_
   refine tks 29 29 191 aj hHeld ?_
   refine tks 30 30 192 aj hHeld ?_
   refine cls 31 31 aj (by decide) rfl rfl (fun K hK=>?_)
   go_simp
   refine (Nj _ bq _ aaJ.out (by omega)).mono ?_
   rintro e wz ⟨u,rfl,⟨cs,hcs,hE⟩,Bz⟩
   subst hcs
   obtain ⟨o0,oL,oM,o1,oN,oO,o2,oP,oQ,hcs⟩:=OW hE
   subst hcs
   have wC:Hid (Below w.heap.size w wz):=Below.step uN.out Bz
   have nM:Hid _:=aB Bz j6.out
   have sz:=Bz.size
   have bJ:Hid (jg wz w2.drew.heap.size (.agg #[.int .i64 0,.int .i64 uid,.slice o0 oL oM,.int .i64 bq.valid,.int .i64 bq.next,.int .i64 bq.seq,.slice o1 oN oO,.slice o2 oP oQ,.int .i64 bq.lost,.slice none 0 0]) ⟨0,uid,bq,[]⟩):=by
    refine ⟨fun w' hs' hk'=>?_,_,_,_,_,_,_,_,_,_,_,rfl,.inl ⟨rfl,rfl⟩⟩
    obtain ⟨z0,z1,z2,ez,zz⟩:=(jN _ _ _ _ _ hE fun k h1 h2=>hk' k h1.1 h2).rd
    simp only [List.cons.injEq,and_true,true_and] at ez
    obtain ⟨rfl,rfl,rfl⟩:=ez
    exact ⟨_,_,_,_,rfl,⟨_,_,_,rfl,zz⟩,Rd.nil _,aI,HI.out.1⟩
   clear hE
   refine hK.out _ _ (⟨(Bz.cell (p:=⟨g,_,none⟩) hgd).trans d0,(Bz.cell (p:=⟨g,_,none⟩) hgd).trans d1,(Bz.cell (p:=⟨g,_,none⟩) hgd).trans d2,(Bz.cell (p:=⟨g,_,none⟩) hgd).trans d3,(Bz.cell (p:=⟨g,_,none⟩) hgd).trans d4,(Bz.cell (p:=⟨g,_,none⟩) hgd).trans d6,(Bz.cell (p:=⟨w.heap.size,_,none⟩) hld).trans q3⟩) (fun hHeld=>?_)
   clear hK K
   refine tks 32 32 194 aj hHeld ?_
   refine gH (S':=fun w'=>True) 33 34 aj (by decide) (trivial) (fun hHeld=>?_)
   refine cls 33 33 aj (by decide) rfl rfl (fun K hK=>?_)
   obtain ⟨r0,r1,r2,r3,r4,r5,r6,r7,r8,r9⟩:=aO nM.out
   have fz:∀ i,wz.frozen? ⟨w.heap.size+1,i,none⟩=false:=fun i=>frozen_of_row wz _ i _ _ nM.out
   have hlr:=lt_of_heap nM.out
   have HF:Hid _:=vM (w:=w) (ga:=ga) (S:=S0) (S':=S0) nM.out (by omega) (aR.below wC.out) a (HP.out _ wC.out) iF (fun h=>by have:=HSL.out _ h;omega) _ (.int .i64 0) (.int .i64 uid) (.slice o0 oL oM) (.int .i64 bq.valid) (.int .i64 bq.next) (.int .i64 bq.seq) (.slice o1 oN oO) (.slice o2 oP oQ) (.int .i64 bq.lost) (.slice none 0 0) bJ.out (by show w.heap.size+1 < w2.heap.size;omega)
   go_simp
   refine hK.out _ _ (trivial) (fun hHeld=>?_)
   clear hK K
   refine eP aj ?_
   go_wp2
   obtain ⟨f0,f1,f2,f3,f4,f5,f6,f7,f8,f9⟩:=aO HF.out.1
   refine bodyPost_ret (v:=.agg #[.int .i64 0,.int .i64 uid,.slice o0 oL oM,.int .i64 bq.valid,.int .i64 bq.next,.int .i64 bq.seq,.slice o1 oN oO,.slice o2 oP oQ,.int .i64 bq.lost,.slice none 0 0]) (by simp [results,Tryz.results60,go_sem,f0,f1,f2,f3,f4,f5,f6,f7,f8,f9]) rfl ⟨_,S0,rfl,HF.out.2.2.2,aR.wide HF.out.2.1 eB.out,HF.out.2.2.1,fun k h=>.inl (eB.out k h)⟩
end Go.Proofs.YtmglhdkeidhafaaGreat
