/- The proof's texts, part 37. -/
import Derived.Test.YtlneebmlhblleaaGreatTz
import Derived.Test.YtlneebmlhblleaaGreatTA
namespace Go.Proofs.YtlneebmlhblleaaGreat
open Go.RowKit
set_option linter.unusedVariables false
set_option linter.unusedSimpArgs false
set_option maxHeartbeats 40000000
set_option maxRecDepth 100000
/- What Qh of package spec does on a box: none, delete, append, store, Gr, copy, changes, status, fetch. -/
theorem afs (b:aD) (uid mode fl si:Int):∃ c n,(j6 b uid mode fl si).2=aQ c n:=by
 unfold j6
 split
 ·exact ⟨_,_,rfl⟩
 ·split
  ·exact ⟨_,_,rfl⟩
  ·split
   ·exact ⟨_,_,rfl⟩
   ·split
    ·exact ⟨_,_,rfl⟩
    ·split
     ·exact ⟨_,_,rfl⟩
     ·exact ⟨_,_,rfl⟩
theorem aft (b:aD):∃ c n,(iD b).2=aQ c n:=by
 unfold iD
 split
 ·exact ⟨_,_,rfl⟩
 ·split
  ·exact ⟨_,_,rfl⟩
  ·exact ⟨_,_,rfl⟩
theorem VZ:(Tryz.f24.body.bind (bQ 17)).all (fun o=>dQ o 20 [0,2,3,4,5,6,7,9,10,11,12,13,14,15,1,8,16,17,18,19] [14,15,16,19] [19,20] 12)=true:=by kernel_rfl
theorem V5 {wl w3:World} {S0:Nat→Prop} {ga k m:Nat} {A:aJ} {cells:List Value} {V:Value} (hA:aU wl S0 ga A) (LY:∀ k,S0 k→k < wl.heap.size) (hb:Below wl.heap.size wl w3) (hel:EL 7 gT wl A.boxes S0 cells)
  (hrow:w3.ownsRow wl.heap.size 37 7 V m (cells.take (k * 7) ++ cells.drop ((k+1) * 7))) (hm:m+1=A.boxes.length) (hk:k < A.boxes.length) :
  aU (w3.setCell ⟨ga,1,none⟩ V) (fun j=>S0 j∨wl.heap.size≤j) ga ⟨A.valid,A.boxes.take k ++ A.boxes.drop (k+1),A.seen⟩:=by
 have hl:(A.boxes.take k ++ A.boxes.drop (k+1)).length=m:=by rw [List.length_append,List.length_take,List.length_drop];omega
 rw [← hl] at hrow
 have he:=ac3 k (Gc hel (fun k _ hk=>hb.block k hk) (gG hb) (gG hb))
 exact hA.Uq hb (Qw hrow he LY) (fun h=>h.elim hA.1 (fun h=>by have:=hA.lt;omega)) (fun k h=>h)
theorem afu:(Tryz.f24.body.bind (bQ 30)).all (fun o=>dQ o 7 [0,1,2,3,4,5,6] [5,6] [6,7] 12)=true:=by kernel_rfl
theorem afv:(Tryz.f24.body.bind (bQ 32)).all (fun o=>dQ o 30 [0,1,2,3,4,6,7,8,9,11,12,13,14,15,16,17,18,19,20,21,22,23,24,25,26,5,10,27,28,29] [25,26,29] [29,30] 12)=true:=by kernel_rfl
theorem afw:(Tryz.f24.body.bind (bQ 36)).all (fun o=>dQ o 34 [0,1,2,3,4,5,6,7,8,9,10,11,12,13,14,15,16,17,18,19,20,21,22,23,24,25,26,27,28,29,30,31,32,33] [31,33] [33,34] 12)=true:=by kernel_rfl
theorem V9 (i:Nat):∀ l:List aF,dG ((l.drop i).take 1)≤dG l
 | []=>by simp
 | x :: l=>by
  cases i with
  | zero=>simp [dG]
  | succ i =>
   have:=V9 i l
   simp only [List.drop_succ_cons]
   refine Nat.le_trans this ?_
   simp [dG]
theorem afx:(Tryz.f24.body.bind (bQ 9)).all (fun o=>dQ o 16 [0,1,3,4,5,6,7,8,9,10,2,11,12,13,14,15] [10,11,12,13,15] [15,16] 12)=true:=by kernel_rfl
theorem afy (ga:Nat) (a:aJ) (S:Nat→Prop) (kd uid mode fl si:Int) (bx tt tx:List Int) (x0 x1 x2:Option Addr) (n0 n1 n2 m0 m1 m2:Nat) (w:World) (hp:aU w S ga a)
  (hs0:∀ w',w.heap.size≤w'.heap.size→bT w w' 5→Bs w' (.slice x0 n0 m0) bx) (hs1:∀ w',w.heap.size≤w'.heap.size→bT w w' 5→Bs w' (.slice x1 n1 m1) tt) (hs2:∀ w',w.heap.size≤w'.heap.size→bT w w' 5→Bs w' (.slice x2 n2 m2) tx)
  (FH:aB uid∧aB mode∧aB fl∧aB si) (hcl:bx.length≤2000000∧tx.length≤2000000) (hsz:∀ x ∈ a.boxes,bA x≤900000) (hbl:a.boxes.length≤2000000) (res:aJ × cO) (hres:res=dz a ⟨kd,bx,tt,uid,mode,fl,si,tx⟩) :
  Calls Tryz.prog 24 #[.pointer (some ⟨ga,0,none⟩),.agg #[.int .i64 kd,.slice x0 n0 m0,.slice x1 n1 m1,.int .i64 uid,.int .i64 mode,.int .i64 fl,.int .i64 si,.slice x2 n2 m2]] w (jr w S ga res):=by
 obtain ⟨S0,iL⟩:∃ S0:Nat→Prop,S0=fun k=>S k∧k < w.heap.size:=⟨_,rfl⟩
 have dU:Hid (∀ k,S0 k→S k):=by subst iL;exact fun k h=>h.1
 have HSL:Hid (∀ k,S0 k→k < w.heap.size):=by subst iL;exact fun k h=>h.2
 have HP:Hid (∀ w',Below w.heap.size w w'→aU w' S0 ga a):=by subst iL;exact fun w' h=>hp.cut.below h
 clear iL
 have gY:=hp.lt
 have Wd:Hid (∀ w',w.heap.size≤w'.heap.size→bT w w' 5→Bs w' (.slice x0 n0 m0) bx):=hs0
 have HQ1:Hid (∀ w',w.heap.size≤w'.heap.size→bT w w' 5→Bs w' (.slice x1 n1 m1) tt):=hs1
 have HQ2:Hid (∀ w',w.heap.size≤w'.heap.size→bT w w' 5→Bs w' (.slice x2 n2 m2) tx):=hs2
 have HI:Hid (aB uid∧aB mode∧aB fl∧aB si):=FH
 have gP:Hid (∀ x ∈ a.boxes,bA x≤900000):=hsz
 obtain ⟨HB,bC,aO,jm⟩:=uP w (.cells #[.int .i64 kd,.slice x0 n0 m0,.slice x1 n1 m1,.int .i64 uid,.int .i64 mode,.int .i64 fl,.int .i64 si,.slice x2 n2 m2] 44) (.cells #[.int .i64 0,.int .i64 0,.slice none 0 0,.int .i64 0,.int .i64 0,.int .i64 0,.slice none 0 0,.slice none 0 0,.int .i64 0,.slice none 0 0] 40)
 have bN:=ak hres
 clear hs0 hs1 hs2 hp FH hsz hres
 go_enter Tryz.func24,Tryz.ntmps24
 go_upto_region 1 with fail
 generalize ((w.alloc (.cells #[.int .i64 kd,.slice x0 n0 m0,.slice x1 n1 m1,.int .i64 uid,.int .i64 mode,.int .i64 fl,.int .i64 si,.slice x2 n2 m2] 44)).alloc (.cells #[.int .i64 0,.int .i64 0,.slice none 0 0,.int .i64 0,.int .i64 0,.int .i64 0,.slice none 0 0,.slice none 0 0,.int .i64 0,.slice none 0 0] 40))=W at HB bC aO jm ⊢
 by_cases h0:kd=0
 ·subst h0
  have hres:qx a bx=res:=by rw [bN.out];simp [dz]
  clear bN
  have q0:W.cell? ⟨w.heap.size,0,none⟩=some (.int .i64 0):=cell_of_row W w.heap.size 0 _ _ (0,0) bC.out
  have q1:W.cell? ⟨w.heap.size,1,none⟩=some (.slice x0 n0 m0):=cell_of_row W w.heap.size 1 _ _ (0,0) bC.out
  have hlc:w.heap.size < W.heap.size:=by omega
  go_wp2_with fail
  have hc:=ae1 ga a S0 (.slice x0 n0 m0) bx W (HP.out W HB.out) (fun w' h1 h2=>Wd.out w' (Nat.le_trans HB.out.size h1) ((gG HB.out).trans h2)) hcl.1 hbl
  rw [hres] at hc
  refine hc.mono ?_
  rintro e w1 ⟨u,S1,rfl,hrep,hT,hA,hS1⟩
  clear q0 q1 hc
  obtain ⟨y0,k0,j0,y1,j1,y2,j2,y3,j3,hU⟩:=hrep.v.form
  subst hU
  have HT1:Hid (aT w w1 S0 ga):=(aT.below (S:=S0) HB.out).trans hT (fun k h=>.inl h)
  have bW:Hid (w1.heap[w.heap.size+1]?=some (.cells #[.int .i64 0,.int .i64 0,.slice none 0 0,.int .i64 0,.int .i64 0,.int .i64 0,.slice none 0 0,.slice none 0 0,.int .i64 0,.slice none 0 0] 40 (0,0))):=(hT.2.1 _ (by omega) (by omega) (fun h=>by have:=HSL.out _ h;omega)).trans aO.out
  obtain ⟨r0,r1,r2,r3,r4,r5,r6,r7,r8,r9⟩:=aM bW.out
  have fz:∀ i,w1.frozen? ⟨w.heap.size+1,i,none⟩=false:=fun i=>frozen_of_row w1 _ i _ _ bW.out
  have hlr:=lt_of_heap bW.out
  have HF:Hid _:=wL (w:=w) bW.out (by omega) HT1.out _ _ hA gY (fun h=>(hS1 _ h).elim (fun h=>by have:=HSL.out _ h;omega) (fun h=>by omega)) _ _ _ _ _ _ _ _ _ _ _ hrep (by omega)
  have qK:Hid (∀ k,S1 k→S k∨w.heap.size≤k):=fun k h=>(hS1 k h).elim (fun h=>.inl (dU.out k h)) (fun h=>.inr (by omega))
  clear hrep hT hA hS1
  go_wp2
  obtain ⟨f0,f1,f2,f3,f4,f5,f6,f7,f8,f9⟩:=aM HF.out.1
  refine bodyPost_ret (v:=.agg #[_,_,_,_,_,_,_,_,_,_]) (by simp [results,Tryz.results24,go_sem,f0,f1,f2,f3,f4,f5,f6,f7,f8,f9]) rfl ⟨_,_,rfl,HF.out.2.2.2,aT.wide HF.out.2.1 dU.out,HF.out.2.2.1,qK.out⟩
 by_cases h9:kd=9
 ·subst h9
  have e:res=(a,⟨0,0,jQ,(a.boxes.map fun x:aD=>x.name)⟩):=by rw [bN.out];simp [dz]
  subst e
  clear bN
  have q0:W.cell? ⟨w.heap.size,0,none⟩=some (.int .i64 9):=cell_of_row W w.heap.size 0 _ _ (0,0) bC.out
  have hlc:w.heap.size < W.heap.size:=by omega
  have NV:Below W.heap.size W (W.alloc (.cells #[.int .i64 0,.int .i64 0,.slice none 0 0,.int .i64 0,.int .i64 0,.int .i64 0,.slice none 0 0,.slice none 0 0,.int .i64 0,.slice none 0 0] 40)):=bn _ _
  have HX0:Hid (Below w.heap.size w (W.alloc (.cells #[.int .i64 0,.int .i64 0,.slice none 0 0,.int .i64 0,.int .i64 0,.int .i64 0,.slice none 0 0,.slice none 0 0,.int .i64 0,.slice none 0 0] 40))):=Below.step HB.out NV
  have xL:Hid _:=ay NV aO.out
  have NW:Hid ((W.alloc (.cells #[.int .i64 0,.int .i64 0,.slice none 0 0,.int .i64 0,.int .i64 0,.int .i64 0,.slice none 0 0,.slice none 0 0,.int .i64 0,.slice none 0 0] 40)).heap[w.heap.size+2]?=some (.cells #[.int .i64 0,.int .i64 0,.slice none 0 0,.int .i64 0,.int .i64 0,.int .i64 0,.slice none 0 0,.slice none 0 0,.int .i64 0,.slice none 0 0] 40 (0,0))):=by
   have h:=aV W (.cells #[.int .i64 0,.int .i64 0,.slice none 0 0,.int .i64 0,.int .i64 0,.int .i64 0,.slice none 0 0,.slice none 0 0,.int .i64 0,.slice none 0 0] 40)
   rw [jm] at h
   exact h
  have afB:(W.alloc (.cells #[.int .i64 0,.int .i64 0,.slice none 0 0,.int .i64 0,.int .i64 0,.int .i64 0,.slice none 0 0,.slice none 0 0,.int .i64 0,.slice none 0 0] 40)).heap.size=w.heap.size+3:=by simp [jm]
  obtain ⟨i0,hi,hz0,hz1,hz2⟩:=info_parts info5
  obtain ⟨i1,hj,hy0,hy1,hy2⟩:=info_parts RA
  go_upto_region 6 with fail
  generalize (W.alloc (.cells #[.int .i64 0,.int .i64 0,.slice none 0 0,.int .i64 0,.int .i64 0,.int .i64 0,.slice none 0 0,.slice none 0 0,.int .i64 0,.slice none 0 0] 40))=W1 at HX0 xL NW afB ⊢
  clear NV q0 aO bC HB
  go_wp2
  go_loopw [6] (fun iv wr=>∃ (k:Nat) (va:Option Addr) (vn vc:Nat),k≤a.boxes.length∧iv=.int .i64 k∧Hid (Below w.heap.size w wr)∧Hid (wr.heap[w.heap.size+1]?=some (.cells #[.int .i64 0,.int .i64 0,.slice none 0 0,.int .i64 0,.int .i64 0,.int .i64 0,.slice none 0 0,.slice none 0 0,.int .i64 0,.slice none 0 0] 40 (0,0)))∧Hid (wr.heap[w.heap.size+2]?=some (.cells #[.int .i64 0,.int .i64 0,.slice none 0 0,.int .i64 0,.int .i64 0,.int .i64 0,.slice none 0 0,.slice none 0 0,.int .i64 0,.slice va vn vc] 40 (0,0)))∧Hid (kM wr (In (w.heap.size+3) wr.heap.size) (.slice va vn vc) ((a.boxes.map fun x:aD=>x.name).take k))∧(w.heap.size+3)≤wr.heap.size) (fun iv _=>a.boxes.length - (intOf iv).toNat)
  case atStart=>exact ⟨0,none,0,0,Nat.zero_le _,rfl,HX0,xL,NW,.inl ⟨rfl,by simp⟩,by omega⟩
  case round =>
   obtain ⟨k,va,vn,vc,hk,rfl,Ez,aO,qJ,HO,hs⟩:=hrel
   clear HX0 xL NW
   have EA:Hid (aU wr S0 ga a):=HP.out wr Ez.out
   obtain ⟨v0,v1,-,c1,-,hbq,-⟩:=EA.out.cells
   obtain ⟨e0,e1,rfl,-⟩:=hbq.v.form
   have Wh:=EA.out.lt
   by_cases hlt:k < a.boxes.length
   ·obtain ⟨x,hx⟩:∃ x,a.boxes[k]?=some x:=⟨a.boxes[k],aK hlt⟩
    obtain ⟨b,off,cp,t,z1,z2,hv',hlb,f0,-,-,-,-,-,-,ht,-⟩:=cK.cell hbq.v k x hx
    simp only [Value.slice.injEq,true_and] at hv'
    obtain ⟨rfl,rfl⟩:=hv'
    have HT:Hid (Bs wr.drew t x.name):=ht.below (bd _ _)
    obtain ⟨ta,tn,tc,rfl⟩:=ht.aG
    have lK:Hid (a.boxes[k]?=some x):=hx
    have hki:(k:Int) < a.boxes.length:=by omega
    have hnl:x.name.length≤900000:=by have:=gP.out x (List.mem_of_getElem? hx);unfold bA at this;omega
    have hm1:x.name.length≤maxLen:=by unfold maxLen;omega
    have hm2:x.name.length * 1≤140737488355328:=by omega
    have hkl:((a.boxes.map fun x:aD=>x.name).take k).length=k:=by simp;omega
    have hp1:((a.boxes.map fun x:aD=>x.name).take k).length+1≤maxLen:=by rw [hkl];unfold maxLen;omega
    have hp2:(((a.boxes.map fun x:aD=>x.name).take k).length+1) * 24≤140737488355328:=by rw [hkl];omega
    obtain ⟨-,-,-,-,-,-,-,-,-,n9⟩:=aM qJ.out
    have hr2:w.heap.size+2 < wr.drew.heap.size:=by show _ < wr.heap.size;omega
    have EB:ga < wr.drew.heap.size:=Wh
    have NY:b < wr.drew.heap.size:=hlb
    have hbN:b < (w.heap.size+3):=by
     have:=HSL.out b
     obtain ⟨g',c',-,e',-,-,-,-,hS',-⟩:=(Ow.el hbq).resolve_left (fun h=>by have:=h.1;cases this)
     cases e'
     have:=HSL.out _ hS'
     omega
    obtain ⟨oa,Wj⟩:∃ o,wr.heap[ga]?=some o:=⟨_,(Array.getElem?_eq_getElem Wh)⟩
    obtain ⟨ob,Wl⟩:∃ o,wr.heap[b]?=some o:=⟨_,(Array.getElem?_eq_getElem hlb)⟩
    have vB:Hid (wr.drew.heap[ga]?=some oa):=Wj
    have C9:Hid (wr.drew.heap[b]?=some ob):=Wl
    clear hx ht hbq hkl Wj Wl EA
    go_upto_region 9 with fail
    refine eF 15 (S:=fun w'=>w'.cell? ⟨w.heap.size+2,9,none⟩=some (.slice va vn vc)∧w'.cell? ⟨ga,1,none⟩=some (.slice (some ⟨b,off,none⟩) a.boxes.length e1)∧w'.cell? ⟨b,off+k * 7,none⟩=some (.slice ta tn tc)) (eB (by kernel_rfl) afx) (by kernel_rfl) (⟨n9,c1,f0⟩) (fun aj hHeld=>?_)
    refine tks 0 0 29 aj hHeld ?_
    refine tks 1 1 30 aj hHeld ?_
    refine tks 2 3 32 aj hHeld ?_
    refine tks 3 4 33 aj hHeld ?_
    refine tks 4 5 34 aj hHeld ?_
    refine tks 5 6 35 aj hHeld ?_
    refine tks 6 7 36 aj hHeld ?_
    refine tks 7 8 37 aj hHeld ?_
    refine tks 8 9 38 aj hHeld ?_
    refine tks 9 10 39 aj hHeld ?_
    refine cls 10 2 aj (by decide) rfl rfl (fun K hK=>?_)
    go_simp
    have AE:Below wr.drew.heap.size wr.drew (wr.drew.alloc (.cells #[] 5)):=bn _ _
    have qG:Hid _:=kK wr.drew 5 1 wr.drew.heap.size (Nat.le_refl _)
    have kX:Hid (Below wr.drew.heap.size wr.drew (wr.drew.alloc (.cells #[] 5))):=AE
    refine hK.out _ _ (⟨(AE.cell (p:=⟨w.heap.size+2,9,none⟩) hr2).trans n9,(AE.cell (p:=⟨ga,1,none⟩) EB).trans c1,(AE.cell (p:=⟨b,_,none⟩) NY).trans f0⟩) (fun hHeld=>?_)
    clear hK K
    clear AE
    refine cls 11 11 aj (by decide) rfl rfl (fun K hK=>?_)
    refine dO (by kernel_rfl) (j5 (B:=wr.drew.heap.size) 40 rfl (.tmp 31) (.tmp 39) rfl qG.out (Bs.rY (HT.out.below kX.out)) (one_byte _) Tryz.underlying26 hi hz0 hz1 hz2 rfl (by omega) rfl rfl hm1 hm2 kX.out.size ?_)
    intro V1 x2 xs hO4 uf hG4 hB4
    have hR:RO x2 (fun k=>wr.drew.heap.size≤k) V1 x.name:=rZ HT.out.1 hO4 uf (fun g hg=>dJ hO4 hg)
    obtain ⟨y0,k0,j0,hV1⟩:=hR.bs.aG
    subst hV1
    have HR2:Hid (RO x2 (In wr.drew.heap.size x2.heap.size) (.slice y0 k0 j0) x.name):=Jo hR
    have EC:(wr.drew.alloc (.cells #[] 5)).grownBy x2 (some wr.drew.heap.size):=hG4
    have B2:Below wr.drew.heap.size wr.drew x2:=kP kX.out EC (Nat.le_refl _)
    have HD2:Hid (Below wr.drew.heap.size wr.drew x2):=B2
    have s2:=B2.size
    clear hO4 uf hG4 hB4 hR EC
    refine hK.out _ _ (⟨(B2.cell (p:=⟨w.heap.size+2,9,none⟩) hr2).trans n9,(B2.cell (p:=⟨ga,1,none⟩) EB).trans c1,(B2.cell (p:=⟨b,_,none⟩) NY).trans f0⟩) (fun hHeld=>?_)
    clear hK K
    clear B2
    refine cls 12 12 aj (by decide) rfl rfl (fun K hK=>?_)
    go_simp
    have AB:Below x2.heap.size x2 (x2.alloc (.cells #[.slice y0 k0 j0] 26)):=bn _ _
    have HD3:Hid (Below wr.drew.heap.size wr.drew (x2.alloc (.cells #[.slice y0 k0 j0] 26))):=Below.step HD2.out AB
    have Dl:Hid (qQ (x2.alloc (.cells #[.slice y0 k0 j0] 26)) [.slice y0 k0 j0] x.name (In wr.heap.size (x2.alloc (.cells #[.slice y0 k0 j0] 26)).heap.size)):=⟨_,rfl,(HR2.out.below AB).mono fun k h=>⟨h.1,Nat.lt_of_lt_of_le h.2 AB.size⟩⟩
    have FI:Hid (kM (x2.alloc (.cells #[.slice y0 k0 j0] 26)) (In (w.heap.size+3) wr.heap.size) (.slice va vn vc) ((a.boxes.map fun x:aD=>x.name).take k)):=Ow.below kL HO.out (Below.step (bd _ _) HD3.out)
    have kT:Hid _:=mO x2 #[.slice y0 k0 j0] 26
    have s3:=HD3.out.size
    refine hK.out _ _ (⟨(HD3.out.cell (p:=⟨w.heap.size+2,9,none⟩) hr2).trans n9,(HD3.out.cell (p:=⟨ga,1,none⟩) EB).trans c1,(HD3.out.cell (p:=⟨b,_,none⟩) NY).trans f0⟩) (fun hHeld=>?_)
    clear hK K
    clear AB
    refine cls 13 13 aj (by decide) rfl rfl (fun K hK=>?_)
    refine dO (by kernel_rfl) (Bd 42 rfl (.tmp 30) (.tmp 41) rfl kL (B:=(w.heap.size+3)) (M:=wr.heap.size) FI.out s3 hs Tryz.underlying38 hj hy0 hy1 hy2 rfl (by omega) rfl x.name [.slice y0 k0 j0] rfl Dl.out ⟨x2.heap.size,0,none⟩ 1 rfl kT.out (by simp [Value.oneCell']) hp1 hp2 ?_)
    intro DV wz hO hgz eO
    obtain ⟨da,dn,dc,mX⟩:=sj.aG hO
    subst mX
    have hge:∀ j,(Value.slice va vn vc).ownBlock=some j→(w.heap.size+3)≤j:=fun j hj=>(eO j hj).1
    have rC:=ak (lF hgz hge (ay HD3.out qJ.out) (by omega))
    have nX:=ak (lF hgz hge (ay HD3.out aO.out) (by omega))
    have fO:Hid (Below w.heap.size w wz):=rX (Below.step Ez.out.drew HD3.out) hgz hge (by omega) (by have:=HD3.out.size;have:=Ez.out.size;omega)
    have sz:wr.heap.size≤wz.heap.size:=Nat.le_trans HD3.out.size hgz.size
    have Wm:Hid _:=hO
    obtain ⟨t0,t1,t2,t3,t4,t5,t6,t7,t8,t9⟩:=aM rC.out
    have hac:=lF hgz hge (ay HD3.out vB.out) (by omega)
    have hbc:=lF hgz hge (ay HD3.out C9.out) (by omega)
    clear hO hgz eO hge
    refine hK.out _ _ (⟨t9,(show wz.cell? ⟨ga,1,none⟩=wr.drew.cell? ⟨ga,1,none⟩ from World.cell?_of_block (w:=wr.drew) (hac.trans vB.out.symm)).trans c1,(show wz.cell? ⟨b,off+k * 7,none⟩=wr.drew.cell? ⟨b,off+k * 7,none⟩ from World.cell?_of_block (w:=wr.drew) (hbc.trans C9.out.symm)).trans f0⟩) (fun hHeld=>?_)
    clear hK K
    refine tks 14 14 43 aj hHeld ?_
    refine gL (S':=fun w'=>True) 15 16 aj (by decide) (trivial) (fun hHeld=>?_)
    refine cls 15 15 aj (by decide) rfl rfl (fun K hK=>?_)
    have fz9:∀ i,wz.frozen? ⟨w.heap.size+2,i,none⟩=false:=fun i=>frozen_of_row wz _ i _ _ rC.out
    have hl9:=lt_of_heap rC.out
    go_simp
    refine hK.out _ _ (trivial) (fun hHeld=>?_)
    clear hK K
    refine eG aj ?_
    have uL:Hid ((wz.setCell ⟨w.heap.size+2,9,none⟩ (.slice da dn dc)).heap[w.heap.size+2]?=some (.cells #[.int .i64 0,.int .i64 0,.slice none 0 0,.int .i64 0,.int .i64 0,.int .i64 0,.slice none 0 0,.slice none 0 0,.int .i64 0,.slice da dn dc] 40 (0,0))):=aP (i:=9) (v:=.slice da dn dc) rC.out
    have qp:=ak (bP (k:=w.heap.size+2) (i:=9) (v:=.slice da dn dc) nX.out (by omega))
    have oP:Hid (Below w.heap.size w (wz.setCell ⟨w.heap.size+2,9,none⟩ (.slice da dn dc))):=fO.out.setCell (p:=⟨w.heap.size+2,9,none⟩) (by simp) _
    have hfx:(a.boxes.map fun x:aD=>x.name).take (k+1)=(a.boxes.map fun x:aD=>x.name).take k ++ [x.name]:=by rw [yu];rw [List.getElem?_map,lK.out];rfl
    have oQ:Hid (kM (wz.setCell ⟨w.heap.size+2,9,none⟩ (.slice da dn dc)) (In (w.heap.size+3) (wz.setCell ⟨w.heap.size+2,9,none⟩ (.slice da dn dc)).heap.size) (.slice da dn dc) ((a.boxes.map fun x:aD=>x.name).take (k+1))):=by
     show kM _ _ _ _
     rw [hfx,aZ]
     exact Ow.frame kL Wm.out fun j hj _=>Below.heap_setCell _ _ _ _ (show j≠w.heap.size+2 by have:=hj.1;omega)
    have qw:(w.heap.size+3)≤(wz.setCell ⟨w.heap.size+2,9,none⟩ (.slice da dn dc)).heap.size:=by rw [aZ];omega
    clear rC nX fO Wm HO qJ aO Ez hfx fz9 hl9 FI Dl HD3 HD2 kX HR2 qG kT t0 t1 t2 t3 t4 t5 t6 t7 t8 t9 n9 f0 c1 hac hbc vB C9 HT
    go_wp2
    go_roundw
    case rel=>exact ⟨k+1,da,dn,dc,by omega,by go_num,oP,qp,uL,oQ,qw⟩
    case measure=>simp [intOf];omega
   ·obtain rfl:k=a.boxes.length:=by omega
    have GR:Hid (kM wr (In (w.heap.size+3) wr.heap.size) (.slice va vn vc) (a.boxes.map fun x:aD=>x.name)):=by have h:=HO.out;rw [List.take_of_length_le (by simp)] at h;exact h
    obtain ⟨n0',n1',Rf,n3',n4',n5',n6',n7',n8',n9'⟩:=aM qJ.out
    obtain ⟨r0,r1,r2,r3,r4,r5,r6,r7,r8,r9⟩:=aM aO.out
    have fz:∀ i,wr.frozen? ⟨w.heap.size+1,i,none⟩=false:=fun i=>frozen_of_row wr _ i _ _ aO.out
    have hlr:=lt_of_heap aO.out
    have hlo:=lt_of_heap qJ.out
    have bI:Hid (jo wr (w.heap.size+3) (.agg #[.int .i64 0,.int .i64 0,.slice none 0 0,.int .i64 0,.int .i64 0,.int .i64 0,.slice none 0 0,.slice none 0 0,.int .i64 0,.slice va vn vc]) ⟨0,0,jQ,(a.boxes.map fun x:aD=>x.name)⟩):=⟨fun w' hs' hk'=>⟨_,_,_,_,rfl,⟨_,_,_,rfl,ng _,Rd.nil _,Rd.nil _,aI,aI,aI,aI⟩,(Ow.frame kL GR.out fun j hj h2=>hk' j hj.1 h2).rd fun _ _ _ _=>qQ.rd,aI,aI⟩,_,_,_,_,_,_,_,_,_,_,rfl,.inr ⟨⟨rfl,rfl,rfl⟩,GR.out⟩⟩
    have HF:Hid _:=wL (w:=w) (ga:=ga) (S:=S0) (S':=S0) aO.out (by omega) (aT.below Ez.out) a EA.out gY (fun h=>by have:=HSL.out _ h;omega) _ (.int .i64 0) (.int .i64 0) (.slice none 0 0) (.int .i64 0) (.int .i64 0) (.int .i64 0) (.slice none 0 0) (.slice none 0 0) (.int .i64 0) (.slice va vn vc) bI.out (by omega)
    clear hbq EA
    go_wp2
    obtain ⟨f0,f1,f2,f3,f4,f5,f6,f7,f8,f9⟩:=aM HF.out.1
    refine bodyPost_ret (v:=.agg #[.int .i64 0,.int .i64 0,.slice none 0 0,.int .i64 0,.int .i64 0,.int .i64 0,.slice none 0 0,.slice none 0 0,.int .i64 0,.slice va vn vc]) (by simp [results,Tryz.results24,go_sem,f0,f1,f2,f3,f4,f5,f6,f7,f8,f9]) rfl ⟨_,S0,rfl,HF.out.2.2.2,aT.wide HF.out.2.1 dU.out,HF.out.2.2.1,fun k h=>.inl (dU.out k h)⟩
 have SF:(kd == 0)=false:=by simp [h0]
 have SG:(kd == 9)=false:=by simp [h9]
 have q0:W.cell? ⟨w.heap.size,0,none⟩=some (.int .i64 kd):=cell_of_row W w.heap.size 0 _ _ (0,0) bC.out
 have hlc:w.heap.size < W.heap.size:=by omega
 go_upto_region 11 with fail
 clear q0
 have DR:Below W.heap.size W W.drew:=bd _ _
 have HAD:Hid (aU W.drew S0 ga a):=HP.out W.drew (Below.step HB.out DR)
 obtain ⟨v9,u9,mG,jM,mH,hbq,oC⟩:=HAD.out.cells
 obtain ⟨e0,e1,rfl,-⟩:=hbq.v.form
 have iZ:Hid _:=oC
 have ED:Hid (Bs W.drew (.slice x0 n0 m0) bx):=Wd.out _ (Nat.le_trans HB.out.size DR.size) (gG (Below.step HB.out DR))
 have EF:ga < W.drew.heap.size:=by show ga < W.heap.size;omega
 have wK:w.heap.size < W.drew.heap.size:=hlc
 have HS:Hid (∀ w',Below W.drew.heap.size W.drew w'→w'.cell? ⟨ga,0,none⟩=some (.int .i64 a.valid)∧w'.cell? ⟨ga,1,none⟩=some (.slice e0 a.boxes.length e1)∧w'.cell? ⟨ga,2,none⟩=some u9∧w'.cell? ⟨w.heap.size,1,none⟩=some (.slice x0 n0 m0)):=fun w' h=>⟨(h.cell (p:=⟨ga,0,none⟩) EF).trans mG,(h.cell (p:=⟨ga,1,none⟩) EF).trans jM,(h.cell (p:=⟨ga,2,none⟩) EF).trans mH,cell_of_row w' w.heap.size 1 _ _ (0,0) (ay (Below.step DR h) bC.out)⟩
 clear hbq oC mG jM mH
 go_region_held3 (fun w'=>w'.cell? ⟨ga,0,none⟩=some (.int .i64 a.valid)∧w'.cell? ⟨ga,1,none⟩=some (.slice e0 a.boxes.length e1)∧w'.cell? ⟨ga,2,none⟩=some u9∧w'.cell? ⟨w.heap.size,1,none⟩=some (.slice x0 n0 m0))
  (first | exact HS.out _ (Below.refl _ _) | exact HS.out _ B1 | go_keep)
  ((go_at_call 55;refine (uM _ _ a bx _ iZ.out ED.out hbl).mono ?_;rintro e w1 ⟨rfl,B1⟩))
 have HB1:Hid (Below W.heap.size W w1):=Below.step DR B1
 have fA:Hid _:=ay HB1.out bC.out
 have bW:Hid _:=ay HB1.out aO.out
 have hw1:W.heap.size≤w1.heap.size:=HB1.out.size
 have jc:Hid (Below w.heap.size w w1):=Below.step HB.out HB1.out
 have yI:Hid (w1.cell? ⟨ga,1,none⟩=some (.slice e0 a.boxes.length e1)):=(HS.out w1 B1).2.1
 clear B1 iZ ED DR EF wK HS HAD
 cases hfi:a.boxes.findIdx? (fun x:aD=>decide (x.name=bx)) with
 | none =>
  have hf:=Il hfi
  have e:res=(a,aQ 1 0):=by rw [bN.out];simp [dz,hfi,h0,h9]
  subst e
  clear bN hfi
  have EF:ga < w1.heap.size:=by omega
  obtain ⟨r0,r1,r2,r3,r4,r5,r6,r7,r8,r9⟩:=aM bW.out
  have fz:∀ i,w1.frozen? ⟨w.heap.size+1,i,none⟩=false:=fun i=>frozen_of_row w1 _ i _ _ bW.out
  have hlr:w.heap.size+1 < w1.heap.size:=lt_of_heap bW.out
  have HF:Hid _:=oW (w:=w) bW.out (by omega) (jc.out) 1 0
  go_wp2
  obtain ⟨f0,f1,f2,f3,f4,f5,f6,f7,f8,f9⟩:=aM HF.out.1
  refine bodyPost_ret (v:=.agg #[.int .i64 1,.int .i64 0,.slice none 0 0,.int .i64 0,.int .i64 0,.int .i64 0,.slice none 0 0,.slice none 0 0,.int .i64 0,.slice none 0 0]) (by simp [results,Tryz.results24,go_sem,f0,f1,f2,f3,f4,f5,f6,f7,f8,f9]) rfl ⟨_,S0,rfl,sQ ⟨_,_,_,_,rfl,⟨_,_,_,rfl,ng _,Rd.nil _,Rd.nil _,aI,aI,aI,aI⟩,⟨rfl,rfl⟩,(show aB (1:Int) from ⟨by decide,by decide⟩),aI⟩,aT.below HF.out.2,HP.out _ HF.out.2,fun k h=>.inl (dU.out k h)⟩
 | some k =>
  obtain ⟨hf,b,hb⟩:=Im hfi
  have fJ:=ak hfi
  clear hfi
  have HA1:Hid (aU w1 S0 ga a):=HP.out w1 jc.out
  obtain ⟨g,cap,Sb,cb,iW,hpb,hSb,hback⟩:=HA1.out.at hb
  have e9:=Option.some.inj (cb.symm.trans yI.out)
  simp only [Value.slice.injEq,true_and] at e9
  obtain ⟨rfl,rfl⟩:=e9
  have AO:Hid _:=hback
  have xM:Hid (aN w1 Sb g (k * 7) b):=hpb
  have NZ:Hid (∀ k,Sb k→S0 k):=fun k h=>(hSb k h).1
  have hkl:k < a.boxes.length:=(gs1 hb).1
  have hki:(k:Int) < (a.boxes.length:Int):=by omega
  have sP:g < w1.heap.size:=hpb.lt
  have xO:ga < w1.heap.size:=by omega
  have wK:w.heap.size < w1.heap.size:=by omega
  have hgw:g < w.heap.size:=HSL.out g iW
  have hsx:bA b≤900000:=gP.out b (List.mem_of_getElem? hb)
  have hml:b.ah.length≤900000:=by have:=jZ b.ah;unfold bA at hsx;omega
  have hgl:b.au.length≤900000:=by unfold bA at hsx;omega
  have gI:Hid (w1.cell? ⟨ga,1,none⟩=some (.slice (some ⟨g,0,none⟩) a.boxes.length cap)):=cb
  have Wn:Hid (¬ Sb g):=fun h=>(hSb g h).2 rfl
  clear hpb hback hSb
  by_cases k1:kd=1
  ·subst k1
   have e:res=(⟨a.valid,a.boxes.take k ++ a.boxes.drop (k+1),a.seen⟩,aQ 0 0):=by rw [bN.out];have h1:=fJ.out;simp [dz,h1,hb]
   subst e
   clear bN fJ
   obtain ⟨v8,u8,mG,jM,mH,hbq,-⟩:=HA1.out.cells
   have e8:v8=.slice (some ⟨g,0,none⟩) a.boxes.length cap:=Option.some.inj (jM.symm.trans cb)
   subst e8
   have ug:Hid (jS w1 S0 (.slice (some ⟨g,0,none⟩) a.boxes.length cap) a.boxes):=hbq
   clear hbq mG jM mH
   have q0:w1.cell? ⟨w.heap.size,0,none⟩=some (.int .i64 1):=cell_of_row w1 w.heap.size 0 _ _ (0,0) fA.out
   by_cases hce:cap=k+1
   ·have hke:k+1=a.boxes.length:=by have:=ug.out.v.form;obtain ⟨_,_,e,h,-⟩:=this;cases e;omega
    have Gx:Hid (k+1=a.boxes.length):=hke
    clear hke
    obtain ⟨g',cap',cur,hgv,hgh,hc1,hc2,hc3,-,hel⟩:=(Ow.el ug.out).resolve_left (fun h=>by have:=h.1;cases this)
    simp only [Value.slice.injEq,Option.some.injEq,Addr.mk.injEq,and_true,true_and] at hgv
    obtain ⟨rfl,rfl⟩:=hgv
    have Ea:Hid (w1.drew.heap[g]?=some (.cells cur 37 (0,0))):=hgh
    have vC:Below w1.heap.size w1 w1.drew:=bd _ _
    have HELD:Hid (EL 7 gT w1.drew a.boxes S0 (cur.toList.take (a.boxes.length * 7))):=(Gc (w':=w1.drew) hel (fun k _ hk=>vC.block k hk) (gG vC) (gG vC)).mono fun k h=>h.1
    clear vC
    have Ec:∀ y ∈ ((cur.toList.take (a.boxes.length * 7)).take (k * 7)),y.oneCell'=true:=fun y hy=>zk HELD.out y (List.mem_of_mem_take hy)
    have Ed:∀ y ∈ ((cur.toList.take (a.boxes.length * 7)).drop ((k+1) * 7)),y.oneCell'=true:=fun y hy=>zk HELD.out y (List.mem_of_mem_drop hy)
    have HAD:Hid (aU w1.drew S0 ga a):=HA1.out.below (bd _ _)
    have vD:Hid (Below w.heap.size w w1.drew):=jc.out.drew
    have iX:Hid (w1.drew.heap[w.heap.size+1]?=_):=bW.out
    have N7:Hid (∀ k,S0 k→k < w1.drew.heap.size):=fun k h=>by have:=HSL.out k h;show k < w1.heap.size;omega
    have hgd:g < w1.drew.heap.size:=sP
    have EB:ga < w1.drew.heap.size:=xO
    obtain ⟨i0,hi,hz0,hz1,hz2⟩:=info_parts uH
    have hm1:0+k≤maxLen:=by unfold maxLen;omega
    have hm2:(0+k) * 104≤140737488355328:=by omega
    have N8:k+0≤maxLen:=by unfold maxLen;omega
    have N9:(k+0) * 104≤140737488355328:=by omega
    have hiz:k≤cap:=by omega
    have hwr:IntKind.i64.wrap ((k:Int)+1)=(k:Int)+1:=by simp [IntKind.wrap,IntKind.bits,IntKind.signed];omega
    have htn:((k:Int)+1).toNat=k+1:=by omega
    have hb0:(0:Int)≤(k:Int)+1:=by omega
    have hb1:(k:Int)+1≤(a.boxes.length:Int):=by omega
    subst hce
    have hie:(k:Int)≤(k:Int)+1:=by omega
    clear hgh hel hc2
    go_upto_region 17 with fail
    clear q0 cb
    refine eF 19 (S:=fun w'=>w'.cell? ⟨ga,1,none⟩=some (.slice (some ⟨g,0,none⟩) a.boxes.length (k+1))) (eB (by kernel_rfl) VZ) (by kernel_rfl) (gI.out) (fun aj hHeld=>?_)
    refine tks 0 0 64 aj hHeld ?_
    refine tks 1 2 66 aj hHeld ?_
    refine tks 2 3 67 aj hHeld ?_
    refine tks 3 4 68 aj hHeld ?_
    refine tks 4 5 69 aj hHeld ?_
    refine tks 5 6 70 aj hHeld ?_
    refine tks 6 7 71 aj hHeld ?_
    refine tks 7 9 73 aj hHeld ?_
    refine tks 8 10 74 aj hHeld ?_
    refine tks 9 11 75 aj hHeld ?_
    refine tks 10 12 76 aj hHeld ?_
    refine tks 11 13 77 aj hHeld ?_
    refine tks 12 14 78 aj hHeld ?_
    refine tks 13 15 79 aj hHeld ?_
    refine cls 14 1 aj (by decide) rfl rfl (fun K hK=>?_)
    go_simp
    have AE:Below w1.drew.heap.size w1.drew (w1.drew.alloc (.cells #[] 37)):=bn _ _
    have qG:Hid _:=kK w1.drew 37 7 w1.drew.heap.size (Nat.le_refl _)
    have kX:Hid (Below w1.drew.heap.size w1.drew (w1.drew.alloc (.cells #[] 37))):=AE
    refine hK.out _ _ ((AE.cell (p:=⟨ga,1,none⟩) xO).trans gI.out) (fun hHeld=>?_)
    clear hK K
    clear AE
    refine cls 15 8 aj (by decide) rfl rfl (fun K hK=>?_)
    refine dO (by kernel_rfl) (Hr (B:=w1.drew.heap.size) 72 rfl (.tmp 65) (.tmp 71) rfl qG.out (Ht ((kX.out.block g hgd).trans Ea.out) (by omega) (by omega) (k+1)) Ec Tryz.underlying31 hi hz0 hz1 hz2 rfl (by omega) rfl rfl hm1 hm2 kX.out.size ?_)
    intro V1 w4 hO4 hG4 hB4
    obtain ⟨p1,p2,p3,hV1⟩:=jL hO4
    subst hV1
    have HD4:Hid (Below w1.drew.heap.size w1.drew w4):=nM kX.out hG4 (fun j hj=>dJ qG.out hj)
    have lG:Hid (w4.ownsRow w1.drew.heap.size 37 7 (.slice p1 p2 p3) k ((cur.toList.take (a.boxes.length * 7)).take (k * 7))):=by simpa [World.ownsRow,Hid] using hO4
    clear hO4 hG4 hB4
    refine hK.out _ _ ((HD4.out.cell (p:=⟨ga,1,none⟩) xO).trans gI.out) (fun hHeld=>?_)
    clear hK K
    refine cls 16 16 aj (by decide) rfl rfl (fun K hK=>?_)
    have xE:tZ w4 (.slice (some ⟨g,0,none⟩) 0 0) 0 7 ((cur.toList.take (a.boxes.length * 7)).drop ((k+1) * 7)):=by rw [Gx.out];exact (Us w4 g a.boxes.length cur 0)
    refine dO (by kernel_rfl) (Hr (B:=w1.drew.heap.size) 80 rfl (.tmp 72) (.tmp 79) rfl lG.out xE Ed Tryz.underlying31 hi hz0 hz1 hz2 rfl (by omega) rfl rfl N8 N9 HD4.out.size ?_)
    intro V2 w6 iw fE lJ
    obtain ⟨t1,t2,t3,hV2⟩:=jL iw
    subst hV2
    have HD6:Hid (Below w1.drew.heap.size w1.drew w6):=nM HD4.out fE (fun j hj=>dJ lG.out hj)
    have oO:Hid (w6.ownsRow w1.drew.heap.size 37 7 (.slice t1 t2 t3) (k+0) (((cur.toList.take (a.boxes.length * 7)).take (k * 7)) ++ ((cur.toList.take (a.boxes.length * 7)).drop ((k+1) * 7)))):=by simpa [World.ownsRow,Hid] using iw
    clear iw fE lJ xE
    refine hK.out _ _ ((HD6.out.cell (p:=⟨ga,1,none⟩) xO).trans gI.out) (fun hHeld=>?_)
    clear hK K
    refine tks 17 17 81 aj hHeld ?_
    refine tks 18 18 82 aj hHeld ?_
    refine gL (S':=fun w'=>True) 19 20 aj (by decide) (trivial) (fun hHeld=>?_)
    refine cls 19 19 aj (by decide) rfl rfl (fun K hK=>?_)
    have gD:Hid (aU w6 S0 ga a):=HAD.out.below HD6.out
    have uh:Hid (aU (w6.setCell ⟨ga,1,none⟩ (.slice t1 t2 t3)) (fun j=>S0 j∨w1.drew.heap.size≤j) ga ⟨a.valid,a.boxes.take k ++ a.boxes.drop (k+1),a.seen⟩):=V5 HAD.out N7.out HD6.out HELD.out oO.out (by omega) hkl
    have xG:Hid (aT w (w6.setCell ⟨ga,1,none⟩ (.slice t1 t2 t3)) S0 ga):=(aT.below (S:=S0) (Below.step vD.out HD6.out)).trans (aT.set (S:=S0) gD.out) (fun k h=>.inl h)
    have gX:Hid _:=bP (k:=ga) (i:=1) (v:=.slice t1 t2 t3) (ay HD6.out iX.out) (by omega)
    have Ee:=gD.out.open
    obtain ⟨Vd,Ve,c70,Ef,-⟩:=gD.out.cells
    have Eh:=gD.out.lt
    go_simp
    refine hK.out _ _ (trivial) (fun hHeld=>?_)
    clear hK K
    refine eG aj ?_
    go_upto_region 18 with fail
    clear Ee c70 Ef Eh
    generalize w6.setCell ⟨ga,1,none⟩ (.slice t1 t2 t3)=w8 at uh xG gX ⊢
    obtain ⟨r0,r1,r2,r3,r4,r5,r6,r7,r8,r9⟩:=aM gX.out
    have fz:∀ i,w8.frozen? ⟨w.heap.size+1,i,none⟩=false:=fun i=>frozen_of_row w8 _ i _ _ gX.out
    have Vf:=lt_of_heap gX.out
    have hd1:w1.drew.heap.size=w1.heap.size:=rfl
    have HF:Hid _:=AA (w:=w) gX.out (by omega) xG.out _ _ uh.out gY (fun h=>h.elim (fun h=>by have:=HSL.out _ h;omega) (fun h=>by omega)) 0 0 ⟨aI,aI⟩
    go_wp2
    obtain ⟨f0,f1,f2,f3,f4,f5,f6,f7,f8,f9⟩:=aM HF.out.1
    refine bodyPost_ret (v:=.agg #[.int .i64 0,.int .i64 0,.slice none 0 0,.int .i64 0,.int .i64 0,.int .i64 0,.slice none 0 0,.slice none 0 0,.int .i64 0,.slice none 0 0]) (by simp [results,Tryz.results24,go_sem,f0,f1,f2,f3,f4,f5,f6,f7,f8,f9]) rfl ⟨_,_,rfl,sQ HF.out.2.2.2,aT.wide HF.out.2.1 dU.out,HF.out.2.2.1,(show ∀ k,(S0 k∨w1.drew.heap.size≤k)→_ from fun k h=>h.elim (fun h=>.inl (dU.out k h)) (fun h=>.inr (by omega)))⟩
   ·skip
    obtain ⟨g',cap',cur,hgv,hgh,hc1,hc2,hc3,-,hel⟩:=(Ow.el ug.out).resolve_left (fun h=>by have:=h.1;cases this)
    simp only [Value.slice.injEq,Option.some.injEq,Addr.mk.injEq,and_true,true_and] at hgv
    obtain ⟨rfl,rfl⟩:=hgv
    have Ea:Hid (w1.drew.heap[g]?=some (.cells cur 37 (0,0))):=hgh
    have vC:Below w1.heap.size w1 w1.drew:=bd _ _
    have HELD:Hid (EL 7 gT w1.drew a.boxes S0 (cur.toList.take (a.boxes.length * 7))):=(Gc (w':=w1.drew) hel (fun k _ hk=>vC.block k hk) (gG vC) (gG vC)).mono fun k h=>h.1
    clear vC
    have Ec:∀ y ∈ ((cur.toList.take (a.boxes.length * 7)).take (k * 7)),y.oneCell'=true:=fun y hy=>zk HELD.out y (List.mem_of_mem_take hy)
    have Ed:∀ y ∈ ((cur.toList.take (a.boxes.length * 7)).drop ((k+1) * 7)),y.oneCell'=true:=fun y hy=>zk HELD.out y (List.mem_of_mem_drop hy)
    have HAD:Hid (aU w1.drew S0 ga a):=HA1.out.below (bd _ _)
    have vD:Hid (Below w.heap.size w w1.drew):=jc.out.drew
    have iX:Hid (w1.drew.heap[w.heap.size+1]?=_):=bW.out
    have N7:Hid (∀ k,S0 k→k < w1.drew.heap.size):=fun k h=>by have:=HSL.out k h;show k < w1.heap.size;omega
    have hgd:g < w1.drew.heap.size:=sP
    have EB:ga < w1.drew.heap.size:=xO
    obtain ⟨i0,hi,hz0,hz1,hz2⟩:=info_parts uH
    have hm1:0+k≤maxLen:=by unfold maxLen;omega
    have hm2:(0+k) * 104≤140737488355328:=by omega
    have N8:k+(a.boxes.length - (k+1))≤maxLen:=by unfold maxLen;omega
    have N9:(k+(a.boxes.length - (k+1))) * 104≤140737488355328:=by omega
    have hiz:k≤cap:=by omega
    have hwr:IntKind.i64.wrap ((k:Int)+1)=(k:Int)+1:=by simp [IntKind.wrap,IntKind.bits,IntKind.signed];omega
    have htn:((k:Int)+1).toNat=k+1:=by omega
    have hb0:(0:Int)≤(k:Int)+1:=by omega
    have hb1:(k:Int)+1≤(a.boxes.length:Int):=by omega
    have hcn:¬ cap=k+1:=hce
    clear hgh hel hc2
    go_upto_region 17 with fail
    clear q0 cb
    refine eF 19 (S:=fun w'=>w'.cell? ⟨ga,1,none⟩=some (.slice (some ⟨g,0,none⟩) a.boxes.length cap)) (eB (by kernel_rfl) VZ) (by kernel_rfl) (gI.out) (fun aj hHeld=>?_)
    refine tks 0 0 64 aj hHeld ?_
    refine tks 1 2 66 aj hHeld ?_
    refine tks 2 3 67 aj hHeld ?_
    refine tks 3 4 68 aj hHeld ?_
    refine tks 4 5 69 aj hHeld ?_
    refine tks 5 6 70 aj hHeld ?_
    refine tks 6 7 71 aj hHeld ?_
    refine tks 7 9 73 aj hHeld ?_
    refine tks 8 10 74 aj hHeld ?_
    refine tks 9 11 75 aj hHeld ?_
    refine tks 10 12 76 aj hHeld ?_
    refine tks 11 13 77 aj hHeld ?_
    refine tks 12 14 78 aj hHeld ?_
    refine tks 13 15 79 aj hHeld ?_
    refine cls 14 1 aj (by decide) rfl rfl (fun K hK=>?_)
    go_simp
    have AE:Below w1.drew.heap.size w1.drew (w1.drew.alloc (.cells #[] 37)):=bn _ _
    have qG:Hid _:=kK w1.drew 37 7 w1.drew.heap.size (Nat.le_refl _)
    have kX:Hid (Below w1.drew.heap.size w1.drew (w1.drew.alloc (.cells #[] 37))):=AE
    refine hK.out _ _ ((AE.cell (p:=⟨ga,1,none⟩) xO).trans gI.out) (fun hHeld=>?_)
    clear hK K
    clear AE
    refine cls 15 8 aj (by decide) rfl rfl (fun K hK=>?_)
    refine dO (by kernel_rfl) (Hr (B:=w1.drew.heap.size) 72 rfl (.tmp 65) (.tmp 71) rfl qG.out (Ht ((kX.out.block g hgd).trans Ea.out) (by omega) (by omega) cap) Ec Tryz.underlying31 hi hz0 hz1 hz2 rfl (by omega) rfl rfl hm1 hm2 kX.out.size ?_)
    intro V1 w4 hO4 hG4 hB4
    obtain ⟨p1,p2,p3,hV1⟩:=jL hO4
    subst hV1
    have HD4:Hid (Below w1.drew.heap.size w1.drew w4):=nM kX.out hG4 (fun j hj=>dJ qG.out hj)
    have lG:Hid (w4.ownsRow w1.drew.heap.size 37 7 (.slice p1 p2 p3) k ((cur.toList.take (a.boxes.length * 7)).take (k * 7))):=by simpa [World.ownsRow,Hid] using hO4
    clear hO4 hG4 hB4
    refine hK.out _ _ ((HD4.out.cell (p:=⟨ga,1,none⟩) xO).trans gI.out) (fun hHeld=>?_)
    clear hK K
    refine cls 16 16 aj (by decide) rfl rfl (fun K hK=>?_)
    have xE:=(Ur (n:=a.boxes.length) (k:=k+1) ((HD4.out.block g hgd).trans Ea.out) (by omega) (by omega) (cap - (k+1)))
    refine dO (by kernel_rfl) (Hr (B:=w1.drew.heap.size) 80 rfl (.tmp 72) (.tmp 79) rfl lG.out xE Ed Tryz.underlying31 hi hz0 hz1 hz2 rfl (by omega) rfl rfl N8 N9 HD4.out.size ?_)
    intro V2 w6 iw fE lJ
    obtain ⟨t1,t2,t3,hV2⟩:=jL iw
    subst hV2
    have HD6:Hid (Below w1.drew.heap.size w1.drew w6):=nM HD4.out fE (fun j hj=>dJ lG.out hj)
    have oO:Hid (w6.ownsRow w1.drew.heap.size 37 7 (.slice t1 t2 t3) (k+(a.boxes.length - (k+1))) (((cur.toList.take (a.boxes.length * 7)).take (k * 7)) ++ ((cur.toList.take (a.boxes.length * 7)).drop ((k+1) * 7)))):=by simpa [World.ownsRow,Hid] using iw
    clear iw fE lJ xE
    refine hK.out _ _ ((HD6.out.cell (p:=⟨ga,1,none⟩) xO).trans gI.out) (fun hHeld=>?_)
    clear hK K
    refine tks 17 17 81 aj hHeld ?_
    refine tks 18 18 82 aj hHeld ?_
    refine gL (S':=fun w'=>True) 19 20 aj (by decide) (trivial) (fun hHeld=>?_)
    refine cls 19 19 aj (by decide) rfl rfl (fun K hK=>?_)
    have gD:Hid (aU w6 S0 ga a):=HAD.out.below HD6.out
    have uh:Hid (aU (w6.setCell ⟨ga,1,none⟩ (.slice t1 t2 t3)) (fun j=>S0 j∨w1.drew.heap.size≤j) ga ⟨a.valid,a.boxes.take k ++ a.boxes.drop (k+1),a.seen⟩):=V5 HAD.out N7.out HD6.out HELD.out oO.out (by omega) hkl
    have xG:Hid (aT w (w6.setCell ⟨ga,1,none⟩ (.slice t1 t2 t3)) S0 ga):=(aT.below (S:=S0) (Below.step vD.out HD6.out)).trans (aT.set (S:=S0) gD.out) (fun k h=>.inl h)
    have gX:Hid _:=bP (k:=ga) (i:=1) (v:=.slice t1 t2 t3) (ay HD6.out iX.out) (by omega)
    have Ee:=gD.out.open
    obtain ⟨Vd,Ve,c70,Ef,-⟩:=gD.out.cells
    have Eh:=gD.out.lt
    go_simp
    refine hK.out _ _ (trivial) (fun hHeld=>?_)
    clear hK K
    refine eG aj ?_
    go_upto_region 18 with fail
    clear Ee c70 Ef Eh
    generalize w6.setCell ⟨ga,1,none⟩ (.slice t1 t2 t3)=w8 at uh xG gX ⊢
    obtain ⟨r0,r1,r2,r3,r4,r5,r6,r7,r8,r9⟩:=aM gX.out
    have fz:∀ i,w8.frozen? ⟨w.heap.size+1,i,none⟩=false:=fun i=>frozen_of_row w8 _ i _ _ gX.out
    have Vf:=lt_of_heap gX.out
    have hd1:w1.drew.heap.size=w1.heap.size:=rfl
    have HF:Hid _:=AA (w:=w) gX.out (by omega) xG.out _ _ uh.out gY (fun h=>h.elim (fun h=>by have:=HSL.out _ h;omega) (fun h=>by omega)) 0 0 ⟨aI,aI⟩
    go_wp2
    obtain ⟨f0,f1,f2,f3,f4,f5,f6,f7,f8,f9⟩:=aM HF.out.1
    refine bodyPost_ret (v:=.agg #[.int .i64 0,.int .i64 0,.slice none 0 0,.int .i64 0,.int .i64 0,.int .i64 0,.slice none 0 0,.slice none 0 0,.int .i64 0,.slice none 0 0]) (by simp [results,Tryz.results24,go_sem,f0,f1,f2,f3,f4,f5,f6,f7,f8,f9]) rfl ⟨_,_,rfl,sQ HF.out.2.2.2,aT.wide HF.out.2.1 dU.out,HF.out.2.2.1,(show ∀ k,(S0 k∨w1.drew.heap.size≤k)→_ from fun k h=>h.elim (fun h=>.inl (dU.out k h)) (fun h=>.inr (by omega)))⟩
  by_cases k2:kd=2
  ·subst k2
   obtain ⟨rm,hroom⟩:∃ rm,dx b 1=rm:=⟨_,rfl⟩
   have q0:w1.cell? ⟨w.heap.size,0,none⟩=some (.int .i64 2):=cell_of_row w1 w.heap.size 0 _ _ (0,0) fA.out
   obtain ⟨u0,u1,u2,h0,h1,h2,hint,c0,c1,c2,c3,c4,c5,c6⟩:=xM.out.cells
   obtain ⟨a0,pQ,z0,rfl⟩:=h0.bs.aG
   obtain ⟨a1,z1,rfl,-⟩:=h1.v.form
   obtain ⟨a2,z2,rfl,-⟩:=h2.1.form
   have gW:Hid (bK w1 (.agg #[.slice a0 pQ z0,.int .i64 b.valid,.int .i64 b.next,.int .i64 b.seq,.slice a1 b.ah.length z1,.slice a2 b.au.length z2,.int .i64 b.lost]) b):=⟨_,_,_,rfl,h0.bs,h1.v,h2.1,hint⟩
   have Oa:Hid (aB b.next):=hint.2.1
   clear h0 h1 h2 hint
   go_wp2_with fail
   refine (zX _ b 1 w1 gW.out (by decide) (by decide) (by omega)).mono ?_
   rintro e w2 ⟨rfl,B2⟩
   have p9:Hid (Below w.heap.size w w2):=Below.step jc.out B2
   have bV:Hid _:=ay B2 bW.out
   have jv:Hid _:=ay B2 fA.out
   have HB2:Hid (Below w1.heap.size w1 w2):=B2
   have hw2:w1.heap.size≤w2.heap.size:=B2.size
   clear B2 c0 c1 c2 c3 c4 c5 c6 q0 gW cb
   rw [hroom]
   cases rm with
   | false =>
    have e:res=(a,aQ 3 0):=by rw [bN.out];have h1:=fJ.out;simp [dz,h1,hb,hroom]
    subst e
    clear bN fJ
    obtain ⟨r0,r1,r2,r3,r4,r5,r6,r7,r8,r9⟩:=aM bV.out
    have fz:∀ i,w2.frozen? ⟨w.heap.size+1,i,none⟩=false:=fun i=>frozen_of_row w2 _ i _ _ bV.out
    have hlr:w.heap.size+1 < w2.heap.size:=lt_of_heap bV.out
    have HF:Hid _:=oW (w:=w) bV.out (by omega) (p9.out) 3 0
    go_wp2
    obtain ⟨f0,f1,f2,f3,f4,f5,f6,f7,f8,f9⟩:=aM HF.out.1
    refine bodyPost_ret (v:=.agg #[.int .i64 3,.int .i64 0,.slice none 0 0,.int .i64 0,.int .i64 0,.int .i64 0,.slice none 0 0,.slice none 0 0,.int .i64 0,.slice none 0 0]) (by simp [results,Tryz.results24,go_sem,f0,f1,f2,f3,f4,f5,f6,f7,f8,f9]) rfl ⟨_,S0,rfl,sQ ⟨_,_,_,_,rfl,⟨_,_,_,rfl,ng _,Rd.nil _,Rd.nil _,aI,aI,aI,aI⟩,⟨rfl,rfl⟩,(show aB (3:Int) from ⟨by decide,by decide⟩),aI⟩,aT.below HF.out.2,HP.out _ HF.out.2,fun k h=>.inl (dU.out k h)⟩
   | true =>
    have e:res=(aL a k (jR b fl tx),aQ 0 b.next):=by rw [bN.out];have h1:=fJ.out;simp [dz,h1,hb,hroom]
    subst e
    clear bN fJ
    have hr':=hroom
    simp only [dx,Bool.and_eq_true,decide_eq_true_eq] at hr'
    have hr1:=hr'.1
    have hr2:=hr'.2.1
    clear hr'
    have jW:Hid (aN w2 Sb g (k * 7) b):=xM.out.below HB2.out
    have CP:w.heap.size < w2.heap.size:=by omega
    have q5:w2.cell? ⟨w.heap.size,5,none⟩=some (.int .i64 fl):=cell_of_row w2 w.heap.size 5 _ _ (0,0) jv.out
    have q7:w2.cell? ⟨w.heap.size,7,none⟩=some (.slice x2 n2 m2):=cell_of_row w2 w.heap.size 7 _ _ (0,0) jv.out
    go_wp2_with fail
    refine (Mc g (k * 7) b Sb fl _ tx w2 jW.out HI.out.2.2.1 (fun w' h1 h2=>HQ2.out w' (Nat.le_trans p9.out.size h1) ((gG p9.out).trans h2)) hcl.2 (by omega) (by omega) (by omega)).mono ?_
    rintro e w3 ⟨rfl,Wo,hP3⟩
    have aj:Turns w1 w3 Sb g (k * 7):=(oU HB2.out).trans Wo (fun k h=>.inl h)
    have hPb:=hP3
    clear q5 q7 Wo hP3
    have hA:aU w3 (fun k=>S0 k∨w1.heap.size≤k) ga (aL a k (jR b fl tx)):=AO.out w3 _ _ aj hPb (fun k h=>h.elim .inl fun h=>.inr (by omega))
    have hT:aT w1 w3 S0 ga:=aT.box aj iW NZ.out
    have hS1:∀ k,(fun k=>S0 k∨w1.heap.size≤k) k→S0 k∨w1.heap.size≤k:=fun k h=>h
    obtain ⟨S1,xP⟩:∃ S1:Nat→Prop,S1=fun k=>S0 k∨w1.heap.size≤k:=⟨_,rfl⟩
    rw [← xP] at hA hS1
    clear aj hPb xP
    have HT1:Hid (aT w w3 S0 ga):=(aT.below (S:=S0) jc.out).trans hT (fun k h=>.inl h)
    have bX:Hid (w3.heap[w.heap.size+1]?=some (.cells #[.int .i64 0,.int .i64 0,.slice none 0 0,.int .i64 0,.int .i64 0,.int .i64 0,.slice none 0 0,.slice none 0 0,.int .i64 0,.slice none 0 0] 40 (0,0))):=(hT.2.1 _ (by omega) (by omega) (fun h=>by have:=HSL.out _ h;omega)).trans bW.out
    obtain ⟨r0,r1,r2,r3,r4,r5,r6,r7,r8,r9⟩:=aM bX.out
    have fz:∀ i,w3.frozen? ⟨w.heap.size+1,i,none⟩=false:=fun i=>frozen_of_row w3 _ i _ _ bX.out
    have hlr:=lt_of_heap bX.out
    have HF:Hid _:=AA (w:=w) bX.out (by omega) HT1.out _ _ hA gY (fun h=>(hS1 _ h).elim (fun h=>by have:=HSL.out _ h;omega) (fun h=>by omega)) 0 b.next ⟨aI,Oa.out⟩
    have qK:Hid (∀ k,S1 k→S k∨w.heap.size≤k):=fun k h=>(hS1 k h).elim (fun h=>.inl (dU.out k h)) (fun h=>.inr (by omega))
    clear hT hA hS1
    go_wp2
    obtain ⟨f0,f1,f2,f3,f4,f5,f6,f7,f8,f9⟩:=aM HF.out.1
    refine bodyPost_ret (v:=.agg #[.int .i64 0,.int .i64 b.next,.slice none 0 0,.int .i64 0,.int .i64 0,.int .i64 0,.slice none 0 0,.slice none 0 0,.int .i64 0,.slice none 0 0]) (by simp [results,Tryz.results24,go_sem,f0,f1,f2,f3,f4,f5,f6,f7,f8,f9]) rfl ⟨_,_,rfl,sQ HF.out.2.2.2,aT.wide HF.out.2.1 dU.out,HF.out.2.2.1,qK.out⟩
  by_cases k3:kd=3
  ·subst k3
   obtain ⟨z,hz⟩:∃ z,j6 b uid mode fl si=z:=⟨_,rfl⟩
   have e:res=(aL a k z.1,z.2):=by rw [bN.out];have h1:=fJ.out;simp [dz,h1,hb,hz]
   subst e
   clear bN fJ
   have q0:w1.cell? ⟨w.heap.size,0,none⟩=some (.int .i64 3):=cell_of_row w1 w.heap.size 0 _ _ (0,0) fA.out
   have q1:w1.cell? ⟨w.heap.size,1,none⟩=some (.slice x0 n0 m0):=cell_of_row w1 w.heap.size 1 _ _ (0,0) fA.out
   have q2:w1.cell? ⟨w.heap.size,2,none⟩=some (.slice x1 n1 m1):=cell_of_row w1 w.heap.size 2 _ _ (0,0) fA.out
   have q3:w1.cell? ⟨w.heap.size,3,none⟩=some (.int .i64 uid):=cell_of_row w1 w.heap.size 3 _ _ (0,0) fA.out
   have q4:w1.cell? ⟨w.heap.size,4,none⟩=some (.int .i64 mode):=cell_of_row w1 w.heap.size 4 _ _ (0,0) fA.out
   have q5:w1.cell? ⟨w.heap.size,5,none⟩=some (.int .i64 fl):=cell_of_row w1 w.heap.size 5 _ _ (0,0) fA.out
   have q6:w1.cell? ⟨w.heap.size,6,none⟩=some (.int .i64 si):=cell_of_row w1 w.heap.size 6 _ _ (0,0) fA.out
   have q7:w1.cell? ⟨w.heap.size,7,none⟩=some (.slice x2 n2 m2):=cell_of_row w1 w.heap.size 7 _ _ (0,0) fA.out
   go_wp2_with fail
   have hc:=afi g (k * 7) b Sb 3 uid mode fl si x0 x1 x2 n0 n1 n2 m0 m1 m2 w1 xM.out (by omega) HI.out.2.2.1
   rw [hz] at hc
   clear q1 q2 q3 q4 q5 q6 q7
   refine hc.mono ?_
   rintro e w2 ⟨u,rfl,zB,aj,hPb⟩
   have afE:¬ Sb g:=Wn.out
   have hrep:jo w2 w1.heap.size u z.2:=by
    obtain ⟨c,n,hcn⟩:=afs b uid mode fl si
    rw [hz] at hcn
    rw [hcn] at zB ⊢
    exact sQ zB
   clear zB
   have hA:aU w2 (fun k=>S0 k∨w1.heap.size≤k) ga (aL a k z.1):=AO.out w2 _ _ aj hPb (fun k h=>.inl h)
   have hT:aT w1 w2 S0 ga:=aT.box aj iW NZ.out
   have hS1:∀ k,(fun k=>S0 k∨w1.heap.size≤k) k→S0 k∨w1.heap.size≤k:=fun k h=>h
   obtain ⟨S1,xP⟩:∃ S1:Nat→Prop,S1=fun k=>S0 k∨w1.heap.size≤k:=⟨_,rfl⟩
   rw [← xP] at hA hS1
   clear aj hPb xP
   clear hc cb q0
   obtain ⟨y0,k0,j0,y1,j1,y2,j2,y3,j3,hU⟩:=hrep.v.form
   subst hU
   have HT1:Hid (aT w w2 S0 ga):=(aT.below (S:=S0) jc.out).trans hT (fun k h=>.inl h)
   have bW:Hid (w2.heap[w.heap.size+1]?=some (.cells #[.int .i64 0,.int .i64 0,.slice none 0 0,.int .i64 0,.int .i64 0,.int .i64 0,.slice none 0 0,.slice none 0 0,.int .i64 0,.slice none 0 0] 40 (0,0))):=(hT.2.1 _ (by omega) (by omega) (fun h=>by have:=HSL.out _ h;omega)).trans bW.out
   obtain ⟨r0,r1,r2,r3,r4,r5,r6,r7,r8,r9⟩:=aM bW.out
   have fz:∀ i,w2.frozen? ⟨w.heap.size+1,i,none⟩=false:=fun i=>frozen_of_row w2 _ i _ _ bW.out
   have hlr:=lt_of_heap bW.out
   have HF:Hid _:=wL (w:=w) bW.out (by omega) HT1.out _ _ hA gY (fun h=>(hS1 _ h).elim (fun h=>by have:=HSL.out _ h;omega) (fun h=>by omega)) _ _ _ _ _ _ _ _ _ _ _ hrep (by omega)
   have qK:Hid (∀ k,S1 k→S k∨w.heap.size≤k):=fun k h=>(hS1 k h).elim (fun h=>.inl (dU.out k h)) (fun h=>.inr (by omega))
   clear hrep hT hA hS1
   go_wp2
   obtain ⟨f0,f1,f2,f3,f4,f5,f6,f7,f8,f9⟩:=aM HF.out.1
   refine bodyPost_ret (v:=.agg #[_,_,_,_,_,_,_,_,_,_]) (by simp [results,Tryz.results24,go_sem,f0,f1,f2,f3,f4,f5,f6,f7,f8,f9]) rfl ⟨_,_,rfl,HF.out.2.2.2,aT.wide HF.out.2.1 dU.out,HF.out.2.2.1,qK.out⟩
  by_cases k4:kd=4
  ·subst k4
   obtain ⟨z,hz⟩:∃ z,iD b=z:=⟨_,rfl⟩
   have e:res=(aL a k z.1,z.2):=by rw [bN.out];have h1:=fJ.out;simp [dz,h1,hb,hz]
   subst e
   clear bN fJ
   have q0:w1.cell? ⟨w.heap.size,0,none⟩=some (.int .i64 4):=cell_of_row w1 w.heap.size 0 _ _ (0,0) fA.out
   go_wp2_with fail
   have hc:=ae7 g (k * 7) b Sb w1 xM.out (by omega) (by omega)
   rw [hz] at hc
   refine hc.mono ?_
   rintro e w2 ⟨u,rfl,zB,aj,hPb⟩
   have afE:¬ Sb g:=Wn.out
   have hrep:jo w2 w1.heap.size u z.2:=by
    obtain ⟨c,n,hcn⟩:=aft b
    rw [hz] at hcn
    rw [hcn] at zB ⊢
    exact sQ zB
   clear zB
   have hA:aU w2 (fun k=>S0 k∨w1.heap.size≤k) ga (aL a k z.1):=AO.out w2 _ _ aj hPb (fun k h=>h)
   have hT:aT w1 w2 S0 ga:=aT.box aj iW NZ.out
   have hS1:∀ k,(fun k=>S0 k∨w1.heap.size≤k) k→S0 k∨w1.heap.size≤k:=fun k h=>h
   obtain ⟨S1,xP⟩:∃ S1:Nat→Prop,S1=fun k=>S0 k∨w1.heap.size≤k:=⟨_,rfl⟩
   rw [← xP] at hA hS1
   clear aj hPb xP
   clear hc cb q0
   obtain ⟨y0,k0,j0,y1,j1,y2,j2,y3,j3,hU⟩:=hrep.v.form
   subst hU
   have HT1:Hid (aT w w2 S0 ga):=(aT.below (S:=S0) jc.out).trans hT (fun k h=>.inl h)
   have bW:Hid (w2.heap[w.heap.size+1]?=some (.cells #[.int .i64 0,.int .i64 0,.slice none 0 0,.int .i64 0,.int .i64 0,.int .i64 0,.slice none 0 0,.slice none 0 0,.int .i64 0,.slice none 0 0] 40 (0,0))):=(hT.2.1 _ (by omega) (by omega) (fun h=>by have:=HSL.out _ h;omega)).trans bW.out
   obtain ⟨r0,r1,r2,r3,r4,r5,r6,r7,r8,r9⟩:=aM bW.out
   have fz:∀ i,w2.frozen? ⟨w.heap.size+1,i,none⟩=false:=fun i=>frozen_of_row w2 _ i _ _ bW.out
   have hlr:=lt_of_heap bW.out
   have HF:Hid _:=wL (w:=w) bW.out (by omega) HT1.out _ _ hA gY (fun h=>(hS1 _ h).elim (fun h=>by have:=HSL.out _ h;omega) (fun h=>by omega)) _ _ _ _ _ _ _ _ _ _ _ hrep (by omega)
   have qK:Hid (∀ k,S1 k→S k∨w.heap.size≤k):=fun k h=>(hS1 k h).elim (fun h=>.inl (dU.out k h)) (fun h=>.inr (by omega))
   clear hrep hT hA hS1
   go_wp2
   obtain ⟨f0,f1,f2,f3,f4,f5,f6,f7,f8,f9⟩:=aM HF.out.1
   refine bodyPost_ret (v:=.agg #[_,_,_,_,_,_,_,_,_,_]) (by simp [results,Tryz.results24,go_sem,f0,f1,f2,f3,f4,f5,f6,f7,f8,f9]) rfl ⟨_,_,rfl,HF.out.2.2.2,aT.wide HF.out.2.1 dU.out,HF.out.2.2.1,qK.out⟩
  by_cases k6:kd=6
  ·subst k6
   have hres:lN a k b tt uid mode=res:=by rw [bN.out];have h1:=fJ.out;simp [dz,h1,hb]
   clear bN fJ
   have q0:w1.cell? ⟨w.heap.size,0,none⟩=some (.int .i64 6):=cell_of_row w1 w.heap.size 0 _ _ (0,0) fA.out
   have q1:w1.cell? ⟨w.heap.size,1,none⟩=some (.slice x0 n0 m0):=cell_of_row w1 w.heap.size 1 _ _ (0,0) fA.out
   have q2:w1.cell? ⟨w.heap.size,2,none⟩=some (.slice x1 n1 m1):=cell_of_row w1 w.heap.size 2 _ _ (0,0) fA.out
   have q3:w1.cell? ⟨w.heap.size,3,none⟩=some (.int .i64 uid):=cell_of_row w1 w.heap.size 3 _ _ (0,0) fA.out
   have q4:w1.cell? ⟨w.heap.size,4,none⟩=some (.int .i64 mode):=cell_of_row w1 w.heap.size 4 _ _ (0,0) fA.out
   have q5:w1.cell? ⟨w.heap.size,5,none⟩=some (.int .i64 fl):=cell_of_row w1 w.heap.size 5 _ _ (0,0) fA.out
   have q6:w1.cell? ⟨w.heap.size,6,none⟩=some (.int .i64 si):=cell_of_row w1 w.heap.size 6 _ _ (0,0) fA.out
   have q7:w1.cell? ⟨w.heap.size,7,none⟩=some (.slice x2 n2 m2):=cell_of_row w1 w.heap.size 7 _ _ (0,0) fA.out
   go_wp2_with fail
   have hc:=ae2 ga k a b tt S0 6 uid mode fl si x0 x1 x2 n0 n1 n2 m0 m1 m2 w1 HA1.out hb (HQ1.out w1 jc.out.size (gG jc.out)) gP.out hbl
   rw [hres] at hc
   refine hc.mono ?_
   rintro e w2 ⟨u,S1,rfl,hrep,hT,hA,hS1⟩
   clear q0 q1 q2 q3 q4 q5 q6 q7 hc cb
   obtain ⟨y0,k0,j0,y1,j1,y2,j2,y3,j3,hU⟩:=hrep.v.form
   subst hU
   have HT1:Hid (aT w w2 S0 ga):=(aT.below (S:=S0) jc.out).trans hT (fun k h=>.inl h)
   have bW:Hid (w2.heap[w.heap.size+1]?=some (.cells #[.int .i64 0,.int .i64 0,.slice none 0 0,.int .i64 0,.int .i64 0,.int .i64 0,.slice none 0 0,.slice none 0 0,.int .i64 0,.slice none 0 0] 40 (0,0))):=(hT.2.1 _ (by omega) (by omega) (fun h=>by have:=HSL.out _ h;omega)).trans bW.out
   obtain ⟨r0,r1,r2,r3,r4,r5,r6,r7,r8,r9⟩:=aM bW.out
   have fz:∀ i,w2.frozen? ⟨w.heap.size+1,i,none⟩=false:=fun i=>frozen_of_row w2 _ i _ _ bW.out
   have hlr:=lt_of_heap bW.out
   have HF:Hid _:=wL (w:=w) bW.out (by omega) HT1.out _ _ hA gY (fun h=>(hS1 _ h).elim (fun h=>by have:=HSL.out _ h;omega) (fun h=>by omega)) _ _ _ _ _ _ _ _ _ _ _ hrep (by omega)
   have qK:Hid (∀ k,S1 k→S k∨w.heap.size≤k):=fun k h=>(hS1 k h).elim (fun h=>.inl (dU.out k h)) (fun h=>.inr (by omega))
   clear hrep hT hA hS1
   go_wp2
   obtain ⟨f0,f1,f2,f3,f4,f5,f6,f7,f8,f9⟩:=aM HF.out.1
   refine bodyPost_ret (v:=.agg #[_,_,_,_,_,_,_,_,_,_]) (by simp [results,Tryz.results24,go_sem,f0,f1,f2,f3,f4,f5,f6,f7,f8,f9]) rfl ⟨_,_,rfl,HF.out.2.2.2,aT.wide HF.out.2.1 dU.out,HF.out.2.2.1,qK.out⟩
  by_cases k8:kd=8
  ·subst k8
   obtain ⟨rr,hrr⟩:∃ rr,ni b si=rr:=⟨_,rfl⟩
   have e:res=(a,rr):=by rw [bN.out];have h1:=fJ.out;simp [dz,h1,hb,hrr]
   subst e
   clear bN fJ
   have q0:w1.cell? ⟨w.heap.size,0,none⟩=some (.int .i64 8):=cell_of_row w1 w.heap.size 0 _ _ (0,0) fA.out
   have q6:w1.cell? ⟨w.heap.size,6,none⟩=some (.int .i64 si):=cell_of_row w1 w.heap.size 6 _ _ (0,0) fA.out
   obtain ⟨u0,u1,u2,h0,h1,h2,hint,c0,c1,c2,c3,c4,c5,c6⟩:=xM.out.cells
   obtain ⟨a0,pQ,z0,rfl⟩:=h0.bs.aG
   obtain ⟨a1,z1,rfl,-⟩:=h1.v.form
   obtain ⟨a2,z2,rfl,-⟩:=h2.1.form
   have gW:Hid (bK w1 (.agg #[.slice a0 pQ z0,.int .i64 b.valid,.int .i64 b.next,.int .i64 b.seq,.slice a1 b.ah.length z1,.slice a2 b.au.length z2,.int .i64 b.lost]) b):=⟨_,_,_,rfl,h0.bs,h1.v,h2.1,hint⟩
   have Oa:Hid (aB b.next):=hint.2.1
   clear h0 h1 h2 hint
   have vD:Hid (Below w.heap.size w w1.drew):=jc.out.drew
   have iX:Hid (w1.drew.heap[w.heap.size+1]?=_):=bW.out
   have afF:Hid (w1.drew.heap[w.heap.size]?=_):=fA.out
   have hgd:g < w1.drew.heap.size:=sP
   have hld:w.heap.size < w1.drew.heap.size:=wK
   have hd1:w1.drew.heap.size=w1.heap.size:=rfl
   go_upto_region 30 with fail
   refine eF 6 (S:=fun w'=>w'.cell? ⟨g,k * 7,none⟩=some (.slice a0 pQ z0)∧w'.cell? ⟨g,k * 7+1,none⟩=some (.int .i64 b.valid)∧w'.cell? ⟨g,k * 7+2,none⟩=some (.int .i64 b.next)∧w'.cell? ⟨g,k * 7+3,none⟩=some (.int .i64 b.seq)∧w'.cell? ⟨g,k * 7+4,none⟩=some (.slice a1 b.ah.length z1)∧w'.cell? ⟨g,k * 7+5,none⟩=some (.slice a2 b.au.length z2)∧w'.cell? ⟨g,k * 7+6,none⟩=some (.int .i64 b.lost)∧w'.cell? ⟨w.heap.size,6,none⟩=some (.int .i64 si)) (eB (by kernel_rfl) afu) (by kernel_rfl) (⟨c0,c1,c2,c3,c4,c5,c6,q6⟩) (fun aj hHeld=>?_)
   refine tks 0 0 116 aj hHeld ?_
   refine tks 1 1 117 aj hHeld ?_
   refine tks 2 2 118 aj hHeld ?_
   refine tks 3 3 119 aj hHeld ?_
   refine tks 4 4 120 aj hHeld ?_
   refine cls 5 5 aj (by decide) rfl rfl (fun K hK=>?_)
   go_simp
   have hc:=afj _ b si w1.drew (gW.out.below (bd _ _)) (by omega)
   rw [hrr] at hc
   refine hc.mono ?_
   rintro e wz ⟨u,rfl,hrep,Bz⟩
   clear hc
   obtain ⟨y0,k0,j0,y1,j1,y2,j2,y3,j3,hU⟩:=hrep.v.form
   subst hU
   have bI:Hid (jo wz w1.drew.heap.size _ rr):=hrep
   have xQ:Hid (Below w.heap.size w wz):=Below.step vD.out Bz
   have oD:Hid _:=ay Bz iX.out
   have sz:=Bz.size
   refine hK.out _ _ (⟨(Bz.cell (p:=⟨g,_,none⟩) hgd).trans c0,(Bz.cell (p:=⟨g,_,none⟩) hgd).trans c1,(Bz.cell (p:=⟨g,_,none⟩) hgd).trans c2,(Bz.cell (p:=⟨g,_,none⟩) hgd).trans c3,(Bz.cell (p:=⟨g,_,none⟩) hgd).trans c4,(Bz.cell (p:=⟨g,_,none⟩) hgd).trans c5,(Bz.cell (p:=⟨g,_,none⟩) hgd).trans c6,(Bz.cell (p:=⟨w.heap.size,_,none⟩) hld).trans q6⟩) (fun hHeld=>?_)
   clear hK K
   refine gL (S':=fun w'=>True) 6 7 aj (by decide) (trivial) (fun hHeld=>?_)
   refine cls 6 6 aj (by decide) rfl rfl (fun K hK=>?_)
   obtain ⟨r0,r1,r2,r3,r4,r5,r6,r7,r8,r9⟩:=aM oD.out
   have fz:∀ i,wz.frozen? ⟨w.heap.size+1,i,none⟩=false:=fun i=>frozen_of_row wz _ i _ _ oD.out
   have hlr:=lt_of_heap oD.out
   have HF:Hid _:=wL (w:=w) (ga:=ga) (S:=S0) (S':=S0) oD.out (by omega) (aT.below xQ.out) a (HP.out _ xQ.out) gY (fun h=>by have:=HSL.out _ h;omega) _ (.int .i64 rr.code) (.int .i64 rr.num) (.slice y0 k0 j0) (.int .i64 rr.box.valid) (.int .i64 rr.box.next) (.int .i64 rr.box.seq) (.slice y1 rr.box.ah.length j1) (.slice y2 rr.box.au.length j2) (.int .i64 rr.box.lost) (.slice y3 rr.names.length j3) bI.out (by show w.heap.size+1 < w1.heap.size;omega)
   go_simp
   refine hK.out _ _ (trivial) (fun hHeld=>?_)
   clear hK K
   refine eG aj ?_
   go_wp2
   obtain ⟨f0,f1,f2,f3,f4,f5,f6,f7,f8,f9⟩:=aM HF.out.1
   refine bodyPost_ret (v:=.agg #[.int .i64 rr.code,.int .i64 rr.num,.slice y0 k0 j0,.int .i64 rr.box.valid,.int .i64 rr.box.next,.int .i64 rr.box.seq,.slice y1 rr.box.ah.length j1,.slice y2 rr.box.au.length j2,.int .i64 rr.box.lost,.slice y3 rr.names.length j3]) (by simp [results,Tryz.results24,go_sem,f0,f1,f2,f3,f4,f5,f6,f7,f8,f9]) rfl ⟨_,S0,rfl,HF.out.2.2.2,aT.wide HF.out.2.1 dU.out,HF.out.2.2.1,fun k h=>.inl (dU.out k h)⟩
  by_cases k7:kd=7
  ·subst k7
   have e:res=(a,⟨0,(b.ah.length:Nat),⟨b.name,b.valid,b.next,b.seq,[],[],b.lost⟩,[]⟩):=by rw [bN.out];have h1:=fJ.out;simp [dz,h1,hb]
   subst e
   clear bN fJ
   have q0:w1.cell? ⟨w.heap.size,0,none⟩=some (.int .i64 7):=cell_of_row w1 w.heap.size 0 _ _ (0,0) fA.out
   obtain ⟨u0,u1,u2,h0,h1,h2,hint,c0,c1,c2,c3,c4,c5,c6⟩:=xM.out.cells
   obtain ⟨a0,pQ,z0,rfl⟩:=h0.bs.aG
   obtain ⟨a1,z1,rfl,-⟩:=h1.v.form
   obtain ⟨a2,z2,rfl,-⟩:=h2.1.form
   have gW:Hid (bK w1 (.agg #[.slice a0 pQ z0,.int .i64 b.valid,.int .i64 b.next,.int .i64 b.seq,.slice a1 b.ah.length z1,.slice a2 b.au.length z2,.int .i64 b.lost]) b):=⟨_,_,_,rfl,h0.bs,h1.v,h2.1,hint⟩
   have wB:Hid (aB b.valid∧aB b.next∧aB b.seq∧aB b.lost):=hint
   have mo:Hid (Bs w1.drew (.slice a0 pQ z0) b.name):=h0.bs.below (bd _ _)
   clear h0 h1 h2 hint
   have vD:Hid (Below w.heap.size w w1.drew):=jc.out.drew
   have iX:Hid (w1.drew.heap[w.heap.size+1]?=_):=bW.out
   have afF:Hid (w1.drew.heap[w.heap.size]?=_):=fA.out
   have hgd:g < w1.drew.heap.size:=sP
   have hld:w.heap.size < w1.drew.heap.size:=wK
   have hd1:w1.drew.heap.size=w1.heap.size:=rfl
   obtain ⟨i0,hi,hz0,hz1,hz2⟩:=info_parts info5
   have hnl:b.name.length≤900000:=by unfold bA at hsx;omega
   have hm1:b.name.length≤maxLen:=by unfold maxLen;omega
   have hm2:b.name.length * 1≤140737488355328:=by omega
   go_upto_region 32 with fail
   refine eF 29 (S:=fun w'=>w'.cell? ⟨g,k * 7,none⟩=some (.slice a0 pQ z0)∧w'.cell? ⟨g,k * 7+1,none⟩=some (.int .i64 b.valid)∧w'.cell? ⟨g,k * 7+2,none⟩=some (.int .i64 b.next)∧w'.cell? ⟨g,k * 7+3,none⟩=some (.int .i64 b.seq)∧w'.cell? ⟨g,k * 7+4,none⟩=some (.slice a1 b.ah.length z1)∧w'.cell? ⟨g,k * 7+6,none⟩=some (.int .i64 b.lost)) (eB (by kernel_rfl) afv) (by kernel_rfl) (⟨c0,c1,c2,c3,c4,c6⟩) (fun aj hHeld=>?_)
   refine tks 0 0 124 aj hHeld ?_
   refine tks 1 1 125 aj hHeld ?_
   refine tks 2 2 126 aj hHeld ?_
   refine tks 3 3 127 aj hHeld ?_
   refine tks 4 4 128 aj hHeld ?_
   refine tks 5 6 130 aj hHeld ?_
   refine tks 6 7 131 aj hHeld ?_
   refine tks 7 8 132 aj hHeld ?_
   refine tks 8 9 133 aj hHeld ?_
   refine tks 9 11 135 aj hHeld ?_
   refine tks 10 12 136 aj hHeld ?_
   refine tks 11 13 137 aj hHeld ?_
   refine tks 12 14 138 aj hHeld ?_
   refine tks 13 15 139 aj hHeld ?_
   refine tks 14 16 140 aj hHeld ?_
   refine tks 15 17 141 aj hHeld ?_
   refine tks 16 18 142 aj hHeld ?_
   refine tks 17 19 143 aj hHeld ?_
   refine tks 18 20 144 aj hHeld ?_
   refine tks 19 21 145 aj hHeld ?_
   refine tks 20 22 146 aj hHeld ?_
   refine tks 21 23 147 aj hHeld ?_
   refine tks 22 24 148 aj hHeld ?_
   refine tks 23 25 149 aj hHeld ?_
   refine tks 24 26 150 aj hHeld ?_
   refine cls 25 5 aj (by decide) rfl rfl (fun K hK=>?_)
   go_simp
   have AE:Below w1.drew.heap.size w1.drew (w1.drew.alloc (.cells #[] 5)):=bn _ _
   have qG:Hid _:=kK w1.drew 5 1 w1.drew.heap.size (Nat.le_refl _)
   have kX:Hid (Below w1.drew.heap.size w1.drew (w1.drew.alloc (.cells #[] 5))):=AE
   refine hK.out _ _ (⟨(AE.cell (p:=⟨g,_,none⟩) hgd).trans c0,(AE.cell (p:=⟨g,_,none⟩) hgd).trans c1,(AE.cell (p:=⟨g,_,none⟩) hgd).trans c2,(AE.cell (p:=⟨g,_,none⟩) hgd).trans c3,(AE.cell (p:=⟨g,_,none⟩) hgd).trans c4,(AE.cell (p:=⟨g,_,none⟩) hgd).trans c6⟩) (fun hHeld=>?_)
   clear hK K
   clear AE
   refine cls 26 10 aj (by decide) rfl rfl (fun K hK=>?_)
   refine dO (by kernel_rfl) (j5 (B:=w1.drew.heap.size) 134 rfl (.tmp 129) (.tmp 133) rfl qG.out (Bs.rY (mo.out.below kX.out)) (one_byte _) Tryz.underlying26 hi hz0 hz1 hz2 rfl (by omega) rfl rfl hm1 hm2 kX.out.size ?_)
   intro V1 wz xs hO4 uf hG4 hB4
   have hR:RO wz (fun k=>w1.drew.heap.size≤k) V1 b.name:=rZ mo.out.1 hO4 uf (fun g hg=>dJ hO4 hg)
   obtain ⟨y0,k0,j0,hV1⟩:=hR.bs.aG
   subst hV1
   have EC:(w1.drew.alloc (.cells #[] 5)).grownBy wz (some w1.drew.heap.size):=hG4
   have Bz:Below w1.drew.heap.size w1.drew wz:=kP kX.out EC (Nat.le_refl _)
   have xQ:Hid (Below w.heap.size w wz):=Below.step vD.out Bz
   have oD:Hid _:=ay Bz iX.out
   have sz:=Bz.size
   have bI:Hid (jo wz w1.drew.heap.size (.agg #[.int .i64 0,.int .i64 (b.ah.length:Nat),.slice y0 k0 j0,.int .i64 b.valid,.int .i64 b.next,.int .i64 b.seq,.slice none 0 0,.slice none 0 0,.int .i64 b.lost,.slice none 0 0]) ⟨0,(b.ah.length:Nat),⟨b.name,b.valid,b.next,b.seq,[],[],b.lost⟩,[]⟩):=⟨fun w' hs' hk'=>⟨_,_,_,_,rfl,⟨_,_,_,rfl,(hR.frame fun k h1 h2=>hk' k h1 h2).bs,Rd.nil _,Rd.nil _,wB.out⟩,Rd.nil _,aI,⟨by show (-9223372036854775808:Int)≤(b.ah.length:Int);omega,by show (b.ah.length:Int)≤9223372036854775807;omega⟩⟩,_,_,_,_,_,_,_,_,_,_,rfl,.inl ⟨rfl,rfl⟩⟩
   clear hO4 uf hG4 hB4 hR EC
   refine hK.out _ _ (⟨(Bz.cell (p:=⟨g,_,none⟩) hgd).trans c0,(Bz.cell (p:=⟨g,_,none⟩) hgd).trans c1,(Bz.cell (p:=⟨g,_,none⟩) hgd).trans c2,(Bz.cell (p:=⟨g,_,none⟩) hgd).trans c3,(Bz.cell (p:=⟨g,_,none⟩) hgd).trans c4,(Bz.cell (p:=⟨g,_,none⟩) hgd).trans c6⟩) (fun hHeld=>?_)
   clear hK K
   refine tks 27 27 151 aj hHeld ?_
   refine tks 28 28 152 aj hHeld ?_
   refine gL (S':=fun w'=>True) 29 30 aj (by decide) (trivial) (fun hHeld=>?_)
   refine cls 29 29 aj (by decide) rfl rfl (fun K hK=>?_)
   obtain ⟨r0,r1,r2,r3,r4,r5,r6,r7,r8,r9⟩:=aM oD.out
   have fz:∀ i,wz.frozen? ⟨w.heap.size+1,i,none⟩=false:=fun i=>frozen_of_row wz _ i _ _ oD.out
   have hlr:=lt_of_heap oD.out
   have HF:Hid _:=wL (w:=w) (ga:=ga) (S:=S0) (S':=S0) oD.out (by omega) (aT.below xQ.out) a (HP.out _ xQ.out) gY (fun h=>by have:=HSL.out _ h;omega) _ (.int .i64 0) (.int .i64 (b.ah.length:Nat)) (.slice y0 k0 j0) (.int .i64 b.valid) (.int .i64 b.next) (.int .i64 b.seq) (.slice none 0 0) (.slice none 0 0) (.int .i64 b.lost) (.slice none 0 0) bI.out (by show w.heap.size+1 < w1.heap.size;omega)
   go_simp
   refine hK.out _ _ (trivial) (fun hHeld=>?_)
   clear hK K
   refine eG aj ?_
   go_wp2
   obtain ⟨f0,f1,f2,f3,f4,f5,f6,f7,f8,f9⟩:=aM HF.out.1
   refine bodyPost_ret (v:=.agg #[.int .i64 0,.int .i64 (b.ah.length:Nat),.slice y0 k0 j0,.int .i64 b.valid,.int .i64 b.next,.int .i64 b.seq,.slice none 0 0,.slice none 0 0,.int .i64 b.lost,.slice none 0 0]) (by simp [results,Tryz.results24,go_sem,f0,f1,f2,f3,f4,f5,f6,f7,f8,f9]) rfl ⟨_,S0,rfl,HF.out.2.2.2,aT.wide HF.out.2.1 dU.out,HF.out.2.2.1,fun k h=>.inl (dU.out k h)⟩
  have h1b:(kd == 1)=false:=by simp [k1]
  have h2b:(kd == 2)=false:=by simp [k2]
  have h3b:(kd == 3)=false:=by simp [k3]
  have h4b:(kd == 4)=false:=by simp [k4]
  have h6b:(kd == 6)=false:=by simp [k6]
  have h8b:(kd == 8)=false:=by simp [k8]
  have h7b:(kd == 7)=false:=by simp [k7]
  have q0:w1.cell? ⟨w.heap.size,0,none⟩=some (.int .i64 kd):=cell_of_row w1 w.heap.size 0 _ _ (0,0) fA.out
  have q3:w1.cell? ⟨w.heap.size,3,none⟩=some (.int .i64 uid):=cell_of_row w1 w.heap.size 3 _ _ (0,0) fA.out
  obtain ⟨u0,u1,u2,h0,h1,h2,hint,c0,c1,c2,c3,c4,c5,c6⟩:=xM.out.cells
  obtain ⟨a0,pQ,z0,rfl⟩:=h0.bs.aG
  obtain ⟨a1,z1,rfl,-⟩:=h1.v.form
  obtain ⟨a2,z2,rfl,-⟩:=h2.1.form
  have gW:Hid (bK w1 (.agg #[.slice a0 pQ z0,.int .i64 b.valid,.int .i64 b.next,.int .i64 b.seq,.slice a1 b.ah.length z1,.slice a2 b.au.length z2,.int .i64 b.lost]) b):=⟨_,_,_,rfl,h0.bs,h1.v,h2.1,hint⟩
  have Oa:Hid (aB b.next):=hint.2.1
  clear h0 h1 h2 hint
  have DR:Below w1.heap.size w1 w1.drew:=bd _ _
  have hgd:g < w1.drew.heap.size:=sP
  have hld:w.heap.size < w1.drew.heap.size:=wK
  have HS:Hid (∀ w',Below w1.drew.heap.size w1.drew w'→w'.cell? ⟨g,k * 7,none⟩=some (.slice a0 pQ z0)∧w'.cell? ⟨g,k * 7+1,none⟩=some (.int .i64 b.valid)∧w'.cell? ⟨g,k * 7+2,none⟩=some (.int .i64 b.next)∧w'.cell? ⟨g,k * 7+3,none⟩=some (.int .i64 b.seq)∧w'.cell? ⟨g,k * 7+4,none⟩=some (.slice a1 b.ah.length z1)∧w'.cell? ⟨g,k * 7+5,none⟩=some (.slice a2 b.au.length z2)∧w'.cell? ⟨g,k * 7+6,none⟩=some (.int .i64 b.lost)∧w'.cell? ⟨w.heap.size,3,none⟩=some (.int .i64 uid)):=fun w' h=>⟨(h.cell (p:=⟨g,_,none⟩) hgd).trans c0,(h.cell (p:=⟨g,_,none⟩) hgd).trans c1,(h.cell (p:=⟨g,_,none⟩) hgd).trans c2,(h.cell (p:=⟨g,_,none⟩) hgd).trans c3,(h.cell (p:=⟨g,_,none⟩) hgd).trans c4,(h.cell (p:=⟨g,_,none⟩) hgd).trans c5,(h.cell (p:=⟨g,_,none⟩) hgd).trans c6,(h.cell (p:=⟨w.heap.size,_,none⟩) hld).trans q3⟩
  have dR:Hid (bK w1.drew (.agg #[.slice a0 pQ z0,.int .i64 b.valid,.int .i64 b.next,.int .i64 b.seq,.slice a1 b.ah.length z1,.slice a2 b.au.length z2,.int .i64 b.lost]) b):=gW.out.below DR
  go_upto_region 33 with fail
  clear c0 c1 c2 c3 c4 c5 c6 q3
  go_region_held3 (fun w'=>w'.cell? ⟨g,k * 7,none⟩=some (.slice a0 pQ z0)∧w'.cell? ⟨g,k * 7+1,none⟩=some (.int .i64 b.valid)∧w'.cell? ⟨g,k * 7+2,none⟩=some (.int .i64 b.next)∧w'.cell? ⟨g,k * 7+3,none⟩=some (.int .i64 b.seq)∧w'.cell? ⟨g,k * 7+4,none⟩=some (.slice a1 b.ah.length z1)∧w'.cell? ⟨g,k * 7+5,none⟩=some (.slice a2 b.au.length z2)∧w'.cell? ⟨g,k * 7+6,none⟩=some (.int .i64 b.lost)∧w'.cell? ⟨w.heap.size,3,none⟩=some (.int .i64 uid))
   (first | exact HS.out _ (Below.refl _ _) | exact HS.out _ B2 | go_keep)
   ((go_at_call 62;refine (sI _ b uid _ dR.out).mono ?_;rintro e w2 ⟨rfl,B2⟩))
  have HB2:Hid (Below w1.heap.size w1 w2):=Below.step DR B2
  have p9:Hid (Below w.heap.size w w2):=Below.step jc.out HB2.out
  have bV:Hid _:=ay HB2.out bW.out
  have jv:Hid _:=ay HB2.out fA.out
  have hw2:w1.heap.size≤w2.heap.size:=HB2.out.size
  clear B2 dR DR hgd hld HS gW q0 cb
  cases hg:b.ah.findIdx? (fun m:aF=>decide (m.uid=uid)) with
  | none =>
   have hfm:=Il hg
   have e:res=(a,aQ 1 0):=by rw [bN.out];have h1:=fJ.out;simp [dz,h1,hb,h0,h9,k1,k2,k3,k4,k6,k7,k8,hg]
   subst e
   clear bN fJ hg
   obtain ⟨r0,r1,r2,r3,r4,r5,r6,r7,r8,r9⟩:=aM bV.out
   have fz:∀ i,w2.frozen? ⟨w.heap.size+1,i,none⟩=false:=fun i=>frozen_of_row w2 _ i _ _ bV.out
   have hlr:w.heap.size+1 < w2.heap.size:=lt_of_heap bV.out
   have HF:Hid _:=oW (w:=w) bV.out (by omega) (p9.out) 1 0
   go_wp2
   obtain ⟨f0,f1,f2,f3,f4,f5,f6,f7,f8,f9⟩:=aM HF.out.1
   refine bodyPost_ret (v:=.agg #[.int .i64 1,.int .i64 0,.slice none 0 0,.int .i64 0,.int .i64 0,.int .i64 0,.slice none 0 0,.slice none 0 0,.int .i64 0,.slice none 0 0]) (by simp [results,Tryz.results24,go_sem,f0,f1,f2,f3,f4,f5,f6,f7,f8,f9]) rfl ⟨_,S0,rfl,sQ ⟨_,_,_,_,rfl,⟨_,_,_,rfl,ng _,Rd.nil _,Rd.nil _,aI,aI,aI,aI⟩,⟨rfl,rfl⟩,(show aB (1:Int) from ⟨by decide,by decide⟩),aI⟩,aT.below HF.out.2,HP.out _ HF.out.2,fun k h=>.inl (dU.out k h)⟩
  | some i =>
   obtain ⟨hfm,m,hm⟩:=Im hg
   obtain ⟨bq,hbq⟩:∃ bq:aD,bq=⟨b.name,b.valid,b.next,b.seq,(b.ah.drop i).take 1,[],b.lost⟩:=⟨_,rfl⟩
   have e:res=(a,⟨0,uid,bq,[]⟩):=by rw [bN.out,hbq];have h1:=fJ.out;simp [dz,h1,hb,h0,h9,k1,k2,k3,k4,k6,k7,k8,hg]
   subst e
   clear bN fJ hg
   have Wp:Hid (aN w2.drew Sb g (k * 7) b):=(xM.out.below HB2.out).below (bd _ _)
   obtain ⟨mb,mc,ut,d4,hmc,hlm,-⟩:=Wp.out.J5 hm
   obtain ⟨u0,u1,u2,h0,h1,h2,hint,d0,d1,d2,d3,Wq,-,d6⟩:=Wp.out.cells
   have e4:u1=.slice (some ⟨mb,0,none⟩) b.ah.length mc:=Option.some.inj (Wq.symm.trans d4)
   subst e4
   obtain ⟨b0,p0,y0,rfl⟩:=h0.bs.aG
   have hil:i < b.ah.length:=(gs1 hm).1
   have afG:Hid (bK w2.drew (.agg #[.slice b0 p0 y0,.int .i64 b.valid,.int .i64 b.next,.int .i64 b.seq,.slice (some ⟨mb,i * 4,none⟩) 1 (mc - i),.slice none 0 0,.int .i64 b.lost]) bq):=by
    subst hbq
    have hd:=Rd.drop (k:=i) h1.v (by omega)
    rw [Nat.zero_add] at hd
    have hd':Rd 4 zH w2.drew (.slice (some ⟨mb,i * 4,none⟩) (b.ah.drop i).length (mc - i)) (b.ah.drop i):=by rw [List.length_drop];exact hd
    exact ⟨_,_,_,rfl,h0.bs,Rd.take hd' (by rw [List.length_drop];omega),Rd.nil _,hint⟩
   have HQV:Hid (bq.valid=b.valid∧bq.next=b.next∧bq.seq=b.seq∧bq.lost=b.lost):=by subst hbq;exact ⟨rfl,rfl,rfl,rfl⟩
   have wN:bA bq≤900000:=by
    subst hbq
    have hms:dG ((b.ah.drop i).take 1)≤dG b.ah:=V9 i b.ah
    unfold bA at hsx ⊢
    show b.name.length+dG ((b.ah.drop i).take 1)+([]:List bf).length+_≤_
    simp only [List.length_nil] at *
    omega
   have vD:Hid (Below w.heap.size w w2.drew):=p9.out.drew
   have iX:Hid (w2.drew.heap[w.heap.size+1]?=_):=bV.out
   have hgd:g < w2.drew.heap.size:=by show g < w2.heap.size;omega
   have hld:w.heap.size < w2.drew.heap.size:=by show w.heap.size < w2.heap.size;omega
   have hd2:w2.drew.heap.size=w2.heap.size:=rfl
   have q3:w2.drew.cell? ⟨w.heap.size,3,none⟩=some (.int .i64 uid):=cell_of_row w2.drew w.heap.size 3 _ _ (0,0) jv.out
   have hz0:¬ mc=i:=by omega
   have hiz:i≤mc:=by omega
   have hi0:(0:Int)≤(i:Int):=by omega
   have ajw:(i:Int)≤900000:=by omega
   have hwr:IntKind.i64.wrap ((i:Int)+1)=(i:Int)+1:=by simp [IntKind.wrap,IntKind.bits,IntKind.signed];omega
   have htn:((i:Int)+1).toNat=i+1:=by omega
   have hb0:(0:Int)≤(i:Int)+1:=by omega
   have hb1:(i:Int)+1≤(mc:Int):=by omega
   have hb2:(i:Int)≤(i:Int)+1:=by omega
   clear h0 h1 h2 hint Wq hbq
   go_upto_region 36 with fail
   refine eF 33 (S:=fun w'=>w'.cell? ⟨g,k * 7,none⟩=some (.slice b0 p0 y0)∧w'.cell? ⟨g,k * 7+1,none⟩=some (.int .i64 b.valid)∧w'.cell? ⟨g,k * 7+2,none⟩=some (.int .i64 b.next)∧w'.cell? ⟨g,k * 7+3,none⟩=some (.int .i64 b.seq)∧w'.cell? ⟨g,k * 7+4,none⟩=some (.slice (some ⟨mb,0,none⟩) b.ah.length mc)∧w'.cell? ⟨g,k * 7+6,none⟩=some (.int .i64 b.lost)∧w'.cell? ⟨w.heap.size,3,none⟩=some (.int .i64 uid)) (eB (by kernel_rfl) afw) (by kernel_rfl) (⟨d0,d1,d2,d3,d4,d6,q3⟩) (fun aj hHeld=>?_)
   refine tks 0 0 162 aj hHeld ?_
   refine tks 1 1 163 aj hHeld ?_
   refine tks 2 2 164 aj hHeld ?_
   refine tks 3 3 165 aj hHeld ?_
   refine tks 4 4 166 aj hHeld ?_
   refine tks 5 5 167 aj hHeld ?_
   refine tks 6 6 168 aj hHeld ?_
   refine tks 7 7 169 aj hHeld ?_
   refine tks 8 8 170 aj hHeld ?_
   refine tks 9 9 171 aj hHeld ?_
   refine tks 10 10 172 aj hHeld ?_
   refine tks 11 11 173 aj hHeld ?_
   refine tks 12 12 174 aj hHeld ?_
   refine tks 13 13 175 aj hHeld ?_
   refine tks 14 14 176 aj hHeld ?_
   refine tks 15 15 177 aj hHeld ?_
   refine tks 16 16 178 aj hHeld ?_
   refine tks 17 17 179 aj hHeld ?_
   refine tks 18 18 180 aj hHeld ?_
   refine tks 19 19 181 aj hHeld ?_
   refine tks 20 20 182 aj hHeld ?_
   refine tks 21 21 183 aj hHeld ?_
   refine tks 22 22 184 aj hHeld ?_
   refine tks 23 23 185 aj hHeld ?_
   refine tks 24 24 186 aj hHeld ?_
   refine tks 25 25 187 aj hHeld ?_
   refine tks 26 26 188 aj hHeld ?_
   refine tks 27 27 189 aj hHeld ?_
   refine tks 28 28 190 aj hHeld ?_
   refine tks 29 29 191 aj hHeld ?_
   refine tks 30 30 192 aj hHeld ?_
   refine cls 31 31 aj (by decide) rfl rfl (fun K hK=>?_)
   go_simp
   refine (Jp _ bq _ afG.out (by omega)).mono ?_
   rintro e wz ⟨u,rfl,⟨cs,hcs,hE⟩,Bz⟩
   subst hcs
   obtain ⟨o0,iy,jD,o1,iA,jE,o2,iB,jF,hcs⟩:=JH hE
   subst hcs
   have xQ:Hid (Below w.heap.size w wz):=Below.step vD.out Bz
   have oD:Hid _:=ay Bz iX.out
   have sz:=Bz.size
   have bI:Hid (jo wz w2.drew.heap.size (.agg #[.int .i64 0,.int .i64 uid,.slice o0 iy jD,.int .i64 bq.valid,.int .i64 bq.next,.int .i64 bq.seq,.slice o1 iA jE,.slice o2 iB jF,.int .i64 bq.lost,.slice none 0 0]) ⟨0,uid,bq,[]⟩):=by
    refine ⟨fun w' hs' hk'=>?_,_,_,_,_,_,_,_,_,_,_,rfl,.inl ⟨rfl,rfl⟩⟩
    obtain ⟨z0,z1,z2,ez,zz⟩:=(gq _ _ _ _ _ hE fun k h1 h2=>hk' k h1.1 h2).rd
    simp only [List.cons.injEq,and_true,true_and] at ez
    obtain ⟨rfl,rfl,rfl⟩:=ez
    exact ⟨_,_,_,_,rfl,⟨_,_,_,rfl,zz⟩,Rd.nil _,aI,HI.out.1⟩
   clear hE
   refine hK.out _ _ (⟨(Bz.cell (p:=⟨g,_,none⟩) hgd).trans d0,(Bz.cell (p:=⟨g,_,none⟩) hgd).trans d1,(Bz.cell (p:=⟨g,_,none⟩) hgd).trans d2,(Bz.cell (p:=⟨g,_,none⟩) hgd).trans d3,(Bz.cell (p:=⟨g,_,none⟩) hgd).trans d4,(Bz.cell (p:=⟨g,_,none⟩) hgd).trans d6,(Bz.cell (p:=⟨w.heap.size,_,none⟩) hld).trans q3⟩) (fun hHeld=>?_)
   clear hK K
   refine tks 32 32 194 aj hHeld ?_
   refine gL (S':=fun w'=>True) 33 34 aj (by decide) (trivial) (fun hHeld=>?_)
   refine cls 33 33 aj (by decide) rfl rfl (fun K hK=>?_)
   obtain ⟨r0,r1,r2,r3,r4,r5,r6,r7,r8,r9⟩:=aM oD.out
   have fz:∀ i,wz.frozen? ⟨w.heap.size+1,i,none⟩=false:=fun i=>frozen_of_row wz _ i _ _ oD.out
   have hlr:=lt_of_heap oD.out
   have HF:Hid _:=wL (w:=w) (ga:=ga) (S:=S0) (S':=S0) oD.out (by omega) (aT.below xQ.out) a (HP.out _ xQ.out) gY (fun h=>by have:=HSL.out _ h;omega) _ (.int .i64 0) (.int .i64 uid) (.slice o0 iy jD) (.int .i64 bq.valid) (.int .i64 bq.next) (.int .i64 bq.seq) (.slice o1 iA jE) (.slice o2 iB jF) (.int .i64 bq.lost) (.slice none 0 0) bI.out (by show w.heap.size+1 < w2.heap.size;omega)
   go_simp
   refine hK.out _ _ (trivial) (fun hHeld=>?_)
   clear hK K
   refine eG aj ?_
   go_wp2
   obtain ⟨f0,f1,f2,f3,f4,f5,f6,f7,f8,f9⟩:=aM HF.out.1
   refine bodyPost_ret (v:=.agg #[.int .i64 0,.int .i64 uid,.slice o0 iy jD,.int .i64 bq.valid,.int .i64 bq.next,.int .i64 bq.seq,.slice o1 iA jE,.slice o2 iB jF,.int .i64 bq.lost,.slice none 0 0]) (by simp [results,Tryz.results24,go_sem,f0,f1,f2,f3,f4,f5,f6,f7,f8,f9]) rfl ⟨_,S0,rfl,HF.out.2.2.2,aT.wide HF.out.2.1 dU.out,HF.out.2.2.1,fun k h=>.inl (dU.out k h)⟩
end Go.Proofs.YtlneebmlhblleaaGreat
