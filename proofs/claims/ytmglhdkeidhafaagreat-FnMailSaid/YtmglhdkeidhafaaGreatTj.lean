/- The proof's texts, part 19. -/
import Derived.Test.YtmglhdkeidhafaaGreatTh
namespace Go.Proofs.YtmglhdkeidhafaaGreat
open Go.RowKit
set_option linter.unusedVariables false
set_option linter.unusedSimpArgs false
set_option maxHeartbeats 4000000
set_option maxRecDepth 100000
/- What PU of package spec does where it creates nothing. -/
theorem XR (ga:Nat) (a:aF) (S:Nat→Prop) (nv:Value) (nm:List Int) (w:World) (hp:aS w S ga a) (iL:Bs w nv nm) (hbl:a.boxes.length≤2000000) (hf:0≤bC (fun x:aA=>decide (x.name=nm)) a.boxes) :
  Calls Tryz.prog 86 #[.pointer (some ⟨ga,0,none⟩),nv] w fun e w'=>∃ u,e=.returned u∧je w' u (aN 2 0)∧Below w.heap.size w w'∧aS w' S ga a:=by
 have HP:Hid (∀ w',Below w.heap.size w w'→aS w' S ga a):=fun w' h=>hp.below h
 have HN:Hid (∀ w',Below w.heap.size w w'→Bs w' nv nm):=fun w' h=>iL.below h
 have bE:=hp.lt
 obtain ⟨q0,q1,q2,rfl⟩:=iL.aG
 clear hp iL
 have HB:Hid (Below w.heap.size w (w.alloc (.cells #[.int .i64 0,.int .i64 0,.slice none 0 0,.int .i64 0,.int .i64 0,.int .i64 0,.slice none 0 0,.slice none 0 0,.int .i64 0,.slice none 0 0] 37))):=bn _ _
 have HK:Hid ((w.alloc (.cells #[.int .i64 0,.int .i64 0,.slice none 0 0,.int .i64 0,.int .i64 0,.int .i64 0,.slice none 0 0,.slice none 0 0,.int .i64 0,.slice none 0 0] 37)).heap[w.heap.size]?=some (.cells #[.int .i64 0,.int .i64 0,.slice none 0 0,.int .i64 0,.int .i64 0,.int .i64 0,.slice none 0 0,.slice none 0 0,.int .i64 0,.slice none 0 0] 37 (0,0))):=aW w _
 go_enter Tryz.func86,Tryz.ntmps86
 go_upto_region 1 with fail
 generalize w.alloc (.cells #[.int .i64 0,.int .i64 0,.slice none 0 0,.int .i64 0,.int .i64 0,.int .i64 0,.slice none 0 0,.slice none 0 0,.int .i64 0,.slice none 0 0] 37)=W at HB HK ⊢
 obtain ⟨u0,u1,c0,c1,c2,hb,hv⟩:=(HP.out W HB.out).cells
 have hl2:ga < W.heap.size:=Nat.lt_of_lt_of_le bE HB.out.size
 have HV:Hid _:=hv
 obtain ⟨e0,e1,rfl,-⟩:=hb.v.form
 clear hb hv
 go_wp2_with fail
 refine (uj _ _ a nm _ HV.out (HN.out _ HB.out) hbl).mono ?_
 rintro e w1 ⟨rfl,B1⟩
 have HB1:Hid (Below w.heap.size w w1):=Below.step HB.out B1
 have gW:Hid _:=aB B1 HK.out
 have d0:w1.cell? ⟨ga,0,none⟩=some (.int .i64 a.valid):=(B1.cell (p:=⟨ga,0,none⟩) hl2).trans c0
 have d1:w1.cell? ⟨ga,1,none⟩=some (.slice e0 a.boxes.length e1):=(B1.cell (p:=⟨ga,1,none⟩) hl2).trans c1
 have hl3:ga < w1.heap.size:=Nat.lt_of_lt_of_le hl2 B1.size
 clear B1 HK c0 c1 c2 HV HN
 generalize bC (fun x:aA=>decide (x.name=nm)) a.boxes=fi at *
 obtain ⟨r0,r1,r2,r3,r4,r5,r6,r7,r8,r9⟩:=aO gW.out
 have fz:∀ i,w1.frozen? ⟨w.heap.size,i,none⟩=false:=fun i=>frozen_of_row w1 _ i _ _ gW.out
 have hlr:=lt_of_heap gW.out
 have HF:Hid _:=oD (w:=w) gW.out (Nat.le_refl _) HB1.out 2 0
 go_wp2
 have ff:=aO HF.out.1
 refine bodyPost_ret (v:=.agg #[.int .i64 2,.int .i64 0,.slice none 0 0,.int .i64 0,.int .i64 0,.int .i64 0,.slice none 0 0,.slice none 0 0,.int .i64 0,.slice none 0 0]) (by simp [results,Tryz.results86,go_sem,ff]) rfl ⟨_,rfl,?_,HF.out.2,HP.out _ HF.out.2⟩
 exact ⟨_,_,_,_,rfl,⟨_,_,_,rfl,mD _,Rd.nil _,Rd.nil _,aI,aI,aI,aI⟩,⟨rfl,rfl⟩,⟨by decide,by decide⟩,aI⟩
theorem XU (ga:Nat) (a:aF) (S:Nat→Prop) (nv:Value) (nm:List Int) (w:World) (hp:aS w S ga a) (iL:Bs w nv nm) (hbl:a.boxes.length≤2000000) (hf:bC (fun x:aA=>decide (x.name=nm)) a.boxes < 0) (h4:4≤a.boxes.length) :
  Calls Tryz.prog 86 #[.pointer (some ⟨ga,0,none⟩),nv] w fun e w'=>∃ u,e=.returned u∧je w' u (aN 3 0)∧Below w.heap.size w w'∧aS w' S ga a:=by
 have HP:Hid (∀ w',Below w.heap.size w w'→aS w' S ga a):=fun w' h=>hp.below h
 have HN:Hid (∀ w',Below w.heap.size w w'→Bs w' nv nm):=fun w' h=>iL.below h
 have bE:=hp.lt
 obtain ⟨q0,q1,q2,rfl⟩:=iL.aG
 clear hp iL
 have HB:Hid (Below w.heap.size w (w.alloc (.cells #[.int .i64 0,.int .i64 0,.slice none 0 0,.int .i64 0,.int .i64 0,.int .i64 0,.slice none 0 0,.slice none 0 0,.int .i64 0,.slice none 0 0] 37))):=bn _ _
 have HK:Hid ((w.alloc (.cells #[.int .i64 0,.int .i64 0,.slice none 0 0,.int .i64 0,.int .i64 0,.int .i64 0,.slice none 0 0,.slice none 0 0,.int .i64 0,.slice none 0 0] 37)).heap[w.heap.size]?=some (.cells #[.int .i64 0,.int .i64 0,.slice none 0 0,.int .i64 0,.int .i64 0,.int .i64 0,.slice none 0 0,.slice none 0 0,.int .i64 0,.slice none 0 0] 37 (0,0))):=aW w _
 go_enter Tryz.func86,Tryz.ntmps86
 go_upto_region 1 with fail
 generalize w.alloc (.cells #[.int .i64 0,.int .i64 0,.slice none 0 0,.int .i64 0,.int .i64 0,.int .i64 0,.slice none 0 0,.slice none 0 0,.int .i64 0,.slice none 0 0] 37)=W at HB HK ⊢
 obtain ⟨u0,u1,c0,c1,c2,hb,hv⟩:=(HP.out W HB.out).cells
 have hl2:ga < W.heap.size:=Nat.lt_of_lt_of_le bE HB.out.size
 have HV:Hid _:=hv
 obtain ⟨e0,e1,rfl,-⟩:=hb.v.form
 clear hb hv
 go_wp2_with fail
 refine (uj _ _ a nm _ HV.out (HN.out _ HB.out) hbl).mono ?_
 rintro e w1 ⟨rfl,B1⟩
 have HB1:Hid (Below w.heap.size w w1):=Below.step HB.out B1
 have gW:Hid _:=aB B1 HK.out
 have d0:w1.cell? ⟨ga,0,none⟩=some (.int .i64 a.valid):=(B1.cell (p:=⟨ga,0,none⟩) hl2).trans c0
 have d1:w1.cell? ⟨ga,1,none⟩=some (.slice e0 a.boxes.length e1):=(B1.cell (p:=⟨ga,1,none⟩) hl2).trans c1
 have hl3:ga < w1.heap.size:=Nat.lt_of_lt_of_le hl2 B1.size
 clear B1 HK c0 c1 c2 HV HN
 generalize bC (fun x:aA=>decide (x.name=nm)) a.boxes=fi at *
 obtain ⟨r0,r1,r2,r3,r4,r5,r6,r7,r8,r9⟩:=aO gW.out
 have fz:∀ i,w1.frozen? ⟨w.heap.size,i,none⟩=false:=fun i=>frozen_of_row w1 _ i _ _ gW.out
 have hlr:=lt_of_heap gW.out
 have PV:(4:Int)≤(a.boxes.length:Int):=by omega
 have HF:Hid _:=oD (w:=w) gW.out (Nat.le_refl _) HB1.out 3 0
 go_wp2
 have ff:=aO HF.out.1
 refine bodyPost_ret (v:=.agg #[.int .i64 3,.int .i64 0,.slice none 0 0,.int .i64 0,.int .i64 0,.int .i64 0,.slice none 0 0,.slice none 0 0,.int .i64 0,.slice none 0 0]) (by simp [results,Tryz.results86,go_sem,ff]) rfl ⟨_,rfl,?_,HF.out.2,HP.out _ HF.out.2⟩
 exact ⟨_,_,_,_,rfl,⟨_,_,_,rfl,mD _,Rd.nil _,Rd.nil _,aI,aI,aI,aI⟩,⟨rfl,rfl⟩,⟨by decide,by decide⟩,aI⟩
theorem XV (ga:Nat) (a:aF) (S:Nat→Prop) (nv:Value) (nm:List Int) (w:World) (hp:aS w S ga a) (iL:Bs w nv nm) (hbl:a.boxes.length≤2000000) (hf:bC (fun x:aA=>decide (x.name=nm)) a.boxes < 0) (h4:¬ 4≤a.boxes.length) (hv:1000000≤a.valid) :
  Calls Tryz.prog 86 #[.pointer (some ⟨ga,0,none⟩),nv] w fun e w'=>∃ u,e=.returned u∧je w' u (aN 3 0)∧Below w.heap.size w w'∧aS w' S ga a:=by
 have HP:Hid (∀ w',Below w.heap.size w w'→aS w' S ga a):=fun w' h=>hp.below h
 have HN:Hid (∀ w',Below w.heap.size w w'→Bs w' nv nm):=fun w' h=>iL.below h
 have bE:=hp.lt
 obtain ⟨q0,q1,q2,rfl⟩:=iL.aG
 clear hp iL
 have HB:Hid (Below w.heap.size w (w.alloc (.cells #[.int .i64 0,.int .i64 0,.slice none 0 0,.int .i64 0,.int .i64 0,.int .i64 0,.slice none 0 0,.slice none 0 0,.int .i64 0,.slice none 0 0] 37))):=bn _ _
 have HK:Hid ((w.alloc (.cells #[.int .i64 0,.int .i64 0,.slice none 0 0,.int .i64 0,.int .i64 0,.int .i64 0,.slice none 0 0,.slice none 0 0,.int .i64 0,.slice none 0 0] 37)).heap[w.heap.size]?=some (.cells #[.int .i64 0,.int .i64 0,.slice none 0 0,.int .i64 0,.int .i64 0,.int .i64 0,.slice none 0 0,.slice none 0 0,.int .i64 0,.slice none 0 0] 37 (0,0))):=aW w _
 go_enter Tryz.func86,Tryz.ntmps86
 go_upto_region 1 with fail
 generalize w.alloc (.cells #[.int .i64 0,.int .i64 0,.slice none 0 0,.int .i64 0,.int .i64 0,.int .i64 0,.slice none 0 0,.slice none 0 0,.int .i64 0,.slice none 0 0] 37)=W at HB HK ⊢
 obtain ⟨u0,u1,c0,c1,c2,hb,hv⟩:=(HP.out W HB.out).cells
 have hl2:ga < W.heap.size:=Nat.lt_of_lt_of_le bE HB.out.size
 have HV:Hid _:=hv
 obtain ⟨e0,e1,rfl,-⟩:=hb.v.form
 clear hb hv
 go_wp2_with fail
 refine (uj _ _ a nm _ HV.out (HN.out _ HB.out) hbl).mono ?_
 rintro e w1 ⟨rfl,B1⟩
 have HB1:Hid (Below w.heap.size w w1):=Below.step HB.out B1
 have gW:Hid _:=aB B1 HK.out
 have d0:w1.cell? ⟨ga,0,none⟩=some (.int .i64 a.valid):=(B1.cell (p:=⟨ga,0,none⟩) hl2).trans c0
 have d1:w1.cell? ⟨ga,1,none⟩=some (.slice e0 a.boxes.length e1):=(B1.cell (p:=⟨ga,1,none⟩) hl2).trans c1
 have hl3:ga < w1.heap.size:=Nat.lt_of_lt_of_le hl2 B1.size
 clear B1 HK c0 c1 c2 HV HN
 generalize bC (fun x:aA=>decide (x.name=nm)) a.boxes=fi at *
 obtain ⟨r0,r1,r2,r3,r4,r5,r6,r7,r8,r9⟩:=aO gW.out
 have fz:∀ i,w1.frozen? ⟨w.heap.size,i,none⟩=false:=fun i=>frozen_of_row w1 _ i _ _ gW.out
 have hlr:=lt_of_heap gW.out
 have PV:(a.boxes.length:Int) < 4:=by omega
 have HF:Hid _:=oD (w:=w) gW.out (Nat.le_refl _) HB1.out 3 0
 go_wp2
 have ff:=aO HF.out.1
 refine bodyPost_ret (v:=.agg #[.int .i64 3,.int .i64 0,.slice none 0 0,.int .i64 0,.int .i64 0,.int .i64 0,.slice none 0 0,.slice none 0 0,.int .i64 0,.slice none 0 0]) (by simp [results,Tryz.results86,go_sem,ff]) rfl ⟨_,rfl,?_,HF.out.2,HP.out _ HF.out.2⟩
 exact ⟨_,_,_,_,rfl,⟨_,_,_,rfl,mD _,Rd.nil _,Rd.nil _,aI,aI,aI,aI⟩,⟨rfl,rfl⟩,⟨by decide,by decide⟩,aI⟩
end Go.Proofs.YtmglhdkeidhafaaGreat
