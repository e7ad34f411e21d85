/- The proof's texts, part 16. -/
import Derived.Test.YtnlhkgoppjejeaaDoorPart8
import Derived.Test.YtnlhkgoppjejeaaDoorPart4
import Derived.Test.YtnlhkgoppjejeaaDoorPart15
import Derived.Test.YtnlhkgoppjejeaaDoorPart2
import Derived.Deep.RegionHeld3
import Derived.Deep.QuietTactic
import Derived.BigQuiet

/- What AccountOk of package spec do. -/
namespace Go.Proofs.YtnlhkgoppjejeaaDoor
open Go.RowKit
set_option maxRecDepth 100000
set_option linter.unusedVariables false
set_option linter.unusedSimpArgs false

theorem seenNo {q n:Int} (hq:0≤q) (h:n < 1∨1000000 < n∨n≤q):inB n (q+1) 1000000=false:=by
 rw [Bool.eq_false_iff]
 intro e
 simp only [inB,Bool.and_eq_true,decide_eq_true_eq] at e
 omega
theorem seenYes {q n:Int} (h0:q < n) (h1:n≤1000000):inB n (q+1) 1000000=true:=by
 simp only [inB,Bool.and_eq_true,decide_eq_true_eq]
 omega
theorem str_toList (l:List Int):(strOfNums l).toList=bts l:=by
 rw [ByteArray.toList_eq]
 rfl

set_option maxRecDepth 100000 in
set_option maxHeartbeats 40000000 in
theorem specAccountOk_in (v:Value) (x:AccD) (w:World) (hv:AccV w v x) (q0:0≤x.valid) (q1:x.valid≤1000000) (q2:(x.boxes.length:Int)≤4) (q3:(x.seen.length:Int)≤60) :
  Calls Tryd.prog 6 #[v] w fun e w'=>e=.returned (.bool (accB x))∧Below w.heap.size w w':=by
 have HNB:Hid ((List.range x.boxes.length).all (boxAt x)=false→accB x=false):=fun h=>by simp [accB,h]
 have HNS:Hid ((List.range x.seen.length).all (seenAt x.seen)=false→accB x=false):=fun h=>by simp [accB,seenB,h]
 obtain ⟨u0,u1,rfl,g0,g1,i0⟩:=hv
 have H0:Hid (∀ wi,Below w.heap.size w wi→BoxesV wi u0 x.boxes∧IntsV wi u1 x.seen):=fun wi h=>⟨g0.below keepsBox h,g1.below keepsInt h⟩
 obtain ⟨a0,c0,rfl,m0,m1⟩:=g0.form
 obtain ⟨a1,c1,rfl,m2,m3⟩:=g1.form
 clear g0 g1
 have HK:Hid ((w.alloc (.cells #[.int .i64 x.valid,.slice a0 x.boxes.length c0,.slice a1 x.seen.length c1] 26)).heap[w.heap.size]?=some (.cells #[.int .i64 x.valid,.slice a0 x.boxes.length c0,.slice a1 x.seen.length c1] 26)):=box_new w _
 have HX:Hid (Below w.heap.size w (w.alloc (.cells #[.int .i64 x.valid,.slice a0 x.boxes.length c0,.slice a1 x.seen.length c1] 26))):=(Below.refl _ _).alloc (Nat.le_refl _) _
 go_enter Tryd.func6,Tryd.ntmps6
 go_wp2
 go_loopw [3,4] (fun i _ wr=>∃ k:Nat,k≤x.boxes.length∧i=.int .i64 k∧Hid (∀ j,j < k→boxAt x j=true)∧Hid (wr.heap[w.heap.size]?=some (.cells #[.int .i64 x.valid,.slice a0 x.boxes.length c0,.slice a1 x.seen.length c1] 26))∧Hid (Below w.heap.size w wr)) (fun i _ _=>x.boxes.length - (intOf i).toNat)
 case atStart=>exact ⟨0,Nat.zero_le _,rfl,(fun j hj=>absurd hj (Nat.not_lt_zero _)),HK,HX⟩
 case round =>
  obtain ⟨k,hk,rfl,hA,hK,hB⟩:=hrel
  obtain ⟨e0,e1,e2⟩:=bx3 hK.out
  have hlA:=lt_of_heap hK.out
  by_cases hlt:k < x.boxes.length
  ·obtain ⟨m,hm⟩:∃ m,x.boxes[k]?=some m:=⟨x.boxes[k],List.getElem?_eq_getElem hlt⟩
   obtain ⟨b,off,cap',u0,u1,u2,hv',hlb,d0,d1,d2,d3,d4,d5,d6,hu0,hu1,hu2,j0,j1,j2,j3⟩:=BoxesV.cell (H0.out wr hB.out).1 k m hm
   simp only [Value.slice.injEq,true_and] at hv'
   obtain ⟨rfl,rfl⟩:=hv'
   obtain ⟨ua,un,uc,rfl⟩:=hu0.form3
   obtain ⟨va,vc,rfl,-⟩:=hu1.form
   obtain ⟨wa,wc,rfl,-⟩:=hu2.form
   have HBV:Hid (∀ wi,Below wr.heap.size wr wi→BoxV wi (.agg #[.slice ua un uc,.int .i64 m.valid,.int .i64 m.next,.int .i64 m.seq,.slice va m.mails.length vc,.slice wa m.gones.length wc,.int .i64 m.lost]) m):=fun wi h=>⟨_,_,_,rfl,hu0.below h,hu1.below keepsMail h,hu2.below keepsGone h,j0,j1,j2,j3⟩
   have HU0:Hid (Bs wr (.slice ua un uc) m.name):=hu0
   clear hu0 hu1 hu2
   have HE:Hid (boxAt x k=(boxB m x.valid && (aheadB x.boxes m k && !((x.boxes.take k).any fun o=>decide (o.valid=m.valid))))):=by simp [Hid,boxAt,hm]
   have HM:Hid (x.boxes[k]?=some m):=hm
   clear hm
   have HC1:=fun wi (h:BoxV wi (.agg #[.slice ua un uc,.int .i64 m.valid,.int .i64 m.next,.int .i64 m.seq,.slice va m.mails.length vc,.slice wa m.gones.length wc,.int .i64 m.lost]) m)=>l3boxOk_any _ m x.valid wi h
   generalize boxB m x.valid=X1 at HE HC1
   have DR:Below wr.heap.size wr wr.drew:=(Below.refl _ _).drew
   have hkL:(k:Int) < (x.boxes.length:Int):=by omega
   have HF:Hid (∀ w',Below wr.heap.size wr w'→w'.cell? ⟨w.heap.size,0,none⟩=some (.int .i64 x.valid)∧w'.cell? ⟨w.heap.size,1,none⟩=some (.slice (some ⟨b,off,none⟩) x.boxes.length c0)∧w'.cell? ⟨b,off+k * 7,none⟩=some (.slice ua un uc)∧w'.cell? ⟨b,off+k * 7+1,none⟩=some (.int .i64 m.valid)∧w'.cell? ⟨b,off+k * 7+2,none⟩=some (.int .i64 m.next)∧w'.cell? ⟨b,off+k * 7+3,none⟩=some (.int .i64 m.seq)∧w'.cell? ⟨b,off+k * 7+4,none⟩=some (.slice va m.mails.length vc)∧w'.cell? ⟨b,off+k * 7+5,none⟩=some (.slice wa m.gones.length wc)∧w'.cell? ⟨b,off+k * 7+6,none⟩=some (.int .i64 m.lost)):=by
    intro w' h
    obtain ⟨s0,s1,s2⟩:=bx3 (box_below h hK.out)
    exact ⟨s0,s1,(h.cell (p:=⟨b,_,none⟩) hlb).trans d0,(h.cell (p:=⟨b,_,none⟩) hlb).trans d1,(h.cell (p:=⟨b,_,none⟩) hlb).trans d2,(h.cell (p:=⟨b,_,none⟩) hlb).trans d3,(h.cell (p:=⟨b,_,none⟩) hlb).trans d4,(h.cell (p:=⟨b,_,none⟩) hlb).trans d5,(h.cell (p:=⟨b,_,none⟩) hlb).trans d6⟩
   cases X1 with
   | false =>
    go_wp2
    refine wp_region_held_drew (S:=fun w'=>w'.cell? ⟨w.heap.size,0,none⟩=some (.int .i64 x.valid)∧w'.cell? ⟨w.heap.size,1,none⟩=some (.slice (some ⟨b,off,none⟩) x.boxes.length c0)∧w'.cell? ⟨b,off+k * 7,none⟩=some (.slice ua un uc)∧w'.cell? ⟨b,off+k * 7+1,none⟩=some (.int .i64 m.valid)∧w'.cell? ⟨b,off+k * 7+2,none⟩=some (.int .i64 m.next)∧w'.cell? ⟨b,off+k * 7+3,none⟩=some (.int .i64 m.seq)∧w'.cell? ⟨b,off+k * 7+4,none⟩=some (.slice va m.mails.length vc)∧w'.cell? ⟨b,off+k * 7+5,none⟩=some (.slice wa m.gones.length wc)∧w'.cell? ⟨b,off+k * 7+6,none⟩=some (.int .i64 m.lost)) (by kernel_rfl) (HF.out _ DR) (fun hHeld=>(show wpAnyH _ _ _ _ _ 31 #[false,false,false,false,false,false,false,false,false,false,false,false,false,false,false,false,false,false,false,false,false,false,false,false,false,false,false,false,false,false,false] _ _ from ?_))
    refine tq 0 33 hHeld ?_
    refine tq 1 34 hHeld ?_
    refine tq 2 35 hHeld ?_
    refine tq 3 36 hHeld ?_
    refine tq 4 37 hHeld ?_
    refine tq 5 38 hHeld ?_
    refine tq 6 39 hHeld ?_
    refine wpAnyH_ready (rs:=[7]) (by kernel_rfl) (by simp) ?_
    refine AllReadyH.cons rfl (fun K hK=>?_) AllReadyH.nil
    go_simp
    refine (HC1 _ (HBV.out _ DR)).mono ?_
    rintro e w1 ⟨rfl,B⟩
    refine hK.out _ _ (HF.out _ (Below.step DR B)) (fun hHeld=>?_)
    clear hK K
    refine tq 8 41 hHeld ?_
    refine tq 9 42 hHeld ?_
    refine wpAnyH_skips (by kernel_rfl) (fun _ _ _ _ _ h=>h) hHeld [10,11,12,13,14,15,16,17,18,19,20,21,22,23,24,25,26,27,28,29] [43,44,45,46,47,48,49,50,51,52,53,54,55,56,57,58,59,60,61,62] _ _ _ (by kernel_rfl) ?_
    simp only [List.foldl_cons,List.foldl_nil,Act.put,sA,s0,sS]
    refine tq 30 63 hHeld ?_
    refine wpAnyH_done (by kernel_rfl) ?_ _
    clear HC1 HF HBV
    repeat clear hHeld
    go_wp2
    go_ret
    exact ⟨ret_b (HNB.out (rangeAll_no k hlt (HE.out.trans rfl))),Below.step (Below.step hB.out DR) B⟩
   | true =>
    by_cases hkz:(0:Int) < (k:Int)
    ·obtain ⟨j,hj⟩:∃ j,k=j+1:=⟨k - 1,by omega⟩
     have hjk:(j:Int) < (k:Int):=by omega
     have hjl:(j:Int) < (x.boxes.length:Int):=by omega
     have hj0:(0:Int)≤(j:Int):=by omega
     have hw1:IntKind.i64.wrap ((k:Int) - 1)=(j:Int):=by rw [IntWalk.i64_in _ (by omega)];omega
     have hkN:0 < k:=by omega
     have hd:decide (0 < k)=true:=by simpa using hkN
     have HJ:Hid (k=j+1):=hj
     clear hj
     obtain ⟨m',hm'⟩:∃ m',x.boxes[j]?=some m':=⟨x.boxes[j]'(by have:=HJ.out;omega),List.getElem?_eq_getElem (by have:=HJ.out;omega)⟩
     obtain ⟨b2,off2,cap2,p0,p1,p2,hv2,hlb2,t0,-,-,-,-,-,-,hp0,-⟩:=BoxesV.cell (H0.out wr hB.out).1 j m' hm'
     simp only [Value.slice.injEq,true_and,Option.some.injEq,Addr.mk.injEq,and_true] at hv2
     obtain ⟨⟨rfl,rfl⟩,rfl⟩:=hv2
     obtain ⟨pa,pn,pc,rfl⟩:=hp0.form3
     have HAH:Hid (aheadB x.boxes m k=lessB m'.name m.name):=by rw [HJ.out];simp [Hid,aheadB,nameAt,hm']
     rw [HAH.out] at HE
     have HCVS:Hid (∀ w',Below wr.heap.size wr w'→(convert 22 9 (.slice pa pn pc)).run Tryd.prog w'=.ok (.string (strOfNums m'.name)) w'∧(convert 22 9 (.slice ua un uc)).run Tryd.prog w'=.ok (.string (strOfNums m.name)) w'):=fun w' h=>⟨run_convert_bs (hp0.below h),run_convert_bs (HU0.out.below h)⟩
     have HF2:Hid (∀ w',Below wr.heap.size wr w'→w'.cell? ⟨w.heap.size,0,none⟩=some (.int .i64 x.valid)∧w'.cell? ⟨w.heap.size,1,none⟩=some (.slice (some ⟨b,off,none⟩) x.boxes.length c0)∧w'.cell? ⟨b,off+k * 7,none⟩=some (.slice ua un uc)∧w'.cell? ⟨b,off+k * 7+1,none⟩=some (.int .i64 m.valid)∧w'.cell? ⟨b,off+k * 7+2,none⟩=some (.int .i64 m.next)∧w'.cell? ⟨b,off+k * 7+3,none⟩=some (.int .i64 m.seq)∧w'.cell? ⟨b,off+k * 7+4,none⟩=some (.slice va m.mails.length vc)∧w'.cell? ⟨b,off+k * 7+5,none⟩=some (.slice wa m.gones.length wc)∧w'.cell? ⟨b,off+k * 7+6,none⟩=some (.int .i64 m.lost)∧w'.cell? ⟨b,off+j * 7,none⟩=some (.slice pa pn pc)∧(convert 22 9 (.slice pa pn pc)).run Tryd.prog w'=.ok (.string (strOfNums m'.name)) w'∧(convert 22 9 (.slice ua un uc)).run Tryd.prog w'=.ok (.string (strOfNums m.name)) w'):=by
      intro w' h
      obtain ⟨s0,s1,r0,r1,r2,r3,r4,r5,r6⟩:=HF.out w' h
      exact ⟨s0,s1,r0,r1,r2,r3,r4,r5,r6,(h.cell (p:=⟨b,_,none⟩) hlb).trans t0,HCVS.out w' h⟩
     have HLB:Hid (Op.bytesLess (strOfNums m'.name).toList (strOfNums m.name).toList=lessB m'.name m.name):=by simp only [Hid,lessB,str_toList]
     clear hm' HAH hp0
     generalize hL:lessB m'.name m.name=L at HE HLB
     clear hL
     cases L with
     | false =>
      have hb:=HLB.out
      clear HLB
      go_wp2
      refine wp_region_held_drew (S:=fun w'=>w'.cell? ⟨w.heap.size,0,none⟩=some (.int .i64 x.valid)∧w'.cell? ⟨w.heap.size,1,none⟩=some (.slice (some ⟨b,off,none⟩) x.boxes.length c0)∧w'.cell? ⟨b,off+k * 7,none⟩=some (.slice ua un uc)∧w'.cell? ⟨b,off+k * 7+1,none⟩=some (.int .i64 m.valid)∧w'.cell? ⟨b,off+k * 7+2,none⟩=some (.int .i64 m.next)∧w'.cell? ⟨b,off+k * 7+3,none⟩=some (.int .i64 m.seq)∧w'.cell? ⟨b,off+k * 7+4,none⟩=some (.slice va m.mails.length vc)∧w'.cell? ⟨b,off+k * 7+5,none⟩=some (.slice wa m.gones.length wc)∧w'.cell? ⟨b,off+k * 7+6,none⟩=some (.int .i64 m.lost)∧w'.cell? ⟨b,off+j * 7,none⟩=some (.slice pa pn pc)∧(convert 22 9 (.slice pa pn pc)).run Tryd.prog w'=.ok (.string (strOfNums m'.name)) w'∧(convert 22 9 (.slice ua un uc)).run Tryd.prog w'=.ok (.string (strOfNums m.name)) w') (by kernel_rfl) (HF2.out _ DR) (fun hHeld=>(show wpAnyH _ _ _ _ _ 31 #[false,false,false,false,false,false,false,false,false,false,false,false,false,false,false,false,false,false,false,false,false,false,false,false,false,false,false,false,false,false,false] _ _ from ?_))
      refine tq 0 33 hHeld ?_
      refine tq 1 34 hHeld ?_
      refine tq 2 35 hHeld ?_
      refine tq 3 36 hHeld ?_
      refine tq 4 37 hHeld ?_
      refine tq 5 38 hHeld ?_
      refine tq 6 39 hHeld ?_
      refine wpAnyH_ready (rs:=[7]) (by kernel_rfl) (by simp) ?_
      refine AllReadyH.cons rfl (fun K hK=>?_) AllReadyH.nil
      go_simp
      refine (HC1 _ (HBV.out _ DR)).mono ?_
      rintro e w1 ⟨rfl,B⟩
      refine hK.out _ _ (HF2.out _ (Below.step DR B)) (fun hHeld=>?_)
      clear hK K
      refine tq 8 41 hHeld ?_
      refine tq 9 42 hHeld ?_
      refine tq 10 43 hHeld ?_
      refine tq 11 44 hHeld ?_
      refine tq 12 45 hHeld ?_
      refine tq 13 46 hHeld ?_
      refine tq 14 47 hHeld ?_
      refine tq 15 48 hHeld ?_
      refine tq 16 49 hHeld ?_
      refine tq 17 50 hHeld ?_
      refine tq 18 51 hHeld ?_
      refine tq 19 52 hHeld ?_
      refine tq 20 53 hHeld ?_
      refine tq 21 54 hHeld ?_
      refine tq 22 55 hHeld ?_
      refine tq 23 56 hHeld ?_
      refine tq 24 57 hHeld ?_
      refine tq 25 58 hHeld ?_
      refine tq 26 59 hHeld ?_
      refine tq 27 60 hHeld ?_
      refine tq 28 61 hHeld ?_
      refine tq 29 62 hHeld ?_
      refine tq 30 63 hHeld ?_
      refine wpAnyH_done (by kernel_rfl) ?_ _
      clear HC1 HF HF2 HCVS HBV
      repeat clear hHeld
      go_wp2
      go_ret
      exact ⟨ret_b (HNB.out (rangeAll_no k hlt (HE.out.trans rfl))),Below.step (Below.step hB.out DR) B⟩
     | true =>
      have hb:=HLB.out
      clear HLB
      go_wp2
      refine wp_region_held_drew (S:=fun w'=>w'.cell? ⟨w.heap.size,0,none⟩=some (.int .i64 x.valid)∧w'.cell? ⟨w.heap.size,1,none⟩=some (.slice (some ⟨b,off,none⟩) x.boxes.length c0)∧w'.cell? ⟨b,off+k * 7,none⟩=some (.slice ua un uc)∧w'.cell? ⟨b,off+k * 7+1,none⟩=some (.int .i64 m.valid)∧w'.cell? ⟨b,off+k * 7+2,none⟩=some (.int .i64 m.next)∧w'.cell? ⟨b,off+k * 7+3,none⟩=some (.int .i64 m.seq)∧w'.cell? ⟨b,off+k * 7+4,none⟩=some (.slice va m.mails.length vc)∧w'.cell? ⟨b,off+k * 7+5,none⟩=some (.slice wa m.gones.length wc)∧w'.cell? ⟨b,off+k * 7+6,none⟩=some (.int .i64 m.lost)∧w'.cell? ⟨b,off+j * 7,none⟩=some (.slice pa pn pc)∧(convert 22 9 (.slice pa pn pc)).run Tryd.prog w'=.ok (.string (strOfNums m'.name)) w'∧(convert 22 9 (.slice ua un uc)).run Tryd.prog w'=.ok (.string (strOfNums m.name)) w') (by kernel_rfl) (HF2.out _ DR) (fun hHeld=>(show wpAnyH _ _ _ _ _ 31 #[false,false,false,false,false,false,false,false,false,false,false,false,false,false,false,false,false,false,false,false,false,false,false,false,false,false,false,false,false,false,false] _ _ from ?_))
      refine tq 0 33 hHeld ?_
      refine tq 1 34 hHeld ?_
      refine tq 2 35 hHeld ?_
      refine tq 3 36 hHeld ?_
      refine tq 4 37 hHeld ?_
      refine tq 5 38 hHeld ?_
      refine tq 6 39 hHeld ?_
      refine wpAnyH_ready (rs:=[7]) (by kernel_rfl) (by simp) ?_
      refine AllReadyH.cons rfl (fun K hK=>?_) AllReadyH.nil
      go_simp
      refine (HC1 _ (HBV.out _ DR)).mono ?_
      rintro e w1 ⟨rfl,B⟩
      refine hK.out _ _ (HF2.out _ (Below.step DR B)) (fun hHeld=>?_)
      clear hK K
      refine tq 8 41 hHeld ?_
      refine tq 9 42 hHeld ?_
      refine tq 10 43 hHeld ?_
      refine tq 11 44 hHeld ?_
      refine tq 12 45 hHeld ?_
      refine tq 13 46 hHeld ?_
      refine tq 14 47 hHeld ?_
      refine tq 15 48 hHeld ?_
      refine tq 16 49 hHeld ?_
      refine tq 17 50 hHeld ?_
      refine tq 18 51 hHeld ?_
      refine tq 19 52 hHeld ?_
      refine tq 20 53 hHeld ?_
      refine tq 21 54 hHeld ?_
      refine tq 22 55 hHeld ?_
      refine tq 23 56 hHeld ?_
      refine tq 24 57 hHeld ?_
      refine tq 25 58 hHeld ?_
      refine tq 26 59 hHeld ?_
      refine tq 27 60 hHeld ?_
      refine tq 28 61 hHeld ?_
      refine tq 29 62 hHeld ?_
      refine tq 30 63 hHeld ?_
      refine wpAnyH_done (by kernel_rfl) ?_ _
      repeat clear hHeld
      have HB1:Hid (Below w.heap.size w w1):=Below.step (Below.step hB.out DR) B
      have HK1:Hid (w1.heap[w.heap.size]?=some (.cells #[.int .i64 x.valid,.slice (some ⟨b,off,none⟩) x.boxes.length c0,.slice a1 x.seen.length c1] 26)):=box_below B (box_below DR hK.out)
      have HD1:Hid (∀ w',Below w1.heap.size w1 w'→∀ p y,x.boxes[p]?=some y→w'.cell? ⟨b,off+p * 7+1,none⟩=some (.int .i64 y.valid)):=by
       intro w' h p y hy
       obtain ⟨b3,off3,cap3,z0,z1,z2,hv3,-,-,t1,-⟩:=BoxesV.cell (H0.out w' (Below.step HB1.out h)).1 p y hy
       simp only [Value.slice.injEq,true_and,Option.some.injEq,Addr.mk.injEq,and_true] at hv3
       obtain ⟨⟨rfl,rfl⟩,rfl⟩:=hv3
       exact t1
      clear HC1 HF HBV B DR d0 d1 d2 d3 d4 d5 d6 e0 e1 e2 hK hB t0 HF2 HCVS hb
      go_wp2
      go_loopw [4] (fun i wr=>∃ q:Nat,q≤k∧i=.int .i64 q∧Hid (∀ p y,p < q→x.boxes[p]?=some y→y.valid≠m.valid)∧Hid (Below w1.heap.size w1 wr)) (fun i _=>k - (intOf i).toNat)
      case atStart=>exact ⟨0,Nat.zero_le _,rfl,(fun p y hp=>absurd hp (Nat.not_lt_zero _)),Below.refl _ _⟩
      case round =>
       rename_i wr0 _
       obtain ⟨q,hq,rfl,hV,hB2⟩:=hrel
       have hK2:=box_below hB2.out HK1.out
       obtain ⟨e0,e1,e2⟩:=bx3 hK2
       have hlA:=lt_of_heap hK2
       clear hK2
       by_cases hql:q < k
       ·obtain ⟨y,hy⟩:∃ y,x.boxes[q]?=some y:=⟨x.boxes[q]'(by omega),List.getElem?_eq_getElem (by omega)⟩
        have r0:=HD1.out _ hB2.out q y hy
        have r1:=HD1.out _ hB2.out k m HM.out
        have HY:Hid (x.boxes[q]?=some y):=hy
        clear hy
        have hqL:(q:Int) < (x.boxes.length:Int):=by omega
        have hkL:(k:Int) < (x.boxes.length:Int):=by omega
        by_cases he:y.valid=m.valid
        ·have he':(y.valid == m.valid)=true:=by simpa using he
         have HEQ:Hid (y.valid=m.valid):=he
         clear he
         go_wp2
         go_quiet (fail)
         go_wp2
         go_ret
         exact ⟨ret_b (HNB.out (rangeAll_no k hlt (HE.out.trans (by rw [List.any_eq_true.2 ⟨y,List.mem_of_getElem? (l:=x.boxes.take k) (by rw [List.getElem?_take,if_pos hql];exact HY.out),by simpa using HEQ.out⟩];simp)))),below_drewN _ (Below.step HB1.out hB2.out)⟩
        ·have he':(y.valid == m.valid)=false:=by simpa using he
         have HEQ:Hid (y.valid≠m.valid):=he
         clear he
         go_wp2
         go_quiet (fail)
         go_wp2
         go_roundw
         case rel =>
          refine ⟨q+1,by omega,by go_num,(show Hid _ from fun p z hp hz=>?_),below_drewN _ hB2.out⟩
          by_cases e:p=q
          ·subst e;rw [HY.out] at hz;cases hz;exact HEQ.out
          ·exact hV.out p z (by omega) hz
         case measure=>simp [intOf];omega
       ·obtain rfl:q=k:=by omega
        go_wp2
        go_roundw
        case rel =>
         refine ⟨q+1,by omega,by go_num,(show Hid _ from fun i hi=>?_),box_below hB2.out HK1.out,Below.step HB1.out hB2.out⟩
         by_cases e:i=q
         ·subst e
          refine HE.out.trans ?_
          have z:((x.boxes.take i).any fun o=>decide (o.valid=m.valid))=false:=by
           rw [List.any_eq_false]
           intro o ho
           obtain ⟨p,hp,rfl⟩:=List.getElem_of_mem ho
           have hp':p < i:=by simp at hp;omega
           have:=hV.out p (x.boxes[p]'(by omega)) hp' (List.getElem?_eq_getElem (by omega))
           simpa using this
          rw [z]
          simp
         ·exact hA.out i (by omega)
        case measure=>simp [intOf];omega
    ·have HAH:Hid (aheadB x.boxes m k=true):=by
      have:k=0:=by omega
      subst this;rfl
     rw [HAH.out] at HE
     have hkN:¬ 0 < k:=by omega
     have hd:decide (0 < k)=false:=by simpa using hkN
     clear HAH
     go_wp2
     refine wp_region_held_drew (S:=fun w'=>w'.cell? ⟨w.heap.size,0,none⟩=some (.int .i64 x.valid)∧w'.cell? ⟨w.heap.size,1,none⟩=some (.slice (some ⟨b,off,none⟩) x.boxes.length c0)∧w'.cell? ⟨b,off+k * 7,none⟩=some (.slice ua un uc)∧w'.cell? ⟨b,off+k * 7+1,none⟩=some (.int .i64 m.valid)∧w'.cell? ⟨b,off+k * 7+2,none⟩=some (.int .i64 m.next)∧w'.cell? ⟨b,off+k * 7+3,none⟩=some (.int .i64 m.seq)∧w'.cell? ⟨b,off+k * 7+4,none⟩=some (.slice va m.mails.length vc)∧w'.cell? ⟨b,off+k * 7+5,none⟩=some (.slice wa m.gones.length wc)∧w'.cell? ⟨b,off+k * 7+6,none⟩=some (.int .i64 m.lost)) (by kernel_rfl) (HF.out _ DR) (fun hHeld=>(show wpAnyH _ _ _ _ _ 31 #[false,false,false,false,false,false,false,false,false,false,false,false,false,false,false,false,false,false,false,false,false,false,false,false,false,false,false,false,false,false,false] _ _ from ?_))
     refine tq 0 33 hHeld ?_
     refine tq 1 34 hHeld ?_
     refine tq 2 35 hHeld ?_
     refine tq 3 36 hHeld ?_
     refine tq 4 37 hHeld ?_
     refine tq 5 38 hHeld ?_
     refine tq 6 39 hHeld ?_
     refine wpAnyH_ready (rs:=[7]) (by kernel_rfl) (by simp) ?_
     refine AllReadyH.cons rfl (fun K hK=>?_) AllReadyH.nil
     go_simp
     refine (HC1 _ (HBV.out _ DR)).mono ?_
     rintro e w1 ⟨rfl,B⟩
     refine hK.out _ _ (HF.out _ (Below.step DR B)) (fun hHeld=>?_)
     clear hK K
     refine tq 8 41 hHeld ?_
     refine tq 9 42 hHeld ?_
     refine tq 10 43 hHeld ?_
     refine tq 11 44 hHeld ?_
     refine tq 12 45 hHeld ?_
     refine wpAnyH_skips (by kernel_rfl) (fun _ _ _ _ _ h=>h) hHeld [13,14,15,16,17,18,19,20,21,22,23,24,25,26,27,28] [46,47,48,49,50,51,52,53,54,55,56,57,58,59,60,61] _ _ _ (by kernel_rfl) ?_
     simp only [List.foldl_cons,List.foldl_nil,Act.put,sA,s0,sS]
     refine tq 29 62 hHeld ?_
     refine tq 30 63 hHeld ?_
     refine wpAnyH_done (by kernel_rfl) ?_ _
     repeat clear hHeld
     have HB1:Hid (Below w.heap.size w w1):=Below.step (Below.step hB.out DR) B
     have HK1:Hid (w1.heap[w.heap.size]?=some (.cells #[.int .i64 x.valid,.slice (some ⟨b,off,none⟩) x.boxes.length c0,.slice a1 x.seen.length c1] 26)):=box_below B (box_below DR hK.out)
     have HD1:Hid (∀ w',Below w1.heap.size w1 w'→∀ p y,x.boxes[p]?=some y→w'.cell? ⟨b,off+p * 7+1,none⟩=some (.int .i64 y.valid)):=by
      intro w' h p y hy
      obtain ⟨b3,off3,cap3,z0,z1,z2,hv3,-,-,t1,-⟩:=BoxesV.cell (H0.out w' (Below.step HB1.out h)).1 p y hy
      simp only [Value.slice.injEq,true_and,Option.some.injEq,Addr.mk.injEq,and_true] at hv3
      obtain ⟨⟨rfl,rfl⟩,rfl⟩:=hv3
      exact t1
     clear HC1 HF HBV B DR d0 d1 d2 d3 d4 d5 d6 e0 e1 e2 hK hB
     go_wp2
     go_loopw [4] (fun i wr=>∃ q:Nat,q≤k∧i=.int .i64 q∧Hid (∀ p y,p < q→x.boxes[p]?=some y→y.valid≠m.valid)∧Hid (Below w1.heap.size w1 wr)) (fun i _=>k - (intOf i).toNat)
     case atStart=>exact ⟨0,Nat.zero_le _,rfl,(fun p y hp=>absurd hp (Nat.not_lt_zero _)),Below.refl _ _⟩
     case round =>
      rename_i wr0 _
      obtain ⟨q,hq,rfl,hV,hB2⟩:=hrel
      have hK2:=box_below hB2.out HK1.out
      obtain ⟨e0,e1,e2⟩:=bx3 hK2
      have hlA:=lt_of_heap hK2
      clear hK2
      by_cases hql:q < k
      ·obtain ⟨y,hy⟩:∃ y,x.boxes[q]?=some y:=⟨x.boxes[q]'(by omega),List.getElem?_eq_getElem (by omega)⟩
       have r0:=HD1.out _ hB2.out q y hy
       have r1:=HD1.out _ hB2.out k m HM.out
       have HY:Hid (x.boxes[q]?=some y):=hy
       clear hy
       have hqL:(q:Int) < (x.boxes.length:Int):=by omega
       have hkL:(k:Int) < (x.boxes.length:Int):=by omega
       by_cases he:y.valid=m.valid
       ·have he':(y.valid == m.valid)=true:=by simpa using he
        have HEQ:Hid (y.valid=m.valid):=he
        clear he
        go_wp2
        go_quiet (fail)
        go_wp2
        go_ret
        exact ⟨ret_b (HNB.out (rangeAll_no k hlt (HE.out.trans (by rw [List.any_eq_true.2 ⟨y,List.mem_of_getElem? (l:=x.boxes.take k) (by rw [List.getElem?_take,if_pos hql];exact HY.out),by simpa using HEQ.out⟩];simp)))),below_drewN _ (Below.step HB1.out hB2.out)⟩
       ·have he':(y.valid == m.valid)=false:=by simpa using he
        have HEQ:Hid (y.valid≠m.valid):=he
        clear he
        go_wp2
        go_quiet (fail)
        go_wp2
        go_roundw
        case rel =>
         refine ⟨q+1,by omega,by go_num,(show Hid _ from fun p z hp hz=>?_),below_drewN _ hB2.out⟩
         by_cases e:p=q
         ·subst e;rw [HY.out] at hz;cases hz;exact HEQ.out
         ·exact hV.out p z (by omega) hz
        case measure=>simp [intOf];omega
      ·obtain rfl:q=k:=by omega
       go_wp2
       go_roundw
       case rel =>
        refine ⟨q+1,by omega,by go_num,(show Hid _ from fun i hi=>?_),box_below hB2.out HK1.out,Below.step HB1.out hB2.out⟩
        by_cases e:i=q
        ·subst e
         refine HE.out.trans ?_
         have z:((x.boxes.take i).any fun o=>decide (o.valid=m.valid))=false:=by
          rw [List.any_eq_false]
          intro o ho
          obtain ⟨p,hp,rfl⟩:=List.getElem_of_mem ho
          have hp':p < i:=by simp at hp;omega
          have:=hV.out p (x.boxes[p]'(by omega)) hp' (List.getElem?_eq_getElem (by omega))
          simpa using this
         rw [z]
         simp
        ·exact hA.out i (by omega)
       case measure=>simp [intOf];omega
  ·obtain rfl:k=x.boxes.length:=by omega
   have HBA:Hid (∀ j,j < x.boxes.length→boxAt x j=true):=hA.out
   clear hlt hA
   go_wp2
   clear e0 e1 e2
   go_loopw [5] (fun i wr=>∃ k:Nat,k≤x.seen.length∧i=.int .i64 k∧Hid (∀ j,j < k→seenAt x.seen j=true)∧Hid (wr.heap[w.heap.size]?=some (.cells #[.int .i64 x.valid,.slice a0 x.boxes.length c0,.slice a1 x.seen.length c1] 26))∧Hid (Below w.heap.size w wr)) (fun i _=>x.seen.length - (intOf i).toNat)
   case atStart=>exact ⟨0,Nat.zero_le _,rfl,(fun j hj=>absurd hj (Nat.not_lt_zero _)),hK,hB⟩
   case round =>
    clear hK hB
    obtain ⟨k,hk,rfl,hA,hK,hB⟩:=hrel
    obtain ⟨e0,e1,e2⟩:=bx3 hK.out
    have hlA:=lt_of_heap hK.out
    by_cases hlt:k < x.seen.length
    ·obtain ⟨n,hn⟩:∃ n,x.seen[k]?=some n:=⟨x.seen[k],List.getElem?_eq_getElem hlt⟩
     obtain ⟨b,off,cap',hv',hlb,d0,i0⟩:=IntsV.cell (H0.out wr hB.out).2 k n hn
     simp only [Value.slice.injEq,true_and] at hv'
     obtain ⟨rfl,rfl⟩:=hv'
     have hp:=prevI_ok hk hA.out
     have HE:Hid (seenAt x.seen k=inB n (prevI x.seen k+1) 1000000):=by show seenAt x.seen k=_;unfold seenAt;rw [show x.seen.getD k 0=n by simp [List.getD,hn]]
     generalize hQ:prevI x.seen k=q at hp HE
     have HQ:Hid (prevI x.seen k=q):=hQ
     clear hQ hn
     have hkL:(k:Int) < (x.seen.length:Int):=by omega
     by_cases h1:n < 1
     ·have e105:decide (n < 1)=true:=decide_eq_true h1
      go_wp2
      go_quiet (fail)
      go_wp2
      go_ret
      exact ⟨ret_b (HNS.out (rangeAll_no k hlt (HE.out.trans (seenNo hp.1 (.inl h1))))),below_drewN _ hB.out⟩
     have e105:decide (n < 1)=false:=decide_eq_false h1
     by_cases h2:1000000 < n
     ·have e106:decide (1000000 < n)=true:=decide_eq_true h2
      go_wp2
      go_quiet (fail)
      go_wp2
      go_ret
      exact ⟨ret_b (HNS.out (rangeAll_no k hlt (HE.out.trans (seenNo hp.1 (.inr (.inl h2)))))),below_drewN _ hB.out⟩
     have e106:decide (1000000 < n)=false:=decide_eq_false h2
     by_cases hkz:(0:Int) < (k:Int)
     ·obtain ⟨j,hj⟩:∃ j,k=j+1:=⟨k - 1,by omega⟩
      have hjl:(j:Int) < (x.seen.length:Int):=by omega
      have hj0:(0:Int)≤(j:Int):=by omega
      have hw1:IntKind.i64.wrap ((k:Int) - 1)=(j:Int):=by rw [IntWalk.i64_in _ (by omega)];omega
      have hkN:0 < k:=by omega
      have hd:decide (0 < k)=true:=by simpa using hkN
      have HJ:Hid (k=j+1):=hj
      clear hj
      obtain ⟨n',hn'⟩:∃ n',x.seen[j]?=some n':=⟨x.seen[j]'(by have:=HJ.out;omega),List.getElem?_eq_getElem (by have:=HJ.out;omega)⟩
      obtain ⟨b2,off2,cap2,hv2,hlb2,t0,-⟩:=IntsV.cell (H0.out wr hB.out).2 j n' hn'
      simp only [Value.slice.injEq,true_and,Option.some.injEq,Addr.mk.injEq,and_true] at hv2
      obtain ⟨⟨rfl,rfl⟩,rfl⟩:=hv2
      have HPU:Hid (n'=q):=by rw [← HQ.out,HJ.out];simp [Hid,prevI,List.getD,hn']
      clear hn'
      by_cases h3:n≤n'
      ·have e103:decide (n≤n')=true:=decide_eq_true h3
       go_wp2
       go_quiet (fail)
       go_wp2
       go_ret
       exact ⟨ret_b (HNS.out (rangeAll_no k hlt (HE.out.trans (seenNo hp.1 (.inr (.inr (by have:=HPU.out;omega))))))),below_drewN _ hB.out⟩
      have e103:decide (n≤n')=false:=decide_eq_false h3
      go_wp2
      go_quiet (fail)
      go_wp2
      go_roundw
      case rel =>
       refine ⟨k+1,by omega,by go_num,(show Hid _ from fun i hi=>?_),hK.out,below_drewN _ hB.out⟩
       by_cases e:i=k
       ·subst e;exact HE.out.trans (seenYes (by have:=HPU.out;omega) (by omega))
       ·exact hA.out i (by omega)
      case measure=>simp [intOf];omega
     ·have hkN:¬ 0 < k:=by omega
      have hd:decide (0 < k)=false:=by simpa using hkN
      have HPU:Hid (q=0):=by
       rw [← HQ.out]
       have:k=0:=by omega
       rw [this];rfl
      go_wp2
      go_quiet (fail)
      go_wp2
      go_roundw
      case rel =>
       refine ⟨k+1,by omega,by go_num,(show Hid _ from fun i hi=>?_),hK.out,below_drewN _ hB.out⟩
       by_cases e:i=k
       ·subst e;exact HE.out.trans (seenYes (by have:=HPU.out;omega) (by omega))
       ·exact hA.out i (by omega)
      case measure=>simp [intOf];omega
    ·obtain rfl:k=x.seen.length:=by omega
     go_wp2
     go_ret
     refine ⟨ret_b ?_,hB.out⟩
     have z1:=rangeAll_yes HBA.out
     have z2:=rangeAll_yes hA.out
     simp [accB,seenB,inB,z1,z2,q0,q1]
     omega

end Go.Proofs.YtnlhkgoppjejeaaDoor
