/- The proof's texts, part 19. -/
import Derived.Test.YtlneebmlhblleaaGreatTh
import Derived.Test.YtlneebmlhblleaaGreatTi
import Derived.LaidEql
namespace Go.Proofs.YtlneebmlhblleaaGreat
open Go.RowKit
set_option linter.unusedVariables false
set_option linter.unusedSimpArgs false
set_option maxHeartbeats 8000000
set_option maxRecDepth 100000
/- ah7 of package o9 gH. -/
theorem ZQ:(Tryz.f83.body.bind (bQ 1)).all (fun o=>dQ o 9 [0,1,2,3,4,5,6,7,8] [7,8] [8,9] 8)=true:=by kernel_rfl
theorem ZR:(Tryz.f83.body.bind (bQ 2)).all (fun o=>dQ o 12 [0,1,2,3,4,5,6,7,8,9,10,11] [9,10] [12] 0)=true:=by kernel_rfl
theorem Q7 {a:aJ} {k:Nat} {b:aD} {tt:List Int} {uid mode:Int} (h:b.ah.findIdx? (fun m=>decide (m.uid=uid))=none):lN a k b tt uid mode=(a,aQ 1 0):=by
 unfold lN
 rw [h]
theorem Q8 {a:aJ} {k:Nat} {b:aD} {tt:List Int} {uid mode:Int} (h:a.boxes.findIdx? (fun x=>decide (x.name=tt))=none):lN a k b tt uid mode=(a,aQ 1 0):=by
 unfold lN
 rw [h]
 cases b.ah.findIdx? (fun m=>decide (m.uid=uid)) <;> rfl
/-- What a copy does, by its tests. -/
theorem copy_eq {a:aJ} {k j t:Nat} {b bt:aD} {m:aF} {tt:List Int} {uid mode:Int} {aw rm fu:Bool} (h1:b.ah.findIdx? (fun m=>decide (m.uid=uid))=some j) (h2:a.boxes.findIdx? (fun x=>decide (x.name=tt))=some t) (h3:b.ah[j]?=some m) (h4:a.boxes[t]?=some bt) (ha:aw=decide (mode=1)) (hr:rm=dx bt (if aw=true∧t=k then 0 else 1)) (hf:fu=(aw && decide (999999≤b.seq))) :
  lN a k b tt uid mode=if rm=false∨fu=true then (a,aQ 3 0) else match (if aw=true then aL a k (bG (bH b) j) else a).boxes[t]? with
   | some bu=>(aL (if aw=true then aL a k (bG (bH b) j) else a) t (jR bu m.flags m.text),aQ 0 bu.next)
   | none=>((if aw=true then aL a k (bG (bH b) j) else a),aQ 1 0):=by
 subst hr hf ha
 unfold lN
 rw [h1,h2]
 simp only [h3,h4,decide_eq_true_eq,Bool.and_eq_true]
 rfl
theorem Q9:∃ j,Tryz.prog.info? 37=some j∧j.size≠0:=by
 have h:=uH
 cases hj:Tryz.prog.info? 37 with
 | none=>rw [hj] at h;cases h
 | some j =>
  rw [hj] at h
  simp only [Option.map_some,Option.some.injEq,Prod.mk.injEq] at h
  exact ⟨j,rfl,by rw [h.2.1];decide⟩
theorem ZT (a:Addr) (w:World):(binOp .neq 89 (.pointer (some a)) (.pointer (some a))).run Tryz.prog w=.ok (.bool false) w:=by
 obtain ⟨j,hj,hz⟩:=Q9
 have h:∀ d:Nat,(Op.equalIn (d+1) 89 (.pointer (some a)) (.pointer (some a))).run Tryz.prog w=.ok true w:=fun d=>by
  simp [Op.equalIn,run_underlying Tryz.underlying89,sizeOf,typeInfo,hj,run_sameAddr_same]
 simp only [binOp]
 simp [Op.equal,Op.maxDepth,h 9999]
theorem ZU {a b:Addr} {ca cb:Array Value} {ta tb:TypeId} (w:World) (hne:a≠b) (ha:w.heap[a.block]?=some (.cells ca ta (0,0))) (hb:w.heap[b.block]?=some (.cells cb tb (0,0))):(binOp .neq 89 (.pointer (some a)) (.pointer (some b))).run Tryz.prog w=.ok (.bool true) w:=by
 obtain ⟨j,hj,hz⟩:=Q9
 have h:∀ d:Nat,(Op.equalIn (d+1) 89 (.pointer (some a)) (.pointer (some b))).run Tryz.prog w=.ok false w:=fun d=>by
  simp [Op.equalIn,run_underlying Tryz.underlying89,sizeOf,typeInfo,hj,hz,run_sameAddr_other w hne ha hb]
 simp only [binOp]
 simp [Op.equal,Op.maxDepth,h 9999]
theorem ZV {b:aD} {j:Nat} {m:aF} (h:wO b) (hm:b.ah[j]?=some m):wO (bG (bH b) j):=by
 intro x hx
 have hm':(bH b).ah[j]?=some m:=hm
 rw [JV hm',← List.eraseIdx_eq_take_drop_succ] at hx
 have:(bG (bH b) j).next=b.next:=by unfold bG;rw [hm'];rfl
 rw [this]
 exact h x (List.mem_of_mem_eraseIdx hx)
theorem ZW {b:aD} {j:Nat} {m:aF} (hm:b.ah[j]?=some m):(bG (bH b) j).valid=b.valid∧(bG (bH b) j).next=b.next∧(bG (bH b) j).seq=b.seq+1:=by
 have hm':(bH b).ah[j]?=some m:=hm
 unfold bG
 rw [hm']
 exact ⟨rfl,rfl,rfl⟩
theorem ZX (wt w:World) (S:Nat→Prop) (gd g n i gb cap:Nat) (a:aJ) (b:aD) (u0 u1 cv:Value) (E:aX) (c:iC) (h:aW wt w S gd g n a u0 u1 E) (hb:a.boxes[i]?=some b) (hu:u0=.slice (some ⟨gb,0,none⟩) a.boxes.length cap) (hn:n≤1000000) (hok:∀ x ∈ a.boxes,x.valid≤a.valid∧wO x∧x.ah.length≤12∧x.au.length≤1000) (wN:b.seq≤1000000) (hc:ig wt cv c.k c.bx c.tt c.uid c.mode c.fl c.si c.tx) (res:aJ × cO) (hres:res=lN a i b c.tt c.uid c.mode) :
  Calls Tryz.prog 83 #[.pointer (some ⟨gd,0,none⟩),.pointer (some ⟨gb,i * 7,none⟩),cv] w fun e w'=>∃ v,e=.returned v∧dD w' w.heap.size w'.heap.size v res.2∧Left wt w w' S gd g n u1 res.1:=by
 obtain ⟨q0,q1,q2,rfl,g0,g1,g2,i0,i1,i2,i3,i4⟩:=hc
 obtain ⟨x0,m0,z0,rfl⟩:=g0.aG
 obtain ⟨x1,m1,z1,rfl⟩:=g1.aG
 obtain ⟨x2,m2,z2,rfl⟩:=g2.aG
 obtain ⟨kC,kR,A2⟩:=gJ w (.cells #[.int .i64 c.k,.slice x0 m0 z0,.slice x1 m1 z1,.int .i64 c.uid,.int .i64 c.mode,.int .i64 c.fl,.int .i64 c.si,.slice x2 m2 z2] 44) (.cells #[.int .i64 0,.int .i64 0,.slice none 0 0,.int .i64 0,.int .i64 0,.int .i64 0,.slice none 0 0,.slice none 0 0,.int .i64 0,.slice none 0 0] 40)
 have bN:=ak hres
 have Gm:=ak hok
 have HD:=ak (h.below A2)
 have HA:=ak A2
 have bC:=ak kC
 have aO:=ak kR
 have uS:=ak g1
 have HSL:Hid (∀ k,S k→k < w.heap.size):=fun k hk=>(h.low k hk).2.1
 have hw0:=h.base.size
 have hzz:w.heap.size+2≤((w.alloc (.cells #[.int .i64 c.k,.slice x0 m0 z0,.slice x1 m1 z1,.int .i64 c.uid,.int .i64 c.mode,.int .i64 c.fl,.int .i64 c.si,.slice x2 m2 z2] 44)).alloc (.cells #[.int .i64 0,.int .i64 0,.slice none 0 0,.int .i64 0,.int .i64 0,.int .i64 0,.slice none 0 0,.slice none 0 0,.int .i64 0,.slice none 0 0] 40)).heap.size:=by simp
 have wR:Hid (aB c.uid):=i1
 clear h A2 kC kR g0 g1 g2 i0 i1 i2 i3 i4 hres hok
 go_enter Tryz.func83,Tryz.ntmps83
 go_upto_region 1 with fail
 generalize (w.alloc (.cells #[.int .i64 c.k,.slice x0 m0 z0,.slice x1 m1 z1,.int .i64 c.uid,.int .i64 c.mode,.int .i64 c.fl,.int .i64 c.si,.slice x2 m2 z2] 44)).alloc (.cells #[.int .i64 0,.int .i64 0,.slice none 0 0,.int .i64 0,.int .i64 0,.int .i64 0,.slice none 0 0,.slice none 0 0,.int .i64 0,.slice none 0 0] 40)=w1 at HD HA bC aO hzz ⊢
 obtain ⟨fF,cap',v0,v5,f,e1,-,-,hlb,-,-,⟨-,c1,-⟩,-,-,-,j0,-⟩:=HD.out.read hb
 rw [hu] at e1
 simp only [Value.slice.injEq,Option.some.injEq,Addr.mk.injEq,and_true,true_and] at e1
 obtain ⟨rfl,rfl⟩:=e1
 have hlc:=lt_of_heap bC.out
 have cu:w1.cell? ⟨w.heap.size,3,none⟩=some (.int .i64 c.uid):=(cell_of_row _ _ 3 _ _ (0,0) bC.out).trans rfl
 have dA:Hid (∀ w',Below w1.heap.size w1 w'→w'.cell? ⟨gb,i * 7+1,none⟩=some (.int .i64 b.valid)∧w'.cell? ⟨w.heap.size,3,none⟩=some (.int .i64 c.uid)):=fun w' hw=>⟨(hw.cell (p:=⟨gb,_,none⟩) hlb).trans c1,(hw.cell (p:=⟨_,3,none⟩) hlc).trans cu⟩
 have D1:Below w1.heap.size w1 w1.drew:=bd _ _
 have A3:Below w1.heap.size w1 (w1.drew.alloc (.cells #[.int .i64 0,.int .i64 0] 135)):=D1.alloc (Nat.le_refl _) _
 have HJ:=ak j0
 clear c1 cu j0
 refine eF 8 (S:=fun w'=>w'.cell? ⟨gb,i * 7+1,none⟩=some (.int .i64 b.valid)∧w'.cell? ⟨w.heap.size,3,none⟩=some (.int .i64 c.uid)) (eB (by kernel_rfl) ZQ) (by kernel_rfl) (dA.out _ D1) (fun aj aks=>?_)
 refine tks 0 0 13 aj aks ?_
 refine tks 1 1 14 aj aks ?_
 refine tks 2 2 15 aj aks ?_
 refine tks 3 3 16 aj aks ?_
 refine tks 4 4 17 aj aks ?_
 refine tks 5 5 18 aj aks ?_
 refine tks 6 6 19 aj aks ?_
 refine cls 7 7 aj (by decide) rfl rfl (fun K hK=>?_)
 go_simp
 refine hK.out _ _ (dA.out _ A3) (fun aks=>?_)
 clear hK K
 refine gL (S':=fun w'=>True) 8 9 aj (by decide) trivial (fun aks=>?_)
 refine cls 8 8 aj (by decide) rfl rfl (fun K hK=>?_)
 go_simp
 refine hK.out _ _ trivial (fun aks=>?_)
 clear hK K
 refine eG aj ?_
 go_upto_region 2 with fail
 have A5:Below w1.heap.size w1 (w1.alloc (.cells #[.int .i64 b.valid,.int .i64 c.uid] 135)).drew:=(bn _ _).drew
 have HD2:=ak (HD.out.below A5)
 have HA2:=ak (Below.step HA.out A5)
 have jv:=ak (ay A5 bC.out)
 have bV:=ak (ay A5 aO.out)
 have HKK:Hid ((w1.alloc (.cells #[.int .i64 b.valid,.int .i64 c.uid] 135)).drew.heap[w1.heap.size]?=some (.cells #[.int .i64 b.valid,.int .i64 c.uid] 135 (0,0))):=aV w1 _
 have hz2:(w1.alloc (.cells #[.int .i64 b.valid,.int .i64 c.uid] 135)).drew.heap.size=w1.heap.size+1:=(show (w1.alloc (.cells #[.int .i64 b.valid,.int .i64 c.uid] 135)).heap.size=_ by simp)
 clear dA HD HA bC aO A5 D1 A3 hlc
 generalize (w1.alloc (.cells #[.int .i64 b.valid,.int .i64 c.uid] 135)).drew=w2 at HD2 HA2 jv bV HKK hz2 ⊢
 obtain ⟨p0,p1,p2,p3,p4,p5,qY,uT⟩:=HD2.out.map.looked HJ.out wR.out (HD2.out.ents b (List.mem_of_getElem? hb))
 generalize hok:(b.ah.findIdx? fun m=>decide (m.uid=c.uid)).isSome=ok at qY
 have qD:=ak hok
 have qZ:=ak uT
 have HS2:Hid (∀ w',Below w2.heap.size w2 w'→w'.cell? ⟨gd,2,none⟩=some (.map (some g))∧w'.rangeAt w1.heap.size 0 [.int .i64 b.valid,.int .i64 c.uid]∧(Instr.lookup 106 (.map (some g)) (.agg #[.int .i64 b.valid,.int .i64 c.uid]) true).run Tryz.prog w'=.ok (.tuple #[.agg #[.int .i64 p0,.int .i64 p1,.int .i64 p2,.slice p3 p4 p5],.bool ok]) w'):=fun w' hw=>⟨(cell_of_row _ gd 2 _ _ (0,0) (HD2.out.below hw).cells).trans rfl,fC (ay hw HKK.out),qY w' (hw.block g HD2.out.map.lt)⟩
 have D2:Below w2.heap.size w2 w2.drew:=bd _ _
 have A4:Below w2.heap.size w2 (w2.drew.alloc (.cells #[.int .i64 0,.int .i64 0,.int .i64 0,.slice none 0 0] 124)):=D2.alloc (Nat.le_refl _) _
 have nE:Below w2.heap.size w2 (w2.alloc (.cells #[.int .i64 p0,.int .i64 p1,.int .i64 p2,.slice p3 p4 p5] 124)).drew:=(bn _ _).drew
 have bM:=lt_of_heap HD2.out.cells
 clear uT qY hok
 refine eF 12 (S:=fun w'=>w'.cell? ⟨gd,2,none⟩=some (.map (some g))∧w'.rangeAt w1.heap.size 0 [.int .i64 b.valid,.int .i64 c.uid]∧(Instr.lookup 106 (.map (some g)) (.agg #[.int .i64 b.valid,.int .i64 c.uid]) true).run Tryz.prog w'=.ok (.tuple #[.agg #[.int .i64 p0,.int .i64 p1,.int .i64 p2,.slice p3 p4 p5],.bool ok]) w') (eB (by kernel_rfl) ZR) (by kernel_rfl) (HS2.out _ D2) (fun aj aks=>?_)
 refine tks 0 0 21 aj aks ?_
 refine tks 1 1 22 aj aks ?_
 refine tks 2 2 23 aj aks ?_
 refine tks 3 3 24 aj aks ?_
 refine pq 4 4 25 135 (.tmp 7) w1.heap.size 0 [.int .i64 b.valid,.int .i64 c.uid] aj aks (fun w h=>h.2.1) pW ?_
 refine tks 5 5 26 aj aks ?_
 refine tks 6 6 20 aj aks ?_
 refine tks 7 7 27 aj aks ?_
 refine tks 8 8 28 aj aks ?_
 refine cls 9 9 aj (by decide) rfl rfl (fun K hK=>?_)
 go_simp
 refine hK.out _ _ (HS2.out _ A4) (fun aks=>?_)
 clear hK K
 refine cls 10 10 aj (by decide) rfl rfl (fun K hK=>?_)
 go_simp
 refine hK.out _ _ (HS2.out _ nE) (fun aks=>?_)
 clear hK K
 refine tks 11 11 9 aj aks ?_
 refine eG aj ?_
 go_upto_region 3 with fail
 have HD3:=ak (HD2.out.below nE)
 have fH:=ak (Below.step HA2.out nE)
 have lQ:=ak (ay nE jv.out)
 have bX:=ak (ay nE bV.out)
 have yL:=ak (ay nE HKK.out)
 have jH:Hid ((w2.alloc (.cells #[.int .i64 p0,.int .i64 p1,.int .i64 p2,.slice p3 p4 p5] 124)).drew.heap[w1.heap.size+1]?=some (.cells #[.int .i64 p0,.int .i64 p1,.int .i64 p2,.slice p3 p4 p5] 124 (0,0))):=by rw [← hz2];exact aV w2 _
 have hz3:w1.heap.size+2≤(w2.alloc (.cells #[.int .i64 p0,.int .i64 p1,.int .i64 p2,.slice p3 p4 p5] 124)).drew.heap.size:=by rw [← show w2.heap.size+1=w1.heap.size+2 by omega];exact (show w2.heap.size+1≤(w2.alloc (.cells #[.int .i64 p0,.int .i64 p1,.int .i64 p2,.slice p3 p4 p5] 124)).heap.size by simp)
 clear HS2 A4 nE D2 HD2 HA2 jv bV HKK hz2 bM
 generalize (w2.alloc (.cells #[.int .i64 p0,.int .i64 p1,.int .i64 p2,.slice p3 p4 p5] 124)).drew=w3 at HD3 fH lQ bX yL jH hz3 ⊢
 have wS:=ak (Ki wt w3 S gd g n a u0 u1 (.slice x1 m1 z1) E c.tt HD3.out (uS.out.below HD3.out.base))
 obtain ⟨o0,o1,o2,o3,o4,o5,o6,o7,o8⟩:=l5 lQ.out
 go_wp2_with fail
 refine wS.out.mono ?_
 rintro e w4 ⟨p,rfl,B4,hp⟩
 have HP:=ak hp
 have HD4:=ak (HD3.out.below B4)
 have gN:=ak (Below.step fH.out B4)
 have Gn:=ak (ay B4 lQ.out)
 have dW:=ak (ay B4 bX.out)
 have CB:=ak (ay B4 yL.out)
 have pG:=ak (ay B4 jH.out)
 have hs4:=B4.size
 clear hp B4 wS o0 o1 o2 o3 o4 o5 o6 o7 o8 HD3 fH lQ bX yL jH
 cases ok with
 | false =>
  have bI:Hid (res=(a,aQ 1 0)):=by
   show _=_
   rw [bN.out]
   exact Q7 (by have:=qD.out;simpa using this)
  have HF:=ak (HD4.out.done (n:=n) (fun k hk=>.inl hk) (fT gN.out) (by omega) dW.out (fun hS=>by have:=HSL.out _ hS;omega) hw0 (by omega) (c:=1) (x:=0) ⟨by decide,by decide⟩ aI)
  obtain ⟨yz,yl,y0,y1,y2,y3,y4,y5,y6,y7,y8,y9⟩:=eT dW.out
  go_wp2
  have ff:=aM HF.out.1
  refine bodyPost_ret (v:=aY 1 0) (by simp [results,Tryz.results83,aY,go_sem,ff]) rfl ⟨aY 1 0,rfl,?_⟩
  rw [bI.out]
  exact HF.out.2
 | true =>
  obtain ⟨j,hj⟩:∃ j,b.ah.findIdx? (fun m=>decide (m.uid=c.uid))=some j:=Option.isSome_iff_exists.1 qD.out
  obtain ⟨m,hm⟩:∃ m,b.ah[j]?=some m:=⟨_,aK (List.findIdx?_eq_some_iff_getElem.1 hj).1⟩
  obtain ⟨rfl,rfl,rfl,hmu,htb,qU⟩:=qZ.out j m hj hm
  rcases HP.out with ⟨rfl,hfn⟩ | ⟨t,bt,fF,cap',rfl,hft,hbt,hu'⟩
  ·have bI:Hid (res=(a,aQ 1 0)):=by
    show _=_
    rw [bN.out]
    exact Q8 hfn
   clear hfn hj hm hmu htb qU
   have HF:=ak (HD4.out.done (n:=n) (fun k hk=>.inl hk) (fT gN.out) (by omega) dW.out (fun hS=>by have:=HSL.out _ hS;omega) hw0 (by omega) (c:=1) (x:=0) ⟨by decide,by decide⟩ aI)
   obtain ⟨yz,yl,y0,y1,y2,y3,y4,y5,y6,y7,y8,y9⟩:=eT dW.out
   go_wp2
   have ff:=aM HF.out.1
   refine bodyPost_ret (v:=aY 1 0) (by simp [results,Tryz.results83,aY,go_sem,ff]) rfl ⟨aY 1 0,rfl,?_⟩
   rw [bI.out]
   exact HF.out.2
  ·rw [hu] at hu'
   simp only [Value.slice.injEq,Option.some.injEq,Addr.mk.injEq,and_true,true_and] at hu'
   obtain ⟨rfl,rfl⟩:=hu'
   obtain ⟨aw,haw⟩:∃ aw,aw=decide (c.mode=1):=⟨_,rfl⟩
   obtain ⟨rm,hrm⟩:∃ rm,rm=dx bt (if aw=true∧t=i then 0 else 1):=⟨_,rfl⟩
   obtain ⟨fu,hfu⟩:∃ fu,fu=(aw && decide (999999≤b.seq)):=⟨_,rfl⟩
   have wT:=ak (bN.out.trans (copy_eq hj hft hm hbt haw hrm hfu))
   have sW:=ak hrm
   have Gp:=ak hfu
   have HM:=ak hm
   have Kj:=ak hmu
   have pI:=ak htb
   have CF:=ak qU
   obtain ⟨o0,o1,o2,o3,o4,o5,o6,o7,o8⟩:=l5 Gn.out
   have hmo:(c.mode == 1)=aw:=by rw [haw];rfl
   have htl:=(gs1 hbt).1
   have hil:=(gs1 hb).1
   clear hj hm hmu htb qU hft bN qZ qD HP hrm hfu haw uS
   go_upto_region 7 with fail
   clear o0 o1 o2 o3 o4 o5 o6 o7 o8
   go_cut [12] (fun s wx=>s=.bool (!aw || decide (t≠i))∧wx=w4)
   case first =>
    cases aw with
    | false =>
     go_wp2
     go_meet
     case rel=>exact ⟨rfl,rfl⟩
    | true =>
     by_cases hti:t=i
     ·subst hti
      have hpp:=ZT ⟨gb,t * 7,none⟩ w4
      go_wp2
      go_meet
      case rel=>exact ⟨by simp,rfl⟩
     ·obtain ⟨gx,cx,cur,_,_,ex,-,-,hx,-⟩:=HD4.out.box hb
      rw [hu] at ex
      simp only [Value.slice.injEq,Option.some.injEq,Addr.mk.injEq,and_true,true_and] at ex
      obtain ⟨rfl,rfl⟩:=ex
      have hpp:=ZU (a:=⟨gb,t * 7,none⟩) (b:=⟨gb,i * 7,none⟩) w4 (fun e=>hti (by injection e;omega)) hx hx
      clear hx
      go_wp2
      go_meet
      case rel=>exact ⟨by simp [hti],rfl⟩
   case rest =>
    obtain ⟨rfl,rfl⟩:=hcut
    generalize hnr:(!aw || decide (t≠i))=nr
    have Kk:=ak hnr
    clear hnr
    obtain ⟨fF,cap',yF,wI,f',gM,-,-,hlb,-,-,⟨-,-,c2,c3,-⟩,-⟩:=HD4.out.read hbt
    rw [hu] at gM
    simp only [Value.slice.injEq,Option.some.injEq,Addr.mk.injEq,and_true,true_and] at gM
    obtain ⟨rfl,rfl⟩:=gM
    have yM:=ak (Gm.out bt (List.mem_of_getElem? hbt))
    have kT:=ak (QE gb (t * 7) bt wc c2 c3 hlb)
    have nC:=ak (J8 wt wc S gd g n t gb cap a bt u0 u1 E HD4.out hbt hu (by omega) yM.out.2.2.1)
    clear c2 c3 hlb
    go_upto_region 8 with fail
    go_cut [61] (fun s wx=>s=.bool (!rm)∧Hid (Below wc.heap.size wc wx))
    case first =>
     by_cases hcn:bt.seq < 1000000∧bt.next < 1000000
     ·have hB1:(decide (bt.seq < 1000000) && decide (bt.next < 1000000))=true:=by simp [hcn]
      have HC:=ak hcn
      rw [hB1] at kT
      clear hB1 hcn
      cases nr with
      | false =>
       have HR:Hid (rm=true):=by
        show _=_
        rw [sW.out,if_pos (by have:=Kk.out;simpa using this)]
        unfold dx
        have:=HC.out
        have:=yM.out.2.2.1
        simp
        omega
       go_wp2_with (go_at_call 115;refine kT.out.mono ?_;rintro e w5 ⟨rfl,rfl⟩)
       go_meet
       case rel=>exact ⟨by rw [HR.out];rfl,Below.refl _ _⟩
      | true =>
       have HR:Hid (rm=decide (bt.ah.length+1≤12)):=by
        show _=_
        rw [sW.out,if_neg (by rintro ⟨h1,h2⟩;have:=Kk.out;simp [h1,h2] at this)]
        unfold dx
        have:=HC.out
        simp [this]
        omega
       go_wp2_with fail
       refine kT.out.mono ?_
       rintro e w5 ⟨rfl,rfl⟩
       go_wp2_with fail
       refine nC.out.mono ?_
       rintro e w6 ⟨rfl,B6⟩
       have wC:=ak B6
       clear B6
       by_cases hl:bt.ah.length=12
       ·have hl1:((bt.ah.length:Int) == 12)=true:=by simp [hl]
        go_wp2
        go_meet
        case rel=>exact ⟨by rw [HR.out];simp [hl],wC.out⟩
       ·have hl1:((bt.ah.length:Int) == 12)=false:=by simp;omega
        go_wp2
        go_meet
        case rel=>exact ⟨by rw [HR.out];have:=yM.out.2.2.1;simp;omega,wC.out⟩
     ·have hB1:(decide (bt.seq < 1000000) && decide (bt.next < 1000000))=false:=by
       by_cases h1:bt.seq < 1000000
       ·simp [h1];omega
       ·simp [h1]
      have HR:Hid (rm=false):=by
       show _=_
       rw [sW.out]
       unfold dx
       rw [← Bool.and_assoc,hB1]
       rfl
      rw [hB1] at kT
      clear hB1 hcn
      go_wp2_with (go_at_call 115;refine kT.out.mono ?_;rintro e w5 ⟨rfl,rfl⟩)
      go_meet
      case rel=>exact ⟨by rw [HR.out];rfl,Below.refl _ _⟩
    case rest =>
     obtain ⟨rfl,iV⟩:=hcut
     clear kT nC Kk
     rename_i wp _
     have hs5:=iV.out.size
     have HD5:=ak (HD4.out.below iV.out)
     have kg:=ak (Below.step gN.out iV.out)
     have kQ:=ak (ay iV.out dW.out)
     have Ra:=ak (ay iV.out CB.out)
     have Kl:=ak (ay iV.out pG.out)
     clear HD4 gN dW CB pG Gn iV
     cases rm with
     | false =>
      have bI:Hid (res=(a,aQ 3 0)):=by show _=_;rw [wT.out,if_pos (.inl rfl)]
      have HF:=ak (HD5.out.done (n:=n) (fun k hk=>.inl hk) (fT kg.out) (by omega) kQ.out (fun hS=>by have:=HSL.out _ hS;omega) hw0 (by omega) (c:=3) (x:=0) ⟨by decide,by decide⟩ aI)
      obtain ⟨yz,yl,y0,y1,y2,y3,y4,y5,y6,y7,y8,y9⟩:=eT kQ.out
      go_wp2
      have ff:=aM HF.out.1
      refine bodyPost_ret (v:=aY 3 0) (by simp [results,Tryz.results83,aY,go_sem,ff]) rfl ⟨aY 3 0,rfl,?_⟩
      rw [bI.out]
      exact HF.out.2
     | true =>
      obtain ⟨fF,cap',yF,wI,f',gM,-,-,hlb,hgs,fz,⟨-,-,-,c3,-⟩,-,-,-,-,-,jq,-⟩:=HD5.out.read hb
      rw [hu] at gM
      simp only [Value.slice.injEq,Option.some.injEq,Addr.mk.injEq,and_true,true_and] at gM
      obtain ⟨rfl,rfl⟩:=gM
      go_upto_region 10 with fail
      go_cut [70] (fun s wx=>s=.bool fu∧wx=wc)
      case first =>
       cases aw with
       | false =>
        go_wp2
        go_meet
        case rel=>exact ⟨by rw [Gp.out];rfl,rfl⟩
       | true =>
        go_wp2
        go_meet
        case rel=>exact ⟨by rw [Gp.out];rfl,rfl⟩
      case rest =>
       obtain ⟨rfl,rfl⟩:=hcut
       cases fu with
       | true =>
        have bI:Hid (res=(a,aQ 3 0)):=by show _=_;rw [wT.out,if_pos (.inr rfl)]
        clear c3 fz hlb hgs
        have HF:=ak (HD5.out.done (n:=n) (fun k hk=>.inl hk) (fT kg.out) (by omega) kQ.out (fun hS=>by have:=HSL.out _ hS;omega) hw0 (by omega) (c:=3) (x:=0) ⟨by decide,by decide⟩ aI)
        obtain ⟨yz,yl,y0,y1,y2,y3,y4,y5,y6,y7,y8,y9⟩:=eT kQ.out
        go_wp2
        have ff:=aM HF.out.1
        refine bodyPost_ret (v:=aY 3 0) (by simp [results,Tryz.results83,aY,go_sem,ff]) rfl ⟨aY 3 0,rfl,?_⟩
        rw [bI.out]
        exact HF.out.2
       | false =>
        have HR:Hid (bt.seq < 1000000∧bt.next < 1000000):=by
         have:=sW.out
         unfold dx at this
         simp only [Bool.true_eq,Bool.and_eq_true,decide_eq_true_eq] at this
         exact ⟨this.1,this.2.1⟩
        obtain ⟨a1,ha1⟩:∃ a1,a1=if aw=true then aL a i (bG (bH b) j) else a:=⟨_,rfl⟩
        rw [← ha1,if_neg (by simp)] at wT
        have HA1:=ak ha1
        clear ha1
        go_upto_if 72 with fail
        go_cut [] (fun wx=>∃ S' E',Hid (aW wt wx S' gd g n a1 u0 u1 E')∧Hid (∀ k,S' k→S k∨w1.heap.size+2≤k)∧Hid (iU w wx S gd g)∧Hid (wx.heap[w.heap.size+1]?=some (.cells #[.int .i64 0,.int .i64 0,.slice none 0 0,.int .i64 0,.int .i64 0,.int .i64 0,.slice none 0 0,.slice none 0 0,.int .i64 0,.slice none 0 0] 40 (0,0)))∧Hid (wx.heap[w1.heap.size+1]?=some (.cells #[.int .i64 m.uid,.int .i64 m.flags,.int .i64 m.seq,.slice p3 p4 p5] 124 (0,0)))∧w1.heap.size+2≤wx.heap.size)
        case first =>
         cases aw with
         | false =>
          go_wp2
          go_meet
          case rel=>exact ⟨S,E,(show aW _ _ _ _ _ _ _ _ _ _ by rw [HA1.out];exact HD5.out),fun k hk=>.inl hk,fT kg.out,kQ.out,Kl.out,by omega⟩
         | true =>
          have hq:¬ 999999≤b.seq:=by have:=Gp.out;simpa using this
          have jl:=jq.1
          have j3:aB (b.seq+1):=⟨by omega,by omega⟩
          have h6:=HD5.out.uN hb hu j3
          have hgw:=HSL.out _ hgs
          have T6:=yE (v:=.int .i64 (b.seq+1)) (j:=i * 7+3) HD5.out hu hil (fun k hk=>.inl hk) (fT kg.out (S:=S) (gd:=gd) (g:=g))
          have yw:=bP (k:=gb) (i:=i * 7+3) (v:=.int .i64 (b.seq+1)) Kl.out (by omega)
          have Rb:=bP (k:=gb) (i:=i * 7+3) (v:=.int .i64 (b.seq+1)) kQ.out (by omega)
          have Gq:=bP (k:=gb) (i:=i * 7+3) (v:=.int .i64 (b.seq+1)) Ra.out (by omega)
          have hs6:(wc.setCell ⟨gb,i * 7+3,none⟩ (.int .i64 (b.seq+1))).heap.size=wc.heap.size:=aZ
          have hb6:(aL a i (bH b)).boxes[i]?=some (bH b):=List.getElem?_set_self hil
          have yN:=ak (QY wt _ S gd g n i j gb cap (aL a i (bH b)) (bH b) m u0 u1 E h6 hb6 (by rw [hu];simp [aL]) HM.out (Gm.out b (List.mem_of_getElem? hb)).2.2.2)
          rw [← Kj.out] at Gq
          obtain ⟨k0,k1⟩:=oI Gq
          have kl:=lt_of_heap Gq
          have lS:=ak T6
          have ru:=ak yw
          have iQ:=ak Rb
          have HD6:=ak h6
          clear hq Gq T6 yw Rb h6
          go_upto_region 14 with fail
          generalize wc.setCell ⟨gb,i * 7+3,none⟩ (.int .i64 (b.seq+1))=w6 at yN lS ru iQ HD6 k0 k1 kl hs6 ⊢
          go_wp2_with fail
          refine yN.out.mono ?_
          rintro e w7 ⟨rfl,S7,hD7,uU,jI⟩
          have Km:=HD6.out.off ru.out (by decide) (by decide)
          have Kn:=HD6.out.off iQ.out (by decide) (by decide)
          have lm:=lt_of_heap ru.out
          have Ae:=ak ((jI.2.1 _ lm Km.1 Km.2.1 (fun hS=>by have:=HSL.out _ hS;omega)).trans ru.out)
          have nV:=ak ((jI.2.1 _ (by omega) Kn.1 Kn.2.1 (fun hS=>by have:=HSL.out _ hS;omega)).trans iQ.out)
          have HD7:Hid (aW wt w7 S7 gd g n a1 u0 u1 (kJ E (bH b).valid m.uid)):=by
           have e:aL (aL a i (bH b)) i (bG (bH b) j)=a1:=by rw [HA1.out];simp only [aL,List.set_set,if_true]
           rw [e] at hD7
           exact hD7
          have kS:Hid (∀ k,S7 k→S k∨w1.heap.size+2≤k):=fun k hk=>(uU k hk).imp id (by omega)
          have iF:=ak (lS.out.trans jI (fun k hk=>.inl hk))
          have hs7:=jI.1
          clear hD7 uU jI Km Kn yN k0 k1 kl
          go_wp2
          go_meet
          case rel=>exact ⟨S7,_,HD7.out,kS.out,iF.out,nV.out,Ae.out,by omega⟩
        case rest =>
         obtain ⟨S6,E6,HD6,rA,lS,iQ,ru,hs6⟩:=hcut
         clear HD5 kg kQ Ra Kl hlb c3 fz
         obtain ⟨bu,hbu,hbv,hbn,hbs,hbx⟩:∃ bu,a1.boxes[t]?=some bu∧bu.valid≤a1.valid∧wO bu∧bu.seq < 1000000∧bu.next < 1000000:=by
          have hB:=Gm.out bt (List.mem_of_getElem? hbt)
          have hB2:=Gm.out b (List.mem_of_getElem? hb)
          rw [HA1.out]
          cases aw with
          | false=>exact ⟨bt,hbt,hB.1,hB.2.1,HR.out⟩
          | true =>
           by_cases hti:t=i
           ·subst hti
            have ZY:b=bt:=by rw [hb] at hbt;exact Option.some.inj hbt
            subst ZY
            have hq:¬ 999999≤b.seq:=by have:=Gp.out;simpa using this
            obtain ⟨d1,d2,d3⟩:=ZW HM.out
            refine ⟨bG (bH b) j,List.getElem?_set_self hil,by rw [d1];exact hB.1,ZV hB.2.1 HM.out,by omega,by rw [d2];exact HR.out.2⟩
           ·exact ⟨bt,(List.getElem?_set_ne (Ne.symm hti)).trans hbt,hB.1,hB.2.1,HR.out⟩
         have Rc:u0=.slice (some ⟨gb,0,none⟩) a1.boxes.length cap:=by
          have:a1.boxes.length=a.boxes.length:=by
           rw [HA1.out]
           cases aw <;> simp [aL]
          rw [this]
          exact hu
         obtain ⟨_,_,_,_,_,-,-,-,-,-,-,-,-,-,-,-,jn,-⟩:=HD6.out.read hbu
         have qV:=ak (QF wt wc S6 gd g n t gb cap a1 bu u0 u1 (.slice p3 p4 p5) E6 m.flags m.text HD6.out hbu Rc (by omega) hbv hbn hbs hbx CF.out.2.1 pI.out)
         have bI:Hid (res=(aL a1 t (jR bu m.flags m.text),aQ 0 bu.next)):=by
          show _=_
          rw [wT.out,hbu]
         obtain ⟨n0,n1,n2,n3⟩:=gF ru.out
         have nl:=lt_of_heap ru.out
         have Z4:=ak jn
         clear hbu hbv hbn hbs hbx Rc jn
         go_wp2_with fail
         refine qV.out.mono ?_
         rintro e w7 ⟨rfl,S7,u7,n7,E7,hD7,uU,jI,hn7⟩
         unfold aY
         have hof:=HD6.out.off iQ.out (by decide) (by decide)
         have hrl:=lt_of_heap iQ.out
         have nV:=ak ((jI.2.1 _ hrl hof.1 hof.2.1 (fun hS=>(rA.out _ hS).elim (fun h=>by have:=HSL.out _ h;omega) (by omega))).trans iQ.out)
         have HD7:=ak hD7
         have kS:Hid (∀ k,S7 k→S k∨w1.heap.size+2≤k):=fun k hk=>(uU k hk).elim (rA.out k) (fun h=>.inr (by omega))
         have iF:=ak (lS.out.trans jI (fun k hk=>(rA.out k hk).imp id (by omega)))
         clear hD7 uU jI qV n0 n1 n2 n3 nl hof
         have HF:=ak (HD7.out.done (n:=n) (fun k hk=>(kS.out k hk).imp id (by omega)) iF.out (by omega) nV.out (fun hS=>(kS.out _ hS).elim (fun h=>by have:=HSL.out _ h;omega) (by omega)) hw0 (by omega) (c:=0) (x:=bu.next) ⟨by decide,by decide⟩ Z4.out)
         obtain ⟨yz,yl,y0,y1,y2,y3,y4,y5,y6,y7,y8,y9⟩:=eT nV.out
         go_wp2
         have ff:=aM HF.out.1
         refine bodyPost_ret (v:=aY 0 bu.next) (by simp [results,Tryz.results83,aY,go_sem,ff]) rfl ⟨aY 0 bu.next,rfl,?_⟩
         rw [bI.out]
         exact HF.out.2
end Go.Proofs.YtlneebmlhblleaaGreat
