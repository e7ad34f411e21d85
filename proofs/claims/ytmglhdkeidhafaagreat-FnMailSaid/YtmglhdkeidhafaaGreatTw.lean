/- The proof's texts, part 32. -/
import Derived.Test.YtmglhdkeidhafaaGreatTv
import Derived.LaidEql
namespace Go.Proofs.YtmglhdkeidhafaaGreat
open Go.RowKit
set_option linter.unusedVariables false
set_option linter.unusedSimpArgs false
set_option maxHeartbeats 8000000
set_option maxRecDepth 100000
/- agX of package oU gP. -/
theorem abj:(Tryz.f47.body.bind (bR 1)).all (fun o=>dW o 9 [0,1,2,3,4,5,6,7,8] [7,8] [8,9] 8)=true:=by kernel_rfl
theorem abk:(Tryz.f47.body.bind (bR 2)).all (fun o=>dW o 12 [0,1,2,3,4,5,6,7,8,9,10,11] [9,10] [12] 0)=true:=by kernel_rfl
theorem FL {a:aF} {k:Nat} {b:aA} {tt:List Int} {uid mode:Int} (h:b.ah.findIdx? (fun m=>decide (m.uid=uid))=none):kS a k b tt uid mode=(a,aN 1 0):=by
 unfold kS
 rw [h]
theorem FM {a:aF} {k:Nat} {b:aA} {tt:List Int} {uid mode:Int} (h:a.boxes.findIdx? (fun x=>decide (x.name=tt))=none):kS a k b tt uid mode=(a,aN 1 0):=by
 unfold kS
 rw [h]
 cases b.ah.findIdx? (fun m=>decide (m.uid=uid)) <;> rfl
/-- What a copy does, by its tests. -/
theorem copy_eq {a:aF} {k j t:Nat} {b bt:aA} {m:aC} {tt:List Int} {uid mode:Int} {aw rm fu:Bool} (h1:b.ah.findIdx? (fun m=>decide (m.uid=uid))=some j) (h2:a.boxes.findIdx? (fun x=>decide (x.name=tt))=some t) (h3:b.ah[j]?=some m) (h4:a.boxes[t]?=some bt) (ha:aw=decide (mode=1)) (hr:rm=dh bt (if aw=true∧t=k then 0 else 1)) (hf:fu=(aw && decide (999999≤b.seq))) :
  kS a k b tt uid mode=if rm=false∨fu=true then (a,aN 3 0) else match (if aw=true then aH a k (aV (aX b) j) else a).boxes[t]? with
   | some bu=>(aH (if aw=true then aH a k (aV (aX b) j) else a) t (jA bu m.flags m.text),aN 0 bu.next)
   | none=>((if aw=true then aH a k (aV (aX b) j) else a),aN 1 0):=by
 subst hr hf ha
 unfold kS
 rw [h1,h2]
 simp only [h3,h4,decide_eq_true_eq,Bool.and_eq_true]
 rfl
theorem Si:∃ j,Tryz.prog.info? 34=some j∧j.size≠0:=by
 have h:=xq
 cases hj:Tryz.prog.info? 34 with
 | none=>rw [hj] at h;cases h
 | some j =>
  rw [hj] at h
  simp only [Option.map_some,Option.some.injEq,Prod.mk.injEq] at h
  exact ⟨j,rfl,by rw [h.2.1];decide⟩
theorem abl (a:Addr) (w:World):(binOp .neq 65 (.pointer (some a)) (.pointer (some a))).run Tryz.prog w=.ok (.bool false) w:=by
 obtain ⟨j,hj,hz⟩:=Si
 have h:∀ d:Nat,(Op.equalIn (d+1) 65 (.pointer (some a)) (.pointer (some a))).run Tryz.prog w=.ok true w:=fun d=>by
  simp [Op.equalIn,run_underlying Tryz.underlying65,sizeOf,typeInfo,hj,run_sameAddr_same]
 simp only [binOp]
 simp [Op.equal,Op.maxDepth,h 9999]
theorem abm {a b:Addr} {ca cb:Array Value} {ta tb:TypeId} (w:World) (hne:a≠b) (ha:w.heap[a.block]?=some (.cells ca ta (0,0))) (hb:w.heap[b.block]?=some (.cells cb tb (0,0))):(binOp .neq 65 (.pointer (some a)) (.pointer (some b))).run Tryz.prog w=.ok (.bool true) w:=by
 obtain ⟨j,hj,hz⟩:=Si
 have h:∀ d:Nat,(Op.equalIn (d+1) 65 (.pointer (some a)) (.pointer (some b))).run Tryz.prog w=.ok false w:=fun d=>by
  simp [Op.equalIn,run_underlying Tryz.underlying65,sizeOf,typeInfo,hj,hz,run_sameAddr_other w hne ha hb]
 simp only [binOp]
 simp [Op.equal,Op.maxDepth,h 9999]
theorem abn {b:aA} {j:Nat} {m:aC} (h:wD b) (hm:b.ah[j]?=some m):wD (aV (aX b) j):=by
 intro x hx
 have hm':(aX b).ah[j]?=some m:=hm
 rw [IV hm',← List.eraseIdx_eq_take_drop_succ] at hx
 have:(aV (aX b) j).next=b.next:=by unfold aV;rw [hm'];rfl
 rw [this]
 exact h x (List.mem_of_mem_eraseIdx hx)
theorem abo {b:aA} {j:Nat} {m:aC} (hm:b.ah[j]?=some m):(aV (aX b) j).valid=b.valid∧(aV (aX b) j).next=b.next∧(aV (aX b) j).seq=b.seq+1:=by
 have hm':(aX b).ah[j]?=some m:=hm
 unfold aV
 rw [hm']
 exact ⟨rfl,rfl,rfl⟩
theorem abp (wt w:World) (S:Nat→Prop) (gd g n i gb cap:Nat) (a:aF) (b:aA) (u0 u1 cv:Value) (E:aU) (c:dS) (h:aT wt w S gd g n a u0 u1 E) (hb:a.boxes[i]?=some b) (hu:u0=.slice (some ⟨gb,0,none⟩) a.boxes.length cap) (hn:n≤1000000) (hok:∀ x ∈ a.boxes,x.valid≤a.valid∧wD x∧x.ah.length≤12∧x.au.length≤1000) (qL:b.seq≤1000000) (hc:iQ wt cv c.k c.bx c.tt c.uid c.mode c.fl c.si c.tx) (res:aF × dI) (hres:res=kS a i b c.tt c.uid c.mode) :
  Calls Tryz.prog 47 #[.pointer (some ⟨gd,0,none⟩),.pointer (some ⟨gb,i * 7,none⟩),cv] w fun e w'=>∃ v,e=.returned v∧dX w' w.heap.size w'.heap.size v res.2∧Left wt w w' S gd g n u1 res.1:=by
 obtain ⟨q0,q1,q2,rfl,g0,g1,g2,i0,i1,i2,i3,i4⟩:=hc
 obtain ⟨x0,m0,z0,rfl⟩:=g0.aG
 obtain ⟨x1,m1,z1,rfl⟩:=g1.aG
 obtain ⟨x2,m2,z2,rfl⟩:=g2.aG
 obtain ⟨kC,kR,A2⟩:=iX w (.cells #[.int .i64 c.k,.slice x0 m0 z0,.slice x1 m1 z1,.int .i64 c.uid,.int .i64 c.mode,.int .i64 c.fl,.int .i64 c.si,.slice x2 m2 z2] 28) (.cells #[.int .i64 0,.int .i64 0,.slice none 0 0,.int .i64 0,.int .i64 0,.int .i64 0,.slice none 0 0,.slice none 0 0,.int .i64 0,.slice none 0 0] 37)
 have bH:=ak hres
 have FN:=ak hok
 have HD:=ak (h.below A2)
 have HA:=ak A2
 have bO:=ak kC
 have aQ:=ak kR
 have uL:=ak g1
 have HSL:Hid (∀ k,S k→k < w.heap.size):=fun k hk=>(h.low k hk).2.1
 have hw0:=h.base.size
 have hzz:w.heap.size+2≤((w.alloc (.cells #[.int .i64 c.k,.slice x0 m0 z0,.slice x1 m1 z1,.int .i64 c.uid,.int .i64 c.mode,.int .i64 c.fl,.int .i64 c.si,.slice x2 m2 z2] 28)).alloc (.cells #[.int .i64 0,.int .i64 0,.slice none 0 0,.int .i64 0,.int .i64 0,.int .i64 0,.slice none 0 0,.slice none 0 0,.int .i64 0,.slice none 0 0] 37)).heap.size:=by simp
 have wG:Hid (ay c.uid):=i1
 clear h A2 kC kR g0 g1 g2 i0 i1 i2 i3 i4 hres hok
 go_enter Tryz.func47,Tryz.ntmps47
 go_upto_region 1 with fail
 generalize (w.alloc (.cells #[.int .i64 c.k,.slice x0 m0 z0,.slice x1 m1 z1,.int .i64 c.uid,.int .i64 c.mode,.int .i64 c.fl,.int .i64 c.si,.slice x2 m2 z2] 28)).alloc (.cells #[.int .i64 0,.int .i64 0,.slice none 0 0,.int .i64 0,.int .i64 0,.int .i64 0,.slice none 0 0,.slice none 0 0,.int .i64 0,.slice none 0 0] 37)=w1 at HD HA bO aQ hzz ⊢
 obtain ⟨dJ,cap',v0,v5,f,e1,-,-,hlb,-,-,⟨-,c1,-⟩,-,-,-,j0,-⟩:=HD.out.read hb
 rw [hu] at e1
 simp only [Value.slice.injEq,Option.some.injEq,Addr.mk.injEq,and_true,true_and] at e1
 obtain ⟨rfl,rfl⟩:=e1
 have hlc:=lt_of_heap bO.out
 have cu:w1.cell? ⟨w.heap.size,3,none⟩=some (.int .i64 c.uid):=(cell_of_row _ _ 3 _ _ (0,0) bO.out).trans rfl
 have dF:Hid (∀ w',Below w1.heap.size w1 w'→w'.cell? ⟨gb,i * 7+1,none⟩=some (.int .i64 b.valid)∧w'.cell? ⟨w.heap.size,3,none⟩=some (.int .i64 c.uid)):=fun w' hw=>⟨(hw.cell (p:=⟨gb,_,none⟩) hlb).trans c1,(hw.cell (p:=⟨_,3,none⟩) hlc).trans cu⟩
 have D1:Below w1.heap.size w1 w1.drew:=(bd _ _)
 have A3:Below w1.heap.size w1 (w1.drew.alloc (.cells #[.int .i64 0,.int .i64 0] 103)):=D1.alloc (Nat.le_refl _) _
 have HJ:=ak j0
 clear c1 cu j0
 refine eO 8 (S:=fun w'=>w'.cell? ⟨gb,i * 7+1,none⟩=some (.int .i64 b.valid)∧w'.cell? ⟨w.heap.size,3,none⟩=some (.int .i64 c.uid)) (eH (by kernel_rfl) abj) (by kernel_rfl) (dF.out _ D1) (fun aj ahz=>?_)
 refine tks 0 0 13 aj ahz ?_
 refine tks 1 1 14 aj ahz ?_
 refine tks 2 2 15 aj ahz ?_
 refine tks 3 3 16 aj ahz ?_
 refine tks 4 4 17 aj ahz ?_
 refine tks 5 5 18 aj ahz ?_
 refine tks 6 6 19 aj ahz ?_
 refine cls 7 7 aj (by decide) rfl rfl (fun K hK=>?_)
 go_simp
 refine hK.out _ _ (dF.out _ A3) (fun ahz=>?_)
 clear hK K
 refine gH (S':=fun w'=>True) 8 9 aj (by decide) trivial (fun ahz=>?_)
 refine cls 8 8 aj (by decide) rfl rfl (fun K hK=>?_)
 go_simp
 refine hK.out _ _ trivial (fun ahz=>?_)
 clear hK K
 refine eP aj ?_
 go_upto_region 2 with fail
 have A5:Below w1.heap.size w1 (w1.alloc (.cells #[.int .i64 b.valid,.int .i64 c.uid] 103)).drew:=(bn _ _).drew
 have HD2:=ak (HD.out.below A5)
 have HA2:=ak (Below.step HA.out A5)
 have ku:=ak (aB A5 bO.out)
 have cB:=ak (aB A5 aQ.out)
 have HKK:Hid ((w1.alloc (.cells #[.int .i64 b.valid,.int .i64 c.uid] 103)).drew.heap[w1.heap.size]?=some (.cells #[.int .i64 b.valid,.int .i64 c.uid] 103 (0,0))):=aW w1 _
 have hz2:(w1.alloc (.cells #[.int .i64 b.valid,.int .i64 c.uid] 103)).drew.heap.size=w1.heap.size+1:=(show (w1.alloc (.cells #[.int .i64 b.valid,.int .i64 c.uid] 103)).heap.size=_ by simp)
 clear dF HD HA bO aQ A5 D1 A3 hlc
 generalize (w1.alloc (.cells #[.int .i64 b.valid,.int .i64 c.uid] 103)).drew=w2 at HD2 HA2 ku cB HKK hz2 ⊢
 obtain ⟨p0,p1,p2,p3,p4,p5,qX,uO⟩:=HD2.out.map.looked HJ.out wG.out (HD2.out.ents b (List.mem_of_getElem? hb))
 generalize hok:(b.ah.findIdx? fun m=>decide (m.uid=c.uid)).isSome=ok at qX
 have p8:=ak hok
 have qU:=ak uO
 have HS2:Hid (∀ w',Below w2.heap.size w2 w'→w'.cell? ⟨gd,2,none⟩=some (.map (some g))∧w'.rangeAt w1.heap.size 0 [.int .i64 b.valid,.int .i64 c.uid]∧(Instr.lookup 78 (.map (some g)) (.agg #[.int .i64 b.valid,.int .i64 c.uid]) true).run Tryz.prog w'=.ok (.tuple #[.agg #[.int .i64 p0,.int .i64 p1,.int .i64 p2,.slice p3 p4 p5],.bool ok]) w'):=fun w' hw=>⟨(cell_of_row _ gd 2 _ _ (0,0) (HD2.out.below hw).cells).trans rfl,nk (aB hw HKK.out),qX w' (hw.block g HD2.out.map.lt)⟩
 have D2:Below w2.heap.size w2 w2.drew:=(bd _ _)
 have A4:Below w2.heap.size w2 (w2.drew.alloc (.cells #[.int .i64 0,.int .i64 0,.int .i64 0,.slice none 0 0] 72)):=D2.alloc (Nat.le_refl _) _
 have mM:Below w2.heap.size w2 (w2.alloc (.cells #[.int .i64 p0,.int .i64 p1,.int .i64 p2,.slice p3 p4 p5] 72)).drew:=(bn _ _).drew
 have bE:=lt_of_heap HD2.out.cells
 clear uO qX hok
 refine eO 12 (S:=fun w'=>w'.cell? ⟨gd,2,none⟩=some (.map (some g))∧w'.rangeAt w1.heap.size 0 [.int .i64 b.valid,.int .i64 c.uid]∧(Instr.lookup 78 (.map (some g)) (.agg #[.int .i64 b.valid,.int .i64 c.uid]) true).run Tryz.prog w'=.ok (.tuple #[.agg #[.int .i64 p0,.int .i64 p1,.int .i64 p2,.slice p3 p4 p5],.bool ok]) w') (eH (by kernel_rfl) abk) (by kernel_rfl) (HS2.out _ D2) (fun aj ahz=>?_)
 refine tks 0 0 21 aj ahz ?_
 refine tks 1 1 22 aj ahz ?_
 refine tks 2 2 23 aj ahz ?_
 refine tks 3 3 24 aj ahz ?_
 refine qp 4 4 25 103 (.tmp 7) w1.heap.size 0 [.int .i64 b.valid,.int .i64 c.uid] aj ahz (fun w h=>h.2.1) pE ?_
 refine tks 5 5 26 aj ahz ?_
 refine tks 6 6 20 aj ahz ?_
 refine tks 7 7 27 aj ahz ?_
 refine tks 8 8 28 aj ahz ?_
 refine cls 9 9 aj (by decide) rfl rfl (fun K hK=>?_)
 go_simp
 refine hK.out _ _ (HS2.out _ A4) (fun ahz=>?_)
 clear hK K
 refine cls 10 10 aj (by decide) rfl rfl (fun K hK=>?_)
 go_simp
 refine hK.out _ _ (HS2.out _ mM) (fun ahz=>?_)
 clear hK K
 refine tks 11 11 9 aj ahz ?_
 refine eP aj ?_
 go_upto_region 3 with fail
 have HD3:=ak (HD2.out.below mM)
 have dZ:=ak (Below.step HA2.out mM)
 have nO:=ak (aB mM ku.out)
 have cK:=ak (aB mM cB.out)
 have yC:=ak (aB mM HKK.out)
 have jE:Hid ((w2.alloc (.cells #[.int .i64 p0,.int .i64 p1,.int .i64 p2,.slice p3 p4 p5] 72)).drew.heap[w1.heap.size+1]?=some (.cells #[.int .i64 p0,.int .i64 p1,.int .i64 p2,.slice p3 p4 p5] 72 (0,0))):=by rw [← hz2];exact aW w2 _
 have hz3:w1.heap.size+2≤(w2.alloc (.cells #[.int .i64 p0,.int .i64 p1,.int .i64 p2,.slice p3 p4 p5] 72)).drew.heap.size:=by rw [← show w2.heap.size+1=w1.heap.size+2 by omega];exact (show w2.heap.size+1≤(w2.alloc (.cells #[.int .i64 p0,.int .i64 p1,.int .i64 p2,.slice p3 p4 p5] 72)).heap.size by simp)
 clear HS2 A4 mM D2 HD2 HA2 ku cB HKK hz2 bE
 generalize (w2.alloc (.cells #[.int .i64 p0,.int .i64 p1,.int .i64 p2,.slice p3 p4 p5] 72)).drew=w3 at HD3 dZ nO cK yC jE hz3 ⊢
 have wH:=ak (K9 wt w3 S gd g n a u0 u1 (.slice x1 m1 z1) E c.tt HD3.out (uL.out.below HD3.out.base))
 obtain ⟨o0,o1,o2,o3,o4,o5,o6,o7,o8⟩:=bQ nO.out
 go_wp2_with fail
 refine wH.out.mono ?_
 rintro e w4 ⟨p,rfl,B4,hp⟩
 have HP:=ak hp
 have HD4:=ak (HD3.out.below B4)
 have gX:=ak (Below.step dZ.out B4)
 have FP:=ak (aB B4 nO.out)
 have fF:=ak (aB B4 cK.out)
 have CV:=ak (aB B4 yC.out)
 have oV:=ak (aB B4 jE.out)
 have hs4:=B4.size
 clear hp B4 wH o0 o1 o2 o3 o4 o5 o6 o7 o8 HD3 dZ nO cK yC jE
 cases ok with
 | false =>
  have bJ:Hid (res=(a,aN 1 0)):=by
   show _=_
   rw [bH.out]
   exact FL (by have:=p8.out;simpa using this)
  have HF:=ak (HD4.out.done (n:=n) (fun k hk=>.inl hk) (fZ gX.out) (by omega) fF.out (fun hS=>by have:=HSL.out _ hS;omega) hw0 (by omega) (c:=1) (x:=0) ⟨by decide,by decide⟩ aI)
  obtain ⟨yz,yl,y0,y1,y2,y3,y4,y5,y6,y7,y8,y9⟩:=gG fF.out
  go_wp2
  have ff:=aO HF.out.1
  refine bodyPost_ret (v:=aY 1 0) (by simp [results,Tryz.results47,aY,go_sem,ff]) rfl ⟨aY 1 0,rfl,?_⟩
  rw [bJ.out]
  exact HF.out.2
 | true =>
  obtain ⟨j,hj⟩:∃ j,b.ah.findIdx? (fun m=>decide (m.uid=c.uid))=some j:=Option.isSome_iff_exists.1 p8.out
  obtain ⟨m,hm⟩:∃ m,b.ah[j]?=some m:=⟨_,aL (List.findIdx?_eq_some_iff_getElem.1 hj).1⟩
  obtain ⟨rfl,rfl,rfl,hmu,htb,ou⟩:=qU.out j m hj hm
  rcases HP.out with ⟨rfl,hfn⟩ | ⟨t,bt,dJ,cap',rfl,hft,hbt,hu'⟩
  ·have bJ:Hid (res=(a,aN 1 0)):=by
    show _=_
    rw [bH.out]
    exact FM hfn
   clear hfn hj hm hmu htb ou
   have HF:=ak (HD4.out.done (n:=n) (fun k hk=>.inl hk) (fZ gX.out) (by omega) fF.out (fun hS=>by have:=HSL.out _ hS;omega) hw0 (by omega) (c:=1) (x:=0) ⟨by decide,by decide⟩ aI)
   obtain ⟨yz,yl,y0,y1,y2,y3,y4,y5,y6,y7,y8,y9⟩:=gG fF.out
   go_wp2
   have ff:=aO HF.out.1
   refine bodyPost_ret (v:=aY 1 0) (by simp [results,Tryz.results47,aY,go_sem,ff]) rfl ⟨aY 1 0,rfl,?_⟩
   rw [bJ.out]
   exact HF.out.2
  ·rw [hu] at hu'
   simp only [Value.slice.injEq,Option.some.injEq,Addr.mk.injEq,and_true,true_and] at hu'
   obtain ⟨rfl,rfl⟩:=hu'
   obtain ⟨aw,haw⟩:∃ aw,aw=decide (c.mode=1):=⟨_,rfl⟩
   obtain ⟨rm,hrm⟩:∃ rm,rm=dh bt (if aw=true∧t=i then 0 else 1):=⟨_,rfl⟩
   obtain ⟨fu,hfu⟩:∃ fu,fu=(aw && decide (999999≤b.seq)):=⟨_,rfl⟩
   have wJ:=ak (bH.out.trans (copy_eq hj hft hm hbt haw hrm hfu))
   have sQ:=ak hrm
   have FQ:=ak hfu
   have HM:=ak hm
   have La:=ak hmu
   have oG:=ak htb
   have Ck:=ak ou
   obtain ⟨o0,o1,o2,o3,o4,o5,o6,o7,o8⟩:=bQ FP.out
   have hmo:(c.mode == 1)=aw:=by rw [haw];rfl
   have htl:=(gs1 hbt).1
   have hil:=(gs1 hb).1
   clear hj hm hmu htb ou hft bH qU p8 HP hrm hfu haw uL
   go_upto_region 7 with fail
   clear o0 o1 o2 o3 o4 o5 o6 o7 o8
   go_cut [12] (fun s wx=>s=.bool (!aw || decide (t≠i))∧wx=w4)
   case first =>
    cases aw with
    | false =>
     go_wp2
     go_meet
     case rel=>exact ⟨rfl,rfl⟩
    | true =>
     by_cases hti:t=i
     ·subst hti
      have hpp:=abl ⟨gb,t * 7,none⟩ w4
      go_wp2
      go_meet
      case rel=>exact ⟨by simp,rfl⟩
     ·obtain ⟨gx,cx,cur,_,_,ex,-,-,hx,-⟩:=HD4.out.box hb
      rw [hu] at ex
      simp only [Value.slice.injEq,Option.some.injEq,Addr.mk.injEq,and_true,true_and] at ex
      obtain ⟨rfl,rfl⟩:=ex
      have hpp:=abm (a:=⟨gb,t * 7,none⟩) (b:=⟨gb,i * 7,none⟩) w4 (fun e=>hti (by injection e;omega)) hx hx
      clear hx
      go_wp2
      go_meet
      case rel=>exact ⟨by simp [hti],rfl⟩
   case rest =>
    obtain ⟨rfl,rfl⟩:=hcut
    generalize hnr:(!aw || decide (t≠i))=nr
    have Lb:=ak hnr
    clear hnr
    obtain ⟨dJ,cap',yx,vJ,f',gY,-,-,hlb,-,-,⟨-,-,c2,c3,-⟩,-⟩:=HD4.out.read hbt
    rw [hu] at gY
    simp only [Value.slice.injEq,Option.some.injEq,Addr.mk.injEq,and_true,true_and] at gY
    obtain ⟨rfl,rfl⟩:=gY
    have xX:=ak (FN.out bt (List.mem_of_getElem? hbt))
    have kg:=ak (Pv gb (t * 7) bt wc c2 c3 hlb)
    have mK:=ak (IX wt wc S gd g n t gb cap a bt u0 u1 E HD4.out hbt hu (by omega) xX.out.2.2.1)
    clear c2 c3 hlb
    go_upto_region 8 with fail
    go_cut [61] (fun s wx=>s=.bool (!rm)∧Hid (Below wc.heap.size wc wx))
    case first =>
     by_cases hcn:bt.seq < 1000000∧bt.next < 1000000
     ·have hB1:(decide (bt.seq < 1000000) && decide (bt.next < 1000000))=true:=by simp [hcn]
      have HC:=ak hcn
      rw [hB1] at kg
      clear hB1 hcn
      cases nr with
      | false =>
       have HR:Hid (rm=true):=by
        show _=_
        rw [sQ.out,if_pos (by have:=Lb.out;simpa using this)]
        unfold dh
        have:=HC.out
        have:=xX.out.2.2.1
        simp
        omega
       go_wp2_with (go_at_call 73;refine kg.out.mono ?_;rintro e w5 ⟨rfl,rfl⟩)
       go_meet
       case rel=>exact ⟨by rw [HR.out];rfl,Below.refl _ _⟩
      | true =>
       have HR:Hid (rm=decide (bt.ah.length+1≤12)):=by
        show _=_
        rw [sQ.out,if_neg (by rintro ⟨h1,h2⟩;have:=Lb.out;simp [h1,h2] at this)]
        unfold dh
        have:=HC.out
        simp [this]
        omega
       go_wp2_with fail
       refine kg.out.mono ?_
       rintro e w5 ⟨rfl,rfl⟩
       go_wp2_with fail
       refine mK.out.mono ?_
       rintro e w6 ⟨rfl,B6⟩
       have vC:=ak B6
       clear B6
       by_cases hl:bt.ah.length=12
       ·have hl1:((bt.ah.length:Int) == 12)=true:=by simp [hl]
        go_wp2
        go_meet
        case rel=>exact ⟨by rw [HR.out];simp [hl],vC.out⟩
       ·have hl1:((bt.ah.length:Int) == 12)=false:=by simp;omega
        go_wp2
        go_meet
        case rel=>exact ⟨by rw [HR.out];have:=xX.out.2.2.1;simp;omega,vC.out⟩
     ·have hB1:(decide (bt.seq < 1000000) && decide (bt.next < 1000000))=false:=by
       by_cases h1:bt.seq < 1000000
       ·simp [h1];omega
       ·simp [h1]
      have HR:Hid (rm=false):=by
       show _=_
       rw [sQ.out]
       unfold dh
       rw [← Bool.and_assoc,hB1]
       rfl
      rw [hB1] at kg
      clear hB1 hcn
      go_wp2_with (go_at_call 73;refine kg.out.mono ?_;rintro e w5 ⟨rfl,rfl⟩)
      go_meet
      case rel=>exact ⟨by rw [HR.out];rfl,Below.refl _ _⟩
    case rest =>
     obtain ⟨rfl,iW⟩:=hcut
     clear kg mK Lb
     rename_i wp _
     have hs5:=iW.out.size
     have HD5:=ak (HD4.out.below iW.out)
     have lT:=ak (Below.step gX.out iW.out)
     have mX:=ak (aB iW.out fF.out)
     have Sj:=ak (aB iW.out CV.out)
     have Lc:=ak (aB iW.out oV.out)
     clear HD4 gX fF CV oV FP iW
     cases rm with
     | false =>
      have bJ:Hid (res=(a,aN 3 0)):=by show _=_;rw [wJ.out,if_pos (.inl rfl)]
      have HF:=ak (HD5.out.done (n:=n) (fun k hk=>.inl hk) (fZ lT.out) (by omega) mX.out (fun hS=>by have:=HSL.out _ hS;omega) hw0 (by omega) (c:=3) (x:=0) ⟨by decide,by decide⟩ aI)
      obtain ⟨yz,yl,y0,y1,y2,y3,y4,y5,y6,y7,y8,y9⟩:=gG mX.out
      go_wp2
      have ff:=aO HF.out.1
      refine bodyPost_ret (v:=aY 3 0) (by simp [results,Tryz.results47,aY,go_sem,ff]) rfl ⟨aY 3 0,rfl,?_⟩
      rw [bJ.out]
      exact HF.out.2
     | true =>
      obtain ⟨dJ,cap',yx,vJ,f',gY,-,-,hlb,hgs,fz,⟨-,-,-,c3,-⟩,-,-,-,-,-,jq,-⟩:=HD5.out.read hb
      rw [hu] at gY
      simp only [Value.slice.injEq,Option.some.injEq,Addr.mk.injEq,and_true,true_and] at gY
      obtain ⟨rfl,rfl⟩:=gY
      go_upto_region 10 with fail
      go_cut [70] (fun s wx=>s=.bool fu∧wx=wc)
      case first =>
       cases aw with
       | false =>
        go_wp2
        go_meet
        case rel=>exact ⟨by rw [FQ.out];rfl,rfl⟩
       | true =>
        go_wp2
        go_meet
        case rel=>exact ⟨by rw [FQ.out];rfl,rfl⟩
      case rest =>
       obtain ⟨rfl,rfl⟩:=hcut
       cases fu with
       | true =>
        have bJ:Hid (res=(a,aN 3 0)):=by show _=_;rw [wJ.out,if_pos (.inr rfl)]
        clear c3 fz hlb hgs
        have HF:=ak (HD5.out.done (n:=n) (fun k hk=>.inl hk) (fZ lT.out) (by omega) mX.out (fun hS=>by have:=HSL.out _ hS;omega) hw0 (by omega) (c:=3) (x:=0) ⟨by decide,by decide⟩ aI)
        obtain ⟨yz,yl,y0,y1,y2,y3,y4,y5,y6,y7,y8,y9⟩:=gG mX.out
        go_wp2
        have ff:=aO HF.out.1
        refine bodyPost_ret (v:=aY 3 0) (by simp [results,Tryz.results47,aY,go_sem,ff]) rfl ⟨aY 3 0,rfl,?_⟩
        rw [bJ.out]
        exact HF.out.2
       | false =>
        have HR:Hid (bt.seq < 1000000∧bt.next < 1000000):=by
         have:=sQ.out
         unfold dh at this
         simp only [Bool.true_eq,Bool.and_eq_true,decide_eq_true_eq] at this
         exact ⟨this.1,this.2.1⟩
        obtain ⟨a1,ha1⟩:∃ a1,a1=if aw=true then aH a i (aV (aX b) j) else a:=⟨_,rfl⟩
        rw [← ha1,if_neg (by simp)] at wJ
        have HA1:=ak ha1
        clear ha1
        go_upto_if 72 with fail
        go_cut [] (fun wx=>∃ S' E',Hid (aT wt wx S' gd g n a1 u0 u1 E')∧Hid (∀ k,S' k→S k∨w1.heap.size+2≤k)∧Hid (iV w wx S gd g)∧Hid (wx.heap[w.heap.size+1]?=some (.cells #[.int .i64 0,.int .i64 0,.slice none 0 0,.int .i64 0,.int .i64 0,.int .i64 0,.slice none 0 0,.slice none 0 0,.int .i64 0,.slice none 0 0] 37 (0,0)))∧Hid (wx.heap[w1.heap.size+1]?=some (.cells #[.int .i64 m.uid,.int .i64 m.flags,.int .i64 m.seq,.slice p3 p4 p5] 72 (0,0)))∧w1.heap.size+2≤wx.heap.size)
        case first =>
         cases aw with
         | false =>
          go_wp2
          go_meet
          case rel=>exact ⟨S,E,(show aT _ _ _ _ _ _ _ _ _ _ by rw [HA1.out];exact HD5.out),fun k hk=>.inl hk,fZ lT.out,mX.out,Lc.out,by omega⟩
         | true =>
          have hq:¬ 999999≤b.seq:=by have:=FQ.out;simpa using this
          have jl:=jq.1
          have j3:ay (b.seq+1):=⟨by omega,by omega⟩
          have h6:=HD5.out.su hb hu j3
          have hgw:=HSL.out _ hgs
          have T6:=yj (v:=.int .i64 (b.seq+1)) (j:=i * 7+3) HD5.out hu hil (fun k hk=>.inl hk) (fZ lT.out (S:=S) (gd:=gd) (g:=g))
          have xu:=cO (k:=gb) (i:=i * 7+3) (v:=.int .i64 (b.seq+1)) Lc.out (by omega)
          have Sk:=cO (k:=gb) (i:=i * 7+3) (v:=.int .i64 (b.seq+1)) mX.out (by omega)
          have FR:=cO (k:=gb) (i:=i * 7+3) (v:=.int .i64 (b.seq+1)) Sj.out (by omega)
          have hs6:(wc.setCell ⟨gb,i * 7+3,none⟩ (.int .i64 (b.seq+1))).heap.size=wc.heap.size:=bf
          have hb6:(aH a i (aX b)).boxes[i]?=some (aX b):=List.getElem?_set_self hil
          have yD:=ak (R5 wt _ S gd g n i j gb cap (aH a i (aX b)) (aX b) m u0 u1 E h6 hb6 (by rw [hu];simp [aH]) HM.out (FN.out b (List.mem_of_getElem? hb)).2.2.2)
          rw [← La.out] at FR
          obtain ⟨k0,k1⟩:=qy FR
          have kl:=lt_of_heap FR
          have kU:=ak T6
          have qP:=ak xu
          have iU:=ak Sk
          have HD6:=ak h6
          clear hq FR T6 xu Sk h6
          go_upto_region 14 with fail
          generalize wc.setCell ⟨gb,i * 7+3,none⟩ (.int .i64 (b.seq+1))=w6 at yD kU qP iU HD6 k0 k1 kl hs6 ⊢
          go_wp2_with fail
          refine yD.out.mono ?_
          rintro e w7 ⟨rfl,S7,hD7,uP,jG⟩
          have Ld:=HD6.out.off qP.out (by decide) (by decide)
          have Le:=HD6.out.off iU.out (by decide) (by decide)
          have lm:=lt_of_heap qP.out
          have zN:=ak ((jG.2.1 _ lm Ld.1 Ld.2.1 (fun hS=>by have:=HSL.out _ hS;omega)).trans qP.out)
          have qD:=ak ((jG.2.1 _ (by omega) Le.1 Le.2.1 (fun hS=>by have:=HSL.out _ hS;omega)).trans iU.out)
          have HD7:Hid (aT wt w7 S7 gd g n a1 u0 u1 (jY E (aX b).valid m.uid)):=by
           have e:aH (aH a i (aX b)) i (aV (aX b) j)=a1:=by rw [HA1.out];simp only [aH,List.set_set,if_true]
           rw [e] at hD7
           exact hD7
          have jv:Hid (∀ k,S7 k→S k∨w1.heap.size+2≤k):=fun k hk=>(uP k hk).imp id (by omega)
          have iN:=ak (kU.out.trans jG (fun k hk=>.inl hk))
          have hs7:=jG.1
          clear hD7 uP jG Ld Le yD k0 k1 kl
          go_wp2
          go_meet
          case rel=>exact ⟨S7,_,HD7.out,jv.out,iN.out,qD.out,zN.out,by omega⟩
        case rest =>
         obtain ⟨S6,E6,HD6,qY,kU,iU,qP,hs6⟩:=hcut
         clear HD5 lT mX Sj Lc hlb c3 fz
         obtain ⟨bu,hbu,hbv,hbn,hbs,hbx⟩:∃ bu,a1.boxes[t]?=some bu∧bu.valid≤a1.valid∧wD bu∧bu.seq < 1000000∧bu.next < 1000000:=by
          have hB:=FN.out bt (List.mem_of_getElem? hbt)
          have hB2:=FN.out b (List.mem_of_getElem? hb)
          rw [HA1.out]
          cases aw with
          | false=>exact ⟨bt,hbt,hB.1,hB.2.1,HR.out⟩
          | true =>
           by_cases hti:t=i
           ·subst hti
            have ebb:b=bt:=by rw [hb] at hbt;exact Option.some.inj hbt
            subst ebb
            have hq:¬ 999999≤b.seq:=by have:=FQ.out;simpa using this
            obtain ⟨d1,d2,d3⟩:=abo HM.out
            refine ⟨aV (aX b) j,List.getElem?_set_self hil,by rw [d1];exact hB.1,abn hB.2.1 HM.out,by omega,by rw [d2];exact HR.out.2⟩
           ·exact ⟨bt,(List.getElem?_set_ne (Ne.symm hti)).trans hbt,hB.1,hB.2.1,HR.out⟩
         have Sl:u0=.slice (some ⟨gb,0,none⟩) a1.boxes.length cap:=by
          have:a1.boxes.length=a.boxes.length:=by
           rw [HA1.out]
           cases aw <;> simp [aH]
          rw [this]
          exact hu
         obtain ⟨_,_,_,_,_,-,-,-,-,-,-,-,-,-,-,-,jn,-⟩:=HD6.out.read hbu
         have wE:=ak (RX wt wc S6 gd g n t gb cap a1 bu u0 u1 (.slice p3 p4 p5) E6 m.flags m.text HD6.out hbu Sl (by omega) hbv hbn hbs hbx Ck.out.2.1 oG.out)
         have bJ:Hid (res=(aH a1 t (jA bu m.flags m.text),aN 0 bu.next)):=by
          show _=_
          rw [wJ.out,hbu]
         obtain ⟨n0,n1,n2,n3⟩:=iZ qP.out
         have nl:=lt_of_heap qP.out
         have HJN:=ak jn
         clear hbu hbv hbn hbs hbx Sl jn
         go_wp2_with fail
         refine wE.out.mono ?_
         rintro e w7 ⟨rfl,S7,u7,n7,E7,hD7,uP,jG,hn7⟩
         unfold aY
         have hof:=HD6.out.off iU.out (by decide) (by decide)
         have hrl:=lt_of_heap iU.out
         have qD:=ak ((jG.2.1 _ hrl hof.1 hof.2.1 (fun hS=>(qY.out _ hS).elim (fun h=>by have:=HSL.out _ h;omega) (by omega))).trans iU.out)
         have HD7:=ak hD7
         have jv:Hid (∀ k,S7 k→S k∨w1.heap.size+2≤k):=fun k hk=>(uP k hk).elim (qY.out k) (fun h=>.inr (by omega))
         have iN:=ak (kU.out.trans jG (fun k hk=>(qY.out k hk).imp id (by omega)))
         clear hD7 uP jG wE n0 n1 n2 n3 nl hof
         have HF:=ak (HD7.out.done (n:=n) (fun k hk=>(jv.out k hk).imp id (by omega)) iN.out (by omega) qD.out (fun hS=>(jv.out _ hS).elim (fun h=>by have:=HSL.out _ h;omega) (by omega)) hw0 (by omega) (c:=0) (x:=bu.next) ⟨by decide,by decide⟩ HJN.out)
         obtain ⟨yz,yl,y0,y1,y2,y3,y4,y5,y6,y7,y8,y9⟩:=gG qD.out
         go_wp2
         have ff:=aO HF.out.1
         refine bodyPost_ret (v:=aY 0 bu.next) (by simp [results,Tryz.results47,aY,go_sem,ff]) rfl ⟨aY 0 bu.next,rfl,?_⟩
         rw [bJ.out]
         exact HF.out.2
/- agZ of package oU gP: what a box has that is newer. -/
theorem abt:(Tryz.f50.body.bind (bR 2)).all (fun o=>dW o 12 [0,1,2,3,4,5,6,7,8,9,10,11] [9,11] [10,12] 8)=true:=by kernel_rfl
/-- What is newer. -/
def CW (b:aA) (q:Int):aA:=⟨b.name,b.valid,b.next,b.seq,b.ah.filter (fun m=>decide (q < m.seq)),b.au.filter (fun x=>decide (q < x.seq)),b.lost⟩
/-- What a box must be that is told. -/
structure Fit (b:aA):Prop where
 nm:b.name.length≤2000000
 ms:b.ah.length≤12
 tx:∀ m ∈ b.ah,m.text.length≤2000000
 gs:b.au.length≤1000
theorem Sm (wt w:World) (S:Nat→Prop) (gd g n i gb cap:Nat) (a:aF) (b:aA) (u0 u1:Value) (E:aU) (q:Int) (h:aT wt w S gd g n a u0 u1 E) (hb:a.boxes[i]?=some b) (hu:u0=.slice (some ⟨gb,0,none⟩) a.boxes.length cap) (hn:n≤2000000) (hf:Fit b) :
  Calls Tryz.prog 50 #[.pointer (some ⟨gd,0,none⟩),.pointer (some ⟨gb,i * 7,none⟩),.int .i64 q] w fun e w'=>∃ v,e=.returned v∧xk w' (In w.heap.size w'.heap.size) v (CW b q)∧Below w.heap.size w w':=by
 have A1:Below w.heap.size w (w.alloc (.cells #[.slice none 0 0,.int .i64 0,.int .i64 0,.int .i64 0,.slice none 0 0,.slice none 0 0,.int .i64 0] 34)):=bn _ _
 have HK:=ak (aW w (.cells #[.slice none 0 0,.int .i64 0,.int .i64 0,.int .i64 0,.slice none 0 0,.slice none 0 0,.int .i64 0] 34))
 have h1:=h.below A1
 obtain ⟨dJ,cap',v0,v5,f,e1,-,-,hlb,-,fz,⟨c0,c1,c2,c3,c4,c5,c6⟩,r0,r5,-,ii⟩:=h1.read hb
 rw [hu] at e1
 simp only [Value.slice.injEq,Option.some.injEq,Addr.mk.injEq,and_true,true_and] at e1
 obtain ⟨rfl,rfl⟩:=e1
 have hbv:bI (w.alloc (.cells #[.slice none 0 0,.int .i64 0,.int .i64 0,.int .i64 0,.slice none 0 0,.slice none 0 0,.int .i64 0] 34)) (.agg #[v0,.int .i64 b.valid,.int .i64 b.next,.int .i64 b.seq,.slice none 0 0,v5,.int .i64 b.lost]) (wF b):=⟨v0,.slice none 0 0,v5,rfl,r0.bs,Rd.nil _,r5.1,ii⟩
 have fq:=ak (Bc _ (wF b) _ hbv hf.nm)
 obtain ⟨na,nn,nc,rfl⟩:=r0.bs.aG
 obtain ⟨ga,gc,rfl,-⟩:=r5.1.form
 have AV:Hid (∀ wi,Below (w.alloc (.cells #[.slice none 0 0,.int .i64 0,.int .i64 0,.int .i64 0,.slice none 0 0,.slice none 0 0,.int .i64 0] 34)).heap.size (w.alloc (.cells #[.slice none 0 0,.int .i64 0,.int .i64 0,.int .i64 0,.slice none 0 0,.slice none 0 0,.int .i64 0] 34)) wi→dD wi (.slice ga b.au.length gc) b.au):=fun wi h=>r5.1.below gU h
 have CB:Hid (∀ bb off,ga=some ⟨bb,off,none⟩→bb < (w.alloc (.cells #[.slice none 0 0,.int .i64 0,.int .i64 0,.int .i64 0,.slice none 0 0,.slice none 0 0,.int .i64 0] 34)).heap.size):=fun bb off e=>by
  subst e
  obtain ⟨-,cur,hh,-⟩:=r5.2 _ _ _ rfl
  exact lt_of_heap hh
 have HD:=ak h1
 have HA:=ak A1
 have HF:=ak hf
 have HI:=ak ii
 have HE:=ak (h1.ents b (List.mem_of_getElem? hb))
 have bE:=lt_of_heap h1.cells
 have hz1:(w.alloc (.cells #[.slice none 0 0,.int .i64 0,.int .i64 0,.int .i64 0,.slice none 0 0,.slice none 0 0,.int .i64 0] 34)).heap.size=w.heap.size+1:=by simp
 clear h h1 hbv r0 r5 A1 hf ii
 go_enter Tryz.func50,Tryz.ntmps50
 go_wp2_with fail
 refine fq.out.mono ?_
 rintro e w2 ⟨xa,xn,xc,rfl,nP,hB2⟩
 have A3:Below w2.heap.size w2 (w2.alloc (.cells #[.slice xa xn xc,.int .i64 b.valid,.int .i64 b.next,.int .i64 b.seq,(.slice none 0 0),(.slice none 0 0),.int .i64 b.lost] 34)):=bn _ _
 have D3:Below (w2.alloc (.cells #[.slice xa xn xc,.int .i64 b.valid,.int .i64 b.next,.int .i64 b.seq,(.slice none 0 0),(.slice none 0 0),.int .i64 b.lost] 34)).heap.size (w2.alloc (.cells #[.slice xa xn xc,.int .i64 b.valid,.int .i64 b.next,.int .i64 b.seq,(.slice none 0 0),(.slice none 0 0),.int .i64 b.lost] 34)) (w2.alloc (.cells #[.slice xa xn xc,.int .i64 b.valid,.int .i64 b.next,.int .i64 b.seq,(.slice none 0 0),(.slice none 0 0),.int .i64 b.lost] 34)).drew:=(bd _ _)
 have lU:=Below.step (Below.step hB2 A3) D3
 have h3:=HD.out.below lU
 have Ez:=ak (aB D3 (aW w2 (.cells #[.slice xa xn xc,.int .i64 b.valid,.int .i64 b.next,.int .i64 b.seq,(.slice none 0 0),(.slice none 0 0),.int .i64 b.lost] 34)))
 have HR3:=ak (aB lU HK.out)
 have nY:=ak (Below.step HA.out lU)
 have jU:=ak (nP.below (Below.step A3 D3))
 have HS2:Hid ((w2.alloc (.cells #[.slice xa xn xc,.int .i64 b.valid,.int .i64 b.next,.int .i64 b.seq,(.slice none 0 0),(.slice none 0 0),.int .i64 b.lost] 34)).drew.cell? ⟨gd,2,none⟩=some (.map (some g))∧(w2.alloc (.cells #[.slice xa xn xc,.int .i64 b.valid,.int .i64 b.next,.int .i64 b.seq,(.slice none 0 0),(.slice none 0 0),.int .i64 b.lost] 34)).drew.cell? ⟨gb,i * 7+1,none⟩=some (.int .i64 b.valid)):=⟨(cell_of_row _ gd 2 _ _ (0,0) h3.cells).trans rfl,(lU.cell (p:=⟨gb,_,none⟩) hlb).trans c1⟩
 have Sn:=ak ((lU.cell (p:=⟨gb,_,none⟩) hlb).trans c5)
 have Sq:=ak (Xa g n E b.valid q b.ah _ (h3.map.mm h3.base) hn HI.out.1 HE.out HF.out.ms HF.out.tx)
 have vU:Hid (∀ wi,Below (w2.alloc (.cells #[.slice xa xn xc,.int .i64 b.valid,.int .i64 b.next,.int .i64 b.seq,(.slice none 0 0),(.slice none 0 0),.int .i64 b.lost] 34)).drew.heap.size (w2.alloc (.cells #[.slice xa xn xc,.int .i64 b.valid,.int .i64 b.next,.int .i64 b.seq,(.slice none 0 0),(.slice none 0 0),.int .i64 b.lost] 34)).drew wi→dD wi (.slice ga b.au.length gc) b.au):=fun wi h=>AV.out wi (Below.step lU h)
 have hl1:gd < (w2.alloc (.cells #[.slice xa xn xc,.int .i64 b.valid,.int .i64 b.next,.int .i64 b.seq,(.slice none 0 0),(.slice none 0 0),.int .i64 b.lost] 34)).drew.heap.size:=lt_of_heap h3.cells
 have hl2:gb < (w2.alloc (.cells #[.slice xa xn xc,.int .i64 b.valid,.int .i64 b.next,.int .i64 b.seq,(.slice none 0 0),(.slice none 0 0),.int .i64 b.lost] 34)).drew.heap.size:=Nat.lt_of_lt_of_le hlb lU.size
 have iJ:gb < w2.heap.size:=Nat.lt_of_lt_of_le hlb hB2.size
 have hs2:=hB2.size
 rw [hz1] at hs2
 have hs3:(w2.alloc (.cells #[.slice xa xn xc,.int .i64 b.valid,.int .i64 b.next,.int .i64 b.seq,(.slice none 0 0),(.slice none 0 0),.int .i64 b.lost] 34)).drew.heap.size=w2.heap.size+1:=(show (w2.alloc (.cells #[.slice xa xn xc,.int .i64 b.valid,.int .i64 b.next,.int .i64 b.seq,(.slice none 0 0),(.slice none 0 0),.int .i64 b.lost] 34)).heap.size=_ by simp)
 clear h3 A3 D3 lU HD HA HE nP HK hB2 fq c0 c1 c2 c3 c4 c5 c6 fz hlb bE AV
 go_upto_region 2 with fail
 refine eO 10 (S:=fun w'=>w'.cell? ⟨gd,2,none⟩=some (.map (some g))∧w'.cell? ⟨gb,i * 7+1,none⟩=some (.int .i64 b.valid)) (eH (by kernel_rfl) abt) (by kernel_rfl) (HS2.out) (fun aj ahz=>?_)
 refine tks 0 0 12 aj ahz ?_
 refine tks 1 1 13 aj ahz ?_
 refine tks 2 2 14 aj ahz ?_
 refine tks 3 3 15 aj ahz ?_
 refine tks 4 4 16 aj ahz ?_
 refine tks 5 5 17 aj ahz ?_
 refine tks 6 6 18 aj ahz ?_
 refine tks 7 7 19 aj ahz ?_
 refine tks 8 8 20 aj ahz ?_
 refine cls 9 9 aj (by decide) rfl rfl (fun K hK=>?_)
 go_simp
 refine Sq.out.mono ?_
 rintro e w4 ⟨mv,rfl,Lf,hB4⟩
 obtain ⟨ma,mn,mc,rfl⟩:∃ a n c,mv=.slice a n c:=by
  rcases Lf with ⟨h,-⟩ | ⟨_,_,_,_,_,h,-⟩
  ·exact ⟨_,_,_,h⟩
  ·exact ⟨_,_,_,h⟩
 have qQ:Hid (w4.cell? ⟨gd,2,none⟩=some (.map (some g))∧w4.cell? ⟨gb,i * 7+1,none⟩=some (.int .i64 b.valid)):=⟨(hB4.cell (p:=⟨gd,2,none⟩) hl1).trans HS2.out.1,(hB4.cell (p:=⟨gb,_,none⟩) hl2).trans HS2.out.2⟩
 refine hK.out _ _ (qQ.out) (fun ahz=>?_)
 clear hK K
 have ji:=ak (aB hB4 Ez.out)
 have hl4:=lt_of_heap ji.out
 obtain ⟨t0,t1,t2,t3,t4,t5,t6⟩:=bU ji.out
 have tz:=(aZ ji.out).1
 refine gH (S':=fun w'=>True) 10 12 aj (by decide) (trivial) (fun ahz=>?_)
 refine tks 10 10 22 aj ahz ?_
 refine cls 11 11 aj (by decide) rfl rfl (fun K hK=>?_)
 go_simp
 refine hK.out _ _ (trivial) (fun ahz=>?_)
 clear hK K
 refine eP aj ?_
 clear t0 t1 t2 t3 t4 t5 t6 tz hl4 qQ Sq HS2
 have hs4:=hB4.size
 have sN:=ak (aJ (i:=4) (v:=.slice ma mn mc) ji.out)
 have Lg:=ak (cO (k:=w2.heap.size) (i:=4) (v:=.slice ma mn mc) (aB hB4 HR3.out) (by omega))
 have iC:=ak ((Below.step nY.out hB4).setCell (p:=⟨w2.heap.size,4,none⟩) (show w.heap.size≤w2.heap.size by omega) (.slice ma mn mc))
 have Lh:Hid (∀ k,k≠w2.heap.size→(w4.setCell ⟨w2.heap.size,4,none⟩ (.slice ma mn mc)).heap[k]?=w4.heap[k]?):=fun k hk=>Below.heap_setCell _ _ _ _ hk
 have vV:=ak (vU.out _ hB4)
 have Sr:=ak ((hB4.cell (p:=⟨gb,_,none⟩) hl2).trans Sn.out)
 have abu:gb < (w4.setCell ⟨w2.heap.size,4,none⟩ (.slice ma mn mc)).heap.size:=by rw [bf];exact Nat.lt_of_lt_of_le hl2 hB4.size
 have zO:(w4.setCell ⟨w2.heap.size,4,none⟩ (.slice ma mn mc)).heap.size=w4.heap.size:=bf
 have uy:(w4.setCell ⟨w2.heap.size,4,none⟩ (.slice ma mn mc)).cell? ⟨gb,i * 7+5,none⟩=some (.slice ga b.au.length gc):=by
  rw [World.cell?_setCell_far _ _ _ _ (show w2.heap.size≠gb by omega)]
  exact Sr.out
 have Sv:Hid (dD (w4.setCell ⟨w2.heap.size,4,none⟩ (.slice ma mn mc)) (.slice ga b.au.length gc) b.au):=by
  have hk:=ji.out
  obtain ⟨a',cp,cs,e',k1,k2,k3,k4,k5⟩:=vV.out
  refine ⟨a',cp,cs,e',k1,k2,k3,k4,fun hp=>?_⟩
  obtain ⟨bb,off,ea,hbb,hcc⟩:=k5 hp
  refine ⟨bb,off,ea,by rw [bf];exact hbb,fun p j u hp' hj=>?_⟩
  have hc:=hcc p j u hp' hj
  by_cases e:bb=w2.heap.size
  ·have hlt:=CB.out bb off (by rw [← ea];cases e';rfl)
   rw [hz1] at hlt
   omega
  ·rw [World.cell?_setCell_far _ _ _ _ (show w2.heap.size≠bb from fun x=>e x.symm)]
   exact hc
 have Li:=ak (Ow.frame qw Lf fun k hk _=>Lh.out k (by have:=hk.1;omega))
 have Lj:=ak (RO.frame ((jU.out.below hB4)) fun k hk _=>Lh.out k (by have:=hk.2;omega))
 clear Lf jU hB4 vV Sr Sn ji HR3 nY Ez hl1 hl2 vU
 generalize w4.setCell ⟨w2.heap.size,4,none⟩ (.slice ma mn mc)=w5 at sN Lg iC Lh abu uy Sv Li Lj zO ⊢
 have Sw:=ak (abd _ b.au q w5 Sv.out HF.out.gs)
 go_wp2_with fail
 refine Sw.out.mono ?_
 rintro e w6 ⟨gv,rfl,Ll,kL⟩
 obtain ⟨oa,on,oc,rfl⟩:∃ a n c,gv=.slice a n c:=by
  rcases Ll with ⟨h,-⟩ | ⟨_,_,_,_,_,h,-⟩
  ·exact ⟨_,_,_,h⟩
  ·exact ⟨_,_,_,h⟩
 have hs6:=kL.size
 have KB:=aB kL sN.out
 have KR:=aB kL Lg.out
 have X6:=Below.step iC.out kL
 obtain ⟨q0,q1,q2,q3,q4,q5,q6⟩:=bU (show w6.heap[w2.heap.size]?=some (.cells #[.slice xa xn xc,.int .i64 b.valid,.int .i64 b.next,.int .i64 b.seq,.slice ma mn mc,(.slice none 0 0),.int .i64 b.lost] 34 (0,0)) from KB)
 have qz:=(aZ KB).1
 have ql:=lt_of_heap KB
 have K7:(w6.setCell ⟨w2.heap.size,5,none⟩ (.slice oa on oc)).heap[w2.heap.size]?=some (.cells #[.slice xa xn xc,.int .i64 b.valid,.int .i64 b.next,.int .i64 b.seq,.slice ma mn mc,.slice oa on oc,.int .i64 b.lost] 34 (0,0)):=aJ (i:=5) (v:=.slice oa on oc) KB
 have wK:=cO (k:=w2.heap.size) (i:=5) (v:=.slice oa on oc) KR (by omega)
 have X7:=X6.setCell (p:=⟨w2.heap.size,5,none⟩) (show w.heap.size≤w2.heap.size by omega) (.slice oa on oc)
 have e7:(w6.setCell ⟨w2.heap.size,5,none⟩ (.slice oa on oc)).heap.size=w6.heap.size:=bf
 have FT:=ak (Xm wK (N:=w.heap.size) (Nat.le_refl _) X7 (.slice xa xn xc) (.int .i64 b.valid) (.int .i64 b.next) (.int .i64 b.seq) (.slice ma mn mc) (.slice oa on oc) (.int .i64 b.lost))
 have p8:Hid (∀ k,k≠w.heap.size→k≠w2.heap.size→(World.setCell (World.setCell (World.setCell (World.setCell (World.setCell (World.setCell (World.setCell (w6.setCell ⟨w2.heap.size,5,none⟩ (.slice oa on oc)) ⟨w.heap.size,0,none⟩ (.slice xa xn xc)) ⟨w.heap.size,1,none⟩ (.int .i64 b.valid)) ⟨w.heap.size,2,none⟩ (.int .i64 b.next)) ⟨w.heap.size,3,none⟩ (.int .i64 b.seq)) ⟨w.heap.size,4,none⟩ (.slice ma mn mc)) ⟨w.heap.size,5,none⟩ (.slice oa on oc)) ⟨w.heap.size,6,none⟩ (.int .i64 b.lost)).heap[k]?=w6.heap[k]?):=fun k h1 h2=>(FT.out.2.2.1 k h1).trans (Below.heap_setCell _ _ _ _ (show k≠w2.heap.size from h2))
 have HM6:=ak (Li.out.below qw kL)
 have HR6:=ak (Lj.out.below kL)
 have nZ:=ak Ll
 obtain ⟨f0,f1,f2,f3,f4,f5,f6⟩:=bU FT.out.1
 obtain ⟨t0,t1,t2,t3,t4,t5,t6⟩:=bU K7
 obtain ⟨y0,y1,y2,y3,y4,y5,y6⟩:=bU wK
 have rz:=(aZ wK).1
 have rl:=lt_of_heap wK
 clear Ll kL Sw Li Lj sN Lg iC KB KR X6 K7 wK X7
 go_wp2
 refine bodyPost_ret (v:=.agg #[.slice xa xn xc,.int .i64 b.valid,.int .i64 b.next,.int .i64 b.seq,.slice ma mn mc,.slice oa on oc,.int .i64 b.lost]) (by simp [results,Tryz.results50,go_sem,f0,f1,f2,f3,f4,f5,f6]) rfl ⟨_,rfl,?_,FT.out.2.1⟩
 have hsz:=FT.out.2.2.2
 refine ⟨_,rfl,_,_,_,In (w.heap.size+1) w2.heap.size,In (w2.heap.size+1) w4.heap.size,In w4.heap.size w6.heap.size,rfl,(RO.mono HR6.out fun k hk=>⟨by have:=hk.1;omega,hk.2⟩).frame fun k hk _=>p8.out k (by have:=hk.1;omega) (by have:=hk.2;omega),(Ow.mono HM6.out fun k hk=>⟨by have:=hk.1;omega,hk.2⟩).frame qw fun k hk _=>p8.out k (by have:=hk.1;omega) (by have:=hk.1;omega),(Ow.mono nZ.out fun k hk=>⟨by have:=hk.1;omega,hk.2⟩).frame nT fun k hk _=>p8.out k (by have:=hk.1;omega) (by have:=hk.1;omega),fun k hk=>⟨⟨by have:=hk.1;omega,by rw [hsz,e7];have:=hk.2;omega⟩,fun h=>by have:=h.1;have:=hk.2;omega,fun h=>by have:=h.1;have:=hk.2;omega⟩,fun k hk=>⟨⟨by have:=hk.1;omega,by rw [hsz,e7];have:=hk.2;omega⟩,fun h=>by have:=h.1;have:=hk.2;omega⟩,fun k hk=>⟨by have:=hk.1;omega,by rw [hsz,e7];exact hk.2⟩,HI.out⟩
end Go.Proofs.YtmglhdkeidhafaaGreat
