/- The proof's texts, part 35. -/
import Derived.Test.YtmglhdkeidhafaaGreatTy
import Derived.Test.YtmglhdkeidhafaaGreatTv
namespace Go.Proofs.YtmglhdkeidhafaaGreat
open Go.RowKit
set_option linter.unusedVariables false
set_option linter.unusedSimpArgs false
set_option maxHeartbeats 4000000
set_option maxRecDepth 100000
/- Fz of package oU gP. -/
theorem abP:(Tryz.f77.body.bind (bR 1)).all (fun o=>dW o 10 [0,1,2,3,4,5,6,7,8,9] [] [10] 0)=true:=by kernel_rfl
theorem abQ (x:Int):0≤bits .and .i64 x 8:=by
 show 0≤IntKind.i64.wrap ((BitVec.ofInt 64 x &&& BitVec.ofInt 64 8).toNat:Nat)
 have:(BitVec.ofInt 64 x &&& BitVec.ofInt 64 8).toNat≤8:=by
  rw [BitVec.toNat_and]
  exact Nat.le_trans Nat.and_le_right (by decide)
 rw [IntKind.wrap_i64]
 omega
/-- Does the dV with this key stay? -/
def sV (E:aU) (x:Int × Int):Bool:=match bW E x.1 x.2 with
 | some m=>bits .and .i64 m.flags 8 == 0
 | none=>true
theorem abR {E:aU} {v:Int} {ms:List aC} (h:dG E v ms) {m:aC} (hm:m ∈ ms):sV E (v,m.uid) = !fD m:=by
 unfold sV
 rw [show bW E (v,m.uid).1 (v,m.uid).2=some m from h.get hm]
 unfold fD
 have:=abQ m.flags
 rw [Bool.eq_iff_iff]
 simp
 omega
theorem abS {E:aU} {v:Int} {ms:List aC} (h:dG E v ms):(((ms.map fun m=>m.uid).map fun u=>(v,u)).filter fun x=>!sV E x)=((ms.filter fD).map fun m=>m.uid).map fun u=>(v,u):=by
 rw [List.map_map,List.map_map,List.filter_map]
 congr 1
 refine List.filter_congr fun m hm=>?_
 show (!sV E (v,m.uid))=fD m
 rw [abR h hm,Bool.not_not]
theorem SE {w w':World} {kv:Value} {v:Int} {us:List Int} (hK:xB w' kv (us.map fun u=>(v,u))) (hB:Below w.heap.size w w') (h:us=[]∨∃ gk cap,kv=.slice (some ⟨gk,0,none⟩) (us.map fun u=>(v,u)).length cap∧w.heap.size≤gk∧bP 103 2 fB w' gk cap [] (us.map fun u=>(v,u)) 0) :
  ∃ oa gk cp,kv=.slice oa (us.map fun u=>(v,u)).length cp∧w.heap.size≤gk∧(us.map fun u=>(v,u)).length≤cp∧cp≤maxLen∧((us.map fun u=>(v,u))≠[]→oa=some ⟨gk,0,none⟩∧bP 103 2 fB w' gk cp [] (us.map fun u=>(v,u)) 0):=by
 obtain ⟨oa,cp,rfl,h1,h2⟩:=hK.form
 rcases h with rfl | ⟨gk,cap,e,h3,h4⟩
 ·exact ⟨oa,w.heap.size,cp,rfl,Nat.le_refl _,h1,h2,fun h=>absurd rfl h⟩
 ·simp only [Value.slice.injEq,true_and] at e
  obtain ⟨rfl,rfl⟩:=e
  exact ⟨_,gk,cp,rfl,h3,h1,h2,fun _=>⟨rfl,h4⟩⟩
theorem abT (a b c:Int) (d:Value) (w:World):(Instr.field 72 (.agg #[.int .i64 a,.int .i64 b,.int .i64 c,d]) 1).run Tryz.prog w=.ok (.int .i64 b) w:=by kernel_rfl
theorem abU (wi:World) (bv gd g n:Nat) (E:aU) (v:Int) (ms:List aC) (m:aC) (h0:wi.cell? ⟨bv,0,none⟩=some (.pointer (some ⟨gd,0,none⟩))) (h2:∀ w',Below wi.heap.size wi w'→w'.cell? ⟨gd,2,none⟩=some (.map (some g))∧w'.cell? ⟨bv,0,none⟩=some (.pointer (some ⟨gd,0,none⟩))∧MM w' g n E) (hE:dG E v ms) (hm:m ∈ ms) :
  Calls Tryz.prog 77 #[.agg #[.int .i64 v,.int .i64 m.uid],.pointer (some ⟨bv,0,none⟩)] wi fun e w'=>e=.returned (.bool (sV E (v,m.uid)))∧Below wi.heap.size wi w':=by
 have A1:Below wi.heap.size wi (wi.alloc (.cells #[.int .i64 v,.int .i64 m.uid] 103)).drew:=(bn _ _).drew
 obtain ⟨d2,d0,SF⟩:=h2 _ A1
 obtain ⟨x,⟨tx,rfl,hbt,i0,i1,i2⟩,hrun⟩:=SF.get (hE.get hm)
 obtain ⟨ta,tn,tc,rfl⟩:=hbt.aG
 have hk:=aW wi (.cells #[.int .i64 v,.int .i64 m.uid] 103)
 have k0:(wi.alloc (.cells #[.int .i64 v,.int .i64 m.uid] 103)).drew.cell? ⟨wi.heap.size,0,none⟩=some (.int .i64 v):=(cell_of_row (wi.alloc (.cells #[.int .i64 v,.int .i64 m.uid] 103)) _ 0 _ _ (0,0) hk).trans rfl
 have k1:(wi.alloc (.cells #[.int .i64 v,.int .i64 m.uid] 103)).drew.cell? ⟨wi.heap.size,1,none⟩=some (.int .i64 m.uid):=(cell_of_row (wi.alloc (.cells #[.int .i64 v,.int .i64 m.uid] 103)) _ 1 _ _ (0,0) hk).trans rfl
 have hfl:=abT m.uid m.flags m.seq (.slice ta tn tc) (wi.alloc (.cells #[.int .i64 v,.int .i64 m.uid] 103)).drew
 have HG:Hid (sV E (v,m.uid)=(bits .and .i64 m.flags 8 == 0)):=by
  show _=_
  unfold sV
  rw [show bW E (v,m.uid).1 (v,m.uid).2=some m from hE.get hm]
 have HA:=ak A1
 clear SF hbt i0 i1 i2 h2 hE hm A1
 have HS:Hid ((wi.alloc (.cells #[.int .i64 v,.int .i64 m.uid] 103)).drew |> fun w'=>w'.cell? ⟨bv,0,none⟩=some (.pointer (some ⟨gd,0,none⟩))∧w'.cell? ⟨gd,2,none⟩=some (.map (some g))∧w'.rangeAt wi.heap.size 0 [.int .i64 v,.int .i64 m.uid]∧(Instr.lookup 78 (.map (some g)) (.agg #[.int .i64 v,.int .i64 m.uid]) false).run Tryz.prog w'=.ok (.agg #[.int .i64 m.uid,.int .i64 m.flags,.int .i64 m.seq,.slice ta tn tc]) w'∧(Instr.field 72 (.agg #[.int .i64 m.uid,.int .i64 m.flags,.int .i64 m.seq,.slice ta tn tc]) 1).run Tryz.prog w'=.ok (.int .i64 m.flags) w'):=⟨d0,d2,nk (w:=(wi.alloc (.cells #[.int .i64 v,.int .i64 m.uid] 103)).drew) hk,hrun,hfl⟩
 clear hk d0 d2 hrun hfl k0 k1
 go_enter Tryz.func77,Tryz.ntmps77
 go_upto_region 1 with fail
 refine eO 10 (S:=fun w'=>w'.cell? ⟨bv,0,none⟩=some (.pointer (some ⟨gd,0,none⟩))∧w'.cell? ⟨gd,2,none⟩=some (.map (some g))∧w'.rangeAt wi.heap.size 0 [.int .i64 v,.int .i64 m.uid]∧(Instr.lookup 78 (.map (some g)) (.agg #[.int .i64 v,.int .i64 m.uid]) false).run Tryz.prog w'=.ok (.agg #[.int .i64 m.uid,.int .i64 m.flags,.int .i64 m.seq,.slice ta tn tc]) w'∧(Instr.field 72 (.agg #[.int .i64 m.uid,.int .i64 m.flags,.int .i64 m.seq,.slice ta tn tc]) 1).run Tryz.prog w'=.ok (.int .i64 m.flags) w') (eH (by kernel_rfl) abP) (by kernel_rfl) HS.out (fun aj ahz=>?_)
 refine tks 0 0 4 aj ahz ?_
 refine tks 1 1 5 aj ahz ?_
 refine tks 2 2 6 aj ahz ?_
 refine tks 3 3 7 aj ahz ?_
 refine qp 4 4 8 103 (.tmp 2) wi.heap.size 0 [.int .i64 v,.int .i64 m.uid] aj ahz (fun w h=>h.2.2.1) pE ?_
 refine tks 5 5 9 aj ahz ?_
 refine tks 6 6 10 aj ahz ?_
 refine tks 7 7 11 aj ahz ?_
 refine tks 8 8 12 aj ahz ?_
 refine tks 9 9 3 aj ahz ?_
 refine eP aj ?_
 go_wp2
 go_ret
 exact ⟨aP HG.out,HA.out⟩
/- store of package oU gP. -/
theorem aT.bs {wt w:World} {S:Nat→Prop} {gd g n:Nat} {a:aF} {u0 u1 v:Value} {E:aU} {l:List Int} (h:aT wt w S gd g n a u0 u1 E) (hb:Bs wt v l):Bs w v l:=hb.below h.base
theorem abV:(Tryz.f44.body.bind (bR 1)).all (fun o=>dW o 9 [0,1,2,3,4,5,6,7,8] [7,8] [8,9] 8)=true:=by kernel_rfl
theorem abW:(Tryz.f44.body.bind (bR 2)).all (fun o=>dW o 12 [0,1,2,3,4,5,6,7,8,9,10,11] [9,10] [12] 0)=true:=by kernel_rfl
theorem abX:(Tryz.f44.body.bind (bR 15)).all (fun o=>dW o 7 [0,1,2,3,4,5,6] [6] [6,7] 8)=true:=by kernel_rfl
theorem abY (wt w:World) (S:Nat→Prop) (gd g n i gb cap:Nat) (a:aF) (b:aA) (u0 u1 cv:Value) (E:aU) (c:dS) (h:aT wt w S gd g n a u0 u1 E) (hb:a.boxes[i]?=some b) (hu:u0=.slice (some ⟨gb,0,none⟩) a.boxes.length cap) (hn:n≤1000000) (hv:b.valid≤a.valid) (hc:iQ wt cv c.k c.bx c.tt c.uid c.mode c.fl c.si c.tx) (qL:b.seq≤1000000) (res:aA × dI) (hres:res=iD b c.uid c.mode c.fl c.si) :
  Calls Tryz.prog 44 #[.pointer (some ⟨gd,0,none⟩),.pointer (some ⟨gb,i * 7,none⟩),cv] w fun e w'=>∃ v,e=.returned v∧dX w' w.heap.size w'.heap.size v res.2∧Left wt w w' S gd g n u1 (aH a i res.1):=by
 have qO:=ak hc
 obtain ⟨q0,q1,q2,rfl,g0,g1,g2,i0,i1,i2,i3,i4⟩:=hc
 obtain ⟨x0,m0,z0,rfl⟩:=g0.aG
 obtain ⟨x1,m1,z1,rfl⟩:=g1.aG
 obtain ⟨x2,m2,z2,rfl⟩:=g2.aG
 obtain ⟨kC,kR,A2⟩:=iX w (.cells #[.int .i64 c.k,.slice x0 m0 z0,.slice x1 m1 z1,.int .i64 c.uid,.int .i64 c.mode,.int .i64 c.fl,.int .i64 c.si,.slice x2 m2 z2] 28) (.cells #[.int .i64 0,.int .i64 0,.slice none 0 0,.int .i64 0,.int .i64 0,.int .i64 0,.slice none 0 0,.slice none 0 0,.int .i64 0,.slice none 0 0] 37)
 have h1:=h.below A2
 have bH:=ak hres
 clear hres
 have HD:=ak h1
 have HA:=ak A2
 have bO:=ak kC
 have aQ:=ak kR
 have wG:=ak (And.intro i1 i3)
 have HSL:Hid (∀ k,S k→k < w.heap.size):=fun k hk=>(h.low k hk).2.1
 have hw0:=h.base.size
 have hzz:w.heap.size+2≤((w.alloc (.cells #[.int .i64 c.k,.slice x0 m0 z0,.slice x1 m1 z1,.int .i64 c.uid,.int .i64 c.mode,.int .i64 c.fl,.int .i64 c.si,.slice x2 m2 z2] 28)).alloc (.cells #[.int .i64 0,.int .i64 0,.slice none 0 0,.int .i64 0,.int .i64 0,.int .i64 0,.slice none 0 0,.slice none 0 0,.int .i64 0,.slice none 0 0] 37)).heap.size:=by simp
 clear h h1 A2 kC kR g0 g1 g2 i0 i1 i2 i3 i4
 go_enter Tryz.func44,Tryz.ntmps44
 go_upto_region 1 with fail
 generalize (w.alloc (.cells #[.int .i64 c.k,.slice x0 m0 z0,.slice x1 m1 z1,.int .i64 c.uid,.int .i64 c.mode,.int .i64 c.fl,.int .i64 c.si,.slice x2 m2 z2] 28)).alloc (.cells #[.int .i64 0,.int .i64 0,.slice none 0 0,.int .i64 0,.int .i64 0,.int .i64 0,.slice none 0 0,.slice none 0 0,.int .i64 0,.slice none 0 0] 37)=w1 at HD HA bO aQ hzz ⊢
 have D1:Below w1.heap.size w1 w1.drew:=(bd _ _)
 have A3:Below w1.heap.size w1 (w1.drew.alloc (.cells #[.int .i64 0,.int .i64 0] 103)):=D1.alloc (Nat.le_refl _) _
 obtain ⟨dJ,cap',v0,v5,f,e1,-,-,hlb,-,-,⟨-,c1,-⟩,-,-,-,j0,j1,j2,-⟩:=HD.out.read hb
 rw [hu] at e1
 simp only [Value.slice.injEq,Option.some.injEq,Addr.mk.injEq,and_true,true_and] at e1
 obtain ⟨rfl,rfl⟩:=e1
 have hlc:=lt_of_heap bO.out
 have cu:w1.cell? ⟨w.heap.size,3,none⟩=some (.int .i64 c.uid):=(cell_of_row _ _ 3 _ _ (0,0) bO.out).trans rfl
 have dF:Hid (w1.drew.cell? ⟨gb,i * 7+1,none⟩=some (.int .i64 b.valid)∧w1.drew.cell? ⟨w.heap.size,3,none⟩=some (.int .i64 c.uid)):=⟨(D1.cell (p:=⟨gb,_,none⟩) hlb).trans c1,(D1.cell (p:=⟨_,3,none⟩) hlc).trans cu⟩
 have SG:Hid ((w1.drew.alloc (.cells #[.int .i64 0,.int .i64 0] 103)).cell? ⟨gb,i * 7+1,none⟩=some (.int .i64 b.valid)∧(w1.drew.alloc (.cells #[.int .i64 0,.int .i64 0] 103)).cell? ⟨w.heap.size,3,none⟩=some (.int .i64 c.uid)):=⟨(A3.cell (p:=⟨gb,_,none⟩) hlb).trans c1,(A3.cell (p:=⟨_,3,none⟩) hlc).trans cu⟩
 have HJ:=ak (And.intro j0 (And.intro j1 j2))
 clear c1 cu A3 j0 j1 j2
 refine eO 8 (S:=fun w'=>w'.cell? ⟨gb,i * 7+1,none⟩=some (.int .i64 b.valid)∧w'.cell? ⟨w.heap.size,3,none⟩=some (.int .i64 c.uid)) (eH (by kernel_rfl) abV) (by kernel_rfl) dF.out (fun aj ahz=>?_)
 refine tks 0 0 11 aj ahz ?_
 refine tks 1 1 12 aj ahz ?_
 refine tks 2 2 13 aj ahz ?_
 refine tks 3 3 14 aj ahz ?_
 refine tks 4 4 15 aj ahz ?_
 refine tks 5 5 16 aj ahz ?_
 refine tks 6 6 17 aj ahz ?_
 refine cls 7 7 aj (by decide) rfl rfl (fun K hK=>?_)
 go_simp
 refine hK.out _ _ SG.out (fun ahz=>?_)
 clear hK K
 refine gH (S':=fun w'=>True) 8 9 aj (by decide) trivial (fun ahz=>?_)
 refine cls 8 8 aj (by decide) rfl rfl (fun K hK=>?_)
 go_simp
 refine hK.out _ _ trivial (fun ahz=>?_)
 clear hK K
 refine eP aj ?_
 go_upto_region 2 with fail
 have A5:Below w1.heap.size w1 (w1.alloc (.cells #[.int .i64 b.valid,.int .i64 c.uid] 103)).drew:=(bn _ _).drew
 have HD2:=ak (HD.out.below A5)
 have HA2:=ak (Below.step HA.out A5)
 have ku:=ak (aB A5 bO.out)
 have cB:=ak (aB A5 aQ.out)
 have HKK:Hid ((w1.alloc (.cells #[.int .i64 b.valid,.int .i64 c.uid] 103)).drew.heap[w1.heap.size]?=some (.cells #[.int .i64 b.valid,.int .i64 c.uid] 103 (0,0))):=aW w1 _
 have hz2:(w1.alloc (.cells #[.int .i64 b.valid,.int .i64 c.uid] 103)).drew.heap.size=w1.heap.size+1:=(show (w1.alloc (.cells #[.int .i64 b.valid,.int .i64 c.uid] 103)).heap.size=_ by simp)
 clear dF SG HD HA bO aQ A5 D1 hlc
 generalize (w1.alloc (.cells #[.int .i64 b.valid,.int .i64 c.uid] 103)).drew=w2 at HD2 HA2 ku cB HKK hz2 ⊢
 obtain ⟨p,qX,uO⟩:=HD2.out.map.looks HJ.out.1 wG.out.1
 obtain ⟨⟨p0,p1,p2⟩,p3,p4,p5⟩:=p
 simp only [pF] at qX uO
 have qU:=ak uO
 have HS2:Hid (∀ w',Below w2.heap.size w2 w'→w'.cell? ⟨gd,2,none⟩=some (.map (some g))∧w'.rangeAt w1.heap.size 0 [.int .i64 b.valid,.int .i64 c.uid]∧(Instr.lookup 78 (.map (some g)) (.agg #[.int .i64 b.valid,.int .i64 c.uid]) true).run Tryz.prog w'=.ok (.tuple #[.agg #[.int .i64 p0,.int .i64 p1,.int .i64 p2,.slice p3 p4 p5],.bool (bW E b.valid c.uid).isSome]) w'):=fun w' hb=>⟨(cell_of_row _ gd 2 _ _ (0,0) (HD2.out.below hb).cells).trans rfl,nk (aB hb HKK.out),qX w' (hb.block g HD2.out.map.lt)⟩
 have D2:Below w2.heap.size w2 w2.drew:=(bd _ _)
 have A4:Below w2.heap.size w2 (w2.drew.alloc (.cells #[.int .i64 0,.int .i64 0,.int .i64 0,.slice none 0 0] 72)):=D2.alloc (Nat.le_refl _) _
 have mM:Below w2.heap.size w2 (w2.alloc (.cells #[.int .i64 p0,.int .i64 p1,.int .i64 p2,.slice p3 p4 p5] 72)).drew:=(bn _ _).drew
 have bE:=lt_of_heap HD2.out.cells
 clear uO qX
 refine eO 12 (S:=fun w'=>w'.cell? ⟨gd,2,none⟩=some (.map (some g))∧w'.rangeAt w1.heap.size 0 [.int .i64 b.valid,.int .i64 c.uid]∧(Instr.lookup 78 (.map (some g)) (.agg #[.int .i64 b.valid,.int .i64 c.uid]) true).run Tryz.prog w'=.ok (.tuple #[.agg #[.int .i64 p0,.int .i64 p1,.int .i64 p2,.slice p3 p4 p5],.bool (bW E b.valid c.uid).isSome]) w') (eH (by kernel_rfl) abW) (by kernel_rfl) (HS2.out _ D2) (fun aj ahz=>?_)
 refine tks 0 0 19 aj ahz ?_
 refine tks 1 1 20 aj ahz ?_
 refine tks 2 2 21 aj ahz ?_
 refine tks 3 3 22 aj ahz ?_
 refine qp 4 4 23 103 (.tmp 7) w1.heap.size 0 [.int .i64 b.valid,.int .i64 c.uid] aj ahz (fun w h=>h.2.1) pE ?_
 refine tks 5 5 24 aj ahz ?_
 refine tks 6 6 18 aj ahz ?_
 refine tks 7 7 25 aj ahz ?_
 refine tks 8 8 26 aj ahz ?_
 refine cls 9 9 aj (by decide) rfl rfl (fun K hK=>?_)
 go_simp
 refine hK.out _ _ (HS2.out _ A4) (fun ahz=>?_)
 clear hK K
 refine cls 10 10 aj (by decide) rfl rfl (fun K hK=>?_)
 go_simp
 refine hK.out _ _ (HS2.out _ mM) (fun ahz=>?_)
 clear hK K
 refine tks 11 11 9 aj ahz ?_
 refine eP aj ?_
 go_upto_region 3 with fail
 have HD3:=ak (HD2.out.below mM)
 have dZ:=ak (Below.step HA2.out mM)
 have nO:=ak (aB mM ku.out)
 have cK:=ak (aB mM cB.out)
 have yC:=ak (aB mM HKK.out)
 have jE:Hid ((w2.alloc (.cells #[.int .i64 p0,.int .i64 p1,.int .i64 p2,.slice p3 p4 p5] 72)).drew.heap[w1.heap.size+1]?=some (.cells #[.int .i64 p0,.int .i64 p1,.int .i64 p2,.slice p3 p4 p5] 72 (0,0))):=by rw [← hz2];exact aW w2 _
 have hz3:w1.heap.size+2≤(w2.alloc (.cells #[.int .i64 p0,.int .i64 p1,.int .i64 p2,.slice p3 p4 p5] 72)).drew.heap.size:=by rw [← show w2.heap.size+1=w1.heap.size+2 by omega];exact (show w2.heap.size+1≤(w2.alloc (.cells #[.int .i64 p0,.int .i64 p1,.int .i64 p2,.slice p3 p4 p5] 72)).heap.size by simp)
 clear HS2 A4 mM D2 HD2 HA2 ku cB HKK hz2 bE
 generalize (w2.alloc (.cells #[.int .i64 p0,.int .i64 p1,.int .i64 p2,.slice p3 p4 p5] 72)).drew=w3 at HD3 dZ nO cK yC jE hz3 ⊢
 have Ls:=ak ((HD3.out.ents b (List.mem_of_getElem? hb)).find c.uid wG.out.1)
 have FV:=ak ((HD3.out.ents b (List.mem_of_getElem? hb)).sorted)
 have hab:aH a i b=a:=Fv hb
 have gK:=ak hab
 clear hab
 cases hfe:bW E b.valid c.uid with
 | none =>
  have bJ:Hid (res=(b,aN 1 0)):=by
   have h0:b.ah.findIdx? (fun m=>decide (m.uid=c.uid))=none:=by
    rw [List.findIdx?_eq_none_iff]
    rw [Ls.out] at hfe
    intro x hx
    simpa using List.find?_eq_none.1 hfe x hx
   show _=_
   rw [bH.out,iD,h0]
  clear hfe
  have HF:=ak (HD3.out.done (n:=n) (fun k hk=>.inl hk) (fZ dZ.out) (by omega) cK.out (fun hS=>by have:=HSL.out _ hS;omega) hw0 (by omega) (c:=1) (x:=0) ⟨by decide,by decide⟩ aI)
  obtain ⟨yz,yl,y0,y1,y2,y3,y4,y5,y6,y7,y8,y9⟩:=gG cK.out
  go_wp2
  have ff:=aO HF.out.1
  refine bodyPost_ret (v:=aY 1 0) (by simp [results,Tryz.results44,aY,go_sem,ff]) rfl ⟨aY 1 0,rfl,?_⟩
  rw [bJ.out]
  rw [show aH a i (b,aN 1 0).1=a from gK.out]
  exact HF.out.2
 | some m =>
  obtain ⟨tu,htu,htb,k0,k1,k2⟩:=qU.out m hfe
  simp only [Value.agg.injEq,Array.mk.injEq,List.cons.injEq,Value.int.injEq,true_and,and_true] at htu
  obtain ⟨rfl,rfl,rfl,rfl⟩:=htu
  rw [Ls.out] at hfe
  obtain ⟨hmm,hmu⟩:=(IQ FV.out c.uid m).1 hfe
  obtain ⟨j,hj⟩:=List.mem_iff_getElem?.1 hmm
  have p9:=Po FV.out hj
  rw [hmu] at p9
  have HST:Hid (res=if 0 < c.si∧c.si < m.seq then (b,aN 4 m.seq) else if fC m.flags c.mode c.fl=m.flags then (b,aN 0 m.seq) else if 1000000≤b.seq then (b,aN 3 0) else (⟨b.name,b.valid,b.next,b.seq+1,b.ah.set j ⟨m.uid,fC m.flags c.mode c.fl,b.seq+1,m.text⟩,b.au,b.lost⟩,aN 0 (b.seq+1))):=by
   show _=_
   rw [bH.out,iD,p9]
   simp only [hj]
  have HJM:=ak hj
  have La:=ak hmu
  have oG:=ak htb
  have dB:=ak (And.intro k0 (And.intro k1 k2))
  clear hfe hmm hj p9 bH htb k0 k1 k2 hmu Ls qU
  obtain ⟨w0,w01,w02,w03,w04,w05,w06,w07,w08⟩:=bQ nO.out
  obtain ⟨n0,n1,n2,n3⟩:=iZ jE.out
  have nl:=lt_of_heap jE.out
  by_cases hst:0 < c.si∧c.si < m.seq
  ·have bJ:Hid (res=(b,aN 4 m.seq)):=by show _=_;rw [HST.out,if_pos hst]
   obtain ⟨h1,h2⟩:=hst
   have HF:=ak (HD3.out.done (n:=n) (fun k hk=>.inl hk) (fZ dZ.out) (by omega) cK.out (fun hS=>by have:=HSL.out _ hS;omega) hw0 (by omega) (c:=4) (x:=m.seq) ⟨by decide,by decide⟩ dB.out.2.2)
   obtain ⟨yz,yl,y0,y1,y2,y3,y4,y5,y6,y7,y8,y9⟩:=gG cK.out
   go_wp2
   have ff:=aO HF.out.1
   refine bodyPost_ret (v:=aY 4 m.seq) (by simp [results,Tryz.results44,aY,go_sem,ff]) rfl ⟨aY 4 m.seq,rfl,?_⟩
   rw [bJ.out]
   rw [show aH a i (b,aN 4 m.seq).1=a from gK.out]
   exact HF.out.2
  ·have FX:Hid (res=if fC m.flags c.mode c.fl=m.flags then (b,aN 0 m.seq) else if 1000000≤b.seq then (b,aN 3 0) else (⟨b.name,b.valid,b.next,b.seq+1,b.ah.set j ⟨m.uid,fC m.flags c.mode c.fl,b.seq+1,m.text⟩,b.au,b.lost⟩,aN 0 (b.seq+1))):=by show _=_;rw [HST.out,if_neg hst]
   have SH:=ak (aaL m.flags c.k c.bx c.tt c.uid c.mode c.fl c.si c.tx _ w3 (let ⟨_,_,_,e,b0,b1,b2,r⟩:=qO.out;⟨_,_,_,e,HD3.out.bs b0,HD3.out.bs b1,HD3.out.bs b2,r⟩))
   have hc2:(¬ 0 < c.si)∨(0 < c.si∧¬ c.si < m.seq):=by omega
   clear hst HST
   obtain h1 | ⟨h1,h2⟩:=hc2
   all_goals
    go_wp2_with fail
    refine SH.out.mono ?_
    rintro e w4 ⟨rfl,B4⟩
    have HD4:=ak (HD3.out.below B4)
    have gX:=ak (Below.step dZ.out B4)
    have fF:=ak (aB B4 cK.out)
    have CV:=ak (aB B4 yC.out)
    have oV:=ak (aB B4 jE.out)
    have hs4:=B4.size
    clear SH B4 w0 w01 w02 w03 w04 w05 w06 w07 w08 n0 n1 n2 n3 nl HD3 dZ nO cK yC jE
    generalize hfl:fC m.flags c.mode c.fl=fx at FX ⊢
    have HFX:=ak hfl
    clear hfl
    obtain ⟨n0,n1,n2,n3⟩:=iZ oV.out
    have nl:=lt_of_heap oV.out
    by_cases hf1:fx=m.flags
    ·have bJ:Hid (res=(b,aN 0 m.seq)):=by show _=_;rw [FX.out,if_pos hf1]
     have hf2:(fx == m.flags)=true:=by simpa using hf1
     clear hf1
     have HF:=ak (HD4.out.done (n:=n) (fun k hk=>.inl hk) (fZ gX.out) (by omega) fF.out (fun hS=>by have:=HSL.out _ hS;omega) hw0 (by omega) (c:=0) (x:=m.seq) ⟨by decide,by decide⟩ dB.out.2.2)
     obtain ⟨yz,yl,y0,y1,y2,y3,y4,y5,y6,y7,y8,y9⟩:=gG fF.out
     go_wp2
     have ff:=aO HF.out.1
     refine bodyPost_ret (v:=aY 0 m.seq) (by simp [results,Tryz.results44,aY,go_sem,ff]) rfl ⟨aY 0 m.seq,rfl,?_⟩
     rw [bJ.out]
     rw [show aH a i (b,aN 0 m.seq).1=a from gK.out]
     exact HF.out.2
    ·have SI:Hid (res=if 1000000≤b.seq then (b,aN 3 0) else (⟨b.name,b.valid,b.next,b.seq+1,b.ah.set j ⟨m.uid,fx,b.seq+1,m.text⟩,b.au,b.lost⟩,aN 0 (b.seq+1))):=by show _=_;rw [FX.out,if_neg hf1]
     have hf2:(fx == m.flags)=false:=by simpa using hf1
     obtain ⟨dJ,cap',yx,vJ,f',gY,-,-,CR,hgs,fz4,⟨-,-,-,c3,-⟩,-⟩:=HD4.out.read hb
     rw [hu] at gY
     simp only [Value.slice.injEq,Option.some.injEq,Addr.mk.injEq,and_true,true_and] at gY
     obtain ⟨rfl,rfl⟩:=gY
     clear hf1 FX
     by_cases hq:b.seq=1000000
     ·have bJ:Hid (res=(b,aN 3 0)):=by show _=_;rw [SI.out,if_pos (by omega)]
      have hq2:(b.seq == 1000000)=true:=by simpa using hq
      clear hq
      have HF:=ak (HD4.out.done (n:=n) (fun k hk=>.inl hk) (fZ gX.out) (by omega) fF.out (fun hS=>by have:=HSL.out _ hS;omega) hw0 (by omega) (c:=3) (x:=0) ⟨by decide,by decide⟩ aI)
      obtain ⟨yz,yl,y0,y1,y2,y3,y4,y5,y6,y7,y8,y9⟩:=gG fF.out
      go_wp2
      have ff:=aO HF.out.1
      refine bodyPost_ret (v:=aY 3 0) (by simp [results,Tryz.results44,aY,go_sem,ff]) rfl ⟨aY 3 0,rfl,?_⟩
      rw [bJ.out]
      rw [show aH a i (b,aN 3 0).1=a from gK.out]
      exact HF.out.2
     ·have bJ:Hid (res=(⟨b.name,b.valid,b.next,b.seq+1,b.ah.set j ⟨m.uid,fx,b.seq+1,m.text⟩,b.au,b.lost⟩,aN 0 (b.seq+1))):=by show _=_;rw [SI.out,if_neg (by omega)]
      have hq2:(b.seq == 1000000)=false:=by simpa using hq
      have hil:=(gs1 hb).1
      have j2':=HJ.out.2.2.1
      have j3:ay (b.seq+1):=⟨by omega,by omega⟩
      have hgw:=HSL.out _ hgs
      have hn1:w.heap.size+1≠gb:=by omega
      have hn2:w1.heap.size≠gb:=by omega
      have zC:w1.heap.size+1≠gb:=by omega
      have KW:w.heap.size+1≠w1.heap.size+1:=by omega
      have h5:=HD4.out.su hb hu j3
      have T5:=yj (v:=.int .i64 (b.seq+1)) (j:=i * 7+3) HD4.out hu hil (fun k hk=>.inl hk) (fZ gX.out (S:=S) (gd:=gd) (g:=g))
      have Lu:=cO (i:=i * 7+3) (v:=.int .i64 (b.seq+1)) oV.out zC
      have hoth:∀ k,k≠w1.heap.size+1→(((w4.setCell ⟨gb,i * 7+3,none⟩ (.int .i64 (b.seq+1))).setCell ⟨w1.heap.size+1,1,none⟩ (.int .i64 fx)).setCell ⟨w1.heap.size+1,2,none⟩ (.int .i64 (b.seq+1))).heap[k]?=(w4.setCell ⟨gb,i * 7+3,none⟩ (.int .i64 (b.seq+1))).heap[k]?:=fun k hk=>(Below.heap_setCell _ _ _ _ (show k≠w1.heap.size+1 from hk)).trans (Below.heap_setCell _ _ _ _ (show k≠w1.heap.size+1 from hk))
      have HD7:=ak (h5.aside (r:=w1.heap.size+1) (w':=((w4.setCell ⟨gb,i * 7+3,none⟩ (.int .i64 (b.seq+1))).setCell ⟨w1.heap.size+1,1,none⟩ (.int .i64 fx)).setCell ⟨w1.heap.size+1,2,none⟩ (.int .i64 (b.seq+1))) (by rw [bf,bf]) ⟨rfl,rfl,rfl⟩ hoth (by omega) (fun hS=>by have:=HSL.out _ hS;omega) (h5.off Lu (by decide) (by decide)))
      have iN:=ak (Cu (r:=w1.heap.size+1) (w':=((w4.setCell ⟨gb,i * 7+3,none⟩ (.int .i64 (b.seq+1))).setCell ⟨w1.heap.size+1,1,none⟩ (.int .i64 fx)).setCell ⟨w1.heap.size+1,2,none⟩ (.int .i64 (b.seq+1))) T5 (by rw [bf,bf]) ⟨rfl,rfl,rfl⟩ hoth (by omega))
      have qD:=ak ((hoth _ KW).trans (cO (i:=i * 7+3) (v:=.int .i64 (b.seq+1)) fF.out hn1))
      have Lv:=ak ((hoth _ (by omega)).trans (cO (i:=i * 7+3) (v:=.int .i64 (b.seq+1)) CV.out hn2))
      have zN:Hid ((((w4.setCell ⟨gb,i * 7+3,none⟩ (.int .i64 (b.seq+1))).setCell ⟨w1.heap.size+1,1,none⟩ (.int .i64 fx)).setCell ⟨w1.heap.size+1,2,none⟩ (.int .i64 (b.seq+1))).heap[w1.heap.size+1]?=some (.cells #[.int .i64 m.uid,.int .i64 fx,.int .i64 (b.seq+1),.slice p3 p4 p5] 72 (0,0))):=aJ (i:=2) (v:=.int .i64 (b.seq+1)) (aJ (i:=1) (v:=.int .i64 fx) Lu)
      have nz:=(aZ oV.out).1
      clear h5 T5 Lu hoth HD4 gX fF CV oV hq
      go_upto_region 15 with fail
      clear c3 fz4 CR nz n0 n1 n2 n3 nl hgs
      generalize ((w4.setCell ⟨gb,i * 7+3,none⟩ (.int .i64 (b.seq+1))).setCell ⟨w1.heap.size+1,1,none⟩ (.int .i64 fx)).setCell ⟨w1.heap.size+1,2,none⟩ (.int .i64 (b.seq+1))=w7 at HD7 iN qD Lv zN ⊢
      have DR:Below w7.heap.size w7 w7.drew:=(bd _ _)
      have h8:=HD7.out.below DR
      have T8:=iN.out.trans (fZ DR) (S':=S) (fun k hk=>.inl hk)
      have zR:=aB DR qD.out
      have bE:=lt_of_heap h8.cells
      have zS:(aH a i ⟨b.name,b.valid,b.next,b.seq+1,b.ah,b.au,b.lost⟩).boxes[i]?=some ⟨b.name,b.valid,b.next,b.seq+1,b.ah,b.au,b.lost⟩:=List.getElem?_set_self hil
      have acd:Hid (w7.drew.cell? ⟨gd,2,none⟩=some (.map (some g))∧w7.drew.rangeAt w1.heap.size 0 [.int .i64 b.valid,.int .i64 c.uid]∧w7.drew.rangeAt (w1.heap.size+1) 0 [.int .i64 m.uid,.int .i64 fx,.int .i64 (b.seq+1),.slice p3 p4 p5]):=⟨(cell_of_row _ gd 2 _ _ (0,0) h8.cells).trans rfl,nk (aB DR Lv.out),nk (aB DR zN.out)⟩
      obtain ⟨w9,hrun,hM,hG⟩:=h8.map.store (md:=⟨m.uid,fx,b.seq+1,m.text⟩) (v:=b.valid) (u:=c.uid) (x:=.agg #[.int .i64 m.uid,.int .i64 fx,.int .i64 (b.seq+1),.slice p3 p4 p5]) (by unfold maxLen;omega) HJ.out.1 wG.out.1 ⟨_,rfl,oG.out,dB.out.1,by rw [← HFX.out];exact OJ wG.out.2,j3⟩
      have sP:=ak hrun
      have hes:=(h8.ents _ (List.mem_of_getElem? zS)).set (m':=⟨m.uid,fx,b.seq+1,m.text⟩) HJM.out rfl
      have hes':dG (jQ E b.valid c.uid ⟨m.uid,fx,b.seq+1,m.text⟩) b.valid (b.ah.set j ⟨m.uid,fx,b.seq+1,m.text⟩):=by rw [← La.out];exact hes
      have FY:=ak (h8.mapped zS hG hM (ms:=b.ah.set j ⟨m.uid,fx,b.seq+1,m.text⟩) hes' (fun v ms hne he=>he.IU hne) (fun e he=>by
       rcases List.mem_append.1 he with he | he
       ·exact h8.high e (List.mem_filter.1 he).1
       ·rw [List.mem_singleton] at he;subst he;exact hv))
      have oH:=ak (Fu T8 hG)
      have rT:=ak (pI hG zR (h8.off zR (by decide) (by decide)).2.1)
      have Lx:=aB DR zN.out
      have SK:=ak (pI hG Lx (h8.off Lx (by decide) (by decide)).2.1)
      have SL:aH (aH a i ⟨b.name,b.valid,b.next,b.seq+1,b.ah,b.au,b.lost⟩) i ⟨b.name,b.valid,b.next,b.seq+1,b.ah.set j ⟨m.uid,fx,b.seq+1,m.text⟩,b.au,b.lost⟩=aH a i ⟨b.name,b.valid,b.next,b.seq+1,b.ah.set j ⟨m.uid,fx,b.seq+1,m.text⟩,b.au,b.lost⟩:=by
       simp only [aH,List.set_set]
      have HAE:=ak SL
      have rU:=hG.size
      have hsr:=iN.out.1
      clear h8 T8 zR Lx SL hrun hM hG hes hes' zS DR HD7 iN qD Lv zN
      refine eO 6 (S:=fun w'=>w'.cell? ⟨gd,2,none⟩=some (.map (some g))∧w'.rangeAt w1.heap.size 0 [.int .i64 b.valid,.int .i64 c.uid]∧w'.rangeAt (w1.heap.size+1) 0 [.int .i64 m.uid,.int .i64 fx,.int .i64 (b.seq+1),.slice p3 p4 p5]) (eH (by kernel_rfl) abX) (by kernel_rfl) acd.out (fun aj ahz=>?_)
      refine tks 0 0 74 aj ahz ?_
      refine tks 1 1 75 aj ahz ?_
      refine tks 2 2 76 aj ahz ?_
      refine tks 3 3 77 aj ahz ?_
      refine qp 4 4 78 103 (.tmp 7) w1.heap.size 0 [.int .i64 b.valid,.int .i64 c.uid] aj ahz (fun w h=>h.2.1) pE ?_
      refine qp 5 5 79 72 (.tmp 8) (w1.heap.size+1) 0 [.int .i64 m.uid,.int .i64 fx,.int .i64 (b.seq+1),.slice p3 p4 p5] aj ahz (fun w h=>h.2.2) Tryz.underlying72 ?_
      refine gH (S':=fun w'=>True) 6 7 aj (by decide) trivial (fun ahz=>?_)
      refine cls 6 6 aj (by decide) rfl rfl (fun K hK=>?_)
      refine Rl _ _ _ _ rfl rfl rfl rfl rfl sP.out ?_
      refine hK.out _ _ trivial (fun ahz=>?_)
      clear hK K
      refine eP aj ?_
      rw [HAE.out] at FY
      obtain ⟨n0,n1,n2,n3⟩:=iZ SK.out
      have nl:=lt_of_heap SK.out
      have HF:=ak (FY.out.done (n:=n) (fun k hk=>.inl hk) oH.out (by omega) rT.out (fun hS=>by have:=HSL.out _ hS;omega) hw0 (by omega) (c:=0) (x:=(b.seq+1)) ⟨by decide,by decide⟩ j3)
      obtain ⟨yz,yl,y0,y1,y2,y3,y4,y5,y6,y7,y8,y9⟩:=gG rT.out
      go_wp2
      have ff:=aO HF.out.1
      refine bodyPost_ret (v:=aY 0 (b.seq+1)) (by simp [results,Tryz.results44,aY,go_sem,ff]) rfl ⟨aY 0 (b.seq+1),rfl,?_⟩
      rw [bJ.out]
      exact HF.out.2
end Go.Proofs.YtmglhdkeidhafaaGreat
