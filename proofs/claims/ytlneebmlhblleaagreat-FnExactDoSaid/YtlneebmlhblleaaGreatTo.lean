/- The proof's texts, part 24. -/
import Derived.Test.YtlneebmlhblleaaGreatTn
namespace Go.Proofs.YtlneebmlhblleaaGreat
open Go.RowKit
set_option linter.unusedVariables false
set_option linter.unusedSimpArgs false
set_option maxHeartbeats 4000000
set_option maxRecDepth 100000
/- What aiz of package impl do. -/
open Go.RowKit Go.Shelf
theorem abE (v:Value) (x:aD) (mv:Int) (w:World) (hv:bK w v x) :
  Calls Tryz.prog 66 #[v,.int .i64 mv] w fun e w'=>e=.returned (.bool (gV x mv))∧Below w.heap.size w w':=by
 have HV:Hid (∀ wi,Below w.heap.size w wi→bK wi v x):=fun wi h=>hv.below h
 obtain ⟨u0,u1,u2,rfl,g0,g1,g2,i0,i1,i2,i3⟩:=hv
 have H0:Hid (∀ wi,Below w.heap.size w wi→Bs wi u0 x.name∧bY wi u1 x.ah∧bO wi u2 x.au):=fun wi h=>⟨g0.below h,g1.below eU h,g2.below dY h⟩
 obtain ⟨a0,n0,c0,rfl⟩:=g0.aG
 obtain ⟨a1,c1,rfl,m0,m1⟩:=g1.form
 obtain ⟨a2,c2,rfl,m2,m3⟩:=g2.form
 have kA:=aV w (.cells #[.slice a0 n0 c0,.int .i64 x.valid,.int .i64 x.next,.int .i64 x.seq,.slice a1 x.ah.length c1,.slice a2 x.au.length c2,.int .i64 x.lost] 37)
 have X:Below w.heap.size w (w.alloc (.cells #[.slice a0 n0 c0,.int .i64 x.valid,.int .i64 x.next,.int .i64 x.seq,.slice a1 x.ah.length c1,.slice a2 x.au.length c2,.int .i64 x.lost] 37)):=bn _ _
 clear g0 g1 g2
 have HC:Hid (gV x mv=(bZ x.name && (aS x.valid 1 mv && (aS x.next 1 1000000 && (aS x.seq 0 1000000 && (aS x.lost 0 x.seq && (qg x && oK x))))))):=rfl
 have HN:Hid (aS x.next 1 1000000=true→1≤x.next∧x.next≤1000000):=by intro h;simp [aS] at h;exact h
 have hy1:=fun wi (h:Bs wi (.slice a0 n0 c0) x.name)=>Sj _ x.name wi h
 have hy2:=jJ x.valid 1 mv
 have hy3:=jJ x.next 1 1000000
 have hy4:=jJ x.seq 0 1000000
 have CY:=jJ x.lost 0 x.seq
 have KZ:=fun wi (h:bK wi (.agg #[.slice a0 n0 c0,.int .i64 x.valid,.int .i64 x.next,.int .i64 x.seq,.slice a1 x.ah.length c1,.slice a2 x.au.length c2,.int .i64 x.lost]) x) h1 h2=>abC _ x wi h h1 h2
 have CZ:=fun wi (h:bK wi (.agg #[.slice a0 n0 c0,.int .i64 x.valid,.int .i64 x.next,.int .i64 x.seq,.slice a1 x.ah.length c1,.slice a2 x.au.length c2,.int .i64 x.lost]) x) h1 h2=>abD _ x wi h h1 h2
 generalize bZ x.name=X1 at HC hy1
 generalize aS x.valid 1 mv=X2 at HC hy2
 generalize aS x.next 1 1000000=X3 at HC hy3 HN
 generalize aS x.seq 0 1000000=X4 at HC hy4
 generalize aS x.lost 0 x.seq=X5 at HC CY
 generalize qg x=X6 at HC KZ
 generalize oK x=X7 at HC CZ
 go_enter Tryz.func66,Tryz.ntmps66
 go_wp2_with fail
 refine (hy1 _ (H0.out _ X).1).mono ?_
 rintro e w1 ⟨rfl,B⟩
 replace kA:=ay B kA
 replace X:=Below.step X B
 clear B hy1
 obtain ⟨f0,f1,f2,f3,f4,f5,f6⟩:=bF kA
 cases X1 with
 | false =>
  go_wp2
  go_ret
  exact ⟨aR HC.out,X⟩
 | true =>
 go_wp2_with fail
 refine (hy2 _).mono ?_
 rintro e w' ⟨rfl,rfl⟩
 cases X2 with
 | false =>
  go_wp2
  go_ret
  exact ⟨aR HC.out,X⟩
 | true =>
 go_wp2_with fail
 refine (hy3 _).mono ?_
 rintro e w' ⟨rfl,rfl⟩
 cases X3 with
 | false =>
  go_wp2
  go_ret
  exact ⟨aR HC.out,X⟩
 | true =>
 obtain ⟨hn0,hn1⟩:=HN.out rfl
 go_wp2_with fail
 refine (hy4 _).mono ?_
 rintro e w' ⟨rfl,rfl⟩
 cases X4 with
 | false =>
  go_wp2
  go_ret
  exact ⟨aR HC.out,X⟩
 | true =>
 go_wp2_with fail
 refine (CY _).mono ?_
 rintro e w' ⟨rfl,rfl⟩
 cases X5 with
 | false =>
  go_wp2
  go_ret
  exact ⟨aR HC.out,X⟩
 | true =>
 go_wp2_with fail
 refine (KZ _ (HV.out _ X) hn0 hn1).mono ?_
 rintro e w2 ⟨rfl,B⟩
 replace kA:=ay B kA
 replace X:=Below.step X B
 clear B KZ f0 f1 f2 f3 f4 f5 f6
 obtain ⟨f0,f1,f2,f3,f4,f5,f6⟩:=bF kA
 cases X6 with
 | false =>
  go_wp2
  go_ret
  exact ⟨aR HC.out,X⟩
 | true =>
 go_wp2_with fail
 refine (CZ _ (HV.out _ X) hn0 hn1).mono ?_
 rintro e w3 ⟨rfl,B⟩
 replace X:=Below.step X B
 go_wp2
 go_ret
 exact ⟨aR HC.out,X⟩
/- What Merge of package impl does. -/
open Go.RowKit Go.Maps
theorem abF {w w1:World} {r N:Nat} {d0 d1 d2 d3 d4 d5 d6:Value} (hk:w1.heap[r]?=some (.cells #[d0,d1,d2,d3,d4,d5,d6] 37 (0,0))) (hr:N≤r) (hb:Below N w w1) (x0 x1 x2 x3 x4 x5 x6:Value) :
  (((((((w1.setCell ⟨r,0,none⟩ (x0)).setCell ⟨r,1,none⟩ (x1)).setCell ⟨r,2,none⟩ (x2)).setCell ⟨r,3,none⟩ (x3)).setCell ⟨r,4,none⟩ (x4)).setCell ⟨r,5,none⟩ (x5)).setCell ⟨r,6,none⟩ (x6)).heap[r]?=some (.cells #[x0,x1,x2,x3,x4,x5,x6] 37 (0,0))∧Below N w (((((((w1.setCell ⟨r,0,none⟩ (x0)).setCell ⟨r,1,none⟩ (x1)).setCell ⟨r,2,none⟩ (x2)).setCell ⟨r,3,none⟩ (x3)).setCell ⟨r,4,none⟩ (x4)).setCell ⟨r,5,none⟩ (x5)).setCell ⟨r,6,none⟩ (x6))∧(∀ k,k≠r→(((((((w1.setCell ⟨r,0,none⟩ (x0)).setCell ⟨r,1,none⟩ (x1)).setCell ⟨r,2,none⟩ (x2)).setCell ⟨r,3,none⟩ (x3)).setCell ⟨r,4,none⟩ (x4)).setCell ⟨r,5,none⟩ (x5)).setCell ⟨r,6,none⟩ (x6)).heap[k]?=w1.heap[k]?)∧(((((((w1.setCell ⟨r,0,none⟩ (x0)).setCell ⟨r,1,none⟩ (x1)).setCell ⟨r,2,none⟩ (x2)).setCell ⟨r,3,none⟩ (x3)).setCell ⟨r,4,none⟩ (x4)).setCell ⟨r,5,none⟩ (x5)).setCell ⟨r,6,none⟩ (x6)).heap.size=w1.heap.size:=by
 replace hk:(World.setCell _ _ _).heap[r]?=some (Obj.cells #[x0,d1,d2,d3,d4,d5,d6] 37 (0,0)):=aP (i:=0) (v:=x0) hk
 replace hk:(World.setCell _ _ _).heap[r]?=some (Obj.cells #[x0,x1,d2,d3,d4,d5,d6] 37 (0,0)):=aP (i:=1) (v:=x1) hk
 replace hk:(World.setCell _ _ _).heap[r]?=some (Obj.cells #[x0,x1,x2,d3,d4,d5,d6] 37 (0,0)):=aP (i:=2) (v:=x2) hk
 replace hk:(World.setCell _ _ _).heap[r]?=some (Obj.cells #[x0,x1,x2,x3,d4,d5,d6] 37 (0,0)):=aP (i:=3) (v:=x3) hk
 replace hk:(World.setCell _ _ _).heap[r]?=some (Obj.cells #[x0,x1,x2,x3,x4,d5,d6] 37 (0,0)):=aP (i:=4) (v:=x4) hk
 replace hk:(World.setCell _ _ _).heap[r]?=some (Obj.cells #[x0,x1,x2,x3,x4,x5,d6] 37 (0,0)):=aP (i:=5) (v:=x5) hk
 replace hk:(World.setCell _ _ _).heap[r]?=some (Obj.cells #[x0,x1,x2,x3,x4,x5,x6] 37 (0,0)):=aP (i:=6) (v:=x6) hk
 refine ⟨hk,(((((((hb.setCell hr _).setCell hr _).setCell hr _).setCell hr _).setCell hr _).setCell hr _).setCell hr _),fun k hk=>?_,by simp only [aZ]⟩
 rw [Below.heap_setCell _ _ _ _ (show k≠r from hk),Below.heap_setCell _ _ _ _ (show k≠r from hk),Below.heap_setCell _ _ _ _ (show k≠r from hk),Below.heap_setCell _ _ _ _ (show k≠r from hk),Below.heap_setCell _ _ _ _ (show k≠r from hk),Below.heap_setCell _ _ _ _ (show k≠r from hk),Below.heap_setCell _ _ _ _ (show k≠r from hk)]
/- aiA of package o9 gH: what a box has that is newer. -/
theorem abG:(Tryz.f86.body.bind (bQ 2)).all (fun o=>dQ o 12 [0,1,2,3,4,5,6,7,8,9,10,11] [9,11] [10,12] 8)=true:=by kernel_rfl
/-- What is newer. -/
def C8 (b:aD) (q:Int):aD:=⟨b.name,b.valid,b.next,b.seq,b.ah.filter (fun m=>decide (q < m.seq)),b.au.filter (fun x=>decide (q < x.seq)),b.lost⟩
/-- What a box must be that is told. -/
structure Fit (b:aD):Prop where
 nm:b.name.length≤2000000
 ms:b.ah.length≤12
 tx:∀ m ∈ b.ah,m.text.length≤2000000
 gs:b.au.length≤1000
theorem Sn (wt w:World) (S:Nat→Prop) (gd g n i gb cap:Nat) (a:aJ) (b:aD) (u0 u1:Value) (E:aX) (q:Int) (h:aW wt w S gd g n a u0 u1 E) (hb:a.boxes[i]?=some b) (hu:u0=.slice (some ⟨gb,0,none⟩) a.boxes.length cap) (hn:n≤2000000) (hf:Fit b) :
  Calls Tryz.prog 86 #[.pointer (some ⟨gd,0,none⟩),.pointer (some ⟨gb,i * 7,none⟩),.int .i64 q] w fun e w'=>∃ v,e=.returned v∧pV w' (In w.heap.size w'.heap.size) v (C8 b q)∧Below w.heap.size w w':=by
 have A1:Below w.heap.size w (w.alloc (.cells #[.slice none 0 0,.int .i64 0,.int .i64 0,.int .i64 0,.slice none 0 0,.slice none 0 0,.int .i64 0] 37)):=bn _ _
 have HK:=ak (aV w (.cells #[.slice none 0 0,.int .i64 0,.int .i64 0,.int .i64 0,.slice none 0 0,.slice none 0 0,.int .i64 0] 37))
 have h1:=h.below A1
 obtain ⟨fF,cap',v0,v5,f,e1,-,-,hlb,-,fz,⟨c0,c1,c2,c3,c4,c5,c6⟩,r0,r5,-,ii⟩:=h1.read hb
 rw [hu] at e1
 simp only [Value.slice.injEq,Option.some.injEq,Addr.mk.injEq,and_true,true_and] at e1
 obtain ⟨rfl,rfl⟩:=e1
 have hbv:bK (w.alloc (.cells #[.slice none 0 0,.int .i64 0,.int .i64 0,.int .i64 0,.slice none 0 0,.slice none 0 0,.int .i64 0] 37)) (.agg #[v0,.int .i64 b.valid,.int .i64 b.next,.int .i64 b.seq,.slice none 0 0,v5,.int .i64 b.lost]) (wQ b):=⟨v0,.slice none 0 0,v5,rfl,r0.bs,Rd.nil _,r5.1,ii⟩
 have mD:=ak (Bh _ (wQ b) _ hbv hf.nm)
 obtain ⟨na,nn,nc,rfl⟩:=r0.bs.aG
 obtain ⟨ga,gc,rfl,-⟩:=r5.1.form
 have BP:Hid (∀ wi,Below (w.alloc (.cells #[.slice none 0 0,.int .i64 0,.int .i64 0,.int .i64 0,.slice none 0 0,.slice none 0 0,.int .i64 0] 37)).heap.size (w.alloc (.cells #[.slice none 0 0,.int .i64 0,.int .i64 0,.int .i64 0,.slice none 0 0,.slice none 0 0,.int .i64 0] 37)) wi→bO wi (.slice ga b.au.length gc) b.au):=fun wi h=>r5.1.below dY h
 have C9:Hid (∀ bb off,ga=some ⟨bb,off,none⟩→bb < (w.alloc (.cells #[.slice none 0 0,.int .i64 0,.int .i64 0,.int .i64 0,.slice none 0 0,.slice none 0 0,.int .i64 0] 37)).heap.size):=fun bb off e=>by
  subst e
  obtain ⟨-,cur,hh,-⟩:=r5.2 _ _ _ rfl
  exact lt_of_heap hh
 have HD:=ak h1
 have HA:=ak A1
 have HF:=ak hf
 have HI:=ak ii
 have HE:=ak (h1.ents b (List.mem_of_getElem? hb))
 have bM:=lt_of_heap h1.cells
 have hz1:(w.alloc (.cells #[.slice none 0 0,.int .i64 0,.int .i64 0,.int .i64 0,.slice none 0 0,.slice none 0 0,.int .i64 0] 37)).heap.size=w.heap.size+1:=by simp
 clear h h1 hbv r0 r5 A1 hf ii
 go_enter Tryz.func86,Tryz.ntmps86
 go_wp2_with fail
 refine mD.out.mono ?_
 rintro e w2 ⟨xa,xn,xc,rfl,oh,hB2⟩
 have A3:Below w2.heap.size w2 (w2.alloc (.cells #[.slice xa xn xc,.int .i64 b.valid,.int .i64 b.next,.int .i64 b.seq,(.slice none 0 0),(.slice none 0 0),.int .i64 b.lost] 37)):=bn _ _
 have D3:Below (w2.alloc (.cells #[.slice xa xn xc,.int .i64 b.valid,.int .i64 b.next,.int .i64 b.seq,(.slice none 0 0),(.slice none 0 0),.int .i64 b.lost] 37)).heap.size (w2.alloc (.cells #[.slice xa xn xc,.int .i64 b.valid,.int .i64 b.next,.int .i64 b.seq,(.slice none 0 0),(.slice none 0 0),.int .i64 b.lost] 37)) (w2.alloc (.cells #[.slice xa xn xc,.int .i64 b.valid,.int .i64 b.next,.int .i64 b.seq,(.slice none 0 0),(.slice none 0 0),.int .i64 b.lost] 37)).drew:=bd _ _
 have mE:=Below.step (Below.step hB2 A3) D3
 have h3:=HD.out.below mE
 have F8:=ak (ay D3 (aV w2 (.cells #[.slice xa xn xc,.int .i64 b.valid,.int .i64 b.next,.int .i64 b.seq,(.slice none 0 0),(.slice none 0 0),.int .i64 b.lost] 37)))
 have HR3:=ak (ay mE HK.out)
 have nU:=ak (Below.step HA.out mE)
 have ko:=ak (oh.below (Below.step A3 D3))
 have HS2:Hid ((w2.alloc (.cells #[.slice xa xn xc,.int .i64 b.valid,.int .i64 b.next,.int .i64 b.seq,(.slice none 0 0),(.slice none 0 0),.int .i64 b.lost] 37)).drew.cell? ⟨gd,2,none⟩=some (.map (some g))∧(w2.alloc (.cells #[.slice xa xn xc,.int .i64 b.valid,.int .i64 b.next,.int .i64 b.seq,(.slice none 0 0),(.slice none 0 0),.int .i64 b.lost] 37)).drew.cell? ⟨gb,i * 7+1,none⟩=some (.int .i64 b.valid)):=⟨(cell_of_row _ gd 2 _ _ (0,0) h3.cells).trans rfl,(mE.cell (p:=⟨gb,_,none⟩) hlb).trans c1⟩
 have Sq:=ak ((mE.cell (p:=⟨gb,_,none⟩) hlb).trans c5)
 have Sr:=ak (Yc g n E b.valid q b.ah _ (h3.map.mm h3.base) hn HI.out.1 HE.out HF.out.ms HF.out.tx)
 have wX:Hid (∀ wi,Below (w2.alloc (.cells #[.slice xa xn xc,.int .i64 b.valid,.int .i64 b.next,.int .i64 b.seq,(.slice none 0 0),(.slice none 0 0),.int .i64 b.lost] 37)).drew.heap.size (w2.alloc (.cells #[.slice xa xn xc,.int .i64 b.valid,.int .i64 b.next,.int .i64 b.seq,(.slice none 0 0),(.slice none 0 0),.int .i64 b.lost] 37)).drew wi→bO wi (.slice ga b.au.length gc) b.au):=fun wi h=>BP.out wi (Below.step mE h)
 have hl1:gd < (w2.alloc (.cells #[.slice xa xn xc,.int .i64 b.valid,.int .i64 b.next,.int .i64 b.seq,(.slice none 0 0),(.slice none 0 0),.int .i64 b.lost] 37)).drew.heap.size:=lt_of_heap h3.cells
 have hl2:gb < (w2.alloc (.cells #[.slice xa xn xc,.int .i64 b.valid,.int .i64 b.next,.int .i64 b.seq,(.slice none 0 0),(.slice none 0 0),.int .i64 b.lost] 37)).drew.heap.size:=Nat.lt_of_lt_of_le hlb mE.size
 have gB:gb < w2.heap.size:=Nat.lt_of_lt_of_le hlb hB2.size
 have hs2:=hB2.size
 rw [hz1] at hs2
 have hs3:(w2.alloc (.cells #[.slice xa xn xc,.int .i64 b.valid,.int .i64 b.next,.int .i64 b.seq,(.slice none 0 0),(.slice none 0 0),.int .i64 b.lost] 37)).drew.heap.size=w2.heap.size+1:=(show (w2.alloc (.cells #[.slice xa xn xc,.int .i64 b.valid,.int .i64 b.next,.int .i64 b.seq,(.slice none 0 0),(.slice none 0 0),.int .i64 b.lost] 37)).heap.size=_ by simp)
 clear h3 A3 D3 mE HD HA HE oh HK hB2 mD c0 c1 c2 c3 c4 c5 c6 fz hlb bM BP
 go_upto_region 2 with fail
 refine eF 10 (S:=fun w'=>w'.cell? ⟨gd,2,none⟩=some (.map (some g))∧w'.cell? ⟨gb,i * 7+1,none⟩=some (.int .i64 b.valid)) (eB (by kernel_rfl) abG) (by kernel_rfl) (HS2.out) (fun aj aks=>?_)
 refine tks 0 0 12 aj aks ?_
 refine tks 1 1 13 aj aks ?_
 refine tks 2 2 14 aj aks ?_
 refine tks 3 3 15 aj aks ?_
 refine tks 4 4 16 aj aks ?_
 refine tks 5 5 17 aj aks ?_
 refine tks 6 6 18 aj aks ?_
 refine tks 7 7 19 aj aks ?_
 refine tks 8 8 20 aj aks ?_
 refine cls 9 9 aj (by decide) rfl rfl (fun K hK=>?_)
 go_simp
 refine Sr.out.mono ?_
 rintro e w4 ⟨mv,rfl,La,hB4⟩
 obtain ⟨ma,mn,mc,rfl⟩:∃ a n c,mv=.slice a n c:=by
  rcases La with ⟨h,-⟩ | ⟨_,_,_,_,_,h,-⟩
  ·exact ⟨_,_,_,h⟩
  ·exact ⟨_,_,_,h⟩
 have rE:Hid (w4.cell? ⟨gd,2,none⟩=some (.map (some g))∧w4.cell? ⟨gb,i * 7+1,none⟩=some (.int .i64 b.valid)):=⟨(hB4.cell (p:=⟨gd,2,none⟩) hl1).trans HS2.out.1,(hB4.cell (p:=⟨gb,_,none⟩) hl2).trans HS2.out.2⟩
 refine hK.out _ _ (rE.out) (fun aks=>?_)
 clear hK K
 have jT:=ak (ay hB4 F8.out)
 have hl4:=lt_of_heap jT.out
 obtain ⟨t0,t1,t2,t3,t4,t5,t6⟩:=bF jT.out
 have tz:=(bR jT.out).1
 refine gL (S':=fun w'=>True) 10 12 aj (by decide) (trivial) (fun aks=>?_)
 refine tks 10 10 22 aj aks ?_
 refine cls 11 11 aj (by decide) rfl rfl (fun K hK=>?_)
 go_simp
 refine hK.out _ _ (trivial) (fun aks=>?_)
 clear hK K
 refine eG aj ?_
 clear t0 t1 t2 t3 t4 t5 t6 tz hl4 rE Sr HS2
 have hs4:=hB4.size
 have Al:=ak (aP (i:=4) (v:=.slice ma mn mc) jT.out)
 have Lb:=ak (bP (k:=w2.heap.size) (i:=4) (v:=.slice ma mn mc) (ay hB4 HR3.out) (by omega))
 have zR:=ak ((Below.step nU.out hB4).setCell (p:=⟨w2.heap.size,4,none⟩) (show w.heap.size≤w2.heap.size by omega) (.slice ma mn mc))
 have Lc:Hid (∀ k,k≠w2.heap.size→(w4.setCell ⟨w2.heap.size,4,none⟩ (.slice ma mn mc)).heap[k]?=w4.heap[k]?):=fun k hk=>Below.heap_setCell _ _ _ _ hk
 have wY:=ak (wX.out _ hB4)
 have Sv:=ak ((hB4.cell (p:=⟨gb,_,none⟩) hl2).trans Sq.out)
 have abH:gb < (w4.setCell ⟨w2.heap.size,4,none⟩ (.slice ma mn mc)).heap.size:=by rw [aZ];exact Nat.lt_of_lt_of_le hl2 hB4.size
 have wW:(w4.setCell ⟨w2.heap.size,4,none⟩ (.slice ma mn mc)).heap.size=w4.heap.size:=aZ
 have uO:(w4.setCell ⟨w2.heap.size,4,none⟩ (.slice ma mn mc)).cell? ⟨gb,i * 7+5,none⟩=some (.slice ga b.au.length gc):=by
  rw [World.cell?_setCell_far _ _ _ _ (show w2.heap.size≠gb by omega)]
  exact Sv.out
 have Sw:Hid (bO (w4.setCell ⟨w2.heap.size,4,none⟩ (.slice ma mn mc)) (.slice ga b.au.length gc) b.au):=by
  have hk:=jT.out
  obtain ⟨a',cp,cs,e',k1,k2,k3,k4,k5⟩:=wY.out
  refine ⟨a',cp,cs,e',k1,k2,k3,k4,fun hp=>?_⟩
  obtain ⟨bb,off,ea,hbb,hcc⟩:=k5 hp
  refine ⟨bb,off,ea,by rw [aZ];exact hbb,fun p j u hp' hj=>?_⟩
  have hc:=hcc p j u hp' hj
  by_cases e:bb=w2.heap.size
  ·have hlt:=C9.out bb off (by rw [← ea];cases e';rfl)
   rw [hz1] at hlt
   omega
  ·rw [World.cell?_setCell_far _ _ _ _ (show w2.heap.size≠bb from fun x=>e x.symm)]
   exact hc
 have Ld:=ak (Ow.frame kI La fun k hk _=>Lc.out k (by have:=hk.1;omega))
 have Le:=ak (RO.frame ((ko.out.below hB4)) fun k hk _=>Lc.out k (by have:=hk.2;omega))
 clear La ko hB4 wY Sv Sq jT HR3 nU F8 hl1 hl2 wX
 generalize w4.setCell ⟨w2.heap.size,4,none⟩ (.slice ma mn mc)=w5 at Al Lb zR Lc abH uO Sw Ld Le wW ⊢
 have Sy:=ak (ZO _ b.au q w5 Sw.out HF.out.gs)
 go_wp2_with fail
 refine Sy.out.mono ?_
 rintro e w6 ⟨gv,rfl,Lf,lJ⟩
 obtain ⟨oa,on,oc,rfl⟩:∃ a n c,gv=.slice a n c:=by
  rcases Lf with ⟨h,-⟩ | ⟨_,_,_,_,_,h,-⟩
  ·exact ⟨_,_,_,h⟩
  ·exact ⟨_,_,_,h⟩
 have hs6:=lJ.size
 have KB:=ay lJ Al.out
 have KR:=ay lJ Lb.out
 have X6:=Below.step zR.out lJ
 obtain ⟨q0,q1,q2,q3,q4,q5,q6⟩:=bF (show w6.heap[w2.heap.size]?=some (.cells #[.slice xa xn xc,.int .i64 b.valid,.int .i64 b.next,.int .i64 b.seq,.slice ma mn mc,(.slice none 0 0),.int .i64 b.lost] 37 (0,0)) from KB)
 have qz:=(bR KB).1
 have ql:=lt_of_heap KB
 have K7:(w6.setCell ⟨w2.heap.size,5,none⟩ (.slice oa on oc)).heap[w2.heap.size]?=some (.cells #[.slice xa xn xc,.int .i64 b.valid,.int .i64 b.next,.int .i64 b.seq,.slice ma mn mc,.slice oa on oc,.int .i64 b.lost] 37 (0,0)):=aP (i:=5) (v:=.slice oa on oc) KB
 have wZ:=bP (k:=w2.heap.size) (i:=5) (v:=.slice oa on oc) KR (by omega)
 have X7:=X6.setCell (p:=⟨w2.heap.size,5,none⟩) (show w.heap.size≤w2.heap.size by omega) (.slice oa on oc)
 have e7:(w6.setCell ⟨w2.heap.size,5,none⟩ (.slice oa on oc)).heap.size=w6.heap.size:=aZ
 have GJ:=ak (abF wZ (N:=w.heap.size) (Nat.le_refl _) X7 (.slice xa xn xc) (.int .i64 b.valid) (.int .i64 b.next) (.int .i64 b.seq) (.slice ma mn mc) (.slice oa on oc) (.int .i64 b.lost))
 have qD:Hid (∀ k,k≠w.heap.size→k≠w2.heap.size→(World.setCell (World.setCell (World.setCell (World.setCell (World.setCell (World.setCell (World.setCell (w6.setCell ⟨w2.heap.size,5,none⟩ (.slice oa on oc)) ⟨w.heap.size,0,none⟩ (.slice xa xn xc)) ⟨w.heap.size,1,none⟩ (.int .i64 b.valid)) ⟨w.heap.size,2,none⟩ (.int .i64 b.next)) ⟨w.heap.size,3,none⟩ (.int .i64 b.seq)) ⟨w.heap.size,4,none⟩ (.slice ma mn mc)) ⟨w.heap.size,5,none⟩ (.slice oa on oc)) ⟨w.heap.size,6,none⟩ (.int .i64 b.lost)).heap[k]?=w6.heap[k]?):=fun k h1 h2=>(GJ.out.2.2.1 k h1).trans (Below.heap_setCell _ _ _ _ (show k≠w2.heap.size from h2))
 have HM6:=ak (Ld.out.below kI lJ)
 have HR6:=ak (Le.out.below lJ)
 have oO:=ak Lf
 obtain ⟨f0,f1,f2,f3,f4,f5,f6⟩:=bF GJ.out.1
 obtain ⟨t0,t1,t2,t3,t4,t5,t6⟩:=bF K7
 obtain ⟨y0,y1,y2,y3,y4,y5,y6⟩:=bF wZ
 have rz:=(bR wZ).1
 have rl:=lt_of_heap wZ
 clear Lf lJ Sy Ld Le Al Lb zR KB KR X6 K7 wZ X7
 go_wp2
 refine bodyPost_ret (v:=.agg #[.slice xa xn xc,.int .i64 b.valid,.int .i64 b.next,.int .i64 b.seq,.slice ma mn mc,.slice oa on oc,.int .i64 b.lost]) (by simp [results,Tryz.results86,go_sem,f0,f1,f2,f3,f4,f5,f6]) rfl ⟨_,rfl,?_,GJ.out.2.1⟩
 have hsz:=GJ.out.2.2.2
 refine ⟨_,rfl,_,_,_,In (w.heap.size+1) w2.heap.size,In (w2.heap.size+1) w4.heap.size,In w4.heap.size w6.heap.size,rfl,(RO.mono HR6.out fun k hk=>⟨by have:=hk.1;omega,hk.2⟩).frame fun k hk _=>qD.out k (by have:=hk.1;omega) (by have:=hk.2;omega),(Ow.mono HM6.out fun k hk=>⟨by have:=hk.1;omega,hk.2⟩).frame kI fun k hk _=>qD.out k (by have:=hk.1;omega) (by have:=hk.1;omega),(Ow.mono oO.out fun k hk=>⟨by have:=hk.1;omega,hk.2⟩).frame jB fun k hk _=>qD.out k (by have:=hk.1;omega) (by have:=hk.1;omega),fun k hk=>⟨⟨by have:=hk.1;omega,by rw [hsz,e7];have:=hk.2;omega⟩,fun h=>by have:=h.1;have:=hk.2;omega,fun h=>by have:=h.1;have:=hk.2;omega⟩,fun k hk=>⟨⟨by have:=hk.1;omega,by rw [hsz,e7];have:=hk.2;omega⟩,fun h=>by have:=h.1;have:=hk.2;omega⟩,fun k hk=>⟨by have:=hk.1;omega,by rw [hsz,e7];exact hk.2⟩,HI.out⟩
/- fetch of package o9 gH. -/
theorem abK:(Tryz.f82.body.bind (bQ 1)).all (fun o=>dQ o 17 [0,1,2,3,4,5,6,7,8,9,10,11,12,13,14,15,16] [14,15] [17] 0)=true:=by kernel_rfl
def Da (b:aD) (uid:Int):cO:=match b.ah.findIdx? (fun m:aF=>decide (m.uid=uid)) with
 | none=>aQ 1 0
 | some i=>⟨0,uid,⟨b.name,b.valid,b.next,b.seq,(b.ah.drop i).take 1,[],b.lost⟩,[]⟩
theorem drop_one {α:Type} {l:List α} {j:Nat} {x:α} (h:l[j]?=some x):(l.drop j).take 1=[x]:=by
 obtain ⟨h1,rfl⟩:=gs1 h
 rw [List.drop_eq_getElem_cons h1]
 rfl
/-- One fQ in a block of its own. -/
theorem abL {w:World} {S f:Nat→Prop} {g:Nat} {c0 c1 c2 c3:Value} {m:aF} (hg:w.heap[g]?=some (.cells #[c0,c1,c2,c3] 124 (0,0))) (hm:je w [c0,c1,c2,c3] m f) (hS:S g) (hf:∀ k,f k→S k∧k≠g):jO w S (.slice (some ⟨g,0,none⟩) 1 1) [m]:=by
 refine .inr ⟨g,1,_,fun _=>[c0,c1,c2,c3],fun _=>f,rfl,hg,Nat.le_refl _,by decide,rfl,hS,fun i x hx=>?_,fun i k _ hk=>hf k hk,fun i j k hi hj hne=>absurd hne (by simp at hi hj;omega)⟩
 have hi:i=0:=by have:=(gs1 hx).1;simp at this;omega
 subst hi
 cases hx
 refine ⟨hm,rfl,fun j u hu=>?_⟩
 simpa using hu
theorem abM (wt w:World) (S:Nat→Prop) (gd g n i gb cap:Nat) (a:aJ) (b:aD) (u0 u1:Value) (E:aX) (uid:Int) (h:aW wt w S gd g n a u0 u1 E) (hb:a.boxes[i]?=some b) (hu:u0=.slice (some ⟨gb,0,none⟩) a.boxes.length cap) (hf:Fit b) (Sz:aB uid) (res:cO) (hres:res=Da b uid) :
  Calls Tryz.prog 82 #[.pointer (some ⟨gd,0,none⟩),.pointer (some ⟨gb,i * 7,none⟩),.int .i64 uid] w fun e w'=>∃ v,e=.returned v∧dD w' w.heap.size w'.heap.size v res∧Below w.heap.size w w':=by
 have A1:Below w.heap.size w (w.alloc (.cells #[.int .i64 0,.int .i64 0,.slice none 0 0,.int .i64 0,.int .i64 0,.int .i64 0,.slice none 0 0,.slice none 0 0,.int .i64 0,.slice none 0 0] 40)):=bn _ _
 have HK:=ak (aV w (.cells #[.int .i64 0,.int .i64 0,.slice none 0 0,.int .i64 0,.int .i64 0,.int .i64 0,.slice none 0 0,.slice none 0 0,.int .i64 0,.slice none 0 0] 40))
 have HD:=ak (h.below A1)
 have HA:=ak A1
 have HF:=ak hf
 have bN:=ak hres
 have hz1:(w.alloc (.cells #[.int .i64 0,.int .i64 0,.slice none 0 0,.int .i64 0,.int .i64 0,.int .i64 0,.slice none 0 0,.slice none 0 0,.int .i64 0,.slice none 0 0] 40)).heap.size=w.heap.size+1:=by simp
 clear h A1 hf hres
 go_enter Tryz.func82,Tryz.ntmps82
 go_upto_region 1 with fail
 generalize w.alloc (.cells #[.int .i64 0,.int .i64 0,.slice none 0 0,.int .i64 0,.int .i64 0,.int .i64 0,.slice none 0 0,.slice none 0 0,.int .i64 0,.slice none 0 0] 40)=w1 at HK HD HA hz1 ⊢
 obtain ⟨fF,cap',v0,v5,f,e1,-,-,hlb,-,-,⟨-,c1,-⟩,-,-,-,j0,-⟩:=HD.out.read hb
 rw [hu] at e1
 simp only [Value.slice.injEq,Option.some.injEq,Addr.mk.injEq,and_true,true_and] at e1
 obtain ⟨rfl,rfl⟩:=e1
 obtain ⟨p0,p1,p2,p3,p4,p5,qY,uT⟩:=HD.out.map.looked j0 Sz (HD.out.ents b (List.mem_of_getElem? hb))
 generalize hok:(b.ah.findIdx? fun m=>decide (m.uid=uid)).isSome=ok at qY
 have qD:=ak hok
 have qZ:=ak uT
 have dA:Hid (∀ w',Below w1.heap.size w1 w'→w'.cell? ⟨gd,2,none⟩=some (.map (some g))∧w'.cell? ⟨gb,i * 7+1,none⟩=some (.int .i64 b.valid)∧(Instr.lookup 106 (.map (some g)) (.agg #[.int .i64 b.valid,.int .i64 uid]) true).run Tryz.prog w'=.ok (.tuple #[.agg #[.int .i64 p0,.int .i64 p1,.int .i64 p2,.slice p3 p4 p5],.bool ok]) w'):=fun w' hw=>⟨(cell_of_row _ gd 2 _ _ (0,0) (HD.out.below hw).cells).trans rfl,(hw.cell (p:=⟨gb,_,none⟩) hlb).trans c1,qY w' (hw.block g HD.out.map.lt)⟩
 have D1:Below w1.heap.size w1 w1.drew:=bd _ _
 have A3:Below w1.heap.size w1 (w1.drew.alloc (.cells #[.int .i64 0,.int .i64 0,.int .i64 0,.slice none 0 0] 124)):=D1.alloc (Nat.le_refl _) _
 have Db:Below w1.heap.size w1 (w1.alloc (.cells #[.int .i64 p0,.int .i64 p1,.int .i64 p2,.slice p3 p4 p5] 124)).drew:=(bn _ _).drew
 clear uT qY c1 hok
 refine eF 17 (S:=fun w'=>w'.cell? ⟨gd,2,none⟩=some (.map (some g))∧w'.cell? ⟨gb,i * 7+1,none⟩=some (.int .i64 b.valid)∧(Instr.lookup 106 (.map (some g)) (.agg #[.int .i64 b.valid,.int .i64 uid]) true).run Tryz.prog w'=.ok (.tuple #[.agg #[.int .i64 p0,.int .i64 p1,.int .i64 p2,.slice p3 p4 p5],.bool ok]) w') (eB (by kernel_rfl) abK) (by kernel_rfl) (dA.out _ D1) (fun aj aks=>?_)
 refine tks 0 0 11 aj aks ?_
 refine tks 1 1 12 aj aks ?_
 refine tks 2 2 13 aj aks ?_
 refine tks 3 3 14 aj aks ?_
 refine tks 4 4 15 aj aks ?_
 refine tks 5 5 16 aj aks ?_
 refine tks 6 6 17 aj aks ?_
 refine tks 7 7 18 aj aks ?_
 refine tks 8 8 19 aj aks ?_
 refine tks 9 9 20 aj aks ?_
 refine tks 10 10 21 aj aks ?_
 refine tks 11 11 10 aj aks ?_
 refine tks 12 12 22 aj aks ?_
 refine tks 13 13 23 aj aks ?_
 refine cls 14 14 aj (by decide) rfl rfl (fun K hK=>?_)
 go_simp
 refine hK.out _ _ (dA.out _ A3) (fun aks=>?_)
 clear hK K
 refine cls 15 15 aj (by decide) rfl rfl (fun K hK=>?_)
 go_simp
 refine hK.out _ _ (dA.out _ Db) (fun aks=>?_)
 clear hK K
 refine tks 16 16 8 aj aks ?_
 refine eG aj ?_
 go_upto_region 2 with fail
 have HD2:=ak (HD.out.below Db)
 have HA2:=ak (Below.step HA.out Db)
 have dw:=ak (ay Db HK.out)
 have jH:Hid ((w1.alloc (.cells #[.int .i64 p0,.int .i64 p1,.int .i64 p2,.slice p3 p4 p5] 124)).drew.heap[w.heap.size+1]?=some (.cells #[.int .i64 p0,.int .i64 p1,.int .i64 p2,.slice p3 p4 p5] 124 (0,0))):=by rw [← hz1];exact aV w1 _
 have hz2:(w1.alloc (.cells #[.int .i64 p0,.int .i64 p1,.int .i64 p2,.slice p3 p4 p5] 124)).drew.heap.size=w.heap.size+2:=by rw [← show w1.heap.size+1=w.heap.size+2 by omega];exact (show (w1.alloc (.cells #[.int .i64 p0,.int .i64 p1,.int .i64 p2,.slice p3 p4 p5] 124)).heap.size=w1.heap.size+1 by simp)
 clear dA A3 Db D1 HD HA HK hlb
 generalize (w1.alloc (.cells #[.int .i64 p0,.int .i64 p1,.int .i64 p2,.slice p3 p4 p5] 124)).drew=w2 at HD2 HA2 dw jH hz2 ⊢
 cases hfi:b.ah.findIdx? (fun m=>decide (m.uid=uid)) with
 | none =>
  obtain rfl:ok=false:=by rw [← qD.out,hfi];rfl
  have bI:Hid (res=aQ 1 0):=by
   show _=_
   rw [bN.out,Da,hfi]
  clear hfi
  have HF:=ak (Zt dw.out HA2.out (c:=1) (y:=0) ⟨by decide,by decide⟩ aI)
  obtain ⟨yz,yl,y0,y1,y2,y3,y4,y5,y6,y7,y8,y9⟩:=eT dw.out
  go_wp2
  have ff:=aM HF.out.1
  refine bodyPost_ret (v:=aY 1 0) (by simp [results,Tryz.results82,aY,go_sem,ff]) rfl ⟨aY 1 0,rfl,?_⟩
  rw [bI.out]
  exact HF.out.2
 | some j =>
  obtain rfl:ok=true:=by rw [← qD.out,hfi];rfl
  obtain ⟨m,hm⟩:∃ m,b.ah[j]?=some m:=⟨_,aK (List.findIdx?_eq_some_iff_getElem.1 hfi).1⟩
  obtain ⟨rfl,rfl,rfl,hmu,htb,qU⟩:=qZ.out j m hfi hm
  have CF:=ak qU
  have GK:=ak (HF.out.tx m (List.mem_of_getElem? hm))
  have bI:Hid (res=⟨0,uid,⟨b.name,b.valid,b.next,b.seq,[m],[],b.lost⟩,[]⟩):=by
   show _=_
   rw [bN.out,Da,hfi]
   simp only [drop_one hm]
  have pI:=ak htb
  obtain ⟨fF,cap',yF,wI,f',gM,-,-,hlb,-,-,⟨c0,c1,c2,c3,c4,c5,c6⟩,r0,r5,-,ii⟩:=HD2.out.read hb
  rw [hu] at gM
  simp only [Value.slice.injEq,Option.some.injEq,Addr.mk.injEq,and_true,true_and] at gM
  obtain ⟨rfl,rfl⟩:=gM
  have hbv:bK w2 (.agg #[yF,.int .i64 b.valid,.int .i64 b.next,.int .i64 b.seq,.slice none 0 0,wI,.int .i64 b.lost]) (wQ b):=⟨yF,.slice none 0 0,wI,rfl,r0.bs,Rd.nil _,r5.1,ii⟩
  have mD:=ak (Bh _ ⟨b.name,b.valid,b.next,b.seq,[],b.au,b.lost⟩ _ hbv HF.out.nm)
  have Dc:=ak ii
  obtain ⟨na,nn,nc,rfl⟩:=r0.bs.aG
  obtain ⟨ga,gc,rfl,-⟩:=r5.1.form
  clear hfi hm qU htb hmu hbv r0 r5 ii bN qZ
  go_wp2_with fail
  refine mD.out.mono ?_
  rintro e w3 ⟨xa,xn,xc,rfl,oh,hB3⟩
  have A4:Below w3.heap.size w3 (w3.alloc (.cells #[.slice xa xn xc,.int .i64 b.valid,.int .i64 b.next,.int .i64 b.seq,.slice none 0 0,.slice none 0 0,.int .i64 b.lost] 37)):=bn _ _
  have Df:=Below.step hB3 A4
  have HD4:=ak (HD2.out.below Df)
  have gN:=ak (Below.step HA2.out Df)
  have jT:=ak (ay Df dw.out)
  have pG:=ak (ay Df jH.out)
  have Lg:=ak (aV w3 (.cells #[.slice xa xn xc,.int .i64 b.valid,.int .i64 b.next,.int .i64 b.seq,.slice none 0 0,.slice none 0 0,.int .i64 b.lost] 37))
  have ko:=ak (oh.below A4)
  have hs3:=hB3.size
  have qE:(w3.alloc (.cells #[.slice xa xn xc,.int .i64 b.valid,.int .i64 b.next,.int .i64 b.seq,.slice none 0 0,.slice none 0 0,.int .i64 b.lost] 37)).heap.size=w3.heap.size+1:=by simp
  clear oh hB3 A4 Df mD c0 c1 c2 c3 c4 c5 c6 hlb HD2 HA2 dw jH
  go_upto_region 5 with fail
  generalize w3.alloc (.cells #[.slice xa xn xc,.int .i64 b.valid,.int .i64 b.next,.int .i64 b.seq,.slice none 0 0,.slice none 0 0,.int .i64 b.lost] 37)=w4 at HD4 gN jT pG Lg ko qE ⊢
  have HCM:=ak (O8 (.agg #[.int .i64 m.uid,.int .i64 m.flags,.int .i64 m.seq,.slice p3 p4 p5]) m w4 ⟨_,rfl,pI.out.below HD4.out.base,CF.out⟩ GK.out)
  obtain ⟨n0,n1,n2,n3⟩:=gF pG.out
  have nl:=lt_of_heap pG.out
  go_wp2_with fail
  refine HCM.out.mono ?_
  rintro e w5 ⟨ta,tn,tc,rfl,Bn,iV⟩
  have Dg:=ay iV Lg.out
  have K5:=ay iV jT.out
  have hs5:=iV.size
  have SA:(w5.setCell ⟨w3.heap.size,4,none⟩ (.slice (some ⟨w5.heap.size,0,none⟩) 1 1)).heap[w3.heap.size]?=some (.cells #[.slice xa xn xc,.int .i64 b.valid,.int .i64 b.next,.int .i64 b.seq,.slice (some ⟨w5.heap.size,0,none⟩) 1 1,.slice none 0 0,.int .i64 b.lost] 37 (0,0)):=aP (i:=4) (v:=.slice (some ⟨w5.heap.size,0,none⟩) 1 1) Dg
  have K6:=bP (k:=w3.heap.size) (i:=4) (v:=.slice (some ⟨w5.heap.size,0,none⟩) 1 1) K5 (by omega)
  have X6:=(Below.step gN.out iV).setCell (p:=⟨w3.heap.size,4,none⟩) (show w.heap.size≤w3.heap.size by omega) (.slice (some ⟨w5.heap.size,0,none⟩) 1 1)
  have A7:Below (w5.setCell ⟨w3.heap.size,4,none⟩ (.slice (some ⟨w5.heap.size,0,none⟩) 1 1)).heap.size (w5.setCell ⟨w3.heap.size,4,none⟩ (.slice (some ⟨w5.heap.size,0,none⟩) 1 1)) ((w5.setCell ⟨w3.heap.size,4,none⟩ (.slice (some ⟨w5.heap.size,0,none⟩) 1 1)).alloc (.cells #[.int .i64 m.uid,.int .i64 m.flags,.int .i64 m.seq,.slice ta tn tc] 124)):=bn _ _
  have Lh:=ak (ay A7 SA)
  have fq:=ak (ay A7 K6)
  have yx:=ak (Below.step X6 A7)
  have SB:Hid (((w5.setCell ⟨w3.heap.size,4,none⟩ (.slice (some ⟨w5.heap.size,0,none⟩) 1 1)).alloc (.cells #[.int .i64 m.uid,.int .i64 m.flags,.int .i64 m.seq,.slice ta tn tc] 124)).heap[w5.heap.size]?=some (.cells #[.int .i64 m.uid,.int .i64 m.flags,.int .i64 m.seq,.slice ta tn tc] 124 (0,0))):=by
   have:=aV (w5.setCell ⟨w3.heap.size,4,none⟩ (.slice (some ⟨w5.heap.size,0,none⟩) 1 1)) (.cells #[.int .i64 m.uid,.int .i64 m.flags,.int .i64 m.seq,.slice ta tn tc] 124)
   rw [aZ] at this
   exact this
  have yU:∀ k,k≠w3.heap.size→k < w5.heap.size→((w5.setCell ⟨w3.heap.size,4,none⟩ (.slice (some ⟨w5.heap.size,0,none⟩) 1 1)).alloc (.cells #[.int .i64 m.uid,.int .i64 m.flags,.int .i64 m.seq,.slice ta tn tc] 124)).heap[k]?=w5.heap[k]?:=fun k hk hlt=>(A7.block k (by rw [aZ];exact hlt)).trans (Below.heap_setCell _ _ _ _ hk)
  have Bo:=ak (kI _ _ _ _ _ Bn fun k hk hlt=>yU k (by have:=hk.1;omega) hk.2)
  have Am:=ak ((ko.out.below iV).frame fun k hk hlt=>yU k (by have:=hk.2;omega) hlt)
  have wV:((w5.setCell ⟨w3.heap.size,4,none⟩ (.slice (some ⟨w5.heap.size,0,none⟩) 1 1)).alloc (.cells #[.int .i64 m.uid,.int .i64 m.flags,.int .i64 m.seq,.slice ta tn tc] 124)).heap.size=w5.heap.size+1:=by simp [aZ]
  obtain ⟨t0,t1,t2,t3,t4,t5,t6⟩:=bF (show w5.heap[w3.heap.size]?=some (.cells #[.slice xa xn xc,.int .i64 b.valid,.int .i64 b.next,.int .i64 b.seq,.slice none 0 0,.slice none 0 0,.int .i64 b.lost] 37 (0,0)) from Dg)
  have tz:=(bR Dg).1
  have tl:=lt_of_heap Dg
  clear Bn iV HCM Dg K5 SA K6 X6 A7 yU n0 n1 n2 n3 nl HD4 gN jT pG Lg ko
  go_upto_region 6 with fail
  clear t0 t1 t2 t3 t4 t5 t6 tz tl
  generalize (w5.setCell ⟨w3.heap.size,4,none⟩ (.slice (some ⟨w5.heap.size,0,none⟩) 1 1)).alloc (.cells #[.int .i64 m.uid,.int .i64 m.flags,.int .i64 m.seq,.slice ta tn tc] 124)=w7 at Lh fq yx SB Bo Am wV ⊢
  have hE:dh w7 [.slice xa xn xc,.int .i64 b.valid,.int .i64 b.next,.int .i64 b.seq,.slice (some ⟨w5.heap.size,0,none⟩) 1 1,.slice none 0 0,.int .i64 b.lost] ⟨b.name,b.valid,b.next,b.seq,[m],[],b.lost⟩ (In (w.heap.size+1) w7.heap.size) :=
   ⟨_,_,_,In w2.heap.size w3.heap.size,In w4.heap.size w7.heap.size,fun _=>False,rfl,Am.out,abL SB.out Bo.out ⟨by omega,by omega⟩ (fun k hk=>⟨⟨hk.1,by have:=hk.2;omega⟩,by have:=hk.2;omega⟩),.inl ⟨rfl,rfl⟩,fun k hk=>⟨⟨by have:=hk.1;omega,by have:=hk.2;omega⟩,fun h=>by have:=h.1;have:=hk.2;omega,fun h=>h⟩,fun k hk=>⟨⟨by have:=hk.1;omega,hk.2⟩,fun h=>h⟩,fun k h=>h.elim,Dc.out⟩
  have HF:=ak (Zr fq.out yx.out hE rfl rfl rfl rfl (c:=0) (y:=uid) ⟨by decide,by decide⟩ Sz)
  obtain ⟨t0,t1,t2,t3,t4,t5,t6⟩:=bF (show w7.heap[w3.heap.size]?=some (.cells #[.slice xa xn xc,.int .i64 b.valid,.int .i64 b.next,.int .i64 b.seq,.slice (some ⟨w5.heap.size,0,none⟩) 1 1,.slice none 0 0,.int .i64 b.lost] 37 (0,0)) from Lh.out)
  obtain ⟨yz,yl,y0,y1,y2,y3,y4,y5,y6,y7,y8,y9⟩:=eT fq.out
  have tl:=lt_of_heap Lh.out
  clear hE
  go_wp2
  have ff:=aM HF.out.1
  refine bodyPost_ret (v:=.agg #[.int .i64 0,.int .i64 uid,.slice xa xn xc,.int .i64 b.valid,.int .i64 b.next,.int .i64 b.seq,.slice (some ⟨w5.heap.size,0,none⟩) 1 1,.slice none 0 0,.int .i64 b.lost,.slice none 0 0]) (by simp [results,Tryz.results82,go_sem,ff]) rfl ⟨_,rfl,?_⟩
  rw [bI.out]
  exact HF.out.2
/- changes and Zw of package o9 gH. -/
theorem pV.form {w:World} {S:Nat→Prop} {v:Value} {b:aD} (h:pV w S v b):∃ a0 n0 k0 a1 n1 k1 a2 n2 k2,v=.agg #[.slice a0 n0 k0,.int .i64 b.valid,.int .i64 b.next,.int .i64 b.seq,.slice a1 n1 k1,.slice a2 n2 k2,.int .i64 b.lost]:=by
 obtain ⟨u0,u1,u2,rfl,g0,g1,g2,-⟩:=h.v
 obtain ⟨a0,n0,k0,rfl⟩:=g0.aG
 obtain ⟨a1,k1,rfl,-⟩:=g1.form
 obtain ⟨a2,k2,rfl,-⟩:=g2.form
 exact ⟨_,_,_,_,_,_,_,_,_,rfl⟩
theorem abN (b:aD) (si:Int) (h:¬ si < b.lost):ni b si=⟨0,0,C8 b si,[]⟩:=by
 unfold ni
 rw [if_neg h]
 rfl
theorem abO (b:aD) (si:Int) (h:si < b.lost):ni b si=aQ 4 b.lost:=by
 unfold ni
 rw [if_pos h]
 rfl
theorem abP (wt w:World) (S:Nat→Prop) (gd g n i gb cap:Nat) (a:aJ) (b:aD) (u0 u1:Value) (E:aX) (si:Int) (h:aW wt w S gd g n a u0 u1 E) (hb:a.boxes[i]?=some b) (hu:u0=.slice (some ⟨gb,0,none⟩) a.boxes.length cap) (hn:n≤2000000) (hf:Fit b) :
  Calls Tryz.prog 85 #[.pointer (some ⟨gd,0,none⟩),.pointer (some ⟨gb,i * 7,none⟩),.int .i64 si] w fun e w'=>∃ v,e=.returned v∧dD w' w.heap.size w'.heap.size v (ni b si)∧Below w.heap.size w w':=by
 have A1:Below w.heap.size w (w.alloc (.cells #[.int .i64 0,.int .i64 0,.slice none 0 0,.int .i64 0,.int .i64 0,.int .i64 0,.slice none 0 0,.slice none 0 0,.int .i64 0,.slice none 0 0] 40)):=bn _ _
 have HK:=ak (aV w (.cells #[.int .i64 0,.int .i64 0,.slice none 0 0,.int .i64 0,.int .i64 0,.int .i64 0,.slice none 0 0,.slice none 0 0,.int .i64 0,.slice none 0 0] 40))
 have h1:=h.below A1
 obtain ⟨fF,cap',v0,v5,f,e1,-,-,hlb,-,fz,⟨c0,c1,c2,c3,c4,c5,c6⟩,-,-,-,ii⟩:=h1.read hb
 rw [hu] at e1
 simp only [Value.slice.injEq,Option.some.injEq,Addr.mk.injEq,and_true,true_and] at e1
 obtain ⟨rfl,rfl⟩:=e1
 have HL:=ak ii.2.2.2
 have Ao:=ak (Sn wt _ S gd g n i gb cap a b u0 u1 E si h1 hb hu hn hf)
 have HA:=ak A1
 have hz1:(w.alloc (.cells #[.int .i64 0,.int .i64 0,.slice none 0 0,.int .i64 0,.int .i64 0,.int .i64 0,.slice none 0 0,.slice none 0 0,.int .i64 0,.slice none 0 0] 40)).heap.size=w.heap.size+1:=by simp
 clear h h1 A1 ii hf
 go_enter Tryz.func85,Tryz.ntmps85
 go_upto_region 1 with fail
 generalize w.alloc (.cells #[.int .i64 0,.int .i64 0,.slice none 0 0,.int .i64 0,.int .i64 0,.int .i64 0,.slice none 0 0,.slice none 0 0,.int .i64 0,.slice none 0 0] 40)=w1 at HK Ao HA hz1 c0 c1 c2 c3 c4 c5 c6 fz hlb ⊢
 by_cases hlt:si < b.lost
 ·have HQ:=ak hlt
  have HF:=ak (nZ HK.out (.int .i64 4) (.int .i64 b.lost) (.slice none 0 0) (.int .i64 0) (.int .i64 0) (.int .i64 0) (.slice none 0 0) (.slice none 0 0) (.int .i64 0) (.slice none 0 0))
  obtain ⟨y0,y1,y2,y3,y4,y5,y6,y7,y8,y9⟩:=aM HK.out
  have yz:=(bR HK.out).1
  have yl:=lt_of_heap HK.out
  go_wp2
  have ff:=aM HF.out.1
  have hs0:=HF.out.2.1
  have hR:∀ W:World,∀ T,w.heap.size≤T→dD W w.heap.size T (aY 4 b.lost) (ni b si):=fun W T hT=>by
   rw [abO b si HQ.out]
   exact sU W _ _ (c:=4) (x:=b.lost) ⟨by decide,by decide⟩ HL.out hT
  refine bodyPost_ret (v:=aY 4 b.lost) (by simp [results,Tryz.results85,aY,go_sem,ff]) rfl ⟨aY 4 b.lost,rfl,hR _ _ ?_,qB HA.out hs0 HF.out.2.2.1 HF.out.2.2.2 (Nat.le_refl _)⟩
  rw [hs0,hz1]
  exact Nat.le_succ _
 ·have HQ:=ak hlt
  go_wp2_with fail
  refine Ao.out.mono ?_
  rintro e w2 ⟨v,rfl,hO,hB2⟩
  have hfm:=hO.form
  simp only [C8] at hfm
  obtain ⟨a0,n0,k0,a1,n1,k1,a2,n2,k2,rfl⟩:=hfm
  have dw:=ak (ay hB2 HK.out)
  have HF:=ak (nZ dw.out (.int .i64 0) (.int .i64 0) (.slice a0 n0 k0) (.int .i64 b.valid) (.int .i64 b.next) (.int .i64 b.seq) (.slice a1 n1 k1) (.slice a2 n2 k2) (.int .i64 b.lost) (.slice none 0 0))
  have HO:=ak hO
  have HB:=ak hB2
  have hs2:=hB2.size
  rw [hz1] at hs2
  obtain ⟨y0,y1,y2,y3,y4,y5,y6,y7,y8,y9⟩:=aM dw.out
  have yz:=(bR dw.out).1
  have yl:=lt_of_heap dw.out
  clear hO hB2 Ao c0 c1 c2 c3 c4 c5 c6 fz hlb
  go_wp2
  have ff:=aM HF.out.1
  refine bodyPost_ret (v:=.agg #[.int .i64 0,.int .i64 0,.slice a0 n0 k0,.int .i64 b.valid,.int .i64 b.next,.int .i64 b.seq,.slice a1 n1 k1,.slice a2 n2 k2,.int .i64 b.lost,.slice none 0 0]) (by simp [results,Tryz.results85,aY,go_sem,ff]) rfl ⟨_,rfl,?_,qB (Below.step HA.out HB.out) HF.out.2.1 HF.out.2.2.1 HF.out.2.2.2 (Nat.le_refl _)⟩
  rw [abN b si (by have:=HQ.out;omega),HF.out.2.1]
  obtain ⟨c,ec,hE⟩:=HO.out
  have hE':=gq _ _ _ _ _ hE fun k hk _=>HF.out.2.2.2 k (by have:=hk.1;rw [hz1] at this;omega)
  have ec':c=[.slice a0 n0 k0,.int .i64 b.valid,.int .i64 b.next,.int .i64 b.seq,.slice a1 n1 k1,.slice a2 n2 k2,.int .i64 b.lost]:=by
   simp only [Value.agg.injEq] at ec
   have:=congrArg Array.toList ec
   simpa using this.symm
  subst ec'
  exact ⟨_,_,_,_,w2.heap.size,rfl,hE'.wide fun k hk=>⟨by have:=hk.1;omega,hk.2⟩,.inl ⟨rfl,rfl⟩,by omega,Nat.le_refl _,aI,aI⟩
end Go.Proofs.YtlneebmlhblleaaGreat
