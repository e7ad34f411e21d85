/- The proof's texts, part 17. -/
import Derived.Test.YtmglhdkeidhafaaGreatTf
namespace Go.Proofs.YtmglhdkeidhafaaGreat
open Go.RowKit
set_option linter.unusedVariables false
set_option linter.unusedSimpArgs false
set_option maxHeartbeats 4000000
set_option maxRecDepth 100000
/- What Pw of package spec does. -/
/-- Two variables are laid. -/
theorem uz (w:World) (o0 o1:Obj):Hid (Below w.heap.size w ((w.alloc o0).alloc o1))∧Hid (((w.alloc o0).alloc o1).heap[w.heap.size]?=some o0)∧Hid (((w.alloc o0).alloc o1).heap[w.heap.size+1]?=some o1)∧((w.alloc o0).alloc o1).heap.size=w.heap.size+2 :=
 let ⟨h0,h1,h⟩:=iX w o0 o1
 ⟨h,h0,h1,by simp⟩
/-- A reply that has no names at all. -/
def je (w:World) (v:Value) (x:dI):Prop:=∃ u0 u1 u2 u3,v=.agg #[.int .i64 x.code,.int .i64 x.num,u0,.int .i64 x.box.valid,.int .i64 x.box.next,.int .i64 x.box.seq,u1,u2,.int .i64 x.box.lost,u3]∧bI w (.agg #[u0,.int .i64 x.box.valid,.int .i64 x.box.next,.int .i64 x.box.seq,u1,u2,.int .i64 x.box.lost]) x.box∧(u3=.slice none 0 0∧x.names=[])∧ay x.code∧ay x.num
theorem je.v {w:World} {v:Value} {x:dI} (h:je w v x):nW w v x:=let ⟨u0,u1,u2,u3,h0,h1,h2,i⟩:=h;⟨u0,u1,u2,u3,h0,h1,by rw [h2.1,h2.2];exact Rd.nil _,i⟩
theorem oD {w w1:World} {r:Nat} {d0 d1 d2 d3 d4 d5 d6 d7 d8 d9:Value} (hk:w1.heap[r]?=some (.cells #[d0,d1,d2,d3,d4,d5,d6,d7,d8,d9] 37 (0,0))) (hr:w.heap.size≤r) (hb:Below w.heap.size w w1) (c n:Int) :
  ((((((((((w1.setCell ⟨r,0,none⟩ (.int .i64 c)).setCell ⟨r,1,none⟩ (.int .i64 n)).setCell ⟨r,2,none⟩ (.slice none 0 0)).setCell ⟨r,3,none⟩ (.int .i64 0)).setCell ⟨r,4,none⟩ (.int .i64 0)).setCell ⟨r,5,none⟩ (.int .i64 0)).setCell ⟨r,6,none⟩ (.slice none 0 0)).setCell ⟨r,7,none⟩ (.slice none 0 0)).setCell ⟨r,8,none⟩ (.int .i64 0)).setCell ⟨r,9,none⟩ (.slice none 0 0)).heap[r]?=some (.cells #[(.int .i64 c),(.int .i64 n),(.slice none 0 0),(.int .i64 0),(.int .i64 0),(.int .i64 0),(.slice none 0 0),(.slice none 0 0),(.int .i64 0),(.slice none 0 0)] 37 (0,0))∧Below w.heap.size w ((((((((((w1.setCell ⟨r,0,none⟩ (.int .i64 c)).setCell ⟨r,1,none⟩ (.int .i64 n)).setCell ⟨r,2,none⟩ (.slice none 0 0)).setCell ⟨r,3,none⟩ (.int .i64 0)).setCell ⟨r,4,none⟩ (.int .i64 0)).setCell ⟨r,5,none⟩ (.int .i64 0)).setCell ⟨r,6,none⟩ (.slice none 0 0)).setCell ⟨r,7,none⟩ (.slice none 0 0)).setCell ⟨r,8,none⟩ (.int .i64 0)).setCell ⟨r,9,none⟩ (.slice none 0 0)):=by
 replace hk:(World.setCell _ _ _).heap[r]?=some (Obj.cells #[(.int .i64 c),d1,d2,d3,d4,d5,d6,d7,d8,d9] 37 (0,0)):=aJ (i:=0) (v:=(.int .i64 c)) hk
 replace hk:(World.setCell _ _ _).heap[r]?=some (Obj.cells #[(.int .i64 c),(.int .i64 n),d2,d3,d4,d5,d6,d7,d8,d9] 37 (0,0)):=aJ (i:=1) (v:=(.int .i64 n)) hk
 replace hk:(World.setCell _ _ _).heap[r]?=some (Obj.cells #[(.int .i64 c),(.int .i64 n),(.slice none 0 0),d3,d4,d5,d6,d7,d8,d9] 37 (0,0)):=aJ (i:=2) (v:=(.slice none 0 0)) hk
 replace hk:(World.setCell _ _ _).heap[r]?=some (Obj.cells #[(.int .i64 c),(.int .i64 n),(.slice none 0 0),(.int .i64 0),d4,d5,d6,d7,d8,d9] 37 (0,0)):=aJ (i:=3) (v:=(.int .i64 0)) hk
 replace hk:(World.setCell _ _ _).heap[r]?=some (Obj.cells #[(.int .i64 c),(.int .i64 n),(.slice none 0 0),(.int .i64 0),(.int .i64 0),d5,d6,d7,d8,d9] 37 (0,0)):=aJ (i:=4) (v:=(.int .i64 0)) hk
 replace hk:(World.setCell _ _ _).heap[r]?=some (Obj.cells #[(.int .i64 c),(.int .i64 n),(.slice none 0 0),(.int .i64 0),(.int .i64 0),(.int .i64 0),d6,d7,d8,d9] 37 (0,0)):=aJ (i:=5) (v:=(.int .i64 0)) hk
 replace hk:(World.setCell _ _ _).heap[r]?=some (Obj.cells #[(.int .i64 c),(.int .i64 n),(.slice none 0 0),(.int .i64 0),(.int .i64 0),(.int .i64 0),(.slice none 0 0),d7,d8,d9] 37 (0,0)):=aJ (i:=6) (v:=(.slice none 0 0)) hk
 replace hk:(World.setCell _ _ _).heap[r]?=some (Obj.cells #[(.int .i64 c),(.int .i64 n),(.slice none 0 0),(.int .i64 0),(.int .i64 0),(.int .i64 0),(.slice none 0 0),(.slice none 0 0),d8,d9] 37 (0,0)):=aJ (i:=7) (v:=(.slice none 0 0)) hk
 replace hk:(World.setCell _ _ _).heap[r]?=some (Obj.cells #[(.int .i64 c),(.int .i64 n),(.slice none 0 0),(.int .i64 0),(.int .i64 0),(.int .i64 0),(.slice none 0 0),(.slice none 0 0),(.int .i64 0),d9] 37 (0,0)):=aJ (i:=8) (v:=(.int .i64 0)) hk
 replace hk:(World.setCell _ _ _).heap[r]?=some (Obj.cells #[(.int .i64 c),(.int .i64 n),(.slice none 0 0),(.int .i64 0),(.int .i64 0),(.int .i64 0),(.slice none 0 0),(.slice none 0 0),(.int .i64 0),(.slice none 0 0)] 37 (0,0)):=aJ (i:=9) (v:=(.slice none 0 0)) hk
 exact ⟨hk,((((((((((hb.setCell hr _).setCell hr _).setCell hr _).setCell hr _).setCell hr _).setCell hr _).setCell hr _).setCell hr _).setCell hr _).setCell hr _)⟩
theorem XH (g o:Nat) (b:aA) (S:Nat→Prop) (k uid mode fl si:Int) (x0 x1 x2:Option Addr) (n0 n1 n2 m0 m1 m2:Nat) (w:World) (hp:aK w S g o b) (hsx:bT b≤2000000) (hno:bC (fun m:aC=>decide (m.uid=uid)) b.ah = -1) :
  Calls Tryz.prog 90 #[.pointer (some ⟨g,o,none⟩),.agg #[.int .i64 k,.slice x0 n0 m0,.slice x1 n1 m1,.int .i64 uid,.int .i64 mode,.int .i64 fl,.int .i64 si,.slice x2 n2 m2]] w fun e w'=>∃ u,e=.returned u∧je w' u (aN 1 0)∧Turns w w' S g o∧aK w' S g o b:=by
 have HP:Hid (∀ w',Below w.heap.size w w'→aK w' S g o b):=fun w' h=>hp.below h
 have bE:g < w.heap.size:=jS hp.ty
 obtain ⟨u0,u1,u2,h0,h1,h2,hint,c0,c1,c2,c3,c4,c5,c6⟩:=hp.cells
 have HV:Hid (∀ w',Below w.heap.size w w'→bI w' (.agg #[u0,.int .i64 b.valid,.int .i64 b.next,.int .i64 b.seq,u1,u2,.int .i64 b.lost]) b):=fun w' h=>⟨u0,u1,u2,rfl,h0.bs.below h,h1.v.below iG h,h2.1.below gU h,hint⟩
 obtain ⟨a0,q0,z0,rfl⟩:=h0.bs.aG
 obtain ⟨a1,z1,rfl,-⟩:=h1.v.form
 obtain ⟨a2,z2,rfl,-⟩:=h2.1.form
 obtain ⟨HB,bO,aQ,jf⟩:=uz w (.cells #[.int .i64 k,.slice x0 n0 m0,.slice x1 n1 m1,.int .i64 uid,.int .i64 mode,.int .i64 fl,.int .i64 si,.slice x2 n2 m2] 28) (.cells #[.int .i64 0,.int .i64 0,.slice none 0 0,.int .i64 0,.int .i64 0,.int .i64 0,.slice none 0 0,.slice none 0 0,.int .i64 0,.slice none 0 0] 37)
 have HC:Hid (∀ W w',Below w.heap.size w W→W.heap[w.heap.size]?=some (.cells #[.int .i64 k,.slice x0 n0 m0,.slice x1 n1 m1,.int .i64 uid,.int .i64 mode,.int .i64 fl,.int .i64 si,.slice x2 n2 m2] 28 (0,0))→Below W.heap.size W w'→w'.cell? ⟨g,o,none⟩=some (.slice a0 q0 z0)∧w'.cell? ⟨g,o+1,none⟩=some (.int .i64 b.valid)∧w'.cell? ⟨g,o+2,none⟩=some (.int .i64 b.next)∧w'.cell? ⟨g,o+3,none⟩=some (.int .i64 b.seq)∧w'.cell? ⟨g,o+4,none⟩=some (.slice a1 b.ah.length z1)∧w'.cell? ⟨g,o+5,none⟩=some (.slice a2 b.au.length z2)∧w'.cell? ⟨g,o+6,none⟩=some (.int .i64 b.lost)∧w'.cell? ⟨w.heap.size,3,none⟩=some (.int .i64 uid)∧w'.cell? ⟨w.heap.size,4,none⟩=some (.int .i64 mode)∧w'.cell? ⟨w.heap.size,5,none⟩=some (.int .i64 fl)∧w'.cell? ⟨w.heap.size,6,none⟩=some (.int .i64 si)):=by
  intro W w' hb hc hw
  have h:=fun j=>hb.cell (p:=⟨g,j,none⟩) bE
  have h':=fun j=>hw.cell (p:=⟨g,j,none⟩) (Nat.lt_of_lt_of_le bE hb.size)
  have hk:=aB hw hc
  have hq:=fun j=>cell_of_row w' w.heap.size j _ _ (0,0) hk
  exact ⟨(h' _).trans ((h _).trans c0),(h' _).trans ((h _).trans c1),(h' _).trans ((h _).trans c2),(h' _).trans ((h _).trans c3),(h' _).trans ((h _).trans c4),(h' _).trans ((h _).trans c5),(h' _).trans ((h _).trans c6),hq 3,hq 4,hq 5,hq 6⟩
 clear h0 h1 h2 hp c0 c1 c2 c3 c4 c5 c6 hint
 go_enter Tryz.func90,Tryz.ntmps90
 go_wp2
 generalize ((w.alloc (.cells #[.int .i64 k,.slice x0 n0 m0,.slice x1 n1 m1,.int .i64 uid,.int .i64 mode,.int .i64 fl,.int .i64 si,.slice x2 n2 m2] 28)).alloc (.cells #[.int .i64 0,.int .i64 0,.slice none 0 0,.int .i64 0,.int .i64 0,.int .i64 0,.slice none 0 0,.slice none 0 0,.int .i64 0,.slice none 0 0] 37))=W at HB bO aQ jf ⊢
 have HS:Hid (∀ w',Below W.heap.size W w'→w'.cell? ⟨g,o,none⟩=some (.slice a0 q0 z0)∧w'.cell? ⟨g,o+1,none⟩=some (.int .i64 b.valid)∧w'.cell? ⟨g,o+2,none⟩=some (.int .i64 b.next)∧w'.cell? ⟨g,o+3,none⟩=some (.int .i64 b.seq)∧w'.cell? ⟨g,o+4,none⟩=some (.slice a1 b.ah.length z1)∧w'.cell? ⟨g,o+5,none⟩=some (.slice a2 b.au.length z2)∧w'.cell? ⟨g,o+6,none⟩=some (.int .i64 b.lost)∧w'.cell? ⟨w.heap.size,3,none⟩=some (.int .i64 uid)∧w'.cell? ⟨w.heap.size,4,none⟩=some (.int .i64 mode)∧w'.cell? ⟨w.heap.size,5,none⟩=some (.int .i64 fl)∧w'.cell? ⟨w.heap.size,6,none⟩=some (.int .i64 si)):=fun w' h=>HC.out W w' HB.out bO.out h
 have DR:Below W.heap.size W W.drew:=(bd _ _)
 have hl1:w.heap.size < W.drew.heap.size:=by show _ < W.heap.size;omega
 have hl2:g < W.drew.heap.size:=by show _ < W.heap.size;omega
 have dY:Hid _:=HV.out W.drew (Below.step HB.out DR)
 go_region_held3 (fun w'=>w'.cell? ⟨g,o,none⟩=some (.slice a0 q0 z0)∧w'.cell? ⟨g,o+1,none⟩=some (.int .i64 b.valid)∧w'.cell? ⟨g,o+2,none⟩=some (.int .i64 b.next)∧w'.cell? ⟨g,o+3,none⟩=some (.int .i64 b.seq)∧w'.cell? ⟨g,o+4,none⟩=some (.slice a1 b.ah.length z1)∧w'.cell? ⟨g,o+5,none⟩=some (.slice a2 b.au.length z2)∧w'.cell? ⟨g,o+6,none⟩=some (.int .i64 b.lost)∧w'.cell? ⟨w.heap.size,3,none⟩=some (.int .i64 uid)∧w'.cell? ⟨w.heap.size,4,none⟩=some (.int .i64 mode)∧w'.cell? ⟨w.heap.size,5,none⟩=some (.int .i64 fl)∧w'.cell? ⟨w.heap.size,6,none⟩=some (.int .i64 si))
  (first | exact HS.out _ DR | exact HS.out _ (Below.step DR B1) | go_keep)
  ((go_at_call 51;refine (rH _ b uid _ dY.out).mono ?_;rintro e w1 ⟨rfl,B1⟩))
 have HB1:Hid (Below W.heap.size W w1):=Below.step DR B1
 have bX:Hid _:=aB HB1.out aQ.out
 have hw1:W.heap.size≤w1.heap.size:=HB1.out.size
 clear B1 dY
 obtain ⟨r0,r1,r2,r3,r4,r5,r6,r7,r8,r9⟩:=aO bX.out
 have fz:∀ i,w1.frozen? ⟨w.heap.size+1,i,none⟩=false:=fun i=>frozen_of_row w1 _ i _ _ bX.out
 have hlr:w.heap.size+1 < w1.heap.size:=by omega
 clear HS bO HC HV aQ
 have HF:Hid _:=oD (w:=w) bX.out (by omega) (Below.step HB.out HB1.out) 1 0
 go_wp2
 have ff:=aO HF.out.1
 refine bodyPost_ret (v:=.agg #[(.int .i64 1),(.int .i64 0),(.slice none 0 0),(.int .i64 0),(.int .i64 0),(.int .i64 0),(.slice none 0 0),(.slice none 0 0),(.int .i64 0),(.slice none 0 0)]) (by simp [results,Tryz.results90,go_sem,ff]) rfl ⟨_,rfl,?_,nG HF.out.2,HP.out _ HF.out.2⟩
 exact ⟨_,_,_,_,rfl,⟨_,_,_,rfl,mD _,Rd.nil _,Rd.nil _,aI,aI,aI,aI⟩,⟨rfl,rfl⟩,⟨by decide,by decide⟩,aI⟩
theorem XI (g o:Nat) (b:aA) (S:Nat→Prop) (k uid mode fl si:Int) (x0 x1 x2:Option Addr) (n0 n1 n2 m0 m1 m2:Nat) (w:World) (hp:aK w S g o b) (hsx:bT b≤2000000) (i:Nat) (m:aC) (hm:b.ah[i]?=some m) (hfi:bC (fun m:aC=>decide (m.uid=uid)) b.ah=(i:Int)) (hs0:0 < si) (hs1:si < m.seq) :
  Calls Tryz.prog 90 #[.pointer (some ⟨g,o,none⟩),.agg #[.int .i64 k,.slice x0 n0 m0,.slice x1 n1 m1,.int .i64 uid,.int .i64 mode,.int .i64 fl,.int .i64 si,.slice x2 n2 m2]] w fun e w'=>∃ u,e=.returned u∧je w' u (aN 4 m.seq)∧Turns w w' S g o∧aK w' S g o b:=by
 have HP:Hid (∀ w',Below w.heap.size w w'→aK w' S g o b):=fun w' h=>hp.below h
 have bE:g < w.heap.size:=jS hp.ty
 obtain ⟨u0,u1,u2,h0,h1,h2,hint,c0,c1,c2,c3,c4,c5,c6⟩:=hp.cells
 have HV:Hid (∀ w',Below w.heap.size w w'→bI w' (.agg #[u0,.int .i64 b.valid,.int .i64 b.next,.int .i64 b.seq,u1,u2,.int .i64 b.lost]) b):=fun w' h=>⟨u0,u1,u2,rfl,h0.bs.below h,h1.v.below iG h,h2.1.below gU h,hint⟩
 obtain ⟨a0,q0,z0,rfl⟩:=h0.bs.aG
 obtain ⟨a1,z1,rfl,-⟩:=h1.v.form
 obtain ⟨mb,off,zc,mu,hv',hlm,f0,f1,f2,f3,-,uD,vK,sD⟩:=h1.v.cell i m hm
 simp only [Value.slice.injEq,true_and] at hv'
 obtain ⟨rfl,rfl⟩:=hv'
 have hil:i < b.ah.length:=(gs1 hm).1
 have hml:b.ah.length≤2000000:=by have:=lF b.ah;unfold bT at hsx;omega
 obtain ⟨a2,z2,rfl,-⟩:=h2.1.form
 obtain ⟨HB,bO,aQ,jf⟩:=uz w (.cells #[.int .i64 k,.slice x0 n0 m0,.slice x1 n1 m1,.int .i64 uid,.int .i64 mode,.int .i64 fl,.int .i64 si,.slice x2 n2 m2] 28) (.cells #[.int .i64 0,.int .i64 0,.slice none 0 0,.int .i64 0,.int .i64 0,.int .i64 0,.slice none 0 0,.slice none 0 0,.int .i64 0,.slice none 0 0] 37)
 have HC:Hid (∀ W w',Below w.heap.size w W→W.heap[w.heap.size]?=some (.cells #[.int .i64 k,.slice x0 n0 m0,.slice x1 n1 m1,.int .i64 uid,.int .i64 mode,.int .i64 fl,.int .i64 si,.slice x2 n2 m2] 28 (0,0))→Below W.heap.size W w'→w'.cell? ⟨g,o,none⟩=some (.slice a0 q0 z0)∧w'.cell? ⟨g,o+1,none⟩=some (.int .i64 b.valid)∧w'.cell? ⟨g,o+2,none⟩=some (.int .i64 b.next)∧w'.cell? ⟨g,o+3,none⟩=some (.int .i64 b.seq)∧w'.cell? ⟨g,o+4,none⟩=some (.slice (some ⟨mb,off,none⟩) b.ah.length z1)∧w'.cell? ⟨g,o+5,none⟩=some (.slice a2 b.au.length z2)∧w'.cell? ⟨g,o+6,none⟩=some (.int .i64 b.lost)∧w'.cell? ⟨w.heap.size,3,none⟩=some (.int .i64 uid)∧w'.cell? ⟨w.heap.size,4,none⟩=some (.int .i64 mode)∧w'.cell? ⟨w.heap.size,5,none⟩=some (.int .i64 fl)∧w'.cell? ⟨w.heap.size,6,none⟩=some (.int .i64 si)∧w'.cell? ⟨mb,off+i * 4+1,none⟩=some (.int .i64 m.flags)∧w'.cell? ⟨mb,off+i * 4+2,none⟩=some (.int .i64 m.seq)):=by
  intro W w' hb hc hw
  have h:=fun j=>hb.cell (p:=⟨g,j,none⟩) bE
  have h':=fun j=>hw.cell (p:=⟨g,j,none⟩) (Nat.lt_of_lt_of_le bE hb.size)
  have hm0:=fun j=>hb.cell (p:=⟨mb,j,none⟩) hlm
  have hm':=fun j=>hw.cell (p:=⟨mb,j,none⟩) (Nat.lt_of_lt_of_le hlm hb.size)
  have hk:=aB hw hc
  have hq:=fun j=>cell_of_row w' w.heap.size j _ _ (0,0) hk
  exact ⟨(h' _).trans ((h _).trans c0),(h' _).trans ((h _).trans c1),(h' _).trans ((h _).trans c2),(h' _).trans ((h _).trans c3),(h' _).trans ((h _).trans c4),(h' _).trans ((h _).trans c5),(h' _).trans ((h _).trans c6),hq 3,hq 4,hq 5,hq 6,(hm' _).trans ((hm0 _).trans f1),(hm' _).trans ((hm0 _).trans f2)⟩
 clear h0 h1 h2 hp c0 c1 c2 c3 c4 c5 c6 hint f0 f1 f2 f3
 go_enter Tryz.func90,Tryz.ntmps90
 go_wp2
 generalize ((w.alloc (.cells #[.int .i64 k,.slice x0 n0 m0,.slice x1 n1 m1,.int .i64 uid,.int .i64 mode,.int .i64 fl,.int .i64 si,.slice x2 n2 m2] 28)).alloc (.cells #[.int .i64 0,.int .i64 0,.slice none 0 0,.int .i64 0,.int .i64 0,.int .i64 0,.slice none 0 0,.slice none 0 0,.int .i64 0,.slice none 0 0] 37))=W at HB bO aQ jf ⊢
 have HS:Hid (∀ w',Below W.heap.size W w'→w'.cell? ⟨g,o,none⟩=some (.slice a0 q0 z0)∧w'.cell? ⟨g,o+1,none⟩=some (.int .i64 b.valid)∧w'.cell? ⟨g,o+2,none⟩=some (.int .i64 b.next)∧w'.cell? ⟨g,o+3,none⟩=some (.int .i64 b.seq)∧w'.cell? ⟨g,o+4,none⟩=some (.slice (some ⟨mb,off,none⟩) b.ah.length z1)∧w'.cell? ⟨g,o+5,none⟩=some (.slice a2 b.au.length z2)∧w'.cell? ⟨g,o+6,none⟩=some (.int .i64 b.lost)∧w'.cell? ⟨w.heap.size,3,none⟩=some (.int .i64 uid)∧w'.cell? ⟨w.heap.size,4,none⟩=some (.int .i64 mode)∧w'.cell? ⟨w.heap.size,5,none⟩=some (.int .i64 fl)∧w'.cell? ⟨w.heap.size,6,none⟩=some (.int .i64 si)∧w'.cell? ⟨mb,off+i * 4+1,none⟩=some (.int .i64 m.flags)∧w'.cell? ⟨mb,off+i * 4+2,none⟩=some (.int .i64 m.seq)):=fun w' h=>HC.out W w' HB.out bO.out h
 have DR:Below W.heap.size W W.drew:=(bd _ _)
 have hl1:w.heap.size < W.drew.heap.size:=by show _ < W.heap.size;omega
 have hl2:g < W.drew.heap.size:=by show _ < W.heap.size;omega
 have dY:Hid _:=HV.out W.drew (Below.step HB.out DR)
 go_region_held3 (fun w'=>w'.cell? ⟨g,o,none⟩=some (.slice a0 q0 z0)∧w'.cell? ⟨g,o+1,none⟩=some (.int .i64 b.valid)∧w'.cell? ⟨g,o+2,none⟩=some (.int .i64 b.next)∧w'.cell? ⟨g,o+3,none⟩=some (.int .i64 b.seq)∧w'.cell? ⟨g,o+4,none⟩=some (.slice (some ⟨mb,off,none⟩) b.ah.length z1)∧w'.cell? ⟨g,o+5,none⟩=some (.slice a2 b.au.length z2)∧w'.cell? ⟨g,o+6,none⟩=some (.int .i64 b.lost)∧w'.cell? ⟨w.heap.size,3,none⟩=some (.int .i64 uid)∧w'.cell? ⟨w.heap.size,4,none⟩=some (.int .i64 mode)∧w'.cell? ⟨w.heap.size,5,none⟩=some (.int .i64 fl)∧w'.cell? ⟨w.heap.size,6,none⟩=some (.int .i64 si)∧w'.cell? ⟨mb,off+i * 4+1,none⟩=some (.int .i64 m.flags)∧w'.cell? ⟨mb,off+i * 4+2,none⟩=some (.int .i64 m.seq))
  (first | exact HS.out _ DR | exact HS.out _ (Below.step DR B1) | go_keep)
  ((go_at_call 51;refine (rH _ b uid _ dY.out).mono ?_;rintro e w1 ⟨rfl,B1⟩))
 have HB1:Hid (Below W.heap.size W w1):=Below.step DR B1
 have bX:Hid _:=aB HB1.out aQ.out
 have hw1:W.heap.size≤w1.heap.size:=HB1.out.size
 clear B1 dY
 obtain ⟨e0,e1,e2,e3,e4,e5,e6,e7,e8,e9,e10,e11,e12⟩:=HS.out _ HB1.out
 have sF:g < w1.heap.size:=by omega
 have Px:mb < w1.heap.size:=by omega
 have vL:w.heap.size < w1.heap.size:=by omega
 have IY:(i:Int) < b.ah.length:=by omega
 obtain ⟨r0,r1,r2,r3,r4,r5,r6,r7,r8,r9⟩:=aO bX.out
 have fz:∀ i,w1.frozen? ⟨w.heap.size+1,i,none⟩=false:=fun i=>frozen_of_row w1 _ i _ _ bX.out
 have hlr:w.heap.size+1 < w1.heap.size:=by omega
 clear HS bO HC HV aQ
 have HF:∀ nq,Hid _:=fun nq=>oD (w:=w) (w1:=w1.drewN nq) bX.out (by omega) (below_drewN nq (Below.step HB.out HB1.out)) 4 m.seq
 go_wp2
 go_quiet (fail)
 go_wp2
 obtain ⟨f0,f1,f2,f3,f4,f5,f6,f7,f8,f9⟩:=aO (HF nq).out.1
 refine bodyPost_ret (v:=.agg #[(.int .i64 4),(.int .i64 m.seq),(.slice none 0 0),(.int .i64 0),(.int .i64 0),(.int .i64 0),(.slice none 0 0),(.slice none 0 0),(.int .i64 0),(.slice none 0 0)]) (by simp [results,Tryz.results90,go_sem,f0,f1,f2,f3,f4,f5,f6,f7,f8,f9]) rfl ⟨_,rfl,?_,nG (HF nq).out.2,HP.out _ (HF nq).out.2⟩
 exact ⟨_,_,_,_,rfl,⟨_,_,_,rfl,mD _,Rd.nil _,Rd.nil _,aI,aI,aI,aI⟩,⟨rfl,rfl⟩,OZ,sD⟩
theorem Py (g o:Nat) (b:aA) (S:Nat→Prop) (k uid mode fl si:Int) (x0 x1 x2:Option Addr) (n0 n1 n2 m0 m1 m2:Nat) (w:World) (hp:aK w S g o b) (hsx:bT b≤2000000) (i:Nat) (m:aC) (hm:b.ah[i]?=some m) (hfi:bC (fun m:aC=>decide (m.uid=uid)) b.ah=(i:Int)) (hs:¬ (0 < si∧si < m.seq)) (c n:Int) (hz:(fC m.flags mode fl=m.flags∧c=0∧n=m.seq)∨(fC m.flags mode fl≠m.flags∧1000000≤b.seq∧c=3∧n=0)) :
  Calls Tryz.prog 90 #[.pointer (some ⟨g,o,none⟩),.agg #[.int .i64 k,.slice x0 n0 m0,.slice x1 n1 m1,.int .i64 uid,.int .i64 mode,.int .i64 fl,.int .i64 si,.slice x2 n2 m2]] w fun e w'=>∃ u,e=.returned u∧je w' u (aN c n)∧Turns w w' S g o∧aK w' S g o b:=by
 have HP:Hid (∀ w',Below w.heap.size w w'→aK w' S g o b):=fun w' h=>hp.below h
 have HZ:Hid _:=hz
 clear hz
 have bE:g < w.heap.size:=jS hp.ty
 obtain ⟨u0,u1,u2,h0,h1,h2,hint,c0,c1,c2,c3,c4,c5,c6⟩:=hp.cells
 have HV:Hid (∀ w',Below w.heap.size w w'→bI w' (.agg #[u0,.int .i64 b.valid,.int .i64 b.next,.int .i64 b.seq,u1,u2,.int .i64 b.lost]) b):=fun w' h=>⟨u0,u1,u2,rfl,h0.bs.below h,h1.v.below iG h,h2.1.below gU h,hint⟩
 obtain ⟨a0,q0,z0,rfl⟩:=h0.bs.aG
 obtain ⟨a1,z1,rfl,-⟩:=h1.v.form
 obtain ⟨mb,off,zc,mu,hv',hlm,f0,f1,f2,f3,-,uD,vK,sD⟩:=h1.v.cell i m hm
 simp only [Value.slice.injEq,true_and] at hv'
 have HR:Hid (∀ W',je W' (.agg #[.int .i64 c,.int .i64 n,.slice none 0 0,.int .i64 0,.int .i64 0,.int .i64 0,.slice none 0 0,.slice none 0 0,.int .i64 0,.slice none 0 0]) (aN c n)):=by
  intro W'
  have hcn:ay c∧ay n:=by
   rcases HZ.out with ⟨-,rfl,rfl⟩ | ⟨-,-,rfl,rfl⟩
   ·exact ⟨aI,sD⟩
   ·exact ⟨⟨by decide,by decide⟩,aI⟩
  exact ⟨_,_,_,_,rfl,⟨_,_,_,rfl,mD _,Rd.nil _,Rd.nil _,aI,aI,aI,aI⟩,⟨rfl,rfl⟩,hcn.1,hcn.2⟩
 obtain ⟨rfl,rfl⟩:=hv'
 have hil:i < b.ah.length:=(gs1 hm).1
 have hml:b.ah.length≤2000000:=by have:=lF b.ah;unfold bT at hsx;omega
 obtain ⟨a2,z2,rfl,-⟩:=h2.1.form
 obtain ⟨HB,bO,aQ,jf⟩:=uz w (.cells #[.int .i64 k,.slice x0 n0 m0,.slice x1 n1 m1,.int .i64 uid,.int .i64 mode,.int .i64 fl,.int .i64 si,.slice x2 n2 m2] 28) (.cells #[.int .i64 0,.int .i64 0,.slice none 0 0,.int .i64 0,.int .i64 0,.int .i64 0,.slice none 0 0,.slice none 0 0,.int .i64 0,.slice none 0 0] 37)
 have HC:Hid (∀ W w',Below w.heap.size w W→W.heap[w.heap.size]?=some (.cells #[.int .i64 k,.slice x0 n0 m0,.slice x1 n1 m1,.int .i64 uid,.int .i64 mode,.int .i64 fl,.int .i64 si,.slice x2 n2 m2] 28 (0,0))→Below W.heap.size W w'→w'.cell? ⟨g,o,none⟩=some (.slice a0 q0 z0)∧w'.cell? ⟨g,o+1,none⟩=some (.int .i64 b.valid)∧w'.cell? ⟨g,o+2,none⟩=some (.int .i64 b.next)∧w'.cell? ⟨g,o+3,none⟩=some (.int .i64 b.seq)∧w'.cell? ⟨g,o+4,none⟩=some (.slice (some ⟨mb,off,none⟩) b.ah.length z1)∧w'.cell? ⟨g,o+5,none⟩=some (.slice a2 b.au.length z2)∧w'.cell? ⟨g,o+6,none⟩=some (.int .i64 b.lost)∧w'.cell? ⟨w.heap.size,3,none⟩=some (.int .i64 uid)∧w'.cell? ⟨w.heap.size,4,none⟩=some (.int .i64 mode)∧w'.cell? ⟨w.heap.size,5,none⟩=some (.int .i64 fl)∧w'.cell? ⟨w.heap.size,6,none⟩=some (.int .i64 si)∧w'.cell? ⟨mb,off+i * 4+1,none⟩=some (.int .i64 m.flags)∧w'.cell? ⟨mb,off+i * 4+2,none⟩=some (.int .i64 m.seq)):=by
  intro W w' hb hc hw
  have h:=fun j=>hb.cell (p:=⟨g,j,none⟩) bE
  have h':=fun j=>hw.cell (p:=⟨g,j,none⟩) (Nat.lt_of_lt_of_le bE hb.size)
  have hm0:=fun j=>hb.cell (p:=⟨mb,j,none⟩) hlm
  have hm':=fun j=>hw.cell (p:=⟨mb,j,none⟩) (Nat.lt_of_lt_of_le hlm hb.size)
  have hk:=aB hw hc
  have hq:=fun j=>cell_of_row w' w.heap.size j _ _ (0,0) hk
  exact ⟨(h' _).trans ((h _).trans c0),(h' _).trans ((h _).trans c1),(h' _).trans ((h _).trans c2),(h' _).trans ((h _).trans c3),(h' _).trans ((h _).trans c4),(h' _).trans ((h _).trans c5),(h' _).trans ((h _).trans c6),hq 3,hq 4,hq 5,hq 6,(hm' _).trans ((hm0 _).trans f1),(hm' _).trans ((hm0 _).trans f2)⟩
 clear h0 h1 h2 hp c0 c1 c2 c3 c4 c5 c6 hint f0 f1 f2 f3
 go_enter Tryz.func90,Tryz.ntmps90
 go_wp2
 generalize ((w.alloc (.cells #[.int .i64 k,.slice x0 n0 m0,.slice x1 n1 m1,.int .i64 uid,.int .i64 mode,.int .i64 fl,.int .i64 si,.slice x2 n2 m2] 28)).alloc (.cells #[.int .i64 0,.int .i64 0,.slice none 0 0,.int .i64 0,.int .i64 0,.int .i64 0,.slice none 0 0,.slice none 0 0,.int .i64 0,.slice none 0 0] 37))=W at HB bO aQ jf ⊢
 have HS:Hid (∀ w',Below W.heap.size W w'→w'.cell? ⟨g,o,none⟩=some (.slice a0 q0 z0)∧w'.cell? ⟨g,o+1,none⟩=some (.int .i64 b.valid)∧w'.cell? ⟨g,o+2,none⟩=some (.int .i64 b.next)∧w'.cell? ⟨g,o+3,none⟩=some (.int .i64 b.seq)∧w'.cell? ⟨g,o+4,none⟩=some (.slice (some ⟨mb,off,none⟩) b.ah.length z1)∧w'.cell? ⟨g,o+5,none⟩=some (.slice a2 b.au.length z2)∧w'.cell? ⟨g,o+6,none⟩=some (.int .i64 b.lost)∧w'.cell? ⟨w.heap.size,3,none⟩=some (.int .i64 uid)∧w'.cell? ⟨w.heap.size,4,none⟩=some (.int .i64 mode)∧w'.cell? ⟨w.heap.size,5,none⟩=some (.int .i64 fl)∧w'.cell? ⟨w.heap.size,6,none⟩=some (.int .i64 si)∧w'.cell? ⟨mb,off+i * 4+1,none⟩=some (.int .i64 m.flags)∧w'.cell? ⟨mb,off+i * 4+2,none⟩=some (.int .i64 m.seq)):=fun w' h=>HC.out W w' HB.out bO.out h
 have DR:Below W.heap.size W W.drew:=(bd _ _)
 have hl1:w.heap.size < W.drew.heap.size:=by show _ < W.heap.size;omega
 have hl2:g < W.drew.heap.size:=by show _ < W.heap.size;omega
 have dY:Hid _:=HV.out W.drew (Below.step HB.out DR)
 go_region_held3 (fun w'=>w'.cell? ⟨g,o,none⟩=some (.slice a0 q0 z0)∧w'.cell? ⟨g,o+1,none⟩=some (.int .i64 b.valid)∧w'.cell? ⟨g,o+2,none⟩=some (.int .i64 b.next)∧w'.cell? ⟨g,o+3,none⟩=some (.int .i64 b.seq)∧w'.cell? ⟨g,o+4,none⟩=some (.slice (some ⟨mb,off,none⟩) b.ah.length z1)∧w'.cell? ⟨g,o+5,none⟩=some (.slice a2 b.au.length z2)∧w'.cell? ⟨g,o+6,none⟩=some (.int .i64 b.lost)∧w'.cell? ⟨w.heap.size,3,none⟩=some (.int .i64 uid)∧w'.cell? ⟨w.heap.size,4,none⟩=some (.int .i64 mode)∧w'.cell? ⟨w.heap.size,5,none⟩=some (.int .i64 fl)∧w'.cell? ⟨w.heap.size,6,none⟩=some (.int .i64 si)∧w'.cell? ⟨mb,off+i * 4+1,none⟩=some (.int .i64 m.flags)∧w'.cell? ⟨mb,off+i * 4+2,none⟩=some (.int .i64 m.seq))
  (first | exact HS.out _ DR | exact HS.out _ (Below.step DR B1) | go_keep)
  ((go_at_call 51;refine (rH _ b uid _ dY.out).mono ?_;rintro e w1 ⟨rfl,B1⟩))
 have HB1:Hid (Below W.heap.size W w1):=Below.step DR B1
 have bX:Hid _:=aB HB1.out aQ.out
 have hw1:W.heap.size≤w1.heap.size:=HB1.out.size
 clear B1 dY
 obtain ⟨e0,e1,e2,e3,e4,e5,e6,e7,e8,e9,e10,e11,e12⟩:=HS.out _ HB1.out
 have sF:g < w1.heap.size:=by omega
 have Px:mb < w1.heap.size:=by omega
 have vL:w.heap.size < w1.heap.size:=by omega
 have IY:(i:Int) < b.ah.length:=by omega
 have hs3:(0 < si∧¬ (si < m.seq))∨(si≤0∧decide (0 < si)=false):=by
  by_cases hs0:0 < si
  ·exact .inl ⟨hs0,fun h=>hs ⟨hs0,h⟩⟩
  ·exact .inr ⟨by omega,decide_eq_false hs0⟩
 rcases hs3 with ⟨hs0,hs1⟩ | ⟨hs1,hs2⟩
 all_goals
  go_wp2
  go_quiet (fail)
  go_wp2
  have HB2:Hid (Below W.heap.size W (w1.drewN nq)):=below_drewN nq HB1.out
  have hw2:(w1.drewN nq).heap.size=w1.heap.size:=rfl
  clear e0 e1 e2 e3 e4 e5 e6 e7 e8 e9 e10 e11 e12
  generalize w1.drewN nq=w2 at HB2 hw2 ⊢
  have oF:Below W.heap.size W w2.drew:=Below.step HB2.out (bd _ _)
  have hg2:g < w2.drew.heap.size:=by show _ < w2.heap.size;omega
  have hm2:mb < w2.drew.heap.size:=by show _ < w2.heap.size;omega
  have hc2:w.heap.size < w2.drew.heap.size:=by show _ < w2.heap.size;omega
  go_region_held3 (fun w'=>w'.cell? ⟨g,o,none⟩=some (.slice a0 q0 z0)∧w'.cell? ⟨g,o+1,none⟩=some (.int .i64 b.valid)∧w'.cell? ⟨g,o+2,none⟩=some (.int .i64 b.next)∧w'.cell? ⟨g,o+3,none⟩=some (.int .i64 b.seq)∧w'.cell? ⟨g,o+4,none⟩=some (.slice (some ⟨mb,off,none⟩) b.ah.length z1)∧w'.cell? ⟨g,o+5,none⟩=some (.slice a2 b.au.length z2)∧w'.cell? ⟨g,o+6,none⟩=some (.int .i64 b.lost)∧w'.cell? ⟨w.heap.size,3,none⟩=some (.int .i64 uid)∧w'.cell? ⟨w.heap.size,4,none⟩=some (.int .i64 mode)∧w'.cell? ⟨w.heap.size,5,none⟩=some (.int .i64 fl)∧w'.cell? ⟨w.heap.size,6,none⟩=some (.int .i64 si)∧w'.cell? ⟨mb,off+i * 4+1,none⟩=some (.int .i64 m.flags)∧w'.cell? ⟨mb,off+i * 4+2,none⟩=some (.int .i64 m.seq))
   (first | exact HS.out _ oF | go_keep)
   ((go_at_call 105;refine (OH m.flags mode fl _).mono ?_;rintro e w3 ⟨rfl,rfl⟩))
  have hw4:w2.drew.heap.size=w1.heap.size:=hw2
  clear hg2 hm2 hc2
  generalize w2.drew=w4 at oF hw4 ⊢
  have hg2:g < w4.heap.size:=by omega
  have hm2:mb < w4.heap.size:=by omega
  have hc2:w.heap.size < w4.heap.size:=by omega
  have cB:Hid _:=aB oF aQ.out
  obtain ⟨e0,e1,e2,e3,e4,e5,e6,e7,e8,e9,e10,e11,e12⟩:=HS.out _ oF
  obtain ⟨r0,r1,r2,r3,r4,r5,r6,r7,r8,r9⟩:=aO cB.out
  have fz:∀ i,w4.frozen? ⟨w.heap.size+1,i,none⟩=false:=fun i=>frozen_of_row _ _ i _ _ cB.out
  have hlr:w.heap.size+1 < w4.heap.size:=by omega
  have HF:Hid _:=oD (w:=w) cB.out (by omega) (Below.step HB.out oF) c n
  clear HS bO HC HV aQ oF HB2
  rcases HZ.out with ⟨hfl,rfl,rfl⟩ | ⟨hfl,hfull,rfl,rfl⟩
  all_goals
   go_wp2
   obtain ⟨f0,f1,f2,f3,f4,f5,f6,f7,f8,f9⟩:=aO HF.out.1
   exact bodyPost_ret (v:=.agg #[_,_,_,_,_,_,_,_,_,_]) (by simp [results,Tryz.results90,go_sem,f0,f1,f2,f3,f4,f5,f6,f7,f8,f9]) rfl ⟨_,rfl,HR.out _,nG HF.out.2,HP.out _ HF.out.2⟩
/- An account whose boxes are put anew. -/
theorem aS.Pz {w1 w:World} {S S':Nat→Prop} {ga:Nat} {a:aF} {v:Value} {l:List aA} (h:aS w1 S ga a) (hb:Below w1.heap.size w1 w) (hq:iK w S' v l) (hg:¬ S' ga) (hS:∀ k,S' k→S k∨w1.heap.size≤k) :
  aS (w.setCell ⟨ga,1,none⟩ v) S' ga ⟨a.valid,l,a.seen⟩:=by
 have h':=h.below hb
 have ht:=h'.ty
 obtain ⟨_,EM,PD,hh,_,hi,_⟩:=h
 obtain ⟨hs,u0,u1,h0,h1,_,r⟩:=h'
 have hk:∀ k,k≠ga→(w.setCell ⟨ga,1,none⟩ v).heap[k]?=w.heap[k]?:=fun k h=>Below.heap_setCell _ _ _ _ h
 have he:=(hb.block ga (lt_of_heap hh)).trans hh
 rw [h0] at he
 simp only [Option.some.injEq,Obj.cells.injEq,Array.mk.injEq,List.cons.injEq,true_and,and_true] at he
 obtain ⟨rfl,rfl⟩:=he
 refine ⟨hg,v,u1,aJ (i:=1) h0,xK hq (fun k h _=>hk k fun e=>hg (e ▸ h)) (fV ht (by decide)) (fV ht (by decide)),?_,r⟩
 refine Ow.mono (jd (w:=w1) hi fun k hk1 hk2 hT=>?_) fun k h=>⟨fun h'=>(hS k h').elim h.1 fun h'=>by have:=h.2;omega,by have:=h.2;have:=hb.size;simpa [World.setCell] using Nat.lt_of_lt_of_le h.2 hb.size⟩
 have:k≠ga:=fun e=>by subst e;obtain ⟨cs,fz,hT⟩:=hT;exact dO hT ⟨_,_,hh⟩ (by decide)
 exact (hk k this).trans (hb.block k hk2)
/-- A box of its own, without ah and au. -/
theorem XJ {w:World} {na:Option Addr} {nn nc:Nat} {nm:List Int} {v n:Int} (h:RO w Any (.slice na nn nc) nm) (hv:ay v) (hn:ay n):EL 7 iE w [⟨nm,v,n,0,[],[],0⟩] (fun _=>False) [.slice na nn nc,.int .i64 v,.int .i64 n,.int .i64 0,.slice none 0 0,.slice none 0 0,.int .i64 0] :=
 EL.one rfl ⟨_,_,_,rfl,h,.inl ⟨rfl,rfl⟩,⟨Rd.nil _,fun _ _ _ e=>by cases e⟩,hv,hn,aI,aI⟩
theorem xP {w:World}:∀ {l:List aA} {S:Nat→Prop} {xs:List Value},EL 7 iE w l S xs→∀ y ∈ xs,y.oneCell'=true
 | [],_,_,h=>by rw [show _=[] from h];simp
 | x :: l,_,_,⟨c,ys,_,_,e,hc,⟨u0,u1,u2,ec,h0,h1,h2,_⟩,hl,_⟩=>by
  obtain ⟨a0,n0,c0,rfl⟩:=h0.bs.aG
  obtain ⟨a1,c1,rfl,-⟩:=h1.v.form
  obtain ⟨a2,c2,rfl,-⟩:=h2.1.form
  subst ec
  subst e
  intro y hy
  simp only [List.cons_append,List.nil_append,List.mem_cons,List.mem_append,List.not_mem_nil,or_false] at hy
  rcases hy with rfl | rfl | rfl | rfl | rfl | rfl | rfl | hy
  all_goals first | rfl | exact xP hl y hy
/-- One box into the middle of a row. -/
theorem XK {w:World} {l:List aA} {b:aA} {S:Nat→Prop} {xs cb:List Value} (i:Nat) (h:EL 7 iE w l S xs) (hb:EL 7 iE w [b] (fun _=>False) cb):EL 7 iE w (l.take i ++ b :: l.drop i) S (xs.take (i * 7) ++ cb ++ xs.drop (i * 7)):=by
 obtain ⟨S1,S2,e1,e2,d1,d2,d3⟩:=EL.split i h
 have:=(e1.app hb (fun _ _ h=>h)).app e2 (fun k h h'=>h.elim (fun h=>d3 k h h') (fun h=>h))
 rw [List.append_assoc] at this
 exact this.mono fun k h=>h.elim (fun h=>h.elim (d1 k) False.elim) (d2 k)
/-- One box out of a row. -/
theorem XL {w:World} {l:List aA} {S:Nat→Prop} {xs:List Value} (i:Nat) (h:EL 7 iE w l S xs):EL 7 iE w (l.take i ++ l.drop (i+1)) S (xs.take (i * 7) ++ xs.drop ((i+1) * 7)):=by
 obtain ⟨S1,S2,e1,e2,d1,d2,d3⟩:=EL.split i h
 obtain ⟨T1,T2,f1,f2,c1,c2,c3⟩:=EL.split 1 e2
 have:=e1.app f2 (fun k h h'=>d3 k h (c2 k h'))
 rw [List.drop_drop,List.drop_drop] at this
 rw [show (i+1) * 7=i * 7+1 * 7 by omega]
 exact this.mono fun k h=>h.elim (d1 k) fun h=>d2 k (c2 k h)
theorem takeWhile_take {α:Type} (p:α→Bool):∀ (l:List α) (i:Nat),(∀ j x,j < i→l[j]?=some x→p x=true)→(∀ x,l[i]?=some x→p x=false)→i≤l.length→l.takeWhile p=l.take i∧l.dropWhile p=l.drop i
 | [],i,_,_,hi=>by simp at hi;subst hi;simp
 | x :: l,0,_,h,_=>by simp [h x rfl]
 | x :: l,i+1,h1,h2,hi=>by
  have hx:=h1 0 x (by omega) rfl
  obtain ⟨e1,e2⟩:=takeWhile_take p l i (fun j y hj hy=>h1 (j+1) y (by omega) (by simpa using hy)) (fun y hy=>h2 y (by simpa using hy)) (by simpa using hi)
  simp [hx,e1,e2]
section
variable {w : World} {g cap n k : Nat} {cur : Array Value}
theorem EN (hh:w.heap[g]?=some (.cells cur 34 (0,0))) (hs:n * 7≤cur.size) (hk:k≤n) (c:Nat):sw w (.slice (some ⟨g,0,none⟩) k c) k 7 ((cur.toList.take (n * 7)).take (k * 7)):=by
 refine .inr ⟨g,0,c,rfl,?_,fun j y hy=>?_⟩
 ·rw [List.length_take,List.length_take,Array.length_toList];omega
 ·rw [List.getElem?_take] at hy
  split at hy
  ·rw [List.getElem?_take] at hy
   split at hy
   ·rw [cell_of_row w g _ cur _ (0,0) hh,Nat.zero_add];simpa using hy
   ·cases hy
  ·cases hy
theorem PE (hh:w.heap[g]?=some (.cells cur 34 (0,0))) (hs:n * 7≤cur.size) (hk:k≤n) (c:Nat):sw w (.slice (some ⟨g,k * 7,none⟩) (n - k) c) (n - k) 7 ((cur.toList.take (n * 7)).drop (k * 7)):=by
 refine .inr ⟨g,k * 7,c,rfl,?_,fun j y hy=>?_⟩
 ·rw [List.length_drop,List.length_take,Array.length_toList,Nat.sub_mul];omega
 ·rw [List.getElem?_drop,List.getElem?_take] at hy
  split at hy
  ·rw [cell_of_row w g _ cur _ (0,0) hh];simpa using hy
  ·cases hy
theorem PG (w:World) (g n:Nat) (cur:Array Value) (c:Nat):sw w (.slice (some ⟨g,0,none⟩) 0 c) 0 7 ((cur.toList.take (n * 7)).drop (n * 7)):=by
 refine .inr ⟨g,0,c,rfl,?_,fun j y hy=>?_⟩
 ·rw [List.length_drop,List.length_take];omega
 ·rw [List.drop_of_length_le (by rw [List.length_take];omega)] at hy;cases hy
end
/-- The boxes with one more are the IB. -/
theorem XM {wl w3:World} {S0:Nat→Prop} {ga k m:Nat} {A:aF} {cells xs:List Value} {V:Value} {na:Option Addr} {nn nc:Nat} {nm:List Int} {v:Int} (hA:aS wl S0 ga A) (IZ:∀ k,S0 k→k < wl.heap.size) (hb:Below wl.heap.size wl w3) (hel:EL 7 iE wl A.boxes S0 cells) (hro:RO wl Any (.slice na nn nc) nm) (hv:ay v)
  (hrow:w3.ownsRow wl.heap.size 34 7 V m xs) (hm:m=A.boxes.length+1) (hxs:xs=cells.take (k * 7) ++ [.slice na nn nc,.int .i64 v,.int .i64 1,.int .i64 0,.slice none 0 0,.slice none 0 0,.int .i64 0] ++ cells.drop (k * 7)) (hk:k≤A.boxes.length) :
  aS (w3.setCell ⟨ga,1,none⟩ V) (fun j=>S0 j∨wl.heap.size≤j) ga ⟨A.valid,A.boxes.take k ++ ⟨nm,v,1,0,[],[],0⟩ :: A.boxes.drop k,A.seen⟩:=by
 have hl:(A.boxes.take k ++ (⟨nm,v,1,0,[],[],0⟩:aA) :: A.boxes.drop k).length=m:=by rw [hm,List.length_append,List.length_cons,List.length_take,List.length_drop];omega
 subst hxs
 rw [← hl] at hrow
 have he:=XK k (EJ hel (fun k _ hk=>hb.block k hk) (fU hb) (fU hb)) (XJ (w:=w3) (v:=v) (n:=1) (jP hro (fU hb)) hv ⟨by decide,by decide⟩)
 exact hA.Pz hb (O8 hrow he IZ) (fun h=>h.elim hA.1 (fun h=>by have:=hA.lt;omega)) (fun k h=>h)
end Go.Proofs.YtmglhdkeidhafaaGreat
