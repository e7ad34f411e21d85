/- The proof's texts, part 15. -/
import Derived.Test.YtlneebmlhblleaaGreatTc
namespace Go.Proofs.YtlneebmlhblleaaGreat
open Go.RowKit
set_option linter.unusedVariables false
set_option linter.unusedSimpArgs false
set_option maxHeartbeats 4000000
set_option maxRecDepth 100000
/- What Qx of package spec does. -/
/-- Two variables are laid. -/
theorem uP (w:World) (o0 o1:Obj):Hid (Below w.heap.size w ((w.alloc o0).alloc o1))∧Hid (((w.alloc o0).alloc o1).heap[w.heap.size]?=some o0)∧Hid (((w.alloc o0).alloc o1).heap[w.heap.size+1]?=some o1)∧((w.alloc o0).alloc o1).heap.size=w.heap.size+2 :=
 let ⟨h0,h1,h⟩:=gJ w o0 o1
 ⟨h,h0,h1,by simp⟩
/-- A reply that has no names at all. -/
def jk (w:World) (v:Value) (x:cO):Prop:=∃ u0 u1 u2 u3,v=.agg #[.int .i64 x.code,.int .i64 x.num,u0,.int .i64 x.box.valid,.int .i64 x.box.next,.int .i64 x.box.seq,u1,u2,.int .i64 x.box.lost,u3]∧bK w (.agg #[u0,.int .i64 x.box.valid,.int .i64 x.box.next,.int .i64 x.box.seq,u1,u2,.int .i64 x.box.lost]) x.box∧(u3=.slice none 0 0∧x.names=[])∧aB x.code∧aB x.num
theorem jk.v {w:World} {v:Value} {x:cO} (h:jk w v x):iO w v x:=let ⟨u0,u1,u2,u3,h0,h1,h2,i⟩:=h;⟨u0,u1,u2,u3,h0,h1,by rw [h2.1,h2.2];exact Rd.nil _,i⟩
theorem oW {w w1:World} {r:Nat} {d0 d1 d2 d3 d4 d5 d6 d7 d8 d9:Value} (hk:w1.heap[r]?=some (.cells #[d0,d1,d2,d3,d4,d5,d6,d7,d8,d9] 40 (0,0))) (hr:w.heap.size≤r) (hb:Below w.heap.size w w1) (c n:Int) :
  ((((((((((w1.setCell ⟨r,0,none⟩ (.int .i64 c)).setCell ⟨r,1,none⟩ (.int .i64 n)).setCell ⟨r,2,none⟩ (.slice none 0 0)).setCell ⟨r,3,none⟩ (.int .i64 0)).setCell ⟨r,4,none⟩ (.int .i64 0)).setCell ⟨r,5,none⟩ (.int .i64 0)).setCell ⟨r,6,none⟩ (.slice none 0 0)).setCell ⟨r,7,none⟩ (.slice none 0 0)).setCell ⟨r,8,none⟩ (.int .i64 0)).setCell ⟨r,9,none⟩ (.slice none 0 0)).heap[r]?=some (.cells #[(.int .i64 c),(.int .i64 n),(.slice none 0 0),(.int .i64 0),(.int .i64 0),(.int .i64 0),(.slice none 0 0),(.slice none 0 0),(.int .i64 0),(.slice none 0 0)] 40 (0,0))∧Below w.heap.size w ((((((((((w1.setCell ⟨r,0,none⟩ (.int .i64 c)).setCell ⟨r,1,none⟩ (.int .i64 n)).setCell ⟨r,2,none⟩ (.slice none 0 0)).setCell ⟨r,3,none⟩ (.int .i64 0)).setCell ⟨r,4,none⟩ (.int .i64 0)).setCell ⟨r,5,none⟩ (.int .i64 0)).setCell ⟨r,6,none⟩ (.slice none 0 0)).setCell ⟨r,7,none⟩ (.slice none 0 0)).setCell ⟨r,8,none⟩ (.int .i64 0)).setCell ⟨r,9,none⟩ (.slice none 0 0)):=by
 replace hk:(World.setCell _ _ _).heap[r]?=some (Obj.cells #[(.int .i64 c),d1,d2,d3,d4,d5,d6,d7,d8,d9] 40 (0,0)):=aP (i:=0) (v:=(.int .i64 c)) hk
 replace hk:(World.setCell _ _ _).heap[r]?=some (Obj.cells #[(.int .i64 c),(.int .i64 n),d2,d3,d4,d5,d6,d7,d8,d9] 40 (0,0)):=aP (i:=1) (v:=(.int .i64 n)) hk
 replace hk:(World.setCell _ _ _).heap[r]?=some (Obj.cells #[(.int .i64 c),(.int .i64 n),(.slice none 0 0),d3,d4,d5,d6,d7,d8,d9] 40 (0,0)):=aP (i:=2) (v:=(.slice none 0 0)) hk
 replace hk:(World.setCell _ _ _).heap[r]?=some (Obj.cells #[(.int .i64 c),(.int .i64 n),(.slice none 0 0),(.int .i64 0),d4,d5,d6,d7,d8,d9] 40 (0,0)):=aP (i:=3) (v:=(.int .i64 0)) hk
 replace hk:(World.setCell _ _ _).heap[r]?=some (Obj.cells #[(.int .i64 c),(.int .i64 n),(.slice none 0 0),(.int .i64 0),(.int .i64 0),d5,d6,d7,d8,d9] 40 (0,0)):=aP (i:=4) (v:=(.int .i64 0)) hk
 replace hk:(World.setCell _ _ _).heap[r]?=some (Obj.cells #[(.int .i64 c),(.int .i64 n),(.slice none 0 0),(.int .i64 0),(.int .i64 0),(.int .i64 0),d6,d7,d8,d9] 40 (0,0)):=aP (i:=5) (v:=(.int .i64 0)) hk
 replace hk:(World.setCell _ _ _).heap[r]?=some (Obj.cells #[(.int .i64 c),(.int .i64 n),(.slice none 0 0),(.int .i64 0),(.int .i64 0),(.int .i64 0),(.slice none 0 0),d7,d8,d9] 40 (0,0)):=aP (i:=6) (v:=(.slice none 0 0)) hk
 replace hk:(World.setCell _ _ _).heap[r]?=some (Obj.cells #[(.int .i64 c),(.int .i64 n),(.slice none 0 0),(.int .i64 0),(.int .i64 0),(.int .i64 0),(.slice none 0 0),(.slice none 0 0),d8,d9] 40 (0,0)):=aP (i:=7) (v:=(.slice none 0 0)) hk
 replace hk:(World.setCell _ _ _).heap[r]?=some (Obj.cells #[(.int .i64 c),(.int .i64 n),(.slice none 0 0),(.int .i64 0),(.int .i64 0),(.int .i64 0),(.slice none 0 0),(.slice none 0 0),(.int .i64 0),d9] 40 (0,0)):=aP (i:=8) (v:=(.int .i64 0)) hk
 replace hk:(World.setCell _ _ _).heap[r]?=some (Obj.cells #[(.int .i64 c),(.int .i64 n),(.slice none 0 0),(.int .i64 0),(.int .i64 0),(.int .i64 0),(.slice none 0 0),(.slice none 0 0),(.int .i64 0),(.slice none 0 0)] 40 (0,0)):=aP (i:=9) (v:=(.slice none 0 0)) hk
 exact ⟨hk,((((((((((hb.setCell hr _).setCell hr _).setCell hr _).setCell hr _).setCell hr _).setCell hr _).setCell hr _).setCell hr _).setCell hr _).setCell hr _)⟩
theorem Zo (g o:Nat) (b:aD) (S:Nat→Prop) (k uid mode fl si:Int) (x0 x1 x2:Option Addr) (n0 n1 n2 m0 m1 m2:Nat) (w:World) (hp:aN w S g o b) (hsx:bA b≤2000000) (hno:bB (fun m:aF=>decide (m.uid=uid)) b.ah = -1) :
  Calls Tryz.prog 58 #[.pointer (some ⟨g,o,none⟩),.agg #[.int .i64 k,.slice x0 n0 m0,.slice x1 n1 m1,.int .i64 uid,.int .i64 mode,.int .i64 fl,.int .i64 si,.slice x2 n2 m2]] w fun e w'=>∃ u,e=.returned u∧jk w' u (aQ 1 0)∧Turns w w' S g o∧aN w' S g o b:=by
 have HP:Hid (∀ w',Below w.heap.size w w'→aN w' S g o b):=fun w' h=>hp.below h
 have bM:g < w.heap.size:=mq hp.ty
 obtain ⟨u0,u1,u2,h0,h1,h2,hint,c0,c1,c2,c3,c4,c5,c6⟩:=hp.cells
 have HV:Hid (∀ w',Below w.heap.size w w'→bK w' (.agg #[u0,.int .i64 b.valid,.int .i64 b.next,.int .i64 b.seq,u1,u2,.int .i64 b.lost]) b):=fun w' h=>⟨u0,u1,u2,rfl,h0.bs.below h,h1.v.below eU h,h2.1.below dY h,hint⟩
 obtain ⟨a0,q0,z0,rfl⟩:=h0.bs.aG
 obtain ⟨a1,z1,rfl,-⟩:=h1.v.form
 obtain ⟨a2,z2,rfl,-⟩:=h2.1.form
 obtain ⟨HB,bC,aO,jm⟩:=uP w (.cells #[.int .i64 k,.slice x0 n0 m0,.slice x1 n1 m1,.int .i64 uid,.int .i64 mode,.int .i64 fl,.int .i64 si,.slice x2 n2 m2] 44) (.cells #[.int .i64 0,.int .i64 0,.slice none 0 0,.int .i64 0,.int .i64 0,.int .i64 0,.slice none 0 0,.slice none 0 0,.int .i64 0,.slice none 0 0] 40)
 have HC:Hid (∀ W w',Below w.heap.size w W→W.heap[w.heap.size]?=some (.cells #[.int .i64 k,.slice x0 n0 m0,.slice x1 n1 m1,.int .i64 uid,.int .i64 mode,.int .i64 fl,.int .i64 si,.slice x2 n2 m2] 44 (0,0))→Below W.heap.size W w'→w'.cell? ⟨g,o,none⟩=some (.slice a0 q0 z0)∧w'.cell? ⟨g,o+1,none⟩=some (.int .i64 b.valid)∧w'.cell? ⟨g,o+2,none⟩=some (.int .i64 b.next)∧w'.cell? ⟨g,o+3,none⟩=some (.int .i64 b.seq)∧w'.cell? ⟨g,o+4,none⟩=some (.slice a1 b.ah.length z1)∧w'.cell? ⟨g,o+5,none⟩=some (.slice a2 b.au.length z2)∧w'.cell? ⟨g,o+6,none⟩=some (.int .i64 b.lost)∧w'.cell? ⟨w.heap.size,3,none⟩=some (.int .i64 uid)∧w'.cell? ⟨w.heap.size,4,none⟩=some (.int .i64 mode)∧w'.cell? ⟨w.heap.size,5,none⟩=some (.int .i64 fl)∧w'.cell? ⟨w.heap.size,6,none⟩=some (.int .i64 si)):=by
  intro W w' hb hc hw
  have h:=fun j=>hb.cell (p:=⟨g,j,none⟩) bM
  have h':=fun j=>hw.cell (p:=⟨g,j,none⟩) (Nat.lt_of_lt_of_le bM hb.size)
  have hk:=ay hw hc
  have hq:=fun j=>cell_of_row w' w.heap.size j _ _ (0,0) hk
  exact ⟨(h' _).trans ((h _).trans c0),(h' _).trans ((h _).trans c1),(h' _).trans ((h _).trans c2),(h' _).trans ((h _).trans c3),(h' _).trans ((h _).trans c4),(h' _).trans ((h _).trans c5),(h' _).trans ((h _).trans c6),hq 3,hq 4,hq 5,hq 6⟩
 clear h0 h1 h2 hp c0 c1 c2 c3 c4 c5 c6 hint
 go_enter Tryz.func58,Tryz.ntmps58
 go_wp2
 generalize ((w.alloc (.cells #[.int .i64 k,.slice x0 n0 m0,.slice x1 n1 m1,.int .i64 uid,.int .i64 mode,.int .i64 fl,.int .i64 si,.slice x2 n2 m2] 44)).alloc (.cells #[.int .i64 0,.int .i64 0,.slice none 0 0,.int .i64 0,.int .i64 0,.int .i64 0,.slice none 0 0,.slice none 0 0,.int .i64 0,.slice none 0 0] 40))=W at HB bC aO jm ⊢
 have HS:Hid (∀ w',Below W.heap.size W w'→w'.cell? ⟨g,o,none⟩=some (.slice a0 q0 z0)∧w'.cell? ⟨g,o+1,none⟩=some (.int .i64 b.valid)∧w'.cell? ⟨g,o+2,none⟩=some (.int .i64 b.next)∧w'.cell? ⟨g,o+3,none⟩=some (.int .i64 b.seq)∧w'.cell? ⟨g,o+4,none⟩=some (.slice a1 b.ah.length z1)∧w'.cell? ⟨g,o+5,none⟩=some (.slice a2 b.au.length z2)∧w'.cell? ⟨g,o+6,none⟩=some (.int .i64 b.lost)∧w'.cell? ⟨w.heap.size,3,none⟩=some (.int .i64 uid)∧w'.cell? ⟨w.heap.size,4,none⟩=some (.int .i64 mode)∧w'.cell? ⟨w.heap.size,5,none⟩=some (.int .i64 fl)∧w'.cell? ⟨w.heap.size,6,none⟩=some (.int .i64 si)):=fun w' h=>HC.out W w' HB.out bC.out h
 have DR:Below W.heap.size W W.drew:=bd _ _
 have hl1:w.heap.size < W.drew.heap.size:=by show _ < W.heap.size;omega
 have hl2:g < W.drew.heap.size:=by show _ < W.heap.size;omega
 have dR:Hid _:=HV.out W.drew (Below.step HB.out DR)
 go_region_held3 (fun w'=>w'.cell? ⟨g,o,none⟩=some (.slice a0 q0 z0)∧w'.cell? ⟨g,o+1,none⟩=some (.int .i64 b.valid)∧w'.cell? ⟨g,o+2,none⟩=some (.int .i64 b.next)∧w'.cell? ⟨g,o+3,none⟩=some (.int .i64 b.seq)∧w'.cell? ⟨g,o+4,none⟩=some (.slice a1 b.ah.length z1)∧w'.cell? ⟨g,o+5,none⟩=some (.slice a2 b.au.length z2)∧w'.cell? ⟨g,o+6,none⟩=some (.int .i64 b.lost)∧w'.cell? ⟨w.heap.size,3,none⟩=some (.int .i64 uid)∧w'.cell? ⟨w.heap.size,4,none⟩=some (.int .i64 mode)∧w'.cell? ⟨w.heap.size,5,none⟩=some (.int .i64 fl)∧w'.cell? ⟨w.heap.size,6,none⟩=some (.int .i64 si))
  (first | exact HS.out _ DR | exact HS.out _ (Below.step DR B1) | go_keep)
  ((go_at_call 62;refine (sI _ b uid _ dR.out).mono ?_;rintro e w1 ⟨rfl,B1⟩))
 have HB1:Hid (Below W.heap.size W w1):=Below.step DR B1
 have bW:Hid _:=ay HB1.out aO.out
 have hw1:W.heap.size≤w1.heap.size:=HB1.out.size
 clear B1 dR
 obtain ⟨r0,r1,r2,r3,r4,r5,r6,r7,r8,r9⟩:=aM bW.out
 have fz:∀ i,w1.frozen? ⟨w.heap.size+1,i,none⟩=false:=fun i=>frozen_of_row w1 _ i _ _ bW.out
 have hlr:w.heap.size+1 < w1.heap.size:=by omega
 clear HS bC HC HV aO
 have HF:Hid _:=oW (w:=w) bW.out (by omega) (Below.step HB.out HB1.out) 1 0
 go_wp2
 have ff:=aM HF.out.1
 refine bodyPost_ret (v:=.agg #[(.int .i64 1),(.int .i64 0),(.slice none 0 0),(.int .i64 0),(.int .i64 0),(.int .i64 0),(.slice none 0 0),(.slice none 0 0),(.int .i64 0),(.slice none 0 0)]) (by simp [results,Tryz.results58,go_sem,ff]) rfl ⟨_,rfl,?_,oU HF.out.2,HP.out _ HF.out.2⟩
 exact ⟨_,_,_,_,rfl,⟨_,_,_,rfl,ng _,Rd.nil _,Rd.nil _,aI,aI,aI,aI⟩,⟨rfl,rfl⟩,⟨by decide,by decide⟩,aI⟩
theorem Zp (g o:Nat) (b:aD) (S:Nat→Prop) (k uid mode fl si:Int) (x0 x1 x2:Option Addr) (n0 n1 n2 m0 m1 m2:Nat) (w:World) (hp:aN w S g o b) (hsx:bA b≤2000000) (i:Nat) (m:aF) (hm:b.ah[i]?=some m) (hfi:bB (fun m:aF=>decide (m.uid=uid)) b.ah=(i:Int)) (hs0:0 < si) (hs1:si < m.seq) :
  Calls Tryz.prog 58 #[.pointer (some ⟨g,o,none⟩),.agg #[.int .i64 k,.slice x0 n0 m0,.slice x1 n1 m1,.int .i64 uid,.int .i64 mode,.int .i64 fl,.int .i64 si,.slice x2 n2 m2]] w fun e w'=>∃ u,e=.returned u∧jk w' u (aQ 4 m.seq)∧Turns w w' S g o∧aN w' S g o b:=by
 have HP:Hid (∀ w',Below w.heap.size w w'→aN w' S g o b):=fun w' h=>hp.below h
 have bM:g < w.heap.size:=mq hp.ty
 obtain ⟨u0,u1,u2,h0,h1,h2,hint,c0,c1,c2,c3,c4,c5,c6⟩:=hp.cells
 have HV:Hid (∀ w',Below w.heap.size w w'→bK w' (.agg #[u0,.int .i64 b.valid,.int .i64 b.next,.int .i64 b.seq,u1,u2,.int .i64 b.lost]) b):=fun w' h=>⟨u0,u1,u2,rfl,h0.bs.below h,h1.v.below eU h,h2.1.below dY h,hint⟩
 obtain ⟨a0,q0,z0,rfl⟩:=h0.bs.aG
 obtain ⟨a1,z1,rfl,-⟩:=h1.v.form
 obtain ⟨mb,off,zc,mu,hv',hlm,f0,f1,f2,f3,-,uQ,wJ,sO⟩:=h1.v.cell i m hm
 simp only [Value.slice.injEq,true_and] at hv'
 obtain ⟨rfl,rfl⟩:=hv'
 have hil:i < b.ah.length:=(gs1 hm).1
 have hml:b.ah.length≤2000000:=by have:=jZ b.ah;unfold bA at hsx;omega
 obtain ⟨a2,z2,rfl,-⟩:=h2.1.form
 obtain ⟨HB,bC,aO,jm⟩:=uP w (.cells #[.int .i64 k,.slice x0 n0 m0,.slice x1 n1 m1,.int .i64 uid,.int .i64 mode,.int .i64 fl,.int .i64 si,.slice x2 n2 m2] 44) (.cells #[.int .i64 0,.int .i64 0,.slice none 0 0,.int .i64 0,.int .i64 0,.int .i64 0,.slice none 0 0,.slice none 0 0,.int .i64 0,.slice none 0 0] 40)
 have HC:Hid (∀ W w',Below w.heap.size w W→W.heap[w.heap.size]?=some (.cells #[.int .i64 k,.slice x0 n0 m0,.slice x1 n1 m1,.int .i64 uid,.int .i64 mode,.int .i64 fl,.int .i64 si,.slice x2 n2 m2] 44 (0,0))→Below W.heap.size W w'→w'.cell? ⟨g,o,none⟩=some (.slice a0 q0 z0)∧w'.cell? ⟨g,o+1,none⟩=some (.int .i64 b.valid)∧w'.cell? ⟨g,o+2,none⟩=some (.int .i64 b.next)∧w'.cell? ⟨g,o+3,none⟩=some (.int .i64 b.seq)∧w'.cell? ⟨g,o+4,none⟩=some (.slice (some ⟨mb,off,none⟩) b.ah.length z1)∧w'.cell? ⟨g,o+5,none⟩=some (.slice a2 b.au.length z2)∧w'.cell? ⟨g,o+6,none⟩=some (.int .i64 b.lost)∧w'.cell? ⟨w.heap.size,3,none⟩=some (.int .i64 uid)∧w'.cell? ⟨w.heap.size,4,none⟩=some (.int .i64 mode)∧w'.cell? ⟨w.heap.size,5,none⟩=some (.int .i64 fl)∧w'.cell? ⟨w.heap.size,6,none⟩=some (.int .i64 si)∧w'.cell? ⟨mb,off+i * 4+1,none⟩=some (.int .i64 m.flags)∧w'.cell? ⟨mb,off+i * 4+2,none⟩=some (.int .i64 m.seq)):=by
  intro W w' hb hc hw
  have h:=fun j=>hb.cell (p:=⟨g,j,none⟩) bM
  have h':=fun j=>hw.cell (p:=⟨g,j,none⟩) (Nat.lt_of_lt_of_le bM hb.size)
  have hm0:=fun j=>hb.cell (p:=⟨mb,j,none⟩) hlm
  have hm':=fun j=>hw.cell (p:=⟨mb,j,none⟩) (Nat.lt_of_lt_of_le hlm hb.size)
  have hk:=ay hw hc
  have hq:=fun j=>cell_of_row w' w.heap.size j _ _ (0,0) hk
  exact ⟨(h' _).trans ((h _).trans c0),(h' _).trans ((h _).trans c1),(h' _).trans ((h _).trans c2),(h' _).trans ((h _).trans c3),(h' _).trans ((h _).trans c4),(h' _).trans ((h _).trans c5),(h' _).trans ((h _).trans c6),hq 3,hq 4,hq 5,hq 6,(hm' _).trans ((hm0 _).trans f1),(hm' _).trans ((hm0 _).trans f2)⟩
 clear h0 h1 h2 hp c0 c1 c2 c3 c4 c5 c6 hint f0 f1 f2 f3
 go_enter Tryz.func58,Tryz.ntmps58
 go_wp2
 generalize ((w.alloc (.cells #[.int .i64 k,.slice x0 n0 m0,.slice x1 n1 m1,.int .i64 uid,.int .i64 mode,.int .i64 fl,.int .i64 si,.slice x2 n2 m2] 44)).alloc (.cells #[.int .i64 0,.int .i64 0,.slice none 0 0,.int .i64 0,.int .i64 0,.int .i64 0,.slice none 0 0,.slice none 0 0,.int .i64 0,.slice none 0 0] 40))=W at HB bC aO jm ⊢
 have HS:Hid (∀ w',Below W.heap.size W w'→w'.cell? ⟨g,o,none⟩=some (.slice a0 q0 z0)∧w'.cell? ⟨g,o+1,none⟩=some (.int .i64 b.valid)∧w'.cell? ⟨g,o+2,none⟩=some (.int .i64 b.next)∧w'.cell? ⟨g,o+3,none⟩=some (.int .i64 b.seq)∧w'.cell? ⟨g,o+4,none⟩=some (.slice (some ⟨mb,off,none⟩) b.ah.length z1)∧w'.cell? ⟨g,o+5,none⟩=some (.slice a2 b.au.length z2)∧w'.cell? ⟨g,o+6,none⟩=some (.int .i64 b.lost)∧w'.cell? ⟨w.heap.size,3,none⟩=some (.int .i64 uid)∧w'.cell? ⟨w.heap.size,4,none⟩=some (.int .i64 mode)∧w'.cell? ⟨w.heap.size,5,none⟩=some (.int .i64 fl)∧w'.cell? ⟨w.heap.size,6,none⟩=some (.int .i64 si)∧w'.cell? ⟨mb,off+i * 4+1,none⟩=some (.int .i64 m.flags)∧w'.cell? ⟨mb,off+i * 4+2,none⟩=some (.int .i64 m.seq)):=fun w' h=>HC.out W w' HB.out bC.out h
 have DR:Below W.heap.size W W.drew:=bd _ _
 have hl1:w.heap.size < W.drew.heap.size:=by show _ < W.heap.size;omega
 have hl2:g < W.drew.heap.size:=by show _ < W.heap.size;omega
 have dR:Hid _:=HV.out W.drew (Below.step HB.out DR)
 go_region_held3 (fun w'=>w'.cell? ⟨g,o,none⟩=some (.slice a0 q0 z0)∧w'.cell? ⟨g,o+1,none⟩=some (.int .i64 b.valid)∧w'.cell? ⟨g,o+2,none⟩=some (.int .i64 b.next)∧w'.cell? ⟨g,o+3,none⟩=some (.int .i64 b.seq)∧w'.cell? ⟨g,o+4,none⟩=some (.slice (some ⟨mb,off,none⟩) b.ah.length z1)∧w'.cell? ⟨g,o+5,none⟩=some (.slice a2 b.au.length z2)∧w'.cell? ⟨g,o+6,none⟩=some (.int .i64 b.lost)∧w'.cell? ⟨w.heap.size,3,none⟩=some (.int .i64 uid)∧w'.cell? ⟨w.heap.size,4,none⟩=some (.int .i64 mode)∧w'.cell? ⟨w.heap.size,5,none⟩=some (.int .i64 fl)∧w'.cell? ⟨w.heap.size,6,none⟩=some (.int .i64 si)∧w'.cell? ⟨mb,off+i * 4+1,none⟩=some (.int .i64 m.flags)∧w'.cell? ⟨mb,off+i * 4+2,none⟩=some (.int .i64 m.seq))
  (first | exact HS.out _ DR | exact HS.out _ (Below.step DR B1) | go_keep)
  ((go_at_call 62;refine (sI _ b uid _ dR.out).mono ?_;rintro e w1 ⟨rfl,B1⟩))
 have HB1:Hid (Below W.heap.size W w1):=Below.step DR B1
 have bW:Hid _:=ay HB1.out aO.out
 have hw1:W.heap.size≤w1.heap.size:=HB1.out.size
 clear B1 dR
 obtain ⟨e0,e1,e2,e3,e4,e5,e6,e7,e8,e9,e10,e11,e12⟩:=HS.out _ HB1.out
 have sP:g < w1.heap.size:=by omega
 have Qy:mb < w1.heap.size:=by omega
 have wK:w.heap.size < w1.heap.size:=by omega
 have J6:(i:Int) < b.ah.length:=by omega
 obtain ⟨r0,r1,r2,r3,r4,r5,r6,r7,r8,r9⟩:=aM bW.out
 have fz:∀ i,w1.frozen? ⟨w.heap.size+1,i,none⟩=false:=fun i=>frozen_of_row w1 _ i _ _ bW.out
 have hlr:w.heap.size+1 < w1.heap.size:=by omega
 clear HS bC HC HV aO
 have HF:∀ nq,Hid _:=fun nq=>oW (w:=w) (w1:=w1.drewN nq) bW.out (by omega) (below_drewN nq (Below.step HB.out HB1.out)) 4 m.seq
 go_wp2
 go_quiet (fail)
 go_wp2
 obtain ⟨f0,f1,f2,f3,f4,f5,f6,f7,f8,f9⟩:=aM (HF nq).out.1
 refine bodyPost_ret (v:=.agg #[(.int .i64 4),(.int .i64 m.seq),(.slice none 0 0),(.int .i64 0),(.int .i64 0),(.int .i64 0),(.slice none 0 0),(.slice none 0 0),(.int .i64 0),(.slice none 0 0)]) (by simp [results,Tryz.results58,go_sem,f0,f1,f2,f3,f4,f5,f6,f7,f8,f9]) rfl ⟨_,rfl,?_,oU (HF nq).out.2,HP.out _ (HF nq).out.2⟩
 exact ⟨_,_,_,_,rfl,⟨_,_,_,rfl,ng _,Rd.nil _,Rd.nil _,aI,aI,aI,aI⟩,⟨rfl,rfl⟩,Qc,sO⟩
theorem Qz (g o:Nat) (b:aD) (S:Nat→Prop) (k uid mode fl si:Int) (x0 x1 x2:Option Addr) (n0 n1 n2 m0 m1 m2:Nat) (w:World) (hp:aN w S g o b) (hsx:bA b≤2000000) (i:Nat) (m:aF) (hm:b.ah[i]?=some m) (hfi:bB (fun m:aF=>decide (m.uid=uid)) b.ah=(i:Int)) (hs:¬ (0 < si∧si < m.seq)) (c n:Int) (hz:(gy m.flags mode fl=m.flags∧c=0∧n=m.seq)∨(gy m.flags mode fl≠m.flags∧1000000≤b.seq∧c=3∧n=0)) :
  Calls Tryz.prog 58 #[.pointer (some ⟨g,o,none⟩),.agg #[.int .i64 k,.slice x0 n0 m0,.slice x1 n1 m1,.int .i64 uid,.int .i64 mode,.int .i64 fl,.int .i64 si,.slice x2 n2 m2]] w fun e w'=>∃ u,e=.returned u∧jk w' u (aQ c n)∧Turns w w' S g o∧aN w' S g o b:=by
 have HP:Hid (∀ w',Below w.heap.size w w'→aN w' S g o b):=fun w' h=>hp.below h
 have HZ:Hid _:=hz
 clear hz
 have bM:g < w.heap.size:=mq hp.ty
 obtain ⟨u0,u1,u2,h0,h1,h2,hint,c0,c1,c2,c3,c4,c5,c6⟩:=hp.cells
 have HV:Hid (∀ w',Below w.heap.size w w'→bK w' (.agg #[u0,.int .i64 b.valid,.int .i64 b.next,.int .i64 b.seq,u1,u2,.int .i64 b.lost]) b):=fun w' h=>⟨u0,u1,u2,rfl,h0.bs.below h,h1.v.below eU h,h2.1.below dY h,hint⟩
 obtain ⟨a0,q0,z0,rfl⟩:=h0.bs.aG
 obtain ⟨a1,z1,rfl,-⟩:=h1.v.form
 obtain ⟨mb,off,zc,mu,hv',hlm,f0,f1,f2,f3,-,uQ,wJ,sO⟩:=h1.v.cell i m hm
 simp only [Value.slice.injEq,true_and] at hv'
 have HR:Hid (∀ W',jk W' (.agg #[.int .i64 c,.int .i64 n,.slice none 0 0,.int .i64 0,.int .i64 0,.int .i64 0,.slice none 0 0,.slice none 0 0,.int .i64 0,.slice none 0 0]) (aQ c n)):=by
  intro W'
  have hcn:aB c∧aB n:=by
   rcases HZ.out with ⟨-,rfl,rfl⟩ | ⟨-,-,rfl,rfl⟩
   ·exact ⟨aI,sO⟩
   ·exact ⟨⟨by decide,by decide⟩,aI⟩
  exact ⟨_,_,_,_,rfl,⟨_,_,_,rfl,ng _,Rd.nil _,Rd.nil _,aI,aI,aI,aI⟩,⟨rfl,rfl⟩,hcn.1,hcn.2⟩
 obtain ⟨rfl,rfl⟩:=hv'
 have hil:i < b.ah.length:=(gs1 hm).1
 have hml:b.ah.length≤2000000:=by have:=jZ b.ah;unfold bA at hsx;omega
 obtain ⟨a2,z2,rfl,-⟩:=h2.1.form
 obtain ⟨HB,bC,aO,jm⟩:=uP w (.cells #[.int .i64 k,.slice x0 n0 m0,.slice x1 n1 m1,.int .i64 uid,.int .i64 mode,.int .i64 fl,.int .i64 si,.slice x2 n2 m2] 44) (.cells #[.int .i64 0,.int .i64 0,.slice none 0 0,.int .i64 0,.int .i64 0,.int .i64 0,.slice none 0 0,.slice none 0 0,.int .i64 0,.slice none 0 0] 40)
 have HC:Hid (∀ W w',Below w.heap.size w W→W.heap[w.heap.size]?=some (.cells #[.int .i64 k,.slice x0 n0 m0,.slice x1 n1 m1,.int .i64 uid,.int .i64 mode,.int .i64 fl,.int .i64 si,.slice x2 n2 m2] 44 (0,0))→Below W.heap.size W w'→w'.cell? ⟨g,o,none⟩=some (.slice a0 q0 z0)∧w'.cell? ⟨g,o+1,none⟩=some (.int .i64 b.valid)∧w'.cell? ⟨g,o+2,none⟩=some (.int .i64 b.next)∧w'.cell? ⟨g,o+3,none⟩=some (.int .i64 b.seq)∧w'.cell? ⟨g,o+4,none⟩=some (.slice (some ⟨mb,off,none⟩) b.ah.length z1)∧w'.cell? ⟨g,o+5,none⟩=some (.slice a2 b.au.length z2)∧w'.cell? ⟨g,o+6,none⟩=some (.int .i64 b.lost)∧w'.cell? ⟨w.heap.size,3,none⟩=some (.int .i64 uid)∧w'.cell? ⟨w.heap.size,4,none⟩=some (.int .i64 mode)∧w'.cell? ⟨w.heap.size,5,none⟩=some (.int .i64 fl)∧w'.cell? ⟨w.heap.size,6,none⟩=some (.int .i64 si)∧w'.cell? ⟨mb,off+i * 4+1,none⟩=some (.int .i64 m.flags)∧w'.cell? ⟨mb,off+i * 4+2,none⟩=some (.int .i64 m.seq)):=by
  intro W w' hb hc hw
  have h:=fun j=>hb.cell (p:=⟨g,j,none⟩) bM
  have h':=fun j=>hw.cell (p:=⟨g,j,none⟩) (Nat.lt_of_lt_of_le bM hb.size)
  have hm0:=fun j=>hb.cell (p:=⟨mb,j,none⟩) hlm
  have hm':=fun j=>hw.cell (p:=⟨mb,j,none⟩) (Nat.lt_of_lt_of_le hlm hb.size)
  have hk:=ay hw hc
  have hq:=fun j=>cell_of_row w' w.heap.size j _ _ (0,0) hk
  exact ⟨(h' _).trans ((h _).trans c0),(h' _).trans ((h _).trans c1),(h' _).trans ((h _).trans c2),(h' _).trans ((h _).trans c3),(h' _).trans ((h _).trans c4),(h' _).trans ((h _).trans c5),(h' _).trans ((h _).trans c6),hq 3,hq 4,hq 5,hq 6,(hm' _).trans ((hm0 _).trans f1),(hm' _).trans ((hm0 _).trans f2)⟩
 clear h0 h1 h2 hp c0 c1 c2 c3 c4 c5 c6 hint f0 f1 f2 f3
 go_enter Tryz.func58,Tryz.ntmps58
 go_wp2
 generalize ((w.alloc (.cells #[.int .i64 k,.slice x0 n0 m0,.slice x1 n1 m1,.int .i64 uid,.int .i64 mode,.int .i64 fl,.int .i64 si,.slice x2 n2 m2] 44)).alloc (.cells #[.int .i64 0,.int .i64 0,.slice none 0 0,.int .i64 0,.int .i64 0,.int .i64 0,.slice none 0 0,.slice none 0 0,.int .i64 0,.slice none 0 0] 40))=W at HB bC aO jm ⊢
 have HS:Hid (∀ w',Below W.heap.size W w'→w'.cell? ⟨g,o,none⟩=some (.slice a0 q0 z0)∧w'.cell? ⟨g,o+1,none⟩=some (.int .i64 b.valid)∧w'.cell? ⟨g,o+2,none⟩=some (.int .i64 b.next)∧w'.cell? ⟨g,o+3,none⟩=some (.int .i64 b.seq)∧w'.cell? ⟨g,o+4,none⟩=some (.slice (some ⟨mb,off,none⟩) b.ah.length z1)∧w'.cell? ⟨g,o+5,none⟩=some (.slice a2 b.au.length z2)∧w'.cell? ⟨g,o+6,none⟩=some (.int .i64 b.lost)∧w'.cell? ⟨w.heap.size,3,none⟩=some (.int .i64 uid)∧w'.cell? ⟨w.heap.size,4,none⟩=some (.int .i64 mode)∧w'.cell? ⟨w.heap.size,5,none⟩=some (.int .i64 fl)∧w'.cell? ⟨w.heap.size,6,none⟩=some (.int .i64 si)∧w'.cell? ⟨mb,off+i * 4+1,none⟩=some (.int .i64 m.flags)∧w'.cell? ⟨mb,off+i * 4+2,none⟩=some (.int .i64 m.seq)):=fun w' h=>HC.out W w' HB.out bC.out h
 have DR:Below W.heap.size W W.drew:=bd _ _
 have hl1:w.heap.size < W.drew.heap.size:=by show _ < W.heap.size;omega
 have hl2:g < W.drew.heap.size:=by show _ < W.heap.size;omega
 have dR:Hid _:=HV.out W.drew (Below.step HB.out DR)
 go_region_held3 (fun w'=>w'.cell? ⟨g,o,none⟩=some (.slice a0 q0 z0)∧w'.cell? ⟨g,o+1,none⟩=some (.int .i64 b.valid)∧w'.cell? ⟨g,o+2,none⟩=some (.int .i64 b.next)∧w'.cell? ⟨g,o+3,none⟩=some (.int .i64 b.seq)∧w'.cell? ⟨g,o+4,none⟩=some (.slice (some ⟨mb,off,none⟩) b.ah.length z1)∧w'.cell? ⟨g,o+5,none⟩=some (.slice a2 b.au.length z2)∧w'.cell? ⟨g,o+6,none⟩=some (.int .i64 b.lost)∧w'.cell? ⟨w.heap.size,3,none⟩=some (.int .i64 uid)∧w'.cell? ⟨w.heap.size,4,none⟩=some (.int .i64 mode)∧w'.cell? ⟨w.heap.size,5,none⟩=some (.int .i64 fl)∧w'.cell? ⟨w.heap.size,6,none⟩=some (.int .i64 si)∧w'.cell? ⟨mb,off+i * 4+1,none⟩=some (.int .i64 m.flags)∧w'.cell? ⟨mb,off+i * 4+2,none⟩=some (.int .i64 m.seq))
  (first | exact HS.out _ DR | exact HS.out _ (Below.step DR B1) | go_keep)
  ((go_at_call 62;refine (sI _ b uid _ dR.out).mono ?_;rintro e w1 ⟨rfl,B1⟩))
 have HB1:Hid (Below W.heap.size W w1):=Below.step DR B1
 have bW:Hid _:=ay HB1.out aO.out
 have hw1:W.heap.size≤w1.heap.size:=HB1.out.size
 clear B1 dR
 obtain ⟨e0,e1,e2,e3,e4,e5,e6,e7,e8,e9,e10,e11,e12⟩:=HS.out _ HB1.out
 have sP:g < w1.heap.size:=by omega
 have Qy:mb < w1.heap.size:=by omega
 have wK:w.heap.size < w1.heap.size:=by omega
 have J6:(i:Int) < b.ah.length:=by omega
 have hs3:(0 < si∧¬ (si < m.seq))∨(si≤0∧decide (0 < si)=false):=by
  by_cases hs0:0 < si
  ·exact .inl ⟨hs0,fun h=>hs ⟨hs0,h⟩⟩
  ·exact .inr ⟨by omega,decide_eq_false hs0⟩
 rcases hs3 with ⟨hs0,hs1⟩ | ⟨hs1,hs2⟩
 all_goals
  go_wp2
  go_quiet (fail)
  go_wp2
  have HB2:Hid (Below W.heap.size W (w1.drewN nq)):=below_drewN nq HB1.out
  have hw2:(w1.drewN nq).heap.size=w1.heap.size:=rfl
  clear e0 e1 e2 e3 e4 e5 e6 e7 e8 e9 e10 e11 e12
  generalize w1.drewN nq=w2 at HB2 hw2 ⊢
  have oZ:Below W.heap.size W w2.drew:=Below.step HB2.out (bd _ _)
  have hg2:g < w2.drew.heap.size:=by show _ < w2.heap.size;omega
  have hm2:mb < w2.drew.heap.size:=by show _ < w2.heap.size;omega
  have hc2:w.heap.size < w2.drew.heap.size:=by show _ < w2.heap.size;omega
  go_region_held3 (fun w'=>w'.cell? ⟨g,o,none⟩=some (.slice a0 q0 z0)∧w'.cell? ⟨g,o+1,none⟩=some (.int .i64 b.valid)∧w'.cell? ⟨g,o+2,none⟩=some (.int .i64 b.next)∧w'.cell? ⟨g,o+3,none⟩=some (.int .i64 b.seq)∧w'.cell? ⟨g,o+4,none⟩=some (.slice (some ⟨mb,off,none⟩) b.ah.length z1)∧w'.cell? ⟨g,o+5,none⟩=some (.slice a2 b.au.length z2)∧w'.cell? ⟨g,o+6,none⟩=some (.int .i64 b.lost)∧w'.cell? ⟨w.heap.size,3,none⟩=some (.int .i64 uid)∧w'.cell? ⟨w.heap.size,4,none⟩=some (.int .i64 mode)∧w'.cell? ⟨w.heap.size,5,none⟩=some (.int .i64 fl)∧w'.cell? ⟨w.heap.size,6,none⟩=some (.int .i64 si)∧w'.cell? ⟨mb,off+i * 4+1,none⟩=some (.int .i64 m.flags)∧w'.cell? ⟨mb,off+i * 4+2,none⟩=some (.int .i64 m.seq))
   (first | exact HS.out _ oZ | go_keep)
   ((go_at_call 97;refine (Qg m.flags mode fl _).mono ?_;rintro e w3 ⟨rfl,rfl⟩))
  have hw4:w2.drew.heap.size=w1.heap.size:=hw2
  clear hg2 hm2 hc2
  generalize w2.drew=w4 at oZ hw4 ⊢
  have hg2:g < w4.heap.size:=by omega
  have hm2:mb < w4.heap.size:=by omega
  have hc2:w.heap.size < w4.heap.size:=by omega
  have bV:Hid _:=ay oZ aO.out
  obtain ⟨e0,e1,e2,e3,e4,e5,e6,e7,e8,e9,e10,e11,e12⟩:=HS.out _ oZ
  obtain ⟨r0,r1,r2,r3,r4,r5,r6,r7,r8,r9⟩:=aM bV.out
  have fz:∀ i,w4.frozen? ⟨w.heap.size+1,i,none⟩=false:=fun i=>frozen_of_row _ _ i _ _ bV.out
  have hlr:w.heap.size+1 < w4.heap.size:=by omega
  have HF:Hid _:=oW (w:=w) bV.out (by omega) (Below.step HB.out oZ) c n
  clear HS bC HC HV aO oZ HB2
  rcases HZ.out with ⟨hfl,rfl,rfl⟩ | ⟨hfl,hfull,rfl,rfl⟩
  all_goals
   go_wp2
   obtain ⟨f0,f1,f2,f3,f4,f5,f6,f7,f8,f9⟩:=aM HF.out.1
   exact bodyPost_ret (v:=.agg #[_,_,_,_,_,_,_,_,_,_]) (by simp [results,Tryz.results58,go_sem,f0,f1,f2,f3,f4,f5,f6,f7,f8,f9]) rfl ⟨_,rfl,HR.out _,oU HF.out.2,HP.out _ HF.out.2⟩
end Go.Proofs.YtlneebmlhblleaaGreat
