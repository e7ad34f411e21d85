/- The proof's texts, part 25. -/
import Derived.Test.YtfabngnaejjcmaaGreatDoorTo
namespace Go.Proofs.YtfabngnaejjcmaaGreatDoor
open Go.RowKit
set_option linter.unusedVariables false
set_option linter.unusedSimpArgs false
set_option maxHeartbeats 4000000
set_option maxRecDepth 100000
/- What U5 of package spec does. -/
/-- Two variables are laid. -/
theorem vC (w:World) (o0 o1:Obj):Hid (Below w.heap.size w ((w.alloc o0).alloc o1))/\Hid (((w.alloc o0).alloc o1).heap[w.heap.size]?=some o0)/\Hid (((w.alloc o0).alloc o1).heap[w.heap.size+1]?=some o1)/\((w.alloc o0).alloc o1).heap.size=w.heap.size+2 :=
 let ⟨h0,h1,h⟩:=mE w o0 o1
 ⟨h,h0,h1,by simp⟩
/-- A reply that has no names at all. -/
def jr (w:World) (v:Value) (x:iw):Prop:=∃u0 u1 u2 u3,v=.agg #[.int .i64 x.code,.int .i64 x.num,u0,.int .i64 x.box.valid,.int .i64 x.box.next,.int .i64 x.box.seq,u1,u2,.int .i64 x.box.lost,u3]/\bT w (.agg #[u0,.int .i64 x.box.valid,.int .i64 x.box.next,.int .i64 x.box.seq,u1,u2,.int .i64 x.box.lost]) x.box/\(u3=.slice none 0 0/\x.names=[])/\av x.code/\av x.num
theorem jr.v {w:World} {v:Value} {x:iw} (h:jr w v x):rU w v x:=let ⟨u0,u1,u2,u3,h0,h1,h2,i⟩:=h;⟨u0,u1,u2,u3,h0,h1,by rw[h2.1,h2.2];exact Rd.nil _,i⟩
theorem pR {w w1:World} {r:Nat} {d0 d1 d2 d3 d4 d5 d6 d7 d8 d9:Value} (hk:w1.heap[r]?=some (.cells #[d0,d1,d2,d3,d4,d5,d6,d7,d8,d9] 73 (0,0))) (hr:w.heap.size<=r) (hb:Below w.heap.size w w1) (c n:Int) :
  ((((((((((w1.setCell ⟨r,0,none⟩ (.int .i64 c)).setCell ⟨r,1,none⟩ (.int .i64 n)).setCell ⟨r,2,none⟩ (.slice none 0 0)).setCell ⟨r,3,none⟩ (.int .i64 0)).setCell ⟨r,4,none⟩ (.int .i64 0)).setCell ⟨r,5,none⟩ (.int .i64 0)).setCell ⟨r,6,none⟩ (.slice none 0 0)).setCell ⟨r,7,none⟩ (.slice none 0 0)).setCell ⟨r,8,none⟩ (.int .i64 0)).setCell ⟨r,9,none⟩ (.slice none 0 0)).heap[r]?=some (.cells #[(.int .i64 c),(.int .i64 n),(.slice none 0 0),(.int .i64 0),(.int .i64 0),(.int .i64 0),(.slice none 0 0),(.slice none 0 0),(.int .i64 0),(.slice none 0 0)] 73 (0,0))/\Below w.heap.size w ((((((((((w1.setCell ⟨r,0,none⟩ (.int .i64 c)).setCell ⟨r,1,none⟩ (.int .i64 n)).setCell ⟨r,2,none⟩ (.slice none 0 0)).setCell ⟨r,3,none⟩ (.int .i64 0)).setCell ⟨r,4,none⟩ (.int .i64 0)).setCell ⟨r,5,none⟩ (.int .i64 0)).setCell ⟨r,6,none⟩ (.slice none 0 0)).setCell ⟨r,7,none⟩ (.slice none 0 0)).setCell ⟨r,8,none⟩ (.int .i64 0)).setCell ⟨r,9,none⟩ (.slice none 0 0)):=by
 replace hk:(World.setCell _ _ _).heap[r]?=some (Obj.cells #[(.int .i64 c),d1,d2,d3,d4,d5,d6,d7,d8,d9] 73 (0,0)):=aD (i:=0) (v:=(.int .i64 c)) hk;replace hk:(World.setCell _ _ _).heap[r]?=some (Obj.cells #[(.int .i64 c),(.int .i64 n),d2,d3,d4,d5,d6,d7,d8,d9] 73 (0,0)):=aD (i:=1) (v:=(.int .i64 n)) hk;replace hk:(World.setCell _ _ _).heap[r]?=some (Obj.cells #[(.int .i64 c),(.int .i64 n),(.slice none 0 0),d3,d4,d5,d6,d7,d8,d9] 73 (0,0)):=aD (i:=2) (v:=(.slice none 0 0)) hk
 replace hk:(World.setCell _ _ _).heap[r]?=some (Obj.cells #[(.int .i64 c),(.int .i64 n),(.slice none 0 0),(.int .i64 0),d4,d5,d6,d7,d8,d9] 73 (0,0)):=aD (i:=3) (v:=(.int .i64 0)) hk;replace hk:(World.setCell _ _ _).heap[r]?=some (Obj.cells #[(.int .i64 c),(.int .i64 n),(.slice none 0 0),(.int .i64 0),(.int .i64 0),d5,d6,d7,d8,d9] 73 (0,0)):=aD (i:=4) (v:=(.int .i64 0)) hk;replace hk:(World.setCell _ _ _).heap[r]?=some (Obj.cells #[(.int .i64 c),(.int .i64 n),(.slice none 0 0),(.int .i64 0),(.int .i64 0),(.int .i64 0),d6,d7,d8,d9] 73 (0,0)):=aD (i:=5) (v:=(.int .i64 0)) hk
 replace hk:(World.setCell _ _ _).heap[r]?=some (Obj.cells #[(.int .i64 c),(.int .i64 n),(.slice none 0 0),(.int .i64 0),(.int .i64 0),(.int .i64 0),(.slice none 0 0),d7,d8,d9] 73 (0,0)):=aD (i:=6) (v:=(.slice none 0 0)) hk;replace hk:(World.setCell _ _ _).heap[r]?=some (Obj.cells #[(.int .i64 c),(.int .i64 n),(.slice none 0 0),(.int .i64 0),(.int .i64 0),(.int .i64 0),(.slice none 0 0),(.slice none 0 0),d8,d9] 73 (0,0)):=aD (i:=7) (v:=(.slice none 0 0)) hk
 replace hk:(World.setCell _ _ _).heap[r]?=some (Obj.cells #[(.int .i64 c),(.int .i64 n),(.slice none 0 0),(.int .i64 0),(.int .i64 0),(.int .i64 0),(.slice none 0 0),(.slice none 0 0),(.int .i64 0),d9] 73 (0,0)):=aD (i:=8) (v:=(.int .i64 0)) hk;replace hk:(World.setCell _ _ _).heap[r]?=some (Obj.cells #[(.int .i64 c),(.int .i64 n),(.slice none 0 0),(.int .i64 0),(.int .i64 0),(.int .i64 0),(.slice none 0 0),(.slice none 0 0),(.int .i64 0),(.slice none 0 0)] 73 (0,0)):=aD (i:=9) (v:=(.slice none 0 0)) hk
 exact⟨hk,((((((((((hb.setCell hr _).setCell hr _).setCell hr _).setCell hr _).setCell hr _).setCell hr _).setCell hr _).setCell hr _).setCell hr _).setCell hr _)⟩
theorem adh (g o:Nat) (b:aB) (S:Nat->Prop) (k uid mode fl si:Int) (x0 x1 x2:Option Addr) (n0 n1 n2 m0 m1 m2:Nat) (w:World) (hp:aG w S g o b) (hsx:bG b<=2000000) (hno:bD (λm:aL=>decide (m.uid=uid)) b.ah = -1) :
  Calls Tryz.prog 69 #[.pointer (some ⟨g,o,none⟩),.agg #[.int .i64 k,.slice x0 n0 m0,.slice x1 n1 m1,.int .i64 uid,.int .i64 mode,.int .i64 fl,.int .i64 si,.slice x2 n2 m2]] w λe w'=>∃u,e=.returned u/\jr w' u (bJ 1 0)/\Turns w w' S g o/\aG w' S g o b:=by
 have HP:Hid (∀w',Below w.heap.size w w'->aG w' S g o b):=λw' h=>hp.below h;have bX:g < w.heap.size:=kK hp.ty;obtain⟨u0,u1,u2,h0,h1,h2,hint,c0,c1,c2,c3,c4,c5,c6⟩:=hp.cells;have HV:Hid (∀w',Below w.heap.size w w'->bT w' (.agg #[u0,.int .i64 b.valid,.int .i64 b.next,.int .i64 b.seq,u1,u2,.int .i64 b.lost]) b):=λw' h=>⟨u0,u1,u2,rfl,h0.bs.below h,h1.v.below kP h,h2.1.below kN h,hint⟩;obtain⟨a0,q0,z0,rfl⟩:=h0.bs.aP;obtain⟨a1,z1,rfl,-⟩:=h1.v.form;obtain⟨a2,z2,rfl,-⟩:=h2.1.form
 obtain⟨HB,dL,aR,kL⟩:=vC w (.cells #[.int .i64 k,.slice x0 n0 m0,.slice x1 n1 m1,.int .i64 uid,.int .i64 mode,.int .i64 fl,.int .i64 si,.slice x2 n2 m2] 35) (.cells #[.int .i64 0,.int .i64 0,.slice none 0 0,.int .i64 0,.int .i64 0,.int .i64 0,.slice none 0 0,.slice none 0 0,.int .i64 0,.slice none 0 0] 73)
 have HC:Hid (∀W w',Below w.heap.size w W->W.heap[w.heap.size]?=some (.cells #[.int .i64 k,.slice x0 n0 m0,.slice x1 n1 m1,.int .i64 uid,.int .i64 mode,.int .i64 fl,.int .i64 si,.slice x2 n2 m2] 35 (0,0))->Below W.heap.size W w'->w'.cell? ⟨g,o,none⟩=some (.slice a0 q0 z0)/\w'.cell? ⟨g,o+1,none⟩=some (.int .i64 b.valid)/\w'.cell? ⟨g,o+2,none⟩=some (.int .i64 b.next)/\w'.cell? ⟨g,o+3,none⟩=some (.int .i64 b.seq)/\w'.cell? ⟨g,o+4,none⟩=some (.slice a1 b.ah.length z1)/\w'.cell? ⟨g,o+5,none⟩=some (.slice a2 b.au.length z2)/\w'.cell? ⟨g,o+6,none⟩=some (.int .i64 b.lost)/\w'.cell? ⟨w.heap.size,3,none⟩=some (.int .i64 uid)/\w'.cell? ⟨w.heap.size,4,none⟩=some (.int .i64 mode)/\w'.cell? ⟨w.heap.size,5,none⟩=some (.int .i64 fl)/\w'.cell? ⟨w.heap.size,6,none⟩=some (.int .i64 si)):=by
  intro W w' hb hc hw;have h:=λj=>hb.cell (p:=⟨g,j,none⟩) bX;have h':=λj=>hw.cell (p:=⟨g,j,none⟩) (Nat.lt_of_lt_of_le bX hb.size);have hk:=aA hw hc;have hq:=λj=>cell_of_row w' w.heap.size j _ _ (0,0) hk;exact⟨(h' _).trans ((h _).trans c0),(h' _).trans ((h _).trans c1),(h' _).trans ((h _).trans c2),(h' _).trans ((h _).trans c3),(h' _).trans ((h _).trans c4),(h' _).trans ((h _).trans c5),(h' _).trans ((h _).trans c6),hq 3,hq 4,hq 5,hq 6⟩
 clear h0 h1 h2 hp c0 c1 c2 c3 c4 c5 c6 hint
 go_enter Tryz.func69,Tryz.ntmps69;go_wp2;generalize ((w.alloc (.cells #[.int .i64 k,.slice x0 n0 m0,.slice x1 n1 m1,.int .i64 uid,.int .i64 mode,.int .i64 fl,.int .i64 si,.slice x2 n2 m2] 35)).alloc (.cells #[.int .i64 0,.int .i64 0,.slice none 0 0,.int .i64 0,.int .i64 0,.int .i64 0,.slice none 0 0,.slice none 0 0,.int .i64 0,.slice none 0 0] 73))=W at HB dL aR kL ⊢
 have HS:Hid (∀w',Below W.heap.size W w'->w'.cell? ⟨g,o,none⟩=some (.slice a0 q0 z0)/\w'.cell? ⟨g,o+1,none⟩=some (.int .i64 b.valid)/\w'.cell? ⟨g,o+2,none⟩=some (.int .i64 b.next)/\w'.cell? ⟨g,o+3,none⟩=some (.int .i64 b.seq)/\w'.cell? ⟨g,o+4,none⟩=some (.slice a1 b.ah.length z1)/\w'.cell? ⟨g,o+5,none⟩=some (.slice a2 b.au.length z2)/\w'.cell? ⟨g,o+6,none⟩=some (.int .i64 b.lost)/\w'.cell? ⟨w.heap.size,3,none⟩=some (.int .i64 uid)/\w'.cell? ⟨w.heap.size,4,none⟩=some (.int .i64 mode)/\w'.cell? ⟨w.heap.size,5,none⟩=some (.int .i64 fl)/\w'.cell? ⟨w.heap.size,6,none⟩=some (.int .i64 si)):=λw' h=>HC.out W w' HB.out dL.out h
 have DR:Below W.heap.size W W.drew:=(bd _ _);have hl1:w.heap.size < W.drew.heap.size:=by show _ < W.heap.size;omega
 have hl2:g < W.drew.heap.size:=by show _ < W.heap.size;omega
 have dV:Hid _:=HV.out W.drew (Below.step HB.out DR)
 go_region_held3 (λw'=>w'.cell? ⟨g,o,none⟩=some (.slice a0 q0 z0)/\w'.cell? ⟨g,o+1,none⟩=some (.int .i64 b.valid)/\w'.cell? ⟨g,o+2,none⟩=some (.int .i64 b.next)/\w'.cell? ⟨g,o+3,none⟩=some (.int .i64 b.seq)/\w'.cell? ⟨g,o+4,none⟩=some (.slice a1 b.ah.length z1)/\w'.cell? ⟨g,o+5,none⟩=some (.slice a2 b.au.length z2)/\w'.cell? ⟨g,o+6,none⟩=some (.int .i64 b.lost)/\w'.cell? ⟨w.heap.size,3,none⟩=some (.int .i64 uid)/\w'.cell? ⟨w.heap.size,4,none⟩=some (.int .i64 mode)/\w'.cell? ⟨w.heap.size,5,none⟩=some (.int .i64 fl)/\w'.cell? ⟨w.heap.size,6,none⟩=some (.int .i64 si))
  (first | exact HS.out _ DR | exact HS.out _ (Below.step DR B1) | go_keep)
  ((go_at_call 73;refine(uh _ b uid _ dV.out).mono ?_;rintro e w1 ⟨rfl,B1⟩))
 have HB1:Hid (Below W.heap.size W w1):=Below.step DR B1;have bN:Hid _:=aA HB1.out aR.out;have hw1:W.heap.size<=w1.heap.size:=HB1.out.size;clear B1 dV;obtain⟨r0,r1,r2,r3,r4,r5,r6,r7,r8,r9⟩:=bf bN.out;have fz:∀i,w1.frozen? ⟨w.heap.size+1,i,none⟩=false:=λi=>frozen_of_row w1 _ i _ _ bN.out;have hlr:w.heap.size+1 < w1.heap.size:=by omega
 clear HS dL HC HV aR;have HF:Hid _:=pR (w:=w) bN.out (by omega) (Below.step HB.out HB1.out) 1 0;go_wp2;have ff:=bf HF.out.1;refine bodyPost_ret (v:=.agg #[(.int .i64 1),(.int .i64 0),(.slice none 0 0),(.int .i64 0),(.int .i64 0),(.int .i64 0),(.slice none 0 0),(.slice none 0 0),(.int .i64 0),(.slice none 0 0)]) (by simp[results,Tryz.results69,go_sem,ff]) rfl ⟨_,rfl,?_,oH HF.out.2,HP.out _ HF.out.2⟩;exact⟨_,_,_,_,rfl,⟨_,_,_,rfl,nP _,Rd.nil _,Rd.nil _,aK,aK,aK,aK⟩,⟨rfl,rfl⟩,⟨by decide,by decide⟩,aK⟩
theorem adi (g o:Nat) (b:aB) (S:Nat->Prop) (k uid mode fl si:Int) (x0 x1 x2:Option Addr) (n0 n1 n2 m0 m1 m2:Nat) (w:World) (hp:aG w S g o b) (hsx:bG b<=2000000) (i:Nat) (m:aL) (hm:b.ah[i]?=some m) (hfi:bD (λm:aL=>decide (m.uid=uid)) b.ah=(i:Int)) (hs0:0 < si) (hs1:si < m.seq) :
  Calls Tryz.prog 69 #[.pointer (some ⟨g,o,none⟩),.agg #[.int .i64 k,.slice x0 n0 m0,.slice x1 n1 m1,.int .i64 uid,.int .i64 mode,.int .i64 fl,.int .i64 si,.slice x2 n2 m2]] w λe w'=>∃u,e=.returned u/\jr w' u (bJ 4 m.seq)/\Turns w w' S g o/\aG w' S g o b:=by
 have HP:Hid (∀w',Below w.heap.size w w'->aG w' S g o b):=λw' h=>hp.below h;have bX:g < w.heap.size:=kK hp.ty;obtain⟨u0,u1,u2,h0,h1,h2,hint,c0,c1,c2,c3,c4,c5,c6⟩:=hp.cells;have HV:Hid (∀w',Below w.heap.size w w'->bT w' (.agg #[u0,.int .i64 b.valid,.int .i64 b.next,.int .i64 b.seq,u1,u2,.int .i64 b.lost]) b):=λw' h=>⟨u0,u1,u2,rfl,h0.bs.below h,h1.v.below kP h,h2.1.below kN h,hint⟩;obtain⟨a0,q0,z0,rfl⟩:=h0.bs.aP;obtain⟨a1,z1,rfl,-⟩:=h1.v.form;obtain⟨mb,off,zc,mu,hv',hlm,f0,f1,f2,f3,-,vD,xw,tJ⟩:=h1.v.cell i m hm;simp only[Value.slice.injEq,true_and] at hv';obtain⟨rfl,rfl⟩:=hv'
 have hil:i < b.ah.length:=(gs1 hm).1;have hml:b.ah.length<=2000000:=by have:=mG b.ah;unfold bG at hsx;omega
 obtain⟨a2,z2,rfl,-⟩:=h2.1.form;obtain⟨HB,dL,aR,kL⟩:=vC w (.cells #[.int .i64 k,.slice x0 n0 m0,.slice x1 n1 m1,.int .i64 uid,.int .i64 mode,.int .i64 fl,.int .i64 si,.slice x2 n2 m2] 35) (.cells #[.int .i64 0,.int .i64 0,.slice none 0 0,.int .i64 0,.int .i64 0,.int .i64 0,.slice none 0 0,.slice none 0 0,.int .i64 0,.slice none 0 0] 73)
 have HC:Hid (∀W w',Below w.heap.size w W->W.heap[w.heap.size]?=some (.cells #[.int .i64 k,.slice x0 n0 m0,.slice x1 n1 m1,.int .i64 uid,.int .i64 mode,.int .i64 fl,.int .i64 si,.slice x2 n2 m2] 35 (0,0))->Below W.heap.size W w'->w'.cell? ⟨g,o,none⟩=some (.slice a0 q0 z0)/\w'.cell? ⟨g,o+1,none⟩=some (.int .i64 b.valid)/\w'.cell? ⟨g,o+2,none⟩=some (.int .i64 b.next)/\w'.cell? ⟨g,o+3,none⟩=some (.int .i64 b.seq)/\w'.cell? ⟨g,o+4,none⟩=some (.slice (some ⟨mb,off,none⟩) b.ah.length z1)/\w'.cell? ⟨g,o+5,none⟩=some (.slice a2 b.au.length z2)/\w'.cell? ⟨g,o+6,none⟩=some (.int .i64 b.lost)/\w'.cell? ⟨w.heap.size,3,none⟩=some (.int .i64 uid)/\w'.cell? ⟨w.heap.size,4,none⟩=some (.int .i64 mode)/\w'.cell? ⟨w.heap.size,5,none⟩=some (.int .i64 fl)/\w'.cell? ⟨w.heap.size,6,none⟩=some (.int .i64 si)/\w'.cell? ⟨mb,off+i * 4+1,none⟩=some (.int .i64 m.flags)/\w'.cell? ⟨mb,off+i * 4+2,none⟩=some (.int .i64 m.seq)):=by
  intro W w' hb hc hw;have h:=λj=>hb.cell (p:=⟨g,j,none⟩) bX;have h':=λj=>hw.cell (p:=⟨g,j,none⟩) (Nat.lt_of_lt_of_le bX hb.size);have hm0:=λj=>hb.cell (p:=⟨mb,j,none⟩) hlm;have hm':=λj=>hw.cell (p:=⟨mb,j,none⟩) (Nat.lt_of_lt_of_le hlm hb.size);have hk:=aA hw hc;have hq:=λj=>cell_of_row w' w.heap.size j _ _ (0,0) hk
  exact⟨(h' _).trans ((h _).trans c0),(h' _).trans ((h _).trans c1),(h' _).trans ((h _).trans c2),(h' _).trans ((h _).trans c3),(h' _).trans ((h _).trans c4),(h' _).trans ((h _).trans c5),(h' _).trans ((h _).trans c6),hq 3,hq 4,hq 5,hq 6,(hm' _).trans ((hm0 _).trans f1),(hm' _).trans ((hm0 _).trans f2)⟩
 clear h0 h1 h2 hp c0 c1 c2 c3 c4 c5 c6 hint f0 f1 f2 f3
 go_enter Tryz.func69,Tryz.ntmps69;go_wp2;generalize ((w.alloc (.cells #[.int .i64 k,.slice x0 n0 m0,.slice x1 n1 m1,.int .i64 uid,.int .i64 mode,.int .i64 fl,.int .i64 si,.slice x2 n2 m2] 35)).alloc (.cells #[.int .i64 0,.int .i64 0,.slice none 0 0,.int .i64 0,.int .i64 0,.int .i64 0,.slice none 0 0,.slice none 0 0,.int .i64 0,.slice none 0 0] 73))=W at HB dL aR kL ⊢
 have HS:Hid (∀w',Below W.heap.size W w'->w'.cell? ⟨g,o,none⟩=some (.slice a0 q0 z0)/\w'.cell? ⟨g,o+1,none⟩=some (.int .i64 b.valid)/\w'.cell? ⟨g,o+2,none⟩=some (.int .i64 b.next)/\w'.cell? ⟨g,o+3,none⟩=some (.int .i64 b.seq)/\w'.cell? ⟨g,o+4,none⟩=some (.slice (some ⟨mb,off,none⟩) b.ah.length z1)/\w'.cell? ⟨g,o+5,none⟩=some (.slice a2 b.au.length z2)/\w'.cell? ⟨g,o+6,none⟩=some (.int .i64 b.lost)/\w'.cell? ⟨w.heap.size,3,none⟩=some (.int .i64 uid)/\w'.cell? ⟨w.heap.size,4,none⟩=some (.int .i64 mode)/\w'.cell? ⟨w.heap.size,5,none⟩=some (.int .i64 fl)/\w'.cell? ⟨w.heap.size,6,none⟩=some (.int .i64 si)/\w'.cell? ⟨mb,off+i * 4+1,none⟩=some (.int .i64 m.flags)/\w'.cell? ⟨mb,off+i * 4+2,none⟩=some (.int .i64 m.seq)):=λw' h=>HC.out W w' HB.out dL.out h
 have DR:Below W.heap.size W W.drew:=(bd _ _);have hl1:w.heap.size < W.drew.heap.size:=by show _ < W.heap.size;omega
 have hl2:g < W.drew.heap.size:=by show _ < W.heap.size;omega
 have dV:Hid _:=HV.out W.drew (Below.step HB.out DR)
 go_region_held3 (λw'=>w'.cell? ⟨g,o,none⟩=some (.slice a0 q0 z0)/\w'.cell? ⟨g,o+1,none⟩=some (.int .i64 b.valid)/\w'.cell? ⟨g,o+2,none⟩=some (.int .i64 b.next)/\w'.cell? ⟨g,o+3,none⟩=some (.int .i64 b.seq)/\w'.cell? ⟨g,o+4,none⟩=some (.slice (some ⟨mb,off,none⟩) b.ah.length z1)/\w'.cell? ⟨g,o+5,none⟩=some (.slice a2 b.au.length z2)/\w'.cell? ⟨g,o+6,none⟩=some (.int .i64 b.lost)/\w'.cell? ⟨w.heap.size,3,none⟩=some (.int .i64 uid)/\w'.cell? ⟨w.heap.size,4,none⟩=some (.int .i64 mode)/\w'.cell? ⟨w.heap.size,5,none⟩=some (.int .i64 fl)/\w'.cell? ⟨w.heap.size,6,none⟩=some (.int .i64 si)/\w'.cell? ⟨mb,off+i * 4+1,none⟩=some (.int .i64 m.flags)/\w'.cell? ⟨mb,off+i * 4+2,none⟩=some (.int .i64 m.seq))
  (first | exact HS.out _ DR | exact HS.out _ (Below.step DR B1) | go_keep)
  ((go_at_call 73;refine(uh _ b uid _ dV.out).mono ?_;rintro e w1 ⟨rfl,B1⟩))
 have HB1:Hid (Below W.heap.size W w1):=Below.step DR B1;have bN:Hid _:=aA HB1.out aR.out;have hw1:W.heap.size<=w1.heap.size:=HB1.out.size;clear B1 dV;obtain⟨e0,e1,e2,e3,e4,e5,e6,e7,e8,e9,e10,e11,e12⟩:=HS.out _ HB1.out;have tK:g < w1.heap.size:=by omega
 have U6:mb < w1.heap.size:=by omega
 have xA:w.heap.size < w1.heap.size:=by omega
 have M7:(i:Int) < b.ah.length:=by omega
 obtain⟨r0,r1,r2,r3,r4,r5,r6,r7,r8,r9⟩:=bf bN.out;have fz:∀i,w1.frozen? ⟨w.heap.size+1,i,none⟩=false:=λi=>frozen_of_row w1 _ i _ _ bN.out;have hlr:w.heap.size+1 < w1.heap.size:=by omega
 clear HS dL HC HV aR;have HF:∀nq,Hid _:=λnq=>pR (w:=w) (w1:=w1.drewN nq) bN.out (by omega) (below_drewN nq (Below.step HB.out HB1.out)) 4 m.seq;go_wp2
 go_quiet (fail)
 go_wp2;obtain⟨f0,f1,f2,f3,f4,f5,f6,f7,f8,f9⟩:=bf (HF nq).out.1;refine bodyPost_ret (v:=.agg #[(.int .i64 4),(.int .i64 m.seq),(.slice none 0 0),(.int .i64 0),(.int .i64 0),(.int .i64 0),(.slice none 0 0),(.slice none 0 0),(.int .i64 0),(.slice none 0 0)]) (by simp[results,Tryz.results69,go_sem,f0,f1,f2,f3,f4,f5,f6,f7,f8,f9]) rfl ⟨_,rfl,?_,oH (HF nq).out.2,HP.out _ (HF nq).out.2⟩;exact⟨_,_,_,_,rfl,⟨_,_,_,rfl,nP _,Rd.nil _,Rd.nil _,aK,aK,aK,aK⟩,⟨rfl,rfl⟩,Ux,tJ⟩
theorem U7 (g o:Nat) (b:aB) (S:Nat->Prop) (k uid mode fl si:Int) (x0 x1 x2:Option Addr) (n0 n1 n2 m0 m1 m2:Nat) (w:World) (hp:aG w S g o b) (hsx:bG b<=2000000) (i:Nat) (m:aL) (hm:b.ah[i]?=some m) (hfi:bD (λm:aL=>decide (m.uid=uid)) b.ah=(i:Int)) (hs:¬(0 < si/\si < m.seq)) (c n:Int) (hz:(jI m.flags mode fl=m.flags/\c=0/\n=m.seq)\/(jI m.flags mode fl≠m.flags/\1000000<=b.seq/\c=3/\n=0)) :
  Calls Tryz.prog 69 #[.pointer (some ⟨g,o,none⟩),.agg #[.int .i64 k,.slice x0 n0 m0,.slice x1 n1 m1,.int .i64 uid,.int .i64 mode,.int .i64 fl,.int .i64 si,.slice x2 n2 m2]] w λe w'=>∃u,e=.returned u/\jr w' u (bJ c n)/\Turns w w' S g o/\aG w' S g o b:=by
 have HP:Hid (∀w',Below w.heap.size w w'->aG w' S g o b):=λw' h=>hp.below h;have HZ:Hid _:=hz;clear hz;have bX:g < w.heap.size:=kK hp.ty;obtain⟨u0,u1,u2,h0,h1,h2,hint,c0,c1,c2,c3,c4,c5,c6⟩:=hp.cells;have HV:Hid (∀w',Below w.heap.size w w'->bT w' (.agg #[u0,.int .i64 b.valid,.int .i64 b.next,.int .i64 b.seq,u1,u2,.int .i64 b.lost]) b):=λw' h=>⟨u0,u1,u2,rfl,h0.bs.below h,h1.v.below kP h,h2.1.below kN h,hint⟩;obtain⟨a0,q0,z0,rfl⟩:=h0.bs.aP;obtain⟨a1,z1,rfl,-⟩:=h1.v.form;obtain⟨mb,off,zc,mu,hv',hlm,f0,f1,f2,f3,-,vD,xw,tJ⟩:=h1.v.cell i m hm;simp only[Value.slice.injEq,true_and] at hv'
 have HR:Hid (∀W',jr W' (.agg #[.int .i64 c,.int .i64 n,.slice none 0 0,.int .i64 0,.int .i64 0,.int .i64 0,.slice none 0 0,.slice none 0 0,.int .i64 0,.slice none 0 0]) (bJ c n)):=by
  intro W';have hcn:av c/\av n:=by
   rcases HZ.out with⟨-,rfl,rfl⟩ | ⟨-,-,rfl,rfl⟩
   ·exact⟨aK,tJ⟩
   ·exact⟨⟨by decide,by decide⟩,aK⟩
  exact⟨_,_,_,_,rfl,⟨_,_,_,rfl,nP _,Rd.nil _,Rd.nil _,aK,aK,aK,aK⟩,⟨rfl,rfl⟩,hcn.1,hcn.2⟩
 obtain⟨rfl,rfl⟩:=hv';have hil:i < b.ah.length:=(gs1 hm).1;have hml:b.ah.length<=2000000:=by have:=mG b.ah;unfold bG at hsx;omega
 obtain⟨a2,z2,rfl,-⟩:=h2.1.form;obtain⟨HB,dL,aR,kL⟩:=vC w (.cells #[.int .i64 k,.slice x0 n0 m0,.slice x1 n1 m1,.int .i64 uid,.int .i64 mode,.int .i64 fl,.int .i64 si,.slice x2 n2 m2] 35) (.cells #[.int .i64 0,.int .i64 0,.slice none 0 0,.int .i64 0,.int .i64 0,.int .i64 0,.slice none 0 0,.slice none 0 0,.int .i64 0,.slice none 0 0] 73)
 have HC:Hid (∀W w',Below w.heap.size w W->W.heap[w.heap.size]?=some (.cells #[.int .i64 k,.slice x0 n0 m0,.slice x1 n1 m1,.int .i64 uid,.int .i64 mode,.int .i64 fl,.int .i64 si,.slice x2 n2 m2] 35 (0,0))->Below W.heap.size W w'->w'.cell? ⟨g,o,none⟩=some (.slice a0 q0 z0)/\w'.cell? ⟨g,o+1,none⟩=some (.int .i64 b.valid)/\w'.cell? ⟨g,o+2,none⟩=some (.int .i64 b.next)/\w'.cell? ⟨g,o+3,none⟩=some (.int .i64 b.seq)/\w'.cell? ⟨g,o+4,none⟩=some (.slice (some ⟨mb,off,none⟩) b.ah.length z1)/\w'.cell? ⟨g,o+5,none⟩=some (.slice a2 b.au.length z2)/\w'.cell? ⟨g,o+6,none⟩=some (.int .i64 b.lost)/\w'.cell? ⟨w.heap.size,3,none⟩=some (.int .i64 uid)/\w'.cell? ⟨w.heap.size,4,none⟩=some (.int .i64 mode)/\w'.cell? ⟨w.heap.size,5,none⟩=some (.int .i64 fl)/\w'.cell? ⟨w.heap.size,6,none⟩=some (.int .i64 si)/\w'.cell? ⟨mb,off+i * 4+1,none⟩=some (.int .i64 m.flags)/\w'.cell? ⟨mb,off+i * 4+2,none⟩=some (.int .i64 m.seq)):=by
  intro W w' hb hc hw;have h:=λj=>hb.cell (p:=⟨g,j,none⟩) bX;have h':=λj=>hw.cell (p:=⟨g,j,none⟩) (Nat.lt_of_lt_of_le bX hb.size);have hm0:=λj=>hb.cell (p:=⟨mb,j,none⟩) hlm;have hm':=λj=>hw.cell (p:=⟨mb,j,none⟩) (Nat.lt_of_lt_of_le hlm hb.size);have hk:=aA hw hc;have hq:=λj=>cell_of_row w' w.heap.size j _ _ (0,0) hk
  exact⟨(h' _).trans ((h _).trans c0),(h' _).trans ((h _).trans c1),(h' _).trans ((h _).trans c2),(h' _).trans ((h _).trans c3),(h' _).trans ((h _).trans c4),(h' _).trans ((h _).trans c5),(h' _).trans ((h _).trans c6),hq 3,hq 4,hq 5,hq 6,(hm' _).trans ((hm0 _).trans f1),(hm' _).trans ((hm0 _).trans f2)⟩
 clear h0 h1 h2 hp c0 c1 c2 c3 c4 c5 c6 hint f0 f1 f2 f3
 go_enter Tryz.func69,Tryz.ntmps69;go_wp2;generalize ((w.alloc (.cells #[.int .i64 k,.slice x0 n0 m0,.slice x1 n1 m1,.int .i64 uid,.int .i64 mode,.int .i64 fl,.int .i64 si,.slice x2 n2 m2] 35)).alloc (.cells #[.int .i64 0,.int .i64 0,.slice none 0 0,.int .i64 0,.int .i64 0,.int .i64 0,.slice none 0 0,.slice none 0 0,.int .i64 0,.slice none 0 0] 73))=W at HB dL aR kL ⊢
 have HS:Hid (∀w',Below W.heap.size W w'->w'.cell? ⟨g,o,none⟩=some (.slice a0 q0 z0)/\w'.cell? ⟨g,o+1,none⟩=some (.int .i64 b.valid)/\w'.cell? ⟨g,o+2,none⟩=some (.int .i64 b.next)/\w'.cell? ⟨g,o+3,none⟩=some (.int .i64 b.seq)/\w'.cell? ⟨g,o+4,none⟩=some (.slice (some ⟨mb,off,none⟩) b.ah.length z1)/\w'.cell? ⟨g,o+5,none⟩=some (.slice a2 b.au.length z2)/\w'.cell? ⟨g,o+6,none⟩=some (.int .i64 b.lost)/\w'.cell? ⟨w.heap.size,3,none⟩=some (.int .i64 uid)/\w'.cell? ⟨w.heap.size,4,none⟩=some (.int .i64 mode)/\w'.cell? ⟨w.heap.size,5,none⟩=some (.int .i64 fl)/\w'.cell? ⟨w.heap.size,6,none⟩=some (.int .i64 si)/\w'.cell? ⟨mb,off+i * 4+1,none⟩=some (.int .i64 m.flags)/\w'.cell? ⟨mb,off+i * 4+2,none⟩=some (.int .i64 m.seq)):=λw' h=>HC.out W w' HB.out dL.out h
 have DR:Below W.heap.size W W.drew:=(bd _ _);have hl1:w.heap.size < W.drew.heap.size:=by show _ < W.heap.size;omega
 have hl2:g < W.drew.heap.size:=by show _ < W.heap.size;omega
 have dV:Hid _:=HV.out W.drew (Below.step HB.out DR)
 go_region_held3 (λw'=>w'.cell? ⟨g,o,none⟩=some (.slice a0 q0 z0)/\w'.cell? ⟨g,o+1,none⟩=some (.int .i64 b.valid)/\w'.cell? ⟨g,o+2,none⟩=some (.int .i64 b.next)/\w'.cell? ⟨g,o+3,none⟩=some (.int .i64 b.seq)/\w'.cell? ⟨g,o+4,none⟩=some (.slice (some ⟨mb,off,none⟩) b.ah.length z1)/\w'.cell? ⟨g,o+5,none⟩=some (.slice a2 b.au.length z2)/\w'.cell? ⟨g,o+6,none⟩=some (.int .i64 b.lost)/\w'.cell? ⟨w.heap.size,3,none⟩=some (.int .i64 uid)/\w'.cell? ⟨w.heap.size,4,none⟩=some (.int .i64 mode)/\w'.cell? ⟨w.heap.size,5,none⟩=some (.int .i64 fl)/\w'.cell? ⟨w.heap.size,6,none⟩=some (.int .i64 si)/\w'.cell? ⟨mb,off+i * 4+1,none⟩=some (.int .i64 m.flags)/\w'.cell? ⟨mb,off+i * 4+2,none⟩=some (.int .i64 m.seq))
  (first | exact HS.out _ DR | exact HS.out _ (Below.step DR B1) | go_keep)
  ((go_at_call 73;refine(uh _ b uid _ dV.out).mono ?_;rintro e w1 ⟨rfl,B1⟩))
 have HB1:Hid (Below W.heap.size W w1):=Below.step DR B1;have bN:Hid _:=aA HB1.out aR.out;have hw1:W.heap.size<=w1.heap.size:=HB1.out.size;clear B1 dV;obtain⟨e0,e1,e2,e3,e4,e5,e6,e7,e8,e9,e10,e11,e12⟩:=HS.out _ HB1.out;have tK:g < w1.heap.size:=by omega
 have U6:mb < w1.heap.size:=by omega
 have xA:w.heap.size < w1.heap.size:=by omega
 have M7:(i:Int) < b.ah.length:=by omega
 have hs3:(0 < si/\¬(si < m.seq))\/(si<=0/\decide (0 < si)=false):=by
  by_cases hs0:0 < si
  ·exact .inl ⟨hs0,λh=>hs ⟨hs0,h⟩⟩
  ·exact .inr ⟨by omega,decide_eq_false hs0⟩
 rcases hs3 with⟨hs0,hs1⟩ | ⟨hs1,hs2⟩
 all_goals
  go_wp2
  go_quiet (fail)
  go_wp2;have HB2:Hid (Below W.heap.size W (w1.drewN nq)):=below_drewN nq HB1.out;have hw2:(w1.drewN nq).heap.size=w1.heap.size:=rfl;clear e0 e1 e2 e3 e4 e5 e6 e7 e8 e9 e10 e11 e12;generalize w1.drewN nq=w2 at HB2 hw2 ⊢;have pU:Below W.heap.size W w2.drew:=Below.step HB2.out (bd _ _);have hg2:g < w2.drew.heap.size:=by show _ < w2.heap.size;omega
  have hm2:mb < w2.drew.heap.size:=by show _ < w2.heap.size;omega
  have hc2:w.heap.size < w2.drew.heap.size:=by show _ < w2.heap.size;omega
  go_region_held3 (λw'=>w'.cell? ⟨g,o,none⟩=some (.slice a0 q0 z0)/\w'.cell? ⟨g,o+1,none⟩=some (.int .i64 b.valid)/\w'.cell? ⟨g,o+2,none⟩=some (.int .i64 b.next)/\w'.cell? ⟨g,o+3,none⟩=some (.int .i64 b.seq)/\w'.cell? ⟨g,o+4,none⟩=some (.slice (some ⟨mb,off,none⟩) b.ah.length z1)/\w'.cell? ⟨g,o+5,none⟩=some (.slice a2 b.au.length z2)/\w'.cell? ⟨g,o+6,none⟩=some (.int .i64 b.lost)/\w'.cell? ⟨w.heap.size,3,none⟩=some (.int .i64 uid)/\w'.cell? ⟨w.heap.size,4,none⟩=some (.int .i64 mode)/\w'.cell? ⟨w.heap.size,5,none⟩=some (.int .i64 fl)/\w'.cell? ⟨w.heap.size,6,none⟩=some (.int .i64 si)/\w'.cell? ⟨mb,off+i * 4+1,none⟩=some (.int .i64 m.flags)/\w'.cell? ⟨mb,off+i * 4+2,none⟩=some (.int .i64 m.seq))
   (first | exact HS.out _ pU | go_keep)
   ((go_at_call 101;refine(QZ m.flags mode fl _).mono ?_;rintro e w3 ⟨rfl,rfl⟩))
  have hw4:w2.drew.heap.size=w1.heap.size:=hw2;clear hg2 hm2 hc2;generalize w2.drew=w4 at pU hw4 ⊢;have hg2:g < w4.heap.size:=by omega
  have hm2:mb < w4.heap.size:=by omega
  have hc2:w.heap.size < w4.heap.size:=by omega
  have gK:Hid _:=aA pU aR.out;obtain⟨e0,e1,e2,e3,e4,e5,e6,e7,e8,e9,e10,e11,e12⟩:=HS.out _ pU;obtain⟨r0,r1,r2,r3,r4,r5,r6,r7,r8,r9⟩:=bf gK.out;have fz:∀i,w4.frozen? ⟨w.heap.size+1,i,none⟩=false:=λi=>frozen_of_row _ _ i _ _ gK.out;have hlr:w.heap.size+1 < w4.heap.size:=by omega
  have HF:Hid _:=pR (w:=w) gK.out (by omega) (Below.step HB.out pU) c n;clear HS dL HC HV aR pU HB2;rcases HZ.out with⟨hfl,rfl,rfl⟩ | ⟨hfl,hfull,rfl,rfl⟩
  all_goals
   go_wp2;obtain⟨f0,f1,f2,f3,f4,f5,f6,f7,f8,f9⟩:=bf HF.out.1;exact bodyPost_ret (v:=.agg #[_,_,_,_,_,_,_,_,_,_]) (by simp[results,Tryz.results69,go_sem,f0,f1,f2,f3,f4,f5,f6,f7,f8,f9]) rfl ⟨_,rfl,HR.out _,oH HF.out.2,HP.out _ HF.out.2⟩
/- An account whose boxes are put anew. -/
theorem aJ.U8 {w1 w:World} {S S':Nat->Prop} {ga:Nat} {a:aT} {v:Value} {l:List aB} (h:aJ w1 S ga a) (hb:Below w1.heap.size w1 w) (hq:iT w S' v l) (hg:¬S' ga) (hS:∀k,S' k->S k\/w1.heap.size<=k) :
  aJ (w.setCell ⟨ga,1,none⟩ v) S' ga ⟨a.valid,l,a.seen⟩:=by
 have h':=h.below hb;have ht:=h'.ty;obtain⟨_,U9,Va,hh,_,hi,_⟩:=h;obtain⟨hs,u0,u1,h0,h1,_,r⟩:=h';have hk:∀k,k≠ga->(w.setCell ⟨ga,1,none⟩ v).heap[k]?=w.heap[k]?:=λk h=>Below.heap_setCell _ _ _ _ h;have he:=(hb.block ga (lt_of_heap hh)).trans hh;rw[h0] at he;simp only[Option.some.injEq,Obj.cells.injEq,Array.mk.injEq,List.cons.injEq,true_and,and_true] at he;obtain⟨rfl,rfl⟩:=he;refine⟨hg,v,u1,aD (i:=1) h0,zq hq (λk h _=>hk k λe=>hg (e ▸ h)) (gJ ht (by decide)) (gJ ht (by decide)),?_,r⟩
 refine Ow.mono (jc (w:=w1) hi λk hk1 hk2 hT=>?_) λk h=>⟨λh'=>(hS k h').elim h.1 λh'=>by have:=h.2;omega,by have:=h.2;have:=hb.size;simpa [World.setCell] using Nat.lt_of_lt_of_le h.2 hb.size⟩;have:k≠ga:=λe=>by subst e;obtain⟨cs,fz,hT⟩:=hT;exact dX hT ⟨_,_,hh⟩ (by decide)
 exact(hk k this).trans (hb.block k hk2)
/-- A box of its own, without ah and au. -/
theorem adj {w:World} {na:Option Addr} {nn nc:Nat} {nm:List Int} {v n:Int} (h:RO w Any (.slice na nn nc) nm) (hv:av v) (hn:av n):EL 7 iE w [⟨nm,v,n,0,[],[],0⟩] (λ_=>False) [.slice na nn nc,.int .i64 v,.int .i64 n,.int .i64 0,.slice none 0 0,.slice none 0 0,.int .i64 0] :=
 EL.one rfl ⟨_,_,_,rfl,h,.inl ⟨rfl,rfl⟩,⟨Rd.nil _,λ_ _ _ e=>by cases e⟩,hv,hn,aK,aK⟩
theorem zw {w:World}:∀ {l:List aB} {S:Nat->Prop} {xs:List Value},EL 7 iE w l S xs->∀y ∈ xs,y.oneCell'=true
 | [],_,_,h=>by rw[show _=[] from h];simp
 | x :: l,_,_,⟨c,ys,_,_,e,hc,⟨u0,u1,u2,ec,h0,h1,h2,_⟩,hl,_⟩=>by
  obtain⟨a0,n0,c0,rfl⟩:=h0.bs.aP;obtain⟨a1,c1,rfl,-⟩:=h1.v.form;obtain⟨a2,c2,rfl,-⟩:=h2.1.form;subst ec;subst e;intro y hy;simp only[List.cons_append,List.nil_append,List.mem_cons,List.mem_append,List.not_mem_nil,or_false] at hy;rcases hy with rfl | rfl | rfl | rfl | rfl | rfl | rfl | hy
  all_goals first | rfl | exact zw hl y hy
/-- One box into the middle of a row. -/
theorem adk {w:World} {l:List aB} {b:aB} {S:Nat->Prop} {xs cb:List Value} (i:Nat) (h:EL 7 iE w l S xs) (hb:EL 7 iE w [b] (λ_=>False) cb):EL 7 iE w (l.take i ++ b :: l.drop i) S (xs.take (i * 7) ++ cb ++ xs.drop (i * 7)):=by
 obtain⟨S1,S2,e1,e2,d1,d2,d3⟩:=EL.split i h;have:=(e1.app hb (λ_ _ h=>h)).app e2 (λk h h'=>h.elim (λh=>d3 k h h') (λh=>h));rw[List.append_assoc] at this;exact this.mono λk h=>h.elim (λh=>h.elim (d1 k) False.elim) (d2 k)
/-- One box out of a row. -/
theorem adl {w:World} {l:List aB} {S:Nat->Prop} {xs:List Value} (i:Nat) (h:EL 7 iE w l S xs):EL 7 iE w (l.take i ++ l.drop (i+1)) S (xs.take (i * 7) ++ xs.drop ((i+1) * 7)):=by
 obtain⟨S1,S2,e1,e2,d1,d2,d3⟩:=EL.split i h;obtain⟨T1,T2,f1,f2,c1,c2,c3⟩:=EL.split 1 e2;have:=e1.app f2 (λk h h'=>d3 k h (c2 k h'));rw[List.drop_drop,List.drop_drop] at this;rw[show(i+1) * 7=i * 7+1 * 7 by omega];exact this.mono λk h=>h.elim (d1 k) λh=>d2 k (c2 k h)
theorem takeWhile_take {α:Type} (p:α->Bool):∀(l:List α) (i:Nat),(∀j x,j < i->l[j]?=some x->p x=true)->(∀x,l[i]?=some x->p x=false)->i<=l.length->l.takeWhile p=l.take i/\l.dropWhile p=l.drop i
 | [],i,_,_,hi=>by simp at hi;subst hi;simp
 | x :: l,0,_,h,_=>by simp[h x rfl]
 | x :: l,i+1,h1,h2,hi=>by
  have hx:=h1 0 x (by omega) rfl;obtain⟨e1,e2⟩:=takeWhile_take p l i (λj y hj hy=>h1 (j+1) y (by omega) (by simpa using hy)) (λy hy=>h2 y (by simpa using hy)) (by simpa using hi);simp[hx,e1,e2]
section
variable {w : World} {g cap n k : Nat} {cur : Array Value}
theorem Jy (hh:w.heap[g]?=some (.cells cur 70 (0,0))) (hs:n * 7<=cur.size) (hk:k<=n) (c:Nat):tH w (.slice (some ⟨g,0,none⟩) k c) k 7 ((cur.toList.take (n * 7)).take (k * 7)):=by
 refine .inr ⟨g,0,c,rfl,?_,λj y hy=>?_⟩
 ·rw[List.length_take,List.length_take,Array.length_toList];omega
 ·rw[List.getElem?_take] at hy
  split at hy
  ·rw[List.getElem?_take] at hy
   split at hy
   ·rw[cell_of_row w g _ cur _ (0,0) hh,Nat.zero_add];simpa using hy
   ·cases hy
  ·cases hy
theorem Vb (hh:w.heap[g]?=some (.cells cur 70 (0,0))) (hs:n * 7<=cur.size) (hk:k<=n) (c:Nat):tH w (.slice (some ⟨g,k * 7,none⟩) (n - k) c) (n - k) 7 ((cur.toList.take (n * 7)).drop (k * 7)):=by
 refine .inr ⟨g,k * 7,c,rfl,?_,λj y hy=>?_⟩
 ·rw[List.length_drop,List.length_take,Array.length_toList,Nat.sub_mul];omega
 ·rw[List.getElem?_drop,List.getElem?_take] at hy
  split at hy
  ·rw[cell_of_row w g _ cur _ (0,0) hh];simpa using hy
  ·cases hy
theorem Vd (w:World) (g n:Nat) (cur:Array Value) (c:Nat):tH w (.slice (some ⟨g,0,none⟩) 0 c) 0 7 ((cur.toList.take (n * 7)).drop (n * 7)):=by
 refine .inr ⟨g,0,c,rfl,?_,λj y hy=>?_⟩
 ·rw[List.length_drop,List.length_take];omega
 ·rw[List.drop_of_length_le (by rw[List.length_take];omega)] at hy;cases hy
end
/-- The boxes with one more are the UU. -/
theorem adn {wl w3:World} {S0:Nat->Prop} {ga k m:Nat} {A:aT} {cells xs:List Value} {V:Value} {na:Option Addr} {nn nc:Nat} {nm:List Int} {v:Int} (hA:aJ wl S0 ga A) (M8:∀k,S0 k->k < wl.heap.size) (hb:Below wl.heap.size wl w3) (hel:EL 7 iE wl A.boxes S0 cells) (hro:RO wl Any (.slice na nn nc) nm) (hv:av v)
  (hrow:w3.ownsRow wl.heap.size 70 7 V m xs) (hm:m=A.boxes.length+1) (hxs:xs=cells.take (k * 7) ++ [.slice na nn nc,.int .i64 v,.int .i64 1,.int .i64 0,.slice none 0 0,.slice none 0 0,.int .i64 0] ++ cells.drop (k * 7)) (hk:k<=A.boxes.length) :
  aJ (w3.setCell ⟨ga,1,none⟩ V) (λj=>S0 j\/wl.heap.size<=j) ga ⟨A.valid,A.boxes.take k ++ ⟨nm,v,1,0,[],[],0⟩ :: A.boxes.drop k,A.seen⟩:=by
 have hl:(A.boxes.take k ++ (⟨nm,v,1,0,[],[],0⟩:aB) :: A.boxes.drop k).length=m:=by rw[hm,List.length_append,List.length_cons,List.length_take,List.length_drop];omega
 subst hxs;rw[← hl] at hrow;have he:=adk k (Ju hel (λk _ hk=>hb.block k hk) (fT hb) (fT hb)) (adj (w:=w3) (v:=v) (n:=1) (lM hro (fT hb)) hv ⟨by decide,by decide⟩);exact hA.U8 hb (UW hrow he M8) (λh=>h.elim hA.1 (λh=>by have:=hA.lt;omega)) (λk h=>h)
/- What Jz of package spec does where it copies nothing. -/
theorem Ve (ga k:Nat) (a:aT) (b:aB) (tt:List Int) (S:Nat->Prop) (kd uid mode fl si:Int) (x0 x1 x2:Option Addr) (n0 n1 n2 m0 m1 m2:Nat) (w:World) (hp:aJ w S ga a) (hb:a.boxes[k]?=some b) (hto:Bs w (.slice x1 n1 m1) tt) (hbl:a.boxes.length<=2000000) (hsx:bG b<=2000000) (hf:bD (λm:aL=>decide (m.uid=uid)) b.ah = -1\/∃i:Nat,bD (λm:aL=>decide (m.uid=uid)) b.ah=(i:Int)/\bD (λx:aB=>decide (x.name=tt)) a.boxes = -1) :
  Calls Tryz.prog 71 #[.pointer (some ⟨ga,0,none⟩),.int .i64 k,.agg #[.int .i64 kd,.slice x0 n0 m0,.slice x1 n1 m1,.int .i64 uid,.int .i64 mode,.int .i64 fl,.int .i64 si,.slice x2 n2 m2]] w λe w'=>∃u,e=.returned u/\jr w' u (bJ 1 0)/\Below w.heap.size w w'/\aJ w' S ga a:=by
 have HP:Hid (∀w',Below w.heap.size w w'->aJ w' S ga a):=λw' h=>hp.below h;have HN:Hid _:=hf;clear hf;have nU:Hid (∀w',Below w.heap.size w w'->Bs w' (.slice x1 n1 m1) tt):=λw' h=>hto.below h;have iF:=hp.lt;obtain⟨g,cap,S1,cb,jv,hpb,hS1,-⟩:=hp.at hb;obtain⟨v9,u9,mU,jN,mV,hbq,oI⟩:=hp.cells;have e9:v9=.slice (some ⟨g,0,none⟩) a.boxes.length cap:=Option.some.inj (jN.symm.trans cb);subst e9;have oJ:Hid (∀w',Below w.heap.size w w'->mF w' (.agg #[.int .i64 a.valid,.slice (some ⟨g,0,none⟩) a.boxes.length cap,u9]) a):=λw' h=>oI.below h;have hkl:k < a.boxes.length:=(gs1 hb).1
 have bX:g < w.heap.size:=kK hpb.ty;have hcap:a.boxes.length<=cap:=by obtain⟨_,_,e,h,-⟩:=hbq.v.form;cases e;exact h
 obtain⟨u0,u1,u2,h0,h1,h2,hint,c0,c1,c2,c3,c4,c5,c6⟩:=hpb.cells;obtain⟨a0,q0,z0,rfl⟩:=h0.bs.aP;obtain⟨a1,z1,rfl,-⟩:=h1.v.form;obtain⟨a2,z2,rfl,-⟩:=h2.1.form;have HV:Hid (∀w',Below w.heap.size w w'->bT w' (.agg #[.slice a0 q0 z0,.int .i64 b.valid,.int .i64 b.next,.int .i64 b.seq,.slice a1 b.ah.length z1,.slice a2 b.au.length z2,.int .i64 b.lost]) b):=λw' h=>⟨_,_,_,rfl,h0.bs.below h,h1.v.below kP h,h2.1.below kN h,hint⟩
 obtain⟨HB,dL,aR,kL⟩:=vC w (.cells #[.int .i64 kd,.slice x0 n0 m0,.slice x1 n1 m1,.int .i64 uid,.int .i64 mode,.int .i64 fl,.int .i64 si,.slice x2 n2 m2] 35) (.cells #[.int .i64 0,.int .i64 0,.slice none 0 0,.int .i64 0,.int .i64 0,.int .i64 0,.slice none 0 0,.slice none 0 0,.int .i64 0,.slice none 0 0] 73)
 have HC:Hid (∀W w',Below w.heap.size w W->W.heap[w.heap.size]?=some (.cells #[.int .i64 kd,.slice x0 n0 m0,.slice x1 n1 m1,.int .i64 uid,.int .i64 mode,.int .i64 fl,.int .i64 si,.slice x2 n2 m2] 35 (0,0))->Below W.heap.size W w'->w'.cell? ⟨g,k * 7,none⟩=some (.slice a0 q0 z0)/\w'.cell? ⟨g,k * 7+1,none⟩=some (.int .i64 b.valid)/\w'.cell? ⟨g,k * 7+2,none⟩=some (.int .i64 b.next)/\w'.cell? ⟨g,k * 7+3,none⟩=some (.int .i64 b.seq)/\w'.cell? ⟨g,k * 7+4,none⟩=some (.slice a1 b.ah.length z1)/\w'.cell? ⟨g,k * 7+5,none⟩=some (.slice a2 b.au.length z2)/\w'.cell? ⟨g,k * 7+6,none⟩=some (.int .i64 b.lost)/\w'.cell? ⟨ga,0,none⟩=some (.int .i64 a.valid)/\w'.cell? ⟨ga,1,none⟩=some (.slice (some ⟨g,0,none⟩) a.boxes.length cap)/\w'.cell? ⟨ga,2,none⟩=some (u9)/\w'.cell? ⟨w.heap.size,2,none⟩=some (.slice x1 n1 m1)/\w'.cell? ⟨w.heap.size,3,none⟩=some (.int .i64 uid)/\w'.cell? ⟨w.heap.size,4,none⟩=some (.int .i64 mode)):=by
  intro W w' hb hc hw;have h:=λj=>hb.cell (p:=⟨g,j,none⟩) bX;have h':=λj=>hw.cell (p:=⟨g,j,none⟩) (Nat.lt_of_lt_of_le bX hb.size);have i:=λj=>hb.cell (p:=⟨ga,j,none⟩) iF;have i':=λj=>hw.cell (p:=⟨ga,j,none⟩) (Nat.lt_of_lt_of_le iF hb.size);have hk:=aA hw hc;have hq:=λj=>cell_of_row w' w.heap.size j _ _ (0,0) hk
  exact⟨(h' _).trans ((h _).trans c0),(h' _).trans ((h _).trans c1),(h' _).trans ((h _).trans c2),(h' _).trans ((h _).trans c3),(h' _).trans ((h _).trans c4),(h' _).trans ((h _).trans c5),(h' _).trans ((h _).trans c6),(i' _).trans ((i _).trans mU),(i' _).trans ((i _).trans jN),(i' _).trans ((i _).trans mV),hq 2,hq 3,hq 4⟩
 have hki:(k:Int) < (a.boxes.length:Int):=by omega
 clear h0 h1 h2 hp hpb hbq oI hto c0 c1 c2 c3 c4 c5 c6 mU jN mV cb hint
 go_enter Tryz.func71,Tryz.ntmps71;go_upto_region 1 with fail
 generalize ((w.alloc (.cells #[.int .i64 kd,.slice x0 n0 m0,.slice x1 n1 m1,.int .i64 uid,.int .i64 mode,.int .i64 fl,.int .i64 si,.slice x2 n2 m2] 35)).alloc (.cells #[.int .i64 0,.int .i64 0,.slice none 0 0,.int .i64 0,.int .i64 0,.int .i64 0,.slice none 0 0,.slice none 0 0,.int .i64 0,.slice none 0 0] 73))=W at HB dL aR kL ⊢
 have HS:Hid (∀w',Below W.heap.size W w'->w'.cell? ⟨g,k * 7,none⟩=some (.slice a0 q0 z0)/\w'.cell? ⟨g,k * 7+1,none⟩=some (.int .i64 b.valid)/\w'.cell? ⟨g,k * 7+2,none⟩=some (.int .i64 b.next)/\w'.cell? ⟨g,k * 7+3,none⟩=some (.int .i64 b.seq)/\w'.cell? ⟨g,k * 7+4,none⟩=some (.slice a1 b.ah.length z1)/\w'.cell? ⟨g,k * 7+5,none⟩=some (.slice a2 b.au.length z2)/\w'.cell? ⟨g,k * 7+6,none⟩=some (.int .i64 b.lost)/\w'.cell? ⟨ga,0,none⟩=some (.int .i64 a.valid)/\w'.cell? ⟨ga,1,none⟩=some (.slice (some ⟨g,0,none⟩) a.boxes.length cap)/\w'.cell? ⟨ga,2,none⟩=some (u9)/\w'.cell? ⟨w.heap.size,2,none⟩=some (.slice x1 n1 m1)/\w'.cell? ⟨w.heap.size,3,none⟩=some (.int .i64 uid)/\w'.cell? ⟨w.heap.size,4,none⟩=some (.int .i64 mode)):=λw' h=>HC.out W w' HB.out dL.out h
 obtain⟨-,-,-,-,-,-,-,s0,s1,s2,-⟩:=HS.out W (Below.refl _ _);have hl0:ga < W.heap.size:=by omega
 go_upto_region 2 with fail
 clear s0 s1 s2;have DR:Below W.heap.size W W.drew:=(bd _ _);have hl1:w.heap.size < W.drew.heap.size:=by show _ < W.heap.size;omega
 have hl2:g < W.drew.heap.size:=by show _ < W.heap.size;omega
 have dV:Hid _:=HV.out W.drew (Below.step HB.out DR)
 go_region_held3 (λw'=>w'.cell? ⟨g,k * 7,none⟩=some (.slice a0 q0 z0)/\w'.cell? ⟨g,k * 7+1,none⟩=some (.int .i64 b.valid)/\w'.cell? ⟨g,k * 7+2,none⟩=some (.int .i64 b.next)/\w'.cell? ⟨g,k * 7+3,none⟩=some (.int .i64 b.seq)/\w'.cell? ⟨g,k * 7+4,none⟩=some (.slice a1 b.ah.length z1)/\w'.cell? ⟨g,k * 7+5,none⟩=some (.slice a2 b.au.length z2)/\w'.cell? ⟨g,k * 7+6,none⟩=some (.int .i64 b.lost)/\w'.cell? ⟨ga,0,none⟩=some (.int .i64 a.valid)/\w'.cell? ⟨ga,1,none⟩=some (.slice (some ⟨g,0,none⟩) a.boxes.length cap)/\w'.cell? ⟨ga,2,none⟩=some (u9)/\w'.cell? ⟨w.heap.size,2,none⟩=some (.slice x1 n1 m1)/\w'.cell? ⟨w.heap.size,3,none⟩=some (.int .i64 uid)/\w'.cell? ⟨w.heap.size,4,none⟩=some (.int .i64 mode))
  (first | exact HS.out _ DR | exact HS.out _ (Below.step DR B1) | go_keep)
  ((go_at_call 73;refine(uh _ b uid _ dV.out).mono ?_;rintro e w1 ⟨rfl,B1⟩))
 have HB1:Hid (Below W.heap.size W w1):=Below.step DR B1;have hw1:W.heap.size<=w1.heap.size:=HB1.out.size;clear B1 dV DR hl1 hl2;go_upto_region 3 with fail
 have DR:Below W.heap.size W w1.drew:=HB1.out.drew;have hl1:w.heap.size < w1.drew.heap.size:=by show _ < w1.heap.size;omega
 have hl2:g < w1.drew.heap.size:=by show _ < w1.heap.size;omega
 have hl3:ga < w1.drew.heap.size:=by show _ < w1.heap.size;omega
 have dV:Hid _:=oJ.out w1.drew (Below.step HB.out DR);have nV:Hid _:=nU.out w1.drew (Below.step HB.out DR)
 go_region_held3 (λw'=>w'.cell? ⟨g,k * 7,none⟩=some (.slice a0 q0 z0)/\w'.cell? ⟨g,k * 7+1,none⟩=some (.int .i64 b.valid)/\w'.cell? ⟨g,k * 7+2,none⟩=some (.int .i64 b.next)/\w'.cell? ⟨g,k * 7+3,none⟩=some (.int .i64 b.seq)/\w'.cell? ⟨g,k * 7+4,none⟩=some (.slice a1 b.ah.length z1)/\w'.cell? ⟨g,k * 7+5,none⟩=some (.slice a2 b.au.length z2)/\w'.cell? ⟨g,k * 7+6,none⟩=some (.int .i64 b.lost)/\w'.cell? ⟨ga,0,none⟩=some (.int .i64 a.valid)/\w'.cell? ⟨ga,1,none⟩=some (.slice (some ⟨g,0,none⟩) a.boxes.length cap)/\w'.cell? ⟨ga,2,none⟩=some (u9)/\w'.cell? ⟨w.heap.size,2,none⟩=some (.slice x1 n1 m1)/\w'.cell? ⟨w.heap.size,3,none⟩=some (.int .i64 uid)/\w'.cell? ⟨w.heap.size,4,none⟩=some (.int .i64 mode))
  (first | exact HS.out _ DR | exact HS.out _ (Below.step DR B2) | go_keep)
  ((go_at_call 66;refine(uj _ _ a tt _ dV.out nV.out hbl).mono ?_;rintro e w2 ⟨rfl,B2⟩))
 have HB2:Hid (Below W.heap.size W w2):=Below.step DR B2;have gK:Hid _:=aA HB2.out aR.out;have hw2:W.heap.size<=w2.heap.size:=HB2.out.size;clear B2 dV nV DR hl1 hl2 hl3 HB1 hw1;have JA:bD (λm:aL=>decide (m.uid=uid)) b.ah = -1\/(0<=bD (λm:aL=>decide (m.uid=uid)) b.ah/\bD (λx:aB=>decide (x.name=tt)) a.boxes = -1):=by
  rcases HN.out with h | ⟨i,h,h2⟩
  ·exact .inl h
  ·exact .inr ⟨by omega,h2⟩
 clear HN;generalize bD (λm:aL=>decide (m.uid=uid)) b.ah=fm at *
 generalize bD (λx:aB=>decide (x.name=tt)) a.boxes=fb at *
 rcases JA with hf | ⟨hi0,hf2⟩
 all_goals
  obtain⟨r0,r1,r2,r3,r4,r5,r6,r7,r8,r9⟩:=bf gK.out;have fz:∀i,w2.frozen? ⟨w.heap.size+1,i,none⟩=false:=λi=>frozen_of_row w2 _ i _ _ gK.out;have hlr:w.heap.size+1 < w2.heap.size:=by omega
  clear HS dL HC HV aR oJ nU;have HF:Hid _:=pR (w:=w) gK.out (by omega) (Below.step HB.out HB2.out) 1 0;go_wp2;have ff:=bf HF.out.1;refine bodyPost_ret (v:=.agg #[.int .i64 1,.int .i64 0,.slice none 0 0,.int .i64 0,.int .i64 0,.int .i64 0,.slice none 0 0,.slice none 0 0,.int .i64 0,.slice none 0 0]) (by simp[results,Tryz.results71,go_sem,ff]) rfl ⟨_,rfl,?_,HF.out.2,HP.out _ HF.out.2⟩;exact⟨_,_,_,_,rfl,⟨_,_,_,rfl,nP _,Rd.nil _,Rd.nil _,aK,aK,aK,aK⟩,⟨rfl,rfl⟩,⟨by decide,by decide⟩,aK⟩
end Go.Proofs.YtfabngnaejjcmaaGreatDoor
