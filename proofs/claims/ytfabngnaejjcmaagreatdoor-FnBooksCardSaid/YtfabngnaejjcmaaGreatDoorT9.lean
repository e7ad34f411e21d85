/- The proof's texts, part 9. -/
import Derived.Test.YtfabngnaejjcmaaGreatDoorT6
import Derived.Test.YtfabngnaejjcmaaGreatDoorT8
import Derived.Test.YtfabngnaejjcmaaGreatDoorT4
namespace Go.Proofs.YtfabngnaejjcmaaGreatDoor
open Go.RowKit
set_option linter.unusedVariables false
set_option linter.unusedSimpArgs false
set_option maxHeartbeats 4000000
set_option maxRecDepth 100000
/- Records in memory: what they read as, and those of the call's own. -/
structure RecD where
 kind:Int
 user:Int
 n:Int
 cmd:gP
 acc:aT
/-- The value v reads as a record. -/
def iK (w:World) (v:Value) (r:RecD):Prop :=
 ∃u0 u1 u2 u3 u4,v=.agg #[.int .i64 r.kind,.int .i64 r.user,.int .i64 r.n,.int .i64 r.cmd.k,u0,u1,.int .i64 r.cmd.uid,.int .i64 r.cmd.mode,.int .i64 r.cmd.fl,.int .i64 r.cmd.si,u2,.int .i64 r.acc.valid,u3,u4]/\om w (.agg #[.int .i64 r.cmd.k,u0,u1,.int .i64 r.cmd.uid,.int .i64 r.cmd.mode,.int .i64 r.cmd.fl,.int .i64 r.cmd.si,u2]) r.cmd.k r.cmd.bx r.cmd.tt r.cmd.uid r.cmd.mode r.cmd.fl r.cmd.si r.cmd.tx/\mF w (.agg #[.int .i64 r.acc.valid,u3,u4]) r.acc/\av r.kind/\av r.user/\av r.n
theorem iK.below {w w':World} {v:Value} {r:RecD} (h:iK w v r) (hb:Below w.heap.size w w'):iK w' v r :=
 let ⟨u0,u1,u2,u3,u4,h0,h1,h2,i⟩:=h;⟨u0,u1,u2,u3,u4,h0,h1.below hb,h2.below hb,i⟩
/-- A record of the call's own in blocks from B on and below T. -/
def sF (w:World) (B T:Nat) (v:Value) (r:RecD):Prop :=
 ∃u0 u1 u2 u3 u4 T0,v=.agg #[.int .i64 r.kind,.int .i64 r.user,.int .i64 r.n,.int .i64 r.cmd.k,u0,u1,.int .i64 r.cmd.uid,.int .i64 r.cmd.mode,.int .i64 r.cmd.fl,.int .i64 r.cmd.si,u2,.int .i64 r.acc.valid,u3,u4]/\qA w B T0 (.agg #[.int .i64 r.cmd.k,u0,u1,.int .i64 r.cmd.uid,.int .i64 r.cmd.mode,.int .i64 r.cmd.fl,.int .i64 r.cmd.si,u2]) r.cmd.k r.cmd.bx r.cmd.tt r.cmd.uid r.cmd.mode r.cmd.fl r.cmd.si r.cmd.tx/\qB w (In T0 T) (.agg #[.int .i64 r.acc.valid,u3,u4]) r.acc/\B<=T0/\T0<=T/\av r.kind/\av r.user/\av r.n
section
variable {w w' : World} {B T B' T' : Nat} {x : Value} {r : RecD}
theorem sF.v (h:sF w B T x r):iK w x r:=let ⟨u0,u1,u2,u3,u4,_,h0,h1,h2,_,_,i⟩:=h;⟨u0,u1,u2,u3,u4,h0,h1.v,h2.v,i⟩
theorem sF.below (h:sF w B T x r) (hb:Below w.heap.size w w'):sF w' B T x r:=let ⟨u0,u1,u2,u3,u4,T0,h0,h1,h2,i⟩:=h;⟨u0,u1,u2,u3,u4,T0,h0,h1.below hb,h2.below hb,i⟩
theorem sF.wide (h:sF w B T x r) (hB:B'<=B) (hT:T<=T'):sF w B' T' x r :=
 let ⟨u0,u1,u2,u3,u4,T0,h0,h1,h2,j0,j1,i⟩:=h
 ⟨u0,u1,u2,u3,u4,T0,h0,h1.wide hB (Nat.le_refl _),let ⟨p,q,S0,S1,k0,k1,k2,d0,d1,k⟩:=h2;⟨p,q,S0,S1,k0,k1,k2,λx hx=>⟨⟨(d0 x hx).1.1,Nat.lt_of_lt_of_le (d0 x hx).1.2 hT⟩,(d0 x hx).2⟩,λx hx=>⟨(d1 x hx).1,Nat.lt_of_lt_of_le (d1 x hx).2 hT⟩,k⟩,by omega,by omega,i⟩
end
theorem qB.set {w:World} {g i B T:Nat} {v x:Value} {a:aT} (h:qB w (In B T) v a) (hd:g < B\/T<=g):qB (w.setCell ⟨g,i,none⟩ x) (In B T) v a :=
 h.frame λb hb hlt=>Below.heap_setCell _ _ _ _ (by have:=hb.1;have:=hb.2;show b≠g;omega)
theorem oC {w:World} {g:Nat} {t:TypeId} {c0 c1 c2 c3 c4 c5 c6 c7 c8 c9 c10 c11 c12 c13:Value} (h:w.heap[g]?=some (.cells #[c0,c1,c2,c3,c4,c5,c6,c7,c8,c9,c10,c11,c12,c13] t (0,0))) :
  w.cell? ⟨g,0,none⟩=some c0/\w.cell? ⟨g,1,none⟩=some c1/\w.cell? ⟨g,2,none⟩=some c2/\w.cell? ⟨g,3,none⟩=some c3/\w.cell? ⟨g,4,none⟩=some c4/\w.cell? ⟨g,5,none⟩=some c5/\w.cell? ⟨g,6,none⟩=some c6/\w.cell? ⟨g,7,none⟩=some c7/\w.cell? ⟨g,8,none⟩=some c8/\w.cell? ⟨g,9,none⟩=some c9/\w.cell? ⟨g,10,none⟩=some c10/\w.cell? ⟨g,11,none⟩=some c11/\w.cell? ⟨g,12,none⟩=some c12/\w.cell? ⟨g,13,none⟩=some c13 :=
 ⟨by rw[cell_of_row w g 0 _ t (0,0) h];rfl,by rw[cell_of_row w g 1 _ t (0,0) h];rfl,by rw[cell_of_row w g 2 _ t (0,0) h];rfl,by rw[cell_of_row w g 3 _ t (0,0) h];rfl,by rw[cell_of_row w g 4 _ t (0,0) h];rfl,by rw[cell_of_row w g 5 _ t (0,0) h];rfl,by rw[cell_of_row w g 6 _ t (0,0) h];rfl,by rw[cell_of_row w g 7 _ t (0,0) h];rfl,by rw[cell_of_row w g 8 _ t (0,0) h];rfl,by rw[cell_of_row w g 9 _ t (0,0) h];rfl,by rw[cell_of_row w g 10 _ t (0,0) h];rfl,by rw[cell_of_row w g 11 _ t (0,0) h];rfl,by rw[cell_of_row w g 12 _ t (0,0) h];rfl,by rw[cell_of_row w g 13 _ t (0,0) h];rfl⟩
theorem yH {w:World} {g:Nat} {t:TypeId} {c0 c1 c2 c3 c4 c5 c6 c7 c8 c9 c10 c11 c12 c13:Value} (h:w.heap[g]?=some (.cells #[c0,c1,c2,c3,c4,c5,c6,c7,c8,c9,c10,c11,c12,c13] t (0,0))) :
  w.cell? ⟨g,0,none⟩=some c0/\w.cell? ⟨g,1,none⟩=some c1/\w.cell? ⟨g,2,none⟩=some c2/\w.cell? ⟨g,3,none⟩=some c3/\w.cell? ⟨g,4,none⟩=some c4/\w.cell? ⟨g,5,none⟩=some c5/\w.cell? ⟨g,6,none⟩=some c6/\w.cell? ⟨g,7,none⟩=some c7/\w.cell? ⟨g,8,none⟩=some c8/\w.cell? ⟨g,9,none⟩=some c9/\w.cell? ⟨g,10,none⟩=some c10/\w.cell? ⟨g,11,none⟩=some c11/\w.cell? ⟨g,12,none⟩=some c12/\w.cell? ⟨g,13,none⟩=some c13/\g < w.heap.size:=by
 obtain⟨f0,f1,f2,f3,f4,f5,f6,f7,f8,f9,f10,f11,f12,f13⟩:=oC h;exact⟨f0,f1,f2,f3,f4,f5,f6,f7,f8,f9,f10,f11,f12,f13,lt_of_heap h⟩
/-- A record's shape laid open. -/
theorem iK.form {w:World} {v:Value} {r:RecD} (h:iK w v r):∃a0 n0 c0 a1 n1 c1 a2 n2 c2 a3 c3 a4 c4,v=.agg #[.int .i64 r.kind,.int .i64 r.user,.int .i64 r.n,.int .i64 r.cmd.k,.slice a0 n0 c0,.slice a1 n1 c1,.int .i64 r.cmd.uid,.int .i64 r.cmd.mode,.int .i64 r.cmd.fl,.int .i64 r.cmd.si,.slice a2 n2 c2,.int .i64 r.acc.valid,.slice a3 r.acc.boxes.length c3,.slice a4 r.acc.seen.length c4]:=by
 obtain⟨u0,u1,u2,u3,u4,rfl,⟨p0,p1,p2,e,q0,q1,q2,-⟩,⟨t0,t1,e',s0,s1,-⟩,-⟩:=h;simp only[Value.agg.injEq,Array.mk.injEq,List.cons.injEq,and_true,true_and] at e e';obtain⟨rfl,rfl,rfl⟩:=e;obtain⟨rfl,rfl⟩:=e';obtain⟨a0,n0,c0,rfl⟩:=q0.aP;obtain⟨a1,n1,c1,rfl⟩:=q1.aP;obtain⟨a2,n2,c2,rfl⟩:=q2.aP;obtain⟨a3,c3,rfl,-⟩:=s0.form;obtain⟨a4,c4,rfl,-⟩:=s1.form;exact⟨_,_,_,_,_,_,_,_,_,_,_,_,_,rfl⟩
/-- A record's parts, at a record whose shape lies open. -/
theorem iK.parts {w:World} {x0 x1 x2 x3 x4:Value} {r:RecD} (h:iK w (.agg #[.int .i64 r.kind,.int .i64 r.user,.int .i64 r.n,.int .i64 r.cmd.k,x0,x1,.int .i64 r.cmd.uid,.int .i64 r.cmd.mode,.int .i64 r.cmd.fl,.int .i64 r.cmd.si,x2,.int .i64 r.acc.valid,x3,x4]) r):om w (.agg #[.int .i64 r.cmd.k,x0,x1,.int .i64 r.cmd.uid,.int .i64 r.cmd.mode,.int .i64 r.cmd.fl,.int .i64 r.cmd.si,x2]) r.cmd.k r.cmd.bx r.cmd.tt r.cmd.uid r.cmd.mode r.cmd.fl r.cmd.si r.cmd.tx/\mF w (.agg #[.int .i64 r.acc.valid,x3,x4]) r.acc/\av r.kind/\av r.user/\av r.n:=by
 obtain⟨u0,u1,u2,u3,u4,e,h1,h2,i⟩:=h;simp only[Value.agg.injEq,Array.mk.injEq,List.cons.injEq,and_true,true_and] at e;obtain⟨rfl,rfl,rfl,rfl,rfl⟩:=e;exact⟨h1,h2,i⟩
/- Lists of records in memory: what they read as, and those of the call's own. -/
def Hu (w:World) (c:List Value) (r:RecD):Prop:=iK w (.agg c.toArray) r
abbrev RecsV:=Rd 14 Hu
theorem Dt:Keeps Hu:=λ_ _ _ _ hb h=>iK.below h hb
/-- A record of the call's own, by the sets of its blocks. -/
def wC (w:World) (c:List Value) (r:RecD) (S:Nat->Prop):Prop :=
 ∃u0 u1 u2 u3 u4 S0 S1 S2 S3 S4,c=[.int .i64 r.kind,.int .i64 r.user,.int .i64 r.n,.int .i64 r.cmd.k,u0,u1,.int .i64 r.cmd.uid,.int .i64 r.cmd.mode,.int .i64 r.cmd.fl,.int .i64 r.cmd.si,u2,.int .i64 r.acc.valid,u3,u4]/\RO w S0 u0 r.cmd.bx/\RO w S1 u1 r.cmd.tt/\RO w S2 u2 r.cmd.tx/\QA w S3 u3 r.acc.boxes/\gQ w S4 u4 r.acc.seen/\((∀x,S0 x->S x/\¬S1 x/\¬S2 x/\¬S3 x/\¬S4 x)/\(∀x,S1 x->S x/\¬S2 x/\¬S3 x/\¬S4 x)/\(∀x,S2 x->S x/\¬S3 x/\¬S4 x)/\(∀x,S3 x->S x/\¬S4 x)/\(∀x,S4 x->S x))/\av r.kind/\av r.user/\av r.n/\av r.cmd.k/\av r.cmd.uid/\av r.cmd.mode/\av r.cmd.fl/\av r.cmd.si/\av r.acc.valid
theorem aaB:Frames wC:=λ_ _ _ _ _ h hw =>
 let ⟨u0,u1,u2,u3,u4,S0,S1,S2,S3,S4,h0,h1,h2,h3,h4,h5,d,r⟩:=h
 ⟨u0,u1,u2,u3,u4,S0,S1,S2,S3,S4,h0,h1.frame λb hb=>hw b (d.1 b hb).1,h2.frame λb hb=>hw b (d.2.1 b hb).1,h3.frame λb hb=>hw b (d.2.2.1 b hb).1,h4.frame yg λb hb=>hw b (d.2.2.2.1 b hb).1,h5.frame CX λb hb=>hw b (d.2.2.2.2 b hb),d,r⟩
instance:Fr wC:=⟨aaB⟩
abbrev Lf:=Ow 41 14 wC
abbrev RI:=aZ 41 14 wC
theorem wC.rd {w:World} {c:List Value} {r:RecD} {S:Nat->Prop} (h:wC w c r S):Hu w c r:=by
 obtain⟨u0,u1,u2,u3,u4,S0,S1,S2,S3,S4,rfl,h1,h2,h3,h4,h5,-,i0,i1,i2,i3,i4,i5,i6,i7,i8⟩:=h;exact⟨u0,u1,u2,u3,u4,rfl,⟨_,_,_,rfl,h1.bs,h2.bs,h3.bs,i3,i4,i5,i6,i7⟩,⟨_,_,rfl,h4.rd λ_ _ _ _=>gG.rd,h5.rd λ_ _ _ _ h=>h,i8⟩,i0,i1,i2⟩
theorem Lf.v {w:World} {S:Nat->Prop} {v:Value} {l:List RecD} (h:Lf w S v l):RecsV w v l:=h.rd λ_ _ _ _=>wC.rd
theorem RI.v {w:World} {B T:Nat} {v:Value} {l:List RecD} (h:RI w B T v l):RecsV w v l:=Lf.v h
/-- A record of the call's own, by intervals, is one by sets. -/
theorem sF.e {w:World} {B T:Nat} {x0 x1 x2 x3 x4:Value} {r:RecD} (h:sF w B T (.agg #[.int .i64 r.kind,.int .i64 r.user,.int .i64 r.n,.int .i64 r.cmd.k,x0,x1,.int .i64 r.cmd.uid,.int .i64 r.cmd.mode,.int .i64 r.cmd.fl,.int .i64 r.cmd.si,x2,.int .i64 r.acc.valid,x3,x4]) r):wC w [.int .i64 r.kind,.int .i64 r.user,.int .i64 r.n,.int .i64 r.cmd.k,x0,x1,.int .i64 r.cmd.uid,.int .i64 r.cmd.mode,.int .i64 r.cmd.fl,.int .i64 r.cmd.si,x2,.int .i64 r.acc.valid,x3,x4] r (In B T):=by
 obtain⟨u0,u1,u2,u3,u4,T0,e,⟨v0,v1,v2,Ta,Tb,e1,g0,g1,g2,t0,t1,t2,i3,i4,i5,i6,i7⟩,⟨v3,v4,S3,S4,e2,g3,g4,d3,d4,i8⟩,j0,j1,i0,i1,i2⟩:=h;simp only[Value.agg.injEq,Array.mk.injEq,List.cons.injEq,and_true,true_and] at e e1 e2;obtain⟨rfl,rfl,rfl,rfl,rfl⟩:=e;obtain⟨rfl,rfl,rfl⟩:=e1;obtain⟨rfl,rfl⟩:=e2;refine⟨_,_,_,_,_,In B Ta,In Ta Tb,In Tb T0,S3,S4,rfl,g0.ro,g1.ro,g2.ro,g3,g4,⟨λx hx=>?_,λx hx=>?_,λx hx=>?_,λx hx=>?_,λx hx=>?_⟩,i0,i1,i2,i3,i4,i5,i6,i7,i8⟩
 ·have h0:=hx.1;have h1:=hx.2
  exact⟨⟨h0,by omega⟩,λh=>by have:=h.1;omega,λh=>by have:=h.1;omega,λh=>by have:=(d3 x h).1.1;omega,λh=>by have:=(d4 x h).1;omega⟩
 ·have h0:=hx.1;have h1:=hx.2
  exact⟨⟨by omega,by omega⟩,λh=>by have:=h.1;omega,λh=>by have:=(d3 x h).1.1;omega,λh=>by have:=(d4 x h).1;omega⟩
 ·have h0:=hx.1;have h1:=hx.2
  exact⟨⟨by omega,by omega⟩,λh=>by have:=(d3 x h).1.1;omega,λh=>by have:=(d4 x h).1;omega⟩
 ·have:=d3 x hx
  exact⟨⟨by have:=this.1.1;omega,this.1.2⟩,this.2⟩
 ·have:=d4 x hx
  exact⟨by have:=this.1;omega,this.2⟩
/-- An element of a list of records, its cells. -/
theorem RecsV.cell {w:World} {v:Value} {l:List RecD} (h:RecsV w v l) (k:Nat) (x:RecD) (hx:l[k]?=some x):∃b off cap a0 n0 c0 a1 n1 c1 a2 n2 c2 a3 c3 a4 c4,v=.slice (some ⟨b,off,none⟩) l.length cap/\b < w.heap.size/\w.cell? ⟨b,off+k * 14,none⟩=some (.int .i64 x.kind)/\w.cell? ⟨b,off+k * 14+1,none⟩=some (.int .i64 x.user)/\w.cell? ⟨b,off+k * 14+2,none⟩=some (.int .i64 x.n)/\w.cell? ⟨b,off+k * 14+3,none⟩=some (.int .i64 x.cmd.k)/\w.cell? ⟨b,off+k * 14+4,none⟩=some (.slice a0 n0 c0)/\w.cell? ⟨b,off+k * 14+5,none⟩=some (.slice a1 n1 c1)/\w.cell? ⟨b,off+k * 14+6,none⟩=some (.int .i64 x.cmd.uid)/\w.cell? ⟨b,off+k * 14+7,none⟩=some (.int .i64 x.cmd.mode)/\w.cell? ⟨b,off+k * 14+8,none⟩=some (.int .i64 x.cmd.fl)/\w.cell? ⟨b,off+k * 14+9,none⟩=some (.int .i64 x.cmd.si)/\w.cell? ⟨b,off+k * 14+10,none⟩=some (.slice a2 n2 c2)/\w.cell? ⟨b,off+k * 14+11,none⟩=some (.int .i64 x.acc.valid)/\w.cell? ⟨b,off+k * 14+12,none⟩=some (.slice a3 x.acc.boxes.length c3)/\w.cell? ⟨b,off+k * 14+13,none⟩=some (.slice a4 x.acc.seen.length c4)/\iK w (.agg #[.int .i64 x.kind,.int .i64 x.user,.int .i64 x.n,.int .i64 x.cmd.k,.slice a0 n0 c0,.slice a1 n1 c1,.int .i64 x.cmd.uid,.int .i64 x.cmd.mode,.int .i64 x.cmd.fl,.int .i64 x.cmd.si,.slice a2 n2 c2,.int .i64 x.acc.valid,.slice a3 x.acc.boxes.length c3,.slice a4 x.acc.seen.length c4]) x:=by
 obtain⟨b,off,cap,c,hv,hlt,hE,hl,hc⟩:=h.get k x hx;have hE':iK w (.agg c.toArray) x:=hE;obtain⟨a0,n0,c0,a1,n1,c1,a2,n2,c2,a3,c3,a4,c4,e⟩:=hE'.form;obtain rfl:c=[.int .i64 x.kind,.int .i64 x.user,.int .i64 x.n,.int .i64 x.cmd.k,.slice a0 n0 c0,.slice a1 n1 c1,.int .i64 x.cmd.uid,.int .i64 x.cmd.mode,.int .i64 x.cmd.fl,.int .i64 x.cmd.si,.slice a2 n2 c2,.int .i64 x.acc.valid,.slice a3 x.acc.boxes.length c3,.slice a4 x.acc.seen.length c4]:=by
  have:=congrArg (λv=>match v with | .agg c=>c.toList | _=>[]) e;simpa using this
 exact⟨b,off,cap,a0,n0,c0,a1,n1,c1,a2,n2,c2,a3,c3,a4,c4,hv,hlt,by simpa using hc 0 _ rfl,by simpa using hc 1 _ rfl,by simpa using hc 2 _ rfl,by simpa using hc 3 _ rfl,by simpa using hc 4 _ rfl,by simpa using hc 5 _ rfl,by simpa using hc 6 _ rfl,by simpa using hc 7 _ rfl,by simpa using hc 8 _ rfl,by simpa using hc 9 _ rfl,by simpa using hc 10 _ rfl,by simpa using hc 11 _ rfl,by simpa using hc 12 _ rfl,by simpa using hc 13 _ rfl,hE'⟩
/- What is written into data of the call's own: the world apart from it, and the data as they are then. -/
/-- Apart from the blocks of S the world w' has all that w had. -/
structure Wr (S:Nat->Prop) (w w':World):Prop where
 os:w'.os=w.os
 tape:w'.tape=w.tape
 output:w'.output=w.output
 size:w.heap.size<=w'.heap.size
 block:∀k,k < w.heap.size->¬S k->w'.heap[k]?=w.heap[k]?
theorem Wr.refl (S:Nat->Prop) (w:World):Wr S w w:=⟨rfl,rfl,rfl,Nat.le_refl _,λ_ _ _=>rfl⟩
theorem Wr.trans {S:Nat->Prop} {a b c:World} (h:Wr S a b) (k:Wr S b c):Wr S a c :=
 ⟨k.os.trans h.os,k.tape.trans h.tape,k.output.trans h.output,Nat.le_trans h.size k.size,λi hi hn=>(k.block i (Nat.lt_of_lt_of_le hi h.size) hn).trans (h.block i hi hn)⟩
theorem Wr.mono {S S':Nat->Prop} {a b:World} (h:Wr S a b) (hS:∀x,S x->S' x):Wr S' a b:=⟨h.os,h.tape,h.output,h.size,λi hi hn=>h.block i hi λhs=>hn (hS i hs)⟩
theorem Wr.below {B:Nat} {S:Nat->Prop} {w0 a b:World} (h:Wr S a b) (h0:Below B w0 a) (hS:∀x,S x->B<=x) (hB:B<=a.heap.size):Below B w0 b :=
 ⟨h.os.trans h0.os,h.tape.trans h0.tape,h.output.trans h0.output,Nat.le_trans h0.size h.size,λk hk=>(h.block k (Nat.lt_of_lt_of_le hk hB) λhs=>by have:=hS k hs;omega).trans (h0.block k hk)⟩
theorem Wr.of_below {S:Nat->Prop} {a b:World} (h:Below a.heap.size a b):Wr S a b:=⟨h.os,h.tape,h.output,h.size,λk hk _=>h.block k hk⟩
theorem Wr.put {S:Nat->Prop} {w:World} {g:Nat} (hg:S g) (o:Nat) (c:List Value) (t:TypeId) (cur:Array Value) (h:w.heap[g]?=some (.cells cur t (0,0))) (hs:o+c.length<=cur.size):Wr S w (put w g o c):=by
 obtain⟨cur',_,_,_,_,hw⟩:=GA g t c w o cur h hs;refine⟨hw.os,hw.tape,hw.output,hw.size,λk hk hn=>hw.block k hk λ⟨h1,h2⟩=>?_⟩;obtain rfl:k=g:=by omega
 exact hn hg
section
variable {α : Type} {z : α} {mk : α -> Int -> α} {wt : α -> Nat} {k : Int} {l : List α}
end
section
variable {α : Type} {a b : List α} {i : Nat}
end
/- The aaC rows in memory: what they read as, and those of the call's own. -/
structure bH where
 epoch:Int
 owner:Int
 moving:Bool
 tr:Int
 target:Int
def RJ (_:World) (c:List Value) (x:bH):Prop:=c=[.int .i64 x.epoch,.int .i64 x.owner,.bool x.moving,.int .i64 x.tr,.int .i64 x.target]/\av x.epoch/\av x.owner/\av x.tr/\av x.target
abbrev qU:=Rd 5 RJ
theorem Aw:Keeps RJ:=λ_ _ _ _ _ h=>h
def Hw (_:World) (c:List Value) (x:bH) (_:Nat->Prop):Prop:=c=[.int .i64 x.epoch,.int .i64 x.owner,.bool x.moving,.int .i64 x.tr,.int .i64 x.target]/\av x.epoch/\av x.owner/\av x.tr/\av x.target
theorem Lh:Frames Hw:=λ_ _ _ _ _ h _=>h
instance:Fr Hw:=⟨Lh⟩
abbrev Li:=Ow 33 5 Hw
abbrev kS:=aZ 33 5 Hw
theorem Li.v {w:World} {S:Nat->Prop} {v:Value} {l:List bH} (h:Li w S v l):qU w v l:=h.rd λ_ _ _ _ h=>h
theorem kS.v {w:World} {B T:Nat} {v:Value} {l:List bH} (h:kS w B T v l):qU w v l:=Li.v h
theorem qU.cell {w:World} {v:Value} {l:List bH} (h:qU w v l) (k:Nat) (x:bH) (hx:l[k]?=some x):∃b off cap,v=.slice (some ⟨b,off,none⟩) l.length cap/\b < w.heap.size/\w.cell? ⟨b,off+k * 5,none⟩=some (.int .i64 x.epoch)/\w.cell? ⟨b,off+k * 5+1,none⟩=some (.int .i64 x.owner)/\w.cell? ⟨b,off+k * 5+2,none⟩=some (.bool x.moving)/\w.cell? ⟨b,off+k * 5+3,none⟩=some (.int .i64 x.tr)/\w.cell? ⟨b,off+k * 5+4,none⟩=some (.int .i64 x.target)/\av x.epoch/\av x.owner/\av x.tr/\av x.target:=by
 obtain⟨b,off,cap,c,hv,hlt,⟨rfl,hi⟩,hl,hc⟩:=h.get k x hx;exact⟨b,off,cap,hv,hlt,by simpa using hc 0 _ rfl,by simpa using hc 1 _ rfl,by simpa using hc 2 _ rfl,by simpa using hc 3 _ rfl,by simpa using hc 4 _ rfl,hi⟩
/-- A aaC value. -/
def Hy (w:World) (v:Value) (l:List bH):Prop:=∃u,v=.agg #[u]/\qU w u l
def qV (w:World) (B T:Nat) (v:Value) (l:List bH):Prop:=∃u,v=.agg #[u]/\kS w B T u l
section
variable {w w' : World} {B T B' T' : Nat} {x : Value} {l : List bH}
theorem Hy.below (h:Hy w x l) (hb:Below w.heap.size w w'):Hy w' x l:=let ⟨u,h0,h1⟩:=h;⟨u,h0,h1.below Aw hb⟩
theorem qV.v (h:qV w B T x l):Hy w x l:=let ⟨u,h0,h1⟩:=h;⟨u,h0,h1.v⟩
theorem qV.below (h:qV w B T x l) (hb:Below w.heap.size w w'):qV w' B T x l:=let ⟨u,h0,h1⟩:=h;⟨u,h0,aZ.below h1 hb⟩
theorem qV.wide (h:qV w B T x l) (hB:B'<=B) (hT:T<=T'):qV w B' T' x l:=let ⟨u,h0,h1⟩:=h;⟨u,h0,aZ.wide h1 hB hT⟩
end
/- Records that may be. -/
/-- A command, an account that is zero, by its numbers and lengths. -/
def zA (valid:Int) (nb ns:Nat):Bool:=decide (valid=0/\nb=0/\ns=0)
def RL (a:aT):Bool:=zA a.valid a.boxes.length a.seen.length
def Du (k:Int):Int:=if k=0 then 1 else 0
def Dv (k:Int):Int:=if k=6 then 2 else if k=7\/k=8 then 0 else 1000000
def yI (r:RecD):Bool:=aQ r.kind 0 8 && (aQ r.user 0 2 && (aQ r.n (Du r.kind) (Dv r.kind) && ((bif decide (r.kind=0) then QH r.cmd else QG r.cmd) && (bif decide (r.kind=3) then Dc r.acc else RL r.acc))))
theorem Lj {r:RecD} (h:yI r=true):(0<=r.kind/\r.kind<=8)/\(0<=r.user/\r.user<=2)/\(0<=r.n/\r.n<=1000000):=by
 simp only[yI,aQ,Bool.and_eq_true,decide_eq_true_eq] at h;obtain⟨h0,h1,h2,-⟩:=h;refine⟨h0,h1,?_,?_⟩
 ·have:=h2.1;unfold Du at this;split at this <;> omega
 ·have:=h2.2;unfold Dv at this;split at this
  ·omega
  ·split at this <;> omega
/- The book, on lists. -/
def wD (h u:Int):bH:=⟨1,u.tmod h,false,0,0⟩
def jK (h:Int):List bH:=[wD h 0,wD h 1,wD h 2]
theorem aaD (h:Int) (k:Nat) (hk:k < 3):(jK h).take (k+1)=(jK h).take k ++ [wD h k]:=by
 have:k=0\/k=1\/k=2:=by omega
 rcases this with rfl | rfl | rfl <;> rfl
theorem Ll (h:Int):(jK h).length=3:=rfl
/-- What a record makes of a row. -/
def bI (x:bH) (kind n:Int):bH :=
 if kind=6 then (if (x.moving=false/\n≠x.owner/\x.tr < 1000000/\x.epoch < 1000000) then ⟨x.epoch,x.owner,true,(if x.tr > x.epoch then x.tr else x.epoch)+1,n⟩ else x)
 else if kind=7 then (if x.moving=true then ⟨x.tr,x.target,false,x.tr,x.target⟩ else x)
 else ⟨x.epoch,x.owner,false,x.tr,x.target⟩
def iL (b:List bH) (r:RecD):List bH:=match b[r.user.toNat]? with
 | some x=>b.set r.user.toNat (bI x r.kind r.n)
 | none=>b
theorem aaE {b:List bH} {r:RecD} {x:bH} (h:b[r.user.toNat]?=some x):iL b r=b.set r.user.toNat (bI x r.kind r.n):=by unfold iL;rw[h]
theorem aaF (b:List bH) (r:RecD):(iL b r).length=b.length:=by unfold iL;split <;> simp
def Ay (h:Int) (r:RecD):Bool:=yI r && (decide (6<=r.kind) && !(decide (r.kind=6) && decide (h<=r.n)))
def iX (h:Int) (l:List RecD):Bool:=decide (1<=h/\h<=3) && l.all (Ay h)
def nD (h:Int) (l:List RecD):List bH:=match iX h l with
 | true=>l.foldl iL (jK h)
 | false=>[]
theorem Lm {h:Int} {l:List RecD} (e:iX h l=true):nD h l=l.foldl iL (jK h):=by unfold nD;rw[e]
theorem RN {h:Int} {l:List RecD} (e:iX h l=false):nD h l=[]:=by unfold nD;rw[e]
theorem Lp (l:List RecD) (b:List bH):(l.foldl iL b).length=b.length:=by
 induction l generalizing b with
 | nil=>rfl
 | cons r l ih=>rw[List.foldl_cons,ih,aaF]
/-- Numbers of a row that a book can have. -/
def kT (x:bH):Prop:=0<=x.epoch/\x.epoch<=1000001/\0<=x.owner/\x.owner<=1000000/\0<=x.tr/\x.tr<=1000001/\0<=x.target/\x.target<=1000000
theorem RP {x:bH} (h:kT x):av x.epoch/\av x.owner/\av x.tr/\av x.target:=by
 obtain⟨a,b,c,d,e,f,g,i⟩:=h;refine⟨⟨?_,?_⟩,⟨?_,?_⟩,⟨?_,?_⟩,⟨?_,?_⟩⟩ <;> omega
theorem RQ {x:bH} {kind n:Int} (h:kT x) (h0:0<=n) (h1:n<=1000000):kT (bI x kind n):=by
 obtain⟨a,b,c,d,e,f,g,i⟩:=h;unfold bI
 split
 ·split
  ·rename_i q
   refine⟨a,b,c,d,?_,?_,h0,h1⟩ <;> dsimp only <;> split <;> omega
  ·exact⟨a,b,c,d,e,f,g,i⟩
 ·split
  ·split
   ·exact⟨e,f,g,i,e,f,g,i⟩
   ·exact⟨a,b,c,d,e,f,g,i⟩
  ·exact⟨a,b,c,d,e,f,g,i⟩
theorem RS {h:Int} (h1:1<=h) (h3:h<=3) {u:Int} (hu:0<=u):kT (wD h u):=by
 have e:u.tmod h=u % h:=Int.tmod_eq_emod_of_nonneg hu;have:=Int.emod_nonneg u (show h≠0 by omega);have:=Int.emod_lt_of_pos u (show 0 < h by omega);refine⟨?_,?_,?_,?_,?_,?_,?_,?_⟩ <;> simp only[wD,e] <;> omega
/- One element of a list of the call's own while it is written, cell by cell and through its slices. -/
/-- The cells cs stand in block g from o on, in a block that was cur; apart from it and from the blocks f the world is as wr. -/
structure At (wr:World) (f:Nat->Prop) (g:Nat) (t:TypeId) (cur:Array Value) (o:Nat) (cs:List Value) (wc:World):Prop where
 blk:∃cur',wc.heap[g]?=some (.cells cur' t (0,0))/\cur'.size=cur.size/\(∀j u,cs[j]?=some u->cur'[o+j]?=some u)/\(∀m,m < o\/o+cs.length<=m->cur'[m]?=cur[m]?)
 wrote:Wr (λb=>b=g\/f b) wr wc
section
variable {wr wc wc' : World} {f S0 : Nat -> Prop} {g : Nat} {t : TypeId} {cur : Array Value} {o : Nat} {cs : List Value}
theorem At.start (hh:wr.heap[g]?=some (.cells cur t (0,0))) (hcs:∀j u,cs[j]?=some u->cur[o+j]?=some u):At wr f g t cur o cs wr :=
 ⟨⟨cur,hh,rfl,hcs,λ_ _=>rfl⟩,Wr.refl _ _⟩
theorem At.cell (h:At wr f g t cur o cs wc) (j:Nat) (u:Value) (hu:cs[j]?=some u):wc.cell? ⟨g,o+j,none⟩=some u:=by
 obtain⟨cur',h1,-,h3,-⟩:=h.blk;rw[cell_of_row wc g _ cur' t (0,0) h1];exact h3 j u hu
theorem At.frozen (h:At wr f g t cur o cs wc) (i:Nat):wc.frozen? ⟨g,i,none⟩=false:=let ⟨cur',h1,_⟩:=h.blk;frozen_of_row wc g i cur' t h1
theorem At.lt (h:At wr f g t cur o cs wc):g < wc.heap.size:=let ⟨_,h1,_⟩:=h.blk;lt_of_heap h1
theorem At.set (h:At wr f g t cur o cs wc) (i:Nat) (v:Value) (hi:i < cs.length) (hr:o+cs.length<=cur.size):At wr f g t cur o (cs.set i v) (wc.setCell ⟨g,o+i,none⟩ v):=by
 obtain⟨cur',h1,h2,h3,h4⟩:=h.blk;refine⟨⟨_,heap_setCell_same wc g (o+i) cur' t v h1,by simpa using h2,λj u hu=>?_,λm hm=>?_⟩,h.wrote.trans ⟨rfl,rfl,rfl,by simp[World.setCell],λb hb hn=>Below.heap_setCell wc ⟨g,o+i,none⟩ v b λe=>hn (.inl e)⟩⟩
 ·rw[Array.getElem?_setIfInBounds]
  by_cases hij:i=j
  ·subst hij
   rw[List.getElem?_set_self hi] at hu;cases hu
   rw[if_pos rfl,if_pos (by omega)]
  ·rw[List.getElem?_set_ne hij] at hu
   rw[if_neg (by omega)];exact h3 j u hu
 ·rw[List.length_set] at hm
  rw[Array.getElem?_setIfInBounds,if_neg (by omega)];exact h4 m hm
theorem At.mark (h:At wr f g t cur o cs wc) (hW:Wr S0 wc wc') (hS:∀b,S0 b->f b/\b≠g):At wr f g t cur o cs wc':=by
 obtain⟨cur',h1,h2,h3,h4⟩:=h.blk;exact⟨⟨cur',(hW.block g (lt_of_heap h1) λhs=>(hS g hs).2 rfl).trans h1,h2,h3,h4⟩,h.wrote.trans (hW.mono λb hb=>.inr (hS b hb).1)⟩
end
/- What ajW, aaG of package spec do. -/
theorem At.quiet {wr wc:World} {f:Nat->Prop} {g:Nat} {t:TypeId} {cur:Array Value} {o:Nat} {cs:List Value} (h:At wr f g t cur o cs wc) (m:Nat):At wr f g t cur o cs (wc.drewN m):=⟨h.blk,⟨h.wrote.os,h.wrote.tape,h.wrote.output,h.wrote.size,h.wrote.block⟩⟩
theorem At.drew {wr wc:World} {f:Nat->Prop} {g:Nat} {t:TypeId} {cur:Array Value} {o:Nat} {cs:List Value} (h:At wr f g t cur o cs wc):At wr f g t cur o cs wc.drew:=⟨h.blk,⟨h.wrote.os,h.wrote.tape,h.wrote.output,h.wrote.size,h.wrote.block⟩⟩
/- What ajX of package impl do. -/
open Go.RowKit Go.Shelf
theorem aaH (v:Value) (x:aB) (mv:Int) (w:World) (hv:bT w v x) :
  Calls Tryz.prog 107 #[v,.int .i64 mv] w λe w'=>e=.returned (.bool (Da x mv))/\Below w.heap.size w w':=by
 have HV:Hid (∀wi,Below w.heap.size w wi->bT wi v x):=λwi h=>hv.below h;obtain⟨u0,u1,u2,rfl,g0,g1,g2,i0,i1,i2,i3⟩:=hv;have H0:Hid (∀wi,Below w.heap.size w wi->Bs wi u0 x.name/\jE wi u1 x.ah/\jF wi u2 x.au):=λwi h=>⟨g0.below h,g1.below kP h,g2.below kN h⟩;obtain⟨a0,n0,c0,rfl⟩:=g0.aP;obtain⟨a1,c1,rfl,m0,m1⟩:=g1.form;obtain⟨a2,c2,rfl,m2,m3⟩:=g2.form;have kA:=aW w (.cells #[.slice a0 n0 c0,.int .i64 x.valid,.int .i64 x.next,.int .i64 x.seq,.slice a1 x.ah.length c1,.slice a2 x.au.length c2,.int .i64 x.lost] 70)
 have X:Below w.heap.size w (w.alloc (.cells #[.slice a0 n0 c0,.int .i64 x.valid,.int .i64 x.next,.int .i64 x.seq,.slice a1 x.ah.length c1,.slice a2 x.au.length c2,.int .i64 x.lost] 70)):=bn _ _;clear g0 g1 g2;have HC:Hid (Da x mv=(gF x.name && (aQ x.valid 1 mv && (aQ x.next 1 1000000 && (aQ x.seq 0 1000000 && (aQ x.lost 0 x.seq && (vW x && vY x))))))):=rfl;have HN:Hid (aQ x.next 1 1000000=true->1<=x.next/\x.next<=1000000):=by intro h;simp[aQ] at h;exact h
 have hy1:=λwi (h:Bs wi (.slice a0 n0 c0) x.name)=>Qw _ x.name wi h;have hy2:=gW x.valid 1 mv;have hy3:=gW x.next 1 1000000;have hy4:=gW x.seq 0 1000000;have Dw:=gW x.lost 0 x.seq;have Lr:=λwi (h:bT wi (.agg #[.slice a0 n0 c0,.int .i64 x.valid,.int .i64 x.next,.int .i64 x.seq,.slice a1 x.ah.length c1,.slice a2 x.au.length c2,.int .i64 x.lost]) x) h1 h2=>Z7 _ x wi h h1 h2;have Dx:=λwi (h:bT wi (.agg #[.slice a0 n0 c0,.int .i64 x.valid,.int .i64 x.next,.int .i64 x.seq,.slice a1 x.ah.length c1,.slice a2 x.au.length c2,.int .i64 x.lost]) x) h1 h2=>Z8 _ x wi h h1 h2
 generalize gF x.name=X1 at HC hy1;generalize aQ x.valid 1 mv=X2 at HC hy2;generalize aQ x.next 1 1000000=X3 at HC hy3 HN;generalize aQ x.seq 0 1000000=X4 at HC hy4;generalize aQ x.lost 0 x.seq=X5 at HC Dw;generalize vW x=X6 at HC Lr;generalize vY x=X7 at HC Dx
 go_enter Tryz.func107,Tryz.ntmps107;go_wp2_with fail
 refine(hy1 _ (H0.out _ X).1).mono ?_;rintro e w1 ⟨rfl,B⟩;replace kA:=aA B kA;replace X:=Below.step X B;clear B hy1;obtain⟨f0,f1,f2,f3,f4,f5,f6⟩:=fV kA;cases X1 with
 | false =>
  go_wp2;go_ret;exact⟨aN HC.out,X⟩
 | true =>
 go_wp2_with fail
 refine(hy2 _).mono ?_;rintro e w' ⟨rfl,rfl⟩;cases X2 with
 | false =>
  go_wp2;go_ret;exact⟨aN HC.out,X⟩
 | true =>
 go_wp2_with fail
 refine(hy3 _).mono ?_;rintro e w' ⟨rfl,rfl⟩;cases X3 with
 | false =>
  go_wp2;go_ret;exact⟨aN HC.out,X⟩
 | true =>
 obtain⟨hn0,hn1⟩:=HN.out rfl;go_wp2_with fail
 refine(hy4 _).mono ?_;rintro e w' ⟨rfl,rfl⟩;cases X4 with
 | false =>
  go_wp2;go_ret;exact⟨aN HC.out,X⟩
 | true =>
 go_wp2_with fail
 refine(Dw _).mono ?_;rintro e w' ⟨rfl,rfl⟩;cases X5 with
 | false =>
  go_wp2;go_ret;exact⟨aN HC.out,X⟩
 | true =>
 go_wp2_with fail
 refine(Lr _ (HV.out _ X) hn0 hn1).mono ?_;rintro e w2 ⟨rfl,B⟩;replace kA:=aA B kA;replace X:=Below.step X B;clear B Lr f0 f1 f2 f3 f4 f5 f6;obtain⟨f0,f1,f2,f3,f4,f5,f6⟩:=fV kA;cases X6 with
 | false =>
  go_wp2;go_ret;exact⟨aN HC.out,X⟩
 | true =>
 go_wp2_with fail
 refine(Dx _ (HV.out _ X) hn0 hn1).mono ?_;rintro e w3 ⟨rfl,B⟩;replace X:=Below.step X B;go_wp2;go_ret;exact⟨aN HC.out,X⟩
/- What slices.IndexFunc and slices.ContainsFunc of boxes do. -/
open Go.RowKit Go.Shelf
theorem aaI (g:Nat) (lb:Array Value) (p:aB->Bool) (v:Value) (l:List aB) (w:World) (hv:lH w v l) (eg:∀args w,(callFunc g args).run Tryz.prog w=.ok (.enter g args) w)
  (hp:∀wi x u,Below w.heap.size w wi->bT wi u x->Calls Tryz.prog g (#[u] ++ lb) wi λe w'=>e=.returned (.bool (p x))/\Below wi.heap.size wi w') :
  Calls Tryz.prog 137 #[v,.func (.func g) #[] lb] w λe w'=>e=.returned (.int .i64 (bD p l))/\Below w.heap.size w w':=by
 have HV:Hid (∀wi,Below w.heap.size w wi->lH wi v l):=λwi h=>hv.below CV h;have HP:Hid (∀wi x u,Below w.heap.size w wi->bT wi u x->Calls Tryz.prog g (#[u] ++ lb) wi λe w'=>e=.returned (.bool (p x))/\Below wi.heap.size wi w'):=hp;obtain⟨a,cap,rfl,hlc,hcm⟩:=hv.form;clear hv hp
 go_enter Tryz.func137,Tryz.ntmps137;go_wp2
 go_loopw [5,8] (λ_ i wr=>∃k:Nat,k<=l.length/\i=.int .i64 k/\Hid (∀j x,j < k->l[j]?=some x->p x=false)/\Hid (Below w.heap.size w wr)) (λ_ i _=>l.length - (intOf i).toNat)
 case atStart=>exact⟨0,Nat.zero_le _,rfl,(λj x hj=>absurd hj (Nat.not_lt_zero _)),Below.refl _ _⟩
 case round =>
  obtain⟨k,hk,rfl,hA,hB⟩:=hrel
  by_cases hlt:k < l.length
  ·obtain⟨x,hx⟩:∃x,l[k]?=some x:=⟨l[k],bK hlt⟩
   obtain⟨b,off,cap',u0,u1,u2,hv',hlb,d0,d1,d2,d3,d4,d5,d6,hu0,hu1,hu2,i0,i1,i2,i3⟩:=lH.cell (HV.out wr hB.out) k x hx;simp only[Value.slice.injEq,true_and] at hv';obtain⟨rfl,rfl⟩:=hv';obtain⟨ua,un,uc,rfl⟩:=hu0.aP;obtain⟨va,vc,rfl,-⟩:=hu1.form;obtain⟨wa,wc,rfl,-⟩:=hu2.form;have hcall:=HP.out wr x (.agg #[.slice ua un uc,.int .i64 x.valid,.int .i64 x.next,.int .i64 x.seq,.slice va x.ah.length vc,.slice wa x.au.length wc,.int .i64 x.lost]) hB.out ⟨_,_,_,rfl,hu0,hu1,hu2,i0,i1,i2,i3⟩;have HX:Hid (l[k]?=some x):=hx;clear hx;cases hq:p x with
   | true =>
    rw[hq] at hcall;have HQ:Hid (p x=true):=hq;clear hq;go_wp2_with (go_at_fn g;refine hcall.mono ?_;rintro e w1 ⟨rfl,B⟩)
    go_ret;exact⟨ng (Al hlt HX.out HQ.out hA.out).symm,Below.step hB.out B⟩
   | false =>
    rw[hq] at hcall;have HQ:Hid (p x=false):=hq;clear hq;go_wp2_with (go_at_fn g;refine hcall.mono ?_;rintro e w1 ⟨rfl,B⟩)
    have HB2:Hid (Below w.heap.size w w1):=Below.step hB.out B;clear B hB;go_roundw
    case rel =>
     refine⟨k+1,by omega,by go_num,(show Hid _ from λj y hj hy=>?_),HB2⟩
     by_cases e:j=k
     ·subst e;rw[HX.out] at hy;cases hy;exact HQ.out
     ·exact hA.out j y (by omega) hy
    case measure=>simp[intOf];omega
  ·obtain rfl:k=l.length:=by omega
   go_wp2;go_ret;exact⟨ng (Am hA.out).symm,hB.out⟩
theorem aaJ (g:Nat) (lb:Array Value) (p:aB->Bool) (v:Value) (l:List aB) (w:World) (hv:lH w v l) (eg:∀args w,(callFunc g args).run Tryz.prog w=.ok (.enter g args) w)
  (hp:∀wi x u,Below w.heap.size w wi->bT wi u x->Calls Tryz.prog g (#[u] ++ lb) wi λe w'=>e=.returned (.bool (p x))/\Below wi.heap.size wi w') :
  Calls Tryz.prog 109 #[v,.func (.func g) #[] lb] w λe w'=>e=.returned (.bool (l.any p))/\Below w.heap.size w w':=by
 have hi:=aaI g lb p v l w hv eg hp;have HF:Hid (l.any p=decide (0<=bD p l)):=CR p l;generalize bD p l=i at hi HF;obtain⟨a,cap,rfl,-⟩:=hv.form;clear hp hv
 go_enter Tryz.func109,Tryz.ntmps109;go_wp2_with (go_at_call 137;refine hi.mono ?_;rintro e w1 ⟨rfl,B⟩)
 go_ret;exact⟨aN HF.out,B⟩
/- What spec.ajY does. -/
theorem aaK:(Tryz.prog.info? 33).map (λi=>(i.zero,i.size,i.bytes))=some (some (.agg #[.int .i64 0,.int .i64 0,.bool false,.int .i64 0,.int .i64 0]),5,40):=by kernel_rfl
/- What impl.ajZ does. -/
theorem aaL:(Tryz.f16.body.bind (eO 5)).all (λo=>jH o 10 [0,1,2,3,4,5,6,7,8,9] [6,7,9] [8,10] 0)=true:=by kernel_rfl
theorem aaM (h:Int) (h1:1<=h) (h3:h<=3) (w:World) :
  Calls Tryz.prog 16 #[.int .i64 h] w λe w'=>∃u,e=.returned u/\qV w' w.heap.size w'.heap.size u (jK h)/\Below w.heap.size w w':=by
 have hne:h≠0:=by omega
 have hne2:(h == 0)=false:=by simpa using hne
 obtain⟨i0,hi,hz0,hz1,hz2⟩:=info_parts aaK;have HX:Hid (Below w.heap.size w ((w.alloc (.cells #[.slice none 0 0] 28)).alloc (.cells #[.slice none 0 0] 28))/\((w.alloc (.cells #[.slice none 0 0] 28)).alloc (.cells #[.slice none 0 0] 28)).heap[w.heap.size]?=some (.cells #[.slice none 0 0] 28)/\((w.alloc (.cells #[.slice none 0 0] 28)).alloc (.cells #[.slice none 0 0] 28)).heap[w.heap.size+1]?=some (.cells #[.slice none 0 0] 28)):=by
  obtain⟨kA,kB,X⟩:=mE w (.cells #[.slice none 0 0] 28) (.cells #[.slice none 0 0] 28);exact⟨X,kA,kB⟩
 go_enter Tryz.func16,Tryz.ntmps16;go_wp2
 go_loopw [5] (λi wr=>∃(k:Nat) (ua:Option Addr) (un uc:Nat),k<=3/\i=.int .i64 k/\Hid (Below w.heap.size w wr)/\Hid (wr.heap[w.heap.size]?=some (.cells #[.slice none 0 0] 28)/\wr.heap[w.heap.size+1]?=some (.cells #[.slice ua un uc] 28)/\w.heap.size+2<=wr.heap.size)/\Hid (kS wr (w.heap.size+2) wr.heap.size (.slice ua un uc) ((jK h).take k))) (λi _=>3 - (intOf i).toNat)
 case atStart=>exact⟨0,none,0,0,Nat.zero_le _,rfl,HX.out.1,⟨HX.out.2.1,HX.out.2.2,by simp⟩,.inl ⟨rfl,rfl⟩⟩
 case round =>
  obtain⟨k,ua,un,uc,hk,rfl,HB,HK,HR⟩:=hrel;have hsz:=HK.out.2.2
  by_cases hlt:k < 3
  ·have HS:Hid (∀w',Below wr.heap.size wr w'->w'.cell? ⟨w.heap.size+1,0,none⟩=some (.slice ua un uc)):=λw' hb=>by rw[cell_of_row _ _ _ _ _ (0,0) (aA hb HK.out.2.1)];rfl
   have d0:=HS.out _ (Below.refl _ _);have hll:((jK h).take k).length=k:=by simp[jK];omega
   go_wp2;refine jR 8 (S:=λw'=>w'.cell? ⟨w.heap.size+1,0,none⟩=some (.slice ua un uc)) (jQ (by kernel_rfl) aaL) (by kernel_rfl) (HS.out _ ((bd _ _))) (λaj al3=>?_);refine tks 0 0 8 aj al3 ?_;refine tks 1 1 9 aj al3 ?_;refine tks 2 2 10 aj al3 ?_;refine tks 3 3 11 aj al3 ?_;refine tks 4 4 12 aj al3 ?_;refine tks 5 5 13 aj al3 ?_;refine cls 6 6 aj (by decide) rfl rfl (λK hK=>?_);go_simp;have AB:Below wr.heap.size wr (wr.drew.alloc (.cells #[.int .i64 1,.int .i64 ((k:Int).tmod h),.bool false,.int .i64 0,.int .i64 0] 33)):=(bd _ _).alloc (Nat.le_refl _) _
   refine hK.out _ _ (HS.out _ AB) (λal3=>?_);clear hK K;refine cls 7 7 aj (by decide) rfl rfl (λK hK=>?_)
   refine eZ (by kernel_rfl) (CY 15 rfl (.tmp 9) (.tmp 14) rfl Lh (B:=w.heap.size+2) (M:=wr.heap.size) (aZ.below HR.out AB) (by simp) hsz Tryz.underlying26 hi hz0 hz1 hz2 rfl (by omega) rfl (wD h k) [.int .i64 1,.int .i64 ((k:Int).tmod h),.bool false,.int .i64 0,.int .i64 0] rfl ⟨rfl,RP (RS h1 h3 (by omega))⟩ ⟨wr.heap.size,0,none⟩ 1 rfl (oU wr.drew _ _) (by intro u hu;simp only[List.mem_cons,List.not_mem_nil,or_false] at hu;rcases hu with rfl | rfl | rfl | rfl | rfl <;> rfl) (by unfold maxLen;simp;omega) (by simp;omega) ?_);intro v2 w2 hO2 hg2 hv2;obtain⟨va,vn,vc,rfl⟩:=aZ.aP hO2
   have Hz:=mH hg2 (λg hg=>(hv2 g hg).1) (aA AB HK.out.2.1) (by omega);have RU:=mH hg2 (λg hg=>(hv2 g hg).1) (aA AB HK.out.1) (by omega);have B2:=Ad (Below.step HB.out AB) hg2 (λg hg=>(hv2 g hg).1) (by omega) (by have:=AB.size;omega);have s2:=hg2.size;have RV:w2.cell? ⟨w.heap.size+1,0,none⟩=some (.slice ua un uc):=by rw[cell_of_row _ _ _ _ _ (0,0) Hz];rfl
   obtain⟨fz2,lz2⟩:=aO Hz;refine hK.out _ _ (RV) (λal3=>?_);clear hK K;refine kC (S':=λw'=>True) 8 10 aj (by decide) (trivial) (λal3=>?_);refine tks 8 8 16 aj al3 ?_;refine cls 9 9 aj (by decide) rfl rfl (λK hK=>?_);go_simp;refine hK.out _ _ (trivial) (λal3=>?_);clear hK K;refine jS aj ?_;have HB2:Hid _:=B2.setCell (p:=⟨w.heap.size+1,0,none⟩) (by simp) (.slice va vn vc)
   have jJ:Hid ((w2.setCell ⟨w.heap.size+1,0,none⟩ (.slice va vn vc)).heap[w.heap.size]?=some (.cells #[.slice none 0 0] 28)/\(w2.setCell ⟨w.heap.size+1,0,none⟩ (.slice va vn vc)).heap[w.heap.size+1]?=some (.cells #[.slice va vn vc] 28)/\w.heap.size+2<=(w2.setCell ⟨w.heap.size+1,0,none⟩ (.slice va vn vc)).heap.size):=⟨eB RU (by omega),aD Hz,by rw[dW];have:=AB.size;omega⟩;have HR2:Hid (kS (w2.setCell ⟨w.heap.size+1,0,none⟩ (.slice va vn vc)) (w.heap.size+2) (w2.setCell ⟨w.heap.size+1,0,none⟩ (.slice va vn vc)).heap.size (.slice va vn vc) ((jK h).take (k+1))):=by
    show kS _ _ _ _ _;rw[aaD h k hlt,dW];exact aZ.set hO2 (.inl (by omega))
   clear HS d0 HB HK HR B2 Hz RU AB hO2 hg2 hv2 RV fz2 lz2;go_wp2;go_roundw
   case rel=>exact⟨k+1,va,vn,vc,by omega,by go_num,HB2,jJ,HR2⟩
   case measure=>simp[intOf];omega
  ·obtain rfl:k=3:=by omega
   have k0:=HK.out.1;have k1:=HK.out.2.1;have d0:wr.cell? ⟨w.heap.size,0,none⟩=some (.slice none 0 0):=by rw[cell_of_row _ _ _ _ _ (0,0) k0];rfl
   have d1:wr.cell? ⟨w.heap.size+1,0,none⟩=some (.slice ua un uc):=by rw[cell_of_row _ _ _ _ _ (0,0) k1];rfl
   obtain⟨oz,ol⟩:=aO k0;obtain⟨rz,rl⟩:=aO k1;clear k0 k1;go_wp2;refine bodyPost_ret (v:=.agg #[.slice ua un uc]) (by simp[results,Tryz.results16,go_sem,d0]) rfl ⟨_,rfl,⟨_,rfl,?_⟩,HB.out.setCell (p:=⟨w.heap.size,0,none⟩) (by simp) (.slice ua un uc)⟩;rw[dW];exact aZ.wide (aZ.set HR.out (.inl (by omega))) (by omega) (Nat.le_refl _)
/- What ZI, aj0 of package spec do. -/
/- What RZ of package spec does. -/
end Go.Proofs.YtfabngnaejjcmaaGreatDoor
