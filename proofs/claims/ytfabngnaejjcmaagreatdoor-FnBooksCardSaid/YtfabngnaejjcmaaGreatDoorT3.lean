/- The proof's texts, part 3. -/
import Derived.Test.YtfabngnaejjcmaaGreatDoorT1
import Derived.Lib.ItoaNum
import Derived.Laws.BytesArg
import Derived.Maps.AppendAt
import Derived.Lib.Bytealg
namespace Go.Proofs.YtfabngnaejjcmaaGreatDoor
open Go.RowKit
set_option linter.unusedVariables false
set_option maxRecDepth 100000
/- Numbers, flags and texts as lines have them, on lists. -/
/- The bytes of a slice as a string. -/
theorem KJ:Tryz.prog.underlying 9=some .string:=by kernel_rfl
/-- The bytes of a slice as a string. -/
theorem GI {w:World} {v:Value} {l:List Int} (h:Bs w v l):(convert 22 9 v).run Tryz.prog w=.ok (.string (strOfNums l)) w:=by
 obtain⟨ho,a,cap,rfl,h1,h2,h3,h4⟩:=h;cases a with
 | none =>
  have hc:=h3 rfl;have:l=[]:=List.eq_nil_of_length_eq_zero (by omega);subst this;exact run_convert_bytes_nil w 22 5 Tryz.underlying22 Tryz.underlying5 _ _ 9 KJ
 | some x =>
  by_cases h0:l=[]
  ·subst h0
   rw[run_convert_bytes_string w 22 9 5 _ _ _ Tryz.underlying22 Tryz.underlying5 KJ];exact run_bytesToString w x 0 cap [] (by simp[loadCells,loadCellsFrom])
  ·obtain⟨b,off,hx,_,hc⟩:=h4 (List.length_pos_iff.2 h0)
   cases hx
   exact run_convert_bytes_arg w 22 5 Tryz.underlying22 Tryz.underlying5 b off l.length cap l rfl hc 9 KJ
/- What ajk and ajl answer, on lists. -/
/- Commands as data. -/
structure gP where
 k:Int
 bx:List Int
 tt:List Int
 uid:Int
 mode:Int
 fl:Int
 si:Int
 tx:List Int
theorem qA.set {w:World} {g i B T:Nat} {v x:Value} {k:Int} {bx tt:List Int} {uid mode fl si:Int} {tx:List Int} (h:qA w B T v k bx tt uid mode fl si tx) (hd:g < B\/T<=g):qA (w.setCell ⟨g,i,none⟩ x) B T v k bx tt uid mode fl si tx :=
 let ⟨u0,u1,u2,T0,T1,hv,h0,h1,h2,r0,r1,r2,r⟩:=h;⟨u0,u1,u2,T0,T1,hv,h0.set (by omega),h1.set (by omega),h2.set (by omega),r0,r1,r2,r⟩
/- GJ, boxes and accounts in memory: what they read as, and those of the call's own. -/
structure aL where
 uid:Int
 flags:Int
 seq:Int
 text:List Int
structure bE where
 uid:Int
 seq:Int
structure aB where
 name:List Int
 valid:Int
 next:Int
 seq:Int
 ah:List aL
 au:List bE
 lost:Int
structure aT where
 valid:Int
 boxes:List aB
 seen:List Int
/-- A row of bytes of the call's own whose block lies in S. -/
def RO (w:World) (S:Nat->Prop) (v:Value) (l:List Int):Prop:=Oct l/\w.ownsRow 0 5 1 v l.length (vals l)/\∀g,v.ownBlock=some g->S g
theorem Row.ro {w:World} {B T:Nat} {v:Value} {l:List Int} (h:Row w B T v l):RO w (In B T) v l :=
 ⟨h.1,(h.wide (B':=0) (T':=T) (Nat.zero_le _) (Nat.le_refl _)).2.1,λg hg=>⟨(h.2.1.lt g hg).1,h.2.2 g hg⟩⟩
theorem RO.bs {w:World} {S:Nat->Prop} {v:Value} {l:List Int} (h:RO w S v l):Bs w v l:=(KD h.1 rfl h.2.1).elim λ_ h=>h.2.bs
theorem RO.mono {w:World} {S S':Nat->Prop} {v:Value} {l:List Int} (h:RO w S v l) (hS:∀b,S b->S' b):RO w S' v l:=⟨h.1,h.2.1,λg hg=>hS g (h.2.2 g hg)⟩
theorem RO.frame {w w':World} {S:Nat->Prop} {v:Value} {l:List Int} (h:RO w S v l) (hw:∀b,S b->b < w.heap.size->w'.heap[b]?=w.heap[b]?):RO w' S v l:=by
 refine⟨h.1,⟨h.2.1.1,?_⟩,h.2.2⟩;rcases h.2.1.2 with hn | ⟨g,cap,cur,hv,hg,hh,r⟩
 ·exact .inl hn
 ·exact .inr ⟨g,cap,cur,hv,hg,(hw g (h.2.2 g (by rw[hv];rfl)) (lt_of_heap hh)).trans hh,r⟩
theorem RO.below {w w':World} {S:Nat->Prop} {v:Value} {l:List Int} (h:RO w S v l) (hb:Below w.heap.size w w'):RO w' S v l:=h.frame λb _ hlt=>hb.block b hlt
theorem RO.nil (w:World) (S:Nat->Prop):RO w S (.slice none 0 0) []:=⟨CQ,World.ownsRow_nil _ _ _ _,λg hg=>by simp[Value.ownBlock] at hg⟩
def Qy (_:World) (c:List Value) (n:Int):Prop:=c=[.int .i64 n]/\av n
def Aa (w:World) (c:List Value) (m:aL):Prop:=∃u,c=[.int .i64 m.uid,.int .i64 m.flags,.int .i64 m.seq,u]/\Bs w u m.text/\av m.uid/\av m.flags/\av m.seq
def Ab (_:World) (c:List Value) (m:bE):Prop:=c=[.int .i64 m.uid,.int .i64 m.seq]/\av m.uid/\av m.seq
abbrev xY:=Rd 1 Qy
abbrev jE:=Rd 4 Aa
abbrev jF:=Rd 2 Ab
def CU (w:World) (c:List Value) (b:aB):Prop :=
 ∃u0 u1 u2,c=[u0,.int .i64 b.valid,.int .i64 b.next,.int .i64 b.seq,u1,u2,.int .i64 b.lost]/\Bs w u0 b.name/\jE w u1 b.ah/\jF w u2 b.au/\av b.valid/\av b.next/\av b.seq/\av b.lost
abbrev lH:=Rd 7 CU
theorem Qz:Keeps Qy:=λ_ _ _ _ _ h=>h
theorem kN:Keeps Ab:=λ_ _ _ _ _ h=>h
theorem kP:Keeps Aa:=λ_ _ _ _ hb h=>let ⟨u,h0,h1,r⟩:=h;⟨u,h0,h1.below hb,r⟩
theorem CV:Keeps CU:=λ_ _ _ _ hb h=>let ⟨u0,u1,u2,h0,h1,h2,h3,r⟩:=h;⟨u0,u1,u2,h0,h1.below hb,h2.below kP hb,h3.below kN hb,r⟩
def KL (_:World) (c:List Value) (n:Int) (_:Nat->Prop):Prop:=c=[.int .i64 n]/\av n
def rQ (w:World) (c:List Value) (m:aL) (S:Nat->Prop):Prop:=∃u,c=[.int .i64 m.uid,.int .i64 m.flags,.int .i64 m.seq,u]/\RO w S u m.text/\av m.uid/\av m.flags/\av m.seq
def CW (_:World) (c:List Value) (m:bE) (_:Nat->Prop):Prop:=c=[.int .i64 m.uid,.int .i64 m.seq]/\av m.uid/\av m.seq
theorem CX:Frames KL:=λ_ _ _ _ _ h _=>h
theorem xZ:Frames CW:=λ_ _ _ _ _ h _=>h
theorem KN:Frames rQ:=λ_ _ _ _ _ h hw=>let ⟨u,h0,h1,r⟩:=h;⟨u,h0,h1.frame hw,r⟩
abbrev gQ:=Ow 3 1 KL
abbrev Zw:=Ow 77 4 rQ
abbrev lI:=Ow 115 2 CW
def gG (w:World) (c:List Value) (b:aB) (S:Nat->Prop):Prop :=
 ∃u0 u1 u2 S0 S1 S2,c=[u0,.int .i64 b.valid,.int .i64 b.next,.int .i64 b.seq,u1,u2,.int .i64 b.lost]/\RO w S0 u0 b.name/\Zw w S1 u1 b.ah/\lI w S2 u2 b.au/\(∀x,S0 x->S x/\¬S1 x/\¬S2 x)/\(∀x,S1 x->S x/\¬S2 x)/\(∀x,S2 x->S x) /\
  av b.valid/\av b.next/\av b.seq/\av b.lost
theorem yg:Frames gG:=λ_ _ _ _ _ h hw =>
 let ⟨u0,u1,u2,S0,S1,S2,h0,h1,h2,h3,d0,d1,d2,r⟩:=h
 ⟨u0,u1,u2,S0,S1,S2,h0,h1.frame λb hb=>hw b (d0 b hb).1,h2.frame KN λb hb=>hw b (d1 b hb).1,h3.frame xZ λb hb=>hw b (d2 b hb),d0,d1,d2,r⟩
abbrev QA:=Ow 70 7 gG
theorem rQ.rd {w:World} {c:List Value} {m:aL} {S:Nat->Prop} (h:rQ w c m S):Aa w c m:=let ⟨u,h0,h1,r⟩:=h;⟨u,h0,h1.bs,r⟩
theorem gG.rd {w:World} {c:List Value} {b:aB} {S:Nat->Prop} (h:gG w c b S):CU w c b :=
 let ⟨u0,u1,u2,_,_,_,h0,h1,h2,h3,_,_,_,r⟩:=h;⟨u0,u1,u2,h0,h1.bs,h2.rd λ_ _ _ _=>rQ.rd,h3.rd λ_ _ _ _ h=>h,r⟩
def mF (w:World) (v:Value) (a:aT):Prop:=∃u0 u1,v=.agg #[.int .i64 a.valid,u0,u1]/\lH w u0 a.boxes/\xY w u1 a.seen/\av a.valid
theorem mF.below {w w':World} {v:Value} {a:aT} (h:mF w v a) (hb:Below w.heap.size w w'):mF w' v a:=let ⟨u0,u1,h0,h1,h2,r⟩:=h;⟨u0,u1,h0,h1.below CV hb,h2.below Qz hb,r⟩
def qB (w:World) (S:Nat->Prop) (v:Value) (a:aT):Prop:=∃u0 u1 S0 S1,v=.agg #[.int .i64 a.valid,u0,u1]/\QA w S0 u0 a.boxes/\gQ w S1 u1 a.seen/\(∀x,S0 x->S x/\¬S1 x)/\(∀x,S1 x->S x)/\av a.valid
theorem qB.v {w:World} {S:Nat->Prop} {v:Value} {a:aT} (h:qB w S v a):mF w v a :=
 let ⟨u0,u1,_,_,h0,h1,h2,_,_,r⟩:=h;⟨u0,u1,h0,h1.rd λ_ _ _ _=>gG.rd,h2.rd λ_ _ _ _ h=>h,r⟩
theorem qB.frame {w w':World} {S:Nat->Prop} {v:Value} {a:aT} (h:qB w S v a) (hw:∀b,S b->b < w.heap.size->w'.heap[b]?=w.heap[b]?):qB w' S v a :=
 let ⟨u0,u1,S0,S1,h0,h1,h2,d0,d1,r⟩:=h;⟨u0,u1,S0,S1,h0,h1.frame yg λb hb=>hw b (d0 b hb).1,h2.frame CX λb hb=>hw b (d1 b hb),d0,d1,r⟩
theorem qB.below {w w':World} {S:Nat->Prop} {v:Value} {a:aT} (h:qB w S v a) (hb:Below w.heap.size w w'):qB w' S v a:=h.frame λb _ hlt=>hb.block b hlt
/-- A box as a value. -/
def bT (w:World) (v:Value) (b:aB):Prop :=
 ∃u0 u1 u2,v=.agg #[u0,.int .i64 b.valid,.int .i64 b.next,.int .i64 b.seq,u1,u2,.int .i64 b.lost]/\Bs w u0 b.name/\jE w u1 b.ah/\jF w u2 b.au/\av b.valid/\av b.next/\av b.seq/\av b.lost
theorem bT.below {w w':World} {v:Value} {b:aB} (h:bT w v b) (hb:Below w.heap.size w w'):bT w' v b:=let ⟨u0,u1,u2,h0,h1,h2,h3,r⟩:=h;⟨u0,u1,u2,h0,h1.below hb,h2.below kP hb,h3.below kN hb,r⟩
def KO (w:World) (S:Nat->Prop) (v:Value) (b:aB):Prop:=∃c,v=.agg c.toArray/\gG w c b S
theorem KO.v {w:World} {S:Nat->Prop} {v:Value} {b:aB} (h:KO w S v b):bT w v b:=by
 obtain⟨c,rfl,h⟩:=h;obtain⟨u0,u1,u2,rfl,r⟩:=h.rd;exact⟨u0,u1,u2,rfl,r⟩
def yh (w:World) (v:Value) (m:aL):Prop:=∃u,v=.agg #[.int .i64 m.uid,.int .i64 m.flags,.int .i64 m.seq,u]/\Bs w u m.text/\av m.uid/\av m.flags/\av m.seq
theorem yh.below {w w':World} {v:Value} {m:aL} (h:yh w v m) (hb:Below w.heap.size w w'):yh w' v m:=let ⟨u,h0,h1,r⟩:=h;⟨u,h0,h1.below hb,r⟩
/-- One element's cells, as the walk asks for them. -/
theorem xY.cell {w:World} {v:Value} {l:List Int} (h:xY w v l) (k:Nat) (x:Int) (hx:l[k]?=some x):∃b off cap,v=.slice (some ⟨b,off,none⟩) l.length cap/\b < w.heap.size/\w.cell? ⟨b,off+k,none⟩=some (.int .i64 x)/\av x:=by
 obtain⟨b,off,cap,c,hv,hlt,⟨rfl,hi⟩,-,hc⟩:=h.get k x hx;exact⟨b,off,cap,hv,hlt,by simpa using hc 0 _ rfl,hi⟩
theorem jF.cell {w:World} {v:Value} {l:List bE} (h:jF w v l) (k:Nat) (x:bE) (hx:l[k]?=some x):∃b off cap,v=.slice (some ⟨b,off,none⟩) l.length cap/\b < w.heap.size/\w.cell? ⟨b,off+k * 2,none⟩=some (.int .i64 x.uid)/\w.cell? ⟨b,off+k * 2+1,none⟩=some (.int .i64 x.seq)/\av x.uid/\av x.seq:=by
 obtain⟨b,off,cap,c,hv,hlt,⟨rfl,hi⟩,-,hc⟩:=h.get k x hx;exact⟨b,off,cap,hv,hlt,hc 0 _ rfl,hc 1 _ rfl,hi⟩
theorem jE.cell {w:World} {v:Value} {l:List aL} (h:jE w v l) (k:Nat) (x:aL) (hx:l[k]?=some x):∃b off cap u,v=.slice (some ⟨b,off,none⟩) l.length cap/\b < w.heap.size/\w.cell? ⟨b,off+k * 4,none⟩=some (.int .i64 x.uid)/\w.cell? ⟨b,off+k * 4+1,none⟩=some (.int .i64 x.flags) /\
  w.cell? ⟨b,off+k * 4+2,none⟩=some (.int .i64 x.seq)/\w.cell? ⟨b,off+k * 4+3,none⟩=some u/\Bs w u x.text/\av x.uid/\av x.flags/\av x.seq:=by
 obtain⟨b,off,cap,c,hv,hlt,⟨u,rfl,hu,hi⟩,-,hc⟩:=h.get k x hx;exact⟨b,off,cap,u,hv,hlt,hc 0 _ rfl,hc 1 _ rfl,hc 2 _ rfl,hc 3 _ rfl,hu,hi⟩
theorem lH.cell {w:World} {v:Value} {l:List aB} (h:lH w v l) (k:Nat) (x:aB) (hx:l[k]?=some x):∃b off cap u0 u1 u2,v=.slice (some ⟨b,off,none⟩) l.length cap/\b < w.heap.size/\w.cell? ⟨b,off+k * 7,none⟩=some u0/\w.cell? ⟨b,off+k * 7+1,none⟩=some (.int .i64 x.valid) /\
  w.cell? ⟨b,off+k * 7+2,none⟩=some (.int .i64 x.next)/\w.cell? ⟨b,off+k * 7+3,none⟩=some (.int .i64 x.seq)/\w.cell? ⟨b,off+k * 7+4,none⟩=some u1/\w.cell? ⟨b,off+k * 7+5,none⟩=some u2/\w.cell? ⟨b,off+k * 7+6,none⟩=some (.int .i64 x.lost) /\
  Bs w u0 x.name/\jE w u1 x.ah/\jF w u2 x.au/\av x.valid/\av x.next/\av x.seq/\av x.lost:=by
 obtain⟨b,off,cap,c,hv,hlt,⟨u0,u1,u2,rfl,h0,h1,h2,hi⟩,-,hc⟩:=h.get k x hx;exact⟨b,off,cap,u0,u1,u2,hv,hlt,hc 0 _ rfl,hc 1 _ rfl,hc 2 _ rfl,hc 3 _ rfl,hc 4 _ rfl,hc 5 _ rfl,hc 6 _ rfl,h0,h1,h2,hi⟩
/-- How many values a jC, a list of ah, a box, a list of boxes hold. -/
def iq (l:List aL):Nat:=(l.map λm=>m.text.length+1).sum
def bG (b:aB):Nat:=b.name.length+iq b.ah+b.au.length
def GK (l:List aB):Nat:=(l.map λb=>bG b+1).sum
theorem KP {l:List aL} {m:aL} (h:m ∈ l):m.text.length+1<=iq l:=by
 induction l with
 | nil=>cases h
 | cons x l ih =>
  simp only[iq,List.map_cons,List.sum_cons] at ih ⊢;rcases List.mem_cons.1 h with rfl | h
  ·omega
  ·have:=ih h;omega
theorem mG (l:List aL):l.length<=iq l:=by
 induction l with
 | nil=>simp[iq]
 | cons x l ih=>simp only[iq,List.map_cons,List.sum_cons,List.length_cons] at ih ⊢;omega
/- Lists of the call's own whose blocks lie between two; blocks of two, three, four, seven cells. -/
class Fr {α:Type} (E:World->List Value->α->(Nat->Prop)->Prop):Prop where
 out:Frames E
instance:Fr KL:=⟨CX⟩
instance:Fr rQ:=⟨KN⟩
instance:Fr CW:=⟨xZ⟩
instance:Fr gG:=⟨yg⟩
def aZ {α:Type} (t:TypeId) (sz:Nat) (E:World->List Value->α->(Nat->Prop)->Prop) (w:World) (B T:Nat) (v:Value) (l:List α):Prop:=Ow t sz E w (In B T) v l
section
variable {α : Type} {t : TypeId} {sz : Nat} {E : World -> List Value -> α -> (Nat -> Prop) -> Prop} {w w' : World} {B T B' T' g i : Nat} {v x : Value} {l : List α}
theorem aZ.ow (h:aZ t sz E w B T v l):Ow t sz E w (In B T) v l:=h
theorem aZ.wide (h:aZ t sz E w B T v l) (hB:B'<=B) (hT:T<=T'):aZ t sz E w B' T' v l:=Ow.mono h λ_ hb=>⟨Nat.le_trans hB hb.1,Nat.lt_of_lt_of_le hb.2 hT⟩
theorem aZ.below [Fr E] (h:aZ t sz E w B T v l) (hb:Below w.heap.size w w'):aZ t sz E w' B T v l:=Ow.below Fr.out h hb
theorem aZ.set [Fr E] (h:aZ t sz E w B T v l) (hd:g < B\/T<=g):aZ t sz E (w.setCell ⟨g,i,none⟩ x) B T v l :=
 Ow.frame Fr.out h λb hb _=>Below.heap_setCell w ⟨g,i,none⟩ x b (show b≠g by have:=hb.1;have:=hb.2;omega)
theorem aZ.aP (h:aZ t sz E w B T v l):∃a n cap,v=.slice a n cap:=by
 rcases h with⟨rfl,_⟩ | ⟨g,cap,cur,cs,fs,hv,_⟩
 ·exact⟨_,_,_,rfl⟩
 ·exact⟨_,_,_,hv⟩
end
abbrev vS:=aZ 77 4 rQ
abbrev ni:=aZ 115 2 CW
theorem vT {w:World} {g:Nat} {t:TypeId} {c0 c1:Value} (h:w.heap[g]?=some (.cells #[c0,c1] t (0,0))):w.cell? ⟨g,0,none⟩=some c0/\w.cell? ⟨g,1,none⟩=some c1 :=
 ⟨by rw[cell_of_row w g 0 _ t (0,0) h];rfl,by rw[cell_of_row w g 1 _ t (0,0) h];rfl⟩
theorem fU {w:World} {g:Nat} {t:TypeId} {c0 c1 c2:Value} (h:w.heap[g]?=some (.cells #[c0,c1,c2] t (0,0))):w.cell? ⟨g,0,none⟩=some c0/\w.cell? ⟨g,1,none⟩=some c1/\w.cell? ⟨g,2,none⟩=some c2 :=
 ⟨by rw[cell_of_row w g 0 _ t (0,0) h];rfl,by rw[cell_of_row w g 1 _ t (0,0) h];rfl,by rw[cell_of_row w g 2 _ t (0,0) h];rfl⟩
theorem Ac {w:World} {g:Nat} {t:TypeId} {c0 c1 c2 c3:Value} (h:w.heap[g]?=some (.cells #[c0,c1,c2,c3] t (0,0))):w.cell? ⟨g,0,none⟩=some c0/\w.cell? ⟨g,1,none⟩=some c1/\w.cell? ⟨g,2,none⟩=some c2/\w.cell? ⟨g,3,none⟩=some c3 :=
 ⟨by rw[cell_of_row w g 0 _ t (0,0) h];rfl,by rw[cell_of_row w g 1 _ t (0,0) h];rfl,by rw[cell_of_row w g 2 _ t (0,0) h];rfl,by rw[cell_of_row w g 3 _ t (0,0) h];rfl⟩
theorem fV {w:World} {g:Nat} {t:TypeId} {c0 c1 c2 c3 c4 c5 c6:Value} (h:w.heap[g]?=some (.cells #[c0,c1,c2,c3,c4,c5,c6] t (0,0))) :
   w.cell? ⟨g,0,none⟩=some c0/\w.cell? ⟨g,1,none⟩=some c1/\w.cell? ⟨g,2,none⟩=some c2/\w.cell? ⟨g,3,none⟩=some c3/\w.cell? ⟨g,4,none⟩=some c4/\w.cell? ⟨g,5,none⟩=some c5/\w.cell? ⟨g,6,none⟩=some c6 :=
 ⟨by rw[cell_of_row w g 0 _ t (0,0) h];rfl,by rw[cell_of_row w g 1 _ t (0,0) h];rfl,by rw[cell_of_row w g 2 _ t (0,0) h];rfl,by rw[cell_of_row w g 3 _ t (0,0) h];rfl,
  by rw[cell_of_row w g 4 _ t (0,0) h];rfl,by rw[cell_of_row w g 5 _ t (0,0) h];rfl,by rw[cell_of_row w g 6 _ t (0,0) h];rfl⟩
/- A list of the call's own, and one element more put behind it. -/
/-- The list as a row of cells, with what its elements lead to. -/
theorem Ow.row {α:Type} {t:TypeId} {sz:Nat} {E:World->List Value->α->(Nat->Prop)->Prop} {w:World} {B M:Nat} {v:Value} {l:List α} (h:Ow t sz E w (In B M) v l) :
  ∃(xs:List Value) (cs:Nat->List Value) (fs:Nat->Nat->Prop),w.ownsRow B t sz v l.length xs/\(∀g,v.ownBlock=some g->g < M) /\
   (∀i x,l[i]?=some x->E w (cs i) x (fs i)/\(cs i).length=sz/\∀j u,(cs i)[j]?=some u->xs[i * sz+j]?=some u) /\
   (∀i b,i < l.length->fs i b->In B M b/\v.ownBlock≠some b)/\(∀i j b,i < l.length->j < l.length->i≠j->fs i b->¬fs j b):=by
 rcases h with⟨rfl,rfl⟩ | ⟨g,cap,cur,cs,fs,rfl,hh,h1,h2,h3,h4,h5,h6,h7⟩
 ·exact⟨[],λ_=>[],λ_ _=>False,⟨by simp,.inl ⟨rfl,rfl⟩⟩,λg hg=>by simp[Value.ownBlock] at hg,by simp,by simp,by simp⟩
 ·have hle:l.length * sz<=cur.size:=by rw[h3];exact Nat.mul_le_mul_right _ h1
  refine⟨cur.toList.take (l.length * sz),cs,fs,⟨by simp;omega,.inr ⟨g,cap,cur,rfl,h4.1,hh,h1,h2,h3,rfl⟩⟩,λq hq=>?_,λi x hx=>?_,λi b hi hb=>⟨(h6 i b hi hb).1,?_⟩,h7⟩
  ·simp only[Value.ownBlock,Option.some.injEq] at hq
   subst hq;exact h4.2
  ·have hi:i < l.length:=(gs1 hx).1
   obtain⟨e1,e2,e3⟩:=h5 i x hx;refine⟨e1,e2,λj u hu=>?_⟩;have hj:j < sz:=by have:=(gs1 hu).1;omega
   have hb:i * sz+j < l.length * sz:=by
    have:=Nat.mul_le_mul_right sz (show i+1<=l.length by omega);rw[Nat.add_mul,Nat.one_mul] at this;omega
   rw[List.getElem?_take,if_pos hb];simpa using e3 j u hu
  ·simp only[Value.ownBlock,ne_eq,Option.some.injEq]
   exact λe=>(h6 i b hi hb).2 e.symm
/-- One element more: its cells stand behind the row, its footprint lies behind the list's. -/
theorem Ow.push {α:Type} {t:TypeId} {sz:Nat} {E:World->List Value->α->(Nat->Prop)->Prop} {w w':World} {B M:Nat} {v v':Value} {l:List α} (hE:Frames E) (h:Ow t sz E w (In B M) v l) (hM:M<=w.heap.size) (vU:B<=M)
  (x:α) (c:List Value) (hc:c.length=sz) (he:E w c x (In M w.heap.size))
  (hr:∀xs,w.ownsRow B t sz v l.length xs->w'.ownsRow B t sz v' (l.length+1) (xs ++ c)) (hg:w.grownBy w' v.ownBlock)
  (hn:∀g,v'.ownBlock=some g->v.ownBlock=some g\/w.heap.size<=g):Ow t sz E w' (In B w'.heap.size) v' (l ++ [x]):=by
 obtain⟨xs,cs,fs,r1,r2,r3,r4,r5⟩:=h.row;have hlen:=r1.1;obtain⟨k1,k2 | ⟨g,cap,cur,k3,k4,k5,k6,k7,k8,k9⟩⟩:=hr xs r1
 ·exfalso
  have:=k2.2;omega
 ·have hgl:=lt_of_heap k5
  have KQ:=hg.size;have hgo:∀b,b < w.heap.size->v.ownBlock≠some b->w'.heap[b]?=w.heap[b]?:=λb hb hne=>hg.block b hb λe=>hne e.symm;refine .inr ⟨g,cap,cur,λi=>if i=l.length then c else cs i,λi=>if i=l.length then In M w.heap.size else fs i,?_,k5,?_,k7,k8,⟨k4,hgl⟩,λi y hy=>?_,λi b hi hb=>?_,λi j b hi hj hij hb hb'=>?_⟩
  ·rw[k3];simp
  ·simpa using k6
  ·have hxs:∀(m:Nat) (u:Value),(xs ++ c)[m]?=some u->cur[m]?=some u:=by
    intro m u hu;rw[← k9,List.getElem?_take] at hu
    split at hu
    ·simpa using hu
    ·cases hu
   by_cases hi:i=l.length
   ·subst hi
    rw[List.getElem?_append_right (Nat.le_refl _)] at hy;simp only[Nat.sub_self,List.getElem?_cons_zero,Option.some.injEq] at hy;subst hy;simp only[if_true];refine⟨hE _ _ _ _ _ he λb hb hlt=>hgo b hlt λe=>?_,hc,λj u hu=>hxs _ _ ?_⟩
    ·have:=r2 b e
     have:=hb.1;omega
    ·rw[List.getElem?_append_right (by omega),hlen]
     simpa using hu
   ·have hi':i < l.length:=by
     have:=(gs1 hy).1;simp at this;omega
    rw[List.getElem?_append_left hi'] at hy;simp only[if_neg hi];obtain⟨e1,e2,e3⟩:=r3 i y hy;refine⟨hE _ _ _ _ _ e1 λb hb hlt=>hgo b hlt (r4 i b hi' hb).2,e2,λj u hu=>hxs _ _ ?_⟩;have h:=e3 j u hu;have hm:i * sz+j < xs.length:=(gs1 h).1;rw[List.getElem?_append_left hm];exact h
  ·simp only[List.length_append,List.length_cons,List.length_nil] at hi
   by_cases hil:i=l.length
   ·simp only[if_pos hil] at hb
    refine⟨⟨by have:=hb.1;omega,by have:=hb.2;omega⟩,λe=>?_⟩;subst e;rcases hn b (by rw[k3];rfl) with h | h
    ·have:=r2 b h
     have:=hb.1;omega
    ·have:=hb.2
     omega
   ·simp only[if_neg hil] at hb
    have hi':i < l.length:=by omega
    obtain⟨q1,q2⟩:=r4 i b hi' hb;refine⟨⟨q1.1,by have:=q1.2;omega⟩,λe=>?_⟩;subst e;rcases hn b (by rw[k3];rfl) with h | h
    ·exact q2 h
    ·have:=q1.2
     omega
  ·simp only[List.length_append,List.length_cons,List.length_nil] at hi hj
   by_cases hil:i=l.length
   ·have hjl:j≠l.length:=λe=>hij (hil.trans e.symm)
    simp only[if_pos hil] at hb;simp only[if_neg hjl] at hb';have:=(r4 j b (by omega) hb').1.2;have:=hb.1;omega
   ·simp only[if_neg hil] at hb
    by_cases hjl:j=l.length
    ·simp only[if_pos hjl] at hb'
     have:=(r4 i b (by omega) hb).1.2;have:=hb'.1;omega
    ·simp only[if_neg hjl] at hb'
     exact r5 i j b (by omega) (by omega) hij hb hb'
/- One element more put behind a list of the call's own: the operation. -/
section
variable {α : Type} {P : Program} {w : World} {e t : TypeId} {sz bytes B M : Nat} {E : World -> List Value -> α -> (Nat -> Prop) -> Prop} {v : Value} {l : List α}
theorem QC (hE:Frames E) (h:Ow e sz E w (In B M) v l) (hM:M<=w.heap.size) (vU:B<=M) (ty:TypeId) {i:TypeInfo} {z:Value} (ht:P.underlying t=some (.slice e)) (hi:P.info? e=some i) (hz:i.zero=some z) (hsize:i.size=sz) (hby:i.bytes=bytes) (hzs:z.cells.size=sz) (hsz:0 < sz)
  (x:α) (c:List Value) (hc:c.length=sz) (he:E w c x (In M w.heap.size)) (ad:Addr) (cc:Nat) (hcell:∀j u,c[j]?=some u->w.cell? (ad.add j)=some u) (h1:∀u ∈ c,u.oneCell'=true) (hl:l.length+1<=maxLen) (hb:(l.length+1) * bytes<=140737488355328) :
  ∃v' w',(Builtin.append_ #[t,t] ty #[v,.slice (some ad) 1 cc]).run P w=.ok v' w'/\Ow e sz E w' (In B w'.heap.size) v' (l ++ [x])/\w.grownBy w' v.ownBlock/\(∀g,v.ownBlock=some g->B<=g/\g < M):=by
 obtain⟨xs,cs,fs,r1,r2,r3,r4,r5⟩:=h.row;obtain⟨v',w',hr,h2,h3,h4,h5⟩:=run_append_own_at (P:=P) w B t ty e i z sz bytes ht hi hz hsize hby hzs hsz v l.length xs r1 ad 1 cc c (by omega) hcell h1 hl hb (by omega);refine⟨v',w',hr,h.push hE hM vU x c hc he (λys hys=>?_) h3 (λg hg=>?_),h3,λg hg=>⟨?_,r2 g hg⟩⟩
 ·obtain⟨k1,k2⟩:=hys
  obtain⟨m1,m2⟩:=r1;have e:ys=xs:=by
   rcases k2 with⟨k3,k4⟩ | ⟨g,cap,cur,k3,k4,k5,k6,k7,k8,k9⟩
   ·rw[k4,Nat.zero_mul,List.length_eq_zero_iff] at k1
    rw[k4,Nat.zero_mul,List.length_eq_zero_iff] at m1;rw[k1,m1]
   ·rcases m2 with⟨m3,m4⟩ | ⟨g',cap',cur',m3,m4,m5,m6,m7,m8,m9⟩
    ·rw[m3] at k3
     cases k3
    ·rw[m3] at k3
     simp only[Value.slice.injEq,Option.some.injEq,Addr.mk.injEq] at k3;obtain⟨⟨rfl,-⟩,-⟩:=k3;rw[m5] at k5;simp only[Option.some.injEq,Obj.cells.injEq] at k5;obtain⟨rfl,-⟩:=k5;rw[← k9,← m9]
  rw[e];exact h2
 ·rcases h5 with h5 | h5
  ·exact .inl (h5 ▸ hg)
  ·rw[h5] at hg
   exact .inr (by simp only[Option.some.injEq] at hg;omega)
 ·obtain⟨m1,m2⟩:=r1
  rcases m2 with⟨m3,m4⟩ | ⟨g',cap',cur',m3,m4,m5,m6,m7,m8,m9⟩
  ·rw[m3] at hg
   simp[Value.ownBlock] at hg
  ·rw[m3] at hg
   simp only[Value.ownBlock,Option.some.injEq] at hg;omega
/-- The operation in a region that draws. -/
theorem CY {o:Oper} {a:Act} {K:Act->World->Prop} {Q:Exit->Act->World->Prop} (d:Nat) (hd:o.dst=some d) (s y:Operand)
  (ho:o.op=.call { callee:=.builtin .append,args:=#[s,y],argTypes:=#[t,t] }) (hE:Frames E) (h:Ow e sz E w (In B M) v l) (hM:M<=w.heap.size) (vU:B<=M) {i:TypeInfo} {z:Value} (ht:P.underlying t=some (.slice e)) (hi:P.info? e=some i) (hz:i.zero=some z) (hsize:i.size=sz) (hby:i.bytes=bytes) (hzs:z.cells.size=sz) (hsz:0 < sz)
  (hs:a.eval s=v) (x:α) (c:List Value) (hc:c.length=sz) (he:E w c x (In M w.heap.size)) (ad:Addr) (cc:Nat) (hy:a.eval y=.slice (some ad) 1 cc) (hcell:∀j u,c[j]?=some u->w.cell? (ad.add j)=some u) (h1:∀u ∈ c,u.oneCell'=true) (hl:l.length+1<=maxLen) (hb:(l.length+1) * bytes<=140737488355328)
  (k:∀v' w',Ow e sz E w' (In B w'.heap.size) v' (l ++ [x])->w.grownBy w' v.ownBlock->(∀g,v.ownBlock=some g->B<=g/\g < M)->K (a.put (some d) v') w'):o.wp P a w K Q:=by
 obtain⟨v',w',hr,h2,h3,h4⟩:=QC (P:=P) (t:=t) hE h hM vU o.type ht hi hz hsize hby hzs hsz x c hc he ad cc hcell h1 hl hb;unfold Oper.wp execOp;simp only[ho,resolve,invoke,builtin,Sem.run_bind,Sem.run_pure,Result.andThen_ok,List.map_toArray,List.map_cons,List.map_nil,hs,hy,hr];have:=k v' w' h2 h3 h4;rw[← hd] at this;exact this
/-- The operation in a region that goes in the text's order. -/
theorem GL {ops:Array Oper} {rest:List Oper} {o:Oper} {a:Act} {Q:Exit->Act->World->Prop} (hgd:o.guard=none) (s y:Operand)
  (ho:o.op=.call { callee:=.builtin .append,args:=#[s,y],argTypes:=#[t,t] }) (hE:Frames E) (h:Ow e sz E w (In B M) v l) (hM:M<=w.heap.size) (vU:B<=M) {i:TypeInfo} {z:Value} (ht:P.underlying t=some (.slice e)) (hi:P.info? e=some i) (hz:i.zero=some z) (hsize:i.size=sz) (hby:i.bytes=bytes) (hzs:z.cells.size=sz) (hsz:0 < sz)
  (hs:a.eval s=v) (x:α) (c:List Value) (hc:c.length=sz) (he:E w c x (In M w.heap.size)) (ad:Addr) (cc:Nat) (hy:a.eval y=.slice (some ad) 1 cc) (hcell:∀j u,c[j]?=some u->w.cell? (ad.add j)=some u) (h1:∀u ∈ c,u.oneCell'=true) (hl:l.length+1<=maxLen) (hb:(l.length+1) * bytes<=140737488355328)
  (k:∀v' w',Ow e sz E w' (In B w'.heap.size) v' (l ++ [x])->w.grownBy w' v.ownBlock->(∀g,v.ownBlock=some g->B<=g/\g < M)->wpList P ops Q rest (a.put o.dst v') w'):wpList P ops Q (o :: rest) a w:=by
 refine wpList_plain hgd λK hK=>?_;obtain⟨v',w',hr,h2,h3,h4⟩:=QC (P:=P) (t:=t) hE h hM vU o.type ht hi hz hsize hby hzs hsz x c hc he ad cc hcell h1 hl hb;unfold Oper.wp execOp;simp only[ho,resolve,invoke,builtin,Sem.run_bind,Sem.run_pure,Result.andThen_ok,List.map_toArray,List.map_cons,List.map_nil,hs,hy,hr];exact hK _ _ (k v' w' h2 h3 h4)
end
theorem eZ {c:Bool} {A B:Prop} (hc:c=true) (h:A):if c=true then A else B:=by rw[if_pos hc];exact h
/-- What is new by one element stands in its block. -/
theorem oU (w:World) (cs:Array Value) (t:TypeId):∀j u,cs.toList[j]?=some u->(w.alloc (.cells cs t)).cell? ((⟨w.heap.size,0,none⟩:Addr).add j)=some u:=by
 intro j u hu;have h:=aW w (.cells cs t);rw[Addr.add_lit,Nat.zero_add,cell_of_row _ _ _ _ _ (0,0) h];simpa using hu
/-- What lies below the list stays. -/
theorem Ad {w0 w w':World} {v:Value} {N B:Nat} (h0:Below N w0 w) (hg:w.grownBy w' v.ownBlock) (hv:∀g,v.ownBlock=some g->B<=g) (hB:N<=B) (hN:N<=w.heap.size):Below N w0 w' :=
 ⟨hg.os.trans h0.os,hg.tape.trans h0.tape,hg.output.trans h0.output,Nat.le_trans h0.size hg.size,λk hk=>(hg.block k (by omega) λe=>by have:=hv k e.symm;omega).trans (h0.block k hk)⟩
theorem mH {w w':World} {v:Value} {B g:Nat} {o:Obj} (hg:w.grownBy w' v.ownBlock) (hv:∀g,v.ownBlock=some g->B<=g) (h:w.heap[g]?=some o) (hB:g < B):w'.heap[g]?=some o :=
 (hg.block g (lt_of_heap h) λe=>by have:=hv g e.symm;omega).trans h
/- What ajm of package laws does. -/
/- What ajn, ajo of package laws do. -/
theorem GN:(Tryz.prog.info? 77).map (λi=>(i.zero,i.size,i.bytes))=some (some (.agg #[.int .i64 0,.int .i64 0,.int .i64 0,.slice none 0 0]),4,48):=by kernel_rfl
/- What ajp, ajq of package laws do. -/
theorem GQ:(Tryz.prog.info? 115).map (λi=>(i.zero,i.size,i.bytes))=some (some (.agg #[.int .i64 0,.int .i64 0]),2,16):=by kernel_rfl
/- What ajr, ajs of package laws do. -/
theorem KR:(Tryz.prog.info? 70).map (λi=>(i.zero,i.size,i.bytes))=some (some (.agg #[.slice none 0 0,.int .i64 0,.int .i64 0,.int .i64 0,.slice none 0 0,.slice none 0 0,.int .i64 0]),7,104):=by kernel_rfl
/- What ajt, aju of package laws do. -/
theorem QD:(Tryz.prog.info? 3).map (λi=>(i.zero,i.size,i.bytes))=some (some (.int .i64 0),1,8):=by kernel_rfl
/- What may be: boxes and accounts, as plain data. -/
/-- The bytes of a list of numbers; which of two comes first. -/
def jG (l:List Int):List UInt8:=l.map λn=>UInt8.ofNat n.toNat
def ku (l m:List Int):Bool:=Op.bytesLess (jG l) (jG m)
theorem QE:∀(a b:List UInt8),decide (0<=Lib.compareBytes a b) = !Op.bytesLess a b
 | [],[]=>rfl
 | [],_ :: _=>rfl
 | _ :: _,[]=>rfl
 | a :: x,b :: y=>by
  have ih:=QE x y;unfold Lib.compareBytes Op.bytesLess
  by_cases h1:a < b
  ·simp[h1]
  ·by_cases h2:b < a
   ·have hne:(a == b)=false:=by simp;intro e;subst e;exact absurd h2 (UInt8.lt_irrefl _)
    simp[h1,h2,hne]
   ·have he:a=b:=UInt8.le_antisymm (UInt8.not_lt.1 h2) (UInt8.not_lt.1 h1)
    subst he;simp only[h1,if_false,decide_false,Bool.false_or,BEq.rfl,Bool.true_and];exact ih
theorem CZ {n:Nat} {f:Nat->Bool} (h:∀j,j < n->f j=true):(List.range n).all f=true:=by
 rw[List.all_eq_true];intro j hj;exact h j (List.mem_range.1 hj)
theorem lJ {n:Nat} {f:Nat->Bool} (j:Nat) (hj:j < n) (h:f j=false):(List.range n).all f=false:=by
 rw[List.all_eq_false];exact⟨j,List.mem_range.2 hj,by simp[h]⟩
def rR (l:List Int):Nat->Int
 | 0=>0
 | i+1=>l.getD i 0
def seenAt (l:List Int) (i:Nat):Bool:=aQ (l.getD i 0) (rR l i+1) 1000000
def vV (l:List Int):Bool:=decide (l.length<=60) && (List.range l.length).all (seenAt l)
theorem Zx {l:List Int} {k:Nat} (hk:k<=l.length) (h:∀j,j < k->seenAt l j=true):0<=rR l k/\rR l k<=1000000/\(0 < k->1<=rR l k):=by
 induction k with
 | zero=>simp[rR]
 | succ k ih =>
  have h1:=ih (by omega) (λj hj=>h j (by omega));have h2:=h k (by omega);simp only[seenAt,aQ,Bool.and_eq_true,decide_eq_true_eq] at h2;simp only[rR];omega
def rT (l:List aL):Nat->Int
 | 0=>0
 | i+1=>match l[i]? with | some m=>m.uid | none=>0
def yj (b:aB) (i:Nat):Bool:=match b.ah[i]? with
 | some m=>aQ m.uid (rT b.ah i+1) (b.next - 1) && (aQ m.flags 0 31 && (aQ m.seq 1 b.seq && jP m.text))
 | none=>true
def vW (b:aB):Bool:=decide (b.ah.length<=12) && (List.range b.ah.length).all (yj b)
theorem Zy {b:aB} {k:Nat} (hn:b.next<=1000000) (hk:k<=b.ah.length) (h:∀j,j < k->yj b j=true):0<=rT b.ah k/\rT b.ah k<=1000000:=by
 induction k with
 | zero=>simp[rT]
 | succ k ih =>
  have h1:=ih (by omega) (λj hj=>h j (by omega));have h2:=h k (by omega);obtain⟨m,hm⟩:∃m,b.ah[k]?=some m:=⟨b.ah[k]'(by omega),bK (by omega)⟩;simp only[yj,hm,aQ,Bool.and_eq_true,decide_eq_true_eq] at h2;simp only[rT,hm];omega
def minS (b:aB):Nat->Int
 | 0=>max 1 b.lost
 | i+1=>match b.au[i]? with | some g=>g.seq | none=>0
def vX (b:aB) (i:Nat):Bool:=match b.au[i]? with
 | some g=>aQ g.uid 1 (b.next - 1) && (aQ g.seq (minS b i) b.seq && (!(b.ah.any λm=>decide (m.uid=g.uid)) && !((b.au.take i).any λo=>decide (o.uid=g.uid))))
 | none=>true
def vY (b:aB):Bool:=decide (b.au.length<=40) && (List.range b.au.length).all (vX b)
def Da (b:aB) (valid:Int):Bool:=gF b.name && (aQ b.valid 1 valid && (aQ b.next 1 1000000 && (aQ b.seq 0 1000000 && (aQ b.lost 0 b.seq && (vW b && vY b)))))
def nameAt (l:List aB) (i:Nat):List Int:=match l[i]? with | some b=>b.name | none=>[]
def Db (l:List aB) (b:aB):Nat->Bool
 | 0=>true
 | i+1=>ku (nameAt l i) b.name
def Ae (a:aT) (i:Nat):Bool:=match a.boxes[i]? with
 | some b=>Da b a.valid && (Db a.boxes b i && !((a.boxes.take i).any λo=>decide (o.valid=b.valid)))
 | none=>true
def Dc (a:aT):Bool:=aQ a.valid 0 1000000 && (decide (a.boxes.length<=4) && (vV a.seen && (List.range a.boxes.length).all (Ae a)))
/- Accounts as bytes, on lists. -/
/- There and back: numbers and texts come back from their bytes, and bytes that are read are just the bytes of what was read. -/
theorem Zz (f i:Nat) (n0 sc n:Int) (r:List Int) (h0:0<=n) (h1:n < 128 * 128 ^ f) (hi:0 < i->0 < n) (hm:n0+n * sc<=2147483647) (hn0:0<=n0) (hs:0<=sc) :
  dec (f+1) i n0 sc (enc f n ++ r)=some (n0+n * sc,i+(enc f n).length):=by
 induction f generalizing i n0 sc n with
 | zero =>
  have hx:n < 128:=by simpa using h1
  have e:n % 128=n:=by omega
  simp only[enc,List.singleton_append,dec,e];rw[if_pos hx,if_neg (by omega)];simp
 | succ f ih =>
  by_cases hb:127 < n
  ·rw[Y9 f n hb]
   simp only[List.cons_append,dec];have e:n0+(n % 128+128) % 128 * sc+n / 128 * (sc * 128)=n0+n * sc:=by
    have h1:(n % 128+128) % 128=n % 128:=by omega
    have h2:n=n % 128+128 * (n / 128):=by omega
    rw[h1];generalize n % 128=a at *
    generalize n / 128=b at *
    subst h2;rw[Int.add_mul,Int.mul_comm sc 128,← Int.mul_assoc,Int.mul_comm b 128,Int.add_assoc]
   have hp:n < 128 * (128 ^ f * 128):=by rw[← Int.pow_succ];exact h1
   rw[if_neg (by omega),ih (i+1) _ (sc * 128) (n / 128) (by omega) (by omega) (λ_=>by omega) (by omega) (by have:=Int.mul_nonneg (show 0<=(n % 128+128) % 128 by omega) hs;omega) (by omega),e];simp;omega
  ·have e:n % 128=n:=by omega
   rw[Za _ n hb];simp only[List.singleton_append,dec,e];rw[if_pos (by omega),if_neg (by omega)];simp
theorem ZA (b r:List Int):(b ++ r).drop b.length=r:=by simp
theorem get_put (b r:List Int) (n:Int) (h0:0<=n) (h1:n<=2147483647):Qo (b ++ enc 4 n ++ r) b.length=(n,((b ++ enc 4 n).length:Int)):=by
 unfold Qo;rw[if_neg (by omega),Int.toNat_natCast,List.append_assoc,ZA,Zz 4 0 0 1 n r h0 (by omega) (λh=>absurd h (by omega)) (by omega) (by omega) (by omega)];simp[Qn]
/- What bytes.Equal and ajv of package impl do. -/
theorem QF:∀ {l m:List Int},Oct l->Oct m->jG l=jG m->l=m
 | [],[],_,_,_=>rfl
 | [],_ :: _,_,_,h=>by simp[jG] at h
 | _ :: _,[],_,_,h=>by simp[jG] at h
 | x :: l,y :: m,hl,hm,h=>by
  simp only[jG,List.map_cons,List.cons.injEq] at h;have hx:=hl x (by simp);have hy:=hm y (by simp);have h1:x=y:=by
   have:=congrArg UInt8.toNat h.1;simp only[UInt8.toNat_ofNat'] at this;rw[Nat.mod_eq_of_lt (by omega),Nat.mod_eq_of_lt (by omega)] at this;omega
  rw[h1,QF (λz hz=>hl z (by simp[hz])) (λz hz=>hm z (by simp[hz])) h.2]
theorem KS (l:List Int):(strOfNums l).toList=jG l:=by
 rw[ByteArray.toList_eq];rfl
theorem str_eq {l m:List Int} (hl:Oct l) (hm:Oct m):((strOfNums l).toList == (strOfNums m).toList)=decide (l=m):=by
 rw[KS,KS,Bool.eq_iff_iff];simp only[beq_iff_eq,decide_eq_true_eq];exact⟨QF hl hm,λh=>by rw[h]⟩
/- What a store leaves of the world. -/
theorem KT (w:World) (p:Addr) (v:Value):(w.setCell p v).os=w.os:=rfl
theorem KU (w:World) (p:Addr) (v:Value):(w.setCell p v).tape=w.tape:=rfl
theorem KV (w:World) (p:Addr) (v:Value):(w.setCell p v).output=w.output:=rfl
/- Commands that are zero. -/
/-- A command that is zero, by its numbers and lengths. -/
def zC (k:Int) (nb nt:Nat) (uid mode fl si:Int) (nx:Nat):Bool:=decide (k=0/\nb=0/\nt=0/\uid=0/\mode=0/\fl=0/\si=0/\nx=0)
def QG (c:gP):Bool:=zC c.k c.bx.length c.tt.length c.uid c.mode c.fl c.si c.tx.length
def QH (c:gP):Bool:=qO c.k c.bx c.tt c.uid c.mode c.fl c.si c.tx
end Go.Proofs.YtfabngnaejjcmaaGreatDoor
