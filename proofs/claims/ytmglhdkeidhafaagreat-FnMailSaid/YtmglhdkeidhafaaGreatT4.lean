/- The proof's texts, part 4. -/
import Derived.Test.YtmglhdkeidhafaaGreatT2
import Derived.Maps.AppendAt
import Derived.Test.YtmglhdkeidhafaaGreatT3
import Derived.Lib.Bytealg
import Derived.Lib.ItoaNum
namespace Go.Proofs.YtmglhdkeidhafaaGreat
open Go.RowKit
set_option linter.unusedVariables false
/- DU, boxes and accounts in memory: what they read as, and those of the call's own. -/
structure aC where
 uid:Int
 flags:Int
 seq:Int
 text:List Int
structure bB where
 uid:Int
 seq:Int
structure aA where
 name:List Int
 valid:Int
 next:Int
 seq:Int
 ah:List aC
 au:List bB
 lost:Int
structure aF where
 valid:Int
 boxes:List aA
 seen:List Int
/-- A row of bytes of the call's own whose block lies in S. -/
def RO (w:World) (S:Nat→Prop) (v:Value) (l:List Int):Prop:=Oct l∧w.ownsRow 0 5 1 v l.length (vals l)∧∀ g,v.ownBlock=some g→S g
theorem Row.ro {w:World} {B T:Nat} {v:Value} {l:List Int} (h:Row w B T v l):RO w (In B T) v l :=
 ⟨h.1,(h.wide (B':=0) (T':=T) (Nat.zero_le _) (Nat.le_refl _)).2.1,fun g hg=>⟨(h.2.1.lt g hg).1,h.2.2 g hg⟩⟩
theorem RO.bs {w:World} {S:Nat→Prop} {v:Value} {l:List Int} (h:RO w S v l):Bs w v l:=(GK h.1 rfl h.2.1).elim fun _ h=>h.2.bs
theorem RO.mono {w:World} {S S':Nat→Prop} {v:Value} {l:List Int} (h:RO w S v l) (hS:∀ b,S b→S' b):RO w S' v l:=⟨h.1,h.2.1,fun g hg=>hS g (h.2.2 g hg)⟩
theorem RO.frame {w w':World} {S:Nat→Prop} {v:Value} {l:List Int} (h:RO w S v l) (hw:∀ b,S b→b < w.heap.size→w'.heap[b]?=w.heap[b]?):RO w' S v l:=by
 refine ⟨h.1,⟨h.2.1.1,?_⟩,h.2.2⟩
 rcases h.2.1.2 with hn | ⟨g,cap,cur,hv,hg,hh,r⟩
 ·exact .inl hn
 ·exact .inr ⟨g,cap,cur,hv,hg,(hw g (h.2.2 g (by rw [hv];rfl)) (lt_of_heap hh)).trans hh,r⟩
theorem RO.below {w w':World} {S:Nat→Prop} {v:Value} {l:List Int} (h:RO w S v l) (hb:Below w.heap.size w w'):RO w' S v l:=h.frame fun b _ hlt=>hb.block b hlt
theorem RO.nil (w:World) (S:Nat→Prop):RO w S (.slice none 0 0) []:=⟨Af,World.ownsRow_nil _ _ _ _,fun g hg=>by simp [Value.ownBlock] at hg⟩
def DW (_:World) (c:List Value) (n:Int):Prop:=c=[.int .i64 n]∧ay n
def yQ (w:World) (c:List Value) (m:aC):Prop:=∃ u,c=[.int .i64 m.uid,.int .i64 m.flags,.int .i64 m.seq,u]∧Bs w u m.text∧ay m.uid∧ay m.flags∧ay m.seq
def wW (_:World) (c:List Value) (m:bB):Prop:=c=[.int .i64 m.uid,.int .i64 m.seq]∧ay m.uid∧ay m.seq
abbrev oZ:=Rd 1 DW
abbrev eT:=Rd 4 yQ
abbrev dD:=Rd 2 wW
def wX (w:World) (c:List Value) (b:aA):Prop :=
 ∃ u0 u1 u2,c=[u0,.int .i64 b.valid,.int .i64 b.next,.int .i64 b.seq,u1,u2,.int .i64 b.lost]∧Bs w u0 b.name∧eT w u1 b.ah∧dD w u2 b.au∧ay b.valid∧ay b.next∧ay b.seq∧ay b.lost
abbrev gJ:=Rd 7 wX
theorem DX:Keeps DW:=fun _ _ _ _ _ h=>h
theorem gU:Keeps wW:=fun _ _ _ _ _ h=>h
theorem iG:Keeps yQ:=fun _ _ _ _ hb h=>let ⟨u,h0,h1,r⟩:=h;⟨u,h0,h1.below hb,r⟩
theorem tK:Keeps wX:=fun _ _ _ _ hb h=>let ⟨u0,u1,u2,h0,h1,h2,h3,r⟩:=h;⟨u0,u1,u2,h0,h1.below hb,h2.below iG hb,h3.below gU hb,r⟩
def G9 (_:World) (c:List Value) (n:Int) (_:Nat→Prop):Prop:=c=[.int .i64 n]∧ay n
def mQ (w:World) (c:List Value) (m:aC) (S:Nat→Prop):Prop:=∃ u,c=[.int .i64 m.uid,.int .i64 m.flags,.int .i64 m.seq,u]∧RO w S u m.text∧ay m.uid∧ay m.flags∧ay m.seq
def Az (_:World) (c:List Value) (m:bB) (_:Nat→Prop):Prop:=c=[.int .i64 m.uid,.int .i64 m.seq]∧ay m.uid∧ay m.seq
theorem tL:Frames G9:=fun _ _ _ _ _ h _=>h
theorem nT:Frames Az:=fun _ _ _ _ _ h _=>h
theorem qw:Frames mQ:=fun _ _ _ _ _ h hw=>let ⟨u,h0,h1,r⟩:=h;⟨u,h0,h1.frame hw,r⟩
abbrev eY:=Ow 3 1 G9
abbrev wY:=Ow 72 4 mQ
abbrev iY:=Ow 70 2 Az
def fI (w:World) (c:List Value) (b:aA) (S:Nat→Prop):Prop :=
 ∃ u0 u1 u2 S0 S1 S2,c=[u0,.int .i64 b.valid,.int .i64 b.next,.int .i64 b.seq,u1,u2,.int .i64 b.lost]∧RO w S0 u0 b.name∧wY w S1 u1 b.ah∧iY w S2 u2 b.au∧(∀ x,S0 x→S x∧¬ S1 x∧¬ S2 x)∧(∀ x,S1 x→S x∧¬ S2 x)∧(∀ x,S2 x→S x) ∧
  ay b.valid∧ay b.next∧ay b.seq∧ay b.lost
theorem jN:Frames fI:=fun _ _ _ _ _ h hw =>
 let ⟨u0,u1,u2,S0,S1,S2,h0,h1,h2,h3,d0,d1,d2,r⟩:=h
 ⟨u0,u1,u2,S0,S1,S2,h0,h1.frame fun b hb=>hw b (d0 b hb).1,h2.frame qw fun b hb=>hw b (d1 b hb).1,h3.frame nT fun b hb=>hw b (d2 b hb),d0,d1,d2,r⟩
abbrev wZ:=Ow 34 7 fI
theorem mQ.rd {w:World} {c:List Value} {m:aC} {S:Nat→Prop} (h:mQ w c m S):yQ w c m:=let ⟨u,h0,h1,r⟩:=h;⟨u,h0,h1.bs,r⟩
theorem fI.rd {w:World} {c:List Value} {b:aA} {S:Nat→Prop} (h:fI w c b S):wX w c b :=
 let ⟨u0,u1,u2,_,_,_,h0,h1,h2,h3,_,_,_,r⟩:=h;⟨u0,u1,u2,h0,h1.bs,h2.rd fun _ _ _ _=>mQ.rd,h3.rd fun _ _ _ _ h=>h,r⟩
def iw (w:World) (v:Value) (a:aF):Prop:=∃ u0 u1,v=.agg #[.int .i64 a.valid,u0,u1]∧gJ w u0 a.boxes∧oZ w u1 a.seen∧ay a.valid
theorem iw.below {w w':World} {v:Value} {a:aF} (h:iw w v a) (hb:Below w.heap.size w w'):iw w' v a:=let ⟨u0,u1,h0,h1,h2,r⟩:=h;⟨u0,u1,h0,h1.below tK hb,h2.below DX hb,r⟩
def tN (w:World) (S:Nat→Prop) (v:Value) (a:aF):Prop:=∃ u0 u1 S0 S1,v=.agg #[.int .i64 a.valid,u0,u1]∧wZ w S0 u0 a.boxes∧eY w S1 u1 a.seen∧(∀ x,S0 x→S x∧¬ S1 x)∧(∀ x,S1 x→S x)∧ay a.valid
theorem tN.v {w:World} {S:Nat→Prop} {v:Value} {a:aF} (h:tN w S v a):iw w v a :=
 let ⟨u0,u1,_,_,h0,h1,h2,_,_,r⟩:=h;⟨u0,u1,h0,h1.rd fun _ _ _ _=>fI.rd,h2.rd fun _ _ _ _ h=>h,r⟩
theorem tN.frame {w w':World} {S:Nat→Prop} {v:Value} {a:aF} (h:tN w S v a) (hw:∀ b,S b→b < w.heap.size→w'.heap[b]?=w.heap[b]?):tN w' S v a :=
 let ⟨u0,u1,S0,S1,h0,h1,h2,d0,d1,r⟩:=h;⟨u0,u1,S0,S1,h0,h1.frame jN fun b hb=>hw b (d0 b hb).1,h2.frame tL fun b hb=>hw b (d1 b hb),d0,d1,r⟩
theorem tN.below {w w':World} {S:Nat→Prop} {v:Value} {a:aF} (h:tN w S v a) (hb:Below w.heap.size w w'):tN w' S v a:=h.frame fun b _ hlt=>hb.block b hlt
/-- A box as a value. -/
def bI (w:World) (v:Value) (b:aA):Prop :=
 ∃ u0 u1 u2,v=.agg #[u0,.int .i64 b.valid,.int .i64 b.next,.int .i64 b.seq,u1,u2,.int .i64 b.lost]∧Bs w u0 b.name∧eT w u1 b.ah∧dD w u2 b.au∧ay b.valid∧ay b.next∧ay b.seq∧ay b.lost
theorem bI.below {w w':World} {v:Value} {b:aA} (h:bI w v b) (hb:Below w.heap.size w w'):bI w' v b:=let ⟨u0,u1,u2,h0,h1,h2,h3,r⟩:=h;⟨u0,u1,u2,h0,h1.below hb,h2.below iG hb,h3.below gU hb,r⟩
def xk (w:World) (S:Nat→Prop) (v:Value) (b:aA):Prop:=∃ c,v=.agg c.toArray∧fI w c b S
theorem xk.v {w:World} {S:Nat→Prop} {v:Value} {b:aA} (h:xk w S v b):bI w v b:=by
 obtain ⟨c,rfl,h⟩:=h
 obtain ⟨u0,u1,u2,rfl,r⟩:=h.rd
 exact ⟨u0,u1,u2,rfl,r⟩
def iA (w:World) (v:Value) (m:aC):Prop:=∃ u,v=.agg #[.int .i64 m.uid,.int .i64 m.flags,.int .i64 m.seq,u]∧Bs w u m.text∧ay m.uid∧ay m.flags∧ay m.seq
theorem iA.below {w w':World} {v:Value} {m:aC} (h:iA w v m) (hb:Below w.heap.size w w'):iA w' v m:=let ⟨u,h0,h1,r⟩:=h;⟨u,h0,h1.below hb,r⟩
/-- One element's cells, as the walk asks for them. -/
theorem oZ.cell {w:World} {v:Value} {l:List Int} (h:oZ w v l) (k:Nat) (x:Int) (hx:l[k]?=some x):∃ b off cap,v=.slice (some ⟨b,off,none⟩) l.length cap∧b < w.heap.size∧w.cell? ⟨b,off+k,none⟩=some (.int .i64 x)∧ay x:=by
 obtain ⟨b,off,cap,c,hv,hlt,⟨rfl,hi⟩,-,hc⟩:=h.get k x hx
 exact ⟨b,off,cap,hv,hlt,by simpa using hc 0 _ rfl,hi⟩
theorem dD.cell {w:World} {v:Value} {l:List bB} (h:dD w v l) (k:Nat) (x:bB) (hx:l[k]?=some x):∃ b off cap,v=.slice (some ⟨b,off,none⟩) l.length cap∧b < w.heap.size∧w.cell? ⟨b,off+k * 2,none⟩=some (.int .i64 x.uid)∧w.cell? ⟨b,off+k * 2+1,none⟩=some (.int .i64 x.seq)∧ay x.uid∧ay x.seq:=by
 obtain ⟨b,off,cap,c,hv,hlt,⟨rfl,hi⟩,-,hc⟩:=h.get k x hx
 exact ⟨b,off,cap,hv,hlt,hc 0 _ rfl,hc 1 _ rfl,hi⟩
theorem eT.cell {w:World} {v:Value} {l:List aC} (h:eT w v l) (k:Nat) (x:aC) (hx:l[k]?=some x):∃ b off cap u,v=.slice (some ⟨b,off,none⟩) l.length cap∧b < w.heap.size∧w.cell? ⟨b,off+k * 4,none⟩=some (.int .i64 x.uid)∧w.cell? ⟨b,off+k * 4+1,none⟩=some (.int .i64 x.flags) ∧
  w.cell? ⟨b,off+k * 4+2,none⟩=some (.int .i64 x.seq)∧w.cell? ⟨b,off+k * 4+3,none⟩=some u∧Bs w u x.text∧ay x.uid∧ay x.flags∧ay x.seq:=by
 obtain ⟨b,off,cap,c,hv,hlt,⟨u,rfl,hu,hi⟩,-,hc⟩:=h.get k x hx
 exact ⟨b,off,cap,u,hv,hlt,hc 0 _ rfl,hc 1 _ rfl,hc 2 _ rfl,hc 3 _ rfl,hu,hi⟩
theorem gJ.cell {w:World} {v:Value} {l:List aA} (h:gJ w v l) (k:Nat) (x:aA) (hx:l[k]?=some x):∃ b off cap u0 u1 u2,v=.slice (some ⟨b,off,none⟩) l.length cap∧b < w.heap.size∧w.cell? ⟨b,off+k * 7,none⟩=some u0∧w.cell? ⟨b,off+k * 7+1,none⟩=some (.int .i64 x.valid) ∧
  w.cell? ⟨b,off+k * 7+2,none⟩=some (.int .i64 x.next)∧w.cell? ⟨b,off+k * 7+3,none⟩=some (.int .i64 x.seq)∧w.cell? ⟨b,off+k * 7+4,none⟩=some u1∧w.cell? ⟨b,off+k * 7+5,none⟩=some u2∧w.cell? ⟨b,off+k * 7+6,none⟩=some (.int .i64 x.lost) ∧
  Bs w u0 x.name∧eT w u1 x.ah∧dD w u2 x.au∧ay x.valid∧ay x.next∧ay x.seq∧ay x.lost:=by
 obtain ⟨b,off,cap,c,hv,hlt,⟨u0,u1,u2,rfl,h0,h1,h2,hi⟩,-,hc⟩:=h.get k x hx
 exact ⟨b,off,cap,u0,u1,u2,hv,hlt,hc 0 _ rfl,hc 1 _ rfl,hc 2 _ rfl,hc 3 _ rfl,hc 4 _ rfl,hc 5 _ rfl,hc 6 _ rfl,h0,h1,h2,hi⟩
/-- How many values a dV, a list of ah, a box, a list of boxes hold. -/
def iB (l:List aC):Nat:=(l.map fun m=>m.text.length+1).sum
def bT (b:aA):Nat:=b.name.length+iB b.ah+b.au.length
def DY (l:List aA):Nat:=(l.map fun b=>bT b+1).sum
theorem He {l:List aC} {m:aC} (h:m ∈ l):m.text.length+1≤iB l:=by
 induction l with
 | nil=>cases h
 | cons x l ih =>
  simp only [iB,List.map_cons,List.sum_cons] at ih ⊢
  rcases List.mem_cons.1 h with rfl | h
  ·omega
  ·have:=ih h;omega
theorem lF (l:List aC):l.length≤iB l:=by
 induction l with
 | nil=>simp [iB]
 | cons x l ih=>simp only [iB,List.map_cons,List.sum_cons,List.length_cons] at ih ⊢;omega
/- Lists of the call's own whose blocks lie between two; blocks of two, three, four, seven cells. -/
class Fr {α:Type} (E:World→List Value→α→(Nat→Prop)→Prop):Prop where
 out:Frames E
instance:Fr G9:=⟨tL⟩
instance:Fr mQ:=⟨qw⟩
instance:Fr Az:=⟨nT⟩
instance:Fr fI:=⟨jN⟩
def cZ {α:Type} (t:TypeId) (sz:Nat) (E:World→List Value→α→(Nat→Prop)→Prop) (w:World) (B T:Nat) (v:Value) (l:List α):Prop:=Ow t sz E w (In B T) v l
section
variable {α : Type} {t : TypeId} {sz : Nat} {E : World → List Value → α → (Nat → Prop) → Prop} {w w' : World} {B T B' T' g i : Nat} {v x : Value} {l : List α}
theorem cZ.ow (h:cZ t sz E w B T v l):Ow t sz E w (In B T) v l:=h
theorem cZ.wide (h:cZ t sz E w B T v l) (hB:B'≤B) (hT:T≤T'):cZ t sz E w B' T' v l:=Ow.mono h fun _ hb=>⟨Nat.le_trans hB hb.1,Nat.lt_of_lt_of_le hb.2 hT⟩
theorem cZ.below [Fr E] (h:cZ t sz E w B T v l) (hb:Below w.heap.size w w'):cZ t sz E w' B T v l:=Ow.below Fr.out h hb
theorem cZ.set [Fr E] (h:cZ t sz E w B T v l) (hd:g < B∨T≤g):cZ t sz E (w.setCell ⟨g,i,none⟩ x) B T v l :=
 Ow.frame Fr.out h fun b hb _=>Below.heap_setCell w ⟨g,i,none⟩ x b (show b≠g by have:=hb.1;have:=hb.2;omega)
theorem cZ.aG (h:cZ t sz E w B T v l):∃ a n cap,v=.slice a n cap:=by
 rcases h with ⟨rfl,_⟩ | ⟨g,cap,cur,cs,fs,hv,_⟩
 ·exact ⟨_,_,_,rfl⟩
 ·exact ⟨_,_,_,hv⟩
end
abbrev vw:=cZ 72 4 mQ
abbrev lZ:=cZ 70 2 Az
theorem qy {w:World} {g:Nat} {t:TypeId} {c0 c1:Value} (h:w.heap[g]?=some (.cells #[c0,c1] t (0,0))):w.cell? ⟨g,0,none⟩=some c0∧w.cell? ⟨g,1,none⟩=some c1 :=
 ⟨by rw [cell_of_row w g 0 _ t (0,0) h];rfl,by rw [cell_of_row w g 1 _ t (0,0) h];rfl⟩
theorem bM {w:World} {g:Nat} {t:TypeId} {c0 c1 c2:Value} (h:w.heap[g]?=some (.cells #[c0,c1,c2] t (0,0))):w.cell? ⟨g,0,none⟩=some c0∧w.cell? ⟨g,1,none⟩=some c1∧w.cell? ⟨g,2,none⟩=some c2 :=
 ⟨by rw [cell_of_row w g 0 _ t (0,0) h];rfl,by rw [cell_of_row w g 1 _ t (0,0) h];rfl,by rw [cell_of_row w g 2 _ t (0,0) h];rfl⟩
theorem iZ {w:World} {g:Nat} {t:TypeId} {c0 c1 c2 c3:Value} (h:w.heap[g]?=some (.cells #[c0,c1,c2,c3] t (0,0))):w.cell? ⟨g,0,none⟩=some c0∧w.cell? ⟨g,1,none⟩=some c1∧w.cell? ⟨g,2,none⟩=some c2∧w.cell? ⟨g,3,none⟩=some c3 :=
 ⟨by rw [cell_of_row w g 0 _ t (0,0) h];rfl,by rw [cell_of_row w g 1 _ t (0,0) h];rfl,by rw [cell_of_row w g 2 _ t (0,0) h];rfl,by rw [cell_of_row w g 3 _ t (0,0) h];rfl⟩
theorem bU {w:World} {g:Nat} {t:TypeId} {c0 c1 c2 c3 c4 c5 c6:Value} (h:w.heap[g]?=some (.cells #[c0,c1,c2,c3,c4,c5,c6] t (0,0))) :
   w.cell? ⟨g,0,none⟩=some c0∧w.cell? ⟨g,1,none⟩=some c1∧w.cell? ⟨g,2,none⟩=some c2∧w.cell? ⟨g,3,none⟩=some c3∧w.cell? ⟨g,4,none⟩=some c4∧w.cell? ⟨g,5,none⟩=some c5∧w.cell? ⟨g,6,none⟩=some c6 :=
 ⟨by rw [cell_of_row w g 0 _ t (0,0) h];rfl,by rw [cell_of_row w g 1 _ t (0,0) h];rfl,by rw [cell_of_row w g 2 _ t (0,0) h];rfl,by rw [cell_of_row w g 3 _ t (0,0) h];rfl,
  by rw [cell_of_row w g 4 _ t (0,0) h];rfl,by rw [cell_of_row w g 5 _ t (0,0) h];rfl,by rw [cell_of_row w g 6 _ t (0,0) h];rfl⟩
/- A list of the call's own, and one element more put behind it. -/
/-- The list as a row of cells, with what its elements lead to. -/
theorem Ow.row {α:Type} {t:TypeId} {sz:Nat} {E:World→List Value→α→(Nat→Prop)→Prop} {w:World} {B M:Nat} {v:Value} {l:List α} (h:Ow t sz E w (In B M) v l) :
  ∃ (xs:List Value) (cs:Nat→List Value) (fs:Nat→Nat→Prop),w.ownsRow B t sz v l.length xs∧(∀ g,v.ownBlock=some g→g < M) ∧
   (∀ i x,l[i]?=some x→E w (cs i) x (fs i)∧(cs i).length=sz∧∀ j u,(cs i)[j]?=some u→xs[i * sz+j]?=some u) ∧
   (∀ i b,i < l.length→fs i b→In B M b∧v.ownBlock≠some b)∧(∀ i j b,i < l.length→j < l.length→i≠j→fs i b→¬ fs j b):=by
 rcases h with ⟨rfl,rfl⟩ | ⟨g,cap,cur,cs,fs,rfl,hh,h1,h2,h3,h4,h5,h6,h7⟩
 ·exact ⟨[],fun _=>[],fun _ _=>False,⟨by simp,.inl ⟨rfl,rfl⟩⟩,fun g hg=>by simp [Value.ownBlock] at hg,by simp,by simp,by simp⟩
 ·have hle:l.length * sz≤cur.size:=by rw [h3];exact Nat.mul_le_mul_right _ h1
  refine ⟨cur.toList.take (l.length * sz),cs,fs,⟨by simp;omega,.inr ⟨g,cap,cur,rfl,h4.1,hh,h1,h2,h3,rfl⟩⟩,fun q hq=>?_,fun i x hx=>?_,fun i b hi hb=>⟨(h6 i b hi hb).1,?_⟩,h7⟩
  ·simp only [Value.ownBlock,Option.some.injEq] at hq
   subst hq
   exact h4.2
  ·have hi:i < l.length:=(gs1 hx).1
   obtain ⟨e1,e2,e3⟩:=h5 i x hx
   refine ⟨e1,e2,fun j u hu=>?_⟩
   have hj:j < sz:=by have:=(gs1 hu).1;omega
   have hb:i * sz+j < l.length * sz:=by
    have:=Nat.mul_le_mul_right sz (show i+1≤l.length by omega)
    rw [Nat.add_mul,Nat.one_mul] at this
    omega
   rw [List.getElem?_take,if_pos hb]
   simpa using e3 j u hu
  ·simp only [Value.ownBlock,ne_eq,Option.some.injEq]
   exact fun e=>(h6 i b hi hb).2 e.symm
/-- One element more: its cells stand behind the row, its footprint lies behind the list's. -/
theorem Ow.push {α:Type} {t:TypeId} {sz:Nat} {E:World→List Value→α→(Nat→Prop)→Prop} {w w':World} {B M:Nat} {v v':Value} {l:List α} (hE:Frames E) (h:Ow t sz E w (In B M) v l) (hM:M≤w.heap.size) (qA:B≤M)
  (x:α) (c:List Value) (hc:c.length=sz) (he:E w c x (In M w.heap.size))
  (hr:∀ xs,w.ownsRow B t sz v l.length xs→w'.ownsRow B t sz v' (l.length+1) (xs ++ c)) (hg:w.grownBy w' v.ownBlock)
  (hn:∀ g,v'.ownBlock=some g→v.ownBlock=some g∨w.heap.size≤g):Ow t sz E w' (In B w'.heap.size) v' (l ++ [x]):=by
 obtain ⟨xs,cs,fs,r1,r2,r3,r4,r5⟩:=h.row
 have hlen:=r1.1
 obtain ⟨k1,k2 | ⟨g,cap,cur,k3,k4,k5,k6,k7,k8,k9⟩⟩:=hr xs r1
 ·exfalso
  have:=k2.2
  omega
 ·have hgl:=lt_of_heap k5
  have DZ:=hg.size
  have hgo:∀ b,b < w.heap.size→v.ownBlock≠some b→w'.heap[b]?=w.heap[b]?:=fun b hb hne=>hg.block b hb fun e=>hne e.symm
  refine .inr ⟨g,cap,cur,fun i=>if i=l.length then c else cs i,fun i=>if i=l.length then In M w.heap.size else fs i,?_,k5,?_,k7,k8,⟨k4,hgl⟩,fun i y hy=>?_,fun i b hi hb=>?_,fun i j b hi hj hij hb hb'=>?_⟩
  ·rw [k3];simp
  ·simpa using k6
  ·have hxs:∀ (m:Nat) (u:Value),(xs ++ c)[m]?=some u→cur[m]?=some u:=by
    intro m u hu
    rw [← k9,List.getElem?_take] at hu
    split at hu
    ·simpa using hu
    ·cases hu
   by_cases hi:i=l.length
   ·subst hi
    rw [List.getElem?_append_right (Nat.le_refl _)] at hy
    simp only [Nat.sub_self,List.getElem?_cons_zero,Option.some.injEq] at hy
    subst hy
    simp only [if_true]
    refine ⟨hE _ _ _ _ _ he fun b hb hlt=>hgo b hlt fun e=>?_,hc,fun j u hu=>hxs _ _ ?_⟩
    ·have:=r2 b e
     have:=hb.1
     omega
    ·rw [List.getElem?_append_right (by omega),hlen]
     simpa using hu
   ·have hi':i < l.length:=by
     have:=(gs1 hy).1
     simp at this
     omega
    rw [List.getElem?_append_left hi'] at hy
    simp only [if_neg hi]
    obtain ⟨e1,e2,e3⟩:=r3 i y hy
    refine ⟨hE _ _ _ _ _ e1 fun b hb hlt=>hgo b hlt (r4 i b hi' hb).2,e2,fun j u hu=>hxs _ _ ?_⟩
    have h:=e3 j u hu
    have hm:i * sz+j < xs.length:=(gs1 h).1
    rw [List.getElem?_append_left hm]
    exact h
  ·simp only [List.length_append,List.length_cons,List.length_nil] at hi
   by_cases hil:i=l.length
   ·simp only [if_pos hil] at hb
    refine ⟨⟨by have:=hb.1;omega,by have:=hb.2;omega⟩,fun e=>?_⟩
    subst e
    rcases hn b (by rw [k3];rfl) with h | h
    ·have:=r2 b h
     have:=hb.1
     omega
    ·have:=hb.2
     omega
   ·simp only [if_neg hil] at hb
    have hi':i < l.length:=by omega
    obtain ⟨q1,q2⟩:=r4 i b hi' hb
    refine ⟨⟨q1.1,by have:=q1.2;omega⟩,fun e=>?_⟩
    subst e
    rcases hn b (by rw [k3];rfl) with h | h
    ·exact q2 h
    ·have:=q1.2
     omega
  ·simp only [List.length_append,List.length_cons,List.length_nil] at hi hj
   by_cases hil:i=l.length
   ·have hjl:j≠l.length:=fun e=>hij (hil.trans e.symm)
    simp only [if_pos hil] at hb
    simp only [if_neg hjl] at hb'
    have:=(r4 j b (by omega) hb').1.2
    have:=hb.1
    omega
   ·simp only [if_neg hil] at hb
    by_cases hjl:j=l.length
    ·simp only [if_pos hjl] at hb'
     have:=(r4 i b (by omega) hb).1.2
     have:=hb'.1
     omega
    ·simp only [if_neg hjl] at hb'
     exact r5 i j b (by omega) (by omega) hij hb hb'
/- One element more put behind a list of the call's own: the operation. -/
section
variable {α : Type} {P : Program} {w : World} {e t : TypeId} {sz bytes B M : Nat} {E : World → List Value → α → (Nat → Prop) → Prop} {v : Value} {l : List α}
theorem M7 (hE:Frames E) (h:Ow e sz E w (In B M) v l) (hM:M≤w.heap.size) (qA:B≤M) (ty:TypeId) {i:TypeInfo} {z:Value} (ht:P.underlying t=some (.slice e)) (hi:P.info? e=some i) (hz:i.zero=some z) (hsize:i.size=sz) (hby:i.bytes=bytes) (hzs:z.cells.size=sz) (hsz:0 < sz)
  (x:α) (c:List Value) (hc:c.length=sz) (he:E w c x (In M w.heap.size)) (ad:Addr) (cc:Nat) (hcell:∀ j u,c[j]?=some u→w.cell? (ad.add j)=some u) (h1:∀ u ∈ c,u.oneCell'=true) (hl:l.length+1≤maxLen) (hb:(l.length+1) * bytes≤140737488355328) :
  ∃ v' w',(Builtin.append_ #[t,t] ty #[v,.slice (some ad) 1 cc]).run P w=.ok v' w'∧Ow e sz E w' (In B w'.heap.size) v' (l ++ [x])∧w.grownBy w' v.ownBlock∧(∀ g,v.ownBlock=some g→B≤g∧g < M):=by
 obtain ⟨xs,cs,fs,r1,r2,r3,r4,r5⟩:=h.row
 obtain ⟨v',w',hr,h2,h3,h4,h5⟩:=run_append_own_at (P:=P) w B t ty e i z sz bytes ht hi hz hsize hby hzs hsz v l.length xs r1 ad 1 cc c (by omega) hcell h1 hl hb (by omega)
 refine ⟨v',w',hr,h.push hE hM qA x c hc he (fun ys hys=>?_) h3 (fun g hg=>?_),h3,fun g hg=>⟨?_,r2 g hg⟩⟩
 ·obtain ⟨k1,k2⟩:=hys
  obtain ⟨m1,m2⟩:=r1
  have e:ys=xs:=by
   rcases k2 with ⟨k3,k4⟩ | ⟨g,cap,cur,k3,k4,k5,k6,k7,k8,k9⟩
   ·rw [k4,Nat.zero_mul,List.length_eq_zero_iff] at k1
    rw [k4,Nat.zero_mul,List.length_eq_zero_iff] at m1
    rw [k1,m1]
   ·rcases m2 with ⟨m3,m4⟩ | ⟨g',cap',cur',m3,m4,m5,m6,m7,m8,m9⟩
    ·rw [m3] at k3
     cases k3
    ·rw [m3] at k3
     simp only [Value.slice.injEq,Option.some.injEq,Addr.mk.injEq] at k3
     obtain ⟨⟨rfl,-⟩,-⟩:=k3
     rw [m5] at k5
     simp only [Option.some.injEq,Obj.cells.injEq] at k5
     obtain ⟨rfl,-⟩:=k5
     rw [← k9,← m9]
  rw [e]
  exact h2
 ·rcases h5 with h5 | h5
  ·exact .inl (h5 ▸ hg)
  ·rw [h5] at hg
   exact .inr (by simp only [Option.some.injEq] at hg;omega)
 ·obtain ⟨m1,m2⟩:=r1
  rcases m2 with ⟨m3,m4⟩ | ⟨g',cap',cur',m3,m4,m5,m6,m7,m8,m9⟩
  ·rw [m3] at hg
   simp [Value.ownBlock] at hg
  ·rw [m3] at hg
   simp only [Value.ownBlock,Option.some.injEq] at hg
   omega
/-- The operation in a region that draws. -/
theorem AA {o:Oper} {a:Act} {K:Act→World→Prop} {Q:Exit→Act→World→Prop} (d:Nat) (hd:o.dst=some d) (s y:Operand)
  (ho:o.op=.call { callee:=.builtin .append,args:=#[s,y],argTypes:=#[t,t] }) (hE:Frames E) (h:Ow e sz E w (In B M) v l) (hM:M≤w.heap.size) (qA:B≤M) {i:TypeInfo} {z:Value} (ht:P.underlying t=some (.slice e)) (hi:P.info? e=some i) (hz:i.zero=some z) (hsize:i.size=sz) (hby:i.bytes=bytes) (hzs:z.cells.size=sz) (hsz:0 < sz)
  (hs:a.eval s=v) (x:α) (c:List Value) (hc:c.length=sz) (he:E w c x (In M w.heap.size)) (ad:Addr) (cc:Nat) (hy:a.eval y=.slice (some ad) 1 cc) (hcell:∀ j u,c[j]?=some u→w.cell? (ad.add j)=some u) (h1:∀ u ∈ c,u.oneCell'=true) (hl:l.length+1≤maxLen) (hb:(l.length+1) * bytes≤140737488355328)
  (k:∀ v' w',Ow e sz E w' (In B w'.heap.size) v' (l ++ [x])→w.grownBy w' v.ownBlock→(∀ g,v.ownBlock=some g→B≤g∧g < M)→K (a.put (some d) v') w'):o.wp P a w K Q:=by
 obtain ⟨v',w',hr,h2,h3,h4⟩:=M7 (P:=P) (t:=t) hE h hM qA o.type ht hi hz hsize hby hzs hsz x c hc he ad cc hcell h1 hl hb
 unfold Oper.wp execOp
 simp only [ho,resolve,invoke,builtin,Sem.run_bind,Sem.run_pure,Result.andThen_ok,List.map_toArray,List.map_cons,List.map_nil,hs,hy,hr]
 have:=k v' w' h2 h3 h4
 rw [← hd] at this
 exact this
/-- The operation in a region that goes in the text's order. -/
theorem yR {ops:Array Oper} {rest:List Oper} {o:Oper} {a:Act} {Q:Exit→Act→World→Prop} (hgd:o.guard=none) (s y:Operand)
  (ho:o.op=.call { callee:=.builtin .append,args:=#[s,y],argTypes:=#[t,t] }) (hE:Frames E) (h:Ow e sz E w (In B M) v l) (hM:M≤w.heap.size) (qA:B≤M) {i:TypeInfo} {z:Value} (ht:P.underlying t=some (.slice e)) (hi:P.info? e=some i) (hz:i.zero=some z) (hsize:i.size=sz) (hby:i.bytes=bytes) (hzs:z.cells.size=sz) (hsz:0 < sz)
  (hs:a.eval s=v) (x:α) (c:List Value) (hc:c.length=sz) (he:E w c x (In M w.heap.size)) (ad:Addr) (cc:Nat) (hy:a.eval y=.slice (some ad) 1 cc) (hcell:∀ j u,c[j]?=some u→w.cell? (ad.add j)=some u) (h1:∀ u ∈ c,u.oneCell'=true) (hl:l.length+1≤maxLen) (hb:(l.length+1) * bytes≤140737488355328)
  (k:∀ v' w',Ow e sz E w' (In B w'.heap.size) v' (l ++ [x])→w.grownBy w' v.ownBlock→(∀ g,v.ownBlock=some g→B≤g∧g < M)→wpList P ops Q rest (a.put o.dst v') w'):wpList P ops Q (o :: rest) a w:=by
 refine wpList_plain hgd fun K hK=>?_
 obtain ⟨v',w',hr,h2,h3,h4⟩:=M7 (P:=P) (t:=t) hE h hM qA o.type ht hi hz hsize hby hzs hsz x c hc he ad cc hcell h1 hl hb
 unfold Oper.wp execOp
 simp only [ho,resolve,invoke,builtin,Sem.run_bind,Sem.run_pure,Result.andThen_ok,List.map_toArray,List.map_cons,List.map_nil,hs,hy,hr]
 exact hK _ _ (k v' w' h2 h3 h4)
end
theorem dR {c:Bool} {A B:Prop} (hc:c=true) (h:A):if c=true then A else B:=by rw [if_pos hc];exact h
/-- What is new by one element stands in its block. -/
theorem kH (w:World) (cs:Array Value) (t:TypeId):∀ j u,cs.toList[j]?=some u→(w.alloc (.cells cs t)).cell? ((⟨w.heap.size,0,none⟩:Addr).add j)=some u:=by
 intro j u hu
 have h:=aW w (.cells cs t)
 rw [Addr.add_lit,Nat.zero_add,cell_of_row _ _ _ _ _ (0,0) h]
 simpa using hu
/-- What lies below the list stays. -/
theorem rD {w0 w w':World} {v:Value} {N B:Nat} (h0:Below N w0 w) (hg:w.grownBy w' v.ownBlock) (hv:∀ g,v.ownBlock=some g→B≤g) (hB:N≤B) (hN:N≤w.heap.size):Below N w0 w' :=
 ⟨hg.os.trans h0.os,hg.tape.trans h0.tape,hg.output.trans h0.output,Nat.le_trans h0.size hg.size,fun k hk=>(hg.block k (by omega) fun e=>by have:=hv k e.symm;omega).trans (h0.block k hk)⟩
theorem l5 {w w':World} {v:Value} {B g:Nat} {o:Obj} (hg:w.grownBy w' v.ownBlock) (hv:∀ g,v.ownBlock=some g→B≤g) (h:w.heap[g]?=some o) (hB:g < B):w'.heap[g]?=some o :=
 (hg.block g (lt_of_heap h) fun e=>by have:=hv g e.symm;omega).trans h
/- What may be: boxes and accounts, as plain data. -/
/-- The bytes of a list of numbers; which of two comes first. -/
def dN (l:List Int):List UInt8:=l.map fun n=>UInt8.ofNat n.toNat
def bV (l m:List Int):Bool:=Op.bytesLess (dN l) (dN m)
theorem Ea:∀ (a b:List UInt8),decide (0≤Lib.compareBytes a b) = !Op.bytesLess a b
 | [],[]=>rfl
 | [],_ :: _=>rfl
 | _ :: _,[]=>rfl
 | a :: x,b :: y=>by
  have ih:=Ea x y
  unfold Lib.compareBytes Op.bytesLess
  by_cases h1:a < b
  ·simp [h1]
  ·by_cases h2:b < a
   ·have hne:(a == b)=false:=by simp;intro e;subst e;exact absurd h2 (UInt8.lt_irrefl _)
    simp [h1,h2,hne]
   ·have he:a=b:=UInt8.le_antisymm (UInt8.not_lt.1 h2) (UInt8.not_lt.1 h1)
    subst he
    simp only [h1,if_false,decide_false,Bool.false_or,BEq.rfl,Bool.true_and]
    exact ih
theorem tO {n:Nat} {f:Nat→Bool} (h:∀ j,j < n→f j=true):(List.range n).all f=true:=by
 rw [List.all_eq_true];intro j hj;exact h j (List.mem_range.1 hj)
theorem iH {n:Nat} {f:Nat→Bool} (j:Nat) (hj:j < n) (h:f j=false):(List.range n).all f=false:=by
 rw [List.all_eq_false];exact ⟨j,List.mem_range.2 hj,by simp [h]⟩
def mR (l:List Int):Nat→Int
 | 0=>0
 | i+1=>l.getD i 0
def seenAt (l:List Int) (i:Nat):Bool:=aM (l.getD i 0) (mR l i+1) 1000000
def nU (l:List Int):Bool:=decide (l.length≤60) && (List.range l.length).all (seenAt l)
theorem M8 {l:List Int} {k:Nat} (hk:k≤l.length) (h:∀ j,j < k→seenAt l j=true):0≤mR l k∧mR l k≤1000000∧(0 < k→1≤mR l k):=by
 induction k with
 | zero=>simp [mR]
 | succ k ih =>
  have h1:=ih (by omega) (fun j hj=>h j (by omega))
  have h2:=h k (by omega)
  simp only [seenAt,aM,Bool.and_eq_true,decide_eq_true_eq] at h2
  simp only [mR]
  omega
def jW (l:List aC):Nat→Int
 | 0=>0
 | i+1=>match l[i]? with | some m=>m.uid | none=>0
def lG (b:aA) (i:Nat):Bool:=match b.ah[i]? with
 | some m=>aM m.uid (jW b.ah i+1) (b.next - 1) && (aM m.flags 0 31 && (aM m.seq 1 b.seq && dU m.text))
 | none=>true
def mU (b:aA):Bool:=decide (b.ah.length≤12) && (List.range b.ah.length).all (lG b)
theorem M9 {b:aA} {k:Nat} (hn:b.next≤1000000) (hk:k≤b.ah.length) (h:∀ j,j < k→lG b j=true):0≤jW b.ah k∧jW b.ah k≤1000000:=by
 induction k with
 | zero=>simp [jW]
 | succ k ih =>
  have h1:=ih (by omega) (fun j hj=>h j (by omega))
  have h2:=h k (by omega)
  obtain ⟨m,hm⟩:∃ m,b.ah[k]?=some m:=⟨b.ah[k]'(by omega),aL (by omega)⟩
  simp only [lG,hm,aM,Bool.and_eq_true,decide_eq_true_eq] at h2
  simp only [jW,hm]
  omega
def minS (b:aA):Nat→Int
 | 0=>max 1 b.lost
 | i+1=>match b.au[i]? with | some g=>g.seq | none=>0
def jO (b:aA) (i:Nat):Bool:=match b.au[i]? with
 | some g=>aM g.uid 1 (b.next - 1) && (aM g.seq (minS b i) b.seq && (!(b.ah.any fun m=>decide (m.uid=g.uid)) && !((b.au.take i).any fun o=>decide (o.uid=g.uid))))
 | none=>true
def l7 (b:aA):Bool:=decide (b.au.length≤40) && (List.range b.au.length).all (jO b)
theorem Hf {b:aA} {k:Nat} (hk:k≤b.au.length) (h:∀ j,j < k→jO b j=true):1≤minS b k∧b.lost≤minS b k:=by
 induction k with
 | zero=>simp only [minS];omega
 | succ k ih =>
  have h1:=ih (by omega) (fun j hj=>h j (by omega))
  have h2:=h k (by omega)
  obtain ⟨m,hm⟩:∃ m,b.au[k]?=some m:=⟨b.au[k]'(by omega),aL (by omega)⟩
  simp only [jO,hm,aM,Bool.and_eq_true,decide_eq_true_eq] at h2
  simp only [minS,hm]
  omega
def gB (b:aA) (valid:Int):Bool:=bG b.name && (aM b.valid 1 valid && (aM b.next 1 1000000 && (aM b.seq 0 1000000 && (aM b.lost 0 b.seq && (mU b && l7 b)))))
def nameAt (l:List aA) (i:Nat):List Int:=match l[i]? with | some b=>b.name | none=>[]
def mV (l:List aA) (b:aA):Nat→Bool
 | 0=>true
 | i+1=>bV (nameAt l i) b.name
def nV (a:aF) (i:Nat):Bool:=match a.boxes[i]? with
 | some b=>gB b a.valid && (mV a.boxes b i && !((a.boxes.take i).any fun o=>decide (o.valid=b.valid)))
 | none=>true
def fA (a:aF):Bool:=aM a.valid 0 1000000 && (decide (a.boxes.length≤4) && (nU a.seen && (List.range a.boxes.length).all (nV a)))
/- Numbers, flags and texts as lines have them, on lists. -/
/- Accounts as bytes, on lists. -/
/- There and back: numbers and texts come back from their bytes, and bytes that are read are just the bytes of what was read. -/
/- What aeN, aeO of package laws do. -/
theorem AJ:(Tryz.prog.info? 72).map (fun i=>(i.zero,i.size,i.bytes))=some (some (.agg #[.int .i64 0,.int .i64 0,.int .i64 0,.slice none 0 0]),4,48):=by kernel_rfl
/- What aeP, aeQ of package laws do. -/
theorem yS:(Tryz.prog.info? 70).map (fun i=>(i.zero,i.size,i.bytes))=some (some (.agg #[.int .i64 0,.int .i64 0]),2,16):=by kernel_rfl
/- What aeR, aeS of package laws do. -/
theorem xq:(Tryz.prog.info? 34).map (fun i=>(i.zero,i.size,i.bytes))=some (some (.agg #[.slice none 0 0,.int .i64 0,.int .i64 0,.int .i64 0,.slice none 0 0,.slice none 0 0,.int .i64 0]),7,104):=by kernel_rfl
/- Vj and rows of names in memory: what they read as, and those of the call's own. -/
structure dI where
 code:Int
 num:Int
 box:aA
 names:List (List Int)
def Hg (w:World) (c:List Value) (l:List Int):Prop:=∃ u,c=[u]∧Bs w u l
abbrev Eb:=Rd 1 Hg
theorem Vk:Keeps Hg:=fun _ _ _ _ hb h=>let ⟨u,h0,h1⟩:=h;⟨u,h0,h1.below hb⟩
def tQ (w:World) (c:List Value) (l:List Int) (S:Nat→Prop):Prop:=∃ u,c=[u]∧RO w S u l
theorem mW:Frames tQ:=fun _ _ _ _ _ h hw=>let ⟨u,h0,h1⟩:=h;⟨u,h0,h1.frame hw⟩
instance:Fr tQ:=⟨mW⟩
abbrev rE:=Ow 22 1 tQ
theorem tQ.rd {w:World} {c:List Value} {l:List Int} {S:Nat→Prop} (h:tQ w c l S):Hg w c l:=let ⟨u,h0,h1⟩:=h;⟨u,h0,h1.bs⟩
theorem Eb.cell {w:World} {v:Value} {l:List (List Int)} (h:Eb w v l) (k:Nat) (x:List Int) (hx:l[k]?=some x):∃ b off cap u,v=.slice (some ⟨b,off,none⟩) l.length cap∧b < w.heap.size∧w.cell? ⟨b,off+k,none⟩=some u∧Bs w u x:=by
 obtain ⟨b,off,cap,c,hv,hlt,⟨u,rfl,hi⟩,-,hc⟩:=h.get k x hx
 exact ⟨b,off,cap,u,hv,hlt,by simpa using hc 0 _ rfl,hi⟩
/-- The value v reads as a reply. -/
def nW (w:World) (v:Value) (x:dI):Prop:=∃ u0 u1 u2 u3,v=.agg #[.int .i64 x.code,.int .i64 x.num,u0,.int .i64 x.box.valid,.int .i64 x.box.next,.int .i64 x.box.seq,u1,u2,.int .i64 x.box.lost,u3]∧bI w (.agg #[u0,.int .i64 x.box.valid,.int .i64 x.box.next,.int .i64 x.box.seq,u1,u2,.int .i64 x.box.lost]) x.box∧Eb w u3 x.names∧ay x.code∧ay x.num
theorem nW.below {w w':World} {v:Value} {x:dI} (h:nW w v x) (hb:Below w.heap.size w w'):nW w' v x :=
 let ⟨u0,u1,u2,u3,h0,h1,h2,i⟩:=h;⟨u0,u1,u2,u3,h0,h1.below hb,h2.below Vk hb,i⟩
/-- A reply of the call's own in blocks from B on and below T. -/
def dX (w:World) (B T:Nat) (v:Value) (x:dI):Prop :=
 ∃ u0 u1 u2 u3 T0,v=.agg #[.int .i64 x.code,.int .i64 x.num,u0,.int .i64 x.box.valid,.int .i64 x.box.next,.int .i64 x.box.seq,u1,u2,.int .i64 x.box.lost,u3]∧fI w [u0,.int .i64 x.box.valid,.int .i64 x.box.next,.int .i64 x.box.seq,u1,u2,.int .i64 x.box.lost] x.box (In B T0)∧rE w (In T0 T) u3 x.names∧B≤T0∧T0≤T∧ay x.code∧ay x.num
theorem fI.wide {w:World} {c:List Value} {b:aA} {S S':Nat→Prop} (h:fI w c b S) (hS:∀ x,S x→S' x):fI w c b S' :=
 let ⟨u0,u1,u2,S0,S1,S2,h0,h1,h2,h3,d0,d1,d2,r⟩:=h
 ⟨u0,u1,u2,S0,S1,S2,h0,h1,h2,h3,fun x hx=>⟨hS x (d0 x hx).1,(d0 x hx).2⟩,fun x hx=>⟨hS x (d1 x hx).1,(d1 x hx).2⟩,fun x hx=>hS x (d2 x hx),r⟩
theorem fI.set {w:World} {g i B T:Nat} {c:List Value} {x:Value} {b:aA} (h:fI w c b (In B T)) (hd:g < B∨T≤g):fI (w.setCell ⟨g,i,none⟩ x) c b (In B T) :=
 jN _ _ _ _ _ h fun b hb hlt=>Below.heap_setCell _ _ _ _ (by have:=hb.1;have:=hb.2;show b≠g;omega)
section
variable {w w' : World} {B T B' T' : Nat} {v : Value} {y : dI}
theorem dX.rv (h:dX w B T v y):nW w v y:=by
 obtain ⟨u0,u1,u2,u3,T0,h0,h1,h2,-,-,i⟩:=h
 obtain ⟨p0,p1,p2,e,q⟩:=h1.rd
 simp only [List.cons.injEq,and_true,true_and] at e
 obtain ⟨rfl,rfl,rfl⟩:=e
 exact ⟨u0,u1,u2,u3,h0,⟨_,_,_,rfl,q⟩,h2.rd fun _ _ _ _=>tQ.rd,i⟩
theorem dX.below (h:dX w B T v y) (hb:Below w.heap.size w w'):dX w' B T v y :=
 let ⟨u0,u1,u2,u3,T0,h0,h1,h2,r⟩:=h;⟨u0,u1,u2,u3,T0,h0,jN _ _ _ _ _ h1 fun b _ hlt=>hb.block b hlt,h2.below mW hb,r⟩
theorem dX.wide (h:dX w B T v y) (hB:B'≤B) (hT:T≤T'):dX w B' T' v y :=
 let ⟨u0,u1,u2,u3,T0,h0,h1,h2,j0,j1,i⟩:=h
 ⟨u0,u1,u2,u3,T0,h0,h1.wide fun x hx=>⟨Nat.le_trans hB hx.1,hx.2⟩,h2.mono fun x hx=>⟨hx.1,Nat.lt_of_lt_of_le hx.2 hT⟩,by omega,by omega,i⟩
end
theorem aO {w:World} {g:Nat} {t:TypeId} {c0 c1 c2 c3 c4 c5 c6 c7 c8 c9:Value} (h:w.heap[g]?=some (.cells #[c0,c1,c2,c3,c4,c5,c6,c7,c8,c9] t (0,0))) :
  w.cell? ⟨g,0,none⟩=some c0∧w.cell? ⟨g,1,none⟩=some c1∧w.cell? ⟨g,2,none⟩=some c2∧w.cell? ⟨g,3,none⟩=some c3∧w.cell? ⟨g,4,none⟩=some c4∧w.cell? ⟨g,5,none⟩=some c5∧w.cell? ⟨g,6,none⟩=some c6∧w.cell? ⟨g,7,none⟩=some c7∧w.cell? ⟨g,8,none⟩=some c8∧w.cell? ⟨g,9,none⟩=some c9 :=
 ⟨by rw [cell_of_row w g 0 _ t (0,0) h];rfl,by rw [cell_of_row w g 1 _ t (0,0) h];rfl,by rw [cell_of_row w g 2 _ t (0,0) h];rfl,by rw [cell_of_row w g 3 _ t (0,0) h];rfl,by rw [cell_of_row w g 4 _ t (0,0) h];rfl,by rw [cell_of_row w g 5 _ t (0,0) h];rfl,by rw [cell_of_row w g 6 _ t (0,0) h];rfl,by rw [cell_of_row w g 7 _ t (0,0) h];rfl,by rw [cell_of_row w g 8 _ t (0,0) h];rfl,by rw [cell_of_row w g 9 _ t (0,0) h];rfl⟩
/-- A Vl shape laid open, and its parts. -/
theorem nW.form {w:World} {v:Value} {x:dI} (h:nW w v x):∃ a0 n0 c0 a1 c1 a2 c2 a3 c3,v=.agg #[.int .i64 x.code,.int .i64 x.num,.slice a0 n0 c0,.int .i64 x.box.valid,.int .i64 x.box.next,.int .i64 x.box.seq,.slice a1 x.box.ah.length c1,.slice a2 x.box.au.length c2,.int .i64 x.box.lost,.slice a3 x.names.length c3]:=by
 obtain ⟨u0,u1,u2,u3,rfl,⟨p0,p1,p2,e,q0,q1,q2,-⟩,q3,-⟩:=h
 simp only [Value.agg.injEq,Array.mk.injEq,List.cons.injEq,and_true,true_and] at e
 obtain ⟨rfl,rfl,rfl⟩:=e
 obtain ⟨a0,n0,c0,rfl⟩:=q0.aG
 obtain ⟨a1,c1,rfl,-⟩:=q1.form
 obtain ⟨a2,c2,rfl,-⟩:=q2.form
 obtain ⟨a3,c3,rfl,-⟩:=q3.form
 exact ⟨_,_,_,_,_,_,_,_,_,rfl⟩
theorem nW.parts {w:World} {z0 z1 z2 z3:Value} {x:dI} (h:nW w (.agg #[.int .i64 x.code,.int .i64 x.num,z0,.int .i64 x.box.valid,.int .i64 x.box.next,.int .i64 x.box.seq,z1,z2,.int .i64 x.box.lost,z3]) x):bI w (.agg #[z0,.int .i64 x.box.valid,.int .i64 x.box.next,.int .i64 x.box.seq,z1,z2,.int .i64 x.box.lost]) x.box∧Eb w z3 x.names∧ay x.code∧ay x.num:=by
 obtain ⟨u0,u1,u2,u3,e,h1,h2,i⟩:=h
 simp only [Value.agg.injEq,Array.mk.injEq,List.cons.injEq,and_true,true_and] at e
 obtain ⟨rfl,rfl,rfl,rfl⟩:=e
 exact ⟨h1,h2,i⟩
/- What aeT, aeU of package laws do. -/
theorem Hl:(Tryz.prog.info? 3).map (fun i=>(i.zero,i.size,i.bytes))=some (some (.int .i64 0),1,8):=by kernel_rfl
/- Commands as data. -/
structure dS where
 k:Int
 bx:List Int
 tt:List Int
 uid:Int
 mode:Int
 fl:Int
 si:Int
 tx:List Int
theorem lV.set {w:World} {g i B T:Nat} {v x:Value} {k:Int} {bx tt:List Int} {uid mode fl si:Int} {tx:List Int} (h:lV w B T v k bx tt uid mode fl si tx) (hd:g < B∨T≤g):lV (w.setCell ⟨g,i,none⟩ x) B T v k bx tt uid mode fl si tx :=
 let ⟨u0,u1,u2,T0,T1,hv,h0,h1,h2,r0,r1,r2,r⟩:=h;⟨u0,u1,u2,T0,T1,hv,h0.set (by omega),h1.set (by omega),h2.set (by omega),r0,r1,r2,r⟩
end Go.Proofs.YtmglhdkeidhafaaGreat
