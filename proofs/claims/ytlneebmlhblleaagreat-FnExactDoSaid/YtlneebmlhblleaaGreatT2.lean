/- The proof's texts, part 2. -/
import Derived.Test.YtlneebmlhblleaaGreatT0
import Derived.WalkKit
import Derived.WalkSpells
import Derived.WalkLawsBesides
import Derived.Laws.AppendOwnNone
namespace Go.Proofs.YtlneebmlhblleaaGreat
open Go.RowKit
/- Plain facts on bytes in memory: what a slice reads as, what a call owns; no program is named here. -/
/-- Every number of the list is a byte. -/
def Oct (l:List Int):Prop:=∀ x ∈ l,0≤x∧x≤255
/-- The cells of a list of bytes. -/
def vals (l:List Int):List Value:=l.map (Value.int .u8)
theorem uo (l:List Int):(vals l).length=l.length:=by simp [vals]
theorem WX (a b:List Int):vals (a ++ b)=vals a ++ vals b:=by simp [vals]
theorem IK (l:List Int) (i:Nat) (h:i < l.length):(vals l)[i]?=some (.int .u8 (l.getD i 0)):=by
 simp [vals,h]
theorem Fb:Oct []:=by intro x hx;simp at hx
theorem Ox {a b:List Int} (ha:Oct a) (hb:Oct b):Oct (a ++ b):=by
 intro x hx
 rcases List.mem_append.1 hx with h | h
 ·exact ha x h
 ·exact hb x h
theorem IL {l:List Int} (h:Oct l) (i:Nat):0≤l.getD i 0∧l.getD i 0≤255:=by
 by_cases hi:i < l.length
 ·have:l.getD i 0=l[i]:=by simp [hi]
  rw [this];exact h _ (List.getElem_mem hi)
 ·have:l.getD i 0=0:=by simp [Nat.not_lt.1 hi]
  rw [this];omega
theorem WY (l:List Int):∀ u ∈ vals l,u.oneCell'=true:=ints_oneCell .u8 l
/-- The slice value v reads in the world w as the bytes l. -/
def Bs (w:World) (v:Value) (l:List Int):Prop :=
 Oct l∧∃ a cap,v=.slice a l.length cap∧l.length≤cap∧cap≤maxLen∧(a=none→cap=0) ∧
  (0 < l.length→∃ b off,a=some ⟨b,off,none⟩∧b < w.heap.size∧∀ i,i < l.length→w.cell? ⟨b,off+i,none⟩=some (.int .u8 (l.getD i 0)))
/-- The slice value v is nil, or it lies at the head of block g, whose first cells are the bytes l; nobody else need be asked ahead of a store there. -/
def Own (w:World) (g:Nat) (v:Value) (l:List Int):Prop :=
 Oct l∧((v=.slice none 0 0∧l=[]) ∨
  ∃ cap cur,v=.slice (some ⟨g,0,none⟩) l.length cap∧w.heap[g]?=some (.cells cur 5 (0,0))∧l.length≤cap∧cap≤maxLen∧cur.size=cap∧cur.toList.take l.length=vals l)
theorem Own.row {w:World} {g:Nat} {v:Value} {l:List Int} (h:Own w g v l):w.ownsRow g 5 1 v l.length (vals l):=by
 refine ⟨by simp [uo],?_⟩
 rcases h.2 with ⟨hv,hl⟩ | ⟨cap,cur,hv,hh,h1,h2,h3,h4⟩
 ·exact .inl ⟨hv,by simp [hl]⟩
 ·exact .inr ⟨g,cap,cur,hv,Nat.le_refl _,hh,h1,h2,by simpa using h3,by simpa using h4⟩
theorem lt_of_heap {w:World} {g:Nat} {o:Obj} (h:w.heap[g]?=some o):g < w.heap.size:=(Array.getElem?_eq_some_iff.1 h).1
theorem Own.bs {w:World} {g:Nat} {v:Value} {l:List Int} (h:Own w g v l):Bs w v l:=by
 refine ⟨h.1,?_⟩
 rcases h.2 with ⟨hv,hl⟩ | ⟨cap,cur,hv,hh,h1,h2,h3,h4⟩
 ·subst hl
  exact ⟨none,0,by simpa using hv,by simp,by simp,fun _=>rfl,fun h=>by simp at h⟩
 ·refine ⟨_,cap,hv,h1,h2,(fun h=>by cases h),fun hp=>⟨g,0,rfl,lt_of_heap hh,fun i hi=>?_⟩⟩
  rw [Nat.zero_add,cell_of_row w g i cur 5 (0,0) hh]
  have e:=IK l i hi
  rw [← h4,List.getElem?_take,if_pos hi] at e
  simpa using e
/-- What is kept while nothing below the heap's size turns. -/
theorem Bs.below {w w':World} {v:Value} {l:List Int} (h:Bs w v l) (hb:Below w.heap.size w w'):Bs w' v l:=by
 obtain ⟨ho,a,cap,hv,h1,h2,h3,h4⟩:=h
 refine ⟨ho,a,cap,hv,h1,h2,h3,fun hp=>?_⟩
 obtain ⟨b,off,ha,hlt,hc⟩:=h4 hp
 exact ⟨b,off,ha,Nat.lt_of_lt_of_le hlt hb.size,fun i hi=>(hb.cell (p:=⟨b,off+i,none⟩) hlt).trans (hc i hi)⟩
theorem Own.below {w w':World} {g:Nat} {v:Value} {l:List Int} (h:Own w g v l) (hb:Below w.heap.size w w'):Own w' g v l:=by
 refine ⟨h.1,?_⟩
 rcases h.2 with hn | ⟨cap,cur,hv,hh,r⟩
 ·exact .inl hn
 ·exact .inr ⟨cap,cur,hv,(hb.block g (lt_of_heap hh)).trans hh,r⟩
/-- What is kept while other blocks are written. -/
theorem Own.kept {w w':World} {g k:Nat} {v:Value} {l:List Int} (h:Own w g v l) (hk:w.grownBy w' (some k)) (hne:g≠k):Own w' g v l:=by
 refine ⟨h.1,?_⟩
 rcases h.2 with hn | ⟨cap,cur,hv,hh,r⟩
 ·exact .inl hn
 ·exact .inr ⟨cap,cur,hv,(hk.block g (lt_of_heap hh) (by simpa using hne)).trans hh,r⟩
theorem Own.grow {w w':World} {g:Nat} {v:Value} {l:List Int} (h:Own w g v l) (hk:w.grownBy w' none):Own w' g v l:=by
 refine ⟨h.1,?_⟩
 rcases h.2 with hn | ⟨cap,cur,hv,hh,r⟩
 ·exact .inl hn
 ·exact .inr ⟨cap,cur,hv,(hk.block g (lt_of_heap hh) (by simp)).trans hh,r⟩
/-- A row that was made whole. -/
theorem IQ {w:World} {g:Nat} {l:List Int} (ho:Oct l) (hm:l.length≤maxLen) (hh:w.heap[g]?=some (.cells (vals l).toArray 5 (0,0))) :
  Own w g (.slice (some ⟨g,0,none⟩) l.length l.length) l :=
 ⟨ho,.inr ⟨l.length,_,rfl,hh,Nat.le_refl _,hm,by simp [uo],by simp [← uo]⟩⟩
/-- A row that 'make' has laid. -/
theorem Oy {w:World} {B g n:Nat} {e:TypeId} {z:Value} (hown:w.ownsRow B e 1 (.slice (some ⟨g,0,none⟩) n n) n (madeCells #[z] n).toList) :
  w.heap[g]?=some (.cells (List.replicate n z).toArray e (0,0)):=by
 rcases hown.2 with ⟨h,_⟩ | ⟨g',c,cur,h,_,hh,_,_,h3,h4⟩
 ·simp at h
 ·simp only [Value.slice.injEq,Option.some.injEq,Addr.mk.injEq,and_true,true_and] at h
  obtain ⟨rfl,rfl⟩:=h
  rw [Nat.mul_one,toList_madeCells_one,List.take_of_length_le (by simp;omega)] at h4
  rw [← h4]
  simpa using hh
theorem grownBy_setCell {w wr:World} {g j:Nat} {u:Value} (h:w.grownBy wr (some g)):w.grownBy (wr.setCell ⟨g,j,none⟩ u) (some g) :=
 ⟨h.os,h.tape,h.output,by have:=h.size;simpa [World.setCell] using this,fun k hk hne=>(Below.heap_setCell wr ⟨g,j,none⟩ u k (by simpa using hne)).trans (h.block k hk hne)⟩
theorem below_drewN {w w1:World} {B:Nat} (n:Nat) (h:Below B w w1):Below B w (w1.drewN n):=⟨h.os,h.tape,h.output,h.size,h.block⟩
theorem Own.drewN {w:World} {g:Nat} {v:Value} {l:List Int} (n:Nat) (h:Own w g v l):Own (w.drewN n) g v l:=h
theorem Bs.drewN {w:World} {v:Value} {l:List Int} (n:Nat) (h:Bs w v l):Bs (w.drewN n) v l:=h
/-- Out of the kit's word on a row that the call owns. -/
theorem Oz {w:World} {B n:Nat} {v:Value} {l:List Int} (ho:Oct l) (hn:n=l.length) (h:w.ownsRow B 5 1 v n (vals l)):∃ g,B≤g∧Own w g v l:=by
 subst hn
 rcases h.2 with ⟨hv,hl⟩ | ⟨g,cap,cur,hv,hB,hh,h1,h2,h3,h4⟩
 ·exact ⟨B,Nat.le_refl _,ho,.inl ⟨hv,List.eq_nil_of_length_eq_zero hl⟩⟩
 ·exact ⟨g,hB,ho,.inr ⟨cap,cur,hv,hh,h1,h2,by simpa using h3,by simpa using h4⟩⟩
/-- The bytes of a number: seven bits a byte, the lowest first; f more bytes may follow. -/
def enc:Nat→Int→List Int
 | 0,n=>[n]
 | f+1,n=>if 127 < n then (n % 128+128) :: enc f (n / 128) else [n]
/- append of bytes to a row of the call's own, as one law for the walk: what is appended may be nil. -/
/-- The value v is nil or lies at the head of a block from B on, whose first cells are the bytes l. -/
def kH (w:World) (B:Nat) (v:Value) (l:List Int):Prop:=∃ g,B≤g∧Own w g v l
theorem kH.bs {w:World} {B:Nat} {v:Value} {l:List Int} (h:kH w B v l):Bs w v l:=let ⟨_,_,h⟩:=h;h.bs
theorem kH.OA {w:World} {B:Nat} {v:Value} {l:List Int} (h:kH w B v l):Oct l:=let ⟨_,_,h⟩:=h;h.1
theorem kH.row {w:World} {B:Nat} {v:Value} {l:List Int} (h:kH w B v l):w.ownsRow B 5 1 v l.length (vals l):=by
 obtain ⟨g,hB,h⟩:=h
 have h':=h.row
 refine ⟨h'.1,?_⟩
 rcases h'.2 with h' | ⟨g',cap,cur,hv,hg,r⟩
 ·exact .inl h'
 ·exact .inr ⟨g',cap,cur,hv,Nat.le_trans hB hg,r⟩
theorem kH.alloc {w:World} {B:Nat} {v:Value} {l:List Int} (h:kH w B v l) (o:Obj):kH (w.alloc o) B v l :=
 let ⟨g,hB,h⟩:=h;⟨g,hB,h.grow (World.grownBy_alloc w o none)⟩
theorem kH.below {w w':World} {B:Nat} {v:Value} {l:List Int} (h:kH w B v l) (hb:Below w.heap.size w w'):kH w' B v l :=
 let ⟨g,hB,h⟩:=h;⟨g,hB,h.below hb⟩
theorem Bs.alloc {w:World} {v:Value} {l:List Int} (h:Bs w v l) (o:Obj):Bs (w.alloc o) v l :=
 h.below (bn _ o)
/- Rows of bytes that lie in blocks from B on and below T: so that two of them are seen to be apart. -/
/-- The value v is nil, or lies at the head of a block from B on and below T; its bytes are l. -/
def Row (w:World) (B T:Nat) (v:Value) (l:List Int):Prop :=
 Oct l∧w.ownsRow B 5 1 v l.length (vals l)∧∀ g,v.ownBlock=some g→g < T
theorem kH.IU {w:World} {B:Nat} {v:Value} {l:List Int} (h:kH w B v l):Row w B w.heap.size v l:=⟨h.OA,h.row,fun g hg=>(h.row.lt g hg).2⟩
/-- A row whose block is known. -/
theorem Own.IU {w:World} {g:Nat} {v:Value} {l:List Int} (h:Own w g v l):Row w g (g+1) v l:=by
 refine ⟨h.1,h.row,fun k hk=>?_⟩
 rcases h.2 with ⟨hv,_⟩ | ⟨cap,cur,hv,_⟩
 ·rw [hv] at hk;simp [Value.ownBlock] at hk
 ·rw [hv] at hk;simp [Value.ownBlock] at hk;omega
theorem Row.OA {w:World} {B T:Nat} {v:Value} {l:List Int} (h:Row w B T v l):Oct l:=h.1
theorem Row.own {w:World} {B T:Nat} {v:Value} {l:List Int} (h:Row w B T v l):kH w B v l:=Oz h.1 rfl h.2.1
theorem Row.bs {w:World} {B T:Nat} {v:Value} {l:List Int} (h:Row w B T v l):Bs w v l:=h.own.bs
theorem Row.wide {w:World} {B T B' T':Nat} {v:Value} {l:List Int} (h:Row w B T v l) (hB:B'≤B) (hT:T≤T'):Row w B' T' v l:=by
 refine ⟨h.1,⟨h.2.1.1,?_⟩,fun g hg=>Nat.lt_of_lt_of_le (h.2.2 g hg) hT⟩
 rcases h.2.1.2 with hn | ⟨g,cap,cur,hv,hg,r⟩
 ·exact .inl hn
 ·exact .inr ⟨g,cap,cur,hv,Nat.le_trans hB hg,r⟩
theorem Row.below {w w':World} {B T:Nat} {v:Value} {l:List Int} (h:Row w B T v l) (hb:Below w.heap.size w w'):Row w' B T v l :=
 ⟨h.1,(h.own.below hb).row,h.2.2⟩
/-- Another row was written. -/
theorem Row.kept {w w':World} {B T B' T':Nat} {v u:Value} {l m:List Int} (h:Row w B T v l) (hu:Row w B' T' u m) (hg:w.grownBy w' u.ownBlock) (hd:T≤B'∨T'≤B):Row w' B T v l:=by
 refine ⟨h.1,h.2.1.kept hg ?_,h.2.2⟩
 cases hv:v.ownBlock with
 | none=>exact .inl rfl
 | some g =>
  refine .inr fun e=>?_
  have h1:=(h.2.1.lt g hv).1
  have h2:=h.2.2 g hv
  have h3:=(hu.2.1.lt g e.symm).1
  have h4:=hu.2.2 g e.symm
  omega
theorem Row.nil (w:World) (B T:Nat):Row w B T (.slice none 0 0) []:=⟨Fb,World.ownsRow_nil _ _ _ _,fun g hg=>by simp [Value.ownBlock] at hg⟩
/-- A row stays while another block is written. -/
theorem Row.drawn {w w':World} {g B T:Nat} {v:Value} {l:List Int} (h:Row w B T v l) (hw:w.grownBy w' (some g)) (hd:g < B∨T≤g):Row w' B T v l:=by
 refine ⟨h.1,h.2.1.kept hw ?_,h.2.2⟩
 cases hv:v.ownBlock with
 | none=>exact .inl rfl
 | some k =>
  refine .inr fun e=>?_
  have h1:=(h.2.1.lt k hv).1
  have h2:=h.2.2 k hv
  simp only [Option.some.injEq] at e
  omega
/-- A row stays while a cell of another block is written. -/
theorem Row.set {w:World} {g i B T:Nat} {v x:Value} {l:List Int} (h:Row w B T v l) (hd:g < B∨T≤g):Row (w.setCell ⟨g,i,none⟩ x) B T v l :=
 h.drawn (grownBy_setCell (World.grownBy.refl _ _)) hd
theorem OB {w w':World} (h:∃ n,w'=w.drewN n):Below w.heap.size w w':=by
 obtain ⟨n,rfl⟩:=h;exact below_drewN n (Below.refl _ _)
theorem Below.step {w w1 w2:World} (h:Below w.heap.size w w1) (h':Below w1.heap.size w1 w2):Below w.heap.size w w2:=h.trans (h'.mono h.size)
/- Logs in memory: what a log reads as; a log of the call's own; what is written within a range of blocks. -/
/-- Old blocks outside the range from B on and below T are as they were. -/
structure Within (B T:Nat) (w w':World):Prop where
 os:w'.os=w.os
 tape:w'.tape=w.tape
 output:w'.output=w.output
 size:w.heap.size≤w'.heap.size
 block:∀ k,k < w.heap.size→¬ (B≤k∧k < T)→w'.heap[k]?=w.heap[k]?
theorem Within.refl (B T:Nat) (w:World):Within B T w w:=⟨rfl,rfl,rfl,Nat.le_refl _,fun _ _ _=>rfl⟩
theorem Within.trans {B T:Nat} {a b c:World} (h:Within B T a b) (k:Within B T b c):Within B T a c :=
 ⟨k.os.trans h.os,k.tape.trans h.tape,k.output.trans h.output,Nat.le_trans h.size k.size,fun i hi hn=>(k.block i (Nat.lt_of_lt_of_le hi h.size) hn).trans (h.block i hi hn)⟩
theorem Within.wide {B T B' T':Nat} {a b:World} (h:Within B T a b) (hB:B'≤B) (hT:T≤T'):Within B' T' a b :=
 ⟨h.os,h.tape,h.output,h.size,fun i hi hn=>h.block i hi (fun hc=>hn ⟨by omega,by omega⟩)⟩
theorem Within.OC {B T:Nat} {a b:World} (h:Below a.heap.size a b):Within B T a b:=⟨h.os,h.tape,h.output,h.size,fun k hk _=>h.block k hk⟩
theorem Within.below {B T:Nat} {w0 w w':World} (h:Within B T w w') (hb:Below w0.heap.size w0 w) (hB:w0.heap.size≤B):Below w0.heap.size w0 w' :=
 ⟨h.os.trans hb.os,h.tape.trans hb.tape,h.output.trans hb.output,Nat.le_trans hb.size h.size,fun k hk=>(h.block k (Nat.lt_of_lt_of_le hk hb.size) (by omega)).trans (hb.block k hk)⟩
theorem Row.within {w w':World} {B T:Nat} {u:Value} {m:List Int} (hu:Row w B T u m) (hg:w.grownBy w' u.ownBlock):Within B T w w' :=
 ⟨hg.os,hg.tape,hg.output,hg.size,fun k hk hn=>hg.block k hk (fun e=>hn ⟨(hu.2.1.lt k e.symm).1,hu.2.2 k e.symm⟩)⟩
/-- A row apart from what was written stays. -/
theorem Row.gZ {w w':World} {B T B' T':Nat} {v:Value} {l:List Int} (h:Row w B T v l) (hw:Within B' T' w w') (hd:T≤B'∨T'≤B):Row w' B T v l:=by
 refine ⟨h.1,⟨h.2.1.1,?_⟩,h.2.2⟩
 rcases h.2.1.2 with hn | ⟨g,cap,cur,hv,hg,hh,r⟩
 ·exact .inl hn
 ·have hlt:g < T:=h.2.2 g (by rw [hv];rfl)
  exact .inr ⟨g,cap,cur,hv,hg,(hw.block g (lt_of_heap hh) (by omega)).trans hh,r⟩
theorem Bs.form {w:World} {v:Value} {l:List Int} (h:Bs w v l):∃ a cap,v=.slice a l.length cap:=by obtain ⟨_,a,cap,h,_⟩:=h;exact ⟨a,cap,h⟩
theorem Bs.aG {w:World} {v:Value} {l:List Int} (h:Bs w v l):∃ a n cap,v=.slice a n cap:=by obtain ⟨_,a,cap,h,_⟩:=h;exact ⟨a,_,cap,h⟩
theorem Bs.cap {w:World} {a:Option Addr} {n cap:Nat} {l:List Int} (h:Bs w (.slice a n cap) l):l.length≤cap∧cap≤9223372036854775807:=by
 obtain ⟨_,a',cap',hv,h1,h2,_⟩:=h
 simp only [Value.slice.injEq] at hv
 obtain ⟨-,-,rfl⟩:=hv
 exact ⟨h1,h2⟩
theorem bP {w:World} {g k i:Nat} {o:Obj} {v:Value} (h:w.heap[g]?=some o) (hne:g≠k):(w.setCell ⟨k,i,none⟩ v).heap[g]?=some o :=
 (Below.heap_setCell w ⟨k,i,none⟩ v g hne).trans h
theorem ay {w w':World} {g:Nat} {o:Obj} (hb:Below w.heap.size w w') (h:w.heap[g]?=some o):w'.heap[g]?=some o:=(hb.block g (lt_of_heap h)).trans h
theorem aV (w:World) (o:Obj):(w.alloc o).heap[w.heap.size]?=some o:=heap_alloc_new w o
theorem uq {w:World} {g:Nat} {o:Obj} (h:w.heap[g]?=some o) (o':Obj):(w.alloc o').heap[g]?=some o:=(Below.heap_alloc w o' g (lt_of_heap h)).trans h
/-- Three blocks that were laid one behind the other. -/
theorem Fe (w:World) (o0 o1 o2:Obj):(((w.alloc o0).alloc o1).alloc o2).heap[w.heap.size]?=some o0∧(((w.alloc o0).alloc o1).alloc o2).heap[w.heap.size+1]?=some o1∧(((w.alloc o0).alloc o1).alloc o2).heap[w.heap.size+1+1]?=some o2 :=
 ⟨uq (uq (aV w o0) o1) o2,uq (by simpa using aV (w.alloc o0) o1) o2,by simpa using aV ((w.alloc o0).alloc o1) o2⟩
theorem uw (w:World) (o0 o1 o2:Obj):Below w.heap.size w (((w.alloc o0).alloc o1).alloc o2):=((bn _ _).alloc (by simp) _).alloc (by simp;omega) _
/-- Two blocks that were laid one behind the other. -/
theorem gJ (w:World) (o0 o1:Obj):((w.alloc o0).alloc o1).heap[w.heap.size]?=some o0∧((w.alloc o0).alloc o1).heap[w.heap.size+1]?=some o1∧Below w.heap.size w ((w.alloc o0).alloc o1) :=
 ⟨uq (aV w o0) o1,by simpa using aV (w.alloc o0) o1,(bn _ _).alloc (by simp) _⟩
theorem qP {w w':World} {B T g:Nat} {o:Obj} (hw:Within B T w w') (h:w.heap[g]?=some o) (hd:g < B∨T≤g):w'.heap[g]?=some o:=(hw.block g (lt_of_heap h) (by omega)).trans h
/-- The value v reads as the log of the bytes a and b. -/
def Fg (w:World) (v:Value) (a b:List Int):Prop:=∃ u0 u1,v=.agg #[u0,u1]∧Bs w u0 a∧Bs w u1 b
/-- A log of the call's own: its two slices lie in blocks from B on and below T, apart from each other. -/
def lZ (w:World) (B T:Nat) (v:Value) (a b:List Int):Prop :=
 ∃ u0 u1 B0 T0 B1 T1,v=.agg #[u0,u1]∧Row w B0 T0 u0 a∧Row w B1 T1 u1 b∧B≤B0∧T0≤T∧B≤B1∧T1≤T∧(T0≤B1∨T1≤B0)
theorem Fg.below {w w':World} {v:Value} {a b:List Int} (h:Fg w v a b) (hb:Below w.heap.size w w'):Fg w' v a b :=
 let ⟨u0,u1,hv,h0,h1⟩:=h;⟨u0,u1,hv,h0.below hb,h1.below hb⟩
theorem lZ.v {w:World} {B T:Nat} {v:Value} {a b:List Int} (h:lZ w B T v a b):Fg w v a b :=
 let ⟨u0,u1,_,_,_,_,hv,h0,h1,_⟩:=h;⟨u0,u1,hv,h0.bs,h1.bs⟩
theorem lZ.below {w w':World} {B T:Nat} {v:Value} {a b:List Int} (h:lZ w B T v a b) (hb:Below w.heap.size w w'):lZ w' B T v a b :=
 let ⟨u0,u1,B0,T0,B1,T1,hv,h0,h1,r⟩:=h;⟨u0,u1,B0,T0,B1,T1,hv,h0.below hb,h1.below hb,r⟩
theorem lZ.wide {w:World} {B T B' T':Nat} {v:Value} {a b:List Int} (h:lZ w B T v a b) (hB:B'≤B) (hT:T≤T'):lZ w B' T' v a b :=
 let ⟨u0,u1,B0,T0,B1,T1,hv,h0,h1,r0,r1,r2,r3,r4⟩:=h;⟨u0,u1,B0,T0,B1,T1,hv,h0,h1,by omega,by omega,by omega,by omega,r4⟩
theorem lZ.gZ {w w':World} {B T B' T':Nat} {v:Value} {a b:List Int} (h:lZ w B T v a b) (hw:Within B' T' w w') (hd:T≤B'∨T'≤B):lZ w' B T v a b :=
 let ⟨u0,u1,B0,T0,B1,T1,hv,h0,h1,r0,r1,r2,r3,r4⟩:=h
 ⟨u0,u1,B0,T0,B1,T1,hv,h0.gZ hw (by omega),h1.gZ hw (by omega),r0,r1,r2,r3,r4⟩
theorem lZ.set {w:World} {g i B T:Nat} {v x:Value} {a b:List Int} (h:lZ w B T v a b) (hd:g < B∨T≤g):lZ (w.setCell ⟨g,i,none⟩ x) B T v a b :=
 let ⟨u0,u1,B0,T0,B1,T1,hv,h0,h1,r0,r1,r2,r3,r4⟩:=h
 ⟨u0,u1,B0,T0,B1,T1,hv,h0.set (by omega),h1.set (by omega),r0,r1,r2,r3,r4⟩
theorem lZ.zero (w:World) (B T:Nat) (h:B≤T):lZ w B T (.agg #[.slice none 0 0,.slice none 0 0]) [] [] :=
 ⟨_,_,B,B,B,T,rfl,Row.nil _ _ _,Row.nil _ _ _,Nat.le_refl _,h,Nat.le_refl _,Nat.le_refl _,.inl (Nat.le_refl _)⟩
/- Commands in memory. -/
def aB (n:Int):Prop:=-9223372036854775808≤n∧n≤9223372036854775807
/-- The value v reads as a command. -/
def ig (w:World) (v:Value) (k:Int) (bx tt:List Int) (uid mode fl si:Int) (tx:List Int):Prop :=
 ∃ u0 u1 u2,v=.agg #[.int .i64 k,u0,u1,.int .i64 uid,.int .i64 mode,.int .i64 fl,.int .i64 si,u2]∧Bs w u0 bx∧Bs w u1 tt∧Bs w u2 tx∧aB k∧aB uid∧aB mode∧aB fl∧aB si
theorem ig.below {w w':World} {v:Value} {k:Int} {bx tt:List Int} {uid mode fl si:Int} {tx:List Int} (h:ig w v k bx tt uid mode fl si tx) (hb:Below w.heap.size w w'):ig w' v k bx tt uid mode fl si tx :=
 let ⟨u0,u1,u2,hv,h0,h1,h2,r⟩:=h;⟨u0,u1,u2,hv,h0.below hb,h1.below hb,h2.below hb,r⟩
/- Blocks that hold a struct: what the walk asks of them. -/
/-- A block of eight cells: what the walk asks of it. -/
theorem jd {w:World} {g:Nat} {t:TypeId} {c0 c1 c2 c3 c4 c5 c6 c7:Value} (h:w.heap[g]?=some (.cells #[c0,c1,c2,c3,c4,c5,c6,c7] t (0,0))) :
   w.cell? ⟨g,0,none⟩=some c0∧w.cell? ⟨g,1,none⟩=some c1∧w.cell? ⟨g,2,none⟩=some c2∧w.cell? ⟨g,3,none⟩=some c3∧w.cell? ⟨g,4,none⟩=some c4∧w.cell? ⟨g,5,none⟩=some c5∧w.cell? ⟨g,6,none⟩=some c6∧w.cell? ⟨g,7,none⟩=some c7 :=
 ⟨by rw [cell_of_row w g 0 _ t (0,0) h];rfl,by rw [cell_of_row w g 1 _ t (0,0) h];rfl,by rw [cell_of_row w g 2 _ t (0,0) h];rfl,by rw [cell_of_row w g 3 _ t (0,0) h];rfl,
  by rw [cell_of_row w g 4 _ t (0,0) h];rfl,by rw [cell_of_row w g 5 _ t (0,0) h];rfl,by rw [cell_of_row w g 6 _ t (0,0) h];rfl,by rw [cell_of_row w g 7 _ t (0,0) h];rfl⟩
/- Commands of the call's own in memory; blocks of eight cells that are written. -/
/-- A command of the call's own: its three slices lie one behind the other in blocks from B on and below T. -/
def iN (w:World) (B T:Nat) (v:Value) (k:Int) (bx tt:List Int) (uid mode fl si:Int) (tx:List Int):Prop :=
 ∃ u0 u1 u2 T0 T1,v=.agg #[.int .i64 k,u0,u1,.int .i64 uid,.int .i64 mode,.int .i64 fl,.int .i64 si,u2]∧Row w B T0 u0 bx∧Row w T0 T1 u1 tt∧Row w T1 T u2 tx∧B≤T0∧T0≤T1∧T1≤T∧aB k∧aB uid∧aB mode∧aB fl∧aB si
section
variable {w w' : World} {B T B' T' : Nat} {x : Value} {k : Int} {bx tt : List Int} {uid mode fl si : Int} {tx : List Int}
theorem iN.v (h:iN w B T x k bx tt uid mode fl si tx):ig w x k bx tt uid mode fl si tx :=
 let ⟨u0,u1,u2,_,_,hv,h0,h1,h2,_,_,_,r⟩:=h;⟨u0,u1,u2,hv,h0.bs,h1.bs,h2.bs,r⟩
theorem iN.below (h:iN w B T x k bx tt uid mode fl si tx) (hb:Below w.heap.size w w'):iN w' B T x k bx tt uid mode fl si tx :=
 let ⟨u0,u1,u2,T0,T1,hv,h0,h1,h2,r⟩:=h;⟨u0,u1,u2,T0,T1,hv,h0.below hb,h1.below hb,h2.below hb,r⟩
theorem iN.wide (h:iN w B T x k bx tt uid mode fl si tx) (hB:B'≤B) (hT:T≤T'):iN w B' T' x k bx tt uid mode fl si tx :=
 let ⟨u0,u1,u2,T0,T1,hv,h0,h1,h2,r0,r1,r2,r⟩:=h;⟨u0,u1,u2,T0,T1,hv,h0.wide hB (Nat.le_refl _),h1,h2.wide (Nat.le_refl _) hT,by omega,r1,by omega,r⟩
theorem iN.gZ (h:iN w B T x k bx tt uid mode fl si tx) (hw:Within B' T' w w') (hd:T≤B'∨T'≤B):iN w' B T x k bx tt uid mode fl si tx :=
 let ⟨u0,u1,u2,T0,T1,hv,h0,h1,h2,r0,r1,r2,r⟩:=h;⟨u0,u1,u2,T0,T1,hv,h0.gZ hw (by omega),h1.gZ hw (by omega),h2.gZ hw (by omega),r0,r1,r2,r⟩
end
theorem l5 {w:World} {g:Nat} {t:TypeId} {c0 c1 c2 c3 c4 c5 c6 c7:Value} (h:w.heap[g]?=some (.cells #[c0,c1,c2,c3,c4,c5,c6,c7] t (0,0))) :
  w.cell? ⟨g,0,none⟩=some c0∧w.cell? ⟨g,1,none⟩=some c1∧w.cell? ⟨g,2,none⟩=some c2∧w.cell? ⟨g,3,none⟩=some c3∧w.cell? ⟨g,4,none⟩=some c4∧w.cell? ⟨g,5,none⟩=some c5∧w.cell? ⟨g,6,none⟩=some c6∧w.cell? ⟨g,7,none⟩=some c7∧g < w.heap.size:=by
 obtain ⟨f0,f1,f2,f3,f4,f5,f6,f7⟩:=jd h
 exact ⟨f0,f1,f2,f3,f4,f5,f6,f7,lt_of_heap h⟩
/-- A block of eight cells that is written: its marks. -/
theorem bR {w:World} {g:Nat} {t:TypeId} {cs:Array Value} (h:w.heap[g]?=some (.cells cs t (0,0))):(∀ i,w.frozen? ⟨g,i,none⟩=false)∧g < w.heap.size :=
 ⟨fun i=>frozen_of_row w g i _ t h,lt_of_heap h⟩
theorem aP {w:World} {g i:Nat} {t:TypeId} {cs:Array Value} {v:Value} (h:w.heap[g]?=some (.cells cs t (0,0))):(w.setCell ⟨g,i,none⟩ v).heap[g]?=some (.cells (cs.setIfInBounds i v) t (0,0)):=heap_setCell_same w g i _ t v h
theorem aZ {w:World} {g i:Nat} {v:Value}:(w.setCell ⟨g,i,none⟩ v).heap.size=w.heap.size:=by simp [World.setCell]
/- Data with depth in memory: lists of structs, what they read as, and lists of the call's own, whose blocks lie in a set. -/
/-- The blocks from B on and below T. -/
def In (B T:Nat):Nat→Prop:=fun b=>B≤b∧b < T
/-- The slice value v reads as the list l, each element of sz cells that E says. -/
def Rd {α:Type} (sz:Nat) (E:World→List Value→α→Prop) (w:World) (v:Value) (l:List α):Prop :=
 ∃ (a:Option Addr) (cap:Nat) (cs:Nat→List Value),v=.slice a l.length cap∧l.length≤cap∧cap≤maxLen∧(a=none→cap=0) ∧
  (∀ i x,l[i]?=some x→E w (cs i) x∧(cs i).length=sz) ∧
  (0 < l.length→∃ b off,a=some ⟨b,off,none⟩∧b < w.heap.size∧∀ i j u,i < l.length→(cs i)[j]?=some u→w.cell? ⟨b,off+i * sz+j,none⟩=some u)
/-- What an element says stays while nothing old turns. -/
def Keeps {α:Type} (E:World→List Value→α→Prop):Prop:=∀ w w' c x,Below w.heap.size w w'→E w c x→E w' c x
section
variable {α : Type} {sz : Nat} {E : World → List Value → α → Prop} {w w' : World} {v : Value} {l : List α}
theorem Rd.below (hE:Keeps E) (h:Rd sz E w v l) (hb:Below w.heap.size w w'):Rd sz E w' v l:=by
 obtain ⟨a,cap,cs,hv,h1,h2,h3,h4,h5⟩:=h
 refine ⟨a,cap,cs,hv,h1,h2,h3,fun i x hx=>⟨hE _ _ _ _ hb (h4 i x hx).1,(h4 i x hx).2⟩,fun hp=>?_⟩
 obtain ⟨b,off,ha,hlt,hc⟩:=h5 hp
 exact ⟨b,off,ha,Nat.lt_of_lt_of_le hlt hb.size,fun i j u hi hu=>(hb.cell (p:=⟨b,off+i * sz+j,none⟩) hlt).trans (hc i j u hi hu)⟩
theorem Rd.form (h:Rd sz E w v l):∃ a cap,v=.slice a l.length cap∧l.length≤cap∧cap≤9223372036854775807:=by
 obtain ⟨a,cap,cs,hv,h1,h2,_⟩:=h
 exact ⟨a,cap,hv,h1,h2⟩
theorem Rd.get (h:Rd sz E w v l) (k:Nat) (x:α) (hx:l[k]?=some x) :
  ∃ b off cap c,v=.slice (some ⟨b,off,none⟩) l.length cap∧b < w.heap.size∧E w c x∧c.length=sz∧∀ j u,c[j]?=some u→w.cell? ⟨b,off+k * sz+j,none⟩=some u:=by
 obtain ⟨a,cap,cs,hv,h1,h2,h3,h4,h5⟩:=h
 have hk:k < l.length:=(gs1 hx).1
 obtain ⟨b,off,rfl,hlt,hc⟩:=h5 (by omega)
 exact ⟨b,off,cap,cs k,hv,hlt,(h4 k x hx).1,(h4 k x hx).2,fun j u hu=>hc k j u hk hu⟩
theorem Rd.nil (w:World):Rd sz E w (.slice none 0 0) ([]:List α):=⟨none,0,fun _=>[],rfl,by simp,by simp,fun _=>rfl,by simp,by simp⟩
end
/-- The list l of the call's own: nil, or at the head of a block of S; what its elements lead to lies in S too, apart from that block and from one another. -/
def Ow {α:Type} (t:TypeId) (sz:Nat) (E:World→List Value→α→(Nat→Prop)→Prop) (w:World) (S:Nat→Prop) (v:Value) (l:List α):Prop :=
 (v=.slice none 0 0∧l=[]) ∨
 ∃ (g cap:Nat) (cur:Array Value) (cs:Nat→List Value) (fs:Nat→Nat→Prop),v=.slice (some ⟨g,0,none⟩) l.length cap∧w.heap[g]?=some (.cells cur t (0,0))∧l.length≤cap∧cap≤maxLen∧cur.size=cap * sz∧S g ∧
  (∀ i x,l[i]?=some x→E w (cs i) x (fs i)∧(cs i).length=sz∧∀ j u,(cs i)[j]?=some u→cur[i * sz+j]?=some u) ∧
  (∀ i b,i < l.length→fs i b→S b∧b≠g)∧(∀ i j b,i < l.length→j < l.length→i≠j→fs i b→¬ fs j b)
/-- What an element of the call's own says stays while its blocks do. -/
def Frames {α:Type} (E:World→List Value→α→(Nat→Prop)→Prop):Prop:=∀ w w' c x S,E w c x S→(∀ b,S b→b < w.heap.size→w'.heap[b]?=w.heap[b]?)→E w' c x S
section
variable {α : Type} {t : TypeId} {sz : Nat} {E : World → List Value → α → (Nat → Prop) → Prop} {w w' : World} {S S' : Nat → Prop} {v : Value} {l : List α}
theorem Ow.frame (hE:Frames E) (h:Ow t sz E w S v l) (hw:∀ b,S b→b < w.heap.size→w'.heap[b]?=w.heap[b]?):Ow t sz E w' S v l:=by
 rcases h with h | ⟨g,cap,cur,cs,fs,hv,hh,h1,h2,h3,h4,h5,h6,h7⟩
 ·exact .inl h
 ·refine .inr ⟨g,cap,cur,cs,fs,hv,(hw g h4 (lt_of_heap hh)).trans hh,h1,h2,h3,h4,fun i x hx=>⟨?_,(h5 i x hx).2⟩,h6,h7⟩
  have hi:i < l.length:=(gs1 hx).1
  exact hE _ _ _ _ _ (h5 i x hx).1 fun b hb hlt=>hw b (h6 i b hi hb).1 hlt
theorem Ow.mono (h:Ow t sz E w S v l) (hS:∀ b,S b→S' b):Ow t sz E w S' v l:=by
 rcases h with h | ⟨g,cap,cur,cs,fs,hv,hh,h1,h2,h3,h4,h5,h6,h7⟩
 ·exact .inl h
 ·exact .inr ⟨g,cap,cur,cs,fs,hv,hh,h1,h2,h3,hS g h4,h5,fun i b hi hb=>⟨hS b (h6 i b hi hb).1,(h6 i b hi hb).2⟩,h7⟩
theorem Ow.below (hE:Frames E) (h:Ow t sz E w S v l) (hb:Below w.heap.size w w'):Ow t sz E w' S v l:=h.frame hE fun b _ hlt=>hb.block b hlt
theorem Ow.gZ {B T:Nat} (hE:Frames E) (h:Ow t sz E w S v l) (hw:Within B T w w') (hd:∀ b,S b→¬ (B≤b∧b < T)):Ow t sz E w' S v l:=h.frame hE fun b hb hlt=>hw.block b hlt (hd b hb)
theorem Ow.rd {RE:World→List Value→α→Prop} (hE:∀ w c x S,E w c x S→RE w c x) (h:Ow t sz E w S v l):Rd sz RE w v l:=by
 rcases h with ⟨rfl,rfl⟩ | ⟨g,cap,cur,cs,fs,hv,hh,h1,h2,h3,h4,h5,h6,h7⟩
 ·exact Rd.nil w
 ·refine ⟨some ⟨g,0,none⟩,cap,cs,hv,h1,h2,(fun h=>by cases h),fun i x hx=>⟨hE _ _ _ _ (h5 i x hx).1,(h5 i x hx).2.1⟩,fun hp=>⟨g,0,rfl,lt_of_heap hh,fun i j u hi hu=>?_⟩⟩
  rw [Nat.zero_add,cell_of_row w g _ cur t (0,0) hh]
  exact (h5 i l[i] (aK hi)).2.2 j u hu
end
/-- The cells of c laid into block g from o on. -/
def put (w:World) (g o:Nat):List Value→World
 | []=>w
 | c :: cs=>put (w.setCell ⟨g,o,none⟩ c) g (o+1) cs
theorem uy (g:Nat) (t:TypeId):∀ (cs:List Value) (w:World) (o:Nat) (cur:Array Value),w.heap[g]?=some (.cells cur t (0,0))→o+cs.length≤cur.size →
  ∃ cur',(put w g o cs).heap[g]?=some (.cells cur' t (0,0))∧cur'.size=cur.size∧(∀ j u,cs[j]?=some u→cur'[o+j]?=some u)∧(∀ i,i < o∨o+cs.length≤i→cur'[i]?=cur[i]?)∧Within g (g+1) w (put w g o cs)
 | [],w,o,cur,h,_=>⟨cur,h,rfl,by simp,fun _ _=>rfl,Within.refl _ _ _⟩
 | c :: cs,w,o,cur,h,hs=>by
  simp only [List.length_cons] at hs
  have h1:(w.setCell ⟨g,o,none⟩ c).heap[g]?=some (.cells (cur.setIfInBounds o c) t (0,0)):=heap_setCell_same w g o cur t c h
  obtain ⟨cur',e1,e2,e3,e4,e5⟩:=uy g t cs (w.setCell ⟨g,o,none⟩ c) (o+1) _ h1 (by simp;omega)
  refine ⟨cur',e1,by simpa using e2,fun j u hu=>?_,fun i hi=>?_,?_⟩
  ·cases j with
   | zero =>
    simp at hu;subst hu
    rw [Nat.add_zero,e4 o (.inl (by omega)),Array.getElem?_setIfInBounds]
    simp [show o < cur.size by omega]
   | succ j =>
    have:=e3 j u (by simpa using hu)
    rwa [show o+(j+1)=o+1+j by omega]
  ·simp only [List.length_cons] at hi
   rw [e4 i (by omega)]
   rw [Array.getElem?_setIfInBounds]
   simp [show ¬ o=i by omega]
  ·exact (⟨rfl,rfl,rfl,by simp [World.setCell],fun k hk hn=>Below.heap_setCell w ⟨g,o,none⟩ c k (show k≠g by omega)⟩:Within g (g+1) w (w.setCell ⟨g,o,none⟩ c)).trans e5
/-- A list that is being laid: k of its elements lie there. -/
def Part {α:Type} (t:TypeId) (sz:Nat) (E:World→List Value→α→(Nat→Prop)→Prop) (w:World) (g n k:Nat) (l:List α):Prop :=
 ∃ (cur:Array Value) (cs:Nat→List Value) (fs:Nat→Nat→Prop),w.heap[g]?=some (.cells cur t (0,0))∧cur.size=n * sz ∧
  (∀ i x,i < k→l[i]?=some x→E w (cs i) x (fs i)∧(cs i).length=sz∧∀ j u,(cs i)[j]?=some u→cur[i * sz+j]?=some u) ∧
  (∀ i b,i < k→fs i b→g < b∧b < w.heap.size)∧(∀ i j b,i < k→j < k→i≠j→fs i b→¬ fs j b)
section
variable {α : Type} {t : TypeId} {sz : Nat} {E : World → List Value → α → (Nat → Prop) → Prop} {w w' : World} {l : List α} {g n k : Nat}
theorem Part.start {cur:Array Value} (h:w.heap[g]?=some (.cells cur t (0,0))) (hs:cur.size=n * sz):Part t sz E w g n 0 l:=⟨cur,fun _=>[],fun _ _=>False,h,hs,by simp,by simp,by simp⟩
theorem Part.cell (h:Part t sz E w g n k l) (i:Nat) (hi:i < n * sz):(∃ u,w.cell? ⟨g,i,none⟩=some u)∧w.frozen? ⟨g,i,none⟩=false:=by
 obtain ⟨cur,cs,fs,hh,hs,_⟩:=h
 refine ⟨⟨cur[i]'(by omega),?_⟩,frozen_of_row w g i cur t hh⟩
 rw [cell_of_row w g i cur t (0,0) hh]
 simp
theorem Part.lt (h:Part t sz E w g n k l):g < w.heap.size:=let ⟨_,_,_,hh,_⟩:=h;lt_of_heap hh
theorem Part.step (hE:Frames E) (h:Part t sz E w g n k l) (hb:Below w.heap.size w w') (x:α) (hx:l[k]?=some x) (hk:k < n) (c:List Value) (hc:c.length=sz) (he:E w' c x (In w.heap.size w'.heap.size)) :
  Part t sz E (put w' g (k * sz) c) g n (k+1) l:=by
 obtain ⟨cur,cs,fs,hh,hs,h1,h2,h3⟩:=h
 have hg:g < w.heap.size:=lt_of_heap hh
 have hroom:k * sz+sz≤n * sz:=by
  have:=Nat.mul_le_mul_right sz (show k+1≤n by omega)
  rw [Nat.add_mul,Nat.one_mul] at this
  exact this
 obtain ⟨cur',e1,e2,e3,e4,e5⟩:=uy g t c w' (k * sz) cur ((hb.block g hg).trans hh) (by omega)
 have same:∀ b,b≠g→b < w.heap.size→(put w' g (k * sz) c).heap[b]?=w.heap[b]?:=fun b hne hlt =>
  (e5.block b (Nat.lt_of_lt_of_le hlt hb.size) (by omega)).trans (hb.block b hlt)
 refine ⟨cur',fun i=>if i=k then c else cs i,fun i=>if i=k then In w.heap.size w'.heap.size else fs i,e1,by omega,fun i y hi hy=>?_,fun i b hi hb'=>?_,fun i j b hi hj hne hbi hbj=>?_⟩
 ·by_cases hik:i=k
  ·subst hik
   rw [hx] at hy;cases hy
   simp only [if_true]
   refine ⟨hE _ _ _ _ _ he fun b hb' hlt=>e5.block b hlt (by have:=hb'.1;omega),hc,fun j u hu=>e3 j u hu⟩
  ·simp only [if_neg hik]
   have hi':i < k:=by omega
   obtain ⟨q1,q2,q3⟩:=h1 i y hi' hy
   refine ⟨hE _ _ _ _ _ q1 fun b hb' hlt=>same b (by have:=(h2 i b hi' hb').1;omega) hlt,q2,fun j u hu=>?_⟩
   have hj:j < sz:=by have:=(gs1 hu).1;omega
   have hlow:i * sz+j < k * sz:=by
    have:=Nat.mul_le_mul_right sz (show i+1≤k by omega)
    rw [Nat.add_mul,Nat.one_mul] at this
    omega
   rw [e4 _ (.inl hlow)]
   exact q3 j u hu
 ·by_cases hik:i=k
  ·simp only [hik,if_true] at hb'
   have:=e5.size
   exact ⟨by have:=hb'.1;omega,by have:=hb'.2;omega⟩
  ·simp only [if_neg hik] at hb'
   have:=h2 i b (by omega) hb'
   have:=e5.size
   have:=hb.size
   omega
 ·by_cases hik:i=k
  ·by_cases hjk:j=k
   ·omega
   ·simp only [hik,if_true] at hbi
    simp only [if_neg hjk] at hbj
    have:=h2 j b (by omega) hbj
    have:=hbi.1
    omega
  ·simp only [if_neg hik] at hbi
   by_cases hjk:j=k
   ·simp only [hjk,if_true] at hbj
    have:=h2 i b (by omega) hbi
    have:=hbj.1
    omega
   ·simp only [if_neg hjk] at hbj
    exact h3 i j b (by omega) (by omega) hne hbi hbj
theorem Part.done {B:Nat} (h:Part t sz E w g n n l) (hn:l.length=n) (hm:n≤maxLen) (hB:B≤g):Ow t sz E w (In B w.heap.size) (.slice (some ⟨g,0,none⟩) n n) l:=by
 obtain ⟨cur,cs,fs,hh,hs,h1,h2,h3⟩:=h
 subst hn
 refine .inr ⟨g,l.length,cur,cs,fs,rfl,hh,Nat.le_refl _,hm,hs,⟨hB,lt_of_heap hh⟩,fun i x hx=>h1 i x (gs1 hx).1 hx,fun i b hi hb=>?_,h3⟩
 have:=h2 i b hi hb
 exact ⟨⟨by omega,this.2⟩,by omega⟩
theorem Fh {B:Nat} {w0 w:World} (hb:Below B w0 w) (hB:B≤g) (o:Nat) (c:List Value):Below B w0 (put w g o c):=by
 induction c generalizing w o with
 | nil=>exact hb
 | cons x c ih=>exact ih (hb.setCell (p:=⟨g,o,none⟩) hB x) (o+1)
end
/- Fj, boxes and accounts in memory: what they read as, and those of the call's own. -/
structure aF where
 uid:Int
 flags:Int
 seq:Int
 text:List Int
structure bf where
 uid:Int
 seq:Int
structure aD where
 name:List Int
 valid:Int
 next:Int
 seq:Int
 ah:List aF
 au:List bf
 lost:Int
structure aJ where
 valid:Int
 boxes:List aD
 seen:List Int
/-- A row of bytes of the call's own whose block lies in S. -/
def RO (w:World) (S:Nat→Prop) (v:Value) (l:List Int):Prop:=Oct l∧w.ownsRow 0 5 1 v l.length (vals l)∧∀ g,v.ownBlock=some g→S g
theorem Row.ro {w:World} {B T:Nat} {v:Value} {l:List Int} (h:Row w B T v l):RO w (In B T) v l :=
 ⟨h.1,(h.wide (B':=0) (T':=T) (Nat.zero_le _) (Nat.le_refl _)).2.1,fun g hg=>⟨(h.2.1.lt g hg).1,h.2.2 g hg⟩⟩
theorem RO.bs {w:World} {S:Nat→Prop} {v:Value} {l:List Int} (h:RO w S v l):Bs w v l:=(Oz h.1 rfl h.2.1).elim fun _ h=>h.2.bs
theorem RO.mono {w:World} {S S':Nat→Prop} {v:Value} {l:List Int} (h:RO w S v l) (hS:∀ b,S b→S' b):RO w S' v l:=⟨h.1,h.2.1,fun g hg=>hS g (h.2.2 g hg)⟩
theorem RO.frame {w w':World} {S:Nat→Prop} {v:Value} {l:List Int} (h:RO w S v l) (hw:∀ b,S b→b < w.heap.size→w'.heap[b]?=w.heap[b]?):RO w' S v l:=by
 refine ⟨h.1,⟨h.2.1.1,?_⟩,h.2.2⟩
 rcases h.2.1.2 with hn | ⟨g,cap,cur,hv,hg,hh,r⟩
 ·exact .inl hn
 ·exact .inr ⟨g,cap,cur,hv,hg,(hw g (h.2.2 g (by rw [hv];rfl)) (lt_of_heap hh)).trans hh,r⟩
theorem RO.below {w w':World} {S:Nat→Prop} {v:Value} {l:List Int} (h:RO w S v l) (hb:Below w.heap.size w w'):RO w' S v l:=h.frame fun b _ hlt=>hb.block b hlt
theorem RO.nil (w:World) (S:Nat→Prop):RO w S (.slice none 0 0) []:=⟨Fb,World.ownsRow_nil _ _ _ _,fun g hg=>by simp [Value.ownBlock] at hg⟩
def Fp (_:World) (c:List Value) (n:Int):Prop:=c=[.int .i64 n]∧aB n
def zH (w:World) (c:List Value) (m:aF):Prop:=∃ u,c=[.int .i64 m.uid,.int .i64 m.flags,.int .i64 m.seq,u]∧Bs w u m.text∧aB m.uid∧aB m.flags∧aB m.seq
def xS (_:World) (c:List Value) (m:bf):Prop:=c=[.int .i64 m.uid,.int .i64 m.seq]∧aB m.uid∧aB m.seq
abbrev dS:=Rd 1 Fp
abbrev bY:=Rd 4 zH
abbrev bO:=Rd 2 xS
def vU (w:World) (c:List Value) (b:aD):Prop :=
 ∃ u0 u1 u2,c=[u0,.int .i64 b.valid,.int .i64 b.next,.int .i64 b.seq,u1,u2,.int .i64 b.lost]∧Bs w u0 b.name∧bY w u1 b.ah∧bO w u2 b.au∧aB b.valid∧aB b.next∧aB b.seq∧aB b.lost
abbrev cK:=Rd 7 vU
theorem nP:Keeps Fp:=fun _ _ _ _ _ h=>h
theorem dY:Keeps xS:=fun _ _ _ _ _ h=>h
theorem eU:Keeps zH:=fun _ _ _ _ hb h=>let ⟨u,h0,h1,r⟩:=h;⟨u,h0,h1.below hb,r⟩
theorem lq:Keeps vU:=fun _ _ _ _ hb h=>let ⟨u0,u1,u2,h0,h1,h2,h3,r⟩:=h;⟨u0,u1,u2,h0,h1.below hb,h2.below eU hb,h3.below dY hb,r⟩
def xU (_:World) (c:List Value) (n:Int) (_:Nat→Prop):Prop:=c=[.int .i64 n]∧aB n
def je (w:World) (c:List Value) (m:aF) (S:Nat→Prop):Prop:=∃ u,c=[.int .i64 m.uid,.int .i64 m.flags,.int .i64 m.seq,u]∧RO w S u m.text∧aB m.uid∧aB m.flags∧aB m.seq
def vV (_:World) (c:List Value) (m:bf) (_:Nat→Prop):Prop:=c=[.int .i64 m.uid,.int .i64 m.seq]∧aB m.uid∧aB m.seq
theorem oH:Frames xU:=fun _ _ _ _ _ h _=>h
theorem jB:Frames vV:=fun _ _ _ _ _ h _=>h
theorem kI:Frames je:=fun _ _ _ _ _ h hw=>let ⟨u,h0,h1,r⟩:=h;⟨u,h0,h1.frame hw,r⟩
abbrev gQ:=Ow 3 1 xU
abbrev jO:=Ow 124 4 je
abbrev fB:=Ow 126 2 vV
def dh (w:World) (c:List Value) (b:aD) (S:Nat→Prop):Prop :=
 ∃ u0 u1 u2 S0 S1 S2,c=[u0,.int .i64 b.valid,.int .i64 b.next,.int .i64 b.seq,u1,u2,.int .i64 b.lost]∧RO w S0 u0 b.name∧jO w S1 u1 b.ah∧fB w S2 u2 b.au∧(∀ x,S0 x→S x∧¬ S1 x∧¬ S2 x)∧(∀ x,S1 x→S x∧¬ S2 x)∧(∀ x,S2 x→S x) ∧
  aB b.valid∧aB b.next∧aB b.seq∧aB b.lost
theorem gq:Frames dh:=fun _ _ _ _ _ h hw =>
 let ⟨u0,u1,u2,S0,S1,S2,h0,h1,h2,h3,d0,d1,d2,r⟩:=h
 ⟨u0,u1,u2,S0,S1,S2,h0,h1.frame fun b hb=>hw b (d0 b hb).1,h2.frame kI fun b hb=>hw b (d1 b hb).1,h3.frame jB fun b hb=>hw b (d2 b hb),d0,d1,d2,r⟩
abbrev l7:=Ow 37 7 dh
theorem je.rd {w:World} {c:List Value} {m:aF} {S:Nat→Prop} (h:je w c m S):zH w c m:=let ⟨u,h0,h1,r⟩:=h;⟨u,h0,h1.bs,r⟩
theorem dh.rd {w:World} {c:List Value} {b:aD} {S:Nat→Prop} (h:dh w c b S):vU w c b :=
 let ⟨u0,u1,u2,_,_,_,h0,h1,h2,h3,_,_,_,r⟩:=h;⟨u0,u1,u2,h0,h1.bs,h2.rd fun _ _ _ _=>je.rd,h3.rd fun _ _ _ _ h=>h,r⟩
def dM (w:World) (v:Value) (a:aJ):Prop:=∃ u0 u1,v=.agg #[.int .i64 a.valid,u0,u1]∧cK w u0 a.boxes∧dS w u1 a.seen∧aB a.valid
theorem dM.below {w w':World} {v:Value} {a:aJ} (h:dM w v a) (hb:Below w.heap.size w w'):dM w' v a:=let ⟨u0,u1,h0,h1,h2,r⟩:=h;⟨u0,u1,h0,h1.below lq hb,h2.below nP hb,r⟩
def jY (w:World) (S:Nat→Prop) (v:Value) (a:aJ):Prop:=∃ u0 u1 S0 S1,v=.agg #[.int .i64 a.valid,u0,u1]∧l7 w S0 u0 a.boxes∧gQ w S1 u1 a.seen∧(∀ x,S0 x→S x∧¬ S1 x)∧(∀ x,S1 x→S x)∧aB a.valid
theorem jY.v {w:World} {S:Nat→Prop} {v:Value} {a:aJ} (h:jY w S v a):dM w v a :=
 let ⟨u0,u1,_,_,h0,h1,h2,_,_,r⟩:=h;⟨u0,u1,h0,h1.rd fun _ _ _ _=>dh.rd,h2.rd fun _ _ _ _ h=>h,r⟩
theorem jY.frame {w w':World} {S:Nat→Prop} {v:Value} {a:aJ} (h:jY w S v a) (hw:∀ b,S b→b < w.heap.size→w'.heap[b]?=w.heap[b]?):jY w' S v a :=
 let ⟨u0,u1,S0,S1,h0,h1,h2,d0,d1,r⟩:=h;⟨u0,u1,S0,S1,h0,h1.frame gq fun b hb=>hw b (d0 b hb).1,h2.frame oH fun b hb=>hw b (d1 b hb),d0,d1,r⟩
theorem jY.below {w w':World} {S:Nat→Prop} {v:Value} {a:aJ} (h:jY w S v a) (hb:Below w.heap.size w w'):jY w' S v a:=h.frame fun b _ hlt=>hb.block b hlt
/-- A box as a value. -/
def bK (w:World) (v:Value) (b:aD):Prop :=
 ∃ u0 u1 u2,v=.agg #[u0,.int .i64 b.valid,.int .i64 b.next,.int .i64 b.seq,u1,u2,.int .i64 b.lost]∧Bs w u0 b.name∧bY w u1 b.ah∧bO w u2 b.au∧aB b.valid∧aB b.next∧aB b.seq∧aB b.lost
theorem bK.below {w w':World} {v:Value} {b:aD} (h:bK w v b) (hb:Below w.heap.size w w'):bK w' v b:=let ⟨u0,u1,u2,h0,h1,h2,h3,r⟩:=h;⟨u0,u1,u2,h0,h1.below hb,h2.below eU hb,h3.below dY hb,r⟩
def pV (w:World) (S:Nat→Prop) (v:Value) (b:aD):Prop:=∃ c,v=.agg c.toArray∧dh w c b S
theorem pV.v {w:World} {S:Nat→Prop} {v:Value} {b:aD} (h:pV w S v b):bK w v b:=by
 obtain ⟨c,rfl,h⟩:=h
 obtain ⟨u0,u1,u2,rfl,r⟩:=h.rd
 exact ⟨u0,u1,u2,rfl,r⟩
def gK (w:World) (v:Value) (m:aF):Prop:=∃ u,v=.agg #[.int .i64 m.uid,.int .i64 m.flags,.int .i64 m.seq,u]∧Bs w u m.text∧aB m.uid∧aB m.flags∧aB m.seq
theorem gK.below {w w':World} {v:Value} {m:aF} (h:gK w v m) (hb:Below w.heap.size w w'):gK w' v m:=let ⟨u,h0,h1,r⟩:=h;⟨u,h0,h1.below hb,r⟩
/-- One element's cells, as the walk asks for them. -/
theorem dS.cell {w:World} {v:Value} {l:List Int} (h:dS w v l) (k:Nat) (x:Int) (hx:l[k]?=some x):∃ b off cap,v=.slice (some ⟨b,off,none⟩) l.length cap∧b < w.heap.size∧w.cell? ⟨b,off+k,none⟩=some (.int .i64 x)∧aB x:=by
 obtain ⟨b,off,cap,c,hv,hlt,⟨rfl,hi⟩,-,hc⟩:=h.get k x hx
 exact ⟨b,off,cap,hv,hlt,by simpa using hc 0 _ rfl,hi⟩
theorem bO.cell {w:World} {v:Value} {l:List bf} (h:bO w v l) (k:Nat) (x:bf) (hx:l[k]?=some x):∃ b off cap,v=.slice (some ⟨b,off,none⟩) l.length cap∧b < w.heap.size∧w.cell? ⟨b,off+k * 2,none⟩=some (.int .i64 x.uid)∧w.cell? ⟨b,off+k * 2+1,none⟩=some (.int .i64 x.seq)∧aB x.uid∧aB x.seq:=by
 obtain ⟨b,off,cap,c,hv,hlt,⟨rfl,hi⟩,-,hc⟩:=h.get k x hx
 exact ⟨b,off,cap,hv,hlt,hc 0 _ rfl,hc 1 _ rfl,hi⟩
theorem bY.cell {w:World} {v:Value} {l:List aF} (h:bY w v l) (k:Nat) (x:aF) (hx:l[k]?=some x):∃ b off cap u,v=.slice (some ⟨b,off,none⟩) l.length cap∧b < w.heap.size∧w.cell? ⟨b,off+k * 4,none⟩=some (.int .i64 x.uid)∧w.cell? ⟨b,off+k * 4+1,none⟩=some (.int .i64 x.flags) ∧
  w.cell? ⟨b,off+k * 4+2,none⟩=some (.int .i64 x.seq)∧w.cell? ⟨b,off+k * 4+3,none⟩=some u∧Bs w u x.text∧aB x.uid∧aB x.flags∧aB x.seq:=by
 obtain ⟨b,off,cap,c,hv,hlt,⟨u,rfl,hu,hi⟩,-,hc⟩:=h.get k x hx
 exact ⟨b,off,cap,u,hv,hlt,hc 0 _ rfl,hc 1 _ rfl,hc 2 _ rfl,hc 3 _ rfl,hu,hi⟩
theorem cK.cell {w:World} {v:Value} {l:List aD} (h:cK w v l) (k:Nat) (x:aD) (hx:l[k]?=some x):∃ b off cap u0 u1 u2,v=.slice (some ⟨b,off,none⟩) l.length cap∧b < w.heap.size∧w.cell? ⟨b,off+k * 7,none⟩=some u0∧w.cell? ⟨b,off+k * 7+1,none⟩=some (.int .i64 x.valid) ∧
  w.cell? ⟨b,off+k * 7+2,none⟩=some (.int .i64 x.next)∧w.cell? ⟨b,off+k * 7+3,none⟩=some (.int .i64 x.seq)∧w.cell? ⟨b,off+k * 7+4,none⟩=some u1∧w.cell? ⟨b,off+k * 7+5,none⟩=some u2∧w.cell? ⟨b,off+k * 7+6,none⟩=some (.int .i64 x.lost) ∧
  Bs w u0 x.name∧bY w u1 x.ah∧bO w u2 x.au∧aB x.valid∧aB x.next∧aB x.seq∧aB x.lost:=by
 obtain ⟨b,off,cap,c,hv,hlt,⟨u0,u1,u2,rfl,h0,h1,h2,hi⟩,-,hc⟩:=h.get k x hx
 exact ⟨b,off,cap,u0,u1,u2,hv,hlt,hc 0 _ rfl,hc 1 _ rfl,hc 2 _ rfl,hc 3 _ rfl,hc 4 _ rfl,hc 5 _ rfl,hc 6 _ rfl,h0,h1,h2,hi⟩
/-- How many values a fQ, a list of ah, a box, a list of boxes hold. -/
def dG (l:List aF):Nat:=(l.map fun m=>m.text.length+1).sum
def bA (b:aD):Nat:=b.name.length+dG b.ah+b.au.length
def jf (l:List aD):Nat:=(l.map fun b=>bA b+1).sum
theorem zI {l:List aF} {m:aF} (h:m ∈ l):m.text.length+1≤dG l:=by
 induction l with
 | nil=>cases h
 | cons x l ih =>
  simp only [dG,List.map_cons,List.sum_cons] at ih ⊢
  rcases List.mem_cons.1 h with rfl | h
  ·omega
  ·have:=ih h;omega
theorem Fq {l:List aD} {b:aD} (h:b ∈ l):bA b+1≤jf l:=by
 induction l with
 | nil=>cases h
 | cons x l ih =>
  simp only [jf,List.map_cons,List.sum_cons] at ih ⊢
  rcases List.mem_cons.1 h with rfl | h
  ·omega
  ·have:=ih h;omega
theorem jZ (l:List aF):l.length≤dG l:=by
 induction l with
 | nil=>simp [dG]
 | cons x l ih=>simp only [dG,List.map_cons,List.sum_cons,List.length_cons] at ih ⊢;omega
theorem Fu (l:List aD):l.length≤jf l:=by
 induction l with
 | nil=>simp [jf]
 | cons x l ih=>simp only [jf,List.map_cons,List.sum_cons,List.length_cons] at ih ⊢;omega
end Go.Proofs.YtlneebmlhblleaaGreat
