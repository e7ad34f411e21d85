/- The proof's texts, part 1. -/
import Derived.WalkKit
import Derived.WalkSpells
import Derived.WalkLawsBesides
import Derived.Laws.AppendOwnNone

/- Plain facts on bytes in memory: what a slice reads as, what a call owns; no program is named here. -/
namespace Go.Proofs.YtnlhkgoppjejeaaDoor
open Go.RowKit

/-- Every number of the list is a byte. -/
def Oct (l:List Int):Prop:=∀ x ∈ l,0≤x∧x≤255
/-- The cells of a list of bytes. -/
def vals (l:List Int):List Value:=l.map (Value.int .u8)

theorem length_vals (l:List Int):(vals l).length=l.length:=by simp [vals]
theorem vals_append (a b:List Int):vals (a ++ b)=vals a ++ vals b:=by simp [vals]
theorem vals_get (l:List Int) (i:Nat) (h:i < l.length):(vals l)[i]?=some (.int .u8 (l.getD i 0)):=by
 simp [vals,h]
theorem oct_nil:Oct []:=by intro x hx;simp at hx
theorem oct_append {a b:List Int} (ha:Oct a) (hb:Oct b):Oct (a ++ b):=by
 intro x hx
 rcases List.mem_append.1 hx with h | h
 ·exact ha x h
 ·exact hb x h
theorem oct_get {l:List Int} (h:Oct l) (i:Nat):0≤l.getD i 0∧l.getD i 0≤255:=by
 by_cases hi:i < l.length
 ·have:l.getD i 0=l[i]:=by simp [hi]
  rw [this];exact h _ (List.getElem_mem hi)
 ·have:l.getD i 0=0:=by simp [Nat.not_lt.1 hi]
  rw [this];omega
theorem oct_take {l:List Int} (h:Oct l) (k:Nat):Oct (l.take k):=fun x hx=>h x (List.mem_of_mem_take hx)
theorem oct_drop {l:List Int} (h:Oct l) (k:Nat):Oct (l.drop k):=fun x hx=>h x (List.mem_of_mem_drop hx)
theorem oneCell_vals (l:List Int):∀ u ∈ vals l,u.oneCell'=true:=ints_oneCell .u8 l

/-- The slice value v reads in the world w as the bytes l. -/
def Bs (w:World) (v:Value) (l:List Int):Prop :=
 Oct l∧∃ a cap,v=.slice a l.length cap∧l.length≤cap∧cap≤maxLen∧(a=none→cap=0) ∧
  (0 < l.length→∃ b off,a=some ⟨b,off,none⟩∧b < w.heap.size∧∀ i,i < l.length→w.cell? ⟨b,off+i,none⟩=some (.int .u8 (l.getD i 0)))

/-- The slice value v is nil, or it lies at the head of block g, whose first cells are the bytes l; nobody else need be asked ahead of a store there. -/
def Own (w:World) (g:Nat) (v:Value) (l:List Int):Prop :=
 Oct l∧((v=.slice none 0 0∧l=[]) ∨
  ∃ cap cur,v=.slice (some ⟨g,0,none⟩) l.length cap∧w.heap[g]?=some (.cells cur 5 (0,0))∧l.length≤cap∧cap≤maxLen∧cur.size=cap∧cur.toList.take l.length=vals l)

theorem Own.row {w:World} {g:Nat} {v:Value} {l:List Int} (h:Own w g v l):w.ownsRow g 5 1 v l.length (vals l):=by
 refine ⟨by simp [length_vals],?_⟩
 rcases h.2 with ⟨hv,hl⟩ | ⟨cap,cur,hv,hh,h1,h2,h3,h4⟩
 ·exact .inl ⟨hv,by simp [hl]⟩
 ·exact .inr ⟨g,cap,cur,hv,Nat.le_refl _,hh,h1,h2,by simpa using h3,by simpa using h4⟩

theorem lt_of_heap {w:World} {g:Nat} {o:Obj} (h:w.heap[g]?=some o):g < w.heap.size:=(Array.getElem?_eq_some_iff.1 h).1

theorem Own.bs {w:World} {g:Nat} {v:Value} {l:List Int} (h:Own w g v l):Bs w v l:=by
 refine ⟨h.1,?_⟩
 rcases h.2 with ⟨hv,hl⟩ | ⟨cap,cur,hv,hh,h1,h2,h3,h4⟩
 ·subst hl
  exact ⟨none,0,by simpa using hv,by simp,by simp,fun _=>rfl,fun h=>by simp at h⟩
 ·refine ⟨_,cap,hv,h1,h2,(fun h=>by cases h),fun hp=>⟨g,0,rfl,lt_of_heap hh,fun i hi=>?_⟩⟩
  rw [Nat.zero_add,cell_of_row w g i cur 5 (0,0) hh]
  have e:=vals_get l i hi
  rw [← h4,List.getElem?_take,if_pos hi] at e
  simpa using e

/-- What is kept while nothing below the heap's size turns. -/
theorem Bs.below {w w':World} {v:Value} {l:List Int} (h:Bs w v l) (hb:Below w.heap.size w w'):Bs w' v l:=by
 obtain ⟨ho,a,cap,hv,h1,h2,h3,h4⟩:=h
 refine ⟨ho,a,cap,hv,h1,h2,h3,fun hp=>?_⟩
 obtain ⟨b,off,ha,hlt,hc⟩:=h4 hp
 exact ⟨b,off,ha,Nat.lt_of_lt_of_le hlt hb.size,fun i hi=>(hb.cell (p:=⟨b,off+i,none⟩) hlt).trans (hc i hi)⟩

theorem Own.below {w w':World} {g:Nat} {v:Value} {l:List Int} (h:Own w g v l) (hb:Below w.heap.size w w'):Own w' g v l:=by
 refine ⟨h.1,?_⟩
 rcases h.2 with hn | ⟨cap,cur,hv,hh,r⟩
 ·exact .inl hn
 ·exact .inr ⟨cap,cur,hv,(hb.block g (lt_of_heap hh)).trans hh,r⟩

/-- What is kept while other blocks are written. -/
theorem Own.kept {w w':World} {g k:Nat} {v:Value} {l:List Int} (h:Own w g v l) (hk:w.grownBy w' (some k)) (hne:g≠k):Own w' g v l:=by
 refine ⟨h.1,?_⟩
 rcases h.2 with hn | ⟨cap,cur,hv,hh,r⟩
 ·exact .inl hn
 ·exact .inr ⟨cap,cur,hv,(hk.block g (lt_of_heap hh) (by simpa using hne)).trans hh,r⟩

theorem Own.grow {w w':World} {g:Nat} {v:Value} {l:List Int} (h:Own w g v l) (hk:w.grownBy w' none):Own w' g v l:=by
 refine ⟨h.1,?_⟩
 rcases h.2 with hn | ⟨cap,cur,hv,hh,r⟩
 ·exact .inl hn
 ·exact .inr ⟨cap,cur,hv,(hk.block g (lt_of_heap hh) (by simp)).trans hh,r⟩

/-- A row that was made whole. -/
theorem own_made {w:World} {g:Nat} {l:List Int} (ho:Oct l) (hm:l.length≤maxLen) (hh:w.heap[g]?=some (.cells (vals l).toArray 5 (0,0))) :
  Own w g (.slice (some ⟨g,0,none⟩) l.length l.length) l :=
 ⟨ho,.inr ⟨l.length,_,rfl,hh,Nat.le_refl _,hm,by simp [length_vals],by simp [← length_vals]⟩⟩

/-- A row that 'make' has laid. -/
theorem made_heap {w:World} {B g n:Nat} {e:TypeId} {z:Value} (hown:w.ownsRow B e 1 (.slice (some ⟨g,0,none⟩) n n) n (madeCells #[z] n).toList) :
  w.heap[g]?=some (.cells (List.replicate n z).toArray e (0,0)):=by
 rcases hown.2 with ⟨h,_⟩ | ⟨g',c,cur,h,_,hh,_,_,h3,h4⟩
 ·simp at h
 ·simp only [Value.slice.injEq,Option.some.injEq,Addr.mk.injEq,and_true,true_and] at h
  obtain ⟨rfl,rfl⟩:=h
  rw [Nat.mul_one,toList_madeCells_one,List.take_of_length_le (by simp;omega)] at h4
  rw [← h4]
  simpa using hh

theorem grownBy_setCell {w wr:World} {g j:Nat} {u:Value} (h:w.grownBy wr (some g)):w.grownBy (wr.setCell ⟨g,j,none⟩ u) (some g) :=
 ⟨h.os,h.tape,h.output,by have:=h.size;simpa [World.setCell] using this,fun k hk hne=>(Below.heap_setCell wr ⟨g,j,none⟩ u k (by simpa using hne)).trans (h.block k hk hne)⟩

theorem grownBy_trans {w w1 w2:World} {r:Option Nat} (h:w.grownBy w1 r) (h':w1.grownBy w2 r):w.grownBy w2 r :=
 ⟨h'.os.trans h.os,h'.tape.trans h.tape,h'.output.trans h.output,Nat.le_trans h.size h'.size,fun k hk hne=>(h'.block k (Nat.lt_of_lt_of_le hk h.size) hne).trans (h.block k hk hne)⟩

theorem below_drewN {w w1:World} {B:Nat} (n:Nat) (h:Below B w w1):Below B w (w1.drewN n):=⟨h.os,h.tape,h.output,h.size,h.block⟩
theorem Own.drewN {w:World} {g:Nat} {v:Value} {l:List Int} (n:Nat) (h:Own w g v l):Own (w.drewN n) g v l:=h
theorem Bs.drewN {w:World} {v:Value} {l:List Int} (n:Nat) (h:Bs w v l):Bs (w.drewN n) v l:=h

/-- Out of the kit's word on a row that the call owns. -/
theorem own_of_row {w:World} {B n:Nat} {v:Value} {l:List Int} (ho:Oct l) (hn:n=l.length) (h:w.ownsRow B 5 1 v n (vals l)):∃ g,B≤g∧Own w g v l:=by
 subst hn
 rcases h.2 with ⟨hv,hl⟩ | ⟨g,cap,cur,hv,hB,hh,h1,h2,h3,h4⟩
 ·exact ⟨B,Nat.le_refl _,ho,.inl ⟨hv,List.eq_nil_of_length_eq_zero hl⟩⟩
 ·exact ⟨g,hB,ho,.inr ⟨cap,cur,hv,hh,h1,h2,by simpa using h3,by simpa using h4⟩⟩

/-- The bytes of a number: seven bits a byte, the lowest first; f more bytes may follow. -/
def enc:Nat→Int→List Int
 | 0,n=>[n]
 | f+1,n=>if 127 < n then (n % 128+128) :: enc f (n / 128) else [n]

theorem enc_length (f:Nat) (n:Int):1≤(enc f n).length∧(enc f n).length≤f+1:=by
 induction f generalizing n with
 | zero=>simp [enc]
 | succ f ih =>
  unfold enc
  split
  ·have:=ih (n / 128);simp;omega
  ·simp
/-- What PutNum answers, as a list. -/
def putL (b:List Int) (n:Int):List Int:=if 0≤n∧n≤2147483647 then b ++ enc 4 n else b
theorem putL_length (b:List Int) (n:Int):b.length≤(putL b n).length∧(putL b n).length≤b.length+5:=by
 unfold putL
 split
 ·have:=enc_length 4 n;simp;omega
 ·omega

end Go.Proofs.YtnlhkgoppjejeaaDoor

/- append of bytes to a row of the call's own, as one law for the walk: what is appended may be nil. -/
namespace Go.Proofs.YtnlhkgoppjejeaaDoor
open Go.RowKit

/-- The value v is nil or lies at the head of a block from B on, whose first cells are the bytes l. -/
def OwnB (w:World) (B:Nat) (v:Value) (l:List Int):Prop:=∃ g,B≤g∧Own w g v l

theorem OwnB.bs {w:World} {B:Nat} {v:Value} {l:List Int} (h:OwnB w B v l):Bs w v l:=let ⟨_,_,h⟩:=h;h.bs
theorem OwnB.oct {w:World} {B:Nat} {v:Value} {l:List Int} (h:OwnB w B v l):Oct l:=let ⟨_,_,h⟩:=h;h.1
theorem OwnB.row {w:World} {B:Nat} {v:Value} {l:List Int} (h:OwnB w B v l):w.ownsRow B 5 1 v l.length (vals l):=by
 obtain ⟨g,hB,h⟩:=h
 have h':=h.row
 refine ⟨h'.1,?_⟩
 rcases h'.2 with h' | ⟨g',cap,cur,hv,hg,r⟩
 ·exact .inl h'
 ·exact .inr ⟨g',cap,cur,hv,Nat.le_trans hB hg,r⟩
theorem OwnB.alloc {w:World} {B:Nat} {v:Value} {l:List Int} (h:OwnB w B v l) (o:Obj):OwnB (w.alloc o) B v l :=
 let ⟨g,hB,h⟩:=h;⟨g,hB,h.grow (World.grownBy_alloc w o none)⟩
theorem OwnB.below {w w':World} {B:Nat} {v:Value} {l:List Int} (h:OwnB w B v l) (hb:Below w.heap.size w w'):OwnB w' B v l :=
 let ⟨g,hB,h⟩:=h;⟨g,hB,h.below hb⟩
theorem ownB_empty (w:World) (B:Nat) (hB:B≤w.heap.size):OwnB (w.alloc (.cells #[] 5)) B (.slice (some ⟨w.heap.size,0,none⟩) 0 0) [] :=
 ⟨w.heap.size,hB,oct_nil,.inr ⟨0,#[],rfl,heap_alloc_new w _,by simp,by simp,rfl,by simp [vals]⟩⟩

/-- One byte in a new block of its own: what 'append(out, x)' lays ahead. -/
theorem bs_one (w:World) (x:Int) (h:0≤x∧x≤255):Bs (w.alloc (.cells #[.int .u8 x] 5)) (.slice (some ⟨w.heap.size,0,none⟩) 1 1) [x]:=by
 refine ⟨by intro y hy;simp at hy;subst hy;exact h,_,1,rfl,by simp,by decide,(fun h=>by cases h),fun _=>⟨w.heap.size,0,rfl,by simp,fun i hi=>?_⟩⟩
 have:i=0:=by simp at hi;omega
 subst this
 simp

theorem Bs.alloc {w:World} {v:Value} {l:List Int} (h:Bs w v l) (o:Obj):Bs (w.alloc o) v l :=
 h.below ((Below.refl _ _).alloc (Nat.le_refl _) o)

theorem wpList_append_bytes {P:Program} {w:World} {ops:Array Oper} {rest:List Oper} {o:Oper} {a:Act} {Q:Exit→Act→World→Prop} (hgd:o.guard=none) (s x:Operand) (t:TypeId)
  (ho:o.op=.call { callee:=.builtin .append,args:=#[s,x],argTypes:=#[t,t] })
  (i:TypeInfo) (ht:P.underlying t=some (.slice 5)) (hi:P.info? 5=some i) (hz:i.zero=some (.int .u8 0)) (hsize:i.size=1) (hby:i.bytes=1)
  (B:Nat) (v:Value) (l:List Int) (hs:a.eval s=v) (hown:OwnB w B v l) (u:Value) (m:List Int) (hx:a.eval x=u) (hm:Bs w u m)
  (hlen:l.length+m.length≤140737488355328) (hbase:B≤w.heap.size) (w0:World) (hb:Below B w0 w)
  (h:∀ v' w',OwnB w' B v' (l ++ m)→Below B w0 w'→w.grownBy w' v.ownBlock→wpList P ops Q rest (a.put o.dst v') w'):wpList P ops Q (o :: rest) a w:=by
 obtain ⟨hmo,ad,cap,hu,h1,h2,h3,h4⟩:=hm
 have hr:=hown.row
 cases ad with
 | none =>
  have:cap=0:=h3 rfl
  subst this
  have:m=[]:=List.eq_nil_of_length_eq_zero (by omega)
  subst this
  refine wpList_append_own_none hgd s x t ho B 5 i 1 ht hi v l.length (vals l) hs hr (by rw [hx,hu];rfl) ?_
  exact h v w (by simpa using hown) hb (World.grownBy.refl _ _)
 | some ad =>
  have hl:l.length+m.length≤maxLen:=by unfold maxLen;omega
  refine wpList_append_own w hgd s x t ho B 5 i (.int .u8 0) 1 1 ht hi hz hsize hby rfl (by omega) v l.length (vals l) hs hr ad m.length cap (vals m) (by rw [hx,hu]) (by simp [length_vals]) ?_ (oneCell_vals m) hl (by omega) hbase ?_
  ·intro j y hy
   have hj:j < m.length:=by have:=(List.getElem?_eq_some_iff.1 hy).1;simpa [length_vals] using this
   obtain ⟨b,off,had,_,hc⟩:=h4 (by omega)
   cases had
   rw [Addr.add_lit,hc j hj,← hy,vals_get m j hj]
  ·intro v' w' hown' hg _
   obtain ⟨g,hgB,hg'⟩:=own_of_row (n:=l.length+m.length) (oct_append hown.oct hmo) (by simp) (by rw [vals_append];exact hown')
   exact h v' w' ⟨g,hgB,hg'⟩ (hb.grown hg hbase (fun k hk=>(hr.lt k hk).1)) hg

theorem enc_hi (f:Nat) (m:Int) (h:127 < m):enc (f+1) m=(m % 128+128) :: enc f (m / 128):=by simp [enc,h]
theorem enc_lo (f:Nat) (m:Int) (h:¬ 127 < m):enc f m=[m]:=by cases f <;> simp [enc,h]
theorem enc_step {xs l:List Int} {f:Nat} {m n:Int} (h:127 < m) (e:xs ++ enc (f+1) m=l ++ enc 4 n):(xs ++ [m % 128+128]) ++ enc f (m / 128)=l ++ enc 4 n:=by
 rw [← e,enc_hi f m h];simp

end Go.Proofs.YtnlhkgoppjejeaaDoor

/- Rows of bytes that lie in blocks from B on and below T: so that two of them are seen to be apart. -/
namespace Go.Proofs.YtnlhkgoppjejeaaDoor
open Go.RowKit

/-- The value v is nil, or lies at the head of a block from B on and below T; its bytes are l. -/
def Row (w:World) (B T:Nat) (v:Value) (l:List Int):Prop :=
 Oct l∧w.ownsRow B 5 1 v l.length (vals l)∧∀ g,v.ownBlock=some g→g < T

theorem OwnB.toRow {w:World} {B:Nat} {v:Value} {l:List Int} (h:OwnB w B v l):Row w B w.heap.size v l:=⟨h.oct,h.row,fun g hg=>(h.row.lt g hg).2⟩
/-- A row whose block is known. -/
theorem Own.toRow {w:World} {g:Nat} {v:Value} {l:List Int} (h:Own w g v l):Row w g (g+1) v l:=by
 refine ⟨h.1,h.row,fun k hk=>?_⟩
 rcases h.2 with ⟨hv,_⟩ | ⟨cap,cur,hv,_⟩
 ·rw [hv] at hk;simp [Value.ownBlock] at hk
 ·rw [hv] at hk;simp [Value.ownBlock] at hk;omega
theorem Row.oct {w:World} {B T:Nat} {v:Value} {l:List Int} (h:Row w B T v l):Oct l:=h.1
theorem Row.own {w:World} {B T:Nat} {v:Value} {l:List Int} (h:Row w B T v l):OwnB w B v l:=own_of_row h.1 rfl h.2.1
theorem Row.bs {w:World} {B T:Nat} {v:Value} {l:List Int} (h:Row w B T v l):Bs w v l:=h.own.bs
theorem Row.wide {w:World} {B T B' T':Nat} {v:Value} {l:List Int} (h:Row w B T v l) (hB:B'≤B) (hT:T≤T'):Row w B' T' v l:=by
 refine ⟨h.1,⟨h.2.1.1,?_⟩,fun g hg=>Nat.lt_of_lt_of_le (h.2.2 g hg) hT⟩
 rcases h.2.1.2 with hn | ⟨g,cap,cur,hv,hg,r⟩
 ·exact .inl hn
 ·exact .inr ⟨g,cap,cur,hv,Nat.le_trans hB hg,r⟩
theorem Row.below {w w':World} {B T:Nat} {v:Value} {l:List Int} (h:Row w B T v l) (hb:Below w.heap.size w w'):Row w' B T v l :=
 ⟨h.1,(h.own.below hb).row,h.2.2⟩
/-- Another row was written. -/
theorem Row.kept {w w':World} {B T B' T':Nat} {v u:Value} {l m:List Int} (h:Row w B T v l) (hu:Row w B' T' u m) (hg:w.grownBy w' u.ownBlock) (hd:T≤B'∨T'≤B):Row w' B T v l:=by
 refine ⟨h.1,h.2.1.kept hg ?_,h.2.2⟩
 cases hv:v.ownBlock with
 | none=>exact .inl rfl
 | some g =>
  refine .inr fun e=>?_
  have h1:=(h.2.1.lt g hv).1
  have h2:=h.2.2 g hv
  have h3:=(hu.2.1.lt g e.symm).1
  have h4:=hu.2.2 g e.symm
  omega
theorem Row.nil (w:World) (B T:Nat):Row w B T (.slice none 0 0) []:=⟨oct_nil,World.ownsRow_nil _ _ _ _,fun g hg=>by simp [Value.ownBlock] at hg⟩
/-- A row stays while another block is written. -/
theorem Row.drawn {w w':World} {g B T:Nat} {v:Value} {l:List Int} (h:Row w B T v l) (hw:w.grownBy w' (some g)) (hd:g < B∨T≤g):Row w' B T v l:=by
 refine ⟨h.1,h.2.1.kept hw ?_,h.2.2⟩
 cases hv:v.ownBlock with
 | none=>exact .inl rfl
 | some k =>
  refine .inr fun e=>?_
  have h1:=(h.2.1.lt k hv).1
  have h2:=h.2.2 k hv
  simp only [Option.some.injEq] at e
  omega
/-- A row stays while a cell of another block is written. -/
theorem Row.set {w:World} {g i B T:Nat} {v x:Value} {l:List Int} (h:Row w B T v l) (hd:g < B∨T≤g):Row (w.setCell ⟨g,i,none⟩ x) B T v l :=
 h.drawn (grownBy_setCell (World.grownBy.refl _ _)) hd
theorem Below.step {w w1 w2:World} (h:Below w.heap.size w w1) (h':Below w1.heap.size w1 w2):Below w.heap.size w w2:=h.trans (h'.mono h.size)

end Go.Proofs.YtnlhkgoppjejeaaDoor

/- Logs in memory: what a log reads as; a log of the call's own; what is written within a range of blocks. -/
namespace Go.Proofs.YtnlhkgoppjejeaaDoor
open Go.RowKit

/-- Old blocks outside the range from B on and below T are as they were. -/
structure Within (B T:Nat) (w w':World):Prop where
 os:w'.os=w.os
 tape:w'.tape=w.tape
 output:w'.output=w.output
 size:w.heap.size≤w'.heap.size
 block:∀ k,k < w.heap.size→¬ (B≤k∧k < T)→w'.heap[k]?=w.heap[k]?

theorem Within.refl (B T:Nat) (w:World):Within B T w w:=⟨rfl,rfl,rfl,Nat.le_refl _,fun _ _ _=>rfl⟩
theorem Within.trans {B T:Nat} {a b c:World} (h:Within B T a b) (k:Within B T b c):Within B T a c :=
 ⟨k.os.trans h.os,k.tape.trans h.tape,k.output.trans h.output,Nat.le_trans h.size k.size,fun i hi hn=>(k.block i (Nat.lt_of_lt_of_le hi h.size) hn).trans (h.block i hi hn)⟩
theorem Within.wide {B T B' T':Nat} {a b:World} (h:Within B T a b) (hB:B'≤B) (hT:T≤T'):Within B' T' a b :=
 ⟨h.os,h.tape,h.output,h.size,fun i hi hn=>h.block i hi (fun hc=>hn ⟨by omega,by omega⟩)⟩
theorem Within.below {B T:Nat} {w0 w w':World} (h:Within B T w w') (hb:Below w0.heap.size w0 w) (hB:w0.heap.size≤B):Below w0.heap.size w0 w' :=
 ⟨h.os.trans hb.os,h.tape.trans hb.tape,h.output.trans hb.output,Nat.le_trans hb.size h.size,fun k hk=>(h.block k (Nat.lt_of_lt_of_le hk hb.size) (by omega)).trans (hb.block k hk)⟩

theorem Row.within {w w':World} {B T:Nat} {u:Value} {m:List Int} (hu:Row w B T u m) (hg:w.grownBy w' u.ownBlock):Within B T w w' :=
 ⟨hg.os,hg.tape,hg.output,hg.size,fun k hk hn=>hg.block k hk (fun e=>hn ⟨(hu.2.1.lt k e.symm).1,hu.2.2 k e.symm⟩)⟩
theorem Bs.form {w:World} {v:Value} {l:List Int} (h:Bs w v l):∃ a cap,v=.slice a l.length cap:=by obtain ⟨_,a,cap,h,_⟩:=h;exact ⟨a,cap,h⟩

theorem Bs.form3 {w:World} {v:Value} {l:List Int} (h:Bs w v l):∃ a n cap,v=.slice a n cap:=by obtain ⟨_,a,cap,h,_⟩:=h;exact ⟨a,_,cap,h⟩

theorem Bs.cap {w:World} {a:Option Addr} {n cap:Nat} {l:List Int} (h:Bs w (.slice a n cap) l):l.length≤cap∧cap≤9223372036854775807:=by
 obtain ⟨_,a',cap',hv,h1,h2,_⟩:=h
 simp only [Value.slice.injEq] at hv
 obtain ⟨-,-,rfl⟩:=hv
 exact ⟨h1,h2⟩

theorem box_other {w:World} {g k i:Nat} {o:Obj} {v:Value} (h:w.heap[g]?=some o) (hne:g≠k):(w.setCell ⟨k,i,none⟩ v).heap[g]?=some o :=
 (Below.heap_setCell w ⟨k,i,none⟩ v g hne).trans h
theorem box_below {w w':World} {g:Nat} {o:Obj} (hb:Below w.heap.size w w') (h:w.heap[g]?=some o):w'.heap[g]?=some o:=(hb.block g (lt_of_heap h)).trans h
theorem box_new (w:World) (o:Obj):(w.alloc o).heap[w.heap.size]?=some o:=heap_alloc_new w o
theorem box_alloc {w:World} {g:Nat} {o:Obj} (h:w.heap[g]?=some o) (o':Obj):(w.alloc o').heap[g]?=some o:=(Below.heap_alloc w o' g (lt_of_heap h)).trans h
/-- Two blocks that were laid one behind the other. -/
theorem boxes2 (w:World) (o0 o1:Obj):((w.alloc o0).alloc o1).heap[w.heap.size]?=some o0∧((w.alloc o0).alloc o1).heap[w.heap.size+1]?=some o1∧Below w.heap.size w ((w.alloc o0).alloc o1) :=
 ⟨box_alloc (box_new w o0) o1,by simpa using box_new (w.alloc o0) o1,((Below.refl _ _).alloc (Nat.le_refl _) _).alloc (by simp) _⟩

/-- The value v reads as the log of the bytes a and b. -/
def LogV (w:World) (v:Value) (a b:List Int):Prop:=∃ u0 u1,v=.agg #[u0,u1]∧Bs w u0 a∧Bs w u1 b
/-- A log of the call's own: its two slices lie in blocks from B on and below T, apart from each other. -/
def LogR (w:World) (B T:Nat) (v:Value) (a b:List Int):Prop :=
 ∃ u0 u1 B0 T0 B1 T1,v=.agg #[u0,u1]∧Row w B0 T0 u0 a∧Row w B1 T1 u1 b∧B≤B0∧T0≤T∧B≤B1∧T1≤T∧(T0≤B1∨T1≤B0)

theorem LogV.below {w w':World} {v:Value} {a b:List Int} (h:LogV w v a b) (hb:Below w.heap.size w w'):LogV w' v a b :=
 let ⟨u0,u1,hv,h0,h1⟩:=h;⟨u0,u1,hv,h0.below hb,h1.below hb⟩
theorem LogR.v {w:World} {B T:Nat} {v:Value} {a b:List Int} (h:LogR w B T v a b):LogV w v a b :=
 let ⟨u0,u1,_,_,_,_,hv,h0,h1,_⟩:=h;⟨u0,u1,hv,h0.bs,h1.bs⟩
theorem LogR.below {w w':World} {B T:Nat} {v:Value} {a b:List Int} (h:LogR w B T v a b) (hb:Below w.heap.size w w'):LogR w' B T v a b :=
 let ⟨u0,u1,B0,T0,B1,T1,hv,h0,h1,r⟩:=h;⟨u0,u1,B0,T0,B1,T1,hv,h0.below hb,h1.below hb,r⟩
theorem LogR.wide {w:World} {B T B' T':Nat} {v:Value} {a b:List Int} (h:LogR w B T v a b) (hB:B'≤B) (hT:T≤T'):LogR w B' T' v a b :=
 let ⟨u0,u1,B0,T0,B1,T1,hv,h0,h1,r0,r1,r2,r3,r4⟩:=h;⟨u0,u1,B0,T0,B1,T1,hv,h0,h1,by omega,by omega,by omega,by omega,r4⟩
theorem LogR.set {w:World} {g i B T:Nat} {v x:Value} {a b:List Int} (h:LogR w B T v a b) (hd:g < B∨T≤g):LogR (w.setCell ⟨g,i,none⟩ x) B T v a b :=
 let ⟨u0,u1,B0,T0,B1,T1,hv,h0,h1,r0,r1,r2,r3,r4⟩:=h
 ⟨u0,u1,B0,T0,B1,T1,hv,h0.set (by omega),h1.set (by omega),r0,r1,r2,r3,r4⟩
theorem LogR.zero (w:World) (B T:Nat) (h:B≤T):LogR w B T (.agg #[.slice none 0 0,.slice none 0 0]) [] [] :=
 ⟨_,_,B,B,B,T,rfl,Row.nil _ _ _,Row.nil _ _ _,Nat.le_refl _,h,Nat.le_refl _,Nat.le_refl _,.inl (Nat.le_refl _)⟩

end Go.Proofs.YtnlhkgoppjejeaaDoor

/- Commands in memory. -/
namespace Go.Proofs.YtnlhkgoppjejeaaDoor
open Go.RowKit

def I64 (n:Int):Prop:=-9223372036854775808≤n∧n≤9223372036854775807

/-- The value v reads as a command. -/
def CmdV (w:World) (v:Value) (k:Int) (bx tt:List Int) (uid mode fl si:Int) (tx:List Int):Prop :=
 ∃ u0 u1 u2,v=.agg #[.int .i64 k,u0,u1,.int .i64 uid,.int .i64 mode,.int .i64 fl,.int .i64 si,u2]∧Bs w u0 bx∧Bs w u1 tt∧Bs w u2 tx∧I64 k∧I64 uid∧I64 mode∧I64 fl∧I64 si
theorem CmdV.below {w w':World} {v:Value} {k:Int} {bx tt:List Int} {uid mode fl si:Int} {tx:List Int} (h:CmdV w v k bx tt uid mode fl si tx) (hb:Below w.heap.size w w'):CmdV w' v k bx tt uid mode fl si tx :=
 let ⟨u0,u1,u2,hv,h0,h1,h2,r⟩:=h;⟨u0,u1,u2,hv,h0.below hb,h1.below hb,h2.below hb,r⟩

end Go.Proofs.YtnlhkgoppjejeaaDoor

/- Blocks that hold a struct: what the walk asks of them. -/
namespace Go.Proofs.YtnlhkgoppjejeaaDoor
open Go.RowKit

/-- A block of eight cells: what the walk asks of it. -/
theorem box8 {w:World} {g:Nat} {t:TypeId} {c0 c1 c2 c3 c4 c5 c6 c7:Value} (h:w.heap[g]?=some (.cells #[c0,c1,c2,c3,c4,c5,c6,c7] t (0,0))) :
   w.cell? ⟨g,0,none⟩=some c0∧w.cell? ⟨g,1,none⟩=some c1∧w.cell? ⟨g,2,none⟩=some c2∧w.cell? ⟨g,3,none⟩=some c3∧w.cell? ⟨g,4,none⟩=some c4∧w.cell? ⟨g,5,none⟩=some c5∧w.cell? ⟨g,6,none⟩=some c6∧w.cell? ⟨g,7,none⟩=some c7 :=
 ⟨by rw [cell_of_row w g 0 _ t (0,0) h];rfl,by rw [cell_of_row w g 1 _ t (0,0) h];rfl,by rw [cell_of_row w g 2 _ t (0,0) h];rfl,by rw [cell_of_row w g 3 _ t (0,0) h];rfl,
  by rw [cell_of_row w g 4 _ t (0,0) h];rfl,by rw [cell_of_row w g 5 _ t (0,0) h];rfl,by rw [cell_of_row w g 6 _ t (0,0) h];rfl,by rw [cell_of_row w g 7 _ t (0,0) h];rfl⟩

end Go.Proofs.YtnlhkgoppjejeaaDoor

/- Commands of the call's own in memory; blocks of eight cells that are written. -/
namespace Go.Proofs.YtnlhkgoppjejeaaDoor
open Go.RowKit

/-- A command of the call's own: its three slices lie one behind the other in blocks from B on and below T. -/
def CmdR (w:World) (B T:Nat) (v:Value) (k:Int) (bx tt:List Int) (uid mode fl si:Int) (tx:List Int):Prop :=
 ∃ u0 u1 u2 T0 T1,v=.agg #[.int .i64 k,u0,u1,.int .i64 uid,.int .i64 mode,.int .i64 fl,.int .i64 si,u2]∧Row w B T0 u0 bx∧Row w T0 T1 u1 tt∧Row w T1 T u2 tx∧B≤T0∧T0≤T1∧T1≤T∧I64 k∧I64 uid∧I64 mode∧I64 fl∧I64 si

section
variable {w w' : World} {B T B' T' : Nat} {x : Value} {k : Int} {bx tt : List Int} {uid mode fl si : Int} {tx : List Int}
theorem CmdR.v (h:CmdR w B T x k bx tt uid mode fl si tx):CmdV w x k bx tt uid mode fl si tx :=
 let ⟨u0,u1,u2,_,_,hv,h0,h1,h2,_,_,_,r⟩:=h;⟨u0,u1,u2,hv,h0.bs,h1.bs,h2.bs,r⟩
theorem CmdR.below (h:CmdR w B T x k bx tt uid mode fl si tx) (hb:Below w.heap.size w w'):CmdR w' B T x k bx tt uid mode fl si tx :=
 let ⟨u0,u1,u2,T0,T1,hv,h0,h1,h2,r⟩:=h;⟨u0,u1,u2,T0,T1,hv,h0.below hb,h1.below hb,h2.below hb,r⟩
theorem CmdR.wide (h:CmdR w B T x k bx tt uid mode fl si tx) (hB:B'≤B) (hT:T≤T'):CmdR w B' T' x k bx tt uid mode fl si tx :=
 let ⟨u0,u1,u2,T0,T1,hv,h0,h1,h2,r0,r1,r2,r⟩:=h;⟨u0,u1,u2,T0,T1,hv,h0.wide hB (Nat.le_refl _),h1,h2.wide (Nat.le_refl _) hT,by omega,r1,by omega,r⟩
end

theorem box8l {w:World} {g:Nat} {t:TypeId} {c0 c1 c2 c3 c4 c5 c6 c7:Value} (h:w.heap[g]?=some (.cells #[c0,c1,c2,c3,c4,c5,c6,c7] t (0,0))) :
  w.cell? ⟨g,0,none⟩=some c0∧w.cell? ⟨g,1,none⟩=some c1∧w.cell? ⟨g,2,none⟩=some c2∧w.cell? ⟨g,3,none⟩=some c3∧w.cell? ⟨g,4,none⟩=some c4∧w.cell? ⟨g,5,none⟩=some c5∧w.cell? ⟨g,6,none⟩=some c6∧w.cell? ⟨g,7,none⟩=some c7∧g < w.heap.size:=by
 obtain ⟨f0,f1,f2,f3,f4,f5,f6,f7⟩:=box8 h
 exact ⟨f0,f1,f2,f3,f4,f5,f6,f7,lt_of_heap h⟩

/-- A block of eight cells that is written: its marks. -/
theorem box8z {w:World} {g:Nat} {t:TypeId} {cs:Array Value} (h:w.heap[g]?=some (.cells cs t (0,0))):(∀ i,w.frozen? ⟨g,i,none⟩=false)∧g < w.heap.size :=
 ⟨fun i=>frozen_of_row w g i _ t h,lt_of_heap h⟩
theorem box_set {w:World} {g i:Nat} {t:TypeId} {cs:Array Value} {v:Value} (h:w.heap[g]?=some (.cells cs t (0,0))):(w.setCell ⟨g,i,none⟩ v).heap[g]?=some (.cells (cs.setIfInBounds i v) t (0,0)):=heap_setCell_same w g i _ t v h
theorem box_size {w:World} {g i:Nat} {v:Value}:(w.setCell ⟨g,i,none⟩ v).heap.size=w.heap.size:=by simp [World.setCell]

end Go.Proofs.YtnlhkgoppjejeaaDoor
