/- The proof's texts, part 1. -/
import Derived.Test.YtfabngnaejjcmaaGreatDoorT0
import Derived.WalkKit
import Derived.WalkSpells
import Derived.WalkLawsBesides
import Derived.Laws.AppendOwnNone
import Derived.Laws.CopyOwn
import Derived.Test.YtfabngnaejjcmaaGreatDoorRows
import Derived.Deep.QuietTactic
import Derived.BigQuiet
namespace Go.Proofs.YtfabngnaejjcmaaGreatDoor
open Go.RowKit
/- Plain facts on bytes in memory: what a slice reads as, what a call owns; no program is named here. -/
/-- Every number of the list is a byte. -/
def Oct (l:List Int):Prop:=∀x ∈ l,0<=x/\x<=255
/-- The cells of a list of bytes. -/
def vals (l:List Int):List Value:=l.map (Value.int .u8)
theorem kM (l:List Int):(vals l).length=l.length:=by simp[vals]
theorem Kz (a b:List Int):vals (a ++ b)=vals a ++ vals b:=by simp[vals]
theorem Gy (l:List Int) (i:Nat) (h:i < l.length):(vals l)[i]?=some (.int .u8 (l.getD i 0)):=by
 simp[vals,h]
theorem CQ:Oct []:=by intro x hx;simp at hx
theorem KA {a b:List Int} (ha:Oct a) (hb:Oct b):Oct (a ++ b):=by
 intro x hx;rcases List.mem_append.1 hx with h | h
 ·exact ha x h
 ·exact hb x h
theorem KC {l:List Int} (h:Oct l) (i:Nat):0<=l.getD i 0/\l.getD i 0<=255:=by
 by_cases hi:i < l.length
 ·have:l.getD i 0=l[i]:=by simp[hi]
  rw[this];exact h _ (List.getElem_mem hi)
 ·have:l.getD i 0=0:=by simp[Nat.not_lt.1 hi]
  rw[this];omega
theorem Y6 {l:List Int} (h:Oct l) (k:Nat):Oct (l.take k):=λx hx=>h x (List.mem_of_mem_take hx)
theorem Qm (l:List Int):∀u ∈ vals l,u.oneCell'=true:=ints_oneCell .u8 l
/-- The slice value v reads in the world w as the bytes l. -/
def Bs (w:World) (v:Value) (l:List Int):Prop :=
 Oct l/\∃a cap,v=.slice a l.length cap/\l.length<=cap/\cap<=maxLen/\(a=none->cap=0) /\
  (0 < l.length->∃b off,a=some ⟨b,off,none⟩/\b < w.heap.size/\∀i,i < l.length->w.cell? ⟨b,off+i,none⟩=some (.int .u8 (l.getD i 0)))
/-- The slice value v is nil, or it lies at the head of block g, whose first cells are the bytes l; nobody else need be asked ahead of a store there. -/
def Own (w:World) (g:Nat) (v:Value) (l:List Int):Prop :=
 Oct l/\((v=.slice none 0 0/\l=[]) \/
  ∃cap cur,v=.slice (some ⟨g,0,none⟩) l.length cap/\w.heap[g]?=some (.cells cur 5 (0,0))/\l.length<=cap/\cap<=maxLen/\cur.size=cap/\cur.toList.take l.length=vals l)
theorem Own.row {w:World} {g:Nat} {v:Value} {l:List Int} (h:Own w g v l):w.ownsRow g 5 1 v l.length (vals l):=by
 refine⟨by simp[kM],?_⟩;rcases h.2 with⟨hv,hl⟩ | ⟨cap,cur,hv,hh,h1,h2,h3,h4⟩
 ·exact .inl ⟨hv,by simp[hl]⟩
 ·exact .inr ⟨g,cap,cur,hv,Nat.le_refl _,hh,h1,h2,by simpa using h3,by simpa using h4⟩
theorem lt_of_heap {w:World} {g:Nat} {o:Obj} (h:w.heap[g]?=some o):g < w.heap.size:=(Array.getElem?_eq_some_iff.1 h).1
theorem Own.bs {w:World} {g:Nat} {v:Value} {l:List Int} (h:Own w g v l):Bs w v l:=by
 refine⟨h.1,?_⟩;rcases h.2 with⟨hv,hl⟩ | ⟨cap,cur,hv,hh,h1,h2,h3,h4⟩
 ·subst hl
  exact⟨none,0,by simpa using hv,by simp,by simp,λ_=>rfl,λh=>by simp at h⟩
 ·refine⟨_,cap,hv,h1,h2,(λh=>by cases h),λhp=>⟨g,0,rfl,lt_of_heap hh,λi hi=>?_⟩⟩
  rw[Nat.zero_add,cell_of_row w g i cur 5 (0,0) hh];have e:=Gy l i hi;rw[← h4,List.getElem?_take,if_pos hi] at e;simpa using e
/-- What is kept while nothing below the heap's size turns. -/
theorem Bs.below {w w':World} {v:Value} {l:List Int} (h:Bs w v l) (hb:Below w.heap.size w w'):Bs w' v l:=by
 obtain⟨ho,a,cap,hv,h1,h2,h3,h4⟩:=h;refine⟨ho,a,cap,hv,h1,h2,h3,λhp=>?_⟩;obtain⟨b,off,ha,hlt,hc⟩:=h4 hp;exact⟨b,off,ha,Nat.lt_of_lt_of_le hlt hb.size,λi hi=>(hb.cell (p:=⟨b,off+i,none⟩) hlt).trans (hc i hi)⟩
theorem Own.below {w w':World} {g:Nat} {v:Value} {l:List Int} (h:Own w g v l) (hb:Below w.heap.size w w'):Own w' g v l:=by
 refine⟨h.1,?_⟩;rcases h.2 with hn | ⟨cap,cur,hv,hh,r⟩
 ·exact .inl hn
 ·exact .inr ⟨cap,cur,hv,(hb.block g (lt_of_heap hh)).trans hh,r⟩
/-- What is kept while other blocks are written. -/
theorem Own.kept {w w':World} {g k:Nat} {v:Value} {l:List Int} (h:Own w g v l) (hk:w.grownBy w' (some k)) (hne:g≠k):Own w' g v l:=by
 refine⟨h.1,?_⟩;rcases h.2 with hn | ⟨cap,cur,hv,hh,r⟩
 ·exact .inl hn
 ·exact .inr ⟨cap,cur,hv,(hk.block g (lt_of_heap hh) (by simpa using hne)).trans hh,r⟩
theorem Own.grow {w w':World} {g:Nat} {v:Value} {l:List Int} (h:Own w g v l) (hk:w.grownBy w' none):Own w' g v l:=by
 refine⟨h.1,?_⟩;rcases h.2 with hn | ⟨cap,cur,hv,hh,r⟩
 ·exact .inl hn
 ·exact .inr ⟨cap,cur,hv,(hk.block g (lt_of_heap hh) (by simp)).trans hh,r⟩
theorem grownBy_setCell {w wr:World} {g j:Nat} {u:Value} (h:w.grownBy wr (some g)):w.grownBy (wr.setCell ⟨g,j,none⟩ u) (some g) :=
 ⟨h.os,h.tape,h.output,by have:=h.size;simpa [World.setCell] using this,λk hk hne=>(Below.heap_setCell wr ⟨g,j,none⟩ u k (by simpa using hne)).trans (h.block k hk hne)⟩
theorem grownBy_trans {w w1 w2:World} {r:Option Nat} (h:w.grownBy w1 r) (h':w1.grownBy w2 r):w.grownBy w2 r :=
 ⟨h'.os.trans h.os,h'.tape.trans h.tape,h'.output.trans h.output,Nat.le_trans h.size h'.size,λk hk hne=>(h'.block k (Nat.lt_of_lt_of_le hk h.size) hne).trans (h.block k hk hne)⟩
theorem below_drewN {w w1:World} {B:Nat} (n:Nat) (h:Below B w w1):Below B w (w1.drewN n):=⟨h.os,h.tape,h.output,h.size,h.block⟩
theorem Own.drewN {w:World} {g:Nat} {v:Value} {l:List Int} (n:Nat) (h:Own w g v l):Own (w.drewN n) g v l:=h
theorem Bs.drewN {w:World} {v:Value} {l:List Int} (n:Nat) (h:Bs w v l):Bs (w.drewN n) v l:=h
/-- Out of the kit's word on a row that the call owns. -/
theorem KD {w:World} {B n:Nat} {v:Value} {l:List Int} (ho:Oct l) (hn:n=l.length) (h:w.ownsRow B 5 1 v n (vals l)):∃g,B<=g/\Own w g v l:=by
 subst hn;rcases h.2 with⟨hv,hl⟩ | ⟨g,cap,cur,hv,hB,hh,h1,h2,h3,h4⟩
 ·exact⟨B,Nat.le_refl _,ho,.inl ⟨hv,List.eq_nil_of_length_eq_zero hl⟩⟩
 ·exact⟨g,hB,ho,.inr ⟨cap,cur,hv,hh,h1,h2,by simpa using h3,by simpa using h4⟩⟩
/-- The bytes of a number: seven bits a byte, the lowest first; f more bytes may follow. -/
def enc:Nat->Int->List Int
 | 0,n=>[n]
 | f+1,n=>if 127 < n then (n % 128+128) :: enc f (n / 128) else [n]
/- append of bytes to a row of the call's own, as one law for the walk: what is appended may be nil. -/
/-- The value v is nil or lies at the head of a block from B on, whose first cells are the bytes l. -/
def iV (w:World) (B:Nat) (v:Value) (l:List Int):Prop:=∃g,B<=g/\Own w g v l
theorem iV.bs {w:World} {B:Nat} {v:Value} {l:List Int} (h:iV w B v l):Bs w v l:=let ⟨_,_,h⟩:=h;h.bs
theorem iV.KH {w:World} {B:Nat} {v:Value} {l:List Int} (h:iV w B v l):Oct l:=let ⟨_,_,h⟩:=h;h.1
theorem iV.row {w:World} {B:Nat} {v:Value} {l:List Int} (h:iV w B v l):w.ownsRow B 5 1 v l.length (vals l):=by
 obtain⟨g,hB,h⟩:=h;have h':=h.row;refine⟨h'.1,?_⟩;rcases h'.2 with h' | ⟨g',cap,cur,hv,hg,r⟩
 ·exact .inl h'
 ·exact .inr ⟨g',cap,cur,hv,Nat.le_trans hB hg,r⟩
theorem iV.alloc {w:World} {B:Nat} {v:Value} {l:List Int} (h:iV w B v l) (o:Obj):iV (w.alloc o) B v l :=
 let ⟨g,hB,h⟩:=h;⟨g,hB,h.grow (World.grownBy_alloc w o none)⟩
theorem iV.below {w w':World} {B:Nat} {v:Value} {l:List Int} (h:iV w B v l) (hb:Below w.heap.size w w'):iV w' B v l :=
 let ⟨g,hB,h⟩:=h;⟨g,hB,h.below hb⟩
/-- One byte in a new block of its own: what 'append(out, x)' lays ahead. -/
theorem Y7 (w:World) (x:Int) (h:0<=x/\x<=255):Bs (w.alloc (.cells #[.int .u8 x] 5)) (.slice (some ⟨w.heap.size,0,none⟩) 1 1) [x]:=by
 refine⟨by intro y hy;simp at hy;subst hy;exact h,_,1,rfl,by simp,by decide,(λh=>by cases h),λ_=>⟨w.heap.size,0,rfl,by simp,λi hi=>?_⟩⟩;have:i=0:=by simp at hi;omega
 subst this;simp
theorem Bs.alloc {w:World} {v:Value} {l:List Int} (h:Bs w v l) (o:Obj):Bs (w.alloc o) v l :=
 h.below (bn _ o)
theorem Y8 {P:Program} {w:World} {ops:Array Oper} {rest:List Oper} {o:Oper} {a:Act} {Q:Exit->Act->World->Prop} (hgd:o.guard=none) (s x:Operand) (t:TypeId)
  (ho:o.op=.call { callee:=.builtin .append,args:=#[s,x],argTypes:=#[t,t] })
  (i:TypeInfo) (ht:P.underlying t=some (.slice 5)) (hi:P.info? 5=some i) (hz:i.zero=some (.int .u8 0)) (hsize:i.size=1) (hby:i.bytes=1)
  (B:Nat) (v:Value) (l:List Int) (hs:a.eval s=v) (hown:iV w B v l) (u:Value) (m:List Int) (hx:a.eval x=u) (hm:Bs w u m)
  (hlen:l.length+m.length<=140737488355328) (hbase:B<=w.heap.size) (w0:World) (hb:Below B w0 w)
  (h:∀v' w',iV w' B v' (l ++ m)->Below B w0 w'->w.grownBy w' v.ownBlock->wpList P ops Q rest (a.put o.dst v') w'):wpList P ops Q (o :: rest) a w:=by
 obtain⟨hmo,ad,cap,hu,h1,h2,h3,h4⟩:=hm;have hr:=hown.row;cases ad with
 | none =>
  have:cap=0:=h3 rfl;subst this;have:m=[]:=List.eq_nil_of_length_eq_zero (by omega);subst this;refine wpList_append_own_none hgd s x t ho B 5 i 1 ht hi v l.length (vals l) hs hr (by rw[hx,hu];rfl) ?_;exact h v w (by simpa using hown) hb (World.grownBy.refl _ _)
 | some ad =>
  have hl:l.length+m.length<=maxLen:=by unfold maxLen;omega
  refine wpList_append_own w hgd s x t ho B 5 i (.int .u8 0) 1 1 ht hi hz hsize hby rfl (by omega) v l.length (vals l) hs hr ad m.length cap (vals m) (by rw[hx,hu]) (by simp[kM]) ?_ (Qm m) hl (by omega) hbase ?_
  ·intro j y hy
   have hj:j < m.length:=by have:=(gs1 hy).1;simpa [kM] using this
   obtain⟨b,off,had,_,hc⟩:=h4 (by omega);cases had
   rw[Addr.add_lit,hc j hj,← hy,Gy m j hj]
  ·intro v' w' hown' hg _
   obtain⟨g,hgB,hg'⟩:=KD (n:=l.length+m.length) (KA hown.KH hmo) (by simp) (by rw[Kz];exact hown');exact h v' w' ⟨g,hgB,hg'⟩ (hb.grown hg hbase (λk hk=>(hr.lt k hk).1)) hg
theorem Y9 (f:Nat) (m:Int) (h:127 < m):enc (f+1) m=(m % 128+128) :: enc f (m / 128):=by simp[enc,h]
theorem Za (f:Nat) (m:Int) (h:¬127 < m):enc f m=[m]:=by cases f <;> simp[enc,h]
/- What Zb answers, on lists. -/
/-- Reads a number off the list: f bytes may still come, i have come, n is what they gave, sc the next one's weight. -/
def dec:Nat->Nat->Int->Int->List Int->Option (Int × Nat)
 | 0,_,_,_,_=>none
 | _+1,_,_,_,[]=>none
 | f+1,i,n,sc,x :: r =>
  if x < 128 then (if (x=0/\0 < i)\/2147483647 < n+x % 128 * sc then none else some (n+x % 128 * sc,i+1))
  else dec f (i+1) (n+x % 128 * sc) (sc * 128) r
/-- What Zb answers. -/
def Qn (at':Int):Option (Int × Nat)->Int × Int
 | some (n,k)=>(n,at'+k)
 | none=>(0,-1)
def Qo (l:List Int) (at':Int):Int × Int:=if at' < 0 then (0,-1) else Qn at' (dec 5 0 0 1 (l.drop at'.toNat))
/- copy of bytes into a row of the call's own, as one law for the walk: what is copied may be nil. -/
/- Rows of bytes that lie in blocks from B on and below T: so that two of them are seen to be apart. -/
/-- The value v is nil, or lies at the head of a block from B on and below T; its bytes are l. -/
def Row (w:World) (B T:Nat) (v:Value) (l:List Int):Prop :=
 Oct l/\w.ownsRow B 5 1 v l.length (vals l)/\∀g,v.ownBlock=some g->g < T
theorem Row.KH {w:World} {B T:Nat} {v:Value} {l:List Int} (h:Row w B T v l):Oct l:=h.1
theorem Row.own {w:World} {B T:Nat} {v:Value} {l:List Int} (h:Row w B T v l):iV w B v l:=KD h.1 rfl h.2.1
theorem Row.bs {w:World} {B T:Nat} {v:Value} {l:List Int} (h:Row w B T v l):Bs w v l:=h.own.bs
theorem Row.wide {w:World} {B T B' T':Nat} {v:Value} {l:List Int} (h:Row w B T v l) (hB:B'<=B) (hT:T<=T'):Row w B' T' v l:=by
 refine⟨h.1,⟨h.2.1.1,?_⟩,λg hg=>Nat.lt_of_lt_of_le (h.2.2 g hg) hT⟩;rcases h.2.1.2 with hn | ⟨g,cap,cur,hv,hg,r⟩
 ·exact .inl hn
 ·exact .inr ⟨g,cap,cur,hv,Nat.le_trans hB hg,r⟩
theorem Row.below {w w':World} {B T:Nat} {v:Value} {l:List Int} (h:Row w B T v l) (hb:Below w.heap.size w w'):Row w' B T v l :=
 ⟨h.1,(h.own.below hb).row,h.2.2⟩
/-- Another row was written. -/
theorem Row.kept {w w':World} {B T B' T':Nat} {v u:Value} {l m:List Int} (h:Row w B T v l) (hu:Row w B' T' u m) (hg:w.grownBy w' u.ownBlock) (hd:T<=B'\/T'<=B):Row w' B T v l:=by
 refine⟨h.1,h.2.1.kept hg ?_,h.2.2⟩;cases hv:v.ownBlock with
 | none=>exact .inl rfl
 | some g =>
  refine .inr λe=>?_;have h1:=(h.2.1.lt g hv).1;have h2:=h.2.2 g hv;have h3:=(hu.2.1.lt g e.symm).1;have h4:=hu.2.2 g e.symm;omega
theorem Row.nil (w:World) (B T:Nat):Row w B T (.slice none 0 0) []:=⟨CQ,World.ownsRow_nil _ _ _ _,λg hg=>by simp[Value.ownBlock] at hg⟩
/-- What lies below the row's blocks has not turned. -/
theorem Row.wrote {w0 w w':World} {B T:Nat} {u:Value} {m:List Int} (hu:Row w B T u m) (hg:w.grownBy w' u.ownBlock) (hb:Below w0.heap.size w0 w) (hB:w0.heap.size<=B):Below w0.heap.size w0 w' :=
 hb.grown hg hb.size (λk hk=>Nat.le_trans hB (hu.2.1.lt k hk).1)
/-- A row stays while another block is written. -/
theorem Row.drawn {w w':World} {g B T:Nat} {v:Value} {l:List Int} (h:Row w B T v l) (hw:w.grownBy w' (some g)) (hd:g < B\/T<=g):Row w' B T v l:=by
 refine⟨h.1,h.2.1.kept hw ?_,h.2.2⟩;cases hv:v.ownBlock with
 | none=>exact .inl rfl
 | some k =>
  refine .inr λe=>?_;have h1:=(h.2.1.lt k hv).1;have h2:=h.2.2 k hv;simp only[Option.some.injEq] at e;omega
/-- A row stays while a cell of another block is written. -/
theorem Row.set {w:World} {g i B T:Nat} {v x:Value} {l:List Int} (h:Row w B T v l) (hd:g < B\/T<=g):Row (w.setCell ⟨g,i,none⟩ x) B T v l :=
 h.drawn (grownBy_setCell (World.grownBy.refl _ _)) hd
theorem Below.step {w w1 w2:World} (h:Below w.heap.size w w1) (h':Below w1.heap.size w1 w2):Below w.heap.size w w2:=h.trans (h'.mono h.size)
/- Closed facts on the program's types that the walks use. -/
theorem info5:(Tryz.prog.info? 5).map (λi=>(i.zero,i.size,i.bytes))=some (some (.int .u8 0),1,1):=by kernel_rfl
theorem vQ (w:World):Bs w (.slice none 0 0) []:=⟨CQ,none,0,rfl,by simp,by simp,λ_=>rfl,λh=>absurd h (by simp)⟩
/- Logs in memory: what a log reads as; a log of the call's own; what is written within a range of blocks. -/
/-- Old blocks outside the range from B on and below T are as they were. -/
structure Within (B T:Nat) (w w':World):Prop where
 os:w'.os=w.os
 tape:w'.tape=w.tape
 output:w'.output=w.output
 size:w.heap.size<=w'.heap.size
 block:∀k,k < w.heap.size->¬(B<=k/\k < T)->w'.heap[k]?=w.heap[k]?
theorem Within.refl (B T:Nat) (w:World):Within B T w w:=⟨rfl,rfl,rfl,Nat.le_refl _,λ_ _ _=>rfl⟩
theorem Within.trans {B T:Nat} {a b c:World} (h:Within B T a b) (k:Within B T b c):Within B T a c :=
 ⟨k.os.trans h.os,k.tape.trans h.tape,k.output.trans h.output,Nat.le_trans h.size k.size,λi hi hn=>(k.block i (Nat.lt_of_lt_of_le hi h.size) hn).trans (h.block i hi hn)⟩
theorem Within.wide {B T B' T':Nat} {a b:World} (h:Within B T a b) (hB:B'<=B) (hT:T<=T'):Within B' T' a b :=
 ⟨h.os,h.tape,h.output,h.size,λi hi hn=>h.block i hi (λhc=>hn ⟨by omega,by omega⟩)⟩
theorem Within.below {B T:Nat} {w0 w w':World} (h:Within B T w w') (hb:Below w0.heap.size w0 w) (hB:w0.heap.size<=B):Below w0.heap.size w0 w' :=
 ⟨h.os.trans hb.os,h.tape.trans hb.tape,h.output.trans hb.output,Nat.le_trans hb.size h.size,λk hk=>(h.block k (Nat.lt_of_lt_of_le hk hb.size) (by omega)).trans (hb.block k hk)⟩
theorem Bs.form {w:World} {v:Value} {l:List Int} (h:Bs w v l):∃a cap,v=.slice a l.length cap:=by obtain⟨_,a,cap,h,_⟩:=h;exact⟨a,cap,h⟩
theorem Bs.aP {w:World} {v:Value} {l:List Int} (h:Bs w v l):∃a n cap,v=.slice a n cap:=by obtain⟨_,a,cap,h,_⟩:=h;exact⟨a,_,cap,h⟩
theorem Bs.cap {w:World} {a:Option Addr} {n cap:Nat} {l:List Int} (h:Bs w (.slice a n cap) l):l.length<=cap/\cap<=9223372036854775807:=by
 obtain⟨_,a',cap',hv,h1,h2,_⟩:=h;simp only[Value.slice.injEq] at hv;obtain⟨-,-,rfl⟩:=hv;exact⟨h1,h2⟩
theorem eB {w:World} {g k i:Nat} {o:Obj} {v:Value} (h:w.heap[g]?=some o) (hne:g≠k):(w.setCell ⟨k,i,none⟩ v).heap[g]?=some o :=
 (Below.heap_setCell w ⟨k,i,none⟩ v g hne).trans h
theorem aA {w w':World} {g:Nat} {o:Obj} (hb:Below w.heap.size w w') (h:w.heap[g]?=some o):w'.heap[g]?=some o:=(hb.block g (lt_of_heap h)).trans h
theorem aW (w:World) (o:Obj):(w.alloc o).heap[w.heap.size]?=some o:=heap_alloc_new w o
theorem vR {w:World} {g:Nat} {o:Obj} (h:w.heap[g]?=some o) (o':Obj):(w.alloc o').heap[g]?=some o:=(Below.heap_alloc w o' g (lt_of_heap h)).trans h
/-- Two blocks that were laid one behind the other. -/
theorem mE (w:World) (o0 o1:Obj):((w.alloc o0).alloc o1).heap[w.heap.size]?=some o0/\((w.alloc o0).alloc o1).heap[w.heap.size+1]?=some o1/\Below w.heap.size w ((w.alloc o0).alloc o1) :=
 ⟨vR (aW w o0) o1,by simpa using aW (w.alloc o0) o1,(bn _ _).alloc (by simp) _⟩
/-- The value v reads as the log of the bytes a and b. -/
def Gz (w:World) (v:Value) (a b:List Int):Prop:=∃u0 u1,v=.agg #[u0,u1]/\Bs w u0 a/\Bs w u1 b
/-- A log of the call's own: its two slices lie in blocks from B on and below T, apart from each other. -/
def oQ (w:World) (B T:Nat) (v:Value) (a b:List Int):Prop :=
 ∃u0 u1 B0 T0 B1 T1,v=.agg #[u0,u1]/\Row w B0 T0 u0 a/\Row w B1 T1 u1 b/\B<=B0/\T0<=T/\B<=B1/\T1<=T/\(T0<=B1\/T1<=B0)
theorem Gz.below {w w':World} {v:Value} {a b:List Int} (h:Gz w v a b) (hb:Below w.heap.size w w'):Gz w' v a b :=
 let ⟨u0,u1,hv,h0,h1⟩:=h;⟨u0,u1,hv,h0.below hb,h1.below hb⟩
theorem oQ.v {w:World} {B T:Nat} {v:Value} {a b:List Int} (h:oQ w B T v a b):Gz w v a b :=
 let ⟨u0,u1,_,_,_,_,hv,h0,h1,_⟩:=h;⟨u0,u1,hv,h0.bs,h1.bs⟩
theorem oQ.below {w w':World} {B T:Nat} {v:Value} {a b:List Int} (h:oQ w B T v a b) (hb:Below w.heap.size w w'):oQ w' B T v a b :=
 let ⟨u0,u1,B0,T0,B1,T1,hv,h0,h1,r⟩:=h;⟨u0,u1,B0,T0,B1,T1,hv,h0.below hb,h1.below hb,r⟩
theorem oQ.wide {w:World} {B T B' T':Nat} {v:Value} {a b:List Int} (h:oQ w B T v a b) (hB:B'<=B) (hT:T<=T'):oQ w B' T' v a b :=
 let ⟨u0,u1,B0,T0,B1,T1,hv,h0,h1,r0,r1,r2,r3,r4⟩:=h;⟨u0,u1,B0,T0,B1,T1,hv,h0,h1,by omega,by omega,by omega,by omega,r4⟩
theorem oQ.set {w:World} {g i B T:Nat} {v x:Value} {a b:List Int} (h:oQ w B T v a b) (hd:g < B\/T<=g):oQ (w.setCell ⟨g,i,none⟩ x) B T v a b :=
 let ⟨u0,u1,B0,T0,B1,T1,hv,h0,h1,r0,r1,r2,r3,r4⟩:=h
 ⟨u0,u1,B0,T0,B1,T1,hv,h0.set (by omega),h1.set (by omega),r0,r1,r2,r3,r4⟩
theorem oQ.zero (w:World) (B T:Nat) (h:B<=T):oQ w B T (.agg #[.slice none 0 0,.slice none 0 0]) [] [] :=
 ⟨_,_,B,B,B,T,rfl,Row.nil _ _ _,Row.nil _ _ _,Nat.le_refl _,h,Nat.le_refl _,Nat.le_refl _,.inl (Nat.le_refl _)⟩
/- Names, texts and commands as plain lists and numbers: no program is named here. -/
theorem aN {a b:Bool} (h:b=a):Ending.returned (.bool a)=.returned (.bool b):=by rw[h]
/-- Every number of the list lies between two. -/
def allIn (lo hi:Int) (l:List Int):Bool:=l.all λx=>decide (lo<=x) && decide (x<=hi)
/-- A name: one to six small letters. -/
def gF (l:List Int):Bool:=decide (1<=l.length) && (decide (l.length<=6) && allIn 97 122 l)
/-- A text: at most thirty bytes that can be seen. -/
def jP (l:List Int):Bool:=decide (l.length<=30) && allIn 32 126 l
/-- A number lies between two. -/
def aQ (n lo hi:Int):Bool:=decide (lo<=n) && decide (n<=hi)
theorem ng {k:IntKind} {a b:Int} (h:a=b):Ending.returned (.int k a)=.returned (.int k b):=by rw[h]
/-- The place of the first that fits; -1 where there is none. -/
def bD {α:Type} (p:α->Bool) (l:List α):Int:=match l.findIdx? p with | some i=>i | none=>-1
theorem Zc {p:Int->Bool} {l:List Int} {k:Nat} (hk:k < l.length) (h:p (l.getD k 0)=true) (hA:∀j,j < k->p (l.getD j 0)=false):bD p l=k:=by
 have:l.findIdx? p=some k:=by
  rw[List.findIdx?_eq_some_iff_getElem];refine⟨hk,by simpa [hk] using h,λj hj=>?_⟩;have:=hA j hj;simp[show j < l.length by omega] at this;simp[this]
 simp[bD,this]
theorem Zd {p:Int->Bool} {l:List Int} (hA:∀j,j < l.length->p (l.getD j 0)=false):bD p l = -1:=by
 have:l.findIdx? p=none:=by
  rw[List.findIdx?_eq_none_iff];intro x hx;obtain⟨j,hj,rfl⟩:=List.getElem_of_mem hx;have:=hA j hj;simpa [hj] using this
 simp[bD,this]
theorem CR {α:Type} (p:α->Bool) (l:List α):l.any p=decide (0<=bD p l):=by
 unfold bD;cases h:l.findIdx? p with
 | none =>
  rw[List.findIdx?_eq_none_iff] at h;simp only[show ¬(0:Int)<=-1 by omega,decide_false];rw[List.any_eq_false];intro x hx;simp[h x hx]
 | some i =>
  rw[List.findIdx?_eq_some_iff_getElem] at h;obtain⟨hi,hp,-⟩:=h;simp only[show(0:Int)<=(i:Int) by omega,decide_true];rw[List.any_eq_true];exact⟨_,List.getElem_mem hi,hp⟩
/-- Which kinds have a second name, a number of a jC, flags and how, a number of a change, a text. -/
def toB (k:Int):Bool:=decide (k=6)
def zV (k:Int):Bool:=decide (k=3) || (decide (k=5) || decide (k=6))
def zW (k:Int):Bool:=decide (k=2) || (decide (k=3) || decide (k=6))
def zX (k:Int):Bool:=decide (k=3) || decide (k=8)
def zY (k:Int):Bool:=decide (k=2)
/-- A command that may be. -/
def qO (k:Int) (bx tt:List Int) (uid mode fl si:Int) (tx:List Int):Bool :=
 decide (0<=k/\k<=9) && (if k=9 then decide (bx.length=0) else gF bx) && (if k=6 then gF tt else decide (tt.length=0)) &&
 (if k=3\/k=5\/k=6 then aQ uid 1 1000000 else decide (uid=0)) && aQ mode 0 (if k=3 then 2 else if k=6 then 1 else 0) &&
 aQ fl 0 (if k=2\/k=3 then 31 else 0) && aQ si 0 (if k=3\/k=8 then 1000000 else 0) && (if k=2 then jP tx else decide (tx.length=0))
theorem Ze {l:List Int} (h:gF l=true):1<=l.length/\l.length<=6:=by unfold gF at h;simp at h;exact⟨h.1,h.2.1⟩
theorem Zf {l:List Int} (h:l.length=0):jP l=true:=by
 have:l=[]:=List.eq_nil_of_length_eq_zero h;subst this;rfl
/- Commands in memory. -/
def av (n:Int):Prop:=-9223372036854775808<=n/\n<=9223372036854775807
/-- The value v reads as a command. -/
def om (w:World) (v:Value) (k:Int) (bx tt:List Int) (uid mode fl si:Int) (tx:List Int):Prop :=
 ∃u0 u1 u2,v=.agg #[.int .i64 k,u0,u1,.int .i64 uid,.int .i64 mode,.int .i64 fl,.int .i64 si,u2]/\Bs w u0 bx/\Bs w u1 tt/\Bs w u2 tx/\av k/\av uid/\av mode/\av fl/\av si
theorem om.below {w w':World} {v:Value} {k:Int} {bx tt:List Int} {uid mode fl si:Int} {tx:List Int} (h:om w v k bx tt uid mode fl si tx) (hb:Below w.heap.size w w'):om w' v k bx tt uid mode fl si tx :=
 let ⟨u0,u1,u2,hv,h0,h1,h2,r⟩:=h;⟨u0,u1,u2,hv,h0.below hb,h1.below hb,h2.below hb,r⟩
/- Blocks that hold a struct: what the walk asks of them. -/
/-- A block of eight cells: what the walk asks of it. -/
theorem zZ {w:World} {g:Nat} {t:TypeId} {c0 c1 c2 c3 c4 c5 c6 c7:Value} (h:w.heap[g]?=some (.cells #[c0,c1,c2,c3,c4,c5,c6,c7] t (0,0))) :
   w.cell? ⟨g,0,none⟩=some c0/\w.cell? ⟨g,1,none⟩=some c1/\w.cell? ⟨g,2,none⟩=some c2/\w.cell? ⟨g,3,none⟩=some c3/\w.cell? ⟨g,4,none⟩=some c4/\w.cell? ⟨g,5,none⟩=some c5/\w.cell? ⟨g,6,none⟩=some c6/\w.cell? ⟨g,7,none⟩=some c7 :=
 ⟨by rw[cell_of_row w g 0 _ t (0,0) h];rfl,by rw[cell_of_row w g 1 _ t (0,0) h];rfl,by rw[cell_of_row w g 2 _ t (0,0) h];rfl,by rw[cell_of_row w g 3 _ t (0,0) h];rfl,
  by rw[cell_of_row w g 4 _ t (0,0) h];rfl,by rw[cell_of_row w g 5 _ t (0,0) h];rfl,by rw[cell_of_row w g 6 _ t (0,0) h];rfl,by rw[cell_of_row w g 7 _ t (0,0) h];rfl⟩
/- Commands of the call's own in memory; blocks of eight cells that are written. -/
/-- A command of the call's own: its three slices lie one behind the other in blocks from B on and below T. -/
def qA (w:World) (B T:Nat) (v:Value) (k:Int) (bx tt:List Int) (uid mode fl si:Int) (tx:List Int):Prop :=
 ∃u0 u1 u2 T0 T1,v=.agg #[.int .i64 k,u0,u1,.int .i64 uid,.int .i64 mode,.int .i64 fl,.int .i64 si,u2]/\Row w B T0 u0 bx/\Row w T0 T1 u1 tt/\Row w T1 T u2 tx/\B<=T0/\T0<=T1/\T1<=T/\av k/\av uid/\av mode/\av fl/\av si
section
variable {w w' : World} {B T B' T' : Nat} {x : Value} {k : Int} {bx tt : List Int} {uid mode fl si : Int} {tx : List Int}
theorem qA.v (h:qA w B T x k bx tt uid mode fl si tx):om w x k bx tt uid mode fl si tx :=
 let ⟨u0,u1,u2,_,_,hv,h0,h1,h2,_,_,_,r⟩:=h;⟨u0,u1,u2,hv,h0.bs,h1.bs,h2.bs,r⟩
theorem qA.below (h:qA w B T x k bx tt uid mode fl si tx) (hb:Below w.heap.size w w'):qA w' B T x k bx tt uid mode fl si tx :=
 let ⟨u0,u1,u2,T0,T1,hv,h0,h1,h2,r⟩:=h;⟨u0,u1,u2,T0,T1,hv,h0.below hb,h1.below hb,h2.below hb,r⟩
theorem qA.wide (h:qA w B T x k bx tt uid mode fl si tx) (hB:B'<=B) (hT:T<=T'):qA w B' T' x k bx tt uid mode fl si tx :=
 let ⟨u0,u1,u2,T0,T1,hv,h0,h1,h2,r0,r1,r2,r⟩:=h;⟨u0,u1,u2,T0,T1,hv,h0.wide hB (Nat.le_refl _),h1,h2.wide (Nat.le_refl _) hT,by omega,r1,by omega,r⟩
end
theorem bP {w:World} {g:Nat} {t:TypeId} {c0 c1 c2 c3 c4 c5 c6 c7:Value} (h:w.heap[g]?=some (.cells #[c0,c1,c2,c3,c4,c5,c6,c7] t (0,0))) :
  w.cell? ⟨g,0,none⟩=some c0/\w.cell? ⟨g,1,none⟩=some c1/\w.cell? ⟨g,2,none⟩=some c2/\w.cell? ⟨g,3,none⟩=some c3/\w.cell? ⟨g,4,none⟩=some c4/\w.cell? ⟨g,5,none⟩=some c5/\w.cell? ⟨g,6,none⟩=some c6/\w.cell? ⟨g,7,none⟩=some c7/\g < w.heap.size:=by
 obtain⟨f0,f1,f2,f3,f4,f5,f6,f7⟩:=zZ h;exact⟨f0,f1,f2,f3,f4,f5,f6,f7,lt_of_heap h⟩
/-- A block of eight cells that is written: its marks. -/
theorem aO {w:World} {g:Nat} {t:TypeId} {cs:Array Value} (h:w.heap[g]?=some (.cells cs t (0,0))):(∀i,w.frozen? ⟨g,i,none⟩=false)/\g < w.heap.size :=
 ⟨λi=>frozen_of_row w g i _ t h,lt_of_heap h⟩
theorem aD {w:World} {g i:Nat} {t:TypeId} {cs:Array Value} {v:Value} (h:w.heap[g]?=some (.cells cs t (0,0))):(w.setCell ⟨g,i,none⟩ v).heap[g]?=some (.cells (cs.setIfInBounds i v) t (0,0)):=heap_setCell_same w g i _ t v h
theorem dW {w:World} {g i:Nat} {v:Value}:(w.setCell ⟨g,i,none⟩ v).heap.size=w.heap.size:=by simp[World.setCell]
/- Data with depth in memory: lists of structs, what they read as, and lists of the call's own, whose blocks lie in a set. -/
/-- The blocks from B on and below T. -/
def In (B T:Nat):Nat->Prop:=λb=>B<=b/\b < T
/-- The slice value v reads as the list l, each element of sz cells that E says. -/
def Rd {α:Type} (sz:Nat) (E:World->List Value->α->Prop) (w:World) (v:Value) (l:List α):Prop :=
 ∃(a:Option Addr) (cap:Nat) (cs:Nat->List Value),v=.slice a l.length cap/\l.length<=cap/\cap<=maxLen/\(a=none->cap=0) /\
  (∀i x,l[i]?=some x->E w (cs i) x/\(cs i).length=sz) /\
  (0 < l.length->∃b off,a=some ⟨b,off,none⟩/\b < w.heap.size/\∀i j u,i < l.length->(cs i)[j]?=some u->w.cell? ⟨b,off+i * sz+j,none⟩=some u)
/-- What an element says stays while nothing old turns. -/
def Keeps {α:Type} (E:World->List Value->α->Prop):Prop:=∀w w' c x,Below w.heap.size w w'->E w c x->E w' c x
section
variable {α : Type} {sz : Nat} {E : World -> List Value -> α -> Prop} {w w' : World} {v : Value} {l : List α}
theorem Rd.below (hE:Keeps E) (h:Rd sz E w v l) (hb:Below w.heap.size w w'):Rd sz E w' v l:=by
 obtain⟨a,cap,cs,hv,h1,h2,h3,h4,h5⟩:=h;refine⟨a,cap,cs,hv,h1,h2,h3,λi x hx=>⟨hE _ _ _ _ hb (h4 i x hx).1,(h4 i x hx).2⟩,λhp=>?_⟩;obtain⟨b,off,ha,hlt,hc⟩:=h5 hp;exact⟨b,off,ha,Nat.lt_of_lt_of_le hlt hb.size,λi j u hi hu=>(hb.cell (p:=⟨b,off+i * sz+j,none⟩) hlt).trans (hc i j u hi hu)⟩
theorem Rd.form (h:Rd sz E w v l):∃a cap,v=.slice a l.length cap/\l.length<=cap/\cap<=9223372036854775807:=by
 obtain⟨a,cap,cs,hv,h1,h2,_⟩:=h;exact⟨a,cap,hv,h1,h2⟩
theorem Rd.get (h:Rd sz E w v l) (k:Nat) (x:α) (hx:l[k]?=some x) :
  ∃b off cap c,v=.slice (some ⟨b,off,none⟩) l.length cap/\b < w.heap.size/\E w c x/\c.length=sz/\∀j u,c[j]?=some u->w.cell? ⟨b,off+k * sz+j,none⟩=some u:=by
 obtain⟨a,cap,cs,hv,h1,h2,h3,h4,h5⟩:=h;have hk:k < l.length:=(gs1 hx).1;obtain⟨b,off,rfl,hlt,hc⟩:=h5 (by omega);exact⟨b,off,cap,cs k,hv,hlt,(h4 k x hx).1,(h4 k x hx).2,λj u hu=>hc k j u hk hu⟩
theorem Rd.nil (w:World):Rd sz E w (.slice none 0 0) ([]:List α):=⟨none,0,λ_=>[],rfl,by simp,by simp,λ_=>rfl,by simp,by simp⟩
end
/-- The list l of the call's own: nil, or at the head of a block of S; what its elements lead to lies in S too, apart from that block and from one another. -/
def Ow {α:Type} (t:TypeId) (sz:Nat) (E:World->List Value->α->(Nat->Prop)->Prop) (w:World) (S:Nat->Prop) (v:Value) (l:List α):Prop :=
 (v=.slice none 0 0/\l=[]) \/
 ∃(g cap:Nat) (cur:Array Value) (cs:Nat->List Value) (fs:Nat->Nat->Prop),v=.slice (some ⟨g,0,none⟩) l.length cap/\w.heap[g]?=some (.cells cur t (0,0))/\l.length<=cap/\cap<=maxLen/\cur.size=cap * sz/\S g /\
  (∀i x,l[i]?=some x->E w (cs i) x (fs i)/\(cs i).length=sz/\∀j u,(cs i)[j]?=some u->cur[i * sz+j]?=some u) /\
  (∀i b,i < l.length->fs i b->S b/\b≠g)/\(∀i j b,i < l.length->j < l.length->i≠j->fs i b->¬fs j b)
/-- What an element of the call's own says stays while its blocks do. -/
def Frames {α:Type} (E:World->List Value->α->(Nat->Prop)->Prop):Prop:=∀w w' c x S,E w c x S->(∀b,S b->b < w.heap.size->w'.heap[b]?=w.heap[b]?)->E w' c x S
section
variable {α : Type} {t : TypeId} {sz : Nat} {E : World -> List Value -> α -> (Nat -> Prop) -> Prop} {w w' : World} {S S' : Nat -> Prop} {v : Value} {l : List α}
theorem Ow.frame (hE:Frames E) (h:Ow t sz E w S v l) (hw:∀b,S b->b < w.heap.size->w'.heap[b]?=w.heap[b]?):Ow t sz E w' S v l:=by
 rcases h with h | ⟨g,cap,cur,cs,fs,hv,hh,h1,h2,h3,h4,h5,h6,h7⟩
 ·exact .inl h
 ·refine .inr ⟨g,cap,cur,cs,fs,hv,(hw g h4 (lt_of_heap hh)).trans hh,h1,h2,h3,h4,λi x hx=>⟨?_,(h5 i x hx).2⟩,h6,h7⟩
  have hi:i < l.length:=(gs1 hx).1;exact hE _ _ _ _ _ (h5 i x hx).1 λb hb hlt=>hw b (h6 i b hi hb).1 hlt
theorem Ow.mono (h:Ow t sz E w S v l) (hS:∀b,S b->S' b):Ow t sz E w S' v l:=by
 rcases h with h | ⟨g,cap,cur,cs,fs,hv,hh,h1,h2,h3,h4,h5,h6,h7⟩
 ·exact .inl h
 ·exact .inr ⟨g,cap,cur,cs,fs,hv,hh,h1,h2,h3,hS g h4,h5,λi b hi hb=>⟨hS b (h6 i b hi hb).1,(h6 i b hi hb).2⟩,h7⟩
theorem Ow.below (hE:Frames E) (h:Ow t sz E w S v l) (hb:Below w.heap.size w w'):Ow t sz E w' S v l:=h.frame hE λb _ hlt=>hb.block b hlt
theorem Ow.rd {RE:World->List Value->α->Prop} (hE:∀w c x S,E w c x S->RE w c x) (h:Ow t sz E w S v l):Rd sz RE w v l:=by
 rcases h with⟨rfl,rfl⟩ | ⟨g,cap,cur,cs,fs,hv,hh,h1,h2,h3,h4,h5,h6,h7⟩
 ·exact Rd.nil w
 ·refine⟨some ⟨g,0,none⟩,cap,cs,hv,h1,h2,(λh=>by cases h),λi x hx=>⟨hE _ _ _ _ (h5 i x hx).1,(h5 i x hx).2.1⟩,λhp=>⟨g,0,rfl,lt_of_heap hh,λi j u hi hu=>?_⟩⟩
  rw[Nat.zero_add,cell_of_row w g _ cur t (0,0) hh];exact(h5 i l[i] (bK hi)).2.2 j u hu
end
/-- The cells of c laid into block g from o on. -/
def put (w:World) (g o:Nat):List Value->World
 | []=>w
 | c :: cs=>put (w.setCell ⟨g,o,none⟩ c) g (o+1) cs
theorem GA (g:Nat) (t:TypeId):∀(cs:List Value) (w:World) (o:Nat) (cur:Array Value),w.heap[g]?=some (.cells cur t (0,0))->o+cs.length<=cur.size ->
  ∃cur',(put w g o cs).heap[g]?=some (.cells cur' t (0,0))/\cur'.size=cur.size/\(∀j u,cs[j]?=some u->cur'[o+j]?=some u)/\(∀i,i < o\/o+cs.length<=i->cur'[i]?=cur[i]?)/\Within g (g+1) w (put w g o cs)
 | [],w,o,cur,h,_=>⟨cur,h,rfl,by simp,λ_ _=>rfl,Within.refl _ _ _⟩
 | c :: cs,w,o,cur,h,hs=>by
  simp only[List.length_cons] at hs;have h1:(w.setCell ⟨g,o,none⟩ c).heap[g]?=some (.cells (cur.setIfInBounds o c) t (0,0)):=heap_setCell_same w g o cur t c h;obtain⟨cur',e1,e2,e3,e4,e5⟩:=GA g t cs (w.setCell ⟨g,o,none⟩ c) (o+1) _ h1 (by simp;omega);refine⟨cur',e1,by simpa using e2,λj u hu=>?_,λi hi=>?_,?_⟩
  ·cases j with
   | zero =>
    simp at hu;subst hu;rw[Nat.add_zero,e4 o (.inl (by omega)),Array.getElem?_setIfInBounds];simp[show o < cur.size by omega]
   | succ j =>
    have:=e3 j u (by simpa using hu)
    rwa [show o+(j+1)=o+1+j by omega]
  ·simp only[List.length_cons] at hi
   rw[e4 i (by omega)];rw[Array.getElem?_setIfInBounds];simp[show ¬o=i by omega]
  ·exact(⟨rfl,rfl,rfl,by simp[World.setCell],λk hk hn=>Below.heap_setCell w ⟨g,o,none⟩ c k (show k≠g by omega)⟩:Within g (g+1) w (w.setCell ⟨g,o,none⟩ c)).trans e5
/-- A list that is being laid: k of its elements lie there. -/
def Part {α:Type} (t:TypeId) (sz:Nat) (E:World->List Value->α->(Nat->Prop)->Prop) (w:World) (g n k:Nat) (l:List α):Prop :=
 ∃(cur:Array Value) (cs:Nat->List Value) (fs:Nat->Nat->Prop),w.heap[g]?=some (.cells cur t (0,0))/\cur.size=n * sz /\
  (∀i x,i < k->l[i]?=some x->E w (cs i) x (fs i)/\(cs i).length=sz/\∀j u,(cs i)[j]?=some u->cur[i * sz+j]?=some u) /\
  (∀i b,i < k->fs i b->g < b/\b < w.heap.size)/\(∀i j b,i < k->j < k->i≠j->fs i b->¬fs j b)
section
variable {α : Type} {t : TypeId} {sz : Nat} {E : World -> List Value -> α -> (Nat -> Prop) -> Prop} {w w' : World} {l : List α} {g n k : Nat}
theorem Part.start {cur:Array Value} (h:w.heap[g]?=some (.cells cur t (0,0))) (hs:cur.size=n * sz):Part t sz E w g n 0 l:=⟨cur,λ_=>[],λ_ _=>False,h,hs,by simp,by simp,by simp⟩
theorem Part.cell (h:Part t sz E w g n k l) (i:Nat) (hi:i < n * sz):(∃u,w.cell? ⟨g,i,none⟩=some u)/\w.frozen? ⟨g,i,none⟩=false:=by
 obtain⟨cur,cs,fs,hh,hs,_⟩:=h;refine⟨⟨cur[i]'(by omega),?_⟩,frozen_of_row w g i cur t hh⟩;rw[cell_of_row w g i cur t (0,0) hh];simp
theorem Part.lt (h:Part t sz E w g n k l):g < w.heap.size:=let ⟨_,_,_,hh,_⟩:=h;lt_of_heap hh
theorem Part.step (hE:Frames E) (h:Part t sz E w g n k l) (hb:Below w.heap.size w w') (x:α) (hx:l[k]?=some x) (hk:k < n) (c:List Value) (hc:c.length=sz) (he:E w' c x (In w.heap.size w'.heap.size)) :
  Part t sz E (put w' g (k * sz) c) g n (k+1) l:=by
 obtain⟨cur,cs,fs,hh,hs,h1,h2,h3⟩:=h;have hg:g < w.heap.size:=lt_of_heap hh;have hroom:k * sz+sz<=n * sz:=by
  have:=Nat.mul_le_mul_right sz (show k+1<=n by omega);rw[Nat.add_mul,Nat.one_mul] at this;exact this
 obtain⟨cur',e1,e2,e3,e4,e5⟩:=GA g t c w' (k * sz) cur ((hb.block g hg).trans hh) (by omega);have same:∀b,b≠g->b < w.heap.size->(put w' g (k * sz) c).heap[b]?=w.heap[b]?:=λb hne hlt =>
  (e5.block b (Nat.lt_of_lt_of_le hlt hb.size) (by omega)).trans (hb.block b hlt)
 refine⟨cur',λi=>if i=k then c else cs i,λi=>if i=k then In w.heap.size w'.heap.size else fs i,e1,by omega,λi y hi hy=>?_,λi b hi hb'=>?_,λi j b hi hj hne hbi hbj=>?_⟩
 ·by_cases hik:i=k
  ·subst hik
   rw[hx] at hy;cases hy;simp only[if_true];refine⟨hE _ _ _ _ _ he λb hb' hlt=>e5.block b hlt (by have:=hb'.1;omega),hc,λj u hu=>e3 j u hu⟩
  ·simp only[if_neg hik]
   have hi':i < k:=by omega
   obtain⟨q1,q2,q3⟩:=h1 i y hi' hy;refine⟨hE _ _ _ _ _ q1 λb hb' hlt=>same b (by have:=(h2 i b hi' hb').1;omega) hlt,q2,λj u hu=>?_⟩;have hj:j < sz:=by have:=(gs1 hu).1;omega
   have hlow:i * sz+j < k * sz:=by
    have:=Nat.mul_le_mul_right sz (show i+1<=k by omega);rw[Nat.add_mul,Nat.one_mul] at this;omega
   rw[e4 _ (.inl hlow)];exact q3 j u hu
 ·by_cases hik:i=k
  ·simp only[hik,if_true] at hb'
   have:=e5.size;exact⟨by have:=hb'.1;omega,by have:=hb'.2;omega⟩
  ·simp only[if_neg hik] at hb'
   have:=h2 i b (by omega) hb';have:=e5.size;have:=hb.size;omega
 ·by_cases hik:i=k
  ·by_cases hjk:j=k
   ·omega
   ·simp only[hik,if_true] at hbi
    simp only[if_neg hjk] at hbj;have:=h2 j b (by omega) hbj;have:=hbi.1;omega
  ·simp only[if_neg hik] at hbi
   by_cases hjk:j=k
   ·simp only[hjk,if_true] at hbj
    have:=h2 i b (by omega) hbi;have:=hbj.1;omega
   ·simp only[if_neg hjk] at hbj
    exact h3 i j b (by omega) (by omega) hne hbi hbj
theorem Part.done {B:Nat} (h:Part t sz E w g n n l) (hn:l.length=n) (hm:n<=maxLen) (hB:B<=g):Ow t sz E w (In B w.heap.size) (.slice (some ⟨g,0,none⟩) n n) l:=by
 obtain⟨cur,cs,fs,hh,hs,h1,h2,h3⟩:=h;subst hn;refine .inr ⟨g,l.length,cur,cs,fs,rfl,hh,Nat.le_refl _,hm,hs,⟨hB,lt_of_heap hh⟩,λi x hx=>h1 i x (gs1 hx).1 hx,λi b hi hb=>?_,h3⟩;have:=h2 i b hi hb;exact⟨⟨by omega,this.2⟩,by omega⟩
end
/- What aiX, aiY, Zg, aiZ of package laws do. -/
/-- the first k bytes of l laid over noughts -/
def laid (l:List Int) (k:Nat):List Int:=l.take k ++ List.replicate (l.length - k) 0
/-- n marks from k on: what Zg writes. -/
def marks (k:Int) (n:Nat):List Int:=(List.range n).map λ(i:Nat)=>(k+(i:Int)) % 256
end Go.Proofs.YtfabngnaejjcmaaGreatDoor
