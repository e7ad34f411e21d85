/- The proof's texts, part 2. -/
import Derived.Test.YtnlhkgoppjejeaaDoorPart1
import Derived.WalkKit
import Derived.Lib.Bytealg

/- Data with depth in memory: lists of structs, what they read as, and lists of the call's own, whose blocks lie in a set. -/
namespace Go.Proofs.YtnlhkgoppjejeaaDoor
open Go.RowKit

/-- The blocks from B on and below T. -/
def In (B T:Nat):Nat→Prop:=fun b=>B≤b∧b < T

/-- The slice value v reads as the list l, each element of sz cells that E says. -/
def Rd {α:Type} (sz:Nat) (E:World→List Value→α→Prop) (w:World) (v:Value) (l:List α):Prop :=
 ∃ (a:Option Addr) (cap:Nat) (cs:Nat→List Value),v=.slice a l.length cap∧l.length≤cap∧cap≤maxLen∧(a=none→cap=0) ∧
  (∀ i x,l[i]?=some x→E w (cs i) x∧(cs i).length=sz) ∧
  (0 < l.length→∃ b off,a=some ⟨b,off,none⟩∧b < w.heap.size∧∀ i j u,i < l.length→(cs i)[j]?=some u→w.cell? ⟨b,off+i * sz+j,none⟩=some u)

/-- What an element says stays while nothing old turns. -/
def Keeps {α:Type} (E:World→List Value→α→Prop):Prop:=∀ w w' c x,Below w.heap.size w w'→E w c x→E w' c x

section
variable {α : Type} {sz : Nat} {E : World → List Value → α → Prop} {w w' : World} {v : Value} {l : List α}
theorem Rd.below (hE:Keeps E) (h:Rd sz E w v l) (hb:Below w.heap.size w w'):Rd sz E w' v l:=by
 obtain ⟨a,cap,cs,hv,h1,h2,h3,h4,h5⟩:=h
 refine ⟨a,cap,cs,hv,h1,h2,h3,fun i x hx=>⟨hE _ _ _ _ hb (h4 i x hx).1,(h4 i x hx).2⟩,fun hp=>?_⟩
 obtain ⟨b,off,ha,hlt,hc⟩:=h5 hp
 exact ⟨b,off,ha,Nat.lt_of_lt_of_le hlt hb.size,fun i j u hi hu=>(hb.cell (p:=⟨b,off+i * sz+j,none⟩) hlt).trans (hc i j u hi hu)⟩
theorem Rd.form (h:Rd sz E w v l):∃ a cap,v=.slice a l.length cap∧l.length≤cap∧cap≤9223372036854775807:=by
 obtain ⟨a,cap,cs,hv,h1,h2,_⟩:=h
 exact ⟨a,cap,hv,h1,h2⟩
theorem Rd.get (h:Rd sz E w v l) (k:Nat) (x:α) (hx:l[k]?=some x) :
  ∃ b off cap c,v=.slice (some ⟨b,off,none⟩) l.length cap∧b < w.heap.size∧E w c x∧c.length=sz∧∀ j u,c[j]?=some u→w.cell? ⟨b,off+k * sz+j,none⟩=some u:=by
 obtain ⟨a,cap,cs,hv,h1,h2,h3,h4,h5⟩:=h
 have hk:k < l.length:=(List.getElem?_eq_some_iff.1 hx).1
 obtain ⟨b,off,rfl,hlt,hc⟩:=h5 (by omega)
 exact ⟨b,off,cap,cs k,hv,hlt,(h4 k x hx).1,(h4 k x hx).2,fun j u hu=>hc k j u hk hu⟩
theorem Rd.nil (w:World):Rd sz E w (.slice none 0 0) ([]:List α):=⟨none,0,fun _=>[],rfl,by simp,by simp,fun _=>rfl,by simp,by simp⟩
end

/-- The list l of the call's own: nil, or at the head of a block of S; what its elements lead to lies in S too, apart from that block and from one another. -/
def Ow {α:Type} (t:TypeId) (sz:Nat) (E:World→List Value→α→(Nat→Prop)→Prop) (w:World) (S:Nat→Prop) (v:Value) (l:List α):Prop :=
 (v=.slice none 0 0∧l=[]) ∨
 ∃ (g cap:Nat) (cur:Array Value) (cs:Nat→List Value) (fs:Nat→Nat→Prop),v=.slice (some ⟨g,0,none⟩) l.length cap∧w.heap[g]?=some (.cells cur t (0,0))∧l.length≤cap∧cap≤maxLen∧cur.size=cap * sz∧S g ∧
  (∀ i x,l[i]?=some x→E w (cs i) x (fs i)∧(cs i).length=sz∧∀ j u,(cs i)[j]?=some u→cur[i * sz+j]?=some u) ∧
  (∀ i b,i < l.length→fs i b→S b∧b≠g)∧(∀ i j b,i < l.length→j < l.length→i≠j→fs i b→¬ fs j b)

/-- What an element of the call's own says stays while its blocks do. -/
def Frames {α:Type} (E:World→List Value→α→(Nat→Prop)→Prop):Prop:=∀ w w' c x S,E w c x S→(∀ b,S b→b < w.heap.size→w'.heap[b]?=w.heap[b]?)→E w' c x S

section
variable {α : Type} {t : TypeId} {sz : Nat} {E : World → List Value → α → (Nat → Prop) → Prop} {w w' : World} {S S' : Nat → Prop} {v : Value} {l : List α}
theorem Ow.frame (hE:Frames E) (h:Ow t sz E w S v l) (hw:∀ b,S b→b < w.heap.size→w'.heap[b]?=w.heap[b]?):Ow t sz E w' S v l:=by
 rcases h with h | ⟨g,cap,cur,cs,fs,hv,hh,h1,h2,h3,h4,h5,h6,h7⟩
 ·exact .inl h
 ·refine .inr ⟨g,cap,cur,cs,fs,hv,(hw g h4 (lt_of_heap hh)).trans hh,h1,h2,h3,h4,fun i x hx=>⟨?_,(h5 i x hx).2⟩,h6,h7⟩
  have hi:i < l.length:=(List.getElem?_eq_some_iff.1 hx).1
  exact hE _ _ _ _ _ (h5 i x hx).1 fun b hb hlt=>hw b (h6 i b hi hb).1 hlt
theorem Ow.mono (h:Ow t sz E w S v l) (hS:∀ b,S b→S' b):Ow t sz E w S' v l:=by
 rcases h with h | ⟨g,cap,cur,cs,fs,hv,hh,h1,h2,h3,h4,h5,h6,h7⟩
 ·exact .inl h
 ·exact .inr ⟨g,cap,cur,cs,fs,hv,hh,h1,h2,h3,hS g h4,h5,fun i b hi hb=>⟨hS b (h6 i b hi hb).1,(h6 i b hi hb).2⟩,h7⟩
theorem Ow.below (hE:Frames E) (h:Ow t sz E w S v l) (hb:Below w.heap.size w w'):Ow t sz E w' S v l:=h.frame hE fun b _ hlt=>hb.block b hlt
theorem Ow.rd {RE:World→List Value→α→Prop} (hE:∀ w c x S,E w c x S→RE w c x) (h:Ow t sz E w S v l):Rd sz RE w v l:=by
 rcases h with ⟨rfl,rfl⟩ | ⟨g,cap,cur,cs,fs,hv,hh,h1,h2,h3,h4,h5,h6,h7⟩
 ·exact Rd.nil w
 ·refine ⟨some ⟨g,0,none⟩,cap,cs,hv,h1,h2,(fun h=>by cases h),fun i x hx=>⟨hE _ _ _ _ (h5 i x hx).1,(h5 i x hx).2.1⟩,fun hp=>⟨g,0,rfl,lt_of_heap hh,fun i j u hi hu=>?_⟩⟩
  rw [Nat.zero_add,cell_of_row w g _ cur t (0,0) hh]
  exact (h5 i l[i] (List.getElem?_eq_getElem hi)).2.2 j u hu
end

/-- The cells of c laid into block g from o on. -/
def put (w:World) (g o:Nat):List Value→World
 | []=>w
 | c :: cs=>put (w.setCell ⟨g,o,none⟩ c) g (o+1) cs

theorem put_spec (g:Nat) (t:TypeId):∀ (cs:List Value) (w:World) (o:Nat) (cur:Array Value),w.heap[g]?=some (.cells cur t (0,0))→o+cs.length≤cur.size →
  ∃ cur',(put w g o cs).heap[g]?=some (.cells cur' t (0,0))∧cur'.size=cur.size∧(∀ j u,cs[j]?=some u→cur'[o+j]?=some u)∧(∀ i,i < o∨o+cs.length≤i→cur'[i]?=cur[i]?)∧Within g (g+1) w (put w g o cs)
 | [],w,o,cur,h,_=>⟨cur,h,rfl,by simp,fun _ _=>rfl,Within.refl _ _ _⟩
 | c :: cs,w,o,cur,h,hs=>by
  simp only [List.length_cons] at hs
  have h1:(w.setCell ⟨g,o,none⟩ c).heap[g]?=some (.cells (cur.setIfInBounds o c) t (0,0)):=heap_setCell_same w g o cur t c h
  obtain ⟨cur',e1,e2,e3,e4,e5⟩:=put_spec g t cs (w.setCell ⟨g,o,none⟩ c) (o+1) _ h1 (by simp;omega)
  refine ⟨cur',e1,by simpa using e2,fun j u hu=>?_,fun i hi=>?_,?_⟩
  ·cases j with
   | zero =>
    simp at hu;subst hu
    rw [Nat.add_zero,e4 o (.inl (by omega)),Array.getElem?_setIfInBounds]
    simp [show o < cur.size by omega]
   | succ j =>
    have:=e3 j u (by simpa using hu)
    rwa [show o+(j+1)=o+1+j by omega]
  ·simp only [List.length_cons] at hi
   rw [e4 i (by omega)]
   rw [Array.getElem?_setIfInBounds]
   simp [show ¬ o=i by omega]
  ·exact (⟨rfl,rfl,rfl,by simp [World.setCell],fun k hk hn=>Below.heap_setCell w ⟨g,o,none⟩ c k (show k≠g by omega)⟩:Within g (g+1) w (w.setCell ⟨g,o,none⟩ c)).trans e5

/-- A list that is being laid: k of its elements lie there. -/
def Part {α:Type} (t:TypeId) (sz:Nat) (E:World→List Value→α→(Nat→Prop)→Prop) (w:World) (g n k:Nat) (l:List α):Prop :=
 ∃ (cur:Array Value) (cs:Nat→List Value) (fs:Nat→Nat→Prop),w.heap[g]?=some (.cells cur t (0,0))∧cur.size=n * sz ∧
  (∀ i x,i < k→l[i]?=some x→E w (cs i) x (fs i)∧(cs i).length=sz∧∀ j u,(cs i)[j]?=some u→cur[i * sz+j]?=some u) ∧
  (∀ i b,i < k→fs i b→g < b∧b < w.heap.size)∧(∀ i j b,i < k→j < k→i≠j→fs i b→¬ fs j b)

section
variable {α : Type} {t : TypeId} {sz : Nat} {E : World → List Value → α → (Nat → Prop) → Prop} {w w' : World} {l : List α} {g n k : Nat}
theorem Part.cell (h:Part t sz E w g n k l) (i:Nat) (hi:i < n * sz):(∃ u,w.cell? ⟨g,i,none⟩=some u)∧w.frozen? ⟨g,i,none⟩=false:=by
 obtain ⟨cur,cs,fs,hh,hs,_⟩:=h
 refine ⟨⟨cur[i]'(by omega),?_⟩,frozen_of_row w g i cur t hh⟩
 rw [cell_of_row w g i cur t (0,0) hh]
 simp
theorem Part.lt (h:Part t sz E w g n k l):g < w.heap.size:=let ⟨_,_,_,hh,_⟩:=h;lt_of_heap hh
theorem Part.step (hE:Frames E) (h:Part t sz E w g n k l) (hb:Below w.heap.size w w') (x:α) (hx:l[k]?=some x) (hk:k < n) (c:List Value) (hc:c.length=sz) (he:E w' c x (In w.heap.size w'.heap.size)) :
  Part t sz E (put w' g (k * sz) c) g n (k+1) l:=by
 obtain ⟨cur,cs,fs,hh,hs,h1,h2,h3⟩:=h
 have hg:g < w.heap.size:=lt_of_heap hh
 have hroom:k * sz+sz≤n * sz:=by
  have:=Nat.mul_le_mul_right sz (show k+1≤n by omega)
  rw [Nat.add_mul,Nat.one_mul] at this
  exact this
 obtain ⟨cur',e1,e2,e3,e4,e5⟩:=put_spec g t c w' (k * sz) cur ((hb.block g hg).trans hh) (by omega)
 have same:∀ b,b≠g→b < w.heap.size→(put w' g (k * sz) c).heap[b]?=w.heap[b]?:=fun b hne hlt =>
  (e5.block b (Nat.lt_of_lt_of_le hlt hb.size) (by omega)).trans (hb.block b hlt)
 refine ⟨cur',fun i=>if i=k then c else cs i,fun i=>if i=k then In w.heap.size w'.heap.size else fs i,e1,by omega,fun i y hi hy=>?_,fun i b hi hb'=>?_,fun i j b hi hj hne hbi hbj=>?_⟩
 ·by_cases hik:i=k
  ·subst hik
   rw [hx] at hy;cases hy
   simp only [if_true]
   refine ⟨hE _ _ _ _ _ he fun b hb' hlt=>e5.block b hlt (by have:=hb'.1;omega),hc,fun j u hu=>e3 j u hu⟩
  ·simp only [if_neg hik]
   have hi':i < k:=by omega
   obtain ⟨q1,q2,q3⟩:=h1 i y hi' hy
   refine ⟨hE _ _ _ _ _ q1 fun b hb' hlt=>same b (by have:=(h2 i b hi' hb').1;omega) hlt,q2,fun j u hu=>?_⟩
   have hj:j < sz:=by have:=(List.getElem?_eq_some_iff.1 hu).1;omega
   have hlow:i * sz+j < k * sz:=by
    have:=Nat.mul_le_mul_right sz (show i+1≤k by omega)
    rw [Nat.add_mul,Nat.one_mul] at this
    omega
   rw [e4 _ (.inl hlow)]
   exact q3 j u hu
 ·by_cases hik:i=k
  ·simp only [hik,if_true] at hb'
   have:=e5.size
   exact ⟨by have:=hb'.1;omega,by have:=hb'.2;omega⟩
  ·simp only [if_neg hik] at hb'
   have:=h2 i b (by omega) hb'
   have:=e5.size
   have:=hb.size
   omega
 ·by_cases hik:i=k
  ·by_cases hjk:j=k
   ·omega
   ·simp only [hik,if_true] at hbi
    simp only [if_neg hjk] at hbj
    have:=h2 j b (by omega) hbj
    have:=hbi.1
    omega
  ·simp only [if_neg hik] at hbi
   by_cases hjk:j=k
   ·simp only [hjk,if_true] at hbj
    have:=h2 i b (by omega) hbi
    have:=hbj.1
    omega
   ·simp only [if_neg hjk] at hbj
    exact h3 i j b (by omega) (by omega) hne hbi hbj
theorem Part.done {B:Nat} (h:Part t sz E w g n n l) (hn:l.length=n) (hm:n≤maxLen) (hB:B≤g):Ow t sz E w (In B w.heap.size) (.slice (some ⟨g,0,none⟩) n n) l:=by
 obtain ⟨cur,cs,fs,hh,hs,h1,h2,h3⟩:=h
 subst hn
 refine .inr ⟨g,l.length,cur,cs,fs,rfl,hh,Nat.le_refl _,hm,hs,⟨hB,lt_of_heap hh⟩,fun i x hx=>h1 i x (List.getElem?_eq_some_iff.1 hx).1 hx,fun i b hi hb=>?_,h3⟩
 have:=h2 i b hi hb
 exact ⟨⟨by omega,this.2⟩,by omega⟩
end

end Go.Proofs.YtnlhkgoppjejeaaDoor

/- Mails, boxes and accounts in memory: what they read as, and those of the call's own. -/
namespace Go.Proofs.YtnlhkgoppjejeaaDoor
open Go.RowKit

structure MailD where
 uid:Int
 flags:Int
 seq:Int
 text:List Int
structure GoneD where
 uid:Int
 seq:Int
structure BoxD where
 name:List Int
 valid:Int
 next:Int
 seq:Int
 mails:List MailD
 gones:List GoneD
 lost:Int
structure AccD where
 valid:Int
 boxes:List BoxD
 seen:List Int

/-- A row of bytes of the call's own whose block lies in S. -/
def RO (w:World) (S:Nat→Prop) (v:Value) (l:List Int):Prop:=Oct l∧w.ownsRow 0 5 1 v l.length (vals l)∧∀ g,v.ownBlock=some g→S g

theorem Row.ro {w:World} {B T:Nat} {v:Value} {l:List Int} (h:Row w B T v l):RO w (In B T) v l :=
 ⟨h.1,(h.wide (B':=0) (T':=T) (Nat.zero_le _) (Nat.le_refl _)).2.1,fun g hg=>⟨(h.2.1.lt g hg).1,h.2.2 g hg⟩⟩
theorem RO.bs {w:World} {S:Nat→Prop} {v:Value} {l:List Int} (h:RO w S v l):Bs w v l:=(own_of_row h.1 rfl h.2.1).elim fun _ h=>h.2.bs
theorem RO.mono {w:World} {S S':Nat→Prop} {v:Value} {l:List Int} (h:RO w S v l) (hS:∀ b,S b→S' b):RO w S' v l:=⟨h.1,h.2.1,fun g hg=>hS g (h.2.2 g hg)⟩
theorem RO.frame {w w':World} {S:Nat→Prop} {v:Value} {l:List Int} (h:RO w S v l) (hw:∀ b,S b→b < w.heap.size→w'.heap[b]?=w.heap[b]?):RO w' S v l:=by
 refine ⟨h.1,⟨h.2.1.1,?_⟩,h.2.2⟩
 rcases h.2.1.2 with hn | ⟨g,cap,cur,hv,hg,hh,r⟩
 ·exact .inl hn
 ·exact .inr ⟨g,cap,cur,hv,hg,(hw g (h.2.2 g (by rw [hv];rfl)) (lt_of_heap hh)).trans hh,r⟩
theorem RO.below {w w':World} {S:Nat→Prop} {v:Value} {l:List Int} (h:RO w S v l) (hb:Below w.heap.size w w'):RO w' S v l:=h.frame fun b _ hlt=>hb.block b hlt
theorem RO.nil (w:World) (S:Nat→Prop):RO w S (.slice none 0 0) []:=⟨oct_nil,World.ownsRow_nil _ _ _ _,fun g hg=>by simp [Value.ownBlock] at hg⟩

def IntRE (_:World) (c:List Value) (n:Int):Prop:=c=[.int .i64 n]∧I64 n
def MailRE (w:World) (c:List Value) (m:MailD):Prop:=∃ u,c=[.int .i64 m.uid,.int .i64 m.flags,.int .i64 m.seq,u]∧Bs w u m.text∧I64 m.uid∧I64 m.flags∧I64 m.seq
def GoneRE (_:World) (c:List Value) (m:GoneD):Prop:=c=[.int .i64 m.uid,.int .i64 m.seq]∧I64 m.uid∧I64 m.seq
abbrev IntsV:=Rd 1 IntRE
abbrev MailsV:=Rd 4 MailRE
abbrev GonesV:=Rd 2 GoneRE
def BoxRE (w:World) (c:List Value) (b:BoxD):Prop :=
 ∃ u0 u1 u2,c=[u0,.int .i64 b.valid,.int .i64 b.next,.int .i64 b.seq,u1,u2,.int .i64 b.lost]∧Bs w u0 b.name∧MailsV w u1 b.mails∧GonesV w u2 b.gones∧I64 b.valid∧I64 b.next∧I64 b.seq∧I64 b.lost
abbrev BoxesV:=Rd 7 BoxRE

theorem keepsInt:Keeps IntRE:=fun _ _ _ _ _ h=>h
theorem keepsGone:Keeps GoneRE:=fun _ _ _ _ _ h=>h
theorem keepsMail:Keeps MailRE:=fun _ _ _ _ hb h=>let ⟨u,h0,h1,r⟩:=h;⟨u,h0,h1.below hb,r⟩
theorem keepsBox:Keeps BoxRE:=fun _ _ _ _ hb h=>let ⟨u0,u1,u2,h0,h1,h2,h3,r⟩:=h;⟨u0,u1,u2,h0,h1.below hb,h2.below keepsMail hb,h3.below keepsGone hb,r⟩

def IntE (_:World) (c:List Value) (n:Int) (_:Nat→Prop):Prop:=c=[.int .i64 n]∧I64 n
def MailE (w:World) (c:List Value) (m:MailD) (S:Nat→Prop):Prop:=∃ u,c=[.int .i64 m.uid,.int .i64 m.flags,.int .i64 m.seq,u]∧RO w S u m.text∧I64 m.uid∧I64 m.flags∧I64 m.seq
def GoneE (_:World) (c:List Value) (m:GoneD) (_:Nat→Prop):Prop:=c=[.int .i64 m.uid,.int .i64 m.seq]∧I64 m.uid∧I64 m.seq
theorem framesInt:Frames IntE:=fun _ _ _ _ _ h _=>h
theorem framesGone:Frames GoneE:=fun _ _ _ _ _ h _=>h
theorem framesMail:Frames MailE:=fun _ _ _ _ _ h hw=>let ⟨u,h0,h1,r⟩:=h;⟨u,h0,h1.frame hw,r⟩
abbrev IntsO:=Ow 3 1 IntE
abbrev MailsO:=Ow 67 4 MailE
abbrev GonesO:=Ow 65 2 GoneE
def BoxE (w:World) (c:List Value) (b:BoxD) (S:Nat→Prop):Prop :=
 ∃ u0 u1 u2 S0 S1 S2,c=[u0,.int .i64 b.valid,.int .i64 b.next,.int .i64 b.seq,u1,u2,.int .i64 b.lost]∧RO w S0 u0 b.name∧MailsO w S1 u1 b.mails∧GonesO w S2 u2 b.gones∧(∀ x,S0 x→S x∧¬ S1 x∧¬ S2 x)∧(∀ x,S1 x→S x∧¬ S2 x)∧(∀ x,S2 x→S x) ∧
  I64 b.valid∧I64 b.next∧I64 b.seq∧I64 b.lost
theorem framesBox:Frames BoxE:=fun _ _ _ _ _ h hw =>
 let ⟨u0,u1,u2,S0,S1,S2,h0,h1,h2,h3,d0,d1,d2,r⟩:=h
 ⟨u0,u1,u2,S0,S1,S2,h0,h1.frame fun b hb=>hw b (d0 b hb).1,h2.frame framesMail fun b hb=>hw b (d1 b hb).1,h3.frame framesGone fun b hb=>hw b (d2 b hb),d0,d1,d2,r⟩
abbrev BoxesO:=Ow 44 7 BoxE
theorem MailE.rd {w:World} {c:List Value} {m:MailD} {S:Nat→Prop} (h:MailE w c m S):MailRE w c m:=let ⟨u,h0,h1,r⟩:=h;⟨u,h0,h1.bs,r⟩
theorem BoxE.rd {w:World} {c:List Value} {b:BoxD} {S:Nat→Prop} (h:BoxE w c b S):BoxRE w c b :=
 let ⟨u0,u1,u2,_,_,_,h0,h1,h2,h3,_,_,_,r⟩:=h;⟨u0,u1,u2,h0,h1.bs,h2.rd fun _ _ _ _=>MailE.rd,h3.rd fun _ _ _ _ h=>h,r⟩

def AccV (w:World) (v:Value) (a:AccD):Prop:=∃ u0 u1,v=.agg #[.int .i64 a.valid,u0,u1]∧BoxesV w u0 a.boxes∧IntsV w u1 a.seen∧I64 a.valid
theorem AccV.below {w w':World} {v:Value} {a:AccD} (h:AccV w v a) (hb:Below w.heap.size w w'):AccV w' v a:=let ⟨u0,u1,h0,h1,h2,r⟩:=h;⟨u0,u1,h0,h1.below keepsBox hb,h2.below keepsInt hb,r⟩
def AccO (w:World) (S:Nat→Prop) (v:Value) (a:AccD):Prop:=∃ u0 u1 S0 S1,v=.agg #[.int .i64 a.valid,u0,u1]∧BoxesO w S0 u0 a.boxes∧IntsO w S1 u1 a.seen∧(∀ x,S0 x→S x∧¬ S1 x)∧(∀ x,S1 x→S x)∧I64 a.valid
theorem AccO.v {w:World} {S:Nat→Prop} {v:Value} {a:AccD} (h:AccO w S v a):AccV w v a :=
 let ⟨u0,u1,_,_,h0,h1,h2,_,_,r⟩:=h;⟨u0,u1,h0,h1.rd fun _ _ _ _=>BoxE.rd,h2.rd fun _ _ _ _ h=>h,r⟩
theorem AccO.frame {w w':World} {S:Nat→Prop} {v:Value} {a:AccD} (h:AccO w S v a) (hw:∀ b,S b→b < w.heap.size→w'.heap[b]?=w.heap[b]?):AccO w' S v a :=
 let ⟨u0,u1,S0,S1,h0,h1,h2,d0,d1,r⟩:=h;⟨u0,u1,S0,S1,h0,h1.frame framesBox fun b hb=>hw b (d0 b hb).1,h2.frame framesInt fun b hb=>hw b (d1 b hb),d0,d1,r⟩
theorem AccO.below {w w':World} {S:Nat→Prop} {v:Value} {a:AccD} (h:AccO w S v a) (hb:Below w.heap.size w w'):AccO w' S v a:=h.frame fun b _ hlt=>hb.block b hlt
/-- A box as a value. -/
def BoxV (w:World) (v:Value) (b:BoxD):Prop :=
 ∃ u0 u1 u2,v=.agg #[u0,.int .i64 b.valid,.int .i64 b.next,.int .i64 b.seq,u1,u2,.int .i64 b.lost]∧Bs w u0 b.name∧MailsV w u1 b.mails∧GonesV w u2 b.gones∧I64 b.valid∧I64 b.next∧I64 b.seq∧I64 b.lost
theorem BoxV.below {w w':World} {v:Value} {b:BoxD} (h:BoxV w v b) (hb:Below w.heap.size w w'):BoxV w' v b:=let ⟨u0,u1,u2,h0,h1,h2,h3,r⟩:=h;⟨u0,u1,u2,h0,h1.below hb,h2.below keepsMail hb,h3.below keepsGone hb,r⟩
def BoxO (w:World) (S:Nat→Prop) (v:Value) (b:BoxD):Prop:=∃ c,v=.agg c.toArray∧BoxE w c b S
theorem BoxO.v {w:World} {S:Nat→Prop} {v:Value} {b:BoxD} (h:BoxO w S v b):BoxV w v b:=by
 obtain ⟨c,rfl,h⟩:=h
 obtain ⟨u0,u1,u2,rfl,r⟩:=h.rd
 exact ⟨u0,u1,u2,rfl,r⟩
def MailV (w:World) (v:Value) (m:MailD):Prop:=∃ u,v=.agg #[.int .i64 m.uid,.int .i64 m.flags,.int .i64 m.seq,u]∧Bs w u m.text∧I64 m.uid∧I64 m.flags∧I64 m.seq
theorem MailV.below {w w':World} {v:Value} {m:MailD} (h:MailV w v m) (hb:Below w.heap.size w w'):MailV w' v m:=let ⟨u,h0,h1,r⟩:=h;⟨u,h0,h1.below hb,r⟩

/-- One element's cells, as the walk asks for them. -/
theorem IntsV.cell {w:World} {v:Value} {l:List Int} (h:IntsV w v l) (k:Nat) (x:Int) (hx:l[k]?=some x):∃ b off cap,v=.slice (some ⟨b,off,none⟩) l.length cap∧b < w.heap.size∧w.cell? ⟨b,off+k,none⟩=some (.int .i64 x)∧I64 x:=by
 obtain ⟨b,off,cap,c,hv,hlt,⟨rfl,hi⟩,-,hc⟩:=h.get k x hx
 exact ⟨b,off,cap,hv,hlt,by simpa using hc 0 _ rfl,hi⟩
theorem GonesV.cell {w:World} {v:Value} {l:List GoneD} (h:GonesV w v l) (k:Nat) (x:GoneD) (hx:l[k]?=some x):∃ b off cap,v=.slice (some ⟨b,off,none⟩) l.length cap∧b < w.heap.size∧w.cell? ⟨b,off+k * 2,none⟩=some (.int .i64 x.uid)∧w.cell? ⟨b,off+k * 2+1,none⟩=some (.int .i64 x.seq)∧I64 x.uid∧I64 x.seq:=by
 obtain ⟨b,off,cap,c,hv,hlt,⟨rfl,hi⟩,-,hc⟩:=h.get k x hx
 exact ⟨b,off,cap,hv,hlt,hc 0 _ rfl,hc 1 _ rfl,hi⟩
theorem MailsV.cell {w:World} {v:Value} {l:List MailD} (h:MailsV w v l) (k:Nat) (x:MailD) (hx:l[k]?=some x):∃ b off cap u,v=.slice (some ⟨b,off,none⟩) l.length cap∧b < w.heap.size∧w.cell? ⟨b,off+k * 4,none⟩=some (.int .i64 x.uid)∧w.cell? ⟨b,off+k * 4+1,none⟩=some (.int .i64 x.flags) ∧
  w.cell? ⟨b,off+k * 4+2,none⟩=some (.int .i64 x.seq)∧w.cell? ⟨b,off+k * 4+3,none⟩=some u∧Bs w u x.text∧I64 x.uid∧I64 x.flags∧I64 x.seq:=by
 obtain ⟨b,off,cap,c,hv,hlt,⟨u,rfl,hu,hi⟩,-,hc⟩:=h.get k x hx
 exact ⟨b,off,cap,u,hv,hlt,hc 0 _ rfl,hc 1 _ rfl,hc 2 _ rfl,hc 3 _ rfl,hu,hi⟩
theorem BoxesV.cell {w:World} {v:Value} {l:List BoxD} (h:BoxesV w v l) (k:Nat) (x:BoxD) (hx:l[k]?=some x):∃ b off cap u0 u1 u2,v=.slice (some ⟨b,off,none⟩) l.length cap∧b < w.heap.size∧w.cell? ⟨b,off+k * 7,none⟩=some u0∧w.cell? ⟨b,off+k * 7+1,none⟩=some (.int .i64 x.valid) ∧
  w.cell? ⟨b,off+k * 7+2,none⟩=some (.int .i64 x.next)∧w.cell? ⟨b,off+k * 7+3,none⟩=some (.int .i64 x.seq)∧w.cell? ⟨b,off+k * 7+4,none⟩=some u1∧w.cell? ⟨b,off+k * 7+5,none⟩=some u2∧w.cell? ⟨b,off+k * 7+6,none⟩=some (.int .i64 x.lost) ∧
  Bs w u0 x.name∧MailsV w u1 x.mails∧GonesV w u2 x.gones∧I64 x.valid∧I64 x.next∧I64 x.seq∧I64 x.lost:=by
 obtain ⟨b,off,cap,c,hv,hlt,⟨u0,u1,u2,rfl,h0,h1,h2,hi⟩,-,hc⟩:=h.get k x hx
 exact ⟨b,off,cap,u0,u1,u2,hv,hlt,hc 0 _ rfl,hc 1 _ rfl,hc 2 _ rfl,hc 3 _ rfl,hc 4 _ rfl,hc 5 _ rfl,hc 6 _ rfl,h0,h1,h2,hi⟩

/-- How many values a mail, a list of mails, a box, a list of boxes hold. -/
def szM (l:List MailD):Nat:=(l.map fun m=>m.text.length+1).sum
def szX (b:BoxD):Nat:=b.name.length+szM b.mails+b.gones.length
def szXs (l:List BoxD):Nat:=(l.map fun b=>szX b+1).sum
theorem szM_mem {l:List MailD} {m:MailD} (h:m ∈ l):m.text.length+1≤szM l:=by
 induction l with
 | nil=>cases h
 | cons x l ih =>
  simp only [szM,List.map_cons,List.sum_cons] at ih ⊢
  rcases List.mem_cons.1 h with rfl | h
  ·omega
  ·have:=ih h;omega
theorem szXs_mem {l:List BoxD} {b:BoxD} (h:b ∈ l):szX b+1≤szXs l:=by
 induction l with
 | nil=>cases h
 | cons x l ih =>
  simp only [szXs,List.map_cons,List.sum_cons] at ih ⊢
  rcases List.mem_cons.1 h with rfl | h
  ·omega
  ·have:=ih h;omega
theorem szM_len (l:List MailD):l.length≤szM l:=by
 induction l with
 | nil=>simp [szM]
 | cons x l ih=>simp only [szM,List.map_cons,List.sum_cons,List.length_cons] at ih ⊢;omega
end Go.Proofs.YtnlhkgoppjejeaaDoor

/- Names, texts and commands as plain lists and numbers: no program is named here. -/
namespace Go.Proofs.YtnlhkgoppjejeaaDoor

theorem ret_b {a b:Bool} (h:b=a):Ending.returned (.bool a)=.returned (.bool b):=by rw [h]

/-- Every number of the list lies between two. -/
def allIn (lo hi:Int) (l:List Int):Bool:=l.all fun x=>decide (lo≤x) && decide (x≤hi)
/-- A name: one to six small letters. -/
def nameB (l:List Int):Bool:=decide (1≤l.length) && (decide (l.length≤6) && allIn 97 122 l)
/-- A text: at most thirty bytes that can be seen. -/
def textB (l:List Int):Bool:=decide (l.length≤30) && allIn 32 126 l
/-- A number lies between two. -/
def inB (n lo hi:Int):Bool:=decide (lo≤n) && decide (n≤hi)

theorem allIn_yes {lo hi:Int} {l:List Int} (h:∀ j,j < l.length→lo≤l.getD j 0∧l.getD j 0≤hi):allIn lo hi l=true:=by
 unfold allIn
 rw [List.all_eq_true]
 intro x hx
 obtain ⟨j,hj,rfl⟩:=List.getElem_of_mem hx
 have:=h j hj
 simp [hj] at this
 simp [this]
theorem allIn_no {lo hi:Int} {l:List Int} (j:Nat) (hj:j < l.length) (h:¬ (lo≤l.getD j 0∧l.getD j 0≤hi)):allIn lo hi l=false:=by
 cases e:allIn lo hi l with
 | false=>rfl
 | true =>
  exfalso
  unfold allIn at e
  rw [List.all_eq_true] at e
  have:=e _ (List.getElem_mem hj)
  simp [hj] at h
  simp at this
  omega

theorem ret_i {k:IntKind} {a b:Int} (h:a=b):Ending.returned (.int k a)=.returned (.int k b):=by rw [h]
/-- The place of the first that fits; -1 where there is none. -/
def firstI {α:Type} (p:α→Bool) (l:List α):Int:=match l.findIdx? p with | some i=>i | none=>-1
theorem firstI_hit {p:Int→Bool} {l:List Int} {k:Nat} (hk:k < l.length) (h:p (l.getD k 0)=true) (hA:∀ j,j < k→p (l.getD j 0)=false):firstI p l=k:=by
 have:l.findIdx? p=some k:=by
  rw [List.findIdx?_eq_some_iff_getElem]
  refine ⟨hk,by simpa [hk] using h,fun j hj=>?_⟩
  have:=hA j hj
  simp [show j < l.length by omega] at this
  simp [this]
 simp [firstI,this]
theorem firstI_none {p:Int→Bool} {l:List Int} (hA:∀ j,j < l.length→p (l.getD j 0)=false):firstI p l = -1:=by
 have:l.findIdx? p=none:=by
  rw [List.findIdx?_eq_none_iff]
  intro x hx
  obtain ⟨j,hj,rfl⟩:=List.getElem_of_mem hx
  have:=hA j hj
  simpa [hj] using this
 simp [firstI,this]
theorem any_firstI {α:Type} (p:α→Bool) (l:List α):l.any p=decide (0≤firstI p l):=by
 unfold firstI
 cases h:l.findIdx? p with
 | none =>
  rw [List.findIdx?_eq_none_iff] at h
  simp only [show ¬ (0:Int)≤-1 by omega,decide_false]
  rw [List.any_eq_false]
  intro x hx
  simp [h x hx]
 | some i =>
  rw [List.findIdx?_eq_some_iff_getElem] at h
  obtain ⟨hi,hp,-⟩:=h
  simp only [show (0:Int)≤(i:Int) by omega,decide_true]
  rw [List.any_eq_true]
  exact ⟨_,List.getElem_mem hi,hp⟩

/-- Which kinds have a second name, a number of a mail, flags and how, a number of a change, a text. -/
def toB (k:Int):Bool:=decide (k=6)
def uidB (k:Int):Bool:=decide (k=3) || (decide (k=5) || decide (k=6))
def modeB (k:Int):Bool:=decide (k=2) || (decide (k=3) || decide (k=6))
def sinceB (k:Int):Bool:=decide (k=3) || decide (k=8)
def textsB (k:Int):Bool:=decide (k=2)

/-- A command that may be. -/
def cmdB (k:Int) (bx tt:List Int) (uid mode fl si:Int) (tx:List Int):Bool :=
 decide (0≤k∧k≤9) && (if k=9 then decide (bx.length=0) else nameB bx) && (if k=6 then nameB tt else decide (tt.length=0)) &&
 (if k=3∨k=5∨k=6 then inB uid 1 1000000 else decide (uid=0)) && inB mode 0 (if k=3 then 2 else if k=6 then 1 else 0) &&
 inB fl 0 (if k=2∨k=3 then 31 else 0) && inB si 0 (if k=3∨k=8 then 1000000 else 0) && (if k=2 then textB tx else decide (tx.length=0))

theorem nameB_len {l:List Int} (h:nameB l=true):1≤l.length∧l.length≤6:=by unfold nameB at h;simp at h;exact ⟨h.1,h.2.1⟩
end Go.Proofs.YtnlhkgoppjejeaaDoor

/- What may be: boxes and accounts, as plain data. -/
namespace Go.Proofs.YtnlhkgoppjejeaaDoor

/-- The bytes of a list of numbers; which of two comes first. -/
def bts (l:List Int):List UInt8:=l.map fun n=>UInt8.ofNat n.toNat
def lessB (l m:List Int):Bool:=Op.bytesLess (bts l) (bts m)
theorem less_cmp:∀ (a b:List UInt8),decide (0≤Lib.compareBytes a b) = !Op.bytesLess a b
 | [],[]=>rfl
 | [],_ :: _=>rfl
 | _ :: _,[]=>rfl
 | a :: x,b :: y=>by
  have ih:=less_cmp x y
  unfold Lib.compareBytes Op.bytesLess
  by_cases h1:a < b
  ·simp [h1]
  ·by_cases h2:b < a
   ·have hne:(a == b)=false:=by simp;intro e;subst e;exact absurd h2 (UInt8.lt_irrefl _)
    simp [h1,h2,hne]
   ·have he:a=b:=UInt8.le_antisymm (UInt8.not_lt.1 h2) (UInt8.not_lt.1 h1)
    subst he
    simp only [h1,if_false,decide_false,Bool.false_or,BEq.rfl,Bool.true_and]
    exact ih

theorem rangeAll_yes {n:Nat} {f:Nat→Bool} (h:∀ j,j < n→f j=true):(List.range n).all f=true:=by
 rw [List.all_eq_true];intro j hj;exact h j (List.mem_range.1 hj)
theorem rangeAll_no {n:Nat} {f:Nat→Bool} (j:Nat) (hj:j < n) (h:f j=false):(List.range n).all f=false:=by
 rw [List.all_eq_false];exact ⟨j,List.mem_range.2 hj,by simp [h]⟩
def prevI (l:List Int):Nat→Int
 | 0=>0
 | i+1=>l.getD i 0
def seenAt (l:List Int) (i:Nat):Bool:=inB (l.getD i 0) (prevI l i+1) 1000000
def seenB (l:List Int):Bool:=decide (l.length≤60) && (List.range l.length).all (seenAt l)
theorem prevI_ok {l:List Int} {k:Nat} (hk:k≤l.length) (h:∀ j,j < k→seenAt l j=true):0≤prevI l k∧prevI l k≤1000000∧(0 < k→1≤prevI l k):=by
 induction k with
 | zero=>simp [prevI]
 | succ k ih =>
  have h1:=ih (by omega) (fun j hj=>h j (by omega))
  have h2:=h k (by omega)
  simp only [seenAt,inB,Bool.and_eq_true,decide_eq_true_eq] at h2
  simp only [prevI]
  omega

def prevU (l:List MailD):Nat→Int
 | 0=>0
 | i+1=>match l[i]? with | some m=>m.uid | none=>0
def mailAt (b:BoxD) (i:Nat):Bool:=match b.mails[i]? with
 | some m=>inB m.uid (prevU b.mails i+1) (b.next - 1) && (inB m.flags 0 31 && (inB m.seq 1 b.seq && textB m.text))
 | none=>true
def mailsB (b:BoxD):Bool:=decide (b.mails.length≤12) && (List.range b.mails.length).all (mailAt b)
theorem prevU_ok {b:BoxD} {k:Nat} (hn:b.next≤1000000) (hk:k≤b.mails.length) (h:∀ j,j < k→mailAt b j=true):0≤prevU b.mails k∧prevU b.mails k≤1000000:=by
 induction k with
 | zero=>simp [prevU]
 | succ k ih =>
  have h1:=ih (by omega) (fun j hj=>h j (by omega))
  have h2:=h k (by omega)
  obtain ⟨m,hm⟩:∃ m,b.mails[k]?=some m:=⟨b.mails[k]'(by omega),List.getElem?_eq_getElem (by omega)⟩
  simp only [mailAt,hm,inB,Bool.and_eq_true,decide_eq_true_eq] at h2
  simp only [prevU,hm]
  omega

def minS (b:BoxD):Nat→Int
 | 0=>max 1 b.lost
 | i+1=>match b.gones[i]? with | some g=>g.seq | none=>0
def goneAt (b:BoxD) (i:Nat):Bool:=match b.gones[i]? with
 | some g=>inB g.uid 1 (b.next - 1) && (inB g.seq (minS b i) b.seq && (!(b.mails.any fun m=>decide (m.uid=g.uid)) && !((b.gones.take i).any fun o=>decide (o.uid=g.uid))))
 | none=>true
def gonesB (b:BoxD):Bool:=decide (b.gones.length≤40) && (List.range b.gones.length).all (goneAt b)
theorem minS_ok {b:BoxD} {k:Nat} (hk:k≤b.gones.length) (h:∀ j,j < k→goneAt b j=true):1≤minS b k∧b.lost≤minS b k:=by
 induction k with
 | zero=>simp only [minS];omega
 | succ k ih =>
  have h1:=ih (by omega) (fun j hj=>h j (by omega))
  have h2:=h k (by omega)
  obtain ⟨m,hm⟩:∃ m,b.gones[k]?=some m:=⟨b.gones[k]'(by omega),List.getElem?_eq_getElem (by omega)⟩
  simp only [goneAt,hm,inB,Bool.and_eq_true,decide_eq_true_eq] at h2
  simp only [minS,hm]
  omega

def boxB (b:BoxD) (valid:Int):Bool:=nameB b.name && (inB b.valid 1 valid && (inB b.next 1 1000000 && (inB b.seq 0 1000000 && (inB b.lost 0 b.seq && (mailsB b && gonesB b)))))
def nameAt (l:List BoxD) (i:Nat):List Int:=match l[i]? with | some b=>b.name | none=>[]
def aheadB (l:List BoxD) (b:BoxD):Nat→Bool
 | 0=>true
 | i+1=>lessB (nameAt l i) b.name
def boxAt (a:AccD) (i:Nat):Bool:=match a.boxes[i]? with
 | some b=>boxB b a.valid && (aheadB a.boxes b i && !((a.boxes.take i).any fun o=>decide (o.valid=b.valid)))
 | none=>true
def accB (a:AccD):Bool:=inB a.valid 0 1000000 && (decide (a.boxes.length≤4) && (seenB a.seen && (List.range a.boxes.length).all (boxAt a)))

end Go.Proofs.YtnlhkgoppjejeaaDoor

/- Plain facts on boxes. -/
namespace Go.Proofs.YtnlhkgoppjejeaaDoor
set_option linter.unusedVariables false

theorem waysM1:∀ b0 b1 b2 b3 b4 b5 b6 t:Bool,(b0=true)∨(b0=false∧b1=true)∨(b0=false∧b1=false∧b2=true)∨(b0=false∧b1=false∧b2=false∧b3=true)∨(b0=false∧b1=false∧b2=false∧b3=false∧b4=true)∨(b0=false∧b1=false∧b2=false∧b3=false∧b4=false∧b5=true)∨(b0=false∧b1=false∧b2=false∧b3=false∧b4=false∧b5=false∧b6=true)∨(b0=false∧b1=false∧b2=false∧b3=false∧b4=false∧b5=false∧b6=false∧t=false)∨(b0=false∧b1=false∧b2=false∧b3=false∧b4=false∧b5=false∧b6=false∧t=true):=by
 intro b0 b1 b2 b3 b4 b5 b6 t
 cases b0 <;> cases b1 <;> cases b2 <;> cases b3 <;> cases b4 <;> cases b5 <;> cases b6 <;> cases t <;> simp
theorem waysM0:∀ b0 b1 b2 b3 b4 b5 t:Bool,(b0=true)∨(b0=false∧b1=true)∨(b0=false∧b1=false∧b2=true)∨(b0=false∧b1=false∧b2=false∧b3=true)∨(b0=false∧b1=false∧b2=false∧b3=false∧b4=true)∨(b0=false∧b1=false∧b2=false∧b3=false∧b4=false∧b5=true)∨(b0=false∧b1=false∧b2=false∧b3=false∧b4=false∧b5=false∧t=false)∨(b0=false∧b1=false∧b2=false∧b3=false∧b4=false∧b5=false∧t=true):=by
 intro b0 b1 b2 b3 b4 b5 t
 cases b0 <;> cases b1 <;> cases b2 <;> cases b3 <;> cases b4 <;> cases b5 <;> cases t <;> simp
theorem waysG1:∀ b0 b1 b2 b3 b4 b5 b6 t:Bool,(b0=true)∨(b0=false∧b1=true)∨(b0=false∧b1=false∧b2=true)∨(b0=false∧b1=false∧b2=false∧b3=true)∨(b0=false∧b1=false∧b2=false∧b3=false∧b4=true)∨(b0=false∧b1=false∧b2=false∧b3=false∧b4=false∧b5=true)∨(b0=false∧b1=false∧b2=false∧b3=false∧b4=false∧b5=false∧b6=true)∨(b0=false∧b1=false∧b2=false∧b3=false∧b4=false∧b5=false∧b6=false∧t=true)∨(b0=false∧b1=false∧b2=false∧b3=false∧b4=false∧b5=false∧b6=false∧t=false):=by
 intro b0 b1 b2 b3 b4 b5 b6 t
 cases b0 <;> cases b1 <;> cases b2 <;> cases b3 <;> cases b4 <;> cases b5 <;> cases b6 <;> cases t <;> simp
theorem waysG0:∀ b0 b1 b2 b3 b4 b5 t:Bool,(b0=true)∨(b0=false∧b1=true)∨(b0=false∧b1=false∧b2=true)∨(b0=false∧b1=false∧b2=false∧b3=true)∨(b0=false∧b1=false∧b2=false∧b3=false∧b4=true)∨(b0=false∧b1=false∧b2=false∧b3=false∧b4=false∧b5=true)∨(b0=false∧b1=false∧b2=false∧b3=false∧b4=false∧b5=false∧t=true)∨(b0=false∧b1=false∧b2=false∧b3=false∧b4=false∧b5=false∧t=false):=by
 intro b0 b1 b2 b3 b4 b5 t
 cases b0 <;> cases b1 <;> cases b2 <;> cases b3 <;> cases b4 <;> cases b5 <;> cases t <;> simp
theorem mailE1 {q uid next flags seq bs:Int} {T:Bool} (hq:0≤q):(inB uid (q+1) (next - 1) && (inB flags 0 31 && (inB seq 1 bs && T))) = !(decide (uid < 1) || (decide (next≤uid) || (decide (uid≤q) || (decide (flags < 0) || (decide (31 < flags) || (decide (seq < 1) || (decide (bs < seq) || !T))))))):=by
 rw [Bool.eq_iff_iff];simp [inB];cases T <;> simp <;> omega
theorem mailE0 {uid next flags seq bs:Int} {T:Bool}:(inB uid (0+1) (next - 1) && (inB flags 0 31 && (inB seq 1 bs && T))) = !(decide (uid < 1) || (decide (next≤uid) || (decide (flags < 0) || (decide (31 < flags) || (decide (seq < 1) || (decide (bs < seq) || !T)))))):=by
 rw [Bool.eq_iff_iff];simp [inB];cases T <;> simp <;> omega
theorem goneE1 {uid next seq ps bs lost:Int} {M G:Bool} (h1:1≤ps) (h2:lost≤ps):(inB uid 1 (next - 1) && (inB seq ps bs && (!M && !G))) = !(decide (uid < 1) || (decide (next≤uid) || (M || (decide (seq < 1) || (decide (bs < seq) || (decide (seq < ps) || (decide (seq < lost) || G))))))):=by
 rw [Bool.eq_iff_iff];simp [inB];cases M <;> cases G <;> simp <;> omega
theorem goneE0 {uid next seq ms bs lost:Int} {M G:Bool} (h1:1≤ms) (h2:lost≤ms) (h3:ms≤1∨ms≤lost):(inB uid 1 (next - 1) && (inB seq ms bs && (!M && !G))) = !(decide (uid < 1) || (decide (next≤uid) || (M || (decide (seq < 1) || (decide (bs < seq) || (decide (seq < lost) || G)))))):=by
 rw [Bool.eq_iff_iff];simp [inB];cases M <;> cases G <;> simp <;> omega
theorem boxB_noM {x:BoxD} {mv:Int} (h:(List.range x.mails.length).all (mailAt x)=false):boxB x mv=false:=by simp [boxB,mailsB,h]
theorem first_bad {p:Nat→Bool} {n:Nat} (h:(List.range n).all p=false):∃ k,k < n∧(∀ j,j < k→p j=true)∧p k=false:=by
 apply Classical.byContradiction
 intro hno
 have hall:∀ k,k < n→p k=true:=fun k=>Nat.strongRecOn k (fun k ih hk=>by
  cases hp:p k with
  | true=>rfl
  | false=>exact absurd ⟨k,hk,fun j hj=>ih j hj (by omega),hp⟩ hno)
 have:(List.range n).all p=true:=List.all_eq_true.2 (fun k hk=>hall k (List.mem_range.1 hk))
 rw [this] at h;cases h
theorem only_bad {p:Nat→Bool} {k j:Nat} (h1:∀ i,i < k→p i=true) (h2:p k=false) (h3:∀ i,i < j→p i=true) (h4:p j=false):j=k:=by
 rcases Nat.lt_trichotomy j k with h | h | h
 ·rw [h1 j h] at h4;cases h4
 ·exact h
 ·rw [h3 k h] at h2;cases h2
theorem boxB_noG {x:BoxD} {mv:Int} (h:(List.range x.gones.length).all (goneAt x)=false):boxB x mv=false:=by simp [boxB,gonesB,h]

def clsB (x:BoxD) (k:Nat):Nat:=match x.gones[k]? with
 | some m=>if m.uid < 1 then 1 else if x.next≤m.uid then 2 else if (x.mails.any fun o=>decide (o.uid=m.uid))=true then 3 else if m.seq < 1 then 4 else if x.seq < m.seq then 5 else if (0:Int) < (k:Int) then (if m.seq < minS x k then 8 else if m.seq < x.lost then 9 else 10) else (if m.seq < x.lost then 6 else 7)
 | none=>1
theorem clsB_range (x:BoxD) (k:Nat):1≤clsB x k∧clsB x k≤10:=by
 unfold clsB
 repeat' split
 all_goals omega
end Go.Proofs.YtnlhkgoppjejeaaDoor
