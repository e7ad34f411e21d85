/- The proof's texts, part 8. -/
import Derived.Test.YtfabngnaejjcmaaGreatDoorT1
namespace Go.Proofs.YtfabngnaejjcmaaGreatDoor
open Go.RowKit
/- Rows of rows ([][]byte): what one reads as, one of the call's own, its rows apart from each other. -/
/-- The sum of the first sizes. -/
def pre (m:Nat->Nat):Nat->Nat
 | 0=>0
 | j+1=>pre m j+m j
/-- The slice value v reads as n rows of bytes: the i-th is f i. -/
def wu (w:World) (v:Value) (n:Nat) (f:Nat->List Int):Prop :=
 ∃a cap,∃us:Nat->Value,v=.slice a n cap/\n<=cap/\cap<=maxLen /\
  (0 < n->∃b off,a=some ⟨b,off,none⟩/\b < w.heap.size/\∀i,i < n->w.cell? ⟨b,off+i,none⟩=some (us i))/\∀i,i < n->Bs w (us i) (f i)
theorem wu.below {w w':World} {v:Value} {n:Nat} {f:Nat->List Int} (h:wu w v n f) (hb:Below w.heap.size w w'):wu w' v n f:=by
 obtain⟨a,cap,us,hv,h1,h2,h3,h4⟩:=h;refine⟨a,cap,us,hv,h1,h2,λhp=>?_,λi hi=>(h4 i hi).below hb⟩;obtain⟨b,off,ha,hlt,hc⟩:=h3 hp;exact⟨b,off,ha,Nat.lt_of_lt_of_le hlt hb.size,λi hi=>(hb.cell (p:=⟨b,off+i,none⟩) hlt).trans (hc i hi)⟩
theorem wu.aP {w:World} {v:Value} {n:Nat} {f:Nat->List Int} (h:wu w v n f):∃a m cap,v=.slice a m cap:=by obtain⟨a,cap,_,h,_⟩:=h;exact⟨a,_,cap,h⟩
theorem wu.congr {w:World} {v:Value} {n:Nat} {f g:Nat->List Int} (h:wu w v n f) (e:∀i,i < n->f i=g i):wu w v n g:=by
 obtain⟨a,cap,us,hv,h1,h2,h3,h4⟩:=h;exact⟨a,cap,us,hv,h1,h2,h3,λi hi=>by rw[← e i hi];exact h4 i hi⟩
/-- The row of rows v with the slices us is the call's own, in blocks from B on and below T, no two in one; the i-th row's bytes are f i. -/
structure mM (w:World) (B T:Nat) (v:Value) (us:List Value) (f:Nat->List Int):Prop where
 row:w.ownsRow B 22 1 v us.length us
 top:∀g,v.ownBlock=some g->g < T
 rows:∀(i:Nat) (u:Value),us[i]?=some u->Row w B T u (f i)
 distinct:∀(i j:Nat) (u u':Value) (g:Nat),us[i]?=some u->us[j]?=some u'->u.ownBlock=some g->u'.ownBlock=some g->i=j
/-- The rows of a list. -/
def wB (w:World) (B T:Nat) (v:Value) (ls:List (List Int)):Prop:=∃us:List Value,us.length=ls.length/\mM w B T v us (λi=>ls.getD i [])
theorem Row.heap {w:World} {B T g:Nat} {v:Value} {l:List Int} (h:Row w B T v l) (hg:v.ownBlock=some g):∃cur,w.heap[g]?=some (.cells cur 5 (0,0)):=by
 rcases h.2.1.2 with⟨hn,_⟩ | ⟨k,cap,cur,hv,_,hh,_⟩
 ·rw[hn] at hg;simp[Value.ownBlock] at hg
 ·rw[hv] at hg;simp[Value.ownBlock] at hg;subst hg;exact⟨cur,hh⟩
theorem aax {w:World} {B g n:Nat} {e:TypeId} {v:Value} {xs:List Value} (h:w.ownsRow B e 1 v n xs) (hg:v.ownBlock=some g):∃cur,w.heap[g]?=some (.cells cur e (0,0)):=by
 rcases h.2 with⟨hn,_⟩ | ⟨k,cap,cur,hv,_,hh,_⟩
 ·rw[hn] at hg;simp[Value.ownBlock] at hg
 ·rw[hv] at hg;simp[Value.ownBlock] at hg;subst hg;exact⟨cur,hh⟩
/-- A row of bytes and a row of slices never lie in one block. -/
theorem aay {w:World} {B B' T n:Nat} {v u:Value} {xs:List Value} {l:List Int} (h:w.ownsRow B 22 1 v n xs) (hu:Row w B' T u l):u.ownBlock=none\/u.ownBlock≠v.ownBlock:=by
 cases hg:u.ownBlock with
 | none=>exact .inl rfl
 | some g =>
  refine .inr λe=>?_;obtain⟨c1,h1⟩:=aax h e.symm;obtain⟨c2,h2⟩:=hu.heap hg;rw[h1] at h2;simp at h2
theorem ownsRow_below {w w':World} {B n:Nat} {e:TypeId} {v:Value} {xs:List Value} (h:w.ownsRow B e 1 v n xs) (hb:Below w.heap.size w w'):w'.ownsRow B e 1 v n xs:=by
 refine⟨h.1,?_⟩;rcases h.2 with hn | ⟨g,cap,cur,hv,hg,hh,r⟩
 ·exact .inl hn
 ·exact .inr ⟨g,cap,cur,hv,hg,(hb.block g (lt_of_heap hh)).trans hh,r⟩
theorem aaz {w:World} {B B' n:Nat} {e:TypeId} {v:Value} {xs:List Value} (h:w.ownsRow B e 1 v n xs) (hB:B'<=B):w.ownsRow B' e 1 v n xs:=by
 refine⟨h.1,?_⟩;rcases h.2 with hn | ⟨g,cap,cur,hv,hg,r⟩
 ·exact .inl hn
 ·exact .inr ⟨g,cap,cur,hv,Nat.le_trans hB hg,r⟩
theorem mM.below {w w':World} {B T:Nat} {v:Value} {us:List Value} {f:Nat->List Int} (h:mM w B T v us f) (hb:Below w.heap.size w w'):mM w' B T v us f :=
 ⟨ownsRow_below h.row hb,h.top,λi u hu=>(h.rows i u hu).below hb,h.distinct⟩
theorem mM.wide {w:World} {B T B' T':Nat} {v:Value} {us:List Value} {f:Nat->List Int} (h:mM w B T v us f) (hB:B'<=B) (hT:T<=T'):mM w B' T' v us f :=
 ⟨aaz h.row hB,λg hg=>Nat.lt_of_lt_of_le (h.top g hg) hT,λi u hu=>(h.rows i u hu).wide hB hT,h.distinct⟩
theorem mM.congr {w:World} {B T:Nat} {v:Value} {us:List Value} {f g:Nat->List Int} (h:mM w B T v us f) (e:∀i,i < us.length->f i=g i):mM w B T v us g :=
 ⟨h.row,h.top,λi u hu=>by rw[← e i (gs1 hu).1];exact h.rows i u hu,h.distinct⟩
theorem mM.nil (w:World) (B T:Nat) (f:Nat->List Int):mM w B T (.slice none 0 0) [] f :=
 ⟨World.ownsRow_nil _ _ _ _,λg hg=>by simp[Value.ownBlock] at hg,λi u hu=>by simp at hu,λi j u u' g hu=>by simp at hu⟩
/-- One of the rows was written. -/
theorem mM.wrote {w w':World} {B T i:Nat} {v u:Value} {us:List Value} {f:Nat->List Int} {l:List Int} (h:mM w B T v us f) (hu:us[i]?=some u) (hg:w.grownBy w' u.ownBlock) (hr:Row w' B T u l):mM w' B T v us (λj=>if j=i then l else f j):=by
 have hri:=h.rows i u hu;refine⟨h.row.kept hg ?_,h.top,λj u' hu'=>?_,h.distinct⟩
 ·cases hv:v.ownBlock with
  | none=>exact .inl rfl
  | some g =>
   refine .inr λe=>?_;rcases aay h.row hri with h1 | h1
   ·rw[h1] at e;simp at e
   ·exact h1 (by rw[hv];exact e.symm)
 ·by_cases hj:j=i
  ·subst hj
   rw[hu] at hu';cases hu'
   simpa using hr
  ·simp only[if_neg hj]
   have Le:=h.rows j u' hu';refine⟨Le.1,Le.2.1.kept hg ?_,Le.2.2⟩;cases hv:u'.ownBlock with
   | none=>exact .inl rfl
   | some g=>exact .inr λe=>hj (h.distinct j i u' u g hu' hu hv e.symm)
theorem wB.below {w w':World} {B T:Nat} {v:Value} {ls:List (List Int)} (h:wB w B T v ls) (hb:Below w.heap.size w w'):wB w' B T v ls:=let ⟨us,e,h⟩:=h;⟨us,e,h.below hb⟩
theorem wB.wide {w:World} {B T B' T':Nat} {v:Value} {ls:List (List Int)} (h:wB w B T v ls) (hB:B'<=B) (hT:T<=T'):wB w B' T' v ls:=let ⟨us,e,h⟩:=h;⟨us,e,h.wide hB hT⟩
theorem wB.nil (w:World) (B T:Nat):wB w B T (.slice none 0 0) []:=⟨[],rfl,mM.nil _ _ _ _⟩
end Go.Proofs.YtfabngnaejjcmaaGreatDoor
