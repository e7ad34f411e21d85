/- The proof's texts, part 17. -/
import Derived.Test.YtfabngnaejjcmaaGreatDoorTg
import Derived.Laws.AppendOwn
namespace Go.Proofs.YtfabngnaejjcmaaGreatDoor
open Go.RowKit
set_option linter.unusedVariables false
set_option linter.unusedSimpArgs false
/- What the Tg objects say of the machine's memory. -/
/-- Where an object stands: its block, and how many elements there may be behind those that are known. -/
abbrev Ph:=Nat->Option (Nat × Nat)
mutual
def AV.den (φ:Ph):AV->Option Value
 | .sc v=>some v
 | .ptr i o=>match φ i with | some x=>some (.pointer (some ⟨x.1,o,none⟩)) | none=>none
 | .sl i o n c=>match φ i with | some x=>some (.slice (some ⟨x.1,o,none⟩) n (c+x.2)) | none=>none
 | .mp i=>match φ i with | some x=>some (.map (some x.1)) | none=>none
 | .fn f a c=>match aH φ a,aH φ c with | some a,some c=>some (.func f a.toArray c.toArray) | _,_=>none
 | .kE t v=>match v.den φ with | some v=>some (.iface t v) | none=>none
 | .agg l=>match aH φ l with | some l=>some (.agg l.toArray) | none=>none
 | .fC l=>match aH φ l with | some l=>some (.tuple l.toArray) | none=>none
 | .wG i=>match φ i with | some x=>some (.func (.yield x.1) #[] #[]) | none=>none
 | .emp i o d=>match φ i with | some x=>some (.slice (some ⟨x.1,if x.2=0 then o else o+d,none⟩) 0 x.2) | none=>none
 | .bad=>none
def aH (φ:Ph):List AV->Option (List Value)
 | []=>some []
 | v :: l=>match v.den φ,aH φ l with | some v,some l=>some (v :: l) | _,_=>none
end
def Ph.le (φ ψ:Ph):Prop:=∀i x,φ i=some x->ψ i=some x
mutual
theorem AV.sN {φ ψ:Ph} (h:φ.le ψ):∀(v:AV) {V:Value},v.den φ=some V->v.den ψ=some V
 | .sc v,V,e=>e
 | .ptr i o,V,e=>by
  simp only[AV.den] at e ⊢;cases hi:φ i with
  | none=>rw[hi] at e;cases e
  | some x=>rw[hi] at e;rw[h i x hi];exact e
 | .sl i o n c,V,e=>by
  simp only[AV.den] at e ⊢;cases hi:φ i with
  | none=>rw[hi] at e;cases e
  | some x=>rw[hi] at e;rw[h i x hi];exact e
 | .mp i,V,e=>by
  simp only[AV.den] at e ⊢;cases hi:φ i with
  | none=>rw[hi] at e;cases e
  | some x=>rw[hi] at e;rw[h i x hi];exact e
 | .fn f a c,V,e=>by
  simp only[AV.den] at e ⊢;cases ha:aH φ a with
  | none=>rw[ha] at e;cases e
  | some A =>
   cases hc:aH φ c with
   | none=>rw[ha,hc] at e;cases e
   | some C=>rw[ha,hc] at e;rw[yV h a ha,yV h c hc];exact e
 | .kE t v,V,e=>by
  simp only[AV.den] at e ⊢;cases hv:v.den φ with
  | none=>rw[hv] at e;cases e
  | some x=>rw[hv] at e;rw[AV.sN h v hv];exact e
 | .agg l,V,e=>by
  simp only[AV.den] at e ⊢;cases hv:aH φ l with
  | none=>rw[hv] at e;cases e
  | some x=>rw[hv] at e;rw[yV h l hv];exact e
 | .fC l,V,e=>by
  simp only[AV.den] at e ⊢;cases hv:aH φ l with
  | none=>rw[hv] at e;cases e
  | some x=>rw[hv] at e;rw[yV h l hv];exact e
 | .wG i,V,e=>by
  simp only[AV.den] at e ⊢;cases hi:φ i with
  | none=>rw[hi] at e;cases e
  | some x=>rw[hi] at e;rw[h i x hi];exact e
 | .emp i o d,V,e=>by
  simp only[AV.den] at e ⊢;cases hi:φ i with
  | none=>rw[hi] at e;cases e
  | some x=>rw[hi] at e;rw[h i x hi];exact e
 | .bad,V,e=>e
theorem yV {φ ψ:Ph} (h:φ.le ψ):∀(l:List AV) {L:List Value},aH φ l=some L->aH ψ l=some L
 | [],L,e=>e
 | v :: l,L,e=>by
  simp only[aH] at e ⊢;cases hv:v.den φ with
  | none=>rw[hv] at e;cases e
  | some x =>
   cases hl:aH φ l with
   | none=>rw[hv,hl] at e;cases e
   | some y=>rw[hv,hl] at e;rw[AV.sN h v hv,yV h l hl];exact e
end
theorem jk {φ:Ph} {v:AV} {l:List AV} {L:List Value} (h:aH φ (v :: l)=some L):∃V L',v.den φ=some V/\aH φ l=some L'/\L=V :: L':=by
 simp only[aH] at h;cases hv:v.den φ with
 | none=>rw[hv] at h;cases h
 | some x =>
  cases hl:aH φ l with
  | none=>rw[hv,hl] at h;cases h
  | some y=>rw[hv,hl] at h;cases h;exact⟨x,y,rfl,rfl,rfl⟩
theorem lV {φ:Ph} {v:AV} {l:List AV} {V:Value} {L:List Value} (h:v.den φ=some V) (hl:aH φ l=some L):aH φ (v :: l)=some (V :: L):=by
 simp only[aH,h,hl]
theorem nI {φ:Ph}:∀ {l:List AV} {L:List Value},aH φ l=some L->L.length=l.length
 | [],L,h=>by simp only[aH] at h;cases h;rfl
 | v :: l,L,h=>by obtain⟨V,L',_,hl,rfl⟩:=jk h;simp[nI hl]
theorem EB {φ:Ph}:∀ {l:List AV} {L:List Value},aH φ l=some L->∀(k:Nat) (v:AV),l[k]?=some v->∃V,v.den φ=some V/\L[k]?=some V
 | [],L,h,k,v,e=>by simp at e
 | u :: l,L,h,0,v,e=>by
  obtain⟨V,L',hv,hl,rfl⟩:=jk h;simp only[List.getElem?_cons_zero,Option.some.injEq] at e;subst e;exact⟨V,hv,rfl⟩
 | u :: l,L,h,k+1,v,e=>by
  obtain⟨V,L',hv,hl,rfl⟩:=jk h;exact EB hl k v (by simpa using e)
theorem wT {φ:Ph}:∀ {a b:List AV} {A B:List Value},aH φ a=some A->aH φ b=some B->aH φ (a ++ b)=some (A ++ B)
 | [],b,A,B,h,hb=>by simp only[aH] at h;cases h;exact hb
 | v :: a,b,A,B,h,hb=>by
  obtain⟨V,L',hv,hl,rfl⟩:=jk h;exact lV hv (wT hl hb)
theorem Tq {φ:Ph}:∀ {l:List AV} {L:List Value},aH φ l=some L->∀k,aH φ (l.drop k)=some (L.drop k)
 | l,L,h,0=>h
 | [],L,h,k+1=>by simp only[aH] at h;cases h;rfl
 | v :: l,L,h,k+1=>by
  obtain⟨V,L',hv,hl,rfl⟩:=jk h;exact Tq hl k
theorem Tt {φ:Ph}:∀ {l:List AV} {L:List Value},aH φ l=some L->∀k,aH φ (l.take k)=some (L.take k)
 | l,L,h,0=>rfl
 | [],L,h,k+1=>by simp only[aH] at h;cases h;rfl
 | v :: l,L,h,k+1=>by
  obtain⟨V,L',hv,hl,rfl⟩:=jk h;exact lV hv (Tt hl k)
/-- The entries of a map. -/
def dU (φ:Ph):List (AV × AV × Nat)->Option (List MapEntry)
 | []=>some []
 | (k,v,b) :: l=>match k.den φ,v.den φ,dU φ l with
  | some k,some v,some l=>some ({ key:=k,val:=v,born:=b } :: l)
  | _,_,_=>none
theorem sO {φ:Ph} {e:AV × AV × Nat} {l:List (AV × AV × Nat)} {L:List MapEntry} (h:dU φ (e :: l)=some L) :
  ∃K V L',e.1.den φ=some K/\e.2.1.den φ=some V/\dU φ l=some L'/\L = { key:=K,val:=V,born:=e.2.2 } :: L':=by
 obtain⟨k,v,b⟩:=e;simp only[dU] at h;cases hk:k.den φ with
 | none=>rw[hk] at h;cases h
 | some K =>
  cases hv:v.den φ with
  | none=>rw[hk,hv] at h;cases h
  | some V =>
   cases hl:dU φ l with
   | none=>rw[hk,hv,hl] at h;cases h
   | some L'=>rw[hk,hv,hl] at h;cases h;exact⟨K,V,L',rfl,rfl,rfl,rfl⟩
theorem BH {φ:Ph} {k v:AV} {b:Nat} {l:List (AV × AV × Nat)} {K V:Value} {L:List MapEntry} (hk:k.den φ=some K) (hv:v.den φ=some V) (hl:dU φ l=some L) :
 dU φ ((k,v,b) :: l)=some ({ key:=K,val:=V,born:=b } :: L):=by simp only[dU,hk,hv,hl]
theorem Ma {φ ψ:Ph} (h:φ.le ψ):∀(l:List (AV × AV × Nat)) {L:List MapEntry},dU φ l=some L->dU ψ l=some L
 | [],L,e=>e
 | (k,v,b) :: l,L,e=>by
  obtain⟨K,V,L',hk,hv,hl,rfl⟩:=sO e;exact BH (AV.sN h _ hk) (AV.sN h _ hv) (Ma h l hl)
def IE (fz:Nat × Nat) (m:Nat):Prop:=∀k,k < m->¬(fz.1<=k/\k < fz.2)
/-- A row of cells. -/
structure BI (P:Program) (B:Nat) (φ:Ph) (s:Ob) (w:World) (i t e n:Nat) (op:Bool) (b x:Nat) (C:Array Value) (fz:Nat × Nat):Prop where
 ph:φ i=some (b,x)
 le:B<=b
 heap:w.heap[b]?=some (.cells C t fz)
 size:C.size=n+x * e
 shut:op=false->x=0
 fz:IE fz C.size
 sz:(P.info? t).map (·.size)=some e
 cell:∀o v,s.get i (o+1)=some (.c v)->o < n/\∃V,v.den φ=some V/\V.oneCell'=true/\C[o]?=some V
/-- A block that puts off calls, with none; the record of a range over a function that no round has met. -/
def Mc (k:Bool) (o:Obj):Prop:=(k=false->o=.deferred (some []))/\(k=true->∃r,o=.loop r/\r.state=.ready/\r.pending=none)
structure Rel (P:Program) (w0:World) (φ:Ph) (s:Ob) (w:World):Prop where
 base:Below w0.heap.size w0 w
 row:∀i t e n op,s.get i 0=some (.row t e n op)->∃b x C fz,BI P w0.heap.size φ s w i t e n op b x C fz
 map:∀i es c,s.get i 0=some (.map es c)->∃b x ES,φ i=some (b,x)/\w0.heap.size<=b/\w.heap[b]?=some (.map ES c)/\dU φ es=some ES.toList
 it:∀i m since seen last,s.get i 0=some (.it m since seen last)->∃b x m' y,φ i=some (b,x)/\w0.heap.size<=b/\φ m=some (m',y)/\w.heap[b]?=some (.mapIter (some m') since seen.toArray last)
 sp:∀i k,s.get i 0=some (.sp k)->∃b x o,φ i=some (b,x)/\w0.heap.size<=b/\w.heap[b]?=some o/\Mc k o
 head:∀i v,s.get i 0≠some (.c v)
 dom:∀i p,s.get i p≠none->φ i≠none
 inj:∀i j b x y,s.get i 0≠none->s.get j 0≠none->φ i=some (b,x)->φ j=some (b,y)->i=j
/-- What is new is named by new numbers. -/
structure Ext (φ ψ:Ph) (n n':Nat):Prop where
 le:n<=n'
 out:∀i,(i < n\/n'<=i)->ψ i=φ i
/-- m does as S does. -/
def Sim {α β:Type} (P:Program) (w0:World) (φ:Ph) (s:Ob) (w:World) (n:Nat) (m:M α) (S:Sem β) (R:Ph->α->β->Prop):Prop :=
 ∀a s' n' r l,m s n=.ok a s' n' r l->(∀i,n<=i->i < n'->φ i=none) ->
  ∃ψ b w',S.run P w=.ok b w'/\Rel P w0 ψ s' w'/\Ext φ ψ n n'/\φ.le ψ/\R ψ a b
theorem Ph.le_refl (φ:Ph):φ.le φ:=λ_ _ h=>h
theorem Ph.le_trans {φ ψ χ:Ph} (h:φ.le ψ) (k:ψ.le χ):φ.le χ:=λi x e=>k i x (h i x e)
theorem Ext.refl (φ:Ph) (n:Nat):Ext φ φ n n:=⟨Nat.le_refl _,λ_ _=>rfl⟩
theorem Ext.trans {φ ψ χ:Ph} {a b c:Nat} (h:Ext φ ψ a b) (k:Ext ψ χ b c):Ext φ χ a c :=
 ⟨Nat.le_trans h.le k.le,λi hi=>by have:=h.le;have:=k.le;rw[k.out i (by omega),h.out i (by omega)]⟩
section
variable {P : Program} {w0 : World} {φ : Ph} {s : Ob} {w : World} {n : Nat}
theorem bW {α:Type} {o:Option α} {e:Nat} {a:α} {s s':Ob} {n n':Nat} {r l:Lg} (h:M.opt e o s n=.ok a s' n' r l):o=some a/\s'=s/\n'=n:=by
 cases o with
 | none=>cases h
 | some b=>cases h;exact⟨rfl,rfl,rfl⟩
theorem BJ {i o:Nat} {v:O} {s s':Ob} {n n':Nat} {r l:Lg} (h:M.get i o s n=.ok v s' n' r l):s.get i o=some v/\i < n/\s'=s/\n'=n:=by
 unfold M.get at h;cases hg:Ob.get s i o with
 | none=>rw[hg] at h;cases h
 | some u =>
  rw[hg] at h;dsimp only at h;cases hb:Nat.blt i n with
  | false=>rw[hb] at h;cases h
  | true=>rw[hb] at h;cases h;exact⟨rfl,by simpa [Nat.blt_eq] using hb,rfl,rfl⟩
theorem sP {i o:Nat} {v:Option O} {a:Unit} {s s':Ob} {n n':Nat} {r l:Lg} (h:M.put i o v s n=.ok a s' n' r l):s'=s.put i o v/\i < n/\n'=n/\i < 16000000/\o < 16000000:=by
 unfold M.put at h;cases hb:and (Nat.blt i n) (and (Nat.blt i 16000000) (Nat.blt o 16000000)) with
 | false=>rw[hb] at h;cases h
 | true =>
  rw[hb] at h;cases h
  have hlt:i < n/\i < 16000000/\o < 16000000:=by simpa [Nat.blt_eq,Bool.and_eq_true] using hb
  exact⟨rfl,hlt.1,rfl,hlt.2⟩
theorem uV {i:Nat} {x:Nat × Nat × Nat × Bool} {s s':Ob} {n n':Nat} {r l:Lg} (h:rowAt i s n=.ok x s' n' r l):s.get i 0=some (.row x.1 x.2.1 x.2.2.1 x.2.2.2)/\s'=s/\n'=n:=by
 obtain⟨a,s1,n1,r1,l1,r2,l2,e1,e2,rfl,rfl⟩:=bind_ok (show M.bind _ _ s n=_ from h);obtain⟨g,_,rfl,rfl⟩:=BJ e1;cases a with
 | row t e k op=>cases (show M.pure _ _ _=_ from e2);exact⟨g,rfl,rfl⟩
 | _=>cases e2
theorem yX {i:Nat} {x:List (AV × AV × Nat) × Nat} {s s':Ob} {n n':Nat} {r l:Lg} (h:uN i s n=.ok x s' n' r l):s.get i 0=some (.map x.1 x.2)/\s'=s/\n'=n:=by
 obtain⟨a,s1,n1,r1,l1,r2,l2,e1,e2,rfl,rfl⟩:=bind_ok (show M.bind _ _ s n=_ from h);obtain⟨g,_,rfl,rfl⟩:=BJ e1;cases a with
 | map es c=>cases (show M.pure _ _ _=_ from e2);exact⟨g,rfl,rfl⟩
 | _=>cases e2
/-- Cells that are read. -/
theorem Tv:∀(k:Nat) (l:Ol) (x:List AV),takeC l k=some x->x.length=k/\∀j v,x[j]?=some v->fZ l j=some (.c v)
 | 0,l,x,h=>by
  have h':some []=some x:=by cases l <;> exact h
  cases h';exact⟨rfl,λj v e=>by simp at e⟩
 | k+1,[],x,h=>by cases h
 | k+1,y :: l,x,h=>by
  have h':(match qX y with | some v=>Ib v (takeC l k) | none=>none)=some x:=h;cases hy:qX y with
  | none=>rw[hy] at h';cases h'
  | some v =>
   rw[hy] at h';dsimp only at h';cases ht:takeC l k with
   | none=>rw[ht] at h';cases h'
   | some z =>
    rw[ht] at h';have h2:some (v :: z)=some x:=h';cases h2
    obtain⟨h3,h4⟩:=Tv k l z ht;have hyv:y=some (.c v):=by
     unfold qX at hy
     split at hy <;> cases hy
     rfl
    refine⟨by simp[h3],λj u e=>?_⟩;cases j with
    | zero=>simp only[List.getElem?_cons_zero,Option.some.injEq] at e;subst e;exact hyv
    | succ j=>exact h4 j u (by simpa using e)
theorem IG {i k o:Nat} {l:List AV} {s':Ob} {n':Nat} {r w1:Lg} (h:uK i o k s n=.ok l s' n' r w1):s'=s/\n'=n/\l.length=k/\∀j v,l[j]?=some v->s.get i (o+j+1)=some (.c v):=by
 unfold uK at h;cases hc:takeC (AA (s.at i) (Nat.succ o)) k with
 | none=>rw[hc] at h;cases h
 | some x =>
  rw[hc] at h;dsimp only at h;cases hb:Nat.blt i n with
  | false=>rw[hb] at h;cases h
  | true =>
   rw[hb] at h;cases h
   obtain⟨h1,h2⟩:=Tv _ _ _ hc;refine⟨rfl,rfl,h1,λj v e=>?_⟩;have:=h2 j v e;rw[Iw] at this;rw[show o+j+1=Nat.succ o+j by omega];exact this
theorem Addr.qI (b o k:Nat):(⟨b,o,none⟩:Addr).add k=⟨b,o+k,none⟩:=by
 unfold Addr.add
 split
 ·next h=>subst h;rfl
 ·rfl
theorem II {B:Nat} {C:Array Value} {t:Nat} {fz:Nat × Nat} {b o:Nat} {V:Value} (h:w.heap[b]?=some (.cells C t fz)) (hc:C[o]?=some V):w.cell? ⟨b,o,none⟩=some V:=by
 simp[World.cell?,h,hc]
/-- The row's own cells, as read. -/
theorem IJ {i t e k:Nat} {op:Bool} {b x:Nat} {C:Array Value} {fz:Nat × Nat} {B:Nat} (h:BI P B φ s w i t e k op b x C fz) {o:Nat}:∀ {l:List AV},(∀j v,l[j]?=some v->s.get i (o+j+1)=some (.c v)) ->
  ∃L,aH φ l=some L/\(∀V ∈ L,V.oneCell'=true)/\∀j V,L[j]?=some V->w.cell? ⟨b,o+j,none⟩=some V:=by
 intro l
 induction l generalizing o with
 | nil=>intro _;exact⟨[],rfl,by simp,by simp⟩
 | cons v l ih =>
  intro hl;have h0:=hl 0 v rfl;obtain⟨-,V,hv,h1,hC⟩:=h.cell o v (by simpa using h0);obtain⟨L,hL,h2,h3⟩:=ih (o:=o+1) (λj u e=>by rw[show o+1+j+1=o+(j+1)+1 by omega];exact hl (j+1) u (by simpa using e));refine⟨V :: L,lV hv hL,λU hU=>?_,λj U e=>?_⟩
  ·rcases List.mem_cons.1 hU with rfl | hU
   ·exact h1
   ·exact h2 U hU
  ·cases j with
   | zero=>simp only[List.getElem?_cons_zero,Option.some.injEq] at e;subst e;exact II (B:=B) h.heap (by simpa using hC)
   | succ j=>rw[show o+(j+1)=o+1+j by omega];exact h3 j U (by simpa using e)
theorem Tx {b o:Nat}:∀ {L:List Value} {k:Nat} {acc:Array Value},(∀j V,L[j]?=some V->w.cell? ⟨b,o+k+j,none⟩=some V) ->
  (loadCellsFrom ⟨b,o,none⟩ k L.length acc).run P w=.ok (acc ++ L.toArray) w
 | [],k,acc,_=>by simp[loadCellsFrom]
 | V :: L,k,acc,h=>by
  have h0:=h 0 V rfl;simp only[List.length_cons,loadCellsFrom,Sem.run_bind,run_load,Addr.qI];rw[show(⟨b,o+k,none⟩:Addr)=⟨b,o+k+0,none⟩ from rfl,h0];simp only[Result.andThen_ok];rw[Tx (k:=k+1) (λj U e=>by rw[show o+(k+1)+j=o+k+(j+1) by omega];exact h (j+1) U (by simpa using e))];simp
theorem IK {b o:Nat} {L:List Value} (h:∀j V,L[j]?=some V->w.cell? ⟨b,o+j,none⟩=some V):(loadCells ⟨b,o,none⟩ L.length).run P w=.ok L.toArray w:=by
 unfold loadCells;rw[Tx (k:=0) (λj V e=>by simpa using h j V e)];simp
end
/- Stores and new rows. -/
theorem one_den {φ:Ph} {v:AV} {V:Value} (h:v.one=true) (e:v.den φ=some V):V.oneCell'=true:=by
 cases v with
 | sc v=>simp only[AV.den,Option.some.injEq] at e;subst e;cases v <;> first | rfl | exact h
 | ptr i o=>simp only[AV.den] at e;cases hi:φ i <;> rw[hi] at e <;> cases e;rfl
 | sl i o n c=>simp only[AV.den] at e;cases hi:φ i <;> rw[hi] at e <;> cases e;rfl
 | mp i=>simp only[AV.den] at e;cases hi:φ i <;> rw[hi] at e <;> cases e;rfl
 | fn f a c=>simp only[AV.den] at e;cases ha:aH φ a <;> cases hc:aH φ c <;> rw[ha,hc] at e <;> cases e;rfl
 | kE t v=>simp only[AV.den] at e;cases hv:v.den φ <;> rw[hv] at e <;> cases e;rfl
 | agg l=>cases h
 | fC l=>cases h
 | wG i=>simp only[AV.den] at e;cases hi:φ i <;> rw[hi] at e <;> cases e;rfl
 | emp i o d=>simp only[AV.den] at e;cases hi:φ i <;> rw[hi] at e <;> cases e;rfl
 | bad=>cases e
section
variable {P : Program} {w0 : World} {φ : Ph} {s : Ob} {w : World} {n : Nat}
theorem BI.EC {B i t e k b x:Nat} {op:Bool} {C:Array Value} {fz:Nat × Nat} {ψ:Ph} {s':Ob} {W:World} (h:BI P B φ s w i t e k op b x C fz) (hψ:φ.le ψ) (hW:W.heap[b]?=w.heap[b]?) (hs:∀p,s'.get i p=s.get i p):BI P B ψ s' W i t e k op b x C fz :=
 ⟨hψ _ _ h.ph,h.le,hW.trans h.heap,h.size,h.shut,h.fz,h.sz,λo v hv=>let ⟨q,V,h1,h2⟩:=h.cell o v (by rw[← hs];exact hv);⟨q,V,AV.sN hψ v h1,h2⟩⟩
/-- The block of an object that is there lies in memory. -/
theorem Rel.there (h:Rel P w0 φ s w) {i b x:Nat} (hi:s.get i 0≠none) (hp:φ i=some (b,x)):b < w.heap.size/\w0.heap.size<=b:=by
 cases hg:s.get i 0 with
 | none=>exact absurd hg hi
 | some v =>
  have lt:∀ {o:Obj},w.heap[b]?=some o->b < w.heap.size:=λe=>by
   rcases Nat.lt_or_ge b w.heap.size with h | h
   ·exact h
   ·rw[Array.getElem?_eq_none h] at e;cases e
  cases v with
  | c v=>exact absurd hg (h.head i v)
  | row t e k op =>
   obtain⟨b',x',C,fz,r⟩:=h.row i t e k op hg;have e:=r.ph;rw[hp] at e;cases e;exact⟨lt r.heap,r.le⟩
  | map es c =>
   obtain⟨b',x',ES,e,hl,hh,_⟩:=h.map i es c hg;rw[hp] at e;cases e;exact⟨lt hh,hl⟩
  | it m a l k =>
   obtain⟨b',x',m',y,e,hl,_,hh⟩:=h.it i m a l k hg;rw[hp] at e;cases e;exact⟨lt hh,hl⟩
  | sp k =>
   obtain⟨b',x',o,e,hl,hh,_⟩:=h.sp i k hg;rw[hp] at e;cases e;exact⟨lt hh,hl⟩
/-- All but one object as they were, in a world that turns in one block alone; that one is handed in. -/
theorem Rel.but {ψ:Ph} {s':Ob} {W:World} {j b:Nat} (h:Rel P w0 φ s w) (hψ:φ.le ψ) (hbase:Below w0.heap.size w0 W) (hW:∀k,k≠b->k < w.heap.size->W.heap[k]?=w.heap[k]?)
  (hs:∀i p,i≠j->s'.get i p=s.get i p) (ED:∀i,i≠j->ψ i=φ i) (free:∀i y,i≠j->s.get i 0≠none->φ i=some (b,y)->False)
  (hhead:∀v,s'.get j 0≠some (.c v)) (hdom:∀p,s'.get j p≠none->ψ j≠none) (hbj:∀c y,s'.get j 0≠none->ψ j=some (c,y)->c=b)
  (hrow:∀t e n op,s'.get j 0=some (.row t e n op)->∃b x C fz,BI P w0.heap.size ψ s' W j t e n op b x C fz)
  (hmap:∀es c,s'.get j 0=some (.map es c)->∃b x ES,ψ j=some (b,x)/\w0.heap.size<=b/\W.heap[b]?=some (.map ES c)/\dU ψ es=some ES.toList)
  (hit:∀m since seen last,s'.get j 0=some (.it m since seen last)->∃b x m' y,ψ j=some (b,x)/\w0.heap.size<=b/\ψ m=some (m',y)/\W.heap[b]?=some (.mapIter (some m') since seen.toArray last))
  (hsp:∀k,s'.get j 0=some (.sp k)->∃b x o,ψ j=some (b,x)/\w0.heap.size<=b/\W.heap[b]?=some o/\Mc k o:=by(intro k hg';rw[g0] at hg';cases hg')) :
  Rel P w0 ψ s' W:=by
 have same:∀i b' x,i≠j->s.get i 0≠none->φ i=some (b',x)->W.heap[b']?=w.heap[b']?:=by
  intro i b' x hij hg hp;exact hW b' (λe=>free i x hij hg (e ▸ hp)) (h.there hg hp).1
 refine⟨hbase,λi t e n op hi=>?_,λi es c hi=>?_,λi m a l k hi=>?_,λi k hi=>?_,λi v hv=>?_,λi p hp=>?_,λi i' c x y h1 h2 h3 h4=>?_⟩
 ·by_cases hij:i=j
  ·subst hij;exact hrow t e n op hi
  ·rw[hs i 0 hij] at hi
   obtain⟨b',x,C,fz,r⟩:=h.row i t e n op hi;exact⟨b',x,C,fz,r.EC hψ (same i b' x hij (by rw[hi];simp) r.ph) (λp=>hs i p hij)⟩
 ·by_cases hij:i=j
  ·subst hij;exact hmap es c hi
  ·rw[hs i 0 hij] at hi
   obtain⟨b',x,ES,r1,r2,r3,r4⟩:=h.map i es c hi;exact⟨b',x,ES,hψ _ _ r1,r2,by rw[same i b' x hij (by rw[hi];simp) r1];exact r3,Ma hψ es r4⟩
 ·by_cases hij:i=j
  ·subst hij;exact hit m a l k hi
  ·rw[hs i 0 hij] at hi
   obtain⟨b',x,m',y,r1,r2,r3,r4⟩:=h.it i m a l k hi;exact⟨b',x,m',y,hψ _ _ r1,r2,hψ _ _ r3,by rw[same i b' x hij (by rw[hi];simp) r1];exact r4⟩
 ·by_cases hij:i=j
  ·subst hij;exact hsp k hi
  ·rw[hs i 0 hij] at hi
   obtain⟨b',x,o,r1,r2,r3,r4⟩:=h.sp i k hi;exact⟨b',x,o,hψ _ _ r1,r2,by rw[same i b' x hij (by rw[hi];simp) r1];exact r3,r4⟩
 ·by_cases hij:i=j
  ·subst hij;exact hhead v hv
  ·rw[hs i 0 hij] at hv;exact h.head i v hv
 ·by_cases hij:i=j
  ·subst hij;exact hdom p hp
  ·rw[hs i p hij] at hp;rw[ED i hij];exact h.dom i p hp
 ·by_cases hij:i=j
  ·by_cases hij':i'=j
   ·rw[hij,hij']
   ·exfalso
    rw[hs i' 0 hij'] at h2;rw[ED i' hij'] at h4;have:=hbj c x (hij ▸ h1) (hij ▸ h3);exact free i' y hij' h2 (this ▸ h4)
  ·by_cases hij':i'=j
   ·exfalso
    rw[hs i 0 hij] at h1;rw[ED i hij] at h3;have:=hbj c y (hij' ▸ h2) (hij' ▸ h4);exact free i x hij h1 (this ▸ h3)
   ·rw[hs i 0 hij] at h1;rw[ED i hij] at h3;rw[hs i' 0 hij'] at h2;rw[ED i' hij'] at h4
    exact h.inj i i' c x y h1 h2 h3 h4
theorem heap_set (w:World) (a:Addr) (v:Value) {k:Nat} (h:k≠a.block):(w.setCell a v).heap[k]?=w.heap[k]?:=by
 simp[World.setCell,Array.getElem?_modify,show ¬a.block=k from λe=>h e.symm]
theorem Tz {b o:Nat} {C:Array Value} {t:Nat} {fz:Nat × Nat} (h:w.heap[b]?=some (.cells C t fz)) (v:Value):(w.setCell ⟨b,o,none⟩ v).heap[b]?=some (.cells (C.setIfInBounds o v) t fz):=by
 simp[World.setCell,Array.getElem?_modify,h]
theorem TA {b o:Nat} {C:Array Value} {t:Nat} {fz:Nat × Nat} (h:w.heap[b]?=some (.cells C t fz)) (hf:IE fz C.size) (ho:o < C.size):w.frozen? ⟨b,o,none⟩=false:=by
 have:=hf o ho;simp only[World.frozen?,h,Bool.and_eq_false_iff,decide_eq_false_iff_not]
 by_cases h1:fz.1<=o
 ·exact .inr λh2=>this ⟨h1,h2⟩
 ·exact .inl h1
/-- One cell is stored. -/
theorem abl {i t e k o:Nat} {op:Bool} {u v:AV} {V:Value} (h:Rel P w0 φ s w) (hg:s.get i 0=some (.row t e k op)) (hu:s.get i (o+1)=some (.c u)) (hv:v.den φ=some V) (h1:V.oneCell'=true) {b x:Nat} (hp:φ i=some (b,x)) :
  (store ⟨b,o,none⟩ V).run P w=.ok () (w.setCell ⟨b,o,none⟩ V)/\Rel P w0 φ (s.put i (o+1) (some (.c v))) (w.setCell ⟨b,o,none⟩ V):=by
 obtain⟨b',x',C,fz,r⟩:=h.row i t e k op hg;have e':=r.ph;rw[hp] at e';cases e';obtain⟨hok,U,-,-,hC⟩:=r.cell o u hu;have hlt:o < C.size:=by
  rcases Nat.lt_or_ge o C.size with h | h
  ·exact h
  ·rw[Array.getElem?_eq_none h] at hC;cases hC
 refine⟨?_,?_⟩
 ·rw[run_store P w _ V .plain h1,II (B:=0) r.heap hC,TA r.heap r.fz hlt]
  simp
 ·have gp:∀j q,(s.put i (o+1) (some (.c v))).get j q=if j=i/\q=o+1 then some (.c v) else s.get j q:=λj q=>Ob.LW
  have g0:(s.put i (o+1) (some (.c v))).get i 0=some (.row t e k op):=by rw[gp,if_neg (by omega)];exact hg
  refine h.but (j:=i) (b:=b) (Ph.le_refl _) (h.base.setCell (p:=⟨b,o,none⟩) r.le V) (λk hk _=>heap_set w _ V hk) (λi' p hne=>by rw[gp,if_neg (by omega)]) (λ_ _=>rfl)
   (λi' y hne ha hb=>hne (h.inj i' i b y x ha (by rw[hg];simp) hb hp)) (λv' hv'=>by rw[g0] at hv';cases hv') (λp _=>by rw[hp];simp) (λc y _ hc=>by rw[hp] at hc;cases hc;rfl)
   (λt' e' k' op' hg'=>?_) (λes c hg'=>by rw[g0] at hg';cases hg') (λm a l c hg'=>by rw[g0] at hg';cases hg')
  rw[g0] at hg';cases hg';refine⟨b,x,C.setIfInBounds o V,fz,hp,r.le,Tz r.heap V,by simpa using r.size,r.shut,by simpa using r.fz,r.sz,λq u' hq=>?_⟩;rw[gp] at hq
  by_cases hqo:q=o
  ·subst hqo
   rw[if_pos ⟨rfl,rfl⟩] at hq;cases hq;exact⟨hok,V,hv,h1,by simp[hlt]⟩
  ·rw[if_neg (by omega)] at hq
   obtain⟨a1,V',a2,a3,a4⟩:=r.cell q u' hq;exact⟨a1,V',a2,a3,by rw[Array.getElem?_setIfInBounds_ne (λe=>hqo e.symm)];exact a4⟩
theorem eG {α:Type} {b:Bool} {m:M α} {e:Nat} {s s':Ob} {n n':Nat} {a:α} {r l:Lg} (h:cd b m (M.no e) s n=.ok a s' n' r l):b=true/\m s n=.ok a s' n' r l:=by
 cases b with
 | false=>cases h
 | true=>exact⟨rfl,h⟩
/-- Cells, one behind the other. -/
theorem TB {i t e k:Nat} {op:Bool} {b x:Nat} (hp:φ i=some (b,x)):∀ {l:List AV} {o:Nat} {s:Ob} {w:World} {L:List Value},Rel P w0 φ s w->s.get i 0=some (.row t e k op)->aH φ l=some L->(∀v ∈ l,v.one=true)->(∀j,j < l.length->∃u,s.get i (o+1+j)=some (.c u)) ->
  ∃s',(∀j q,s'.get j q=if j=i/\o+1<=q/\q < o+1+l.length then (l[q - (o+1)]?).map O.c else s.get j q)/\∀c,c<=o->∃w',(storeCells ⟨b,o - c,none⟩ L c).run P w=.ok () w'/\Rel P w0 φ s' w'
 | [],o,s,w,L,h,hg,hL,h4,h5=>by
  simp only[aH] at hL;cases hL;exact⟨s,λj q=>by rw[if_neg (by rintro⟨-,h1,h2⟩;simp only[List.length_nil] at h2;omega)],λc _=>⟨w,rfl,h⟩⟩
 | v :: l,o,s,w,L,h,hg,hL,h4,h5=>by
  obtain⟨V,L',hv,hL',rfl⟩:=jk hL;obtain⟨u,hu⟩:=h5 0 (by simp);obtain⟨p1,p2⟩:=abl h hg hu hv (one_den (h4 v (by simp)) hv) hp;have gp:∀j q,(s.put i (o+1) (some (.c v))).get j q=if j=i/\q=o+1 then some (.c v) else s.get j q:=λj q=>Ob.LW
  have g0:(s.put i (o+1) (some (.c v))).get i 0=some (.row t e k op):=by rw[gp,if_neg (by omega)];exact hg
  obtain⟨s',k2,k1⟩:=TB (l:=l) (o:=o+1) hp p2 g0 hL' (λx hx=>h4 x (by simp[hx])) (λj hj=>by
   obtain⟨x,hx⟩:=h5 (j+1) (by simpa using hj);exact⟨x,by rw[gp,if_neg (by omega),show o+1+1+j=o+1+(j+1) by omega];exact hx⟩)
  refine⟨s',λj q=>?_,λc hc=>?_⟩
  ·rw[k2,gp]
   simp only[List.length_cons]
   by_cases h:j=i/\o+1+1<=q/\q < o+1+1+l.length
   ·rw[if_pos h,if_pos ⟨h.1,by omega,by omega⟩,show q - (o+1)=(q - (o+1+1))+1 by omega,List.getElem?_cons_succ]
   ·rw[if_neg h]
    by_cases hq:j=i/\q=o+1
    ·obtain⟨rfl,rfl⟩:=hq
     rw[if_pos ⟨rfl,rfl⟩,if_pos ⟨rfl,by omega,by omega⟩,Nat.sub_self];rfl
    ·rw[if_neg hq,if_neg (λh'=>by omega)]
  ·obtain⟨w',k3,k4⟩:=k1 (c+1) (by omega)
   refine⟨w',?_,k4⟩;simp only[storeCells,Sem.run_bind,Addr.qI];rw[show o - c+c=o by omega,p1];simp only[Result.andThen_ok];rw[show o - c=o+1 - (c+1) by omega];exact k3
theorem Rel.like {φ:Ph} {s t:Ob} {w:World} (h:Rel P w0 φ s w) (ht:∀i o,t.get i o=s.get i o):Rel P w0 φ t w:=by
 refine⟨h.base,λi t' e k op hi=>?_,λi es c hi=>h.map i es c (ht i 0 ▸ hi),λi m a l k hi=>h.it i m a l k (ht i 0 ▸ hi),λi k hi=>h.sp i k (ht i 0 ▸ hi),λi v hv=>h.head i v (ht i 0 ▸ hv),λi p hp=>h.dom i p (ht i p ▸ hp),λi j b x y h1 h2=>h.inj i j b x y (ht i 0 ▸ h1) (ht j 0 ▸ h2)⟩;obtain⟨b,x,C,fz,R⟩:=h.row i t' e k op (ht i 0 ▸ hi);exact⟨b,x,C,fz,R.EC (Ph.le_refl _) rfl λp=>ht i p⟩
theorem IL {i t e k:Nat} {op:Bool} {b x:Nat} (hp:φ i=some (b,x)) {l:List AV} {o:Nat} {s:Ob} {w:World} {L:List Value} {s':Ob} {n':Nat} {a:Unit} {r l1:Lg} (h:Rel P w0 φ s w) (hg:s.get i 0=some (.row t e k op)) (hL:aH φ l=some L)
  (e1:AJ i o l s n=.ok a s' n' r l1):n'=n/\s'.get i 0=some (.row t e k op)/\∀c,c<=o->∃w',(storeCells ⟨b,o - c,none⟩ L c).run P w=.ok () w'/\Rel P w0 φ s' w':=by
 cases l with
 | nil =>
  cases (show M.pure _ _ _=_ from e1)
  simp only[aH] at hL;cases hL;exact⟨rfl,hg,λc _=>⟨w,rfl,h⟩⟩
 | cons v l =>
  obtain⟨l2,h1,h2,h3,rfl,rfl,rfl,rfl⟩:=Td (show yK i o (v :: l) s n=_ from e1);obtain⟨k1,k2,k3⟩:=Iy _ _ _ _ h1;obtain⟨s2,j1,j2⟩:=TB hp h hg hL k1 (λj hj=>k2 j hj);have same:∀j q,Ob.get (T.put s i (some l2)) j q=s2.get j q:=λj q=>by
   rw[uS,j1]
   by_cases e:j=i
   ·subst e
    rw[if_pos rfl,k3]
    by_cases h':Nat.succ o<=q/\q < Nat.succ o+(v :: l).length
    ·rw[if_pos h',if_pos ⟨rfl,h'⟩]
    ·rw[if_neg h',if_neg (λh''=>h' h''.2)];rfl
   ·rw[if_neg e,if_neg (λh'=>e h'.1)]
  refine⟨rfl,?_,λc hc=>?_⟩
  ·rw[same,j1,if_neg (by omega)];exact hg
  ·obtain⟨w',q1,q2⟩:=j2 c hc
   exact⟨w',q1,q2.like same⟩
end
/- New objects. -/
noncomputable def kH (φ:Ph) (n b x:Nat):Ph:=λj=>cd (Nat.beq j n) (some (b,x)) (φ j)
theorem kW {φ:Ph} {n b x:Nat}:kH φ n b x n=some (b,x):=by unfold kH;rw[Nat.beq_refl];rfl
theorem sQ {φ:Ph} {n b x j:Nat} (h:j≠n):kH φ n b x j=φ j:=by
 unfold kH;rw[show Nat.beq j n=false from Bool.eq_false_iff.2 λe=>h (Nat.eq_of_beq_eq_true e)];rfl
theorem nJ {φ:Ph} {n b x:Nat} (h:φ n=none):φ.le (kH φ n b x):=λi y e=>by
 by_cases hi:i=n
 ·subst hi;rw[h] at e;cases e
 ·rw[sQ hi];exact e
theorem wU {φ:Ph} {n b x:Nat}:Ext φ (kH φ n b x) n (n+1):=⟨by omega,λi hi=>sQ (by omega)⟩
theorem ak {α β:Type} {m:M α} {f:α->M β} {s s':Ob} {n n':Nat} {b:β} {r w:Lg} (h:(m >>= f) s n=.ok b s' n' r w) :
 ∃a s1 n1 r1 w1 r2 w2,m s n=.ok a s1 n1 r1 w1/\f a s1 n1=.ok b s' n' r2 w2/\r=r1.app r2/\w=w1.app w2:=bind_ok h
theorem EF {t e:Nat} {l:List AV} {op:Bool} {s s':Ob} {n n' i:Nat} {r l1:Lg} (h:pE t e l op s n=.ok i s' n' r l1) :
  i=n/\n'=n+1/\(∀v ∈ l,v.one=true)/\(∀j p,j≠n->s'.get j p=s.get j p)/\s'.get n 0=some (.row t e l.length op)/\∀p,s'.get n (p+1)=if p < l.length then (l[p]?).map O.c else none:=by
 unfold pE at h;obtain⟨a,s1,n1,r1,l1,r2,l2,e1,e2,rfl,rfl⟩:=ak h;cases e1
 obtain⟨a2,s2,n2,r3,l3,r4,l4,e3,e4,rfl,rfl⟩:=ak e2;obtain⟨lx,hx,_,_,rfl,rfl,_,_⟩:=Tf e3;cases (show M.pure _ _ _=_ from e4)
 obtain⟨k1,k2⟩:=Te _ _ hx;refine⟨rfl,rfl,k1,λj p hj=>?_,?_,λp=>?_⟩
 ·rw[uS,if_neg hj]
 ·rw[uS,if_pos rfl];rfl
 ·rw[uS,if_pos rfl,wP,k2]
  by_cases hp:p < l.length
  ·rw[if_pos hp]
  ·rw[if_neg hp,List.getElem?_eq_none (by omega)];rfl
theorem BK (w:World) (o:Obj):(w.alloc o).heap[w.heap.size]?=some o:=by unfold World.alloc;simp
theorem IQ (w:World) (o:Obj) {k:Nat} (h:k≠w.heap.size):(w.alloc o).heap[k]?=w.heap[k]?:=by unfold World.alloc;simp[Array.getElem?_push,h]
section
variable {P : Program} {w0 : World} {φ : Ph} {s : Ob} {w : World} {n : Nat}
/-- A row under a new number, in a block that no other object has. -/
theorem IU {W:World} {s':Ob} {t e:Nat} {l:List AV} {op:Bool} {L:List Value} {b x:Nat} {C:Array Value} {fz:Nat × Nat} (h:Rel P w0 φ s w) (hn:φ n=none) (hbase:Below w0.heap.size w0 W) (hb:w0.heap.size<=b) (hW:∀k,k≠b->k < w.heap.size->W.heap[k]?=w.heap[k]?)
  (free:∀i y,s.get i 0≠none->φ i=some (b,y)->False) (hC:W.heap[b]?=some (.cells C t fz)) (size:C.size=l.length+x * e) (shut:op=false->x=0) (hfz:IE fz C.size) (hsz:(P.info? t).map (·.size)=some e)
  (hL:aH φ l=some L) (h1:∀V ∈ L,V.oneCell'=true) (hCL:∀(k:Nat) (V:Value),L[k]?=some V->C[k]?=some V)
  (g1:∀j p,j≠n->s'.get j p=s.get j p) (g2:s'.get n 0=some (.row t e l.length op)) (g3:∀p,s'.get n (p+1)=if p < l.length then (l[p]?).map O.c else none) :
  Rel P w0 (kH φ n b x) s' W:=by
 refine h.but (j:=n) (b:=b) (nJ hn) hbase hW g1 (λi hi=>sQ hi) (λi y hi=>free i y) (λv hv=>by rw[g2] at hv;cases hv) (λp _=>by rw[kW];simp) (λc y _ hc=>by rw[kW] at hc;cases hc;rfl)
  (λt' e' k' op' hg'=>?_) (λes c hg'=>by rw[g2] at hg';cases hg') (λm a l c hg'=>by rw[g2] at hg';cases hg') (λk hg'=>by rw[g2] at hg';cases hg')
 rw[g2] at hg';cases hg';refine⟨b,x,C,fz,kW,hb,hC,size,shut,hfz,hsz,λo v hv=>?_⟩;rw[g3] at hv
 by_cases ho:o < l.length
 ·rw[if_pos ho] at hv
  obtain⟨u,hu,hv'⟩:∃u,l[o]?=some u/\O.c u=O.c v:=by
   cases hl:l[o]? with
   | none=>rw[hl] at hv;cases hv
   | some u=>rw[hl] at hv;exact⟨u,rfl,by simpa using hv⟩
  cases hv'
  obtain⟨V,hV,hLo⟩:=EB hL o v hu;exact⟨ho,V,AV.sN (nJ hn) v hV,h1 V (List.mem_of_getElem? hLo),hCL o V hLo⟩
 ·rw[if_neg ho] at hv;cases hv
theorem IV {l:List AV} {L:List Value} (h:∀v ∈ l,v.one=true) (e:aH φ l=some L):∀V ∈ L,V.oneCell'=true:=by
 induction l generalizing L with
 | nil=>simp only[aH] at e;cases e;simp
 | cons v l ih =>
  obtain⟨V,L',hv,hl,rfl⟩:=jk e;intro U hU;rcases List.mem_cons.1 hU with rfl | hU
  ·exact one_den (h v (by simp)) hv
  ·exact ih (λu hu=>h u (by simp[hu])) hl U hU
theorem Rel.IW (h:Rel P w0 φ s w):∀i y,s.get i 0≠none->φ i=some (w.heap.size,y)->False:=λi y hi hp=>by
 have:=(h.there hi hp).1;omega
/-- 'aj6 of known cells. -/
theorem TD {t e:Nat} {l:List AV} {L:List Value} (h:Rel P w0 φ s w) (hL:aH φ l=some L) (hsz:(P.info? t).map (·.size)=some e) :
  Sim P w0 φ s w n (pE t e l false) (newRow t L.toArray) (λψ i a=>i=n/\ψ n=some (a.block,0)/\a=⟨a.block,0,none⟩):=by
 intro i s' n' r l1 e1 hf;obtain⟨rfl,rfl,k1,k2,k3,k4⟩:=EF e1;have hn:=hf i (Nat.le_refl _) (by omega);refine⟨kH φ i w.heap.size 0,⟨w.heap.size,0,none⟩,w.alloc (.cells L.toArray t),?_,?_,wU,nJ hn,rfl,kW,rfl⟩
 ·simp[newRow]
 ·refine IU h hn (h.base.alloc h.base.size _) h.base.size (λk hk hlt=>?_) h.IW (C:=L.toArray) (fz:=(0,0)) (BK _ _) (by simp[nI hL]) (λ_=>rfl) (λk _=>by simp) hsz hL (IV k1 hL) (λk V hk=>by simpa using hk) k2 k3 k4
  exact IQ _ _ (by omega)
end
/- What is only looked at. -/
section
variable {P : Program} {w0 : World} {φ : Ph} {s : Ob} {w : World} {n : Nat}
theorem aF {α:Type} {a b:α} {s s':Ob} {n n':Nat} {r l:Lg} (h:(pure a:M α) s n=.ok b s' n' r l):b=a/\s'=s/\n'=n:=by cases (show M.pure _ _ _=_ from h);exact⟨rfl,rfl,rfl⟩
theorem kJ {t k:Nat} {s s':Ob} {n n':Nat} {r l:Lg} (h:iA P t s n=.ok k s' n' r l):s'=s/\n'=n/\(P.info? t).map (·.size)=some k:=by
 obtain⟨h1,h2,h3⟩:=bW h;exact⟨h2,h3,h1⟩
theorem iO {t:Nat} {d:TypeDesc} {s s':Ob} {n n':Nat} {r l:Lg} (h:gY P t s n=.ok d s' n' r l):s'=s/\n'=n/\P.underlying t=some d:=by
 obtain⟨h1,h2,h3⟩:=bW h;exact⟨h2,h3,h1⟩
theorem pJ {t e:Nat} {s s':Ob} {n n':Nat} {r l:Lg} (h:kU P t s n=.ok e s' n' r l):s'=s/\n'=n/\P.underlying t=some (.slice e):=by
 unfold kU at h;obtain⟨d,s1,n1,r1,l1,r2,l2,e1,e2,rfl,rfl⟩:=ak h;obtain⟨rfl,rfl,h1⟩:=iO e1;cases d <;> first | (obtain⟨rfl,rfl,rfl⟩:=aF e2;exact⟨rfl,rfl,h1⟩) | cases e2
theorem BL {t:Nat} {e:Nat × Nat} {s s':Ob} {n n':Nat} {r l:Lg} (h:pF P t s n=.ok e s' n' r l):s'=s/\n'=n/\P.underlying t=some (.map e.1 e.2):=by
 unfold pF at h;obtain⟨d,s1,n1,r1,l1,r2,l2,e1,e2,rfl,rfl⟩:=ak h;obtain⟨rfl,rfl,h1⟩:=iO e1;cases d <;> first | (obtain⟨rfl,rfl,rfl⟩:=aF e2;exact⟨rfl,rfl,h1⟩) | cases e2
theorem TF {t:Nat} {e:Array Field} {s s':Ob} {n n':Nat} {r l:Lg} (h:yN P t s n=.ok e s' n' r l):s'=s/\n'=n/\P.underlying t=some (.struct e):=by
 unfold yN at h;obtain⟨d,s1,n1,r1,l1,r2,l2,e1,e2,rfl,rfl⟩:=ak h;obtain⟨rfl,rfl,h1⟩:=iO e1;cases d <;> first | (obtain⟨rfl,rfl,rfl⟩:=aF e2;exact⟨rfl,rfl,h1⟩) | cases e2
theorem TG {t:Nat} {g:Bool} {s s':Ob} {n n':Nat} {r l:Lg} (h:DJ P t s n=.ok g s' n' r l):s'=s/\n'=n/\(isAgg t).run P w=.ok g w:=by
 unfold DJ at h;obtain⟨d,s1,n1,r1,l1,r2,l2,e1,e2,rfl,rfl⟩:=ak h;obtain⟨rfl,rfl,h1⟩:=iO e1;cases d <;> (obtain⟨rfl,rfl,rfl⟩:=aF e2;exact⟨rfl,rfl,by simp[isAgg,underlying,h1]⟩)
theorem run_sizeOf {t k:Nat} (h:(P.info? t).map (·.size)=some k):(sizeOf t).run P w=.ok k w:=by
 cases hi:P.info? t with
 | none=>rw[hi] at h;cases h
 | some i=>rw[hi] at h;cases h;simp[sizeOf,typeInfo,hi]
theorem iZ {t:Nat} {d:TypeDesc} (h:P.underlying t=some d):(underlying t).run P w=.ok d w:=by simp[underlying,h]
theorem TH {v:Value} {a:AV} (h:DI v=some a):a.den φ=some v/\a.one=true:=by
 unfold DI at h
 split at h <;> cases h
 refine⟨rfl,?_⟩;cases v <;> first | rfl | simp_all [AV.one]
theorem IX:∀ {l:List Value} {a:List AV},uI l=some a->aH φ a=some l/\∀v ∈ a,v.one=true
 | [],a,h=>by cases h;exact⟨rfl,by simp⟩
 | v :: l,a,h=>by
  simp only[uI] at h;cases hv:DI v with
  | none=>rw[hv] at h;cases h
  | some x =>
   cases hl:uI l with
   | none=>rw[hv,hl] at h;cases h
   | some y =>
    rw[hv,hl] at h;cases h;obtain⟨h1,h2⟩:=TH (φ:=φ) hv;obtain⟨h3,h4⟩:=IX hl;exact⟨lV h1 h3,λu hu=>(List.mem_cons.1 hu).elim (λe=>e ▸ h2) (h4 u)⟩
theorem BM {v:Value} {a:AV} (h:wH v=some a):a.den φ=some v:=by
 unfold wH at h
 split at h
 ·rename_i cs
  cases hc:uI cs.toList with
  | none=>rw[hc] at h;cases h
  | some l=>rw[hc] at h;cases h;simp[AV.den,(IX (φ:=φ) hc).1]
 ·rename_i cs
  cases hc:uI cs.toList with
  | none=>rw[hc] at h;cases h
  | some l=>rw[hc] at h;cases h;simp[AV.den,(IX (φ:=φ) hc).1]
 ·exact(TH h).1
theorem IY:∀ {a:List AV} {l:List Value},uJ a=some l->aH φ a=some l
 | [],l,h=>by cases h;rfl
 | v :: a,l,h=>by
  cases v <;> simp only[uJ] at h <;> try cases h
  rename_i v;cases hl:uJ a with
  | none=>rw[hl] at h;cases h
  | some y=>rw[hl] at h;cases h;exact lV rfl (IY hl)
theorem Md:∀ {a:AV} {v:Value},a.sv=some v->a.den φ=some v
 | .sc u,v,h=>h
 | .agg l,v,h=>by
  simp only[AV.sv] at h;cases hl:uJ l with
  | none=>rw[hl] at h;cases h
  | some y=>rw[hl] at h;cases h;simp[AV.den,IY (φ:=φ) hl]
 | .kE t u,v,h=>by
  simp only[AV.sv] at h;cases hl:u.sv with
  | none=>rw[hl] at h;cases h
  | some y=>rw[hl] at h;cases h;simp[AV.den,Md hl]
 | .ptr _ _,_,h=>by cases h
 | .sl _ _ _ _,_,h=>by cases h
 | .mp _,_,h=>by cases h
 | .fn _ _ _,_,h=>by cases h
 | .fC _,_,h=>by cases h
 | .wG _,_,h=>by cases h
 | .emp _ _ _,_,h=>by cases h
 | .bad,_,h=>by cases h
theorem yY {α:Type}:∀ {S:Sem α} {a:α},pr P S=some a->S.run P w=.ok a w
 | .pure b,a,h=>by simp only[pr] at h;cases h;rfl
 | .program k,a,h=>by
  simp only[pr] at h;exact(show(k P).run P w=_ from yY h)
 | .load ..,a,h=>by cases h
 | .store ..,a,h=>by cases h
 | .new ..,a,h=>by cases h
 | .shape ..,a,h=>by cases h
 | .freeze ..,a,h=>by cases h
 | .frozen ..,a,h=>by cases h
 | .getObj ..,a,h=>by cases h
 | .setObj ..,a,h=>by cases h
 | .choose ..,a,h=>by cases h
 | .sys ..,a,h=>by cases h
 | .mark ..,a,h=>by cases h
 | .halt _,a,h=>by cases h
theorem BN {t:Nat} {l:List AV} {s s':Ob} {n n':Nat} {r l1:Lg} (h:sI P t s n=.ok l s' n' r l1) :
  s'=s/\n'=n/\∃i z,P.info? t=some i/\i.zero=some z/\aH φ l=some z.cells.toList/\∀v ∈ l,v.one=true:=by
 obtain⟨h1,h2,h3⟩:=bW h;refine⟨h2,h3,?_⟩;cases hi:P.info? t with
 | none=>rw[hi] at h1;cases h1
 | some i =>
  cases hz:i.zero with
  | none=>rw[hi] at h1;simp only[Option.bind_some,hz] at h1;cases h1
  | some z =>
   rw[hi] at h1;simp only[Option.bind_some,hz] at h1;obtain⟨h4,h5⟩:=IX (φ:=φ) h1;exact⟨i,z,rfl,hz,h4,h5⟩
theorem Me {l:List AV} {V:Value} (h:(AV.agg l).den φ=some V):∃L,aH φ l=some L/\V=.agg L.toArray:=by
 simp only[AV.den] at h;cases hl:aH φ l with
 | none=>rw[hl] at h;cases h
 | some L=>rw[hl] at h;cases h;exact⟨L,rfl,rfl⟩
theorem TI {l:List AV} {V:Value} (h:(AV.fC l).den φ=some V):∃L,aH φ l=some L/\V=.tuple L.toArray:=by
 simp only[AV.den] at h;cases hl:aH φ l with
 | none=>rw[hl] at h;cases h
 | some L=>rw[hl] at h;cases h;exact⟨L,rfl,rfl⟩
theorem pK {i o:Nat} {V:Value} (h:(AV.ptr i o).den φ=some V):∃b x,φ i=some (b,x)/\V=.pointer (some ⟨b,o,none⟩):=by
 simp only[AV.den] at h;cases hl:φ i with
 | none=>rw[hl] at h;cases h
 | some x=>rw[hl] at h;cases h;exact⟨x.1,x.2,rfl,rfl⟩
theorem pO {i o k c:Nat} {V:Value} (h:(AV.sl i o k c).den φ=some V):∃b x,φ i=some (b,x)/\V=.slice (some ⟨b,o,none⟩) k (c+x):=by
 simp only[AV.den] at h;cases hl:φ i with
 | none=>rw[hl] at h;cases h
 | some x=>rw[hl] at h;cases h;exact⟨x.1,x.2,rfl,rfl⟩
theorem IZ {i o d:Nat} {V:Value} (h:(AV.emp i o d).den φ=some V):∃b x,φ i=some (b,x)/\V=.slice (some ⟨b,if x=0 then o else o+d,none⟩) 0 x:=by
 simp only[AV.den] at h;cases hl:φ i with
 | none=>rw[hl] at h;cases h
 | some x=>rw[hl] at h;cases h;exact⟨x.1,x.2,rfl,rfl⟩
theorem wV {i:Nat} {V:Value} (h:(AV.mp i).den φ=some V):∃b x,φ i=some (b,x)/\V=.map (some b):=by
 simp only[AV.den] at h;cases hl:φ i with
 | none=>rw[hl] at h;cases h
 | some x=>rw[hl] at h;cases h;exact⟨x.1,x.2,rfl,rfl⟩
theorem yZ {t:Nat} {v:AV} {V:Value} (h:(AV.kE t v).den φ=some V):∃U,v.den φ=some U/\V=.iface t U:=by
 simp only[AV.den] at h;cases hl:v.den φ with
 | none=>rw[hl] at h;cases h
 | some x=>rw[hl] at h;cases h;exact⟨x,rfl,rfl⟩
theorem fE {v V:Value} (h:(AV.sc v).den φ=some V):V=v:=by cases h;rfl
theorem Mf {v:AV} {V:Value} (h:v.den φ=some V):aH φ v.cells=some V.cells.toList:=by
 have one:∀ {v:AV} {V:Value},v.den φ=some V->V.cells = #[V]->aH φ [v]=some V.cells.toList:=λh e=>by rw[e];exact lV h rfl
 cases v with
 | agg l=>obtain⟨L,hl,rfl⟩:=Me h;exact hl
 | sc v =>
  cases fE h
  have key:∀l:List Value,aH φ (l.map AV.sc)=some l:=λl=>by
   induction l with
   | nil=>rfl
   | cons v l ih=>exact lV rfl ih
  cases V with
  | agg cs=>exact key cs.toList
  | _=>exact lV rfl rfl
 | ptr i o=>obtain⟨b,x,_,rfl⟩:=pK h;exact one h rfl
 | sl i o k c=>obtain⟨b,x,_,rfl⟩:=pO h;exact one h rfl
 | mp i=>obtain⟨b,x,_,rfl⟩:=wV h;exact one h rfl
 | kE t v=>obtain⟨U,_,rfl⟩:=yZ h;exact one h rfl
 | fC l=>obtain⟨L,_,rfl⟩:=TI h;exact one h rfl
 | wG i=>have h':=h;simp only[AV.den] at h;cases hi:φ i <;> rw[hi] at h <;> cases h;exact one h' rfl
 | emp i o d=>have h':=h;simp only[AV.den] at h;cases hi:φ i <;> rw[hi] at h <;> cases h;exact one h' rfl
 | bad=>cases h
 | fn f a c =>
  simp only[AV.den] at h;cases ha:aH φ a with
  | none=>rw[ha] at h;cases h
  | some A =>
   cases hc:aH φ c with
   | none=>rw[ha,hc] at h;cases h
   | some C=>rw[ha,hc] at h;cases h;exact lV (by simp[AV.den,ha,hc]) rfl
theorem BO {v:AV} {p:Nat × Nat} {s s':Ob} {n n':Nat} {r l:Lg} (h:wL v s n=.ok p s' n' r l):s'=s/\n'=n/\v=.ptr p.1 p.2:=by
 cases v <;> first | (obtain⟨rfl,rfl,rfl⟩:=aF h;exact⟨rfl,rfl,rfl⟩) | cases h
theorem Mg {x:AV} {X:Value} {m:Nat} {s s':Ob} {n n':Nat} {r l:Lg} (hx:x.den φ=some X) (h:wM x s n=.ok m s' n' r l):s'=s/\n'=n/\(Builtin.lenOf X).run P w=.ok m w:=by
 unfold wM at h
 split at h
 ·obtain⟨rfl,rfl,rfl⟩:=aF h
  obtain⟨b,y,_,rfl⟩:=pO hx;exact⟨rfl,rfl,rfl⟩
 ·obtain⟨rfl,rfl,rfl⟩:=aF h
  obtain⟨b,y,_,rfl⟩:=IZ hx;exact⟨rfl,rfl,rfl⟩
 ·obtain⟨rfl,rfl,rfl⟩:=aF h
  cases fE hx
  exact⟨rfl,rfl,rfl⟩
 ·obtain⟨rfl,rfl,rfl⟩:=aF h
  cases fE hx
  exact⟨rfl,rfl,rfl⟩
 ·cases h
theorem TJ (b:ByteArray):aH φ (wN b)=some ((b.data.map λx=>Value.int .u8 x.toNat).toList)/\∀v ∈ wN b,v.one=true:=by
 unfold wN;rw[Array.toList_map];generalize b.data.toList=l;refine⟨?_,by simp[AV.one]⟩
 induction l with
 | nil=>rfl
 | cons x l ih=>exact lV rfl ih
/-- What is read does not hang on what was drawn. -/
theorem TK {e m:Nat} {x:AV} {X:Value} {c:List AV} {s':Ob} {n':Nat} {r l:Lg} (h:Rel P w0 φ s w) (hx:x.den φ=some X) (hk:AL e m x s n=.ok c s' n' r l) (hm:∀b,x=.sc (.string b)->m=b.size) :
  s'=s/\n'=n/\∃L,aH φ c=some L/\(∀V ∈ L,V.oneCell'=true)/\∀W:World,W.heap=w.heap->(Builtin.firstCells e m X).run P W=.ok L.toArray W:=by
 unfold AL at hk
 split at hk
 ·rename_i i o k cc
  obtain⟨a,s1,n1,r1,l1,r2,l2,e1,e2,rfl,rfl⟩:=ak hk;obtain⟨hg,rfl,rfl⟩:=uV e1;obtain⟨rfl,rfl,hl,hc⟩:=IG e2;obtain⟨b,y,hp,rfl⟩:=pO hx;obtain⟨b',x',C,fz,R⟩:=h.row _ _ _ _ _ hg;have hp':=R.ph;rw[hp] at hp';cases hp';obtain⟨L,hL,h1,h2⟩:=IJ R hc;refine⟨rfl,rfl,L,hL,h1,λW hW=>?_⟩;have:=nI hL;rw[hl] at this;simp only[Builtin.firstCells];rw[show m * e=L.length from this.symm];exact IK λj V e=>by
   have:=h2 j V e;simpa [World.cell?,hW] using this
 ·obtain⟨hb,e9⟩:=eG hk
  obtain⟨rfl,rfl,rfl⟩:=aF e9;obtain⟨b,y,_,rfl⟩:=IZ hx;cases Nat.eq_of_beq_eq_true hb
  exact⟨rfl,rfl,[],rfl,by simp,λW _=>by simp[Builtin.firstCells,loadCells,loadCellsFrom]⟩
 ·obtain⟨rfl,rfl,rfl⟩:=aF hk
  cases fE hx
  exact⟨rfl,rfl,[],rfl,by simp,λW _=>rfl⟩
 ·rename_i b
  obtain⟨rfl,rfl,rfl⟩:=aF hk;cases fE hx
  obtain⟨h1,h2⟩:=TJ (φ:=φ) b;refine⟨rfl,rfl,_,h1,IV h2 h1,λW _=>?_⟩;cases hm b rfl
  simp only[Builtin.firstCells,ByteArray.size];simp;exact Array.ext' (by simp)
 ·cases hk
end
/- A call hangs on what it looked at alone. -/
theorem abn {α:Type} {m:M α} (h:aC m):aC (M.log m):=by
 intro s n a s' n' r w hh;unfold M.log at hh;cases hm:m s n with
 | no e=>rw[hm] at hh;cases hh
 | ok a1 s1 n1 r1 w1 =>
  rw[hm] at hh;cases hh;have F:=h _ _ _ _ _ _ _ hm;refine⟨F.le,F.Ez,F.qG,F.old,F.new,λt h1 h2=>?_⟩;obtain⟨t',q1,q2⟩:=F.run t h1 h2;exact⟨t',by unfold M.log;rw[q1],q2⟩
section
variable (P : Program) {call : Nat -> List AV -> M AV} (hc : ∀f a, aC (call f a))
theorem uW (N:Nat) (E:Env) (x:Operand):aC (env N E x):=by cases x <;> first | exact aV (bB _ _) (aM _) | exact bB _ _ | exact aM _ | exact fp _
theorem Mh (N:Nat) (dt cl:T Nat) (k m:Nat) (E:Env) (x:Operand):aC (Bw N dt cl k m E x):=by
 unfold Bw
 split
 ·split
  ·exact aV (uW N E _) (aM _)
  ·exact uW N E _
 ·exact uW N E _
theorem Mi (N:Nat) (ops:List Oper) (E:Env) (o:Oper):aC (uP N ops E o):=by
 unfold uP
 split
 ·exact fp _
 ·refine fb (bB _ _) λd=>aV ?_ (aM _)
  split <;> first | exact fp _ | exact aM _
theorem Mj (N:Nat) (ops:List Oper) (m:Nat) (E:Env) (o:Oper):aC (BA N ops m E o):=by
 unfold BA
 split
 ·exact fp _
 ·exact aV (Mi _ _ _ _) (aM _)
include hc
theorem EG {ρ:Operand->M AV} (hr:∀x,aC (ρ x)) {g:M Bool} (hg:aC g) (o:Oper):aC (Bu P call ρ g o):=fb hg λb=>aV (abj P hc hr _) (fp _)
theorem Mk (N:Nat) (ops:List Oper):∀(l:List Oper) (E:Env),aC (Iq P call N ops l E)
 | [],E=>fp _
 | o :: l,E=>fb (Iz (EG P hc (uW N E) (Mi _ _ _ _) o)) λv=>aV (Mk N ops l _) (aM _)
theorem TL (N:Nat) (ops:List Oper) (dt cl:T Nat):∀(l:List Oper) (k:Nat) (D:List Dn) (E:Env),aC (Eu P call N ops dt cl l k D E)
 | [],k,D,E=>fp _
 | o :: l,k,D,E=>fb (bB _ _) λm=>fb (abn (Iz (EG P hc (Mh N dt cl k m E) (Mj _ _ _ _ _) o))) λv=>aV (TL N ops dt cl l _ _ _) (aM _)
omit hc in
theorem Ml {f:Env->M (Ex × Env)} (h:∀E,aC (f E)):∀(k:Nat) (E:Env),aC (Ev f k E)
 | 0,E=>aM _
 | k+1,E=>fb (h E) λ⟨e,E'⟩=>by
  cases e with
  | gu=>exact Ml h k E'
  | ext i=>exact fp _
  | ret=>exact fp _
theorem EH (N:Nat):∀(c:Code) (E:Env),aC (xc P call N c E):=by
 intro c
 induction c with
 | region id ops dr=>exact λE=>Iz (aV (fb (bB _ _) λdt=>fb (bB _ _) λcl=>fb (TL P hc _ _ _ _ _ _ _ _) λE=>fp _) (fb (Mk P hc _ _ _ _) λE=>fp _))
 | seq a b iha ihb =>
  exact λE=>fb (iha E) λ⟨e,E'⟩=>by
   cases e with
   | gu=>exact ihb E'
   | ext i=>exact fp _
   | ret=>exact fp _
 | cond c a b iha ihb =>
  refine λE=>fb (uW N E c) λv=>?_
  split
  ·exact iha E
  ·exact ihb E
  ·exact aM _
 | block id b ih =>
  exact λE=>fb (ih E) λ⟨e,E'⟩=>by
   cases e with
   | ext i=>exact aV (fp _) (fp _)
   | gu=>exact fp _
   | ret=>exact fp _
 | loop b ih=>exact λE=>Ml ih _ E
 | scope b ih=>exact λE=>ih E
 | rangeFunc g ps a b =>
  exact λE=>fb bY λi=>fb (bS _ _ _) λ_=>fb bY λj=>fb (bS _ _ _) λ_=>fb (uW N E g) λf=>fb (L9 hc _ _) λ_=>fb (bR _ _) λo=>by
   split
   ·exact fb (bS _ _ _) λ_=>fp _
   ·exact aM _
 | _=>intro E;first | exact fp _ | exact aM _
omit hc in
theorem Mq (N:Nat) (E:Env):∀l:List ResultVar,aC (BD P N E l)
 | []=>fp _
 | .tmp t :: l=>fb (uW N E _) λv=>fb (Mq N E l) λr=>fp _
 | .cell a t :: l=>fb (uW N E _) λv=>fb (iN P _ _) λv=>fb (Mq N E l) λr=>fp _
omit hc in
theorem TM:∀l:List AV,aC (leave l)
 | []=>fp _
 | v :: l=>by
  cases v with
  | ptr i o =>
   refine fb (bR _ _) λq=>?_
   split
   ·exact fb (bS _ _ _) λ_=>TM l
   ·exact aM _
  | _=>exact aM _
omit hc in
theorem abo (E:Env) (fn:Func):aC (Ir P E fn):=fb (Mq P _ E _) λl=>by split <;> exact fp _
omit hc in
theorem I4 (E:Env) (fn:Func):aC (Ew P E fn):=fb (TM _) λ_=>abo P E fn
omit hc in
theorem I5:∀(d f:Nat) (l:List AV),aC (Ey P d f l)
 | 0,f,l=>aM _
 | d+1,f,l=>aa1 (Iz (fb (bB _ _) λfn=>fb (bB _ _) λc=>aV (aM _) (fb (EH P (I5 d) _ _ _) λ⟨e,E⟩=>by
  cases e with
  | ext i=>exact aM _
  | gu=>exact I4 P E fn
  | ret=>exact I4 P E fn)))
end
end Go.Proofs.YtfabngnaejjcmaaGreatDoor
