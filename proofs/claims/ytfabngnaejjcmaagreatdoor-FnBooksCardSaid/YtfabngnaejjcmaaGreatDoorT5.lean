/- The proof's texts, part 5. -/
import Derived.Test.YtfabngnaejjcmaaGreatDoorT0
import Derived.Deep.RegionHeld3
import Derived.Laws.Rows
import Derived.Test.YtfabngnaejjcmaaGreatDoorRows
import Derived.ChangeSame
import Derived.ChangeVars
import Derived.JoinedOf
import Derived.RowKit
import Derived.RowKitTokens
import Derived.LaidLaws
import Derived.LaidHandle
import Derived.OpenVars
import Derived.Stop.Joined
import Derived.Stop.LaidErr
namespace Go.Proofs.YtfabngnaejjcmaaGreatDoor
open Go.RowKit
set_option linter.unusedVariables false
/- GY that draw their order, walked in the text's order: what each operation asks of the others is reckoned once for a region, in a table. -/
/-- The operations of the region with this number. -/
def eO (id:Nat):Code->Option (Array Oper)
 | .region i ops _=>if i == id then some ops else none
 | .seq a b=>(eO id a).or (eO id b)
 | .cond _ a b=>(eO id a).or (eO id b)
 | .block _ a=>eO id a
 | .loop a=>eO id a
 | _=>none
/-- The first i of n are listed. -/
def upto (n i:Nat):Array Bool:=(List.replicate i true ++ List.replicate (n - i) false).toArray
def ZJ (ops:Array Oper) (n i:Nat):Bool:=Region.free .any ops (upto n i) i && (Region.ready .any ops (upto n i)).contains i
/-- cs: the operations that come up alone. -/
def table (ops:Array Oper) (n:Nat) (cs:List Nat):Bool:=(ops.size == n) && (Region.noSelect ops && ((List.range n).all (ZJ ops n) && ((Region.ready .any ops (upto n n)).isEmpty && cs.all λi=>(Nat.blt i n) && (Region.ready .any ops (upto n i) == [i]))))
/-- Slot d filled: what 'put' does, in a form that computes by itself. -/
def iI (a:Act) (d:Nat) (v:Value):Act:={ a with tmps:=(a.tmps.toList.set d v).toArray }
theorem yx (a:Act) (d:Nat) (v:Value):a.put (some d) v=iI a d v:=by
 unfold Act.put iI;simp only
 congr 1
 exact Array.ext' (by simp)
section
variable {P : Program} {ops : Array Oper} {Q : Exit -> Act -> World -> Prop} {S : World -> Prop} {n : Nat} {cs : List Nat} {a : Act} {w : World}
end
theorem K4 {α:Type} (x:α) (l:List α) (a:α):(x :: l).set 0 a=a :: l:=rfl
theorem K5 {α:Type} (x:α) (l:List α) (i:Nat) (a:α):(x :: l).set (i+1) a=x :: l.set i a:=rfl
/- GY that draw their order, walked in a given order: what each operation asks of the others is reckoned once for a region, in a table. -/
/-- Which operations are done when the first p of the order are. -/
def dM (n:Nat) (l:List Nat):Array Bool:=l.foldl (λa i=>a.setIfInBounds i true) (Array.replicate n false)
theorem GZ {n p i:Nat} {ord:List Nat} (h:ord[p]?=some i):(dM n (ord.take p)).setIfInBounds i true=dM n (ord.take (p+1)):=by
 have hp:p < ord.length:=(gs1 h).1;rw[List.take_succ_eq_append_getElem hp,(gs1 h).2];unfold dM;rw[List.foldl_append];rfl
/-- cs: the places of those that come up alone. -/
def K6 (ops:Array Oper) (n:Nat) (ord cs:List Nat):Bool :=
 (ops.size == n) && ((ord.length == n) && (Region.noSelect ops && ((List.range n).all (λp=>match ord[p]? with
  | some i=>cs.contains p || (Region.free .any ops (dM n (ord.take p)) i && (Region.ready .any ops (dM n (ord.take p))).contains i)
  | none=>false) && ((Region.ready .any ops (dM n (ord.take n))).isEmpty && cs.all λp=>match ord[p]? with
  | some i=>Nat.blt p n && (Region.ready .any ops (dM n (ord.take p)) == [i])
  | none=>false))))
/-- The table's word, in a wrapping that no walk looks into. -/
structure QM (ops:Array Oper) (n:Nat) (ord cs:List Nat):Prop where
 out:K6 ops n ord cs=true
section
variable {P : Program} {ops : Array Oper} {Q : Exit -> Act -> World -> Prop} {S : World -> Prop} {n : Nat} {ord cs : List Nat} {a : Act} {w : World}
theorem Ah (T':QM ops n ord cs):ops.size=n/\ord.length=n/\Region.noSelect ops=true/\(∀p i,ord[p]?=some i->¬p ∈ cs->Region.free .any ops (dM n (ord.take p)) i=true/\(Region.ready .any ops (dM n (ord.take p))).contains i=true)/\Region.ready .any ops (dM n (ord.take n))=[] /\
  ∀p i,p ∈ cs->ord[p]?=some i->p < n/\Region.ready .any ops (dM n (ord.take p))=[i]:=by
 have T:=T'.out;simp only[K6,Bool.and_eq_true,beq_iff_eq,List.all_eq_true,List.mem_range,List.isEmpty_iff] at T;obtain⟨h1,h2,h3,h4,h5,h6⟩:=T;refine⟨h1,h2,h3,λp i hp hc=>?_,h5,λp i hc hp=>?_⟩
 ·have hlt:p < n:=by have:=(gs1 hp).1;omega
  have:=h4 p hlt;rw[hp] at this;simp only[Bool.or_eq_true,Bool.and_eq_true,List.contains_iff_mem] at this;rcases this with h | h
  ·exact absurd h hc
  ·exact⟨h.1,by simpa using h.2⟩
 ·have:=h6 p hc
  rw[hp] at this;simp only[Bool.and_eq_true,beq_iff_eq,Nat.blt_eq] at this;exact this
end
/- In a region that draws its order: operations whose guards are not met are passed by together. -/
/-- These operations may come up one behind the other, and none is wanted; ds: the slots that they would fill. -/
def Dg (md:Region.Mode) (ops:Array Oper):List Nat->List Nat->Array Bool->Array Value->Bool
 | [],[],_,_=>true
 | i :: is,d :: ds,l,tm=>match ops[i]? with
  | some o=>(o.dst == some d) && (Region.free md ops l i && ((Region.ready md ops l).contains i && (!(Region.wanted o (yielded ops tm)) && Dg md ops is ds (l.setIfInBounds i true) (tm.setIfInBounds d undef))))
  | none=>false
 | _,_,_,_=>false
theorem Dh {P:Program} {md:Region.Mode} {ops:Array Oper} {Q:Exit->Act->World->Prop} {S:World->Prop} {w:World} (hs:Region.noSelect ops=true)
  (hQ:∀(d:Nat) v c a w,Q (.panic c) (a.put (some d) v) w->Q (.panic c) a w) (hS:S w) :
  ∀(is ds:List Nat) (l:Array Bool) (a:Act) (fuel:Nat),Dg md ops is ds l a.tmps=true ->
   wpAnyH P md ops Q S fuel (is.foldl (λl i=>l.setIfInBounds i true) l) (ds.foldl (λa d=>a.put (some d) undef) a) w->wpAnyH P md ops Q S (fuel+is.length) l a w
 | [],[],_,_,_,_,h=>h
 | [],_ :: _,_,_,_,hk,_=>by simp[Dg] at hk
 | _ :: _,[],_,_,_,hk,_=>by simp[Dg] at hk
 | i :: is,d :: ds,l,a,fuel,hk,h=>by
  unfold Dg at hk
  split at hk
  ·rename_i o ho
   simp only[Bool.and_eq_true,beq_iff_eq,Bool.not_eq_true'] at hk;obtain⟨h1,h2,h3,h4,h5⟩:=hk;refine wpAnyH_take (fuel:=fuel+is.length) (i:=i) (oi:=o) (v:=undef) ho hs h2 h3 (λc a w=>by rw[h1];exact hQ d _ c a w) (Or.inr ⟨h4,rfl⟩) hS ?_;rw[h1];exact Dh hs hQ hS is ds _ _ fuel (by simpa [Act.put] using h5) h
  ·cases hk
/-- One operation is taken first; the slot that it fills is named. -/
theorem ZK {P:Program} {md:Region.Mode} {ops:Array Oper} {Q:Exit->Act->World->Prop} {S:World->Prop} {i:Nat} (d:Nat) {oi:Oper} {v:Value} {fuel:Nat} {listed:Array Bool} {a:Act} {w:World} (hi:ops[i]?=some oi)
  (hd:oi.dst=some d) (hs:Region.noSelect ops=true) (hf:Region.free md ops listed i=true) (hr:(Region.ready md ops listed).contains i=true)
  (hQ:∀c a w,Q (.panic c) (a.put (some d) v) w->Q (.panic c) a w) (hy:YieldsIf P ops S oi v a) (hS:S w)
  (h:wpAnyH P md ops Q S fuel (listed.setIfInBounds i true) (a.put (some d) v) w):wpAnyH P md ops Q S (fuel+1) listed a w :=
 wpAnyH_take hi hs hf hr (by rw[hd];exact hQ) hy hS (by rw[hd];exact h)
/-- The same, its side conditions in one Bool; short, for it is written often. -/
theorem tk {P:Program} {md:Region.Mode} {ops:Array Oper} {Q:Exit->Act->World->Prop} {S:World->Prop} (i d:Nat) {oi:Oper} (v:Value) {fuel:Nat} {listed:Array Bool} {a:Act} {w:World}
  (hy:∀w,S w->(execOp a.eval oi).run P w=.ok (.value v) w) (hS:S w) (h:wpAnyH P md ops Q S fuel (listed.setIfInBounds i true) (a.put (some d) v) w)
  (hi:ops[i]?=some oi:=by rfl)
  (hc:(Region.noSelect ops && (Region.free md ops listed i && (Region.ready md ops listed).contains i))=true:=by decide +kernel)
  (hg:(oi.dst == some d && Region.wanted oi (yielded ops a.tmps))=true:=by kernel_rfl)
  (hQ:∀c a w,Q (.panic c) (a.put (some d) v) w->Q (.panic c) a w:=by exact λ_ _ _ h=>h):wpAnyH P md ops Q S (fuel+1) listed a w:=by
 simp only[Bool.and_eq_true,beq_iff_eq] at hc hg;obtain⟨h2,h3,h4⟩:=hc;obtain⟨h1,h5⟩:=hg;exact ZK d hi h1 h2 h3 h4 hQ (Or.inl ⟨h5,hy⟩) hS h
theorem sA {α:Type} (l:List α) (i:Nat) (a:α):l.toArray.setIfInBounds i a=(l.set i a).toArray:=by simp
theorem s0 {α:Type} (x:α) (l:List α) (a:α):(x :: l).set 0 a=a :: l:=rfl
theorem sS {α:Type} (x:α) (l:List α) (i:Nat) (a:α):(x :: l).set (i+1) a=x :: l.set i a:=rfl
/-- The same, what it yields and the state behind it found by themselves. -/
theorem tq {P:Program} {md:Region.Mode} {ops:Array Oper} {Q:Exit->Act->World->Prop} {S:World->Prop} (i d:Nat) {oi:Oper} {v:Value} {fuel:Nat} {listed:Array Bool} {a a':Act} {w:World}
  (hS:S w) (h:wpAnyH P md ops Q S fuel (listed.setIfInBounds i true) a' w)
  (hi:ops[i]?=some oi:=by rfl)
  (hc:(Region.noSelect ops && (Region.free md ops listed i && (Region.ready md ops listed).contains i))=true:=by decide +kernel)
  (hg:(oi.dst == some d && Region.wanted oi (yielded ops a.tmps))=true:=by kernel_rfl)
  (hy:∀w,S w->(execOp a.eval oi).run P w=.ok (.value v) w:=by(intro w s;(try dsimp only at s);go_simp <;> with_reducible rfl))
  (ha:a.put (some d) v=a':=by(conv=>lhs;simp only[Act.put,sA,s0,sS]))
  (hQ:∀c a w,Q (.panic c) (a.put (some d) v) w->Q (.panic c) a w:=by exact λ_ _ _ h=>h):wpAnyH P md ops Q S (fuel+1) listed a w :=
 tk i d v hy hS (by rw[ha];exact h) hi hc hg hQ
/- GY that draw their order, walked in phases: each phase has a condition on the world of its own; a phase is closed when all that comes behind it waits for it. -/
/-- Is one of the operations A still to come? -/
def left (A:List Nat) (L:Array Bool):Bool:=A.any λi=>!(L.getD i true)
theorem Di {A:List Nat} {L:Array Bool} {i:Nat} (h:i ∈ A) (h':L.getD i true=false):left A L=true:=by
 unfold left;rw[List.any_eq_true];exact⟨i,h,by rw[h'];rfl⟩
theorem ZL {A:List Nat} {L:Array Bool} (h:∀i,i ∈ A->L.getD i false=true):left A L=false:=by
 unfold left;rw[List.any_eq_false];intro i hi;have:=h i hi
 by_cases hs:i < L.size
 ·simp[hs] at this ⊢;exact this
 ·simp[Array.getElem?_eq_none (Nat.le_of_not_lt hs)] at this
/-- What an operation waits for. -/
def waits (md:Region.Mode) (ops:Array Oper) (j:Nat):List Nat:=match ops[j]? with
 | some o=>(o.after.toList.filter (Region.binds md)).map (·.on)
 | none=>[]
inductive rX (md:Region.Mode) (ops:Array Oper):Nat->Nat->Prop
 | one {j i:Nat}:i ∈ waits md ops j->rX md ops j i
 | more {j k i:Nat}:k ∈ waits md ops j->rX md ops k i->rX md ops j i
theorem rX.then {md:Region.Mode} {ops:Array Oper} {j k i:Nat} (h:rX md ops j k) (hi:i ∈ waits md ops k):rX md ops j i:=by
 induction h with
 | one h=>exact .more h (.one hi)
 | more h _ ih=>exact .more h (ih hi)
def vZ (md:Region.Mode) (ops:Array Oper) (L:Array Bool):Prop:=∀k i,L.getD k false=true->i ∈ waits md ops k->L.getD i false=true
theorem ZM {md:Region.Mode} {ops:Array Oper} {L:Array Bool} {k i:Nat} (hc:vZ md ops L) (hk:L.getD k false=true) (h:rX md ops k i):L.getD i false=true:=by
 induction h with
 | one h=>exact hc _ _ hk h
 | more h _ ih=>exact ih (hc _ _ hk h)
theorem K7 {md:Region.Mode} {ops:Array Oper} {L:Array Bool} {j i:Nat} (hj:j ∈ Region.ready md ops L) (h:i ∈ waits md ops j):L.getD i false=true:=by
 obtain⟨-,o,ho,hall⟩:=mem_ready.1 hj;unfold waits at h;rw[ho] at h;simp only[List.mem_map,List.mem_filter] at h;obtain⟨e,⟨he,hb⟩,rfl⟩:=h;exact hall e (by simpa using he) hb
theorem ZN {md:Region.Mode} {ops:Array Oper} {L:Array Bool} {j i:Nat} (hc:vZ md ops L) (hj:j ∈ Region.ready md ops L) (h:rX md ops j i):L.getD i false=true:=by
 cases h with
 | one h=>exact K7 hj h
 | more h h'=>exact ZM hc (K7 hj h) h'
theorem ZO {md:Region.Mode} {ops:Array Oper} {L:Array Bool} {j:Nat} (hc:vZ md ops L) (hj:j ∈ Region.ready md ops L):vZ md ops (L.setIfInBounds j true):=by
 intro k i hk hi
 by_cases hjk:j=k
 ·subst hjk;exact getD_set_true (K7 hj hi)
 ·rw[getD_set_ne false hjk] at hk
  exact getD_set_true (hc k i hk hi)
/-- The operations that come ahead of one, gathered. -/
def K8 (l:List Nat) (i:Nat):List Nat:=if l.contains i then l else i :: l
theorem ZP {xs l:List Nat} {i:Nat} (h:i ∈ xs.foldl K8 l):i ∈ l\/i ∈ xs:=by
 induction xs generalizing l with
 | nil=>exact .inl h
 | cons x xs ih =>
  rcases ih h with h | h
  ·unfold K8 at h
   split at h
   ·exact .inl h
   ·rcases List.mem_cons.1 h with rfl | h
    ·exact .inr (List.mem_cons_self ..)
    ·exact .inl h
  ·exact .inr (List.mem_cons_of_mem _ h)
def Dj (md:Region.Mode) (ops:Array Oper) (j:Nat):Nat->List Nat
 | 0=>waits md ops j
 | f+1=>((Dj md ops j f).flatMap (waits md ops)).foldl K8 (Dj md ops j f)
theorem He {md:Region.Mode} {ops:Array Oper} {j:Nat}:∀(f i:Nat),i ∈ Dj md ops j f->rX md ops j i
 | 0,i,h=>.one h
 | f+1,i,h=>by
  rcases ZP h with h | h
  ·exact He f i h
  ·rw[List.mem_flatMap] at h
   obtain⟨k,hk,hi⟩:=h;exact(He f k hk).then hi
section
variable {P : Program} {md : Region.Mode} {ops : Array Oper} {Q : Exit -> Act -> World -> Prop} {S : World -> Prop} {A : List Nat}
/-- Whatever order is picked: while one of A is still to come S holds behind each operation; then the rest goes in whatever order. -/
def wpAnyS (P:Program) (md:Region.Mode) (ops:Array Oper) (Q:Exit->Act->World->Prop) (S:World->Prop) (A:List Nat):Nat->Array Bool->Act->World->Prop
 | 0,L,a,w=>Region.ready md ops L=[]/\Q .normal a w
 | n+1,L,a,w=>(left A L=false->wpAny P md ops Q (n+1) L a w)/\(left A L=true->(Region.ready md ops L=[]->Q .normal a w) /\
  ∀i ∈ Region.ready md ops L,wpOp P ops Q i (λa' w'=>S w'/\wpAnyS P md ops Q S A n (L.setIfInBounds i true) a' w') a w)
theorem Dk:∀(n:Nat) (L:Array Bool) (a:Act) (w:World),wpAnyS P md ops Q S A n L a w->wpAny P md ops Q n L a w
 | 0,_,_,_,h=>h
 | n+1,L,a,w,h=>by
  cases hl:left A L with
  | false=>exact h.1 hl
  | true=>exact⟨(h.2 hl).1,λi hi=>wpOp_mono (λa' w' q=>Dk n _ a' w' q.2) ((h.2 hl).2 i hi)⟩
/-- All that is not of A waits for all of A. -/
def Parts (md:Region.Mode) (ops:Array Oper) (A:List Nat):Prop:=∀j,(∃o,ops[j]?=some o)->j ∉ A->∀i,i ∈ A->rX md ops j i
theorem ZQ {L:Array Bool} {j:Nat} (hA:Parts md ops A) (hc:vZ md ops L) (hj:j ∈ Region.ready md ops L) (hn:j ∉ A):left A L=false:=by
 obtain⟨-,o,ho,-⟩:=mem_ready.1 hj;exact ZL λi hi=>ZN hc hj (hA j ⟨o,ho⟩ hn i hi)
theorem wpAnyS_first {i:Nat} {oi:Oper} {v:Value} (hi:ops[i]?=some oi) (hR:i ∈ A) (hA:Parts md ops A) (hsel:∀(j:Nat) (o:Oper) cs b,ops[j]?=some o->o.op≠.select cs b) (hQ:∀c a w,Q (.panic c) (a.put oi.dst v) w->Q (.panic c) a w)
  (n:Nat):∀(L:Array Bool) (a:Act) (w:World),vZ md ops L ->
   (∀j oj,ops[j]?=some oj->j≠i->L.getD j true=false->(∀e ∈ oj.after,Region.binds md e=true->e.on≠i)->oi.apart ops oj=true) ->
   i ∈ Region.ready md ops L->YieldsIf P ops S oi v a->S w->wpAnyS P md ops Q S A n (L.setIfInBounds i true) (a.put oi.dst v) w->wpAnyS P md ops Q S A (n+1) L a w:=by
 induction n with
 | zero =>
  intro L a w hc _ hr hy hS H;have hl:left A L=true:=Di hR (mem_ready.1 hr).1;refine⟨λh=>absurd hl (by rw[h];simp),λ_=>⟨λh=>absurd hr (by rw[h];simp),λj hj=>?_⟩⟩
  by_cases hji:j=i
  ·subst hji;exact hy.wpOp hi hS ⟨hS,H⟩
  ·exact absurd (ready_mono hj hji) (by rw[H.1];simp)
 | succ n ih =>
  intro L a w hc hfree hr hy hS H;have hl:left A L=true:=Di hR (mem_ready.1 hr).1;refine⟨λh=>absurd hl (by rw[h];simp),λ_=>⟨λh=>absurd hr (by rw[h];simp),λj hj=>?_⟩⟩
  by_cases hji:j=i
  ·subst hji;exact hy.wpOp hi hS ⟨hS,H⟩
  obtain⟨hjun,oj,hoj,hall⟩:=mem_ready.1 hj;have ZR:j ∈ A:=by
   by_cases h:j ∈ A
   ·exact h
   ·exact absurd hl (by rw[ZQ hA hc hj h];simp)
  have hil:=(mem_ready.1 hr).1;have hnot:∀e ∈ oj.after,Region.binds md e=true->e.on≠i:=by
   intro e he hb heq;have q:=hall e he hb;rw[heq] at q
   by_cases hs:i < L.size
   ·simp[hs] at hil q;rw[hil] at q;cases q
   ·simp[Array.getElem?_eq_none (Nat.le_of_not_lt hs)] at q
  have hl':left A (L.setIfInBounds i true)=true:=Di ZR (by rw[getD_set_ne true (Ne.symm hji)];exact hjun);have step:=wpOp_putIf hoj (hfree j oj hoj hji hjun hnot) (λcs b=>hsel i oi cs b hi) (λcs b=>hsel j oj cs b hoj) hQ hy ((H.2 hl').2 j (ready_mono hj hji));refine wpOp_mono (λa' w' q=>?_) step;obtain⟨q1,q2,q3⟩:=q;exact⟨q2,ih (L.setIfInBounds j true) a' w' (ZO hc hj) (λk ok hk hki hun hno=>hfree k ok hk hki (by
    by_cases hjk:j=k
    ·subst hjk;exact hjun
    ·rwa [getD_set_ne true hjk] at hun) hno) (ready_mono hr (Ne.symm hji)) q1 q2 (by rw[Array.setIfInBounds_comm _ _ hji];exact q3)⟩
end
/-- The table of a region that is walked in phases: qs, how many operations of the order are done at the end of each; f, how far ahead it is looked. -/
def jH (ops:Array Oper) (n:Nat) (ord cs qs:List Nat) (f:Nat):Bool :=
 K6 ops n ord cs && ((List.range (n+1)).all (λp=>(List.range n).all λk=>!((dM n (ord.take p)).getD k false) || (waits .any ops k).all λi=>(dM n (ord.take p)).getD i false) &&
  qs.all λq=>(List.range n).all λj=>(ord.take q).contains j || (ord.take q).all λi=>(Dj .any ops j f).contains i)
structure oq (ops:Array Oper) (n:Nat) (ord cs qs:List Nat) (f:Nat):Prop where
 out:jH ops n ord cs qs f=true
/-- What is left of the region when the first p operations of the order are done, in the phase that ends at q. -/
def fA (P:Program) (ops:Array Oper) (Q:Exit->Act->World->Prop) (S:World->Prop) (n:Nat) (ord:List Nat) (q p:Nat) (a:Act) (w:World):Prop:=wpAnyS P .any ops Q S (ord.take q) (n - p) (dM n (ord.take p)) a w
section
variable {P : Program} {ops : Array Oper} {Q : Exit -> Act -> World -> Prop} {S : World -> Prop} {n f : Nat} {ord cs qs : List Nat} {a : Act} {w : World}
theorem jQ {c:Option Code} {id:Nat} (h:c.bind (eO id)=some ops) (T:(c.bind (eO id)).all (λo=>jH o n ord cs qs f)=true):oq ops n ord cs qs f:=by
 rw[h] at T;exact⟨by simpa using T⟩
theorem oq.o (T:oq ops n ord cs qs f):QM ops n ord cs:=by
 have:=T.out;simp only[jH,Bool.and_eq_true] at this;exact⟨this.1⟩
theorem oq.closed (T:oq ops n ord cs qs f) {p:Nat} (hp:p<=n):vZ .any ops (dM n (ord.take p)):=by
 have h:=T.out;simp only[jH,Bool.and_eq_true,List.all_eq_true,List.mem_range] at h;intro k i hk hi;have hs:=(Ah T.o).1;have hkn:k < n:=by
  by_cases hkn:k < n
  ·exact hkn
  ·unfold waits at hi
   rw[Array.getElem?_eq_none (by omega)] at hi;cases hi
 have:=h.2.1 p (by omega) k hkn;rw[hk] at this;simp only[Bool.not_true,Bool.false_or,List.all_eq_true] at this;exact this i hi
theorem oq.parts (T:oq ops n ord cs qs f) {q:Nat} (hq:q ∈ qs):Parts .any ops (ord.take q):=by
 have h:=T.out;simp only[jH,Bool.and_eq_true,List.all_eq_true,List.mem_range] at h;intro j hj hn i hi;have hs:=(Ah T.o).1;obtain⟨o,ho⟩:=hj;have hjn:j < n:=by rw[← hs];exact(Array.getElem?_eq_some_iff.1 ho).1
 have:=h.2.2 q hq j hjn;simp only[Bool.or_eq_true,List.contains_iff_mem,List.all_eq_true] at this;rcases this with h | h
 ·exact absurd h hn
 ·exact He f i (h i hi)
theorem jR {id:Nat} (q:Nat) (T:oq ops n ord cs qs f) (hm:P.follows .mixedOrders=true) (hS:S w.drew) (h:oq ops n ord cs qs f->S w.drew->fA P ops Q S n ord q 0 a w.drew):Code.wp P (.region id ops true) Q a w:=by
 refine wp_region_any hm ?_;have h1:=(Ah T.o).1;have:=Dk _ _ _ _ (h T hS);subst h1;exact this
/-- The operation at place p is taken; it is wanted. -/
theorem ZT (p i d:Nat) {q:Nat} {oi:Oper} (v:Value) (T:oq ops n ord cs qs f) (hy:∀w,S w->(execOp a.eval oi).run P w=.ok (.value v) w) (hS:S w) (h:fA P ops Q S n ord q (p+1) (iI a d v) w)
  (hp:(ord.take q)[p]?=some i) (hc:¬p ∈ cs) (hq:q ∈ qs) (hi:ops[i]?=some oi)
  (hg:(oi.dst == some d && Region.wanted oi (yielded ops a.tmps))=true) (hQ:∀c a w,Q (.panic c) (a.put (some d) v) w->Q (.panic c) a w):fA P ops Q S n ord q p a w:=by
 obtain⟨h1,h2,h3,h4,h5,h6⟩:=Ah T.o;have hp':ord[p]?=some i:=by
  rw[List.getElem?_take] at hp
  split at hp
  ·exact hp
  ·cases hp
 have hlt:p < n:=by have:=(gs1 hp').1;omega
 simp only[Bool.and_eq_true,beq_iff_eq] at hg;rw[← yx] at h;unfold fA at h ⊢;rw[show n - p=(n - (p+1))+1 by omega];rw[← GZ hp'] at h;exact wpAnyS_first hi (List.mem_of_getElem? hp) (T.parts hq) (Region.noSelect_spec h3) (by rw[hg.1];exact hQ) _ _ _ _ (T.closed (by omega)) (Region.free_spec hi (h4 p i hp' hc).1) (by simpa using(h4 p i hp' hc).2) (Or.inl ⟨hg.2,hy⟩) hS (by rw[hg.1];exact h)
/-- The operation at place p comes up alone. -/
theorem cls (p i:Nat) {q:Nat} {oi:Oper} (T:oq ops n ord cs qs f) (hc:p ∈ cs) (hp:(ord.take q)[p]?=some i) (hi:ops[i]?=some oi)
  (h:∀K:Act->World->Prop,Shut (∀a w,S w->(S w->fA P ops Q S n ord q (p+1) a w)->K a w)->if Region.wanted oi (yielded ops a.tmps)=true then Oper.wp P oi a w K Q else K (a.put oi.dst undef) w):fA P ops Q S n ord q p a w:=by
 obtain⟨h1,h2,h3,h4,h5,h6⟩:=Ah T.o;have hp':ord[p]?=some i:=by
  rw[List.getElem?_take] at hp
  split at hp
  ·exact hp
  ·cases hp
 have hlt:=(h6 p i hc hp').1;have hr:=(h6 p i hc hp').2;have hun:(dM n (ord.take p)).getD i true=false:=(mem_ready.1 (show i ∈ Region.ready .any ops (dM n (ord.take p)) by rw[hr];simp)).1;have hl:left (ord.take q) (dM n (ord.take p))=true:=Di (List.mem_of_getElem? hp) hun;unfold fA;rw[show n - p=(n - (p+1))+1 by omega];refine⟨λh=>absurd hl (by rw[h];simp),λ_=>⟨λh=>absurd hr (by rw[h];simp),λj hj=>?_⟩⟩;rw[hr] at hj;obtain rfl:j=i:=by simpa using hj
 exact wpOp_step hi (λK hK=>h K (λa w hS hW=>hK a w ⟨hS,by rw[GZ hp'];exact hW hS⟩))
/-- A phase is over, the next one begins. -/
theorem kC {S':World->Prop} (q q':Nat) (T:oq ops n ord cs qs f) (hl:left (ord.take q) (dM n (ord.take q))=false) (hS:S' w) (h:S' w->fA P ops Q S' n ord q' q a w):fA P ops Q S n ord q q a w:=by
 have h:=Dk _ _ _ _ (h hS);unfold fA
 revert h
 generalize n - q=m;intro h;cases m with
 | zero=>exact h
 | succ m=>exact⟨λ_=>h,λhh=>absurd hh (by rw[hl];simp)⟩
theorem jS {q:Nat} (T:oq ops n ord cs qs f) (h:Q .normal a w):fA P ops Q S n ord q n a w:=by
 obtain⟨h1,h2,h3,h4,h5,h6⟩:=Ah T.o;unfold fA;rw[Nat.sub_self];exact⟨h5,h⟩
end
/-- 'ajE, what it yields and the state behind it found by themselves. -/
theorem tks {P:Program} {ops:Array Oper} {Q:Exit->Act->World->Prop} {S:World->Prop} {n f q:Nat} {ord cs qs:List Nat} {a a':Act} {w:World} (p i d:Nat) {oi:Oper} {v:Value} (T:oq ops n ord cs qs f) (hS:S w) (h:fA P ops Q S n ord q (p+1) a' w)
  (hp:(ord.take q)[p]?=some i:=by rfl) (hc:¬p ∈ cs:=by decide) (hq:q ∈ qs:=by decide)
  (hi:ops[i]?=some oi:=by rfl)
  (hg:(oi.dst == some d && Region.wanted oi (yielded ops a.tmps))=true:=by kernel_rfl)
  (hy:∀w,S w->(execOp a.eval oi).run P w=.ok (.value v) w:=by(intro w s;(try dsimp only at s);go_simp <;> with_reducible rfl))
  (ha:iI a d v=a':=by(conv=>lhs;dsimp only[iI,List.toList_toArray,K4,K5]))
  (hQ:∀c a w,Q (.panic c) (a.put (some d) v) w->Q (.panic c) a w:=by exact λ_ _ _ h=>h):fA P ops Q S n ord q p a w :=
 ZT p i d v T hy hS (by rw[ha];exact h) hp hc hq hi hg hQ
/- GY walked in phases: where several operations may come next, each one goes on in an order of its own. -/
theorem ZU {A A':List Nat} (h:(A.all (λx=>A'.contains x) && A'.all (λx=>A.contains x))=true) (L:Array Bool):left A L=left A' L:=by
 simp only[Bool.and_eq_true,List.all_eq_true,List.contains_iff_mem] at h;unfold left;rw[Bool.eq_iff_iff];simp only[List.any_eq_true];exact⟨λ⟨x,hx,e⟩=>⟨x,h.1 x hx,e⟩,λ⟨x,hx,e⟩=>⟨x,h.2 x hx,e⟩⟩
section
variable {P : Program} {md : Region.Mode} {ops : Array Oper} {Q : Exit -> Act -> World -> Prop} {S : World -> Prop}
theorem QN {A A':List Nat} (hA:∀L,left A L=left A' L):∀(n:Nat) (L:Array Bool) (a:Act) (w:World),wpAnyS P md ops Q S A n L a w->wpAnyS P md ops Q S A' n L a w
 | 0,_,_,_,h=>h
 | n+1,L,a,w,h=>by
  refine⟨λhl=>h.1 (by rw[hA];exact hl),λhl=>?_⟩;have h2:=h.2 (by rw[hA];exact hl);exact⟨h2.1,λi hi=>wpOp_mono (λa' w' q=>⟨q.1,QN hA n _ a' w' q.2⟩) (h2.2 i hi)⟩
end
section
variable {P : Program} {ops : Array Oper} {Q : Exit -> Act -> World -> Prop} {S : World -> Prop} {n f : Nat} {ord cs qs : List Nat} {a : Act} {w : World}
/-- What is owed of those that may come next. -/
def kQ (P:Program) (ops:Array Oper) (Q:Exit->Act->World->Prop) (S:World->Prop) (n:Nat) (ord:List Nat) (q p:Nat) (a:Act) (w:World) (rs:List Nat):Prop :=
 ∀i ∈ rs,wpOp P ops Q i (λa' w'=>S w'/\wpAnyS P .any ops Q S (ord.take q) (n - (p+1)) ((dM n (ord.take p)).setIfInBounds i true) a' w') a w
theorem kQ.nil {q p:Nat}:kQ P ops Q S n ord q p a w []:=λ_ h=>by cases h
theorem kQ.cons {q p i:Nat} {rs:List Nat} {oi:Oper} (Hf:List Nat) (hi:ops[i]?=some oi) (hd:(dM n (ord.take p)).setIfInBounds i true=dM n (Hf.take (p+1)))
  (hA:((Hf.take q).all (λx=>(ord.take q).contains x) && (ord.take q).all (λx=>(Hf.take q).contains x))=true)
  (h:∀K:Act->World->Prop,Shut (∀a w,S w->(S w->fA P ops Q S n Hf q (p+1) a w)->K a w)->if Region.wanted oi (yielded ops a.tmps)=true then Oper.wp P oi a w K Q else K (a.put oi.dst undef) w)
  (hs:kQ P ops Q S n ord q p a w rs):kQ P ops Q S n ord q p a w (i :: rs):=by
 intro j hj;rcases List.mem_cons.1 hj with rfl | hj
 ·refine wpOp_step hi (λK hK=>h K (λa w hS hW=>hK a w ⟨hS,?_⟩))
  have:=hW hS;unfold fA at this;rw[hd];exact QN (ZU hA) _ _ _ _ this
 ·exact hs j hj
/-- The table of an order some of whose places (bs) have several that may come next. -/
def ug (ops:Array Oper) (n:Nat) (ord cs bs qs:List Nat) (f:Nat):Bool :=
 (ops.size == n) && ((ord.length == n) && (Region.noSelect ops && ((List.range n).all (λp=>match ord[p]? with
  | some i=>cs.contains p || (bs.contains p || (Region.free .any ops (dM n (ord.take p)) i && (Region.ready .any ops (dM n (ord.take p))).contains i))
  | none=>false) && ((Region.ready .any ops (dM n (ord.take n))).isEmpty && (cs.all (λp=>match ord[p]? with
  | some i=>Nat.blt p n && (Region.ready .any ops (dM n (ord.take p)) == [i])
  | none=>false) && ((List.range (n+1)).all (λp=>(List.range n).all λk=>!((dM n (ord.take p)).getD k false) || (waits .any ops k).all λi=>(dM n (ord.take p)).getD i false) &&
  qs.all λq=>(List.range n).all λj=>(ord.take q).contains j || (ord.take q).all λi=>(Dj .any ops j f).contains i))))))
structure nk (ops:Array Oper) (n:Nat) (ord cs bs qs:List Nat) (f:Nat):Prop where
 out:ug ops n ord cs bs qs f=true
variable {bs : List Nat}
theorem Ai {c:Option Code} {id:Nat} (h:c.bind (eO id)=some ops) (T:(c.bind (eO id)).all (λo=>ug o n ord cs bs qs f)=true):nk ops n ord cs bs qs f:=by
 rw[h] at T;exact⟨by simpa using T⟩
theorem nk.all (T':nk ops n ord cs bs qs f):ops.size=n/\ord.length=n/\Region.noSelect ops=true/\(∀p i,ord[p]?=some i->¬p ∈ cs->¬p ∈ bs->Region.free .any ops (dM n (ord.take p)) i=true/\(Region.ready .any ops (dM n (ord.take p))).contains i=true)/\Region.ready .any ops (dM n (ord.take n))=[] /\
  (∀p i,p ∈ cs->ord[p]?=some i->p < n/\Region.ready .any ops (dM n (ord.take p))=[i])/\(∀p,p<=n->vZ .any ops (dM n (ord.take p)))/\∀q,q ∈ qs->Parts .any ops (ord.take q):=by
 have T:=T'.out;simp only[ug,Bool.and_eq_true,beq_iff_eq,List.all_eq_true,List.mem_range,List.isEmpty_iff] at T;obtain⟨h1,h2,h3,h4,h5,h6,h7,h8⟩:=T;refine⟨h1,h2,h3,λp i hp hc hb=>?_,h5,λp i hc hp=>?_,λp hp k i hk hi=>?_,λq hq j hj hn i hi=>?_⟩
 ·have hlt:p < n:=by have:=(gs1 hp).1;omega
  have:=h4 p hlt;rw[hp] at this;simp only[Bool.or_eq_true,Bool.and_eq_true,List.contains_iff_mem] at this;rcases this with h | h | h
  ·exact absurd h hc
  ·exact absurd h hb
  ·exact⟨h.1,by simpa using h.2⟩
 ·have:=h6 p hc
  rw[hp] at this;simp only[Bool.and_eq_true,beq_iff_eq,Nat.blt_eq] at this;exact this
 ·have hkn:k < n:=by
   by_cases hkn:k < n
   ·exact hkn
   ·unfold waits at hi
    rw[Array.getElem?_eq_none (by omega)] at hi;cases hi
  have:=h7 p (by omega) k hkn;rw[hk] at this;simp only[Bool.not_true,Bool.false_or,List.all_eq_true] at this;exact this i hi
 ·obtain⟨o,ho⟩:=hj
  have hjn:j < n:=by rw[← h1];exact(Array.getElem?_eq_some_iff.1 ho).1
  have:=h8 q hq j hjn;simp only[Bool.or_eq_true,List.contains_iff_mem,List.all_eq_true] at this;rcases this with h | h
  ·exact absurd h hn
  ·exact He f i (h i hi)
theorem ZV {id:Nat} (q:Nat) (T:nk ops n ord cs bs qs f) (hm:P.follows .mixedOrders=true) (hS:S w.drew) (h:nk ops n ord cs bs qs f->S w.drew->fA P ops Q S n ord q 0 a w.drew):Code.wp P (.region id ops true) Q a w:=by
 refine wp_region_any hm ?_;have h1:=T.all.1;have:=Dk _ _ _ _ (h T hS);subst h1;exact this
/-- The beginning, with the tables of three orders. -/
theorem QO {id:Nat} {QS cs2 QT QU QV QW:List Nat} (q:Nat) (T:nk ops n ord cs bs qs f) (T2:nk ops n QS cs2 QT qs f) (T3:nk ops n QU QV QW qs f) (hm:P.follows .mixedOrders=true) (hS:S w.drew)
 (h:nk ops n ord cs bs qs f->nk ops n QS cs2 QT qs f->nk ops n QU QV QW qs f->S w.drew->fA P ops Q S n ord q 0 a w.drew):Code.wp P (.region id ops true) Q a w:=ZV q T hm hS λT=>h T T2 T3
theorem ZW (p i d:Nat) {q:Nat} {oi:Oper} (v:Value) (T:nk ops n ord cs bs qs f) (hy:∀w,S w->(execOp a.eval oi).run P w=.ok (.value v) w) (hS:S w) (h:fA P ops Q S n ord q (p+1) (iI a d v) w)
  (hp:(ord.take q)[p]?=some i) (hc:¬p ∈ cs) (hb:¬p ∈ bs) (hq:q ∈ qs) (hi:ops[i]?=some oi)
  (hg:(oi.dst == some d && Region.wanted oi (yielded ops a.tmps))=true) (hQ:∀c a w,Q (.panic c) (a.put (some d) v) w->Q (.panic c) a w):fA P ops Q S n ord q p a w:=by
 obtain⟨h1,h2,h3,h4,h5,h6,h7,h8⟩:=T.all;have hp':ord[p]?=some i:=by
  rw[List.getElem?_take] at hp
  split at hp
  ·exact hp
  ·cases hp
 have hlt:p < n:=by have:=(gs1 hp').1;omega
 simp only[Bool.and_eq_true,beq_iff_eq] at hg;rw[← yx] at h;unfold fA at h ⊢;rw[show n - p=(n - (p+1))+1 by omega];rw[← GZ hp'] at h;exact wpAnyS_first hi (List.mem_of_getElem? hp) (h8 q hq) (Region.noSelect_spec h3) (by rw[hg.1];exact hQ) _ _ _ _ (h7 p (by omega)) (Region.free_spec hi (h4 p i hp' hc hb).1) (by simpa using(h4 p i hp' hc hb).2) (Or.inl ⟨hg.2,hy⟩) hS (by rw[hg.1];exact h)
theorem gX (p i:Nat) {q:Nat} {oi:Oper} (T:nk ops n ord cs bs qs f) (hc:p ∈ cs) (hp:(ord.take q)[p]?=some i) (hi:ops[i]?=some oi)
  (h:∀K:Act->World->Prop,Shut (∀a w,S w->(S w->fA P ops Q S n ord q (p+1) a w)->K a w)->if Region.wanted oi (yielded ops a.tmps)=true then Oper.wp P oi a w K Q else K (a.put oi.dst undef) w):fA P ops Q S n ord q p a w:=by
 obtain⟨h1,h2,h3,h4,h5,h6,h7,h8⟩:=T.all;have hp':ord[p]?=some i:=by
  rw[List.getElem?_take] at hp
  split at hp
  ·exact hp
  ·cases hp
 have hlt:=(h6 p i hc hp').1;have hr:=(h6 p i hc hp').2;have hun:(dM n (ord.take p)).getD i true=false:=(mem_ready.1 (show i ∈ Region.ready .any ops (dM n (ord.take p)) by rw[hr];simp)).1;have hl:left (ord.take q) (dM n (ord.take p))=true:=Di (List.mem_of_getElem? hp) hun;unfold fA;rw[show n - p=(n - (p+1))+1 by omega];refine⟨λh=>absurd hl (by rw[h];simp),λ_=>⟨λh=>absurd hr (by rw[h];simp),λj hj=>?_⟩⟩;rw[hr] at hj;obtain rfl:j=i:=by simpa using hj
 exact wpOp_step hi (λK hK=>h K (λa w hS hW=>hK a w ⟨hS,by rw[GZ hp'];exact hW hS⟩))
/-- Several may come next. -/
theorem Hg (p:Nat) {q:Nat} (rs:List Nat) (hr:Region.ready .any ops (dM n (ord.take p))=rs) (hl:left (ord.take q) (dM n (ord.take p))=true) (hp:p < n) (hne:rs≠[])
  (h:kQ P ops Q S n ord q p a w rs):fA P ops Q S n ord q p a w:=by
 unfold fA;rw[show n - p=(n - (p+1))+1 by omega];refine⟨λhl'=>?_,λ_=>⟨λh'=>absurd (hr.symm.trans h') hne,λi hi=>h i (by rw[← hr];exact hi)⟩⟩;rw[hl] at hl';cases hl'
theorem Aj {S':World->Prop} (q q':Nat) (hl:left (ord.take q) (dM n (ord.take q))=false) (hS:S' w) (h:S' w->fA P ops Q S' n ord q' q a w):fA P ops Q S n ord q q a w:=by
 have h:=Dk _ _ _ _ (h hS);unfold fA
 revert h
 generalize n - q=m;intro h;cases m with
 | zero=>exact h
 | succ m=>exact⟨λ_=>h,λhh=>absurd hh (by rw[hl];simp)⟩
theorem Ak {q:Nat} (T:nk ops n ord cs bs qs f) (h:Q .normal a w):fA P ops Q S n ord q n a w:=by
 unfold fA;rw[Nat.sub_self];exact⟨T.all.2.2.2.2.1,h⟩
end
theorem fB {P:Program} {ops:Array Oper} {Q:Exit->Act->World->Prop} {S:World->Prop} {n f q:Nat} {ord cs bs qs:List Nat} {a a':Act} {w:World} (p i d:Nat) {oi:Oper} {v:Value} (T:nk ops n ord cs bs qs f) (hS:S w) (h:fA P ops Q S n ord q (p+1) a' w)
  (hp:(ord.take q)[p]?=some i:=by rfl) (hc:¬p ∈ cs:=by decide) (hb:¬p ∈ bs:=by decide) (hq:q ∈ qs:=by decide)
  (hi:ops[i]?=some oi:=by rfl)
  (hg:(oi.dst == some d && Region.wanted oi (yielded ops a.tmps))=true:=by kernel_rfl)
  (hy:∀w,S w->(execOp a.eval oi).run P w=.ok (.value v) w:=by(intro w s;(try dsimp only at s);go_simp <;> with_reducible rfl))
  (ha:iI a d v=a':=by(conv=>lhs;dsimp only[iI,List.toList_toArray,K4,K5]))
  (hQ:∀c a w,Q (.panic c) (a.put (some d) v) w->Q (.panic c) a w:=by exact λ_ _ _ h=>h):fA P ops Q S n ord q p a w :=
 ZW p i d v T hy hS (by rw[ha];exact h) hp hc hb hq hi hg hQ
/- GY that draw their order and are guarded: one walk for all ways: what a guarded operation yields stands under its guard's Bool. -/
section
variable {P : Program} {ops : Array Oper} {Q : Exit -> Act -> World -> Prop} {S : World -> Prop} {n : Nat} {cs : List Nat} {a a' : Act} {w : World} {i i' j d : Nat} {oi : Oper} {v : Value} {c : Bool}
end
/- A world that meets what the row lays (ajF errors, strconv's, its tables). -/
open Go.ChangeShapes Go.WideShapes Go.RowKit Go.Stop
abbrev laidL : List (String × DataW Unit) := [("math/bits.deBruijn32tab", Rows.laid_math_bits_deBruijn32tab), ("math/bits.deBruijn64tab", Rows.laid_math_bits_deBruijn64tab), ("internal/strconv.uint64pow10", Rows.laid_internal_strconv_uint64pow10), ("strconv.ErrRange", Rows.laid_strconv_ErrRange), ("strconv.ErrSyntax", Rows.laid_strconv_ErrSyntax), ("loop.example/g00359/impl.errNoRoom", Rows.laid_loop_example_g00359_impl_errNoRoom), ("loop.example/g00359/impl.errGaveUp", Rows.laid_loop_example_g00359_impl_errGaveUp)]
def K9:DataW Unit->Array Value
 | .agg l=>(l.map fun
  | .lit (.int k z)=>Value.int k z
  | _=>undef).toArray
 | _=>#[]
def textOf:DataW Unit->ByteArray
 | .iface _ (.ptr (.agg [.lit (.string l)]))=>⟨(l.map λx=>UInt8.ofNat x.toNat).toArray⟩
 | _=>⟨#[]⟩
noncomputable def low:Nat:=(World.holding Tryz.prog default ⟨#[],#[],[]⟩).heap.size
def yA (cs:Array Value):Obj->Obj
 | .cells _ t frozen=>.cells cs t frozen
 | o=>o
noncomputable def laidWorld (os:Os):World :=
 let w0:=World.holding Tryz.prog os ⟨#[.cells #[.string (textOf Rows.laid_loop_example_g00359_impl_errGaveUp)] 417,.cells #[.string (textOf Rows.laid_strconv_ErrRange)] 417,.cells #[.string (textOf Rows.laid_strconv_ErrSyntax)] 417,.cells #[.string (textOf Rows.laid_loop_example_g00359_impl_errNoRoom)] 417],#[],[]⟩
 { w0 with heap:=((((((w0.heap.modify 2 (yA #[.iface 415 (.pointer (some ⟨low,0,none⟩))])).modify 5 (yA #[.iface 415 (.pointer (some ⟨low+1,0,none⟩))])).modify 4 (yA #[.iface 415 (.pointer (some ⟨low+2,0,none⟩))])).modify 0 (yA #[.iface 415 (.pointer (some ⟨low+3,0,none⟩))])).modify 3 (yA (K9 Rows.laid_internal_strconv_uint64pow10))).modify 6 (yA (K9 Rows.laid_math_bits_deBruijn32tab))).modify 7 (yA (K9 Rows.laid_math_bits_deBruijn64tab)) }
theorem laid_met (os:Os) (args:Array Value):laidMetH Tryz.prog laidL ((laidWorld os).forCall (λ_ _=>0) ⟨#[],args,[]⟩).memory :=
 laidMetH_of_parts (laidMet_of_run' 200 (by kernel_rfl) (by kernel_rfl)) (by kernel_rfl)
end Go.Proofs.YtfabngnaejjcmaaGreatDoor
