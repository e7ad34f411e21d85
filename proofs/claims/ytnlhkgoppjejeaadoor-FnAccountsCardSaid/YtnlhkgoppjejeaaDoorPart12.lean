/- The proof's texts, part 12. -/
import Derived.Test.YtnlhkgoppjejeaaDoorPart3

/- What toByteS, eqByteS, markByteS, heldByteS of package laws do. -/
namespace Go.Proofs.YtnlhkgoppjejeaaDoor
open Go.RowKit

/-- the first k bytes of l laid over noughts -/
def laid (l:List Int) (k:Nat):List Int:=l.take k ++ List.replicate (l.length - k) 0
/-- n marks from k on: what markByteS writes. -/
def marks (k:Int) (n:Nat):List Int:=(List.range n).map fun (i:Nat)=>(k+(i:Int)) % 256
end Go.Proofs.YtnlhkgoppjejeaaDoor

/- What toMail, toMailS of package laws do. -/
namespace Go.Proofs.YtnlhkgoppjejeaaDoor
open Go.RowKit
set_option linter.unusedVariables false

theorem infoMail:(Tryd.prog.info? 67).map (fun i=>(i.zero,i.size,i.bytes))=some (some (.agg #[.int .i64 0,.int .i64 0,.int .i64 0,.slice none 0 0]),4,48):=by kernel_rfl

end Go.Proofs.YtnlhkgoppjejeaaDoor

/- What toGone, toGoneS of package laws do. -/
namespace Go.Proofs.YtnlhkgoppjejeaaDoor
open Go.RowKit
set_option linter.unusedVariables false

theorem infoGone:(Tryd.prog.info? 65).map (fun i=>(i.zero,i.size,i.bytes))=some (some (.agg #[.int .i64 0,.int .i64 0]),2,16):=by kernel_rfl

end Go.Proofs.YtnlhkgoppjejeaaDoor

/- What toBox, toBoxS of package laws do. -/
namespace Go.Proofs.YtnlhkgoppjejeaaDoor
open Go.RowKit
set_option linter.unusedVariables false

theorem infoBox:(Tryd.prog.info? 44).map (fun i=>(i.zero,i.size,i.bytes))=some (some (.agg #[.slice none 0 0,.int .i64 0,.int .i64 0,.int .i64 0,.slice none 0 0,.slice none 0 0,.int .i64 0]),7,104):=by kernel_rfl

end Go.Proofs.YtnlhkgoppjejeaaDoor

/- Regions that draw their order, walked in a given order: what each operation asks of the others is reckoned once for a region, in a table. -/
namespace Go.Proofs.YtnlhkgoppjejeaaDoor
set_option linter.unusedVariables false

/-- Which operations are done when the first p of the order are. -/
def doneA (n:Nat) (l:List Nat):Array Bool:=l.foldl (fun a i=>a.setIfInBounds i true) (Array.replicate n false)
theorem doneA_step {n p i:Nat} {ord:List Nat} (h:ord[p]?=some i):(doneA n (ord.take p)).setIfInBounds i true=doneA n (ord.take (p+1)):=by
 have hp:p < ord.length:=(List.getElem?_eq_some_iff.1 h).1
 rw [List.take_succ_eq_append_getElem hp,(List.getElem?_eq_some_iff.1 h).2]
 unfold doneA
 rw [List.foldl_append]
 rfl
/-- cs: the places of those that come up alone. -/
def tableO (ops:Array Oper) (n:Nat) (ord cs:List Nat):Bool :=
 (ops.size == n) && ((ord.length == n) && (Region.noSelect ops && ((List.range n).all (fun p=>match ord[p]? with
  | some i=>cs.contains p || (Region.free .any ops (doneA n (ord.take p)) i && (Region.ready .any ops (doneA n (ord.take p))).contains i)
  | none=>false) && ((Region.ready .any ops (doneA n (ord.take n))).isEmpty && cs.all fun p=>match ord[p]? with
  | some i=>Nat.blt p n && (Region.ready .any ops (doneA n (ord.take p)) == [i])
  | none=>false))))

/-- The table's word, in a wrapping that no walk looks into. -/
structure TabO (ops:Array Oper) (n:Nat) (ord cs:List Nat):Prop where
 out:tableO ops n ord cs=true

section
variable {P : Program} {ops : Array Oper} {Q : Exit → Act → World → Prop} {S : World → Prop} {n : Nat} {ord cs : List Nat} {a : Act} {w : World}
theorem tabO_parts (T':TabO ops n ord cs):ops.size=n∧ord.length=n∧Region.noSelect ops=true∧(∀ p i,ord[p]?=some i→¬ p ∈ cs→Region.free .any ops (doneA n (ord.take p)) i=true∧(Region.ready .any ops (doneA n (ord.take p))).contains i=true)∧Region.ready .any ops (doneA n (ord.take n))=[] ∧
  ∀ p i,p ∈ cs→ord[p]?=some i→p < n∧Region.ready .any ops (doneA n (ord.take p))=[i]:=by
 have T:=T'.out
 simp only [tableO,Bool.and_eq_true,beq_iff_eq,List.all_eq_true,List.mem_range,List.isEmpty_iff] at T
 obtain ⟨h1,h2,h3,h4,h5,h6⟩:=T
 refine ⟨h1,h2,h3,fun p i hp hc=>?_,h5,fun p i hc hp=>?_⟩
 ·have hlt:p < n:=by have:=(List.getElem?_eq_some_iff.1 hp).1;omega
  have:=h4 p hlt
  rw [hp] at this
  simp only [Bool.or_eq_true,Bool.and_eq_true,List.contains_iff_mem] at this
  rcases this with h | h
  ·exact absurd h hc
  ·exact ⟨h.1,by simpa using h.2⟩
 ·have:=h6 p hc
  rw [hp] at this
  simp only [Bool.and_eq_true,beq_iff_eq,Nat.blt_eq] at this
  exact this
end

end Go.Proofs.YtnlhkgoppjejeaaDoor

/- Regions that draw their order, walked in phases: each phase has a condition on the world of its own; a phase is closed when all that comes behind it waits for it. -/
namespace Go.Proofs.YtnlhkgoppjejeaaDoor
set_option linter.unusedVariables false

/-- Is one of the operations A still to come? -/
def left (A:List Nat) (L:Array Bool):Bool:=A.any fun i=>!(L.getD i true)
theorem left_mem {A:List Nat} {L:Array Bool} {i:Nat} (h:i ∈ A) (h':L.getD i true=false):left A L=true:=by
 unfold left
 rw [List.any_eq_true]
 exact ⟨i,h,by rw [h'];rfl⟩
theorem left_no {A:List Nat} {L:Array Bool} (h:∀ i,i ∈ A→L.getD i false=true):left A L=false:=by
 unfold left
 rw [List.any_eq_false]
 intro i hi
 have:=h i hi
 by_cases hs:i < L.size
 ·simp [hs] at this ⊢;exact this
 ·simp [Array.getElem?_eq_none (Nat.le_of_not_lt hs)] at this

/-- What an operation waits for. -/
def waits (md:Region.Mode) (ops:Array Oper) (j:Nat):List Nat:=match ops[j]? with
 | some o=>(o.after.toList.filter (Region.binds md)).map (·.on)
 | none=>[]
inductive Anc (md:Region.Mode) (ops:Array Oper):Nat→Nat→Prop
 | one {j i:Nat}:i ∈ waits md ops j→Anc md ops j i
 | more {j k i:Nat}:k ∈ waits md ops j→Anc md ops k i→Anc md ops j i
theorem Anc.then {md:Region.Mode} {ops:Array Oper} {j k i:Nat} (h:Anc md ops j k) (hi:i ∈ waits md ops k):Anc md ops j i:=by
 induction h with
 | one h=>exact .more h (.one hi)
 | more h _ ih=>exact .more h (ih hi)
def ClosedL (md:Region.Mode) (ops:Array Oper) (L:Array Bool):Prop:=∀ k i,L.getD k false=true→i ∈ waits md ops k→L.getD i false=true
theorem anc_listed {md:Region.Mode} {ops:Array Oper} {L:Array Bool} {k i:Nat} (hc:ClosedL md ops L) (hk:L.getD k false=true) (h:Anc md ops k i):L.getD i false=true:=by
 induction h with
 | one h=>exact hc _ _ hk h
 | more h _ ih=>exact ih (hc _ _ hk h)
theorem ready_waits {md:Region.Mode} {ops:Array Oper} {L:Array Bool} {j i:Nat} (hj:j ∈ Region.ready md ops L) (h:i ∈ waits md ops j):L.getD i false=true:=by
 obtain ⟨-,o,ho,hall⟩:=mem_ready.1 hj
 unfold waits at h
 rw [ho] at h
 simp only [List.mem_map,List.mem_filter] at h
 obtain ⟨e,⟨he,hb⟩,rfl⟩:=h
 exact hall e (by simpa using he) hb
theorem anc_ready {md:Region.Mode} {ops:Array Oper} {L:Array Bool} {j i:Nat} (hc:ClosedL md ops L) (hj:j ∈ Region.ready md ops L) (h:Anc md ops j i):L.getD i false=true:=by
 cases h with
 | one h=>exact ready_waits hj h
 | more h h'=>exact anc_listed hc (ready_waits hj h) h'
theorem closed_step {md:Region.Mode} {ops:Array Oper} {L:Array Bool} {j:Nat} (hc:ClosedL md ops L) (hj:j ∈ Region.ready md ops L):ClosedL md ops (L.setIfInBounds j true):=by
 intro k i hk hi
 by_cases hjk:j=k
 ·subst hjk;exact getD_set_true (ready_waits hj hi)
 ·rw [getD_set_ne false hjk] at hk
  exact getD_set_true (hc k i hk hi)

/-- The operations that come ahead of one, gathered. -/
def addNew (l:List Nat) (i:Nat):List Nat:=if l.contains i then l else i :: l
theorem mem_addNew {xs l:List Nat} {i:Nat} (h:i ∈ xs.foldl addNew l):i ∈ l∨i ∈ xs:=by
 induction xs generalizing l with
 | nil=>exact .inl h
 | cons x xs ih =>
  rcases ih h with h | h
  ·unfold addNew at h
   split at h
   ·exact .inl h
   ·rcases List.mem_cons.1 h with rfl | h
    ·exact .inr (List.mem_cons_self ..)
    ·exact .inl h
  ·exact .inr (List.mem_cons_of_mem _ h)
def ancL (md:Region.Mode) (ops:Array Oper) (j:Nat):Nat→List Nat
 | 0=>waits md ops j
 | f+1=>((ancL md ops j f).flatMap (waits md ops)).foldl addNew (ancL md ops j f)
theorem anc_of {md:Region.Mode} {ops:Array Oper} {j:Nat}:∀ (f i:Nat),i ∈ ancL md ops j f→Anc md ops j i
 | 0,i,h=>.one h
 | f+1,i,h=>by
  rcases mem_addNew h with h | h
  ·exact anc_of f i h
  ·rw [List.mem_flatMap] at h
   obtain ⟨k,hk,hi⟩:=h
   exact (anc_of f k hk).then hi

section
variable {P : Program} {md : Region.Mode} {ops : Array Oper} {Q : Exit → Act → World → Prop} {S : World → Prop} {A : List Nat}
/-- Whatever order is picked: while one of A is still to come S holds behind each operation; then the rest goes in whatever order. -/
def wpAnyS (P:Program) (md:Region.Mode) (ops:Array Oper) (Q:Exit→Act→World→Prop) (S:World→Prop) (A:List Nat):Nat→Array Bool→Act→World→Prop
 | 0,L,a,w=>Region.ready md ops L=[]∧Q .normal a w
 | n+1,L,a,w=>(left A L=false→wpAny P md ops Q (n+1) L a w)∧(left A L=true→(Region.ready md ops L=[]→Q .normal a w) ∧
  ∀ i ∈ Region.ready md ops L,wpOp P ops Q i (fun a' w'=>S w'∧wpAnyS P md ops Q S A n (L.setIfInBounds i true) a' w') a w)
theorem wpAny_of_phase:∀ (n:Nat) (L:Array Bool) (a:Act) (w:World),wpAnyS P md ops Q S A n L a w→wpAny P md ops Q n L a w
 | 0,_,_,_,h=>h
 | n+1,L,a,w,h=>by
  cases hl:left A L with
  | false=>exact h.1 hl
  | true=>exact ⟨(h.2 hl).1,fun i hi=>wpOp_mono (fun a' w' q=>wpAny_of_phase n _ a' w' q.2) ((h.2 hl).2 i hi)⟩
/-- All that is not of A waits for all of A. -/
def Parts (md:Region.Mode) (ops:Array Oper) (A:List Nat):Prop:=∀ j,(∃ o,ops[j]?=some o)→j ∉ A→∀ i,i ∈ A→Anc md ops j i
theorem parts_ready {L:Array Bool} {j:Nat} (hA:Parts md ops A) (hc:ClosedL md ops L) (hj:j ∈ Region.ready md ops L) (hn:j ∉ A):left A L=false:=by
 obtain ⟨-,o,ho,-⟩:=mem_ready.1 hj
 exact left_no fun i hi=>anc_ready hc hj (hA j ⟨o,ho⟩ hn i hi)
theorem wpAnyS_first {i:Nat} {oi:Oper} {v:Value} (hi:ops[i]?=some oi) (hR:i ∈ A) (hA:Parts md ops A) (hsel:∀ (j:Nat) (o:Oper) cs b,ops[j]?=some o→o.op≠.select cs b) (hQ:∀ c a w,Q (.panic c) (a.put oi.dst v) w→Q (.panic c) a w)
  (n:Nat):∀ (L:Array Bool) (a:Act) (w:World),ClosedL md ops L →
   (∀ j oj,ops[j]?=some oj→j≠i→L.getD j true=false→(∀ e ∈ oj.after,Region.binds md e=true→e.on≠i)→oi.apart ops oj=true) →
   i ∈ Region.ready md ops L→YieldsIf P ops S oi v a→S w→wpAnyS P md ops Q S A n (L.setIfInBounds i true) (a.put oi.dst v) w→wpAnyS P md ops Q S A (n+1) L a w:=by
 induction n with
 | zero =>
  intro L a w hc _ hr hy hS H
  have hl:left A L=true:=left_mem hR (mem_ready.1 hr).1
  refine ⟨fun h=>absurd hl (by rw [h];simp),fun _=>⟨fun h=>absurd hr (by rw [h];simp),fun j hj=>?_⟩⟩
  by_cases hji:j=i
  ·subst hji;exact hy.wpOp hi hS ⟨hS,H⟩
  ·exact absurd (ready_mono hj hji) (by rw [H.1];simp)
 | succ n ih =>
  intro L a w hc hfree hr hy hS H
  have hl:left A L=true:=left_mem hR (mem_ready.1 hr).1
  refine ⟨fun h=>absurd hl (by rw [h];simp),fun _=>⟨fun h=>absurd hr (by rw [h];simp),fun j hj=>?_⟩⟩
  by_cases hji:j=i
  ·subst hji;exact hy.wpOp hi hS ⟨hS,H⟩
  obtain ⟨hjun,oj,hoj,hall⟩:=mem_ready.1 hj
  have hjA:j ∈ A:=by
   by_cases h:j ∈ A
   ·exact h
   ·exact absurd hl (by rw [parts_ready hA hc hj h];simp)
  have hil:=(mem_ready.1 hr).1
  have hnot:∀ e ∈ oj.after,Region.binds md e=true→e.on≠i:=by
   intro e he hb heq
   have q:=hall e he hb
   rw [heq] at q
   by_cases hs:i < L.size
   ·simp [hs] at hil q;rw [hil] at q;cases q
   ·simp [Array.getElem?_eq_none (Nat.le_of_not_lt hs)] at q
  have hl':left A (L.setIfInBounds i true)=true:=left_mem hjA (by rw [getD_set_ne true (Ne.symm hji)];exact hjun)
  have step:=wpOp_putIf hoj (hfree j oj hoj hji hjun hnot) (fun cs b=>hsel i oi cs b hi) (fun cs b=>hsel j oj cs b hoj) hQ hy ((H.2 hl').2 j (ready_mono hj hji))
  refine wpOp_mono (fun a' w' q=>?_) step
  obtain ⟨q1,q2,q3⟩:=q
  exact ⟨q2,ih (L.setIfInBounds j true) a' w' (closed_step hc hj) (fun k ok hk hki hun hno=>hfree k ok hk hki (by
    by_cases hjk:j=k
    ·subst hjk;exact hjun
    ·rwa [getD_set_ne true hjk] at hun) hno) (ready_mono hr (Ne.symm hji)) q1 q2 (by rw [Array.setIfInBounds_comm _ _ hji];exact q3)⟩
end

/-- The table of a region that is walked in phases: qs, how many operations of the order are done at the end of each; f, how far ahead it is looked. -/
def tableS (ops:Array Oper) (n:Nat) (ord cs qs:List Nat) (f:Nat):Bool :=
 tableO ops n ord cs && ((List.range (n+1)).all (fun p=>(List.range n).all fun k=>!((doneA n (ord.take p)).getD k false) || (waits .any ops k).all fun i=>(doneA n (ord.take p)).getD i false) &&
  qs.all fun q=>(List.range n).all fun j=>(ord.take q).contains j || (ord.take q).all fun i=>(ancL .any ops j f).contains i)
structure TabS (ops:Array Oper) (n:Nat) (ord cs qs:List Nat) (f:Nat):Prop where
 out:tableS ops n ord cs qs f=true

/-- What is left of the region when the first p operations of the order are done, in the phase that ends at q. -/
def wpPh (P:Program) (ops:Array Oper) (Q:Exit→Act→World→Prop) (S:World→Prop) (n:Nat) (ord:List Nat) (q p:Nat) (a:Act) (w:World):Prop:=wpAnyS P .any ops Q S (ord.take q) (n - p) (doneA n (ord.take p)) a w

section
variable {P : Program} {ops : Array Oper} {Q : Exit → Act → World → Prop} {S : World → Prop} {n f : Nat} {ord cs qs : List Nat} {a : Act} {w : World}
theorem tabS_of {c:Option Code} {id:Nat} (h:c.bind (opsAt id)=some ops) (T:(c.bind (opsAt id)).all (fun o=>tableS o n ord cs qs f)=true):TabS ops n ord cs qs f:=by
 rw [h] at T;exact ⟨by simpa using T⟩
theorem TabS.o (T:TabS ops n ord cs qs f):TabO ops n ord cs:=by
 have:=T.out
 simp only [tableS,Bool.and_eq_true] at this
 exact ⟨this.1⟩
theorem TabS.closed (T:TabS ops n ord cs qs f) {p:Nat} (hp:p≤n):ClosedL .any ops (doneA n (ord.take p)):=by
 have h:=T.out
 simp only [tableS,Bool.and_eq_true,List.all_eq_true,List.mem_range] at h
 intro k i hk hi
 have hs:=(tabO_parts T.o).1
 have hkn:k < n:=by
  by_cases hkn:k < n
  ·exact hkn
  ·unfold waits at hi
   rw [Array.getElem?_eq_none (by omega)] at hi
   cases hi
 have:=h.2.1 p (by omega) k hkn
 rw [hk] at this
 simp only [Bool.not_true,Bool.false_or,List.all_eq_true] at this
 exact this i hi
theorem TabS.parts (T:TabS ops n ord cs qs f) {q:Nat} (hq:q ∈ qs):Parts .any ops (ord.take q):=by
 have h:=T.out
 simp only [tableS,Bool.and_eq_true,List.all_eq_true,List.mem_range] at h
 intro j hj hn i hi
 have hs:=(tabO_parts T.o).1
 obtain ⟨o,ho⟩:=hj
 have hjn:j < n:=by rw [← hs];exact (Array.getElem?_eq_some_iff.1 ho).1
 have:=h.2.2 q hq j hjn
 simp only [Bool.or_eq_true,List.contains_iff_mem,List.all_eq_true] at this
 rcases this with h | h
 ·exact absurd h hn
 ·exact anc_of f i (h i hi)
theorem wpS_begin {id:Nat} (q:Nat) (T:TabS ops n ord cs qs f) (hm:P.follows .mixedOrders=true) (hS:S w.drew) (h:TabS ops n ord cs qs f→S w.drew→wpPh P ops Q S n ord q 0 a w.drew):Code.wp P (.region id ops true) Q a w:=by
 refine wp_region_any hm ?_
 have h1:=(tabO_parts T.o).1
 have:=wpAny_of_phase _ _ _ _ (h T hS)
 subst h1
 exact this
/-- The operation at place p is taken; it is wanted. -/
theorem tks0 (p i d:Nat) {q:Nat} {oi:Oper} (v:Value) (T:TabS ops n ord cs qs f) (hy:∀ w,S w→(execOp a.eval oi).run P w=.ok (.value v) w) (hS:S w) (h:wpPh P ops Q S n ord q (p+1) (setT a d v) w)
  (hp:(ord.take q)[p]?=some i) (hc:¬ p ∈ cs) (hq:q ∈ qs) (hi:ops[i]?=some oi)
  (hg:(oi.dst == some d && Region.wanted oi (yielded ops a.tmps))=true) (hQ:∀ c a w,Q (.panic c) (a.put (some d) v) w→Q (.panic c) a w):wpPh P ops Q S n ord q p a w:=by
 obtain ⟨h1,h2,h3,h4,h5,h6⟩:=tabO_parts T.o
 have hp':ord[p]?=some i:=by
  rw [List.getElem?_take] at hp
  split at hp
  ·exact hp
  ·cases hp
 have hlt:p < n:=by have:=(List.getElem?_eq_some_iff.1 hp').1;omega
 simp only [Bool.and_eq_true,beq_iff_eq] at hg
 rw [← put_setT] at h
 unfold wpPh at h ⊢
 rw [show n - p=(n - (p+1))+1 by omega]
 rw [← doneA_step hp'] at h
 exact wpAnyS_first hi (List.mem_of_getElem? hp) (T.parts hq) (Region.noSelect_spec h3) (by rw [hg.1];exact hQ) _ _ _ _ (T.closed (by omega)) (Region.free_spec hi (h4 p i hp' hc).1) (by simpa using (h4 p i hp' hc).2) (Or.inl ⟨hg.2,hy⟩) hS (by rw [hg.1];exact h)
/-- The operation at place p comes up alone. -/
theorem cls (p i:Nat) {q:Nat} {oi:Oper} (T:TabS ops n ord cs qs f) (hc:p ∈ cs) (hp:(ord.take q)[p]?=some i) (hi:ops[i]?=some oi)
  (h:∀ K:Act→World→Prop,Shut (∀ a w,S w→(S w→wpPh P ops Q S n ord q (p+1) a w)→K a w)→if Region.wanted oi (yielded ops a.tmps)=true then Oper.wp P oi a w K Q else K (a.put oi.dst undef) w):wpPh P ops Q S n ord q p a w:=by
 obtain ⟨h1,h2,h3,h4,h5,h6⟩:=tabO_parts T.o
 have hp':ord[p]?=some i:=by
  rw [List.getElem?_take] at hp
  split at hp
  ·exact hp
  ·cases hp
 have hlt:=(h6 p i hc hp').1
 have hr:=(h6 p i hc hp').2
 have hun:(doneA n (ord.take p)).getD i true=false:=(mem_ready.1 (show i ∈ Region.ready .any ops (doneA n (ord.take p)) by rw [hr];simp)).1
 have hl:left (ord.take q) (doneA n (ord.take p))=true:=left_mem (List.mem_of_getElem? hp) hun
 unfold wpPh
 rw [show n - p=(n - (p+1))+1 by omega]
 refine ⟨fun h=>absurd hl (by rw [h];simp),fun _=>⟨fun h=>absurd hr (by rw [h];simp),fun j hj=>?_⟩⟩
 rw [hr] at hj
 obtain rfl:j=i:=by simpa using hj
 exact wpOp_step hi (fun K hK=>h K (fun a w hS hW=>hK a w ⟨hS,by rw [doneA_step hp'];exact hW hS⟩))
/-- A phase is over, the next one begins. -/
theorem wpS_next {S':World→Prop} (q q':Nat) (T:TabS ops n ord cs qs f) (hl:left (ord.take q) (doneA n (ord.take q))=false) (hS:S' w) (h:S' w→wpPh P ops Q S' n ord q' q a w):wpPh P ops Q S n ord q q a w:=by
 have h:=wpAny_of_phase _ _ _ _ (h hS)
 unfold wpPh
 revert h
 generalize n - q=m
 intro h
 cases m with
 | zero=>exact h
 | succ m=>exact ⟨fun _=>h,fun hh=>absurd hh (by rw [hl];simp)⟩
theorem wpS_end {q:Nat} (T:TabS ops n ord cs qs f) (h:Q .normal a w):wpPh P ops Q S n ord q n a w:=by
 obtain ⟨h1,h2,h3,h4,h5,h6⟩:=tabO_parts T.o
 unfold wpPh
 rw [Nat.sub_self]
 exact ⟨h5,h⟩
end

/-- 'tks0', what it yields and the state behind it found by themselves. -/
theorem tks {P:Program} {ops:Array Oper} {Q:Exit→Act→World→Prop} {S:World→Prop} {n f q:Nat} {ord cs qs:List Nat} {a a':Act} {w:World} (p i d:Nat) {oi:Oper} {v:Value} (T:TabS ops n ord cs qs f) (hS:S w) (h:wpPh P ops Q S n ord q (p+1) a' w)
  (hp:(ord.take q)[p]?=some i:=by rfl) (hc:¬ p ∈ cs:=by decide) (hq:q ∈ qs:=by decide)
  (hi:ops[i]?=some oi:=by rfl)
  (hg:(oi.dst == some d && Region.wanted oi (yielded ops a.tmps))=true:=by kernel_rfl)
  (hy:∀ w,S w→(execOp a.eval oi).run P w=.ok (.value v) w:=by (intro w s;(try dsimp only at s);go_simp <;> with_reducible rfl))
  (ha:setT a d v=a':=by (conv=>lhs;dsimp only [setT,List.toList_toArray,put0,putS]))
  (hQ:∀ c a w,Q (.panic c) (a.put (some d) v) w→Q (.panic c) a w:=by exact fun _ _ _ h=>h):wpPh P ops Q S n ord q p a w :=
 tks0 p i d v T hy hS (by rw [ha];exact h) hp hc hq hi hg hQ

end Go.Proofs.YtnlhkgoppjejeaaDoor
