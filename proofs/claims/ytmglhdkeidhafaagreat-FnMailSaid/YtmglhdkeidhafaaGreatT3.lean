/- The proof's texts, part 3. -/
import Derived.Test.YtmglhdkeidhafaaGreatT0
import Derived.WalkKit
import Derived.Deep.RegionHeld3
import Derived.Deep.MidRow
namespace Go.Proofs.YtmglhdkeidhafaaGreat
set_option linter.unusedVariables false
/- Names, texts and commands as plain lists and numbers: no program is named here. -/
theorem aP {a b:Bool} (h:b=a):Ending.returned (.bool a)=.returned (.bool b):=by rw [h]
/-- Every number of the list lies between two. -/
def allIn (lo hi:Int) (l:List Int):Bool:=l.all fun x=>decide (lo≤x) && decide (x≤hi)
/-- A name: one to six small letters. -/
def bG (l:List Int):Bool:=decide (1≤l.length) && (decide (l.length≤6) && allIn 97 122 l)
/-- A text: at most thirty bytes that can be seen. -/
def dU (l:List Int):Bool:=decide (l.length≤30) && allIn 32 126 l
/-- A number lies between two. -/
def aM (n lo hi:Int):Bool:=decide (lo≤n) && decide (n≤hi)
theorem MS {lo hi:Int} {l:List Int} (h:∀ j,j < l.length→lo≤l.getD j 0∧l.getD j 0≤hi):allIn lo hi l=true:=by
 unfold allIn
 rw [List.all_eq_true]
 intro x hx
 obtain ⟨j,hj,rfl⟩:=List.getElem_of_mem hx
 have:=h j hj
 simp [hj] at this
 simp [this]
theorem DK {lo hi:Int} {l:List Int} (j:Nat) (hj:j < l.length) (h:¬ (lo≤l.getD j 0∧l.getD j 0≤hi)):allIn lo hi l=false:=by
 cases e:allIn lo hi l with
 | false=>rfl
 | true =>
  exfalso
  unfold allIn at e
  rw [List.all_eq_true] at e
  have:=e _ (List.getElem_mem hj)
  simp [hj] at h
  simp at this
  omega
theorem kG {k:IntKind} {a b:Int} (h:a=b):Ending.returned (.int k a)=.returned (.int k b):=by rw [h]
/-- The place of the first that fits; -1 where there is none. -/
def bC {α:Type} (p:α→Bool) (l:List α):Int:=match l.findIdx? p with | some i=>i | none=>-1
theorem U0 {p:Int→Bool} {l:List Int} {k:Nat} (hk:k < l.length) (h:p (l.getD k 0)=true) (hA:∀ j,j < k→p (l.getD j 0)=false):bC p l=k:=by
 have:l.findIdx? p=some k:=by
  rw [List.findIdx?_eq_some_iff_getElem]
  refine ⟨hk,by simpa [hk] using h,fun j hj=>?_⟩
  have:=hA j hj
  simp [show j < l.length by omega] at this
  simp [this]
 simp [bC,this]
theorem U1 {p:Int→Bool} {l:List Int} (hA:∀ j,j < l.length→p (l.getD j 0)=false):bC p l = -1:=by
 have:l.findIdx? p=none:=by
  rw [List.findIdx?_eq_none_iff]
  intro x hx
  obtain ⟨j,hj,rfl⟩:=List.getElem_of_mem hx
  have:=hA j hj
  simpa [hj] using this
 simp [bC,this]
theorem yO {α:Type} (p:α→Bool) (l:List α):l.any p=decide (0≤bC p l):=by
 unfold bC
 cases h:l.findIdx? p with
 | none =>
  rw [List.findIdx?_eq_none_iff] at h
  simp only [show ¬ (0:Int)≤-1 by omega,decide_false]
  rw [List.any_eq_false]
  intro x hx
  simp [h x hx]
 | some i =>
  rw [List.findIdx?_eq_some_iff_getElem] at h
  obtain ⟨hi,hp,-⟩:=h
  simp only [show (0:Int)≤(i:Int) by omega,decide_true]
  rw [List.any_eq_true]
  exact ⟨_,List.getElem_mem hi,hp⟩
/-- Which kinds have a second name, a number of a dV, flags and how, a number of a change, a text. -/
def toB (k:Int):Bool:=decide (k=6)
def uX (k:Int):Bool:=decide (k=3) || (decide (k=5) || decide (k=6))
def uY (k:Int):Bool:=decide (k=2) || (decide (k=3) || decide (k=6))
def uZ (k:Int):Bool:=decide (k=3) || decide (k=8)
def u6 (k:Int):Bool:=decide (k=2)
/-- A command that may be. -/
def dK (k:Int) (bx tt:List Int) (uid mode fl si:Int) (tx:List Int):Bool :=
 decide (0≤k∧k≤9) && (if k=9 then decide (bx.length=0) else bG bx) && (if k=6 then bG tt else decide (tt.length=0)) &&
 (if k=3∨k=5∨k=6 then aM uid 1 1000000 else decide (uid=0)) && aM mode 0 (if k=3 then 2 else if k=6 then 1 else 0) &&
 aM fl 0 (if k=2∨k=3 then 31 else 0) && aM si 0 (if k=3∨k=8 then 1000000 else 0) && (if k=2 then dU tx else decide (tx.length=0))
theorem U2 {l:List Int} (h:bG l=true):1≤l.length∧l.length≤6:=by unfold bG at h;simp at h;exact ⟨h.1,h.2.1⟩
theorem vg {l:List Int} (h:l.length=0):dU l=true:=by
 have:l=[]:=List.eq_nil_of_length_eq_zero h
 subst this;rfl
theorem lD {l:List Int} (h:l.length=0):bG l=false:=by
 have:l=[]:=List.eq_nil_of_length_eq_zero h
 subst this;rfl
/- In a region that draws its order: operations whose guards are not met are passed by together. -/
/-- These operations may come up one behind the other, and none is wanted; ds: the slots that they would fill. -/
def Am (md:Region.Mode) (ops:Array Oper):List Nat→List Nat→Array Bool→Array Value→Bool
 | [],[],_,_=>true
 | i :: is,d :: ds,l,tm=>match ops[i]? with
  | some o=>(o.dst == some d) && (Region.free md ops l i && ((Region.ready md ops l).contains i && (!(Region.wanted o (yielded ops tm)) && Am md ops is ds (l.setIfInBounds i true) (tm.setIfInBounds d undef))))
  | none=>false
 | _,_,_,_=>false
theorem Ao {P:Program} {md:Region.Mode} {ops:Array Oper} {Q:Exit→Act→World→Prop} {S:World→Prop} {w:World} (hs:Region.noSelect ops=true)
  (hQ:∀ (d:Nat) v c a w,Q (.panic c) (a.put (some d) v) w→Q (.panic c) a w) (hS:S w) :
  ∀ (is ds:List Nat) (l:Array Bool) (a:Act) (fuel:Nat),Am md ops is ds l a.tmps=true →
   wpAnyH P md ops Q S fuel (is.foldl (fun l i=>l.setIfInBounds i true) l) (ds.foldl (fun a d=>a.put (some d) undef) a) w→wpAnyH P md ops Q S (fuel+is.length) l a w
 | [],[],_,_,_,_,h=>h
 | [],_ :: _,_,_,_,hk,_=>by simp [Am] at hk
 | _ :: _,[],_,_,_,hk,_=>by simp [Am] at hk
 | i :: is,d :: ds,l,a,fuel,hk,h=>by
  unfold Am at hk
  split at hk
  ·rename_i o ho
   simp only [Bool.and_eq_true,beq_iff_eq,Bool.not_eq_true'] at hk
   obtain ⟨h1,h2,h3,h4,h5⟩:=hk
   refine wpAnyH_take (fuel:=fuel+is.length) (i:=i) (oi:=o) (v:=undef) ho hs h2 h3 (fun c a w=>by rw [h1];exact hQ d _ c a w) (Or.inr ⟨h4,rfl⟩) hS ?_
   rw [h1]
   exact Ao hs hQ hS is ds _ _ fuel (by simpa [Act.put] using h5) h
  ·cases hk
/-- One operation is taken first; the slot that it fills is named. -/
theorem U3 {P:Program} {md:Region.Mode} {ops:Array Oper} {Q:Exit→Act→World→Prop} {S:World→Prop} {i:Nat} (d:Nat) {oi:Oper} {v:Value} {fuel:Nat} {listed:Array Bool} {a:Act} {w:World} (hi:ops[i]?=some oi)
  (hd:oi.dst=some d) (hs:Region.noSelect ops=true) (hf:Region.free md ops listed i=true) (hr:(Region.ready md ops listed).contains i=true)
  (hQ:∀ c a w,Q (.panic c) (a.put (some d) v) w→Q (.panic c) a w) (hy:YieldsIf P ops S oi v a) (hS:S w)
  (h:wpAnyH P md ops Q S fuel (listed.setIfInBounds i true) (a.put (some d) v) w):wpAnyH P md ops Q S (fuel+1) listed a w :=
 wpAnyH_take hi hs hf hr (by rw [hd];exact hQ) hy hS (by rw [hd];exact h)
/-- The same, its side conditions in one Bool; short, for it is written often. -/
theorem tk {P:Program} {md:Region.Mode} {ops:Array Oper} {Q:Exit→Act→World→Prop} {S:World→Prop} (i d:Nat) {oi:Oper} (v:Value) {fuel:Nat} {listed:Array Bool} {a:Act} {w:World}
  (hy:∀ w,S w→(execOp a.eval oi).run P w=.ok (.value v) w) (hS:S w) (h:wpAnyH P md ops Q S fuel (listed.setIfInBounds i true) (a.put (some d) v) w)
  (hi:ops[i]?=some oi:=by rfl)
  (hc:(Region.noSelect ops && (Region.free md ops listed i && (Region.ready md ops listed).contains i))=true:=by decide +kernel)
  (hg:(oi.dst == some d && Region.wanted oi (yielded ops a.tmps))=true:=by kernel_rfl)
  (hQ:∀ c a w,Q (.panic c) (a.put (some d) v) w→Q (.panic c) a w:=by exact fun _ _ _ h=>h):wpAnyH P md ops Q S (fuel+1) listed a w:=by
 simp only [Bool.and_eq_true,beq_iff_eq] at hc hg
 obtain ⟨h2,h3,h4⟩:=hc
 obtain ⟨h1,h5⟩:=hg
 exact U3 d hi h1 h2 h3 h4 hQ (Or.inl ⟨h5,hy⟩) hS h
theorem sA {α:Type} (l:List α) (i:Nat) (a:α):l.toArray.setIfInBounds i a=(l.set i a).toArray:=by simp
theorem s0 {α:Type} (x:α) (l:List α) (a:α):(x :: l).set 0 a=a :: l:=rfl
theorem sS {α:Type} (x:α) (l:List α) (i:Nat) (a:α):(x :: l).set (i+1) a=x :: l.set i a:=rfl
/-- The same, what it yields and the state behind it found by themselves. -/
theorem tq {P:Program} {md:Region.Mode} {ops:Array Oper} {Q:Exit→Act→World→Prop} {S:World→Prop} (i d:Nat) {oi:Oper} {v:Value} {fuel:Nat} {listed:Array Bool} {a a':Act} {w:World}
  (hS:S w) (h:wpAnyH P md ops Q S fuel (listed.setIfInBounds i true) a' w)
  (hi:ops[i]?=some oi:=by rfl)
  (hc:(Region.noSelect ops && (Region.free md ops listed i && (Region.ready md ops listed).contains i))=true:=by decide +kernel)
  (hg:(oi.dst == some d && Region.wanted oi (yielded ops a.tmps))=true:=by kernel_rfl)
  (hy:∀ w,S w→(execOp a.eval oi).run P w=.ok (.value v) w:=by (intro w s;(try dsimp only at s);go_simp <;> with_reducible rfl))
  (ha:a.put (some d) v=a':=by (conv=>lhs;simp only [Act.put,sA,s0,sS]))
  (hQ:∀ c a w,Q (.panic c) (a.put (some d) v) w→Q (.panic c) a w:=by exact fun _ _ _ h=>h):wpAnyH P md ops Q S (fuel+1) listed a w :=
 tk i d v hy hS (by rw [ha];exact h) hi hc hg hQ
/- Ap that draw their order, walked in the text's order: what each operation asks of the others is reckoned once for a region, in a table. -/
/-- The operations of the region with this number. -/
def bR (id:Nat):Code→Option (Array Oper)
 | .region i ops _=>if i == id then some ops else none
 | .seq a b=>(bR id a).or (bR id b)
 | .cond _ a b=>(bR id a).or (bR id b)
 | .block _ a=>bR id a
 | .loop a=>bR id a
 | _=>none
/-- The first i of n are listed. -/
def upto (n i:Nat):Array Bool:=(List.replicate i true ++ List.replicate (n - i) false).toArray
theorem U4 (n:Nat):upto n 0=Array.replicate n false:=by simp [upto]
theorem MU {n i:Nat} (h:i < n):(upto n i).setIfInBounds i true=upto n (i+1):=by
 have e:n - i=(n - (i+1))+1:=by omega
 unfold upto
 rw [List.setIfInBounds_toArray]
 congr 1
 rw [List.set_append_right _ _ (by simp),List.length_replicate,Nat.sub_self,e,List.replicate_succ,List.set_cons_zero,List.replicate_succ',List.append_assoc]
 rfl
def MV (ops:Array Oper) (n i:Nat):Bool:=Region.free .any ops (upto n i) i && (Region.ready .any ops (upto n i)).contains i
/-- cs: the operations that come up alone. -/
def table (ops:Array Oper) (n:Nat) (cs:List Nat):Bool:=(ops.size == n) && (Region.noSelect ops && ((List.range n).all (MV ops n) && ((Region.ready .any ops (upto n n)).isEmpty && cs.all fun i=>(Nat.blt i n) && (Region.ready .any ops (upto n i) == [i]))))
/-- The table's word, in a wrapping that no walk looks into. -/
structure Tab (ops:Array Oper) (n:Nat) (cs:List Nat):Prop where
 out:table ops n cs=true
/-- What is left of the region when the first i operations are done. -/
def jH (P:Program) (ops:Array Oper) (Q:Exit→Act→World→Prop) (S:World→Prop) (n i:Nat) (a:Act) (w:World):Prop:=wpAnyH P .any ops Q S (n - i) (upto n i) a w
/-- Slot d filled: what 'put' does, in a form that computes by itself. -/
def iR (a:Act) (d:Nat) (v:Value):Act:={ a with tmps:=(a.tmps.toList.set d v).toArray }
theorem DL (a:Act) (d:Nat) (v:Value):a.put (some d) v=iR a d v:=by
 unfold Act.put iR
 simp only
 congr 1
 exact Array.ext' (by simp)
section
variable {P : Program} {ops : Array Oper} {Q : Exit → Act → World → Prop} {S : World → Prop} {n : Nat} {cs : List Nat} {a : Act} {w : World}
theorem GR {c:Option Code} {id:Nat} (h:c.bind (bR id)=some ops) (T:(c.bind (bR id)).all (fun o=>table o n cs)=true):Tab ops n cs:=by
 rw [h] at T;exact ⟨by simpa using T⟩
theorem Aq (T':Tab ops n cs):ops.size=n∧Region.noSelect ops=true∧(∀ i,i < n→Region.free .any ops (upto n i) i=true∧(Region.ready .any ops (upto n i)).contains i=true)∧Region.ready .any ops (upto n n)=[]∧∀ i,i ∈ cs→i < n∧Region.ready .any ops (upto n i)=[i]:=by
 have T:=T'.out
 simp only [table,Bool.and_eq_true,beq_iff_eq,List.all_eq_true,List.mem_range,MV,List.isEmpty_iff,Nat.blt_eq] at T
 exact ⟨T.1,T.2.1,fun i hi=>T.2.2.1 i hi,T.2.2.2.1,fun i hi=>T.2.2.2.2 i hi⟩
theorem GU {id:Nat} (T:Tab ops n cs) (hm:P.follows .mixedOrders=true) (hS:S w.drew) (h:Tab ops n cs→S w.drew→jH P ops Q S n 0 a w.drew):Code.wp P (.region id ops true) Q a w:=by
 refine wp_region_held_drew (S:=S) hm hS fun hs=>?_
 obtain ⟨h1,-⟩:=Aq T
 subst h1
 rw [← U4]
 exact h T hs
/-- Operation i is a call: it comes up alone. -/
theorem U5 (i:Nat) (T:Tab ops n cs) (hi:i ∈ cs) (h:AllReadyH P .any ops Q S (n - (i+1)) (upto n i) a w [i]):jH P ops Q S n i a w:=by
 obtain ⟨h1,h2,h3,h4,h5⟩:=Aq T
 have hlt:=(h5 i hi).1
 unfold jH
 rw [show n - i=(n - (i+1))+1 by omega]
 exact wpAnyH_ready (h5 i hi).2 (by simp) h
theorem U6 {i f:Nat} {l:Array Bool} (hlt:i < n) (hf:f=n - (i+1)) (hl:l=(upto n i).setIfInBounds i true) (h:jH P ops Q S n (i+1) a w):wpAnyH P .any ops Q S f l a w:=by
 subst hf hl
 rw [MU hlt]
 exact h
theorem GV (T:Tab ops n cs) (h:Q .normal a w):jH P ops Q S n n a w:=by
 obtain ⟨h1,h2,h3,h4,h5⟩:=Aq T
 exact wpAnyH_done h4 h _
end
theorem tF {α:Type} (x:α) (l:List α) (a:α):(x :: l).set 0 a=a :: l:=rfl
theorem tH {α:Type} (x:α) (l:List α) (i:Nat) (a:α):(x :: l).set (i+1) a=x :: l.set i a:=rfl
/- Ap that draw their order, walked in a given order: what each operation asks of the others is reckoned once for a region, in a table. -/
/-- Which operations are done when the first p of the order are. -/
def dQ (n:Nat) (l:List Nat):Array Bool:=l.foldl (fun a i=>a.setIfInBounds i true) (Array.replicate n false)
theorem Ar {n p i:Nat} {ord:List Nat} (h:ord[p]?=some i):(dQ n (ord.take p)).setIfInBounds i true=dQ n (ord.take (p+1)):=by
 have hp:p < ord.length:=(gs1 h).1
 rw [List.take_succ_eq_append_getElem hp,(gs1 h).2]
 unfold dQ
 rw [List.foldl_append]
 rfl
/-- cs: the places of those that come up alone. -/
def GX (ops:Array Oper) (n:Nat) (ord cs:List Nat):Bool :=
 (ops.size == n) && ((ord.length == n) && (Region.noSelect ops && ((List.range n).all (fun p=>match ord[p]? with
  | some i=>cs.contains p || (Region.free .any ops (dQ n (ord.take p)) i && (Region.ready .any ops (dQ n (ord.take p))).contains i)
  | none=>false) && ((Region.ready .any ops (dQ n (ord.take n))).isEmpty && cs.all fun p=>match ord[p]? with
  | some i=>Nat.blt p n && (Region.ready .any ops (dQ n (ord.take p)) == [i])
  | none=>false))))
/-- The table's word, in a wrapping that no walk looks into. -/
structure MW (ops:Array Oper) (n:Nat) (ord cs:List Nat):Prop where
 out:GX ops n ord cs=true
section
variable {P : Program} {ops : Array Oper} {Q : Exit → Act → World → Prop} {S : World → Prop} {n : Nat} {ord cs : List Nat} {a : Act} {w : World}
theorem wV (T':MW ops n ord cs):ops.size=n∧ord.length=n∧Region.noSelect ops=true∧(∀ p i,ord[p]?=some i→¬ p ∈ cs→Region.free .any ops (dQ n (ord.take p)) i=true∧(Region.ready .any ops (dQ n (ord.take p))).contains i=true)∧Region.ready .any ops (dQ n (ord.take n))=[] ∧
  ∀ p i,p ∈ cs→ord[p]?=some i→p < n∧Region.ready .any ops (dQ n (ord.take p))=[i]:=by
 have T:=T'.out
 simp only [GX,Bool.and_eq_true,beq_iff_eq,List.all_eq_true,List.mem_range,List.isEmpty_iff] at T
 obtain ⟨h1,h2,h3,h4,h5,h6⟩:=T
 refine ⟨h1,h2,h3,fun p i hp hc=>?_,h5,fun p i hc hp=>?_⟩
 ·have hlt:p < n:=by have:=(gs1 hp).1;omega
  have:=h4 p hlt
  rw [hp] at this
  simp only [Bool.or_eq_true,Bool.and_eq_true,List.contains_iff_mem] at this
  rcases this with h | h
  ·exact absurd h hc
  ·exact ⟨h.1,by simpa using h.2⟩
 ·have:=h6 p hc
  rw [hp] at this
  simp only [Bool.and_eq_true,beq_iff_eq,Nat.blt_eq] at this
  exact this
end
/- Ap that draw their order, walked in phases: each phase has a condition on the world of its own; a phase is closed when all that comes behind it waits for it. -/
/-- Is one of the operations A still to come? -/
def left (A:List Nat) (L:Array Bool):Bool:=A.any fun i=>!(L.getD i true)
theorem Au {A:List Nat} {L:Array Bool} {i:Nat} (h:i ∈ A) (h':L.getD i true=false):left A L=true:=by
 unfold left
 rw [List.any_eq_true]
 exact ⟨i,h,by rw [h'];rfl⟩
theorem U7 {A:List Nat} {L:Array Bool} (h:∀ i,i ∈ A→L.getD i false=true):left A L=false:=by
 unfold left
 rw [List.any_eq_false]
 intro i hi
 have:=h i hi
 by_cases hs:i < L.size
 ·simp [hs] at this ⊢;exact this
 ·simp [Array.getElem?_eq_none (Nat.le_of_not_lt hs)] at this
/-- What an operation waits for. -/
def waits (md:Region.Mode) (ops:Array Oper) (j:Nat):List Nat:=match ops[j]? with
 | some o=>(o.after.toList.filter (Region.binds md)).map (·.on)
 | none=>[]
inductive rC (md:Region.Mode) (ops:Array Oper):Nat→Nat→Prop
 | one {j i:Nat}:i ∈ waits md ops j→rC md ops j i
 | more {j k i:Nat}:k ∈ waits md ops j→rC md ops k i→rC md ops j i
theorem rC.then {md:Region.Mode} {ops:Array Oper} {j k i:Nat} (h:rC md ops j k) (hi:i ∈ waits md ops k):rC md ops j i:=by
 induction h with
 | one h=>exact .more h (.one hi)
 | more h _ ih=>exact .more h (ih hi)
def vk (md:Region.Mode) (ops:Array Oper) (L:Array Bool):Prop:=∀ k i,L.getD k false=true→i ∈ waits md ops k→L.getD i false=true
theorem U8 {md:Region.Mode} {ops:Array Oper} {L:Array Bool} {k i:Nat} (hc:vk md ops L) (hk:L.getD k false=true) (h:rC md ops k i):L.getD i false=true:=by
 induction h with
 | one h=>exact hc _ _ hk h
 | more h _ ih=>exact ih (hc _ _ hk h)
theorem GY {md:Region.Mode} {ops:Array Oper} {L:Array Bool} {j i:Nat} (hj:j ∈ Region.ready md ops L) (h:i ∈ waits md ops j):L.getD i false=true:=by
 obtain ⟨-,o,ho,hall⟩:=mem_ready.1 hj
 unfold waits at h
 rw [ho] at h
 simp only [List.mem_map,List.mem_filter] at h
 obtain ⟨e,⟨he,hb⟩,rfl⟩:=h
 exact hall e (by simpa using he) hb
theorem U9 {md:Region.Mode} {ops:Array Oper} {L:Array Bool} {j i:Nat} (hc:vk md ops L) (hj:j ∈ Region.ready md ops L) (h:rC md ops j i):L.getD i false=true:=by
 cases h with
 | one h=>exact GY hj h
 | more h h'=>exact U8 hc (GY hj h) h'
theorem Va {md:Region.Mode} {ops:Array Oper} {L:Array Bool} {j:Nat} (hc:vk md ops L) (hj:j ∈ Region.ready md ops L):vk md ops (L.setIfInBounds j true):=by
 intro k i hk hi
 by_cases hjk:j=k
 ·subst hjk;exact getD_set_true (GY hj hi)
 ·rw [getD_set_ne false hjk] at hk
  exact getD_set_true (hc k i hk hi)
/-- The operations that come ahead of one, gathered. -/
def GZ (l:List Nat) (i:Nat):List Nat:=if l.contains i then l else i :: l
theorem Vb {xs l:List Nat} {i:Nat} (h:i ∈ xs.foldl GZ l):i ∈ l∨i ∈ xs:=by
 induction xs generalizing l with
 | nil=>exact .inl h
 | cons x xs ih =>
  rcases ih h with h | h
  ·unfold GZ at h
   split at h
   ·exact .inl h
   ·rcases List.mem_cons.1 h with rfl | h
    ·exact .inr (List.mem_cons_self ..)
    ·exact .inl h
  ·exact .inr (List.mem_cons_of_mem _ h)
def Av (md:Region.Mode) (ops:Array Oper) (j:Nat):Nat→List Nat
 | 0=>waits md ops j
 | f+1=>((Av md ops j f).flatMap (waits md ops)).foldl GZ (Av md ops j f)
theorem DN {md:Region.Mode} {ops:Array Oper} {j:Nat}:∀ (f i:Nat),i ∈ Av md ops j f→rC md ops j i
 | 0,i,h=>.one h
 | f+1,i,h=>by
  rcases Vb h with h | h
  ·exact DN f i h
  ·rw [List.mem_flatMap] at h
   obtain ⟨k,hk,hi⟩:=h
   exact (DN f k hk).then hi
section
variable {P : Program} {md : Region.Mode} {ops : Array Oper} {Q : Exit → Act → World → Prop} {S : World → Prop} {A : List Nat}
/-- Whatever order is picked: while one of A is still to come S holds behind each operation; then the rest goes in whatever order. -/
def wpAnyS (P:Program) (md:Region.Mode) (ops:Array Oper) (Q:Exit→Act→World→Prop) (S:World→Prop) (A:List Nat):Nat→Array Bool→Act→World→Prop
 | 0,L,a,w=>Region.ready md ops L=[]∧Q .normal a w
 | n+1,L,a,w=>(left A L=false→wpAny P md ops Q (n+1) L a w)∧(left A L=true→(Region.ready md ops L=[]→Q .normal a w) ∧
  ∀ i ∈ Region.ready md ops L,wpOp P ops Q i (fun a' w'=>S w'∧wpAnyS P md ops Q S A n (L.setIfInBounds i true) a' w') a w)
theorem Aw:∀ (n:Nat) (L:Array Bool) (a:Act) (w:World),wpAnyS P md ops Q S A n L a w→wpAny P md ops Q n L a w
 | 0,_,_,_,h=>h
 | n+1,L,a,w,h=>by
  cases hl:left A L with
  | false=>exact h.1 hl
  | true=>exact ⟨(h.2 hl).1,fun i hi=>wpOp_mono (fun a' w' q=>Aw n _ a' w' q.2) ((h.2 hl).2 i hi)⟩
/-- All that is not of A waits for all of A. -/
def Parts (md:Region.Mode) (ops:Array Oper) (A:List Nat):Prop:=∀ j,(∃ o,ops[j]?=some o)→j ∉ A→∀ i,i ∈ A→rC md ops j i
theorem Vd {L:Array Bool} {j:Nat} (hA:Parts md ops A) (hc:vk md ops L) (hj:j ∈ Region.ready md ops L) (hn:j ∉ A):left A L=false:=by
 obtain ⟨-,o,ho,-⟩:=mem_ready.1 hj
 exact U7 fun i hi=>U9 hc hj (hA j ⟨o,ho⟩ hn i hi)
theorem wpAnyS_first {i:Nat} {oi:Oper} {v:Value} (hi:ops[i]?=some oi) (hR:i ∈ A) (hA:Parts md ops A) (hsel:∀ (j:Nat) (o:Oper) cs b,ops[j]?=some o→o.op≠.select cs b) (hQ:∀ c a w,Q (.panic c) (a.put oi.dst v) w→Q (.panic c) a w)
  (n:Nat):∀ (L:Array Bool) (a:Act) (w:World),vk md ops L →
   (∀ j oj,ops[j]?=some oj→j≠i→L.getD j true=false→(∀ e ∈ oj.after,Region.binds md e=true→e.on≠i)→oi.apart ops oj=true) →
   i ∈ Region.ready md ops L→YieldsIf P ops S oi v a→S w→wpAnyS P md ops Q S A n (L.setIfInBounds i true) (a.put oi.dst v) w→wpAnyS P md ops Q S A (n+1) L a w:=by
 induction n with
 | zero =>
  intro L a w hc _ hr hy hS H
  have hl:left A L=true:=Au hR (mem_ready.1 hr).1
  refine ⟨fun h=>absurd hl (by rw [h];simp),fun _=>⟨fun h=>absurd hr (by rw [h];simp),fun j hj=>?_⟩⟩
  by_cases hji:j=i
  ·subst hji;exact hy.wpOp hi hS ⟨hS,H⟩
  ·exact absurd (ready_mono hj hji) (by rw [H.1];simp)
 | succ n ih =>
  intro L a w hc hfree hr hy hS H
  have hl:left A L=true:=Au hR (mem_ready.1 hr).1
  refine ⟨fun h=>absurd hl (by rw [h];simp),fun _=>⟨fun h=>absurd hr (by rw [h];simp),fun j hj=>?_⟩⟩
  by_cases hji:j=i
  ·subst hji;exact hy.wpOp hi hS ⟨hS,H⟩
  obtain ⟨hjun,oj,hoj,hall⟩:=mem_ready.1 hj
  have Ve:j ∈ A:=by
   by_cases h:j ∈ A
   ·exact h
   ·exact absurd hl (by rw [Vd hA hc hj h];simp)
  have hil:=(mem_ready.1 hr).1
  have hnot:∀ e ∈ oj.after,Region.binds md e=true→e.on≠i:=by
   intro e he hb heq
   have q:=hall e he hb
   rw [heq] at q
   by_cases hs:i < L.size
   ·simp [hs] at hil q;rw [hil] at q;cases q
   ·simp [Array.getElem?_eq_none (Nat.le_of_not_lt hs)] at q
  have hl':left A (L.setIfInBounds i true)=true:=Au Ve (by rw [getD_set_ne true (Ne.symm hji)];exact hjun)
  have step:=wpOp_putIf hoj (hfree j oj hoj hji hjun hnot) (fun cs b=>hsel i oi cs b hi) (fun cs b=>hsel j oj cs b hoj) hQ hy ((H.2 hl').2 j (ready_mono hj hji))
  refine wpOp_mono (fun a' w' q=>?_) step
  obtain ⟨q1,q2,q3⟩:=q
  exact ⟨q2,ih (L.setIfInBounds j true) a' w' (Va hc hj) (fun k ok hk hki hun hno=>hfree k ok hk hki (by
    by_cases hjk:j=k
    ·subst hjk;exact hjun
    ·rwa [getD_set_ne true hjk] at hun) hno) (ready_mono hr (Ne.symm hji)) q1 q2 (by rw [Array.setIfInBounds_comm _ _ hji];exact q3)⟩
end
/-- The table of a region that is walked in phases: qs, how many operations of the order are done at the end of each; f, how far ahead it is looked. -/
def dW (ops:Array Oper) (n:Nat) (ord cs qs:List Nat) (f:Nat):Bool :=
 GX ops n ord cs && ((List.range (n+1)).all (fun p=>(List.range n).all fun k=>!((dQ n (ord.take p)).getD k false) || (waits .any ops k).all fun i=>(dQ n (ord.take p)).getD i false) &&
  qs.all fun q=>(List.range n).all fun j=>(ord.take q).contains j || (ord.take q).all fun i=>(Av .any ops j f).contains i)
structure lW (ops:Array Oper) (n:Nat) (ord cs qs:List Nat) (f:Nat):Prop where
 out:dW ops n ord cs qs f=true
/-- What is left of the region when the first p operations of the order are done, in the phase that ends at q. -/
def eF (P:Program) (ops:Array Oper) (Q:Exit→Act→World→Prop) (S:World→Prop) (n:Nat) (ord:List Nat) (q p:Nat) (a:Act) (w:World):Prop:=wpAnyS P .any ops Q S (ord.take q) (n - p) (dQ n (ord.take p)) a w
section
variable {P : Program} {ops : Array Oper} {Q : Exit → Act → World → Prop} {S : World → Prop} {n f : Nat} {ord cs qs : List Nat} {a : Act} {w : World}
theorem eH {c:Option Code} {id:Nat} (h:c.bind (bR id)=some ops) (T:(c.bind (bR id)).all (fun o=>dW o n ord cs qs f)=true):lW ops n ord cs qs f:=by
 rw [h] at T;exact ⟨by simpa using T⟩
theorem lW.o (T:lW ops n ord cs qs f):MW ops n ord cs:=by
 have:=T.out
 simp only [dW,Bool.and_eq_true] at this
 exact ⟨this.1⟩
theorem lW.closed (T:lW ops n ord cs qs f) {p:Nat} (hp:p≤n):vk .any ops (dQ n (ord.take p)):=by
 have h:=T.out
 simp only [dW,Bool.and_eq_true,List.all_eq_true,List.mem_range] at h
 intro k i hk hi
 have hs:=(wV T.o).1
 have hkn:k < n:=by
  by_cases hkn:k < n
  ·exact hkn
  ·unfold waits at hi
   rw [Array.getElem?_eq_none (by omega)] at hi
   cases hi
 have:=h.2.1 p (by omega) k hkn
 rw [hk] at this
 simp only [Bool.not_true,Bool.false_or,List.all_eq_true] at this
 exact this i hi
theorem lW.parts (T:lW ops n ord cs qs f) {q:Nat} (hq:q ∈ qs):Parts .any ops (ord.take q):=by
 have h:=T.out
 simp only [dW,Bool.and_eq_true,List.all_eq_true,List.mem_range] at h
 intro j hj hn i hi
 have hs:=(wV T.o).1
 obtain ⟨o,ho⟩:=hj
 have hjn:j < n:=by rw [← hs];exact (Array.getElem?_eq_some_iff.1 ho).1
 have:=h.2.2 q hq j hjn
 simp only [Bool.or_eq_true,List.contains_iff_mem,List.all_eq_true] at this
 rcases this with h | h
 ·exact absurd h hn
 ·exact DN f i (h i hi)
theorem eO {id:Nat} (q:Nat) (T:lW ops n ord cs qs f) (hm:P.follows .mixedOrders=true) (hS:S w.drew) (h:lW ops n ord cs qs f→S w.drew→eF P ops Q S n ord q 0 a w.drew):Code.wp P (.region id ops true) Q a w:=by
 refine wp_region_any hm ?_
 have h1:=(wV T.o).1
 have:=Aw _ _ _ _ (h T hS)
 subst h1
 exact this
/-- The operation at place p is taken; it is wanted. -/
theorem Vf (p i d:Nat) {q:Nat} {oi:Oper} (v:Value) (T:lW ops n ord cs qs f) (hy:∀ w,S w→(execOp a.eval oi).run P w=.ok (.value v) w) (hS:S w) (h:eF P ops Q S n ord q (p+1) (iR a d v) w)
  (hp:(ord.take q)[p]?=some i) (hc:¬ p ∈ cs) (hq:q ∈ qs) (hi:ops[i]?=some oi)
  (hg:(oi.dst == some d && Region.wanted oi (yielded ops a.tmps))=true) (hQ:∀ c a w,Q (.panic c) (a.put (some d) v) w→Q (.panic c) a w):eF P ops Q S n ord q p a w:=by
 obtain ⟨h1,h2,h3,h4,h5,h6⟩:=wV T.o
 have hp':ord[p]?=some i:=by
  rw [List.getElem?_take] at hp
  split at hp
  ·exact hp
  ·cases hp
 have hlt:p < n:=by have:=(gs1 hp').1;omega
 simp only [Bool.and_eq_true,beq_iff_eq] at hg
 rw [← DL] at h
 unfold eF at h ⊢
 rw [show n - p=(n - (p+1))+1 by omega]
 rw [← Ar hp'] at h
 exact wpAnyS_first hi (List.mem_of_getElem? hp) (T.parts hq) (Region.noSelect_spec h3) (by rw [hg.1];exact hQ) _ _ _ _ (T.closed (by omega)) (Region.free_spec hi (h4 p i hp' hc).1) (by simpa using (h4 p i hp' hc).2) (Or.inl ⟨hg.2,hy⟩) hS (by rw [hg.1];exact h)
/-- The operation at place p comes up alone. -/
theorem cls (p i:Nat) {q:Nat} {oi:Oper} (T:lW ops n ord cs qs f) (hc:p ∈ cs) (hp:(ord.take q)[p]?=some i) (hi:ops[i]?=some oi)
  (h:∀ K:Act→World→Prop,Shut (∀ a w,S w→(S w→eF P ops Q S n ord q (p+1) a w)→K a w)→if Region.wanted oi (yielded ops a.tmps)=true then Oper.wp P oi a w K Q else K (a.put oi.dst undef) w):eF P ops Q S n ord q p a w:=by
 obtain ⟨h1,h2,h3,h4,h5,h6⟩:=wV T.o
 have hp':ord[p]?=some i:=by
  rw [List.getElem?_take] at hp
  split at hp
  ·exact hp
  ·cases hp
 have hlt:=(h6 p i hc hp').1
 have hr:=(h6 p i hc hp').2
 have hun:(dQ n (ord.take p)).getD i true=false:=(mem_ready.1 (show i ∈ Region.ready .any ops (dQ n (ord.take p)) by rw [hr];simp)).1
 have hl:left (ord.take q) (dQ n (ord.take p))=true:=Au (List.mem_of_getElem? hp) hun
 unfold eF
 rw [show n - p=(n - (p+1))+1 by omega]
 refine ⟨fun h=>absurd hl (by rw [h];simp),fun _=>⟨fun h=>absurd hr (by rw [h];simp),fun j hj=>?_⟩⟩
 rw [hr] at hj
 obtain rfl:j=i:=by simpa using hj
 exact wpOp_step hi (fun K hK=>h K (fun a w hS hW=>hK a w ⟨hS,by rw [Ar hp'];exact hW hS⟩))
/-- A phase is over, the next one begins. -/
theorem gH {S':World→Prop} (q q':Nat) (T:lW ops n ord cs qs f) (hl:left (ord.take q) (dQ n (ord.take q))=false) (hS:S' w) (h:S' w→eF P ops Q S' n ord q' q a w):eF P ops Q S n ord q q a w:=by
 have h:=Aw _ _ _ _ (h hS)
 unfold eF
 revert h
 generalize n - q=m
 intro h
 cases m with
 | zero=>exact h
 | succ m=>exact ⟨fun _=>h,fun hh=>absurd hh (by rw [hl];simp)⟩
theorem eP {q:Nat} (T:lW ops n ord cs qs f) (h:Q .normal a w):eF P ops Q S n ord q n a w:=by
 obtain ⟨h1,h2,h3,h4,h5,h6⟩:=wV T.o
 unfold eF
 rw [Nat.sub_self]
 exact ⟨h5,h⟩
end
/-- 'aeM, what it yields and the state behind it found by themselves. -/
theorem tks {P:Program} {ops:Array Oper} {Q:Exit→Act→World→Prop} {S:World→Prop} {n f q:Nat} {ord cs qs:List Nat} {a a':Act} {w:World} (p i d:Nat) {oi:Oper} {v:Value} (T:lW ops n ord cs qs f) (hS:S w) (h:eF P ops Q S n ord q (p+1) a' w)
  (hp:(ord.take q)[p]?=some i:=by rfl) (hc:¬ p ∈ cs:=by decide) (hq:q ∈ qs:=by decide)
  (hi:ops[i]?=some oi:=by rfl)
  (hg:(oi.dst == some d && Region.wanted oi (yielded ops a.tmps))=true:=by kernel_rfl)
  (hy:∀ w,S w→(execOp a.eval oi).run P w=.ok (.value v) w:=by (intro w s;(try dsimp only at s);go_simp <;> with_reducible rfl))
  (ha:iR a d v=a':=by (conv=>lhs;dsimp only [iR,List.toList_toArray,tF,tH]))
  (hQ:∀ c a w,Q (.panic c) (a.put (some d) v) w→Q (.panic c) a w:=by exact fun _ _ _ h=>h):eF P ops Q S n ord q p a w :=
 Vf p i d v T hy hS (by rw [ha];exact h) hp hc hq hi hg hQ
/- Ap walked in phases: where several operations may come next, each one goes on in an order of its own. -/
theorem Vg {A A':List Nat} (h:(A.all (fun x=>A'.contains x) && A'.all (fun x=>A.contains x))=true) (L:Array Bool):left A L=left A' L:=by
 simp only [Bool.and_eq_true,List.all_eq_true,List.contains_iff_mem] at h
 unfold left
 rw [Bool.eq_iff_iff]
 simp only [List.any_eq_true]
 exact ⟨fun ⟨x,hx,e⟩=>⟨x,h.1 x hx,e⟩,fun ⟨x,hx,e⟩=>⟨x,h.2 x hx,e⟩⟩
section
variable {P : Program} {md : Region.Mode} {ops : Array Oper} {Q : Exit → Act → World → Prop} {S : World → Prop}
theorem MX {A A':List Nat} (hA:∀ L,left A L=left A' L):∀ (n:Nat) (L:Array Bool) (a:Act) (w:World),wpAnyS P md ops Q S A n L a w→wpAnyS P md ops Q S A' n L a w
 | 0,_,_,_,h=>h
 | n+1,L,a,w,h=>by
  refine ⟨fun hl=>h.1 (by rw [hA];exact hl),fun hl=>?_⟩
  have h2:=h.2 (by rw [hA];exact hl)
  exact ⟨h2.1,fun i hi=>wpOp_mono (fun a' w' q=>⟨q.1,MX hA n _ a' w' q.2⟩) (h2.2 i hi)⟩
end
section
variable {P : Program} {ops : Array Oper} {Q : Exit → Act → World → Prop} {S : World → Prop} {n f : Nat} {ord cs qs : List Nat} {a : Act} {w : World}
/-- What is owed of those that may come next. -/
def jo (P:Program) (ops:Array Oper) (Q:Exit→Act→World→Prop) (S:World→Prop) (n:Nat) (ord:List Nat) (q p:Nat) (a:Act) (w:World) (rs:List Nat):Prop :=
 ∀ i ∈ rs,wpOp P ops Q i (fun a' w'=>S w'∧wpAnyS P .any ops Q S (ord.take q) (n - (p+1)) ((dQ n (ord.take p)).setIfInBounds i true) a' w') a w
theorem jo.nil {q p:Nat}:jo P ops Q S n ord q p a w []:=fun _ h=>by cases h
theorem jo.cons {q p i:Nat} {rs:List Nat} {oi:Oper} (DT:List Nat) (hi:ops[i]?=some oi) (hd:(dQ n (ord.take p)).setIfInBounds i true=dQ n (DT.take (p+1)))
  (hA:((DT.take q).all (fun x=>(ord.take q).contains x) && (ord.take q).all (fun x=>(DT.take q).contains x))=true)
  (h:∀ K:Act→World→Prop,Shut (∀ a w,S w→(S w→eF P ops Q S n DT q (p+1) a w)→K a w)→if Region.wanted oi (yielded ops a.tmps)=true then Oper.wp P oi a w K Q else K (a.put oi.dst undef) w)
  (hs:jo P ops Q S n ord q p a w rs):jo P ops Q S n ord q p a w (i :: rs):=by
 intro j hj
 rcases List.mem_cons.1 hj with rfl | hj
 ·refine wpOp_step hi (fun K hK=>h K (fun a w hS hW=>hK a w ⟨hS,?_⟩))
  have:=hW hS
  unfold eF at this
  rw [hd]
  exact MX (Vg hA) _ _ _ _ this
 ·exact hs j hj
/-- The table of an order some of whose places (bs) have several that may come next. -/
def qj (ops:Array Oper) (n:Nat) (ord cs bs qs:List Nat) (f:Nat):Bool :=
 (ops.size == n) && ((ord.length == n) && (Region.noSelect ops && ((List.range n).all (fun p=>match ord[p]? with
  | some i=>cs.contains p || (bs.contains p || (Region.free .any ops (dQ n (ord.take p)) i && (Region.ready .any ops (dQ n (ord.take p))).contains i))
  | none=>false) && ((Region.ready .any ops (dQ n (ord.take n))).isEmpty && (cs.all (fun p=>match ord[p]? with
  | some i=>Nat.blt p n && (Region.ready .any ops (dQ n (ord.take p)) == [i])
  | none=>false) && ((List.range (n+1)).all (fun p=>(List.range n).all fun k=>!((dQ n (ord.take p)).getD k false) || (waits .any ops k).all fun i=>(dQ n (ord.take p)).getD i false) &&
  qs.all fun q=>(List.range n).all fun j=>(ord.take q).contains j || (ord.take q).all fun i=>(Av .any ops j f).contains i))))))
structure lY (ops:Array Oper) (n:Nat) (ord cs bs qs:List Nat) (f:Nat):Prop where
 out:qj ops n ord cs bs qs f=true
variable {bs : List Nat}
theorem tJ {c:Option Code} {id:Nat} (h:c.bind (bR id)=some ops) (T:(c.bind (bR id)).all (fun o=>qj o n ord cs bs qs f)=true):lY ops n ord cs bs qs f:=by
 rw [h] at T;exact ⟨by simpa using T⟩
theorem lY.all (T':lY ops n ord cs bs qs f):ops.size=n∧ord.length=n∧Region.noSelect ops=true∧(∀ p i,ord[p]?=some i→¬ p ∈ cs→¬ p ∈ bs→Region.free .any ops (dQ n (ord.take p)) i=true∧(Region.ready .any ops (dQ n (ord.take p))).contains i=true)∧Region.ready .any ops (dQ n (ord.take n))=[] ∧
  (∀ p i,p ∈ cs→ord[p]?=some i→p < n∧Region.ready .any ops (dQ n (ord.take p))=[i])∧(∀ p,p≤n→vk .any ops (dQ n (ord.take p)))∧∀ q,q ∈ qs→Parts .any ops (ord.take q):=by
 have T:=T'.out
 simp only [qj,Bool.and_eq_true,beq_iff_eq,List.all_eq_true,List.mem_range,List.isEmpty_iff] at T
 obtain ⟨h1,h2,h3,h4,h5,h6,h7,h8⟩:=T
 refine ⟨h1,h2,h3,fun p i hp hc hb=>?_,h5,fun p i hc hp=>?_,fun p hp k i hk hi=>?_,fun q hq j hj hn i hi=>?_⟩
 ·have hlt:p < n:=by have:=(gs1 hp).1;omega
  have:=h4 p hlt
  rw [hp] at this
  simp only [Bool.or_eq_true,Bool.and_eq_true,List.contains_iff_mem] at this
  rcases this with h | h | h
  ·exact absurd h hc
  ·exact absurd h hb
  ·exact ⟨h.1,by simpa using h.2⟩
 ·have:=h6 p hc
  rw [hp] at this
  simp only [Bool.and_eq_true,beq_iff_eq,Nat.blt_eq] at this
  exact this
 ·have hkn:k < n:=by
   by_cases hkn:k < n
   ·exact hkn
   ·unfold waits at hi
    rw [Array.getElem?_eq_none (by omega)] at hi
    cases hi
  have:=h7 p (by omega) k hkn
  rw [hk] at this
  simp only [Bool.not_true,Bool.false_or,List.all_eq_true] at this
  exact this i hi
 ·obtain ⟨o,ho⟩:=hj
  have hjn:j < n:=by rw [← h1];exact (Array.getElem?_eq_some_iff.1 ho).1
  have:=h8 q hq j hjn
  simp only [Bool.or_eq_true,List.contains_iff_mem,List.all_eq_true] at this
  rcases this with h | h
  ·exact absurd h hn
  ·exact DN f i (h i hi)
theorem Vh {id:Nat} (q:Nat) (T:lY ops n ord cs bs qs f) (hm:P.follows .mixedOrders=true) (hS:S w.drew) (h:lY ops n ord cs bs qs f→S w.drew→eF P ops Q S n ord q 0 a w.drew):Code.wp P (.region id ops true) Q a w:=by
 refine wp_region_any hm ?_
 have h1:=T.all.1
 have:=Aw _ _ _ _ (h T hS)
 subst h1
 exact this
/-- The beginning, with the tables of three orders. -/
theorem G7 {id:Nat} {MZ cs2 M0 M4 M5 M6:List Nat} (q:Nat) (T:lY ops n ord cs bs qs f) (T2:lY ops n MZ cs2 M0 qs f) (T3:lY ops n M4 M5 M6 qs f) (hm:P.follows .mixedOrders=true) (hS:S w.drew)
 (h:lY ops n ord cs bs qs f→lY ops n MZ cs2 M0 qs f→lY ops n M4 M5 M6 qs f→S w.drew→eF P ops Q S n ord q 0 a w.drew):Code.wp P (.region id ops true) Q a w:=Vh q T hm hS fun T=>h T T2 T3
theorem Vi (p i d:Nat) {q:Nat} {oi:Oper} (v:Value) (T:lY ops n ord cs bs qs f) (hy:∀ w,S w→(execOp a.eval oi).run P w=.ok (.value v) w) (hS:S w) (h:eF P ops Q S n ord q (p+1) (iR a d v) w)
  (hp:(ord.take q)[p]?=some i) (hc:¬ p ∈ cs) (hb:¬ p ∈ bs) (hq:q ∈ qs) (hi:ops[i]?=some oi)
  (hg:(oi.dst == some d && Region.wanted oi (yielded ops a.tmps))=true) (hQ:∀ c a w,Q (.panic c) (a.put (some d) v) w→Q (.panic c) a w):eF P ops Q S n ord q p a w:=by
 obtain ⟨h1,h2,h3,h4,h5,h6,h7,h8⟩:=T.all
 have hp':ord[p]?=some i:=by
  rw [List.getElem?_take] at hp
  split at hp
  ·exact hp
  ·cases hp
 have hlt:p < n:=by have:=(gs1 hp').1;omega
 simp only [Bool.and_eq_true,beq_iff_eq] at hg
 rw [← DL] at h
 unfold eF at h ⊢
 rw [show n - p=(n - (p+1))+1 by omega]
 rw [← Ar hp'] at h
 exact wpAnyS_first hi (List.mem_of_getElem? hp) (h8 q hq) (Region.noSelect_spec h3) (by rw [hg.1];exact hQ) _ _ _ _ (h7 p (by omega)) (Region.free_spec hi (h4 p i hp' hc hb).1) (by simpa using (h4 p i hp' hc hb).2) (Or.inl ⟨hg.2,hy⟩) hS (by rw [hg.1];exact h)
theorem fQ (p i:Nat) {q:Nat} {oi:Oper} (T:lY ops n ord cs bs qs f) (hc:p ∈ cs) (hp:(ord.take q)[p]?=some i) (hi:ops[i]?=some oi)
  (h:∀ K:Act→World→Prop,Shut (∀ a w,S w→(S w→eF P ops Q S n ord q (p+1) a w)→K a w)→if Region.wanted oi (yielded ops a.tmps)=true then Oper.wp P oi a w K Q else K (a.put oi.dst undef) w):eF P ops Q S n ord q p a w:=by
 obtain ⟨h1,h2,h3,h4,h5,h6,h7,h8⟩:=T.all
 have hp':ord[p]?=some i:=by
  rw [List.getElem?_take] at hp
  split at hp
  ·exact hp
  ·cases hp
 have hlt:=(h6 p i hc hp').1
 have hr:=(h6 p i hc hp').2
 have hun:(dQ n (ord.take p)).getD i true=false:=(mem_ready.1 (show i ∈ Region.ready .any ops (dQ n (ord.take p)) by rw [hr];simp)).1
 have hl:left (ord.take q) (dQ n (ord.take p))=true:=Au (List.mem_of_getElem? hp) hun
 unfold eF
 rw [show n - p=(n - (p+1))+1 by omega]
 refine ⟨fun h=>absurd hl (by rw [h];simp),fun _=>⟨fun h=>absurd hr (by rw [h];simp),fun j hj=>?_⟩⟩
 rw [hr] at hj
 obtain rfl:j=i:=by simpa using hj
 exact wpOp_step hi (fun K hK=>h K (fun a w hS hW=>hK a w ⟨hS,by rw [Ar hp'];exact hW hS⟩))
/-- Several may come next. -/
theorem Ay (p:Nat) {q:Nat} (rs:List Nat) (hr:Region.ready .any ops (dQ n (ord.take p))=rs) (hl:left (ord.take q) (dQ n (ord.take p))=true) (hp:p < n) (hne:rs≠[])
  (h:jo P ops Q S n ord q p a w rs):eF P ops Q S n ord q p a w:=by
 unfold eF
 rw [show n - p=(n - (p+1))+1 by omega]
 refine ⟨fun hl'=>?_,fun _=>⟨fun h'=>absurd (hr.symm.trans h') hne,fun i hi=>h i (by rw [← hr];exact hi)⟩⟩
 rw [hl] at hl'
 cases hl'
theorem yP {S':World→Prop} (q q':Nat) (hl:left (ord.take q) (dQ n (ord.take q))=false) (hS:S' w) (h:S' w→eF P ops Q S' n ord q' q a w):eF P ops Q S n ord q q a w:=by
 have h:=Aw _ _ _ _ (h hS)
 unfold eF
 revert h
 generalize n - q=m
 intro h
 cases m with
 | zero=>exact h
 | succ m=>exact ⟨fun _=>h,fun hh=>absurd hh (by rw [hl];simp)⟩
theorem vo {q:Nat} (T:lY ops n ord cs bs qs f) (h:Q .normal a w):eF P ops Q S n ord q n a w:=by
 unfold eF
 rw [Nat.sub_self]
 exact ⟨T.all.2.2.2.2.1,h⟩
end
theorem dL {P:Program} {ops:Array Oper} {Q:Exit→Act→World→Prop} {S:World→Prop} {n f q:Nat} {ord cs bs qs:List Nat} {a a':Act} {w:World} (p i d:Nat) {oi:Oper} {v:Value} (T:lY ops n ord cs bs qs f) (hS:S w) (h:eF P ops Q S n ord q (p+1) a' w)
  (hp:(ord.take q)[p]?=some i:=by rfl) (hc:¬ p ∈ cs:=by decide) (hb:¬ p ∈ bs:=by decide) (hq:q ∈ qs:=by decide)
  (hi:ops[i]?=some oi:=by rfl)
  (hg:(oi.dst == some d && Region.wanted oi (yielded ops a.tmps))=true:=by kernel_rfl)
  (hy:∀ w,S w→(execOp a.eval oi).run P w=.ok (.value v) w:=by (intro w s;(try dsimp only at s);go_simp <;> with_reducible rfl))
  (ha:iR a d v=a':=by (conv=>lhs;dsimp only [iR,List.toList_toArray,tF,tH]))
  (hQ:∀ c a w,Q (.panic c) (a.put (some d) v) w→Q (.panic c) a w:=by exact fun _ _ _ h=>h):eF P ops Q S n ord q p a w :=
 Vi p i d v T hy hS (by rw [ha];exact h) hp hc hb hq hi hg hQ
/- Ap walked in phases: a load of many cells is taken. -/
theorem qp {P:Program} {ops:Array Oper} {Q:Exit→Act→World→Prop} {S:World→Prop} {n f q:Nat} {ord cs qs:List Nat} {a a':Act} {w:World} (p i d:Nat) {oi:Oper} (ty:TypeId) (x:Operand) (b o:Nat) (vs:List Value) {dd:TypeDesc} (T:lW ops n ord cs qs f) (hS:S w)
  (hc:∀ w,S w→w.rangeAt b o vs) (hu:P.underlying ty=some dd) (h:eF P ops Q S n ord q (p+1) a' w)
  (hi:ops[i]?=some oi:=by rfl) (ho:oi.op=.load ty x:=by rfl) (hx:a.eval x=.pointer (some ⟨b,o,none⟩):=by rfl) (hd:dd.isRow=true:=by rfl) (hz:(P.info? ty).map (·.size)=some vs.length:=by kernel_rfl)
  (hp:(ord.take q)[p]?=some i:=by rfl) (hcs:¬ p ∈ cs:=by decide) (hq:q ∈ qs:=by decide)
  (hg:(oi.dst == some d && Region.wanted oi (yielded ops a.tmps))=true:=by kernel_rfl)
  (ha:iR a d (.agg vs.toArray)=a':=by (conv=>lhs;dsimp only [iR,List.toList_toArray,tF,tH]))
  (hQ:∀ c a w,Q (.panic c) (a.put (some d) (.agg vs.toArray)) w→Q (.panic c) a w:=by exact fun _ _ _ h=>h):eF P ops Q S n ord q p a w:=by
 obtain ⟨h1,h2,h3,h4,h5,h6⟩:=wV T.o
 have hp':ord[p]?=some i:=by
  rw [List.getElem?_take] at hp
  split at hp
  ·exact hp
  ·cases hp
 have hlt:p < n:=by have:=(gs1 hp').1;omega
 simp only [Bool.and_eq_true,beq_iff_eq] at hg
 rw [← ha,← DL] at h
 unfold eF at h ⊢
 rw [show n - p=(n - (p+1))+1 by omega]
 rw [← Ar hp'] at h
 exact wpAnyS_first hi (List.mem_of_getElem? hp) (T.parts hq) (Region.noSelect_spec h3) (by rw [hg.1];exact hQ) _ _ _ _ (T.closed (by omega)) (Region.free_spec hi (h4 p i hp' hcs).1) (by simpa using (h4 p i hp' hcs).2) (yieldsIf_load_mid hg.2 ty x ho b o hx vs dd hc hu hd hz) hS (by rw [hg.1];exact h)
end Go.Proofs.YtmglhdkeidhafaaGreat
