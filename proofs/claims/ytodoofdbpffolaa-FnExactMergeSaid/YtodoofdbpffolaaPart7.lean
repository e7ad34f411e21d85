/- The proof's texts, part 7. -/
import Derived.Deep.RegionHeld3
import Derived.Test.YtodoofdbpffolaaPart6
import Derived.Test.YtodoofdbpffolaaPart4
import Derived.Test.YtodoofdbpffolaaPart3
import Derived.Test.YtodoofdbpffolaaPart1

/- Regions that draw their order, walked in the text's order: what each operation asks of the others is reckoned once for a region, in a table. -/
namespace Go.Proofs.Ytodoofdbpffolaa
set_option linter.unusedVariables false

/-- The operations of the region with this number. -/
def opsAt (id : Nat) : Code → Option (Array Oper)
  | .region i ops _ => if i == id then some ops else none
  | .seq a b => (opsAt id a).or (opsAt id b)
  | .cond _ a b => (opsAt id a).or (opsAt id b)
  | .block _ a => opsAt id a
  | .loop a => opsAt id a
  | _ => none

/-- The first i of n are listed. -/
def upto (n i : Nat) : Array Bool := (List.replicate i true ++ List.replicate (n - i) false).toArray
theorem upto_zero (n : Nat) : upto n 0 = Array.replicate n false := by simp [upto]
theorem upto_succ {n i : Nat} (h : i < n) : (upto n i).setIfInBounds i true = upto n (i + 1) := by
  have e : n - i = (n - (i + 1)) + 1 := by omega
  unfold upto
  rw [List.setIfInBounds_toArray]
  congr 1
  rw [List.set_append_right _ _ (by simp), List.length_replicate, Nat.sub_self, e, List.replicate_succ, List.set_cons_zero, List.replicate_succ', List.append_assoc]
  rfl

def statAt (ops : Array Oper) (n i : Nat) : Bool := Region.free .any ops (upto n i) i && (Region.ready .any ops (upto n i)).contains i
/-- cs: the operations that come up alone. -/
def table (ops : Array Oper) (n : Nat) (cs : List Nat) : Bool := (ops.size == n) && (Region.noSelect ops && ((List.range n).all (statAt ops n) && ((Region.ready .any ops (upto n n)).isEmpty && cs.all fun i => (Nat.blt i n) && (Region.ready .any ops (upto n i) == [i]))))

/-- The table's word, in a wrapping that no walk looks into. -/
structure Tab (ops : Array Oper) (n : Nat) (cs : List Nat) : Prop where
  out : table ops n cs = true

/-- What is left of the region when the first i operations are done. -/
def wpAt (P : Program) (ops : Array Oper) (Q : Exit → Act → World → Prop) (S : World → Prop) (n i : Nat) (a : Act) (w : World) : Prop := wpAnyH P .any ops Q S (n - i) (upto n i) a w

/-- Slot d filled: what 'put' does, in a form that computes by itself. -/
def setT (a : Act) (d : Nat) (v : Value) : Act := { a with tmps := (a.tmps.toList.set d v).toArray }
theorem put_setT (a : Act) (d : Nat) (v : Value) : a.put (some d) v = setT a d v := by
  unfold Act.put setT
  simp only
  congr 1
  exact Array.ext' (by simp)

section
variable {P : Program} {ops : Array Oper} {Q : Exit → Act → World → Prop} {S : World → Prop} {n : Nat} {cs : List Nat} {a : Act} {w : World}
theorem tab_of {c : Option Code} {id : Nat} (h : c.bind (opsAt id) = some ops) (T : (c.bind (opsAt id)).all (fun o => table o n cs) = true) : Tab ops n cs := by
  rw [h] at T; exact ⟨by simpa using T⟩
theorem table_parts (T' : Tab ops n cs) : ops.size = n ∧ Region.noSelect ops = true ∧ (∀ i, i < n → Region.free .any ops (upto n i) i = true ∧ (Region.ready .any ops (upto n i)).contains i = true) ∧ Region.ready .any ops (upto n n) = [] ∧ ∀ i, i ∈ cs → i < n ∧ Region.ready .any ops (upto n i) = [i] := by
  have T := T'.out
  simp only [table, Bool.and_eq_true, beq_iff_eq, List.all_eq_true, List.mem_range, statAt, List.isEmpty_iff, Nat.blt_eq] at T
  exact ⟨T.1, T.2.1, fun i hi => T.2.2.1 i hi, T.2.2.2.1, fun i hi => T.2.2.2.2 i hi⟩
theorem wp_begin {id : Nat} (T : Tab ops n cs) (hm : P.follows .mixedOrders = true) (hS : S w.drew) (h : Tab ops n cs → S w.drew → wpAt P ops Q S n 0 a w.drew) : Code.wp P (.region id ops true) Q a w := by
  refine wp_region_held_drew (S := S) hm hS fun hs => ?_
  obtain ⟨h1, -⟩ := table_parts T
  subst h1
  rw [← upto_zero]
  exact h T hs
/-- Operation i is taken; it is wanted. -/
theorem tkp (i d : Nat) {oi : Oper} (v : Value) (T : Tab ops n cs) (hy : ∀ w, S w → (execOp a.eval oi).run P w = .ok (.value v) w) (hS : S w) (h : wpAt P ops Q S n (i + 1) (setT a d v) w)
    (hi : ops[i]? = some oi := by rfl)
    (hg : (oi.dst == some d && Region.wanted oi (yielded ops a.tmps)) = true := by kernel_rfl)
    (hQ : ∀ c a w, Q (.panic c) (a.put (some d) v) w → Q (.panic c) a w := by exact fun _ _ _ h => h) : wpAt P ops Q S n i a w := by
  obtain ⟨h1, h2, h3, h4, h5⟩ := table_parts T
  have hlt : i < n := by have := (Array.getElem?_eq_some_iff.1 hi).1; omega
  simp only [Bool.and_eq_true, beq_iff_eq] at hg
  rw [← put_setT] at h
  unfold wpAt at h ⊢
  rw [show n - i = (n - (i + 1)) + 1 by omega]
  rw [← upto_succ hlt] at h
  exact wpAnyH_take hi h2 (h3 i hlt).1 (h3 i hlt).2 (by rw [hg.1]; exact hQ) (Or.inl ⟨hg.2, hy⟩) hS (by rw [hg.1]; exact h)
/-- None of these is wanted; ds: the slots that they would fill. -/
def skipsD (ops : Array Oper) : Nat → List Nat → Array Value → Bool
  | _, [], _ => true
  | i, d :: ds, tm => match ops[i]? with
    | some o => (o.dst == some d) && (!(Region.wanted o (yielded ops tm)) && skipsD ops (i + 1) ds (tm.toList.set d undef).toArray)
    | none => false
theorem skp (T : Tab ops n cs) (hQ : ∀ (d : Nat) v c a w, Q (.panic c) (a.put (some d) v) w → Q (.panic c) a w) (hS : S w) :
    ∀ (ds : List Nat) (i : Nat) (a : Act), skipsD ops i ds a.tmps = true → wpAt P ops Q S n (i + ds.length) (ds.foldl (fun a d => setT a d undef) a) w → wpAt P ops Q S n i a w
  | [], _, _, _, h => h
  | d :: ds, i, a, hk, h => by
    unfold skipsD at hk
    split at hk
    · rename_i o ho
      simp only [Bool.and_eq_true, beq_iff_eq, Bool.not_eq_true'] at hk
      obtain ⟨k1, k2, k3⟩ := hk
      obtain ⟨h1, h2, h3, h4, h5⟩ := table_parts T
      have hlt : i < n := by have := (Array.getElem?_eq_some_iff.1 ho).1; omega
      have hr := skp T hQ hS ds (i + 1) (setT a d undef) (by simpa [setT] using k3) (by rw [show i + 1 + ds.length = i + (d :: ds).length by simp; omega]; exact h)
      rw [← put_setT] at hr
      unfold wpAt at hr ⊢
      rw [show n - i = (n - (i + 1)) + 1 by omega]
      rw [← upto_succ hlt] at hr
      exact wpAnyH_take (v := undef) ho h2 (h3 i hlt).1 (h3 i hlt).2 (fun c a w => by rw [k1]; exact hQ d _ c a w) (Or.inr ⟨k2, rfl⟩) hS (by rw [k1]; exact hr)
    · cases hk
theorem skj {i j : Nat} (ds : List Nat) (hj : i + ds.length = j) (T : Tab ops n cs) (hQ : ∀ (d : Nat) v c a w, Q (.panic c) (a.put (some d) v) w → Q (.panic c) a w) (hS : S w) (hk : skipsD ops i ds a.tmps = true)
    (h : wpAt P ops Q S n j (ds.foldl (fun a d => setT a d undef) a) w) : wpAt P ops Q S n i a w := skp T hQ hS ds i a hk (by rw [hj]; exact h)
/-- Operation i is a call: it comes up alone. -/
theorem clp (i : Nat) (T : Tab ops n cs) (hi : i ∈ cs) (h : AllReadyH P .any ops Q S (n - (i + 1)) (upto n i) a w [i]) : wpAt P ops Q S n i a w := by
  obtain ⟨h1, h2, h3, h4, h5⟩ := table_parts T
  have hlt := (h5 i hi).1
  unfold wpAt
  rw [show n - i = (n - (i + 1)) + 1 by omega]
  exact wpAnyH_ready (h5 i hi).2 (by simp) h
theorem wpAt_in {i f : Nat} {l : Array Bool} (hlt : i < n) (hf : f = n - (i + 1)) (hl : l = (upto n i).setIfInBounds i true) (h : wpAt P ops Q S n (i + 1) a w) : wpAnyH P .any ops Q S f l a w := by
  subst hf hl
  rw [upto_succ hlt]
  exact h
theorem wp_end (T : Tab ops n cs) (h : Q .normal a w) : wpAt P ops Q S n n a w := by
  obtain ⟨h1, h2, h3, h4, h5⟩ := table_parts T
  exact wpAnyH_done h4 h _
end
theorem putA {α : Type} (l : List α) (i : Nat) (a : α) : l.toArray.setIfInBounds i a = (l.set i a).toArray := by simp
theorem put0 {α : Type} (x : α) (l : List α) (a : α) : (x :: l).set 0 a = a :: l := rfl
theorem putS {α : Type} (x : α) (l : List α) (i : Nat) (a : α) : (x :: l).set (i + 1) a = x :: l.set i a := rfl

/-- 'tkp', what it yields and the state behind it found by themselves. -/
theorem tkq {P : Program} {ops : Array Oper} {Q : Exit → Act → World → Prop} {S : World → Prop} {n : Nat} {cs : List Nat} {a a' : Act} {w : World} (i d : Nat) {oi : Oper} {v : Value} (T : Tab ops n cs) (hS : S w) (h : wpAt P ops Q S n (i + 1) a' w)
    (hi : ops[i]? = some oi := by rfl)
    (hg : (oi.dst == some d && Region.wanted oi (yielded ops a.tmps)) = true := by kernel_rfl)
    (hy : ∀ w, S w → (execOp a.eval oi).run P w = .ok (.value v) w := by (intro w s; (try dsimp only at s); go_simp <;> with_reducible rfl))
    (ha : setT a d v = a' := by (conv => lhs; dsimp only [setT, List.toList_toArray, put0, putS]))
    (hQ : ∀ c a w, Q (.panic c) (a.put (some d) v) w → Q (.panic c) a w := by exact fun _ _ _ h => h) : wpAt P ops Q S n i a w :=
  tkp i d v T hy hS (by rw [ha]; exact h) hi hg hQ

end Go.Proofs.Ytodoofdbpffolaa

/- Regions that draw their order, walked in a given order: what each operation asks of the others is reckoned once for a region, in a table. -/
namespace Go.Proofs.Ytodoofdbpffolaa
set_option linter.unusedVariables false

/-- Which operations are done when the first p of the order are. -/
def doneA (n : Nat) (l : List Nat) : Array Bool := l.foldl (fun a i => a.setIfInBounds i true) (Array.replicate n false)
theorem doneA_step {n p i : Nat} {ord : List Nat} (h : ord[p]? = some i) : (doneA n (ord.take p)).setIfInBounds i true = doneA n (ord.take (p + 1)) := by
  have hp : p < ord.length := (List.getElem?_eq_some_iff.1 h).1
  rw [List.take_succ_eq_append_getElem hp, (List.getElem?_eq_some_iff.1 h).2]
  unfold doneA
  rw [List.foldl_append]
  rfl
/-- cs: the places of those that come up alone. -/
def tableO (ops : Array Oper) (n : Nat) (ord cs : List Nat) : Bool :=
  (ops.size == n) && ((ord.length == n) && (Region.noSelect ops && ((List.range n).all (fun p => match ord[p]? with
    | some i => cs.contains p || (Region.free .any ops (doneA n (ord.take p)) i && (Region.ready .any ops (doneA n (ord.take p))).contains i)
    | none => false) && ((Region.ready .any ops (doneA n (ord.take n))).isEmpty && cs.all fun p => match ord[p]? with
    | some i => Nat.blt p n && (Region.ready .any ops (doneA n (ord.take p)) == [i])
    | none => false))))

/-- What is left of the region when the first p operations of the order are done. -/
def wpOrd (P : Program) (ops : Array Oper) (Q : Exit → Act → World → Prop) (S : World → Prop) (n : Nat) (ord : List Nat) (p : Nat) (a : Act) (w : World) : Prop := wpAnyH P .any ops Q S (n - p) (doneA n (ord.take p)) a w

/-- The table's word, in a wrapping that no walk looks into. -/
structure TabO (ops : Array Oper) (n : Nat) (ord cs : List Nat) : Prop where
  out : tableO ops n ord cs = true

section
variable {P : Program} {ops : Array Oper} {Q : Exit → Act → World → Prop} {S : World → Prop} {n : Nat} {ord cs : List Nat} {a : Act} {w : World}
theorem tabO_of {c : Option Code} {id : Nat} (h : c.bind (opsAt id) = some ops) (T : (c.bind (opsAt id)).all (fun o => tableO o n ord cs) = true) : TabO ops n ord cs := by
  rw [h] at T; exact ⟨by simpa using T⟩
theorem tabO_parts (T' : TabO ops n ord cs) : ops.size = n ∧ ord.length = n ∧ Region.noSelect ops = true ∧ (∀ p i, ord[p]? = some i → ¬ p ∈ cs → Region.free .any ops (doneA n (ord.take p)) i = true ∧ (Region.ready .any ops (doneA n (ord.take p))).contains i = true) ∧ Region.ready .any ops (doneA n (ord.take n)) = [] ∧
    ∀ p i, p ∈ cs → ord[p]? = some i → p < n ∧ Region.ready .any ops (doneA n (ord.take p)) = [i] := by
  have T := T'.out
  simp only [tableO, Bool.and_eq_true, beq_iff_eq, List.all_eq_true, List.mem_range, List.isEmpty_iff] at T
  obtain ⟨h1, h2, h3, h4, h5, h6⟩ := T
  refine ⟨h1, h2, h3, fun p i hp hc => ?_, h5, fun p i hc hp => ?_⟩
  · have hlt : p < n := by have := (List.getElem?_eq_some_iff.1 hp).1; omega
    have := h4 p hlt
    rw [hp] at this
    simp only [Bool.or_eq_true, Bool.and_eq_true, List.contains_iff_mem] at this
    rcases this with h | h
    · exact absurd h hc
    · exact ⟨h.1, by simpa using h.2⟩
  · have := h6 p hc
    rw [hp] at this
    simp only [Bool.and_eq_true, beq_iff_eq, Nat.blt_eq] at this
    exact this
theorem wpO_begin {id : Nat} (T : TabO ops n ord cs) (hm : P.follows .mixedOrders = true) (hS : S w.drew) (h : TabO ops n ord cs → S w.drew → wpOrd P ops Q S n ord 0 a w.drew) : Code.wp P (.region id ops true) Q a w := by
  refine wp_region_held_drew (S := S) hm hS fun hs => ?_
  obtain ⟨h1, -⟩ := tabO_parts T
  subst h1
  exact h T hs
/-- The operation at place p of the order is taken; it is wanted. -/
theorem tko (p i d : Nat) {oi : Oper} (v : Value) (T : TabO ops n ord cs) (hy : ∀ w, S w → (execOp a.eval oi).run P w = .ok (.value v) w) (hS : S w) (h : wpOrd P ops Q S n ord (p + 1) (setT a d v) w)
    (hp : ord[p]? = some i := by rfl) (hc : ¬ p ∈ cs := by decide)
    (hi : ops[i]? = some oi := by rfl)
    (hg : (oi.dst == some d && Region.wanted oi (yielded ops a.tmps)) = true := by kernel_rfl)
    (hQ : ∀ c a w, Q (.panic c) (a.put (some d) v) w → Q (.panic c) a w := by exact fun _ _ _ h => h) : wpOrd P ops Q S n ord p a w := by
  obtain ⟨h1, h2, h3, h4, h5, h6⟩ := tabO_parts T
  have hlt : p < n := by have := (List.getElem?_eq_some_iff.1 hp).1; omega
  simp only [Bool.and_eq_true, beq_iff_eq] at hg
  rw [← put_setT] at h
  unfold wpOrd at h ⊢
  rw [show n - p = (n - (p + 1)) + 1 by omega]
  rw [← doneA_step hp] at h
  exact wpAnyH_take hi h3 (h4 p i hp hc).1 (h4 p i hp hc).2 (by rw [hg.1]; exact hQ) (Or.inl ⟨hg.2, hy⟩) hS (by rw [hg.1]; exact h)
/-- The operation at place p comes up alone: a call, or one that makes memory. -/
theorem clo (p i : Nat) (T : TabO ops n ord cs) (hc : p ∈ cs) (hp : ord[p]? = some i) (h : AllReadyH P .any ops Q S (n - (p + 1)) (doneA n (ord.take p)) a w [i]) : wpOrd P ops Q S n ord p a w := by
  obtain ⟨h1, h2, h3, h4, h5, h6⟩ := tabO_parts T
  have hlt := (h6 p i hc hp).1
  unfold wpOrd
  rw [show n - p = (n - (p + 1)) + 1 by omega]
  exact wpAnyH_ready (h6 p i hc hp).2 (by simp) h
theorem wpOrd_in {p i f : Nat} {l : Array Bool} (hp : ord[p]? = some i) (hf : f = n - (p + 1)) (hl : l = (doneA n (ord.take p)).setIfInBounds i true) (h : wpOrd P ops Q S n ord (p + 1) a w) : wpAnyH P .any ops Q S f l a w := by
  subst hf hl
  rw [doneA_step hp]
  exact h
theorem wpO_end (T : TabO ops n ord cs) (h : Q .normal a w) : wpOrd P ops Q S n ord n a w := by
  obtain ⟨h1, h2, h3, h4, h5, h6⟩ := tabO_parts T
  exact wpAnyH_done h5 h _
end

/-- 'tko', what it yields and the state behind it found by themselves. -/
theorem tkw {P : Program} {ops : Array Oper} {Q : Exit → Act → World → Prop} {S : World → Prop} {n : Nat} {ord cs : List Nat} {a a' : Act} {w : World} (p i d : Nat) {oi : Oper} {v : Value} (T : TabO ops n ord cs) (hS : S w) (h : wpOrd P ops Q S n ord (p + 1) a' w)
    (hp : ord[p]? = some i := by rfl) (hc : ¬ p ∈ cs := by decide)
    (hi : ops[i]? = some oi := by rfl)
    (hg : (oi.dst == some d && Region.wanted oi (yielded ops a.tmps)) = true := by kernel_rfl)
    (hy : ∀ w, S w → (execOp a.eval oi).run P w = .ok (.value v) w := by (intro w s; (try dsimp only at s); go_simp <;> with_reducible rfl))
    (ha : setT a d v = a' := by (conv => lhs; dsimp only [setT, List.toList_toArray, put0, putS]))
    (hQ : ∀ c a w, Q (.panic c) (a.put (some d) v) w → Q (.panic c) a w := by exact fun _ _ _ h => h) : wpOrd P ops Q S n ord p a w :=
  tko p i d v T hy hS (by rw [ha]; exact h) hp hc hi hg hQ

end Go.Proofs.Ytodoofdbpffolaa

/- Regions that draw their order, walked in phases: each phase has a condition on the world of its own; a phase is closed when all that comes behind it waits for it. -/
namespace Go.Proofs.Ytodoofdbpffolaa
set_option linter.unusedVariables false

/-- Is one of the operations A still to come? -/
def left (A : List Nat) (L : Array Bool) : Bool := A.any fun i => !(L.getD i true)
theorem left_mem {A : List Nat} {L : Array Bool} {i : Nat} (h : i ∈ A) (h' : L.getD i true = false) : left A L = true := by
  unfold left
  rw [List.any_eq_true]
  exact ⟨i, h, by rw [h']; rfl⟩
theorem left_no {A : List Nat} {L : Array Bool} (h : ∀ i, i ∈ A → L.getD i false = true) : left A L = false := by
  unfold left
  rw [List.any_eq_false]
  intro i hi
  have := h i hi
  by_cases hs : i < L.size
  · simp [hs] at this ⊢; exact this
  · simp [Array.getElem?_eq_none (Nat.le_of_not_lt hs)] at this

/-- What an operation waits for. -/
def waits (md : Region.Mode) (ops : Array Oper) (j : Nat) : List Nat := match ops[j]? with
  | some o => (o.after.toList.filter (Region.binds md)).map (·.on)
  | none => []
inductive Anc (md : Region.Mode) (ops : Array Oper) : Nat → Nat → Prop
  | one {j i : Nat} : i ∈ waits md ops j → Anc md ops j i
  | more {j k i : Nat} : k ∈ waits md ops j → Anc md ops k i → Anc md ops j i
theorem Anc.then {md : Region.Mode} {ops : Array Oper} {j k i : Nat} (h : Anc md ops j k) (hi : i ∈ waits md ops k) : Anc md ops j i := by
  induction h with
  | one h => exact .more h (.one hi)
  | more h _ ih => exact .more h (ih hi)
def ClosedL (md : Region.Mode) (ops : Array Oper) (L : Array Bool) : Prop := ∀ k i, L.getD k false = true → i ∈ waits md ops k → L.getD i false = true
theorem anc_listed {md : Region.Mode} {ops : Array Oper} {L : Array Bool} {k i : Nat} (hc : ClosedL md ops L) (hk : L.getD k false = true) (h : Anc md ops k i) : L.getD i false = true := by
  induction h with
  | one h => exact hc _ _ hk h
  | more h _ ih => exact ih (hc _ _ hk h)
theorem ready_waits {md : Region.Mode} {ops : Array Oper} {L : Array Bool} {j i : Nat} (hj : j ∈ Region.ready md ops L) (h : i ∈ waits md ops j) : L.getD i false = true := by
  obtain ⟨-, o, ho, hall⟩ := mem_ready.1 hj
  unfold waits at h
  rw [ho] at h
  simp only [List.mem_map, List.mem_filter] at h
  obtain ⟨e, ⟨he, hb⟩, rfl⟩ := h
  exact hall e (by simpa using he) hb
theorem anc_ready {md : Region.Mode} {ops : Array Oper} {L : Array Bool} {j i : Nat} (hc : ClosedL md ops L) (hj : j ∈ Region.ready md ops L) (h : Anc md ops j i) : L.getD i false = true := by
  cases h with
  | one h => exact ready_waits hj h
  | more h h' => exact anc_listed hc (ready_waits hj h) h'
theorem closed_step {md : Region.Mode} {ops : Array Oper} {L : Array Bool} {j : Nat} (hc : ClosedL md ops L) (hj : j ∈ Region.ready md ops L) : ClosedL md ops (L.setIfInBounds j true) := by
  intro k i hk hi
  by_cases hjk : j = k
  · subst hjk; exact getD_set_true (ready_waits hj hi)
  · rw [getD_set_ne false hjk] at hk
    exact getD_set_true (hc k i hk hi)

/-- The operations that come ahead of one, gathered. -/
def addNew (l : List Nat) (i : Nat) : List Nat := if l.contains i then l else i :: l
theorem mem_addNew {xs l : List Nat} {i : Nat} (h : i ∈ xs.foldl addNew l) : i ∈ l ∨ i ∈ xs := by
  induction xs generalizing l with
  | nil => exact .inl h
  | cons x xs ih =>
    rcases ih h with h | h
    · unfold addNew at h
      split at h
      · exact .inl h
      · rcases List.mem_cons.1 h with rfl | h
        · exact .inr (List.mem_cons_self ..)
        · exact .inl h
    · exact .inr (List.mem_cons_of_mem _ h)
def ancL (md : Region.Mode) (ops : Array Oper) (j : Nat) : Nat → List Nat
  | 0 => waits md ops j
  | f + 1 => ((ancL md ops j f).flatMap (waits md ops)).foldl addNew (ancL md ops j f)
theorem anc_of {md : Region.Mode} {ops : Array Oper} {j : Nat} : ∀ (f i : Nat), i ∈ ancL md ops j f → Anc md ops j i
  | 0, i, h => .one h
  | f + 1, i, h => by
    rcases mem_addNew h with h | h
    · exact anc_of f i h
    · rw [List.mem_flatMap] at h
      obtain ⟨k, hk, hi⟩ := h
      exact (anc_of f k hk).then hi

section
variable {P : Program} {md : Region.Mode} {ops : Array Oper} {Q : Exit → Act → World → Prop} {S : World → Prop} {A : List Nat}
/-- Whatever order is picked: while one of A is still to come S holds behind each operation; then the rest goes in whatever order. -/
def wpAnyS (P : Program) (md : Region.Mode) (ops : Array Oper) (Q : Exit → Act → World → Prop) (S : World → Prop) (A : List Nat) : Nat → Array Bool → Act → World → Prop
  | 0, L, a, w => Region.ready md ops L = [] ∧ Q .normal a w
  | n + 1, L, a, w => (left A L = false → wpAny P md ops Q (n + 1) L a w) ∧ (left A L = true → (Region.ready md ops L = [] → Q .normal a w) ∧
      ∀ i ∈ Region.ready md ops L, wpOp P ops Q i (fun a' w' => S w' ∧ wpAnyS P md ops Q S A n (L.setIfInBounds i true) a' w') a w)
theorem wpAny_of_phase : ∀ (n : Nat) (L : Array Bool) (a : Act) (w : World), wpAnyS P md ops Q S A n L a w → wpAny P md ops Q n L a w
  | 0, _, _, _, h => h
  | n + 1, L, a, w, h => by
    cases hl : left A L with
    | false => exact h.1 hl
    | true => exact ⟨(h.2 hl).1, fun i hi => wpOp_mono (fun a' w' q => wpAny_of_phase n _ a' w' q.2) ((h.2 hl).2 i hi)⟩
/-- All that is not of A waits for all of A. -/
def Parts (md : Region.Mode) (ops : Array Oper) (A : List Nat) : Prop := ∀ j, (∃ o, ops[j]? = some o) → j ∉ A → ∀ i, i ∈ A → Anc md ops j i
theorem parts_ready {L : Array Bool} {j : Nat} (hA : Parts md ops A) (hc : ClosedL md ops L) (hj : j ∈ Region.ready md ops L) (hn : j ∉ A) : left A L = false := by
  obtain ⟨-, o, ho, -⟩ := mem_ready.1 hj
  exact left_no fun i hi => anc_ready hc hj (hA j ⟨o, ho⟩ hn i hi)
theorem wpAnyS_first {i : Nat} {oi : Oper} {v : Value} (hi : ops[i]? = some oi) (hR : i ∈ A) (hA : Parts md ops A) (hsel : ∀ (j : Nat) (o : Oper) cs b, ops[j]? = some o → o.op ≠ .select cs b) (hQ : ∀ c a w, Q (.panic c) (a.put oi.dst v) w → Q (.panic c) a w)
    (n : Nat) : ∀ (L : Array Bool) (a : Act) (w : World), ClosedL md ops L →
      (∀ j oj, ops[j]? = some oj → j ≠ i → L.getD j true = false → (∀ e ∈ oj.after, Region.binds md e = true → e.on ≠ i) → oi.apart ops oj = true) →
      i ∈ Region.ready md ops L → YieldsIf P ops S oi v a → S w → wpAnyS P md ops Q S A n (L.setIfInBounds i true) (a.put oi.dst v) w → wpAnyS P md ops Q S A (n + 1) L a w := by
  induction n with
  | zero =>
    intro L a w hc _ hr hy hS H
    have hl : left A L = true := left_mem hR (mem_ready.1 hr).1
    refine ⟨fun h => absurd hl (by rw [h]; simp), fun _ => ⟨fun h => absurd hr (by rw [h]; simp), fun j hj => ?_⟩⟩
    by_cases hji : j = i
    · subst hji; exact hy.wpOp hi hS ⟨hS, H⟩
    · exact absurd (ready_mono hj hji) (by rw [H.1]; simp)
  | succ n ih =>
    intro L a w hc hfree hr hy hS H
    have hl : left A L = true := left_mem hR (mem_ready.1 hr).1
    refine ⟨fun h => absurd hl (by rw [h]; simp), fun _ => ⟨fun h => absurd hr (by rw [h]; simp), fun j hj => ?_⟩⟩
    by_cases hji : j = i
    · subst hji; exact hy.wpOp hi hS ⟨hS, H⟩
    obtain ⟨hjun, oj, hoj, hall⟩ := mem_ready.1 hj
    have hjA : j ∈ A := by
      by_cases h : j ∈ A
      · exact h
      · exact absurd hl (by rw [parts_ready hA hc hj h]; simp)
    have hil := (mem_ready.1 hr).1
    have hnot : ∀ e ∈ oj.after, Region.binds md e = true → e.on ≠ i := by
      intro e he hb heq
      have q := hall e he hb
      rw [heq] at q
      by_cases hs : i < L.size
      · simp [hs] at hil q; rw [hil] at q; cases q
      · simp [Array.getElem?_eq_none (Nat.le_of_not_lt hs)] at q
    have hl' : left A (L.setIfInBounds i true) = true := left_mem hjA (by rw [getD_set_ne true (Ne.symm hji)]; exact hjun)
    have step := wpOp_putIf hoj (hfree j oj hoj hji hjun hnot) (fun cs b => hsel i oi cs b hi) (fun cs b => hsel j oj cs b hoj) hQ hy ((H.2 hl').2 j (ready_mono hj hji))
    refine wpOp_mono (fun a' w' q => ?_) step
    obtain ⟨q1, q2, q3⟩ := q
    exact ⟨q2, ih (L.setIfInBounds j true) a' w' (closed_step hc hj) (fun k ok hk hki hun hno => hfree k ok hk hki (by
        by_cases hjk : j = k
        · subst hjk; exact hjun
        · rwa [getD_set_ne true hjk] at hun) hno) (ready_mono hr (Ne.symm hji)) q1 q2 (by rw [Array.setIfInBounds_comm _ _ hji]; exact q3)⟩
end

/-- The table of a region that is walked in phases: qs, how many operations of the order are done at the end of each; f, how far ahead it is looked. -/
def tableS (ops : Array Oper) (n : Nat) (ord cs qs : List Nat) (f : Nat) : Bool :=
  tableO ops n ord cs && ((List.range (n + 1)).all (fun p => (List.range n).all fun k => !((doneA n (ord.take p)).getD k false) || (waits .any ops k).all fun i => (doneA n (ord.take p)).getD i false) &&
    qs.all fun q => (List.range n).all fun j => (ord.take q).contains j || (ord.take q).all fun i => (ancL .any ops j f).contains i)
structure TabS (ops : Array Oper) (n : Nat) (ord cs qs : List Nat) (f : Nat) : Prop where
  out : tableS ops n ord cs qs f = true

/-- What is left of the region when the first p operations of the order are done, in the phase that ends at q. -/
def wpPh (P : Program) (ops : Array Oper) (Q : Exit → Act → World → Prop) (S : World → Prop) (n : Nat) (ord : List Nat) (q p : Nat) (a : Act) (w : World) : Prop := wpAnyS P .any ops Q S (ord.take q) (n - p) (doneA n (ord.take p)) a w

section
variable {P : Program} {ops : Array Oper} {Q : Exit → Act → World → Prop} {S : World → Prop} {n f : Nat} {ord cs qs : List Nat} {a : Act} {w : World}
theorem tabS_of {c : Option Code} {id : Nat} (h : c.bind (opsAt id) = some ops) (T : (c.bind (opsAt id)).all (fun o => tableS o n ord cs qs f) = true) : TabS ops n ord cs qs f := by
  rw [h] at T; exact ⟨by simpa using T⟩
theorem TabS.o (T : TabS ops n ord cs qs f) : TabO ops n ord cs := by
  have := T.out
  simp only [tableS, Bool.and_eq_true] at this
  exact ⟨this.1⟩
theorem TabS.closed (T : TabS ops n ord cs qs f) {p : Nat} (hp : p ≤ n) : ClosedL .any ops (doneA n (ord.take p)) := by
  have h := T.out
  simp only [tableS, Bool.and_eq_true, List.all_eq_true, List.mem_range] at h
  intro k i hk hi
  have hs := (tabO_parts T.o).1
  have hkn : k < n := by
    by_cases hkn : k < n
    · exact hkn
    · unfold waits at hi
      rw [Array.getElem?_eq_none (by omega)] at hi
      cases hi
  have := h.2.1 p (by omega) k hkn
  rw [hk] at this
  simp only [Bool.not_true, Bool.false_or, List.all_eq_true] at this
  exact this i hi
theorem TabS.parts (T : TabS ops n ord cs qs f) {q : Nat} (hq : q ∈ qs) : Parts .any ops (ord.take q) := by
  have h := T.out
  simp only [tableS, Bool.and_eq_true, List.all_eq_true, List.mem_range] at h
  intro j hj hn i hi
  have hs := (tabO_parts T.o).1
  obtain ⟨o, ho⟩ := hj
  have hjn : j < n := by rw [← hs]; exact (Array.getElem?_eq_some_iff.1 ho).1
  have := h.2.2 q hq j hjn
  simp only [Bool.or_eq_true, List.contains_iff_mem, List.all_eq_true] at this
  rcases this with h | h
  · exact absurd h hn
  · exact anc_of f i (h i hi)
theorem wpS_begin {id : Nat} (q : Nat) (T : TabS ops n ord cs qs f) (hm : P.follows .mixedOrders = true) (hS : S w.drew) (h : TabS ops n ord cs qs f → S w.drew → wpPh P ops Q S n ord q 0 a w.drew) : Code.wp P (.region id ops true) Q a w := by
  refine wp_region_any hm ?_
  have h1 := (tabO_parts T.o).1
  have := wpAny_of_phase _ _ _ _ (h T hS)
  subst h1
  exact this
/-- The operation at place p is taken; it is wanted. -/
theorem tks0 (p i d : Nat) {q : Nat} {oi : Oper} (v : Value) (T : TabS ops n ord cs qs f) (hy : ∀ w, S w → (execOp a.eval oi).run P w = .ok (.value v) w) (hS : S w) (h : wpPh P ops Q S n ord q (p + 1) (setT a d v) w)
    (hp : (ord.take q)[p]? = some i) (hc : ¬ p ∈ cs) (hq : q ∈ qs) (hi : ops[i]? = some oi)
    (hg : (oi.dst == some d && Region.wanted oi (yielded ops a.tmps)) = true) (hQ : ∀ c a w, Q (.panic c) (a.put (some d) v) w → Q (.panic c) a w) : wpPh P ops Q S n ord q p a w := by
  obtain ⟨h1, h2, h3, h4, h5, h6⟩ := tabO_parts T.o
  have hp' : ord[p]? = some i := by
    rw [List.getElem?_take] at hp
    split at hp
    · exact hp
    · cases hp
  have hlt : p < n := by have := (List.getElem?_eq_some_iff.1 hp').1; omega
  simp only [Bool.and_eq_true, beq_iff_eq] at hg
  rw [← put_setT] at h
  unfold wpPh at h ⊢
  rw [show n - p = (n - (p + 1)) + 1 by omega]
  rw [← doneA_step hp'] at h
  exact wpAnyS_first hi (List.mem_of_getElem? hp) (T.parts hq) (Region.noSelect_spec h3) (by rw [hg.1]; exact hQ) _ _ _ _ (T.closed (by omega)) (Region.free_spec hi (h4 p i hp' hc).1) (by simpa using (h4 p i hp' hc).2) (Or.inl ⟨hg.2, hy⟩) hS (by rw [hg.1]; exact h)
/-- The operation at place p comes up alone. -/
theorem cls (p i : Nat) {q : Nat} {oi : Oper} (T : TabS ops n ord cs qs f) (hc : p ∈ cs) (hp : (ord.take q)[p]? = some i) (hi : ops[i]? = some oi)
    (h : ∀ K : Act → World → Prop, Shut (∀ a w, S w → (S w → wpPh P ops Q S n ord q (p + 1) a w) → K a w) → if Region.wanted oi (yielded ops a.tmps) = true then Oper.wp P oi a w K Q else K (a.put oi.dst undef) w) : wpPh P ops Q S n ord q p a w := by
  obtain ⟨h1, h2, h3, h4, h5, h6⟩ := tabO_parts T.o
  have hp' : ord[p]? = some i := by
    rw [List.getElem?_take] at hp
    split at hp
    · exact hp
    · cases hp
  have hlt := (h6 p i hc hp').1
  have hr := (h6 p i hc hp').2
  have hun : (doneA n (ord.take p)).getD i true = false := (mem_ready.1 (show i ∈ Region.ready .any ops (doneA n (ord.take p)) by rw [hr]; simp)).1
  have hl : left (ord.take q) (doneA n (ord.take p)) = true := left_mem (List.mem_of_getElem? hp) hun
  unfold wpPh
  rw [show n - p = (n - (p + 1)) + 1 by omega]
  refine ⟨fun h => absurd hl (by rw [h]; simp), fun _ => ⟨fun h => absurd hr (by rw [h]; simp), fun j hj => ?_⟩⟩
  rw [hr] at hj
  obtain rfl : j = i := by simpa using hj
  exact wpOp_step hi (fun K hK => h K (fun a w hS hW => hK a w ⟨hS, by rw [doneA_step hp']; exact hW hS⟩))
/-- A phase is over, the next one begins. -/
theorem wpS_next {S' : World → Prop} (q q' : Nat) (T : TabS ops n ord cs qs f) (hl : left (ord.take q) (doneA n (ord.take q)) = false) (hS : S' w) (h : S' w → wpPh P ops Q S' n ord q' q a w) : wpPh P ops Q S n ord q q a w := by
  have h := wpAny_of_phase _ _ _ _ (h hS)
  unfold wpPh
  revert h
  generalize n - q = m
  intro h
  cases m with
  | zero => exact h
  | succ m => exact ⟨fun _ => h, fun hh => absurd hh (by rw [hl]; simp)⟩
theorem wpS_end {q : Nat} (T : TabS ops n ord cs qs f) (h : Q .normal a w) : wpPh P ops Q S n ord q n a w := by
  obtain ⟨h1, h2, h3, h4, h5, h6⟩ := tabO_parts T.o
  unfold wpPh
  rw [Nat.sub_self]
  exact ⟨h5, h⟩
end

/-- 'tks0', what it yields and the state behind it found by themselves. -/
theorem tks {P : Program} {ops : Array Oper} {Q : Exit → Act → World → Prop} {S : World → Prop} {n f q : Nat} {ord cs qs : List Nat} {a a' : Act} {w : World} (p i d : Nat) {oi : Oper} {v : Value} (T : TabS ops n ord cs qs f) (hS : S w) (h : wpPh P ops Q S n ord q (p + 1) a' w)
    (hp : (ord.take q)[p]? = some i := by rfl) (hc : ¬ p ∈ cs := by decide) (hq : q ∈ qs := by decide)
    (hi : ops[i]? = some oi := by rfl)
    (hg : (oi.dst == some d && Region.wanted oi (yielded ops a.tmps)) = true := by kernel_rfl)
    (hy : ∀ w, S w → (execOp a.eval oi).run P w = .ok (.value v) w := by (intro w s; (try dsimp only at s); go_simp <;> with_reducible rfl))
    (ha : setT a d v = a' := by (conv => lhs; dsimp only [setT, List.toList_toArray, put0, putS]))
    (hQ : ∀ c a w, Q (.panic c) (a.put (some d) v) w → Q (.panic c) a w := by exact fun _ _ _ h => h) : wpPh P ops Q S n ord q p a w :=
  tks0 p i d v T hy hS (by rw [ha]; exact h) hp hc hq hi hg hQ

end Go.Proofs.Ytodoofdbpffolaa

/- Mails of a list of the call's own whose texts lie in memory that was there. -/
namespace Go.Proofs.Ytodoofdbpffolaa
open Go.RowKit
set_option linter.unusedVariables false

theorem one2' {i j : Int} : ∀ u ∈ [Value.int .i64 i, .int .i64 j], Value.oneCell' u = true := by
  intro u hu
  simp only [List.mem_cons, List.not_mem_nil, or_false] at hu
  rcases hu with rfl | rfl <;> rfl
/-- Mails whose texts lie where they lay in w. -/
def MailWE (w : World) (_ : World) (c : List Value) (m : MailD) (_ : Nat → Prop) : Prop := MailRE w c m
theorem framesMW (w : World) : Frames (MailWE w) := fun _ _ _ _ _ h _ => h
def MailsW (w : World) (wr : World) (B T : Nat) (v : Value) (l : List MailD) : Prop := Ow 43 4 (MailWE w) wr (In B T) v l
theorem MailsW.v {w wr : World} {B T : Nat} {v : Value} {l : List MailD} (h : MailsW w wr B T v l) (hb : Below w.heap.size w wr) : MailsV wr v l := by
  rcases h with ⟨rfl, rfl⟩ | ⟨g, cap, cur, cs, fs, hv, hh, h1, h2, h3, h4, h5, h6, h7⟩
  · exact Rd.nil wr
  · refine ⟨some ⟨g, 0, none⟩, cap, cs, hv, h1, h2, (fun h => by cases h), fun i x hx => ⟨keepsMail _ _ _ _ hb (h5 i x hx).1, (h5 i x hx).2.1⟩, fun hp => ⟨g, 0, rfl, lt_of_heap hh, fun i j u hi hu => ?_⟩⟩
    rw [Nat.zero_add, cell_of_row wr g _ cur _ (0, 0) hh]
    exact (h5 i l[i] (List.getElem?_eq_getElem hi)).2.2 j u hu
theorem mw_set {w wr : World} {B T g i : Nat} {v x : Value} {l : List MailD} (h : MailsW w wr B T v l) (hd : g < B ∨ T ≤ g) : MailsW w (wr.setCell ⟨g, i, none⟩ x) B T v l :=
  Ow.frame (framesMW w) h fun b hb _ => Below.heap_setCell _ _ _ _ (show b ≠ g by have := hb.1; have := hb.2; omega)
theorem mw_gr' {w wr wr' : World} {B T : Nat} {row : Option Nat} {v : Value} {l : List MailD} (h : Ow 43 4 (MailWE w) wr (In B T) v l) (hw : wr.grownBy wr' row) (hd : ∀ j, row = some j → T ≤ j) : MailsW w wr' B T v l :=
  Ow.frame (framesMW w) h fun b hb hlt => hw.block b hlt fun e => by have := hd b e.symm; have := hb.2; omega
theorem i64c0 : I64 0 := ⟨by decide, by decide⟩
theorem i64c4 : I64 4 := ⟨by decide, by decide⟩
theorem bs_nil' (w : World) : Bs w (.slice none 0 0) [] := (RO.nil w (fun _ => True)).bs

end Go.Proofs.Ytodoofdbpffolaa

/- What Merge of package impl does. -/
namespace Go.Proofs.Ytodoofdbpffolaa
open Go.RowKit Go.Maps
set_option maxRecDepth 100000
set_option linter.unusedVariables false
set_option linter.unusedSimpArgs false

theorem res7 {w w1 : World} {r N : Nat} {d0 d1 d2 d3 d4 d5 d6 : Value} (hk : w1.heap[r]? = some (.cells #[d0, d1, d2, d3, d4, d5, d6] 31 (0, 0))) (hr : N ≤ r) (hb : Below N w w1) (x0 x1 x2 x3 x4 x5 x6 : Value) :
    (((((((w1.setCell ⟨r, 0, none⟩ (x0)).setCell ⟨r, 1, none⟩ (x1)).setCell ⟨r, 2, none⟩ (x2)).setCell ⟨r, 3, none⟩ (x3)).setCell ⟨r, 4, none⟩ (x4)).setCell ⟨r, 5, none⟩ (x5)).setCell ⟨r, 6, none⟩ (x6)).heap[r]? = some (.cells #[x0, x1, x2, x3, x4, x5, x6] 31 (0, 0)) ∧ Below N w (((((((w1.setCell ⟨r, 0, none⟩ (x0)).setCell ⟨r, 1, none⟩ (x1)).setCell ⟨r, 2, none⟩ (x2)).setCell ⟨r, 3, none⟩ (x3)).setCell ⟨r, 4, none⟩ (x4)).setCell ⟨r, 5, none⟩ (x5)).setCell ⟨r, 6, none⟩ (x6)) ∧ (∀ k, k ≠ r → (((((((w1.setCell ⟨r, 0, none⟩ (x0)).setCell ⟨r, 1, none⟩ (x1)).setCell ⟨r, 2, none⟩ (x2)).setCell ⟨r, 3, none⟩ (x3)).setCell ⟨r, 4, none⟩ (x4)).setCell ⟨r, 5, none⟩ (x5)).setCell ⟨r, 6, none⟩ (x6)).heap[k]? = w1.heap[k]?) ∧ (((((((w1.setCell ⟨r, 0, none⟩ (x0)).setCell ⟨r, 1, none⟩ (x1)).setCell ⟨r, 2, none⟩ (x2)).setCell ⟨r, 3, none⟩ (x3)).setCell ⟨r, 4, none⟩ (x4)).setCell ⟨r, 5, none⟩ (x5)).setCell ⟨r, 6, none⟩ (x6)).heap.size = w1.heap.size := by
  replace hk : (World.setCell _ _ _).heap[r]? = some (Obj.cells #[x0, d1, d2, d3, d4, d5, d6] 31 (0, 0)) := box_set (i := 0) (v := x0) hk
  replace hk : (World.setCell _ _ _).heap[r]? = some (Obj.cells #[x0, x1, d2, d3, d4, d5, d6] 31 (0, 0)) := box_set (i := 1) (v := x1) hk
  replace hk : (World.setCell _ _ _).heap[r]? = some (Obj.cells #[x0, x1, x2, d3, d4, d5, d6] 31 (0, 0)) := box_set (i := 2) (v := x2) hk
  replace hk : (World.setCell _ _ _).heap[r]? = some (Obj.cells #[x0, x1, x2, x3, d4, d5, d6] 31 (0, 0)) := box_set (i := 3) (v := x3) hk
  replace hk : (World.setCell _ _ _).heap[r]? = some (Obj.cells #[x0, x1, x2, x3, x4, d5, d6] 31 (0, 0)) := box_set (i := 4) (v := x4) hk
  replace hk : (World.setCell _ _ _).heap[r]? = some (Obj.cells #[x0, x1, x2, x3, x4, x5, d6] 31 (0, 0)) := box_set (i := 5) (v := x5) hk
  replace hk : (World.setCell _ _ _).heap[r]? = some (Obj.cells #[x0, x1, x2, x3, x4, x5, x6] 31 (0, 0)) := box_set (i := 6) (v := x6) hk
  refine ⟨hk, (((((((hb.setCell hr _).setCell hr _).setCell hr _).setCell hr _).setCell hr _).setCell hr _).setCell hr _), fun k hk => ?_, by simp only [box_size]⟩
  rw [Below.heap_setCell _ _ _ _ (show k ≠ r from hk), Below.heap_setCell _ _ _ _ (show k ≠ r from hk), Below.heap_setCell _ _ _ _ (show k ≠ r from hk), Below.heap_setCell _ _ _ _ (show k ≠ r from hk), Below.heap_setCell _ _ _ _ (show k ≠ r from hk), Below.heap_setCell _ _ _ _ (show k ≠ r from hk), Below.heap_setCell _ _ _ _ (show k ≠ r from hk)]

theorem ret_mrg {o c : BoxD} {b : Bool} {v : Value} (h : mergeB o c = b) : Ending.returned (.tuple #[v, .bool b]) = .returned (.tuple #[v, .bool (mergeB o c)]) := by rw [h]
theorem mergeD_no {o c : BoxD} (h : mergeB o c = false) : mergeD o c = nilX := by unfold mergeD; rw [h]; rfl
theorem mergeD_yes {o c : BoxD} (h : mergeB o c = true) : mergeD o c = ⟨c.name, c.valid, c.next, c.seq, mergedM o c, [], c.lost⟩ := by unfold mergeD; rw [h]; rfl
theorem boxes3 (w : World) (o0 o1 o2 : Obj) : (((w.alloc o0).alloc o1).alloc o2).heap[w.heap.size]? = some o0 ∧ (((w.alloc o0).alloc o1).alloc o2).heap[w.heap.size + 1]? = some o1 ∧ (((w.alloc o0).alloc o1).alloc o2).heap[w.heap.size + 2]? = some o2 ∧ Below w.heap.size w (((w.alloc o0).alloc o1).alloc o2) ∧ (((w.alloc o0).alloc o1).alloc o2).heap.size = w.heap.size + 3 := by
  obtain ⟨h0, h1, h2⟩ := boxes2 w o0 o1
  have hs : ((w.alloc o0).alloc o1).heap.size = w.heap.size + 2 := by simp
  have hb : Below ((w.alloc o0).alloc o1).heap.size ((w.alloc o0).alloc o1) (((w.alloc o0).alloc o1).alloc o2) := (Below.refl _ _).alloc (Nat.le_refl _) _
  have h3 := box_new ((w.alloc o0).alloc o1) o2
  rw [hs] at h3
  exact ⟨box_below hb h0, box_below hb h1, h3, Below.step h2 hb, by simp⟩
theorem below_gb {w w1 w2 : World} {N g : Nat} (h : Below N w w1) (hg : w1.grownBy w2 (some g)) (hN : N ≤ g) (hN1 : N ≤ w1.heap.size) : Below N w w2 :=
  ⟨hg.os.trans h.os, hg.tape.trans h.tape, hg.output.trans h.output, Nat.le_trans h.size hg.size, fun k hk => (hg.block k (by omega) (fun e => by have := Option.some.inj e; omega)).trans (h.block k hk)⟩

set_option maxRecDepth 100000 in
set_option maxHeartbeats 4000000 in
theorem implMerge_r (v u : Value) (o c : BoxD) (w : World) (hv : BoxV w v o) (hu : BoxV w u c) (hso : szX o ≤ 2000000) (hsc : szX c ≤ 2000000) :
    Calls Try.prog 7 #[v, u] w fun e w' => ∃ x, e = .returned (.tuple #[x, .bool (mergeB o c)]) ∧ BoxO w' (In w.heap.size w'.heap.size) x (mergeD o c) ∧ Below w.heap.size w w' := by
  have HV : Hid (∀ wi, Below w.heap.size w wi → BoxV wi v o ∧ BoxV wi u c) := fun wi h => ⟨hv.below h, hu.below h⟩
  obtain ⟨u0, u1, u2, rfl, g0, g1, g2, hio⟩ := hv
  obtain ⟨u3, u4, u5, rfl, g3, g4, g5, hic⟩ := hu
  obtain ⟨a0, n0, c0, rfl⟩ := g0.form3
  obtain ⟨a1, c1, rfl, m1, m1'⟩ := g1.form
  obtain ⟨a2, c2, rfl, m2, m2'⟩ := g2.form
  obtain ⟨a3, n3, c3, rfl⟩ := g3.form3
  obtain ⟨a4, c4, rfl, m4, m4'⟩ := g4.form
  obtain ⟨a5, c5, rfl, m5, m5'⟩ := g5.form
  have HIO : Hid (I64 o.valid ∧ I64 o.next ∧ I64 o.seq ∧ I64 o.lost) := hio
  have HIC : Hid (I64 c.valid ∧ I64 c.next ∧ I64 c.seq ∧ I64 c.lost) := hic
  have HG : Hid (∀ wi, Below w.heap.size w wi → GonesV wi (.slice a5 c.gones.length c5) c.gones) := fun wi h => g5.below keepsGone h
  clear g0 g1 g2 g3 g4 g5 hio hic
  have hmm := @run_makeMap Try.prog
  have HMB : Hid (mergeB o c = (boxB o 1000000 && (boxB c 1000000 && (laterB o c && decide ((mergedM o c).length ≤ 12))))) := rfl
  obtain ⟨kO, kC, kR, X, hsz⟩ := boxes3 w (.cells #[.slice a0 n0 c0, .int .i64 o.valid, .int .i64 o.next, .int .i64 o.seq, .slice a1 o.mails.length c1, .slice a2 o.gones.length c2, .int .i64 o.lost] 31) (.cells #[.slice a3 n3 c3, .int .i64 c.valid, .int .i64 c.next, .int .i64 c.seq, .slice a4 c.mails.length c4, .slice a5 c.gones.length c5, .int .i64 c.lost] 31) (.cells #[.slice none 0 0, .int .i64 0, .int .i64 0, .int .i64 0, .slice none 0 0, .slice none 0 0, .int .i64 0] 31)
  have HKO : Hid _ := kO
  have HKC : Hid _ := kC
  have HKR : Hid _ := kR
  have HX : Hid _ := X
  have ho := boxOk_any _ o 1000000 _ (HV.out _ X).1
  have hnl : c.name.length ≤ 2000000 := by unfold szX at hsc; omega
  have hgl : c.gones.length ≤ 2000000 := by unfold szX at hsc; omega
  clear hso hsc
  obtain ⟨p0, p1, p2, p3, p4, p5, p6⟩ := bx7 kO
  clear kO kC kR X
  go_enter Try.func7, Try.ntmps7
  go_wp2_with fail
  clear p0 p1 p2 p3 p4 p5 p6
  generalize ((w.alloc (.cells #[.slice a0 n0 c0, .int .i64 o.valid, .int .i64 o.next, .int .i64 o.seq, .slice a1 o.mails.length c1, .slice a2 o.gones.length c2, .int .i64 o.lost] 31)).alloc (.cells #[.slice a3 n3 c3, .int .i64 c.valid, .int .i64 c.next, .int .i64 c.seq, .slice a4 c.mails.length c4, .slice a5 c.gones.length c5, .int .i64 c.lost] 31)).alloc (.cells #[.slice none 0 0, .int .i64 0, .int .i64 0, .int .i64 0, .slice none 0 0, .slice none 0 0, .int .i64 0] 31) = wA at HKO HKC HKR HX hsz ho ⊢
  refine ho.mono ?_
  rintro e w1 ⟨rfl, B1⟩
  have HKO1 : Hid _ := box_below B1 HKO.out
  have HKC1 : Hid _ := box_below B1 HKC.out
  have HKR1 : Hid _ := box_below B1 HKR.out
  have HX1 : Hid (Below w.heap.size w w1) := Below.step HX.out B1
  have s1 : w.heap.size + 3 ≤ w1.heap.size := by have := B1.size; omega
  clear HKO HKC HKR HX hsz ho B1
  cases X1 : boxB o 1000000 with
  | false =>
    have HM : mergeB o c = false := by rw [HMB.out, X1]; rfl
    obtain ⟨r0, r1, r2, r3, r4, r5, r6⟩ := bx7 HKR1.out
    obtain ⟨rz, rl⟩ := box8z HKR1.out
    have HF : Hid _ := res7 HKR1.out (N := w.heap.size) (by omega) HX1.out (.slice none 0 0) (.int .i64 0) (.int .i64 0) (.int .i64 0) (.slice none 0 0) (.slice none 0 0) (.int .i64 0)
    go_wp2
    obtain ⟨f0, f1, f2, f3, f4, f5, f6⟩ := bx7 HF.out.1
    refine bodyPost_ret (v := .tuple #[.agg #[.slice none 0 0, .int .i64 0, .int .i64 0, .int .i64 0, .slice none 0 0, .slice none 0 0, .int .i64 0], .bool false]) (by simp [results, Try.results7, go_sem, f0, f1, f2, f3, f4, f5, f6]) rfl ⟨_, ret_mrg HM, ?_, HF.out.2.1⟩
    rw [mergeD_no HM]
    exact ⟨_, rfl, _, _, _, fun _ => False, fun _ => False, fun _ => False, rfl, RO.nil _ _, .inl ⟨rfl, rfl⟩, .inl ⟨rfl, rfl⟩, fun _ h => h.elim, fun _ h => h.elim, fun _ h => h.elim, i64c0, i64c0, i64c0, i64c0⟩
  | true =>
    have HO1 : Hid (boxB o 1000000 = true) := X1
    clear X1
    have hc := boxOk_any _ c 1000000 _ (HV.out _ HX1.out).2
    obtain ⟨p0, p1, p2, p3, p4, p5, p6⟩ := bx7 HKC1.out
    have lC := lt_of_heap HKC1.out
    go_wp2_with fail
    clear p0 p1 p2 p3 p4 p5 p6
    refine hc.mono ?_
    rintro e w2 ⟨rfl, B2⟩
    have HKO2 : Hid _ := box_below B2 HKO1.out
    have HKC2 : Hid _ := box_below B2 HKC1.out
    have HKR2 : Hid _ := box_below B2 HKR1.out
    have HX2 : Hid (Below w.heap.size w w2) := Below.step HX1.out B2
    have s2 : w.heap.size + 3 ≤ w2.heap.size := by have := B2.size; omega
    clear HKO1 HKC1 HKR1 HX1 s1 hc B2 lC
    cases X2 : boxB c 1000000 with
    | false =>
      have HM : mergeB o c = false := by rw [HMB.out, X2, HO1.out]; rfl
      obtain ⟨r0, r1, r2, r3, r4, r5, r6⟩ := bx7 HKR2.out
      obtain ⟨rz, rl⟩ := box8z HKR2.out
      have HF : Hid _ := res7 HKR2.out (N := w.heap.size) (by omega) HX2.out (.slice none 0 0) (.int .i64 0) (.int .i64 0) (.int .i64 0) (.slice none 0 0) (.slice none 0 0) (.int .i64 0)
      go_wp2
      obtain ⟨f0, f1, f2, f3, f4, f5, f6⟩ := bx7 HF.out.1
      refine bodyPost_ret (v := .tuple #[.agg #[.slice none 0 0, .int .i64 0, .int .i64 0, .int .i64 0, .slice none 0 0, .slice none 0 0, .int .i64 0], .bool false]) (by simp [results, Try.results7, go_sem, f0, f1, f2, f3, f4, f5, f6]) rfl ⟨_, ret_mrg HM, ?_, HF.out.2.1⟩
      rw [mergeD_no HM]
      exact ⟨_, rfl, _, _, _, fun _ => False, fun _ => False, fun _ => False, rfl, RO.nil _ _, .inl ⟨rfl, rfl⟩, .inl ⟨rfl, rfl⟩, fun _ h => h.elim, fun _ h => h.elim, fun _ h => h.elim, i64c0, i64c0, i64c0, i64c0⟩
    | true =>
      have HC1 : Hid (boxB c 1000000 = true) := X2
      clear X2
      have hl := laterOf_any _ _ o c _ (HV.out _ HX2.out).1 (HV.out _ HX2.out).2
      obtain ⟨p0, p1, p2, p3, p4, p5, p6⟩ := bx7 HKO2.out
      obtain ⟨q0, q1, q2, q3, q4, q5, q6⟩ := bx7 HKC2.out
      have lO := lt_of_heap HKO2.out
      have lC := lt_of_heap HKC2.out
      go_wp2_with fail
      clear p0 p1 p2 p3 p4 p5 p6 q0 q1 q2 q3 q4 q5 q6
      refine hl.mono ?_
      rintro e w3 ⟨rfl, B3⟩
      have HKO3 : Hid _ := box_below B3 HKO2.out
      have HKC3 : Hid _ := box_below B3 HKC2.out
      have HKR3 : Hid _ := box_below B3 HKR2.out
      have HX3 : Hid (Below w.heap.size w w3) := Below.step HX2.out B3
      have s3 : w.heap.size + 3 ≤ w3.heap.size := by have := B3.size; omega
      clear HKO2 HKC2 HKR2 HX2 s2 hl B3 lC lO
      cases X3 : laterB o c with
      | false =>
        have HM : mergeB o c = false := by rw [HMB.out, X3, HO1.out, HC1.out]; rfl
        obtain ⟨r0, r1, r2, r3, r4, r5, r6⟩ := bx7 HKR3.out
        obtain ⟨rz, rl⟩ := box8z HKR3.out
        have HF : Hid _ := res7 HKR3.out (N := w.heap.size) (by omega) HX3.out (.slice none 0 0) (.int .i64 0) (.int .i64 0) (.int .i64 0) (.slice none 0 0) (.slice none 0 0) (.int .i64 0)
        go_wp2
        obtain ⟨f0, f1, f2, f3, f4, f5, f6⟩ := bx7 HF.out.1
        refine bodyPost_ret (v := .tuple #[.agg #[.slice none 0 0, .int .i64 0, .int .i64 0, .int .i64 0, .slice none 0 0, .slice none 0 0, .int .i64 0], .bool false]) (by simp [results, Try.results7, go_sem, f0, f1, f2, f3, f4, f5, f6]) rfl ⟨_, ret_mrg HM, ?_, HF.out.2.1⟩
        rw [mergeD_no HM]
        exact ⟨_, rfl, _, _, _, fun _ => False, fun _ => False, fun _ => False, rfl, RO.nil _ _, .inl ⟨rfl, rfl⟩, .inl ⟨rfl, rfl⟩, fun _ h => h.elim, fun _ h => h.elim, fun _ h => h.elim, i64c0, i64c0, i64c0, i64c0⟩
      | true =>
        have OKO : Hid (OkM o) := okM_of HO1.out
        have OKC : Hid (OkM c) := okM_of HC1.out
        have HL1 : Hid (o.valid = c.valid ∧ o.next ≤ c.next) := by
          simp only [laterB, Bool.and_eq_true, decide_eq_true_eq] at X3
          exact ⟨X3.2.1, X3.2.2.2⟩
        have HMB2 : Hid (mergeB o c = decide ((mergedM o c).length ≤ 12)) := by
          show _ = _
          rw [HMB.out, X3, HO1.out, HC1.out]; rfl
        clear X3 HMB
        have A4 : Below w3.heap.size w3 (w3.alloc (.map #[] 0)) := (Below.refl _ _).alloc (Nat.le_refl _) _
        have hlay := lay_any w3.heap.size 0 [] _ o _ (MM.made w3) (HV.out _ (Below.step HX3.out A4)).1 (by omega) (by have := OKO.out.len; omega)
        have HKO4 : Hid _ := box_below A4 HKO3.out
        have HKC4 : Hid _ := box_below A4 HKC3.out
        have HKR4 : Hid _ := box_below A4 HKR3.out
        have HX4 : Hid (Below w.heap.size w (w3.alloc (.map #[] 0))) := Below.step HX3.out A4
        have lO := lt_of_heap HKO4.out
        obtain ⟨p0, p1, p2, p3, p4, p5, p6⟩ := bx7 HKO4.out
        go_wp2_with fail
        clear p0 p1 p2 p3 p4 p5 p6
        refine hlay.mono ?_
        rintro e w5 ⟨rfl, hM5, hG5⟩
        have HKO5 : Hid _ := gb_at hG5 HKO4.out (by omega)
        have HKC5 : Hid _ := gb_at hG5 HKC4.out (by omega)
        have HKR5 : Hid _ := gb_at hG5 HKR4.out (by omega)
        have HX5 : Hid (Below w.heap.size w w5) := below_gb HX4.out hG5 (by omega) (by have := HX4.out.size; omega)
        have s5 : w3.heap.size < w5.heap.size := hM5.lt
        have HM5 : Hid (MM w5 w3.heap.size (0 + o.mails.length) (layE [] o.valid o.mails)) := hM5
        clear HKO3 HKC3 HKR3 HX3 HKO4 HKC4 HKR4 HX4 A4 hlay lO hM5 hG5
        obtain ⟨q0, q1, q2, q3, q4, q5, q6⟩ := bx7 HKC5.out
        have lC := lt_of_heap HKC5.out
        go_wp2
        clear q0 q1 q2 q3 q4 q5 q6 lC
        generalize hg : w3.heap.size = g at *
        have hgs : w.heap.size + 3 ≤ g := s3
        clear hg s3
        go_loopw [32] (fun i wr => ∃ k : Nat, k ≤ c.gones.length ∧ i = .int .i64 k ∧ Hid (MM wr g (0 + o.mails.length) (delAll (layE [] o.valid o.mails) o.valid (c.gones.take k))) ∧ Hid (Below w.heap.size w wr) ∧ Hid (wr.heap[w.heap.size]? = some (.cells #[.slice a0 n0 c0, .int .i64 o.valid, .int .i64 o.next, .int .i64 o.seq, .slice a1 o.mails.length c1, .slice a2 o.gones.length c2, .int .i64 o.lost] 31 (0, 0))) ∧ Hid (wr.heap[w.heap.size + 1]? = some (.cells #[.slice a3 n3 c3, .int .i64 c.valid, .int .i64 c.next, .int .i64 c.seq, .slice a4 c.mails.length c4, .slice a5 c.gones.length c5, .int .i64 c.lost] 31 (0, 0))) ∧ Hid (wr.heap[w.heap.size + 2]? = some (.cells #[.slice none 0 0, .int .i64 0, .int .i64 0, .int .i64 0, .slice none 0 0, .slice none 0 0, .int .i64 0] 31 (0, 0)))) (fun i _ => c.gones.length - (intOf i).toNat)
        case atStart => exact ⟨0, Nat.zero_le _, rfl, HM5.out, HX5.out, HKO5.out, HKC5.out, HKR5.out⟩
        case round =>
          obtain ⟨k, hk, rfl, hM, hB, hO, hC, hR⟩ := hrel
          clear HM5 HX5 HKO5 HKC5 HKR5 s5
          have lg := hM.out.lt
          by_cases hlt : k < c.gones.length
          · obtain ⟨y, hy⟩ : ∃ y, c.gones[k]? = some y := ⟨c.gones[k], List.getElem?_eq_getElem hlt⟩
            obtain ⟨b, off, cp, hv', hlb, e0, e1, j0, j1⟩ := GonesV.cell (HG.out wr hB.out) k y hy
            simp only [Value.slice.injEq, true_and] at hv'
            obtain ⟨rfl, rfl⟩ := hv'
            have hki : (k : Int) < c.gones.length := by omega
            have A : Below wr.heap.size wr (wr.alloc (.cells #[.int .i64 y.uid, .int .i64 y.seq] 53)) := (Below.refl _ _).alloc (Nat.le_refl _) _
            have HMA : Hid _ := hM.out.below A
            have HOA : Hid _ := box_below A hO.out
            have HCA : Hid _ := box_below A hC.out
            have HRA : Hid _ := box_below A hR.out
            have HBA : Hid _ := Below.step hB.out A
            have lO := lt_of_heap hO.out
            obtain ⟨p0, p1, p2, p3, p4, p5, p6⟩ := bx7 hO.out
            have HY : Hid (c.gones[k]? = some y) := hy
            have J0 : Hid (I64 y.uid) := j0
            have sA : w.heap.size + 3 ≤ (wr.alloc (.cells #[.int .i64 y.uid, .int .i64 y.seq] 53)).heap.size := by have := A.size; omega
            clear hM hB hO hC hR A hy j0 j1
            go_wp2_with (first | (at_delete; refine wpList_mm_del rfl _ _ rfl rfl HMA.out _ _ rfl HIO.out.1 J0.out ?_; intro w6 hM6 hG6 hC6; go_frame) | go_in)
            have HM6 : Hid (MM w6 g (0 + o.mails.length) (delAll (layE [] o.valid o.mails) o.valid (c.gones.take (k + 1)))) := by
              rw [delAll_step HY.out]
              exact hM6
            have HO6 : Hid _ := gb_at hG6 HOA.out (by omega)
            have HC6 : Hid _ := gb_at hG6 HCA.out (by omega)
            have HR6 : Hid _ := gb_at hG6 HRA.out (by omega)
            have HB6 : Hid _ := below_gb HBA.out hG6 (by omega) (by omega)
            clear hM6 hG6 hC6 HMA HOA HCA HRA HBA
            go_wp2
            go_roundw
            case rel => exact ⟨k + 1, by omega, by simp, HM6.out, HB6.out, HO6.out, HC6.out, HR6.out⟩
            case measure => simp [intOf]; omega
          · obtain rfl : k = c.gones.length := by omega
            have HME : Hid (MM wr g (0 + o.mails.length) (delAll (layE [] o.valid o.mails) o.valid c.gones)) := by
              have := hM.out
              rw [List.take_length] at this
              exact this
            have hlay := lay_any g (0 + o.mails.length) _ _ c _ HME.out (HV.out _ hB.out).2 (by have := OKO.out.len; omega) (by have := OKC.out.len; omega)
            obtain ⟨q0, q1, q2, q3, q4, q5, q6⟩ := bx7 hC.out
            have lC := lt_of_heap hC.out
            clear hM
            go_wp2_with fail
            clear q0 q1 q2 q3 q4 q5 q6 lC
            refine hlay.mono ?_
            rintro e w7 ⟨rfl, hM7, hG7⟩
            have HM7 : Hid (MM w7 g (0 + o.mails.length + c.mails.length) (entsM o c)) := by
              have := hM7
              rw [HL1.out.1] at this
              exact this
            have HC7 : Hid _ := gb_at hG7 hC.out (by omega)
            have HR7 : Hid _ := gb_at hG7 hR.out (by omega)
            have s7 : w.heap.size + 3 ≤ w7.heap.size := by have := hM7.lt; omega
            have HX7 : Hid (Below w.heap.size w w7) := below_gb hB.out hG7 (by omega) (by omega)
            have HEL : Hid ((entsM o c).length = (mergedM o c).length) := by
              obtain ⟨D, -, -, d3, d4, -⟩ := HM7.out
              exact ents_len d3 (entsM_one o c) (fun e he => (d4 e he).2) (entsM_of OKO.out OKC.out HL1.out.2)
            clear hM7 hG7 hlay HME hB hO hC hR lg
            by_cases h12 : (mergedM o c).length ≤ 12
            · have HM : mergeB o c = true := by rw [HMB2.out]; simpa using h12
              have HMT : Hid (mergeB o c = true) := HM
              have hgt : decide ((12 : Int) < ((entsM o c).length : Int)) = false := by rw [HEL.out]; simp; omega
              have H12 : Hid ((mergedM o c).length ≤ 12) := h12
              clear HM h12
              have hbare := bareBox_o _ c _ (HV.out _ HX7.out).2 hnl
              obtain ⟨q0, q1, q2, q3, q4, q5, q6⟩ := bx7 HC7.out
              have lC := lt_of_heap HC7.out
              go_wp2_with (first | (at_len; refine wpList_mm_len rfl _ rfl rfl HM7.out ?_) | fail)
              refine hbare.mono ?_
              rintro e w8 ⟨xa, xn, xc, rfl, hRO, hB8⟩
              have A9 : Below w8.heap.size w8 (w8.alloc (.cells #[.slice xa xn xc, .int .i64 c.valid, .int .i64 c.next, .int .i64 c.seq, .slice none 0 0, .slice none 0 0, .int .i64 c.lost] 31)) := (Below.refl _ _).alloc (Nat.le_refl _) _
              have HM9 := (HM7.out.below hB8).below A9
              have hsince := since_any g _ (entsM o c) c.valid 0 (mergedM o c) _ HM9 (by have := OKO.out.len; have := OKC.out.len; omega) HIC.out.1 (entsM_of OKO.out OKC.out HL1.out.2) H12.out (fun m hm => by have := mergedM_text OKO.out OKC.out m hm; omega)
              rw [mergedM_seq OKO.out OKC.out] at hsince
              have HC9 : Hid _ := box_below A9 (box_below hB8 HC7.out)
              have HR9 : Hid _ := box_below A9 (box_below hB8 HR7.out)
              have HX9 : Hid (Below w.heap.size w (w8.alloc (.cells #[.slice xa xn xc, .int .i64 c.valid, .int .i64 c.next, .int .i64 c.seq, .slice none 0 0, .slice none 0 0, .int .i64 c.lost] 31))) := Below.step (Below.step HX7.out hB8) A9
              have HBX9 : Hid _ := box_new w8 (.cells #[.slice xa xn xc, .int .i64 c.valid, .int .i64 c.next, .int .i64 c.seq, .slice none 0 0, .slice none 0 0, .int .i64 c.lost] 31)
              have HRO : Hid (RO w8 (In w7.heap.size w8.heap.size) (.slice xa xn xc) c.name) := hRO
              have s8 : w7.heap.size ≤ w8.heap.size := hB8.size
              have s9 : (w8.alloc (.cells #[.slice xa xn xc, .int .i64 c.valid, .int .i64 c.next, .int .i64 c.seq, .slice none 0 0, .slice none 0 0, .int .i64 c.lost] 31)).heap.size = w8.heap.size + 1 := by simp
              have HA9 : Hid _ := A9
              clear q0 q1 q2 q3 q4 q5 q6 lC hRO hB8 A9 HM9 hbare HC7 HR7 HX7
              obtain ⟨q0, q1, q2, q3, q4, q5, q6⟩ := bx7 HC9.out
              have lC := lt_of_heap HC9.out
              go_wp2_with fail
              clear q0 q1 q2 q3 q4 q5 q6 lC
              generalize w8.alloc (.cells #[.slice xa xn xc, .int .i64 c.valid, .int .i64 c.next, .int .i64 c.seq, .slice none 0 0, .slice none 0 0, .int .i64 c.lost] 31) = w9 at hsince HC9 HR9 HX9 HBX9 s9 HA9 ⊢
              refine hsince.mono ?_
              rintro e w10 ⟨lv, rfl, hML, hB10⟩
              obtain ⟨la, ln, lc, rfl⟩ : ∃ a n c, lv = .slice a n c := by
                rcases hML with ⟨h, -⟩ | ⟨_, _, _, _, _, h, -⟩
                · exact ⟨_, _, _, h⟩
                · exact ⟨_, _, _, h⟩
              have KB := box_below hB10 HBX9.out
              have KR := box_below hB10 HR9.out
              have X10 := Below.step HX9.out hB10
              have s10 : w9.heap.size ≤ w10.heap.size := hB10.size
              obtain ⟨q0, q1, q2, q3, q4, q5, q6⟩ := bx7 KB
              obtain ⟨qz, ql⟩ := box8z KB
              have K11 := box_set (i := 4) (v := .slice la ln lc) KB
              have KR11 := box_other (k := w8.heap.size) (i := 4) (v := .slice la ln lc) KR (by omega)
              have X11 := X10.setCell (p := ⟨w8.heap.size, 4, none⟩) (show w.heap.size ≤ w8.heap.size by omega) (.slice la ln lc)
              have e11 : (w10.setCell ⟨w8.heap.size, 4, none⟩ (.slice la ln lc)).heap.size = w10.heap.size := box_size
              have HF : Hid _ := res7 KR11 (N := w.heap.size) (by omega) X11 (.slice xa xn xc) (.int .i64 c.valid) (.int .i64 c.next) (.int .i64 c.seq) (.slice la ln lc) (.slice none 0 0) (.int .i64 c.lost)
              have HRO2 : Hid (RO w10 (In w7.heap.size w8.heap.size) (.slice xa xn xc) c.name) := (HRO.out.below HA9.out).below hB10
              have HML : Hid (MailsO w10 (In w9.heap.size w10.heap.size) (.slice la ln lc) (mergedM o c)) := hML
              have HW : Hid (∀ k, k ≠ w.heap.size + 2 → k ≠ w8.heap.size → ((((((((w10.setCell ⟨w8.heap.size, 4, none⟩ (.slice la ln lc)).setCell ⟨w.heap.size + 2, 0, none⟩ (.slice xa xn xc)).setCell ⟨w.heap.size + 2, 1, none⟩ (.int .i64 c.valid)).setCell ⟨w.heap.size + 2, 2, none⟩ (.int .i64 c.next)).setCell ⟨w.heap.size + 2, 3, none⟩ (.int .i64 c.seq)).setCell ⟨w.heap.size + 2, 4, none⟩ (.slice la ln lc)).setCell ⟨w.heap.size + 2, 5, none⟩ (.slice none 0 0)).setCell ⟨w.heap.size + 2, 6, none⟩ (.int .i64 c.lost)).heap[k]? = w10.heap[k]?) := fun k h1 h2 => (HF.out.2.2.1 k h1).trans (Below.heap_setCell _ _ _ _ (show k ≠ w8.heap.size from h2))
              obtain ⟨f0, f1, f2, f3, f4, f5, f6⟩ := bx7 HF.out.1
              have K11' : (w10.setCell ⟨w8.heap.size, 4, none⟩ (.slice la ln lc)).heap[w8.heap.size]? = some (.cells #[.slice xa xn xc, .int .i64 c.valid, .int .i64 c.next, .int .i64 c.seq, .slice la ln lc, .slice none 0 0, .int .i64 c.lost] 31 (0, 0)) := K11
              obtain ⟨t0, t1, t2, t3, t4, t5, t6⟩ := bx7 K11'
              obtain ⟨rz, rl⟩ := box8z KR11
              obtain ⟨r0, r1, r2, r3, r4, r5, r6⟩ := bx7 KR11
              clear hML hB10 hsince HRO
              go_wp2
              refine bodyPost_ret (v := .tuple #[.agg #[.slice xa xn xc, .int .i64 c.valid, .int .i64 c.next, .int .i64 c.seq, .slice la ln lc, .slice none 0 0, .int .i64 c.lost], .bool true]) (by simp [results, Try.results7, go_sem, f0, f1, f2, f3, f4, f5, f6]) rfl ⟨_, ret_mrg HMT.out, ?_, HF.out.2.1⟩
              rw [mergeD_yes HMT.out]
              refine ⟨_, rfl, _, _, _, In w7.heap.size w8.heap.size, In w9.heap.size w10.heap.size, fun _ => False, rfl, HRO2.out.frame fun b hb _ => HW.out b (by have := hb.1; omega) (by have := hb.2; omega), HML.out.frame framesMail fun b hb _ => HW.out b (by have := hb.1; omega) (by have := hb.1; omega), .inl ⟨rfl, rfl⟩, fun b hb => ⟨⟨by have := hb.1; omega, ?_⟩, fun h => by have := hb.2; have := h.1; omega, fun h => h⟩, fun b hb => ⟨⟨by have := hb.1; omega, ?_⟩, fun h => h⟩, fun _ h => h.elim, HIC.out⟩
              · rw [HF.out.2.2.2, e11]; have := hb.2; omega
              · rw [HF.out.2.2.2, e11]; exact hb.2
            · have HM : mergeB o c = false := by rw [HMB2.out]; simpa using h12
              have hgt : decide ((12 : Int) < ((entsM o c).length : Int)) = true := by rw [HEL.out]; simp; omega
              obtain ⟨r0, r1, r2, r3, r4, r5, r6⟩ := bx7 HR7.out
              obtain ⟨rz, rl⟩ := box8z HR7.out
              have HF : Hid _ := res7 HR7.out (N := w.heap.size) (by omega) HX7.out (.slice none 0 0) (.int .i64 0) (.int .i64 0) (.int .i64 0) (.slice none 0 0) (.slice none 0 0) (.int .i64 0)
              go_wp2_with (first | (at_len; refine wpList_mm_len rfl _ rfl rfl HM7.out ?_) | go_in)
              obtain ⟨f0, f1, f2, f3, f4, f5, f6⟩ := bx7 HF.out.1
              refine bodyPost_ret (v := .tuple #[.agg #[.slice none 0 0, .int .i64 0, .int .i64 0, .int .i64 0, .slice none 0 0, .slice none 0 0, .int .i64 0], .bool false]) (by simp [results, Try.results7, go_sem, f0, f1, f2, f3, f4, f5, f6]) rfl ⟨_, ret_mrg HM, ?_, HF.out.2.1⟩
              rw [mergeD_no HM]
              exact ⟨_, rfl, _, _, _, fun _ => False, fun _ => False, fun _ => False, rfl, RO.nil _ _, .inl ⟨rfl, rfl⟩, .inl ⟨rfl, rfl⟩, fun _ h => h.elim, fun _ h => h.elim, fun _ h => h.elim, i64c0, i64c0, i64c0, i64c0⟩

end Go.Proofs.Ytodoofdbpffolaa

/- Plain facts on boxes. -/
namespace Go.Proofs.Ytodoofdbpffolaa
set_option linter.unusedVariables false

theorem mailNo {q uid next flags seq bs : Int} {T : Bool} (hq : 0 ≤ q) (h : uid < 1 ∨ next ≤ uid ∨ uid ≤ q ∨ flags < 0 ∨ 31 < flags ∨ seq < 1 ∨ bs < seq ∨ T = false) : (inB uid (q + 1) (next - 1) && (inB flags 0 31 && (inB seq 1 bs && T))) = false := by
  rw [Bool.eq_false_iff]
  intro e
  simp only [inB, Bool.and_eq_true, decide_eq_true_eq] at e
  obtain ⟨⟨e1, e2⟩, ⟨e3, e4⟩, ⟨e5, e6⟩, e7⟩ := e
  rcases h with h | h | h | h | h | h | h | h
  all_goals first | omega | (rw [h] at e7; cases e7)
theorem mailYes {q uid next flags seq bs : Int} {T : Bool} (h0 : q < uid) (h1 : uid < next) (h2 : 0 ≤ flags) (h3 : flags ≤ 31) (h4 : 1 ≤ seq) (h5 : seq ≤ bs) (h6 : 1 ≤ uid) (h7 : T = true) : (inB uid (q + 1) (next - 1) && (inB flags 0 31 && (inB seq 1 bs && T))) = true := by
  simp only [inB, Bool.and_eq_true, decide_eq_true_eq]
  exact ⟨⟨by omega, by omega⟩, ⟨h2, h3⟩, ⟨h4, h5⟩, h7⟩
theorem goneNo {uid next seq ms bs : Int} {M G : Bool} (h : uid < 1 ∨ next ≤ uid ∨ M = true ∨ bs < seq ∨ seq < ms ∨ G = true) : (inB uid 1 (next - 1) && (inB seq ms bs && (!M && !G))) = false := by
  rw [Bool.eq_false_iff]
  intro e
  simp only [inB, Bool.and_eq_true, decide_eq_true_eq, Bool.not_eq_true'] at e
  obtain ⟨⟨e1, e2⟩, ⟨e3, e4⟩, e5, e6⟩ := e
  rcases h with h | h | h | h | h | h
  all_goals first | omega | (rw [h] at e5; cases e5) | (rw [h] at e6; cases e6)
theorem goneYes {uid next seq ms bs : Int} {M G : Bool} (h0 : 1 ≤ uid) (h1 : uid < next) (h2 : ms ≤ seq) (h3 : seq ≤ bs) (h4 : M = false) (h5 : G = false) : (inB uid 1 (next - 1) && (inB seq ms bs && (!M && !G))) = true := by
  simp only [inB, Bool.and_eq_true, decide_eq_true_eq, Bool.not_eq_true']
  exact ⟨⟨h0, by omega⟩, ⟨h2, h3⟩, h4, h5⟩
theorem boxB_noM {x : BoxD} {mv : Int} (h : (List.range x.mails.length).all (mailAt x) = false) : boxB x mv = false := by simp [boxB, mailsB, h]
def earlyB (x : BoxD) (k : Nat) : Bool := match x.gones[k]? with
  | some m => decide (m.uid < 1) || (decide (x.next ≤ m.uid) || ((x.mails.any fun o => decide (o.uid = m.uid)) || (decide (m.seq < 1) || decide (x.seq < m.seq))))
  | none => false
theorem first_bad {p : Nat → Bool} {n : Nat} (h : (List.range n).all p = false) : ∃ k, k < n ∧ (∀ j, j < k → p j = true) ∧ p k = false := by
  apply Classical.byContradiction
  intro hno
  have hall : ∀ k, k < n → p k = true := fun k => Nat.strongRecOn k (fun k ih hk => by
    cases hp : p k with
    | true => rfl
    | false => exact absurd ⟨k, hk, fun j hj => ih j hj (by omega), hp⟩ hno)
  have : (List.range n).all p = true := List.all_eq_true.2 (fun k hk => hall k (List.mem_range.1 hk))
  rw [this] at h; cases h
theorem only_bad {p : Nat → Bool} {k j : Nat} (h1 : ∀ i, i < k → p i = true) (h2 : p k = false) (h3 : ∀ i, i < j → p i = true) (h4 : p j = false) : j = k := by
  rcases Nat.lt_trichotomy j k with h | h | h
  · rw [h1 j h] at h4; cases h4
  · exact h
  · rw [h3 k h] at h2; cases h2
theorem boxB_noG {x : BoxD} {mv : Int} (h : (List.range x.gones.length).all (goneAt x) = false) : boxB x mv = false := by simp [boxB, gonesB, h]

def clsB (x : BoxD) (k : Nat) : Nat := match x.gones[k]? with
  | some m => if m.uid < 1 then 1 else if x.next ≤ m.uid then 2 else if (x.mails.any fun o => decide (o.uid = m.uid)) = true then 3 else if m.seq < 1 then 4 else if x.seq < m.seq then 5 else if (0 : Int) < (k : Int) then (if m.seq < minS x k then 8 else if m.seq < x.lost then 9 else 10) else (if m.seq < x.lost then 6 else 7)
  | none => 1
theorem clsB_range (x : BoxD) (k : Nat) : 1 ≤ clsB x k ∧ clsB x k ≤ 10 := by
  unfold clsB
  repeat' split
  all_goals omega
theorem early_cls {x : BoxD} {k : Nat} (h : earlyB x k = true) : clsB x k ≤ 5 := by
  unfold earlyB at h
  unfold clsB
  split
  · rename_i m hm
    rw [hm] at h
    simp only [Bool.or_eq_true, decide_eq_true_eq] at h
    split
    · omega
    split
    · omega
    split
    · omega
    split
    · omega
    split
    · omega
    rcases h with h | h | h | h | h <;> contradiction
  · omega


end Go.Proofs.Ytodoofdbpffolaa

/- What l3mail and l3gone of package spec do. -/
namespace Go.Proofs.Ytodoofdbpffolaa
open Go.RowKit
set_option maxRecDepth 100000
set_option linter.unusedVariables false
set_option linter.unusedSimpArgs false

set_option maxRecDepth 100000 in
set_option maxHeartbeats 4000000 in
theorem l3mail_any (v : Value) (x : BoxD) (uid : Int) (w : World) (hv : BoxV w v x) :
    Calls Try.prog 15 #[v, .int .i64 uid] w fun e w' => e = .returned (.int .i64 (firstI (fun m => decide (m.uid = uid)) x.mails)) ∧ Below w.heap.size w w' := by
  obtain ⟨u0, u1, u2, rfl, g0, g1, g2, i0, i1, i2, i3⟩ := hv
  have H0 : Hid (∀ wi, Below w.heap.size w wi → Bs wi u0 x.name ∧ MailsV wi u1 x.mails ∧ GonesV wi u2 x.gones) := fun wi h => ⟨g0.below h, g1.below keepsMail h, g2.below keepsGone h⟩
  obtain ⟨a0, n0, c0, rfl⟩ := g0.form3
  obtain ⟨a1, c1, rfl, m0, m1⟩ := g1.form
  obtain ⟨a2, c2, rfl, m2, m3⟩ := g2.form
  clear g0 g1 g2
  have HX : Hid (Below w.heap.size w (w.alloc (.cells #[.slice a0 n0 c0, .int .i64 x.valid, .int .i64 x.next, .int .i64 x.seq, .slice a1 x.mails.length c1, .slice a2 x.gones.length c2, .int .i64 x.lost] 31))) := (Below.refl _ _).alloc (Nat.le_refl _) _
  go_enter Try.func15, Try.ntmps15
  go_wp2
  go_loop [5] (fun i => ∃ k : Nat, k ≤ x.mails.length ∧ i = .int .i64 k ∧ Hid (∀ j m, j < k → x.mails[j]? = some m → decide (m.uid = uid) = false)) (fun i => x.mails.length - (intOf i).toNat)
  case atStart => exact ⟨0, Nat.zero_le _, rfl, fun j m hj => absurd hj (Nat.not_lt_zero _)⟩
  case round =>
    obtain ⟨k, hk, rfl, hA⟩ := hrel
    by_cases hlt : k < x.mails.length
    · obtain ⟨m, hm⟩ : ∃ m, x.mails[k]? = some m := ⟨x.mails[k], List.getElem?_eq_getElem hlt⟩
      obtain ⟨b, off, cap', u, hv', hlb, d0, d1, d2, d3, hu, j0, j1, j2⟩ := MailsV.cell (H0.out _ HX.out).2.1 k m hm
      simp only [Value.slice.injEq, true_and] at hv'
      obtain ⟨rfl, rfl⟩ := hv'
      have HM : Hid (x.mails[k]? = some m) := hm
      clear hm hu d1 d2 d3
      by_cases he : m.uid = uid
      · have he' : (m.uid == uid) = true := by simpa using he
        have HE : Hid (m.uid = uid) := he
        clear he
        go_wp2
        go_ret
        exact ⟨ret_i (firstI_hit' hlt HM.out (by simpa using HE.out) hA.out).symm, HX.out⟩
      · have he' : (m.uid == uid) = false := by simpa using he
        have HE : Hid (m.uid ≠ uid) := he
        clear he
        go_wp2
        go_round
        case rel =>
          refine ⟨k + 1, by omega, by go_num, (show Hid _ from fun j y hj hy => ?_)⟩
          by_cases e : j = k
          · subst e; rw [HM.out] at hy; cases hy; simpa using HE.out
          · exact hA.out j y (by omega) hy
        case measure => simp [intOf]; omega
    · obtain rfl : k = x.mails.length := by omega
      go_wp2
      go_ret
      exact ⟨ret_i (firstI_none' hA.out).symm, HX.out⟩

set_option maxRecDepth 100000 in
set_option maxHeartbeats 4000000 in
theorem l3gone_any (v : Value) (l : List GoneD) (uid : Int) (w : World) (hv : GonesV w v l) :
    Calls Try.prog 16 #[v, .int .i64 uid] w fun e w' => e = .returned (.bool (l.any fun o => decide (o.uid = uid))) ∧ w' = w := by
  have HV : Hid (GonesV w v l) := hv
  obtain ⟨a, cap, rfl, hlc, hcm⟩ := hv.form
  clear hv
  go_enter Try.func16, Try.ntmps16
  go_wp2
  go_loop [5] (fun i => ∃ k : Nat, k ≤ l.length ∧ i = .int .i64 k ∧ Hid (∀ j m, j < k → l[j]? = some m → m.uid ≠ uid)) (fun i => l.length - (intOf i).toNat)
  case atStart => exact ⟨0, Nat.zero_le _, rfl, fun j m hj => absurd hj (Nat.not_lt_zero _)⟩
  case round =>
    obtain ⟨k, hk, rfl, hA⟩ := hrel
    by_cases hlt : k < l.length
    · obtain ⟨m, hm⟩ : ∃ m, l[k]? = some m := ⟨l[k], List.getElem?_eq_getElem hlt⟩
      obtain ⟨b, off, cap', hv', hlb, d0, d1, j0, j1⟩ := GonesV.cell HV.out k m hm
      simp only [Value.slice.injEq, true_and] at hv'
      obtain ⟨rfl, rfl⟩ := hv'
      have HM : Hid (l[k]? = some m) := hm
      clear hm d1
      by_cases he : m.uid = uid
      · have he' : (m.uid == uid) = true := by simpa using he
        have HE : Hid (m.uid = uid) := he
        clear he
        go_wp2
        go_ret
        exact ⟨ret_b (List.any_eq_true.2 ⟨m, List.mem_of_getElem? HM.out, by simpa using HE.out⟩), rfl⟩
      · have he' : (m.uid == uid) = false := by simpa using he
        have HE : Hid (m.uid ≠ uid) := he
        clear he
        go_wp2
        go_round
        case rel =>
          refine ⟨k + 1, by omega, by go_num, (show Hid _ from fun j y hj hy => ?_)⟩
          by_cases e : j = k
          · subst e; rw [HM.out] at hy; cases hy; exact HE.out
          · exact hA.out j y (by omega) hy
        case measure => simp [intOf]; omega
    · obtain rfl : k = l.length := by omega
      go_wp2
      go_ret
      refine ⟨ret_b (List.any_eq_false.2 fun m hm => ?_), rfl⟩
      obtain ⟨j, hj, rfl⟩ := List.getElem_of_mem hm
      simpa using hA.out j _ hj (List.getElem?_eq_getElem hj)

end Go.Proofs.Ytodoofdbpffolaa

/- What l3name of package spec does. -/
namespace Go.Proofs.Ytodoofdbpffolaa
open Go.RowKit
set_option maxRecDepth 100000

set_option maxHeartbeats 400000 in
theorem l3name_any (v : Value) (l : List Int) (w : World) (hv : Bs w v l) :
    Calls Try.prog 36 #[v] w fun e w' => e = .returned (.bool (nameB l)) ∧ w' = w := by
  obtain ⟨ho, a, cap, rfl, hlc, hcm, hnil, hcells⟩ := hv
  unfold maxLen at hcm
  by_cases h0 : 1 ≤ l.length
  · by_cases h1 : l.length ≤ 6
    · have HN : Hid (nameB l = allIn 97 122 l) := by simp [Hid, nameB, h0, h1]
      obtain ⟨b, off, rfl, hlb, hc⟩ := hcells (by omega)
      go_enter Try.func36, Try.ntmps36
      go_wp2
      go_loop [3] (fun i => ∃ k : Nat, k ≤ l.length ∧ i = .int .i64 k ∧ Hid (∀ j, j < k → 97 ≤ l.getD j 0 ∧ l.getD j 0 ≤ 122)) (fun i => l.length - (intOf i).toNat)
      case atStart => exact ⟨0, Nat.zero_le _, rfl, fun j hj => absurd hj (Nat.not_lt_zero _)⟩
      case round =>
        obtain ⟨k, hk, rfl, hA⟩ := hrel
        by_cases hlt : k < l.length
        · have hx := hc k hlt
          have hbx := oct_get ho k
          have HY : Hid (l.getD k 0 = l.getD k 0) := rfl
          generalize hy : l.getD k 0 = x at hx hbx HY
          have HX : Hid (l.getD k 0 = x) := hy
          clear hy HY hc
          by_cases c1 : 97 ≤ x
          · by_cases c2 : x ≤ 122
            · go_wp2
              go_round
              case rel =>
                refine ⟨k + 1, by omega, by go_num, (show Hid _ from fun j hj => ?_)⟩
                by_cases e : j = k
                · subst e; rw [HX.out]; exact ⟨c1, c2⟩
                · exact hA.out j (by omega)
              case measure => simp [intOf]; omega
            · go_wp2
              go_ret
              exact ⟨ret_b (a := false) (by rw [HN.out, allIn_no k hlt (by rw [HX.out]; omega)]), rfl⟩
          · go_wp2
            go_ret
            exact ⟨ret_b (a := false) (by rw [HN.out, allIn_no k hlt (by rw [HX.out]; omega)]), rfl⟩
        · obtain rfl : k = l.length := by omega
          go_wp2
          go_ret
          exact ⟨ret_b (a := true) (by rw [HN.out, allIn_yes hA.out]), rfl⟩
    · have HN : Hid (nameB l = false) := by simp [Hid, nameB, h1]
      go_enter Try.func36, Try.ntmps36
      go_wp2
      go_ret
      exact ⟨ret_b (a := false) HN.out, rfl⟩
  · have HN : Hid (nameB l = false) := by simp [Hid, nameB, h0]
    go_enter Try.func36, Try.ntmps36
    go_wp2
    go_ret
    exact ⟨ret_b (a := false) HN.out, rfl⟩

end Go.Proofs.Ytodoofdbpffolaa

/- What l3text of package spec does. -/
namespace Go.Proofs.Ytodoofdbpffolaa
open Go.RowKit
set_option maxRecDepth 100000

set_option maxHeartbeats 400000 in
theorem l3text_any (v : Value) (l : List Int) (w : World) (hv : Bs w v l) :
    Calls Try.prog 37 #[v] w fun e w' => e = .returned (.bool (textB l)) ∧ w' = w := by
  obtain ⟨ho, a, cap, rfl, hlc, hcm, hnil, hcells⟩ := hv
  unfold maxLen at hcm
  by_cases h0 : l.length ≤ 30
  · by_cases h1 : True
    · have HN : Hid (textB l = allIn 32 126 l) := by simp [Hid, textB, h0]
      clear h1
      go_enter Try.func37, Try.ntmps37
      go_wp2
      go_loop [3] (fun i => ∃ k : Nat, k ≤ l.length ∧ i = .int .i64 k ∧ Hid (∀ j, j < k → 32 ≤ l.getD j 0 ∧ l.getD j 0 ≤ 126)) (fun i => l.length - (intOf i).toNat)
      case atStart => exact ⟨0, Nat.zero_le _, rfl, fun j hj => absurd hj (Nat.not_lt_zero _)⟩
      case round =>
        obtain ⟨k, hk, rfl, hA⟩ := hrel
        by_cases hlt : k < l.length
        · obtain ⟨b, off, rfl, hlb, hc⟩ := hcells (by omega)
          have hx := hc k hlt
          have hbx := oct_get ho k
          have HY : Hid (l.getD k 0 = l.getD k 0) := rfl
          generalize hy : l.getD k 0 = x at hx hbx HY
          have HX : Hid (l.getD k 0 = x) := hy
          clear hy HY hc hcells
          by_cases c1 : 32 ≤ x
          · by_cases c2 : x ≤ 126
            · go_wp2
              go_round
              case rel =>
                refine ⟨k + 1, by omega, by go_num, (show Hid _ from fun j hj => ?_)⟩
                by_cases e : j = k
                · subst e; rw [HX.out]; exact ⟨c1, c2⟩
                · exact hA.out j (by omega)
              case measure => simp [intOf]; omega
            · go_wp2
              go_ret
              exact ⟨ret_b (a := false) (by rw [HN.out, allIn_no k hlt (by rw [HX.out]; omega)]), rfl⟩
          · go_wp2
            go_ret
            exact ⟨ret_b (a := false) (by rw [HN.out, allIn_no k hlt (by rw [HX.out]; omega)]), rfl⟩
        · obtain rfl : k = l.length := by omega
          go_wp2
          go_ret
          exact ⟨ret_b (a := true) (by rw [HN.out, allIn_yes hA.out]), rfl⟩
    · exact absurd trivial h1
  · have HN : Hid (textB l = false) := by simp [Hid, textB, h0]
    go_enter Try.func37, Try.ntmps37
    go_wp2
    go_ret
    exact ⟨ret_b (a := false) HN.out, rfl⟩

end Go.Proofs.Ytodoofdbpffolaa
