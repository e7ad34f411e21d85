/- The proof's texts, part 6. -/
import Derived.Test.YtmonloebkdpahaaDoorPart4
import Derived.Test.YtmonloebkdpahaaDoorPart2
import Derived.Test.YtmonloebkdpahaaDoorPart5
import Derived.Test.YtmonloebkdpahaaDoorPart1
import Derived.Test.YtmonloebkdpahaaDoorPart3
import Derived.Shelf.Abstract

/- What toIntS, toAccount of package laws do. -/
namespace Go.Proofs.YtmonloebkdpahaaDoor
open Go.RowKit
set_option linter.unusedVariables false

theorem infoInt : (Tryd.prog.info? 3).map (fun i => (i.zero, i.size, i.bytes)) = some (some (.int .i64 0), 1, 8) := by kernel_rfl

end Go.Proofs.YtmonloebkdpahaaDoor

/- Regions that draw their order, walked in phases: each phase has a condition on the world of its own; a phase is closed when all that comes behind it waits for it. -/
namespace Go.Proofs.YtmonloebkdpahaaDoor
set_option linter.unusedVariables false

/-- Is one of the operations A still to come? -/
def left (A : List Nat) (L : Array Bool) : Bool := A.any fun i => !(L.getD i true)
theorem left_mem {A : List Nat} {L : Array Bool} {i : Nat} (h : i ∈ A) (h' : L.getD i true = false) : left A L = true := by
  unfold left
  rw [List.any_eq_true]
  exact ⟨i, h, by rw [h']; rfl⟩
theorem left_no {A : List Nat} {L : Array Bool} (h : ∀ i, i ∈ A → L.getD i false = true) : left A L = false := by
  unfold left
  rw [List.any_eq_false]
  intro i hi
  have := h i hi
  by_cases hs : i < L.size
  · simp [hs] at this ⊢; exact this
  · simp [Array.getElem?_eq_none (Nat.le_of_not_lt hs)] at this

/-- What an operation waits for. -/
def waits (md : Region.Mode) (ops : Array Oper) (j : Nat) : List Nat := match ops[j]? with
  | some o => (o.after.toList.filter (Region.binds md)).map (·.on)
  | none => []
inductive Anc (md : Region.Mode) (ops : Array Oper) : Nat → Nat → Prop
  | one {j i : Nat} : i ∈ waits md ops j → Anc md ops j i
  | more {j k i : Nat} : k ∈ waits md ops j → Anc md ops k i → Anc md ops j i
theorem Anc.then {md : Region.Mode} {ops : Array Oper} {j k i : Nat} (h : Anc md ops j k) (hi : i ∈ waits md ops k) : Anc md ops j i := by
  induction h with
  | one h => exact .more h (.one hi)
  | more h _ ih => exact .more h (ih hi)
def ClosedL (md : Region.Mode) (ops : Array Oper) (L : Array Bool) : Prop := ∀ k i, L.getD k false = true → i ∈ waits md ops k → L.getD i false = true
theorem anc_listed {md : Region.Mode} {ops : Array Oper} {L : Array Bool} {k i : Nat} (hc : ClosedL md ops L) (hk : L.getD k false = true) (h : Anc md ops k i) : L.getD i false = true := by
  induction h with
  | one h => exact hc _ _ hk h
  | more h _ ih => exact ih (hc _ _ hk h)
theorem ready_waits {md : Region.Mode} {ops : Array Oper} {L : Array Bool} {j i : Nat} (hj : j ∈ Region.ready md ops L) (h : i ∈ waits md ops j) : L.getD i false = true := by
  obtain ⟨-, o, ho, hall⟩ := mem_ready.1 hj
  unfold waits at h
  rw [ho] at h
  simp only [List.mem_map, List.mem_filter] at h
  obtain ⟨e, ⟨he, hb⟩, rfl⟩ := h
  exact hall e (by simpa using he) hb
theorem anc_ready {md : Region.Mode} {ops : Array Oper} {L : Array Bool} {j i : Nat} (hc : ClosedL md ops L) (hj : j ∈ Region.ready md ops L) (h : Anc md ops j i) : L.getD i false = true := by
  cases h with
  | one h => exact ready_waits hj h
  | more h h' => exact anc_listed hc (ready_waits hj h) h'
theorem closed_step {md : Region.Mode} {ops : Array Oper} {L : Array Bool} {j : Nat} (hc : ClosedL md ops L) (hj : j ∈ Region.ready md ops L) : ClosedL md ops (L.setIfInBounds j true) := by
  intro k i hk hi
  by_cases hjk : j = k
  · subst hjk; exact getD_set_true (ready_waits hj hi)
  · rw [getD_set_ne false hjk] at hk
    exact getD_set_true (hc k i hk hi)

/-- The operations that come ahead of one, gathered. -/
def addNew (l : List Nat) (i : Nat) : List Nat := if l.contains i then l else i :: l
theorem mem_addNew {xs l : List Nat} {i : Nat} (h : i ∈ xs.foldl addNew l) : i ∈ l ∨ i ∈ xs := by
  induction xs generalizing l with
  | nil => exact .inl h
  | cons x xs ih =>
    rcases ih h with h | h
    · unfold addNew at h
      split at h
      · exact .inl h
      · rcases List.mem_cons.1 h with rfl | h
        · exact .inr (List.mem_cons_self ..)
        · exact .inl h
    · exact .inr (List.mem_cons_of_mem _ h)
def ancL (md : Region.Mode) (ops : Array Oper) (j : Nat) : Nat → List Nat
  | 0 => waits md ops j
  | f + 1 => ((ancL md ops j f).flatMap (waits md ops)).foldl addNew (ancL md ops j f)
theorem anc_of {md : Region.Mode} {ops : Array Oper} {j : Nat} : ∀ (f i : Nat), i ∈ ancL md ops j f → Anc md ops j i
  | 0, i, h => .one h
  | f + 1, i, h => by
    rcases mem_addNew h with h | h
    · exact anc_of f i h
    · rw [List.mem_flatMap] at h
      obtain ⟨k, hk, hi⟩ := h
      exact (anc_of f k hk).then hi

section
variable {P : Program} {md : Region.Mode} {ops : Array Oper} {Q : Exit → Act → World → Prop} {S : World → Prop} {A : List Nat}
/-- Whatever order is picked: while one of A is still to come S holds behind each operation; then the rest goes in whatever order. -/
def wpAnyS (P : Program) (md : Region.Mode) (ops : Array Oper) (Q : Exit → Act → World → Prop) (S : World → Prop) (A : List Nat) : Nat → Array Bool → Act → World → Prop
  | 0, L, a, w => Region.ready md ops L = [] ∧ Q .normal a w
  | n + 1, L, a, w => (left A L = false → wpAny P md ops Q (n + 1) L a w) ∧ (left A L = true → (Region.ready md ops L = [] → Q .normal a w) ∧
      ∀ i ∈ Region.ready md ops L, wpOp P ops Q i (fun a' w' => S w' ∧ wpAnyS P md ops Q S A n (L.setIfInBounds i true) a' w') a w)
theorem wpAny_of_phase : ∀ (n : Nat) (L : Array Bool) (a : Act) (w : World), wpAnyS P md ops Q S A n L a w → wpAny P md ops Q n L a w
  | 0, _, _, _, h => h
  | n + 1, L, a, w, h => by
    cases hl : left A L with
    | false => exact h.1 hl
    | true => exact ⟨(h.2 hl).1, fun i hi => wpOp_mono (fun a' w' q => wpAny_of_phase n _ a' w' q.2) ((h.2 hl).2 i hi)⟩
/-- All that is not of A waits for all of A. -/
def Parts (md : Region.Mode) (ops : Array Oper) (A : List Nat) : Prop := ∀ j, (∃ o, ops[j]? = some o) → j ∉ A → ∀ i, i ∈ A → Anc md ops j i
theorem parts_ready {L : Array Bool} {j : Nat} (hA : Parts md ops A) (hc : ClosedL md ops L) (hj : j ∈ Region.ready md ops L) (hn : j ∉ A) : left A L = false := by
  obtain ⟨-, o, ho, -⟩ := mem_ready.1 hj
  exact left_no fun i hi => anc_ready hc hj (hA j ⟨o, ho⟩ hn i hi)
theorem wpAnyS_first {i : Nat} {oi : Oper} {v : Value} (hi : ops[i]? = some oi) (hR : i ∈ A) (hA : Parts md ops A) (hsel : ∀ (j : Nat) (o : Oper) cs b, ops[j]? = some o → o.op ≠ .select cs b) (hQ : ∀ c a w, Q (.panic c) (a.put oi.dst v) w → Q (.panic c) a w)
    (n : Nat) : ∀ (L : Array Bool) (a : Act) (w : World), ClosedL md ops L →
      (∀ j oj, ops[j]? = some oj → j ≠ i → L.getD j true = false → (∀ e ∈ oj.after, Region.binds md e = true → e.on ≠ i) → oi.apart ops oj = true) →
      i ∈ Region.ready md ops L → YieldsIf P ops S oi v a → S w → wpAnyS P md ops Q S A n (L.setIfInBounds i true) (a.put oi.dst v) w → wpAnyS P md ops Q S A (n + 1) L a w := by
  induction n with
  | zero =>
    intro L a w hc _ hr hy hS H
    have hl : left A L = true := left_mem hR (mem_ready.1 hr).1
    refine ⟨fun h => absurd hl (by rw [h]; simp), fun _ => ⟨fun h => absurd hr (by rw [h]; simp), fun j hj => ?_⟩⟩
    by_cases hji : j = i
    · subst hji; exact hy.wpOp hi hS ⟨hS, H⟩
    · exact absurd (ready_mono hj hji) (by rw [H.1]; simp)
  | succ n ih =>
    intro L a w hc hfree hr hy hS H
    have hl : left A L = true := left_mem hR (mem_ready.1 hr).1
    refine ⟨fun h => absurd hl (by rw [h]; simp), fun _ => ⟨fun h => absurd hr (by rw [h]; simp), fun j hj => ?_⟩⟩
    by_cases hji : j = i
    · subst hji; exact hy.wpOp hi hS ⟨hS, H⟩
    obtain ⟨hjun, oj, hoj, hall⟩ := mem_ready.1 hj
    have hjA : j ∈ A := by
      by_cases h : j ∈ A
      · exact h
      · exact absurd hl (by rw [parts_ready hA hc hj h]; simp)
    have hil := (mem_ready.1 hr).1
    have hnot : ∀ e ∈ oj.after, Region.binds md e = true → e.on ≠ i := by
      intro e he hb heq
      have q := hall e he hb
      rw [heq] at q
      by_cases hs : i < L.size
      · simp [hs] at hil q; rw [hil] at q; cases q
      · simp [Array.getElem?_eq_none (Nat.le_of_not_lt hs)] at q
    have hl' : left A (L.setIfInBounds i true) = true := left_mem hjA (by rw [getD_set_ne true (Ne.symm hji)]; exact hjun)
    have step := wpOp_putIf hoj (hfree j oj hoj hji hjun hnot) (fun cs b => hsel i oi cs b hi) (fun cs b => hsel j oj cs b hoj) hQ hy ((H.2 hl').2 j (ready_mono hj hji))
    refine wpOp_mono (fun a' w' q => ?_) step
    obtain ⟨q1, q2, q3⟩ := q
    exact ⟨q2, ih (L.setIfInBounds j true) a' w' (closed_step hc hj) (fun k ok hk hki hun hno => hfree k ok hk hki (by
        by_cases hjk : j = k
        · subst hjk; exact hjun
        · rwa [getD_set_ne true hjk] at hun) hno) (ready_mono hr (Ne.symm hji)) q1 q2 (by rw [Array.setIfInBounds_comm _ _ hji]; exact q3)⟩
end

/-- The table of a region that is walked in phases: qs, how many operations of the order are done at the end of each; f, how far ahead it is looked. -/
def tableS (ops : Array Oper) (n : Nat) (ord cs qs : List Nat) (f : Nat) : Bool :=
  tableO ops n ord cs && ((List.range (n + 1)).all (fun p => (List.range n).all fun k => !((doneA n (ord.take p)).getD k false) || (waits .any ops k).all fun i => (doneA n (ord.take p)).getD i false) &&
    qs.all fun q => (List.range n).all fun j => (ord.take q).contains j || (ord.take q).all fun i => (ancL .any ops j f).contains i)
structure TabS (ops : Array Oper) (n : Nat) (ord cs qs : List Nat) (f : Nat) : Prop where
  out : tableS ops n ord cs qs f = true

/-- What is left of the region when the first p operations of the order are done, in the phase that ends at q. -/
def wpPh (P : Program) (ops : Array Oper) (Q : Exit → Act → World → Prop) (S : World → Prop) (n : Nat) (ord : List Nat) (q p : Nat) (a : Act) (w : World) : Prop := wpAnyS P .any ops Q S (ord.take q) (n - p) (doneA n (ord.take p)) a w

section
variable {P : Program} {ops : Array Oper} {Q : Exit → Act → World → Prop} {S : World → Prop} {n f : Nat} {ord cs qs : List Nat} {a : Act} {w : World}
theorem tabS_of {c : Option Code} {id : Nat} (h : c.bind (opsAt id) = some ops) (T : (c.bind (opsAt id)).all (fun o => tableS o n ord cs qs f) = true) : TabS ops n ord cs qs f := by
  rw [h] at T; exact ⟨by simpa using T⟩
theorem TabS.o (T : TabS ops n ord cs qs f) : TabO ops n ord cs := by
  have := T.out
  simp only [tableS, Bool.and_eq_true] at this
  exact ⟨this.1⟩
theorem TabS.closed (T : TabS ops n ord cs qs f) {p : Nat} (hp : p ≤ n) : ClosedL .any ops (doneA n (ord.take p)) := by
  have h := T.out
  simp only [tableS, Bool.and_eq_true, List.all_eq_true, List.mem_range] at h
  intro k i hk hi
  have hs := (tabO_parts T.o).1
  have hkn : k < n := by
    by_cases hkn : k < n
    · exact hkn
    · unfold waits at hi
      rw [Array.getElem?_eq_none (by omega)] at hi
      cases hi
  have := h.2.1 p (by omega) k hkn
  rw [hk] at this
  simp only [Bool.not_true, Bool.false_or, List.all_eq_true] at this
  exact this i hi
theorem TabS.parts (T : TabS ops n ord cs qs f) {q : Nat} (hq : q ∈ qs) : Parts .any ops (ord.take q) := by
  have h := T.out
  simp only [tableS, Bool.and_eq_true, List.all_eq_true, List.mem_range] at h
  intro j hj hn i hi
  have hs := (tabO_parts T.o).1
  obtain ⟨o, ho⟩ := hj
  have hjn : j < n := by rw [← hs]; exact (Array.getElem?_eq_some_iff.1 ho).1
  have := h.2.2 q hq j hjn
  simp only [Bool.or_eq_true, List.contains_iff_mem, List.all_eq_true] at this
  rcases this with h | h
  · exact absurd h hn
  · exact anc_of f i (h i hi)
theorem wpS_begin {id : Nat} (q : Nat) (T : TabS ops n ord cs qs f) (hm : P.follows .mixedOrders = true) (hS : S w.drew) (h : TabS ops n ord cs qs f → S w.drew → wpPh P ops Q S n ord q 0 a w.drew) : Code.wp P (.region id ops true) Q a w := by
  refine wp_region_any hm ?_
  have h1 := (tabO_parts T.o).1
  have := wpAny_of_phase _ _ _ _ (h T hS)
  subst h1
  exact this
/-- The operation at place p is taken; it is wanted. -/
theorem tks0 (p i d : Nat) {q : Nat} {oi : Oper} (v : Value) (T : TabS ops n ord cs qs f) (hy : ∀ w, S w → (execOp a.eval oi).run P w = .ok (.value v) w) (hS : S w) (h : wpPh P ops Q S n ord q (p + 1) (setT a d v) w)
    (hp : (ord.take q)[p]? = some i) (hc : ¬ p ∈ cs) (hq : q ∈ qs) (hi : ops[i]? = some oi)
    (hg : (oi.dst == some d && Region.wanted oi (yielded ops a.tmps)) = true) (hQ : ∀ c a w, Q (.panic c) (a.put (some d) v) w → Q (.panic c) a w) : wpPh P ops Q S n ord q p a w := by
  obtain ⟨h1, h2, h3, h4, h5, h6⟩ := tabO_parts T.o
  have hp' : ord[p]? = some i := by
    rw [List.getElem?_take] at hp
    split at hp
    · exact hp
    · cases hp
  have hlt : p < n := by have := (List.getElem?_eq_some_iff.1 hp').1; omega
  simp only [Bool.and_eq_true, beq_iff_eq] at hg
  rw [← put_setT] at h
  unfold wpPh at h ⊢
  rw [show n - p = (n - (p + 1)) + 1 by omega]
  rw [← doneA_step hp'] at h
  exact wpAnyS_first hi (List.mem_of_getElem? hp) (T.parts hq) (Region.noSelect_spec h3) (by rw [hg.1]; exact hQ) _ _ _ _ (T.closed (by omega)) (Region.free_spec hi (h4 p i hp' hc).1) (by simpa using (h4 p i hp' hc).2) (Or.inl ⟨hg.2, hy⟩) hS (by rw [hg.1]; exact h)
/-- The operation at place p comes up alone. -/
theorem cls (p i : Nat) {q : Nat} {oi : Oper} (T : TabS ops n ord cs qs f) (hc : p ∈ cs) (hp : (ord.take q)[p]? = some i) (hi : ops[i]? = some oi)
    (h : ∀ K : Act → World → Prop, Shut (∀ a w, S w → (S w → wpPh P ops Q S n ord q (p + 1) a w) → K a w) → if Region.wanted oi (yielded ops a.tmps) = true then Oper.wp P oi a w K Q else K (a.put oi.dst undef) w) : wpPh P ops Q S n ord q p a w := by
  obtain ⟨h1, h2, h3, h4, h5, h6⟩ := tabO_parts T.o
  have hp' : ord[p]? = some i := by
    rw [List.getElem?_take] at hp
    split at hp
    · exact hp
    · cases hp
  have hlt := (h6 p i hc hp').1
  have hr := (h6 p i hc hp').2
  have hun : (doneA n (ord.take p)).getD i true = false := (mem_ready.1 (show i ∈ Region.ready .any ops (doneA n (ord.take p)) by rw [hr]; simp)).1
  have hl : left (ord.take q) (doneA n (ord.take p)) = true := left_mem (List.mem_of_getElem? hp) hun
  unfold wpPh
  rw [show n - p = (n - (p + 1)) + 1 by omega]
  refine ⟨fun h => absurd hl (by rw [h]; simp), fun _ => ⟨fun h => absurd hr (by rw [h]; simp), fun j hj => ?_⟩⟩
  rw [hr] at hj
  obtain rfl : j = i := by simpa using hj
  exact wpOp_step hi (fun K hK => h K (fun a w hS hW => hK a w ⟨hS, by rw [doneA_step hp']; exact hW hS⟩))
/-- A phase is over, the next one begins. -/
theorem wpS_next {S' : World → Prop} (q q' : Nat) (T : TabS ops n ord cs qs f) (hl : left (ord.take q) (doneA n (ord.take q)) = false) (hS : S' w) (h : S' w → wpPh P ops Q S' n ord q' q a w) : wpPh P ops Q S n ord q q a w := by
  have h := wpAny_of_phase _ _ _ _ (h hS)
  unfold wpPh
  revert h
  generalize n - q = m
  intro h
  cases m with
  | zero => exact h
  | succ m => exact ⟨fun _ => h, fun hh => absurd hh (by rw [hl]; simp)⟩
theorem wpS_end {q : Nat} (T : TabS ops n ord cs qs f) (h : Q .normal a w) : wpPh P ops Q S n ord q n a w := by
  obtain ⟨h1, h2, h3, h4, h5, h6⟩ := tabO_parts T.o
  unfold wpPh
  rw [Nat.sub_self]
  exact ⟨h5, h⟩
end

/-- 'tks0', what it yields and the state behind it found by themselves. -/
theorem tks {P : Program} {ops : Array Oper} {Q : Exit → Act → World → Prop} {S : World → Prop} {n f q : Nat} {ord cs qs : List Nat} {a a' : Act} {w : World} (p i d : Nat) {oi : Oper} {v : Value} (T : TabS ops n ord cs qs f) (hS : S w) (h : wpPh P ops Q S n ord q (p + 1) a' w)
    (hp : (ord.take q)[p]? = some i := by rfl) (hc : ¬ p ∈ cs := by decide) (hq : q ∈ qs := by decide)
    (hi : ops[i]? = some oi := by rfl)
    (hg : (oi.dst == some d && Region.wanted oi (yielded ops a.tmps)) = true := by kernel_rfl)
    (hy : ∀ w, S w → (execOp a.eval oi).run P w = .ok (.value v) w := by (intro w s; (try dsimp only at s); go_simp <;> with_reducible rfl))
    (ha : setT a d v = a' := by (conv => lhs; dsimp only [setT, List.toList_toArray, put0, putS]))
    (hQ : ∀ c a w, Q (.panic c) (a.put (some d) v) w → Q (.panic c) a w := by exact fun _ _ _ h => h) : wpPh P ops Q S n ord q p a w :=
  tks0 p i d v T hy hS (by rw [ha]; exact h) hp hc hq hi hg hQ

end Go.Proofs.YtmonloebkdpahaaDoor

/- What l3own of package spec does: an account is copied, with all that it leads to. -/
namespace Go.Proofs.YtmonloebkdpahaaDoor
open Go.RowKit
set_option linter.unusedVariables false
set_option linter.unusedSimpArgs false

theorem boxE_form {w : World} {c : List Value} {b : BoxD} {S : Nat → Prop} (h : BoxE w c b S) : ∃ a0 n0 c0 a1 n1 c1 a2 n2 c2, c = [.slice a0 n0 c0, .int .i64 b.valid, .int .i64 b.next, .int .i64 b.seq, .slice a1 n1 c1, .slice a2 n2 c2, .int .i64 b.lost] := by
  obtain ⟨u0, u1, u2, S0, S1, S2, rfl, h0, h1, h2, -⟩ := h
  obtain ⟨a0, n0, c0, rfl⟩ := h0.bs.form3
  obtain ⟨a1, n1, c1, rfl⟩ := OwF.form3 h1
  obtain ⟨a2, n2, c2, rfl⟩ := OwF.form3 h2
  exact ⟨_, _, _, _, _, _, _, _, _, rfl⟩
end Go.Proofs.YtmonloebkdpahaaDoor

/- Mails of a list of the call's own whose texts lie in memory that was there. -/
namespace Go.Proofs.YtmonloebkdpahaaDoor
open Go.RowKit
set_option linter.unusedVariables false

theorem one2' {i j : Int} : ∀ u ∈ [Value.int .i64 i, .int .i64 j], Value.oneCell' u = true := by
  intro u hu
  simp only [List.mem_cons, List.not_mem_nil, or_false] at hu
  rcases hu with rfl | rfl <;> rfl
/-- Mails whose texts lie where they lay in w. -/
def MailWE (w : World) (_ : World) (c : List Value) (m : MailD) (_ : Nat → Prop) : Prop := MailRE w c m
theorem framesMW (w : World) : Frames (MailWE w) := fun _ _ _ _ _ h _ => h
def MailsW (w : World) (wr : World) (B T : Nat) (v : Value) (l : List MailD) : Prop := Ow 54 4 (MailWE w) wr (In B T) v l
theorem MailsW.v {w wr : World} {B T : Nat} {v : Value} {l : List MailD} (h : MailsW w wr B T v l) (hb : Below w.heap.size w wr) : MailsV wr v l := by
  rcases h with ⟨rfl, rfl⟩ | ⟨g, cap, cur, cs, fs, hv, hh, h1, h2, h3, h4, h5, h6, h7⟩
  · exact Rd.nil wr
  · refine ⟨some ⟨g, 0, none⟩, cap, cs, hv, h1, h2, (fun h => by cases h), fun i x hx => ⟨keepsMail _ _ _ _ hb (h5 i x hx).1, (h5 i x hx).2.1⟩, fun hp => ⟨g, 0, rfl, lt_of_heap hh, fun i j u hi hu => ?_⟩⟩
    rw [Nat.zero_add, cell_of_row wr g _ cur _ (0, 0) hh]
    exact (h5 i l[i] (List.getElem?_eq_getElem hi)).2.2 j u hu
theorem mw_set {w wr : World} {B T g i : Nat} {v x : Value} {l : List MailD} (h : MailsW w wr B T v l) (hd : g < B ∨ T ≤ g) : MailsW w (wr.setCell ⟨g, i, none⟩ x) B T v l :=
  Ow.frame (framesMW w) h fun b hb _ => Below.heap_setCell _ _ _ _ (show b ≠ g by have := hb.1; have := hb.2; omega)
theorem mw_gr' {w wr wr' : World} {B T : Nat} {row : Option Nat} {v : Value} {l : List MailD} (h : Ow 54 4 (MailWE w) wr (In B T) v l) (hw : wr.grownBy wr' row) (hd : ∀ j, row = some j → T ≤ j) : MailsW w wr' B T v l :=
  Ow.frame (framesMW w) h fun b hb hlt => hw.block b hlt fun e => by have := hd b e.symm; have := hb.2; omega
theorem i64c0 : I64 0 := ⟨by decide, by decide⟩
theorem i64c4 : I64 4 := ⟨by decide, by decide⟩
theorem bs_nil' (w : World) : Bs w (.slice none 0 0) [] := (RO.nil w (fun _ => True)).bs

end Go.Proofs.YtmonloebkdpahaaDoor

/- What l3changes of package spec does. -/
namespace Go.Proofs.YtmonloebkdpahaaDoor
open Go.RowKit
set_option maxRecDepth 100000
set_option linter.unusedVariables false
set_option linter.unusedSimpArgs false

theorem tabS_chg8 : (Tryd.f72.body.bind (opsAt 8)).all (fun o => tableS o 11 [0, 1, 2, 3, 4, 5, 6, 7, 8, 9, 10] [7, 8, 10] [9, 11] 0) = true := by kernel_rfl
theorem tabS_chg13 : (Tryd.f72.body.bind (opsAt 13)).all (fun o => tableS o 11 [0, 1, 2, 3, 4, 5, 6, 7, 8, 9, 10] [7, 8, 10] [9, 11] 0) = true := by kernel_rfl
/-- What changed since a number. -/
def chgX (b : BoxD) (since : Int) : BoxD := ⟨b.name, b.valid, b.next, b.seq, b.mails.filter (fun m : MailD => decide (since < m.seq)), b.gones.filter (fun m : GoneD => decide (since < m.seq)), b.lost⟩
theorem chg_sz (b : BoxD) (since : Int) : szX (chgX b since) ≤ szX b := by
  have h1 : ∀ l : List MailD, szM (l.filter (fun m : MailD => decide (since < m.seq))) ≤ szM l := by
    intro l
    induction l with
    | nil => simp
    | cons x l ih =>
      rw [List.filter_cons]
      split
      · simp only [szM, List.map_cons, List.sum_cons] at ih ⊢; omega
      · simp only [szM, List.map_cons, List.sum_cons] at ih ⊢; omega
  have h2 := h1 b.mails
  have h3 := List.length_filter_le (fun m : GoneD => decide (since < m.seq)) b.gones
  simp only [szX, chgX]
  omega
def zeroX : BoxD := ⟨[], 0, 0, 0, [], [], 0⟩
def chgD (b : BoxD) (since : Int) : RepD := if since < b.lost then ⟨4, b.lost, zeroX, []⟩ else ⟨0, 0, chgX b since, []⟩

end Go.Proofs.YtmonloebkdpahaaDoor

/- What slices.IndexFunc and slices.ContainsFunc of mails and of what went do. -/
namespace Go.Proofs.YtmonloebkdpahaaDoor
open Go.RowKit Go.Shelf
set_option maxRecDepth 100000
set_option linter.unusedVariables false

theorem firstI_hit' {α : Type} {p : α → Bool} {l : List α} {k : Nat} {x : α} (hk : k < l.length) (hx : l[k]? = some x) (h : p x = true) (hA : ∀ j x, j < k → l[j]? = some x → p x = false) : firstI p l = k := by
  have : l.findIdx? p = some k := by
    rw [List.findIdx?_eq_some_iff_getElem]
    refine ⟨hk, by rw [List.getElem?_eq_getElem hk] at hx; cases hx; exact h, fun j hj => ?_⟩
    rw [hA j _ hj (List.getElem?_eq_getElem (by omega))]; simp
  simp [firstI, this]
theorem firstI_none' {α : Type} {p : α → Bool} {l : List α} (hA : ∀ j x, j < l.length → l[j]? = some x → p x = false) : firstI p l = -1 := by
  have : l.findIdx? p = none := by
    rw [List.findIdx?_eq_none_iff]
    intro x hx
    obtain ⟨j, hj, rfl⟩ := List.getElem_of_mem hx
    exact hA j _ hj (List.getElem?_eq_getElem hj)
  simp [firstI, this]
def GoneV (_ : World) (v : Value) (x : GoneD) : Prop := v = .agg #[.int .i64 x.uid, .int .i64 x.seq]

set_option maxRecDepth 100000 in
set_option maxHeartbeats 1000000 in
theorem indexFuncMail (g : Nat) (lb : Array Value) (p : MailD → Bool) (v : Value) (l : List MailD) (w : World) (hv : MailsV w v l) (eg : ∀ args w, (callFunc g args).run Tryd.prog w = .ok (.enter g args) w)
    (hp : ∀ wi x u, Below w.heap.size w wi → MailV wi u x → Calls Tryd.prog g (#[u] ++ lb) wi fun e w' => e = .returned (.bool (p x)) ∧ Below wi.heap.size wi w') :
    Calls Tryd.prog 106 #[v, .func (.func g) #[] lb] w fun e w' => e = .returned (.int .i64 (firstI p l)) ∧ Below w.heap.size w w' := by
  have HV : Hid (∀ wi, Below w.heap.size w wi → MailsV wi v l) := fun wi h => hv.below keepsMail h
  have HP : Hid (∀ wi x u, Below w.heap.size w wi → MailV wi u x → Calls Tryd.prog g (#[u] ++ lb) wi fun e w' => e = .returned (.bool (p x)) ∧ Below wi.heap.size wi w') := hp
  obtain ⟨a, cap, rfl, hlc, hcm⟩ := hv.form
  clear hv hp
  go_enter Tryd.func106, Tryd.ntmps106
  go_wp2
  go_loopw [5, 8] (fun _ i wr => ∃ k : Nat, k ≤ l.length ∧ i = .int .i64 k ∧ Hid (∀ j x, j < k → l[j]? = some x → p x = false) ∧ Hid (Below w.heap.size w wr)) (fun _ i _ => l.length - (intOf i).toNat)
  case atStart => exact ⟨0, Nat.zero_le _, rfl, (fun j x hj => absurd hj (Nat.not_lt_zero _)), Below.refl _ _⟩
  case round =>
    obtain ⟨k, hk, rfl, hA, hB⟩ := hrel
    by_cases hlt : k < l.length
    · obtain ⟨x, hx⟩ : ∃ x, l[k]? = some x := ⟨l[k], List.getElem?_eq_getElem hlt⟩
      obtain ⟨b, off, cap', u, hv', hlb, d0, d1, d2, d3, hu, i0, i1, i2⟩ := MailsV.cell (HV.out wr hB.out) k x hx
      simp only [Value.slice.injEq, true_and] at hv'
      obtain ⟨rfl, rfl⟩ := hv'
      obtain ⟨ua, un, uc, rfl⟩ := hu.form3
      have hcall := HP.out wr x (.agg #[.int .i64 x.uid, .int .i64 x.flags, .int .i64 x.seq, .slice ua un uc]) hB.out ⟨_, rfl, hu, i0, i1, i2⟩
      have HX : Hid (l[k]? = some x) := hx
      clear hx
      cases hq : p x with
      | true =>
        rw [hq] at hcall
        have HQ : Hid (p x = true) := hq
        clear hq
        go_wp2_with (go_at_fn g; refine hcall.mono ?_; rintro e w1 ⟨rfl, B⟩)
        go_ret
        exact ⟨ret_i (firstI_hit' hlt HX.out HQ.out hA.out).symm, Below.step hB.out B⟩
      | false =>
        rw [hq] at hcall
        have HQ : Hid (p x = false) := hq
        clear hq
        go_wp2_with (go_at_fn g; refine hcall.mono ?_; rintro e w1 ⟨rfl, B⟩)
        have HB2 : Hid (Below w.heap.size w w1) := Below.step hB.out B
        clear B hB
        go_roundw
        case rel =>
          refine ⟨k + 1, by omega, by go_num, (show Hid _ from fun j y hj hy => ?_), HB2⟩
          by_cases e : j = k
          · subst e; rw [HX.out] at hy; cases hy; exact HQ.out
          · exact hA.out j y (by omega) hy
        case measure => simp [intOf]; omega
    · obtain rfl : k = l.length := by omega
      go_wp2
      go_ret
      exact ⟨ret_i (firstI_none' hA.out).symm, hB.out⟩

set_option maxRecDepth 100000 in
set_option maxHeartbeats 1000000 in
theorem containsFuncMail (g : Nat) (lb : Array Value) (p : MailD → Bool) (v : Value) (l : List MailD) (w : World) (hv : MailsV w v l) (eg : ∀ args w, (callFunc g args).run Tryd.prog w = .ok (.enter g args) w)
    (hp : ∀ wi x u, Below w.heap.size w wi → MailV wi u x → Calls Tryd.prog g (#[u] ++ lb) wi fun e w' => e = .returned (.bool (p x)) ∧ Below wi.heap.size wi w') :
    Calls Tryd.prog 97 #[v, .func (.func g) #[] lb] w fun e w' => e = .returned (.bool (l.any p)) ∧ Below w.heap.size w w' := by
  have hi := indexFuncMail g lb p v l w hv eg hp
  have HF : Hid (l.any p = decide (0 ≤ firstI p l)) := any_firstI p l
  generalize firstI p l = i at hi HF
  obtain ⟨a, cap, rfl, -⟩ := hv.form
  clear hp hv
  go_enter Tryd.func97, Tryd.ntmps97
  go_wp2_with (go_at_call 106; refine hi.mono ?_; rintro e w1 ⟨rfl, B⟩)
  go_ret
  exact ⟨ret_b HF.out, B⟩

set_option maxRecDepth 100000 in
set_option maxHeartbeats 1000000 in
theorem indexFuncGone (g : Nat) (lb : Array Value) (p : GoneD → Bool) (v : Value) (l : List GoneD) (w : World) (hv : GonesV w v l) (eg : ∀ args w, (callFunc g args).run Tryd.prog w = .ok (.enter g args) w)
    (hp : ∀ wi x u, Below w.heap.size w wi → GoneV wi u x → Calls Tryd.prog g (#[u] ++ lb) wi fun e w' => e = .returned (.bool (p x)) ∧ Below wi.heap.size wi w') :
    Calls Tryd.prog 107 #[v, .func (.func g) #[] lb] w fun e w' => e = .returned (.int .i64 (firstI p l)) ∧ Below w.heap.size w w' := by
  have HV : Hid (∀ wi, Below w.heap.size w wi → GonesV wi v l) := fun wi h => hv.below keepsGone h
  have HP : Hid (∀ wi x u, Below w.heap.size w wi → GoneV wi u x → Calls Tryd.prog g (#[u] ++ lb) wi fun e w' => e = .returned (.bool (p x)) ∧ Below wi.heap.size wi w') := hp
  obtain ⟨a, cap, rfl, hlc, hcm⟩ := hv.form
  clear hv hp
  go_enter Tryd.func107, Tryd.ntmps107
  go_wp2
  go_loopw [5, 8] (fun _ i wr => ∃ k : Nat, k ≤ l.length ∧ i = .int .i64 k ∧ Hid (∀ j x, j < k → l[j]? = some x → p x = false) ∧ Hid (Below w.heap.size w wr)) (fun _ i _ => l.length - (intOf i).toNat)
  case atStart => exact ⟨0, Nat.zero_le _, rfl, (fun j x hj => absurd hj (Nat.not_lt_zero _)), Below.refl _ _⟩
  case round =>
    obtain ⟨k, hk, rfl, hA, hB⟩ := hrel
    by_cases hlt : k < l.length
    · obtain ⟨x, hx⟩ : ∃ x, l[k]? = some x := ⟨l[k], List.getElem?_eq_getElem hlt⟩
      obtain ⟨b, off, cap', hv', hlb, d0, d1, i0, i1⟩ := GonesV.cell (HV.out wr hB.out) k x hx
      simp only [Value.slice.injEq, true_and] at hv'
      obtain ⟨rfl, rfl⟩ := hv'
      have hcall := HP.out wr x (.agg #[.int .i64 x.uid, .int .i64 x.seq]) hB.out rfl
      have HX : Hid (l[k]? = some x) := hx
      clear hx
      cases hq : p x with
      | true =>
        rw [hq] at hcall
        have HQ : Hid (p x = true) := hq
        clear hq
        go_wp2_with (go_at_fn g; refine hcall.mono ?_; rintro e w1 ⟨rfl, B⟩)
        go_ret
        exact ⟨ret_i (firstI_hit' hlt HX.out HQ.out hA.out).symm, Below.step hB.out B⟩
      | false =>
        rw [hq] at hcall
        have HQ : Hid (p x = false) := hq
        clear hq
        go_wp2_with (go_at_fn g; refine hcall.mono ?_; rintro e w1 ⟨rfl, B⟩)
        have HB2 : Hid (Below w.heap.size w w1) := Below.step hB.out B
        clear B hB
        go_roundw
        case rel =>
          refine ⟨k + 1, by omega, by go_num, (show Hid _ from fun j y hj hy => ?_), HB2⟩
          by_cases e : j = k
          · subst e; rw [HX.out] at hy; cases hy; exact HQ.out
          · exact hA.out j y (by omega) hy
        case measure => simp [intOf]; omega
    · obtain rfl : k = l.length := by omega
      go_wp2
      go_ret
      exact ⟨ret_i (firstI_none' hA.out).symm, hB.out⟩

set_option maxRecDepth 100000 in
set_option maxHeartbeats 1000000 in
theorem containsFuncGone (g : Nat) (lb : Array Value) (p : GoneD → Bool) (v : Value) (l : List GoneD) (w : World) (hv : GonesV w v l) (eg : ∀ args w, (callFunc g args).run Tryd.prog w = .ok (.enter g args) w)
    (hp : ∀ wi x u, Below w.heap.size w wi → GoneV wi u x → Calls Tryd.prog g (#[u] ++ lb) wi fun e w' => e = .returned (.bool (p x)) ∧ Below wi.heap.size wi w') :
    Calls Tryd.prog 99 #[v, .func (.func g) #[] lb] w fun e w' => e = .returned (.bool (l.any p)) ∧ Below w.heap.size w w' := by
  have hi := indexFuncGone g lb p v l w hv eg hp
  have HF : Hid (l.any p = decide (0 ≤ firstI p l)) := any_firstI p l
  generalize firstI p l = i at hi HF
  obtain ⟨a, cap, rfl, -⟩ := hv.form
  clear hp hv
  go_enter Tryd.func99, Tryd.ntmps99
  go_wp2_with (go_at_call 107; refine hi.mono ?_; rintro e w1 ⟨rfl, B⟩)
  go_ret
  exact ⟨ret_b HF.out, B⟩

end Go.Proofs.YtmonloebkdpahaaDoor

/- What l3mail and l3gone of package spec do. -/
namespace Go.Proofs.YtmonloebkdpahaaDoor
open Go.RowKit
set_option maxRecDepth 100000
set_option linter.unusedVariables false
set_option linter.unusedSimpArgs false

set_option maxRecDepth 100000 in
set_option maxHeartbeats 4000000 in
theorem l3mail_any (v : Value) (x : BoxD) (uid : Int) (w : World) (hv : BoxV w v x) :
    Calls Tryd.prog 73 #[v, .int .i64 uid] w fun e w' => e = .returned (.int .i64 (firstI (fun m => decide (m.uid = uid)) x.mails)) ∧ Below w.heap.size w w' := by
  obtain ⟨u0, u1, u2, rfl, g0, g1, g2, i0, i1, i2, i3⟩ := hv
  have H0 : Hid (∀ wi, Below w.heap.size w wi → Bs wi u0 x.name ∧ MailsV wi u1 x.mails ∧ GonesV wi u2 x.gones) := fun wi h => ⟨g0.below h, g1.below keepsMail h, g2.below keepsGone h⟩
  obtain ⟨a0, n0, c0, rfl⟩ := g0.form3
  obtain ⟨a1, c1, rfl, m0, m1⟩ := g1.form
  obtain ⟨a2, c2, rfl, m2, m3⟩ := g2.form
  clear g0 g1 g2
  have HX : Hid (Below w.heap.size w (w.alloc (.cells #[.slice a0 n0 c0, .int .i64 x.valid, .int .i64 x.next, .int .i64 x.seq, .slice a1 x.mails.length c1, .slice a2 x.gones.length c2, .int .i64 x.lost] 35))) := (Below.refl _ _).alloc (Nat.le_refl _) _
  go_enter Tryd.func73, Tryd.ntmps73
  go_wp2
  go_loop [5] (fun i => ∃ k : Nat, k ≤ x.mails.length ∧ i = .int .i64 k ∧ Hid (∀ j m, j < k → x.mails[j]? = some m → decide (m.uid = uid) = false)) (fun i => x.mails.length - (intOf i).toNat)
  case atStart => exact ⟨0, Nat.zero_le _, rfl, fun j m hj => absurd hj (Nat.not_lt_zero _)⟩
  case round =>
    obtain ⟨k, hk, rfl, hA⟩ := hrel
    by_cases hlt : k < x.mails.length
    · obtain ⟨m, hm⟩ : ∃ m, x.mails[k]? = some m := ⟨x.mails[k], List.getElem?_eq_getElem hlt⟩
      obtain ⟨b, off, cap', u, hv', hlb, d0, d1, d2, d3, hu, j0, j1, j2⟩ := MailsV.cell (H0.out _ HX.out).2.1 k m hm
      simp only [Value.slice.injEq, true_and] at hv'
      obtain ⟨rfl, rfl⟩ := hv'
      have HM : Hid (x.mails[k]? = some m) := hm
      clear hm hu d1 d2 d3
      by_cases he : m.uid = uid
      · have he' : (m.uid == uid) = true := by simpa using he
        have HE : Hid (m.uid = uid) := he
        clear he
        go_wp2
        go_ret
        exact ⟨ret_i (firstI_hit' hlt HM.out (by simpa using HE.out) hA.out).symm, HX.out⟩
      · have he' : (m.uid == uid) = false := by simpa using he
        have HE : Hid (m.uid ≠ uid) := he
        clear he
        go_wp2
        go_round
        case rel =>
          refine ⟨k + 1, by omega, by go_num, (show Hid _ from fun j y hj hy => ?_)⟩
          by_cases e : j = k
          · subst e; rw [HM.out] at hy; cases hy; simpa using HE.out
          · exact hA.out j y (by omega) hy
        case measure => simp [intOf]; omega
    · obtain rfl : k = x.mails.length := by omega
      go_wp2
      go_ret
      exact ⟨ret_i (firstI_none' hA.out).symm, HX.out⟩

set_option maxRecDepth 100000 in
set_option maxHeartbeats 4000000 in
theorem l3gone_any (v : Value) (l : List GoneD) (uid : Int) (w : World) (hv : GonesV w v l) :
    Calls Tryd.prog 81 #[v, .int .i64 uid] w fun e w' => e = .returned (.bool (l.any fun o => decide (o.uid = uid))) ∧ w' = w := by
  have HV : Hid (GonesV w v l) := hv
  obtain ⟨a, cap, rfl, hlc, hcm⟩ := hv.form
  clear hv
  go_enter Tryd.func81, Tryd.ntmps81
  go_wp2
  go_loop [5] (fun i => ∃ k : Nat, k ≤ l.length ∧ i = .int .i64 k ∧ Hid (∀ j m, j < k → l[j]? = some m → m.uid ≠ uid)) (fun i => l.length - (intOf i).toNat)
  case atStart => exact ⟨0, Nat.zero_le _, rfl, fun j m hj => absurd hj (Nat.not_lt_zero _)⟩
  case round =>
    obtain ⟨k, hk, rfl, hA⟩ := hrel
    by_cases hlt : k < l.length
    · obtain ⟨m, hm⟩ : ∃ m, l[k]? = some m := ⟨l[k], List.getElem?_eq_getElem hlt⟩
      obtain ⟨b, off, cap', hv', hlb, d0, d1, j0, j1⟩ := GonesV.cell HV.out k m hm
      simp only [Value.slice.injEq, true_and] at hv'
      obtain ⟨rfl, rfl⟩ := hv'
      have HM : Hid (l[k]? = some m) := hm
      clear hm d1
      by_cases he : m.uid = uid
      · have he' : (m.uid == uid) = true := by simpa using he
        have HE : Hid (m.uid = uid) := he
        clear he
        go_wp2
        go_ret
        exact ⟨ret_b (List.any_eq_true.2 ⟨m, List.mem_of_getElem? HM.out, by simpa using HE.out⟩), rfl⟩
      · have he' : (m.uid == uid) = false := by simpa using he
        have HE : Hid (m.uid ≠ uid) := he
        clear he
        go_wp2
        go_round
        case rel =>
          refine ⟨k + 1, by omega, by go_num, (show Hid _ from fun j y hj hy => ?_)⟩
          by_cases e : j = k
          · subst e; rw [HM.out] at hy; cases hy; exact HE.out
          · exact hA.out j y (by omega) hy
        case measure => simp [intOf]; omega
    · obtain rfl : k = l.length := by omega
      go_wp2
      go_ret
      refine ⟨ret_b (List.any_eq_false.2 fun m hm => ?_), rfl⟩
      obtain ⟨j, hj, rfl⟩ := List.getElem_of_mem hm
      simpa using hA.out j _ hj (List.getElem?_eq_getElem hj)

end Go.Proofs.YtmonloebkdpahaaDoor

/- What bytes.Equal and laterOf of package impl do. -/
namespace Go.Proofs.YtmonloebkdpahaaDoor
open Go.RowKit
set_option linter.unusedVariables false

theorem bts_inj : ∀ {l m : List Int}, Oct l → Oct m → bts l = bts m → l = m
  | [], [], _, _, _ => rfl
  | [], _ :: _, _, _, h => by simp [bts] at h
  | _ :: _, [], _, _, h => by simp [bts] at h
  | x :: l, y :: m, hl, hm, h => by
    simp only [bts, List.map_cons, List.cons.injEq] at h
    have hx := hl x (by simp)
    have hy := hm y (by simp)
    have h1 : x = y := by
      have := congrArg UInt8.toNat h.1
      simp only [UInt8.toNat_ofNat'] at this
      rw [Nat.mod_eq_of_lt (by omega), Nat.mod_eq_of_lt (by omega)] at this
      omega
    rw [h1, bts_inj (fun z hz => hl z (by simp [hz])) (fun z hz => hm z (by simp [hz])) h.2]
theorem str_toList' (l : List Int) : (strOfNums l).toList = bts l := by
  rw [ByteArray.toList_eq]
  rfl
theorem str_eq {l m : List Int} (hl : Oct l) (hm : Oct m) : ((strOfNums l).toList == (strOfNums m).toList) = decide (l = m) := by
  rw [str_toList', str_toList', Bool.eq_iff_iff]
  simp only [beq_iff_eq, decide_eq_true_eq]
  exact ⟨bts_inj hl hm, fun h => by rw [h]⟩

end Go.Proofs.YtmonloebkdpahaaDoor

/- What l3room, l3flags, l3box of package spec, storedFlags of package impl do. -/
namespace Go.Proofs.YtmonloebkdpahaaDoor
open Go.RowKit
set_option maxRecDepth 100000
set_option linter.unusedVariables false
set_option linter.unusedSimpArgs false

/-- A box can take one more change, and so many mails more. -/
def roomB (b : BoxD) (n : Int) : Bool := decide (b.seq < 1000000) && (decide (b.next < 1000000) && decide ((b.mails.length : Int) + n ≤ 12))
/-- What a store makes of flags. -/
def flD (was mode fl : Int) : Int := if mode = 1 then bits .or .i64 was fl else if mode = 2 then bits .andNot .i64 was fl else fl

set_option maxRecDepth 100000 in
set_option maxHeartbeats 1000000 in
theorem l3room_any (v : Value) (b : BoxD) (n : Int) (w : World) (hv : BoxV w v b) (hn0 : 0 ≤ n) (hn1 : n ≤ 1) (hm : b.mails.length ≤ 2000000) :
    Calls Tryd.prog 67 #[v, .int .i64 n] w fun e w' => e = .returned (.bool (roomB b n)) ∧ Below w.heap.size w w' := by
  obtain ⟨u0, u1, u2, rfl, g0, g1, g2, -⟩ := hv
  obtain ⟨a0, n0, c0, rfl⟩ := g0.form3
  obtain ⟨a1, c1, rfl, -⟩ := g1.form
  obtain ⟨a2, c2, rfl, -⟩ := g2.form
  clear g0 g1 g2
  have X : Below w.heap.size w (w.alloc (.cells #[.slice a0 n0 c0, .int .i64 b.valid, .int .i64 b.next, .int .i64 b.seq, .slice a1 b.mails.length c1, .slice a2 b.gones.length c2, .int .i64 b.lost] 35)) := (Below.refl _ _).alloc (Nat.le_refl _) _
  have HX : Hid _ := X
  clear X
  have HD : Hid (roomB b n = (decide (b.seq < 1000000) && (decide (b.next < 1000000) && decide ((b.mails.length : Int) + n ≤ 12)))) := rfl
  by_cases h1 : b.seq < 1000000
  · by_cases h2 : b.next < 1000000
    · by_cases h3 : (b.mails.length : Int) + n ≤ 12
      · have HF : Hid (roomB b n = true) := by show _ = _; rw [HD.out]; simp [h1, h2, h3]
        go_enter Tryd.func67, Tryd.ntmps67
        go_wp2
        go_ret
        exact ⟨ret_b HF.out, HX.out⟩
      · have HF : Hid (roomB b n = false) := by show _ = _; rw [HD.out]; simp [h3]
        go_enter Tryd.func67, Tryd.ntmps67
        go_wp2
        go_ret
        exact ⟨ret_b HF.out, HX.out⟩
    · have HF : Hid (roomB b n = false) := by show _ = _; rw [HD.out]; simp [h2]
      go_enter Tryd.func67, Tryd.ntmps67
      go_wp2
      go_ret
      exact ⟨ret_b HF.out, HX.out⟩
  · have HF : Hid (roomB b n = false) := by show _ = _; rw [HD.out]; simp [h1]
    go_enter Tryd.func67, Tryd.ntmps67
    go_wp2
    go_ret
    exact ⟨ret_b HF.out, HX.out⟩

set_option maxRecDepth 100000 in
set_option maxHeartbeats 1000000 in
theorem l3flags_any (was mode fl : Int) (w : World) :
    Calls Tryd.prog 92 #[.int .i64 was, .int .i64 mode, .int .i64 fl] w fun e w' => e = .returned (.int .i64 (flD was mode fl)) ∧ w' = w := by
  by_cases h1 : mode = 1
  · subst h1
    go_enter Tryd.func92, Tryd.ntmps92
    go_wp2
    go_ret
    exact ⟨rfl, rfl⟩
  · by_cases h2 : mode = 2
    · subst h2
      go_enter Tryd.func92, Tryd.ntmps92
      go_wp2
      go_ret
      exact ⟨rfl, rfl⟩
    · have HF : Hid (flD was mode fl = fl) := by show _ = _; unfold flD; rw [if_neg h1, if_neg h2]
      have e1 : (mode == 1) = false := by simpa using h1
      have e2 : (mode == 2) = false := by simpa using h2
      clear h1 h2
      go_enter Tryd.func92, Tryd.ntmps92
      go_wp2
      go_ret
      exact ⟨ret_i HF.out.symm, rfl⟩

set_option maxRecDepth 100000 in
set_option maxHeartbeats 2000000 in
theorem l3box_any (v u : Value) (a : AccD) (nm : List Int) (w : World) (hv : AccV w v a) (hu : Bs w u nm) (hbl : a.boxes.length ≤ 2000000) :
    Calls Tryd.prog 66 #[v, u] w fun e w' => e = .returned (.int .i64 (firstI (fun x => decide (x.name = nm)) a.boxes)) ∧ Below w.heap.size w w' := by
  obtain ⟨u0, u1, rfl, g0, g1, -⟩ := hv
  have HV : Hid (∀ wi, Below w.heap.size w wi → BoxesV wi u0 a.boxes ∧ Bs wi u nm) := fun wi h => ⟨g0.below keepsBox h, hu.below h⟩
  have HON : Hid (Oct nm) := hu.1
  obtain ⟨a0, c0, rfl, -⟩ := g0.form
  obtain ⟨a1, c1, rfl, -⟩ := g1.form
  obtain ⟨na, nn, nc, rfl⟩ := hu.form3
  clear g0 g1 hu
  have HX : Hid (Below w.heap.size w (w.alloc (.cells #[.int .i64 a.valid, .slice a0 a.boxes.length c0, .slice a1 a.seen.length c1] 72))) := (Below.refl _ _).alloc (Nat.le_refl _) _
  have HK : Hid _ := box_new w (.cells #[.int .i64 a.valid, .slice a0 a.boxes.length c0, .slice a1 a.seen.length c1] 72)
  go_enter Tryd.func66, Tryd.ntmps66
  go_wp2
  go_loopw [5] (fun i wr => ∃ k : Nat, k ≤ a.boxes.length ∧ i = .int .i64 k ∧ Hid (∀ j m, j < k → a.boxes[j]? = some m → decide (m.name = nm) = false) ∧ Hid (Below w.heap.size w wr) ∧ Hid (wr.heap[w.heap.size]? = some (.cells #[.int .i64 a.valid, .slice a0 a.boxes.length c0, .slice a1 a.seen.length c1] 72 (0, 0)))) (fun i _ => a.boxes.length - (intOf i).toNat)
  case atStart => exact ⟨0, Nat.zero_le _, rfl, (fun j m hj => absurd hj (Nat.not_lt_zero _)), HX.out, HK.out⟩
  case round =>
    obtain ⟨k, hk, rfl, hA, hB, HK2⟩ := hrel
    clear HX HK
    obtain ⟨d0, d1, d2⟩ := bx3 HK2.out
    have ld := lt_of_heap HK2.out
    by_cases hlt : k < a.boxes.length
    · obtain ⟨x, hx⟩ : ∃ x, a.boxes[k]? = some x := ⟨a.boxes[k], List.getElem?_eq_getElem hlt⟩
      obtain ⟨b, off, cp, t, q1, q2, hv', hlb, f0, f1, f2, f3, f4, f5, f6, ht, -⟩ := BoxesV.cell (HV.out wr hB.out).1 k x hx
      simp only [Value.slice.injEq, true_and] at hv'
      obtain ⟨rfl, rfl⟩ := hv'
      have HC : Hid (∀ WB, Below wr.heap.size wr WB → (convert 22 9 t).run Tryd.prog WB = .ok (.string (strOfNums x.name)) WB ∧ (convert 22 9 (.slice na nn nc)).run Tryd.prog WB = .ok (.string (strOfNums nm)) WB) := fun WB h => ⟨run_convert_bs (ht.below h), run_convert_bs ((HV.out wr hB.out).2.below h)⟩
      have HE : Hid (((strOfNums x.name).toList == (strOfNums nm).toList) = decide (x.name = nm)) := str_eq ht.1 HON.out
      obtain ⟨ta, tn, tc, rfl⟩ := ht.form3
      have HXX : Hid (a.boxes[k]? = some x) := hx
      have HS : Hid (∀ w', Below wr.heap.size wr w' → (w'.cell? ⟨w.heap.size, 1, none⟩ = some (.slice (some ⟨b, off, none⟩) a.boxes.length c0) ∧ w'.cell? ⟨b, off + k * 7, none⟩ = some (.slice ta tn tc)) ∧ (convert 22 9 (.slice ta tn tc)).run Tryd.prog w' = .ok (.string (strOfNums x.name)) w' ∧ (convert 22 9 (.slice na nn nc)).run Tryd.prog w' = .ok (.string (strOfNums nm)) w') := fun w' h => ⟨⟨cell_later h d1, cell_later h f0⟩, HC.out w' h⟩
      have hki : (k : Int) < a.boxes.length := by omega
      clear ht hx f1 f2 f3 f4 f5 f6
      cases z : decide (x.name = nm) with
      | true =>
        have e3 := HE.out.trans z
        have HZ : Hid (decide (x.name = nm) = true) := z
        clear z HE
        go_wp2
        refine wp_region_held_drew (S := fun w' => (w'.cell? ⟨w.heap.size, 1, none⟩ = some (.slice (some ⟨b, off, none⟩) a.boxes.length c0) ∧ w'.cell? ⟨b, off + k * 7, none⟩ = some (.slice ta tn tc)) ∧ (convert 22 9 (.slice ta tn tc)).run Tryd.prog w' = .ok (.string (strOfNums x.name)) w' ∧ (convert 22 9 (.slice na nn nc)).run Tryd.prog w' = .ok (.string (strOfNums nm)) w') (by kernel_rfl) (HS.out _ ((Below.refl _ _).drew)) (fun hHeld => (show wpAnyH _ _ _ _ _ 10 #[false, false, false, false, false, false, false, false, false, false] _ _ from ?_))
        refine tq 0 13 hHeld ?_
        refine tq 1 14 hHeld ?_
        refine tq 2 15 hHeld ?_
        refine tq 3 16 hHeld ?_
        refine tq 4 17 hHeld ?_
        refine tq 5 18 hHeld ?_
        refine tq 6 19 hHeld ?_
        refine tq 7 20 hHeld ?_
        refine tq 8 21 hHeld ?_
        refine tq 9 22 hHeld ?_
        refine wpAnyH_done (by kernel_rfl) ?_ _
        go_wp2
        go_ret
        exact ⟨ret_i (firstI_hit' hlt HXX.out HZ.out hA.out).symm, hB.out.drew⟩
      | false =>
        have e3 := HE.out.trans z
        have HZ : Hid (decide (x.name = nm) = false) := z
        have HB2 : Hid (Below w.heap.size w wr.drew) := hB.out.drew
        have HK3 : Hid (wr.drew.heap[w.heap.size]? = some _) := HK2.out
        clear z HE
        go_wp2
        refine wp_region_held_drew (S := fun w' => (w'.cell? ⟨w.heap.size, 1, none⟩ = some (.slice (some ⟨b, off, none⟩) a.boxes.length c0) ∧ w'.cell? ⟨b, off + k * 7, none⟩ = some (.slice ta tn tc)) ∧ (convert 22 9 (.slice ta tn tc)).run Tryd.prog w' = .ok (.string (strOfNums x.name)) w' ∧ (convert 22 9 (.slice na nn nc)).run Tryd.prog w' = .ok (.string (strOfNums nm)) w') (by kernel_rfl) (HS.out _ ((Below.refl _ _).drew)) (fun hHeld => (show wpAnyH _ _ _ _ _ 10 #[false, false, false, false, false, false, false, false, false, false] _ _ from ?_))
        refine tq 0 13 hHeld ?_
        refine tq 1 14 hHeld ?_
        refine tq 2 15 hHeld ?_
        refine tq 3 16 hHeld ?_
        refine tq 4 17 hHeld ?_
        refine tq 5 18 hHeld ?_
        refine tq 6 19 hHeld ?_
        refine tq 7 20 hHeld ?_
        refine tq 8 21 hHeld ?_
        refine tq 9 22 hHeld ?_
        refine wpAnyH_done (by kernel_rfl) ?_ _
        go_wp2
        go_roundw
        case rel =>
          refine ⟨k + 1, by omega, by go_num, (show Hid _ from fun j y hj hy => ?_), HB2, HK3⟩
          by_cases e : j = k
          · subst e; rw [HXX.out] at hy; cases hy; exact HZ.out
          · exact hA.out j y (by omega) hy
        case measure => simp [intOf]; omega
    · obtain rfl : k = a.boxes.length := by omega
      go_wp2
      go_ret
      exact ⟨ret_i (firstI_none' hA.out).symm, hB.out⟩

end Go.Proofs.YtmonloebkdpahaaDoor

/- What a command does to an account, on lists: after l3do of package spec. -/
namespace Go.Proofs.YtmonloebkdpahaaDoor
open Go.RowKit

/-- The oldest gones fall out; the last that fell tells what is lost. -/
def trimG (lost : Int) : List GoneD → Int × List GoneD
  | [] => (lost, [])
  | x :: l => if 40 < l.length + 1 then trimG x.seq l else (lost, x :: l)
theorem trimG_le {lost : Int} {l : List GoneD} (h : l.length ≤ 40) : trimG lost l = (lost, l) := by
  cases l with
  | nil => rfl
  | cons x l => rw [trimG, if_neg (by simp only [List.length_cons] at h; omega)]
theorem trimG_gt {lost : Int} {l : List GoneD} {x : GoneD} (h : 40 < (x :: l).length) : trimG lost (x :: l) = trimG x.seq l := by
  rw [trimG, if_pos (by simpa only [List.length_cons] using h)]
theorem trimG_len (l : List GoneD) : ∀ lost : Int, (trimG lost l).2.length ≤ l.length := by
  induction l with
  | nil => intro _; exact Nat.le_refl _
  | cons x l ih =>
    intro lost
    rw [trimG]
    split
    · exact Nat.le_trans (ih x.seq) (Nat.le_succ _)
    · exact Nat.le_refl _
/-- The suffix that the loop holds after i turns, and what is lost then. -/
theorem trimG_drop {l : List GoneD} {i : Nat} {lost : Int} {x : GoneD} (hx : l[i]? = some x) (h : 40 < l.length - i) : trimG lost (l.drop i) = trimG x.seq (l.drop (i + 1)) := by
  obtain ⟨hi, rfl⟩ := List.getElem?_eq_some_iff.mp hx
  rw [List.drop_eq_getElem_cons hi, trimG_gt (by simp only [List.length_cons, List.length_drop]; omega)]

/-- A mail falls out of a box. -/
def dropX (b : BoxD) (i : Nat) : BoxD := match b.mails[i]? with
  | some m => ⟨b.name, b.valid, b.next, b.seq, b.mails.take i ++ b.mails.drop (i + 1), (trimG b.lost (b.gones ++ [⟨m.uid, b.seq⟩])).2, (trimG b.lost (b.gones ++ [⟨m.uid, b.seq⟩])).1⟩
  | none => b
/-- A mail comes into a box. -/
def addX (b : BoxD) (fl : Int) (tx : List Int) : BoxD := ⟨b.name, b.valid, b.next + 1, b.seq + 1, b.mails ++ [⟨b.next, fl, b.seq + 1, tx⟩], b.gones, b.lost⟩
def seqX (b : BoxD) : BoxD := ⟨b.name, b.valid, b.next, b.seq + 1, b.mails, b.gones, b.lost⟩
def codeR (c n : Int) : RepD := ⟨c, n, zeroX, []⟩

def createA (a : AccD) (nm : List Int) : AccD × RepD :=
  if 0 ≤ firstI (fun x : BoxD => decide (x.name = nm)) a.boxes then (a, codeR 2 0)
  else if 4 ≤ a.boxes.length ∨ 1000000 ≤ a.valid then (a, codeR 3 0)
  else (⟨a.valid + 1, a.boxes.takeWhile (fun x : BoxD => lessB x.name nm) ++ (⟨nm, a.valid + 1, 1, 0, [], [], 0⟩ :: a.boxes.dropWhile (fun x : BoxD => lessB x.name nm)), a.seen⟩, codeR 0 (a.valid + 1))

def storeX (b : BoxD) (uid mode fl si : Int) : BoxD × RepD :=
  match b.mails.findIdx? (fun m : MailD => decide (m.uid = uid)) with
  | none => (b, codeR 1 0)
  | some i => match b.mails[i]? with
    | none => (b, codeR 1 0)
    | some m =>
      if 0 < si ∧ si < m.seq then (b, codeR 4 m.seq)
      else if flD m.flags mode fl = m.flags then (b, codeR 0 m.seq)
      else if 1000000 ≤ b.seq then (b, codeR 3 0)
      else (⟨b.name, b.valid, b.next, b.seq + 1, b.mails.set i ⟨m.uid, flD m.flags mode fl, b.seq + 1, m.text⟩, b.gones, b.lost⟩, codeR 0 (b.seq + 1))

/-- A mail bears the flag that marks it as to be expunged. -/
def delM (m : MailD) : Bool := decide (0 < bits .and .i64 m.flags 8)
/-- From the i-th mail on, every one that is marked falls out; n: how many mails are still to be looked at. -/
def expLoop : Nat → BoxD → Nat → BoxD
  | 0, b, _ => b
  | n + 1, b, i => match b.mails[i]? with
    | none => b
    | some m => if delM m then expLoop n (dropX b i) i else expLoop n b (i + 1)
def expungeX (b : BoxD) : BoxD × RepD :=
  if b.mails.countP delM = 0 then (b, codeR 0 0)
  else if 1000000 ≤ b.seq then (b, codeR 3 0)
  else (expLoop b.mails.length (seqX b) 0, codeR 0 (b.mails.countP delM : Nat))

def setB (a : AccD) (k : Nat) (b : BoxD) : AccD := ⟨a.valid, a.boxes.set k b, a.seen⟩
def copyA (a : AccD) (k : Nat) (b : BoxD) (tt : List Int) (uid mode : Int) : AccD × RepD :=
  match b.mails.findIdx? (fun m : MailD => decide (m.uid = uid)), a.boxes.findIdx? (fun x : BoxD => decide (x.name = tt)) with
  | some i, some t => match b.mails[i]?, a.boxes[t]? with
    | some m, some bt =>
      if roomB bt (if mode = 1 ∧ t = k then 0 else 1) = false ∨ (mode = 1 ∧ 999999 ≤ b.seq) then (a, codeR 3 0)
      else
        let a1 := if mode = 1 then setB a k (dropX (seqX b) i) else a
        match a1.boxes[t]? with
        | some bu => (setB a1 t (addX bu m.flags m.text), codeR 0 bu.next)
        | none => (a1, codeR 1 0)
    | _, _ => (a, codeR 1 0)
  | _, _ => (a, codeR 1 0)

/-- What a command does: the account behind it, and the reply. -/
def doD (a : AccD) (c : CmdD) : AccD × RepD :=
  if c.k = 0 then createA a c.bx
  else if c.k = 9 then (a, ⟨0, 0, zeroX, a.boxes.map fun x : BoxD => x.name⟩)
  else match a.boxes.findIdx? (fun x : BoxD => decide (x.name = c.bx)) with
    | none => (a, codeR 1 0)
    | some k => match a.boxes[k]? with
      | none => (a, codeR 1 0)
      | some b =>
        if c.k = 1 then (⟨a.valid, a.boxes.take k ++ a.boxes.drop (k + 1), a.seen⟩, codeR 0 0)
        else if c.k = 2 then (if roomB b 1 then (setB a k (addX b c.fl c.tx), codeR 0 b.next) else (a, codeR 3 0))
        else if c.k = 3 then (setB a k (storeX b c.uid c.mode c.fl c.si).1, (storeX b c.uid c.mode c.fl c.si).2)
        else if c.k = 4 then (setB a k (expungeX b).1, (expungeX b).2)
        else if c.k = 6 then copyA a k b c.tt c.uid c.mode
        else if c.k = 8 then (a, chgD b c.si)
        else if c.k = 7 then (a, ⟨0, (b.mails.length : Nat), ⟨b.name, b.valid, b.next, b.seq, [], [], b.lost⟩, []⟩)
        else match b.mails.findIdx? (fun m : MailD => decide (m.uid = c.uid)) with
          | none => (a, codeR 1 0)
          | some i => (a, ⟨0, c.uid, ⟨b.name, b.valid, b.next, b.seq, (b.mails.drop i).take 1, [], b.lost⟩, []⟩)

end Go.Proofs.YtmonloebkdpahaaDoor
