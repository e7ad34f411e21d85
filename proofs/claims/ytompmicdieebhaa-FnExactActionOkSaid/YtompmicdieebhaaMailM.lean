/- Names, texts and commands as plain lists and numbers: no program is named here. -/
import Derived.WalkKit
namespace Go.Proofs.Ytompmicdieebhaa

theorem ret_b {a b : Bool} (h : b = a) : Ending.returned (.bool a) = .returned (.bool b) := by rw [h]

/-- Every number of the list lies between two. -/
def allIn (lo hi : Int) (l : List Int) : Bool := l.all fun x => decide (lo ≤ x) && decide (x ≤ hi)
/-- A name: one to six small letters. -/
def nameB (l : List Int) : Bool := decide (1 ≤ l.length) && (decide (l.length ≤ 6) && allIn 97 122 l)
/-- A text: at most thirty bytes that can be seen. -/
def textB (l : List Int) : Bool := decide (l.length ≤ 30) && allIn 32 126 l
/-- A number lies between two. -/
def inB (n lo hi : Int) : Bool := decide (lo ≤ n) && decide (n ≤ hi)

theorem allIn_yes {lo hi : Int} {l : List Int} (h : ∀ j, j < l.length → lo ≤ l.getD j 0 ∧ l.getD j 0 ≤ hi) : allIn lo hi l = true := by
  unfold allIn
  rw [List.all_eq_true]
  intro x hx
  obtain ⟨j, hj, rfl⟩ := List.getElem_of_mem hx
  have := h j hj
  simp [hj] at this
  simp [this]
theorem allIn_no {lo hi : Int} {l : List Int} (j : Nat) (hj : j < l.length) (h : ¬ (lo ≤ l.getD j 0 ∧ l.getD j 0 ≤ hi)) : allIn lo hi l = false := by
  cases e : allIn lo hi l with
  | false => rfl
  | true =>
    exfalso
    unfold allIn at e
    rw [List.all_eq_true] at e
    have := e _ (List.getElem_mem hj)
    simp [hj] at h
    simp at this
    omega

theorem ret_i {k : IntKind} {a b : Int} (h : a = b) : Ending.returned (.int k a) = .returned (.int k b) := by rw [h]
/-- The place of the first that fits; -1 where there is none. -/
def firstI {α : Type} (p : α → Bool) (l : List α) : Int := match l.findIdx? p with | some i => i | none => -1
theorem firstI_hit {p : Int → Bool} {l : List Int} {k : Nat} (hk : k < l.length) (h : p (l.getD k 0) = true) (hA : ∀ j, j < k → p (l.getD j 0) = false) : firstI p l = k := by
  have : l.findIdx? p = some k := by
    rw [List.findIdx?_eq_some_iff_getElem]
    refine ⟨hk, by simpa [hk] using h, fun j hj => ?_⟩
    have := hA j hj
    simp [show j < l.length by omega] at this
    simp [this]
  simp [firstI, this]
theorem firstI_none {p : Int → Bool} {l : List Int} (hA : ∀ j, j < l.length → p (l.getD j 0) = false) : firstI p l = -1 := by
  have : l.findIdx? p = none := by
    rw [List.findIdx?_eq_none_iff]
    intro x hx
    obtain ⟨j, hj, rfl⟩ := List.getElem_of_mem hx
    have := hA j hj
    simpa [hj] using this
  simp [firstI, this]
theorem any_firstI {α : Type} (p : α → Bool) (l : List α) : l.any p = decide (0 ≤ firstI p l) := by
  unfold firstI
  cases h : l.findIdx? p with
  | none =>
    rw [List.findIdx?_eq_none_iff] at h
    simp only [show ¬ (0 : Int) ≤ -1 by omega, decide_false]
    rw [List.any_eq_false]
    intro x hx
    simp [h x hx]
  | some i =>
    rw [List.findIdx?_eq_some_iff_getElem] at h
    obtain ⟨hi, hp, -⟩ := h
    simp only [show (0 : Int) ≤ (i : Int) by omega, decide_true]
    rw [List.any_eq_true]
    exact ⟨_, List.getElem_mem hi, hp⟩

/-- Which kinds have a second name, a number of a mail, flags and how, a number of a change, a text. -/
def toB (k : Int) : Bool := decide (k = 6)
def uidB (k : Int) : Bool := decide (k = 3) || (decide (k = 5) || decide (k = 6))
def modeB (k : Int) : Bool := decide (k = 2) || (decide (k = 3) || decide (k = 6))
def sinceB (k : Int) : Bool := decide (k = 3) || decide (k = 8)
def textsB (k : Int) : Bool := decide (k = 2)

/-- A command that may be. -/
def cmdB (k : Int) (bx tt : List Int) (uid mode fl si : Int) (tx : List Int) : Bool :=
  decide (0 ≤ k ∧ k ≤ 9) && (if k = 9 then decide (bx.length = 0) else nameB bx) && (if k = 6 then nameB tt else decide (tt.length = 0)) &&
  (if k = 3 ∨ k = 5 ∨ k = 6 then inB uid 1 1000000 else decide (uid = 0)) && inB mode 0 (if k = 3 then 2 else if k = 6 then 1 else 0) &&
  inB fl 0 (if k = 2 ∨ k = 3 then 31 else 0) && inB si 0 (if k = 3 ∨ k = 8 then 1000000 else 0) && (if k = 2 then textB tx else decide (tx.length = 0))

theorem nameB_len {l : List Int} (h : nameB l = true) : 1 ≤ l.length ∧ l.length ≤ 6 := by unfold nameB at h; simp at h; exact ⟨h.1, h.2.1⟩
theorem textB_nil {l : List Int} (h : l.length = 0) : textB l = true := by
  have : l = [] := List.eq_nil_of_length_eq_zero h
  subst this; rfl
theorem nameB_nil {l : List Int} (h : l.length = 0) : nameB l = false := by
  have : l = [] := List.eq_nil_of_length_eq_zero h
  subst this; rfl

end Go.Proofs.Ytompmicdieebhaa
