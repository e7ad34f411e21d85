/- What may be: boxes and accounts, as plain data. -/
import Derived.Test.YtnjicpdccpkbmaaLibAcc
import Derived.Test.YtnjicpdccpkbmaaMailM
import Derived.Lib.Bytealg
namespace Go.Proofs.Ytnjicpdccpkbmaa

/-- The bytes of a list of numbers; which of two comes first. -/
def bts (l : List Int) : List UInt8 := l.map fun n => UInt8.ofNat n.toNat
def lessB (l m : List Int) : Bool := Op.bytesLess (bts l) (bts m)
theorem less_cmp : ∀ (a b : List UInt8), decide (0 ≤ Lib.compareBytes a b) = !Op.bytesLess a b
  | [], [] => rfl
  | [], _ :: _ => rfl
  | _ :: _, [] => rfl
  | a :: x, b :: y => by
    have ih := less_cmp x y
    unfold Lib.compareBytes Op.bytesLess
    by_cases h1 : a < b
    · simp [h1]
    · by_cases h2 : b < a
      · have hne : (a == b) = false := by simp; intro e; subst e; exact absurd h2 (UInt8.lt_irrefl _)
        simp [h1, h2, hne]
      · have he : a = b := UInt8.le_antisymm (UInt8.not_lt.1 h2) (UInt8.not_lt.1 h1)
        subst he
        simp only [h1, if_false, decide_false, Bool.false_or, BEq.rfl, Bool.true_and]
        exact ih

theorem rangeAll_yes {n : Nat} {f : Nat → Bool} (h : ∀ j, j < n → f j = true) : (List.range n).all f = true := by
  rw [List.all_eq_true]; intro j hj; exact h j (List.mem_range.1 hj)
theorem rangeAll_no {n : Nat} {f : Nat → Bool} (j : Nat) (hj : j < n) (h : f j = false) : (List.range n).all f = false := by
  rw [List.all_eq_false]; exact ⟨j, List.mem_range.2 hj, by simp [h]⟩
theorem and_false_of {a b : Bool} (h : b = false) : (a && b) = false := by rw [h]; cases a <;> rfl
theorem and_of {a b c : Bool} (h : a = true) (h' : b = c) : (a && b) = c := by rw [h, h']; rfl

def prevI (l : List Int) : Nat → Int
  | 0 => 0
  | i + 1 => l.getD i 0
def seenAt (l : List Int) (i : Nat) : Bool := inB (l.getD i 0) (prevI l i + 1) 1000000
def seenB (l : List Int) : Bool := decide (l.length ≤ 60) && (List.range l.length).all (seenAt l)
theorem prevI_ok {l : List Int} {k : Nat} (hk : k ≤ l.length) (h : ∀ j, j < k → seenAt l j = true) : 0 ≤ prevI l k ∧ prevI l k ≤ 1000000 ∧ (0 < k → 1 ≤ prevI l k) := by
  induction k with
  | zero => simp [prevI]
  | succ k ih =>
    have h1 := ih (by omega) (fun j hj => h j (by omega))
    have h2 := h k (by omega)
    simp only [seenAt, inB, Bool.and_eq_true, decide_eq_true_eq] at h2
    simp only [prevI]
    omega

def prevU (l : List MailD) : Nat → Int
  | 0 => 0
  | i + 1 => match l[i]? with | some m => m.uid | none => 0
def mailAt (b : BoxD) (i : Nat) : Bool := match b.mails[i]? with
  | some m => inB m.uid (prevU b.mails i + 1) (b.next - 1) && (inB m.flags 0 31 && (inB m.seq 1 b.seq && textB m.text))
  | none => true
def mailsB (b : BoxD) : Bool := decide (b.mails.length ≤ 12) && (List.range b.mails.length).all (mailAt b)
theorem prevU_ok {b : BoxD} {k : Nat} (hn : b.next ≤ 1000000) (hk : k ≤ b.mails.length) (h : ∀ j, j < k → mailAt b j = true) : 0 ≤ prevU b.mails k ∧ prevU b.mails k ≤ 1000000 := by
  induction k with
  | zero => simp [prevU]
  | succ k ih =>
    have h1 := ih (by omega) (fun j hj => h j (by omega))
    have h2 := h k (by omega)
    obtain ⟨m, hm⟩ : ∃ m, b.mails[k]? = some m := ⟨b.mails[k]'(by omega), List.getElem?_eq_getElem (by omega)⟩
    simp only [mailAt, hm, inB, Bool.and_eq_true, decide_eq_true_eq] at h2
    simp only [prevU, hm]
    omega

def minS (b : BoxD) : Nat → Int
  | 0 => max 1 b.lost
  | i + 1 => match b.gones[i]? with | some g => g.seq | none => 0
def goneAt (b : BoxD) (i : Nat) : Bool := match b.gones[i]? with
  | some g => inB g.uid 1 (b.next - 1) && (inB g.seq (minS b i) b.seq && (!(b.mails.any fun m => decide (m.uid = g.uid)) && !((b.gones.take i).any fun o => decide (o.uid = g.uid))))
  | none => true
def gonesB (b : BoxD) : Bool := decide (b.gones.length ≤ 40) && (List.range b.gones.length).all (goneAt b)
theorem minS_ok {b : BoxD} {k : Nat} (hk : k ≤ b.gones.length) (h : ∀ j, j < k → goneAt b j = true) : 1 ≤ minS b k ∧ b.lost ≤ minS b k := by
  induction k with
  | zero => simp only [minS]; omega
  | succ k ih =>
    have h1 := ih (by omega) (fun j hj => h j (by omega))
    have h2 := h k (by omega)
    obtain ⟨m, hm⟩ : ∃ m, b.gones[k]? = some m := ⟨b.gones[k]'(by omega), List.getElem?_eq_getElem (by omega)⟩
    simp only [goneAt, hm, inB, Bool.and_eq_true, decide_eq_true_eq] at h2
    simp only [minS, hm]
    omega

def boxB (b : BoxD) (valid : Int) : Bool := nameB b.name && (inB b.valid 1 valid && (inB b.next 1 1000000 && (inB b.seq 0 1000000 && (inB b.lost 0 b.seq && (mailsB b && gonesB b)))))
def nameAt (l : List BoxD) (i : Nat) : List Int := match l[i]? with | some b => b.name | none => []
def aheadB (l : List BoxD) (b : BoxD) : Nat → Bool
  | 0 => true
  | i + 1 => lessB (nameAt l i) b.name
def boxAt (a : AccD) (i : Nat) : Bool := match a.boxes[i]? with
  | some b => boxB b a.valid && (aheadB a.boxes b i && !((a.boxes.take i).any fun o => decide (o.valid = b.valid)))
  | none => true
def accB (a : AccD) : Bool := inB a.valid 0 1000000 && (decide (a.boxes.length ≤ 4) && (seenB a.seen && (List.range a.boxes.length).all (boxAt a)))

end Go.Proofs.Ytnjicpdccpkbmaa
