/- A number read in two steps: how many bytes it has, then what they say. -/
import Derived.Test.YtiafkmjndcfjlaaDoorLibNum
namespace Go.Proofs.YtiafkmjndcfjlaaDoor
open Go.RowKit

/-- How many bytes the number has, i of them passed already; 0: there is none. -/
def szL : Nat → List Int → Nat
  | _, [] => 0
  | i, x :: r => if x < 128 then (if x = 0 ∧ 0 < i then 0 else i + 1) else szL (i + 1) r
/-- What the bytes say, seven bits each, the lowest first. -/
def valL : List Int → Int
  | [] => 0
  | x :: r => x % 128 + 128 * valL r

theorem szL_gt (i : Nat) (l : List Int) : szL i l = 0 ∨ (i < szL i l ∧ szL i l ≤ i + l.length) := by
  induction l generalizing i with
  | nil => left; rfl
  | cons x r ih =>
    unfold szL
    split
    · split
      · left; rfl
      · right; simp
    · rcases ih (i + 1) with h | h
      · left; exact h
      · right; simp; omega

theorem dec_two (f i : Nat) (n sc : Int) (l : List Int) :
    dec f i n sc l = if szL i (l.take f) = 0 then none else if 2147483647 < n + sc * valL (l.take (szL i (l.take f) - i)) then none else some (n + sc * valL (l.take (szL i (l.take f) - i)), szL i (l.take f)) := by
  induction f generalizing i n sc l with
  | zero => simp [dec, szL]
  | succ f ih =>
    cases l with
    | nil => simp [dec, szL]
    | cons x r =>
      simp only [dec, List.take_succ_cons, szL]
      by_cases hx : x < 128
      · simp only [if_pos hx]
        by_cases hz : x = 0 ∧ 0 < i
        · simp [hz]
        · have e : sc * valL [x] = x % 128 * sc := by simp [valL, Int.mul_comm]
          simp only [hz, false_or]
          simp [e]
      · simp only [if_neg hx]
        rw [ih]
        rcases szL_gt (i + 1) (r.take f) with h | h
        · simp [h]
        · have hne : szL (i + 1) (r.take f) ≠ 0 := by omega
          have e : n + x % 128 * sc + sc * 128 * valL (r.take (szL (i + 1) (r.take f) - (i + 1))) = n + sc * valL ((x :: r).take (szL (i + 1) (r.take f) - i)) := by
            rw [show szL (i + 1) (r.take f) - i = (szL (i + 1) (r.take f) - (i + 1)) + 1 by omega, List.take_succ_cons, valL, Int.mul_add, Int.mul_comm (x % 128) sc, Int.mul_assoc, Int.add_assoc]
          rw [e]

end Go.Proofs.YtiafkmjndcfjlaaDoor
