/- What GetNum answers, on lists. -/
import Derived.Test.YtompmicdieebhaaLibApp
namespace Go.Proofs.Ytompmicdieebhaa
open Go.RowKit

/-- Reads a number off the list: f bytes may still come, i have come, n is what they gave, sc the next one's weight. -/
def dec : Nat → Nat → Int → Int → List Int → Option (Int × Nat)
  | 0, _, _, _, _ => none
  | _ + 1, _, _, _, [] => none
  | f + 1, i, n, sc, x :: r =>
    if x < 128 then (if (x = 0 ∧ 0 < i) ∨ 2147483647 < n + x % 128 * sc then none else some (n + x % 128 * sc, i + 1))
    else dec f (i + 1) (n + x % 128 * sc) (sc * 128) r

/-- What GetNum answers. -/
def outOf (at' : Int) : Option (Int × Nat) → Int × Int
  | some (n, k) => (n, at' + k)
  | none => (0, -1)
def getL (l : List Int) (at' : Int) : Int × Int := if at' < 0 then (0, -1) else outOf at' (dec 5 0 0 1 (l.drop at'.toNat))

theorem drop_get (l : List Int) (k : Nat) (h : k < l.length) : l.drop k = l.getD k 0 :: l.drop (k + 1) := by
  rw [List.drop_eq_getElem_cons h]; simp [h]
theorem dec_end (f i : Nat) (n sc : Int) (l : List Int) (k : Nat) (h : l.length ≤ k) : dec f i n sc (l.drop k) = none := by
  rw [List.drop_eq_nil_of_le h]; cases f <;> rfl
theorem dec_more (f i : Nat) (n sc : Int) (l : List Int) (k : Nat) (h : k < l.length) (hx : ¬ l.getD k 0 < 128) :
    dec (f + 1) i n sc (l.drop k) = dec f (i + 1) (n + l.getD k 0 % 128 * sc) (sc * 128) (l.drop (k + 1)) := by
  rw [drop_get l k h]; simp only [dec]; rw [if_neg hx]
theorem dec_bad (f i : Nat) (n sc : Int) (l : List Int) (k : Nat) (h : k < l.length) (hx : l.getD k 0 < 128) (hb : (l.getD k 0 = 0 ∧ 0 < i) ∨ 2147483647 < n + l.getD k 0 % 128 * sc) :
    dec (f + 1) i n sc (l.drop k) = none := by
  rw [drop_get l k h]; simp only [dec]; rw [if_pos hx, if_pos hb]
theorem dec_good (f i : Nat) (n sc : Int) (l : List Int) (k : Nat) (h : k < l.length) (hx : l.getD k 0 < 128) (hb : ¬ ((l.getD k 0 = 0 ∧ 0 < i) ∨ 2147483647 < n + l.getD k 0 % 128 * sc)) :
    dec (f + 1) i n sc (l.drop k) = some (n + l.getD k 0 % 128 * sc, i + 1) := by
  rw [drop_get l k h]; simp only [dec]; rw [if_pos hx, if_neg hb]

theorem ret2 {a b : Int} {p : Int × Int} (h : p = (a, b)) : Ending.returned (.tuple #[.int .i64 a, .int .i64 b]) = .returned (.tuple #[.int .i64 p.1, .int .i64 p.2]) := by rw [h]

theorem ret2' {a b a' b' : Int} {p : Int × Int} (h : p = (a', b')) (e1 : a = a') (e2 : b = b') : Ending.returned (.tuple #[.int .i64 a, .int .i64 b]) = .returned (.tuple #[.int .i64 p.1, .int .i64 p.2]) := by rw [h, e1, e2]

end Go.Proofs.Ytompmicdieebhaa
