/- What PutText and GetText answer, on lists. -/
import Derived.Test.YtiafkmjndcfjlaaDoorLibNum
namespace Go.Proofs.YtiafkmjndcfjlaaDoor
open Go.RowKit

/-- What PutText answers. -/
def putTL (b t : List Int) : List Int := if 30 < t.length then b else putL b t.length ++ t
theorem putTL_length (b t : List Int) : (putTL b t).length ≤ b.length + 35 := by
  unfold putTL
  have := putL_length b t.length
  split
  · omega
  · simp; omega

/-- What GetText answers. -/
def getTL (l : List Int) (at' : Int) : List Int × Int :=
  if (getL l at').2 < 0 ∨ 30 < (getL l at').1 ∨ (l.length : Int) - (getL l at').2 < (getL l at').1 then ([], -1)
  else ((l.drop (getL l at').2.toNat).take (getL l at').1.toNat, (getL l at').2 + (getL l at').1)

theorem dec_bd (f i : Nat) (n sc : Int) (l : List Int) (hn : 0 ≤ n) (hs : 0 ≤ sc) : dec f i n sc l = none ∨ ∃ m k, dec f i n sc l = some (m, k) ∧ 0 ≤ m ∧ m ≤ 2147483647 ∧ i < k ∧ k ≤ i + l.length := by
  induction f generalizing i n sc l with
  | zero => left; rfl
  | succ f ih =>
    cases l with
    | nil => left; rfl
    | cons x r =>
      simp only [dec]
      have hx : 0 ≤ x % 128 * sc := Int.mul_nonneg (by omega) hs
      split
      · split
        · left; rfl
        · right; refine ⟨_, _, rfl, by omega, by omega, by omega, by simp⟩
      · rcases ih (i + 1) (n + x % 128 * sc) (sc * 128) r (by omega) (by omega) with h | ⟨m, k, h1, h2, h3, h4, h5⟩
        · left; exact h
        · right; exact ⟨m, k, h1, h2, h3, by omega, by simp; omega⟩
theorem getL_bd (l : List Int) (at' : Int) : getL l at' = (0, -1) ∨ (0 ≤ (getL l at').1 ∧ (getL l at').1 ≤ 2147483647 ∧ 1 ≤ (getL l at').2 ∧ (getL l at').2 ≤ l.length) := by
  unfold getL
  split
  · left; rfl
  · rcases dec_bd 5 0 0 1 (l.drop at'.toNat) (by omega) (by omega) with h | ⟨m, k, h1, h2, h3, h4, h5⟩
    · rw [h]; left; rfl
    · right
      rw [h1]
      simp at h5
      simp only [outOf]
      omega
theorem getTL_length (l : List Int) (at' : Int) : (getTL l at').1.length ≤ 30 := by
  unfold getTL
  split
  · simp
  · simp; omega

/-- A cut of a slice of bytes, not at its very end. -/
theorem bs_cut {w : World} {b off cap : Nat} {l : List Int} (hv : Bs w (.slice (some ⟨b, off, none⟩) l.length cap) l) (lo n : Nat) (h : lo + n ≤ l.length) :
    Bs w (.slice (some ⟨b, off + lo, none⟩) n (cap - lo)) ((l.drop lo).take n) := by
  obtain ⟨ho, a, cap', hv, h1, h2, h3, h4⟩ := hv
  simp only [Value.slice.injEq] at hv
  obtain ⟨rfl, -, rfl⟩ := hv
  have hl : ((l.drop lo).take n).length = n := by simp; omega
  refine ⟨oct_take (oct_drop ho _) _, _, cap - lo, by rw [hl], by rw [hl]; omega, by omega, (fun h => by cases h), fun hp => ?_⟩
  rw [hl] at hp
  obtain ⟨b', off', e, hlt, hc⟩ := h4 (by omega)
  simp only [Option.some.injEq, Addr.mk.injEq, and_true] at e
  obtain ⟨rfl, rfl⟩ := e
  refine ⟨b, off + lo, rfl, hlt, fun i hi => ?_⟩
  rw [hl] at hi
  rw [Nat.add_assoc, hc (lo + i) (by omega)]
  simp [hi]
theorem bs_empty (w : World) (x : Addr) (c : Nat) (hc : c ≤ maxLen) : Bs w (.slice (some x) 0 c) [] :=
  ⟨oct_nil, some x, c, rfl, by simp, hc, (fun h => by cases h), fun h => absurd h (by simp)⟩

end Go.Proofs.YtiafkmjndcfjlaaDoor
