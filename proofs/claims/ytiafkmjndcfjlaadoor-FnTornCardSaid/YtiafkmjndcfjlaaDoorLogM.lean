/- What Sync and Crash answer. -/
import Derived.Test.YtiafkmjndcfjlaaDoorLib
namespace Go.Proofs.YtiafkmjndcfjlaaDoor

/-- What Sync answers. -/
def syncA (a b : List Int) : List Int := if a.length + b.length ≤ 1000000 then a ++ b else []

theorem syncA_length (a b : List Int) : (syncA a b).length ≤ a.length + b.length := by unfold syncA; split <;> simp

/-- How many bytes of the tail a crash keeps. -/
def keepN (n : Nat) (keep : Int) : Nat := if keep < 0 then 0 else min keep.toNat n
theorem keepN_le (n : Nat) (keep : Int) : keepN n keep ≤ n := by unfold keepN; split <;> omega

/-- What Crash answers. -/
def crashA (a b : List Int) (keep : Int) : List Int := if a.length + b.length ≤ 1000000 then a ++ b.take (keepN b.length keep) else []

theorem crashA_length (a b : List Int) (keep : Int) : (crashA a b keep).length ≤ a.length + b.length := by
  unfold crashA
  split
  · simp; omega
  · simp

end Go.Proofs.YtiafkmjndcfjlaaDoor
