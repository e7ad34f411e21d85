/- What Write answers. -/
import Derived.Test.YtiafkmjndcfjlaaDoorLib
namespace Go.Proofs.YtiafkmjndcfjlaaDoor

/-- The bytes of a record in a log. -/
def frameL (r : List Int) : List Int := putL [] r.length ++ r
theorem frameL_length (r : List Int) : r.length ≤ (frameL r).length ∧ (frameL r).length ≤ r.length + 5 := by
  unfold frameL; have := putL_length [] r.length; simp at this ⊢; omega
/-- May the record be written? -/
def fitsB (a b r : List Int) : Bool := decide (r.length ≤ 6000 ∧ (frameL r).length + a.length + b.length ≤ 1000000)

/-- The tail behind Write. -/
def writeB (a b r : List Int) : List Int := if fitsB a b r then b ++ frameL r else b

/-- What Write answers: the log's two parts, and whether it was written. -/
def wrA (a b : List Int) : List Int := if a.length + b.length ≤ 1000000 then a else []
def wrB (a b r : List Int) : List Int := if a.length + b.length ≤ 1000000 then writeB a b r else []
def wrOk (a b r : List Int) : Bool := decide (a.length + b.length ≤ 1000000) && fitsB a b r
theorem wrA_length (a b : List Int) : (wrA a b).length ≤ a.length := by unfold wrA; split <;> simp
theorem writeB_length (a b r : List Int) : (writeB a b r).length ≤ b.length + 6005 := by
  unfold writeB fitsB
  have := frameL_length r
  split
  · rename_i h; simp at h; simp; omega
  · omega
theorem wrB_length (a b r : List Int) : (wrB a b r).length ≤ b.length + 6005 := by
  have := writeB_length a b r
  unfold wrB; split
  · exact this
  · simp

end Go.Proofs.YtiafkmjndcfjlaaDoor
