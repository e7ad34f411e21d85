/- Commands that are zero. -/
import Derived.Test.YtompmicdieebhaaLibCmdD
import Derived.Test.YtompmicdieebhaaMailM
namespace Go.Proofs.Ytompmicdieebhaa

/-- A command that is zero, by its numbers and lengths. -/
def zC (k : Int) (nb nt : Nat) (uid mode fl si : Int) (nx : Nat) : Bool := decide (k = 0 ∧ nb = 0 ∧ nt = 0 ∧ uid = 0 ∧ mode = 0 ∧ fl = 0 ∧ si = 0 ∧ nx = 0)
def zeroC (c : CmdD) : Bool := zC c.k c.bx.length c.tt.length c.uid c.mode c.fl c.si c.tx.length
def cmdD (c : CmdD) : Bool := cmdB c.k c.bx c.tt c.uid c.mode c.fl c.si c.tx
theorem zero_not_ok {c : CmdD} (h : zeroC c = true) : cmdD c = false := by
  simp only [zeroC, zC, decide_eq_true_eq] at h
  simp [cmdD, cmdB, h.1, nameB_nil h.2.1]

end Go.Proofs.Ytompmicdieebhaa
