/- Plain facts on boxes. -/
import Derived.Test.YtnjicpdccpkbmaaS3boxP
namespace Go.Proofs.Ytnjicpdccpkbmaa
set_option linter.unusedVariables false

def clsB (x : BoxD) (k : Nat) : Nat := match x.gones[k]? with
  | some m => if m.uid < 1 then 1 else if x.next ≤ m.uid then 2 else if (x.mails.any fun o => decide (o.uid = m.uid)) = true then 3 else if m.seq < 1 then 4 else if x.seq < m.seq then 5 else if (0 : Int) < (k : Int) then (if m.seq < minS x k then 8 else if m.seq < x.lost then 9 else 10) else (if m.seq < x.lost then 6 else 7)
  | none => 1
theorem clsB_range (x : BoxD) (k : Nat) : 1 ≤ clsB x k ∧ clsB x k ≤ 10 := by
  unfold clsB
  repeat' split
  all_goals omega
theorem early_cls {x : BoxD} {k : Nat} (h : earlyB x k = true) : clsB x k ≤ 5 := by
  unfold earlyB at h
  unfold clsB
  split
  · rename_i m hm
    rw [hm] at h
    simp only [Bool.or_eq_true, decide_eq_true_eq] at h
    split
    · omega
    split
    · omega
    split
    · omega
    split
    · omega
    split
    · omega
    rcases h with h | h | h | h | h <;> contradiction
  · omega

end Go.Proofs.Ytnjicpdccpkbmaa
