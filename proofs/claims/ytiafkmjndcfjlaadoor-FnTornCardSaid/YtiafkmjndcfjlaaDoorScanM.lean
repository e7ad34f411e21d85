/- The whole records of some bytes, and where they end; what Scan and Mend answer. -/
import Derived.Test.YtiafkmjndcfjlaaDoorBase
import Derived.Test.YtiafkmjndcfjlaaDoorLibGet
import Derived.Test.YtiafkmjndcfjlaaDoorLibText
import Derived.Test.YtiafkmjndcfjlaaDoorLibRows
namespace Go.Proofs.YtiafkmjndcfjlaaDoor
open Go.RowKit

theorem info22 : (Tryd.prog.info? 22).map (fun i => (i.zero, i.size, i.bytes)) = some (some (.slice none 0 0), 1, 24) := by kernel_rfl

theorem getL_gt (l : List Int) (A : Nat) : (getL l A).2 < 0 ∨ (A : Int) < (getL l A).2 := by
  unfold getL
  rw [if_neg (by omega)]
  rcases dec_bd 5 0 0 1 (l.drop (A : Int).toNat) (by omega) (by omega) with h | ⟨m, k, h1, h2, h3, h4, h5⟩
  · rw [h]; left; simp [outOf]
  · right; rw [h1]; simp only [outOf]; omega

/-- The whole records from A on, and where they end. -/
def scanGo (l : List Int) : Nat → Nat → List (List Int) × Nat
  | 0, A => ([], A)
  | F + 1, A =>
    if A < l.length then
      if (getL l A).2 < 0 ∨ 6000 < (getL l A).1 ∨ (l.length : Int) - (getL l A).2 < (getL l A).1 then ([], A)
      else ((l.drop (getL l A).2.toNat).take (getL l A).1.toNat :: (scanGo l F ((getL l A).2.toNat + (getL l A).1.toNat)).1, (scanGo l F ((getL l A).2.toNat + (getL l A).1.toNat)).2)
    else ([], A)
def scanL (l : List Int) : List (List Int) × Nat := scanGo l l.length 0

theorem scan_end (l : List Int) (F A : Nat) (h : ¬ A < l.length) : scanGo l F A = ([], A) := by
  cases F with
  | zero => rfl
  | succ F => unfold scanGo; rw [if_neg h]
theorem scan_bad (l : List Int) (F A : Nat) (h : (getL l A).2 < 0 ∨ 6000 < (getL l A).1 ∨ (l.length : Int) - (getL l A).2 < (getL l A).1) : scanGo l F A = ([], A) := by
  cases F with
  | zero => rfl
  | succ F => unfold scanGo; rw [if_pos h]; simp
theorem scan_good (l : List Int) (F A N X : Nat) (hA : A < l.length) (hg : getL l A = ((N : Int), (X : Int))) (hN : N ≤ 6000) (hX : X + N ≤ l.length) :
    scanGo l (F + 1) A = ((l.drop X).take N :: (scanGo l F (X + N)).1, (scanGo l F (X + N)).2) := by
  rw [scanGo, if_pos hA, hg]
  rw [if_neg (by simp only; omega)]
  simp

theorem scan_meet {G : List (List Int) × Nat} {l : List Int} {acc : List (List Int)} {F A N X : Nat} (h : G = (acc ++ (scanGo l (F + 1) A).1, (scanGo l (F + 1) A).2)) (e : scanGo l (F + 1) A = ((l.drop X).take N :: (scanGo l F (X + N)).1, (scanGo l F (X + N)).2)) :
    G = ((acc ++ [(l.drop X).take N]) ++ (scanGo l F (X + N)).1, (scanGo l F (X + N)).2) := by
  rw [h, e]; simp
theorem scan_stop {G : List (List Int) × Nat} {l : List Int} {acc : List (List Int)} {F A : Nat} (h : G = (acc ++ (scanGo l F A).1, (scanGo l F A).2)) (e : scanGo l F A = ([], A)) : G = (acc, A) := by
  rw [h, e]; simp

/-- What Scan answers. -/
def scanA (a b : List Int) : List (List Int) × Nat := if a.length + b.length ≤ 1000000 then scanL a else ([], 0)

theorem scanGo_end (l : List Int) (F A : Nat) (h : A ≤ l.length) : A ≤ (scanGo l F A).2 ∧ (scanGo l F A).2 ≤ l.length ∧ (scanGo l F A).1.length ≤ l.length - A := by
  induction F generalizing A with
  | zero => simp only [scanGo, List.length_nil]; omega
  | succ F ih =>
    unfold scanGo
    split
    · split
      · simp only [List.length_nil]; omega
      · rename_i hb
        have hbd := getL_bd l A
        have hgt := getL_gt l A
        have hx : 0 ≤ (getL l A).1 ∧ 1 ≤ (getL l A).2 ∧ (getL l A).2 ≤ l.length := by
          rcases hbd with h | h
          · rw [h] at hb; simp at hb
          · omega
        have := ih ((getL l A).2.toNat + (getL l A).1.toNat) (by omega)
        simp only [List.length_cons]
        omega
    · simp only [List.length_nil]; omega
theorem scanL_end (l : List Int) : (scanL l).2 ≤ l.length ∧ (scanL l).1.length ≤ l.length := by
  have := scanGo_end l l.length 0 (Nat.zero_le _)
  unfold scanL; omega

theorem pre_shift (m : Nat → Nat) (n : Nat) : pre m (n + 1) = m 0 + pre (fun i => m (i + 1)) n := by
  induction n with
  | zero => simp [pre]
  | succ n ih => rw [pre, ih]; simp only [pre]; omega
theorem scanGo_tot (l : List Int) (F A : Nat) (h : A ≤ l.length) : pre (fun i => ((scanGo l F A).1.getD i []).length) (scanGo l F A).1.length ≤ l.length - A := by
  induction F generalizing A with
  | zero => simp [scanGo, pre]
  | succ F ih =>
    unfold scanGo
    split
    · split
      · simp [pre]
      · rename_i hb
        have hbd := getL_bd l A
        have hgt := getL_gt l A
        have hx : 0 ≤ (getL l A).1 ∧ 1 ≤ (getL l A).2 ∧ (getL l A).2 ≤ l.length := by
          rcases hbd with h | h
          · rw [h] at hb; simp at hb
          · omega
        have := ih ((getL l A).2.toNat + (getL l A).1.toNat) (by omega)
        simp only [List.length_cons]
        rw [pre_shift]
        simp only [List.getD_cons_zero, List.getD_cons_succ, List.length_take, List.length_drop]
        omega
    · simp [pre]
theorem scanA_bd (a b : List Int) : (scanA a b).1.length ≤ a.length ∧ (scanA a b).2 ≤ a.length ∧ pre (fun i => ((scanA a b).1.getD i []).length) (scanA a b).1.length ≤ a.length := by
  have h := scanL_end a
  have h' : pre (fun i => ((scanL a).1.getD i []).length) (scanL a).1.length ≤ a.length := by
    have := scanGo_tot a a.length 0 (Nat.zero_le _); simpa [scanL] using this
  unfold scanA
  split
  · exact ⟨h.2, h.1, h'⟩
  · simp [pre]

/-- What Mend answers. -/
def mendA (a b : List Int) : List Int := if a.length + b.length ≤ 1000000 then a.take (scanL a).2 else []
theorem mendA_length (a b : List Int) : (mendA a b).length ≤ a.length := by unfold mendA; split <;> simp; omega

end Go.Proofs.YtiafkmjndcfjlaaDoor
