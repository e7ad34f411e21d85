/- Plain mathematics of FnLogs and FnTorn: what the functions of a log answer, one behind the other. -/
import Derived.Test.YtiafkmjndcfjlaaDoorScanApp
import Derived.Test.YtiafkmjndcfjlaaDoorLogM
namespace Go.Proofs.YtiafkmjndcfjlaaDoor

theorem logs_no (P r : List Int) (hP : P.length ≤ 1000000) (hW : wrOk P [] r = false) : 6000 < r.length ∨ 993990 < P.length := by
  have hf := frameL_length r
  unfold wrOk fitsB at hW
  simp at hW
  have := hW hP
  omega
theorem wr_yes (P r : List Int) (hW : wrOk P [] r = true) : r.length ≤ 6000 ∧ wrA P [] = P ∧ wrB P [] r = frameL r ∧ (P ++ frameL r).length ≤ 1000000 := by
  have hW' := hW
  unfold wrOk fitsB at hW
  simp at hW
  refine ⟨hW.2.1, ?_, ?_, by simp; omega⟩
  · unfold wrA; rw [if_pos (by simp; omega)]
  · unfold wrB; rw [if_pos (by simp; omega)]
    unfold writeB
    rw [if_pos (by unfold fitsB; simp; omega)]
    simp
theorem mend_yes (a b P : List Int) (hok : a.length + b.length ≤ 1000000) (hP : mendA a b = P) : P.length ≤ 1000000 ∧ scanL P = ((scanL a).1, P.length) := by
  unfold mendA at hP
  rw [if_pos hok] at hP
  subst hP
  refine ⟨by simp; omega, scan_mended a⟩
theorem scanA_nil (P : List Int) (h : P.length ≤ 1000000) : scanA P [] = scanL P := by unfold scanA; rw [if_pos (by simpa using h)]
theorem logs_yes (a b P r : List Int) (S : List (List Int)) (e : Nat) (hok : a.length + b.length ≤ 1000000) (hP : mendA a b = P) (hS : scanA P [] = (S, e)) (hW : wrOk P [] r = true) :
    e = P.length ∧ r.length ≤ 6000 ∧ wrA P [] = P ∧ wrB P [] r = frameL r ∧ syncA P (frameL r) = P ++ frameL r ∧ scanA (P ++ frameL r) [] = (S ++ [r], (P ++ frameL r).length) ∧ (P ++ frameL r).length ≤ 1000000 := by
  obtain ⟨h1, h2, h3, h4⟩ := wr_yes P r hW
  obtain ⟨hPl, hm⟩ := mend_yes a b P hok hP
  rw [scanA_nil P hPl, hm] at hS
  simp only [Prod.mk.injEq] at hS
  obtain ⟨rfl, rfl⟩ := hS
  refine ⟨rfl, h1, h2, h3, ?_, ?_, h4⟩
  · unfold syncA; rw [if_pos (by simpa using h4)]
  · rw [scanA_nil _ h4, scan_frame P r (by rw [hm]) h1, hm]
theorem sync_nil (P : List Int) (h : P.length ≤ 1000000) : syncA P [] = P := by unfold syncA; rw [if_pos (by simpa using h)]; simp

/-- Behind a crash that kept k bytes: what is mended, scanned, mended again. -/
theorem torn_yes (a b P r Q Y : List Int) (S : List (List Int)) (e k : Nat) (hok : a.length + b.length ≤ 1000000) (hP : mendA a b = P) (hS : scanA P [] = (S, e)) (hW : wrOk P [] r = true) (hQ : crashA P (frameL r) k = Q) (hY : mendA Q [] = Y) :
    Q.length ≤ 1000000 ∧ Y.length ≤ 1000000 ∧ mendA Y [] = Y ∧ (((frameL r).length ≤ k ∧ scanA Y [] = (S ++ [r], Y.length)) ∨ (k < (frameL r).length ∧ scanA Y [] = (S, Y.length))) := by
  obtain ⟨h1, h2, h3, h4⟩ := wr_yes P r hW
  obtain ⟨hPl, hm⟩ := mend_yes a b P hok hP
  rw [scanA_nil P hPl, hm] at hS
  simp only [Prod.mk.injEq] at hS
  obtain ⟨rfl, rfl⟩ := hS
  have hl : (P ++ frameL r).length = P.length + (frameL r).length := by simp
  have hQe : Q = P ++ (frameL r).take (min k (frameL r).length) := by
    rw [← hQ]; unfold crashA keepN; rw [if_pos (by omega), if_neg (by omega)]; simp
  have hQl : Q.length ≤ 1000000 := by rw [hQe]; simp; omega
  obtain ⟨hYl, hYm⟩ := mend_yes Q [] Y (by simpa using hQl) hY
  have hYY : mendA Y [] = Y := by
    unfold mendA; rw [if_pos (by simpa using hYl), hYm]; simp
  refine ⟨hQl, hYl, hYY, ?_⟩
  rw [scanA_nil Y hYl, hYm]
  by_cases hk : (frameL r).length ≤ k
  · left
    have : Q = P ++ frameL r := by rw [hQe, Nat.min_eq_right hk, List.take_length]
    rw [this, scan_frame P r (by rw [hm]) h1, hm]
    exact ⟨hk, rfl⟩
  · right
    have : Q = P ++ (frameL r).take k := by rw [hQe, Nat.min_eq_left (by omega)]
    rw [this, scan_torn P r k (by rw [hm]) h1 (by omega), hm]
    exact ⟨by omega, rfl⟩
theorem scanA_len (P : List Int) (S : List (List Int)) (e : Nat) (h : scanA P [] = (S, e)) : S.length ≤ P.length := by
  unfold scanA at h
  split at h
  · have := (scanGo_end P P.length 0 (Nat.zero_le _)).2.2
    unfold scanL at h
    rw [h] at this
    simpa using this
  · simp only [Prod.mk.injEq] at h
    rw [← h.1]; simp
theorem getD_app (S : List (List Int)) (r : List Int) (k : Nat) (h : k < S.length) : (S ++ [r]).getD k [] = S.getD k [] := by
  simp [List.getD, List.getElem?_append_left h]

end Go.Proofs.YtiafkmjndcfjlaaDoor
