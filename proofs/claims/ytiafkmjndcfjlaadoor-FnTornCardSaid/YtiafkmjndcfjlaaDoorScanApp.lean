/- Plain mathematics of logs: a log that was mended reads as before; a record behind it is whole or not at all. -/
import Derived.Test.YtiafkmjndcfjlaaDoorScanM
import Derived.Test.YtiafkmjndcfjlaaDoorLibTrip
import Derived.Test.YtiafkmjndcfjlaaDoorWrM
namespace Go.Proofs.YtiafkmjndcfjlaaDoor

theorem dec_app (f i : Nat) (n sc : Int) (l s : List Int) (m : Int) (k : Nat) (h : dec f i n sc l = some (m, k)) : dec f i n sc (l ++ s) = some (m, k) := by
  induction f generalizing i n sc l with
  | zero => simp [dec] at h
  | succ f ih =>
    cases l with
    | nil => simp [dec] at h
    | cons x r =>
      simp only [List.cons_append, dec] at h ⊢
      split at h
      · rename_i hx; rw [if_pos hx]; exact h
      · rename_i hx; rw [if_neg hx]; exact ih _ _ _ _ h
theorem dec_cut (f i : Nat) (n sc : Int) (l s : List Int) (m : Int) (k : Nat) (h : dec f i n sc (l ++ s) = some (m, k)) (hk : k ≤ i + l.length) (hi : i < k) : dec f i n sc l = some (m, k) := by
  induction f generalizing i n sc l with
  | zero => simp [dec] at h
  | succ f ih =>
    cases l with
    | nil => simp at hk; omega
    | cons x r =>
      simp only [List.cons_append, dec] at h ⊢
      split at h
      · rename_i hx; rw [if_pos hx]; exact h
      · rename_i hx; rw [if_neg hx]
        by_cases hk1 : i + 1 < k
        · exact ih _ _ _ _ h (by simp at hk; omega) hk1
        · -- nothing is read beyond the first byte: not where a second is asked for
          exfalso
          cases f with
          | zero => simp [dec] at h
          | succ f =>
            cases hr : r ++ s with
            | nil => rw [hr] at h; simp [dec] at h
            | cons y t =>
              have := dec_pos (f + 1) (i + 1) _ _ (r ++ s) m k h
              omega
where
  dec_pos (f i : Nat) (n sc : Int) (l : List Int) (m : Int) (k : Nat) (h : dec f i n sc l = some (m, k)) : i < k := by
    induction f generalizing i n sc l with
    | zero => simp [dec] at h
    | succ f ih =>
      cases l with
      | nil => simp [dec] at h
      | cons x r =>
        simp only [dec] at h
        split at h
        · split at h
          · simp at h
          · simp only [Option.some.injEq, Prod.mk.injEq] at h; omega
        · have := ih _ _ _ _ h; omega

theorem getL_app (p s : List Int) (A : Nat) (h : 0 ≤ (getL p A).2) : getL (p ++ s) A = getL p A := by
  unfold getL at h ⊢
  rw [if_neg (by omega)] at h ⊢
  rw [if_neg (by omega)]
  simp only [Int.toNat_natCast] at h ⊢
  cases hd : dec 5 0 0 1 (p.drop A) with
  | none => rw [hd] at h; simp [outOf] at h
  | some q =>
    obtain ⟨m, k⟩ := q
    have hA : A ≤ p.length := by
      rcases Nat.lt_or_ge p.length A with hlt | hge
      · rw [List.drop_eq_nil_of_le (by omega)] at hd; simp [dec] at hd
      · exact hge
    rw [List.drop_append_of_le_length hA, dec_app _ _ _ _ _ s _ _ hd]
theorem getL_cut (p s : List Int) (A X : Nat) (N : Int) (h : getL (p ++ s) A = (N, (X : Int))) (hX : X ≤ p.length) : getL p A = (N, (X : Int)) := by
  have hgt := getL_gt (p ++ s) A
  rw [h] at hgt
  unfold getL at h ⊢
  rw [if_neg (by omega)] at h ⊢
  simp only [Int.toNat_natCast] at h ⊢
  have hA : A ≤ p.length := by simp only at hgt; omega
  cases hd : dec 5 0 0 1 ((p ++ s).drop A) with
  | none => rw [hd] at h; simp only [outOf, Prod.mk.injEq] at h; omega
  | some q =>
    obtain ⟨m, k⟩ := q
    rw [hd] at h
    simp only [outOf, Prod.mk.injEq] at h
    rw [List.drop_append_of_le_length hA] at hd
    rw [dec_cut _ _ _ _ _ s _ _ hd (by simp; omega) (by simp only at hgt; omega)]
    simp only [outOf, Prod.mk.injEq]; exact h

theorem good_form (l : List Int) (A : Nat) (h : ¬ ((getL l A).2 < 0 ∨ 6000 < (getL l A).1 ∨ (l.length : Int) - (getL l A).2 < (getL l A).1)) :
    ∃ N X : Nat, getL l A = ((N : Int), (X : Int)) ∧ N ≤ 6000 ∧ X + N ≤ l.length ∧ A < X := by
  have hbd := getL_bd l A
  have hgt := getL_gt l A
  have hx : 0 ≤ (getL l A).1 ∧ 1 ≤ (getL l A).2 ∧ (getL l A).2 ≤ l.length := by
    rcases hbd with hb | hb
    · rw [hb] at h; simp at h
    · omega
  refine ⟨(getL l A).1.toNat, (getL l A).2.toNat, ?_, by omega, by omega, by omega⟩
  rw [Int.toNat_of_nonneg hx.1, Int.toNat_of_nonneg (by omega)]

theorem scan_fuel (l : List Int) : ∀ (n A F F' : Nat), l.length - A ≤ n → l.length ≤ F + A → l.length ≤ F' + A → scanGo l F A = scanGo l F' A := by
  intro n
  induction n with
  | zero => intro A F F' h1 _ _; rw [scan_end l F A (by omega), scan_end l F' A (by omega)]
  | succ n ih =>
    intro A F F' h1 h2 h3
    by_cases hA : A < l.length
    · by_cases hb : (getL l A).2 < 0 ∨ 6000 < (getL l A).1 ∨ (l.length : Int) - (getL l A).2 < (getL l A).1
      · rw [scan_bad l F A hb, scan_bad l F' A hb]
      · obtain ⟨N, X, hg, hN, hX, hAX⟩ := good_form l A hb
        obtain ⟨F, rfl⟩ : ∃ G, F = G + 1 := ⟨F - 1, by omega⟩
        obtain ⟨F', rfl⟩ : ∃ G, F' = G + 1 := ⟨F' - 1, by omega⟩
        rw [scan_good l F A N X hA hg hN hX, scan_good l F' A N X hA hg hN hX, ih (X + N) F F' (by omega) (by omega) (by omega)]
    · rw [scan_end l F A hA, scan_end l F' A hA]

/-- The whole records from A on. -/
def scanAt (l : List Int) (A : Nat) : List (List Int) × Nat := scanGo l (l.length - A) A
theorem scanL_at (l : List Int) : scanL l = scanAt l 0 := rfl
theorem at_end (l : List Int) (A : Nat) (h : l.length ≤ A) : scanAt l A = ([], A) := scan_end l _ A (by omega)
theorem at_bad (l : List Int) (A : Nat) (h : (getL l A).2 < 0 ∨ 6000 < (getL l A).1 ∨ (l.length : Int) - (getL l A).2 < (getL l A).1) : scanAt l A = ([], A) := scan_bad l _ A h
theorem at_good (l : List Int) (A N X : Nat) (hg : getL l A = ((N : Int), (X : Int))) (hN : N ≤ 6000) (hX : X + N ≤ l.length) (hA : A < X) :
    scanAt l A = ((l.drop X).take N :: (scanAt l (X + N)).1, (scanAt l (X + N)).2) := by
  unfold scanAt
  obtain ⟨F, hF⟩ : ∃ F, l.length - A = F + 1 := ⟨l.length - A - 1, by omega⟩
  rw [hF, scan_good l F A N X (by omega) hg hN hX, scan_fuel l (l.length - (X + N)) (X + N) F (l.length - (X + N)) (Nat.le_refl _) (by omega) (by omega)]

theorem at_app (p s : List Int) : ∀ (n A : Nat), p.length - A ≤ n → A ≤ p.length → (scanAt p A).2 = p.length →
    scanAt (p ++ s) A = ((scanAt p A).1 ++ (scanAt (p ++ s) p.length).1, (scanAt (p ++ s) p.length).2) := by
  intro n
  induction n with
  | zero => intro A h1 h2 _; obtain rfl : A = p.length := by omega
            rw [at_end p p.length (Nat.le_refl _)]; simp
  | succ n ih =>
    intro A h1 h2 h3
    by_cases hA : A = p.length
    · subst hA; rw [at_end p p.length (Nat.le_refl _)]; simp
    · by_cases hb : (getL p A).2 < 0 ∨ 6000 < (getL p A).1 ∨ (p.length : Int) - (getL p A).2 < (getL p A).1
      · rw [at_bad p A hb] at h3; exact absurd h3 hA
      · obtain ⟨N, X, hg, hN, hX, hAX⟩ := good_form p A hb
        have hg' : getL (p ++ s) A = ((N : Int), (X : Int)) := by rw [getL_app p s A (by rw [hg]; simp only; omega), hg]
        rw [at_good p A N X hg hN hX hAX] at h3 ⊢
        rw [at_good (p ++ s) A N X hg' hN (by simp; omega) hAX, ih (X + N) (by omega) (by omega) h3]
        have : ((p ++ s).drop X).take N = (p.drop X).take N := by
          rw [List.drop_append_of_le_length (by omega), List.take_append_of_le_length (by simp; omega)]
        rw [this]; simp

theorem at_ge (l : List Int) : ∀ (n A : Nat), l.length - A ≤ n → A ≤ l.length → A ≤ (scanAt l A).2 ∧ (scanAt l A).2 ≤ l.length := by
  intro n A _ h
  have := scanGo_end l (l.length - A) A h
  exact ⟨this.1, this.2.1⟩

theorem at_mend (a : List Int) : ∀ (n A : Nat), a.length - A ≤ n → A ≤ a.length → scanAt (a.take (scanAt a A).2) A = scanAt a A := by
  intro n
  induction n with
  | zero => intro A h1 h2; rw [at_end a A (by omega)]; exact at_end _ _ (by simp; omega)
  | succ n ih =>
    intro A h1 h2
    by_cases hb : (getL a A).2 < 0 ∨ 6000 < (getL a A).1 ∨ (a.length : Int) - (getL a A).2 < (getL a A).1
    · rw [at_bad a A hb]; exact at_end _ _ (by simp; omega)
    · obtain ⟨N, X, hg, hN, hX, hAX⟩ := good_form a A hb
      have hs := at_good a A N X hg hN hX hAX
      have hge := at_ge a _ (X + N) (Nat.le_refl _) hX
      have hi := ih (X + N) (by omega) hX
      rw [hs]
      simp only
      generalize hK : (scanAt a (X + N)).2 = K at hge hi ⊢
      have hl : (a.take K).length = K := by simp; omega
      have hg' : getL (a.take K) A = ((N : Int), (X : Int)) := getL_cut (a.take K) (a.drop K) A X N (by rw [List.take_append_drop]; exact hg) (by omega)
      rw [at_good (a.take K) A N X hg' hN (by omega) hAX, hi, hK]
      have : ((a.take K).drop X).take N = (a.drop X).take N := by
        rw [List.drop_take, List.take_take]; congr 1; omega
      rw [this]

/-- A log that was mended is whole, and has the same records. -/
theorem scan_mended (a : List Int) : scanL (a.take (scanL a).2) = ((scanL a).1, (a.take (scanL a).2).length) := by
  have h := at_mend a _ 0 (Nat.le_refl _) (Nat.zero_le _)
  have hge := at_ge a _ 0 (Nat.le_refl _) (Nat.zero_le _)
  rw [scanL_at, scanL_at] at *
  rw [h]
  have : (a.take (scanAt a 0).2).length = (scanAt a 0).2 := by simp; omega
  rw [this]

theorem frame_enc (r : List Int) (h : r.length ≤ 6000) : frameL r = enc 4 r.length ++ r := by
  unfold frameL putL; rw [if_pos (by omega)]; simp
theorem get_frame (p r : List Int) (h : r.length ≤ 6000) : getL (p ++ frameL r) p.length = ((r.length : Int), ((p.length + (enc 4 r.length).length : Nat) : Int)) := by
  rw [frame_enc r h, ← List.append_assoc, get_put p r r.length (by omega) (by omega)]
  simp

/-- A record behind a whole log is read behind its records. -/
theorem scan_frame (p r : List Int) (hp : (scanL p).2 = p.length) (h : r.length ≤ 6000) : scanL (p ++ frameL r) = ((scanL p).1 ++ [r], (p ++ frameL r).length) := by
  have hap := at_app p (frameL r) _ 0 (Nat.le_refl _) (Nat.zero_le _) (by rw [← scanL_at]; exact hp)
  rw [← scanL_at, ← scanL_at] at hap
  have he := enc_length 4 (r.length : Int)
  have hl : (p ++ frameL r).length = p.length + (enc 4 r.length).length + r.length := by rw [frame_enc r h]; simp; omega
  have hg := at_good (p ++ frameL r) p.length r.length (p.length + (enc 4 r.length).length) (get_frame p r h) h (by omega) (by omega)
  have hd : ((p ++ frameL r).drop (p.length + (enc 4 r.length).length)).take r.length = r := by
    rw [frame_enc r h, ← List.append_assoc, List.drop_left' (by simp)]; simp
  rw [hap, hg, at_end _ _ (by omega), hd, hl]

/-- A part of a record behind a whole log is not read. -/
theorem scan_torn (p r : List Int) (k : Nat) (hp : (scanL p).2 = p.length) (h : r.length ≤ 6000) (hk : k < (frameL r).length) : scanL (p ++ (frameL r).take k) = ((scanL p).1, p.length) := by
  have hap := at_app p ((frameL r).take k) _ 0 (Nat.le_refl _) (Nat.zero_le _) (by rw [← scanL_at]; exact hp)
  rw [← scanL_at, ← scanL_at] at hap
  have hb : scanAt (p ++ (frameL r).take k) p.length = ([], p.length) := by
    by_cases hb : (getL (p ++ (frameL r).take k) p.length).2 < 0 ∨ 6000 < (getL (p ++ (frameL r).take k) p.length).1 ∨ ((p ++ (frameL r).take k).length : Int) - (getL (p ++ (frameL r).take k) p.length).2 < (getL (p ++ (frameL r).take k) p.length).1
    · exact at_bad _ _ hb
    · exfalso
      obtain ⟨N, X, hg, hN, hX, hAX⟩ := good_form _ _ hb
      have h2 := getL_app (p ++ (frameL r).take k) ((frameL r).drop k) p.length (by rw [hg]; simp only; omega)
      rw [List.append_assoc, List.take_append_drop, get_frame p r h, hg] at h2
      simp only [Prod.mk.injEq] at h2
      have hl : (frameL r).length = (enc 4 r.length).length + r.length := by rw [frame_enc r h]; simp
      simp at hX
      omega
  rw [hap, hb]; simp

end Go.Proofs.YtiafkmjndcfjlaaDoor
