/- Plain facts on boxes. -/
import Derived.Test.YtnjicpdccpkbmaaAccM
namespace Go.Proofs.Ytnjicpdccpkbmaa
set_option linter.unusedVariables false

theorem mailNo {q uid next flags seq bs : Int} {T : Bool} (hq : 0 ≤ q) (h : uid < 1 ∨ next ≤ uid ∨ uid ≤ q ∨ flags < 0 ∨ 31 < flags ∨ seq < 1 ∨ bs < seq ∨ T = false) : (inB uid (q + 1) (next - 1) && (inB flags 0 31 && (inB seq 1 bs && T))) = false := by
  rw [Bool.eq_false_iff]
  intro e
  simp only [inB, Bool.and_eq_true, decide_eq_true_eq] at e
  obtain ⟨⟨e1, e2⟩, ⟨e3, e4⟩, ⟨e5, e6⟩, e7⟩ := e
  rcases h with h | h | h | h | h | h | h | h
  all_goals first | omega | (rw [h] at e7; cases e7)
theorem mailYes {q uid next flags seq bs : Int} {T : Bool} (h0 : q < uid) (h1 : uid < next) (h2 : 0 ≤ flags) (h3 : flags ≤ 31) (h4 : 1 ≤ seq) (h5 : seq ≤ bs) (h6 : 1 ≤ uid) (h7 : T = true) : (inB uid (q + 1) (next - 1) && (inB flags 0 31 && (inB seq 1 bs && T))) = true := by
  simp only [inB, Bool.and_eq_true, decide_eq_true_eq]
  exact ⟨⟨by omega, by omega⟩, ⟨h2, h3⟩, ⟨h4, h5⟩, h7⟩
theorem goneNo {uid next seq ms bs : Int} {M G : Bool} (h : uid < 1 ∨ next ≤ uid ∨ M = true ∨ bs < seq ∨ seq < ms ∨ G = true) : (inB uid 1 (next - 1) && (inB seq ms bs && (!M && !G))) = false := by
  rw [Bool.eq_false_iff]
  intro e
  simp only [inB, Bool.and_eq_true, decide_eq_true_eq, Bool.not_eq_true'] at e
  obtain ⟨⟨e1, e2⟩, ⟨e3, e4⟩, e5, e6⟩ := e
  rcases h with h | h | h | h | h | h
  all_goals first | omega | (rw [h] at e5; cases e5) | (rw [h] at e6; cases e6)
theorem goneYes {uid next seq ms bs : Int} {M G : Bool} (h0 : 1 ≤ uid) (h1 : uid < next) (h2 : ms ≤ seq) (h3 : seq ≤ bs) (h4 : M = false) (h5 : G = false) : (inB uid 1 (next - 1) && (inB seq ms bs && (!M && !G))) = true := by
  simp only [inB, Bool.and_eq_true, decide_eq_true_eq, Bool.not_eq_true']
  exact ⟨⟨h0, by omega⟩, ⟨h2, h3⟩, h4, h5⟩
theorem boxB_noM {x : BoxD} {mv : Int} (h : (List.range x.mails.length).all (mailAt x) = false) : boxB x mv = false := by simp [boxB, mailsB, h]
def earlyB (x : BoxD) (k : Nat) : Bool := match x.gones[k]? with
  | some m => decide (m.uid < 1) || (decide (x.next ≤ m.uid) || ((x.mails.any fun o => decide (o.uid = m.uid)) || (decide (m.seq < 1) || decide (x.seq < m.seq))))
  | none => false
theorem first_bad {p : Nat → Bool} {n : Nat} (h : (List.range n).all p = false) : ∃ k, k < n ∧ (∀ j, j < k → p j = true) ∧ p k = false := by
  apply Classical.byContradiction
  intro hno
  have hall : ∀ k, k < n → p k = true := fun k => Nat.strongRecOn k (fun k ih hk => by
    cases hp : p k with
    | true => rfl
    | false => exact absurd ⟨k, hk, fun j hj => ih j hj (by omega), hp⟩ hno)
  have : (List.range n).all p = true := List.all_eq_true.2 (fun k hk => hall k (List.mem_range.1 hk))
  rw [this] at h; cases h
theorem only_bad {p : Nat → Bool} {k j : Nat} (h1 : ∀ i, i < k → p i = true) (h2 : p k = false) (h3 : ∀ i, i < j → p i = true) (h4 : p j = false) : j = k := by
  rcases Nat.lt_trichotomy j k with h | h | h
  · rw [h1 j h] at h4; cases h4
  · exact h
  · rw [h3 k h] at h2; cases h2
theorem boxB_noG {x : BoxD} {mv : Int} (h : (List.range x.gones.length).all (goneAt x) = false) : boxB x mv = false := by simp [boxB, gonesB, h]

def clsB (x : BoxD) (k : Nat) : Nat := match x.gones[k]? with
  | some m => if m.uid < 1 then 1 else if x.next ≤ m.uid then 2 else if (x.mails.any fun o => decide (o.uid = m.uid)) = true then 3 else if m.seq < 1 then 4 else if x.seq < m.seq then 5 else if (0 : Int) < (k : Int) then (if m.seq < minS x k then 8 else if m.seq < x.lost then 9 else 10) else (if m.seq < x.lost then 6 else 7)
  | none => 1
theorem clsB_range (x : BoxD) (k : Nat) : 1 ≤ clsB x k ∧ clsB x k ≤ 10 := by
  unfold clsB
  repeat' split
  all_goals omega
theorem early_cls {x : BoxD} {k : Nat} (h : earlyB x k = true) : clsB x k ≤ 5 := by
  unfold earlyB at h
  unfold clsB
  split
  · rename_i m hm
    rw [hm] at h
    simp only [Bool.or_eq_true, decide_eq_true_eq] at h
    split
    · omega
    split
    · omega
    split
    · omega
    split
    · omega
    split
    · omega
    rcases h with h | h | h | h | h <;> contradiction
  · omega


end Go.Proofs.Ytnjicpdccpkbmaa
