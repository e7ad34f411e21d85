/- The proof's texts, part 5. -/
import Derived.Test.YtodoofdbpffolaaPart4
import Derived.Test.YtodoofdbpffolaaPart3
import Derived.Deep.RegionHeld3
import Derived.Test.YtodoofdbpffolaaPart1

/- Accounts read from bytes, on lists: as the specification reads (a place below 0 says that nothing is there), and as the program reads (none says so); both come to the same. -/
namespace Go.Proofs.Ytodoofdbpffolaa
open Go.RowKit
set_option linter.unusedVariables false

/-- The number at p, and the place behind it; nothing is read behind a place that is none. -/
def gN (l : List Int) (p : Int) : Int × Int := if p < 0 then (0, p) else getL l p
def gT (l : List Int) (p : Int) : List Int × Int := if p < 0 then ([], p) else getTL l p
def gMany {α : Type} (g : Int → α × Int) : Nat → Int → List α × Int
  | 0, p => ([], p)
  | m + 1, p => if p < 0 then ([], p) else ((g p).1 :: (gMany g m (g p).2).1, (gMany g m (g p).2).2)
def gMail (l : List Int) (p : Int) : MailD × Int := (⟨(gN l p).1, (gN l (gN l p).2).1, (gN l (gN l (gN l p).2).2).1, (gT l (gN l (gN l (gN l p).2).2).2).1⟩, (gT l (gN l (gN l (gN l p).2).2).2).2)
def gGone (l : List Int) (p : Int) : GoneD × Int := (⟨(gN l p).1, (gN l (gN l p).2).1⟩, (gN l (gN l p).2).2)
/-- The places within a box: behind its name, its five numbers; behind the mails, behind the number of those that went. -/
def bP0 (l : List Int) (p : Int) : Int := (gT l p).2
def bP1 (l : List Int) (p : Int) : Int := (gN l (bP0 l p)).2
def bP2 (l : List Int) (p : Int) : Int := (gN l (bP1 l p)).2
def bP3 (l : List Int) (p : Int) : Int := (gN l (bP2 l p)).2
def bP4 (l : List Int) (p : Int) : Int := (gN l (bP3 l p)).2
def bM (l : List Int) (p : Int) : List MailD × Int := gMany (gMail l) (min (gN l (bP4 l p)).1.toNat 13) (gN l (bP4 l p)).2
def bG (l : List Int) (p : Int) : List GoneD × Int := gMany (gGone l) (min (gN l (bM l p).2).1.toNat 41) (gN l (bM l p).2).2
def gBox (l : List Int) (p : Int) : BoxD × Int := (⟨(gT l p).1, (gN l (bP0 l p)).1, (gN l (bP1 l p)).1, (gN l (bP2 l p)).1, (bM l p).1, (bG l p).1, (gN l (bP3 l p)).1⟩, (bG l p).2)
def aB (l : List Int) (p : Int) : List BoxD × Int := gMany (gBox l) (min (gN l (gN l p).2).1.toNat 5) (gN l (gN l p).2).2
def aS (l : List Int) (p : Int) : List Int × Int := gMany (gN l) (min (gN l (aB l p).2).1.toNat 61) (gN l (aB l p).2).2
def gAcc (l : List Int) (p : Int) : AccD × Int := (⟨(gN l p).1, (aB l p).1, (aS l p).1⟩, (aS l p).2)

def iN (l : List Int) (p : Int) : Option (Int × Int) := if (getL l p).2 < 0 then none else some (getL l p)
def iT (l : List Int) (p : Int) : Option (List Int × Int) := if (getTL l p).2 < 0 then none else some (getTL l p)
def iC (l : List Int) (most : Int) (p : Int) : Option (Int × Int) := (iN l p).bind fun r => if most < r.1 then none else some r
def iMany {α : Type} (g : Int → Option (α × Int)) : Nat → Int → Option (List α × Int)
  | 0, p => some ([], p)
  | m + 1, p => (g p).bind fun x => (iMany g m x.2).bind fun r => some (x.1 :: r.1, r.2)
def iMail (l : List Int) (p : Int) : Option (MailD × Int) := (iN l p).bind fun a => (iN l a.2).bind fun b => (iN l b.2).bind fun c => (iT l c.2).bind fun d => some (⟨a.1, b.1, c.1, d.1⟩, d.2)
def iGone (l : List Int) (p : Int) : Option (GoneD × Int) := (iN l p).bind fun a => (iN l a.2).bind fun b => some (⟨a.1, b.1⟩, b.2)
def iBox (l : List Int) (p : Int) : Option (BoxD × Int) :=
  (iT l p).bind fun a => (iN l a.2).bind fun b => (iN l b.2).bind fun c => (iN l c.2).bind fun d => (iN l d.2).bind fun e => (iC l 12 e.2).bind fun f => (iMany (iMail l) f.1.toNat f.2).bind fun g => (iC l 40 g.2).bind fun h => (iMany (iGone l) h.1.toNat h.2).bind fun i => some (⟨a.1, b.1, c.1, d.1, g.1, i.1, e.1⟩, i.2)
def iAcc (l : List Int) (p : Int) : Option (AccD × Int) :=
  (iN l p).bind fun a => (iC l 4 a.2).bind fun b => (iMany (iBox l) b.1.toNat b.2).bind fun c => (iC l 60 c.2).bind fun d => (iMany (iN l) d.1.toNat d.2).bind fun e => some (⟨a.1, c.1, e.1⟩, e.2)

theorem gN_neg {l : List Int} {p : Int} (h : p < 0) : (gN l p).2 < 0 := by unfold gN; rw [if_pos h]; exact h
theorem gT_neg {l : List Int} {p : Int} (h : p < 0) : (gT l p).2 < 0 := by unfold gT; rw [if_pos h]; exact h
theorem gMany_neg {α : Type} {g : Int → α × Int} (m : Nat) {p : Int} (h : p < 0) : (gMany g m p).2 < 0 := by
  cases m with
  | zero => exact h
  | succ m => unfold gMany; rw [if_pos h]; exact h
theorem gMail_neg {l : List Int} {p : Int} (h : p < 0) : (gMail l p).2 < 0 := gT_neg (gN_neg (gN_neg (gN_neg h)))
theorem gGone_neg {l : List Int} {p : Int} (h : p < 0) : (gGone l p).2 < 0 := gN_neg (gN_neg h)
theorem bP4_neg {l : List Int} {p : Int} (h : bP0 l p < 0) : bP4 l p < 0 := gN_neg (gN_neg (gN_neg (gN_neg h)))
theorem bM_neg {l : List Int} {p : Int} (h : bP4 l p < 0) : (bM l p).2 < 0 := gMany_neg _ (gN_neg h)
theorem bG_neg {l : List Int} {p : Int} (h : (bM l p).2 < 0) : (bG l p).2 < 0 := gMany_neg _ (gN_neg h)

/-- What one reads the other reads, or else the place is none, or what was read is bad. -/
def Agr {α : Type} (bad : α → Prop) (s : α × Int) : Option (α × Int) → Prop
  | some y => s = y ∧ 0 ≤ s.2
  | none => s.2 < 0 ∨ bad s.1
theorem agr_n (l : List Int) {p : Int} (h : 0 ≤ p) : Agr (fun _ => False) (gN l p) (iN l p) := by
  unfold gN iN
  rw [if_neg (by omega)]
  split
  · exact .inl (by assumption)
  · exact ⟨rfl, by omega⟩
theorem agr_t (l : List Int) {p : Int} (h : 0 ≤ p) : Agr (fun _ => False) (gT l p) (iT l p) := by
  unfold gT iT
  rw [if_neg (by omega)]
  split
  · exact .inl (by assumption)
  · exact ⟨rfl, by omega⟩
theorem many_len {α : Type} (g : Int → α × Int) : ∀ (m : Nat) (p : Int), (gMany g m p).2 < 0 ∨ (gMany g m p).1.length = m
  | 0, p => by simp [gMany]
  | m + 1, p => by
    unfold gMany
    split
    · exact .inl (by assumption)
    · rcases many_len g m (g p).2 with h | h
      · exact .inl h
      · exact .inr (by simp [h])
theorem agr_many {α : Type} {g : Int → α × Int} {i : Int → Option (α × Int)} {bad : α → Prop} (hg : ∀ p, 0 ≤ p → Agr bad (g p) (i p)) : ∀ (m : Nat) (p : Int), 0 ≤ p → Agr (fun l : List α => ∃ x, x ∈ l ∧ bad x) (gMany g m p) (iMany i m p)
  | 0, p, h => ⟨rfl, h⟩
  | m + 1, p, h => by
    have h1 := hg p h
    unfold gMany iMany
    rw [if_neg (by omega)]
    cases hi : i p with
    | none =>
      rw [hi] at h1
      rcases h1 with h1 | h1
      · exact .inl (gMany_neg _ h1)
      · exact .inr ⟨_, List.mem_cons_self, h1⟩
    | some x =>
      rw [hi] at h1
      obtain ⟨e, h2⟩ := h1
      have h3 := agr_many hg m (g p).2 h2
      rw [← e]
      cases hm : iMany i m (g p).2 with
      | none =>
        rw [hm] at h3
        simp only [Option.bind_some, hm, Option.bind_none]
        rcases h3 with h3 | ⟨y, h3, h4⟩
        · exact .inl h3
        · exact .inr ⟨y, List.mem_cons_of_mem _ h3, h4⟩
      | some y =>
        rw [hm] at h3
        obtain ⟨e2, h4⟩ := h3
        simp only [Option.bind_some, hm]
        exact ⟨by rw [e2], h4⟩
theorem agr_mail (l : List Int) (p : Int) (h : 0 ≤ p) : Agr (fun _ => False) (gMail l p) (iMail l p) := by
  unfold iMail
  have h0 := agr_n l h
  cases e0 : iN l p with
  | none => rw [e0] at h0; rcases h0 with h0 | h0; exact .inl (gT_neg (gN_neg (gN_neg h0))); exact h0.elim
  | some a =>
    rw [e0] at h0; obtain ⟨f0, k0⟩ := h0; rw [f0] at k0
    have h1 := agr_n l k0
    simp only [Option.bind_some]
    cases e1 : iN l a.2 with
    | none => rw [e1] at h1; rcases h1 with h1 | h1; exact .inl (gT_neg (gN_neg (by rw [f0]; exact h1))); exact h1.elim
    | some b =>
      rw [e1] at h1; obtain ⟨f1, k1⟩ := h1; rw [f1] at k1
      have h2 := agr_n l k1
      simp only [Option.bind_some]
      cases e2 : iN l b.2 with
      | none => rw [e2] at h2; rcases h2 with h2 | h2; exact .inl (gT_neg (by rw [f0, f1]; exact h2)); exact h2.elim
      | some c =>
        rw [e2] at h2; obtain ⟨f2, k2⟩ := h2; rw [f2] at k2
        have h3 := agr_t l k2
        simp only [Option.bind_some]
        cases e3 : iT l c.2 with
        | none => rw [e3] at h3; rcases h3 with h3 | h3; exact .inl (by unfold gMail; rw [f0, f1, f2]; exact h3); exact h3.elim
        | some d =>
          rw [e3] at h3; obtain ⟨f3, k3⟩ := h3
          simp only [Option.bind_some]
          refine ⟨?_, ?_⟩
          · unfold gMail; rw [f0, f1, f2, f3]
          · unfold gMail; rw [f0, f1, f2]; exact k3
theorem agr_gone (l : List Int) (p : Int) (h : 0 ≤ p) : Agr (fun _ => False) (gGone l p) (iGone l p) := by
  unfold iGone
  have h0 := agr_n l h
  cases e0 : iN l p with
  | none => rw [e0] at h0; rcases h0 with h0 | h0; exact .inl (gN_neg h0); exact h0.elim
  | some a =>
    rw [e0] at h0; obtain ⟨f0, k0⟩ := h0; rw [f0] at k0
    have h1 := agr_n l k0
    simp only [Option.bind_some]
    cases e1 : iN l a.2 with
    | none => rw [e1] at h1; rcases h1 with h1 | h1; exact .inl (by unfold gGone; rw [f0]; exact h1); exact h1.elim
    | some b =>
      rw [e1] at h1; obtain ⟨f1, k1⟩ := h1
      simp only [Option.bind_some]
      exact ⟨by unfold gGone; rw [f0, f1], by unfold gGone; rw [f0]; exact k1⟩
/-- A list with its number ahead. -/
theorem agr_list {α : Type} {g : Int → α × Int} {i : Int → Option (α × Int)} {bad : α → Prop} (hg : ∀ p, 0 ≤ p → Agr bad (g p) (i p)) (l : List Int) (most : Nat) (p : Int) (h : 0 ≤ p) :
    Agr (fun x : List α => most < x.length ∨ ∃ y, y ∈ x ∧ bad y) (gMany g (min (gN l p).1.toNat (most + 1)) (gN l p).2) ((iC l most p).bind fun f => iMany i f.1.toNat f.2) := by
  have h0 := agr_n l h
  unfold iC
  cases e0 : iN l p with
  | none => rw [e0] at h0; rcases h0 with h0 | h0; exact .inl (gMany_neg _ h0); exact h0.elim
  | some a =>
    rw [e0] at h0; obtain ⟨f0, k0⟩ := h0
    simp only [Option.bind_some]
    rw [f0] at k0 ⊢
    by_cases hm : (most : Int) < a.1
    · rw [if_pos hm, show min a.1.toNat (most + 1) = most + 1 by omega]
      simp only [Option.bind_none]
      rcases many_len g (most + 1) a.2 with h | h
      · exact .inl h
      · exact .inr (.inl (by omega))
    · rw [if_neg hm, show min a.1.toNat (most + 1) = a.1.toNat by omega]
      simp only [Option.bind_some]
      have h1 := agr_many hg a.1.toNat a.2 k0
      revert h1
      cases iMany i a.1.toNat a.2 with
      | none => intro h1; rcases h1 with h1 | h1; exact .inl h1; exact .inr (.inr h1)
      | some y => exact fun h1 => h1
def badX (x : BoxD) : Prop := 12 < x.mails.length ∨ 40 < x.gones.length
theorem iBox_eq (l : List Int) (p : Int) : iBox l p = (iT l p).bind fun a => (iN l a.2).bind fun b => (iN l b.2).bind fun c => (iN l c.2).bind fun d => (iN l d.2).bind fun e => ((iC l 12 e.2).bind fun f => iMany (iMail l) f.1.toNat f.2).bind fun g => ((iC l 40 g.2).bind fun h => iMany (iGone l) h.1.toNat h.2).bind fun i => some (⟨a.1, b.1, c.1, d.1, g.1, i.1, e.1⟩, i.2) := by
  unfold iBox
  simp only [Option.bind_assoc]
theorem agr_box (l : List Int) (p : Int) (h : 0 ≤ p) : Agr badX (gBox l p) (iBox l p) := by
  rw [iBox_eq]
  have h0 := agr_t l h
  cases e0 : iT l p with
  | none => rw [e0] at h0; rcases h0 with h0 | h0; exact .inl (bG_neg (bM_neg (bP4_neg h0))); exact h0.elim
  | some a =>
    rw [e0] at h0; obtain ⟨f0, k0⟩ := h0; rw [f0] at k0
    have q0 : bP0 l p = a.2 := by unfold bP0; rw [f0]
    have h1 := agr_n l k0
    simp only [Option.bind_some]
    cases e1 : iN l a.2 with
    | none => rw [e1] at h1; rcases h1 with h1 | h1; exact .inl (bG_neg (bM_neg (gN_neg (gN_neg (gN_neg (show (gN l (bP0 l p)).2 < 0 by rw [q0]; exact h1)))))); exact h1.elim
    | some b =>
      rw [e1] at h1; obtain ⟨f1, k1⟩ := h1; rw [f1] at k1
      have q1 : bP1 l p = b.2 := by unfold bP1; rw [q0, f1]
      have h2 := agr_n l k1
      simp only [Option.bind_some]
      cases e2 : iN l b.2 with
      | none => rw [e2] at h2; rcases h2 with h2 | h2; exact .inl (bG_neg (bM_neg (gN_neg (gN_neg (show (gN l (bP1 l p)).2 < 0 by rw [q1]; exact h2))))); exact h2.elim
      | some c =>
        rw [e2] at h2; obtain ⟨f2, k2⟩ := h2; rw [f2] at k2
        have q2 : bP2 l p = c.2 := by unfold bP2; rw [q1, f2]
        have h3 := agr_n l k2
        simp only [Option.bind_some]
        cases e3 : iN l c.2 with
        | none => rw [e3] at h3; rcases h3 with h3 | h3; exact .inl (bG_neg (bM_neg (gN_neg (show (gN l (bP2 l p)).2 < 0 by rw [q2]; exact h3)))); exact h3.elim
        | some d =>
          rw [e3] at h3; obtain ⟨f3, k3⟩ := h3; rw [f3] at k3
          have q3 : bP3 l p = d.2 := by unfold bP3; rw [q2, f3]
          have h4 := agr_n l k3
          simp only [Option.bind_some]
          cases e4 : iN l d.2 with
          | none => rw [e4] at h4; rcases h4 with h4 | h4; exact .inl (bG_neg (bM_neg (show (gN l (bP3 l p)).2 < 0 by rw [q3]; exact h4))); exact h4.elim
          | some e =>
            rw [e4] at h4; obtain ⟨f4, k4⟩ := h4; rw [f4] at k4
            have q4 : bP4 l p = e.2 := by unfold bP4; rw [q3, f4]
            have h5 := agr_list (agr_mail l) l 12 e.2 k4
            simp only [Option.bind_some]
            have m0 : bM l p = gMany (gMail l) (min (gN l e.2).1.toNat 13) (gN l e.2).2 := by unfold bM; rw [q4]
            rw [← m0] at h5
            cases e5 : (iC l 12 e.2).bind fun f => iMany (iMail l) f.1.toNat f.2 with
            | none =>
              rw [show ((12 : Nat) : Int) = 12 from rfl, e5] at h5
              rcases h5 with h5 | h5 | ⟨y, _, h5⟩
              · exact .inl (bG_neg h5)
              · exact .inr (.inl h5)
              · exact h5.elim
            | some g =>
              rw [show ((12 : Nat) : Int) = 12 from rfl, e5] at h5; obtain ⟨f5, k5⟩ := h5; rw [f5] at k5
              have h6 := agr_list (agr_gone l) l 40 g.2 k5
              simp only [Option.bind_some]
              have m1 : bG l p = gMany (gGone l) (min (gN l g.2).1.toNat 41) (gN l g.2).2 := by unfold bG; rw [f5]
              rw [← m1] at h6
              cases e6 : (iC l 40 g.2).bind fun h => iMany (iGone l) h.1.toNat h.2 with
              | none =>
                rw [show ((40 : Nat) : Int) = 40 from rfl, e6] at h6
                rcases h6 with h6 | h6 | ⟨y, _, h6⟩
                · exact .inl h6
                · exact .inr (.inr h6)
                · exact h6.elim
              | some i =>
                rw [show ((40 : Nat) : Int) = 40 from rfl, e6] at h6; obtain ⟨f6, k6⟩ := h6
                simp only [Option.bind_some]
                refine ⟨?_, k6⟩
                unfold gBox
                rw [f0, q0, f1, q1, f2, q2, f3, q3, f4, f5, f6]
def badA (a : AccD) : Prop := 4 < a.boxes.length ∨ (∃ x, x ∈ a.boxes ∧ badX x) ∨ 60 < a.seen.length
theorem iAcc_eq (l : List Int) (p : Int) : iAcc l p = (iN l p).bind fun a => ((iC l 4 a.2).bind fun b => iMany (iBox l) b.1.toNat b.2).bind fun c => ((iC l 60 c.2).bind fun d => iMany (iN l) d.1.toNat d.2).bind fun e => some (⟨a.1, c.1, e.1⟩, e.2) := by
  unfold iAcc
  simp only [Option.bind_assoc]
theorem agr_acc (l : List Int) (p : Int) (h : 0 ≤ p) : Agr badA (gAcc l p) (iAcc l p) := by
  rw [iAcc_eq]
  have h0 := agr_n l h
  cases e0 : iN l p with
  | none => rw [e0] at h0; rcases h0 with h0 | h0; exact .inl (gMany_neg _ (gN_neg (gMany_neg _ (gN_neg h0)))); exact h0.elim
  | some a =>
    rw [e0] at h0; obtain ⟨f0, k0⟩ := h0; rw [f0] at k0
    have h5 := agr_list (agr_box l) l 4 a.2 k0
    simp only [Option.bind_some]
    have m0 : aB l p = gMany (gBox l) (min (gN l a.2).1.toNat 5) (gN l a.2).2 := by unfold aB; rw [f0]
    rw [← m0] at h5
    cases e5 : (iC l 4 a.2).bind fun f => iMany (iBox l) f.1.toNat f.2 with
    | none =>
      rw [show ((4 : Nat) : Int) = 4 from rfl, e5] at h5
      rcases h5 with h5 | h5 | h5
      · exact .inl (gMany_neg _ (gN_neg h5))
      · exact .inr (.inl h5)
      · exact .inr (.inr (.inl h5))
    | some g =>
      rw [show ((4 : Nat) : Int) = 4 from rfl, e5] at h5; obtain ⟨f5, k5⟩ := h5; rw [f5] at k5
      have h6 := agr_list (fun p => agr_n l (p := p)) l 60 g.2 k5
      simp only [Option.bind_some]
      have m1 : aS l p = gMany (gN l) (min (gN l g.2).1.toNat 61) (gN l g.2).2 := by unfold aS; rw [f5]
      rw [← m1] at h6
      cases e6 : (iC l 60 g.2).bind fun h => iMany (iN l) h.1.toNat h.2 with
      | none =>
        rw [show ((60 : Nat) : Int) = 60 from rfl, e6] at h6
        rcases h6 with h6 | h6 | ⟨y, _, h6⟩
        · exact .inl h6
        · exact .inr (.inr (.inr h6))
        · exact h6.elim
      | some i =>
        rw [show ((60 : Nat) : Int) = 60 from rfl, e6] at h6; obtain ⟨f6, k6⟩ := h6
        simp only [Option.bind_some]
        exact ⟨by unfold gAcc; rw [f0, f5, f6], k6⟩

/-- What was read from p up to q stands there as the bytes y. -/
def Wrt (l : List Int) (p q : Int) (y : List Int) : Prop := p ≤ q ∧ q ≤ l.length ∧ l.take q.toNat = l.take p.toNat ++ y
theorem Wrt.trans {l : List Int} {p q r : Int} {y z : List Int} (h : Wrt l p q y) (k : Wrt l q r z) : Wrt l p r (y ++ z) := ⟨by have := h.1; have := k.1; omega, k.2.1, by rw [k.2.2, h.2.2, List.append_assoc]⟩
theorem wrt_n {l : List Int} {p : Int} {r : Int × Int} (ho : Oct l) (h : iN l p = some r) : Wrt l p r.2 (numB r.1) ∧ 0 ≤ r.1 ∧ 0 ≤ r.2 := by
  unfold iN at h
  split at h
  · cases h
  · simp only [Option.some.injEq] at h
    subst h
    have := put_get l p (getL l p).1 (getL l p).2 ho rfl (by omega)
    have hb := getL_bd l p
    refine ⟨⟨this.2.1, this.2.2.1, ?_⟩, ?_, by omega⟩
    · rw [← this.2.2.2, putL_eq]
    · rcases hb with hb | hb
      · rw [hb]; simp
      · exact hb.1
theorem wrt_t {l : List Int} {p : Int} {r : List Int × Int} (ho : Oct l) (h : iT l p = some r) : Wrt l p r.2 (txB r.1) ∧ 0 ≤ r.2 := by
  unfold iT at h
  split at h
  · cases h
  · rename_i hn
    simp only [Option.some.injEq] at h
    subst h
    unfold getTL at hn ⊢
    split
    · rename_i hc
      rw [if_pos hc] at hn
      simp at hn
    · rename_i hc
      have hb := getL_bd l p
      have hr : iN l p = some (getL l p) := by unfold iN; rw [if_neg (by omega)]
      have hw := (wrt_n ho hr).1
      have h0 := (wrt_n ho hr).2.1
      have ht : ((l.drop (getL l p).2.toNat).take (getL l p).1.toNat).length = (getL l p).1.toNat := by simp; omega
      refine ⟨⟨by have := hw.1; simp only; omega, by simp only; omega, ?_⟩, by simp only; omega⟩
      simp only
      have e : txB ((l.drop (getL l p).2.toNat).take (getL l p).1.toNat) = numB (getL l p).1 ++ (l.drop (getL l p).2.toNat).take (getL l p).1.toNat := by
        unfold txB putTL
        rw [if_neg (by omega), ht]
        rw [show (((getL l p).1.toNat : Nat) : Int) = (getL l p).1 by omega]
        rfl
      rw [e, ← List.append_assoc, ← hw.2.2, show ((getL l p).2 + (getL l p).1).toNat = (getL l p).2.toNat + (getL l p).1.toNat by omega, List.take_add]
theorem wrt_many {α : Type} {i : Int → Option (α × Int)} {f : α → List Int} {l : List Int} (hi : ∀ p x, 0 ≤ p → i p = some x → Wrt l p x.2 (f x.1) ∧ 0 ≤ x.2) : ∀ (m : Nat) (p : Int) (y : List α × Int), 0 ≤ p → p ≤ l.length → iMany i m p = some y → Wrt l p y.2 (y.1.flatMap f) ∧ 0 ≤ y.2 ∧ y.1.length = m
  | 0, p, y, h0, h1, h => by
    simp only [iMany, Option.some.injEq] at h
    subst h
    exact ⟨⟨Int.le_refl _, h1, by simp⟩, h0, rfl⟩
  | m + 1, p, y, h0, h1, h => by
    unfold iMany at h
    cases e : i p with
    | none => rw [e] at h; cases h
    | some x =>
      rw [e] at h
      simp only [Option.bind_some] at h
      have hw := hi p x h0 e
      cases e2 : iMany i m x.2 with
      | none => rw [e2] at h; cases h
      | some z =>
        rw [e2] at h
        simp only [Option.bind_some, Option.some.injEq] at h
        subst h
        have h2 := wrt_many hi m x.2 z hw.2 hw.1.2.1 e2
        refine ⟨?_, h2.2.1, by simp [h2.2.2]⟩
        simp only [List.flatMap_cons]
        exact hw.1.trans h2.1
theorem bind_parts {α β : Type} {x : Option α} {f : α → Option β} {y : β} (h : x.bind f = some y) : ∃ a, x = some a ∧ f a = some y := by
  cases x with
  | none => cases h
  | some a => exact ⟨a, rfl, h⟩
theorem wrt_mail {l : List Int} (ho : Oct l) (p : Int) (x : MailD × Int) (h0 : 0 ≤ p) (h : iMail l p = some x) : Wrt l p x.2 (mailBs x.1) ∧ 0 ≤ x.2 := by
  unfold iMail at h
  obtain ⟨a, ha, h⟩ := bind_parts h
  obtain ⟨b, hb, h⟩ := bind_parts h
  obtain ⟨c, hc, h⟩ := bind_parts h
  obtain ⟨d, hd, h⟩ := bind_parts h
  simp only [Option.some.injEq] at h
  subst h
  exact ⟨(wrt_n ho ha).1.trans ((wrt_n ho hb).1.trans ((wrt_n ho hc).1.trans (wrt_t ho hd).1)), (wrt_t ho hd).2⟩
theorem wrt_gone {l : List Int} (ho : Oct l) (p : Int) (x : GoneD × Int) (h0 : 0 ≤ p) (h : iGone l p = some x) : Wrt l p x.2 (goneBs x.1) ∧ 0 ≤ x.2 := by
  unfold iGone at h
  obtain ⟨a, ha, h⟩ := bind_parts h
  obtain ⟨b, hb, h⟩ := bind_parts h
  simp only [Option.some.injEq] at h
  subst h
  exact ⟨(wrt_n ho ha).1.trans (wrt_n ho hb).1, (wrt_n ho hb).2.2⟩
theorem wrt_c {l : List Int} {p most : Int} {r : Int × Int} (ho : Oct l) (h : iC l most p = some r) : Wrt l p r.2 (numB r.1) ∧ 0 ≤ r.1 ∧ 0 ≤ r.2 ∧ r.1 ≤ most := by
  unfold iC at h
  obtain ⟨a, ha, h⟩ := bind_parts h
  split at h
  · cases h
  · simp only [Option.some.injEq] at h
    subst h
    have := wrt_n ho ha
    exact ⟨this.1, this.2.1, this.2.2, by omega⟩
theorem wrt_box {l : List Int} (ho : Oct l) (p : Int) (x : BoxD × Int) (h0 : 0 ≤ p) (h : iBox l p = some x) : Wrt l p x.2 (boxBs x.1) ∧ 0 ≤ x.2 := by
  unfold iBox at h
  obtain ⟨a, ha, h⟩ := bind_parts h
  obtain ⟨b, hb, h⟩ := bind_parts h
  obtain ⟨c, hc, h⟩ := bind_parts h
  obtain ⟨d, hd, h⟩ := bind_parts h
  obtain ⟨e, he, h⟩ := bind_parts h
  obtain ⟨f, hf, h⟩ := bind_parts h
  obtain ⟨g, hg, h⟩ := bind_parts h
  obtain ⟨k, hk, h⟩ := bind_parts h
  obtain ⟨i, hi, h⟩ := bind_parts h
  simp only [Option.some.injEq] at h
  subst h
  have wf := wrt_c ho hf
  have wk := wrt_c ho hk
  have wg := wrt_many (wrt_mail ho) _ _ _ wf.2.2.1 wf.1.2.1 hg
  have wi := wrt_many (wrt_gone ho) _ _ _ wk.2.2.1 wk.1.2.1 hi
  have eg : ((g.1.length : Nat) : Int) = f.1 := by rw [wg.2.2]; omega
  have ei : ((i.1.length : Nat) : Int) = k.1 := by rw [wi.2.2]; omega
  refine ⟨?_, wi.2.1⟩
  unfold boxBs
  simp only [eg, ei]
  exact (wrt_t ho ha).1.trans ((wrt_n ho hb).1.trans ((wrt_n ho hc).1.trans ((wrt_n ho hd).1.trans ((wrt_n ho he).1.trans (wf.1.trans (wg.1.trans (wk.1.trans wi.1)))))))
theorem wrt_acc {l : List Int} (ho : Oct l) (p : Int) (x : AccD × Int) (h0 : 0 ≤ p) (h : iAcc l p = some x) : Wrt l p x.2 (accBs x.1) ∧ 0 ≤ x.2 := by
  unfold iAcc at h
  obtain ⟨a, ha, h⟩ := bind_parts h
  obtain ⟨f, hf, h⟩ := bind_parts h
  obtain ⟨g, hg, h⟩ := bind_parts h
  obtain ⟨k, hk, h⟩ := bind_parts h
  obtain ⟨i, hi, h⟩ := bind_parts h
  simp only [Option.some.injEq] at h
  subst h
  have wf := wrt_c ho hf
  have wk := wrt_c ho hk
  have wg := wrt_many (wrt_box ho) _ _ _ wf.2.2.1 wf.1.2.1 hg
  have wi := wrt_many (f := numB) (fun p x _ h => ⟨(wrt_n ho h).1, (wrt_n ho h).2.2⟩) _ _ _ wk.2.2.1 wk.1.2.1 hi
  have eg : ((g.1.length : Nat) : Int) = f.1 := by rw [wg.2.2]; omega
  have ei : ((i.1.length : Nat) : Int) = k.1 := by rw [wi.2.2]; omega
  refine ⟨?_, wi.2.1⟩
  unfold accBs
  simp only [eg, ei]
  exact (wrt_n ho ha).1.trans (wf.1.trans (wg.1.trans (wk.1.trans wi.1)))
theorem bad_acc {a : AccD} (h : badA a) : accB a = false := by
  cases e : accB a with
  | false => rfl
  | true =>
    exfalso
    have h1 := accB_small e
    have h2 := accB_seen e
    rcases h with h | ⟨x, hx, h⟩ | h
    · omega
    · have := h1.2 x hx
      rcases h with h | h <;> omega
    · omega
theorem szM_le : ∀ (l : List MailD), (∀ m, m ∈ l → m.text.length ≤ 30) → szM l ≤ 31 * l.length
  | [], _ => by simp [szM]
  | x :: l, h => by
    have h1 := h x (by simp)
    have h2 := szM_le l (fun m hm => h m (by simp [hm]))
    simp only [szM, List.map_cons, List.sum_cons, List.length_cons] at h2 ⊢
    omega
theorem szXs_le (C : Nat) : ∀ (l : List BoxD), (∀ b, b ∈ l → szX b ≤ C) → szXs l ≤ (C + 1) * l.length
  | [], _ => by simp [szXs]
  | x :: l, h => by
    have h1 := h x (by simp)
    have h2 := szXs_le C l (fun m hm => h m (by simp [hm]))
    simp only [szXs, List.map_cons, List.sum_cons, List.length_cons, Nat.mul_add, Nat.mul_one] at h2 ⊢
    omega
theorem acc_sz {a : AccD} (h : accB a = true) : szXs a.boxes ≤ 2000000 := by
  have hs := accB_small h
  have h1 : ∀ b, b ∈ a.boxes → szX b ≤ 500 := by
    intro b hb
    have hl := hs.2 b hb
    simp only [accB, Bool.and_eq_true, decide_eq_true_eq, List.all_eq_true, List.mem_range] at h
    obtain ⟨i, hi, rfl⟩ := List.mem_iff_getElem.1 hb
    have := h.2.2.2 i hi
    simp only [boxAt, List.getElem?_eq_getElem hi, boxB, mailsB, nameB, Bool.and_eq_true, decide_eq_true_eq, List.all_eq_true, List.mem_range] at this
    have hn := this.1.1.2.1
    have hm := this.1.2.2.2.2.2.1.2
    have hk : szM a.boxes[i].mails ≤ 31 * a.boxes[i].mails.length := by
      refine szM_le _ fun m hm' => ?_
      obtain ⟨j, hj, rfl⟩ := List.mem_iff_getElem.1 hm'
      have h3 := hm j hj
      simp only [mailAt, List.getElem?_eq_getElem hj, textB, Bool.and_eq_true, decide_eq_true_eq] at h3
      exact h3.2.2.2.1
    unfold szX
    omega
  have h2 := szXs_le 500 a.boxes h1
  have h3 := hs.1
  omega
def nilA : AccD := ⟨0, [], []⟩
/-- What the specification answers, what the program answers. -/
def okS (l : List Int) : Bool := decide ((gAcc l 0).2 = l.length) && (accB (gAcc l 0).1 && decide (accBs (gAcc l 0).1 = l))
def okI (l : List Int) : Bool := match iAcc l 0 with
  | some y => decide (y.2 = l.length) && accB y.1
  | none => false
def outS (l : List Int) : AccD := match okS l with
  | true => (gAcc l 0).1
  | false => nilA
theorem ok_same {l : List Int} (ho : Oct l) : okS l = okI l := by
  have h := agr_acc l 0 (Int.le_refl _)
  unfold okS okI
  cases e : iAcc l 0 with
  | none =>
    rw [e] at h
    rcases h with h | h
    · rw [decide_eq_false (by omega)]; rfl
    · simp [bad_acc h]
  | some y =>
    rw [e] at h
    obtain ⟨f, k⟩ := h
    rw [f]
    by_cases hq : y.2 = l.length
    · have hw := (wrt_acc ho 0 y (Int.le_refl _) e).1.2.2
      rw [hq] at hw
      simp at hw
      simp [hq, ← hw]
    · simp [hq]
theorem out_same {l : List Int} {y : AccD × Int} (ho : Oct l) (e : iAcc l 0 = some y) (hk : okI l = true) : outS l = y.1 := by
  have h := agr_acc l 0 (Int.le_refl _)
  rw [e] at h
  unfold outS
  rw [ok_same ho, hk]
  simp only [h.1]

end Go.Proofs.Ytodoofdbpffolaa

/- A cursor that is written while all else stays: what lies elsewhere, and what is new. -/
namespace Go.Proofs.Ytodoofdbpffolaa
open Go.RowKit

section
variable {w w' w'' : World} {g b : Nat}
theorem gr_at {o : Obj} (h : w.grownBy w' (some g)) (hb : w.heap[b]? = some o) (hne : b ≠ g) : w'.heap[b]? = some o := (h.block b (lt_of_heap hb) fun e => hne (by simpa using e)).trans hb
theorem gr_set {j : Nat} {u : Value} (h : w.grownBy w' (some g)) (hb : w.heap.size ≤ b) : w.grownBy (w'.setCell ⟨b, j, none⟩ u) (some g) :=
  ⟨h.os, h.tape, h.output, by rw [box_size]; exact h.size, fun k hk hne => (Below.heap_setCell w' ⟨b, j, none⟩ u k (show k ≠ b by omega)).trans (h.block k hk hne)⟩
theorem gr_below (h : w.grownBy w' (some g)) (hb : Below w'.heap.size w' w'') : w.grownBy w'' (some g) :=
  ⟨hb.os.trans h.os, hb.tape.trans h.tape, hb.output.trans h.output, Nat.le_trans h.size hb.size, fun k hk hne => (hb.block k (Nat.lt_of_lt_of_le hk h.size)).trans (h.block k hk hne)⟩
theorem gr_alloc {o : Obj} (h : w.grownBy w' (some g)) : w.grownBy (w'.alloc o) (some g) := gr_below h ((Below.refl _ _).alloc (Nat.le_refl _) o)
theorem gr_push {row : Option Nat} (h : w.grownBy w' (some g)) (k : w'.grownBy w'' row) (hr : ∀ j, row = some j → w.heap.size ≤ j) : w.grownBy w'' (some g) :=
  ⟨k.os.trans h.os, k.tape.trans h.tape, k.output.trans h.output, Nat.le_trans h.size k.size, fun i hi hne => (k.block i (Nat.lt_of_lt_of_le hi h.size) fun e => by have := hr i e.symm; omega).trans (h.block i hi hne)⟩
theorem Row.gr {B T : Nat} {v : Value} {l : List Int} (h : Row w B T v l) (hw : w.grownBy w' (some g)) (hd : g < B ∨ T ≤ g) : Row w' B T v l := h.drawn hw hd
variable {α : Type} {t : TypeId} {sz B T : Nat} {E : World → List Value → α → (Nat → Prop) → Prop} {v : Value} {l : List α}
theorem OwR.gr [Fr E] (h : OwR t sz E w B T v l) (hw : w.grownBy w' (some g)) (hd : g < B ∨ T ≤ g) : OwR t sz E w' B T v l :=
  Ow.frame Fr.out h fun b hb hlt => hw.block b hlt fun e => by have := hb.1; have := hb.2; simp only [Option.some.injEq] at e; omega
theorem OwR.gr' [Fr E] {row : Option Nat} (h : OwR t sz E w B T v l) (hw : w.grownBy w' row) (hd : ∀ j, row = some j → T ≤ j) : OwR t sz E w' B T v l :=
  Ow.frame Fr.out h fun b hb hlt => hw.block b hlt fun e => by have := hd b e.symm; have := hb.2; omega
end
theorem Row.gr' {w w' : World} {B T : Nat} {v : Value} {l : List Int} {row : Option Nat} (h : Row w B T v l) (hw : w.grownBy w' row) (hd : ∀ j, row = some j → T ≤ j) : Row w' B T v l := by
  refine ⟨h.1, ⟨h.2.1.1, ?_⟩, h.2.2⟩
  rcases h.2.1.2 with hn | ⟨g, cap, cur, hv, hg, hh, r⟩
  · exact .inl hn
  · have hlt : g < T := h.2.2 g (by rw [hv]; rfl)
    exact .inr ⟨g, cap, cur, hv, hg, (hw.block g (lt_of_heap hh) fun e => by have := hd g e.symm; omega).trans hh, r⟩
theorem gN_bd (l : List Int) (p : Int) (hl : l.length ≤ 2000000) (h0 : -1 ≤ p) (h1 : p ≤ 9000000) : (0 ≤ (gN l p).1 ∧ (gN l p).1 ≤ 2147483647) ∧ -1 ≤ (gN l p).2 ∧ (gN l p).2 ≤ 9000000 := by
  unfold gN
  split
  · exact ⟨⟨by simp, by simp⟩, h0, h1⟩
  · rcases getL_bd l p with h | h
    · rw [h]; simp
    · refine ⟨⟨h.1, h.2.1⟩, by omega, by omega⟩
theorem gT_bd (l : List Int) (p : Int) (hl : l.length ≤ 2000000) (h0 : -1 ≤ p) (h1 : p ≤ 9000000) : (gT l p).1.length ≤ 30 ∧ -1 ≤ (gT l p).2 ∧ (gT l p).2 ≤ 9000000 := by
  unfold gT
  split
  · exact ⟨by simp, h0, h1⟩
  · refine ⟨getTL_length l p, ?_⟩
    have hb := getL_bd l p
    unfold getTL
    split
    · simp
    · simp only
      rcases hb with h | h
      · rw [h] at *; simp at *
      · omega
theorem gn_i64 {l : List Int} {p : Int} (h : 0 ≤ (gN l p).1 ∧ (gN l p).1 ≤ 2147483647) : I64 (gN l p).1 := ⟨by omega, by omega⟩
theorem i64_of {n : Int} (h : 0 ≤ n ∧ n ≤ 2147483647) : I64 n := ⟨by omega, by omega⟩
theorem gMany_bd {α : Type} {g : Int → α × Int} (hg : ∀ p, -1 ≤ p → p ≤ 9000000 → -1 ≤ (g p).2 ∧ (g p).2 ≤ 9000000) : ∀ (m : Nat) (p : Int), -1 ≤ p → p ≤ 9000000 → -1 ≤ (gMany g m p).2 ∧ (gMany g m p).2 ≤ 9000000
  | 0, p, h0, h1 => ⟨h0, h1⟩
  | m + 1, p, h0, h1 => by
    unfold gMany
    split
    · exact ⟨h0, h1⟩
    · exact gMany_bd hg m _ (hg p h0 h1).1 (hg p h0 h1).2
theorem gMail_bd (l : List Int) (hl : l.length ≤ 2000000) (p : Int) (h0 : -1 ≤ p) (h1 : p ≤ 9000000) : -1 ≤ (gMail l p).2 ∧ (gMail l p).2 ≤ 9000000 := by
  have a := (gN_bd l p hl h0 h1).2
  have b := (gN_bd l _ hl a.1 a.2).2
  have c := (gN_bd l _ hl b.1 b.2).2
  exact (gT_bd l _ hl c.1 c.2).2
theorem gGone_bd (l : List Int) (hl : l.length ≤ 2000000) (p : Int) (h0 : -1 ≤ p) (h1 : p ≤ 9000000) : -1 ≤ (gGone l p).2 ∧ (gGone l p).2 ≤ 9000000 := by
  have a := (gN_bd l p hl h0 h1).2
  exact (gN_bd l _ hl a.1 a.2).2
theorem gBox_bd (l : List Int) (p : Int) (hl : l.length ≤ 2000000) (h0 : -1 ≤ p) (h1 : p ≤ 9000000) : -1 ≤ (gBox l p).2 ∧ (gBox l p).2 ≤ 9000000 := by
  have a := (gT_bd l p hl h0 h1).2
  have b := (gN_bd l (bP0 l p) hl a.1 a.2).2
  have c := (gN_bd l (bP1 l p) hl b.1 b.2).2
  have d := (gN_bd l (bP2 l p) hl c.1 c.2).2
  have e := (gN_bd l (bP3 l p) hl d.1 d.2).2
  have f := (gN_bd l (bP4 l p) hl e.1 e.2).2
  have m := gMany_bd (gMail_bd l hl) (min (gN l (bP4 l p)).1.toNat 13) _ f.1 f.2
  have k := (gN_bd l (bM l p).2 hl m.1 m.2).2
  exact gMany_bd (gGone_bd l hl) _ _ k.1 k.2
/-- A round more, or the end, of a list that is read. -/
theorem many_step {α : Type} {g : Int → α × Int} {m k : Nat} {R : List α × Int} {q : Int} {ms : List α} (h : R = (ms ++ (gMany g (m - k) q).1, (gMany g (m - k) q).2)) (hk : k < m) (hq : 0 ≤ q) : R = (ms ++ [(g q).1] ++ (gMany g (m - (k + 1)) (g q).2).1, (gMany g (m - (k + 1)) (g q).2).2) := by
  rw [h, show m - k = (m - (k + 1)) + 1 by omega]
  simp only [gMany, if_neg (show ¬ q < 0 by omega), List.append_assoc, List.singleton_append]
theorem many_end {α : Type} {g : Int → α × Int} {m k : Nat} {R : List α × Int} {q : Int} {ms : List α} (h : R = (ms ++ (gMany g (m - k) q).1, (gMany g (m - k) q).2)) (hk : m ≤ k ∨ q < 0) : R = (ms, q) := by
  rw [h]
  rcases hk with hk | hk
  · rw [show m - k = 0 by omega]; simp [gMany]
  · cases e : m - k with
    | zero => simp [gMany]
    | succ j => simp [gMany, hk]

end Go.Proofs.Ytodoofdbpffolaa

/- In a region that draws its order: operations whose guards are not met are passed by together. -/
namespace Go.Proofs.Ytodoofdbpffolaa


/-- These operations may come up one behind the other, and none is wanted; ds: the slots that they would fill. -/
def skipsOk (md : Region.Mode) (ops : Array Oper) : List Nat → List Nat → Array Bool → Array Value → Bool
  | [], [], _, _ => true
  | i :: is, d :: ds, l, tm => match ops[i]? with
    | some o => (o.dst == some d) && (Region.free md ops l i && ((Region.ready md ops l).contains i && (!(Region.wanted o (yielded ops tm)) && skipsOk md ops is ds (l.setIfInBounds i true) (tm.setIfInBounds d undef))))
    | none => false
  | _, _, _, _ => false

theorem wpAnyH_skips {P : Program} {md : Region.Mode} {ops : Array Oper} {Q : Exit → Act → World → Prop} {S : World → Prop} {w : World} (hs : Region.noSelect ops = true)
    (hQ : ∀ (d : Nat) v c a w, Q (.panic c) (a.put (some d) v) w → Q (.panic c) a w) (hS : S w) :
    ∀ (is ds : List Nat) (l : Array Bool) (a : Act) (fuel : Nat), skipsOk md ops is ds l a.tmps = true →
      wpAnyH P md ops Q S fuel (is.foldl (fun l i => l.setIfInBounds i true) l) (ds.foldl (fun a d => a.put (some d) undef) a) w → wpAnyH P md ops Q S (fuel + is.length) l a w
  | [], [], _, _, _, _, h => h
  | [], _ :: _, _, _, _, hk, _ => by simp [skipsOk] at hk
  | _ :: _, [], _, _, _, hk, _ => by simp [skipsOk] at hk
  | i :: is, d :: ds, l, a, fuel, hk, h => by
    unfold skipsOk at hk
    split at hk
    · rename_i o ho
      simp only [Bool.and_eq_true, beq_iff_eq, Bool.not_eq_true'] at hk
      obtain ⟨h1, h2, h3, h4, h5⟩ := hk
      refine wpAnyH_take (fuel := fuel + is.length) (i := i) (oi := o) (v := undef) ho hs h2 h3 (fun c a w => by rw [h1]; exact hQ d _ c a w) (Or.inr ⟨h4, rfl⟩) hS ?_
      rw [h1]
      exact wpAnyH_skips hs hQ hS is ds _ _ fuel (by simpa [Act.put] using h5) h
    · cases hk

/-- One operation is taken first; the slot that it fills is named. -/
theorem wpAnyH_takeD {P : Program} {md : Region.Mode} {ops : Array Oper} {Q : Exit → Act → World → Prop} {S : World → Prop} {i : Nat} (d : Nat) {oi : Oper} {v : Value} {fuel : Nat} {listed : Array Bool} {a : Act} {w : World} (hi : ops[i]? = some oi)
    (hd : oi.dst = some d) (hs : Region.noSelect ops = true) (hf : Region.free md ops listed i = true) (hr : (Region.ready md ops listed).contains i = true)
    (hQ : ∀ c a w, Q (.panic c) (a.put (some d) v) w → Q (.panic c) a w) (hy : YieldsIf P ops S oi v a) (hS : S w)
    (h : wpAnyH P md ops Q S fuel (listed.setIfInBounds i true) (a.put (some d) v) w) : wpAnyH P md ops Q S (fuel + 1) listed a w :=
  wpAnyH_take hi hs hf hr (by rw [hd]; exact hQ) hy hS (by rw [hd]; exact h)

/-- The same, its side conditions in one Bool; short, for it is written often. -/
theorem tk {P : Program} {md : Region.Mode} {ops : Array Oper} {Q : Exit → Act → World → Prop} {S : World → Prop} (i d : Nat) {oi : Oper} (v : Value) {fuel : Nat} {listed : Array Bool} {a : Act} {w : World}
    (hy : ∀ w, S w → (execOp a.eval oi).run P w = .ok (.value v) w) (hS : S w) (h : wpAnyH P md ops Q S fuel (listed.setIfInBounds i true) (a.put (some d) v) w)
    (hi : ops[i]? = some oi := by rfl)
    (hc : (Region.noSelect ops && (Region.free md ops listed i && (Region.ready md ops listed).contains i)) = true := by decide +kernel)
    (hg : (oi.dst == some d && Region.wanted oi (yielded ops a.tmps)) = true := by kernel_rfl)
    (hQ : ∀ c a w, Q (.panic c) (a.put (some d) v) w → Q (.panic c) a w := by exact fun _ _ _ h => h) : wpAnyH P md ops Q S (fuel + 1) listed a w := by
  simp only [Bool.and_eq_true, beq_iff_eq] at hc hg
  obtain ⟨h2, h3, h4⟩ := hc
  obtain ⟨h1, h5⟩ := hg
  exact wpAnyH_takeD d hi h1 h2 h3 h4 hQ (Or.inl ⟨h5, hy⟩) hS h
theorem sA {α : Type} (l : List α) (i : Nat) (a : α) : l.toArray.setIfInBounds i a = (l.set i a).toArray := by simp
theorem s0 {α : Type} (x : α) (l : List α) (a : α) : (x :: l).set 0 a = a :: l := rfl
theorem sS {α : Type} (x : α) (l : List α) (i : Nat) (a : α) : (x :: l).set (i + 1) a = x :: l.set i a := rfl
/-- The same, what it yields and the state behind it found by themselves. -/
theorem tq {P : Program} {md : Region.Mode} {ops : Array Oper} {Q : Exit → Act → World → Prop} {S : World → Prop} (i d : Nat) {oi : Oper} {v : Value} {fuel : Nat} {listed : Array Bool} {a a' : Act} {w : World}
    (hS : S w) (h : wpAnyH P md ops Q S fuel (listed.setIfInBounds i true) a' w)
    (hi : ops[i]? = some oi := by rfl)
    (hc : (Region.noSelect ops && (Region.free md ops listed i && (Region.ready md ops listed).contains i)) = true := by decide +kernel)
    (hg : (oi.dst == some d && Region.wanted oi (yielded ops a.tmps)) = true := by kernel_rfl)
    (hy : ∀ w, S w → (execOp a.eval oi).run P w = .ok (.value v) w := by (intro w s; (try dsimp only at s); go_simp <;> with_reducible rfl))
    (ha : a.put (some d) v = a' := by (conv => lhs; simp only [Act.put, sA, s0, sS]))
    (hQ : ∀ c a w, Q (.panic c) (a.put (some d) v) w → Q (.panic c) a w := by exact fun _ _ _ h => h) : wpAnyH P md ops Q S (fuel + 1) listed a w :=
  tk i d v hy hS (by rw [ha]; exact h) hi hc hg hQ

end Go.Proofs.Ytodoofdbpffolaa

/- Replies and rows of names in memory: what they read as, and those of the call's own. -/
namespace Go.Proofs.Ytodoofdbpffolaa
open Go.RowKit

structure RepD where
  code : Int
  num : Int
  box : BoxD
  names : List (List Int)

def NameRE (w : World) (c : List Value) (l : List Int) : Prop := ∃ u, c = [u] ∧ Bs w u l
abbrev NamesV := Rd 1 NameRE
theorem keepsName : Keeps NameRE := fun _ _ _ _ hb h => let ⟨u, h0, h1⟩ := h; ⟨u, h0, h1.below hb⟩
def NameE (w : World) (c : List Value) (l : List Int) (S : Nat → Prop) : Prop := ∃ u, c = [u] ∧ RO w S u l
theorem framesName : Frames NameE := fun _ _ _ _ _ h hw => let ⟨u, h0, h1⟩ := h; ⟨u, h0, h1.frame hw⟩
instance : Fr NameE := ⟨framesName⟩
abbrev NamesO := Ow 22 1 NameE
abbrev NamesR := OwR 22 1 NameE
theorem NameE.rd {w : World} {c : List Value} {l : List Int} {S : Nat → Prop} (h : NameE w c l S) : NameRE w c l := let ⟨u, h0, h1⟩ := h; ⟨u, h0, h1.bs⟩
theorem NamesV.cell {w : World} {v : Value} {l : List (List Int)} (h : NamesV w v l) (k : Nat) (x : List Int) (hx : l[k]? = some x) : ∃ b off cap u, v = .slice (some ⟨b, off, none⟩) l.length cap ∧ b < w.heap.size ∧ w.cell? ⟨b, off + k, none⟩ = some u ∧ Bs w u x := by
  obtain ⟨b, off, cap, c, hv, hlt, ⟨u, rfl, hi⟩, -, hc⟩ := h.get k x hx
  exact ⟨b, off, cap, u, hv, hlt, by simpa using hc 0 _ rfl, hi⟩
def szN (l : List (List Int)) : Nat := (l.map fun m => m.length + 1).sum
theorem szN_mem {l : List (List Int)} {m : List Int} (h : m ∈ l) : m.length + 1 ≤ szN l := by
  induction l with
  | nil => cases h
  | cons x l ih =>
    simp only [szN, List.map_cons, List.sum_cons] at ih ⊢
    rcases List.mem_cons.1 h with rfl | h
    · omega
    · have := ih h; omega
theorem szN_len (l : List (List Int)) : l.length ≤ szN l := by
  induction l with
  | nil => simp [szN]
  | cons x l ih => simp only [szN, List.map_cons, List.sum_cons, List.length_cons] at ih ⊢; omega

/-- The value v reads as a reply. -/
def RepV (w : World) (v : Value) (x : RepD) : Prop := ∃ u0 u1 u2 u3, v = .agg #[.int .i64 x.code, .int .i64 x.num, u0, .int .i64 x.box.valid, .int .i64 x.box.next, .int .i64 x.box.seq, u1, u2, .int .i64 x.box.lost, u3] ∧ BoxV w (.agg #[u0, .int .i64 x.box.valid, .int .i64 x.box.next, .int .i64 x.box.seq, u1, u2, .int .i64 x.box.lost]) x.box ∧ NamesV w u3 x.names ∧ I64 x.code ∧ I64 x.num
theorem RepV.below {w w' : World} {v : Value} {x : RepD} (h : RepV w v x) (hb : Below w.heap.size w w') : RepV w' v x :=
  let ⟨u0, u1, u2, u3, h0, h1, h2, i⟩ := h; ⟨u0, u1, u2, u3, h0, h1.below hb, h2.below keepsName hb, i⟩
/-- A reply of the call's own in blocks from B on and below T. -/
def RepR (w : World) (B T : Nat) (v : Value) (x : RepD) : Prop :=
  ∃ u0 u1 u2 u3 T0, v = .agg #[.int .i64 x.code, .int .i64 x.num, u0, .int .i64 x.box.valid, .int .i64 x.box.next, .int .i64 x.box.seq, u1, u2, .int .i64 x.box.lost, u3] ∧ BoxE w [u0, .int .i64 x.box.valid, .int .i64 x.box.next, .int .i64 x.box.seq, u1, u2, .int .i64 x.box.lost] x.box (In B T0) ∧ NamesO w (In T0 T) u3 x.names ∧ B ≤ T0 ∧ T0 ≤ T ∧ I64 x.code ∧ I64 x.num
theorem BoxE.wide {w : World} {c : List Value} {b : BoxD} {S S' : Nat → Prop} (h : BoxE w c b S) (hS : ∀ x, S x → S' x) : BoxE w c b S' :=
  let ⟨u0, u1, u2, S0, S1, S2, h0, h1, h2, h3, d0, d1, d2, r⟩ := h
  ⟨u0, u1, u2, S0, S1, S2, h0, h1, h2, h3, fun x hx => ⟨hS x (d0 x hx).1, (d0 x hx).2⟩, fun x hx => ⟨hS x (d1 x hx).1, (d1 x hx).2⟩, fun x hx => hS x (d2 x hx), r⟩
theorem BoxE.set {w : World} {g i B T : Nat} {c : List Value} {x : Value} {b : BoxD} (h : BoxE w c b (In B T)) (hd : g < B ∨ T ≤ g) : BoxE (w.setCell ⟨g, i, none⟩ x) c b (In B T) :=
  framesBox _ _ _ _ _ h fun b hb hlt => Below.heap_setCell _ _ _ _ (by have := hb.1; have := hb.2; show b ≠ g; omega)
section
variable {w w' : World} {B T B' T' : Nat} {v : Value} {y : RepD}
theorem RepR.rv (h : RepR w B T v y) : RepV w v y := by
  obtain ⟨u0, u1, u2, u3, T0, h0, h1, h2, -, -, i⟩ := h
  obtain ⟨p0, p1, p2, e, q⟩ := h1.rd
  simp only [List.cons.injEq, and_true, true_and] at e
  obtain ⟨rfl, rfl, rfl⟩ := e
  exact ⟨u0, u1, u2, u3, h0, ⟨_, _, _, rfl, q⟩, h2.rd fun _ _ _ _ => NameE.rd, i⟩
theorem RepR.below (h : RepR w B T v y) (hb : Below w.heap.size w w') : RepR w' B T v y :=
  let ⟨u0, u1, u2, u3, T0, h0, h1, h2, r⟩ := h; ⟨u0, u1, u2, u3, T0, h0, framesBox _ _ _ _ _ h1 fun b _ hlt => hb.block b hlt, h2.below framesName hb, r⟩
theorem RepR.wide (h : RepR w B T v y) (hB : B' ≤ B) (hT : T ≤ T') : RepR w B' T' v y :=
  let ⟨u0, u1, u2, u3, T0, h0, h1, h2, j0, j1, i⟩ := h
  ⟨u0, u1, u2, u3, T0, h0, h1.wide fun x hx => ⟨Nat.le_trans hB hx.1, hx.2⟩, h2.mono fun x hx => ⟨hx.1, Nat.lt_of_lt_of_le hx.2 hT⟩, by omega, by omega, i⟩
theorem RepR.keptW (h : RepR w B T v y) (hw : Within B' T' w w') (hd : T ≤ B' ∨ T' ≤ B) : RepR w' B T v y :=
  let ⟨u0, u1, u2, u3, T0, h0, h1, h2, j0, j1, i⟩ := h
  ⟨u0, u1, u2, u3, T0, h0, framesBox _ _ _ _ _ h1 fun b hb hlt => hw.block b hlt (by have := hb.1; have := hb.2; omega), h2.frame framesName fun b hb hlt => hw.block b hlt (by have := hb.1; have := hb.2; omega), j0, j1, i⟩
end
theorem bx10 {w : World} {g : Nat} {t : TypeId} {c0 c1 c2 c3 c4 c5 c6 c7 c8 c9 : Value} (h : w.heap[g]? = some (.cells #[c0, c1, c2, c3, c4, c5, c6, c7, c8, c9] t (0, 0))) :
    w.cell? ⟨g, 0, none⟩ = some c0 ∧ w.cell? ⟨g, 1, none⟩ = some c1 ∧ w.cell? ⟨g, 2, none⟩ = some c2 ∧ w.cell? ⟨g, 3, none⟩ = some c3 ∧ w.cell? ⟨g, 4, none⟩ = some c4 ∧ w.cell? ⟨g, 5, none⟩ = some c5 ∧ w.cell? ⟨g, 6, none⟩ = some c6 ∧ w.cell? ⟨g, 7, none⟩ = some c7 ∧ w.cell? ⟨g, 8, none⟩ = some c8 ∧ w.cell? ⟨g, 9, none⟩ = some c9 :=
  ⟨by rw [cell_of_row w g 0 _ t (0, 0) h]; rfl, by rw [cell_of_row w g 1 _ t (0, 0) h]; rfl, by rw [cell_of_row w g 2 _ t (0, 0) h]; rfl, by rw [cell_of_row w g 3 _ t (0, 0) h]; rfl, by rw [cell_of_row w g 4 _ t (0, 0) h]; rfl, by rw [cell_of_row w g 5 _ t (0, 0) h]; rfl, by rw [cell_of_row w g 6 _ t (0, 0) h]; rfl, by rw [cell_of_row w g 7 _ t (0, 0) h]; rfl, by rw [cell_of_row w g 8 _ t (0, 0) h]; rfl, by rw [cell_of_row w g 9 _ t (0, 0) h]; rfl⟩
theorem box10l {w : World} {g : Nat} {t : TypeId} {c0 c1 c2 c3 c4 c5 c6 c7 c8 c9 : Value} (h : w.heap[g]? = some (.cells #[c0, c1, c2, c3, c4, c5, c6, c7, c8, c9] t (0, 0))) :
    w.cell? ⟨g, 0, none⟩ = some c0 ∧ w.cell? ⟨g, 1, none⟩ = some c1 ∧ w.cell? ⟨g, 2, none⟩ = some c2 ∧ w.cell? ⟨g, 3, none⟩ = some c3 ∧ w.cell? ⟨g, 4, none⟩ = some c4 ∧ w.cell? ⟨g, 5, none⟩ = some c5 ∧ w.cell? ⟨g, 6, none⟩ = some c6 ∧ w.cell? ⟨g, 7, none⟩ = some c7 ∧ w.cell? ⟨g, 8, none⟩ = some c8 ∧ w.cell? ⟨g, 9, none⟩ = some c9 ∧ g < w.heap.size := by
  obtain ⟨f0, f1, f2, f3, f4, f5, f6, f7, f8, f9⟩ := bx10 h
  exact ⟨f0, f1, f2, f3, f4, f5, f6, f7, f8, f9, lt_of_heap h⟩

/-- A reply's shape laid open, and its parts. -/
theorem RepV.form {w : World} {v : Value} {x : RepD} (h : RepV w v x) : ∃ a0 n0 c0 a1 c1 a2 c2 a3 c3, v = .agg #[.int .i64 x.code, .int .i64 x.num, .slice a0 n0 c0, .int .i64 x.box.valid, .int .i64 x.box.next, .int .i64 x.box.seq, .slice a1 x.box.mails.length c1, .slice a2 x.box.gones.length c2, .int .i64 x.box.lost, .slice a3 x.names.length c3] := by
  obtain ⟨u0, u1, u2, u3, rfl, ⟨p0, p1, p2, e, q0, q1, q2, -⟩, q3, -⟩ := h
  simp only [Value.agg.injEq, Array.mk.injEq, List.cons.injEq, and_true, true_and] at e
  obtain ⟨rfl, rfl, rfl⟩ := e
  obtain ⟨a0, n0, c0, rfl⟩ := q0.form3
  obtain ⟨a1, c1, rfl, -⟩ := q1.form
  obtain ⟨a2, c2, rfl, -⟩ := q2.form
  obtain ⟨a3, c3, rfl, -⟩ := q3.form
  exact ⟨_, _, _, _, _, _, _, _, _, rfl⟩
theorem RepV.parts {w : World} {z0 z1 z2 z3 : Value} {x : RepD} (h : RepV w (.agg #[.int .i64 x.code, .int .i64 x.num, z0, .int .i64 x.box.valid, .int .i64 x.box.next, .int .i64 x.box.seq, z1, z2, .int .i64 x.box.lost, z3]) x) : BoxV w (.agg #[z0, .int .i64 x.box.valid, .int .i64 x.box.next, .int .i64 x.box.seq, z1, z2, .int .i64 x.box.lost]) x.box ∧ NamesV w z3 x.names ∧ I64 x.code ∧ I64 x.num := by
  obtain ⟨u0, u1, u2, u3, e, h1, h2, i⟩ := h
  simp only [Value.agg.injEq, Array.mk.injEq, List.cons.injEq, and_true, true_and] at e
  obtain ⟨rfl, rfl, rfl, rfl⟩ := e
  exact ⟨h1, h2, i⟩

end Go.Proofs.Ytodoofdbpffolaa
