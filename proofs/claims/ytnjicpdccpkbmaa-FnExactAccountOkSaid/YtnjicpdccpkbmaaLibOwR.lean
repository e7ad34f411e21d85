/- Lists of the call's own whose blocks lie between two; blocks of two, three, four, seven cells. -/
import Derived.Test.YtnjicpdccpkbmaaLibAcc
namespace Go.Proofs.Ytnjicpdccpkbmaa
open Go.RowKit

class Fr {α : Type} (E : World → List Value → α → (Nat → Prop) → Prop) : Prop where
  out : Frames E
instance : Fr IntE := ⟨framesInt⟩
instance : Fr MailE := ⟨framesMail⟩
instance : Fr GoneE := ⟨framesGone⟩
instance : Fr BoxE := ⟨framesBox⟩

def OwR {α : Type} (t : TypeId) (sz : Nat) (E : World → List Value → α → (Nat → Prop) → Prop) (w : World) (B T : Nat) (v : Value) (l : List α) : Prop := Ow t sz E w (In B T) v l
section
variable {α : Type} {t : TypeId} {sz : Nat} {E : World → List Value → α → (Nat → Prop) → Prop} {w w' : World} {B T B' T' g i : Nat} {v x : Value} {l : List α}
theorem OwR.ow (h : OwR t sz E w B T v l) : Ow t sz E w (In B T) v l := h
theorem OwR.wide (h : OwR t sz E w B T v l) (hB : B' ≤ B) (hT : T ≤ T') : OwR t sz E w B' T' v l := Ow.mono h fun _ hb => ⟨Nat.le_trans hB hb.1, Nat.lt_of_lt_of_le hb.2 hT⟩
theorem OwR.below [Fr E] (h : OwR t sz E w B T v l) (hb : Below w.heap.size w w') : OwR t sz E w' B T v l := Ow.below Fr.out h hb
theorem OwR.keptW [Fr E] (h : OwR t sz E w B T v l) (hw : Within B' T' w w') (hd : T ≤ B' ∨ T' ≤ B) : OwR t sz E w' B T v l := Ow.keptW Fr.out h hw fun b hb => by have := hb.1; have := hb.2; omega
theorem OwR.set [Fr E] (h : OwR t sz E w B T v l) (hd : g < B ∨ T ≤ g) : OwR t sz E (w.setCell ⟨g, i, none⟩ x) B T v l :=
  Ow.frame Fr.out h fun b hb _ => Below.heap_setCell w ⟨g, i, none⟩ x b (show b ≠ g by have := hb.1; have := hb.2; omega)
theorem OwR.form3 (h : OwR t sz E w B T v l) : ∃ a n cap, v = .slice a n cap := by
  rcases h with ⟨rfl, _⟩ | ⟨g, cap, cur, cs, fs, hv, _⟩
  · exact ⟨_, _, _, rfl⟩
  · exact ⟨_, _, _, hv⟩
theorem made_part {e : TypeId} {n : Nat} {xs : List Value} (h : w.ownsRow B e sz (.slice (some ⟨g, 0, none⟩) n n) n xs) : ∃ cur, w.heap[g]? = some (.cells cur e (0, 0)) ∧ cur.size = n * sz := by
  rcases h.2 with ⟨h, _⟩ | ⟨g', c, cur, h, _, hh, _, _, h3, _⟩
  · simp at h
  · simp only [Value.slice.injEq, Option.some.injEq, Addr.mk.injEq, and_true, true_and] at h
    obtain ⟨rfl, rfl⟩ := h
    exact ⟨cur, hh, h3⟩
end
abbrev IntsR := OwR 3 1 IntE
abbrev MailsR := OwR 84 4 MailE
abbrev GonesR := OwR 93 2 GoneE
abbrev BoxesR := OwR 51 7 BoxE

theorem bx2 {w : World} {g : Nat} {t : TypeId} {c0 c1 : Value} (h : w.heap[g]? = some (.cells #[c0, c1] t (0, 0))) : w.cell? ⟨g, 0, none⟩ = some c0 ∧ w.cell? ⟨g, 1, none⟩ = some c1 :=
  ⟨by rw [cell_of_row w g 0 _ t (0, 0) h]; rfl, by rw [cell_of_row w g 1 _ t (0, 0) h]; rfl⟩
theorem bx3 {w : World} {g : Nat} {t : TypeId} {c0 c1 c2 : Value} (h : w.heap[g]? = some (.cells #[c0, c1, c2] t (0, 0))) : w.cell? ⟨g, 0, none⟩ = some c0 ∧ w.cell? ⟨g, 1, none⟩ = some c1 ∧ w.cell? ⟨g, 2, none⟩ = some c2 :=
  ⟨by rw [cell_of_row w g 0 _ t (0, 0) h]; rfl, by rw [cell_of_row w g 1 _ t (0, 0) h]; rfl, by rw [cell_of_row w g 2 _ t (0, 0) h]; rfl⟩
theorem bx4 {w : World} {g : Nat} {t : TypeId} {c0 c1 c2 c3 : Value} (h : w.heap[g]? = some (.cells #[c0, c1, c2, c3] t (0, 0))) : w.cell? ⟨g, 0, none⟩ = some c0 ∧ w.cell? ⟨g, 1, none⟩ = some c1 ∧ w.cell? ⟨g, 2, none⟩ = some c2 ∧ w.cell? ⟨g, 3, none⟩ = some c3 :=
  ⟨by rw [cell_of_row w g 0 _ t (0, 0) h]; rfl, by rw [cell_of_row w g 1 _ t (0, 0) h]; rfl, by rw [cell_of_row w g 2 _ t (0, 0) h]; rfl, by rw [cell_of_row w g 3 _ t (0, 0) h]; rfl⟩
theorem bx7 {w : World} {g : Nat} {t : TypeId} {c0 c1 c2 c3 c4 c5 c6 : Value} (h : w.heap[g]? = some (.cells #[c0, c1, c2, c3, c4, c5, c6] t (0, 0))) :
    w.cell? ⟨g, 0, none⟩ = some c0 ∧ w.cell? ⟨g, 1, none⟩ = some c1 ∧ w.cell? ⟨g, 2, none⟩ = some c2 ∧ w.cell? ⟨g, 3, none⟩ = some c3 ∧ w.cell? ⟨g, 4, none⟩ = some c4 ∧ w.cell? ⟨g, 5, none⟩ = some c5 ∧ w.cell? ⟨g, 6, none⟩ = some c6 :=
  ⟨by rw [cell_of_row w g 0 _ t (0, 0) h]; rfl, by rw [cell_of_row w g 1 _ t (0, 0) h]; rfl, by rw [cell_of_row w g 2 _ t (0, 0) h]; rfl, by rw [cell_of_row w g 3 _ t (0, 0) h]; rfl,
   by rw [cell_of_row w g 4 _ t (0, 0) h]; rfl, by rw [cell_of_row w g 5 _ t (0, 0) h]; rfl, by rw [cell_of_row w g 6 _ t (0, 0) h]; rfl⟩

end Go.Proofs.Ytnjicpdccpkbmaa
