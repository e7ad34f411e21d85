/- Plain facts on bytes in memory: what a slice reads as, what a call owns; no program is named here. -/
import Derived.WalkKit
import Derived.WalkSpells
import Derived.WalkLawsBesides
namespace Go.Proofs.Ytompmicdieebhaa
open Go.RowKit

/-- Every number of the list is a byte. -/
def Oct (l : List Int) : Prop := ∀ x ∈ l, 0 ≤ x ∧ x ≤ 255
/-- The cells of a list of bytes. -/
def vals (l : List Int) : List Value := l.map (Value.int .u8)

theorem length_vals (l : List Int) : (vals l).length = l.length := by simp [vals]
theorem vals_append (a b : List Int) : vals (a ++ b) = vals a ++ vals b := by simp [vals]
theorem vals_get (l : List Int) (i : Nat) (h : i < l.length) : (vals l)[i]? = some (.int .u8 (l.getD i 0)) := by
  simp [vals, h]
theorem oct_nil : Oct [] := by intro x hx; simp at hx
theorem oct_append {a b : List Int} (ha : Oct a) (hb : Oct b) : Oct (a ++ b) := by
  intro x hx
  rcases List.mem_append.1 hx with h | h
  · exact ha x h
  · exact hb x h
theorem oct_get {l : List Int} (h : Oct l) (i : Nat) : 0 ≤ l.getD i 0 ∧ l.getD i 0 ≤ 255 := by
  by_cases hi : i < l.length
  · have : l.getD i 0 = l[i] := by simp [hi]
    rw [this]; exact h _ (List.getElem_mem hi)
  · have : l.getD i 0 = 0 := by simp [Nat.not_lt.1 hi]
    rw [this]; omega
theorem oct_take {l : List Int} (h : Oct l) (k : Nat) : Oct (l.take k) := fun x hx => h x (List.mem_of_mem_take hx)
theorem oct_drop {l : List Int} (h : Oct l) (k : Nat) : Oct (l.drop k) := fun x hx => h x (List.mem_of_mem_drop hx)
theorem oneCell_vals (l : List Int) : ∀ u ∈ vals l, u.oneCell' = true := ints_oneCell .u8 l

/-- The slice value v reads in the world w as the bytes l. -/
def Bs (w : World) (v : Value) (l : List Int) : Prop :=
  Oct l ∧ ∃ a cap, v = .slice a l.length cap ∧ l.length ≤ cap ∧ cap ≤ maxLen ∧ (a = none → cap = 0) ∧
    (0 < l.length → ∃ b off, a = some ⟨b, off, none⟩ ∧ b < w.heap.size ∧ ∀ i, i < l.length → w.cell? ⟨b, off + i, none⟩ = some (.int .u8 (l.getD i 0)))

/-- The slice value v is nil, or it lies at the head of block g, whose first cells are the bytes l; nobody else need be asked ahead of a store there. -/
def Own (w : World) (g : Nat) (v : Value) (l : List Int) : Prop :=
  Oct l ∧ ((v = .slice none 0 0 ∧ l = []) ∨
    ∃ cap cur, v = .slice (some ⟨g, 0, none⟩) l.length cap ∧ w.heap[g]? = some (.cells cur 5 (0, 0)) ∧ l.length ≤ cap ∧ cap ≤ maxLen ∧ cur.size = cap ∧ cur.toList.take l.length = vals l)

theorem Own.row {w : World} {g : Nat} {v : Value} {l : List Int} (h : Own w g v l) : w.ownsRow g 5 1 v l.length (vals l) := by
  refine ⟨by simp [length_vals], ?_⟩
  rcases h.2 with ⟨hv, hl⟩ | ⟨cap, cur, hv, hh, h1, h2, h3, h4⟩
  · exact .inl ⟨hv, by simp [hl]⟩
  · exact .inr ⟨g, cap, cur, hv, Nat.le_refl _, hh, h1, h2, by simpa using h3, by simpa using h4⟩

theorem lt_of_heap {w : World} {g : Nat} {o : Obj} (h : w.heap[g]? = some o) : g < w.heap.size := (Array.getElem?_eq_some_iff.1 h).1

theorem Own.bs {w : World} {g : Nat} {v : Value} {l : List Int} (h : Own w g v l) : Bs w v l := by
  refine ⟨h.1, ?_⟩
  rcases h.2 with ⟨hv, hl⟩ | ⟨cap, cur, hv, hh, h1, h2, h3, h4⟩
  · subst hl
    exact ⟨none, 0, by simpa using hv, by simp, by simp, fun _ => rfl, fun h => by simp at h⟩
  · refine ⟨_, cap, hv, h1, h2, (fun h => by cases h), fun hp => ⟨g, 0, rfl, lt_of_heap hh, fun i hi => ?_⟩⟩
    rw [Nat.zero_add, cell_of_row w g i cur 5 (0, 0) hh]
    have e := vals_get l i hi
    rw [← h4, List.getElem?_take, if_pos hi] at e
    simpa using e

/-- What is kept while nothing below the heap's size turns. -/
theorem Bs.below {w w' : World} {v : Value} {l : List Int} (h : Bs w v l) (hb : Below w.heap.size w w') : Bs w' v l := by
  obtain ⟨ho, a, cap, hv, h1, h2, h3, h4⟩ := h
  refine ⟨ho, a, cap, hv, h1, h2, h3, fun hp => ?_⟩
  obtain ⟨b, off, ha, hlt, hc⟩ := h4 hp
  exact ⟨b, off, ha, Nat.lt_of_lt_of_le hlt hb.size, fun i hi => (hb.cell (p := ⟨b, off + i, none⟩) hlt).trans (hc i hi)⟩

theorem Own.below {w w' : World} {g : Nat} {v : Value} {l : List Int} (h : Own w g v l) (hb : Below w.heap.size w w') : Own w' g v l := by
  refine ⟨h.1, ?_⟩
  rcases h.2 with hn | ⟨cap, cur, hv, hh, r⟩
  · exact .inl hn
  · exact .inr ⟨cap, cur, hv, (hb.block g (lt_of_heap hh)).trans hh, r⟩

/-- What is kept while other blocks are written. -/
theorem Own.kept {w w' : World} {g k : Nat} {v : Value} {l : List Int} (h : Own w g v l) (hk : w.grownBy w' (some k)) (hne : g ≠ k) : Own w' g v l := by
  refine ⟨h.1, ?_⟩
  rcases h.2 with hn | ⟨cap, cur, hv, hh, r⟩
  · exact .inl hn
  · exact .inr ⟨cap, cur, hv, (hk.block g (lt_of_heap hh) (by simpa using hne)).trans hh, r⟩

theorem Own.grow {w w' : World} {g : Nat} {v : Value} {l : List Int} (h : Own w g v l) (hk : w.grownBy w' none) : Own w' g v l := by
  refine ⟨h.1, ?_⟩
  rcases h.2 with hn | ⟨cap, cur, hv, hh, r⟩
  · exact .inl hn
  · exact .inr ⟨cap, cur, hv, (hk.block g (lt_of_heap hh) (by simp)).trans hh, r⟩

/-- A row that was made whole. -/
theorem own_made {w : World} {g : Nat} {l : List Int} (ho : Oct l) (hm : l.length ≤ maxLen) (hh : w.heap[g]? = some (.cells (vals l).toArray 5 (0, 0))) :
    Own w g (.slice (some ⟨g, 0, none⟩) l.length l.length) l :=
  ⟨ho, .inr ⟨l.length, _, rfl, hh, Nat.le_refl _, hm, by simp [length_vals], by simp [← length_vals]⟩⟩

/-- A row that 'make' has laid. -/
theorem made_heap {w : World} {B g n : Nat} {e : TypeId} {z : Value} (hown : w.ownsRow B e 1 (.slice (some ⟨g, 0, none⟩) n n) n (madeCells #[z] n).toList) :
    w.heap[g]? = some (.cells (List.replicate n z).toArray e (0, 0)) := by
  rcases hown.2 with ⟨h, _⟩ | ⟨g', c, cur, h, _, hh, _, _, h3, h4⟩
  · simp at h
  · simp only [Value.slice.injEq, Option.some.injEq, Addr.mk.injEq, and_true, true_and] at h
    obtain ⟨rfl, rfl⟩ := h
    rw [Nat.mul_one, toList_madeCells_one, List.take_of_length_le (by simp; omega)] at h4
    rw [← h4]
    simpa using hh

theorem grownBy_setCell {w wr : World} {g j : Nat} {u : Value} (h : w.grownBy wr (some g)) : w.grownBy (wr.setCell ⟨g, j, none⟩ u) (some g) :=
  ⟨h.os, h.tape, h.output, by have := h.size; simpa [World.setCell] using this, fun k hk hne => (Below.heap_setCell wr ⟨g, j, none⟩ u k (by simpa using hne)).trans (h.block k hk hne)⟩

theorem grownBy_trans {w w1 w2 : World} {r : Option Nat} (h : w.grownBy w1 r) (h' : w1.grownBy w2 r) : w.grownBy w2 r :=
  ⟨h'.os.trans h.os, h'.tape.trans h.tape, h'.output.trans h.output, Nat.le_trans h.size h'.size, fun k hk hne => (h'.block k (Nat.lt_of_lt_of_le hk h.size) hne).trans (h.block k hk hne)⟩

theorem below_drewN {w w1 : World} {B : Nat} (n : Nat) (h : Below B w w1) : Below B w (w1.drewN n) := ⟨h.os, h.tape, h.output, h.size, h.block⟩
theorem Own.drewN {w : World} {g : Nat} {v : Value} {l : List Int} (n : Nat) (h : Own w g v l) : Own (w.drewN n) g v l := h
theorem Bs.drewN {w : World} {v : Value} {l : List Int} (n : Nat) (h : Bs w v l) : Bs (w.drewN n) v l := h

/-- Out of the kit's word on a row that the call owns. -/
theorem own_of_row {w : World} {B n : Nat} {v : Value} {l : List Int} (ho : Oct l) (hn : n = l.length) (h : w.ownsRow B 5 1 v n (vals l)) : ∃ g, B ≤ g ∧ Own w g v l := by
  subst hn
  rcases h.2 with ⟨hv, hl⟩ | ⟨g, cap, cur, hv, hB, hh, h1, h2, h3, h4⟩
  · exact ⟨B, Nat.le_refl _, ho, .inl ⟨hv, List.eq_nil_of_length_eq_zero hl⟩⟩
  · exact ⟨g, hB, ho, .inr ⟨cap, cur, hv, hh, h1, h2, by simpa using h3, by simpa using h4⟩⟩

/-- The bytes of a number: seven bits a byte, the lowest first; f more bytes may follow. -/
def enc : Nat → Int → List Int
  | 0, n => [n]
  | f + 1, n => if 127 < n then (n % 128 + 128) :: enc f (n / 128) else [n]

theorem enc_length (f : Nat) (n : Int) : 1 ≤ (enc f n).length ∧ (enc f n).length ≤ f + 1 := by
  induction f generalizing n with
  | zero => simp [enc]
  | succ f ih =>
    unfold enc
    split
    · have := ih (n / 128); simp; omega
    · simp
theorem enc_oct (f : Nat) (n : Int) (h0 : 0 ≤ n) (h1 : n < 128 * 128 ^ f) : Oct (enc f n) := by
  induction f generalizing n with
  | zero => intro x hx; simp [enc] at hx; subst hx; simp at h1; omega
  | succ f ih =>
    unfold enc
    split
    · intro x hx
      rcases List.mem_cons.1 hx with rfl | hx
      · omega
      · refine ih (n / 128) (by omega) ?_ x hx
        rw [Int.pow_succ] at h1
        omega
    · intro x hx; simp at hx; subst hx; omega

/-- What PutNum answers, as a list. -/
def putL (b : List Int) (n : Int) : List Int := if 0 ≤ n ∧ n ≤ 2147483647 then b ++ enc 4 n else b
theorem putL_oct {b : List Int} (hb : Oct b) (n : Int) : Oct (putL b n) := by
  unfold putL
  split
  · exact oct_append hb (enc_oct 4 n (by omega) (by omega))
  · exact hb
theorem putL_length (b : List Int) (n : Int) : b.length ≤ (putL b n).length ∧ (putL b n).length ≤ b.length + 5 := by
  unfold putL
  split
  · have := enc_length 4 n; simp; omega
  · omega

end Go.Proofs.Ytompmicdieebhaa
