/- The proof's texts, part 3. -/
import Derived.Test.YtlegmiaoablcgaaGreatDoorPart2
import Derived.Maps.AppendAt
import Derived.Deep.DeepCutAuto
import Derived.Shelf.Abstract

/- Data with depth in memory: lists of structs, what they read as, and lists of the call's own, whose blocks lie in a set. -/
namespace Go.Proofs.YtlegmiaoablcgaaGreatDoor
open Go.RowKit

/-- The blocks from B on and below T. -/
def In (B T : Nat) : Nat → Prop := fun b => B ≤ b ∧ b < T

/-- The slice value v reads as the list l, each element of sz cells that E says. -/
def Rd {α : Type} (sz : Nat) (E : World → List Value → α → Prop) (w : World) (v : Value) (l : List α) : Prop :=
  ∃ (a : Option Addr) (cap : Nat) (cs : Nat → List Value), v = .slice a l.length cap ∧ l.length ≤ cap ∧ cap ≤ maxLen ∧ (a = none → cap = 0) ∧
    (∀ i x, l[i]? = some x → E w (cs i) x ∧ (cs i).length = sz) ∧
    (0 < l.length → ∃ b off, a = some ⟨b, off, none⟩ ∧ b < w.heap.size ∧ ∀ i j u, i < l.length → (cs i)[j]? = some u → w.cell? ⟨b, off + i * sz + j, none⟩ = some u)

/-- What an element says stays while nothing old turns. -/
def Keeps {α : Type} (E : World → List Value → α → Prop) : Prop := ∀ w w' c x, Below w.heap.size w w' → E w c x → E w' c x

section
variable {α : Type} {sz : Nat} {E : World → List Value → α → Prop} {w w' : World} {v : Value} {l : List α}
theorem Rd.below (hE : Keeps E) (h : Rd sz E w v l) (hb : Below w.heap.size w w') : Rd sz E w' v l := by
  obtain ⟨a, cap, cs, hv, h1, h2, h3, h4, h5⟩ := h
  refine ⟨a, cap, cs, hv, h1, h2, h3, fun i x hx => ⟨hE _ _ _ _ hb (h4 i x hx).1, (h4 i x hx).2⟩, fun hp => ?_⟩
  obtain ⟨b, off, ha, hlt, hc⟩ := h5 hp
  exact ⟨b, off, ha, Nat.lt_of_lt_of_le hlt hb.size, fun i j u hi hu => (hb.cell (p := ⟨b, off + i * sz + j, none⟩) hlt).trans (hc i j u hi hu)⟩
theorem Rd.form (h : Rd sz E w v l) : ∃ a cap, v = .slice a l.length cap ∧ l.length ≤ cap ∧ cap ≤ 9223372036854775807 := by
  obtain ⟨a, cap, cs, hv, h1, h2, _⟩ := h
  exact ⟨a, cap, hv, h1, h2⟩
theorem Rd.get (h : Rd sz E w v l) (k : Nat) (x : α) (hx : l[k]? = some x) :
    ∃ b off cap c, v = .slice (some ⟨b, off, none⟩) l.length cap ∧ b < w.heap.size ∧ E w c x ∧ c.length = sz ∧ ∀ j u, c[j]? = some u → w.cell? ⟨b, off + k * sz + j, none⟩ = some u := by
  obtain ⟨a, cap, cs, hv, h1, h2, h3, h4, h5⟩ := h
  have hk : k < l.length := (List.getElem?_eq_some_iff.1 hx).1
  obtain ⟨b, off, rfl, hlt, hc⟩ := h5 (by omega)
  exact ⟨b, off, cap, cs k, hv, hlt, (h4 k x hx).1, (h4 k x hx).2, fun j u hu => hc k j u hk hu⟩
theorem Rd.nil (w : World) : Rd sz E w (.slice none 0 0) ([] : List α) := ⟨none, 0, fun _ => [], rfl, by simp, by simp, fun _ => rfl, by simp, by simp⟩
end

/-- The list l of the call's own: nil, or at the head of a block of S; what its elements lead to lies in S too, apart from that block and from one another. -/
def Ow {α : Type} (t : TypeId) (sz : Nat) (E : World → List Value → α → (Nat → Prop) → Prop) (w : World) (S : Nat → Prop) (v : Value) (l : List α) : Prop :=
  (v = .slice none 0 0 ∧ l = []) ∨
  ∃ (g cap : Nat) (cur : Array Value) (cs : Nat → List Value) (fs : Nat → Nat → Prop), v = .slice (some ⟨g, 0, none⟩) l.length cap ∧ w.heap[g]? = some (.cells cur t (0, 0)) ∧ l.length ≤ cap ∧ cap ≤ maxLen ∧ cur.size = cap * sz ∧ S g ∧
    (∀ i x, l[i]? = some x → E w (cs i) x (fs i) ∧ (cs i).length = sz ∧ ∀ j u, (cs i)[j]? = some u → cur[i * sz + j]? = some u) ∧
    (∀ i b, i < l.length → fs i b → S b ∧ b ≠ g) ∧ (∀ i j b, i < l.length → j < l.length → i ≠ j → fs i b → ¬ fs j b)

/-- What an element of the call's own says stays while its blocks do. -/
def Frames {α : Type} (E : World → List Value → α → (Nat → Prop) → Prop) : Prop := ∀ w w' c x S, E w c x S → (∀ b, S b → b < w.heap.size → w'.heap[b]? = w.heap[b]?) → E w' c x S

section
variable {α : Type} {t : TypeId} {sz : Nat} {E : World → List Value → α → (Nat → Prop) → Prop} {w w' : World} {S S' : Nat → Prop} {v : Value} {l : List α}
theorem Ow.frame (hE : Frames E) (h : Ow t sz E w S v l) (hw : ∀ b, S b → b < w.heap.size → w'.heap[b]? = w.heap[b]?) : Ow t sz E w' S v l := by
  rcases h with h | ⟨g, cap, cur, cs, fs, hv, hh, h1, h2, h3, h4, h5, h6, h7⟩
  · exact .inl h
  · refine .inr ⟨g, cap, cur, cs, fs, hv, (hw g h4 (lt_of_heap hh)).trans hh, h1, h2, h3, h4, fun i x hx => ⟨?_, (h5 i x hx).2⟩, h6, h7⟩
    have hi : i < l.length := (List.getElem?_eq_some_iff.1 hx).1
    exact hE _ _ _ _ _ (h5 i x hx).1 fun b hb hlt => hw b (h6 i b hi hb).1 hlt
theorem Ow.mono (h : Ow t sz E w S v l) (hS : ∀ b, S b → S' b) : Ow t sz E w S' v l := by
  rcases h with h | ⟨g, cap, cur, cs, fs, hv, hh, h1, h2, h3, h4, h5, h6, h7⟩
  · exact .inl h
  · exact .inr ⟨g, cap, cur, cs, fs, hv, hh, h1, h2, h3, hS g h4, h5, fun i b hi hb => ⟨hS b (h6 i b hi hb).1, (h6 i b hi hb).2⟩, h7⟩
theorem Ow.below (hE : Frames E) (h : Ow t sz E w S v l) (hb : Below w.heap.size w w') : Ow t sz E w' S v l := h.frame hE fun b _ hlt => hb.block b hlt
theorem Ow.keptW {B T : Nat} (hE : Frames E) (h : Ow t sz E w S v l) (hw : Within B T w w') (hd : ∀ b, S b → ¬ (B ≤ b ∧ b < T)) : Ow t sz E w' S v l := h.frame hE fun b hb hlt => hw.block b hlt (hd b hb)
theorem Ow.rd {RE : World → List Value → α → Prop} (hE : ∀ w c x S, E w c x S → RE w c x) (h : Ow t sz E w S v l) : Rd sz RE w v l := by
  rcases h with ⟨rfl, rfl⟩ | ⟨g, cap, cur, cs, fs, hv, hh, h1, h2, h3, h4, h5, h6, h7⟩
  · exact Rd.nil w
  · refine ⟨some ⟨g, 0, none⟩, cap, cs, hv, h1, h2, (fun h => by cases h), fun i x hx => ⟨hE _ _ _ _ (h5 i x hx).1, (h5 i x hx).2.1⟩, fun hp => ⟨g, 0, rfl, lt_of_heap hh, fun i j u hi hu => ?_⟩⟩
    rw [Nat.zero_add, cell_of_row w g _ cur t (0, 0) hh]
    exact (h5 i l[i] (List.getElem?_eq_getElem hi)).2.2 j u hu
end

/-- The cells of c laid into block g from o on. -/
def put (w : World) (g o : Nat) : List Value → World
  | [] => w
  | c :: cs => put (w.setCell ⟨g, o, none⟩ c) g (o + 1) cs

theorem put_spec (g : Nat) (t : TypeId) : ∀ (cs : List Value) (w : World) (o : Nat) (cur : Array Value), w.heap[g]? = some (.cells cur t (0, 0)) → o + cs.length ≤ cur.size →
    ∃ cur', (put w g o cs).heap[g]? = some (.cells cur' t (0, 0)) ∧ cur'.size = cur.size ∧ (∀ j u, cs[j]? = some u → cur'[o + j]? = some u) ∧ (∀ i, i < o ∨ o + cs.length ≤ i → cur'[i]? = cur[i]?) ∧ Within g (g + 1) w (put w g o cs)
  | [], w, o, cur, h, _ => ⟨cur, h, rfl, by simp, fun _ _ => rfl, Within.refl _ _ _⟩
  | c :: cs, w, o, cur, h, hs => by
    simp only [List.length_cons] at hs
    have h1 : (w.setCell ⟨g, o, none⟩ c).heap[g]? = some (.cells (cur.setIfInBounds o c) t (0, 0)) := heap_setCell_same w g o cur t c h
    obtain ⟨cur', e1, e2, e3, e4, e5⟩ := put_spec g t cs (w.setCell ⟨g, o, none⟩ c) (o + 1) _ h1 (by simp; omega)
    refine ⟨cur', e1, by simpa using e2, fun j u hu => ?_, fun i hi => ?_, ?_⟩
    · cases j with
      | zero =>
        simp at hu; subst hu
        rw [Nat.add_zero, e4 o (.inl (by omega)), Array.getElem?_setIfInBounds]
        simp [show o < cur.size by omega]
      | succ j =>
        have := e3 j u (by simpa using hu)
        rwa [show o + (j + 1) = o + 1 + j by omega]
    · simp only [List.length_cons] at hi
      rw [e4 i (by omega)]
      rw [Array.getElem?_setIfInBounds]
      simp [show ¬ o = i by omega]
    · exact (⟨rfl, rfl, rfl, by simp [World.setCell], fun k hk hn => Below.heap_setCell w ⟨g, o, none⟩ c k (show k ≠ g by omega)⟩ : Within g (g + 1) w (w.setCell ⟨g, o, none⟩ c)).trans e5

/-- A list that is being laid: k of its elements lie there. -/
def Part {α : Type} (t : TypeId) (sz : Nat) (E : World → List Value → α → (Nat → Prop) → Prop) (w : World) (g n k : Nat) (l : List α) : Prop :=
  ∃ (cur : Array Value) (cs : Nat → List Value) (fs : Nat → Nat → Prop), w.heap[g]? = some (.cells cur t (0, 0)) ∧ cur.size = n * sz ∧
    (∀ i x, i < k → l[i]? = some x → E w (cs i) x (fs i) ∧ (cs i).length = sz ∧ ∀ j u, (cs i)[j]? = some u → cur[i * sz + j]? = some u) ∧
    (∀ i b, i < k → fs i b → g < b ∧ b < w.heap.size) ∧ (∀ i j b, i < k → j < k → i ≠ j → fs i b → ¬ fs j b)

section
variable {α : Type} {t : TypeId} {sz : Nat} {E : World → List Value → α → (Nat → Prop) → Prop} {w w' : World} {l : List α} {g n k : Nat}
theorem Part.start {cur : Array Value} (h : w.heap[g]? = some (.cells cur t (0, 0))) (hs : cur.size = n * sz) : Part t sz E w g n 0 l := ⟨cur, fun _ => [], fun _ _ => False, h, hs, by simp, by simp, by simp⟩
theorem Part.cell (h : Part t sz E w g n k l) (i : Nat) (hi : i < n * sz) : (∃ u, w.cell? ⟨g, i, none⟩ = some u) ∧ w.frozen? ⟨g, i, none⟩ = false := by
  obtain ⟨cur, cs, fs, hh, hs, _⟩ := h
  refine ⟨⟨cur[i]'(by omega), ?_⟩, frozen_of_row w g i cur t hh⟩
  rw [cell_of_row w g i cur t (0, 0) hh]
  simp
theorem Part.lt (h : Part t sz E w g n k l) : g < w.heap.size := let ⟨_, _, _, hh, _⟩ := h; lt_of_heap hh
theorem Part.step (hE : Frames E) (h : Part t sz E w g n k l) (hb : Below w.heap.size w w') (x : α) (hx : l[k]? = some x) (hk : k < n) (c : List Value) (hc : c.length = sz) (he : E w' c x (In w.heap.size w'.heap.size)) :
    Part t sz E (put w' g (k * sz) c) g n (k + 1) l := by
  obtain ⟨cur, cs, fs, hh, hs, h1, h2, h3⟩ := h
  have hg : g < w.heap.size := lt_of_heap hh
  have hroom : k * sz + sz ≤ n * sz := by
    have := Nat.mul_le_mul_right sz (show k + 1 ≤ n by omega)
    rw [Nat.add_mul, Nat.one_mul] at this
    exact this
  obtain ⟨cur', e1, e2, e3, e4, e5⟩ := put_spec g t c w' (k * sz) cur ((hb.block g hg).trans hh) (by omega)
  have same : ∀ b, b ≠ g → b < w.heap.size → (put w' g (k * sz) c).heap[b]? = w.heap[b]? := fun b hne hlt =>
    (e5.block b (Nat.lt_of_lt_of_le hlt hb.size) (by omega)).trans (hb.block b hlt)
  refine ⟨cur', fun i => if i = k then c else cs i, fun i => if i = k then In w.heap.size w'.heap.size else fs i, e1, by omega, fun i y hi hy => ?_, fun i b hi hb' => ?_, fun i j b hi hj hne hbi hbj => ?_⟩
  · by_cases hik : i = k
    · subst hik
      rw [hx] at hy; cases hy
      simp only [if_true]
      refine ⟨hE _ _ _ _ _ he fun b hb' hlt => e5.block b hlt (by have := hb'.1; omega), hc, fun j u hu => e3 j u hu⟩
    · simp only [if_neg hik]
      have hi' : i < k := by omega
      obtain ⟨q1, q2, q3⟩ := h1 i y hi' hy
      refine ⟨hE _ _ _ _ _ q1 fun b hb' hlt => same b (by have := (h2 i b hi' hb').1; omega) hlt, q2, fun j u hu => ?_⟩
      have hj : j < sz := by have := (List.getElem?_eq_some_iff.1 hu).1; omega
      have hlow : i * sz + j < k * sz := by
        have := Nat.mul_le_mul_right sz (show i + 1 ≤ k by omega)
        rw [Nat.add_mul, Nat.one_mul] at this
        omega
      rw [e4 _ (.inl hlow)]
      exact q3 j u hu
  · by_cases hik : i = k
    · simp only [hik, if_true] at hb'
      have := e5.size
      exact ⟨by have := hb'.1; omega, by have := hb'.2; omega⟩
    · simp only [if_neg hik] at hb'
      have := h2 i b (by omega) hb'
      have := e5.size
      have := hb.size
      omega
  · by_cases hik : i = k
    · by_cases hjk : j = k
      · omega
      · simp only [hik, if_true] at hbi
        simp only [if_neg hjk] at hbj
        have := h2 j b (by omega) hbj
        have := hbi.1
        omega
    · simp only [if_neg hik] at hbi
      by_cases hjk : j = k
      · simp only [hjk, if_true] at hbj
        have := h2 i b (by omega) hbi
        have := hbj.1
        omega
      · simp only [if_neg hjk] at hbj
        exact h3 i j b (by omega) (by omega) hne hbi hbj
theorem Part.done {B : Nat} (h : Part t sz E w g n n l) (hn : l.length = n) (hm : n ≤ maxLen) (hB : B ≤ g) : Ow t sz E w (In B w.heap.size) (.slice (some ⟨g, 0, none⟩) n n) l := by
  obtain ⟨cur, cs, fs, hh, hs, h1, h2, h3⟩ := h
  subst hn
  refine .inr ⟨g, l.length, cur, cs, fs, rfl, hh, Nat.le_refl _, hm, hs, ⟨hB, lt_of_heap hh⟩, fun i x hx => h1 i x (List.getElem?_eq_some_iff.1 hx).1 hx, fun i b hi hb => ?_, h3⟩
  have := h2 i b hi hb
  exact ⟨⟨by omega, this.2⟩, by omega⟩
theorem put_below {B : Nat} {w0 w : World} (hb : Below B w0 w) (hB : B ≤ g) (o : Nat) (c : List Value) : Below B w0 (put w g o c) := by
  induction c generalizing w o with
  | nil => exact hb
  | cons x c ih => exact ih (hb.setCell (p := ⟨g, o, none⟩) hB x) (o + 1)
end

end Go.Proofs.YtlegmiaoablcgaaGreatDoor

/- Tokens in memory; what l4one of package spec answers. -/
namespace Go.Proofs.YtlegmiaoablcgaaGreatDoor
open Go.RowKit

theorem tx4 {w : World} {g : Nat} {t : TypeId} {c0 c1 c2 c3 : Value} (h : w.heap[g]? = some (.cells #[c0, c1, c2, c3] t (0, 0))) : w.cell? ⟨g, 0, none⟩ = some c0 ∧ w.cell? ⟨g, 1, none⟩ = some c1 ∧ w.cell? ⟨g, 2, none⟩ = some c2 ∧ w.cell? ⟨g, 3, none⟩ = some c3 :=
  ⟨by rw [cell_of_row w g 0 _ t (0, 0) h]; rfl, by rw [cell_of_row w g 1 _ t (0, 0) h]; rfl, by rw [cell_of_row w g 2 _ t (0, 0) h]; rfl, by rw [cell_of_row w g 3 _ t (0, 0) h]; rfl⟩
/-- What l4one answers: the token and the place behind it, or -1. -/
def OneP (w : World) (l : List Int) (r : Option (TokD × List Int)) (e : Ending) (w' : World) : Prop := Below w.heap.size w w' ∧ match r with
  | none => ∃ (d0 d1 d2 : Int) (a : Option Addr) (n c : Nat), e = .returned (.tuple #[.agg #[.int .i64 d0, .int .i64 d1, .int .i64 d2, .slice a n c], .int .i64 (-1)])
  | some p => ∃ (a : Option Addr) (n c : Nat), e = .returned (.tuple #[.agg #[.int .i64 p.1.k, .int .i64 p.1.p, .int .i64 p.1.n, .slice a n c], .int .i64 ((l.length - p.2.length : Nat) : Int)]) ∧ Row w' w.heap.size w'.heap.size (.slice a n c) p.1.tx ∧ p.2.length < l.length
/-- A token's four cells are set: the variable and the result. -/
theorem tok_fin {w w1 : World} {r : Nat} {t : TypeId} {d0 d1 d2 d3 : Value} (hk : w1.heap[r]? = some (.cells #[d0, d1, d2, d3] t (0, 0))) (hr : w.heap.size ≤ r) (hb : Below w.heap.size w w1) (c0 c1 c2 c3 : Value) :
    ((((w1.setCell ⟨r, 0, none⟩ c0).setCell ⟨r, 1, none⟩ c1).setCell ⟨r, 2, none⟩ c2).setCell ⟨r, 3, none⟩ c3).heap[r]? = some (.cells #[c0, c1, c2, c3] t (0, 0)) ∧ Below w.heap.size w ((((w1.setCell ⟨r, 0, none⟩ c0).setCell ⟨r, 1, none⟩ c1).setCell ⟨r, 2, none⟩ c2).setCell ⟨r, 3, none⟩ c3) ∧
      ∀ k, k ≠ r → ((((w1.setCell ⟨r, 0, none⟩ c0).setCell ⟨r, 1, none⟩ c1).setCell ⟨r, 2, none⟩ c2).setCell ⟨r, 3, none⟩ c3).heap[k]? = w1.heap[k]? :=
  ⟨box_set (i := 3) (box_set (i := 2) (box_set (i := 1) (box_set (i := 0) hk))), (((hb.setCell hr _).setCell hr _).setCell hr _).setCell hr _, fun k hk => by rw [Below.heap_setCell _ _ _ _ (show k ≠ r from hk), Below.heap_setCell _ _ _ _ (show k ≠ r from hk), Below.heap_setCell _ _ _ _ (show k ≠ r from hk), Below.heap_setCell _ _ _ _ (show k ≠ r from hk)]⟩
theorem drop_cons {l : List Int} {i : Nat} (hi : i < l.length) : l.drop i = l.getD i 0 :: l.drop (i + 1) := by
  rw [List.drop_eq_getElem_cons hi, List.getD_eq_getElem?_getD, List.getElem?_eq_getElem hi]; rfl

end Go.Proofs.YtlegmiaoablcgaaGreatDoor

/- What PutText and GetText answer, on lists. -/
namespace Go.Proofs.YtlegmiaoablcgaaGreatDoor
open Go.RowKit

/-- What PutText answers. -/
def putTL (b t : List Int) : List Int := if 30 < t.length then b else putL b t.length ++ t
theorem putTL_length (b t : List Int) : (putTL b t).length ≤ b.length + 35 := by
  unfold putTL
  have := putL_length b t.length
  split
  · omega
  · simp; omega

/-- What GetText answers. -/
def getTL (l : List Int) (at' : Int) : List Int × Int :=
  if (getL l at').2 < 0 ∨ 30 < (getL l at').1 ∨ (l.length : Int) - (getL l at').2 < (getL l at').1 then ([], -1)
  else ((l.drop (getL l at').2.toNat).take (getL l at').1.toNat, (getL l at').2 + (getL l at').1)

theorem dec_bd (f i : Nat) (n sc : Int) (l : List Int) (hn : 0 ≤ n) (hs : 0 ≤ sc) : dec f i n sc l = none ∨ ∃ m k, dec f i n sc l = some (m, k) ∧ 0 ≤ m ∧ m ≤ 2147483647 ∧ i < k ∧ k ≤ i + l.length := by
  induction f generalizing i n sc l with
  | zero => left; rfl
  | succ f ih =>
    cases l with
    | nil => left; rfl
    | cons x r =>
      simp only [dec]
      have hx : 0 ≤ x % 128 * sc := Int.mul_nonneg (by omega) hs
      split
      · split
        · left; rfl
        · right; refine ⟨_, _, rfl, by omega, by omega, by omega, by simp⟩
      · rcases ih (i + 1) (n + x % 128 * sc) (sc * 128) r (by omega) (by omega) with h | ⟨m, k, h1, h2, h3, h4, h5⟩
        · left; exact h
        · right; exact ⟨m, k, h1, h2, h3, by omega, by simp; omega⟩
theorem getL_bd (l : List Int) (at' : Int) : getL l at' = (0, -1) ∨ (0 ≤ (getL l at').1 ∧ (getL l at').1 ≤ 2147483647 ∧ 1 ≤ (getL l at').2 ∧ (getL l at').2 ≤ l.length) := by
  unfold getL
  split
  · left; rfl
  · rcases dec_bd 5 0 0 1 (l.drop at'.toNat) (by omega) (by omega) with h | ⟨m, k, h1, h2, h3, h4, h5⟩
    · rw [h]; left; rfl
    · right
      rw [h1]
      simp at h5
      simp only [outOf]
      omega
theorem getTL_length (l : List Int) (at' : Int) : (getTL l at').1.length ≤ 30 := by
  unfold getTL
  split
  · simp
  · simp; omega

/-- A cut of a slice of bytes, not at its very end. -/
theorem bs_cut {w : World} {b off cap : Nat} {l : List Int} (hv : Bs w (.slice (some ⟨b, off, none⟩) l.length cap) l) (lo n : Nat) (h : lo + n ≤ l.length) :
    Bs w (.slice (some ⟨b, off + lo, none⟩) n (cap - lo)) ((l.drop lo).take n) := by
  obtain ⟨ho, a, cap', hv, h1, h2, h3, h4⟩ := hv
  simp only [Value.slice.injEq] at hv
  obtain ⟨rfl, -, rfl⟩ := hv
  have hl : ((l.drop lo).take n).length = n := by simp; omega
  refine ⟨oct_take (oct_drop ho _) _, _, cap - lo, by rw [hl], by rw [hl]; omega, by omega, (fun h => by cases h), fun hp => ?_⟩
  rw [hl] at hp
  obtain ⟨b', off', e, hlt, hc⟩ := h4 (by omega)
  simp only [Option.some.injEq, Addr.mk.injEq, and_true] at e
  obtain ⟨rfl, rfl⟩ := e
  refine ⟨b, off + lo, rfl, hlt, fun i hi => ?_⟩
  rw [hl] at hi
  rw [Nat.add_assoc, hc (lo + i) (by omega)]
  simp [hi]
theorem bs_empty (w : World) (x : Addr) (c : Nat) (hc : c ≤ maxLen) : Bs w (.slice (some x) 0 c) [] :=
  ⟨oct_nil, some x, c, rfl, by simp, hc, (fun h => by cases h), fun h => absurd h (by simp)⟩

end Go.Proofs.YtlegmiaoablcgaaGreatDoor

/- Regions that draw their order, walked in phases: each phase has a condition on the world of its own; a phase is closed when all that comes behind it waits for it. -/
namespace Go.Proofs.YtlegmiaoablcgaaGreatDoor
set_option linter.unusedVariables false

/-- Is one of the operations A still to come? -/
def left (A : List Nat) (L : Array Bool) : Bool := A.any fun i => !(L.getD i true)
theorem left_mem {A : List Nat} {L : Array Bool} {i : Nat} (h : i ∈ A) (h' : L.getD i true = false) : left A L = true := by
  unfold left
  rw [List.any_eq_true]
  exact ⟨i, h, by rw [h']; rfl⟩
theorem left_no {A : List Nat} {L : Array Bool} (h : ∀ i, i ∈ A → L.getD i false = true) : left A L = false := by
  unfold left
  rw [List.any_eq_false]
  intro i hi
  have := h i hi
  by_cases hs : i < L.size
  · simp [hs] at this ⊢; exact this
  · simp [Array.getElem?_eq_none (Nat.le_of_not_lt hs)] at this

/-- What an operation waits for. -/
def waits (md : Region.Mode) (ops : Array Oper) (j : Nat) : List Nat := match ops[j]? with
  | some o => (o.after.toList.filter (Region.binds md)).map (·.on)
  | none => []
inductive Anc (md : Region.Mode) (ops : Array Oper) : Nat → Nat → Prop
  | one {j i : Nat} : i ∈ waits md ops j → Anc md ops j i
  | more {j k i : Nat} : k ∈ waits md ops j → Anc md ops k i → Anc md ops j i
theorem Anc.then {md : Region.Mode} {ops : Array Oper} {j k i : Nat} (h : Anc md ops j k) (hi : i ∈ waits md ops k) : Anc md ops j i := by
  induction h with
  | one h => exact .more h (.one hi)
  | more h _ ih => exact .more h (ih hi)
def ClosedL (md : Region.Mode) (ops : Array Oper) (L : Array Bool) : Prop := ∀ k i, L.getD k false = true → i ∈ waits md ops k → L.getD i false = true
theorem anc_listed {md : Region.Mode} {ops : Array Oper} {L : Array Bool} {k i : Nat} (hc : ClosedL md ops L) (hk : L.getD k false = true) (h : Anc md ops k i) : L.getD i false = true := by
  induction h with
  | one h => exact hc _ _ hk h
  | more h _ ih => exact ih (hc _ _ hk h)
theorem ready_waits {md : Region.Mode} {ops : Array Oper} {L : Array Bool} {j i : Nat} (hj : j ∈ Region.ready md ops L) (h : i ∈ waits md ops j) : L.getD i false = true := by
  obtain ⟨-, o, ho, hall⟩ := mem_ready.1 hj
  unfold waits at h
  rw [ho] at h
  simp only [List.mem_map, List.mem_filter] at h
  obtain ⟨e, ⟨he, hb⟩, rfl⟩ := h
  exact hall e (by simpa using he) hb
theorem anc_ready {md : Region.Mode} {ops : Array Oper} {L : Array Bool} {j i : Nat} (hc : ClosedL md ops L) (hj : j ∈ Region.ready md ops L) (h : Anc md ops j i) : L.getD i false = true := by
  cases h with
  | one h => exact ready_waits hj h
  | more h h' => exact anc_listed hc (ready_waits hj h) h'
theorem closed_step {md : Region.Mode} {ops : Array Oper} {L : Array Bool} {j : Nat} (hc : ClosedL md ops L) (hj : j ∈ Region.ready md ops L) : ClosedL md ops (L.setIfInBounds j true) := by
  intro k i hk hi
  by_cases hjk : j = k
  · subst hjk; exact getD_set_true (ready_waits hj hi)
  · rw [getD_set_ne false hjk] at hk
    exact getD_set_true (hc k i hk hi)

/-- The operations that come ahead of one, gathered. -/
def addNew (l : List Nat) (i : Nat) : List Nat := if l.contains i then l else i :: l
theorem mem_addNew {xs l : List Nat} {i : Nat} (h : i ∈ xs.foldl addNew l) : i ∈ l ∨ i ∈ xs := by
  induction xs generalizing l with
  | nil => exact .inl h
  | cons x xs ih =>
    rcases ih h with h | h
    · unfold addNew at h
      split at h
      · exact .inl h
      · rcases List.mem_cons.1 h with rfl | h
        · exact .inr (List.mem_cons_self ..)
        · exact .inl h
    · exact .inr (List.mem_cons_of_mem _ h)
def ancL (md : Region.Mode) (ops : Array Oper) (j : Nat) : Nat → List Nat
  | 0 => waits md ops j
  | f + 1 => ((ancL md ops j f).flatMap (waits md ops)).foldl addNew (ancL md ops j f)
theorem anc_of {md : Region.Mode} {ops : Array Oper} {j : Nat} : ∀ (f i : Nat), i ∈ ancL md ops j f → Anc md ops j i
  | 0, i, h => .one h
  | f + 1, i, h => by
    rcases mem_addNew h with h | h
    · exact anc_of f i h
    · rw [List.mem_flatMap] at h
      obtain ⟨k, hk, hi⟩ := h
      exact (anc_of f k hk).then hi

section
variable {P : Program} {md : Region.Mode} {ops : Array Oper} {Q : Exit → Act → World → Prop} {S : World → Prop} {A : List Nat}
/-- Whatever order is picked: while one of A is still to come S holds behind each operation; then the rest goes in whatever order. -/
def wpAnyS (P : Program) (md : Region.Mode) (ops : Array Oper) (Q : Exit → Act → World → Prop) (S : World → Prop) (A : List Nat) : Nat → Array Bool → Act → World → Prop
  | 0, L, a, w => Region.ready md ops L = [] ∧ Q .normal a w
  | n + 1, L, a, w => (left A L = false → wpAny P md ops Q (n + 1) L a w) ∧ (left A L = true → (Region.ready md ops L = [] → Q .normal a w) ∧
      ∀ i ∈ Region.ready md ops L, wpOp P ops Q i (fun a' w' => S w' ∧ wpAnyS P md ops Q S A n (L.setIfInBounds i true) a' w') a w)
theorem wpAny_of_phase : ∀ (n : Nat) (L : Array Bool) (a : Act) (w : World), wpAnyS P md ops Q S A n L a w → wpAny P md ops Q n L a w
  | 0, _, _, _, h => h
  | n + 1, L, a, w, h => by
    cases hl : left A L with
    | false => exact h.1 hl
    | true => exact ⟨(h.2 hl).1, fun i hi => wpOp_mono (fun a' w' q => wpAny_of_phase n _ a' w' q.2) ((h.2 hl).2 i hi)⟩
/-- All that is not of A waits for all of A. -/
def Parts (md : Region.Mode) (ops : Array Oper) (A : List Nat) : Prop := ∀ j, (∃ o, ops[j]? = some o) → j ∉ A → ∀ i, i ∈ A → Anc md ops j i
theorem parts_ready {L : Array Bool} {j : Nat} (hA : Parts md ops A) (hc : ClosedL md ops L) (hj : j ∈ Region.ready md ops L) (hn : j ∉ A) : left A L = false := by
  obtain ⟨-, o, ho, -⟩ := mem_ready.1 hj
  exact left_no fun i hi => anc_ready hc hj (hA j ⟨o, ho⟩ hn i hi)
theorem wpAnyS_first {i : Nat} {oi : Oper} {v : Value} (hi : ops[i]? = some oi) (hR : i ∈ A) (hA : Parts md ops A) (hsel : ∀ (j : Nat) (o : Oper) cs b, ops[j]? = some o → o.op ≠ .select cs b) (hQ : ∀ c a w, Q (.panic c) (a.put oi.dst v) w → Q (.panic c) a w)
    (n : Nat) : ∀ (L : Array Bool) (a : Act) (w : World), ClosedL md ops L →
      (∀ j oj, ops[j]? = some oj → j ≠ i → L.getD j true = false → (∀ e ∈ oj.after, Region.binds md e = true → e.on ≠ i) → oi.apart ops oj = true) →
      i ∈ Region.ready md ops L → YieldsIf P ops S oi v a → S w → wpAnyS P md ops Q S A n (L.setIfInBounds i true) (a.put oi.dst v) w → wpAnyS P md ops Q S A (n + 1) L a w := by
  induction n with
  | zero =>
    intro L a w hc _ hr hy hS H
    have hl : left A L = true := left_mem hR (mem_ready.1 hr).1
    refine ⟨fun h => absurd hl (by rw [h]; simp), fun _ => ⟨fun h => absurd hr (by rw [h]; simp), fun j hj => ?_⟩⟩
    by_cases hji : j = i
    · subst hji; exact hy.wpOp hi hS ⟨hS, H⟩
    · exact absurd (ready_mono hj hji) (by rw [H.1]; simp)
  | succ n ih =>
    intro L a w hc hfree hr hy hS H
    have hl : left A L = true := left_mem hR (mem_ready.1 hr).1
    refine ⟨fun h => absurd hl (by rw [h]; simp), fun _ => ⟨fun h => absurd hr (by rw [h]; simp), fun j hj => ?_⟩⟩
    by_cases hji : j = i
    · subst hji; exact hy.wpOp hi hS ⟨hS, H⟩
    obtain ⟨hjun, oj, hoj, hall⟩ := mem_ready.1 hj
    have hjA : j ∈ A := by
      by_cases h : j ∈ A
      · exact h
      · exact absurd hl (by rw [parts_ready hA hc hj h]; simp)
    have hil := (mem_ready.1 hr).1
    have hnot : ∀ e ∈ oj.after, Region.binds md e = true → e.on ≠ i := by
      intro e he hb heq
      have q := hall e he hb
      rw [heq] at q
      by_cases hs : i < L.size
      · simp [hs] at hil q; rw [hil] at q; cases q
      · simp [Array.getElem?_eq_none (Nat.le_of_not_lt hs)] at q
    have hl' : left A (L.setIfInBounds i true) = true := left_mem hjA (by rw [getD_set_ne true (Ne.symm hji)]; exact hjun)
    have step := wpOp_putIf hoj (hfree j oj hoj hji hjun hnot) (fun cs b => hsel i oi cs b hi) (fun cs b => hsel j oj cs b hoj) hQ hy ((H.2 hl').2 j (ready_mono hj hji))
    refine wpOp_mono (fun a' w' q => ?_) step
    obtain ⟨q1, q2, q3⟩ := q
    exact ⟨q2, ih (L.setIfInBounds j true) a' w' (closed_step hc hj) (fun k ok hk hki hun hno => hfree k ok hk hki (by
        by_cases hjk : j = k
        · subst hjk; exact hjun
        · rwa [getD_set_ne true hjk] at hun) hno) (ready_mono hr (Ne.symm hji)) q1 q2 (by rw [Array.setIfInBounds_comm _ _ hji]; exact q3)⟩
end

/-- The table of a region that is walked in phases: qs, how many operations of the order are done at the end of each; f, how far ahead it is looked. -/
def tableS (ops : Array Oper) (n : Nat) (ord cs qs : List Nat) (f : Nat) : Bool :=
  tableO ops n ord cs && ((List.range (n + 1)).all (fun p => (List.range n).all fun k => !((doneA n (ord.take p)).getD k false) || (waits .any ops k).all fun i => (doneA n (ord.take p)).getD i false) &&
    qs.all fun q => (List.range n).all fun j => (ord.take q).contains j || (ord.take q).all fun i => (ancL .any ops j f).contains i)
structure TabS (ops : Array Oper) (n : Nat) (ord cs qs : List Nat) (f : Nat) : Prop where
  out : tableS ops n ord cs qs f = true

/-- What is left of the region when the first p operations of the order are done, in the phase that ends at q. -/
def wpPh (P : Program) (ops : Array Oper) (Q : Exit → Act → World → Prop) (S : World → Prop) (n : Nat) (ord : List Nat) (q p : Nat) (a : Act) (w : World) : Prop := wpAnyS P .any ops Q S (ord.take q) (n - p) (doneA n (ord.take p)) a w

section
variable {P : Program} {ops : Array Oper} {Q : Exit → Act → World → Prop} {S : World → Prop} {n f : Nat} {ord cs qs : List Nat} {a : Act} {w : World}
theorem tabS_of {c : Option Code} {id : Nat} (h : c.bind (opsAt id) = some ops) (T : (c.bind (opsAt id)).all (fun o => tableS o n ord cs qs f) = true) : TabS ops n ord cs qs f := by
  rw [h] at T; exact ⟨by simpa using T⟩
theorem TabS.o (T : TabS ops n ord cs qs f) : TabO ops n ord cs := by
  have := T.out
  simp only [tableS, Bool.and_eq_true] at this
  exact ⟨this.1⟩
theorem TabS.closed (T : TabS ops n ord cs qs f) {p : Nat} (hp : p ≤ n) : ClosedL .any ops (doneA n (ord.take p)) := by
  have h := T.out
  simp only [tableS, Bool.and_eq_true, List.all_eq_true, List.mem_range] at h
  intro k i hk hi
  have hs := (tabO_parts T.o).1
  have hkn : k < n := by
    by_cases hkn : k < n
    · exact hkn
    · unfold waits at hi
      rw [Array.getElem?_eq_none (by omega)] at hi
      cases hi
  have := h.2.1 p (by omega) k hkn
  rw [hk] at this
  simp only [Bool.not_true, Bool.false_or, List.all_eq_true] at this
  exact this i hi
theorem TabS.parts (T : TabS ops n ord cs qs f) {q : Nat} (hq : q ∈ qs) : Parts .any ops (ord.take q) := by
  have h := T.out
  simp only [tableS, Bool.and_eq_true, List.all_eq_true, List.mem_range] at h
  intro j hj hn i hi
  have hs := (tabO_parts T.o).1
  obtain ⟨o, ho⟩ := hj
  have hjn : j < n := by rw [← hs]; exact (Array.getElem?_eq_some_iff.1 ho).1
  have := h.2.2 q hq j hjn
  simp only [Bool.or_eq_true, List.contains_iff_mem, List.all_eq_true] at this
  rcases this with h | h
  · exact absurd h hn
  · exact anc_of f i (h i hi)
theorem wpS_begin {id : Nat} (q : Nat) (T : TabS ops n ord cs qs f) (hm : P.follows .mixedOrders = true) (hS : S w.drew) (h : TabS ops n ord cs qs f → S w.drew → wpPh P ops Q S n ord q 0 a w.drew) : Code.wp P (.region id ops true) Q a w := by
  refine wp_region_any hm ?_
  have h1 := (tabO_parts T.o).1
  have := wpAny_of_phase _ _ _ _ (h T hS)
  subst h1
  exact this
/-- The operation at place p is taken; it is wanted. -/
theorem tks0 (p i d : Nat) {q : Nat} {oi : Oper} (v : Value) (T : TabS ops n ord cs qs f) (hy : ∀ w, S w → (execOp a.eval oi).run P w = .ok (.value v) w) (hS : S w) (h : wpPh P ops Q S n ord q (p + 1) (setT a d v) w)
    (hp : (ord.take q)[p]? = some i) (hc : ¬ p ∈ cs) (hq : q ∈ qs) (hi : ops[i]? = some oi)
    (hg : (oi.dst == some d && Region.wanted oi (yielded ops a.tmps)) = true) (hQ : ∀ c a w, Q (.panic c) (a.put (some d) v) w → Q (.panic c) a w) : wpPh P ops Q S n ord q p a w := by
  obtain ⟨h1, h2, h3, h4, h5, h6⟩ := tabO_parts T.o
  have hp' : ord[p]? = some i := by
    rw [List.getElem?_take] at hp
    split at hp
    · exact hp
    · cases hp
  have hlt : p < n := by have := (List.getElem?_eq_some_iff.1 hp').1; omega
  simp only [Bool.and_eq_true, beq_iff_eq] at hg
  rw [← put_setT] at h
  unfold wpPh at h ⊢
  rw [show n - p = (n - (p + 1)) + 1 by omega]
  rw [← doneA_step hp'] at h
  exact wpAnyS_first hi (List.mem_of_getElem? hp) (T.parts hq) (Region.noSelect_spec h3) (by rw [hg.1]; exact hQ) _ _ _ _ (T.closed (by omega)) (Region.free_spec hi (h4 p i hp' hc).1) (by simpa using (h4 p i hp' hc).2) (Or.inl ⟨hg.2, hy⟩) hS (by rw [hg.1]; exact h)
/-- The operation at place p comes up alone. -/
theorem cls (p i : Nat) {q : Nat} {oi : Oper} (T : TabS ops n ord cs qs f) (hc : p ∈ cs) (hp : (ord.take q)[p]? = some i) (hi : ops[i]? = some oi)
    (h : ∀ K : Act → World → Prop, Shut (∀ a w, S w → (S w → wpPh P ops Q S n ord q (p + 1) a w) → K a w) → if Region.wanted oi (yielded ops a.tmps) = true then Oper.wp P oi a w K Q else K (a.put oi.dst undef) w) : wpPh P ops Q S n ord q p a w := by
  obtain ⟨h1, h2, h3, h4, h5, h6⟩ := tabO_parts T.o
  have hp' : ord[p]? = some i := by
    rw [List.getElem?_take] at hp
    split at hp
    · exact hp
    · cases hp
  have hlt := (h6 p i hc hp').1
  have hr := (h6 p i hc hp').2
  have hun : (doneA n (ord.take p)).getD i true = false := (mem_ready.1 (show i ∈ Region.ready .any ops (doneA n (ord.take p)) by rw [hr]; simp)).1
  have hl : left (ord.take q) (doneA n (ord.take p)) = true := left_mem (List.mem_of_getElem? hp) hun
  unfold wpPh
  rw [show n - p = (n - (p + 1)) + 1 by omega]
  refine ⟨fun h => absurd hl (by rw [h]; simp), fun _ => ⟨fun h => absurd hr (by rw [h]; simp), fun j hj => ?_⟩⟩
  rw [hr] at hj
  obtain rfl : j = i := by simpa using hj
  exact wpOp_step hi (fun K hK => h K (fun a w hS hW => hK a w ⟨hS, by rw [doneA_step hp']; exact hW hS⟩))
/-- A phase is over, the next one begins. -/
theorem wpS_next {S' : World → Prop} (q q' : Nat) (T : TabS ops n ord cs qs f) (hl : left (ord.take q) (doneA n (ord.take q)) = false) (hS : S' w) (h : S' w → wpPh P ops Q S' n ord q' q a w) : wpPh P ops Q S n ord q q a w := by
  have h := wpAny_of_phase _ _ _ _ (h hS)
  unfold wpPh
  revert h
  generalize n - q = m
  intro h
  cases m with
  | zero => exact h
  | succ m => exact ⟨fun _ => h, fun hh => absurd hh (by rw [hl]; simp)⟩
theorem wpS_end {q : Nat} (T : TabS ops n ord cs qs f) (h : Q .normal a w) : wpPh P ops Q S n ord q n a w := by
  obtain ⟨h1, h2, h3, h4, h5, h6⟩ := tabO_parts T.o
  unfold wpPh
  rw [Nat.sub_self]
  exact ⟨h5, h⟩
end

/-- 'tks0', what it yields and the state behind it found by themselves. -/
theorem tks {P : Program} {ops : Array Oper} {Q : Exit → Act → World → Prop} {S : World → Prop} {n f q : Nat} {ord cs qs : List Nat} {a a' : Act} {w : World} (p i d : Nat) {oi : Oper} {v : Value} (T : TabS ops n ord cs qs f) (hS : S w) (h : wpPh P ops Q S n ord q (p + 1) a' w)
    (hp : (ord.take q)[p]? = some i := by rfl) (hc : ¬ p ∈ cs := by decide) (hq : q ∈ qs := by decide)
    (hi : ops[i]? = some oi := by rfl)
    (hg : (oi.dst == some d && Region.wanted oi (yielded ops a.tmps)) = true := by kernel_rfl)
    (hy : ∀ w, S w → (execOp a.eval oi).run P w = .ok (.value v) w := by (intro w s; (try dsimp only at s); go_simp <;> with_reducible rfl))
    (ha : setT a d v = a' := by (conv => lhs; dsimp only [setT, List.toList_toArray, put0, putS]))
    (hQ : ∀ c a w, Q (.panic c) (a.put (some d) v) w → Q (.panic c) a w := by exact fun _ _ _ h => h) : wpPh P ops Q S n ord q p a w :=
  tks0 p i d v T hy hS (by rw [ha]; exact h) hp hc hq hi hg hQ

end Go.Proofs.YtlegmiaoablcgaaGreatDoor

/- A list of the call's own, and one element more put behind it. -/
namespace Go.Proofs.YtlegmiaoablcgaaGreatDoor
open Go.RowKit

/-- The list as a row of cells, with what its elements lead to. -/
theorem Ow.row {α : Type} {t : TypeId} {sz : Nat} {E : World → List Value → α → (Nat → Prop) → Prop} {w : World} {B M : Nat} {v : Value} {l : List α} (h : Ow t sz E w (In B M) v l) :
    ∃ (xs : List Value) (cs : Nat → List Value) (fs : Nat → Nat → Prop), w.ownsRow B t sz v l.length xs ∧ (∀ g, v.ownBlock = some g → g < M) ∧
      (∀ i x, l[i]? = some x → E w (cs i) x (fs i) ∧ (cs i).length = sz ∧ ∀ j u, (cs i)[j]? = some u → xs[i * sz + j]? = some u) ∧
      (∀ i b, i < l.length → fs i b → In B M b ∧ v.ownBlock ≠ some b) ∧ (∀ i j b, i < l.length → j < l.length → i ≠ j → fs i b → ¬ fs j b) := by
  rcases h with ⟨rfl, rfl⟩ | ⟨g, cap, cur, cs, fs, rfl, hh, h1, h2, h3, h4, h5, h6, h7⟩
  · exact ⟨[], fun _ => [], fun _ _ => False, ⟨by simp, .inl ⟨rfl, rfl⟩⟩, fun g hg => by simp [Value.ownBlock] at hg, by simp, by simp, by simp⟩
  · have hle : l.length * sz ≤ cur.size := by rw [h3]; exact Nat.mul_le_mul_right _ h1
    refine ⟨cur.toList.take (l.length * sz), cs, fs, ⟨by simp; omega, .inr ⟨g, cap, cur, rfl, h4.1, hh, h1, h2, h3, rfl⟩⟩, fun q hq => ?_, fun i x hx => ?_, fun i b hi hb => ⟨(h6 i b hi hb).1, ?_⟩, h7⟩
    · simp only [Value.ownBlock, Option.some.injEq] at hq
      subst hq
      exact h4.2
    · have hi : i < l.length := (List.getElem?_eq_some_iff.1 hx).1
      obtain ⟨e1, e2, e3⟩ := h5 i x hx
      refine ⟨e1, e2, fun j u hu => ?_⟩
      have hj : j < sz := by have := (List.getElem?_eq_some_iff.1 hu).1; omega
      have hb : i * sz + j < l.length * sz := by
        have := Nat.mul_le_mul_right sz (show i + 1 ≤ l.length by omega)
        rw [Nat.add_mul, Nat.one_mul] at this
        omega
      rw [List.getElem?_take, if_pos hb]
      simpa using e3 j u hu
    · simp only [Value.ownBlock, ne_eq, Option.some.injEq]
      exact fun e => (h6 i b hi hb).2 e.symm

/-- One element more: its cells stand behind the row, its footprint lies behind the list's. -/
theorem Ow.push {α : Type} {t : TypeId} {sz : Nat} {E : World → List Value → α → (Nat → Prop) → Prop} {w w' : World} {B M : Nat} {v v' : Value} {l : List α} (hE : Frames E) (h : Ow t sz E w (In B M) v l) (hM : M ≤ w.heap.size) (hBM : B ≤ M)
    (x : α) (c : List Value) (hc : c.length = sz) (he : E w c x (In M w.heap.size))
    (hr : ∀ xs, w.ownsRow B t sz v l.length xs → w'.ownsRow B t sz v' (l.length + 1) (xs ++ c)) (hg : w.grownBy w' v.ownBlock)
    (hn : ∀ g, v'.ownBlock = some g → v.ownBlock = some g ∨ w.heap.size ≤ g) : Ow t sz E w' (In B w'.heap.size) v' (l ++ [x]) := by
  obtain ⟨xs, cs, fs, r1, r2, r3, r4, r5⟩ := h.row
  have hlen := r1.1
  obtain ⟨k1, k2 | ⟨g, cap, cur, k3, k4, k5, k6, k7, k8, k9⟩⟩ := hr xs r1
  · exfalso
    have := k2.2
    omega
  · have hgl := lt_of_heap k5
    have hlw := hg.size
    have hgo : ∀ b, b < w.heap.size → v.ownBlock ≠ some b → w'.heap[b]? = w.heap[b]? := fun b hb hne => hg.block b hb fun e => hne e.symm
    refine .inr ⟨g, cap, cur, fun i => if i = l.length then c else cs i, fun i => if i = l.length then In M w.heap.size else fs i, ?_, k5, ?_, k7, k8, ⟨k4, hgl⟩, fun i y hy => ?_, fun i b hi hb => ?_, fun i j b hi hj hij hb hb' => ?_⟩
    · rw [k3]; simp
    · simpa using k6
    · have hxs : ∀ (m : Nat) (u : Value), (xs ++ c)[m]? = some u → cur[m]? = some u := by
        intro m u hu
        rw [← k9, List.getElem?_take] at hu
        split at hu
        · simpa using hu
        · cases hu
      by_cases hi : i = l.length
      · subst hi
        rw [List.getElem?_append_right (Nat.le_refl _)] at hy
        simp only [Nat.sub_self, List.getElem?_cons_zero, Option.some.injEq] at hy
        subst hy
        simp only [if_true]
        refine ⟨hE _ _ _ _ _ he fun b hb hlt => hgo b hlt fun e => ?_, hc, fun j u hu => hxs _ _ ?_⟩
        · have := r2 b e
          have := hb.1
          omega
        · rw [List.getElem?_append_right (by omega), hlen]
          simpa using hu
      · have hi' : i < l.length := by
          have := (List.getElem?_eq_some_iff.1 hy).1
          simp at this
          omega
        rw [List.getElem?_append_left hi'] at hy
        simp only [if_neg hi]
        obtain ⟨e1, e2, e3⟩ := r3 i y hy
        refine ⟨hE _ _ _ _ _ e1 fun b hb hlt => hgo b hlt (r4 i b hi' hb).2, e2, fun j u hu => hxs _ _ ?_⟩
        have h := e3 j u hu
        have hm : i * sz + j < xs.length := (List.getElem?_eq_some_iff.1 h).1
        rw [List.getElem?_append_left hm]
        exact h
    · simp only [List.length_append, List.length_cons, List.length_nil] at hi
      by_cases hil : i = l.length
      · simp only [if_pos hil] at hb
        refine ⟨⟨by have := hb.1; omega, by have := hb.2; omega⟩, fun e => ?_⟩
        subst e
        rcases hn b (by rw [k3]; rfl) with h | h
        · have := r2 b h
          have := hb.1
          omega
        · have := hb.2
          omega
      · simp only [if_neg hil] at hb
        have hi' : i < l.length := by omega
        obtain ⟨q1, q2⟩ := r4 i b hi' hb
        refine ⟨⟨q1.1, by have := q1.2; omega⟩, fun e => ?_⟩
        subst e
        rcases hn b (by rw [k3]; rfl) with h | h
        · exact q2 h
        · have := q1.2
          omega
    · simp only [List.length_append, List.length_cons, List.length_nil] at hi hj
      by_cases hil : i = l.length
      · have hjl : j ≠ l.length := fun e => hij (hil.trans e.symm)
        simp only [if_pos hil] at hb
        simp only [if_neg hjl] at hb'
        have := (r4 j b (by omega) hb').1.2
        have := hb.1
        omega
      · simp only [if_neg hil] at hb
        by_cases hjl : j = l.length
        · simp only [if_pos hjl] at hb'
          have := (r4 i b (by omega) hb).1.2
          have := hb'.1
          omega
        · simp only [if_neg hjl] at hb'
          exact r5 i j b (by omega) (by omega) hij hb hb'

end Go.Proofs.YtlegmiaoablcgaaGreatDoor

/- One element more put behind a list of the call's own: the operation. -/
namespace Go.Proofs.YtlegmiaoablcgaaGreatDoor
open Go.RowKit

section
variable {α : Type} {P : Program} {w : World} {e t : TypeId} {sz bytes B M : Nat} {E : World → List Value → α → (Nat → Prop) → Prop} {v : Value} {l : List α}
theorem run_push (hE : Frames E) (h : Ow e sz E w (In B M) v l) (hM : M ≤ w.heap.size) (hBM : B ≤ M) (ty : TypeId) {i : TypeInfo} {z : Value} (ht : P.underlying t = some (.slice e)) (hi : P.info? e = some i) (hz : i.zero = some z) (hsize : i.size = sz) (hby : i.bytes = bytes) (hzs : z.cells.size = sz) (hsz : 0 < sz)
    (x : α) (c : List Value) (hc : c.length = sz) (he : E w c x (In M w.heap.size)) (ad : Addr) (cc : Nat) (hcell : ∀ j u, c[j]? = some u → w.cell? (ad.add j) = some u) (h1 : ∀ u ∈ c, u.oneCell' = true) (hl : l.length + 1 ≤ maxLen) (hb : (l.length + 1) * bytes ≤ 140737488355328) :
    ∃ v' w', (Builtin.append_ #[t, t] ty #[v, .slice (some ad) 1 cc]).run P w = .ok v' w' ∧ Ow e sz E w' (In B w'.heap.size) v' (l ++ [x]) ∧ w.grownBy w' v.ownBlock ∧ (∀ g, v.ownBlock = some g → B ≤ g ∧ g < M) := by
  obtain ⟨xs, cs, fs, r1, r2, r3, r4, r5⟩ := h.row
  obtain ⟨v', w', hr, h2, h3, h4, h5⟩ := run_append_own_at (P := P) w B t ty e i z sz bytes ht hi hz hsize hby hzs hsz v l.length xs r1 ad 1 cc c (by omega) hcell h1 hl hb (by omega)
  refine ⟨v', w', hr, h.push hE hM hBM x c hc he (fun ys hys => ?_) h3 (fun g hg => ?_), h3, fun g hg => ⟨?_, r2 g hg⟩⟩
  · obtain ⟨k1, k2⟩ := hys
    obtain ⟨m1, m2⟩ := r1
    have e : ys = xs := by
      rcases k2 with ⟨k3, k4⟩ | ⟨g, cap, cur, k3, k4, k5, k6, k7, k8, k9⟩
      · rw [k4, Nat.zero_mul, List.length_eq_zero_iff] at k1
        rw [k4, Nat.zero_mul, List.length_eq_zero_iff] at m1
        rw [k1, m1]
      · rcases m2 with ⟨m3, m4⟩ | ⟨g', cap', cur', m3, m4, m5, m6, m7, m8, m9⟩
        · rw [m3] at k3
          cases k3
        · rw [m3] at k3
          simp only [Value.slice.injEq, Option.some.injEq, Addr.mk.injEq] at k3
          obtain ⟨⟨rfl, -⟩, -⟩ := k3
          rw [m5] at k5
          simp only [Option.some.injEq, Obj.cells.injEq] at k5
          obtain ⟨rfl, -⟩ := k5
          rw [← k9, ← m9]
    rw [e]
    exact h2
  · rcases h5 with h5 | h5
    · exact .inl (h5 ▸ hg)
    · rw [h5] at hg
      exact .inr (by simp only [Option.some.injEq] at hg; omega)
  · obtain ⟨m1, m2⟩ := r1
    rcases m2 with ⟨m3, m4⟩ | ⟨g', cap', cur', m3, m4, m5, m6, m7, m8, m9⟩
    · rw [m3] at hg
      simp [Value.ownBlock] at hg
    · rw [m3] at hg
      simp only [Value.ownBlock, Option.some.injEq] at hg
      omega
/-- The operation in a region that draws. -/
theorem wp_push {o : Oper} {a : Act} {K : Act → World → Prop} {Q : Exit → Act → World → Prop} (d : Nat) (hd : o.dst = some d) (s y : Operand)
    (ho : o.op = .call { callee := .builtin .append, args := #[s, y], argTypes := #[t, t] }) (hE : Frames E) (h : Ow e sz E w (In B M) v l) (hM : M ≤ w.heap.size) (hBM : B ≤ M) {i : TypeInfo} {z : Value} (ht : P.underlying t = some (.slice e)) (hi : P.info? e = some i) (hz : i.zero = some z) (hsize : i.size = sz) (hby : i.bytes = bytes) (hzs : z.cells.size = sz) (hsz : 0 < sz)
    (hs : a.eval s = v) (x : α) (c : List Value) (hc : c.length = sz) (he : E w c x (In M w.heap.size)) (ad : Addr) (cc : Nat) (hy : a.eval y = .slice (some ad) 1 cc) (hcell : ∀ j u, c[j]? = some u → w.cell? (ad.add j) = some u) (h1 : ∀ u ∈ c, u.oneCell' = true) (hl : l.length + 1 ≤ maxLen) (hb : (l.length + 1) * bytes ≤ 140737488355328)
    (k : ∀ v' w', Ow e sz E w' (In B w'.heap.size) v' (l ++ [x]) → w.grownBy w' v.ownBlock → (∀ g, v.ownBlock = some g → B ≤ g ∧ g < M) → K (a.put (some d) v') w') : o.wp P a w K Q := by
  obtain ⟨v', w', hr, h2, h3, h4⟩ := run_push (P := P) (t := t) hE h hM hBM o.type ht hi hz hsize hby hzs hsz x c hc he ad cc hcell h1 hl hb
  unfold Oper.wp execOp
  simp only [ho, resolve, invoke, builtin, Sem.run_bind, Sem.run_pure, Result.andThen_ok, List.map_toArray, List.map_cons, List.map_nil, hs, hy, hr]
  have := k v' w' h2 h3 h4
  rw [← hd] at this
  exact this
/-- The operation in a region that goes in the text's order. -/
theorem wpList_push {ops : Array Oper} {rest : List Oper} {o : Oper} {a : Act} {Q : Exit → Act → World → Prop} (hgd : o.guard = none) (s y : Operand)
    (ho : o.op = .call { callee := .builtin .append, args := #[s, y], argTypes := #[t, t] }) (hE : Frames E) (h : Ow e sz E w (In B M) v l) (hM : M ≤ w.heap.size) (hBM : B ≤ M) {i : TypeInfo} {z : Value} (ht : P.underlying t = some (.slice e)) (hi : P.info? e = some i) (hz : i.zero = some z) (hsize : i.size = sz) (hby : i.bytes = bytes) (hzs : z.cells.size = sz) (hsz : 0 < sz)
    (hs : a.eval s = v) (x : α) (c : List Value) (hc : c.length = sz) (he : E w c x (In M w.heap.size)) (ad : Addr) (cc : Nat) (hy : a.eval y = .slice (some ad) 1 cc) (hcell : ∀ j u, c[j]? = some u → w.cell? (ad.add j) = some u) (h1 : ∀ u ∈ c, u.oneCell' = true) (hl : l.length + 1 ≤ maxLen) (hb : (l.length + 1) * bytes ≤ 140737488355328)
    (k : ∀ v' w', Ow e sz E w' (In B w'.heap.size) v' (l ++ [x]) → w.grownBy w' v.ownBlock → (∀ g, v.ownBlock = some g → B ≤ g ∧ g < M) → wpList P ops Q rest (a.put o.dst v') w') : wpList P ops Q (o :: rest) a w := by
  refine wpList_plain hgd fun K hK => ?_
  obtain ⟨v', w', hr, h2, h3, h4⟩ := run_push (P := P) (t := t) hE h hM hBM o.type ht hi hz hsize hby hzs hsz x c hc he ad cc hcell h1 hl hb
  unfold Oper.wp execOp
  simp only [ho, resolve, invoke, builtin, Sem.run_bind, Sem.run_pure, Result.andThen_ok, List.map_toArray, List.map_cons, List.map_nil, hs, hy, hr]
  exact hK _ _ (k v' w' h2 h3 h4)
end
theorem ite_w {c : Bool} {A B : Prop} (hc : c = true) (h : A) : if c = true then A else B := by rw [if_pos hc]; exact h
/-- What is new by one element stands in its block. -/
theorem cells_new (w : World) (cs : Array Value) (t : TypeId) : ∀ j u, cs.toList[j]? = some u → (w.alloc (.cells cs t)).cell? ((⟨w.heap.size, 0, none⟩ : Addr).add j) = some u := by
  intro j u hu
  have h := box_new w (.cells cs t)
  rw [Addr.add_lit, Nat.zero_add, cell_of_row _ _ _ _ _ (0, 0) h]
  simpa using hu
/-- What lies below the list stays. -/
theorem grown_below {w0 w w' : World} {v : Value} {N B : Nat} (h0 : Below N w0 w) (hg : w.grownBy w' v.ownBlock) (hv : ∀ g, v.ownBlock = some g → B ≤ g) (hB : N ≤ B) (hN : N ≤ w.heap.size) : Below N w0 w' :=
  ⟨hg.os.trans h0.os, hg.tape.trans h0.tape, hg.output.trans h0.output, Nat.le_trans h0.size hg.size, fun k hk => (hg.block k (by omega) fun e => by have := hv k e.symm; omega).trans (h0.block k hk)⟩
theorem grown_at {w w' : World} {v : Value} {B g : Nat} {o : Obj} (hg : w.grownBy w' v.ownBlock) (hv : ∀ g, v.ownBlock = some g → B ≤ g) (h : w.heap[g]? = some o) (hB : g < B) : w'.heap[g]? = some o :=
  (hg.block g (lt_of_heap h) fun e => by have := hv g e.symm; omega).trans h

end Go.Proofs.YtlegmiaoablcgaaGreatDoor

/- Lines cut into tokens: what both sides want of lists and memory. -/
namespace Go.Proofs.YtlegmiaoablcgaaGreatDoor
open Go.RowKit
set_option linter.unusedVariables false
set_option linter.unusedSimpArgs false

theorem ld_cases (x : Int) : (ldB x = true ∧ (97 ≤ x ∧ x ≤ 122 ∨ 65 ≤ x ∧ x ≤ 90 ∨ 48 ≤ x ∧ x ≤ 57)) ∨ (ldB x = false ∧ (x < 48 ∨ 57 < x ∧ x < 65 ∨ 90 < x ∧ x < 97 ∨ 122 < x)) := by
  by_cases h : 97 ≤ x ∧ x ≤ 122 ∨ 65 ≤ x ∧ x ≤ 90 ∨ 48 ≤ x ∧ x ≤ 57
  · exact .inl ⟨by simpa [ldB] using h, h⟩
  · exact .inr ⟨by simp [ldB]; omega, by omega⟩
theorem tw_len {p : Int → Bool} {l : List Int} {i k : Nat} (hik : i ≤ k) (hk : k ≤ l.length) (h : ∀ j, i ≤ j → j < k → p (l.getD j 0) = true) (he : k < l.length → p (l.getD k 0) = false) : ((l.drop i).takeWhile p).length = k - i := by
  have : ∀ (n : Nat) (s : List Int), (∀ j, j < n → p (s.getD j 0) = true) → n ≤ s.length → (n < s.length → p (s.getD n 0) = false) → (s.takeWhile p).length = n := by
    intro n
    induction n with
    | zero =>
      intro s _ _ h3
      cases s with
      | nil => rfl
      | cons x s => have := h3 (by simp); simp at this; simp [this]
    | succ n ih =>
      intro s h1 h2 h3
      cases s with
      | nil => simp at h2
      | cons x s =>
        have hx := h1 0 (by omega)
        simp at hx
        have := ih s (fun j hj => by have := h1 (j + 1) (by omega); simpa using this) (by simpa using h2) (fun hj => by have := h3 (by simpa using hj); simpa using this)
        simp [hx, this]
  refine this (k - i) (l.drop i) (fun j hj => ?_) (by simp; omega) (fun hj => ?_)
  · have := h (i + j) (by omega) (by omega)
    simpa [List.getD, List.getElem?_drop] using this
  · simp at hj
    have := he (by omega)
    simp only [List.getD, List.getElem?_drop]
    rw [show i + (k - i) = k by omega]
    exact this
theorem take_tw {α : Type} (p : α → Bool) : ∀ s : List α, s.take (s.takeWhile p).length = s.takeWhile p
  | [] => rfl
  | x :: s => by
    by_cases h : p x = true
    · simp [h, take_tw p s]
    · simp [h]
theorem or_1 : ∀ n : Nat, n < 1 → bits BinOp.or IntKind.i64 (n : Int) 1 = ((n + 1 : Nat) : Int) := by decide
theorem or_2 : ∀ n : Nat, n < 2 → bits BinOp.or IntKind.i64 (n : Int) 2 = ((n + 2 : Nat) : Int) := by decide
theorem or_4 : ∀ n : Nat, n < 4 → bits BinOp.or IntKind.i64 (n : Int) 4 = ((n + 4 : Nat) : Int) := by decide
theorem or_8 : ∀ n : Nat, n < 8 → bits BinOp.or IntKind.i64 (n : Int) 8 = ((n + 8 : Nat) : Int) := by decide
theorem or_16 : ∀ n : Nat, n < 16 → bits BinOp.or IntKind.i64 (n : Int) 16 = ((n + 16 : Nat) : Int) := by decide
theorem fl_hit {ls : List Int} {x y v n : Int} {q : List Int} (h : y = x) : flagsM (x :: ls) v n (y :: q) = flagsM ls (v * 2) (n + v) q := by rw [flagsM, if_pos h]
theorem fl_miss {ls : List Int} {x y v n : Int} {q : List Int} (h : y ≠ x) : flagsM (x :: ls) v n (y :: q) = flagsM ls (v * 2) n (y :: q) := by rw [flagsM, if_neg h]
theorem fl_end {ls : List Int} {x v n : Int} : flagsM (x :: ls) v n [] = flagsM ls (v * 2) n [] := by rw [flagsM]
theorem ite_w2 {c : Bool} {A B : Prop} (hc : c = true) (h : A) : if c = true then A else B := by rw [if_pos hc]; exact h
theorem textM_cons (x : Int) (r : List Int) : textM (x :: r) = (if x = 34 then some ([], r) else if x = 92 then (match r with
      | y :: q => if y = 34 ∨ y = 92 then (textM q).map fun p => (y :: p.1, p.2) else none
      | [] => none) else (textM r).map fun p => (x :: p.1, p.2)) := by
  cases r with
  | nil => simp only [textM]
  | cons y q => simp only [textM]
theorem tx_one {y : Int} {r : List Int} (h1 : y ≠ 34) (h2 : y ≠ 92) : textM (y :: r) = (textM r).map fun p => (y :: p.1, p.2) := by rw [textM_cons, if_neg h1, if_neg h2]
theorem tx_esc {z : Int} {r : List Int} (h : z = 34 ∨ z = 92) : textM (92 :: z :: r) = (textM r).map fun p => (z :: p.1, p.2) := by rw [textM_cons, if_neg (by decide), if_pos rfl]; simp only [if_pos h]
theorem tx_no {z : Int} {r : List Int} (h : ¬ (z = 34 ∨ z = 92)) : textM (92 :: z :: r) = none := by rw [textM_cons, if_neg (by decide), if_pos rfl]; simp only [if_neg h]
theorem flagsM_suf : ∀ (ls : List Int) (v n : Int) (r : List Int), (flagsM ls v n r).2 <:+ r
  | [], _, _, r => List.suffix_refl r
  | x :: ls, v, n, [] => by rw [fl_end]; exact flagsM_suf ls _ _ _
  | x :: ls, v, n, y :: q => by
    by_cases h : y = x
    · rw [fl_hit h]; exact (flagsM_suf ls _ _ q).trans (List.suffix_cons y q)
    · rw [fl_miss h]; exact flagsM_suf ls _ _ _
theorem textM_suf : ∀ (n : Nat) (r : List Int), r.length ≤ n → ∀ p, textM r = some p → p.2 <:+ r
  | _, [], _, p, h => by simp [textM] at h
  | 0, _ :: _, hn, _, _ => by simp at hn
  | n + 1, x :: r, hn, p, h => by
    rw [textM_cons] at h
    split at h
    · cases h; exact List.suffix_cons x r
    · split at h
      · cases r with
        | nil => simp at h
        | cons y q =>
          simp only at h
          split at h
          · cases hq : textM q with
            | none => rw [hq] at h; cases h
            | some p' =>
              rw [hq] at h
              cases h
              exact ((textM_suf n q (by simp at hn; omega) p' hq).trans (List.suffix_cons y q)).trans (List.suffix_cons x _)
          · cases h
      · cases hq : textM r with
        | none => rw [hq] at h; cases h
        | some p' =>
          rw [hq] at h
          cases h
          exact (textM_suf n r (by simpa using hn) p' hq).trans (List.suffix_cons x _)
theorem oneM_suf {i : Int} {s : List Int} {p : TokD × List Int} (h : oneM i s = some p) : p.2 <:+ s ∧ p.1.p = i := by
  cases s with
  | nil => simp [oneM] at h
  | cons x r =>
    simp only [oneM] at h
    split at h
    · split at h
      · rename_i y q hq
        split at h
        · cases h
          have := flagsM_suf lettersM 1 0 r
          rw [hq] at this
          exact ⟨((List.suffix_cons y q).trans this).trans (List.suffix_cons x r), rfl⟩
        · cases h
      · cases h
    · split at h
      · split at h
        · rename_i p' hp
          split at h
          · cases h
            exact ⟨(textM_suf r.length r (Nat.le_refl _) p' hp).trans (List.suffix_cons x r), rfl⟩
          · cases h
        · cases h
      · split at h
        · cases h
          exact ⟨List.dropWhile_suffix _, rfl⟩
        · split at h
          · cases h; exact ⟨List.dropWhile_suffix _, rfl⟩
          · split at h
            · cases h; exact ⟨List.dropWhile_suffix _, rfl⟩
            · cases h
def preM (ts : List TokD) : Except Int (List TokD) → Except Int (List TokD)
  | .ok rs => .ok (ts ++ rs)
  | .error e => .error e
theorem oneM_less {i : Int} {s : List Int} {p : TokD × List Int} (h : oneM i s = some p) : p.2.length < s.length := by
  cases s with
  | nil => simp [oneM] at h
  | cons x r =>
    simp only [oneM] at h
    split at h
    · split at h
      · rename_i y q hq
        split at h
        · cases h
          have := (flagsM_suf lettersM 1 0 r).length_le
          rw [hq] at this
          simp at this ⊢
          omega
        · cases h
      · cases h
    · split at h
      · split at h
        · rename_i p' hp
          split at h
          · cases h
            have := (textM_suf r.length r (Nat.le_refl _) p' hp).length_le
            simp at this ⊢
            omega
          · cases h
        · cases h
      · have key : 0 < ((x :: r).takeWhile ldB).length → ((x :: r).dropWhile ldB).length < (x :: r).length := by
          intro h0
          have h1 : ((x :: r).takeWhile ldB).length + ((x :: r).dropWhile ldB).length = (x :: r).length := by rw [← List.length_append, List.takeWhile_append_dropWhile]
          omega
        split at h
        · rename_i n hn
          cases h
          refine key ?_
          rw [← (numM_some.1 hn).2]
          exact List.length_pos_iff.2 (digB_ne n)
        · split at h
          · rename_i hb
            cases h
            exact key (nameB_len hb).1
          · split at h
            · rename_i hg
              cases h
              refine key ?_
              unfold greatB at hg
              simp only [Bool.and_eq_true, decide_eq_true_eq] at hg
              exact hg.2
            · cases h
theorem preM_nil (r : Except Int (List TokD)) : preM [] r = r := by cases r <;> rfl
theorem preM_snoc (ts : List TokD) (t : TokD) (r : Except Int (List TokD)) : preM (ts ++ [t]) r = preM ts (match r with | .ok rs => .ok (t :: rs) | .error e => .error e) := by cases r <;> simp [preM]
/-- A row of bytes in blocks of a set. -/
def RB (w : World) (S : Nat → Prop) (v : Value) (l : List Int) : Prop := Oct l ∧ w.ownsRow 0 5 1 v l.length (vals l) ∧ ∀ g, v.ownBlock = some g → S g
theorem Row.rb {w : World} {B T : Nat} {v : Value} {l : List Int} (h : Row w B T v l) : RB w (In B T) v l :=
  ⟨h.1, (h.wide (B' := 0) (T' := T) (Nat.zero_le _) (Nat.le_refl _)).2.1, fun g hg => ⟨(h.2.1.lt g hg).1, h.2.2 g hg⟩⟩
theorem RB.bs {w : World} {S : Nat → Prop} {v : Value} {l : List Int} (h : RB w S v l) : Bs w v l := (own_of_row h.1 rfl h.2.1).elim fun _ h => h.2.bs
theorem RB.frame {w w' : World} {S : Nat → Prop} {v : Value} {l : List Int} (h : RB w S v l) (hw : ∀ b, S b → b < w.heap.size → w'.heap[b]? = w.heap[b]?) : RB w' S v l := by
  obtain ⟨h0, ⟨h1, h2⟩, h3⟩ := h
  refine ⟨h0, ⟨h1, ?_⟩, h3⟩
  rcases h2 with h2 | ⟨g, cap, cur, hv, hg, hh, r⟩
  · exact .inl h2
  · exact .inr ⟨g, cap, cur, hv, hg, (hw g (h3 g (by rw [hv]; rfl)) (lt_of_heap hh)).trans hh, r⟩
theorem one_tok {a : Option Addr} {n c : Nat} {i j k : Int} : ∀ u ∈ [Value.int .i64 i, .int .i64 j, .int .i64 k, .slice a n c], Value.oneCell' u = true := by
  intro u hu
  simp only [List.mem_cons, List.not_mem_nil, or_false] at hu
  rcases hu with rfl | rfl | rfl | rfl <;> rfl
section
variable {w w1 w2 : World} {g i : Nat} {x : Value}
theorem gb_refl (w : World) (g : Nat) : w.grownBy w (some g) := World.grownBy.refl _ _
theorem gb_set (h : w.grownBy w1 (some g)) : w.grownBy (w1.setCell ⟨g, i, none⟩ x) (some g) := ⟨h.os, h.tape, h.output, by rw [box_size]; exact h.size, fun k hk hne => (Below.heap_setCell _ _ _ _ (show k ≠ g from fun e => hne (by rw [e]))).trans (h.block k hk hne)⟩
theorem gb_below (h : w.grownBy w1 (some g)) (hb : Below w1.heap.size w1 w2) : w.grownBy w2 (some g) := ⟨hb.os.trans h.os, hb.tape.trans h.tape, hb.output.trans h.output, Nat.le_trans h.size hb.size, fun k hk hne => (hb.block k (Nat.lt_of_lt_of_le hk h.size)).trans (h.block k hk hne)⟩
theorem gb_trans (h : w.grownBy w1 (some g)) (h2 : w1.grownBy w2 (some g)) : w.grownBy w2 (some g) := ⟨h2.os.trans h.os, h2.tape.trans h.tape, h2.output.trans h.output, Nat.le_trans h.size h2.size, fun k hk hne => (h2.block k (Nat.lt_of_lt_of_le hk h.size) hne).trans (h.block k hk hne)⟩
theorem rb_gb {S : Nat → Prop} {v : Value} {l : List Int} (h : RB w S v l) (hg : w.grownBy w1 (some g)) (hS : ¬ S g) : RB w1 S v l := h.frame fun b hb hlt => hg.block b hlt fun e => hS (by cases e; exact hb)
end
/-- All old blocks but the parser's and the command's are as they were. -/
structure Gr2 (w w' : World) (g gc : Nat) : Prop where
  os : w'.os = w.os
  tape : w'.tape = w.tape
  output : w'.output = w.output
  size : w.heap.size ≤ w'.heap.size
  block : ∀ k, k < w.heap.size → k ≠ g → k ≠ gc → w'.heap[k]? = w.heap[k]?
section
variable {w w1 w2 : World} {g gc i : Nat} {x : Value}
theorem Gr2.refl (w : World) (g gc : Nat) : Gr2 w w g gc := ⟨rfl, rfl, rfl, Nat.le_refl _, fun _ _ _ _ => rfl⟩
theorem Gr2.gb (h : Gr2 w w1 g gc) (h2 : w1.grownBy w2 (some g)) : Gr2 w w2 g gc := ⟨h2.os.trans h.os, h2.tape.trans h.tape, h2.output.trans h.output, Nat.le_trans h.size h2.size, fun k hk h3 h4 => (h2.block k (Nat.lt_of_lt_of_le hk h.size) (fun e => h3 (by cases e; rfl))).trans (h.block k hk h3 h4)⟩
theorem Gr2.setC (h : Gr2 w w1 g gc) : Gr2 w (w1.setCell ⟨gc, i, none⟩ x) g gc := ⟨h.os, h.tape, h.output, by rw [box_size]; exact h.size, fun k hk h3 h4 => (Below.heap_setCell _ _ _ _ (show k ≠ gc from h4)).trans (h.block k hk h3 h4)⟩
theorem Gr2.setP (h : Gr2 w w1 g gc) : Gr2 w (w1.setCell ⟨g, i, none⟩ x) g gc := ⟨h.os, h.tape, h.output, by rw [box_size]; exact h.size, fun k hk h3 h4 => (Below.heap_setCell _ _ _ _ (show k ≠ g from h3)).trans (h.block k hk h3 h4)⟩
theorem Gr2.below (h : Gr2 w w1 g gc) (hb : Below w1.heap.size w1 w2) : Gr2 w w2 g gc := ⟨hb.os.trans h.os, hb.tape.trans h.tape, hb.output.trans h.output, Nat.le_trans h.size hb.size, fun k hk h3 h4 => (hb.block k (Nat.lt_of_lt_of_le hk h.size)).trans (h.block k hk h3 h4)⟩
theorem rb_setC {S : Nat → Prop} {v : Value} {l : List Int} (h : RB w S v l) (hS : ¬ S gc) : RB (w.setCell ⟨gc, i, none⟩ x) S v l := h.frame fun b hb _ => Below.heap_setCell _ _ _ _ (show b ≠ gc from fun e => hS (e ▸ hb))
end
theorem take_mem {e k least : Int} {ts : List TokD} {p : TokD × List TokD} (h : takeM e k least ts = .ok p) : (∀ t ∈ p.2, t ∈ ts) ∧ p.1 ∈ ts := by
  cases ts with
  | nil => simp [takeM] at h
  | cons t r =>
    simp only [takeM] at h
    split at h
    · cases h
      exact ⟨fun t ht => by simp [ht], by simp⟩
    · cases h
theorem kindM_lt {ts : List TokD} {k : Nat} (h : kindM ts = some k) : k < 10 := by
  unfold kindM at h
  simpa using List.mem_of_find?_eq_some h

end Go.Proofs.YtlegmiaoablcgaaGreatDoor

/- What tokens may be, on lists. -/
namespace Go.Proofs.YtlegmiaoablcgaaGreatDoor
open Go.RowKit

/-- A token as a line may have it. -/
def OkT (t : TokD) : Prop := 1 ≤ t.k ∧ t.k ≤ 5 ∧ 0 ≤ t.n ∧ t.n ≤ 1000000 ∧ t.tx.length ≤ 2000 ∧ Oct t.tx ∧ (t.k = 3 ∨ t.k = 4 → t.tx = [])
def capF : List Int → Int → Int
  | [], _ => 0
  | _ :: ls, v => v + capF ls (v * 2)
theorem flagsM_bd : ∀ (ls : List Int) (v n : Int) (r : List Int), 0 ≤ v → 0 ≤ capF ls v ∧ n ≤ (flagsM ls v n r).1 ∧ (flagsM ls v n r).1 ≤ n + capF ls v
  | [], v, n, r, h => by simp [flagsM, capF]
  | x :: ls, v, n, [], h => by
    have := flagsM_bd ls (v * 2) n [] (by omega)
    simp only [flagsM, capF]
    omega
  | x :: ls, v, n, y :: q, h => by
    have h1 := flagsM_bd ls (v * 2) (n + v) q (by omega)
    have h2 := flagsM_bd ls (v * 2) n (y :: q) (by omega)
    simp only [flagsM, capF]
    split <;> omega
theorem textM_oct : ∀ (n : Nat) (r : List Int), r.length ≤ n → Oct r → ∀ p, textM r = some p → Oct p.1 ∧ Oct p.2
  | _, [], _, _, p, h => by simp [textM] at h
  | 0, _ :: _, hn, _, _, _ => by simp at hn
  | n + 1, x :: r, hn, ho, p, h => by
    have hr : Oct r := fun z hz => ho z (by simp [hz])
    have hx : 0 ≤ x ∧ x ≤ 255 := ho x (by simp)
    rw [textM.eq_def] at h
    simp only at h
    split at h
    · cases h; exact ⟨oct_nil, hr⟩
    · split at h
      · cases r with
        | nil => simp at h
        | cons y q =>
          simp only at h
          split at h
          · cases hq : textM q with
            | none => rw [hq] at h; cases h
            | some p' =>
              rw [hq] at h
              cases h
              obtain ⟨a, b⟩ := textM_oct n q (by simp at hn; omega) (fun z hz => hr z (by simp [hz])) p' hq
              refine ⟨fun z hz => ?_, b⟩
              rcases List.mem_cons.1 hz with rfl | hz
              · exact hr z (by simp)
              · exact a z hz
          · cases h
      · cases hq : textM r with
        | none => rw [hq] at h; cases h
        | some p' =>
          rw [hq] at h
          cases h
          obtain ⟨a, b⟩ := textM_oct n r (by simpa using hn) hr p' hq
          refine ⟨fun z hz => ?_, b⟩
          rcases List.mem_cons.1 hz with rfl | hz
          · exact hx
          · exact a z hz
theorem oneM_ok {i : Int} {s : List Int} {p : TokD × List Int} (h : oneM i s = some p) (ho : Oct s) (hs : s.length ≤ 2000) : OkT p.1 := by
  have htw : (s.takeWhile ldB).length ≤ 2000 := Nat.le_trans (List.takeWhile_sublist _).length_le hs
  have hto : Oct (s.takeWhile ldB) := fun x hx => ho x ((List.takeWhile_sublist _).subset hx)
  cases s with
  | nil => simp [oneM] at h
  | cons x r =>
    have hr : Oct r := fun z hz => ho z (by simp [hz])
    simp only [oneM] at h
    split at h
    · split at h
      · split at h
        · cases h
          have := flagsM_bd lettersM 1 0 r (by omega)
          rw [show capF lettersM 1 = 31 by decide] at this
          exact ⟨by simp, by simp, by simp; omega, by simp; omega, by simp, oct_nil, fun _ => rfl⟩
        · cases h
      · cases h
    · split at h
      · split at h
        · rename_i p' hp
          split at h
          · rename_i hb
            cases h
            unfold textB at hb
            simp only [Bool.and_eq_true, decide_eq_true_eq] at hb
            exact ⟨by simp, by simp, by simp, by simp, by simp only; omega, (textM_oct r.length r (Nat.le_refl _) hr p' hp).1, by simp⟩
          · cases h
        · cases h
      · split at h
        · rename_i n hn
          cases h
          have := (numM_some.1 hn).1
          exact ⟨by simp, by simp, by simp, by simp only; omega, by simp, oct_nil, fun _ => rfl⟩
        · split at h
          · cases h; exact ⟨by simp, by simp, by simp, by simp, htw, hto, by simp⟩
          · split at h
            · cases h; exact ⟨by simp, by simp, by simp, by simp, htw, hto, by simp⟩
            · cases h

end Go.Proofs.YtlegmiaoablcgaaGreatDoor

/- Tokens of package impl in memory; its reader of lines. -/
namespace Go.Proofs.YtlegmiaoablcgaaGreatDoor
open Go.RowKit

theorem tab4 {w : World} {g : Nat} {t : TypeId} {c0 c1 c2 c3 : Value} (h : w.heap[g]? = some (.cells #[c0, c1, c2, c3] t (0, 0))) : w.cell? ⟨g, 0, none⟩ = some c0 ∧ w.cell? ⟨g, 1, none⟩ = some c1 ∧ w.cell? ⟨g, 2, none⟩ = some c2 ∧ w.cell? ⟨g, 3, none⟩ = some c3 ∧ (∀ i, w.frozen? ⟨g, i, none⟩ = false) ∧ g < w.heap.size :=
  let ⟨a, b, c, d⟩ := tx4 h; ⟨a, b, c, d, (box8z h).1, (box8z h).2⟩
/-- The number that package impl gives a token's kind. -/
def sortM (k : Int) : Int := if k = 3 then 0 else if k = 2 then 1 else if k = 1 then 2 else if k = 4 then 3 else 4
theorem sort_eq {a b : Int} (ha : 1 ≤ a ∧ a ≤ 5) (hb : 1 ≤ b ∧ b ≤ 5) : (sortM a = sortM b) = (a = b) := by
  unfold sortM
  apply propext
  constructor
  · intro h
    split at h <;> split at h <;> (repeat' split at h) <;> omega
  · rintro rfl; rfl
/-- A token's bytes: a text is the call's own, all else the line's (w0: the world in which the line lies). -/
def TX (w0 w : World) (S : Nat → Prop) (v : Value) (t : TokD) : Prop := (t.k = 5 → RB w S v t.tx) ∧ (t.k ≠ 5 → ∀ w', Below w0.heap.size w0 w' → Bs w' v t.tx)
def TokI (w0 : World) (w : World) (c : List Value) (t : TokD) (S : Nat → Prop) : Prop := ∃ a n k, c = [.int .i64 (sortM t.k), .int .i64 t.p, .int .i64 t.n, .slice a n k] ∧ TX w0 w S (.slice a n k) t
section
variable {w0 w w' : World} {S S' : Nat → Prop} {v : Value} {t : TokD} {ts : List TokD}
theorem TX.frame (h : TX w0 w S v t) (hw : ∀ b, S b → b < w.heap.size → w'.heap[b]? = w.heap[b]?) : TX w0 w' S v t := ⟨fun e => (h.1 e).frame hw, h.2⟩
theorem TX.mono (h : TX w0 w S v t) (hS : ∀ b, S b → S' b) : TX w0 w S' v t := ⟨fun e => ⟨(h.1 e).1, (h.1 e).2.1, fun g hg => hS g ((h.1 e).2.2 g hg)⟩, h.2⟩
theorem framesTokI (w0 : World) : Frames (TokI w0) := fun _ _ _ _ _ h hw => let ⟨a, n, k, h0, h1⟩ := h; ⟨a, n, k, h0, h1.frame hw⟩
abbrev ToksI (w0 : World) := Ow 72 4 (TokI w0)
/-- Tokens that are read: from any place of a block on. -/
def TR (w0 w : World) (S : Nat → Prop) (v : Value) (ts : List TokD) : Prop :=
  ∃ (a : Option Addr) (cap : Nat) (cs : Nat → List Value), v = .slice a ts.length cap ∧ ts.length ≤ cap ∧ cap ≤ 9223372036854775807 ∧ (∀ i t, ts[i]? = some t → TokI w0 w (cs i) t S) ∧
    (0 < ts.length → ∃ b off, a = some ⟨b, off, none⟩ ∧ b < w.heap.size ∧ S b ∧ ∀ i j u, i < ts.length → (cs i)[j]? = some u → w.cell? ⟨b, off + i * 4 + j, none⟩ = some u)
theorem cell_same {b o : Nat} (h : w'.heap[b]? = w.heap[b]?) : w'.cell? ⟨b, o, none⟩ = w.cell? ⟨b, o, none⟩ := by unfold World.cell?; rw [h]
theorem TR.of (h : ToksI w0 w S v ts) : TR w0 w S v ts := by
  rcases h with ⟨rfl, rfl⟩ | ⟨g, cap, cur, cs, fs, hv, hh, h1, h2, h3, h4, h5, h6, h7⟩
  · exact ⟨none, 0, fun _ => [], rfl, by simp, by simp, by simp, by simp⟩
  · unfold maxLen at h2
    refine ⟨some ⟨g, 0, none⟩, cap, cs, hv, h1, by omega, fun i t ht => ?_, fun _ => ⟨g, 0, rfl, lt_of_heap hh, h4, fun i j u hi hu => ?_⟩⟩
    · obtain ⟨a, n, k, e, hx⟩ := (h5 i t ht).1
      have hi : i < ts.length := (List.getElem?_eq_some_iff.1 ht).1
      exact ⟨a, n, k, e, hx.mono fun b hb => (h6 i b hi hb).1⟩
    · rw [Nat.zero_add, cell_of_row w g _ cur _ (0, 0) hh]
      exact (h5 i ts[i] (List.getElem?_eq_getElem hi)).2.2 j u hu
theorem TR.frame (h : TR w0 w S v ts) (hs : w.heap.size ≤ w'.heap.size) (hw : ∀ b, S b → b < w.heap.size → w'.heap[b]? = w.heap[b]?) : TR w0 w' S v ts := by
  obtain ⟨a, cap, cs, hv, h1, h2, h4, h5⟩ := h
  refine ⟨a, cap, cs, hv, h1, h2, fun i t ht => framesTokI w0 _ _ _ _ _ (h4 i t ht) hw, fun hp => ?_⟩
  obtain ⟨b, off, e, hl, hS, hc⟩ := h5 hp
  exact ⟨b, off, e, by omega, hS, fun i j u hi hu => (cell_same (hw b hS hl)).trans (hc i j u hi hu)⟩
theorem TR.below (h : TR w0 w S v ts) (hb : Below w.heap.size w w') : TR w0 w' S v ts := h.frame hb.size fun b _ hl => hb.block b hl
theorem TR.gb {g : Nat} (h : TR w0 w S v ts) (hg : w.grownBy w' (some g)) (hS : ¬ S g) : TR w0 w' S v ts := h.frame hg.size fun b hb hl => hg.block b hl fun e => hS (by cases e; exact hb)
theorem TR.form (h : TR w0 w S v ts) : ∃ a cap, v = .slice a ts.length cap ∧ ts.length ≤ cap ∧ cap ≤ 9223372036854775807 := let ⟨a, cap, _, hv, h1, h2, _⟩ := h; ⟨a, cap, hv, h1, h2⟩
/-- The first of the tokens, and the others. -/
theorem TR.head (h : TR w0 w S v (t :: ts)) : ∃ b off cap a n k, v = .slice (some ⟨b, off, none⟩) (ts.length + 1) cap ∧ ts.length + 1 ≤ cap ∧ cap ≤ 9223372036854775807 ∧ b < w.heap.size ∧ S b ∧
    w.cell? ⟨b, off, none⟩ = some (.int .i64 (sortM t.k)) ∧ w.cell? ⟨b, off + 1, none⟩ = some (.int .i64 t.p) ∧ w.cell? ⟨b, off + 2, none⟩ = some (.int .i64 t.n) ∧ w.cell? ⟨b, off + 3, none⟩ = some (.slice a n k) ∧ TX w0 w S (.slice a n k) t ∧
    TR w0 w S (.slice (some ⟨b, off + 4, none⟩) ts.length (cap - 1)) ts ∧ (ts.length = 0 → TR w0 w S (.slice (some ⟨b, off, none⟩) ts.length (cap - 1)) ts) := by
  obtain ⟨a, cap, cs, hv, h1, h2, h4, h5⟩ := h
  simp only [List.length_cons] at hv h1 h5
  obtain ⟨b, off, rfl, hl, hS, hc⟩ := h5 (by omega)
  obtain ⟨xa, xn, xk, hx, hX⟩ := h4 0 t rfl
  have c0 := fun j u hu => hc 0 j u (by omega) hu
  rw [hx] at c0
  refine ⟨b, off, cap, xa, xn, xk, hv, h1, h2, hl, hS, by simpa using c0 0 _ rfl, by simpa using c0 1 _ rfl, by simpa using c0 2 _ rfl, by simpa using c0 3 _ rfl, hX, ?_, ?_⟩
  · refine ⟨some ⟨b, off + 4, none⟩, cap - 1, fun i => cs (i + 1), rfl, by omega, by omega, fun i t' ht => h4 (i + 1) t' (by simpa using ht), fun _ => ⟨b, off + 4, rfl, hl, hS, fun i j u hi hu => ?_⟩⟩
    have := hc (i + 1) j u (by omega) hu
    rwa [show off + (i + 1) * 4 + j = off + 4 + i * 4 + j by omega] at this
  · intro h0
    have : ts = [] := List.length_eq_zero_iff.1 h0
    subst this
    exact ⟨some ⟨b, off, none⟩, cap - 1, fun _ => [], rfl, by simp, by omega, by simp, by simp⟩
end
theorem infoTokI : (Tryz.prog.info? 72).map (fun i => (i.zero, i.size, i.bytes)) = some (some (.agg #[.int .i64 0, .int .i64 0, .int .i64 0, .slice none 0 0]), 4, 48) := by kernel_rfl
theorem toki_form {w0 w : World} {S : Nat → Prop} {v : Value} {ts : List TokD} (h : ToksI w0 w S v ts) : ∃ a n c, v = .slice a n c := by
  rcases h with ⟨h, -⟩ | ⟨g, cap, cur, cs, fs, h, -⟩
  · exact ⟨_, _, _, h⟩
  · exact ⟨_, _, _, h⟩

/-- A token of a kind is taken. -/
def nextM (e k : Int) : List TokD → Except Int (TokD × List TokD)
  | [] => .error e
  | t :: r => if t.k = k then .ok (t, r) else .error t.p
/-- The reader's variable. -/
def LR (w : World) (g : Nat) (lv tv : Value) (cd pl : Int) : Prop := w.heap[g]? = some (.cells #[lv, tv, .int .i64 cd, .int .i64 pl] 56 (0, 0))
/-- Where the reader stands. -/
structure Rs (w0 w : World) (g : Nat) (S : Nat → Prop) (lv tv : Value) (ts : List TokD) : Prop where
  lr : LR w g lv tv 0 0
  toks : TR w0 w S tv ts
  bel : Below w0.heap.size w0 w
theorem Rs.below {w0 w w' : World} {g : Nat} {S : Nat → Prop} {lv tv : Value} {ts : List TokD} (h : Rs w0 w g S lv tv ts) (hb : Below w.heap.size w w') : Rs w0 w' g S lv tv ts := ⟨box_below hb h.lr, h.toks.below hb, Below.step h.bel hb⟩
/-- The reader has given up: why and where. -/
def Bad (w' : World) (g : Nat) (cd p : Int) : Prop := ∃ lv tv, LR w' g lv tv cd p

end Go.Proofs.YtlegmiaoablcgaaGreatDoor

/- What slices.IndexFunc and slices.ContainsFunc do of bytes, whatever function is handed in. -/
namespace Go.Proofs.YtlegmiaoablcgaaGreatDoor
open Go.RowKit Go.Shelf
set_option maxRecDepth 100000

set_option maxHeartbeats 400000 in
theorem indexFuncB (g : Nat) (lb : Array Value) (p : Int → Bool) (v : Value) (l : List Int) (w : World) (hv : Bs w v l) (eg : ∀ args w, (callFunc g args).run Tryz.prog w = .ok (.enter g args) w)
    (hp : ∀ x, 0 ≤ x → x ≤ 255 → Calls Tryz.prog g (#[.int .u8 x] ++ lb) w fun e w' => e = .returned (.bool (p x)) ∧ w' = w) :
    Calls Tryz.prog 74 #[v, .func (.func g) #[] lb] w fun e w' => e = .returned (.int .i64 (firstI p l)) ∧ w' = w := by
  obtain ⟨ho, a, cap, rfl, hlc, hcm, hnil, hcells⟩ := hv
  unfold maxLen at hcm
  go_enter Tryz.func74, Tryz.ntmps74
  go_wp2
  go_loop [5, 8] (fun _ i => ∃ k : Nat, k ≤ l.length ∧ i = .int .i64 k ∧ Hid (∀ j, j < k → p (l.getD j 0) = false)) (fun _ i => l.length - (intOf i).toNat)
  case atStart => exact ⟨0, Nat.zero_le _, rfl, fun j hj => absurd hj (Nat.not_lt_zero _)⟩
  case round =>
    obtain ⟨k, hk, rfl, hA⟩ := hrel
    by_cases hlt : k < l.length
    · obtain ⟨b, off, rfl, hlb, hc⟩ := hcells (by omega)
      have hx := hc k hlt
      have hbx := oct_get ho k
      generalize hy : l.getD k 0 = x at hx hbx
      have HX : Hid (l.getD k 0 = x) := hy
      clear hy hc hcells
      have hcall := hp x hbx.1 hbx.2
      clear hp
      cases hq : p x with
      | true =>
        rw [hq] at hcall
        go_wp2_with (go_at_fn g; refine hcall.mono ?_; rintro e w' ⟨rfl, rfl⟩)
        go_ret
        exact ⟨ret_i (firstI_hit hlt (by rw [HX.out]; exact hq) hA.out).symm, rfl⟩
      | false =>
        rw [hq] at hcall
        go_wp2_with (go_at_fn g; refine hcall.mono ?_; rintro e w' ⟨rfl, rfl⟩)
        go_round
        case rel =>
          refine ⟨k + 1, by omega, by go_num, (show Hid _ from fun j hj => ?_)⟩
          by_cases e : j = k
          · subst e; rw [HX.out]; exact hq
          · exact hA.out j (by omega)
        case measure => simp [intOf]; omega
    · obtain rfl : k = l.length := by omega
      go_wp2
      go_ret
      exact ⟨ret_i (firstI_none hA.out).symm, rfl⟩

set_option maxHeartbeats 400000 in
theorem containsFuncB (g : Nat) (lb : Array Value) (p : Int → Bool) (v : Value) (l : List Int) (w : World) (hv : Bs w v l) (eg : ∀ args w, (callFunc g args).run Tryz.prog w = .ok (.enter g args) w)
    (hp : ∀ x, 0 ≤ x → x ≤ 255 → Calls Tryz.prog g (#[.int .u8 x] ++ lb) w fun e w' => e = .returned (.bool (p x)) ∧ w' = w) :
    Calls Tryz.prog 67 #[v, .func (.func g) #[] lb] w fun e w' => e = .returned (.bool (l.any p)) ∧ w' = w := by
  have hi := indexFuncB g lb p v l w hv eg hp
  have HF : Hid (l.any p = decide (0 ≤ firstI p l)) := any_firstI p l
  generalize firstI p l = i at hi HF
  obtain ⟨ho, a, cap, rfl, -⟩ := hv
  clear hp
  go_enter Tryz.func67, Tryz.ntmps67
  go_wp2_with (go_at_call 74; refine hi.mono ?_; rintro e w' ⟨rfl, rfl⟩)
  go_ret
  exact ⟨ret_b HF.out, rfl⟩

end Go.Proofs.YtlegmiaoablcgaaGreatDoor

/- What within, allWithin, nameOk, nameWanted, textOk of package impl do. -/
namespace Go.Proofs.YtlegmiaoablcgaaGreatDoor
open Go.RowKit Go.Shelf
set_option maxRecDepth 100000

theorem textB_len {l : List Int} (h : textB l = true) : l.length ≤ 30 := by unfold textB at h; simp at h; exact h.1

theorem within_any (n lo hi : Int) (w : World) :
    Calls Tryz.prog 20 #[.int .i64 n, .int .i64 lo, .int .i64 hi] w fun e w' => e = .returned (.bool (inB n lo hi)) ∧ w' = w := by
  by_cases h0 : lo ≤ n
  · by_cases h1 : n ≤ hi
    · go_enter Tryz.func20, Tryz.ntmps20
      go_wp2
      go_ret
      exact ⟨ret_b (by simp [inB, h0, h1]), rfl⟩
    · go_enter Tryz.func20, Tryz.ntmps20
      go_wp2
      go_ret
      exact ⟨ret_b (by simp [inB, h1]), rfl⟩
  · go_enter Tryz.func20, Tryz.ntmps20
    go_wp2
    go_ret
    exact ⟨ret_b (by simp [inB]; omega), rfl⟩

theorem allWithin1_any (x lo hi : Int) (b1 b2 : Nat) (w : World) (c1 : w.cell? ⟨b1, 0, none⟩ = some (.int .u8 lo)) (c2 : w.cell? ⟨b2, 0, none⟩ = some (.int .u8 hi)) :
    Calls Tryz.prog 68 #[.int .u8 x, .pointer (some ⟨b1, 0, none⟩), .pointer (some ⟨b2, 0, none⟩)] w fun e w' => e = .returned (.bool (decide (x < lo) || decide (hi < x))) ∧ w' = w := by
  by_cases h0 : x < lo
  · go_enter Tryz.func68, Tryz.ntmps68
    go_wp2
    go_ret
    exact ⟨ret_b (by simp [h0]), rfl⟩
  · go_enter Tryz.func68, Tryz.ntmps68
    go_wp2
    go_ret
    exact ⟨ret_b (by simp; omega), rfl⟩

theorem allIn_any (lo hi : Int) (l : List Int) : (!l.any fun x => decide (x < lo) || decide (hi < x)) = allIn lo hi l := by
  induction l with
  | nil => rfl
  | cons x l ih =>
    simp only [List.any_cons, allIn, List.all_cons, Bool.not_or]
    rw [ih]
    congr 1
    by_cases h0 : x < lo <;> by_cases h1 : hi < x <;> simp [h0, h1] <;> omega

set_option maxHeartbeats 400000 in
theorem allWithin_any (v : Value) (l : List Int) (lo hi : Int) (w : World) (hv : Bs w v l) :
    Calls Tryz.prog 47 #[v, .int .u8 lo, .int .u8 hi] w fun e w' => e = .returned (.bool (allIn lo hi l)) ∧ Below w.heap.size w w' := by
  have bx := boxes2 w (.cells #[.int .u8 lo] 5) (.cells #[.int .u8 hi] 5)
  have H : Hid (Calls Tryz.prog 67 #[v, .func (.func 68) #[] #[.pointer (some ⟨w.heap.size, 0, none⟩), .pointer (some ⟨w.heap.size + 1, 0, none⟩)]] ((w.alloc (.cells #[.int .u8 lo] 5)).alloc (.cells #[.int .u8 hi] 5)) fun e w' => e = .returned (.bool (l.any fun x => decide (x < lo) || decide (hi < x))) ∧ w' = (w.alloc (.cells #[.int .u8 lo] 5)).alloc (.cells #[.int .u8 hi] 5)) := by
    refine containsFuncB _ _ _ v l _ (hv.below bx.2.2) (fun args w => by kernel_rfl) fun x _ _ => allWithin1_any x lo hi _ _ _ ?_ ?_
    · rw [cell_of_row _ _ 0 _ _ (0, 0) bx.1]; rfl
    · rw [cell_of_row _ _ 0 _ _ (0, 0) bx.2.1]; rfl
  have HA := allIn_any lo hi l
  have HB : Hid (Below w.heap.size w ((w.alloc (.cells #[.int .u8 lo] 5)).alloc (.cells #[.int .u8 hi] 5))) := bx.2.2
  generalize (l.any fun x => decide (x < lo) || decide (hi < x)) = X at H HA
  have HA' : Hid ((!X) = allIn lo hi l) := HA
  clear HA bx
  obtain ⟨a, n, c, rfl⟩ := hv.form3
  clear hv
  go_enter Tryz.func47, Tryz.ntmps47
  go_wp2_with (go_at_call 67; refine H.out.mono ?_; rintro e w' ⟨rfl, rfl⟩)
  go_ret
  exact ⟨ret_b HA'.out.symm, HB.out⟩

set_option maxHeartbeats 400000 in
theorem nameOk_any (v : Value) (l : List Int) (w : World) (hv : Bs w v l) :
    Calls Tryz.prog 46 #[v] w fun e w' => e = .returned (.bool (nameB l)) ∧ Below w.heap.size w w' := by
  have H : Hid (Bs w v l) := hv
  obtain ⟨ho, a, cap, rfl, hlc, hcm, -⟩ := hv
  unfold maxLen at hcm
  by_cases h0 : 1 ≤ l.length ∧ l.length ≤ 6
  · have e1 : inB (l.length : Int) 1 6 = true := by simp [inB]; omega
    have e2 : Hid (nameB l = allIn 97 122 l) := by simp [Hid, nameB, h0.1, h0.2]
    have hw := within_any (l.length : Int) 1 6
    rw [e1] at hw
    clear e1
    go_enter Tryz.func46, Tryz.ntmps46
    go_wp2_with (first | (go_at_call 20; refine (hw _).mono ?_; rintro e w' ⟨rfl, rfl⟩) | (go_at_call 47; refine (allWithin_any _ l 97 122 _ H.out).mono ?_; rintro e w1 ⟨rfl, B⟩))
    go_ret
    exact ⟨ret_b e2.out, B⟩
  · have e1 : inB (l.length : Int) 1 6 = false := by simp [inB]; omega
    have e2 : Hid (nameB l = false) := by
      simp only [Hid, nameB]
      by_cases h1 : 1 ≤ l.length
      · simp [show ¬ l.length ≤ 6 by omega]
      · simp [h1]
    have hw := within_any (l.length : Int) 1 6
    rw [e1] at hw
    clear e1
    go_enter Tryz.func46, Tryz.ntmps46
    go_wp2_with (first | (go_at_call 20; refine (hw _).mono ?_; rintro e w' ⟨rfl, rfl⟩))
    go_ret
    exact ⟨ret_b e2.out, Below.refl _ _⟩

set_option maxHeartbeats 400000 in
theorem textOk_any (v : Value) (l : List Int) (w : World) (hv : Bs w v l) :
    Calls Tryz.prog 23 #[v] w fun e w' => e = .returned (.bool (textB l)) ∧ Below w.heap.size w w' := by
  have H : Hid (Bs w v l) := hv
  obtain ⟨ho, a, cap, rfl, hlc, hcm, -⟩ := hv
  unfold maxLen at hcm
  by_cases h0 : l.length ≤ 30
  · have e2 : Hid (textB l = allIn 32 126 l) := by simp [Hid, textB, h0]
    go_enter Tryz.func23, Tryz.ntmps23
    go_wp2_with (first | (go_at_call 47; refine (allWithin_any _ l 32 126 _ H.out).mono ?_; rintro e w1 ⟨rfl, B⟩))
    go_ret
    exact ⟨ret_b e2.out, B⟩
  · have e2 : Hid (textB l = false) := by simp [Hid, textB, h0]
    go_enter Tryz.func23, Tryz.ntmps23
    go_wp2
    go_ret
    exact ⟨ret_b e2.out, Below.refl _ _⟩

end Go.Proofs.YtlegmiaoablcgaaGreatDoor
