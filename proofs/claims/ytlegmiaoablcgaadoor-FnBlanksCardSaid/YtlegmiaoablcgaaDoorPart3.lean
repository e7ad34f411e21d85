/- The proof's texts, part 3. -/
import Derived.Test.YtlegmiaoablcgaaDoorPart2
import Derived.Deep.DeepCutAuto

/- Data with depth in memory: lists of structs, what they read as, and lists of the call's own, whose blocks lie in a set. -/
namespace Go.Proofs.YtlegmiaoablcgaaDoor
open Go.RowKit

/-- The blocks from B on and below T. -/
def In (B T : Nat) : Nat → Prop := fun b => B ≤ b ∧ b < T

/-- The slice value v reads as the list l, each element of sz cells that E says. -/
def Rd {α : Type} (sz : Nat) (E : World → List Value → α → Prop) (w : World) (v : Value) (l : List α) : Prop :=
  ∃ (a : Option Addr) (cap : Nat) (cs : Nat → List Value), v = .slice a l.length cap ∧ l.length ≤ cap ∧ cap ≤ maxLen ∧ (a = none → cap = 0) ∧
    (∀ i x, l[i]? = some x → E w (cs i) x ∧ (cs i).length = sz) ∧
    (0 < l.length → ∃ b off, a = some ⟨b, off, none⟩ ∧ b < w.heap.size ∧ ∀ i j u, i < l.length → (cs i)[j]? = some u → w.cell? ⟨b, off + i * sz + j, none⟩ = some u)

/-- What an element says stays while nothing old turns. -/
def Keeps {α : Type} (E : World → List Value → α → Prop) : Prop := ∀ w w' c x, Below w.heap.size w w' → E w c x → E w' c x

section
variable {α : Type} {sz : Nat} {E : World → List Value → α → Prop} {w w' : World} {v : Value} {l : List α}
theorem Rd.below (hE : Keeps E) (h : Rd sz E w v l) (hb : Below w.heap.size w w') : Rd sz E w' v l := by
  obtain ⟨a, cap, cs, hv, h1, h2, h3, h4, h5⟩ := h
  refine ⟨a, cap, cs, hv, h1, h2, h3, fun i x hx => ⟨hE _ _ _ _ hb (h4 i x hx).1, (h4 i x hx).2⟩, fun hp => ?_⟩
  obtain ⟨b, off, ha, hlt, hc⟩ := h5 hp
  exact ⟨b, off, ha, Nat.lt_of_lt_of_le hlt hb.size, fun i j u hi hu => (hb.cell (p := ⟨b, off + i * sz + j, none⟩) hlt).trans (hc i j u hi hu)⟩
theorem Rd.form (h : Rd sz E w v l) : ∃ a cap, v = .slice a l.length cap ∧ l.length ≤ cap ∧ cap ≤ 9223372036854775807 := by
  obtain ⟨a, cap, cs, hv, h1, h2, _⟩ := h
  exact ⟨a, cap, hv, h1, h2⟩
theorem Rd.get (h : Rd sz E w v l) (k : Nat) (x : α) (hx : l[k]? = some x) :
    ∃ b off cap c, v = .slice (some ⟨b, off, none⟩) l.length cap ∧ b < w.heap.size ∧ E w c x ∧ c.length = sz ∧ ∀ j u, c[j]? = some u → w.cell? ⟨b, off + k * sz + j, none⟩ = some u := by
  obtain ⟨a, cap, cs, hv, h1, h2, h3, h4, h5⟩ := h
  have hk : k < l.length := (List.getElem?_eq_some_iff.1 hx).1
  obtain ⟨b, off, rfl, hlt, hc⟩ := h5 (by omega)
  exact ⟨b, off, cap, cs k, hv, hlt, (h4 k x hx).1, (h4 k x hx).2, fun j u hu => hc k j u hk hu⟩
theorem Rd.nil (w : World) : Rd sz E w (.slice none 0 0) ([] : List α) := ⟨none, 0, fun _ => [], rfl, by simp, by simp, fun _ => rfl, by simp, by simp⟩
end

/-- The list l of the call's own: nil, or at the head of a block of S; what its elements lead to lies in S too, apart from that block and from one another. -/
def Ow {α : Type} (t : TypeId) (sz : Nat) (E : World → List Value → α → (Nat → Prop) → Prop) (w : World) (S : Nat → Prop) (v : Value) (l : List α) : Prop :=
  (v = .slice none 0 0 ∧ l = []) ∨
  ∃ (g cap : Nat) (cur : Array Value) (cs : Nat → List Value) (fs : Nat → Nat → Prop), v = .slice (some ⟨g, 0, none⟩) l.length cap ∧ w.heap[g]? = some (.cells cur t (0, 0)) ∧ l.length ≤ cap ∧ cap ≤ maxLen ∧ cur.size = cap * sz ∧ S g ∧
    (∀ i x, l[i]? = some x → E w (cs i) x (fs i) ∧ (cs i).length = sz ∧ ∀ j u, (cs i)[j]? = some u → cur[i * sz + j]? = some u) ∧
    (∀ i b, i < l.length → fs i b → S b ∧ b ≠ g) ∧ (∀ i j b, i < l.length → j < l.length → i ≠ j → fs i b → ¬ fs j b)

/-- What an element of the call's own says stays while its blocks do. -/
def Frames {α : Type} (E : World → List Value → α → (Nat → Prop) → Prop) : Prop := ∀ w w' c x S, E w c x S → (∀ b, S b → b < w.heap.size → w'.heap[b]? = w.heap[b]?) → E w' c x S

section
variable {α : Type} {t : TypeId} {sz : Nat} {E : World → List Value → α → (Nat → Prop) → Prop} {w w' : World} {S S' : Nat → Prop} {v : Value} {l : List α}
theorem Ow.frame (hE : Frames E) (h : Ow t sz E w S v l) (hw : ∀ b, S b → b < w.heap.size → w'.heap[b]? = w.heap[b]?) : Ow t sz E w' S v l := by
  rcases h with h | ⟨g, cap, cur, cs, fs, hv, hh, h1, h2, h3, h4, h5, h6, h7⟩
  · exact .inl h
  · refine .inr ⟨g, cap, cur, cs, fs, hv, (hw g h4 (lt_of_heap hh)).trans hh, h1, h2, h3, h4, fun i x hx => ⟨?_, (h5 i x hx).2⟩, h6, h7⟩
    have hi : i < l.length := (List.getElem?_eq_some_iff.1 hx).1
    exact hE _ _ _ _ _ (h5 i x hx).1 fun b hb hlt => hw b (h6 i b hi hb).1 hlt
theorem Ow.mono (h : Ow t sz E w S v l) (hS : ∀ b, S b → S' b) : Ow t sz E w S' v l := by
  rcases h with h | ⟨g, cap, cur, cs, fs, hv, hh, h1, h2, h3, h4, h5, h6, h7⟩
  · exact .inl h
  · exact .inr ⟨g, cap, cur, cs, fs, hv, hh, h1, h2, h3, hS g h4, h5, fun i b hi hb => ⟨hS b (h6 i b hi hb).1, (h6 i b hi hb).2⟩, h7⟩
theorem Ow.below (hE : Frames E) (h : Ow t sz E w S v l) (hb : Below w.heap.size w w') : Ow t sz E w' S v l := h.frame hE fun b _ hlt => hb.block b hlt
theorem Ow.keptW {B T : Nat} (hE : Frames E) (h : Ow t sz E w S v l) (hw : Within B T w w') (hd : ∀ b, S b → ¬ (B ≤ b ∧ b < T)) : Ow t sz E w' S v l := h.frame hE fun b hb hlt => hw.block b hlt (hd b hb)
theorem Ow.rd {RE : World → List Value → α → Prop} (hE : ∀ w c x S, E w c x S → RE w c x) (h : Ow t sz E w S v l) : Rd sz RE w v l := by
  rcases h with ⟨rfl, rfl⟩ | ⟨g, cap, cur, cs, fs, hv, hh, h1, h2, h3, h4, h5, h6, h7⟩
  · exact Rd.nil w
  · refine ⟨some ⟨g, 0, none⟩, cap, cs, hv, h1, h2, (fun h => by cases h), fun i x hx => ⟨hE _ _ _ _ (h5 i x hx).1, (h5 i x hx).2.1⟩, fun hp => ⟨g, 0, rfl, lt_of_heap hh, fun i j u hi hu => ?_⟩⟩
    rw [Nat.zero_add, cell_of_row w g _ cur t (0, 0) hh]
    exact (h5 i l[i] (List.getElem?_eq_getElem hi)).2.2 j u hu
end

/-- The cells of c laid into block g from o on. -/
def put (w : World) (g o : Nat) : List Value → World
  | [] => w
  | c :: cs => put (w.setCell ⟨g, o, none⟩ c) g (o + 1) cs

theorem put_spec (g : Nat) (t : TypeId) : ∀ (cs : List Value) (w : World) (o : Nat) (cur : Array Value), w.heap[g]? = some (.cells cur t (0, 0)) → o + cs.length ≤ cur.size →
    ∃ cur', (put w g o cs).heap[g]? = some (.cells cur' t (0, 0)) ∧ cur'.size = cur.size ∧ (∀ j u, cs[j]? = some u → cur'[o + j]? = some u) ∧ (∀ i, i < o ∨ o + cs.length ≤ i → cur'[i]? = cur[i]?) ∧ Within g (g + 1) w (put w g o cs)
  | [], w, o, cur, h, _ => ⟨cur, h, rfl, by simp, fun _ _ => rfl, Within.refl _ _ _⟩
  | c :: cs, w, o, cur, h, hs => by
    simp only [List.length_cons] at hs
    have h1 : (w.setCell ⟨g, o, none⟩ c).heap[g]? = some (.cells (cur.setIfInBounds o c) t (0, 0)) := heap_setCell_same w g o cur t c h
    obtain ⟨cur', e1, e2, e3, e4, e5⟩ := put_spec g t cs (w.setCell ⟨g, o, none⟩ c) (o + 1) _ h1 (by simp; omega)
    refine ⟨cur', e1, by simpa using e2, fun j u hu => ?_, fun i hi => ?_, ?_⟩
    · cases j with
      | zero =>
        simp at hu; subst hu
        rw [Nat.add_zero, e4 o (.inl (by omega)), Array.getElem?_setIfInBounds]
        simp [show o < cur.size by omega]
      | succ j =>
        have := e3 j u (by simpa using hu)
        rwa [show o + (j + 1) = o + 1 + j by omega]
    · simp only [List.length_cons] at hi
      rw [e4 i (by omega)]
      rw [Array.getElem?_setIfInBounds]
      simp [show ¬ o = i by omega]
    · exact (⟨rfl, rfl, rfl, by simp [World.setCell], fun k hk hn => Below.heap_setCell w ⟨g, o, none⟩ c k (show k ≠ g by omega)⟩ : Within g (g + 1) w (w.setCell ⟨g, o, none⟩ c)).trans e5

/-- A list that is being laid: k of its elements lie there. -/
def Part {α : Type} (t : TypeId) (sz : Nat) (E : World → List Value → α → (Nat → Prop) → Prop) (w : World) (g n k : Nat) (l : List α) : Prop :=
  ∃ (cur : Array Value) (cs : Nat → List Value) (fs : Nat → Nat → Prop), w.heap[g]? = some (.cells cur t (0, 0)) ∧ cur.size = n * sz ∧
    (∀ i x, i < k → l[i]? = some x → E w (cs i) x (fs i) ∧ (cs i).length = sz ∧ ∀ j u, (cs i)[j]? = some u → cur[i * sz + j]? = some u) ∧
    (∀ i b, i < k → fs i b → g < b ∧ b < w.heap.size) ∧ (∀ i j b, i < k → j < k → i ≠ j → fs i b → ¬ fs j b)

section
variable {α : Type} {t : TypeId} {sz : Nat} {E : World → List Value → α → (Nat → Prop) → Prop} {w w' : World} {l : List α} {g n k : Nat}
theorem Part.start {cur : Array Value} (h : w.heap[g]? = some (.cells cur t (0, 0))) (hs : cur.size = n * sz) : Part t sz E w g n 0 l := ⟨cur, fun _ => [], fun _ _ => False, h, hs, by simp, by simp, by simp⟩
theorem Part.cell (h : Part t sz E w g n k l) (i : Nat) (hi : i < n * sz) : (∃ u, w.cell? ⟨g, i, none⟩ = some u) ∧ w.frozen? ⟨g, i, none⟩ = false := by
  obtain ⟨cur, cs, fs, hh, hs, _⟩ := h
  refine ⟨⟨cur[i]'(by omega), ?_⟩, frozen_of_row w g i cur t hh⟩
  rw [cell_of_row w g i cur t (0, 0) hh]
  simp
theorem Part.lt (h : Part t sz E w g n k l) : g < w.heap.size := let ⟨_, _, _, hh, _⟩ := h; lt_of_heap hh
theorem Part.step (hE : Frames E) (h : Part t sz E w g n k l) (hb : Below w.heap.size w w') (x : α) (hx : l[k]? = some x) (hk : k < n) (c : List Value) (hc : c.length = sz) (he : E w' c x (In w.heap.size w'.heap.size)) :
    Part t sz E (put w' g (k * sz) c) g n (k + 1) l := by
  obtain ⟨cur, cs, fs, hh, hs, h1, h2, h3⟩ := h
  have hg : g < w.heap.size := lt_of_heap hh
  have hroom : k * sz + sz ≤ n * sz := by
    have := Nat.mul_le_mul_right sz (show k + 1 ≤ n by omega)
    rw [Nat.add_mul, Nat.one_mul] at this
    exact this
  obtain ⟨cur', e1, e2, e3, e4, e5⟩ := put_spec g t c w' (k * sz) cur ((hb.block g hg).trans hh) (by omega)
  have same : ∀ b, b ≠ g → b < w.heap.size → (put w' g (k * sz) c).heap[b]? = w.heap[b]? := fun b hne hlt =>
    (e5.block b (Nat.lt_of_lt_of_le hlt hb.size) (by omega)).trans (hb.block b hlt)
  refine ⟨cur', fun i => if i = k then c else cs i, fun i => if i = k then In w.heap.size w'.heap.size else fs i, e1, by omega, fun i y hi hy => ?_, fun i b hi hb' => ?_, fun i j b hi hj hne hbi hbj => ?_⟩
  · by_cases hik : i = k
    · subst hik
      rw [hx] at hy; cases hy
      simp only [if_true]
      refine ⟨hE _ _ _ _ _ he fun b hb' hlt => e5.block b hlt (by have := hb'.1; omega), hc, fun j u hu => e3 j u hu⟩
    · simp only [if_neg hik]
      have hi' : i < k := by omega
      obtain ⟨q1, q2, q3⟩ := h1 i y hi' hy
      refine ⟨hE _ _ _ _ _ q1 fun b hb' hlt => same b (by have := (h2 i b hi' hb').1; omega) hlt, q2, fun j u hu => ?_⟩
      have hj : j < sz := by have := (List.getElem?_eq_some_iff.1 hu).1; omega
      have hlow : i * sz + j < k * sz := by
        have := Nat.mul_le_mul_right sz (show i + 1 ≤ k by omega)
        rw [Nat.add_mul, Nat.one_mul] at this
        omega
      rw [e4 _ (.inl hlow)]
      exact q3 j u hu
  · by_cases hik : i = k
    · simp only [hik, if_true] at hb'
      have := e5.size
      exact ⟨by have := hb'.1; omega, by have := hb'.2; omega⟩
    · simp only [if_neg hik] at hb'
      have := h2 i b (by omega) hb'
      have := e5.size
      have := hb.size
      omega
  · by_cases hik : i = k
    · by_cases hjk : j = k
      · omega
      · simp only [hik, if_true] at hbi
        simp only [if_neg hjk] at hbj
        have := h2 j b (by omega) hbj
        have := hbi.1
        omega
    · simp only [if_neg hik] at hbi
      by_cases hjk : j = k
      · simp only [hjk, if_true] at hbj
        have := h2 i b (by omega) hbi
        have := hbj.1
        omega
      · simp only [if_neg hjk] at hbj
        exact h3 i j b (by omega) (by omega) hne hbi hbj
theorem Part.done {B : Nat} (h : Part t sz E w g n n l) (hn : l.length = n) (hm : n ≤ maxLen) (hB : B ≤ g) : Ow t sz E w (In B w.heap.size) (.slice (some ⟨g, 0, none⟩) n n) l := by
  obtain ⟨cur, cs, fs, hh, hs, h1, h2, h3⟩ := h
  subst hn
  refine .inr ⟨g, l.length, cur, cs, fs, rfl, hh, Nat.le_refl _, hm, hs, ⟨hB, lt_of_heap hh⟩, fun i x hx => h1 i x (List.getElem?_eq_some_iff.1 hx).1 hx, fun i b hi hb => ?_, h3⟩
  have := h2 i b hi hb
  exact ⟨⟨by omega, this.2⟩, by omega⟩
theorem put_below {B : Nat} {w0 w : World} (hb : Below B w0 w) (hB : B ≤ g) (o : Nat) (c : List Value) : Below B w0 (put w g o c) := by
  induction c generalizing w o with
  | nil => exact hb
  | cons x c ih => exact ih (hb.setCell (p := ⟨g, o, none⟩) hB x) (o + 1)
end

end Go.Proofs.YtlegmiaoablcgaaDoor

/- Tokens in memory; what l4one of package spec answers. -/
namespace Go.Proofs.YtlegmiaoablcgaaDoor
open Go.RowKit

theorem tx4 {w : World} {g : Nat} {t : TypeId} {c0 c1 c2 c3 : Value} (h : w.heap[g]? = some (.cells #[c0, c1, c2, c3] t (0, 0))) : w.cell? ⟨g, 0, none⟩ = some c0 ∧ w.cell? ⟨g, 1, none⟩ = some c1 ∧ w.cell? ⟨g, 2, none⟩ = some c2 ∧ w.cell? ⟨g, 3, none⟩ = some c3 :=
  ⟨by rw [cell_of_row w g 0 _ t (0, 0) h]; rfl, by rw [cell_of_row w g 1 _ t (0, 0) h]; rfl, by rw [cell_of_row w g 2 _ t (0, 0) h]; rfl, by rw [cell_of_row w g 3 _ t (0, 0) h]; rfl⟩
/-- What l4one answers: the token and the place behind it, or -1. -/
def OneP (w : World) (l : List Int) (r : Option (TokD × List Int)) (e : Ending) (w' : World) : Prop := Below w.heap.size w w' ∧ match r with
  | none => ∃ (d0 d1 d2 : Int) (a : Option Addr) (n c : Nat), e = .returned (.tuple #[.agg #[.int .i64 d0, .int .i64 d1, .int .i64 d2, .slice a n c], .int .i64 (-1)])
  | some p => ∃ (a : Option Addr) (n c : Nat), e = .returned (.tuple #[.agg #[.int .i64 p.1.k, .int .i64 p.1.p, .int .i64 p.1.n, .slice a n c], .int .i64 ((l.length - p.2.length : Nat) : Int)]) ∧ Row w' w.heap.size w'.heap.size (.slice a n c) p.1.tx ∧ p.2.length < l.length
/-- A token's four cells are set: the variable and the result. -/
theorem tok_fin {w w1 : World} {r : Nat} {t : TypeId} {d0 d1 d2 d3 : Value} (hk : w1.heap[r]? = some (.cells #[d0, d1, d2, d3] t (0, 0))) (hr : w.heap.size ≤ r) (hb : Below w.heap.size w w1) (c0 c1 c2 c3 : Value) :
    ((((w1.setCell ⟨r, 0, none⟩ c0).setCell ⟨r, 1, none⟩ c1).setCell ⟨r, 2, none⟩ c2).setCell ⟨r, 3, none⟩ c3).heap[r]? = some (.cells #[c0, c1, c2, c3] t (0, 0)) ∧ Below w.heap.size w ((((w1.setCell ⟨r, 0, none⟩ c0).setCell ⟨r, 1, none⟩ c1).setCell ⟨r, 2, none⟩ c2).setCell ⟨r, 3, none⟩ c3) ∧
      ∀ k, k ≠ r → ((((w1.setCell ⟨r, 0, none⟩ c0).setCell ⟨r, 1, none⟩ c1).setCell ⟨r, 2, none⟩ c2).setCell ⟨r, 3, none⟩ c3).heap[k]? = w1.heap[k]? :=
  ⟨box_set (i := 3) (box_set (i := 2) (box_set (i := 1) (box_set (i := 0) hk))), (((hb.setCell hr _).setCell hr _).setCell hr _).setCell hr _, fun k hk => by rw [Below.heap_setCell _ _ _ _ (show k ≠ r from hk), Below.heap_setCell _ _ _ _ (show k ≠ r from hk), Below.heap_setCell _ _ _ _ (show k ≠ r from hk), Below.heap_setCell _ _ _ _ (show k ≠ r from hk)]⟩
theorem drop_cons {l : List Int} {i : Nat} (hi : i < l.length) : l.drop i = l.getD i 0 :: l.drop (i + 1) := by
  rw [List.drop_eq_getElem_cons hi, List.getD_eq_getElem?_getD, List.getElem?_eq_getElem hi]; rfl

end Go.Proofs.YtlegmiaoablcgaaDoor

/- One byte in a block of its own; flags, one behind the other. -/
namespace Go.Proofs.YtlegmiaoablcgaaDoor
open Go.RowKit

theorem ownB_one (w : World) (B : Nat) (hB : B ≤ w.heap.size) (x : Int) (h : 0 ≤ x ∧ x ≤ 255) : OwnB (w.alloc (.cells #[.int .u8 x] 5)) B (.slice (some ⟨w.heap.size, 0, none⟩) 1 1) [x] := by
  refine ⟨w.heap.size, hB, fun y hy => ?_, .inr ⟨1, #[.int .u8 x], rfl, heap_alloc_new w _, by simp, by unfold maxLen; omega, rfl, rfl⟩⟩
  simp only [List.mem_cons, List.not_mem_nil, or_false] at hy
  subst hy
  omega

theorem flagAt_len (f : Int) (i : Nat) : (flagAt f i).length ≤ 1 := by unfold flagAt; split <;> simp
theorem range5_step (f : Int) (k : Nat) : (List.range (k + 1)).flatMap (flagAt f) = (List.range k).flatMap (flagAt f) ++ flagAt f k := by simp [List.range_succ]

end Go.Proofs.YtlegmiaoablcgaaDoor

/- What l4digits, l4quoted, l4flags of package spec do. -/
namespace Go.Proofs.YtlegmiaoablcgaaDoor
open Go.RowKit
set_option maxRecDepth 100000
set_option linter.unusedVariables false

set_option maxRecDepth 100000 in
set_option maxHeartbeats 1000000 in
theorem l4digits_r (n : Nat) (hn : n ≤ 9999999) (w : World) :
    Calls Tryd.prog 42 #[.int .i64 n] w fun e w' => ∃ u, e = .returned u ∧ OwnB w' w.heap.size u (digB n) ∧ Below w.heap.size w w' := by
  induction n using Nat.strongRecOn generalizing w with
  | ind n ih =>
    obtain ⟨i0, hi, hz0, hz1, hz2⟩ := info_parts info5
    by_cases h : n < 10
    · have h' : (n : Int) < 10 := by omega
      have HO : Hid (OwnB (w.alloc (.cells #[.int .u8 (48 + (n : Int))] 5)) w.heap.size (.slice (some ⟨w.heap.size, 0, none⟩) 1 1) (digB n)) := by rw [digB_small h]; exact ownB_one w _ (Nat.le_refl _) _ (by omega)
      clear ih
      go_enter Tryd.func42, Tryd.ntmps42
      go_wp2
      go_ret
      exact ⟨_, rfl, HO.out, (Below.refl _ _).alloc (Nat.le_refl _) _⟩
    · have h' : ¬ (n : Int) < 10 := by omega
      have hq : (n : Int) / 10 = ((n / 10 : Nat) : Int) := by omega
      have hr : (n : Int) % 10 = ((n % 10 : Nat) : Int) := by omega
      have HD : Hid (digB n = digB (n / 10) ++ [48 + ((n % 10 : Nat) : Int)]) := digB_big h
      have hc := ih (n / 10) (by omega) (by omega) w
      have hlen := digB_len10 (show n / 10 ≤ 9999999 by omega)
      clear ih
      generalize hQ : n / 10 = Q at hq hc HD hlen
      generalize hR : n % 10 = R at hr HD
      have hRb : R < 10 := by omega
      go_enter Tryd.func42, Tryd.ntmps42
      go_wp2_with fail
      refine hc.mono ?_
      rintro e w1 ⟨u1, rfl, O1, B1⟩
      have s1 := B1.size
      have HO : Hid (OwnB w1 w.heap.size u1 (digB Q)) := O1
      have HB : Hid (Below w.heap.size w w1) := B1
      clear O1 B1 hc
      go_wp2_with (at_builtin; refine wpList_append_bytes rfl (.tmp 11) (.tmp 16) 22 rfl i0 Tryd.underlying22 hi hz0 hz1 hz2 w.heap.size _ _ rfl (HO.out.alloc _) _ [48 + (R : Int)] rfl (bs_one _ _ (by omega)) (by simp; omega) (by simp; omega) w (HB.out.alloc s1 _) ?_)
      intro v2 w2 hO2 hB2 _
      have HO2 : Hid (OwnB w2 w.heap.size v2 (digB n)) := by rw [HD.out]; exact hO2
      clear hO2
      go_wp2
      go_ret
      exact ⟨_, rfl, HO2.out, hB2⟩

set_option maxHeartbeats 1000000 in
theorem l4quoted_r (v : Value) (t : List Int) (w : World) (hv : Bs w v t) (ht : t.length ≤ 2000000) :
    Calls Tryd.prog 41 #[v] w fun e w' => ∃ u, e = .returned u ∧ OwnB w' w.heap.size u (quoB t) ∧ Below w.heap.size w w' := by
  have HV : Hid (∀ wi, Below w.heap.size w wi → Bs wi v t) := fun wi h => hv.below h
  obtain ⟨ho, a, cap, rfl, hlc, hcm, -⟩ := hv
  unfold maxLen at hcm
  obtain ⟨i0, hi, hz0, hz1, hz2⟩ := info_parts info5
  have H0 : Hid (OwnB (w.alloc (.cells #[.int .u8 34] 5)) w.heap.size (.slice (some ⟨w.heap.size, 0, none⟩) 1 1) ([34] ++ (t.take 0).flatMap escB)) := by simpa [Hid] using ownB_one w _ (Nat.le_refl _) 34 (by omega)
  have HB : Hid (Below w.heap.size w (w.alloc (.cells #[.int .u8 34] 5))) := (Below.refl _ _).alloc (Nat.le_refl _) _
  go_enter Tryd.func41, Tryd.ntmps41
  go_wp2
  go_loopw [3, 4] (fun b i wr => ∃ k : Nat, k ≤ t.length ∧ i = .int .i64 k ∧ Hid (OwnB wr w.heap.size b ([34] ++ (t.take k).flatMap escB)) ∧ Hid (Below w.heap.size w wr)) (fun _ i _ => t.length - (intOf i).toNat)
  case atStart => exact ⟨0, Nat.zero_le _, rfl, H0, HB⟩
  case round =>
    clear H0 HB
    obtain ⟨k, hk, rfl, hO, hB⟩ := hrel
    have hsz := hB.out.size
    have hfl := flat_len escB 2 (t.take k) (fun x _ => escB_len x)
    have htk : (t.take k).length ≤ 2000000 := by simp; omega
    by_cases hlt : k < t.length
    · obtain ⟨x, hx⟩ : ∃ x, t[k]? = some x := ⟨t[k], List.getElem?_eq_getElem hlt⟩
      have hxo : 0 ≤ x ∧ x ≤ 255 := ho x (List.mem_of_getElem? hx)
      have HST : Hid ((t.take (k + 1)).flatMap escB = (t.take k).flatMap escB ++ escB x) := flat_step escB hx
      obtain ⟨ho', a', cap', hv', -, -, -, hcells⟩ := HV.out wr hB.out
      simp only [Value.slice.injEq, true_and] at hv'
      obtain ⟨rfl, rfl⟩ := hv'
      obtain ⟨b, off, rfl, hlb, hc⟩ := hcells (by omega)
      have d0 := hc k hlt
      rw [List.getD_eq_getElem?_getD, hx, Option.getD_some] at d0
      clear hcells hc ho'
      by_cases he : x = 34 ∨ x = 92
      · have HE : Hid (escB x = [92, x]) := by simp only [Hid, escB, if_pos he]
        rcases he with rfl | rfl
        all_goals
          go_wp2_with (at_builtin; refine wpList_append_bytes rfl (.tmp 24) (.tmp 25) 22 rfl i0 Tryd.underlying22 hi hz0 hz1 hz2 w.heap.size _ _ rfl (hO.out.alloc _) _ [92] rfl (bs_one _ _ (by omega)) (by simp only [List.length_append, List.length_cons, List.length_nil]; omega) (by simp; omega) w (hB.out.alloc hsz _) ?_)
          intro v2 w2 hO2 hB2 _
          have s2 := hB2.size
          have HO2 : Hid (OwnB w2 w.heap.size v2 ([34] ++ (t.take k).flatMap escB ++ [92])) := by simpa [Hid] using hO2
          obtain ⟨_, a', cap', hv', -, -, -, hcells⟩ := HV.out w2 hB2
          simp only [Value.slice.injEq, true_and] at hv'
          obtain ⟨rfl, rfl⟩ := hv'
          obtain ⟨b2, off2, hb2, hlb2, hc2⟩ := hcells (by omega)
          simp only [Option.some.injEq, Addr.mk.injEq, and_true] at hb2
          obtain ⟨rfl, rfl⟩ := hb2
          have d2 := hc2 k hlt
          rw [List.getD_eq_getElem?_getD, hx, Option.getD_some] at d2
          clear hO2 d0 hcells hc2 hO hB hlb
          go_wp2_with (at_builtin; refine wpList_append_bytes rfl (.tmp 27) (.tmp 32) 22 rfl i0 Tryd.underlying22 hi hz0 hz1 hz2 w.heap.size _ _ rfl (HO2.out.alloc _) _ _ rfl (bs_one _ _ (by omega)) (by simp only [List.length_append, List.length_cons, List.length_nil]; omega) (by simp; omega) w (hB2.alloc s2 _) ?_)
          intro v3 w3 hO3 hB3 _
          have HO3 : Hid (OwnB w3 w.heap.size v3 ([34] ++ (t.take (k + 1)).flatMap escB)) := by
            rw [HST.out, HE.out]
            simpa [Hid, show List.range 1 = [0] from rfl, show List.range 2 = [0, 1] from rfl, show List.range 3 = [0, 1, 2] from rfl, show List.range 4 = [0, 1, 2, 3] from rfl] using hO3
          clear hO3
          go_wp2
          go_roundw
          case rel => exact ⟨k + 1, by omega, by go_num, HO3, hB3⟩
          case measure => simp [intOf]; omega
      · have HE : Hid (escB x = [x]) := by simp only [Hid, escB, if_neg he]
        have h34 : x ≠ 34 := by omega
        have h92 : x ≠ 92 := by omega
        have b34 : (x == 34) = false := by simp [h34]
        have b92 : (x == 92) = false := by simp [h92]
        go_wp2_with (at_builtin; refine wpList_append_bytes rfl (.tmp 27) (.tmp 32) 22 rfl i0 Tryd.underlying22 hi hz0 hz1 hz2 w.heap.size _ _ rfl (hO.out.alloc _) _ [x] rfl (bs_one _ _ (by omega)) (by simp only [List.length_append, List.length_cons, List.length_nil]; omega) (by simp; omega) w (hB.out.alloc hsz _) ?_)
        intro v3 w3 hO3 hB3 _
        have HO3 : Hid (OwnB w3 w.heap.size v3 ([34] ++ (t.take (k + 1)).flatMap escB)) := by
          rw [HST.out, HE.out]
          simpa [Hid] using hO3
        clear hO3
        go_wp2
        go_roundw
        case rel => exact ⟨k + 1, by omega, by go_num, HO3, hB3⟩
        case measure => simp [intOf]; omega
    · obtain rfl : k = t.length := by omega
      go_wp2_with (at_builtin; refine wpList_append_bytes rfl (.tmp 34) (.tmp 35) 22 rfl i0 Tryd.underlying22 hi hz0 hz1 hz2 w.heap.size _ _ rfl (hO.out.alloc _) _ [34] rfl (bs_one _ _ (by omega)) (by simp only [List.length_append, List.length_cons, List.length_nil]; omega) (by simp; omega) w (hB.out.alloc hsz _) ?_)
      intro v2 w2 hO2 hB2 _
      have HO2 : Hid (OwnB w2 w.heap.size v2 (quoB t)) := by simpa [Hid, quoB] using hO2
      clear hO2
      go_wp2
      go_ret
      exact ⟨_, rfl, HO2.out, hB2⟩

theorem bit_one : ∀ x : Nat, x ≤ 31 → (bits BinOp.and IntKind.i64 (x : Int) 1 == 1) = decide (x % 2 = 1) := by
  intro x hx
  have h : ∀ x : Fin 32, (bits BinOp.and IntKind.i64 ((x : Nat) : Int) 1 == 1) = decide ((x : Nat) % 2 = 1) := by decide +kernel
  exact h ⟨x, by omega⟩
set_option maxRecDepth 100000 in
set_option maxHeartbeats 1000000 in
theorem l4flags_r (f : Nat) (hf : f ≤ 31) (w : World) :
    Calls Tryd.prog 40 #[.int .i64 f] w fun e w' => ∃ u, e = .returned u ∧ OwnB w' w.heap.size u (flagsB f) ∧ Below w.heap.size w w' := by
  obtain ⟨i0, hi, hz0, hz1, hz2⟩ := info_parts info5
  have H0 : Hid (OwnB (w.alloc (.cells #[.int .u8 40] 5)) w.heap.size (.slice (some ⟨w.heap.size, 0, none⟩) 1 1) ([40] ++ (List.range 0).flatMap (flagAt f))) := by simpa [Hid] using ownB_one w _ (Nat.le_refl _) 40 (by omega)
  have HB : Hid (Below w.heap.size w (w.alloc (.cells #[.int .u8 40] 5))) := (Below.refl _ _).alloc (Nat.le_refl _) _
  go_enter Tryd.func40, Tryd.ntmps40
  go_wp2
  go_loopw [3, 4] (fun b i wr => ∃ k : Nat, k ≤ 5 ∧ i = .int .i64 k ∧ Hid (OwnB wr w.heap.size b ([40] ++ (List.range k).flatMap (flagAt f))) ∧ Hid (Below w.heap.size w wr)) (fun _ i _ => 5 - (intOf i).toNat)
  case atStart => exact ⟨0, Nat.zero_le _, rfl, H0, HB⟩
  case round =>
    clear H0 HB
    obtain ⟨k, hk, rfl, hO, hB⟩ := hrel
    have hsz := hB.out.size
    have hfl := flat_len (flagAt f) 1 (List.range k) (fun x _ => flagAt_len f x)
    simp only [List.length_range] at hfl
    by_cases hlt : k < 5
    · have HST : Hid ((List.range (k + 1)).flatMap (flagAt f) = (List.range k).flatMap (flagAt f) ++ flagAt f k) := range5_step f k
      have hsmall : ∀ P : Nat, 0 < P → f / P ≤ 31 := fun P hp => Nat.le_trans (Nat.div_le_self _ _) hf
      obtain rfl | rfl | rfl | rfl | rfl : k = 0 ∨ k = 1 ∨ k = 2 ∨ k = 3 ∨ k = 4 := by omega
      · have hE : flagAt f 0 = (if f % 2 = 1 then [83] else []) := by simp [flagAt, letB]
        have hb : (bits BinOp.and IntKind.i64 (f : Int) 1 == 1) = decide (f % 2 = 1) := by
          have h := bit_one (f) (hf)
          simpa using h
        by_cases hc : f % 2 = 1
        · rw [if_pos hc] at hE
          rw [decide_eq_true hc] at hb
          have HE : Hid (flagAt f 0 = [83]) := hE
          clear hE
          go_wp2_with (at_builtin; refine wpList_append_bytes rfl (.tmp 15) (.tmp 18) 22 rfl i0 Tryd.underlying22 hi hz0 hz1 hz2 w.heap.size _ _ rfl (hO.out.alloc _) _ [83] rfl (bs_one _ 83 (by omega)) (by simp only [List.length_append, List.length_cons, List.length_nil]; omega) (by simp; omega) w (hB.out.alloc hsz _) ?_)
          intro v3 w3 hO3 hB3 _
          have HO3 : Hid (OwnB w3 w.heap.size v3 ([40] ++ (List.range (0 + 1)).flatMap (flagAt f))) := by
            rw [HST.out, HE.out]
            simpa [Hid, show List.range 1 = [0] from rfl, show List.range 2 = [0, 1] from rfl, show List.range 3 = [0, 1, 2] from rfl, show List.range 4 = [0, 1, 2, 3] from rfl] using hO3
          clear hO3
          go_wp2
          go_roundw
          case rel => exact ⟨0 + 1, by omega, by go_num, HO3, hB3⟩
          case measure => simp [intOf]
        · rw [if_neg hc] at hE
          rw [decide_eq_false hc] at hb
          have HEQ : Hid ([40] ++ (List.range 0).flatMap (flagAt f) = [40] ++ (List.range (0 + 1)).flatMap (flagAt f)) := by rw [Hid, HST.out, hE, List.append_nil]
          clear hE
          go_wp2
          go_roundw
          case rel => exact ⟨0 + 1, by omega, by go_num, by rw [← HEQ.out]; exact hO, hB⟩
          case measure => simp [intOf]
      · have hE : flagAt f 1 = (if f / 2 % 2 = 1 then [65] else []) := by simp [flagAt, letB]
        have hb : (bits BinOp.and IntKind.i64 ((f : Int) / 2) 1 == 1) = decide (f / 2 % 2 = 1) := by
          have h := bit_one (f / 2) (hsmall 2 (by omega))
          simpa using h
        by_cases hc : f / 2 % 2 = 1
        · rw [if_pos hc] at hE
          rw [decide_eq_true hc] at hb
          have HE : Hid (flagAt f 1 = [65]) := hE
          clear hE
          go_wp2_with (at_builtin; refine wpList_append_bytes rfl (.tmp 15) (.tmp 18) 22 rfl i0 Tryd.underlying22 hi hz0 hz1 hz2 w.heap.size _ _ rfl (hO.out.alloc _) _ [65] rfl (bs_one _ 65 (by omega)) (by simp only [List.length_append, List.length_cons, List.length_nil]; omega) (by simp; omega) w (hB.out.alloc hsz _) ?_)
          intro v3 w3 hO3 hB3 _
          have HO3 : Hid (OwnB w3 w.heap.size v3 ([40] ++ (List.range (1 + 1)).flatMap (flagAt f))) := by
            rw [HST.out, HE.out]
            simpa [Hid, show List.range 1 = [0] from rfl, show List.range 2 = [0, 1] from rfl, show List.range 3 = [0, 1, 2] from rfl, show List.range 4 = [0, 1, 2, 3] from rfl] using hO3
          clear hO3
          go_wp2
          go_roundw
          case rel => exact ⟨1 + 1, by omega, by go_num, HO3, hB3⟩
          case measure => simp [intOf]
        · rw [if_neg hc] at hE
          rw [decide_eq_false hc] at hb
          have HEQ : Hid ([40] ++ (List.range 1).flatMap (flagAt f) = [40] ++ (List.range (1 + 1)).flatMap (flagAt f)) := by rw [Hid, HST.out, hE, List.append_nil]
          clear hE
          go_wp2
          go_roundw
          case rel => exact ⟨1 + 1, by omega, by go_num, by rw [← HEQ.out]; exact hO, hB⟩
          case measure => simp [intOf]
      · have hE : flagAt f 2 = (if f / 4 % 2 = 1 then [70] else []) := by simp [flagAt, letB]
        have hb : (bits BinOp.and IntKind.i64 ((f : Int) / 4) 1 == 1) = decide (f / 4 % 2 = 1) := by
          have h := bit_one (f / 4) (hsmall 4 (by omega))
          simpa using h
        by_cases hc : f / 4 % 2 = 1
        · rw [if_pos hc] at hE
          rw [decide_eq_true hc] at hb
          have HE : Hid (flagAt f 2 = [70]) := hE
          clear hE
          go_wp2_with (at_builtin; refine wpList_append_bytes rfl (.tmp 15) (.tmp 18) 22 rfl i0 Tryd.underlying22 hi hz0 hz1 hz2 w.heap.size _ _ rfl (hO.out.alloc _) _ [70] rfl (bs_one _ 70 (by omega)) (by simp only [List.length_append, List.length_cons, List.length_nil]; omega) (by simp; omega) w (hB.out.alloc hsz _) ?_)
          intro v3 w3 hO3 hB3 _
          have HO3 : Hid (OwnB w3 w.heap.size v3 ([40] ++ (List.range (2 + 1)).flatMap (flagAt f))) := by
            rw [HST.out, HE.out]
            simpa [Hid, show List.range 1 = [0] from rfl, show List.range 2 = [0, 1] from rfl, show List.range 3 = [0, 1, 2] from rfl, show List.range 4 = [0, 1, 2, 3] from rfl] using hO3
          clear hO3
          go_wp2
          go_roundw
          case rel => exact ⟨2 + 1, by omega, by go_num, HO3, hB3⟩
          case measure => simp [intOf]
        · rw [if_neg hc] at hE
          rw [decide_eq_false hc] at hb
          have HEQ : Hid ([40] ++ (List.range 2).flatMap (flagAt f) = [40] ++ (List.range (2 + 1)).flatMap (flagAt f)) := by rw [Hid, HST.out, hE, List.append_nil]
          clear hE
          go_wp2
          go_roundw
          case rel => exact ⟨2 + 1, by omega, by go_num, by rw [← HEQ.out]; exact hO, hB⟩
          case measure => simp [intOf]
      · have hE : flagAt f 3 = (if f / 8 % 2 = 1 then [68] else []) := by simp [flagAt, letB]
        have hb : (bits BinOp.and IntKind.i64 ((f : Int) / 8) 1 == 1) = decide (f / 8 % 2 = 1) := by
          have h := bit_one (f / 8) (hsmall 8 (by omega))
          simpa using h
        by_cases hc : f / 8 % 2 = 1
        · rw [if_pos hc] at hE
          rw [decide_eq_true hc] at hb
          have HE : Hid (flagAt f 3 = [68]) := hE
          clear hE
          go_wp2_with (at_builtin; refine wpList_append_bytes rfl (.tmp 15) (.tmp 18) 22 rfl i0 Tryd.underlying22 hi hz0 hz1 hz2 w.heap.size _ _ rfl (hO.out.alloc _) _ [68] rfl (bs_one _ 68 (by omega)) (by simp only [List.length_append, List.length_cons, List.length_nil]; omega) (by simp; omega) w (hB.out.alloc hsz _) ?_)
          intro v3 w3 hO3 hB3 _
          have HO3 : Hid (OwnB w3 w.heap.size v3 ([40] ++ (List.range (3 + 1)).flatMap (flagAt f))) := by
            rw [HST.out, HE.out]
            simpa [Hid, show List.range 1 = [0] from rfl, show List.range 2 = [0, 1] from rfl, show List.range 3 = [0, 1, 2] from rfl, show List.range 4 = [0, 1, 2, 3] from rfl] using hO3
          clear hO3
          go_wp2
          go_roundw
          case rel => exact ⟨3 + 1, by omega, by go_num, HO3, hB3⟩
          case measure => simp [intOf]
        · rw [if_neg hc] at hE
          rw [decide_eq_false hc] at hb
          have HEQ : Hid ([40] ++ (List.range 3).flatMap (flagAt f) = [40] ++ (List.range (3 + 1)).flatMap (flagAt f)) := by rw [Hid, HST.out, hE, List.append_nil]
          clear hE
          go_wp2
          go_roundw
          case rel => exact ⟨3 + 1, by omega, by go_num, by rw [← HEQ.out]; exact hO, hB⟩
          case measure => simp [intOf]
      · have hE : flagAt f 4 = (if f / 16 % 2 = 1 then [82] else []) := by simp [flagAt, letB]
        have hb : (bits BinOp.and IntKind.i64 ((f : Int) / 16) 1 == 1) = decide (f / 16 % 2 = 1) := by
          have h := bit_one (f / 16) (hsmall 16 (by omega))
          simpa using h
        by_cases hc : f / 16 % 2 = 1
        · rw [if_pos hc] at hE
          rw [decide_eq_true hc] at hb
          have HE : Hid (flagAt f 4 = [82]) := hE
          clear hE
          go_wp2_with (at_builtin; refine wpList_append_bytes rfl (.tmp 15) (.tmp 18) 22 rfl i0 Tryd.underlying22 hi hz0 hz1 hz2 w.heap.size _ _ rfl (hO.out.alloc _) _ [82] rfl (bs_one _ 82 (by omega)) (by simp only [List.length_append, List.length_cons, List.length_nil]; omega) (by simp; omega) w (hB.out.alloc hsz _) ?_)
          intro v3 w3 hO3 hB3 _
          have HO3 : Hid (OwnB w3 w.heap.size v3 ([40] ++ (List.range (4 + 1)).flatMap (flagAt f))) := by
            rw [HST.out, HE.out]
            simpa [Hid, show List.range 1 = [0] from rfl, show List.range 2 = [0, 1] from rfl, show List.range 3 = [0, 1, 2] from rfl, show List.range 4 = [0, 1, 2, 3] from rfl] using hO3
          clear hO3
          go_wp2
          go_roundw
          case rel => exact ⟨4 + 1, by omega, by go_num, HO3, hB3⟩
          case measure => simp [intOf]
        · rw [if_neg hc] at hE
          rw [decide_eq_false hc] at hb
          have HEQ : Hid ([40] ++ (List.range 4).flatMap (flagAt f) = [40] ++ (List.range (4 + 1)).flatMap (flagAt f)) := by rw [Hid, HST.out, hE, List.append_nil]
          clear hE
          go_wp2
          go_roundw
          case rel => exact ⟨4 + 1, by omega, by go_num, by rw [← HEQ.out]; exact hO, hB⟩
          case measure => simp [intOf]
    · obtain rfl : k = 5 := by omega
      go_wp2_with (at_builtin; refine wpList_append_bytes rfl (.tmp 20) (.tmp 21) 22 rfl i0 Tryd.underlying22 hi hz0 hz1 hz2 w.heap.size _ _ rfl (hO.out.alloc _) _ _ rfl (bs_one _ _ (by omega)) (by simp only [List.length_append, List.length_cons, List.length_nil]; omega) (by simp; omega) w (hB.out.alloc hsz _) ?_)
      intro v2 w2 hO2 hB2 _
      have HO2 : Hid (OwnB w2 w.heap.size v2 (flagsB f)) := by simpa [Hid, flagsB, show List.range 5 = [0, 1, 2, 3, 4] from rfl] using hO2
      clear hO2
      go_wp2
      go_ret
      exact ⟨_, rfl, HO2.out, hB2⟩

end Go.Proofs.YtlegmiaoablcgaaDoor

/- What l4piece, l4great, l4number of package spec do. -/
namespace Go.Proofs.YtlegmiaoablcgaaDoor
open Go.RowKit
set_option maxRecDepth 100000
set_option linter.unusedVariables false
set_option linter.unusedSimpArgs false

theorem ld_cases (x : Int) : (ldB x = true ∧ (97 ≤ x ∧ x ≤ 122 ∨ 65 ≤ x ∧ x ≤ 90 ∨ 48 ≤ x ∧ x ≤ 57)) ∨ (ldB x = false ∧ (x < 48 ∨ 57 < x ∧ x < 65 ∨ 90 < x ∧ x < 97 ∨ 122 < x)) := by
  by_cases h : 97 ≤ x ∧ x ≤ 122 ∨ 65 ≤ x ∧ x ≤ 90 ∨ 48 ≤ x ∧ x ≤ 57
  · exact .inl ⟨by simpa [ldB] using h, h⟩
  · exact .inr ⟨by simp [ldB]; omega, by omega⟩
theorem tw_len {p : Int → Bool} {l : List Int} {i k : Nat} (hik : i ≤ k) (hk : k ≤ l.length) (h : ∀ j, i ≤ j → j < k → p (l.getD j 0) = true) (he : k < l.length → p (l.getD k 0) = false) : ((l.drop i).takeWhile p).length = k - i := by
  have : ∀ (n : Nat) (s : List Int), (∀ j, j < n → p (s.getD j 0) = true) → n ≤ s.length → (n < s.length → p (s.getD n 0) = false) → (s.takeWhile p).length = n := by
    intro n
    induction n with
    | zero =>
      intro s _ _ h3
      cases s with
      | nil => rfl
      | cons x s => have := h3 (by simp); simp at this; simp [this]
    | succ n ih =>
      intro s h1 h2 h3
      cases s with
      | nil => simp at h2
      | cons x s =>
        have hx := h1 0 (by omega)
        simp at hx
        have := ih s (fun j hj => by have := h1 (j + 1) (by omega); simpa using this) (by simpa using h2) (fun hj => by have := h3 (by simpa using hj); simpa using this)
        simp [hx, this]
  refine this (k - i) (l.drop i) (fun j hj => ?_) (by simp; omega) (fun hj => ?_)
  · have := h (i + j) (by omega) (by omega)
    simpa [List.getD, List.getElem?_drop] using this
  · simp at hj
    have := he (by omega)
    simp only [List.getD, List.getElem?_drop]
    rw [show i + (k - i) = k by omega]
    exact this

set_option maxHeartbeats 1000000 in
theorem l4piece_any (v : Value) (l : List Int) (i : Nat) (w : World) (hv : Bs w v l) (hi : i ≤ l.length) (hl : l.length ≤ 2000000) :
    Calls Tryd.prog 69 #[v, .int .i64 i] w fun e w' => e = .returned (.int .i64 ((i + ((l.drop i).takeWhile ldB).length : Nat) : Int)) ∧ w' = w := by
  obtain ⟨ho, a, cap, rfl, hlc, hcm, hnil, hcells⟩ := hv
  unfold maxLen at hcm
  have HCC : Hid (∀ k, k < l.length → ∃ b off, a = some ⟨b, off, none⟩ ∧ b < w.heap.size ∧ w.cell? ⟨b, off + k, none⟩ = some (.int .u8 (l.getD k 0))) := fun k hk => let ⟨b, off, e, h1, h2⟩ := hcells (by omega); ⟨b, off, e, h1, h2 k hk⟩
  clear hcells
  go_enter Tryd.func69, Tryd.ntmps69
  go_wp2
  go_loop [1] (fun iv => ∃ k : Nat, i ≤ k ∧ k ≤ l.length ∧ iv = .int .i64 k ∧ Hid (∀ j, i ≤ j → j < k → ldB (l.getD j 0) = true)) (fun iv => l.length - (intOf iv).toNat)
  case atStart => exact ⟨i, Nat.le_refl _, hi, rfl, fun j h1 h2 => by omega⟩
  case round =>
    obtain ⟨k, hik, hk, rfl, hA⟩ := hrel
    by_cases hlt : k < l.length
    · obtain ⟨b, off, rfl, hlb, hx⟩ := HCC.out k hlt
      have hbx := oct_get ho k
      have HEX : Hid (ldB (l.getD k 0) = false → ((l.drop i).takeWhile ldB).length = k - i) := fun h => tw_len hik hk hA.out (fun _ => h)
      have HST : Hid (ldB (l.getD k 0) = true → ∀ j, i ≤ j → j < k + 1 → ldB (l.getD j 0) = true) := fun h j h1 h2 => by
        by_cases e : j = k
        · subst e; exact h
        · exact hA.out j h1 (by omega)
      generalize l.getD k 0 = x at hx hbx HEX HST
      rcases ld_cases x with ⟨hld, c⟩ | ⟨hld, c⟩
      · have HK : Hid _ := HST.out hld
        clear HST HEX hld
        rcases c with ⟨c1, c2⟩ | ⟨c1, c2⟩ | ⟨c1, c2⟩
        all_goals
          go_wp2
          go_round
          case rel => exact ⟨k + 1, by omega, by omega, by go_num, HK⟩
          case measure => simp [intOf]; omega
      · have HK : Hid _ := HEX.out hld
        clear HST HEX hld
        rcases c with c | ⟨c1, c2⟩ | ⟨c1, c2⟩ | c
        all_goals
          go_wp2
          go_ret
          exact ⟨ret_i (by rw [HK.out]; omega), rfl⟩
    · obtain rfl : k = l.length := by omega
      go_wp2
      go_ret
      exact ⟨ret_i (by rw [tw_len hi (Nat.le_refl _) hA.out (fun h => by omega)]; omega), rfl⟩

set_option maxHeartbeats 400000 in
theorem l4great_any (v : Value) (l : List Int) (w : World) (hv : Bs w v l) (hl : l.length ≤ 2000000) :
    Calls Tryd.prog 71 #[v] w fun e w' => e = .returned (.bool (greatB l)) ∧ w' = w := by
  obtain ⟨ho, a, cap, rfl, hlc, hcm, hnil, hcells⟩ := hv
  unfold maxLen at hcm
  have HCC : Hid (∀ k, k < l.length → ∃ b off, a = some ⟨b, off, none⟩ ∧ b < w.heap.size ∧ w.cell? ⟨b, off + k, none⟩ = some (.int .u8 (l.getD k 0))) := fun k hk => let ⟨b, off, e, h1, h2⟩ := hcells (by omega); ⟨b, off, e, h1, h2 k hk⟩
  clear hcells
  go_enter Tryd.func71, Tryd.ntmps71
  go_wp2
  go_loop [3] (fun i => ∃ k : Nat, k ≤ l.length ∧ i = .int .i64 k ∧ Hid (∀ j, j < k → 65 ≤ l.getD j 0 ∧ l.getD j 0 ≤ 90)) (fun i => l.length - (intOf i).toNat)
  case atStart => exact ⟨0, Nat.zero_le _, rfl, fun j hj => absurd hj (Nat.not_lt_zero _)⟩
  case round =>
    obtain ⟨k, hk, rfl, hA⟩ := hrel
    by_cases hlt : k < l.length
    · obtain ⟨b, off, rfl, hlb, hx⟩ := HCC.out k hlt
      have hbx := oct_get ho k
      have HNO : Hid (¬ (65 ≤ l.getD k 0 ∧ l.getD k 0 ≤ 90) → greatB l = false) := fun h => by unfold greatB; rw [allIn_no k hlt h]; rfl
      have HST : Hid ((65 ≤ l.getD k 0 ∧ l.getD k 0 ≤ 90) → ∀ j, j < k + 1 → 65 ≤ l.getD j 0 ∧ l.getD j 0 ≤ 90) := fun h j h2 => by
        by_cases e : j = k
        · subst e; exact h
        · exact hA.out j (by omega)
      generalize l.getD k 0 = x at hx hbx HNO HST
      by_cases c1 : 65 ≤ x
      · by_cases c2 : x ≤ 90
        · have HK : Hid _ := HST.out ⟨c1, c2⟩
          clear HST HNO
          go_wp2
          go_round
          case rel => exact ⟨k + 1, by omega, by go_num, HK⟩
          case measure => simp [intOf]; omega
        · have HK : Hid _ := HNO.out (fun h => c2 h.2)
          clear HST HNO
          go_wp2
          go_ret
          exact ⟨ret_b HK.out, rfl⟩
      · have HK : Hid _ := HNO.out (fun h => c1 h.1)
        clear HST HNO
        go_wp2
        go_ret
        exact ⟨ret_b HK.out, rfl⟩
    · obtain rfl : k = l.length := by omega
      have HK : Hid (greatB l = decide (0 < l.length)) := by
        show _ = _
        unfold greatB
        rw [allIn_yes hA.out, Bool.true_and]
      go_wp2
      go_ret
      exact ⟨ret_b HK.out, rfl⟩

end Go.Proofs.YtlegmiaoablcgaaDoor

/- What l4number of package spec does. -/
namespace Go.Proofs.YtlegmiaoablcgaaDoor
open Go.RowKit
set_option maxRecDepth 100000
set_option linter.unusedVariables false
set_option linter.unusedSimpArgs false

theorem tab_num8 : (Tryd.f70.body.bind (opsAt 8)).all (fun o => tableO o 18 [0, 1, 2, 3, 4, 5, 6, 7, 8, 9, 12, 13, 10, 16, 11, 14, 15, 17] [12, 14]) = true := by kernel_rfl
theorem valM_le (a b : List Int) : valM a ≤ valM (a ++ b) := by
  induction b generalizing a with
  | nil => simp
  | cons x b ih =>
    have h := ih (a ++ [x])
    rw [valM_snoc, List.append_assoc, List.singleton_append] at h
    omega
theorem num_bad {l : List Int} {k : Nat} (hk : k < l.length) (h : ¬ (48 ≤ l.getD k 0 ∧ l.getD k 0 ≤ 57)) : numM l = none :=
  numM_none fun n _ e => h (digB_digits n _ (by rw [e, List.getD_eq_getElem?_getD, List.getElem?_eq_getElem hk]; simp))
theorem num_great {l : List Int} {k : Nat} (h : 1000000 < valM (l.take k)) : numM l = none :=
  numM_none fun n hn e => by
    have h1 := valM_le (l.take k) (l.drop k)
    have h2 : valM l = n := by rw [← e, valM_dig]
    rw [List.take_append_drop] at h1
    omega
theorem valM_step {l : List Int} {k : Nat} (hk : k < l.length) : valM (l.take (k + 1)) = valM (l.take k) * 10 + (l.getD k 0 - 48).toNat := by
  rw [List.take_succ_eq_append_getElem hk, valM_snoc, List.getD_eq_getElem?_getD, List.getElem?_eq_getElem hk]; simp

set_option maxRecDepth 100000 in
set_option maxHeartbeats 2000000 in
theorem l4number_any (v : Value) (l : List Int) (w : World) (hv : Bs w v l) (hl : l.length ≤ 2000000) :
    Calls Tryd.prog 70 #[v] w fun e w' => ∃ n : Int, e = .returned (.tuple #[.int .i64 n, .bool (numM l).isSome]) ∧ (∀ m, numM l = some m → n = m) ∧ Below w.heap.size w w' := by
  have HV : Hid (∀ w', Below w.heap.size w w' → Bs w' v l) := fun w' h => hv.below h
  obtain ⟨ho, a, cap, rfl, hlc, hcm, hnil, hcells⟩ := hv
  unfold maxLen at hcm
  have HCV : Hid (∀ w', Below w.heap.size w w' → (convert 22 9 (.slice a l.length cap)).run Tryd.prog w' = .ok (.string (strOfNums l)) w') := fun w' h => run_convert_bs (HV.out w' h)
  have HCC : Hid (∀ k, k < l.length → ∃ b off, a = some ⟨b, off, none⟩ ∧ b < w.heap.size ∧ w.cell? ⟨b, off + k, none⟩ = some (.int .u8 (l.getD k 0))) := fun k hk => let ⟨b, off, e, h1, h2⟩ := hcells (by omega); ⟨b, off, e, h1, h2 k hk⟩
  have HO : Hid (Oct l) := ho
  clear hcells
  go_enter Tryd.func70, Tryd.ntmps70
  go_wp2
  go_loop [4, 5] (fun nv iv => ∃ k n : Nat, k ≤ l.length ∧ iv = .int .i64 k ∧ nv = .int .i64 n ∧ n ≤ 10000009 ∧ Hid (valM (l.take k) = n)) (fun _ iv => l.length - (intOf iv).toNat)
  case atStart => exact ⟨0, 0, Nat.zero_le _, rfl, rfl, by omega, rfl⟩
  case round =>
    obtain ⟨k, n, hk, rfl, rfl, hn, hA⟩ := hrel
    by_cases hlt : k < l.length
    · obtain ⟨b, off, rfl, hlb, hx⟩ := HCC.out k hlt
      have hbx := oct_get ho k
      have HBAD : Hid (¬ (48 ≤ l.getD k 0 ∧ l.getD k 0 ≤ 57) → numM l = none) := num_bad hlt
      have HGR : Hid (1000000 < n → numM l = none) := fun h => num_great (k := k) (by rw [hA.out]; exact h)
      have HST : Hid (valM (l.take (k + 1)) = n * 10 + (l.getD k 0 - 48).toNat) := by show _ = _; rw [valM_step hlt, hA.out]
      generalize l.getD k 0 = x at hx hbx HBAD HST
      by_cases c1 : 48 ≤ x
      · by_cases c2 : x ≤ 57
        · by_cases c3 : 1000000 < n
          · have HK : Hid _ := HGR.out c3
            have c3' : (1000000 : Int) < (n : Int) := by omega
            clear HST HBAD HGR
            go_wp2
            go_ret2
            exact ⟨0, by rw [HK.out]; rfl, fun m h => (by rw [HK.out] at h; cases h), Below.refl _ _⟩
          · have c3' : (n : Int) ≤ 1000000 := by omega
            clear HBAD HGR
            go_wp2
            go_round
            case rel => exact ⟨k + 1, n * 10 + (x - 48).toNat, by omega, by go_num, by congr 1; omega, by omega, HST⟩
            case measure => simp [intOf]; omega
        · have HK : Hid _ := HBAD.out (fun h => c2 h.2)
          clear HST HBAD HGR
          go_wp2
          go_ret2
          exact ⟨0, by rw [HK.out]; rfl, fun m h => (by rw [HK.out] at h; cases h), Below.refl _ _⟩
      · have HK : Hid _ := HBAD.out (fun h => c1 h.1)
        clear HST HBAD HGR
        go_wp2
        go_ret2
        exact ⟨0, by rw [HK.out]; rfl, fun m h => (by rw [HK.out] at h; cases h), Below.refl _ _⟩
    · obtain rfl : k = l.length := by omega
      have HVA : Hid (valM l = n) := by have h := hA.out; rw [List.take_length] at h; exact h
      have HBD : Hid (Below w.heap.size w w.drew) := (Below.refl _ _).drew
      by_cases c0 : 0 < l.length
      · by_cases c3 : n ≤ 1000000
        · have c3' : (n : Int) ≤ 1000000 := by omega
          have HDC : Hid ((numM l).isSome = decide (digB n = l)) := by
            show _ = _
            unfold numM
            rw [HVA.out]
            by_cases h : digB n = l
            · rw [if_pos ⟨c3, h⟩]; simp [h]
            · rw [if_neg (fun h' => h h'.2)]; simp [h]
          have HNM : Hid (∀ m, numM l = some m → (n : Int) = m) := fun m h => by
            have := numM_some.1 h
            rw [← this.2, valM_dig] at HVA
            have := HVA.out
            omega
          have HE : Hid (((strOfNums (digB n)).toList == (strOfNums l).toList) = decide (digB n = l)) := str_same (ofU8_oct _) HO.out
          have e3 := HE.out
          have hd0 : decide (0 < l.length) = true := decide_eq_true c0
          have hd1 : decide ((n : Int) ≤ 1000000) = true := decide_eq_true c3'
          go_wp2
          refine wpO_begin (S := fun w' => (convert 22 9 (.slice a l.length cap)).run Tryd.prog w' = .ok (.string (strOfNums l)) w') (tabO_of (by kernel_rfl) tab_num8) (by kernel_rfl) (HCV.out _ HBD.out) (fun hTb hHeld => ?_)
          refine tkw 0 0 37 hTb hHeld ?_
          refine tkw 1 1 38 hTb hHeld ?_
          refine tkw 2 2 39 hTb hHeld ?_
          refine tkw 3 3 40 hTb hHeld ?_
          refine tkw 4 4 41 hTb hHeld ?_
          refine tkw 5 5 42 hTb hHeld ?_
          refine tkw 6 6 43 hTb hHeld ?_
          refine tkw 7 7 44 hTb hHeld ?_
          refine tkw 8 8 45 hTb hHeld ?_
          refine tkw 9 9 46 hTb hHeld ?_
          refine tkw 10 12 49 hTb hHeld ?_
          refine tkw 11 13 50 hTb hHeld ?_
          refine clo 12 10 hTb (by decide) rfl ?_
          refine AllReadyH.cons rfl (fun K hK => ?_) AllReadyH.nil
          go_simp
          refine (l4digits_r n (by omega) _).mono ?_
          rintro e w1 ⟨u, rfl, O1, B1⟩
          have HBu : Hid (Bs w1 u (digB n)) := O1.bs
          have HB1 : Hid (Below w.heap.size w w1) := Below.step HBD.out B1
          obtain ⟨ua, un, uc, hu⟩ := O1.bs.form3
          subst hu
          have hcv := run_convert_bs HBu.out
          clear O1 B1
          refine hK.out _ _ (HCV.out _ HB1.out) (fun hHeld => ?_)
          clear hK K
          refine wpOrd_in (n := 18) (p := 12) (i := 10) rfl rfl rfl ?_
          refine tkw 13 16 2 hTb hHeld ?_
          refine clo 14 11 hTb (by decide) rfl ?_
          refine AllReadyH.cons rfl (fun K hK => ?_) AllReadyH.nil
          go_simp
          refine hK.out _ _ (HCV.out _ HB1.out) (fun hHeld => ?_)
          clear hK K
          refine wpOrd_in (n := 18) (p := 14) (i := 11) rfl rfl rfl ?_
          refine tkw 15 14 51 hTb hHeld ?_
          refine tkw 16 15 52 hTb hHeld ?_
          refine tkw 17 17 3 hTb hHeld ?_
          refine wpO_end hTb ?_
          go_wp2
          go_ret2
          exact ⟨n, by rw [HDC.out]; rfl, HNM.out, HB1.out⟩
        · have hd0 : decide (0 < l.length) = true := decide_eq_true c0
          have hd1 : decide ((n : Int) ≤ 1000000) = false := decide_eq_false (by omega)
          have HK : Hid (numM l = none) := num_great (k := l.length) (by rw [List.take_length, HVA.out]; omega)
          go_wp2
          refine wp_region_held_drew (S := fun w' => True) (by kernel_rfl) (trivial) (fun hHeld => (show wpAnyH _ _ _ _ _ 18 #[false, false, false, false, false, false, false, false, false, false, false, false, false, false, false, false, false, false] _ _ from ?_))
          refine tq 0 37 hHeld ?_
          refine tq 1 38 hHeld ?_
          refine tq 2 39 hHeld ?_
          refine tq 3 40 hHeld ?_
          refine tq 4 41 hHeld ?_
          refine tq 5 42 hHeld ?_
          refine tq 6 43 hHeld ?_
          refine tq 7 44 hHeld ?_
          refine tq 8 45 hHeld ?_
          refine wpAnyH_skips (by kernel_rfl) (fun _ _ _ _ _ h => h) hHeld [9, 10, 11, 12, 13, 14] [46, 47, 48, 49, 50, 51] _ _ _ (by kernel_rfl) ?_
          simp only [List.foldl_cons, List.foldl_nil, Act.put, sA, s0, sS]
          refine tq 15 52 hHeld ?_
          refine tq 16 2 hHeld ?_
          refine tq 17 3 hHeld ?_
          refine wpAnyH_done (by kernel_rfl) ?_ _
          go_wp2
          go_ret2
          exact ⟨n, by rw [HK.out]; rfl, fun m h => (by rw [HK.out] at h; cases h), HBD.out⟩
      · have hd0 : decide (0 < l.length) = false := decide_eq_false c0
        have HK : Hid (numM l = none) := numM_none fun m _ e => digB_ne m (by rw [e]; exact List.length_eq_zero_iff.1 (by omega))
        go_wp2
        refine wp_region_held_drew (S := fun w' => True) (by kernel_rfl) (trivial) (fun hHeld => (show wpAnyH _ _ _ _ _ 18 #[false, false, false, false, false, false, false, false, false, false, false, false, false, false, false, false, false, false] _ _ from ?_))
        refine tq 0 37 hHeld ?_
        refine tq 1 38 hHeld ?_
        refine tq 2 39 hHeld ?_
        refine tq 3 40 hHeld ?_
        refine tq 4 41 hHeld ?_
        refine wpAnyH_skips (by kernel_rfl) (fun _ _ _ _ _ h => h) hHeld [5, 6] [42, 43] _ _ _ (by kernel_rfl) ?_
        simp only [List.foldl_cons, List.foldl_nil, Act.put, sA, s0, sS]
        refine tq 7 44 hHeld ?_
        refine tq 8 45 hHeld ?_
        refine wpAnyH_skips (by kernel_rfl) (fun _ _ _ _ _ h => h) hHeld [9, 10, 11, 12, 13, 14] [46, 47, 48, 49, 50, 51] _ _ _ (by kernel_rfl) ?_
        simp only [List.foldl_cons, List.foldl_nil, Act.put, sA, s0, sS]
        refine tq 15 52 hHeld ?_
        refine tq 16 2 hHeld ?_
        refine tq 17 3 hHeld ?_
        refine wpAnyH_done (by kernel_rfl) ?_ _
        go_wp2
        go_ret2
        exact ⟨n, by rw [HK.out]; rfl, fun m h => (by rw [HK.out] at h; cases h), HBD.out⟩

end Go.Proofs.YtlegmiaoablcgaaDoor

/- What l3name of package spec does. -/
namespace Go.Proofs.YtlegmiaoablcgaaDoor
open Go.RowKit
set_option maxRecDepth 100000

set_option maxHeartbeats 400000 in
theorem l3name_any (v : Value) (l : List Int) (w : World) (hv : Bs w v l) :
    Calls Tryd.prog 48 #[v] w fun e w' => e = .returned (.bool (nameB l)) ∧ w' = w := by
  obtain ⟨ho, a, cap, rfl, hlc, hcm, hnil, hcells⟩ := hv
  unfold maxLen at hcm
  by_cases h0 : 1 ≤ l.length
  · by_cases h1 : l.length ≤ 6
    · have HN : Hid (nameB l = allIn 97 122 l) := by simp [Hid, nameB, h0, h1]
      obtain ⟨b, off, rfl, hlb, hc⟩ := hcells (by omega)
      go_enter Tryd.func48, Tryd.ntmps48
      go_wp2
      go_loop [3] (fun i => ∃ k : Nat, k ≤ l.length ∧ i = .int .i64 k ∧ Hid (∀ j, j < k → 97 ≤ l.getD j 0 ∧ l.getD j 0 ≤ 122)) (fun i => l.length - (intOf i).toNat)
      case atStart => exact ⟨0, Nat.zero_le _, rfl, fun j hj => absurd hj (Nat.not_lt_zero _)⟩
      case round =>
        obtain ⟨k, hk, rfl, hA⟩ := hrel
        by_cases hlt : k < l.length
        · have hx := hc k hlt
          have hbx := oct_get ho k
          have HY : Hid (l.getD k 0 = l.getD k 0) := rfl
          generalize hy : l.getD k 0 = x at hx hbx HY
          have HX : Hid (l.getD k 0 = x) := hy
          clear hy HY hc
          by_cases c1 : 97 ≤ x
          · by_cases c2 : x ≤ 122
            · go_wp2
              go_round
              case rel =>
                refine ⟨k + 1, by omega, by go_num, (show Hid _ from fun j hj => ?_)⟩
                by_cases e : j = k
                · subst e; rw [HX.out]; exact ⟨c1, c2⟩
                · exact hA.out j (by omega)
              case measure => simp [intOf]; omega
            · go_wp2
              go_ret
              exact ⟨ret_b (a := false) (by rw [HN.out, allIn_no k hlt (by rw [HX.out]; omega)]), rfl⟩
          · go_wp2
            go_ret
            exact ⟨ret_b (a := false) (by rw [HN.out, allIn_no k hlt (by rw [HX.out]; omega)]), rfl⟩
        · obtain rfl : k = l.length := by omega
          go_wp2
          go_ret
          exact ⟨ret_b (a := true) (by rw [HN.out, allIn_yes hA.out]), rfl⟩
    · have HN : Hid (nameB l = false) := by simp [Hid, nameB, h1]
      go_enter Tryd.func48, Tryd.ntmps48
      go_wp2
      go_ret
      exact ⟨ret_b (a := false) HN.out, rfl⟩
  · have HN : Hid (nameB l = false) := by simp [Hid, nameB, h0]
    go_enter Tryd.func48, Tryd.ntmps48
    go_wp2
    go_ret
    exact ⟨ret_b (a := false) HN.out, rfl⟩

end Go.Proofs.YtlegmiaoablcgaaDoor

/- What l3text of package spec does. -/
namespace Go.Proofs.YtlegmiaoablcgaaDoor
open Go.RowKit
set_option maxRecDepth 100000

set_option maxHeartbeats 400000 in
theorem l3text_any (v : Value) (l : List Int) (w : World) (hv : Bs w v l) :
    Calls Tryd.prog 50 #[v] w fun e w' => e = .returned (.bool (textB l)) ∧ w' = w := by
  obtain ⟨ho, a, cap, rfl, hlc, hcm, hnil, hcells⟩ := hv
  unfold maxLen at hcm
  by_cases h0 : l.length ≤ 30
  · by_cases h1 : True
    · have HN : Hid (textB l = allIn 32 126 l) := by simp [Hid, textB, h0]
      clear h1
      go_enter Tryd.func50, Tryd.ntmps50
      go_wp2
      go_loop [3] (fun i => ∃ k : Nat, k ≤ l.length ∧ i = .int .i64 k ∧ Hid (∀ j, j < k → 32 ≤ l.getD j 0 ∧ l.getD j 0 ≤ 126)) (fun i => l.length - (intOf i).toNat)
      case atStart => exact ⟨0, Nat.zero_le _, rfl, fun j hj => absurd hj (Nat.not_lt_zero _)⟩
      case round =>
        obtain ⟨k, hk, rfl, hA⟩ := hrel
        by_cases hlt : k < l.length
        · obtain ⟨b, off, rfl, hlb, hc⟩ := hcells (by omega)
          have hx := hc k hlt
          have hbx := oct_get ho k
          have HY : Hid (l.getD k 0 = l.getD k 0) := rfl
          generalize hy : l.getD k 0 = x at hx hbx HY
          have HX : Hid (l.getD k 0 = x) := hy
          clear hy HY hc hcells
          by_cases c1 : 32 ≤ x
          · by_cases c2 : x ≤ 126
            · go_wp2
              go_round
              case rel =>
                refine ⟨k + 1, by omega, by go_num, (show Hid _ from fun j hj => ?_)⟩
                by_cases e : j = k
                · subst e; rw [HX.out]; exact ⟨c1, c2⟩
                · exact hA.out j (by omega)
              case measure => simp [intOf]; omega
            · go_wp2
              go_ret
              exact ⟨ret_b (a := false) (by rw [HN.out, allIn_no k hlt (by rw [HX.out]; omega)]), rfl⟩
          · go_wp2
            go_ret
            exact ⟨ret_b (a := false) (by rw [HN.out, allIn_no k hlt (by rw [HX.out]; omega)]), rfl⟩
        · obtain rfl : k = l.length := by omega
          go_wp2
          go_ret
          exact ⟨ret_b (a := true) (by rw [HN.out, allIn_yes hA.out]), rfl⟩
    · exact absurd trivial h1
  · have HN : Hid (textB l = false) := by simp [Hid, textB, h0]
    go_enter Tryd.func50, Tryd.ntmps50
    go_wp2
    go_ret
    exact ⟨ret_b (a := false) HN.out, rfl⟩

end Go.Proofs.YtlegmiaoablcgaaDoor

/- What PutText and GetText answer, on lists. -/
namespace Go.Proofs.YtlegmiaoablcgaaDoor
open Go.RowKit

/-- What PutText answers. -/
def putTL (b t : List Int) : List Int := if 30 < t.length then b else putL b t.length ++ t
theorem putTL_length (b t : List Int) : (putTL b t).length ≤ b.length + 35 := by
  unfold putTL
  have := putL_length b t.length
  split
  · omega
  · simp; omega

/-- What GetText answers. -/
def getTL (l : List Int) (at' : Int) : List Int × Int :=
  if (getL l at').2 < 0 ∨ 30 < (getL l at').1 ∨ (l.length : Int) - (getL l at').2 < (getL l at').1 then ([], -1)
  else ((l.drop (getL l at').2.toNat).take (getL l at').1.toNat, (getL l at').2 + (getL l at').1)

theorem dec_bd (f i : Nat) (n sc : Int) (l : List Int) (hn : 0 ≤ n) (hs : 0 ≤ sc) : dec f i n sc l = none ∨ ∃ m k, dec f i n sc l = some (m, k) ∧ 0 ≤ m ∧ m ≤ 2147483647 ∧ i < k ∧ k ≤ i + l.length := by
  induction f generalizing i n sc l with
  | zero => left; rfl
  | succ f ih =>
    cases l with
    | nil => left; rfl
    | cons x r =>
      simp only [dec]
      have hx : 0 ≤ x % 128 * sc := Int.mul_nonneg (by omega) hs
      split
      · split
        · left; rfl
        · right; refine ⟨_, _, rfl, by omega, by omega, by omega, by simp⟩
      · rcases ih (i + 1) (n + x % 128 * sc) (sc * 128) r (by omega) (by omega) with h | ⟨m, k, h1, h2, h3, h4, h5⟩
        · left; exact h
        · right; exact ⟨m, k, h1, h2, h3, by omega, by simp; omega⟩
theorem getL_bd (l : List Int) (at' : Int) : getL l at' = (0, -1) ∨ (0 ≤ (getL l at').1 ∧ (getL l at').1 ≤ 2147483647 ∧ 1 ≤ (getL l at').2 ∧ (getL l at').2 ≤ l.length) := by
  unfold getL
  split
  · left; rfl
  · rcases dec_bd 5 0 0 1 (l.drop at'.toNat) (by omega) (by omega) with h | ⟨m, k, h1, h2, h3, h4, h5⟩
    · rw [h]; left; rfl
    · right
      rw [h1]
      simp at h5
      simp only [outOf]
      omega
theorem getTL_length (l : List Int) (at' : Int) : (getTL l at').1.length ≤ 30 := by
  unfold getTL
  split
  · simp
  · simp; omega

/-- A cut of a slice of bytes, not at its very end. -/
theorem bs_cut {w : World} {b off cap : Nat} {l : List Int} (hv : Bs w (.slice (some ⟨b, off, none⟩) l.length cap) l) (lo n : Nat) (h : lo + n ≤ l.length) :
    Bs w (.slice (some ⟨b, off + lo, none⟩) n (cap - lo)) ((l.drop lo).take n) := by
  obtain ⟨ho, a, cap', hv, h1, h2, h3, h4⟩ := hv
  simp only [Value.slice.injEq] at hv
  obtain ⟨rfl, -, rfl⟩ := hv
  have hl : ((l.drop lo).take n).length = n := by simp; omega
  refine ⟨oct_take (oct_drop ho _) _, _, cap - lo, by rw [hl], by rw [hl]; omega, by omega, (fun h => by cases h), fun hp => ?_⟩
  rw [hl] at hp
  obtain ⟨b', off', e, hlt, hc⟩ := h4 (by omega)
  simp only [Option.some.injEq, Addr.mk.injEq, and_true] at e
  obtain ⟨rfl, rfl⟩ := e
  refine ⟨b, off + lo, rfl, hlt, fun i hi => ?_⟩
  rw [hl] at hi
  rw [Nat.add_assoc, hc (lo + i) (by omega)]
  simp [hi]
theorem bs_empty (w : World) (x : Addr) (c : Nat) (hc : c ≤ maxLen) : Bs w (.slice (some x) 0 c) [] :=
  ⟨oct_nil, some x, c, rfl, by simp, hc, (fun h => by cases h), fun h => absurd h (by simp)⟩

end Go.Proofs.YtlegmiaoablcgaaDoor

/- What l4one of package spec does: a piece of letters and digits. -/
namespace Go.Proofs.YtlegmiaoablcgaaDoor
open Go.RowKit
set_option maxRecDepth 100000
set_option linter.unusedVariables false
set_option linter.unusedSimpArgs false

theorem take_tw {α : Type} (p : α → Bool) : ∀ s : List α, s.take (s.takeWhile p).length = s.takeWhile p
  | [] => rfl
  | x :: s => by
    by_cases h : p x = true
    · simp [h, take_tw p s]
    · simp [h]

set_option maxRecDepth 100000 in
set_option maxHeartbeats 4000000 in
theorem l4one_pc (v : Value) (l : List Int) (i : Nat) (w : World) (hv : Bs w v l) (hil : i < l.length) (hl : l.length ≤ 2000) (h40 : l.getD i 0 ≠ 40) (h34 : l.getD i 0 ≠ 34) :
    Calls Tryd.prog 51 #[v, .int .i64 i] w (OneP w l (oneM i (l.drop i))) := by
  obtain ⟨res, hres⟩ : ∃ res, res = oneM i (l.drop i) := ⟨_, rfl⟩
  have HRES : Hid (res = oneM i (l.drop i)) := hres
  rw [← hres]
  clear hres
  have HV : Hid (∀ w', Below w.heap.size w w' → Bs w' v l) := fun w' h => hv.below h
  obtain ⟨ho, a, cap, rfl, hlc, hcm, hnil, hcells⟩ := hv
  unfold maxLen at hcm
  obtain ⟨b, off, rfl, hlb, hcs⟩ := hcells (by omega)
  have HCC : Hid (∀ k, k < l.length → w.cell? ⟨b, off + k, none⟩ = some (.int .u8 (l.getD k 0))) := hcs
  have HO : Hid (Oct l) := ho
  obtain ⟨i0, hi, hz0, hz1, hz2⟩ := info_parts info5
  obtain ⟨kR, kT, X⟩ := boxes2 w (.cells #[.int .i64 0, .int .i64 0, .int .i64 0, .slice none 0 0] 59) (.cells #[.int .i64 0, .int .i64 i, .int .i64 0, .slice none 0 0] 59)
  have HX : Hid (Below w.heap.size w ((w.alloc (.cells #[.int .i64 0, .int .i64 0, .int .i64 0, .slice none 0 0] 59)).alloc (.cells #[.int .i64 0, .int .i64 i, .int .i64 0, .slice none 0 0] 59))) := X
  have HKR : Hid _ := kR
  have HKT : Hid _ := kT
  have hsW : ((w.alloc (.cells #[.int .i64 0, .int .i64 0, .int .i64 0, .slice none 0 0] 59)).alloc (.cells #[.int .i64 0, .int .i64 i, .int .i64 0, .slice none 0 0] 59)).heap.size = w.heap.size + 2 := by simp
  have hxi := oct_get ho i
  have hxc := HCC.out i hil
  have HXI : Hid (l.drop i = l.getD i 0 :: l.drop (i + 1)) := drop_cons hil
  generalize l.getD i 0 = x at hxi hxc HXI h40 h34
  have hxW : ((w.alloc (.cells #[.int .i64 0, .int .i64 0, .int .i64 0, .slice none 0 0] 59)).alloc (.cells #[.int .i64 0, .int .i64 i, .int .i64 0, .slice none 0 0] 59)).cell? ⟨b, off + i, none⟩ = some (.int .u8 x) := (X.cell (p := ⟨b, off + i, none⟩) hlb).trans hxc
  have hlbW : b < ((w.alloc (.cells #[.int .i64 0, .int .i64 0, .int .i64 0, .slice none 0 0] 59)).alloc (.cells #[.int .i64 0, .int .i64 i, .int .i64 0, .slice none 0 0] 59)).heap.size := by omega
  have hii : (i : Int) < (l.length : Int) := by omega
  clear hcells hcs kR kT X hxc
  go_enter Tryd.func51, Tryd.ntmps51
  go_upto_region 2 with fail
  generalize ((w.alloc (.cells #[.int .i64 0, .int .i64 0, .int .i64 0, .slice none 0 0] 59)).alloc (.cells #[.int .i64 0, .int .i64 i, .int .i64 0, .slice none 0 0] 59)) = W at HX HKR HKT hsW hxW hlbW ⊢
  have hsW2 : w.heap.size + 2 ≤ W.heap.size := by omega
  clear hsW
  have hx40 : (x == 40) = false := by simp [h40]
  have hx34 : (x == 34) = false := by simp [h34]
  go_wp2_with fail
  refine (l4piece_any _ l i W (HV.out W HX.out) (by omega) (by omega)).mono ?_
  rintro e w1 ⟨rfl, hw1⟩
  obtain rfl := hw1.symm
  obtain ⟨wd, hwd⟩ : ∃ wd, wd = (l.drop i).takeWhile ldB := ⟨_, rfl⟩
  have HWD : Hid (wd = (l.drop i).takeWhile ldB) := hwd
  obtain ⟨N, hN⟩ : ∃ N, N = wd.length := ⟨_, rfl⟩
  have HNN : Hid (N = wd.length) := hN
  rw [← hwd, ← hN]
  have hle : i + N ≤ l.length := by
    have h1 : ((l.drop i).takeWhile ldB).length + ((l.drop i).dropWhile ldB).length = (l.drop i).length := by rw [← List.length_append, List.takeWhile_append_dropWhile]
    rw [← hwd, ← hN, List.length_drop] at h1
    omega
  have HTK : Hid ((l.drop i).take N = wd) := by
    show _ = _
    rw [hN, hwd]
    exact take_tw _ _
  have HDL : Hid (l.length - ((l.drop i).dropWhile ldB).length = i + N) := by
    show _ = _
    have h1 : ((l.drop i).takeWhile ldB).length + ((l.drop i).dropWhile ldB).length = (l.drop i).length := by rw [← List.length_append, List.takeWhile_append_dropWhile]
    rw [← hwd, ← hN, List.length_drop] at h1
    omega
  clear hwd hN
  have HE : Hid (OwnB (W.alloc (.cells #[] 5)) W.heap.size (.slice (some ⟨W.heap.size, 0, none⟩) 0 0) []) := ownB_empty W _ (Nat.le_refl _)
  have HBE : Hid (Below W.heap.size W (W.alloc (.cells #[] 5))) := (Below.refl _ _).alloc (Nat.le_refl _) _
  have HC : Hid (Bs (W.alloc (.cells #[] 5)) (.slice (some ⟨b, off + i, none⟩) (i + N - i) (cap - i)) wd) := by rw [Nat.add_sub_cancel_left, ← HTK.out]; exact (bs_cut (HV.out W HX.out) i N (by omega)).alloc _
  have hci : ¬ cap = i := by omega
  have hwl : wd.length ≤ 2000 := by have := HNN.out; omega
  go_wp2_with (at_builtin; refine wpList_append_bytes rfl (.tmp 128) (.tmp 132) 22 rfl i0 Tryd.underlying22 hi hz0 hz1 hz2 W.heap.size _ [] rfl HE.out _ wd rfl HC.out (by simp; omega) (by simp) W HBE.out ?_)
  intro u w2 hO2 hB2 _
  have HRW : Hid (Row w2 W.heap.size w2.heap.size u wd) := OwnB.toRow (by simpa using hO2)
  obtain ⟨ua, un, uc, hu⟩ := HRW.out.bs.form3
  subst hu
  have HB2 : Hid (Below W.heap.size W w2) := hB2
  clear hO2 hB2 HE HBE HC hxW
  go_wp2_with fail
  refine (l4number_any _ wd w2 HRW.out.bs (by omega)).mono ?_
  rintro e w3 ⟨n, rfl, hnum, B3⟩
  have HB3 : Hid (Below w.heap.size w w3) := Below.step (Below.step HX.out HB2.out) B3
  have HKR3 : Hid _ := box_below (Below.step HB2.out B3) HKR.out
  have HKT3 : Hid _ := box_below (Below.step HB2.out B3) HKT.out
  have HRW3 : Hid (Row w3 W.heap.size w3.heap.size (.slice ua un uc) wd) := (HRW.out.below B3).wide (Nat.le_refl _) B3.size
  have hw3 : W.heap.size ≤ w3.heap.size := Nat.le_trans HB2.out.size B3.size
  have HNUM : Hid (∀ m, numM wd = some m → n = m) := hnum
  clear B3 HRW HB2 HKR HKT hnum
  cases hm : numM wd with
  | some m =>
    have hnm := HNUM.out m hm
    subst hnm
    have HM : Hid (numM wd = some m) := hm
    have HNZ : Hid (N ≠ 0) := fun h => by
      have := (numM_some.1 hm).2
      have h2 := HNN.out
      rw [h] at h2
      exact digB_ne m (this.trans (List.length_eq_zero_iff.1 h2.symm))
    have HDL2 : Hid (((l.drop i).dropWhile ldB).length < l.length) := by have := HDL.out; have := HNZ.out; show _ < _; omega
    clear hm
    have HKT4 : Hid (((w3.setCell ⟨w.heap.size + 1, 0, none⟩ (.int .i64 3)).setCell ⟨w.heap.size + 1, 2, none⟩ (.int .i64 (m : Int))).heap[w.heap.size + 1]? = some (.cells #[.int .i64 3, .int .i64 i, .int .i64 (m : Int), .slice none 0 0] 59 (0, 0))) := (box_set (i := 2) (v := .int .i64 (m : Int)) (box_set (i := 0) (v := .int .i64 3) HKT3.out))
    have HKR4 : Hid (((w3.setCell ⟨w.heap.size + 1, 0, none⟩ (.int .i64 3)).setCell ⟨w.heap.size + 1, 2, none⟩ (.int .i64 (m : Int))).heap[w.heap.size]? = some (.cells #[.int .i64 0, .int .i64 0, .int .i64 0, .slice none 0 0] 59 (0, 0))) := (box_other (k := w.heap.size + 1) (i := 2) (v := .int .i64 (m : Int)) (box_other (k := w.heap.size + 1) (i := 0) (v := .int .i64 3) HKR3.out (by omega)) (by omega))
    have HB4 : Hid (Below w.heap.size w ((w3.setCell ⟨w.heap.size + 1, 0, none⟩ (.int .i64 3)).setCell ⟨w.heap.size + 1, 2, none⟩ (.int .i64 (m : Int)))) := ((HB3.out.setCell (p := ⟨w.heap.size + 1, 0, none⟩) (by simp) _).setCell (p := ⟨w.heap.size + 1, 2, none⟩) (by simp) _)
    have hsz4 : ((w3.setCell ⟨w.heap.size + 1, 0, none⟩ (.int .i64 3)).setCell ⟨w.heap.size + 1, 2, none⟩ (.int .i64 (m : Int))).heap.size = w3.heap.size := by simp only [box_size]
    obtain ⟨t0, t1, t2, t3⟩ := tx4 HKT3.out
    obtain ⟨tz, tl⟩ := box8z HKT3.out
    go_upto_region 43 with fail
    clear t0 t1 t2 t3 tz tl
    generalize ((w3.setCell ⟨w.heap.size + 1, 0, none⟩ (.int .i64 3)).setCell ⟨w.heap.size + 1, 2, none⟩ (.int .i64 (m : Int))) = w4 at HKT4 HKR4 HB4 hsz4 ⊢
    obtain ⟨r0, r1, r2, r3⟩ := tx4 HKR4.out
    obtain ⟨t0, t1, t2, t3⟩ := tx4 HKT4.out
    obtain ⟨rz, rl⟩ := box8z HKR4.out
    obtain ⟨tz, tl⟩ := box8z HKT4.out
    have HF : Hid _ := tok_fin (w := w) HKR4.out (Nat.le_refl _) HB4.out (.int .i64 3) (.int .i64 i) (.int .i64 (m : Int)) (.slice none 0 0)
    go_wp2
    obtain ⟨f0, f1, f2, f3⟩ := tx4 HF.out.1
    refine bodyPost_ret (v := .tuple #[.agg #[.int .i64 3, .int .i64 i, .int .i64 (m : Int), .slice none 0 0], .int .i64 ((i + N : Nat) : Int)]) (by simp [results, Tryd.results51, go_sem, f0, f1, f2, f3]) rfl ⟨HF.out.2.1, ?_⟩
    have hr := HRES.out
    rw [HXI.out] at hr
    simp only [oneM] at hr
    rw [if_neg (by omega), if_neg (by omega), ← HXI.out, ← HWD.out, HM.out] at hr
    subst hr
    exact ⟨none, 0, 0, by rw [HDL.out], Row.nil _ _ _, HDL2.out⟩
  | none =>
    have HM : Hid (numM wd = none) := hm
    clear hm
    go_wp2_with fail
    refine (l3name_any _ wd w3 HRW3.out.bs).mono ?_
    rintro e w9 ⟨rfl, hw9⟩
    obtain rfl := hw9.symm
    cases hb : nameB wd with
    | true =>
      have HNB : Hid (nameB wd = true) := hb
      have HDL2 : Hid (((l.drop i).dropWhile ldB).length < l.length) := by have := HDL.out; have := (nameB_len hb).1; have := HNN.out; show _ < _; omega
      clear hb
      have HKT4 : Hid (((w3.setCell ⟨w.heap.size + 1, 0, none⟩ (.int .i64 2)).setCell ⟨w.heap.size + 1, 3, none⟩ (.slice ua un uc)).heap[w.heap.size + 1]? = some (.cells #[.int .i64 2, .int .i64 i, .int .i64 0, .slice ua un uc] 59 (0, 0))) := (box_set (i := 3) (v := .slice ua un uc) (box_set (i := 0) (v := .int .i64 2) HKT3.out))
      have HKR4 : Hid (((w3.setCell ⟨w.heap.size + 1, 0, none⟩ (.int .i64 2)).setCell ⟨w.heap.size + 1, 3, none⟩ (.slice ua un uc)).heap[w.heap.size]? = some (.cells #[.int .i64 0, .int .i64 0, .int .i64 0, .slice none 0 0] 59 (0, 0))) := (box_other (k := w.heap.size + 1) (i := 3) (v := .slice ua un uc) (box_other (k := w.heap.size + 1) (i := 0) (v := .int .i64 2) HKR3.out (by omega)) (by omega))
      have HB4 : Hid (Below w.heap.size w ((w3.setCell ⟨w.heap.size + 1, 0, none⟩ (.int .i64 2)).setCell ⟨w.heap.size + 1, 3, none⟩ (.slice ua un uc))) := ((HB3.out.setCell (p := ⟨w.heap.size + 1, 0, none⟩) (by simp) _).setCell (p := ⟨w.heap.size + 1, 3, none⟩) (by simp) _)
      have HRW4 : Hid (Row ((w3.setCell ⟨w.heap.size + 1, 0, none⟩ (.int .i64 2)).setCell ⟨w.heap.size + 1, 3, none⟩ (.slice ua un uc)) W.heap.size w3.heap.size (.slice ua un uc) wd) := (HRW3.out.set (.inl (by omega))).set (.inl (by omega))
      have hsz4 : ((w3.setCell ⟨w.heap.size + 1, 0, none⟩ (.int .i64 2)).setCell ⟨w.heap.size + 1, 3, none⟩ (.slice ua un uc)).heap.size = w3.heap.size := by simp only [box_size]
      obtain ⟨t0, t1, t2, t3⟩ := tx4 HKT3.out
      obtain ⟨tz, tl⟩ := box8z HKT3.out
      go_upto_region 43 with fail
      clear t0 t1 t2 t3 tz tl
      generalize ((w3.setCell ⟨w.heap.size + 1, 0, none⟩ (.int .i64 2)).setCell ⟨w.heap.size + 1, 3, none⟩ (.slice ua un uc)) = w4 at HKT4 HKR4 HB4 hsz4 HRW4 ⊢
      obtain ⟨r0, r1, r2, r3⟩ := tx4 HKR4.out
      obtain ⟨t0, t1, t2, t3⟩ := tx4 HKT4.out
      obtain ⟨rz, rl⟩ := box8z HKR4.out
      obtain ⟨tz, tl⟩ := box8z HKT4.out
      have HF : Hid _ := tok_fin (w := w) HKR4.out (Nat.le_refl _) HB4.out (.int .i64 2) (.int .i64 i) (.int .i64 0) (.slice ua un uc)
      go_wp2
      obtain ⟨f0, f1, f2, f3⟩ := tx4 HF.out.1
      refine bodyPost_ret (v := .tuple #[.agg #[.int .i64 2, .int .i64 i, .int .i64 0, .slice ua un uc], .int .i64 ((i + N : Nat) : Int)]) (by simp [results, Tryd.results51, go_sem, f0, f1, f2, f3]) rfl ⟨HF.out.2.1, ?_⟩
      have hr := HRES.out
      rw [HXI.out] at hr
      simp only [oneM] at hr
      rw [if_neg (by omega), if_neg (by omega), ← HXI.out, ← HWD.out, HM.out, if_pos HNB.out] at hr
      subst hr
      refine ⟨ua, un, uc, by rw [HDL.out], ?_, HDL2.out⟩
      exact Row.wide (B := W.heap.size) (T := w3.heap.size) ((((HRW4.out.set (.inl (by omega))).set (.inl (by omega))).set (.inl (by omega))).set (.inl (by omega))) (by omega) (by simp only [box_size]; omega)
    | false =>
      have HNB : Hid (nameB wd = false) := hb
      clear hb
      go_wp2_with fail
      refine (l4great_any _ wd w3 HRW3.out.bs (by omega)).mono ?_
      rintro e w9 ⟨rfl, hw9⟩
      obtain rfl := hw9.symm
      cases hg : greatB wd with
      | true =>
        have HGB : Hid (greatB wd = true) := hg
        have HDL2 : Hid (((l.drop i).dropWhile ldB).length < l.length) := by
          have := HDL.out
          have h1 : 0 < wd.length := by unfold greatB at hg; simp at hg; exact hg.2
          have := HNN.out
          show _ < _
          omega
        clear hg
        have HKT4 : Hid (((w3.setCell ⟨w.heap.size + 1, 0, none⟩ (.int .i64 1)).setCell ⟨w.heap.size + 1, 3, none⟩ (.slice ua un uc)).heap[w.heap.size + 1]? = some (.cells #[.int .i64 1, .int .i64 i, .int .i64 0, .slice ua un uc] 59 (0, 0))) := (box_set (i := 3) (v := .slice ua un uc) (box_set (i := 0) (v := .int .i64 1) HKT3.out))
        have HKR4 : Hid (((w3.setCell ⟨w.heap.size + 1, 0, none⟩ (.int .i64 1)).setCell ⟨w.heap.size + 1, 3, none⟩ (.slice ua un uc)).heap[w.heap.size]? = some (.cells #[.int .i64 0, .int .i64 0, .int .i64 0, .slice none 0 0] 59 (0, 0))) := (box_other (k := w.heap.size + 1) (i := 3) (v := .slice ua un uc) (box_other (k := w.heap.size + 1) (i := 0) (v := .int .i64 1) HKR3.out (by omega)) (by omega))
        have HB4 : Hid (Below w.heap.size w ((w3.setCell ⟨w.heap.size + 1, 0, none⟩ (.int .i64 1)).setCell ⟨w.heap.size + 1, 3, none⟩ (.slice ua un uc))) := ((HB3.out.setCell (p := ⟨w.heap.size + 1, 0, none⟩) (by simp) _).setCell (p := ⟨w.heap.size + 1, 3, none⟩) (by simp) _)
        have HRW4 : Hid (Row ((w3.setCell ⟨w.heap.size + 1, 0, none⟩ (.int .i64 1)).setCell ⟨w.heap.size + 1, 3, none⟩ (.slice ua un uc)) W.heap.size w3.heap.size (.slice ua un uc) wd) := (HRW3.out.set (.inl (by omega))).set (.inl (by omega))
        have hsz4 : ((w3.setCell ⟨w.heap.size + 1, 0, none⟩ (.int .i64 1)).setCell ⟨w.heap.size + 1, 3, none⟩ (.slice ua un uc)).heap.size = w3.heap.size := by simp only [box_size]
        obtain ⟨t0, t1, t2, t3⟩ := tx4 HKT3.out
        obtain ⟨tz, tl⟩ := box8z HKT3.out
        go_upto_region 43 with fail
        clear t0 t1 t2 t3 tz tl
        generalize ((w3.setCell ⟨w.heap.size + 1, 0, none⟩ (.int .i64 1)).setCell ⟨w.heap.size + 1, 3, none⟩ (.slice ua un uc)) = w4 at HKT4 HKR4 HB4 hsz4 HRW4 ⊢
        obtain ⟨r0, r1, r2, r3⟩ := tx4 HKR4.out
        obtain ⟨t0, t1, t2, t3⟩ := tx4 HKT4.out
        obtain ⟨rz, rl⟩ := box8z HKR4.out
        obtain ⟨tz, tl⟩ := box8z HKT4.out
        have HF : Hid _ := tok_fin (w := w) HKR4.out (Nat.le_refl _) HB4.out (.int .i64 1) (.int .i64 i) (.int .i64 0) (.slice ua un uc)
        go_wp2
        obtain ⟨f0, f1, f2, f3⟩ := tx4 HF.out.1
        refine bodyPost_ret (v := .tuple #[.agg #[.int .i64 1, .int .i64 i, .int .i64 0, .slice ua un uc], .int .i64 ((i + N : Nat) : Int)]) (by simp [results, Tryd.results51, go_sem, f0, f1, f2, f3]) rfl ⟨HF.out.2.1, ?_⟩
        have hr := HRES.out
        rw [HXI.out] at hr
        simp only [oneM] at hr
        rw [if_neg (by omega), if_neg (by omega), ← HXI.out, ← HWD.out, HM.out, if_neg (by rw [HNB.out]; simp), if_pos HGB.out] at hr
        subst hr
        refine ⟨ua, un, uc, by rw [HDL.out], ?_, HDL2.out⟩
        exact Row.wide (B := W.heap.size) (T := w3.heap.size) ((((HRW4.out.set (.inl (by omega))).set (.inl (by omega))).set (.inl (by omega))).set (.inl (by omega))) (by omega) (by simp only [box_size]; omega)
      | false =>
        have HGB : Hid (greatB wd = false) := hg
        clear hg
        obtain ⟨r0, r1, r2, r3⟩ := tx4 HKR3.out
        obtain ⟨t0, t1, t2, t3⟩ := tx4 HKT3.out
        obtain ⟨rz, rl⟩ := box8z HKR3.out
        obtain ⟨tz, tl⟩ := box8z HKT3.out
        have HF : Hid _ := tok_fin (w := w) HKR3.out (Nat.le_refl _) HB3.out (.int .i64 0) (.int .i64 i) (.int .i64 0) (.slice none 0 0)
        go_wp2
        obtain ⟨f0, f1, f2, f3⟩ := tx4 HF.out.1
        refine bodyPost_ret (v := .tuple #[.agg #[.int .i64 0, .int .i64 i, .int .i64 0, .slice none 0 0], .int .i64 (-1)]) (by simp [results, Tryd.results51, go_sem, f0, f1, f2, f3]) rfl ⟨HF.out.2.1, ?_⟩
        have hr := HRES.out
        rw [HXI.out] at hr
        simp only [oneM] at hr
        rw [if_neg (by omega), if_neg (by omega), ← HXI.out, ← HWD.out, HM.out, if_neg (by rw [HNB.out]; simp), if_neg (by rw [HGB.out]; simp)] at hr
        subst hr
        exact ⟨_, _, _, _, _, _, rfl⟩

end Go.Proofs.YtlegmiaoablcgaaDoor

/- Regions that draw their order, walked in phases: each phase has a condition on the world of its own; a phase is closed when all that comes behind it waits for it. -/
namespace Go.Proofs.YtlegmiaoablcgaaDoor
set_option linter.unusedVariables false

/-- Is one of the operations A still to come? -/
def left (A : List Nat) (L : Array Bool) : Bool := A.any fun i => !(L.getD i true)
theorem left_mem {A : List Nat} {L : Array Bool} {i : Nat} (h : i ∈ A) (h' : L.getD i true = false) : left A L = true := by
  unfold left
  rw [List.any_eq_true]
  exact ⟨i, h, by rw [h']; rfl⟩
theorem left_no {A : List Nat} {L : Array Bool} (h : ∀ i, i ∈ A → L.getD i false = true) : left A L = false := by
  unfold left
  rw [List.any_eq_false]
  intro i hi
  have := h i hi
  by_cases hs : i < L.size
  · simp [hs] at this ⊢; exact this
  · simp [Array.getElem?_eq_none (Nat.le_of_not_lt hs)] at this

/-- What an operation waits for. -/
def waits (md : Region.Mode) (ops : Array Oper) (j : Nat) : List Nat := match ops[j]? with
  | some o => (o.after.toList.filter (Region.binds md)).map (·.on)
  | none => []
inductive Anc (md : Region.Mode) (ops : Array Oper) : Nat → Nat → Prop
  | one {j i : Nat} : i ∈ waits md ops j → Anc md ops j i
  | more {j k i : Nat} : k ∈ waits md ops j → Anc md ops k i → Anc md ops j i
theorem Anc.then {md : Region.Mode} {ops : Array Oper} {j k i : Nat} (h : Anc md ops j k) (hi : i ∈ waits md ops k) : Anc md ops j i := by
  induction h with
  | one h => exact .more h (.one hi)
  | more h _ ih => exact .more h (ih hi)
def ClosedL (md : Region.Mode) (ops : Array Oper) (L : Array Bool) : Prop := ∀ k i, L.getD k false = true → i ∈ waits md ops k → L.getD i false = true
theorem anc_listed {md : Region.Mode} {ops : Array Oper} {L : Array Bool} {k i : Nat} (hc : ClosedL md ops L) (hk : L.getD k false = true) (h : Anc md ops k i) : L.getD i false = true := by
  induction h with
  | one h => exact hc _ _ hk h
  | more h _ ih => exact ih (hc _ _ hk h)
theorem ready_waits {md : Region.Mode} {ops : Array Oper} {L : Array Bool} {j i : Nat} (hj : j ∈ Region.ready md ops L) (h : i ∈ waits md ops j) : L.getD i false = true := by
  obtain ⟨-, o, ho, hall⟩ := mem_ready.1 hj
  unfold waits at h
  rw [ho] at h
  simp only [List.mem_map, List.mem_filter] at h
  obtain ⟨e, ⟨he, hb⟩, rfl⟩ := h
  exact hall e (by simpa using he) hb
theorem anc_ready {md : Region.Mode} {ops : Array Oper} {L : Array Bool} {j i : Nat} (hc : ClosedL md ops L) (hj : j ∈ Region.ready md ops L) (h : Anc md ops j i) : L.getD i false = true := by
  cases h with
  | one h => exact ready_waits hj h
  | more h h' => exact anc_listed hc (ready_waits hj h) h'
theorem closed_step {md : Region.Mode} {ops : Array Oper} {L : Array Bool} {j : Nat} (hc : ClosedL md ops L) (hj : j ∈ Region.ready md ops L) : ClosedL md ops (L.setIfInBounds j true) := by
  intro k i hk hi
  by_cases hjk : j = k
  · subst hjk; exact getD_set_true (ready_waits hj hi)
  · rw [getD_set_ne false hjk] at hk
    exact getD_set_true (hc k i hk hi)

/-- The operations that come ahead of one, gathered. -/
def addNew (l : List Nat) (i : Nat) : List Nat := if l.contains i then l else i :: l
theorem mem_addNew {xs l : List Nat} {i : Nat} (h : i ∈ xs.foldl addNew l) : i ∈ l ∨ i ∈ xs := by
  induction xs generalizing l with
  | nil => exact .inl h
  | cons x xs ih =>
    rcases ih h with h | h
    · unfold addNew at h
      split at h
      · exact .inl h
      · rcases List.mem_cons.1 h with rfl | h
        · exact .inr (List.mem_cons_self ..)
        · exact .inl h
    · exact .inr (List.mem_cons_of_mem _ h)
def ancL (md : Region.Mode) (ops : Array Oper) (j : Nat) : Nat → List Nat
  | 0 => waits md ops j
  | f + 1 => ((ancL md ops j f).flatMap (waits md ops)).foldl addNew (ancL md ops j f)
theorem anc_of {md : Region.Mode} {ops : Array Oper} {j : Nat} : ∀ (f i : Nat), i ∈ ancL md ops j f → Anc md ops j i
  | 0, i, h => .one h
  | f + 1, i, h => by
    rcases mem_addNew h with h | h
    · exact anc_of f i h
    · rw [List.mem_flatMap] at h
      obtain ⟨k, hk, hi⟩ := h
      exact (anc_of f k hk).then hi

section
variable {P : Program} {md : Region.Mode} {ops : Array Oper} {Q : Exit → Act → World → Prop} {S : World → Prop} {A : List Nat}
/-- Whatever order is picked: while one of A is still to come S holds behind each operation; then the rest goes in whatever order. -/
def wpAnyS (P : Program) (md : Region.Mode) (ops : Array Oper) (Q : Exit → Act → World → Prop) (S : World → Prop) (A : List Nat) : Nat → Array Bool → Act → World → Prop
  | 0, L, a, w => Region.ready md ops L = [] ∧ Q .normal a w
  | n + 1, L, a, w => (left A L = false → wpAny P md ops Q (n + 1) L a w) ∧ (left A L = true → (Region.ready md ops L = [] → Q .normal a w) ∧
      ∀ i ∈ Region.ready md ops L, wpOp P ops Q i (fun a' w' => S w' ∧ wpAnyS P md ops Q S A n (L.setIfInBounds i true) a' w') a w)
theorem wpAny_of_phase : ∀ (n : Nat) (L : Array Bool) (a : Act) (w : World), wpAnyS P md ops Q S A n L a w → wpAny P md ops Q n L a w
  | 0, _, _, _, h => h
  | n + 1, L, a, w, h => by
    cases hl : left A L with
    | false => exact h.1 hl
    | true => exact ⟨(h.2 hl).1, fun i hi => wpOp_mono (fun a' w' q => wpAny_of_phase n _ a' w' q.2) ((h.2 hl).2 i hi)⟩
/-- All that is not of A waits for all of A. -/
def Parts (md : Region.Mode) (ops : Array Oper) (A : List Nat) : Prop := ∀ j, (∃ o, ops[j]? = some o) → j ∉ A → ∀ i, i ∈ A → Anc md ops j i
theorem parts_ready {L : Array Bool} {j : Nat} (hA : Parts md ops A) (hc : ClosedL md ops L) (hj : j ∈ Region.ready md ops L) (hn : j ∉ A) : left A L = false := by
  obtain ⟨-, o, ho, -⟩ := mem_ready.1 hj
  exact left_no fun i hi => anc_ready hc hj (hA j ⟨o, ho⟩ hn i hi)
theorem wpAnyS_first {i : Nat} {oi : Oper} {v : Value} (hi : ops[i]? = some oi) (hR : i ∈ A) (hA : Parts md ops A) (hsel : ∀ (j : Nat) (o : Oper) cs b, ops[j]? = some o → o.op ≠ .select cs b) (hQ : ∀ c a w, Q (.panic c) (a.put oi.dst v) w → Q (.panic c) a w)
    (n : Nat) : ∀ (L : Array Bool) (a : Act) (w : World), ClosedL md ops L →
      (∀ j oj, ops[j]? = some oj → j ≠ i → L.getD j true = false → (∀ e ∈ oj.after, Region.binds md e = true → e.on ≠ i) → oi.apart ops oj = true) →
      i ∈ Region.ready md ops L → YieldsIf P ops S oi v a → S w → wpAnyS P md ops Q S A n (L.setIfInBounds i true) (a.put oi.dst v) w → wpAnyS P md ops Q S A (n + 1) L a w := by
  induction n with
  | zero =>
    intro L a w hc _ hr hy hS H
    have hl : left A L = true := left_mem hR (mem_ready.1 hr).1
    refine ⟨fun h => absurd hl (by rw [h]; simp), fun _ => ⟨fun h => absurd hr (by rw [h]; simp), fun j hj => ?_⟩⟩
    by_cases hji : j = i
    · subst hji; exact hy.wpOp hi hS ⟨hS, H⟩
    · exact absurd (ready_mono hj hji) (by rw [H.1]; simp)
  | succ n ih =>
    intro L a w hc hfree hr hy hS H
    have hl : left A L = true := left_mem hR (mem_ready.1 hr).1
    refine ⟨fun h => absurd hl (by rw [h]; simp), fun _ => ⟨fun h => absurd hr (by rw [h]; simp), fun j hj => ?_⟩⟩
    by_cases hji : j = i
    · subst hji; exact hy.wpOp hi hS ⟨hS, H⟩
    obtain ⟨hjun, oj, hoj, hall⟩ := mem_ready.1 hj
    have hjA : j ∈ A := by
      by_cases h : j ∈ A
      · exact h
      · exact absurd hl (by rw [parts_ready hA hc hj h]; simp)
    have hil := (mem_ready.1 hr).1
    have hnot : ∀ e ∈ oj.after, Region.binds md e = true → e.on ≠ i := by
      intro e he hb heq
      have q := hall e he hb
      rw [heq] at q
      by_cases hs : i < L.size
      · simp [hs] at hil q; rw [hil] at q; cases q
      · simp [Array.getElem?_eq_none (Nat.le_of_not_lt hs)] at q
    have hl' : left A (L.setIfInBounds i true) = true := left_mem hjA (by rw [getD_set_ne true (Ne.symm hji)]; exact hjun)
    have step := wpOp_putIf hoj (hfree j oj hoj hji hjun hnot) (fun cs b => hsel i oi cs b hi) (fun cs b => hsel j oj cs b hoj) hQ hy ((H.2 hl').2 j (ready_mono hj hji))
    refine wpOp_mono (fun a' w' q => ?_) step
    obtain ⟨q1, q2, q3⟩ := q
    exact ⟨q2, ih (L.setIfInBounds j true) a' w' (closed_step hc hj) (fun k ok hk hki hun hno => hfree k ok hk hki (by
        by_cases hjk : j = k
        · subst hjk; exact hjun
        · rwa [getD_set_ne true hjk] at hun) hno) (ready_mono hr (Ne.symm hji)) q1 q2 (by rw [Array.setIfInBounds_comm _ _ hji]; exact q3)⟩
end

/-- The table of a region that is walked in phases: qs, how many operations of the order are done at the end of each; f, how far ahead it is looked. -/
def tableS (ops : Array Oper) (n : Nat) (ord cs qs : List Nat) (f : Nat) : Bool :=
  tableO ops n ord cs && ((List.range (n + 1)).all (fun p => (List.range n).all fun k => !((doneA n (ord.take p)).getD k false) || (waits .any ops k).all fun i => (doneA n (ord.take p)).getD i false) &&
    qs.all fun q => (List.range n).all fun j => (ord.take q).contains j || (ord.take q).all fun i => (ancL .any ops j f).contains i)
structure TabS (ops : Array Oper) (n : Nat) (ord cs qs : List Nat) (f : Nat) : Prop where
  out : tableS ops n ord cs qs f = true

/-- What is left of the region when the first p operations of the order are done, in the phase that ends at q. -/
def wpPh (P : Program) (ops : Array Oper) (Q : Exit → Act → World → Prop) (S : World → Prop) (n : Nat) (ord : List Nat) (q p : Nat) (a : Act) (w : World) : Prop := wpAnyS P .any ops Q S (ord.take q) (n - p) (doneA n (ord.take p)) a w

section
variable {P : Program} {ops : Array Oper} {Q : Exit → Act → World → Prop} {S : World → Prop} {n f : Nat} {ord cs qs : List Nat} {a : Act} {w : World}
theorem tabS_of {c : Option Code} {id : Nat} (h : c.bind (opsAt id) = some ops) (T : (c.bind (opsAt id)).all (fun o => tableS o n ord cs qs f) = true) : TabS ops n ord cs qs f := by
  rw [h] at T; exact ⟨by simpa using T⟩
theorem TabS.o (T : TabS ops n ord cs qs f) : TabO ops n ord cs := by
  have := T.out
  simp only [tableS, Bool.and_eq_true] at this
  exact ⟨this.1⟩
theorem TabS.closed (T : TabS ops n ord cs qs f) {p : Nat} (hp : p ≤ n) : ClosedL .any ops (doneA n (ord.take p)) := by
  have h := T.out
  simp only [tableS, Bool.and_eq_true, List.all_eq_true, List.mem_range] at h
  intro k i hk hi
  have hs := (tabO_parts T.o).1
  have hkn : k < n := by
    by_cases hkn : k < n
    · exact hkn
    · unfold waits at hi
      rw [Array.getElem?_eq_none (by omega)] at hi
      cases hi
  have := h.2.1 p (by omega) k hkn
  rw [hk] at this
  simp only [Bool.not_true, Bool.false_or, List.all_eq_true] at this
  exact this i hi
theorem TabS.parts (T : TabS ops n ord cs qs f) {q : Nat} (hq : q ∈ qs) : Parts .any ops (ord.take q) := by
  have h := T.out
  simp only [tableS, Bool.and_eq_true, List.all_eq_true, List.mem_range] at h
  intro j hj hn i hi
  have hs := (tabO_parts T.o).1
  obtain ⟨o, ho⟩ := hj
  have hjn : j < n := by rw [← hs]; exact (Array.getElem?_eq_some_iff.1 ho).1
  have := h.2.2 q hq j hjn
  simp only [Bool.or_eq_true, List.contains_iff_mem, List.all_eq_true] at this
  rcases this with h | h
  · exact absurd h hn
  · exact anc_of f i (h i hi)
theorem wpS_begin {id : Nat} (q : Nat) (T : TabS ops n ord cs qs f) (hm : P.follows .mixedOrders = true) (hS : S w.drew) (h : TabS ops n ord cs qs f → S w.drew → wpPh P ops Q S n ord q 0 a w.drew) : Code.wp P (.region id ops true) Q a w := by
  refine wp_region_any hm ?_
  have h1 := (tabO_parts T.o).1
  have := wpAny_of_phase _ _ _ _ (h T hS)
  subst h1
  exact this
/-- The operation at place p is taken; it is wanted. -/
theorem tks0 (p i d : Nat) {q : Nat} {oi : Oper} (v : Value) (T : TabS ops n ord cs qs f) (hy : ∀ w, S w → (execOp a.eval oi).run P w = .ok (.value v) w) (hS : S w) (h : wpPh P ops Q S n ord q (p + 1) (setT a d v) w)
    (hp : (ord.take q)[p]? = some i) (hc : ¬ p ∈ cs) (hq : q ∈ qs) (hi : ops[i]? = some oi)
    (hg : (oi.dst == some d && Region.wanted oi (yielded ops a.tmps)) = true) (hQ : ∀ c a w, Q (.panic c) (a.put (some d) v) w → Q (.panic c) a w) : wpPh P ops Q S n ord q p a w := by
  obtain ⟨h1, h2, h3, h4, h5, h6⟩ := tabO_parts T.o
  have hp' : ord[p]? = some i := by
    rw [List.getElem?_take] at hp
    split at hp
    · exact hp
    · cases hp
  have hlt : p < n := by have := (List.getElem?_eq_some_iff.1 hp').1; omega
  simp only [Bool.and_eq_true, beq_iff_eq] at hg
  rw [← put_setT] at h
  unfold wpPh at h ⊢
  rw [show n - p = (n - (p + 1)) + 1 by omega]
  rw [← doneA_step hp'] at h
  exact wpAnyS_first hi (List.mem_of_getElem? hp) (T.parts hq) (Region.noSelect_spec h3) (by rw [hg.1]; exact hQ) _ _ _ _ (T.closed (by omega)) (Region.free_spec hi (h4 p i hp' hc).1) (by simpa using (h4 p i hp' hc).2) (Or.inl ⟨hg.2, hy⟩) hS (by rw [hg.1]; exact h)
/-- The operation at place p comes up alone. -/
theorem cls (p i : Nat) {q : Nat} {oi : Oper} (T : TabS ops n ord cs qs f) (hc : p ∈ cs) (hp : (ord.take q)[p]? = some i) (hi : ops[i]? = some oi)
    (h : ∀ K : Act → World → Prop, Shut (∀ a w, S w → (S w → wpPh P ops Q S n ord q (p + 1) a w) → K a w) → if Region.wanted oi (yielded ops a.tmps) = true then Oper.wp P oi a w K Q else K (a.put oi.dst undef) w) : wpPh P ops Q S n ord q p a w := by
  obtain ⟨h1, h2, h3, h4, h5, h6⟩ := tabO_parts T.o
  have hp' : ord[p]? = some i := by
    rw [List.getElem?_take] at hp
    split at hp
    · exact hp
    · cases hp
  have hlt := (h6 p i hc hp').1
  have hr := (h6 p i hc hp').2
  have hun : (doneA n (ord.take p)).getD i true = false := (mem_ready.1 (show i ∈ Region.ready .any ops (doneA n (ord.take p)) by rw [hr]; simp)).1
  have hl : left (ord.take q) (doneA n (ord.take p)) = true := left_mem (List.mem_of_getElem? hp) hun
  unfold wpPh
  rw [show n - p = (n - (p + 1)) + 1 by omega]
  refine ⟨fun h => absurd hl (by rw [h]; simp), fun _ => ⟨fun h => absurd hr (by rw [h]; simp), fun j hj => ?_⟩⟩
  rw [hr] at hj
  obtain rfl : j = i := by simpa using hj
  exact wpOp_step hi (fun K hK => h K (fun a w hS hW => hK a w ⟨hS, by rw [doneA_step hp']; exact hW hS⟩))
/-- A phase is over, the next one begins. -/
theorem wpS_next {S' : World → Prop} (q q' : Nat) (T : TabS ops n ord cs qs f) (hl : left (ord.take q) (doneA n (ord.take q)) = false) (hS : S' w) (h : S' w → wpPh P ops Q S' n ord q' q a w) : wpPh P ops Q S n ord q q a w := by
  have h := wpAny_of_phase _ _ _ _ (h hS)
  unfold wpPh
  revert h
  generalize n - q = m
  intro h
  cases m with
  | zero => exact h
  | succ m => exact ⟨fun _ => h, fun hh => absurd hh (by rw [hl]; simp)⟩
theorem wpS_end {q : Nat} (T : TabS ops n ord cs qs f) (h : Q .normal a w) : wpPh P ops Q S n ord q n a w := by
  obtain ⟨h1, h2, h3, h4, h5, h6⟩ := tabO_parts T.o
  unfold wpPh
  rw [Nat.sub_self]
  exact ⟨h5, h⟩
end

/-- 'tks0', what it yields and the state behind it found by themselves. -/
theorem tks {P : Program} {ops : Array Oper} {Q : Exit → Act → World → Prop} {S : World → Prop} {n f q : Nat} {ord cs qs : List Nat} {a a' : Act} {w : World} (p i d : Nat) {oi : Oper} {v : Value} (T : TabS ops n ord cs qs f) (hS : S w) (h : wpPh P ops Q S n ord q (p + 1) a' w)
    (hp : (ord.take q)[p]? = some i := by rfl) (hc : ¬ p ∈ cs := by decide) (hq : q ∈ qs := by decide)
    (hi : ops[i]? = some oi := by rfl)
    (hg : (oi.dst == some d && Region.wanted oi (yielded ops a.tmps)) = true := by kernel_rfl)
    (hy : ∀ w, S w → (execOp a.eval oi).run P w = .ok (.value v) w := by (intro w s; (try dsimp only at s); go_simp <;> with_reducible rfl))
    (ha : setT a d v = a' := by (conv => lhs; dsimp only [setT, List.toList_toArray, put0, putS]))
    (hQ : ∀ c a w, Q (.panic c) (a.put (some d) v) w → Q (.panic c) a w := by exact fun _ _ _ h => h) : wpPh P ops Q S n ord q p a w :=
  tks0 p i d v T hy hS (by rw [ha]; exact h) hp hc hq hi hg hQ

end Go.Proofs.YtlegmiaoablcgaaDoor
