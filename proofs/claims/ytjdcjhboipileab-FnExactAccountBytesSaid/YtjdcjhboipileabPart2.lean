/- The proof's texts, part 2. -/
import Derived.Test.YtjdcjhboipileabPart1

/- Data with depth in memory: lists of structs, what they read as, and lists of the call's own, whose blocks lie in a set. -/
namespace Go.Proofs.Ytjdcjhboipileab
open Go.RowKit

/-- The blocks from B on and below T. -/
def In (B T : Nat) : Nat → Prop := fun b => B ≤ b ∧ b < T

/-- The slice value v reads as the list l, each element of sz cells that E says. -/
def Rd {α : Type} (sz : Nat) (E : World → List Value → α → Prop) (w : World) (v : Value) (l : List α) : Prop :=
  ∃ (a : Option Addr) (cap : Nat) (cs : Nat → List Value), v = .slice a l.length cap ∧ l.length ≤ cap ∧ cap ≤ maxLen ∧ (a = none → cap = 0) ∧
    (∀ i x, l[i]? = some x → E w (cs i) x ∧ (cs i).length = sz) ∧
    (0 < l.length → ∃ b off, a = some ⟨b, off, none⟩ ∧ b < w.heap.size ∧ ∀ i j u, i < l.length → (cs i)[j]? = some u → w.cell? ⟨b, off + i * sz + j, none⟩ = some u)

/-- What an element says stays while nothing old turns. -/
def Keeps {α : Type} (E : World → List Value → α → Prop) : Prop := ∀ w w' c x, Below w.heap.size w w' → E w c x → E w' c x

section
variable {α : Type} {sz : Nat} {E : World → List Value → α → Prop} {w w' : World} {v : Value} {l : List α}
theorem Rd.below (hE : Keeps E) (h : Rd sz E w v l) (hb : Below w.heap.size w w') : Rd sz E w' v l := by
  obtain ⟨a, cap, cs, hv, h1, h2, h3, h4, h5⟩ := h
  refine ⟨a, cap, cs, hv, h1, h2, h3, fun i x hx => ⟨hE _ _ _ _ hb (h4 i x hx).1, (h4 i x hx).2⟩, fun hp => ?_⟩
  obtain ⟨b, off, ha, hlt, hc⟩ := h5 hp
  exact ⟨b, off, ha, Nat.lt_of_lt_of_le hlt hb.size, fun i j u hi hu => (hb.cell (p := ⟨b, off + i * sz + j, none⟩) hlt).trans (hc i j u hi hu)⟩
theorem Rd.form (h : Rd sz E w v l) : ∃ a cap, v = .slice a l.length cap ∧ l.length ≤ cap ∧ cap ≤ 9223372036854775807 := by
  obtain ⟨a, cap, cs, hv, h1, h2, _⟩ := h
  exact ⟨a, cap, hv, h1, h2⟩
theorem Rd.get (h : Rd sz E w v l) (k : Nat) (x : α) (hx : l[k]? = some x) :
    ∃ b off cap c, v = .slice (some ⟨b, off, none⟩) l.length cap ∧ b < w.heap.size ∧ E w c x ∧ c.length = sz ∧ ∀ j u, c[j]? = some u → w.cell? ⟨b, off + k * sz + j, none⟩ = some u := by
  obtain ⟨a, cap, cs, hv, h1, h2, h3, h4, h5⟩ := h
  have hk : k < l.length := (List.getElem?_eq_some_iff.1 hx).1
  obtain ⟨b, off, rfl, hlt, hc⟩ := h5 (by omega)
  exact ⟨b, off, cap, cs k, hv, hlt, (h4 k x hx).1, (h4 k x hx).2, fun j u hu => hc k j u hk hu⟩
theorem Rd.nil (w : World) : Rd sz E w (.slice none 0 0) ([] : List α) := ⟨none, 0, fun _ => [], rfl, by simp, by simp, fun _ => rfl, by simp, by simp⟩
end

/-- The list l of the call's own: nil, or at the head of a block of S; what its elements lead to lies in S too, apart from that block and from one another. -/
def Ow {α : Type} (t : TypeId) (sz : Nat) (E : World → List Value → α → (Nat → Prop) → Prop) (w : World) (S : Nat → Prop) (v : Value) (l : List α) : Prop :=
  (v = .slice none 0 0 ∧ l = []) ∨
  ∃ (g cap : Nat) (cur : Array Value) (cs : Nat → List Value) (fs : Nat → Nat → Prop), v = .slice (some ⟨g, 0, none⟩) l.length cap ∧ w.heap[g]? = some (.cells cur t (0, 0)) ∧ l.length ≤ cap ∧ cap ≤ maxLen ∧ cur.size = cap * sz ∧ S g ∧
    (∀ i x, l[i]? = some x → E w (cs i) x (fs i) ∧ (cs i).length = sz ∧ ∀ j u, (cs i)[j]? = some u → cur[i * sz + j]? = some u) ∧
    (∀ i b, i < l.length → fs i b → S b ∧ b ≠ g) ∧ (∀ i j b, i < l.length → j < l.length → i ≠ j → fs i b → ¬ fs j b)

/-- What an element of the call's own says stays while its blocks do. -/
def Frames {α : Type} (E : World → List Value → α → (Nat → Prop) → Prop) : Prop := ∀ w w' c x S, E w c x S → (∀ b, S b → b < w.heap.size → w'.heap[b]? = w.heap[b]?) → E w' c x S

section
variable {α : Type} {t : TypeId} {sz : Nat} {E : World → List Value → α → (Nat → Prop) → Prop} {w w' : World} {S S' : Nat → Prop} {v : Value} {l : List α}
theorem Ow.frame (hE : Frames E) (h : Ow t sz E w S v l) (hw : ∀ b, S b → b < w.heap.size → w'.heap[b]? = w.heap[b]?) : Ow t sz E w' S v l := by
  rcases h with h | ⟨g, cap, cur, cs, fs, hv, hh, h1, h2, h3, h4, h5, h6, h7⟩
  · exact .inl h
  · refine .inr ⟨g, cap, cur, cs, fs, hv, (hw g h4 (lt_of_heap hh)).trans hh, h1, h2, h3, h4, fun i x hx => ⟨?_, (h5 i x hx).2⟩, h6, h7⟩
    have hi : i < l.length := (List.getElem?_eq_some_iff.1 hx).1
    exact hE _ _ _ _ _ (h5 i x hx).1 fun b hb hlt => hw b (h6 i b hi hb).1 hlt
theorem Ow.mono (h : Ow t sz E w S v l) (hS : ∀ b, S b → S' b) : Ow t sz E w S' v l := by
  rcases h with h | ⟨g, cap, cur, cs, fs, hv, hh, h1, h2, h3, h4, h5, h6, h7⟩
  · exact .inl h
  · exact .inr ⟨g, cap, cur, cs, fs, hv, hh, h1, h2, h3, hS g h4, h5, fun i b hi hb => ⟨hS b (h6 i b hi hb).1, (h6 i b hi hb).2⟩, h7⟩
theorem Ow.below (hE : Frames E) (h : Ow t sz E w S v l) (hb : Below w.heap.size w w') : Ow t sz E w' S v l := h.frame hE fun b _ hlt => hb.block b hlt
theorem Ow.keptW {B T : Nat} (hE : Frames E) (h : Ow t sz E w S v l) (hw : Within B T w w') (hd : ∀ b, S b → ¬ (B ≤ b ∧ b < T)) : Ow t sz E w' S v l := h.frame hE fun b hb hlt => hw.block b hlt (hd b hb)
theorem Ow.rd {RE : World → List Value → α → Prop} (hE : ∀ w c x S, E w c x S → RE w c x) (h : Ow t sz E w S v l) : Rd sz RE w v l := by
  rcases h with ⟨rfl, rfl⟩ | ⟨g, cap, cur, cs, fs, hv, hh, h1, h2, h3, h4, h5, h6, h7⟩
  · exact Rd.nil w
  · refine ⟨some ⟨g, 0, none⟩, cap, cs, hv, h1, h2, (fun h => by cases h), fun i x hx => ⟨hE _ _ _ _ (h5 i x hx).1, (h5 i x hx).2.1⟩, fun hp => ⟨g, 0, rfl, lt_of_heap hh, fun i j u hi hu => ?_⟩⟩
    rw [Nat.zero_add, cell_of_row w g _ cur t (0, 0) hh]
    exact (h5 i l[i] (List.getElem?_eq_getElem hi)).2.2 j u hu
end

/-- The cells of c laid into block g from o on. -/
def put (w : World) (g o : Nat) : List Value → World
  | [] => w
  | c :: cs => put (w.setCell ⟨g, o, none⟩ c) g (o + 1) cs

theorem put_spec (g : Nat) (t : TypeId) : ∀ (cs : List Value) (w : World) (o : Nat) (cur : Array Value), w.heap[g]? = some (.cells cur t (0, 0)) → o + cs.length ≤ cur.size →
    ∃ cur', (put w g o cs).heap[g]? = some (.cells cur' t (0, 0)) ∧ cur'.size = cur.size ∧ (∀ j u, cs[j]? = some u → cur'[o + j]? = some u) ∧ (∀ i, i < o ∨ o + cs.length ≤ i → cur'[i]? = cur[i]?) ∧ Within g (g + 1) w (put w g o cs)
  | [], w, o, cur, h, _ => ⟨cur, h, rfl, by simp, fun _ _ => rfl, Within.refl _ _ _⟩
  | c :: cs, w, o, cur, h, hs => by
    simp only [List.length_cons] at hs
    have h1 : (w.setCell ⟨g, o, none⟩ c).heap[g]? = some (.cells (cur.setIfInBounds o c) t (0, 0)) := heap_setCell_same w g o cur t c h
    obtain ⟨cur', e1, e2, e3, e4, e5⟩ := put_spec g t cs (w.setCell ⟨g, o, none⟩ c) (o + 1) _ h1 (by simp; omega)
    refine ⟨cur', e1, by simpa using e2, fun j u hu => ?_, fun i hi => ?_, ?_⟩
    · cases j with
      | zero =>
        simp at hu; subst hu
        rw [Nat.add_zero, e4 o (.inl (by omega)), Array.getElem?_setIfInBounds]
        simp [show o < cur.size by omega]
      | succ j =>
        have := e3 j u (by simpa using hu)
        rwa [show o + (j + 1) = o + 1 + j by omega]
    · simp only [List.length_cons] at hi
      rw [e4 i (by omega)]
      rw [Array.getElem?_setIfInBounds]
      simp [show ¬ o = i by omega]
    · exact (⟨rfl, rfl, rfl, by simp [World.setCell], fun k hk hn => Below.heap_setCell w ⟨g, o, none⟩ c k (show k ≠ g by omega)⟩ : Within g (g + 1) w (w.setCell ⟨g, o, none⟩ c)).trans e5

/-- A list that is being laid: k of its elements lie there. -/
def Part {α : Type} (t : TypeId) (sz : Nat) (E : World → List Value → α → (Nat → Prop) → Prop) (w : World) (g n k : Nat) (l : List α) : Prop :=
  ∃ (cur : Array Value) (cs : Nat → List Value) (fs : Nat → Nat → Prop), w.heap[g]? = some (.cells cur t (0, 0)) ∧ cur.size = n * sz ∧
    (∀ i x, i < k → l[i]? = some x → E w (cs i) x (fs i) ∧ (cs i).length = sz ∧ ∀ j u, (cs i)[j]? = some u → cur[i * sz + j]? = some u) ∧
    (∀ i b, i < k → fs i b → g < b ∧ b < w.heap.size) ∧ (∀ i j b, i < k → j < k → i ≠ j → fs i b → ¬ fs j b)

section
variable {α : Type} {t : TypeId} {sz : Nat} {E : World → List Value → α → (Nat → Prop) → Prop} {w w' : World} {l : List α} {g n k : Nat}
theorem Part.start {cur : Array Value} (h : w.heap[g]? = some (.cells cur t (0, 0))) (hs : cur.size = n * sz) : Part t sz E w g n 0 l := ⟨cur, fun _ => [], fun _ _ => False, h, hs, by simp, by simp, by simp⟩
theorem Part.cell (h : Part t sz E w g n k l) (i : Nat) (hi : i < n * sz) : (∃ u, w.cell? ⟨g, i, none⟩ = some u) ∧ w.frozen? ⟨g, i, none⟩ = false := by
  obtain ⟨cur, cs, fs, hh, hs, _⟩ := h
  refine ⟨⟨cur[i]'(by omega), ?_⟩, frozen_of_row w g i cur t hh⟩
  rw [cell_of_row w g i cur t (0, 0) hh]
  simp
theorem Part.lt (h : Part t sz E w g n k l) : g < w.heap.size := let ⟨_, _, _, hh, _⟩ := h; lt_of_heap hh
theorem Part.step (hE : Frames E) (h : Part t sz E w g n k l) (hb : Below w.heap.size w w') (x : α) (hx : l[k]? = some x) (hk : k < n) (c : List Value) (hc : c.length = sz) (he : E w' c x (In w.heap.size w'.heap.size)) :
    Part t sz E (put w' g (k * sz) c) g n (k + 1) l := by
  obtain ⟨cur, cs, fs, hh, hs, h1, h2, h3⟩ := h
  have hg : g < w.heap.size := lt_of_heap hh
  have hroom : k * sz + sz ≤ n * sz := by
    have := Nat.mul_le_mul_right sz (show k + 1 ≤ n by omega)
    rw [Nat.add_mul, Nat.one_mul] at this
    exact this
  obtain ⟨cur', e1, e2, e3, e4, e5⟩ := put_spec g t c w' (k * sz) cur ((hb.block g hg).trans hh) (by omega)
  have same : ∀ b, b ≠ g → b < w.heap.size → (put w' g (k * sz) c).heap[b]? = w.heap[b]? := fun b hne hlt =>
    (e5.block b (Nat.lt_of_lt_of_le hlt hb.size) (by omega)).trans (hb.block b hlt)
  refine ⟨cur', fun i => if i = k then c else cs i, fun i => if i = k then In w.heap.size w'.heap.size else fs i, e1, by omega, fun i y hi hy => ?_, fun i b hi hb' => ?_, fun i j b hi hj hne hbi hbj => ?_⟩
  · by_cases hik : i = k
    · subst hik
      rw [hx] at hy; cases hy
      simp only [if_true]
      refine ⟨hE _ _ _ _ _ he fun b hb' hlt => e5.block b hlt (by have := hb'.1; omega), hc, fun j u hu => e3 j u hu⟩
    · simp only [if_neg hik]
      have hi' : i < k := by omega
      obtain ⟨q1, q2, q3⟩ := h1 i y hi' hy
      refine ⟨hE _ _ _ _ _ q1 fun b hb' hlt => same b (by have := (h2 i b hi' hb').1; omega) hlt, q2, fun j u hu => ?_⟩
      have hj : j < sz := by have := (List.getElem?_eq_some_iff.1 hu).1; omega
      have hlow : i * sz + j < k * sz := by
        have := Nat.mul_le_mul_right sz (show i + 1 ≤ k by omega)
        rw [Nat.add_mul, Nat.one_mul] at this
        omega
      rw [e4 _ (.inl hlow)]
      exact q3 j u hu
  · by_cases hik : i = k
    · simp only [hik, if_true] at hb'
      have := e5.size
      exact ⟨by have := hb'.1; omega, by have := hb'.2; omega⟩
    · simp only [if_neg hik] at hb'
      have := h2 i b (by omega) hb'
      have := e5.size
      have := hb.size
      omega
  · by_cases hik : i = k
    · by_cases hjk : j = k
      · omega
      · simp only [hik, if_true] at hbi
        simp only [if_neg hjk] at hbj
        have := h2 j b (by omega) hbj
        have := hbi.1
        omega
    · simp only [if_neg hik] at hbi
      by_cases hjk : j = k
      · simp only [hjk, if_true] at hbj
        have := h2 i b (by omega) hbi
        have := hbj.1
        omega
      · simp only [if_neg hjk] at hbj
        exact h3 i j b (by omega) (by omega) hne hbi hbj
theorem Part.done {B : Nat} (h : Part t sz E w g n n l) (hn : l.length = n) (hm : n ≤ maxLen) (hB : B ≤ g) : Ow t sz E w (In B w.heap.size) (.slice (some ⟨g, 0, none⟩) n n) l := by
  obtain ⟨cur, cs, fs, hh, hs, h1, h2, h3⟩ := h
  subst hn
  refine .inr ⟨g, l.length, cur, cs, fs, rfl, hh, Nat.le_refl _, hm, hs, ⟨hB, lt_of_heap hh⟩, fun i x hx => h1 i x (List.getElem?_eq_some_iff.1 hx).1 hx, fun i b hi hb => ?_, h3⟩
  have := h2 i b hi hb
  exact ⟨⟨by omega, this.2⟩, by omega⟩
theorem put_below {B : Nat} {w0 w : World} (hb : Below B w0 w) (hB : B ≤ g) (o : Nat) (c : List Value) : Below B w0 (put w g o c) := by
  induction c generalizing w o with
  | nil => exact hb
  | cons x c ih => exact ih (hb.setCell (p := ⟨g, o, none⟩) hB x) (o + 1)
end

end Go.Proofs.Ytjdcjhboipileab

/- Mails, boxes and accounts in memory: what they read as, and those of the call's own. -/
namespace Go.Proofs.Ytjdcjhboipileab
open Go.RowKit

structure MailD where
  uid : Int
  flags : Int
  seq : Int
  text : List Int
structure GoneD where
  uid : Int
  seq : Int
structure BoxD where
  name : List Int
  valid : Int
  next : Int
  seq : Int
  mails : List MailD
  gones : List GoneD
  lost : Int
structure AccD where
  valid : Int
  boxes : List BoxD
  seen : List Int

/-- A row of bytes of the call's own whose block lies in S. -/
def RO (w : World) (S : Nat → Prop) (v : Value) (l : List Int) : Prop := Oct l ∧ w.ownsRow 0 5 1 v l.length (vals l) ∧ ∀ g, v.ownBlock = some g → S g

theorem Row.ro {w : World} {B T : Nat} {v : Value} {l : List Int} (h : Row w B T v l) : RO w (In B T) v l :=
  ⟨h.1, (h.wide (B' := 0) (T' := T) (Nat.zero_le _) (Nat.le_refl _)).2.1, fun g hg => ⟨(h.2.1.lt g hg).1, h.2.2 g hg⟩⟩
theorem RO.bs {w : World} {S : Nat → Prop} {v : Value} {l : List Int} (h : RO w S v l) : Bs w v l := (own_of_row h.1 rfl h.2.1).elim fun _ h => h.2.bs
theorem RO.mono {w : World} {S S' : Nat → Prop} {v : Value} {l : List Int} (h : RO w S v l) (hS : ∀ b, S b → S' b) : RO w S' v l := ⟨h.1, h.2.1, fun g hg => hS g (h.2.2 g hg)⟩
theorem RO.frame {w w' : World} {S : Nat → Prop} {v : Value} {l : List Int} (h : RO w S v l) (hw : ∀ b, S b → b < w.heap.size → w'.heap[b]? = w.heap[b]?) : RO w' S v l := by
  refine ⟨h.1, ⟨h.2.1.1, ?_⟩, h.2.2⟩
  rcases h.2.1.2 with hn | ⟨g, cap, cur, hv, hg, hh, r⟩
  · exact .inl hn
  · exact .inr ⟨g, cap, cur, hv, hg, (hw g (h.2.2 g (by rw [hv]; rfl)) (lt_of_heap hh)).trans hh, r⟩
theorem RO.below {w w' : World} {S : Nat → Prop} {v : Value} {l : List Int} (h : RO w S v l) (hb : Below w.heap.size w w') : RO w' S v l := h.frame fun b _ hlt => hb.block b hlt
theorem RO.nil (w : World) (S : Nat → Prop) : RO w S (.slice none 0 0) [] := ⟨oct_nil, World.ownsRow_nil _ _ _ _, fun g hg => by simp [Value.ownBlock] at hg⟩

def IntRE (_ : World) (c : List Value) (n : Int) : Prop := c = [.int .i64 n] ∧ I64 n
def MailRE (w : World) (c : List Value) (m : MailD) : Prop := ∃ u, c = [.int .i64 m.uid, .int .i64 m.flags, .int .i64 m.seq, u] ∧ Bs w u m.text ∧ I64 m.uid ∧ I64 m.flags ∧ I64 m.seq
def GoneRE (_ : World) (c : List Value) (m : GoneD) : Prop := c = [.int .i64 m.uid, .int .i64 m.seq] ∧ I64 m.uid ∧ I64 m.seq
abbrev IntsV := Rd 1 IntRE
abbrev MailsV := Rd 4 MailRE
abbrev GonesV := Rd 2 GoneRE
def BoxRE (w : World) (c : List Value) (b : BoxD) : Prop :=
  ∃ u0 u1 u2, c = [u0, .int .i64 b.valid, .int .i64 b.next, .int .i64 b.seq, u1, u2, .int .i64 b.lost] ∧ Bs w u0 b.name ∧ MailsV w u1 b.mails ∧ GonesV w u2 b.gones ∧ I64 b.valid ∧ I64 b.next ∧ I64 b.seq ∧ I64 b.lost
abbrev BoxesV := Rd 7 BoxRE

theorem keepsInt : Keeps IntRE := fun _ _ _ _ _ h => h
theorem keepsGone : Keeps GoneRE := fun _ _ _ _ _ h => h
theorem keepsMail : Keeps MailRE := fun _ _ _ _ hb h => let ⟨u, h0, h1, r⟩ := h; ⟨u, h0, h1.below hb, r⟩
theorem keepsBox : Keeps BoxRE := fun _ _ _ _ hb h => let ⟨u0, u1, u2, h0, h1, h2, h3, r⟩ := h; ⟨u0, u1, u2, h0, h1.below hb, h2.below keepsMail hb, h3.below keepsGone hb, r⟩

def IntE (_ : World) (c : List Value) (n : Int) (_ : Nat → Prop) : Prop := c = [.int .i64 n] ∧ I64 n
def MailE (w : World) (c : List Value) (m : MailD) (S : Nat → Prop) : Prop := ∃ u, c = [.int .i64 m.uid, .int .i64 m.flags, .int .i64 m.seq, u] ∧ RO w S u m.text ∧ I64 m.uid ∧ I64 m.flags ∧ I64 m.seq
def GoneE (_ : World) (c : List Value) (m : GoneD) (_ : Nat → Prop) : Prop := c = [.int .i64 m.uid, .int .i64 m.seq] ∧ I64 m.uid ∧ I64 m.seq
theorem framesInt : Frames IntE := fun _ _ _ _ _ h _ => h
theorem framesGone : Frames GoneE := fun _ _ _ _ _ h _ => h
theorem framesMail : Frames MailE := fun _ _ _ _ _ h hw => let ⟨u, h0, h1, r⟩ := h; ⟨u, h0, h1.frame hw, r⟩
abbrev IntsO := Ow 3 1 IntE
abbrev MailsO := Ow 69 4 MailE
abbrev GonesO := Ow 71 2 GoneE
def BoxE (w : World) (c : List Value) (b : BoxD) (S : Nat → Prop) : Prop :=
  ∃ u0 u1 u2 S0 S1 S2, c = [u0, .int .i64 b.valid, .int .i64 b.next, .int .i64 b.seq, u1, u2, .int .i64 b.lost] ∧ RO w S0 u0 b.name ∧ MailsO w S1 u1 b.mails ∧ GonesO w S2 u2 b.gones ∧ (∀ x, S0 x → S x ∧ ¬ S1 x ∧ ¬ S2 x) ∧ (∀ x, S1 x → S x ∧ ¬ S2 x) ∧ (∀ x, S2 x → S x) ∧
    I64 b.valid ∧ I64 b.next ∧ I64 b.seq ∧ I64 b.lost
theorem framesBox : Frames BoxE := fun _ _ _ _ _ h hw =>
  let ⟨u0, u1, u2, S0, S1, S2, h0, h1, h2, h3, d0, d1, d2, r⟩ := h
  ⟨u0, u1, u2, S0, S1, S2, h0, h1.frame fun b hb => hw b (d0 b hb).1, h2.frame framesMail fun b hb => hw b (d1 b hb).1, h3.frame framesGone fun b hb => hw b (d2 b hb), d0, d1, d2, r⟩
abbrev BoxesO := Ow 49 7 BoxE
theorem MailE.rd {w : World} {c : List Value} {m : MailD} {S : Nat → Prop} (h : MailE w c m S) : MailRE w c m := let ⟨u, h0, h1, r⟩ := h; ⟨u, h0, h1.bs, r⟩
theorem BoxE.rd {w : World} {c : List Value} {b : BoxD} {S : Nat → Prop} (h : BoxE w c b S) : BoxRE w c b :=
  let ⟨u0, u1, u2, _, _, _, h0, h1, h2, h3, _, _, _, r⟩ := h; ⟨u0, u1, u2, h0, h1.bs, h2.rd fun _ _ _ _ => MailE.rd, h3.rd fun _ _ _ _ h => h, r⟩

def AccV (w : World) (v : Value) (a : AccD) : Prop := ∃ u0 u1, v = .agg #[.int .i64 a.valid, u0, u1] ∧ BoxesV w u0 a.boxes ∧ IntsV w u1 a.seen ∧ I64 a.valid
theorem AccV.below {w w' : World} {v : Value} {a : AccD} (h : AccV w v a) (hb : Below w.heap.size w w') : AccV w' v a := let ⟨u0, u1, h0, h1, h2, r⟩ := h; ⟨u0, u1, h0, h1.below keepsBox hb, h2.below keepsInt hb, r⟩
def AccO (w : World) (S : Nat → Prop) (v : Value) (a : AccD) : Prop := ∃ u0 u1 S0 S1, v = .agg #[.int .i64 a.valid, u0, u1] ∧ BoxesO w S0 u0 a.boxes ∧ IntsO w S1 u1 a.seen ∧ (∀ x, S0 x → S x ∧ ¬ S1 x) ∧ (∀ x, S1 x → S x) ∧ I64 a.valid
theorem AccO.v {w : World} {S : Nat → Prop} {v : Value} {a : AccD} (h : AccO w S v a) : AccV w v a :=
  let ⟨u0, u1, _, _, h0, h1, h2, _, _, r⟩ := h; ⟨u0, u1, h0, h1.rd fun _ _ _ _ => BoxE.rd, h2.rd fun _ _ _ _ h => h, r⟩
theorem AccO.frame {w w' : World} {S : Nat → Prop} {v : Value} {a : AccD} (h : AccO w S v a) (hw : ∀ b, S b → b < w.heap.size → w'.heap[b]? = w.heap[b]?) : AccO w' S v a :=
  let ⟨u0, u1, S0, S1, h0, h1, h2, d0, d1, r⟩ := h; ⟨u0, u1, S0, S1, h0, h1.frame framesBox fun b hb => hw b (d0 b hb).1, h2.frame framesInt fun b hb => hw b (d1 b hb), d0, d1, r⟩
theorem AccO.below {w w' : World} {S : Nat → Prop} {v : Value} {a : AccD} (h : AccO w S v a) (hb : Below w.heap.size w w') : AccO w' S v a := h.frame fun b _ hlt => hb.block b hlt
/-- A box as a value. -/
def BoxV (w : World) (v : Value) (b : BoxD) : Prop :=
  ∃ u0 u1 u2, v = .agg #[u0, .int .i64 b.valid, .int .i64 b.next, .int .i64 b.seq, u1, u2, .int .i64 b.lost] ∧ Bs w u0 b.name ∧ MailsV w u1 b.mails ∧ GonesV w u2 b.gones ∧ I64 b.valid ∧ I64 b.next ∧ I64 b.seq ∧ I64 b.lost
theorem BoxV.below {w w' : World} {v : Value} {b : BoxD} (h : BoxV w v b) (hb : Below w.heap.size w w') : BoxV w' v b := let ⟨u0, u1, u2, h0, h1, h2, h3, r⟩ := h; ⟨u0, u1, u2, h0, h1.below hb, h2.below keepsMail hb, h3.below keepsGone hb, r⟩
def BoxO (w : World) (S : Nat → Prop) (v : Value) (b : BoxD) : Prop := ∃ c, v = .agg c.toArray ∧ BoxE w c b S
theorem BoxO.v {w : World} {S : Nat → Prop} {v : Value} {b : BoxD} (h : BoxO w S v b) : BoxV w v b := by
  obtain ⟨c, rfl, h⟩ := h
  obtain ⟨u0, u1, u2, rfl, r⟩ := h.rd
  exact ⟨u0, u1, u2, rfl, r⟩
def MailV (w : World) (v : Value) (m : MailD) : Prop := ∃ u, v = .agg #[.int .i64 m.uid, .int .i64 m.flags, .int .i64 m.seq, u] ∧ Bs w u m.text ∧ I64 m.uid ∧ I64 m.flags ∧ I64 m.seq
theorem MailV.below {w w' : World} {v : Value} {m : MailD} (h : MailV w v m) (hb : Below w.heap.size w w') : MailV w' v m := let ⟨u, h0, h1, r⟩ := h; ⟨u, h0, h1.below hb, r⟩

/-- One element's cells, as the walk asks for them. -/
theorem IntsV.cell {w : World} {v : Value} {l : List Int} (h : IntsV w v l) (k : Nat) (x : Int) (hx : l[k]? = some x) : ∃ b off cap, v = .slice (some ⟨b, off, none⟩) l.length cap ∧ b < w.heap.size ∧ w.cell? ⟨b, off + k, none⟩ = some (.int .i64 x) ∧ I64 x := by
  obtain ⟨b, off, cap, c, hv, hlt, ⟨rfl, hi⟩, -, hc⟩ := h.get k x hx
  exact ⟨b, off, cap, hv, hlt, by simpa using hc 0 _ rfl, hi⟩
theorem GonesV.cell {w : World} {v : Value} {l : List GoneD} (h : GonesV w v l) (k : Nat) (x : GoneD) (hx : l[k]? = some x) : ∃ b off cap, v = .slice (some ⟨b, off, none⟩) l.length cap ∧ b < w.heap.size ∧ w.cell? ⟨b, off + k * 2, none⟩ = some (.int .i64 x.uid) ∧ w.cell? ⟨b, off + k * 2 + 1, none⟩ = some (.int .i64 x.seq) ∧ I64 x.uid ∧ I64 x.seq := by
  obtain ⟨b, off, cap, c, hv, hlt, ⟨rfl, hi⟩, -, hc⟩ := h.get k x hx
  exact ⟨b, off, cap, hv, hlt, hc 0 _ rfl, hc 1 _ rfl, hi⟩
theorem MailsV.cell {w : World} {v : Value} {l : List MailD} (h : MailsV w v l) (k : Nat) (x : MailD) (hx : l[k]? = some x) : ∃ b off cap u, v = .slice (some ⟨b, off, none⟩) l.length cap ∧ b < w.heap.size ∧ w.cell? ⟨b, off + k * 4, none⟩ = some (.int .i64 x.uid) ∧ w.cell? ⟨b, off + k * 4 + 1, none⟩ = some (.int .i64 x.flags) ∧
    w.cell? ⟨b, off + k * 4 + 2, none⟩ = some (.int .i64 x.seq) ∧ w.cell? ⟨b, off + k * 4 + 3, none⟩ = some u ∧ Bs w u x.text ∧ I64 x.uid ∧ I64 x.flags ∧ I64 x.seq := by
  obtain ⟨b, off, cap, c, hv, hlt, ⟨u, rfl, hu, hi⟩, -, hc⟩ := h.get k x hx
  exact ⟨b, off, cap, u, hv, hlt, hc 0 _ rfl, hc 1 _ rfl, hc 2 _ rfl, hc 3 _ rfl, hu, hi⟩
theorem BoxesV.cell {w : World} {v : Value} {l : List BoxD} (h : BoxesV w v l) (k : Nat) (x : BoxD) (hx : l[k]? = some x) : ∃ b off cap u0 u1 u2, v = .slice (some ⟨b, off, none⟩) l.length cap ∧ b < w.heap.size ∧ w.cell? ⟨b, off + k * 7, none⟩ = some u0 ∧ w.cell? ⟨b, off + k * 7 + 1, none⟩ = some (.int .i64 x.valid) ∧
    w.cell? ⟨b, off + k * 7 + 2, none⟩ = some (.int .i64 x.next) ∧ w.cell? ⟨b, off + k * 7 + 3, none⟩ = some (.int .i64 x.seq) ∧ w.cell? ⟨b, off + k * 7 + 4, none⟩ = some u1 ∧ w.cell? ⟨b, off + k * 7 + 5, none⟩ = some u2 ∧ w.cell? ⟨b, off + k * 7 + 6, none⟩ = some (.int .i64 x.lost) ∧
    Bs w u0 x.name ∧ MailsV w u1 x.mails ∧ GonesV w u2 x.gones ∧ I64 x.valid ∧ I64 x.next ∧ I64 x.seq ∧ I64 x.lost := by
  obtain ⟨b, off, cap, c, hv, hlt, ⟨u0, u1, u2, rfl, h0, h1, h2, hi⟩, -, hc⟩ := h.get k x hx
  exact ⟨b, off, cap, u0, u1, u2, hv, hlt, hc 0 _ rfl, hc 1 _ rfl, hc 2 _ rfl, hc 3 _ rfl, hc 4 _ rfl, hc 5 _ rfl, hc 6 _ rfl, h0, h1, h2, hi⟩

/-- How many values a mail, a list of mails, a box, a list of boxes hold. -/
def szM (l : List MailD) : Nat := (l.map fun m => m.text.length + 1).sum
def szX (b : BoxD) : Nat := b.name.length + szM b.mails + b.gones.length
def szXs (l : List BoxD) : Nat := (l.map fun b => szX b + 1).sum
theorem szM_mem {l : List MailD} {m : MailD} (h : m ∈ l) : m.text.length + 1 ≤ szM l := by
  induction l with
  | nil => cases h
  | cons x l ih =>
    simp only [szM, List.map_cons, List.sum_cons] at ih ⊢
    rcases List.mem_cons.1 h with rfl | h
    · omega
    · have := ih h; omega
theorem szXs_mem {l : List BoxD} {b : BoxD} (h : b ∈ l) : szX b + 1 ≤ szXs l := by
  induction l with
  | nil => cases h
  | cons x l ih =>
    simp only [szXs, List.map_cons, List.sum_cons] at ih ⊢
    rcases List.mem_cons.1 h with rfl | h
    · omega
    · have := ih h; omega
theorem szM_len (l : List MailD) : l.length ≤ szM l := by
  induction l with
  | nil => simp [szM]
  | cons x l ih => simp only [szM, List.map_cons, List.sum_cons, List.length_cons] at ih ⊢; omega
theorem szXs_len (l : List BoxD) : l.length ≤ szXs l := by
  induction l with
  | nil => simp [szXs]
  | cons x l ih => simp only [szXs, List.map_cons, List.sum_cons, List.length_cons] at ih ⊢; omega

end Go.Proofs.Ytjdcjhboipileab

/- Lists of the call's own whose blocks lie between two; blocks of two, three, four, seven cells. -/
namespace Go.Proofs.Ytjdcjhboipileab
open Go.RowKit

class Fr {α : Type} (E : World → List Value → α → (Nat → Prop) → Prop) : Prop where
  out : Frames E
instance : Fr IntE := ⟨framesInt⟩
instance : Fr MailE := ⟨framesMail⟩
instance : Fr GoneE := ⟨framesGone⟩
instance : Fr BoxE := ⟨framesBox⟩

def OwR {α : Type} (t : TypeId) (sz : Nat) (E : World → List Value → α → (Nat → Prop) → Prop) (w : World) (B T : Nat) (v : Value) (l : List α) : Prop := Ow t sz E w (In B T) v l
section
variable {α : Type} {t : TypeId} {sz : Nat} {E : World → List Value → α → (Nat → Prop) → Prop} {w w' : World} {B T B' T' g i : Nat} {v x : Value} {l : List α}
theorem OwR.ow (h : OwR t sz E w B T v l) : Ow t sz E w (In B T) v l := h
theorem OwR.wide (h : OwR t sz E w B T v l) (hB : B' ≤ B) (hT : T ≤ T') : OwR t sz E w B' T' v l := Ow.mono h fun _ hb => ⟨Nat.le_trans hB hb.1, Nat.lt_of_lt_of_le hb.2 hT⟩
theorem OwR.below [Fr E] (h : OwR t sz E w B T v l) (hb : Below w.heap.size w w') : OwR t sz E w' B T v l := Ow.below Fr.out h hb
theorem OwR.keptW [Fr E] (h : OwR t sz E w B T v l) (hw : Within B' T' w w') (hd : T ≤ B' ∨ T' ≤ B) : OwR t sz E w' B T v l := Ow.keptW Fr.out h hw fun b hb => by have := hb.1; have := hb.2; omega
theorem OwR.set [Fr E] (h : OwR t sz E w B T v l) (hd : g < B ∨ T ≤ g) : OwR t sz E (w.setCell ⟨g, i, none⟩ x) B T v l :=
  Ow.frame Fr.out h fun b hb _ => Below.heap_setCell w ⟨g, i, none⟩ x b (show b ≠ g by have := hb.1; have := hb.2; omega)
theorem OwR.form3 (h : OwR t sz E w B T v l) : ∃ a n cap, v = .slice a n cap := by
  rcases h with ⟨rfl, _⟩ | ⟨g, cap, cur, cs, fs, hv, _⟩
  · exact ⟨_, _, _, rfl⟩
  · exact ⟨_, _, _, hv⟩
theorem made_part {e : TypeId} {n : Nat} {xs : List Value} (h : w.ownsRow B e sz (.slice (some ⟨g, 0, none⟩) n n) n xs) : ∃ cur, w.heap[g]? = some (.cells cur e (0, 0)) ∧ cur.size = n * sz := by
  rcases h.2 with ⟨h, _⟩ | ⟨g', c, cur, h, _, hh, _, _, h3, _⟩
  · simp at h
  · simp only [Value.slice.injEq, Option.some.injEq, Addr.mk.injEq, and_true, true_and] at h
    obtain ⟨rfl, rfl⟩ := h
    exact ⟨cur, hh, h3⟩
end
abbrev IntsR := OwR 3 1 IntE
abbrev MailsR := OwR 69 4 MailE
abbrev GonesR := OwR 71 2 GoneE
abbrev BoxesR := OwR 49 7 BoxE

theorem bx2 {w : World} {g : Nat} {t : TypeId} {c0 c1 : Value} (h : w.heap[g]? = some (.cells #[c0, c1] t (0, 0))) : w.cell? ⟨g, 0, none⟩ = some c0 ∧ w.cell? ⟨g, 1, none⟩ = some c1 :=
  ⟨by rw [cell_of_row w g 0 _ t (0, 0) h]; rfl, by rw [cell_of_row w g 1 _ t (0, 0) h]; rfl⟩
theorem bx3 {w : World} {g : Nat} {t : TypeId} {c0 c1 c2 : Value} (h : w.heap[g]? = some (.cells #[c0, c1, c2] t (0, 0))) : w.cell? ⟨g, 0, none⟩ = some c0 ∧ w.cell? ⟨g, 1, none⟩ = some c1 ∧ w.cell? ⟨g, 2, none⟩ = some c2 :=
  ⟨by rw [cell_of_row w g 0 _ t (0, 0) h]; rfl, by rw [cell_of_row w g 1 _ t (0, 0) h]; rfl, by rw [cell_of_row w g 2 _ t (0, 0) h]; rfl⟩
theorem bx4 {w : World} {g : Nat} {t : TypeId} {c0 c1 c2 c3 : Value} (h : w.heap[g]? = some (.cells #[c0, c1, c2, c3] t (0, 0))) : w.cell? ⟨g, 0, none⟩ = some c0 ∧ w.cell? ⟨g, 1, none⟩ = some c1 ∧ w.cell? ⟨g, 2, none⟩ = some c2 ∧ w.cell? ⟨g, 3, none⟩ = some c3 :=
  ⟨by rw [cell_of_row w g 0 _ t (0, 0) h]; rfl, by rw [cell_of_row w g 1 _ t (0, 0) h]; rfl, by rw [cell_of_row w g 2 _ t (0, 0) h]; rfl, by rw [cell_of_row w g 3 _ t (0, 0) h]; rfl⟩
theorem bx7 {w : World} {g : Nat} {t : TypeId} {c0 c1 c2 c3 c4 c5 c6 : Value} (h : w.heap[g]? = some (.cells #[c0, c1, c2, c3, c4, c5, c6] t (0, 0))) :
    w.cell? ⟨g, 0, none⟩ = some c0 ∧ w.cell? ⟨g, 1, none⟩ = some c1 ∧ w.cell? ⟨g, 2, none⟩ = some c2 ∧ w.cell? ⟨g, 3, none⟩ = some c3 ∧ w.cell? ⟨g, 4, none⟩ = some c4 ∧ w.cell? ⟨g, 5, none⟩ = some c5 ∧ w.cell? ⟨g, 6, none⟩ = some c6 :=
  ⟨by rw [cell_of_row w g 0 _ t (0, 0) h]; rfl, by rw [cell_of_row w g 1 _ t (0, 0) h]; rfl, by rw [cell_of_row w g 2 _ t (0, 0) h]; rfl, by rw [cell_of_row w g 3 _ t (0, 0) h]; rfl,
   by rw [cell_of_row w g 4 _ t (0, 0) h]; rfl, by rw [cell_of_row w g 5 _ t (0, 0) h]; rfl, by rw [cell_of_row w g 6 _ t (0, 0) h]; rfl⟩

end Go.Proofs.Ytjdcjhboipileab

/- What toMail, toMailS of package laws do. -/
namespace Go.Proofs.Ytjdcjhboipileab
open Go.RowKit
set_option maxRecDepth 100000
set_option linter.unusedVariables false

set_option maxRecDepth 100000 in
set_option maxHeartbeats 1000000 in
theorem toMail_o (v : Value) (x : MailD) (w : World) (hv : MailV w v x) (h0 : x.text.length ≤ 2000000) :
    Calls Try.prog 63 #[v] w fun e w' => ∃ u, e = .returned u ∧ (∃ a n c, u = .agg #[.int .i64 x.uid, .int .i64 x.flags, .int .i64 x.seq, .slice a n c] ∧ MailE w' [.int .i64 x.uid, .int .i64 x.flags, .int .i64 x.seq, .slice a n c] x (In w.heap.size w'.heap.size)) ∧ Below w.heap.size w w' := by
  obtain ⟨u, rfl, g0, i0, i1, i2⟩ := hv
  obtain ⟨uid, flags, seq, text⟩ := x
  simp only at g0 i0 i1 i2 h0
  have H0 : Hid (∀ wi, Below w.heap.size w wi → Bs wi u text) := fun wi h => g0.below h
  obtain ⟨a0, n0, c0, rfl⟩ := g0.form3
  have HI : Hid (I64 uid ∧ I64 flags ∧ I64 seq) := ⟨i0, i1, i2⟩
  clear g0 i0 i1 i2
  simp only
  go_enter Try.func63, Try.ntmps63
  go_wp2_with fail
  refine (toByteS_r _ text _ (H0.out _ (box3_below w _ _ _)) h0).mono ?_
  rintro e w1 ⟨u0, rfl, R0, B⟩
  obtain ⟨x0, m0, y0, rfl⟩ := R0.bs.form3
  have b3 := box3 w (.cells #[.int .i64 uid, .int .i64 flags, .int .i64 seq, .slice a0 n0 c0] 91) (.cells #[.int .i64 0, .int .i64 0, .int .i64 0, .slice none 0 0] 69) (.cells #[.int .i64 uid, .int .i64 flags, .int .i64 seq, .slice none 0 0] 69)
  have kA := box_below B b3.1
  have kR := box_below B b3.2.1
  have kO := box_below B b3.2.2
  have s1 : w.heap.size + 3 ≤ w1.heap.size := by have := B.size; simp at this; omega
  have X := Below.step (box3_below w _ _ _) B
  replace R0 := R0.wide (B' := w.heap.size + 3) (T' := w1.heap.size) (by simp) (Nat.le_refl _)
  clear b3 B
  obtain ⟨-, -, -, -⟩ := bx4 kA
  obtain ⟨oz, ol⟩ := box8z kO
  obtain ⟨o0, o1, o2, o3⟩ := bx4 kO
  obtain ⟨rz, rl⟩ := box8z kR
  obtain ⟨r0, r1, r2, r3⟩ := bx4 kR
  go_wp2
  refine bodyPost_ret (v := .agg #[.int .i64 uid, .int .i64 flags, .int .i64 seq, .slice x0 m0 y0]) (by simp [results, Try.results63, go_sem, r0, r1, r2, r3]) rfl ⟨_, rfl, ?_, ?_⟩
  · simp only [box_size]
    exact ⟨_, _, _, rfl, _, rfl, Row.ro (Row.wide ((((((R0.set (g := w.heap.size + 1 + 1) (i := 3) (x := .slice x0 m0 y0) (.inl (by omega))).set (g := w.heap.size + 1) (i := 0) (x := .int .i64 uid) (.inl (by omega))).set (g := w.heap.size + 1) (i := 1) (x := .int .i64 flags) (.inl (by omega))).set (g := w.heap.size + 1) (i := 2) (x := .int .i64 seq) (.inl (by omega))).set (g := w.heap.size + 1) (i := 3) (x := .slice x0 m0 y0) (.inl (by omega)))) (by omega) (Nat.le_refl _)), HI.out⟩
  · exact (((((X.setCell (p := ⟨w.heap.size + 1 + 1, 3, none⟩) (by simp <;> omega) (.slice x0 m0 y0)).setCell (p := ⟨w.heap.size + 1, 0, none⟩) (by simp <;> omega) (.int .i64 uid)).setCell (p := ⟨w.heap.size + 1, 1, none⟩) (by simp <;> omega) (.int .i64 flags)).setCell (p := ⟨w.heap.size + 1, 2, none⟩) (by simp <;> omega) (.int .i64 seq)).setCell (p := ⟨w.heap.size + 1, 3, none⟩) (by simp <;> omega) (.slice x0 m0 y0))

theorem infoMail : (Try.prog.info? 69).map (fun i => (i.zero, i.size, i.bytes)) = some (some (.agg #[.int .i64 0, .int .i64 0, .int .i64 0, .slice none 0 0]), 4, 48) := by kernel_rfl

set_option maxRecDepth 100000 in
set_option maxHeartbeats 1000000 in
theorem toMailS_r (v : Value) (l : List MailD) (w : World) (hv : MailsV w v l) (hl : szM l ≤ 2000000) :
    Calls Try.prog 51 #[v] w fun e w' => ∃ u, e = .returned u ∧ MailsR w' w.heap.size w'.heap.size u l ∧ Below w.heap.size w w' := by
  have HV : Hid (∀ wi, Below w.heap.size w wi → MailsV wi v l) := fun wi h => hv.below keepsMail h
  obtain ⟨a, cap, rfl, hlc, hcm⟩ := hv.form
  have hll : l.length ≤ 2000000 := by have := szM_len l; omega
  clear hv
  obtain ⟨i0, hi, hz0, hz1, hz2⟩ := info_parts infoMail
  go_enter Try.func51, Try.ntmps51
  go_wp2_with (at_make; refine wpList_make_full _ rfl _ _ 46 rfl w.heap.size 69 i0 (.agg #[.int .i64 0, .int .i64 0, .int .i64 0, .slice none 0 0]) 4 Try.underlying46 hi hz0 hz1 _ _ _ _ l.length rfl rfl rfl rfl ?b1 ?b2 ?b3 ?_)
  case b1 => rw [hz2]; omega
  case b2 => unfold maxLen; omega
  case b3 => exact Nat.le_refl _
  intro w1 hown hgrow
  have HB : Hid (Below w.heap.size w w1) := (Below.refl w.heap.size w).grown hgrow (Nat.le_refl _) (by simp)
  have HP : Hid (Part 69 4 MailE w1 w.heap.size l.length 0 l) := by obtain ⟨cur, h1, h2⟩ := made_part hown; exact Part.start h1 h2
  clear hown hgrow hi hz0 hz1 hz2
  go_wp2
  go_loopw [4] (fun i wr => ∃ k : Nat, k ≤ l.length ∧ i = .int .i64 k ∧ Hid (Part 69 4 MailE wr w.heap.size l.length k l) ∧ Hid (Below w.heap.size w wr)) (fun i _ => l.length - (intOf i).toNat)
  case atStart => exact ⟨0, Nat.zero_le _, rfl, HP, HB⟩
  case round =>
    obtain ⟨k, hk, rfl, hP, hB⟩ := hrel
    by_cases hlt : k < l.length
    · obtain ⟨x, hx⟩ : ∃ x, l[k]? = some x := ⟨l[k], List.getElem?_eq_getElem hlt⟩
      obtain ⟨b, off, cap', u, hv', hlb, d0, d1, d2, d3, hu, i0, i1, i2⟩ := MailsV.cell (HV.out wr hB.out) k x hx
      simp only [Value.slice.injEq, true_and] at hv'
      obtain ⟨rfl, rfl⟩ := hv'
      obtain ⟨ua, un, uc, rfl⟩ := hu.form3
      go_wp2_with fail
      refine (toMail_o _ x _ ⟨_, rfl, hu, i0, i1, i2⟩ (by have := szM_mem (List.mem_of_getElem? hx); omega)).mono ?_
      rintro e w2 ⟨_, rfl, ⟨ya, yn, yc, rfl, he⟩, B⟩
      clear d0 d1 d2 d3
      have hs2 := B.size
      have HS : Hid (Part 69 4 MailE (put w2 w.heap.size (k * 4) [.int .i64 x.uid, .int .i64 x.flags, .int .i64 x.seq, .slice ya yn yc]) w.heap.size l.length (k + 1) l) := Part.step framesMail hP.out B x hx hlt _ rfl he
      have HB2 : Hid (Below w.heap.size w w2) := Below.step hB.out B
      have hgl := hP.out.lt
      have hgl2 : w.heap.size < w2.heap.size := by omega
      obtain ⟨q0, t0⟩ := (show ∃ u, w2.cell? ⟨w.heap.size, k * 4, none⟩ = some u from by obtain ⟨⟨u, hu⟩, -⟩ := hP.out.cell (k * 4) (by omega); exact ⟨u, (B.cell (p := ⟨w.heap.size, k * 4, none⟩) hgl).trans hu⟩)
      obtain ⟨q1, t1⟩ := (show ∃ u, w2.cell? ⟨w.heap.size, k * 4 + 1, none⟩ = some u from by obtain ⟨⟨u, hu⟩, -⟩ := hP.out.cell (k * 4 + 1) (by omega); exact ⟨u, (B.cell (p := ⟨w.heap.size, k * 4 + 1, none⟩) hgl).trans hu⟩)
      obtain ⟨q2, t2⟩ := (show ∃ u, w2.cell? ⟨w.heap.size, k * 4 + 2, none⟩ = some u from by obtain ⟨⟨u, hu⟩, -⟩ := hP.out.cell (k * 4 + 2) (by omega); exact ⟨u, (B.cell (p := ⟨w.heap.size, k * 4 + 2, none⟩) hgl).trans hu⟩)
      obtain ⟨q3, t3⟩ := (show ∃ u, w2.cell? ⟨w.heap.size, k * 4 + 3, none⟩ = some u from by obtain ⟨⟨u, hu⟩, -⟩ := hP.out.cell (k * 4 + 3) (by omega); exact ⟨u, (B.cell (p := ⟨w.heap.size, k * 4 + 3, none⟩) hgl).trans hu⟩)
      have fz : ∀ i, w2.frozen? ⟨w.heap.size, i, none⟩ = false := by
        intro i
        obtain ⟨cur, cs, fs, hh, -⟩ := hP.out
        exact frozen_of_row w2 w.heap.size i cur 69 (box_below B hh)
      clear hP hB B he
      go_wp2
      go_roundw
      case rel => exact ⟨k + 1, by omega, by go_num, HS, put_below HB2.out (Nat.le_refl _) (k * 4) [.int .i64 x.uid, .int .i64 x.flags, .int .i64 x.seq, .slice ya yn yc]⟩
      case measure => simp [intOf]; omega
    · obtain rfl : k = l.length := by omega
      go_wp2
      go_ret
      exact ⟨_, rfl, Part.done hP.out rfl (by unfold maxLen; omega) (Nat.le_refl _), hB.out⟩

end Go.Proofs.Ytjdcjhboipileab

/- What toGone, toGoneS of package laws do. -/
namespace Go.Proofs.Ytjdcjhboipileab
open Go.RowKit
set_option maxRecDepth 100000
set_option linter.unusedVariables false

set_option maxHeartbeats 400000 in
theorem toGone_o (x : GoneD) (w : World) :
    Calls Try.prog 64 #[.agg #[.int .i64 x.uid, .int .i64 x.seq]] w fun e w' => e = .returned (.agg #[.int .i64 x.uid, .int .i64 x.seq]) ∧ Below w.heap.size w w' := by
  obtain ⟨uid, seq⟩ := x
  simp only
  go_enter Try.func64, Try.ntmps64
  go_wp2
  exact bodyPost_ret (v := .agg #[.int .i64 uid, .int .i64 seq]) (by simp [results, Try.results64, go_sem]) rfl ⟨rfl, box3_below w _ _ _⟩

theorem infoGone : (Try.prog.info? 71).map (fun i => (i.zero, i.size, i.bytes)) = some (some (.agg #[.int .i64 0, .int .i64 0]), 2, 16) := by kernel_rfl

set_option maxRecDepth 100000 in
set_option maxHeartbeats 1000000 in
theorem toGoneS_r (v : Value) (l : List GoneD) (w : World) (hv : GonesV w v l) (hl : l.length ≤ 2000000) :
    Calls Try.prog 52 #[v] w fun e w' => ∃ u, e = .returned u ∧ GonesR w' w.heap.size w'.heap.size u l ∧ Below w.heap.size w w' := by
  have HV : Hid (∀ wi, Below w.heap.size w wi → GonesV wi v l) := fun wi h => hv.below keepsGone h
  obtain ⟨a, cap, rfl, hlc, hcm⟩ := hv.form
  have hll : l.length ≤ 2000000 := by have := Nat.le_refl l.length; omega
  clear hv
  obtain ⟨i0, hi, hz0, hz1, hz2⟩ := info_parts infoGone
  go_enter Try.func52, Try.ntmps52
  go_wp2_with (at_make; refine wpList_make_full _ rfl _ _ 47 rfl w.heap.size 71 i0 (.agg #[.int .i64 0, .int .i64 0]) 2 Try.underlying47 hi hz0 hz1 _ _ _ _ l.length rfl rfl rfl rfl ?b1 ?b2 ?b3 ?_)
  case b1 => rw [hz2]; omega
  case b2 => unfold maxLen; omega
  case b3 => exact Nat.le_refl _
  intro w1 hown hgrow
  have HB : Hid (Below w.heap.size w w1) := (Below.refl w.heap.size w).grown hgrow (Nat.le_refl _) (by simp)
  have HP : Hid (Part 71 2 GoneE w1 w.heap.size l.length 0 l) := by obtain ⟨cur, h1, h2⟩ := made_part hown; exact Part.start h1 h2
  clear hown hgrow hi hz0 hz1 hz2
  go_wp2
  go_loopw [4] (fun i wr => ∃ k : Nat, k ≤ l.length ∧ i = .int .i64 k ∧ Hid (Part 71 2 GoneE wr w.heap.size l.length k l) ∧ Hid (Below w.heap.size w wr)) (fun i _ => l.length - (intOf i).toNat)
  case atStart => exact ⟨0, Nat.zero_le _, rfl, HP, HB⟩
  case round =>
    obtain ⟨k, hk, rfl, hP, hB⟩ := hrel
    by_cases hlt : k < l.length
    · obtain ⟨x, hx⟩ : ∃ x, l[k]? = some x := ⟨l[k], List.getElem?_eq_getElem hlt⟩
      obtain ⟨b, off, cap', hv', hlb, d0, d1, i0, i1⟩ := GonesV.cell (HV.out wr hB.out) k x hx
      simp only [Value.slice.injEq, true_and] at hv'
      obtain ⟨rfl, rfl⟩ := hv'
      go_wp2_with fail
      refine (toGone_o x _).mono ?_
      rintro e w2 ⟨rfl, B⟩
      clear d0 d1
      have hs2 := B.size
      have HS : Hid (Part 71 2 GoneE (put w2 w.heap.size (k * 2) [.int .i64 x.uid, .int .i64 x.seq]) w.heap.size l.length (k + 1) l) := Part.step framesGone hP.out B x hx hlt _ rfl ⟨rfl, i0, i1⟩
      have HB2 : Hid (Below w.heap.size w w2) := Below.step hB.out B
      have hgl := hP.out.lt
      have hgl2 : w.heap.size < w2.heap.size := by omega
      obtain ⟨q0, t0⟩ := (show ∃ u, w2.cell? ⟨w.heap.size, k * 2, none⟩ = some u from by obtain ⟨⟨u, hu⟩, -⟩ := hP.out.cell (k * 2) (by omega); exact ⟨u, (B.cell (p := ⟨w.heap.size, k * 2, none⟩) hgl).trans hu⟩)
      obtain ⟨q1, t1⟩ := (show ∃ u, w2.cell? ⟨w.heap.size, k * 2 + 1, none⟩ = some u from by obtain ⟨⟨u, hu⟩, -⟩ := hP.out.cell (k * 2 + 1) (by omega); exact ⟨u, (B.cell (p := ⟨w.heap.size, k * 2 + 1, none⟩) hgl).trans hu⟩)
      have fz : ∀ i, w2.frozen? ⟨w.heap.size, i, none⟩ = false := by
        intro i
        obtain ⟨cur, cs, fs, hh, -⟩ := hP.out
        exact frozen_of_row w2 w.heap.size i cur 71 (box_below B hh)
      clear hP hB B 
      go_wp2
      go_roundw
      case rel => exact ⟨k + 1, by omega, by go_num, HS, put_below HB2.out (Nat.le_refl _) (k * 2) [.int .i64 x.uid, .int .i64 x.seq]⟩
      case measure => simp [intOf]; omega
    · obtain rfl : k = l.length := by omega
      go_wp2
      go_ret
      exact ⟨_, rfl, Part.done hP.out rfl (by unfold maxLen; omega) (Nat.le_refl _), hB.out⟩

end Go.Proofs.Ytjdcjhboipileab

/- What toBox, toBoxS of package laws do. -/
namespace Go.Proofs.Ytjdcjhboipileab
open Go.RowKit
set_option maxRecDepth 100000
set_option linter.unusedVariables false

theorem in_chain {B B0 T0 T1 T2 : Nat} (h0 : B ≤ B0) (h1 : B0 ≤ T0) (h2 : T0 ≤ T1) (h3 : T1 ≤ T2) :
    (∀ x, In B0 T0 x → In B T2 x ∧ ¬ In T0 T1 x ∧ ¬ In T1 T2 x) ∧ (∀ x, In T0 T1 x → In B T2 x ∧ ¬ In T1 T2 x) ∧ (∀ x, In T1 T2 x → In B T2 x) := by
  unfold In
  refine ⟨fun x h => ⟨by omega, by omega, by omega⟩, fun x h => ⟨by omega, by omega⟩, fun x h => by omega⟩

set_option maxRecDepth 100000 in
set_option maxHeartbeats 1000000 in
theorem toBox_o (v : Value) (x : BoxD) (w : World) (hv : BoxV w v x) (h0 : szX x ≤ 2000000) :
    Calls Try.prog 30 #[v] w fun e w' => ∃ u, e = .returned u ∧ (∃ a n c p q r s t y, u = .agg #[.slice a n c, .int .i64 x.valid, .int .i64 x.next, .int .i64 x.seq, .slice p q r, .slice s t y, .int .i64 x.lost] ∧ BoxE w' [.slice a n c, .int .i64 x.valid, .int .i64 x.next, .int .i64 x.seq, .slice p q r, .slice s t y, .int .i64 x.lost] x (In w.heap.size w'.heap.size)) ∧ Below w.heap.size w w' := by
  obtain ⟨u0, u1, u2, rfl, g0, g1, g2, i0, i1, i2, i3⟩ := hv
  obtain ⟨name, valid, next, seq, mails, gones, lost⟩ := x
  simp only at g0 g1 g2 i0 i1 i2 i3
  have hs : name.length ≤ 2000000 ∧ szM mails ≤ 2000000 ∧ gones.length ≤ 2000000 := by unfold szX at h0; simp only at h0; omega
  clear h0
  have H0 : Hid (∀ wi, Below w.heap.size w wi → Bs wi u0 name ∧ MailsV wi u1 mails ∧ GonesV wi u2 gones) := fun wi h => ⟨g0.below h, g1.below keepsMail h, g2.below keepsGone h⟩
  obtain ⟨a0, n0, c0, rfl⟩ := g0.form3
  obtain ⟨a1, c1, rfl, -⟩ := g1.form
  obtain ⟨a2, c2, rfl, -⟩ := g2.form
  have HI : Hid (I64 valid ∧ I64 next ∧ I64 seq ∧ I64 lost) := ⟨i0, i1, i2, i3⟩
  clear g0 g1 g2 i0 i1 i2 i3
  simp only
  go_enter Try.func30, Try.ntmps30
  go_wp2_with fail
  refine (toByteS_r _ name _ (H0.out _ (box3_below w _ _ _)).1 hs.1).mono ?_
  rintro e w1 ⟨u0, rfl, R0, B⟩
  obtain ⟨x0, m0, y0, rfl⟩ := R0.bs.form3
  have b3 := box3 w (.cells #[.slice a0 n0 c0, .int .i64 valid, .int .i64 next, .int .i64 seq, .slice a1 mails.length c1, .slice a2 gones.length c2, .int .i64 lost] 58) (.cells #[.slice none 0 0, .int .i64 0, .int .i64 0, .int .i64 0, .slice none 0 0, .slice none 0 0, .int .i64 0] 49) (.cells #[.slice none 0 0, .int .i64 0, .int .i64 0, .int .i64 0, .slice none 0 0, .slice none 0 0, .int .i64 0] 49)
  have kA := box_below B b3.1
  have kR := box_below B b3.2.1
  have kO := box_below B b3.2.2
  have s1 : w.heap.size + 3 ≤ w1.heap.size := by have := B.size; simp at this; omega
  have X := Below.step (box3_below w _ _ _) B
  replace R0 := R0.wide (B' := w.heap.size + 3) (T' := w1.heap.size) (by simp) (Nat.le_refl _)
  clear b3 B
  obtain ⟨-, f1, f2, f3, f4, -, -⟩ := bx7 kA
  obtain ⟨oz, ol⟩ := box8z kO
  obtain ⟨o0, o1, o2, o3, o4, o5, o6⟩ := bx7 kO
  go_wp2_with fail
  clear f1 f2 f3 f4 oz ol o0 o1 o2 o3 o4 o5 o6
  replace X := X.setCell (p := ⟨w.heap.size + 1 + 1, 0, none⟩) (by simp; omega) (.slice x0 m0 y0)
  replace R0 := R0.set (g := w.heap.size + 1 + 1) (i := 0) (x := .slice x0 m0 y0) (.inl (by omega))
  replace kA := box_other (i := 0) (v := .slice x0 m0 y0) kA (show w.heap.size ≠ w.heap.size + 1 + 1 by omega)
  replace kR := box_other (i := 0) (v := .slice x0 m0 y0) kR (show w.heap.size + 1 ≠ w.heap.size + 1 + 1 by omega)
  replace kO : (World.setCell _ _ _).heap[w.heap.size + 1 + 1]? = some (Obj.cells #[.slice x0 m0 y0, .int .i64 0, .int .i64 0, .int .i64 0, .slice none 0 0, .slice none 0 0, .int .i64 0] 49) := box_set (i := 0) (v := .slice x0 m0 y0) kO
  replace X := X.setCell (p := ⟨w.heap.size + 1 + 1, 1, none⟩) (by simp; omega) (.int .i64 valid)
  replace R0 := R0.set (g := w.heap.size + 1 + 1) (i := 1) (x := .int .i64 valid) (.inl (by omega))
  replace kA := box_other (i := 1) (v := .int .i64 valid) kA (show w.heap.size ≠ w.heap.size + 1 + 1 by omega)
  replace kR := box_other (i := 1) (v := .int .i64 valid) kR (show w.heap.size + 1 ≠ w.heap.size + 1 + 1 by omega)
  replace kO : (World.setCell _ _ _).heap[w.heap.size + 1 + 1]? = some (Obj.cells #[.slice x0 m0 y0, .int .i64 valid, .int .i64 0, .int .i64 0, .slice none 0 0, .slice none 0 0, .int .i64 0] 49) := box_set (i := 1) (v := .int .i64 valid) kO
  replace X := X.setCell (p := ⟨w.heap.size + 1 + 1, 2, none⟩) (by simp; omega) (.int .i64 next)
  replace R0 := R0.set (g := w.heap.size + 1 + 1) (i := 2) (x := .int .i64 next) (.inl (by omega))
  replace kA := box_other (i := 2) (v := .int .i64 next) kA (show w.heap.size ≠ w.heap.size + 1 + 1 by omega)
  replace kR := box_other (i := 2) (v := .int .i64 next) kR (show w.heap.size + 1 ≠ w.heap.size + 1 + 1 by omega)
  replace kO : (World.setCell _ _ _).heap[w.heap.size + 1 + 1]? = some (Obj.cells #[.slice x0 m0 y0, .int .i64 valid, .int .i64 next, .int .i64 0, .slice none 0 0, .slice none 0 0, .int .i64 0] 49) := box_set (i := 2) (v := .int .i64 next) kO
  replace X := X.setCell (p := ⟨w.heap.size + 1 + 1, 3, none⟩) (by simp; omega) (.int .i64 seq)
  replace R0 := R0.set (g := w.heap.size + 1 + 1) (i := 3) (x := .int .i64 seq) (.inl (by omega))
  replace kA := box_other (i := 3) (v := .int .i64 seq) kA (show w.heap.size ≠ w.heap.size + 1 + 1 by omega)
  replace kR := box_other (i := 3) (v := .int .i64 seq) kR (show w.heap.size + 1 ≠ w.heap.size + 1 + 1 by omega)
  replace kO : (World.setCell _ _ _).heap[w.heap.size + 1 + 1]? = some (Obj.cells #[.slice x0 m0 y0, .int .i64 valid, .int .i64 next, .int .i64 seq, .slice none 0 0, .slice none 0 0, .int .i64 0] 49) := box_set (i := 3) (v := .int .i64 seq) kO
  refine (toMailS_r _ mails _ (H0.out _ X).2.1 hs.2.1).mono ?_
  rintro e w2 ⟨u1, rfl, R1, B⟩
  obtain ⟨x1, m1, y1, rfl⟩ := R1.form3
  simp only [box_size] at R1
  have s2 : w1.heap.size ≤ w2.heap.size := by have := B.size; simpa only [box_size] using this
  replace X := Below.step X B
  replace R0 := R0.below B
  replace kA := box_below B kA
  replace kR := box_below B kR
  replace kO := box_below B kO
  clear B
  obtain ⟨-, -, -, -, -, f5, -⟩ := bx7 kA
  obtain ⟨oz, ol⟩ := box8z kO
  obtain ⟨o0, o1, o2, o3, o4, o5, o6⟩ := bx7 kO
  go_wp2_with fail
  clear f5 oz ol o0 o1 o2 o3 o4 o5 o6
  replace X := X.setCell (p := ⟨w.heap.size + 1 + 1, 4, none⟩) (by simp; omega) (.slice x1 m1 y1)
  replace R0 := R0.set (g := w.heap.size + 1 + 1) (i := 4) (x := .slice x1 m1 y1) (.inl (by omega))
  replace R1 := R1.set (g := w.heap.size + 1 + 1) (i := 4) (x := .slice x1 m1 y1) (.inl (by omega))
  replace kA := box_other (i := 4) (v := .slice x1 m1 y1) kA (show w.heap.size ≠ w.heap.size + 1 + 1 by omega)
  replace kR := box_other (i := 4) (v := .slice x1 m1 y1) kR (show w.heap.size + 1 ≠ w.heap.size + 1 + 1 by omega)
  replace kO : (World.setCell _ _ _).heap[w.heap.size + 1 + 1]? = some (Obj.cells #[.slice x0 m0 y0, .int .i64 valid, .int .i64 next, .int .i64 seq, .slice x1 m1 y1, .slice none 0 0, .int .i64 0] 49) := box_set (i := 4) (v := .slice x1 m1 y1) kO
  refine (toGoneS_r _ gones _ (H0.out _ X).2.2 hs.2.2).mono ?_
  rintro e w3 ⟨u2, rfl, R2, B⟩
  obtain ⟨x2, m2, y2, rfl⟩ := R2.form3
  simp only [box_size] at R2
  have s3 : w2.heap.size ≤ w3.heap.size := by have := B.size; simpa only [box_size] using this
  replace X := Below.step X B
  replace R0 := R0.below B
  replace R1 := R1.below B
  replace kA := box_below B kA
  replace kR := box_below B kR
  replace kO := box_below B kO
  clear B
  obtain ⟨-, -, -, -, -, -, f6⟩ := bx7 kA
  obtain ⟨oz, ol⟩ := box8z kO
  obtain ⟨o0, o1, o2, o3, o4, o5, o6⟩ := bx7 kO
  obtain ⟨rz, rl⟩ := box8z kR
  obtain ⟨r0, r1, r2, r3, r4, r5, r6⟩ := bx7 kR
  go_wp2
  refine bodyPost_ret (v := .agg #[.slice x0 m0 y0, .int .i64 valid, .int .i64 next, .int .i64 seq, .slice x1 m1 y1, .slice x2 m2 y2, .int .i64 lost]) (by simp [results, Try.results30, go_sem, r0, r1, r2, r3, r4, r5, r6]) rfl ⟨_, rfl, ?_, ?_⟩
  · simp only [box_size]
    exact ⟨_, _, _, _, _, _, _, _, _, rfl, _, _, _, In (w.heap.size + 3) w1.heap.size, In w1.heap.size w2.heap.size, In w2.heap.size w3.heap.size, rfl, Row.ro ((((((((((R0.set (g := w.heap.size + 1 + 1) (i := 5) (x := .slice x2 m2 y2) (.inl (by omega))).set (g := w.heap.size + 1 + 1) (i := 6) (x := .int .i64 lost) (.inl (by omega))).set (g := w.heap.size + 1) (i := 0) (x := .slice x0 m0 y0) (.inl (by omega))).set (g := w.heap.size + 1) (i := 1) (x := .int .i64 valid) (.inl (by omega))).set (g := w.heap.size + 1) (i := 2) (x := .int .i64 next) (.inl (by omega))).set (g := w.heap.size + 1) (i := 3) (x := .int .i64 seq) (.inl (by omega))).set (g := w.heap.size + 1) (i := 4) (x := .slice x1 m1 y1) (.inl (by omega))).set (g := w.heap.size + 1) (i := 5) (x := .slice x2 m2 y2) (.inl (by omega))).set (g := w.heap.size + 1) (i := 6) (x := .int .i64 lost) (.inl (by omega)))), OwR.ow ((((((((((R1.set (g := w.heap.size + 1 + 1) (i := 5) (x := .slice x2 m2 y2) (.inl (by omega))).set (g := w.heap.size + 1 + 1) (i := 6) (x := .int .i64 lost) (.inl (by omega))).set (g := w.heap.size + 1) (i := 0) (x := .slice x0 m0 y0) (.inl (by omega))).set (g := w.heap.size + 1) (i := 1) (x := .int .i64 valid) (.inl (by omega))).set (g := w.heap.size + 1) (i := 2) (x := .int .i64 next) (.inl (by omega))).set (g := w.heap.size + 1) (i := 3) (x := .int .i64 seq) (.inl (by omega))).set (g := w.heap.size + 1) (i := 4) (x := .slice x1 m1 y1) (.inl (by omega))).set (g := w.heap.size + 1) (i := 5) (x := .slice x2 m2 y2) (.inl (by omega))).set (g := w.heap.size + 1) (i := 6) (x := .int .i64 lost) (.inl (by omega)))), OwR.ow ((((((((((R2.set (g := w.heap.size + 1 + 1) (i := 5) (x := .slice x2 m2 y2) (.inl (by omega))).set (g := w.heap.size + 1 + 1) (i := 6) (x := .int .i64 lost) (.inl (by omega))).set (g := w.heap.size + 1) (i := 0) (x := .slice x0 m0 y0) (.inl (by omega))).set (g := w.heap.size + 1) (i := 1) (x := .int .i64 valid) (.inl (by omega))).set (g := w.heap.size + 1) (i := 2) (x := .int .i64 next) (.inl (by omega))).set (g := w.heap.size + 1) (i := 3) (x := .int .i64 seq) (.inl (by omega))).set (g := w.heap.size + 1) (i := 4) (x := .slice x1 m1 y1) (.inl (by omega))).set (g := w.heap.size + 1) (i := 5) (x := .slice x2 m2 y2) (.inl (by omega))).set (g := w.heap.size + 1) (i := 6) (x := .int .i64 lost) (.inl (by omega)))), (in_chain (by omega) (by omega) (by omega) (by omega)).1, (in_chain (B0 := w.heap.size + 3) (by omega) (by omega) (by omega) (by omega)).2.1, (in_chain (B0 := w.heap.size + 3) (T0 := w1.heap.size) (by omega) (by omega) (by omega) (by omega)).2.2, HI.out⟩
  · exact (((((((((X.setCell (p := ⟨w.heap.size + 1 + 1, 5, none⟩) (by simp <;> omega) (.slice x2 m2 y2)).setCell (p := ⟨w.heap.size + 1 + 1, 6, none⟩) (by simp <;> omega) (.int .i64 lost)).setCell (p := ⟨w.heap.size + 1, 0, none⟩) (by simp <;> omega) (.slice x0 m0 y0)).setCell (p := ⟨w.heap.size + 1, 1, none⟩) (by simp <;> omega) (.int .i64 valid)).setCell (p := ⟨w.heap.size + 1, 2, none⟩) (by simp <;> omega) (.int .i64 next)).setCell (p := ⟨w.heap.size + 1, 3, none⟩) (by simp <;> omega) (.int .i64 seq)).setCell (p := ⟨w.heap.size + 1, 4, none⟩) (by simp <;> omega) (.slice x1 m1 y1)).setCell (p := ⟨w.heap.size + 1, 5, none⟩) (by simp <;> omega) (.slice x2 m2 y2)).setCell (p := ⟨w.heap.size + 1, 6, none⟩) (by simp <;> omega) (.int .i64 lost))

theorem infoBox : (Try.prog.info? 49).map (fun i => (i.zero, i.size, i.bytes)) = some (some (.agg #[.slice none 0 0, .int .i64 0, .int .i64 0, .int .i64 0, .slice none 0 0, .slice none 0 0, .int .i64 0]), 7, 104) := by kernel_rfl

set_option maxRecDepth 100000 in
set_option maxHeartbeats 1000000 in
theorem toBoxS_r (v : Value) (l : List BoxD) (w : World) (hv : BoxesV w v l) (hl : szXs l ≤ 2000000) :
    Calls Try.prog 17 #[v] w fun e w' => ∃ u, e = .returned u ∧ BoxesR w' w.heap.size w'.heap.size u l ∧ Below w.heap.size w w' := by
  have HV : Hid (∀ wi, Below w.heap.size w wi → BoxesV wi v l) := fun wi h => hv.below keepsBox h
  obtain ⟨a, cap, rfl, hlc, hcm⟩ := hv.form
  have hll : l.length ≤ 2000000 := by have := szXs_len l; omega
  clear hv
  obtain ⟨i0, hi, hz0, hz1, hz2⟩ := info_parts infoBox
  go_enter Try.func17, Try.ntmps17
  go_wp2_with (at_make; refine wpList_make_full _ rfl _ _ 30 rfl w.heap.size 49 i0 (.agg #[.slice none 0 0, .int .i64 0, .int .i64 0, .int .i64 0, .slice none 0 0, .slice none 0 0, .int .i64 0]) 7 Try.underlying30 hi hz0 hz1 _ _ _ _ l.length rfl rfl rfl rfl ?b1 ?b2 ?b3 ?_)
  case b1 => rw [hz2]; omega
  case b2 => unfold maxLen; omega
  case b3 => exact Nat.le_refl _
  intro w1 hown hgrow
  have HB : Hid (Below w.heap.size w w1) := (Below.refl w.heap.size w).grown hgrow (Nat.le_refl _) (by simp)
  have HP : Hid (Part 49 7 BoxE w1 w.heap.size l.length 0 l) := by obtain ⟨cur, h1, h2⟩ := made_part hown; exact Part.start h1 h2
  clear hown hgrow hi hz0 hz1 hz2
  go_wp2
  go_loopw [4] (fun i wr => ∃ k : Nat, k ≤ l.length ∧ i = .int .i64 k ∧ Hid (Part 49 7 BoxE wr w.heap.size l.length k l) ∧ Hid (Below w.heap.size w wr)) (fun i _ => l.length - (intOf i).toNat)
  case atStart => exact ⟨0, Nat.zero_le _, rfl, HP, HB⟩
  case round =>
    obtain ⟨k, hk, rfl, hP, hB⟩ := hrel
    by_cases hlt : k < l.length
    · obtain ⟨x, hx⟩ : ∃ x, l[k]? = some x := ⟨l[k], List.getElem?_eq_getElem hlt⟩
      obtain ⟨b, off, cap', u0, u1, u2, hv', hlb, d0, d1, d2, d3, d4, d5, d6, hu0, hu1, hu2, i0, i1, i2, i3⟩ := BoxesV.cell (HV.out wr hB.out) k x hx
      simp only [Value.slice.injEq, true_and] at hv'
      obtain ⟨rfl, rfl⟩ := hv'
      obtain ⟨ua, un, uc, rfl⟩ := hu0.form3
      obtain ⟨va, vc, rfl, -⟩ := hu1.form
      obtain ⟨wa, wc, rfl, -⟩ := hu2.form
      go_wp2_with fail
      refine (toBox_o _ x _ ⟨_, _, _, rfl, hu0, hu1, hu2, i0, i1, i2, i3⟩ (by have := szXs_mem (List.mem_of_getElem? hx); omega)).mono ?_
      rintro e w2 ⟨_, rfl, ⟨ya, yn, yc, za, zn, zc, ta, tn, tc, rfl, he⟩, B⟩
      clear d0 d1 d2 d3 d4 d5 d6
      have hs2 := B.size
      have HS : Hid (Part 49 7 BoxE (put w2 w.heap.size (k * 7) [.slice ya yn yc, .int .i64 x.valid, .int .i64 x.next, .int .i64 x.seq, .slice za zn zc, .slice ta tn tc, .int .i64 x.lost]) w.heap.size l.length (k + 1) l) := Part.step framesBox hP.out B x hx hlt _ rfl he
      have HB2 : Hid (Below w.heap.size w w2) := Below.step hB.out B
      have hgl := hP.out.lt
      have hgl2 : w.heap.size < w2.heap.size := by omega
      obtain ⟨q0, t0⟩ := (show ∃ u, w2.cell? ⟨w.heap.size, k * 7, none⟩ = some u from by obtain ⟨⟨u, hu⟩, -⟩ := hP.out.cell (k * 7) (by omega); exact ⟨u, (B.cell (p := ⟨w.heap.size, k * 7, none⟩) hgl).trans hu⟩)
      obtain ⟨q1, t1⟩ := (show ∃ u, w2.cell? ⟨w.heap.size, k * 7 + 1, none⟩ = some u from by obtain ⟨⟨u, hu⟩, -⟩ := hP.out.cell (k * 7 + 1) (by omega); exact ⟨u, (B.cell (p := ⟨w.heap.size, k * 7 + 1, none⟩) hgl).trans hu⟩)
      obtain ⟨q2, t2⟩ := (show ∃ u, w2.cell? ⟨w.heap.size, k * 7 + 2, none⟩ = some u from by obtain ⟨⟨u, hu⟩, -⟩ := hP.out.cell (k * 7 + 2) (by omega); exact ⟨u, (B.cell (p := ⟨w.heap.size, k * 7 + 2, none⟩) hgl).trans hu⟩)
      obtain ⟨q3, t3⟩ := (show ∃ u, w2.cell? ⟨w.heap.size, k * 7 + 3, none⟩ = some u from by obtain ⟨⟨u, hu⟩, -⟩ := hP.out.cell (k * 7 + 3) (by omega); exact ⟨u, (B.cell (p := ⟨w.heap.size, k * 7 + 3, none⟩) hgl).trans hu⟩)
      obtain ⟨q4, t4⟩ := (show ∃ u, w2.cell? ⟨w.heap.size, k * 7 + 4, none⟩ = some u from by obtain ⟨⟨u, hu⟩, -⟩ := hP.out.cell (k * 7 + 4) (by omega); exact ⟨u, (B.cell (p := ⟨w.heap.size, k * 7 + 4, none⟩) hgl).trans hu⟩)
      obtain ⟨q5, t5⟩ := (show ∃ u, w2.cell? ⟨w.heap.size, k * 7 + 5, none⟩ = some u from by obtain ⟨⟨u, hu⟩, -⟩ := hP.out.cell (k * 7 + 5) (by omega); exact ⟨u, (B.cell (p := ⟨w.heap.size, k * 7 + 5, none⟩) hgl).trans hu⟩)
      obtain ⟨q6, t6⟩ := (show ∃ u, w2.cell? ⟨w.heap.size, k * 7 + 6, none⟩ = some u from by obtain ⟨⟨u, hu⟩, -⟩ := hP.out.cell (k * 7 + 6) (by omega); exact ⟨u, (B.cell (p := ⟨w.heap.size, k * 7 + 6, none⟩) hgl).trans hu⟩)
      have fz : ∀ i, w2.frozen? ⟨w.heap.size, i, none⟩ = false := by
        intro i
        obtain ⟨cur, cs, fs, hh, -⟩ := hP.out
        exact frozen_of_row w2 w.heap.size i cur 49 (box_below B hh)
      clear hP hB B he
      go_wp2
      go_roundw
      case rel => exact ⟨k + 1, by omega, by go_num, HS, put_below HB2.out (Nat.le_refl _) (k * 7) [.slice ya yn yc, .int .i64 x.valid, .int .i64 x.next, .int .i64 x.seq, .slice za zn zc, .slice ta tn tc, .int .i64 x.lost]⟩
      case measure => simp [intOf]; omega
    · obtain rfl : k = l.length := by omega
      go_wp2
      go_ret
      exact ⟨_, rfl, Part.done hP.out rfl (by unfold maxLen; omega) (Nat.le_refl _), hB.out⟩

end Go.Proofs.Ytjdcjhboipileab
