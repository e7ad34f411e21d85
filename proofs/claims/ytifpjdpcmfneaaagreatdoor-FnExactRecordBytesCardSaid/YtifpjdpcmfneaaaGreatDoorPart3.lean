/- The proof's texts, part 3. -/
import Derived.Test.YtifpjdpcmfneaaaGreatDoorPart1
import Derived.Test.YtifpjdpcmfneaaaGreatDoorPart2
import Derived.WalkKit
import Derived.Lib.Bytealg
import Derived.Lib.ItoaNum
import Derived.Laws.BytesArg
import Derived.Lib.AppendStr
import Derived.Lib.ConvBytes

/- Rows of rows ([][]byte): what one reads as, one of the call's own, its rows apart from each other. -/
namespace Go.Proofs.YtifpjdpcmfneaaaGreatDoor
open Go.RowKit

/-- The sum of the first sizes. -/
def pre (m : Nat → Nat) : Nat → Nat
  | 0 => 0
  | j + 1 => pre m j + m j
theorem pre_mono (m : Nat → Nat) {i j : Nat} (h : i ≤ j) : pre m i ≤ pre m j := by
  induction j with
  | zero => simp at h; subst h; exact Nat.le_refl _
  | succ j ih =>
    by_cases hj : i = j + 1
    · subst hj; exact Nat.le_refl _
    · have := ih (by omega); simp only [pre]; omega
theorem pre_congr {m m' : Nat → Nat} {n : Nat} (h : ∀ i, i < n → m i = m' i) : pre m n = pre m' n := by
  induction n with
  | zero => rfl
  | succ n ih => simp only [pre]; rw [ih (fun i hi => h i (by omega)), h n (by omega)]

/-- The slice value v reads as n rows of bytes: the i-th is f i. -/
def SsF (w : World) (v : Value) (n : Nat) (f : Nat → List Int) : Prop :=
  ∃ a cap, ∃ us : Nat → Value, v = .slice a n cap ∧ n ≤ cap ∧ cap ≤ maxLen ∧
    (0 < n → ∃ b off, a = some ⟨b, off, none⟩ ∧ b < w.heap.size ∧ ∀ i, i < n → w.cell? ⟨b, off + i, none⟩ = some (us i)) ∧ ∀ i, i < n → Bs w (us i) (f i)

theorem SsF.below {w w' : World} {v : Value} {n : Nat} {f : Nat → List Int} (h : SsF w v n f) (hb : Below w.heap.size w w') : SsF w' v n f := by
  obtain ⟨a, cap, us, hv, h1, h2, h3, h4⟩ := h
  refine ⟨a, cap, us, hv, h1, h2, fun hp => ?_, fun i hi => (h4 i hi).below hb⟩
  obtain ⟨b, off, ha, hlt, hc⟩ := h3 hp
  exact ⟨b, off, ha, Nat.lt_of_lt_of_le hlt hb.size, fun i hi => (hb.cell (p := ⟨b, off + i, none⟩) hlt).trans (hc i hi)⟩
theorem SsF.form3 {w : World} {v : Value} {n : Nat} {f : Nat → List Int} (h : SsF w v n f) : ∃ a m cap, v = .slice a m cap := by obtain ⟨a, cap, _, h, _⟩ := h; exact ⟨a, _, cap, h⟩
theorem SsF.congr {w : World} {v : Value} {n : Nat} {f g : Nat → List Int} (h : SsF w v n f) (e : ∀ i, i < n → f i = g i) : SsF w v n g := by
  obtain ⟨a, cap, us, hv, h1, h2, h3, h4⟩ := h
  exact ⟨a, cap, us, hv, h1, h2, h3, fun i hi => by rw [← e i hi]; exact h4 i hi⟩

/-- The row of rows v with the slices us is the call's own, in blocks from B on and below T, no two in one; the i-th row's bytes are f i. -/
structure RowF (w : World) (B T : Nat) (v : Value) (us : List Value) (f : Nat → List Int) : Prop where
  row : w.ownsRow B 22 1 v us.length us
  top : ∀ g, v.ownBlock = some g → g < T
  rows : ∀ (i : Nat) (u : Value), us[i]? = some u → Row w B T u (f i)
  distinct : ∀ (i j : Nat) (u u' : Value) (g : Nat), us[i]? = some u → us[j]? = some u' → u.ownBlock = some g → u'.ownBlock = some g → i = j

/-- The rows of a list. -/
def RowS (w : World) (B T : Nat) (v : Value) (ls : List (List Int)) : Prop := ∃ us : List Value, us.length = ls.length ∧ RowF w B T v us (fun i => ls.getD i [])

theorem Row.heap {w : World} {B T g : Nat} {v : Value} {l : List Int} (h : Row w B T v l) (hg : v.ownBlock = some g) : ∃ cur, w.heap[g]? = some (.cells cur 5 (0, 0)) := by
  rcases h.2.1.2 with ⟨hn, _⟩ | ⟨k, cap, cur, hv, _, hh, _⟩
  · rw [hn] at hg; simp [Value.ownBlock] at hg
  · rw [hv] at hg; simp [Value.ownBlock] at hg; subst hg; exact ⟨cur, hh⟩
theorem ownsRow_heap {w : World} {B g n : Nat} {e : TypeId} {v : Value} {xs : List Value} (h : w.ownsRow B e 1 v n xs) (hg : v.ownBlock = some g) : ∃ cur, w.heap[g]? = some (.cells cur e (0, 0)) := by
  rcases h.2 with ⟨hn, _⟩ | ⟨k, cap, cur, hv, _, hh, _⟩
  · rw [hn] at hg; simp [Value.ownBlock] at hg
  · rw [hv] at hg; simp [Value.ownBlock] at hg; subst hg; exact ⟨cur, hh⟩
/-- A row of bytes and a row of slices never lie in one block. -/
theorem apart_types {w : World} {B B' T n : Nat} {v u : Value} {xs : List Value} {l : List Int} (h : w.ownsRow B 22 1 v n xs) (hu : Row w B' T u l) : u.ownBlock = none ∨ u.ownBlock ≠ v.ownBlock := by
  cases hg : u.ownBlock with
  | none => exact .inl rfl
  | some g =>
    refine .inr fun e => ?_
    obtain ⟨c1, h1⟩ := ownsRow_heap h e.symm
    obtain ⟨c2, h2⟩ := hu.heap hg
    rw [h1] at h2
    simp at h2

theorem ownsRow_below {w w' : World} {B n : Nat} {e : TypeId} {v : Value} {xs : List Value} (h : w.ownsRow B e 1 v n xs) (hb : Below w.heap.size w w') : w'.ownsRow B e 1 v n xs := by
  refine ⟨h.1, ?_⟩
  rcases h.2 with hn | ⟨g, cap, cur, hv, hg, hh, r⟩
  · exact .inl hn
  · exact .inr ⟨g, cap, cur, hv, hg, (hb.block g (lt_of_heap hh)).trans hh, r⟩
theorem ownsRow_keptW {w w' : World} {B T B' T' n : Nat} {e : TypeId} {v : Value} {xs : List Value} (h : w.ownsRow B e 1 v n xs) (ht : ∀ g, v.ownBlock = some g → g < T) (hw : Within B' T' w w') (hd : T ≤ B' ∨ T' ≤ B) : w'.ownsRow B e 1 v n xs := by
  refine ⟨h.1, ?_⟩
  rcases h.2 with hn | ⟨g, cap, cur, hv, hg, hh, r⟩
  · exact .inl hn
  · have hlt : g < T := ht g (by rw [hv]; rfl)
    exact .inr ⟨g, cap, cur, hv, hg, (hw.block g (lt_of_heap hh) (by omega)).trans hh, r⟩
theorem ownsRow_wide {w : World} {B B' n : Nat} {e : TypeId} {v : Value} {xs : List Value} (h : w.ownsRow B e 1 v n xs) (hB : B' ≤ B) : w.ownsRow B' e 1 v n xs := by
  refine ⟨h.1, ?_⟩
  rcases h.2 with hn | ⟨g, cap, cur, hv, hg, r⟩
  · exact .inl hn
  · exact .inr ⟨g, cap, cur, hv, Nat.le_trans hB hg, r⟩

theorem RowF.below {w w' : World} {B T : Nat} {v : Value} {us : List Value} {f : Nat → List Int} (h : RowF w B T v us f) (hb : Below w.heap.size w w') : RowF w' B T v us f :=
  ⟨ownsRow_below h.row hb, h.top, fun i u hu => (h.rows i u hu).below hb, h.distinct⟩
theorem RowF.keptW {w w' : World} {B T B' T' : Nat} {v : Value} {us : List Value} {f : Nat → List Int} (h : RowF w B T v us f) (hw : Within B' T' w w') (hd : T ≤ B' ∨ T' ≤ B) : RowF w' B T v us f :=
  ⟨ownsRow_keptW h.row h.top hw hd, h.top, fun i u hu => (h.rows i u hu).keptW hw hd, h.distinct⟩
theorem RowF.wide {w : World} {B T B' T' : Nat} {v : Value} {us : List Value} {f : Nat → List Int} (h : RowF w B T v us f) (hB : B' ≤ B) (hT : T ≤ T') : RowF w B' T' v us f :=
  ⟨ownsRow_wide h.row hB, fun g hg => Nat.lt_of_lt_of_le (h.top g hg) hT, fun i u hu => (h.rows i u hu).wide hB hT, h.distinct⟩
theorem RowF.congr {w : World} {B T : Nat} {v : Value} {us : List Value} {f g : Nat → List Int} (h : RowF w B T v us f) (e : ∀ i, i < us.length → f i = g i) : RowF w B T v us g :=
  ⟨h.row, h.top, fun i u hu => by rw [← e i (List.getElem?_eq_some_iff.1 hu).1]; exact h.rows i u hu, h.distinct⟩
theorem RowF.nil (w : World) (B T : Nat) (f : Nat → List Int) : RowF w B T (.slice none 0 0) [] f :=
  ⟨World.ownsRow_nil _ _ _ _, fun g hg => by simp [Value.ownBlock] at hg, fun i u hu => by simp at hu, fun i j u u' g hu => by simp at hu⟩
/-- One of the rows was written. -/
theorem RowF.wrote {w w' : World} {B T i : Nat} {v u : Value} {us : List Value} {f : Nat → List Int} {l : List Int} (h : RowF w B T v us f) (hu : us[i]? = some u) (hg : w.grownBy w' u.ownBlock) (hr : Row w' B T u l) : RowF w' B T v us (fun j => if j = i then l else f j) := by
  have hri := h.rows i u hu
  refine ⟨h.row.kept hg ?_, h.top, fun j u' hu' => ?_, h.distinct⟩
  · cases hv : v.ownBlock with
    | none => exact .inl rfl
    | some g =>
      refine .inr fun e => ?_
      rcases apart_types h.row hri with h1 | h1
      · rw [h1] at e; simp at e
      · exact h1 (by rw [hv]; exact e.symm)
  · by_cases hj : j = i
    · subst hj
      rw [hu] at hu'
      cases hu'
      simpa using hr
    · simp only [if_neg hj]
      have hrj := h.rows j u' hu'
      refine ⟨hrj.1, hrj.2.1.kept hg ?_, hrj.2.2⟩
      cases hv : u'.ownBlock with
      | none => exact .inl rfl
      | some g => exact .inr fun e => hj (h.distinct j i u' u g hu' hu hv e.symm)
/-- What was written lies within the rows' blocks. -/
theorem RowF.within {w w' : World} {B T i : Nat} {v u : Value} {us : List Value} {f : Nat → List Int} (h : RowF w B T v us f) (hu : us[i]? = some u) (hg : w.grownBy w' u.ownBlock) : Within B T w w' := (h.rows i u hu).within hg

theorem RowF.ss {w : World} {B T : Nat} {v : Value} {us : List Value} {f : Nat → List Int} (h : RowF w B T v us f) : SsF w v us.length f := by
  rcases h.row.2 with ⟨hn, hz⟩ | ⟨g, cap, cur, hv, hg, hh, h1, h2, h3, h4⟩
  · have : us = [] := List.eq_nil_of_length_eq_zero hz
    subst this
    exact ⟨none, 0, fun _ => .slice none 0 0, hn, by simp, by simp, fun hp => by simp at hp, fun i hi => by simp at hi⟩
  · refine ⟨_, cap, fun i => us.getD i (.slice none 0 0), hv, h1, h2, fun hp => ⟨g, 0, rfl, lt_of_heap hh, fun i hi => ?_⟩, fun i hi => ?_⟩
    · rw [Nat.zero_add, cell_of_row w g i cur 22 (0, 0) hh]
      rw [Nat.mul_one] at h4
      have e : us[i]? = some (us.getD i (.slice none 0 0)) := by simp [hi]
      rw [← h4, List.getElem?_take, if_pos hi] at e
      rw [h4] at e
      simpa using e
    · have e : us[i]? = some (us.getD i (.slice none 0 0)) := by simp [hi]
      exact (h.rows i _ e).bs

/-- One more row was appended: the slices' row has grown, a new row stands behind. -/
theorem RowF.snoc {w w' : World} {B T T' : Nat} {v v' u : Value} {us : List Value} {f : Nat → List Int} {l : List Int} (h : RowF w B T v us f) (hu : Row w T T' u l) (hT : T ≤ T') (hB : B ≤ T) (hr : w'.ownsRow B 22 1 v' (us.length + 1) (us ++ [u])) (hg : w.grownBy w' v.ownBlock) :
    RowF w' B (max T' w'.heap.size) v' (us ++ [u]) (fun j => if j = us.length then l else f j) := by
  have keep : ∀ {x : Value} {k : List Int} {B0 T0 : Nat}, Row w B0 T0 x k → Row w' B0 T0 x k := fun {x} {k} {B0} {T0} hx => by
    refine ⟨hx.1, hx.2.1.kept hg ?_, hx.2.2⟩
    exact apart_types h.row hx
  refine ⟨by simpa using hr, fun g hg' => Nat.lt_of_lt_of_le (hr.lt g hg').2 (Nat.le_max_right _ _), fun i x hx => ?_, fun i j x x' g hx hx' hgx hgx' => ?_⟩
  · by_cases hi : i < us.length
    · rw [List.getElem?_append_left hi] at hx
      simp only [if_neg (show ¬ i = us.length by omega)]
      exact (keep (h.rows i x hx)).wide (Nat.le_refl _) (Nat.le_trans hT (Nat.le_max_left _ _))
    · rw [List.getElem?_append_right (by omega)] at hx
      have h0 : i - us.length = 0 := by
        by_cases h0 : i - us.length = 0
        · exact h0
        · rw [List.getElem?_eq_none (by simp; omega)] at hx; simp at hx
      have hi' : i = us.length := by omega
      rw [h0] at hx
      simp at hx
      subst hx
      simp only [if_pos hi']
      exact (keep hu).wide hB (Nat.le_max_left _ _)
  · have last : ∀ {i : Nat} {x : Value}, (us ++ [u])[i]? = some x → (i < us.length ∧ us[i]? = some x) ∨ (i = us.length ∧ x = u) := fun {i} {x} hx => by
      by_cases hi : i < us.length
      · rw [List.getElem?_append_left hi] at hx; exact .inl ⟨hi, hx⟩
      · rw [List.getElem?_append_right (by omega)] at hx
        by_cases h0 : i - us.length = 0
        · rw [h0] at hx; simp at hx; exact .inr ⟨by omega, hx.symm⟩
        · rw [List.getElem?_eq_none (by simp; omega)] at hx; simp at hx
    rcases last hx with ⟨hi, hy⟩ | ⟨hi, hy⟩ <;> rcases last hx' with ⟨hj, hy'⟩ | ⟨hj, hy'⟩
    · exact h.distinct i j x x' g hy hy' hgx hgx'
    · have h1 := (h.rows i x hy).2.2 g hgx
      rw [hy'] at hgx'
      have h2 := (hu.2.1.lt g hgx').1
      omega
    · have h1 := (h.rows j x' hy').2.2 g hgx'
      rw [hy] at hgx
      have h2 := (hu.2.1.lt g hgx).1
      omega
    · omega

theorem RowS.below {w w' : World} {B T : Nat} {v : Value} {ls : List (List Int)} (h : RowS w B T v ls) (hb : Below w.heap.size w w') : RowS w' B T v ls := let ⟨us, e, h⟩ := h; ⟨us, e, h.below hb⟩
theorem RowS.keptW {w w' : World} {B T B' T' : Nat} {v : Value} {ls : List (List Int)} (h : RowS w B T v ls) (hw : Within B' T' w w') (hd : T ≤ B' ∨ T' ≤ B) : RowS w' B T v ls := let ⟨us, e, h⟩ := h; ⟨us, e, h.keptW hw hd⟩
theorem RowS.wide {w : World} {B T B' T' : Nat} {v : Value} {ls : List (List Int)} (h : RowS w B T v ls) (hB : B' ≤ B) (hT : T ≤ T') : RowS w B' T' v ls := let ⟨us, e, h⟩ := h; ⟨us, e, h.wide hB hT⟩
theorem RowS.nil (w : World) (B T : Nat) : RowS w B T (.slice none 0 0) [] := ⟨[], rfl, RowF.nil _ _ _ _⟩
theorem RowS.ss {w : World} {B T : Nat} {v : Value} {ls : List (List Int)} (h : RowS w B T v ls) : SsF w v ls.length (fun i => ls.getD i []) := by
  obtain ⟨us, e, h⟩ := h; rw [← e]; exact h.ss
theorem RowS.snoc {w w' : World} {B T T' : Nat} {v v' u : Value} {us : List Value} {ls : List (List Int)} {l : List Int} (he : us.length = ls.length) (h : RowF w B T v us (fun i => ls.getD i [])) (hu : Row w T T' u l) (hT : T ≤ T') (hB : B ≤ T) (hr : w'.ownsRow B 22 1 v' (us.length + 1) (us ++ [u])) (hg : w.grownBy w' v.ownBlock) (hm : T' ≤ w'.heap.size) :
    RowS w' B w'.heap.size v' (ls ++ [l]) := by
  have h2 := h.snoc hu hT hB hr hg
  rw [Nat.max_eq_right hm] at h2
  refine ⟨us ++ [u], by simp [he], h2.congr fun i hi => ?_⟩
  simp only [List.length_append, List.length_singleton] at hi
  by_cases h1 : i = us.length
  · subst h1; simp [he]
  · simp only [if_neg h1]
    have : i < ls.length := by omega
    simp [List.getElem?_append_left this]

end Go.Proofs.YtifpjdpcmfneaaaGreatDoor

/- What is written into data of the call's own: the world apart from it, and the data as they are then. -/
namespace Go.Proofs.YtifpjdpcmfneaaaGreatDoor
open Go.RowKit

/-- Apart from the blocks of S the world w' has all that w had. -/
structure Wr (S : Nat → Prop) (w w' : World) : Prop where
  os : w'.os = w.os
  tape : w'.tape = w.tape
  output : w'.output = w.output
  size : w.heap.size ≤ w'.heap.size
  block : ∀ k, k < w.heap.size → ¬ S k → w'.heap[k]? = w.heap[k]?

theorem Wr.refl (S : Nat → Prop) (w : World) : Wr S w w := ⟨rfl, rfl, rfl, Nat.le_refl _, fun _ _ _ => rfl⟩
theorem Wr.trans {S : Nat → Prop} {a b c : World} (h : Wr S a b) (k : Wr S b c) : Wr S a c :=
  ⟨k.os.trans h.os, k.tape.trans h.tape, k.output.trans h.output, Nat.le_trans h.size k.size, fun i hi hn => (k.block i (Nat.lt_of_lt_of_le hi h.size) hn).trans (h.block i hi hn)⟩
theorem Wr.mono {S S' : Nat → Prop} {a b : World} (h : Wr S a b) (hS : ∀ x, S x → S' x) : Wr S' a b := ⟨h.os, h.tape, h.output, h.size, fun i hi hn => h.block i hi fun hs => hn (hS i hs)⟩
theorem Wr.within {B T : Nat} {a b : World} (h : Wr (In B T) a b) : Within B T a b := ⟨h.os, h.tape, h.output, h.size, fun i hi hn => h.block i hi hn⟩
theorem Wr.below {B : Nat} {S : Nat → Prop} {w0 a b : World} (h : Wr S a b) (h0 : Below B w0 a) (hS : ∀ x, S x → B ≤ x) (hB : B ≤ a.heap.size) : Below B w0 b :=
  ⟨h.os.trans h0.os, h.tape.trans h0.tape, h.output.trans h0.output, Nat.le_trans h0.size h.size, fun k hk => (h.block k (Nat.lt_of_lt_of_le hk hB) fun hs => by have := hS k hs; omega).trans (h0.block k hk)⟩
theorem Wr.of_below {S : Nat → Prop} {a b : World} (h : Below a.heap.size a b) : Wr S a b := ⟨h.os, h.tape, h.output, h.size, fun k hk _ => h.block k hk⟩
theorem Wr.put {S : Nat → Prop} {w : World} {g : Nat} (hg : S g) (o : Nat) (c : List Value) (t : TypeId) (cur : Array Value) (h : w.heap[g]? = some (.cells cur t (0, 0))) (hs : o + c.length ≤ cur.size) : Wr S w (put w g o c) := by
  obtain ⟨cur', _, _, _, _, hw⟩ := put_spec g t c w o cur h hs
  refine ⟨hw.os, hw.tape, hw.output, hw.size, fun k hk hn => hw.block k hk fun ⟨h1, h2⟩ => ?_⟩
  obtain rfl : k = g := by omega
  exact hn hg

theorem markByteS_o (S : Nat → Prop) (v : Value) (l : List Int) (k : Int) (w : World) (hv : RO w S v l) (hl : l.length ≤ 2000000) (hk0 : 0 ≤ k) (hk1 : k ≤ 1000000000000) :
    Calls Tryz.prog 11 #[v, .int .i64 k] w fun e w' => e = .returned (.int .i64 (k + l.length)) ∧ RO w' S v (marks k l.length) ∧ Wr S w w' := by
  refine (markByteS_r 0 w.heap.size v l k w ⟨hv.1, hv.2.1, fun g hg => (hv.2.1.lt g hg).2⟩ hl hk0 hk1).mono ?_
  rintro e w' ⟨rfl, r, hg⟩
  exact ⟨rfl, ⟨r.1, r.2.1, hv.2.2⟩, ⟨hg.os, hg.tape, hg.output, hg.size, fun b hb hn => hg.block b hb fun e => hn (hv.2.2 b e.symm)⟩⟩

/-- Lists, marked one element behind the other: each takes as many marks as it has places. -/
def wtAt {α : Type} (z : α) (wt : α → Nat) (l : List α) (i : Nat) : Nat := wt (l.getD i z)
def mks {α : Type} (z : α) (mk : α → Int → α) (wt : α → Nat) (k : Int) (l : List α) : List α := (List.range l.length).map fun i => mk (l.getD i z) (k + (pre (wtAt z wt l) i : Nat))
section
variable {α : Type} {z : α} {mk : α → Int → α} {wt : α → Nat} {k : Int} {l : List α}
theorem length_mks : (mks z mk wt k l).length = l.length := by simp [mks]
theorem mks_get {i : Nat} {x : α} (h : l[i]? = some x) : (mks z mk wt k l)[i]? = some (mk x (k + (pre (wtAt z wt l) i : Nat))) := by
  have hi : i < l.length := (List.getElem?_eq_some_iff.1 h).1
  have hg : l.getD i z = x := by rw [List.getD_eq_getElem?_getD, h]; rfl
  simp only [mks, List.getElem?_map, List.getElem?_range hi, Option.map_some, hg]
theorem wtAt_get {i : Nat} {x : α} (h : l[i]? = some x) : wtAt z wt l i = wt x := by
  simp [wtAt, List.getD_eq_getElem?_getD, h]
theorem pre_step {i : Nat} {x : α} (h : l[i]? = some x) : pre (wtAt z wt l) (i + 1) = pre (wtAt z wt l) i + wt x := by
  show pre (wtAt z wt l) i + wtAt z wt l i = _
  rw [wtAt_get h]
theorem pre_le {i : Nat} (h : i ≤ l.length) : pre (wtAt z wt l) i ≤ pre (wtAt z wt l) l.length := pre_mono _ h
end
theorem pre_shift1 (m : Nat → Nat) (n : Nat) : pre m (n + 1) = m 0 + pre (fun i => m (i + 1)) n := by
  induction n with
  | zero => simp [pre]
  | succ n ih => rw [pre, ih]; simp only [pre]; omega
theorem wts_sum {α : Type} (z : α) (wt : α → Nat) (l : List α) : pre (wtAt z wt l) l.length = (l.map wt).sum := by
  induction l with
  | nil => rfl
  | cons x l ih =>
    rw [List.length_cons, pre_shift1]
    have : pre (fun i => wtAt z wt (x :: l) (i + 1)) l.length = pre (wtAt z wt l) l.length := pre_congr fun i _ => by simp [wtAt]
    rw [this, ih]
    simp [wtAt]
theorem sum_le {α : Type} (f g : α → Nat) (c : Nat) (l : List α) (h : ∀ x, x ∈ l → f x ≤ c * g x) : (l.map f).sum ≤ c * (l.map g).sum := by
  induction l with
  | nil => simp
  | cons x l ih =>
    have h1 := h x (by simp)
    have h2 := ih fun y hy => h y (by simp [hy])
    simp only [List.map_cons, List.sum_cons, Nat.mul_add]
    omega
theorem sum_mem {α : Type} (f : α → Nat) {l : List α} {x : α} (h : x ∈ l) : f x ≤ (l.map f).sum := by
  induction l with
  | nil => cases h
  | cons y l ih =>
    simp only [List.map_cons, List.sum_cons]
    rcases List.mem_cons.1 h with rfl | h
    · omega
    · have := ih h; omega

/-- The first i of a, the rest of b. -/
def mix {α : Type} (a b : List α) (i : Nat) : List α := a.take i ++ b.drop i
section
variable {α : Type} {a b : List α} {i : Nat}
theorem mix_zero : mix a b 0 = b := by simp [mix]
theorem mix_all (h : a.length = b.length) : mix a b b.length = a := by simp [mix, ← h]
theorem mix_length (h : a.length = b.length) (hi : i ≤ b.length) : (mix a b i).length = b.length := by simp [mix]; omega
theorem mix_get (h : a.length = b.length) (hi : i < b.length) : (mix a b i)[i]? = b[i]? := by
  have hl : (a.take i).length = i := by rw [List.length_take]; omega
  rw [mix, List.getElem?_append_right (by omega), hl]
  simp
theorem mix_set (h : a.length = b.length) {x : α} (hx : a[i]? = some x) : (mix a b i).set i x = mix a b (i + 1) := by
  have hi : i < a.length := (List.getElem?_eq_some_iff.1 hx).1
  have hv : a[i] = x := (List.getElem?_eq_some_iff.1 hx).2
  have hl : (a.take i).length = i := by rw [List.length_take]; omega
  rw [mix, List.set_append_right _ _ (by omega), hl, Nat.sub_self, mix, List.take_succ_eq_append_getElem hi, hv, List.append_assoc]
  congr 1
  rw [List.drop_eq_getElem_cons (show i < b.length by omega)]
  rfl
end

def zMail : MailD := ⟨0, 0, 0, []⟩
def zGone : GoneD := ⟨0, 0⟩
def zBox : BoxD := ⟨[], 0, 0, 0, [], [], 0⟩
def wtInt (_ : Int) : Nat := 1
def mkInt (_ : Int) (p : Int) : Int := p
def wtGone (_ : GoneD) : Nat := 2
def mkGone (_ : GoneD) (p : Int) : GoneD := ⟨p, p + 1⟩
def wtMail (m : MailD) : Nat := 3 + m.text.length
def mkMail (m : MailD) (p : Int) : MailD := ⟨p, p + 1, p + 2, marks (p + 3) m.text.length⟩
def wIs (l : List Int) : Nat := pre (wtAt 0 wtInt l) l.length
def wGs (l : List GoneD) : Nat := pre (wtAt zGone wtGone l) l.length
def wMs (l : List MailD) : Nat := pre (wtAt zMail wtMail l) l.length
def mkGones (k : Int) (l : List GoneD) : List GoneD := mks zGone mkGone wtGone k l
def mkMails (k : Int) (l : List MailD) : List MailD := mks zMail mkMail wtMail k l
def mkInts (k : Int) (l : List Int) : List Int := mks 0 mkInt wtInt k l
def wtBox (b : BoxD) : Nat := b.name.length + 3 + wMs b.mails + wGs b.gones + 1
def mkBox (b : BoxD) (p : Int) : BoxD :=
  ⟨marks p b.name.length, p + b.name.length, p + b.name.length + 1, p + b.name.length + 2, mkMails (p + b.name.length + 3) b.mails, mkGones (p + b.name.length + 3 + wMs b.mails) b.gones, p + b.name.length + 3 + wMs b.mails + wGs b.gones⟩
def wXs (l : List BoxD) : Nat := pre (wtAt zBox wtBox l) l.length
def mkBoxes (k : Int) (l : List BoxD) : List BoxD := mks zBox mkBox wtBox k l
theorem wIs_eq (l : List Int) : wIs l = l.length := by
  rw [wIs, wts_sum]
  induction l with
  | nil => rfl
  | cons x l ih => simp only [List.map_cons, List.sum_cons, ih, wtInt, List.length_cons]; omega
theorem wGs_eq (l : List GoneD) : wGs l = 2 * l.length := by
  rw [wGs, wts_sum]
  induction l with
  | nil => rfl
  | cons x l ih => simp only [List.map_cons, List.sum_cons, ih, wtGone, List.length_cons]; omega
theorem wMs_le (l : List MailD) : wMs l ≤ 3 * szM l := by
  rw [wMs, wts_sum, szM]
  exact sum_le _ _ 3 l fun x _ => by simp only [wtMail]; omega
theorem wtBox_le (b : BoxD) : wtBox b ≤ 4 * (szX b + 1) := by
  have h1 := wMs_le b.mails
  have h2 := wGs_eq b.gones
  simp only [wtBox, szX]
  omega
theorem wXs_le (l : List BoxD) : wXs l ≤ 4 * szXs l := by
  rw [wXs, wts_sum, szXs]
  exact sum_le _ _ 4 l fun x _ => wtBox_le x
theorem wMs_mem {l : List MailD} {m : MailD} (h : m ∈ l) : 3 + m.text.length ≤ wMs l := by
  rw [wMs, wts_sum]; exact sum_mem wtMail h
theorem wXs_mem {l : List BoxD} {b : BoxD} (h : b ∈ l) : wtBox b ≤ wXs l := by
  rw [wXs, wts_sum]; exact sum_mem wtBox h

end Go.Proofs.YtifpjdpcmfneaaaGreatDoor

/- What markGoneS of package laws does. -/
namespace Go.Proofs.YtifpjdpcmfneaaaGreatDoor
open Go.RowKit
set_option maxRecDepth 100000
set_option linter.unusedVariables false

/-- An element is written anew, cell by cell. -/
theorem Ow.put {α : Type} {t : TypeId} {sz : Nat} {E : World → List Value → α → (Nat → Prop) → Prop} {w : World} {S : Nat → Prop} {v : Value} {l : List α} (hE : Frames E) (h : Ow t sz E w S v l) (i : Nat) (x : α) (hx : l[i]? = some x) :
    ∃ (g cap : Nat) (c : List Value) (f : Nat → Prop), v = .slice (some ⟨g, 0, none⟩) l.length cap ∧ l.length ≤ cap ∧ cap ≤ maxLen ∧ g < w.heap.size ∧ S g ∧ E w c x f ∧ c.length = sz ∧ (∀ b, f b → S b ∧ b ≠ g) ∧
      (∀ j u, c[j]? = some u → w.cell? ⟨g, i * sz + j, none⟩ = some u) ∧ (∀ j, w.frozen? ⟨g, j, none⟩ = false) ∧ (∃ cur, w.heap[g]? = some (.cells cur t (0, 0)) ∧ i * sz + sz ≤ cur.size) ∧
      ∀ (c' : List Value) (x' : α), c'.length = sz → (∀ w', (∀ b, f b → b < w.heap.size → w'.heap[b]? = w.heap[b]?) → E w' c' x' f) → Ow t sz E (put w g (i * sz) c') S v (l.set i x') ∧ Wr S w (put w g (i * sz) c') := by
  obtain ⟨g, cap, cur, c, f, hv, h1, h2, hh, h3, h4, h5, h6, h7, h8, h9⟩ := h.upd hE i x hx
  refine ⟨g, cap, c, f, hv, h1, h2, lt_of_heap hh, h4, h5, h6, h8, fun j u hu => ?_, fun j => frozen_of_row w g j cur t hh, ⟨cur, hh, h3⟩, fun c' x' hc he => ?_⟩
  · rw [cell_of_row w g _ cur t (0, 0) hh]
    exact h7 j u hu
  · obtain ⟨cur', e1, e2, e3, e4, e5⟩ := put_spec g t c' w (i * sz) cur hh (by omega)
    refine ⟨h9 _ cur' c' x' e1 e2 e3 (fun m hm => e4 m (by omega)) hc (fun b hb hne _ hlt => e5.block b hlt (by omega)) (he _ fun b hb hlt => e5.block b hlt (by have := (h8 b hb).2; omega)), Wr.put h4 _ _ t cur hh (by omega)⟩

set_option maxHeartbeats 1000000 in
theorem markGoneS_o (S : Nat → Prop) (v : Value) (l : List GoneD) (k : Int) (w : World) (hv : GonesO w S v l) (hl : l.length ≤ 2000000) (hk0 : 0 ≤ k) (hk1 : k ≤ 100000000000) :
    Calls Tryz.prog 94 #[v, .int .i64 k] w fun e w' => e = .returned (.int .i64 (k + wGs l)) ∧ GonesO w' S v (mkGones k l) ∧ Wr S w w' := by
  have HV : Hid (GonesO w S v l) := hv
  obtain ⟨a, cap, rfl, hlc, hcm⟩ := (hv.rd fun _ _ _ _ h => h : GonesV w v l).form
  clear hv
  have hw := wGs_eq l
  have hlen : (mkGones k l).length = l.length := length_mks
  go_enter Tryz.func94, Tryz.ntmps94
  go_wp2
  go_loopw [1, 5] (fun q i wr => ∃ j : Nat, j ≤ l.length ∧ i = .int .i64 j ∧ q = .int .i64 (k + (pre (wtAt zGone wtGone l) j : Nat)) ∧ Hid (GonesO wr S (.slice a l.length cap) (mix (mkGones k l) l j)) ∧ Hid (Wr S w wr)) (fun _ i _ => l.length - (intOf i).toNat)
  case atStart => exact ⟨0, Nat.zero_le _, rfl, by simp [pre], by rw [mix_zero]; exact HV, Wr.refl _ _⟩
  case round =>
    obtain ⟨j, hj, rfl, rfl, hO, hW⟩ := hrel
    by_cases hlt : j < l.length
    · obtain ⟨x, hx⟩ : ∃ x, l[j]? = some x := ⟨l[j], List.getElem?_eq_getElem hlt⟩
      obtain ⟨g, cap', c, f, hv', -, -, hgl, hS, ⟨rfl, -, -⟩, -, -, hc, fz, -, hput⟩ := hO.out.put framesGone j x ((mix_get hlen hlt).trans hx)
      simp only [Value.slice.injEq] at hv'
      obtain ⟨rfl, -, rfl⟩ := hv'
      have hpj : pre (wtAt zGone wtGone l) j ≤ wGs l := pre_le (Nat.le_of_lt hlt)
      have hp1 : pre (wtAt zGone wtGone l) (j + 1) = pre (wtAt zGone wtGone l) j + 2 := pre_step hx
      have hn := mks_get (z := zGone) (mk := mkGone) (wt := wtGone) (k := k) hx
      generalize pre (wtAt zGone wtGone l) j = P at hpj hp1 hn
      have hP : (P : Int) ≤ 4000000 := by omega
      have d0 := hc 0 _ rfl
      have d1 := hc 1 _ rfl
      simp only [Nat.add_zero] at d0
      have HS : Hid (GonesO (put wr g (j * 2) [.int .i64 (k + P), .int .i64 (k + P + 1)]) S (.slice (some ⟨g, 0, none⟩) l.length cap) (mix (mkGones k l) l (j + 1)) ∧ Wr S w (put wr g (j * 2) [.int .i64 (k + P), .int .i64 (k + P + 1)])) := by
        obtain ⟨h1, h2⟩ := hput [.int .i64 (k + P), .int .i64 (k + P + 1)] (mkGone x (k + P)) rfl (fun w' _ => ⟨rfl, by constructor <;> simp only [mkGone] <;> omega, by constructor <;> simp only [mkGone] <;> omega⟩)
        rw [mix_set hlen hn] at h1
        exact ⟨h1, hW.out.trans h2⟩
      clear hput hc hn hO hW hx hw
      go_wp2
      go_roundw
      case rel => exact ⟨j + 1, by omega, by go_num, by rw [hp1]; go_num, HS.out.1, HS.out.2⟩
      case measure => simp [intOf]; omega
    · go_wp2
      go_ret
      obtain rfl : j = l.length := by omega
      exact ⟨rfl, by rw [← mix_all hlen]; exact hO.out, hW.out⟩

end Go.Proofs.YtifpjdpcmfneaaaGreatDoor

/- What markMailS of package laws does. -/
namespace Go.Proofs.YtifpjdpcmfneaaaGreatDoor
open Go.RowKit
set_option maxRecDepth 100000
set_option linter.unusedVariables false

set_option maxHeartbeats 1000000 in
theorem markMailS_o (S : Nat → Prop) (v : Value) (l : List MailD) (k : Int) (w : World) (hv : MailsO w S v l) (hs : szM l ≤ 2000000) (hk0 : 0 ≤ k) (hk1 : k ≤ 100000000000) :
    Calls Tryz.prog 93 #[v, .int .i64 k] w fun e w' => e = .returned (.int .i64 (k + wMs l)) ∧ MailsO w' S v (mkMails k l) ∧ Wr S w w' := by
  have HV : Hid (MailsO w S v l) := hv
  obtain ⟨a, cap, rfl, hlc, hcm⟩ := (hv.rd fun _ _ _ _ => MailE.rd : MailsV w v l).form
  clear hv
  have hl : l.length ≤ 2000000 := Nat.le_trans (szM_len l) hs
  have hb : wMs l ≤ 6000000 := by have := wMs_le l; omega
  have hlen : (mkMails k l).length = l.length := length_mks
  go_enter Tryz.func93, Tryz.ntmps93
  go_wp2
  go_loopw [1, 5] (fun q i wr => ∃ j : Nat, j ≤ l.length ∧ i = .int .i64 j ∧ q = .int .i64 (k + (pre (wtAt zMail wtMail l) j : Nat)) ∧ Hid (MailsO wr S (.slice a l.length cap) (mix (mkMails k l) l j)) ∧ Hid (Wr S w wr)) (fun _ i _ => l.length - (intOf i).toNat)
  case atStart => exact ⟨0, Nat.zero_le _, rfl, by simp [pre], by rw [mix_zero]; exact HV, Wr.refl _ _⟩
  case round =>
    obtain ⟨j, hj, rfl, rfl, hO, hW⟩ := hrel
    by_cases hlt : j < l.length
    · obtain ⟨x, hx⟩ : ∃ x, l[j]? = some x := ⟨l[j], List.getElem?_eq_getElem hlt⟩
      obtain ⟨g, cap', cur, c, f, hv', -, -, hh, hroom, hS, ⟨u, rfl, hu, -, -, -⟩, -, hcs, hf, hupd⟩ := hO.out.upd framesMail j x ((mix_get hlen hlt).trans hx)
      simp only [Value.slice.injEq] at hv'
      obtain ⟨rfl, -, rfl⟩ := hv'
      have hp1 : pre (wtAt zMail wtMail l) (j + 1) = pre (wtAt zMail wtMail l) j + (3 + x.text.length) := pre_step hx
      have hpj : pre (wtAt zMail wtMail l) (j + 1) ≤ wMs l := pre_le hlt
      have hn := mks_get (z := zMail) (mk := mkMail) (wt := wtMail) (k := k) hx
      generalize pre (wtAt zMail wtMail l) j = P at hpj hp1 hn
      have hP : (P : Int) ≤ 6000000 := by omega
      have hxt : x.text.length ≤ 2000000 := by have := szM_mem (List.mem_of_getElem? hx); omega
      have d0 := (cell_of_row wr g (j * 4) cur _ (0, 0) hh).trans (hcs 0 _ rfl)
      have d1 := (cell_of_row wr g (j * 4 + 1) cur _ (0, 0) hh).trans (hcs 1 _ rfl)
      have d2 := (cell_of_row wr g (j * 4 + 2) cur _ (0, 0) hh).trans (hcs 2 _ rfl)
      have fz : ∀ i, wr.frozen? ⟨g, i, none⟩ = false := fun i => frozen_of_row wr g i cur _ hh
      have hgl := lt_of_heap hh
      obtain ⟨ua, un, uc, rfl⟩ := hu.bs.form3
      obtain ⟨cur1, e1, e2, e3, e4, e5⟩ := put_spec g _ [.int .i64 (k + P), .int .i64 (k + P + 1), .int .i64 (k + P + 1 + 1)] wr (j * 4) cur hh (by simp; omega)
      have d3 : (((wr.setCell ⟨g, j * 4, none⟩ (.int .i64 (k + P))).setCell ⟨g, j * 4 + 1, none⟩ (.int .i64 (k + P + 1))).setCell ⟨g, j * 4 + 2, none⟩ (.int .i64 (k + P + 1 + 1))).cell? ⟨g, j * 4 + 3, none⟩ = some (.slice ua un uc) := (cell_of_row _ g (j * 4 + 3) cur1 _ (0, 0) e1).trans ((e4 (j * 4 + 3) (.inr (by simp))).trans (hcs 3 _ rfl))
      have HU : Hid (RO (put wr g (j * 4) [.int .i64 (k + P), .int .i64 (k + P + 1), .int .i64 (k + P + 1 + 1)]) f (.slice ua un uc) x.text) := hu.frame fun b hb hlt => e5.block b hlt (by have := (hf b hb).2; omega)
      have HS : Hid (∀ w', Wr f (put wr g (j * 4) [.int .i64 (k + P), .int .i64 (k + P + 1), .int .i64 (k + P + 1 + 1)]) w' → RO w' f (.slice ua un uc) (marks (k + P + 1 + 1 + 1) x.text.length) → MailsO w' S (.slice (some ⟨g, 0, none⟩) l.length cap) (mix (mkMails k l) l (j + 1)) ∧ Wr S w w') := by
        intro w' hw' hr
        have hsz := e5.size
        have hg' : w'.heap[g]? = _ := (hw'.block g (by omega) fun h => (hf g h).2 rfl).trans e1
        have hE : MailE w' [.int .i64 (k + P), .int .i64 (k + P + 1), .int .i64 (k + P + 1 + 1), .slice ua un uc] (mkMail x (k + P)) f := by
          refine ⟨.slice ua un uc, ?_, ?_, ?_, ?_, ?_⟩
          · simp only [mkMail]; rw [show k + P + 1 + 1 = k + (P : Int) + 2 by omega]
          · simp only [mkMail]; rw [show k + (P : Int) + 3 = k + P + 1 + 1 + 1 by omega]; exact hr
          all_goals (constructor <;> simp only [mkMail] <;> omega)
        have h1 := hupd w' cur1 _ (mkMail x (k + P)) hg' e2 (fun i u hi => ?_) (fun m hm => e4 m (by simp; omega)) rfl (fun b hb hne hnf hlt => (hw'.block b (by omega) hnf).trans (e5.block b hlt (by omega))) hE
        · rw [mix_set hlen hn] at h1
          refine ⟨h1, hW.out.trans ⟨hw'.os.trans e5.os, hw'.tape.trans e5.tape, hw'.output.trans e5.output, Nat.le_trans hsz hw'.size, fun b hb hns => ?_⟩⟩
          have hbg : b ≠ g := fun e => hns (e ▸ hS)
          exact (hw'.block b (by omega) fun h => hns (hf b h).1).trans (e5.block b hb (by omega))
        · match i, hi with
          | 0, hi => exact e3 0 u (by simpa using hi)
          | 1, hi => exact e3 1 u (by simpa using hi)
          | 2, hi => exact e3 2 u (by simpa using hi)
          | 3, hi => exact (e4 (j * 4 + 3) (.inr (by simp))).trans (hcs 3 u (by simpa using hi))
      clear hupd hcs hn hO hW hx e1 e2 e3 e4 e5 hu hh hroom hf
      go_wp2_with fail
      refine (markByteS_o f _ x.text _ _ HU.out hxt (by omega) (by omega)).mono ?_
      rintro e w2 ⟨rfl, R, W2⟩
      have HS2 := HS.out w2 W2 R
      have HM : Hid (MailsO w2 S (.slice (some ⟨g, 0, none⟩) l.length cap) (mix (mkMails k l) l (j + 1))) := HS2.1
      have HW : Hid (Wr S w w2) := HS2.2
      clear HS HS2 R W2 HU d0 d1 d2 d3 fz
      go_wp2
      go_roundw
      case rel => exact ⟨j + 1, by omega, by go_num, by rw [hp1]; go_num, HM, HW⟩
      case measure => simp [intOf]; omega
    · go_wp2
      go_ret
      obtain rfl : j = l.length := by omega
      exact ⟨rfl, by rw [← mix_all hlen]; exact hO.out, hW.out⟩

end Go.Proofs.YtifpjdpcmfneaaaGreatDoor

/- What markBoxS of package laws does. -/
namespace Go.Proofs.YtifpjdpcmfneaaaGreatDoor
open Go.RowKit
set_option maxRecDepth 100000
set_option linter.unusedVariables false

theorem ne_out {b g : Nat} (h : b ≠ g) : ¬ (g ≤ b ∧ b < g + 1) := by omega

set_option maxRecDepth 100000 in
set_option maxHeartbeats 4000000 in
theorem markBoxS_o (S : Nat → Prop) (v : Value) (l : List BoxD) (k : Int) (w : World) (hv : BoxesO w S v l) (hs : szXs l ≤ 2000000) (hk0 : 0 ≤ k) (hk1 : k ≤ 10000000000) :
    Calls Tryz.prog 54 #[v, .int .i64 k] w fun e w' => e = .returned (.int .i64 (k + wXs l)) ∧ BoxesO w' S v (mkBoxes k l) ∧ Wr S w w' := by
  have HV : Hid (BoxesO w S v l) := hv
  obtain ⟨a, cap, rfl, hlc, hcm⟩ := (hv.rd fun _ _ _ _ => BoxE.rd : BoxesV w v l).form
  clear hv
  have hl : l.length ≤ 2000000 := Nat.le_trans (szXs_len l) hs
  have hb : wXs l ≤ 8000000 := by have := wXs_le l; omega
  have hlen : (mkBoxes k l).length = l.length := length_mks
  go_enter Tryz.func54, Tryz.ntmps54
  go_wp2
  go_loopw [1, 5] (fun q i wr => ∃ j : Nat, j ≤ l.length ∧ i = .int .i64 j ∧ q = .int .i64 (k + (pre (wtAt zBox wtBox l) j : Nat)) ∧ Hid (BoxesO wr S (.slice a l.length cap) (mix (mkBoxes k l) l j)) ∧ Hid (Wr S w wr)) (fun _ i _ => l.length - (intOf i).toNat)
  case atStart => exact ⟨0, Nat.zero_le _, rfl, by simp [pre], by rw [mix_zero]; exact HV, Wr.refl _ _⟩
  case round =>
    obtain ⟨j, hj, rfl, rfl, hO, hW⟩ := hrel
    by_cases hlt : j < l.length
    · obtain ⟨x, hx⟩ : ∃ x, l[j]? = some x := ⟨l[j], List.getElem?_eq_getElem hlt⟩
      obtain ⟨g, cap', cur, c, f, hv', -, -, hh, hroom, hS, ⟨u0, u1, u2, S0, S1, S2, rfl, h0, h1, h2, s0, s1, s2, -⟩, -, hcs, hf, hupd⟩ := hO.out.upd framesBox j x ((mix_get hlen hlt).trans hx)
      simp only [Value.slice.injEq] at hv'
      obtain ⟨rfl, -, rfl⟩ := hv'
      have hp1 : pre (wtAt zBox wtBox l) (j + 1) = pre (wtAt zBox wtBox l) j + wtBox x := pre_step hx
      have hpj : pre (wtAt zBox wtBox l) (j + 1) ≤ wXs l := pre_le hlt
      have hn := mks_get (z := zBox) (mk := mkBox) (wt := wtBox) (k := k) hx
      generalize pre (wtAt zBox wtBox l) j = P at hpj hp1 hn
      have hxs := szXs_mem (List.mem_of_getElem? hx)
      have hx0 : x.name.length ≤ 2000000 := by simp only [szX] at hxs; omega
      have hx1 : szM x.mails ≤ 2000000 := by simp only [szX] at hxs; omega
      have hx2 : x.gones.length ≤ 2000000 := by simp only [szX] at hxs; omega
      have hwt : wtBox x = x.name.length + 3 + wMs x.mails + wGs x.gones + 1 := rfl
      have hP : (P : Int) ≤ 8000000 := by omega
      have hPn : (x.name.length : Int) ≤ 8000000 := by omega
      have hPm : (wMs x.mails : Int) ≤ 8000000 := by omega
      have hPg : (wGs x.gones : Int) ≤ 8000000 := by omega
      obtain ⟨a0, n0, c0, rfl⟩ := h0.bs.form3
      obtain ⟨a1, c1, rfl, -⟩ := (h1.rd fun _ _ _ _ => MailE.rd : MailsV _ _ _).form
      obtain ⟨a2, c2, rfl, -⟩ := (h2.rd fun _ _ _ _ h => h : GonesV _ _ _).form
      have hgl := lt_of_heap hh
      have hg0 : ¬ S0 g := fun h => (hf g (s0 g h).1).2 rfl
      have hg1 : ¬ S1 g := fun h => (hf g (s1 g h).1).2 rfl
      have hg2 : ¬ S2 g := fun h => (hf g (s2 g h)).2 rfl
      have HH : Hid (wr.heap[g]? = some (.cells cur 87 (0, 0))) := hh
      have H0 : Hid (RO wr S0 (.slice a0 n0 c0) x.name) := h0
      have H1 : Hid (MailsO wr S1 (.slice a1 x.mails.length c1) x.mails) := h1
      have H2 : Hid (GonesO wr S2 (.slice a2 x.gones.length c2) x.gones) := h2
      have d0 := (cell_of_row wr g (j * 7) cur _ (0, 0) hh).trans (hcs 0 _ rfl)
      have HS0 : Hid ((∀ y, S0 y → f y ∧ ¬ S1 y ∧ ¬ S2 y) ∧ (∀ y, S1 y → f y ∧ ¬ S2 y) ∧ (∀ y, S2 y → f y)) := ⟨s0, s1, s2⟩
      have HF : Hid (∀ b, f b → S b ∧ b ≠ g) := hf
      have HC : Hid (∀ i u, [Value.slice a0 n0 c0, .int .i64 x.valid, .int .i64 x.next, .int .i64 x.seq, .slice a1 x.mails.length c1, .slice a2 x.gones.length c2, .int .i64 x.lost][i]? = some u → cur[j * 7 + i]? = some u) := hcs
      have HN : Hid ((mix (mkBoxes k l) l j).set j (mkBox x (k + P)) = mix (mkBoxes k l) l (j + 1)) := mix_set hlen hn
      have HUP := (show Hid _ from hupd)
      clear hupd hcs hn hO h0 h1 h2 s0 s1 s2 hf hh hx hxs
      go_wp2_with fail
      refine (markByteS_o S0 _ x.name _ _ H0.out hx0 (by omega) (by omega)).mono ?_
      rintro e w1 ⟨rfl, R1, W1⟩
      have hs1 := W1.size
      have hh1 : w1.heap[g]? = some (.cells cur 87 (0, 0)) := (W1.block g hgl hg0).trans HH.out
      have fz : ∀ i, w1.frozen? ⟨g, i, none⟩ = false := fun i => frozen_of_row w1 g i cur _ hh1
      clear d0
      have d1 := (cell_of_row w1 g (j * 7 + 1) cur _ (0, 0) hh1).trans (HC.out 1 _ rfl)
      have d2 := (cell_of_row w1 g (j * 7 + 2) cur _ (0, 0) hh1).trans (HC.out 2 _ rfl)
      have d3 := (cell_of_row w1 g (j * 7 + 3) cur _ (0, 0) hh1).trans (HC.out 3 _ rfl)
      obtain ⟨cur1, e1, e2, e3, e4, e5⟩ := put_spec g _ [.int .i64 (k + P + x.name.length), .int .i64 (k + P + x.name.length + 1), .int .i64 (k + P + x.name.length + 1 + 1)] w1 (j * 7 + 1) cur hh1 (by simp; omega)
      have d4 : (((w1.setCell ⟨g, j * 7 + 1, none⟩ (.int .i64 (k + P + x.name.length))).setCell ⟨g, j * 7 + 2, none⟩ (.int .i64 (k + P + x.name.length + 1))).setCell ⟨g, j * 7 + 3, none⟩ (.int .i64 (k + P + x.name.length + 1 + 1))).cell? ⟨g, j * 7 + 4, none⟩ = some (.slice a1 x.mails.length c1) := (cell_of_row _ g (j * 7 + 4) cur1 _ (0, 0) e1).trans ((e4 (j * 7 + 4) (.inr (by simp))).trans (HC.out 4 _ rfl))
      have hsp := e5.size
      have HB1 : Hid (∀ b, b ≠ g → ¬ S0 b → b < wr.heap.size → (put w1 g (j * 7 + 1) [.int .i64 (k + P + x.name.length), .int .i64 (k + P + x.name.length + 1), .int .i64 (k + P + x.name.length + 1 + 1)]).heap[b]? = wr.heap[b]?) := fun b hb h0 hlt => (e5.block b (by omega) (by omega)).trans (W1.block b hlt h0)
      have H1' : Hid (MailsO (put w1 g (j * 7 + 1) [.int .i64 (k + P + x.name.length), .int .i64 (k + P + x.name.length + 1), .int .i64 (k + P + x.name.length + 1 + 1)]) S1 (.slice a1 x.mails.length c1) x.mails) :=
        H1.out.frame framesMail fun b hb hlt => HB1.out b (fun e => hg1 (e ▸ hb)) (fun h => (HS0.out.1 b h).2.1 hb) hlt
      have H2' : Hid (GonesO (put w1 g (j * 7 + 1) [.int .i64 (k + P + x.name.length), .int .i64 (k + P + x.name.length + 1), .int .i64 (k + P + x.name.length + 1 + 1)]) S2 (.slice a2 x.gones.length c2) x.gones) :=
        H2.out.frame framesGone fun b hb hlt => HB1.out b (fun e => hg2 (e ▸ hb)) (fun h => (HS0.out.1 b h).2.2 hb) hlt
      have H0' : Hid (RO (put w1 g (j * 7 + 1) [.int .i64 (k + P + x.name.length), .int .i64 (k + P + x.name.length + 1), .int .i64 (k + P + x.name.length + 1 + 1)]) S0 (.slice a0 n0 c0) (marks (k + P) x.name.length)) :=
        R1.frame fun b hb hlt => e5.block b hlt (ne_out fun e => hg0 (e ▸ hb))
      have HO1 : Hid ((put w1 g (j * 7 + 1) [.int .i64 (k + P + x.name.length), .int .i64 (k + P + x.name.length + 1), .int .i64 (k + P + x.name.length + 1 + 1)]).os = wr.os ∧ (put w1 g (j * 7 + 1) [.int .i64 (k + P + x.name.length), .int .i64 (k + P + x.name.length + 1), .int .i64 (k + P + x.name.length + 1 + 1)]).tape = wr.tape ∧ (put w1 g (j * 7 + 1) [.int .i64 (k + P + x.name.length), .int .i64 (k + P + x.name.length + 1), .int .i64 (k + P + x.name.length + 1 + 1)]).output = wr.output) := ⟨e5.os.trans W1.os, e5.tape.trans W1.tape, e5.output.trans W1.output⟩
      have E1 : Hid ((put w1 g (j * 7 + 1) [.int .i64 (k + P + x.name.length), .int .i64 (k + P + x.name.length + 1), .int .i64 (k + P + x.name.length + 1 + 1)]).heap[g]? = some (.cells cur1 87 (0, 0))) := e1
      have E2 : Hid (cur1.size = cur.size ∧ (∀ i u, [Value.int .i64 (k + P + x.name.length), .int .i64 (k + P + x.name.length + 1), .int .i64 (k + P + x.name.length + 1 + 1)][i]? = some u → cur1[j * 7 + 1 + i]? = some u) ∧ (∀ m, m < j * 7 + 1 ∨ j * 7 + 4 ≤ m → cur1[m]? = cur[m]?)) := ⟨e2, e3, fun m hm => e4 m (by simp; omega)⟩
      clear e1 e2 e3 e4 e5 R1 W1 hh1 HH H0 H1 H2
      go_wp2_with fail
      refine (markMailS_o S1 _ x.mails _ _ H1'.out hx1 (by omega) (by omega)).mono ?_
      rintro e w2 ⟨rfl, R2, W2⟩
      have hs2 := W2.size
      have E1' : Hid (w2.heap[g]? = some (.cells cur1 87 (0, 0))) := (W2.block g (by omega) hg1).trans E1.out
      have HB2 : Hid (∀ b, b ≠ g → ¬ S0 b → ¬ S1 b → b < wr.heap.size → w2.heap[b]? = wr.heap[b]?) := fun b hb h0 h1 hlt => (W2.block b (by omega) h1).trans (HB1.out b hb h0 hlt)
      have G2 : Hid (GonesO w2 S2 (.slice a2 x.gones.length c2) x.gones) := H2'.out.frame framesGone fun b hb hlt => W2.block b hlt fun h => (HS0.out.2.1 b h).2 hb
      have G0 : Hid (RO w2 S0 (.slice a0 n0 c0) (marks (k + P) x.name.length)) := H0'.out.frame fun b hb hlt => W2.block b hlt fun h => (HS0.out.1 b hb).2.1 h
      have G1 : Hid (MailsO w2 S1 (.slice a1 x.mails.length c1) (mkMails (k + P + x.name.length + 1 + 1 + 1) x.mails)) := R2
      have HO2 : Hid (w2.os = wr.os ∧ w2.tape = wr.tape ∧ w2.output = wr.output) := ⟨W2.os.trans HO1.out.1, W2.tape.trans HO1.out.2.1, W2.output.trans HO1.out.2.2⟩
      have d5 := (cell_of_row w2 g (j * 7 + 5) cur1 _ (0, 0) E1'.out).trans ((E2.out.2.2 (j * 7 + 5) (.inr (by omega))).trans (HC.out 5 _ rfl))
      have hgl2 : g < w2.heap.size := by omega
      have hsz2 : wr.heap.size ≤ w2.heap.size := by omega
      clear d1 d2 d3 d4 fz R2 W2 H1' H2' H0' HB1 HO1 E1 hs1 hs2 hsp
      go_wp2_with fail
      refine (markGoneS_o S2 _ x.gones _ _ G2.out hx2 (by omega) (by omega)).mono ?_
      rintro e w3 ⟨rfl, R3, W3⟩
      have hs3 := W3.size
      have E3 : w3.heap[g]? = some (.cells cur1 87 (0, 0)) := (W3.block g hgl2 hg2).trans E1'.out
      have fz : ∀ i, w3.frozen? ⟨g, i, none⟩ = false := fun i => frozen_of_row w3 g i cur1 _ E3
      have d6 := (cell_of_row w3 g (j * 7 + 6) cur1 _ (0, 0) E3).trans ((E2.out.2.2 (j * 7 + 6) (.inr (by omega))).trans (HC.out 6 _ rfl))
      have hgl3 : g < w3.heap.size := by omega
      have HFIN : Hid (BoxesO (put w3 g (j * 7 + 6) [.int .i64 (k + P + x.name.length + 1 + 1 + 1 + wMs x.mails + wGs x.gones)]) S (.slice (some ⟨g, 0, none⟩) l.length cap) (mix (mkBoxes k l) l (j + 1)) ∧ Wr S w (put w3 g (j * 7 + 6) [.int .i64 (k + P + x.name.length + 1 + 1 + 1 + wMs x.mails + wGs x.gones)])) := by
        obtain ⟨cur2, p1, p2, p3, p4, p5⟩ := put_spec g _ [.int .i64 (k + P + x.name.length + 1 + 1 + 1 + wMs x.mails + wGs x.gones)] w3 (j * 7 + 6) cur1 E3 (by have := E2.out.1; simp; omega)
        have hsp := p5.size
        have hB : ∀ b, b ≠ g → ¬ S0 b → ¬ S1 b → ¬ S2 b → b < wr.heap.size → (put w3 g (j * 7 + 6) [.int .i64 (k + P + x.name.length + 1 + 1 + 1 + wMs x.mails + wGs x.gones)]).heap[b]? = wr.heap[b]? := fun b hb h0 h1 h2 hlt => (p5.block b (by omega) (by omega)).trans ((W3.block b (by omega) h2).trans (HB2.out b hb h0 h1 hlt))
        have hE : BoxE (put w3 g (j * 7 + 6) [.int .i64 (k + P + x.name.length + 1 + 1 + 1 + wMs x.mails + wGs x.gones)]) [Value.slice a0 n0 c0, .int .i64 (k + P + x.name.length), .int .i64 (k + P + x.name.length + 1), .int .i64 (k + P + x.name.length + 1 + 1), .slice a1 x.mails.length c1, .slice a2 x.gones.length c2, .int .i64 (k + P + x.name.length + 1 + 1 + 1 + wMs x.mails + wGs x.gones)] (mkBox x (k + P)) f := by
          refine ⟨.slice a0 n0 c0, .slice a1 x.mails.length c1, .slice a2 x.gones.length c2, S0, S1, S2, ?_, ?_, ?_, ?_, HS0.out.1, HS0.out.2.1, HS0.out.2.2, ?_, ?_, ?_, ?_⟩
          · simp only [mkBox]
            rw [show k + P + x.name.length + 1 + 1 + 1 = k + (P : Int) + x.name.length + 3 by omega, show k + P + x.name.length + 1 + 1 = k + (P : Int) + x.name.length + 2 by omega]
          · exact G0.out.frame fun b hb hlt => (p5.block b (by omega) (ne_out fun e => hg0 (e ▸ hb))).trans (W3.block b hlt (HS0.out.1 b hb).2.2)
          · simp only [mkBox]
            rw [show k + (P : Int) + x.name.length + 3 = k + P + x.name.length + 1 + 1 + 1 by omega]
            exact G1.out.frame framesMail fun b hb hlt => (p5.block b (by omega) (ne_out fun e => hg1 (e ▸ hb))).trans (W3.block b hlt (HS0.out.2.1 b hb).2)
          · simp only [mkBox]
            rw [show k + (P : Int) + x.name.length + 3 = k + P + x.name.length + 1 + 1 + 1 by omega]
            exact R3.frame framesGone fun b hb hlt => p5.block b hlt (ne_out fun e => hg2 (e ▸ hb))
          all_goals (constructor <;> simp only [mkBox] <;> omega)
        have hfin := HUP.out _ cur2 _ (mkBox x (k + P)) p1 (p2.trans E2.out.1) (fun i u hi => ?_) (fun m hm => (p4 m (by simp; omega)).trans (E2.out.2.2 m (by omega))) rfl (fun b hb hne hnf hlt => hB b hne (fun h => hnf (HS0.out.1 b h).1) (fun h => hnf (HS0.out.2.1 b h).1) (fun h => hnf (HS0.out.2.2 b h)) hlt) hE
        · rw [HN.out] at hfin
          refine ⟨hfin, hW.out.trans ⟨?_, ?_, ?_, by omega, fun b hb hns => hB b (fun e => hns (e ▸ hS)) (fun h => hns (HF.out b (HS0.out.1 b h).1).1) (fun h => hns (HF.out b (HS0.out.2.1 b h).1).1) (fun h => hns (HF.out b (HS0.out.2.2 b h)).1) hb⟩⟩
          · exact p5.os.trans (W3.os.trans HO2.out.1)
          · exact p5.tape.trans (W3.tape.trans HO2.out.2.1)
          · exact p5.output.trans (W3.output.trans HO2.out.2.2)
        · match i, hi with
          | 0, hi => exact (p4 (j * 7 + 0) (.inl (by omega))).trans ((E2.out.2.2 _ (.inl (by omega))).trans (HC.out 0 u (by simpa using hi)))
          | 1, hi => exact (p4 (j * 7 + 1) (.inl (by omega))).trans (E2.out.2.1 0 u (by simpa using hi))
          | 2, hi => exact (p4 (j * 7 + 2) (.inl (by omega))).trans (E2.out.2.1 1 u (by simpa using hi))
          | 3, hi => exact (p4 (j * 7 + 3) (.inl (by omega))).trans (E2.out.2.1 2 u (by simpa using hi))
          | 4, hi => exact (p4 (j * 7 + 4) (.inl (by omega))).trans ((E2.out.2.2 _ (.inr (by omega))).trans (HC.out 4 u (by simpa using hi)))
          | 5, hi => exact (p4 (j * 7 + 5) (.inl (by omega))).trans ((E2.out.2.2 _ (.inr (by omega))).trans (HC.out 5 u (by simpa using hi)))
          | 6, hi => exact p3 0 u (by simpa using hi)
      clear HUP HN HC HF HS0 G0 G1 G2 E1' E2 HO2 HB2 R3 W3 E3 hW hs3 hsz2 d5
      go_wp2
      go_roundw
      case rel => exact ⟨j + 1, by omega, by go_num, by rw [hp1, hwt]; go_num, HFIN.out.1, HFIN.out.2⟩
      case measure => simp [intOf]; omega
    · go_wp2
      go_ret
      obtain rfl : j = l.length := by omega
      exact ⟨rfl, by rw [← mix_all hlen]; exact hO.out, hW.out⟩

end Go.Proofs.YtifpjdpcmfneaaaGreatDoor

/- What markIntS of package laws does. -/
namespace Go.Proofs.YtifpjdpcmfneaaaGreatDoor
open Go.RowKit
set_option maxRecDepth 100000
set_option linter.unusedVariables false

set_option maxHeartbeats 1000000 in
theorem markIntS_o (S : Nat → Prop) (v : Value) (l : List Int) (k : Int) (w : World) (hv : IntsO w S v l) (hl : l.length ≤ 2000000) (hk0 : 0 ≤ k) (hk1 : k ≤ 100000000000) :
    Calls Tryz.prog 55 #[v, .int .i64 k] w fun e w' => e = .returned (.int .i64 (k + wIs l)) ∧ IntsO w' S v (mkInts k l) ∧ Wr S w w' := by
  have HV : Hid (IntsO w S v l) := hv
  obtain ⟨a, cap, rfl, hlc, hcm⟩ := (hv.rd fun _ _ _ _ h => h : IntsV w v l).form
  clear hv
  have hw := wIs_eq l
  have hlen : (mkInts k l).length = l.length := length_mks
  go_enter Tryz.func55, Tryz.ntmps55
  go_wp2
  go_loopw [1, 5] (fun q i wr => ∃ j : Nat, j ≤ l.length ∧ i = .int .i64 j ∧ q = .int .i64 (k + (pre (wtAt 0 wtInt l) j : Nat)) ∧ Hid (IntsO wr S (.slice a l.length cap) (mix (mkInts k l) l j)) ∧ Hid (Wr S w wr)) (fun _ i _ => l.length - (intOf i).toNat)
  case atStart => exact ⟨0, Nat.zero_le _, rfl, by simp [pre], by rw [mix_zero]; exact HV, Wr.refl _ _⟩
  case round =>
    obtain ⟨j, hj, rfl, rfl, hO, hW⟩ := hrel
    by_cases hlt : j < l.length
    · obtain ⟨x, hx⟩ : ∃ x, l[j]? = some x := ⟨l[j], List.getElem?_eq_getElem hlt⟩
      obtain ⟨g, cap', c, f, hv', -, -, hgl, hS, ⟨rfl, -⟩, -, -, hc, fz, -, hput⟩ := hO.out.put framesInt j x ((mix_get hlen hlt).trans hx)
      simp only [Value.slice.injEq] at hv'
      obtain ⟨rfl, -, rfl⟩ := hv'
      have hpj : pre (wtAt 0 wtInt l) j ≤ wIs l := pre_le (Nat.le_of_lt hlt)
      have hp1 : pre (wtAt 0 wtInt l) (j + 1) = pre (wtAt 0 wtInt l) j + 1 := pre_step hx
      have hn := mks_get (z := 0) (mk := mkInt) (wt := wtInt) (k := k) hx
      generalize pre (wtAt 0 wtInt l) j = P at hpj hp1 hn
      have hP : (P : Int) ≤ 4000000 := by omega
      have d0 := hc 0 _ rfl
      simp only [Nat.add_zero, Nat.mul_one] at d0 hput
      have HS : Hid (IntsO (put wr g j [.int .i64 (k + P)]) S (.slice (some ⟨g, 0, none⟩) l.length cap) (mix (mkInts k l) l (j + 1)) ∧ Wr S w (put wr g j [.int .i64 (k + P)])) := by
        obtain ⟨h1, h2⟩ := hput [.int .i64 (k + P)] (mkInt x (k + P)) rfl (fun w' _ => ⟨rfl, by constructor <;> simp only [mkInt] <;> omega⟩)
        rw [mix_set hlen hn] at h1
        exact ⟨h1, hW.out.trans h2⟩
      clear hput hc hn hO hW hx hw
      go_wp2
      go_roundw
      case rel => exact ⟨j + 1, by omega, by go_num, by rw [hp1]; go_num, HS.out.1, HS.out.2⟩
      case measure => simp [intOf]; omega
    · go_wp2
      go_ret
      obtain rfl : j = l.length := by omega
      exact ⟨rfl, by rw [← mix_all hlen]; exact hO.out, hW.out⟩

end Go.Proofs.YtifpjdpcmfneaaaGreatDoor

/- What markAccount of package laws does. -/
namespace Go.Proofs.YtifpjdpcmfneaaaGreatDoor
open Go.RowKit
set_option maxRecDepth 100000
set_option linter.unusedVariables false

def mkAcc (k : Int) (x : AccD) : AccD := ⟨x.valid, mkBoxes k x.boxes, mkInts (k + wXs x.boxes) x.seen⟩
def wAcc (x : AccD) : Nat := wXs x.boxes + wIs x.seen

set_option maxRecDepth 100000 in
set_option maxHeartbeats 1000000 in
theorem markAccount_o (S : Nat → Prop) (v : Value) (x : AccD) (k : Int) (w : World) (hv : AccO w S v x) (hS : ∀ b, S b → b < w.heap.size) (hs : szXs x.boxes ≤ 2000000) (hl : x.seen.length ≤ 2000000) (hk0 : 0 ≤ k) (hk1 : k ≤ 1000000000) :
    Calls Tryz.prog 27 #[v, .int .i64 k] w fun e w' => e = .returned (.int .i64 (k + wXs x.boxes + wIs x.seen)) ∧ AccO w' S v (mkAcc k x) ∧ Wr S w w' := by
  obtain ⟨u0, u1, S0, S1, rfl, h0, h1, d0, d1, i0⟩ := hv
  have hb : wXs x.boxes ≤ 8000000 := by have := wXs_le x.boxes; omega
  obtain ⟨a0, c0, rfl, -⟩ := (h0.rd fun _ _ _ _ => BoxE.rd : BoxesV _ _ _).form
  obtain ⟨a1, c1, rfl, -⟩ := (h1.rd fun _ _ _ _ h => h : IntsV _ _ _).form
  have n0 : ¬ S0 w.heap.size := fun h => by have := hS _ (d0 _ h).1; omega
  have n1 : ¬ S1 w.heap.size := fun h => by have := hS _ (d1 _ h); omega
  have AB : Below w.heap.size w (w.alloc (.cells #[.int .i64 x.valid, .slice a0 x.boxes.length c0, .slice a1 x.seen.length c1] 37)) := (Below.refl _ _).alloc (Nat.le_refl _) _
  have hsz : w.heap.size < (w.alloc (.cells #[.int .i64 x.valid, .slice a0 x.boxes.length c0, .slice a1 x.seen.length c1] 37)).heap.size := by simp
  have H0 : Hid (BoxesO (w.alloc (.cells #[.int .i64 x.valid, .slice a0 x.boxes.length c0, .slice a1 x.seen.length c1] 37)) S0 (.slice a0 x.boxes.length c0) x.boxes) := h0.below framesBox AB
  have H1 : Hid (IntsO (w.alloc (.cells #[.int .i64 x.valid, .slice a0 x.boxes.length c0, .slice a1 x.seen.length c1] 37)) S1 (.slice a1 x.seen.length c1) x.seen) := h1.below framesInt AB
  have HK : Hid ((w.alloc (.cells #[.int .i64 x.valid, .slice a0 x.boxes.length c0, .slice a1 x.seen.length c1] 37)).heap[w.heap.size]? = some (.cells #[.int .i64 x.valid, .slice a0 x.boxes.length c0, .slice a1 x.seen.length c1] 37)) := box_new w _
  have HAB : Hid (Below w.heap.size w (w.alloc (.cells #[.int .i64 x.valid, .slice a0 x.boxes.length c0, .slice a1 x.seen.length c1] 37))) := AB
  have HD : Hid ((∀ y, S0 y → S y ∧ ¬ S1 y) ∧ (∀ y, S1 y → S y)) := ⟨d0, d1⟩
  clear h0 h1 d0 d1 AB
  obtain ⟨f0, f1, f2⟩ := bx3 HK.out
  go_enter Tryz.func27, Tryz.ntmps27
  go_wp2_with fail
  refine (markBoxS_o S0 _ x.boxes k _ H0.out hs hk0 (by omega)).mono ?_
  rintro e w1 ⟨rfl, R1, W1⟩
  have s1 := W1.size
  have K1 : w1.heap[w.heap.size]? = _ := (W1.block _ hsz n0).trans HK.out
  have G1 : Hid (IntsO w1 S1 (.slice a1 x.seen.length c1) x.seen) := H1.out.frame framesInt fun b hb hlt => W1.block b hlt fun h => (HD.out.1 b h).2 hb
  have G0 : Hid (BoxesO w1 S0 (.slice a0 x.boxes.length c0) (mkBoxes k x.boxes)) := R1
  have HW1 : Hid (Wr S w w1) := (Wr.of_below HAB.out).trans (W1.mono fun b h => (HD.out.1 b h).1)
  clear f0 f1 f2 R1 H0 H1 HK W1 HAB
  obtain ⟨f0, f1, f2⟩ := bx3 K1
  have hlA := lt_of_heap K1
  clear K1
  go_wp2_with fail
  refine (markIntS_o S1 _ x.seen _ _ G1.out hl (by omega) (by omega)).mono ?_
  rintro e w2 ⟨rfl, R2, W2⟩
  have HF : Hid (AccO w2 S (.agg #[.int .i64 x.valid, .slice a0 x.boxes.length c0, .slice a1 x.seen.length c1]) (mkAcc k x) ∧ Wr S w w2) := by
    have g0 : BoxesO w2 S0 (.slice a0 x.boxes.length c0) (mkBoxes k x.boxes) := G0.out.frame framesBox fun b hb hlt => W2.block b hlt (HD.out.1 b hb).2
    exact ⟨⟨_, _, S0, S1, rfl, g0, R2, HD.out.1, HD.out.2, i0⟩, HW1.out.trans (W2.mono HD.out.2)⟩
  clear R2 W2 G0 G1 HW1 HD f0 f1 f2 hlA
  go_wp2
  go_ret
  exact ⟨rfl, HF.out.1, HF.out.2⟩

theorem markAccount_w (B T : Nat) (v : Value) (x : AccD) (k : Int) (w : World) (hv : AccO w (In B T) v x) (hT : T ≤ w.heap.size) (hs : szXs x.boxes ≤ 2000000) (hl : x.seen.length ≤ 2000000) (hk0 : 0 ≤ k) (hk1 : k ≤ 1000000000) :
    Calls Tryz.prog 27 #[v, .int .i64 k] w fun e w' => e = .returned (.int .i64 (k + wXs x.boxes + wIs x.seen)) ∧ AccO w' (In B T) v (mkAcc k x) ∧ Within B T w w' := by
  refine (markAccount_o (In B T) v x k w hv (fun b hb => Nat.lt_of_lt_of_le hb.2 hT) hs hl hk0 hk1).mono ?_
  rintro e w' ⟨rfl, R, W⟩
  exact ⟨rfl, R, W.within⟩

end Go.Proofs.YtifpjdpcmfneaaaGreatDoor

/- What markRecord of package laws does. -/
namespace Go.Proofs.YtifpjdpcmfneaaaGreatDoor
open Go.RowKit
set_option maxRecDepth 100000
set_option linter.unusedVariables false

theorem hidq {p : Prop} (h : p) : Hid p := h
set_option maxRecDepth 100000 in
set_option maxHeartbeats 4000000 in
theorem markRecord_w (B T : Nat) (v : Value) (r : RecD) (q : Int) (w : World) (hv : RecR w B T v r) (hT : T ≤ w.heap.size) (h0 : r.cmd.bx.length ≤ 1048576) (h1 : r.cmd.tt.length ≤ 1048576) (h2 : r.cmd.tx.length ≤ 1048576) (h3 : szXs r.acc.boxes ≤ 1048576) (h4 : r.acc.seen.length ≤ 1048576) (hq0 : 0 ≤ q) (hq1 : q ≤ 1000) :
    Calls Tryz.prog 10 #[v, .int .i64 q] w fun e w' => e = .returned (.int .i64 (q + r.cmd.bx.length + r.cmd.tt.length + r.cmd.tx.length + wXs r.acc.boxes + wIs r.acc.seen)) ∧ True ∧ Within B T w w' := by
  obtain ⟨u0, u1, u2, u3, u4, T0, rfl, hc, ha, j0, j1, -⟩ := hv
  obtain ⟨p0, p1, p2, e, g0, g1, g2, -⟩ := hc.v
  simp only [Value.agg.injEq, Array.mk.injEq, List.cons.injEq, and_true, true_and] at e
  obtain ⟨rfl, rfl, rfl⟩ := e
  obtain ⟨t0, t1, e', s0, s1, -⟩ := ha.v
  simp only [Value.agg.injEq, Array.mk.injEq, List.cons.injEq, and_true, true_and] at e'
  obtain ⟨rfl, rfl⟩ := e'
  obtain ⟨a0, n0, c0, rfl⟩ := g0.form3
  obtain ⟨a1, n1, c1, rfl⟩ := g1.form3
  obtain ⟨a2, n2, c2, rfl⟩ := g2.form3
  obtain ⟨a3, c3, rfl, -⟩ := s0.form
  obtain ⟨a4, c4, rfl, -⟩ := s1.form
  clear g0 g1 g2 s0 s1
  have AB : Below w.heap.size w (w.alloc (.cells #[.int .i64 r.kind, .int .i64 r.user, .int .i64 r.n, .int .i64 r.cmd.k, .slice a0 n0 c0, .slice a1 n1 c1, .int .i64 r.cmd.uid, .int .i64 r.cmd.mode, .int .i64 r.cmd.fl, .int .i64 r.cmd.si, .slice a2 n2 c2, .int .i64 r.acc.valid, .slice a3 r.acc.boxes.length c3, .slice a4 r.acc.seen.length c4] 39)) := (Below.refl _ _).alloc (Nat.le_refl _) _
  have kA := box_new w (.cells #[.int .i64 r.kind, .int .i64 r.user, .int .i64 r.n, .int .i64 r.cmd.k, .slice a0 n0 c0, .slice a1 n1 c1, .int .i64 r.cmd.uid, .int .i64 r.cmd.mode, .int .i64 r.cmd.fl, .int .i64 r.cmd.si, .slice a2 n2 c2, .int .i64 r.acc.valid, .slice a3 r.acc.boxes.length c3, .slice a4 r.acc.seen.length c4] 39)
  have HC := hidq (hc.below AB)
  have HA := hidq (ha.below AB)
  have HW : Hid (Within B T w (w.alloc (.cells #[.int .i64 r.kind, .int .i64 r.user, .int .i64 r.n, .int .i64 r.cmd.k, .slice a0 n0 c0, .slice a1 n1 c1, .int .i64 r.cmd.uid, .int .i64 r.cmd.mode, .int .i64 r.cmd.fl, .int .i64 r.cmd.si, .slice a2 n2 c2, .int .i64 r.acc.valid, .slice a3 r.acc.boxes.length c3, .slice a4 r.acc.seen.length c4] 39))) := Within.ofBelow AB
  have hsA : T ≤ (w.alloc (.cells #[.int .i64 r.kind, .int .i64 r.user, .int .i64 r.n, .int .i64 r.cmd.k, .slice a0 n0 c0, .slice a1 n1 c1, .int .i64 r.cmd.uid, .int .i64 r.cmd.mode, .int .i64 r.cmd.fl, .int .i64 r.cmd.si, .slice a2 n2 c2, .int .i64 r.acc.valid, .slice a3 r.acc.boxes.length c3, .slice a4 r.acc.seen.length c4] 39)).heap.size := by simp; omega
  clear AB hc ha
  go_enter Tryz.func10, Tryz.ntmps10
  go_wp2_with fail
  refine (markCmd_w B T0 _ r.cmd.k r.cmd.bx r.cmd.tt r.cmd.uid r.cmd.mode r.cmd.fl r.cmd.si r.cmd.tx q _ HC.out (by omega) (by omega) (by omega) (by omega) (by omega) (by omega)).mono ?_
  rintro e w1 ⟨rfl, -, G1⟩
  have HA1 := hidq (AccO.frame HA.out (fun b hb hlt => G1.block b hlt (by have := hb.1; omega)))
  have HW1 : Hid (Within B T w w1) := HW.out.trans (G1.wide (Nat.le_refl _) j1)
  replace kA := box_within G1 kA (.inr (by omega))
  have hs1 := G1.size
  clear G1 HC HA HW
  obtain ⟨f0, f1, f2, f3, f4, f5, f6, f7, f8, f9, f10, f11, f12, f13⟩ := bx14 kA
  have hlA := lt_of_heap kA
  go_wp2_with fail
  refine (markAccount_w T0 T _ r.acc (q + r.cmd.bx.length + r.cmd.tt.length + r.cmd.tx.length) _ HA1.out (by omega) (by omega) (by omega) (by omega) (by omega)).mono ?_
  rintro e w2 ⟨rfl, -, G2⟩
  have HW2 : Hid (Within B T w w2) := HW1.out.trans (G2.wide j0 (Nat.le_refl _))
  clear f0 f1 f2 f3 f4 f5 f6 f7 f8 f9 f10 f11 f12 f13 hlA kA G2 HA1 HW1
  go_wp2
  go_ret
  exact ⟨rfl, trivial, HW2.out⟩

end Go.Proofs.YtifpjdpcmfneaaaGreatDoor

/- Names, texts and commands as plain lists and numbers: no program is named here. -/
namespace Go.Proofs.YtifpjdpcmfneaaaGreatDoor

theorem ret_b {a b : Bool} (h : b = a) : Ending.returned (.bool a) = .returned (.bool b) := by rw [h]

/-- Every number of the list lies between two. -/
def allIn (lo hi : Int) (l : List Int) : Bool := l.all fun x => decide (lo ≤ x) && decide (x ≤ hi)
/-- A name: one to six small letters. -/
def nameB (l : List Int) : Bool := decide (1 ≤ l.length) && (decide (l.length ≤ 6) && allIn 97 122 l)
/-- A text: at most thirty bytes that can be seen. -/
def textB (l : List Int) : Bool := decide (l.length ≤ 30) && allIn 32 126 l
/-- A number lies between two. -/
def inB (n lo hi : Int) : Bool := decide (lo ≤ n) && decide (n ≤ hi)

theorem allIn_yes {lo hi : Int} {l : List Int} (h : ∀ j, j < l.length → lo ≤ l.getD j 0 ∧ l.getD j 0 ≤ hi) : allIn lo hi l = true := by
  unfold allIn
  rw [List.all_eq_true]
  intro x hx
  obtain ⟨j, hj, rfl⟩ := List.getElem_of_mem hx
  have := h j hj
  simp [hj] at this
  simp [this]
theorem allIn_no {lo hi : Int} {l : List Int} (j : Nat) (hj : j < l.length) (h : ¬ (lo ≤ l.getD j 0 ∧ l.getD j 0 ≤ hi)) : allIn lo hi l = false := by
  cases e : allIn lo hi l with
  | false => rfl
  | true =>
    exfalso
    unfold allIn at e
    rw [List.all_eq_true] at e
    have := e _ (List.getElem_mem hj)
    simp [hj] at h
    simp at this
    omega

theorem ret_i {k : IntKind} {a b : Int} (h : a = b) : Ending.returned (.int k a) = .returned (.int k b) := by rw [h]
/-- The place of the first that fits; -1 where there is none. -/
def firstI {α : Type} (p : α → Bool) (l : List α) : Int := match l.findIdx? p with | some i => i | none => -1
theorem firstI_hit {p : Int → Bool} {l : List Int} {k : Nat} (hk : k < l.length) (h : p (l.getD k 0) = true) (hA : ∀ j, j < k → p (l.getD j 0) = false) : firstI p l = k := by
  have : l.findIdx? p = some k := by
    rw [List.findIdx?_eq_some_iff_getElem]
    refine ⟨hk, by simpa [hk] using h, fun j hj => ?_⟩
    have := hA j hj
    simp [show j < l.length by omega] at this
    simp [this]
  simp [firstI, this]
theorem firstI_none {p : Int → Bool} {l : List Int} (hA : ∀ j, j < l.length → p (l.getD j 0) = false) : firstI p l = -1 := by
  have : l.findIdx? p = none := by
    rw [List.findIdx?_eq_none_iff]
    intro x hx
    obtain ⟨j, hj, rfl⟩ := List.getElem_of_mem hx
    have := hA j hj
    simpa [hj] using this
  simp [firstI, this]
theorem any_firstI {α : Type} (p : α → Bool) (l : List α) : l.any p = decide (0 ≤ firstI p l) := by
  unfold firstI
  cases h : l.findIdx? p with
  | none =>
    rw [List.findIdx?_eq_none_iff] at h
    simp only [show ¬ (0 : Int) ≤ -1 by omega, decide_false]
    rw [List.any_eq_false]
    intro x hx
    simp [h x hx]
  | some i =>
    rw [List.findIdx?_eq_some_iff_getElem] at h
    obtain ⟨hi, hp, -⟩ := h
    simp only [show (0 : Int) ≤ (i : Int) by omega, decide_true]
    rw [List.any_eq_true]
    exact ⟨_, List.getElem_mem hi, hp⟩

/-- Which kinds have a second name, a number of a mail, flags and how, a number of a change, a text. -/
def toB (k : Int) : Bool := decide (k = 6)
def uidB (k : Int) : Bool := decide (k = 3) || (decide (k = 5) || decide (k = 6))
def modeB (k : Int) : Bool := decide (k = 2) || (decide (k = 3) || decide (k = 6))
def sinceB (k : Int) : Bool := decide (k = 3) || decide (k = 8)
def textsB (k : Int) : Bool := decide (k = 2)

/-- A command that may be. -/
def cmdB (k : Int) (bx tt : List Int) (uid mode fl si : Int) (tx : List Int) : Bool :=
  decide (0 ≤ k ∧ k ≤ 9) && (if k = 9 then decide (bx.length = 0) else nameB bx) && (if k = 6 then nameB tt else decide (tt.length = 0)) &&
  (if k = 3 ∨ k = 5 ∨ k = 6 then inB uid 1 1000000 else decide (uid = 0)) && inB mode 0 (if k = 3 then 2 else if k = 6 then 1 else 0) &&
  inB fl 0 (if k = 2 ∨ k = 3 then 31 else 0) && inB si 0 (if k = 3 ∨ k = 8 then 1000000 else 0) && (if k = 2 then textB tx else decide (tx.length = 0))

theorem nameB_len {l : List Int} (h : nameB l = true) : 1 ≤ l.length ∧ l.length ≤ 6 := by unfold nameB at h; simp at h; exact ⟨h.1, h.2.1⟩
theorem textB_nil {l : List Int} (h : l.length = 0) : textB l = true := by
  have : l = [] := List.eq_nil_of_length_eq_zero h
  subst this; rfl
theorem nameB_nil {l : List Int} (h : l.length = 0) : nameB l = false := by
  have : l = [] := List.eq_nil_of_length_eq_zero h
  subst this; rfl

end Go.Proofs.YtifpjdpcmfneaaaGreatDoor

/- What may be: boxes and accounts, as plain data. -/
namespace Go.Proofs.YtifpjdpcmfneaaaGreatDoor

/-- The bytes of a list of numbers; which of two comes first. -/
def bts (l : List Int) : List UInt8 := l.map fun n => UInt8.ofNat n.toNat
def lessB (l m : List Int) : Bool := Op.bytesLess (bts l) (bts m)
theorem less_cmp : ∀ (a b : List UInt8), decide (0 ≤ Lib.compareBytes a b) = !Op.bytesLess a b
  | [], [] => rfl
  | [], _ :: _ => rfl
  | _ :: _, [] => rfl
  | a :: x, b :: y => by
    have ih := less_cmp x y
    unfold Lib.compareBytes Op.bytesLess
    by_cases h1 : a < b
    · simp [h1]
    · by_cases h2 : b < a
      · have hne : (a == b) = false := by simp; intro e; subst e; exact absurd h2 (UInt8.lt_irrefl _)
        simp [h1, h2, hne]
      · have he : a = b := UInt8.le_antisymm (UInt8.not_lt.1 h2) (UInt8.not_lt.1 h1)
        subst he
        simp only [h1, if_false, decide_false, Bool.false_or, BEq.rfl, Bool.true_and]
        exact ih

theorem rangeAll_yes {n : Nat} {f : Nat → Bool} (h : ∀ j, j < n → f j = true) : (List.range n).all f = true := by
  rw [List.all_eq_true]; intro j hj; exact h j (List.mem_range.1 hj)
theorem rangeAll_no {n : Nat} {f : Nat → Bool} (j : Nat) (hj : j < n) (h : f j = false) : (List.range n).all f = false := by
  rw [List.all_eq_false]; exact ⟨j, List.mem_range.2 hj, by simp [h]⟩
theorem and_false_of {a b : Bool} (h : b = false) : (a && b) = false := by rw [h]; cases a <;> rfl
theorem and_of {a b c : Bool} (h : a = true) (h' : b = c) : (a && b) = c := by rw [h, h']; rfl

def prevI (l : List Int) : Nat → Int
  | 0 => 0
  | i + 1 => l.getD i 0
def seenAt (l : List Int) (i : Nat) : Bool := inB (l.getD i 0) (prevI l i + 1) 1000000
def seenB (l : List Int) : Bool := decide (l.length ≤ 60) && (List.range l.length).all (seenAt l)
theorem prevI_ok {l : List Int} {k : Nat} (hk : k ≤ l.length) (h : ∀ j, j < k → seenAt l j = true) : 0 ≤ prevI l k ∧ prevI l k ≤ 1000000 ∧ (0 < k → 1 ≤ prevI l k) := by
  induction k with
  | zero => simp [prevI]
  | succ k ih =>
    have h1 := ih (by omega) (fun j hj => h j (by omega))
    have h2 := h k (by omega)
    simp only [seenAt, inB, Bool.and_eq_true, decide_eq_true_eq] at h2
    simp only [prevI]
    omega

def prevU (l : List MailD) : Nat → Int
  | 0 => 0
  | i + 1 => match l[i]? with | some m => m.uid | none => 0
def mailAt (b : BoxD) (i : Nat) : Bool := match b.mails[i]? with
  | some m => inB m.uid (prevU b.mails i + 1) (b.next - 1) && (inB m.flags 0 31 && (inB m.seq 1 b.seq && textB m.text))
  | none => true
def mailsB (b : BoxD) : Bool := decide (b.mails.length ≤ 12) && (List.range b.mails.length).all (mailAt b)
theorem prevU_ok {b : BoxD} {k : Nat} (hn : b.next ≤ 1000000) (hk : k ≤ b.mails.length) (h : ∀ j, j < k → mailAt b j = true) : 0 ≤ prevU b.mails k ∧ prevU b.mails k ≤ 1000000 := by
  induction k with
  | zero => simp [prevU]
  | succ k ih =>
    have h1 := ih (by omega) (fun j hj => h j (by omega))
    have h2 := h k (by omega)
    obtain ⟨m, hm⟩ : ∃ m, b.mails[k]? = some m := ⟨b.mails[k]'(by omega), List.getElem?_eq_getElem (by omega)⟩
    simp only [mailAt, hm, inB, Bool.and_eq_true, decide_eq_true_eq] at h2
    simp only [prevU, hm]
    omega

def minS (b : BoxD) : Nat → Int
  | 0 => max 1 b.lost
  | i + 1 => match b.gones[i]? with | some g => g.seq | none => 0
def goneAt (b : BoxD) (i : Nat) : Bool := match b.gones[i]? with
  | some g => inB g.uid 1 (b.next - 1) && (inB g.seq (minS b i) b.seq && (!(b.mails.any fun m => decide (m.uid = g.uid)) && !((b.gones.take i).any fun o => decide (o.uid = g.uid))))
  | none => true
def gonesB (b : BoxD) : Bool := decide (b.gones.length ≤ 40) && (List.range b.gones.length).all (goneAt b)
theorem minS_ok {b : BoxD} {k : Nat} (hk : k ≤ b.gones.length) (h : ∀ j, j < k → goneAt b j = true) : 1 ≤ minS b k ∧ b.lost ≤ minS b k := by
  induction k with
  | zero => simp only [minS]; omega
  | succ k ih =>
    have h1 := ih (by omega) (fun j hj => h j (by omega))
    have h2 := h k (by omega)
    obtain ⟨m, hm⟩ : ∃ m, b.gones[k]? = some m := ⟨b.gones[k]'(by omega), List.getElem?_eq_getElem (by omega)⟩
    simp only [goneAt, hm, inB, Bool.and_eq_true, decide_eq_true_eq] at h2
    simp only [minS, hm]
    omega

def boxB (b : BoxD) (valid : Int) : Bool := nameB b.name && (inB b.valid 1 valid && (inB b.next 1 1000000 && (inB b.seq 0 1000000 && (inB b.lost 0 b.seq && (mailsB b && gonesB b)))))
def nameAt (l : List BoxD) (i : Nat) : List Int := match l[i]? with | some b => b.name | none => []
def aheadB (l : List BoxD) (b : BoxD) : Nat → Bool
  | 0 => true
  | i + 1 => lessB (nameAt l i) b.name
def boxAt (a : AccD) (i : Nat) : Bool := match a.boxes[i]? with
  | some b => boxB b a.valid && (aheadB a.boxes b i && !((a.boxes.take i).any fun o => decide (o.valid = b.valid)))
  | none => true
def accB (a : AccD) : Bool := inB a.valid 0 1000000 && (decide (a.boxes.length ≤ 4) && (seenB a.seen && (List.range a.boxes.length).all (boxAt a)))

end Go.Proofs.YtifpjdpcmfneaaaGreatDoor

/- Records that may be. -/
namespace Go.Proofs.YtifpjdpcmfneaaaGreatDoor

/-- A command, an account that is zero, by its numbers and lengths. -/
def zC (k : Int) (nb nt : Nat) (uid mode fl si : Int) (nx : Nat) : Bool := decide (k = 0 ∧ nb = 0 ∧ nt = 0 ∧ uid = 0 ∧ mode = 0 ∧ fl = 0 ∧ si = 0 ∧ nx = 0)
def zA (valid : Int) (nb ns : Nat) : Bool := decide (valid = 0 ∧ nb = 0 ∧ ns = 0)
def zeroC (c : CmdD) : Bool := zC c.k c.bx.length c.tt.length c.uid c.mode c.fl c.si c.tx.length
def zeroA (a : AccD) : Bool := zA a.valid a.boxes.length a.seen.length
def cmdD (c : CmdD) : Bool := cmdB c.k c.bx c.tt c.uid c.mode c.fl c.si c.tx
def lowN (k : Int) : Int := if k = 0 then 1 else 0
def highN (k : Int) : Int := if k = 6 then 2 else if k = 7 ∨ k = 8 then 0 else 1000000
def recB (r : RecD) : Bool := inB r.kind 0 8 && (inB r.user 0 2 && (inB r.n (lowN r.kind) (highN r.kind) && ((bif decide (r.kind = 0) then cmdD r.cmd else zeroC r.cmd) && (bif decide (r.kind = 3) then accB r.acc else zeroA r.acc))))
theorem zero_not_ok {c : CmdD} (h : zeroC c = true) : cmdD c = false := by
  simp only [zeroC, zC, decide_eq_true_eq] at h
  simp [cmdD, cmdB, h.1, nameB_nil h.2.1]
theorem recB_range {r : RecD} (h : recB r = true) : (0 ≤ r.kind ∧ r.kind ≤ 8) ∧ (0 ≤ r.user ∧ r.user ≤ 2) ∧ (0 ≤ r.n ∧ r.n ≤ 1000000) := by
  simp only [recB, inB, Bool.and_eq_true, decide_eq_true_eq] at h
  obtain ⟨h0, h1, h2, -⟩ := h
  refine ⟨h0, h1, ?_, ?_⟩
  · have := h2.1; unfold lowN at this; split at this <;> omega
  · have := h2.2; unfold highN at this; split at this
    · omega
    · split at this <;> omega
theorem recB_out {r : RecD} (h : ¬ ((0 ≤ r.kind ∧ r.kind ≤ 8) ∧ (0 ≤ r.user ∧ r.user ≤ 2) ∧ (0 ≤ r.n ∧ r.n ≤ 1000000))) : recB r = false := by
  rw [Bool.eq_false_iff]; exact fun e => h (recB_range e)
theorem recB_zero {r : RecD} (hk : r.kind = 0) (hu : 0 ≤ r.user ∧ r.user ≤ 2) (hn : 0 ≤ r.n ∧ r.n ≤ 1000000) :
    recB r = (!zeroC r.cmd && (cmdD r.cmd && (!decide (r.n < 1) && zeroA r.acc))) := by
  have h := @zero_not_ok r.cmd
  simp only [recB, hk, inB, lowN, highN, hu.1, hu.2]
  generalize zeroC r.cmd = z at *
  generalize cmdD r.cmd = c at *
  generalize zeroA r.acc = y at *
  cases z <;> cases c <;> cases y <;> simp at * <;> (first | (rw [Bool.eq_iff_iff]; simp; omega) | omega)
theorem recB_more {r : RecD} (hk : 1 ≤ r.kind ∧ r.kind ≤ 8) (hu : 0 ≤ r.user ∧ r.user ≤ 2) (hn : 0 ≤ r.n ∧ r.n ≤ 1000000) :
    recB r = (zeroC r.cmd && (bif decide (r.kind = 3) then accB r.acc else (zeroA r.acc && (!(decide (r.kind = 6) && decide (3 ≤ r.n)) && (decide (r.kind < 7) || decide (r.n = 0)))))) := by
  have hk' : r.kind = 1 ∨ r.kind = 2 ∨ r.kind = 3 ∨ r.kind = 4 ∨ r.kind = 5 ∨ r.kind = 6 ∨ r.kind = 7 ∨ r.kind = 8 := by omega
  have e : ∀ b c : Bool, (decide (r.n = 0) && (b && c)) = (b && (c && decide (r.n = 0))) := by intro b c; cases b <;> cases c <;> simp
  rcases hk' with h | h | h | h | h | h | h | h <;> simp only [recB, h, inB, lowN, highN] <;> simp [hu.1, hu.2, hn.1, hn.2] <;> cases zeroC r.cmd <;> cases zeroA r.acc <;> simp <;> (first | (rw [Bool.eq_iff_iff]; simp; omega) | omega)

end Go.Proofs.YtifpjdpcmfneaaaGreatDoor

/- What PutText and GetText answer, on lists. -/
namespace Go.Proofs.YtifpjdpcmfneaaaGreatDoor
open Go.RowKit

/-- What PutText answers. -/
def putTL (b t : List Int) : List Int := if 30 < t.length then b else putL b t.length ++ t
theorem putTL_length (b t : List Int) : (putTL b t).length ≤ b.length + 35 := by
  unfold putTL
  have := putL_length b t.length
  split
  · omega
  · simp; omega

/-- What GetText answers. -/
def getTL (l : List Int) (at' : Int) : List Int × Int :=
  if (getL l at').2 < 0 ∨ 30 < (getL l at').1 ∨ (l.length : Int) - (getL l at').2 < (getL l at').1 then ([], -1)
  else ((l.drop (getL l at').2.toNat).take (getL l at').1.toNat, (getL l at').2 + (getL l at').1)

theorem dec_bd (f i : Nat) (n sc : Int) (l : List Int) (hn : 0 ≤ n) (hs : 0 ≤ sc) : dec f i n sc l = none ∨ ∃ m k, dec f i n sc l = some (m, k) ∧ 0 ≤ m ∧ m ≤ 2147483647 ∧ i < k ∧ k ≤ i + l.length := by
  induction f generalizing i n sc l with
  | zero => left; rfl
  | succ f ih =>
    cases l with
    | nil => left; rfl
    | cons x r =>
      simp only [dec]
      have hx : 0 ≤ x % 128 * sc := Int.mul_nonneg (by omega) hs
      split
      · split
        · left; rfl
        · right; refine ⟨_, _, rfl, by omega, by omega, by omega, by simp⟩
      · rcases ih (i + 1) (n + x % 128 * sc) (sc * 128) r (by omega) (by omega) with h | ⟨m, k, h1, h2, h3, h4, h5⟩
        · left; exact h
        · right; exact ⟨m, k, h1, h2, h3, by omega, by simp; omega⟩
theorem getL_bd (l : List Int) (at' : Int) : getL l at' = (0, -1) ∨ (0 ≤ (getL l at').1 ∧ (getL l at').1 ≤ 2147483647 ∧ 1 ≤ (getL l at').2 ∧ (getL l at').2 ≤ l.length) := by
  unfold getL
  split
  · left; rfl
  · rcases dec_bd 5 0 0 1 (l.drop at'.toNat) (by omega) (by omega) with h | ⟨m, k, h1, h2, h3, h4, h5⟩
    · rw [h]; left; rfl
    · right
      rw [h1]
      simp at h5
      simp only [outOf]
      omega
theorem getTL_length (l : List Int) (at' : Int) : (getTL l at').1.length ≤ 30 := by
  unfold getTL
  split
  · simp
  · simp; omega

/-- A cut of a slice of bytes, not at its very end. -/
theorem bs_cut {w : World} {b off cap : Nat} {l : List Int} (hv : Bs w (.slice (some ⟨b, off, none⟩) l.length cap) l) (lo n : Nat) (h : lo + n ≤ l.length) :
    Bs w (.slice (some ⟨b, off + lo, none⟩) n (cap - lo)) ((l.drop lo).take n) := by
  obtain ⟨ho, a, cap', hv, h1, h2, h3, h4⟩ := hv
  simp only [Value.slice.injEq] at hv
  obtain ⟨rfl, -, rfl⟩ := hv
  have hl : ((l.drop lo).take n).length = n := by simp; omega
  refine ⟨oct_take (oct_drop ho _) _, _, cap - lo, by rw [hl], by rw [hl]; omega, by omega, (fun h => by cases h), fun hp => ?_⟩
  rw [hl] at hp
  obtain ⟨b', off', e, hlt, hc⟩ := h4 (by omega)
  simp only [Option.some.injEq, Addr.mk.injEq, and_true] at e
  obtain ⟨rfl, rfl⟩ := e
  refine ⟨b, off + lo, rfl, hlt, fun i hi => ?_⟩
  rw [hl] at hi
  rw [Nat.add_assoc, hc (lo + i) (by omega)]
  simp [hi]
theorem bs_empty (w : World) (x : Addr) (c : Nat) (hc : c ≤ maxLen) : Bs w (.slice (some x) 0 c) [] :=
  ⟨oct_nil, some x, c, rfl, by simp, hc, (fun h => by cases h), fun h => absurd h (by simp)⟩

end Go.Proofs.YtifpjdpcmfneaaaGreatDoor

/- Numbers, flags and texts as lines have them, on lists. -/
namespace Go.Proofs.YtifpjdpcmfneaaaGreatDoor
open Go.RowKit

theorem flat_len {α : Type} (f : α → List Int) (c : Nat) (l : List α) (h : ∀ x, x ∈ l → (f x).length ≤ c) : (l.flatMap f).length ≤ c * l.length := by
  induction l with
  | nil => simp
  | cons x l ih =>
    have h1 := h x (by simp)
    have h2 := ih fun y hy => h y (by simp [hy])
    simp only [List.flatMap_cons, List.length_append, List.length_cons, Nat.mul_add]
    omega
theorem flat_step {α : Type} (f : α → List Int) {l : List α} {j : Nat} {x : α} (h : l[j]? = some x) : (l.take (j + 1)).flatMap f = (l.take j).flatMap f ++ f x := by
  have hj : j < l.length := (List.getElem?_eq_some_iff.1 h).1
  rw [List.take_succ_eq_append_getElem hj, (List.getElem?_eq_some_iff.1 h).2]
  simp

def ofU8 (l : List UInt8) : List Int := l.map fun b => (b.toNat : Int)
theorem ofU8_append (a b : List UInt8) : ofU8 (a ++ b) = ofU8 a ++ ofU8 b := by simp [ofU8]
theorem ofU8_oct (l : List UInt8) : Oct (ofU8 l) := by
  intro x hx
  obtain ⟨b, _, rfl⟩ := List.mem_map.1 hx
  have := b.toNat_lt
  omega
/-- The decimal digits of a number. -/
def digB (n : Nat) : List Int := ofU8 (Lib.decDigits n)
theorem digB_small {n : Nat} (h : n < 10) : digB n = [48 + (n : Int)] := by
  rw [digB, Lib.decDigits, dif_pos h]
  simp only [ofU8, List.map_cons, List.map_nil, List.cons.injEq, and_true]
  rw [UInt8.toNat_ofNat']
  omega
theorem digB_big {n : Nat} (h : ¬ n < 10) : digB n = digB (n / 10) ++ [48 + ((n % 10 : Nat) : Int)] := by
  rw [digB, Lib.decDigits, dif_neg h, ofU8_append, digB]
  congr 1
  simp only [ofU8, List.map_cons, List.map_nil, List.cons.injEq, and_true]
  rw [UInt8.toNat_ofNat']
  omega
theorem digB_len (n : Nat) : (digB n).length ≤ n + 1 := by
  induction n using Nat.strongRecOn with
  | ind n ih =>
    by_cases h : n < 10
    · rw [digB_small h]; simp
    · rw [digB_big h]
      have := ih (n / 10) (by omega)
      simp only [List.length_append, List.length_cons, List.length_nil]
      omega
theorem digB_len10 {n : Nat} (h : n ≤ 9999999) : (digB n).length ≤ 8 := by
  have step : ∀ k : Nat, ∀ n : Nat, n < 10 ^ (k + 1) → (digB n).length ≤ k + 1 := by
    intro k
    induction k with
    | zero => intro n hn; rw [digB_small (by omega)]; simp
    | succ k ih =>
      intro n hn
      by_cases h : n < 10
      · rw [digB_small h]; simp
      · rw [digB_big h]
        have := ih (n / 10) (by rw [Nat.pow_succ] at hn; omega)
        simp only [List.length_append, List.length_cons, List.length_nil]
        omega
  exact Nat.le_trans (step 6 n (by omega)) (by omega)

/-- A byte of a text between quotes. -/
def escB (x : Int) : List Int := if x = 34 ∨ x = 92 then [92, x] else [x]
def quoB (t : List Int) : List Int := [34] ++ t.flatMap escB ++ [34]
theorem escB_len (x : Int) : (escB x).length ≤ 2 := by unfold escB; split <;> simp

/-- Flags: a letter for each that is there. -/
def letB (i : Nat) : Int := match i with
  | 0 => 83
  | 1 => 65
  | 2 => 70
  | 3 => 68
  | _ => 82
def flagAt (f : Int) (i : Nat) : List Int := if f.toNat / 2 ^ i % 2 = 1 then [letB i] else []
def flagsB (f : Int) : List Int := [40] ++ (List.range 5).flatMap (flagAt f) ++ [41]

end Go.Proofs.YtifpjdpcmfneaaaGreatDoor

/- Accounts as bytes, on lists. -/
namespace Go.Proofs.YtifpjdpcmfneaaaGreatDoor
open Go.RowKit

def numB (n : Int) : List Int := putL [] n
def txB (t : List Int) : List Int := putTL [] t
theorem putL_eq (b : List Int) (n : Int) : putL b n = b ++ numB n := by
  unfold numB putL
  split <;> simp
theorem putTL_eq (b t : List Int) : putTL b t = b ++ txB t := by
  unfold txB putTL
  split
  · simp
  · rw [putL_eq b, putL_eq []]; simp
theorem numB_len (n : Int) : (numB n).length ≤ 5 := by have := putL_length [] n; simp [numB]; simpa using this.2
theorem txB_len (t : List Int) : (txB t).length ≤ 35 := by have := putTL_length [] t; simpa [txB] using this
def numsB (l : List Int) : List Int := l.flatMap numB
def mailBs (m : MailD) : List Int := numB m.uid ++ (numB m.flags ++ (numB m.seq ++ txB m.text))
def goneBs (g : GoneD) : List Int := numB g.uid ++ numB g.seq
def boxBs (x : BoxD) : List Int := txB x.name ++ (numB x.valid ++ (numB x.next ++ (numB x.seq ++ (numB x.lost ++ (numB x.mails.length ++ (x.mails.flatMap mailBs ++ (numB x.gones.length ++ x.gones.flatMap goneBs)))))))
def accBs (a : AccD) : List Int := numB a.valid ++ (numB a.boxes.length ++ (a.boxes.flatMap boxBs ++ (numB a.seen.length ++ numsB a.seen)))
theorem mailBs_len (m : MailD) : (mailBs m).length ≤ 50 := by
  have h1 := numB_len m.uid
  have h2 := numB_len m.flags
  have h3 := numB_len m.seq
  have h4 := txB_len m.text
  simp only [mailBs, List.length_append]
  omega
theorem goneBs_len (m : GoneD) : (goneBs m).length ≤ 10 := by
  have h1 := numB_len m.uid
  have h3 := numB_len m.seq
  simp only [goneBs, List.length_append]
  omega
theorem mails_len (l : List MailD) : (l.flatMap mailBs).length ≤ 50 * l.length := flat_len _ _ _ fun _ _ => mailBs_len _
theorem gones_len (l : List GoneD) : (l.flatMap goneBs).length ≤ 10 * l.length := flat_len _ _ _ fun _ _ => goneBs_len _
theorem nums_len (l : List Int) : (numsB l).length ≤ 5 * l.length := flat_len _ _ _ fun _ _ => numB_len _
theorem boxBs_len (x : BoxD) (h1 : x.mails.length ≤ 12) (h2 : x.gones.length ≤ 40) : (boxBs x).length ≤ 1100 := by
  have k0 := txB_len x.name
  have k1 := numB_len x.valid
  have k2 := numB_len x.next
  have k3 := numB_len x.seq
  have k4 := numB_len x.lost
  have k5 := numB_len x.mails.length
  have k6 := numB_len x.gones.length
  have k7 := mails_len x.mails
  have k8 := gones_len x.gones
  simp only [boxBs, List.length_append]
  omega
theorem boxes_len (l : List BoxD) (h : ∀ x, x ∈ l → x.mails.length ≤ 12 ∧ x.gones.length ≤ 40) : (l.flatMap boxBs).length ≤ 1100 * l.length := flat_len _ _ _ fun x hx => boxBs_len x (h x hx).1 (h x hx).2
theorem accB_small {a : AccD} (h : accB a = true) : a.boxes.length ≤ 4 ∧ (∀ x, x ∈ a.boxes → x.mails.length ≤ 12 ∧ x.gones.length ≤ 40) := by
  simp only [accB, Bool.and_eq_true, decide_eq_true_eq, List.all_eq_true, List.mem_range] at h
  refine ⟨h.2.1, fun x hx => ?_⟩
  obtain ⟨i, hi, rfl⟩ := List.mem_iff_getElem.1 hx
  have := h.2.2.2 i hi
  simp only [boxAt, List.getElem?_eq_getElem hi, boxB, mailsB, gonesB, Bool.and_eq_true, decide_eq_true_eq] at this
  exact ⟨this.1.2.2.2.2.2.1.1, this.1.2.2.2.2.2.2.1⟩

/-- What AccountBytes answers. -/
def outB (x : AccD) : List Int := match accB x with
  | true => accBs x
  | false => []
theorem accB_seen {a : AccD} (h : accB a = true) : a.seen.length ≤ 60 := by
  simp only [accB, seenB, Bool.and_eq_true, decide_eq_true_eq] at h
  exact h.2.2.1.1

theorem outB_len (x : AccD) : (outB x).length ≤ 10000 := by
  cases h : accB x with
  | false => simp [outB, h]
  | true =>
    have h1 := accB_small h
    have h2 := accB_seen h
    have k0 := numB_len x.valid
    have k1 := numB_len x.boxes.length
    have k2 := numB_len x.seen.length
    have k3 := boxes_len x.boxes h1.2
    have k4 := nums_len x.seen
    simp only [outB, h, accBs, List.length_append]
    omega

end Go.Proofs.YtifpjdpcmfneaaaGreatDoor

/- One byte in a block of its own; flags, one behind the other. -/
namespace Go.Proofs.YtifpjdpcmfneaaaGreatDoor
open Go.RowKit

theorem ownB_one (w : World) (B : Nat) (hB : B ≤ w.heap.size) (x : Int) (h : 0 ≤ x ∧ x ≤ 255) : OwnB (w.alloc (.cells #[.int .u8 x] 5)) B (.slice (some ⟨w.heap.size, 0, none⟩) 1 1) [x] := by
  refine ⟨w.heap.size, hB, fun y hy => ?_, .inr ⟨1, #[.int .u8 x], rfl, heap_alloc_new w _, by simp, by unfold maxLen; omega, rfl, rfl⟩⟩
  simp only [List.mem_cons, List.not_mem_nil, or_false] at hy
  subst hy
  omega

theorem flagAt_len (f : Int) (i : Nat) : (flagAt f i).length ≤ 1 := by unfold flagAt; split <;> simp
theorem range5_step (f : Int) (k : Nat) : (List.range (k + 1)).flatMap (flagAt f) = (List.range k).flatMap (flagAt f) ++ flagAt f k := by simp [List.range_succ]

end Go.Proofs.YtifpjdpcmfneaaaGreatDoor

/- The bytes of a slice as a string. -/
namespace Go.Proofs.YtifpjdpcmfneaaaGreatDoor
open Go.RowKit

theorem underlyingStr : Tryz.prog.underlying 9 = some .string := by kernel_rfl

/-- The bytes of a slice as a string. -/
theorem run_convert_bs {w : World} {v : Value} {l : List Int} (h : Bs w v l) : (convert 22 9 v).run Tryz.prog w = .ok (.string (strOfNums l)) w := by
  obtain ⟨ho, a, cap, rfl, h1, h2, h3, h4⟩ := h
  cases a with
  | none =>
    have hc := h3 rfl
    have : l = [] := List.eq_nil_of_length_eq_zero (by omega)
    subst this
    exact run_convert_bytes_nil w 22 5 Tryz.underlying22 Tryz.underlying5 _ _ 9 underlyingStr
  | some x =>
    by_cases h0 : l = []
    · subst h0
      rw [run_convert_bytes_string w 22 9 5 _ _ _ Tryz.underlying22 Tryz.underlying5 underlyingStr]
      exact run_bytesToString w x 0 cap [] (by simp [loadCells, loadCellsFrom])
    · obtain ⟨b, off, hx, _, hc⟩ := h4 (List.length_pos_iff.2 h0)
      cases hx
      exact run_convert_bytes_arg w 22 5 Tryz.underlying22 Tryz.underlying5 b off l.length cap l rfl hc 9 underlyingStr

end Go.Proofs.YtifpjdpcmfneaaaGreatDoor

/- Strings put behind bytes of the call's own. -/
namespace Go.Proofs.YtifpjdpcmfneaaaGreatDoor
open Go.RowKit

theorem strCells_nums {s : List Int} (h : Oct s) : Lib.strCells (strOfNums s) = vals s := by
  unfold Lib.strCells vals
  rw [strOfNums_data, List.map_map]
  refine List.map_congr_left fun x hx => ?_
  have := h x hx
  simp only [Function.comp]
  rw [UInt8.toNat_ofNat']
  congr 1
  omega

theorem wpList_append_str {P : Program} {w : World} {ops : Array Oper} {rest : List Oper} {o : Oper} {a : Act} {Q : Exit → Act → World → Prop} (hgd : o.guard = none) (s x : Operand) (t u : TypeId)
    (ho : o.op = .call { callee := .builtin .append, args := #[s, x], argTypes := #[t, u] })
    (i : TypeInfo) (ht : P.underlying t = some (.slice 5)) (hu : P.underlying u = some .string) (hi : P.info? 5 = some i) (hz : i.zero = some (.int .u8 0)) (hsize : i.size = 1) (hby : i.bytes = 1)
    (B : Nat) (v : Value) (l : List Int) (hs : a.eval s = v) (hown : OwnB w B v l) (m : List Int) (hx : a.eval x = .string (strOfNums m)) (hm : Oct m)
    (hlen : l.length + m.length ≤ 140737488355328) (hbase : B ≤ w.heap.size) (w0 : World) (hb : Below B w0 w)
    (h : ∀ v' w', OwnB w' B v' (l ++ m) → Below B w0 w' → w.grownBy w' v.ownBlock → wpList P ops Q rest (a.put o.dst v') w') : wpList P ops Q (o :: rest) a w := by
  have hr := hown.row
  have hl : l.length + (strOfNums m).size ≤ maxLen := by rw [strOfNums_size]; unfold maxLen; omega
  refine Lib.wpList_append_own_string (w := w) hgd s x t u ho B 5 i ht hu hi hz hsize hby v l.length (vals l) hs hr (strOfNums m) hx hl (by rw [strOfNums_size]; exact hlen) hbase ?_
  intro v' w' hown' hg _
  rw [strOfNums_size, strCells_nums hm] at hown'
  obtain ⟨g, hgB, hg'⟩ := own_of_row (n := l.length + m.length) (oct_append hown.oct hm) (by simp) (by rw [vals_append]; exact hown')
  exact h v' w' ⟨g, hgB, hg'⟩ (hb.grown hg hbase (fun k hk => (hr.lt k hk).1)) hg

end Go.Proofs.YtifpjdpcmfneaaaGreatDoor

/- Rows of bytes of the call's own that may have been made of a string: a mark lies behind their last cell. -/
namespace Go.Proofs.YtifpjdpcmfneaaaGreatDoor
open Go.RowKit
set_option linter.unusedVariables false

/-- The slice value v lies at the head of block g, whose first cells are the bytes l; what is marked in the block lies behind its cells, or there is none. -/
def OwnQ (w : World) (g : Nat) (v : Value) (l : List Int) : Prop :=
  Oct l ∧ ∃ cap cur fz, v = .slice (some ⟨g, 0, none⟩) l.length cap ∧ w.heap[g]? = some (.cells cur 5 fz) ∧ (fz.2 = 0 ∨ cap ≤ fz.1) ∧ l.length ≤ cap ∧ cap ≤ maxLen ∧ cur.size = cap ∧ cur.toList.take l.length = vals l

theorem OwnQ.oct {w : World} {g : Nat} {v : Value} {l : List Int} (h : OwnQ w g v l) : Oct l := h.1
theorem OwnQ.lt {w : World} {g : Nat} {v : Value} {l : List Int} (h : OwnQ w g v l) : g < w.heap.size := by
  obtain ⟨_, cap, cur, fz, _, hh, _⟩ := h
  exact lt_of_heap hh
theorem OwnQ.form {w : World} {g : Nat} {v : Value} {l : List Int} (h : OwnQ w g v l) : ∃ cap, v = .slice (some ⟨g, 0, none⟩) l.length cap := by
  obtain ⟨_, cap, _, _, hv, _⟩ := h
  exact ⟨cap, hv⟩
theorem OwnQ.holds {w : World} {g : Nat} {v : Value} {l : List Int} (h : OwnQ w g v l) : ∀ j u, (vals l)[j]? = some u → w.cell? ⟨g, j, none⟩ = some u := by
  obtain ⟨_, cap, cur, fz, _, hh, _, _, _, _, ht⟩ := h
  intro j u hu
  rw [cell_of_row w g j cur _ fz hh]
  rw [← ht, List.getElem?_take] at hu
  split at hu
  · simpa using hu
  · cases hu
theorem OwnQ.bs {w : World} {g : Nat} {v : Value} {l : List Int} (h : OwnQ w g v l) : Bs w v l := by
  have hl := h.lt
  have hc := h.holds
  obtain ⟨ho, cap, cur, fz, hv, hh, _, h1, h2, _⟩ := h
  refine ⟨ho, some ⟨g, 0, none⟩, cap, hv, h1, h2, (fun h => by cases h), fun _ => ⟨g, 0, rfl, hl, fun i hi => ?_⟩⟩
  rw [Nat.zero_add]
  exact hc i _ (vals_get l i hi)
/-- The row stays where its block does. -/
theorem OwnQ.frame {w w' : World} {g : Nat} {v : Value} {l : List Int} (h : OwnQ w g v l) (hw : w'.heap[g]? = w.heap[g]?) : OwnQ w' g v l := by
  obtain ⟨ho, cap, cur, fz, hv, hh, r⟩ := h
  exact ⟨ho, cap, cur, fz, hv, hw.trans hh, r⟩
theorem OwnQ.below {w w' : World} {g : Nat} {v : Value} {l : List Int} (h : OwnQ w g v l) (hb : Below w.heap.size w w') : OwnQ w' g v l := h.frame (hb.block g h.lt)
/-- Bytes that lie in another block than g stay. -/
theorem Bs.grown {w w' : World} {g : Nat} {v : Value} {l : List Int} (h : Bs w v l) (hg : w.grownBy w' (some g)) (hn : v.ownBlock ≠ some g) : Bs w' v l := by
  obtain ⟨ho, a, cap, hv, h1, h2, h3, h4⟩ := h
  refine ⟨ho, a, cap, hv, h1, h2, h3, fun hp => ?_⟩
  obtain ⟨b, off, rfl, hb, hc⟩ := h4 hp
  have hne : some b ≠ some g := by rw [hv] at hn; simpa [Value.ownBlock] using hn
  refine ⟨b, off, rfl, Nat.lt_of_lt_of_le hb hg.size, fun i hi => ?_⟩
  rw [World.cell?_of_block (hg.block b hb hne)]
  exact hc i hi

theorem storeQ (P : Program) (g o : Nat) (t : TypeId) (fz : Nat × Nat) : ∀ (vs : List Value) (i : Nat) (cur : Array Value) (w : World), w.heap[g]? = some (.cells cur t fz) → (fz.2 = 0 ∨ o + i + vs.length ≤ fz.1) → o + i + vs.length ≤ cur.size → (∀ v ∈ vs, v.oneCell' = true) →
    (storeCells ⟨g, o, none⟩ vs i).run P w = .ok () (w.setRow g (cur.toList.take (o + i) ++ vs ++ cur.toList.drop (o + i + vs.length)).toArray) := by
  intro vs
  induction vs with
  | nil =>
    intro i cur w hg _ _ _
    have e : cur.toList.take (o + i) ++ [] ++ cur.toList.drop (o + i + 0) = cur.toList := by simp
    show (storeCells ⟨g, o, none⟩ [] i).run P w = _
    simp only [List.length_nil, e, Array.toArray_toList, storeCells]
    rw [setRow_self w g cur t fz hg]
    rfl
  | cons v rest ih =>
    intro i cur w hg hfz hl h1
    simp only [List.length_cons] at hfz hl
    have hc : w.cell? ⟨g, o + i, none⟩ = some (cur[o + i]'(by omega)) := by rw [cell_of_row w g (o + i) cur t fz hg]; simp [show o + i < cur.size by omega]
    have hf : w.frozen? ⟨g, o + i, none⟩ = false := by
      simp only [World.frozen?, hg, Bool.and_eq_false_iff, decide_eq_false_iff_not]
      rcases hfz with h | h
      · right; omega
      · left; omega
    have hs : (store ((⟨g, o, none⟩ : Addr).add i) v).run P w = .ok () (w.setRow g (cur.setIfInBounds (o + i) v)) := by
      rw [Addr.add_lit, run_store P w _ v _ (h1 v (by simp)), hc]
      simp [hf, setCell_eq_setRow w g (o + i) cur t fz v hg]
    have hr := ih (i + 1) (cur.setIfInBounds (o + i) v) (w.setRow g (cur.setIfInBounds (o + i) v)) (setRow_heap w g cur _ t _ hg) (by omega) (by simp; omega) (fun x hx => h1 x (by simp [hx]))
    simp only [storeCells, Sem.run_bind, hs, Result.andThen_ok, hr, setRow_setRow]
    congr 3
    have e := list_seg_step cur.toList (o + i) v rest (by simp; omega)
    simpa [Array.toList_setIfInBounds, Nat.add_assoc] using e

/-- What append does behind such a row. -/
theorem run_appendQ {P : Program} (w : World) (t ty : TypeId) (i : TypeInfo) (ht : P.underlying t = some (.slice 5)) (hi : P.info? 5 = some i) (hz : i.zero = some (.int .u8 0)) (hsize : i.size = 1) (hby : i.bytes = 1)
    (g : Nat) (v : Value) (l : List Int) (hown : OwnQ w g v l) (u : Value) (m : List Int) (hm : Bs w u m) (hlen : l.length + m.length ≤ 140737488355328) :
    ∃ v' w' g', (Builtin.append_ #[t, t] ty #[v, u]).run P w = .ok v' w' ∧ OwnQ w' g' v' (l ++ m) ∧ w.grownBy w' (some g) ∧ (g' = g ∨ w.heap.size ≤ g') := by
  have hold := hown.holds
  obtain ⟨ho, cap, cur, fz, rfl, hh, hfz, h1, h2, h3, h4⟩ := hown
  obtain ⟨hmo, ad, c, rfl, k1, k2, k3, k4⟩ := hm
  have hlm : (l ++ m).length = l.length + m.length := by simp
  cases ad with
  | none =>
    have : c = 0 := k3 rfl
    subst this
    have hm0 : m = [] := List.eq_nil_of_length_eq_zero (by omega)
    subst hm0
    refine ⟨.slice (some ⟨g, 0, none⟩) l.length cap, w, g, ?_, ⟨by simpa using ho, cap, cur, fz, by simp, hh, hfz, by simpa using h1, h2, h3, by simpa using h4⟩, World.grownBy.refl _ _, .inl rfl⟩
    simp [Builtin.append_, run_underlying ht, sizeOf, typeInfo, hi, Builtin.lenOf, Builtin.firstCells, h1, storeCells]
  | some ad =>
    have hnews : ∀ j u, (vals m)[j]? = some u → w.cell? (ad.add j) = some u := by
      intro j y hy
      have hj : j < m.length := by have := (List.getElem?_eq_some_iff.1 hy).1; simpa [length_vals] using this
      obtain ⟨b, off, had, _, hc⟩ := k4 (by omega)
      cases had
      rw [Addr.add_lit, hc j hj, ← hy, vals_get m j hj]
    by_cases hroom : l.length + m.length ≤ cap
    · have hf := run_firstCells_some (P := P) w i.size m.length ad m.length c (vals m) (by rw [hsize, length_vals, Nat.mul_one]) hnews
      have hst := storeQ P g (l.length * i.size) 5 fz (vals m) 0 cur w hh (by rw [hsize, length_vals]; rcases hfz with h | h <;> omega) (by rw [hsize, length_vals]; omega) (oneCell_vals m)
      rw [hsize] at hf hst
      simp only [Nat.add_zero, Nat.mul_one, length_vals] at hst hf
      refine ⟨.slice (some ⟨g, 0, none⟩) (l.length + m.length) cap, w.setRow g (cur.toList.take l.length ++ vals m ++ cur.toList.drop (l.length + m.length)).toArray, g, ?_, ⟨oct_append ho hmo, cap, _, fz, by rw [hlm], setRow_heap w g cur _ _ _ hh, hfz, by rw [hlm]; exact hroom, h2, ?_, ?_⟩, ⟨rfl, rfl, rfl, by simp, fun k _ hk => setRow_other w g k _ (fun e => hk (by rw [e]))⟩, .inl rfl⟩
      · simp [Builtin.append_, run_underlying ht, sizeOf, typeInfo, hi, hsize, Builtin.lenOf, hroom, hf, Addr.add_lit, hst]
      · simp only [List.size_toArray, List.length_append, List.length_take, List.length_drop, Array.length_toList, length_vals]; omega
      · have hv : (vals l ++ vals m).length = (l ++ m).length := by simp [length_vals]
        show ((cur.toList.take l.length ++ vals m ++ cur.toList.drop (l.length + m.length)).take (l ++ m).length) = _
        rw [h4, vals_append, ← hv]
        exact List.take_left
    · have hr := run_append_grow (P := P) w t ty 5 i (.int .u8 0) ht hi hz ⟨g, 0, none⟩ l.length cap (vals l) (by rw [hsize, length_vals, Nat.mul_one]) (fun j u hu => by rw [Addr.add_lit, Nat.zero_add]; exact hold j u hu) ad m.length c (vals m) (by rw [hsize, length_vals, Nat.mul_one]) hnews (by omega) (by omega) (by rw [hby]; exact growslice_fits (by omega) (by omega))
      have hge := grownCap_ge w (l.length + m.length) cap 5
      have hcm : grownCap w (l.length + m.length) cap 5 ≤ maxLen := grownCap_le_maxLen w (l.length + m.length) cap _ (by unfold maxLen; omega)
      refine ⟨_, _, w.heap.size, hr, ⟨oct_append ho hmo, _, _, (0, 0), by rw [hlm], heap_alloc_new w.drew _, .inl rfl, by rw [hlm]; exact hge, hcm, ?_, ?_⟩, ⟨rfl, rfl, rfl, by simp, fun k hk _ => Below.heap_alloc w.drew _ k hk⟩, .inr (Nat.le_refl _)⟩
      · have hz1 : (Value.int IntKind.u8 0).cells.size = 1 := rfl
        simp only [Array.size_append, List.size_toArray, size_zeroCells, hz1, length_vals]
        omega
      · have hv : (vals l ++ vals m).length = (l ++ m).length := by simp [length_vals]
        simp only [Array.toList_append, List.append_assoc]
        rw [← List.append_assoc, vals_append, ← hv]
        exact List.take_left

theorem wpList_appendQ {P : Program} {w : World} {ops : Array Oper} {rest : List Oper} {o : Oper} {a : Act} {Q : Exit → Act → World → Prop} (hgd : o.guard = none) (s x : Operand) (t : TypeId)
    (ho : o.op = .call { callee := .builtin .append, args := #[s, x], argTypes := #[t, t] })
    (i : TypeInfo) (ht : P.underlying t = some (.slice 5)) (hi : P.info? 5 = some i) (hz : i.zero = some (.int .u8 0)) (hsize : i.size = 1) (hby : i.bytes = 1)
    (g : Nat) (v : Value) (l : List Int) (hs : a.eval s = v) (hown : OwnQ w g v l) (u : Value) (m : List Int) (hx : a.eval x = u) (hm : Bs w u m) (hlen : l.length + m.length ≤ 140737488355328)
    (h : ∀ v' w' g', OwnQ w' g' v' (l ++ m) → w.grownBy w' (some g) → (g' = g ∨ w.heap.size ≤ g') → wpList P ops Q rest (a.put o.dst v') w') : wpList P ops Q (o :: rest) a w := by
  refine wpList_plain hgd fun K hK => ?_
  obtain ⟨v', w', g', hr, h2, h3, h4⟩ := run_appendQ (P := P) w t o.type i ht hi hz hsize hby g v l hown u m hm hlen
  unfold Oper.wp execOp
  simp only [ho, resolve, invoke, builtin, Sem.run_bind, Sem.run_pure, Result.andThen_ok, List.map_toArray, List.map_cons, List.map_nil, hs, hx, hr]
  exact hK _ _ (h v' w' g' h2 h3 h4)

/-- What '[]byte(s)' answers. -/
theorem bytesWorldQ (w : World) (s : List Int) (hs : Oct s) (hl : s.length ≤ 1000000) :
    OwnQ (Lib.bytesWorld w 5 (strOfNums s)) w.heap.size (.slice (some ⟨w.heap.size, 0, none⟩) s.length (grownCap w s.length 0 5)) s ∧ Below w.heap.size w (Lib.bytesWorld w 5 (strOfNums s)) := by
  have hge := grownCap_ge w s.length 0 5
  have hcm : grownCap w s.length 0 5 ≤ maxLen := grownCap_le_maxLen w s.length 0 _ (by unfold maxLen; omega)
  have hsz := strOfNums_size s
  have hcs : (Lib.bytesCells w 5 (strOfNums s)).size = grownCap w s.length 0 5 := by
    have : (strOfNums s).data.size = s.length := hsz
    simp only [Lib.bytesCells, Array.size_append, Array.size_map, Array.size_replicate, this, hsz]
    omega
  refine ⟨⟨hs, _, _, _, rfl, Lib.bytesWorld_at_new w _ _, .inr (Nat.le_of_eq hcs.symm), hge, hcm, hcs, ?_⟩, rfl, rfl, rfl, by rw [Lib.bytesWorld_size]; omega, fun k hk => Lib.bytesWorld_at_old w _ _ k hk⟩
  have e : ((strOfNums s).data.map fun b => Value.int .u8 b.toNat).toList = vals s := (by rw [Array.toList_map]; exact strCells_nums hs)
  have hv : (vals s).length = s.length := length_vals s
  simp only [Lib.bytesCells, Array.toList_append]
  rw [e, ← hv]
  exact List.take_left

end Go.Proofs.YtifpjdpcmfneaaaGreatDoor

/- What l4word of package spec does behind bytes that may have been made of a string. -/
namespace Go.Proofs.YtifpjdpcmfneaaaGreatDoor
open Go.RowKit
set_option maxRecDepth 100000
set_option linter.unusedVariables false

theorem grow_trans {w w1 w2 : World} {g g2 : Nat} (h : w.grownBy w1 (some g)) (k : w1.grownBy w2 (some g2)) (hg : g2 = g ∨ w.heap.size ≤ g2) : w.grownBy w2 (some g) :=
  ⟨k.os.trans h.os, k.tape.trans h.tape, k.output.trans h.output, Nat.le_trans h.size k.size, fun b hb hn => (k.block b (Nat.lt_of_lt_of_le hb h.size) (by rcases hg with rfl | hg; exact hn; simp; omega)).trans (h.block b hb hn)⟩
theorem grow_below {w w' : World} (h : Below w.heap.size w w') (g : Option Nat) : w.grownBy w' g := ⟨h.os, h.tape, h.output, h.size, fun b hb _ => h.block b hb⟩

set_option maxRecDepth 100000 in
set_option maxHeartbeats 1000000 in
theorem l4word_q (g : Nat) (v wv : Value) (l wd : List Int) (w : World) (hv : OwnQ w g v l) (hs : Bs w wv wd) (hn : wv.ownBlock ≠ some g) (h0 : 0 < l.length) (hl : l.length ≤ 1000000) (hwl : wd.length ≤ 1000000) :
    Calls Tryz.prog 62 #[v, wv] w fun e w' => ∃ u g', e = .returned u ∧ OwnQ w' g' u (l ++ [32] ++ wd) ∧ w.grownBy w' (some g) ∧ (g' = g ∨ w.heap.size ≤ g') := by
  have HN : Hid (wv.ownBlock ≠ some g) := hn
  obtain ⟨wa, wn, wc, rfl⟩ := hs.form3
  obtain ⟨cap, rfl⟩ := hv.form
  have h0' : (0 : Int) < (l.length : Int) := by omega
  have AB : Below w.heap.size w (w.alloc (.cells #[.int .u8 32] 5)) := (Below.refl _ _).alloc (Nat.le_refl _) _
  have HA : Hid (w.grownBy (w.alloc (.cells #[.int .u8 32] 5)) (some g)) := grow_below AB _
  have HOA : Hid (OwnQ (w.alloc (.cells #[.int .u8 32] 5)) g (.slice (some ⟨g, 0, none⟩) l.length cap) l) := hv.below AB
  have HSA : Hid (Bs (w.alloc (.cells #[.int .u8 32] 5)) (.slice wa wn wc) wd) := hs.below AB
  clear hv hs AB hn
  obtain ⟨i0, hi, hz0, hz1, hz2⟩ := info_parts info5
  go_enter Tryz.func62, Tryz.ntmps62
  go_wp2_with (at_builtin; refine wpList_appendQ rfl (.tmp 8) (.tmp 9) 22 rfl i0 Tryz.underlying22 hi hz0 hz1 hz2 g _ _ rfl HOA.out _ [32] rfl (bs_one _ _ (by omega)) (by simp only [List.length_cons, List.length_nil]; omega) ?_)
  intro v2 w2 g2 hO2 hG2 hg2
  have HO2 : Hid (OwnQ w2 g2 v2 (l ++ [32])) := by simpa [Hid] using hO2
  have HG : Hid (g2 = g ∨ w.heap.size ≤ g2) := by
    rcases hg2 with h | h
    · exact .inl h
    · right; (first | omega | (simp at h; omega))
  have HT2 : Hid (w.grownBy w2 (some g)) := grow_trans HA.out hG2 (.inl rfl)
  have HW : Hid (Bs w2 (.slice wa wn wc) wd) := HSA.out.grown hG2 HN.out
  clear hO2 hG2 hg2 HA HOA HSA
  go_wp2_with (at_builtin; refine wpList_appendQ rfl (.tmp 11) (.tmp 12) 22 rfl i0 Tryz.underlying22 hi hz0 hz1 hz2 g2 _ _ rfl HO2.out _ wd rfl HW.out (by simp only [List.length_append, List.length_cons, List.length_nil]; omega) ?_)
  intro v3 w3 g3 hO3 hG3 hg3
  have HO3 : Hid (OwnQ w3 g3 v3 (l ++ [32] ++ wd)) := by simpa [Hid] using hO3
  have HT3 : Hid (w.grownBy w3 (some g)) := grow_trans HT2.out hG3 HG.out
  have HG3 : Hid (g3 = g ∨ w.heap.size ≤ g3) := by
    have hs2 := HT2.out.size
    rcases hg3 with h | h
    · rw [h]; exact HG.out
    · right; omega
  clear hO3 hG3 hg3 HT2 HO2 HW HG
  go_wp2
  go_ret
  exact ⟨_, _, rfl, HO3.out, HT3.out, HG3.out⟩

end Go.Proofs.YtifpjdpcmfneaaaGreatDoor
