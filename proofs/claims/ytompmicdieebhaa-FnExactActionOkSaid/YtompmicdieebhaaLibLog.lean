/- Logs in memory: what a log reads as; a log of the call's own; what is written within a range of blocks. -/
import Derived.Test.YtompmicdieebhaaLibRow
namespace Go.Proofs.Ytompmicdieebhaa
open Go.RowKit

/-- Old blocks outside the range from B on and below T are as they were. -/
structure Within (B T : Nat) (w w' : World) : Prop where
  os : w'.os = w.os
  tape : w'.tape = w.tape
  output : w'.output = w.output
  size : w.heap.size ≤ w'.heap.size
  block : ∀ k, k < w.heap.size → ¬ (B ≤ k ∧ k < T) → w'.heap[k]? = w.heap[k]?

theorem Within.refl (B T : Nat) (w : World) : Within B T w w := ⟨rfl, rfl, rfl, Nat.le_refl _, fun _ _ _ => rfl⟩
theorem Within.trans {B T : Nat} {a b c : World} (h : Within B T a b) (k : Within B T b c) : Within B T a c :=
  ⟨k.os.trans h.os, k.tape.trans h.tape, k.output.trans h.output, Nat.le_trans h.size k.size, fun i hi hn => (k.block i (Nat.lt_of_lt_of_le hi h.size) hn).trans (h.block i hi hn)⟩
theorem Within.wide {B T B' T' : Nat} {a b : World} (h : Within B T a b) (hB : B' ≤ B) (hT : T ≤ T') : Within B' T' a b :=
  ⟨h.os, h.tape, h.output, h.size, fun i hi hn => h.block i hi (fun hc => hn ⟨by omega, by omega⟩)⟩
theorem Within.ofBelow {B T : Nat} {a b : World} (h : Below a.heap.size a b) : Within B T a b := ⟨h.os, h.tape, h.output, h.size, fun k hk _ => h.block k hk⟩
theorem Within.below {B T : Nat} {w0 w w' : World} (h : Within B T w w') (hb : Below w0.heap.size w0 w) (hB : w0.heap.size ≤ B) : Below w0.heap.size w0 w' :=
  ⟨h.os.trans hb.os, h.tape.trans hb.tape, h.output.trans hb.output, Nat.le_trans hb.size h.size, fun k hk => (h.block k (Nat.lt_of_lt_of_le hk hb.size) (by omega)).trans (hb.block k hk)⟩

theorem Row.within {w w' : World} {B T : Nat} {u : Value} {m : List Int} (hu : Row w B T u m) (hg : w.grownBy w' u.ownBlock) : Within B T w w' :=
  ⟨hg.os, hg.tape, hg.output, hg.size, fun k hk hn => hg.block k hk (fun e => hn ⟨(hu.2.1.lt k e.symm).1, hu.2.2 k e.symm⟩)⟩
/-- A row apart from what was written stays. -/
theorem Row.keptW {w w' : World} {B T B' T' : Nat} {v : Value} {l : List Int} (h : Row w B T v l) (hw : Within B' T' w w') (hd : T ≤ B' ∨ T' ≤ B) : Row w' B T v l := by
  refine ⟨h.1, ⟨h.2.1.1, ?_⟩, h.2.2⟩
  rcases h.2.1.2 with hn | ⟨g, cap, cur, hv, hg, hh, r⟩
  · exact .inl hn
  · have hlt : g < T := h.2.2 g (by rw [hv]; rfl)
    exact .inr ⟨g, cap, cur, hv, hg, (hw.block g (lt_of_heap hh) (by omega)).trans hh, r⟩

theorem Bs.form {w : World} {v : Value} {l : List Int} (h : Bs w v l) : ∃ a cap, v = .slice a l.length cap := by obtain ⟨_, a, cap, h, _⟩ := h; exact ⟨a, cap, h⟩

theorem Bs.form3 {w : World} {v : Value} {l : List Int} (h : Bs w v l) : ∃ a n cap, v = .slice a n cap := by obtain ⟨_, a, cap, h, _⟩ := h; exact ⟨a, _, cap, h⟩

/-- A slice's first bytes. -/
theorem bs_first {w : World} {a : Option Addr} {cap : Nat} {l : List Int} (h : Bs w (.slice a l.length cap) l) (n : Nat) (hn : n ≤ l.length) : Bs w (.slice a n cap) (l.take n) := by
  obtain ⟨ho, a', cap', hv, h1, h2, h3, h4⟩ := h
  simp only [Value.slice.injEq] at hv
  obtain ⟨rfl, -, rfl⟩ := hv
  have hl : (l.take n).length = n := by simp; omega
  refine ⟨oct_take ho n, a, cap, by rw [hl], by rw [hl]; omega, h2, h3, fun hp => ?_⟩
  rw [hl] at hp
  obtain ⟨b, off, e, hlt, hc⟩ := h4 (by omega)
  refine ⟨b, off, e, hlt, fun i hi => ?_⟩
  rw [hl] at hi
  rw [hc i (by omega)]
  simp [hi]
theorem Bs.cap {w : World} {a : Option Addr} {n cap : Nat} {l : List Int} (h : Bs w (.slice a n cap) l) : l.length ≤ cap ∧ cap ≤ 9223372036854775807 := by
  obtain ⟨_, a', cap', hv, h1, h2, _⟩ := h
  simp only [Value.slice.injEq] at hv
  obtain ⟨-, -, rfl⟩ := hv
  exact ⟨h1, h2⟩

/-- A block of two cells (a log, boxed): what the walk asks of it. -/
theorem box2 {w : World} {g : Nat} {t : TypeId} {c0 c1 : Value} (h : w.heap[g]? = some (.cells #[c0, c1] t (0, 0))) :
    w.cell? ⟨g, 0, none⟩ = some c0 ∧ w.cell? ⟨g, 1, none⟩ = some c1 ∧ w.frozen? ⟨g, 0, none⟩ = false ∧ w.frozen? ⟨g, 1, none⟩ = false ∧ g < w.heap.size :=
  ⟨by rw [cell_of_row w g 0 _ t (0, 0) h]; rfl, by rw [cell_of_row w g 1 _ t (0, 0) h]; rfl, frozen_of_row w g 0 _ t h, frozen_of_row w g 1 _ t h, lt_of_heap h⟩
theorem box2_set0 {w : World} {g : Nat} {t : TypeId} {c0 c1 v : Value} (h : w.heap[g]? = some (.cells #[c0, c1] t (0, 0))) : (w.setCell ⟨g, 0, none⟩ v).heap[g]? = some (.cells #[v, c1] t (0, 0)) := by
  rw [heap_setCell_same w g 0 _ t v h]; rfl
theorem box2_set1 {w : World} {g : Nat} {t : TypeId} {c0 c1 v : Value} (h : w.heap[g]? = some (.cells #[c0, c1] t (0, 0))) : (w.setCell ⟨g, 1, none⟩ v).heap[g]? = some (.cells #[c0, v] t (0, 0)) := by
  rw [heap_setCell_same w g 1 _ t v h]; rfl
theorem box_other {w : World} {g k i : Nat} {o : Obj} {v : Value} (h : w.heap[g]? = some o) (hne : g ≠ k) : (w.setCell ⟨k, i, none⟩ v).heap[g]? = some o :=
  (Below.heap_setCell w ⟨k, i, none⟩ v g hne).trans h
theorem box_below {w w' : World} {g : Nat} {o : Obj} (hb : Below w.heap.size w w') (h : w.heap[g]? = some o) : w'.heap[g]? = some o := (hb.block g (lt_of_heap h)).trans h
theorem box_new (w : World) (o : Obj) : (w.alloc o).heap[w.heap.size]? = some o := heap_alloc_new w o
theorem box_alloc {w : World} {g : Nat} {o : Obj} (h : w.heap[g]? = some o) (o' : Obj) : (w.alloc o').heap[g]? = some o := (Below.heap_alloc w o' g (lt_of_heap h)).trans h
/-- Three blocks that were laid one behind the other. -/
theorem box3 (w : World) (o0 o1 o2 : Obj) : (((w.alloc o0).alloc o1).alloc o2).heap[w.heap.size]? = some o0 ∧ (((w.alloc o0).alloc o1).alloc o2).heap[w.heap.size + 1]? = some o1 ∧ (((w.alloc o0).alloc o1).alloc o2).heap[w.heap.size + 1 + 1]? = some o2 :=
  ⟨box_alloc (box_alloc (box_new w o0) o1) o2, box_alloc (by simpa using box_new (w.alloc o0) o1) o2, by simpa using box_new ((w.alloc o0).alloc o1) o2⟩
theorem box3_below (w : World) (o0 o1 o2 : Obj) : Below w.heap.size w (((w.alloc o0).alloc o1).alloc o2) := (((Below.refl _ _).alloc (Nat.le_refl _) _).alloc (by simp) _).alloc (by simp; omega) _

/-- Two blocks that were laid one behind the other. -/
theorem boxes2 (w : World) (o0 o1 : Obj) : ((w.alloc o0).alloc o1).heap[w.heap.size]? = some o0 ∧ ((w.alloc o0).alloc o1).heap[w.heap.size + 1]? = some o1 ∧ Below w.heap.size w ((w.alloc o0).alloc o1) :=
  ⟨box_alloc (box_new w o0) o1, by simpa using box_new (w.alloc o0) o1, ((Below.refl _ _).alloc (Nat.le_refl _) _).alloc (by simp) _⟩

theorem box_within {w w' : World} {B T g : Nat} {o : Obj} (hw : Within B T w w') (h : w.heap[g]? = some o) (hd : g < B ∨ T ≤ g) : w'.heap[g]? = some o := (hw.block g (lt_of_heap h) (by omega)).trans h

/-- Old cells, old marks read as before: two rules that the walk then uses by itself. -/
theorem bcell {W w1 : World} (hb : Below W.heap.size W w1) : (∀ b o, b < W.heap.size → w1.cell? ⟨b, o, none⟩ = W.cell? ⟨b, o, none⟩) ∧ (∀ b o, b < W.heap.size → w1.frozen? ⟨b, o, none⟩ = W.frozen? ⟨b, o, none⟩) :=
  ⟨fun b o h => hb.cell (p := ⟨b, o, none⟩) h, fun b o h => hb.frozen (p := ⟨b, o, none⟩) h⟩

/-- The value v reads as the log of the bytes a and b. -/
def LogV (w : World) (v : Value) (a b : List Int) : Prop := ∃ u0 u1, v = .agg #[u0, u1] ∧ Bs w u0 a ∧ Bs w u1 b
/-- A log of the call's own: its two slices lie in blocks from B on and below T, apart from each other. -/
def LogR (w : World) (B T : Nat) (v : Value) (a b : List Int) : Prop :=
  ∃ u0 u1 B0 T0 B1 T1, v = .agg #[u0, u1] ∧ Row w B0 T0 u0 a ∧ Row w B1 T1 u1 b ∧ B ≤ B0 ∧ T0 ≤ T ∧ B ≤ B1 ∧ T1 ≤ T ∧ (T0 ≤ B1 ∨ T1 ≤ B0)

theorem LogV.below {w w' : World} {v : Value} {a b : List Int} (h : LogV w v a b) (hb : Below w.heap.size w w') : LogV w' v a b :=
  let ⟨u0, u1, hv, h0, h1⟩ := h; ⟨u0, u1, hv, h0.below hb, h1.below hb⟩
theorem LogR.v {w : World} {B T : Nat} {v : Value} {a b : List Int} (h : LogR w B T v a b) : LogV w v a b :=
  let ⟨u0, u1, _, _, _, _, hv, h0, h1, _⟩ := h; ⟨u0, u1, hv, h0.bs, h1.bs⟩
theorem LogR.below {w w' : World} {B T : Nat} {v : Value} {a b : List Int} (h : LogR w B T v a b) (hb : Below w.heap.size w w') : LogR w' B T v a b :=
  let ⟨u0, u1, B0, T0, B1, T1, hv, h0, h1, r⟩ := h; ⟨u0, u1, B0, T0, B1, T1, hv, h0.below hb, h1.below hb, r⟩
theorem LogR.wide {w : World} {B T B' T' : Nat} {v : Value} {a b : List Int} (h : LogR w B T v a b) (hB : B' ≤ B) (hT : T ≤ T') : LogR w B' T' v a b :=
  let ⟨u0, u1, B0, T0, B1, T1, hv, h0, h1, r0, r1, r2, r3, r4⟩ := h; ⟨u0, u1, B0, T0, B1, T1, hv, h0, h1, by omega, by omega, by omega, by omega, r4⟩
theorem LogR.keptW {w w' : World} {B T B' T' : Nat} {v : Value} {a b : List Int} (h : LogR w B T v a b) (hw : Within B' T' w w') (hd : T ≤ B' ∨ T' ≤ B) : LogR w' B T v a b :=
  let ⟨u0, u1, B0, T0, B1, T1, hv, h0, h1, r0, r1, r2, r3, r4⟩ := h
  ⟨u0, u1, B0, T0, B1, T1, hv, h0.keptW hw (by omega), h1.keptW hw (by omega), r0, r1, r2, r3, r4⟩
theorem LogR.set {w : World} {g i B T : Nat} {v x : Value} {a b : List Int} (h : LogR w B T v a b) (hd : g < B ∨ T ≤ g) : LogR (w.setCell ⟨g, i, none⟩ x) B T v a b :=
  let ⟨u0, u1, B0, T0, B1, T1, hv, h0, h1, r0, r1, r2, r3, r4⟩ := h
  ⟨u0, u1, B0, T0, B1, T1, hv, h0.set (by omega), h1.set (by omega), r0, r1, r2, r3, r4⟩
theorem LogR.zero (w : World) (B T : Nat) (h : B ≤ T) : LogR w B T (.agg #[.slice none 0 0, .slice none 0 0]) [] [] :=
  ⟨_, _, B, B, B, T, rfl, Row.nil _ _ _, Row.nil _ _ _, Nat.le_refl _, h, Nat.le_refl _, Nat.le_refl _, .inl (Nat.le_refl _)⟩

end Go.Proofs.Ytompmicdieebhaa
