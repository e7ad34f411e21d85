/- The proof's texts, part 7. -/
import Derived.Test.YthnlbhmecokomaaDoorPart3
import Derived.Test.YthnlbhmecokomaaDoorPart2
import Derived.Test.YthnlbhmecokomaaDoorPart6
import Derived.Test.YthnlbhmecokomaaDoorPart4
import Derived.Defers
import Derived.Recover
import Derived.Test.YthnlbhmecokomaaDoorPart1
import Derived.Shelf.Abstract

/- What toIntS, toAccount of package laws do. -/
namespace Go.Proofs.YthnlbhmecokomaaDoor
open Go.RowKit
set_option linter.unusedVariables false

theorem infoInt : (Tryd.prog.info? 3).map (fun i => (i.zero, i.size, i.bytes)) = some (some (.int .i64 0), 1, 8) := by kernel_rfl

end Go.Proofs.YthnlbhmecokomaaDoor

/- Replies and rows of names in memory: what they read as, and those of the call's own. -/
namespace Go.Proofs.YthnlbhmecokomaaDoor
open Go.RowKit

structure RepD where
  code : Int
  num : Int
  box : BoxD
  names : List (List Int)

def NameRE (w : World) (c : List Value) (l : List Int) : Prop := ∃ u, c = [u] ∧ Bs w u l
abbrev NamesV := Rd 1 NameRE
theorem keepsName : Keeps NameRE := fun _ _ _ _ hb h => let ⟨u, h0, h1⟩ := h; ⟨u, h0, h1.below hb⟩
def NameE (w : World) (c : List Value) (l : List Int) (S : Nat → Prop) : Prop := ∃ u, c = [u] ∧ RO w S u l
theorem framesName : Frames NameE := fun _ _ _ _ _ h hw => let ⟨u, h0, h1⟩ := h; ⟨u, h0, h1.frame hw⟩
instance : Fr NameE := ⟨framesName⟩
abbrev NamesO := Ow 22 1 NameE
abbrev NamesR := OwR 22 1 NameE
theorem NameE.rd {w : World} {c : List Value} {l : List Int} {S : Nat → Prop} (h : NameE w c l S) : NameRE w c l := let ⟨u, h0, h1⟩ := h; ⟨u, h0, h1.bs⟩
theorem NamesV.cell {w : World} {v : Value} {l : List (List Int)} (h : NamesV w v l) (k : Nat) (x : List Int) (hx : l[k]? = some x) : ∃ b off cap u, v = .slice (some ⟨b, off, none⟩) l.length cap ∧ b < w.heap.size ∧ w.cell? ⟨b, off + k, none⟩ = some u ∧ Bs w u x := by
  obtain ⟨b, off, cap, c, hv, hlt, ⟨u, rfl, hi⟩, -, hc⟩ := h.get k x hx
  exact ⟨b, off, cap, u, hv, hlt, by simpa using hc 0 _ rfl, hi⟩
def szN (l : List (List Int)) : Nat := (l.map fun m => m.length + 1).sum
theorem szN_mem {l : List (List Int)} {m : List Int} (h : m ∈ l) : m.length + 1 ≤ szN l := by
  induction l with
  | nil => cases h
  | cons x l ih =>
    simp only [szN, List.map_cons, List.sum_cons] at ih ⊢
    rcases List.mem_cons.1 h with rfl | h
    · omega
    · have := ih h; omega
theorem szN_len (l : List (List Int)) : l.length ≤ szN l := by
  induction l with
  | nil => simp [szN]
  | cons x l ih => simp only [szN, List.map_cons, List.sum_cons, List.length_cons] at ih ⊢; omega

/-- The value v reads as a reply. -/
def RepV (w : World) (v : Value) (x : RepD) : Prop := ∃ u0 u1 u2 u3, v = .agg #[.int .i64 x.code, .int .i64 x.num, u0, .int .i64 x.box.valid, .int .i64 x.box.next, .int .i64 x.box.seq, u1, u2, .int .i64 x.box.lost, u3] ∧ BoxV w (.agg #[u0, .int .i64 x.box.valid, .int .i64 x.box.next, .int .i64 x.box.seq, u1, u2, .int .i64 x.box.lost]) x.box ∧ NamesV w u3 x.names ∧ I64 x.code ∧ I64 x.num
theorem RepV.below {w w' : World} {v : Value} {x : RepD} (h : RepV w v x) (hb : Below w.heap.size w w') : RepV w' v x :=
  let ⟨u0, u1, u2, u3, h0, h1, h2, i⟩ := h; ⟨u0, u1, u2, u3, h0, h1.below hb, h2.below keepsName hb, i⟩
/-- A reply of the call's own in blocks from B on and below T. -/
def RepR (w : World) (B T : Nat) (v : Value) (x : RepD) : Prop :=
  ∃ u0 u1 u2 u3 T0, v = .agg #[.int .i64 x.code, .int .i64 x.num, u0, .int .i64 x.box.valid, .int .i64 x.box.next, .int .i64 x.box.seq, u1, u2, .int .i64 x.box.lost, u3] ∧ BoxE w [u0, .int .i64 x.box.valid, .int .i64 x.box.next, .int .i64 x.box.seq, u1, u2, .int .i64 x.box.lost] x.box (In B T0) ∧ NamesO w (In T0 T) u3 x.names ∧ B ≤ T0 ∧ T0 ≤ T ∧ I64 x.code ∧ I64 x.num
theorem BoxE.wide {w : World} {c : List Value} {b : BoxD} {S S' : Nat → Prop} (h : BoxE w c b S) (hS : ∀ x, S x → S' x) : BoxE w c b S' :=
  let ⟨u0, u1, u2, S0, S1, S2, h0, h1, h2, h3, d0, d1, d2, r⟩ := h
  ⟨u0, u1, u2, S0, S1, S2, h0, h1, h2, h3, fun x hx => ⟨hS x (d0 x hx).1, (d0 x hx).2⟩, fun x hx => ⟨hS x (d1 x hx).1, (d1 x hx).2⟩, fun x hx => hS x (d2 x hx), r⟩
theorem BoxE.set {w : World} {g i B T : Nat} {c : List Value} {x : Value} {b : BoxD} (h : BoxE w c b (In B T)) (hd : g < B ∨ T ≤ g) : BoxE (w.setCell ⟨g, i, none⟩ x) c b (In B T) :=
  framesBox _ _ _ _ _ h fun b hb hlt => Below.heap_setCell _ _ _ _ (by have := hb.1; have := hb.2; show b ≠ g; omega)
section
variable {w w' : World} {B T B' T' : Nat} {v : Value} {y : RepD}
theorem RepR.rv (h : RepR w B T v y) : RepV w v y := by
  obtain ⟨u0, u1, u2, u3, T0, h0, h1, h2, -, -, i⟩ := h
  obtain ⟨p0, p1, p2, e, q⟩ := h1.rd
  simp only [List.cons.injEq, and_true, true_and] at e
  obtain ⟨rfl, rfl, rfl⟩ := e
  exact ⟨u0, u1, u2, u3, h0, ⟨_, _, _, rfl, q⟩, h2.rd fun _ _ _ _ => NameE.rd, i⟩
theorem RepR.below (h : RepR w B T v y) (hb : Below w.heap.size w w') : RepR w' B T v y :=
  let ⟨u0, u1, u2, u3, T0, h0, h1, h2, r⟩ := h; ⟨u0, u1, u2, u3, T0, h0, framesBox _ _ _ _ _ h1 fun b _ hlt => hb.block b hlt, h2.below framesName hb, r⟩
theorem RepR.wide (h : RepR w B T v y) (hB : B' ≤ B) (hT : T ≤ T') : RepR w B' T' v y :=
  let ⟨u0, u1, u2, u3, T0, h0, h1, h2, j0, j1, i⟩ := h
  ⟨u0, u1, u2, u3, T0, h0, h1.wide fun x hx => ⟨Nat.le_trans hB hx.1, hx.2⟩, h2.mono fun x hx => ⟨hx.1, Nat.lt_of_lt_of_le hx.2 hT⟩, by omega, by omega, i⟩
theorem RepR.keptW (h : RepR w B T v y) (hw : Within B' T' w w') (hd : T ≤ B' ∨ T' ≤ B) : RepR w' B T v y :=
  let ⟨u0, u1, u2, u3, T0, h0, h1, h2, j0, j1, i⟩ := h
  ⟨u0, u1, u2, u3, T0, h0, framesBox _ _ _ _ _ h1 fun b hb hlt => hw.block b hlt (by have := hb.1; have := hb.2; omega), h2.frame framesName fun b hb hlt => hw.block b hlt (by have := hb.1; have := hb.2; omega), j0, j1, i⟩
end
theorem bx10 {w : World} {g : Nat} {t : TypeId} {c0 c1 c2 c3 c4 c5 c6 c7 c8 c9 : Value} (h : w.heap[g]? = some (.cells #[c0, c1, c2, c3, c4, c5, c6, c7, c8, c9] t (0, 0))) :
    w.cell? ⟨g, 0, none⟩ = some c0 ∧ w.cell? ⟨g, 1, none⟩ = some c1 ∧ w.cell? ⟨g, 2, none⟩ = some c2 ∧ w.cell? ⟨g, 3, none⟩ = some c3 ∧ w.cell? ⟨g, 4, none⟩ = some c4 ∧ w.cell? ⟨g, 5, none⟩ = some c5 ∧ w.cell? ⟨g, 6, none⟩ = some c6 ∧ w.cell? ⟨g, 7, none⟩ = some c7 ∧ w.cell? ⟨g, 8, none⟩ = some c8 ∧ w.cell? ⟨g, 9, none⟩ = some c9 :=
  ⟨by rw [cell_of_row w g 0 _ t (0, 0) h]; rfl, by rw [cell_of_row w g 1 _ t (0, 0) h]; rfl, by rw [cell_of_row w g 2 _ t (0, 0) h]; rfl, by rw [cell_of_row w g 3 _ t (0, 0) h]; rfl, by rw [cell_of_row w g 4 _ t (0, 0) h]; rfl, by rw [cell_of_row w g 5 _ t (0, 0) h]; rfl, by rw [cell_of_row w g 6 _ t (0, 0) h]; rfl, by rw [cell_of_row w g 7 _ t (0, 0) h]; rfl, by rw [cell_of_row w g 8 _ t (0, 0) h]; rfl, by rw [cell_of_row w g 9 _ t (0, 0) h]; rfl⟩
theorem box10l {w : World} {g : Nat} {t : TypeId} {c0 c1 c2 c3 c4 c5 c6 c7 c8 c9 : Value} (h : w.heap[g]? = some (.cells #[c0, c1, c2, c3, c4, c5, c6, c7, c8, c9] t (0, 0))) :
    w.cell? ⟨g, 0, none⟩ = some c0 ∧ w.cell? ⟨g, 1, none⟩ = some c1 ∧ w.cell? ⟨g, 2, none⟩ = some c2 ∧ w.cell? ⟨g, 3, none⟩ = some c3 ∧ w.cell? ⟨g, 4, none⟩ = some c4 ∧ w.cell? ⟨g, 5, none⟩ = some c5 ∧ w.cell? ⟨g, 6, none⟩ = some c6 ∧ w.cell? ⟨g, 7, none⟩ = some c7 ∧ w.cell? ⟨g, 8, none⟩ = some c8 ∧ w.cell? ⟨g, 9, none⟩ = some c9 ∧ g < w.heap.size := by
  obtain ⟨f0, f1, f2, f3, f4, f5, f6, f7, f8, f9⟩ := bx10 h
  exact ⟨f0, f1, f2, f3, f4, f5, f6, f7, f8, f9, lt_of_heap h⟩

/-- A reply's shape laid open, and its parts. -/
theorem RepV.form {w : World} {v : Value} {x : RepD} (h : RepV w v x) : ∃ a0 n0 c0 a1 c1 a2 c2 a3 c3, v = .agg #[.int .i64 x.code, .int .i64 x.num, .slice a0 n0 c0, .int .i64 x.box.valid, .int .i64 x.box.next, .int .i64 x.box.seq, .slice a1 x.box.mails.length c1, .slice a2 x.box.gones.length c2, .int .i64 x.box.lost, .slice a3 x.names.length c3] := by
  obtain ⟨u0, u1, u2, u3, rfl, ⟨p0, p1, p2, e, q0, q1, q2, -⟩, q3, -⟩ := h
  simp only [Value.agg.injEq, Array.mk.injEq, List.cons.injEq, and_true, true_and] at e
  obtain ⟨rfl, rfl, rfl⟩ := e
  obtain ⟨a0, n0, c0, rfl⟩ := q0.form3
  obtain ⟨a1, c1, rfl, -⟩ := q1.form
  obtain ⟨a2, c2, rfl, -⟩ := q2.form
  obtain ⟨a3, c3, rfl, -⟩ := q3.form
  exact ⟨_, _, _, _, _, _, _, _, _, rfl⟩
theorem RepV.parts {w : World} {z0 z1 z2 z3 : Value} {x : RepD} (h : RepV w (.agg #[.int .i64 x.code, .int .i64 x.num, z0, .int .i64 x.box.valid, .int .i64 x.box.next, .int .i64 x.box.seq, z1, z2, .int .i64 x.box.lost, z3]) x) : BoxV w (.agg #[z0, .int .i64 x.box.valid, .int .i64 x.box.next, .int .i64 x.box.seq, z1, z2, .int .i64 x.box.lost]) x.box ∧ NamesV w z3 x.names ∧ I64 x.code ∧ I64 x.num := by
  obtain ⟨u0, u1, u2, u3, e, h1, h2, i⟩ := h
  simp only [Value.agg.injEq, Array.mk.injEq, List.cons.injEq, and_true, true_and] at e
  obtain ⟨rfl, rfl, rfl, rfl⟩ := e
  exact ⟨h1, h2, i⟩

end Go.Proofs.YthnlbhmecokomaaDoor

/- What l4getAccount of package spec does: an account is read behind a cursor. -/
namespace Go.Proofs.YthnlbhmecokomaaDoor
open Go.RowKit
set_option maxRecDepth 100000
set_option linter.unusedVariables false

theorem Ow.form3 {α : Type} {t : TypeId} {sz : Nat} {E : World → List Value → α → (Nat → Prop) → Prop} {w : World} {S : Nat → Prop} {v : Value} {l : List α} (h : Ow t sz E w S v l) : ∃ a n cap, v = .slice a n cap := by
  rcases h with ⟨rfl, _⟩ | ⟨g, cap, cur, cs, fs, hv, _⟩
  · exact ⟨_, _, _, rfl⟩
  · exact ⟨_, _, _, hv⟩
theorem BoxE.form {w : World} {c : List Value} {b : BoxD} {S : Nat → Prop} (h : BoxE w c b S) : ∃ a0 n0 c0 a1 n1 c1 a2 n2 c2, c = [.slice a0 n0 c0, .int .i64 b.valid, .int .i64 b.next, .int .i64 b.seq, .slice a1 n1 c1, .slice a2 n2 c2, .int .i64 b.lost] := by
  obtain ⟨u0, u1, u2, S0, S1, S2, rfl, h0, h1, h2, -⟩ := h
  obtain ⟨a0, n0, c0, rfl⟩ := h0.bs.form3
  obtain ⟨a1, n1, c1, rfl⟩ := h1.form3
  obtain ⟨a2, n2, c2, rfl⟩ := h2.form3
  exact ⟨_, _, _, _, _, _, _, _, _, rfl⟩
theorem one7 {a0 a1 a2 : Option Addr} {n0 n1 n2 c0 c1 c2 : Nat} {i j k m : Int} : ∀ u ∈ [Value.slice a0 n0 c0, .int .i64 i, .int .i64 j, .int .i64 k, .slice a1 n1 c1, .slice a2 n2 c2, .int .i64 m], Value.oneCell' u = true := by
  intro u hu
  simp only [List.mem_cons, List.not_mem_nil, or_false] at hu
  rcases hu with rfl | rfl | rfl | rfl | rfl | rfl | rfl <;> rfl
theorem one1 {i : Int} : ∀ u ∈ [Value.int .i64 i], Value.oneCell' u = true := by
  intro u hu
  simp only [List.mem_cons, List.not_mem_nil, or_false] at hu
  rcases hu with rfl
  rfl
theorem tabS_getA6 : (Tryd.f12.body.bind (opsAt 6)).all (fun o => tableS o 8 [0, 1, 2, 3, 4, 5, 6, 7] [3, 4, 5, 7] [6, 8] 0) = true := by kernel_rfl
theorem tabS_getA11 : (Tryd.f12.body.bind (opsAt 11)).all (fun o => tableS o 8 [0, 1, 2, 3, 4, 5, 6, 7] [3, 4, 5, 7] [6, 8] 0) = true := by kernel_rfl

set_option maxRecDepth 100000 in
set_option maxHeartbeats 4000000 in
theorem l4getAccount_c (g : Nat) (bv : Value) (l : List Int) (p : Int) (w : World) (hc : w.heap[g]? = some (.cells #[bv, .int .i64 p] 37 (0, 0))) (hb : ∀ wi, w.grownBy wi (some g) → Bs wi bv l) (hl : l.length ≤ 2000000) (hp0 : -1 ≤ p) (hp1 : p ≤ 9000000) :
    Calls Tryd.prog 12 #[.pointer (some ⟨g, 0, none⟩)] w fun e w' => ∃ u, e = .returned u ∧ AccO w' (In w.heap.size w'.heap.size) u (gAcc l p).1 ∧ w'.heap[g]? = some (.cells #[bv, .int .i64 (gAcc l p).2] 37 (0, 0)) ∧ w.grownBy w' (some g) := by
  have hlg : g < w.heap.size := lt_of_heap hc
  have HB : Hid (∀ wi, w.grownBy wi (some g) → Bs wi bv l) := hb
  obtain ⟨ba, bn, bc, rfl⟩ := (hb w (World.grownBy.refl _ _)).form3
  obtain ⟨i0, hi, hz0, hz1, hz2⟩ := info_parts infoBox
  obtain ⟨i1, hj, hy0, hy1, hy2⟩ := info_parts infoInt
  have HG0 : Hid (w.grownBy (w.alloc (.cells #[.int .i64 0, .slice none 0 0, .slice none 0 0] 26)) (some g)) := gr_alloc (World.grownBy.refl _ _)
  have HC0 : Hid ((w.alloc (.cells #[.int .i64 0, .slice none 0 0, .slice none 0 0] 26)).heap[g]? = some (.cells #[.slice ba bn bc, .int .i64 p] 37 (0, 0))) := gr_at (gr_alloc (g := w.heap.size) (World.grownBy.refl _ _)) hc (by omega)
  have HR0 : Hid ((w.alloc (.cells #[.int .i64 0, .slice none 0 0, .slice none 0 0] 26)).heap[w.heap.size]? = some (.cells #[.int .i64 0, .slice none 0 0, .slice none 0 0] 26 (0, 0))) := box_new w _
  have hsz0 : (w.alloc (.cells #[.int .i64 0, .slice none 0 0, .slice none 0 0] 26)).heap.size = w.heap.size + 1 := by simp
  clear hb hc
  go_enter Tryd.func12, Tryd.ntmps12
  go_wp2_with fail
  refine (l4get_c g _ l p _ HC0.out (HB.out _ HG0.out) hl hp0 hp1).mono ?_
  rintro e w1 ⟨rfl, HC, G⟩
  obtain ⟨bd0, hq0, hq1⟩ := gN_bd l p hl hp0 hp1
  have HG1 : Hid (w.grownBy w1 (some g)) := grownBy_trans HG0.out G
  have HR1 : Hid (w1.heap[w.heap.size]? = some (.cells #[.int .i64 0, .slice none 0 0, .slice none 0 0] 26 (0, 0))) := gr_at G HR0.out (by omega)
  have s1 : w.heap.size + 1 ≤ w1.heap.size := by have := G.size; omega
  have HC1 : Hid _ := HC
  generalize hn0 : (gN l p).1 = n0 at HC HC1 bd0
  generalize hg0 : (gN l p).2 = p0 at HC HC1 hq0 hq1
  have HP0 : Hid ((gN l p).1 = n0 ∧ (gN l p).2 = p0) := ⟨hn0, hg0⟩
  clear HC G HC0 HR0 HG0 hn0 hg0
  go_wp2_with fail
  have HX2 : Hid ((w1.alloc (.cells #[.int .i64 n0, .slice none 0 0, .slice none 0 0] 26)).heap[w1.heap.size]? = some (.cells #[.int .i64 n0, .slice none 0 0, .slice none 0 0] 26 (0, 0))) := box_new w1 _
  have HC2 : Hid ((w1.alloc (.cells #[.int .i64 n0, .slice none 0 0, .slice none 0 0] 26)).heap[g]? = some (.cells #[.slice ba bn bc, .int .i64 p0] 37 (0, 0))) := gr_at (gr_alloc (g := w1.heap.size) (World.grownBy.refl _ _)) HC1.out (by omega)
  have HG2 : Hid (w.grownBy (w1.alloc (.cells #[.int .i64 n0, .slice none 0 0, .slice none 0 0] 26)) (some g)) := gr_alloc HG1.out
  have HR2 : Hid ((w1.alloc (.cells #[.int .i64 n0, .slice none 0 0, .slice none 0 0] 26)).heap[w.heap.size]? = some (.cells #[.int .i64 0, .slice none 0 0, .slice none 0 0] 26 (0, 0))) := gr_at (gr_alloc (g := w1.heap.size) (World.grownBy.refl _ _)) HR1.out (by omega)
  have sx2 : w1.heap.size + 1 ≤ (w1.alloc (.cells #[.int .i64 n0, .slice none 0 0, .slice none 0 0] 26)).heap.size := by simp
  clear HC1 HG1 HR1
  refine (l4get_c g _ l p0 _ HC2.out (HB.out _ HG2.out) hl hq0 hq1).mono ?_
  rintro e y4 ⟨rfl, HC, G⟩
  obtain ⟨bd4, hr0, hr1⟩ := gN_bd l p0 hl hq0 hq1
  have HGy : Hid (w.grownBy y4 (some g)) := grownBy_trans HG2.out G
  have HXy : Hid (y4.heap[w1.heap.size]? = some (.cells #[.int .i64 n0, .slice none 0 0, .slice none 0 0] 26 (0, 0))) := gr_at G HX2.out (by omega)
  have HRy : Hid (y4.heap[w.heap.size]? = some (.cells #[.int .i64 0, .slice none 0 0, .slice none 0 0] 26 (0, 0))) := gr_at G HR2.out (by omega)
  have hsy : w1.heap.size + 1 ≤ y4.heap.size := by have := G.size; omega
  have HCy : Hid _ := HC
  generalize hn4 : (gN l p0).1 = n4 at HC HCy bd4
  generalize hg4 : (gN l p0).2 = q4 at HC HCy hr0 hr1
  have HM : Hid (aB l p = gMany (gBox l) (min n4.toNat 5) q4) := by show _ = _; unfold aB; rw [HP0.out.2, hn4, hg4]
  clear hq0 hq1 HC hn4 hg4 G HC2 HG2 HR2 HX2 sx2
  obtain ⟨n4', rfl⟩ : ∃ n : Nat, n4 = n := ⟨n4.toNat, by omega⟩
  rw [Int.toNat_natCast] at HM
  go_wp2
  go_loopw [5] (fun i wr => ∃ (c : Nat) (q : Int) (ms : List BoxD) (va : Option Addr) (vn vc : Nat), c ≤ 5 ∧ i = .int .i64 c ∧ -1 ≤ q ∧ q ≤ 9000000 ∧ Hid (aB l p = (ms ++ (gMany (gBox l) (min n4' 5 - c) q).1, (gMany (gBox l) (min n4' 5 - c) q).2) ∧ ms.length = c) ∧ Hid (w.grownBy wr (some g)) ∧ Hid (wr.heap[g]? = some (.cells #[.slice ba bn bc, .int .i64 q] 37 (0, 0))) ∧ Hid (wr.heap[w1.heap.size]? = some (.cells #[.int .i64 n0, .slice va vn vc, .slice none 0 0] 26 (0, 0))) ∧ Hid (wr.heap[w.heap.size]? = some (.cells #[.int .i64 0, .slice none 0 0, .slice none 0 0] 26 (0, 0))) ∧ w1.heap.size + 1 ≤ wr.heap.size ∧ Hid (BoxesR wr (w1.heap.size + 1) wr.heap.size (.slice va vn vc) ms)) (fun i _ => 5 - (intOf i).toNat)
  case atStart => exact ⟨0, q4, [], none, 0, 0, by omega, rfl, hr0, hr1, ⟨HM.out, rfl⟩, HGy, HCy, HXy, HRy, hsy, .inl ⟨rfl, rfl⟩⟩
  case round =>
    obtain ⟨c, q, ms, va, vn, vc, hc, rfl, hq0, hq1, HM1, HG, HC, HX, HR, hs, HO⟩ := hrel
    clear HM HGy HCy HXy HRy hsy hr0 hr1
    obtain ⟨c0, c1⟩ := bx2 HC.out
    by_cases hgo : c < n4' ∧ c ≤ 4 ∧ 0 ≤ q
    · obtain ⟨ha1, ha2, ha3⟩ := hgo
      have HL : Hid (aB l p = (ms ++ [(gBox l q).1] ++ (gMany (gBox l) (min n4' 5 - (c + 1)) (gBox l q).2).1, (gMany (gBox l) (min n4' 5 - (c + 1)) (gBox l q).2).2)) := many_step HM1.out.1 (by omega) ha3
      have HLn : Hid (ms.length = c) := HM1.out.2
      clear HM1
      have hd1 : decide ((c : Int) < n4') = true := by simp; omega
      have hd2 : decide ((c : Int) ≤ 4) = true := by simp; omega
      have hd3 : decide (0 ≤ q) = true := by simpa using ha3
      have DR : Below wr.heap.size wr wr.drew := (Below.refl _ _).drew
      obtain ⟨x0, x1, x2⟩ := bx3 HX.out
      have lx := lt_of_heap HX.out
      have hbx := gBox_bd l q hl hq0 hq1
      go_upto_region 6 with fail
      clear c0 c1
      refine wpS_begin 6 (S := fun w' => w'.cell? ⟨w1.heap.size, 1, none⟩ = some (.slice va vn vc)) (tabS_of (by kernel_rfl) tabS_getA6) (by kernel_rfl) (x1) (fun hTb hHeld => ?_)
      refine tks 0 0 28 hTb hHeld ?_
      refine tks 1 1 29 hTb hHeld ?_
      refine tks 2 2 30 hTb hHeld ?_
      refine cls 3 3 hTb (by decide) rfl rfl (fun K hK => ?_)
      go_simp
      refine (l4getBox_c g _ l q _ (box_below DR HC.out) (fun wi h => HB.out wi (grownBy_trans (gr_below HG.out DR) h)) hl hq0 hq1).mono ?_
      rintro e w4 ⟨u, rfl, ⟨cs, rfl, hE⟩, KC, G⟩
      have KC4 : Hid _ := KC
      generalize hX : (gBox l q).1 = X at hE HL
      generalize hY : (gBox l q).2 = Y at KC KC4 HL hbx
      clear hX hY KC
      obtain ⟨a0, k0, c0, a1, k1, c1, a2, k2, c2, rfl⟩ := hE.form
      have HE4 : Hid (BoxE w4 [.slice a0 k0 c0, .int .i64 X.valid, .int .i64 X.next, .int .i64 X.seq, .slice a1 k1 c1, .slice a2 k2 c2, .int .i64 X.lost] X (In wr.heap.size w4.heap.size)) := hE
      have G4 : wr.grownBy w4 (some g) := grownBy_trans (gr_below (World.grownBy.refl wr _) DR) G
      have HX4 : Hid (w4.heap[w1.heap.size]? = some (.cells #[.int .i64 n0, .slice va vn vc, .slice none 0 0] 26 (0, 0))) := gr_at G4 HX.out (by omega)
      have HR4 : Hid (w4.heap[w.heap.size]? = some (.cells #[.int .i64 0, .slice none 0 0, .slice none 0 0] 26 (0, 0))) := gr_at G4 HR.out (by omega)
      have HG4 : Hid (w.grownBy w4 (some g)) := grownBy_trans HG.out G4
      have HO4 : Hid (BoxesR w4 (w1.heap.size + 1) wr.heap.size (.slice va vn vc) ms) := OwR.gr HO.out G4 (.inl (by omega))
      have hs4 : wr.heap.size ≤ w4.heap.size := G4.size
      clear hE G G4 HX HR HG HO HC DR x0 x1 x2
      refine hK.out _ _ ((bx3 HX4.out).2.1) (fun hHeld => ?_)
      clear hK K
      refine cls 4 4 hTb (by decide) rfl rfl (fun K hK => ?_)
      go_simp
      have AB : Below w4.heap.size w4 (w4.alloc (.cells #[.slice a0 k0 c0, .int .i64 X.valid, .int .i64 X.next, .int .i64 X.seq, .slice a1 k1 c1, .slice a2 k2 c2, .int .i64 X.lost] 53)) := (Below.refl _ _).alloc (Nat.le_refl _) _
      refine hK.out _ _ ((bx3 (box_below AB HX4.out)).2.1) (fun hHeld => ?_)
      clear hK K
      refine cls 5 5 hTb (by decide) rfl rfl (fun K hK => ?_)
      have hMs : wr.heap.size ≤ (w4.alloc (.cells #[.slice a0 k0 c0, .int .i64 X.valid, .int .i64 X.next, .int .i64 X.seq, .slice a1 k1 c1, .slice a2 k2 c2, .int .i64 X.lost] 53)).heap.size := by simp; omega
      have HEa : BoxE (w4.alloc (.cells #[.slice a0 k0 c0, .int .i64 X.valid, .int .i64 X.next, .int .i64 X.seq, .slice a1 k1 c1, .slice a2 k2 c2, .int .i64 X.lost] 53)) [.slice a0 k0 c0, .int .i64 X.valid, .int .i64 X.next, .int .i64 X.seq, .slice a1 k1 c1, .slice a2 k2 c2, .int .i64 X.lost] X (In wr.heap.size (w4.alloc (.cells #[.slice a0 k0 c0, .int .i64 X.valid, .int .i64 X.next, .int .i64 X.seq, .slice a1 k1 c1, .slice a2 k2 c2, .int .i64 X.lost] 53)).heap.size) := BoxE.wide (framesBox _ _ _ _ _ HE4.out fun b _ hlt => AB.block b hlt) (fun x hx => ⟨hx.1, by have := hx.2; simp; omega⟩)
      have hl1 : ms.length + 1 ≤ maxLen := by have := HLn.out; unfold maxLen; omega
      have hl2 : (ms.length + 1) * 104 ≤ 140737488355328 := by have := HLn.out; omega
      refine ite_w (by kernel_rfl) (wp_push 33 rfl (.tmp 29) (.tmp 32) rfl framesBox (B := w1.heap.size + 1) (M := wr.heap.size) (OwR.below HO4.out AB) hMs hs Tryd.underlying23 hi hz0 hz1 hz2 rfl (by omega) rfl X [.slice a0 k0 c0, .int .i64 X.valid, .int .i64 X.next, .int .i64 X.seq, .slice a1 k1 c1, .slice a2 k2 c2, .int .i64 X.lost] rfl HEa ⟨w4.heap.size, 0, none⟩ 1 rfl (cells_new w4 _ _) one7 hl1 hl2 ?_)
      intro DV wz hO hgz hvz
      obtain ⟨da, dn, dc, hDV⟩ := OwR.form3 hO
      subst hDV
      have hge : ∀ j, (Value.slice va vn vc).ownBlock = some j → w1.heap.size + 1 ≤ j := fun j hj => (hvz j hj).1
      have KX := grown_at hgz hge (box_below AB HX4.out) (by omega)
      have HCz : Hid (wz.heap[g]? = _) := grown_at hgz hge (box_below AB KC4.out) (by omega)
      have HRz : Hid (wz.heap[w.heap.size]? = _) := grown_at hgz hge (box_below AB HR4.out) (by omega)
      have HGz : Hid (w.grownBy wz (some g)) := gr_push (gr_below HG4.out AB) hgz (fun j hj => by have := hge j hj; omega)
      have sz : w4.heap.size + 1 ≤ wz.heap.size := by have := hgz.size; simpa using this
      obtain ⟨zx, zl⟩ := box8z KX
      obtain ⟨d0, d1, d2⟩ := bx3 KX
      refine hK.out _ _ (d1) (fun hHeld => ?_)
      clear hK K
      refine wpS_next (S' := fun w' => True) 6 8 hTb (by decide) (trivial) (fun hHeld => ?_)
      refine tks 6 6 34 hTb hHeld ?_
      refine cls 7 7 hTb (by decide) rfl rfl (fun K hK => ?_)
      go_simp
      refine hK.out _ _ (trivial) (fun hHeld => ?_)
      clear hK K
      refine wpS_end hTb ?_
      have HX5 : Hid ((wz.setCell ⟨w1.heap.size, 1, none⟩ (.slice da dn dc)).heap[w1.heap.size]? = some (.cells #[.int .i64 n0, .slice da dn dc, .slice none 0 0] 26 (0, 0))) := box_set KX
      have HC5 : Hid ((wz.setCell ⟨w1.heap.size, 1, none⟩ (.slice da dn dc)).heap[g]? = _) := box_other HCz.out (by omega)
      have HR5 : Hid ((wz.setCell ⟨w1.heap.size, 1, none⟩ (.slice da dn dc)).heap[w.heap.size]? = _) := box_other HRz.out (by omega)
      have HG5 : Hid (w.grownBy (wz.setCell ⟨w1.heap.size, 1, none⟩ (.slice da dn dc)) (some g)) := gr_set HGz.out (by omega)
      have HO5 : Hid (BoxesR (wz.setCell ⟨w1.heap.size, 1, none⟩ (.slice da dn dc)) (w1.heap.size + 1) (wz.setCell ⟨w1.heap.size, 1, none⟩ (.slice da dn dc)).heap.size (.slice da dn dc) (ms ++ [X])) := by show BoxesR _ _ _ _ _; rw [box_size]; exact OwR.set hO (.inl (by omega))
      have hs5 : w1.heap.size + 1 ≤ (wz.setCell ⟨w1.heap.size, 1, none⟩ (.slice da dn dc)).heap.size := by rw [box_size]; omega
      have hlen5 : Hid ((ms ++ [X]).length = c + 1) := by show _ = _; simp [HLn.out]
      clear KX HCz HRz HGz HX4 KC4 HR4 HG4 HO4 HE4 HEa hO hgz hvz hge AB hl1 hl2 HLn
      go_wp2
      go_roundw
      case rel => exact ⟨c + 1, Y, _, da, dn, dc, by omega, by go_num, hbx.1, hbx.2, ⟨HL.out, hlen5.out⟩, HG5, HC5, HX5, HR5, hs5, HO5⟩
      case measure => simp [intOf]; omega
    · have HME : Hid (aB l p = (ms, q)) := many_end HM1.out.1 (by omega)
      clear HM1
      go_upto_region 4 with fail
      go_cut [25] (fun s wx => s = .bool false ∧ wx = wr)
      case first =>
        by_cases h1 : c < n4'
        · by_cases h2 : c ≤ 4
          · have h3 : q < 0 := by omega
            have hd1 : decide ((c : Int) < n4') = true := by simp; omega
            have hd2 : decide ((c : Int) ≤ 4) = true := by simp; omega
            have hd3 : decide (0 ≤ q) = false := by simp; omega
            go_wp2
            go_meet
            case rel => exact ⟨rfl, rfl⟩
          · have hd1 : decide ((c : Int) < n4') = true := by simp; omega
            have hd2 : decide ((c : Int) ≤ 4) = false := by simp; omega
            go_wp2
            go_meet
            case rel => exact ⟨rfl, rfl⟩
        · have hd1 : decide ((c : Int) < n4') = false := by simp; omega
          go_wp2
          go_meet
          case rel => exact ⟨rfl, rfl⟩
      case rest =>
        obtain ⟨rfl, rfl⟩ := hcut
        clear hgo c0 c1
        go_wp2_with fail
        refine (l4get_c g _ l q _ HC.out (HB.out _ HG.out) hl hq0 hq1).mono ?_
        rintro e z0 ⟨rfl, KC, G⟩
        obtain ⟨be0, hr0, hr1⟩ := gN_bd l q hl hq0 hq1
        have HG1 : Hid (w.grownBy z0 (some g)) := grownBy_trans HG.out G
        have HX1 : Hid (z0.heap[w1.heap.size]? = some (.cells #[.int .i64 n0, .slice va vn vc, .slice none 0 0] 26 (0, 0))) := gr_at G HX.out (by omega)
        have HR1 : Hid (z0.heap[w.heap.size]? = some (.cells #[.int .i64 0, .slice none 0 0, .slice none 0 0] 26 (0, 0))) := gr_at G HR.out (by omega)
        have HO1 : Hid (BoxesR z0 (w1.heap.size + 1) z0.heap.size (.slice va vn vc) ms) := OwR.wide (OwR.gr HO.out G (.inl (by omega))) (Nat.le_refl _) G.size
        have hs1 : w1.heap.size + 1 ≤ z0.heap.size := by have := G.size; omega
        have KC1 : Hid _ := KC
        generalize hn5 : (gN l q).1 = n5 at KC KC1 be0
        generalize hg5 : (gN l q).2 = q5 at KC KC1 hr0 hr1
        have HM5 : Hid (aS l p = gMany (gN l) (min n5.toNat 61) q5) := by show _ = _; unfold aS; rw [HME.out]; rw [hn5, hg5]
        clear KC hn5 hg5 G HC HG HR HX HO
        obtain ⟨n5', rfl⟩ : ∃ n : Nat, n5 = n := ⟨n5.toNat, by omega⟩
        rw [Int.toNat_natCast] at HM5
        go_wp2
        go_loopw [6] (fun i wr => ∃ (c : Nat) (q : Int) (gs : List Int) (ga : Option Addr) (gn gc : Nat), c ≤ 61 ∧ i = .int .i64 c ∧ -1 ≤ q ∧ q ≤ 9000000 ∧ Hid (aS l p = (gs ++ (gMany (gN l) (min n5' 61 - c) q).1, (gMany (gN l) (min n5' 61 - c) q).2) ∧ gs.length = c) ∧ Hid (w.grownBy wr (some g)) ∧ Hid (wr.heap[g]? = some (.cells #[.slice ba bn bc, .int .i64 q] 37 (0, 0))) ∧ Hid (wr.heap[w1.heap.size]? = some (.cells #[.int .i64 n0, .slice va vn vc, .slice ga gn gc] 26 (0, 0))) ∧ Hid (wr.heap[w.heap.size]? = some (.cells #[.int .i64 0, .slice none 0 0, .slice none 0 0] 26 (0, 0))) ∧ z0.heap.size ≤ wr.heap.size ∧ Hid (BoxesR wr (w1.heap.size + 1) z0.heap.size (.slice va vn vc) ms) ∧ Hid (IntsR wr z0.heap.size wr.heap.size (.slice ga gn gc) gs)) (fun i _ => 61 - (intOf i).toNat)
        case atStart => exact ⟨0, q5, [], none, 0, 0, by omega, rfl, hr0, hr1, ⟨HM5.out, rfl⟩, HG1, KC1, HX1, HR1, Nat.le_refl _, HO1, .inl ⟨rfl, rfl⟩⟩
        case round =>
          obtain ⟨c, q, gs, ga, gn, gc, hc, rfl, hq0, hq1, HM1, HG, HC, HX, HR, hs, HO, HP⟩ := hrel
          clear HM5 HG1 KC1 HX1 HR1 HO1 hr0 hr1
          obtain ⟨c0, c1⟩ := bx2 HC.out
          by_cases hgo : c < n5' ∧ c ≤ 60 ∧ 0 ≤ q
          · obtain ⟨ha1, ha2, ha3⟩ := hgo
            have HL : Hid (aS l p = (gs ++ [(gN l q).1] ++ (gMany (gN l) (min n5' 61 - (c + 1)) (gN l q).2).1, (gMany (gN l) (min n5' 61 - (c + 1)) (gN l q).2).2)) := many_step HM1.out.1 (by omega) ha3
            have HLn : Hid (gs.length = c) := HM1.out.2
            clear HM1
            have hd1 : decide ((c : Int) < n5') = true := by simp; omega
            have hd2 : decide ((c : Int) ≤ 60) = true := by simp; omega
            have hd3 : decide (0 ≤ q) = true := by simpa using ha3
            have DR : Below wr.heap.size wr wr.drew := (Below.refl _ _).drew
            obtain ⟨x0, x1, x2⟩ := bx3 HX.out
            have lx := lt_of_heap HX.out
            obtain ⟨hbi, hbx⟩ := gN_bd l q hl hq0 hq1
            go_upto_region 11 with fail
            clear c0 c1
            refine wpS_begin 6 (S := fun w' => w'.cell? ⟨w1.heap.size, 2, none⟩ = some (.slice ga gn gc)) (tabS_of (by kernel_rfl) tabS_getA11) (by kernel_rfl) (x2) (fun hTb hHeld => ?_)
            refine tks 0 0 53 hTb hHeld ?_
            refine tks 1 1 54 hTb hHeld ?_
            refine tks 2 2 55 hTb hHeld ?_
            refine cls 3 3 hTb (by decide) rfl rfl (fun K hK => ?_)
            go_simp
            refine (l4get_c g _ l q _ (box_below DR HC.out) (HB.out _ (gr_below HG.out DR)) hl hq0 hq1).mono ?_
            rintro e w4 ⟨rfl, KC, G⟩
            have KC4 : Hid _ := KC
            generalize hX : (gN l q).1 = X at KC HL hbi
            generalize hY : (gN l q).2 = Y at KC KC4 HL hbx
            clear hX hY KC
            have G4 : wr.grownBy w4 (some g) := grownBy_trans (gr_below (World.grownBy.refl wr _) DR) G
            have HX4 : Hid (w4.heap[w1.heap.size]? = some (.cells #[.int .i64 n0, .slice va vn vc, .slice ga gn gc] 26 (0, 0))) := gr_at G4 HX.out (by omega)
            have HR4 : Hid (w4.heap[w.heap.size]? = some (.cells #[.int .i64 0, .slice none 0 0, .slice none 0 0] 26 (0, 0))) := gr_at G4 HR.out (by omega)
            have HG4 : Hid (w.grownBy w4 (some g)) := grownBy_trans HG.out G4
            have HO4 : Hid (BoxesR w4 (w1.heap.size + 1) z0.heap.size (.slice va vn vc) ms) := OwR.gr HO.out G4 (.inl (by omega))
            have HP4 : Hid (IntsR w4 z0.heap.size wr.heap.size (.slice ga gn gc) gs) := OwR.gr HP.out G4 (.inl (by omega))
            have hs4 : wr.heap.size ≤ w4.heap.size := G4.size
            clear G G4 HX HR HG HO HP HC DR x0 x1 x2
            refine hK.out _ _ ((bx3 HX4.out).2.2) (fun hHeld => ?_)
            clear hK K
            refine cls 4 4 hTb (by decide) rfl rfl (fun K hK => ?_)
            go_simp
            have AB : Below w4.heap.size w4 (w4.alloc (.cells #[.int .i64 X] 3)) := (Below.refl _ _).alloc (Nat.le_refl _) _
            refine hK.out _ _ ((bx3 (box_below AB HX4.out)).2.2) (fun hHeld => ?_)
            clear hK K
            refine cls 5 5 hTb (by decide) rfl rfl (fun K hK => ?_)
            have hMs : wr.heap.size ≤ (w4.alloc (.cells #[.int .i64 X] 3)).heap.size := by simp; omega
            have HEa : IntE (w4.alloc (.cells #[.int .i64 X] 3)) [.int .i64 X] X (In wr.heap.size (w4.alloc (.cells #[.int .i64 X] 3)).heap.size) := ⟨rfl, i64_of hbi⟩
            have hl1 : gs.length + 1 ≤ maxLen := by have := HLn.out; unfold maxLen; omega
            have hl2 : (gs.length + 1) * 8 ≤ 140737488355328 := by have := HLn.out; omega
            refine ite_w (by kernel_rfl) (wp_push 58 rfl (.tmp 54) (.tmp 57) rfl framesInt (B := z0.heap.size) (M := wr.heap.size) (OwR.below HP4.out AB) hMs hs Tryd.underlying24 hj hy0 hy1 hy2 rfl (by omega) rfl X [.int .i64 X] rfl HEa ⟨w4.heap.size, 0, none⟩ 1 rfl (cells_new w4 _ _) one1 hl1 hl2 ?_)
            intro DV wz hO hgz hvz
            obtain ⟨da, dn, dc, hDV⟩ := OwR.form3 hO
            subst hDV
            have hge : ∀ j, (Value.slice ga gn gc).ownBlock = some j → z0.heap.size ≤ j := fun j hj => (hvz j hj).1
            have KX := grown_at hgz hge (box_below AB HX4.out) (by omega)
            have HCz : Hid (wz.heap[g]? = _) := grown_at hgz hge (box_below AB KC4.out) (by omega)
            have HRz : Hid (wz.heap[w.heap.size]? = _) := grown_at hgz hge (box_below AB HR4.out) (by omega)
            have HGz : Hid (w.grownBy wz (some g)) := gr_push (gr_below HG4.out AB) hgz (fun j hj => by have := hge j hj; omega)
            have HOz : Hid (BoxesR wz (w1.heap.size + 1) z0.heap.size (.slice va vn vc) ms) := OwR.gr' (OwR.below HO4.out AB) hgz (fun j hj => by have := hge j hj; omega)
            have sz : w4.heap.size + 1 ≤ wz.heap.size := by have := hgz.size; simpa using this
            obtain ⟨zx, zl⟩ := box8z KX
            obtain ⟨d0, d1, d2⟩ := bx3 KX
            refine hK.out _ _ (d2) (fun hHeld => ?_)
            clear hK K
            refine wpS_next (S' := fun w' => True) 6 8 hTb (by decide) (trivial) (fun hHeld => ?_)
            refine tks 6 6 59 hTb hHeld ?_
            refine cls 7 7 hTb (by decide) rfl rfl (fun K hK => ?_)
            go_simp
            refine hK.out _ _ (trivial) (fun hHeld => ?_)
            clear hK K
            refine wpS_end hTb ?_
            have HX5 : Hid ((wz.setCell ⟨w1.heap.size, 2, none⟩ (.slice da dn dc)).heap[w1.heap.size]? = some (.cells #[.int .i64 n0, .slice va vn vc, .slice da dn dc] 26 (0, 0))) := box_set KX
            have HC5 : Hid ((wz.setCell ⟨w1.heap.size, 2, none⟩ (.slice da dn dc)).heap[g]? = _) := box_other HCz.out (by omega)
            have HR5 : Hid ((wz.setCell ⟨w1.heap.size, 2, none⟩ (.slice da dn dc)).heap[w.heap.size]? = _) := box_other HRz.out (by omega)
            have HG5 : Hid (w.grownBy (wz.setCell ⟨w1.heap.size, 2, none⟩ (.slice da dn dc)) (some g)) := gr_set HGz.out (by omega)
            have HO5 : Hid (BoxesR (wz.setCell ⟨w1.heap.size, 2, none⟩ (.slice da dn dc)) (w1.heap.size + 1) z0.heap.size (.slice va vn vc) ms) := OwR.set HOz.out (.inl (by omega))
            have HP5 : Hid (IntsR (wz.setCell ⟨w1.heap.size, 2, none⟩ (.slice da dn dc)) z0.heap.size (wz.setCell ⟨w1.heap.size, 2, none⟩ (.slice da dn dc)).heap.size (.slice da dn dc) (gs ++ [X])) := by show IntsR _ _ _ _ _; rw [box_size]; exact OwR.set hO (.inl (by omega))
            have hs5 : z0.heap.size ≤ (wz.setCell ⟨w1.heap.size, 2, none⟩ (.slice da dn dc)).heap.size := by rw [box_size]; omega
            have hlen5 : Hid ((gs ++ [X]).length = c + 1) := by show _ = _; simp [HLn.out]
            clear KX HCz HRz HGz HOz HX4 KC4 HR4 HG4 HO4 HP4 HEa hO hgz hvz hge AB hl1 hl2 HLn
            go_wp2
            go_roundw
            case rel => exact ⟨c + 1, Y, _, da, dn, dc, by omega, by go_num, hbx.1, hbx.2, ⟨HL.out, hlen5.out⟩, HG5, HC5, HX5, HR5, hs5, HO5, HP5⟩
            case measure => simp [intOf]; omega
          · have HME2 : Hid (aS l p = (gs, q)) := many_end HM1.out.1 (by omega)
            clear HM1
            go_upto_region 9 with fail
            go_cut [50] (fun s wx => s = .bool false ∧ wx = wr)
            case first =>
              by_cases h1 : c < n5'
              · by_cases h2 : c ≤ 60
                · have h3 : q < 0 := by omega
                  have hd1 : decide ((c : Int) < n5') = true := by simp; omega
                  have hd2 : decide ((c : Int) ≤ 60) = true := by simp; omega
                  have hd3 : decide (0 ≤ q) = false := by simp; omega
                  go_wp2
                  go_meet
                  case rel => exact ⟨rfl, rfl⟩
                · have hd1 : decide ((c : Int) < n5') = true := by simp; omega
                  have hd2 : decide ((c : Int) ≤ 60) = false := by simp; omega
                  go_wp2
                  go_meet
                  case rel => exact ⟨rfl, rfl⟩
              · have hd1 : decide ((c : Int) < n5') = false := by simp; omega
                go_wp2
                go_meet
                case rel => exact ⟨rfl, rfl⟩
            case rest =>
              obtain ⟨rfl, rfl⟩ := hcut
              clear hgo c0 c1
              obtain ⟨d0, d1, d2⟩ := bx3 HX.out
              obtain ⟨r0, r1, r2⟩ := bx3 HR.out
              obtain ⟨rz, rl⟩ := box8z HR.out
              have lx := lt_of_heap HX.out
              have HCf : Hid ((((wc.setCell ⟨w.heap.size, 0, none⟩ (.int .i64 n0)).setCell ⟨w.heap.size, 1, none⟩ (.slice va vn vc)).setCell ⟨w.heap.size, 2, none⟩ (.slice ga gn gc)).heap[g]? = _) := (box_other (k := w.heap.size) (i := 2) (v := .slice ga gn gc) (box_other (k := w.heap.size) (i := 1) (v := .slice va vn vc) (box_other (k := w.heap.size) (i := 0) (v := .int .i64 n0) HC.out (by omega)) (by omega)) (by omega))
              have HGf : Hid (w.grownBy (((wc.setCell ⟨w.heap.size, 0, none⟩ (.int .i64 n0)).setCell ⟨w.heap.size, 1, none⟩ (.slice va vn vc)).setCell ⟨w.heap.size, 2, none⟩ (.slice ga gn gc)) (some g)) := (gr_set (b := w.heap.size) (j := 2) (u := .slice ga gn gc) (gr_set (b := w.heap.size) (j := 1) (u := .slice va vn vc) (gr_set (b := w.heap.size) (j := 0) (u := .int .i64 n0) HG.out (Nat.le_refl _)) (Nat.le_refl _)) (Nat.le_refl _))
              have HOf : Hid (BoxesR (((wc.setCell ⟨w.heap.size, 0, none⟩ (.int .i64 n0)).setCell ⟨w.heap.size, 1, none⟩ (.slice va vn vc)).setCell ⟨w.heap.size, 2, none⟩ (.slice ga gn gc)) (w1.heap.size + 1) z0.heap.size (.slice va vn vc) ms) := (OwR.set (i := 2) (x := .slice ga gn gc) (OwR.set (i := 1) (x := .slice va vn vc) (OwR.set (i := 0) (x := .int .i64 n0) HO.out (.inl (by omega))) (.inl (by omega))) (.inl (by omega)))
              have HPf : Hid (IntsR (((wc.setCell ⟨w.heap.size, 0, none⟩ (.int .i64 n0)).setCell ⟨w.heap.size, 1, none⟩ (.slice va vn vc)).setCell ⟨w.heap.size, 2, none⟩ (.slice ga gn gc)) z0.heap.size wc.heap.size (.slice ga gn gc) gs) := (OwR.set (i := 2) (x := .slice ga gn gc) (OwR.set (i := 1) (x := .slice va vn vc) (OwR.set (i := 0) (x := .int .i64 n0) HP.out (.inl (by omega))) (.inl (by omega))) (.inl (by omega)))
              have KF := (box_set (i := 2) (v := .slice ga gn gc) (box_set (i := 1) (v := .slice va vn vc) (box_set (i := 0) (v := .int .i64 n0) HR.out)))
              obtain ⟨f0, f1, f2⟩ := bx3 KF
              have hszf : Hid ((((wc.setCell ⟨w.heap.size, 0, none⟩ (.int .i64 n0)).setCell ⟨w.heap.size, 1, none⟩ (.slice va vn vc)).setCell ⟨w.heap.size, 2, none⟩ (.slice ga gn gc)).heap.size = wc.heap.size) := by show _ = _; simp only [box_size]
              have HBX : Hid ((gAcc l p).1 = ⟨n0, ms, gs⟩ ∧ (gAcc l p).2 = q) := by unfold gAcc; rw [HP0.out.1, HME.out, HME2.out]; exact ⟨rfl, rfl⟩
              clear KF HC HG HO HP HR HX
              go_wp2
              refine bodyPost_ret (v := .agg #[.int .i64 n0, .slice va vn vc, .slice ga gn gc]) (by simp [results, Tryd.results12, go_sem, f0, f1, f2]) rfl ⟨_, rfl, ?_, ?_, HGf.out⟩
              · rw [HBX.out.1]
                exact ⟨_, _, In (w1.heap.size + 1) z0.heap.size, In z0.heap.size wc.heap.size, rfl, HOf.out, HPf.out, (fun x hx => ⟨⟨by have := hx.1; omega, by have := hx.2; rw [hszf.out]; omega⟩, fun h => by have := hx.2; have := h.1; omega⟩), (fun x hx => ⟨by have := hx.1; omega, by have := hx.2; rw [hszf.out]; omega⟩), i64_of bd0⟩
              · rw [HBX.out.2]
                exact HCf.out

end Go.Proofs.YthnlbhmecokomaaDoor

/- What (*byteReader).account of package impl does: an account is read, or it gives up. -/
namespace Go.Proofs.YthnlbhmecokomaaDoor
open Go.RowKit
set_option maxRecDepth 100000
set_option linter.unusedVariables false
set_option linter.unusedSimpArgs false

theorem tabS_rdA4 : (Tryd.f16.body.bind (opsAt 4)).all (fun o => tableS o 8 [0, 1, 2, 3, 4, 5, 6, 7] [3, 4, 5, 7] [6, 8] 0) = true := by kernel_rfl
theorem tabS_rdA8 : (Tryd.f16.body.bind (opsAt 8)).all (fun o => tableS o 8 [0, 1, 2, 3, 4, 5, 6, 7] [3, 4, 5, 7] [6, 8] 0) = true := by kernel_rfl
theorem iBox_bd {l : List Int} {p : Int} {r : BoxD × Int} (hl : l.length ≤ 2000000) (ho : Oct l) (h0 : 0 ≤ p) (h : iBox l p = some r) : 0 ≤ r.2 ∧ r.2 ≤ 9000000 := by
  have := wrt_box ho p r h0 h
  exact ⟨this.2, by have := this.1.2.1; omega⟩

set_option maxRecDepth 100000 in
set_option maxHeartbeats 8000000 in
theorem account_c (g : Nat) (bv : Value) (l : List Int) (p : Int) (ea : Addr) (w : World) (hc : w.heap[g]? = some (.cells #[bv, .int .i64 p] 43 (0, 0))) (hb : ∀ wi, w.grownBy wi (some g) → Bs wi bv l) (hE : Gave w ea) (hne : g ≠ 0) (hl : l.length ≤ 2000000) (hp0 : 0 ≤ p) (hp1 : p ≤ 9000000) :
    Calls Tryd.prog 16 #[.pointer (some ⟨g, 0, none⟩)] w fun e w' => ((∃ r u, iAcc l p = some r ∧ e = .returned u ∧ AccO w' (In w.heap.size w'.heap.size) u r.1 ∧ w'.heap[g]? = some (.cells #[bv, .int .i64 r.2] 43 (0, 0))) ∨ (iAcc l p = none ∧ e = gaveUp ea)) ∧ w.grownBy w' (some g) := by
  have hlg : g < w.heap.size := lt_of_heap hc
  have HOC : Hid (Oct l) := (hb w (World.grownBy.refl _ _)).1
  have HB : Hid (∀ wi, w.grownBy wi (some g) → Bs wi bv l) := hb
  have HE : Hid (Gave w ea) := hE
  obtain ⟨ba, bn, bc, rfl⟩ := (hb w (World.grownBy.refl _ _)).form3
  obtain ⟨i0, hi, hz0, hz1, hz2⟩ := info_parts infoBox
  obtain ⟨i1, hj, hy0, hy1, hy2⟩ := info_parts infoInt
  have HI0 : Hid (iAcc l p = (iN l p).bind fun a => (iC l 4 a.2).bind fun b => (iMany (iBox l) b.1.toNat b.2).bind fun c => (iC l 60 c.2).bind fun d => (iMany (iN l) d.1.toNat d.2).bind fun e => some (⟨a.1, c.1, e.1⟩, e.2)) := rfl
  have HG0 : Hid (w.grownBy (w.alloc (.cells #[.int .i64 0, .slice none 0 0, .slice none 0 0] 26)) (some g)) := gr_alloc (World.grownBy.refl _ _)
  have HC0 : Hid ((w.alloc (.cells #[.int .i64 0, .slice none 0 0, .slice none 0 0] 26)).heap[g]? = some (.cells #[.slice ba bn bc, .int .i64 p] 43 (0, 0))) := gr_at (gr_alloc (g := w.heap.size) (World.grownBy.refl _ _)) hc (by omega)
  have HR0 : Hid ((w.alloc (.cells #[.int .i64 0, .slice none 0 0, .slice none 0 0] 26)).heap[w.heap.size]? = some (.cells #[.int .i64 0, .slice none 0 0, .slice none 0 0] 26 (0, 0))) := box_new w _
  have hsz0 : (w.alloc (.cells #[.int .i64 0, .slice none 0 0, .slice none 0 0] 26)).heap.size = w.heap.size + 1 := by simp
  clear hb hc hE
  go_enter Tryd.func16, Tryd.ntmps16
  go_wp2_with fail
  refine (num_c g _ l p ea _ HC0.out (fun wi h => HB.out wi (grownBy_trans (HG0.out) h)) (HE.out.gr (HG0.out) hne) hl hp0 hp1).mono ?_
  rintro e y0 ⟨hh, G⟩
  rcases hh with ⟨ry0, hr, rfl, KC⟩ | ⟨hr, rfl⟩
  rotate_left
  · have HNO : Hid (iAcc l p = none) := by show _ = _; rw [HI0.out, hr]; rfl
    have HGN : Hid (w.grownBy y0 (some g)) := grownBy_trans (HG0.out) G
    clear hr
    go_wp2
    exact ⟨rfl, .inr ⟨HNO.out, rfl⟩, HGN.out⟩
  obtain ⟨n0, p0⟩ := ry0
  have HY0 : Hid (iAcc l p = (iC l 4 p0).bind fun b => (iMany (iBox l) b.1.toNat b.2).bind fun c => (iC l 60 c.2).bind fun d => (iMany (iN l) d.1.toNat d.2).bind fun e => some (⟨n0, c.1, e.1⟩, e.2)) := by show _ = _; rw [HI0.out, hr]; rfl
  obtain ⟨bd0, hq0, hq1⟩ := iN_bd hl hr
  have HG1 : Hid (w.grownBy y0 (some g)) := grownBy_trans HG0.out G
  have HC1 : Hid (y0.heap[g]? = some (.cells #[.slice ba bn bc, .int .i64 p0] 43 (0, 0))) := KC
  have HR1 : Hid (y0.heap[w.heap.size]? = some (.cells #[.int .i64 0, .slice none 0 0, .slice none 0 0] 26 (0, 0))) := gr_at G HR0.out (by omega)
  have s1 : w.heap.size + 1 ≤ y0.heap.size := by have := G.size; omega
  clear hr KC G HI0 HG0 HC0 HR0
  go_wp2_with fail
  have HX6 : Hid ((y0.alloc (.cells #[.int .i64 n0, .slice none 0 0, .slice none 0 0] 26)).heap[y0.heap.size]? = some (.cells #[.int .i64 n0, .slice none 0 0, .slice none 0 0] 26 (0, 0))) := box_new y0 _
  have HC6 : Hid ((y0.alloc (.cells #[.int .i64 n0, .slice none 0 0, .slice none 0 0] 26)).heap[g]? = some (.cells #[.slice ba bn bc, .int .i64 p0] 43 (0, 0))) := gr_at (gr_alloc (g := y0.heap.size) (World.grownBy.refl _ _)) HC1.out (by omega)
  have HG6 : Hid (w.grownBy (y0.alloc (.cells #[.int .i64 n0, .slice none 0 0, .slice none 0 0] 26)) (some g)) := gr_alloc HG1.out
  have HR6 : Hid ((y0.alloc (.cells #[.int .i64 n0, .slice none 0 0, .slice none 0 0] 26)).heap[w.heap.size]? = some (.cells #[.int .i64 0, .slice none 0 0, .slice none 0 0] 26 (0, 0))) := gr_at (gr_alloc (g := y0.heap.size) (World.grownBy.refl _ _)) HR1.out (by omega)
  have sx6 : y0.heap.size + 1 ≤ (y0.alloc (.cells #[.int .i64 n0, .slice none 0 0, .slice none 0 0] 26)).heap.size := by simp
  clear HC1 HG1 HR1
  refine (count_c g _ l p0 4 ea _ HC6.out (fun wi h => HB.out wi (grownBy_trans (HG6.out) h)) (HE.out.gr (HG6.out) hne) hne hl hq0 hq1 (by omega) (by omega)).mono ?_
  rintro e y5 ⟨hh, G⟩
  rcases hh with ⟨ry5, hr, rfl, KC⟩ | ⟨hr, rfl⟩
  rotate_left
  · have HNO : Hid (iAcc l p = none) := by show _ = _; rw [HY0.out, hr]; rfl
    have HGN : Hid (w.grownBy y5 (some g)) := grownBy_trans (HG6.out) G
    clear hr
    go_wp2
    exact ⟨rfl, .inr ⟨HNO.out, rfl⟩, HGN.out⟩
  obtain ⟨n5, p5⟩ := ry5
  clear hq0 hq1
  obtain ⟨bd5, hq0, hq1⟩ := iC_bd hl hr
  have HM : Hid (iAcc l p = (iMany (iBox l) n5.toNat p5).bind (fun c : List BoxD × Int => (iC l 60 c.2).bind fun d => (iMany (iN l) d.1.toNat d.2).bind fun e => some ((⟨n0, c.1, e.1⟩ : AccD), e.2))) := by show _ = _; rw [HY0.out, hr]; rfl
  have HGy : Hid (w.grownBy y5 (some g)) := grownBy_trans HG6.out G
  have HCy : Hid (y5.heap[g]? = some (.cells #[.slice ba bn bc, .int .i64 p5] 43 (0, 0))) := KC
  have HRy : Hid (y5.heap[w.heap.size]? = some (.cells #[.int .i64 0, .slice none 0 0, .slice none 0 0] 26 (0, 0))) := gr_at G HR6.out (by omega)
  have HXy : Hid (y5.heap[y0.heap.size]? = some (.cells #[.int .i64 n0, .slice none 0 0, .slice none 0 0] 26 (0, 0))) := gr_at G HX6.out (by omega)
  have hsy : y0.heap.size + 1 ≤ y5.heap.size := by have := G.size; omega
  clear hr KC G HY0 HG6 HC6 HR6 HX6 sx6
  obtain ⟨n5', rfl⟩ : ∃ n : Nat, n5 = n := ⟨n5.toNat, by omega⟩
  rw [Int.toNat_natCast] at HM
  go_wp2
  go_loopw [9] (fun i wr => ∃ (c : Nat) (q : Int) (ms : List BoxD) (va : Option Addr) (vn vc : Nat), c ≤ n5' ∧ i = .int .i64 c ∧ 0 ≤ q ∧ q ≤ 9000000 ∧ Hid (iAcc l p = (iMany (iBox l) (n5' - c) q).bind (fun r => (fun c : List BoxD × Int => (iC l 60 c.2).bind fun d => (iMany (iN l) d.1.toNat d.2).bind fun e => some ((⟨n0, c.1, e.1⟩ : AccD), e.2)) (ms ++ r.1, r.2)) ∧ ms.length = c) ∧ Hid (w.grownBy wr (some g)) ∧ Hid (wr.heap[g]? = some (.cells #[.slice ba bn bc, .int .i64 q] 43 (0, 0))) ∧ Hid (wr.heap[y0.heap.size]? = some (.cells #[.int .i64 n0, .slice va vn vc, .slice none 0 0] 26 (0, 0))) ∧ Hid (wr.heap[w.heap.size]? = some (.cells #[.int .i64 0, .slice none 0 0, .slice none 0 0] 26 (0, 0))) ∧ y0.heap.size + 1 ≤ wr.heap.size ∧ Hid (BoxesR wr (y0.heap.size + 1) wr.heap.size (.slice va vn vc) ms)) (fun i _ => n5' - (intOf i).toNat)
  case atStart => exact ⟨0, p5, [], none, 0, 0, Nat.zero_le _, rfl, hq0, hq1, ⟨manyI_start (g := iBox l) (F := (fun c : List BoxD × Int => (iC l 60 c.2).bind fun d => (iMany (iN l) d.1.toNat d.2).bind fun e => some ((⟨n0, c.1, e.1⟩ : AccD), e.2))) HM.out, rfl⟩, HGy, HCy, HXy, HRy, hsy, .inl ⟨rfl, rfl⟩⟩
  case round =>
    obtain ⟨c, q, ms, va, vn, vc, hc, rfl, hq0, hq1, HM1, HG, HC, HX, HR, hs, HO⟩ := hrel
    clear HM HGy HCy HXy HRy hsy
    by_cases hgo : c < n5'
    · have DR : Below wr.heap.size wr wr.drew := (Below.refl _ _).drew
      obtain ⟨x0, x1, x2⟩ := bx3 HX.out
      have lx := lt_of_heap HX.out
      have HLn : Hid (ms.length = c) := HM1.out.2
      go_upto_region 4 with fail
      refine wpS_begin 6 (S := fun w' => w'.cell? ⟨y0.heap.size, 1, none⟩ = some (.slice va vn vc)) (tabS_of (by kernel_rfl) tabS_rdA4) (by kernel_rfl) (x1) (fun hTb hHeld => ?_)
      refine tks 0 0 11 hTb hHeld ?_
      refine tks 1 1 12 hTb hHeld ?_
      refine tks 2 2 13 hTb hHeld ?_
      refine cls 3 3 hTb (by decide) rfl rfl (fun K hK => ?_)
      go_simp
      refine (box_c g _ l q ea _ (box_below DR HC.out) (fun wi h => HB.out wi (grownBy_trans (gr_below HG.out DR) h)) (HE.out.gr (gr_below HG.out DR) hne) hne hl hq0 hq1).mono ?_
      rintro e w4 ⟨hh, G⟩
      rcases hh with ⟨rw4, uw4, hr, rfl, Rw4, KC⟩ | ⟨hr, rfl⟩
      rotate_left
      · have HNO : Hid (iAcc l p = none) := manyI_none (g := iBox l) (F := (fun c : List BoxD × Int => (iC l 60 c.2).bind fun d => (iMany (iN l) d.1.toNat d.2).bind fun e => some ((⟨n0, c.1, e.1⟩ : AccD), e.2))) HM1.out.1 hgo hr
        have HGN : Hid (w.grownBy w4 (some g)) := grownBy_trans (gr_below HG.out DR) G
        clear hr
        go_wp2
        exact ⟨rfl, .inr ⟨HNO.out, rfl⟩, HGN.out⟩
      obtain ⟨X, Y⟩ := rw4
      obtain ⟨cs, hcs, hEb⟩ := Rw4
      subst hcs
      obtain ⟨a0, k0, c0, a1, k1, c1, a2, k2, c2, rfl⟩ := hEb.form
      have hbx := iBox_bd hl HOC.out hq0 hr
      have HXY : Hid (iBox l q = some (X, Y)) := hr
      have HE4 : Hid (BoxE w4 [.slice a0 k0 c0, .int .i64 X.valid, .int .i64 X.next, .int .i64 X.seq, .slice a1 k1 c1, .slice a2 k2 c2, .int .i64 X.lost] X (In wr.heap.size w4.heap.size)) := hEb
      have G4 : wr.grownBy w4 (some g) := grownBy_trans (gr_below (World.grownBy.refl wr _) DR) G
      have KC4 : Hid (w4.heap[g]? = some (.cells #[.slice ba bn bc, .int .i64 Y] 43 (0, 0))) := KC
      have HX4 : Hid (w4.heap[y0.heap.size]? = some (.cells #[.int .i64 n0, .slice va vn vc, .slice none 0 0] 26 (0, 0))) := gr_at G4 HX.out (by omega)
      have HR4 : Hid (w4.heap[w.heap.size]? = some (.cells #[.int .i64 0, .slice none 0 0, .slice none 0 0] 26 (0, 0))) := gr_at G4 HR.out (by omega)
      have HG4 : Hid (w.grownBy w4 (some g)) := grownBy_trans HG.out G4
      have HO4 : Hid (BoxesR w4 (y0.heap.size + 1) wr.heap.size (.slice va vn vc) ms) := OwR.gr HO.out G4 (.inl (by omega))
      have hs4 : wr.heap.size ≤ w4.heap.size := G4.size
      clear hr KC hEb G G4 HX HR HG HO HC DR x0 x1 x2
      refine hK.out _ _ ((bx3 HX4.out).2.1) (fun hHeld => ?_)
      clear hK K
      refine cls 4 4 hTb (by decide) rfl rfl (fun K hK => ?_)
      go_simp
      have AB : Below w4.heap.size w4 (w4.alloc (.cells #[.slice a0 k0 c0, .int .i64 X.valid, .int .i64 X.next, .int .i64 X.seq, .slice a1 k1 c1, .slice a2 k2 c2, .int .i64 X.lost] 53)) := (Below.refl _ _).alloc (Nat.le_refl _) _
      refine hK.out _ _ ((bx3 (box_below AB HX4.out)).2.1) (fun hHeld => ?_)
      clear hK K
      refine cls 5 5 hTb (by decide) rfl rfl (fun K hK => ?_)
      have hMs : wr.heap.size ≤ (w4.alloc (.cells #[.slice a0 k0 c0, .int .i64 X.valid, .int .i64 X.next, .int .i64 X.seq, .slice a1 k1 c1, .slice a2 k2 c2, .int .i64 X.lost] 53)).heap.size := by simp; omega
      have HEa : BoxE (w4.alloc (.cells #[.slice a0 k0 c0, .int .i64 X.valid, .int .i64 X.next, .int .i64 X.seq, .slice a1 k1 c1, .slice a2 k2 c2, .int .i64 X.lost] 53)) [.slice a0 k0 c0, .int .i64 X.valid, .int .i64 X.next, .int .i64 X.seq, .slice a1 k1 c1, .slice a2 k2 c2, .int .i64 X.lost] X (In wr.heap.size (w4.alloc (.cells #[.slice a0 k0 c0, .int .i64 X.valid, .int .i64 X.next, .int .i64 X.seq, .slice a1 k1 c1, .slice a2 k2 c2, .int .i64 X.lost] 53)).heap.size) := BoxE.wide (framesBox _ _ _ _ _ HE4.out fun b _ hlt => AB.block b hlt) (fun x hx => ⟨hx.1, by have := hx.2; simp; omega⟩)
      have hl1 : ms.length + 1 ≤ maxLen := by have := HLn.out; unfold maxLen; omega
      have hl2 : (ms.length + 1) * 104 ≤ 140737488355328 := by have := HLn.out; omega
      refine ite_w (by kernel_rfl) (wp_push 16 rfl (.tmp 12) (.tmp 15) rfl framesBox (B := y0.heap.size + 1) (M := wr.heap.size) (OwR.below HO4.out AB) hMs hs Tryd.underlying23 hi hz0 hz1 hz2 rfl (by omega) rfl X [.slice a0 k0 c0, .int .i64 X.valid, .int .i64 X.next, .int .i64 X.seq, .slice a1 k1 c1, .slice a2 k2 c2, .int .i64 X.lost] rfl HEa ⟨w4.heap.size, 0, none⟩ 1 rfl (cells_new w4 _ _) one7 hl1 hl2 ?_)
      intro DV wz hO hgz hvz
      obtain ⟨da, dn, dc, hDV⟩ := OwR.form3 hO
      subst hDV
      have hge : ∀ j, (Value.slice va vn vc).ownBlock = some j → y0.heap.size + 1 ≤ j := fun j hj => (hvz j hj).1
      have KX := grown_at hgz hge (box_below AB HX4.out) (by omega)
      have HCz : Hid (wz.heap[g]? = _) := grown_at hgz hge (box_below AB KC4.out) (by omega)
      have HRz : Hid (wz.heap[w.heap.size]? = _) := grown_at hgz hge (box_below AB HR4.out) (by omega)
      have HGz : Hid (w.grownBy wz (some g)) := gr_push (gr_below HG4.out AB) hgz (fun j hj => by have := hge j hj; omega)
      have sz : w4.heap.size + 1 ≤ wz.heap.size := by have := hgz.size; simpa using this
      obtain ⟨zx, zl⟩ := box8z KX
      obtain ⟨d0, d1, d2⟩ := bx3 KX
      refine hK.out _ _ (d1) (fun hHeld => ?_)
      clear hK K
      refine wpS_next (S' := fun w' => True) 6 8 hTb (by decide) (trivial) (fun hHeld => ?_)
      refine tks 6 6 17 hTb hHeld ?_
      refine cls 7 7 hTb (by decide) rfl rfl (fun K hK => ?_)
      go_simp
      refine hK.out _ _ (trivial) (fun hHeld => ?_)
      clear hK K
      refine wpS_end hTb ?_
      have HL2 : Hid (iAcc l p = (iMany (iBox l) (n5' - (c + 1)) Y).bind (fun r => (fun c : List BoxD × Int => (iC l 60 c.2).bind fun d => (iMany (iN l) d.1.toNat d.2).bind fun e => some ((⟨n0, c.1, e.1⟩ : AccD), e.2)) (ms ++ [X] ++ r.1, r.2))) := manyI_step (g := iBox l) (F := (fun c : List BoxD × Int => (iC l 60 c.2).bind fun d => (iMany (iN l) d.1.toNat d.2).bind fun e => some ((⟨n0, c.1, e.1⟩ : AccD), e.2))) HM1.out.1 hgo HXY.out
      have HX5 : Hid ((wz.setCell ⟨y0.heap.size, 1, none⟩ (.slice da dn dc)).heap[y0.heap.size]? = some (.cells #[.int .i64 n0, .slice da dn dc, .slice none 0 0] 26 (0, 0))) := box_set KX
      have HC5 : Hid ((wz.setCell ⟨y0.heap.size, 1, none⟩ (.slice da dn dc)).heap[g]? = _) := box_other HCz.out (by omega)
      have HR5 : Hid ((wz.setCell ⟨y0.heap.size, 1, none⟩ (.slice da dn dc)).heap[w.heap.size]? = _) := box_other HRz.out (by omega)
      have HG5 : Hid (w.grownBy (wz.setCell ⟨y0.heap.size, 1, none⟩ (.slice da dn dc)) (some g)) := gr_set HGz.out (by omega)
      have HO5 : Hid (BoxesR (wz.setCell ⟨y0.heap.size, 1, none⟩ (.slice da dn dc)) (y0.heap.size + 1) (wz.setCell ⟨y0.heap.size, 1, none⟩ (.slice da dn dc)).heap.size (.slice da dn dc) (ms ++ [X])) := by show BoxesR _ _ _ _ _; rw [box_size]; exact OwR.set hO (.inl (by omega))
      have hs5 : y0.heap.size + 1 ≤ (wz.setCell ⟨y0.heap.size, 1, none⟩ (.slice da dn dc)).heap.size := by rw [box_size]; omega
      have hlen5 : Hid ((ms ++ [X]).length = c + 1) := by show _ = _; simp [HLn.out]
      clear KX HCz HRz HGz HX4 KC4 HR4 HG4 HO4 HE4 HEa hO hgz hvz hge AB hl1 hl2 HLn HXY HM1
      go_wp2
      go_roundw
      case rel => exact ⟨c + 1, Y, _, da, dn, dc, by omega, by go_num, hbx.1, hbx.2, ⟨HL2.out, hlen5.out⟩, HG5, HC5, HX5, HR5, hs5, HO5⟩
      case measure => simp [intOf]; omega
    · obtain rfl : c = n5' := by omega
      have HME : Hid (iAcc l p = (fun c : List BoxD × Int => (iC l 60 c.2).bind fun d => (iMany (iN l) d.1.toNat d.2).bind fun e => some ((⟨n0, c.1, e.1⟩ : AccD), e.2)) (ms, q)) := manyI_end (g := iBox l) (F := (fun c : List BoxD × Int => (iC l 60 c.2).bind fun d => (iMany (iN l) d.1.toNat d.2).bind fun e => some ((⟨n0, c.1, e.1⟩ : AccD), e.2))) HM1.out.1 (Nat.le_refl _)
      clear HM1
      go_wp2_with fail
      refine (count_c g _ l q 60 ea _ HC.out (fun wi h => HB.out wi (grownBy_trans (HG.out) h)) (HE.out.gr (HG.out) hne) hne hl hq0 hq1 (by omega) (by omega)).mono ?_
      rintro e z0 ⟨hh, G⟩
      rcases hh with ⟨rz0, hr, rfl, KC⟩ | ⟨hr, rfl⟩
      rotate_left
      · have HNO : Hid (iAcc l p = none) := by show _ = _; rw [HME.out]; simp only [hr]; rfl
        have HGN : Hid (w.grownBy z0 (some g)) := grownBy_trans (HG.out) G
        clear hr
        go_wp2
        exact ⟨rfl, .inr ⟨HNO.out, rfl⟩, HGN.out⟩
      obtain ⟨n6, p6⟩ := rz0
      obtain ⟨bd6, hr0, hr1⟩ := iC_bd hl hr
      have HM6 : Hid (iAcc l p = (iMany (iN l) n6.toNat p6).bind (fun e : List Int × Int => some ((⟨n0, ms, e.1⟩ : AccD), e.2))) := by show _ = _; rw [HME.out]; simp only [hr]; rfl
      have HG1 : Hid (w.grownBy z0 (some g)) := grownBy_trans HG.out G
      have HC1 : Hid (z0.heap[g]? = some (.cells #[.slice ba bn bc, .int .i64 p6] 43 (0, 0))) := KC
      have HX1 : Hid (z0.heap[y0.heap.size]? = some (.cells #[.int .i64 n0, .slice va vn vc, .slice none 0 0] 26 (0, 0))) := gr_at G HX.out (by omega)
      have HR1 : Hid (z0.heap[w.heap.size]? = some (.cells #[.int .i64 0, .slice none 0 0, .slice none 0 0] 26 (0, 0))) := gr_at G HR.out (by omega)
      have HO1 : Hid (BoxesR z0 (y0.heap.size + 1) z0.heap.size (.slice va vn vc) ms) := OwR.wide (OwR.gr HO.out G (.inl (by omega))) (Nat.le_refl _) G.size
      have hs1 : y0.heap.size + 1 ≤ z0.heap.size := by have := G.size; omega
      clear hr KC G HME HG HC HX HR HO hgo
      obtain ⟨n6', rfl⟩ : ∃ n : Nat, n6 = n := ⟨n6.toNat, by omega⟩
      rw [Int.toNat_natCast] at HM6
      go_wp2
      go_loopw [21] (fun i wr => ∃ (c : Nat) (q : Int) (gs : List Int) (ga : Option Addr) (gn gc : Nat), c ≤ n6' ∧ i = .int .i64 c ∧ 0 ≤ q ∧ q ≤ 9000000 ∧ Hid (iAcc l p = (iMany (iN l) (n6' - c) q).bind (fun r => (fun e : List Int × Int => some ((⟨n0, ms, e.1⟩ : AccD), e.2)) (gs ++ r.1, r.2)) ∧ gs.length = c) ∧ Hid (w.grownBy wr (some g)) ∧ Hid (wr.heap[g]? = some (.cells #[.slice ba bn bc, .int .i64 q] 43 (0, 0))) ∧ Hid (wr.heap[y0.heap.size]? = some (.cells #[.int .i64 n0, .slice va vn vc, .slice ga gn gc] 26 (0, 0))) ∧ Hid (wr.heap[w.heap.size]? = some (.cells #[.int .i64 0, .slice none 0 0, .slice none 0 0] 26 (0, 0))) ∧ z0.heap.size ≤ wr.heap.size ∧ Hid (BoxesR wr (y0.heap.size + 1) z0.heap.size (.slice va vn vc) ms) ∧ Hid (IntsR wr z0.heap.size wr.heap.size (.slice ga gn gc) gs)) (fun i _ => n6' - (intOf i).toNat)
      case atStart => exact ⟨0, p6, [], none, 0, 0, Nat.zero_le _, rfl, hr0, hr1, ⟨manyI_start (g := iN l) (F := (fun e : List Int × Int => some ((⟨n0, ms, e.1⟩ : AccD), e.2))) HM6.out, rfl⟩, HG1, HC1, HX1, HR1, Nat.le_refl _, HO1, .inl ⟨rfl, rfl⟩⟩
      case round =>
        obtain ⟨c, q, gs, ga, gn, gc, hc, rfl, hq0, hq1, HM1, HG, HC, HX, HR, hs, HO, HP⟩ := hrel
        clear HM6 HG1 HC1 HX1 HR1 HO1 hr0 hr1
        by_cases hgo : c < n6'
        · have DR : Below wr.heap.size wr wr.drew := (Below.refl _ _).drew
          obtain ⟨x0, x1, x2⟩ := bx3 HX.out
          have lx := lt_of_heap HX.out
          have HLn : Hid (gs.length = c) := HM1.out.2
          go_upto_region 8 with fail
          refine wpS_begin 6 (S := fun w' => w'.cell? ⟨y0.heap.size, 2, none⟩ = some (.slice ga gn gc)) (tabS_of (by kernel_rfl) tabS_rdA8) (by kernel_rfl) (x2) (fun hTb hHeld => ?_)
          refine tks 0 0 23 hTb hHeld ?_
          refine tks 1 1 24 hTb hHeld ?_
          refine tks 2 2 25 hTb hHeld ?_
          refine cls 3 3 hTb (by decide) rfl rfl (fun K hK => ?_)
          go_simp
          refine (num_c g _ l q ea _ (box_below DR HC.out) (fun wi h => HB.out wi (grownBy_trans (gr_below HG.out DR) h)) (HE.out.gr (gr_below HG.out DR) hne) hl hq0 hq1).mono ?_
          rintro e w4 ⟨hh, G⟩
          rcases hh with ⟨rw4, hr, rfl, KC⟩ | ⟨hr, rfl⟩
          rotate_left
          · have HNO : Hid (iAcc l p = none) := manyI_none (g := iN l) (F := (fun e : List Int × Int => some ((⟨n0, ms, e.1⟩ : AccD), e.2))) HM1.out.1 hgo hr
            have HGN : Hid (w.grownBy w4 (some g)) := grownBy_trans (gr_below HG.out DR) G
            clear hr
            go_wp2
            exact ⟨rfl, .inr ⟨HNO.out, rfl⟩, HGN.out⟩
          obtain ⟨X, Y⟩ := rw4
          obtain ⟨hbi, hbx⟩ := iN_bd hl hr
          have HXY : Hid (iN l q = some (X, Y)) := hr
          have G4 : wr.grownBy w4 (some g) := grownBy_trans (gr_below (World.grownBy.refl wr _) DR) G
          have KC4 : Hid (w4.heap[g]? = some (.cells #[.slice ba bn bc, .int .i64 Y] 43 (0, 0))) := KC
          have HX4 : Hid (w4.heap[y0.heap.size]? = some (.cells #[.int .i64 n0, .slice va vn vc, .slice ga gn gc] 26 (0, 0))) := gr_at G4 HX.out (by omega)
          have HR4 : Hid (w4.heap[w.heap.size]? = some (.cells #[.int .i64 0, .slice none 0 0, .slice none 0 0] 26 (0, 0))) := gr_at G4 HR.out (by omega)
          have HG4 : Hid (w.grownBy w4 (some g)) := grownBy_trans HG.out G4
          have HO4 : Hid (BoxesR w4 (y0.heap.size + 1) z0.heap.size (.slice va vn vc) ms) := OwR.gr HO.out G4 (.inl (by omega))
          have HP4 : Hid (IntsR w4 z0.heap.size wr.heap.size (.slice ga gn gc) gs) := OwR.gr HP.out G4 (.inl (by omega))
          have hs4 : wr.heap.size ≤ w4.heap.size := G4.size
          clear hr KC G G4 HX HR HG HO HP HC DR x0 x1 x2
          refine hK.out _ _ ((bx3 HX4.out).2.2) (fun hHeld => ?_)
          clear hK K
          refine cls 4 4 hTb (by decide) rfl rfl (fun K hK => ?_)
          go_simp
          have AB : Below w4.heap.size w4 (w4.alloc (.cells #[.int .i64 X] 3)) := (Below.refl _ _).alloc (Nat.le_refl _) _
          refine hK.out _ _ ((bx3 (box_below AB HX4.out)).2.2) (fun hHeld => ?_)
          clear hK K
          refine cls 5 5 hTb (by decide) rfl rfl (fun K hK => ?_)
          have hMs : wr.heap.size ≤ (w4.alloc (.cells #[.int .i64 X] 3)).heap.size := by simp; omega
          have HEa : IntE (w4.alloc (.cells #[.int .i64 X] 3)) [.int .i64 X] X (In wr.heap.size (w4.alloc (.cells #[.int .i64 X] 3)).heap.size) := ⟨rfl, i64_of hbi⟩
          have hl1 : gs.length + 1 ≤ maxLen := by have := HLn.out; unfold maxLen; omega
          have hl2 : (gs.length + 1) * 8 ≤ 140737488355328 := by have := HLn.out; omega
          refine ite_w (by kernel_rfl) (wp_push 28 rfl (.tmp 24) (.tmp 27) rfl framesInt (B := z0.heap.size) (M := wr.heap.size) (OwR.below HP4.out AB) hMs hs Tryd.underlying24 hj hy0 hy1 hy2 rfl (by omega) rfl X [.int .i64 X] rfl HEa ⟨w4.heap.size, 0, none⟩ 1 rfl (cells_new w4 _ _) one1 hl1 hl2 ?_)
          intro DV wz hO hgz hvz
          obtain ⟨da, dn, dc, hDV⟩ := OwR.form3 hO
          subst hDV
          have hge : ∀ j, (Value.slice ga gn gc).ownBlock = some j → z0.heap.size ≤ j := fun j hj => (hvz j hj).1
          have KX := grown_at hgz hge (box_below AB HX4.out) (by omega)
          have HCz : Hid (wz.heap[g]? = _) := grown_at hgz hge (box_below AB KC4.out) (by omega)
          have HRz : Hid (wz.heap[w.heap.size]? = _) := grown_at hgz hge (box_below AB HR4.out) (by omega)
          have HGz : Hid (w.grownBy wz (some g)) := gr_push (gr_below HG4.out AB) hgz (fun j hj => by have := hge j hj; omega)
          have HOz : Hid (BoxesR wz (y0.heap.size + 1) z0.heap.size (.slice va vn vc) ms) := OwR.gr' (OwR.below HO4.out AB) hgz (fun j hj => by have := hge j hj; omega)
          have sz : w4.heap.size + 1 ≤ wz.heap.size := by have := hgz.size; simpa using this
          obtain ⟨zx, zl⟩ := box8z KX
          obtain ⟨d0, d1, d2⟩ := bx3 KX
          refine hK.out _ _ (d2) (fun hHeld => ?_)
          clear hK K
          refine wpS_next (S' := fun w' => True) 6 8 hTb (by decide) (trivial) (fun hHeld => ?_)
          refine tks 6 6 29 hTb hHeld ?_
          refine cls 7 7 hTb (by decide) rfl rfl (fun K hK => ?_)
          go_simp
          refine hK.out _ _ (trivial) (fun hHeld => ?_)
          clear hK K
          refine wpS_end hTb ?_
          have HL2 : Hid (iAcc l p = (iMany (iN l) (n6' - (c + 1)) Y).bind (fun r => (fun e : List Int × Int => some ((⟨n0, ms, e.1⟩ : AccD), e.2)) (gs ++ [X] ++ r.1, r.2))) := manyI_step (g := iN l) (F := (fun e : List Int × Int => some ((⟨n0, ms, e.1⟩ : AccD), e.2))) HM1.out.1 hgo HXY.out
          have HX5 : Hid ((wz.setCell ⟨y0.heap.size, 2, none⟩ (.slice da dn dc)).heap[y0.heap.size]? = some (.cells #[.int .i64 n0, .slice va vn vc, .slice da dn dc] 26 (0, 0))) := box_set KX
          have HC5 : Hid ((wz.setCell ⟨y0.heap.size, 2, none⟩ (.slice da dn dc)).heap[g]? = _) := box_other HCz.out (by omega)
          have HR5 : Hid ((wz.setCell ⟨y0.heap.size, 2, none⟩ (.slice da dn dc)).heap[w.heap.size]? = _) := box_other HRz.out (by omega)
          have HG5 : Hid (w.grownBy (wz.setCell ⟨y0.heap.size, 2, none⟩ (.slice da dn dc)) (some g)) := gr_set HGz.out (by omega)
          have HO5 : Hid (BoxesR (wz.setCell ⟨y0.heap.size, 2, none⟩ (.slice da dn dc)) (y0.heap.size + 1) z0.heap.size (.slice va vn vc) ms) := OwR.set HOz.out (.inl (by omega))
          have HP5 : Hid (IntsR (wz.setCell ⟨y0.heap.size, 2, none⟩ (.slice da dn dc)) z0.heap.size (wz.setCell ⟨y0.heap.size, 2, none⟩ (.slice da dn dc)).heap.size (.slice da dn dc) (gs ++ [X])) := by show IntsR _ _ _ _ _; rw [box_size]; exact OwR.set hO (.inl (by omega))
          have hs5 : z0.heap.size ≤ (wz.setCell ⟨y0.heap.size, 2, none⟩ (.slice da dn dc)).heap.size := by rw [box_size]; omega
          have hlen5 : Hid ((gs ++ [X]).length = c + 1) := by show _ = _; simp [HLn.out]
          clear KX HCz HRz HGz HOz HX4 KC4 HR4 HG4 HO4 HP4 HEa hO hgz hvz hge AB hl1 hl2 HLn HXY HM1
          go_wp2
          go_roundw
          case rel => exact ⟨c + 1, Y, _, da, dn, dc, by omega, by go_num, hbx.1, hbx.2, ⟨HL2.out, hlen5.out⟩, HG5, HC5, HX5, HR5, hs5, HO5, HP5⟩
          case measure => simp [intOf]; omega
        · obtain rfl : c = n6' := by omega
          have HME2 : Hid (iAcc l p = some (⟨n0, ms, gs⟩, q)) := manyI_end (g := iN l) (F := (fun e : List Int × Int => some ((⟨n0, ms, e.1⟩ : AccD), e.2))) HM1.out.1 (Nat.le_refl _)
          clear HM1
          obtain ⟨d0, d1, d2⟩ := bx3 HX.out
          obtain ⟨r0, r1, r2⟩ := bx3 HR.out
          obtain ⟨rz, rl⟩ := box8z HR.out
          have lx := lt_of_heap HX.out
          have HCf : Hid ((((wr.setCell ⟨w.heap.size, 0, none⟩ (.int .i64 n0)).setCell ⟨w.heap.size, 1, none⟩ (.slice va vn vc)).setCell ⟨w.heap.size, 2, none⟩ (.slice ga gn gc)).heap[g]? = _) := (box_other (k := w.heap.size) (i := 2) (v := .slice ga gn gc) (box_other (k := w.heap.size) (i := 1) (v := .slice va vn vc) (box_other (k := w.heap.size) (i := 0) (v := .int .i64 n0) HC.out (by omega)) (by omega)) (by omega))
          have HGf : Hid (w.grownBy (((wr.setCell ⟨w.heap.size, 0, none⟩ (.int .i64 n0)).setCell ⟨w.heap.size, 1, none⟩ (.slice va vn vc)).setCell ⟨w.heap.size, 2, none⟩ (.slice ga gn gc)) (some g)) := (gr_set (b := w.heap.size) (j := 2) (u := .slice ga gn gc) (gr_set (b := w.heap.size) (j := 1) (u := .slice va vn vc) (gr_set (b := w.heap.size) (j := 0) (u := .int .i64 n0) HG.out (Nat.le_refl _)) (Nat.le_refl _)) (Nat.le_refl _))
          have HOf : Hid (BoxesR (((wr.setCell ⟨w.heap.size, 0, none⟩ (.int .i64 n0)).setCell ⟨w.heap.size, 1, none⟩ (.slice va vn vc)).setCell ⟨w.heap.size, 2, none⟩ (.slice ga gn gc)) (y0.heap.size + 1) z0.heap.size (.slice va vn vc) ms) := (OwR.set (i := 2) (x := .slice ga gn gc) (OwR.set (i := 1) (x := .slice va vn vc) (OwR.set (i := 0) (x := .int .i64 n0) HO.out (.inl (by omega))) (.inl (by omega))) (.inl (by omega)))
          have HPf : Hid (IntsR (((wr.setCell ⟨w.heap.size, 0, none⟩ (.int .i64 n0)).setCell ⟨w.heap.size, 1, none⟩ (.slice va vn vc)).setCell ⟨w.heap.size, 2, none⟩ (.slice ga gn gc)) z0.heap.size wr.heap.size (.slice ga gn gc) gs) := (OwR.set (i := 2) (x := .slice ga gn gc) (OwR.set (i := 1) (x := .slice va vn vc) (OwR.set (i := 0) (x := .int .i64 n0) HP.out (.inl (by omega))) (.inl (by omega))) (.inl (by omega)))
          have KF := (box_set (i := 2) (v := .slice ga gn gc) (box_set (i := 1) (v := .slice va vn vc) (box_set (i := 0) (v := .int .i64 n0) HR.out)))
          obtain ⟨f0, f1, f2⟩ := bx3 KF
          have hszf : Hid ((((wr.setCell ⟨w.heap.size, 0, none⟩ (.int .i64 n0)).setCell ⟨w.heap.size, 1, none⟩ (.slice va vn vc)).setCell ⟨w.heap.size, 2, none⟩ (.slice ga gn gc)).heap.size = wr.heap.size) := by show _ = _; simp only [box_size]
          clear KF HC HG HO HP HR HX
          go_wp2
          refine bodyPost_ret (v := .agg #[.int .i64 n0, .slice va vn vc, .slice ga gn gc]) (by simp [results, Tryd.results16, go_sem, f0, f1, f2]) rfl ⟨.inl ⟨_, _, HME2.out, rfl, ?_, HCf.out⟩, HGf.out⟩
          exact ⟨_, _, In (y0.heap.size + 1) z0.heap.size, In z0.heap.size wr.heap.size, rfl, HOf.out, HPf.out, (fun x hx => ⟨⟨by have := hx.1; omega, by have := hx.2; rw [hszf.out]; omega⟩, fun h => by have := hx.2; have := h.1; omega⟩), (fun x hx => ⟨by have := hx.1; omega, by have := hx.2; rw [hszf.out]; omega⟩), i64_of bd0⟩

end Go.Proofs.YthnlbhmecokomaaDoor

/- What the function that AccountRead of package impl defers does. -/
namespace Go.Proofs.YthnlbhmecokomaaDoor
open Go.RowKit
set_option linter.unusedVariables false

set_option maxRecDepth 100000 in
theorem catch_panicking (R : Nat) (c0 c1 c2 d0 : Value) (u : TypeId) (pv : Value) (older : List PanicEntry) (w : World) (h0 : w.heap[R]? = some (.cells #[c0, c1, c2] 26 (0, 0))) (h1 : w.heap[R + 1]? = some (.cells #[d0] 4 (0, 0))) :
    CallsD Tryd.prog 15 #[.pointer (some ⟨R, 0, none⟩), .pointer (some ⟨R + 1, 0, none⟩)] (.panicking ({ v := .iface u pv, recovered := false } :: older)) w fun e u' w' =>
      e = .returned (.tuple #[]) ∧ u' = .panicking ({ v := .iface u pv, recovered := true } :: older) ∧ w' = (((w.setCell ⟨R, 0, none⟩ (.int .i64 0)).setCell ⟨R, 1, none⟩ (.slice none 0 0)).setCell ⟨R, 2, none⟩ (.slice none 0 0)).setCell ⟨R + 1, 0, none⟩ (.bool false) := by
  obtain ⟨f0, f1, f2⟩ := bx3 h0
  obtain ⟨fz, fl⟩ := box8z h0
  obtain ⟨gz, gl⟩ := box8z h1
  have g0 : w.cell? ⟨R + 1, 0, none⟩ = some d0 := by rw [cell_of_row w (R + 1) 0 _ _ (0, 0) h1]; rfl
  refine callsD_of_wpS Tryd.func15 rfl fun c₀ cs hu => ?_
  apply wpS_seq
  apply wpS_region
  simp [wpOpsS, go_sem, recoverD, hu, Tryd.ntmps15, Exit.thenS]
  refine wpS_cond (t := true) (by simp [Act.eval, Array.replicate]) ?_
  simp only [if_true]
  apply wpS_region
  simp [wpOpsS, go_sem, f0, f1, f2, fz, g0, gz, bodyPostS, results, Tryd.results15]

set_option maxRecDepth 100000 in
theorem catch_idle (a b : Value) (w : World) :
    CallsD Tryd.prog 15 #[a, b] .returning w fun e u' w' => e = .returned (.tuple #[]) ∧ u' = .returning ∧ w' = w := by
  refine callsD_of_wpS Tryd.func15 rfl fun c₀ cs hu => ?_
  apply wpS_seq
  apply wpS_region
  simp [wpOpsS, go_sem, recoverD, hu, Tryd.ntmps15, Exit.thenS]
  refine wpS_cond (t := false) (by simp [Act.eval, Array.replicate]) ?_
  simp only [Bool.false_eq_true, if_false]
  refine wpS_of_wp (wp_skip ?_)
  cases c₀
  simp_all [bodyPostS, results, Tryd.results15]

end Go.Proofs.YthnlbhmecokomaaDoor

/- What slices.IndexFunc and slices.ContainsFunc do of bytes, whatever function is handed in. -/
namespace Go.Proofs.YthnlbhmecokomaaDoor
open Go.RowKit Go.Shelf
set_option maxRecDepth 100000

set_option maxHeartbeats 400000 in
theorem indexFuncB (g : Nat) (lb : Array Value) (p : Int → Bool) (v : Value) (l : List Int) (w : World) (hv : Bs w v l) (eg : ∀ args w, (callFunc g args).run Tryd.prog w = .ok (.enter g args) w)
    (hp : ∀ x, 0 ≤ x → x ≤ 255 → Calls Tryd.prog g (#[.int .u8 x] ++ lb) w fun e w' => e = .returned (.bool (p x)) ∧ w' = w) :
    Calls Tryd.prog 78 #[v, .func (.func g) #[] lb] w fun e w' => e = .returned (.int .i64 (firstI p l)) ∧ w' = w := by
  obtain ⟨ho, a, cap, rfl, hlc, hcm, hnil, hcells⟩ := hv
  unfold maxLen at hcm
  go_enter Tryd.func78, Tryd.ntmps78
  go_wp2
  go_loop [5, 8] (fun _ i => ∃ k : Nat, k ≤ l.length ∧ i = .int .i64 k ∧ Hid (∀ j, j < k → p (l.getD j 0) = false)) (fun _ i => l.length - (intOf i).toNat)
  case atStart => exact ⟨0, Nat.zero_le _, rfl, fun j hj => absurd hj (Nat.not_lt_zero _)⟩
  case round =>
    obtain ⟨k, hk, rfl, hA⟩ := hrel
    by_cases hlt : k < l.length
    · obtain ⟨b, off, rfl, hlb, hc⟩ := hcells (by omega)
      have hx := hc k hlt
      have hbx := oct_get ho k
      generalize hy : l.getD k 0 = x at hx hbx
      have HX : Hid (l.getD k 0 = x) := hy
      clear hy hc hcells
      have hcall := hp x hbx.1 hbx.2
      clear hp
      cases hq : p x with
      | true =>
        rw [hq] at hcall
        go_wp2_with (go_at_fn g; refine hcall.mono ?_; rintro e w' ⟨rfl, rfl⟩)
        go_ret
        exact ⟨ret_i (firstI_hit hlt (by rw [HX.out]; exact hq) hA.out).symm, rfl⟩
      | false =>
        rw [hq] at hcall
        go_wp2_with (go_at_fn g; refine hcall.mono ?_; rintro e w' ⟨rfl, rfl⟩)
        go_round
        case rel =>
          refine ⟨k + 1, by omega, by go_num, (show Hid _ from fun j hj => ?_)⟩
          by_cases e : j = k
          · subst e; rw [HX.out]; exact hq
          · exact hA.out j (by omega)
        case measure => simp [intOf]; omega
    · obtain rfl : k = l.length := by omega
      go_wp2
      go_ret
      exact ⟨ret_i (firstI_none hA.out).symm, rfl⟩

set_option maxHeartbeats 400000 in
theorem containsFuncB (g : Nat) (lb : Array Value) (p : Int → Bool) (v : Value) (l : List Int) (w : World) (hv : Bs w v l) (eg : ∀ args w, (callFunc g args).run Tryd.prog w = .ok (.enter g args) w)
    (hp : ∀ x, 0 ≤ x → x ≤ 255 → Calls Tryd.prog g (#[.int .u8 x] ++ lb) w fun e w' => e = .returned (.bool (p x)) ∧ w' = w) :
    Calls Tryd.prog 74 #[v, .func (.func g) #[] lb] w fun e w' => e = .returned (.bool (l.any p)) ∧ w' = w := by
  have hi := indexFuncB g lb p v l w hv eg hp
  have HF : Hid (l.any p = decide (0 ≤ firstI p l)) := any_firstI p l
  generalize firstI p l = i at hi HF
  obtain ⟨ho, a, cap, rfl, -⟩ := hv
  clear hp
  go_enter Tryd.func74, Tryd.ntmps74
  go_wp2_with (go_at_call 78; refine hi.mono ?_; rintro e w' ⟨rfl, rfl⟩)
  go_ret
  exact ⟨ret_b HF.out, rfl⟩

end Go.Proofs.YthnlbhmecokomaaDoor

/- What within, allWithin, nameOk, nameWanted, textOk of package impl do. -/
namespace Go.Proofs.YthnlbhmecokomaaDoor
open Go.RowKit Go.Shelf
set_option maxRecDepth 100000

theorem textB_len {l : List Int} (h : textB l = true) : l.length ≤ 30 := by unfold textB at h; simp at h; exact h.1

theorem within_any (n lo hi : Int) (w : World) :
    Calls Tryd.prog 32 #[.int .i64 n, .int .i64 lo, .int .i64 hi] w fun e w' => e = .returned (.bool (inB n lo hi)) ∧ w' = w := by
  by_cases h0 : lo ≤ n
  · by_cases h1 : n ≤ hi
    · go_enter Tryd.func32, Tryd.ntmps32
      go_wp2
      go_ret
      exact ⟨ret_b (by simp [inB, h0, h1]), rfl⟩
    · go_enter Tryd.func32, Tryd.ntmps32
      go_wp2
      go_ret
      exact ⟨ret_b (by simp [inB, h1]), rfl⟩
  · go_enter Tryd.func32, Tryd.ntmps32
    go_wp2
    go_ret
    exact ⟨ret_b (by simp [inB]; omega), rfl⟩

theorem allWithin1_any (x lo hi : Int) (b1 b2 : Nat) (w : World) (c1 : w.cell? ⟨b1, 0, none⟩ = some (.int .u8 lo)) (c2 : w.cell? ⟨b2, 0, none⟩ = some (.int .u8 hi)) :
    Calls Tryd.prog 75 #[.int .u8 x, .pointer (some ⟨b1, 0, none⟩), .pointer (some ⟨b2, 0, none⟩)] w fun e w' => e = .returned (.bool (decide (x < lo) || decide (hi < x))) ∧ w' = w := by
  by_cases h0 : x < lo
  · go_enter Tryd.func75, Tryd.ntmps75
    go_wp2
    go_ret
    exact ⟨ret_b (by simp [h0]), rfl⟩
  · go_enter Tryd.func75, Tryd.ntmps75
    go_wp2
    go_ret
    exact ⟨ret_b (by simp; omega), rfl⟩

theorem allIn_any (lo hi : Int) (l : List Int) : (!l.any fun x => decide (x < lo) || decide (hi < x)) = allIn lo hi l := by
  induction l with
  | nil => rfl
  | cons x l ih =>
    simp only [List.any_cons, allIn, List.all_cons, Bool.not_or]
    rw [ih]
    congr 1
    by_cases h0 : x < lo <;> by_cases h1 : hi < x <;> simp [h0, h1] <;> omega

set_option maxHeartbeats 400000 in
theorem allWithin_any (v : Value) (l : List Int) (lo hi : Int) (w : World) (hv : Bs w v l) :
    Calls Tryd.prog 65 #[v, .int .u8 lo, .int .u8 hi] w fun e w' => e = .returned (.bool (allIn lo hi l)) ∧ Below w.heap.size w w' := by
  have bx := boxes2 w (.cells #[.int .u8 lo] 5) (.cells #[.int .u8 hi] 5)
  have H : Hid (Calls Tryd.prog 74 #[v, .func (.func 75) #[] #[.pointer (some ⟨w.heap.size, 0, none⟩), .pointer (some ⟨w.heap.size + 1, 0, none⟩)]] ((w.alloc (.cells #[.int .u8 lo] 5)).alloc (.cells #[.int .u8 hi] 5)) fun e w' => e = .returned (.bool (l.any fun x => decide (x < lo) || decide (hi < x))) ∧ w' = (w.alloc (.cells #[.int .u8 lo] 5)).alloc (.cells #[.int .u8 hi] 5)) := by
    refine containsFuncB _ _ _ v l _ (hv.below bx.2.2) (fun args w => by kernel_rfl) fun x _ _ => allWithin1_any x lo hi _ _ _ ?_ ?_
    · rw [cell_of_row _ _ 0 _ _ (0, 0) bx.1]; rfl
    · rw [cell_of_row _ _ 0 _ _ (0, 0) bx.2.1]; rfl
  have HA := allIn_any lo hi l
  have HB : Hid (Below w.heap.size w ((w.alloc (.cells #[.int .u8 lo] 5)).alloc (.cells #[.int .u8 hi] 5))) := bx.2.2
  generalize (l.any fun x => decide (x < lo) || decide (hi < x)) = X at H HA
  have HA' : Hid ((!X) = allIn lo hi l) := HA
  clear HA bx
  obtain ⟨a, n, c, rfl⟩ := hv.form3
  clear hv
  go_enter Tryd.func65, Tryd.ntmps65
  go_wp2_with (go_at_call 74; refine H.out.mono ?_; rintro e w' ⟨rfl, rfl⟩)
  go_ret
  exact ⟨ret_b HA'.out.symm, HB.out⟩

set_option maxHeartbeats 400000 in
theorem nameOk_any (v : Value) (l : List Int) (w : World) (hv : Bs w v l) :
    Calls Tryd.prog 54 #[v] w fun e w' => e = .returned (.bool (nameB l)) ∧ Below w.heap.size w w' := by
  have H : Hid (Bs w v l) := hv
  obtain ⟨ho, a, cap, rfl, hlc, hcm, -⟩ := hv
  unfold maxLen at hcm
  by_cases h0 : 1 ≤ l.length ∧ l.length ≤ 6
  · have e1 : inB (l.length : Int) 1 6 = true := by simp [inB]; omega
    have e2 : Hid (nameB l = allIn 97 122 l) := by simp [Hid, nameB, h0.1, h0.2]
    have hw := within_any (l.length : Int) 1 6
    rw [e1] at hw
    clear e1
    go_enter Tryd.func54, Tryd.ntmps54
    go_wp2_with (first | (go_at_call 32; refine (hw _).mono ?_; rintro e w' ⟨rfl, rfl⟩) | (go_at_call 65; refine (allWithin_any _ l 97 122 _ H.out).mono ?_; rintro e w1 ⟨rfl, B⟩))
    go_ret
    exact ⟨ret_b e2.out, B⟩
  · have e1 : inB (l.length : Int) 1 6 = false := by simp [inB]; omega
    have e2 : Hid (nameB l = false) := by
      simp only [Hid, nameB]
      by_cases h1 : 1 ≤ l.length
      · simp [show ¬ l.length ≤ 6 by omega]
      · simp [h1]
    have hw := within_any (l.length : Int) 1 6
    rw [e1] at hw
    clear e1
    go_enter Tryd.func54, Tryd.ntmps54
    go_wp2_with (first | (go_at_call 32; refine (hw _).mono ?_; rintro e w' ⟨rfl, rfl⟩))
    go_ret
    exact ⟨ret_b e2.out, Below.refl _ _⟩

set_option maxHeartbeats 400000 in
theorem textOk_any (v : Value) (l : List Int) (w : World) (hv : Bs w v l) :
    Calls Tryd.prog 66 #[v] w fun e w' => e = .returned (.bool (textB l)) ∧ Below w.heap.size w w' := by
  have H : Hid (Bs w v l) := hv
  obtain ⟨ho, a, cap, rfl, hlc, hcm, -⟩ := hv
  unfold maxLen at hcm
  by_cases h0 : l.length ≤ 30
  · have e2 : Hid (textB l = allIn 32 126 l) := by simp [Hid, textB, h0]
    go_enter Tryd.func66, Tryd.ntmps66
    go_wp2_with (first | (go_at_call 65; refine (allWithin_any _ l 32 126 _ H.out).mono ?_; rintro e w1 ⟨rfl, B⟩))
    go_ret
    exact ⟨ret_b e2.out, B⟩
  · have e2 : Hid (textB l = false) := by simp [Hid, textB, h0]
    go_enter Tryd.func66, Tryd.ntmps66
    go_wp2
    go_ret
    exact ⟨ret_b e2.out, Below.refl _ _⟩

end Go.Proofs.YthnlbhmecokomaaDoor

/- What seenOk and mailsOk of package impl do. -/
namespace Go.Proofs.YthnlbhmecokomaaDoor
open Go.RowKit Go.Shelf
set_option maxRecDepth 100000
set_option linter.unusedVariables false

set_option maxRecDepth 100000 in
set_option maxHeartbeats 1000000 in
theorem seenOk_any (v : Value) (l : List Int) (w : World) (hv : IntsV w v l) :
    Calls Tryd.prog 33 #[v] w fun e w' => e = .returned (.bool (seenB l)) ∧ w' = w := by
  have HV : Hid (IntsV w v l) := hv
  obtain ⟨a, cap, rfl, hlc, hcm⟩ := hv.form
  clear hv
  by_cases h0 : l.length ≤ 60
  · have HS : Hid (seenB l = (List.range l.length).all (seenAt l)) := by simp [Hid, seenB, h0]
    go_enter Tryd.func33, Tryd.ntmps33
    go_wp2
    go_loop [3, 5, 11] (fun q _ i => ∃ k : Nat, k ≤ l.length ∧ i = .int .i64 k ∧ q = .int .i64 (prevI l k) ∧ Hid (∀ j, j < k → seenAt l j = true)) (fun _ _ i => l.length - (intOf i).toNat)
    case atStart => exact ⟨0, Nat.zero_le _, rfl, rfl, fun j hj => absurd hj (Nat.not_lt_zero _)⟩
    case round =>
      obtain ⟨k, hk, rfl, rfl, hA⟩ := hrel
      by_cases hlt : k < l.length
      · obtain ⟨x, hx⟩ : ∃ x, l[k]? = some x := ⟨l[k], List.getElem?_eq_getElem hlt⟩
        obtain ⟨b, off, cap', hv', hlb, d0, i0⟩ := IntsV.cell HV.out k x hx
        simp only [Value.slice.injEq, true_and] at hv'
        obtain ⟨rfl, rfl⟩ := hv'
        have hp := prevI_ok hk hA.out
        have HD : Hid (l.getD k 0 = x) := by simp [Hid, List.getD, hx]
        have HE : Hid (seenAt l k = inB x (prevI l k + 1) 1000000) := by show seenAt l k = _; unfold seenAt; rw [HD.out]
        generalize hQ : prevI l k = q at hp HE
        clear hQ
        obtain ⟨hp0, hp1, -⟩ := hp
        have hcall := within_any x (q + 1) 1000000
        generalize hX : inB x (q + 1) 1000000 = X at hcall HE
        clear hX hx
        cases X with
        | true =>
          go_wp2_with (go_at_call 32; refine (hcall _).mono ?_; rintro e w' ⟨rfl, rfl⟩)
          go_round
          case rel =>
            refine ⟨k + 1, by omega, by go_num, by simp only [prevI]; rw [HD.out], (show Hid _ from fun j hj => ?_)⟩
            by_cases e : j = k
            · subst e; exact HE.out
            · exact hA.out j (by omega)
          case measure => simp [intOf]; omega
        | false =>
          go_wp2_with (go_at_call 32; refine (hcall _).mono ?_; rintro e w' ⟨rfl, rfl⟩)
          go_ret
          exact ⟨ret_b (by rw [HS.out]; exact rangeAll_no k hlt HE.out), rfl⟩
      · obtain rfl : k = l.length := by omega
        go_wp2
        go_ret
        exact ⟨ret_b (by rw [HS.out]; exact rangeAll_yes hA.out), rfl⟩
  · have HS : Hid (seenB l = false) := by simp [Hid, seenB, h0]
    go_enter Tryd.func33, Tryd.ntmps33
    go_wp2
    go_ret
    exact ⟨ret_b HS.out, rfl⟩

set_option maxRecDepth 100000 in
set_option maxHeartbeats 1000000 in
theorem mailsOk_any (v : Value) (x : BoxD) (w : World) (hv : BoxV w v x) (hn0 : 1 ≤ x.next) (hn1 : x.next ≤ 1000000) :
    Calls Tryd.prog 55 #[v] w fun e w' => e = .returned (.bool (mailsB x)) ∧ Below w.heap.size w w' := by
  obtain ⟨u0, u1, u2, rfl, g0, g1, g2, i0, i1, i2, i3⟩ := hv
  have H0 : Hid (∀ wi, Below w.heap.size w wi → Bs wi u0 x.name ∧ MailsV wi u1 x.mails ∧ GonesV wi u2 x.gones) := fun wi h => ⟨g0.below h, g1.below keepsMail h, g2.below keepsGone h⟩
  obtain ⟨a0, n0, c0, rfl⟩ := g0.form3
  obtain ⟨a1, c1, rfl, m0, m1⟩ := g1.form
  obtain ⟨a2, c2, rfl, m2, m3⟩ := g2.form
  clear g0 g1 g2
  have kA := box_new w (.cells #[.slice a0 n0 c0, .int .i64 x.valid, .int .i64 x.next, .int .i64 x.seq, .slice a1 x.mails.length c1, .slice a2 x.gones.length c2, .int .i64 x.lost] 53)
  have X : Below w.heap.size w (w.alloc (.cells #[.slice a0 n0 c0, .int .i64 x.valid, .int .i64 x.next, .int .i64 x.seq, .slice a1 x.mails.length c1, .slice a2 x.gones.length c2, .int .i64 x.lost] 53)) := (Below.refl _ _).alloc (Nat.le_refl _) _
  by_cases h0 : x.mails.length ≤ 12
  · have HS : Hid (mailsB x = (List.range x.mails.length).all (mailAt x)) := by simp [Hid, mailsB, h0]
    have HK : Hid ((w.alloc (.cells #[.slice a0 n0 c0, .int .i64 x.valid, .int .i64 x.next, .int .i64 x.seq, .slice a1 x.mails.length c1, .slice a2 x.gones.length c2, .int .i64 x.lost] 53)).heap[w.heap.size]? = some (.cells #[.slice a0 n0 c0, .int .i64 x.valid, .int .i64 x.next, .int .i64 x.seq, .slice a1 x.mails.length c1, .slice a2 x.gones.length c2, .int .i64 x.lost] 53)) := kA
    have HX : Hid (Below w.heap.size w (w.alloc (.cells #[.slice a0 n0 c0, .int .i64 x.valid, .int .i64 x.next, .int .i64 x.seq, .slice a1 x.mails.length c1, .slice a2 x.gones.length c2, .int .i64 x.lost] 53))) := X
    clear kA X
    go_enter Tryd.func55, Tryd.ntmps55
    go_wp2
    go_loopw [3, 5, 13] (fun q _ i wr => ∃ k : Nat, k ≤ x.mails.length ∧ i = .int .i64 k ∧ q = .int .i64 (prevU x.mails k) ∧ Hid (∀ j, j < k → mailAt x j = true) ∧ Hid (wr.heap[w.heap.size]? = some (.cells #[.slice a0 n0 c0, .int .i64 x.valid, .int .i64 x.next, .int .i64 x.seq, .slice a1 x.mails.length c1, .slice a2 x.gones.length c2, .int .i64 x.lost] 53)) ∧ Hid (Below w.heap.size w wr)) (fun _ _ i _ => x.mails.length - (intOf i).toNat)
    case atStart => exact ⟨0, Nat.zero_le _, rfl, rfl, (fun j hj => absurd hj (Nat.not_lt_zero _)), HK, HX⟩
    case round =>
      obtain ⟨k, hk, rfl, rfl, hA, hK, hB⟩ := hrel
      by_cases hlt : k < x.mails.length
      · obtain ⟨m, hm⟩ : ∃ m, x.mails[k]? = some m := ⟨x.mails[k], List.getElem?_eq_getElem hlt⟩
        obtain ⟨b, off, cap', u, hv', hlb, d0, d1, d2, d3, hu, j0, j1, j2⟩ := MailsV.cell (H0.out wr hB.out).2.1 k m hm
        simp only [Value.slice.injEq, true_and] at hv'
        obtain ⟨rfl, rfl⟩ := hv'
        obtain ⟨ua, un, uc, rfl⟩ := hu.form3
        have hp := prevU_ok hn1 hk hA.out
        have HE : Hid (mailAt x k = (inB m.uid (prevU x.mails k + 1) (x.next - 1) && (inB m.flags 0 31 && (inB m.seq 1 x.seq && textB m.text)))) := by simp [Hid, mailAt, hm]
        have HP1 : Hid (prevU x.mails (k + 1) = m.uid) := by simp [Hid, prevU, hm]
        generalize hQ : prevU x.mails k = q at hp HE
        clear hQ hm
        obtain ⟨hp0, hp1⟩ := hp
        obtain ⟨uid, flags, seq, text⟩ := m
        simp only at d0 d1 d2 d3 hu j0 j1 j2 HE HP1
        have c1' := within_any uid (q + 1) (x.next - 1)
        have c2' := within_any flags 0 31
        have c3' := within_any seq 1 x.seq
        generalize inB uid (q + 1) (x.next - 1) = X1 at c1' HE
        generalize inB flags 0 31 = X2 at c2' HE
        generalize inB seq 1 x.seq = X3 at c3' HE
        have ab : Below wr.heap.size wr (wr.alloc (.cells #[.int .i64 uid, .int .i64 flags, .int .i64 seq, .slice ua un uc] 73)) := (Below.refl _ _).alloc (Nat.le_refl _) _
        have c4' := textOk_any _ text _ (hu.below ab)
        generalize textB text = X4 at c4' HE
        have hKA := hK.out
        obtain ⟨e0, e1, e2, e3, e4, e5, e6⟩ := bx7 hKA
        have hlA := lt_of_heap hKA
        have HKm : Hid ((wr.alloc (.cells #[.int .i64 uid, .int .i64 flags, .int .i64 seq, .slice ua un uc] 73)).heap[wr.heap.size]? = some (.cells #[.int .i64 uid, .int .i64 flags, .int .i64 seq, .slice ua un uc] 73)) := box_new wr _
        have HKb : Hid ((wr.alloc (.cells #[.int .i64 uid, .int .i64 flags, .int .i64 seq, .slice ua un uc] 73)).heap[w.heap.size]? = some (.cells #[.slice a0 n0 c0, .int .i64 x.valid, .int .i64 x.next, .int .i64 x.seq, .slice (some ⟨b, off, none⟩) x.mails.length c1, .slice a2 x.gones.length c2, .int .i64 x.lost] 53)) := box_alloc hKA _
        have HB1 : Hid (Below w.heap.size w (wr.alloc (.cells #[.int .i64 uid, .int .i64 flags, .int .i64 seq, .slice ua un uc] 73))) := Below.step hB.out ab
        clear hKA hu ab hK hB
        go_wp2_with fail
        refine (c1' _).mono ?_
        rintro e w' ⟨rfl, rfl⟩
        cases X1 with
        | false =>
          go_wp2
          go_ret
          exact ⟨ret_b (by rw [HS.out]; exact rangeAll_no k hlt HE.out), HB1.out⟩
        | true =>
        go_wp2_with fail
        refine (c2' _).mono ?_
        rintro e w' ⟨rfl, rfl⟩
        cases X2 with
        | false =>
          go_wp2
          go_ret
          exact ⟨ret_b (by rw [HS.out]; exact rangeAll_no k hlt HE.out), HB1.out⟩
        | true =>
        go_wp2_with fail
        refine (c3' _).mono ?_
        rintro e w' ⟨rfl, rfl⟩
        cases X3 with
        | false =>
          go_wp2
          go_ret
          exact ⟨ret_b (by rw [HS.out]; exact rangeAll_no k hlt HE.out), HB1.out⟩
        | true =>
        go_wp2_with fail
        refine c4'.mono ?_
        rintro e w2 ⟨rfl, B⟩
        have HB2 : Hid (Below w.heap.size w w2) := Below.step HB1.out B
        have HKb2 : Hid (w2.heap[w.heap.size]? = some (.cells #[.slice a0 n0 c0, .int .i64 x.valid, .int .i64 x.next, .int .i64 x.seq, .slice (some ⟨b, off, none⟩) x.mails.length c1, .slice a2 x.gones.length c2, .int .i64 x.lost] 53)) := box_below B HKb.out
        obtain ⟨t0, t1, t2, t3⟩ := bx4 (box_below B HKm.out)
        clear B HB1 HKb HKm
        cases X4 with
        | false =>
          go_wp2
          go_ret
          exact ⟨ret_b (by rw [HS.out]; exact rangeAll_no k hlt HE.out), HB2.out⟩
        | true =>
        go_wp2
        go_roundw
        case rel =>
          refine ⟨k + 1, by omega, by go_num, by rw [HP1.out], (show Hid _ from fun j hj => ?_), HKb2, HB2⟩
          by_cases e : j = k
          · subst e; exact HE.out
          · exact hA.out j (by omega)
        case measure => simp [intOf]; omega
      · obtain rfl : k = x.mails.length := by omega
        go_wp2
        go_ret
        exact ⟨ret_b (by rw [HS.out]; exact rangeAll_yes hA.out), hB.out⟩
  · have HS : Hid (mailsB x = false) := by simp [Hid, mailsB, h0]
    go_enter Tryd.func55, Tryd.ntmps55
    go_wp2
    go_ret
    exact ⟨ret_b HS.out, X⟩

end Go.Proofs.YthnlbhmecokomaaDoor

/- What slices.IndexFunc and slices.ContainsFunc of mails and of what went do. -/
namespace Go.Proofs.YthnlbhmecokomaaDoor
open Go.RowKit Go.Shelf
set_option maxRecDepth 100000
set_option linter.unusedVariables false

theorem firstI_hit' {α : Type} {p : α → Bool} {l : List α} {k : Nat} {x : α} (hk : k < l.length) (hx : l[k]? = some x) (h : p x = true) (hA : ∀ j x, j < k → l[j]? = some x → p x = false) : firstI p l = k := by
  have : l.findIdx? p = some k := by
    rw [List.findIdx?_eq_some_iff_getElem]
    refine ⟨hk, by rw [List.getElem?_eq_getElem hk] at hx; cases hx; exact h, fun j hj => ?_⟩
    rw [hA j _ hj (List.getElem?_eq_getElem (by omega))]; simp
  simp [firstI, this]
theorem firstI_none' {α : Type} {p : α → Bool} {l : List α} (hA : ∀ j x, j < l.length → l[j]? = some x → p x = false) : firstI p l = -1 := by
  have : l.findIdx? p = none := by
    rw [List.findIdx?_eq_none_iff]
    intro x hx
    obtain ⟨j, hj, rfl⟩ := List.getElem_of_mem hx
    exact hA j _ hj (List.getElem?_eq_getElem hj)
  simp [firstI, this]
def GoneV (_ : World) (v : Value) (x : GoneD) : Prop := v = .agg #[.int .i64 x.uid, .int .i64 x.seq]

set_option maxRecDepth 100000 in
set_option maxHeartbeats 1000000 in
theorem indexFuncMail (g : Nat) (lb : Array Value) (p : MailD → Bool) (v : Value) (l : List MailD) (w : World) (hv : MailsV w v l) (eg : ∀ args w, (callFunc g args).run Tryd.prog w = .ok (.enter g args) w)
    (hp : ∀ wi x u, Below w.heap.size w wi → MailV wi u x → Calls Tryd.prog g (#[u] ++ lb) wi fun e w' => e = .returned (.bool (p x)) ∧ Below wi.heap.size wi w') :
    Calls Tryd.prog 76 #[v, .func (.func g) #[] lb] w fun e w' => e = .returned (.int .i64 (firstI p l)) ∧ Below w.heap.size w w' := by
  have HV : Hid (∀ wi, Below w.heap.size w wi → MailsV wi v l) := fun wi h => hv.below keepsMail h
  have HP : Hid (∀ wi x u, Below w.heap.size w wi → MailV wi u x → Calls Tryd.prog g (#[u] ++ lb) wi fun e w' => e = .returned (.bool (p x)) ∧ Below wi.heap.size wi w') := hp
  obtain ⟨a, cap, rfl, hlc, hcm⟩ := hv.form
  clear hv hp
  go_enter Tryd.func76, Tryd.ntmps76
  go_wp2
  go_loopw [5, 8] (fun _ i wr => ∃ k : Nat, k ≤ l.length ∧ i = .int .i64 k ∧ Hid (∀ j x, j < k → l[j]? = some x → p x = false) ∧ Hid (Below w.heap.size w wr)) (fun _ i _ => l.length - (intOf i).toNat)
  case atStart => exact ⟨0, Nat.zero_le _, rfl, (fun j x hj => absurd hj (Nat.not_lt_zero _)), Below.refl _ _⟩
  case round =>
    obtain ⟨k, hk, rfl, hA, hB⟩ := hrel
    by_cases hlt : k < l.length
    · obtain ⟨x, hx⟩ : ∃ x, l[k]? = some x := ⟨l[k], List.getElem?_eq_getElem hlt⟩
      obtain ⟨b, off, cap', u, hv', hlb, d0, d1, d2, d3, hu, i0, i1, i2⟩ := MailsV.cell (HV.out wr hB.out) k x hx
      simp only [Value.slice.injEq, true_and] at hv'
      obtain ⟨rfl, rfl⟩ := hv'
      obtain ⟨ua, un, uc, rfl⟩ := hu.form3
      have hcall := HP.out wr x (.agg #[.int .i64 x.uid, .int .i64 x.flags, .int .i64 x.seq, .slice ua un uc]) hB.out ⟨_, rfl, hu, i0, i1, i2⟩
      have HX : Hid (l[k]? = some x) := hx
      clear hx
      cases hq : p x with
      | true =>
        rw [hq] at hcall
        have HQ : Hid (p x = true) := hq
        clear hq
        go_wp2_with (go_at_fn g; refine hcall.mono ?_; rintro e w1 ⟨rfl, B⟩)
        go_ret
        exact ⟨ret_i (firstI_hit' hlt HX.out HQ.out hA.out).symm, Below.step hB.out B⟩
      | false =>
        rw [hq] at hcall
        have HQ : Hid (p x = false) := hq
        clear hq
        go_wp2_with (go_at_fn g; refine hcall.mono ?_; rintro e w1 ⟨rfl, B⟩)
        have HB2 : Hid (Below w.heap.size w w1) := Below.step hB.out B
        clear B hB
        go_roundw
        case rel =>
          refine ⟨k + 1, by omega, by go_num, (show Hid _ from fun j y hj hy => ?_), HB2⟩
          by_cases e : j = k
          · subst e; rw [HX.out] at hy; cases hy; exact HQ.out
          · exact hA.out j y (by omega) hy
        case measure => simp [intOf]; omega
    · obtain rfl : k = l.length := by omega
      go_wp2
      go_ret
      exact ⟨ret_i (firstI_none' hA.out).symm, hB.out⟩

set_option maxRecDepth 100000 in
set_option maxHeartbeats 1000000 in
theorem containsFuncMail (g : Nat) (lb : Array Value) (p : MailD → Bool) (v : Value) (l : List MailD) (w : World) (hv : MailsV w v l) (eg : ∀ args w, (callFunc g args).run Tryd.prog w = .ok (.enter g args) w)
    (hp : ∀ wi x u, Below w.heap.size w wi → MailV wi u x → Calls Tryd.prog g (#[u] ++ lb) wi fun e w' => e = .returned (.bool (p x)) ∧ Below wi.heap.size wi w') :
    Calls Tryd.prog 67 #[v, .func (.func g) #[] lb] w fun e w' => e = .returned (.bool (l.any p)) ∧ Below w.heap.size w w' := by
  have hi := indexFuncMail g lb p v l w hv eg hp
  have HF : Hid (l.any p = decide (0 ≤ firstI p l)) := any_firstI p l
  generalize firstI p l = i at hi HF
  obtain ⟨a, cap, rfl, -⟩ := hv.form
  clear hp hv
  go_enter Tryd.func67, Tryd.ntmps67
  go_wp2_with (go_at_call 76; refine hi.mono ?_; rintro e w1 ⟨rfl, B⟩)
  go_ret
  exact ⟨ret_b HF.out, B⟩

set_option maxRecDepth 100000 in
set_option maxHeartbeats 1000000 in
theorem indexFuncGone (g : Nat) (lb : Array Value) (p : GoneD → Bool) (v : Value) (l : List GoneD) (w : World) (hv : GonesV w v l) (eg : ∀ args w, (callFunc g args).run Tryd.prog w = .ok (.enter g args) w)
    (hp : ∀ wi x u, Below w.heap.size w wi → GoneV wi u x → Calls Tryd.prog g (#[u] ++ lb) wi fun e w' => e = .returned (.bool (p x)) ∧ Below wi.heap.size wi w') :
    Calls Tryd.prog 77 #[v, .func (.func g) #[] lb] w fun e w' => e = .returned (.int .i64 (firstI p l)) ∧ Below w.heap.size w w' := by
  have HV : Hid (∀ wi, Below w.heap.size w wi → GonesV wi v l) := fun wi h => hv.below keepsGone h
  have HP : Hid (∀ wi x u, Below w.heap.size w wi → GoneV wi u x → Calls Tryd.prog g (#[u] ++ lb) wi fun e w' => e = .returned (.bool (p x)) ∧ Below wi.heap.size wi w') := hp
  obtain ⟨a, cap, rfl, hlc, hcm⟩ := hv.form
  clear hv hp
  go_enter Tryd.func77, Tryd.ntmps77
  go_wp2
  go_loopw [5, 8] (fun _ i wr => ∃ k : Nat, k ≤ l.length ∧ i = .int .i64 k ∧ Hid (∀ j x, j < k → l[j]? = some x → p x = false) ∧ Hid (Below w.heap.size w wr)) (fun _ i _ => l.length - (intOf i).toNat)
  case atStart => exact ⟨0, Nat.zero_le _, rfl, (fun j x hj => absurd hj (Nat.not_lt_zero _)), Below.refl _ _⟩
  case round =>
    obtain ⟨k, hk, rfl, hA, hB⟩ := hrel
    by_cases hlt : k < l.length
    · obtain ⟨x, hx⟩ : ∃ x, l[k]? = some x := ⟨l[k], List.getElem?_eq_getElem hlt⟩
      obtain ⟨b, off, cap', hv', hlb, d0, d1, i0, i1⟩ := GonesV.cell (HV.out wr hB.out) k x hx
      simp only [Value.slice.injEq, true_and] at hv'
      obtain ⟨rfl, rfl⟩ := hv'
      have hcall := HP.out wr x (.agg #[.int .i64 x.uid, .int .i64 x.seq]) hB.out rfl
      have HX : Hid (l[k]? = some x) := hx
      clear hx
      cases hq : p x with
      | true =>
        rw [hq] at hcall
        have HQ : Hid (p x = true) := hq
        clear hq
        go_wp2_with (go_at_fn g; refine hcall.mono ?_; rintro e w1 ⟨rfl, B⟩)
        go_ret
        exact ⟨ret_i (firstI_hit' hlt HX.out HQ.out hA.out).symm, Below.step hB.out B⟩
      | false =>
        rw [hq] at hcall
        have HQ : Hid (p x = false) := hq
        clear hq
        go_wp2_with (go_at_fn g; refine hcall.mono ?_; rintro e w1 ⟨rfl, B⟩)
        have HB2 : Hid (Below w.heap.size w w1) := Below.step hB.out B
        clear B hB
        go_roundw
        case rel =>
          refine ⟨k + 1, by omega, by go_num, (show Hid _ from fun j y hj hy => ?_), HB2⟩
          by_cases e : j = k
          · subst e; rw [HX.out] at hy; cases hy; exact HQ.out
          · exact hA.out j y (by omega) hy
        case measure => simp [intOf]; omega
    · obtain rfl : k = l.length := by omega
      go_wp2
      go_ret
      exact ⟨ret_i (firstI_none' hA.out).symm, hB.out⟩

set_option maxRecDepth 100000 in
set_option maxHeartbeats 1000000 in
theorem containsFuncGone (g : Nat) (lb : Array Value) (p : GoneD → Bool) (v : Value) (l : List GoneD) (w : World) (hv : GonesV w v l) (eg : ∀ args w, (callFunc g args).run Tryd.prog w = .ok (.enter g args) w)
    (hp : ∀ wi x u, Below w.heap.size w wi → GoneV wi u x → Calls Tryd.prog g (#[u] ++ lb) wi fun e w' => e = .returned (.bool (p x)) ∧ Below wi.heap.size wi w') :
    Calls Tryd.prog 69 #[v, .func (.func g) #[] lb] w fun e w' => e = .returned (.bool (l.any p)) ∧ Below w.heap.size w w' := by
  have hi := indexFuncGone g lb p v l w hv eg hp
  have HF : Hid (l.any p = decide (0 ≤ firstI p l)) := any_firstI p l
  generalize firstI p l = i at hi HF
  obtain ⟨a, cap, rfl, -⟩ := hv.form
  clear hp hv
  go_enter Tryd.func69, Tryd.ntmps69
  go_wp2_with (go_at_call 77; refine hi.mono ?_; rintro e w1 ⟨rfl, B⟩)
  go_ret
  exact ⟨ret_b HF.out, B⟩

end Go.Proofs.YthnlbhmecokomaaDoor
