/- The proof's texts, part 4. -/
import Derived.Test.YtmonloebkdpahaaDoorPart3
import Derived.Test.YtmonloebkdpahaaDoorPart2
import Derived.Lib.Bytealg
import Derived.Test.YtmonloebkdpahaaDoorPart1

/- What may be: boxes and accounts, as plain data. -/
namespace Go.Proofs.YtmonloebkdpahaaDoor

/-- The bytes of a list of numbers; which of two comes first. -/
def bts (l : List Int) : List UInt8 := l.map fun n => UInt8.ofNat n.toNat
def lessB (l m : List Int) : Bool := Op.bytesLess (bts l) (bts m)
theorem rangeAll_yes {n : Nat} {f : Nat → Bool} (h : ∀ j, j < n → f j = true) : (List.range n).all f = true := by
  rw [List.all_eq_true]; intro j hj; exact h j (List.mem_range.1 hj)
theorem rangeAll_no {n : Nat} {f : Nat → Bool} (j : Nat) (hj : j < n) (h : f j = false) : (List.range n).all f = false := by
  rw [List.all_eq_false]; exact ⟨j, List.mem_range.2 hj, by simp [h]⟩
def prevU (l : List MailD) : Nat → Int
  | 0 => 0
  | i + 1 => match l[i]? with | some m => m.uid | none => 0
def mailAt (b : BoxD) (i : Nat) : Bool := match b.mails[i]? with
  | some m => inB m.uid (prevU b.mails i + 1) (b.next - 1) && (inB m.flags 0 31 && (inB m.seq 1 b.seq && textB m.text))
  | none => true
def mailsB (b : BoxD) : Bool := decide (b.mails.length ≤ 12) && (List.range b.mails.length).all (mailAt b)
theorem prevU_ok {b : BoxD} {k : Nat} (hn : b.next ≤ 1000000) (hk : k ≤ b.mails.length) (h : ∀ j, j < k → mailAt b j = true) : 0 ≤ prevU b.mails k ∧ prevU b.mails k ≤ 1000000 := by
  induction k with
  | zero => simp [prevU]
  | succ k ih =>
    have h1 := ih (by omega) (fun j hj => h j (by omega))
    have h2 := h k (by omega)
    obtain ⟨m, hm⟩ : ∃ m, b.mails[k]? = some m := ⟨b.mails[k]'(by omega), List.getElem?_eq_getElem (by omega)⟩
    simp only [mailAt, hm, inB, Bool.and_eq_true, decide_eq_true_eq] at h2
    simp only [prevU, hm]
    omega

def minS (b : BoxD) : Nat → Int
  | 0 => max 1 b.lost
  | i + 1 => match b.gones[i]? with | some g => g.seq | none => 0
def goneAt (b : BoxD) (i : Nat) : Bool := match b.gones[i]? with
  | some g => inB g.uid 1 (b.next - 1) && (inB g.seq (minS b i) b.seq && (!(b.mails.any fun m => decide (m.uid = g.uid)) && !((b.gones.take i).any fun o => decide (o.uid = g.uid))))
  | none => true
def gonesB (b : BoxD) : Bool := decide (b.gones.length ≤ 40) && (List.range b.gones.length).all (goneAt b)
theorem minS_ok {b : BoxD} {k : Nat} (hk : k ≤ b.gones.length) (h : ∀ j, j < k → goneAt b j = true) : 1 ≤ minS b k ∧ b.lost ≤ minS b k := by
  induction k with
  | zero => simp only [minS]; omega
  | succ k ih =>
    have h1 := ih (by omega) (fun j hj => h j (by omega))
    have h2 := h k (by omega)
    obtain ⟨m, hm⟩ : ∃ m, b.gones[k]? = some m := ⟨b.gones[k]'(by omega), List.getElem?_eq_getElem (by omega)⟩
    simp only [goneAt, hm, inB, Bool.and_eq_true, decide_eq_true_eq] at h2
    simp only [minS, hm]
    omega

def boxB (b : BoxD) (valid : Int) : Bool := nameB b.name && (inB b.valid 1 valid && (inB b.next 1 1000000 && (inB b.seq 0 1000000 && (inB b.lost 0 b.seq && (mailsB b && gonesB b)))))
end Go.Proofs.YtmonloebkdpahaaDoor

/- Accounts as bytes, on lists. -/
namespace Go.Proofs.YtmonloebkdpahaaDoor
open Go.RowKit

end Go.Proofs.YtmonloebkdpahaaDoor

/- There and back: numbers and texts come back from their bytes, and bytes that are read are just the bytes of what was read. -/
namespace Go.Proofs.YtmonloebkdpahaaDoor
open Go.RowKit

end Go.Proofs.YtmonloebkdpahaaDoor

/- Accounts read from bytes, on lists: as the specification reads (a place below 0 says that nothing is there), and as the program reads (none says so); both come to the same. -/
namespace Go.Proofs.YtmonloebkdpahaaDoor
open Go.RowKit
set_option linter.unusedVariables false

/-- What was read from p up to q stands there as the bytes y. -/
def Wrt (l : List Int) (p q : Int) (y : List Int) : Prop := p ≤ q ∧ q ≤ l.length ∧ l.take q.toNat = l.take p.toNat ++ y
theorem Wrt.trans {l : List Int} {p q r : Int} {y z : List Int} (h : Wrt l p q y) (k : Wrt l q r z) : Wrt l p r (y ++ z) := ⟨by have := h.1; have := k.1; omega, k.2.1, by rw [k.2.2, h.2.2, List.append_assoc]⟩
end Go.Proofs.YtmonloebkdpahaaDoor

/- A cursor that is written while all else stays: what lies elsewhere, and what is new. -/
namespace Go.Proofs.YtmonloebkdpahaaDoor
open Go.RowKit

section
variable {w w' w'' : World} {g b : Nat}
theorem gr_at {o : Obj} (h : w.grownBy w' (some g)) (hb : w.heap[b]? = some o) (hne : b ≠ g) : w'.heap[b]? = some o := (h.block b (lt_of_heap hb) fun e => hne (by simpa using e)).trans hb
theorem Row.gr {B T : Nat} {v : Value} {l : List Int} (h : Row w B T v l) (hw : w.grownBy w' (some g)) (hd : g < B ∨ T ≤ g) : Row w' B T v l := h.drawn hw hd
variable {α : Type} {t : TypeId} {sz B T : Nat} {E : World → List Value → α → (Nat → Prop) → Prop} {v : Value} {l : List α}
theorem OwR.gr [Fr E] (h : OwR t sz E w B T v l) (hw : w.grownBy w' (some g)) (hd : g < B ∨ T ≤ g) : OwR t sz E w' B T v l :=
  Ow.frame Fr.out h fun b hb hlt => hw.block b hlt fun e => by have := hb.1; have := hb.2; simp only [Option.some.injEq] at e; omega
theorem OwR.gr' [Fr E] {row : Option Nat} (h : OwR t sz E w B T v l) (hw : w.grownBy w' row) (hd : ∀ j, row = some j → T ≤ j) : OwR t sz E w' B T v l :=
  Ow.frame Fr.out h fun b hb hlt => hw.block b hlt fun e => by have := hd b e.symm; have := hb.2; omega
end
theorem Row.gr' {w w' : World} {B T : Nat} {v : Value} {l : List Int} {row : Option Nat} (h : Row w B T v l) (hw : w.grownBy w' row) (hd : ∀ j, row = some j → T ≤ j) : Row w' B T v l := by
  refine ⟨h.1, ⟨h.2.1.1, ?_⟩, h.2.2⟩
  rcases h.2.1.2 with hn | ⟨g, cap, cur, hv, hg, hh, r⟩
  · exact .inl hn
  · have hlt : g < T := h.2.2 g (by rw [hv]; rfl)
    exact .inr ⟨g, cap, cur, hv, hg, (hw.block g (lt_of_heap hh) fun e => by have := hd g e.symm; omega).trans hh, r⟩
end Go.Proofs.YtmonloebkdpahaaDoor

/- What toByteS, eqByteS, markByteS, heldByteS of package laws do. -/
namespace Go.Proofs.YtmonloebkdpahaaDoor
open Go.RowKit
set_option maxRecDepth 100000

/-- the first k bytes of l laid over noughts -/
def laid (l : List Int) (k : Nat) : List Int := l.take k ++ List.replicate (l.length - k) 0
/-- n marks from k on: what markByteS writes. -/
def marks (k : Int) (n : Nat) : List Int := (List.range n).map fun (i : Nat) => (k + (i : Int)) % 256
end Go.Proofs.YtmonloebkdpahaaDoor

/- What toMail, toMailS of package laws do. -/
namespace Go.Proofs.YtmonloebkdpahaaDoor
open Go.RowKit
set_option maxRecDepth 100000
set_option linter.unusedVariables false

theorem infoMail : (Tryd.prog.info? 54).map (fun i => (i.zero, i.size, i.bytes)) = some (some (.agg #[.int .i64 0, .int .i64 0, .int .i64 0, .slice none 0 0]), 4, 48) := by kernel_rfl

end Go.Proofs.YtmonloebkdpahaaDoor

/- What toGone, toGoneS of package laws do. -/
namespace Go.Proofs.YtmonloebkdpahaaDoor
open Go.RowKit
set_option maxRecDepth 100000
set_option linter.unusedVariables false

theorem infoGone : (Tryd.prog.info? 57).map (fun i => (i.zero, i.size, i.bytes)) = some (some (.agg #[.int .i64 0, .int .i64 0]), 2, 16) := by kernel_rfl

end Go.Proofs.YtmonloebkdpahaaDoor

/- What toBox, toBoxS of package laws do. -/
namespace Go.Proofs.YtmonloebkdpahaaDoor
open Go.RowKit
set_option maxRecDepth 100000
set_option linter.unusedVariables false

theorem infoBox : (Tryd.prog.info? 35).map (fun i => (i.zero, i.size, i.bytes)) = some (some (.agg #[.slice none 0 0, .int .i64 0, .int .i64 0, .int .i64 0, .slice none 0 0, .slice none 0 0, .int .i64 0]), 7, 104) := by kernel_rfl

end Go.Proofs.YtmonloebkdpahaaDoor

/- Replies and rows of names in memory: what they read as, and those of the call's own. -/
namespace Go.Proofs.YtmonloebkdpahaaDoor
open Go.RowKit

structure RepD where
  code : Int
  num : Int
  box : BoxD
  names : List (List Int)

def NameRE (w : World) (c : List Value) (l : List Int) : Prop := ∃ u, c = [u] ∧ Bs w u l
abbrev NamesV := Rd 1 NameRE
theorem keepsName : Keeps NameRE := fun _ _ _ _ hb h => let ⟨u, h0, h1⟩ := h; ⟨u, h0, h1.below hb⟩
def NameE (w : World) (c : List Value) (l : List Int) (S : Nat → Prop) : Prop := ∃ u, c = [u] ∧ RO w S u l
theorem framesName : Frames NameE := fun _ _ _ _ _ h hw => let ⟨u, h0, h1⟩ := h; ⟨u, h0, h1.frame hw⟩
instance : Fr NameE := ⟨framesName⟩
abbrev NamesO := Ow 22 1 NameE
theorem NameE.rd {w : World} {c : List Value} {l : List Int} {S : Nat → Prop} (h : NameE w c l S) : NameRE w c l := let ⟨u, h0, h1⟩ := h; ⟨u, h0, h1.bs⟩
theorem NamesV.cell {w : World} {v : Value} {l : List (List Int)} (h : NamesV w v l) (k : Nat) (x : List Int) (hx : l[k]? = some x) : ∃ b off cap u, v = .slice (some ⟨b, off, none⟩) l.length cap ∧ b < w.heap.size ∧ w.cell? ⟨b, off + k, none⟩ = some u ∧ Bs w u x := by
  obtain ⟨b, off, cap, c, hv, hlt, ⟨u, rfl, hi⟩, -, hc⟩ := h.get k x hx
  exact ⟨b, off, cap, u, hv, hlt, by simpa using hc 0 _ rfl, hi⟩
/-- The value v reads as a reply. -/
def RepV (w : World) (v : Value) (x : RepD) : Prop := ∃ u0 u1 u2 u3, v = .agg #[.int .i64 x.code, .int .i64 x.num, u0, .int .i64 x.box.valid, .int .i64 x.box.next, .int .i64 x.box.seq, u1, u2, .int .i64 x.box.lost, u3] ∧ BoxV w (.agg #[u0, .int .i64 x.box.valid, .int .i64 x.box.next, .int .i64 x.box.seq, u1, u2, .int .i64 x.box.lost]) x.box ∧ NamesV w u3 x.names ∧ I64 x.code ∧ I64 x.num
theorem RepV.below {w w' : World} {v : Value} {x : RepD} (h : RepV w v x) (hb : Below w.heap.size w w') : RepV w' v x :=
  let ⟨u0, u1, u2, u3, h0, h1, h2, i⟩ := h; ⟨u0, u1, u2, u3, h0, h1.below hb, h2.below keepsName hb, i⟩
/-- A reply of the call's own in blocks from B on and below T. -/
def RepR (w : World) (B T : Nat) (v : Value) (x : RepD) : Prop :=
  ∃ u0 u1 u2 u3 T0, v = .agg #[.int .i64 x.code, .int .i64 x.num, u0, .int .i64 x.box.valid, .int .i64 x.box.next, .int .i64 x.box.seq, u1, u2, .int .i64 x.box.lost, u3] ∧ BoxE w [u0, .int .i64 x.box.valid, .int .i64 x.box.next, .int .i64 x.box.seq, u1, u2, .int .i64 x.box.lost] x.box (In B T0) ∧ NamesO w (In T0 T) u3 x.names ∧ B ≤ T0 ∧ T0 ≤ T ∧ I64 x.code ∧ I64 x.num
theorem BoxE.wide {w : World} {c : List Value} {b : BoxD} {S S' : Nat → Prop} (h : BoxE w c b S) (hS : ∀ x, S x → S' x) : BoxE w c b S' :=
  let ⟨u0, u1, u2, S0, S1, S2, h0, h1, h2, h3, d0, d1, d2, r⟩ := h
  ⟨u0, u1, u2, S0, S1, S2, h0, h1, h2, h3, fun x hx => ⟨hS x (d0 x hx).1, (d0 x hx).2⟩, fun x hx => ⟨hS x (d1 x hx).1, (d1 x hx).2⟩, fun x hx => hS x (d2 x hx), r⟩
theorem BoxE.set {w : World} {g i B T : Nat} {c : List Value} {x : Value} {b : BoxD} (h : BoxE w c b (In B T)) (hd : g < B ∨ T ≤ g) : BoxE (w.setCell ⟨g, i, none⟩ x) c b (In B T) :=
  framesBox _ _ _ _ _ h fun b hb hlt => Below.heap_setCell _ _ _ _ (by have := hb.1; have := hb.2; show b ≠ g; omega)
section
variable {w w' : World} {B T B' T' : Nat} {v : Value} {y : RepD}
theorem RepR.below (h : RepR w B T v y) (hb : Below w.heap.size w w') : RepR w' B T v y :=
  let ⟨u0, u1, u2, u3, T0, h0, h1, h2, r⟩ := h; ⟨u0, u1, u2, u3, T0, h0, framesBox _ _ _ _ _ h1 fun b _ hlt => hb.block b hlt, h2.below framesName hb, r⟩
theorem RepR.wide (h : RepR w B T v y) (hB : B' ≤ B) (hT : T ≤ T') : RepR w B' T' v y :=
  let ⟨u0, u1, u2, u3, T0, h0, h1, h2, j0, j1, i⟩ := h
  ⟨u0, u1, u2, u3, T0, h0, h1.wide fun x hx => ⟨Nat.le_trans hB hx.1, hx.2⟩, h2.mono fun x hx => ⟨hx.1, Nat.lt_of_lt_of_le hx.2 hT⟩, by omega, by omega, i⟩
end
theorem bx10 {w : World} {g : Nat} {t : TypeId} {c0 c1 c2 c3 c4 c5 c6 c7 c8 c9 : Value} (h : w.heap[g]? = some (.cells #[c0, c1, c2, c3, c4, c5, c6, c7, c8, c9] t (0, 0))) :
    w.cell? ⟨g, 0, none⟩ = some c0 ∧ w.cell? ⟨g, 1, none⟩ = some c1 ∧ w.cell? ⟨g, 2, none⟩ = some c2 ∧ w.cell? ⟨g, 3, none⟩ = some c3 ∧ w.cell? ⟨g, 4, none⟩ = some c4 ∧ w.cell? ⟨g, 5, none⟩ = some c5 ∧ w.cell? ⟨g, 6, none⟩ = some c6 ∧ w.cell? ⟨g, 7, none⟩ = some c7 ∧ w.cell? ⟨g, 8, none⟩ = some c8 ∧ w.cell? ⟨g, 9, none⟩ = some c9 :=
  ⟨by rw [cell_of_row w g 0 _ t (0, 0) h]; rfl, by rw [cell_of_row w g 1 _ t (0, 0) h]; rfl, by rw [cell_of_row w g 2 _ t (0, 0) h]; rfl, by rw [cell_of_row w g 3 _ t (0, 0) h]; rfl, by rw [cell_of_row w g 4 _ t (0, 0) h]; rfl, by rw [cell_of_row w g 5 _ t (0, 0) h]; rfl, by rw [cell_of_row w g 6 _ t (0, 0) h]; rfl, by rw [cell_of_row w g 7 _ t (0, 0) h]; rfl, by rw [cell_of_row w g 8 _ t (0, 0) h]; rfl, by rw [cell_of_row w g 9 _ t (0, 0) h]; rfl⟩
theorem box10l {w : World} {g : Nat} {t : TypeId} {c0 c1 c2 c3 c4 c5 c6 c7 c8 c9 : Value} (h : w.heap[g]? = some (.cells #[c0, c1, c2, c3, c4, c5, c6, c7, c8, c9] t (0, 0))) :
    w.cell? ⟨g, 0, none⟩ = some c0 ∧ w.cell? ⟨g, 1, none⟩ = some c1 ∧ w.cell? ⟨g, 2, none⟩ = some c2 ∧ w.cell? ⟨g, 3, none⟩ = some c3 ∧ w.cell? ⟨g, 4, none⟩ = some c4 ∧ w.cell? ⟨g, 5, none⟩ = some c5 ∧ w.cell? ⟨g, 6, none⟩ = some c6 ∧ w.cell? ⟨g, 7, none⟩ = some c7 ∧ w.cell? ⟨g, 8, none⟩ = some c8 ∧ w.cell? ⟨g, 9, none⟩ = some c9 ∧ g < w.heap.size := by
  obtain ⟨f0, f1, f2, f3, f4, f5, f6, f7, f8, f9⟩ := bx10 h
  exact ⟨f0, f1, f2, f3, f4, f5, f6, f7, f8, f9, lt_of_heap h⟩

/-- A reply's shape laid open, and its parts. -/
theorem RepV.form {w : World} {v : Value} {x : RepD} (h : RepV w v x) : ∃ a0 n0 c0 a1 c1 a2 c2 a3 c3, v = .agg #[.int .i64 x.code, .int .i64 x.num, .slice a0 n0 c0, .int .i64 x.box.valid, .int .i64 x.box.next, .int .i64 x.box.seq, .slice a1 x.box.mails.length c1, .slice a2 x.box.gones.length c2, .int .i64 x.box.lost, .slice a3 x.names.length c3] := by
  obtain ⟨u0, u1, u2, u3, rfl, ⟨p0, p1, p2, e, q0, q1, q2, -⟩, q3, -⟩ := h
  simp only [Value.agg.injEq, Array.mk.injEq, List.cons.injEq, and_true, true_and] at e
  obtain ⟨rfl, rfl, rfl⟩ := e
  obtain ⟨a0, n0, c0, rfl⟩ := q0.form3
  obtain ⟨a1, c1, rfl, -⟩ := q1.form
  obtain ⟨a2, c2, rfl, -⟩ := q2.form
  obtain ⟨a3, c3, rfl, -⟩ := q3.form
  exact ⟨_, _, _, _, _, _, _, _, _, rfl⟩
theorem RepV.parts {w : World} {z0 z1 z2 z3 : Value} {x : RepD} (h : RepV w (.agg #[.int .i64 x.code, .int .i64 x.num, z0, .int .i64 x.box.valid, .int .i64 x.box.next, .int .i64 x.box.seq, z1, z2, .int .i64 x.box.lost, z3]) x) : BoxV w (.agg #[z0, .int .i64 x.box.valid, .int .i64 x.box.next, .int .i64 x.box.seq, z1, z2, .int .i64 x.box.lost]) x.box ∧ NamesV w z3 x.names ∧ I64 x.code ∧ I64 x.num := by
  obtain ⟨u0, u1, u2, u3, e, h1, h2, i⟩ := h
  simp only [Value.agg.injEq, Array.mk.injEq, List.cons.injEq, and_true, true_and] at e
  obtain ⟨rfl, rfl, rfl, rfl⟩ := e
  exact ⟨h1, h2, i⟩

end Go.Proofs.YtmonloebkdpahaaDoor
