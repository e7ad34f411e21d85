/- The proof's texts, part 2. -/
import Derived.WalkKit
import Derived.WalkSpells
import Derived.WalkLawsBesides
import Derived.Laws.AppendOwnNone
import Derived.Laws.CopyOwn
import Derived.Test.YtlegmiaoablcgaaGreatDoorRows
import Derived.Deep.QuietTactic
import Derived.BigQuiet
import Derived.Laws.BytesArg
import Derived.Lib.ItoaNum
import Derived.Lib.AppendStr
import Derived.Test.YtlegmiaoablcgaaGreatDoorPart1
import Derived.Lib.AppendIntMem
import Derived.Lib.AtoiAll
import Derived.Deep.RegionHeld3
import Derived.Lib.AtoiErrMem

/- Plain facts on bytes in memory: what a slice reads as, what a call owns; no program is named here. -/
namespace Go.Proofs.YtlegmiaoablcgaaGreatDoor
open Go.RowKit

/-- Every number of the list is a byte. -/
def Oct (l : List Int) : Prop := ∀ x ∈ l, 0 ≤ x ∧ x ≤ 255
/-- The cells of a list of bytes. -/
def vals (l : List Int) : List Value := l.map (Value.int .u8)

theorem length_vals (l : List Int) : (vals l).length = l.length := by simp [vals]
theorem vals_append (a b : List Int) : vals (a ++ b) = vals a ++ vals b := by simp [vals]
theorem vals_get (l : List Int) (i : Nat) (h : i < l.length) : (vals l)[i]? = some (.int .u8 (l.getD i 0)) := by
  simp [vals, h]
theorem oct_nil : Oct [] := by intro x hx; simp at hx
theorem oct_append {a b : List Int} (ha : Oct a) (hb : Oct b) : Oct (a ++ b) := by
  intro x hx
  rcases List.mem_append.1 hx with h | h
  · exact ha x h
  · exact hb x h
theorem oct_get {l : List Int} (h : Oct l) (i : Nat) : 0 ≤ l.getD i 0 ∧ l.getD i 0 ≤ 255 := by
  by_cases hi : i < l.length
  · have : l.getD i 0 = l[i] := by simp [hi]
    rw [this]; exact h _ (List.getElem_mem hi)
  · have : l.getD i 0 = 0 := by simp [Nat.not_lt.1 hi]
    rw [this]; omega
theorem oct_take {l : List Int} (h : Oct l) (k : Nat) : Oct (l.take k) := fun x hx => h x (List.mem_of_mem_take hx)
theorem oct_drop {l : List Int} (h : Oct l) (k : Nat) : Oct (l.drop k) := fun x hx => h x (List.mem_of_mem_drop hx)
theorem oneCell_vals (l : List Int) : ∀ u ∈ vals l, u.oneCell' = true := ints_oneCell .u8 l

/-- The slice value v reads in the world w as the bytes l. -/
def Bs (w : World) (v : Value) (l : List Int) : Prop :=
  Oct l ∧ ∃ a cap, v = .slice a l.length cap ∧ l.length ≤ cap ∧ cap ≤ maxLen ∧ (a = none → cap = 0) ∧
    (0 < l.length → ∃ b off, a = some ⟨b, off, none⟩ ∧ b < w.heap.size ∧ ∀ i, i < l.length → w.cell? ⟨b, off + i, none⟩ = some (.int .u8 (l.getD i 0)))

/-- The slice value v is nil, or it lies at the head of block g, whose first cells are the bytes l; nobody else need be asked ahead of a store there. -/
def Own (w : World) (g : Nat) (v : Value) (l : List Int) : Prop :=
  Oct l ∧ ((v = .slice none 0 0 ∧ l = []) ∨
    ∃ cap cur, v = .slice (some ⟨g, 0, none⟩) l.length cap ∧ w.heap[g]? = some (.cells cur 5 (0, 0)) ∧ l.length ≤ cap ∧ cap ≤ maxLen ∧ cur.size = cap ∧ cur.toList.take l.length = vals l)

theorem Own.row {w : World} {g : Nat} {v : Value} {l : List Int} (h : Own w g v l) : w.ownsRow g 5 1 v l.length (vals l) := by
  refine ⟨by simp [length_vals], ?_⟩
  rcases h.2 with ⟨hv, hl⟩ | ⟨cap, cur, hv, hh, h1, h2, h3, h4⟩
  · exact .inl ⟨hv, by simp [hl]⟩
  · exact .inr ⟨g, cap, cur, hv, Nat.le_refl _, hh, h1, h2, by simpa using h3, by simpa using h4⟩

theorem lt_of_heap {w : World} {g : Nat} {o : Obj} (h : w.heap[g]? = some o) : g < w.heap.size := (Array.getElem?_eq_some_iff.1 h).1

theorem Own.bs {w : World} {g : Nat} {v : Value} {l : List Int} (h : Own w g v l) : Bs w v l := by
  refine ⟨h.1, ?_⟩
  rcases h.2 with ⟨hv, hl⟩ | ⟨cap, cur, hv, hh, h1, h2, h3, h4⟩
  · subst hl
    exact ⟨none, 0, by simpa using hv, by simp, by simp, fun _ => rfl, fun h => by simp at h⟩
  · refine ⟨_, cap, hv, h1, h2, (fun h => by cases h), fun hp => ⟨g, 0, rfl, lt_of_heap hh, fun i hi => ?_⟩⟩
    rw [Nat.zero_add, cell_of_row w g i cur 5 (0, 0) hh]
    have e := vals_get l i hi
    rw [← h4, List.getElem?_take, if_pos hi] at e
    simpa using e

/-- What is kept while nothing below the heap's size turns. -/
theorem Bs.below {w w' : World} {v : Value} {l : List Int} (h : Bs w v l) (hb : Below w.heap.size w w') : Bs w' v l := by
  obtain ⟨ho, a, cap, hv, h1, h2, h3, h4⟩ := h
  refine ⟨ho, a, cap, hv, h1, h2, h3, fun hp => ?_⟩
  obtain ⟨b, off, ha, hlt, hc⟩ := h4 hp
  exact ⟨b, off, ha, Nat.lt_of_lt_of_le hlt hb.size, fun i hi => (hb.cell (p := ⟨b, off + i, none⟩) hlt).trans (hc i hi)⟩

theorem Own.below {w w' : World} {g : Nat} {v : Value} {l : List Int} (h : Own w g v l) (hb : Below w.heap.size w w') : Own w' g v l := by
  refine ⟨h.1, ?_⟩
  rcases h.2 with hn | ⟨cap, cur, hv, hh, r⟩
  · exact .inl hn
  · exact .inr ⟨cap, cur, hv, (hb.block g (lt_of_heap hh)).trans hh, r⟩

/-- What is kept while other blocks are written. -/
theorem Own.kept {w w' : World} {g k : Nat} {v : Value} {l : List Int} (h : Own w g v l) (hk : w.grownBy w' (some k)) (hne : g ≠ k) : Own w' g v l := by
  refine ⟨h.1, ?_⟩
  rcases h.2 with hn | ⟨cap, cur, hv, hh, r⟩
  · exact .inl hn
  · exact .inr ⟨cap, cur, hv, (hk.block g (lt_of_heap hh) (by simpa using hne)).trans hh, r⟩

theorem Own.grow {w w' : World} {g : Nat} {v : Value} {l : List Int} (h : Own w g v l) (hk : w.grownBy w' none) : Own w' g v l := by
  refine ⟨h.1, ?_⟩
  rcases h.2 with hn | ⟨cap, cur, hv, hh, r⟩
  · exact .inl hn
  · exact .inr ⟨cap, cur, hv, (hk.block g (lt_of_heap hh) (by simp)).trans hh, r⟩

/-- A row that was made whole. -/
theorem own_made {w : World} {g : Nat} {l : List Int} (ho : Oct l) (hm : l.length ≤ maxLen) (hh : w.heap[g]? = some (.cells (vals l).toArray 5 (0, 0))) :
    Own w g (.slice (some ⟨g, 0, none⟩) l.length l.length) l :=
  ⟨ho, .inr ⟨l.length, _, rfl, hh, Nat.le_refl _, hm, by simp [length_vals], by simp [← length_vals]⟩⟩

/-- A row that 'make' has laid. -/
theorem made_heap {w : World} {B g n : Nat} {e : TypeId} {z : Value} (hown : w.ownsRow B e 1 (.slice (some ⟨g, 0, none⟩) n n) n (madeCells #[z] n).toList) :
    w.heap[g]? = some (.cells (List.replicate n z).toArray e (0, 0)) := by
  rcases hown.2 with ⟨h, _⟩ | ⟨g', c, cur, h, _, hh, _, _, h3, h4⟩
  · simp at h
  · simp only [Value.slice.injEq, Option.some.injEq, Addr.mk.injEq, and_true, true_and] at h
    obtain ⟨rfl, rfl⟩ := h
    rw [Nat.mul_one, toList_madeCells_one, List.take_of_length_le (by simp; omega)] at h4
    rw [← h4]
    simpa using hh

theorem grownBy_setCell {w wr : World} {g j : Nat} {u : Value} (h : w.grownBy wr (some g)) : w.grownBy (wr.setCell ⟨g, j, none⟩ u) (some g) :=
  ⟨h.os, h.tape, h.output, by have := h.size; simpa [World.setCell] using this, fun k hk hne => (Below.heap_setCell wr ⟨g, j, none⟩ u k (by simpa using hne)).trans (h.block k hk hne)⟩

theorem grownBy_trans {w w1 w2 : World} {r : Option Nat} (h : w.grownBy w1 r) (h' : w1.grownBy w2 r) : w.grownBy w2 r :=
  ⟨h'.os.trans h.os, h'.tape.trans h.tape, h'.output.trans h.output, Nat.le_trans h.size h'.size, fun k hk hne => (h'.block k (Nat.lt_of_lt_of_le hk h.size) hne).trans (h.block k hk hne)⟩

theorem below_drewN {w w1 : World} {B : Nat} (n : Nat) (h : Below B w w1) : Below B w (w1.drewN n) := ⟨h.os, h.tape, h.output, h.size, h.block⟩
theorem Own.drewN {w : World} {g : Nat} {v : Value} {l : List Int} (n : Nat) (h : Own w g v l) : Own (w.drewN n) g v l := h
theorem Bs.drewN {w : World} {v : Value} {l : List Int} (n : Nat) (h : Bs w v l) : Bs (w.drewN n) v l := h

/-- Out of the kit's word on a row that the call owns. -/
theorem own_of_row {w : World} {B n : Nat} {v : Value} {l : List Int} (ho : Oct l) (hn : n = l.length) (h : w.ownsRow B 5 1 v n (vals l)) : ∃ g, B ≤ g ∧ Own w g v l := by
  subst hn
  rcases h.2 with ⟨hv, hl⟩ | ⟨g, cap, cur, hv, hB, hh, h1, h2, h3, h4⟩
  · exact ⟨B, Nat.le_refl _, ho, .inl ⟨hv, List.eq_nil_of_length_eq_zero hl⟩⟩
  · exact ⟨g, hB, ho, .inr ⟨cap, cur, hv, hh, h1, h2, by simpa using h3, by simpa using h4⟩⟩

/-- The bytes of a number: seven bits a byte, the lowest first; f more bytes may follow. -/
def enc : Nat → Int → List Int
  | 0, n => [n]
  | f + 1, n => if 127 < n then (n % 128 + 128) :: enc f (n / 128) else [n]

theorem enc_length (f : Nat) (n : Int) : 1 ≤ (enc f n).length ∧ (enc f n).length ≤ f + 1 := by
  induction f generalizing n with
  | zero => simp [enc]
  | succ f ih =>
    unfold enc
    split
    · have := ih (n / 128); simp; omega
    · simp
theorem enc_oct (f : Nat) (n : Int) (h0 : 0 ≤ n) (h1 : n < 128 * 128 ^ f) : Oct (enc f n) := by
  induction f generalizing n with
  | zero => intro x hx; simp [enc] at hx; subst hx; simp at h1; omega
  | succ f ih =>
    unfold enc
    split
    · intro x hx
      rcases List.mem_cons.1 hx with rfl | hx
      · omega
      · refine ih (n / 128) (by omega) ?_ x hx
        rw [Int.pow_succ] at h1
        omega
    · intro x hx; simp at hx; subst hx; omega

/-- What PutNum answers, as a list. -/
def putL (b : List Int) (n : Int) : List Int := if 0 ≤ n ∧ n ≤ 2147483647 then b ++ enc 4 n else b
theorem putL_oct {b : List Int} (hb : Oct b) (n : Int) : Oct (putL b n) := by
  unfold putL
  split
  · exact oct_append hb (enc_oct 4 n (by omega) (by omega))
  · exact hb
theorem putL_length (b : List Int) (n : Int) : b.length ≤ (putL b n).length ∧ (putL b n).length ≤ b.length + 5 := by
  unfold putL
  split
  · have := enc_length 4 n; simp; omega
  · omega

end Go.Proofs.YtlegmiaoablcgaaGreatDoor

/- append of bytes to a row of the call's own, as one law for the walk: what is appended may be nil. -/
namespace Go.Proofs.YtlegmiaoablcgaaGreatDoor
open Go.RowKit

/-- The value v is nil or lies at the head of a block from B on, whose first cells are the bytes l. -/
def OwnB (w : World) (B : Nat) (v : Value) (l : List Int) : Prop := ∃ g, B ≤ g ∧ Own w g v l

theorem OwnB.bs {w : World} {B : Nat} {v : Value} {l : List Int} (h : OwnB w B v l) : Bs w v l := let ⟨_, _, h⟩ := h; h.bs
theorem OwnB.oct {w : World} {B : Nat} {v : Value} {l : List Int} (h : OwnB w B v l) : Oct l := let ⟨_, _, h⟩ := h; h.1
theorem OwnB.row {w : World} {B : Nat} {v : Value} {l : List Int} (h : OwnB w B v l) : w.ownsRow B 5 1 v l.length (vals l) := by
  obtain ⟨g, hB, h⟩ := h
  have h' := h.row
  refine ⟨h'.1, ?_⟩
  rcases h'.2 with h' | ⟨g', cap, cur, hv, hg, r⟩
  · exact .inl h'
  · exact .inr ⟨g', cap, cur, hv, Nat.le_trans hB hg, r⟩
theorem OwnB.alloc {w : World} {B : Nat} {v : Value} {l : List Int} (h : OwnB w B v l) (o : Obj) : OwnB (w.alloc o) B v l :=
  let ⟨g, hB, h⟩ := h; ⟨g, hB, h.grow (World.grownBy_alloc w o none)⟩
theorem OwnB.below {w w' : World} {B : Nat} {v : Value} {l : List Int} (h : OwnB w B v l) (hb : Below w.heap.size w w') : OwnB w' B v l :=
  let ⟨g, hB, h⟩ := h; ⟨g, hB, h.below hb⟩
theorem ownB_empty (w : World) (B : Nat) (hB : B ≤ w.heap.size) : OwnB (w.alloc (.cells #[] 5)) B (.slice (some ⟨w.heap.size, 0, none⟩) 0 0) [] :=
  ⟨w.heap.size, hB, oct_nil, .inr ⟨0, #[], rfl, heap_alloc_new w _, by simp, by simp, rfl, by simp [vals]⟩⟩

/-- One byte in a new block of its own: what 'append(out, x)' lays ahead. -/
theorem bs_one (w : World) (x : Int) (h : 0 ≤ x ∧ x ≤ 255) : Bs (w.alloc (.cells #[.int .u8 x] 5)) (.slice (some ⟨w.heap.size, 0, none⟩) 1 1) [x] := by
  refine ⟨by intro y hy; simp at hy; subst hy; exact h, _, 1, rfl, by simp, by decide, (fun h => by cases h), fun _ => ⟨w.heap.size, 0, rfl, by simp, fun i hi => ?_⟩⟩
  have : i = 0 := by simp at hi; omega
  subst this
  simp

theorem Bs.alloc {w : World} {v : Value} {l : List Int} (h : Bs w v l) (o : Obj) : Bs (w.alloc o) v l :=
  h.below ((Below.refl _ _).alloc (Nat.le_refl _) o)

theorem Addr.add_none (b off j : Nat) : (⟨b, off, none⟩ : Addr).add j = ⟨b, off + j, none⟩ := Addr.add_lit ..

theorem wpList_append_bytes {P : Program} {w : World} {ops : Array Oper} {rest : List Oper} {o : Oper} {a : Act} {Q : Exit → Act → World → Prop} (hgd : o.guard = none) (s x : Operand) (t : TypeId)
    (ho : o.op = .call { callee := .builtin .append, args := #[s, x], argTypes := #[t, t] })
    (i : TypeInfo) (ht : P.underlying t = some (.slice 5)) (hi : P.info? 5 = some i) (hz : i.zero = some (.int .u8 0)) (hsize : i.size = 1) (hby : i.bytes = 1)
    (B : Nat) (v : Value) (l : List Int) (hs : a.eval s = v) (hown : OwnB w B v l) (u : Value) (m : List Int) (hx : a.eval x = u) (hm : Bs w u m)
    (hlen : l.length + m.length ≤ 140737488355328) (hbase : B ≤ w.heap.size) (w0 : World) (hb : Below B w0 w)
    (h : ∀ v' w', OwnB w' B v' (l ++ m) → Below B w0 w' → w.grownBy w' v.ownBlock → wpList P ops Q rest (a.put o.dst v') w') : wpList P ops Q (o :: rest) a w := by
  obtain ⟨hmo, ad, cap, hu, h1, h2, h3, h4⟩ := hm
  have hr := hown.row
  cases ad with
  | none =>
    have : cap = 0 := h3 rfl
    subst this
    have : m = [] := List.eq_nil_of_length_eq_zero (by omega)
    subst this
    refine wpList_append_own_none hgd s x t ho B 5 i 1 ht hi v l.length (vals l) hs hr (by rw [hx, hu]; rfl) ?_
    exact h v w (by simpa using hown) hb (World.grownBy.refl _ _)
  | some ad =>
    have hl : l.length + m.length ≤ maxLen := by unfold maxLen; omega
    refine wpList_append_own w hgd s x t ho B 5 i (.int .u8 0) 1 1 ht hi hz hsize hby rfl (by omega) v l.length (vals l) hs hr ad m.length cap (vals m) (by rw [hx, hu]) (by simp [length_vals]) ?_ (oneCell_vals m) hl (by omega) hbase ?_
    · intro j y hy
      have hj : j < m.length := by have := (List.getElem?_eq_some_iff.1 hy).1; simpa [length_vals] using this
      obtain ⟨b, off, had, _, hc⟩ := h4 (by omega)
      cases had
      rw [Addr.add_lit, hc j hj, ← hy, vals_get m j hj]
    · intro v' w' hown' hg _
      obtain ⟨g, hgB, hg'⟩ := own_of_row (n := l.length + m.length) (oct_append hown.oct hmo) (by simp) (by rw [vals_append]; exact hown')
      exact h v' w' ⟨g, hgB, hg'⟩ (hb.grown hg hbase (fun k hk => (hr.lt k hk).1)) hg

theorem enc_hi (f : Nat) (m : Int) (h : 127 < m) : enc (f + 1) m = (m % 128 + 128) :: enc f (m / 128) := by simp [enc, h]
theorem enc_lo (f : Nat) (m : Int) (h : ¬ 127 < m) : enc f m = [m] := by cases f <;> simp [enc, h]
theorem enc_step {xs l : List Int} {f : Nat} {m n : Int} (h : 127 < m) (e : xs ++ enc (f + 1) m = l ++ enc 4 n) : (xs ++ [m % 128 + 128]) ++ enc f (m / 128) = l ++ enc 4 n := by
  rw [← e, enc_hi f m h]; simp

end Go.Proofs.YtlegmiaoablcgaaGreatDoor

/- What GetNum answers, on lists. -/
namespace Go.Proofs.YtlegmiaoablcgaaGreatDoor
open Go.RowKit

/-- Reads a number off the list: f bytes may still come, i have come, n is what they gave, sc the next one's weight. -/
def dec : Nat → Nat → Int → Int → List Int → Option (Int × Nat)
  | 0, _, _, _, _ => none
  | _ + 1, _, _, _, [] => none
  | f + 1, i, n, sc, x :: r =>
    if x < 128 then (if (x = 0 ∧ 0 < i) ∨ 2147483647 < n + x % 128 * sc then none else some (n + x % 128 * sc, i + 1))
    else dec f (i + 1) (n + x % 128 * sc) (sc * 128) r

/-- What GetNum answers. -/
def outOf (at' : Int) : Option (Int × Nat) → Int × Int
  | some (n, k) => (n, at' + k)
  | none => (0, -1)
def getL (l : List Int) (at' : Int) : Int × Int := if at' < 0 then (0, -1) else outOf at' (dec 5 0 0 1 (l.drop at'.toNat))

theorem drop_get (l : List Int) (k : Nat) (h : k < l.length) : l.drop k = l.getD k 0 :: l.drop (k + 1) := by
  rw [List.drop_eq_getElem_cons h]; simp [h]
theorem dec_end (f i : Nat) (n sc : Int) (l : List Int) (k : Nat) (h : l.length ≤ k) : dec f i n sc (l.drop k) = none := by
  rw [List.drop_eq_nil_of_le h]; cases f <;> rfl
theorem dec_more (f i : Nat) (n sc : Int) (l : List Int) (k : Nat) (h : k < l.length) (hx : ¬ l.getD k 0 < 128) :
    dec (f + 1) i n sc (l.drop k) = dec f (i + 1) (n + l.getD k 0 % 128 * sc) (sc * 128) (l.drop (k + 1)) := by
  rw [drop_get l k h]; simp only [dec]; rw [if_neg hx]
theorem dec_bad (f i : Nat) (n sc : Int) (l : List Int) (k : Nat) (h : k < l.length) (hx : l.getD k 0 < 128) (hb : (l.getD k 0 = 0 ∧ 0 < i) ∨ 2147483647 < n + l.getD k 0 % 128 * sc) :
    dec (f + 1) i n sc (l.drop k) = none := by
  rw [drop_get l k h]; simp only [dec]; rw [if_pos hx, if_pos hb]
theorem dec_good (f i : Nat) (n sc : Int) (l : List Int) (k : Nat) (h : k < l.length) (hx : l.getD k 0 < 128) (hb : ¬ ((l.getD k 0 = 0 ∧ 0 < i) ∨ 2147483647 < n + l.getD k 0 % 128 * sc)) :
    dec (f + 1) i n sc (l.drop k) = some (n + l.getD k 0 % 128 * sc, i + 1) := by
  rw [drop_get l k h]; simp only [dec]; rw [if_pos hx, if_neg hb]

theorem ret2 {a b : Int} {p : Int × Int} (h : p = (a, b)) : Ending.returned (.tuple #[.int .i64 a, .int .i64 b]) = .returned (.tuple #[.int .i64 p.1, .int .i64 p.2]) := by rw [h]

theorem ret2' {a b a' b' : Int} {p : Int × Int} (h : p = (a', b')) (e1 : a = a') (e2 : b = b') : Ending.returned (.tuple #[.int .i64 a, .int .i64 b]) = .returned (.tuple #[.int .i64 p.1, .int .i64 p.2]) := by rw [h, e1, e2]

end Go.Proofs.YtlegmiaoablcgaaGreatDoor

/- copy of bytes into a row of the call's own, as one law for the walk: what is copied may be nil. -/
namespace Go.Proofs.YtlegmiaoablcgaaGreatDoor
open Go.RowKit

theorem vals_splice (cur : List Int) (off : Nat) (m : List Int) : vals (splice cur off m) = splice (vals cur) off (vals m) := by simp [splice, vals, List.map_take, List.map_drop]
theorem splice_two (Z A B : List Int) (h : Z.length = A.length + B.length) : splice (splice Z 0 A) A.length B = A ++ B := by
  have h1 : (A ++ Z.drop A.length).drop (A.length + B.length) = [] := List.drop_eq_nil_of_le (by simp; omega)
  simp [splice, h1]

theorem wpList_copy_bytes {P : Program} {w : World} {ops : Array Oper} {rest : List Oper} {o : Oper} {a : Act} {Q : Exit → Act → World → Prop} (hgd : o.guard = none) (d s : Operand) (dT sT : TypeId)
    (ho : o.op = .call { callee := .builtin .copy, args := #[d, s], argTypes := #[dT, sT] }) (hu : P.underlying dT = some (.slice 5)) (hsz : (P.info? 5).map (·.size) = some 1)
    (dp : Option Addr) (dLen dCap : Nat) (hd : a.eval d = .slice dp dLen dCap) (u : Value) (m : List Int) (hs : a.eval s = u) (hm : Bs w u m) (k : Nat) (hk : k = Nat.min m.length dLen)
    (g off : Nat) (cur : List Int) (hg : w.heap[g]? = some (.cells (vals cur).toArray 5 (0, 0)))
    (hpos : 0 < k → dp = some ⟨g, off, none⟩) (hfit : off + k ≤ cur.length) (B : Nat) (w0 : World) (hb : Below B w0 w) (hBg : B ≤ g)
    (h : ∀ w', Hid (w'.heap[g]? = some (.cells (vals (splice cur off (m.take k))).toArray 5 (0, 0))) → Below B w0 w' → wpList P ops Q rest (a.put o.dst (goInt k)) w') :
    wpList P ops Q (o :: rest) a w := by
  obtain ⟨hmo, ad, cap, hv, h1, h2, h3, h4⟩ := hm
  have hkm : k ≤ m.length := by rw [hk]; exact Nat.min_le_left ..
  have hl : (m.take k).length = k := by simp; omega
  refine wpList_copy_splice hgd d s dT sT ho 5 hu hsz dp ad dLen dCap m.length cap hd (by rw [hs, hv]) g off (vals cur) 5 hg (vals (m.take k)) (by rw [length_vals, hl, hk]) ?_ (by rw [length_vals, length_vals, hl]; exact hfit) (oneCell_vals _) B w0 hb hBg ?_
  · intro hp
    rw [length_vals, hl] at hp
    obtain ⟨b, off', had, _, hc⟩ := h4 (by omega)
    refine ⟨hpos hp, _, had, fun j v hj => ?_⟩
    have hj' : j < k := by have := (List.getElem?_eq_some_iff.1 hj).1; rw [length_vals, hl] at this; exact this
    rw [Addr.add_lit, hc j (by omega), ← hj, vals_get _ j (by rw [hl]; exact hj')]
    simp [hj']
  · intro w' hg' hb'
    rw [length_vals, hl]
    exact h w' (by rw [vals_splice]; exact hg') hb'

end Go.Proofs.YtlegmiaoablcgaaGreatDoor

/- Rows of bytes that lie in blocks from B on and below T: so that two of them are seen to be apart. -/
namespace Go.Proofs.YtlegmiaoablcgaaGreatDoor
open Go.RowKit

/-- The value v is nil, or lies at the head of a block from B on and below T; its bytes are l. -/
def Row (w : World) (B T : Nat) (v : Value) (l : List Int) : Prop :=
  Oct l ∧ w.ownsRow B 5 1 v l.length (vals l) ∧ ∀ g, v.ownBlock = some g → g < T

theorem OwnB.toRow {w : World} {B : Nat} {v : Value} {l : List Int} (h : OwnB w B v l) : Row w B w.heap.size v l := ⟨h.oct, h.row, fun g hg => (h.row.lt g hg).2⟩
/-- A row whose block is known. -/
theorem Own.toRow {w : World} {g : Nat} {v : Value} {l : List Int} (h : Own w g v l) : Row w g (g + 1) v l := by
  refine ⟨h.1, h.row, fun k hk => ?_⟩
  rcases h.2 with ⟨hv, _⟩ | ⟨cap, cur, hv, _⟩
  · rw [hv] at hk; simp [Value.ownBlock] at hk
  · rw [hv] at hk; simp [Value.ownBlock] at hk; omega
theorem Row.oct {w : World} {B T : Nat} {v : Value} {l : List Int} (h : Row w B T v l) : Oct l := h.1
theorem Row.own {w : World} {B T : Nat} {v : Value} {l : List Int} (h : Row w B T v l) : OwnB w B v l := own_of_row h.1 rfl h.2.1
theorem Row.bs {w : World} {B T : Nat} {v : Value} {l : List Int} (h : Row w B T v l) : Bs w v l := h.own.bs
theorem Row.wide {w : World} {B T B' T' : Nat} {v : Value} {l : List Int} (h : Row w B T v l) (hB : B' ≤ B) (hT : T ≤ T') : Row w B' T' v l := by
  refine ⟨h.1, ⟨h.2.1.1, ?_⟩, fun g hg => Nat.lt_of_lt_of_le (h.2.2 g hg) hT⟩
  rcases h.2.1.2 with hn | ⟨g, cap, cur, hv, hg, r⟩
  · exact .inl hn
  · exact .inr ⟨g, cap, cur, hv, Nat.le_trans hB hg, r⟩
theorem Row.below {w w' : World} {B T : Nat} {v : Value} {l : List Int} (h : Row w B T v l) (hb : Below w.heap.size w w') : Row w' B T v l :=
  ⟨h.1, (h.own.below hb).row, h.2.2⟩
/-- Another row was written. -/
theorem Row.kept {w w' : World} {B T B' T' : Nat} {v u : Value} {l m : List Int} (h : Row w B T v l) (hu : Row w B' T' u m) (hg : w.grownBy w' u.ownBlock) (hd : T ≤ B' ∨ T' ≤ B) : Row w' B T v l := by
  refine ⟨h.1, h.2.1.kept hg ?_, h.2.2⟩
  cases hv : v.ownBlock with
  | none => exact .inl rfl
  | some g =>
    refine .inr fun e => ?_
    have h1 := (h.2.1.lt g hv).1
    have h2 := h.2.2 g hv
    have h3 := (hu.2.1.lt g e.symm).1
    have h4 := hu.2.2 g e.symm
    omega
theorem Row.nil (w : World) (B T : Nat) : Row w B T (.slice none 0 0) [] := ⟨oct_nil, World.ownsRow_nil _ _ _ _, fun g hg => by simp [Value.ownBlock] at hg⟩
/-- What lies below the row's blocks has not turned. -/
theorem Row.wrote {w0 w w' : World} {B T : Nat} {u : Value} {m : List Int} (hu : Row w B T u m) (hg : w.grownBy w' u.ownBlock) (hb : Below w0.heap.size w0 w) (hB : w0.heap.size ≤ B) : Below w0.heap.size w0 w' :=
  hb.grown hg hb.size (fun k hk => Nat.le_trans hB (hu.2.1.lt k hk).1)

/-- A row stays while another block is written. -/
theorem Row.drawn {w w' : World} {g B T : Nat} {v : Value} {l : List Int} (h : Row w B T v l) (hw : w.grownBy w' (some g)) (hd : g < B ∨ T ≤ g) : Row w' B T v l := by
  refine ⟨h.1, h.2.1.kept hw ?_, h.2.2⟩
  cases hv : v.ownBlock with
  | none => exact .inl rfl
  | some k =>
    refine .inr fun e => ?_
    have h1 := (h.2.1.lt k hv).1
    have h2 := h.2.2 k hv
    simp only [Option.some.injEq] at e
    omega
/-- A row stays while a cell of another block is written. -/
theorem Row.set {w : World} {g i B T : Nat} {v x : Value} {l : List Int} (h : Row w B T v l) (hd : g < B ∨ T ≤ g) : Row (w.setCell ⟨g, i, none⟩ x) B T v l :=
  h.drawn (grownBy_setCell (World.grownBy.refl _ _)) hd
theorem below_of_drewN {w w' : World} (h : ∃ n, w' = w.drewN n) : Below w.heap.size w w' := by
  obtain ⟨n, rfl⟩ := h; exact below_drewN n (Below.refl _ _)
theorem Below.step {w w1 w2 : World} (h : Below w.heap.size w w1) (h' : Below w1.heap.size w1 w2) : Below w.heap.size w w2 := h.trans (h'.mono h.size)

end Go.Proofs.YtlegmiaoablcgaaGreatDoor

/- Closed facts on the program's types that the walks use. -/
namespace Go.Proofs.YtlegmiaoablcgaaGreatDoor
open Go.RowKit

theorem info5 : (Tryz.prog.info? 5).map (fun i => (i.zero, i.size, i.bytes)) = some (some (.int .u8 0), 1, 1) := by kernel_rfl
theorem sz5 : (Tryz.prog.info? 5).map (·.size) = some 1 := by kernel_rfl
theorem size5 (W : World) : (sizeOf 5).run Tryz.prog W = .ok 1 W := by kernel_rfl
theorem bs_nil (w : World) : Bs w (.slice none 0 0) [] := ⟨oct_nil, none, 0, rfl, by simp, by simp, fun _ => rfl, fun h => absurd h (by simp)⟩

end Go.Proofs.YtlegmiaoablcgaaGreatDoor

/- The bytes of a slice as a string. -/
namespace Go.Proofs.YtlegmiaoablcgaaGreatDoor
open Go.RowKit

theorem underlyingStr : Tryz.prog.underlying 9 = some .string := by kernel_rfl

/-- The bytes of a slice as a string. -/
theorem run_convert_bs {w : World} {v : Value} {l : List Int} (h : Bs w v l) : (convert 22 9 v).run Tryz.prog w = .ok (.string (strOfNums l)) w := by
  obtain ⟨ho, a, cap, rfl, h1, h2, h3, h4⟩ := h
  cases a with
  | none =>
    have hc := h3 rfl
    have : l = [] := List.eq_nil_of_length_eq_zero (by omega)
    subst this
    exact run_convert_bytes_nil w 22 5 Tryz.underlying22 Tryz.underlying5 _ _ 9 underlyingStr
  | some x =>
    by_cases h0 : l = []
    · subst h0
      rw [run_convert_bytes_string w 22 9 5 _ _ _ Tryz.underlying22 Tryz.underlying5 underlyingStr]
      exact run_bytesToString w x 0 cap [] (by simp [loadCells, loadCellsFrom])
    · obtain ⟨b, off, hx, _, hc⟩ := h4 (List.length_pos_iff.2 h0)
      cases hx
      exact run_convert_bytes_arg w 22 5 Tryz.underlying22 Tryz.underlying5 b off l.length cap l rfl hc 9 underlyingStr

end Go.Proofs.YtlegmiaoablcgaaGreatDoor

/- Numbers, flags and texts as lines have them, on lists. -/
namespace Go.Proofs.YtlegmiaoablcgaaGreatDoor
open Go.RowKit

theorem flat_len {α : Type} (f : α → List Int) (c : Nat) (l : List α) (h : ∀ x, x ∈ l → (f x).length ≤ c) : (l.flatMap f).length ≤ c * l.length := by
  induction l with
  | nil => simp
  | cons x l ih =>
    have h1 := h x (by simp)
    have h2 := ih fun y hy => h y (by simp [hy])
    simp only [List.flatMap_cons, List.length_append, List.length_cons, Nat.mul_add]
    omega
theorem flat_step {α : Type} (f : α → List Int) {l : List α} {j : Nat} {x : α} (h : l[j]? = some x) : (l.take (j + 1)).flatMap f = (l.take j).flatMap f ++ f x := by
  have hj : j < l.length := (List.getElem?_eq_some_iff.1 h).1
  rw [List.take_succ_eq_append_getElem hj, (List.getElem?_eq_some_iff.1 h).2]
  simp

def ofU8 (l : List UInt8) : List Int := l.map fun b => (b.toNat : Int)
theorem ofU8_append (a b : List UInt8) : ofU8 (a ++ b) = ofU8 a ++ ofU8 b := by simp [ofU8]
theorem ofU8_oct (l : List UInt8) : Oct (ofU8 l) := by
  intro x hx
  obtain ⟨b, _, rfl⟩ := List.mem_map.1 hx
  have := b.toNat_lt
  omega
/-- The decimal digits of a number. -/
def digB (n : Nat) : List Int := ofU8 (Lib.decDigits n)
theorem digB_small {n : Nat} (h : n < 10) : digB n = [48 + (n : Int)] := by
  rw [digB, Lib.decDigits, dif_pos h]
  simp only [ofU8, List.map_cons, List.map_nil, List.cons.injEq, and_true]
  rw [UInt8.toNat_ofNat']
  omega
theorem digB_big {n : Nat} (h : ¬ n < 10) : digB n = digB (n / 10) ++ [48 + ((n % 10 : Nat) : Int)] := by
  rw [digB, Lib.decDigits, dif_neg h, ofU8_append, digB]
  congr 1
  simp only [ofU8, List.map_cons, List.map_nil, List.cons.injEq, and_true]
  rw [UInt8.toNat_ofNat']
  omega
theorem digB_len (n : Nat) : (digB n).length ≤ n + 1 := by
  induction n using Nat.strongRecOn with
  | ind n ih =>
    by_cases h : n < 10
    · rw [digB_small h]; simp
    · rw [digB_big h]
      have := ih (n / 10) (by omega)
      simp only [List.length_append, List.length_cons, List.length_nil]
      omega
theorem digB_len10 {n : Nat} (h : n ≤ 9999999) : (digB n).length ≤ 8 := by
  have step : ∀ k : Nat, ∀ n : Nat, n < 10 ^ (k + 1) → (digB n).length ≤ k + 1 := by
    intro k
    induction k with
    | zero => intro n hn; rw [digB_small (by omega)]; simp
    | succ k ih =>
      intro n hn
      by_cases h : n < 10
      · rw [digB_small h]; simp
      · rw [digB_big h]
        have := ih (n / 10) (by rw [Nat.pow_succ] at hn; omega)
        simp only [List.length_append, List.length_cons, List.length_nil]
        omega
  exact Nat.le_trans (step 6 n (by omega)) (by omega)

/-- A byte of a text between quotes. -/
def escB (x : Int) : List Int := if x = 34 ∨ x = 92 then [92, x] else [x]
def quoB (t : List Int) : List Int := [34] ++ t.flatMap escB ++ [34]
theorem escB_len (x : Int) : (escB x).length ≤ 2 := by unfold escB; split <;> simp

/-- Flags: a letter for each that is there. -/
def letB (i : Nat) : Int := match i with
  | 0 => 83
  | 1 => 65
  | 2 => 70
  | 3 => 68
  | _ => 82
def flagAt (f : Int) (i : Nat) : List Int := if f.toNat / 2 ^ i % 2 = 1 then [letB i] else []
def flagsB (f : Int) : List Int := [40] ++ (List.range 5).flatMap (flagAt f) ++ [41]

end Go.Proofs.YtlegmiaoablcgaaGreatDoor

/- Strings put behind bytes of the call's own. -/
namespace Go.Proofs.YtlegmiaoablcgaaGreatDoor
open Go.RowKit

theorem strCells_nums {s : List Int} (h : Oct s) : Lib.strCells (strOfNums s) = vals s := by
  unfold Lib.strCells vals
  rw [strOfNums_data, List.map_map]
  refine List.map_congr_left fun x hx => ?_
  have := h x hx
  simp only [Function.comp]
  rw [UInt8.toNat_ofNat']
  congr 1
  omega

theorem wpList_append_str {P : Program} {w : World} {ops : Array Oper} {rest : List Oper} {o : Oper} {a : Act} {Q : Exit → Act → World → Prop} (hgd : o.guard = none) (s x : Operand) (t u : TypeId)
    (ho : o.op = .call { callee := .builtin .append, args := #[s, x], argTypes := #[t, u] })
    (i : TypeInfo) (ht : P.underlying t = some (.slice 5)) (hu : P.underlying u = some .string) (hi : P.info? 5 = some i) (hz : i.zero = some (.int .u8 0)) (hsize : i.size = 1) (hby : i.bytes = 1)
    (B : Nat) (v : Value) (l : List Int) (hs : a.eval s = v) (hown : OwnB w B v l) (m : List Int) (hx : a.eval x = .string (strOfNums m)) (hm : Oct m)
    (hlen : l.length + m.length ≤ 140737488355328) (hbase : B ≤ w.heap.size) (w0 : World) (hb : Below B w0 w)
    (h : ∀ v' w', OwnB w' B v' (l ++ m) → Below B w0 w' → w.grownBy w' v.ownBlock → wpList P ops Q rest (a.put o.dst v') w') : wpList P ops Q (o :: rest) a w := by
  have hr := hown.row
  have hl : l.length + (strOfNums m).size ≤ maxLen := by rw [strOfNums_size]; unfold maxLen; omega
  refine Lib.wpList_append_own_string (w := w) hgd s x t u ho B 5 i ht hu hi hz hsize hby v l.length (vals l) hs hr (strOfNums m) hx hl (by rw [strOfNums_size]; exact hlen) hbase ?_
  intro v' w' hown' hg _
  rw [strOfNums_size, strCells_nums hm] at hown'
  obtain ⟨g, hgB, hg'⟩ := own_of_row (n := l.length + m.length) (oct_append hown.oct hm) (by simp) (by rw [vals_append]; exact hown')
  exact h v' w' ⟨g, hgB, hg'⟩ (hb.grown hg hbase (fun k hk => (hr.lt k hk).1)) hg

end Go.Proofs.YtlegmiaoablcgaaGreatDoor

/- strconv.Itoa, out of the library's contract. -/
namespace Go.Proofs.YtlegmiaoablcgaaGreatDoor
open Go.RowKit

/-- The library's table of powers reads as its start-up lays it. -/
abbrev Tab10 (w : World) : Prop := Lib.TabIs Tryz.prog w "internal/strconv.uint64pow10" .u64 Lib.pow10Tab
theorem str_dig (n : Nat) : (⟨(Lib.decDigits n).toArray⟩ : ByteArray) = strOfNums (digB n) := by
  unfold strOfNums digB ofU8
  rw [List.map_map]
  congr 2
  conv => lhs; rw [← List.map_id (Lib.decDigits n)]
  refine List.map_congr_left fun b _ => ?_
  simp

theorem itoa_b (n : Nat) (hn : n ≤ 9999999) (w : World) (ht : Tab10 w) :
    Calls Tryz.prog 66 #[.int .i64 n] w fun e w' => e = .returned (.string (strOfNums (digB n))) ∧ Below w.heap.size w w' := by
  refine (Tryz.strconv_Itoa (n : Int) (by omega) (by omega) w ht).mono ?_
  rintro e w' ⟨rfl, k, os, rfl⟩
  refine ⟨?_, Lib.below_grow _ w (Nat.le_refl _) k os⟩
  rw [← str_dig]
  have : Lib.itoa (n : Int) = Lib.decDigits n := by
    unfold Lib.itoa
    rw [if_neg (by omega)]
    simp
  rw [this]

end Go.Proofs.YtlegmiaoablcgaaGreatDoor

/- Strings made of bytes are the same just where the bytes are. -/
namespace Go.Proofs.YtlegmiaoablcgaaGreatDoor
open Go.RowKit

def u8s (l : List Int) : List UInt8 := l.map fun n => UInt8.ofNat n.toNat
theorem u8s_inj : ∀ {l m : List Int}, Oct l → Oct m → u8s l = u8s m → l = m
  | [], [], _, _, _ => rfl
  | [], _ :: _, _, _, h => by simp [u8s] at h
  | _ :: _, [], _, _, h => by simp [u8s] at h
  | x :: l, y :: m, hl, hm, h => by
    simp only [u8s, List.map_cons, List.cons.injEq] at h
    have h1 : x = y := by
      have hx := hl x (by simp)
      have hy := hm y (by simp)
      have := congrArg UInt8.toNat h.1
      simp only [UInt8.toNat_ofNat'] at this
      rw [Nat.mod_eq_of_lt (by omega), Nat.mod_eq_of_lt (by omega)] at this
      omega
    rw [h1, u8s_inj (fun z hz => hl z (by simp [hz])) (fun z hz => hm z (by simp [hz])) h.2]
theorem str_list (l : List Int) : (strOfNums l).toList = u8s l := by
  rw [ByteArray.toList_eq]
  rfl
theorem str_same {l m : List Int} (hl : Oct l) (hm : Oct m) : ((strOfNums l).toList == (strOfNums m).toList) = decide (l = m) := by
  rw [str_list, str_list, Bool.eq_iff_iff]
  simp only [beq_iff_eq, decide_eq_true_eq]
  exact ⟨u8s_inj hl hm, fun h => by rw [h]⟩

end Go.Proofs.YtlegmiaoablcgaaGreatDoor

/- Names, texts and commands as plain lists and numbers: no program is named here. -/
namespace Go.Proofs.YtlegmiaoablcgaaGreatDoor

theorem ret_b {a b : Bool} (h : b = a) : Ending.returned (.bool a) = .returned (.bool b) := by rw [h]

/-- Every number of the list lies between two. -/
def allIn (lo hi : Int) (l : List Int) : Bool := l.all fun x => decide (lo ≤ x) && decide (x ≤ hi)
/-- A name: one to six small letters. -/
def nameB (l : List Int) : Bool := decide (1 ≤ l.length) && (decide (l.length ≤ 6) && allIn 97 122 l)
/-- A text: at most thirty bytes that can be seen. -/
def textB (l : List Int) : Bool := decide (l.length ≤ 30) && allIn 32 126 l
/-- A number lies between two. -/
def inB (n lo hi : Int) : Bool := decide (lo ≤ n) && decide (n ≤ hi)

theorem allIn_yes {lo hi : Int} {l : List Int} (h : ∀ j, j < l.length → lo ≤ l.getD j 0 ∧ l.getD j 0 ≤ hi) : allIn lo hi l = true := by
  unfold allIn
  rw [List.all_eq_true]
  intro x hx
  obtain ⟨j, hj, rfl⟩ := List.getElem_of_mem hx
  have := h j hj
  simp [hj] at this
  simp [this]
theorem allIn_no {lo hi : Int} {l : List Int} (j : Nat) (hj : j < l.length) (h : ¬ (lo ≤ l.getD j 0 ∧ l.getD j 0 ≤ hi)) : allIn lo hi l = false := by
  cases e : allIn lo hi l with
  | false => rfl
  | true =>
    exfalso
    unfold allIn at e
    rw [List.all_eq_true] at e
    have := e _ (List.getElem_mem hj)
    simp [hj] at h
    simp at this
    omega

theorem ret_i {k : IntKind} {a b : Int} (h : a = b) : Ending.returned (.int k a) = .returned (.int k b) := by rw [h]
/-- The place of the first that fits; -1 where there is none. -/
def firstI {α : Type} (p : α → Bool) (l : List α) : Int := match l.findIdx? p with | some i => i | none => -1
theorem firstI_hit {p : Int → Bool} {l : List Int} {k : Nat} (hk : k < l.length) (h : p (l.getD k 0) = true) (hA : ∀ j, j < k → p (l.getD j 0) = false) : firstI p l = k := by
  have : l.findIdx? p = some k := by
    rw [List.findIdx?_eq_some_iff_getElem]
    refine ⟨hk, by simpa [hk] using h, fun j hj => ?_⟩
    have := hA j hj
    simp [show j < l.length by omega] at this
    simp [this]
  simp [firstI, this]
theorem firstI_none {p : Int → Bool} {l : List Int} (hA : ∀ j, j < l.length → p (l.getD j 0) = false) : firstI p l = -1 := by
  have : l.findIdx? p = none := by
    rw [List.findIdx?_eq_none_iff]
    intro x hx
    obtain ⟨j, hj, rfl⟩ := List.getElem_of_mem hx
    have := hA j hj
    simpa [hj] using this
  simp [firstI, this]
theorem any_firstI {α : Type} (p : α → Bool) (l : List α) : l.any p = decide (0 ≤ firstI p l) := by
  unfold firstI
  cases h : l.findIdx? p with
  | none =>
    rw [List.findIdx?_eq_none_iff] at h
    simp only [show ¬ (0 : Int) ≤ -1 by omega, decide_false]
    rw [List.any_eq_false]
    intro x hx
    simp [h x hx]
  | some i =>
    rw [List.findIdx?_eq_some_iff_getElem] at h
    obtain ⟨hi, hp, -⟩ := h
    simp only [show (0 : Int) ≤ (i : Int) by omega, decide_true]
    rw [List.any_eq_true]
    exact ⟨_, List.getElem_mem hi, hp⟩

/-- Which kinds have a second name, a number of a mail, flags and how, a number of a change, a text. -/
def toB (k : Int) : Bool := decide (k = 6)
def uidB (k : Int) : Bool := decide (k = 3) || (decide (k = 5) || decide (k = 6))
def modeB (k : Int) : Bool := decide (k = 2) || (decide (k = 3) || decide (k = 6))
def sinceB (k : Int) : Bool := decide (k = 3) || decide (k = 8)
def textsB (k : Int) : Bool := decide (k = 2)

/-- A command that may be. -/
def cmdB (k : Int) (bx tt : List Int) (uid mode fl si : Int) (tx : List Int) : Bool :=
  decide (0 ≤ k ∧ k ≤ 9) && (if k = 9 then decide (bx.length = 0) else nameB bx) && (if k = 6 then nameB tt else decide (tt.length = 0)) &&
  (if k = 3 ∨ k = 5 ∨ k = 6 then inB uid 1 1000000 else decide (uid = 0)) && inB mode 0 (if k = 3 then 2 else if k = 6 then 1 else 0) &&
  inB fl 0 (if k = 2 ∨ k = 3 then 31 else 0) && inB si 0 (if k = 3 ∨ k = 8 then 1000000 else 0) && (if k = 2 then textB tx else decide (tx.length = 0))

theorem nameB_len {l : List Int} (h : nameB l = true) : 1 ≤ l.length ∧ l.length ≤ 6 := by unfold nameB at h; simp at h; exact ⟨h.1, h.2.1⟩
theorem textB_nil {l : List Int} (h : l.length = 0) : textB l = true := by
  have : l = [] := List.eq_nil_of_length_eq_zero h
  subst this; rfl
theorem nameB_nil {l : List Int} (h : l.length = 0) : nameB l = false := by
  have : l = [] := List.eq_nil_of_length_eq_zero h
  subst this; rfl

end Go.Proofs.YtlegmiaoablcgaaGreatDoor

/- Commands as texts, on lists. -/
namespace Go.Proofs.YtlegmiaoablcgaaGreatDoor
open Go.RowKit

def kindW (k : Int) : List Int :=
  if k = 0 then [67, 82, 69, 65, 84, 69] else if k = 1 then [68, 69, 76, 69, 84, 69] else if k = 2 then [65, 80, 80, 69, 78, 68] else if k = 3 then [83, 84, 79, 82, 69] else if k = 4 then [69, 88, 80, 85, 78, 71, 69] else if k = 5 then [70, 69, 84, 67, 72] else if k = 6 then [67, 79, 80, 89] else if k = 7 then [83, 84, 65, 84, 85, 83] else if k = 8 then [67, 72, 65, 78, 71, 69, 83] else [76, 73, 83, 84]
def modeW (m : Int) : List Int := if m = 0 then [73, 83] else if m = 1 then [87, 73, 84, 72] else [87, 73, 84, 72, 79, 85, 84]
def sinceW : List Int := [83, 73, 78, 67, 69]
def awayW : List Int := [65, 87, 65, 89]
/-- What stands behind the kind's word. -/
def toksB (k : Int) (bx tt : List Int) (uid mode fl si : Int) (tx : List Int) : List (List Int) :=
  if k = 9 then [] else if k = 2 then [bx, flagsB fl, quoB tx]
  else if k = 3 then (if 0 < si then [bx, digB uid.toNat, modeW mode, flagsB fl, sinceW, digB si.toNat] else [bx, digB uid.toNat, modeW mode, flagsB fl])
  else if k = 5 then [bx, digB uid.toNat]
  else if k = 6 then (if mode = 1 then [bx, digB uid.toNat, tt, awayW] else [bx, digB uid.toNat, tt])
  else if k = 8 then [bx, digB si.toNat] else [bx]
/-- What CmdText answers. -/
def ctB (k : Int) (bx tt : List Int) (uid mode fl si : Int) (tx : List Int) : List Int := match cmdB k bx tt uid mode fl si tx with
  | true => kindW k ++ (toksB k bx tt uid mode fl si tx).flatMap (fun s => [32] ++ s)
  | false => []

end Go.Proofs.YtlegmiaoablcgaaGreatDoor

/- Logs in memory: what a log reads as; a log of the call's own; what is written within a range of blocks. -/
namespace Go.Proofs.YtlegmiaoablcgaaGreatDoor
open Go.RowKit

/-- Old blocks outside the range from B on and below T are as they were. -/
structure Within (B T : Nat) (w w' : World) : Prop where
  os : w'.os = w.os
  tape : w'.tape = w.tape
  output : w'.output = w.output
  size : w.heap.size ≤ w'.heap.size
  block : ∀ k, k < w.heap.size → ¬ (B ≤ k ∧ k < T) → w'.heap[k]? = w.heap[k]?

theorem Within.refl (B T : Nat) (w : World) : Within B T w w := ⟨rfl, rfl, rfl, Nat.le_refl _, fun _ _ _ => rfl⟩
theorem Within.trans {B T : Nat} {a b c : World} (h : Within B T a b) (k : Within B T b c) : Within B T a c :=
  ⟨k.os.trans h.os, k.tape.trans h.tape, k.output.trans h.output, Nat.le_trans h.size k.size, fun i hi hn => (k.block i (Nat.lt_of_lt_of_le hi h.size) hn).trans (h.block i hi hn)⟩
theorem Within.wide {B T B' T' : Nat} {a b : World} (h : Within B T a b) (hB : B' ≤ B) (hT : T ≤ T') : Within B' T' a b :=
  ⟨h.os, h.tape, h.output, h.size, fun i hi hn => h.block i hi (fun hc => hn ⟨by omega, by omega⟩)⟩
theorem Within.ofBelow {B T : Nat} {a b : World} (h : Below a.heap.size a b) : Within B T a b := ⟨h.os, h.tape, h.output, h.size, fun k hk _ => h.block k hk⟩
theorem Within.below {B T : Nat} {w0 w w' : World} (h : Within B T w w') (hb : Below w0.heap.size w0 w) (hB : w0.heap.size ≤ B) : Below w0.heap.size w0 w' :=
  ⟨h.os.trans hb.os, h.tape.trans hb.tape, h.output.trans hb.output, Nat.le_trans hb.size h.size, fun k hk => (h.block k (Nat.lt_of_lt_of_le hk hb.size) (by omega)).trans (hb.block k hk)⟩

theorem Row.within {w w' : World} {B T : Nat} {u : Value} {m : List Int} (hu : Row w B T u m) (hg : w.grownBy w' u.ownBlock) : Within B T w w' :=
  ⟨hg.os, hg.tape, hg.output, hg.size, fun k hk hn => hg.block k hk (fun e => hn ⟨(hu.2.1.lt k e.symm).1, hu.2.2 k e.symm⟩)⟩
/-- A row apart from what was written stays. -/
theorem Row.keptW {w w' : World} {B T B' T' : Nat} {v : Value} {l : List Int} (h : Row w B T v l) (hw : Within B' T' w w') (hd : T ≤ B' ∨ T' ≤ B) : Row w' B T v l := by
  refine ⟨h.1, ⟨h.2.1.1, ?_⟩, h.2.2⟩
  rcases h.2.1.2 with hn | ⟨g, cap, cur, hv, hg, hh, r⟩
  · exact .inl hn
  · have hlt : g < T := h.2.2 g (by rw [hv]; rfl)
    exact .inr ⟨g, cap, cur, hv, hg, (hw.block g (lt_of_heap hh) (by omega)).trans hh, r⟩

theorem Bs.form {w : World} {v : Value} {l : List Int} (h : Bs w v l) : ∃ a cap, v = .slice a l.length cap := by obtain ⟨_, a, cap, h, _⟩ := h; exact ⟨a, cap, h⟩

theorem Bs.form3 {w : World} {v : Value} {l : List Int} (h : Bs w v l) : ∃ a n cap, v = .slice a n cap := by obtain ⟨_, a, cap, h, _⟩ := h; exact ⟨a, _, cap, h⟩

/-- A slice's first bytes. -/
theorem bs_first {w : World} {a : Option Addr} {cap : Nat} {l : List Int} (h : Bs w (.slice a l.length cap) l) (n : Nat) (hn : n ≤ l.length) : Bs w (.slice a n cap) (l.take n) := by
  obtain ⟨ho, a', cap', hv, h1, h2, h3, h4⟩ := h
  simp only [Value.slice.injEq] at hv
  obtain ⟨rfl, -, rfl⟩ := hv
  have hl : (l.take n).length = n := by simp; omega
  refine ⟨oct_take ho n, a, cap, by rw [hl], by rw [hl]; omega, h2, h3, fun hp => ?_⟩
  rw [hl] at hp
  obtain ⟨b, off, e, hlt, hc⟩ := h4 (by omega)
  refine ⟨b, off, e, hlt, fun i hi => ?_⟩
  rw [hl] at hi
  rw [hc i (by omega)]
  simp [hi]
theorem Bs.cap {w : World} {a : Option Addr} {n cap : Nat} {l : List Int} (h : Bs w (.slice a n cap) l) : l.length ≤ cap ∧ cap ≤ 9223372036854775807 := by
  obtain ⟨_, a', cap', hv, h1, h2, _⟩ := h
  simp only [Value.slice.injEq] at hv
  obtain ⟨-, -, rfl⟩ := hv
  exact ⟨h1, h2⟩

/-- A block of two cells (a log, boxed): what the walk asks of it. -/
theorem box2 {w : World} {g : Nat} {t : TypeId} {c0 c1 : Value} (h : w.heap[g]? = some (.cells #[c0, c1] t (0, 0))) :
    w.cell? ⟨g, 0, none⟩ = some c0 ∧ w.cell? ⟨g, 1, none⟩ = some c1 ∧ w.frozen? ⟨g, 0, none⟩ = false ∧ w.frozen? ⟨g, 1, none⟩ = false ∧ g < w.heap.size :=
  ⟨by rw [cell_of_row w g 0 _ t (0, 0) h]; rfl, by rw [cell_of_row w g 1 _ t (0, 0) h]; rfl, frozen_of_row w g 0 _ t h, frozen_of_row w g 1 _ t h, lt_of_heap h⟩
theorem box2_set0 {w : World} {g : Nat} {t : TypeId} {c0 c1 v : Value} (h : w.heap[g]? = some (.cells #[c0, c1] t (0, 0))) : (w.setCell ⟨g, 0, none⟩ v).heap[g]? = some (.cells #[v, c1] t (0, 0)) := by
  rw [heap_setCell_same w g 0 _ t v h]; rfl
theorem box2_set1 {w : World} {g : Nat} {t : TypeId} {c0 c1 v : Value} (h : w.heap[g]? = some (.cells #[c0, c1] t (0, 0))) : (w.setCell ⟨g, 1, none⟩ v).heap[g]? = some (.cells #[c0, v] t (0, 0)) := by
  rw [heap_setCell_same w g 1 _ t v h]; rfl
theorem box_other {w : World} {g k i : Nat} {o : Obj} {v : Value} (h : w.heap[g]? = some o) (hne : g ≠ k) : (w.setCell ⟨k, i, none⟩ v).heap[g]? = some o :=
  (Below.heap_setCell w ⟨k, i, none⟩ v g hne).trans h
theorem box_below {w w' : World} {g : Nat} {o : Obj} (hb : Below w.heap.size w w') (h : w.heap[g]? = some o) : w'.heap[g]? = some o := (hb.block g (lt_of_heap h)).trans h
theorem box_new (w : World) (o : Obj) : (w.alloc o).heap[w.heap.size]? = some o := heap_alloc_new w o
theorem box_alloc {w : World} {g : Nat} {o : Obj} (h : w.heap[g]? = some o) (o' : Obj) : (w.alloc o').heap[g]? = some o := (Below.heap_alloc w o' g (lt_of_heap h)).trans h
/-- Three blocks that were laid one behind the other. -/
theorem box3 (w : World) (o0 o1 o2 : Obj) : (((w.alloc o0).alloc o1).alloc o2).heap[w.heap.size]? = some o0 ∧ (((w.alloc o0).alloc o1).alloc o2).heap[w.heap.size + 1]? = some o1 ∧ (((w.alloc o0).alloc o1).alloc o2).heap[w.heap.size + 1 + 1]? = some o2 :=
  ⟨box_alloc (box_alloc (box_new w o0) o1) o2, box_alloc (by simpa using box_new (w.alloc o0) o1) o2, by simpa using box_new ((w.alloc o0).alloc o1) o2⟩
theorem box3_below (w : World) (o0 o1 o2 : Obj) : Below w.heap.size w (((w.alloc o0).alloc o1).alloc o2) := (((Below.refl _ _).alloc (Nat.le_refl _) _).alloc (by simp) _).alloc (by simp; omega) _

/-- Two blocks that were laid one behind the other. -/
theorem boxes2 (w : World) (o0 o1 : Obj) : ((w.alloc o0).alloc o1).heap[w.heap.size]? = some o0 ∧ ((w.alloc o0).alloc o1).heap[w.heap.size + 1]? = some o1 ∧ Below w.heap.size w ((w.alloc o0).alloc o1) :=
  ⟨box_alloc (box_new w o0) o1, by simpa using box_new (w.alloc o0) o1, ((Below.refl _ _).alloc (Nat.le_refl _) _).alloc (by simp) _⟩

theorem box_within {w w' : World} {B T g : Nat} {o : Obj} (hw : Within B T w w') (h : w.heap[g]? = some o) (hd : g < B ∨ T ≤ g) : w'.heap[g]? = some o := (hw.block g (lt_of_heap h) (by omega)).trans h

/-- Old cells, old marks read as before: two rules that the walk then uses by itself. -/
theorem bcell {W w1 : World} (hb : Below W.heap.size W w1) : (∀ b o, b < W.heap.size → w1.cell? ⟨b, o, none⟩ = W.cell? ⟨b, o, none⟩) ∧ (∀ b o, b < W.heap.size → w1.frozen? ⟨b, o, none⟩ = W.frozen? ⟨b, o, none⟩) :=
  ⟨fun b o h => hb.cell (p := ⟨b, o, none⟩) h, fun b o h => hb.frozen (p := ⟨b, o, none⟩) h⟩

/-- The value v reads as the log of the bytes a and b. -/
def LogV (w : World) (v : Value) (a b : List Int) : Prop := ∃ u0 u1, v = .agg #[u0, u1] ∧ Bs w u0 a ∧ Bs w u1 b
/-- A log of the call's own: its two slices lie in blocks from B on and below T, apart from each other. -/
def LogR (w : World) (B T : Nat) (v : Value) (a b : List Int) : Prop :=
  ∃ u0 u1 B0 T0 B1 T1, v = .agg #[u0, u1] ∧ Row w B0 T0 u0 a ∧ Row w B1 T1 u1 b ∧ B ≤ B0 ∧ T0 ≤ T ∧ B ≤ B1 ∧ T1 ≤ T ∧ (T0 ≤ B1 ∨ T1 ≤ B0)

theorem LogV.below {w w' : World} {v : Value} {a b : List Int} (h : LogV w v a b) (hb : Below w.heap.size w w') : LogV w' v a b :=
  let ⟨u0, u1, hv, h0, h1⟩ := h; ⟨u0, u1, hv, h0.below hb, h1.below hb⟩
theorem LogR.v {w : World} {B T : Nat} {v : Value} {a b : List Int} (h : LogR w B T v a b) : LogV w v a b :=
  let ⟨u0, u1, _, _, _, _, hv, h0, h1, _⟩ := h; ⟨u0, u1, hv, h0.bs, h1.bs⟩
theorem LogR.below {w w' : World} {B T : Nat} {v : Value} {a b : List Int} (h : LogR w B T v a b) (hb : Below w.heap.size w w') : LogR w' B T v a b :=
  let ⟨u0, u1, B0, T0, B1, T1, hv, h0, h1, r⟩ := h; ⟨u0, u1, B0, T0, B1, T1, hv, h0.below hb, h1.below hb, r⟩
theorem LogR.wide {w : World} {B T B' T' : Nat} {v : Value} {a b : List Int} (h : LogR w B T v a b) (hB : B' ≤ B) (hT : T ≤ T') : LogR w B' T' v a b :=
  let ⟨u0, u1, B0, T0, B1, T1, hv, h0, h1, r0, r1, r2, r3, r4⟩ := h; ⟨u0, u1, B0, T0, B1, T1, hv, h0, h1, by omega, by omega, by omega, by omega, r4⟩
theorem LogR.keptW {w w' : World} {B T B' T' : Nat} {v : Value} {a b : List Int} (h : LogR w B T v a b) (hw : Within B' T' w w') (hd : T ≤ B' ∨ T' ≤ B) : LogR w' B T v a b :=
  let ⟨u0, u1, B0, T0, B1, T1, hv, h0, h1, r0, r1, r2, r3, r4⟩ := h
  ⟨u0, u1, B0, T0, B1, T1, hv, h0.keptW hw (by omega), h1.keptW hw (by omega), r0, r1, r2, r3, r4⟩
theorem LogR.set {w : World} {g i B T : Nat} {v x : Value} {a b : List Int} (h : LogR w B T v a b) (hd : g < B ∨ T ≤ g) : LogR (w.setCell ⟨g, i, none⟩ x) B T v a b :=
  let ⟨u0, u1, B0, T0, B1, T1, hv, h0, h1, r0, r1, r2, r3, r4⟩ := h
  ⟨u0, u1, B0, T0, B1, T1, hv, h0.set (by omega), h1.set (by omega), r0, r1, r2, r3, r4⟩
theorem LogR.zero (w : World) (B T : Nat) (h : B ≤ T) : LogR w B T (.agg #[.slice none 0 0, .slice none 0 0]) [] [] :=
  ⟨_, _, B, B, B, T, rfl, Row.nil _ _ _, Row.nil _ _ _, Nat.le_refl _, h, Nat.le_refl _, Nat.le_refl _, .inl (Nat.le_refl _)⟩

end Go.Proofs.YtlegmiaoablcgaaGreatDoor

/- Commands in memory. -/
namespace Go.Proofs.YtlegmiaoablcgaaGreatDoor
open Go.RowKit

def I64 (n : Int) : Prop := -9223372036854775808 ≤ n ∧ n ≤ 9223372036854775807

/-- The value v reads as a command. -/
def CmdV (w : World) (v : Value) (k : Int) (bx tt : List Int) (uid mode fl si : Int) (tx : List Int) : Prop :=
  ∃ u0 u1 u2, v = .agg #[.int .i64 k, u0, u1, .int .i64 uid, .int .i64 mode, .int .i64 fl, .int .i64 si, u2] ∧ Bs w u0 bx ∧ Bs w u1 tt ∧ Bs w u2 tx ∧ I64 k ∧ I64 uid ∧ I64 mode ∧ I64 fl ∧ I64 si
theorem CmdV.below {w w' : World} {v : Value} {k : Int} {bx tt : List Int} {uid mode fl si : Int} {tx : List Int} (h : CmdV w v k bx tt uid mode fl si tx) (hb : Below w.heap.size w w') : CmdV w' v k bx tt uid mode fl si tx :=
  let ⟨u0, u1, u2, hv, h0, h1, h2, r⟩ := h; ⟨u0, u1, u2, hv, h0.below hb, h1.below hb, h2.below hb, r⟩

end Go.Proofs.YtlegmiaoablcgaaGreatDoor

/- Blocks that hold a struct: what the walk asks of them. -/
namespace Go.Proofs.YtlegmiaoablcgaaGreatDoor
open Go.RowKit

/-- A block of eight cells: what the walk asks of it. -/
theorem box8 {w : World} {g : Nat} {t : TypeId} {c0 c1 c2 c3 c4 c5 c6 c7 : Value} (h : w.heap[g]? = some (.cells #[c0, c1, c2, c3, c4, c5, c6, c7] t (0, 0))) :
    w.cell? ⟨g, 0, none⟩ = some c0 ∧ w.cell? ⟨g, 1, none⟩ = some c1 ∧ w.cell? ⟨g, 2, none⟩ = some c2 ∧ w.cell? ⟨g, 3, none⟩ = some c3 ∧ w.cell? ⟨g, 4, none⟩ = some c4 ∧ w.cell? ⟨g, 5, none⟩ = some c5 ∧ w.cell? ⟨g, 6, none⟩ = some c6 ∧ w.cell? ⟨g, 7, none⟩ = some c7 :=
  ⟨by rw [cell_of_row w g 0 _ t (0, 0) h]; rfl, by rw [cell_of_row w g 1 _ t (0, 0) h]; rfl, by rw [cell_of_row w g 2 _ t (0, 0) h]; rfl, by rw [cell_of_row w g 3 _ t (0, 0) h]; rfl,
   by rw [cell_of_row w g 4 _ t (0, 0) h]; rfl, by rw [cell_of_row w g 5 _ t (0, 0) h]; rfl, by rw [cell_of_row w g 6 _ t (0, 0) h]; rfl, by rw [cell_of_row w g 7 _ t (0, 0) h]; rfl⟩

end Go.Proofs.YtlegmiaoablcgaaGreatDoor

/- Commands of the call's own in memory; blocks of eight cells that are written. -/
namespace Go.Proofs.YtlegmiaoablcgaaGreatDoor
open Go.RowKit

/-- A command of the call's own: its three slices lie one behind the other in blocks from B on and below T. -/
def CmdR (w : World) (B T : Nat) (v : Value) (k : Int) (bx tt : List Int) (uid mode fl si : Int) (tx : List Int) : Prop :=
  ∃ u0 u1 u2 T0 T1, v = .agg #[.int .i64 k, u0, u1, .int .i64 uid, .int .i64 mode, .int .i64 fl, .int .i64 si, u2] ∧ Row w B T0 u0 bx ∧ Row w T0 T1 u1 tt ∧ Row w T1 T u2 tx ∧ B ≤ T0 ∧ T0 ≤ T1 ∧ T1 ≤ T ∧ I64 k ∧ I64 uid ∧ I64 mode ∧ I64 fl ∧ I64 si

section
variable {w w' : World} {B T B' T' : Nat} {x : Value} {k : Int} {bx tt : List Int} {uid mode fl si : Int} {tx : List Int}
theorem CmdR.v (h : CmdR w B T x k bx tt uid mode fl si tx) : CmdV w x k bx tt uid mode fl si tx :=
  let ⟨u0, u1, u2, _, _, hv, h0, h1, h2, _, _, _, r⟩ := h; ⟨u0, u1, u2, hv, h0.bs, h1.bs, h2.bs, r⟩
theorem CmdR.below (h : CmdR w B T x k bx tt uid mode fl si tx) (hb : Below w.heap.size w w') : CmdR w' B T x k bx tt uid mode fl si tx :=
  let ⟨u0, u1, u2, T0, T1, hv, h0, h1, h2, r⟩ := h; ⟨u0, u1, u2, T0, T1, hv, h0.below hb, h1.below hb, h2.below hb, r⟩
theorem CmdR.wide (h : CmdR w B T x k bx tt uid mode fl si tx) (hB : B' ≤ B) (hT : T ≤ T') : CmdR w B' T' x k bx tt uid mode fl si tx :=
  let ⟨u0, u1, u2, T0, T1, hv, h0, h1, h2, r0, r1, r2, r⟩ := h; ⟨u0, u1, u2, T0, T1, hv, h0.wide hB (Nat.le_refl _), h1, h2.wide (Nat.le_refl _) hT, by omega, r1, by omega, r⟩
theorem CmdR.keptW (h : CmdR w B T x k bx tt uid mode fl si tx) (hw : Within B' T' w w') (hd : T ≤ B' ∨ T' ≤ B) : CmdR w' B T x k bx tt uid mode fl si tx :=
  let ⟨u0, u1, u2, T0, T1, hv, h0, h1, h2, r0, r1, r2, r⟩ := h; ⟨u0, u1, u2, T0, T1, hv, h0.keptW hw (by omega), h1.keptW hw (by omega), h2.keptW hw (by omega), r0, r1, r2, r⟩
end

theorem box8l {w : World} {g : Nat} {t : TypeId} {c0 c1 c2 c3 c4 c5 c6 c7 : Value} (h : w.heap[g]? = some (.cells #[c0, c1, c2, c3, c4, c5, c6, c7] t (0, 0))) :
    w.cell? ⟨g, 0, none⟩ = some c0 ∧ w.cell? ⟨g, 1, none⟩ = some c1 ∧ w.cell? ⟨g, 2, none⟩ = some c2 ∧ w.cell? ⟨g, 3, none⟩ = some c3 ∧ w.cell? ⟨g, 4, none⟩ = some c4 ∧ w.cell? ⟨g, 5, none⟩ = some c5 ∧ w.cell? ⟨g, 6, none⟩ = some c6 ∧ w.cell? ⟨g, 7, none⟩ = some c7 ∧ g < w.heap.size := by
  obtain ⟨f0, f1, f2, f3, f4, f5, f6, f7⟩ := box8 h
  exact ⟨f0, f1, f2, f3, f4, f5, f6, f7, lt_of_heap h⟩

/-- A block of eight cells that is written: its marks. -/
theorem box8z {w : World} {g : Nat} {t : TypeId} {cs : Array Value} (h : w.heap[g]? = some (.cells cs t (0, 0))) : (∀ i, w.frozen? ⟨g, i, none⟩ = false) ∧ g < w.heap.size :=
  ⟨fun i => frozen_of_row w g i _ t h, lt_of_heap h⟩
theorem box_set {w : World} {g i : Nat} {t : TypeId} {cs : Array Value} {v : Value} (h : w.heap[g]? = some (.cells cs t (0, 0))) : (w.setCell ⟨g, i, none⟩ v).heap[g]? = some (.cells (cs.setIfInBounds i v) t (0, 0)) := heap_setCell_same w g i _ t v h
theorem box_size {w : World} {g i : Nat} {v : Value} : (w.setCell ⟨g, i, none⟩ v).heap.size = w.heap.size := by simp [World.setCell]

end Go.Proofs.YtlegmiaoablcgaaGreatDoor

/- Commands as data. -/
namespace Go.Proofs.YtlegmiaoablcgaaGreatDoor
open Go.RowKit

structure CmdD where
  k : Int
  bx : List Int
  tt : List Int
  uid : Int
  mode : Int
  fl : Int
  si : Int
  tx : List Int
theorem CmdR.set {w : World} {g i B T : Nat} {v x : Value} {k : Int} {bx tt : List Int} {uid mode fl si : Int} {tx : List Int} (h : CmdR w B T v k bx tt uid mode fl si tx) (hd : g < B ∨ T ≤ g) : CmdR (w.setCell ⟨g, i, none⟩ x) B T v k bx tt uid mode fl si tx :=
  let ⟨u0, u1, u2, T0, T1, hv, h0, h1, h2, r0, r1, r2, r⟩ := h; ⟨u0, u1, u2, T0, T1, hv, h0.set (by omega), h1.set (by omega), h2.set (by omega), r0, r1, r2, r⟩

end Go.Proofs.YtlegmiaoablcgaaGreatDoor

/- Lines read as commands, on lists. -/
namespace Go.Proofs.YtlegmiaoablcgaaGreatDoor
open Go.RowKit

/-- A token: its kind (1 a word, 2 a name, 3 a number, 4 flags, 5 a text), its place, its number, its bytes. -/
structure TokD where
  k : Int
  p : Int
  n : Int
  tx : List Int
def zeroT : TokD := ⟨0, 0, 0, []⟩

def ldB (x : Int) : Bool := decide (97 ≤ x ∧ x ≤ 122) || (decide (65 ≤ x ∧ x ≤ 90) || decide (48 ≤ x ∧ x ≤ 57))
def greatB (w : List Int) : Bool := allIn 65 90 w && decide (0 < w.length)
/-- The number that digits are. -/
def valM (w : List Int) : Nat := w.foldl (fun n x => n * 10 + (x - 48).toNat) 0
theorem valM_snoc (w : List Int) (x : Int) : valM (w ++ [x]) = valM w * 10 + (x - 48).toNat := by simp [valM]
theorem valM_dig (n : Nat) : valM (digB n) = n := by
  induction n using Nat.strongRecOn with
  | ind n ih =>
    by_cases h : n < 10
    · rw [digB_small h]; simp [valM]; omega
    · rw [digB_big h, valM_snoc, ih _ (by omega)]; omega
/-- The number that a piece is, if it is one as it is written. -/
def numM (w : List Int) : Option Nat := if valM w ≤ 1000000 ∧ digB (valM w) = w then some (valM w) else none
theorem numM_some {w : List Int} {n : Nat} : numM w = some n ↔ n ≤ 1000000 ∧ digB n = w := by
  unfold numM
  constructor
  · intro h
    split at h
    · cases h; assumption
    · cases h
  · rintro ⟨h1, rfl⟩
    rw [valM_dig, if_pos ⟨h1, rfl⟩]
theorem numM_none {w : List Int} (h : ∀ n : Nat, n ≤ 1000000 → digB n ≠ w) : numM w = none := by
  unfold numM
  rw [if_neg fun h' => h _ h'.1 h'.2]
theorem digB_digits (n : Nat) : ∀ x ∈ digB n, 48 ≤ x ∧ x ≤ 57 := by
  induction n using Nat.strongRecOn with
  | ind n ih =>
    intro x hx
    by_cases h : n < 10
    · rw [digB_small h] at hx
      simp only [List.mem_cons, List.not_mem_nil, or_false] at hx
      omega
    · rw [digB_big h] at hx
      rcases List.mem_append.1 hx with hx | hx
      · exact ih _ (by omega) x hx
      · simp only [List.mem_cons, List.not_mem_nil, or_false] at hx
        omega
theorem digB_ne (n : Nat) : digB n ≠ [] := by
  by_cases h : n < 10
  · rw [digB_small h]; simp
  · rw [digB_big h]; simp

/-- The flags that stand at the head, in their order, from the bit v on; what is left. -/
def flagsM : List Int → Int → Int → List Int → Int × List Int
  | [], _, n, r => (n, r)
  | x :: ls, v, n, r => match r with
    | y :: q => if y = x then flagsM ls (v * 2) (n + v) q else flagsM ls (v * 2) n r
    | [] => flagsM ls (v * 2) n r
def lettersM : List Int := [83, 65, 70, 68, 82]
/-- A text behind its quote: what it is, what is left. -/
def textM : List Int → Option (List Int × List Int)
  | [] => none
  | x :: r => if x = 34 then some ([], r) else if x = 92 then (match r with
      | y :: q => if y = 34 ∨ y = 92 then (textM q).map fun p => (y :: p.1, p.2) else none
      | [] => none)
    else (textM r).map fun p => (x :: p.1, p.2)
/-- The token at a place: what it is, what is left. -/
def oneM (i : Int) (s : List Int) : Option (TokD × List Int) := match s with
  | [] => none
  | x :: r => if x = 40 then (match (flagsM lettersM 1 0 r).2 with
      | y :: q => if y = 41 then some (⟨4, i, (flagsM lettersM 1 0 r).1, []⟩, q) else none
      | [] => none)
    else if x = 34 then (match textM r with
      | some p => if textB p.1 then some (⟨5, i, 0, p.1⟩, p.2) else none
      | none => none)
    else match numM (s.takeWhile ldB) with
      | some n => some (⟨3, i, n, []⟩, s.dropWhile ldB)
      | none => if nameB (s.takeWhile ldB) then some (⟨2, i, 0, s.takeWhile ldB⟩, s.dropWhile ldB)
        else if greatB (s.takeWhile ldB) then some (⟨1, i, 0, s.takeWhile ldB⟩, s.dropWhile ldB) else none
/-- The line from a place on, cut into tokens; or the place at which there is none. -/
def lexM : Nat → Int → List Int → Except Int (List TokD)
  | 0, _, _ => .ok []
  | _ + 1, _, [] => .ok []
  | f + 1, i, x :: r => if x = 32 then lexM f (i + 1) r else match oneM i (x :: r) with
    | none => .error i
    | some p => match lexM f (i + ((x :: r).length - p.2.length)) p.2 with
      | .ok ts => .ok (p.1 :: ts)
      | .error e => .error e

/-- A token of a kind is taken, a number being at least so great; or the place where it is not. -/
def takeM (e k least : Int) : List TokD → Except Int (TokD × List TokD)
  | [] => .error e
  | t :: r => if t.k = k ∧ (k = 3 → least ≤ t.n) then .ok (t, r) else .error t.p
def failM (e : Int) : List TokD → Int
  | [] => e
  | t :: _ => t.p
def seesM (w : List Int) : List TokD → Bool
  | [] => false
  | t :: _ => decide (t.k = 1 ∧ t.tx = w)
def setBox (c : CmdD) (b : List Int) : CmdD := { c with bx := b }
/-- Which of the three words of a store stands there. -/
def modeM (ts : List TokD) : Option Int := if seesM (modeW 2) ts then some 2 else if seesM (modeW 1) ts then some 1 else if seesM (modeW 0) ts then some 0 else none
/-- What a kind wants behind the box. -/
def restM (e : Int) (c : CmdD) (ts : List TokD) : Except Int (CmdD × List TokD) :=
  if c.k = 2 then do
    let a ← takeM e 4 0 ts
    let b ← takeM e 5 0 a.2
    .ok ({ c with fl := a.1.n, tx := b.1.tx }, b.2)
  else if c.k = 3 then do
    let a ← takeM e 3 1 ts
    match modeM a.2 with
    | none => .error (failM e a.2)
    | some m =>
      let b ← takeM e 4 0 (a.2.drop 1)
      if seesM sinceW b.2 then do
        let d ← takeM e 3 1 (b.2.drop 1)
        .ok ({ c with uid := a.1.n, mode := m, fl := b.1.n, si := d.1.n }, d.2)
      else .ok ({ c with uid := a.1.n, mode := m, fl := b.1.n }, b.2)
  else if c.k = 5 then do
    let a ← takeM e 3 1 ts
    .ok ({ c with uid := a.1.n }, a.2)
  else if c.k = 6 then do
    let a ← takeM e 3 1 ts
    let b ← takeM e 2 0 a.2
    if seesM awayW b.2 then .ok ({ c with uid := a.1.n, tt := b.1.tx, mode := 1 }, b.2.drop 1)
    else .ok ({ c with uid := a.1.n, tt := b.1.tx }, b.2)
  else if c.k = 8 then do
    let a ← takeM e 3 0 ts
    .ok ({ c with si := a.1.n }, a.2)
  else .ok (c, ts)
/-- Which kind's word stands there. -/
def kindM (ts : List TokD) : Option Nat := (List.range 10).find? fun k => seesM (kindW k) ts
def cmdM (e : Int) (ts : List TokD) : Except Int CmdD :=
  match kindM ts with
  | none => .error (failM e ts)
  | some k => do
    let a ← (if k = 9 then .ok (([] : List Int), ts.drop 1) else do
      let b ← takeM e 2 0 (ts.drop 1)
      .ok (b.1.tx, b.2))
    let r ← restM e ⟨k, a.1, [], 0, 0, 0, 0, []⟩ a.2
    match r.2 with
    | [] => .ok r.1
    | t :: _ => .error t.p
def zeroCmd : CmdD := ⟨0, [], [], 0, 0, 0, 0, []⟩
/-- What CmdRead answers. -/
def readM (l : List Int) : CmdD × Int × Int :=
  if 120 < l.length then (zeroCmd, 1, 0) else match lexM (l.length + 1) 0 l with
  | .error i => (zeroCmd, 2, i)
  | .ok ts => match cmdM l.length ts with
    | .error p => (zeroCmd, 3, p)
    | .ok c => (c, 0, 0)

end Go.Proofs.YtlegmiaoablcgaaGreatDoor

/- What strconv.Atoi makes of numbers as they are written, on lists. -/
namespace Go.Proofs.YtlegmiaoablcgaaGreatDoor
open Go.RowKit

theorem dig_u8 (n : Nat) : u8s (digB n) = Lib.decDigits n := by
  have h := str_dig n
  have h2 : (strOfNums (digB n)).data.toList = u8s (digB n) := rfl
  rw [← h2, ← h]
theorem parse_dig (n : Nat) : n ≤ 1000000 → ∀ r, Lib.parseUint10 0 (u8s (digB n) ++ r) = Lib.parseUint10 n r := by
  induction n using Nat.strongRecOn with
  | ind n ih =>
    intro hn r
    by_cases h : n < 10
    · rw [digB_small h]
      have e : (UInt8.ofNat (48 + (n : Int)).toNat).toNat = 48 + n := by
        rw [UInt8.toNat_ofNat', Nat.mod_eq_of_lt (by omega)]; omega
      simp only [u8s, List.map_cons, List.map_nil, List.cons_append, List.nil_append, Lib.parseUint10, e]
      rw [if_pos (by omega), if_neg (by omega), if_neg (by omega)]
      congr 1
      omega
    · rw [digB_big h]
      have e : (UInt8.ofNat (48 + ((n % 10 : Nat) : Int)).toNat).toNat = 48 + n % 10 := by
        rw [UInt8.toNat_ofNat', Nat.mod_eq_of_lt (by omega)]; omega
      have := ih (n / 10) (by omega) (by omega) (u8s [48 + ((n % 10 : Nat) : Int)] ++ r)
      rw [show u8s (digB (n / 10) ++ [48 + ((n % 10 : Nat) : Int)]) = u8s (digB (n / 10)) ++ u8s [48 + ((n % 10 : Nat) : Int)] by simp [u8s], List.append_assoc, this]
      simp only [u8s, List.map_cons, List.map_nil, List.cons_append, List.nil_append, Lib.parseUint10, e]
      rw [if_pos (by omega), if_neg (by omega), if_neg (by omega)]
      congr 1
      omega
theorem atoi_dig {n : Nat} (hn : n ≤ 1000000) : Lib.atoiAll (u8s (digB n)) = .ok (n : Int) := by
  have hp := parse_dig n hn []
  rw [List.append_nil] at hp
  have hm : Lib.parseMag (u8s (digB n)) = .ok n := by
    unfold Lib.parseMag
    rw [if_neg (by simp [u8s, digB_ne]), hp]
    rfl
  cases hd : digB n with
  | nil => exact absurd hd (digB_ne n)
  | cons c r =>
    have hc := digB_digits n c (by rw [hd]; simp)
    rw [hd] at hm
    have e : (UInt8.ofNat c.toNat).toNat = c.toNat := by
      rw [UInt8.toNat_ofNat', Nat.mod_eq_of_lt (by omega)]
    have e1 : ¬ (c.toNat = 43 ∨ c.toNat = 45) := by omega
    have e2 : ¬ (c.toNat = 45) := by omega
    simp only [u8s, List.map_cons] at hm ⊢
    simp only [Lib.atoiAll, e, if_neg e1, hm]
    rw [if_neg (by omega), if_neg (by omega), if_neg e2]
theorem atoi_pos {wd : List Int} {v : Int} (ho : Oct wd) (h : Lib.atoiAll (u8s wd) = .ok v) (hs : ∀ x ∈ wd, x ≠ 45) : 0 ≤ v := by
  cases wd with
  | nil => simp [u8s, Lib.atoiAll] at h
  | cons c r =>
    have hc := ho c (by simp)
    have hn := hs c (by simp)
    have e : (UInt8.ofNat c.toNat).toNat = c.toNat := by
      rw [UInt8.toNat_ofNat', Nat.mod_eq_of_lt (by omega)]
    simp only [u8s, List.map_cons, Lib.atoiAll, e] at h
    split at h
    · cases h
    · cases h
    · split at h
      · cases h
      · split at h
        · cases h
        · rw [if_neg (by omega)] at h
          injection h with h
          omega

end Go.Proofs.YtlegmiaoablcgaaGreatDoor

/- Regions that draw their order, walked in the text's order: what each operation asks of the others is reckoned once for a region, in a table. -/
namespace Go.Proofs.YtlegmiaoablcgaaGreatDoor
set_option linter.unusedVariables false

/-- The operations of the region with this number. -/
def opsAt (id : Nat) : Code → Option (Array Oper)
  | .region i ops _ => if i == id then some ops else none
  | .seq a b => (opsAt id a).or (opsAt id b)
  | .cond _ a b => (opsAt id a).or (opsAt id b)
  | .block _ a => opsAt id a
  | .loop a => opsAt id a
  | _ => none

/-- The first i of n are listed. -/
def upto (n i : Nat) : Array Bool := (List.replicate i true ++ List.replicate (n - i) false).toArray
theorem upto_zero (n : Nat) : upto n 0 = Array.replicate n false := by simp [upto]
theorem upto_succ {n i : Nat} (h : i < n) : (upto n i).setIfInBounds i true = upto n (i + 1) := by
  have e : n - i = (n - (i + 1)) + 1 := by omega
  unfold upto
  rw [List.setIfInBounds_toArray]
  congr 1
  rw [List.set_append_right _ _ (by simp), List.length_replicate, Nat.sub_self, e, List.replicate_succ, List.set_cons_zero, List.replicate_succ', List.append_assoc]
  rfl

def statAt (ops : Array Oper) (n i : Nat) : Bool := Region.free .any ops (upto n i) i && (Region.ready .any ops (upto n i)).contains i
/-- cs: the operations that come up alone. -/
def table (ops : Array Oper) (n : Nat) (cs : List Nat) : Bool := (ops.size == n) && (Region.noSelect ops && ((List.range n).all (statAt ops n) && ((Region.ready .any ops (upto n n)).isEmpty && cs.all fun i => (Nat.blt i n) && (Region.ready .any ops (upto n i) == [i]))))

/-- The table's word, in a wrapping that no walk looks into. -/
structure Tab (ops : Array Oper) (n : Nat) (cs : List Nat) : Prop where
  out : table ops n cs = true

/-- What is left of the region when the first i operations are done. -/
def wpAt (P : Program) (ops : Array Oper) (Q : Exit → Act → World → Prop) (S : World → Prop) (n i : Nat) (a : Act) (w : World) : Prop := wpAnyH P .any ops Q S (n - i) (upto n i) a w

/-- Slot d filled: what 'put' does, in a form that computes by itself. -/
def setT (a : Act) (d : Nat) (v : Value) : Act := { a with tmps := (a.tmps.toList.set d v).toArray }
theorem put_setT (a : Act) (d : Nat) (v : Value) : a.put (some d) v = setT a d v := by
  unfold Act.put setT
  simp only
  congr 1
  exact Array.ext' (by simp)

section
variable {P : Program} {ops : Array Oper} {Q : Exit → Act → World → Prop} {S : World → Prop} {n : Nat} {cs : List Nat} {a : Act} {w : World}
theorem tab_of {c : Option Code} {id : Nat} (h : c.bind (opsAt id) = some ops) (T : (c.bind (opsAt id)).all (fun o => table o n cs) = true) : Tab ops n cs := by
  rw [h] at T; exact ⟨by simpa using T⟩
theorem table_parts (T' : Tab ops n cs) : ops.size = n ∧ Region.noSelect ops = true ∧ (∀ i, i < n → Region.free .any ops (upto n i) i = true ∧ (Region.ready .any ops (upto n i)).contains i = true) ∧ Region.ready .any ops (upto n n) = [] ∧ ∀ i, i ∈ cs → i < n ∧ Region.ready .any ops (upto n i) = [i] := by
  have T := T'.out
  simp only [table, Bool.and_eq_true, beq_iff_eq, List.all_eq_true, List.mem_range, statAt, List.isEmpty_iff, Nat.blt_eq] at T
  exact ⟨T.1, T.2.1, fun i hi => T.2.2.1 i hi, T.2.2.2.1, fun i hi => T.2.2.2.2 i hi⟩
theorem wp_begin {id : Nat} (T : Tab ops n cs) (hm : P.follows .mixedOrders = true) (hS : S w.drew) (h : Tab ops n cs → S w.drew → wpAt P ops Q S n 0 a w.drew) : Code.wp P (.region id ops true) Q a w := by
  refine wp_region_held_drew (S := S) hm hS fun hs => ?_
  obtain ⟨h1, -⟩ := table_parts T
  subst h1
  rw [← upto_zero]
  exact h T hs
/-- Operation i is taken; it is wanted. -/
theorem tkp (i d : Nat) {oi : Oper} (v : Value) (T : Tab ops n cs) (hy : ∀ w, S w → (execOp a.eval oi).run P w = .ok (.value v) w) (hS : S w) (h : wpAt P ops Q S n (i + 1) (setT a d v) w)
    (hi : ops[i]? = some oi := by rfl)
    (hg : (oi.dst == some d && Region.wanted oi (yielded ops a.tmps)) = true := by kernel_rfl)
    (hQ : ∀ c a w, Q (.panic c) (a.put (some d) v) w → Q (.panic c) a w := by exact fun _ _ _ h => h) : wpAt P ops Q S n i a w := by
  obtain ⟨h1, h2, h3, h4, h5⟩ := table_parts T
  have hlt : i < n := by have := (Array.getElem?_eq_some_iff.1 hi).1; omega
  simp only [Bool.and_eq_true, beq_iff_eq] at hg
  rw [← put_setT] at h
  unfold wpAt at h ⊢
  rw [show n - i = (n - (i + 1)) + 1 by omega]
  rw [← upto_succ hlt] at h
  exact wpAnyH_take hi h2 (h3 i hlt).1 (h3 i hlt).2 (by rw [hg.1]; exact hQ) (Or.inl ⟨hg.2, hy⟩) hS (by rw [hg.1]; exact h)
/-- None of these is wanted; ds: the slots that they would fill. -/
def skipsD (ops : Array Oper) : Nat → List Nat → Array Value → Bool
  | _, [], _ => true
  | i, d :: ds, tm => match ops[i]? with
    | some o => (o.dst == some d) && (!(Region.wanted o (yielded ops tm)) && skipsD ops (i + 1) ds (tm.toList.set d undef).toArray)
    | none => false
theorem skp (T : Tab ops n cs) (hQ : ∀ (d : Nat) v c a w, Q (.panic c) (a.put (some d) v) w → Q (.panic c) a w) (hS : S w) :
    ∀ (ds : List Nat) (i : Nat) (a : Act), skipsD ops i ds a.tmps = true → wpAt P ops Q S n (i + ds.length) (ds.foldl (fun a d => setT a d undef) a) w → wpAt P ops Q S n i a w
  | [], _, _, _, h => h
  | d :: ds, i, a, hk, h => by
    unfold skipsD at hk
    split at hk
    · rename_i o ho
      simp only [Bool.and_eq_true, beq_iff_eq, Bool.not_eq_true'] at hk
      obtain ⟨k1, k2, k3⟩ := hk
      obtain ⟨h1, h2, h3, h4, h5⟩ := table_parts T
      have hlt : i < n := by have := (Array.getElem?_eq_some_iff.1 ho).1; omega
      have hr := skp T hQ hS ds (i + 1) (setT a d undef) (by simpa [setT] using k3) (by rw [show i + 1 + ds.length = i + (d :: ds).length by simp; omega]; exact h)
      rw [← put_setT] at hr
      unfold wpAt at hr ⊢
      rw [show n - i = (n - (i + 1)) + 1 by omega]
      rw [← upto_succ hlt] at hr
      exact wpAnyH_take (v := undef) ho h2 (h3 i hlt).1 (h3 i hlt).2 (fun c a w => by rw [k1]; exact hQ d _ c a w) (Or.inr ⟨k2, rfl⟩) hS (by rw [k1]; exact hr)
    · cases hk
theorem skj {i j : Nat} (ds : List Nat) (hj : i + ds.length = j) (T : Tab ops n cs) (hQ : ∀ (d : Nat) v c a w, Q (.panic c) (a.put (some d) v) w → Q (.panic c) a w) (hS : S w) (hk : skipsD ops i ds a.tmps = true)
    (h : wpAt P ops Q S n j (ds.foldl (fun a d => setT a d undef) a) w) : wpAt P ops Q S n i a w := skp T hQ hS ds i a hk (by rw [hj]; exact h)
/-- Operation i is a call: it comes up alone. -/
theorem clp (i : Nat) (T : Tab ops n cs) (hi : i ∈ cs) (h : AllReadyH P .any ops Q S (n - (i + 1)) (upto n i) a w [i]) : wpAt P ops Q S n i a w := by
  obtain ⟨h1, h2, h3, h4, h5⟩ := table_parts T
  have hlt := (h5 i hi).1
  unfold wpAt
  rw [show n - i = (n - (i + 1)) + 1 by omega]
  exact wpAnyH_ready (h5 i hi).2 (by simp) h
theorem wpAt_in {i f : Nat} {l : Array Bool} (hlt : i < n) (hf : f = n - (i + 1)) (hl : l = (upto n i).setIfInBounds i true) (h : wpAt P ops Q S n (i + 1) a w) : wpAnyH P .any ops Q S f l a w := by
  subst hf hl
  rw [upto_succ hlt]
  exact h
theorem wp_end (T : Tab ops n cs) (h : Q .normal a w) : wpAt P ops Q S n n a w := by
  obtain ⟨h1, h2, h3, h4, h5⟩ := table_parts T
  exact wpAnyH_done h4 h _
end
theorem putA {α : Type} (l : List α) (i : Nat) (a : α) : l.toArray.setIfInBounds i a = (l.set i a).toArray := by simp
theorem put0 {α : Type} (x : α) (l : List α) (a : α) : (x :: l).set 0 a = a :: l := rfl
theorem putS {α : Type} (x : α) (l : List α) (i : Nat) (a : α) : (x :: l).set (i + 1) a = x :: l.set i a := rfl

/-- 'tkp', what it yields and the state behind it found by themselves. -/
theorem tkq {P : Program} {ops : Array Oper} {Q : Exit → Act → World → Prop} {S : World → Prop} {n : Nat} {cs : List Nat} {a a' : Act} {w : World} (i d : Nat) {oi : Oper} {v : Value} (T : Tab ops n cs) (hS : S w) (h : wpAt P ops Q S n (i + 1) a' w)
    (hi : ops[i]? = some oi := by rfl)
    (hg : (oi.dst == some d && Region.wanted oi (yielded ops a.tmps)) = true := by kernel_rfl)
    (hy : ∀ w, S w → (execOp a.eval oi).run P w = .ok (.value v) w := by (intro w s; (try dsimp only at s); go_simp <;> with_reducible rfl))
    (ha : setT a d v = a' := by (conv => lhs; dsimp only [setT, List.toList_toArray, put0, putS]))
    (hQ : ∀ c a w, Q (.panic c) (a.put (some d) v) w → Q (.panic c) a w := by exact fun _ _ _ h => h) : wpAt P ops Q S n i a w :=
  tkp i d v T hy hS (by rw [ha]; exact h) hi hg hQ

end Go.Proofs.YtlegmiaoablcgaaGreatDoor

/- Regions that draw their order, walked in a given order: what each operation asks of the others is reckoned once for a region, in a table. -/
namespace Go.Proofs.YtlegmiaoablcgaaGreatDoor
set_option linter.unusedVariables false

/-- Which operations are done when the first p of the order are. -/
def doneA (n : Nat) (l : List Nat) : Array Bool := l.foldl (fun a i => a.setIfInBounds i true) (Array.replicate n false)
theorem doneA_step {n p i : Nat} {ord : List Nat} (h : ord[p]? = some i) : (doneA n (ord.take p)).setIfInBounds i true = doneA n (ord.take (p + 1)) := by
  have hp : p < ord.length := (List.getElem?_eq_some_iff.1 h).1
  rw [List.take_succ_eq_append_getElem hp, (List.getElem?_eq_some_iff.1 h).2]
  unfold doneA
  rw [List.foldl_append]
  rfl
/-- cs: the places of those that come up alone. -/
def tableO (ops : Array Oper) (n : Nat) (ord cs : List Nat) : Bool :=
  (ops.size == n) && ((ord.length == n) && (Region.noSelect ops && ((List.range n).all (fun p => match ord[p]? with
    | some i => cs.contains p || (Region.free .any ops (doneA n (ord.take p)) i && (Region.ready .any ops (doneA n (ord.take p))).contains i)
    | none => false) && ((Region.ready .any ops (doneA n (ord.take n))).isEmpty && cs.all fun p => match ord[p]? with
    | some i => Nat.blt p n && (Region.ready .any ops (doneA n (ord.take p)) == [i])
    | none => false))))

/-- What is left of the region when the first p operations of the order are done. -/
def wpOrd (P : Program) (ops : Array Oper) (Q : Exit → Act → World → Prop) (S : World → Prop) (n : Nat) (ord : List Nat) (p : Nat) (a : Act) (w : World) : Prop := wpAnyH P .any ops Q S (n - p) (doneA n (ord.take p)) a w

/-- The table's word, in a wrapping that no walk looks into. -/
structure TabO (ops : Array Oper) (n : Nat) (ord cs : List Nat) : Prop where
  out : tableO ops n ord cs = true

section
variable {P : Program} {ops : Array Oper} {Q : Exit → Act → World → Prop} {S : World → Prop} {n : Nat} {ord cs : List Nat} {a : Act} {w : World}
theorem tabO_of {c : Option Code} {id : Nat} (h : c.bind (opsAt id) = some ops) (T : (c.bind (opsAt id)).all (fun o => tableO o n ord cs) = true) : TabO ops n ord cs := by
  rw [h] at T; exact ⟨by simpa using T⟩
theorem tabO_parts (T' : TabO ops n ord cs) : ops.size = n ∧ ord.length = n ∧ Region.noSelect ops = true ∧ (∀ p i, ord[p]? = some i → ¬ p ∈ cs → Region.free .any ops (doneA n (ord.take p)) i = true ∧ (Region.ready .any ops (doneA n (ord.take p))).contains i = true) ∧ Region.ready .any ops (doneA n (ord.take n)) = [] ∧
    ∀ p i, p ∈ cs → ord[p]? = some i → p < n ∧ Region.ready .any ops (doneA n (ord.take p)) = [i] := by
  have T := T'.out
  simp only [tableO, Bool.and_eq_true, beq_iff_eq, List.all_eq_true, List.mem_range, List.isEmpty_iff] at T
  obtain ⟨h1, h2, h3, h4, h5, h6⟩ := T
  refine ⟨h1, h2, h3, fun p i hp hc => ?_, h5, fun p i hc hp => ?_⟩
  · have hlt : p < n := by have := (List.getElem?_eq_some_iff.1 hp).1; omega
    have := h4 p hlt
    rw [hp] at this
    simp only [Bool.or_eq_true, Bool.and_eq_true, List.contains_iff_mem] at this
    rcases this with h | h
    · exact absurd h hc
    · exact ⟨h.1, by simpa using h.2⟩
  · have := h6 p hc
    rw [hp] at this
    simp only [Bool.and_eq_true, beq_iff_eq, Nat.blt_eq] at this
    exact this
theorem wpO_begin {id : Nat} (T : TabO ops n ord cs) (hm : P.follows .mixedOrders = true) (hS : S w.drew) (h : TabO ops n ord cs → S w.drew → wpOrd P ops Q S n ord 0 a w.drew) : Code.wp P (.region id ops true) Q a w := by
  refine wp_region_held_drew (S := S) hm hS fun hs => ?_
  obtain ⟨h1, -⟩ := tabO_parts T
  subst h1
  exact h T hs
/-- The operation at place p of the order is taken; it is wanted. -/
theorem tko (p i d : Nat) {oi : Oper} (v : Value) (T : TabO ops n ord cs) (hy : ∀ w, S w → (execOp a.eval oi).run P w = .ok (.value v) w) (hS : S w) (h : wpOrd P ops Q S n ord (p + 1) (setT a d v) w)
    (hp : ord[p]? = some i := by rfl) (hc : ¬ p ∈ cs := by decide)
    (hi : ops[i]? = some oi := by rfl)
    (hg : (oi.dst == some d && Region.wanted oi (yielded ops a.tmps)) = true := by kernel_rfl)
    (hQ : ∀ c a w, Q (.panic c) (a.put (some d) v) w → Q (.panic c) a w := by exact fun _ _ _ h => h) : wpOrd P ops Q S n ord p a w := by
  obtain ⟨h1, h2, h3, h4, h5, h6⟩ := tabO_parts T
  have hlt : p < n := by have := (List.getElem?_eq_some_iff.1 hp).1; omega
  simp only [Bool.and_eq_true, beq_iff_eq] at hg
  rw [← put_setT] at h
  unfold wpOrd at h ⊢
  rw [show n - p = (n - (p + 1)) + 1 by omega]
  rw [← doneA_step hp] at h
  exact wpAnyH_take hi h3 (h4 p i hp hc).1 (h4 p i hp hc).2 (by rw [hg.1]; exact hQ) (Or.inl ⟨hg.2, hy⟩) hS (by rw [hg.1]; exact h)
/-- The operation at place p comes up alone: a call, or one that makes memory. -/
theorem clo (p i : Nat) (T : TabO ops n ord cs) (hc : p ∈ cs) (hp : ord[p]? = some i) (h : AllReadyH P .any ops Q S (n - (p + 1)) (doneA n (ord.take p)) a w [i]) : wpOrd P ops Q S n ord p a w := by
  obtain ⟨h1, h2, h3, h4, h5, h6⟩ := tabO_parts T
  have hlt := (h6 p i hc hp).1
  unfold wpOrd
  rw [show n - p = (n - (p + 1)) + 1 by omega]
  exact wpAnyH_ready (h6 p i hc hp).2 (by simp) h
theorem wpOrd_in {p i f : Nat} {l : Array Bool} (hp : ord[p]? = some i) (hf : f = n - (p + 1)) (hl : l = (doneA n (ord.take p)).setIfInBounds i true) (h : wpOrd P ops Q S n ord (p + 1) a w) : wpAnyH P .any ops Q S f l a w := by
  subst hf hl
  rw [doneA_step hp]
  exact h
theorem wpO_end (T : TabO ops n ord cs) (h : Q .normal a w) : wpOrd P ops Q S n ord n a w := by
  obtain ⟨h1, h2, h3, h4, h5, h6⟩ := tabO_parts T
  exact wpAnyH_done h5 h _
end

/-- 'tko', what it yields and the state behind it found by themselves. -/
theorem tkw {P : Program} {ops : Array Oper} {Q : Exit → Act → World → Prop} {S : World → Prop} {n : Nat} {ord cs : List Nat} {a a' : Act} {w : World} (p i d : Nat) {oi : Oper} {v : Value} (T : TabO ops n ord cs) (hS : S w) (h : wpOrd P ops Q S n ord (p + 1) a' w)
    (hp : ord[p]? = some i := by rfl) (hc : ¬ p ∈ cs := by decide)
    (hi : ops[i]? = some oi := by rfl)
    (hg : (oi.dst == some d && Region.wanted oi (yielded ops a.tmps)) = true := by kernel_rfl)
    (hy : ∀ w, S w → (execOp a.eval oi).run P w = .ok (.value v) w := by (intro w s; (try dsimp only at s); go_simp <;> with_reducible rfl))
    (ha : setT a d v = a' := by (conv => lhs; dsimp only [setT, List.toList_toArray, put0, putS]))
    (hQ : ∀ c a w, Q (.panic c) (a.put (some d) v) w → Q (.panic c) a w := by exact fun _ _ _ h => h) : wpOrd P ops Q S n ord p a w :=
  tko p i d v T hy hS (by rw [ha]; exact h) hp hc hi hg hQ

end Go.Proofs.YtlegmiaoablcgaaGreatDoor

/- In a region that draws its order: operations whose guards are not met are passed by together. -/
namespace Go.Proofs.YtlegmiaoablcgaaGreatDoor


/-- These operations may come up one behind the other, and none is wanted; ds: the slots that they would fill. -/
def skipsOk (md : Region.Mode) (ops : Array Oper) : List Nat → List Nat → Array Bool → Array Value → Bool
  | [], [], _, _ => true
  | i :: is, d :: ds, l, tm => match ops[i]? with
    | some o => (o.dst == some d) && (Region.free md ops l i && ((Region.ready md ops l).contains i && (!(Region.wanted o (yielded ops tm)) && skipsOk md ops is ds (l.setIfInBounds i true) (tm.setIfInBounds d undef))))
    | none => false
  | _, _, _, _ => false

theorem wpAnyH_skips {P : Program} {md : Region.Mode} {ops : Array Oper} {Q : Exit → Act → World → Prop} {S : World → Prop} {w : World} (hs : Region.noSelect ops = true)
    (hQ : ∀ (d : Nat) v c a w, Q (.panic c) (a.put (some d) v) w → Q (.panic c) a w) (hS : S w) :
    ∀ (is ds : List Nat) (l : Array Bool) (a : Act) (fuel : Nat), skipsOk md ops is ds l a.tmps = true →
      wpAnyH P md ops Q S fuel (is.foldl (fun l i => l.setIfInBounds i true) l) (ds.foldl (fun a d => a.put (some d) undef) a) w → wpAnyH P md ops Q S (fuel + is.length) l a w
  | [], [], _, _, _, _, h => h
  | [], _ :: _, _, _, _, hk, _ => by simp [skipsOk] at hk
  | _ :: _, [], _, _, _, hk, _ => by simp [skipsOk] at hk
  | i :: is, d :: ds, l, a, fuel, hk, h => by
    unfold skipsOk at hk
    split at hk
    · rename_i o ho
      simp only [Bool.and_eq_true, beq_iff_eq, Bool.not_eq_true'] at hk
      obtain ⟨h1, h2, h3, h4, h5⟩ := hk
      refine wpAnyH_take (fuel := fuel + is.length) (i := i) (oi := o) (v := undef) ho hs h2 h3 (fun c a w => by rw [h1]; exact hQ d _ c a w) (Or.inr ⟨h4, rfl⟩) hS ?_
      rw [h1]
      exact wpAnyH_skips hs hQ hS is ds _ _ fuel (by simpa [Act.put] using h5) h
    · cases hk

/-- One operation is taken first; the slot that it fills is named. -/
theorem wpAnyH_takeD {P : Program} {md : Region.Mode} {ops : Array Oper} {Q : Exit → Act → World → Prop} {S : World → Prop} {i : Nat} (d : Nat) {oi : Oper} {v : Value} {fuel : Nat} {listed : Array Bool} {a : Act} {w : World} (hi : ops[i]? = some oi)
    (hd : oi.dst = some d) (hs : Region.noSelect ops = true) (hf : Region.free md ops listed i = true) (hr : (Region.ready md ops listed).contains i = true)
    (hQ : ∀ c a w, Q (.panic c) (a.put (some d) v) w → Q (.panic c) a w) (hy : YieldsIf P ops S oi v a) (hS : S w)
    (h : wpAnyH P md ops Q S fuel (listed.setIfInBounds i true) (a.put (some d) v) w) : wpAnyH P md ops Q S (fuel + 1) listed a w :=
  wpAnyH_take hi hs hf hr (by rw [hd]; exact hQ) hy hS (by rw [hd]; exact h)

/-- The same, its side conditions in one Bool; short, for it is written often. -/
theorem tk {P : Program} {md : Region.Mode} {ops : Array Oper} {Q : Exit → Act → World → Prop} {S : World → Prop} (i d : Nat) {oi : Oper} (v : Value) {fuel : Nat} {listed : Array Bool} {a : Act} {w : World}
    (hy : ∀ w, S w → (execOp a.eval oi).run P w = .ok (.value v) w) (hS : S w) (h : wpAnyH P md ops Q S fuel (listed.setIfInBounds i true) (a.put (some d) v) w)
    (hi : ops[i]? = some oi := by rfl)
    (hc : (Region.noSelect ops && (Region.free md ops listed i && (Region.ready md ops listed).contains i)) = true := by decide +kernel)
    (hg : (oi.dst == some d && Region.wanted oi (yielded ops a.tmps)) = true := by kernel_rfl)
    (hQ : ∀ c a w, Q (.panic c) (a.put (some d) v) w → Q (.panic c) a w := by exact fun _ _ _ h => h) : wpAnyH P md ops Q S (fuel + 1) listed a w := by
  simp only [Bool.and_eq_true, beq_iff_eq] at hc hg
  obtain ⟨h2, h3, h4⟩ := hc
  obtain ⟨h1, h5⟩ := hg
  exact wpAnyH_takeD d hi h1 h2 h3 h4 hQ (Or.inl ⟨h5, hy⟩) hS h
theorem sA {α : Type} (l : List α) (i : Nat) (a : α) : l.toArray.setIfInBounds i a = (l.set i a).toArray := by simp
theorem s0 {α : Type} (x : α) (l : List α) (a : α) : (x :: l).set 0 a = a :: l := rfl
theorem sS {α : Type} (x : α) (l : List α) (i : Nat) (a : α) : (x :: l).set (i + 1) a = x :: l.set i a := rfl
/-- The same, what it yields and the state behind it found by themselves. -/
theorem tq {P : Program} {md : Region.Mode} {ops : Array Oper} {Q : Exit → Act → World → Prop} {S : World → Prop} (i d : Nat) {oi : Oper} {v : Value} {fuel : Nat} {listed : Array Bool} {a a' : Act} {w : World}
    (hS : S w) (h : wpAnyH P md ops Q S fuel (listed.setIfInBounds i true) a' w)
    (hi : ops[i]? = some oi := by rfl)
    (hc : (Region.noSelect ops && (Region.free md ops listed i && (Region.ready md ops listed).contains i)) = true := by decide +kernel)
    (hg : (oi.dst == some d && Region.wanted oi (yielded ops a.tmps)) = true := by kernel_rfl)
    (hy : ∀ w, S w → (execOp a.eval oi).run P w = .ok (.value v) w := by (intro w s; (try dsimp only at s); go_simp <;> with_reducible rfl))
    (ha : a.put (some d) v = a' := by (conv => lhs; simp only [Act.put, sA, s0, sS]))
    (hQ : ∀ c a w, Q (.panic c) (a.put (some d) v) w → Q (.panic c) a w := by exact fun _ _ _ h => h) : wpAnyH P md ops Q S (fuel + 1) listed a w :=
  tk i d v hy hS (by rw [ha]; exact h) hi hc hg hQ

end Go.Proofs.YtlegmiaoablcgaaGreatDoor

/- The error that says 'gave up'. -/
namespace Go.Proofs.YtlegmiaoablcgaaGreatDoor
open Go.RowKit

/-- The error that says 'gave up' lies in its variable. -/
def Gave (w : World) (ea : Addr) : Prop := w.cell? ⟨0, 0, none⟩ = some (.iface 128 (.pointer (some ea)))
theorem Gave.lt {w : World} {ea : Addr} (h : Gave w ea) : 0 < w.heap.size := World.block_lt_of_cell? w ⟨0, 0, none⟩ h
theorem Gave.below {w w' : World} {ea : Addr} (h : Gave w ea) (hb : Below w.heap.size w w') : Gave w' ea := (hb.cell (p := ⟨0, 0, none⟩) h.lt).trans h
theorem Gave.gr {w w' : World} {ea : Addr} {g : Nat} (h : Gave w ea) (hg : w.grownBy w' (some g)) (hne : g ≠ 0) : Gave w' ea := by
  have := hg.block 0 h.lt (by simp only [ne_eq, Option.some.injEq]; exact fun e => hne e.symm)
  show w'.cell? _ = _
  have h2 : w.cell? ⟨0, 0, none⟩ = _ := h
  rw [← h2]
  unfold World.cell?
  rw [this]
abbrev gaveUp (ea : Addr) : Ending := .panicked [{ v := .iface 128 (.pointer (some ea)), recovered := false }]

end Go.Proofs.YtlegmiaoablcgaaGreatDoor

/- What isLetterOrDigit and decimal of package impl do. -/
namespace Go.Proofs.YtlegmiaoablcgaaGreatDoor
open Go.RowKit
set_option maxRecDepth 100000
set_option linter.unusedVariables false
set_option linter.unusedSimpArgs false

theorem tab_dec2 : (Tryz.f81.body.bind (opsAt 2)).all (fun o => tableO o 13 [0, 1, 2, 3, 4, 5, 6, 7, 9, 10, 8, 11, 12] [10]) = true := by kernel_rfl
/-- The two errors of package strconv lie in their variables. -/
def Errs (w : World) : Prop := (∃ t p, w.cell? ⟨4, 0, none⟩ = some (.iface t p)) ∧ ∃ t p, w.cell? ⟨5, 0, none⟩ = some (.iface t p)
theorem Errs.below {w w' : World} (h : Errs w) (hb : Below w.heap.size w w') : Errs w' := by
  obtain ⟨⟨t, p, h1⟩, u, q, h2⟩ := h
  exact ⟨⟨t, p, (hb.cell (p := ⟨4, 0, none⟩) (World.block_lt_of_cell? w ⟨4, 0, none⟩ h1)).trans h1⟩, u, q, (hb.cell (p := ⟨5, 0, none⟩) (World.block_lt_of_cell? w ⟨5, 0, none⟩ h2)).trans h2⟩
def numN (wd : List Int) : Int := match numM wd with
  | some n => n
  | none => 0
theorem num_atoi {wd : List Int} {n : Nat} (h : numM wd = some n) : Lib.atoiAll (u8s wd) = .ok (n : Int) := by
  obtain ⟨h1, h2⟩ := numM_some.1 h
  rw [← h2]
  exact atoi_dig h1
theorem num_not {wd : List Int} (h : ∀ v, Lib.atoiAll (u8s wd) ≠ .ok v) : numM wd = none := by
  cases hn : numM wd with
  | none => rfl
  | some n => exact absurd (num_atoi hn) (h _)
theorem num_of {wd : List Int} {m : Nat} (h : Lib.atoiAll (u8s wd) = .ok (m : Int)) (hm : m ≤ 1000000) : numM wd = if digB m = wd then some m else none := by
  split
  · rename_i he
    exact numM_some.2 ⟨hm, he⟩
  · rename_i he
    cases hn : numM wd with
    | none => rfl
    | some n =>
      have h2 := num_atoi hn
      rw [h] at h2
      injection h2 with h2
      have h3 : m = n := by omega
      subst h3
      exact absurd (numM_some.1 hn).2 he
theorem size_str (wd : List Int) : (strOfNums wd).size = wd.length := by simp [strOfNums, ByteArray.size]

set_option maxRecDepth 100000 in
set_option maxHeartbeats 2000000 in
theorem decimal_r (v : Value) (wd : List Int) (w : World) (hv : Bs w v wd) (hl : wd.length ≤ 2000) (hns : ∀ x ∈ wd, x ≠ 45) (ht : Tab10 w) (he : Errs w) :
    Calls Tryz.prog 81 #[v] w fun e w' => e = .returned (.tuple #[.int .i64 (numN wd), .bool (numM wd).isSome]) ∧ Below w.heap.size w w' := by
  have HV : Hid (∀ w', Below w.heap.size w w' → Bs w' v wd) := fun w' h => hv.below h
  have HT : Hid (Tab10 w) := ht
  have HO : Hid (Oct wd) := hv.1
  have HNS : Hid (∀ x ∈ wd, x ≠ 45) := hns
  obtain ⟨⟨t1, p1, he1⟩, t2, p2, he2⟩ := he
  obtain ⟨ho, a, cap, rfl, hlc, hcm, -⟩ := hv
  unfold maxLen at hcm
  have hsz := size_str wd
  have HCV : Hid (∀ w', Below w.heap.size w w' → (convert 22 9 (.slice a wd.length cap)).run Tryz.prog w' = .ok (.string (strOfNums wd)) w') := fun w' h => run_convert_bs (HV.out w' h)
  have hcv0 := HCV.out w (Below.refl _ _)
  have hat : (strOfNums wd).data.toList = u8s wd := rfl
  obtain ⟨X, hX⟩ : ∃ X, X = Lib.atoiAll (u8s wd) := ⟨_, rfl⟩
  have HAT : Hid (Lib.atoiAll (u8s wd) = X) := hX.symm
  have HCO : Hid (∀ v, X = .ok v → Calls Tryz.prog 86 #[.string (strOfNums wd)] w fun e w' => e = .returned (.tuple #[.int .i64 v, .nilIface]) ∧ Below w.heap.size w w') := by
    intro v hv
    refine (Tryz.strconv_Atoi_ok (strOfNums wd) (by omega) v (by rw [hat, ← hv, hX]) w).mono ?_
    rintro e w1 ⟨rfl, rfl | ⟨t, rfl⟩⟩
    · exact ⟨rfl, Below.refl _ _⟩
    · exact ⟨rfl, Lib.bytesWorld_below _ _ _⟩
  have HCE : Hid ((∀ v, X ≠ .ok v) → Calls Tryz.prog 86 #[.string (strOfNums wd)] w fun e w' => ∃ n N, e = .returned (.tuple #[.int .i64 n, .iface 114 (.pointer (some ⟨N, 0, none⟩))]) ∧ Below w.heap.size w w') := by
    intro hno
    cases hx : X with
    | ok v => exact absurd hx (hno v)
    | «syntax» =>
      refine (Tryz.strconv_Atoi_syntax (strOfNums wd) (by omega) (by rw [hat, ← hX, hx]) _ w he1 (.inr ⟨_, _, rfl⟩)).mono ?_
      rintro e w1 ⟨N, rfl, -, -, hb⟩
      exact ⟨_, _, rfl, hb⟩
    | range =>
      refine (Tryz.strconv_Atoi_range (strOfNums wd) (by omega) (by rw [hat, ← hX, hx]) _ w he2 (.inr ⟨_, _, rfl⟩)).mono ?_
      rintro e w1 ⟨N, rfl, -, -, hb⟩
      exact ⟨_, _, rfl, hb⟩
  clear hX hat hns he1 he2
  by_cases hno : ∀ v, X ≠ .ok v
  · have HNM : Hid (numM wd = none) := num_not (by rw [HAT.out]; exact hno)
    have hcall := HCE.out hno
    clear HCE HCO hno
    go_enter Tryz.func81, Tryz.ntmps81
    go_wp2_with fail
    refine hcall.mono ?_
    rintro e w1 ⟨n, N, rfl, B1⟩
    have HBD : Hid (Below w.heap.size w w1.drew) := Below.step B1 (Below.refl _ _).drew
    clear hcall hcv0
    go_wp2
    refine wp_region_held_drew (S := fun w' => True) (by kernel_rfl) (trivial) (fun hHeld => (show wpAnyH _ _ _ _ _ 13 #[false, false, false, false, false, false, false, false, false, false, false, false, false] _ _ from ?_))
    refine tq 0 12 hHeld ?_
    refine tq 1 13 hHeld ?_
    refine tq 2 14 hHeld ?_
    refine wpAnyH_skips (by kernel_rfl) (fun _ _ _ _ _ h => h) hHeld [3, 4] [15, 16] _ _ _ (by kernel_rfl) ?_
    simp only [List.foldl_cons, List.foldl_nil, Act.put, sA, s0, sS]
    refine tq 5 17 hHeld ?_
    refine tq 6 18 hHeld ?_
    refine wpAnyH_skips (by kernel_rfl) (fun _ _ _ _ _ h => h) hHeld [7, 8, 9, 10, 11] [19, 20, 21, 22, 23] _ _ _ (by kernel_rfl) ?_
    simp only [List.foldl_cons, List.foldl_nil, Act.put, sA, s0, sS]
    refine tq 12 24 hHeld ?_
    refine wpAnyH_done (by kernel_rfl) ?_ _
    go_wp2
    go_ret2
    exact ⟨by rw [numN, HNM.out]; rfl, HBD.out⟩
  · obtain ⟨z, hz⟩ : ∃ z, X = .ok z := Classical.byContradiction fun h => hno fun v hv => h ⟨v, hv⟩
    have hz0 : 0 ≤ z := atoi_pos HO.out (HAT.out.trans hz) HNS.out
    obtain ⟨m, rfl⟩ : ∃ m : Nat, z = m := ⟨z.toNat, by omega⟩
    have hcall := HCO.out _ hz
    have HA2 : Hid (Lib.atoiAll (u8s wd) = .ok (m : Int)) := HAT.out.trans hz
    clear HCE HCO hno hz
    by_cases hm : m ≤ 1000000
    · have HNM : Hid (numM wd = if digB m = wd then some m else none) := num_of HA2.out hm
      have hmi : ¬ (1000000 : Int) < (m : Int) := by omega
      have hd1 : decide ((1000000 : Int) < (m : Int)) = false := decide_eq_false hmi
      have HE : Hid (((strOfNums (digB m)).toList == (strOfNums wd).toList) = decide (digB m = wd)) := str_same (ofU8_oct _) HO.out
      go_enter Tryz.func81, Tryz.ntmps81
      go_wp2_with fail
      refine hcall.mono ?_
      rintro e w1 ⟨rfl, B1⟩
      have HBD : Hid (Below w.heap.size w w1.drew) := Below.step B1 (Below.refl _ _).drew
      clear hcall hcv0 B1
      go_wp2
      refine wpO_begin (S := fun w' => (convert 22 9 (.slice a wd.length cap)).run Tryz.prog w' = .ok (.string (strOfNums wd)) w') (tabO_of (by kernel_rfl) tab_dec2) (by kernel_rfl) (HCV.out _ HBD.out) (fun hTb hHeld => ?_)
      refine tkw 0 0 12 hTb hHeld ?_
      refine tkw 1 1 13 hTb hHeld ?_
      refine tkw 2 2 14 hTb hHeld ?_
      refine tkw 3 3 15 hTb hHeld ?_
      refine tkw 4 4 16 hTb hHeld ?_
      refine tkw 5 5 17 hTb hHeld ?_
      refine tkw 6 6 18 hTb hHeld ?_
      refine tkw 7 7 19 hTb hHeld ?_
      refine tkw 8 9 21 hTb hHeld ?_
      refine tkw 9 10 22 hTb hHeld ?_
      refine clo 10 8 hTb (by decide) rfl ?_
      refine AllReadyH.cons rfl (fun K hK => ?_) AllReadyH.nil
      go_simp
      refine (itoa_b m (by omega) _ (Lib.tabBelow_of_tabIs HT.out _ HBD.out)).mono ?_
      rintro e w2 ⟨rfl, B2⟩
      have HB2 : Hid (Below w.heap.size w w2) := Below.step HBD.out B2
      clear B2
      refine hK.out _ _ (HCV.out _ HB2.out) (fun hHeld => ?_)
      clear hK K
      refine wpOrd_in (n := 13) (p := 10) (i := 8) rfl rfl rfl ?_
      refine tkw 11 11 23 hTb hHeld ?_
      refine tkw 12 12 24 hTb hHeld ?_
      refine wpO_end hTb ?_
      clear hTb hHeld
      generalize hq : (!((strOfNums (digB m)).toList == (strOfNums wd).toList)) = q
      rw [HE.out] at hq
      cases q with
      | false =>
        have HN2 : Hid (numM wd = some m) := by
          show _ = _
          rw [HNM.out, if_pos (by simpa using hq)]
        clear hq
        go_wp2
        go_ret2
        exact ⟨by rw [numN, HN2.out]; rfl, HB2.out⟩
      | true =>
        have HN2 : Hid (numM wd = none) := by
          show _ = _
          rw [HNM.out, if_neg (by simpa using hq)]
        clear hq
        go_wp2
        go_ret2
        exact ⟨by rw [numN, HN2.out]; rfl, HB2.out⟩
    · have HNM : Hid (numM wd = none) := by
        show _ = _
        cases hn : numM wd with
        | none => rfl
        | some n =>
          have h2 := num_atoi hn
          rw [HA2.out] at h2
          injection h2 with h2
          have := (numM_some.1 hn).1
          omega
      have hmi : (1000000 : Int) < (m : Int) := by omega
      have hd1 : decide ((1000000 : Int) < (m : Int)) = true := decide_eq_true hmi
      go_enter Tryz.func81, Tryz.ntmps81
      go_wp2_with fail
      refine hcall.mono ?_
      rintro e w1 ⟨rfl, B1⟩
      have HBD : Hid (Below w.heap.size w w1.drew) := Below.step B1 (Below.refl _ _).drew
      clear hcall hcv0 B1
      go_wp2
      refine wp_region_held_drew (S := fun w' => True) (by kernel_rfl) (trivial) (fun hHeld => (show wpAnyH _ _ _ _ _ 13 #[false, false, false, false, false, false, false, false, false, false, false, false, false] _ _ from ?_))
      refine tq 0 12 hHeld ?_
      refine tq 1 13 hHeld ?_
      refine tq 2 14 hHeld ?_
      refine tq 3 15 hHeld ?_
      refine tq 4 16 hHeld ?_
      refine tq 5 17 hHeld ?_
      refine tq 6 18 hHeld ?_
      refine wpAnyH_skips (by kernel_rfl) (fun _ _ _ _ _ h => h) hHeld [7, 8, 9, 10, 11] [19, 20, 21, 22, 23] _ _ _ (by kernel_rfl) ?_
      simp only [List.foldl_cons, List.foldl_nil, Act.put, sA, s0, sS]
      refine tq 12 24 hHeld ?_
      refine wpAnyH_done (by kernel_rfl) ?_ _
      go_wp2
      go_ret2
      exact ⟨by rw [numN, HNM.out]; rfl, HBD.out⟩

end Go.Proofs.YtlegmiaoablcgaaGreatDoor
