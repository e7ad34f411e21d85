/- The proof's texts, part 1. -/
import Derived.WalkKit
import Derived.WalkSpells
import Derived.WalkLawsBesides
import Derived.Laws.AppendOwnNone
import Derived.Laws.CopyOwn
import Derived.Test.YthnlbhmecokomaaDoorRows
import Derived.Deep.QuietTactic
import Derived.BigQuiet
import Derived.Laws.BitsAllLaws

/- Plain facts on bytes in memory: what a slice reads as, what a call owns; no program is named here. -/
namespace Go.Proofs.YthnlbhmecokomaaDoor
open Go.RowKit

/-- Every number of the list is a byte. -/
def Oct (l : List Int) : Prop := ∀ x ∈ l, 0 ≤ x ∧ x ≤ 255
/-- The cells of a list of bytes. -/
def vals (l : List Int) : List Value := l.map (Value.int .u8)

theorem length_vals (l : List Int) : (vals l).length = l.length := by simp [vals]
theorem vals_append (a b : List Int) : vals (a ++ b) = vals a ++ vals b := by simp [vals]
theorem vals_get (l : List Int) (i : Nat) (h : i < l.length) : (vals l)[i]? = some (.int .u8 (l.getD i 0)) := by
  simp [vals, h]
theorem oct_nil : Oct [] := by intro x hx; simp at hx
theorem oct_append {a b : List Int} (ha : Oct a) (hb : Oct b) : Oct (a ++ b) := by
  intro x hx
  rcases List.mem_append.1 hx with h | h
  · exact ha x h
  · exact hb x h
theorem oct_get {l : List Int} (h : Oct l) (i : Nat) : 0 ≤ l.getD i 0 ∧ l.getD i 0 ≤ 255 := by
  by_cases hi : i < l.length
  · have : l.getD i 0 = l[i] := by simp [hi]
    rw [this]; exact h _ (List.getElem_mem hi)
  · have : l.getD i 0 = 0 := by simp [Nat.not_lt.1 hi]
    rw [this]; omega
theorem oct_take {l : List Int} (h : Oct l) (k : Nat) : Oct (l.take k) := fun x hx => h x (List.mem_of_mem_take hx)
theorem oct_drop {l : List Int} (h : Oct l) (k : Nat) : Oct (l.drop k) := fun x hx => h x (List.mem_of_mem_drop hx)
theorem oneCell_vals (l : List Int) : ∀ u ∈ vals l, u.oneCell' = true := ints_oneCell .u8 l

/-- The slice value v reads in the world w as the bytes l. -/
def Bs (w : World) (v : Value) (l : List Int) : Prop :=
  Oct l ∧ ∃ a cap, v = .slice a l.length cap ∧ l.length ≤ cap ∧ cap ≤ maxLen ∧ (a = none → cap = 0) ∧
    (0 < l.length → ∃ b off, a = some ⟨b, off, none⟩ ∧ b < w.heap.size ∧ ∀ i, i < l.length → w.cell? ⟨b, off + i, none⟩ = some (.int .u8 (l.getD i 0)))

/-- The slice value v is nil, or it lies at the head of block g, whose first cells are the bytes l; nobody else need be asked ahead of a store there. -/
def Own (w : World) (g : Nat) (v : Value) (l : List Int) : Prop :=
  Oct l ∧ ((v = .slice none 0 0 ∧ l = []) ∨
    ∃ cap cur, v = .slice (some ⟨g, 0, none⟩) l.length cap ∧ w.heap[g]? = some (.cells cur 5 (0, 0)) ∧ l.length ≤ cap ∧ cap ≤ maxLen ∧ cur.size = cap ∧ cur.toList.take l.length = vals l)

theorem Own.row {w : World} {g : Nat} {v : Value} {l : List Int} (h : Own w g v l) : w.ownsRow g 5 1 v l.length (vals l) := by
  refine ⟨by simp [length_vals], ?_⟩
  rcases h.2 with ⟨hv, hl⟩ | ⟨cap, cur, hv, hh, h1, h2, h3, h4⟩
  · exact .inl ⟨hv, by simp [hl]⟩
  · exact .inr ⟨g, cap, cur, hv, Nat.le_refl _, hh, h1, h2, by simpa using h3, by simpa using h4⟩

theorem lt_of_heap {w : World} {g : Nat} {o : Obj} (h : w.heap[g]? = some o) : g < w.heap.size := (Array.getElem?_eq_some_iff.1 h).1

theorem Own.bs {w : World} {g : Nat} {v : Value} {l : List Int} (h : Own w g v l) : Bs w v l := by
  refine ⟨h.1, ?_⟩
  rcases h.2 with ⟨hv, hl⟩ | ⟨cap, cur, hv, hh, h1, h2, h3, h4⟩
  · subst hl
    exact ⟨none, 0, by simpa using hv, by simp, by simp, fun _ => rfl, fun h => by simp at h⟩
  · refine ⟨_, cap, hv, h1, h2, (fun h => by cases h), fun hp => ⟨g, 0, rfl, lt_of_heap hh, fun i hi => ?_⟩⟩
    rw [Nat.zero_add, cell_of_row w g i cur 5 (0, 0) hh]
    have e := vals_get l i hi
    rw [← h4, List.getElem?_take, if_pos hi] at e
    simpa using e

/-- What is kept while nothing below the heap's size turns. -/
theorem Bs.below {w w' : World} {v : Value} {l : List Int} (h : Bs w v l) (hb : Below w.heap.size w w') : Bs w' v l := by
  obtain ⟨ho, a, cap, hv, h1, h2, h3, h4⟩ := h
  refine ⟨ho, a, cap, hv, h1, h2, h3, fun hp => ?_⟩
  obtain ⟨b, off, ha, hlt, hc⟩ := h4 hp
  exact ⟨b, off, ha, Nat.lt_of_lt_of_le hlt hb.size, fun i hi => (hb.cell (p := ⟨b, off + i, none⟩) hlt).trans (hc i hi)⟩

theorem Own.below {w w' : World} {g : Nat} {v : Value} {l : List Int} (h : Own w g v l) (hb : Below w.heap.size w w') : Own w' g v l := by
  refine ⟨h.1, ?_⟩
  rcases h.2 with hn | ⟨cap, cur, hv, hh, r⟩
  · exact .inl hn
  · exact .inr ⟨cap, cur, hv, (hb.block g (lt_of_heap hh)).trans hh, r⟩

/-- What is kept while other blocks are written. -/
theorem Own.kept {w w' : World} {g k : Nat} {v : Value} {l : List Int} (h : Own w g v l) (hk : w.grownBy w' (some k)) (hne : g ≠ k) : Own w' g v l := by
  refine ⟨h.1, ?_⟩
  rcases h.2 with hn | ⟨cap, cur, hv, hh, r⟩
  · exact .inl hn
  · exact .inr ⟨cap, cur, hv, (hk.block g (lt_of_heap hh) (by simpa using hne)).trans hh, r⟩

theorem Own.grow {w w' : World} {g : Nat} {v : Value} {l : List Int} (h : Own w g v l) (hk : w.grownBy w' none) : Own w' g v l := by
  refine ⟨h.1, ?_⟩
  rcases h.2 with hn | ⟨cap, cur, hv, hh, r⟩
  · exact .inl hn
  · exact .inr ⟨cap, cur, hv, (hk.block g (lt_of_heap hh) (by simp)).trans hh, r⟩

/-- A row that was made whole. -/
theorem own_made {w : World} {g : Nat} {l : List Int} (ho : Oct l) (hm : l.length ≤ maxLen) (hh : w.heap[g]? = some (.cells (vals l).toArray 5 (0, 0))) :
    Own w g (.slice (some ⟨g, 0, none⟩) l.length l.length) l :=
  ⟨ho, .inr ⟨l.length, _, rfl, hh, Nat.le_refl _, hm, by simp [length_vals], by simp [← length_vals]⟩⟩

/-- A row that 'make' has laid. -/
theorem made_heap {w : World} {B g n : Nat} {e : TypeId} {z : Value} (hown : w.ownsRow B e 1 (.slice (some ⟨g, 0, none⟩) n n) n (madeCells #[z] n).toList) :
    w.heap[g]? = some (.cells (List.replicate n z).toArray e (0, 0)) := by
  rcases hown.2 with ⟨h, _⟩ | ⟨g', c, cur, h, _, hh, _, _, h3, h4⟩
  · simp at h
  · simp only [Value.slice.injEq, Option.some.injEq, Addr.mk.injEq, and_true, true_and] at h
    obtain ⟨rfl, rfl⟩ := h
    rw [Nat.mul_one, toList_madeCells_one, List.take_of_length_le (by simp; omega)] at h4
    rw [← h4]
    simpa using hh

theorem grownBy_setCell {w wr : World} {g j : Nat} {u : Value} (h : w.grownBy wr (some g)) : w.grownBy (wr.setCell ⟨g, j, none⟩ u) (some g) :=
  ⟨h.os, h.tape, h.output, by have := h.size; simpa [World.setCell] using this, fun k hk hne => (Below.heap_setCell wr ⟨g, j, none⟩ u k (by simpa using hne)).trans (h.block k hk hne)⟩

theorem grownBy_trans {w w1 w2 : World} {r : Option Nat} (h : w.grownBy w1 r) (h' : w1.grownBy w2 r) : w.grownBy w2 r :=
  ⟨h'.os.trans h.os, h'.tape.trans h.tape, h'.output.trans h.output, Nat.le_trans h.size h'.size, fun k hk hne => (h'.block k (Nat.lt_of_lt_of_le hk h.size) hne).trans (h.block k hk hne)⟩

theorem below_drewN {w w1 : World} {B : Nat} (n : Nat) (h : Below B w w1) : Below B w (w1.drewN n) := ⟨h.os, h.tape, h.output, h.size, h.block⟩
theorem Own.drewN {w : World} {g : Nat} {v : Value} {l : List Int} (n : Nat) (h : Own w g v l) : Own (w.drewN n) g v l := h
theorem Bs.drewN {w : World} {v : Value} {l : List Int} (n : Nat) (h : Bs w v l) : Bs (w.drewN n) v l := h

/-- Out of the kit's word on a row that the call owns. -/
theorem own_of_row {w : World} {B n : Nat} {v : Value} {l : List Int} (ho : Oct l) (hn : n = l.length) (h : w.ownsRow B 5 1 v n (vals l)) : ∃ g, B ≤ g ∧ Own w g v l := by
  subst hn
  rcases h.2 with ⟨hv, hl⟩ | ⟨g, cap, cur, hv, hB, hh, h1, h2, h3, h4⟩
  · exact ⟨B, Nat.le_refl _, ho, .inl ⟨hv, List.eq_nil_of_length_eq_zero hl⟩⟩
  · exact ⟨g, hB, ho, .inr ⟨cap, cur, hv, hh, h1, h2, by simpa using h3, by simpa using h4⟩⟩

/-- The bytes of a number: seven bits a byte, the lowest first; f more bytes may follow. -/
def enc : Nat → Int → List Int
  | 0, n => [n]
  | f + 1, n => if 127 < n then (n % 128 + 128) :: enc f (n / 128) else [n]

theorem enc_length (f : Nat) (n : Int) : 1 ≤ (enc f n).length ∧ (enc f n).length ≤ f + 1 := by
  induction f generalizing n with
  | zero => simp [enc]
  | succ f ih =>
    unfold enc
    split
    · have := ih (n / 128); simp; omega
    · simp
theorem enc_oct (f : Nat) (n : Int) (h0 : 0 ≤ n) (h1 : n < 128 * 128 ^ f) : Oct (enc f n) := by
  induction f generalizing n with
  | zero => intro x hx; simp [enc] at hx; subst hx; simp at h1; omega
  | succ f ih =>
    unfold enc
    split
    · intro x hx
      rcases List.mem_cons.1 hx with rfl | hx
      · omega
      · refine ih (n / 128) (by omega) ?_ x hx
        rw [Int.pow_succ] at h1
        omega
    · intro x hx; simp at hx; subst hx; omega

/-- What PutNum answers, as a list. -/
def putL (b : List Int) (n : Int) : List Int := if 0 ≤ n ∧ n ≤ 2147483647 then b ++ enc 4 n else b
theorem putL_oct {b : List Int} (hb : Oct b) (n : Int) : Oct (putL b n) := by
  unfold putL
  split
  · exact oct_append hb (enc_oct 4 n (by omega) (by omega))
  · exact hb
theorem putL_length (b : List Int) (n : Int) : b.length ≤ (putL b n).length ∧ (putL b n).length ≤ b.length + 5 := by
  unfold putL
  split
  · have := enc_length 4 n; simp; omega
  · omega

end Go.Proofs.YthnlbhmecokomaaDoor

/- append of bytes to a row of the call's own, as one law for the walk: what is appended may be nil. -/
namespace Go.Proofs.YthnlbhmecokomaaDoor
open Go.RowKit

/-- The value v is nil or lies at the head of a block from B on, whose first cells are the bytes l. -/
def OwnB (w : World) (B : Nat) (v : Value) (l : List Int) : Prop := ∃ g, B ≤ g ∧ Own w g v l

theorem OwnB.bs {w : World} {B : Nat} {v : Value} {l : List Int} (h : OwnB w B v l) : Bs w v l := let ⟨_, _, h⟩ := h; h.bs
theorem OwnB.oct {w : World} {B : Nat} {v : Value} {l : List Int} (h : OwnB w B v l) : Oct l := let ⟨_, _, h⟩ := h; h.1
theorem OwnB.row {w : World} {B : Nat} {v : Value} {l : List Int} (h : OwnB w B v l) : w.ownsRow B 5 1 v l.length (vals l) := by
  obtain ⟨g, hB, h⟩ := h
  have h' := h.row
  refine ⟨h'.1, ?_⟩
  rcases h'.2 with h' | ⟨g', cap, cur, hv, hg, r⟩
  · exact .inl h'
  · exact .inr ⟨g', cap, cur, hv, Nat.le_trans hB hg, r⟩
theorem OwnB.alloc {w : World} {B : Nat} {v : Value} {l : List Int} (h : OwnB w B v l) (o : Obj) : OwnB (w.alloc o) B v l :=
  let ⟨g, hB, h⟩ := h; ⟨g, hB, h.grow (World.grownBy_alloc w o none)⟩
theorem OwnB.below {w w' : World} {B : Nat} {v : Value} {l : List Int} (h : OwnB w B v l) (hb : Below w.heap.size w w') : OwnB w' B v l :=
  let ⟨g, hB, h⟩ := h; ⟨g, hB, h.below hb⟩
theorem ownB_empty (w : World) (B : Nat) (hB : B ≤ w.heap.size) : OwnB (w.alloc (.cells #[] 5)) B (.slice (some ⟨w.heap.size, 0, none⟩) 0 0) [] :=
  ⟨w.heap.size, hB, oct_nil, .inr ⟨0, #[], rfl, heap_alloc_new w _, by simp, by simp, rfl, by simp [vals]⟩⟩

/-- One byte in a new block of its own: what 'append(out, x)' lays ahead. -/
theorem bs_one (w : World) (x : Int) (h : 0 ≤ x ∧ x ≤ 255) : Bs (w.alloc (.cells #[.int .u8 x] 5)) (.slice (some ⟨w.heap.size, 0, none⟩) 1 1) [x] := by
  refine ⟨by intro y hy; simp at hy; subst hy; exact h, _, 1, rfl, by simp, by decide, (fun h => by cases h), fun _ => ⟨w.heap.size, 0, rfl, by simp, fun i hi => ?_⟩⟩
  have : i = 0 := by simp at hi; omega
  subst this
  simp

theorem Bs.alloc {w : World} {v : Value} {l : List Int} (h : Bs w v l) (o : Obj) : Bs (w.alloc o) v l :=
  h.below ((Below.refl _ _).alloc (Nat.le_refl _) o)

theorem Addr.add_none (b off j : Nat) : (⟨b, off, none⟩ : Addr).add j = ⟨b, off + j, none⟩ := Addr.add_lit ..

theorem wpList_append_bytes {P : Program} {w : World} {ops : Array Oper} {rest : List Oper} {o : Oper} {a : Act} {Q : Exit → Act → World → Prop} (hgd : o.guard = none) (s x : Operand) (t : TypeId)
    (ho : o.op = .call { callee := .builtin .append, args := #[s, x], argTypes := #[t, t] })
    (i : TypeInfo) (ht : P.underlying t = some (.slice 5)) (hi : P.info? 5 = some i) (hz : i.zero = some (.int .u8 0)) (hsize : i.size = 1) (hby : i.bytes = 1)
    (B : Nat) (v : Value) (l : List Int) (hs : a.eval s = v) (hown : OwnB w B v l) (u : Value) (m : List Int) (hx : a.eval x = u) (hm : Bs w u m)
    (hlen : l.length + m.length ≤ 140737488355328) (hbase : B ≤ w.heap.size) (w0 : World) (hb : Below B w0 w)
    (h : ∀ v' w', OwnB w' B v' (l ++ m) → Below B w0 w' → w.grownBy w' v.ownBlock → wpList P ops Q rest (a.put o.dst v') w') : wpList P ops Q (o :: rest) a w := by
  obtain ⟨hmo, ad, cap, hu, h1, h2, h3, h4⟩ := hm
  have hr := hown.row
  cases ad with
  | none =>
    have : cap = 0 := h3 rfl
    subst this
    have : m = [] := List.eq_nil_of_length_eq_zero (by omega)
    subst this
    refine wpList_append_own_none hgd s x t ho B 5 i 1 ht hi v l.length (vals l) hs hr (by rw [hx, hu]; rfl) ?_
    exact h v w (by simpa using hown) hb (World.grownBy.refl _ _)
  | some ad =>
    have hl : l.length + m.length ≤ maxLen := by unfold maxLen; omega
    refine wpList_append_own w hgd s x t ho B 5 i (.int .u8 0) 1 1 ht hi hz hsize hby rfl (by omega) v l.length (vals l) hs hr ad m.length cap (vals m) (by rw [hx, hu]) (by simp [length_vals]) ?_ (oneCell_vals m) hl (by omega) hbase ?_
    · intro j y hy
      have hj : j < m.length := by have := (List.getElem?_eq_some_iff.1 hy).1; simpa [length_vals] using this
      obtain ⟨b, off, had, _, hc⟩ := h4 (by omega)
      cases had
      rw [Addr.add_lit, hc j hj, ← hy, vals_get m j hj]
    · intro v' w' hown' hg _
      obtain ⟨g, hgB, hg'⟩ := own_of_row (n := l.length + m.length) (oct_append hown.oct hmo) (by simp) (by rw [vals_append]; exact hown')
      exact h v' w' ⟨g, hgB, hg'⟩ (hb.grown hg hbase (fun k hk => (hr.lt k hk).1)) hg

theorem enc_hi (f : Nat) (m : Int) (h : 127 < m) : enc (f + 1) m = (m % 128 + 128) :: enc f (m / 128) := by simp [enc, h]
theorem enc_lo (f : Nat) (m : Int) (h : ¬ 127 < m) : enc f m = [m] := by cases f <;> simp [enc, h]
theorem enc_step {xs l : List Int} {f : Nat} {m n : Int} (h : 127 < m) (e : xs ++ enc (f + 1) m = l ++ enc 4 n) : (xs ++ [m % 128 + 128]) ++ enc f (m / 128) = l ++ enc 4 n := by
  rw [← e, enc_hi f m h]; simp

end Go.Proofs.YthnlbhmecokomaaDoor

/- What GetNum answers, on lists. -/
namespace Go.Proofs.YthnlbhmecokomaaDoor
open Go.RowKit

/-- Reads a number off the list: f bytes may still come, i have come, n is what they gave, sc the next one's weight. -/
def dec : Nat → Nat → Int → Int → List Int → Option (Int × Nat)
  | 0, _, _, _, _ => none
  | _ + 1, _, _, _, [] => none
  | f + 1, i, n, sc, x :: r =>
    if x < 128 then (if (x = 0 ∧ 0 < i) ∨ 2147483647 < n + x % 128 * sc then none else some (n + x % 128 * sc, i + 1))
    else dec f (i + 1) (n + x % 128 * sc) (sc * 128) r

/-- What GetNum answers. -/
def outOf (at' : Int) : Option (Int × Nat) → Int × Int
  | some (n, k) => (n, at' + k)
  | none => (0, -1)
def getL (l : List Int) (at' : Int) : Int × Int := if at' < 0 then (0, -1) else outOf at' (dec 5 0 0 1 (l.drop at'.toNat))

theorem drop_get (l : List Int) (k : Nat) (h : k < l.length) : l.drop k = l.getD k 0 :: l.drop (k + 1) := by
  rw [List.drop_eq_getElem_cons h]; simp [h]
theorem dec_end (f i : Nat) (n sc : Int) (l : List Int) (k : Nat) (h : l.length ≤ k) : dec f i n sc (l.drop k) = none := by
  rw [List.drop_eq_nil_of_le h]; cases f <;> rfl
theorem dec_more (f i : Nat) (n sc : Int) (l : List Int) (k : Nat) (h : k < l.length) (hx : ¬ l.getD k 0 < 128) :
    dec (f + 1) i n sc (l.drop k) = dec f (i + 1) (n + l.getD k 0 % 128 * sc) (sc * 128) (l.drop (k + 1)) := by
  rw [drop_get l k h]; simp only [dec]; rw [if_neg hx]
theorem dec_bad (f i : Nat) (n sc : Int) (l : List Int) (k : Nat) (h : k < l.length) (hx : l.getD k 0 < 128) (hb : (l.getD k 0 = 0 ∧ 0 < i) ∨ 2147483647 < n + l.getD k 0 % 128 * sc) :
    dec (f + 1) i n sc (l.drop k) = none := by
  rw [drop_get l k h]; simp only [dec]; rw [if_pos hx, if_pos hb]
theorem dec_good (f i : Nat) (n sc : Int) (l : List Int) (k : Nat) (h : k < l.length) (hx : l.getD k 0 < 128) (hb : ¬ ((l.getD k 0 = 0 ∧ 0 < i) ∨ 2147483647 < n + l.getD k 0 % 128 * sc)) :
    dec (f + 1) i n sc (l.drop k) = some (n + l.getD k 0 % 128 * sc, i + 1) := by
  rw [drop_get l k h]; simp only [dec]; rw [if_pos hx, if_neg hb]

theorem ret2 {a b : Int} {p : Int × Int} (h : p = (a, b)) : Ending.returned (.tuple #[.int .i64 a, .int .i64 b]) = .returned (.tuple #[.int .i64 p.1, .int .i64 p.2]) := by rw [h]

theorem ret2' {a b a' b' : Int} {p : Int × Int} (h : p = (a', b')) (e1 : a = a') (e2 : b = b') : Ending.returned (.tuple #[.int .i64 a, .int .i64 b]) = .returned (.tuple #[.int .i64 p.1, .int .i64 p.2]) := by rw [h, e1, e2]

end Go.Proofs.YthnlbhmecokomaaDoor

/- copy of bytes into a row of the call's own, as one law for the walk: what is copied may be nil. -/
namespace Go.Proofs.YthnlbhmecokomaaDoor
open Go.RowKit

theorem vals_splice (cur : List Int) (off : Nat) (m : List Int) : vals (splice cur off m) = splice (vals cur) off (vals m) := by simp [splice, vals, List.map_take, List.map_drop]
theorem splice_two (Z A B : List Int) (h : Z.length = A.length + B.length) : splice (splice Z 0 A) A.length B = A ++ B := by
  have h1 : (A ++ Z.drop A.length).drop (A.length + B.length) = [] := List.drop_eq_nil_of_le (by simp; omega)
  simp [splice, h1]

theorem wpList_copy_bytes {P : Program} {w : World} {ops : Array Oper} {rest : List Oper} {o : Oper} {a : Act} {Q : Exit → Act → World → Prop} (hgd : o.guard = none) (d s : Operand) (dT sT : TypeId)
    (ho : o.op = .call { callee := .builtin .copy, args := #[d, s], argTypes := #[dT, sT] }) (hu : P.underlying dT = some (.slice 5)) (hsz : (P.info? 5).map (·.size) = some 1)
    (dp : Option Addr) (dLen dCap : Nat) (hd : a.eval d = .slice dp dLen dCap) (u : Value) (m : List Int) (hs : a.eval s = u) (hm : Bs w u m) (k : Nat) (hk : k = Nat.min m.length dLen)
    (g off : Nat) (cur : List Int) (hg : w.heap[g]? = some (.cells (vals cur).toArray 5 (0, 0)))
    (hpos : 0 < k → dp = some ⟨g, off, none⟩) (hfit : off + k ≤ cur.length) (B : Nat) (w0 : World) (hb : Below B w0 w) (hBg : B ≤ g)
    (h : ∀ w', Hid (w'.heap[g]? = some (.cells (vals (splice cur off (m.take k))).toArray 5 (0, 0))) → Below B w0 w' → wpList P ops Q rest (a.put o.dst (goInt k)) w') :
    wpList P ops Q (o :: rest) a w := by
  obtain ⟨hmo, ad, cap, hv, h1, h2, h3, h4⟩ := hm
  have hkm : k ≤ m.length := by rw [hk]; exact Nat.min_le_left ..
  have hl : (m.take k).length = k := by simp; omega
  refine wpList_copy_splice hgd d s dT sT ho 5 hu hsz dp ad dLen dCap m.length cap hd (by rw [hs, hv]) g off (vals cur) 5 hg (vals (m.take k)) (by rw [length_vals, hl, hk]) ?_ (by rw [length_vals, length_vals, hl]; exact hfit) (oneCell_vals _) B w0 hb hBg ?_
  · intro hp
    rw [length_vals, hl] at hp
    obtain ⟨b, off', had, _, hc⟩ := h4 (by omega)
    refine ⟨hpos hp, _, had, fun j v hj => ?_⟩
    have hj' : j < k := by have := (List.getElem?_eq_some_iff.1 hj).1; rw [length_vals, hl] at this; exact this
    rw [Addr.add_lit, hc j (by omega), ← hj, vals_get _ j (by rw [hl]; exact hj')]
    simp [hj']
  · intro w' hg' hb'
    rw [length_vals, hl]
    exact h w' (by rw [vals_splice]; exact hg') hb'

end Go.Proofs.YthnlbhmecokomaaDoor

/- Rows of bytes that lie in blocks from B on and below T: so that two of them are seen to be apart. -/
namespace Go.Proofs.YthnlbhmecokomaaDoor
open Go.RowKit

/-- The value v is nil, or lies at the head of a block from B on and below T; its bytes are l. -/
def Row (w : World) (B T : Nat) (v : Value) (l : List Int) : Prop :=
  Oct l ∧ w.ownsRow B 5 1 v l.length (vals l) ∧ ∀ g, v.ownBlock = some g → g < T

theorem OwnB.toRow {w : World} {B : Nat} {v : Value} {l : List Int} (h : OwnB w B v l) : Row w B w.heap.size v l := ⟨h.oct, h.row, fun g hg => (h.row.lt g hg).2⟩
/-- A row whose block is known. -/
theorem Own.toRow {w : World} {g : Nat} {v : Value} {l : List Int} (h : Own w g v l) : Row w g (g + 1) v l := by
  refine ⟨h.1, h.row, fun k hk => ?_⟩
  rcases h.2 with ⟨hv, _⟩ | ⟨cap, cur, hv, _⟩
  · rw [hv] at hk; simp [Value.ownBlock] at hk
  · rw [hv] at hk; simp [Value.ownBlock] at hk; omega
theorem Row.oct {w : World} {B T : Nat} {v : Value} {l : List Int} (h : Row w B T v l) : Oct l := h.1
theorem Row.own {w : World} {B T : Nat} {v : Value} {l : List Int} (h : Row w B T v l) : OwnB w B v l := own_of_row h.1 rfl h.2.1
theorem Row.bs {w : World} {B T : Nat} {v : Value} {l : List Int} (h : Row w B T v l) : Bs w v l := h.own.bs
theorem Row.wide {w : World} {B T B' T' : Nat} {v : Value} {l : List Int} (h : Row w B T v l) (hB : B' ≤ B) (hT : T ≤ T') : Row w B' T' v l := by
  refine ⟨h.1, ⟨h.2.1.1, ?_⟩, fun g hg => Nat.lt_of_lt_of_le (h.2.2 g hg) hT⟩
  rcases h.2.1.2 with hn | ⟨g, cap, cur, hv, hg, r⟩
  · exact .inl hn
  · exact .inr ⟨g, cap, cur, hv, Nat.le_trans hB hg, r⟩
theorem Row.below {w w' : World} {B T : Nat} {v : Value} {l : List Int} (h : Row w B T v l) (hb : Below w.heap.size w w') : Row w' B T v l :=
  ⟨h.1, (h.own.below hb).row, h.2.2⟩
/-- Another row was written. -/
theorem Row.kept {w w' : World} {B T B' T' : Nat} {v u : Value} {l m : List Int} (h : Row w B T v l) (hu : Row w B' T' u m) (hg : w.grownBy w' u.ownBlock) (hd : T ≤ B' ∨ T' ≤ B) : Row w' B T v l := by
  refine ⟨h.1, h.2.1.kept hg ?_, h.2.2⟩
  cases hv : v.ownBlock with
  | none => exact .inl rfl
  | some g =>
    refine .inr fun e => ?_
    have h1 := (h.2.1.lt g hv).1
    have h2 := h.2.2 g hv
    have h3 := (hu.2.1.lt g e.symm).1
    have h4 := hu.2.2 g e.symm
    omega
theorem Row.nil (w : World) (B T : Nat) : Row w B T (.slice none 0 0) [] := ⟨oct_nil, World.ownsRow_nil _ _ _ _, fun g hg => by simp [Value.ownBlock] at hg⟩
/-- What lies below the row's blocks has not turned. -/
theorem Row.wrote {w0 w w' : World} {B T : Nat} {u : Value} {m : List Int} (hu : Row w B T u m) (hg : w.grownBy w' u.ownBlock) (hb : Below w0.heap.size w0 w) (hB : w0.heap.size ≤ B) : Below w0.heap.size w0 w' :=
  hb.grown hg hb.size (fun k hk => Nat.le_trans hB (hu.2.1.lt k hk).1)

/-- A row stays while another block is written. -/
theorem Row.drawn {w w' : World} {g B T : Nat} {v : Value} {l : List Int} (h : Row w B T v l) (hw : w.grownBy w' (some g)) (hd : g < B ∨ T ≤ g) : Row w' B T v l := by
  refine ⟨h.1, h.2.1.kept hw ?_, h.2.2⟩
  cases hv : v.ownBlock with
  | none => exact .inl rfl
  | some k =>
    refine .inr fun e => ?_
    have h1 := (h.2.1.lt k hv).1
    have h2 := h.2.2 k hv
    simp only [Option.some.injEq] at e
    omega
/-- A row stays while a cell of another block is written. -/
theorem Row.set {w : World} {g i B T : Nat} {v x : Value} {l : List Int} (h : Row w B T v l) (hd : g < B ∨ T ≤ g) : Row (w.setCell ⟨g, i, none⟩ x) B T v l :=
  h.drawn (grownBy_setCell (World.grownBy.refl _ _)) hd
theorem below_of_drewN {w w' : World} (h : ∃ n, w' = w.drewN n) : Below w.heap.size w w' := by
  obtain ⟨n, rfl⟩ := h; exact below_drewN n (Below.refl _ _)
theorem Below.step {w w1 w2 : World} (h : Below w.heap.size w w1) (h' : Below w1.heap.size w1 w2) : Below w.heap.size w w2 := h.trans (h'.mono h.size)

end Go.Proofs.YthnlbhmecokomaaDoor

/- Closed facts on the program's types that the walks use. -/
namespace Go.Proofs.YthnlbhmecokomaaDoor
open Go.RowKit

theorem info5 : (Tryd.prog.info? 5).map (fun i => (i.zero, i.size, i.bytes)) = some (some (.int .u8 0), 1, 1) := by kernel_rfl
theorem sz5 : (Tryd.prog.info? 5).map (·.size) = some 1 := by kernel_rfl
theorem size5 (W : World) : (sizeOf 5).run Tryd.prog W = .ok 1 W := by kernel_rfl
theorem bs_nil (w : World) : Bs w (.slice none 0 0) [] := ⟨oct_nil, none, 0, rfl, by simp, by simp, fun _ => rfl, fun h => absurd h (by simp)⟩

end Go.Proofs.YthnlbhmecokomaaDoor

/- A number read in two steps: how many bytes it has, then what they say. -/
namespace Go.Proofs.YthnlbhmecokomaaDoor
open Go.RowKit

/-- How many bytes the number has, i of them passed already; 0: there is none. -/
def szL : Nat → List Int → Nat
  | _, [] => 0
  | i, x :: r => if x < 128 then (if x = 0 ∧ 0 < i then 0 else i + 1) else szL (i + 1) r
/-- What the bytes say, seven bits each, the lowest first. -/
def valL : List Int → Int
  | [] => 0
  | x :: r => x % 128 + 128 * valL r

theorem szL_gt (i : Nat) (l : List Int) : szL i l = 0 ∨ (i < szL i l ∧ szL i l ≤ i + l.length) := by
  induction l generalizing i with
  | nil => left; rfl
  | cons x r ih =>
    unfold szL
    split
    · split
      · left; rfl
      · right; simp
    · rcases ih (i + 1) with h | h
      · left; exact h
      · right; simp; omega

theorem dec_two (f i : Nat) (n sc : Int) (l : List Int) :
    dec f i n sc l = if szL i (l.take f) = 0 then none else if 2147483647 < n + sc * valL (l.take (szL i (l.take f) - i)) then none else some (n + sc * valL (l.take (szL i (l.take f) - i)), szL i (l.take f)) := by
  induction f generalizing i n sc l with
  | zero => simp [dec, szL]
  | succ f ih =>
    cases l with
    | nil => simp [dec, szL]
    | cons x r =>
      simp only [dec, List.take_succ_cons, szL]
      by_cases hx : x < 128
      · simp only [if_pos hx]
        by_cases hz : x = 0 ∧ 0 < i
        · simp [hz]
        · have e : sc * valL [x] = x % 128 * sc := by simp [valL, Int.mul_comm]
          simp only [hz, false_or]
          simp [e]
      · simp only [if_neg hx]
        rw [ih]
        rcases szL_gt (i + 1) (r.take f) with h | h
        · simp [h]
        · have hne : szL (i + 1) (r.take f) ≠ 0 := by omega
          have e : n + x % 128 * sc + sc * 128 * valL (r.take (szL (i + 1) (r.take f) - (i + 1))) = n + sc * valL ((x :: r).take (szL (i + 1) (r.take f) - i)) := by
            rw [show szL (i + 1) (r.take f) - i = (szL (i + 1) (r.take f) - (i + 1)) + 1 by omega, List.take_succ_cons, valL, Int.mul_add, Int.mul_comm (x % 128) sc, Int.mul_assoc, Int.add_assoc]
          rw [e]

end Go.Proofs.YthnlbhmecokomaaDoor

/- What numSize and numOf of package impl do. -/
namespace Go.Proofs.YthnlbhmecokomaaDoor
open Go.RowKit
set_option maxRecDepth 100000

theorem szL_more (cs : List Int) (t k : Nat) (h : k < t) (hk : k < cs.length) (hx : ¬ cs.getD k 0 < 128) : szL k ((cs.take t).drop k) = szL (k + 1) ((cs.take t).drop (k + 1)) := by
  rw [drop_get _ k (by simp; omega)]
  simp only [szL]
  rw [if_neg (by simpa [h] using hx)]
theorem szL_end (cs : List Int) (t k : Nat) (h : t ≤ k) : szL k ((cs.take t).drop k) = 0 := by
  rw [List.drop_eq_nil_of_le (by simp; omega)]; rfl
theorem szL_bad (cs : List Int) (t k : Nat) (h : k < t) (hk : k < cs.length) (hx : cs.getD k 0 = 0) (h0 : 0 < k) : szL k ((cs.take t).drop k) = 0 := by
  rw [drop_get _ k (by simp; omega)]
  have : (cs.take t).getD k 0 = 0 := by simpa [h] using hx
  simp only [szL, this]
  simp [h0]
theorem szL_good (cs : List Int) (t k : Nat) (h : k < t) (hk : k < cs.length) (hx : cs.getD k 0 < 128) (h0 : ¬ (cs.getD k 0 = 0 ∧ 0 < k)) : szL k ((cs.take t).drop k) = k + 1 := by
  rw [drop_get _ k (by simp; omega)]
  have : (cs.take t).getD k 0 = cs.getD k 0 := by simp [h]
  simp only [szL, this]
  rw [if_pos hx, if_neg h0]

set_option maxHeartbeats 1000000 in
theorem numSize_any (c0 c1 c2 c3 c4 : Int) (t : Nat) (w : World) (ht : t ≤ 5) (ho : Oct [c0, c1, c2, c3, c4]) :
    Calls Tryd.prog 62 #[.agg #[.int .u8 c0, .int .u8 c1, .int .u8 c2, .int .u8 c3, .int .u8 c4], .int .i64 t] w fun e w' => e = .returned (.int .i64 (szL 0 ([c0, c1, c2, c3, c4].take t))) ∧ Below w.heap.size w w' := by
  generalize hG : szL 0 ([c0, c1, c2, c3, c4].take t) = G
  have HG : Hid (szL 0 (([c0, c1, c2, c3, c4].take t).drop 0) = G) := hG
  clear hG
  have hB : Below w.heap.size w (w.alloc (.cells #[.int .u8 c0, .int .u8 c1, .int .u8 c2, .int .u8 c3, .int .u8 c4] 88)) := (Below.refl _ _).alloc (Nat.le_refl _) _
  go_enter Tryd.func62, Tryd.ntmps62
  go_wp2
  go_loop [7] (fun i => ∃ k : Nat, k ≤ t ∧ i = .int .i64 k ∧ Hid (szL k (([c0, c1, c2, c3, c4].take t).drop k) = G)) (fun i => t - (intOf i).toNat)
  case atStart => exact ⟨0, Nat.zero_le _, rfl, HG⟩
  case round =>
    obtain ⟨k, hk, rfl, HR⟩ := hrel
    clear HG
    by_cases hlt : k < t
    · rcases (show k = 0 ∨ k = 1 ∨ k = 2 ∨ k = 3 ∨ k = 4 by omega) with rfl | rfl | rfl | rfl | rfl
      · have hc := ho c0 (by simp)
        by_cases hx : c0 < 128
        · by_cases hz : c0 = 0
          · have hz' : (c0 == 0) = true := by simp [hz]
            have e : G = 1 := by rw [← HR.out]; exact szL_good [c0, c1, c2, c3, c4] t 0 hlt (by simp) hx (by omega)
            clear hz
            have E : Hid (G = 1) := e
            clear e
            go_wp2
            go_ret
            exact ⟨by rw [E.out]; rfl, hB⟩
          · have hz' : (c0 == 0) = false := by simp [hz]
            have E : Hid (G = 1) := by rw [← HR.out]; exact szL_good [c0, c1, c2, c3, c4] t 0 hlt (by simp) hx (fun h => hz h.1)
            clear hz
            go_wp2
            go_ret
            exact ⟨by rw [E.out]; rfl, hB⟩
        · have E : Hid (szL 1 (([c0, c1, c2, c3, c4].take t).drop 1) = G) := by rw [← HR.out]; exact (szL_more [c0, c1, c2, c3, c4] t 0 hlt (by simp) hx).symm
          go_wp2
          go_round
          case rel => exact ⟨1, by omega, rfl, E⟩
          case measure => simp [intOf]; omega
      · have hc := ho c1 (by simp)
        by_cases hx : c1 < 128
        · by_cases hz : c1 = 0
          · have hz' : (c1 == 0) = true := by simp [hz]
            have e : G = 0 := by rw [← HR.out]; exact szL_bad [c0, c1, c2, c3, c4] t 1 hlt (by simp) hz (by omega)
            clear hz
            have E : Hid (G = 0) := e
            clear e
            go_wp2
            go_ret
            exact ⟨by rw [E.out]; rfl, hB⟩
          · have hz' : (c1 == 0) = false := by simp [hz]
            have E : Hid (G = 2) := by rw [← HR.out]; exact szL_good [c0, c1, c2, c3, c4] t 1 hlt (by simp) hx (fun h => hz h.1)
            clear hz
            go_wp2
            go_ret
            exact ⟨by rw [E.out]; rfl, hB⟩
        · have E : Hid (szL 2 (([c0, c1, c2, c3, c4].take t).drop 2) = G) := by rw [← HR.out]; exact (szL_more [c0, c1, c2, c3, c4] t 1 hlt (by simp) hx).symm
          go_wp2
          go_round
          case rel => exact ⟨2, by omega, rfl, E⟩
          case measure => simp [intOf]; omega
      · have hc := ho c2 (by simp)
        by_cases hx : c2 < 128
        · by_cases hz : c2 = 0
          · have hz' : (c2 == 0) = true := by simp [hz]
            have e : G = 0 := by rw [← HR.out]; exact szL_bad [c0, c1, c2, c3, c4] t 2 hlt (by simp) hz (by omega)
            clear hz
            have E : Hid (G = 0) := e
            clear e
            go_wp2
            go_ret
            exact ⟨by rw [E.out]; rfl, hB⟩
          · have hz' : (c2 == 0) = false := by simp [hz]
            have E : Hid (G = 3) := by rw [← HR.out]; exact szL_good [c0, c1, c2, c3, c4] t 2 hlt (by simp) hx (fun h => hz h.1)
            clear hz
            go_wp2
            go_ret
            exact ⟨by rw [E.out]; rfl, hB⟩
        · have E : Hid (szL 3 (([c0, c1, c2, c3, c4].take t).drop 3) = G) := by rw [← HR.out]; exact (szL_more [c0, c1, c2, c3, c4] t 2 hlt (by simp) hx).symm
          go_wp2
          go_round
          case rel => exact ⟨3, by omega, rfl, E⟩
          case measure => simp [intOf]; omega
      · have hc := ho c3 (by simp)
        by_cases hx : c3 < 128
        · by_cases hz : c3 = 0
          · have hz' : (c3 == 0) = true := by simp [hz]
            have e : G = 0 := by rw [← HR.out]; exact szL_bad [c0, c1, c2, c3, c4] t 3 hlt (by simp) hz (by omega)
            clear hz
            have E : Hid (G = 0) := e
            clear e
            go_wp2
            go_ret
            exact ⟨by rw [E.out]; rfl, hB⟩
          · have hz' : (c3 == 0) = false := by simp [hz]
            have E : Hid (G = 4) := by rw [← HR.out]; exact szL_good [c0, c1, c2, c3, c4] t 3 hlt (by simp) hx (fun h => hz h.1)
            clear hz
            go_wp2
            go_ret
            exact ⟨by rw [E.out]; rfl, hB⟩
        · have E : Hid (szL 4 (([c0, c1, c2, c3, c4].take t).drop 4) = G) := by rw [← HR.out]; exact (szL_more [c0, c1, c2, c3, c4] t 3 hlt (by simp) hx).symm
          go_wp2
          go_round
          case rel => exact ⟨4, by omega, rfl, E⟩
          case measure => simp [intOf]; omega
      · have hc := ho c4 (by simp)
        by_cases hx : c4 < 128
        · by_cases hz : c4 = 0
          · have hz' : (c4 == 0) = true := by simp [hz]
            have e : G = 0 := by rw [← HR.out]; exact szL_bad [c0, c1, c2, c3, c4] t 4 hlt (by simp) hz (by omega)
            clear hz
            have E : Hid (G = 0) := e
            clear e
            go_wp2
            go_ret
            exact ⟨by rw [E.out]; rfl, hB⟩
          · have hz' : (c4 == 0) = false := by simp [hz]
            have E : Hid (G = 5) := by rw [← HR.out]; exact szL_good [c0, c1, c2, c3, c4] t 4 hlt (by simp) hx (fun h => hz h.1)
            clear hz
            go_wp2
            go_ret
            exact ⟨by rw [E.out]; rfl, hB⟩
        · have E : Hid (szL 5 (([c0, c1, c2, c3, c4].take t).drop 5) = G) := by rw [← HR.out]; exact (szL_more [c0, c1, c2, c3, c4] t 4 hlt (by simp) hx).symm
          go_wp2
          go_round
          case rel => exact ⟨5, by omega, rfl, E⟩
          case measure => simp [intOf]; omega
    · go_wp2
      go_ret
      have e : G = 0 := by rw [← HR.out]; exact szL_end _ _ _ (by omega)
      exact ⟨by rw [e]; rfl, hB⟩


theorem andNot128_fin : ∀ x : Fin 256, bits BinOp.andNot IntKind.u8 (x.val : Int) 128 = (x.val : Int) % 128 := by decide +kernel
theorem andNot128 (x : Int) (h0 : 0 ≤ x) (h1 : x ≤ 255) : bits BinOp.andNot IntKind.u8 x 128 = x % 128 := by
  have h := andNot128_fin ⟨x.toNat, by omega⟩
  simp only at h
  rw [show ((x.toNat : Nat) : Int) = x by omega] at h
  exact h
theorem or_add (k : Nat) (N x : Int) (hk : k ≤ 28) (h0 : 0 ≤ N) (h1 : N < 2 ^ k) (h2 : 0 ≤ x) (h3 : x < 128) : bits BinOp.or IntKind.u64 N (x * 2 ^ k) = N + x * 2 ^ k := by
  obtain ⟨n, rfl⟩ := Int.eq_ofNat_of_zero_le h0
  obtain ⟨y, rfl⟩ := Int.eq_ofNat_of_zero_le h2
  have hp : (2 : Nat) ^ k ≤ 2 ^ 28 := Nat.pow_le_pow_right (by omega) hk
  have h1' : n < 2 ^ k := by
    have : (n : Int) < ((2 ^ k : Nat) : Int) := by simpa using h1
    omega
  have e : (y : Int) * 2 ^ k = ((y <<< k : Nat) : Int) := by rw [Nat.shiftLeft_eq]; simp
  have hb : y <<< k < 18446744073709551616 := by
    rw [Nat.shiftLeft_eq]
    exact Nat.lt_of_le_of_lt (Nat.mul_le_mul (show y ≤ 128 by omega) hp) (by decide)
  rw [e, u64_or_nat n _ (by omega) hb, Nat.or_comm, ← Nat.shiftLeft_add_eq_or_of_lt h1' y]
  simp [Int.add_comm]

set_option maxHeartbeats 1000000 in
theorem numOf_1 (c0 c1 c2 c3 c4 : Int) (w : World) (ho : Oct [c0, c1, c2, c3, c4]) :
    Calls Tryd.prog 63 #[.agg #[.int .u8 c0, .int .u8 c1, .int .u8 c2, .int .u8 c3, .int .u8 c4], .int .i64 1] w fun e w' => e = .returned (.int .u64 (c0 % 128)) ∧ Below w.heap.size w w' := by
  have n0 := andNot128 c0 (ho c0 (by simp)).1 (ho c0 (by simp)).2
  have b0 := ho c0 (by simp)
  have o0 : bits BinOp.or IntKind.u64 0 (c0 % 128) = c0 % 128 := by simpa using or_add 0 0 (c0 % 128) (by omega) (by omega) (by omega) (by omega) (by omega)
  go_enter Tryd.func63, Tryd.ntmps63
  go_wp2
  refine wp_loop_rounds 2 ?_
  rw [rounds_succ]
  go_wp2
  rw [rounds_succ]
  go_wp2
  go_ret
  exact ⟨rfl, (Below.refl _ _).alloc (Nat.le_refl _) _⟩

set_option maxHeartbeats 1000000 in
theorem numOf_2 (c0 c1 c2 c3 c4 : Int) (w : World) (ho : Oct [c0, c1, c2, c3, c4]) :
    Calls Tryd.prog 63 #[.agg #[.int .u8 c0, .int .u8 c1, .int .u8 c2, .int .u8 c3, .int .u8 c4], .int .i64 2] w fun e w' => e = .returned (.int .u64 (c0 % 128 + c1 % 128 * 128)) ∧ Below w.heap.size w w' := by
  have n0 := andNot128 c0 (ho c0 (by simp)).1 (ho c0 (by simp)).2
  have b0 := ho c0 (by simp)
  have n1 := andNot128 c1 (ho c1 (by simp)).1 (ho c1 (by simp)).2
  have b1 := ho c1 (by simp)
  have o0 : bits BinOp.or IntKind.u64 0 (c0 % 128) = c0 % 128 := by simpa using or_add 0 0 (c0 % 128) (by omega) (by omega) (by omega) (by omega) (by omega)
  have o1 : bits BinOp.or IntKind.u64 (c0 % 128) (c1 % 128 * 128) = c0 % 128 + c1 % 128 * 128 := or_add 7 (c0 % 128) (c1 % 128) (by omega) (by omega) (by omega) (by omega) (by omega)
  go_enter Tryd.func63, Tryd.ntmps63
  go_wp2
  refine wp_loop_rounds 3 ?_
  rw [rounds_succ]
  go_wp2
  rw [rounds_succ]
  go_wp2
  rw [rounds_succ]
  go_wp2
  go_ret
  exact ⟨rfl, (Below.refl _ _).alloc (Nat.le_refl _) _⟩

set_option maxHeartbeats 1000000 in
theorem numOf_3 (c0 c1 c2 c3 c4 : Int) (w : World) (ho : Oct [c0, c1, c2, c3, c4]) :
    Calls Tryd.prog 63 #[.agg #[.int .u8 c0, .int .u8 c1, .int .u8 c2, .int .u8 c3, .int .u8 c4], .int .i64 3] w fun e w' => e = .returned (.int .u64 (c0 % 128 + c1 % 128 * 128 + c2 % 128 * 16384)) ∧ Below w.heap.size w w' := by
  have n0 := andNot128 c0 (ho c0 (by simp)).1 (ho c0 (by simp)).2
  have b0 := ho c0 (by simp)
  have n1 := andNot128 c1 (ho c1 (by simp)).1 (ho c1 (by simp)).2
  have b1 := ho c1 (by simp)
  have n2 := andNot128 c2 (ho c2 (by simp)).1 (ho c2 (by simp)).2
  have b2 := ho c2 (by simp)
  have o0 : bits BinOp.or IntKind.u64 0 (c0 % 128) = c0 % 128 := by simpa using or_add 0 0 (c0 % 128) (by omega) (by omega) (by omega) (by omega) (by omega)
  have o1 : bits BinOp.or IntKind.u64 (c0 % 128) (c1 % 128 * 128) = c0 % 128 + c1 % 128 * 128 := or_add 7 (c0 % 128) (c1 % 128) (by omega) (by omega) (by omega) (by omega) (by omega)
  have o2 : bits BinOp.or IntKind.u64 (c0 % 128 + c1 % 128 * 128) (c2 % 128 * 16384) = c0 % 128 + c1 % 128 * 128 + c2 % 128 * 16384 := or_add 14 (c0 % 128 + c1 % 128 * 128) (c2 % 128) (by omega) (by omega) (by omega) (by omega) (by omega)
  go_enter Tryd.func63, Tryd.ntmps63
  go_wp2
  refine wp_loop_rounds 4 ?_
  rw [rounds_succ]
  go_wp2
  rw [rounds_succ]
  go_wp2
  rw [rounds_succ]
  go_wp2
  rw [rounds_succ]
  go_wp2
  go_ret
  exact ⟨rfl, (Below.refl _ _).alloc (Nat.le_refl _) _⟩

set_option maxHeartbeats 1000000 in
theorem numOf_4 (c0 c1 c2 c3 c4 : Int) (w : World) (ho : Oct [c0, c1, c2, c3, c4]) :
    Calls Tryd.prog 63 #[.agg #[.int .u8 c0, .int .u8 c1, .int .u8 c2, .int .u8 c3, .int .u8 c4], .int .i64 4] w fun e w' => e = .returned (.int .u64 (c0 % 128 + c1 % 128 * 128 + c2 % 128 * 16384 + c3 % 128 * 2097152)) ∧ Below w.heap.size w w' := by
  have n0 := andNot128 c0 (ho c0 (by simp)).1 (ho c0 (by simp)).2
  have b0 := ho c0 (by simp)
  have n1 := andNot128 c1 (ho c1 (by simp)).1 (ho c1 (by simp)).2
  have b1 := ho c1 (by simp)
  have n2 := andNot128 c2 (ho c2 (by simp)).1 (ho c2 (by simp)).2
  have b2 := ho c2 (by simp)
  have n3 := andNot128 c3 (ho c3 (by simp)).1 (ho c3 (by simp)).2
  have b3 := ho c3 (by simp)
  have o0 : bits BinOp.or IntKind.u64 0 (c0 % 128) = c0 % 128 := by simpa using or_add 0 0 (c0 % 128) (by omega) (by omega) (by omega) (by omega) (by omega)
  have o1 : bits BinOp.or IntKind.u64 (c0 % 128) (c1 % 128 * 128) = c0 % 128 + c1 % 128 * 128 := or_add 7 (c0 % 128) (c1 % 128) (by omega) (by omega) (by omega) (by omega) (by omega)
  have o2 : bits BinOp.or IntKind.u64 (c0 % 128 + c1 % 128 * 128) (c2 % 128 * 16384) = c0 % 128 + c1 % 128 * 128 + c2 % 128 * 16384 := or_add 14 (c0 % 128 + c1 % 128 * 128) (c2 % 128) (by omega) (by omega) (by omega) (by omega) (by omega)
  have o3 : bits BinOp.or IntKind.u64 (c0 % 128 + c1 % 128 * 128 + c2 % 128 * 16384) (c3 % 128 * 2097152) = c0 % 128 + c1 % 128 * 128 + c2 % 128 * 16384 + c3 % 128 * 2097152 := or_add 21 (c0 % 128 + c1 % 128 * 128 + c2 % 128 * 16384) (c3 % 128) (by omega) (by omega) (by omega) (by omega) (by omega)
  go_enter Tryd.func63, Tryd.ntmps63
  go_wp2
  refine wp_loop_rounds 5 ?_
  rw [rounds_succ]
  go_wp2
  rw [rounds_succ]
  go_wp2
  rw [rounds_succ]
  go_wp2
  rw [rounds_succ]
  go_wp2
  rw [rounds_succ]
  go_wp2
  go_ret
  exact ⟨rfl, (Below.refl _ _).alloc (Nat.le_refl _) _⟩

set_option maxHeartbeats 1000000 in
theorem numOf_5 (c0 c1 c2 c3 c4 : Int) (w : World) (ho : Oct [c0, c1, c2, c3, c4]) :
    Calls Tryd.prog 63 #[.agg #[.int .u8 c0, .int .u8 c1, .int .u8 c2, .int .u8 c3, .int .u8 c4], .int .i64 5] w fun e w' => e = .returned (.int .u64 (c0 % 128 + c1 % 128 * 128 + c2 % 128 * 16384 + c3 % 128 * 2097152 + c4 % 128 * 268435456)) ∧ Below w.heap.size w w' := by
  have n0 := andNot128 c0 (ho c0 (by simp)).1 (ho c0 (by simp)).2
  have b0 := ho c0 (by simp)
  have n1 := andNot128 c1 (ho c1 (by simp)).1 (ho c1 (by simp)).2
  have b1 := ho c1 (by simp)
  have n2 := andNot128 c2 (ho c2 (by simp)).1 (ho c2 (by simp)).2
  have b2 := ho c2 (by simp)
  have n3 := andNot128 c3 (ho c3 (by simp)).1 (ho c3 (by simp)).2
  have b3 := ho c3 (by simp)
  have n4 := andNot128 c4 (ho c4 (by simp)).1 (ho c4 (by simp)).2
  have b4 := ho c4 (by simp)
  have o0 : bits BinOp.or IntKind.u64 0 (c0 % 128) = c0 % 128 := by simpa using or_add 0 0 (c0 % 128) (by omega) (by omega) (by omega) (by omega) (by omega)
  have o1 : bits BinOp.or IntKind.u64 (c0 % 128) (c1 % 128 * 128) = c0 % 128 + c1 % 128 * 128 := or_add 7 (c0 % 128) (c1 % 128) (by omega) (by omega) (by omega) (by omega) (by omega)
  have o2 : bits BinOp.or IntKind.u64 (c0 % 128 + c1 % 128 * 128) (c2 % 128 * 16384) = c0 % 128 + c1 % 128 * 128 + c2 % 128 * 16384 := or_add 14 (c0 % 128 + c1 % 128 * 128) (c2 % 128) (by omega) (by omega) (by omega) (by omega) (by omega)
  have o3 : bits BinOp.or IntKind.u64 (c0 % 128 + c1 % 128 * 128 + c2 % 128 * 16384) (c3 % 128 * 2097152) = c0 % 128 + c1 % 128 * 128 + c2 % 128 * 16384 + c3 % 128 * 2097152 := or_add 21 (c0 % 128 + c1 % 128 * 128 + c2 % 128 * 16384) (c3 % 128) (by omega) (by omega) (by omega) (by omega) (by omega)
  have o4 : bits BinOp.or IntKind.u64 (c0 % 128 + c1 % 128 * 128 + c2 % 128 * 16384 + c3 % 128 * 2097152) (c4 % 128 * 268435456) = c0 % 128 + c1 % 128 * 128 + c2 % 128 * 16384 + c3 % 128 * 2097152 + c4 % 128 * 268435456 := or_add 28 (c0 % 128 + c1 % 128 * 128 + c2 % 128 * 16384 + c3 % 128 * 2097152) (c4 % 128) (by omega) (by omega) (by omega) (by omega) (by omega)
  go_enter Tryd.func63, Tryd.ntmps63
  go_wp2
  refine wp_loop_rounds 6 ?_
  rw [rounds_succ]
  go_wp2
  rw [rounds_succ]
  go_wp2
  rw [rounds_succ]
  go_wp2
  rw [rounds_succ]
  go_wp2
  rw [rounds_succ]
  go_wp2
  rw [rounds_succ]
  go_wp2
  go_ret
  exact ⟨rfl, (Below.refl _ _).alloc (Nat.le_refl _) _⟩

theorem numOf_any (c0 c1 c2 c3 c4 : Int) (k : Nat) (w : World) (hk0 : 1 ≤ k) (hk : k ≤ 5) (ho : Oct [c0, c1, c2, c3, c4]) :
    Calls Tryd.prog 63 #[.agg #[.int .u8 c0, .int .u8 c1, .int .u8 c2, .int .u8 c3, .int .u8 c4], .int .i64 k] w fun e w' => e = .returned (.int .u64 (valL ([c0, c1, c2, c3, c4].take k))) ∧ Below w.heap.size w w' := by
  rcases (show k = 1 ∨ k = 2 ∨ k = 3 ∨ k = 4 ∨ k = 5 by omega) with rfl | rfl | rfl | rfl | rfl
  · exact (numOf_1 c0 c1 c2 c3 c4 w ho).mono fun e w' ⟨h1, h2⟩ => ⟨by rw [h1]; congr 2; simp [valL], h2⟩
  · exact (numOf_2 c0 c1 c2 c3 c4 w ho).mono fun e w' ⟨h1, h2⟩ => ⟨by rw [h1]; congr 2; simp [valL]; omega, h2⟩
  · exact (numOf_3 c0 c1 c2 c3 c4 w ho).mono fun e w' ⟨h1, h2⟩ => ⟨by rw [h1]; congr 2; simp [valL]; omega, h2⟩
  · exact (numOf_4 c0 c1 c2 c3 c4 w ho).mono fun e w' ⟨h1, h2⟩ => ⟨by rw [h1]; congr 2; simp [valL]; omega, h2⟩
  · exact (numOf_5 c0 c1 c2 c3 c4 w ho).mono fun e w' ⟨h1, h2⟩ => ⟨by rw [h1]; congr 2; simp [valL]; omega, h2⟩

end Go.Proofs.YthnlbhmecokomaaDoor

/- What GetNum of package impl does. -/
namespace Go.Proofs.YthnlbhmecokomaaDoor
open Go.RowKit
set_option maxRecDepth 100000

/-- The bytes from A on, five at most, laid over five noughts. -/
theorem five_of (l : List Int) (A : Nat) (ho : Oct l) : ∃ c0 c1 c2 c3 c4 : Int, splice (vals [0, 0, 0, 0, 0]) 0 (vals ((l.drop A).take 5)) = vals [c0, c1, c2, c3, c4] ∧ Oct [c0, c1, c2, c3, c4] ∧ [c0, c1, c2, c3, c4].take (Nat.min (l.length - A) 5) = (l.drop A).take 5 := by
  have hlen : ((l.drop A).take 5).length = Nat.min (l.length - A) 5 := by simp [Nat.min_comm]
  have ho' := oct_take (oct_drop ho A) 5
  generalize (l.drop A).take 5 = m at *
  rw [← hlen]
  have h5 : m.length ≤ 5 := by rw [hlen]; exact Nat.min_le_right ..
  match m, h5, ho' with
  | [], _, _ => exact ⟨0, 0, 0, 0, 0, rfl, by simp [Oct], rfl⟩
  | [x0], _, h => exact ⟨x0, 0, 0, 0, 0, rfl, by simp [Oct] at h ⊢; exact h, rfl⟩
  | [x0, x1], _, h => exact ⟨x0, x1, 0, 0, 0, rfl, by simp [Oct] at h ⊢; exact h, rfl⟩
  | [x0, x1, x2], _, h => exact ⟨x0, x1, x2, 0, 0, rfl, by simp [Oct] at h ⊢; exact h, rfl⟩
  | [x0, x1, x2, x3], _, h => exact ⟨x0, x1, x2, x3, 0, rfl, by simp [Oct] at h ⊢; exact h, rfl⟩
  | [x0, x1, x2, x3, x4], _, h => exact ⟨x0, x1, x2, x3, x4, rfl, h, rfl⟩
  | _ :: _ :: _ :: _ :: _ :: _ :: _, h, _ => simp at h
theorem get_bad1 {l : List Int} {A S : Nat} {G : Int × Int} (hG : G = outOf A (dec 5 0 0 1 (l.drop A))) (hS : szL 0 ((l.drop A).take 5) = S) (h0 : S = 0) : G = (0, -1) := by
  rw [hG, dec_two, hS, if_pos h0]; rfl
theorem get_bad2 {l : List Int} {A S : Nat} {G : Int × Int} {N : Int} (hG : G = outOf A (dec 5 0 0 1 (l.drop A))) (hS : szL 0 ((l.drop A).take 5) = S) (h0 : S ≠ 0) (hN : N = valL ((l.drop A).take S)) (hb : 2147483647 < N) : G = (0, -1) := by
  rw [hG, dec_two, hS, if_neg h0, if_pos (by rw [Nat.sub_zero, ← hN]; omega)]; rfl
theorem get_good {l : List Int} {A S : Nat} {G : Int × Int} {N : Int} (hG : G = outOf A (dec 5 0 0 1 (l.drop A))) (hS : szL 0 ((l.drop A).take 5) = S) (h0 : S ≠ 0) (hN : N = valL ((l.drop A).take S)) (hb : ¬ 2147483647 < N) : G = (N, (A : Int) + S) := by
  rw [hG, dec_two, hS, if_neg h0, if_neg (by rw [Nat.sub_zero, ← hN]; omega), Nat.sub_zero, ← hN]
  simp [outOf]
theorem take_two {cs r : List Int} {T S : Nat} (h : cs.take T = r.take 5) (hT : S ≤ T) (hS : S ≤ 5) : cs.take S = r.take S := by
  have := congrArg (List.take S) h
  rw [List.take_take, List.take_take, Nat.min_eq_left hT, Nat.min_eq_left hS] at this
  exact this
theorem valL_bd (l : List Int) (h : l.length ≤ 5) : 0 ≤ valL l ∧ valL l < 34359738368 := by
  match l, h with
  | [], _ => simp [valL]
  | [a], _ => simp [valL]; omega
  | [a, b], _ => simp [valL]; omega
  | [a, b, c], _ => simp [valL]; omega
  | [a, b, c, d], _ => simp [valL]; omega
  | [a, b, c, d, e], _ => simp [valL]; omega
  | _ :: _ :: _ :: _ :: _ :: _ :: _, h => simp at h
theorem cells_five {w : World} {g : Nat} {t : TypeId} {c0 c1 c2 c3 c4 : Int} (h : w.heap[g]? = some (.cells (vals [c0, c1, c2, c3, c4]).toArray t (0, 0))) :
    w.cell? ⟨g, 0, none⟩ = some (.int .u8 c0) ∧ w.cell? ⟨g, 1, none⟩ = some (.int .u8 c1) ∧ w.cell? ⟨g, 2, none⟩ = some (.int .u8 c2) ∧ w.cell? ⟨g, 3, none⟩ = some (.int .u8 c3) ∧ w.cell? ⟨g, 4, none⟩ = some (.int .u8 c4) := by
  refine ⟨?_, ?_, ?_, ?_, ?_⟩ <;> (rw [cell_of_row w g _ _ t (0, 0) h]; simp [vals])

set_option maxHeartbeats 1000000 in
theorem implGetNum_any (v : Value) (l : List Int) (at' : Int) (w : World) (hv : Bs w v l) (hl : l.length ≤ 2000000) (hn0 : -9223372036854775808 ≤ at') (hn1 : at' ≤ 9223372036854775807) :
    Calls Tryd.prog 51 #[v, .int .i64 at'] w fun e w' => e = .returned (.tuple #[.int .i64 (getL l at').1, .int .i64 (getL l at').2]) ∧ Below w.heap.size w w' := by
  obtain ⟨ho, a, cap, rfl, hlc, hcm, hnil, hcells⟩ := hv
  unfold maxLen at hcm
  by_cases hneg : at' < 0
  · have HG : Hid (getL l at' = (0, -1)) := by simp [Hid, getL, hneg]
    go_enter Tryd.func51, Tryd.ntmps51
    go_wp2
    go_ret2
    exact ⟨ret2 HG.out, Below.refl _ _⟩
  · obtain ⟨A, rfl⟩ := Int.eq_ofNat_of_zero_le (show 0 ≤ at' by omega)
    have hG : getL l (A : Int) = outOf A (dec 5 0 0 1 (l.drop A)) := by unfold getL; rw [if_neg hneg]; simp
    obtain ⟨G, hGG⟩ : ∃ G, G = getL l (A : Int) := ⟨_, rfl⟩
    rw [← hGG]
    have HG : Hid (G = outOf A (dec 5 0 0 1 (l.drop A))) := by rw [hGG]; exact hG
    clear hG hGG
    by_cases hin : A < l.length
    · obtain ⟨b, off, rfl, hlb, hc⟩ := hcells (by omega)
      have hA0 : (0 : Int) ≤ (A : Int) := by omega
      have hA1 : (A : Int) ≤ (l.length : Int) := by omega
      have hA2 : (A : Int) ≤ (cap : Int) := by omega
      have hA3 : ¬ cap = A := by omega
      clear hcells hnil
      go_enter Tryd.func51, Tryd.ntmps51
      obtain ⟨c0, c1, c2, c3, c4, hsp, hoc, htk⟩ := five_of l A ho
      have HSP : Hid (splice (vals [0, 0, 0, 0, 0]) 0 (vals ((l.drop A).take 5)) = vals [c0, c1, c2, c3, c4]) := hsp
      have HT : Hid ([c0, c1, c2, c3, c4].take (Nat.min (l.length - A) 5) = (l.drop A).take 5) := htk
      have HOC : Hid (Oct [c0, c1, c2, c3, c4]) := hoc
      have HN : Hid ((vals ((l.drop A).take 5)).length = Nat.min (l.length - A) 5) := by simp [Hid, length_vals, Nat.min_comm]
      have HC : Hid (∀ j u, (vals ((l.drop A).take 5))[j]? = some u → w.cell? ((⟨b, off + A, none⟩ : Addr).add j) = some u) := by
        intro j u hj
        have hj' : j < min 5 (l.length - A) := by have := (List.getElem?_eq_some_iff.1 hj).1; simpa [length_vals] using this
        have hj1 : j < 5 := by omega
        have hj2 : A + j < l.length := by omega
        rw [Addr.add_lit, Nat.add_assoc, hc (A + j) hj2, ← hj, vals_get _ j (by simp; omega)]
        simp [hj1, hj2]
      have HH : Hid ((w.alloc (.cells #[.int .u8 0, .int .u8 0, .int .u8 0, .int .u8 0, .int .u8 0] 88)).drew.heap[w.heap.size]? = some (.cells (vals [0, 0, 0, 0, 0]).toArray 88 (0, 0))) := heap_alloc_new w _
      have HB : Hid (Below w.heap.size w (w.alloc (.cells #[.int .u8 0, .int .u8 0, .int .u8 0, .int .u8 0, .int .u8 0] 88)).drew) := ((Below.refl _ _).alloc (Nat.le_refl _) _).drew
      have HCC : Hid (∀ j u, (vals ((l.drop A).take 5))[j]? = some u → (w.alloc (.cells #[.int .u8 0, .int .u8 0, .int .u8 0, .int .u8 0, .int .u8 0] 88)).drew.cell? ((⟨b, off + A, none⟩ : Addr).add j) = some u) := fun j u h => cell_later HB.out (HC.out j u h)
      have HF : Hid (0 + (vals ((l.drop A).take 5)).length ≤ (vals [0, 0, 0, 0, 0]).length) := by unfold Hid; rw [HN.out, Nat.zero_add]; exact Nat.min_le_right ..
      clear hsp htk hoc hc
      go_wp2
      go_region_law ((refine step_copy_splice rfl (.tmp 18) (.tmp 21) 22 22 rfl 5 Tryd.underlying22 sz5 _ _ _ _ _ _ rfl rfl w.heap.size 0 (vals [0, 0, 0, 0, 0]) 88 HH.out (vals ((l.drop A).take 5)) HN.out (fun _ => ⟨rfl, _, rfl, HCC.out⟩) HF.out (oneCell_vals _) w.heap.size w HB.out (Nat.le_refl _) ?_; intro w2 hg2 hb2))
      have hg3 := hg2.out
      rw [HSP.out] at hg3
      obtain ⟨f0, f1, f2, f3, f4⟩ := cells_five hg3
      clear hg2 hg3
      go_wp2_with fail
      refine (numSize_any c0 c1 c2 c3 c4 _ _ (by rw [HN.out]; exact Nat.min_le_right ..) HOC.out).mono ?_
      rintro e w3 ⟨rfl, hB3⟩
      have hS1 := szL_gt 0 ([c0, c1, c2, c3, c4].take (vals ((l.drop A).take 5)).length)
      generalize hS : szL 0 ([c0, c1, c2, c3, c4].take (vals ((l.drop A).take 5)).length) = S at hS1
      rw [HN.out, HT.out] at hS
      rw [HN.out, HT.out] at hS1
      have HS : Hid (szL 0 ((l.drop A).take 5) = S) := hS
      have HSM : Hid (S ≤ Nat.min (l.length - A) 5) := by
        have := HN.out; rw [length_vals] at this; unfold Hid; omega
      have hS5 : S ≤ 5 := Nat.le_trans HSM.out (Nat.min_le_right ..)
      have hSA : (S : Int) ≤ (l.length : Int) - (A : Int) := by have := Nat.le_trans HSM.out (Nat.min_le_left ..); omega
      clear hS hS1
      have sz2 := hb2.size
      have hlt : w.heap.size < w2.heap.size := World.block_lt_of_cell? w2 _ f0
      have f0' := cell_later hB3 f0
      have f1' := cell_later hB3 f1
      have f2' := cell_later hB3 f2
      have f3' := cell_later hB3 f3
      have f4' := cell_later hB3 f4
      clear f0 f1 f2 f3 f4
      have HB3 : Hid (Below w.heap.size w w3) := hb2.trans (hB3.mono (by omega))
      clear hb2 hB3
      by_cases hS0 : S = 0
      · have hS0' : ((S : Int) == 0) = true := by simp [hS0]
        have HE : Hid (G = (0, -1)) := get_bad1 HG.out HS.out hS0
        clear hS0
        go_wp2
        go_ret2
        exact ⟨ret2 HE.out, HB3.out⟩
      · have hS0' : ((S : Int) == 0) = false := by simp [hS0]
        go_wp2_with fail
        refine (numOf_any c0 c1 c2 c3 c4 S _ (by omega) hS5 HOC.out).mono ?_
        rintro e w4 ⟨rfl, hB4⟩
        have hb := valL_bd ([c0, c1, c2, c3, c4].take S) (by simp; omega)
        generalize hN : valL ([c0, c1, c2, c3, c4].take S) = N at hb
        rw [take_two HT.out HSM.out hS5] at hN
        have HNN : Hid (N = valL ((l.drop A).take S)) := hN.symm
        clear hN
        obtain ⟨hb0, hb1⟩ := hb
        have HB4 : Hid (Below w.heap.size w w4) := HB3.out.trans (hB4.mono HB3.out.size)
        clear hB4 f0' f1' f2' f3' f4'
        by_cases hbig : 2147483647 < N
        · have HE : Hid (G = (0, -1)) := get_bad2 HG.out HS.out hS0 HNN.out hbig
          clear hS0
          go_wp2
          go_ret2
          exact ⟨ret2 HE.out, HB4.out⟩
        · have HE : Hid (G = (N, (A : Int) + S)) := get_good HG.out HS.out hS0 HNN.out hbig
          clear hS0
          go_wp2
          go_ret2
          exact ⟨ret2' HE.out (by omega) (by omega), HB4.out⟩
    · have HE : Hid (G = (0, -1)) := by rw [HG.out, dec_end _ _ _ _ _ _ (by omega)]; rfl
      go_enter Tryd.func51, Tryd.ntmps51
      go_wp2
      go_ret2
      exact ⟨ret2 HE.out, Below.refl _ _⟩

end Go.Proofs.YthnlbhmecokomaaDoor

/- What joined of package impl does. -/
namespace Go.Proofs.YthnlbhmecokomaaDoor
open Go.RowKit
set_option maxRecDepth 100000

set_option maxHeartbeats 400000 in
theorem joined_any (v u : Value) (l m : List Int) (w : World) (hv : Bs w v l) (hu : Bs w u m) (hl : l.length ≤ 4000000) (hm : m.length ≤ 4000000) :
    Calls Tryd.prog 73 #[v, u] w fun e w' => ∃ r, e = .returned r ∧ OwnB w' w.heap.size r (l ++ m) ∧ Below w.heap.size w w' := by
  have HV : Hid (Bs w v l) := hv
  have HU : Hid (Bs w u m) := hu
  obtain ⟨ho, a, cap, rfl, -⟩ := hv
  obtain ⟨ho', a', cap', rfl, -⟩ := hu
  obtain ⟨i0, hi, hz0, hz1, hz2⟩ := info_parts info5
  go_enter Tryd.func73, Tryd.ntmps73
  go_wp2_with (at_make; refine wpList_make_full _ rfl _ _ 22 rfl w.heap.size 5 i0 (.int .u8 0) 1 Tryd.underlying22 hi hz0 hz1 _ _ _ _ (l.length + m.length) rfl rfl (by omega) (by omega) (by rw [hz2]; omega) (by unfold maxLen; omega) (Nat.le_refl _) ?_)
  intro w1 hown hgrow
  have hB1 := (Below.refl w.heap.size w).grown hgrow (Nat.le_refl _) (by simp)
  have HR1 : Hid (w1.heap[w.heap.size]? = some (.cells (vals (List.replicate (l.length + m.length) 0)).toArray 5 (0, 0))) := by
    have := made_heap hown
    simpa [Hid, vals] using this
  clear hown hgrow
  go_wp2_with (refine wpList_copy_bytes rfl (.tmp 12) (.tmp 13) 22 22 rfl Tryd.underlying22 sz5 _ _ _ rfl _ l rfl (HV.out.below hB1) l.length (Nat.min_eq_left (Nat.le_add_right _ _)).symm w.heap.size 0 _ HR1.out (fun _ => rfl) (by simp) w.heap.size w hB1 (Nat.le_refl _) ?_)
  intro w2 HR2 hB2
  have hlen : (splice (List.replicate (l.length + m.length) (0 : Int)) 0 l).length = l.length + m.length := by rw [length_splice _ _ _ (by simp)]; simp
  have HL : Hid ((splice (List.replicate (l.length + m.length) (0 : Int)) 0 l).length = l.length + m.length) := hlen
  clear hlen
  have HE : Hid (splice (splice (List.replicate (l.length + m.length) (0 : Int)) 0 l) l.length m = l ++ m) := splice_two _ _ _ (by simp)
  by_cases hm0 : m = []
  · subst hm0
    go_wp2_with (refine wpList_copy_bytes rfl (.tmp 18) (.tmp 19) 22 22 rfl Tryd.underlying22 sz5 _ _ _ rfl _ [] rfl (HU.out.below hB2) 0 (Nat.min_eq_left (Nat.zero_le _)).symm w.heap.size l.length _ HR2.out (fun h => absurd h (by omega)) (by rw [HL.out]; omega) w.heap.size w hB2 (Nat.le_refl _) ?_)
    intro w3 HR3 hB3
    have HR4 : Hid (w3.heap[w.heap.size]? = some (.cells (vals (l ++ [])).toArray 5 (0, 0))) := by
      rw [← HE.out]; simpa using HR3
    clear HR3
    go_wp2
    go_ret
    have := own_made (oct_append ho ho') (by simp [maxLen]; omega) HR4.out
    exact ⟨_, rfl, ⟨_, Nat.le_refl _, by simpa using this⟩, hB3⟩
  · have hm1 : 0 < m.length := List.length_pos_iff.2 hm0
    go_wp2_with (refine wpList_copy_bytes rfl (.tmp 18) (.tmp 19) 22 22 rfl Tryd.underlying22 sz5 _ _ _ rfl _ m rfl (HU.out.below hB2) m.length (Nat.min_eq_left (by omega)).symm w.heap.size l.length _ HR2.out (fun _ => rfl) (by rw [HL.out]; omega) w.heap.size w hB2 (Nat.le_refl _) ?_)
    intro w3 HR3 hB3
    have HR4 : Hid (w3.heap[w.heap.size]? = some (.cells (vals (l ++ m)).toArray 5 (0, 0))) := by
      rw [← HE.out]; exact HR3
    clear HR3
    go_wp2
    go_ret
    have := own_made (oct_append ho ho') (by simp [maxLen]; omega) HR4.out
    exact ⟨_, rfl, ⟨_, Nat.le_refl _, by simpa using this⟩, hB3⟩

theorem joined_r (v u : Value) (l m : List Int) (w : World) (hv : Bs w v l) (hu : Bs w u m) (hl : l.length ≤ 4000000) (hm : m.length ≤ 4000000) :
    Calls Tryd.prog 73 #[v, u] w fun e w' => ∃ r, e = .returned r ∧ Row w' w.heap.size w'.heap.size r (l ++ m) ∧ Below w.heap.size w w' :=
  (joined_any v u l m w hv hu hl hm).mono fun _ _ ⟨u, h1, h2, h3⟩ => ⟨u, h1, h2.toRow, h3⟩

end Go.Proofs.YthnlbhmecokomaaDoor

/- What PutText and GetText answer, on lists. -/
namespace Go.Proofs.YthnlbhmecokomaaDoor
open Go.RowKit

/-- What PutText answers. -/
def putTL (b t : List Int) : List Int := if 30 < t.length then b else putL b t.length ++ t
theorem putTL_length (b t : List Int) : (putTL b t).length ≤ b.length + 35 := by
  unfold putTL
  have := putL_length b t.length
  split
  · omega
  · simp; omega

/-- What GetText answers. -/
def getTL (l : List Int) (at' : Int) : List Int × Int :=
  if (getL l at').2 < 0 ∨ 30 < (getL l at').1 ∨ (l.length : Int) - (getL l at').2 < (getL l at').1 then ([], -1)
  else ((l.drop (getL l at').2.toNat).take (getL l at').1.toNat, (getL l at').2 + (getL l at').1)

theorem dec_bd (f i : Nat) (n sc : Int) (l : List Int) (hn : 0 ≤ n) (hs : 0 ≤ sc) : dec f i n sc l = none ∨ ∃ m k, dec f i n sc l = some (m, k) ∧ 0 ≤ m ∧ m ≤ 2147483647 ∧ i < k ∧ k ≤ i + l.length := by
  induction f generalizing i n sc l with
  | zero => left; rfl
  | succ f ih =>
    cases l with
    | nil => left; rfl
    | cons x r =>
      simp only [dec]
      have hx : 0 ≤ x % 128 * sc := Int.mul_nonneg (by omega) hs
      split
      · split
        · left; rfl
        · right; refine ⟨_, _, rfl, by omega, by omega, by omega, by simp⟩
      · rcases ih (i + 1) (n + x % 128 * sc) (sc * 128) r (by omega) (by omega) with h | ⟨m, k, h1, h2, h3, h4, h5⟩
        · left; exact h
        · right; exact ⟨m, k, h1, h2, h3, by omega, by simp; omega⟩
theorem getL_bd (l : List Int) (at' : Int) : getL l at' = (0, -1) ∨ (0 ≤ (getL l at').1 ∧ (getL l at').1 ≤ 2147483647 ∧ 1 ≤ (getL l at').2 ∧ (getL l at').2 ≤ l.length) := by
  unfold getL
  split
  · left; rfl
  · rcases dec_bd 5 0 0 1 (l.drop at'.toNat) (by omega) (by omega) with h | ⟨m, k, h1, h2, h3, h4, h5⟩
    · rw [h]; left; rfl
    · right
      rw [h1]
      simp at h5
      simp only [outOf]
      omega
theorem getTL_length (l : List Int) (at' : Int) : (getTL l at').1.length ≤ 30 := by
  unfold getTL
  split
  · simp
  · simp; omega

/-- A cut of a slice of bytes, not at its very end. -/
theorem bs_cut {w : World} {b off cap : Nat} {l : List Int} (hv : Bs w (.slice (some ⟨b, off, none⟩) l.length cap) l) (lo n : Nat) (h : lo + n ≤ l.length) :
    Bs w (.slice (some ⟨b, off + lo, none⟩) n (cap - lo)) ((l.drop lo).take n) := by
  obtain ⟨ho, a, cap', hv, h1, h2, h3, h4⟩ := hv
  simp only [Value.slice.injEq] at hv
  obtain ⟨rfl, -, rfl⟩ := hv
  have hl : ((l.drop lo).take n).length = n := by simp; omega
  refine ⟨oct_take (oct_drop ho _) _, _, cap - lo, by rw [hl], by rw [hl]; omega, by omega, (fun h => by cases h), fun hp => ?_⟩
  rw [hl] at hp
  obtain ⟨b', off', e, hlt, hc⟩ := h4 (by omega)
  simp only [Option.some.injEq, Addr.mk.injEq, and_true] at e
  obtain ⟨rfl, rfl⟩ := e
  refine ⟨b, off + lo, rfl, hlt, fun i hi => ?_⟩
  rw [hl] at hi
  rw [Nat.add_assoc, hc (lo + i) (by omega)]
  simp [hi]
theorem bs_empty (w : World) (x : Addr) (c : Nat) (hc : c ≤ maxLen) : Bs w (.slice (some x) 0 c) [] :=
  ⟨oct_nil, some x, c, rfl, by simp, hc, (fun h => by cases h), fun h => absurd h (by simp)⟩

end Go.Proofs.YthnlbhmecokomaaDoor

/- What GetText of package impl does. -/
namespace Go.Proofs.YthnlbhmecokomaaDoor
open Go.RowKit
set_option maxRecDepth 100000

set_option maxHeartbeats 400000 in
theorem implGetText_r (v : Value) (l : List Int) (at' : Int) (w : World) (hv : Bs w v l) (hl : l.length ≤ 2000000) (hn0 : -9223372036854775808 ≤ at') (hn1 : at' ≤ 9223372036854775807) :
    Calls Tryd.prog 64 #[v, .int .i64 at'] w fun e w' => ∃ r, e = .returned (.tuple #[r, .int .i64 (getTL l at').2]) ∧ Row w' w.heap.size w'.heap.size r (getTL l at').1 ∧ Below w.heap.size w w' := by
  have HV : Hid (Bs w v l) := hv
  obtain ⟨a, cap, rfl⟩ : ∃ a cap, v = .slice a l.length cap := by obtain ⟨_, a, cap, h, _⟩ := hv; exact ⟨a, cap, h⟩
  have hbd := getL_bd l at'
  have HT : Hid (getTL l at' = if (getL l at').2 < 0 ∨ 30 < (getL l at').1 ∨ (l.length : Int) - (getL l at').2 < (getL l at').1 then ([], -1) else ((l.drop (getL l at').2.toNat).take (getL l at').1.toNat, (getL l at').2 + (getL l at').1)) := rfl
  generalize hG : getL l at' = G at hbd HT
  generalize getTL l at' = R at HT
  have HG : Hid (getL l at' = G) := hG
  clear hG
  obtain ⟨n, next⟩ := G
  simp only at hbd HT
  by_cases hx : next < 0
  · have HR : Hid (R = ([], -1)) := by rw [HT.out, if_pos (.inl hx)]; rfl
    clear hbd hv
    go_enter Tryd.func64, Tryd.ntmps64
    go_wp2_with fail
    refine (implGetNum_any _ l at' _ HV.out hl hn0 hn1).mono ?_
    rintro e w1 ⟨rfl, B⟩
    rw [HG.out]
    go_wp2
    go_ret2
    rw [HR.out]
    exact ⟨_, rfl, Row.nil _ _ _, B⟩
  · obtain ⟨hb0, hb1, hb2, hb3⟩ : 0 ≤ n ∧ n ≤ 2147483647 ∧ 1 ≤ next ∧ next ≤ l.length := by
      rcases hbd with h | h
      · simp only [Prod.mk.injEq] at h; omega
      · exact h
    clear hbd
    by_cases hy : 30 < n
    · have HR : Hid (R = ([], -1)) := by rw [HT.out, if_pos (.inr (.inl hy))]; rfl
      clear hv
      go_enter Tryd.func64, Tryd.ntmps64
      go_wp2_with fail
      refine (implGetNum_any _ l at' _ HV.out hl hn0 hn1).mono ?_
      rintro e w1 ⟨rfl, B⟩
      rw [HG.out]
      go_wp2
      go_ret2
      rw [HR.out]
      exact ⟨_, rfl, Row.nil _ _ _, B⟩
    · by_cases hz : (l.length : Int) - next < n
      · have HR : Hid (R = ([], -1)) := by rw [HT.out, if_pos (.inr (.inr hz))]; rfl
        clear hv
        go_enter Tryd.func64, Tryd.ntmps64
        go_wp2_with fail
        refine (implGetNum_any _ l at' _ HV.out hl hn0 hn1).mono ?_
        rintro e w1 ⟨rfl, B⟩
        rw [HG.out]
        go_wp2
        go_ret2
        rw [HR.out]
        exact ⟨_, rfl, Row.nil _ _ _, B⟩
      · have HR : Hid (R = ((l.drop next.toNat).take n.toNat, next + n)) := by rw [HT.out, if_neg (by omega)]; rfl
        obtain ⟨N, rfl⟩ := Int.eq_ofNat_of_zero_le hb0
        obtain ⟨X, rfl⟩ := Int.eq_ofNat_of_zero_le (show 0 ≤ next by omega)
        obtain ⟨b, off, rfl⟩ : ∃ b off, a = some ⟨b, off, none⟩ := by
          obtain ⟨_, a', cap', h1, _, _, _, h4⟩ := hv
          simp only [Value.slice.injEq] at h1
          obtain ⟨rfl, -, -⟩ := h1
          obtain ⟨b, off, h, _⟩ := h4 (by omega)
          exact ⟨b, off, h⟩
        have hcap : l.length ≤ cap ∧ cap ≤ 9223372036854775807 := by
          obtain ⟨_, a', cap', h1, h2, h3, _⟩ := hv
          simp only [Value.slice.injEq] at h1
          obtain ⟨-, -, rfl⟩ := h1
          exact ⟨h2, h3⟩
        obtain ⟨hc0, hc1⟩ := hcap
        clear hv
        go_enter Tryd.func64, Tryd.ntmps64
        go_wp2_with fail
        refine (implGetNum_any _ l at' _ HV.out hl hn0 hn1).mono ?_
        rintro e w1 ⟨rfl, B⟩
        rw [HG.out]
        by_cases hcX : cap = X
        · subst hcX
          obtain rfl : N = 0 := by omega
          have HRR : Hid (R = ([], (cap : Int))) := by rw [HR.out]; simp [Hid]
          go_wp2_with fail
          refine (joined_r _ _ [] [] _ (bs_nil _) (bs_empty _ _ _ (by simp)) (by simp) (by simp)).mono ?_
          rintro e w2 ⟨r, rfl, R2, B2⟩
          have H2 : Hid (Row w2 w.heap.size w2.heap.size r []) := R2.wide B.size (Nat.le_refl _)
          have HB : Hid (Below w.heap.size w w2) := Below.step B B2
          clear R2 B B2
          go_wp2
          go_ret2
          rw [HRR.out]
          exact ⟨_, rfl, H2.out, HB.out⟩
        · have HC : Hid (Bs w1 (.slice (some ⟨b, off + X, none⟩) N (cap - X)) ((l.drop X).take N)) := bs_cut (HV.out.below B) X N (by omega)
          have HRR : Hid (R = ((l.drop X).take N, (X : Int) + N)) := HR.out
          go_wp2_with fail
          refine (joined_r _ _ [] _ _ (bs_nil _) HC.out (by simp) (by simp; omega)).mono ?_
          rintro e w2 ⟨r, rfl, R2, B2⟩
          have H2 : Hid (Row w2 w.heap.size w2.heap.size r ((l.drop X).take N)) := R2.wide B.size (Nat.le_refl _)
          have HB : Hid (Below w.heap.size w w2) := Below.step B B2
          clear R2 B B2
          go_wp2
          go_ret2
          rw [HRR.out]
          exact ⟨_, rfl, H2.out, HB.out⟩

end Go.Proofs.YthnlbhmecokomaaDoor

/- Logs in memory: what a log reads as; a log of the call's own; what is written within a range of blocks. -/
namespace Go.Proofs.YthnlbhmecokomaaDoor
open Go.RowKit

/-- Old blocks outside the range from B on and below T are as they were. -/
structure Within (B T : Nat) (w w' : World) : Prop where
  os : w'.os = w.os
  tape : w'.tape = w.tape
  output : w'.output = w.output
  size : w.heap.size ≤ w'.heap.size
  block : ∀ k, k < w.heap.size → ¬ (B ≤ k ∧ k < T) → w'.heap[k]? = w.heap[k]?

theorem Within.refl (B T : Nat) (w : World) : Within B T w w := ⟨rfl, rfl, rfl, Nat.le_refl _, fun _ _ _ => rfl⟩
theorem Within.trans {B T : Nat} {a b c : World} (h : Within B T a b) (k : Within B T b c) : Within B T a c :=
  ⟨k.os.trans h.os, k.tape.trans h.tape, k.output.trans h.output, Nat.le_trans h.size k.size, fun i hi hn => (k.block i (Nat.lt_of_lt_of_le hi h.size) hn).trans (h.block i hi hn)⟩
theorem Within.wide {B T B' T' : Nat} {a b : World} (h : Within B T a b) (hB : B' ≤ B) (hT : T ≤ T') : Within B' T' a b :=
  ⟨h.os, h.tape, h.output, h.size, fun i hi hn => h.block i hi (fun hc => hn ⟨by omega, by omega⟩)⟩
theorem Within.ofBelow {B T : Nat} {a b : World} (h : Below a.heap.size a b) : Within B T a b := ⟨h.os, h.tape, h.output, h.size, fun k hk _ => h.block k hk⟩
theorem Within.below {B T : Nat} {w0 w w' : World} (h : Within B T w w') (hb : Below w0.heap.size w0 w) (hB : w0.heap.size ≤ B) : Below w0.heap.size w0 w' :=
  ⟨h.os.trans hb.os, h.tape.trans hb.tape, h.output.trans hb.output, Nat.le_trans hb.size h.size, fun k hk => (h.block k (Nat.lt_of_lt_of_le hk hb.size) (by omega)).trans (hb.block k hk)⟩

theorem Row.within {w w' : World} {B T : Nat} {u : Value} {m : List Int} (hu : Row w B T u m) (hg : w.grownBy w' u.ownBlock) : Within B T w w' :=
  ⟨hg.os, hg.tape, hg.output, hg.size, fun k hk hn => hg.block k hk (fun e => hn ⟨(hu.2.1.lt k e.symm).1, hu.2.2 k e.symm⟩)⟩
/-- A row apart from what was written stays. -/
theorem Row.keptW {w w' : World} {B T B' T' : Nat} {v : Value} {l : List Int} (h : Row w B T v l) (hw : Within B' T' w w') (hd : T ≤ B' ∨ T' ≤ B) : Row w' B T v l := by
  refine ⟨h.1, ⟨h.2.1.1, ?_⟩, h.2.2⟩
  rcases h.2.1.2 with hn | ⟨g, cap, cur, hv, hg, hh, r⟩
  · exact .inl hn
  · have hlt : g < T := h.2.2 g (by rw [hv]; rfl)
    exact .inr ⟨g, cap, cur, hv, hg, (hw.block g (lt_of_heap hh) (by omega)).trans hh, r⟩

theorem Bs.form {w : World} {v : Value} {l : List Int} (h : Bs w v l) : ∃ a cap, v = .slice a l.length cap := by obtain ⟨_, a, cap, h, _⟩ := h; exact ⟨a, cap, h⟩

theorem Bs.form3 {w : World} {v : Value} {l : List Int} (h : Bs w v l) : ∃ a n cap, v = .slice a n cap := by obtain ⟨_, a, cap, h, _⟩ := h; exact ⟨a, _, cap, h⟩

/-- A slice's first bytes. -/
theorem bs_first {w : World} {a : Option Addr} {cap : Nat} {l : List Int} (h : Bs w (.slice a l.length cap) l) (n : Nat) (hn : n ≤ l.length) : Bs w (.slice a n cap) (l.take n) := by
  obtain ⟨ho, a', cap', hv, h1, h2, h3, h4⟩ := h
  simp only [Value.slice.injEq] at hv
  obtain ⟨rfl, -, rfl⟩ := hv
  have hl : (l.take n).length = n := by simp; omega
  refine ⟨oct_take ho n, a, cap, by rw [hl], by rw [hl]; omega, h2, h3, fun hp => ?_⟩
  rw [hl] at hp
  obtain ⟨b, off, e, hlt, hc⟩ := h4 (by omega)
  refine ⟨b, off, e, hlt, fun i hi => ?_⟩
  rw [hl] at hi
  rw [hc i (by omega)]
  simp [hi]
theorem Bs.cap {w : World} {a : Option Addr} {n cap : Nat} {l : List Int} (h : Bs w (.slice a n cap) l) : l.length ≤ cap ∧ cap ≤ 9223372036854775807 := by
  obtain ⟨_, a', cap', hv, h1, h2, _⟩ := h
  simp only [Value.slice.injEq] at hv
  obtain ⟨-, -, rfl⟩ := hv
  exact ⟨h1, h2⟩

/-- A block of two cells (a log, boxed): what the walk asks of it. -/
theorem box2 {w : World} {g : Nat} {t : TypeId} {c0 c1 : Value} (h : w.heap[g]? = some (.cells #[c0, c1] t (0, 0))) :
    w.cell? ⟨g, 0, none⟩ = some c0 ∧ w.cell? ⟨g, 1, none⟩ = some c1 ∧ w.frozen? ⟨g, 0, none⟩ = false ∧ w.frozen? ⟨g, 1, none⟩ = false ∧ g < w.heap.size :=
  ⟨by rw [cell_of_row w g 0 _ t (0, 0) h]; rfl, by rw [cell_of_row w g 1 _ t (0, 0) h]; rfl, frozen_of_row w g 0 _ t h, frozen_of_row w g 1 _ t h, lt_of_heap h⟩
theorem box2_set0 {w : World} {g : Nat} {t : TypeId} {c0 c1 v : Value} (h : w.heap[g]? = some (.cells #[c0, c1] t (0, 0))) : (w.setCell ⟨g, 0, none⟩ v).heap[g]? = some (.cells #[v, c1] t (0, 0)) := by
  rw [heap_setCell_same w g 0 _ t v h]; rfl
theorem box2_set1 {w : World} {g : Nat} {t : TypeId} {c0 c1 v : Value} (h : w.heap[g]? = some (.cells #[c0, c1] t (0, 0))) : (w.setCell ⟨g, 1, none⟩ v).heap[g]? = some (.cells #[c0, v] t (0, 0)) := by
  rw [heap_setCell_same w g 1 _ t v h]; rfl
theorem box_other {w : World} {g k i : Nat} {o : Obj} {v : Value} (h : w.heap[g]? = some o) (hne : g ≠ k) : (w.setCell ⟨k, i, none⟩ v).heap[g]? = some o :=
  (Below.heap_setCell w ⟨k, i, none⟩ v g hne).trans h
theorem box_below {w w' : World} {g : Nat} {o : Obj} (hb : Below w.heap.size w w') (h : w.heap[g]? = some o) : w'.heap[g]? = some o := (hb.block g (lt_of_heap h)).trans h
theorem box_new (w : World) (o : Obj) : (w.alloc o).heap[w.heap.size]? = some o := heap_alloc_new w o
theorem box_alloc {w : World} {g : Nat} {o : Obj} (h : w.heap[g]? = some o) (o' : Obj) : (w.alloc o').heap[g]? = some o := (Below.heap_alloc w o' g (lt_of_heap h)).trans h
/-- Three blocks that were laid one behind the other. -/
theorem box3 (w : World) (o0 o1 o2 : Obj) : (((w.alloc o0).alloc o1).alloc o2).heap[w.heap.size]? = some o0 ∧ (((w.alloc o0).alloc o1).alloc o2).heap[w.heap.size + 1]? = some o1 ∧ (((w.alloc o0).alloc o1).alloc o2).heap[w.heap.size + 1 + 1]? = some o2 :=
  ⟨box_alloc (box_alloc (box_new w o0) o1) o2, box_alloc (by simpa using box_new (w.alloc o0) o1) o2, by simpa using box_new ((w.alloc o0).alloc o1) o2⟩
theorem box3_below (w : World) (o0 o1 o2 : Obj) : Below w.heap.size w (((w.alloc o0).alloc o1).alloc o2) := (((Below.refl _ _).alloc (Nat.le_refl _) _).alloc (by simp) _).alloc (by simp; omega) _

/-- Two blocks that were laid one behind the other. -/
theorem boxes2 (w : World) (o0 o1 : Obj) : ((w.alloc o0).alloc o1).heap[w.heap.size]? = some o0 ∧ ((w.alloc o0).alloc o1).heap[w.heap.size + 1]? = some o1 ∧ Below w.heap.size w ((w.alloc o0).alloc o1) :=
  ⟨box_alloc (box_new w o0) o1, by simpa using box_new (w.alloc o0) o1, ((Below.refl _ _).alloc (Nat.le_refl _) _).alloc (by simp) _⟩

theorem box_within {w w' : World} {B T g : Nat} {o : Obj} (hw : Within B T w w') (h : w.heap[g]? = some o) (hd : g < B ∨ T ≤ g) : w'.heap[g]? = some o := (hw.block g (lt_of_heap h) (by omega)).trans h

/-- Old cells, old marks read as before: two rules that the walk then uses by itself. -/
theorem bcell {W w1 : World} (hb : Below W.heap.size W w1) : (∀ b o, b < W.heap.size → w1.cell? ⟨b, o, none⟩ = W.cell? ⟨b, o, none⟩) ∧ (∀ b o, b < W.heap.size → w1.frozen? ⟨b, o, none⟩ = W.frozen? ⟨b, o, none⟩) :=
  ⟨fun b o h => hb.cell (p := ⟨b, o, none⟩) h, fun b o h => hb.frozen (p := ⟨b, o, none⟩) h⟩

/-- The value v reads as the log of the bytes a and b. -/
def LogV (w : World) (v : Value) (a b : List Int) : Prop := ∃ u0 u1, v = .agg #[u0, u1] ∧ Bs w u0 a ∧ Bs w u1 b
/-- A log of the call's own: its two slices lie in blocks from B on and below T, apart from each other. -/
def LogR (w : World) (B T : Nat) (v : Value) (a b : List Int) : Prop :=
  ∃ u0 u1 B0 T0 B1 T1, v = .agg #[u0, u1] ∧ Row w B0 T0 u0 a ∧ Row w B1 T1 u1 b ∧ B ≤ B0 ∧ T0 ≤ T ∧ B ≤ B1 ∧ T1 ≤ T ∧ (T0 ≤ B1 ∨ T1 ≤ B0)

theorem LogV.below {w w' : World} {v : Value} {a b : List Int} (h : LogV w v a b) (hb : Below w.heap.size w w') : LogV w' v a b :=
  let ⟨u0, u1, hv, h0, h1⟩ := h; ⟨u0, u1, hv, h0.below hb, h1.below hb⟩
theorem LogR.v {w : World} {B T : Nat} {v : Value} {a b : List Int} (h : LogR w B T v a b) : LogV w v a b :=
  let ⟨u0, u1, _, _, _, _, hv, h0, h1, _⟩ := h; ⟨u0, u1, hv, h0.bs, h1.bs⟩
theorem LogR.below {w w' : World} {B T : Nat} {v : Value} {a b : List Int} (h : LogR w B T v a b) (hb : Below w.heap.size w w') : LogR w' B T v a b :=
  let ⟨u0, u1, B0, T0, B1, T1, hv, h0, h1, r⟩ := h; ⟨u0, u1, B0, T0, B1, T1, hv, h0.below hb, h1.below hb, r⟩
theorem LogR.wide {w : World} {B T B' T' : Nat} {v : Value} {a b : List Int} (h : LogR w B T v a b) (hB : B' ≤ B) (hT : T ≤ T') : LogR w B' T' v a b :=
  let ⟨u0, u1, B0, T0, B1, T1, hv, h0, h1, r0, r1, r2, r3, r4⟩ := h; ⟨u0, u1, B0, T0, B1, T1, hv, h0, h1, by omega, by omega, by omega, by omega, r4⟩
theorem LogR.keptW {w w' : World} {B T B' T' : Nat} {v : Value} {a b : List Int} (h : LogR w B T v a b) (hw : Within B' T' w w') (hd : T ≤ B' ∨ T' ≤ B) : LogR w' B T v a b :=
  let ⟨u0, u1, B0, T0, B1, T1, hv, h0, h1, r0, r1, r2, r3, r4⟩ := h
  ⟨u0, u1, B0, T0, B1, T1, hv, h0.keptW hw (by omega), h1.keptW hw (by omega), r0, r1, r2, r3, r4⟩
theorem LogR.set {w : World} {g i B T : Nat} {v x : Value} {a b : List Int} (h : LogR w B T v a b) (hd : g < B ∨ T ≤ g) : LogR (w.setCell ⟨g, i, none⟩ x) B T v a b :=
  let ⟨u0, u1, B0, T0, B1, T1, hv, h0, h1, r0, r1, r2, r3, r4⟩ := h
  ⟨u0, u1, B0, T0, B1, T1, hv, h0.set (by omega), h1.set (by omega), r0, r1, r2, r3, r4⟩
theorem LogR.zero (w : World) (B T : Nat) (h : B ≤ T) : LogR w B T (.agg #[.slice none 0 0, .slice none 0 0]) [] [] :=
  ⟨_, _, B, B, B, T, rfl, Row.nil _ _ _, Row.nil _ _ _, Nat.le_refl _, h, Nat.le_refl _, Nat.le_refl _, .inl (Nat.le_refl _)⟩

end Go.Proofs.YthnlbhmecokomaaDoor

/- Commands in memory. -/
namespace Go.Proofs.YthnlbhmecokomaaDoor
open Go.RowKit

def I64 (n : Int) : Prop := -9223372036854775808 ≤ n ∧ n ≤ 9223372036854775807

/-- The value v reads as a command. -/
def CmdV (w : World) (v : Value) (k : Int) (bx tt : List Int) (uid mode fl si : Int) (tx : List Int) : Prop :=
  ∃ u0 u1 u2, v = .agg #[.int .i64 k, u0, u1, .int .i64 uid, .int .i64 mode, .int .i64 fl, .int .i64 si, u2] ∧ Bs w u0 bx ∧ Bs w u1 tt ∧ Bs w u2 tx ∧ I64 k ∧ I64 uid ∧ I64 mode ∧ I64 fl ∧ I64 si
theorem CmdV.below {w w' : World} {v : Value} {k : Int} {bx tt : List Int} {uid mode fl si : Int} {tx : List Int} (h : CmdV w v k bx tt uid mode fl si tx) (hb : Below w.heap.size w w') : CmdV w' v k bx tt uid mode fl si tx :=
  let ⟨u0, u1, u2, hv, h0, h1, h2, r⟩ := h; ⟨u0, u1, u2, hv, h0.below hb, h1.below hb, h2.below hb, r⟩

end Go.Proofs.YthnlbhmecokomaaDoor

/- Blocks that hold a struct: what the walk asks of them. -/
namespace Go.Proofs.YthnlbhmecokomaaDoor
open Go.RowKit

/-- A block of eight cells: what the walk asks of it. -/
theorem box8 {w : World} {g : Nat} {t : TypeId} {c0 c1 c2 c3 c4 c5 c6 c7 : Value} (h : w.heap[g]? = some (.cells #[c0, c1, c2, c3, c4, c5, c6, c7] t (0, 0))) :
    w.cell? ⟨g, 0, none⟩ = some c0 ∧ w.cell? ⟨g, 1, none⟩ = some c1 ∧ w.cell? ⟨g, 2, none⟩ = some c2 ∧ w.cell? ⟨g, 3, none⟩ = some c3 ∧ w.cell? ⟨g, 4, none⟩ = some c4 ∧ w.cell? ⟨g, 5, none⟩ = some c5 ∧ w.cell? ⟨g, 6, none⟩ = some c6 ∧ w.cell? ⟨g, 7, none⟩ = some c7 :=
  ⟨by rw [cell_of_row w g 0 _ t (0, 0) h]; rfl, by rw [cell_of_row w g 1 _ t (0, 0) h]; rfl, by rw [cell_of_row w g 2 _ t (0, 0) h]; rfl, by rw [cell_of_row w g 3 _ t (0, 0) h]; rfl,
   by rw [cell_of_row w g 4 _ t (0, 0) h]; rfl, by rw [cell_of_row w g 5 _ t (0, 0) h]; rfl, by rw [cell_of_row w g 6 _ t (0, 0) h]; rfl, by rw [cell_of_row w g 7 _ t (0, 0) h]; rfl⟩

end Go.Proofs.YthnlbhmecokomaaDoor

/- Commands of the call's own in memory; blocks of eight cells that are written. -/
namespace Go.Proofs.YthnlbhmecokomaaDoor
open Go.RowKit

/-- A command of the call's own: its three slices lie one behind the other in blocks from B on and below T. -/
def CmdR (w : World) (B T : Nat) (v : Value) (k : Int) (bx tt : List Int) (uid mode fl si : Int) (tx : List Int) : Prop :=
  ∃ u0 u1 u2 T0 T1, v = .agg #[.int .i64 k, u0, u1, .int .i64 uid, .int .i64 mode, .int .i64 fl, .int .i64 si, u2] ∧ Row w B T0 u0 bx ∧ Row w T0 T1 u1 tt ∧ Row w T1 T u2 tx ∧ B ≤ T0 ∧ T0 ≤ T1 ∧ T1 ≤ T ∧ I64 k ∧ I64 uid ∧ I64 mode ∧ I64 fl ∧ I64 si

section
variable {w w' : World} {B T B' T' : Nat} {x : Value} {k : Int} {bx tt : List Int} {uid mode fl si : Int} {tx : List Int}
theorem CmdR.v (h : CmdR w B T x k bx tt uid mode fl si tx) : CmdV w x k bx tt uid mode fl si tx :=
  let ⟨u0, u1, u2, _, _, hv, h0, h1, h2, _, _, _, r⟩ := h; ⟨u0, u1, u2, hv, h0.bs, h1.bs, h2.bs, r⟩
theorem CmdR.below (h : CmdR w B T x k bx tt uid mode fl si tx) (hb : Below w.heap.size w w') : CmdR w' B T x k bx tt uid mode fl si tx :=
  let ⟨u0, u1, u2, T0, T1, hv, h0, h1, h2, r⟩ := h; ⟨u0, u1, u2, T0, T1, hv, h0.below hb, h1.below hb, h2.below hb, r⟩
theorem CmdR.wide (h : CmdR w B T x k bx tt uid mode fl si tx) (hB : B' ≤ B) (hT : T ≤ T') : CmdR w B' T' x k bx tt uid mode fl si tx :=
  let ⟨u0, u1, u2, T0, T1, hv, h0, h1, h2, r0, r1, r2, r⟩ := h; ⟨u0, u1, u2, T0, T1, hv, h0.wide hB (Nat.le_refl _), h1, h2.wide (Nat.le_refl _) hT, by omega, r1, by omega, r⟩
theorem CmdR.keptW (h : CmdR w B T x k bx tt uid mode fl si tx) (hw : Within B' T' w w') (hd : T ≤ B' ∨ T' ≤ B) : CmdR w' B T x k bx tt uid mode fl si tx :=
  let ⟨u0, u1, u2, T0, T1, hv, h0, h1, h2, r0, r1, r2, r⟩ := h; ⟨u0, u1, u2, T0, T1, hv, h0.keptW hw (by omega), h1.keptW hw (by omega), h2.keptW hw (by omega), r0, r1, r2, r⟩
end

theorem box8l {w : World} {g : Nat} {t : TypeId} {c0 c1 c2 c3 c4 c5 c6 c7 : Value} (h : w.heap[g]? = some (.cells #[c0, c1, c2, c3, c4, c5, c6, c7] t (0, 0))) :
    w.cell? ⟨g, 0, none⟩ = some c0 ∧ w.cell? ⟨g, 1, none⟩ = some c1 ∧ w.cell? ⟨g, 2, none⟩ = some c2 ∧ w.cell? ⟨g, 3, none⟩ = some c3 ∧ w.cell? ⟨g, 4, none⟩ = some c4 ∧ w.cell? ⟨g, 5, none⟩ = some c5 ∧ w.cell? ⟨g, 6, none⟩ = some c6 ∧ w.cell? ⟨g, 7, none⟩ = some c7 ∧ g < w.heap.size := by
  obtain ⟨f0, f1, f2, f3, f4, f5, f6, f7⟩ := box8 h
  exact ⟨f0, f1, f2, f3, f4, f5, f6, f7, lt_of_heap h⟩

/-- A block of eight cells that is written: its marks. -/
theorem box8z {w : World} {g : Nat} {t : TypeId} {cs : Array Value} (h : w.heap[g]? = some (.cells cs t (0, 0))) : (∀ i, w.frozen? ⟨g, i, none⟩ = false) ∧ g < w.heap.size :=
  ⟨fun i => frozen_of_row w g i _ t h, lt_of_heap h⟩
theorem box_set {w : World} {g i : Nat} {t : TypeId} {cs : Array Value} {v : Value} (h : w.heap[g]? = some (.cells cs t (0, 0))) : (w.setCell ⟨g, i, none⟩ v).heap[g]? = some (.cells (cs.setIfInBounds i v) t (0, 0)) := heap_setCell_same w g i _ t v h
theorem box_size {w : World} {g i : Nat} {v : Value} : (w.setCell ⟨g, i, none⟩ v).heap.size = w.heap.size := by simp [World.setCell]

end Go.Proofs.YthnlbhmecokomaaDoor

/- Data with depth in memory: lists of structs, what they read as, and lists of the call's own, whose blocks lie in a set. -/
namespace Go.Proofs.YthnlbhmecokomaaDoor
open Go.RowKit

/-- The blocks from B on and below T. -/
def In (B T : Nat) : Nat → Prop := fun b => B ≤ b ∧ b < T

/-- The slice value v reads as the list l, each element of sz cells that E says. -/
def Rd {α : Type} (sz : Nat) (E : World → List Value → α → Prop) (w : World) (v : Value) (l : List α) : Prop :=
  ∃ (a : Option Addr) (cap : Nat) (cs : Nat → List Value), v = .slice a l.length cap ∧ l.length ≤ cap ∧ cap ≤ maxLen ∧ (a = none → cap = 0) ∧
    (∀ i x, l[i]? = some x → E w (cs i) x ∧ (cs i).length = sz) ∧
    (0 < l.length → ∃ b off, a = some ⟨b, off, none⟩ ∧ b < w.heap.size ∧ ∀ i j u, i < l.length → (cs i)[j]? = some u → w.cell? ⟨b, off + i * sz + j, none⟩ = some u)

/-- What an element says stays while nothing old turns. -/
def Keeps {α : Type} (E : World → List Value → α → Prop) : Prop := ∀ w w' c x, Below w.heap.size w w' → E w c x → E w' c x

section
variable {α : Type} {sz : Nat} {E : World → List Value → α → Prop} {w w' : World} {v : Value} {l : List α}
theorem Rd.below (hE : Keeps E) (h : Rd sz E w v l) (hb : Below w.heap.size w w') : Rd sz E w' v l := by
  obtain ⟨a, cap, cs, hv, h1, h2, h3, h4, h5⟩ := h
  refine ⟨a, cap, cs, hv, h1, h2, h3, fun i x hx => ⟨hE _ _ _ _ hb (h4 i x hx).1, (h4 i x hx).2⟩, fun hp => ?_⟩
  obtain ⟨b, off, ha, hlt, hc⟩ := h5 hp
  exact ⟨b, off, ha, Nat.lt_of_lt_of_le hlt hb.size, fun i j u hi hu => (hb.cell (p := ⟨b, off + i * sz + j, none⟩) hlt).trans (hc i j u hi hu)⟩
theorem Rd.form (h : Rd sz E w v l) : ∃ a cap, v = .slice a l.length cap ∧ l.length ≤ cap ∧ cap ≤ 9223372036854775807 := by
  obtain ⟨a, cap, cs, hv, h1, h2, _⟩ := h
  exact ⟨a, cap, hv, h1, h2⟩
theorem Rd.get (h : Rd sz E w v l) (k : Nat) (x : α) (hx : l[k]? = some x) :
    ∃ b off cap c, v = .slice (some ⟨b, off, none⟩) l.length cap ∧ b < w.heap.size ∧ E w c x ∧ c.length = sz ∧ ∀ j u, c[j]? = some u → w.cell? ⟨b, off + k * sz + j, none⟩ = some u := by
  obtain ⟨a, cap, cs, hv, h1, h2, h3, h4, h5⟩ := h
  have hk : k < l.length := (List.getElem?_eq_some_iff.1 hx).1
  obtain ⟨b, off, rfl, hlt, hc⟩ := h5 (by omega)
  exact ⟨b, off, cap, cs k, hv, hlt, (h4 k x hx).1, (h4 k x hx).2, fun j u hu => hc k j u hk hu⟩
theorem Rd.nil (w : World) : Rd sz E w (.slice none 0 0) ([] : List α) := ⟨none, 0, fun _ => [], rfl, by simp, by simp, fun _ => rfl, by simp, by simp⟩
end

/-- The list l of the call's own: nil, or at the head of a block of S; what its elements lead to lies in S too, apart from that block and from one another. -/
def Ow {α : Type} (t : TypeId) (sz : Nat) (E : World → List Value → α → (Nat → Prop) → Prop) (w : World) (S : Nat → Prop) (v : Value) (l : List α) : Prop :=
  (v = .slice none 0 0 ∧ l = []) ∨
  ∃ (g cap : Nat) (cur : Array Value) (cs : Nat → List Value) (fs : Nat → Nat → Prop), v = .slice (some ⟨g, 0, none⟩) l.length cap ∧ w.heap[g]? = some (.cells cur t (0, 0)) ∧ l.length ≤ cap ∧ cap ≤ maxLen ∧ cur.size = cap * sz ∧ S g ∧
    (∀ i x, l[i]? = some x → E w (cs i) x (fs i) ∧ (cs i).length = sz ∧ ∀ j u, (cs i)[j]? = some u → cur[i * sz + j]? = some u) ∧
    (∀ i b, i < l.length → fs i b → S b ∧ b ≠ g) ∧ (∀ i j b, i < l.length → j < l.length → i ≠ j → fs i b → ¬ fs j b)

/-- What an element of the call's own says stays while its blocks do. -/
def Frames {α : Type} (E : World → List Value → α → (Nat → Prop) → Prop) : Prop := ∀ w w' c x S, E w c x S → (∀ b, S b → b < w.heap.size → w'.heap[b]? = w.heap[b]?) → E w' c x S

section
variable {α : Type} {t : TypeId} {sz : Nat} {E : World → List Value → α → (Nat → Prop) → Prop} {w w' : World} {S S' : Nat → Prop} {v : Value} {l : List α}
theorem Ow.frame (hE : Frames E) (h : Ow t sz E w S v l) (hw : ∀ b, S b → b < w.heap.size → w'.heap[b]? = w.heap[b]?) : Ow t sz E w' S v l := by
  rcases h with h | ⟨g, cap, cur, cs, fs, hv, hh, h1, h2, h3, h4, h5, h6, h7⟩
  · exact .inl h
  · refine .inr ⟨g, cap, cur, cs, fs, hv, (hw g h4 (lt_of_heap hh)).trans hh, h1, h2, h3, h4, fun i x hx => ⟨?_, (h5 i x hx).2⟩, h6, h7⟩
    have hi : i < l.length := (List.getElem?_eq_some_iff.1 hx).1
    exact hE _ _ _ _ _ (h5 i x hx).1 fun b hb hlt => hw b (h6 i b hi hb).1 hlt
theorem Ow.mono (h : Ow t sz E w S v l) (hS : ∀ b, S b → S' b) : Ow t sz E w S' v l := by
  rcases h with h | ⟨g, cap, cur, cs, fs, hv, hh, h1, h2, h3, h4, h5, h6, h7⟩
  · exact .inl h
  · exact .inr ⟨g, cap, cur, cs, fs, hv, hh, h1, h2, h3, hS g h4, h5, fun i b hi hb => ⟨hS b (h6 i b hi hb).1, (h6 i b hi hb).2⟩, h7⟩
theorem Ow.below (hE : Frames E) (h : Ow t sz E w S v l) (hb : Below w.heap.size w w') : Ow t sz E w' S v l := h.frame hE fun b _ hlt => hb.block b hlt
theorem Ow.keptW {B T : Nat} (hE : Frames E) (h : Ow t sz E w S v l) (hw : Within B T w w') (hd : ∀ b, S b → ¬ (B ≤ b ∧ b < T)) : Ow t sz E w' S v l := h.frame hE fun b hb hlt => hw.block b hlt (hd b hb)
theorem Ow.rd {RE : World → List Value → α → Prop} (hE : ∀ w c x S, E w c x S → RE w c x) (h : Ow t sz E w S v l) : Rd sz RE w v l := by
  rcases h with ⟨rfl, rfl⟩ | ⟨g, cap, cur, cs, fs, hv, hh, h1, h2, h3, h4, h5, h6, h7⟩
  · exact Rd.nil w
  · refine ⟨some ⟨g, 0, none⟩, cap, cs, hv, h1, h2, (fun h => by cases h), fun i x hx => ⟨hE _ _ _ _ (h5 i x hx).1, (h5 i x hx).2.1⟩, fun hp => ⟨g, 0, rfl, lt_of_heap hh, fun i j u hi hu => ?_⟩⟩
    rw [Nat.zero_add, cell_of_row w g _ cur t (0, 0) hh]
    exact (h5 i l[i] (List.getElem?_eq_getElem hi)).2.2 j u hu
end

/-- The cells of c laid into block g from o on. -/
def put (w : World) (g o : Nat) : List Value → World
  | [] => w
  | c :: cs => put (w.setCell ⟨g, o, none⟩ c) g (o + 1) cs

theorem put_spec (g : Nat) (t : TypeId) : ∀ (cs : List Value) (w : World) (o : Nat) (cur : Array Value), w.heap[g]? = some (.cells cur t (0, 0)) → o + cs.length ≤ cur.size →
    ∃ cur', (put w g o cs).heap[g]? = some (.cells cur' t (0, 0)) ∧ cur'.size = cur.size ∧ (∀ j u, cs[j]? = some u → cur'[o + j]? = some u) ∧ (∀ i, i < o ∨ o + cs.length ≤ i → cur'[i]? = cur[i]?) ∧ Within g (g + 1) w (put w g o cs)
  | [], w, o, cur, h, _ => ⟨cur, h, rfl, by simp, fun _ _ => rfl, Within.refl _ _ _⟩
  | c :: cs, w, o, cur, h, hs => by
    simp only [List.length_cons] at hs
    have h1 : (w.setCell ⟨g, o, none⟩ c).heap[g]? = some (.cells (cur.setIfInBounds o c) t (0, 0)) := heap_setCell_same w g o cur t c h
    obtain ⟨cur', e1, e2, e3, e4, e5⟩ := put_spec g t cs (w.setCell ⟨g, o, none⟩ c) (o + 1) _ h1 (by simp; omega)
    refine ⟨cur', e1, by simpa using e2, fun j u hu => ?_, fun i hi => ?_, ?_⟩
    · cases j with
      | zero =>
        simp at hu; subst hu
        rw [Nat.add_zero, e4 o (.inl (by omega)), Array.getElem?_setIfInBounds]
        simp [show o < cur.size by omega]
      | succ j =>
        have := e3 j u (by simpa using hu)
        rwa [show o + (j + 1) = o + 1 + j by omega]
    · simp only [List.length_cons] at hi
      rw [e4 i (by omega)]
      rw [Array.getElem?_setIfInBounds]
      simp [show ¬ o = i by omega]
    · exact (⟨rfl, rfl, rfl, by simp [World.setCell], fun k hk hn => Below.heap_setCell w ⟨g, o, none⟩ c k (show k ≠ g by omega)⟩ : Within g (g + 1) w (w.setCell ⟨g, o, none⟩ c)).trans e5

/-- A list that is being laid: k of its elements lie there. -/
def Part {α : Type} (t : TypeId) (sz : Nat) (E : World → List Value → α → (Nat → Prop) → Prop) (w : World) (g n k : Nat) (l : List α) : Prop :=
  ∃ (cur : Array Value) (cs : Nat → List Value) (fs : Nat → Nat → Prop), w.heap[g]? = some (.cells cur t (0, 0)) ∧ cur.size = n * sz ∧
    (∀ i x, i < k → l[i]? = some x → E w (cs i) x (fs i) ∧ (cs i).length = sz ∧ ∀ j u, (cs i)[j]? = some u → cur[i * sz + j]? = some u) ∧
    (∀ i b, i < k → fs i b → g < b ∧ b < w.heap.size) ∧ (∀ i j b, i < k → j < k → i ≠ j → fs i b → ¬ fs j b)

section
variable {α : Type} {t : TypeId} {sz : Nat} {E : World → List Value → α → (Nat → Prop) → Prop} {w w' : World} {l : List α} {g n k : Nat}
theorem Part.start {cur : Array Value} (h : w.heap[g]? = some (.cells cur t (0, 0))) (hs : cur.size = n * sz) : Part t sz E w g n 0 l := ⟨cur, fun _ => [], fun _ _ => False, h, hs, by simp, by simp, by simp⟩
theorem Part.cell (h : Part t sz E w g n k l) (i : Nat) (hi : i < n * sz) : (∃ u, w.cell? ⟨g, i, none⟩ = some u) ∧ w.frozen? ⟨g, i, none⟩ = false := by
  obtain ⟨cur, cs, fs, hh, hs, _⟩ := h
  refine ⟨⟨cur[i]'(by omega), ?_⟩, frozen_of_row w g i cur t hh⟩
  rw [cell_of_row w g i cur t (0, 0) hh]
  simp
theorem Part.lt (h : Part t sz E w g n k l) : g < w.heap.size := let ⟨_, _, _, hh, _⟩ := h; lt_of_heap hh
theorem Part.step (hE : Frames E) (h : Part t sz E w g n k l) (hb : Below w.heap.size w w') (x : α) (hx : l[k]? = some x) (hk : k < n) (c : List Value) (hc : c.length = sz) (he : E w' c x (In w.heap.size w'.heap.size)) :
    Part t sz E (put w' g (k * sz) c) g n (k + 1) l := by
  obtain ⟨cur, cs, fs, hh, hs, h1, h2, h3⟩ := h
  have hg : g < w.heap.size := lt_of_heap hh
  have hroom : k * sz + sz ≤ n * sz := by
    have := Nat.mul_le_mul_right sz (show k + 1 ≤ n by omega)
    rw [Nat.add_mul, Nat.one_mul] at this
    exact this
  obtain ⟨cur', e1, e2, e3, e4, e5⟩ := put_spec g t c w' (k * sz) cur ((hb.block g hg).trans hh) (by omega)
  have same : ∀ b, b ≠ g → b < w.heap.size → (put w' g (k * sz) c).heap[b]? = w.heap[b]? := fun b hne hlt =>
    (e5.block b (Nat.lt_of_lt_of_le hlt hb.size) (by omega)).trans (hb.block b hlt)
  refine ⟨cur', fun i => if i = k then c else cs i, fun i => if i = k then In w.heap.size w'.heap.size else fs i, e1, by omega, fun i y hi hy => ?_, fun i b hi hb' => ?_, fun i j b hi hj hne hbi hbj => ?_⟩
  · by_cases hik : i = k
    · subst hik
      rw [hx] at hy; cases hy
      simp only [if_true]
      refine ⟨hE _ _ _ _ _ he fun b hb' hlt => e5.block b hlt (by have := hb'.1; omega), hc, fun j u hu => e3 j u hu⟩
    · simp only [if_neg hik]
      have hi' : i < k := by omega
      obtain ⟨q1, q2, q3⟩ := h1 i y hi' hy
      refine ⟨hE _ _ _ _ _ q1 fun b hb' hlt => same b (by have := (h2 i b hi' hb').1; omega) hlt, q2, fun j u hu => ?_⟩
      have hj : j < sz := by have := (List.getElem?_eq_some_iff.1 hu).1; omega
      have hlow : i * sz + j < k * sz := by
        have := Nat.mul_le_mul_right sz (show i + 1 ≤ k by omega)
        rw [Nat.add_mul, Nat.one_mul] at this
        omega
      rw [e4 _ (.inl hlow)]
      exact q3 j u hu
  · by_cases hik : i = k
    · simp only [hik, if_true] at hb'
      have := e5.size
      exact ⟨by have := hb'.1; omega, by have := hb'.2; omega⟩
    · simp only [if_neg hik] at hb'
      have := h2 i b (by omega) hb'
      have := e5.size
      have := hb.size
      omega
  · by_cases hik : i = k
    · by_cases hjk : j = k
      · omega
      · simp only [hik, if_true] at hbi
        simp only [if_neg hjk] at hbj
        have := h2 j b (by omega) hbj
        have := hbi.1
        omega
    · simp only [if_neg hik] at hbi
      by_cases hjk : j = k
      · simp only [hjk, if_true] at hbj
        have := h2 i b (by omega) hbi
        have := hbj.1
        omega
      · simp only [if_neg hjk] at hbj
        exact h3 i j b (by omega) (by omega) hne hbi hbj
theorem Part.done {B : Nat} (h : Part t sz E w g n n l) (hn : l.length = n) (hm : n ≤ maxLen) (hB : B ≤ g) : Ow t sz E w (In B w.heap.size) (.slice (some ⟨g, 0, none⟩) n n) l := by
  obtain ⟨cur, cs, fs, hh, hs, h1, h2, h3⟩ := h
  subst hn
  refine .inr ⟨g, l.length, cur, cs, fs, rfl, hh, Nat.le_refl _, hm, hs, ⟨hB, lt_of_heap hh⟩, fun i x hx => h1 i x (List.getElem?_eq_some_iff.1 hx).1 hx, fun i b hi hb => ?_, h3⟩
  have := h2 i b hi hb
  exact ⟨⟨by omega, this.2⟩, by omega⟩
theorem put_below {B : Nat} {w0 w : World} (hb : Below B w0 w) (hB : B ≤ g) (o : Nat) (c : List Value) : Below B w0 (put w g o c) := by
  induction c generalizing w o with
  | nil => exact hb
  | cons x c ih => exact ih (hb.setCell (p := ⟨g, o, none⟩) hB x) (o + 1)
end

end Go.Proofs.YthnlbhmecokomaaDoor
