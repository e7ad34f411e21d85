/- The proof's texts, part 1. -/
import Derived.Shelf.Strconv.Itoa0
import Derived.Shelf.Strconv.Itoa1
import Derived.Shelf.LaysM
import Derived.Shelf.Strconv.Itoa2
import Derived.Shelf.Strconv.Itoa3
import Derived.Test.YtmonloebkdpahaaDoorProg
import Derived.WalkKit
import Derived.WalkSpells
import Derived.WalkLawsBesides
import Derived.Laws.AppendOwnNone
import Derived.Laws.CopyOwn
import Derived.Test.YtmonloebkdpahaaDoorRows
import Derived.Deep.QuietTactic
import Derived.BigQuiet
import Derived.Laws.BitsAllLaws
import Derived.Lib.ItoaNum
import Derived.Laws.BytesArg
import Derived.Lib.AppendStr
import Derived.Lib.ConvBytes

/-
  DERIVED: THE SHELF's CONTRACTS AT THIS DUMP, IN PLAIN WORDS (tools/lay-plain.mjs out of 'TrydShelf.lean', which tools/lay-shelf.mjs wrote): THE SAME DECLARATIONS UNDER THE SAME NAMES: 'import', 'namespace', 'open', 'def', 'theorem' AND NOTHING ELSE: no command of the shelf's: FOR A HAND-IN. Each laying: the table of numbers ('.._ren') and one theorem, a field a fact of the dump's own or the kernel's comparison; each contract: ONE APPLICATION.
-/
namespace Go.Proofs
open Go.Shelf
def Tryd.laysM171_ren : Go.Shelf.Ren := ⟨fun | 171 => 27 | 243 => 57 | 246 => 88 | 283 => 101 | 284 => 102 | 285 => 103 | 286 => 104 | 129 => 109 | 317 => 108 | 318 => 110 | 319 => 111 | 320 => 112 | 337 => 113 | 338 => 114 | n => n, fun | 3 => 3 | 9 => 9 | 2 => 2 | 4 => 4 | 171 => 130 | 0 => 0 | 53 => 131 | 37 => 22 | 5 => 5 | 173 => 134 | 212 => 141 | 51 => 142 | 20 => 20 | 213 => 143 | 46 => 124 | 232 => 146 | 233 => 147 | n => n, fun | 17 => 0 | 18 => 1 | 19 => 2 | n => n⟩
theorem Tryd.laysM171 : Go.Proofs.LaysM.n171 Tryd.prog Tryd.laysM171_ren := {
  mixed := by kernel_rfl
  f129 := Tryd.func109.trans (congrArg some (by kernel_rfl))
  f171 := Tryd.func27.trans (congrArg some (by kernel_rfl))
  f243 := Tryd.func57.trans (congrArg some (by kernel_rfl))
  f246 := Tryd.func88.trans (congrArg some (by kernel_rfl))
  f283 := Tryd.func101.trans (congrArg some (by kernel_rfl))
  f284 := Tryd.func102.trans (congrArg some (by kernel_rfl))
  f285 := Tryd.func103.trans (congrArg some (by kernel_rfl))
  f286 := Tryd.func104.trans (congrArg some (by kernel_rfl))
  f317 := Tryd.func108.trans (congrArg some (by kernel_rfl))
  f318 := Tryd.func110.trans (congrArg some (by kernel_rfl))
  f319 := Tryd.func111.trans (congrArg some (by kernel_rfl))
  f320 := Tryd.func112.trans (congrArg some (by kernel_rfl))
  f337 := Tryd.func113.trans (congrArg some (by kernel_rfl))
  f338 := Tryd.func114.trans (congrArg some (by kernel_rfl))
  t0 := Tryd.underlying0
  a0 := Tryd.isAgg0
  z0 := Tryd.sizeOf0
  v0 := Tryd.zeroValue0
  t2 := Tryd.underlying2
  a2 := Tryd.isAgg2
  z2 := Tryd.sizeOf2
  v2 := Tryd.zeroValue2
  t3 := Tryd.underlying3
  a3 := Tryd.isAgg3
  z3 := Tryd.sizeOf3
  v3 := Tryd.zeroValue3
  t4 := Tryd.underlying4
  a4 := Tryd.isAgg4
  z4 := Tryd.sizeOf4
  v4 := Tryd.zeroValue4
  t5 := Tryd.underlying5
  a5 := Tryd.isAgg5
  z5 := Tryd.sizeOf5
  v5 := Tryd.zeroValue5
  t9 := Tryd.underlying9
  a9 := Tryd.isAgg9
  z9 := Tryd.sizeOf9
  v9 := Tryd.zeroValue9
  t20 := Tryd.underlying20
  a20 := Tryd.isAgg20
  z20 := Tryd.sizeOf20
  v20 := Tryd.zeroValue20
  t37 := Tryd.underlying22
  a37 := Tryd.isAgg22
  z37 := Tryd.sizeOf22
  v37 := Tryd.zeroValue22
  t46 := Tryd.underlying124
  a46 := Tryd.isAgg124
  z46 := Tryd.sizeOf124
  v46 := Tryd.zeroValue124
  t51 := Tryd.underlying142
  a51 := Tryd.isAgg142
  z51 := Tryd.sizeOf142
  v51 := Tryd.zeroValue142
  t53 := Tryd.underlying131
  a53 := Tryd.isAgg131
  z53 := Tryd.sizeOf131
  v53 := Tryd.zeroValue131
  t171 := Tryd.underlying130
  a171 := Tryd.isAgg130
  z171 := Tryd.sizeOf130
  v171 := Tryd.zeroValue130
  t173 := Tryd.underlying134
  a173 := Tryd.isAgg134
  z173 := Tryd.sizeOf134
  v173 := Tryd.zeroValue134
  t212 := Tryd.underlying141
  a212 := Tryd.isAgg141
  z212 := Tryd.sizeOf141
  v212 := Tryd.zeroValue141
  t213 := Tryd.underlying143
  a213 := Tryd.isAgg143
  z213 := Tryd.sizeOf143
  t232 := Tryd.underlying146
  a232 := Tryd.isAgg146
  z232 := Tryd.sizeOf146
  v232 := Tryd.zeroValue146
  t233 := Tryd.underlying147
  a233 := Tryd.isAgg147
  z233 := Tryd.sizeOf147
  v233 := Tryd.zeroValue147
  g17 := by kernel_rfl
  g18 := by kernel_rfl
  g19 := by kernel_rfl
  i0 := by kernel_rfl
  i2 := by kernel_rfl
  i3 := by kernel_rfl
  i4 := by kernel_rfl
  i5 := by kernel_rfl
  i9 := by kernel_rfl
  i20 := by kernel_rfl
  i37 := by kernel_rfl
  i46 := by kernel_rfl
  i51 := by kernel_rfl
  i53 := by kernel_rfl
  i171 := by kernel_rfl
  i173 := by kernel_rfl
  i212 := by kernel_rfl
  i232 := by kernel_rfl
  i233 := by kernel_rfl
  m17 := by kernel_rfl
  m18 := by kernel_rfl
  m19 := by kernel_rfl }
open Go.RowKit Go.Sort Go.Lib in
/-- strconv.Itoa: "Itoa is equivalent to FormatInt(int64(i), 10).": i's DECIMAL NUMERAL ('Lib.itoa': a '-' where i is negative, then the digits), FOR EVERY int. The world behind the call: the world before it, new blocks behind the heap (the library's 'var a [24]byte'), draws. (LAID: no walk: one application.) -/
theorem Tryd.strconv_Itoa (n : Int) (h0 : -9223372036854775808 ≤ n) (h1 : n ≤ 9223372036854775807) (w : World) (htab : Lib.TabIs Tryd.prog w "internal/strconv.uint64pow10" .u64 Lib.pow10Tab) :
    Calls Tryd.prog 27 #[.int .i64 n] w fun e w' => e = .returned (.string ⟨(Lib.itoa n).toArray⟩) ∧ ∃ k os, w' = grow (w.drewN k) os := Any.strconv_Itoa Tryd.laysM171 n h0 h1 w htab
end Go.Proofs

/- Plain facts on bytes in memory: what a slice reads as, what a call owns; no program is named here. -/
namespace Go.Proofs.YtmonloebkdpahaaDoor
open Go.RowKit

/-- Every number of the list is a byte. -/
def Oct (l : List Int) : Prop := ∀ x ∈ l, 0 ≤ x ∧ x ≤ 255
/-- The cells of a list of bytes. -/
def vals (l : List Int) : List Value := l.map (Value.int .u8)

theorem length_vals (l : List Int) : (vals l).length = l.length := by simp [vals]
theorem vals_append (a b : List Int) : vals (a ++ b) = vals a ++ vals b := by simp [vals]
theorem vals_get (l : List Int) (i : Nat) (h : i < l.length) : (vals l)[i]? = some (.int .u8 (l.getD i 0)) := by
  simp [vals, h]
theorem oct_nil : Oct [] := by intro x hx; simp at hx
theorem oct_append {a b : List Int} (ha : Oct a) (hb : Oct b) : Oct (a ++ b) := by
  intro x hx
  rcases List.mem_append.1 hx with h | h
  · exact ha x h
  · exact hb x h
theorem oct_get {l : List Int} (h : Oct l) (i : Nat) : 0 ≤ l.getD i 0 ∧ l.getD i 0 ≤ 255 := by
  by_cases hi : i < l.length
  · have : l.getD i 0 = l[i] := by simp [hi]
    rw [this]; exact h _ (List.getElem_mem hi)
  · have : l.getD i 0 = 0 := by simp [Nat.not_lt.1 hi]
    rw [this]; omega
theorem oct_take {l : List Int} (h : Oct l) (k : Nat) : Oct (l.take k) := fun x hx => h x (List.mem_of_mem_take hx)
theorem oneCell_vals (l : List Int) : ∀ u ∈ vals l, u.oneCell' = true := ints_oneCell .u8 l

/-- The slice value v reads in the world w as the bytes l. -/
def Bs (w : World) (v : Value) (l : List Int) : Prop :=
  Oct l ∧ ∃ a cap, v = .slice a l.length cap ∧ l.length ≤ cap ∧ cap ≤ maxLen ∧ (a = none → cap = 0) ∧
    (0 < l.length → ∃ b off, a = some ⟨b, off, none⟩ ∧ b < w.heap.size ∧ ∀ i, i < l.length → w.cell? ⟨b, off + i, none⟩ = some (.int .u8 (l.getD i 0)))

/-- The slice value v is nil, or it lies at the head of block g, whose first cells are the bytes l; nobody else need be asked ahead of a store there. -/
def Own (w : World) (g : Nat) (v : Value) (l : List Int) : Prop :=
  Oct l ∧ ((v = .slice none 0 0 ∧ l = []) ∨
    ∃ cap cur, v = .slice (some ⟨g, 0, none⟩) l.length cap ∧ w.heap[g]? = some (.cells cur 5 (0, 0)) ∧ l.length ≤ cap ∧ cap ≤ maxLen ∧ cur.size = cap ∧ cur.toList.take l.length = vals l)

theorem Own.row {w : World} {g : Nat} {v : Value} {l : List Int} (h : Own w g v l) : w.ownsRow g 5 1 v l.length (vals l) := by
  refine ⟨by simp [length_vals], ?_⟩
  rcases h.2 with ⟨hv, hl⟩ | ⟨cap, cur, hv, hh, h1, h2, h3, h4⟩
  · exact .inl ⟨hv, by simp [hl]⟩
  · exact .inr ⟨g, cap, cur, hv, Nat.le_refl _, hh, h1, h2, by simpa using h3, by simpa using h4⟩

theorem lt_of_heap {w : World} {g : Nat} {o : Obj} (h : w.heap[g]? = some o) : g < w.heap.size := (Array.getElem?_eq_some_iff.1 h).1

theorem Own.bs {w : World} {g : Nat} {v : Value} {l : List Int} (h : Own w g v l) : Bs w v l := by
  refine ⟨h.1, ?_⟩
  rcases h.2 with ⟨hv, hl⟩ | ⟨cap, cur, hv, hh, h1, h2, h3, h4⟩
  · subst hl
    exact ⟨none, 0, by simpa using hv, by simp, by simp, fun _ => rfl, fun h => by simp at h⟩
  · refine ⟨_, cap, hv, h1, h2, (fun h => by cases h), fun hp => ⟨g, 0, rfl, lt_of_heap hh, fun i hi => ?_⟩⟩
    rw [Nat.zero_add, cell_of_row w g i cur 5 (0, 0) hh]
    have e := vals_get l i hi
    rw [← h4, List.getElem?_take, if_pos hi] at e
    simpa using e

/-- What is kept while nothing below the heap's size turns. -/
theorem Bs.below {w w' : World} {v : Value} {l : List Int} (h : Bs w v l) (hb : Below w.heap.size w w') : Bs w' v l := by
  obtain ⟨ho, a, cap, hv, h1, h2, h3, h4⟩ := h
  refine ⟨ho, a, cap, hv, h1, h2, h3, fun hp => ?_⟩
  obtain ⟨b, off, ha, hlt, hc⟩ := h4 hp
  exact ⟨b, off, ha, Nat.lt_of_lt_of_le hlt hb.size, fun i hi => (hb.cell (p := ⟨b, off + i, none⟩) hlt).trans (hc i hi)⟩

theorem Own.below {w w' : World} {g : Nat} {v : Value} {l : List Int} (h : Own w g v l) (hb : Below w.heap.size w w') : Own w' g v l := by
  refine ⟨h.1, ?_⟩
  rcases h.2 with hn | ⟨cap, cur, hv, hh, r⟩
  · exact .inl hn
  · exact .inr ⟨cap, cur, hv, (hb.block g (lt_of_heap hh)).trans hh, r⟩

/-- What is kept while other blocks are written. -/
theorem Own.kept {w w' : World} {g k : Nat} {v : Value} {l : List Int} (h : Own w g v l) (hk : w.grownBy w' (some k)) (hne : g ≠ k) : Own w' g v l := by
  refine ⟨h.1, ?_⟩
  rcases h.2 with hn | ⟨cap, cur, hv, hh, r⟩
  · exact .inl hn
  · exact .inr ⟨cap, cur, hv, (hk.block g (lt_of_heap hh) (by simpa using hne)).trans hh, r⟩

theorem Own.grow {w w' : World} {g : Nat} {v : Value} {l : List Int} (h : Own w g v l) (hk : w.grownBy w' none) : Own w' g v l := by
  refine ⟨h.1, ?_⟩
  rcases h.2 with hn | ⟨cap, cur, hv, hh, r⟩
  · exact .inl hn
  · exact .inr ⟨cap, cur, hv, (hk.block g (lt_of_heap hh) (by simp)).trans hh, r⟩

theorem grownBy_setCell {w wr : World} {g j : Nat} {u : Value} (h : w.grownBy wr (some g)) : w.grownBy (wr.setCell ⟨g, j, none⟩ u) (some g) :=
  ⟨h.os, h.tape, h.output, by have := h.size; simpa [World.setCell] using this, fun k hk hne => (Below.heap_setCell wr ⟨g, j, none⟩ u k (by simpa using hne)).trans (h.block k hk hne)⟩

theorem grownBy_trans {w w1 w2 : World} {r : Option Nat} (h : w.grownBy w1 r) (h' : w1.grownBy w2 r) : w.grownBy w2 r :=
  ⟨h'.os.trans h.os, h'.tape.trans h.tape, h'.output.trans h.output, Nat.le_trans h.size h'.size, fun k hk hne => (h'.block k (Nat.lt_of_lt_of_le hk h.size) hne).trans (h.block k hk hne)⟩

theorem below_drewN {w w1 : World} {B : Nat} (n : Nat) (h : Below B w w1) : Below B w (w1.drewN n) := ⟨h.os, h.tape, h.output, h.size, h.block⟩
theorem Own.drewN {w : World} {g : Nat} {v : Value} {l : List Int} (n : Nat) (h : Own w g v l) : Own (w.drewN n) g v l := h
theorem Bs.drewN {w : World} {v : Value} {l : List Int} (n : Nat) (h : Bs w v l) : Bs (w.drewN n) v l := h

/-- Out of the kit's word on a row that the call owns. -/
theorem own_of_row {w : World} {B n : Nat} {v : Value} {l : List Int} (ho : Oct l) (hn : n = l.length) (h : w.ownsRow B 5 1 v n (vals l)) : ∃ g, B ≤ g ∧ Own w g v l := by
  subst hn
  rcases h.2 with ⟨hv, hl⟩ | ⟨g, cap, cur, hv, hB, hh, h1, h2, h3, h4⟩
  · exact ⟨B, Nat.le_refl _, ho, .inl ⟨hv, List.eq_nil_of_length_eq_zero hl⟩⟩
  · exact ⟨g, hB, ho, .inr ⟨cap, cur, hv, hh, h1, h2, by simpa using h3, by simpa using h4⟩⟩

/-- The bytes of a number: seven bits a byte, the lowest first; f more bytes may follow. -/
def enc : Nat → Int → List Int
  | 0, n => [n]
  | f + 1, n => if 127 < n then (n % 128 + 128) :: enc f (n / 128) else [n]

end Go.Proofs.YtmonloebkdpahaaDoor

/- append of bytes to a row of the call's own, as one law for the walk: what is appended may be nil. -/
namespace Go.Proofs.YtmonloebkdpahaaDoor
open Go.RowKit

/-- The value v is nil or lies at the head of a block from B on, whose first cells are the bytes l. -/
def OwnB (w : World) (B : Nat) (v : Value) (l : List Int) : Prop := ∃ g, B ≤ g ∧ Own w g v l

theorem OwnB.bs {w : World} {B : Nat} {v : Value} {l : List Int} (h : OwnB w B v l) : Bs w v l := let ⟨_, _, h⟩ := h; h.bs
theorem OwnB.oct {w : World} {B : Nat} {v : Value} {l : List Int} (h : OwnB w B v l) : Oct l := let ⟨_, _, h⟩ := h; h.1
theorem OwnB.row {w : World} {B : Nat} {v : Value} {l : List Int} (h : OwnB w B v l) : w.ownsRow B 5 1 v l.length (vals l) := by
  obtain ⟨g, hB, h⟩ := h
  have h' := h.row
  refine ⟨h'.1, ?_⟩
  rcases h'.2 with h' | ⟨g', cap, cur, hv, hg, r⟩
  · exact .inl h'
  · exact .inr ⟨g', cap, cur, hv, Nat.le_trans hB hg, r⟩
theorem OwnB.alloc {w : World} {B : Nat} {v : Value} {l : List Int} (h : OwnB w B v l) (o : Obj) : OwnB (w.alloc o) B v l :=
  let ⟨g, hB, h⟩ := h; ⟨g, hB, h.grow (World.grownBy_alloc w o none)⟩
theorem OwnB.below {w w' : World} {B : Nat} {v : Value} {l : List Int} (h : OwnB w B v l) (hb : Below w.heap.size w w') : OwnB w' B v l :=
  let ⟨g, hB, h⟩ := h; ⟨g, hB, h.below hb⟩
/-- One byte in a new block of its own: what 'append(out, x)' lays ahead. -/
theorem bs_one (w : World) (x : Int) (h : 0 ≤ x ∧ x ≤ 255) : Bs (w.alloc (.cells #[.int .u8 x] 5)) (.slice (some ⟨w.heap.size, 0, none⟩) 1 1) [x] := by
  refine ⟨by intro y hy; simp at hy; subst hy; exact h, _, 1, rfl, by simp, by decide, (fun h => by cases h), fun _ => ⟨w.heap.size, 0, rfl, by simp, fun i hi => ?_⟩⟩
  have : i = 0 := by simp at hi; omega
  subst this
  simp

theorem Bs.alloc {w : World} {v : Value} {l : List Int} (h : Bs w v l) (o : Obj) : Bs (w.alloc o) v l :=
  h.below ((Below.refl _ _).alloc (Nat.le_refl _) o)

theorem wpList_append_bytes {P : Program} {w : World} {ops : Array Oper} {rest : List Oper} {o : Oper} {a : Act} {Q : Exit → Act → World → Prop} (hgd : o.guard = none) (s x : Operand) (t : TypeId)
    (ho : o.op = .call { callee := .builtin .append, args := #[s, x], argTypes := #[t, t] })
    (i : TypeInfo) (ht : P.underlying t = some (.slice 5)) (hi : P.info? 5 = some i) (hz : i.zero = some (.int .u8 0)) (hsize : i.size = 1) (hby : i.bytes = 1)
    (B : Nat) (v : Value) (l : List Int) (hs : a.eval s = v) (hown : OwnB w B v l) (u : Value) (m : List Int) (hx : a.eval x = u) (hm : Bs w u m)
    (hlen : l.length + m.length ≤ 140737488355328) (hbase : B ≤ w.heap.size) (w0 : World) (hb : Below B w0 w)
    (h : ∀ v' w', OwnB w' B v' (l ++ m) → Below B w0 w' → w.grownBy w' v.ownBlock → wpList P ops Q rest (a.put o.dst v') w') : wpList P ops Q (o :: rest) a w := by
  obtain ⟨hmo, ad, cap, hu, h1, h2, h3, h4⟩ := hm
  have hr := hown.row
  cases ad with
  | none =>
    have : cap = 0 := h3 rfl
    subst this
    have : m = [] := List.eq_nil_of_length_eq_zero (by omega)
    subst this
    refine wpList_append_own_none hgd s x t ho B 5 i 1 ht hi v l.length (vals l) hs hr (by rw [hx, hu]; rfl) ?_
    exact h v w (by simpa using hown) hb (World.grownBy.refl _ _)
  | some ad =>
    have hl : l.length + m.length ≤ maxLen := by unfold maxLen; omega
    refine wpList_append_own w hgd s x t ho B 5 i (.int .u8 0) 1 1 ht hi hz hsize hby rfl (by omega) v l.length (vals l) hs hr ad m.length cap (vals m) (by rw [hx, hu]) (by simp [length_vals]) ?_ (oneCell_vals m) hl (by omega) hbase ?_
    · intro j y hy
      have hj : j < m.length := by have := (List.getElem?_eq_some_iff.1 hy).1; simpa [length_vals] using this
      obtain ⟨b, off, had, _, hc⟩ := h4 (by omega)
      cases had
      rw [Addr.add_lit, hc j hj, ← hy, vals_get m j hj]
    · intro v' w' hown' hg _
      obtain ⟨g, hgB, hg'⟩ := own_of_row (n := l.length + m.length) (oct_append hown.oct hmo) (by simp) (by rw [vals_append]; exact hown')
      exact h v' w' ⟨g, hgB, hg'⟩ (hb.grown hg hbase (fun k hk => (hr.lt k hk).1)) hg

end Go.Proofs.YtmonloebkdpahaaDoor

/- What GetNum answers, on lists. -/
namespace Go.Proofs.YtmonloebkdpahaaDoor
open Go.RowKit

end Go.Proofs.YtmonloebkdpahaaDoor

/- copy of bytes into a row of the call's own, as one law for the walk: what is copied may be nil. -/
namespace Go.Proofs.YtmonloebkdpahaaDoor
open Go.RowKit

end Go.Proofs.YtmonloebkdpahaaDoor

/- Rows of bytes that lie in blocks from B on and below T: so that two of them are seen to be apart. -/
namespace Go.Proofs.YtmonloebkdpahaaDoor
open Go.RowKit

/-- The value v is nil, or lies at the head of a block from B on and below T; its bytes are l. -/
def Row (w : World) (B T : Nat) (v : Value) (l : List Int) : Prop :=
  Oct l ∧ w.ownsRow B 5 1 v l.length (vals l) ∧ ∀ g, v.ownBlock = some g → g < T

theorem OwnB.toRow {w : World} {B : Nat} {v : Value} {l : List Int} (h : OwnB w B v l) : Row w B w.heap.size v l := ⟨h.oct, h.row, fun g hg => (h.row.lt g hg).2⟩
/-- A row whose block is known. -/
theorem Own.toRow {w : World} {g : Nat} {v : Value} {l : List Int} (h : Own w g v l) : Row w g (g + 1) v l := by
  refine ⟨h.1, h.row, fun k hk => ?_⟩
  rcases h.2 with ⟨hv, _⟩ | ⟨cap, cur, hv, _⟩
  · rw [hv] at hk; simp [Value.ownBlock] at hk
  · rw [hv] at hk; simp [Value.ownBlock] at hk; omega
theorem Row.oct {w : World} {B T : Nat} {v : Value} {l : List Int} (h : Row w B T v l) : Oct l := h.1
theorem Row.own {w : World} {B T : Nat} {v : Value} {l : List Int} (h : Row w B T v l) : OwnB w B v l := own_of_row h.1 rfl h.2.1
theorem Row.bs {w : World} {B T : Nat} {v : Value} {l : List Int} (h : Row w B T v l) : Bs w v l := h.own.bs
theorem Row.wide {w : World} {B T B' T' : Nat} {v : Value} {l : List Int} (h : Row w B T v l) (hB : B' ≤ B) (hT : T ≤ T') : Row w B' T' v l := by
  refine ⟨h.1, ⟨h.2.1.1, ?_⟩, fun g hg => Nat.lt_of_lt_of_le (h.2.2 g hg) hT⟩
  rcases h.2.1.2 with hn | ⟨g, cap, cur, hv, hg, r⟩
  · exact .inl hn
  · exact .inr ⟨g, cap, cur, hv, Nat.le_trans hB hg, r⟩
theorem Row.below {w w' : World} {B T : Nat} {v : Value} {l : List Int} (h : Row w B T v l) (hb : Below w.heap.size w w') : Row w' B T v l :=
  ⟨h.1, (h.own.below hb).row, h.2.2⟩
/-- Another row was written. -/
theorem Row.kept {w w' : World} {B T B' T' : Nat} {v u : Value} {l m : List Int} (h : Row w B T v l) (hu : Row w B' T' u m) (hg : w.grownBy w' u.ownBlock) (hd : T ≤ B' ∨ T' ≤ B) : Row w' B T v l := by
  refine ⟨h.1, h.2.1.kept hg ?_, h.2.2⟩
  cases hv : v.ownBlock with
  | none => exact .inl rfl
  | some g =>
    refine .inr fun e => ?_
    have h1 := (h.2.1.lt g hv).1
    have h2 := h.2.2 g hv
    have h3 := (hu.2.1.lt g e.symm).1
    have h4 := hu.2.2 g e.symm
    omega
theorem Row.nil (w : World) (B T : Nat) : Row w B T (.slice none 0 0) [] := ⟨oct_nil, World.ownsRow_nil _ _ _ _, fun g hg => by simp [Value.ownBlock] at hg⟩
/-- A row stays while another block is written. -/
theorem Row.drawn {w w' : World} {g B T : Nat} {v : Value} {l : List Int} (h : Row w B T v l) (hw : w.grownBy w' (some g)) (hd : g < B ∨ T ≤ g) : Row w' B T v l := by
  refine ⟨h.1, h.2.1.kept hw ?_, h.2.2⟩
  cases hv : v.ownBlock with
  | none => exact .inl rfl
  | some k =>
    refine .inr fun e => ?_
    have h1 := (h.2.1.lt k hv).1
    have h2 := h.2.2 k hv
    simp only [Option.some.injEq] at e
    omega
/-- A row stays while a cell of another block is written. -/
theorem Row.set {w : World} {g i B T : Nat} {v x : Value} {l : List Int} (h : Row w B T v l) (hd : g < B ∨ T ≤ g) : Row (w.setCell ⟨g, i, none⟩ x) B T v l :=
  h.drawn (grownBy_setCell (World.grownBy.refl _ _)) hd
theorem Below.step {w w1 w2 : World} (h : Below w.heap.size w w1) (h' : Below w1.heap.size w1 w2) : Below w.heap.size w w2 := h.trans (h'.mono h.size)

end Go.Proofs.YtmonloebkdpahaaDoor

/- Closed facts on the program's types that the walks use. -/
namespace Go.Proofs.YtmonloebkdpahaaDoor
open Go.RowKit

theorem info5 : (Tryd.prog.info? 5).map (fun i => (i.zero, i.size, i.bytes)) = some (some (.int .u8 0), 1, 1) := by kernel_rfl
theorem bs_nil (w : World) : Bs w (.slice none 0 0) [] := ⟨oct_nil, none, 0, rfl, by simp, by simp, fun _ => rfl, fun h => absurd h (by simp)⟩

end Go.Proofs.YtmonloebkdpahaaDoor

/- The drawing cursor of package spec: what l1Byte and l1Below answer lies in its bounds; they write into the cursor alone. -/
namespace Go.Proofs.YtmonloebkdpahaaDoor
open Go.RowKit
set_option maxRecDepth 100000

/-- The cursor at block g: it holds the slice cv of the bytes L, a place in it, and some number; below w0's size nothing has turned since w0. -/
def Cur (w0 w : World) (g : Nat) (cv : Value) (L : List Int) : Prop :=
  w0.heap.size ≤ g ∧ Below w0.heap.size w0 w ∧ Bs w0 cv L ∧ ∃ i h : Int, 0 ≤ i ∧ i ≤ L.length ∧ w.heap[g]? = some (.cells #[cv, .int .i64 i, .int .i64 h] 96 (0, 0))

theorem and255 (x : Int) : 0 ≤ bits BinOp.and IntKind.i64 x 255 ∧ bits BinOp.and IntKind.i64 x 255 ≤ 255 := by
  have e : bits BinOp.and IntKind.i64 x 255 = IntKind.i64.wrap ((BitVec.ofInt 64 x &&& BitVec.ofInt 64 255).toNat : Int) := rfl
  have hb : (BitVec.ofInt 64 x &&& BitVec.ofInt 64 255).toNat ≤ 255 := by
    rw [BitVec.toNat_and]
    exact Nat.and_le_right
  rw [e, IntWalk.i64_in _ (by omega)]
  omega

theorem grownBy_drewN {w w' : World} {r : Option Nat} (h : w.grownBy w' r) (n : Nat) : w.grownBy (w'.drewN n) r := ⟨h.os, h.tape, h.output, h.size, h.block⟩
theorem set_h {w : World} {g : Nat} {c0 c1 c2 v : Value} {t : TypeId} (h : w.heap[g]? = some (.cells #[c0, c1, c2] t (0, 0))) : (w.setCell ⟨g, 2, none⟩ v).heap[g]? = some (.cells #[c0, c1, v] t (0, 0)) := by
  rw [heap_setCell_same w g 2 _ t v h]; rfl
theorem set_i {w : World} {g : Nat} {c0 c1 c2 v : Value} {t : TypeId} (h : w.heap[g]? = some (.cells #[c0, c1, c2] t (0, 0))) : (w.setCell ⟨g, 1, none⟩ v).heap[g]? = some (.cells #[c0, v, c2] t (0, 0)) := by
  rw [heap_setCell_same w g 1 _ t v h]; rfl

set_option maxHeartbeats 1000000 in
theorem l1Byte_any (w0 w : World) (g : Nat) (cv : Value) (L : List Int) (hc : Cur w0 w g cv L) :
    Calls Tryd.prog 78 #[.pointer (some ⟨g, 0, none⟩)] w fun e w' => ∃ x, e = .returned (.int .i64 x) ∧ 0 ≤ x ∧ x ≤ 255 ∧ Cur w0 w' g cv L ∧ w.grownBy w' (some g) := by
  obtain ⟨hg, hB, hbs, i, h, hi0, hi1, hh⟩ := hc
  have f0 : w.cell? ⟨g, 0, none⟩ = some cv := by rw [cell_of_row w g 0 _ _ (0, 0) hh]; rfl
  have f1 : w.cell? ⟨g, 1, none⟩ = some (.int .i64 i) := by rw [cell_of_row w g 1 _ _ (0, 0) hh]; rfl
  have f2 : w.cell? ⟨g, 2, none⟩ = some (.int .i64 h) := by rw [cell_of_row w g 2 _ _ (0, 0) hh]; rfl
  have z1 := frozen_of_row w g 1 _ _ hh
  have z2 := frozen_of_row w g 2 _ _ hh
  obtain ⟨a, cap, rfl⟩ : ∃ a cap, cv = .slice a L.length cap := by obtain ⟨_, a, cap, h, _⟩ := hbs; exact ⟨a, cap, h⟩
  by_cases hlt : i < (L.length : Int)
  · obtain ⟨I, rfl⟩ := Int.eq_ofNat_of_zero_le hi0
    have HBS : Hid (Bs w0 (.slice a L.length cap) L) := hbs
    obtain ⟨ho, a', cap', hv, hlc, hcm, -, h4⟩ := hbs
    simp only [Value.slice.injEq] at hv
    obtain ⟨rfl, -, rfl⟩ := hv
    obtain ⟨b, off, rfl, hb, hcell⟩ := h4 (by omega)
    have fx : w.cell? ⟨b, off + I, none⟩ = some (.int .u8 (L.getD I 0)) := (hB.cell (p := ⟨b, off + I, none⟩) hb).trans (hcell I (by omega))
    have ox := oct_get ho I
    obtain ⟨x, hx⟩ : ∃ x, x = L.getD I 0 := ⟨_, rfl⟩
    rw [← hx] at fx ox
    obtain ⟨ox0, ox1⟩ := ox
    have hbg : ¬ b = g := by omega
    have hgb : ¬ g = b := by omega
    have HL : Hid (I < L.length) := by unfold Hid; omega
    unfold maxLen at hcm
    clear hcell h4 hx
    go_enter Tryd.func78, Tryd.ntmps78
    go_wp2
    go_quiet (fail)
    go_wp2
    go_quiet (fail)
    go_wp2
    go_quiet (fail)
    go_wp2
    go_ret
    exact ⟨_, rfl, (and255 _).1, (and255 _).2, ⟨hg, (below_drewN _ (hB.setCell hg _)).setCell hg _, HBS.out, (I : Int) + 1, _, by omega, by omega, set_i (w := (w.setCell ⟨g, 2, none⟩ _).drewN _) (set_h hh)⟩, grownBy_setCell (grownBy_drewN (grownBy_setCell (World.grownBy.refl _ _)) _)⟩
  · go_enter Tryd.func78, Tryd.ntmps78
    go_wp2
    go_quiet (fail)
    go_wp2
    go_quiet (fail)
    go_wp2
    go_ret
    exact ⟨_, rfl, (and255 _).1, (and255 _).2, ⟨hg, below_drewN _ (below_drewN _ (hB.setCell hg _)), hbs, i, _, hi0, hi1, set_h hh⟩, grownBy_drewN (grownBy_drewN (grownBy_setCell (World.grownBy.refl _ _)) _) _⟩

theorem Cur.below {w0 w w' : World} {g : Nat} {cv : Value} {L : List Int} (h : Cur w0 w g cv L) (hb : Below w.heap.size w w') : Cur w0 w' g cv L := by
  obtain ⟨hg, hB, hbs, i, q, h0, h1, hh⟩ := h
  exact ⟨hg, hB.trans (hb.mono hB.size), hbs, i, q, h0, h1, (hb.block g (lt_of_heap hh)).trans hh⟩
theorem Cur.lt {w0 w : World} {g : Nat} {cv : Value} {L : List Int} (h : Cur w0 w g cv L) : w0.heap.size ≤ g ∧ g < w.heap.size := by
  obtain ⟨hg, _, _, i, q, _, _, hh⟩ := h; exact ⟨hg, lt_of_heap hh⟩
/-- Another row was written. -/
theorem Cur.kept {w0 w w' : World} {g B T : Nat} {cv u : Value} {L m : List Int} (h : Cur w0 w g cv L) (hu : Row w B T u m) (hw : w.grownBy w' u.ownBlock) (hd : g < B) : Cur w0 w' g cv L := by
  obtain ⟨hg, hB, hbs, i, q, h0, h1, hh⟩ := h
  refine ⟨hg, hB.grown hw hB.size (fun k hk => by have := (hu.2.1.lt k hk).1; omega), hbs, i, q, h0, h1, (hw.block g (lt_of_heap hh) (fun e => ?_)).trans hh⟩
  have := (hu.2.1.lt g e.symm).1; omega
set_option maxHeartbeats 400000 in
theorem l1Below_any (w0 w : World) (g : Nat) (cv : Value) (L : List Int) (n : Int) (hc : Cur w0 w g cv L) (hn : 1 ≤ n) (hn1 : n ≤ 4000000000) :
    Calls Tryd.prog 41 #[.pointer (some ⟨g, 0, none⟩), .int .i64 n] w fun e w' => ∃ x, e = .returned (.int .i64 x) ∧ 0 ≤ x ∧ x < n ∧ Cur w0 w' g cv L ∧ w.grownBy w' (some g) := by
  by_cases hs : n ≤ 256
  · go_enter Tryd.func41, Tryd.ntmps41
    go_wp2_with fail
    refine (l1Byte_any w0 _ g cv L hc).mono ?_
    rintro e w1 ⟨x, rfl, hx0, hx1, hc1, hg1⟩
    go_wp2
    go_ret
    exact ⟨_, rfl, Int.emod_nonneg _ (by omega), Int.emod_lt_of_pos _ (by omega), hc1, hg1⟩
  · go_enter Tryd.func41, Tryd.ntmps41
    go_wp2_with fail
    refine (l1Byte_any w0 _ g cv L hc).mono ?_
    rintro e w1 ⟨x, rfl, hx0, hx1, hc1, hg1⟩
    go_wp2_with fail
    refine (l1Byte_any w0 _ g cv L hc1).mono ?_
    rintro e w2 ⟨y, rfl, hy0, hy1, hc2, hg2⟩
    go_wp2_with fail
    refine (l1Byte_any w0 _ g cv L hc2).mono ?_
    rintro e w3 ⟨z, rfl, hz0, hz1, hc3, hg3⟩
    go_wp2_with fail
    refine (l1Byte_any w0 _ g cv L hc3).mono ?_
    rintro e w4 ⟨q, rfl, hq0, hq1, hc4, hg4⟩
    go_wp2
    go_ret
    exact ⟨_, rfl, Int.emod_nonneg _ (by omega), Int.emod_lt_of_pos _ (by omega), hc4, grownBy_trans (grownBy_trans (grownBy_trans hg1 hg2) hg3) hg4⟩

set_option maxHeartbeats 400000 in
theorem l1Once_any (w0 w : World) (g : Nat) (cv : Value) (L : List Int) (n : Int) (hc : Cur w0 w g cv L) (hn : 1 ≤ n) (hn1 : n ≤ 4000000000) :
    Calls Tryd.prog 40 #[.pointer (some ⟨g, 0, none⟩), .int .i64 n] w fun e w' => ∃ x, e = .returned (.bool x) ∧ Cur w0 w' g cv L ∧ w.grownBy w' (some g) := by
  go_enter Tryd.func40, Tryd.ntmps40
  go_wp2_with fail
  refine (l1Below_any w0 _ g cv L n hc hn hn1).mono ?_
  rintro e w1 ⟨x, rfl, hx0, hx1, hc1, hg1⟩
  go_wp2
  go_ret
  exact ⟨_, rfl, hc1, hg1⟩

/-- A list of ints in a block of its own: each is an int, and there is one. -/
def Ints (w : World) (v : Value) (g n : Nat) : Prop :=
  1 ≤ n ∧ n ≤ 1000 ∧ ∃ k, k ≠ g ∧ k < w.heap.size ∧ v = .slice (some ⟨k, 0, none⟩) n n ∧ ∀ i, i < n → ∃ x, w.cell? ⟨k, i, none⟩ = some (.int .i64 x) ∧ -9223372036854775808 ≤ x ∧ x ≤ 9223372036854775807

end Go.Proofs.YtmonloebkdpahaaDoor

/- What l1New, l1some and l1num of package spec answer. -/
namespace Go.Proofs.YtmonloebkdpahaaDoor
open Go.RowKit
set_option maxRecDepth 100000

theorem OwnB.drawn {w w' : World} {g B : Nat} {v : Value} {l : List Int} (h : OwnB w B v l) (hw : w.grownBy w' (some g)) (hd : g < B) : OwnB w' B v l := by
  obtain ⟨k, hk, ho⟩ := h
  exact ⟨k, hk, ho.kept hw (by omega)⟩

set_option maxRecDepth 100000 in
set_option maxHeartbeats 400000 in
theorem l1New_any (v : Value) (L : List Int) (w : World) (hv : Bs w v L) :
    Calls Tryd.prog 36 #[v] w fun e w' => ∃ g, e = .returned (.pointer (some ⟨g, 0, none⟩)) ∧ Cur w w' g v L ∧ Below w.heap.size w w' := by
  have HBS : Hid (Bs w v L) := hv
  obtain ⟨ho, a, cap, rfl, hlc, hcm, hnil, hcells⟩ := hv
  unfold maxLen at hcm
  go_enter Tryd.func36, Tryd.ntmps36
  go_wp2
  go_loop [3, 4] (fun h i => ∃ (q : Int) (k : Nat), h = .int .i64 q ∧ i = .int .i64 k ∧ k ≤ L.length ∧ k ≤ 4000) (fun _ i => 4000 - (intOf i).toNat)
  case atStart => exact ⟨_, 0, rfl, rfl, Nat.zero_le _, Nat.zero_le _⟩
  case round =>
    obtain ⟨q, k, rfl, rfl, hk, hk4⟩ := hrel
    by_cases h1 : k < L.length
    · by_cases h2 : k < 4000
      · obtain ⟨b, off, rfl, hlb, hc⟩ := hcells (by omega)
        have hx := hc k h1
        have hb := oct_get ho k
        obtain ⟨x, hxe⟩ : ∃ x, x = L.getD k 0 := ⟨_, rfl⟩
        rw [← hxe] at hx hb
        clear hc hcells hxe
        go_wp2
        go_round
        case rel => exact ⟨_, k + 1, rfl, by go_num, by omega, by omega⟩
        case measure => simp [intOf]; omega
      · go_wp2
        go_ret
        exact ⟨w.heap.size, rfl, ⟨Nat.le_refl _, (Below.refl _ _).alloc (Nat.le_refl _) _, HBS.out, 0, q, by omega, by omega, heap_alloc_new w _⟩, (Below.refl _ _).alloc (Nat.le_refl _) _⟩
    · go_wp2
      go_ret
      exact ⟨w.heap.size, rfl, ⟨Nat.le_refl _, (Below.refl _ _).alloc (Nat.le_refl _) _, HBS.out, 0, q, by omega, by omega, heap_alloc_new w _⟩, (Below.refl _ _).alloc (Nat.le_refl _) _⟩

end Go.Proofs.YtmonloebkdpahaaDoor

/- Numbers, flags and texts as lines have them, on lists. -/
namespace Go.Proofs.YtmonloebkdpahaaDoor
open Go.RowKit

theorem flat_len {α : Type} (f : α → List Int) (c : Nat) (l : List α) (h : ∀ x, x ∈ l → (f x).length ≤ c) : (l.flatMap f).length ≤ c * l.length := by
  induction l with
  | nil => simp
  | cons x l ih =>
    have h1 := h x (by simp)
    have h2 := ih fun y hy => h y (by simp [hy])
    simp only [List.flatMap_cons, List.length_append, List.length_cons, Nat.mul_add]
    omega
theorem flat_step {α : Type} (f : α → List Int) {l : List α} {j : Nat} {x : α} (h : l[j]? = some x) : (l.take (j + 1)).flatMap f = (l.take j).flatMap f ++ f x := by
  have hj : j < l.length := (List.getElem?_eq_some_iff.1 h).1
  rw [List.take_succ_eq_append_getElem hj, (List.getElem?_eq_some_iff.1 h).2]
  simp

def ofU8 (l : List UInt8) : List Int := l.map fun b => (b.toNat : Int)
theorem ofU8_append (a b : List UInt8) : ofU8 (a ++ b) = ofU8 a ++ ofU8 b := by simp [ofU8]
theorem ofU8_oct (l : List UInt8) : Oct (ofU8 l) := by
  intro x hx
  obtain ⟨b, _, rfl⟩ := List.mem_map.1 hx
  have := b.toNat_lt
  omega
/-- The decimal digits of a number. -/
def digB (n : Nat) : List Int := ofU8 (Lib.decDigits n)
theorem digB_small {n : Nat} (h : n < 10) : digB n = [48 + (n : Int)] := by
  rw [digB, Lib.decDigits, dif_pos h]
  simp only [ofU8, List.map_cons, List.map_nil, List.cons.injEq, and_true]
  rw [UInt8.toNat_ofNat']
  omega
theorem digB_big {n : Nat} (h : ¬ n < 10) : digB n = digB (n / 10) ++ [48 + ((n % 10 : Nat) : Int)] := by
  rw [digB, Lib.decDigits, dif_neg h, ofU8_append, digB]
  congr 1
  simp only [ofU8, List.map_cons, List.map_nil, List.cons.injEq, and_true]
  rw [UInt8.toNat_ofNat']
  omega
theorem digB_len10 {n : Nat} (h : n ≤ 9999999) : (digB n).length ≤ 8 := by
  have step : ∀ k : Nat, ∀ n : Nat, n < 10 ^ (k + 1) → (digB n).length ≤ k + 1 := by
    intro k
    induction k with
    | zero => intro n hn; rw [digB_small (by omega)]; simp
    | succ k ih =>
      intro n hn
      by_cases h : n < 10
      · rw [digB_small h]; simp
      · rw [digB_big h]
        have := ih (n / 10) (by rw [Nat.pow_succ] at hn; omega)
        simp only [List.length_append, List.length_cons, List.length_nil]
        omega
  exact Nat.le_trans (step 6 n (by omega)) (by omega)

/-- A byte of a text between quotes. -/
def escB (x : Int) : List Int := if x = 34 ∨ x = 92 then [92, x] else [x]
def quoB (t : List Int) : List Int := [34] ++ t.flatMap escB ++ [34]
theorem escB_len (x : Int) : (escB x).length ≤ 2 := by unfold escB; split <;> simp

/-- Flags: a letter for each that is there. -/
def letB (i : Nat) : Int := match i with
  | 0 => 83
  | 1 => 65
  | 2 => 70
  | 3 => 68
  | _ => 82
def flagAt (f : Int) (i : Nat) : List Int := if f.toNat / 2 ^ i % 2 = 1 then [letB i] else []
def flagsB (f : Int) : List Int := [40] ++ (List.range 5).flatMap (flagAt f) ++ [41]

end Go.Proofs.YtmonloebkdpahaaDoor

/- One byte in a block of its own; flags, one behind the other. -/
namespace Go.Proofs.YtmonloebkdpahaaDoor
open Go.RowKit

theorem ownB_one (w : World) (B : Nat) (hB : B ≤ w.heap.size) (x : Int) (h : 0 ≤ x ∧ x ≤ 255) : OwnB (w.alloc (.cells #[.int .u8 x] 5)) B (.slice (some ⟨w.heap.size, 0, none⟩) 1 1) [x] := by
  refine ⟨w.heap.size, hB, fun y hy => ?_, .inr ⟨1, #[.int .u8 x], rfl, heap_alloc_new w _, by simp, by unfold maxLen; omega, rfl, rfl⟩⟩
  simp only [List.mem_cons, List.not_mem_nil, or_false] at hy
  subst hy
  omega

theorem flagAt_len (f : Int) (i : Nat) : (flagAt f i).length ≤ 1 := by unfold flagAt; split <;> simp
theorem range5_step (f : Int) (k : Nat) : (List.range (k + 1)).flatMap (flagAt f) = (List.range k).flatMap (flagAt f) ++ flagAt f k := by simp [List.range_succ]

end Go.Proofs.YtmonloebkdpahaaDoor

/- Logs in memory: what a log reads as; a log of the call's own; what is written within a range of blocks. -/
namespace Go.Proofs.YtmonloebkdpahaaDoor
open Go.RowKit

/-- Old blocks outside the range from B on and below T are as they were. -/
structure Within (B T : Nat) (w w' : World) : Prop where
  os : w'.os = w.os
  tape : w'.tape = w.tape
  output : w'.output = w.output
  size : w.heap.size ≤ w'.heap.size
  block : ∀ k, k < w.heap.size → ¬ (B ≤ k ∧ k < T) → w'.heap[k]? = w.heap[k]?

theorem Within.refl (B T : Nat) (w : World) : Within B T w w := ⟨rfl, rfl, rfl, Nat.le_refl _, fun _ _ _ => rfl⟩
theorem Within.trans {B T : Nat} {a b c : World} (h : Within B T a b) (k : Within B T b c) : Within B T a c :=
  ⟨k.os.trans h.os, k.tape.trans h.tape, k.output.trans h.output, Nat.le_trans h.size k.size, fun i hi hn => (k.block i (Nat.lt_of_lt_of_le hi h.size) hn).trans (h.block i hi hn)⟩
theorem Within.wide {B T B' T' : Nat} {a b : World} (h : Within B T a b) (hB : B' ≤ B) (hT : T ≤ T') : Within B' T' a b :=
  ⟨h.os, h.tape, h.output, h.size, fun i hi hn => h.block i hi (fun hc => hn ⟨by omega, by omega⟩)⟩
theorem Within.below {B T : Nat} {w0 w w' : World} (h : Within B T w w') (hb : Below w0.heap.size w0 w) (hB : w0.heap.size ≤ B) : Below w0.heap.size w0 w' :=
  ⟨h.os.trans hb.os, h.tape.trans hb.tape, h.output.trans hb.output, Nat.le_trans hb.size h.size, fun k hk => (h.block k (Nat.lt_of_lt_of_le hk hb.size) (by omega)).trans (hb.block k hk)⟩

theorem Bs.form {w : World} {v : Value} {l : List Int} (h : Bs w v l) : ∃ a cap, v = .slice a l.length cap := by obtain ⟨_, a, cap, h, _⟩ := h; exact ⟨a, cap, h⟩

theorem Bs.form3 {w : World} {v : Value} {l : List Int} (h : Bs w v l) : ∃ a n cap, v = .slice a n cap := by obtain ⟨_, a, cap, h, _⟩ := h; exact ⟨a, _, cap, h⟩

theorem Bs.cap {w : World} {a : Option Addr} {n cap : Nat} {l : List Int} (h : Bs w (.slice a n cap) l) : l.length ≤ cap ∧ cap ≤ 9223372036854775807 := by
  obtain ⟨_, a', cap', hv, h1, h2, _⟩ := h
  simp only [Value.slice.injEq] at hv
  obtain ⟨-, -, rfl⟩ := hv
  exact ⟨h1, h2⟩

theorem box_other {w : World} {g k i : Nat} {o : Obj} {v : Value} (h : w.heap[g]? = some o) (hne : g ≠ k) : (w.setCell ⟨k, i, none⟩ v).heap[g]? = some o :=
  (Below.heap_setCell w ⟨k, i, none⟩ v g hne).trans h
theorem box_below {w w' : World} {g : Nat} {o : Obj} (hb : Below w.heap.size w w') (h : w.heap[g]? = some o) : w'.heap[g]? = some o := (hb.block g (lt_of_heap h)).trans h
theorem box_new (w : World) (o : Obj) : (w.alloc o).heap[w.heap.size]? = some o := heap_alloc_new w o
theorem box_alloc {w : World} {g : Nat} {o : Obj} (h : w.heap[g]? = some o) (o' : Obj) : (w.alloc o').heap[g]? = some o := (Below.heap_alloc w o' g (lt_of_heap h)).trans h
/-- Two blocks that were laid one behind the other. -/
theorem boxes2 (w : World) (o0 o1 : Obj) : ((w.alloc o0).alloc o1).heap[w.heap.size]? = some o0 ∧ ((w.alloc o0).alloc o1).heap[w.heap.size + 1]? = some o1 ∧ Below w.heap.size w ((w.alloc o0).alloc o1) :=
  ⟨box_alloc (box_new w o0) o1, by simpa using box_new (w.alloc o0) o1, ((Below.refl _ _).alloc (Nat.le_refl _) _).alloc (by simp) _⟩

/-- The value v reads as the log of the bytes a and b. -/
def LogV (w : World) (v : Value) (a b : List Int) : Prop := ∃ u0 u1, v = .agg #[u0, u1] ∧ Bs w u0 a ∧ Bs w u1 b
/-- A log of the call's own: its two slices lie in blocks from B on and below T, apart from each other. -/
def LogR (w : World) (B T : Nat) (v : Value) (a b : List Int) : Prop :=
  ∃ u0 u1 B0 T0 B1 T1, v = .agg #[u0, u1] ∧ Row w B0 T0 u0 a ∧ Row w B1 T1 u1 b ∧ B ≤ B0 ∧ T0 ≤ T ∧ B ≤ B1 ∧ T1 ≤ T ∧ (T0 ≤ B1 ∨ T1 ≤ B0)

theorem LogV.below {w w' : World} {v : Value} {a b : List Int} (h : LogV w v a b) (hb : Below w.heap.size w w') : LogV w' v a b :=
  let ⟨u0, u1, hv, h0, h1⟩ := h; ⟨u0, u1, hv, h0.below hb, h1.below hb⟩
theorem LogR.v {w : World} {B T : Nat} {v : Value} {a b : List Int} (h : LogR w B T v a b) : LogV w v a b :=
  let ⟨u0, u1, _, _, _, _, hv, h0, h1, _⟩ := h; ⟨u0, u1, hv, h0.bs, h1.bs⟩
theorem LogR.below {w w' : World} {B T : Nat} {v : Value} {a b : List Int} (h : LogR w B T v a b) (hb : Below w.heap.size w w') : LogR w' B T v a b :=
  let ⟨u0, u1, B0, T0, B1, T1, hv, h0, h1, r⟩ := h; ⟨u0, u1, B0, T0, B1, T1, hv, h0.below hb, h1.below hb, r⟩
theorem LogR.wide {w : World} {B T B' T' : Nat} {v : Value} {a b : List Int} (h : LogR w B T v a b) (hB : B' ≤ B) (hT : T ≤ T') : LogR w B' T' v a b :=
  let ⟨u0, u1, B0, T0, B1, T1, hv, h0, h1, r0, r1, r2, r3, r4⟩ := h; ⟨u0, u1, B0, T0, B1, T1, hv, h0, h1, by omega, by omega, by omega, by omega, r4⟩
theorem LogR.set {w : World} {g i B T : Nat} {v x : Value} {a b : List Int} (h : LogR w B T v a b) (hd : g < B ∨ T ≤ g) : LogR (w.setCell ⟨g, i, none⟩ x) B T v a b :=
  let ⟨u0, u1, B0, T0, B1, T1, hv, h0, h1, r0, r1, r2, r3, r4⟩ := h
  ⟨u0, u1, B0, T0, B1, T1, hv, h0.set (by omega), h1.set (by omega), r0, r1, r2, r3, r4⟩
theorem LogR.zero (w : World) (B T : Nat) (h : B ≤ T) : LogR w B T (.agg #[.slice none 0 0, .slice none 0 0]) [] [] :=
  ⟨_, _, B, B, B, T, rfl, Row.nil _ _ _, Row.nil _ _ _, Nat.le_refl _, h, Nat.le_refl _, Nat.le_refl _, .inl (Nat.le_refl _)⟩

end Go.Proofs.YtmonloebkdpahaaDoor

/- The bytes of a slice as a string. -/
namespace Go.Proofs.YtmonloebkdpahaaDoor
open Go.RowKit

theorem underlyingStr : Tryd.prog.underlying 9 = some .string := by kernel_rfl

/-- The bytes of a slice as a string. -/
theorem run_convert_bs {w : World} {v : Value} {l : List Int} (h : Bs w v l) : (convert 22 9 v).run Tryd.prog w = .ok (.string (strOfNums l)) w := by
  obtain ⟨ho, a, cap, rfl, h1, h2, h3, h4⟩ := h
  cases a with
  | none =>
    have hc := h3 rfl
    have : l = [] := List.eq_nil_of_length_eq_zero (by omega)
    subst this
    exact run_convert_bytes_nil w 22 5 Tryd.underlying22 Tryd.underlying5 _ _ 9 underlyingStr
  | some x =>
    by_cases h0 : l = []
    · subst h0
      rw [run_convert_bytes_string w 22 9 5 _ _ _ Tryd.underlying22 Tryd.underlying5 underlyingStr]
      exact run_bytesToString w x 0 cap [] (by simp [loadCells, loadCellsFrom])
    · obtain ⟨b, off, hx, _, hc⟩ := h4 (List.length_pos_iff.2 h0)
      cases hx
      exact run_convert_bytes_arg w 22 5 Tryd.underlying22 Tryd.underlying5 b off l.length cap l rfl hc 9 underlyingStr

end Go.Proofs.YtmonloebkdpahaaDoor

/- Strings put behind bytes of the call's own. -/
namespace Go.Proofs.YtmonloebkdpahaaDoor
open Go.RowKit

theorem strCells_nums {s : List Int} (h : Oct s) : Lib.strCells (strOfNums s) = vals s := by
  unfold Lib.strCells vals
  rw [strOfNums_data, List.map_map]
  refine List.map_congr_left fun x hx => ?_
  have := h x hx
  simp only [Function.comp]
  rw [UInt8.toNat_ofNat']
  congr 1
  omega

theorem wpList_append_str {P : Program} {w : World} {ops : Array Oper} {rest : List Oper} {o : Oper} {a : Act} {Q : Exit → Act → World → Prop} (hgd : o.guard = none) (s x : Operand) (t u : TypeId)
    (ho : o.op = .call { callee := .builtin .append, args := #[s, x], argTypes := #[t, u] })
    (i : TypeInfo) (ht : P.underlying t = some (.slice 5)) (hu : P.underlying u = some .string) (hi : P.info? 5 = some i) (hz : i.zero = some (.int .u8 0)) (hsize : i.size = 1) (hby : i.bytes = 1)
    (B : Nat) (v : Value) (l : List Int) (hs : a.eval s = v) (hown : OwnB w B v l) (m : List Int) (hx : a.eval x = .string (strOfNums m)) (hm : Oct m)
    (hlen : l.length + m.length ≤ 140737488355328) (hbase : B ≤ w.heap.size) (w0 : World) (hb : Below B w0 w)
    (h : ∀ v' w', OwnB w' B v' (l ++ m) → Below B w0 w' → w.grownBy w' v.ownBlock → wpList P ops Q rest (a.put o.dst v') w') : wpList P ops Q (o :: rest) a w := by
  have hr := hown.row
  have hl : l.length + (strOfNums m).size ≤ maxLen := by rw [strOfNums_size]; unfold maxLen; omega
  refine Lib.wpList_append_own_string (w := w) hgd s x t u ho B 5 i ht hu hi hz hsize hby v l.length (vals l) hs hr (strOfNums m) hx hl (by rw [strOfNums_size]; exact hlen) hbase ?_
  intro v' w' hown' hg _
  rw [strOfNums_size, strCells_nums hm] at hown'
  obtain ⟨g, hgB, hg'⟩ := own_of_row (n := l.length + m.length) (oct_append hown.oct hm) (by simp) (by rw [vals_append]; exact hown')
  exact h v' w' ⟨g, hgB, hg'⟩ (hb.grown hg hbase (fun k hk => (hr.lt k hk).1)) hg

end Go.Proofs.YtmonloebkdpahaaDoor

/- Rows of bytes of the call's own that may have been made of a string: a mark lies behind their last cell. -/
namespace Go.Proofs.YtmonloebkdpahaaDoor
open Go.RowKit
set_option linter.unusedVariables false

/-- The slice value v lies at the head of block g, whose first cells are the bytes l; what is marked in the block lies behind its cells, or there is none. -/
def OwnQ (w : World) (g : Nat) (v : Value) (l : List Int) : Prop :=
  Oct l ∧ ∃ cap cur fz, v = .slice (some ⟨g, 0, none⟩) l.length cap ∧ w.heap[g]? = some (.cells cur 5 fz) ∧ (fz.2 = 0 ∨ cap ≤ fz.1) ∧ l.length ≤ cap ∧ cap ≤ maxLen ∧ cur.size = cap ∧ cur.toList.take l.length = vals l

theorem OwnQ.oct {w : World} {g : Nat} {v : Value} {l : List Int} (h : OwnQ w g v l) : Oct l := h.1
theorem OwnQ.lt {w : World} {g : Nat} {v : Value} {l : List Int} (h : OwnQ w g v l) : g < w.heap.size := by
  obtain ⟨_, cap, cur, fz, _, hh, _⟩ := h
  exact lt_of_heap hh
theorem OwnQ.form {w : World} {g : Nat} {v : Value} {l : List Int} (h : OwnQ w g v l) : ∃ cap, v = .slice (some ⟨g, 0, none⟩) l.length cap := by
  obtain ⟨_, cap, _, _, hv, _⟩ := h
  exact ⟨cap, hv⟩
theorem OwnQ.holds {w : World} {g : Nat} {v : Value} {l : List Int} (h : OwnQ w g v l) : ∀ j u, (vals l)[j]? = some u → w.cell? ⟨g, j, none⟩ = some u := by
  obtain ⟨_, cap, cur, fz, _, hh, _, _, _, _, ht⟩ := h
  intro j u hu
  rw [cell_of_row w g j cur _ fz hh]
  rw [← ht, List.getElem?_take] at hu
  split at hu
  · simpa using hu
  · cases hu
theorem OwnQ.bs {w : World} {g : Nat} {v : Value} {l : List Int} (h : OwnQ w g v l) : Bs w v l := by
  have hl := h.lt
  have hc := h.holds
  obtain ⟨ho, cap, cur, fz, hv, hh, _, h1, h2, _⟩ := h
  refine ⟨ho, some ⟨g, 0, none⟩, cap, hv, h1, h2, (fun h => by cases h), fun _ => ⟨g, 0, rfl, hl, fun i hi => ?_⟩⟩
  rw [Nat.zero_add]
  exact hc i _ (vals_get l i hi)
/-- The row stays where its block does. -/
theorem OwnQ.frame {w w' : World} {g : Nat} {v : Value} {l : List Int} (h : OwnQ w g v l) (hw : w'.heap[g]? = w.heap[g]?) : OwnQ w' g v l := by
  obtain ⟨ho, cap, cur, fz, hv, hh, r⟩ := h
  exact ⟨ho, cap, cur, fz, hv, hw.trans hh, r⟩
theorem OwnQ.below {w w' : World} {g : Nat} {v : Value} {l : List Int} (h : OwnQ w g v l) (hb : Below w.heap.size w w') : OwnQ w' g v l := h.frame (hb.block g h.lt)
/-- Bytes that lie in another block than g stay. -/
theorem Bs.grown {w w' : World} {g : Nat} {v : Value} {l : List Int} (h : Bs w v l) (hg : w.grownBy w' (some g)) (hn : v.ownBlock ≠ some g) : Bs w' v l := by
  obtain ⟨ho, a, cap, hv, h1, h2, h3, h4⟩ := h
  refine ⟨ho, a, cap, hv, h1, h2, h3, fun hp => ?_⟩
  obtain ⟨b, off, rfl, hb, hc⟩ := h4 hp
  have hne : some b ≠ some g := by rw [hv] at hn; simpa [Value.ownBlock] using hn
  refine ⟨b, off, rfl, Nat.lt_of_lt_of_le hb hg.size, fun i hi => ?_⟩
  rw [World.cell?_of_block (hg.block b hb hne)]
  exact hc i hi

theorem storeQ (P : Program) (g o : Nat) (t : TypeId) (fz : Nat × Nat) : ∀ (vs : List Value) (i : Nat) (cur : Array Value) (w : World), w.heap[g]? = some (.cells cur t fz) → (fz.2 = 0 ∨ o + i + vs.length ≤ fz.1) → o + i + vs.length ≤ cur.size → (∀ v ∈ vs, v.oneCell' = true) →
    (storeCells ⟨g, o, none⟩ vs i).run P w = .ok () (w.setRow g (cur.toList.take (o + i) ++ vs ++ cur.toList.drop (o + i + vs.length)).toArray) := by
  intro vs
  induction vs with
  | nil =>
    intro i cur w hg _ _ _
    have e : cur.toList.take (o + i) ++ [] ++ cur.toList.drop (o + i + 0) = cur.toList := by simp
    show (storeCells ⟨g, o, none⟩ [] i).run P w = _
    simp only [List.length_nil, e, Array.toArray_toList, storeCells]
    rw [setRow_self w g cur t fz hg]
    rfl
  | cons v rest ih =>
    intro i cur w hg hfz hl h1
    simp only [List.length_cons] at hfz hl
    have hc : w.cell? ⟨g, o + i, none⟩ = some (cur[o + i]'(by omega)) := by rw [cell_of_row w g (o + i) cur t fz hg]; simp [show o + i < cur.size by omega]
    have hf : w.frozen? ⟨g, o + i, none⟩ = false := by
      simp only [World.frozen?, hg, Bool.and_eq_false_iff, decide_eq_false_iff_not]
      rcases hfz with h | h
      · right; omega
      · left; omega
    have hs : (store ((⟨g, o, none⟩ : Addr).add i) v).run P w = .ok () (w.setRow g (cur.setIfInBounds (o + i) v)) := by
      rw [Addr.add_lit, run_store P w _ v _ (h1 v (by simp)), hc]
      simp [hf, setCell_eq_setRow w g (o + i) cur t fz v hg]
    have hr := ih (i + 1) (cur.setIfInBounds (o + i) v) (w.setRow g (cur.setIfInBounds (o + i) v)) (setRow_heap w g cur _ t _ hg) (by omega) (by simp; omega) (fun x hx => h1 x (by simp [hx]))
    simp only [storeCells, Sem.run_bind, hs, Result.andThen_ok, hr, setRow_setRow]
    congr 3
    have e := list_seg_step cur.toList (o + i) v rest (by simp; omega)
    simpa [Array.toList_setIfInBounds, Nat.add_assoc] using e

/-- What append does behind such a row. -/
theorem run_appendQ {P : Program} (w : World) (t ty : TypeId) (i : TypeInfo) (ht : P.underlying t = some (.slice 5)) (hi : P.info? 5 = some i) (hz : i.zero = some (.int .u8 0)) (hsize : i.size = 1) (hby : i.bytes = 1)
    (g : Nat) (v : Value) (l : List Int) (hown : OwnQ w g v l) (u : Value) (m : List Int) (hm : Bs w u m) (hlen : l.length + m.length ≤ 140737488355328) :
    ∃ v' w' g', (Builtin.append_ #[t, t] ty #[v, u]).run P w = .ok v' w' ∧ OwnQ w' g' v' (l ++ m) ∧ w.grownBy w' (some g) ∧ (g' = g ∨ w.heap.size ≤ g') := by
  have hold := hown.holds
  obtain ⟨ho, cap, cur, fz, rfl, hh, hfz, h1, h2, h3, h4⟩ := hown
  obtain ⟨hmo, ad, c, rfl, k1, k2, k3, k4⟩ := hm
  have hlm : (l ++ m).length = l.length + m.length := by simp
  cases ad with
  | none =>
    have : c = 0 := k3 rfl
    subst this
    have hm0 : m = [] := List.eq_nil_of_length_eq_zero (by omega)
    subst hm0
    refine ⟨.slice (some ⟨g, 0, none⟩) l.length cap, w, g, ?_, ⟨by simpa using ho, cap, cur, fz, by simp, hh, hfz, by simpa using h1, h2, h3, by simpa using h4⟩, World.grownBy.refl _ _, .inl rfl⟩
    simp [Builtin.append_, run_underlying ht, sizeOf, typeInfo, hi, Builtin.lenOf, Builtin.firstCells, h1, storeCells]
  | some ad =>
    have hnews : ∀ j u, (vals m)[j]? = some u → w.cell? (ad.add j) = some u := by
      intro j y hy
      have hj : j < m.length := by have := (List.getElem?_eq_some_iff.1 hy).1; simpa [length_vals] using this
      obtain ⟨b, off, had, _, hc⟩ := k4 (by omega)
      cases had
      rw [Addr.add_lit, hc j hj, ← hy, vals_get m j hj]
    by_cases hroom : l.length + m.length ≤ cap
    · have hf := run_firstCells_some (P := P) w i.size m.length ad m.length c (vals m) (by rw [hsize, length_vals, Nat.mul_one]) hnews
      have hst := storeQ P g (l.length * i.size) 5 fz (vals m) 0 cur w hh (by rw [hsize, length_vals]; rcases hfz with h | h <;> omega) (by rw [hsize, length_vals]; omega) (oneCell_vals m)
      rw [hsize] at hf hst
      simp only [Nat.add_zero, Nat.mul_one, length_vals] at hst hf
      refine ⟨.slice (some ⟨g, 0, none⟩) (l.length + m.length) cap, w.setRow g (cur.toList.take l.length ++ vals m ++ cur.toList.drop (l.length + m.length)).toArray, g, ?_, ⟨oct_append ho hmo, cap, _, fz, by rw [hlm], setRow_heap w g cur _ _ _ hh, hfz, by rw [hlm]; exact hroom, h2, ?_, ?_⟩, ⟨rfl, rfl, rfl, by simp, fun k _ hk => setRow_other w g k _ (fun e => hk (by rw [e]))⟩, .inl rfl⟩
      · simp [Builtin.append_, run_underlying ht, sizeOf, typeInfo, hi, hsize, Builtin.lenOf, hroom, hf, Addr.add_lit, hst]
      · simp only [List.size_toArray, List.length_append, List.length_take, List.length_drop, Array.length_toList, length_vals]; omega
      · have hv : (vals l ++ vals m).length = (l ++ m).length := by simp [length_vals]
        show ((cur.toList.take l.length ++ vals m ++ cur.toList.drop (l.length + m.length)).take (l ++ m).length) = _
        rw [h4, vals_append, ← hv]
        exact List.take_left
    · have hr := run_append_grow (P := P) w t ty 5 i (.int .u8 0) ht hi hz ⟨g, 0, none⟩ l.length cap (vals l) (by rw [hsize, length_vals, Nat.mul_one]) (fun j u hu => by rw [Addr.add_lit, Nat.zero_add]; exact hold j u hu) ad m.length c (vals m) (by rw [hsize, length_vals, Nat.mul_one]) hnews (by omega) (by omega) (by rw [hby]; exact growslice_fits (by omega) (by omega))
      have hge := grownCap_ge w (l.length + m.length) cap 5
      have hcm : grownCap w (l.length + m.length) cap 5 ≤ maxLen := grownCap_le_maxLen w (l.length + m.length) cap _ (by unfold maxLen; omega)
      refine ⟨_, _, w.heap.size, hr, ⟨oct_append ho hmo, _, _, (0, 0), by rw [hlm], heap_alloc_new w.drew _, .inl rfl, by rw [hlm]; exact hge, hcm, ?_, ?_⟩, ⟨rfl, rfl, rfl, by simp, fun k hk _ => Below.heap_alloc w.drew _ k hk⟩, .inr (Nat.le_refl _)⟩
      · have hz1 : (Value.int IntKind.u8 0).cells.size = 1 := rfl
        simp only [Array.size_append, List.size_toArray, size_zeroCells, hz1, length_vals]
        omega
      · have hv : (vals l ++ vals m).length = (l ++ m).length := by simp [length_vals]
        simp only [Array.toList_append, List.append_assoc]
        rw [← List.append_assoc, vals_append, ← hv]
        exact List.take_left

theorem wpList_appendQ {P : Program} {w : World} {ops : Array Oper} {rest : List Oper} {o : Oper} {a : Act} {Q : Exit → Act → World → Prop} (hgd : o.guard = none) (s x : Operand) (t : TypeId)
    (ho : o.op = .call { callee := .builtin .append, args := #[s, x], argTypes := #[t, t] })
    (i : TypeInfo) (ht : P.underlying t = some (.slice 5)) (hi : P.info? 5 = some i) (hz : i.zero = some (.int .u8 0)) (hsize : i.size = 1) (hby : i.bytes = 1)
    (g : Nat) (v : Value) (l : List Int) (hs : a.eval s = v) (hown : OwnQ w g v l) (u : Value) (m : List Int) (hx : a.eval x = u) (hm : Bs w u m) (hlen : l.length + m.length ≤ 140737488355328)
    (h : ∀ v' w' g', OwnQ w' g' v' (l ++ m) → w.grownBy w' (some g) → (g' = g ∨ w.heap.size ≤ g') → wpList P ops Q rest (a.put o.dst v') w') : wpList P ops Q (o :: rest) a w := by
  refine wpList_plain hgd fun K hK => ?_
  obtain ⟨v', w', g', hr, h2, h3, h4⟩ := run_appendQ (P := P) w t o.type i ht hi hz hsize hby g v l hown u m hm hlen
  unfold Oper.wp execOp
  simp only [ho, resolve, invoke, builtin, Sem.run_bind, Sem.run_pure, Result.andThen_ok, List.map_toArray, List.map_cons, List.map_nil, hs, hx, hr]
  exact hK _ _ (h v' w' g' h2 h3 h4)

/-- What '[]byte(s)' answers. -/
theorem bytesWorldQ (w : World) (s : List Int) (hs : Oct s) (hl : s.length ≤ 1000000) :
    OwnQ (Lib.bytesWorld w 5 (strOfNums s)) w.heap.size (.slice (some ⟨w.heap.size, 0, none⟩) s.length (grownCap w s.length 0 5)) s ∧ Below w.heap.size w (Lib.bytesWorld w 5 (strOfNums s)) := by
  have hge := grownCap_ge w s.length 0 5
  have hcm : grownCap w s.length 0 5 ≤ maxLen := grownCap_le_maxLen w s.length 0 _ (by unfold maxLen; omega)
  have hsz := strOfNums_size s
  have hcs : (Lib.bytesCells w 5 (strOfNums s)).size = grownCap w s.length 0 5 := by
    have : (strOfNums s).data.size = s.length := hsz
    simp only [Lib.bytesCells, Array.size_append, Array.size_map, Array.size_replicate, this, hsz]
    omega
  refine ⟨⟨hs, _, _, _, rfl, Lib.bytesWorld_at_new w _ _, .inr (Nat.le_of_eq hcs.symm), hge, hcm, hcs, ?_⟩, rfl, rfl, rfl, by rw [Lib.bytesWorld_size]; omega, fun k hk => Lib.bytesWorld_at_old w _ _ k hk⟩
  have e : ((strOfNums s).data.map fun b => Value.int .u8 b.toNat).toList = vals s := (by rw [Array.toList_map]; exact strCells_nums hs)
  have hv : (vals s).length = s.length := length_vals s
  simp only [Lib.bytesCells, Array.toList_append]
  rw [e, ← hv]
  exact List.take_left

end Go.Proofs.YtmonloebkdpahaaDoor
