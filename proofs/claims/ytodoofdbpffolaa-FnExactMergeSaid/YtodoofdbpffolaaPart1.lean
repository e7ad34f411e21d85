/- The proof's texts, part 1. -/
import Derived.Shelf.Small.Bits
import Derived.Shelf.Strconv.Itoa0
import Derived.Ground.SlgcProg
import Derived.Shelf.SlicesG.Cmp
import Derived.Shelf.SlSortCmp.SmallK
import Derived.Shelf.SlGeneric
import Derived.Ground.SlsfProg
import Derived.Test.YtodoofdbpffolaaProg
import Derived.WalkKit
import Derived.WalkSpells
import Derived.WalkLawsBesides
import Derived.Laws.AppendOwnNone
import Derived.Laws.CopyOwn
import Derived.Test.YtodoofdbpffolaaRows
import Derived.Deep.QuietTactic
import Derived.BigQuiet

/-
  DERIVED: THE SHELF's CONTRACTS AT THIS DUMP, IN PLAIN WORDS (tools/lay-plain.mjs out of 'TryShelf.lean', which tools/lay-shelf.mjs wrote): THE SAME DECLARATIONS UNDER THE SAME NAMES: 'import', 'namespace', 'open', 'def', 'theorem' AND NOTHING ELSE: no command of the shelf's: FOR A HAND-IN. Each laying: the table of numbers ('.._ren') and one theorem, a field a fact of the dump's own or the kernel's comparison; each contract: ONE APPLICATION.
-/
namespace Go.Proofs
open Go.Shelf
def Try.lays128_ren : Go.Shelf.Ren := ⟨fun | 128 => 75 | n => n, fun | 51 => 102 | 3 => 3 | 4 => 4 | 46 => 90 | 5 => 5 | 9 => 9 | n => n, fun | n => n⟩
theorem Try.lays128 : Go.Proofs.Lays.n128 Try.prog Try.lays128_ren := {
  mixed := by kernel_rfl
  f128 := Try.func75.trans (congrArg some (by kernel_rfl))
  t3 := Try.underlying3
  a3 := Try.isAgg3
  z3 := Try.sizeOf3
  v3 := Try.zeroValue3
  t4 := Try.underlying4
  a4 := Try.isAgg4
  z4 := Try.sizeOf4
  v4 := Try.zeroValue4
  t5 := Try.underlying5
  a5 := Try.isAgg5
  z5 := Try.sizeOf5
  v5 := Try.zeroValue5
  t9 := Try.underlying9
  a9 := Try.isAgg9
  z9 := Try.sizeOf9
  v9 := Try.zeroValue9
  t46 := Try.underlying90
  a46 := Try.isAgg90
  z46 := Try.sizeOf90
  v46 := Try.zeroValue90
  t51 := Try.underlying102
  a51 := Try.isAgg102
  z51 := Try.sizeOf102
  v51 := Try.zeroValue102 }
/-- bits.Len32: "Len32 returns the minimum number of bits required to represent x; the result is 0 for x == 0.": IT RETURNS 'Lib.bitLen x'; the world is as it was. ('h0', 'h1': x is a uint32.) (LAID: no walk: one application.) -/
theorem Try.bits_Len32 (x : Int) (w : World) (h0 : 0 ≤ x) (h1 : x ≤ 4294967295) :
    Calls Try.prog 75 #[.int .u32 x] w fun e w' => e = .returned (.int .i64 (Lib.bitLen x.toNat)) ∧ w' = w := Any.bits_Len32 Try.lays128 x w h0 h1
def Try.lays125_ren : Go.Shelf.Ren := ⟨fun | 125 => 64 | 128 => 75 | 129 => 76 | n => n, fun | 46 => 90 | 3 => 3 | 51 => 102 | 53 => 104 | 4 => 4 | 5 => 5 | 9 => 9 | n => n, fun | n => n⟩
theorem Try.lays125 : Go.Proofs.Lays.n125 Try.prog Try.lays125_ren := {
  mixed := by kernel_rfl
  f125 := Try.func64.trans (congrArg some (by kernel_rfl))
  f128 := Try.func75.trans (congrArg some (by kernel_rfl))
  f129 := Try.func76.trans (congrArg some (by kernel_rfl))
  t3 := Try.underlying3
  a3 := Try.isAgg3
  z3 := Try.sizeOf3
  v3 := Try.zeroValue3
  t4 := Try.underlying4
  a4 := Try.isAgg4
  z4 := Try.sizeOf4
  v4 := Try.zeroValue4
  t5 := Try.underlying5
  a5 := Try.isAgg5
  z5 := Try.sizeOf5
  v5 := Try.zeroValue5
  t9 := Try.underlying9
  a9 := Try.isAgg9
  z9 := Try.sizeOf9
  v9 := Try.zeroValue9
  t46 := Try.underlying90
  a46 := Try.isAgg90
  z46 := Try.sizeOf90
  v46 := Try.zeroValue90
  t51 := Try.underlying102
  a51 := Try.isAgg102
  z51 := Try.sizeOf102
  v51 := Try.zeroValue102
  t53 := Try.underlying104
  a53 := Try.isAgg104
  z53 := Try.sizeOf104
  v53 := Try.zeroValue104 }
/-- bits.Len: "Len returns the minimum number of bits required to represent x; the result is 0 for x == 0.": IT RETURNS 'Lib.bitLen x'; the world is as it was. (A uint has 64 bits in the model.) ITS CALLEE bits.Len64 IS MET BY ITS OWN CONTRACT OFF THE SHELF (lay that first). (LAID: no walk: one application.) -/
theorem Try.bits_Len (x : Int) (w : World) (h0 : 0 ≤ x) (h1 : x ≤ 18446744073709551615) :
    Calls Try.prog 64 #[.int .u64 x] w fun e w' => e = .returned (.int .i64 (Lib.bitLen x.toNat)) ∧ w' = w := Any.bits_Len Try.lays125 x w h0 h1
def Try.lays129_ren : Go.Shelf.Ren := ⟨fun | 129 => 76 | n => n, fun | 53 => 104 | 3 => 3 | 4 => 4 | 46 => 90 | 5 => 5 | 9 => 9 | n => n, fun | n => n⟩
theorem Try.lays129 : Go.Proofs.Lays.n129 Try.prog Try.lays129_ren := {
  mixed := by kernel_rfl
  f129 := Try.func76.trans (congrArg some (by kernel_rfl))
  t3 := Try.underlying3
  a3 := Try.isAgg3
  z3 := Try.sizeOf3
  v3 := Try.zeroValue3
  t4 := Try.underlying4
  a4 := Try.isAgg4
  z4 := Try.sizeOf4
  v4 := Try.zeroValue4
  t5 := Try.underlying5
  a5 := Try.isAgg5
  z5 := Try.sizeOf5
  v5 := Try.zeroValue5
  t9 := Try.underlying9
  a9 := Try.isAgg9
  z9 := Try.sizeOf9
  v9 := Try.zeroValue9
  t46 := Try.underlying90
  a46 := Try.isAgg90
  z46 := Try.sizeOf90
  v46 := Try.zeroValue90
  t53 := Try.underlying104
  a53 := Try.isAgg104
  z53 := Try.sizeOf104
  v53 := Try.zeroValue104 }
/-- bits.Len64: "Len64 returns the minimum number of bits required to represent x; the result is 0 for x == 0.": IT RETURNS 'Lib.bitLen x'; the world is as it was. ('h0', 'h1': x is a uint64.) (LAID: no walk: one application.) -/
theorem Try.bits_Len64 (x : Int) (w : World) (h0 : 0 ≤ x) (h1 : x ≤ 18446744073709551615) :
    Calls Try.prog 76 #[.int .u64 x] w fun e w' => e = .returned (.int .i64 (Lib.bitLen x.toNat)) ∧ w' = w := Any.bits_Len64 Try.lays129 x w h0 h1
def Try.laysSlC27_f65_ren : Go.Shelf.Ren := ⟨fun | 7 => 65 | n => n, fun | 22 => 3 | 4 => 4 | n => n, fun | n => n⟩
theorem Try.laysSlC27_f65 : Go.Proofs.SlLaysC2.n7 Try.prog Try.laysSlC27_f65_ren := {
  mixed := by kernel_rfl
  f7 := ⟨Try.f65.name, by decide, Try.func65.trans (congrArg some (by kernel_rfl))⟩
  t4 := Try.underlying4
  a4 := Try.isAgg4
  z4 := Try.sizeOf4
  v4 := Try.zeroValue4
  t22 := Try.underlying3
  a22 := Try.isAgg3
  z22 := Try.sizeOf3
  v22 := Try.zeroValue3 }
open Go.Lib in
/-- cmp.isNaN at an int under a name: 'x != x': false. (LAID AT THE INSTANCE 'cmp.isNaN[int]': no walk: one application.) -/
theorem Try.cmp_isNaN_int (x : Int) (w : World) :
    Calls Try.prog 65 #[.int .i64 x] w fun e w' => e = .returned (.bool false) ∧ w' = w := AnyG.cmp_isNaN_int Try.laysSlC27_f65 x w
def Try.laysSlC25_f58_ren : Go.Shelf.Ren := ⟨fun | 5 => 58 | 7 => 65 | n => n, fun | 22 => 3 | 3 => 3 | 4 => 4 | n => n, fun | n => n⟩
theorem Try.laysSlC25_f58 : Go.Proofs.SlLaysC2.n5 Try.prog Try.laysSlC25_f58_ren := {
  mixed := by kernel_rfl
  f5 := ⟨Try.f58.name, by decide, Try.func58.trans (congrArg some (by kernel_rfl))⟩
  f7 := ⟨Try.f65.name, by decide, Try.func65.trans (congrArg some (by kernel_rfl))⟩
  t3 := Try.underlying3
  a3 := Try.isAgg3
  z3 := Try.sizeOf3
  v3 := Try.zeroValue3
  t4 := Try.underlying4
  a4 := Try.isAgg4
  z4 := Try.sizeOf4
  v4 := Try.zeroValue4
  t22 := Try.underlying3
  a22 := Try.isAgg3
  z22 := Try.sizeOf3
  v22 := Try.zeroValue3 }
open Go.Lib in
/-- cmp.Compare at an int under a name: "Compare returns -1 if x is less than y, 0 if x equals y, +1 if x is greater than y.": IT RETURNS 'Lib.compareInt x y'; the world is as it was. (LAID AT THE INSTANCE 'cmp.Compare[int]': no walk: one application.) -/
theorem Try.cmp_Compare_int (x y : Int) (w : World) :
    Calls Try.prog 58 #[.int .i64 x, .int .i64 y] w fun e w' => e = .returned (.int .i64 (Lib.compareInt x y)) ∧ w' = w := AnyG.cmp_Compare_int Try.laysSlC25_f58 x y w
def Try.sortKeys_ren : Go.Shelf.Ren := ⟨fun | 6 => 56 | 15 => 64 | 14 => 63 | 28 => 75 | 29 => 76 | 20 => 67 | 21 => 68 | 22 => 69 | 23 => 70 | 24 => 71 | 25 => 72 | 26 => 73 | 27 => 74 | 46 => 77 | 47 => 78 | 48 => 79 | 49 => 80 | 50 => 81 | 57 => 82 | n => n, fun | 22 => 71 | 24 => 55 | 25 => 83 | 3 => 3 | 39 => 90 | 0 => 0 | 53 => 102 | 55 => 104 | 4 => 4 | 46 => 95 | 45 => 94 | 50 => 99 | 5 => 5 | 9 => 9 | 66 => 105 | 70 => 109 | 76 => 111 | 77 => 112 | n => n, fun | n => n⟩
theorem Try.sortKeys : Go.Proofs.SlLaysF0.n6 Try.prog Try.sortKeys_ren := {
  mixed := by kernel_rfl
  f6 := ⟨Try.f56.name, by decide, Try.func56.trans (congrArg some (by kernel_rfl))⟩
  f14 := ⟨Try.f63.name, by decide, Try.func63.trans (congrArg some (by kernel_rfl))⟩
  f15 := Try.func64.trans (congrArg some (by kernel_rfl))
  f20 := ⟨Try.f67.name, by decide, Try.func67.trans (congrArg some (by kernel_rfl))⟩
  f21 := ⟨Try.f68.name, by decide, Try.func68.trans (congrArg some (by kernel_rfl))⟩
  f22 := ⟨Try.f69.name, by decide, Try.func69.trans (congrArg some (by kernel_rfl))⟩
  f23 := ⟨Try.f70.name, by decide, Try.func70.trans (congrArg some (by kernel_rfl))⟩
  f24 := ⟨Try.f71.name, by decide, Try.func71.trans (congrArg some (by kernel_rfl))⟩
  f25 := ⟨Try.f72.name, by decide, Try.func72.trans (congrArg some (by kernel_rfl))⟩
  f26 := ⟨Try.f73.name, by decide, Try.func73.trans (congrArg some (by kernel_rfl))⟩
  f27 := ⟨Try.f74.name, by decide, Try.func74.trans (congrArg some (by kernel_rfl))⟩
  f28 := Try.func75.trans (congrArg some (by kernel_rfl))
  f29 := Try.func76.trans (congrArg some (by kernel_rfl))
  f46 := ⟨Try.f77.name, by decide, Try.func77.trans (congrArg some (by kernel_rfl))⟩
  f47 := Try.func78.trans (congrArg some (by kernel_rfl))
  f48 := Try.func79.trans (congrArg some (by kernel_rfl))
  f49 := ⟨Try.f80.name, by decide, Try.func80.trans (congrArg some (by kernel_rfl))⟩
  f50 := ⟨Try.f81.name, by decide, Try.func81.trans (congrArg some (by kernel_rfl))⟩
  f57 := ⟨Try.f82.name, by decide, Try.func82.trans (congrArg some (by kernel_rfl))⟩
  t0 := Try.underlying0
  a0 := Try.isAgg0
  z0 := Try.sizeOf0
  v0 := Try.zeroValue0
  t3 := Try.underlying3
  a3 := Try.isAgg3
  z3 := Try.sizeOf3
  v3 := Try.zeroValue3
  t4 := Try.underlying4
  a4 := Try.isAgg4
  z4 := Try.sizeOf4
  v4 := Try.zeroValue4
  t5 := Try.underlying5
  a5 := Try.isAgg5
  z5 := Try.sizeOf5
  v5 := Try.zeroValue5
  t9 := Try.underlying9
  a9 := Try.isAgg9
  z9 := Try.sizeOf9
  v9 := Try.zeroValue9
  t22 := Try.underlying71
  a22 := Try.isAgg71
  z22 := Try.sizeOf71
  v22 := Try.zeroValue71
  t25 := Try.underlying83
  a25 := Try.isAgg83
  z25 := Try.sizeOf83
  v25 := Try.zeroValue83
  t39 := Try.underlying90
  a39 := Try.isAgg90
  z39 := Try.sizeOf90
  v39 := Try.zeroValue90
  t45 := Try.underlying94
  a45 := Try.isAgg94
  z45 := Try.sizeOf94
  v45 := Try.zeroValue94
  t46 := Try.underlying95
  a46 := Try.isAgg95
  z46 := Try.sizeOf95
  v46 := Try.zeroValue95
  t50 := Try.underlying99
  a50 := Try.isAgg99
  z50 := Try.sizeOf99
  v50 := Try.zeroValue99
  t53 := Try.underlying102
  a53 := Try.isAgg102
  z53 := Try.sizeOf102
  v53 := Try.zeroValue102
  t55 := Try.underlying104
  a55 := Try.isAgg104
  z55 := Try.sizeOf104
  v55 := Try.zeroValue104
  t66 := Try.underlying105
  a66 := Try.isAgg105
  z66 := Try.sizeOf105
  v66 := Try.zeroValue105
  t70 := Try.underlying109
  a70 := Try.isAgg109
  z70 := Try.sizeOf109
  v70 := Try.zeroValue109
  t76 := Try.underlying111
  a76 := Try.isAgg111
  z76 := Try.sizeOf111
  v76 := Try.zeroValue111
  t77 := Try.underlying112
  a77 := Try.isAgg112
  z77 := Try.sizeOf112
  v77 := Try.zeroValue112 }
end Go.Proofs

/- Plain facts on bytes in memory: what a slice reads as, what a call owns; no program is named here. -/
namespace Go.Proofs.Ytodoofdbpffolaa
open Go.RowKit

/-- Every number of the list is a byte. -/
def Oct (l : List Int) : Prop := ∀ x ∈ l, 0 ≤ x ∧ x ≤ 255
/-- The cells of a list of bytes. -/
def vals (l : List Int) : List Value := l.map (Value.int .u8)

theorem length_vals (l : List Int) : (vals l).length = l.length := by simp [vals]
theorem vals_append (a b : List Int) : vals (a ++ b) = vals a ++ vals b := by simp [vals]
theorem vals_get (l : List Int) (i : Nat) (h : i < l.length) : (vals l)[i]? = some (.int .u8 (l.getD i 0)) := by
  simp [vals, h]
theorem oct_nil : Oct [] := by intro x hx; simp at hx
theorem oct_append {a b : List Int} (ha : Oct a) (hb : Oct b) : Oct (a ++ b) := by
  intro x hx
  rcases List.mem_append.1 hx with h | h
  · exact ha x h
  · exact hb x h
theorem oct_get {l : List Int} (h : Oct l) (i : Nat) : 0 ≤ l.getD i 0 ∧ l.getD i 0 ≤ 255 := by
  by_cases hi : i < l.length
  · have : l.getD i 0 = l[i] := by simp [hi]
    rw [this]; exact h _ (List.getElem_mem hi)
  · have : l.getD i 0 = 0 := by simp [Nat.not_lt.1 hi]
    rw [this]; omega
theorem oct_take {l : List Int} (h : Oct l) (k : Nat) : Oct (l.take k) := fun x hx => h x (List.mem_of_mem_take hx)
theorem oct_drop {l : List Int} (h : Oct l) (k : Nat) : Oct (l.drop k) := fun x hx => h x (List.mem_of_mem_drop hx)
theorem oneCell_vals (l : List Int) : ∀ u ∈ vals l, u.oneCell' = true := ints_oneCell .u8 l

/-- The slice value v reads in the world w as the bytes l. -/
def Bs (w : World) (v : Value) (l : List Int) : Prop :=
  Oct l ∧ ∃ a cap, v = .slice a l.length cap ∧ l.length ≤ cap ∧ cap ≤ maxLen ∧ (a = none → cap = 0) ∧
    (0 < l.length → ∃ b off, a = some ⟨b, off, none⟩ ∧ b < w.heap.size ∧ ∀ i, i < l.length → w.cell? ⟨b, off + i, none⟩ = some (.int .u8 (l.getD i 0)))

/-- The slice value v is nil, or it lies at the head of block g, whose first cells are the bytes l; nobody else need be asked ahead of a store there. -/
def Own (w : World) (g : Nat) (v : Value) (l : List Int) : Prop :=
  Oct l ∧ ((v = .slice none 0 0 ∧ l = []) ∨
    ∃ cap cur, v = .slice (some ⟨g, 0, none⟩) l.length cap ∧ w.heap[g]? = some (.cells cur 5 (0, 0)) ∧ l.length ≤ cap ∧ cap ≤ maxLen ∧ cur.size = cap ∧ cur.toList.take l.length = vals l)

theorem Own.row {w : World} {g : Nat} {v : Value} {l : List Int} (h : Own w g v l) : w.ownsRow g 5 1 v l.length (vals l) := by
  refine ⟨by simp [length_vals], ?_⟩
  rcases h.2 with ⟨hv, hl⟩ | ⟨cap, cur, hv, hh, h1, h2, h3, h4⟩
  · exact .inl ⟨hv, by simp [hl]⟩
  · exact .inr ⟨g, cap, cur, hv, Nat.le_refl _, hh, h1, h2, by simpa using h3, by simpa using h4⟩

theorem lt_of_heap {w : World} {g : Nat} {o : Obj} (h : w.heap[g]? = some o) : g < w.heap.size := (Array.getElem?_eq_some_iff.1 h).1

theorem Own.bs {w : World} {g : Nat} {v : Value} {l : List Int} (h : Own w g v l) : Bs w v l := by
  refine ⟨h.1, ?_⟩
  rcases h.2 with ⟨hv, hl⟩ | ⟨cap, cur, hv, hh, h1, h2, h3, h4⟩
  · subst hl
    exact ⟨none, 0, by simpa using hv, by simp, by simp, fun _ => rfl, fun h => by simp at h⟩
  · refine ⟨_, cap, hv, h1, h2, (fun h => by cases h), fun hp => ⟨g, 0, rfl, lt_of_heap hh, fun i hi => ?_⟩⟩
    rw [Nat.zero_add, cell_of_row w g i cur 5 (0, 0) hh]
    have e := vals_get l i hi
    rw [← h4, List.getElem?_take, if_pos hi] at e
    simpa using e

/-- What is kept while nothing below the heap's size turns. -/
theorem Bs.below {w w' : World} {v : Value} {l : List Int} (h : Bs w v l) (hb : Below w.heap.size w w') : Bs w' v l := by
  obtain ⟨ho, a, cap, hv, h1, h2, h3, h4⟩ := h
  refine ⟨ho, a, cap, hv, h1, h2, h3, fun hp => ?_⟩
  obtain ⟨b, off, ha, hlt, hc⟩ := h4 hp
  exact ⟨b, off, ha, Nat.lt_of_lt_of_le hlt hb.size, fun i hi => (hb.cell (p := ⟨b, off + i, none⟩) hlt).trans (hc i hi)⟩

theorem Own.below {w w' : World} {g : Nat} {v : Value} {l : List Int} (h : Own w g v l) (hb : Below w.heap.size w w') : Own w' g v l := by
  refine ⟨h.1, ?_⟩
  rcases h.2 with hn | ⟨cap, cur, hv, hh, r⟩
  · exact .inl hn
  · exact .inr ⟨cap, cur, hv, (hb.block g (lt_of_heap hh)).trans hh, r⟩

/-- What is kept while other blocks are written. -/
theorem Own.kept {w w' : World} {g k : Nat} {v : Value} {l : List Int} (h : Own w g v l) (hk : w.grownBy w' (some k)) (hne : g ≠ k) : Own w' g v l := by
  refine ⟨h.1, ?_⟩
  rcases h.2 with hn | ⟨cap, cur, hv, hh, r⟩
  · exact .inl hn
  · exact .inr ⟨cap, cur, hv, (hk.block g (lt_of_heap hh) (by simpa using hne)).trans hh, r⟩

theorem Own.grow {w w' : World} {g : Nat} {v : Value} {l : List Int} (h : Own w g v l) (hk : w.grownBy w' none) : Own w' g v l := by
  refine ⟨h.1, ?_⟩
  rcases h.2 with hn | ⟨cap, cur, hv, hh, r⟩
  · exact .inl hn
  · exact .inr ⟨cap, cur, hv, (hk.block g (lt_of_heap hh) (by simp)).trans hh, r⟩

/-- A row that was made whole. -/
theorem own_made {w : World} {g : Nat} {l : List Int} (ho : Oct l) (hm : l.length ≤ maxLen) (hh : w.heap[g]? = some (.cells (vals l).toArray 5 (0, 0))) :
    Own w g (.slice (some ⟨g, 0, none⟩) l.length l.length) l :=
  ⟨ho, .inr ⟨l.length, _, rfl, hh, Nat.le_refl _, hm, by simp [length_vals], by simp [← length_vals]⟩⟩

/-- A row that 'make' has laid. -/
theorem made_heap {w : World} {B g n : Nat} {e : TypeId} {z : Value} (hown : w.ownsRow B e 1 (.slice (some ⟨g, 0, none⟩) n n) n (madeCells #[z] n).toList) :
    w.heap[g]? = some (.cells (List.replicate n z).toArray e (0, 0)) := by
  rcases hown.2 with ⟨h, _⟩ | ⟨g', c, cur, h, _, hh, _, _, h3, h4⟩
  · simp at h
  · simp only [Value.slice.injEq, Option.some.injEq, Addr.mk.injEq, and_true, true_and] at h
    obtain ⟨rfl, rfl⟩ := h
    rw [Nat.mul_one, toList_madeCells_one, List.take_of_length_le (by simp; omega)] at h4
    rw [← h4]
    simpa using hh

theorem grownBy_setCell {w wr : World} {g j : Nat} {u : Value} (h : w.grownBy wr (some g)) : w.grownBy (wr.setCell ⟨g, j, none⟩ u) (some g) :=
  ⟨h.os, h.tape, h.output, by have := h.size; simpa [World.setCell] using this, fun k hk hne => (Below.heap_setCell wr ⟨g, j, none⟩ u k (by simpa using hne)).trans (h.block k hk hne)⟩

theorem grownBy_trans {w w1 w2 : World} {r : Option Nat} (h : w.grownBy w1 r) (h' : w1.grownBy w2 r) : w.grownBy w2 r :=
  ⟨h'.os.trans h.os, h'.tape.trans h.tape, h'.output.trans h.output, Nat.le_trans h.size h'.size, fun k hk hne => (h'.block k (Nat.lt_of_lt_of_le hk h.size) hne).trans (h.block k hk hne)⟩

theorem below_drewN {w w1 : World} {B : Nat} (n : Nat) (h : Below B w w1) : Below B w (w1.drewN n) := ⟨h.os, h.tape, h.output, h.size, h.block⟩
theorem Own.drewN {w : World} {g : Nat} {v : Value} {l : List Int} (n : Nat) (h : Own w g v l) : Own (w.drewN n) g v l := h
theorem Bs.drewN {w : World} {v : Value} {l : List Int} (n : Nat) (h : Bs w v l) : Bs (w.drewN n) v l := h

/-- Out of the kit's word on a row that the call owns. -/
theorem own_of_row {w : World} {B n : Nat} {v : Value} {l : List Int} (ho : Oct l) (hn : n = l.length) (h : w.ownsRow B 5 1 v n (vals l)) : ∃ g, B ≤ g ∧ Own w g v l := by
  subst hn
  rcases h.2 with ⟨hv, hl⟩ | ⟨g, cap, cur, hv, hB, hh, h1, h2, h3, h4⟩
  · exact ⟨B, Nat.le_refl _, ho, .inl ⟨hv, List.eq_nil_of_length_eq_zero hl⟩⟩
  · exact ⟨g, hB, ho, .inr ⟨cap, cur, hv, hh, h1, h2, by simpa using h3, by simpa using h4⟩⟩

/-- The bytes of a number: seven bits a byte, the lowest first; f more bytes may follow. -/
def enc : Nat → Int → List Int
  | 0, n => [n]
  | f + 1, n => if 127 < n then (n % 128 + 128) :: enc f (n / 128) else [n]

theorem enc_length (f : Nat) (n : Int) : 1 ≤ (enc f n).length ∧ (enc f n).length ≤ f + 1 := by
  induction f generalizing n with
  | zero => simp [enc]
  | succ f ih =>
    unfold enc
    split
    · have := ih (n / 128); simp; omega
    · simp
theorem enc_oct (f : Nat) (n : Int) (h0 : 0 ≤ n) (h1 : n < 128 * 128 ^ f) : Oct (enc f n) := by
  induction f generalizing n with
  | zero => intro x hx; simp [enc] at hx; subst hx; simp at h1; omega
  | succ f ih =>
    unfold enc
    split
    · intro x hx
      rcases List.mem_cons.1 hx with rfl | hx
      · omega
      · refine ih (n / 128) (by omega) ?_ x hx
        rw [Int.pow_succ] at h1
        omega
    · intro x hx; simp at hx; subst hx; omega

/-- What PutNum answers, as a list. -/
def putL (b : List Int) (n : Int) : List Int := if 0 ≤ n ∧ n ≤ 2147483647 then b ++ enc 4 n else b
theorem putL_oct {b : List Int} (hb : Oct b) (n : Int) : Oct (putL b n) := by
  unfold putL
  split
  · exact oct_append hb (enc_oct 4 n (by omega) (by omega))
  · exact hb
theorem putL_length (b : List Int) (n : Int) : b.length ≤ (putL b n).length ∧ (putL b n).length ≤ b.length + 5 := by
  unfold putL
  split
  · have := enc_length 4 n; simp; omega
  · omega

end Go.Proofs.Ytodoofdbpffolaa

/- append of bytes to a row of the call's own, as one law for the walk: what is appended may be nil. -/
namespace Go.Proofs.Ytodoofdbpffolaa
open Go.RowKit

/-- The value v is nil or lies at the head of a block from B on, whose first cells are the bytes l. -/
def OwnB (w : World) (B : Nat) (v : Value) (l : List Int) : Prop := ∃ g, B ≤ g ∧ Own w g v l

theorem OwnB.bs {w : World} {B : Nat} {v : Value} {l : List Int} (h : OwnB w B v l) : Bs w v l := let ⟨_, _, h⟩ := h; h.bs
theorem OwnB.oct {w : World} {B : Nat} {v : Value} {l : List Int} (h : OwnB w B v l) : Oct l := let ⟨_, _, h⟩ := h; h.1
theorem OwnB.row {w : World} {B : Nat} {v : Value} {l : List Int} (h : OwnB w B v l) : w.ownsRow B 5 1 v l.length (vals l) := by
  obtain ⟨g, hB, h⟩ := h
  have h' := h.row
  refine ⟨h'.1, ?_⟩
  rcases h'.2 with h' | ⟨g', cap, cur, hv, hg, r⟩
  · exact .inl h'
  · exact .inr ⟨g', cap, cur, hv, Nat.le_trans hB hg, r⟩
theorem OwnB.alloc {w : World} {B : Nat} {v : Value} {l : List Int} (h : OwnB w B v l) (o : Obj) : OwnB (w.alloc o) B v l :=
  let ⟨g, hB, h⟩ := h; ⟨g, hB, h.grow (World.grownBy_alloc w o none)⟩
theorem OwnB.below {w w' : World} {B : Nat} {v : Value} {l : List Int} (h : OwnB w B v l) (hb : Below w.heap.size w w') : OwnB w' B v l :=
  let ⟨g, hB, h⟩ := h; ⟨g, hB, h.below hb⟩
theorem ownB_empty (w : World) (B : Nat) (hB : B ≤ w.heap.size) : OwnB (w.alloc (.cells #[] 5)) B (.slice (some ⟨w.heap.size, 0, none⟩) 0 0) [] :=
  ⟨w.heap.size, hB, oct_nil, .inr ⟨0, #[], rfl, heap_alloc_new w _, by simp, by simp, rfl, by simp [vals]⟩⟩

/-- One byte in a new block of its own: what 'append(out, x)' lays ahead. -/
theorem bs_one (w : World) (x : Int) (h : 0 ≤ x ∧ x ≤ 255) : Bs (w.alloc (.cells #[.int .u8 x] 5)) (.slice (some ⟨w.heap.size, 0, none⟩) 1 1) [x] := by
  refine ⟨by intro y hy; simp at hy; subst hy; exact h, _, 1, rfl, by simp, by decide, (fun h => by cases h), fun _ => ⟨w.heap.size, 0, rfl, by simp, fun i hi => ?_⟩⟩
  have : i = 0 := by simp at hi; omega
  subst this
  simp

theorem Bs.alloc {w : World} {v : Value} {l : List Int} (h : Bs w v l) (o : Obj) : Bs (w.alloc o) v l :=
  h.below ((Below.refl _ _).alloc (Nat.le_refl _) o)

theorem Addr.add_none (b off j : Nat) : (⟨b, off, none⟩ : Addr).add j = ⟨b, off + j, none⟩ := Addr.add_lit ..

theorem wpList_append_bytes {P : Program} {w : World} {ops : Array Oper} {rest : List Oper} {o : Oper} {a : Act} {Q : Exit → Act → World → Prop} (hgd : o.guard = none) (s x : Operand) (t : TypeId)
    (ho : o.op = .call { callee := .builtin .append, args := #[s, x], argTypes := #[t, t] })
    (i : TypeInfo) (ht : P.underlying t = some (.slice 5)) (hi : P.info? 5 = some i) (hz : i.zero = some (.int .u8 0)) (hsize : i.size = 1) (hby : i.bytes = 1)
    (B : Nat) (v : Value) (l : List Int) (hs : a.eval s = v) (hown : OwnB w B v l) (u : Value) (m : List Int) (hx : a.eval x = u) (hm : Bs w u m)
    (hlen : l.length + m.length ≤ 140737488355328) (hbase : B ≤ w.heap.size) (w0 : World) (hb : Below B w0 w)
    (h : ∀ v' w', OwnB w' B v' (l ++ m) → Below B w0 w' → w.grownBy w' v.ownBlock → wpList P ops Q rest (a.put o.dst v') w') : wpList P ops Q (o :: rest) a w := by
  obtain ⟨hmo, ad, cap, hu, h1, h2, h3, h4⟩ := hm
  have hr := hown.row
  cases ad with
  | none =>
    have : cap = 0 := h3 rfl
    subst this
    have : m = [] := List.eq_nil_of_length_eq_zero (by omega)
    subst this
    refine wpList_append_own_none hgd s x t ho B 5 i 1 ht hi v l.length (vals l) hs hr (by rw [hx, hu]; rfl) ?_
    exact h v w (by simpa using hown) hb (World.grownBy.refl _ _)
  | some ad =>
    have hl : l.length + m.length ≤ maxLen := by unfold maxLen; omega
    refine wpList_append_own w hgd s x t ho B 5 i (.int .u8 0) 1 1 ht hi hz hsize hby rfl (by omega) v l.length (vals l) hs hr ad m.length cap (vals m) (by rw [hx, hu]) (by simp [length_vals]) ?_ (oneCell_vals m) hl (by omega) hbase ?_
    · intro j y hy
      have hj : j < m.length := by have := (List.getElem?_eq_some_iff.1 hy).1; simpa [length_vals] using this
      obtain ⟨b, off, had, _, hc⟩ := h4 (by omega)
      cases had
      rw [Addr.add_lit, hc j hj, ← hy, vals_get m j hj]
    · intro v' w' hown' hg _
      obtain ⟨g, hgB, hg'⟩ := own_of_row (n := l.length + m.length) (oct_append hown.oct hmo) (by simp) (by rw [vals_append]; exact hown')
      exact h v' w' ⟨g, hgB, hg'⟩ (hb.grown hg hbase (fun k hk => (hr.lt k hk).1)) hg

theorem enc_hi (f : Nat) (m : Int) (h : 127 < m) : enc (f + 1) m = (m % 128 + 128) :: enc f (m / 128) := by simp [enc, h]
theorem enc_lo (f : Nat) (m : Int) (h : ¬ 127 < m) : enc f m = [m] := by cases f <;> simp [enc, h]
theorem enc_step {xs l : List Int} {f : Nat} {m n : Int} (h : 127 < m) (e : xs ++ enc (f + 1) m = l ++ enc 4 n) : (xs ++ [m % 128 + 128]) ++ enc f (m / 128) = l ++ enc 4 n := by
  rw [← e, enc_hi f m h]; simp

end Go.Proofs.Ytodoofdbpffolaa

/- What GetNum answers, on lists. -/
namespace Go.Proofs.Ytodoofdbpffolaa
open Go.RowKit

/-- Reads a number off the list: f bytes may still come, i have come, n is what they gave, sc the next one's weight. -/
def dec : Nat → Nat → Int → Int → List Int → Option (Int × Nat)
  | 0, _, _, _, _ => none
  | _ + 1, _, _, _, [] => none
  | f + 1, i, n, sc, x :: r =>
    if x < 128 then (if (x = 0 ∧ 0 < i) ∨ 2147483647 < n + x % 128 * sc then none else some (n + x % 128 * sc, i + 1))
    else dec f (i + 1) (n + x % 128 * sc) (sc * 128) r

/-- What GetNum answers. -/
def outOf (at' : Int) : Option (Int × Nat) → Int × Int
  | some (n, k) => (n, at' + k)
  | none => (0, -1)
def getL (l : List Int) (at' : Int) : Int × Int := if at' < 0 then (0, -1) else outOf at' (dec 5 0 0 1 (l.drop at'.toNat))

theorem drop_get (l : List Int) (k : Nat) (h : k < l.length) : l.drop k = l.getD k 0 :: l.drop (k + 1) := by
  rw [List.drop_eq_getElem_cons h]; simp [h]
theorem dec_end (f i : Nat) (n sc : Int) (l : List Int) (k : Nat) (h : l.length ≤ k) : dec f i n sc (l.drop k) = none := by
  rw [List.drop_eq_nil_of_le h]; cases f <;> rfl
theorem dec_more (f i : Nat) (n sc : Int) (l : List Int) (k : Nat) (h : k < l.length) (hx : ¬ l.getD k 0 < 128) :
    dec (f + 1) i n sc (l.drop k) = dec f (i + 1) (n + l.getD k 0 % 128 * sc) (sc * 128) (l.drop (k + 1)) := by
  rw [drop_get l k h]; simp only [dec]; rw [if_neg hx]
theorem dec_bad (f i : Nat) (n sc : Int) (l : List Int) (k : Nat) (h : k < l.length) (hx : l.getD k 0 < 128) (hb : (l.getD k 0 = 0 ∧ 0 < i) ∨ 2147483647 < n + l.getD k 0 % 128 * sc) :
    dec (f + 1) i n sc (l.drop k) = none := by
  rw [drop_get l k h]; simp only [dec]; rw [if_pos hx, if_pos hb]
theorem dec_good (f i : Nat) (n sc : Int) (l : List Int) (k : Nat) (h : k < l.length) (hx : l.getD k 0 < 128) (hb : ¬ ((l.getD k 0 = 0 ∧ 0 < i) ∨ 2147483647 < n + l.getD k 0 % 128 * sc)) :
    dec (f + 1) i n sc (l.drop k) = some (n + l.getD k 0 % 128 * sc, i + 1) := by
  rw [drop_get l k h]; simp only [dec]; rw [if_pos hx, if_neg hb]

theorem ret2 {a b : Int} {p : Int × Int} (h : p = (a, b)) : Ending.returned (.tuple #[.int .i64 a, .int .i64 b]) = .returned (.tuple #[.int .i64 p.1, .int .i64 p.2]) := by rw [h]

theorem ret2' {a b a' b' : Int} {p : Int × Int} (h : p = (a', b')) (e1 : a = a') (e2 : b = b') : Ending.returned (.tuple #[.int .i64 a, .int .i64 b]) = .returned (.tuple #[.int .i64 p.1, .int .i64 p.2]) := by rw [h, e1, e2]

end Go.Proofs.Ytodoofdbpffolaa

/- copy of bytes into a row of the call's own, as one law for the walk: what is copied may be nil. -/
namespace Go.Proofs.Ytodoofdbpffolaa
open Go.RowKit

theorem vals_splice (cur : List Int) (off : Nat) (m : List Int) : vals (splice cur off m) = splice (vals cur) off (vals m) := by simp [splice, vals, List.map_take, List.map_drop]
theorem splice_two (Z A B : List Int) (h : Z.length = A.length + B.length) : splice (splice Z 0 A) A.length B = A ++ B := by
  have h1 : (A ++ Z.drop A.length).drop (A.length + B.length) = [] := List.drop_eq_nil_of_le (by simp; omega)
  simp [splice, h1]

theorem wpList_copy_bytes {P : Program} {w : World} {ops : Array Oper} {rest : List Oper} {o : Oper} {a : Act} {Q : Exit → Act → World → Prop} (hgd : o.guard = none) (d s : Operand) (dT sT : TypeId)
    (ho : o.op = .call { callee := .builtin .copy, args := #[d, s], argTypes := #[dT, sT] }) (hu : P.underlying dT = some (.slice 5)) (hsz : (P.info? 5).map (·.size) = some 1)
    (dp : Option Addr) (dLen dCap : Nat) (hd : a.eval d = .slice dp dLen dCap) (u : Value) (m : List Int) (hs : a.eval s = u) (hm : Bs w u m) (k : Nat) (hk : k = Nat.min m.length dLen)
    (g off : Nat) (cur : List Int) (hg : w.heap[g]? = some (.cells (vals cur).toArray 5 (0, 0)))
    (hpos : 0 < k → dp = some ⟨g, off, none⟩) (hfit : off + k ≤ cur.length) (B : Nat) (w0 : World) (hb : Below B w0 w) (hBg : B ≤ g)
    (h : ∀ w', Hid (w'.heap[g]? = some (.cells (vals (splice cur off (m.take k))).toArray 5 (0, 0))) → Below B w0 w' → wpList P ops Q rest (a.put o.dst (goInt k)) w') :
    wpList P ops Q (o :: rest) a w := by
  obtain ⟨hmo, ad, cap, hv, h1, h2, h3, h4⟩ := hm
  have hkm : k ≤ m.length := by rw [hk]; exact Nat.min_le_left ..
  have hl : (m.take k).length = k := by simp; omega
  refine wpList_copy_splice hgd d s dT sT ho 5 hu hsz dp ad dLen dCap m.length cap hd (by rw [hs, hv]) g off (vals cur) 5 hg (vals (m.take k)) (by rw [length_vals, hl, hk]) ?_ (by rw [length_vals, length_vals, hl]; exact hfit) (oneCell_vals _) B w0 hb hBg ?_
  · intro hp
    rw [length_vals, hl] at hp
    obtain ⟨b, off', had, _, hc⟩ := h4 (by omega)
    refine ⟨hpos hp, _, had, fun j v hj => ?_⟩
    have hj' : j < k := by have := (List.getElem?_eq_some_iff.1 hj).1; rw [length_vals, hl] at this; exact this
    rw [Addr.add_lit, hc j (by omega), ← hj, vals_get _ j (by rw [hl]; exact hj')]
    simp [hj']
  · intro w' hg' hb'
    rw [length_vals, hl]
    exact h w' (by rw [vals_splice]; exact hg') hb'

end Go.Proofs.Ytodoofdbpffolaa

/- Rows of bytes that lie in blocks from B on and below T: so that two of them are seen to be apart. -/
namespace Go.Proofs.Ytodoofdbpffolaa
open Go.RowKit

/-- The value v is nil, or lies at the head of a block from B on and below T; its bytes are l. -/
def Row (w : World) (B T : Nat) (v : Value) (l : List Int) : Prop :=
  Oct l ∧ w.ownsRow B 5 1 v l.length (vals l) ∧ ∀ g, v.ownBlock = some g → g < T

theorem OwnB.toRow {w : World} {B : Nat} {v : Value} {l : List Int} (h : OwnB w B v l) : Row w B w.heap.size v l := ⟨h.oct, h.row, fun g hg => (h.row.lt g hg).2⟩
/-- A row whose block is known. -/
theorem Own.toRow {w : World} {g : Nat} {v : Value} {l : List Int} (h : Own w g v l) : Row w g (g + 1) v l := by
  refine ⟨h.1, h.row, fun k hk => ?_⟩
  rcases h.2 with ⟨hv, _⟩ | ⟨cap, cur, hv, _⟩
  · rw [hv] at hk; simp [Value.ownBlock] at hk
  · rw [hv] at hk; simp [Value.ownBlock] at hk; omega
theorem Row.oct {w : World} {B T : Nat} {v : Value} {l : List Int} (h : Row w B T v l) : Oct l := h.1
theorem Row.own {w : World} {B T : Nat} {v : Value} {l : List Int} (h : Row w B T v l) : OwnB w B v l := own_of_row h.1 rfl h.2.1
theorem Row.bs {w : World} {B T : Nat} {v : Value} {l : List Int} (h : Row w B T v l) : Bs w v l := h.own.bs
theorem Row.wide {w : World} {B T B' T' : Nat} {v : Value} {l : List Int} (h : Row w B T v l) (hB : B' ≤ B) (hT : T ≤ T') : Row w B' T' v l := by
  refine ⟨h.1, ⟨h.2.1.1, ?_⟩, fun g hg => Nat.lt_of_lt_of_le (h.2.2 g hg) hT⟩
  rcases h.2.1.2 with hn | ⟨g, cap, cur, hv, hg, r⟩
  · exact .inl hn
  · exact .inr ⟨g, cap, cur, hv, Nat.le_trans hB hg, r⟩
theorem Row.below {w w' : World} {B T : Nat} {v : Value} {l : List Int} (h : Row w B T v l) (hb : Below w.heap.size w w') : Row w' B T v l :=
  ⟨h.1, (h.own.below hb).row, h.2.2⟩
/-- Another row was written. -/
theorem Row.kept {w w' : World} {B T B' T' : Nat} {v u : Value} {l m : List Int} (h : Row w B T v l) (hu : Row w B' T' u m) (hg : w.grownBy w' u.ownBlock) (hd : T ≤ B' ∨ T' ≤ B) : Row w' B T v l := by
  refine ⟨h.1, h.2.1.kept hg ?_, h.2.2⟩
  cases hv : v.ownBlock with
  | none => exact .inl rfl
  | some g =>
    refine .inr fun e => ?_
    have h1 := (h.2.1.lt g hv).1
    have h2 := h.2.2 g hv
    have h3 := (hu.2.1.lt g e.symm).1
    have h4 := hu.2.2 g e.symm
    omega
theorem Row.nil (w : World) (B T : Nat) : Row w B T (.slice none 0 0) [] := ⟨oct_nil, World.ownsRow_nil _ _ _ _, fun g hg => by simp [Value.ownBlock] at hg⟩
/-- What lies below the row's blocks has not turned. -/
theorem Row.wrote {w0 w w' : World} {B T : Nat} {u : Value} {m : List Int} (hu : Row w B T u m) (hg : w.grownBy w' u.ownBlock) (hb : Below w0.heap.size w0 w) (hB : w0.heap.size ≤ B) : Below w0.heap.size w0 w' :=
  hb.grown hg hb.size (fun k hk => Nat.le_trans hB (hu.2.1.lt k hk).1)

/-- A row stays while another block is written. -/
theorem Row.drawn {w w' : World} {g B T : Nat} {v : Value} {l : List Int} (h : Row w B T v l) (hw : w.grownBy w' (some g)) (hd : g < B ∨ T ≤ g) : Row w' B T v l := by
  refine ⟨h.1, h.2.1.kept hw ?_, h.2.2⟩
  cases hv : v.ownBlock with
  | none => exact .inl rfl
  | some k =>
    refine .inr fun e => ?_
    have h1 := (h.2.1.lt k hv).1
    have h2 := h.2.2 k hv
    simp only [Option.some.injEq] at e
    omega
/-- A row stays while a cell of another block is written. -/
theorem Row.set {w : World} {g i B T : Nat} {v x : Value} {l : List Int} (h : Row w B T v l) (hd : g < B ∨ T ≤ g) : Row (w.setCell ⟨g, i, none⟩ x) B T v l :=
  h.drawn (grownBy_setCell (World.grownBy.refl _ _)) hd
theorem below_of_drewN {w w' : World} (h : ∃ n, w' = w.drewN n) : Below w.heap.size w w' := by
  obtain ⟨n, rfl⟩ := h; exact below_drewN n (Below.refl _ _)
theorem Below.step {w w1 w2 : World} (h : Below w.heap.size w w1) (h' : Below w1.heap.size w1 w2) : Below w.heap.size w w2 := h.trans (h'.mono h.size)

end Go.Proofs.Ytodoofdbpffolaa

/- Closed facts on the program's types that the walks use. -/
namespace Go.Proofs.Ytodoofdbpffolaa
open Go.RowKit

theorem info5 : (Try.prog.info? 5).map (fun i => (i.zero, i.size, i.bytes)) = some (some (.int .u8 0), 1, 1) := by kernel_rfl
theorem sz5 : (Try.prog.info? 5).map (·.size) = some 1 := by kernel_rfl
theorem size5 (W : World) : (sizeOf 5).run Try.prog W = .ok 1 W := by kernel_rfl
theorem bs_nil (w : World) : Bs w (.slice none 0 0) [] := ⟨oct_nil, none, 0, rfl, by simp, by simp, fun _ => rfl, fun h => absurd h (by simp)⟩

end Go.Proofs.Ytodoofdbpffolaa

/- What toByteS, eqByteS, markByteS, heldByteS of package laws do. -/
namespace Go.Proofs.Ytodoofdbpffolaa
open Go.RowKit
set_option maxRecDepth 100000

/-- the first k bytes of l laid over noughts -/
def laid (l : List Int) (k : Nat) : List Int := l.take k ++ List.replicate (l.length - k) 0
theorem length_laid (l : List Int) (k : Nat) (h : k ≤ l.length) : (laid l k).length = l.length := by simp [laid]; omega
theorem laid_zero (l : List Int) : vals (laid l 0) = List.replicate l.length (.int .u8 0) := by simp [laid, vals]
theorem laid_all (l : List Int) : laid l l.length = l := by simp [laid]
theorem laid_succ (l : List Int) (k : Nat) (h : k < l.length) : (vals (laid l k)).set k (.int .u8 (l.getD k 0)) = vals (laid l (k + 1)) := by
  have e : (laid l k).set k (l.getD k 0) = laid l (k + 1) := by
    have ht : (l.take k).length = k := by simp; omega
    have hr : List.replicate (l.length - k) (0 : Int) = 0 :: List.replicate (l.length - (k + 1)) 0 := by
      rw [show l.length - k = (l.length - (k + 1)) + 1 by omega, List.replicate_succ]
    unfold laid
    have hg : l.getD k 0 = l[k] := by simp [h]
    rw [hr, List.set_append_right k (l.getD k 0) (by omega), ht, Nat.sub_self, List.set_cons_zero, List.take_succ_eq_append_getElem h, List.append_assoc, List.singleton_append, hg]
  rw [← e]
  simp [vals, List.map_set]

set_option maxHeartbeats 400000 in
theorem toByteS_any (v : Value) (l : List Int) (w : World) (hv : Bs w v l) (hl : l.length ≤ 2000000) :
    Calls Try.prog 18 #[v] w fun e w' => ∃ u, e = .returned u ∧ Own w' w.heap.size u l ∧ Below w.heap.size w w' := by
  obtain ⟨ho, a, cap, rfl, hlc, hcm, hnil, hcells⟩ := hv
  obtain ⟨i0, hi, hz0, hz1, hz2⟩ := info_parts info5
  unfold maxLen at hcm
  go_enter Try.func18, Try.ntmps18
  go_wp2_with (at_make; refine wpList_make_full _ rfl _ _ 22 rfl w.heap.size 5 i0 (.int .u8 0) 1 Try.underlying22 hi hz0 hz1 _ _ _ _ l.length rfl rfl rfl rfl ?b1 ?b2 ?b3 ?_)
  case b1 => rw [hz2]; omega
  case b2 => unfold maxLen; omega
  case b3 => exact Nat.le_refl _
  intro w1 hown hgrow
  have hB := (Below.refl w.heap.size w).grown hgrow (Nat.le_refl _) (by simp)
  have HR : Hid (w1.heap[w.heap.size]? = some (.cells (vals (laid l 0)).toArray 5 (0, 0))) := by
    rw [laid_zero]
    exact made_heap hown
  clear hown hgrow
  go_wp2
  go_loopw [4] (fun i wr => ∃ k : Nat, k ≤ l.length ∧ i = .int .i64 k ∧ Hid (wr.heap[w.heap.size]? = some (.cells (vals (laid l k)).toArray 5 (0, 0))) ∧ Below w.heap.size w wr) (fun i _ => l.length - (intOf i).toNat)
  case atStart => exact ⟨0, Nat.zero_le _, rfl, HR, hB⟩
  case round =>
    obtain ⟨k, hk, rfl, hR, hB'⟩ := hrel
    by_cases hlt : k < l.length
    · obtain ⟨b, off, rfl, hlb, hc⟩ := hcells (by omega)
      have hcx : wr.cell? ⟨b, off + k, none⟩ = some (.int .u8 (l.getD k 0)) := (hB'.cell (by exact hlb)).trans (hc k hlt)
      have hd := cell_of_row wr w.heap.size k _ 5 (0, 0) hR.out
      have hd' : ∃ x, wr.cell? ⟨w.heap.size, k, none⟩ = some x := ⟨_, hd.trans (by simp [vals_get _ _ (show k < (laid l k).length by rw [length_laid l k hk]; exact hlt)]; rfl)⟩
      have hf := frozen_of_row wr w.heap.size k _ 5 hR.out
      have hR' := heap_setCell_same wr w.heap.size k _ 5 (.int .u8 (l.getD k 0)) hR.out
      have HR' : Hid ((wr.setCell ⟨w.heap.size, k, none⟩ (.int .u8 (l.getD k 0))).heap[w.heap.size]? = some (.cells (vals (laid l (k + 1))).toArray 5 (0, 0))) := by
        rw [← laid_succ l k hlt]; simpa [Hid] using hR'
      obtain ⟨x, hx⟩ := hd'
      clear hd hR' hR
      go_wp2
      go_roundw
      case rel => exact ⟨k + 1, by omega, by go_num, by rw [← show l.getD k 0 = l[k] by simp [hlt]]; exact HR', hB'.setCell (Nat.le_refl _) _⟩
      case measure => simp [intOf]; omega
    · go_wp2
      go_ret
      obtain rfl : k = l.length := by omega
      rw [laid_all] at hR
      exact ⟨_, rfl, own_made ho (by unfold maxLen; omega) hR.out, hB'⟩

theorem eqL_take (l m : List Int) (k : Nat) (hl : l.length = m.length) (h : l.take k = m.take k) (hk : l.length ≤ k) : l = m := by
  rw [List.take_of_length_le hk, List.take_of_length_le (by omega)] at h; exact h
theorem take_snoc_eq {l m : List Int} {k : Nat} (hl : k < l.length) (hm : k < m.length) (h : l.take k = m.take k) (e : l[k] = m[k]) : l.take (k + 1) = m.take (k + 1) := by
  rw [List.take_succ_eq_append_getElem hl, List.take_succ_eq_append_getElem hm, h, e]

set_option maxHeartbeats 400000 in
theorem eqByteS_any (v u : Value) (l m : List Int) (w : World) (hv : Bs w v l) (hu : Bs w u m) :
    Calls Try.prog 26 #[v, u] w fun e w' => e = .returned (.bool (decide (l = m))) ∧ ∃ n, w' = w.drewN n := by
  obtain ⟨ho, a, cap, rfl, hlc, hcm, hnil, hcells⟩ := hv
  obtain ⟨ho', a', cap', rfl, hlc', hcm', hnil', hcells'⟩ := hu
  unfold maxLen at hcm hcm'
  by_cases hlen : l.length = m.length
  · have hq : ((l.length : Int) == (m.length : Int)) = true := by simp; omega
    have HL : Hid (l.length = m.length) := hlen
    clear hlen
    go_enter Try.func26, Try.ntmps26
    go_wp2
    go_loopw [5] (fun i wr => ∃ k : Nat, k ≤ l.length ∧ i = .int .i64 k ∧ Hid (l.take k = m.take k) ∧ Hid (∃ n, wr = w.drewN n)) (fun i _ => l.length - (intOf i).toNat)
    case atStart => exact ⟨0, Nat.zero_le _, rfl, by simp [Hid], ⟨0, rfl⟩⟩
    case round =>
      obtain ⟨k, hk, rfl, hR, hW⟩ := hrel
      by_cases hlt : k < l.length
      · have hlt' : k < m.length := by rw [← HL.out]; exact hlt
        obtain ⟨b, off, rfl, hlb, hc⟩ := hcells (by omega)
        obtain ⟨b', off', rfl, hlb', hc'⟩ := hcells' (by omega)
        obtain ⟨n, rfl⟩ := hW.out
        have hx := hc k hlt
        have hx' := hc' k hlt'
        clear hc hc' hcells hcells' hW
        by_cases he : (l[k] == m[k]) = true
        · go_wp2
          go_quiet (fail)
          go_wp2
          go_roundw
          case rel => exact ⟨k + 1, by omega, by go_num, take_snoc_eq hlt hlt' hR.out (by simpa using he), ⟨_, rfl⟩⟩
          case measure => simp [intOf]; omega
        · have he' : (l[k] == m[k]) = false := by simpa using he
          have hd : l ≠ m := fun h => he (by subst h; simp)
          clear he
          go_wp2
          go_quiet (fail)
          go_wp2
          go_ret
          exact ⟨by simp [hd], _, World.drewN_drewN _ _ _⟩
      · go_wp2
        go_ret
        exact ⟨by simp [eqL_take l m k HL.out hR.out (by omega)], hW.out⟩
  · have hne : ((l.length : Int) == (m.length : Int)) = false := by simp; omega
    have hd : l ≠ m := fun h => hlen (by rw [h])
    go_enter Try.func26, Try.ntmps26
    go_wp2
    go_ret
    exact ⟨by simp [hd], 0, rfl⟩

/-- n marks from k on: what markByteS writes. -/
def marks (k : Int) (n : Nat) : List Int := (List.range n).map fun (i : Nat) => (k + (i : Int)) % 256
theorem length_marks (k : Int) (n : Nat) : (marks k n).length = n := by simp [marks]
theorem marks_succ (k : Int) (n : Nat) : marks k (n + 1) = marks k n ++ [(k + (n : Int)) % 256] := by simp [marks, List.range_succ]
theorem marks_get (k : Int) (n i : Nat) (h : i < n) : (marks k n).getD i 0 = (k + (i : Int)) % 256 := by simp [marks, h]
theorem marks_take (k : Int) (cr : Array Value) (j : Nat) (hj : j < cr.size) (h : cr.toList.take j = vals (marks k j)) :
    (cr.setIfInBounds j (.int .u8 ((k + (j : Int)) % 256))).toList.take (j + 1) = vals (marks k (j + 1)) := by
  rw [Array.toList_setIfInBounds, List.take_succ_eq_append_getElem (by simpa using hj), List.take_set_of_le (Nat.le_refl _), h, marks_succ, vals_append]
  simp [vals]
theorem oct_marks (k : Int) (n : Nat) : Oct (marks k n) := by
  intro x hx
  obtain ⟨i, _, rfl⟩ := List.mem_map.1 hx
  omega

set_option maxHeartbeats 400000 in
theorem markByteS_any (g : Nat) (v : Value) (l : List Int) (k : Int) (w : World) (hv : Own w g v l) (hl : l.length ≤ 2000000) (hk0 : 0 ≤ k) (hk1 : k ≤ 1000000000000) :
    Calls Try.prog 29 #[v, .int .i64 k] w fun e w' => e = .returned (.int .i64 (k + l.length)) ∧ Own w' g v (marks k l.length) ∧ w.grownBy w' (some g) := by
  obtain ⟨ho, ⟨rfl, rfl⟩ | ⟨cap, cur, rfl, hh, hlc, hcm, hcs, htk⟩⟩ := hv
  · go_enter Try.func29, Try.ntmps29
    go_wp2
    refine wp_loop_rounds 1 ?_
    rw [rounds_succ]
    go_wp2
    go_ret
    exact ⟨by simp, ⟨oct_marks _ _, .inl ⟨rfl, rfl⟩⟩, World.grownBy.refl _ _⟩
  · unfold maxLen at hcm
    go_enter Try.func29, Try.ntmps29
    go_wp2
    go_loopw [1, 5] (fun q i wr => ∃ j : Nat, j ≤ l.length ∧ i = .int .i64 j ∧ q = .int .i64 (k + j) ∧ Hid (∃ cr, wr.heap[g]? = some (.cells cr 5 (0, 0)) ∧ cr.size = cap ∧ cr.toList.take j = vals (marks k j)) ∧ w.grownBy wr (some g)) (fun _ i _ => l.length - (intOf i).toNat)
    case atStart => exact ⟨0, Nat.zero_le _, rfl, by simp, ⟨cur, hh, hcs, by simp [marks, vals]⟩, World.grownBy.refl _ _⟩
    case round =>
      obtain ⟨j, hj, rfl, rfl, hR, hG⟩ := hrel
      obtain ⟨cr, hR1, hR2, hR3⟩ := hR.out
      by_cases hlt : j < l.length
      · have hd := cell_of_row wr g j _ 5 (0, 0) hR1
        have hd' : ∃ x, wr.cell? ⟨g, j, none⟩ = some x := ⟨_, hd.trans (by simp [show j < cr.size by omega]; rfl)⟩
        have hf := frozen_of_row wr g j _ 5 hR1
        obtain ⟨x, hx⟩ := hd'
        clear hd
        go_wp2
        go_roundw
        case rel => exact ⟨j + 1, by omega, by go_num, by go_num, ⟨_, heap_setCell_same wr g j _ 5 _ hR1, by simpa using hR2, marks_take k cr j (by omega) hR3⟩, grownBy_setCell hG⟩
        case measure => simp [intOf]; omega
      · go_wp2
        go_ret
        obtain rfl : j = l.length := by omega
        exact ⟨rfl, ⟨oct_marks _ _, .inr ⟨cap, cr, by rw [length_marks], hR1, by rw [length_marks]; exact hlc, by unfold maxLen; omega, hR2, by rw [length_marks]; exact hR3⟩⟩, hG⟩

set_option maxHeartbeats 400000 in
theorem heldByteS_any (v : Value) (n : Nat) (k : Int) (w : World) (hv : Bs w v (marks k n)) (hl : n ≤ 2000000) (hk0 : 0 ≤ k) (hk1 : k ≤ 1000000000000) :
    Calls Try.prog 32 #[v, .int .i64 k] w fun e w' => e = .returned (.int .i64 (k + n)) ∧ ∃ d, w' = w.drewN d := by
  obtain ⟨ho, a, cap, rfl, hlc, hcm, hnil, hcells⟩ := hv
  rw [length_marks] at hlc hcells ⊢
  unfold maxLen at hcm
  go_enter Try.func32, Try.ntmps32
  go_wp2
  go_loopw [1, 5] (fun q i wr => ∃ j : Nat, j ≤ n ∧ i = .int .i64 j ∧ q = .int .i64 (k + j) ∧ Hid (∃ d, wr = w.drewN d)) (fun _ i _ => n - (intOf i).toNat)
  case atStart => exact ⟨0, Nat.zero_le _, rfl, by simp, ⟨0, rfl⟩⟩
  case round =>
    obtain ⟨j, hj, rfl, rfl, hW⟩ := hrel
    by_cases hlt : j < n
    · obtain ⟨b, off, rfl, hlb, hc⟩ := hcells (by omega)
      obtain ⟨d, rfl⟩ := hW.out
      have hx := hc j hlt
      rw [marks_get k n j hlt] at hx
      clear hc hcells hW
      go_wp2
      go_roundw
      case rel => exact ⟨j + 1, by omega, by go_num, by go_num, ⟨d, rfl⟩⟩
      case measure => simp [intOf]; omega
    · go_wp2
      go_ret
      obtain rfl : j = n := by omega
      exact ⟨rfl, hW.out⟩

theorem toByteS_r (v : Value) (l : List Int) (w : World) (hv : Bs w v l) (hl : l.length ≤ 2000000) :
    Calls Try.prog 18 #[v] w fun e w' => ∃ u, e = .returned u ∧ Row w' w.heap.size w'.heap.size u l ∧ Below w.heap.size w w' :=
  (toByteS_any v l w hv hl).mono fun _ _ ⟨u, h1, h2, h3⟩ => ⟨u, h1, OwnB.toRow ⟨_, Nat.le_refl _, h2⟩, h3⟩
theorem eqByteS_yes (v u : Value) (l : List Int) (w : World) (hv : Bs w v l) (hu : Bs w u l) :
    Calls Try.prog 26 #[v, u] w fun e w' => e = .returned (.bool true) ∧ Below w.heap.size w w' :=
  (eqByteS_any v u l l w hv hu).mono fun _ _ ⟨h, hd⟩ => ⟨by simpa using h, below_of_drewN hd⟩
theorem heldByteS_yes (v : Value) (n : Nat) (k : Int) (w : World) (hv : Bs w v (marks k n)) (hl : n ≤ 2000000) (hk0 : 0 ≤ k) (hk1 : k ≤ 1000000000000) :
    Calls Try.prog 32 #[v, .int .i64 k] w fun e w' => e = .returned (.int .i64 (k + n)) ∧ Below w.heap.size w w' :=
  (heldByteS_any v n k w hv hl hk0 hk1).mono fun _ _ ⟨h, hd⟩ => ⟨h, below_of_drewN hd⟩
theorem markByteS_r (B T : Nat) (v : Value) (l : List Int) (k : Int) (w : World) (hv : Row w B T v l) (hl : l.length ≤ 2000000) (hk0 : 0 ≤ k) (hk1 : k ≤ 1000000000000) :
    Calls Try.prog 29 #[v, .int .i64 k] w fun e w' => e = .returned (.int .i64 (k + l.length)) ∧ Row w' B T v (marks k l.length) ∧ w.grownBy w' v.ownBlock := by
  obtain ⟨g, hB, ho⟩ := hv.own
  rcases ho.2 with ⟨rfl, rfl⟩ | ⟨cap, cur, rfl, _⟩
  · go_enter Try.func29, Try.ntmps29
    go_wp2
    refine wp_loop_rounds 1 ?_
    rw [rounds_succ]
    go_wp2
    go_ret
    exact ⟨by simp, Row.nil _ _ _, World.grownBy.refl _ _⟩
  · refine (markByteS_any g _ l k w ho hl hk0 hk1).mono fun e w' ⟨h1, h2, h3⟩ => ⟨h1, ⟨h2.1, OwnB.row ⟨g, hB, h2⟩, hv.2.2⟩, h3⟩

end Go.Proofs.Ytodoofdbpffolaa

/- Logs in memory: what a log reads as; a log of the call's own; what is written within a range of blocks. -/
namespace Go.Proofs.Ytodoofdbpffolaa
open Go.RowKit

/-- Old blocks outside the range from B on and below T are as they were. -/
structure Within (B T : Nat) (w w' : World) : Prop where
  os : w'.os = w.os
  tape : w'.tape = w.tape
  output : w'.output = w.output
  size : w.heap.size ≤ w'.heap.size
  block : ∀ k, k < w.heap.size → ¬ (B ≤ k ∧ k < T) → w'.heap[k]? = w.heap[k]?

theorem Within.refl (B T : Nat) (w : World) : Within B T w w := ⟨rfl, rfl, rfl, Nat.le_refl _, fun _ _ _ => rfl⟩
theorem Within.trans {B T : Nat} {a b c : World} (h : Within B T a b) (k : Within B T b c) : Within B T a c :=
  ⟨k.os.trans h.os, k.tape.trans h.tape, k.output.trans h.output, Nat.le_trans h.size k.size, fun i hi hn => (k.block i (Nat.lt_of_lt_of_le hi h.size) hn).trans (h.block i hi hn)⟩
theorem Within.wide {B T B' T' : Nat} {a b : World} (h : Within B T a b) (hB : B' ≤ B) (hT : T ≤ T') : Within B' T' a b :=
  ⟨h.os, h.tape, h.output, h.size, fun i hi hn => h.block i hi (fun hc => hn ⟨by omega, by omega⟩)⟩
theorem Within.ofBelow {B T : Nat} {a b : World} (h : Below a.heap.size a b) : Within B T a b := ⟨h.os, h.tape, h.output, h.size, fun k hk _ => h.block k hk⟩
theorem Within.below {B T : Nat} {w0 w w' : World} (h : Within B T w w') (hb : Below w0.heap.size w0 w) (hB : w0.heap.size ≤ B) : Below w0.heap.size w0 w' :=
  ⟨h.os.trans hb.os, h.tape.trans hb.tape, h.output.trans hb.output, Nat.le_trans hb.size h.size, fun k hk => (h.block k (Nat.lt_of_lt_of_le hk hb.size) (by omega)).trans (hb.block k hk)⟩

theorem Row.within {w w' : World} {B T : Nat} {u : Value} {m : List Int} (hu : Row w B T u m) (hg : w.grownBy w' u.ownBlock) : Within B T w w' :=
  ⟨hg.os, hg.tape, hg.output, hg.size, fun k hk hn => hg.block k hk (fun e => hn ⟨(hu.2.1.lt k e.symm).1, hu.2.2 k e.symm⟩)⟩
/-- A row apart from what was written stays. -/
theorem Row.keptW {w w' : World} {B T B' T' : Nat} {v : Value} {l : List Int} (h : Row w B T v l) (hw : Within B' T' w w') (hd : T ≤ B' ∨ T' ≤ B) : Row w' B T v l := by
  refine ⟨h.1, ⟨h.2.1.1, ?_⟩, h.2.2⟩
  rcases h.2.1.2 with hn | ⟨g, cap, cur, hv, hg, hh, r⟩
  · exact .inl hn
  · have hlt : g < T := h.2.2 g (by rw [hv]; rfl)
    exact .inr ⟨g, cap, cur, hv, hg, (hw.block g (lt_of_heap hh) (by omega)).trans hh, r⟩

theorem Bs.form {w : World} {v : Value} {l : List Int} (h : Bs w v l) : ∃ a cap, v = .slice a l.length cap := by obtain ⟨_, a, cap, h, _⟩ := h; exact ⟨a, cap, h⟩

theorem Bs.form3 {w : World} {v : Value} {l : List Int} (h : Bs w v l) : ∃ a n cap, v = .slice a n cap := by obtain ⟨_, a, cap, h, _⟩ := h; exact ⟨a, _, cap, h⟩

/-- A slice's first bytes. -/
theorem bs_first {w : World} {a : Option Addr} {cap : Nat} {l : List Int} (h : Bs w (.slice a l.length cap) l) (n : Nat) (hn : n ≤ l.length) : Bs w (.slice a n cap) (l.take n) := by
  obtain ⟨ho, a', cap', hv, h1, h2, h3, h4⟩ := h
  simp only [Value.slice.injEq] at hv
  obtain ⟨rfl, -, rfl⟩ := hv
  have hl : (l.take n).length = n := by simp; omega
  refine ⟨oct_take ho n, a, cap, by rw [hl], by rw [hl]; omega, h2, h3, fun hp => ?_⟩
  rw [hl] at hp
  obtain ⟨b, off, e, hlt, hc⟩ := h4 (by omega)
  refine ⟨b, off, e, hlt, fun i hi => ?_⟩
  rw [hl] at hi
  rw [hc i (by omega)]
  simp [hi]
theorem Bs.cap {w : World} {a : Option Addr} {n cap : Nat} {l : List Int} (h : Bs w (.slice a n cap) l) : l.length ≤ cap ∧ cap ≤ 9223372036854775807 := by
  obtain ⟨_, a', cap', hv, h1, h2, _⟩ := h
  simp only [Value.slice.injEq] at hv
  obtain ⟨-, -, rfl⟩ := hv
  exact ⟨h1, h2⟩

/-- A block of two cells (a log, boxed): what the walk asks of it. -/
theorem box2 {w : World} {g : Nat} {t : TypeId} {c0 c1 : Value} (h : w.heap[g]? = some (.cells #[c0, c1] t (0, 0))) :
    w.cell? ⟨g, 0, none⟩ = some c0 ∧ w.cell? ⟨g, 1, none⟩ = some c1 ∧ w.frozen? ⟨g, 0, none⟩ = false ∧ w.frozen? ⟨g, 1, none⟩ = false ∧ g < w.heap.size :=
  ⟨by rw [cell_of_row w g 0 _ t (0, 0) h]; rfl, by rw [cell_of_row w g 1 _ t (0, 0) h]; rfl, frozen_of_row w g 0 _ t h, frozen_of_row w g 1 _ t h, lt_of_heap h⟩
theorem box2_set0 {w : World} {g : Nat} {t : TypeId} {c0 c1 v : Value} (h : w.heap[g]? = some (.cells #[c0, c1] t (0, 0))) : (w.setCell ⟨g, 0, none⟩ v).heap[g]? = some (.cells #[v, c1] t (0, 0)) := by
  rw [heap_setCell_same w g 0 _ t v h]; rfl
theorem box2_set1 {w : World} {g : Nat} {t : TypeId} {c0 c1 v : Value} (h : w.heap[g]? = some (.cells #[c0, c1] t (0, 0))) : (w.setCell ⟨g, 1, none⟩ v).heap[g]? = some (.cells #[c0, v] t (0, 0)) := by
  rw [heap_setCell_same w g 1 _ t v h]; rfl
theorem box_other {w : World} {g k i : Nat} {o : Obj} {v : Value} (h : w.heap[g]? = some o) (hne : g ≠ k) : (w.setCell ⟨k, i, none⟩ v).heap[g]? = some o :=
  (Below.heap_setCell w ⟨k, i, none⟩ v g hne).trans h
theorem box_below {w w' : World} {g : Nat} {o : Obj} (hb : Below w.heap.size w w') (h : w.heap[g]? = some o) : w'.heap[g]? = some o := (hb.block g (lt_of_heap h)).trans h
theorem box_new (w : World) (o : Obj) : (w.alloc o).heap[w.heap.size]? = some o := heap_alloc_new w o
theorem box_alloc {w : World} {g : Nat} {o : Obj} (h : w.heap[g]? = some o) (o' : Obj) : (w.alloc o').heap[g]? = some o := (Below.heap_alloc w o' g (lt_of_heap h)).trans h
/-- Three blocks that were laid one behind the other. -/
theorem box3 (w : World) (o0 o1 o2 : Obj) : (((w.alloc o0).alloc o1).alloc o2).heap[w.heap.size]? = some o0 ∧ (((w.alloc o0).alloc o1).alloc o2).heap[w.heap.size + 1]? = some o1 ∧ (((w.alloc o0).alloc o1).alloc o2).heap[w.heap.size + 1 + 1]? = some o2 :=
  ⟨box_alloc (box_alloc (box_new w o0) o1) o2, box_alloc (by simpa using box_new (w.alloc o0) o1) o2, by simpa using box_new ((w.alloc o0).alloc o1) o2⟩
theorem box3_below (w : World) (o0 o1 o2 : Obj) : Below w.heap.size w (((w.alloc o0).alloc o1).alloc o2) := (((Below.refl _ _).alloc (Nat.le_refl _) _).alloc (by simp) _).alloc (by simp; omega) _

/-- Two blocks that were laid one behind the other. -/
theorem boxes2 (w : World) (o0 o1 : Obj) : ((w.alloc o0).alloc o1).heap[w.heap.size]? = some o0 ∧ ((w.alloc o0).alloc o1).heap[w.heap.size + 1]? = some o1 ∧ Below w.heap.size w ((w.alloc o0).alloc o1) :=
  ⟨box_alloc (box_new w o0) o1, by simpa using box_new (w.alloc o0) o1, ((Below.refl _ _).alloc (Nat.le_refl _) _).alloc (by simp) _⟩

theorem box_within {w w' : World} {B T g : Nat} {o : Obj} (hw : Within B T w w') (h : w.heap[g]? = some o) (hd : g < B ∨ T ≤ g) : w'.heap[g]? = some o := (hw.block g (lt_of_heap h) (by omega)).trans h

/-- Old cells, old marks read as before: two rules that the walk then uses by itself. -/
theorem bcell {W w1 : World} (hb : Below W.heap.size W w1) : (∀ b o, b < W.heap.size → w1.cell? ⟨b, o, none⟩ = W.cell? ⟨b, o, none⟩) ∧ (∀ b o, b < W.heap.size → w1.frozen? ⟨b, o, none⟩ = W.frozen? ⟨b, o, none⟩) :=
  ⟨fun b o h => hb.cell (p := ⟨b, o, none⟩) h, fun b o h => hb.frozen (p := ⟨b, o, none⟩) h⟩

/-- The value v reads as the log of the bytes a and b. -/
def LogV (w : World) (v : Value) (a b : List Int) : Prop := ∃ u0 u1, v = .agg #[u0, u1] ∧ Bs w u0 a ∧ Bs w u1 b
/-- A log of the call's own: its two slices lie in blocks from B on and below T, apart from each other. -/
def LogR (w : World) (B T : Nat) (v : Value) (a b : List Int) : Prop :=
  ∃ u0 u1 B0 T0 B1 T1, v = .agg #[u0, u1] ∧ Row w B0 T0 u0 a ∧ Row w B1 T1 u1 b ∧ B ≤ B0 ∧ T0 ≤ T ∧ B ≤ B1 ∧ T1 ≤ T ∧ (T0 ≤ B1 ∨ T1 ≤ B0)

theorem LogV.below {w w' : World} {v : Value} {a b : List Int} (h : LogV w v a b) (hb : Below w.heap.size w w') : LogV w' v a b :=
  let ⟨u0, u1, hv, h0, h1⟩ := h; ⟨u0, u1, hv, h0.below hb, h1.below hb⟩
theorem LogR.v {w : World} {B T : Nat} {v : Value} {a b : List Int} (h : LogR w B T v a b) : LogV w v a b :=
  let ⟨u0, u1, _, _, _, _, hv, h0, h1, _⟩ := h; ⟨u0, u1, hv, h0.bs, h1.bs⟩
theorem LogR.below {w w' : World} {B T : Nat} {v : Value} {a b : List Int} (h : LogR w B T v a b) (hb : Below w.heap.size w w') : LogR w' B T v a b :=
  let ⟨u0, u1, B0, T0, B1, T1, hv, h0, h1, r⟩ := h; ⟨u0, u1, B0, T0, B1, T1, hv, h0.below hb, h1.below hb, r⟩
theorem LogR.wide {w : World} {B T B' T' : Nat} {v : Value} {a b : List Int} (h : LogR w B T v a b) (hB : B' ≤ B) (hT : T ≤ T') : LogR w B' T' v a b :=
  let ⟨u0, u1, B0, T0, B1, T1, hv, h0, h1, r0, r1, r2, r3, r4⟩ := h; ⟨u0, u1, B0, T0, B1, T1, hv, h0, h1, by omega, by omega, by omega, by omega, r4⟩
theorem LogR.keptW {w w' : World} {B T B' T' : Nat} {v : Value} {a b : List Int} (h : LogR w B T v a b) (hw : Within B' T' w w') (hd : T ≤ B' ∨ T' ≤ B) : LogR w' B T v a b :=
  let ⟨u0, u1, B0, T0, B1, T1, hv, h0, h1, r0, r1, r2, r3, r4⟩ := h
  ⟨u0, u1, B0, T0, B1, T1, hv, h0.keptW hw (by omega), h1.keptW hw (by omega), r0, r1, r2, r3, r4⟩
theorem LogR.set {w : World} {g i B T : Nat} {v x : Value} {a b : List Int} (h : LogR w B T v a b) (hd : g < B ∨ T ≤ g) : LogR (w.setCell ⟨g, i, none⟩ x) B T v a b :=
  let ⟨u0, u1, B0, T0, B1, T1, hv, h0, h1, r0, r1, r2, r3, r4⟩ := h
  ⟨u0, u1, B0, T0, B1, T1, hv, h0.set (by omega), h1.set (by omega), r0, r1, r2, r3, r4⟩
theorem LogR.zero (w : World) (B T : Nat) (h : B ≤ T) : LogR w B T (.agg #[.slice none 0 0, .slice none 0 0]) [] [] :=
  ⟨_, _, B, B, B, T, rfl, Row.nil _ _ _, Row.nil _ _ _, Nat.le_refl _, h, Nat.le_refl _, Nat.le_refl _, .inl (Nat.le_refl _)⟩

end Go.Proofs.Ytodoofdbpffolaa

/- Commands in memory. -/
namespace Go.Proofs.Ytodoofdbpffolaa
open Go.RowKit

def I64 (n : Int) : Prop := -9223372036854775808 ≤ n ∧ n ≤ 9223372036854775807

/-- The value v reads as a command. -/
def CmdV (w : World) (v : Value) (k : Int) (bx tt : List Int) (uid mode fl si : Int) (tx : List Int) : Prop :=
  ∃ u0 u1 u2, v = .agg #[.int .i64 k, u0, u1, .int .i64 uid, .int .i64 mode, .int .i64 fl, .int .i64 si, u2] ∧ Bs w u0 bx ∧ Bs w u1 tt ∧ Bs w u2 tx ∧ I64 k ∧ I64 uid ∧ I64 mode ∧ I64 fl ∧ I64 si
theorem CmdV.below {w w' : World} {v : Value} {k : Int} {bx tt : List Int} {uid mode fl si : Int} {tx : List Int} (h : CmdV w v k bx tt uid mode fl si tx) (hb : Below w.heap.size w w') : CmdV w' v k bx tt uid mode fl si tx :=
  let ⟨u0, u1, u2, hv, h0, h1, h2, r⟩ := h; ⟨u0, u1, u2, hv, h0.below hb, h1.below hb, h2.below hb, r⟩

end Go.Proofs.Ytodoofdbpffolaa

/- Blocks that hold a struct: what the walk asks of them. -/
namespace Go.Proofs.Ytodoofdbpffolaa
open Go.RowKit

/-- A block of eight cells: what the walk asks of it. -/
theorem box8 {w : World} {g : Nat} {t : TypeId} {c0 c1 c2 c3 c4 c5 c6 c7 : Value} (h : w.heap[g]? = some (.cells #[c0, c1, c2, c3, c4, c5, c6, c7] t (0, 0))) :
    w.cell? ⟨g, 0, none⟩ = some c0 ∧ w.cell? ⟨g, 1, none⟩ = some c1 ∧ w.cell? ⟨g, 2, none⟩ = some c2 ∧ w.cell? ⟨g, 3, none⟩ = some c3 ∧ w.cell? ⟨g, 4, none⟩ = some c4 ∧ w.cell? ⟨g, 5, none⟩ = some c5 ∧ w.cell? ⟨g, 6, none⟩ = some c6 ∧ w.cell? ⟨g, 7, none⟩ = some c7 :=
  ⟨by rw [cell_of_row w g 0 _ t (0, 0) h]; rfl, by rw [cell_of_row w g 1 _ t (0, 0) h]; rfl, by rw [cell_of_row w g 2 _ t (0, 0) h]; rfl, by rw [cell_of_row w g 3 _ t (0, 0) h]; rfl,
   by rw [cell_of_row w g 4 _ t (0, 0) h]; rfl, by rw [cell_of_row w g 5 _ t (0, 0) h]; rfl, by rw [cell_of_row w g 6 _ t (0, 0) h]; rfl, by rw [cell_of_row w g 7 _ t (0, 0) h]; rfl⟩

end Go.Proofs.Ytodoofdbpffolaa

/- Commands of the call's own in memory; blocks of eight cells that are written. -/
namespace Go.Proofs.Ytodoofdbpffolaa
open Go.RowKit

/-- A command of the call's own: its three slices lie one behind the other in blocks from B on and below T. -/
def CmdR (w : World) (B T : Nat) (v : Value) (k : Int) (bx tt : List Int) (uid mode fl si : Int) (tx : List Int) : Prop :=
  ∃ u0 u1 u2 T0 T1, v = .agg #[.int .i64 k, u0, u1, .int .i64 uid, .int .i64 mode, .int .i64 fl, .int .i64 si, u2] ∧ Row w B T0 u0 bx ∧ Row w T0 T1 u1 tt ∧ Row w T1 T u2 tx ∧ B ≤ T0 ∧ T0 ≤ T1 ∧ T1 ≤ T ∧ I64 k ∧ I64 uid ∧ I64 mode ∧ I64 fl ∧ I64 si

section
variable {w w' : World} {B T B' T' : Nat} {x : Value} {k : Int} {bx tt : List Int} {uid mode fl si : Int} {tx : List Int}
theorem CmdR.v (h : CmdR w B T x k bx tt uid mode fl si tx) : CmdV w x k bx tt uid mode fl si tx :=
  let ⟨u0, u1, u2, _, _, hv, h0, h1, h2, _, _, _, r⟩ := h; ⟨u0, u1, u2, hv, h0.bs, h1.bs, h2.bs, r⟩
theorem CmdR.below (h : CmdR w B T x k bx tt uid mode fl si tx) (hb : Below w.heap.size w w') : CmdR w' B T x k bx tt uid mode fl si tx :=
  let ⟨u0, u1, u2, T0, T1, hv, h0, h1, h2, r⟩ := h; ⟨u0, u1, u2, T0, T1, hv, h0.below hb, h1.below hb, h2.below hb, r⟩
theorem CmdR.wide (h : CmdR w B T x k bx tt uid mode fl si tx) (hB : B' ≤ B) (hT : T ≤ T') : CmdR w B' T' x k bx tt uid mode fl si tx :=
  let ⟨u0, u1, u2, T0, T1, hv, h0, h1, h2, r0, r1, r2, r⟩ := h; ⟨u0, u1, u2, T0, T1, hv, h0.wide hB (Nat.le_refl _), h1, h2.wide (Nat.le_refl _) hT, by omega, r1, by omega, r⟩
theorem CmdR.keptW (h : CmdR w B T x k bx tt uid mode fl si tx) (hw : Within B' T' w w') (hd : T ≤ B' ∨ T' ≤ B) : CmdR w' B T x k bx tt uid mode fl si tx :=
  let ⟨u0, u1, u2, T0, T1, hv, h0, h1, h2, r0, r1, r2, r⟩ := h; ⟨u0, u1, u2, T0, T1, hv, h0.keptW hw (by omega), h1.keptW hw (by omega), h2.keptW hw (by omega), r0, r1, r2, r⟩
end

theorem box8l {w : World} {g : Nat} {t : TypeId} {c0 c1 c2 c3 c4 c5 c6 c7 : Value} (h : w.heap[g]? = some (.cells #[c0, c1, c2, c3, c4, c5, c6, c7] t (0, 0))) :
    w.cell? ⟨g, 0, none⟩ = some c0 ∧ w.cell? ⟨g, 1, none⟩ = some c1 ∧ w.cell? ⟨g, 2, none⟩ = some c2 ∧ w.cell? ⟨g, 3, none⟩ = some c3 ∧ w.cell? ⟨g, 4, none⟩ = some c4 ∧ w.cell? ⟨g, 5, none⟩ = some c5 ∧ w.cell? ⟨g, 6, none⟩ = some c6 ∧ w.cell? ⟨g, 7, none⟩ = some c7 ∧ g < w.heap.size := by
  obtain ⟨f0, f1, f2, f3, f4, f5, f6, f7⟩ := box8 h
  exact ⟨f0, f1, f2, f3, f4, f5, f6, f7, lt_of_heap h⟩

/-- A block of eight cells that is written: its marks. -/
theorem box8z {w : World} {g : Nat} {t : TypeId} {cs : Array Value} (h : w.heap[g]? = some (.cells cs t (0, 0))) : (∀ i, w.frozen? ⟨g, i, none⟩ = false) ∧ g < w.heap.size :=
  ⟨fun i => frozen_of_row w g i _ t h, lt_of_heap h⟩
theorem box_set {w : World} {g i : Nat} {t : TypeId} {cs : Array Value} {v : Value} (h : w.heap[g]? = some (.cells cs t (0, 0))) : (w.setCell ⟨g, i, none⟩ v).heap[g]? = some (.cells (cs.setIfInBounds i v) t (0, 0)) := heap_setCell_same w g i _ t v h
theorem box_size {w : World} {g i : Nat} {v : Value} : (w.setCell ⟨g, i, none⟩ v).heap.size = w.heap.size := by simp [World.setCell]

end Go.Proofs.Ytodoofdbpffolaa

/- Data with depth in memory: lists of structs, what they read as, and lists of the call's own, whose blocks lie in a set. -/
namespace Go.Proofs.Ytodoofdbpffolaa
open Go.RowKit

/-- The blocks from B on and below T. -/
def In (B T : Nat) : Nat → Prop := fun b => B ≤ b ∧ b < T

/-- The slice value v reads as the list l, each element of sz cells that E says. -/
def Rd {α : Type} (sz : Nat) (E : World → List Value → α → Prop) (w : World) (v : Value) (l : List α) : Prop :=
  ∃ (a : Option Addr) (cap : Nat) (cs : Nat → List Value), v = .slice a l.length cap ∧ l.length ≤ cap ∧ cap ≤ maxLen ∧ (a = none → cap = 0) ∧
    (∀ i x, l[i]? = some x → E w (cs i) x ∧ (cs i).length = sz) ∧
    (0 < l.length → ∃ b off, a = some ⟨b, off, none⟩ ∧ b < w.heap.size ∧ ∀ i j u, i < l.length → (cs i)[j]? = some u → w.cell? ⟨b, off + i * sz + j, none⟩ = some u)

/-- What an element says stays while nothing old turns. -/
def Keeps {α : Type} (E : World → List Value → α → Prop) : Prop := ∀ w w' c x, Below w.heap.size w w' → E w c x → E w' c x

section
variable {α : Type} {sz : Nat} {E : World → List Value → α → Prop} {w w' : World} {v : Value} {l : List α}
theorem Rd.below (hE : Keeps E) (h : Rd sz E w v l) (hb : Below w.heap.size w w') : Rd sz E w' v l := by
  obtain ⟨a, cap, cs, hv, h1, h2, h3, h4, h5⟩ := h
  refine ⟨a, cap, cs, hv, h1, h2, h3, fun i x hx => ⟨hE _ _ _ _ hb (h4 i x hx).1, (h4 i x hx).2⟩, fun hp => ?_⟩
  obtain ⟨b, off, ha, hlt, hc⟩ := h5 hp
  exact ⟨b, off, ha, Nat.lt_of_lt_of_le hlt hb.size, fun i j u hi hu => (hb.cell (p := ⟨b, off + i * sz + j, none⟩) hlt).trans (hc i j u hi hu)⟩
theorem Rd.form (h : Rd sz E w v l) : ∃ a cap, v = .slice a l.length cap ∧ l.length ≤ cap ∧ cap ≤ 9223372036854775807 := by
  obtain ⟨a, cap, cs, hv, h1, h2, _⟩ := h
  exact ⟨a, cap, hv, h1, h2⟩
theorem Rd.get (h : Rd sz E w v l) (k : Nat) (x : α) (hx : l[k]? = some x) :
    ∃ b off cap c, v = .slice (some ⟨b, off, none⟩) l.length cap ∧ b < w.heap.size ∧ E w c x ∧ c.length = sz ∧ ∀ j u, c[j]? = some u → w.cell? ⟨b, off + k * sz + j, none⟩ = some u := by
  obtain ⟨a, cap, cs, hv, h1, h2, h3, h4, h5⟩ := h
  have hk : k < l.length := (List.getElem?_eq_some_iff.1 hx).1
  obtain ⟨b, off, rfl, hlt, hc⟩ := h5 (by omega)
  exact ⟨b, off, cap, cs k, hv, hlt, (h4 k x hx).1, (h4 k x hx).2, fun j u hu => hc k j u hk hu⟩
theorem Rd.nil (w : World) : Rd sz E w (.slice none 0 0) ([] : List α) := ⟨none, 0, fun _ => [], rfl, by simp, by simp, fun _ => rfl, by simp, by simp⟩
end

/-- The list l of the call's own: nil, or at the head of a block of S; what its elements lead to lies in S too, apart from that block and from one another. -/
def Ow {α : Type} (t : TypeId) (sz : Nat) (E : World → List Value → α → (Nat → Prop) → Prop) (w : World) (S : Nat → Prop) (v : Value) (l : List α) : Prop :=
  (v = .slice none 0 0 ∧ l = []) ∨
  ∃ (g cap : Nat) (cur : Array Value) (cs : Nat → List Value) (fs : Nat → Nat → Prop), v = .slice (some ⟨g, 0, none⟩) l.length cap ∧ w.heap[g]? = some (.cells cur t (0, 0)) ∧ l.length ≤ cap ∧ cap ≤ maxLen ∧ cur.size = cap * sz ∧ S g ∧
    (∀ i x, l[i]? = some x → E w (cs i) x (fs i) ∧ (cs i).length = sz ∧ ∀ j u, (cs i)[j]? = some u → cur[i * sz + j]? = some u) ∧
    (∀ i b, i < l.length → fs i b → S b ∧ b ≠ g) ∧ (∀ i j b, i < l.length → j < l.length → i ≠ j → fs i b → ¬ fs j b)

/-- What an element of the call's own says stays while its blocks do. -/
def Frames {α : Type} (E : World → List Value → α → (Nat → Prop) → Prop) : Prop := ∀ w w' c x S, E w c x S → (∀ b, S b → b < w.heap.size → w'.heap[b]? = w.heap[b]?) → E w' c x S

section
variable {α : Type} {t : TypeId} {sz : Nat} {E : World → List Value → α → (Nat → Prop) → Prop} {w w' : World} {S S' : Nat → Prop} {v : Value} {l : List α}
theorem Ow.frame (hE : Frames E) (h : Ow t sz E w S v l) (hw : ∀ b, S b → b < w.heap.size → w'.heap[b]? = w.heap[b]?) : Ow t sz E w' S v l := by
  rcases h with h | ⟨g, cap, cur, cs, fs, hv, hh, h1, h2, h3, h4, h5, h6, h7⟩
  · exact .inl h
  · refine .inr ⟨g, cap, cur, cs, fs, hv, (hw g h4 (lt_of_heap hh)).trans hh, h1, h2, h3, h4, fun i x hx => ⟨?_, (h5 i x hx).2⟩, h6, h7⟩
    have hi : i < l.length := (List.getElem?_eq_some_iff.1 hx).1
    exact hE _ _ _ _ _ (h5 i x hx).1 fun b hb hlt => hw b (h6 i b hi hb).1 hlt
theorem Ow.mono (h : Ow t sz E w S v l) (hS : ∀ b, S b → S' b) : Ow t sz E w S' v l := by
  rcases h with h | ⟨g, cap, cur, cs, fs, hv, hh, h1, h2, h3, h4, h5, h6, h7⟩
  · exact .inl h
  · exact .inr ⟨g, cap, cur, cs, fs, hv, hh, h1, h2, h3, hS g h4, h5, fun i b hi hb => ⟨hS b (h6 i b hi hb).1, (h6 i b hi hb).2⟩, h7⟩
theorem Ow.below (hE : Frames E) (h : Ow t sz E w S v l) (hb : Below w.heap.size w w') : Ow t sz E w' S v l := h.frame hE fun b _ hlt => hb.block b hlt
theorem Ow.keptW {B T : Nat} (hE : Frames E) (h : Ow t sz E w S v l) (hw : Within B T w w') (hd : ∀ b, S b → ¬ (B ≤ b ∧ b < T)) : Ow t sz E w' S v l := h.frame hE fun b hb hlt => hw.block b hlt (hd b hb)
theorem Ow.rd {RE : World → List Value → α → Prop} (hE : ∀ w c x S, E w c x S → RE w c x) (h : Ow t sz E w S v l) : Rd sz RE w v l := by
  rcases h with ⟨rfl, rfl⟩ | ⟨g, cap, cur, cs, fs, hv, hh, h1, h2, h3, h4, h5, h6, h7⟩
  · exact Rd.nil w
  · refine ⟨some ⟨g, 0, none⟩, cap, cs, hv, h1, h2, (fun h => by cases h), fun i x hx => ⟨hE _ _ _ _ (h5 i x hx).1, (h5 i x hx).2.1⟩, fun hp => ⟨g, 0, rfl, lt_of_heap hh, fun i j u hi hu => ?_⟩⟩
    rw [Nat.zero_add, cell_of_row w g _ cur t (0, 0) hh]
    exact (h5 i l[i] (List.getElem?_eq_getElem hi)).2.2 j u hu
end

/-- The cells of c laid into block g from o on. -/
def put (w : World) (g o : Nat) : List Value → World
  | [] => w
  | c :: cs => put (w.setCell ⟨g, o, none⟩ c) g (o + 1) cs

theorem put_spec (g : Nat) (t : TypeId) : ∀ (cs : List Value) (w : World) (o : Nat) (cur : Array Value), w.heap[g]? = some (.cells cur t (0, 0)) → o + cs.length ≤ cur.size →
    ∃ cur', (put w g o cs).heap[g]? = some (.cells cur' t (0, 0)) ∧ cur'.size = cur.size ∧ (∀ j u, cs[j]? = some u → cur'[o + j]? = some u) ∧ (∀ i, i < o ∨ o + cs.length ≤ i → cur'[i]? = cur[i]?) ∧ Within g (g + 1) w (put w g o cs)
  | [], w, o, cur, h, _ => ⟨cur, h, rfl, by simp, fun _ _ => rfl, Within.refl _ _ _⟩
  | c :: cs, w, o, cur, h, hs => by
    simp only [List.length_cons] at hs
    have h1 : (w.setCell ⟨g, o, none⟩ c).heap[g]? = some (.cells (cur.setIfInBounds o c) t (0, 0)) := heap_setCell_same w g o cur t c h
    obtain ⟨cur', e1, e2, e3, e4, e5⟩ := put_spec g t cs (w.setCell ⟨g, o, none⟩ c) (o + 1) _ h1 (by simp; omega)
    refine ⟨cur', e1, by simpa using e2, fun j u hu => ?_, fun i hi => ?_, ?_⟩
    · cases j with
      | zero =>
        simp at hu; subst hu
        rw [Nat.add_zero, e4 o (.inl (by omega)), Array.getElem?_setIfInBounds]
        simp [show o < cur.size by omega]
      | succ j =>
        have := e3 j u (by simpa using hu)
        rwa [show o + (j + 1) = o + 1 + j by omega]
    · simp only [List.length_cons] at hi
      rw [e4 i (by omega)]
      rw [Array.getElem?_setIfInBounds]
      simp [show ¬ o = i by omega]
    · exact (⟨rfl, rfl, rfl, by simp [World.setCell], fun k hk hn => Below.heap_setCell w ⟨g, o, none⟩ c k (show k ≠ g by omega)⟩ : Within g (g + 1) w (w.setCell ⟨g, o, none⟩ c)).trans e5

/-- A list that is being laid: k of its elements lie there. -/
def Part {α : Type} (t : TypeId) (sz : Nat) (E : World → List Value → α → (Nat → Prop) → Prop) (w : World) (g n k : Nat) (l : List α) : Prop :=
  ∃ (cur : Array Value) (cs : Nat → List Value) (fs : Nat → Nat → Prop), w.heap[g]? = some (.cells cur t (0, 0)) ∧ cur.size = n * sz ∧
    (∀ i x, i < k → l[i]? = some x → E w (cs i) x (fs i) ∧ (cs i).length = sz ∧ ∀ j u, (cs i)[j]? = some u → cur[i * sz + j]? = some u) ∧
    (∀ i b, i < k → fs i b → g < b ∧ b < w.heap.size) ∧ (∀ i j b, i < k → j < k → i ≠ j → fs i b → ¬ fs j b)

section
variable {α : Type} {t : TypeId} {sz : Nat} {E : World → List Value → α → (Nat → Prop) → Prop} {w w' : World} {l : List α} {g n k : Nat}
theorem Part.start {cur : Array Value} (h : w.heap[g]? = some (.cells cur t (0, 0))) (hs : cur.size = n * sz) : Part t sz E w g n 0 l := ⟨cur, fun _ => [], fun _ _ => False, h, hs, by simp, by simp, by simp⟩
theorem Part.cell (h : Part t sz E w g n k l) (i : Nat) (hi : i < n * sz) : (∃ u, w.cell? ⟨g, i, none⟩ = some u) ∧ w.frozen? ⟨g, i, none⟩ = false := by
  obtain ⟨cur, cs, fs, hh, hs, _⟩ := h
  refine ⟨⟨cur[i]'(by omega), ?_⟩, frozen_of_row w g i cur t hh⟩
  rw [cell_of_row w g i cur t (0, 0) hh]
  simp
theorem Part.lt (h : Part t sz E w g n k l) : g < w.heap.size := let ⟨_, _, _, hh, _⟩ := h; lt_of_heap hh
theorem Part.step (hE : Frames E) (h : Part t sz E w g n k l) (hb : Below w.heap.size w w') (x : α) (hx : l[k]? = some x) (hk : k < n) (c : List Value) (hc : c.length = sz) (he : E w' c x (In w.heap.size w'.heap.size)) :
    Part t sz E (put w' g (k * sz) c) g n (k + 1) l := by
  obtain ⟨cur, cs, fs, hh, hs, h1, h2, h3⟩ := h
  have hg : g < w.heap.size := lt_of_heap hh
  have hroom : k * sz + sz ≤ n * sz := by
    have := Nat.mul_le_mul_right sz (show k + 1 ≤ n by omega)
    rw [Nat.add_mul, Nat.one_mul] at this
    exact this
  obtain ⟨cur', e1, e2, e3, e4, e5⟩ := put_spec g t c w' (k * sz) cur ((hb.block g hg).trans hh) (by omega)
  have same : ∀ b, b ≠ g → b < w.heap.size → (put w' g (k * sz) c).heap[b]? = w.heap[b]? := fun b hne hlt =>
    (e5.block b (Nat.lt_of_lt_of_le hlt hb.size) (by omega)).trans (hb.block b hlt)
  refine ⟨cur', fun i => if i = k then c else cs i, fun i => if i = k then In w.heap.size w'.heap.size else fs i, e1, by omega, fun i y hi hy => ?_, fun i b hi hb' => ?_, fun i j b hi hj hne hbi hbj => ?_⟩
  · by_cases hik : i = k
    · subst hik
      rw [hx] at hy; cases hy
      simp only [if_true]
      refine ⟨hE _ _ _ _ _ he fun b hb' hlt => e5.block b hlt (by have := hb'.1; omega), hc, fun j u hu => e3 j u hu⟩
    · simp only [if_neg hik]
      have hi' : i < k := by omega
      obtain ⟨q1, q2, q3⟩ := h1 i y hi' hy
      refine ⟨hE _ _ _ _ _ q1 fun b hb' hlt => same b (by have := (h2 i b hi' hb').1; omega) hlt, q2, fun j u hu => ?_⟩
      have hj : j < sz := by have := (List.getElem?_eq_some_iff.1 hu).1; omega
      have hlow : i * sz + j < k * sz := by
        have := Nat.mul_le_mul_right sz (show i + 1 ≤ k by omega)
        rw [Nat.add_mul, Nat.one_mul] at this
        omega
      rw [e4 _ (.inl hlow)]
      exact q3 j u hu
  · by_cases hik : i = k
    · simp only [hik, if_true] at hb'
      have := e5.size
      exact ⟨by have := hb'.1; omega, by have := hb'.2; omega⟩
    · simp only [if_neg hik] at hb'
      have := h2 i b (by omega) hb'
      have := e5.size
      have := hb.size
      omega
  · by_cases hik : i = k
    · by_cases hjk : j = k
      · omega
      · simp only [hik, if_true] at hbi
        simp only [if_neg hjk] at hbj
        have := h2 j b (by omega) hbj
        have := hbi.1
        omega
    · simp only [if_neg hik] at hbi
      by_cases hjk : j = k
      · simp only [hjk, if_true] at hbj
        have := h2 i b (by omega) hbi
        have := hbj.1
        omega
      · simp only [if_neg hjk] at hbj
        exact h3 i j b (by omega) (by omega) hne hbi hbj
theorem Part.done {B : Nat} (h : Part t sz E w g n n l) (hn : l.length = n) (hm : n ≤ maxLen) (hB : B ≤ g) : Ow t sz E w (In B w.heap.size) (.slice (some ⟨g, 0, none⟩) n n) l := by
  obtain ⟨cur, cs, fs, hh, hs, h1, h2, h3⟩ := h
  subst hn
  refine .inr ⟨g, l.length, cur, cs, fs, rfl, hh, Nat.le_refl _, hm, hs, ⟨hB, lt_of_heap hh⟩, fun i x hx => h1 i x (List.getElem?_eq_some_iff.1 hx).1 hx, fun i b hi hb => ?_, h3⟩
  have := h2 i b hi hb
  exact ⟨⟨by omega, this.2⟩, by omega⟩
theorem put_below {B : Nat} {w0 w : World} (hb : Below B w0 w) (hB : B ≤ g) (o : Nat) (c : List Value) : Below B w0 (put w g o c) := by
  induction c generalizing w o with
  | nil => exact hb
  | cons x c ih => exact ih (hb.setCell (p := ⟨g, o, none⟩) hB x) (o + 1)
end

end Go.Proofs.Ytodoofdbpffolaa

/- Mails, boxes and accounts in memory: what they read as, and those of the call's own. -/
namespace Go.Proofs.Ytodoofdbpffolaa
open Go.RowKit

structure MailD where
  uid : Int
  flags : Int
  seq : Int
  text : List Int
structure GoneD where
  uid : Int
  seq : Int
structure BoxD where
  name : List Int
  valid : Int
  next : Int
  seq : Int
  mails : List MailD
  gones : List GoneD
  lost : Int
structure AccD where
  valid : Int
  boxes : List BoxD
  seen : List Int

/-- A row of bytes of the call's own whose block lies in S. -/
def RO (w : World) (S : Nat → Prop) (v : Value) (l : List Int) : Prop := Oct l ∧ w.ownsRow 0 5 1 v l.length (vals l) ∧ ∀ g, v.ownBlock = some g → S g

theorem Row.ro {w : World} {B T : Nat} {v : Value} {l : List Int} (h : Row w B T v l) : RO w (In B T) v l :=
  ⟨h.1, (h.wide (B' := 0) (T' := T) (Nat.zero_le _) (Nat.le_refl _)).2.1, fun g hg => ⟨(h.2.1.lt g hg).1, h.2.2 g hg⟩⟩
theorem RO.bs {w : World} {S : Nat → Prop} {v : Value} {l : List Int} (h : RO w S v l) : Bs w v l := (own_of_row h.1 rfl h.2.1).elim fun _ h => h.2.bs
theorem RO.mono {w : World} {S S' : Nat → Prop} {v : Value} {l : List Int} (h : RO w S v l) (hS : ∀ b, S b → S' b) : RO w S' v l := ⟨h.1, h.2.1, fun g hg => hS g (h.2.2 g hg)⟩
theorem RO.frame {w w' : World} {S : Nat → Prop} {v : Value} {l : List Int} (h : RO w S v l) (hw : ∀ b, S b → b < w.heap.size → w'.heap[b]? = w.heap[b]?) : RO w' S v l := by
  refine ⟨h.1, ⟨h.2.1.1, ?_⟩, h.2.2⟩
  rcases h.2.1.2 with hn | ⟨g, cap, cur, hv, hg, hh, r⟩
  · exact .inl hn
  · exact .inr ⟨g, cap, cur, hv, hg, (hw g (h.2.2 g (by rw [hv]; rfl)) (lt_of_heap hh)).trans hh, r⟩
theorem RO.below {w w' : World} {S : Nat → Prop} {v : Value} {l : List Int} (h : RO w S v l) (hb : Below w.heap.size w w') : RO w' S v l := h.frame fun b _ hlt => hb.block b hlt
theorem RO.nil (w : World) (S : Nat → Prop) : RO w S (.slice none 0 0) [] := ⟨oct_nil, World.ownsRow_nil _ _ _ _, fun g hg => by simp [Value.ownBlock] at hg⟩

def IntRE (_ : World) (c : List Value) (n : Int) : Prop := c = [.int .i64 n] ∧ I64 n
def MailRE (w : World) (c : List Value) (m : MailD) : Prop := ∃ u, c = [.int .i64 m.uid, .int .i64 m.flags, .int .i64 m.seq, u] ∧ Bs w u m.text ∧ I64 m.uid ∧ I64 m.flags ∧ I64 m.seq
def GoneRE (_ : World) (c : List Value) (m : GoneD) : Prop := c = [.int .i64 m.uid, .int .i64 m.seq] ∧ I64 m.uid ∧ I64 m.seq
abbrev IntsV := Rd 1 IntRE
abbrev MailsV := Rd 4 MailRE
abbrev GonesV := Rd 2 GoneRE
def BoxRE (w : World) (c : List Value) (b : BoxD) : Prop :=
  ∃ u0 u1 u2, c = [u0, .int .i64 b.valid, .int .i64 b.next, .int .i64 b.seq, u1, u2, .int .i64 b.lost] ∧ Bs w u0 b.name ∧ MailsV w u1 b.mails ∧ GonesV w u2 b.gones ∧ I64 b.valid ∧ I64 b.next ∧ I64 b.seq ∧ I64 b.lost
abbrev BoxesV := Rd 7 BoxRE

theorem keepsInt : Keeps IntRE := fun _ _ _ _ _ h => h
theorem keepsGone : Keeps GoneRE := fun _ _ _ _ _ h => h
theorem keepsMail : Keeps MailRE := fun _ _ _ _ hb h => let ⟨u, h0, h1, r⟩ := h; ⟨u, h0, h1.below hb, r⟩
theorem keepsBox : Keeps BoxRE := fun _ _ _ _ hb h => let ⟨u0, u1, u2, h0, h1, h2, h3, r⟩ := h; ⟨u0, u1, u2, h0, h1.below hb, h2.below keepsMail hb, h3.below keepsGone hb, r⟩

def IntE (_ : World) (c : List Value) (n : Int) (_ : Nat → Prop) : Prop := c = [.int .i64 n] ∧ I64 n
def MailE (w : World) (c : List Value) (m : MailD) (S : Nat → Prop) : Prop := ∃ u, c = [.int .i64 m.uid, .int .i64 m.flags, .int .i64 m.seq, u] ∧ RO w S u m.text ∧ I64 m.uid ∧ I64 m.flags ∧ I64 m.seq
def GoneE (_ : World) (c : List Value) (m : GoneD) (_ : Nat → Prop) : Prop := c = [.int .i64 m.uid, .int .i64 m.seq] ∧ I64 m.uid ∧ I64 m.seq
theorem framesInt : Frames IntE := fun _ _ _ _ _ h _ => h
theorem framesGone : Frames GoneE := fun _ _ _ _ _ h _ => h
theorem framesMail : Frames MailE := fun _ _ _ _ _ h hw => let ⟨u, h0, h1, r⟩ := h; ⟨u, h0, h1.frame hw, r⟩
abbrev IntsO := Ow 3 1 IntE
abbrev MailsO := Ow 43 4 MailE
abbrev GonesO := Ow 53 2 GoneE
def BoxE (w : World) (c : List Value) (b : BoxD) (S : Nat → Prop) : Prop :=
  ∃ u0 u1 u2 S0 S1 S2, c = [u0, .int .i64 b.valid, .int .i64 b.next, .int .i64 b.seq, u1, u2, .int .i64 b.lost] ∧ RO w S0 u0 b.name ∧ MailsO w S1 u1 b.mails ∧ GonesO w S2 u2 b.gones ∧ (∀ x, S0 x → S x ∧ ¬ S1 x ∧ ¬ S2 x) ∧ (∀ x, S1 x → S x ∧ ¬ S2 x) ∧ (∀ x, S2 x → S x) ∧
    I64 b.valid ∧ I64 b.next ∧ I64 b.seq ∧ I64 b.lost
theorem framesBox : Frames BoxE := fun _ _ _ _ _ h hw =>
  let ⟨u0, u1, u2, S0, S1, S2, h0, h1, h2, h3, d0, d1, d2, r⟩ := h
  ⟨u0, u1, u2, S0, S1, S2, h0, h1.frame fun b hb => hw b (d0 b hb).1, h2.frame framesMail fun b hb => hw b (d1 b hb).1, h3.frame framesGone fun b hb => hw b (d2 b hb), d0, d1, d2, r⟩
abbrev BoxesO := Ow 31 7 BoxE
theorem MailE.rd {w : World} {c : List Value} {m : MailD} {S : Nat → Prop} (h : MailE w c m S) : MailRE w c m := let ⟨u, h0, h1, r⟩ := h; ⟨u, h0, h1.bs, r⟩
theorem BoxE.rd {w : World} {c : List Value} {b : BoxD} {S : Nat → Prop} (h : BoxE w c b S) : BoxRE w c b :=
  let ⟨u0, u1, u2, _, _, _, h0, h1, h2, h3, _, _, _, r⟩ := h; ⟨u0, u1, u2, h0, h1.bs, h2.rd fun _ _ _ _ => MailE.rd, h3.rd fun _ _ _ _ h => h, r⟩

def AccV (w : World) (v : Value) (a : AccD) : Prop := ∃ u0 u1, v = .agg #[.int .i64 a.valid, u0, u1] ∧ BoxesV w u0 a.boxes ∧ IntsV w u1 a.seen ∧ I64 a.valid
theorem AccV.below {w w' : World} {v : Value} {a : AccD} (h : AccV w v a) (hb : Below w.heap.size w w') : AccV w' v a := let ⟨u0, u1, h0, h1, h2, r⟩ := h; ⟨u0, u1, h0, h1.below keepsBox hb, h2.below keepsInt hb, r⟩
def AccO (w : World) (S : Nat → Prop) (v : Value) (a : AccD) : Prop := ∃ u0 u1 S0 S1, v = .agg #[.int .i64 a.valid, u0, u1] ∧ BoxesO w S0 u0 a.boxes ∧ IntsO w S1 u1 a.seen ∧ (∀ x, S0 x → S x ∧ ¬ S1 x) ∧ (∀ x, S1 x → S x) ∧ I64 a.valid
theorem AccO.v {w : World} {S : Nat → Prop} {v : Value} {a : AccD} (h : AccO w S v a) : AccV w v a :=
  let ⟨u0, u1, _, _, h0, h1, h2, _, _, r⟩ := h; ⟨u0, u1, h0, h1.rd fun _ _ _ _ => BoxE.rd, h2.rd fun _ _ _ _ h => h, r⟩
theorem AccO.frame {w w' : World} {S : Nat → Prop} {v : Value} {a : AccD} (h : AccO w S v a) (hw : ∀ b, S b → b < w.heap.size → w'.heap[b]? = w.heap[b]?) : AccO w' S v a :=
  let ⟨u0, u1, S0, S1, h0, h1, h2, d0, d1, r⟩ := h; ⟨u0, u1, S0, S1, h0, h1.frame framesBox fun b hb => hw b (d0 b hb).1, h2.frame framesInt fun b hb => hw b (d1 b hb), d0, d1, r⟩
theorem AccO.below {w w' : World} {S : Nat → Prop} {v : Value} {a : AccD} (h : AccO w S v a) (hb : Below w.heap.size w w') : AccO w' S v a := h.frame fun b _ hlt => hb.block b hlt
/-- A box as a value. -/
def BoxV (w : World) (v : Value) (b : BoxD) : Prop :=
  ∃ u0 u1 u2, v = .agg #[u0, .int .i64 b.valid, .int .i64 b.next, .int .i64 b.seq, u1, u2, .int .i64 b.lost] ∧ Bs w u0 b.name ∧ MailsV w u1 b.mails ∧ GonesV w u2 b.gones ∧ I64 b.valid ∧ I64 b.next ∧ I64 b.seq ∧ I64 b.lost
theorem BoxV.below {w w' : World} {v : Value} {b : BoxD} (h : BoxV w v b) (hb : Below w.heap.size w w') : BoxV w' v b := let ⟨u0, u1, u2, h0, h1, h2, h3, r⟩ := h; ⟨u0, u1, u2, h0, h1.below hb, h2.below keepsMail hb, h3.below keepsGone hb, r⟩
def BoxO (w : World) (S : Nat → Prop) (v : Value) (b : BoxD) : Prop := ∃ c, v = .agg c.toArray ∧ BoxE w c b S
theorem BoxO.v {w : World} {S : Nat → Prop} {v : Value} {b : BoxD} (h : BoxO w S v b) : BoxV w v b := by
  obtain ⟨c, rfl, h⟩ := h
  obtain ⟨u0, u1, u2, rfl, r⟩ := h.rd
  exact ⟨u0, u1, u2, rfl, r⟩
def MailV (w : World) (v : Value) (m : MailD) : Prop := ∃ u, v = .agg #[.int .i64 m.uid, .int .i64 m.flags, .int .i64 m.seq, u] ∧ Bs w u m.text ∧ I64 m.uid ∧ I64 m.flags ∧ I64 m.seq
theorem MailV.below {w w' : World} {v : Value} {m : MailD} (h : MailV w v m) (hb : Below w.heap.size w w') : MailV w' v m := let ⟨u, h0, h1, r⟩ := h; ⟨u, h0, h1.below hb, r⟩

/-- One element's cells, as the walk asks for them. -/
theorem IntsV.cell {w : World} {v : Value} {l : List Int} (h : IntsV w v l) (k : Nat) (x : Int) (hx : l[k]? = some x) : ∃ b off cap, v = .slice (some ⟨b, off, none⟩) l.length cap ∧ b < w.heap.size ∧ w.cell? ⟨b, off + k, none⟩ = some (.int .i64 x) ∧ I64 x := by
  obtain ⟨b, off, cap, c, hv, hlt, ⟨rfl, hi⟩, -, hc⟩ := h.get k x hx
  exact ⟨b, off, cap, hv, hlt, by simpa using hc 0 _ rfl, hi⟩
theorem GonesV.cell {w : World} {v : Value} {l : List GoneD} (h : GonesV w v l) (k : Nat) (x : GoneD) (hx : l[k]? = some x) : ∃ b off cap, v = .slice (some ⟨b, off, none⟩) l.length cap ∧ b < w.heap.size ∧ w.cell? ⟨b, off + k * 2, none⟩ = some (.int .i64 x.uid) ∧ w.cell? ⟨b, off + k * 2 + 1, none⟩ = some (.int .i64 x.seq) ∧ I64 x.uid ∧ I64 x.seq := by
  obtain ⟨b, off, cap, c, hv, hlt, ⟨rfl, hi⟩, -, hc⟩ := h.get k x hx
  exact ⟨b, off, cap, hv, hlt, hc 0 _ rfl, hc 1 _ rfl, hi⟩
theorem MailsV.cell {w : World} {v : Value} {l : List MailD} (h : MailsV w v l) (k : Nat) (x : MailD) (hx : l[k]? = some x) : ∃ b off cap u, v = .slice (some ⟨b, off, none⟩) l.length cap ∧ b < w.heap.size ∧ w.cell? ⟨b, off + k * 4, none⟩ = some (.int .i64 x.uid) ∧ w.cell? ⟨b, off + k * 4 + 1, none⟩ = some (.int .i64 x.flags) ∧
    w.cell? ⟨b, off + k * 4 + 2, none⟩ = some (.int .i64 x.seq) ∧ w.cell? ⟨b, off + k * 4 + 3, none⟩ = some u ∧ Bs w u x.text ∧ I64 x.uid ∧ I64 x.flags ∧ I64 x.seq := by
  obtain ⟨b, off, cap, c, hv, hlt, ⟨u, rfl, hu, hi⟩, -, hc⟩ := h.get k x hx
  exact ⟨b, off, cap, u, hv, hlt, hc 0 _ rfl, hc 1 _ rfl, hc 2 _ rfl, hc 3 _ rfl, hu, hi⟩
theorem BoxesV.cell {w : World} {v : Value} {l : List BoxD} (h : BoxesV w v l) (k : Nat) (x : BoxD) (hx : l[k]? = some x) : ∃ b off cap u0 u1 u2, v = .slice (some ⟨b, off, none⟩) l.length cap ∧ b < w.heap.size ∧ w.cell? ⟨b, off + k * 7, none⟩ = some u0 ∧ w.cell? ⟨b, off + k * 7 + 1, none⟩ = some (.int .i64 x.valid) ∧
    w.cell? ⟨b, off + k * 7 + 2, none⟩ = some (.int .i64 x.next) ∧ w.cell? ⟨b, off + k * 7 + 3, none⟩ = some (.int .i64 x.seq) ∧ w.cell? ⟨b, off + k * 7 + 4, none⟩ = some u1 ∧ w.cell? ⟨b, off + k * 7 + 5, none⟩ = some u2 ∧ w.cell? ⟨b, off + k * 7 + 6, none⟩ = some (.int .i64 x.lost) ∧
    Bs w u0 x.name ∧ MailsV w u1 x.mails ∧ GonesV w u2 x.gones ∧ I64 x.valid ∧ I64 x.next ∧ I64 x.seq ∧ I64 x.lost := by
  obtain ⟨b, off, cap, c, hv, hlt, ⟨u0, u1, u2, rfl, h0, h1, h2, hi⟩, -, hc⟩ := h.get k x hx
  exact ⟨b, off, cap, u0, u1, u2, hv, hlt, hc 0 _ rfl, hc 1 _ rfl, hc 2 _ rfl, hc 3 _ rfl, hc 4 _ rfl, hc 5 _ rfl, hc 6 _ rfl, h0, h1, h2, hi⟩

/-- How many values a mail, a list of mails, a box, a list of boxes hold. -/
def szM (l : List MailD) : Nat := (l.map fun m => m.text.length + 1).sum
def szX (b : BoxD) : Nat := b.name.length + szM b.mails + b.gones.length
def szXs (l : List BoxD) : Nat := (l.map fun b => szX b + 1).sum
theorem szM_mem {l : List MailD} {m : MailD} (h : m ∈ l) : m.text.length + 1 ≤ szM l := by
  induction l with
  | nil => cases h
  | cons x l ih =>
    simp only [szM, List.map_cons, List.sum_cons] at ih ⊢
    rcases List.mem_cons.1 h with rfl | h
    · omega
    · have := ih h; omega
theorem szXs_mem {l : List BoxD} {b : BoxD} (h : b ∈ l) : szX b + 1 ≤ szXs l := by
  induction l with
  | nil => cases h
  | cons x l ih =>
    simp only [szXs, List.map_cons, List.sum_cons] at ih ⊢
    rcases List.mem_cons.1 h with rfl | h
    · omega
    · have := ih h; omega
theorem szM_len (l : List MailD) : l.length ≤ szM l := by
  induction l with
  | nil => simp [szM]
  | cons x l ih => simp only [szM, List.map_cons, List.sum_cons, List.length_cons] at ih ⊢; omega
theorem szXs_len (l : List BoxD) : l.length ≤ szXs l := by
  induction l with
  | nil => simp [szXs]
  | cons x l ih => simp only [szXs, List.map_cons, List.sum_cons, List.length_cons] at ih ⊢; omega

end Go.Proofs.Ytodoofdbpffolaa

/- Lists of the call's own whose blocks lie between two; blocks of two, three, four, seven cells. -/
namespace Go.Proofs.Ytodoofdbpffolaa
open Go.RowKit

class Fr {α : Type} (E : World → List Value → α → (Nat → Prop) → Prop) : Prop where
  out : Frames E
instance : Fr IntE := ⟨framesInt⟩
instance : Fr MailE := ⟨framesMail⟩
instance : Fr GoneE := ⟨framesGone⟩
instance : Fr BoxE := ⟨framesBox⟩

def OwR {α : Type} (t : TypeId) (sz : Nat) (E : World → List Value → α → (Nat → Prop) → Prop) (w : World) (B T : Nat) (v : Value) (l : List α) : Prop := Ow t sz E w (In B T) v l
section
variable {α : Type} {t : TypeId} {sz : Nat} {E : World → List Value → α → (Nat → Prop) → Prop} {w w' : World} {B T B' T' g i : Nat} {v x : Value} {l : List α}
theorem OwR.ow (h : OwR t sz E w B T v l) : Ow t sz E w (In B T) v l := h
theorem OwR.wide (h : OwR t sz E w B T v l) (hB : B' ≤ B) (hT : T ≤ T') : OwR t sz E w B' T' v l := Ow.mono h fun _ hb => ⟨Nat.le_trans hB hb.1, Nat.lt_of_lt_of_le hb.2 hT⟩
theorem OwR.below [Fr E] (h : OwR t sz E w B T v l) (hb : Below w.heap.size w w') : OwR t sz E w' B T v l := Ow.below Fr.out h hb
theorem OwR.keptW [Fr E] (h : OwR t sz E w B T v l) (hw : Within B' T' w w') (hd : T ≤ B' ∨ T' ≤ B) : OwR t sz E w' B T v l := Ow.keptW Fr.out h hw fun b hb => by have := hb.1; have := hb.2; omega
theorem OwR.set [Fr E] (h : OwR t sz E w B T v l) (hd : g < B ∨ T ≤ g) : OwR t sz E (w.setCell ⟨g, i, none⟩ x) B T v l :=
  Ow.frame Fr.out h fun b hb _ => Below.heap_setCell w ⟨g, i, none⟩ x b (show b ≠ g by have := hb.1; have := hb.2; omega)
theorem OwR.form3 (h : OwR t sz E w B T v l) : ∃ a n cap, v = .slice a n cap := by
  rcases h with ⟨rfl, _⟩ | ⟨g, cap, cur, cs, fs, hv, _⟩
  · exact ⟨_, _, _, rfl⟩
  · exact ⟨_, _, _, hv⟩
theorem made_part {e : TypeId} {n : Nat} {xs : List Value} (h : w.ownsRow B e sz (.slice (some ⟨g, 0, none⟩) n n) n xs) : ∃ cur, w.heap[g]? = some (.cells cur e (0, 0)) ∧ cur.size = n * sz := by
  rcases h.2 with ⟨h, _⟩ | ⟨g', c, cur, h, _, hh, _, _, h3, _⟩
  · simp at h
  · simp only [Value.slice.injEq, Option.some.injEq, Addr.mk.injEq, and_true, true_and] at h
    obtain ⟨rfl, rfl⟩ := h
    exact ⟨cur, hh, h3⟩
end
abbrev IntsR := OwR 3 1 IntE
abbrev MailsR := OwR 43 4 MailE
abbrev GonesR := OwR 53 2 GoneE
abbrev BoxesR := OwR 31 7 BoxE

theorem bx2 {w : World} {g : Nat} {t : TypeId} {c0 c1 : Value} (h : w.heap[g]? = some (.cells #[c0, c1] t (0, 0))) : w.cell? ⟨g, 0, none⟩ = some c0 ∧ w.cell? ⟨g, 1, none⟩ = some c1 :=
  ⟨by rw [cell_of_row w g 0 _ t (0, 0) h]; rfl, by rw [cell_of_row w g 1 _ t (0, 0) h]; rfl⟩
theorem bx3 {w : World} {g : Nat} {t : TypeId} {c0 c1 c2 : Value} (h : w.heap[g]? = some (.cells #[c0, c1, c2] t (0, 0))) : w.cell? ⟨g, 0, none⟩ = some c0 ∧ w.cell? ⟨g, 1, none⟩ = some c1 ∧ w.cell? ⟨g, 2, none⟩ = some c2 :=
  ⟨by rw [cell_of_row w g 0 _ t (0, 0) h]; rfl, by rw [cell_of_row w g 1 _ t (0, 0) h]; rfl, by rw [cell_of_row w g 2 _ t (0, 0) h]; rfl⟩
theorem bx4 {w : World} {g : Nat} {t : TypeId} {c0 c1 c2 c3 : Value} (h : w.heap[g]? = some (.cells #[c0, c1, c2, c3] t (0, 0))) : w.cell? ⟨g, 0, none⟩ = some c0 ∧ w.cell? ⟨g, 1, none⟩ = some c1 ∧ w.cell? ⟨g, 2, none⟩ = some c2 ∧ w.cell? ⟨g, 3, none⟩ = some c3 :=
  ⟨by rw [cell_of_row w g 0 _ t (0, 0) h]; rfl, by rw [cell_of_row w g 1 _ t (0, 0) h]; rfl, by rw [cell_of_row w g 2 _ t (0, 0) h]; rfl, by rw [cell_of_row w g 3 _ t (0, 0) h]; rfl⟩
theorem bx7 {w : World} {g : Nat} {t : TypeId} {c0 c1 c2 c3 c4 c5 c6 : Value} (h : w.heap[g]? = some (.cells #[c0, c1, c2, c3, c4, c5, c6] t (0, 0))) :
    w.cell? ⟨g, 0, none⟩ = some c0 ∧ w.cell? ⟨g, 1, none⟩ = some c1 ∧ w.cell? ⟨g, 2, none⟩ = some c2 ∧ w.cell? ⟨g, 3, none⟩ = some c3 ∧ w.cell? ⟨g, 4, none⟩ = some c4 ∧ w.cell? ⟨g, 5, none⟩ = some c5 ∧ w.cell? ⟨g, 6, none⟩ = some c6 :=
  ⟨by rw [cell_of_row w g 0 _ t (0, 0) h]; rfl, by rw [cell_of_row w g 1 _ t (0, 0) h]; rfl, by rw [cell_of_row w g 2 _ t (0, 0) h]; rfl, by rw [cell_of_row w g 3 _ t (0, 0) h]; rfl,
   by rw [cell_of_row w g 4 _ t (0, 0) h]; rfl, by rw [cell_of_row w g 5 _ t (0, 0) h]; rfl, by rw [cell_of_row w g 6 _ t (0, 0) h]; rfl⟩

end Go.Proofs.Ytodoofdbpffolaa

/- What toMail, toMailS of package laws do. -/
namespace Go.Proofs.Ytodoofdbpffolaa
open Go.RowKit
set_option maxRecDepth 100000
set_option linter.unusedVariables false

set_option maxRecDepth 100000 in
set_option maxHeartbeats 1000000 in
theorem toMail_o (v : Value) (x : MailD) (w : World) (hv : MailV w v x) (h0 : x.text.length ≤ 2000000) :
    Calls Try.prog 38 #[v] w fun e w' => ∃ u, e = .returned u ∧ (∃ a n c, u = .agg #[.int .i64 x.uid, .int .i64 x.flags, .int .i64 x.seq, .slice a n c] ∧ MailE w' [.int .i64 x.uid, .int .i64 x.flags, .int .i64 x.seq, .slice a n c] x (In w.heap.size w'.heap.size)) ∧ Below w.heap.size w w' := by
  obtain ⟨u, rfl, g0, i0, i1, i2⟩ := hv
  obtain ⟨uid, flags, seq, text⟩ := x
  simp only at g0 i0 i1 i2 h0
  have H0 : Hid (∀ wi, Below w.heap.size w wi → Bs wi u text) := fun wi h => g0.below h
  obtain ⟨a0, n0, c0, rfl⟩ := g0.form3
  have HI : Hid (I64 uid ∧ I64 flags ∧ I64 seq) := ⟨i0, i1, i2⟩
  clear g0 i0 i1 i2
  simp only
  go_enter Try.func38, Try.ntmps38
  go_wp2_with fail
  refine (toByteS_r _ text _ (H0.out _ (box3_below w _ _ _)) h0).mono ?_
  rintro e w1 ⟨u0, rfl, R0, B⟩
  obtain ⟨x0, m0, y0, rfl⟩ := R0.bs.form3
  have b3 := box3 w (.cells #[.int .i64 uid, .int .i64 flags, .int .i64 seq, .slice a0 n0 c0] 63) (.cells #[.int .i64 0, .int .i64 0, .int .i64 0, .slice none 0 0] 43) (.cells #[.int .i64 uid, .int .i64 flags, .int .i64 seq, .slice none 0 0] 43)
  have kA := box_below B b3.1
  have kR := box_below B b3.2.1
  have kO := box_below B b3.2.2
  have s1 : w.heap.size + 3 ≤ w1.heap.size := by have := B.size; simp at this; omega
  have X := Below.step (box3_below w _ _ _) B
  replace R0 := R0.wide (B' := w.heap.size + 3) (T' := w1.heap.size) (by simp) (Nat.le_refl _)
  clear b3 B
  obtain ⟨-, -, -, -⟩ := bx4 kA
  obtain ⟨oz, ol⟩ := box8z kO
  obtain ⟨o0, o1, o2, o3⟩ := bx4 kO
  obtain ⟨rz, rl⟩ := box8z kR
  obtain ⟨r0, r1, r2, r3⟩ := bx4 kR
  go_wp2
  refine bodyPost_ret (v := .agg #[.int .i64 uid, .int .i64 flags, .int .i64 seq, .slice x0 m0 y0]) (by simp [results, Try.results38, go_sem, r0, r1, r2, r3]) rfl ⟨_, rfl, ?_, ?_⟩
  · simp only [box_size]
    exact ⟨_, _, _, rfl, _, rfl, Row.ro (Row.wide ((((((R0.set (g := w.heap.size + 1 + 1) (i := 3) (x := .slice x0 m0 y0) (.inl (by omega))).set (g := w.heap.size + 1) (i := 0) (x := .int .i64 uid) (.inl (by omega))).set (g := w.heap.size + 1) (i := 1) (x := .int .i64 flags) (.inl (by omega))).set (g := w.heap.size + 1) (i := 2) (x := .int .i64 seq) (.inl (by omega))).set (g := w.heap.size + 1) (i := 3) (x := .slice x0 m0 y0) (.inl (by omega)))) (by omega) (Nat.le_refl _)), HI.out⟩
  · exact (((((X.setCell (p := ⟨w.heap.size + 1 + 1, 3, none⟩) (by simp <;> omega) (.slice x0 m0 y0)).setCell (p := ⟨w.heap.size + 1, 0, none⟩) (by simp <;> omega) (.int .i64 uid)).setCell (p := ⟨w.heap.size + 1, 1, none⟩) (by simp <;> omega) (.int .i64 flags)).setCell (p := ⟨w.heap.size + 1, 2, none⟩) (by simp <;> omega) (.int .i64 seq)).setCell (p := ⟨w.heap.size + 1, 3, none⟩) (by simp <;> omega) (.slice x0 m0 y0))

theorem infoMail : (Try.prog.info? 43).map (fun i => (i.zero, i.size, i.bytes)) = some (some (.agg #[.int .i64 0, .int .i64 0, .int .i64 0, .slice none 0 0]), 4, 48) := by kernel_rfl

set_option maxRecDepth 100000 in
set_option maxHeartbeats 1000000 in
theorem toMailS_r (v : Value) (l : List MailD) (w : World) (hv : MailsV w v l) (hl : szM l ≤ 2000000) :
    Calls Try.prog 19 #[v] w fun e w' => ∃ u, e = .returned u ∧ MailsR w' w.heap.size w'.heap.size u l ∧ Below w.heap.size w w' := by
  have HV : Hid (∀ wi, Below w.heap.size w wi → MailsV wi v l) := fun wi h => hv.below keepsMail h
  obtain ⟨a, cap, rfl, hlc, hcm⟩ := hv.form
  have hll : l.length ≤ 2000000 := by have := szM_len l; omega
  clear hv
  obtain ⟨i0, hi, hz0, hz1, hz2⟩ := info_parts infoMail
  go_enter Try.func19, Try.ntmps19
  go_wp2_with (at_make; refine wpList_make_full _ rfl _ _ 28 rfl w.heap.size 43 i0 (.agg #[.int .i64 0, .int .i64 0, .int .i64 0, .slice none 0 0]) 4 Try.underlying28 hi hz0 hz1 _ _ _ _ l.length rfl rfl rfl rfl ?b1 ?b2 ?b3 ?_)
  case b1 => rw [hz2]; omega
  case b2 => unfold maxLen; omega
  case b3 => exact Nat.le_refl _
  intro w1 hown hgrow
  have HB : Hid (Below w.heap.size w w1) := (Below.refl w.heap.size w).grown hgrow (Nat.le_refl _) (by simp)
  have HP : Hid (Part 43 4 MailE w1 w.heap.size l.length 0 l) := by obtain ⟨cur, h1, h2⟩ := made_part hown; exact Part.start h1 h2
  clear hown hgrow hi hz0 hz1 hz2
  go_wp2
  go_loopw [4] (fun i wr => ∃ k : Nat, k ≤ l.length ∧ i = .int .i64 k ∧ Hid (Part 43 4 MailE wr w.heap.size l.length k l) ∧ Hid (Below w.heap.size w wr)) (fun i _ => l.length - (intOf i).toNat)
  case atStart => exact ⟨0, Nat.zero_le _, rfl, HP, HB⟩
  case round =>
    obtain ⟨k, hk, rfl, hP, hB⟩ := hrel
    by_cases hlt : k < l.length
    · obtain ⟨x, hx⟩ : ∃ x, l[k]? = some x := ⟨l[k], List.getElem?_eq_getElem hlt⟩
      obtain ⟨b, off, cap', u, hv', hlb, d0, d1, d2, d3, hu, i0, i1, i2⟩ := MailsV.cell (HV.out wr hB.out) k x hx
      simp only [Value.slice.injEq, true_and] at hv'
      obtain ⟨rfl, rfl⟩ := hv'
      obtain ⟨ua, un, uc, rfl⟩ := hu.form3
      go_wp2_with fail
      refine (toMail_o _ x _ ⟨_, rfl, hu, i0, i1, i2⟩ (by have := szM_mem (List.mem_of_getElem? hx); omega)).mono ?_
      rintro e w2 ⟨_, rfl, ⟨ya, yn, yc, rfl, he⟩, B⟩
      clear d0 d1 d2 d3
      have hs2 := B.size
      have HS : Hid (Part 43 4 MailE (put w2 w.heap.size (k * 4) [.int .i64 x.uid, .int .i64 x.flags, .int .i64 x.seq, .slice ya yn yc]) w.heap.size l.length (k + 1) l) := Part.step framesMail hP.out B x hx hlt _ rfl he
      have HB2 : Hid (Below w.heap.size w w2) := Below.step hB.out B
      have hgl := hP.out.lt
      have hgl2 : w.heap.size < w2.heap.size := by omega
      obtain ⟨q0, t0⟩ := (show ∃ u, w2.cell? ⟨w.heap.size, k * 4, none⟩ = some u from by obtain ⟨⟨u, hu⟩, -⟩ := hP.out.cell (k * 4) (by omega); exact ⟨u, (B.cell (p := ⟨w.heap.size, k * 4, none⟩) hgl).trans hu⟩)
      obtain ⟨q1, t1⟩ := (show ∃ u, w2.cell? ⟨w.heap.size, k * 4 + 1, none⟩ = some u from by obtain ⟨⟨u, hu⟩, -⟩ := hP.out.cell (k * 4 + 1) (by omega); exact ⟨u, (B.cell (p := ⟨w.heap.size, k * 4 + 1, none⟩) hgl).trans hu⟩)
      obtain ⟨q2, t2⟩ := (show ∃ u, w2.cell? ⟨w.heap.size, k * 4 + 2, none⟩ = some u from by obtain ⟨⟨u, hu⟩, -⟩ := hP.out.cell (k * 4 + 2) (by omega); exact ⟨u, (B.cell (p := ⟨w.heap.size, k * 4 + 2, none⟩) hgl).trans hu⟩)
      obtain ⟨q3, t3⟩ := (show ∃ u, w2.cell? ⟨w.heap.size, k * 4 + 3, none⟩ = some u from by obtain ⟨⟨u, hu⟩, -⟩ := hP.out.cell (k * 4 + 3) (by omega); exact ⟨u, (B.cell (p := ⟨w.heap.size, k * 4 + 3, none⟩) hgl).trans hu⟩)
      have fz : ∀ i, w2.frozen? ⟨w.heap.size, i, none⟩ = false := by
        intro i
        obtain ⟨cur, cs, fs, hh, -⟩ := hP.out
        exact frozen_of_row w2 w.heap.size i cur 43 (box_below B hh)
      clear hP hB B he
      go_wp2
      go_roundw
      case rel => exact ⟨k + 1, by omega, by go_num, HS, put_below HB2.out (Nat.le_refl _) (k * 4) [.int .i64 x.uid, .int .i64 x.flags, .int .i64 x.seq, .slice ya yn yc]⟩
      case measure => simp [intOf]; omega
    · obtain rfl : k = l.length := by omega
      go_wp2
      go_ret
      exact ⟨_, rfl, Part.done hP.out rfl (by unfold maxLen; omega) (Nat.le_refl _), hB.out⟩

end Go.Proofs.Ytodoofdbpffolaa
