/- What l1New, l1some and l1num of package spec answer. -/
import Derived.Test.YtiafkmjndcfjlaaDoorDraw1
namespace Go.Proofs.YtiafkmjndcfjlaaDoor
open Go.RowKit
set_option maxRecDepth 100000

theorem grownBy_belowB {w w1 w2 : World} {r : Option Nat} {B : Nat} (h : w.grownBy w1 r) (hb : Below B w1 w2) (hB : w.heap.size ≤ B) : w.grownBy w2 r :=
  ⟨hb.os.trans h.os, hb.tape.trans h.tape, hb.output.trans h.output, Nat.le_trans h.size hb.size, fun k hk hne => (hb.block k (Nat.lt_of_lt_of_le hk hB)).trans (h.block k hk hne)⟩
theorem Cur.belowB {w0 w w' : World} {g B : Nat} {cv : Value} {L : List Int} (h : Cur w0 w g cv L) (hb : Below B w w') (hg : g < B) : Cur w0 w' g cv L := by
  obtain ⟨hg0, hB, hbs, i, q, h0, h1, hh⟩ := h
  exact ⟨hg0, hB.trans (hb.mono (by omega)), hbs, i, q, h0, h1, (hb.block g hg).trans hh⟩
theorem OwnB.drawn {w w' : World} {g B : Nat} {v : Value} {l : List Int} (h : OwnB w B v l) (hw : w.grownBy w' (some g)) (hd : g < B) : OwnB w' B v l := by
  obtain ⟨k, hk, ho⟩ := h
  exact ⟨k, hk, ho.kept hw (by omega)⟩

set_option maxRecDepth 100000 in
set_option maxHeartbeats 400000 in
theorem l1New_any (v : Value) (L : List Int) (w : World) (hv : Bs w v L) :
    Calls Tryd.prog 15 #[v] w fun e w' => ∃ g, e = .returned (.pointer (some ⟨g, 0, none⟩)) ∧ Cur w w' g v L ∧ Below w.heap.size w w' := by
  have HBS : Hid (Bs w v L) := hv
  obtain ⟨ho, a, cap, rfl, hlc, hcm, hnil, hcells⟩ := hv
  unfold maxLen at hcm
  go_enter Tryd.func15, Tryd.ntmps15
  go_wp2
  go_loop [3, 4] (fun h i => ∃ (q : Int) (k : Nat), h = .int .i64 q ∧ i = .int .i64 k ∧ k ≤ L.length ∧ k ≤ 4000) (fun _ i => 4000 - (intOf i).toNat)
  case atStart => exact ⟨_, 0, rfl, rfl, Nat.zero_le _, Nat.zero_le _⟩
  case round =>
    obtain ⟨q, k, rfl, rfl, hk, hk4⟩ := hrel
    by_cases h1 : k < L.length
    · by_cases h2 : k < 4000
      · obtain ⟨b, off, rfl, hlb, hc⟩ := hcells (by omega)
        have hx := hc k h1
        have hb := oct_get ho k
        obtain ⟨x, hxe⟩ : ∃ x, x = L.getD k 0 := ⟨_, rfl⟩
        rw [← hxe] at hx hb
        clear hc hcells hxe
        go_wp2
        go_round
        case rel => exact ⟨_, k + 1, rfl, by go_num, by omega, by omega⟩
        case measure => simp [intOf]; omega
      · go_wp2
        go_ret
        exact ⟨w.heap.size, rfl, ⟨Nat.le_refl _, (Below.refl _ _).alloc (Nat.le_refl _) _, HBS.out, 0, q, by omega, by omega, heap_alloc_new w _⟩, (Below.refl _ _).alloc (Nat.le_refl _) _⟩
    · go_wp2
      go_ret
      exact ⟨w.heap.size, rfl, ⟨Nat.le_refl _, (Below.refl _ _).alloc (Nat.le_refl _) _, HBS.out, 0, q, by omega, by omega, heap_alloc_new w _⟩, (Below.refl _ _).alloc (Nat.le_refl _) _⟩

set_option maxHeartbeats 1000000 in
theorem l1some_any (w0 w : World) (g : Nat) (cv : Value) (L : List Int) (most : Nat) (hc : Cur w0 w g cv L) (hm : most ≤ 1000) :
    Calls Tryd.prog 17 #[.pointer (some ⟨g, 0, none⟩), .int .i64 most] w fun e w' => ∃ u l, e = .returned u ∧ l.length ≤ most ∧ Row w' w.heap.size w'.heap.size u l ∧ Cur w0 w' g cv L ∧ w.grownBy w' (some g) := by
  obtain ⟨i0, hi, hz0, hz1, hz2⟩ := info_parts info5
  have hlt := hc.lt
  obtain ⟨hlt0, hlt1⟩ := hlt
  go_enter Tryd.func17, Tryd.ntmps17
  go_wp2_with fail
  refine (l1Below_any w0 _ g cv L (most + 1) hc (by omega) (by omega)).mono ?_
  rintro e w1 ⟨x, rfl, hx0, hx1, hc1, hg1⟩
  obtain ⟨n, rfl⟩ := Int.eq_ofNat_of_zero_le hx0
  have HC1 : Hid (Cur w0 w1 g cv L ∧ w.grownBy w1 (some g)) := ⟨hc1, hg1⟩
  clear hc1 hg1 hc
  go_wp2
  go_loopw [5, 7] (fun q i wr => ∃ (k : Nat) (xs : List Int), k ≤ n ∧ i = .int .i64 k ∧ xs.length = k ∧ Hid (OwnB wr w.heap.size q xs ∧ Cur w0 wr g cv L ∧ w.grownBy wr (some g))) (fun _ i _ => n - (intOf i).toNat)
  case atStart => exact ⟨0, [], Nat.zero_le _, rfl, rfl, (Row.nil _ _ 0).own, HC1.out.1, HC1.out.2⟩
  case round =>
    obtain ⟨k, xs, hk, rfl, hxl, HR⟩ := hrel
    have HXL : Hid (xs.length = k) := hxl
    clear HC1 hxl
    by_cases hkn : k < n
    · go_wp2_with fail
      refine (l1Byte_any w0 _ g cv L HR.out.2.1).mono ?_
      rintro e w2 ⟨y, rfl, hy0, hy1, hc2, hg2⟩
      have HO : Hid (OwnB w2 w.heap.size _ xs) := HR.out.1.drawn hg2 hlt1
      have HG : Hid (w.grownBy w2 (some g) ∧ Cur w0 w2 g cv L) := ⟨grownBy_trans HR.out.2.2 hg2, hc2⟩
      have hsz : w.heap.size ≤ w2.heap.size := HG.out.1.size
      clear HR hc2 hg2
      go_wp2_with (at_builtin; refine wpList_append_bytes rfl (.tmp 17) (.tmp 21) 22 rfl i0 Tryd.underlying22 hi hz0 hz1 hz2 w.heap.size _ xs rfl (HO.out.alloc _) _ [y] rfl (bs_one _ _ (by omega)) (by rw [HXL.out]; simp; omega) (by simp; omega) _ (Below.refl _ _) ?_)
      intro v3 w3 hO3 hB3 _
      have HR3 : Hid (OwnB w3 w.heap.size v3 (xs ++ [y]) ∧ Cur w0 w3 g cv L ∧ w.grownBy w3 (some g)) :=
        ⟨hO3, (HG.out.2.belowB ((Below.refl _ _).alloc hsz _) hlt1).belowB hB3 hlt1, grownBy_belowB HG.out.1 (((Below.refl _ _).alloc hsz _).trans hB3) (Nat.le_refl _)⟩
      clear hO3 hB3
      go_wp2
      go_roundw
      case rel => exact ⟨k + 1, xs ++ [y], by omega, by go_num, by rw [List.length_append, HXL.out]; rfl, HR3⟩
      case measure => simp [intOf]; omega
    · go_wp2
      go_ret
      exact ⟨_, xs, rfl, by rw [HXL.out]; omega, HR.out.1.toRow, HR.out.2.1, HR.out.2.2⟩

/-- Ints in a block that was just laid. -/
theorem ints_made (w : World) (g : Nat) (xs : List Int) (t : TypeId) (hg : g < w.heap.size) (h0 : 1 ≤ xs.length) (h1 : xs.length ≤ 1000) (hx : ∀ x ∈ xs, -9223372036854775808 ≤ x ∧ x ≤ 9223372036854775807) :
    Ints (w.alloc (.cells (xs.map (Value.int .i64)).toArray t)) (.slice (some ⟨w.heap.size, 0, none⟩) xs.length xs.length) g xs.length := by
  refine ⟨h0, h1, w.heap.size, by omega, by simp, rfl, fun i hi => ⟨xs[i], ?_, hx _ (List.getElem_mem hi)⟩⟩
  rw [cell_of_row _ _ i _ t (0, 0) (heap_alloc_new w _)]
  simp [hi]

end Go.Proofs.YtiafkmjndcfjlaaDoor
