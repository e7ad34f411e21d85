/- The drawing cursor of package spec: what l1Byte and l1Below answer lies in its bounds; they write into the cursor alone. -/
import Derived.Test.YtiafkmjndcfjlaaDoorBase
import Derived.Laws.BitsAllLaws
namespace Go.Proofs.YtiafkmjndcfjlaaDoor
open Go.RowKit
set_option maxRecDepth 100000

/-- The cursor at block g: it holds the slice cv of the bytes L, a place in it, and some number; below w0's size nothing has turned since w0. -/
def Cur (w0 w : World) (g : Nat) (cv : Value) (L : List Int) : Prop :=
  w0.heap.size ≤ g ∧ Below w0.heap.size w0 w ∧ Bs w0 cv L ∧ ∃ i h : Int, 0 ≤ i ∧ i ≤ L.length ∧ w.heap[g]? = some (.cells #[cv, .int .i64 i, .int .i64 h] 54 (0, 0))

theorem and255 (x : Int) : 0 ≤ bits BinOp.and IntKind.i64 x 255 ∧ bits BinOp.and IntKind.i64 x 255 ≤ 255 := by
  have e : bits BinOp.and IntKind.i64 x 255 = IntKind.i64.wrap ((BitVec.ofInt 64 x &&& BitVec.ofInt 64 255).toNat : Int) := rfl
  have hb : (BitVec.ofInt 64 x &&& BitVec.ofInt 64 255).toNat ≤ 255 := by
    rw [BitVec.toNat_and]
    exact Nat.and_le_right
  rw [e, IntWalk.i64_in _ (by omega)]
  omega

theorem grownBy_drewN {w w' : World} {r : Option Nat} (h : w.grownBy w' r) (n : Nat) : w.grownBy (w'.drewN n) r := ⟨h.os, h.tape, h.output, h.size, h.block⟩
theorem set_h {w : World} {g : Nat} {c0 c1 c2 v : Value} {t : TypeId} (h : w.heap[g]? = some (.cells #[c0, c1, c2] t (0, 0))) : (w.setCell ⟨g, 2, none⟩ v).heap[g]? = some (.cells #[c0, c1, v] t (0, 0)) := by
  rw [heap_setCell_same w g 2 _ t v h]; rfl
theorem set_i {w : World} {g : Nat} {c0 c1 c2 v : Value} {t : TypeId} (h : w.heap[g]? = some (.cells #[c0, c1, c2] t (0, 0))) : (w.setCell ⟨g, 1, none⟩ v).heap[g]? = some (.cells #[c0, v, c2] t (0, 0)) := by
  rw [heap_setCell_same w g 1 _ t v h]; rfl

set_option maxHeartbeats 1000000 in
theorem l1Byte_any (w0 w : World) (g : Nat) (cv : Value) (L : List Int) (hc : Cur w0 w g cv L) :
    Calls Tryd.prog 30 #[.pointer (some ⟨g, 0, none⟩)] w fun e w' => ∃ x, e = .returned (.int .i64 x) ∧ 0 ≤ x ∧ x ≤ 255 ∧ Cur w0 w' g cv L ∧ w.grownBy w' (some g) := by
  obtain ⟨hg, hB, hbs, i, h, hi0, hi1, hh⟩ := hc
  have f0 : w.cell? ⟨g, 0, none⟩ = some cv := by rw [cell_of_row w g 0 _ _ (0, 0) hh]; rfl
  have f1 : w.cell? ⟨g, 1, none⟩ = some (.int .i64 i) := by rw [cell_of_row w g 1 _ _ (0, 0) hh]; rfl
  have f2 : w.cell? ⟨g, 2, none⟩ = some (.int .i64 h) := by rw [cell_of_row w g 2 _ _ (0, 0) hh]; rfl
  have z1 := frozen_of_row w g 1 _ _ hh
  have z2 := frozen_of_row w g 2 _ _ hh
  obtain ⟨a, cap, rfl⟩ : ∃ a cap, cv = .slice a L.length cap := by obtain ⟨_, a, cap, h, _⟩ := hbs; exact ⟨a, cap, h⟩
  by_cases hlt : i < (L.length : Int)
  · obtain ⟨I, rfl⟩ := Int.eq_ofNat_of_zero_le hi0
    have HBS : Hid (Bs w0 (.slice a L.length cap) L) := hbs
    obtain ⟨ho, a', cap', hv, hlc, hcm, -, h4⟩ := hbs
    simp only [Value.slice.injEq] at hv
    obtain ⟨rfl, -, rfl⟩ := hv
    obtain ⟨b, off, rfl, hb, hcell⟩ := h4 (by omega)
    have fx : w.cell? ⟨b, off + I, none⟩ = some (.int .u8 (L.getD I 0)) := (hB.cell (p := ⟨b, off + I, none⟩) hb).trans (hcell I (by omega))
    have ox := oct_get ho I
    obtain ⟨x, hx⟩ : ∃ x, x = L.getD I 0 := ⟨_, rfl⟩
    rw [← hx] at fx ox
    obtain ⟨ox0, ox1⟩ := ox
    have hbg : ¬ b = g := by omega
    have hgb : ¬ g = b := by omega
    have HL : Hid (I < L.length) := by unfold Hid; omega
    unfold maxLen at hcm
    clear hcell h4 hx
    go_enter Tryd.func30, Tryd.ntmps30
    go_wp2
    go_quiet (fail)
    go_wp2
    go_quiet (fail)
    go_wp2
    go_quiet (fail)
    go_wp2
    go_ret
    exact ⟨_, rfl, (and255 _).1, (and255 _).2, ⟨hg, (below_drewN _ (hB.setCell hg _)).setCell hg _, HBS.out, (I : Int) + 1, _, by omega, by omega, set_i (w := (w.setCell ⟨g, 2, none⟩ _).drewN _) (set_h hh)⟩, grownBy_setCell (grownBy_drewN (grownBy_setCell (World.grownBy.refl _ _)) _)⟩
  · go_enter Tryd.func30, Tryd.ntmps30
    go_wp2
    go_quiet (fail)
    go_wp2
    go_quiet (fail)
    go_wp2
    go_ret
    exact ⟨_, rfl, (and255 _).1, (and255 _).2, ⟨hg, below_drewN _ (below_drewN _ (hB.setCell hg _)), hbs, i, _, hi0, hi1, set_h hh⟩, grownBy_drewN (grownBy_drewN (grownBy_setCell (World.grownBy.refl _ _)) _) _⟩

theorem Cur.below {w0 w w' : World} {g : Nat} {cv : Value} {L : List Int} (h : Cur w0 w g cv L) (hb : Below w.heap.size w w') : Cur w0 w' g cv L := by
  obtain ⟨hg, hB, hbs, i, q, h0, h1, hh⟩ := h
  exact ⟨hg, hB.trans (hb.mono hB.size), hbs, i, q, h0, h1, (hb.block g (lt_of_heap hh)).trans hh⟩
theorem Cur.lt {w0 w : World} {g : Nat} {cv : Value} {L : List Int} (h : Cur w0 w g cv L) : w0.heap.size ≤ g ∧ g < w.heap.size := by
  obtain ⟨hg, _, _, i, q, _, _, hh⟩ := h; exact ⟨hg, lt_of_heap hh⟩
/-- Another row was written. -/
theorem Cur.kept {w0 w w' : World} {g B T : Nat} {cv u : Value} {L m : List Int} (h : Cur w0 w g cv L) (hu : Row w B T u m) (hw : w.grownBy w' u.ownBlock) (hd : g < B) : Cur w0 w' g cv L := by
  obtain ⟨hg, hB, hbs, i, q, h0, h1, hh⟩ := h
  refine ⟨hg, hB.grown hw hB.size (fun k hk => by have := (hu.2.1.lt k hk).1; omega), hbs, i, q, h0, h1, (hw.block g (lt_of_heap hh) (fun e => ?_)).trans hh⟩
  have := (hu.2.1.lt g e.symm).1; omega
theorem grown_below {w w' : World} {g : Nat} (h : Below w.heap.size w w') : w.grownBy w' (some g) := ⟨h.os, h.tape, h.output, h.size, fun k hk _ => h.block k hk⟩
theorem below_grown {w0 w w' : World} {g : Nat} (h : Below w0.heap.size w0 w) (hw : w.grownBy w' (some g)) (hg : w0.heap.size ≤ g) : Below w0.heap.size w0 w' :=
  h.grown hw h.size (fun k hk => by cases hk; exact hg)

set_option maxHeartbeats 400000 in
theorem l1Below_any (w0 w : World) (g : Nat) (cv : Value) (L : List Int) (n : Int) (hc : Cur w0 w g cv L) (hn : 1 ≤ n) (hn1 : n ≤ 4000000000) :
    Calls Tryd.prog 19 #[.pointer (some ⟨g, 0, none⟩), .int .i64 n] w fun e w' => ∃ x, e = .returned (.int .i64 x) ∧ 0 ≤ x ∧ x < n ∧ Cur w0 w' g cv L ∧ w.grownBy w' (some g) := by
  by_cases hs : n ≤ 256
  · go_enter Tryd.func19, Tryd.ntmps19
    go_wp2_with fail
    refine (l1Byte_any w0 _ g cv L hc).mono ?_
    rintro e w1 ⟨x, rfl, hx0, hx1, hc1, hg1⟩
    go_wp2
    go_ret
    exact ⟨_, rfl, Int.emod_nonneg _ (by omega), Int.emod_lt_of_pos _ (by omega), hc1, hg1⟩
  · go_enter Tryd.func19, Tryd.ntmps19
    go_wp2_with fail
    refine (l1Byte_any w0 _ g cv L hc).mono ?_
    rintro e w1 ⟨x, rfl, hx0, hx1, hc1, hg1⟩
    go_wp2_with fail
    refine (l1Byte_any w0 _ g cv L hc1).mono ?_
    rintro e w2 ⟨y, rfl, hy0, hy1, hc2, hg2⟩
    go_wp2_with fail
    refine (l1Byte_any w0 _ g cv L hc2).mono ?_
    rintro e w3 ⟨z, rfl, hz0, hz1, hc3, hg3⟩
    go_wp2_with fail
    refine (l1Byte_any w0 _ g cv L hc3).mono ?_
    rintro e w4 ⟨q, rfl, hq0, hq1, hc4, hg4⟩
    go_wp2
    go_ret
    exact ⟨_, rfl, Int.emod_nonneg _ (by omega), Int.emod_lt_of_pos _ (by omega), hc4, grownBy_trans (grownBy_trans (grownBy_trans hg1 hg2) hg3) hg4⟩

set_option maxHeartbeats 400000 in
theorem l1Once_any (w0 w : World) (g : Nat) (cv : Value) (L : List Int) (n : Int) (hc : Cur w0 w g cv L) (hn : 1 ≤ n) (hn1 : n ≤ 4000000000) :
    Calls Tryd.prog 18 #[.pointer (some ⟨g, 0, none⟩), .int .i64 n] w fun e w' => ∃ x, e = .returned (.bool x) ∧ Cur w0 w' g cv L ∧ w.grownBy w' (some g) := by
  go_enter Tryd.func18, Tryd.ntmps18
  go_wp2_with fail
  refine (l1Below_any w0 _ g cv L n hc hn hn1).mono ?_
  rintro e w1 ⟨x, rfl, hx0, hx1, hc1, hg1⟩
  go_wp2
  go_ret
  exact ⟨_, rfl, hc1, hg1⟩

/-- A list of ints in a block of its own: each is an int, and there is one. -/
def Ints (w : World) (v : Value) (g n : Nat) : Prop :=
  1 ≤ n ∧ n ≤ 1000 ∧ ∃ k, k ≠ g ∧ k < w.heap.size ∧ v = .slice (some ⟨k, 0, none⟩) n n ∧ ∀ i, i < n → ∃ x, w.cell? ⟨k, i, none⟩ = some (.int .i64 x) ∧ -9223372036854775808 ≤ x ∧ x ≤ 9223372036854775807

set_option maxHeartbeats 400000 in
theorem l1PickInt_any (w0 w : World) (g n : Nat) (cv v : Value) (L : List Int) (hc : Cur w0 w g cv L) (hv : Ints w v g n) :
    Calls Tryd.prog 29 #[.pointer (some ⟨g, 0, none⟩), v] w fun e w' => ∃ x, e = .returned (.int .i64 x) ∧ -9223372036854775808 ≤ x ∧ x ≤ 9223372036854775807 ∧ Cur w0 w' g cv L ∧ w.grownBy w' (some g) := by
  obtain ⟨hn, hn1, k, hkg, hks, rfl, hcells⟩ := hv
  go_enter Tryd.func29, Tryd.ntmps29
  go_wp2_with fail
  refine (l1Below_any w0 _ g cv L n hc (by omega) (by omega)).mono ?_
  rintro e w1 ⟨x, rfl, hx0, hx1, hc1, hg1⟩
  obtain ⟨j, rfl⟩ := Int.eq_ofNat_of_zero_le hx0
  obtain ⟨y, hy, hy0, hy1⟩ := hcells j (by omega)
  have hy' : w1.cell? ⟨k, j, none⟩ = some (.int .i64 y) := hg1.cell hy (by simpa using hkg)
  clear hcells hy
  go_wp2
  go_ret
  exact ⟨_, rfl, hy0, hy1, hc1, hg1⟩

end Go.Proofs.YtiafkmjndcfjlaaDoor
