/- What l2bent of package spec draws: a log of the draw's own memory, at most one byte too long. -/
import Derived.Test.YtiafkmjndcfjlaaDoorDraw6
import Derived.Test.YtiafkmjndcfjlaaDoorLibWhere
import Derived.Test.YtiafkmjndcfjlaaDoorLibRows
namespace Go.Proofs.YtiafkmjndcfjlaaDoor
open Go.RowKit
set_option maxRecDepth 100000

/-- Ints from lo to hi in a block of their own. -/
def IntsB (w : World) (v : Value) (g n : Nat) (lo hi : Int) : Prop :=
  1 ≤ n ∧ n ≤ 1000 ∧ ∃ k, k ≠ g ∧ k < w.heap.size ∧ v = .slice (some ⟨k, 0, none⟩) n n ∧ ∀ i, i < n → ∃ x, w.cell? ⟨k, i, none⟩ = some (.int .i64 x) ∧ lo ≤ x ∧ x ≤ hi

set_option maxHeartbeats 400000 in
theorem l1PickInt_b (w0 w : World) (g n : Nat) (cv v : Value) (L : List Int) (lo hi : Int) (hc : Cur w0 w g cv L) (hv : IntsB w v g n lo hi) :
    Calls Tryd.prog 29 #[.pointer (some ⟨g, 0, none⟩), v] w fun e w' => ∃ x, e = .returned (.int .i64 x) ∧ lo ≤ x ∧ x ≤ hi ∧ Cur w0 w' g cv L ∧ w.grownBy w' (some g) := by
  obtain ⟨hn, hn1, k, hkg, hks, rfl, hcells⟩ := hv
  go_enter Tryd.func29, Tryd.ntmps29
  go_wp2_with fail
  refine (l1Below_any w0 _ g cv L n hc (by omega) (by omega)).mono ?_
  rintro e w1 ⟨x, rfl, hx0, hx1, hc1, hg1⟩
  obtain ⟨j, rfl⟩ := Int.eq_ofNat_of_zero_le hx0
  obtain ⟨y, hy, hy0, hy1⟩ := hcells j (by omega)
  have hy' : w1.cell? ⟨k, j, none⟩ = some (.int .i64 y) := hg1.cell hy (by simpa using hkg)
  clear hcells hy
  go_wp2
  go_ret
  exact ⟨_, rfl, hy0, hy1, hc1, hg1⟩
theorem intsB_made (w : World) (g : Nat) (xs : List Int) (t : TypeId) (lo hi : Int) (hg : g < w.heap.size) (h0 : 1 ≤ xs.length) (h1 : xs.length ≤ 1000) (hx : ∀ x ∈ xs, lo ≤ x ∧ x ≤ hi) :
    IntsB (w.alloc (.cells (xs.map (Value.int .i64)).toArray t)) (.slice (some ⟨w.heap.size, 0, none⟩) xs.length xs.length) g xs.length lo hi := by
  refine ⟨h0, h1, w.heap.size, by omega, by simp, rfl, fun i hi => ⟨xs[i], ?_, hx _ (List.getElem_mem hi)⟩⟩
  rw [cell_of_row _ _ i _ t (0, 0) (heap_alloc_new w _)]
  simp [hi]

/-- A box of another type is not a row's block. -/
theorem box_row {w w' : World} {B T k : Nat} {v : Value} {l : List Int} {c : Array Value} {t : TypeId} (hr : Row w B T v l) (hg : w.grownBy w' v.ownBlock) (h : w.heap[k]? = some (.cells c t (0, 0))) (ht : t ≠ 5) : w'.heap[k]? = some (.cells c t (0, 0)) :=
  (hg.block k (lt_of_heap h) (fun e => by
    obtain ⟨cur, hc⟩ := hr.heap e.symm
    rw [h] at hc
    simp at hc
    exact ht hc.2)).trans h

/-- A row abides the turn of a block that is not its own. -/
theorem Row.off {w w' : World} {B T k : Nat} {v : Value} {l : List Int} (h : Row w B T v l) (hg : w.grownBy w' (some k)) (hne : v.ownBlock ≠ some k) : Row w' B T v l :=
  ⟨h.1, h.2.1.kept hg (.inr hne), h.2.2⟩
theorem Row.box {w : World} {B T k : Nat} {v : Value} {l : List Int} {c : Array Value} {t : TypeId} (h : Row w B T v l) (hk : w.heap[k]? = some (.cells c t (0, 0))) (ht : t ≠ 5) : v.ownBlock ≠ some k := fun e => by
  obtain ⟨cur, hc⟩ := h.heap e
  rw [hk] at hc
  simp at hc
  exact ht hc.2
theorem Row.setBox {w : World} {B T k i : Nat} {v x : Value} {l : List Int} {c : Array Value} {t : TypeId} (h : Row w B T v l) (hk : w.heap[k]? = some (.cells c t (0, 0))) (ht : t ≠ 5) : Row (w.setCell ⟨k, i, none⟩ x) B T v l :=
  h.off (grownBy_setCell (World.grownBy.refl _ _)) (h.box hk ht)

/-- The log that is being bent: block k holds it; its parts lie beyond the call's first block. -/
def LogB (w0 w wr : World) (g k : Nat) (cv : Value) (L : List Int) (sv tv : Value) (a b : List Int) : Prop :=
  wr.heap[k]? = some (.cells #[sv, tv] 24 (0, 0)) ∧ wr.heap[w.heap.size]? = some (.cells #[.slice none 0 0, .slice none 0 0] 24 (0, 0)) ∧ Row wr (w.heap.size + 1) wr.heap.size sv a ∧ Row wr (w.heap.size + 1) wr.heap.size tv b ∧ Cur w0 wr g cv L ∧ w.grownBy wr (some g)
theorem LogB.drawn {w0 w wr wr' : World} {g k : Nat} {cv : Value} {L : List Int} {sv tv : Value} {a b : List Int} (h : LogB w0 w wr g k cv L sv tv a b) (hg : wr.grownBy wr' (some g)) (hc : Cur w0 wr' g cv L) (hgk : g < k) (hgw : g < w.heap.size) : LogB w0 w wr' g k cv L sv tv a b :=
  ⟨box_grown hg h.1 (by omega), box_grown hg h.2.1 (by omega), (h.2.2.1.drawn hg (.inl (by omega))).wide (Nat.le_refl _) hg.size, (h.2.2.2.1.drawn hg (.inl (by omega))).wide (Nat.le_refl _) hg.size, hc, grownBy_trans h.2.2.2.2.2 hg⟩
theorem LogB.below {w0 w wr wr' : World} {g k : Nat} {cv : Value} {L : List Int} {sv tv : Value} {a b : List Int} (h : LogB w0 w wr g k cv L sv tv a b) (hb : Below wr.heap.size wr wr') : LogB w0 w wr' g k cv L sv tv a b :=
  ⟨box_below hb h.1, box_below hb h.2.1, (h.2.2.1.below hb).wide (Nat.le_refl _) hb.size, (h.2.2.2.1.below hb).wide (Nat.le_refl _) hb.size, h.2.2.2.2.1.below hb, grownBy_trans h.2.2.2.2.2 (grown_below hb)⟩
theorem LogB.ret {w0 w wr : World} {g k : Nat} {cv : Value} {L : List Int} {sv tv : Value} {a b : List Int} (h : LogB w0 w wr g k cv L sv tv a b) (ha : a.length ≤ 1000000) (hb : b.length ≤ 1000001) (hx : a.length + b.length ≤ 1000000 ∨ 988001 ≤ a.length) (hgw : g < w.heap.size) (x y : Value) :
    ∃ sv' tv' a' b', Ending.returned (.agg #[sv, tv]) = .returned (.agg #[sv', tv']) ∧ a'.length ≤ 1000000 ∧ b'.length ≤ 1000001 ∧ (a'.length + b'.length ≤ 1000000 ∨ 988001 ≤ a'.length) ∧ Row ((wr.setCell ⟨w.heap.size, 0, none⟩ x).setCell ⟨w.heap.size, 1, none⟩ y) w.heap.size ((wr.setCell ⟨w.heap.size, 0, none⟩ x).setCell ⟨w.heap.size, 1, none⟩ y).heap.size sv' a' ∧ Row ((wr.setCell ⟨w.heap.size, 0, none⟩ x).setCell ⟨w.heap.size, 1, none⟩ y) w.heap.size ((wr.setCell ⟨w.heap.size, 0, none⟩ x).setCell ⟨w.heap.size, 1, none⟩ y).heap.size tv' b' ∧ Cur w0 ((wr.setCell ⟨w.heap.size, 0, none⟩ x).setCell ⟨w.heap.size, 1, none⟩ y) g cv L ∧ w.grownBy ((wr.setCell ⟨w.heap.size, 0, none⟩ x).setCell ⟨w.heap.size, 1, none⟩ y) (some g) := by
  have h0 := h.2.2.2.2.1.lt.1
  exact ⟨sv, tv, a, b, rfl, ha, hb, hx, ((h.2.2.1.set (.inl (by omega))).set (.inl (by omega))).wide (by omega) (by simp [World.setCell]), ((h.2.2.2.1.set (.inl (by omega))).set (.inl (by omega))).wide (by omega) (by simp [World.setCell]), (h.2.2.2.2.1.set (by omega) (by omega)).set (by omega) (by omega), grownBy_new (grownBy_new h.2.2.2.2.2 (Nat.le_refl _)) (Nat.le_refl _)⟩

/-- How long the slice is that the block's first cell holds. -/
def safeLen (w : World) (k : Nat) : Nat := match w.cell? ⟨k, 0, none⟩ with
  | some (.slice _ n _) => n
  | _ => 0
theorem safeLen_eq {w : World} {k n c : Nat} {x : Option Addr} {y : Value} {t : TypeId} (h : w.heap[k]? = some (.cells #[.slice x n c, y] t (0, 0))) : safeLen w k = n := by
  unfold safeLen; rw [(box2 h).1]
theorem zeros_oct (n : Nat) : Oct (List.replicate n 0) := fun x hx => by rw [List.eq_of_mem_replicate hx]; omega
theorem zeros_vals (n : Nat) : vals (List.replicate n 0) = List.replicate n (Value.int .u8 0) := by simp [vals]
theorem zeros_bs {w : World} {g n : Nat} (hn : n ≤ maxLen) (h : w.heap[g]? = some (.cells (List.replicate n (Value.int .u8 0)).toArray 5 (0, 0))) : Own w g (.slice (some ⟨g, 0, none⟩) n n) (List.replicate n 0) := by
  have := own_made (w := w) (g := g) (l := List.replicate n 0) (zeros_oct n) (by simpa using hn) (by rw [zeros_vals]; exact h)
  simpa using this
theorem frame6000 (Z : List Int) (h : Z.length = 6000) : (frameL Z).length = 6002 := by
  unfold frameL putL
  rw [h, if_pos (by omega), List.length_append, List.length_append, h]
  rw [show (enc 4 ((6000 : Nat) : Int)).length = 2 from by decide]
  rfl
theorem grown_own {w wr w' : World} {g B T : Nat} {v : Value} {l : List Int} (h : w.grownBy wr (some g)) (hr : Row wr B T v l) (hg : wr.grownBy w' v.ownBlock) (hB : w.heap.size ≤ B) : w.grownBy w' (some g) :=
  ⟨hg.os.trans h.os, hg.tape.trans h.tape, hg.output.trans h.output, Nat.le_trans h.size hg.size, fun k hk hne => (hg.block k (Nat.lt_of_lt_of_le hk h.size) (fun e => by have := (hr.2.1.lt k e.symm).1; omega)).trans (h.block k hk hne)⟩

/-- What the loop keeps: the box, the call's first block, Safe, the cursor, the frame, and that the last is not in Safe's block. -/
def Bent (w0 w wr : World) (g k : Nat) (cv : Value) (L : List Int) (sv tv fv : Value) (a F : List Int) : Prop :=
  wr.heap[k]? = some (.cells #[sv, tv] 24 (0, 0)) ∧ wr.heap[w.heap.size]? = some (.cells #[.slice none 0 0, .slice none 0 0] 24 (0, 0)) ∧ Row wr (w.heap.size + 1) wr.heap.size sv a ∧ Row wr (w.heap.size + 1) wr.heap.size fv F ∧ (fv.ownBlock = none ∨ fv.ownBlock ≠ sv.ownBlock) ∧ Cur w0 wr g cv L ∧ w.grownBy wr (some g)
theorem Bent.step {w0 w wr w' : World} {g k : Nat} {cv : Value} {L : List Int} {sv tv fv v' : Value} {a F : List Int} (h : Bent w0 w wr g k cv L sv tv fv a F) (hO : OwnB w' (w.heap.size + 1) v' (a ++ F)) (hg : wr.grownBy w' sv.ownBlock) (hw : v'.ownBlock = sv.ownBlock ∨ ∀ j, v'.ownBlock = some j → wr.heap.size ≤ j) (hgw : g < w.heap.size) (hk : w.heap.size < k) :
    w'.heap[k]? = some (.cells #[sv, tv] 24 (0, 0)) ∧ Bent w0 w (w'.setCell ⟨k, 0, none⟩ v') g k cv L v' tv fv (a ++ F) F := by
  obtain ⟨h1, h2, h3, h4, h5, h6, h7⟩ := h
  have h0 := h6.lt.1
  have k1 := box_row h3 hg h1 (by decide)
  have k2 := box_row h3 hg h2 (by decide)
  have hF : Row w' (w.heap.size + 1) wr.heap.size fv F := ⟨h4.1, h4.2.1.kept hg h5, h4.2.2⟩
  have hc : Cur w0 w' g cv L := h6.kept h3 hg (by omega)
  refine ⟨k1, box2_set0 k1, box_other k2 (by omega), (hO.toRow.setBox k1 (by decide)).wide (Nat.le_refl _) (by simp [World.setCell]), (hF.setBox k1 (by decide)).wide (Nat.le_refl _) (Nat.le_trans hg.size (by simp [World.setCell])), ?_, hc.set (by omega) (by omega), grownBy_new (grown_own h7 h3 hg (by omega)) (by omega)⟩
  rcases hw with hw | hw
  · rw [hw]; exact h5
  · cases hf : fv.ownBlock with
    | none => exact .inl rfl
    | some j => refine .inr fun e => ?_; have := hw j e.symm; have := h4.2.2 j hf; omega

set_option maxHeartbeats 2000000 in
theorem l2bent_any (w0 w : World) (g : Nat) (cv : Value) (L : List Int) (hc : Cur w0 w g cv L) :
    Calls Tryd.prog 16 #[.pointer (some ⟨g, 0, none⟩)] w fun e w' => ∃ sv tv a b, e = .returned (.agg #[sv, tv]) ∧ a.length ≤ 1000000 ∧ b.length ≤ 1000001 ∧ (a.length + b.length ≤ 1000000 ∨ 988001 ≤ a.length) ∧ Row w' w.heap.size w'.heap.size sv a ∧ Row w' w.heap.size w'.heap.size tv b ∧ Cur w0 w' g cv L ∧ w.grownBy w' (some g) := by
  obtain ⟨hg0, hg1⟩ := hc.lt
  obtain ⟨i0, hi, hz0, hz1, hz2⟩ := info_parts info5
  have bx := box_new w (.cells #[.slice none 0 0, .slice none 0 0] 24)
  have bB : Below w.heap.size w (w.alloc (.cells #[.slice none 0 0, .slice none 0 0] 24)) := (Below.refl _ _).alloc (Nat.le_refl _) _
  have HC : Hid (Cur w0 w g cv L) := hc
  clear hc
  go_enter Tryd.func16, Tryd.ntmps16
  go_wp2_with fail
  refine (l2log_any w0 _ g cv L (HC.out.below bB)).mono ?_
  rintro e w1 ⟨sv, tv, a, b, rfl, ha, hb, Rs, Rt, C1, G1⟩
  obtain ⟨s0, s1, s2, rfl⟩ := Rs.bs.form3
  obtain ⟨t0, t1, t2, rfl⟩ := Rt.bs.form3
  have k0 := box_grown G1 bx (by omega)
  have sz1 := G1.size
  simp only [World.size_alloc] at sz1 Rs Rt
  have HG1 : Hid (w.grownBy w1 (some g)) := grownBy_trans (grown_below bB) G1
  have HR1 : Hid (LogB w0 w (w1.alloc (.cells #[.slice s0 s1 s2, .slice t0 t1 t2] 24)) g w1.heap.size cv L (.slice s0 s1 s2) (.slice t0 t1 t2) a b) := by
    have bA : Below w1.heap.size w1 (w1.alloc (.cells #[.slice s0 s1 s2, .slice t0 t1 t2] 24)) := (Below.refl _ _).alloc (Nat.le_refl _) _
    exact ⟨box_new w1 _, box_below bA k0, (Rs.below bA).wide (Nat.le_refl _) bA.size, (Rt.below bA).wide (Nat.le_refl _) bA.size, C1.below bA, grownBy_trans HG1.out (grown_below bA)⟩
  clear Rs Rt C1 k0 G1 bx bB HC HG1
  go_wp2_with fail
  refine (l1Once_any w0 _ g cv L 60 HR1.out.2.2.2.2.1 (by omega) (by omega)).mono ?_
  rintro e w2 ⟨x, rfl, C2, G2⟩
  have HL : Hid (LogB w0 w w2 g w1.heap.size cv L (.slice s0 s1 s2) (.slice t0 t1 t2) a b) := HR1.out.drawn G2 C2 (by omega) (by omega)
  clear C2 G2 HR1
  obtain ⟨f0, f1, z0, z1, sz2⟩ := box2 HL.out.1
  obtain ⟨f2, f3, z2, z3, -⟩ := box2 HL.out.2.1
  cases x
  · go_wp2
    refine bodyPost_ret (v := .agg #[.slice s0 s1 s2, .slice t0 t1 t2]) (by simp [results, Tryd.results16, go_sem, f2, f3]) rfl ?_
    exact HL.out.ret (by omega) (by omega) (.inl (by omega)) hg1 _ _
  · clear f0 f1 z0 z1 f2 f3 z2 z3
    go_wp2_with (at_make; refine wpList_make_full _ rfl _ _ 22 rfl w2.heap.size 5 i0 (.int .u8 0) 1 Tryd.underlying22 hi hz0 hz1 _ _ _ _ 6000 rfl rfl (by omega) (by omega) (by rw [hz2]; omega) (by unfold maxLen; omega) (Nat.le_refl _) ?_)
    intro w3 hown hgrow
    have hB3 := (Below.refl w2.heap.size w2).grown hgrow (Nat.le_refl _) (by simp)
    have hZ := zeros_bs (by unfold maxLen; omega) (made_heap hown)
    obtain ⟨Z, hZe⟩ : ∃ Z : List Int, Z = List.replicate 6000 0 := ⟨_, rfl⟩
    have hZl : Z.length = 6000 := by rw [hZe]; simp
    rw [← hZe] at hZ
    have HZ : Hid (Bs w3 (.slice (some ⟨w2.heap.size, 0, none⟩) 6000 6000) Z) := hZ.bs
    have HL3 : Hid (LogB w0 w w3 g w1.heap.size cv L (.slice s0 s1 s2) (.slice t0 t1 t2) a b) := HL.out.below hB3
    have sz3 : w2.heap.size ≤ w3.heap.size := hB3.size
    have hHS := HL.out.2.2.1.2.2
    have hF6 := frame6000 Z hZl
    clear hZ hZe hown hgrow hB3 HL
    go_wp2_with fail
    refine (l2frame_r _ Z _ HZ.out (by omega)).mono ?_
    rintro e w4 ⟨fv, rfl, Rf, B4⟩
    change Row w4 _ _ fv (frameL Z) at Rf
    generalize frameL Z = F at Rf hF6
    obtain ⟨p0, p2, rfl⟩ := Rf.bs.form
    have sz4 := B4.size
    have HB : Hid (Bent w0 w w4 g w1.heap.size cv L (.slice s0 s1 s2) (.slice t0 t1 t2) (.slice p0 F.length p2) a F) := by
      obtain ⟨h1, h2, h3, -, h5, h6⟩ := HL3.out.below B4
      refine ⟨h1, h2, h3, Rf.wide (by omega) (Nat.le_refl _), ?_, h5, h6⟩
      cases hf : (Value.slice p0 F.length p2).ownBlock with
      | none => exact .inl rfl
      | some j => refine .inr fun e => ?_; have := hHS j e.symm; have := (Rf.2.1.lt j hf).1; omega
    clear Rf B4 HL3 HZ hHS
    have HF6 : Hid (F.length = 6002) := hF6
    have hF7 : (F.length : Int) ≤ 6002 := by omega
    clear hF6
    go_wp2
    go_loopw [17] (fun q wr => ∃ (q' sv : Value) (c : List Int) (j : Nat), q' = q ∧ Hid (c.length = a.length + 6002 * j ∧ j ≤ 166) ∧ w1.heap.size < wr.heap.size ∧ Hid (Bent w0 w wr g w1.heap.size cv L sv (.slice t0 t1 t2) (.slice p0 F.length p2) c F)) (fun _ wr => 1000000 - safeLen wr w1.heap.size)
    case atStart => exact ⟨_, _, a, 0, rfl, ⟨by omega, by omega⟩, lt_of_heap HB.out.1, HB⟩
    case round =>
      obtain ⟨q, sv, c, j, rfl, HJ, hsz, HB'⟩ := hrel
      clear HB
      obtain ⟨s0, s2, rfl⟩ := HB'.out.2.2.1.bs.form
      obtain ⟨f0, f1, z0, z1, -⟩ := box2 HB'.out.1
      have HM0 : Hid (safeLen wr w1.heap.size = c.length) := safeLen_eq HB'.out.1
      have hcl : c.length ≤ 1000000 := by have := HJ.out; omega
      by_cases hlt : (c.length : Int) < 1000000 - (F.length : Int)
      · go_wp2_with (at_builtin; refine wpList_append_where rfl (.tmp 19) (.tmp 20) 22 rfl i0 Tryd.underlying22 hi hz0 hz1 hz2 (w.heap.size + 1) _ c rfl HB'.out.2.2.1.own _ F rfl HB'.out.2.2.2.1.bs (by omega) (by omega) ?_)
        intro v' w5 hO hg hw
        obtain ⟨x0, x1, x2, rfl⟩ := hO.bs.form3
        obtain ⟨k5, hB5⟩ := HB'.out.step hO hg hw hg1 (by omega)
        have HB5 : Hid (Bent w0 w (w5.setCell ⟨w1.heap.size, 0, none⟩ (.slice x0 x1 x2)) g w1.heap.size cv L (.slice x0 x1 x2) (.slice t0 t1 t2) (.slice p0 F.length p2) (c ++ F) F) := hB5
        clear f0 f1 z0 z1
        obtain ⟨f0, f1, z0, z1, -⟩ := box2 k5
        have hx1 : x1 = (c ++ F).length := by obtain ⟨y0, y2, hy⟩ := hB5.2.2.1.bs.form; simp only [Value.slice.injEq] at hy; exact hy.2.1
        have hm5 := safeLen_eq hB5.1
        have HM : Hid (safeLen (w5.setCell ⟨w1.heap.size, 0, none⟩ (.slice x0 x1 x2)) w1.heap.size = (c ++ F).length ∧ (c ++ F).length = a.length + 6002 * (j + 1) ∧ j + 1 ≤ 166) := ⟨by rw [hm5, hx1], by have := HJ.out; have := HF6.out; simp; omega, by have := HJ.out; have := HF6.out; omega⟩
        clear hO hg hw hB5 k5 HB' hx1 hm5
        go_wp2
        go_roundw
        case rel => exact ⟨_, _, c ++ F, j + 1, rfl, ⟨HM.out.2.1, HM.out.2.2⟩, lt_of_heap HB5.out.1, HB5⟩
        case measure => rw [HM.out.1, HM0.out]; have := HM.out.2.1; have := HJ.out; omega
      · have hcl2 : 996332 ≤ c.length ∧ c.length ≤ 996832 := by have := HJ.out; have := HF6.out; omega
        clear HM0
        have hgs : g < wr.heap.size := by omega
        have hI := intsB_made wr g [0, 1000000 - (c.length : Int) - 9, 1000000 - (c.length : Int), 1000000 - (c.length : Int) + 1] 3 0 1000001 hgs (by simp) (by simp) (by intro x hx; simp at hx; omega)
        have bA : Below wr.heap.size wr (wr.alloc (.cells #[.int .i64 0, .int .i64 (1000000 - (c.length : Int) - 9), .int .i64 (1000000 - (c.length : Int)), .int .i64 (1000000 - (c.length : Int) + 1)] 3)) := (Below.refl _ _).alloc (Nat.le_refl _) _
        have HI : Hid (IntsB (wr.alloc (.cells #[.int .i64 0, .int .i64 (1000000 - (c.length : Int) - 9), .int .i64 (1000000 - (c.length : Int)), .int .i64 (1000000 - (c.length : Int) + 1)] 3)) (.slice (some ⟨wr.heap.size, 0, none⟩) 4 4) g 4 0 1000001) := by simpa [Hid] using hI
        clear hI
        go_wp2_with fail
        refine (l1PickInt_b w0 _ g 4 cv _ L 0 1000001 (HB'.out.2.2.2.2.2.1.below bA) HI.out).mono ?_
        rintro e w6 ⟨x, rfl, hx0, hx1, C6, G6⟩
        obtain ⟨X, rfl⟩ := Int.eq_ofNat_of_zero_le hx0
        obtain ⟨h1, h2, h3, -, -, -, h7⟩ := HB'.out
        have k6 := box_grown G6 (box_below bA h1) (by omega)
        have r6 := box_grown G6 (box_below bA h2) (by omega)
        have S6 := (h3.below bA).drawn G6 (.inl (by omega))
        have W6 := grownBy_trans (grownBy_trans h7 (grown_below bA)) G6
        have sz6 := G6.size
        simp only [World.size_alloc] at sz6
        have H6 : Hid (w6.heap[w1.heap.size]? = some (.cells #[.slice s0 c.length s2, .slice t0 t1 t2] 24 (0, 0)) ∧ w6.heap[w.heap.size]? = some (.cells #[.slice none 0 0, .slice none 0 0] 24 (0, 0)) ∧ Row w6 (w.heap.size + 1) wr.heap.size (.slice s0 c.length s2) c ∧ Cur w0 w6 g cv L ∧ w.grownBy w6 (some g)) := ⟨k6, r6, S6, C6, W6⟩
        clear h1 h2 h3 h7 k6 r6 S6 W6 C6 G6 HI bA HB' f0 f1 z0 z1
        go_wp2_with (at_make; refine wpList_make_full _ rfl _ _ 22 rfl w6.heap.size 5 i0 (.int .u8 0) 1 Tryd.underlying22 hi hz0 hz1 _ _ _ _ X rfl rfl (by omega) (by omega) (by rw [hz2]; omega) (by unfold maxLen; omega) (Nat.le_refl _) ?_)
        intro w7 hown hgrow
        have hB7 := (Below.refl w6.heap.size w6).grown hgrow (Nat.le_refl _) (by simp)
        have hZ7 := (zeros_bs (by unfold maxLen; omega) (made_heap hown)).toRow
        have k7 := box_below hB7 H6.out.1
        have r7 := box_below hB7 H6.out.2.1
        have sz7 := hB7.size
        have l7 := lt_of_heap (made_heap hown)
        have c7 := H6.out.2.2.2.1.below hB7
        have h07 := c7.lt.1
        have HL8 : Hid (LogB w0 w (w7.setCell ⟨w1.heap.size, 1, none⟩ (.slice (some ⟨w6.heap.size, 0, none⟩) X X)) g w1.heap.size cv L (.slice s0 c.length s2) (.slice (some ⟨w6.heap.size, 0, none⟩) X X) c (List.replicate X 0)) :=
          ⟨box2_set1 k7, box_other r7 (by omega), (((H6.out.2.2.1.below hB7).setBox k7 (by decide)).wide (Nat.le_refl _) (by simp [World.setCell]; omega)), ((hZ7.setBox k7 (by decide)).wide (by omega) (by simp [World.setCell]; omega)), c7.set (by omega) (by omega), grownBy_new (grownBy_trans H6.out.2.2.2.2 (grown_below hB7)) (by omega)⟩
        obtain ⟨f0, f1, z0, z1, -⟩ := box2 k7
        obtain ⟨w8, hw8⟩ : ∃ w8, w7.setCell ⟨w1.heap.size, 1, none⟩ (.slice (some ⟨w6.heap.size, 0, none⟩) X X) = w8 := ⟨_, rfl⟩
        rw [hw8] at HL8
        obtain ⟨f4, f5, z4, z5, -⟩ := box2 HL8.out.1
        obtain ⟨f2, f3, z2, z3, -⟩ := box2 HL8.out.2.1
        clear hown hgrow hB7 hZ7 k7 r7 c7 H6
        go_wp2
        refine bodyPost_ret (v := .agg #[.slice s0 c.length s2, .slice (some ⟨w6.heap.size, 0, none⟩) X X]) (by simp [results, Tryd.results16, go_sem, f2, f3]) rfl ?_
        exact HL8.out.ret (by omega) (by simp; omega) (.inr (by omega)) hg1 _ _

end Go.Proofs.YtiafkmjndcfjlaaDoor
