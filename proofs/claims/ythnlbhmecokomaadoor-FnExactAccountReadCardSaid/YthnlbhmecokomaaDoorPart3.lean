/- The proof's texts, part 3. -/
import Derived.Test.YthnlbhmecokomaaDoorPart1
import Derived.Test.YthnlbhmecokomaaDoorPart2
import Derived.Deep.RegionHeld3

/- What toByteS, eqByteS, markByteS, heldByteS of package laws do. -/
namespace Go.Proofs.YthnlbhmecokomaaDoor
open Go.RowKit
set_option maxRecDepth 100000

/-- the first k bytes of l laid over noughts -/
def laid (l : List Int) (k : Nat) : List Int := l.take k ++ List.replicate (l.length - k) 0
theorem length_laid (l : List Int) (k : Nat) (h : k ≤ l.length) : (laid l k).length = l.length := by simp [laid]; omega
theorem laid_zero (l : List Int) : vals (laid l 0) = List.replicate l.length (.int .u8 0) := by simp [laid, vals]
theorem laid_all (l : List Int) : laid l l.length = l := by simp [laid]
theorem laid_succ (l : List Int) (k : Nat) (h : k < l.length) : (vals (laid l k)).set k (.int .u8 (l.getD k 0)) = vals (laid l (k + 1)) := by
  have e : (laid l k).set k (l.getD k 0) = laid l (k + 1) := by
    have ht : (l.take k).length = k := by simp; omega
    have hr : List.replicate (l.length - k) (0 : Int) = 0 :: List.replicate (l.length - (k + 1)) 0 := by
      rw [show l.length - k = (l.length - (k + 1)) + 1 by omega, List.replicate_succ]
    unfold laid
    have hg : l.getD k 0 = l[k] := by simp [h]
    rw [hr, List.set_append_right k (l.getD k 0) (by omega), ht, Nat.sub_self, List.set_cons_zero, List.take_succ_eq_append_getElem h, List.append_assoc, List.singleton_append, hg]
  rw [← e]
  simp [vals, List.map_set]

set_option maxHeartbeats 400000 in
theorem toByteS_any (v : Value) (l : List Int) (w : World) (hv : Bs w v l) (hl : l.length ≤ 2000000) :
    Calls Tryd.prog 5 #[v] w fun e w' => ∃ u, e = .returned u ∧ Own w' w.heap.size u l ∧ Below w.heap.size w w' := by
  obtain ⟨ho, a, cap, rfl, hlc, hcm, hnil, hcells⟩ := hv
  obtain ⟨i0, hi, hz0, hz1, hz2⟩ := info_parts info5
  unfold maxLen at hcm
  go_enter Tryd.func5, Tryd.ntmps5
  go_wp2_with (at_make; refine wpList_make_full _ rfl _ _ 22 rfl w.heap.size 5 i0 (.int .u8 0) 1 Tryd.underlying22 hi hz0 hz1 _ _ _ _ l.length rfl rfl rfl rfl ?b1 ?b2 ?b3 ?_)
  case b1 => rw [hz2]; omega
  case b2 => unfold maxLen; omega
  case b3 => exact Nat.le_refl _
  intro w1 hown hgrow
  have hB := (Below.refl w.heap.size w).grown hgrow (Nat.le_refl _) (by simp)
  have HR : Hid (w1.heap[w.heap.size]? = some (.cells (vals (laid l 0)).toArray 5 (0, 0))) := by
    rw [laid_zero]
    exact made_heap hown
  clear hown hgrow
  go_wp2
  go_loopw [4] (fun i wr => ∃ k : Nat, k ≤ l.length ∧ i = .int .i64 k ∧ Hid (wr.heap[w.heap.size]? = some (.cells (vals (laid l k)).toArray 5 (0, 0))) ∧ Below w.heap.size w wr) (fun i _ => l.length - (intOf i).toNat)
  case atStart => exact ⟨0, Nat.zero_le _, rfl, HR, hB⟩
  case round =>
    obtain ⟨k, hk, rfl, hR, hB'⟩ := hrel
    by_cases hlt : k < l.length
    · obtain ⟨b, off, rfl, hlb, hc⟩ := hcells (by omega)
      have hcx : wr.cell? ⟨b, off + k, none⟩ = some (.int .u8 (l.getD k 0)) := (hB'.cell (by exact hlb)).trans (hc k hlt)
      have hd := cell_of_row wr w.heap.size k _ 5 (0, 0) hR.out
      have hd' : ∃ x, wr.cell? ⟨w.heap.size, k, none⟩ = some x := ⟨_, hd.trans (by simp [vals_get _ _ (show k < (laid l k).length by rw [length_laid l k hk]; exact hlt)]; rfl)⟩
      have hf := frozen_of_row wr w.heap.size k _ 5 hR.out
      have hR' := heap_setCell_same wr w.heap.size k _ 5 (.int .u8 (l.getD k 0)) hR.out
      have HR' : Hid ((wr.setCell ⟨w.heap.size, k, none⟩ (.int .u8 (l.getD k 0))).heap[w.heap.size]? = some (.cells (vals (laid l (k + 1))).toArray 5 (0, 0))) := by
        rw [← laid_succ l k hlt]; simpa [Hid] using hR'
      obtain ⟨x, hx⟩ := hd'
      clear hd hR' hR
      go_wp2
      go_roundw
      case rel => exact ⟨k + 1, by omega, by go_num, by rw [← show l.getD k 0 = l[k] by simp [hlt]]; exact HR', hB'.setCell (Nat.le_refl _) _⟩
      case measure => simp [intOf]; omega
    · go_wp2
      go_ret
      obtain rfl : k = l.length := by omega
      rw [laid_all] at hR
      exact ⟨_, rfl, own_made ho (by unfold maxLen; omega) hR.out, hB'⟩

theorem eqL_take (l m : List Int) (k : Nat) (hl : l.length = m.length) (h : l.take k = m.take k) (hk : l.length ≤ k) : l = m := by
  rw [List.take_of_length_le hk, List.take_of_length_le (by omega)] at h; exact h
theorem take_snoc_eq {l m : List Int} {k : Nat} (hl : k < l.length) (hm : k < m.length) (h : l.take k = m.take k) (e : l[k] = m[k]) : l.take (k + 1) = m.take (k + 1) := by
  rw [List.take_succ_eq_append_getElem hl, List.take_succ_eq_append_getElem hm, h, e]

set_option maxHeartbeats 400000 in
theorem eqByteS_any (v u : Value) (l m : List Int) (w : World) (hv : Bs w v l) (hu : Bs w u m) :
    Calls Tryd.prog 8 #[v, u] w fun e w' => e = .returned (.bool (decide (l = m))) ∧ ∃ n, w' = w.drewN n := by
  obtain ⟨ho, a, cap, rfl, hlc, hcm, hnil, hcells⟩ := hv
  obtain ⟨ho', a', cap', rfl, hlc', hcm', hnil', hcells'⟩ := hu
  unfold maxLen at hcm hcm'
  by_cases hlen : l.length = m.length
  · have hq : ((l.length : Int) == (m.length : Int)) = true := by simp; omega
    have HL : Hid (l.length = m.length) := hlen
    clear hlen
    go_enter Tryd.func8, Tryd.ntmps8
    go_wp2
    go_loopw [5] (fun i wr => ∃ k : Nat, k ≤ l.length ∧ i = .int .i64 k ∧ Hid (l.take k = m.take k) ∧ Hid (∃ n, wr = w.drewN n)) (fun i _ => l.length - (intOf i).toNat)
    case atStart => exact ⟨0, Nat.zero_le _, rfl, by simp [Hid], ⟨0, rfl⟩⟩
    case round =>
      obtain ⟨k, hk, rfl, hR, hW⟩ := hrel
      by_cases hlt : k < l.length
      · have hlt' : k < m.length := by rw [← HL.out]; exact hlt
        obtain ⟨b, off, rfl, hlb, hc⟩ := hcells (by omega)
        obtain ⟨b', off', rfl, hlb', hc'⟩ := hcells' (by omega)
        obtain ⟨n, rfl⟩ := hW.out
        have hx := hc k hlt
        have hx' := hc' k hlt'
        clear hc hc' hcells hcells' hW
        by_cases he : (l[k] == m[k]) = true
        · go_wp2
          go_quiet (fail)
          go_wp2
          go_roundw
          case rel => exact ⟨k + 1, by omega, by go_num, take_snoc_eq hlt hlt' hR.out (by simpa using he), ⟨_, rfl⟩⟩
          case measure => simp [intOf]; omega
        · have he' : (l[k] == m[k]) = false := by simpa using he
          have hd : l ≠ m := fun h => he (by subst h; simp)
          clear he
          go_wp2
          go_quiet (fail)
          go_wp2
          go_ret
          exact ⟨by simp [hd], _, World.drewN_drewN _ _ _⟩
      · go_wp2
        go_ret
        exact ⟨by simp [eqL_take l m k HL.out hR.out (by omega)], hW.out⟩
  · have hne : ((l.length : Int) == (m.length : Int)) = false := by simp; omega
    have hd : l ≠ m := fun h => hlen (by rw [h])
    go_enter Tryd.func8, Tryd.ntmps8
    go_wp2
    go_ret
    exact ⟨by simp [hd], 0, rfl⟩

/-- n marks from k on: what markByteS writes. -/
def marks (k : Int) (n : Nat) : List Int := (List.range n).map fun (i : Nat) => (k + (i : Int)) % 256
theorem length_marks (k : Int) (n : Nat) : (marks k n).length = n := by simp [marks]
theorem marks_succ (k : Int) (n : Nat) : marks k (n + 1) = marks k n ++ [(k + (n : Int)) % 256] := by simp [marks, List.range_succ]
theorem marks_get (k : Int) (n i : Nat) (h : i < n) : (marks k n).getD i 0 = (k + (i : Int)) % 256 := by simp [marks, h]
theorem marks_take (k : Int) (cr : Array Value) (j : Nat) (hj : j < cr.size) (h : cr.toList.take j = vals (marks k j)) :
    (cr.setIfInBounds j (.int .u8 ((k + (j : Int)) % 256))).toList.take (j + 1) = vals (marks k (j + 1)) := by
  rw [Array.toList_setIfInBounds, List.take_succ_eq_append_getElem (by simpa using hj), List.take_set_of_le (Nat.le_refl _), h, marks_succ, vals_append]
  simp [vals]
theorem oct_marks (k : Int) (n : Nat) : Oct (marks k n) := by
  intro x hx
  obtain ⟨i, _, rfl⟩ := List.mem_map.1 hx
  omega

set_option maxHeartbeats 400000 in
theorem markByteS_any (g : Nat) (v : Value) (l : List Int) (k : Int) (w : World) (hv : Own w g v l) (hl : l.length ≤ 2000000) (hk0 : 0 ≤ k) (hk1 : k ≤ 1000000000000) :
    Calls Tryd.prog 9 #[v, .int .i64 k] w fun e w' => e = .returned (.int .i64 (k + l.length)) ∧ Own w' g v (marks k l.length) ∧ w.grownBy w' (some g) := by
  obtain ⟨ho, ⟨rfl, rfl⟩ | ⟨cap, cur, rfl, hh, hlc, hcm, hcs, htk⟩⟩ := hv
  · go_enter Tryd.func9, Tryd.ntmps9
    go_wp2
    refine wp_loop_rounds 1 ?_
    rw [rounds_succ]
    go_wp2
    go_ret
    exact ⟨by simp, ⟨oct_marks _ _, .inl ⟨rfl, rfl⟩⟩, World.grownBy.refl _ _⟩
  · unfold maxLen at hcm
    go_enter Tryd.func9, Tryd.ntmps9
    go_wp2
    go_loopw [1, 5] (fun q i wr => ∃ j : Nat, j ≤ l.length ∧ i = .int .i64 j ∧ q = .int .i64 (k + j) ∧ Hid (∃ cr, wr.heap[g]? = some (.cells cr 5 (0, 0)) ∧ cr.size = cap ∧ cr.toList.take j = vals (marks k j)) ∧ w.grownBy wr (some g)) (fun _ i _ => l.length - (intOf i).toNat)
    case atStart => exact ⟨0, Nat.zero_le _, rfl, by simp, ⟨cur, hh, hcs, by simp [marks, vals]⟩, World.grownBy.refl _ _⟩
    case round =>
      obtain ⟨j, hj, rfl, rfl, hR, hG⟩ := hrel
      obtain ⟨cr, hR1, hR2, hR3⟩ := hR.out
      by_cases hlt : j < l.length
      · have hd := cell_of_row wr g j _ 5 (0, 0) hR1
        have hd' : ∃ x, wr.cell? ⟨g, j, none⟩ = some x := ⟨_, hd.trans (by simp [show j < cr.size by omega]; rfl)⟩
        have hf := frozen_of_row wr g j _ 5 hR1
        obtain ⟨x, hx⟩ := hd'
        clear hd
        go_wp2
        go_roundw
        case rel => exact ⟨j + 1, by omega, by go_num, by go_num, ⟨_, heap_setCell_same wr g j _ 5 _ hR1, by simpa using hR2, marks_take k cr j (by omega) hR3⟩, grownBy_setCell hG⟩
        case measure => simp [intOf]; omega
      · go_wp2
        go_ret
        obtain rfl : j = l.length := by omega
        exact ⟨rfl, ⟨oct_marks _ _, .inr ⟨cap, cr, by rw [length_marks], hR1, by rw [length_marks]; exact hlc, by unfold maxLen; omega, hR2, by rw [length_marks]; exact hR3⟩⟩, hG⟩

set_option maxHeartbeats 400000 in
theorem heldByteS_any (v : Value) (n : Nat) (k : Int) (w : World) (hv : Bs w v (marks k n)) (hl : n ≤ 2000000) (hk0 : 0 ≤ k) (hk1 : k ≤ 1000000000000) :
    Calls Tryd.prog 41 #[v, .int .i64 k] w fun e w' => e = .returned (.int .i64 (k + n)) ∧ ∃ d, w' = w.drewN d := by
  obtain ⟨ho, a, cap, rfl, hlc, hcm, hnil, hcells⟩ := hv
  rw [length_marks] at hlc hcells ⊢
  unfold maxLen at hcm
  go_enter Tryd.func41, Tryd.ntmps41
  go_wp2
  go_loopw [1, 5] (fun q i wr => ∃ j : Nat, j ≤ n ∧ i = .int .i64 j ∧ q = .int .i64 (k + j) ∧ Hid (∃ d, wr = w.drewN d)) (fun _ i _ => n - (intOf i).toNat)
  case atStart => exact ⟨0, Nat.zero_le _, rfl, by simp, ⟨0, rfl⟩⟩
  case round =>
    obtain ⟨j, hj, rfl, rfl, hW⟩ := hrel
    by_cases hlt : j < n
    · obtain ⟨b, off, rfl, hlb, hc⟩ := hcells (by omega)
      obtain ⟨d, rfl⟩ := hW.out
      have hx := hc j hlt
      rw [marks_get k n j hlt] at hx
      clear hc hcells hW
      go_wp2
      go_roundw
      case rel => exact ⟨j + 1, by omega, by go_num, by go_num, ⟨d, rfl⟩⟩
      case measure => simp [intOf]; omega
    · go_wp2
      go_ret
      obtain rfl : j = n := by omega
      exact ⟨rfl, hW.out⟩

theorem toByteS_r (v : Value) (l : List Int) (w : World) (hv : Bs w v l) (hl : l.length ≤ 2000000) :
    Calls Tryd.prog 5 #[v] w fun e w' => ∃ u, e = .returned u ∧ Row w' w.heap.size w'.heap.size u l ∧ Below w.heap.size w w' :=
  (toByteS_any v l w hv hl).mono fun _ _ ⟨u, h1, h2, h3⟩ => ⟨u, h1, OwnB.toRow ⟨_, Nat.le_refl _, h2⟩, h3⟩
theorem eqByteS_yes (v u : Value) (l : List Int) (w : World) (hv : Bs w v l) (hu : Bs w u l) :
    Calls Tryd.prog 8 #[v, u] w fun e w' => e = .returned (.bool true) ∧ Below w.heap.size w w' :=
  (eqByteS_any v u l l w hv hu).mono fun _ _ ⟨h, hd⟩ => ⟨by simpa using h, below_of_drewN hd⟩
theorem heldByteS_yes (v : Value) (n : Nat) (k : Int) (w : World) (hv : Bs w v (marks k n)) (hl : n ≤ 2000000) (hk0 : 0 ≤ k) (hk1 : k ≤ 1000000000000) :
    Calls Tryd.prog 41 #[v, .int .i64 k] w fun e w' => e = .returned (.int .i64 (k + n)) ∧ Below w.heap.size w w' :=
  (heldByteS_any v n k w hv hl hk0 hk1).mono fun _ _ ⟨h, hd⟩ => ⟨h, below_of_drewN hd⟩
theorem markByteS_r (B T : Nat) (v : Value) (l : List Int) (k : Int) (w : World) (hv : Row w B T v l) (hl : l.length ≤ 2000000) (hk0 : 0 ≤ k) (hk1 : k ≤ 1000000000000) :
    Calls Tryd.prog 9 #[v, .int .i64 k] w fun e w' => e = .returned (.int .i64 (k + l.length)) ∧ Row w' B T v (marks k l.length) ∧ w.grownBy w' v.ownBlock := by
  obtain ⟨g, hB, ho⟩ := hv.own
  rcases ho.2 with ⟨rfl, rfl⟩ | ⟨cap, cur, rfl, _⟩
  · go_enter Tryd.func9, Tryd.ntmps9
    go_wp2
    refine wp_loop_rounds 1 ?_
    rw [rounds_succ]
    go_wp2
    go_ret
    exact ⟨by simp, Row.nil _ _ _, World.grownBy.refl _ _⟩
  · refine (markByteS_any g _ l k w ho hl hk0 hk1).mono fun e w' ⟨h1, h2, h3⟩ => ⟨h1, ⟨h2.1, OwnB.row ⟨g, hB, h2⟩, hv.2.2⟩, h3⟩

end Go.Proofs.YthnlbhmecokomaaDoor

/- What toMail, toMailS of package laws do. -/
namespace Go.Proofs.YthnlbhmecokomaaDoor
open Go.RowKit
set_option linter.unusedVariables false

theorem infoMail : (Tryd.prog.info? 73).map (fun i => (i.zero, i.size, i.bytes)) = some (some (.agg #[.int .i64 0, .int .i64 0, .int .i64 0, .slice none 0 0]), 4, 48) := by kernel_rfl

end Go.Proofs.YthnlbhmecokomaaDoor

/- What toGone, toGoneS of package laws do. -/
namespace Go.Proofs.YthnlbhmecokomaaDoor
open Go.RowKit
set_option linter.unusedVariables false

theorem infoGone : (Tryd.prog.info? 75).map (fun i => (i.zero, i.size, i.bytes)) = some (some (.agg #[.int .i64 0, .int .i64 0]), 2, 16) := by kernel_rfl

end Go.Proofs.YthnlbhmecokomaaDoor

/- What toBox, toBoxS of package laws do. -/
namespace Go.Proofs.YthnlbhmecokomaaDoor
open Go.RowKit
set_option linter.unusedVariables false

theorem in_chain {B B0 T0 T1 T2 : Nat} (h0 : B ≤ B0) (h1 : B0 ≤ T0) (h2 : T0 ≤ T1) (h3 : T1 ≤ T2) :
    (∀ x, In B0 T0 x → In B T2 x ∧ ¬ In T0 T1 x ∧ ¬ In T1 T2 x) ∧ (∀ x, In T0 T1 x → In B T2 x ∧ ¬ In T1 T2 x) ∧ (∀ x, In T1 T2 x → In B T2 x) := by
  unfold In
  refine ⟨fun x h => ⟨by omega, by omega, by omega⟩, fun x h => ⟨by omega, by omega⟩, fun x h => by omega⟩

theorem infoBox : (Tryd.prog.info? 53).map (fun i => (i.zero, i.size, i.bytes)) = some (some (.agg #[.slice none 0 0, .int .i64 0, .int .i64 0, .int .i64 0, .slice none 0 0, .slice none 0 0, .int .i64 0]), 7, 104) := by kernel_rfl

end Go.Proofs.YthnlbhmecokomaaDoor

/- Regions that draw their order, walked in the text's order: what each operation asks of the others is reckoned once for a region, in a table. -/
namespace Go.Proofs.YthnlbhmecokomaaDoor
set_option linter.unusedVariables false

/-- The operations of the region with this number. -/
def opsAt (id : Nat) : Code → Option (Array Oper)
  | .region i ops _ => if i == id then some ops else none
  | .seq a b => (opsAt id a).or (opsAt id b)
  | .cond _ a b => (opsAt id a).or (opsAt id b)
  | .block _ a => opsAt id a
  | .loop a => opsAt id a
  | _ => none

/-- The first i of n are listed. -/
def upto (n i : Nat) : Array Bool := (List.replicate i true ++ List.replicate (n - i) false).toArray
theorem upto_zero (n : Nat) : upto n 0 = Array.replicate n false := by simp [upto]
theorem upto_succ {n i : Nat} (h : i < n) : (upto n i).setIfInBounds i true = upto n (i + 1) := by
  have e : n - i = (n - (i + 1)) + 1 := by omega
  unfold upto
  rw [List.setIfInBounds_toArray]
  congr 1
  rw [List.set_append_right _ _ (by simp), List.length_replicate, Nat.sub_self, e, List.replicate_succ, List.set_cons_zero, List.replicate_succ', List.append_assoc]
  rfl

def statAt (ops : Array Oper) (n i : Nat) : Bool := Region.free .any ops (upto n i) i && (Region.ready .any ops (upto n i)).contains i
/-- cs: the operations that come up alone. -/
def table (ops : Array Oper) (n : Nat) (cs : List Nat) : Bool := (ops.size == n) && (Region.noSelect ops && ((List.range n).all (statAt ops n) && ((Region.ready .any ops (upto n n)).isEmpty && cs.all fun i => (Nat.blt i n) && (Region.ready .any ops (upto n i) == [i]))))

/-- The table's word, in a wrapping that no walk looks into. -/
structure Tab (ops : Array Oper) (n : Nat) (cs : List Nat) : Prop where
  out : table ops n cs = true

/-- What is left of the region when the first i operations are done. -/
def wpAt (P : Program) (ops : Array Oper) (Q : Exit → Act → World → Prop) (S : World → Prop) (n i : Nat) (a : Act) (w : World) : Prop := wpAnyH P .any ops Q S (n - i) (upto n i) a w

/-- Slot d filled: what 'put' does, in a form that computes by itself. -/
def setT (a : Act) (d : Nat) (v : Value) : Act := { a with tmps := (a.tmps.toList.set d v).toArray }
theorem put_setT (a : Act) (d : Nat) (v : Value) : a.put (some d) v = setT a d v := by
  unfold Act.put setT
  simp only
  congr 1
  exact Array.ext' (by simp)

section
variable {P : Program} {ops : Array Oper} {Q : Exit → Act → World → Prop} {S : World → Prop} {n : Nat} {cs : List Nat} {a : Act} {w : World}
theorem tab_of {c : Option Code} {id : Nat} (h : c.bind (opsAt id) = some ops) (T : (c.bind (opsAt id)).all (fun o => table o n cs) = true) : Tab ops n cs := by
  rw [h] at T; exact ⟨by simpa using T⟩
theorem table_parts (T' : Tab ops n cs) : ops.size = n ∧ Region.noSelect ops = true ∧ (∀ i, i < n → Region.free .any ops (upto n i) i = true ∧ (Region.ready .any ops (upto n i)).contains i = true) ∧ Region.ready .any ops (upto n n) = [] ∧ ∀ i, i ∈ cs → i < n ∧ Region.ready .any ops (upto n i) = [i] := by
  have T := T'.out
  simp only [table, Bool.and_eq_true, beq_iff_eq, List.all_eq_true, List.mem_range, statAt, List.isEmpty_iff, Nat.blt_eq] at T
  exact ⟨T.1, T.2.1, fun i hi => T.2.2.1 i hi, T.2.2.2.1, fun i hi => T.2.2.2.2 i hi⟩
theorem wp_begin {id : Nat} (T : Tab ops n cs) (hm : P.follows .mixedOrders = true) (hS : S w.drew) (h : Tab ops n cs → S w.drew → wpAt P ops Q S n 0 a w.drew) : Code.wp P (.region id ops true) Q a w := by
  refine wp_region_held_drew (S := S) hm hS fun hs => ?_
  obtain ⟨h1, -⟩ := table_parts T
  subst h1
  rw [← upto_zero]
  exact h T hs
/-- Operation i is taken; it is wanted. -/
theorem tkp (i d : Nat) {oi : Oper} (v : Value) (T : Tab ops n cs) (hy : ∀ w, S w → (execOp a.eval oi).run P w = .ok (.value v) w) (hS : S w) (h : wpAt P ops Q S n (i + 1) (setT a d v) w)
    (hi : ops[i]? = some oi := by rfl)
    (hg : (oi.dst == some d && Region.wanted oi (yielded ops a.tmps)) = true := by kernel_rfl)
    (hQ : ∀ c a w, Q (.panic c) (a.put (some d) v) w → Q (.panic c) a w := by exact fun _ _ _ h => h) : wpAt P ops Q S n i a w := by
  obtain ⟨h1, h2, h3, h4, h5⟩ := table_parts T
  have hlt : i < n := by have := (Array.getElem?_eq_some_iff.1 hi).1; omega
  simp only [Bool.and_eq_true, beq_iff_eq] at hg
  rw [← put_setT] at h
  unfold wpAt at h ⊢
  rw [show n - i = (n - (i + 1)) + 1 by omega]
  rw [← upto_succ hlt] at h
  exact wpAnyH_take hi h2 (h3 i hlt).1 (h3 i hlt).2 (by rw [hg.1]; exact hQ) (Or.inl ⟨hg.2, hy⟩) hS (by rw [hg.1]; exact h)
/-- None of these is wanted; ds: the slots that they would fill. -/
def skipsD (ops : Array Oper) : Nat → List Nat → Array Value → Bool
  | _, [], _ => true
  | i, d :: ds, tm => match ops[i]? with
    | some o => (o.dst == some d) && (!(Region.wanted o (yielded ops tm)) && skipsD ops (i + 1) ds (tm.toList.set d undef).toArray)
    | none => false
theorem skp (T : Tab ops n cs) (hQ : ∀ (d : Nat) v c a w, Q (.panic c) (a.put (some d) v) w → Q (.panic c) a w) (hS : S w) :
    ∀ (ds : List Nat) (i : Nat) (a : Act), skipsD ops i ds a.tmps = true → wpAt P ops Q S n (i + ds.length) (ds.foldl (fun a d => setT a d undef) a) w → wpAt P ops Q S n i a w
  | [], _, _, _, h => h
  | d :: ds, i, a, hk, h => by
    unfold skipsD at hk
    split at hk
    · rename_i o ho
      simp only [Bool.and_eq_true, beq_iff_eq, Bool.not_eq_true'] at hk
      obtain ⟨k1, k2, k3⟩ := hk
      obtain ⟨h1, h2, h3, h4, h5⟩ := table_parts T
      have hlt : i < n := by have := (Array.getElem?_eq_some_iff.1 ho).1; omega
      have hr := skp T hQ hS ds (i + 1) (setT a d undef) (by simpa [setT] using k3) (by rw [show i + 1 + ds.length = i + (d :: ds).length by simp; omega]; exact h)
      rw [← put_setT] at hr
      unfold wpAt at hr ⊢
      rw [show n - i = (n - (i + 1)) + 1 by omega]
      rw [← upto_succ hlt] at hr
      exact wpAnyH_take (v := undef) ho h2 (h3 i hlt).1 (h3 i hlt).2 (fun c a w => by rw [k1]; exact hQ d _ c a w) (Or.inr ⟨k2, rfl⟩) hS (by rw [k1]; exact hr)
    · cases hk
theorem skj {i j : Nat} (ds : List Nat) (hj : i + ds.length = j) (T : Tab ops n cs) (hQ : ∀ (d : Nat) v c a w, Q (.panic c) (a.put (some d) v) w → Q (.panic c) a w) (hS : S w) (hk : skipsD ops i ds a.tmps = true)
    (h : wpAt P ops Q S n j (ds.foldl (fun a d => setT a d undef) a) w) : wpAt P ops Q S n i a w := skp T hQ hS ds i a hk (by rw [hj]; exact h)
/-- Operation i is a call: it comes up alone. -/
theorem clp (i : Nat) (T : Tab ops n cs) (hi : i ∈ cs) (h : AllReadyH P .any ops Q S (n - (i + 1)) (upto n i) a w [i]) : wpAt P ops Q S n i a w := by
  obtain ⟨h1, h2, h3, h4, h5⟩ := table_parts T
  have hlt := (h5 i hi).1
  unfold wpAt
  rw [show n - i = (n - (i + 1)) + 1 by omega]
  exact wpAnyH_ready (h5 i hi).2 (by simp) h
theorem wpAt_in {i f : Nat} {l : Array Bool} (hlt : i < n) (hf : f = n - (i + 1)) (hl : l = (upto n i).setIfInBounds i true) (h : wpAt P ops Q S n (i + 1) a w) : wpAnyH P .any ops Q S f l a w := by
  subst hf hl
  rw [upto_succ hlt]
  exact h
theorem wp_end (T : Tab ops n cs) (h : Q .normal a w) : wpAt P ops Q S n n a w := by
  obtain ⟨h1, h2, h3, h4, h5⟩ := table_parts T
  exact wpAnyH_done h4 h _
end
theorem putA {α : Type} (l : List α) (i : Nat) (a : α) : l.toArray.setIfInBounds i a = (l.set i a).toArray := by simp
theorem put0 {α : Type} (x : α) (l : List α) (a : α) : (x :: l).set 0 a = a :: l := rfl
theorem putS {α : Type} (x : α) (l : List α) (i : Nat) (a : α) : (x :: l).set (i + 1) a = x :: l.set i a := rfl

/-- 'tkp', what it yields and the state behind it found by themselves. -/
theorem tkq {P : Program} {ops : Array Oper} {Q : Exit → Act → World → Prop} {S : World → Prop} {n : Nat} {cs : List Nat} {a a' : Act} {w : World} (i d : Nat) {oi : Oper} {v : Value} (T : Tab ops n cs) (hS : S w) (h : wpAt P ops Q S n (i + 1) a' w)
    (hi : ops[i]? = some oi := by rfl)
    (hg : (oi.dst == some d && Region.wanted oi (yielded ops a.tmps)) = true := by kernel_rfl)
    (hy : ∀ w, S w → (execOp a.eval oi).run P w = .ok (.value v) w := by (intro w s; (try dsimp only at s); go_simp <;> with_reducible rfl))
    (ha : setT a d v = a' := by (conv => lhs; dsimp only [setT, List.toList_toArray, put0, putS]))
    (hQ : ∀ c a w, Q (.panic c) (a.put (some d) v) w → Q (.panic c) a w := by exact fun _ _ _ h => h) : wpAt P ops Q S n i a w :=
  tkp i d v T hy hS (by rw [ha]; exact h) hi hg hQ

end Go.Proofs.YthnlbhmecokomaaDoor

/- Regions that draw their order, walked in a given order: what each operation asks of the others is reckoned once for a region, in a table. -/
namespace Go.Proofs.YthnlbhmecokomaaDoor
set_option linter.unusedVariables false

/-- Which operations are done when the first p of the order are. -/
def doneA (n : Nat) (l : List Nat) : Array Bool := l.foldl (fun a i => a.setIfInBounds i true) (Array.replicate n false)
theorem doneA_step {n p i : Nat} {ord : List Nat} (h : ord[p]? = some i) : (doneA n (ord.take p)).setIfInBounds i true = doneA n (ord.take (p + 1)) := by
  have hp : p < ord.length := (List.getElem?_eq_some_iff.1 h).1
  rw [List.take_succ_eq_append_getElem hp, (List.getElem?_eq_some_iff.1 h).2]
  unfold doneA
  rw [List.foldl_append]
  rfl
/-- cs: the places of those that come up alone. -/
def tableO (ops : Array Oper) (n : Nat) (ord cs : List Nat) : Bool :=
  (ops.size == n) && ((ord.length == n) && (Region.noSelect ops && ((List.range n).all (fun p => match ord[p]? with
    | some i => cs.contains p || (Region.free .any ops (doneA n (ord.take p)) i && (Region.ready .any ops (doneA n (ord.take p))).contains i)
    | none => false) && ((Region.ready .any ops (doneA n (ord.take n))).isEmpty && cs.all fun p => match ord[p]? with
    | some i => Nat.blt p n && (Region.ready .any ops (doneA n (ord.take p)) == [i])
    | none => false))))

/-- What is left of the region when the first p operations of the order are done. -/
def wpOrd (P : Program) (ops : Array Oper) (Q : Exit → Act → World → Prop) (S : World → Prop) (n : Nat) (ord : List Nat) (p : Nat) (a : Act) (w : World) : Prop := wpAnyH P .any ops Q S (n - p) (doneA n (ord.take p)) a w

/-- The table's word, in a wrapping that no walk looks into. -/
structure TabO (ops : Array Oper) (n : Nat) (ord cs : List Nat) : Prop where
  out : tableO ops n ord cs = true

section
variable {P : Program} {ops : Array Oper} {Q : Exit → Act → World → Prop} {S : World → Prop} {n : Nat} {ord cs : List Nat} {a : Act} {w : World}
theorem tabO_of {c : Option Code} {id : Nat} (h : c.bind (opsAt id) = some ops) (T : (c.bind (opsAt id)).all (fun o => tableO o n ord cs) = true) : TabO ops n ord cs := by
  rw [h] at T; exact ⟨by simpa using T⟩
theorem tabO_parts (T' : TabO ops n ord cs) : ops.size = n ∧ ord.length = n ∧ Region.noSelect ops = true ∧ (∀ p i, ord[p]? = some i → ¬ p ∈ cs → Region.free .any ops (doneA n (ord.take p)) i = true ∧ (Region.ready .any ops (doneA n (ord.take p))).contains i = true) ∧ Region.ready .any ops (doneA n (ord.take n)) = [] ∧
    ∀ p i, p ∈ cs → ord[p]? = some i → p < n ∧ Region.ready .any ops (doneA n (ord.take p)) = [i] := by
  have T := T'.out
  simp only [tableO, Bool.and_eq_true, beq_iff_eq, List.all_eq_true, List.mem_range, List.isEmpty_iff] at T
  obtain ⟨h1, h2, h3, h4, h5, h6⟩ := T
  refine ⟨h1, h2, h3, fun p i hp hc => ?_, h5, fun p i hc hp => ?_⟩
  · have hlt : p < n := by have := (List.getElem?_eq_some_iff.1 hp).1; omega
    have := h4 p hlt
    rw [hp] at this
    simp only [Bool.or_eq_true, Bool.and_eq_true, List.contains_iff_mem] at this
    rcases this with h | h
    · exact absurd h hc
    · exact ⟨h.1, by simpa using h.2⟩
  · have := h6 p hc
    rw [hp] at this
    simp only [Bool.and_eq_true, beq_iff_eq, Nat.blt_eq] at this
    exact this
theorem wpO_begin {id : Nat} (T : TabO ops n ord cs) (hm : P.follows .mixedOrders = true) (hS : S w.drew) (h : TabO ops n ord cs → S w.drew → wpOrd P ops Q S n ord 0 a w.drew) : Code.wp P (.region id ops true) Q a w := by
  refine wp_region_held_drew (S := S) hm hS fun hs => ?_
  obtain ⟨h1, -⟩ := tabO_parts T
  subst h1
  exact h T hs
/-- The operation at place p of the order is taken; it is wanted. -/
theorem tko (p i d : Nat) {oi : Oper} (v : Value) (T : TabO ops n ord cs) (hy : ∀ w, S w → (execOp a.eval oi).run P w = .ok (.value v) w) (hS : S w) (h : wpOrd P ops Q S n ord (p + 1) (setT a d v) w)
    (hp : ord[p]? = some i := by rfl) (hc : ¬ p ∈ cs := by decide)
    (hi : ops[i]? = some oi := by rfl)
    (hg : (oi.dst == some d && Region.wanted oi (yielded ops a.tmps)) = true := by kernel_rfl)
    (hQ : ∀ c a w, Q (.panic c) (a.put (some d) v) w → Q (.panic c) a w := by exact fun _ _ _ h => h) : wpOrd P ops Q S n ord p a w := by
  obtain ⟨h1, h2, h3, h4, h5, h6⟩ := tabO_parts T
  have hlt : p < n := by have := (List.getElem?_eq_some_iff.1 hp).1; omega
  simp only [Bool.and_eq_true, beq_iff_eq] at hg
  rw [← put_setT] at h
  unfold wpOrd at h ⊢
  rw [show n - p = (n - (p + 1)) + 1 by omega]
  rw [← doneA_step hp] at h
  exact wpAnyH_take hi h3 (h4 p i hp hc).1 (h4 p i hp hc).2 (by rw [hg.1]; exact hQ) (Or.inl ⟨hg.2, hy⟩) hS (by rw [hg.1]; exact h)
/-- The operation at place p comes up alone: a call, or one that makes memory. -/
theorem clo (p i : Nat) (T : TabO ops n ord cs) (hc : p ∈ cs) (hp : ord[p]? = some i) (h : AllReadyH P .any ops Q S (n - (p + 1)) (doneA n (ord.take p)) a w [i]) : wpOrd P ops Q S n ord p a w := by
  obtain ⟨h1, h2, h3, h4, h5, h6⟩ := tabO_parts T
  have hlt := (h6 p i hc hp).1
  unfold wpOrd
  rw [show n - p = (n - (p + 1)) + 1 by omega]
  exact wpAnyH_ready (h6 p i hc hp).2 (by simp) h
theorem wpOrd_in {p i f : Nat} {l : Array Bool} (hp : ord[p]? = some i) (hf : f = n - (p + 1)) (hl : l = (doneA n (ord.take p)).setIfInBounds i true) (h : wpOrd P ops Q S n ord (p + 1) a w) : wpAnyH P .any ops Q S f l a w := by
  subst hf hl
  rw [doneA_step hp]
  exact h
theorem wpO_end (T : TabO ops n ord cs) (h : Q .normal a w) : wpOrd P ops Q S n ord n a w := by
  obtain ⟨h1, h2, h3, h4, h5, h6⟩ := tabO_parts T
  exact wpAnyH_done h5 h _
end

/-- 'tko', what it yields and the state behind it found by themselves. -/
theorem tkw {P : Program} {ops : Array Oper} {Q : Exit → Act → World → Prop} {S : World → Prop} {n : Nat} {ord cs : List Nat} {a a' : Act} {w : World} (p i d : Nat) {oi : Oper} {v : Value} (T : TabO ops n ord cs) (hS : S w) (h : wpOrd P ops Q S n ord (p + 1) a' w)
    (hp : ord[p]? = some i := by rfl) (hc : ¬ p ∈ cs := by decide)
    (hi : ops[i]? = some oi := by rfl)
    (hg : (oi.dst == some d && Region.wanted oi (yielded ops a.tmps)) = true := by kernel_rfl)
    (hy : ∀ w, S w → (execOp a.eval oi).run P w = .ok (.value v) w := by (intro w s; (try dsimp only at s); go_simp <;> with_reducible rfl))
    (ha : setT a d v = a' := by (conv => lhs; dsimp only [setT, List.toList_toArray, put0, putS]))
    (hQ : ∀ c a w, Q (.panic c) (a.put (some d) v) w → Q (.panic c) a w := by exact fun _ _ _ h => h) : wpOrd P ops Q S n ord p a w :=
  tko p i d v T hy hS (by rw [ha]; exact h) hp hc hi hg hQ

end Go.Proofs.YthnlbhmecokomaaDoor

/- Regions that draw their order, walked in phases: each phase has a condition on the world of its own; a phase is closed when all that comes behind it waits for it. -/
namespace Go.Proofs.YthnlbhmecokomaaDoor
set_option linter.unusedVariables false

/-- Is one of the operations A still to come? -/
def left (A : List Nat) (L : Array Bool) : Bool := A.any fun i => !(L.getD i true)
theorem left_mem {A : List Nat} {L : Array Bool} {i : Nat} (h : i ∈ A) (h' : L.getD i true = false) : left A L = true := by
  unfold left
  rw [List.any_eq_true]
  exact ⟨i, h, by rw [h']; rfl⟩
theorem left_no {A : List Nat} {L : Array Bool} (h : ∀ i, i ∈ A → L.getD i false = true) : left A L = false := by
  unfold left
  rw [List.any_eq_false]
  intro i hi
  have := h i hi
  by_cases hs : i < L.size
  · simp [hs] at this ⊢; exact this
  · simp [Array.getElem?_eq_none (Nat.le_of_not_lt hs)] at this

/-- What an operation waits for. -/
def waits (md : Region.Mode) (ops : Array Oper) (j : Nat) : List Nat := match ops[j]? with
  | some o => (o.after.toList.filter (Region.binds md)).map (·.on)
  | none => []
inductive Anc (md : Region.Mode) (ops : Array Oper) : Nat → Nat → Prop
  | one {j i : Nat} : i ∈ waits md ops j → Anc md ops j i
  | more {j k i : Nat} : k ∈ waits md ops j → Anc md ops k i → Anc md ops j i
theorem Anc.then {md : Region.Mode} {ops : Array Oper} {j k i : Nat} (h : Anc md ops j k) (hi : i ∈ waits md ops k) : Anc md ops j i := by
  induction h with
  | one h => exact .more h (.one hi)
  | more h _ ih => exact .more h (ih hi)
def ClosedL (md : Region.Mode) (ops : Array Oper) (L : Array Bool) : Prop := ∀ k i, L.getD k false = true → i ∈ waits md ops k → L.getD i false = true
theorem anc_listed {md : Region.Mode} {ops : Array Oper} {L : Array Bool} {k i : Nat} (hc : ClosedL md ops L) (hk : L.getD k false = true) (h : Anc md ops k i) : L.getD i false = true := by
  induction h with
  | one h => exact hc _ _ hk h
  | more h _ ih => exact ih (hc _ _ hk h)
theorem ready_waits {md : Region.Mode} {ops : Array Oper} {L : Array Bool} {j i : Nat} (hj : j ∈ Region.ready md ops L) (h : i ∈ waits md ops j) : L.getD i false = true := by
  obtain ⟨-, o, ho, hall⟩ := mem_ready.1 hj
  unfold waits at h
  rw [ho] at h
  simp only [List.mem_map, List.mem_filter] at h
  obtain ⟨e, ⟨he, hb⟩, rfl⟩ := h
  exact hall e (by simpa using he) hb
theorem anc_ready {md : Region.Mode} {ops : Array Oper} {L : Array Bool} {j i : Nat} (hc : ClosedL md ops L) (hj : j ∈ Region.ready md ops L) (h : Anc md ops j i) : L.getD i false = true := by
  cases h with
  | one h => exact ready_waits hj h
  | more h h' => exact anc_listed hc (ready_waits hj h) h'
theorem closed_step {md : Region.Mode} {ops : Array Oper} {L : Array Bool} {j : Nat} (hc : ClosedL md ops L) (hj : j ∈ Region.ready md ops L) : ClosedL md ops (L.setIfInBounds j true) := by
  intro k i hk hi
  by_cases hjk : j = k
  · subst hjk; exact getD_set_true (ready_waits hj hi)
  · rw [getD_set_ne false hjk] at hk
    exact getD_set_true (hc k i hk hi)

/-- The operations that come ahead of one, gathered. -/
def addNew (l : List Nat) (i : Nat) : List Nat := if l.contains i then l else i :: l
theorem mem_addNew {xs l : List Nat} {i : Nat} (h : i ∈ xs.foldl addNew l) : i ∈ l ∨ i ∈ xs := by
  induction xs generalizing l with
  | nil => exact .inl h
  | cons x xs ih =>
    rcases ih h with h | h
    · unfold addNew at h
      split at h
      · exact .inl h
      · rcases List.mem_cons.1 h with rfl | h
        · exact .inr (List.mem_cons_self ..)
        · exact .inl h
    · exact .inr (List.mem_cons_of_mem _ h)
def ancL (md : Region.Mode) (ops : Array Oper) (j : Nat) : Nat → List Nat
  | 0 => waits md ops j
  | f + 1 => ((ancL md ops j f).flatMap (waits md ops)).foldl addNew (ancL md ops j f)
theorem anc_of {md : Region.Mode} {ops : Array Oper} {j : Nat} : ∀ (f i : Nat), i ∈ ancL md ops j f → Anc md ops j i
  | 0, i, h => .one h
  | f + 1, i, h => by
    rcases mem_addNew h with h | h
    · exact anc_of f i h
    · rw [List.mem_flatMap] at h
      obtain ⟨k, hk, hi⟩ := h
      exact (anc_of f k hk).then hi

section
variable {P : Program} {md : Region.Mode} {ops : Array Oper} {Q : Exit → Act → World → Prop} {S : World → Prop} {A : List Nat}
/-- Whatever order is picked: while one of A is still to come S holds behind each operation; then the rest goes in whatever order. -/
def wpAnyS (P : Program) (md : Region.Mode) (ops : Array Oper) (Q : Exit → Act → World → Prop) (S : World → Prop) (A : List Nat) : Nat → Array Bool → Act → World → Prop
  | 0, L, a, w => Region.ready md ops L = [] ∧ Q .normal a w
  | n + 1, L, a, w => (left A L = false → wpAny P md ops Q (n + 1) L a w) ∧ (left A L = true → (Region.ready md ops L = [] → Q .normal a w) ∧
      ∀ i ∈ Region.ready md ops L, wpOp P ops Q i (fun a' w' => S w' ∧ wpAnyS P md ops Q S A n (L.setIfInBounds i true) a' w') a w)
theorem wpAny_of_phase : ∀ (n : Nat) (L : Array Bool) (a : Act) (w : World), wpAnyS P md ops Q S A n L a w → wpAny P md ops Q n L a w
  | 0, _, _, _, h => h
  | n + 1, L, a, w, h => by
    cases hl : left A L with
    | false => exact h.1 hl
    | true => exact ⟨(h.2 hl).1, fun i hi => wpOp_mono (fun a' w' q => wpAny_of_phase n _ a' w' q.2) ((h.2 hl).2 i hi)⟩
/-- All that is not of A waits for all of A. -/
def Parts (md : Region.Mode) (ops : Array Oper) (A : List Nat) : Prop := ∀ j, (∃ o, ops[j]? = some o) → j ∉ A → ∀ i, i ∈ A → Anc md ops j i
theorem parts_ready {L : Array Bool} {j : Nat} (hA : Parts md ops A) (hc : ClosedL md ops L) (hj : j ∈ Region.ready md ops L) (hn : j ∉ A) : left A L = false := by
  obtain ⟨-, o, ho, -⟩ := mem_ready.1 hj
  exact left_no fun i hi => anc_ready hc hj (hA j ⟨o, ho⟩ hn i hi)
theorem wpAnyS_first {i : Nat} {oi : Oper} {v : Value} (hi : ops[i]? = some oi) (hR : i ∈ A) (hA : Parts md ops A) (hsel : ∀ (j : Nat) (o : Oper) cs b, ops[j]? = some o → o.op ≠ .select cs b) (hQ : ∀ c a w, Q (.panic c) (a.put oi.dst v) w → Q (.panic c) a w)
    (n : Nat) : ∀ (L : Array Bool) (a : Act) (w : World), ClosedL md ops L →
      (∀ j oj, ops[j]? = some oj → j ≠ i → L.getD j true = false → (∀ e ∈ oj.after, Region.binds md e = true → e.on ≠ i) → oi.apart ops oj = true) →
      i ∈ Region.ready md ops L → YieldsIf P ops S oi v a → S w → wpAnyS P md ops Q S A n (L.setIfInBounds i true) (a.put oi.dst v) w → wpAnyS P md ops Q S A (n + 1) L a w := by
  induction n with
  | zero =>
    intro L a w hc _ hr hy hS H
    have hl : left A L = true := left_mem hR (mem_ready.1 hr).1
    refine ⟨fun h => absurd hl (by rw [h]; simp), fun _ => ⟨fun h => absurd hr (by rw [h]; simp), fun j hj => ?_⟩⟩
    by_cases hji : j = i
    · subst hji; exact hy.wpOp hi hS ⟨hS, H⟩
    · exact absurd (ready_mono hj hji) (by rw [H.1]; simp)
  | succ n ih =>
    intro L a w hc hfree hr hy hS H
    have hl : left A L = true := left_mem hR (mem_ready.1 hr).1
    refine ⟨fun h => absurd hl (by rw [h]; simp), fun _ => ⟨fun h => absurd hr (by rw [h]; simp), fun j hj => ?_⟩⟩
    by_cases hji : j = i
    · subst hji; exact hy.wpOp hi hS ⟨hS, H⟩
    obtain ⟨hjun, oj, hoj, hall⟩ := mem_ready.1 hj
    have hjA : j ∈ A := by
      by_cases h : j ∈ A
      · exact h
      · exact absurd hl (by rw [parts_ready hA hc hj h]; simp)
    have hil := (mem_ready.1 hr).1
    have hnot : ∀ e ∈ oj.after, Region.binds md e = true → e.on ≠ i := by
      intro e he hb heq
      have q := hall e he hb
      rw [heq] at q
      by_cases hs : i < L.size
      · simp [hs] at hil q; rw [hil] at q; cases q
      · simp [Array.getElem?_eq_none (Nat.le_of_not_lt hs)] at q
    have hl' : left A (L.setIfInBounds i true) = true := left_mem hjA (by rw [getD_set_ne true (Ne.symm hji)]; exact hjun)
    have step := wpOp_putIf hoj (hfree j oj hoj hji hjun hnot) (fun cs b => hsel i oi cs b hi) (fun cs b => hsel j oj cs b hoj) hQ hy ((H.2 hl').2 j (ready_mono hj hji))
    refine wpOp_mono (fun a' w' q => ?_) step
    obtain ⟨q1, q2, q3⟩ := q
    exact ⟨q2, ih (L.setIfInBounds j true) a' w' (closed_step hc hj) (fun k ok hk hki hun hno => hfree k ok hk hki (by
        by_cases hjk : j = k
        · subst hjk; exact hjun
        · rwa [getD_set_ne true hjk] at hun) hno) (ready_mono hr (Ne.symm hji)) q1 q2 (by rw [Array.setIfInBounds_comm _ _ hji]; exact q3)⟩
end

/-- The table of a region that is walked in phases: qs, how many operations of the order are done at the end of each; f, how far ahead it is looked. -/
def tableS (ops : Array Oper) (n : Nat) (ord cs qs : List Nat) (f : Nat) : Bool :=
  tableO ops n ord cs && ((List.range (n + 1)).all (fun p => (List.range n).all fun k => !((doneA n (ord.take p)).getD k false) || (waits .any ops k).all fun i => (doneA n (ord.take p)).getD i false) &&
    qs.all fun q => (List.range n).all fun j => (ord.take q).contains j || (ord.take q).all fun i => (ancL .any ops j f).contains i)
structure TabS (ops : Array Oper) (n : Nat) (ord cs qs : List Nat) (f : Nat) : Prop where
  out : tableS ops n ord cs qs f = true

/-- What is left of the region when the first p operations of the order are done, in the phase that ends at q. -/
def wpPh (P : Program) (ops : Array Oper) (Q : Exit → Act → World → Prop) (S : World → Prop) (n : Nat) (ord : List Nat) (q p : Nat) (a : Act) (w : World) : Prop := wpAnyS P .any ops Q S (ord.take q) (n - p) (doneA n (ord.take p)) a w

section
variable {P : Program} {ops : Array Oper} {Q : Exit → Act → World → Prop} {S : World → Prop} {n f : Nat} {ord cs qs : List Nat} {a : Act} {w : World}
theorem tabS_of {c : Option Code} {id : Nat} (h : c.bind (opsAt id) = some ops) (T : (c.bind (opsAt id)).all (fun o => tableS o n ord cs qs f) = true) : TabS ops n ord cs qs f := by
  rw [h] at T; exact ⟨by simpa using T⟩
theorem TabS.o (T : TabS ops n ord cs qs f) : TabO ops n ord cs := by
  have := T.out
  simp only [tableS, Bool.and_eq_true] at this
  exact ⟨this.1⟩
theorem TabS.closed (T : TabS ops n ord cs qs f) {p : Nat} (hp : p ≤ n) : ClosedL .any ops (doneA n (ord.take p)) := by
  have h := T.out
  simp only [tableS, Bool.and_eq_true, List.all_eq_true, List.mem_range] at h
  intro k i hk hi
  have hs := (tabO_parts T.o).1
  have hkn : k < n := by
    by_cases hkn : k < n
    · exact hkn
    · unfold waits at hi
      rw [Array.getElem?_eq_none (by omega)] at hi
      cases hi
  have := h.2.1 p (by omega) k hkn
  rw [hk] at this
  simp only [Bool.not_true, Bool.false_or, List.all_eq_true] at this
  exact this i hi
theorem TabS.parts (T : TabS ops n ord cs qs f) {q : Nat} (hq : q ∈ qs) : Parts .any ops (ord.take q) := by
  have h := T.out
  simp only [tableS, Bool.and_eq_true, List.all_eq_true, List.mem_range] at h
  intro j hj hn i hi
  have hs := (tabO_parts T.o).1
  obtain ⟨o, ho⟩ := hj
  have hjn : j < n := by rw [← hs]; exact (Array.getElem?_eq_some_iff.1 ho).1
  have := h.2.2 q hq j hjn
  simp only [Bool.or_eq_true, List.contains_iff_mem, List.all_eq_true] at this
  rcases this with h | h
  · exact absurd h hn
  · exact anc_of f i (h i hi)
theorem wpS_begin {id : Nat} (q : Nat) (T : TabS ops n ord cs qs f) (hm : P.follows .mixedOrders = true) (hS : S w.drew) (h : TabS ops n ord cs qs f → S w.drew → wpPh P ops Q S n ord q 0 a w.drew) : Code.wp P (.region id ops true) Q a w := by
  refine wp_region_any hm ?_
  have h1 := (tabO_parts T.o).1
  have := wpAny_of_phase _ _ _ _ (h T hS)
  subst h1
  exact this
/-- The operation at place p is taken; it is wanted. -/
theorem tks0 (p i d : Nat) {q : Nat} {oi : Oper} (v : Value) (T : TabS ops n ord cs qs f) (hy : ∀ w, S w → (execOp a.eval oi).run P w = .ok (.value v) w) (hS : S w) (h : wpPh P ops Q S n ord q (p + 1) (setT a d v) w)
    (hp : (ord.take q)[p]? = some i) (hc : ¬ p ∈ cs) (hq : q ∈ qs) (hi : ops[i]? = some oi)
    (hg : (oi.dst == some d && Region.wanted oi (yielded ops a.tmps)) = true) (hQ : ∀ c a w, Q (.panic c) (a.put (some d) v) w → Q (.panic c) a w) : wpPh P ops Q S n ord q p a w := by
  obtain ⟨h1, h2, h3, h4, h5, h6⟩ := tabO_parts T.o
  have hp' : ord[p]? = some i := by
    rw [List.getElem?_take] at hp
    split at hp
    · exact hp
    · cases hp
  have hlt : p < n := by have := (List.getElem?_eq_some_iff.1 hp').1; omega
  simp only [Bool.and_eq_true, beq_iff_eq] at hg
  rw [← put_setT] at h
  unfold wpPh at h ⊢
  rw [show n - p = (n - (p + 1)) + 1 by omega]
  rw [← doneA_step hp'] at h
  exact wpAnyS_first hi (List.mem_of_getElem? hp) (T.parts hq) (Region.noSelect_spec h3) (by rw [hg.1]; exact hQ) _ _ _ _ (T.closed (by omega)) (Region.free_spec hi (h4 p i hp' hc).1) (by simpa using (h4 p i hp' hc).2) (Or.inl ⟨hg.2, hy⟩) hS (by rw [hg.1]; exact h)
/-- The operation at place p comes up alone. -/
theorem cls (p i : Nat) {q : Nat} {oi : Oper} (T : TabS ops n ord cs qs f) (hc : p ∈ cs) (hp : (ord.take q)[p]? = some i) (hi : ops[i]? = some oi)
    (h : ∀ K : Act → World → Prop, Shut (∀ a w, S w → (S w → wpPh P ops Q S n ord q (p + 1) a w) → K a w) → if Region.wanted oi (yielded ops a.tmps) = true then Oper.wp P oi a w K Q else K (a.put oi.dst undef) w) : wpPh P ops Q S n ord q p a w := by
  obtain ⟨h1, h2, h3, h4, h5, h6⟩ := tabO_parts T.o
  have hp' : ord[p]? = some i := by
    rw [List.getElem?_take] at hp
    split at hp
    · exact hp
    · cases hp
  have hlt := (h6 p i hc hp').1
  have hr := (h6 p i hc hp').2
  have hun : (doneA n (ord.take p)).getD i true = false := (mem_ready.1 (show i ∈ Region.ready .any ops (doneA n (ord.take p)) by rw [hr]; simp)).1
  have hl : left (ord.take q) (doneA n (ord.take p)) = true := left_mem (List.mem_of_getElem? hp) hun
  unfold wpPh
  rw [show n - p = (n - (p + 1)) + 1 by omega]
  refine ⟨fun h => absurd hl (by rw [h]; simp), fun _ => ⟨fun h => absurd hr (by rw [h]; simp), fun j hj => ?_⟩⟩
  rw [hr] at hj
  obtain rfl : j = i := by simpa using hj
  exact wpOp_step hi (fun K hK => h K (fun a w hS hW => hK a w ⟨hS, by rw [doneA_step hp']; exact hW hS⟩))
/-- A phase is over, the next one begins. -/
theorem wpS_next {S' : World → Prop} (q q' : Nat) (T : TabS ops n ord cs qs f) (hl : left (ord.take q) (doneA n (ord.take q)) = false) (hS : S' w) (h : S' w → wpPh P ops Q S' n ord q' q a w) : wpPh P ops Q S n ord q q a w := by
  have h := wpAny_of_phase _ _ _ _ (h hS)
  unfold wpPh
  revert h
  generalize n - q = m
  intro h
  cases m with
  | zero => exact h
  | succ m => exact ⟨fun _ => h, fun hh => absurd hh (by rw [hl]; simp)⟩
theorem wpS_end {q : Nat} (T : TabS ops n ord cs qs f) (h : Q .normal a w) : wpPh P ops Q S n ord q n a w := by
  obtain ⟨h1, h2, h3, h4, h5, h6⟩ := tabO_parts T.o
  unfold wpPh
  rw [Nat.sub_self]
  exact ⟨h5, h⟩
end

/-- 'tks0', what it yields and the state behind it found by themselves. -/
theorem tks {P : Program} {ops : Array Oper} {Q : Exit → Act → World → Prop} {S : World → Prop} {n f q : Nat} {ord cs qs : List Nat} {a a' : Act} {w : World} (p i d : Nat) {oi : Oper} {v : Value} (T : TabS ops n ord cs qs f) (hS : S w) (h : wpPh P ops Q S n ord q (p + 1) a' w)
    (hp : (ord.take q)[p]? = some i := by rfl) (hc : ¬ p ∈ cs := by decide) (hq : q ∈ qs := by decide)
    (hi : ops[i]? = some oi := by rfl)
    (hg : (oi.dst == some d && Region.wanted oi (yielded ops a.tmps)) = true := by kernel_rfl)
    (hy : ∀ w, S w → (execOp a.eval oi).run P w = .ok (.value v) w := by (intro w s; (try dsimp only at s); go_simp <;> with_reducible rfl))
    (ha : setT a d v = a' := by (conv => lhs; dsimp only [setT, List.toList_toArray, put0, putS]))
    (hQ : ∀ c a w, Q (.panic c) (a.put (some d) v) w → Q (.panic c) a w := by exact fun _ _ _ h => h) : wpPh P ops Q S n ord q p a w :=
  tks0 p i d v T hy hS (by rw [ha]; exact h) hp hc hq hi hg hQ

end Go.Proofs.YthnlbhmecokomaaDoor
