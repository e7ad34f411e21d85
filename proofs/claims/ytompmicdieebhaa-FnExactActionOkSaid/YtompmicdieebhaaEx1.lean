/- What toByteS, eqByteS, markByteS, heldByteS of package laws do. -/
import Derived.Test.YtompmicdieebhaaBase
namespace Go.Proofs.Ytompmicdieebhaa
open Go.RowKit
set_option maxRecDepth 100000

/-- the first k bytes of l laid over noughts -/
def laid (l : List Int) (k : Nat) : List Int := l.take k ++ List.replicate (l.length - k) 0
theorem length_laid (l : List Int) (k : Nat) (h : k ≤ l.length) : (laid l k).length = l.length := by simp [laid]; omega
theorem laid_zero (l : List Int) : vals (laid l 0) = List.replicate l.length (.int .u8 0) := by simp [laid, vals]
theorem laid_all (l : List Int) : laid l l.length = l := by simp [laid]
theorem laid_succ (l : List Int) (k : Nat) (h : k < l.length) : (vals (laid l k)).set k (.int .u8 (l.getD k 0)) = vals (laid l (k + 1)) := by
  have e : (laid l k).set k (l.getD k 0) = laid l (k + 1) := by
    have ht : (l.take k).length = k := by simp; omega
    have hr : List.replicate (l.length - k) (0 : Int) = 0 :: List.replicate (l.length - (k + 1)) 0 := by
      rw [show l.length - k = (l.length - (k + 1)) + 1 by omega, List.replicate_succ]
    unfold laid
    have hg : l.getD k 0 = l[k] := by simp [h]
    rw [hr, List.set_append_right k (l.getD k 0) (by omega), ht, Nat.sub_self, List.set_cons_zero, List.take_succ_eq_append_getElem h, List.append_assoc, List.singleton_append, hg]
  rw [← e]
  simp [vals, List.map_set]

set_option maxHeartbeats 400000 in
theorem toByteS_any (v : Value) (l : List Int) (w : World) (hv : Bs w v l) (hl : l.length ≤ 2000000) :
    Calls Try.prog 21 #[v] w fun e w' => ∃ u, e = .returned u ∧ Own w' w.heap.size u l ∧ Below w.heap.size w w' := by
  obtain ⟨ho, a, cap, rfl, hlc, hcm, hnil, hcells⟩ := hv
  obtain ⟨i0, hi, hz0, hz1, hz2⟩ := info_parts info5
  unfold maxLen at hcm
  go_enter Try.func21, Try.ntmps21
  go_wp2_with (at_make; refine wpList_make_full _ rfl _ _ 22 rfl w.heap.size 5 i0 (.int .u8 0) 1 Try.underlying22 hi hz0 hz1 _ _ _ _ l.length rfl rfl rfl rfl ?b1 ?b2 ?b3 ?_)
  case b1 => rw [hz2]; omega
  case b2 => unfold maxLen; omega
  case b3 => exact Nat.le_refl _
  intro w1 hown hgrow
  have hB := (Below.refl w.heap.size w).grown hgrow (Nat.le_refl _) (by simp)
  have HR : Hid (w1.heap[w.heap.size]? = some (.cells (vals (laid l 0)).toArray 5 (0, 0))) := by
    rw [laid_zero]
    exact made_heap hown
  clear hown hgrow
  go_wp2
  go_loopw [4] (fun i wr => ∃ k : Nat, k ≤ l.length ∧ i = .int .i64 k ∧ Hid (wr.heap[w.heap.size]? = some (.cells (vals (laid l k)).toArray 5 (0, 0))) ∧ Below w.heap.size w wr) (fun i _ => l.length - (intOf i).toNat)
  case atStart => exact ⟨0, Nat.zero_le _, rfl, HR, hB⟩
  case round =>
    obtain ⟨k, hk, rfl, hR, hB'⟩ := hrel
    by_cases hlt : k < l.length
    · obtain ⟨b, off, rfl, hlb, hc⟩ := hcells (by omega)
      have hcx : wr.cell? ⟨b, off + k, none⟩ = some (.int .u8 (l.getD k 0)) := (hB'.cell (by exact hlb)).trans (hc k hlt)
      have hd := cell_of_row wr w.heap.size k _ 5 (0, 0) hR.out
      have hd' : ∃ x, wr.cell? ⟨w.heap.size, k, none⟩ = some x := ⟨_, hd.trans (by simp [vals_get _ _ (show k < (laid l k).length by rw [length_laid l k hk]; exact hlt)]; rfl)⟩
      have hf := frozen_of_row wr w.heap.size k _ 5 hR.out
      have hR' := heap_setCell_same wr w.heap.size k _ 5 (.int .u8 (l.getD k 0)) hR.out
      have HR' : Hid ((wr.setCell ⟨w.heap.size, k, none⟩ (.int .u8 (l.getD k 0))).heap[w.heap.size]? = some (.cells (vals (laid l (k + 1))).toArray 5 (0, 0))) := by
        rw [← laid_succ l k hlt]; simpa [Hid] using hR'
      obtain ⟨x, hx⟩ := hd'
      clear hd hR' hR
      go_wp2
      go_roundw
      case rel => exact ⟨k + 1, by omega, by go_num, by rw [← show l.getD k 0 = l[k] by simp [hlt]]; exact HR', hB'.setCell (Nat.le_refl _) _⟩
      case measure => simp [intOf]; omega
    · go_wp2
      go_ret
      obtain rfl : k = l.length := by omega
      rw [laid_all] at hR
      exact ⟨_, rfl, own_made ho (by unfold maxLen; omega) hR.out, hB'⟩

theorem eqL_take (l m : List Int) (k : Nat) (hl : l.length = m.length) (h : l.take k = m.take k) (hk : l.length ≤ k) : l = m := by
  rw [List.take_of_length_le hk, List.take_of_length_le (by omega)] at h; exact h
theorem take_snoc_eq {l m : List Int} {k : Nat} (hl : k < l.length) (hm : k < m.length) (h : l.take k = m.take k) (e : l[k] = m[k]) : l.take (k + 1) = m.take (k + 1) := by
  rw [List.take_succ_eq_append_getElem hl, List.take_succ_eq_append_getElem hm, h, e]

set_option maxHeartbeats 400000 in
theorem eqByteS_any (v u : Value) (l m : List Int) (w : World) (hv : Bs w v l) (hu : Bs w u m) :
    Calls Try.prog 23 #[v, u] w fun e w' => e = .returned (.bool (decide (l = m))) ∧ ∃ n, w' = w.drewN n := by
  obtain ⟨ho, a, cap, rfl, hlc, hcm, hnil, hcells⟩ := hv
  obtain ⟨ho', a', cap', rfl, hlc', hcm', hnil', hcells'⟩ := hu
  unfold maxLen at hcm hcm'
  by_cases hlen : l.length = m.length
  · have hq : ((l.length : Int) == (m.length : Int)) = true := by simp; omega
    have HL : Hid (l.length = m.length) := hlen
    clear hlen
    go_enter Try.func23, Try.ntmps23
    go_wp2
    go_loopw [5] (fun i wr => ∃ k : Nat, k ≤ l.length ∧ i = .int .i64 k ∧ Hid (l.take k = m.take k) ∧ Hid (∃ n, wr = w.drewN n)) (fun i _ => l.length - (intOf i).toNat)
    case atStart => exact ⟨0, Nat.zero_le _, rfl, by simp [Hid], ⟨0, rfl⟩⟩
    case round =>
      obtain ⟨k, hk, rfl, hR, hW⟩ := hrel
      by_cases hlt : k < l.length
      · have hlt' : k < m.length := by rw [← HL.out]; exact hlt
        obtain ⟨b, off, rfl, hlb, hc⟩ := hcells (by omega)
        obtain ⟨b', off', rfl, hlb', hc'⟩ := hcells' (by omega)
        obtain ⟨n, rfl⟩ := hW.out
        have hx := hc k hlt
        have hx' := hc' k hlt'
        clear hc hc' hcells hcells' hW
        by_cases he : (l[k] == m[k]) = true
        · go_wp2
          go_quiet (fail)
          go_wp2
          go_roundw
          case rel => exact ⟨k + 1, by omega, by go_num, take_snoc_eq hlt hlt' hR.out (by simpa using he), ⟨_, rfl⟩⟩
          case measure => simp [intOf]; omega
        · have he' : (l[k] == m[k]) = false := by simpa using he
          have hd : l ≠ m := fun h => he (by subst h; simp)
          clear he
          go_wp2
          go_quiet (fail)
          go_wp2
          go_ret
          exact ⟨by simp [hd], _, World.drewN_drewN _ _ _⟩
      · go_wp2
        go_ret
        exact ⟨by simp [eqL_take l m k HL.out hR.out (by omega)], hW.out⟩
  · have hne : ((l.length : Int) == (m.length : Int)) = false := by simp; omega
    have hd : l ≠ m := fun h => hlen (by rw [h])
    go_enter Try.func23, Try.ntmps23
    go_wp2
    go_ret
    exact ⟨by simp [hd], 0, rfl⟩

/-- n marks from k on: what markByteS writes. -/
def marks (k : Int) (n : Nat) : List Int := (List.range n).map fun (i : Nat) => (k + (i : Int)) % 256
theorem length_marks (k : Int) (n : Nat) : (marks k n).length = n := by simp [marks]
theorem marks_succ (k : Int) (n : Nat) : marks k (n + 1) = marks k n ++ [(k + (n : Int)) % 256] := by simp [marks, List.range_succ]
theorem marks_get (k : Int) (n i : Nat) (h : i < n) : (marks k n).getD i 0 = (k + (i : Int)) % 256 := by simp [marks, h]
theorem marks_take (k : Int) (cr : Array Value) (j : Nat) (hj : j < cr.size) (h : cr.toList.take j = vals (marks k j)) :
    (cr.setIfInBounds j (.int .u8 ((k + (j : Int)) % 256))).toList.take (j + 1) = vals (marks k (j + 1)) := by
  rw [Array.toList_setIfInBounds, List.take_succ_eq_append_getElem (by simpa using hj), List.take_set_of_le (Nat.le_refl _), h, marks_succ, vals_append]
  simp [vals]
theorem oct_marks (k : Int) (n : Nat) : Oct (marks k n) := by
  intro x hx
  obtain ⟨i, _, rfl⟩ := List.mem_map.1 hx
  omega

theorem toByteS_r (v : Value) (l : List Int) (w : World) (hv : Bs w v l) (hl : l.length ≤ 2000000) :
    Calls Try.prog 21 #[v] w fun e w' => ∃ u, e = .returned u ∧ Row w' w.heap.size w'.heap.size u l ∧ Below w.heap.size w w' :=
  (toByteS_any v l w hv hl).mono fun _ _ ⟨u, h1, h2, h3⟩ => ⟨u, h1, OwnB.toRow ⟨_, Nat.le_refl _, h2⟩, h3⟩
theorem eqByteS_yes (v u : Value) (l : List Int) (w : World) (hv : Bs w v l) (hu : Bs w u l) :
    Calls Try.prog 23 #[v, u] w fun e w' => e = .returned (.bool true) ∧ Below w.heap.size w w' :=
  (eqByteS_any v u l l w hv hu).mono fun _ _ ⟨h, hd⟩ => ⟨by simpa using h, below_of_drewN hd⟩
end Go.Proofs.Ytompmicdieebhaa
