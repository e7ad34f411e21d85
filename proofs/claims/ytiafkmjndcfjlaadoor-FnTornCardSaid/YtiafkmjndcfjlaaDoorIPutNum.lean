/- What PutNum of package impl does. -/
import Derived.Test.YtiafkmjndcfjlaaDoorJoined
import Derived.Test.YtiafkmjndcfjlaaDoorCutNum
namespace Go.Proofs.YtiafkmjndcfjlaaDoor
open Go.RowKit
set_option maxRecDepth 100000

/-- A cut of an array of five bytes, from its beginning on. -/
theorem run_sliceAt5 (k : Nat) (hk : k ≤ 5) (a : Addr) (W : World) : (Instr.sliceAt 71 (.pointer (some a)) none (some (.int .i64 k)) none).run Tryd.prog W = .ok (.slice (some a) k 5) W := by
  have harr : Tryd.prog.arrayLen 71 = 5 := by kernel_rfl
  have hel : Tryd.prog.elem 71 = 5 := by kernel_rfl
  rw [run_sliceAt_array_h (P := Tryd.prog) W 71 a (by kernel_rfl) .i64 k (by omega) (by rw [harr]; omega), hel, size5, harr]
  simp [Result.andThen, slicedAt, Addr.add]
/-- Five bytes in a block of their own, and a cut of them. -/
theorem bs_five (w : World) (c0 c1 c2 c3 c4 : Int) (k : Nat) (hk : k ≤ 5) (ho : Oct [c0, c1, c2, c3, c4]) :
    Bs (w.alloc (.cells #[.int .u8 c0, .int .u8 c1, .int .u8 c2, .int .u8 c3, .int .u8 c4] 71)) (.slice (some ⟨w.heap.size, 0, none⟩) k 5) ([c0, c1, c2, c3, c4].take k) := by
  have hl : ([c0, c1, c2, c3, c4].take k).length = k := by simp; omega
  refine ⟨oct_take ho k, _, 5, by rw [hl], by rw [hl]; exact hk, by decide, (fun h => by cases h), fun _ => ⟨w.heap.size, 0, rfl, by simp, fun i hi => ?_⟩⟩
  rw [hl] at hi
  have e : (w.alloc (.cells #[.int .u8 c0, .int .u8 c1, .int .u8 c2, .int .u8 c3, .int .u8 c4] 71)).cell? ⟨w.heap.size, 0 + i, none⟩ = (vals [c0, c1, c2, c3, c4])[i]? := by
    rw [Nat.zero_add, cell_of_row _ _ i _ _ _ (heap_alloc_new w _)]; simp [vals]
  rw [e, vals_get _ _ (by simp; omega)]
  simp [hi]

set_option maxHeartbeats 400000 in
theorem implPutNum_any (v : Value) (l : List Int) (n : Int) (w : World) (hv : Bs w v l) (hl : l.length ≤ 2000000) (hn0 : -9223372036854775808 ≤ n) (hn1 : n ≤ 9223372036854775807) :
    Calls Tryd.prog 35 #[v, .int .i64 n] w fun e w' => ∃ u, e = .returned u ∧ OwnB w' w.heap.size u (putL l n) ∧ Below w.heap.size w w' := by
  have HV : Hid (Bs w v l) := hv
  clear hv
  by_cases hb : 0 ≤ n ∧ n ≤ 2147483647
  · obtain ⟨hb0, hb1⟩ := hb
    have HP : Hid (putL l n = l ++ enc 4 n) := by simp [Hid, putL, hb0, hb1]
    go_enter Tryd.func35, Tryd.ntmps35
    go_wp2_with fail
    refine (cutNum_any n _ hb0 hb1).mono ?_
    rintro e w1 ⟨c0, c1, c2, c3, c4, k, rfl, hk, ho, he, hB⟩
    have HO : Hid (Oct [c0, c1, c2, c3, c4]) := ho
    have HE : Hid (enc 4 n = [c0, c1, c2, c3, c4].take k) := he
    clear ho he
    have hsl := run_sliceAt5 k hk
    have hsz := hB.size
    go_wp2_with fail
    refine (joined_any v _ l _ _ ((HV.out.below hB).alloc _) (bs_five w1 c0 c1 c2 c3 c4 k hk HO.out) (by omega) (by simp; omega)).mono ?_
    rintro e w2 ⟨u, rfl, hO, hB2⟩
    have HO2 : Hid (OwnB w2 w.heap.size u (putL l n)) := by
      rw [HP.out, HE.out]
      obtain ⟨g, hg, hg'⟩ := hO
      exact ⟨g, Nat.le_trans (Nat.le_trans hsz (by simp)) hg, hg'⟩
    have HB2 : Hid (Below w.heap.size w w2) := (hB.alloc hsz _).trans (hB2.mono (by simp; omega))
    clear hO hB2
    go_wp2
    go_ret
    exact ⟨_, rfl, HO2.out, HB2.out⟩
  · have HP : Hid (putL l n = l) := by simp [Hid, putL]; omega
    by_cases hneg : n < 0
    all_goals
      go_enter Tryd.func35, Tryd.ntmps35
      go_wp2_with fail
      refine (joined_any v _ l [] _ HV.out (bs_nil _) (by omega) (by simp)).mono ?_
      rintro e w1 ⟨u, rfl, hO, hB⟩
      have HO : Hid (OwnB w1 w.heap.size u (putL l n)) := by rw [HP.out]; simpa [Hid] using hO
      clear hO
      go_wp2
      go_ret
      exact ⟨_, rfl, HO.out, hB⟩

theorem implPutNum_r (v : Value) (l : List Int) (n : Int) (w : World) (hv : Bs w v l) (hl : l.length ≤ 2000000) (hn0 : -9223372036854775808 ≤ n) (hn1 : n ≤ 9223372036854775807) :
    Calls Tryd.prog 35 #[v, .int .i64 n] w fun e w' => ∃ u, e = .returned u ∧ Row w' w.heap.size w'.heap.size u (putL l n) ∧ Below w.heap.size w w' :=
  (implPutNum_any v l n w hv hl hn0 hn1).mono fun _ _ ⟨u, h1, h2, h3⟩ => ⟨u, h1, h2.toRow, h3⟩

end Go.Proofs.YtiafkmjndcfjlaaDoor
