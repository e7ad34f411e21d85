/- The proof's texts, part 14. -/
import Derived.Test.YtdokgpdfdenoaaaGreatPart7
import Derived.Test.YtdokgpdfdenoaaaGreatPart8
import Derived.Test.YtdokgpdfdenoaaaGreatPart9
import Derived.Test.YtdokgpdfdenoaaaGreatPart10
import Derived.Test.YtdokgpdfdenoaaaGreatPart11
import Derived.Test.YtdokgpdfdenoaaaGreatPart12
import Derived.Test.YtdokgpdfdenoaaaGreatPart13
import Derived.Test.YtdokgpdfdenoaaaGreatPart1
import Derived.Laws.BytesArg
import Derived.Test.YtdokgpdfdenoaaaGreatPart6
import Derived.Test.YtdokgpdfdenoaaaGreatPart4
import Derived.Deep.RegionHeld3
import Derived.Deep.QuietTactic
import Derived.BigQuiet
import Derived.Test.YtdokgpdfdenoaaaGreatPart5
import Derived.Test.YtdokgpdfdenoaaaGreatPart3
import Derived.Test.YtdokgpdfdenoaaaGreatPart2

/- What l3boxOk of package spec does of every box. -/
namespace Go.Proofs.YtdokgpdfdenoaaaGreat
open Go.RowKit
set_option maxRecDepth 100000

theorem l3boxOk_in (v : Value) (x : BoxD) (mv : Int) (w : World) (hv : BoxV w v x) (hX1 : nameB x.name = true) (q0 : 1 ≤ x.valid) (q1 : x.valid ≤ mv) (q2 : 1 ≤ x.next) (q3 : x.next ≤ 1000000) (q4 : 0 ≤ x.seq) (q5 : x.seq ≤ 1000000) (q6 : (x.mails.length : Int) ≤ 12) (q7 : (x.gones.length : Int) ≤ 40) (q8 : 0 ≤ x.lost) (q9 : x.lost ≤ x.seq) :
    Calls Tryz.prog 57 #[v, .int .i64 mv] w fun e w' => e = .returned (.bool (boxB x mv)) ∧ Below w.heap.size w w' := by
  cases h : (List.range x.mails.length).all (mailAt x) with
  | true =>
    have hA : ∀ j, j < x.mails.length → mailAt x j = true := fun j hj => List.all_eq_true.1 h j (List.mem_range.2 hj)
    cases hg : (List.range x.gones.length).all (goneAt x) with
    | true => exact l3boxOk_inH v x mv w hv hX1 q0 q1 q2 q3 q4 q5 q6 q7 q8 q9 hA (fun j hj => List.all_eq_true.1 hg j (List.mem_range.2 hj))
    | false =>
      obtain ⟨kb, _, h1, h2⟩ := first_bad hg
      cases he : earlyB x kb with
      | true =>
        have hr := clsB_range x kb
        have h5 := early_cls he
        rcases (show clsB x kb = 1 ∨ clsB x kb = 2 ∨ clsB x kb = 3 ∨ 4 ≤ clsB x kb by omega) with h | h | h | h
        · exact l3boxOk_inJc v x mv w hv hX1 q0 q1 q2 q3 q4 q5 q6 q7 q8 q9 hA hg (fun k h3 h4 => by rw [only_bad h1 h2 h3 h4]; omega)
        · exact l3boxOk_inJd v x mv w hv hX1 q0 q1 q2 q3 q4 q5 q6 q7 q8 q9 hA hg (fun k h3 h4 => by rw [only_bad h1 h2 h3 h4]; omega)
        · exact l3boxOk_inJe v x mv w hv hX1 q0 q1 q2 q3 q4 q5 q6 q7 q8 q9 hA hg (fun k h3 h4 => by rw [only_bad h1 h2 h3 h4]; omega)
        · exact l3boxOk_inJb v x mv w hv hX1 q0 q1 q2 q3 q4 q5 q6 q7 q8 q9 hA hg (fun k h3 h4 => by rw [only_bad h1 h2 h3 h4]; omega)
      | false => exact l3boxOk_inI v x mv w hv hX1 q0 q1 q2 q3 q4 q5 q6 q7 q8 q9 hA hg (fun k h3 h4 => by rw [only_bad h1 h2 h3 h4]; exact he)
  | false => exact l3boxOk_inM v x mv w hv hX1 q0 q1 q2 q3 q4 q5 q6 q7 q8 q9 h

theorem boxB_no {x : BoxD} {mv : Int} (h : ¬ (1 ≤ x.valid ∧ x.valid ≤ mv ∧ 1 ≤ x.next ∧ x.next ≤ 1000000 ∧ 0 ≤ x.seq ∧ x.seq ≤ 1000000 ∧ (x.mails.length : Int) ≤ 12 ∧ (x.gones.length : Int) ≤ 40 ∧ 0 ≤ x.lost ∧ x.lost ≤ x.seq)) : boxB x mv = false := by
  rw [Bool.eq_false_iff]
  intro e
  simp only [boxB, mailsB, gonesB, inB, Bool.and_eq_true, decide_eq_true_eq] at e
  obtain ⟨-, ⟨e1, e2⟩, ⟨e3, e4⟩, ⟨e5, e6⟩, ⟨e7, e8⟩, ⟨e9, -⟩, e10, -⟩ := e
  exact h ⟨e1, e2, e3, e4, e5, e6, by omega, by omega, e7, e8⟩

set_option maxRecDepth 100000 in
set_option maxHeartbeats 8000000 in
theorem l3boxOk_any (v : Value) (x : BoxD) (mv : Int) (w : World) (hv : BoxV w v x) :
    Calls Tryz.prog 57 #[v, .int .i64 mv] w fun e w' => e = .returned (.bool (boxB x mv)) ∧ Below w.heap.size w w' := by
  cases hX : nameB x.name with
  | true =>
    by_cases hC : 1 ≤ x.valid ∧ x.valid ≤ mv ∧ 1 ≤ x.next ∧ x.next ≤ 1000000 ∧ 0 ≤ x.seq ∧ x.seq ≤ 1000000 ∧ (x.mails.length : Int) ≤ 12 ∧ (x.gones.length : Int) ≤ 40 ∧ 0 ≤ x.lost ∧ x.lost ≤ x.seq
    · obtain ⟨q0, q1, q2, q3, q4, q5, q6, q7, q8, q9⟩ := hC
      exact l3boxOk_in v x mv w hv hX q0 q1 q2 q3 q4 q5 q6 q7 q8 q9
    · obtain ⟨u0, u1, u2, rfl, g0, g1, g2, -⟩ := hv
      have HX : Hid (∀ o, Below w.heap.size w (w.alloc o)) := fun o => (Below.refl _ _).alloc (Nat.le_refl _) o
      have hn : ∀ o, Calls Tryz.prog 54 #[u0] (w.alloc o) fun e w' => e = .returned (.bool true) ∧ w' = w.alloc o := fun o => by
        have h := l3name_any _ x.name _ (g0.below (HX.out o))
        rwa [hX] at h
      obtain ⟨a0, n0, c0, rfl⟩ := g0.form3
      obtain ⟨a1, c1, rfl, m0, m1⟩ := g1.form
      obtain ⟨a2, c2, rfl, m2, m3⟩ := g2.form
      clear g0 g1 g2 hX
      have HC : Hid (¬ (1 ≤ x.valid ∧ x.valid ≤ mv ∧ 1 ≤ x.next ∧ x.next ≤ 1000000 ∧ 0 ≤ x.seq ∧ x.seq ≤ 1000000 ∧ (x.mails.length : Int) ≤ 12 ∧ (x.gones.length : Int) ≤ 40 ∧ 0 ≤ x.lost ∧ x.lost ≤ x.seq)) := hC
      clear hC
      go_enter Tryz.func57, Tryz.ntmps57
      go_wp2_with fail
      refine (hn _).mono ?_
      rintro e w' ⟨rfl, rfl⟩
      clear hn
      go_wp2
      all_goals first
        | (go_ret; exact ⟨ret_b (boxB_no HC.out), HX.out _⟩)
        | exact (HC.out ⟨by omega, by omega, by omega, by omega, by omega, by omega, by omega, by omega, by omega, by omega⟩).elim
  | false =>
    have HZ : Hid (boxB x mv = false) := by simp [Hid, boxB, hX]
    obtain ⟨u0, u1, u2, rfl, g0, g1, g2, -⟩ := hv
    have HX : Hid (∀ o, Below w.heap.size w (w.alloc o)) := fun o => (Below.refl _ _).alloc (Nat.le_refl _) o
    have hn : ∀ o, Calls Tryz.prog 54 #[u0] (w.alloc o) fun e w' => e = .returned (.bool false) ∧ w' = w.alloc o := fun o => by
      have h := l3name_any _ x.name _ (g0.below (HX.out o))
      rwa [hX] at h
    obtain ⟨a0, n0, c0, rfl⟩ := g0.form3
    obtain ⟨a1, c1, rfl, m0, m1⟩ := g1.form
    obtain ⟨a2, c2, rfl, m2, m3⟩ := g2.form
    clear g0 g1 g2 hX
    go_enter Tryz.func57, Tryz.ntmps57
    go_wp2_with fail
    refine (hn _).mono ?_
    rintro e w' ⟨rfl, rfl⟩
    clear hn
    go_wp2
    go_ret
    exact ⟨ret_b HZ.out, HX.out _⟩

end Go.Proofs.YtdokgpdfdenoaaaGreat

/- The bytes of a slice as a string. -/
namespace Go.Proofs.YtdokgpdfdenoaaaGreat
open Go.RowKit

theorem underlyingStr : Tryz.prog.underlying 9 = some .string := by kernel_rfl

/-- The bytes of a slice as a string. -/
theorem run_convert_bs {w : World} {v : Value} {l : List Int} (h : Bs w v l) : (convert 37 9 v).run Tryz.prog w = .ok (.string (strOfNums l)) w := by
  obtain ⟨ho, a, cap, rfl, h1, h2, h3, h4⟩ := h
  cases a with
  | none =>
    have hc := h3 rfl
    have : l = [] := List.eq_nil_of_length_eq_zero (by omega)
    subst this
    exact run_convert_bytes_nil w 37 5 Tryz.underlying37 Tryz.underlying5 _ _ 9 underlyingStr
  | some x =>
    by_cases h0 : l = []
    · subst h0
      rw [run_convert_bytes_string w 37 9 5 _ _ _ Tryz.underlying37 Tryz.underlying5 underlyingStr]
      exact run_bytesToString w x 0 cap [] (by simp [loadCells, loadCellsFrom])
    · obtain ⟨b, off, hx, _, hc⟩ := h4 (List.length_pos_iff.2 h0)
      cases hx
      exact run_convert_bytes_arg w 37 5 Tryz.underlying37 Tryz.underlying5 b off l.length cap l rfl hc 9 underlyingStr

end Go.Proofs.YtdokgpdfdenoaaaGreat

/- What AccountOk of package spec do. -/
namespace Go.Proofs.YtdokgpdfdenoaaaGreat
open Go.RowKit
set_option maxRecDepth 100000
set_option linter.unusedVariables false
set_option linter.unusedSimpArgs false

theorem seenNo {q n : Int} (hq : 0 ≤ q) (h : n < 1 ∨ 1000000 < n ∨ n ≤ q) : inB n (q + 1) 1000000 = false := by
  rw [Bool.eq_false_iff]
  intro e
  simp only [inB, Bool.and_eq_true, decide_eq_true_eq] at e
  omega
theorem seenYes {q n : Int} (h0 : q < n) (h1 : n ≤ 1000000) : inB n (q + 1) 1000000 = true := by
  simp only [inB, Bool.and_eq_true, decide_eq_true_eq]
  omega
theorem str_toList (l : List Int) : (strOfNums l).toList = bts l := by
  rw [ByteArray.toList_eq]
  rfl

set_option maxRecDepth 100000 in
set_option maxHeartbeats 40000000 in
theorem specAccountOk_in (v : Value) (x : AccD) (w : World) (hv : AccV w v x) (q0 : 0 ≤ x.valid) (q1 : x.valid ≤ 1000000) (q2 : (x.boxes.length : Int) ≤ 4) (q3 : (x.seen.length : Int) ≤ 60) :
    Calls Tryz.prog 35 #[v] w fun e w' => e = .returned (.bool (accB x)) ∧ Below w.heap.size w w' := by
  have HNB : Hid ((List.range x.boxes.length).all (boxAt x) = false → accB x = false) := fun h => by simp [accB, h]
  have HNS : Hid ((List.range x.seen.length).all (seenAt x.seen) = false → accB x = false) := fun h => by simp [accB, seenB, h]
  obtain ⟨u0, u1, rfl, g0, g1, i0⟩ := hv
  have H0 : Hid (∀ wi, Below w.heap.size w wi → BoxesV wi u0 x.boxes ∧ IntsV wi u1 x.seen) := fun wi h => ⟨g0.below keepsBox h, g1.below keepsInt h⟩
  obtain ⟨a0, c0, rfl, m0, m1⟩ := g0.form
  obtain ⟨a1, c1, rfl, m2, m3⟩ := g1.form
  clear g0 g1
  have HK : Hid ((w.alloc (.cells #[.int .i64 x.valid, .slice a0 x.boxes.length c0, .slice a1 x.seen.length c1] 51)).heap[w.heap.size]? = some (.cells #[.int .i64 x.valid, .slice a0 x.boxes.length c0, .slice a1 x.seen.length c1] 51)) := box_new w _
  have HX : Hid (Below w.heap.size w (w.alloc (.cells #[.int .i64 x.valid, .slice a0 x.boxes.length c0, .slice a1 x.seen.length c1] 51))) := (Below.refl _ _).alloc (Nat.le_refl _) _
  go_enter Tryz.func35, Tryz.ntmps35
  go_wp2
  go_loopw [3, 4] (fun i _ wr => ∃ k : Nat, k ≤ x.boxes.length ∧ i = .int .i64 k ∧ Hid (∀ j, j < k → boxAt x j = true) ∧ Hid (wr.heap[w.heap.size]? = some (.cells #[.int .i64 x.valid, .slice a0 x.boxes.length c0, .slice a1 x.seen.length c1] 51)) ∧ Hid (Below w.heap.size w wr)) (fun i _ _ => x.boxes.length - (intOf i).toNat)
  case atStart => exact ⟨0, Nat.zero_le _, rfl, (fun j hj => absurd hj (Nat.not_lt_zero _)), HK, HX⟩
  case round =>
    obtain ⟨k, hk, rfl, hA, hK, hB⟩ := hrel
    obtain ⟨e0, e1, e2⟩ := bx3 hK.out
    have hlA := lt_of_heap hK.out
    by_cases hlt : k < x.boxes.length
    · obtain ⟨m, hm⟩ : ∃ m, x.boxes[k]? = some m := ⟨x.boxes[k], List.getElem?_eq_getElem hlt⟩
      obtain ⟨b, off, cap', u0, u1, u2, hv', hlb, d0, d1, d2, d3, d4, d5, d6, hu0, hu1, hu2, j0, j1, j2, j3⟩ := BoxesV.cell (H0.out wr hB.out).1 k m hm
      simp only [Value.slice.injEq, true_and] at hv'
      obtain ⟨rfl, rfl⟩ := hv'
      obtain ⟨ua, un, uc, rfl⟩ := hu0.form3
      obtain ⟨va, vc, rfl, -⟩ := hu1.form
      obtain ⟨wa, wc, rfl, -⟩ := hu2.form
      have HBV : Hid (∀ wi, Below wr.heap.size wr wi → BoxV wi (.agg #[.slice ua un uc, .int .i64 m.valid, .int .i64 m.next, .int .i64 m.seq, .slice va m.mails.length vc, .slice wa m.gones.length wc, .int .i64 m.lost]) m) := fun wi h => ⟨_, _, _, rfl, hu0.below h, hu1.below keepsMail h, hu2.below keepsGone h, j0, j1, j2, j3⟩
      have HU0 : Hid (Bs wr (.slice ua un uc) m.name) := hu0
      clear hu0 hu1 hu2
      have HE : Hid (boxAt x k = (boxB m x.valid && (aheadB x.boxes m k && !((x.boxes.take k).any fun o => decide (o.valid = m.valid))))) := by simp [Hid, boxAt, hm]
      have HM : Hid (x.boxes[k]? = some m) := hm
      clear hm
      have HC1 := fun wi (h : BoxV wi (.agg #[.slice ua un uc, .int .i64 m.valid, .int .i64 m.next, .int .i64 m.seq, .slice va m.mails.length vc, .slice wa m.gones.length wc, .int .i64 m.lost]) m) => l3boxOk_any _ m x.valid wi h
      generalize boxB m x.valid = X1 at HE HC1
      have DR : Below wr.heap.size wr wr.drew := (Below.refl _ _).drew
      have hkL : (k : Int) < (x.boxes.length : Int) := by omega
      have HF : Hid (∀ w', Below wr.heap.size wr w' → w'.cell? ⟨w.heap.size, 0, none⟩ = some (.int .i64 x.valid) ∧ w'.cell? ⟨w.heap.size, 1, none⟩ = some (.slice (some ⟨b, off, none⟩) x.boxes.length c0) ∧ w'.cell? ⟨b, off + k * 7, none⟩ = some (.slice ua un uc) ∧ w'.cell? ⟨b, off + k * 7 + 1, none⟩ = some (.int .i64 m.valid) ∧ w'.cell? ⟨b, off + k * 7 + 2, none⟩ = some (.int .i64 m.next) ∧ w'.cell? ⟨b, off + k * 7 + 3, none⟩ = some (.int .i64 m.seq) ∧ w'.cell? ⟨b, off + k * 7 + 4, none⟩ = some (.slice va m.mails.length vc) ∧ w'.cell? ⟨b, off + k * 7 + 5, none⟩ = some (.slice wa m.gones.length wc) ∧ w'.cell? ⟨b, off + k * 7 + 6, none⟩ = some (.int .i64 m.lost)) := by
        intro w' h
        obtain ⟨s0, s1, s2⟩ := bx3 (box_below h hK.out)
        exact ⟨s0, s1, (h.cell (p := ⟨b, _, none⟩) hlb).trans d0, (h.cell (p := ⟨b, _, none⟩) hlb).trans d1, (h.cell (p := ⟨b, _, none⟩) hlb).trans d2, (h.cell (p := ⟨b, _, none⟩) hlb).trans d3, (h.cell (p := ⟨b, _, none⟩) hlb).trans d4, (h.cell (p := ⟨b, _, none⟩) hlb).trans d5, (h.cell (p := ⟨b, _, none⟩) hlb).trans d6⟩
      cases X1 with
      | false =>
        go_wp2
        refine wp_region_held_drew (S := fun w' => w'.cell? ⟨w.heap.size, 0, none⟩ = some (.int .i64 x.valid) ∧ w'.cell? ⟨w.heap.size, 1, none⟩ = some (.slice (some ⟨b, off, none⟩) x.boxes.length c0) ∧ w'.cell? ⟨b, off + k * 7, none⟩ = some (.slice ua un uc) ∧ w'.cell? ⟨b, off + k * 7 + 1, none⟩ = some (.int .i64 m.valid) ∧ w'.cell? ⟨b, off + k * 7 + 2, none⟩ = some (.int .i64 m.next) ∧ w'.cell? ⟨b, off + k * 7 + 3, none⟩ = some (.int .i64 m.seq) ∧ w'.cell? ⟨b, off + k * 7 + 4, none⟩ = some (.slice va m.mails.length vc) ∧ w'.cell? ⟨b, off + k * 7 + 5, none⟩ = some (.slice wa m.gones.length wc) ∧ w'.cell? ⟨b, off + k * 7 + 6, none⟩ = some (.int .i64 m.lost)) (by kernel_rfl) (HF.out _ DR) (fun hHeld => (show wpAnyH _ _ _ _ _ 31 #[false, false, false, false, false, false, false, false, false, false, false, false, false, false, false, false, false, false, false, false, false, false, false, false, false, false, false, false, false, false, false] _ _ from ?_))
        refine tq 0 33 hHeld ?_
        refine tq 1 34 hHeld ?_
        refine tq 2 35 hHeld ?_
        refine tq 3 36 hHeld ?_
        refine tq 4 37 hHeld ?_
        refine tq 5 38 hHeld ?_
        refine tq 6 39 hHeld ?_
        refine wpAnyH_ready (rs := [7]) (by kernel_rfl) (by simp) ?_
        refine AllReadyH.cons rfl (fun K hK => ?_) AllReadyH.nil
        go_simp
        refine (HC1 _ (HBV.out _ DR)).mono ?_
        rintro e w1 ⟨rfl, B⟩
        refine hK.out _ _ (HF.out _ (Below.step DR B)) (fun hHeld => ?_)
        clear hK K
        refine tq 8 41 hHeld ?_
        refine tq 9 42 hHeld ?_
        refine wpAnyH_skips (by kernel_rfl) (fun _ _ _ _ _ h => h) hHeld [10, 11, 12, 13, 14, 15, 16, 17, 18, 19, 20, 21, 22, 23, 24, 25, 26, 27, 28, 29] [43, 44, 45, 46, 47, 48, 49, 50, 51, 52, 53, 54, 55, 56, 57, 58, 59, 60, 61, 62] _ _ _ (by kernel_rfl) ?_
        simp only [List.foldl_cons, List.foldl_nil, Act.put, sA, s0, sS]
        refine tq 30 63 hHeld ?_
        refine wpAnyH_done (by kernel_rfl) ?_ _
        clear HC1 HF HBV
        repeat clear hHeld
        go_wp2
        go_ret
        exact ⟨ret_b (HNB.out (rangeAll_no k hlt (HE.out.trans rfl))), Below.step (Below.step hB.out DR) B⟩
      | true =>
        by_cases hkz : (0 : Int) < (k : Int)
        · obtain ⟨j, hj⟩ : ∃ j, k = j + 1 := ⟨k - 1, by omega⟩
          have hjk : (j : Int) < (k : Int) := by omega
          have hjl : (j : Int) < (x.boxes.length : Int) := by omega
          have hj0 : (0 : Int) ≤ (j : Int) := by omega
          have hw1 : IntKind.i64.wrap ((k : Int) - 1) = (j : Int) := by rw [IntWalk.i64_in _ (by omega)]; omega
          have hkN : 0 < k := by omega
          have hd : decide (0 < k) = true := by simpa using hkN
          have HJ : Hid (k = j + 1) := hj
          clear hj
          obtain ⟨m', hm'⟩ : ∃ m', x.boxes[j]? = some m' := ⟨x.boxes[j]'(by have := HJ.out; omega), List.getElem?_eq_getElem (by have := HJ.out; omega)⟩
          obtain ⟨b2, off2, cap2, p0, p1, p2, hv2, hlb2, t0, -, -, -, -, -, -, hp0, -⟩ := BoxesV.cell (H0.out wr hB.out).1 j m' hm'
          simp only [Value.slice.injEq, true_and, Option.some.injEq, Addr.mk.injEq, and_true] at hv2
          obtain ⟨⟨rfl, rfl⟩, rfl⟩ := hv2
          obtain ⟨pa, pn, pc, rfl⟩ := hp0.form3
          have HAH : Hid (aheadB x.boxes m k = lessB m'.name m.name) := by rw [HJ.out]; simp [Hid, aheadB, nameAt, hm']
          rw [HAH.out] at HE
          have HCVS : Hid (∀ w', Below wr.heap.size wr w' → (convert 37 9 (.slice pa pn pc)).run Tryz.prog w' = .ok (.string (strOfNums m'.name)) w' ∧ (convert 37 9 (.slice ua un uc)).run Tryz.prog w' = .ok (.string (strOfNums m.name)) w') := fun w' h => ⟨run_convert_bs (hp0.below h), run_convert_bs (HU0.out.below h)⟩
          have HF2 : Hid (∀ w', Below wr.heap.size wr w' → w'.cell? ⟨w.heap.size, 0, none⟩ = some (.int .i64 x.valid) ∧ w'.cell? ⟨w.heap.size, 1, none⟩ = some (.slice (some ⟨b, off, none⟩) x.boxes.length c0) ∧ w'.cell? ⟨b, off + k * 7, none⟩ = some (.slice ua un uc) ∧ w'.cell? ⟨b, off + k * 7 + 1, none⟩ = some (.int .i64 m.valid) ∧ w'.cell? ⟨b, off + k * 7 + 2, none⟩ = some (.int .i64 m.next) ∧ w'.cell? ⟨b, off + k * 7 + 3, none⟩ = some (.int .i64 m.seq) ∧ w'.cell? ⟨b, off + k * 7 + 4, none⟩ = some (.slice va m.mails.length vc) ∧ w'.cell? ⟨b, off + k * 7 + 5, none⟩ = some (.slice wa m.gones.length wc) ∧ w'.cell? ⟨b, off + k * 7 + 6, none⟩ = some (.int .i64 m.lost) ∧ w'.cell? ⟨b, off + j * 7, none⟩ = some (.slice pa pn pc) ∧ (convert 37 9 (.slice pa pn pc)).run Tryz.prog w' = .ok (.string (strOfNums m'.name)) w' ∧ (convert 37 9 (.slice ua un uc)).run Tryz.prog w' = .ok (.string (strOfNums m.name)) w') := by
            intro w' h
            obtain ⟨s0, s1, r0, r1, r2, r3, r4, r5, r6⟩ := HF.out w' h
            exact ⟨s0, s1, r0, r1, r2, r3, r4, r5, r6, (h.cell (p := ⟨b, _, none⟩) hlb).trans t0, HCVS.out w' h⟩
          have HLB : Hid (Op.bytesLess (strOfNums m'.name).toList (strOfNums m.name).toList = lessB m'.name m.name) := by simp only [Hid, lessB, str_toList]
          clear hm' HAH hp0
          generalize hL : lessB m'.name m.name = L at HE HLB
          clear hL
          cases L with
          | false =>
            have hb := HLB.out
            clear HLB
            go_wp2
            refine wp_region_held_drew (S := fun w' => w'.cell? ⟨w.heap.size, 0, none⟩ = some (.int .i64 x.valid) ∧ w'.cell? ⟨w.heap.size, 1, none⟩ = some (.slice (some ⟨b, off, none⟩) x.boxes.length c0) ∧ w'.cell? ⟨b, off + k * 7, none⟩ = some (.slice ua un uc) ∧ w'.cell? ⟨b, off + k * 7 + 1, none⟩ = some (.int .i64 m.valid) ∧ w'.cell? ⟨b, off + k * 7 + 2, none⟩ = some (.int .i64 m.next) ∧ w'.cell? ⟨b, off + k * 7 + 3, none⟩ = some (.int .i64 m.seq) ∧ w'.cell? ⟨b, off + k * 7 + 4, none⟩ = some (.slice va m.mails.length vc) ∧ w'.cell? ⟨b, off + k * 7 + 5, none⟩ = some (.slice wa m.gones.length wc) ∧ w'.cell? ⟨b, off + k * 7 + 6, none⟩ = some (.int .i64 m.lost) ∧ w'.cell? ⟨b, off + j * 7, none⟩ = some (.slice pa pn pc) ∧ (convert 37 9 (.slice pa pn pc)).run Tryz.prog w' = .ok (.string (strOfNums m'.name)) w' ∧ (convert 37 9 (.slice ua un uc)).run Tryz.prog w' = .ok (.string (strOfNums m.name)) w') (by kernel_rfl) (HF2.out _ DR) (fun hHeld => (show wpAnyH _ _ _ _ _ 31 #[false, false, false, false, false, false, false, false, false, false, false, false, false, false, false, false, false, false, false, false, false, false, false, false, false, false, false, false, false, false, false] _ _ from ?_))
            refine tq 0 33 hHeld ?_
            refine tq 1 34 hHeld ?_
            refine tq 2 35 hHeld ?_
            refine tq 3 36 hHeld ?_
            refine tq 4 37 hHeld ?_
            refine tq 5 38 hHeld ?_
            refine tq 6 39 hHeld ?_
            refine wpAnyH_ready (rs := [7]) (by kernel_rfl) (by simp) ?_
            refine AllReadyH.cons rfl (fun K hK => ?_) AllReadyH.nil
            go_simp
            refine (HC1 _ (HBV.out _ DR)).mono ?_
            rintro e w1 ⟨rfl, B⟩
            refine hK.out _ _ (HF2.out _ (Below.step DR B)) (fun hHeld => ?_)
            clear hK K
            refine tq 8 41 hHeld ?_
            refine tq 9 42 hHeld ?_
            refine tq 10 43 hHeld ?_
            refine tq 11 44 hHeld ?_
            refine tq 12 45 hHeld ?_
            refine tq 13 46 hHeld ?_
            refine tq 14 47 hHeld ?_
            refine tq 15 48 hHeld ?_
            refine tq 16 49 hHeld ?_
            refine tq 17 50 hHeld ?_
            refine tq 18 51 hHeld ?_
            refine tq 19 52 hHeld ?_
            refine tq 20 53 hHeld ?_
            refine tq 21 54 hHeld ?_
            refine tq 22 55 hHeld ?_
            refine tq 23 56 hHeld ?_
            refine tq 24 57 hHeld ?_
            refine tq 25 58 hHeld ?_
            refine tq 26 59 hHeld ?_
            refine tq 27 60 hHeld ?_
            refine tq 28 61 hHeld ?_
            refine tq 29 62 hHeld ?_
            refine tq 30 63 hHeld ?_
            refine wpAnyH_done (by kernel_rfl) ?_ _
            clear HC1 HF HF2 HCVS HBV
            repeat clear hHeld
            go_wp2
            go_ret
            exact ⟨ret_b (HNB.out (rangeAll_no k hlt (HE.out.trans rfl))), Below.step (Below.step hB.out DR) B⟩
          | true =>
            have hb := HLB.out
            clear HLB
            go_wp2
            refine wp_region_held_drew (S := fun w' => w'.cell? ⟨w.heap.size, 0, none⟩ = some (.int .i64 x.valid) ∧ w'.cell? ⟨w.heap.size, 1, none⟩ = some (.slice (some ⟨b, off, none⟩) x.boxes.length c0) ∧ w'.cell? ⟨b, off + k * 7, none⟩ = some (.slice ua un uc) ∧ w'.cell? ⟨b, off + k * 7 + 1, none⟩ = some (.int .i64 m.valid) ∧ w'.cell? ⟨b, off + k * 7 + 2, none⟩ = some (.int .i64 m.next) ∧ w'.cell? ⟨b, off + k * 7 + 3, none⟩ = some (.int .i64 m.seq) ∧ w'.cell? ⟨b, off + k * 7 + 4, none⟩ = some (.slice va m.mails.length vc) ∧ w'.cell? ⟨b, off + k * 7 + 5, none⟩ = some (.slice wa m.gones.length wc) ∧ w'.cell? ⟨b, off + k * 7 + 6, none⟩ = some (.int .i64 m.lost) ∧ w'.cell? ⟨b, off + j * 7, none⟩ = some (.slice pa pn pc) ∧ (convert 37 9 (.slice pa pn pc)).run Tryz.prog w' = .ok (.string (strOfNums m'.name)) w' ∧ (convert 37 9 (.slice ua un uc)).run Tryz.prog w' = .ok (.string (strOfNums m.name)) w') (by kernel_rfl) (HF2.out _ DR) (fun hHeld => (show wpAnyH _ _ _ _ _ 31 #[false, false, false, false, false, false, false, false, false, false, false, false, false, false, false, false, false, false, false, false, false, false, false, false, false, false, false, false, false, false, false] _ _ from ?_))
            refine tq 0 33 hHeld ?_
            refine tq 1 34 hHeld ?_
            refine tq 2 35 hHeld ?_
            refine tq 3 36 hHeld ?_
            refine tq 4 37 hHeld ?_
            refine tq 5 38 hHeld ?_
            refine tq 6 39 hHeld ?_
            refine wpAnyH_ready (rs := [7]) (by kernel_rfl) (by simp) ?_
            refine AllReadyH.cons rfl (fun K hK => ?_) AllReadyH.nil
            go_simp
            refine (HC1 _ (HBV.out _ DR)).mono ?_
            rintro e w1 ⟨rfl, B⟩
            refine hK.out _ _ (HF2.out _ (Below.step DR B)) (fun hHeld => ?_)
            clear hK K
            refine tq 8 41 hHeld ?_
            refine tq 9 42 hHeld ?_
            refine tq 10 43 hHeld ?_
            refine tq 11 44 hHeld ?_
            refine tq 12 45 hHeld ?_
            refine tq 13 46 hHeld ?_
            refine tq 14 47 hHeld ?_
            refine tq 15 48 hHeld ?_
            refine tq 16 49 hHeld ?_
            refine tq 17 50 hHeld ?_
            refine tq 18 51 hHeld ?_
            refine tq 19 52 hHeld ?_
            refine tq 20 53 hHeld ?_
            refine tq 21 54 hHeld ?_
            refine tq 22 55 hHeld ?_
            refine tq 23 56 hHeld ?_
            refine tq 24 57 hHeld ?_
            refine tq 25 58 hHeld ?_
            refine tq 26 59 hHeld ?_
            refine tq 27 60 hHeld ?_
            refine tq 28 61 hHeld ?_
            refine tq 29 62 hHeld ?_
            refine tq 30 63 hHeld ?_
            refine wpAnyH_done (by kernel_rfl) ?_ _
            repeat clear hHeld
            have HB1 : Hid (Below w.heap.size w w1) := Below.step (Below.step hB.out DR) B
            have HK1 : Hid (w1.heap[w.heap.size]? = some (.cells #[.int .i64 x.valid, .slice (some ⟨b, off, none⟩) x.boxes.length c0, .slice a1 x.seen.length c1] 51)) := box_below B (box_below DR hK.out)
            have HD1 : Hid (∀ w', Below w1.heap.size w1 w' → ∀ p y, x.boxes[p]? = some y → w'.cell? ⟨b, off + p * 7 + 1, none⟩ = some (.int .i64 y.valid)) := by
              intro w' h p y hy
              obtain ⟨b3, off3, cap3, z0, z1, z2, hv3, -, -, t1, -⟩ := BoxesV.cell (H0.out w' (Below.step HB1.out h)).1 p y hy
              simp only [Value.slice.injEq, true_and, Option.some.injEq, Addr.mk.injEq, and_true] at hv3
              obtain ⟨⟨rfl, rfl⟩, rfl⟩ := hv3
              exact t1
            clear HC1 HF HBV B DR d0 d1 d2 d3 d4 d5 d6 e0 e1 e2 hK hB t0 HF2 HCVS hb
            go_wp2
            go_loopw [4] (fun i wr => ∃ q : Nat, q ≤ k ∧ i = .int .i64 q ∧ Hid (∀ p y, p < q → x.boxes[p]? = some y → y.valid ≠ m.valid) ∧ Hid (Below w1.heap.size w1 wr)) (fun i _ => k - (intOf i).toNat)
            case atStart => exact ⟨0, Nat.zero_le _, rfl, (fun p y hp => absurd hp (Nat.not_lt_zero _)), Below.refl _ _⟩
            case round =>
              rename_i wr0 _
              obtain ⟨q, hq, rfl, hV, hB2⟩ := hrel
              have hK2 := box_below hB2.out HK1.out
              obtain ⟨e0, e1, e2⟩ := bx3 hK2
              have hlA := lt_of_heap hK2
              clear hK2
              by_cases hql : q < k
              · obtain ⟨y, hy⟩ : ∃ y, x.boxes[q]? = some y := ⟨x.boxes[q]'(by omega), List.getElem?_eq_getElem (by omega)⟩
                have r0 := HD1.out _ hB2.out q y hy
                have r1 := HD1.out _ hB2.out k m HM.out
                have HY : Hid (x.boxes[q]? = some y) := hy
                clear hy
                have hqL : (q : Int) < (x.boxes.length : Int) := by omega
                have hkL : (k : Int) < (x.boxes.length : Int) := by omega
                by_cases he : y.valid = m.valid
                · have he' : (y.valid == m.valid) = true := by simpa using he
                  have HEQ : Hid (y.valid = m.valid) := he
                  clear he
                  go_wp2
                  go_quiet (fail)
                  go_wp2
                  go_ret
                  exact ⟨ret_b (HNB.out (rangeAll_no k hlt (HE.out.trans (by rw [List.any_eq_true.2 ⟨y, List.mem_of_getElem? (l := x.boxes.take k) (by rw [List.getElem?_take, if_pos hql]; exact HY.out), by simpa using HEQ.out⟩]; simp)))), below_drewN _ (Below.step HB1.out hB2.out)⟩
                · have he' : (y.valid == m.valid) = false := by simpa using he
                  have HEQ : Hid (y.valid ≠ m.valid) := he
                  clear he
                  go_wp2
                  go_quiet (fail)
                  go_wp2
                  go_roundw
                  case rel =>
                    refine ⟨q + 1, by omega, by go_num, (show Hid _ from fun p z hp hz => ?_), below_drewN _ hB2.out⟩
                    by_cases e : p = q
                    · subst e; rw [HY.out] at hz; cases hz; exact HEQ.out
                    · exact hV.out p z (by omega) hz
                  case measure => simp [intOf]; omega
              · obtain rfl : q = k := by omega
                go_wp2
                go_roundw
                case rel =>
                  refine ⟨q + 1, by omega, by go_num, (show Hid _ from fun i hi => ?_), box_below hB2.out HK1.out, Below.step HB1.out hB2.out⟩
                  by_cases e : i = q
                  · subst e
                    refine HE.out.trans ?_
                    have z : ((x.boxes.take i).any fun o => decide (o.valid = m.valid)) = false := by
                      rw [List.any_eq_false]
                      intro o ho
                      obtain ⟨p, hp, rfl⟩ := List.getElem_of_mem ho
                      have hp' : p < i := by simp at hp; omega
                      have := hV.out p (x.boxes[p]'(by omega)) hp' (List.getElem?_eq_getElem (by omega))
                      simpa using this
                    rw [z]
                    simp
                  · exact hA.out i (by omega)
                case measure => simp [intOf]; omega
        · have HAH : Hid (aheadB x.boxes m k = true) := by
            have : k = 0 := by omega
            subst this; rfl
          rw [HAH.out] at HE
          have hkN : ¬ 0 < k := by omega
          have hd : decide (0 < k) = false := by simpa using hkN
          clear HAH
          go_wp2
          refine wp_region_held_drew (S := fun w' => w'.cell? ⟨w.heap.size, 0, none⟩ = some (.int .i64 x.valid) ∧ w'.cell? ⟨w.heap.size, 1, none⟩ = some (.slice (some ⟨b, off, none⟩) x.boxes.length c0) ∧ w'.cell? ⟨b, off + k * 7, none⟩ = some (.slice ua un uc) ∧ w'.cell? ⟨b, off + k * 7 + 1, none⟩ = some (.int .i64 m.valid) ∧ w'.cell? ⟨b, off + k * 7 + 2, none⟩ = some (.int .i64 m.next) ∧ w'.cell? ⟨b, off + k * 7 + 3, none⟩ = some (.int .i64 m.seq) ∧ w'.cell? ⟨b, off + k * 7 + 4, none⟩ = some (.slice va m.mails.length vc) ∧ w'.cell? ⟨b, off + k * 7 + 5, none⟩ = some (.slice wa m.gones.length wc) ∧ w'.cell? ⟨b, off + k * 7 + 6, none⟩ = some (.int .i64 m.lost)) (by kernel_rfl) (HF.out _ DR) (fun hHeld => (show wpAnyH _ _ _ _ _ 31 #[false, false, false, false, false, false, false, false, false, false, false, false, false, false, false, false, false, false, false, false, false, false, false, false, false, false, false, false, false, false, false] _ _ from ?_))
          refine tq 0 33 hHeld ?_
          refine tq 1 34 hHeld ?_
          refine tq 2 35 hHeld ?_
          refine tq 3 36 hHeld ?_
          refine tq 4 37 hHeld ?_
          refine tq 5 38 hHeld ?_
          refine tq 6 39 hHeld ?_
          refine wpAnyH_ready (rs := [7]) (by kernel_rfl) (by simp) ?_
          refine AllReadyH.cons rfl (fun K hK => ?_) AllReadyH.nil
          go_simp
          refine (HC1 _ (HBV.out _ DR)).mono ?_
          rintro e w1 ⟨rfl, B⟩
          refine hK.out _ _ (HF.out _ (Below.step DR B)) (fun hHeld => ?_)
          clear hK K
          refine tq 8 41 hHeld ?_
          refine tq 9 42 hHeld ?_
          refine tq 10 43 hHeld ?_
          refine tq 11 44 hHeld ?_
          refine tq 12 45 hHeld ?_
          refine wpAnyH_skips (by kernel_rfl) (fun _ _ _ _ _ h => h) hHeld [13, 14, 15, 16, 17, 18, 19, 20, 21, 22, 23, 24, 25, 26, 27, 28] [46, 47, 48, 49, 50, 51, 52, 53, 54, 55, 56, 57, 58, 59, 60, 61] _ _ _ (by kernel_rfl) ?_
          simp only [List.foldl_cons, List.foldl_nil, Act.put, sA, s0, sS]
          refine tq 29 62 hHeld ?_
          refine tq 30 63 hHeld ?_
          refine wpAnyH_done (by kernel_rfl) ?_ _
          repeat clear hHeld
          have HB1 : Hid (Below w.heap.size w w1) := Below.step (Below.step hB.out DR) B
          have HK1 : Hid (w1.heap[w.heap.size]? = some (.cells #[.int .i64 x.valid, .slice (some ⟨b, off, none⟩) x.boxes.length c0, .slice a1 x.seen.length c1] 51)) := box_below B (box_below DR hK.out)
          have HD1 : Hid (∀ w', Below w1.heap.size w1 w' → ∀ p y, x.boxes[p]? = some y → w'.cell? ⟨b, off + p * 7 + 1, none⟩ = some (.int .i64 y.valid)) := by
            intro w' h p y hy
            obtain ⟨b3, off3, cap3, z0, z1, z2, hv3, -, -, t1, -⟩ := BoxesV.cell (H0.out w' (Below.step HB1.out h)).1 p y hy
            simp only [Value.slice.injEq, true_and, Option.some.injEq, Addr.mk.injEq, and_true] at hv3
            obtain ⟨⟨rfl, rfl⟩, rfl⟩ := hv3
            exact t1
          clear HC1 HF HBV B DR d0 d1 d2 d3 d4 d5 d6 e0 e1 e2 hK hB
          go_wp2
          go_loopw [4] (fun i wr => ∃ q : Nat, q ≤ k ∧ i = .int .i64 q ∧ Hid (∀ p y, p < q → x.boxes[p]? = some y → y.valid ≠ m.valid) ∧ Hid (Below w1.heap.size w1 wr)) (fun i _ => k - (intOf i).toNat)
          case atStart => exact ⟨0, Nat.zero_le _, rfl, (fun p y hp => absurd hp (Nat.not_lt_zero _)), Below.refl _ _⟩
          case round =>
            rename_i wr0 _
            obtain ⟨q, hq, rfl, hV, hB2⟩ := hrel
            have hK2 := box_below hB2.out HK1.out
            obtain ⟨e0, e1, e2⟩ := bx3 hK2
            have hlA := lt_of_heap hK2
            clear hK2
            by_cases hql : q < k
            · obtain ⟨y, hy⟩ : ∃ y, x.boxes[q]? = some y := ⟨x.boxes[q]'(by omega), List.getElem?_eq_getElem (by omega)⟩
              have r0 := HD1.out _ hB2.out q y hy
              have r1 := HD1.out _ hB2.out k m HM.out
              have HY : Hid (x.boxes[q]? = some y) := hy
              clear hy
              have hqL : (q : Int) < (x.boxes.length : Int) := by omega
              have hkL : (k : Int) < (x.boxes.length : Int) := by omega
              by_cases he : y.valid = m.valid
              · have he' : (y.valid == m.valid) = true := by simpa using he
                have HEQ : Hid (y.valid = m.valid) := he
                clear he
                go_wp2
                go_quiet (fail)
                go_wp2
                go_ret
                exact ⟨ret_b (HNB.out (rangeAll_no k hlt (HE.out.trans (by rw [List.any_eq_true.2 ⟨y, List.mem_of_getElem? (l := x.boxes.take k) (by rw [List.getElem?_take, if_pos hql]; exact HY.out), by simpa using HEQ.out⟩]; simp)))), below_drewN _ (Below.step HB1.out hB2.out)⟩
              · have he' : (y.valid == m.valid) = false := by simpa using he
                have HEQ : Hid (y.valid ≠ m.valid) := he
                clear he
                go_wp2
                go_quiet (fail)
                go_wp2
                go_roundw
                case rel =>
                  refine ⟨q + 1, by omega, by go_num, (show Hid _ from fun p z hp hz => ?_), below_drewN _ hB2.out⟩
                  by_cases e : p = q
                  · subst e; rw [HY.out] at hz; cases hz; exact HEQ.out
                  · exact hV.out p z (by omega) hz
                case measure => simp [intOf]; omega
            · obtain rfl : q = k := by omega
              go_wp2
              go_roundw
              case rel =>
                refine ⟨q + 1, by omega, by go_num, (show Hid _ from fun i hi => ?_), box_below hB2.out HK1.out, Below.step HB1.out hB2.out⟩
                by_cases e : i = q
                · subst e
                  refine HE.out.trans ?_
                  have z : ((x.boxes.take i).any fun o => decide (o.valid = m.valid)) = false := by
                    rw [List.any_eq_false]
                    intro o ho
                    obtain ⟨p, hp, rfl⟩ := List.getElem_of_mem ho
                    have hp' : p < i := by simp at hp; omega
                    have := hV.out p (x.boxes[p]'(by omega)) hp' (List.getElem?_eq_getElem (by omega))
                    simpa using this
                  rw [z]
                  simp
                · exact hA.out i (by omega)
              case measure => simp [intOf]; omega
    · obtain rfl : k = x.boxes.length := by omega
      have HBA : Hid (∀ j, j < x.boxes.length → boxAt x j = true) := hA.out
      clear hlt hA
      go_wp2
      clear e0 e1 e2
      go_loopw [5] (fun i wr => ∃ k : Nat, k ≤ x.seen.length ∧ i = .int .i64 k ∧ Hid (∀ j, j < k → seenAt x.seen j = true) ∧ Hid (wr.heap[w.heap.size]? = some (.cells #[.int .i64 x.valid, .slice a0 x.boxes.length c0, .slice a1 x.seen.length c1] 51)) ∧ Hid (Below w.heap.size w wr)) (fun i _ => x.seen.length - (intOf i).toNat)
      case atStart => exact ⟨0, Nat.zero_le _, rfl, (fun j hj => absurd hj (Nat.not_lt_zero _)), hK, hB⟩
      case round =>
        clear hK hB
        obtain ⟨k, hk, rfl, hA, hK, hB⟩ := hrel
        obtain ⟨e0, e1, e2⟩ := bx3 hK.out
        have hlA := lt_of_heap hK.out
        by_cases hlt : k < x.seen.length
        · obtain ⟨n, hn⟩ : ∃ n, x.seen[k]? = some n := ⟨x.seen[k], List.getElem?_eq_getElem hlt⟩
          obtain ⟨b, off, cap', hv', hlb, d0, i0⟩ := IntsV.cell (H0.out wr hB.out).2 k n hn
          simp only [Value.slice.injEq, true_and] at hv'
          obtain ⟨rfl, rfl⟩ := hv'
          have hp := prevI_ok hk hA.out
          have HE : Hid (seenAt x.seen k = inB n (prevI x.seen k + 1) 1000000) := by show seenAt x.seen k = _; unfold seenAt; rw [show x.seen.getD k 0 = n by simp [List.getD, hn]]
          generalize hQ : prevI x.seen k = q at hp HE
          have HQ : Hid (prevI x.seen k = q) := hQ
          clear hQ hn
          have hkL : (k : Int) < (x.seen.length : Int) := by omega
          by_cases h1 : n < 1
          · have e105 : decide (n < 1) = true := decide_eq_true h1
            go_wp2
            go_quiet (fail)
            go_wp2
            go_ret
            exact ⟨ret_b (HNS.out (rangeAll_no k hlt (HE.out.trans (seenNo hp.1 (.inl h1))))), below_drewN _ hB.out⟩
          have e105 : decide (n < 1) = false := decide_eq_false h1
          by_cases h2 : 1000000 < n
          · have e106 : decide (1000000 < n) = true := decide_eq_true h2
            go_wp2
            go_quiet (fail)
            go_wp2
            go_ret
            exact ⟨ret_b (HNS.out (rangeAll_no k hlt (HE.out.trans (seenNo hp.1 (.inr (.inl h2)))))), below_drewN _ hB.out⟩
          have e106 : decide (1000000 < n) = false := decide_eq_false h2
          by_cases hkz : (0 : Int) < (k : Int)
          · obtain ⟨j, hj⟩ : ∃ j, k = j + 1 := ⟨k - 1, by omega⟩
            have hjl : (j : Int) < (x.seen.length : Int) := by omega
            have hj0 : (0 : Int) ≤ (j : Int) := by omega
            have hw1 : IntKind.i64.wrap ((k : Int) - 1) = (j : Int) := by rw [IntWalk.i64_in _ (by omega)]; omega
            have hkN : 0 < k := by omega
            have hd : decide (0 < k) = true := by simpa using hkN
            have HJ : Hid (k = j + 1) := hj
            clear hj
            obtain ⟨n', hn'⟩ : ∃ n', x.seen[j]? = some n' := ⟨x.seen[j]'(by have := HJ.out; omega), List.getElem?_eq_getElem (by have := HJ.out; omega)⟩
            obtain ⟨b2, off2, cap2, hv2, hlb2, t0, -⟩ := IntsV.cell (H0.out wr hB.out).2 j n' hn'
            simp only [Value.slice.injEq, true_and, Option.some.injEq, Addr.mk.injEq, and_true] at hv2
            obtain ⟨⟨rfl, rfl⟩, rfl⟩ := hv2
            have HPU : Hid (n' = q) := by rw [← HQ.out, HJ.out]; simp [Hid, prevI, List.getD, hn']
            clear hn'
            by_cases h3 : n ≤ n'
            · have e103 : decide (n ≤ n') = true := decide_eq_true h3
              go_wp2
              go_quiet (fail)
              go_wp2
              go_ret
              exact ⟨ret_b (HNS.out (rangeAll_no k hlt (HE.out.trans (seenNo hp.1 (.inr (.inr (by have := HPU.out; omega))))))), below_drewN _ hB.out⟩
            have e103 : decide (n ≤ n') = false := decide_eq_false h3
            go_wp2
            go_quiet (fail)
            go_wp2
            go_roundw
            case rel =>
              refine ⟨k + 1, by omega, by go_num, (show Hid _ from fun i hi => ?_), hK.out, below_drewN _ hB.out⟩
              by_cases e : i = k
              · subst e; exact HE.out.trans (seenYes (by have := HPU.out; omega) (by omega))
              · exact hA.out i (by omega)
            case measure => simp [intOf]; omega
          · have hkN : ¬ 0 < k := by omega
            have hd : decide (0 < k) = false := by simpa using hkN
            have HPU : Hid (q = 0) := by
              rw [← HQ.out]
              have : k = 0 := by omega
              rw [this]; rfl
            go_wp2
            go_quiet (fail)
            go_wp2
            go_roundw
            case rel =>
              refine ⟨k + 1, by omega, by go_num, (show Hid _ from fun i hi => ?_), hK.out, below_drewN _ hB.out⟩
              by_cases e : i = k
              · subst e; exact HE.out.trans (seenYes (by have := HPU.out; omega) (by omega))
              · exact hA.out i (by omega)
            case measure => simp [intOf]; omega
        · obtain rfl : k = x.seen.length := by omega
          go_wp2
          go_ret
          refine ⟨ret_b ?_, hB.out⟩
          have z1 := rangeAll_yes HBA.out
          have z2 := rangeAll_yes hA.out
          simp [accB, seenB, inB, z1, z2, q0, q1]
          omega

end Go.Proofs.YtdokgpdfdenoaaaGreat

/- What AccountOk of package spec does of every account. -/
namespace Go.Proofs.YtdokgpdfdenoaaaGreat
open Go.RowKit
set_option maxRecDepth 100000

theorem accB_no {x : AccD} (h : ¬ (0 ≤ x.valid ∧ x.valid ≤ 1000000 ∧ (x.boxes.length : Int) ≤ 4 ∧ (x.seen.length : Int) ≤ 60)) : accB x = false := by
  rw [Bool.eq_false_iff]
  intro e
  simp only [accB, seenB, inB, Bool.and_eq_true, decide_eq_true_eq] at e
  exact h ⟨e.1.1, e.1.2, by have := e.2.1; omega, by have := e.2.2.1.1; omega⟩

set_option maxRecDepth 100000 in
set_option maxHeartbeats 4000000 in
theorem specAccountOk_any (v : Value) (x : AccD) (w : World) (hv : AccV w v x) :
    Calls Tryz.prog 35 #[v] w fun e w' => e = .returned (.bool (accB x)) ∧ Below w.heap.size w w' := by
  by_cases hC : 0 ≤ x.valid ∧ x.valid ≤ 1000000 ∧ (x.boxes.length : Int) ≤ 4 ∧ (x.seen.length : Int) ≤ 60
  · exact specAccountOk_in v x w hv hC.1 hC.2.1 hC.2.2.1 hC.2.2.2
  · obtain ⟨u0, u1, rfl, g0, g1, -⟩ := hv
    obtain ⟨a0, c0, rfl, m0, m1⟩ := g0.form
    obtain ⟨a1, c1, rfl, m2, m3⟩ := g1.form
    clear g0 g1
    have HX : Hid (∀ o, Below w.heap.size w (w.alloc o)) := fun o => (Below.refl _ _).alloc (Nat.le_refl _) o
    have HC : Hid (¬ (0 ≤ x.valid ∧ x.valid ≤ 1000000 ∧ (x.boxes.length : Int) ≤ 4 ∧ (x.seen.length : Int) ≤ 60)) := hC
    clear hC
    go_enter Tryz.func35, Tryz.ntmps35
    go_wp2
    all_goals first
      | (go_ret; exact ⟨ret_b (accB_no HC.out), HX.out _⟩)
      | exact (HC.out ⟨by omega, by omega, by omega, by omega⟩).elim

end Go.Proofs.YtdokgpdfdenoaaaGreat

/- What RecordOk of package spec does of every record. -/
namespace Go.Proofs.YtdokgpdfdenoaaaGreat
open Go.RowKit
set_option maxRecDepth 100000
set_option linter.unusedVariables false
set_option linter.unusedSimpArgs false

set_option maxRecDepth 100000 in
set_option maxHeartbeats 4000000 in
theorem specRecordOk_any (v : Value) (r : RecD) (w : World) (hv : RecV w v r) :
    Calls Tryz.prog 15 #[v] w fun e w' => e = .returned (.bool (recB r)) ∧ Below w.heap.size w w' := by
  have H0 : Hid (∀ wi, Below w.heap.size w wi → RecV wi v r) := fun wi h => hv.below h
  obtain ⟨a0, n0, c0, a1, n1, c1, a2, n2, c2, a3, c3, a4, c4, rfl⟩ := hv.form
  clear hv
  by_cases h : (0 ≤ r.kind ∧ r.kind ≤ 8) ∧ (0 ≤ r.user ∧ r.user ≤ 2) ∧ (0 ≤ r.n ∧ r.n ≤ 1000000)
  · obtain ⟨hk, hu, hn⟩ := h
    by_cases hk0 : r.kind = 0
    · have e := recB_zero hk0 hu hn
      rw [hk0] at H0 ⊢
      exact specRecordOk_0 r.user r.n hu.1 hu.2 hn.1 hn.2 _ _ _ _ _ _ _ _ _ _ _ _ _ _ _ _ _ _ _ _ _ w (zeroC r.cmd) (cmdD r.cmd) (zeroA r.acc) (accB r.acc) (recB r)
        (fun wi h => l5zeroCmd_any _ r.cmd wi (by have := H0.out wi h; rw [← hk0] at this; exact this.parts.1)) (fun wi h => specCmdOk_any _ r.cmd.k r.cmd.bx r.cmd.tt r.cmd.uid r.cmd.mode r.cmd.fl r.cmd.si r.cmd.tx wi (by have := H0.out wi h; rw [← hk0] at this; exact this.parts.1)) (fun wi h => l5zeroAcc_any _ r.acc wi (by have := H0.out wi h; rw [← hk0] at this; exact this.parts.2.1)) (fun wi h => specAccountOk_any _ r.acc wi (by have := H0.out wi h; rw [← hk0] at this; exact this.parts.2.1)) e
    · exact specRecordOk_1 r.kind r.user r.n (by omega) hk.2 hu.1 hu.2 hn.1 hn.2 _ _ _ _ _ _ _ _ _ _ _ _ _ _ _ _ _ _ _ _ _ w (zeroC r.cmd) (cmdD r.cmd) (zeroA r.acc) (accB r.acc) (recB r)
        (fun wi h => l5zeroCmd_any _ r.cmd wi (H0.out wi h).parts.1) (fun wi h => specCmdOk_any _ r.cmd.k r.cmd.bx r.cmd.tt r.cmd.uid r.cmd.mode r.cmd.fl r.cmd.si r.cmd.tx wi (H0.out wi h).parts.1) (fun wi h => l5zeroAcc_any _ r.acc wi (H0.out wi h).parts.2.1) (fun wi h => specAccountOk_any _ r.acc wi (H0.out wi h).parts.2.1) (recB_more ⟨by omega, hk.2⟩ hu hn)
  · have HC : Hid (¬ ((0 ≤ r.kind ∧ r.kind ≤ 8) ∧ (0 ≤ r.user ∧ r.user ≤ 2) ∧ (0 ≤ r.n ∧ r.n ≤ 1000000))) := h
    have HX : Hid (∀ o, Below w.heap.size w (w.alloc o)) := fun o => (Below.refl _ _).alloc (Nat.le_refl _) o
    clear h H0
    by_cases hn : 0 ≤ r.n ∧ r.n ≤ 1000000
    · have hl3 : ∀ w, Calls Tryz.prog 32 #[.int .i64 r.n] w fun e w' => e = .returned (.bool true) ∧ w' = w := fun w => by
        have h := l3seq_any r.n w
        rwa [show inB r.n 0 1000000 = true by simp [inB]; omega] at h
      go_enter Tryz.func15, Tryz.ntmps15
      go_wp2_with fail
      all_goals first
        | exact (HC.out ⟨by omega, by omega, by omega⟩).elim
        | (go_ret; exact ⟨ret_b (recB_out HC.out), HX.out _⟩)
        | (refine (hl3 _).mono ?_; exact (HC.out ⟨by omega, by omega, by omega⟩).elim)
    · have hl3 : ∀ w, Calls Tryz.prog 32 #[.int .i64 r.n] w fun e w' => e = .returned (.bool false) ∧ w' = w := fun w => by
        have h := l3seq_any r.n w
        rwa [show inB r.n 0 1000000 = false by simp [inB]; omega] at h
      go_enter Tryz.func15, Tryz.ntmps15
      go_wp2_with (go_at_call 32; refine (hl3 _).mono ?_; rintro e w' ⟨rfl, rfl⟩)
      all_goals (go_ret; exact ⟨ret_b (recB_out HC.out), HX.out _⟩)

end Go.Proofs.YtdokgpdfdenoaaaGreat

/- What l5book, BookOf of package spec do. -/
namespace Go.Proofs.YtdokgpdfdenoaaaGreat
open Go.RowKit
set_option linter.unusedVariables false
set_option linter.unusedSimpArgs false

set_option maxRecDepth 100000 in
set_option maxHeartbeats 1000000 in
theorem l5book_r (gb B M : Nat) (uu v : Value) (b : List RowD) (r : RecD) (w : World) (hk : w.heap[gb]? = some (.cells #[uu] 26)) (hR : RowsR w B M uu b) (hM : M ≤ w.heap.size) (hbl : b.length ≤ 1000) (hu0 : 0 ≤ r.user) (hu : r.user < b.length) (hok : ∀ x, x ∈ b → RowOk x) (hkind : 6 ≤ r.kind ∧ r.kind ≤ 8) (hn : 0 ≤ r.n ∧ r.n ≤ 1000000) (hv : RecV w v r) :
    Calls Tryz.prog 16 #[.pointer (some ⟨gb, 0, none⟩), v] w fun e w' => (∃ z, e = .returned z) ∧ RowsR w' B M uu (bookStep b r) ∧ Wr (In B M) w w' := by
  obtain ⟨a0, n0, c0, a1, n1, c1, a2, n2, c2, a3, c3, a4, c4, rfl⟩ := hv.form
  have AB : Below w.heap.size w (w.alloc (.cells #[.int .i64 r.kind, .int .i64 r.user, .int .i64 r.n, .int .i64 r.cmd.k, .slice a0 n0 c0, .slice a1 n1 c1, .int .i64 r.cmd.uid, .int .i64 r.cmd.mode, .int .i64 r.cmd.fl, .int .i64 r.cmd.si, .slice a2 n2 c2, .int .i64 r.acc.valid, .slice a3 r.acc.boxes.length c3, .slice a4 r.acc.seen.length c4] 53)) := (Below.refl _ _).alloc (Nat.le_refl _) _
  obtain ⟨j, hju⟩ : ∃ j : Nat, r.user = j := ⟨r.user.toNat, by omega⟩
  have hj : j < b.length := by omega
  have hjt : r.user.toNat = j := by omega
  obtain ⟨x, hx⟩ : ∃ x, b[j]? = some x := ⟨b[j], List.getElem?_eq_getElem hj⟩
  have hox : Hid (RowOk x) := hok x (List.mem_of_getElem? hx)
  have hI := rowOk_i64 (rowStep_ok (kind := r.kind) (n := r.n) hox.out hn.1 hn.2)
  obtain ⟨g, cap, cur, c, f, hv', -, -, hh, hroom, hS, ⟨rfl, -⟩, -, hcs, hf, hupd⟩ := Ow.upd framesRow (OwR.below hR AB) j x hx
  subst hv'
  have hng : g ≠ w.heap.size := by have := hS.2; omega
  have hlt : j * 5 + 5 ≤ 100000 := by omega
  have hbw : Hid ((w.alloc (.cells #[.int .i64 r.kind, .int .i64 r.user, .int .i64 r.n, .int .i64 r.cmd.k, .slice a0 n0 c0, .slice a1 n1 c1, .int .i64 r.cmd.uid, .int .i64 r.cmd.mode, .int .i64 r.cmd.fl, .int .i64 r.cmd.si, .slice a2 n2 c2, .int .i64 r.acc.valid, .slice a3 r.acc.boxes.length c3, .slice a4 r.acc.seen.length c4] 53)).heap[gb]? = some (.cells #[.slice (some ⟨g, 0, none⟩) b.length cap] 26)) := box_below AB hk
  have A0 : Hid (At (w.alloc (.cells #[.int .i64 r.kind, .int .i64 r.user, .int .i64 r.n, .int .i64 r.cmd.k, .slice a0 n0 c0, .slice a1 n1 c1, .int .i64 r.cmd.uid, .int .i64 r.cmd.mode, .int .i64 r.cmd.fl, .int .i64 r.cmd.si, .slice a2 n2 c2, .int .i64 r.acc.valid, .slice a3 r.acc.boxes.length c3, .slice a4 r.acc.seen.length c4] 53)) f g 70 cur (j * 5) [.int .i64 x.epoch, .int .i64 x.owner, .bool x.moving, .int .i64 x.tr, .int .i64 x.target] (w.alloc (.cells #[.int .i64 r.kind, .int .i64 r.user, .int .i64 r.n, .int .i64 r.cmd.k, .slice a0 n0 c0, .slice a1 n1 c1, .int .i64 r.cmd.uid, .int .i64 r.cmd.mode, .int .i64 r.cmd.fl, .int .i64 r.cmd.si, .slice a2 n2 c2, .int .i64 r.acc.valid, .slice a3 r.acc.boxes.length c3, .slice a4 r.acc.seen.length c4] 53))) := At.start hh hcs
  have fin : ∀ (w' : World) (cs : List Value), At (w.alloc (.cells #[.int .i64 r.kind, .int .i64 r.user, .int .i64 r.n, .int .i64 r.cmd.k, .slice a0 n0 c0, .slice a1 n1 c1, .int .i64 r.cmd.uid, .int .i64 r.cmd.mode, .int .i64 r.cmd.fl, .int .i64 r.cmd.si, .slice a2 n2 c2, .int .i64 r.acc.valid, .slice a3 r.acc.boxes.length c3, .slice a4 r.acc.seen.length c4] 53)) f g 70 cur (j * 5) cs w' → cs = [.int .i64 (rowStep x r.kind r.n).epoch, .int .i64 (rowStep x r.kind r.n).owner, .bool (rowStep x r.kind r.n).moving, .int .i64 (rowStep x r.kind r.n).tr, .int .i64 (rowStep x r.kind r.n).target] →
      RowsR w' B M (.slice (some ⟨g, 0, none⟩) b.length cap) (bookStep b r) ∧ Wr (In B M) w w' := by
    rintro w' cs hA rfl
    obtain ⟨cur', k1, k2, k3, k4⟩ := hA.blk
    refine ⟨?_, (Wr.of_below AB).trans (hA.wrote.mono fun y hy => ?_)⟩
    · rw [bookStep_get (x := x) (by rw [hjt]; exact hx), hjt]
      exact hupd w' cur' _ _ k1 k2 k3 (fun m hm => k4 m (by simpa using hm)) rfl (fun y hy hne hnf hlt => hA.wrote.block y hlt (fun h => h.elim hne hnf)) ⟨rfl, hI⟩
    · rcases hy with rfl | hy
      · exact hS
      · exact (hf y hy).1
  clear hupd hcs hh hf hR hk hv
  rw [hju] at hbw A0 fin ⊢
  have hkk : r.kind = 6 ∨ r.kind = 7 ∨ r.kind = 8 := by omega
  rcases hkk with hk6 | hk7 | hk8
  · rw [hk6] at hbw A0 fin ⊢
    cases hm : x.moving with
    | true =>
      rw [hm] at A0
      exact (l5book_6a gb g cap b.length j cur f x r.n r.cmd.k r.cmd.uid r.cmd.mode r.cmd.fl r.cmd.si r.acc.valid a0 a1 a2 a3 a4 n0 n1 n2 r.acc.boxes.length r.acc.seen.length c0 c1 c2 c3 c4 w _ rfl hbw A0 hj hbl hroom hox hng hlt).mono (fun e w' ⟨hz, hA⟩ => ⟨hz, fin w' _ hA (by simp [rowStep, hm])⟩)
    | false =>
      rw [hm] at A0
      by_cases h1 : r.n = x.owner
      · exact (l5book_6b gb g cap b.length j cur f x r.n r.cmd.k r.cmd.uid r.cmd.mode r.cmd.fl r.cmd.si r.acc.valid a0 a1 a2 a3 a4 n0 n1 n2 r.acc.boxes.length r.acc.seen.length c0 c1 c2 c3 c4 w _ rfl hbw A0 hj hbl hroom hox hng hlt h1).mono (fun e w' ⟨hz, hA⟩ => ⟨hz, fin w' _ hA (by simp [rowStep, hm, h1])⟩)
      by_cases h2 : 1000000 ≤ x.tr
      · exact (l5book_6c gb g cap b.length j cur f x r.n r.cmd.k r.cmd.uid r.cmd.mode r.cmd.fl r.cmd.si r.acc.valid a0 a1 a2 a3 a4 n0 n1 n2 r.acc.boxes.length r.acc.seen.length c0 c1 c2 c3 c4 w _ rfl hbw A0 hj hbl hroom hox hng hlt h1 h2).mono (fun e w' ⟨hz, hA⟩ => ⟨hz, fin w' _ hA (by simp [rowStep, hm, show ¬ x.tr < 1000000 by omega])⟩)
      by_cases h3 : 1000000 ≤ x.epoch
      · exact (l5book_6d gb g cap b.length j cur f x r.n r.cmd.k r.cmd.uid r.cmd.mode r.cmd.fl r.cmd.si r.acc.valid a0 a1 a2 a3 a4 n0 n1 n2 r.acc.boxes.length r.acc.seen.length c0 c1 c2 c3 c4 w _ rfl hbw A0 hj hbl hroom hox hng hlt h1 (by omega) h3).mono (fun e w' ⟨hz, hA⟩ => ⟨hz, fin w' _ hA (by simp [rowStep, hm, show ¬ x.epoch < 1000000 by omega])⟩)
      exact (l5book_6e gb g cap b.length j cur f x r.n r.cmd.k r.cmd.uid r.cmd.mode r.cmd.fl r.cmd.si r.acc.valid a0 a1 a2 a3 a4 n0 n1 n2 r.acc.boxes.length r.acc.seen.length c0 c1 c2 c3 c4 w _ rfl hbw A0 hj hbl hroom hox hng hlt h1 (by omega) (by omega) _ rfl).mono (fun e w' ⟨hz, hA⟩ => ⟨hz, fin w' _ hA (by simp [rowStep, hm, h1, show x.tr < 1000000 by omega, show x.epoch < 1000000 by omega])⟩)
  · rw [hk7] at hbw A0 fin ⊢
    cases hm : x.moving with
    | true =>
      rw [hm] at A0
      exact (l5book_7b gb g cap b.length j cur f x r.n r.cmd.k r.cmd.uid r.cmd.mode r.cmd.fl r.cmd.si r.acc.valid a0 a1 a2 a3 a4 n0 n1 n2 r.acc.boxes.length r.acc.seen.length c0 c1 c2 c3 c4 w _ rfl hbw A0 hj hbl hroom hox hng hlt).mono (fun e w' ⟨hz, hA⟩ => ⟨hz, fin w' _ hA (by simp [rowStep, hm])⟩)
    | false =>
      rw [hm] at A0
      exact (l5book_7a gb g cap b.length j cur f x r.n r.cmd.k r.cmd.uid r.cmd.mode r.cmd.fl r.cmd.si r.acc.valid a0 a1 a2 a3 a4 n0 n1 n2 r.acc.boxes.length r.acc.seen.length c0 c1 c2 c3 c4 w _ rfl hbw A0 hj hbl hroom hox hng hlt).mono (fun e w' ⟨hz, hA⟩ => ⟨hz, fin w' _ hA (by simp [rowStep, hm])⟩)
  · rw [hk8] at hbw A0 fin ⊢
    exact (l5book_8 gb g cap b.length j cur f x r.n r.cmd.k r.cmd.uid r.cmd.mode r.cmd.fl r.cmd.si r.acc.valid a0 a1 a2 a3 a4 n0 n1 n2 r.acc.boxes.length r.acc.seen.length c0 c1 c2 c3 c4 w _ rfl hbw A0 hj hbl hroom hox hng hlt).mono (fun e w' ⟨hz, hA⟩ => ⟨hz, fin w' _ hA (by simp [rowStep])⟩)

end Go.Proofs.YtdokgpdfdenoaaaGreat

/- What BookOf of package spec does. -/
namespace Go.Proofs.YtdokgpdfdenoaaaGreat
open Go.RowKit
set_option maxRecDepth 100000
set_option linter.unusedVariables false
set_option linter.unusedSimpArgs false

theorem ret_t {u : Value} {a b : Bool} (h : b = a) : Ending.returned (.tuple #[u, .bool a]) = .returned (.tuple #[u, .bool b]) := by rw [h]
theorem bookB_bad {h : Int} {l : List RecD} {k : Nat} {x : RecD} (hx : l[k]? = some x) (hb : bookOk h x = false) : bookB h l = false := by
  unfold bookB
  rw [Bool.and_eq_false_iff]
  exact .inr (by rw [List.all_eq_false]; exact ⟨x, List.mem_of_getElem? hx, by simp [hb]⟩)
theorem bookB_good {h : Int} {l : List RecD} (h1 : 1 ≤ h) (h3 : h ≤ 3) (hb : ∀ j x, j < l.length → l[j]? = some x → bookOk h x = true) : bookB h l = true := by
  unfold bookB
  rw [Bool.and_eq_true, decide_eq_true_eq, List.all_eq_true]
  refine ⟨⟨h1, h3⟩, fun x hx => ?_⟩
  obtain ⟨j, hj, rfl⟩ := List.getElem_of_mem hx
  exact hb j _ hj (List.getElem?_eq_getElem hj)
theorem bookOk_facts {h : Int} {r : RecD} (e : bookOk h r = true) : (6 ≤ r.kind ∧ r.kind ≤ 8) ∧ (0 ≤ r.user ∧ r.user ≤ 2) ∧ (0 ≤ r.n ∧ r.n ≤ 1000000) := by
  simp only [bookOk, Bool.and_eq_true, decide_eq_true_eq] at e
  have := recB_range e.1
  exact ⟨⟨e.2.1, this.1.2⟩, this.2.1, this.2.2⟩
theorem rows_ok {b : List RowD} {r : RecD} (hb : ∀ x, x ∈ b → RowOk x) (hn : 0 ≤ r.n ∧ r.n ≤ 1000000) : ∀ x, x ∈ bookStep b r → RowOk x := by
  intro x hx
  unfold bookStep at hx
  split at hx
  · rename_i y hy
    rcases List.mem_or_eq_of_mem_set hx with h | rfl
    · exact hb x h
    · exact rowStep_ok (hb y (List.mem_of_getElem? hy)) hn.1 hn.2
  · exact hb x hx
theorem open_ok {h : Int} (h1 : 1 ≤ h) (h3 : h ≤ 3) : ∀ x, x ∈ openR h → RowOk x := by
  intro x hx
  simp only [openR, List.mem_cons, List.not_mem_nil, or_false] at hx
  rcases hx with rfl | rfl | rfl <;> exact openRow_ok h1 h3 (by omega)
theorem fold_step {l : List RecD} {k : Nat} {x : RecD} (hx : l[k]? = some x) (b : List RowD) : (l.take (k + 1)).foldl bookStep b = bookStep ((l.take k).foldl bookStep b) x := by
  have hk : k < l.length := (List.getElem?_eq_some_iff.1 hx).1
  rw [List.take_succ_eq_append_getElem hk, (List.getElem?_eq_some_iff.1 hx).2, List.foldl_append]
  rfl

set_option maxRecDepth 100000 in
set_option maxHeartbeats 4000000 in
theorem specBookOf_r (h : Int) (v : Value) (l : List RecD) (w : World) (hv : RecsV w v l) (hl : l.length ≤ 2000000) :
    Calls Tryz.prog 5 #[.int .i64 h, v] w fun e w' => ∃ u, e = .returned (.tuple #[u, .bool (bookB h l)]) ∧ BookR w' w.heap.size w'.heap.size u (bookD h l) ∧ Below w.heap.size w w' := by
  have HV : Hid (∀ wi, Below w.heap.size w wi → RecsV wi v l) := fun wi h => hv.below keepsRec h
  obtain ⟨a, cap, rfl, hlc, hcm⟩ := hv.form
  clear hv
  have X0 : Below w.heap.size w (w.alloc (.cells #[.slice none 0 0] 26)) := (Below.refl _ _).alloc (Nat.le_refl _) _
  have KR0 := box_new w (.cells #[.slice none 0 0] 26)
  by_cases hh : 1 ≤ h ∧ h ≤ 3
  case neg =>
    have NOK : Hid (bookB h l = false) := by simp [Hid, bookB, hh]
    have HB3 : Hid _ := X0
    have FIN : Hid (∃ u, Ending.returned (.tuple #[.agg #[.slice none 0 0], .bool false]) = .returned (.tuple #[u, .bool (bookB h l)]) ∧ BookR (w.alloc (.cells #[.slice none 0 0] 26)) w.heap.size (w.alloc (.cells #[.slice none 0 0] 26)).heap.size u (bookD h l) ∧ Below w.heap.size w (w.alloc (.cells #[.slice none 0 0] 26))) := by
      refine ⟨.agg #[.slice none 0 0], ret_t NOK.out, ⟨_, rfl, ?_⟩, HB3.out⟩
      rw [bookD_no NOK.out]
      exact .inl ⟨rfl, rfl⟩
    clear HB3 X0 KR0 HV NOK
    by_cases h1 : h < 1
    · go_enter Tryz.func5, Tryz.ntmps5
      go_wp2
      refine bodyPost_ret (v := .tuple #[.agg #[.slice none 0 0], .bool false]) (by simp [results, Tryz.results5, go_sem]) rfl FIN.out
    · have h2 : 3 < h := by omega
      go_enter Tryz.func5, Tryz.ntmps5
      go_wp2
      refine bodyPost_ret (v := .tuple #[.agg #[.slice none 0 0], .bool false]) (by simp [results, Tryz.results5, go_sem]) rfl FIN.out
  obtain ⟨h1, h3⟩ := hh
  go_enter Tryz.func5, Tryz.ntmps5
  go_wp2_with fail
  refine (l5open_r h h1 h3 _).mono ?_
  rintro e w1 ⟨uu, rfl, ⟨u, rfl, R1⟩, B1⟩
  obtain ⟨ua, un, uc, rfl⟩ := OwR.form3 R1
  have KR1 := box_below B1 KR0
  have X1 := Below.step X0 B1
  have s1 : w.heap.size + 1 ≤ w1.heap.size := by have := B1.size; simp at this; omega
  replace R1 := OwR.wide (B' := w.heap.size + 1) (T' := w1.heap.size) R1 (by simp) (Nat.le_refl _)
  have AB : Below w1.heap.size w1 (w1.alloc (.cells #[.slice ua un uc] 26)) := (Below.refl _ _).alloc (Nat.le_refl _) _
  have HW : Hid (∀ W, W = (w1.alloc (.cells #[.slice ua un uc] 26)) → Below w.heap.size w W ∧ W.heap[w.heap.size]? = some (.cells #[.slice none 0 0] 26) ∧ W.heap[w1.heap.size]? = some (.cells #[.slice ua un uc] 26) ∧ RowsR W (w.heap.size + 1) w1.heap.size (.slice ua un uc) (openR h) ∧ w1.heap.size < W.heap.size) := by
    rintro W rfl
    exact ⟨Below.step X1 AB, box_below AB KR1, box_new w1 _, OwR.below R1 AB, by simp⟩
  clear B1 KR0 KR1 X0 X1 R1 AB
  go_wp2
  go_loopw [7] (fun i wr => ∃ (k : Nat), k ≤ l.length ∧ i = .int .i64 k ∧ Hid (Below w.heap.size w wr) ∧ Hid (wr.heap[w.heap.size]? = some (.cells #[.slice none 0 0] 26) ∧ wr.heap[w1.heap.size]? = some (.cells #[.slice ua un uc] 26) ∧ w1.heap.size < wr.heap.size) ∧ Hid (RowsR wr (w.heap.size + 1) w1.heap.size (.slice ua un uc) ((l.take k).foldl bookStep (openR h)) ∧ (∀ j x, j < k → l[j]? = some x → bookOk h x = true) ∧ (∀ x, x ∈ (l.take k).foldl bookStep (openR h) → RowOk x))) (fun i _ => l.length - (intOf i).toNat)
  case atStart =>
    obtain ⟨x0, x1, x2, x3, x4⟩ := HW.out _ rfl
    exact ⟨0, Nat.zero_le _, rfl, x0, ⟨x1, x2, x4⟩, ⟨by simpa using x3, fun j x hj => absurd hj (Nat.not_lt_zero _), by simpa using open_ok h1 h3⟩⟩
  case round =>
    clear HW
    obtain ⟨k, hk, rfl, HB, HK, HR⟩ := hrel
    by_cases hlt : k < l.length
    · obtain ⟨x, hx⟩ : ∃ x, l[k]? = some x := ⟨l[k], List.getElem?_eq_getElem hlt⟩
      have HX : Hid (l[k]? = some x) := hx
      obtain ⟨b, off, cap', a0, n0, c0, a1, n1, c1, a2, n2, c2, a3, c3, a4, c4, hv', hlb, d0, d1, d2, d3, d4, d5, d6, d7, d8, d9, d10, d11, d12, d13, hRV⟩ := RecsV.cell (HV.out wr HB.out) k x hx
      simp only [Value.slice.injEq, true_and] at hv'
      obtain ⟨rfl, rfl⟩ := hv'
      have HRV : Hid (RecV wr (.agg #[.int .i64 x.kind, .int .i64 x.user, .int .i64 x.n, .int .i64 x.cmd.k, .slice a0 n0 c0, .slice a1 n1 c1, .int .i64 x.cmd.uid, .int .i64 x.cmd.mode, .int .i64 x.cmd.fl, .int .i64 x.cmd.si, .slice a2 n2 c2, .int .i64 x.acc.valid, .slice a3 x.acc.boxes.length c3, .slice a4 x.acc.seen.length c4]) x) := hRV
      clear hRV hx
      go_wp2_with fail
      refine (specRecordOk_any _ x _ HRV.out).mono ?_
      rintro e w3 ⟨rfl, B⟩
      have HB2 : Hid (Below w.heap.size w w3) := Below.step HB.out B
      have HRV2 : Hid (RecV w3 (.agg #[.int .i64 x.kind, .int .i64 x.user, .int .i64 x.n, .int .i64 x.cmd.k, .slice a0 n0 c0, .slice a1 n1 c1, .int .i64 x.cmd.uid, .int .i64 x.cmd.mode, .int .i64 x.cmd.fl, .int .i64 x.cmd.si, .slice a2 n2 c2, .int .i64 x.acc.valid, .slice a3 x.acc.boxes.length c3, .slice a4 x.acc.seen.length c4]) x) := HRV.out.below B
      have K0 := box_below B HK.out.1
      have K1 := box_below B HK.out.2.1
      have hs3 := B.size
      have hgl := HK.out.2.2
      have HR2 : Hid (RowsR w3 (w.heap.size + 1) w1.heap.size (.slice ua un uc) ((l.take k).foldl bookStep (openR h)) ∧ (∀ j x, j < k → l[j]? = some x → bookOk h x = true) ∧ (∀ x, x ∈ (l.take k).foldl bookStep (openR h) → RowOk x)) := ⟨OwR.below HR.out.1 B, HR.out.2⟩
      replace d0 := (B.cell (p := ⟨_, _, none⟩) (by exact hlb)).trans d0
      replace d1 := (B.cell (p := ⟨_, _, none⟩) (by exact hlb)).trans d1
      replace d2 := (B.cell (p := ⟨_, _, none⟩) (by exact hlb)).trans d2
      replace d3 := (B.cell (p := ⟨_, _, none⟩) (by exact hlb)).trans d3
      replace d4 := (B.cell (p := ⟨_, _, none⟩) (by exact hlb)).trans d4
      replace d5 := (B.cell (p := ⟨_, _, none⟩) (by exact hlb)).trans d5
      replace d6 := (B.cell (p := ⟨_, _, none⟩) (by exact hlb)).trans d6
      replace d7 := (B.cell (p := ⟨_, _, none⟩) (by exact hlb)).trans d7
      replace d8 := (B.cell (p := ⟨_, _, none⟩) (by exact hlb)).trans d8
      replace d9 := (B.cell (p := ⟨_, _, none⟩) (by exact hlb)).trans d9
      replace d10 := (B.cell (p := ⟨_, _, none⟩) (by exact hlb)).trans d10
      replace d11 := (B.cell (p := ⟨_, _, none⟩) (by exact hlb)).trans d11
      replace d12 := (B.cell (p := ⟨_, _, none⟩) (by exact hlb)).trans d12
      replace d13 := (B.cell (p := ⟨_, _, none⟩) (by exact hlb)).trans d13
      have hlb2 := Nat.lt_of_lt_of_le hlb hs3
      clear B HB HK HR HRV
      cases hq : recB x with
      | false =>
        have NOK : Hid (bookB h l = false) := bookB_bad HX.out (by simp [bookOk, hq])
        clear hq d0 d1 d2 d3 d4 d5 d6 d7 d8 d9 d10 d11 d12 d13
        have HB3 : Hid _ := HB2.out.setCell (p := ⟨w.heap.size, 0, none⟩) (by simp) (.slice none 0 0)
        have k0 := K0
        have z0 : w3.cell? ⟨w.heap.size, 0, none⟩ = some (.slice none 0 0) := by rw [cell_of_row _ _ _ _ _ (0, 0) k0]; rfl
        obtain ⟨oz, ol⟩ := box8z k0
        clear k0 K0 K1 HR2
        go_wp2
        refine bodyPost_ret (v := .tuple #[.agg #[.slice none 0 0], .bool false]) (by simp [results, Tryz.results5, go_sem, z0]) rfl ⟨_, ret_t NOK.out, ⟨_, rfl, ?_⟩, HB3.out⟩
        rw [bookD_no NOK.out]
        exact .inl ⟨rfl, rfl⟩
      | true =>
      have HQ : Hid (recB x = true) := hq
      clear hq
      by_cases hk6 : x.kind < 6
      · have NOK : Hid (bookB h l = false) := bookB_bad HX.out (by simp [bookOk, show ¬ 6 ≤ x.kind by omega])
        have HB3 : Hid _ := HB2.out.setCell (p := ⟨w.heap.size, 0, none⟩) (by simp) (.slice none 0 0)
        have k0 := K0
        have z0 : w3.cell? ⟨w.heap.size, 0, none⟩ = some (.slice none 0 0) := by rw [cell_of_row _ _ _ _ _ (0, 0) k0]; rfl
        obtain ⟨oz, ol⟩ := box8z k0
        clear k0 K0 K1 HR2
        go_wp2
        refine bodyPost_ret (v := .tuple #[.agg #[.slice none 0 0], .bool false]) (by simp [results, Tryz.results5, go_sem, z0]) rfl ⟨_, ret_t NOK.out, ⟨_, rfl, ?_⟩, HB3.out⟩
        rw [bookD_no NOK.out]
        exact .inl ⟨rfl, rfl⟩
      have hk6' : 6 ≤ x.kind := by omega
      by_cases hbad : x.kind = 6 ∧ h ≤ x.n
      · have NOK : Hid (bookB h l = false) := bookB_bad HX.out (by simp [bookOk, hbad.1, hbad.2])
        obtain ⟨hb1, hb2⟩ := hbad
        have e6 : (x.kind == 6) = true := by simp [hb1]
        have HB3 : Hid _ := HB2.out.setCell (p := ⟨w.heap.size, 0, none⟩) (by simp) (.slice none 0 0)
        have k0 := K0
        have z0 : w3.cell? ⟨w.heap.size, 0, none⟩ = some (.slice none 0 0) := by rw [cell_of_row _ _ _ _ _ (0, 0) k0]; rfl
        obtain ⟨oz, ol⟩ := box8z k0
        clear k0 K0 K1 HR2
        go_wp2
        refine bodyPost_ret (v := .tuple #[.agg #[.slice none 0 0], .bool false]) (by simp [results, Tryz.results5, go_sem, z0]) rfl ⟨_, ret_t NOK.out, ⟨_, rfl, ?_⟩, HB3.out⟩
        rw [bookD_no NOK.out]
        exact .inl ⟨rfl, rfl⟩
      have HOK : Hid (bookOk h x = true) := by
        show bookOk h x = true
        simp only [bookOk, HQ.out, Bool.true_and, Bool.and_eq_true, decide_eq_true_eq, Bool.not_eq_true', Bool.and_eq_false_iff, decide_eq_false_iff_not]
        refine ⟨hk6', ?_⟩
        by_cases h6 : x.kind = 6
        · exact .inr fun hn => hbad ⟨h6, hn⟩
        · exact .inl h6
      obtain ⟨f0, f1, f2⟩ := bookOk_facts HOK.out
      have HK0 : Hid _ := K0
      have HK1 : Hid (w3.heap[w1.heap.size]? = some (.cells #[.slice ua un uc] 26)) := K1
      clear K0 K1
      by_cases h6 : x.kind = 6
      · have e6 : (x.kind == 6) = true := by simp [h6]
        have hlt6 : x.n < h := by
          have := HOK.out
          simp [bookOk, h6] at this
          omega
        clear h6 hbad
        go_wp2_with fail
        refine (l5book_r w1.heap.size (w.heap.size + 1) w1.heap.size _ _ _ x _ HK1.out HR2.out.1 (by omega) (by rw [fold_len, openR_len]; omega) f1.1 (by rw [fold_len, openR_len]; omega) HR2.out.2.2 f0 f2 HRV2.out).mono ?_
        rintro e w4 ⟨⟨z, rfl⟩, hr4, hw4⟩
        have HB4 : Hid (Below w.heap.size w w4) := hw4.below HB2.out (fun y hy => by have := hy.1; omega) (by have := HB2.out.size; omega)
        have HK4 : Hid (w4.heap[w.heap.size]? = some (.cells #[.slice none 0 0] 26) ∧ w4.heap[w1.heap.size]? = some (.cells #[.slice ua un uc] 26) ∧ w1.heap.size < w4.heap.size) := ⟨(hw4.block _ (lt_of_heap HK0.out) (fun hy => by have := hy.1; omega)).trans HK0.out, (hw4.block _ (lt_of_heap HK1.out) (fun hy => by have := hy.2; omega)).trans HK1.out, by have := hw4.size; omega⟩
        have HR4 : Hid (RowsR w4 (w.heap.size + 1) w1.heap.size (.slice ua un uc) ((l.take (k + 1)).foldl bookStep (openR h)) ∧ (∀ j x, j < k + 1 → l[j]? = some x → bookOk h x = true) ∧ (∀ x, x ∈ (l.take (k + 1)).foldl bookStep (openR h) → RowOk x)) := by
          show _ ∧ _
          rw [fold_step HX.out]
          refine ⟨hr4, fun j y hj hy => ?_, rows_ok HR2.out.2.2 f2⟩
          by_cases e : j = k
          · subst e; rw [HX.out] at hy; cases hy; exact HOK.out
          · exact HR2.out.2.1 j y (by omega) hy
        clear hr4 hw4 HB2 HK0 HK1 HR2 HRV2 d0 d1 d2 d3 d4 d5 d6 d7 d8 d9 d10 d11 d12 d13
        go_wp2
        go_roundw
        case rel => exact ⟨k + 1, by omega, by go_num, HB4, HK4, HR4⟩
        case measure => simp [intOf]; omega
      · have e6 : (x.kind == 6) = false := by simp [h6]
        clear h6 hbad
        go_wp2_with fail
        refine (l5book_r w1.heap.size (w.heap.size + 1) w1.heap.size _ _ _ x _ HK1.out HR2.out.1 (by omega) (by rw [fold_len, openR_len]; omega) f1.1 (by rw [fold_len, openR_len]; omega) HR2.out.2.2 f0 f2 HRV2.out).mono ?_
        rintro e w4 ⟨⟨z, rfl⟩, hr4, hw4⟩
        have HB4 : Hid (Below w.heap.size w w4) := hw4.below HB2.out (fun y hy => by have := hy.1; omega) (by have := HB2.out.size; omega)
        have HK4 : Hid (w4.heap[w.heap.size]? = some (.cells #[.slice none 0 0] 26) ∧ w4.heap[w1.heap.size]? = some (.cells #[.slice ua un uc] 26) ∧ w1.heap.size < w4.heap.size) := ⟨(hw4.block _ (lt_of_heap HK0.out) (fun hy => by have := hy.1; omega)).trans HK0.out, (hw4.block _ (lt_of_heap HK1.out) (fun hy => by have := hy.2; omega)).trans HK1.out, by have := hw4.size; omega⟩
        have HR4 : Hid (RowsR w4 (w.heap.size + 1) w1.heap.size (.slice ua un uc) ((l.take (k + 1)).foldl bookStep (openR h)) ∧ (∀ j x, j < k + 1 → l[j]? = some x → bookOk h x = true) ∧ (∀ x, x ∈ (l.take (k + 1)).foldl bookStep (openR h) → RowOk x)) := by
          show _ ∧ _
          rw [fold_step HX.out]
          refine ⟨hr4, fun j y hj hy => ?_, rows_ok HR2.out.2.2 f2⟩
          by_cases e : j = k
          · subst e; rw [HX.out] at hy; cases hy; exact HOK.out
          · exact HR2.out.2.1 j y (by omega) hy
        clear hr4 hw4 HB2 HK0 HK1 HR2 HRV2 d0 d1 d2 d3 d4 d5 d6 d7 d8 d9 d10 d11 d12 d13
        go_wp2
        go_roundw
        case rel => exact ⟨k + 1, by omega, by go_num, HB4, HK4, HR4⟩
        case measure => simp [intOf]; omega
    · obtain rfl : k = l.length := by omega
      have OKB : Hid (bookB h l = true) := bookB_good h1 h3 HR.out.2.1
      have z0 : wr.cell? ⟨w.heap.size, 0, none⟩ = some (.slice none 0 0) := by rw [cell_of_row _ _ _ _ _ (0, 0) HK.out.1]; rfl
      have z1 : wr.cell? ⟨w1.heap.size, 0, none⟩ = some (.slice ua un uc) := by rw [cell_of_row _ _ _ _ _ (0, 0) HK.out.2.1]; rfl
      obtain ⟨oz, ol⟩ := box8z HK.out.1
      obtain ⟨rz, rl⟩ := box8z HK.out.2.1
      have HB3 : Hid _ := HB.out.setCell (p := ⟨w.heap.size, 0, none⟩) (by simp) (.slice ua un uc)
      have HR3 : Hid (RowsR (wr.setCell ⟨w.heap.size, 0, none⟩ (.slice ua un uc)) w.heap.size (wr.setCell ⟨w.heap.size, 0, none⟩ (.slice ua un uc)).heap.size (.slice ua un uc) (bookD h l)) := by
        show RowsR _ _ _ _ _
        rw [bookD_yes OKB.out, box_size]
        have := HR.out.1
        rw [List.take_length] at this
        exact OwR.wide (OwR.set this (.inl (by omega))) (by omega) (by omega)
      clear HB HK HR
      go_wp2
      exact bodyPost_ret (v := .tuple #[.agg #[.slice ua un uc], .bool true]) (by simp [results, Tryz.results5, go_sem, z0]) rfl ⟨_, ret_t OKB.out, ⟨_, rfl, HR3.out⟩, HB3.out⟩

end Go.Proofs.YtdokgpdfdenoaaaGreat

/- What rowActOf, applies, rowAfter of package impl do. -/
namespace Go.Proofs.YtdokgpdfdenoaaaGreat
open Go.RowKit
set_option maxRecDepth 100000
set_option linter.unusedVariables false
set_option linter.unusedSimpArgs false

theorem rowActOf_6 (us : Int) (n ck uid mode fl si valid : Int) (a0 a1 a2 a3 a4 : Option Addr) (n0 n1 n2 n3 n4 c0 c1 c2 c3 c4 : Nat) (w : World) :
    Calls Tryz.prog 45 #[.agg #[.int .i64 6, .int .i64 us, .int .i64 n, .int .i64 ck, .slice a0 n0 c0, .slice a1 n1 c1, .int .i64 uid, .int .i64 mode, .int .i64 fl, .int .i64 si, .slice a2 n2 c2, .int .i64 valid, .slice a3 n3 c3, .slice a4 n4 c4]] w fun e w' => e = .returned (.iface 107 (.agg #[.int .i64 n])) ∧ Below w.heap.size w w' := by
  have HX : Hid (∀ o, Below w.heap.size w (w.alloc o)) := fun o => (Below.refl _ _).alloc (Nat.le_refl _) o
  go_enter Tryz.func45, Tryz.ntmps45
  go_wp2
  go_ret
  exact ⟨rfl, HX.out _⟩
theorem rowActOf_7 (us : Int) (n ck uid mode fl si valid : Int) (a0 a1 a2 a3 a4 : Option Addr) (n0 n1 n2 n3 n4 c0 c1 c2 c3 c4 : Nat) (w : World) :
    Calls Tryz.prog 45 #[.agg #[.int .i64 7, .int .i64 us, .int .i64 n, .int .i64 ck, .slice a0 n0 c0, .slice a1 n1 c1, .int .i64 uid, .int .i64 mode, .int .i64 fl, .int .i64 si, .slice a2 n2 c2, .int .i64 valid, .slice a3 n3 c3, .slice a4 n4 c4]] w fun e w' => e = .returned (.iface 109 (.agg #[])) ∧ Below w.heap.size w w' := by
  have HX : Hid (∀ o, Below w.heap.size w (w.alloc o)) := fun o => (Below.refl _ _).alloc (Nat.le_refl _) o
  go_enter Tryz.func45, Tryz.ntmps45
  go_wp2
  go_ret
  exact ⟨rfl, HX.out _⟩
theorem rowActOf_8 (us : Int) (n ck uid mode fl si valid : Int) (a0 a1 a2 a3 a4 : Option Addr) (n0 n1 n2 n3 n4 c0 c1 c2 c3 c4 : Nat) (w : World) :
    Calls Tryz.prog 45 #[.agg #[.int .i64 8, .int .i64 us, .int .i64 n, .int .i64 ck, .slice a0 n0 c0, .slice a1 n1 c1, .int .i64 uid, .int .i64 mode, .int .i64 fl, .int .i64 si, .slice a2 n2 c2, .int .i64 valid, .slice a3 n3 c3, .slice a4 n4 c4]] w fun e w' => e = .returned (.iface 110 (.agg #[])) ∧ Below w.heap.size w w' := by
  have HX : Hid (∀ o, Below w.heap.size w (w.alloc o)) := fun o => (Below.refl _ _).alloc (Nat.le_refl _) o
  go_enter Tryz.func45, Tryz.ntmps45
  go_wp2
  go_ret
  exact ⟨rfl, HX.out _⟩

def movesB (x : RowD) (n : Int) : Bool := (!x.moving) && ((n != x.owner) && (decide (x.tr < 1000000) && decide (x.epoch < 1000000)))
theorem moveApplies_any (x : RowD) (n : Int) (w : World) :
    Calls Tryz.prog 124 #[.agg #[.int .i64 n], .agg #[.int .i64 x.epoch, .int .i64 x.owner, .bool x.moving, .int .i64 x.tr, .int .i64 x.target]] w fun e w' => e = .returned (.bool (movesB x n)) ∧ Below w.heap.size w w' := by
  obtain ⟨-, -, X⟩ := boxes2 w (.cells #[.int .i64 n] 107) (.cells #[.int .i64 x.epoch, .int .i64 x.owner, .bool x.moving, .int .i64 x.tr, .int .i64 x.target] 70)
  have HX : Hid _ := X
  clear X
  obtain ⟨ep, ow, mv, tr, tg⟩ := x
  cases mv
  · by_cases h1 : n = ow
    · have HC : Hid (movesB ⟨ep, ow, false, tr, tg⟩ n = false) := by simp [Hid, movesB, h1]
      have t1 : (n != ow) = false := by simp [h1]
      clear h1
      go_enter Tryz.func124, Tryz.ntmps124
      go_wp2
      go_ret
      exact ⟨ret_b HC.out, HX.out⟩
    · by_cases h2 : tr < 1000000
      · by_cases h3 : ep < 1000000
        · have HC : Hid (movesB ⟨ep, ow, false, tr, tg⟩ n = true) := by simp [Hid, movesB, h1, h2, h3]
          have t1 : (n != ow) = true := by simp [h1]
          clear h1
          go_enter Tryz.func124, Tryz.ntmps124
          go_wp2
          go_ret
          exact ⟨ret_b HC.out, HX.out⟩
        · have HC : Hid (movesB ⟨ep, ow, false, tr, tg⟩ n = false) := by simp [Hid, movesB, h3]
          have t1 : (n != ow) = true := by simp [h1]
          clear h1
          go_enter Tryz.func124, Tryz.ntmps124
          go_wp2
          go_ret
          exact ⟨ret_b HC.out, HX.out⟩
      · have HC : Hid (movesB ⟨ep, ow, false, tr, tg⟩ n = false) := by simp [Hid, movesB, h2]
        have t1 : (n != ow) = true := by simp [h1]
        clear h1
        go_enter Tryz.func124, Tryz.ntmps124
        go_wp2
        go_ret
        exact ⟨ret_b HC.out, HX.out⟩
  · have HC : Hid (movesB ⟨ep, ow, true, tr, tg⟩ n = false) := by simp [Hid, movesB]
    go_enter Tryz.func124, Tryz.ntmps124
    go_wp2
    go_ret
    exact ⟨ret_b HC.out, HX.out⟩
theorem cutApplies_any (x : RowD) (w : World) :
    Calls Tryz.prog 125 #[.agg #[], .agg #[.int .i64 x.epoch, .int .i64 x.owner, .bool x.moving, .int .i64 x.tr, .int .i64 x.target]] w fun e w' => e = .returned (.bool x.moving) ∧ Below w.heap.size w w' := by
  obtain ⟨-, -, X⟩ := boxes2 w (.cells #[] 109) (.cells #[.int .i64 x.epoch, .int .i64 x.owner, .bool x.moving, .int .i64 x.tr, .int .i64 x.target] 70)
  have HX : Hid _ := X
  clear X
  go_enter Tryz.func125, Tryz.ntmps125
  go_wp2
  go_ret
  exact ⟨rfl, HX.out⟩
theorem abortApplies_any (x : RowD) (w : World) :
    Calls Tryz.prog 126 #[.agg #[], .agg #[.int .i64 x.epoch, .int .i64 x.owner, .bool x.moving, .int .i64 x.tr, .int .i64 x.target]] w fun e w' => e = .returned (.bool x.moving) ∧ Below w.heap.size w w' := by
  obtain ⟨-, -, X⟩ := boxes2 w (.cells #[] 110) (.cells #[.int .i64 x.epoch, .int .i64 x.owner, .bool x.moving, .int .i64 x.tr, .int .i64 x.target] 70)
  have HX : Hid _ := X
  clear X
  go_enter Tryz.func126, Tryz.ntmps126
  go_wp2
  go_ret
  exact ⟨rfl, HX.out⟩

theorem meth_move (v : Value) (w : World) : (Go.method 276 107 v "loop.example/g00359/impl.applies").run Tryz.prog w = .ok (124, v) w := by kernel_rfl
theorem meth_cut (v : Value) (w : World) : (Go.method 276 109 v "loop.example/g00359/impl.applies").run Tryz.prog w = .ok (125, v) w := by kernel_rfl
theorem meth_abort (v : Value) (w : World) : (Go.method 276 110 v "loop.example/g00359/impl.applies").run Tryz.prog w = .ok (126, v) w := by kernel_rfl
theorem ta_mm (n : Int) (w : World) : (Instr.typeAssert (.iface 107 (.agg #[.int .i64 n])) 81 107 true).run Tryz.prog w = .ok (.tuple #[.agg #[.int .i64 n], .bool true]) w := by kernel_rfl
theorem ta_cm (w : World) : (Instr.typeAssert (.iface 109 (.agg #[])) 81 107 true).run Tryz.prog w = .ok (.tuple #[.agg #[.int .i64 0], .bool false]) w := by kernel_rfl
theorem ta_cc (w : World) : (Instr.typeAssert (.iface 109 (.agg #[])) 81 109 true).run Tryz.prog w = .ok (.tuple #[.agg #[], .bool true]) w := by kernel_rfl
theorem ta_am (w : World) : (Instr.typeAssert (.iface 110 (.agg #[])) 81 107 true).run Tryz.prog w = .ok (.tuple #[.agg #[.int .i64 0], .bool false]) w := by kernel_rfl
theorem ta_ac (w : World) : (Instr.typeAssert (.iface 110 (.agg #[])) 81 109 true).run Tryz.prog w = .ok (.tuple #[.agg #[], .bool false]) w := by kernel_rfl
theorem ta_aa (w : World) : (Instr.typeAssert (.iface 110 (.agg #[])) 81 110 true).run Tryz.prog w = .ok (.tuple #[.agg #[], .bool true]) w := by kernel_rfl
theorem bx5 {w : World} {g : Nat} {t : TypeId} {c0 c1 c2 c3 c4 : Value} (h : w.heap[g]? = some (.cells #[c0, c1, c2, c3, c4] t (0, 0))) :
    w.cell? ⟨g, 0, none⟩ = some c0 ∧ w.cell? ⟨g, 1, none⟩ = some c1 ∧ w.cell? ⟨g, 2, none⟩ = some c2 ∧ w.cell? ⟨g, 3, none⟩ = some c3 ∧ w.cell? ⟨g, 4, none⟩ = some c4 :=
  ⟨by rw [cell_of_row w g 0 _ t (0, 0) h]; rfl, by rw [cell_of_row w g 1 _ t (0, 0) h]; rfl, by rw [cell_of_row w g 2 _ t (0, 0) h]; rfl, by rw [cell_of_row w g 3 _ t (0, 0) h]; rfl, by rw [cell_of_row w g 4 _ t (0, 0) h]; rfl⟩
set_option maxRecDepth 100000 in
set_option maxHeartbeats 4000000 in
theorem rowAfter_6n (x : RowD) (n : Int) (h : Hid (movesB x n = false)) (w : World) :
    Calls Tryz.prog 44 #[.agg #[.int .i64 x.epoch, .int .i64 x.owner, .bool x.moving, .int .i64 x.tr, .int .i64 x.target], .iface 107 (.agg #[.int .i64 n])] w fun e w' => e = .returned (.agg #[.int .i64 x.epoch, .int .i64 x.owner, .bool x.moving, .int .i64 x.tr, .int .i64 x.target]) ∧ Below w.heap.size w w' := by
  obtain ⟨kX, kR, X⟩ := boxes2 w (.cells #[.int .i64 x.epoch, .int .i64 x.owner, .bool x.moving, .int .i64 x.tr, .int .i64 x.target] 70) (.cells #[.int .i64 0, .int .i64 0, .bool false, .int .i64 0, .int .i64 0] 70)
  have hm := meth_move (.agg #[.int .i64 n])
  go_enter Tryz.func44, Tryz.ntmps44
  go_wp2_with fail
  refine (moveApplies_any x n _).mono ?_
  rintro e w1 ⟨rfl, B⟩
  replace kX := box_below B kX
  replace kR := box_below B kR
  replace X := Below.step X B
  clear B hm
  obtain ⟨x0, x1, x2, x3, x4⟩ := bx5 kX
  obtain ⟨r0, r1, r2, r3, r4⟩ := bx5 kR
  obtain ⟨xz, xl⟩ := box8z kX
  obtain ⟨rz, rl⟩ := box8z kR
  rw [h.out]
  go_wp2
  refine bodyPost_ret (v := .agg #[.int .i64 x.epoch, .int .i64 x.owner, .bool x.moving, .int .i64 x.tr, .int .i64 x.target]) (by simp [results, Tryz.results44, go_sem, r0, r1, r2, r3, r4]) rfl ⟨rfl, ?_⟩
  repeat refine Below.setCell ?_ (by simp <;> omega) _
  exact X
set_option maxRecDepth 100000 in
set_option maxHeartbeats 4000000 in
theorem rowAfter_7n (x : RowD) (h : Hid (x.moving = false)) (w : World) :
    Calls Tryz.prog 44 #[.agg #[.int .i64 x.epoch, .int .i64 x.owner, .bool x.moving, .int .i64 x.tr, .int .i64 x.target], .iface 109 (.agg #[])] w fun e w' => e = .returned (.agg #[.int .i64 x.epoch, .int .i64 x.owner, .bool x.moving, .int .i64 x.tr, .int .i64 x.target]) ∧ Below w.heap.size w w' := by
  obtain ⟨kX, kR, X⟩ := boxes2 w (.cells #[.int .i64 x.epoch, .int .i64 x.owner, .bool x.moving, .int .i64 x.tr, .int .i64 x.target] 70) (.cells #[.int .i64 0, .int .i64 0, .bool false, .int .i64 0, .int .i64 0] 70)
  have hm := meth_cut (.agg #[])
  go_enter Tryz.func44, Tryz.ntmps44
  go_wp2_with fail
  refine (cutApplies_any x _).mono ?_
  rintro e w1 ⟨rfl, B⟩
  replace kX := box_below B kX
  replace kR := box_below B kR
  replace X := Below.step X B
  clear B hm
  obtain ⟨x0, x1, x2, x3, x4⟩ := bx5 kX
  obtain ⟨r0, r1, r2, r3, r4⟩ := bx5 kR
  obtain ⟨xz, xl⟩ := box8z kX
  obtain ⟨rz, rl⟩ := box8z kR
  rw [h.out]
  go_wp2
  refine bodyPost_ret (v := .agg #[.int .i64 x.epoch, .int .i64 x.owner, .bool x.moving, .int .i64 x.tr, .int .i64 x.target]) (by simp [results, Tryz.results44, go_sem, r0, r1, r2, r3, r4]) rfl ⟨rfl, ?_⟩
  repeat refine Below.setCell ?_ (by simp <;> omega) _
  exact X
set_option maxRecDepth 100000 in
set_option maxHeartbeats 4000000 in
theorem rowAfter_8n (x : RowD) (h : Hid (x.moving = false)) (w : World) :
    Calls Tryz.prog 44 #[.agg #[.int .i64 x.epoch, .int .i64 x.owner, .bool x.moving, .int .i64 x.tr, .int .i64 x.target], .iface 110 (.agg #[])] w fun e w' => e = .returned (.agg #[.int .i64 x.epoch, .int .i64 x.owner, .bool x.moving, .int .i64 x.tr, .int .i64 x.target]) ∧ Below w.heap.size w w' := by
  obtain ⟨kX, kR, X⟩ := boxes2 w (.cells #[.int .i64 x.epoch, .int .i64 x.owner, .bool x.moving, .int .i64 x.tr, .int .i64 x.target] 70) (.cells #[.int .i64 0, .int .i64 0, .bool false, .int .i64 0, .int .i64 0] 70)
  have hm := meth_abort (.agg #[])
  go_enter Tryz.func44, Tryz.ntmps44
  go_wp2_with fail
  refine (abortApplies_any x _).mono ?_
  rintro e w1 ⟨rfl, B⟩
  replace kX := box_below B kX
  replace kR := box_below B kR
  replace X := Below.step X B
  clear B hm
  obtain ⟨x0, x1, x2, x3, x4⟩ := bx5 kX
  obtain ⟨r0, r1, r2, r3, r4⟩ := bx5 kR
  obtain ⟨xz, xl⟩ := box8z kX
  obtain ⟨rz, rl⟩ := box8z kR
  rw [h.out]
  go_wp2
  refine bodyPost_ret (v := .agg #[.int .i64 x.epoch, .int .i64 x.owner, .bool x.moving, .int .i64 x.tr, .int .i64 x.target]) (by simp [results, Tryz.results44, go_sem, r0, r1, r2, r3, r4]) rfl ⟨rfl, ?_⟩
  repeat refine Below.setCell ?_ (by simp <;> omega) _
  exact X
set_option maxRecDepth 100000 in
set_option maxHeartbeats 4000000 in
theorem rowAfter_7y (x : RowD) (h : Hid (x.moving = true)) (w : World) :
    Calls Tryz.prog 44 #[.agg #[.int .i64 x.epoch, .int .i64 x.owner, .bool x.moving, .int .i64 x.tr, .int .i64 x.target], .iface 109 (.agg #[])] w fun e w' => e = .returned (.agg #[.int .i64 x.tr, .int .i64 x.target, .bool false, .int .i64 x.tr, .int .i64 x.target]) ∧ Below w.heap.size w w' := by
  obtain ⟨kX, kR, X⟩ := boxes2 w (.cells #[.int .i64 x.epoch, .int .i64 x.owner, .bool x.moving, .int .i64 x.tr, .int .i64 x.target] 70) (.cells #[.int .i64 0, .int .i64 0, .bool false, .int .i64 0, .int .i64 0] 70)
  have hm := meth_cut (.agg #[])
  go_enter Tryz.func44, Tryz.ntmps44
  go_wp2_with fail
  refine (cutApplies_any x _).mono ?_
  rintro e w1 ⟨rfl, B⟩
  replace kX := box_below B kX
  replace kR := box_below B kR
  replace X := Below.step X B
  clear B hm
  obtain ⟨x0, x1, x2, x3, x4⟩ := bx5 kX
  obtain ⟨r0, r1, r2, r3, r4⟩ := bx5 kR
  obtain ⟨xz, xl⟩ := box8z kX
  obtain ⟨rz, rl⟩ := box8z kR
  rw [h.out]
  clear h
  have t1 := ta_cm
  have t2 := ta_cc
  have kF : ((((((((((w1).setCell ⟨w.heap.size, 2, none⟩ (.bool false)).setCell ⟨w.heap.size, 1, none⟩ (.int .i64 x.target)).setCell ⟨w.heap.size, 0, none⟩ (.int .i64 x.tr)).setCell ⟨w.heap.size + 1, 0, none⟩ (.int .i64 x.tr)).setCell ⟨w.heap.size + 1, 1, none⟩ (.int .i64 x.target)).setCell ⟨w.heap.size + 1, 2, none⟩ (.bool false)).setCell ⟨w.heap.size + 1, 3, none⟩ (.int .i64 x.tr)).setCell ⟨w.heap.size + 1, 4, none⟩ (.int .i64 x.target)).alloc (.cells #[] 109)).heap[w.heap.size + 1]? = some (.cells #[.int .i64 x.tr, .int .i64 x.target, .bool false, .int .i64 x.tr, .int .i64 x.target] 70) := box_alloc (box_set (i := 4) (v := .int .i64 x.target) (box_set (i := 3) (v := .int .i64 x.tr) (box_set (i := 2) (v := .bool false) (box_set (i := 1) (v := .int .i64 x.target) (box_set (i := 0) (v := .int .i64 x.tr) (box_other (i := 0) (v := .int .i64 x.tr) (box_other (i := 1) (v := .int .i64 x.target) (box_other (i := 2) (v := .bool false) kR (by omega)) (by omega)) (by omega))))))) _
  obtain ⟨y0, y1, y2, y3, y4⟩ := bx5 kF
  clear kF
  go_wp2
  refine bodyPost_ret (v := .agg #[.int .i64 x.tr, .int .i64 x.target, .bool false, .int .i64 x.tr, .int .i64 x.target]) (by simp [results, Tryz.results44, go_sem, y0, y1, y2, y3, y4]) rfl ⟨rfl, ?_⟩
  refine Below.alloc ?_ (by simp only [box_size]; exact X.size) _
  repeat refine Below.setCell ?_ (by simp <;> omega) _
  exact X
set_option maxRecDepth 100000 in
set_option maxHeartbeats 4000000 in
theorem rowAfter_8y (x : RowD) (h : Hid (x.moving = true)) (w : World) :
    Calls Tryz.prog 44 #[.agg #[.int .i64 x.epoch, .int .i64 x.owner, .bool x.moving, .int .i64 x.tr, .int .i64 x.target], .iface 110 (.agg #[])] w fun e w' => e = .returned (.agg #[.int .i64 x.epoch, .int .i64 x.owner, .bool false, .int .i64 x.tr, .int .i64 x.target]) ∧ Below w.heap.size w w' := by
  obtain ⟨kX, kR, X⟩ := boxes2 w (.cells #[.int .i64 x.epoch, .int .i64 x.owner, .bool x.moving, .int .i64 x.tr, .int .i64 x.target] 70) (.cells #[.int .i64 0, .int .i64 0, .bool false, .int .i64 0, .int .i64 0] 70)
  have hm := meth_abort (.agg #[])
  go_enter Tryz.func44, Tryz.ntmps44
  go_wp2_with fail
  refine (abortApplies_any x _).mono ?_
  rintro e w1 ⟨rfl, B⟩
  replace kX := box_below B kX
  replace kR := box_below B kR
  replace X := Below.step X B
  clear B hm
  obtain ⟨x0, x1, x2, x3, x4⟩ := bx5 kX
  obtain ⟨r0, r1, r2, r3, r4⟩ := bx5 kR
  obtain ⟨xz, xl⟩ := box8z kX
  obtain ⟨rz, rl⟩ := box8z kR
  rw [h.out]
  clear h
  have t1 := ta_am
  have t2 := ta_ac
  have t3 := ta_aa
  have kF : ((((((((w1).setCell ⟨w.heap.size, 2, none⟩ (.bool false)).setCell ⟨w.heap.size + 1, 0, none⟩ (.int .i64 x.epoch)).setCell ⟨w.heap.size + 1, 1, none⟩ (.int .i64 x.owner)).setCell ⟨w.heap.size + 1, 2, none⟩ (.bool false)).setCell ⟨w.heap.size + 1, 3, none⟩ (.int .i64 x.tr)).setCell ⟨w.heap.size + 1, 4, none⟩ (.int .i64 x.target)).alloc (.cells #[] 110)).heap[w.heap.size + 1]? = some (.cells #[.int .i64 x.epoch, .int .i64 x.owner, .bool false, .int .i64 x.tr, .int .i64 x.target] 70) := box_alloc (box_set (i := 4) (v := .int .i64 x.target) (box_set (i := 3) (v := .int .i64 x.tr) (box_set (i := 2) (v := .bool false) (box_set (i := 1) (v := .int .i64 x.owner) (box_set (i := 0) (v := .int .i64 x.epoch) (box_other (i := 2) (v := .bool false) kR (by omega))))))) _
  obtain ⟨y0, y1, y2, y3, y4⟩ := bx5 kF
  clear kF
  go_wp2
  refine bodyPost_ret (v := .agg #[.int .i64 x.epoch, .int .i64 x.owner, .bool false, .int .i64 x.tr, .int .i64 x.target]) (by simp [results, Tryz.results44, go_sem, y0, y1, y2, y3, y4]) rfl ⟨rfl, ?_⟩
  refine Below.alloc ?_ (by simp only [box_size]; exact X.size) _
  repeat refine Below.setCell ?_ (by simp <;> omega) _
  exact X
theorem bx1 {w : World} {g : Nat} {t : TypeId} {c0 : Value} (h : w.heap[g]? = some (.cells #[c0] t (0, 0))) : w.cell? ⟨g, 0, none⟩ = some c0 := by rw [cell_of_row w g 0 _ t (0, 0) h]; rfl
theorem tabS_rowAfter : (Tryz.f44.body.bind (opsAt 6)).all (fun o => tableS o 14 [0, 1, 2, 3, 4, 5, 6, 7, 8, 9, 10, 11, 12, 13] [9, 11, 13] [12, 14] 0) = true := by kernel_rfl
set_option maxRecDepth 100000 in
set_option maxHeartbeats 4000000 in
theorem rowAfter_6y (x : RowD) (n : Int) (h : Hid (movesB x n = true)) (MX : Int) (HMX : Hid ((if x.tr < x.epoch then x.epoch else x.tr) = MX)) (hMX : 0 ≤ MX) (hMX2 : MX ≤ 2000000) (w : World) :
    Calls Tryz.prog 44 #[.agg #[.int .i64 x.epoch, .int .i64 x.owner, .bool x.moving, .int .i64 x.tr, .int .i64 x.target], .iface 107 (.agg #[.int .i64 n])] w fun e w' => e = .returned (.agg #[.int .i64 x.epoch, .int .i64 x.owner, .bool true, .int .i64 (MX + 1), .int .i64 n]) ∧ Below w.heap.size w w' := by
  obtain ⟨kX, kR, X⟩ := boxes2 w (.cells #[.int .i64 x.epoch, .int .i64 x.owner, .bool x.moving, .int .i64 x.tr, .int .i64 x.target] 70) (.cells #[.int .i64 0, .int .i64 0, .bool false, .int .i64 0, .int .i64 0] 70)
  have hm := meth_move (.agg #[.int .i64 n])
  go_enter Tryz.func44, Tryz.ntmps44
  go_wp2_with fail
  refine (moveApplies_any x n _).mono ?_
  rintro e w1 ⟨rfl, B⟩
  replace kX := box_below B kX
  replace kR := box_below B kR
  replace X := Below.step X B
  clear B hm
  obtain ⟨x0, x1, x2, x3, x4⟩ := bx5 kX
  obtain ⟨r0, r1, r2, r3, r4⟩ := bx5 kR
  obtain ⟨xz, xl⟩ := box8z kX
  obtain ⟨rz, rl⟩ := box8z kR
  rw [h.out]
  clear h
  have t1 := ta_mm n
  have AB : Below w1.heap.size w1 (w1.alloc (.cells #[.int .i64 n] 107)) := (Below.refl _ _).alloc (Nat.le_refl _) _
  have kX' := box_below AB kX
  have kR' := box_below AB kR
  have kY := box_new w1 (.cells #[.int .i64 n] 107)
  have y0 : (w1.alloc (.cells #[.int .i64 n] 107)).cell? ⟨w1.heap.size, 0, none⟩ = some (.int .i64 n) := by rw [cell_of_row _ _ _ _ _ (0, 0) kY]; rfl
  clear x0 x1 x2 x3 x4 r0 r1 r2 r3 r4 xz rz
  obtain ⟨x0, x1, x2, x3, x4⟩ := bx5 kX'
  obtain ⟨r0, r1, r2, r3, r4⟩ := bx5 kR'
  obtain ⟨xz, xl'⟩ := box8z kX'
  obtain ⟨rz, rl'⟩ := box8z kR'
  have hxy : w.heap.size ≠ w1.heap.size := by omega
  have hwr : IntKind.i64.wrap (MX + 1) = MX + 1 := IntWalk.i64_in _ (by omega)
  have X2 := Below.step X AB
  go_wp2
  generalize (w1.alloc (.cells #[.int .i64 n] 107)) = wy at kX' kR' kY y0 x0 x1 x2 x3 x4 r0 r1 r2 r3 r4 xz xl' rz rl' X2 ⊢
  generalize hyb : w1.heap.size = yb at kY y0 hxy ⊢
  have hyR : w.heap.size + 1 ≠ yb := by omega
  clear AB kX kR X xl rl hyb t1
  refine wpS_begin 12 (S := fun w' => w'.cell? ⟨yb, 0, none⟩ = some (.int .i64 n) ∧ w'.cell? ⟨w.heap.size, 3, none⟩ = some (.int .i64 x.tr) ∧ w'.cell? ⟨w.heap.size, 0, none⟩ = some (.int .i64 x.epoch)) (tabS_of (by kernel_rfl) tabS_rowAfter) (by kernel_rfl) (⟨y0, x3, x0⟩) (fun hTb hHeld => ?_)
  refine tks 0 0 17 hTb hHeld ?_
  refine tks 1 1 18 hTb hHeld ?_
  refine tks 2 2 19 hTb hHeld ?_
  refine tks 3 3 20 hTb hHeld ?_
  refine tks 4 4 21 hTb hHeld ?_
  refine tks 5 5 22 hTb hHeld ?_
  refine tks 6 6 23 hTb hHeld ?_
  rw [HMX.out]
  refine tks 7 7 24 hTb hHeld ?_
  refine tks 8 8 25 hTb hHeld ?_
  refine cls 9 9 hTb (by decide) rfl rfl (fun K hK => ?_)
  go_simp
  refine hK.out _ _ (⟨bx1 (box_other (i := 2) (v := .bool true) kY (by omega)), (bx5 (box_set (i := 2) (v := .bool true) kX')).2.2.2.1, (bx5 (box_set (i := 2) (v := .bool true) kX')).1⟩) (fun hHeld => ?_)
  clear hK K
  obtain ⟨z2, z2l⟩ := box8z (box_set (i := 2) (v := .bool true) kX')
  obtain ⟨p0, p1, p2, p3, p4⟩ := bx5 (box_set (i := 2) (v := .bool true) kX')
  refine tks 10 10 26 hTb hHeld ?_
  refine cls 11 11 hTb (by decide) rfl rfl (fun K hK => ?_)
  go_simp
  refine hK.out _ _ (⟨bx1 (box_other (i := 4) (v := .int .i64 n) (box_other (i := 2) (v := .bool true) kY (by omega)) (by omega)), (bx5 (box_set (i := 4) (v := .int .i64 n) (box_set (i := 2) (v := .bool true) kX'))).2.2.2.1, (bx5 (box_set (i := 4) (v := .int .i64 n) (box_set (i := 2) (v := .bool true) kX'))).1⟩) (fun hHeld => ?_)
  clear hK K
  obtain ⟨z4, z4l⟩ := box8z (box_set (i := 4) (v := .int .i64 n) (box_set (i := 2) (v := .bool true) kX'))
  obtain ⟨v0, v1, v2, v3, v4⟩ := bx5 (box_set (i := 4) (v := .int .i64 n) (box_set (i := 2) (v := .bool true) kX'))
  refine wpS_next (S' := fun w' => True) 12 14 hTb (by decide) (trivial) (fun hHeld => ?_)
  refine tks 12 12 27 hTb hHeld ?_
  refine cls 13 13 hTb (by decide) rfl rfl (fun K hK => ?_)
  go_simp
  refine hK.out _ _ (trivial) (fun hHeld => ?_)
  clear hK K
  refine wpS_end hTb ?_
  have kZ : (((wy.setCell ⟨w.heap.size, 2, none⟩ (.bool true)).setCell ⟨w.heap.size, 4, none⟩ (.int .i64 n)).setCell ⟨w.heap.size, 3, none⟩ (.int .i64 (MX + 1))).drew.heap[w.heap.size]? = some (.cells #[.int .i64 x.epoch, .int .i64 x.owner, .bool true, .int .i64 (MX + 1), .int .i64 n] 70) := box_set (i := 3) (v := .int .i64 (MX + 1)) (box_set (i := 4) (v := .int .i64 n) (box_set (i := 2) (v := .bool true) kX'))
  have kRz : (((wy.setCell ⟨w.heap.size, 2, none⟩ (.bool true)).setCell ⟨w.heap.size, 4, none⟩ (.int .i64 n)).setCell ⟨w.heap.size, 3, none⟩ (.int .i64 (MX + 1))).drew.heap[w.heap.size + 1]? = some (.cells #[.int .i64 0, .int .i64 0, .bool false, .int .i64 0, .int .i64 0] 70) := box_other (i := 3) (v := .int .i64 (MX + 1)) (box_other (i := 4) (v := .int .i64 n) (box_other (i := 2) (v := .bool true) kR' (by omega)) (by omega)) (by omega)
  have Xz : Below w.heap.size w (((wy.setCell ⟨w.heap.size, 2, none⟩ (.bool true)).setCell ⟨w.heap.size, 4, none⟩ (.int .i64 n)).setCell ⟨w.heap.size, 3, none⟩ (.int .i64 (MX + 1))).drew := (((X2.setCell (p := ⟨w.heap.size, 2, none⟩) (by simp) (.bool true)).setCell (p := ⟨w.heap.size, 4, none⟩) (by simp) (.int .i64 n)).setCell (p := ⟨w.heap.size, 3, none⟩) (by simp) (.int .i64 (MX + 1))).drew
  generalize (((wy.setCell ⟨w.heap.size, 2, none⟩ (.bool true)).setCell ⟨w.heap.size, 4, none⟩ (.int .i64 n)).setCell ⟨w.heap.size, 3, none⟩ (.int .i64 (MX + 1))).drew = wz at kZ kRz Xz ⊢
  clear kX' kR' kY y0 x0 x1 x2 x3 x4 r0 r1 r2 r3 r4 xz rz X2 z2 z2l p0 p1 p2 p3 p4 z4 z4l v0 v1 v2 v3 v4 hHeld hTb xl' rl'
  obtain ⟨x0, x1, x2, x3, x4⟩ := bx5 kZ
  obtain ⟨r0, r1, r2, r3, r4⟩ := bx5 kRz
  obtain ⟨xz, xl⟩ := box8z kZ
  obtain ⟨rz, rl⟩ := box8z kRz
  go_wp2
  refine bodyPost_ret (v := .agg #[.int .i64 x.epoch, .int .i64 x.owner, .bool true, .int .i64 (MX + 1), .int .i64 n]) (by simp [results, Tryz.results44, go_sem, r0, r1, r2, r3, r4]) rfl ⟨rfl, ?_⟩
  repeat refine Below.setCell ?_ (by simp <;> omega) _
  exact Xz

end Go.Proofs.YtdokgpdfdenoaaaGreat
