/- The proof's texts, part 12. -/
import Derived.Test.YtkdejfcdmjkndaaPart5
import Derived.Test.YtkdejfcdmjkndaaPart6
import Derived.Test.YtkdejfcdmjkndaaPart7
import Derived.Test.YtkdejfcdmjkndaaPart8
import Derived.Test.YtkdejfcdmjkndaaPart9
import Derived.Test.YtkdejfcdmjkndaaPart10
import Derived.Test.YtkdejfcdmjkndaaPart11
import Derived.Test.YtkdejfcdmjkndaaPart1
import Derived.Laws.BytesArg
import Derived.Test.YtkdejfcdmjkndaaPart4
import Derived.Test.YtkdejfcdmjkndaaPart2
import Derived.Deep.RegionHeld3
import Derived.Deep.QuietTactic
import Derived.BigQuiet
import Derived.Test.YtkdejfcdmjkndaaPart3
import Derived.Shelf.Abstract
import Derived.Lib.BytesEntry
import Derived.Lib.Bytealg

/- What l3boxOk of package spec does of every box. -/
namespace Go.Proofs.Ytkdejfcdmjkndaa
open Go.RowKit
set_option maxRecDepth 100000

theorem l3boxOk_in (v : Value) (x : BoxD) (mv : Int) (w : World) (hv : BoxV w v x) (hX1 : nameB x.name = true) (q0 : 1 ≤ x.valid) (q1 : x.valid ≤ mv) (q2 : 1 ≤ x.next) (q3 : x.next ≤ 1000000) (q4 : 0 ≤ x.seq) (q5 : x.seq ≤ 1000000) (q6 : (x.mails.length : Int) ≤ 12) (q7 : (x.gones.length : Int) ≤ 40) (q8 : 0 ≤ x.lost) (q9 : x.lost ≤ x.seq) :
    Calls Try.prog 30 #[v, .int .i64 mv] w fun e w' => e = .returned (.bool (boxB x mv)) ∧ Below w.heap.size w w' := by
  cases h : (List.range x.mails.length).all (mailAt x) with
  | true =>
    have hA : ∀ j, j < x.mails.length → mailAt x j = true := fun j hj => List.all_eq_true.1 h j (List.mem_range.2 hj)
    cases hg : (List.range x.gones.length).all (goneAt x) with
    | true => exact l3boxOk_inH v x mv w hv hX1 q0 q1 q2 q3 q4 q5 q6 q7 q8 q9 hA (fun j hj => List.all_eq_true.1 hg j (List.mem_range.2 hj))
    | false =>
      obtain ⟨kb, _, h1, h2⟩ := first_bad hg
      cases he : earlyB x kb with
      | true =>
        have hr := clsB_range x kb
        have h5 := early_cls he
        rcases (show clsB x kb = 1 ∨ clsB x kb = 2 ∨ clsB x kb = 3 ∨ 4 ≤ clsB x kb by omega) with h | h | h | h
        · exact l3boxOk_inJc v x mv w hv hX1 q0 q1 q2 q3 q4 q5 q6 q7 q8 q9 hA hg (fun k h3 h4 => by rw [only_bad h1 h2 h3 h4]; omega)
        · exact l3boxOk_inJd v x mv w hv hX1 q0 q1 q2 q3 q4 q5 q6 q7 q8 q9 hA hg (fun k h3 h4 => by rw [only_bad h1 h2 h3 h4]; omega)
        · exact l3boxOk_inJe v x mv w hv hX1 q0 q1 q2 q3 q4 q5 q6 q7 q8 q9 hA hg (fun k h3 h4 => by rw [only_bad h1 h2 h3 h4]; omega)
        · exact l3boxOk_inJb v x mv w hv hX1 q0 q1 q2 q3 q4 q5 q6 q7 q8 q9 hA hg (fun k h3 h4 => by rw [only_bad h1 h2 h3 h4]; omega)
      | false => exact l3boxOk_inI v x mv w hv hX1 q0 q1 q2 q3 q4 q5 q6 q7 q8 q9 hA hg (fun k h3 h4 => by rw [only_bad h1 h2 h3 h4]; exact he)
  | false => exact l3boxOk_inM v x mv w hv hX1 q0 q1 q2 q3 q4 q5 q6 q7 q8 q9 h

theorem boxB_no {x : BoxD} {mv : Int} (h : ¬ (1 ≤ x.valid ∧ x.valid ≤ mv ∧ 1 ≤ x.next ∧ x.next ≤ 1000000 ∧ 0 ≤ x.seq ∧ x.seq ≤ 1000000 ∧ (x.mails.length : Int) ≤ 12 ∧ (x.gones.length : Int) ≤ 40 ∧ 0 ≤ x.lost ∧ x.lost ≤ x.seq)) : boxB x mv = false := by
  rw [Bool.eq_false_iff]
  intro e
  simp only [boxB, mailsB, gonesB, inB, Bool.and_eq_true, decide_eq_true_eq] at e
  obtain ⟨-, ⟨e1, e2⟩, ⟨e3, e4⟩, ⟨e5, e6⟩, ⟨e7, e8⟩, ⟨e9, -⟩, e10, -⟩ := e
  exact h ⟨e1, e2, e3, e4, e5, e6, by omega, by omega, e7, e8⟩

set_option maxRecDepth 100000 in
set_option maxHeartbeats 8000000 in
theorem l3boxOk_any (v : Value) (x : BoxD) (mv : Int) (w : World) (hv : BoxV w v x) :
    Calls Try.prog 30 #[v, .int .i64 mv] w fun e w' => e = .returned (.bool (boxB x mv)) ∧ Below w.heap.size w w' := by
  cases hX : nameB x.name with
  | true =>
    by_cases hC : 1 ≤ x.valid ∧ x.valid ≤ mv ∧ 1 ≤ x.next ∧ x.next ≤ 1000000 ∧ 0 ≤ x.seq ∧ x.seq ≤ 1000000 ∧ (x.mails.length : Int) ≤ 12 ∧ (x.gones.length : Int) ≤ 40 ∧ 0 ≤ x.lost ∧ x.lost ≤ x.seq
    · obtain ⟨q0, q1, q2, q3, q4, q5, q6, q7, q8, q9⟩ := hC
      exact l3boxOk_in v x mv w hv hX q0 q1 q2 q3 q4 q5 q6 q7 q8 q9
    · obtain ⟨u0, u1, u2, rfl, g0, g1, g2, -⟩ := hv
      have HX : Hid (∀ o, Below w.heap.size w (w.alloc o)) := fun o => (Below.refl _ _).alloc (Nat.le_refl _) o
      have hn : ∀ o, Calls Try.prog 27 #[u0] (w.alloc o) fun e w' => e = .returned (.bool true) ∧ w' = w.alloc o := fun o => by
        have h := l3name_any _ x.name _ (g0.below (HX.out o))
        rwa [hX] at h
      obtain ⟨a0, n0, c0, rfl⟩ := g0.form3
      obtain ⟨a1, c1, rfl, m0, m1⟩ := g1.form
      obtain ⟨a2, c2, rfl, m2, m3⟩ := g2.form
      clear g0 g1 g2 hX
      have HC : Hid (¬ (1 ≤ x.valid ∧ x.valid ≤ mv ∧ 1 ≤ x.next ∧ x.next ≤ 1000000 ∧ 0 ≤ x.seq ∧ x.seq ≤ 1000000 ∧ (x.mails.length : Int) ≤ 12 ∧ (x.gones.length : Int) ≤ 40 ∧ 0 ≤ x.lost ∧ x.lost ≤ x.seq)) := hC
      clear hC
      go_enter Try.func30, Try.ntmps30
      go_wp2_with fail
      refine (hn _).mono ?_
      rintro e w' ⟨rfl, rfl⟩
      clear hn
      go_wp2
      all_goals first
        | (go_ret; exact ⟨ret_b (boxB_no HC.out), HX.out _⟩)
        | exact (HC.out ⟨by omega, by omega, by omega, by omega, by omega, by omega, by omega, by omega, by omega, by omega⟩).elim
  | false =>
    have HZ : Hid (boxB x mv = false) := by simp [Hid, boxB, hX]
    obtain ⟨u0, u1, u2, rfl, g0, g1, g2, -⟩ := hv
    have HX : Hid (∀ o, Below w.heap.size w (w.alloc o)) := fun o => (Below.refl _ _).alloc (Nat.le_refl _) o
    have hn : ∀ o, Calls Try.prog 27 #[u0] (w.alloc o) fun e w' => e = .returned (.bool false) ∧ w' = w.alloc o := fun o => by
      have h := l3name_any _ x.name _ (g0.below (HX.out o))
      rwa [hX] at h
    obtain ⟨a0, n0, c0, rfl⟩ := g0.form3
    obtain ⟨a1, c1, rfl, m0, m1⟩ := g1.form
    obtain ⟨a2, c2, rfl, m2, m3⟩ := g2.form
    clear g0 g1 g2 hX
    go_enter Try.func30, Try.ntmps30
    go_wp2_with fail
    refine (hn _).mono ?_
    rintro e w' ⟨rfl, rfl⟩
    clear hn
    go_wp2
    go_ret
    exact ⟨ret_b HZ.out, HX.out _⟩

end Go.Proofs.Ytkdejfcdmjkndaa

/- The bytes of a slice as a string. -/
namespace Go.Proofs.Ytkdejfcdmjkndaa
open Go.RowKit

theorem underlyingStr : Try.prog.underlying 9 = some .string := by kernel_rfl

/-- The bytes of a slice as a string. -/
theorem run_convert_bs {w : World} {v : Value} {l : List Int} (h : Bs w v l) : (convert 22 9 v).run Try.prog w = .ok (.string (strOfNums l)) w := by
  obtain ⟨ho, a, cap, rfl, h1, h2, h3, h4⟩ := h
  cases a with
  | none =>
    have hc := h3 rfl
    have : l = [] := List.eq_nil_of_length_eq_zero (by omega)
    subst this
    exact run_convert_bytes_nil w 22 5 Try.underlying22 Try.underlying5 _ _ 9 underlyingStr
  | some x =>
    by_cases h0 : l = []
    · subst h0
      rw [run_convert_bytes_string w 22 9 5 _ _ _ Try.underlying22 Try.underlying5 underlyingStr]
      exact run_bytesToString w x 0 cap [] (by simp [loadCells, loadCellsFrom])
    · obtain ⟨b, off, hx, _, hc⟩ := h4 (List.length_pos_iff.2 h0)
      cases hx
      exact run_convert_bytes_arg w 22 5 Try.underlying22 Try.underlying5 b off l.length cap l rfl hc 9 underlyingStr

end Go.Proofs.Ytkdejfcdmjkndaa

/- What AccountOk of package spec do. -/
namespace Go.Proofs.Ytkdejfcdmjkndaa
open Go.RowKit
set_option maxRecDepth 100000
set_option linter.unusedVariables false
set_option linter.unusedSimpArgs false

theorem seenNo {q n : Int} (hq : 0 ≤ q) (h : n < 1 ∨ 1000000 < n ∨ n ≤ q) : inB n (q + 1) 1000000 = false := by
  rw [Bool.eq_false_iff]
  intro e
  simp only [inB, Bool.and_eq_true, decide_eq_true_eq] at e
  omega
theorem seenYes {q n : Int} (h0 : q < n) (h1 : n ≤ 1000000) : inB n (q + 1) 1000000 = true := by
  simp only [inB, Bool.and_eq_true, decide_eq_true_eq]
  omega
theorem str_toList (l : List Int) : (strOfNums l).toList = bts l := by
  rw [ByteArray.toList_eq]
  rfl

set_option maxRecDepth 100000 in
set_option maxHeartbeats 40000000 in
theorem specAccountOk_in (v : Value) (x : AccD) (w : World) (hv : AccV w v x) (q0 : 0 ≤ x.valid) (q1 : x.valid ≤ 1000000) (q2 : (x.boxes.length : Int) ≤ 4) (q3 : (x.seen.length : Int) ≤ 60) :
    Calls Try.prog 14 #[v] w fun e w' => e = .returned (.bool (accB x)) ∧ Below w.heap.size w w' := by
  have HNB : Hid ((List.range x.boxes.length).all (boxAt x) = false → accB x = false) := fun h => by simp [accB, h]
  have HNS : Hid ((List.range x.seen.length).all (seenAt x.seen) = false → accB x = false) := fun h => by simp [accB, seenB, h]
  obtain ⟨u0, u1, rfl, g0, g1, i0⟩ := hv
  have H0 : Hid (∀ wi, Below w.heap.size w wi → BoxesV wi u0 x.boxes ∧ IntsV wi u1 x.seen) := fun wi h => ⟨g0.below keepsBox h, g1.below keepsInt h⟩
  obtain ⟨a0, c0, rfl, m0, m1⟩ := g0.form
  obtain ⟨a1, c1, rfl, m2, m3⟩ := g1.form
  clear g0 g1
  have HK : Hid ((w.alloc (.cells #[.int .i64 x.valid, .slice a0 x.boxes.length c0, .slice a1 x.seen.length c1] 36)).heap[w.heap.size]? = some (.cells #[.int .i64 x.valid, .slice a0 x.boxes.length c0, .slice a1 x.seen.length c1] 36)) := box_new w _
  have HX : Hid (Below w.heap.size w (w.alloc (.cells #[.int .i64 x.valid, .slice a0 x.boxes.length c0, .slice a1 x.seen.length c1] 36))) := (Below.refl _ _).alloc (Nat.le_refl _) _
  go_enter Try.func14, Try.ntmps14
  go_wp2
  go_loopw [3, 4] (fun i _ wr => ∃ k : Nat, k ≤ x.boxes.length ∧ i = .int .i64 k ∧ Hid (∀ j, j < k → boxAt x j = true) ∧ Hid (wr.heap[w.heap.size]? = some (.cells #[.int .i64 x.valid, .slice a0 x.boxes.length c0, .slice a1 x.seen.length c1] 36)) ∧ Hid (Below w.heap.size w wr)) (fun i _ _ => x.boxes.length - (intOf i).toNat)
  case atStart => exact ⟨0, Nat.zero_le _, rfl, (fun j hj => absurd hj (Nat.not_lt_zero _)), HK, HX⟩
  case round =>
    obtain ⟨k, hk, rfl, hA, hK, hB⟩ := hrel
    obtain ⟨e0, e1, e2⟩ := bx3 hK.out
    have hlA := lt_of_heap hK.out
    by_cases hlt : k < x.boxes.length
    · obtain ⟨m, hm⟩ : ∃ m, x.boxes[k]? = some m := ⟨x.boxes[k], List.getElem?_eq_getElem hlt⟩
      obtain ⟨b, off, cap', u0, u1, u2, hv', hlb, d0, d1, d2, d3, d4, d5, d6, hu0, hu1, hu2, j0, j1, j2, j3⟩ := BoxesV.cell (H0.out wr hB.out).1 k m hm
      simp only [Value.slice.injEq, true_and] at hv'
      obtain ⟨rfl, rfl⟩ := hv'
      obtain ⟨ua, un, uc, rfl⟩ := hu0.form3
      obtain ⟨va, vc, rfl, -⟩ := hu1.form
      obtain ⟨wa, wc, rfl, -⟩ := hu2.form
      have HBV : Hid (∀ wi, Below wr.heap.size wr wi → BoxV wi (.agg #[.slice ua un uc, .int .i64 m.valid, .int .i64 m.next, .int .i64 m.seq, .slice va m.mails.length vc, .slice wa m.gones.length wc, .int .i64 m.lost]) m) := fun wi h => ⟨_, _, _, rfl, hu0.below h, hu1.below keepsMail h, hu2.below keepsGone h, j0, j1, j2, j3⟩
      have HU0 : Hid (Bs wr (.slice ua un uc) m.name) := hu0
      clear hu0 hu1 hu2
      have HE : Hid (boxAt x k = (boxB m x.valid && (aheadB x.boxes m k && !((x.boxes.take k).any fun o => decide (o.valid = m.valid))))) := by simp [Hid, boxAt, hm]
      have HM : Hid (x.boxes[k]? = some m) := hm
      clear hm
      have HC1 := fun wi (h : BoxV wi (.agg #[.slice ua un uc, .int .i64 m.valid, .int .i64 m.next, .int .i64 m.seq, .slice va m.mails.length vc, .slice wa m.gones.length wc, .int .i64 m.lost]) m) => l3boxOk_any _ m x.valid wi h
      generalize boxB m x.valid = X1 at HE HC1
      have DR : Below wr.heap.size wr wr.drew := (Below.refl _ _).drew
      have hkL : (k : Int) < (x.boxes.length : Int) := by omega
      have HF : Hid (∀ w', Below wr.heap.size wr w' → w'.cell? ⟨w.heap.size, 0, none⟩ = some (.int .i64 x.valid) ∧ w'.cell? ⟨w.heap.size, 1, none⟩ = some (.slice (some ⟨b, off, none⟩) x.boxes.length c0) ∧ w'.cell? ⟨b, off + k * 7, none⟩ = some (.slice ua un uc) ∧ w'.cell? ⟨b, off + k * 7 + 1, none⟩ = some (.int .i64 m.valid) ∧ w'.cell? ⟨b, off + k * 7 + 2, none⟩ = some (.int .i64 m.next) ∧ w'.cell? ⟨b, off + k * 7 + 3, none⟩ = some (.int .i64 m.seq) ∧ w'.cell? ⟨b, off + k * 7 + 4, none⟩ = some (.slice va m.mails.length vc) ∧ w'.cell? ⟨b, off + k * 7 + 5, none⟩ = some (.slice wa m.gones.length wc) ∧ w'.cell? ⟨b, off + k * 7 + 6, none⟩ = some (.int .i64 m.lost)) := by
        intro w' h
        obtain ⟨s0, s1, s2⟩ := bx3 (box_below h hK.out)
        exact ⟨s0, s1, (h.cell (p := ⟨b, _, none⟩) hlb).trans d0, (h.cell (p := ⟨b, _, none⟩) hlb).trans d1, (h.cell (p := ⟨b, _, none⟩) hlb).trans d2, (h.cell (p := ⟨b, _, none⟩) hlb).trans d3, (h.cell (p := ⟨b, _, none⟩) hlb).trans d4, (h.cell (p := ⟨b, _, none⟩) hlb).trans d5, (h.cell (p := ⟨b, _, none⟩) hlb).trans d6⟩
      cases X1 with
      | false =>
        go_wp2
        refine wp_region_held_drew (S := fun w' => w'.cell? ⟨w.heap.size, 0, none⟩ = some (.int .i64 x.valid) ∧ w'.cell? ⟨w.heap.size, 1, none⟩ = some (.slice (some ⟨b, off, none⟩) x.boxes.length c0) ∧ w'.cell? ⟨b, off + k * 7, none⟩ = some (.slice ua un uc) ∧ w'.cell? ⟨b, off + k * 7 + 1, none⟩ = some (.int .i64 m.valid) ∧ w'.cell? ⟨b, off + k * 7 + 2, none⟩ = some (.int .i64 m.next) ∧ w'.cell? ⟨b, off + k * 7 + 3, none⟩ = some (.int .i64 m.seq) ∧ w'.cell? ⟨b, off + k * 7 + 4, none⟩ = some (.slice va m.mails.length vc) ∧ w'.cell? ⟨b, off + k * 7 + 5, none⟩ = some (.slice wa m.gones.length wc) ∧ w'.cell? ⟨b, off + k * 7 + 6, none⟩ = some (.int .i64 m.lost)) (by kernel_rfl) (HF.out _ DR) (fun hHeld => (show wpAnyH _ _ _ _ _ 31 #[false, false, false, false, false, false, false, false, false, false, false, false, false, false, false, false, false, false, false, false, false, false, false, false, false, false, false, false, false, false, false] _ _ from ?_))
        refine tk 0 33 ?v1 ?h1 hHeld ?_; case h1 => (intro w s; (try dsimp only at s); go_simp <;> with_reducible rfl)
        conv => arg 8; simp only [Act.put, sA, s0, sS]
        refine tk 1 34 ?v2 ?h2 hHeld ?_; case h2 => (intro w s; (try dsimp only at s); go_simp <;> with_reducible rfl)
        conv => arg 8; simp only [Act.put, sA, s0, sS]
        refine tk 2 35 ?v3 ?h3 hHeld ?_; case h3 => (intro w s; (try dsimp only at s); go_simp <;> with_reducible rfl)
        conv => arg 8; simp only [Act.put, sA, s0, sS]
        refine tk 3 36 ?v4 ?h4 hHeld ?_; case h4 => (intro w s; (try dsimp only at s); go_simp <;> with_reducible rfl)
        conv => arg 8; simp only [Act.put, sA, s0, sS]
        refine tk 4 37 ?v5 ?h5 hHeld ?_; case h5 => (intro w s; (try dsimp only at s); go_simp <;> with_reducible rfl)
        conv => arg 8; simp only [Act.put, sA, s0, sS]
        refine tk 5 38 ?v6 ?h6 hHeld ?_; case h6 => (intro w s; (try dsimp only at s); go_simp <;> with_reducible rfl)
        conv => arg 8; simp only [Act.put, sA, s0, sS]
        refine tk 6 39 ?v7 ?h7 hHeld ?_; case h7 => (intro w s; (try dsimp only at s); go_simp <;> with_reducible rfl)
        conv => arg 8; simp only [Act.put, sA, s0, sS]
        refine wpAnyH_ready (rs := [7]) (by kernel_rfl) (by simp) ?_
        refine AllReadyH.cons rfl (fun K hK => ?_) AllReadyH.nil
        go_simp
        refine (HC1 _ (HBV.out _ DR)).mono ?_
        rintro e w1 ⟨rfl, B⟩
        refine hK.out _ _ (HF.out _ (Below.step DR B)) (fun hHeld => ?_)
        clear hK K
        refine tk 8 41 ?v9 ?h9 hHeld ?_; case h9 => (intro w s; (try dsimp only at s); go_simp <;> with_reducible rfl)
        conv => arg 8; simp only [Act.put, sA, s0, sS]
        refine tk 9 42 ?v10 ?h10 hHeld ?_; case h10 => (intro w s; (try dsimp only at s); go_simp <;> with_reducible rfl)
        conv => arg 8; simp only [Act.put, sA, s0, sS]
        refine wpAnyH_skips (by kernel_rfl) (fun _ _ _ _ _ h => h) hHeld [10, 11, 12, 13, 14, 15, 16, 17, 18, 19, 20, 21, 22, 23, 24, 25, 26, 27, 28, 29] [43, 44, 45, 46, 47, 48, 49, 50, 51, 52, 53, 54, 55, 56, 57, 58, 59, 60, 61, 62] _ _ _ (by kernel_rfl) ?_
        simp only [List.foldl_cons, List.foldl_nil, Act.put, sA, s0, sS]
        refine tk 30 63 ?v12 ?h12 hHeld ?_; case h12 => (intro w s; (try dsimp only at s); go_simp <;> with_reducible rfl)
        conv => arg 8; simp only [Act.put, sA, s0, sS]
        refine wpAnyH_done (by kernel_rfl) ?_ _
        clear HC1 HF HBV
        repeat clear hHeld
        go_wp2
        go_ret
        exact ⟨ret_b (HNB.out (rangeAll_no k hlt (HE.out.trans rfl))), Below.step (Below.step hB.out DR) B⟩
      | true =>
        by_cases hkz : (0 : Int) < (k : Int)
        · obtain ⟨j, hj⟩ : ∃ j, k = j + 1 := ⟨k - 1, by omega⟩
          have hjk : (j : Int) < (k : Int) := by omega
          have hjl : (j : Int) < (x.boxes.length : Int) := by omega
          have hj0 : (0 : Int) ≤ (j : Int) := by omega
          have hw1 : IntKind.i64.wrap ((k : Int) - 1) = (j : Int) := by rw [IntWalk.i64_in _ (by omega)]; omega
          have hkN : 0 < k := by omega
          have hd : decide (0 < k) = true := by simpa using hkN
          have HJ : Hid (k = j + 1) := hj
          clear hj
          obtain ⟨m', hm'⟩ : ∃ m', x.boxes[j]? = some m' := ⟨x.boxes[j]'(by have := HJ.out; omega), List.getElem?_eq_getElem (by have := HJ.out; omega)⟩
          obtain ⟨b2, off2, cap2, p0, p1, p2, hv2, hlb2, t0, -, -, -, -, -, -, hp0, -⟩ := BoxesV.cell (H0.out wr hB.out).1 j m' hm'
          simp only [Value.slice.injEq, true_and, Option.some.injEq, Addr.mk.injEq, and_true] at hv2
          obtain ⟨⟨rfl, rfl⟩, rfl⟩ := hv2
          obtain ⟨pa, pn, pc, rfl⟩ := hp0.form3
          have HAH : Hid (aheadB x.boxes m k = lessB m'.name m.name) := by rw [HJ.out]; simp [Hid, aheadB, nameAt, hm']
          rw [HAH.out] at HE
          have HCVS : Hid (∀ w', Below wr.heap.size wr w' → (convert 22 9 (.slice pa pn pc)).run Try.prog w' = .ok (.string (strOfNums m'.name)) w' ∧ (convert 22 9 (.slice ua un uc)).run Try.prog w' = .ok (.string (strOfNums m.name)) w') := fun w' h => ⟨run_convert_bs (hp0.below h), run_convert_bs (HU0.out.below h)⟩
          have HF2 : Hid (∀ w', Below wr.heap.size wr w' → w'.cell? ⟨w.heap.size, 0, none⟩ = some (.int .i64 x.valid) ∧ w'.cell? ⟨w.heap.size, 1, none⟩ = some (.slice (some ⟨b, off, none⟩) x.boxes.length c0) ∧ w'.cell? ⟨b, off + k * 7, none⟩ = some (.slice ua un uc) ∧ w'.cell? ⟨b, off + k * 7 + 1, none⟩ = some (.int .i64 m.valid) ∧ w'.cell? ⟨b, off + k * 7 + 2, none⟩ = some (.int .i64 m.next) ∧ w'.cell? ⟨b, off + k * 7 + 3, none⟩ = some (.int .i64 m.seq) ∧ w'.cell? ⟨b, off + k * 7 + 4, none⟩ = some (.slice va m.mails.length vc) ∧ w'.cell? ⟨b, off + k * 7 + 5, none⟩ = some (.slice wa m.gones.length wc) ∧ w'.cell? ⟨b, off + k * 7 + 6, none⟩ = some (.int .i64 m.lost) ∧ w'.cell? ⟨b, off + j * 7, none⟩ = some (.slice pa pn pc) ∧ (convert 22 9 (.slice pa pn pc)).run Try.prog w' = .ok (.string (strOfNums m'.name)) w' ∧ (convert 22 9 (.slice ua un uc)).run Try.prog w' = .ok (.string (strOfNums m.name)) w') := by
            intro w' h
            obtain ⟨s0, s1, r0, r1, r2, r3, r4, r5, r6⟩ := HF.out w' h
            exact ⟨s0, s1, r0, r1, r2, r3, r4, r5, r6, (h.cell (p := ⟨b, _, none⟩) hlb).trans t0, HCVS.out w' h⟩
          have HLB : Hid (Op.bytesLess (strOfNums m'.name).toList (strOfNums m.name).toList = lessB m'.name m.name) := by simp only [Hid, lessB, str_toList]
          clear hm' HAH hp0
          generalize hL : lessB m'.name m.name = L at HE HLB
          clear hL
          cases L with
          | false =>
            have hb := HLB.out
            clear HLB
            go_wp2
            refine wp_region_held_drew (S := fun w' => w'.cell? ⟨w.heap.size, 0, none⟩ = some (.int .i64 x.valid) ∧ w'.cell? ⟨w.heap.size, 1, none⟩ = some (.slice (some ⟨b, off, none⟩) x.boxes.length c0) ∧ w'.cell? ⟨b, off + k * 7, none⟩ = some (.slice ua un uc) ∧ w'.cell? ⟨b, off + k * 7 + 1, none⟩ = some (.int .i64 m.valid) ∧ w'.cell? ⟨b, off + k * 7 + 2, none⟩ = some (.int .i64 m.next) ∧ w'.cell? ⟨b, off + k * 7 + 3, none⟩ = some (.int .i64 m.seq) ∧ w'.cell? ⟨b, off + k * 7 + 4, none⟩ = some (.slice va m.mails.length vc) ∧ w'.cell? ⟨b, off + k * 7 + 5, none⟩ = some (.slice wa m.gones.length wc) ∧ w'.cell? ⟨b, off + k * 7 + 6, none⟩ = some (.int .i64 m.lost) ∧ w'.cell? ⟨b, off + j * 7, none⟩ = some (.slice pa pn pc) ∧ (convert 22 9 (.slice pa pn pc)).run Try.prog w' = .ok (.string (strOfNums m'.name)) w' ∧ (convert 22 9 (.slice ua un uc)).run Try.prog w' = .ok (.string (strOfNums m.name)) w') (by kernel_rfl) (HF2.out _ DR) (fun hHeld => (show wpAnyH _ _ _ _ _ 31 #[false, false, false, false, false, false, false, false, false, false, false, false, false, false, false, false, false, false, false, false, false, false, false, false, false, false, false, false, false, false, false] _ _ from ?_))
            refine tk 0 33 ?v13 ?h13 hHeld ?_; case h13 => (intro w s; (try dsimp only at s); go_simp <;> with_reducible rfl)
            conv => arg 8; simp only [Act.put, sA, s0, sS]
            refine tk 1 34 ?v14 ?h14 hHeld ?_; case h14 => (intro w s; (try dsimp only at s); go_simp <;> with_reducible rfl)
            conv => arg 8; simp only [Act.put, sA, s0, sS]
            refine tk 2 35 ?v15 ?h15 hHeld ?_; case h15 => (intro w s; (try dsimp only at s); go_simp <;> with_reducible rfl)
            conv => arg 8; simp only [Act.put, sA, s0, sS]
            refine tk 3 36 ?v16 ?h16 hHeld ?_; case h16 => (intro w s; (try dsimp only at s); go_simp <;> with_reducible rfl)
            conv => arg 8; simp only [Act.put, sA, s0, sS]
            refine tk 4 37 ?v17 ?h17 hHeld ?_; case h17 => (intro w s; (try dsimp only at s); go_simp <;> with_reducible rfl)
            conv => arg 8; simp only [Act.put, sA, s0, sS]
            refine tk 5 38 ?v18 ?h18 hHeld ?_; case h18 => (intro w s; (try dsimp only at s); go_simp <;> with_reducible rfl)
            conv => arg 8; simp only [Act.put, sA, s0, sS]
            refine tk 6 39 ?v19 ?h19 hHeld ?_; case h19 => (intro w s; (try dsimp only at s); go_simp <;> with_reducible rfl)
            conv => arg 8; simp only [Act.put, sA, s0, sS]
            refine wpAnyH_ready (rs := [7]) (by kernel_rfl) (by simp) ?_
            refine AllReadyH.cons rfl (fun K hK => ?_) AllReadyH.nil
            go_simp
            refine (HC1 _ (HBV.out _ DR)).mono ?_
            rintro e w1 ⟨rfl, B⟩
            refine hK.out _ _ (HF2.out _ (Below.step DR B)) (fun hHeld => ?_)
            clear hK K
            refine tk 8 41 ?v21 ?h21 hHeld ?_; case h21 => (intro w s; (try dsimp only at s); go_simp <;> with_reducible rfl)
            conv => arg 8; simp only [Act.put, sA, s0, sS]
            refine tk 9 42 ?v22 ?h22 hHeld ?_; case h22 => (intro w s; (try dsimp only at s); go_simp <;> with_reducible rfl)
            conv => arg 8; simp only [Act.put, sA, s0, sS]
            refine tk 10 43 ?v23 ?h23 hHeld ?_; case h23 => (intro w s; (try dsimp only at s); go_simp <;> with_reducible rfl)
            conv => arg 8; simp only [Act.put, sA, s0, sS]
            refine tk 11 44 ?v24 ?h24 hHeld ?_; case h24 => (intro w s; (try dsimp only at s); go_simp <;> with_reducible rfl)
            conv => arg 8; simp only [Act.put, sA, s0, sS]
            refine tk 12 45 ?v25 ?h25 hHeld ?_; case h25 => (intro w s; (try dsimp only at s); go_simp <;> with_reducible rfl)
            conv => arg 8; simp only [Act.put, sA, s0, sS]
            refine tk 13 46 ?v26 ?h26 hHeld ?_; case h26 => (intro w s; (try dsimp only at s); go_simp <;> with_reducible rfl)
            conv => arg 8; simp only [Act.put, sA, s0, sS]
            refine tk 14 47 ?v27 ?h27 hHeld ?_; case h27 => (intro w s; (try dsimp only at s); go_simp <;> with_reducible rfl)
            conv => arg 8; simp only [Act.put, sA, s0, sS]
            refine tk 15 48 ?v28 ?h28 hHeld ?_; case h28 => (intro w s; (try dsimp only at s); go_simp <;> with_reducible rfl)
            conv => arg 8; simp only [Act.put, sA, s0, sS]
            refine tk 16 49 ?v29 ?h29 hHeld ?_; case h29 => (intro w s; (try dsimp only at s); go_simp <;> with_reducible rfl)
            conv => arg 8; simp only [Act.put, sA, s0, sS]
            refine tk 17 50 ?v30 ?h30 hHeld ?_; case h30 => (intro w s; (try dsimp only at s); go_simp <;> with_reducible rfl)
            conv => arg 8; simp only [Act.put, sA, s0, sS]
            refine tk 18 51 ?v31 ?h31 hHeld ?_; case h31 => (intro w s; (try dsimp only at s); go_simp <;> with_reducible rfl)
            conv => arg 8; simp only [Act.put, sA, s0, sS]
            refine tk 19 52 ?v32 ?h32 hHeld ?_; case h32 => (intro w s; (try dsimp only at s); go_simp <;> with_reducible rfl)
            conv => arg 8; simp only [Act.put, sA, s0, sS]
            refine tk 20 53 ?v33 ?h33 hHeld ?_; case h33 => (intro w s; (try dsimp only at s); go_simp <;> with_reducible rfl)
            conv => arg 8; simp only [Act.put, sA, s0, sS]
            refine tk 21 54 ?v34 ?h34 hHeld ?_; case h34 => (intro w s; (try dsimp only at s); go_simp <;> with_reducible rfl)
            conv => arg 8; simp only [Act.put, sA, s0, sS]
            refine tk 22 55 ?v35 ?h35 hHeld ?_; case h35 => (intro w s; (try dsimp only at s); go_simp <;> with_reducible rfl)
            conv => arg 8; simp only [Act.put, sA, s0, sS]
            refine tk 23 56 ?v36 ?h36 hHeld ?_; case h36 => (intro w s; (try dsimp only at s); go_simp <;> with_reducible rfl)
            conv => arg 8; simp only [Act.put, sA, s0, sS]
            refine tk 24 57 ?v37 ?h37 hHeld ?_; case h37 => (intro w s; (try dsimp only at s); go_simp <;> with_reducible rfl)
            conv => arg 8; simp only [Act.put, sA, s0, sS]
            refine tk 25 58 ?v38 ?h38 hHeld ?_; case h38 => (intro w s; (try dsimp only at s); go_simp <;> with_reducible rfl)
            conv => arg 8; simp only [Act.put, sA, s0, sS]
            refine tk 26 59 ?v39 ?h39 hHeld ?_; case h39 => (intro w s; (try dsimp only at s); go_simp <;> with_reducible rfl)
            conv => arg 8; simp only [Act.put, sA, s0, sS]
            refine tk 27 60 ?v40 ?h40 hHeld ?_; case h40 => (intro w s; (try dsimp only at s); go_simp <;> with_reducible rfl)
            conv => arg 8; simp only [Act.put, sA, s0, sS]
            refine tk 28 61 ?v41 ?h41 hHeld ?_; case h41 => (intro w s; (try dsimp only at s); go_simp <;> with_reducible rfl)
            conv => arg 8; simp only [Act.put, sA, s0, sS]
            refine tk 29 62 ?v42 ?h42 hHeld ?_; case h42 => (intro w s; (try dsimp only at s); go_simp <;> with_reducible rfl)
            conv => arg 8; simp only [Act.put, sA, s0, sS]
            refine tk 30 63 ?v43 ?h43 hHeld ?_; case h43 => (intro w s; (try dsimp only at s); go_simp <;> with_reducible rfl)
            conv => arg 8; simp only [Act.put, sA, s0, sS]
            refine wpAnyH_done (by kernel_rfl) ?_ _
            clear HC1 HF HF2 HCVS HBV
            repeat clear hHeld
            go_wp2
            go_ret
            exact ⟨ret_b (HNB.out (rangeAll_no k hlt (HE.out.trans rfl))), Below.step (Below.step hB.out DR) B⟩
          | true =>
            have hb := HLB.out
            clear HLB
            go_wp2
            refine wp_region_held_drew (S := fun w' => w'.cell? ⟨w.heap.size, 0, none⟩ = some (.int .i64 x.valid) ∧ w'.cell? ⟨w.heap.size, 1, none⟩ = some (.slice (some ⟨b, off, none⟩) x.boxes.length c0) ∧ w'.cell? ⟨b, off + k * 7, none⟩ = some (.slice ua un uc) ∧ w'.cell? ⟨b, off + k * 7 + 1, none⟩ = some (.int .i64 m.valid) ∧ w'.cell? ⟨b, off + k * 7 + 2, none⟩ = some (.int .i64 m.next) ∧ w'.cell? ⟨b, off + k * 7 + 3, none⟩ = some (.int .i64 m.seq) ∧ w'.cell? ⟨b, off + k * 7 + 4, none⟩ = some (.slice va m.mails.length vc) ∧ w'.cell? ⟨b, off + k * 7 + 5, none⟩ = some (.slice wa m.gones.length wc) ∧ w'.cell? ⟨b, off + k * 7 + 6, none⟩ = some (.int .i64 m.lost) ∧ w'.cell? ⟨b, off + j * 7, none⟩ = some (.slice pa pn pc) ∧ (convert 22 9 (.slice pa pn pc)).run Try.prog w' = .ok (.string (strOfNums m'.name)) w' ∧ (convert 22 9 (.slice ua un uc)).run Try.prog w' = .ok (.string (strOfNums m.name)) w') (by kernel_rfl) (HF2.out _ DR) (fun hHeld => (show wpAnyH _ _ _ _ _ 31 #[false, false, false, false, false, false, false, false, false, false, false, false, false, false, false, false, false, false, false, false, false, false, false, false, false, false, false, false, false, false, false] _ _ from ?_))
            refine tk 0 33 ?v44 ?h44 hHeld ?_; case h44 => (intro w s; (try dsimp only at s); go_simp <;> with_reducible rfl)
            conv => arg 8; simp only [Act.put, sA, s0, sS]
            refine tk 1 34 ?v45 ?h45 hHeld ?_; case h45 => (intro w s; (try dsimp only at s); go_simp <;> with_reducible rfl)
            conv => arg 8; simp only [Act.put, sA, s0, sS]
            refine tk 2 35 ?v46 ?h46 hHeld ?_; case h46 => (intro w s; (try dsimp only at s); go_simp <;> with_reducible rfl)
            conv => arg 8; simp only [Act.put, sA, s0, sS]
            refine tk 3 36 ?v47 ?h47 hHeld ?_; case h47 => (intro w s; (try dsimp only at s); go_simp <;> with_reducible rfl)
            conv => arg 8; simp only [Act.put, sA, s0, sS]
            refine tk 4 37 ?v48 ?h48 hHeld ?_; case h48 => (intro w s; (try dsimp only at s); go_simp <;> with_reducible rfl)
            conv => arg 8; simp only [Act.put, sA, s0, sS]
            refine tk 5 38 ?v49 ?h49 hHeld ?_; case h49 => (intro w s; (try dsimp only at s); go_simp <;> with_reducible rfl)
            conv => arg 8; simp only [Act.put, sA, s0, sS]
            refine tk 6 39 ?v50 ?h50 hHeld ?_; case h50 => (intro w s; (try dsimp only at s); go_simp <;> with_reducible rfl)
            conv => arg 8; simp only [Act.put, sA, s0, sS]
            refine wpAnyH_ready (rs := [7]) (by kernel_rfl) (by simp) ?_
            refine AllReadyH.cons rfl (fun K hK => ?_) AllReadyH.nil
            go_simp
            refine (HC1 _ (HBV.out _ DR)).mono ?_
            rintro e w1 ⟨rfl, B⟩
            refine hK.out _ _ (HF2.out _ (Below.step DR B)) (fun hHeld => ?_)
            clear hK K
            refine tk 8 41 ?v52 ?h52 hHeld ?_; case h52 => (intro w s; (try dsimp only at s); go_simp <;> with_reducible rfl)
            conv => arg 8; simp only [Act.put, sA, s0, sS]
            refine tk 9 42 ?v53 ?h53 hHeld ?_; case h53 => (intro w s; (try dsimp only at s); go_simp <;> with_reducible rfl)
            conv => arg 8; simp only [Act.put, sA, s0, sS]
            refine tk 10 43 ?v54 ?h54 hHeld ?_; case h54 => (intro w s; (try dsimp only at s); go_simp <;> with_reducible rfl)
            conv => arg 8; simp only [Act.put, sA, s0, sS]
            refine tk 11 44 ?v55 ?h55 hHeld ?_; case h55 => (intro w s; (try dsimp only at s); go_simp <;> with_reducible rfl)
            conv => arg 8; simp only [Act.put, sA, s0, sS]
            refine tk 12 45 ?v56 ?h56 hHeld ?_; case h56 => (intro w s; (try dsimp only at s); go_simp <;> with_reducible rfl)
            conv => arg 8; simp only [Act.put, sA, s0, sS]
            refine tk 13 46 ?v57 ?h57 hHeld ?_; case h57 => (intro w s; (try dsimp only at s); go_simp <;> with_reducible rfl)
            conv => arg 8; simp only [Act.put, sA, s0, sS]
            refine tk 14 47 ?v58 ?h58 hHeld ?_; case h58 => (intro w s; (try dsimp only at s); go_simp <;> with_reducible rfl)
            conv => arg 8; simp only [Act.put, sA, s0, sS]
            refine tk 15 48 ?v59 ?h59 hHeld ?_; case h59 => (intro w s; (try dsimp only at s); go_simp <;> with_reducible rfl)
            conv => arg 8; simp only [Act.put, sA, s0, sS]
            refine tk 16 49 ?v60 ?h60 hHeld ?_; case h60 => (intro w s; (try dsimp only at s); go_simp <;> with_reducible rfl)
            conv => arg 8; simp only [Act.put, sA, s0, sS]
            refine tk 17 50 ?v61 ?h61 hHeld ?_; case h61 => (intro w s; (try dsimp only at s); go_simp <;> with_reducible rfl)
            conv => arg 8; simp only [Act.put, sA, s0, sS]
            refine tk 18 51 ?v62 ?h62 hHeld ?_; case h62 => (intro w s; (try dsimp only at s); go_simp <;> with_reducible rfl)
            conv => arg 8; simp only [Act.put, sA, s0, sS]
            refine tk 19 52 ?v63 ?h63 hHeld ?_; case h63 => (intro w s; (try dsimp only at s); go_simp <;> with_reducible rfl)
            conv => arg 8; simp only [Act.put, sA, s0, sS]
            refine tk 20 53 ?v64 ?h64 hHeld ?_; case h64 => (intro w s; (try dsimp only at s); go_simp <;> with_reducible rfl)
            conv => arg 8; simp only [Act.put, sA, s0, sS]
            refine tk 21 54 ?v65 ?h65 hHeld ?_; case h65 => (intro w s; (try dsimp only at s); go_simp <;> with_reducible rfl)
            conv => arg 8; simp only [Act.put, sA, s0, sS]
            refine tk 22 55 ?v66 ?h66 hHeld ?_; case h66 => (intro w s; (try dsimp only at s); go_simp <;> with_reducible rfl)
            conv => arg 8; simp only [Act.put, sA, s0, sS]
            refine tk 23 56 ?v67 ?h67 hHeld ?_; case h67 => (intro w s; (try dsimp only at s); go_simp <;> with_reducible rfl)
            conv => arg 8; simp only [Act.put, sA, s0, sS]
            refine tk 24 57 ?v68 ?h68 hHeld ?_; case h68 => (intro w s; (try dsimp only at s); go_simp <;> with_reducible rfl)
            conv => arg 8; simp only [Act.put, sA, s0, sS]
            refine tk 25 58 ?v69 ?h69 hHeld ?_; case h69 => (intro w s; (try dsimp only at s); go_simp <;> with_reducible rfl)
            conv => arg 8; simp only [Act.put, sA, s0, sS]
            refine tk 26 59 ?v70 ?h70 hHeld ?_; case h70 => (intro w s; (try dsimp only at s); go_simp <;> with_reducible rfl)
            conv => arg 8; simp only [Act.put, sA, s0, sS]
            refine tk 27 60 ?v71 ?h71 hHeld ?_; case h71 => (intro w s; (try dsimp only at s); go_simp <;> with_reducible rfl)
            conv => arg 8; simp only [Act.put, sA, s0, sS]
            refine tk 28 61 ?v72 ?h72 hHeld ?_; case h72 => (intro w s; (try dsimp only at s); go_simp <;> with_reducible rfl)
            conv => arg 8; simp only [Act.put, sA, s0, sS]
            refine tk 29 62 ?v73 ?h73 hHeld ?_; case h73 => (intro w s; (try dsimp only at s); go_simp <;> with_reducible rfl)
            conv => arg 8; simp only [Act.put, sA, s0, sS]
            refine tk 30 63 ?v74 ?h74 hHeld ?_; case h74 => (intro w s; (try dsimp only at s); go_simp <;> with_reducible rfl)
            conv => arg 8; simp only [Act.put, sA, s0, sS]
            refine wpAnyH_done (by kernel_rfl) ?_ _
            repeat clear hHeld
            have HB1 : Hid (Below w.heap.size w w1) := Below.step (Below.step hB.out DR) B
            have HK1 : Hid (w1.heap[w.heap.size]? = some (.cells #[.int .i64 x.valid, .slice (some ⟨b, off, none⟩) x.boxes.length c0, .slice a1 x.seen.length c1] 36)) := box_below B (box_below DR hK.out)
            have HD1 : Hid (∀ w', Below w1.heap.size w1 w' → ∀ p y, x.boxes[p]? = some y → w'.cell? ⟨b, off + p * 7 + 1, none⟩ = some (.int .i64 y.valid)) := by
              intro w' h p y hy
              obtain ⟨b3, off3, cap3, z0, z1, z2, hv3, -, -, t1, -⟩ := BoxesV.cell (H0.out w' (Below.step HB1.out h)).1 p y hy
              simp only [Value.slice.injEq, true_and, Option.some.injEq, Addr.mk.injEq, and_true] at hv3
              obtain ⟨⟨rfl, rfl⟩, rfl⟩ := hv3
              exact t1
            clear HC1 HF HBV B DR d0 d1 d2 d3 d4 d5 d6 e0 e1 e2 hK hB t0 HF2 HCVS hb
            go_wp2
            go_loopw [4] (fun i wr => ∃ q : Nat, q ≤ k ∧ i = .int .i64 q ∧ Hid (∀ p y, p < q → x.boxes[p]? = some y → y.valid ≠ m.valid) ∧ Hid (Below w1.heap.size w1 wr)) (fun i _ => k - (intOf i).toNat)
            case atStart => exact ⟨0, Nat.zero_le _, rfl, (fun p y hp => absurd hp (Nat.not_lt_zero _)), Below.refl _ _⟩
            case round =>
              rename_i wr0 _
              obtain ⟨q, hq, rfl, hV, hB2⟩ := hrel
              have hK2 := box_below hB2.out HK1.out
              obtain ⟨e0, e1, e2⟩ := bx3 hK2
              have hlA := lt_of_heap hK2
              clear hK2
              by_cases hql : q < k
              · obtain ⟨y, hy⟩ : ∃ y, x.boxes[q]? = some y := ⟨x.boxes[q]'(by omega), List.getElem?_eq_getElem (by omega)⟩
                have r0 := HD1.out _ hB2.out q y hy
                have r1 := HD1.out _ hB2.out k m HM.out
                have HY : Hid (x.boxes[q]? = some y) := hy
                clear hy
                have hqL : (q : Int) < (x.boxes.length : Int) := by omega
                have hkL : (k : Int) < (x.boxes.length : Int) := by omega
                by_cases he : y.valid = m.valid
                · have he' : (y.valid == m.valid) = true := by simpa using he
                  have HEQ : Hid (y.valid = m.valid) := he
                  clear he
                  go_wp2
                  go_quiet (fail)
                  go_wp2
                  go_ret
                  exact ⟨ret_b (HNB.out (rangeAll_no k hlt (HE.out.trans (by rw [List.any_eq_true.2 ⟨y, List.mem_of_getElem? (l := x.boxes.take k) (by rw [List.getElem?_take, if_pos hql]; exact HY.out), by simpa using HEQ.out⟩]; simp)))), below_drewN _ (Below.step HB1.out hB2.out)⟩
                · have he' : (y.valid == m.valid) = false := by simpa using he
                  have HEQ : Hid (y.valid ≠ m.valid) := he
                  clear he
                  go_wp2
                  go_quiet (fail)
                  go_wp2
                  go_roundw
                  case rel =>
                    refine ⟨q + 1, by omega, by go_num, (show Hid _ from fun p z hp hz => ?_), below_drewN _ hB2.out⟩
                    by_cases e : p = q
                    · subst e; rw [HY.out] at hz; cases hz; exact HEQ.out
                    · exact hV.out p z (by omega) hz
                  case measure => simp [intOf]; omega
              · obtain rfl : q = k := by omega
                go_wp2
                go_roundw
                case rel =>
                  refine ⟨q + 1, by omega, by go_num, (show Hid _ from fun i hi => ?_), box_below hB2.out HK1.out, Below.step HB1.out hB2.out⟩
                  by_cases e : i = q
                  · subst e
                    refine HE.out.trans ?_
                    have z : ((x.boxes.take i).any fun o => decide (o.valid = m.valid)) = false := by
                      rw [List.any_eq_false]
                      intro o ho
                      obtain ⟨p, hp, rfl⟩ := List.getElem_of_mem ho
                      have hp' : p < i := by simp at hp; omega
                      have := hV.out p (x.boxes[p]'(by omega)) hp' (List.getElem?_eq_getElem (by omega))
                      simpa using this
                    rw [z]
                    simp
                  · exact hA.out i (by omega)
                case measure => simp [intOf]; omega
        · have HAH : Hid (aheadB x.boxes m k = true) := by
            have : k = 0 := by omega
            subst this; rfl
          rw [HAH.out] at HE
          have hkN : ¬ 0 < k := by omega
          have hd : decide (0 < k) = false := by simpa using hkN
          clear HAH
          go_wp2
          refine wp_region_held_drew (S := fun w' => w'.cell? ⟨w.heap.size, 0, none⟩ = some (.int .i64 x.valid) ∧ w'.cell? ⟨w.heap.size, 1, none⟩ = some (.slice (some ⟨b, off, none⟩) x.boxes.length c0) ∧ w'.cell? ⟨b, off + k * 7, none⟩ = some (.slice ua un uc) ∧ w'.cell? ⟨b, off + k * 7 + 1, none⟩ = some (.int .i64 m.valid) ∧ w'.cell? ⟨b, off + k * 7 + 2, none⟩ = some (.int .i64 m.next) ∧ w'.cell? ⟨b, off + k * 7 + 3, none⟩ = some (.int .i64 m.seq) ∧ w'.cell? ⟨b, off + k * 7 + 4, none⟩ = some (.slice va m.mails.length vc) ∧ w'.cell? ⟨b, off + k * 7 + 5, none⟩ = some (.slice wa m.gones.length wc) ∧ w'.cell? ⟨b, off + k * 7 + 6, none⟩ = some (.int .i64 m.lost)) (by kernel_rfl) (HF.out _ DR) (fun hHeld => (show wpAnyH _ _ _ _ _ 31 #[false, false, false, false, false, false, false, false, false, false, false, false, false, false, false, false, false, false, false, false, false, false, false, false, false, false, false, false, false, false, false] _ _ from ?_))
          refine tk 0 33 ?v75 ?h75 hHeld ?_; case h75 => (intro w s; (try dsimp only at s); go_simp <;> with_reducible rfl)
          conv => arg 8; simp only [Act.put, sA, s0, sS]
          refine tk 1 34 ?v76 ?h76 hHeld ?_; case h76 => (intro w s; (try dsimp only at s); go_simp <;> with_reducible rfl)
          conv => arg 8; simp only [Act.put, sA, s0, sS]
          refine tk 2 35 ?v77 ?h77 hHeld ?_; case h77 => (intro w s; (try dsimp only at s); go_simp <;> with_reducible rfl)
          conv => arg 8; simp only [Act.put, sA, s0, sS]
          refine tk 3 36 ?v78 ?h78 hHeld ?_; case h78 => (intro w s; (try dsimp only at s); go_simp <;> with_reducible rfl)
          conv => arg 8; simp only [Act.put, sA, s0, sS]
          refine tk 4 37 ?v79 ?h79 hHeld ?_; case h79 => (intro w s; (try dsimp only at s); go_simp <;> with_reducible rfl)
          conv => arg 8; simp only [Act.put, sA, s0, sS]
          refine tk 5 38 ?v80 ?h80 hHeld ?_; case h80 => (intro w s; (try dsimp only at s); go_simp <;> with_reducible rfl)
          conv => arg 8; simp only [Act.put, sA, s0, sS]
          refine tk 6 39 ?v81 ?h81 hHeld ?_; case h81 => (intro w s; (try dsimp only at s); go_simp <;> with_reducible rfl)
          conv => arg 8; simp only [Act.put, sA, s0, sS]
          refine wpAnyH_ready (rs := [7]) (by kernel_rfl) (by simp) ?_
          refine AllReadyH.cons rfl (fun K hK => ?_) AllReadyH.nil
          go_simp
          refine (HC1 _ (HBV.out _ DR)).mono ?_
          rintro e w1 ⟨rfl, B⟩
          refine hK.out _ _ (HF.out _ (Below.step DR B)) (fun hHeld => ?_)
          clear hK K
          refine tk 8 41 ?v83 ?h83 hHeld ?_; case h83 => (intro w s; (try dsimp only at s); go_simp <;> with_reducible rfl)
          conv => arg 8; simp only [Act.put, sA, s0, sS]
          refine tk 9 42 ?v84 ?h84 hHeld ?_; case h84 => (intro w s; (try dsimp only at s); go_simp <;> with_reducible rfl)
          conv => arg 8; simp only [Act.put, sA, s0, sS]
          refine tk 10 43 ?v85 ?h85 hHeld ?_; case h85 => (intro w s; (try dsimp only at s); go_simp <;> with_reducible rfl)
          conv => arg 8; simp only [Act.put, sA, s0, sS]
          refine tk 11 44 ?v86 ?h86 hHeld ?_; case h86 => (intro w s; (try dsimp only at s); go_simp <;> with_reducible rfl)
          conv => arg 8; simp only [Act.put, sA, s0, sS]
          refine tk 12 45 ?v87 ?h87 hHeld ?_; case h87 => (intro w s; (try dsimp only at s); go_simp <;> with_reducible rfl)
          conv => arg 8; simp only [Act.put, sA, s0, sS]
          refine wpAnyH_skips (by kernel_rfl) (fun _ _ _ _ _ h => h) hHeld [13, 14, 15, 16, 17, 18, 19, 20, 21, 22, 23, 24, 25, 26, 27, 28] [46, 47, 48, 49, 50, 51, 52, 53, 54, 55, 56, 57, 58, 59, 60, 61] _ _ _ (by kernel_rfl) ?_
          simp only [List.foldl_cons, List.foldl_nil, Act.put, sA, s0, sS]
          refine tk 29 62 ?v89 ?h89 hHeld ?_; case h89 => (intro w s; (try dsimp only at s); go_simp <;> with_reducible rfl)
          conv => arg 8; simp only [Act.put, sA, s0, sS]
          refine tk 30 63 ?v90 ?h90 hHeld ?_; case h90 => (intro w s; (try dsimp only at s); go_simp <;> with_reducible rfl)
          conv => arg 8; simp only [Act.put, sA, s0, sS]
          refine wpAnyH_done (by kernel_rfl) ?_ _
          repeat clear hHeld
          have HB1 : Hid (Below w.heap.size w w1) := Below.step (Below.step hB.out DR) B
          have HK1 : Hid (w1.heap[w.heap.size]? = some (.cells #[.int .i64 x.valid, .slice (some ⟨b, off, none⟩) x.boxes.length c0, .slice a1 x.seen.length c1] 36)) := box_below B (box_below DR hK.out)
          have HD1 : Hid (∀ w', Below w1.heap.size w1 w' → ∀ p y, x.boxes[p]? = some y → w'.cell? ⟨b, off + p * 7 + 1, none⟩ = some (.int .i64 y.valid)) := by
            intro w' h p y hy
            obtain ⟨b3, off3, cap3, z0, z1, z2, hv3, -, -, t1, -⟩ := BoxesV.cell (H0.out w' (Below.step HB1.out h)).1 p y hy
            simp only [Value.slice.injEq, true_and, Option.some.injEq, Addr.mk.injEq, and_true] at hv3
            obtain ⟨⟨rfl, rfl⟩, rfl⟩ := hv3
            exact t1
          clear HC1 HF HBV B DR d0 d1 d2 d3 d4 d5 d6 e0 e1 e2 hK hB
          go_wp2
          go_loopw [4] (fun i wr => ∃ q : Nat, q ≤ k ∧ i = .int .i64 q ∧ Hid (∀ p y, p < q → x.boxes[p]? = some y → y.valid ≠ m.valid) ∧ Hid (Below w1.heap.size w1 wr)) (fun i _ => k - (intOf i).toNat)
          case atStart => exact ⟨0, Nat.zero_le _, rfl, (fun p y hp => absurd hp (Nat.not_lt_zero _)), Below.refl _ _⟩
          case round =>
            rename_i wr0 _
            obtain ⟨q, hq, rfl, hV, hB2⟩ := hrel
            have hK2 := box_below hB2.out HK1.out
            obtain ⟨e0, e1, e2⟩ := bx3 hK2
            have hlA := lt_of_heap hK2
            clear hK2
            by_cases hql : q < k
            · obtain ⟨y, hy⟩ : ∃ y, x.boxes[q]? = some y := ⟨x.boxes[q]'(by omega), List.getElem?_eq_getElem (by omega)⟩
              have r0 := HD1.out _ hB2.out q y hy
              have r1 := HD1.out _ hB2.out k m HM.out
              have HY : Hid (x.boxes[q]? = some y) := hy
              clear hy
              have hqL : (q : Int) < (x.boxes.length : Int) := by omega
              have hkL : (k : Int) < (x.boxes.length : Int) := by omega
              by_cases he : y.valid = m.valid
              · have he' : (y.valid == m.valid) = true := by simpa using he
                have HEQ : Hid (y.valid = m.valid) := he
                clear he
                go_wp2
                go_quiet (fail)
                go_wp2
                go_ret
                exact ⟨ret_b (HNB.out (rangeAll_no k hlt (HE.out.trans (by rw [List.any_eq_true.2 ⟨y, List.mem_of_getElem? (l := x.boxes.take k) (by rw [List.getElem?_take, if_pos hql]; exact HY.out), by simpa using HEQ.out⟩]; simp)))), below_drewN _ (Below.step HB1.out hB2.out)⟩
              · have he' : (y.valid == m.valid) = false := by simpa using he
                have HEQ : Hid (y.valid ≠ m.valid) := he
                clear he
                go_wp2
                go_quiet (fail)
                go_wp2
                go_roundw
                case rel =>
                  refine ⟨q + 1, by omega, by go_num, (show Hid _ from fun p z hp hz => ?_), below_drewN _ hB2.out⟩
                  by_cases e : p = q
                  · subst e; rw [HY.out] at hz; cases hz; exact HEQ.out
                  · exact hV.out p z (by omega) hz
                case measure => simp [intOf]; omega
            · obtain rfl : q = k := by omega
              go_wp2
              go_roundw
              case rel =>
                refine ⟨q + 1, by omega, by go_num, (show Hid _ from fun i hi => ?_), box_below hB2.out HK1.out, Below.step HB1.out hB2.out⟩
                by_cases e : i = q
                · subst e
                  refine HE.out.trans ?_
                  have z : ((x.boxes.take i).any fun o => decide (o.valid = m.valid)) = false := by
                    rw [List.any_eq_false]
                    intro o ho
                    obtain ⟨p, hp, rfl⟩ := List.getElem_of_mem ho
                    have hp' : p < i := by simp at hp; omega
                    have := hV.out p (x.boxes[p]'(by omega)) hp' (List.getElem?_eq_getElem (by omega))
                    simpa using this
                  rw [z]
                  simp
                · exact hA.out i (by omega)
              case measure => simp [intOf]; omega
    · obtain rfl : k = x.boxes.length := by omega
      have HBA : Hid (∀ j, j < x.boxes.length → boxAt x j = true) := hA.out
      clear hlt hA
      go_wp2
      clear e0 e1 e2
      go_loopw [5] (fun i wr => ∃ k : Nat, k ≤ x.seen.length ∧ i = .int .i64 k ∧ Hid (∀ j, j < k → seenAt x.seen j = true) ∧ Hid (wr.heap[w.heap.size]? = some (.cells #[.int .i64 x.valid, .slice a0 x.boxes.length c0, .slice a1 x.seen.length c1] 36)) ∧ Hid (Below w.heap.size w wr)) (fun i _ => x.seen.length - (intOf i).toNat)
      case atStart => exact ⟨0, Nat.zero_le _, rfl, (fun j hj => absurd hj (Nat.not_lt_zero _)), hK, hB⟩
      case round =>
        clear hK hB
        obtain ⟨k, hk, rfl, hA, hK, hB⟩ := hrel
        obtain ⟨e0, e1, e2⟩ := bx3 hK.out
        have hlA := lt_of_heap hK.out
        by_cases hlt : k < x.seen.length
        · obtain ⟨n, hn⟩ : ∃ n, x.seen[k]? = some n := ⟨x.seen[k], List.getElem?_eq_getElem hlt⟩
          obtain ⟨b, off, cap', hv', hlb, d0, i0⟩ := IntsV.cell (H0.out wr hB.out).2 k n hn
          simp only [Value.slice.injEq, true_and] at hv'
          obtain ⟨rfl, rfl⟩ := hv'
          have hp := prevI_ok hk hA.out
          have HE : Hid (seenAt x.seen k = inB n (prevI x.seen k + 1) 1000000) := by show seenAt x.seen k = _; unfold seenAt; rw [show x.seen.getD k 0 = n by simp [List.getD, hn]]
          generalize hQ : prevI x.seen k = q at hp HE
          have HQ : Hid (prevI x.seen k = q) := hQ
          clear hQ hn
          have hkL : (k : Int) < (x.seen.length : Int) := by omega
          by_cases h1 : n < 1
          · have e105 : decide (n < 1) = true := decide_eq_true h1
            go_wp2
            go_quiet (fail)
            go_wp2
            go_ret
            exact ⟨ret_b (HNS.out (rangeAll_no k hlt (HE.out.trans (seenNo hp.1 (.inl h1))))), below_drewN _ hB.out⟩
          have e105 : decide (n < 1) = false := decide_eq_false h1
          by_cases h2 : 1000000 < n
          · have e106 : decide (1000000 < n) = true := decide_eq_true h2
            go_wp2
            go_quiet (fail)
            go_wp2
            go_ret
            exact ⟨ret_b (HNS.out (rangeAll_no k hlt (HE.out.trans (seenNo hp.1 (.inr (.inl h2)))))), below_drewN _ hB.out⟩
          have e106 : decide (1000000 < n) = false := decide_eq_false h2
          by_cases hkz : (0 : Int) < (k : Int)
          · obtain ⟨j, hj⟩ : ∃ j, k = j + 1 := ⟨k - 1, by omega⟩
            have hjl : (j : Int) < (x.seen.length : Int) := by omega
            have hj0 : (0 : Int) ≤ (j : Int) := by omega
            have hw1 : IntKind.i64.wrap ((k : Int) - 1) = (j : Int) := by rw [IntWalk.i64_in _ (by omega)]; omega
            have hkN : 0 < k := by omega
            have hd : decide (0 < k) = true := by simpa using hkN
            have HJ : Hid (k = j + 1) := hj
            clear hj
            obtain ⟨n', hn'⟩ : ∃ n', x.seen[j]? = some n' := ⟨x.seen[j]'(by have := HJ.out; omega), List.getElem?_eq_getElem (by have := HJ.out; omega)⟩
            obtain ⟨b2, off2, cap2, hv2, hlb2, t0, -⟩ := IntsV.cell (H0.out wr hB.out).2 j n' hn'
            simp only [Value.slice.injEq, true_and, Option.some.injEq, Addr.mk.injEq, and_true] at hv2
            obtain ⟨⟨rfl, rfl⟩, rfl⟩ := hv2
            have HPU : Hid (n' = q) := by rw [← HQ.out, HJ.out]; simp [Hid, prevI, List.getD, hn']
            clear hn'
            by_cases h3 : n ≤ n'
            · have e103 : decide (n ≤ n') = true := decide_eq_true h3
              go_wp2
              go_quiet (fail)
              go_wp2
              go_ret
              exact ⟨ret_b (HNS.out (rangeAll_no k hlt (HE.out.trans (seenNo hp.1 (.inr (.inr (by have := HPU.out; omega))))))), below_drewN _ hB.out⟩
            have e103 : decide (n ≤ n') = false := decide_eq_false h3
            go_wp2
            go_quiet (fail)
            go_wp2
            go_roundw
            case rel =>
              refine ⟨k + 1, by omega, by go_num, (show Hid _ from fun i hi => ?_), hK.out, below_drewN _ hB.out⟩
              by_cases e : i = k
              · subst e; exact HE.out.trans (seenYes (by have := HPU.out; omega) (by omega))
              · exact hA.out i (by omega)
            case measure => simp [intOf]; omega
          · have hkN : ¬ 0 < k := by omega
            have hd : decide (0 < k) = false := by simpa using hkN
            have HPU : Hid (q = 0) := by
              rw [← HQ.out]
              have : k = 0 := by omega
              rw [this]; rfl
            go_wp2
            go_quiet (fail)
            go_wp2
            go_roundw
            case rel =>
              refine ⟨k + 1, by omega, by go_num, (show Hid _ from fun i hi => ?_), hK.out, below_drewN _ hB.out⟩
              by_cases e : i = k
              · subst e; exact HE.out.trans (seenYes (by have := HPU.out; omega) (by omega))
              · exact hA.out i (by omega)
            case measure => simp [intOf]; omega
        · obtain rfl : k = x.seen.length := by omega
          go_wp2
          go_ret
          refine ⟨ret_b ?_, hB.out⟩
          have z1 := rangeAll_yes HBA.out
          have z2 := rangeAll_yes hA.out
          simp [accB, seenB, inB, z1, z2, q0, q1]
          omega

end Go.Proofs.Ytkdejfcdmjkndaa

/- What AccountOk of package spec does of every account. -/
namespace Go.Proofs.Ytkdejfcdmjkndaa
open Go.RowKit
set_option maxRecDepth 100000

theorem accB_no {x : AccD} (h : ¬ (0 ≤ x.valid ∧ x.valid ≤ 1000000 ∧ (x.boxes.length : Int) ≤ 4 ∧ (x.seen.length : Int) ≤ 60)) : accB x = false := by
  rw [Bool.eq_false_iff]
  intro e
  simp only [accB, seenB, inB, Bool.and_eq_true, decide_eq_true_eq] at e
  exact h ⟨e.1.1, e.1.2, by have := e.2.1; omega, by have := e.2.2.1.1; omega⟩

set_option maxRecDepth 100000 in
set_option maxHeartbeats 4000000 in
theorem specAccountOk_any (v : Value) (x : AccD) (w : World) (hv : AccV w v x) :
    Calls Try.prog 14 #[v] w fun e w' => e = .returned (.bool (accB x)) ∧ Below w.heap.size w w' := by
  by_cases hC : 0 ≤ x.valid ∧ x.valid ≤ 1000000 ∧ (x.boxes.length : Int) ≤ 4 ∧ (x.seen.length : Int) ≤ 60
  · exact specAccountOk_in v x w hv hC.1 hC.2.1 hC.2.2.1 hC.2.2.2
  · obtain ⟨u0, u1, rfl, g0, g1, -⟩ := hv
    obtain ⟨a0, c0, rfl, m0, m1⟩ := g0.form
    obtain ⟨a1, c1, rfl, m2, m3⟩ := g1.form
    clear g0 g1
    have HX : Hid (∀ o, Below w.heap.size w (w.alloc o)) := fun o => (Below.refl _ _).alloc (Nat.le_refl _) o
    have HC : Hid (¬ (0 ≤ x.valid ∧ x.valid ≤ 1000000 ∧ (x.boxes.length : Int) ≤ 4 ∧ (x.seen.length : Int) ≤ 60)) := hC
    clear hC
    go_enter Try.func14, Try.ntmps14
    go_wp2
    all_goals first
      | (go_ret; exact ⟨ret_b (accB_no HC.out), HX.out _⟩)
      | exact (HC.out ⟨by omega, by omega, by omega, by omega⟩).elim

end Go.Proofs.Ytkdejfcdmjkndaa

/- What RecordOk of package spec does of every record. -/
namespace Go.Proofs.Ytkdejfcdmjkndaa
open Go.RowKit
set_option maxRecDepth 100000
set_option linter.unusedVariables false
set_option linter.unusedSimpArgs false

set_option maxRecDepth 100000 in
set_option maxHeartbeats 4000000 in
theorem specRecordOk_any (v : Value) (r : RecD) (w : World) (hv : RecV w v r) :
    Calls Try.prog 5 #[v] w fun e w' => e = .returned (.bool (recB r)) ∧ Below w.heap.size w w' := by
  have H0 : Hid (∀ wi, Below w.heap.size w wi → RecV wi v r) := fun wi h => hv.below h
  obtain ⟨a0, n0, c0, a1, n1, c1, a2, n2, c2, a3, c3, a4, c4, rfl⟩ := hv.form
  clear hv
  by_cases h : (0 ≤ r.kind ∧ r.kind ≤ 8) ∧ (0 ≤ r.user ∧ r.user ≤ 2) ∧ (0 ≤ r.n ∧ r.n ≤ 1000000)
  · obtain ⟨hk, hu, hn⟩ := h
    by_cases hk0 : r.kind = 0
    · have e := recB_zero hk0 hu hn
      rw [hk0] at H0 ⊢
      exact specRecordOk_0 r.user r.n hu.1 hu.2 hn.1 hn.2 _ _ _ _ _ _ _ _ _ _ _ _ _ _ _ _ _ _ _ _ _ w (zeroC r.cmd) (cmdD r.cmd) (zeroA r.acc) (accB r.acc) (recB r)
        (fun wi h => l5zeroCmd_any _ r.cmd wi (by have := H0.out wi h; rw [← hk0] at this; exact this.parts.1)) (fun wi h => specCmdOk_any _ r.cmd.k r.cmd.bx r.cmd.tt r.cmd.uid r.cmd.mode r.cmd.fl r.cmd.si r.cmd.tx wi (by have := H0.out wi h; rw [← hk0] at this; exact this.parts.1)) (fun wi h => l5zeroAcc_any _ r.acc wi (by have := H0.out wi h; rw [← hk0] at this; exact this.parts.2.1)) (fun wi h => specAccountOk_any _ r.acc wi (by have := H0.out wi h; rw [← hk0] at this; exact this.parts.2.1)) e
    · exact specRecordOk_1 r.kind r.user r.n (by omega) hk.2 hu.1 hu.2 hn.1 hn.2 _ _ _ _ _ _ _ _ _ _ _ _ _ _ _ _ _ _ _ _ _ w (zeroC r.cmd) (cmdD r.cmd) (zeroA r.acc) (accB r.acc) (recB r)
        (fun wi h => l5zeroCmd_any _ r.cmd wi (H0.out wi h).parts.1) (fun wi h => specCmdOk_any _ r.cmd.k r.cmd.bx r.cmd.tt r.cmd.uid r.cmd.mode r.cmd.fl r.cmd.si r.cmd.tx wi (H0.out wi h).parts.1) (fun wi h => l5zeroAcc_any _ r.acc wi (H0.out wi h).parts.2.1) (fun wi h => specAccountOk_any _ r.acc wi (H0.out wi h).parts.2.1) (recB_more ⟨by omega, hk.2⟩ hu hn)
  · have HC : Hid (¬ ((0 ≤ r.kind ∧ r.kind ≤ 8) ∧ (0 ≤ r.user ∧ r.user ≤ 2) ∧ (0 ≤ r.n ∧ r.n ≤ 1000000))) := h
    have HX : Hid (∀ o, Below w.heap.size w (w.alloc o)) := fun o => (Below.refl _ _).alloc (Nat.le_refl _) o
    clear h H0
    by_cases hn : 0 ≤ r.n ∧ r.n ≤ 1000000
    · have hl3 : ∀ w, Calls Try.prog 11 #[.int .i64 r.n] w fun e w' => e = .returned (.bool true) ∧ w' = w := fun w => by
        have h := l3seq_any r.n w
        rwa [show inB r.n 0 1000000 = true by simp [inB]; omega] at h
      go_enter Try.func5, Try.ntmps5
      go_wp2_with fail
      all_goals first
        | exact (HC.out ⟨by omega, by omega, by omega⟩).elim
        | (go_ret; exact ⟨ret_b (recB_out HC.out), HX.out _⟩)
        | (refine (hl3 _).mono ?_; exact (HC.out ⟨by omega, by omega, by omega⟩).elim)
    · have hl3 : ∀ w, Calls Try.prog 11 #[.int .i64 r.n] w fun e w' => e = .returned (.bool false) ∧ w' = w := fun w => by
        have h := l3seq_any r.n w
        rwa [show inB r.n 0 1000000 = false by simp [inB]; omega] at h
      go_enter Try.func5, Try.ntmps5
      go_wp2_with (go_at_call 11; refine (hl3 _).mono ?_; rintro e w' ⟨rfl, rfl⟩)
      all_goals (go_ret; exact ⟨ret_b (recB_out HC.out), HX.out _⟩)

end Go.Proofs.Ytkdejfcdmjkndaa

/- What wantsOf of package impl does. -/
namespace Go.Proofs.Ytkdejfcdmjkndaa
open Go.RowKit
set_option maxRecDepth 100000

set_option maxHeartbeats 400000 in
theorem nameWanted_any (wt : Bool) (v : Value) (l : List Int) (w : World) (hv : Bs w v l) :
    Calls Try.prog 44 #[.bool wt, v] w fun e w' => e = .returned (.bool (bif wt then nameB l else decide (l.length = 0))) ∧ Below w.heap.size w w' := by
  have H : Hid (Bs w v l) := hv
  obtain ⟨ho, a, cap, rfl, hlc, hcm, -⟩ := hv
  cases wt with
  | true =>
    go_enter Try.func44, Try.ntmps44
    go_wp2_with (first | (go_at_call 56; refine (nameOk_any _ l _ H.out).mono ?_; rintro e w1 ⟨rfl, B⟩))
    go_ret
    exact ⟨ret_b rfl, B⟩
  | false =>
    by_cases h : l.length = 0
    · have h' : l = [] := List.eq_nil_of_length_eq_zero h
      subst h'
      go_enter Try.func44, Try.ntmps44
      go_wp2
      go_ret
      exact ⟨ret_b rfl, Below.refl _ _⟩
    · have h2 : (l.length : Int) ≠ 0 := by omega
      have e : Hid ((bif false then nameB l else decide (l.length = 0)) = false) := by simp [Hid]; exact fun e => h (by rw [e]; rfl)
      generalize l.length = n at h2 hlc h e
      go_enter Try.func44, Try.ntmps44
      go_wp2
      go_ret
      exact ⟨ret_b (e.out.trans (by simp [h])), Below.refl _ _⟩

/-- Which fields a kind of command has. -/
def wantsV (k : Int) : Value :=
  .agg #[.bool (!decide (k = 9)), .bool (decide (k = 6)), .int .i64 (if k = 3 ∨ k = 5 ∨ k = 6 then 1 else 0), .int .i64 (if k = 3 ∨ k = 5 ∨ k = 6 then 1000000 else 0), .int .i64 (if k = 3 then 2 else if k = 6 then 1 else 0),
    .int .i64 (if k = 2 ∨ k = 3 then 31 else 0), .int .i64 (if k = 3 ∨ k = 8 then 1000000 else 0), .int .i64 (if k = 2 then 30 else 0)]

set_option maxHeartbeats 1000000 in
theorem wantsOf_any (k : Int) (h : 0 ≤ k ∧ k ≤ 9) (w : World) :
    Calls Try.prog 43 #[.int .i64 k] w fun e w' => e = .returned (wantsV k) ∧ Below w.heap.size w w' := by
  have hk : k = 0 ∨ k = 1 ∨ k = 2 ∨ k = 3 ∨ k = 4 ∨ k = 5 ∨ k = 6 ∨ k = 7 ∨ k = 8 ∨ k = 9 := by omega
  clear h
  rcases hk with rfl | rfl | rfl | rfl | rfl | rfl | rfl | rfl | rfl | rfl
  all_goals
    go_enter Try.func43, Try.ntmps43
    go_wp2
  all_goals refine bodyPost_ret (v := wantsV _) (by simp [results, Try.results43, go_sem, wantsV]) rfl ⟨rfl, ?_⟩
  all_goals exact (Below.refl _ _).alloc (Nat.le_refl _) _

end Go.Proofs.Ytkdejfcdmjkndaa

/- What CmdOk of package impl does. -/
namespace Go.Proofs.Ytkdejfcdmjkndaa
open Go.RowKit
set_option maxRecDepth 100000
set_option linter.unusedVariables false

theorem cmdB_conj (k : Int) (h : 0 ≤ k ∧ k ≤ 9) (bx tt : List Int) (uid mode fl si : Int) (tx : List Int) : cmdB k bx tt uid mode fl si tx =
    ((bif (!decide (k = 9)) then nameB bx else decide (bx.length = 0)) && ((bif decide (k = 6) then nameB tt else decide (tt.length = 0)) && (inB uid (if k = 3 ∨ k = 5 ∨ k = 6 then 1 else 0) (if k = 3 ∨ k = 5 ∨ k = 6 then 1000000 else 0) && (inB mode 0 (if k = 3 then 2 else if k = 6 then 1 else 0) && (inB fl 0 (if k = 2 ∨ k = 3 then 31 else 0) && (inB si 0 (if k = 3 ∨ k = 8 then 1000000 else 0) && (decide ((tx.length : Int) ≤ (if k = 2 then 30 else 0)) && textB tx))))))) := by
  have hk : k = 0 ∨ k = 1 ∨ k = 2 ∨ k = 3 ∨ k = 4 ∨ k = 5 ∨ k = 6 ∨ k = 7 ∨ k = 8 ∨ k = 9 := by omega
  have z := textB_nil (l := tx)
  have z2 := textB_len (l := tx)
  unfold cmdB inB
  generalize textB tx = T at *
  generalize nameB bx = NB at *
  generalize nameB tt = NT at *
  generalize tx.length = n at *
  generalize bx.length = n1 at *
  generalize tt.length = n2 at *
  clear h
  rcases hk with rfl | rfl | rfl | rfl | rfl | rfl | rfl | rfl | rfl | rfl <;> cases T <;> cases NB <;> cases NT <;> rw [Bool.eq_iff_iff] <;> simp at * <;> omega

set_option maxRecDepth 100000 in
set_option maxHeartbeats 2000000 in
theorem implCmdOk_gen (k : Int) (hk : 0 ≤ k ∧ k ≤ 9) (W0 W1 : Bool) (W2 W3 W4 W5 W6 W7 : Int) (hW : wantsV k = .agg #[.bool W0, .bool W1, .int .i64 W2, .int .i64 W3, .int .i64 W4, .int .i64 W5, .int .i64 W6, .int .i64 W7]) (a0 a1 a2 : Option Addr) (nb nt nx c0 c1 c2 : Nat) (bx tt : List Int) (uid mode fl si : Int) (tx : List Int) (w : World)
    (H0 : Hid (∀ wi, Below w.heap.size w wi → Bs wi (.slice a0 nb c0) bx ∧ Bs wi (.slice a1 nt c1) tt ∧ Bs wi (.slice a2 nx c2) tx)) (c : Bool)
    (HC : Hid (c = ((bif W0 then nameB bx else decide (bx.length = 0)) && ((bif W1 then nameB tt else decide (tt.length = 0)) && (inB uid W2 W3 && (inB mode 0 W4 && (inB fl 0 W5 && (inB si 0 W6 && (decide ((nx : Int) ≤ W7) && textB tx))))))))) :
    Calls Try.prog 34 #[.agg #[.int .i64 k, .slice a0 nb c0, .slice a1 nt c1, .int .i64 uid, .int .i64 mode, .int .i64 fl, .int .i64 si, .slice a2 nx c2]] w fun e w' => e = .returned (.bool c) ∧ Below w.heap.size w w' := by
  have hp : ∀ w, Calls Try.prog 43 #[.int .i64 k] w fun e w' => e = .returned (.agg #[.bool W0, .bool W1, .int .i64 W2, .int .i64 W3, .int .i64 W4, .int .i64 W5, .int .i64 W6, .int .i64 W7]) ∧ Below w.heap.size w w' := fun w => by rw [← hW]; exact wantsOf_any k hk w
  have ab : ∀ (x : World) o, Below x.heap.size x (x.alloc o) := fun x o => (Below.refl _ _).alloc (Nat.le_refl _) o
  have hin : ∀ w, Calls Try.prog 18 #[.int .i64 k, .int .i64 0, .int .i64 9] w fun e w' => e = .returned (.bool true) ∧ w' = w := fun w => by
    have h := within_any k 0 9 w
    rwa [show inB k 0 9 = true by simp [inB, hk.1, hk.2]] at h
  clear hW
  have hy0 : ∀ w (_ : Bs w (.slice a0 nb c0) bx), Calls Try.prog 44 #[.bool W0, .slice a0 nb c0] w fun e w' => e = .returned (.bool (bif W0 then nameB bx else decide (bx.length = 0))) ∧ Below w.heap.size w w' := fun w h => nameWanted_any _ _ bx w h
  have hy1 : ∀ w (_ : Bs w (.slice a1 nt c1) tt), Calls Try.prog 44 #[.bool W1, .slice a1 nt c1] w fun e w' => e = .returned (.bool (bif W1 then nameB tt else decide (tt.length = 0))) ∧ Below w.heap.size w w' := fun w h => nameWanted_any _ _ tt w h
  have hy2 := within_any uid W2 W3
  have hy3 := within_any mode 0 W4
  have hy4 := within_any fl 0 W5
  have hy5 := within_any si 0 W6
  have hy7 := textOk_any (.slice a2 nx c2) tx
  generalize (bif W0 then nameB bx else decide (bx.length = 0)) = X0 at HC hy0
  generalize (bif W1 then nameB tt else decide (tt.length = 0)) = X1 at HC hy1
  generalize inB uid W2 W3 = X2 at HC hy2
  generalize inB mode 0 W4 = X3 at HC hy3
  generalize inB fl 0 W5 = X4 at HC hy4
  generalize inB si 0 W6 = X5 at HC hy5
  generalize textB tx = X7 at HC hy7
  have bx0 := box_new w (.cells #[.int .i64 k, .slice a0 nb c0, .slice a1 nt c1, .int .i64 uid, .int .i64 mode, .int .i64 fl, .int .i64 si, .slice a2 nx c2] 33)
  go_enter Try.func34, Try.ntmps34
  go_wp2_with fail
  refine (hin _).mono ?_
  rintro e w' ⟨rfl, rfl⟩
  go_wp2_with fail
  refine (hp _).mono ?_
  rintro e w1 ⟨rfl, B⟩
  have X := Below.step (ab w _) B
  have s1 : w.heap.size < w1.heap.size := by have := B.size; simp at this; omega
  have kc := box_below B bx0
  clear bx0 B hp hin
  obtain ⟨c_0, c_1, c_2, c_3, c_4, c_5, c_6, c_7⟩ := box8 kc
  have kw := box_new w1 (.cells #[.bool W0, .bool W1, .int .i64 W2, .int .i64 W3, .int .i64 W4, .int .i64 W5, .int .i64 W6, .int .i64 W7] 86)
  replace kc := box_alloc kc (.cells #[.bool W0, .bool W1, .int .i64 W2, .int .i64 W3, .int .i64 W4, .int .i64 W5, .int .i64 W6, .int .i64 W7] 86)
  replace X := Below.step X (ab w1 (.cells #[.bool W0, .bool W1, .int .i64 W2, .int .i64 W3, .int .i64 W4, .int .i64 W5, .int .i64 W6, .int .i64 W7] 86))
  clear ab
  go_wp2_with fail
  refine (hy0 _ (H0.out _ X).1).mono ?_
  rintro e w2 ⟨rfl, B⟩
  clear c_0 c_1 c_2 c_3 c_4 c_5 c_6 c_7 hy0 s1
  replace kc := box_below B kc
  replace kw := box_below B kw
  replace X := Below.step X B
  clear B
  obtain ⟨c_0, c_1, c_2, c_3, c_4, c_5, c_6, c_7⟩ := box8 kc
  obtain ⟨d_0, d_1, d_2, d_3, d_4, d_5, d_6, d_7⟩ := box8 kw
  cases X0 with
  | false =>
    go_wp2
    go_ret
    exact ⟨ret_b HC.out, X⟩
  | true =>
  go_wp2_with fail
  refine (hy1 _ (H0.out _ X).2.1).mono ?_
  rintro e w3 ⟨rfl, B⟩
  clear c_0 c_1 c_2 c_3 c_4 c_5 c_6 c_7 d_0 d_1 d_2 d_3 d_4 d_5 d_6 d_7 hy1
  replace kc := box_below B kc
  replace kw := box_below B kw
  replace X := Below.step X B
  clear B
  obtain ⟨c_0, c_1, c_2, c_3, c_4, c_5, c_6, c_7⟩ := box8 kc
  obtain ⟨d_0, d_1, d_2, d_3, d_4, d_5, d_6, d_7⟩ := box8 kw
  cases X1 with
  | false =>
    go_wp2
    go_ret
    exact ⟨ret_b HC.out, X⟩
  | true =>
  go_wp2_with fail
  refine (hy2 _).mono ?_
  rintro e w' ⟨rfl, rfl⟩
  cases X2 with
  | false =>
    go_wp2
    go_ret
    exact ⟨ret_b HC.out, X⟩
  | true =>
  go_wp2_with fail
  refine (hy3 _).mono ?_
  rintro e w' ⟨rfl, rfl⟩
  cases X3 with
  | false =>
    go_wp2
    go_ret
    exact ⟨ret_b HC.out, X⟩
  | true =>
  go_wp2_with fail
  refine (hy4 _).mono ?_
  rintro e w' ⟨rfl, rfl⟩
  cases X4 with
  | false =>
    go_wp2
    go_ret
    exact ⟨ret_b HC.out, X⟩
  | true =>
  go_wp2_with fail
  refine (hy5 _).mono ?_
  rintro e w' ⟨rfl, rfl⟩
  cases X5 with
  | false =>
    go_wp2
    go_ret
    exact ⟨ret_b HC.out, X⟩
  | true =>
  by_cases h6 : (nx : Int) ≤ W7
  · rw [decide_eq_true h6] at HC
    go_wp2_with fail
    refine (hy7 _ (H0.out _ X).2.2).mono ?_
    rintro e w4 ⟨rfl, B⟩
    go_wp2
    go_ret
    exact ⟨ret_b HC.out, Below.step X B⟩
  · rw [decide_eq_false h6] at HC
    go_wp2
    go_ret
    exact ⟨ret_b HC.out, X⟩

set_option maxRecDepth 100000 in
theorem implCmdOk_any (v : Value) (k : Int) (bx tt : List Int) (uid mode fl si : Int) (tx : List Int) (w : World) (hv : CmdV w v k bx tt uid mode fl si tx) :
    Calls Try.prog 34 #[v] w fun e w' => e = .returned (.bool (cmdB k bx tt uid mode fl si tx)) ∧ Below w.heap.size w w' := by
  obtain ⟨u0, u1, u2, rfl, g0, g1, g2, i0, i1, i2, i3, i4⟩ := hv
  have H0 : Hid (∀ wi, Below w.heap.size w wi → Bs wi u0 bx ∧ Bs wi u1 tt ∧ Bs wi u2 tx) := fun wi h => ⟨g0.below h, g1.below h, g2.below h⟩
  obtain ⟨a0, c0, rfl⟩ := g0.form
  obtain ⟨a1, c1, rfl⟩ := g1.form
  obtain ⟨a2, c2, rfl⟩ := g2.form
  by_cases h : 0 ≤ k ∧ k ≤ 9
  · exact implCmdOk_gen k h _ _ _ _ _ _ _ _ rfl a0 a1 a2 _ _ _ c0 c1 c2 bx tt uid mode fl si tx w H0 _ (cmdB_conj k h bx tt uid mode fl si tx)
  · have HZ : Hid (cmdB k bx tt uid mode fl si tx = false) := by simp [Hid, cmdB, h]
    have hin : ∀ w, Calls Try.prog 18 #[.int .i64 k, .int .i64 0, .int .i64 9] w fun e w' => e = .returned (.bool false) ∧ w' = w := fun w => by
      have h' := within_any k 0 9 w
      rwa [show inB k 0 9 = false by simp [inB]; omega] at h'
    go_enter Try.func34, Try.ntmps34
    go_wp2_with fail
    refine (hin _).mono ?_
    rintro e w' ⟨rfl, rfl⟩
    go_wp2
    go_ret
    exact ⟨ret_b HZ.out, (Below.refl _ _).alloc (Nat.le_refl _) _⟩

end Go.Proofs.Ytkdejfcdmjkndaa

/- What boxOk of package impl do. -/
namespace Go.Proofs.Ytkdejfcdmjkndaa
open Go.RowKit Go.Shelf
set_option maxRecDepth 100000
set_option linter.unusedVariables false

set_option maxRecDepth 100000 in
set_option maxHeartbeats 1000000 in
theorem boxOk_any (v : Value) (x : BoxD) (mv : Int) (w : World) (hv : BoxV w v x) :
    Calls Try.prog 47 #[v, .int .i64 mv] w fun e w' => e = .returned (.bool (boxB x mv)) ∧ Below w.heap.size w w' := by
  have HV : Hid (∀ wi, Below w.heap.size w wi → BoxV wi v x) := fun wi h => hv.below h
  obtain ⟨u0, u1, u2, rfl, g0, g1, g2, i0, i1, i2, i3⟩ := hv
  have H0 : Hid (∀ wi, Below w.heap.size w wi → Bs wi u0 x.name ∧ MailsV wi u1 x.mails ∧ GonesV wi u2 x.gones) := fun wi h => ⟨g0.below h, g1.below keepsMail h, g2.below keepsGone h⟩
  obtain ⟨a0, n0, c0, rfl⟩ := g0.form3
  obtain ⟨a1, c1, rfl, m0, m1⟩ := g1.form
  obtain ⟨a2, c2, rfl, m2, m3⟩ := g2.form
  have kA := box_new w (.cells #[.slice a0 n0 c0, .int .i64 x.valid, .int .i64 x.next, .int .i64 x.seq, .slice a1 x.mails.length c1, .slice a2 x.gones.length c2, .int .i64 x.lost] 66)
  have X : Below w.heap.size w (w.alloc (.cells #[.slice a0 n0 c0, .int .i64 x.valid, .int .i64 x.next, .int .i64 x.seq, .slice a1 x.mails.length c1, .slice a2 x.gones.length c2, .int .i64 x.lost] 66)) := (Below.refl _ _).alloc (Nat.le_refl _) _
  clear g0 g1 g2
  have HC : Hid (boxB x mv = (nameB x.name && (inB x.valid 1 mv && (inB x.next 1 1000000 && (inB x.seq 0 1000000 && (inB x.lost 0 x.seq && (mailsB x && gonesB x))))))) := rfl
  have HN : Hid (inB x.next 1 1000000 = true → 1 ≤ x.next ∧ x.next ≤ 1000000) := by intro h; simp [inB] at h; exact h
  have hy1 := fun wi (h : Bs wi (.slice a0 n0 c0) x.name) => nameOk_any _ x.name wi h
  have hy2 := within_any x.valid 1 mv
  have hy3 := within_any x.next 1 1000000
  have hy4 := within_any x.seq 0 1000000
  have hy5 := within_any x.lost 0 x.seq
  have hy6 := fun wi (h : BoxV wi (.agg #[.slice a0 n0 c0, .int .i64 x.valid, .int .i64 x.next, .int .i64 x.seq, .slice a1 x.mails.length c1, .slice a2 x.gones.length c2, .int .i64 x.lost]) x) h1 h2 => mailsOk_any _ x wi h h1 h2
  have hy7 := fun wi (h : BoxV wi (.agg #[.slice a0 n0 c0, .int .i64 x.valid, .int .i64 x.next, .int .i64 x.seq, .slice a1 x.mails.length c1, .slice a2 x.gones.length c2, .int .i64 x.lost]) x) h1 h2 => gonesOk_any _ x wi h h1 h2
  generalize nameB x.name = X1 at HC hy1
  generalize inB x.valid 1 mv = X2 at HC hy2
  generalize inB x.next 1 1000000 = X3 at HC hy3 HN
  generalize inB x.seq 0 1000000 = X4 at HC hy4
  generalize inB x.lost 0 x.seq = X5 at HC hy5
  generalize mailsB x = X6 at HC hy6
  generalize gonesB x = X7 at HC hy7
  go_enter Try.func47, Try.ntmps47
  go_wp2_with fail
  refine (hy1 _ (H0.out _ X).1).mono ?_
  rintro e w1 ⟨rfl, B⟩
  replace kA := box_below B kA
  replace X := Below.step X B
  clear B hy1
  obtain ⟨f0, f1, f2, f3, f4, f5, f6⟩ := bx7 kA
  cases X1 with
  | false =>
    go_wp2
    go_ret
    exact ⟨ret_b HC.out, X⟩
  | true =>
  go_wp2_with fail
  refine (hy2 _).mono ?_
  rintro e w' ⟨rfl, rfl⟩
  cases X2 with
  | false =>
    go_wp2
    go_ret
    exact ⟨ret_b HC.out, X⟩
  | true =>
  go_wp2_with fail
  refine (hy3 _).mono ?_
  rintro e w' ⟨rfl, rfl⟩
  cases X3 with
  | false =>
    go_wp2
    go_ret
    exact ⟨ret_b HC.out, X⟩
  | true =>
  obtain ⟨hn0, hn1⟩ := HN.out rfl
  go_wp2_with fail
  refine (hy4 _).mono ?_
  rintro e w' ⟨rfl, rfl⟩
  cases X4 with
  | false =>
    go_wp2
    go_ret
    exact ⟨ret_b HC.out, X⟩
  | true =>
  go_wp2_with fail
  refine (hy5 _).mono ?_
  rintro e w' ⟨rfl, rfl⟩
  cases X5 with
  | false =>
    go_wp2
    go_ret
    exact ⟨ret_b HC.out, X⟩
  | true =>
  go_wp2_with fail
  refine (hy6 _ (HV.out _ X) hn0 hn1).mono ?_
  rintro e w2 ⟨rfl, B⟩
  replace kA := box_below B kA
  replace X := Below.step X B
  clear B hy6 f0 f1 f2 f3 f4 f5 f6
  obtain ⟨f0, f1, f2, f3, f4, f5, f6⟩ := bx7 kA
  cases X6 with
  | false =>
    go_wp2
    go_ret
    exact ⟨ret_b HC.out, X⟩
  | true =>
  go_wp2_with fail
  refine (hy7 _ (HV.out _ X) hn0 hn1).mono ?_
  rintro e w3 ⟨rfl, B⟩
  replace X := Below.step X B
  go_wp2
  go_ret
  exact ⟨ret_b HC.out, X⟩

end Go.Proofs.Ytkdejfcdmjkndaa

/- What slices.IndexFunc and slices.ContainsFunc of boxes do. -/
namespace Go.Proofs.Ytkdejfcdmjkndaa
open Go.RowKit Go.Shelf
set_option maxRecDepth 100000
set_option linter.unusedVariables false

set_option maxRecDepth 100000 in
set_option maxHeartbeats 1000000 in
theorem indexFuncBox (g : Nat) (lb : Array Value) (p : BoxD → Bool) (v : Value) (l : List BoxD) (w : World) (hv : BoxesV w v l) (eg : ∀ args w, (callFunc g args).run Try.prog w = .ok (.enter g args) w)
    (hp : ∀ wi x u, Below w.heap.size w wi → BoxV wi u x → Calls Try.prog g (#[u] ++ lb) wi fun e w' => e = .returned (.bool (p x)) ∧ Below wi.heap.size wi w') :
    Calls Try.prog 61 #[v, .func (.func g) #[] lb] w fun e w' => e = .returned (.int .i64 (firstI p l)) ∧ Below w.heap.size w w' := by
  have HV : Hid (∀ wi, Below w.heap.size w wi → BoxesV wi v l) := fun wi h => hv.below keepsBox h
  have HP : Hid (∀ wi x u, Below w.heap.size w wi → BoxV wi u x → Calls Try.prog g (#[u] ++ lb) wi fun e w' => e = .returned (.bool (p x)) ∧ Below wi.heap.size wi w') := hp
  obtain ⟨a, cap, rfl, hlc, hcm⟩ := hv.form
  clear hv hp
  go_enter Try.func61, Try.ntmps61
  go_wp2
  go_loopw [5, 8] (fun _ i wr => ∃ k : Nat, k ≤ l.length ∧ i = .int .i64 k ∧ Hid (∀ j x, j < k → l[j]? = some x → p x = false) ∧ Hid (Below w.heap.size w wr)) (fun _ i _ => l.length - (intOf i).toNat)
  case atStart => exact ⟨0, Nat.zero_le _, rfl, (fun j x hj => absurd hj (Nat.not_lt_zero _)), Below.refl _ _⟩
  case round =>
    obtain ⟨k, hk, rfl, hA, hB⟩ := hrel
    by_cases hlt : k < l.length
    · obtain ⟨x, hx⟩ : ∃ x, l[k]? = some x := ⟨l[k], List.getElem?_eq_getElem hlt⟩
      obtain ⟨b, off, cap', u0, u1, u2, hv', hlb, d0, d1, d2, d3, d4, d5, d6, hu0, hu1, hu2, i0, i1, i2, i3⟩ := BoxesV.cell (HV.out wr hB.out) k x hx
      simp only [Value.slice.injEq, true_and] at hv'
      obtain ⟨rfl, rfl⟩ := hv'
      obtain ⟨ua, un, uc, rfl⟩ := hu0.form3
      obtain ⟨va, vc, rfl, -⟩ := hu1.form
      obtain ⟨wa, wc, rfl, -⟩ := hu2.form
      have hcall := HP.out wr x (.agg #[.slice ua un uc, .int .i64 x.valid, .int .i64 x.next, .int .i64 x.seq, .slice va x.mails.length vc, .slice wa x.gones.length wc, .int .i64 x.lost]) hB.out ⟨_, _, _, rfl, hu0, hu1, hu2, i0, i1, i2, i3⟩
      have HX : Hid (l[k]? = some x) := hx
      clear hx
      cases hq : p x with
      | true =>
        rw [hq] at hcall
        have HQ : Hid (p x = true) := hq
        clear hq
        go_wp2_with (go_at_fn g; refine hcall.mono ?_; rintro e w1 ⟨rfl, B⟩)
        go_ret
        exact ⟨ret_i (firstI_hit' hlt HX.out HQ.out hA.out).symm, Below.step hB.out B⟩
      | false =>
        rw [hq] at hcall
        have HQ : Hid (p x = false) := hq
        clear hq
        go_wp2_with (go_at_fn g; refine hcall.mono ?_; rintro e w1 ⟨rfl, B⟩)
        have HB2 : Hid (Below w.heap.size w w1) := Below.step hB.out B
        clear B hB
        go_roundw
        case rel =>
          refine ⟨k + 1, by omega, by go_num, (show Hid _ from fun j y hj hy => ?_), HB2⟩
          by_cases e : j = k
          · subst e; rw [HX.out] at hy; cases hy; exact HQ.out
          · exact hA.out j y (by omega) hy
        case measure => simp [intOf]; omega
    · obtain rfl : k = l.length := by omega
      go_wp2
      go_ret
      exact ⟨ret_i (firstI_none' hA.out).symm, hB.out⟩

set_option maxRecDepth 100000 in
set_option maxHeartbeats 1000000 in
theorem containsFuncBox (g : Nat) (lb : Array Value) (p : BoxD → Bool) (v : Value) (l : List BoxD) (w : World) (hv : BoxesV w v l) (eg : ∀ args w, (callFunc g args).run Try.prog w = .ok (.enter g args) w)
    (hp : ∀ wi x u, Below w.heap.size w wi → BoxV wi u x → Calls Try.prog g (#[u] ++ lb) wi fun e w' => e = .returned (.bool (p x)) ∧ Below wi.heap.size wi w') :
    Calls Try.prog 49 #[v, .func (.func g) #[] lb] w fun e w' => e = .returned (.bool (l.any p)) ∧ Below w.heap.size w w' := by
  have hi := indexFuncBox g lb p v l w hv eg hp
  have HF : Hid (l.any p = decide (0 ≤ firstI p l)) := any_firstI p l
  generalize firstI p l = i at hi HF
  obtain ⟨a, cap, rfl, -⟩ := hv.form
  clear hp hv
  go_enter Try.func49, Try.ntmps49
  go_wp2_with (go_at_call 61; refine hi.mono ?_; rintro e w1 ⟨rfl, B⟩)
  go_ret
  exact ⟨ret_b HF.out, B⟩

end Go.Proofs.Ytkdejfcdmjkndaa

/- What bytes.Compare do. -/
namespace Go.Proofs.Ytkdejfcdmjkndaa
open Go.RowKit Go.Shelf
set_option maxRecDepth 100000
set_option linter.unusedVariables false

/-- The bytes of a slice, as the model's entries take them. -/
theorem run_bytesOf_bs {w : World} {v : Value} {l : List Int} (h : Bs w v l) : (Extern.Bytes.bytesOf v).run Try.prog w = .ok ⟨(bts l).toArray⟩ w := by
  obtain ⟨ho, a, cap, rfl, h1, h2, h3, h4⟩ := h
  cases a with
  | none =>
    have hc := h3 rfl
    have : l = [] := List.eq_nil_of_length_eq_zero (by omega)
    subst this
    rfl
  | some ad =>
    have key : ∀ j x, l[j]? = some x → w.cell? (ad.add j) = some (.int .u8 x) := by
      intro j x hj
      have hjl : j < l.length := (List.getElem?_eq_some_iff.1 hj).1
      obtain ⟨b, off, had, -, hc⟩ := h4 (by omega)
      cases had
      rw [Addr.add_lit, hc j hjl]
      simp [List.getD, hj]
    have := Lib.run_loadBytesX (P := Try.prog) w l ad .empty key
    simp only [Extern.Bytes.bytesOf]
    rw [this]
    congr 1
    apply ByteArray.ext
    show (#[] : Array UInt8) ++ _ = _
    simp only [Array.empty_append]
    rfl
theorem run_compare_bs {w : World} {v u : Value} {l m : List Int} (hv : Bs w v l) (hu : Bs w u m) : (Extern.BytealgCompare.compare #[v, u]).run Try.prog w = .ok (.int .i64 (Lib.compareBytes (bts l) (bts m))) w := by
  change Sem.run Try.prog (do pure (goInt (Extern.BytealgCompare.cmp (← Extern.Bytes.bytesOf v) (← Extern.Bytes.bytesOf u)))) w = _
  simp only [Sem.run_bind, Sem.run_pure, run_bytesOf_bs hv, run_bytesOf_bs hu, Result.andThen]
  rw [Lib.cmp_eq]
  rfl

set_option maxRecDepth 100000 in
set_option maxHeartbeats 1000000 in
theorem compare_any (v u : Value) (l m : List Int) (w : World) (hv : Bs w v l) (hu : Bs w u m) :
    Calls Try.prog 48 #[v, u] w fun e w' => e = .returned (.int .i64 (Lib.compareBytes (bts l) (bts m))) ∧ w' = w := by
  have h8 := @run_callFunc_extern Try.prog 60 _ Extern.BytealgCompare.compare Try.func60 (by kernel_rfl) (by kernel_rfl) (by kernel_rfl) (by kernel_rfl)
  have hr := run_compare_bs hv hu
  obtain ⟨a, n, c, rfl⟩ := hv.form3
  obtain ⟨a', n', c', rfl⟩ := hu.form3
  clear hv hu
  generalize Lib.compareBytes (bts l) (bts m) = r at hr
  go_enter Try.func48, Try.ntmps48
  go_wp2
  go_ret
  exact ⟨rfl, rfl⟩

end Go.Proofs.Ytkdejfcdmjkndaa

/- What AccountOk of package impl do. -/
namespace Go.Proofs.Ytkdejfcdmjkndaa
open Go.RowKit Go.Shelf
set_option maxRecDepth 100000
set_option linter.unusedVariables false

set_option maxRecDepth 100000 in
set_option maxHeartbeats 1000000 in
theorem accountOk1_any (u : Value) (m : BoxD) (bg : Nat) (vd : Int) (w : World) (hu : BoxV w u m) (hc : w.cell? ⟨bg, 1, none⟩ = some (.int .i64 vd)) (hb : bg < w.heap.size) :
    Calls Try.prog 50 #[u, .pointer (some ⟨bg, 0, none⟩)] w fun e w' => e = .returned (.bool (decide (m.valid = vd))) ∧ Below w.heap.size w w' := by
  obtain ⟨u0, u1, u2, rfl, g0, g1, g2, -⟩ := hu
  obtain ⟨a0, n0, c0, rfl⟩ := g0.form3
  obtain ⟨a1, c1, rfl, -⟩ := g1.form
  obtain ⟨a2, c2, rfl, -⟩ := g2.form
  clear g0 g1 g2
  obtain ⟨name, valid, next, seq, mails, gones, lost⟩ := m
  simp only
  go_enter Try.func50, Try.ntmps50
  go_wp2
  go_ret
  exact ⟨ret_b (by rw [Bool.eq_iff_iff]; simp), (Below.refl _ _).alloc (Nat.le_refl _) _⟩

set_option maxRecDepth 100000 in
set_option maxHeartbeats 4000000 in
theorem implAccountOk_any (v : Value) (x : AccD) (w : World) (hv : AccV w v x) :
    Calls Try.prog 35 #[v] w fun e w' => e = .returned (.bool (accB x)) ∧ Below w.heap.size w w' := by
  obtain ⟨u0, u1, rfl, g0, g1, i0⟩ := hv
  have H0 : Hid (∀ wi, Below w.heap.size w wi → BoxesV wi u0 x.boxes ∧ IntsV wi u1 x.seen) := fun wi h => ⟨g0.below keepsBox h, g1.below keepsInt h⟩
  obtain ⟨a0, c0, rfl, m0, m1⟩ := g0.form
  obtain ⟨a1, c1, rfl, m2, m3⟩ := g1.form
  clear g0 g1
  have HK : Hid ((w.alloc (.cells #[.int .i64 x.valid, .slice a0 x.boxes.length c0, .slice a1 x.seen.length c1] 36)).heap[w.heap.size]? = some (.cells #[.int .i64 x.valid, .slice a0 x.boxes.length c0, .slice a1 x.seen.length c1] 36)) := box_new w _
  have HX : Hid (Below w.heap.size w (w.alloc (.cells #[.int .i64 x.valid, .slice a0 x.boxes.length c0, .slice a1 x.seen.length c1] 36))) := (Below.refl _ _).alloc (Nat.le_refl _) _
  have HC : Hid (accB x = (inB x.valid 0 1000000 && (decide (x.boxes.length ≤ 4) && (seenB x.seen && (List.range x.boxes.length).all (boxAt x))))) := rfl
  have hy1 := within_any x.valid 0 1000000
  have hy2 := seenOk_any _ x.seen _ (H0.out _ HX.out).2
  generalize inB x.valid 0 1000000 = X1 at HC hy1
  generalize seenB x.seen = X2 at HC hy2
  cases X1 with
  | false =>
    go_enter Try.func35, Try.ntmps35
    go_wp2_with fail
    refine (hy1 _).mono ?_
    rintro e w' ⟨rfl, rfl⟩
    go_wp2
    go_ret
    exact ⟨ret_b HC.out, HX.out⟩
  | true =>
  rcases Nat.lt_or_ge 4 x.boxes.length with h4 | h4
  · rw [decide_eq_false (Nat.not_le_of_lt h4)] at HC
    have h4' : (4 : Int) < x.boxes.length := by omega
    go_enter Try.func35, Try.ntmps35
    go_wp2_with fail
    refine (hy1 _).mono ?_
    rintro e w' ⟨rfl, rfl⟩
    go_wp2
    go_ret
    exact ⟨ret_b HC.out, HX.out⟩
  rw [decide_eq_true h4] at HC
  have h4' : (x.boxes.length : Int) ≤ 4 := by omega
  cases X2 with
  | false =>
    go_enter Try.func35, Try.ntmps35
    go_wp2_with fail
    refine (hy1 _).mono ?_
    rintro e w' ⟨rfl, rfl⟩
    go_wp2_with fail
    refine hy2.mono ?_
    rintro e w' ⟨rfl, rfl⟩
    go_wp2
    go_ret
    exact ⟨ret_b HC.out, HX.out⟩
  | true =>
  have HS : Hid (accB x = (List.range x.boxes.length).all (boxAt x)) := HC.out
  clear HC
  go_enter Try.func35, Try.ntmps35
  go_wp2_with fail
  refine (hy1 _).mono ?_
  rintro e w' ⟨rfl, rfl⟩
  go_wp2_with fail
  refine hy2.mono ?_
  rintro e w' ⟨rfl, rfl⟩
  clear hy1 hy2
  go_wp2
  go_loopw [3, 4, 5, 25] (fun _ _ _ i wr => ∃ k : Nat, k ≤ x.boxes.length ∧ i = .int .i64 k ∧ Hid (∀ j, j < k → boxAt x j = true) ∧ Hid (wr.heap[w.heap.size]? = some (.cells #[.int .i64 x.valid, .slice a0 x.boxes.length c0, .slice a1 x.seen.length c1] 36)) ∧ Hid (Below w.heap.size w wr)) (fun _ _ _ i _ => x.boxes.length - (intOf i).toNat)
  case atStart => exact ⟨0, Nat.zero_le _, rfl, (fun j hj => absurd hj (Nat.not_lt_zero _)), HK, HX⟩
  case round =>
    obtain ⟨k, hk, rfl, hA, hK, hB⟩ := hrel
    by_cases hlt : k < x.boxes.length
    · obtain ⟨m, hm⟩ : ∃ m, x.boxes[k]? = some m := ⟨x.boxes[k], List.getElem?_eq_getElem hlt⟩
      obtain ⟨b, off, cap', u0, u1, u2, hv', hlb, d0, d1, d2, d3, d4, d5, d6, hu0, hu1, hu2, j0, j1, j2, j3⟩ := BoxesV.cell (H0.out wr hB.out).1 k m hm
      simp only [Value.slice.injEq, true_and] at hv'
      obtain ⟨rfl, rfl⟩ := hv'
      obtain ⟨ua, un, uc, rfl⟩ := hu0.form3
      obtain ⟨va, vc, rfl, -⟩ := hu1.form
      obtain ⟨wa, wc, rfl, -⟩ := hu2.form
      have HBV : Hid (∀ wi, Below wr.heap.size wr wi → BoxV wi (.agg #[.slice ua un uc, .int .i64 m.valid, .int .i64 m.next, .int .i64 m.seq, .slice va m.mails.length vc, .slice wa m.gones.length wc, .int .i64 m.lost]) m) := fun wi h => ⟨_, _, _, rfl, hu0.below h, hu1.below keepsMail h, hu2.below keepsGone h, j0, j1, j2, j3⟩
      have HE : Hid (boxAt x k = (boxB m x.valid && (aheadB x.boxes m k && !((x.boxes.take k).any fun o => decide (o.valid = m.valid))))) := by simp [Hid, boxAt, hm]
      have HKg : Hid ((wr.alloc (.cells #[.slice ua un uc, .int .i64 m.valid, .int .i64 m.next, .int .i64 m.seq, .slice va m.mails.length vc, .slice wa m.gones.length wc, .int .i64 m.lost] 66)).heap[wr.heap.size]? = some (.cells #[.slice ua un uc, .int .i64 m.valid, .int .i64 m.next, .int .i64 m.seq, .slice va m.mails.length vc, .slice wa m.gones.length wc, .int .i64 m.lost] 66)) := box_new wr _
      have HKb : Hid ((wr.alloc (.cells #[.slice ua un uc, .int .i64 m.valid, .int .i64 m.next, .int .i64 m.seq, .slice va m.mails.length vc, .slice wa m.gones.length wc, .int .i64 m.lost] 66)).heap[w.heap.size]? = some (.cells #[.int .i64 x.valid, .slice (some ⟨b, off, none⟩) x.boxes.length c0, .slice a1 x.seen.length c1] 36)) := box_alloc hK.out _
      have HA1 : Hid (Below wr.heap.size wr (wr.alloc (.cells #[.slice ua un uc, .int .i64 m.valid, .int .i64 m.next, .int .i64 m.seq, .slice va m.mails.length vc, .slice wa m.gones.length wc, .int .i64 m.lost] 66))) := (Below.refl _ _).alloc (Nat.le_refl _) _
      have HB1 : Hid (Below w.heap.size w (wr.alloc (.cells #[.slice ua un uc, .int .i64 m.valid, .int .i64 m.next, .int .i64 m.seq, .slice va m.mails.length vc, .slice wa m.gones.length wc, .int .i64 m.lost] 66))) := Below.step hB.out HA1.out
      have HCF : Hid (∀ wi, Below (wr.alloc (.cells #[.slice ua un uc, .int .i64 m.valid, .int .i64 m.next, .int .i64 m.seq, .slice va m.mails.length vc, .slice wa m.gones.length wc, .int .i64 m.lost] 66)).heap.size (wr.alloc (.cells #[.slice ua un uc, .int .i64 m.valid, .int .i64 m.next, .int .i64 m.seq, .slice va m.mails.length vc, .slice wa m.gones.length wc, .int .i64 m.lost] 66)) wi → Calls Try.prog 49 #[.slice (some ⟨b, off, none⟩) k c0, .func (.func 50) #[] #[.pointer (some ⟨wr.heap.size, 0, none⟩)]] wi fun e w' => e = .returned (.bool ((x.boxes.take k).any fun o => decide (o.valid = m.valid))) ∧ Below wi.heap.size wi w') := fun wi hbi =>
        containsFuncBox 50 #[.pointer (some ⟨wr.heap.size, 0, none⟩)] (fun o => decide (o.valid = m.valid)) _ (x.boxes.take k) _ (((H0.out _ (Below.step HB1.out hbi)).1).take k hk) (fun args w => by kernel_rfl) (fun wj o u hbj hu => accountOk1_any u o wr.heap.size m.valid wj hu (bx7 (box_below hbj (box_below hbi HKg.out))).2.1 (lt_of_heap (box_below hbj (box_below hbi HKg.out))))
      generalize ((x.boxes.take k).any fun o => decide (o.valid = m.valid)) = X3 at HCF HE
      have HC1 := fun wi (h : BoxV wi (.agg #[.slice ua un uc, .int .i64 m.valid, .int .i64 m.next, .int .i64 m.seq, .slice va m.mails.length vc, .slice wa m.gones.length wc, .int .i64 m.lost]) m) => boxOk_any _ m x.valid wi h
      generalize boxB m x.valid = X1 at HE HC1
      have hK0 := hK.out
      obtain ⟨e0, e1, e2⟩ := bx3 hK0
      have hlA := lt_of_heap hK0
      clear hK0 hm
      have DR : Below (wr.alloc (.cells #[.slice ua un uc, .int .i64 m.valid, .int .i64 m.next, .int .i64 m.seq, .slice va m.mails.length vc, .slice wa m.gones.length wc, .int .i64 m.lost] 66)).heap.size (wr.alloc (.cells #[.slice ua un uc, .int .i64 m.valid, .int .i64 m.next, .int .i64 m.seq, .slice va m.mails.length vc, .slice wa m.gones.length wc, .int .i64 m.lost] 66)) (wr.alloc (.cells #[.slice ua un uc, .int .i64 m.valid, .int .i64 m.next, .int .i64 m.seq, .slice va m.mails.length vc, .slice wa m.gones.length wc, .int .i64 m.lost] 66)).drew := (Below.refl _ _).drew
      have HF : Hid (∀ w', Below (wr.alloc (.cells #[.slice ua un uc, .int .i64 m.valid, .int .i64 m.next, .int .i64 m.seq, .slice va m.mails.length vc, .slice wa m.gones.length wc, .int .i64 m.lost] 66)).heap.size (wr.alloc (.cells #[.slice ua un uc, .int .i64 m.valid, .int .i64 m.next, .int .i64 m.seq, .slice va m.mails.length vc, .slice wa m.gones.length wc, .int .i64 m.lost] 66)) w' → w'.cell? ⟨wr.heap.size, 0, none⟩ = some (.slice ua un uc) ∧ w'.cell? ⟨wr.heap.size, 1, none⟩ = some (.int .i64 m.valid) ∧ w'.cell? ⟨wr.heap.size, 2, none⟩ = some (.int .i64 m.next) ∧ w'.cell? ⟨wr.heap.size, 3, none⟩ = some (.int .i64 m.seq) ∧ w'.cell? ⟨wr.heap.size, 4, none⟩ = some (.slice va m.mails.length vc) ∧ w'.cell? ⟨wr.heap.size, 5, none⟩ = some (.slice wa m.gones.length wc) ∧ w'.cell? ⟨wr.heap.size, 6, none⟩ = some (.int .i64 m.lost) ∧ w'.cell? ⟨w.heap.size, 0, none⟩ = some (.int .i64 x.valid)) := by
        intro w' h
        obtain ⟨r0, r1, r2, r3, r4, r5, r6⟩ := bx7 (box_below h HKg.out)
        exact ⟨r0, r1, r2, r3, r4, r5, r6, (bx3 (box_below h HKb.out)).1⟩
      cases X1 with
      | false =>
        go_wp2
        refine wp_region_held_drew (S := fun w' => w'.cell? ⟨wr.heap.size, 0, none⟩ = some (.slice ua un uc) ∧ w'.cell? ⟨wr.heap.size, 1, none⟩ = some (.int .i64 m.valid) ∧ w'.cell? ⟨wr.heap.size, 2, none⟩ = some (.int .i64 m.next) ∧ w'.cell? ⟨wr.heap.size, 3, none⟩ = some (.int .i64 m.seq) ∧ w'.cell? ⟨wr.heap.size, 4, none⟩ = some (.slice va m.mails.length vc) ∧ w'.cell? ⟨wr.heap.size, 5, none⟩ = some (.slice wa m.gones.length wc) ∧ w'.cell? ⟨wr.heap.size, 6, none⟩ = some (.int .i64 m.lost) ∧ w'.cell? ⟨w.heap.size, 0, none⟩ = some (.int .i64 x.valid)) (by kernel_rfl) (HF.out _ DR) (fun hHeld => (show wpAnyH _ _ _ _ _ 21 #[false, false, false, false, false, false, false, false, false, false, false, false, false, false, false, false, false, false, false, false, false] _ _ from ?_))
        refine tk 0 34 ?v1 ?h1 hHeld ?_; case h1 => (intro w s; (try dsimp only at s); go_simp <;> with_reducible rfl)
        conv => arg 8; simp only [Act.put, sA, s0, sS]
        refine tk 1 35 ?v2 ?h2 hHeld ?_; case h2 => (intro w s; (try dsimp only at s); go_simp <;> with_reducible rfl)
        conv => arg 8; simp only [Act.put, sA, s0, sS]
        refine tk 2 36 ?v3 ?h3 hHeld ?_; case h3 => (intro w s; (try dsimp only at s); go_simp <;> with_reducible rfl)
        conv => arg 8; simp only [Act.put, sA, s0, sS]
        refine wpAnyH_ready (rs := [3]) (by kernel_rfl) (by simp) ?_
        refine AllReadyH.cons rfl (fun K hK => ?_) AllReadyH.nil
        go_simp
        refine (HC1 _ (HBV.out _ (Below.step HA1.out DR))).mono ?_
        rintro e w1 ⟨rfl, B⟩
        refine hK.out _ _ (HF.out _ (Below.step DR B)) (fun hHeld => ?_)
        clear hK K
        refine tk 4 38 ?v5 ?h5 hHeld ?_; case h5 => (intro w s; (try dsimp only at s); go_simp <;> with_reducible rfl)
        conv => arg 8; simp only [Act.put, sA, s0, sS]
        refine tk 5 39 ?v6 ?h6 hHeld ?_; case h6 => (intro w s; (try dsimp only at s); go_simp <;> with_reducible rfl)
        conv => arg 8; simp only [Act.put, sA, s0, sS]
        refine wpAnyH_skips (by kernel_rfl) (fun _ _ _ _ _ h => h) hHeld [6, 7, 8, 9, 10, 11, 12, 13, 14, 15, 16, 17, 18, 19] [40, 41, 42, 43, 44, 45, 46, 47, 48, 49, 50, 51, 52, 53] _ _ _ (by kernel_rfl) ?_
        simp only [List.foldl_cons, List.foldl_nil, Act.put, sA, s0, sS]
        refine tk 20 54 ?v8 ?h8 hHeld ?_; case h8 => (intro w s; (try dsimp only at s); go_simp <;> with_reducible rfl)
        conv => arg 8; simp only [Act.put, sA, s0, sS]
        refine wpAnyH_done (by kernel_rfl) ?_ _
        clear HC1 HCF HF HBV HKg HKb HA1
        repeat clear hHeld
        go_wp2
        go_ret
        exact ⟨ret_b (by rw [HS.out]; exact rangeAll_no k hlt HE.out), Below.step (Below.step HB1.out DR) B⟩
      | true =>
        by_cases hkz : (0 : Int) < (k : Int)
        rotate_left
        · have HAH : Hid (aheadB x.boxes m k = true) := by have : k = 0 := by omega
                                                           subst this; rfl
          rw [HAH.out, Bool.true_and, Bool.true_and] at HE
          clear HAH
          have hkN : ¬ 0 < k := by omega
          have hd : decide (0 < k) = false := by simpa using hkN
          go_wp2
          refine wp_region_held_drew (S := fun w' => w'.cell? ⟨wr.heap.size, 0, none⟩ = some (.slice ua un uc) ∧ w'.cell? ⟨wr.heap.size, 1, none⟩ = some (.int .i64 m.valid) ∧ w'.cell? ⟨wr.heap.size, 2, none⟩ = some (.int .i64 m.next) ∧ w'.cell? ⟨wr.heap.size, 3, none⟩ = some (.int .i64 m.seq) ∧ w'.cell? ⟨wr.heap.size, 4, none⟩ = some (.slice va m.mails.length vc) ∧ w'.cell? ⟨wr.heap.size, 5, none⟩ = some (.slice wa m.gones.length wc) ∧ w'.cell? ⟨wr.heap.size, 6, none⟩ = some (.int .i64 m.lost) ∧ w'.cell? ⟨w.heap.size, 0, none⟩ = some (.int .i64 x.valid)) (by kernel_rfl) (HF.out _ DR) (fun hHeld => (show wpAnyH _ _ _ _ _ 21 #[false, false, false, false, false, false, false, false, false, false, false, false, false, false, false, false, false, false, false, false, false] _ _ from ?_))
          refine tk 0 34 ?v9 ?h9 hHeld ?_; case h9 => (intro w s; (try dsimp only at s); go_simp <;> with_reducible rfl)
          conv => arg 8; simp only [Act.put, sA, s0, sS]
          refine tk 1 35 ?v10 ?h10 hHeld ?_; case h10 => (intro w s; (try dsimp only at s); go_simp <;> with_reducible rfl)
          conv => arg 8; simp only [Act.put, sA, s0, sS]
          refine tk 2 36 ?v11 ?h11 hHeld ?_; case h11 => (intro w s; (try dsimp only at s); go_simp <;> with_reducible rfl)
          conv => arg 8; simp only [Act.put, sA, s0, sS]
          refine wpAnyH_ready (rs := [3]) (by kernel_rfl) (by simp) ?_
          refine AllReadyH.cons rfl (fun K hK => ?_) AllReadyH.nil
          go_simp
          refine (HC1 _ (HBV.out _ (Below.step HA1.out DR))).mono ?_
          rintro e w1 ⟨rfl, B⟩
          refine hK.out _ _ (HF.out _ (Below.step DR B)) (fun hHeld => ?_)
          clear hK K
          refine tk 4 38 ?v13 ?h13 hHeld ?_; case h13 => (intro w s; (try dsimp only at s); go_simp <;> with_reducible rfl)
          conv => arg 8; simp only [Act.put, sA, s0, sS]
          refine tk 5 39 ?v14 ?h14 hHeld ?_; case h14 => (intro w s; (try dsimp only at s); go_simp <;> with_reducible rfl)
          conv => arg 8; simp only [Act.put, sA, s0, sS]
          refine tk 6 40 ?v15 ?h15 hHeld ?_; case h15 => (intro w s; (try dsimp only at s); go_simp <;> with_reducible rfl)
          conv => arg 8; simp only [Act.put, sA, s0, sS]
          refine tk 7 41 ?v16 ?h16 hHeld ?_; case h16 => (intro w s; (try dsimp only at s); go_simp <;> with_reducible rfl)
          conv => arg 8; simp only [Act.put, sA, s0, sS]
          refine tk 8 42 ?v17 ?h17 hHeld ?_; case h17 => (intro w s; (try dsimp only at s); go_simp <;> with_reducible rfl)
          conv => arg 8; simp only [Act.put, sA, s0, sS]
          refine wpAnyH_skips (by kernel_rfl) (fun _ _ _ _ _ h => h) hHeld [9, 10, 11, 12, 13, 14, 15, 16, 17, 18] [43, 44, 45, 46, 47, 48, 49, 50, 51, 52] _ _ _ (by kernel_rfl) ?_
          simp only [List.foldl_cons, List.foldl_nil, Act.put, sA, s0, sS]
          refine tk 19 53 ?v19 ?h19 hHeld ?_; case h19 => (intro w s; (try dsimp only at s); go_simp <;> with_reducible rfl)
          conv => arg 8; simp only [Act.put, sA, s0, sS]
          refine tk 20 54 ?v20 ?h20 hHeld ?_; case h20 => (intro w s; (try dsimp only at s); go_simp <;> with_reducible rfl)
          conv => arg 8; simp only [Act.put, sA, s0, sS]
          refine wpAnyH_done (by kernel_rfl) ?_ _
          repeat clear hHeld
          have c3' := HCF.out w1 (Below.step DR B)
          have HB2 : Hid (Below w.heap.size w w1) := Below.step (Below.step HB1.out DR) B
          have HKb2 : Hid (w1.heap[w.heap.size]? = some (.cells #[.int .i64 x.valid, .slice (some ⟨b, off, none⟩) x.boxes.length c0, .slice a1 x.seen.length c1] 36)) := box_below B (box_below DR HKb.out)
          clear B DR HB1 HKb HA1 HC1 HF HCF
          cases X3 with
          | true =>
            go_wp2_with fail
            refine c3'.mono ?_
            rintro e w3 ⟨rfl, B⟩
            go_wp2
            go_ret
            exact ⟨ret_b (by rw [HS.out]; exact rangeAll_no k hlt HE.out), Below.step HB2.out B⟩
          | false =>
            go_wp2_with fail
            refine c3'.mono ?_
            rintro e w3 ⟨rfl, B⟩
            have HB3 : Hid (Below w.heap.size w w3) := Below.step HB2.out B
            have HKb3 : Hid (w3.heap[w.heap.size]? = some (.cells #[.int .i64 x.valid, .slice (some ⟨b, off, none⟩) x.boxes.length c0, .slice a1 x.seen.length c1] 36)) := box_below B HKb2.out
            clear B HB2 HKb2
            go_wp2
            go_roundw
            case rel =>
              refine ⟨k + 1, by omega, by go_num, (show Hid _ from fun i hi => ?_), HKb3, HB3⟩
              by_cases e : i = k
              · subst e; exact HE.out
              · exact hA.out i (by omega)
            case measure => simp [intOf]; omega
        · obtain ⟨j, hj⟩ : ∃ j, k = j + 1 := ⟨k - 1, by omega⟩
          have hjk : (j : Int) < (k : Int) := by omega
          have hkN : 0 < k := by omega
          have hd : decide (0 < k) = true := by simpa using hkN
          have hj0 : (0 : Int) ≤ (j : Int) := by omega
          have hw1 : IntKind.i64.wrap ((k : Int) - 1) = (j : Int) := by rw [IntWalk.i64_in _ (by omega)]; omega
          have HJ : Hid (k = j + 1) := hj
          clear hj
          obtain ⟨m', hm'⟩ : ∃ m', x.boxes[j]? = some m' := ⟨x.boxes[j]'(by have := HJ.out; omega), List.getElem?_eq_getElem (by have := HJ.out; omega)⟩
          obtain ⟨b2, off2, cap2, p0, q1, q2, hv2, hlb2, t0, -, -, -, -, -, -, hp0, -⟩ := BoxesV.cell (H0.out wr hB.out).1 j m' hm'
          simp only [Value.slice.injEq, true_and, Option.some.injEq, Addr.mk.injEq, and_true] at hv2
          obtain ⟨⟨rfl, rfl⟩, rfl⟩ := hv2
          obtain ⟨pa, pn, pc, rfl⟩ := hp0.form3
          have HAH : Hid (aheadB x.boxes m k = lessB m'.name m.name) := by rw [HJ.out]; simp [Hid, aheadB, nameAt, hm']
          rw [HAH.out] at HE
          have HCM : Hid (∀ wi, Below wr.heap.size wr wi → Calls Try.prog 48 #[.slice pa pn pc, .slice ua un uc] wi fun e w' => e = .returned (.int .i64 (Lib.compareBytes (bts m'.name) (bts m.name))) ∧ w' = wi) := fun wi h => compare_any _ _ m'.name m.name wi (hp0.below h) (hu0.below h)
          have HLC : Hid (lessB m'.name m.name = !decide (0 ≤ Lib.compareBytes (bts m'.name) (bts m.name))) := by simp only [Hid]; rw [less_cmp]; simp [lessB]
          generalize Lib.compareBytes (bts m'.name) (bts m.name) = cv at HCM HLC
          generalize lessB m'.name m.name = L at HE HLC
          have HF2 : Hid (∀ w', Below (wr.alloc (.cells #[.slice ua un uc, .int .i64 m.valid, .int .i64 m.next, .int .i64 m.seq, .slice va m.mails.length vc, .slice wa m.gones.length wc, .int .i64 m.lost] 66)).heap.size (wr.alloc (.cells #[.slice ua un uc, .int .i64 m.valid, .int .i64 m.next, .int .i64 m.seq, .slice va m.mails.length vc, .slice wa m.gones.length wc, .int .i64 m.lost] 66)) w' → (w'.cell? ⟨wr.heap.size, 0, none⟩ = some (.slice ua un uc) ∧ w'.cell? ⟨wr.heap.size, 1, none⟩ = some (.int .i64 m.valid) ∧ w'.cell? ⟨wr.heap.size, 2, none⟩ = some (.int .i64 m.next) ∧ w'.cell? ⟨wr.heap.size, 3, none⟩ = some (.int .i64 m.seq) ∧ w'.cell? ⟨wr.heap.size, 4, none⟩ = some (.slice va m.mails.length vc) ∧ w'.cell? ⟨wr.heap.size, 5, none⟩ = some (.slice wa m.gones.length wc) ∧ w'.cell? ⟨wr.heap.size, 6, none⟩ = some (.int .i64 m.lost) ∧ w'.cell? ⟨w.heap.size, 0, none⟩ = some (.int .i64 x.valid)) ∧ w'.cell? ⟨b, off + j * 7, none⟩ = some (.slice pa pn pc)) := by
            intro w' h
            exact ⟨HF.out w' h, ((Below.step HA1.out h).cell (p := ⟨b, off + j * 7, none⟩) hlb).trans t0⟩
          clear hm' HAH
          by_cases hcv : 0 ≤ cv
          · have HL : Hid (L = false) := by rw [Hid, HLC.out, decide_eq_true hcv]; rfl
            clear HLC
            go_wp2
            refine wp_region_held_drew (S := fun w' => (w'.cell? ⟨wr.heap.size, 0, none⟩ = some (.slice ua un uc) ∧ w'.cell? ⟨wr.heap.size, 1, none⟩ = some (.int .i64 m.valid) ∧ w'.cell? ⟨wr.heap.size, 2, none⟩ = some (.int .i64 m.next) ∧ w'.cell? ⟨wr.heap.size, 3, none⟩ = some (.int .i64 m.seq) ∧ w'.cell? ⟨wr.heap.size, 4, none⟩ = some (.slice va m.mails.length vc) ∧ w'.cell? ⟨wr.heap.size, 5, none⟩ = some (.slice wa m.gones.length wc) ∧ w'.cell? ⟨wr.heap.size, 6, none⟩ = some (.int .i64 m.lost) ∧ w'.cell? ⟨w.heap.size, 0, none⟩ = some (.int .i64 x.valid)) ∧ w'.cell? ⟨b, off + j * 7, none⟩ = some (.slice pa pn pc)) (by kernel_rfl) (HF2.out _ DR) (fun hHeld => (show wpAnyH _ _ _ _ _ 21 #[false, false, false, false, false, false, false, false, false, false, false, false, false, false, false, false, false, false, false, false, false] _ _ from ?_))
            refine tk 0 34 ?v21 ?h21 hHeld ?_; case h21 => (intro w s; (try dsimp only at s); go_simp <;> with_reducible rfl)
            conv => arg 8; simp only [Act.put, sA, s0, sS]
            refine tk 1 35 ?v22 ?h22 hHeld ?_; case h22 => (intro w s; (try dsimp only at s); go_simp <;> with_reducible rfl)
            conv => arg 8; simp only [Act.put, sA, s0, sS]
            refine tk 2 36 ?v23 ?h23 hHeld ?_; case h23 => (intro w s; (try dsimp only at s); go_simp <;> with_reducible rfl)
            conv => arg 8; simp only [Act.put, sA, s0, sS]
            refine wpAnyH_ready (rs := [3]) (by kernel_rfl) (by simp) ?_
            refine AllReadyH.cons rfl (fun K hK => ?_) AllReadyH.nil
            go_simp
            refine (HC1 _ (HBV.out _ (Below.step HA1.out DR))).mono ?_
            rintro e w1 ⟨rfl, B⟩
            refine hK.out _ _ (HF2.out _ (Below.step DR B)) (fun hHeld => ?_)
            clear hK K
            refine tk 4 38 ?v25 ?h25 hHeld ?_; case h25 => (intro w s; (try dsimp only at s); go_simp <;> with_reducible rfl)
            conv => arg 8; simp only [Act.put, sA, s0, sS]
            refine tk 5 39 ?v26 ?h26 hHeld ?_; case h26 => (intro w s; (try dsimp only at s); go_simp <;> with_reducible rfl)
            conv => arg 8; simp only [Act.put, sA, s0, sS]
            refine tk 6 40 ?v27 ?h27 hHeld ?_; case h27 => (intro w s; (try dsimp only at s); go_simp <;> with_reducible rfl)
            conv => arg 8; simp only [Act.put, sA, s0, sS]
            refine tk 7 41 ?v28 ?h28 hHeld ?_; case h28 => (intro w s; (try dsimp only at s); go_simp <;> with_reducible rfl)
            conv => arg 8; simp only [Act.put, sA, s0, sS]
            refine tk 8 42 ?v29 ?h29 hHeld ?_; case h29 => (intro w s; (try dsimp only at s); go_simp <;> with_reducible rfl)
            conv => arg 8; simp only [Act.put, sA, s0, sS]
            refine tk 9 43 ?v30 ?h30 hHeld ?_; case h30 => (intro w s; (try dsimp only at s); go_simp <;> with_reducible rfl)
            conv => arg 8; simp only [Act.put, sA, s0, sS]
            refine tk 10 44 ?v31 ?h31 hHeld ?_; case h31 => (intro w s; (try dsimp only at s); go_simp <;> with_reducible rfl)
            conv => arg 8; simp only [Act.put, sA, s0, sS]
            refine tk 11 45 ?v32 ?h32 hHeld ?_; case h32 => (intro w s; (try dsimp only at s); go_simp <;> with_reducible rfl)
            conv => arg 8; simp only [Act.put, sA, s0, sS]
            refine tk 12 46 ?v33 ?h33 hHeld ?_; case h33 => (intro w s; (try dsimp only at s); go_simp <;> with_reducible rfl)
            conv => arg 8; simp only [Act.put, sA, s0, sS]
            refine tk 13 47 ?v34 ?h34 hHeld ?_; case h34 => (intro w s; (try dsimp only at s); go_simp <;> with_reducible rfl)
            conv => arg 8; simp only [Act.put, sA, s0, sS]
            refine tk 14 48 ?v35 ?h35 hHeld ?_; case h35 => (intro w s; (try dsimp only at s); go_simp <;> with_reducible rfl)
            conv => arg 8; simp only [Act.put, sA, s0, sS]
            refine tk 15 49 ?v36 ?h36 hHeld ?_; case h36 => (intro w s; (try dsimp only at s); go_simp <;> with_reducible rfl)
            conv => arg 8; simp only [Act.put, sA, s0, sS]
            refine tk 16 50 ?v37 ?h37 hHeld ?_; case h37 => (intro w s; (try dsimp only at s); go_simp <;> with_reducible rfl)
            conv => arg 8; simp only [Act.put, sA, s0, sS]
            refine wpAnyH_ready (rs := [17]) (by kernel_rfl) (by simp) ?_
            refine AllReadyH.cons rfl (fun K hK => ?_) AllReadyH.nil
            go_simp
            refine (HCM.out _ (Below.step (Below.step HA1.out DR) B)).mono ?_
            rintro e w2 ⟨rfl, rfl⟩
            refine hK.out _ _ (HF2.out _ (Below.step DR B)) (fun hHeld => ?_)
            clear hK K
            refine tk 18 52 ?v39 ?h39 hHeld ?_; case h39 => (intro w s; (try dsimp only at s); go_simp <;> with_reducible rfl)
            conv => arg 8; simp only [Act.put, sA, s0, sS]
            refine tk 19 53 ?v40 ?h40 hHeld ?_; case h40 => (intro w s; (try dsimp only at s); go_simp <;> with_reducible rfl)
            conv => arg 8; simp only [Act.put, sA, s0, sS]
            refine tk 20 54 ?v41 ?h41 hHeld ?_; case h41 => (intro w s; (try dsimp only at s); go_simp <;> with_reducible rfl)
            conv => arg 8; simp only [Act.put, sA, s0, sS]
            refine wpAnyH_done (by kernel_rfl) ?_ _
            clear HC1 HCF HF HBV HKg HKb HA1 HF2 HCM
            repeat clear hHeld
            go_wp2
            go_ret
            exact ⟨ret_b (by rw [HS.out]; exact rangeAll_no k hlt (by rw [HE.out, HL.out]; rfl)), Below.step (Below.step HB1.out DR) B⟩
          · have HL : Hid (L = true) := by rw [Hid, HLC.out, decide_eq_false hcv]; rfl
            rw [HL.out, Bool.true_and, Bool.true_and] at HE
            clear HLC
            go_wp2
            refine wp_region_held_drew (S := fun w' => (w'.cell? ⟨wr.heap.size, 0, none⟩ = some (.slice ua un uc) ∧ w'.cell? ⟨wr.heap.size, 1, none⟩ = some (.int .i64 m.valid) ∧ w'.cell? ⟨wr.heap.size, 2, none⟩ = some (.int .i64 m.next) ∧ w'.cell? ⟨wr.heap.size, 3, none⟩ = some (.int .i64 m.seq) ∧ w'.cell? ⟨wr.heap.size, 4, none⟩ = some (.slice va m.mails.length vc) ∧ w'.cell? ⟨wr.heap.size, 5, none⟩ = some (.slice wa m.gones.length wc) ∧ w'.cell? ⟨wr.heap.size, 6, none⟩ = some (.int .i64 m.lost) ∧ w'.cell? ⟨w.heap.size, 0, none⟩ = some (.int .i64 x.valid)) ∧ w'.cell? ⟨b, off + j * 7, none⟩ = some (.slice pa pn pc)) (by kernel_rfl) (HF2.out _ DR) (fun hHeld => (show wpAnyH _ _ _ _ _ 21 #[false, false, false, false, false, false, false, false, false, false, false, false, false, false, false, false, false, false, false, false, false] _ _ from ?_))
            refine tk 0 34 ?v42 ?h42 hHeld ?_; case h42 => (intro w s; (try dsimp only at s); go_simp <;> with_reducible rfl)
            conv => arg 8; simp only [Act.put, sA, s0, sS]
            refine tk 1 35 ?v43 ?h43 hHeld ?_; case h43 => (intro w s; (try dsimp only at s); go_simp <;> with_reducible rfl)
            conv => arg 8; simp only [Act.put, sA, s0, sS]
            refine tk 2 36 ?v44 ?h44 hHeld ?_; case h44 => (intro w s; (try dsimp only at s); go_simp <;> with_reducible rfl)
            conv => arg 8; simp only [Act.put, sA, s0, sS]
            refine wpAnyH_ready (rs := [3]) (by kernel_rfl) (by simp) ?_
            refine AllReadyH.cons rfl (fun K hK => ?_) AllReadyH.nil
            go_simp
            refine (HC1 _ (HBV.out _ (Below.step HA1.out DR))).mono ?_
            rintro e w1 ⟨rfl, B⟩
            refine hK.out _ _ (HF2.out _ (Below.step DR B)) (fun hHeld => ?_)
            clear hK K
            refine tk 4 38 ?v46 ?h46 hHeld ?_; case h46 => (intro w s; (try dsimp only at s); go_simp <;> with_reducible rfl)
            conv => arg 8; simp only [Act.put, sA, s0, sS]
            refine tk 5 39 ?v47 ?h47 hHeld ?_; case h47 => (intro w s; (try dsimp only at s); go_simp <;> with_reducible rfl)
            conv => arg 8; simp only [Act.put, sA, s0, sS]
            refine tk 6 40 ?v48 ?h48 hHeld ?_; case h48 => (intro w s; (try dsimp only at s); go_simp <;> with_reducible rfl)
            conv => arg 8; simp only [Act.put, sA, s0, sS]
            refine tk 7 41 ?v49 ?h49 hHeld ?_; case h49 => (intro w s; (try dsimp only at s); go_simp <;> with_reducible rfl)
            conv => arg 8; simp only [Act.put, sA, s0, sS]
            refine tk 8 42 ?v50 ?h50 hHeld ?_; case h50 => (intro w s; (try dsimp only at s); go_simp <;> with_reducible rfl)
            conv => arg 8; simp only [Act.put, sA, s0, sS]
            refine tk 9 43 ?v51 ?h51 hHeld ?_; case h51 => (intro w s; (try dsimp only at s); go_simp <;> with_reducible rfl)
            conv => arg 8; simp only [Act.put, sA, s0, sS]
            refine tk 10 44 ?v52 ?h52 hHeld ?_; case h52 => (intro w s; (try dsimp only at s); go_simp <;> with_reducible rfl)
            conv => arg 8; simp only [Act.put, sA, s0, sS]
            refine tk 11 45 ?v53 ?h53 hHeld ?_; case h53 => (intro w s; (try dsimp only at s); go_simp <;> with_reducible rfl)
            conv => arg 8; simp only [Act.put, sA, s0, sS]
            refine tk 12 46 ?v54 ?h54 hHeld ?_; case h54 => (intro w s; (try dsimp only at s); go_simp <;> with_reducible rfl)
            conv => arg 8; simp only [Act.put, sA, s0, sS]
            refine tk 13 47 ?v55 ?h55 hHeld ?_; case h55 => (intro w s; (try dsimp only at s); go_simp <;> with_reducible rfl)
            conv => arg 8; simp only [Act.put, sA, s0, sS]
            refine tk 14 48 ?v56 ?h56 hHeld ?_; case h56 => (intro w s; (try dsimp only at s); go_simp <;> with_reducible rfl)
            conv => arg 8; simp only [Act.put, sA, s0, sS]
            refine tk 15 49 ?v57 ?h57 hHeld ?_; case h57 => (intro w s; (try dsimp only at s); go_simp <;> with_reducible rfl)
            conv => arg 8; simp only [Act.put, sA, s0, sS]
            refine tk 16 50 ?v58 ?h58 hHeld ?_; case h58 => (intro w s; (try dsimp only at s); go_simp <;> with_reducible rfl)
            conv => arg 8; simp only [Act.put, sA, s0, sS]
            refine wpAnyH_ready (rs := [17]) (by kernel_rfl) (by simp) ?_
            refine AllReadyH.cons rfl (fun K hK => ?_) AllReadyH.nil
            go_simp
            refine (HCM.out _ (Below.step (Below.step HA1.out DR) B)).mono ?_
            rintro e w2 ⟨rfl, rfl⟩
            refine hK.out _ _ (HF2.out _ (Below.step DR B)) (fun hHeld => ?_)
            clear hK K
            refine tk 18 52 ?v60 ?h60 hHeld ?_; case h60 => (intro w s; (try dsimp only at s); go_simp <;> with_reducible rfl)
            conv => arg 8; simp only [Act.put, sA, s0, sS]
            refine tk 19 53 ?v61 ?h61 hHeld ?_; case h61 => (intro w s; (try dsimp only at s); go_simp <;> with_reducible rfl)
            conv => arg 8; simp only [Act.put, sA, s0, sS]
            refine tk 20 54 ?v62 ?h62 hHeld ?_; case h62 => (intro w s; (try dsimp only at s); go_simp <;> with_reducible rfl)
            conv => arg 8; simp only [Act.put, sA, s0, sS]
            refine wpAnyH_done (by kernel_rfl) ?_ _
            repeat clear hHeld
            clear HF2 HCM
            have c3' := HCF.out w2 (Below.step DR B)
            have HB2 : Hid (Below w.heap.size w w2) := Below.step (Below.step HB1.out DR) B
            have HKb2 : Hid (w2.heap[w.heap.size]? = some (.cells #[.int .i64 x.valid, .slice (some ⟨b, off, none⟩) x.boxes.length c0, .slice a1 x.seen.length c1] 36)) := box_below B (box_below DR HKb.out)
            clear B DR HB1 HKb HA1 HC1 HF HCF
            cases X3 with
            | true =>
              go_wp2_with fail
              refine c3'.mono ?_
              rintro e w3 ⟨rfl, B⟩
              go_wp2
              go_ret
              exact ⟨ret_b (by rw [HS.out]; exact rangeAll_no k hlt HE.out), Below.step HB2.out B⟩
            | false =>
              go_wp2_with fail
              refine c3'.mono ?_
              rintro e w3 ⟨rfl, B⟩
              have HB3 : Hid (Below w.heap.size w w3) := Below.step HB2.out B
              have HKb3 : Hid (w3.heap[w.heap.size]? = some (.cells #[.int .i64 x.valid, .slice (some ⟨b, off, none⟩) x.boxes.length c0, .slice a1 x.seen.length c1] 36)) := box_below B HKb2.out
              clear B HB2 HKb2
              go_wp2
              go_roundw
              case rel =>
                refine ⟨k + 1, by omega, by go_num, (show Hid _ from fun i hi => ?_), HKb3, HB3⟩
                by_cases e : i = k
                · subst e; exact HE.out
                · exact hA.out i (by omega)
              case measure => simp [intOf]; omega
    · obtain rfl : k = x.boxes.length := by omega
      go_wp2
      go_ret
      exact ⟨ret_b (by rw [HS.out]; exact rangeAll_yes hA.out), hB.out⟩

end Go.Proofs.Ytkdejfcdmjkndaa
