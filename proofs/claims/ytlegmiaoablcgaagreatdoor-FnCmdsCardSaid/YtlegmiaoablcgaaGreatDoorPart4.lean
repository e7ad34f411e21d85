/- The proof's texts, part 4. -/
import Derived.Test.YtlegmiaoablcgaaGreatDoorPart2
import Derived.Test.YtlegmiaoablcgaaGreatDoorPart3

/- What isLetterOrDigit and pieceAt of package impl do. -/
namespace Go.Proofs.YtlegmiaoablcgaaGreatDoor
open Go.RowKit
set_option maxRecDepth 100000
set_option linter.unusedVariables false
set_option linter.unusedSimpArgs false

set_option maxHeartbeats 1000000 in
theorem isLetterOrDigit_any (x : Int) (hx : 0 ≤ x ∧ x ≤ 255) (w : World) :
    Calls Tryz.prog 80 #[.int .u8 x] w fun e w' => e = .returned (.bool (ldB x)) ∧ w' = w := by
  rcases ld_cases x with ⟨hld, c⟩ | ⟨hld, c⟩
  · have HK : Hid (ldB x = true) := hld
    clear hld
    rcases c with ⟨c1, c2⟩ | ⟨c1, c2⟩ | ⟨c1, c2⟩
    all_goals
      go_enter Tryz.func80, Tryz.ntmps80
      go_wp2
      go_ret
      exact ⟨ret_b HK.out, rfl⟩
  · have HK : Hid (ldB x = false) := hld
    clear hld
    rcases c with c | ⟨c1, c2⟩ | ⟨c1, c2⟩ | c
    all_goals
      go_enter Tryz.func80, Tryz.ntmps80
      go_wp2
      go_ret
      exact ⟨ret_b (HK.out.trans (by first | rfl | (symm; simp; omega))), rfl⟩

/-- What tokenAt answers: the token and the place behind it, or -1. -/
def OneI (w0 w : World) (l : List Int) (r : Option (TokD × List Int)) (e : Ending) (w' : World) : Prop := Below w.heap.size w w' ∧ match r with
  | none => ∃ (d0 d1 d2 : Int) (a : Option Addr) (n c : Nat), e = .returned (.tuple #[.agg #[.int .i64 d0, .int .i64 d1, .int .i64 d2, .slice a n c], .int .i64 (-1)])
  | some p => ∃ (a : Option Addr) (n c : Nat), e = .returned (.tuple #[.agg #[.int .i64 (sortM p.1.k), .int .i64 p.1.p, .int .i64 p.1.n, .slice a n c], .int .i64 ((l.length - p.2.length : Nat) : Int)]) ∧ TX w0 w' (In w.heap.size w'.heap.size) (.slice a n c) p.1
theorem tw_mem {p : Int → Bool} {l : List Int} {x : Int} (h : x ∈ l.takeWhile p) : p x = true := by
  induction l with
  | nil => simp at h
  | cons y l ih =>
    by_cases hy : p y = true
    · simp only [List.takeWhile_cons, hy, if_true] at h
      rcases List.mem_cons.1 h with rfl | h
      · exact hy
      · exact ih h
    · simp [hy] at h

set_option maxRecDepth 100000 in
set_option maxHeartbeats 4000000 in
theorem pieceAt_r (v : Value) (l : List Int) (i : Nat) (w0 w : World) (hv : Bs w0 v l) (hw : Below w0.heap.size w0 w) (hil : i < l.length) (hl : l.length ≤ 2000) (h40 : l.getD i 0 ≠ 40) (h34 : l.getD i 0 ≠ 34) (ht : Tab10 w0) (he : Errs w0) :
    Calls Tryz.prog 77 #[v, .int .i64 i] w (OneI w0 w l (oneM i (l.drop i))) := by
  obtain ⟨res, hres⟩ : ∃ res, res = oneM i (l.drop i) := ⟨_, rfl⟩
  have HRES : Hid (res = oneM i (l.drop i)) := hres
  rw [← hres]
  clear hres
  have HV : Hid (∀ w', Below w0.heap.size w0 w' → Bs w' v l) := fun w' h => hv.below h
  have HT : Hid (Tab10 w0 ∧ Errs w0) := ⟨ht, he⟩
  obtain ⟨ho, a, cap, rfl, hlc, hcm, hnil, hcells⟩ := hv
  unfold maxLen at hcm
  obtain ⟨b, off, rfl, hlb, hcs⟩ := hcells (by omega)
  have HO : Hid (Oct l) := ho
  have h00 : w0.heap.size ≤ w.heap.size := hw.size
  have HX : Hid (Below w0.heap.size w0 (w.alloc (.cells #[.int .i64 0, .int .i64 0, .int .i64 0, .slice none 0 0] 72))) := hw.alloc h00 _
  have HY : Hid (Below w.heap.size w (w.alloc (.cells #[.int .i64 0, .int .i64 0, .int .i64 0, .slice none 0 0] 72))) := (Below.refl _ _).alloc (Nat.le_refl _) _
  have HK : Hid ((w.alloc (.cells #[.int .i64 0, .int .i64 0, .int .i64 0, .slice none 0 0] 72)).heap[w.heap.size]? = some (.cells #[.int .i64 0, .int .i64 0, .int .i64 0, .slice none 0 0] 72 (0, 0))) := box_new _ _
  have hsW : (w.alloc (.cells #[.int .i64 0, .int .i64 0, .int .i64 0, .slice none 0 0] 72)).heap.size = w.heap.size + 1 := by simp
  have HXI : Hid (l.drop i = l.getD i 0 :: l.drop (i + 1)) := drop_cons hil
  have HNE : Hid (l.getD i 0 ≠ 40 ∧ l.getD i 0 ≠ 34) := ⟨h40, h34⟩
  clear h40 h34
  go_enter Tryz.func77, Tryz.ntmps77
  go_upto_region 1 with fail
  generalize (w.alloc (.cells #[.int .i64 0, .int .i64 0, .int .i64 0, .slice none 0 0] 72)) = W at HX HY HK hsW ⊢
  have hsW2 : w.heap.size + 1 ≤ W.heap.size := by omega
  have hlbW : b < W.heap.size := by omega
  clear hsW
  have HCC : Hid (∀ k, k < l.length → W.cell? ⟨b, off + k, none⟩ = some (.int .u8 (l.getD k 0))) := fun k hk => (HX.out.cell (p := ⟨b, off + k, none⟩) hlb).trans (hcs k hk)
  clear hcells hcs
  go_wp2
  go_loop [6] (fun iv => ∃ k : Nat, i ≤ k ∧ k ≤ l.length ∧ iv = .int .i64 k ∧ Hid (∀ j, i ≤ j → j < k → ldB (l.getD j 0) = true)) (fun iv => l.length - (intOf iv).toNat)
  case atStart => exact ⟨i, Nat.le_refl _, by omega, rfl, fun j h1 h2 => by omega⟩
  case round =>
    obtain ⟨k, hik, hk, rfl, hA⟩ := hrel
    by_cases hgo : k < l.length ∧ ldB (l.getD k 0) = true
    · obtain ⟨hlt, hld⟩ := hgo
      have hx := HCC.out k hlt
      have hbx := oct_get ho k
      have HST : Hid (∀ j, i ≤ j → j < k + 1 → ldB (l.getD j 0) = true) := fun j h1 h2 => by
        by_cases e : j = k
        · subst e; exact hld
        · exact hA.out j h1 (by omega)
      have hki : (k : Int) < (l.length : Int) := by omega
      generalize l.getD k 0 = x at hx hbx hld
      go_wp2_with fail
      refine (isLetterOrDigit_any x hbx W).mono ?_
      rintro e W ⟨rfl, rfl⟩
      rw [hld]
      go_wp2
      go_round
      case rel => exact ⟨k + 1, by omega, by omega, by go_num, HST⟩
      case measure => simp [intOf]; omega
    · obtain ⟨wd, hwd⟩ : ∃ wd, wd = (l.drop i).takeWhile ldB := ⟨_, rfl⟩
      have HWD : Hid (wd = (l.drop i).takeWhile ldB) := hwd
      have HNN : Hid (wd.length = k - i) := by
        show _ = _
        rw [hwd]
        exact tw_len hik hk hA.out (fun h => by cases h' : ldB (l.getD k 0) with | false => rfl | true => exact absurd ⟨h, h'⟩ hgo)
      have HTK : Hid ((l.drop i).take (k - i) = wd) := by
        show _ = _
        rw [← HNN.out, hwd]
        exact take_tw _ _
      have HDL : Hid (l.length - ((l.drop i).dropWhile ldB).length = k) := by
        show _ = _
        have h1 : ((l.drop i).takeWhile ldB).length + ((l.drop i).dropWhile ldB).length = (l.drop i).length := by rw [← List.length_append, List.takeWhile_append_dropWhile]
        have h2 := HNN.out
        rw [hwd] at h2
        rw [h2, List.length_drop] at h1
        omega
      have HBW : Hid (∀ w', Below w0.heap.size w0 w' → Bs w' (.slice (some ⟨b, off + i, none⟩) (k - i) (cap - i)) wd) := fun w' h => by rw [← HTK.out]; exact bs_cut (HV.out w' h) i (k - i) (by omega)
      have HN45 : Hid (∀ x ∈ wd, x ≠ 45) := fun x hx h => by
        have := tw_mem (hwd ▸ hx)
        subst h
        simp [ldB] at this
      have HLEN : Hid (wd.length ≤ 2000) := by have := HNN.out; show _ ≤ _; omega
      have hci : ¬ cap = i := by omega
      have hki : (i : Int) ≤ (k : Int) := by omega
      have HONE : Hid (oneM i (l.drop i) = match numM wd with
          | some n => some (⟨3, i, n, []⟩, (l.drop i).dropWhile ldB)
          | none => if nameB wd then some (⟨2, i, 0, wd⟩, (l.drop i).dropWhile ldB) else if greatB wd then some (⟨1, i, 0, wd⟩, (l.drop i).dropWhile ldB) else none) := by
        show _ = _
        rw [HXI.out]
        simp only [oneM]
        rw [if_neg HNE.out.1, if_neg HNE.out.2, ← HXI.out, ← hwd]
        rfl
      clear hwd
      have hway : (k < l.length ∧ ldB (l.getD k 0) = false) ∨ k = l.length := by
        by_cases h : k < l.length
        · exact .inl ⟨h, by cases h' : ldB (l.getD k 0) with | false => rfl | true => exact absurd ⟨h, h'⟩ hgo⟩
        · exact .inr (by omega)
      clear hgo
      rcases hway with ⟨hlt, hld⟩ | hkl
      · have hx := HCC.out k hlt
        have hbx := oct_get ho k
        have hki2 : (k : Int) < (l.length : Int) := by omega
        generalize l.getD k 0 = x at hx hbx hld
        go_wp2_with fail
        refine (isLetterOrDigit_any x hbx W).mono ?_
        rintro e W ⟨rfl, rfl⟩
        rw [hld]
        go_wp2_with fail
        refine (decimal_r _ wd W (HBW.out W HX.out) HLEN.out HN45.out (Lib.tabBelow_of_tabIs HT.out.1 _ HX.out) (HT.out.2.below HX.out)).mono ?_
        rintro e w2 ⟨rfl, B2⟩
        have HX2 : Hid (Below w0.heap.size w0 w2) := HX.out.trans (B2.mono HX.out.size)
        have HY2 : Hid (Below w.heap.size w w2) := Below.step HY.out B2
        have HK2 : Hid (w2.heap[w.heap.size]? = _) := box_below B2 HK.out
        clear B2 HX HY HK HCC
        cases hm : numM wd with
        | some m =>
          have HRE : Hid (res = some (⟨3, i, m, []⟩, (l.drop i).dropWhile ldB)) := by show _ = _; rw [HRES.out, HONE.out, hm]
          have hnn : numN wd = m := by rw [numN, hm]
          rw [hnn]
          clear hm hnn
          have HB3 : Hid (Below w.heap.size w w2) := HY2.out
          have HK3 : Hid (w2.heap[w.heap.size]? = _) := HK2.out
          obtain ⟨c0, c1, c2, c3, cz, cl⟩ := tab4 HK2.out
          have HF : Hid _ := tok_fin (w := w) HK3.out (Nat.le_refl _) HB3.out (.int .i64 0) (.int .i64 i) (.int .i64 (m : Int)) (.slice none 0 0)
          go_wp2
          obtain ⟨f0, f1, f2, f3⟩ := tx4 HF.out.1
          refine bodyPost_ret (v := .tuple #[.agg #[.int .i64 0, .int .i64 i, .int .i64 (m : Int), .slice none 0 0], .int .i64 (k : Int)]) (by simp [results, Tryz.results77, go_sem, f0, f1, f2, f3]) rfl ⟨HF.out.2.1, ?_⟩
          rw [HRE.out]
          exact ⟨_, _, _, by rw [HDL.out]; rfl, ⟨fun h => by simp at h, fun _ w' _ => bs_nil w'⟩⟩
        | none =>
          have hnn : numN wd = 0 := by rw [numN, hm]
          have HM : Hid (numM wd = none) := hm
          rw [hnn]
          clear hm hnn
          go_wp2_with fail
          refine (nameOk_any _ wd w2 (HBW.out w2 HX2.out)).mono ?_
          rintro e w3 ⟨rfl, B3⟩
          have HX3 : Hid (Below w0.heap.size w0 w3) := HX2.out.trans (B3.mono HX2.out.size)
          have HB3 : Hid (Below w.heap.size w w3) := Below.step HY2.out B3
          have HK3 : Hid (w3.heap[w.heap.size]? = _) := box_below B3 HK2.out
          clear B3 HX2 HY2 HK2
          cases hb : nameB wd with
          | true =>
            have HRE : Hid (res = some (⟨2, i, 0, wd⟩, (l.drop i).dropWhile ldB)) := by show _ = _; rw [HRES.out, HONE.out, HM.out, hb]; rfl
            clear hb
            obtain ⟨c0, c1, c2, c3, cz, cl⟩ := tab4 HK3.out
            have HF : Hid _ := tok_fin (w := w) HK3.out (Nat.le_refl _) HB3.out (.int .i64 1) (.int .i64 i) (.int .i64 0) (.slice (some ⟨b, off + i, none⟩) (k - i) (cap - i))
            go_wp2
            obtain ⟨f0, f1, f2, f3⟩ := tx4 HF.out.1
            refine bodyPost_ret (v := .tuple #[.agg #[.int .i64 1, .int .i64 i, .int .i64 0, .slice (some ⟨b, off + i, none⟩) (k - i) (cap - i)], .int .i64 (k : Int)]) (by simp [results, Tryz.results77, go_sem, f0, f1, f2, f3]) rfl ⟨HF.out.2.1, ?_⟩
            rw [HRE.out]
            exact ⟨_, _, _, by rw [HDL.out]; rfl, ⟨fun h => by simp at h, fun _ w' hw' => HBW.out w' hw'⟩⟩
          | false =>
            have HNB : Hid (nameB wd = false) := hb
            clear hb
            by_cases h0 : 0 < k - i
            · have HG : Hid (greatB wd = allIn 65 90 wd) := by show _ = _; rw [greatB, HNN.out, decide_eq_true h0, Bool.and_true]
              go_wp2_with fail
              refine (allWithin_any _ wd 65 90 w3 (HBW.out w3 HX3.out)).mono ?_
              rintro e w4 ⟨rfl, B4⟩
              have HB5 : Hid (Below w.heap.size w w4) := Below.step HB3.out B4
              have HK5 : Hid (w4.heap[w.heap.size]? = _) := box_below B4 HK3.out
              clear B4 HX3 HB3 HK3
              have HB3 : Hid (Below w.heap.size w w4) := HB5.out
              have HK3 : Hid (w4.heap[w.heap.size]? = _) := HK5.out
              obtain ⟨c0, c1, c2, c3, cz, cl⟩ := tab4 HK5.out
              cases hg : allIn 65 90 wd with
              | true =>
                have HRE : Hid (res = some (⟨1, i, 0, wd⟩, (l.drop i).dropWhile ldB)) := by show _ = _; rw [HRES.out, HONE.out, HM.out, HNB.out, HG.out, hg]; rfl
                clear hg
                have HF : Hid _ := tok_fin (w := w) HK3.out (Nat.le_refl _) HB3.out (.int .i64 2) (.int .i64 i) (.int .i64 0) (.slice (some ⟨b, off + i, none⟩) (k - i) (cap - i))
                go_wp2
                obtain ⟨f0, f1, f2, f3⟩ := tx4 HF.out.1
                refine bodyPost_ret (v := .tuple #[.agg #[.int .i64 2, .int .i64 i, .int .i64 0, .slice (some ⟨b, off + i, none⟩) (k - i) (cap - i)], .int .i64 (k : Int)]) (by simp [results, Tryz.results77, go_sem, f0, f1, f2, f3]) rfl ⟨HF.out.2.1, ?_⟩
                rw [HRE.out]
                exact ⟨_, _, _, by rw [HDL.out]; rfl, ⟨fun h => by simp at h, fun _ w' hw' => HBW.out w' hw'⟩⟩
              | false =>
                have HRE : Hid (res = none) := by show _ = _; rw [HRES.out, HONE.out, HM.out, HNB.out, HG.out, hg]; rfl
                clear hg
                have HF : Hid _ := tok_fin (w := w) HK3.out (Nat.le_refl _) HB3.out (.int .i64 0) (.int .i64 0) (.int .i64 0) (.slice none 0 0)
                go_wp2
                obtain ⟨f0, f1, f2, f3⟩ := tx4 HF.out.1
                refine bodyPost_ret (v := .tuple #[.agg #[.int .i64 0, .int .i64 0, .int .i64 0, .slice none 0 0], .int .i64 (-1)]) (by simp [results, Tryz.results77, go_sem, f0, f1, f2, f3]) rfl ⟨HF.out.2.1, ?_⟩
                rw [HRE.out]
                exact ⟨_, _, _, _, _, _, rfl⟩
            · have HRE : Hid (res = none) := by show _ = _; rw [HRES.out, HONE.out, HM.out, HNB.out, greatB, HNN.out, decide_eq_false h0, Bool.and_false]; rfl
              have h0e : k - i = 0 := by omega
              obtain ⟨c0, c1, c2, c3, cz, cl⟩ := tab4 HK3.out
              have HF : Hid _ := tok_fin (w := w) HK3.out (Nat.le_refl _) HB3.out (.int .i64 0) (.int .i64 0) (.int .i64 0) (.slice none 0 0)
              go_wp2
              obtain ⟨f0, f1, f2, f3⟩ := tx4 HF.out.1
              refine bodyPost_ret (v := .tuple #[.agg #[.int .i64 0, .int .i64 0, .int .i64 0, .slice none 0 0], .int .i64 (-1)]) (by simp [results, Tryz.results77, go_sem, f0, f1, f2, f3]) rfl ⟨HF.out.2.1, ?_⟩
              rw [HRE.out]
              exact ⟨_, _, _, _, _, _, rfl⟩
      · have hki2 : ¬ (k : Int) < (l.length : Int) := by omega
        have HKL : Hid (0 < k - i) := by show _ < _; omega
        clear hkl
        go_wp2_with fail
        refine (decimal_r _ wd W (HBW.out W HX.out) HLEN.out HN45.out (Lib.tabBelow_of_tabIs HT.out.1 _ HX.out) (HT.out.2.below HX.out)).mono ?_
        rintro e w2 ⟨rfl, B2⟩
        have HX2 : Hid (Below w0.heap.size w0 w2) := HX.out.trans (B2.mono HX.out.size)
        have HY2 : Hid (Below w.heap.size w w2) := Below.step HY.out B2
        have HK2 : Hid (w2.heap[w.heap.size]? = _) := box_below B2 HK.out
        clear B2 HX HY HK HCC
        cases hm : numM wd with
        | some m =>
          have HRE : Hid (res = some (⟨3, i, m, []⟩, (l.drop i).dropWhile ldB)) := by show _ = _; rw [HRES.out, HONE.out, hm]
          have hnn : numN wd = m := by rw [numN, hm]
          rw [hnn]
          clear hm hnn
          have HB3 : Hid (Below w.heap.size w w2) := HY2.out
          have HK3 : Hid (w2.heap[w.heap.size]? = _) := HK2.out
          obtain ⟨c0, c1, c2, c3, cz, cl⟩ := tab4 HK2.out
          have HF : Hid _ := tok_fin (w := w) HK3.out (Nat.le_refl _) HB3.out (.int .i64 0) (.int .i64 i) (.int .i64 (m : Int)) (.slice none 0 0)
          go_wp2
          obtain ⟨f0, f1, f2, f3⟩ := tx4 HF.out.1
          refine bodyPost_ret (v := .tuple #[.agg #[.int .i64 0, .int .i64 i, .int .i64 (m : Int), .slice none 0 0], .int .i64 (k : Int)]) (by simp [results, Tryz.results77, go_sem, f0, f1, f2, f3]) rfl ⟨HF.out.2.1, ?_⟩
          rw [HRE.out]
          exact ⟨_, _, _, by rw [HDL.out]; rfl, ⟨fun h => by simp at h, fun _ w' _ => bs_nil w'⟩⟩
        | none =>
          have hnn : numN wd = 0 := by rw [numN, hm]
          have HM : Hid (numM wd = none) := hm
          rw [hnn]
          clear hm hnn
          go_wp2_with fail
          refine (nameOk_any _ wd w2 (HBW.out w2 HX2.out)).mono ?_
          rintro e w3 ⟨rfl, B3⟩
          have HX3 : Hid (Below w0.heap.size w0 w3) := HX2.out.trans (B3.mono HX2.out.size)
          have HB3 : Hid (Below w.heap.size w w3) := Below.step HY2.out B3
          have HK3 : Hid (w3.heap[w.heap.size]? = _) := box_below B3 HK2.out
          clear B3 HX2 HY2 HK2
          cases hb : nameB wd with
          | true =>
            have HRE : Hid (res = some (⟨2, i, 0, wd⟩, (l.drop i).dropWhile ldB)) := by show _ = _; rw [HRES.out, HONE.out, HM.out, hb]; rfl
            clear hb
            obtain ⟨c0, c1, c2, c3, cz, cl⟩ := tab4 HK3.out
            have HF : Hid _ := tok_fin (w := w) HK3.out (Nat.le_refl _) HB3.out (.int .i64 1) (.int .i64 i) (.int .i64 0) (.slice (some ⟨b, off + i, none⟩) (k - i) (cap - i))
            go_wp2
            obtain ⟨f0, f1, f2, f3⟩ := tx4 HF.out.1
            refine bodyPost_ret (v := .tuple #[.agg #[.int .i64 1, .int .i64 i, .int .i64 0, .slice (some ⟨b, off + i, none⟩) (k - i) (cap - i)], .int .i64 (k : Int)]) (by simp [results, Tryz.results77, go_sem, f0, f1, f2, f3]) rfl ⟨HF.out.2.1, ?_⟩
            rw [HRE.out]
            exact ⟨_, _, _, by rw [HDL.out]; rfl, ⟨fun h => by simp at h, fun _ w' hw' => HBW.out w' hw'⟩⟩
          | false =>
            have HNB : Hid (nameB wd = false) := hb
            clear hb
            by_cases h0 : 0 < k - i
            · have HG : Hid (greatB wd = allIn 65 90 wd) := by show _ = _; rw [greatB, HNN.out, decide_eq_true h0, Bool.and_true]
              go_wp2_with fail
              refine (allWithin_any _ wd 65 90 w3 (HBW.out w3 HX3.out)).mono ?_
              rintro e w4 ⟨rfl, B4⟩
              have HB5 : Hid (Below w.heap.size w w4) := Below.step HB3.out B4
              have HK5 : Hid (w4.heap[w.heap.size]? = _) := box_below B4 HK3.out
              clear B4 HX3 HB3 HK3
              have HB3 : Hid (Below w.heap.size w w4) := HB5.out
              have HK3 : Hid (w4.heap[w.heap.size]? = _) := HK5.out
              obtain ⟨c0, c1, c2, c3, cz, cl⟩ := tab4 HK5.out
              cases hg : allIn 65 90 wd with
              | true =>
                have HRE : Hid (res = some (⟨1, i, 0, wd⟩, (l.drop i).dropWhile ldB)) := by show _ = _; rw [HRES.out, HONE.out, HM.out, HNB.out, HG.out, hg]; rfl
                clear hg
                have HF : Hid _ := tok_fin (w := w) HK3.out (Nat.le_refl _) HB3.out (.int .i64 2) (.int .i64 i) (.int .i64 0) (.slice (some ⟨b, off + i, none⟩) (k - i) (cap - i))
                go_wp2
                obtain ⟨f0, f1, f2, f3⟩ := tx4 HF.out.1
                refine bodyPost_ret (v := .tuple #[.agg #[.int .i64 2, .int .i64 i, .int .i64 0, .slice (some ⟨b, off + i, none⟩) (k - i) (cap - i)], .int .i64 (k : Int)]) (by simp [results, Tryz.results77, go_sem, f0, f1, f2, f3]) rfl ⟨HF.out.2.1, ?_⟩
                rw [HRE.out]
                exact ⟨_, _, _, by rw [HDL.out]; rfl, ⟨fun h => by simp at h, fun _ w' hw' => HBW.out w' hw'⟩⟩
              | false =>
                have HRE : Hid (res = none) := by show _ = _; rw [HRES.out, HONE.out, HM.out, HNB.out, HG.out, hg]; rfl
                clear hg
                have HF : Hid _ := tok_fin (w := w) HK3.out (Nat.le_refl _) HB3.out (.int .i64 0) (.int .i64 0) (.int .i64 0) (.slice none 0 0)
                go_wp2
                obtain ⟨f0, f1, f2, f3⟩ := tx4 HF.out.1
                refine bodyPost_ret (v := .tuple #[.agg #[.int .i64 0, .int .i64 0, .int .i64 0, .slice none 0 0], .int .i64 (-1)]) (by simp [results, Tryz.results77, go_sem, f0, f1, f2, f3]) rfl ⟨HF.out.2.1, ?_⟩
                rw [HRE.out]
                exact ⟨_, _, _, _, _, _, rfl⟩
            · exact absurd HKL.out h0

end Go.Proofs.YtlegmiaoablcgaaGreatDoor

/- What flagsAt of package impl does. -/
namespace Go.Proofs.YtlegmiaoablcgaaGreatDoor
open Go.RowKit
set_option maxRecDepth 100000
set_option linter.unusedVariables false
set_option linter.unusedSimpArgs false

set_option maxRecDepth 100000 in
set_option maxHeartbeats 4000000 in
theorem flagsAt_r (v : Value) (l : List Int) (i : Nat) (w0 w : World) (hv : Bs w0 v l) (hw : Below w0.heap.size w0 w) (hil : i < l.length) (hl : l.length ≤ 2000) (h40 : l.getD i 0 = 40) :
    Calls Tryz.prog 75 #[v, .int .i64 i] w (OneI w0 w l (oneM i (l.drop i))) := by
  obtain ⟨res, hres⟩ : ∃ res, res = oneM i (l.drop i) := ⟨_, rfl⟩
  have HRES : Hid (res = oneM i (l.drop i)) := hres
  rw [← hres]
  clear hres
  obtain ⟨ho, a, cap, rfl, hlc, hcm, hnil, hcells⟩ := hv
  unfold maxLen at hcm
  obtain ⟨b, off, rfl, hlb, hcs⟩ := hcells (by omega)
  have HO : Hid (Oct l) := ho
  have HCC : Hid (∀ k, k < l.length → w0.cell? ⟨b, off + k, none⟩ = some (.int .u8 (l.getD k 0))) := hcs
  have h00 : w0.heap.size ≤ w.heap.size := hw.size
  have HX : Hid (Below w0.heap.size w0 (w.alloc (.cells #[.int .i64 0, .int .i64 0, .int .i64 0, .slice none 0 0] 72))) := hw.alloc h00 _
  have HY : Hid (Below w.heap.size w (w.alloc (.cells #[.int .i64 0, .int .i64 0, .int .i64 0, .slice none 0 0] 72))) := (Below.refl _ _).alloc (Nat.le_refl _) _
  have HK : Hid ((w.alloc (.cells #[.int .i64 0, .int .i64 0, .int .i64 0, .slice none 0 0] 72)).heap[w.heap.size]? = some (.cells #[.int .i64 0, .int .i64 0, .int .i64 0, .slice none 0 0] 72 (0, 0))) := box_new _ _
  have HXI : Hid (l.drop i = 40 :: l.drop (i + 1)) := by show _ = _; rw [drop_cons hil, h40]
  clear hcells hcs h40
  go_enter Tryz.func75, Tryz.ntmps75
  go_upto_region 1 with fail
  generalize (w.alloc (.cells #[.int .i64 0, .int .i64 0, .int .i64 0, .slice none 0 0] 72)) = W at HX HY HK ⊢
  go_wp2
  go_loopw [6, 7, 11] (fun nv kv fv wr => ∃ (k f n : Nat), f ≤ 5 ∧ i < k ∧ k ≤ l.length ∧ kv = .int .i64 k ∧ fv = .int .i64 f ∧ nv = .int .i64 n ∧ n < 2 ^ f ∧ Hid (flagsM lettersM 1 0 (l.drop (i + 1)) = flagsM (lettersM.drop f) (2 ^ f) (n : Nat) (l.drop k)) ∧ Hid (Below w0.heap.size w0 wr) ∧ Hid (Below w.heap.size w wr) ∧ Hid (wr.heap[w.heap.size]? = some (.cells #[.int .i64 0, .int .i64 0, .int .i64 0, .slice none 0 0] 72 (0, 0)))) (fun _ _ fv _ => 5 - (intOf fv).toNat)
  case atStart => exact ⟨i + 1, 0, 0, by omega, by omega, by omega, by go_num, rfl, rfl, by decide, rfl, HX, HY, HK⟩
  case round =>
    obtain ⟨k, f, n, hf, hik, hk, rfl, rfl, rfl, hn, HFL, HBr, HYr, HKr⟩ := hrel
    clear HX HY HK
    have hwr := HBr.out.size
    have hlbr : b < wr.drew.heap.size := by show b < wr.heap.size; omega
    have hlbr1 : b < wr.heap.size := by omega
    by_cases hf5 : f = 5
    · subst hf5
      by_cases hlt : k < l.length
      · have hyc := HCC.out k hlt
        have hyo := oct_get HO.out k
        have HDR : Hid (l.drop k = l.getD k 0 :: l.drop (k + 1)) := drop_cons hlt
        have hki : (k : Int) < (l.length : Int) := by omega
        have hke : ((k : Int) == (l.length : Int)) = false := by simp; omega
        generalize l.getD k 0 = y at hyc hyo HDR
        have hyr : wr.cell? ⟨b, off + k, none⟩ = some (.int .u8 y) := (HBr.out.cell (p := ⟨b, off + k, none⟩) hlb).trans hyc
        by_cases hy : y = 41
        · have hy1 : (y != 41) = false := by simp [hy]
          obtain ⟨c0, c1, c2, c3, cz, cl⟩ := tab4 HKr.out
          have HF : Hid _ := tok_fin (w := w) HKr.out (Nat.le_refl _) HYr.out (.int .i64 3) (.int .i64 i) (.int .i64 (n : Int)) (.slice none 0 0)
          go_wp2
          obtain ⟨f0, f1, f2, f3⟩ := tx4 HF.out.1
          refine bodyPost_ret (v := .tuple #[.agg #[.int .i64 3, .int .i64 i, .int .i64 (n : Int), .slice none 0 0], .int .i64 ((k + 1 : Nat) : Int)]) (by simp [results, Tryz.results75, go_sem, f0, f1, f2, f3]) rfl ⟨HF.out.2.1, ?_⟩
          have hr := HRES.out
          rw [HXI.out] at hr
          simp only [oneM] at hr
          rw [if_pos trivial, HFL.out, HDR.out] at hr
          simp only [lettersM, List.drop, flagsM] at hr
          rw [if_pos hy] at hr
          subst hr
          have h2 : l.length - (l.drop (k + 1)).length = k + 1 := by rw [List.length_drop]; omega
          exact ⟨none, 0, 0, by rw [h2]; rfl, fun h => by simp at h, fun _ w' _ => bs_nil w'⟩
        · have hy1 : (y != 41) = true := by simp [hy]
          obtain ⟨c0, c1, c2, c3, cz, cl⟩ := tab4 HKr.out
          have HF : Hid _ := tok_fin (w := w) HKr.out (Nat.le_refl _) HYr.out (.int .i64 0) (.int .i64 0) (.int .i64 0) (.slice none 0 0)
          go_wp2
          obtain ⟨f0, f1, f2, f3⟩ := tx4 HF.out.1
          refine bodyPost_ret (v := .tuple #[.agg #[.int .i64 0, .int .i64 0, .int .i64 0, .slice none 0 0], .int .i64 (-1)]) (by simp [results, Tryz.results75, go_sem, f0, f1, f2, f3]) rfl ⟨HF.out.2.1, ?_⟩
          have hr := HRES.out
          rw [HXI.out] at hr
          simp only [oneM] at hr
          rw [if_pos trivial, HFL.out, HDR.out] at hr
          simp only [lettersM, List.drop, flagsM] at hr
          rw [if_neg hy] at hr
          subst hr
          exact ⟨_, _, _, _, _, _, rfl⟩
      · obtain rfl : k = l.length := by omega
        have HDR : Hid (l.drop l.length = []) := by simp [Hid]
        obtain ⟨c0, c1, c2, c3, cz, cl⟩ := tab4 HKr.out
        have HF : Hid _ := tok_fin (w := w) HKr.out (Nat.le_refl _) HYr.out (.int .i64 0) (.int .i64 0) (.int .i64 0) (.slice none 0 0)
        go_wp2
        obtain ⟨f0, f1, f2, f3⟩ := tx4 HF.out.1
        refine bodyPost_ret (v := .tuple #[.agg #[.int .i64 0, .int .i64 0, .int .i64 0, .slice none 0 0], .int .i64 (-1)]) (by simp [results, Tryz.results75, go_sem, f0, f1, f2, f3]) rfl ⟨HF.out.2.1, ?_⟩
        have hr := HRES.out
        rw [HXI.out] at hr
        simp only [oneM] at hr
        rw [if_pos trivial, HFL.out, HDR.out] at hr
        simp only [lettersM, List.drop, flagsM] at hr
        subst hr
        exact ⟨_, _, _, _, _, _, rfl⟩
    · obtain rfl | rfl | rfl | rfl | rfl : f = 0 ∨ f = 1 ∨ f = 2 ∨ f = 3 ∨ f = 4 := by omega
      · skip
        by_cases hlt : k < l.length
        · have hyc := HCC.out k hlt
          have hyo := oct_get HO.out k
          have HDR : Hid (l.drop k = l.getD k 0 :: l.drop (k + 1)) := drop_cons hlt
          have hki : (k : Int) < (l.length : Int) := by omega
          have hdk : decide (k < l.length) = true := decide_eq_true hlt
          generalize l.getD k 0 = y at hyc hyo HDR
          by_cases hy : y = 83
          · skip
            have hy1 : (y == 83) = true := by simp [hy]
            have hy3 : (y == (((⟨#[83, 65, 70, 68, 82]⟩ : ByteArray)[0]).toNat : Int)) = true := by rw [hy]; rfl
            have hor : bits BinOp.or IntKind.i64 (n : Int) 1 = ((n + 1 : Nat) : Int) := or_1 n (by omega)
            have HFX : Hid _ := HFL.out.trans (HDR.out ▸ fl_hit (by rw [hy]) : _ = flagsM (lettersM.drop 1) 2 (n + 1 : Nat) (l.drop (k + 1)))
            go_wp2
            refine wp_region_held_drew (S := fun w' => w'.cell? ⟨b, off + k, none⟩ = some (.int .u8 y)) (by kernel_rfl) ((HBr.out.drew.cell (p := ⟨b, off + k, none⟩) hlb).trans hyc) (fun hHeld => (show wpAnyH _ _ _ _ _ 13 #[false, false, false, false, false, false, false, false, false, false, false, false, false] _ _ from ?_))
            refine tq 0 14 hHeld ?_
            refine tq 1 15 hHeld ?_
            refine tq 2 16 hHeld ?_
            refine tq 3 17 hHeld ?_
            refine tq 4 18 hHeld ?_
            refine tq 5 19 hHeld ?_
            refine tq 6 20 hHeld ?_
            refine tq 7 21 hHeld ?_
            refine tq 8 22 hHeld ?_
            refine tq 9 23 hHeld ?_
            refine tq 10 24 hHeld ?_
            refine tq 11 25 hHeld ?_
            refine tq 12 26 hHeld ?_
            refine wpAnyH_done (by kernel_rfl) ?_ _
            go_wp2
            go_roundw
            case rel => exact ⟨k + 1, 1, n + 1, by omega, by omega, by omega, by go_num, by go_num, by go_num, by omega, HFX, HBr.out.drew, HYr.out.drew, HKr.out⟩
            case measure => simp [intOf]
          · skip
            have hy1 : (y == 83) = false := by simp [hy]
            have hy3 : (y == (((⟨#[83, 65, 70, 68, 82]⟩ : ByteArray)[0]).toNat : Int)) = false := hy1
            have HFX : Hid _ := HFL.out.trans (HDR.out ▸ fl_miss hy : _ = flagsM (lettersM.drop 1) 2 (n : Nat) (l.drop k))
            go_wp2
            refine wp_region_held_drew (S := fun w' => w'.cell? ⟨b, off + k, none⟩ = some (.int .u8 y)) (by kernel_rfl) ((HBr.out.drew.cell (p := ⟨b, off + k, none⟩) hlb).trans hyc) (fun hHeld => (show wpAnyH _ _ _ _ _ 13 #[false, false, false, false, false, false, false, false, false, false, false, false, false] _ _ from ?_))
            refine tq 0 14 hHeld ?_
            refine tq 1 15 hHeld ?_
            refine tq 2 16 hHeld ?_
            refine tq 3 17 hHeld ?_
            refine tq 4 18 hHeld ?_
            refine tq 5 19 hHeld ?_
            refine tq 6 20 hHeld ?_
            refine tq 7 21 hHeld ?_
            refine tq 8 22 hHeld ?_
            refine tq 9 23 hHeld ?_
            refine tq 10 24 hHeld ?_
            refine tq 11 25 hHeld ?_
            refine tq 12 26 hHeld ?_
            refine wpAnyH_done (by kernel_rfl) ?_ _
            go_wp2
            go_roundw
            case rel => exact ⟨k, 1, n, by omega, by omega, by omega, by go_num, by go_num, by go_num, by omega, HFX, HBr.out.drew, HYr.out.drew, HKr.out⟩
            case measure => simp [intOf]
        · obtain rfl : k = l.length := by omega
          have HDR : Hid (l.drop l.length = []) := by simp [Hid]
          have hdk : decide (l.length < l.length) = false := by simp
          have HFX : Hid _ := HFL.out.trans (HDR.out ▸ fl_end : _ = flagsM (lettersM.drop 1) 2 (n : Nat) (l.drop l.length))
          go_wp2
          refine wp_region_held_drew (S := fun w' => True) (by kernel_rfl) (trivial) (fun hHeld => (show wpAnyH _ _ _ _ _ 13 #[false, false, false, false, false, false, false, false, false, false, false, false, false] _ _ from ?_))
          refine tq 0 14 hHeld ?_
          refine tq 1 15 hHeld ?_
          refine tq 2 16 hHeld ?_
          refine tq 3 17 hHeld ?_
          refine tq 4 18 hHeld ?_
          refine wpAnyH_skips (by kernel_rfl) (fun _ _ _ _ _ h => h) hHeld [5, 6, 7, 8, 9, 10, 11] [19, 20, 21, 22, 23, 24, 25] _ _ _ (by kernel_rfl) ?_
          simp only [List.foldl_cons, List.foldl_nil, Act.put, sA, s0, sS]
          refine tq 12 26 hHeld ?_
          refine wpAnyH_done (by kernel_rfl) ?_ _
          go_wp2
          go_roundw
          case rel => exact ⟨l.length, 1, n, by omega, by omega, by omega, by go_num, by go_num, by go_num, by omega, HFX, HBr.out.drew, HYr.out.drew, HKr.out⟩
          case measure => simp [intOf]
      · skip
        by_cases hlt : k < l.length
        · have hyc := HCC.out k hlt
          have hyo := oct_get HO.out k
          have HDR : Hid (l.drop k = l.getD k 0 :: l.drop (k + 1)) := drop_cons hlt
          have hki : (k : Int) < (l.length : Int) := by omega
          have hdk : decide (k < l.length) = true := decide_eq_true hlt
          generalize l.getD k 0 = y at hyc hyo HDR
          by_cases hy : y = 65
          · skip
            have hy1 : (y == 65) = true := by simp [hy]
            have hy3 : (y == (((⟨#[83, 65, 70, 68, 82]⟩ : ByteArray)[1]).toNat : Int)) = true := by rw [hy]; rfl
            have hor : bits BinOp.or IntKind.i64 (n : Int) 2 = ((n + 2 : Nat) : Int) := or_2 n (by omega)
            have HFX : Hid _ := HFL.out.trans (HDR.out ▸ fl_hit (by rw [hy]) : _ = flagsM (lettersM.drop 2) 4 (n + 2 : Nat) (l.drop (k + 1)))
            go_wp2
            refine wp_region_held_drew (S := fun w' => w'.cell? ⟨b, off + k, none⟩ = some (.int .u8 y)) (by kernel_rfl) ((HBr.out.drew.cell (p := ⟨b, off + k, none⟩) hlb).trans hyc) (fun hHeld => (show wpAnyH _ _ _ _ _ 13 #[false, false, false, false, false, false, false, false, false, false, false, false, false] _ _ from ?_))
            refine tq 0 14 hHeld ?_
            refine tq 1 15 hHeld ?_
            refine tq 2 16 hHeld ?_
            refine tq 3 17 hHeld ?_
            refine tq 4 18 hHeld ?_
            refine tq 5 19 hHeld ?_
            refine tq 6 20 hHeld ?_
            refine tq 7 21 hHeld ?_
            refine tq 8 22 hHeld ?_
            refine tq 9 23 hHeld ?_
            refine tq 10 24 hHeld ?_
            refine tq 11 25 hHeld ?_
            refine tq 12 26 hHeld ?_
            refine wpAnyH_done (by kernel_rfl) ?_ _
            go_wp2
            go_roundw
            case rel => exact ⟨k + 1, 2, n + 2, by omega, by omega, by omega, by go_num, by go_num, by go_num, by omega, HFX, HBr.out.drew, HYr.out.drew, HKr.out⟩
            case measure => simp [intOf]
          · skip
            have hy1 : (y == 65) = false := by simp [hy]
            have hy3 : (y == (((⟨#[83, 65, 70, 68, 82]⟩ : ByteArray)[1]).toNat : Int)) = false := hy1
            have HFX : Hid _ := HFL.out.trans (HDR.out ▸ fl_miss hy : _ = flagsM (lettersM.drop 2) 4 (n : Nat) (l.drop k))
            go_wp2
            refine wp_region_held_drew (S := fun w' => w'.cell? ⟨b, off + k, none⟩ = some (.int .u8 y)) (by kernel_rfl) ((HBr.out.drew.cell (p := ⟨b, off + k, none⟩) hlb).trans hyc) (fun hHeld => (show wpAnyH _ _ _ _ _ 13 #[false, false, false, false, false, false, false, false, false, false, false, false, false] _ _ from ?_))
            refine tq 0 14 hHeld ?_
            refine tq 1 15 hHeld ?_
            refine tq 2 16 hHeld ?_
            refine tq 3 17 hHeld ?_
            refine tq 4 18 hHeld ?_
            refine tq 5 19 hHeld ?_
            refine tq 6 20 hHeld ?_
            refine tq 7 21 hHeld ?_
            refine tq 8 22 hHeld ?_
            refine tq 9 23 hHeld ?_
            refine tq 10 24 hHeld ?_
            refine tq 11 25 hHeld ?_
            refine tq 12 26 hHeld ?_
            refine wpAnyH_done (by kernel_rfl) ?_ _
            go_wp2
            go_roundw
            case rel => exact ⟨k, 2, n, by omega, by omega, by omega, by go_num, by go_num, by go_num, by omega, HFX, HBr.out.drew, HYr.out.drew, HKr.out⟩
            case measure => simp [intOf]
        · obtain rfl : k = l.length := by omega
          have HDR : Hid (l.drop l.length = []) := by simp [Hid]
          have hdk : decide (l.length < l.length) = false := by simp
          have HFX : Hid _ := HFL.out.trans (HDR.out ▸ fl_end : _ = flagsM (lettersM.drop 2) 4 (n : Nat) (l.drop l.length))
          go_wp2
          refine wp_region_held_drew (S := fun w' => True) (by kernel_rfl) (trivial) (fun hHeld => (show wpAnyH _ _ _ _ _ 13 #[false, false, false, false, false, false, false, false, false, false, false, false, false] _ _ from ?_))
          refine tq 0 14 hHeld ?_
          refine tq 1 15 hHeld ?_
          refine tq 2 16 hHeld ?_
          refine tq 3 17 hHeld ?_
          refine tq 4 18 hHeld ?_
          refine wpAnyH_skips (by kernel_rfl) (fun _ _ _ _ _ h => h) hHeld [5, 6, 7, 8, 9, 10, 11] [19, 20, 21, 22, 23, 24, 25] _ _ _ (by kernel_rfl) ?_
          simp only [List.foldl_cons, List.foldl_nil, Act.put, sA, s0, sS]
          refine tq 12 26 hHeld ?_
          refine wpAnyH_done (by kernel_rfl) ?_ _
          go_wp2
          go_roundw
          case rel => exact ⟨l.length, 2, n, by omega, by omega, by omega, by go_num, by go_num, by go_num, by omega, HFX, HBr.out.drew, HYr.out.drew, HKr.out⟩
          case measure => simp [intOf]
      · skip
        by_cases hlt : k < l.length
        · have hyc := HCC.out k hlt
          have hyo := oct_get HO.out k
          have HDR : Hid (l.drop k = l.getD k 0 :: l.drop (k + 1)) := drop_cons hlt
          have hki : (k : Int) < (l.length : Int) := by omega
          have hdk : decide (k < l.length) = true := decide_eq_true hlt
          generalize l.getD k 0 = y at hyc hyo HDR
          by_cases hy : y = 70
          · skip
            have hy1 : (y == 70) = true := by simp [hy]
            have hy3 : (y == (((⟨#[83, 65, 70, 68, 82]⟩ : ByteArray)[2]).toNat : Int)) = true := by rw [hy]; rfl
            have hor : bits BinOp.or IntKind.i64 (n : Int) 4 = ((n + 4 : Nat) : Int) := or_4 n (by omega)
            have HFX : Hid _ := HFL.out.trans (HDR.out ▸ fl_hit (by rw [hy]) : _ = flagsM (lettersM.drop 3) 8 (n + 4 : Nat) (l.drop (k + 1)))
            go_wp2
            refine wp_region_held_drew (S := fun w' => w'.cell? ⟨b, off + k, none⟩ = some (.int .u8 y)) (by kernel_rfl) ((HBr.out.drew.cell (p := ⟨b, off + k, none⟩) hlb).trans hyc) (fun hHeld => (show wpAnyH _ _ _ _ _ 13 #[false, false, false, false, false, false, false, false, false, false, false, false, false] _ _ from ?_))
            refine tq 0 14 hHeld ?_
            refine tq 1 15 hHeld ?_
            refine tq 2 16 hHeld ?_
            refine tq 3 17 hHeld ?_
            refine tq 4 18 hHeld ?_
            refine tq 5 19 hHeld ?_
            refine tq 6 20 hHeld ?_
            refine tq 7 21 hHeld ?_
            refine tq 8 22 hHeld ?_
            refine tq 9 23 hHeld ?_
            refine tq 10 24 hHeld ?_
            refine tq 11 25 hHeld ?_
            refine tq 12 26 hHeld ?_
            refine wpAnyH_done (by kernel_rfl) ?_ _
            go_wp2
            go_roundw
            case rel => exact ⟨k + 1, 3, n + 4, by omega, by omega, by omega, by go_num, by go_num, by go_num, by omega, HFX, HBr.out.drew, HYr.out.drew, HKr.out⟩
            case measure => simp [intOf]
          · skip
            have hy1 : (y == 70) = false := by simp [hy]
            have hy3 : (y == (((⟨#[83, 65, 70, 68, 82]⟩ : ByteArray)[2]).toNat : Int)) = false := hy1
            have HFX : Hid _ := HFL.out.trans (HDR.out ▸ fl_miss hy : _ = flagsM (lettersM.drop 3) 8 (n : Nat) (l.drop k))
            go_wp2
            refine wp_region_held_drew (S := fun w' => w'.cell? ⟨b, off + k, none⟩ = some (.int .u8 y)) (by kernel_rfl) ((HBr.out.drew.cell (p := ⟨b, off + k, none⟩) hlb).trans hyc) (fun hHeld => (show wpAnyH _ _ _ _ _ 13 #[false, false, false, false, false, false, false, false, false, false, false, false, false] _ _ from ?_))
            refine tq 0 14 hHeld ?_
            refine tq 1 15 hHeld ?_
            refine tq 2 16 hHeld ?_
            refine tq 3 17 hHeld ?_
            refine tq 4 18 hHeld ?_
            refine tq 5 19 hHeld ?_
            refine tq 6 20 hHeld ?_
            refine tq 7 21 hHeld ?_
            refine tq 8 22 hHeld ?_
            refine tq 9 23 hHeld ?_
            refine tq 10 24 hHeld ?_
            refine tq 11 25 hHeld ?_
            refine tq 12 26 hHeld ?_
            refine wpAnyH_done (by kernel_rfl) ?_ _
            go_wp2
            go_roundw
            case rel => exact ⟨k, 3, n, by omega, by omega, by omega, by go_num, by go_num, by go_num, by omega, HFX, HBr.out.drew, HYr.out.drew, HKr.out⟩
            case measure => simp [intOf]
        · obtain rfl : k = l.length := by omega
          have HDR : Hid (l.drop l.length = []) := by simp [Hid]
          have hdk : decide (l.length < l.length) = false := by simp
          have HFX : Hid _ := HFL.out.trans (HDR.out ▸ fl_end : _ = flagsM (lettersM.drop 3) 8 (n : Nat) (l.drop l.length))
          go_wp2
          refine wp_region_held_drew (S := fun w' => True) (by kernel_rfl) (trivial) (fun hHeld => (show wpAnyH _ _ _ _ _ 13 #[false, false, false, false, false, false, false, false, false, false, false, false, false] _ _ from ?_))
          refine tq 0 14 hHeld ?_
          refine tq 1 15 hHeld ?_
          refine tq 2 16 hHeld ?_
          refine tq 3 17 hHeld ?_
          refine tq 4 18 hHeld ?_
          refine wpAnyH_skips (by kernel_rfl) (fun _ _ _ _ _ h => h) hHeld [5, 6, 7, 8, 9, 10, 11] [19, 20, 21, 22, 23, 24, 25] _ _ _ (by kernel_rfl) ?_
          simp only [List.foldl_cons, List.foldl_nil, Act.put, sA, s0, sS]
          refine tq 12 26 hHeld ?_
          refine wpAnyH_done (by kernel_rfl) ?_ _
          go_wp2
          go_roundw
          case rel => exact ⟨l.length, 3, n, by omega, by omega, by omega, by go_num, by go_num, by go_num, by omega, HFX, HBr.out.drew, HYr.out.drew, HKr.out⟩
          case measure => simp [intOf]
      · skip
        by_cases hlt : k < l.length
        · have hyc := HCC.out k hlt
          have hyo := oct_get HO.out k
          have HDR : Hid (l.drop k = l.getD k 0 :: l.drop (k + 1)) := drop_cons hlt
          have hki : (k : Int) < (l.length : Int) := by omega
          have hdk : decide (k < l.length) = true := decide_eq_true hlt
          generalize l.getD k 0 = y at hyc hyo HDR
          by_cases hy : y = 68
          · skip
            have hy1 : (y == 68) = true := by simp [hy]
            have hy3 : (y == (((⟨#[83, 65, 70, 68, 82]⟩ : ByteArray)[3]).toNat : Int)) = true := by rw [hy]; rfl
            have hor : bits BinOp.or IntKind.i64 (n : Int) 8 = ((n + 8 : Nat) : Int) := or_8 n (by omega)
            have HFX : Hid _ := HFL.out.trans (HDR.out ▸ fl_hit (by rw [hy]) : _ = flagsM (lettersM.drop 4) 16 (n + 8 : Nat) (l.drop (k + 1)))
            go_wp2
            refine wp_region_held_drew (S := fun w' => w'.cell? ⟨b, off + k, none⟩ = some (.int .u8 y)) (by kernel_rfl) ((HBr.out.drew.cell (p := ⟨b, off + k, none⟩) hlb).trans hyc) (fun hHeld => (show wpAnyH _ _ _ _ _ 13 #[false, false, false, false, false, false, false, false, false, false, false, false, false] _ _ from ?_))
            refine tq 0 14 hHeld ?_
            refine tq 1 15 hHeld ?_
            refine tq 2 16 hHeld ?_
            refine tq 3 17 hHeld ?_
            refine tq 4 18 hHeld ?_
            refine tq 5 19 hHeld ?_
            refine tq 6 20 hHeld ?_
            refine tq 7 21 hHeld ?_
            refine tq 8 22 hHeld ?_
            refine tq 9 23 hHeld ?_
            refine tq 10 24 hHeld ?_
            refine tq 11 25 hHeld ?_
            refine tq 12 26 hHeld ?_
            refine wpAnyH_done (by kernel_rfl) ?_ _
            go_wp2
            go_roundw
            case rel => exact ⟨k + 1, 4, n + 8, by omega, by omega, by omega, by go_num, by go_num, by go_num, by omega, HFX, HBr.out.drew, HYr.out.drew, HKr.out⟩
            case measure => simp [intOf]
          · skip
            have hy1 : (y == 68) = false := by simp [hy]
            have hy3 : (y == (((⟨#[83, 65, 70, 68, 82]⟩ : ByteArray)[3]).toNat : Int)) = false := hy1
            have HFX : Hid _ := HFL.out.trans (HDR.out ▸ fl_miss hy : _ = flagsM (lettersM.drop 4) 16 (n : Nat) (l.drop k))
            go_wp2
            refine wp_region_held_drew (S := fun w' => w'.cell? ⟨b, off + k, none⟩ = some (.int .u8 y)) (by kernel_rfl) ((HBr.out.drew.cell (p := ⟨b, off + k, none⟩) hlb).trans hyc) (fun hHeld => (show wpAnyH _ _ _ _ _ 13 #[false, false, false, false, false, false, false, false, false, false, false, false, false] _ _ from ?_))
            refine tq 0 14 hHeld ?_
            refine tq 1 15 hHeld ?_
            refine tq 2 16 hHeld ?_
            refine tq 3 17 hHeld ?_
            refine tq 4 18 hHeld ?_
            refine tq 5 19 hHeld ?_
            refine tq 6 20 hHeld ?_
            refine tq 7 21 hHeld ?_
            refine tq 8 22 hHeld ?_
            refine tq 9 23 hHeld ?_
            refine tq 10 24 hHeld ?_
            refine tq 11 25 hHeld ?_
            refine tq 12 26 hHeld ?_
            refine wpAnyH_done (by kernel_rfl) ?_ _
            go_wp2
            go_roundw
            case rel => exact ⟨k, 4, n, by omega, by omega, by omega, by go_num, by go_num, by go_num, by omega, HFX, HBr.out.drew, HYr.out.drew, HKr.out⟩
            case measure => simp [intOf]
        · obtain rfl : k = l.length := by omega
          have HDR : Hid (l.drop l.length = []) := by simp [Hid]
          have hdk : decide (l.length < l.length) = false := by simp
          have HFX : Hid _ := HFL.out.trans (HDR.out ▸ fl_end : _ = flagsM (lettersM.drop 4) 16 (n : Nat) (l.drop l.length))
          go_wp2
          refine wp_region_held_drew (S := fun w' => True) (by kernel_rfl) (trivial) (fun hHeld => (show wpAnyH _ _ _ _ _ 13 #[false, false, false, false, false, false, false, false, false, false, false, false, false] _ _ from ?_))
          refine tq 0 14 hHeld ?_
          refine tq 1 15 hHeld ?_
          refine tq 2 16 hHeld ?_
          refine tq 3 17 hHeld ?_
          refine tq 4 18 hHeld ?_
          refine wpAnyH_skips (by kernel_rfl) (fun _ _ _ _ _ h => h) hHeld [5, 6, 7, 8, 9, 10, 11] [19, 20, 21, 22, 23, 24, 25] _ _ _ (by kernel_rfl) ?_
          simp only [List.foldl_cons, List.foldl_nil, Act.put, sA, s0, sS]
          refine tq 12 26 hHeld ?_
          refine wpAnyH_done (by kernel_rfl) ?_ _
          go_wp2
          go_roundw
          case rel => exact ⟨l.length, 4, n, by omega, by omega, by omega, by go_num, by go_num, by go_num, by omega, HFX, HBr.out.drew, HYr.out.drew, HKr.out⟩
          case measure => simp [intOf]
      · skip
        by_cases hlt : k < l.length
        · have hyc := HCC.out k hlt
          have hyo := oct_get HO.out k
          have HDR : Hid (l.drop k = l.getD k 0 :: l.drop (k + 1)) := drop_cons hlt
          have hki : (k : Int) < (l.length : Int) := by omega
          have hdk : decide (k < l.length) = true := decide_eq_true hlt
          generalize l.getD k 0 = y at hyc hyo HDR
          by_cases hy : y = 82
          · skip
            have hy1 : (y == 82) = true := by simp [hy]
            have hy3 : (y == (((⟨#[83, 65, 70, 68, 82]⟩ : ByteArray)[4]).toNat : Int)) = true := by rw [hy]; rfl
            have hor : bits BinOp.or IntKind.i64 (n : Int) 16 = ((n + 16 : Nat) : Int) := or_16 n (by omega)
            have HFX : Hid _ := HFL.out.trans (HDR.out ▸ fl_hit (by rw [hy]) : _ = flagsM (lettersM.drop 5) 32 (n + 16 : Nat) (l.drop (k + 1)))
            go_wp2
            refine wp_region_held_drew (S := fun w' => w'.cell? ⟨b, off + k, none⟩ = some (.int .u8 y)) (by kernel_rfl) ((HBr.out.drew.cell (p := ⟨b, off + k, none⟩) hlb).trans hyc) (fun hHeld => (show wpAnyH _ _ _ _ _ 13 #[false, false, false, false, false, false, false, false, false, false, false, false, false] _ _ from ?_))
            refine tq 0 14 hHeld ?_
            refine tq 1 15 hHeld ?_
            refine tq 2 16 hHeld ?_
            refine tq 3 17 hHeld ?_
            refine tq 4 18 hHeld ?_
            refine tq 5 19 hHeld ?_
            refine tq 6 20 hHeld ?_
            refine tq 7 21 hHeld ?_
            refine tq 8 22 hHeld ?_
            refine tq 9 23 hHeld ?_
            refine tq 10 24 hHeld ?_
            refine tq 11 25 hHeld ?_
            refine tq 12 26 hHeld ?_
            refine wpAnyH_done (by kernel_rfl) ?_ _
            go_wp2
            go_roundw
            case rel => exact ⟨k + 1, 5, n + 16, by omega, by omega, by omega, by go_num, by go_num, by go_num, by omega, HFX, HBr.out.drew, HYr.out.drew, HKr.out⟩
            case measure => simp [intOf]
          · skip
            have hy1 : (y == 82) = false := by simp [hy]
            have hy3 : (y == (((⟨#[83, 65, 70, 68, 82]⟩ : ByteArray)[4]).toNat : Int)) = false := hy1
            have HFX : Hid _ := HFL.out.trans (HDR.out ▸ fl_miss hy : _ = flagsM (lettersM.drop 5) 32 (n : Nat) (l.drop k))
            go_wp2
            refine wp_region_held_drew (S := fun w' => w'.cell? ⟨b, off + k, none⟩ = some (.int .u8 y)) (by kernel_rfl) ((HBr.out.drew.cell (p := ⟨b, off + k, none⟩) hlb).trans hyc) (fun hHeld => (show wpAnyH _ _ _ _ _ 13 #[false, false, false, false, false, false, false, false, false, false, false, false, false] _ _ from ?_))
            refine tq 0 14 hHeld ?_
            refine tq 1 15 hHeld ?_
            refine tq 2 16 hHeld ?_
            refine tq 3 17 hHeld ?_
            refine tq 4 18 hHeld ?_
            refine tq 5 19 hHeld ?_
            refine tq 6 20 hHeld ?_
            refine tq 7 21 hHeld ?_
            refine tq 8 22 hHeld ?_
            refine tq 9 23 hHeld ?_
            refine tq 10 24 hHeld ?_
            refine tq 11 25 hHeld ?_
            refine tq 12 26 hHeld ?_
            refine wpAnyH_done (by kernel_rfl) ?_ _
            go_wp2
            go_roundw
            case rel => exact ⟨k, 5, n, by omega, by omega, by omega, by go_num, by go_num, by go_num, by omega, HFX, HBr.out.drew, HYr.out.drew, HKr.out⟩
            case measure => simp [intOf]
        · obtain rfl : k = l.length := by omega
          have HDR : Hid (l.drop l.length = []) := by simp [Hid]
          have hdk : decide (l.length < l.length) = false := by simp
          have HFX : Hid _ := HFL.out.trans (HDR.out ▸ fl_end : _ = flagsM (lettersM.drop 5) 32 (n : Nat) (l.drop l.length))
          go_wp2
          refine wp_region_held_drew (S := fun w' => True) (by kernel_rfl) (trivial) (fun hHeld => (show wpAnyH _ _ _ _ _ 13 #[false, false, false, false, false, false, false, false, false, false, false, false, false] _ _ from ?_))
          refine tq 0 14 hHeld ?_
          refine tq 1 15 hHeld ?_
          refine tq 2 16 hHeld ?_
          refine tq 3 17 hHeld ?_
          refine tq 4 18 hHeld ?_
          refine wpAnyH_skips (by kernel_rfl) (fun _ _ _ _ _ h => h) hHeld [5, 6, 7, 8, 9, 10, 11] [19, 20, 21, 22, 23, 24, 25] _ _ _ (by kernel_rfl) ?_
          simp only [List.foldl_cons, List.foldl_nil, Act.put, sA, s0, sS]
          refine tq 12 26 hHeld ?_
          refine wpAnyH_done (by kernel_rfl) ?_ _
          go_wp2
          go_roundw
          case rel => exact ⟨l.length, 5, n, by omega, by omega, by omega, by go_num, by go_num, by go_num, by omega, HFX, HBr.out.drew, HYr.out.drew, HKr.out⟩
          case measure => simp [intOf]

end Go.Proofs.YtlegmiaoablcgaaGreatDoor

/- What needsEscape of package impl does. -/
namespace Go.Proofs.YtlegmiaoablcgaaGreatDoor
open Go.RowKit
set_option maxRecDepth 100000
set_option linter.unusedVariables false
set_option linter.unusedSimpArgs false

theorem ret_bool {b c : Bool} (h : b = c) : Ending.returned (.bool c) = .returned (.bool b) := by rw [h]
set_option maxHeartbeats 400000 in
theorem needsEscape_any (x : Int) (hx : 0 ≤ x ∧ x ≤ 255) (w : World) :
    Calls Tryz.prog 72 #[.int .u8 x] w fun e w' => e = .returned (.bool (decide (x = 34 ∨ x = 92))) ∧ w' = w := by
  by_cases h1 : x = 34
  · subst h1
    go_enter Tryz.func72, Tryz.ntmps72
    go_wp2
    go_ret
    exact ⟨rfl, rfl⟩
  · by_cases h2 : x = 92
    · subst h2
      go_enter Tryz.func72, Tryz.ntmps72
      go_wp2
      go_ret
      exact ⟨rfl, rfl⟩
    · have b1 : (x == 34) = false := by simp [h1]
      have b2 : (x == 92) = false := by simp [h2]
      have e : Hid (decide (x = 34 ∨ x = 92) = false) := decide_eq_false (by omega)
      go_enter Tryz.func72, Tryz.ntmps72
      go_wp2
      go_ret
      exact ⟨by rw [e.out]; rfl, rfl⟩

end Go.Proofs.YtlegmiaoablcgaaGreatDoor

/- What checkedText, textAt and tokenAt of package impl do. -/
namespace Go.Proofs.YtlegmiaoablcgaaGreatDoor
open Go.RowKit
set_option maxRecDepth 100000
set_option linter.unusedVariables false
set_option linter.unusedSimpArgs false

set_option maxRecDepth 100000 in
set_option maxHeartbeats 1000000 in
theorem checkedText_r (a : Option Addr) (n c : Nat) (acc : List Int) (p q : Int) (w : World) (hv : Bs w (.slice a n c) acc) :
    Calls Tryz.prog 79 #[.slice a n c, .int .i64 p, .int .i64 q] w fun e w' => Below w.heap.size w w' ∧ e = .returned (if textB acc then .tuple #[.agg #[.int .i64 4, .int .i64 p, .int .i64 0, .slice a n c], .int .i64 q] else .tuple #[.agg #[.int .i64 0, .int .i64 0, .int .i64 0, .slice none 0 0], .int .i64 (-1)]) := by
  have HX : Hid (Below w.heap.size w (w.alloc (.cells #[.int .i64 0, .int .i64 0, .int .i64 0, .slice none 0 0] 72))) := (Below.refl _ _).alloc (Nat.le_refl _) _
  have HK : Hid ((w.alloc (.cells #[.int .i64 0, .int .i64 0, .int .i64 0, .slice none 0 0] 72)).heap[w.heap.size]? = some (.cells #[.int .i64 0, .int .i64 0, .int .i64 0, .slice none 0 0] 72 (0, 0))) := box_new _ _
  have HV : Hid (Bs (w.alloc (.cells #[.int .i64 0, .int .i64 0, .int .i64 0, .slice none 0 0] 72)) (.slice a n c) acc) := hv.below HX.out
  obtain ⟨res, hres⟩ : ∃ res : Value, res = if textB acc then .tuple #[.agg #[.int .i64 4, .int .i64 p, .int .i64 0, .slice a n c], .int .i64 q] else .tuple #[.agg #[.int .i64 0, .int .i64 0, .int .i64 0, .slice none 0 0], .int .i64 (-1)] := ⟨_, rfl⟩
  have HRES : Hid (res = if textB acc then .tuple #[.agg #[.int .i64 4, .int .i64 p, .int .i64 0, .slice a n c], .int .i64 q] else .tuple #[.agg #[.int .i64 0, .int .i64 0, .int .i64 0, .slice none 0 0], .int .i64 (-1)]) := hres
  rw [← hres]
  clear hres hv
  go_enter Tryz.func79, Tryz.ntmps79
  go_upto_region 1 with fail
  generalize (w.alloc (.cells #[.int .i64 0, .int .i64 0, .int .i64 0, .slice none 0 0] 72)) = W at HX HK HV ⊢
  go_wp2_with fail
  refine (textOk_any _ acc W HV.out).mono ?_
  rintro e w2 ⟨rfl, B2⟩
  have HX2 : Hid (Below w.heap.size w w2) := Below.step HX.out B2
  have HK2 : Hid (w2.heap[w.heap.size]? = some (.cells #[.int .i64 0, .int .i64 0, .int .i64 0, .slice none 0 0] 72 (0, 0))) := box_below B2 HK.out
  clear B2 HX HK HV
  obtain ⟨c0, c1, c2, c3, cz, cl⟩ := tab4 HK2.out
  cases hb : textB acc with
  | true =>
    have HRE : Hid (res = .tuple #[.agg #[.int .i64 4, .int .i64 p, .int .i64 0, .slice a n c], .int .i64 q]) := by show _ = _; rw [HRES.out, if_pos hb]
    clear hb
    have HF : Hid _ := tok_fin (w := w) HK2.out (Nat.le_refl _) HX2.out (.int .i64 4) (.int .i64 p) (.int .i64 0) (.slice a n c)
    go_wp2
    obtain ⟨f0, f1, f2, f3⟩ := tx4 HF.out.1
    refine bodyPost_ret (v := .tuple #[.agg #[.int .i64 4, .int .i64 p, .int .i64 0, .slice a n c], .int .i64 q]) (by simp [results, Tryz.results79, go_sem, f0, f1, f2, f3]) rfl ⟨HF.out.2.1, ?_⟩
    rw [HRE.out]
  | false =>
    have HRE : Hid (res = .tuple #[.agg #[.int .i64 0, .int .i64 0, .int .i64 0, .slice none 0 0], .int .i64 (-1)]) := by show _ = _; rw [HRES.out, if_neg (by rw [hb]; simp)]
    clear hb
    have HF : Hid _ := tok_fin (w := w) HK2.out (Nat.le_refl _) HX2.out (.int .i64 0) (.int .i64 0) (.int .i64 0) (.slice none 0 0)
    go_wp2
    obtain ⟨f0, f1, f2, f3⟩ := tx4 HF.out.1
    refine bodyPost_ret (v := .tuple #[.agg #[.int .i64 0, .int .i64 0, .int .i64 0, .slice none 0 0], .int .i64 (-1)]) (by simp [results, Tryz.results79, go_sem, f0, f1, f2, f3]) rfl ⟨HF.out.2.1, ?_⟩
    rw [HRE.out]

set_option maxRecDepth 100000 in
set_option maxHeartbeats 4000000 in
theorem textAt_r (v : Value) (l : List Int) (i : Nat) (w0 w : World) (hv : Bs w0 v l) (hw : Below w0.heap.size w0 w) (hil : i < l.length) (hl : l.length ≤ 2000) (h34 : l.getD i 0 = 34) :
    Calls Tryz.prog 76 #[v, .int .i64 i] w (OneI w0 w l (oneM i (l.drop i))) := by
  obtain ⟨res, hres⟩ : ∃ res, res = oneM i (l.drop i) := ⟨_, rfl⟩
  have HRES : Hid (res = oneM i (l.drop i)) := hres
  rw [← hres]
  clear hres
  obtain ⟨ho, a, cap, rfl, hlc, hcm, hnil, hcells⟩ := hv
  unfold maxLen at hcm
  obtain ⟨b, off, rfl, hlb, hcs⟩ := hcells (by omega)
  obtain ⟨i0, hi, hz0, hz1, hz2⟩ := info_parts info5
  have HO : Hid (Oct l) := ho
  have h00 : w0.heap.size ≤ w.heap.size := hw.size
  have HX : Hid (Below w0.heap.size w0 (w.alloc (.cells #[.int .i64 0, .int .i64 0, .int .i64 0, .slice none 0 0] 72))) := hw.alloc h00 _
  have HY : Hid (Below w.heap.size w (w.alloc (.cells #[.int .i64 0, .int .i64 0, .int .i64 0, .slice none 0 0] 72))) := (Below.refl _ _).alloc (Nat.le_refl _) _
  have HK : Hid ((w.alloc (.cells #[.int .i64 0, .int .i64 0, .int .i64 0, .slice none 0 0] 72)).heap[w.heap.size]? = some (.cells #[.int .i64 0, .int .i64 0, .int .i64 0, .slice none 0 0] 72 (0, 0))) := box_new _ _
  have hsW : (w.alloc (.cells #[.int .i64 0, .int .i64 0, .int .i64 0, .slice none 0 0] 72)).heap.size = w.heap.size + 1 := by simp
  have HXI : Hid (l.drop i = 34 :: l.drop (i + 1)) := by show _ = _; rw [drop_cons hil, h34]
  have HONE : Hid (res = match textM (l.drop (i + 1)) with
      | some p => if textB p.1 then some (⟨5, i, 0, p.1⟩, p.2) else none
      | none => none) := by
    show _ = _
    rw [HRES.out, HXI.out]
    simp only [oneM]
    rw [if_neg (by decide), if_pos trivial]
    rfl
  clear h34
  go_enter Tryz.func76, Tryz.ntmps76
  go_upto_region 1 with fail
  generalize (w.alloc (.cells #[.int .i64 0, .int .i64 0, .int .i64 0, .slice none 0 0] 72)) = W at HX HY HK hsW ⊢
  have HsW : Hid (W.heap.size = w.heap.size + 1) := hsW
  have hsW2 : w.heap.size + 1 ≤ W.heap.size := by omega
  have hlbW : b < W.heap.size := by omega
  clear hsW
  have HCC : Hid (∀ k, k < l.length → W.cell? ⟨b, off + k, none⟩ = some (.int .u8 (l.getD k 0))) := fun k hk => (HX.out.cell (p := ⟨b, off + k, none⟩) hlb).trans (hcs k hk)
  clear hcells hcs
  go_wp2
  go_loopw [6, 7] (fun tv kv wr => ∃ (k : Nat) (acc : List Int) (va : Option Addr) (vn vc : Nat), i < k ∧ k ≤ l.length ∧ acc.length ≤ k ∧ kv = .int .i64 k ∧ tv = .slice va vn vc ∧ Hid (textM (l.drop (i + 1)) = (textM (l.drop k)).map fun p => (acc ++ p.1, p.2)) ∧ Hid (OwnB wr W.heap.size (.slice va vn vc) acc) ∧ Hid (Below W.heap.size W wr) ∧ W.heap.size ≤ wr.heap.size) (fun _ kv _ => l.length - (intOf kv).toNat)
  case atStart => exact ⟨i + 1, [], none, 0, 0, by omega, by omega, by simp, by go_num, rfl, by show _ = _; cases textM (l.drop (i + 1)) <;> simp, ⟨W.heap.size, Nat.le_refl _, oct_nil, .inl ⟨rfl, rfl⟩⟩, Below.refl _ _, Nat.le_refl _⟩
  case round =>
    obtain ⟨k, acc, va, vn, vc, hik, hk, hacc, rfl, rfl, HTX, HOW, HBr, hWr⟩ := hrel
    have HYr : Hid (Below w.heap.size w wr) := Below.step HY.out HBr.out
    have HKr : Hid (wr.heap[w.heap.size]? = some (.cells #[.int .i64 0, .int .i64 0, .int .i64 0, .slice none 0 0] 72 (0, 0))) := box_below HBr.out HK.out
    have hlbr : b < wr.heap.size := by omega
    by_cases hlt : k < l.length
    · have hyo := oct_get HO.out k
      have HDR : Hid (l.drop k = l.getD k 0 :: l.drop (k + 1)) := drop_cons hlt
      have hki : (k : Int) < (l.length : Int) := by omega
      have hyr : wr.cell? ⟨b, off + k, none⟩ = some (.int .u8 (l.getD k 0)) := (HBr.out.cell (p := ⟨b, off + k, none⟩) hlbW).trans (HCC.out k hlt)
      generalize l.getD k 0 = y at hyo HDR hyr
      by_cases hy34 : y = 34
      · subst hy34
        have HTE : Hid (res = if textB acc then some (⟨5, i, 0, acc⟩, l.drop (k + 1)) else none) := by
          show _ = _
          rw [HONE.out, HTX.out, HDR.out, textM_cons, if_pos rfl]
          simp
        go_wp2_with fail
        refine (checkedText_r va vn vc acc i ((k : Int) + 1) wr HOW.out.bs).mono ?_
        rintro e w4 ⟨B4, rfl⟩
        have HY4 : Hid (Below w.heap.size w w4) := Below.step HYr.out B4
        have HK4 : Hid (w4.heap[w.heap.size]? = some (.cells #[.int .i64 0, .int .i64 0, .int .i64 0, .slice none 0 0] 72 (0, 0))) := box_below B4 HKr.out
        have HOW4 : Hid (OwnB w4 W.heap.size (.slice va vn vc) acc) := HOW.out.below B4
        have hs4 : W.heap.size ≤ w4.heap.size := Nat.le_trans hWr B4.size
        clear B4
        cases hb : textB acc with
        | true =>
          have HRE : Hid (res = some (⟨5, i, 0, acc⟩, l.drop (k + 1))) := by show _ = _; rw [HTE.out, if_pos hb]
          clear hb
          rw [if_pos rfl]
          obtain ⟨c0, c1, c2, c3, cz, cl⟩ := tab4 HK4.out
          have HF : Hid _ := tok_fin (w := w) HK4.out (Nat.le_refl _) HY4.out (.int .i64 4) (.int .i64 i) (.int .i64 0) (.slice va vn vc)
          have HRB : Hid (RB ((((w4.setCell ⟨w.heap.size, 0, none⟩ (.int .i64 4)).setCell ⟨w.heap.size, 1, none⟩ (.int .i64 i)).setCell ⟨w.heap.size, 2, none⟩ (.int .i64 0)).setCell ⟨w.heap.size, 3, none⟩ (.slice va vn vc)) (In w.heap.size w4.heap.size) (.slice va vn vc) acc) := by
            have h1 := HsW.out
            have h2 := (((HOW4.out.toRow.set (g := w.heap.size) (i := 0) (x := .int .i64 4) (.inl (by omega))).set (g := w.heap.size) (i := 1) (x := .int .i64 i) (.inl (by omega))).set (g := w.heap.size) (i := 2) (x := .int .i64 0) (.inl (by omega))).set (g := w.heap.size) (i := 3) (x := .slice va vn vc) (.inl (by omega))
            exact (h2.wide (show w.heap.size ≤ W.heap.size by omega) (Nat.le_refl _)).rb
          go_wp2
          obtain ⟨f0, f1, f2, f3⟩ := tx4 HF.out.1
          refine bodyPost_ret (v := .tuple #[.agg #[.int .i64 4, .int .i64 i, .int .i64 0, .slice va vn vc], .int .i64 ((k : Int) + 1)]) (by simp [results, Tryz.results76, go_sem, f0, f1, f2, f3]) rfl ⟨HF.out.2.1, ?_⟩
          rw [HRE.out]
          have h2 : l.length - (l.drop (k + 1)).length = k + 1 := by rw [List.length_drop]; omega
          exact ⟨_, _, _, by rw [h2]; rfl, fun _ => by simp only [box_size]; exact HRB.out, fun h => absurd rfl h⟩
        | false =>
          have HRE : Hid (res = none) := by show _ = _; rw [HTE.out, if_neg (by rw [hb]; simp)]
          clear hb
          rw [if_neg (by simp)]
          clear HKr HYr
          have HKr : Hid (w4.heap[w.heap.size]? = some (.cells #[.int .i64 0, .int .i64 0, .int .i64 0, .slice none 0 0] 72 (0, 0))) := HK4.out
          have HYr : Hid (Below w.heap.size w w4) := HY4.out
          obtain ⟨c0, c1, c2, c3, cz, cl⟩ := tab4 HKr.out
          have HF : Hid _ := tok_fin (w := w) HKr.out (Nat.le_refl _) HYr.out (.int .i64 0) (.int .i64 0) (.int .i64 0) (.slice none 0 0)
          go_wp2
          obtain ⟨f0, f1, f2, f3⟩ := tx4 HF.out.1
          refine bodyPost_ret (v := .tuple #[.agg #[.int .i64 0, .int .i64 0, .int .i64 0, .slice none 0 0], .int .i64 (-1)]) (by simp [results, Tryz.results76, go_sem, f0, f1, f2, f3]) rfl ⟨HF.out.2.1, ?_⟩
          rw [HRE.out]
          exact ⟨_, _, _, _, _, _, rfl⟩
      · have hy1 : (y == 34) = false := by simp [hy34]
        by_cases hy92 : y = 92
        · subst hy92
          by_cases hl2 : k + 1 < l.length
          · have hzo := oct_get HO.out (k + 1)
            have HDR2 : Hid (l.drop (k + 1) = l.getD (k + 1) 0 :: l.drop (k + 2)) := drop_cons hl2
            have hzr : wr.cell? ⟨b, off + (k + 1), none⟩ = some (.int .u8 (l.getD (k + 1) 0)) := (HBr.out.cell (p := ⟨b, off + (k + 1), none⟩) hlbW).trans (HCC.out (k + 1) hl2)
            have hki2 : (k : Int) + 1 < (l.length : Int) := by omega
            have hke : ((k : Int) + 1 == (l.length : Int)) = false := by simp; omega
            generalize l.getD (k + 1) 0 = z at hzo HDR2 hzr
            go_wp2_with fail
            refine (needsEscape_any z hzo wr).mono ?_
            rintro e wr ⟨rfl, rfl⟩
            by_cases hz : z = 34 ∨ z = 92
            · have HTN : Hid (textM (l.drop (i + 1)) = (textM (l.drop (k + 2))).map fun p => (acc ++ [z] ++ p.1, p.2)) := by
                show _ = _
                rw [HTX.out, HDR.out, HDR2.out, tx_esc hz]
                cases textM (l.drop (k + 2)) <;> simp
              rw [decide_eq_true hz]
              clear hz
              have HOW2 : Hid (OwnB (wr.alloc (.cells #[.int .u8 z] 5)) W.heap.size (.slice va vn vc) acc) := HOW.out.alloc _
              have HBA : Hid (Below W.heap.size W (wr.alloc (.cells #[.int .u8 z] 5))) := HBr.out.alloc hWr _
              go_wp2_with (at_builtin; refine wpList_append_bytes rfl (.tmp 48) (.tmp 53) 22 rfl i0 Tryz.underlying22 hi hz0 hz1 hz2 W.heap.size _ acc rfl HOW2.out _ [z] rfl (bs_one _ z hzo) (by simp; omega) (by simp; omega) W HBA.out ?_)
              intro v3 w3 hO3 hB3 _
              obtain ⟨va3, vn3, vc3, hv3⟩ := hO3.bs.form3
              subst hv3
              have HO3 : Hid (OwnB w3 W.heap.size (.slice va3 vn3 vc3) (acc ++ [z])) := hO3
              have HB3 : Hid (Below W.heap.size W w3) := hB3
              have hsz3 : W.heap.size ≤ w3.heap.size := hB3.size
              clear hO3 hB3 HOW2 HBA
              go_wp2
              go_roundw
              case rel => exact ⟨k + 2, acc ++ [z], va3, vn3, vc3, by omega, by omega, by simp; omega, by go_num, rfl, HTN, HO3, HB3, hsz3⟩
              case measure => simp [intOf]; omega
            · have HRE : Hid (res = none) := by
                show _ = _
                rw [HONE.out, HTX.out, HDR.out, HDR2.out, tx_no hz]
                rfl
              rw [decide_eq_false hz]
              clear hz
              obtain ⟨c0, c1, c2, c3, cz, cl⟩ := tab4 HKr.out
              have HF : Hid _ := tok_fin (w := w) HKr.out (Nat.le_refl _) HYr.out (.int .i64 0) (.int .i64 0) (.int .i64 0) (.slice none 0 0)
              go_wp2
              obtain ⟨f0, f1, f2, f3⟩ := tx4 HF.out.1
              refine bodyPost_ret (v := .tuple #[.agg #[.int .i64 0, .int .i64 0, .int .i64 0, .slice none 0 0], .int .i64 (-1)]) (by simp [results, Tryz.results76, go_sem, f0, f1, f2, f3]) rfl ⟨HF.out.2.1, ?_⟩
              rw [HRE.out]
              exact ⟨_, _, _, _, _, _, rfl⟩
          · have HRE : Hid (res = none) := by
              show _ = _
              rw [HONE.out, HTX.out, HDR.out, List.drop_eq_nil_of_le (show l.length ≤ k + 1 by omega), textM_cons, if_neg (by decide), if_pos rfl]
              rfl
            have hke : ((k : Int) + 1 == (l.length : Int)) = true := by simp; omega
            obtain ⟨c0, c1, c2, c3, cz, cl⟩ := tab4 HKr.out
            have HF : Hid _ := tok_fin (w := w) HKr.out (Nat.le_refl _) HYr.out (.int .i64 0) (.int .i64 0) (.int .i64 0) (.slice none 0 0)
            go_wp2
            obtain ⟨f0, f1, f2, f3⟩ := tx4 HF.out.1
            refine bodyPost_ret (v := .tuple #[.agg #[.int .i64 0, .int .i64 0, .int .i64 0, .slice none 0 0], .int .i64 (-1)]) (by simp [results, Tryz.results76, go_sem, f0, f1, f2, f3]) rfl ⟨HF.out.2.1, ?_⟩
            rw [HRE.out]
            exact ⟨_, _, _, _, _, _, rfl⟩
        · have hy2 : (y == 92) = false := by simp [hy92]
          have HTN : Hid (textM (l.drop (i + 1)) = (textM (l.drop (k + 1))).map fun p => (acc ++ [y] ++ p.1, p.2)) := by
            show _ = _
            rw [HTX.out, HDR.out, tx_one hy34 hy92]
            cases textM (l.drop (k + 1)) <;> simp
          have HOW2 : Hid (OwnB (wr.alloc (.cells #[.int .u8 y] 5)) W.heap.size (.slice va vn vc) acc) := HOW.out.alloc _
          have HBA : Hid (Below W.heap.size W (wr.alloc (.cells #[.int .u8 y] 5))) := HBr.out.alloc hWr _
          go_wp2_with (at_builtin; refine wpList_append_bytes rfl (.tmp 48) (.tmp 53) 22 rfl i0 Tryz.underlying22 hi hz0 hz1 hz2 W.heap.size _ acc rfl HOW2.out _ [y] rfl (bs_one _ y hyo) (by simp; omega) (by simp; omega) W HBA.out ?_)
          intro v3 w3 hO3 hB3 _
          obtain ⟨va3, vn3, vc3, hv3⟩ := hO3.bs.form3
          subst hv3
          have HO3 : Hid (OwnB w3 W.heap.size (.slice va3 vn3 vc3) (acc ++ [y])) := hO3
          have HB3 : Hid (Below W.heap.size W w3) := hB3
          have hsz3 : W.heap.size ≤ w3.heap.size := hB3.size
          clear hO3 hB3 HOW2 HBA
          go_wp2
          go_roundw
          case rel => exact ⟨k + 1, acc ++ [y], va3, vn3, vc3, by omega, by omega, by simp; omega, by go_num, rfl, HTN, HO3, HB3, hsz3⟩
          case measure => simp [intOf]; omega
    · obtain rfl : k = l.length := by omega
      have HRE : Hid (res = none) := by
        show _ = _
        rw [HONE.out, HTX.out, List.drop_length]
        rfl
      obtain ⟨c0, c1, c2, c3, cz, cl⟩ := tab4 HKr.out
      have HF : Hid _ := tok_fin (w := w) HKr.out (Nat.le_refl _) HYr.out (.int .i64 0) (.int .i64 0) (.int .i64 0) (.slice none 0 0)
      go_wp2
      obtain ⟨f0, f1, f2, f3⟩ := tx4 HF.out.1
      refine bodyPost_ret (v := .tuple #[.agg #[.int .i64 0, .int .i64 0, .int .i64 0, .slice none 0 0], .int .i64 (-1)]) (by simp [results, Tryz.results76, go_sem, f0, f1, f2, f3]) rfl ⟨HF.out.2.1, ?_⟩
      rw [HRE.out]
      exact ⟨_, _, _, _, _, _, rfl⟩

theorem tokenAt_fin {w w1 : World} {r : Nat} {d0 d1 d2 d3 : Value} (hk : w1.heap[r]? = some (.cells #[d0, d1, d2, d3] 72 (0, 0))) (hr : w.heap.size = r) (hb : Below w.heap.size w w1) (c0 c1 c2 c3 : Value) (w0 : World) (S : Nat → Prop) (v : Value) (t : TokD) (hX : TX w0 w1 S v t) (hS : ¬ S r) :
    TX w0 ((((w1.setCell ⟨r, 0, none⟩ c0).setCell ⟨r, 1, none⟩ c1).setCell ⟨r, 2, none⟩ c2).setCell ⟨r, 3, none⟩ c3) S v t :=
  hX.frame fun b hb' _ => by
    have hne : b ≠ r := fun e => hS (e ▸ hb')
    rw [Below.heap_setCell _ _ _ _ (show b ≠ r from hne), Below.heap_setCell _ _ _ _ (show b ≠ r from hne), Below.heap_setCell _ _ _ _ (show b ≠ r from hne), Below.heap_setCell _ _ _ _ (show b ≠ r from hne)]

end Go.Proofs.YtlegmiaoablcgaaGreatDoor

/- What tokenAt of package impl does. -/
namespace Go.Proofs.YtlegmiaoablcgaaGreatDoor
open Go.RowKit
set_option maxRecDepth 100000
set_option linter.unusedVariables false
set_option linter.unusedSimpArgs false

set_option maxRecDepth 100000 in
set_option maxHeartbeats 2000000 in
theorem tokenAt_r (v : Value) (l : List Int) (i : Nat) (w0 w : World) (hv : Bs w0 v l) (hw : Below w0.heap.size w0 w) (hil : i < l.length) (hl : l.length ≤ 2000) (ht : Tab10 w0) (he : Errs w0) :
    Calls Tryz.prog 69 #[v, .int .i64 i] w (OneI w0 w l (oneM i (l.drop i))) := by
  obtain ⟨res, hres⟩ : ∃ res, res = oneM i (l.drop i) := ⟨_, rfl⟩
  have HRES : Hid (res = oneM i (l.drop i)) := hres
  rw [← hres]
  clear hres
  have HV : Hid (Bs w0 v l) := hv
  obtain ⟨ho, a, cap, rfl, hlc, hcm, hnil, hcells⟩ := hv
  unfold maxLen at hcm
  obtain ⟨b, off, rfl, hlb, hcs⟩ := hcells (by omega)
  have h00 : w0.heap.size ≤ w.heap.size := hw.size
  have HX : Hid (Below w0.heap.size w0 (w.alloc (.cells #[.int .i64 0, .int .i64 0, .int .i64 0, .slice none 0 0] 72))) := hw.alloc h00 _
  have HY : Hid (Below w.heap.size w (w.alloc (.cells #[.int .i64 0, .int .i64 0, .int .i64 0, .slice none 0 0] 72))) := (Below.refl _ _).alloc (Nat.le_refl _) _
  have HK : Hid ((w.alloc (.cells #[.int .i64 0, .int .i64 0, .int .i64 0, .slice none 0 0] 72)).heap[w.heap.size]? = some (.cells #[.int .i64 0, .int .i64 0, .int .i64 0, .slice none 0 0] 72 (0, 0))) := box_new _ _
  have hsW : (w.alloc (.cells #[.int .i64 0, .int .i64 0, .int .i64 0, .slice none 0 0] 72)).heap.size = w.heap.size + 1 := by simp
  have hxi := oct_get ho i
  have hxc := hcs i hil
  have HT : Hid (Tab10 w0 ∧ Errs w0) := ⟨ht, he⟩
  have hii : (i : Int) < (l.length : Int) := by omega
  clear hcells hcs
  go_enter Tryz.func69, Tryz.ntmps69
  go_upto_region 1 with fail
  generalize (w.alloc (.cells #[.int .i64 0, .int .i64 0, .int .i64 0, .slice none 0 0] 72)) = W at HX HY HK hsW ⊢
  have hsW2 : w.heap.size + 1 ≤ W.heap.size := by omega
  have hlbW : b < W.heap.size := by omega
  clear hsW
  have hxW : W.cell? ⟨b, off + i, none⟩ = some (.int .u8 (l.getD i 0)) := (HX.out.cell (p := ⟨b, off + i, none⟩) hlb).trans hxc
  clear hxc
  by_cases h40 : l.getD i 0 = 40
  · have hc := flagsAt_r _ l i w0 W HV.out HX.out hil hl h40
    rw [h40] at hxW
    clear h40
    go_wp2_with fail
    refine (hc).mono ?_
    rw [← HRES.out]
    rintro e w2 ⟨B2, hP⟩
    have HY2 : Hid (Below w.heap.size w w2) := Below.step HY.out B2
    have HK2 : Hid (w2.heap[w.heap.size]? = some (.cells #[.int .i64 0, .int .i64 0, .int .i64 0, .slice none 0 0] 72 (0, 0))) := box_below B2 HK.out
    have hs2 : W.heap.size ≤ w2.heap.size := B2.size
    clear B2
    obtain ⟨c0, c1, c2, c3, cz, cl⟩ := tab4 HK2.out
    cases res with
    | none =>
      obtain ⟨d0, d1, d2, ta, tn, tc, rfl⟩ := hP
      have HF : Hid _ := tok_fin (w := w) HK2.out (Nat.le_refl _) HY2.out (.int .i64 d0) (.int .i64 d1) (.int .i64 d2) (.slice ta tn tc)
      go_wp2
      obtain ⟨f0, f1, f2, f3⟩ := tx4 HF.out.1
      refine bodyPost_ret (v := .tuple #[.agg #[.int .i64 d0, .int .i64 d1, .int .i64 d2, .slice ta tn tc], .int .i64 (-1)]) (by simp [results, Tryz.results69, go_sem, f0, f1, f2, f3]) rfl ⟨HF.out.2.1, ?_⟩
      exact ⟨_, _, _, _, _, _, rfl⟩
    | some p =>
      obtain ⟨ta, tn, tc, rfl, hX⟩ := hP
      obtain ⟨⟨pk, pp, pn, pt⟩, pr⟩ := p
      simp only at hX
      have HF : Hid _ := tok_fin (w := w) HK2.out (Nat.le_refl _) HY2.out (.int .i64 (sortM pk)) (.int .i64 pp) (.int .i64 pn) (.slice ta tn tc)
      have HXF : Hid (TX w0 ((((w2.setCell ⟨w.heap.size, 0, none⟩ (.int .i64 (sortM pk))).setCell ⟨w.heap.size, 1, none⟩ (.int .i64 pp)).setCell ⟨w.heap.size, 2, none⟩ (.int .i64 pn)).setCell ⟨w.heap.size, 3, none⟩ (.slice ta tn tc)) (In w.heap.size w2.heap.size) (.slice ta tn tc) ⟨pk, pp, pn, pt⟩) :=
        (tokenAt_fin HK2.out rfl HY2.out _ _ _ _ w0 _ _ _ hX (fun h => by have := h.1; omega)).mono fun b hb => ⟨by have := hb.1; omega, hb.2⟩
      clear hX
      go_wp2
      obtain ⟨f0, f1, f2, f3⟩ := tx4 HF.out.1
      refine bodyPost_ret (v := .tuple #[.agg #[.int .i64 (sortM pk), .int .i64 pp, .int .i64 pn, .slice ta tn tc], .int .i64 ((l.length - pr.length : Nat) : Int)]) (by simp [results, Tryz.results69, go_sem, f0, f1, f2, f3]) rfl ⟨HF.out.2.1, ?_⟩
      exact ⟨_, _, _, rfl, by simp only [box_size]; exact HXF.out⟩
  · by_cases h34 : l.getD i 0 = 34
    · have hc := textAt_r _ l i w0 W HV.out HX.out hil hl h34
      rw [h34] at hxW
      clear h34 h40
      go_wp2_with fail
      refine (hc).mono ?_
      rw [← HRES.out]
      rintro e w2 ⟨B2, hP⟩
      have HY2 : Hid (Below w.heap.size w w2) := Below.step HY.out B2
      have HK2 : Hid (w2.heap[w.heap.size]? = some (.cells #[.int .i64 0, .int .i64 0, .int .i64 0, .slice none 0 0] 72 (0, 0))) := box_below B2 HK.out
      have hs2 : W.heap.size ≤ w2.heap.size := B2.size
      clear B2
      obtain ⟨c0, c1, c2, c3, cz, cl⟩ := tab4 HK2.out
      cases res with
      | none =>
        obtain ⟨d0, d1, d2, ta, tn, tc, rfl⟩ := hP
        have HF : Hid _ := tok_fin (w := w) HK2.out (Nat.le_refl _) HY2.out (.int .i64 d0) (.int .i64 d1) (.int .i64 d2) (.slice ta tn tc)
        go_wp2
        obtain ⟨f0, f1, f2, f3⟩ := tx4 HF.out.1
        refine bodyPost_ret (v := .tuple #[.agg #[.int .i64 d0, .int .i64 d1, .int .i64 d2, .slice ta tn tc], .int .i64 (-1)]) (by simp [results, Tryz.results69, go_sem, f0, f1, f2, f3]) rfl ⟨HF.out.2.1, ?_⟩
        exact ⟨_, _, _, _, _, _, rfl⟩
      | some p =>
        obtain ⟨ta, tn, tc, rfl, hX⟩ := hP
        obtain ⟨⟨pk, pp, pn, pt⟩, pr⟩ := p
        simp only at hX
        have HF : Hid _ := tok_fin (w := w) HK2.out (Nat.le_refl _) HY2.out (.int .i64 (sortM pk)) (.int .i64 pp) (.int .i64 pn) (.slice ta tn tc)
        have HXF : Hid (TX w0 ((((w2.setCell ⟨w.heap.size, 0, none⟩ (.int .i64 (sortM pk))).setCell ⟨w.heap.size, 1, none⟩ (.int .i64 pp)).setCell ⟨w.heap.size, 2, none⟩ (.int .i64 pn)).setCell ⟨w.heap.size, 3, none⟩ (.slice ta tn tc)) (In w.heap.size w2.heap.size) (.slice ta tn tc) ⟨pk, pp, pn, pt⟩) :=
          (tokenAt_fin HK2.out rfl HY2.out _ _ _ _ w0 _ _ _ hX (fun h => by have := h.1; omega)).mono fun b hb => ⟨by have := hb.1; omega, hb.2⟩
        clear hX
        go_wp2
        obtain ⟨f0, f1, f2, f3⟩ := tx4 HF.out.1
        refine bodyPost_ret (v := .tuple #[.agg #[.int .i64 (sortM pk), .int .i64 pp, .int .i64 pn, .slice ta tn tc], .int .i64 ((l.length - pr.length : Nat) : Int)]) (by simp [results, Tryz.results69, go_sem, f0, f1, f2, f3]) rfl ⟨HF.out.2.1, ?_⟩
        exact ⟨_, _, _, rfl, by simp only [box_size]; exact HXF.out⟩
    · have hc := pieceAt_r _ l i w0 W HV.out HX.out hil hl h40 h34 HT.out.1 HT.out.2
      generalize l.getD i 0 = x at hxi hxW h40 h34
      have hx40 : (x == 40) = false := by simp [h40]
      have hx34 : (x == 34) = false := by simp [h34]
      go_wp2_with fail
      refine (hc).mono ?_
      rw [← HRES.out]
      rintro e w2 ⟨B2, hP⟩
      have HY2 : Hid (Below w.heap.size w w2) := Below.step HY.out B2
      have HK2 : Hid (w2.heap[w.heap.size]? = some (.cells #[.int .i64 0, .int .i64 0, .int .i64 0, .slice none 0 0] 72 (0, 0))) := box_below B2 HK.out
      have hs2 : W.heap.size ≤ w2.heap.size := B2.size
      clear B2
      obtain ⟨c0, c1, c2, c3, cz, cl⟩ := tab4 HK2.out
      cases res with
      | none =>
        obtain ⟨d0, d1, d2, ta, tn, tc, rfl⟩ := hP
        have HF : Hid _ := tok_fin (w := w) HK2.out (Nat.le_refl _) HY2.out (.int .i64 d0) (.int .i64 d1) (.int .i64 d2) (.slice ta tn tc)
        go_wp2
        obtain ⟨f0, f1, f2, f3⟩ := tx4 HF.out.1
        refine bodyPost_ret (v := .tuple #[.agg #[.int .i64 d0, .int .i64 d1, .int .i64 d2, .slice ta tn tc], .int .i64 (-1)]) (by simp [results, Tryz.results69, go_sem, f0, f1, f2, f3]) rfl ⟨HF.out.2.1, ?_⟩
        exact ⟨_, _, _, _, _, _, rfl⟩
      | some p =>
        obtain ⟨ta, tn, tc, rfl, hX⟩ := hP
        obtain ⟨⟨pk, pp, pn, pt⟩, pr⟩ := p
        simp only at hX
        have HF : Hid _ := tok_fin (w := w) HK2.out (Nat.le_refl _) HY2.out (.int .i64 (sortM pk)) (.int .i64 pp) (.int .i64 pn) (.slice ta tn tc)
        have HXF : Hid (TX w0 ((((w2.setCell ⟨w.heap.size, 0, none⟩ (.int .i64 (sortM pk))).setCell ⟨w.heap.size, 1, none⟩ (.int .i64 pp)).setCell ⟨w.heap.size, 2, none⟩ (.int .i64 pn)).setCell ⟨w.heap.size, 3, none⟩ (.slice ta tn tc)) (In w.heap.size w2.heap.size) (.slice ta tn tc) ⟨pk, pp, pn, pt⟩) :=
          (tokenAt_fin HK2.out rfl HY2.out _ _ _ _ w0 _ _ _ hX (fun h => by have := h.1; omega)).mono fun b hb => ⟨by have := hb.1; omega, hb.2⟩
        clear hX
        go_wp2
        obtain ⟨f0, f1, f2, f3⟩ := tx4 HF.out.1
        refine bodyPost_ret (v := .tuple #[.agg #[.int .i64 (sortM pk), .int .i64 pp, .int .i64 pn, .slice ta tn tc], .int .i64 ((l.length - pr.length : Nat) : Int)]) (by simp [results, Tryz.results69, go_sem, f0, f1, f2, f3]) rfl ⟨HF.out.2.1, ?_⟩
        exact ⟨_, _, _, rfl, by simp only [box_size]; exact HXF.out⟩
end Go.Proofs.YtlegmiaoablcgaaGreatDoor

/- What joined of package impl does. -/
namespace Go.Proofs.YtlegmiaoablcgaaGreatDoor
open Go.RowKit
set_option maxRecDepth 100000

set_option maxHeartbeats 400000 in
theorem joined_any (v u : Value) (l m : List Int) (w : World) (hv : Bs w v l) (hu : Bs w u m) (hl : l.length ≤ 4000000) (hm : m.length ≤ 4000000) :
    Calls Tryz.prog 71 #[v, u] w fun e w' => ∃ r, e = .returned r ∧ OwnB w' w.heap.size r (l ++ m) ∧ Below w.heap.size w w' := by
  have HV : Hid (Bs w v l) := hv
  have HU : Hid (Bs w u m) := hu
  obtain ⟨ho, a, cap, rfl, -⟩ := hv
  obtain ⟨ho', a', cap', rfl, -⟩ := hu
  obtain ⟨i0, hi, hz0, hz1, hz2⟩ := info_parts info5
  go_enter Tryz.func71, Tryz.ntmps71
  go_wp2_with (at_make; refine wpList_make_full _ rfl _ _ 22 rfl w.heap.size 5 i0 (.int .u8 0) 1 Tryz.underlying22 hi hz0 hz1 _ _ _ _ (l.length + m.length) rfl rfl (by omega) (by omega) (by rw [hz2]; omega) (by unfold maxLen; omega) (Nat.le_refl _) ?_)
  intro w1 hown hgrow
  have hB1 := (Below.refl w.heap.size w).grown hgrow (Nat.le_refl _) (by simp)
  have HR1 : Hid (w1.heap[w.heap.size]? = some (.cells (vals (List.replicate (l.length + m.length) 0)).toArray 5 (0, 0))) := by
    have := made_heap hown
    simpa [Hid, vals] using this
  clear hown hgrow
  go_wp2_with (refine wpList_copy_bytes rfl (.tmp 12) (.tmp 13) 22 22 rfl Tryz.underlying22 sz5 _ _ _ rfl _ l rfl (HV.out.below hB1) l.length (Nat.min_eq_left (Nat.le_add_right _ _)).symm w.heap.size 0 _ HR1.out (fun _ => rfl) (by simp) w.heap.size w hB1 (Nat.le_refl _) ?_)
  intro w2 HR2 hB2
  have hlen : (splice (List.replicate (l.length + m.length) (0 : Int)) 0 l).length = l.length + m.length := by rw [length_splice _ _ _ (by simp)]; simp
  have HL : Hid ((splice (List.replicate (l.length + m.length) (0 : Int)) 0 l).length = l.length + m.length) := hlen
  clear hlen
  have HE : Hid (splice (splice (List.replicate (l.length + m.length) (0 : Int)) 0 l) l.length m = l ++ m) := splice_two _ _ _ (by simp)
  by_cases hm0 : m = []
  · subst hm0
    go_wp2_with (refine wpList_copy_bytes rfl (.tmp 18) (.tmp 19) 22 22 rfl Tryz.underlying22 sz5 _ _ _ rfl _ [] rfl (HU.out.below hB2) 0 (Nat.min_eq_left (Nat.zero_le _)).symm w.heap.size l.length _ HR2.out (fun h => absurd h (by omega)) (by rw [HL.out]; omega) w.heap.size w hB2 (Nat.le_refl _) ?_)
    intro w3 HR3 hB3
    have HR4 : Hid (w3.heap[w.heap.size]? = some (.cells (vals (l ++ [])).toArray 5 (0, 0))) := by
      rw [← HE.out]; simpa using HR3
    clear HR3
    go_wp2
    go_ret
    have := own_made (oct_append ho ho') (by simp [maxLen]; omega) HR4.out
    exact ⟨_, rfl, ⟨_, Nat.le_refl _, by simpa using this⟩, hB3⟩
  · have hm1 : 0 < m.length := List.length_pos_iff.2 hm0
    go_wp2_with (refine wpList_copy_bytes rfl (.tmp 18) (.tmp 19) 22 22 rfl Tryz.underlying22 sz5 _ _ _ rfl _ m rfl (HU.out.below hB2) m.length (Nat.min_eq_left (by omega)).symm w.heap.size l.length _ HR2.out (fun _ => rfl) (by rw [HL.out]; omega) w.heap.size w hB2 (Nat.le_refl _) ?_)
    intro w3 HR3 hB3
    have HR4 : Hid (w3.heap[w.heap.size]? = some (.cells (vals (l ++ m)).toArray 5 (0, 0))) := by
      rw [← HE.out]; exact HR3
    clear HR3
    go_wp2
    go_ret
    have := own_made (oct_append ho ho') (by simp [maxLen]; omega) HR4.out
    exact ⟨_, rfl, ⟨_, Nat.le_refl _, by simpa using this⟩, hB3⟩

theorem joined_r (v u : Value) (l m : List Int) (w : World) (hv : Bs w v l) (hu : Bs w u m) (hl : l.length ≤ 4000000) (hm : m.length ≤ 4000000) :
    Calls Tryz.prog 71 #[v, u] w fun e w' => ∃ r, e = .returned r ∧ Row w' w.heap.size w'.heap.size r (l ++ m) ∧ Below w.heap.size w w' :=
  (joined_any v u l m w hv hu hl hm).mono fun _ _ ⟨u, h1, h2, h3⟩ => ⟨u, h1, h2.toRow, h3⟩

end Go.Proofs.YtlegmiaoablcgaaGreatDoor
