/- The proof's texts, part 4. -/
import Derived.Test.YtlegmiaoablcgaaDoorPart3
import Derived.Deep.DeepCutAuto

/- What l4one of package spec does: flags. -/
namespace Go.Proofs.YtlegmiaoablcgaaDoor
open Go.RowKit
set_option maxRecDepth 100000
set_option linter.unusedVariables false
set_option linter.unusedSimpArgs false

theorem tab_one10 : (Tryd.f51.body.bind (opsAt 10)).all (fun o => tableS o 7 [0, 1, 2, 3, 4, 5, 6] [6] [5, 7] 6) = true := by kernel_rfl
theorem or_1 : ∀ n : Nat, n < 1 → bits BinOp.or IntKind.i64 (n : Int) 1 = ((n + 1 : Nat) : Int) := by decide
theorem or_2 : ∀ n : Nat, n < 2 → bits BinOp.or IntKind.i64 (n : Int) 2 = ((n + 2 : Nat) : Int) := by decide
theorem or_4 : ∀ n : Nat, n < 4 → bits BinOp.or IntKind.i64 (n : Int) 4 = ((n + 4 : Nat) : Int) := by decide
theorem or_8 : ∀ n : Nat, n < 8 → bits BinOp.or IntKind.i64 (n : Int) 8 = ((n + 8 : Nat) : Int) := by decide
theorem or_16 : ∀ n : Nat, n < 16 → bits BinOp.or IntKind.i64 (n : Int) 16 = ((n + 16 : Nat) : Int) := by decide
theorem fl_hit {ls : List Int} {x y v n : Int} {q : List Int} (h : y = x) : flagsM (x :: ls) v n (y :: q) = flagsM ls (v * 2) (n + v) q := by rw [flagsM, if_pos h]
theorem fl_miss {ls : List Int} {x y v n : Int} {q : List Int} (h : y ≠ x) : flagsM (x :: ls) v n (y :: q) = flagsM ls (v * 2) n (y :: q) := by rw [flagsM, if_neg h]
theorem fl_end {ls : List Int} {x v n : Int} : flagsM (x :: ls) v n [] = flagsM ls (v * 2) n [] := by rw [flagsM]

set_option maxRecDepth 100000 in
set_option maxHeartbeats 4000000 in
theorem l4one_fl (v : Value) (l : List Int) (i : Nat) (w : World) (hv : Bs w v l) (hil : i < l.length) (hl : l.length ≤ 2000) (h40 : l.getD i 0 = 40) :
    Calls Tryd.prog 51 #[v, .int .i64 i] w (OneP w l (oneM i (l.drop i))) := by
  obtain ⟨res, hres⟩ : ∃ res, res = oneM i (l.drop i) := ⟨_, rfl⟩
  have HRES : Hid (res = oneM i (l.drop i)) := hres
  rw [← hres]
  clear hres
  have HV : Hid (∀ w', Below w.heap.size w w' → Bs w' v l) := fun w' h => hv.below h
  obtain ⟨ho, a, cap, rfl, hlc, hcm, hnil, hcells⟩ := hv
  unfold maxLen at hcm
  obtain ⟨b, off, rfl, hlb, hcs⟩ := hcells (by omega)
  have HCC : Hid (∀ k, k < l.length → w.cell? ⟨b, off + k, none⟩ = some (.int .u8 (l.getD k 0))) := hcs
  have HO : Hid (Oct l) := ho
  obtain ⟨i0, hi, hz0, hz1, hz2⟩ := info_parts info5
  obtain ⟨kR, kT, X⟩ := boxes2 w (.cells #[.int .i64 0, .int .i64 0, .int .i64 0, .slice none 0 0] 59) (.cells #[.int .i64 0, .int .i64 i, .int .i64 0, .slice none 0 0] 59)
  have HX : Hid (Below w.heap.size w ((w.alloc (.cells #[.int .i64 0, .int .i64 0, .int .i64 0, .slice none 0 0] 59)).alloc (.cells #[.int .i64 0, .int .i64 i, .int .i64 0, .slice none 0 0] 59))) := X
  have HKR : Hid _ := kR
  have HKT : Hid _ := kT
  have hsW : ((w.alloc (.cells #[.int .i64 0, .int .i64 0, .int .i64 0, .slice none 0 0] 59)).alloc (.cells #[.int .i64 0, .int .i64 i, .int .i64 0, .slice none 0 0] 59)).heap.size = w.heap.size + 2 := by simp
  have hxi := oct_get ho i
  have hxc := HCC.out i hil
  have HXI : Hid (l.drop i = l.getD i 0 :: l.drop (i + 1)) := drop_cons hil
  generalize l.getD i 0 = x at hxi hxc HXI h40
  have hxW : ((w.alloc (.cells #[.int .i64 0, .int .i64 0, .int .i64 0, .slice none 0 0] 59)).alloc (.cells #[.int .i64 0, .int .i64 i, .int .i64 0, .slice none 0 0] 59)).cell? ⟨b, off + i, none⟩ = some (.int .u8 x) := (X.cell (p := ⟨b, off + i, none⟩) hlb).trans hxc
  have hlbW : b < ((w.alloc (.cells #[.int .i64 0, .int .i64 0, .int .i64 0, .slice none 0 0] 59)).alloc (.cells #[.int .i64 0, .int .i64 i, .int .i64 0, .slice none 0 0] 59)).heap.size := by omega
  have hii : (i : Int) < (l.length : Int) := by omega
  clear hcells hcs kR kT X hxc
  go_enter Tryd.func51, Tryd.ntmps51
  go_upto_region 2 with fail
  generalize ((w.alloc (.cells #[.int .i64 0, .int .i64 0, .int .i64 0, .slice none 0 0] 59)).alloc (.cells #[.int .i64 0, .int .i64 i, .int .i64 0, .slice none 0 0] 59)) = W at HX HKR HKT hsW hxW hlbW ⊢
  have hsW2 : w.heap.size + 2 ≤ W.heap.size := by omega
  clear hsW
  subst h40
  obtain ⟨t0, t1, t2, t3⟩ := tx4 HKT.out
  obtain ⟨tz, tl⟩ := box8z HKT.out
  have HKT1 : Hid ((W.setCell ⟨w.heap.size + 1, 0, none⟩ (.int .i64 4)).heap[w.heap.size + 1]? = some (.cells #[.int .i64 4, .int .i64 i, .int .i64 ((0 : Nat) : Int), .slice none 0 0] 59 (0, 0))) := box_set (i := 0) (v := .int .i64 4) HKT.out
  have HKR1 : Hid ((W.setCell ⟨w.heap.size + 1, 0, none⟩ (.int .i64 4)).heap[w.heap.size]? = some (.cells #[.int .i64 0, .int .i64 0, .int .i64 0, .slice none 0 0] 59 (0, 0))) := box_other (k := w.heap.size + 1) (i := 0) (v := .int .i64 4) HKR.out (by omega)
  have HB1 : Hid (Below w.heap.size w (W.setCell ⟨w.heap.size + 1, 0, none⟩ (.int .i64 4))) := HX.out.setCell (p := ⟨w.heap.size + 1, 0, none⟩) (by simp) _
  go_upto_region 5 with fail
  generalize (W.setCell ⟨w.heap.size + 1, 0, none⟩ (.int .i64 4)) = W1 at HKT1 HKR1 HB1 ⊢
  clear t0 t1 t2 t3 tz tl HKT HKR hxW
  go_wp2
  go_loopw [7, 8] (fun kv fv wr => ∃ (k f n : Nat), f ≤ 5 ∧ i < k ∧ k ≤ l.length ∧ kv = .int .i64 k ∧ fv = .int .i64 f ∧ n < 2 ^ f ∧ Hid (flagsM lettersM 1 0 (l.drop (i + 1)) = flagsM (lettersM.drop f) (2 ^ f) (n : Nat) (l.drop k)) ∧ Hid (Below w.heap.size w wr) ∧ Hid (wr.heap[w.heap.size]? = some (.cells #[.int .i64 0, .int .i64 0, .int .i64 0, .slice none 0 0] 59 (0, 0))) ∧ Hid (wr.heap[w.heap.size + 1]? = some (.cells #[.int .i64 4, .int .i64 i, .int .i64 (n : Int), .slice none 0 0] 59 (0, 0)))) (fun _ fv _ => 5 - (intOf fv).toNat)
  case atStart => exact ⟨i + 1, 0, 0, by omega, by omega, by omega, by go_num, rfl, by decide, rfl, HB1, HKR1, HKT1⟩
  case round =>
    obtain ⟨k, f, n, hf, hik, hk, rfl, rfl, hn, HFL, HBr, HKRr, HKTr⟩ := hrel
    clear HB1 HKR1 HKT1
    have hwr := HBr.out.size
    have hlbr : b < wr.drew.heap.size := by show b < wr.heap.size; omega
    have hlbr1 : b < wr.heap.size := by omega
    by_cases hf5 : f = 5
    · subst hf5
      by_cases hlt : k < l.length
      · have hyc := HCC.out k hlt
        have hyo := oct_get HO.out k
        have HDR : Hid (l.drop k = l.getD k 0 :: l.drop (k + 1)) := drop_cons hlt
        have hki : (k : Int) < (l.length : Int) := by omega
        generalize l.getD k 0 = y at hyc hyo HDR
        have hyr : wr.cell? ⟨b, off + k, none⟩ = some (.int .u8 y) := (HBr.out.cell (p := ⟨b, off + k, none⟩) hlb).trans hyc
        by_cases hy : y = 41
        · have hy1 : (y == 41) = true := by simp [hy]
          obtain ⟨r0, r1, r2, r3⟩ := tx4 HKRr.out
          obtain ⟨t0, t1, t2, t3⟩ := tx4 HKTr.out
          obtain ⟨rz, rl⟩ := box8z HKRr.out
          obtain ⟨tz, tl⟩ := box8z HKTr.out
          have HF : Hid _ := tok_fin (w := w) HKRr.out (Nat.le_refl _) HBr.out (.int .i64 4) (.int .i64 i) (.int .i64 (n : Int)) (.slice none 0 0)
          go_wp2
          obtain ⟨f0, f1, f2, f3⟩ := tx4 HF.out.1
          refine bodyPost_ret (v := .tuple #[.agg #[.int .i64 4, .int .i64 i, .int .i64 (n : Int), .slice none 0 0], .int .i64 ((k + 1 : Nat) : Int)]) (by simp [results, Tryd.results51, go_sem, f0, f1, f2, f3]) rfl ⟨HF.out.2.1, ?_⟩
          have hr := HRES.out
          rw [HXI.out] at hr
          simp only [oneM] at hr
          rw [if_pos trivial, HFL.out, HDR.out] at hr
          simp only [lettersM, List.drop, flagsM] at hr
          rw [if_pos hy] at hr
          subst hr
          have h2 : l.length - (l.drop (k + 1)).length = k + 1 := by rw [List.length_drop]; omega
          exact ⟨none, 0, 0, by rw [h2], Row.nil _ _ _, by rw [List.length_drop]; omega⟩
        · have hy1 : (y == 41) = false := by simp [hy]
          obtain ⟨r0, r1, r2, r3⟩ := tx4 HKRr.out
          obtain ⟨t0, t1, t2, t3⟩ := tx4 HKTr.out
          obtain ⟨rz, rl⟩ := box8z HKRr.out
          obtain ⟨tz, tl⟩ := box8z HKTr.out
          have HF : Hid _ := tok_fin (w := w) HKRr.out (Nat.le_refl _) HBr.out (.int .i64 4) (.int .i64 i) (.int .i64 (n : Int)) (.slice none 0 0)
          go_wp2
          obtain ⟨f0, f1, f2, f3⟩ := tx4 HF.out.1
          refine bodyPost_ret (v := .tuple #[.agg #[.int .i64 4, .int .i64 i, .int .i64 (n : Int), .slice none 0 0], .int .i64 (-1)]) (by simp [results, Tryd.results51, go_sem, f0, f1, f2, f3]) rfl ⟨HF.out.2.1, ?_⟩
          have hr := HRES.out
          rw [HXI.out] at hr
          simp only [oneM] at hr
          rw [if_pos trivial, HFL.out, HDR.out] at hr
          simp only [lettersM, List.drop, flagsM] at hr
          rw [if_neg hy] at hr
          subst hr
          exact ⟨_, _, _, _, _, _, rfl⟩
      · obtain rfl : k = l.length := by omega
        have HDR : Hid (l.drop l.length = []) := by simp [Hid]
        obtain ⟨r0, r1, r2, r3⟩ := tx4 HKRr.out
        obtain ⟨t0, t1, t2, t3⟩ := tx4 HKTr.out
        obtain ⟨rz, rl⟩ := box8z HKRr.out
        obtain ⟨tz, tl⟩ := box8z HKTr.out
        have HF : Hid _ := tok_fin (w := w) HKRr.out (Nat.le_refl _) HBr.out (.int .i64 4) (.int .i64 i) (.int .i64 (n : Int)) (.slice none 0 0)
        go_wp2
        obtain ⟨f0, f1, f2, f3⟩ := tx4 HF.out.1
        refine bodyPost_ret (v := .tuple #[.agg #[.int .i64 4, .int .i64 i, .int .i64 (n : Int), .slice none 0 0], .int .i64 (-1)]) (by simp [results, Tryd.results51, go_sem, f0, f1, f2, f3]) rfl ⟨HF.out.2.1, ?_⟩
        have hr := HRES.out
        rw [HXI.out] at hr
        simp only [oneM] at hr
        rw [if_pos trivial, HFL.out, HDR.out] at hr
        simp only [lettersM, List.drop, flagsM] at hr
        subst hr
        exact ⟨_, _, _, _, _, _, rfl⟩
    · have hf4 : f = 0 ∨ f = 1 ∨ f = 2 ∨ f = 3 ∨ f = 4 := by omega
      rcases hf4 with rfl | rfl | rfl | rfl | rfl
      · skip
        by_cases hlt : k < l.length
        · have hyc := HCC.out k hlt
          have hyo := oct_get HO.out k
          have HDR : Hid (l.drop k = l.getD k 0 :: l.drop (k + 1)) := drop_cons hlt
          have hki : (k : Int) < (l.length : Int) := by omega
          have hdk : decide (k < l.length) = true := decide_eq_true hlt
          generalize l.getD k 0 = y at hyc hyo HDR
          by_cases hy : y = 83
          · skip
            have hy1 : (y == 83) = true := by simp [hy]
            have hy3 : (y == (((⟨#[83, 65, 70, 68, 82]⟩ : ByteArray)[0]).toNat : Int)) = true := by rw [hy]; rfl
            have hor : bits BinOp.or IntKind.i64 (n : Int) 1 = ((n + 1 : Nat) : Int) := or_1 n (by omega)
            have HFX : Hid _ := HFL.out.trans (HDR.out ▸ fl_hit (by rw [hy]) : _ = flagsM (lettersM.drop 1) 2 (n + 1 : Nat) (l.drop (k + 1)))
            go_wp2
            refine wp_region_held_drew (S := fun w' => w'.cell? ⟨b, off + k, none⟩ = some (.int .u8 y)) (by kernel_rfl) ((HBr.out.drew.cell (p := ⟨b, off + k, none⟩) hlb).trans hyc) (fun hHeld => (show wpAnyH _ _ _ _ _ 13 #[false, false, false, false, false, false, false, false, false, false, false, false, false] _ _ from ?_))
            refine tq 0 29 hHeld ?_
            refine tq 1 30 hHeld ?_
            refine tq 2 31 hHeld ?_
            refine tq 3 32 hHeld ?_
            refine tq 4 33 hHeld ?_
            refine tq 5 34 hHeld ?_
            refine tq 6 35 hHeld ?_
            refine tq 7 36 hHeld ?_
            refine tq 8 37 hHeld ?_
            refine tq 9 38 hHeld ?_
            refine tq 10 39 hHeld ?_
            refine tq 11 40 hHeld ?_
            refine tq 12 41 hHeld ?_
            refine wpAnyH_done (by kernel_rfl) ?_ _
            go_wp2
            obtain ⟨t0, t1, t2, t3⟩ := tx4 (show wr.drew.drew.heap[w.heap.size + 1]? = _ from HKTr.out)
            obtain ⟨tz, tl⟩ := box8z (show wr.drew.drew.heap[w.heap.size + 1]? = _ from HKTr.out)
            have HKT9 : Hid ((wr.drew.drew.setCell ⟨w.heap.size + 1, 2, none⟩ (.int .i64 ((n + 1 : Nat) : Int))).heap[w.heap.size + 1]? = some (.cells #[.int .i64 4, .int .i64 i, .int .i64 ((n + 1 : Nat) : Int), .slice none 0 0] 59 (0, 0))) := box_set (i := 2) (v := .int .i64 ((n + 1 : Nat) : Int)) (show wr.drew.drew.heap[w.heap.size + 1]? = _ from HKTr.out)
            have HKR9 : Hid ((wr.drew.drew.setCell ⟨w.heap.size + 1, 2, none⟩ (.int .i64 ((n + 1 : Nat) : Int))).heap[w.heap.size]? = some (.cells #[.int .i64 0, .int .i64 0, .int .i64 0, .slice none 0 0] 59 (0, 0))) := box_other (k := w.heap.size + 1) (i := 2) (v := .int .i64 ((n + 1 : Nat) : Int)) (show wr.drew.drew.heap[w.heap.size]? = _ from HKRr.out) (by omega)
            have HB9 : Hid (Below w.heap.size w (wr.drew.drew.setCell ⟨w.heap.size + 1, 2, none⟩ (.int .i64 ((n + 1 : Nat) : Int)))) := HBr.out.drew.drew.setCell (p := ⟨w.heap.size + 1, 2, none⟩) (by simp) _
            refine wpS_begin 5 (S := fun w' => w'.cell? ⟨w.heap.size + 1, 2, none⟩ = some (.int .i64 (n : Int))) (tabS_of (by kernel_rfl) tab_one10) (by kernel_rfl) (t2) (fun hTb hHeld => ?_)
            refine tks 0 0 42 hTb hHeld ?_
            refine tks 1 1 43 hTb hHeld ?_
            refine tks 2 2 44 hTb hHeld ?_
            refine tks 3 3 45 hTb hHeld ?_
            refine tks 4 4 46 hTb hHeld ?_
            refine wpS_next (S' := fun w' => True) 5 7 hTb (by decide) (trivial) (fun hHeld => ?_)
            refine tks 5 5 47 hTb hHeld ?_
            refine cls 6 6 hTb (by decide) rfl rfl (fun K hK => ?_)
            go_simp
            refine hK.out _ _ (trivial) (fun hHeld => ?_)
            clear hK K
            refine wpS_end hTb ?_
            clear t0 t1 t2 t3 tz tl
            go_wp2
            go_roundw
            case rel => exact ⟨k + 1, 1, n + 1, by omega, by omega, by omega, by go_num, by go_num, by omega, HFX, HB9, HKR9, HKT9⟩
            case measure => simp [intOf]
          · skip
            have hy1 : (y == 83) = false := by simp [hy]
            have hy3 : (y == (((⟨#[83, 65, 70, 68, 82]⟩ : ByteArray)[0]).toNat : Int)) = false := hy1
            have HFX : Hid _ := HFL.out.trans (HDR.out ▸ fl_miss hy : _ = flagsM (lettersM.drop 1) 2 (n : Nat) (l.drop k))
            go_wp2
            refine wp_region_held_drew (S := fun w' => w'.cell? ⟨b, off + k, none⟩ = some (.int .u8 y)) (by kernel_rfl) ((HBr.out.drew.cell (p := ⟨b, off + k, none⟩) hlb).trans hyc) (fun hHeld => (show wpAnyH _ _ _ _ _ 13 #[false, false, false, false, false, false, false, false, false, false, false, false, false] _ _ from ?_))
            refine tq 0 29 hHeld ?_
            refine tq 1 30 hHeld ?_
            refine tq 2 31 hHeld ?_
            refine tq 3 32 hHeld ?_
            refine tq 4 33 hHeld ?_
            refine tq 5 34 hHeld ?_
            refine tq 6 35 hHeld ?_
            refine tq 7 36 hHeld ?_
            refine tq 8 37 hHeld ?_
            refine tq 9 38 hHeld ?_
            refine tq 10 39 hHeld ?_
            refine tq 11 40 hHeld ?_
            refine tq 12 41 hHeld ?_
            refine wpAnyH_done (by kernel_rfl) ?_ _
            go_wp2
            go_roundw
            case rel => exact ⟨k, 1, n, by omega, by omega, by omega, by go_num, by go_num, by omega, HFX, HBr.out.drew, HKRr.out, HKTr.out⟩
            case measure => simp [intOf]
        · obtain rfl : k = l.length := by omega
          have HDR : Hid (l.drop l.length = []) := by simp [Hid]
          have hdk : decide (l.length < l.length) = false := by simp
          have HFX : Hid _ := HFL.out.trans (HDR.out ▸ fl_end : _ = flagsM (lettersM.drop 1) 2 (n : Nat) (l.drop l.length))
          go_wp2
          refine wp_region_held_drew (S := fun w' => True) (by kernel_rfl) (trivial) (fun hHeld => (show wpAnyH _ _ _ _ _ 13 #[false, false, false, false, false, false, false, false, false, false, false, false, false] _ _ from ?_))
          refine tq 0 29 hHeld ?_
          refine tq 1 30 hHeld ?_
          refine tq 2 31 hHeld ?_
          refine tq 3 32 hHeld ?_
          refine tq 4 33 hHeld ?_
          refine wpAnyH_skips (by kernel_rfl) (fun _ _ _ _ _ h => h) hHeld [5, 6, 7, 8, 9, 10, 11] [34, 35, 36, 37, 38, 39, 40] _ _ _ (by kernel_rfl) ?_
          simp only [List.foldl_cons, List.foldl_nil, Act.put, sA, s0, sS]
          refine tq 12 41 hHeld ?_
          refine wpAnyH_done (by kernel_rfl) ?_ _
          go_wp2
          go_roundw
          case rel => exact ⟨l.length, 1, n, by omega, by omega, by omega, by go_num, by go_num, by omega, HFX, HBr.out.drew, HKRr.out, HKTr.out⟩
          case measure => simp [intOf]
      · skip
        by_cases hlt : k < l.length
        · have hyc := HCC.out k hlt
          have hyo := oct_get HO.out k
          have HDR : Hid (l.drop k = l.getD k 0 :: l.drop (k + 1)) := drop_cons hlt
          have hki : (k : Int) < (l.length : Int) := by omega
          have hdk : decide (k < l.length) = true := decide_eq_true hlt
          generalize l.getD k 0 = y at hyc hyo HDR
          by_cases hy : y = 65
          · skip
            have hy1 : (y == 65) = true := by simp [hy]
            have hy3 : (y == (((⟨#[83, 65, 70, 68, 82]⟩ : ByteArray)[1]).toNat : Int)) = true := by rw [hy]; rfl
            have hor : bits BinOp.or IntKind.i64 (n : Int) 2 = ((n + 2 : Nat) : Int) := or_2 n (by omega)
            have HFX : Hid _ := HFL.out.trans (HDR.out ▸ fl_hit (by rw [hy]) : _ = flagsM (lettersM.drop 2) 4 (n + 2 : Nat) (l.drop (k + 1)))
            go_wp2
            refine wp_region_held_drew (S := fun w' => w'.cell? ⟨b, off + k, none⟩ = some (.int .u8 y)) (by kernel_rfl) ((HBr.out.drew.cell (p := ⟨b, off + k, none⟩) hlb).trans hyc) (fun hHeld => (show wpAnyH _ _ _ _ _ 13 #[false, false, false, false, false, false, false, false, false, false, false, false, false] _ _ from ?_))
            refine tq 0 29 hHeld ?_
            refine tq 1 30 hHeld ?_
            refine tq 2 31 hHeld ?_
            refine tq 3 32 hHeld ?_
            refine tq 4 33 hHeld ?_
            refine tq 5 34 hHeld ?_
            refine tq 6 35 hHeld ?_
            refine tq 7 36 hHeld ?_
            refine tq 8 37 hHeld ?_
            refine tq 9 38 hHeld ?_
            refine tq 10 39 hHeld ?_
            refine tq 11 40 hHeld ?_
            refine tq 12 41 hHeld ?_
            refine wpAnyH_done (by kernel_rfl) ?_ _
            go_wp2
            obtain ⟨t0, t1, t2, t3⟩ := tx4 (show wr.drew.drew.heap[w.heap.size + 1]? = _ from HKTr.out)
            obtain ⟨tz, tl⟩ := box8z (show wr.drew.drew.heap[w.heap.size + 1]? = _ from HKTr.out)
            have HKT9 : Hid ((wr.drew.drew.setCell ⟨w.heap.size + 1, 2, none⟩ (.int .i64 ((n + 2 : Nat) : Int))).heap[w.heap.size + 1]? = some (.cells #[.int .i64 4, .int .i64 i, .int .i64 ((n + 2 : Nat) : Int), .slice none 0 0] 59 (0, 0))) := box_set (i := 2) (v := .int .i64 ((n + 2 : Nat) : Int)) (show wr.drew.drew.heap[w.heap.size + 1]? = _ from HKTr.out)
            have HKR9 : Hid ((wr.drew.drew.setCell ⟨w.heap.size + 1, 2, none⟩ (.int .i64 ((n + 2 : Nat) : Int))).heap[w.heap.size]? = some (.cells #[.int .i64 0, .int .i64 0, .int .i64 0, .slice none 0 0] 59 (0, 0))) := box_other (k := w.heap.size + 1) (i := 2) (v := .int .i64 ((n + 2 : Nat) : Int)) (show wr.drew.drew.heap[w.heap.size]? = _ from HKRr.out) (by omega)
            have HB9 : Hid (Below w.heap.size w (wr.drew.drew.setCell ⟨w.heap.size + 1, 2, none⟩ (.int .i64 ((n + 2 : Nat) : Int)))) := HBr.out.drew.drew.setCell (p := ⟨w.heap.size + 1, 2, none⟩) (by simp) _
            refine wpS_begin 5 (S := fun w' => w'.cell? ⟨w.heap.size + 1, 2, none⟩ = some (.int .i64 (n : Int))) (tabS_of (by kernel_rfl) tab_one10) (by kernel_rfl) (t2) (fun hTb hHeld => ?_)
            refine tks 0 0 42 hTb hHeld ?_
            refine tks 1 1 43 hTb hHeld ?_
            refine tks 2 2 44 hTb hHeld ?_
            refine tks 3 3 45 hTb hHeld ?_
            refine tks 4 4 46 hTb hHeld ?_
            refine wpS_next (S' := fun w' => True) 5 7 hTb (by decide) (trivial) (fun hHeld => ?_)
            refine tks 5 5 47 hTb hHeld ?_
            refine cls 6 6 hTb (by decide) rfl rfl (fun K hK => ?_)
            go_simp
            refine hK.out _ _ (trivial) (fun hHeld => ?_)
            clear hK K
            refine wpS_end hTb ?_
            clear t0 t1 t2 t3 tz tl
            go_wp2
            go_roundw
            case rel => exact ⟨k + 1, 2, n + 2, by omega, by omega, by omega, by go_num, by go_num, by omega, HFX, HB9, HKR9, HKT9⟩
            case measure => simp [intOf]
          · skip
            have hy1 : (y == 65) = false := by simp [hy]
            have hy3 : (y == (((⟨#[83, 65, 70, 68, 82]⟩ : ByteArray)[1]).toNat : Int)) = false := hy1
            have HFX : Hid _ := HFL.out.trans (HDR.out ▸ fl_miss hy : _ = flagsM (lettersM.drop 2) 4 (n : Nat) (l.drop k))
            go_wp2
            refine wp_region_held_drew (S := fun w' => w'.cell? ⟨b, off + k, none⟩ = some (.int .u8 y)) (by kernel_rfl) ((HBr.out.drew.cell (p := ⟨b, off + k, none⟩) hlb).trans hyc) (fun hHeld => (show wpAnyH _ _ _ _ _ 13 #[false, false, false, false, false, false, false, false, false, false, false, false, false] _ _ from ?_))
            refine tq 0 29 hHeld ?_
            refine tq 1 30 hHeld ?_
            refine tq 2 31 hHeld ?_
            refine tq 3 32 hHeld ?_
            refine tq 4 33 hHeld ?_
            refine tq 5 34 hHeld ?_
            refine tq 6 35 hHeld ?_
            refine tq 7 36 hHeld ?_
            refine tq 8 37 hHeld ?_
            refine tq 9 38 hHeld ?_
            refine tq 10 39 hHeld ?_
            refine tq 11 40 hHeld ?_
            refine tq 12 41 hHeld ?_
            refine wpAnyH_done (by kernel_rfl) ?_ _
            go_wp2
            go_roundw
            case rel => exact ⟨k, 2, n, by omega, by omega, by omega, by go_num, by go_num, by omega, HFX, HBr.out.drew, HKRr.out, HKTr.out⟩
            case measure => simp [intOf]
        · obtain rfl : k = l.length := by omega
          have HDR : Hid (l.drop l.length = []) := by simp [Hid]
          have hdk : decide (l.length < l.length) = false := by simp
          have HFX : Hid _ := HFL.out.trans (HDR.out ▸ fl_end : _ = flagsM (lettersM.drop 2) 4 (n : Nat) (l.drop l.length))
          go_wp2
          refine wp_region_held_drew (S := fun w' => True) (by kernel_rfl) (trivial) (fun hHeld => (show wpAnyH _ _ _ _ _ 13 #[false, false, false, false, false, false, false, false, false, false, false, false, false] _ _ from ?_))
          refine tq 0 29 hHeld ?_
          refine tq 1 30 hHeld ?_
          refine tq 2 31 hHeld ?_
          refine tq 3 32 hHeld ?_
          refine tq 4 33 hHeld ?_
          refine wpAnyH_skips (by kernel_rfl) (fun _ _ _ _ _ h => h) hHeld [5, 6, 7, 8, 9, 10, 11] [34, 35, 36, 37, 38, 39, 40] _ _ _ (by kernel_rfl) ?_
          simp only [List.foldl_cons, List.foldl_nil, Act.put, sA, s0, sS]
          refine tq 12 41 hHeld ?_
          refine wpAnyH_done (by kernel_rfl) ?_ _
          go_wp2
          go_roundw
          case rel => exact ⟨l.length, 2, n, by omega, by omega, by omega, by go_num, by go_num, by omega, HFX, HBr.out.drew, HKRr.out, HKTr.out⟩
          case measure => simp [intOf]
      · skip
        by_cases hlt : k < l.length
        · have hyc := HCC.out k hlt
          have hyo := oct_get HO.out k
          have HDR : Hid (l.drop k = l.getD k 0 :: l.drop (k + 1)) := drop_cons hlt
          have hki : (k : Int) < (l.length : Int) := by omega
          have hdk : decide (k < l.length) = true := decide_eq_true hlt
          generalize l.getD k 0 = y at hyc hyo HDR
          by_cases hy : y = 70
          · skip
            have hy1 : (y == 70) = true := by simp [hy]
            have hy3 : (y == (((⟨#[83, 65, 70, 68, 82]⟩ : ByteArray)[2]).toNat : Int)) = true := by rw [hy]; rfl
            have hor : bits BinOp.or IntKind.i64 (n : Int) 4 = ((n + 4 : Nat) : Int) := or_4 n (by omega)
            have HFX : Hid _ := HFL.out.trans (HDR.out ▸ fl_hit (by rw [hy]) : _ = flagsM (lettersM.drop 3) 8 (n + 4 : Nat) (l.drop (k + 1)))
            go_wp2
            refine wp_region_held_drew (S := fun w' => w'.cell? ⟨b, off + k, none⟩ = some (.int .u8 y)) (by kernel_rfl) ((HBr.out.drew.cell (p := ⟨b, off + k, none⟩) hlb).trans hyc) (fun hHeld => (show wpAnyH _ _ _ _ _ 13 #[false, false, false, false, false, false, false, false, false, false, false, false, false] _ _ from ?_))
            refine tq 0 29 hHeld ?_
            refine tq 1 30 hHeld ?_
            refine tq 2 31 hHeld ?_
            refine tq 3 32 hHeld ?_
            refine tq 4 33 hHeld ?_
            refine tq 5 34 hHeld ?_
            refine tq 6 35 hHeld ?_
            refine tq 7 36 hHeld ?_
            refine tq 8 37 hHeld ?_
            refine tq 9 38 hHeld ?_
            refine tq 10 39 hHeld ?_
            refine tq 11 40 hHeld ?_
            refine tq 12 41 hHeld ?_
            refine wpAnyH_done (by kernel_rfl) ?_ _
            go_wp2
            obtain ⟨t0, t1, t2, t3⟩ := tx4 (show wr.drew.drew.heap[w.heap.size + 1]? = _ from HKTr.out)
            obtain ⟨tz, tl⟩ := box8z (show wr.drew.drew.heap[w.heap.size + 1]? = _ from HKTr.out)
            have HKT9 : Hid ((wr.drew.drew.setCell ⟨w.heap.size + 1, 2, none⟩ (.int .i64 ((n + 4 : Nat) : Int))).heap[w.heap.size + 1]? = some (.cells #[.int .i64 4, .int .i64 i, .int .i64 ((n + 4 : Nat) : Int), .slice none 0 0] 59 (0, 0))) := box_set (i := 2) (v := .int .i64 ((n + 4 : Nat) : Int)) (show wr.drew.drew.heap[w.heap.size + 1]? = _ from HKTr.out)
            have HKR9 : Hid ((wr.drew.drew.setCell ⟨w.heap.size + 1, 2, none⟩ (.int .i64 ((n + 4 : Nat) : Int))).heap[w.heap.size]? = some (.cells #[.int .i64 0, .int .i64 0, .int .i64 0, .slice none 0 0] 59 (0, 0))) := box_other (k := w.heap.size + 1) (i := 2) (v := .int .i64 ((n + 4 : Nat) : Int)) (show wr.drew.drew.heap[w.heap.size]? = _ from HKRr.out) (by omega)
            have HB9 : Hid (Below w.heap.size w (wr.drew.drew.setCell ⟨w.heap.size + 1, 2, none⟩ (.int .i64 ((n + 4 : Nat) : Int)))) := HBr.out.drew.drew.setCell (p := ⟨w.heap.size + 1, 2, none⟩) (by simp) _
            refine wpS_begin 5 (S := fun w' => w'.cell? ⟨w.heap.size + 1, 2, none⟩ = some (.int .i64 (n : Int))) (tabS_of (by kernel_rfl) tab_one10) (by kernel_rfl) (t2) (fun hTb hHeld => ?_)
            refine tks 0 0 42 hTb hHeld ?_
            refine tks 1 1 43 hTb hHeld ?_
            refine tks 2 2 44 hTb hHeld ?_
            refine tks 3 3 45 hTb hHeld ?_
            refine tks 4 4 46 hTb hHeld ?_
            refine wpS_next (S' := fun w' => True) 5 7 hTb (by decide) (trivial) (fun hHeld => ?_)
            refine tks 5 5 47 hTb hHeld ?_
            refine cls 6 6 hTb (by decide) rfl rfl (fun K hK => ?_)
            go_simp
            refine hK.out _ _ (trivial) (fun hHeld => ?_)
            clear hK K
            refine wpS_end hTb ?_
            clear t0 t1 t2 t3 tz tl
            go_wp2
            go_roundw
            case rel => exact ⟨k + 1, 3, n + 4, by omega, by omega, by omega, by go_num, by go_num, by omega, HFX, HB9, HKR9, HKT9⟩
            case measure => simp [intOf]
          · skip
            have hy1 : (y == 70) = false := by simp [hy]
            have hy3 : (y == (((⟨#[83, 65, 70, 68, 82]⟩ : ByteArray)[2]).toNat : Int)) = false := hy1
            have HFX : Hid _ := HFL.out.trans (HDR.out ▸ fl_miss hy : _ = flagsM (lettersM.drop 3) 8 (n : Nat) (l.drop k))
            go_wp2
            refine wp_region_held_drew (S := fun w' => w'.cell? ⟨b, off + k, none⟩ = some (.int .u8 y)) (by kernel_rfl) ((HBr.out.drew.cell (p := ⟨b, off + k, none⟩) hlb).trans hyc) (fun hHeld => (show wpAnyH _ _ _ _ _ 13 #[false, false, false, false, false, false, false, false, false, false, false, false, false] _ _ from ?_))
            refine tq 0 29 hHeld ?_
            refine tq 1 30 hHeld ?_
            refine tq 2 31 hHeld ?_
            refine tq 3 32 hHeld ?_
            refine tq 4 33 hHeld ?_
            refine tq 5 34 hHeld ?_
            refine tq 6 35 hHeld ?_
            refine tq 7 36 hHeld ?_
            refine tq 8 37 hHeld ?_
            refine tq 9 38 hHeld ?_
            refine tq 10 39 hHeld ?_
            refine tq 11 40 hHeld ?_
            refine tq 12 41 hHeld ?_
            refine wpAnyH_done (by kernel_rfl) ?_ _
            go_wp2
            go_roundw
            case rel => exact ⟨k, 3, n, by omega, by omega, by omega, by go_num, by go_num, by omega, HFX, HBr.out.drew, HKRr.out, HKTr.out⟩
            case measure => simp [intOf]
        · obtain rfl : k = l.length := by omega
          have HDR : Hid (l.drop l.length = []) := by simp [Hid]
          have hdk : decide (l.length < l.length) = false := by simp
          have HFX : Hid _ := HFL.out.trans (HDR.out ▸ fl_end : _ = flagsM (lettersM.drop 3) 8 (n : Nat) (l.drop l.length))
          go_wp2
          refine wp_region_held_drew (S := fun w' => True) (by kernel_rfl) (trivial) (fun hHeld => (show wpAnyH _ _ _ _ _ 13 #[false, false, false, false, false, false, false, false, false, false, false, false, false] _ _ from ?_))
          refine tq 0 29 hHeld ?_
          refine tq 1 30 hHeld ?_
          refine tq 2 31 hHeld ?_
          refine tq 3 32 hHeld ?_
          refine tq 4 33 hHeld ?_
          refine wpAnyH_skips (by kernel_rfl) (fun _ _ _ _ _ h => h) hHeld [5, 6, 7, 8, 9, 10, 11] [34, 35, 36, 37, 38, 39, 40] _ _ _ (by kernel_rfl) ?_
          simp only [List.foldl_cons, List.foldl_nil, Act.put, sA, s0, sS]
          refine tq 12 41 hHeld ?_
          refine wpAnyH_done (by kernel_rfl) ?_ _
          go_wp2
          go_roundw
          case rel => exact ⟨l.length, 3, n, by omega, by omega, by omega, by go_num, by go_num, by omega, HFX, HBr.out.drew, HKRr.out, HKTr.out⟩
          case measure => simp [intOf]
      · skip
        by_cases hlt : k < l.length
        · have hyc := HCC.out k hlt
          have hyo := oct_get HO.out k
          have HDR : Hid (l.drop k = l.getD k 0 :: l.drop (k + 1)) := drop_cons hlt
          have hki : (k : Int) < (l.length : Int) := by omega
          have hdk : decide (k < l.length) = true := decide_eq_true hlt
          generalize l.getD k 0 = y at hyc hyo HDR
          by_cases hy : y = 68
          · skip
            have hy1 : (y == 68) = true := by simp [hy]
            have hy3 : (y == (((⟨#[83, 65, 70, 68, 82]⟩ : ByteArray)[3]).toNat : Int)) = true := by rw [hy]; rfl
            have hor : bits BinOp.or IntKind.i64 (n : Int) 8 = ((n + 8 : Nat) : Int) := or_8 n (by omega)
            have HFX : Hid _ := HFL.out.trans (HDR.out ▸ fl_hit (by rw [hy]) : _ = flagsM (lettersM.drop 4) 16 (n + 8 : Nat) (l.drop (k + 1)))
            go_wp2
            refine wp_region_held_drew (S := fun w' => w'.cell? ⟨b, off + k, none⟩ = some (.int .u8 y)) (by kernel_rfl) ((HBr.out.drew.cell (p := ⟨b, off + k, none⟩) hlb).trans hyc) (fun hHeld => (show wpAnyH _ _ _ _ _ 13 #[false, false, false, false, false, false, false, false, false, false, false, false, false] _ _ from ?_))
            refine tq 0 29 hHeld ?_
            refine tq 1 30 hHeld ?_
            refine tq 2 31 hHeld ?_
            refine tq 3 32 hHeld ?_
            refine tq 4 33 hHeld ?_
            refine tq 5 34 hHeld ?_
            refine tq 6 35 hHeld ?_
            refine tq 7 36 hHeld ?_
            refine tq 8 37 hHeld ?_
            refine tq 9 38 hHeld ?_
            refine tq 10 39 hHeld ?_
            refine tq 11 40 hHeld ?_
            refine tq 12 41 hHeld ?_
            refine wpAnyH_done (by kernel_rfl) ?_ _
            go_wp2
            obtain ⟨t0, t1, t2, t3⟩ := tx4 (show wr.drew.drew.heap[w.heap.size + 1]? = _ from HKTr.out)
            obtain ⟨tz, tl⟩ := box8z (show wr.drew.drew.heap[w.heap.size + 1]? = _ from HKTr.out)
            have HKT9 : Hid ((wr.drew.drew.setCell ⟨w.heap.size + 1, 2, none⟩ (.int .i64 ((n + 8 : Nat) : Int))).heap[w.heap.size + 1]? = some (.cells #[.int .i64 4, .int .i64 i, .int .i64 ((n + 8 : Nat) : Int), .slice none 0 0] 59 (0, 0))) := box_set (i := 2) (v := .int .i64 ((n + 8 : Nat) : Int)) (show wr.drew.drew.heap[w.heap.size + 1]? = _ from HKTr.out)
            have HKR9 : Hid ((wr.drew.drew.setCell ⟨w.heap.size + 1, 2, none⟩ (.int .i64 ((n + 8 : Nat) : Int))).heap[w.heap.size]? = some (.cells #[.int .i64 0, .int .i64 0, .int .i64 0, .slice none 0 0] 59 (0, 0))) := box_other (k := w.heap.size + 1) (i := 2) (v := .int .i64 ((n + 8 : Nat) : Int)) (show wr.drew.drew.heap[w.heap.size]? = _ from HKRr.out) (by omega)
            have HB9 : Hid (Below w.heap.size w (wr.drew.drew.setCell ⟨w.heap.size + 1, 2, none⟩ (.int .i64 ((n + 8 : Nat) : Int)))) := HBr.out.drew.drew.setCell (p := ⟨w.heap.size + 1, 2, none⟩) (by simp) _
            refine wpS_begin 5 (S := fun w' => w'.cell? ⟨w.heap.size + 1, 2, none⟩ = some (.int .i64 (n : Int))) (tabS_of (by kernel_rfl) tab_one10) (by kernel_rfl) (t2) (fun hTb hHeld => ?_)
            refine tks 0 0 42 hTb hHeld ?_
            refine tks 1 1 43 hTb hHeld ?_
            refine tks 2 2 44 hTb hHeld ?_
            refine tks 3 3 45 hTb hHeld ?_
            refine tks 4 4 46 hTb hHeld ?_
            refine wpS_next (S' := fun w' => True) 5 7 hTb (by decide) (trivial) (fun hHeld => ?_)
            refine tks 5 5 47 hTb hHeld ?_
            refine cls 6 6 hTb (by decide) rfl rfl (fun K hK => ?_)
            go_simp
            refine hK.out _ _ (trivial) (fun hHeld => ?_)
            clear hK K
            refine wpS_end hTb ?_
            clear t0 t1 t2 t3 tz tl
            go_wp2
            go_roundw
            case rel => exact ⟨k + 1, 4, n + 8, by omega, by omega, by omega, by go_num, by go_num, by omega, HFX, HB9, HKR9, HKT9⟩
            case measure => simp [intOf]
          · skip
            have hy1 : (y == 68) = false := by simp [hy]
            have hy3 : (y == (((⟨#[83, 65, 70, 68, 82]⟩ : ByteArray)[3]).toNat : Int)) = false := hy1
            have HFX : Hid _ := HFL.out.trans (HDR.out ▸ fl_miss hy : _ = flagsM (lettersM.drop 4) 16 (n : Nat) (l.drop k))
            go_wp2
            refine wp_region_held_drew (S := fun w' => w'.cell? ⟨b, off + k, none⟩ = some (.int .u8 y)) (by kernel_rfl) ((HBr.out.drew.cell (p := ⟨b, off + k, none⟩) hlb).trans hyc) (fun hHeld => (show wpAnyH _ _ _ _ _ 13 #[false, false, false, false, false, false, false, false, false, false, false, false, false] _ _ from ?_))
            refine tq 0 29 hHeld ?_
            refine tq 1 30 hHeld ?_
            refine tq 2 31 hHeld ?_
            refine tq 3 32 hHeld ?_
            refine tq 4 33 hHeld ?_
            refine tq 5 34 hHeld ?_
            refine tq 6 35 hHeld ?_
            refine tq 7 36 hHeld ?_
            refine tq 8 37 hHeld ?_
            refine tq 9 38 hHeld ?_
            refine tq 10 39 hHeld ?_
            refine tq 11 40 hHeld ?_
            refine tq 12 41 hHeld ?_
            refine wpAnyH_done (by kernel_rfl) ?_ _
            go_wp2
            go_roundw
            case rel => exact ⟨k, 4, n, by omega, by omega, by omega, by go_num, by go_num, by omega, HFX, HBr.out.drew, HKRr.out, HKTr.out⟩
            case measure => simp [intOf]
        · obtain rfl : k = l.length := by omega
          have HDR : Hid (l.drop l.length = []) := by simp [Hid]
          have hdk : decide (l.length < l.length) = false := by simp
          have HFX : Hid _ := HFL.out.trans (HDR.out ▸ fl_end : _ = flagsM (lettersM.drop 4) 16 (n : Nat) (l.drop l.length))
          go_wp2
          refine wp_region_held_drew (S := fun w' => True) (by kernel_rfl) (trivial) (fun hHeld => (show wpAnyH _ _ _ _ _ 13 #[false, false, false, false, false, false, false, false, false, false, false, false, false] _ _ from ?_))
          refine tq 0 29 hHeld ?_
          refine tq 1 30 hHeld ?_
          refine tq 2 31 hHeld ?_
          refine tq 3 32 hHeld ?_
          refine tq 4 33 hHeld ?_
          refine wpAnyH_skips (by kernel_rfl) (fun _ _ _ _ _ h => h) hHeld [5, 6, 7, 8, 9, 10, 11] [34, 35, 36, 37, 38, 39, 40] _ _ _ (by kernel_rfl) ?_
          simp only [List.foldl_cons, List.foldl_nil, Act.put, sA, s0, sS]
          refine tq 12 41 hHeld ?_
          refine wpAnyH_done (by kernel_rfl) ?_ _
          go_wp2
          go_roundw
          case rel => exact ⟨l.length, 4, n, by omega, by omega, by omega, by go_num, by go_num, by omega, HFX, HBr.out.drew, HKRr.out, HKTr.out⟩
          case measure => simp [intOf]
      · skip
        by_cases hlt : k < l.length
        · have hyc := HCC.out k hlt
          have hyo := oct_get HO.out k
          have HDR : Hid (l.drop k = l.getD k 0 :: l.drop (k + 1)) := drop_cons hlt
          have hki : (k : Int) < (l.length : Int) := by omega
          have hdk : decide (k < l.length) = true := decide_eq_true hlt
          generalize l.getD k 0 = y at hyc hyo HDR
          by_cases hy : y = 82
          · skip
            have hy1 : (y == 82) = true := by simp [hy]
            have hy3 : (y == (((⟨#[83, 65, 70, 68, 82]⟩ : ByteArray)[4]).toNat : Int)) = true := by rw [hy]; rfl
            have hor : bits BinOp.or IntKind.i64 (n : Int) 16 = ((n + 16 : Nat) : Int) := or_16 n (by omega)
            have HFX : Hid _ := HFL.out.trans (HDR.out ▸ fl_hit (by rw [hy]) : _ = flagsM (lettersM.drop 5) 32 (n + 16 : Nat) (l.drop (k + 1)))
            go_wp2
            refine wp_region_held_drew (S := fun w' => w'.cell? ⟨b, off + k, none⟩ = some (.int .u8 y)) (by kernel_rfl) ((HBr.out.drew.cell (p := ⟨b, off + k, none⟩) hlb).trans hyc) (fun hHeld => (show wpAnyH _ _ _ _ _ 13 #[false, false, false, false, false, false, false, false, false, false, false, false, false] _ _ from ?_))
            refine tq 0 29 hHeld ?_
            refine tq 1 30 hHeld ?_
            refine tq 2 31 hHeld ?_
            refine tq 3 32 hHeld ?_
            refine tq 4 33 hHeld ?_
            refine tq 5 34 hHeld ?_
            refine tq 6 35 hHeld ?_
            refine tq 7 36 hHeld ?_
            refine tq 8 37 hHeld ?_
            refine tq 9 38 hHeld ?_
            refine tq 10 39 hHeld ?_
            refine tq 11 40 hHeld ?_
            refine tq 12 41 hHeld ?_
            refine wpAnyH_done (by kernel_rfl) ?_ _
            go_wp2
            obtain ⟨t0, t1, t2, t3⟩ := tx4 (show wr.drew.drew.heap[w.heap.size + 1]? = _ from HKTr.out)
            obtain ⟨tz, tl⟩ := box8z (show wr.drew.drew.heap[w.heap.size + 1]? = _ from HKTr.out)
            have HKT9 : Hid ((wr.drew.drew.setCell ⟨w.heap.size + 1, 2, none⟩ (.int .i64 ((n + 16 : Nat) : Int))).heap[w.heap.size + 1]? = some (.cells #[.int .i64 4, .int .i64 i, .int .i64 ((n + 16 : Nat) : Int), .slice none 0 0] 59 (0, 0))) := box_set (i := 2) (v := .int .i64 ((n + 16 : Nat) : Int)) (show wr.drew.drew.heap[w.heap.size + 1]? = _ from HKTr.out)
            have HKR9 : Hid ((wr.drew.drew.setCell ⟨w.heap.size + 1, 2, none⟩ (.int .i64 ((n + 16 : Nat) : Int))).heap[w.heap.size]? = some (.cells #[.int .i64 0, .int .i64 0, .int .i64 0, .slice none 0 0] 59 (0, 0))) := box_other (k := w.heap.size + 1) (i := 2) (v := .int .i64 ((n + 16 : Nat) : Int)) (show wr.drew.drew.heap[w.heap.size]? = _ from HKRr.out) (by omega)
            have HB9 : Hid (Below w.heap.size w (wr.drew.drew.setCell ⟨w.heap.size + 1, 2, none⟩ (.int .i64 ((n + 16 : Nat) : Int)))) := HBr.out.drew.drew.setCell (p := ⟨w.heap.size + 1, 2, none⟩) (by simp) _
            refine wpS_begin 5 (S := fun w' => w'.cell? ⟨w.heap.size + 1, 2, none⟩ = some (.int .i64 (n : Int))) (tabS_of (by kernel_rfl) tab_one10) (by kernel_rfl) (t2) (fun hTb hHeld => ?_)
            refine tks 0 0 42 hTb hHeld ?_
            refine tks 1 1 43 hTb hHeld ?_
            refine tks 2 2 44 hTb hHeld ?_
            refine tks 3 3 45 hTb hHeld ?_
            refine tks 4 4 46 hTb hHeld ?_
            refine wpS_next (S' := fun w' => True) 5 7 hTb (by decide) (trivial) (fun hHeld => ?_)
            refine tks 5 5 47 hTb hHeld ?_
            refine cls 6 6 hTb (by decide) rfl rfl (fun K hK => ?_)
            go_simp
            refine hK.out _ _ (trivial) (fun hHeld => ?_)
            clear hK K
            refine wpS_end hTb ?_
            clear t0 t1 t2 t3 tz tl
            go_wp2
            go_roundw
            case rel => exact ⟨k + 1, 5, n + 16, by omega, by omega, by omega, by go_num, by go_num, by omega, HFX, HB9, HKR9, HKT9⟩
            case measure => simp [intOf]
          · skip
            have hy1 : (y == 82) = false := by simp [hy]
            have hy3 : (y == (((⟨#[83, 65, 70, 68, 82]⟩ : ByteArray)[4]).toNat : Int)) = false := hy1
            have HFX : Hid _ := HFL.out.trans (HDR.out ▸ fl_miss hy : _ = flagsM (lettersM.drop 5) 32 (n : Nat) (l.drop k))
            go_wp2
            refine wp_region_held_drew (S := fun w' => w'.cell? ⟨b, off + k, none⟩ = some (.int .u8 y)) (by kernel_rfl) ((HBr.out.drew.cell (p := ⟨b, off + k, none⟩) hlb).trans hyc) (fun hHeld => (show wpAnyH _ _ _ _ _ 13 #[false, false, false, false, false, false, false, false, false, false, false, false, false] _ _ from ?_))
            refine tq 0 29 hHeld ?_
            refine tq 1 30 hHeld ?_
            refine tq 2 31 hHeld ?_
            refine tq 3 32 hHeld ?_
            refine tq 4 33 hHeld ?_
            refine tq 5 34 hHeld ?_
            refine tq 6 35 hHeld ?_
            refine tq 7 36 hHeld ?_
            refine tq 8 37 hHeld ?_
            refine tq 9 38 hHeld ?_
            refine tq 10 39 hHeld ?_
            refine tq 11 40 hHeld ?_
            refine tq 12 41 hHeld ?_
            refine wpAnyH_done (by kernel_rfl) ?_ _
            go_wp2
            go_roundw
            case rel => exact ⟨k, 5, n, by omega, by omega, by omega, by go_num, by go_num, by omega, HFX, HBr.out.drew, HKRr.out, HKTr.out⟩
            case measure => simp [intOf]
        · obtain rfl : k = l.length := by omega
          have HDR : Hid (l.drop l.length = []) := by simp [Hid]
          have hdk : decide (l.length < l.length) = false := by simp
          have HFX : Hid _ := HFL.out.trans (HDR.out ▸ fl_end : _ = flagsM (lettersM.drop 5) 32 (n : Nat) (l.drop l.length))
          go_wp2
          refine wp_region_held_drew (S := fun w' => True) (by kernel_rfl) (trivial) (fun hHeld => (show wpAnyH _ _ _ _ _ 13 #[false, false, false, false, false, false, false, false, false, false, false, false, false] _ _ from ?_))
          refine tq 0 29 hHeld ?_
          refine tq 1 30 hHeld ?_
          refine tq 2 31 hHeld ?_
          refine tq 3 32 hHeld ?_
          refine tq 4 33 hHeld ?_
          refine wpAnyH_skips (by kernel_rfl) (fun _ _ _ _ _ h => h) hHeld [5, 6, 7, 8, 9, 10, 11] [34, 35, 36, 37, 38, 39, 40] _ _ _ (by kernel_rfl) ?_
          simp only [List.foldl_cons, List.foldl_nil, Act.put, sA, s0, sS]
          refine tq 12 41 hHeld ?_
          refine wpAnyH_done (by kernel_rfl) ?_ _
          go_wp2
          go_roundw
          case rel => exact ⟨l.length, 5, n, by omega, by omega, by omega, by go_num, by go_num, by omega, HFX, HBr.out.drew, HKRr.out, HKTr.out⟩
          case measure => simp [intOf]
end Go.Proofs.YtlegmiaoablcgaaDoor
