/- What toIntS, toAccount of package laws do. -/
import Derived.Test.YtnjicpdccpkbmaaExBox
namespace Go.Proofs.Ytnjicpdccpkbmaa
open Go.RowKit
set_option linter.unusedVariables false

theorem infoInt : (Try.prog.info? 3).map (fun i => (i.zero, i.size, i.bytes)) = some (some (.int .i64 0), 1, 8) := by kernel_rfl

set_option maxRecDepth 100000 in
set_option maxHeartbeats 1000000 in
theorem toIntS_r (v : Value) (l : List Int) (w : World) (hv : IntsV w v l) (hll : l.length ≤ 2000000) :
    Calls Try.prog 38 #[v] w fun e w' => ∃ u, e = .returned u ∧ IntsR w' w.heap.size w'.heap.size u l ∧ Below w.heap.size w w' := by
  have HV : Hid (∀ wi, Below w.heap.size w wi → IntsV wi v l) := fun wi h => hv.below keepsInt h
  obtain ⟨a, cap, rfl, hlc, hcm⟩ := hv.form
  clear hv
  obtain ⟨i0, hi, hz0, hz1, hz2⟩ := info_parts infoInt
  go_enter Try.func38, Try.ntmps38
  go_wp2_with (at_make; refine wpList_make_full _ rfl _ _ 32 rfl w.heap.size 3 i0 (.int .i64 0) 1 Try.underlying32 hi hz0 hz1 _ _ _ _ l.length rfl rfl rfl rfl ?b1 ?b2 ?b3 ?_)
  case b1 => rw [hz2]; omega
  case b2 => unfold maxLen; omega
  case b3 => exact Nat.le_refl _
  intro w1 hown hgrow
  have HB : Hid (Below w.heap.size w w1) := (Below.refl w.heap.size w).grown hgrow (Nat.le_refl _) (by simp)
  have HP : Hid (Part 3 1 IntE w1 w.heap.size l.length 0 l) := by obtain ⟨cur, h1, h2⟩ := made_part hown; exact Part.start h1 h2
  clear hown hgrow hi hz0 hz1 hz2
  go_wp2
  go_loopw [4] (fun i wr => ∃ k : Nat, k ≤ l.length ∧ i = .int .i64 k ∧ Hid (Part 3 1 IntE wr w.heap.size l.length k l) ∧ Hid (Below w.heap.size w wr)) (fun i _ => l.length - (intOf i).toNat)
  case atStart => exact ⟨0, Nat.zero_le _, rfl, HP, HB⟩
  case round =>
    obtain ⟨k, hk, rfl, hP, hB⟩ := hrel
    by_cases hlt : k < l.length
    · obtain ⟨x, hx⟩ : ∃ x, l[k]? = some x := ⟨l[k], List.getElem?_eq_getElem hlt⟩
      obtain ⟨b, off, cap', hv', hlb, d0, i0⟩ := IntsV.cell (HV.out wr hB.out) k x hx
      simp only [Value.slice.injEq, true_and] at hv'
      obtain ⟨rfl, rfl⟩ := hv'
      have HS : Hid (Part 3 1 IntE (put wr w.heap.size k [.int .i64 x]) w.heap.size l.length (k + 1) l) := by
        have := Part.step framesInt hP.out (Below.refl _ _) x hx hlt [.int .i64 x] rfl ⟨rfl, i0⟩
        rwa [Nat.mul_one] at this
      have hgl := hP.out.lt
      obtain ⟨⟨q0, t0⟩, z0⟩ := hP.out.cell k (by omega)
      clear hP
      go_wp2
      go_roundw
      case rel => exact ⟨k + 1, by omega, by go_num, HS, put_below hB.out (Nat.le_refl _) k [.int .i64 x]⟩
      case measure => simp [intOf]; omega
    · obtain rfl : k = l.length := by omega
      go_wp2
      go_ret
      exact ⟨_, rfl, Part.done hP.out rfl (by unfold maxLen; omega) (Nat.le_refl _), hB.out⟩

set_option maxRecDepth 100000 in
set_option maxHeartbeats 1000000 in
theorem toAccount_o (v : Value) (x : AccD) (w : World) (hv : AccV w v x) (h0 : szXs x.boxes ≤ 2000000) (h1 : x.seen.length ≤ 2000000) :
    Calls Try.prog 13 #[v] w fun e w' => ∃ u, e = .returned u ∧ AccO w' (In w.heap.size w'.heap.size) u x ∧ Below w.heap.size w w' := by
  obtain ⟨u0, u1, rfl, g0, g1, i0⟩ := hv
  obtain ⟨valid, boxes, seen⟩ := x
  simp only at g0 g1 i0 h0 h1
  have H0 : Hid (∀ wi, Below w.heap.size w wi → BoxesV wi u0 boxes ∧ IntsV wi u1 seen) := fun wi h => ⟨g0.below keepsBox h, g1.below keepsInt h⟩
  obtain ⟨a0, c0, rfl, -⟩ := g0.form
  obtain ⟨a1, c1, rfl, -⟩ := g1.form
  have HI : Hid (I64 valid) := i0
  clear g0 g1 i0
  simp only
  go_enter Try.func13, Try.ntmps13
  go_wp2_with fail
  refine (toBoxS_r _ boxes _ (H0.out _ (box3_below w _ _ _)).1 h0).mono ?_
  rintro e w1 ⟨u0, rfl, R0, B⟩
  obtain ⟨x0, m0, y0, rfl⟩ := R0.form3
  have b3 := box3 w (.cells #[.int .i64 valid, .slice a0 boxes.length c0, .slice a1 seen.length c1] 34) (.cells #[.int .i64 0, .slice none 0 0, .slice none 0 0] 39) (.cells #[.int .i64 valid, .slice none 0 0, .slice none 0 0] 39)
  have kA := box_below B b3.1
  have kR := box_below B b3.2.1
  have kO := box_below B b3.2.2
  have s1 : w.heap.size + 3 ≤ w1.heap.size := by have := B.size; simp at this; omega
  have X := Below.step (box3_below w _ _ _) B
  replace R0 := R0.wide (B' := w.heap.size + 3) (T' := w1.heap.size) (by simp) (Nat.le_refl _)
  clear b3 B
  obtain ⟨-, -, f2⟩ := bx3 kA
  obtain ⟨oz, ol⟩ := box8z kO
  obtain ⟨o0, o1, o2⟩ := bx3 kO
  go_wp2_with fail
  clear f2 oz ol o0 o1 o2
  replace X := X.setCell (p := ⟨w.heap.size + 1 + 1, 1, none⟩) (by simp; omega) (.slice x0 m0 y0)
  replace R0 := R0.set (g := w.heap.size + 1 + 1) (i := 1) (x := .slice x0 m0 y0) (.inl (by omega))
  replace kA := box_other (i := 1) (v := .slice x0 m0 y0) kA (show w.heap.size ≠ w.heap.size + 1 + 1 by omega)
  replace kR := box_other (i := 1) (v := .slice x0 m0 y0) kR (show w.heap.size + 1 ≠ w.heap.size + 1 + 1 by omega)
  replace kO : (World.setCell _ _ _).heap[w.heap.size + 1 + 1]? = some (Obj.cells #[.int .i64 valid, .slice x0 m0 y0, .slice none 0 0] 39) := box_set (i := 1) (v := .slice x0 m0 y0) kO
  refine (toIntS_r _ seen _ (H0.out _ X).2 h1).mono ?_
  rintro e w2 ⟨u1, rfl, R1, B⟩
  obtain ⟨x1, m1, y1, rfl⟩ := R1.form3
  simp only [box_size] at R1
  have s2 : w1.heap.size ≤ w2.heap.size := by have := B.size; simpa only [box_size] using this
  replace X := Below.step X B
  replace R0 := R0.below B
  replace kA := box_below B kA
  replace kR := box_below B kR
  replace kO := box_below B kO
  clear B
  obtain ⟨-, -, -⟩ := bx3 kA
  obtain ⟨oz, ol⟩ := box8z kO
  obtain ⟨o0, o1, o2⟩ := bx3 kO
  obtain ⟨rz, rl⟩ := box8z kR
  obtain ⟨r0, r1, r2⟩ := bx3 kR
  go_wp2
  refine bodyPost_ret (v := .agg #[.int .i64 valid, .slice x0 m0 y0, .slice x1 m1 y1]) (by simp [results, Try.results13, go_sem, r0, r1, r2]) rfl ⟨_, rfl, ?_, ?_⟩
  · simp only [box_size]
    exact ⟨_, _, In (w.heap.size + 3) w1.heap.size, In w1.heap.size w2.heap.size, rfl, OwR.ow (((((R0.set (g := w.heap.size + 1 + 1) (i := 2) (x := .slice x1 m1 y1) (.inl (by omega))).set (g := w.heap.size + 1) (i := 0) (x := .int .i64 valid) (.inl (by omega))).set (g := w.heap.size + 1) (i := 1) (x := .slice x0 m0 y0) (.inl (by omega))).set (g := w.heap.size + 1) (i := 2) (x := .slice x1 m1 y1) (.inl (by omega)))), OwR.ow (((((R1.set (g := w.heap.size + 1 + 1) (i := 2) (x := .slice x1 m1 y1) (.inl (by omega))).set (g := w.heap.size + 1) (i := 0) (x := .int .i64 valid) (.inl (by omega))).set (g := w.heap.size + 1) (i := 1) (x := .slice x0 m0 y0) (.inl (by omega))).set (g := w.heap.size + 1) (i := 2) (x := .slice x1 m1 y1) (.inl (by omega)))), fun x h => ⟨⟨Nat.le_trans (by omega) h.1, Nat.lt_of_lt_of_le h.2 (by omega)⟩, fun h' => Nat.not_le_of_lt h.2 h'.1⟩, fun x h => ⟨Nat.le_trans (by omega) h.1, h.2⟩, HI.out⟩
  · exact ((((X.setCell (p := ⟨w.heap.size + 1 + 1, 2, none⟩) (by simp <;> omega) (.slice x1 m1 y1)).setCell (p := ⟨w.heap.size + 1, 0, none⟩) (by simp <;> omega) (.int .i64 valid)).setCell (p := ⟨w.heap.size + 1, 1, none⟩) (by simp <;> omega) (.slice x0 m0 y0)).setCell (p := ⟨w.heap.size + 1, 2, none⟩) (by simp <;> omega) (.slice x1 m1 y1))

end Go.Proofs.Ytnjicpdccpkbmaa
