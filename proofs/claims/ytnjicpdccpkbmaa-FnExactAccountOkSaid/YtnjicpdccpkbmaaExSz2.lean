/- What szBoxS, szIntS, szAccount of package laws do. -/
import Derived.Test.YtnjicpdccpkbmaaExSz
namespace Go.Proofs.Ytnjicpdccpkbmaa
open Go.RowKit
set_option linter.unusedVariables false

set_option maxRecDepth 100000 in
set_option maxHeartbeats 1000000 in
theorem szIntS_any (v : Value) (l : List Int) (left : Int) (w : World) (hv : IntsV w v l) (h0 : 0 ≤ left) (h1 : left ≤ 4000000) :
    Calls Try.prog 35 #[v, .int .i64 left] w fun e w' => ∃ y : Int, e = .returned (.int .i64 y) ∧ (y = -1 ∨ (0 ≤ y ∧ y + l.length = left)) ∧ Below w.heap.size w w' := by
  obtain ⟨a, cap, rfl, hlc, hcm⟩ := hv.form
  clear hv
  by_cases hb : left - (l.length : Int) < 0
  · go_enter Try.func35, Try.ntmps35
    go_wp2
    go_ret
    exact ⟨-1, rfl, .inl rfl, Below.refl _ _⟩
  · go_enter Try.func35, Try.ntmps35
    go_wp2
    go_ret
    exact ⟨left - l.length, rfl, .inr ⟨by omega, by omega⟩, Below.refl _ _⟩

set_option maxRecDepth 100000 in
set_option maxHeartbeats 1000000 in
theorem szBoxS_any (v : Value) (l : List BoxD) (left : Int) (w : World) (hv : BoxesV w v l) (h0 : 0 ≤ left) (h1 : left ≤ 4000000) :
    Calls Try.prog 34 #[v, .int .i64 left] w fun e w' => ∃ y : Int, e = .returned (.int .i64 y) ∧ (y = -1 ∨ (0 ≤ y ∧ y + szXs l = left)) ∧ Below w.heap.size w w' := by
  have HV : Hid (∀ wi, Below w.heap.size w wi → BoxesV wi v l) := fun wi h => hv.below keepsBox h
  obtain ⟨a, cap, rfl, hlc, hcm⟩ := hv.form
  clear hv
  by_cases hb : left - (l.length : Int) < 0
  · go_enter Try.func34, Try.ntmps34
    go_wp2
    go_ret
    exact ⟨-1, rfl, .inl rfl, Below.refl _ _⟩
  · go_enter Try.func34, Try.ntmps34
    go_wp2
    go_loopw [1, 5] (fun q i wr => ∃ (k : Nat) (y : Int), k ≤ l.length ∧ i = .int .i64 k ∧ q = .int .i64 y ∧ 0 ≤ y ∧ Hid (y + l.length + tot (szX) (l.take k) = left) ∧ Hid (Below w.heap.size w wr)) (fun _ i _ => l.length - (intOf i).toNat)
    case atStart => exact ⟨0, left - l.length, Nat.zero_le _, rfl, rfl, by omega, (show Hid _ from by simp [Hid, tot]), Below.refl _ _⟩
    case round =>
      obtain ⟨k, y, hk, rfl, rfl, hy0, hy1, hB⟩ := hrel
      by_cases hlt : k < l.length
      · obtain ⟨x, hx⟩ : ∃ x, l[k]? = some x := ⟨l[k], List.getElem?_eq_getElem hlt⟩
        obtain ⟨b, off, cap', u0, u1, u2, hv', hlb, d0, d1, d2, d3, d4, d5, d6, hu0, hu1, hu2, i0, i1, i2, i3⟩ := BoxesV.cell (HV.out wr hB.out) k x hx
        simp only [Value.slice.injEq, true_and] at hv'
        obtain ⟨rfl, rfl⟩ := hv'
        obtain ⟨ua, un, uc, rfl⟩ := hu0.form3
        obtain ⟨va, vc, rfl, -⟩ := hu1.form
        obtain ⟨wa, wc, rfl, -⟩ := hu2.form
        have HT : Hid (tot (szX) (l.take (k + 1)) = tot (szX) (l.take k) + (szX) x) := tot_succ _ hx
        go_wp2_with fail
        refine (szBox_any _ x _ _ ⟨_, _, _, rfl, hu0, hu1, hu2, i0, i1, i2, i3⟩ hy0 (by have := hy1.out; omega)).mono ?_
        rintro e w2 ⟨y2, rfl, hy2, B⟩
        have HB2 : Hid (Below w.heap.size w w2) := Below.step hB.out B
        clear B hB d0 d1 d2 d3 d4 d5 d6
        rcases hy2 with rfl | ⟨q0, q1⟩
        · go_wp2
          go_ret
          exact ⟨-1, rfl, .inl rfl, HB2.out⟩
        · have HE : Hid (y2 + l.length + tot (szX) (l.take (k + 1)) = left) := by
            have h1 := HT.out
            have h2 := hy1.out
            simp only [Hid]
            omega
          clear q1
          go_wp2
          go_roundw
          case rel => exact ⟨k + 1, y2, by omega, by go_num, rfl, q0, HE, HB2⟩
          case measure => simp [intOf]; omega
      · obtain rfl : k = l.length := by omega
        go_wp2
        go_ret
        refine ⟨y, rfl, .inr ⟨hy0, ?_⟩, hB.out⟩
        have h2 := hy1.out
        rw [List.take_length] at h2
        have h3 := szXs_tot l
        omega

set_option maxRecDepth 100000 in
set_option maxHeartbeats 1000000 in
theorem szAccount_any (v : Value) (x : AccD) (left : Int) (w : World) (hv : AccV w v x) (h0 : 0 ≤ left) (h1 : left ≤ 4000000) :
    Calls Try.prog 11 #[v, .int .i64 left] w fun e w' => ∃ y : Int, e = .returned (.int .i64 y) ∧ (y = -1 ∨ (0 ≤ y ∧ y + (szXs x.boxes + x.seen.length : Nat) = left)) ∧ Below w.heap.size w w' := by
  obtain ⟨u0, u1, rfl, g0, g1, -⟩ := hv
  obtain ⟨valid, boxes, seen⟩ := x
  simp only at g0 g1
  have H0 : Hid (∀ wi, Below w.heap.size w wi → BoxesV wi u0 boxes ∧ IntsV wi u1 seen) := fun wi h => ⟨g0.below keepsBox h, g1.below keepsInt h⟩
  obtain ⟨a0, c0, rfl, -⟩ := g0.form
  obtain ⟨a1, c1, rfl, -⟩ := g1.form
  clear g0 g1
  simp only
  have X : Below w.heap.size w (w.alloc (.cells #[.int .i64 valid, .slice a0 boxes.length c0, .slice a1 seen.length c1] 34)) := (Below.refl _ _).alloc (Nat.le_refl _) _
  have kA := box_new w (.cells #[.int .i64 valid, .slice a0 boxes.length c0, .slice a1 seen.length c1] 34)
  go_enter Try.func11, Try.ntmps11
  go_wp2_with fail
  refine (szBoxS_any _ boxes left _ (H0.out _ X).1 h0 h1).mono ?_
  rintro e w1 ⟨y0, rfl, hy, B⟩
  replace X := Below.step X B
  replace kA := box_below B kA
  clear B
  obtain ⟨f0, f1, f2⟩ := bx3 kA
  rcases hy with rfl | ⟨q0, p0⟩
  · go_wp2
    go_ret
    exact ⟨-1, rfl, .inl rfl, X⟩
  go_wp2_with fail
  clear f0 f1 f2
  refine (szIntS_any _ seen y0 _ (H0.out _ X).2 q0 (by omega)).mono ?_
  rintro e w2 ⟨y1, rfl, hy, B⟩
  replace X := Below.step X B
  replace kA := box_below B kA
  clear B
  obtain ⟨f0, f1, f2⟩ := bx3 kA
  rcases hy with rfl | ⟨q1, p1⟩
  · go_wp2
    go_ret
    exact ⟨-1, rfl, .inl rfl, X⟩
  go_wp2
  go_ret
  exact ⟨y1, rfl, .inr ⟨q1, by omega⟩, X⟩

end Go.Proofs.Ytnjicpdccpkbmaa
