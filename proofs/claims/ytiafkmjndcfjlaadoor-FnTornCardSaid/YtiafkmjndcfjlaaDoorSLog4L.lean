/- What l2write of package spec does. -/
import Derived.Test.YtiafkmjndcfjlaaDoorSLog3F
import Derived.Test.YtiafkmjndcfjlaaDoorWrM
namespace Go.Proofs.YtiafkmjndcfjlaaDoor
open Go.RowKit
set_option maxRecDepth 100000

set_option maxHeartbeats 1000000 in
theorem l2write_x (v0 v1 u : Value) (a b r : List Int) (w : World) (g0 : Bs w v0 a) (g1 : Bs w v1 b) (hu : Bs w u r) (ha : a.length ≤ 2000000) (hb : b.length ≤ 2000000) (hr : r.length ≤ 2000000) :
    Calls Tryd.prog 36 #[.agg #[v0, v1], u] w fun e w' => ∃ y, e = .returned (.tuple #[.agg #[v0, y], .bool (fitsB a b r)]) ∧ Bs w' y (writeB a b r) ∧ (fitsB a b r = true → Row w' w.heap.size w'.heap.size y (b ++ frameL r)) ∧ Below w.heap.size w w' := by
  obtain ⟨i0, hi, hz0, hz1, hz2⟩ := info_parts info5
  have HW : Hid (∀ wi, Below w.heap.size w wi → Bs wi v0 a ∧ Bs wi v1 b ∧ Bs wi u r) := fun wi h => ⟨g0.below h, g1.below h, hu.below h⟩
  obtain ⟨a0, c0, rfl⟩ := g0.form
  obtain ⟨a1, c1, rfl⟩ := g1.form
  obtain ⟨a2, c2, rfl⟩ := hu.form
  clear g0 g1 hu
  have hb2 := boxes2 w (.cells #[.slice a0 a.length c0, .slice a1 b.length c1] 24) (.cells #[.slice none 0 0, .slice none 0 0] 24)
  have hfl := frameL_length r
  go_enter Tryd.func36, Tryd.ntmps36
  go_wp2_with fail
  refine (l2frame_r _ r _ (HW.out _ hb2.2.2).2.2 hr).mono ?_
  rintro e w1 ⟨f, rfl, R, B⟩
  have k0 := box_below B hb2.1
  have k1 := box_below B hb2.2.1
  have HX : Hid (Below w.heap.size w w1) := Below.step hb2.2.2 B
  have s1 : w.heap.size + 1 < w1.heap.size := lt_of_heap k1
  obtain ⟨f00, f01, z00, z01, -⟩ := box2 k0
  obtain ⟨f10, f11, z10, z11, -⟩ := box2 k1
  change Row w1 _ _ f (frameL r) at R
  obtain ⟨x3, y3, rfl⟩ := R.bs.form
  have HF : Hid (Bs w1 (.slice x3 (frameL r).length y3) (frameL r)) := R.bs
  generalize hFe : frameL r = F at *
  have HFE : Hid (frameL r = F) := hFe
  have HKK : Hid (w1.heap[w.heap.size]? = some (.cells #[.slice a0 a.length c0, .slice a1 b.length c1] 24)) := k0
  clear hb2 B k0 R hFe
  have HK0 : Hid (w1.heap[w.heap.size + 1]? = some (.cells #[.slice none 0 0, .slice none 0 0] 24)) := k1
  clear k1
  by_cases hfit : r.length ≤ 6000 ∧ F.length + a.length + b.length ≤ 1000000
  · obtain ⟨h1, h2⟩ := hfit
    have HP : Hid (fitsB a b r = true) := by unfold Hid fitsB; rw [HFE.out]; simp [h1, h2]
    have HQ : Hid (writeB a b r = b ++ F) := by unfold Hid writeB; rw [HP.out, HFE.out]; rfl
    have h1' : ¬ (6000 : Int) < (r.length : Int) := by omega
    have h2' : ¬ (1000000 - (a.length : Int) - (b.length : Int)) < (F.length : Int) := by omega
    have HE : Hid (OwnB (w1.alloc (.cells #[] 5)) w1.heap.size (.slice (some ⟨w1.heap.size, 0, none⟩) 0 0) []) := ownB_empty w1 _ (Nat.le_refl _)
    have HB : Hid (Below w1.heap.size w1 (w1.alloc (.cells #[] 5))) := (Below.refl _ _).alloc (Nat.le_refl _) _
    have s0 : w.heap.size < w1.heap.size := by omega
    have s00 : ¬ w.heap.size = w1.heap.size := by omega
    have HT : Hid (Bs w1 (.slice a1 b.length c1) b) := (HW.out _ HX.out).2.1
    go_wp2_with (at_builtin; refine wpList_append_bytes rfl (.tmp 26) (.tmp 28) 22 rfl i0 Tryd.underlying22 hi hz0 hz1 hz2 w1.heap.size _ [] rfl HE.out _ b rfl (HT.out.alloc _) (by simp; omega) (by simp) w1 HB.out ?_)
    intro v2 w2 hO2 hB2 _
    have HO2 : Hid (OwnB w2 w1.heap.size v2 b) := hO2
    have HF2 : Hid (Bs w2 (.slice x3 F.length y3) F) := HF.out.below hB2
    clear hO2
    go_wp2_with (at_builtin; refine wpList_append_bytes rfl (.tmp 29) (.tmp 30) 22 rfl i0 Tryd.underlying22 hi hz0 hz1 hz2 w1.heap.size _ b rfl HO2.out _ F rfl HF2.out (by omega) hB2.size w1 hB2 ?_)
    intro v3 w3 hO3 hB3 _
    obtain ⟨x4, n4, y4, rfl⟩ := hO3.bs.form3
    clear f00 f01 z00 z01 f10 f11 z10 z11
    obtain ⟨f00, f01, z00, z01, -⟩ := box2 (box_below hB3 HKK.out)
    obtain ⟨f10, f11, z10, z11, -⟩ := box2 (box_below hB3 HK0.out)
    have HX3 : Hid (Below w.heap.size w w3) := Below.step HX.out hB3
    have HR : Hid (Row w3 w1.heap.size w3.heap.size (.slice x4 n4 y4) (b ++ F)) := hO3.toRow
    clear hO3 hB3 HO2 HF2 HE HB HT hB2 HW HF
    go_wp2
    refine bodyPost_ret (v := .tuple #[.agg #[.slice a0 a.length c0, .slice x4 n4 y4], .bool true]) (by simp [results, Tryd.results36, go_sem, f10, f11]) rfl ?_
    rw [HP.out, HQ.out]
    have hB5 := ((HX3.out.setCell (p := ⟨w.heap.size, 1, none⟩) (Nat.le_refl _) (.slice x4 n4 y4)).setCell (p := ⟨w.heap.size + 1, 0, none⟩) (by simp) (.slice a0 a.length c0)).setCell (p := ⟨w.heap.size + 1, 1, none⟩) (by simp) (.slice x4 n4 y4)
    have hR5 := ((HR.out.set (g := w.heap.size) (i := 1) (x := .slice x4 n4 y4) (.inl (by omega))).set (g := w.heap.size + 1) (i := 0) (x := .slice a0 a.length c0) (.inl (by omega))).set (g := w.heap.size + 1) (i := 1) (x := .slice x4 n4 y4) (.inl (by omega))
    exact ⟨_, rfl, hR5.bs, fun _ => by rw [HFE.out]; exact hR5.wide (by omega) (by simp [World.setCell]), hB5⟩
  · have HP : Hid (fitsB a b r = false) := by unfold Hid fitsB; rw [HFE.out]; simp only [decide_eq_false_iff_not]; exact hfit
    have HQ : Hid (writeB a b r = b) := by unfold Hid writeB; rw [HP.out]; rfl
    have HA : Hid (∀ wi, Below w.heap.size w wi → Bs wi (.slice a0 a.length c0) a ∧ Bs wi (.slice a1 b.length c1) b) := fun wi h => ⟨(HW.out wi h).1, (HW.out wi h).2.1⟩
    have hcase : ¬ r.length ≤ 6000 ∨ (r.length ≤ 6000 ∧ ¬ F.length + a.length + b.length ≤ 1000000) := by omega
    clear HW HF hfit HKK HK0
    rcases hcase with h1 | ⟨h1, h2⟩
    · have h1' : (6000 : Int) < (r.length : Int) := by omega
      go_wp2
      refine bodyPost_ret (v := .tuple #[.agg #[.slice a0 a.length c0, .slice a1 b.length c1], .bool false]) (by simp [results, Tryd.results36, go_sem, f10, f11]) rfl ?_
      rw [HP.out, HQ.out]
      have hB5 := (HX.out.setCell (p := ⟨w.heap.size + 1, 0, none⟩) (by simp) (.slice a0 a.length c0)).setCell (p := ⟨w.heap.size + 1, 1, none⟩) (by simp) (.slice a1 b.length c1)
      exact ⟨_, rfl, (HA.out _ hB5).2, fun h => (by cases h), hB5⟩
    · have h1' : ¬ (6000 : Int) < (r.length : Int) := by omega
      have h2' : (1000000 - (a.length : Int) - (b.length : Int)) < (F.length : Int) := by omega
      go_wp2
      refine bodyPost_ret (v := .tuple #[.agg #[.slice a0 a.length c0, .slice a1 b.length c1], .bool false]) (by simp [results, Tryd.results36, go_sem, f10, f11]) rfl ?_
      rw [HP.out, HQ.out]
      have hB5 := (HX.out.setCell (p := ⟨w.heap.size + 1, 0, none⟩) (by simp) (.slice a0 a.length c0)).setCell (p := ⟨w.heap.size + 1, 1, none⟩) (by simp) (.slice a1 b.length c1)
      exact ⟨_, rfl, (HA.out _ hB5).2, fun h => (by cases h), hB5⟩

theorem l2write_r (v u : Value) (a b r : List Int) (w : World) (hv : LogV w v a b) (hu : Bs w u r) (ha : a.length ≤ 2000000) (hb : b.length ≤ 2000000) (hr : r.length ≤ 2000000) :
    Calls Tryd.prog 36 #[v, u] w fun e w' => ∃ x, e = .returned (.tuple #[x, .bool (fitsB a b r)]) ∧ LogV w' x a (writeB a b r) ∧ Below w.heap.size w w' := by
  obtain ⟨v0, v1, rfl, g0, g1⟩ := hv
  exact (l2write_x v0 v1 u a b r w g0 g1 hu ha hb hr).mono fun _ _ ⟨y, h1, h2, _, h3⟩ => ⟨_, h1, ⟨_, _, rfl, g0.below h3, h2⟩, h3⟩

end Go.Proofs.YtiafkmjndcfjlaaDoor
