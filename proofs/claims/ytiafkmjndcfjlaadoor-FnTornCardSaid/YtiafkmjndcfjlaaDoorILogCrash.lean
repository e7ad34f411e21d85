/- What Crash of package impl does. -/
import Derived.Test.YtiafkmjndcfjlaaDoorILogCrashM
namespace Go.Proofs.YtiafkmjndcfjlaaDoor
open Go.RowKit
set_option maxRecDepth 100000

set_option maxHeartbeats 1000000 in
theorem implCrash_r (v : Value) (a b : List Int) (keep : Int) (w : World) (hv : LogV w v a b) (ha : a.length ≤ 4000000) (hb : b.length ≤ 4000000) (hn0 : -9223372036854775808 ≤ keep) (hn1 : keep ≤ 9223372036854775807) :
    Calls Tryd.prog 14 #[v, .int .i64 keep] w fun e w' => ∃ u, e = .returned u ∧ LogR w' w.heap.size w'.heap.size u (crashA a b keep) [] ∧ Below w.heap.size w w' := by
  have HV : Hid (∀ wi, Below w.heap.size w wi → LogV wi v a b) := fun wi h => hv.below h
  obtain ⟨v0, v1, rfl, g0, g1⟩ := hv
  have HW : Hid (∀ wi, Below w.heap.size w wi → Bs wi v0 a ∧ Bs wi v1 b) := fun wi h => ⟨g0.below h, g1.below h⟩
  obtain ⟨a0, n0, c0, rfl⟩ := g0.form3
  obtain ⟨a1, n1, c1, rfl⟩ := g1.form3
  clear g0 g1
  have hb2 := boxes2 w (.cells #[.slice a0 n0 c0, .slice a1 n1 c1] 24) (.cells #[.slice none 0 0, .slice none 0 0] 24)
  go_enter Tryd.func14, Tryd.ntmps14
  go_wp2_with fail
  refine (implLogOk_any _ a b _ (HV.out _ hb2.2.2) (by omega) (by omega)).mono ?_
  rintro e w1 ⟨rfl, B⟩
  have k0 := box_below B hb2.1
  have k1 := box_below B hb2.2.1
  have HX : Hid (Below w.heap.size w w1) := Below.step hb2.2.2 B
  have s1 : w.heap.size + 1 < w1.heap.size := lt_of_heap k1
  obtain ⟨f10, f11, z10, z11, -⟩ := box2 k1
  have HK : Hid (w1.heap[w.heap.size]? = some (.cells #[.slice a0 n0 c0, .slice a1 n1 c1] 24) ∧ w1.heap[w.heap.size + 1]? = some (.cells #[.slice none 0 0, .slice none 0 0] 24)) := ⟨k0, k1⟩
  clear hb2 B k0 k1 HV
  by_cases hok : a.length + b.length ≤ 1000000
  · have HP : Hid (crashA a b keep = a ++ b.take (keepN b.length keep)) := by simp [Hid, crashA, hok]
    have hd : decide (a.length + b.length ≤ 1000000) = true := by simp [hok]
    go_wp2_with fail
    refine (crash_m _ _ _ a b keep _ HK.out.1 (HW.out _ HX.out).1 (HW.out _ HX.out).2 ha hb hn0 hn1).mono ?_
    rintro e w2 ⟨⟨z, rfl⟩, u, k0, R, B⟩
    rw [← HP.out] at R
    clear f10 f11 z10 z11
    have k1 := box_within B HK.out.2 (by omega)
    have hs2 := B.size
    have HX2 : Hid (Below w.heap.size w w2) := Within.below (B.wide (Nat.le_refl _) (Nat.le_refl _)) HX.out (Nat.le_refl _)
    obtain ⟨r0, r1, r2, rfl⟩ := R.bs.form3
    have HR : Hid (Row w2 w1.heap.size w2.heap.size (.slice r0 r1 r2) (crashA a b keep)) := R
    obtain ⟨f00, f01, -⟩ := box2 k0
    obtain ⟨f10, f11, z10, z11, -⟩ := box2 k1
    clear R B k0 k1 HK
    go_wp2
    refine bodyPost_ret (v := .agg #[.slice r0 r1 r2, .slice none 0 0]) (by simp [results, Tryd.results14, go_sem, f10, f11]) rfl ⟨_, rfl, ?_, ?_⟩
    · exact ⟨_, _, w1.heap.size, w2.heap.size, w2.heap.size, _, rfl, (HR.out.set (.inl (by omega))).set (.inl (by omega)), Row.nil _ _ _, by omega, by simp [World.setCell], by omega, Nat.le_refl _, .inl (Nat.le_refl _)⟩
    · exact (HX2.out.setCell (by simp) _).setCell (by simp) _
  · have HP : Hid (crashA a b keep = []) := by simp [Hid, crashA, hok]
    have hd : decide (a.length + b.length ≤ 1000000) = false := by simp [hok]
    go_wp2
    refine bodyPost_ret (v := .agg #[.slice none 0 0, .slice none 0 0]) (by simp [results, Tryd.results14, go_sem, f10, f11]) rfl ⟨_, rfl, ?_, ?_⟩
    · rw [HP.out]; exact LogR.zero _ _ _ (by have := HX.out.size; simp [World.setCell]; omega)
    · exact (HX.out.setCell (by simp) _).setCell (by simp) _

end Go.Proofs.YtiafkmjndcfjlaaDoor
