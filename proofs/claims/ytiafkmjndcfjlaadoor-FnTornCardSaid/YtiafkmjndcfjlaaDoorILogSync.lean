/- What Sync of package impl does. -/
import Derived.Test.YtiafkmjndcfjlaaDoorILogCrashM
namespace Go.Proofs.YtiafkmjndcfjlaaDoor
open Go.RowKit
set_option maxRecDepth 100000

set_option maxHeartbeats 1000000 in
/-- The method: the log of block g has its tail behind its safe bytes. -/
theorem sync_m (g : Nat) (v0 v1 : Value) (a b : List Int) (w : World) (hg : w.heap[g]? = some (.cells #[v0, v1] 24 (0, 0))) (g0 : Bs w v0 a) (g1 : Bs w v1 b) (ha : a.length ≤ 4000000) (hb : b.length ≤ 4000000) :
    Calls Tryd.prog 25 #[.pointer (some ⟨g, 0, none⟩)] w fun e w' => (∃ z, e = .returned z) ∧ ∃ u, w'.heap[g]? = some (.cells #[u, .slice none 0 0] 24 (0, 0)) ∧ Row w' w.heap.size w'.heap.size u (a ++ b) ∧ Within g (g + 1) w w' := by
  obtain ⟨a1, c1, rfl⟩ := g1.form
  have HG : Hid (w.heap[g]? = some (.cells #[v0, .slice a1 b.length c1] 24 (0, 0)) ∧ Bs w v0 a ∧ Bs w (.slice a1 b.length c1) b) := ⟨hg, g0, g1⟩
  obtain ⟨f0, f1, z0, z1, -⟩ := box2 hg
  have hlt := lt_of_heap hg
  clear hg g0 g1
  go_enter Tryd.func25, Tryd.ntmps25
  go_wp2_with fail
  refine (crash_m _ _ _ a b b.length _ HG.out.1 HG.out.2.1 HG.out.2.2 ha hb (by omega) (by omega)).mono ?_
  rintro e w2 ⟨⟨z, rfl⟩, u, k0, R, B⟩
  have e : b.take (keepN b.length b.length) = b := by unfold keepN; rw [if_neg (by omega)]; simp
  rw [e] at R
  have HR : Hid (w2.heap[g]? = some (.cells #[u, .slice none 0 0] 24 (0, 0)) ∧ Row w2 w.heap.size w2.heap.size u (a ++ b) ∧ Within g (g + 1) w w2) := ⟨k0, R, B⟩
  clear k0 R B e f0 f1 z0 z1
  go_wp2
  go_end0
  exact ⟨⟨_, rfl⟩, _, HR.out⟩

set_option maxHeartbeats 1000000 in
theorem implSync_r (v : Value) (a b : List Int) (w : World) (hv : LogV w v a b) (ha : a.length ≤ 4000000) (hb : b.length ≤ 4000000) :
    Calls Tryd.prog 11 #[v] w fun e w' => ∃ u, e = .returned u ∧ LogR w' w.heap.size w'.heap.size u (syncA a b) [] ∧ Below w.heap.size w w' := by
  have HV : Hid (∀ wi, Below w.heap.size w wi → LogV wi v a b) := fun wi h => hv.below h
  obtain ⟨v0, v1, rfl, g0, g1⟩ := hv
  have HW : Hid (∀ wi, Below w.heap.size w wi → Bs wi v0 a ∧ Bs wi v1 b) := fun wi h => ⟨g0.below h, g1.below h⟩
  obtain ⟨a0, n0, c0, rfl⟩ := g0.form3
  obtain ⟨a1, n1, c1, rfl⟩ := g1.form3
  clear g0 g1
  have hb2 := boxes2 w (.cells #[.slice a0 n0 c0, .slice a1 n1 c1] 24) (.cells #[.slice none 0 0, .slice none 0 0] 24)
  go_enter Tryd.func11, Tryd.ntmps11
  go_wp2_with fail
  refine (implLogOk_any _ a b _ (HV.out _ hb2.2.2) (by omega) (by omega)).mono ?_
  rintro e w1 ⟨rfl, B⟩
  have k0 := box_below B hb2.1
  have k1 := box_below B hb2.2.1
  have HX : Hid (Below w.heap.size w w1) := Below.step hb2.2.2 B
  have s1 : w.heap.size + 1 < w1.heap.size := lt_of_heap k1
  obtain ⟨f10, f11, z10, z11, -⟩ := box2 k1
  have HK : Hid (w1.heap[w.heap.size]? = some (.cells #[.slice a0 n0 c0, .slice a1 n1 c1] 24) ∧ w1.heap[w.heap.size + 1]? = some (.cells #[.slice none 0 0, .slice none 0 0] 24)) := ⟨k0, k1⟩
  clear hb2 B k0 k1 HV
  by_cases hok : a.length + b.length ≤ 1000000
  · have HP : Hid (syncA a b = a ++ b) := by simp [Hid, syncA, hok]
    have hd : decide (a.length + b.length ≤ 1000000) = true := by simp [hok]
    go_wp2_with fail
    refine (sync_m _ _ _ a b _ HK.out.1 (HW.out _ HX.out).1 (HW.out _ HX.out).2 ha hb).mono ?_
    rintro e w2 ⟨⟨z, rfl⟩, u, k0, R, B⟩
    rw [← HP.out] at R
    clear f10 f11 z10 z11
    have k1 := box_within B HK.out.2 (by omega)
    have hs2 := B.size
    have HX2 : Hid (Below w.heap.size w w2) := Within.below (B.wide (Nat.le_refl _) (Nat.le_refl _)) HX.out (Nat.le_refl _)
    obtain ⟨r0, r1, r2, rfl⟩ := R.bs.form3
    have HR : Hid (Row w2 w1.heap.size w2.heap.size (.slice r0 r1 r2) (syncA a b)) := R
    obtain ⟨f00, f01, -⟩ := box2 k0
    obtain ⟨f10, f11, z10, z11, -⟩ := box2 k1
    clear R B k0 k1 HK
    go_wp2
    refine bodyPost_ret (v := .agg #[.slice r0 r1 r2, .slice none 0 0]) (by simp [results, Tryd.results11, go_sem, f10, f11]) rfl ⟨_, rfl, ?_, ?_⟩
    · exact ⟨_, _, w1.heap.size, w2.heap.size, w2.heap.size, _, rfl, (HR.out.set (.inl (by omega))).set (.inl (by omega)), Row.nil _ _ _, by omega, by simp [World.setCell], by omega, Nat.le_refl _, .inl (Nat.le_refl _)⟩
    · exact (HX2.out.setCell (by simp) _).setCell (by simp) _
  · have HP : Hid (syncA a b = []) := by simp [Hid, syncA, hok]
    have hd : decide (a.length + b.length ≤ 1000000) = false := by simp [hok]
    go_wp2
    refine bodyPost_ret (v := .agg #[.slice none 0 0, .slice none 0 0]) (by simp [results, Tryd.results11, go_sem, f10, f11]) rfl ⟨_, rfl, ?_, ?_⟩
    · rw [HP.out]; exact LogR.zero _ _ _ (by have := HX.out.size; simp [World.setCell]; omega)
    · exact (HX.out.setCell (by simp) _).setCell (by simp) _

end Go.Proofs.YtiafkmjndcfjlaaDoor
