/- What l2sync of package spec does. -/
import Derived.Test.YtiafkmjndcfjlaaDoorSLog0
import Derived.Test.YtiafkmjndcfjlaaDoorLogM
namespace Go.Proofs.YtiafkmjndcfjlaaDoor
open Go.RowKit
set_option maxRecDepth 100000

set_option maxHeartbeats 1000000 in
theorem l2sync_r (v : Value) (a b : List Int) (w : World) (hv : LogV w v a b) (ha : a.length ≤ 4000000) (hb : b.length ≤ 4000000) :
    Calls Tryd.prog 37 #[v] w fun e w' => ∃ u, e = .returned u ∧ LogR w' w.heap.size w'.heap.size u (a ++ b) [] ∧ Below w.heap.size w w' := by
  obtain ⟨v0, v1, rfl, g0, g1⟩ := hv
  obtain ⟨i0, hi, hz0, hz1, hz2⟩ := info_parts info5
  have HW : Hid (∀ wi, Below w.heap.size w wi → Bs wi v0 a ∧ Bs wi v1 b) := fun wi h => ⟨g0.below h, g1.below h⟩
  obtain ⟨a0, c0, rfl⟩ := g0.form
  obtain ⟨a1, c1, rfl⟩ := g1.form
  clear g0 g1
  obtain ⟨f0, f1, f2, f3, z0, z1, X⟩ := two_boxes w 24 24 (.slice a0 a.length c0) (.slice a1 b.length c1) (.slice none 0 0) (.slice none 0 0)
  obtain ⟨W, hW⟩ : ∃ W, W = (w.alloc (.cells #[.slice a0 a.length c0, .slice a1 b.length c1] 24)).alloc (.cells #[.slice none 0 0, .slice none 0 0] 24) := ⟨_, rfl⟩
  have hWs : W.heap.size = w.heap.size + 1 + 1 := by rw [hW]; simp
  have HS : Hid (∀ w', Below W.heap.size W w' → w'.cell? ⟨w.heap.size, 0, none⟩ = some (.slice a0 a.length c0) ∧ w'.cell? ⟨w.heap.size, 1, none⟩ = some (.slice a1 b.length c1) ∧ w'.cell? ⟨w.heap.size + 1, 0, none⟩ = some (.slice none 0 0) ∧ w'.cell? ⟨w.heap.size + 1, 1, none⟩ = some (.slice none 0 0) ∧ w'.frozen? ⟨w.heap.size + 1, 0, none⟩ = false ∧ w'.frozen? ⟨w.heap.size + 1, 1, none⟩ = false ∧ Bs w' (.slice a0 a.length c0) a ∧ Bs w' (.slice a1 b.length c1) b ∧ Below w.heap.size w w') := by
    subst hW
    intro w' h
    have hX : Below w.heap.size w w' := Below.step X h
    exact ⟨(h.cell (by simp; omega)).trans f0, (h.cell (by simp; omega)).trans f1, (h.cell (by simp)).trans f2, (h.cell (by simp)).trans f3, (h.frozen (by simp)).trans z0, (h.frozen (by simp)).trans z1, (HW.out _ hX).1, (HW.out _ hX).2, hX⟩
  have HE : Hid (OwnB (W.alloc (.cells #[] 5)).drew W.heap.size (.slice (some ⟨W.heap.size, 0, none⟩) 0 0) []) := ownB_empty W _ (Nat.le_refl _)
  have HB : Hid (Below W.heap.size W (W.alloc (.cells #[] 5)).drew) := ((Below.refl _ _).alloc (Nat.le_refl _) _).drew
  have HZ : Hid (W.heap.size ≤ (W.alloc (.cells #[] 5)).drew.heap.size) := HB.out.size
  rw [hWs] at HE HB HS HZ
  have HZ0 : Hid (w.heap.size + 1 + 1 ≤ W.heap.size) := by unfold Hid; omega
  have HL1 : Hid (([] : List Int).length + a.length ≤ 140737488355328) := by simp [Hid]; omega
  have HL2 : Hid (a.length + b.length ≤ 140737488355328) := by unfold Hid; omega
  subst hW
  clear hWs
  go_enter Tryd.func37, Tryd.ntmps37
  go_wp2
  go_region_held3 (fun w' => w'.cell? ⟨w.heap.size, 0, none⟩ = some (.slice a0 a.length c0) ∧ w'.cell? ⟨w.heap.size, 1, none⟩ = some (.slice a1 b.length c1))
    (first | go_keep | exact ⟨(HS.out _ hB5).1, (HS.out _ hB5).2.1⟩ | exact ⟨(HS.out _ hB4).1, (HS.out _ hB4).2.1⟩)
    ((first | (refine step_append_bytes rfl (.tmp 3) (.tmp 5) 22 rfl i0 Tryd.underlying22 hi hz0 hz1 hz2 (w.heap.size + 1 + 1) _ [] rfl HE.out _ a rfl (HS.out _ HB.out).2.2.2.2.2.2.1 HL1.out HZ.out _ HB.out ?_; intro v4 w4 hO4 hB4 hG4; rw [List.nil_append] at hO4) | (refine step_append_bytes rfl (.tmp 6) (.tmp 8) 22 rfl i0 Tryd.underlying22 hi hz0 hz1 hz2 (w.heap.size + 1 + 1) _ a rfl hO4 _ b rfl (HS.out _ hB4).2.2.2.2.2.2.2.1 HL2.out (Nat.le_trans HZ0.out hB4.size) _ hB4 ?_; intro v5 w5 hO5 hB5 hG5; obtain ⟨x5, y5, rfl⟩ := hO5.bs.form; obtain ⟨-, -, q0, q1, q2, q3, -⟩ := HS.out _ hB5)))
  have HR : Hid (Row w5 (w.heap.size + 1 + 1) w5.heap.size (.slice x5 (a ++ b).length y5) (a ++ b) ∧ Below w.heap.size w w5) := ⟨hO5.toRow, (HS.out _ hB5).2.2.2.2.2.2.2.2⟩
  rw [List.length_append] at HR
  clear hO4 hB4 hG4 hO5 hB5 hG5 HS HE HB HZ HZ0
  go_wp2
  refine bodyPost_ret (v := .agg #[.slice x5 (a.length + b.length) y5, .slice none 0 0]) (by simp [results, Tryd.results37, go_sem, q0, q1]) rfl ⟨_, rfl, ?_, ?_⟩
  · exact ⟨_, _, w.heap.size + 1 + 1, w5.heap.size, w5.heap.size, _, rfl, (HR.out.1.set (.inl (by omega))).set (.inl (by omega)), Row.nil _ _ _, by omega, by simp [World.setCell], by have := HR.out.2.size; omega, Nat.le_refl _, .inl (Nat.le_refl _)⟩
  · exact (HR.out.2.setCell (by simp) _).setCell (by simp) _

end Go.Proofs.YtiafkmjndcfjlaaDoor
