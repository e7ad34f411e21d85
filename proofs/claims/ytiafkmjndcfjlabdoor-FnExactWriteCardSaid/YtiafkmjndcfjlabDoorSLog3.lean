/- What l2own and l2frame of package spec do. -/
import Derived.Test.YtiafkmjndcfjlabDoorSLog0
import Derived.Test.YtiafkmjndcfjlabDoorLibFresh
import Derived.Test.YtiafkmjndcfjlabDoorSPutNum
namespace Go.Proofs.YtiafkmjndcfjlabDoor
open Go.RowKit

set_option maxHeartbeats 2000000 in
theorem l2own_r (v : Value) (a b : List Int) (w : World) (hv : LogV w v a b) (ha : a.length ≤ 4000000) (hb : b.length ≤ 4000000) :
    Calls Tryd.prog 17 #[v] w fun e w' => ∃ u, e = .returned u ∧ LogR w' w.heap.size w'.heap.size u a b ∧ Below w.heap.size w w' := by
  obtain ⟨v0, v1, rfl, g0, g1⟩ := hv
  obtain ⟨i0, hi, hz0, hz1, hz2⟩ := info_parts info5
  have HW : Hid (∀ wi, Below w.heap.size w wi → Bs wi v0 a ∧ Bs wi v1 b) := fun wi h => ⟨g0.below h, g1.below h⟩
  obtain ⟨a0, c0, rfl⟩ := g0.form
  obtain ⟨a1, c1, rfl⟩ := g1.form
  clear g0 g1
  obtain ⟨f0, f1, f2, f3, z0, z1, X⟩ := two_boxes w 26 26 (.slice a0 a.length c0) (.slice a1 b.length c1) (.slice none 0 0) (.slice none 0 0)
  obtain ⟨W, hW⟩ : ∃ W, W = (w.alloc (.cells #[.slice a0 a.length c0, .slice a1 b.length c1] 26)).alloc (.cells #[.slice none 0 0, .slice none 0 0] 26) := ⟨_, rfl⟩
  have hWs : W.heap.size = w.heap.size + 1 + 1 := by rw [hW]; simp
  have HS : Hid (∀ w', Below W.heap.size W w' → (w'.cell? ⟨w.heap.size, 0, none⟩ = some (.slice a0 a.length c0) ∧ w'.cell? ⟨w.heap.size, 1, none⟩ = some (.slice a1 b.length c1)) ∧ (w'.cell? ⟨w.heap.size + 1, 0, none⟩ = some (.slice none 0 0) ∧ w'.cell? ⟨w.heap.size + 1, 1, none⟩ = some (.slice none 0 0) ∧ w'.frozen? ⟨w.heap.size + 1, 0, none⟩ = false ∧ w'.frozen? ⟨w.heap.size + 1, 1, none⟩ = false) ∧ Bs w' (.slice a0 a.length c0) a ∧ Bs w' (.slice a1 b.length c1) b ∧ Below w.heap.size w w') := by
    subst hW
    intro w' h
    have hX : Below w.heap.size w w' := Below.step X h
    exact ⟨⟨(h.cell (by simp; omega)).trans f0, (h.cell (by simp; omega)).trans f1⟩, ⟨(h.cell (by simp)).trans f2, (h.cell (by simp)).trans f3, (h.frozen (by simp)).trans z0, (h.frozen (by simp)).trans z1⟩, (HW.out _ hX).1, (HW.out _ hX).2, hX⟩
  have HB1 : Hid (Below W.heap.size W (W.alloc (.cells #[] 5)).drew ∧ W.heap.size ≤ (W.alloc (.cells #[] 5)).drew.heap.size) := ⟨((Below.refl _ _).alloc (Nat.le_refl _) _).drew, by simp⟩
  have HB2 : Hid (Below W.heap.size W ((W.alloc (.cells #[] 5)).alloc (.cells #[] 5)).drew ∧ W.heap.size ≤ ((W.alloc (.cells #[] 5)).alloc (.cells #[] 5)).drew.heap.size) := ⟨(((Below.refl _ _).alloc (Nat.le_refl _) _).alloc (by simp) _).drew, by simp; omega⟩
  have HE1 : Hid ((W.alloc (.cells #[] 5)).drew.heap[W.heap.size]? = some (.cells #[] 5 (0, 0))) := box_new W _
  have HE2 : Hid (((W.alloc (.cells #[] 5)).alloc (.cells #[] 5)).drew.heap[W.heap.size]? = some (.cells #[] 5 (0, 0))) := (boxes2 W _ _).1
  have HE3 : Hid (((W.alloc (.cells #[] 5)).alloc (.cells #[] 5)).drew.heap[W.heap.size + 1]? = some (.cells #[] 5 (0, 0))) := (boxes2 W _ _).2.1
  have HL1 : Hid (a.length ≤ 140737488355328) := by unfold Hid; omega
  have HL2 : Hid (b.length ≤ 140737488355328) := by unfold Hid; omega
  have HZ : Hid (w.heap.size + 1 + 1 ≤ W.heap.size) := by unfold Hid; omega
  rw [hWs] at HB1 HB2 HE1 HE2 HE3 HS
  subst hW
  clear hWs HW X f2 f3 z0 z1
  go_enter Tryd.func17, Tryd.ntmps17
  go_wp2
  go_region_held3 (fun w' => w'.cell? ⟨w.heap.size, 0, none⟩ = some (.slice a0 a.length c0) ∧ w'.cell? ⟨w.heap.size, 1, none⟩ = some (.slice a1 b.length c1))
    (first | go_keep | exact (HS.out _ hWx).1 | exact (HS.out _ hWy).1)
    ((first
      | (refine step_append_fresh rfl (.tmp 3) (.tmp 5) 22 rfl i0 Tryd.underlying22 hi hz0 hz1 hz2 _ rfl ?_ _ a rfl ?_ HL1.out ?_; (first | exact HE1.out | exact HE2.out | exact HE3.out | exact box_below hBy HE2.out | exact box_below hBy HE3.out | exact box_new _ _); (first | exact (HS.out _ HB1.out.1).2.2.1 | exact (HS.out _ HB2.out.1).2.2.1 | exact (HS.out _ hWy).2.2.1 | exact ((HS.out _ hWy).2.2.1).alloc _); intro vx wx gx hOx hDx hLx hBx; (have hWx : Below (w.heap.size + 1 + 1) ((w.alloc (.cells #[.slice a0 a.length c0, .slice a1 b.length c1] 26)).alloc (.cells #[.slice none 0 0, .slice none 0 0] 26)) wx := by first | exact HB1.out.1.trans (hBx.mono HB1.out.2) | exact HB2.out.1.trans (hBx.mono HB2.out.2) | exact hWy.trans (hBx.mono (Nat.le_trans HZ.out hWy.size)) | exact (hWy.alloc (Nat.le_trans HZ.out hWy.size) _).trans (hBx.mono (Nat.le_trans (Nat.le_trans HZ.out hWy.size) (by simp)))); obtain ⟨x1, n1, y1, rfl⟩ := hOx.bs.form3; obtain ⟨p0, p1, p2, p3⟩ := (HS.out _ hWx).2.1)
      | (refine step_append_fresh rfl (.tmp 7) (.tmp 9) 22 rfl i0 Tryd.underlying22 hi hz0 hz1 hz2 _ rfl ?_ _ b rfl ?_ HL2.out ?_; (first | exact HE1.out | exact HE2.out | exact HE3.out | exact box_below hBx HE2.out | exact box_below hBx HE3.out | exact box_new _ _); (first | exact (HS.out _ HB1.out.1).2.2.2.1 | exact (HS.out _ HB2.out.1).2.2.2.1 | exact (HS.out _ hWx).2.2.2.1 | exact ((HS.out _ hWx).2.2.2.1).alloc _); intro vy wy gy hOy hDy hLy hBy; (have hWy : Below (w.heap.size + 1 + 1) ((w.alloc (.cells #[.slice a0 a.length c0, .slice a1 b.length c1] 26)).alloc (.cells #[.slice none 0 0, .slice none 0 0] 26)) wy := by first | exact HB1.out.1.trans (hBy.mono HB1.out.2) | exact HB2.out.1.trans (hBy.mono HB2.out.2) | exact hWx.trans (hBy.mono (Nat.le_trans HZ.out hWx.size)) | exact (hWx.alloc (Nat.le_trans HZ.out hWx.size) _).trans (hBy.mono (Nat.le_trans (Nat.le_trans HZ.out hWx.size) (by simp)))); obtain ⟨x2, n2, y2, rfl⟩ := hOy.bs.form3; obtain ⟨q0, q1, q2, q3⟩ := (HS.out _ hWy).2.1)))
  all_goals
    have hO : Own wy gx (.slice x1 n1 y1) a := by first | exact hOx.below hBy | exact (hOx.grow (World.grownBy_alloc _ _ _)).below hBy
    have hX := (HS.out _ hWy).2.2.2.2
    have hlo : w.heap.size + 1 + 1 ≤ gx ∧ w.heap.size + 1 + 1 ≤ gy ∧ gx ≠ gy ∧ gx < wy.heap.size := by
      have h1 := hWx.size
      have h2 := hBy.size
      simp at hDx hDy h1 h2
      omega
    have HR : Hid (LogR wy (w.heap.size + 1 + 1) wy.heap.size (.agg #[.slice x1 n1 y1, .slice x2 n2 y2]) a b ∧ Below w.heap.size w wy) :=
      ⟨⟨_, _, gx, gx + 1, gy, gy + 1, rfl, hO.toRow, hOy.toRow, by omega, by omega, by omega, by omega, by omega⟩, hX⟩
    clear hO hX hlo hOx hOy hDx hDy hLx hLy hBx hBy hWx hWy HS HB1 HB2 HE1 HE2 HE3 HZ p0 p1 p2 p3
    go_wp2
    refine bodyPost_ret (v := .agg #[.slice x1 n1 y1, .slice x2 n2 y2]) (by simp [results, Tryd.results17, go_sem, q0, q1]) rfl ⟨_, rfl, ?_, ?_⟩
    · exact ((HR.out.1.set (.inl (by omega))).set (.inl (by omega))).wide (by omega) (by simp [World.setCell])
    · exact (HR.out.2.setCell (by simp) _).setCell (by simp) _

set_option maxHeartbeats 400000 in
theorem l2frame_r (v : Value) (r : List Int) (w : World) (hv : Bs w v r) (hr : r.length ≤ 2000000) :
    Calls Tryd.prog 23 #[v] w fun e w' => ∃ u, e = .returned u ∧ Row w' w.heap.size w'.heap.size u (putL [] r.length ++ r) ∧ Below w.heap.size w w' := by
  obtain ⟨i0, hi, hz0, hz1, hz2⟩ := info_parts info5
  have HV : Hid (Bs w v r) := hv
  obtain ⟨x0, y0, rfl⟩ := hv.form
  clear hv
  have hpl := putL_length [] r.length
  go_enter Tryd.func23, Tryd.ntmps23
  go_wp2_with fail
  refine (specPutNum_any _ [] r.length _ (bs_nil _) (by simp) (by omega) (by omega)).mono ?_
  rintro e w1 ⟨u1, rfl, O1, B1⟩
  have s1 := B1.size
  have HO : Hid (OwnB w1 w.heap.size u1 (putL [] r.length)) := O1
  have HVV : Hid (Bs w1 (.slice x0 r.length y0) r) := HV.out.below B1
  clear O1
  go_wp2_with (at_builtin; refine wpList_append_bytes rfl (.tmp 5) (.tmp 6) 22 rfl i0 Tryd.underlying22 hi hz0 hz1 hz2 w.heap.size _ _ rfl HO.out _ r rfl HVV.out (by simp at hpl; omega) s1 w B1 ?_)
  intro v2 w2 hO2 hB2 _
  have HO2 : Hid (Row w2 w.heap.size w2.heap.size v2 (putL [] r.length ++ r)) := hO2.toRow
  clear hO2
  go_wp2
  go_ret
  exact ⟨_, rfl, HO2.out, hB2⟩

end Go.Proofs.YtiafkmjndcfjlabDoor
