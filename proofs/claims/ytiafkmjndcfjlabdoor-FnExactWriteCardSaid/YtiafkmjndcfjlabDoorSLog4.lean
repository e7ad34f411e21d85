/- What Write of package spec does. -/
import Derived.Test.YtiafkmjndcfjlabDoorSLog4L
namespace Go.Proofs.YtiafkmjndcfjlabDoor
open Go.RowKit

set_option maxHeartbeats 1000000 in
theorem specWrite_r (v u : Value) (a b r : List Int) (w : World) (hv : LogV w v a b) (hu : Bs w u r) (ha : a.length ≤ 2000000) (hb : b.length ≤ 2000000) (hr : r.length ≤ 2000000) :
    Calls Tryd.prog 5 #[v, u] w fun e w' => ∃ x, e = .returned (.tuple #[x, .bool (wrOk a b r)]) ∧ LogR w' w.heap.size w'.heap.size x (wrA a b) (wrB a b r) ∧ Below w.heap.size w w' := by
  have HV : Hid (∀ wi, Below w.heap.size w wi → LogV wi v a b ∧ Bs wi u r) := fun wi h => ⟨hv.below h, hu.below h⟩
  obtain ⟨v0, v1, rfl, g0, g1⟩ := hv
  obtain ⟨a0, c0, rfl⟩ := g0.form
  obtain ⟨a1, c1, rfl⟩ := g1.form
  clear g0 g1 hu
  have hb2 := boxes2 w (.cells #[.slice a0 a.length c0, .slice a1 b.length c1] 26) (.cells #[.slice none 0 0, .slice none 0 0] 26)
  go_enter Tryd.func5, Tryd.ntmps5
  go_wp2_with fail
  refine (specLogOk_any _ a b _ (HV.out _ hb2.2.2).1).mono ?_
  rintro e w1 ⟨rfl, B⟩
  have k0 := box_below B hb2.1
  have k1 := box_below B hb2.2.1
  have HX : Hid (Below w.heap.size w w1) := Below.step hb2.2.2 B
  have s1 : w.heap.size + 1 < w1.heap.size := lt_of_heap k1
  obtain ⟨f00, f01, -⟩ := box2 k0
  obtain ⟨f10, f11, z10, z11, -⟩ := box2 k1
  have HK : Hid (w1.heap[w.heap.size + 1]? = some (.cells #[.slice none 0 0, .slice none 0 0] 26)) := k1
  clear hb2 B k0 k1
  by_cases hok : a.length + b.length ≤ 1000000
  · have HP : Hid (wrA a b = a ∧ wrB a b r = writeB a b r ∧ wrOk a b r = fitsB a b r) := by simp [Hid, wrA, wrB, wrOk, hok]
    have hd : decide (a.length + b.length ≤ 1000000) = true := by simp [hok]
    have hwl := writeB_length a b r
    go_wp2_with fail
    refine (l2write_r _ _ a b r _ (HV.out _ HX.out).1 (HV.out _ HX.out).2 ha hb hr).mono ?_
    rintro e w2 ⟨x, rfl, hx, B⟩
    have HX2 : Hid (Below w.heap.size w w2) := Below.step HX.out B
    have HK2 : Hid (w2.heap[w.heap.size + 1]? = some (.cells #[.slice none 0 0, .slice none 0 0] 26)) := box_below B HK.out
    have s2 : w.heap.size + 1 < w2.heap.size := lt_of_heap HK2.out
    have HLV : Hid (LogV w2 x a (writeB a b r)) := hx
    obtain ⟨u0, u1, rfl, q0, q1⟩ := hx
    obtain ⟨x0, n0, y0, rfl⟩ := q0.form3
    obtain ⟨x1, n1, y1, rfl⟩ := q1.form3
    clear q0 q1 B f00 f01 f10 f11 z10 z11 HK HV
    generalize fitsB a b r = ok at HP
    go_wp2_with fail
    refine (l2own_r _ a (writeB a b r) _ (HLV.out.below ((Below.refl _ _).alloc (Nat.le_refl _) _)) (by omega) (by omega)).mono ?_
    rintro e w3 ⟨y, rfl, R, B⟩
    have B3 : Below w2.heap.size w2 w3 := Below.step ((Below.refl _ _).alloc (Nat.le_refl _) _) B
    have HX3 : Hid (Below w.heap.size w w3) := Below.step HX2.out B3
    obtain ⟨f10, f11, z10, z11, -⟩ := box2 (box_below B3 HK2.out)
    have HR : Hid (LogR w3 w2.heap.size w3.heap.size y (wrA a b) (wrB a b r)) := by rw [HP.out.1, HP.out.2.1]; exact R.wide (by simp) (Nat.le_refl _)
    obtain ⟨u0, u1, B0, T0, B1, T1, rfl, R0, R1, -⟩ := R
    obtain ⟨x2, n2, y2, rfl⟩ := R0.bs.form3
    obtain ⟨x3, n3, y3, rfl⟩ := R1.bs.form3
    clear R0 R1 B B3 HLV HK2
    go_wp2
    refine bodyPost_ret (v := .tuple #[.agg #[.slice x2 n2 y2, .slice x3 n3 y3], .bool ok]) (by simp [results, Tryd.results5, go_sem, f10, f11]) rfl ?_
    rw [HP.out.2.2]
    refine ⟨_, rfl, ?_, ?_⟩
    · exact (((HR.out.set (.inl s2)).set (.inl s2)).wide (by have := HX2.out.size; omega) (by simp [World.setCell]))
    · exact (HX3.out.setCell (by simp) _).setCell (by simp) _
  · have HP : Hid (wrA a b = [] ∧ wrB a b r = [] ∧ wrOk a b r = false) := by simp [Hid, wrA, wrB, wrOk, hok]
    have hd : decide (a.length + b.length ≤ 1000000) = false := by simp [hok]
    clear HV
    go_wp2
    refine bodyPost_ret (v := .tuple #[.agg #[.slice none 0 0, .slice none 0 0], .bool false]) (by simp [results, Tryd.results5, go_sem, f10, f11]) rfl ?_
    rw [HP.out.1, HP.out.2.1, HP.out.2.2]
    refine ⟨_, rfl, ?_, ?_⟩
    · exact LogR.zero _ _ _ (by have := HX.out.size; simp [World.setCell]; omega)
    · exact (HX.out.setCell (by simp) _).setCell (by simp) _

end Go.Proofs.YtiafkmjndcfjlabDoor
