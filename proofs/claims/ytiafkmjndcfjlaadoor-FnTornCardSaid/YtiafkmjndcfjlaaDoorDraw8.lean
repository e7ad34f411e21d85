/- What DrawWrite of package spec draws. -/
import Derived.Test.YtiafkmjndcfjlaaDoorDraw7
namespace Go.Proofs.YtiafkmjndcfjlaaDoor
open Go.RowKit
set_option maxRecDepth 100000

set_option maxHeartbeats 2000000 in
theorem drawWrite_any (v : Value) (M : List Int) (w : World) (hv : Bs w v M) :
    Calls Tryd.prog 5 #[v] w fun e w' => ∃ x u a b r, e = .returned (.tuple #[x, u]) ∧ LogV w' x a b ∧ Bs w' u r ∧ a.length ≤ 1000000 ∧ b.length ≤ 1000001 ∧ (a.length + b.length ≤ 1000000 ∨ 988001 ≤ a.length) ∧ r.length ≤ 6001 ∧ Below w.heap.size w w' := by
  obtain ⟨i0, hi, hz0, hz1, hz2⟩ := info_parts info5
  have HV : Hid (Bs w v M) := hv
  obtain ⟨v0, v1, v2, rfl⟩ := hv.form3
  clear hv
  have bx := box_new w (.cells #[.slice none 0 0, .slice none 0 0] 24)
  have bB : Below w.heap.size w (w.alloc (.cells #[.slice none 0 0, .slice none 0 0] 24)) := (Below.refl _ _).alloc (Nat.le_refl _) _
  go_enter Tryd.func5, Tryd.ntmps5
  go_wp2_with fail
  refine (l1New_any _ M _ (HV.out.below bB)).mono ?_
  rintro e w1 ⟨g, rfl, C1, B1⟩
  have k1 := box_below B1 bx
  have HX1 : Hid (Below w.heap.size w w1) := Below.step bB B1
  obtain ⟨g0, g1⟩ := C1.lt
  simp only [World.size_alloc] at g0
  have HC1 : Hid (Cur (w.alloc (.cells #[.slice none 0 0, .slice none 0 0] 24)) w1 g (.slice v0 v1 v2) M ∧ w1.heap[w.heap.size]? = some (.cells #[.slice none 0 0, .slice none 0 0] 24 (0, 0))) := ⟨C1, k1⟩
  clear C1 B1 k1 bx bB HV
  go_wp2_with fail
  refine (l2bent_any _ _ g _ M HC1.out.1).mono ?_
  rintro e w2 ⟨sv, tv, a, b, rfl, ha, hb, hab, Rs, Rt, C2, G2⟩
  obtain ⟨s0, s1, s2, rfl⟩ := Rs.bs.form3
  obtain ⟨t0, t1, t2, rfl⟩ := Rt.bs.form3
  have sz2 := G2.size
  have bA : Below w2.heap.size w2 (w2.alloc (.cells #[.slice s0 s1 s2, .slice t0 t1 t2] 24)) := (Below.refl _ _).alloc (Nat.le_refl _) _
  have H2 : Hid ((w2.alloc (.cells #[.slice s0 s1 s2, .slice t0 t1 t2] 24)).heap[w2.heap.size]? = some (.cells #[.slice s0 s1 s2, .slice t0 t1 t2] 24 (0, 0)) ∧ (w2.alloc (.cells #[.slice s0 s1 s2, .slice t0 t1 t2] 24)).heap[w.heap.size]? = some (.cells #[.slice none 0 0, .slice none 0 0] 24 (0, 0)) ∧ Row (w2.alloc (.cells #[.slice s0 s1 s2, .slice t0 t1 t2] 24)) w1.heap.size w2.heap.size (.slice s0 s1 s2) a ∧ Row (w2.alloc (.cells #[.slice s0 s1 s2, .slice t0 t1 t2] 24)) w1.heap.size w2.heap.size (.slice t0 t1 t2) b ∧ Cur (w.alloc (.cells #[.slice none 0 0, .slice none 0 0] 24)) (w2.alloc (.cells #[.slice s0 s1 s2, .slice t0 t1 t2] 24)) g (.slice v0 v1 v2) M ∧ Below w.heap.size w (w2.alloc (.cells #[.slice s0 s1 s2, .slice t0 t1 t2] 24))) :=
    ⟨box_new w2 _, box_below bA (box_grown G2 HC1.out.2 (by omega)), Rs.below bA, Rt.below bA, C2.below bA, Below.step (below_grown HX1.out G2 (by omega)) bA⟩
  clear Rs Rt C2 G2 bA HC1 HX1
  go_wp2_with fail
  refine (l1some_any _ _ g _ M 20 H2.out.2.2.2.2.1 (by omega)).mono ?_
  rintro e w3 ⟨u, r, rfl, hr, Ru, C3, G3⟩
  obtain ⟨u0, u1, u2, rfl⟩ := Ru.bs.form3
  have sz3 := G3.size
  simp only [World.size_alloc] at sz3 Ru
  have H3 : Hid (w3.heap[w2.heap.size]? = some (.cells #[.slice s0 s1 s2, .slice t0 t1 t2] 24 (0, 0)) ∧ w3.heap[w.heap.size]? = some (.cells #[.slice none 0 0, .slice none 0 0] 24 (0, 0)) ∧ Row w3 w1.heap.size w2.heap.size (.slice s0 s1 s2) a ∧ Row w3 w1.heap.size w2.heap.size (.slice t0 t1 t2) b ∧ Cur (w.alloc (.cells #[.slice none 0 0, .slice none 0 0] 24)) w3 g (.slice v0 v1 v2) M ∧ Below w.heap.size w w3 ∧ Row w3 (w2.heap.size + 1) w3.heap.size (.slice u0 u1 u2) r) :=
    ⟨box_grown G3 H2.out.1 (by omega), box_grown G3 H2.out.2.1 (by omega), H2.out.2.2.1.drawn G3 (.inl (by omega)), H2.out.2.2.2.1.drawn G3 (.inl (by omega)), C3, below_grown H2.out.2.2.2.2.2 G3 (by omega), Ru⟩
  clear Ru C3 G3 H2
  go_wp2_with fail
  refine (l1Once_any _ _ g _ M 10 H3.out.2.2.2.2.1 (by omega) (by omega)).mono ?_
  rintro e w4 ⟨x, rfl, C4, G4⟩
  have sz4 := G4.size
  have H4 : Hid (w4.heap[w2.heap.size]? = some (.cells #[.slice s0 s1 s2, .slice t0 t1 t2] 24 (0, 0)) ∧ w4.heap[w.heap.size]? = some (.cells #[.slice none 0 0, .slice none 0 0] 24 (0, 0)) ∧ Row w4 w1.heap.size w2.heap.size (.slice s0 s1 s2) a ∧ Row w4 w1.heap.size w2.heap.size (.slice t0 t1 t2) b ∧ Cur (w.alloc (.cells #[.slice none 0 0, .slice none 0 0] 24)) w4 g (.slice v0 v1 v2) M ∧ Below w.heap.size w w4 ∧ Row w4 (w2.heap.size + 1) w3.heap.size (.slice u0 u1 u2) r) :=
    ⟨box_grown G4 H3.out.1 (by omega), box_grown G4 H3.out.2.1 (by omega), H3.out.2.2.1.drawn G4 (.inl (by omega)), H3.out.2.2.2.1.drawn G4 (.inl (by omega)), C4, below_grown H3.out.2.2.2.2.2.1 G4 (by omega), H3.out.2.2.2.2.2.2.drawn G4 (.inl (by omega))⟩
  clear C4 G4 H3
  cases x
  · obtain ⟨f0, f1, z0, z1, l0⟩ := box2 H4.out.1
    obtain ⟨f2, f3, z2, z3, l2⟩ := box2 H4.out.2.1
    go_wp2
    refine bodyPost_ret (v := .tuple #[.agg #[.slice s0 s1 s2, .slice t0 t1 t2], .slice u0 u1 u2]) (by simp [results, Tryd.results5, go_sem, f2, f3]) rfl ?_
    have hB := (H4.out.2.2.2.2.2.1.setCell (p := ⟨w.heap.size, 0, none⟩) (Nat.le_refl _) (.slice s0 s1 s2)).setCell (p := ⟨w.heap.size, 1, none⟩) (Nat.le_refl _) (.slice t0 t1 t2)
    exact ⟨_, _, a, b, r, rfl, ⟨_, _, rfl, ((H4.out.2.2.1.set (.inl (by omega))).set (.inl (by omega))).bs, ((H4.out.2.2.2.1.set (.inl (by omega))).set (.inl (by omega))).bs⟩, ((H4.out.2.2.2.2.2.2.set (.inl (by omega))).set (.inl (by omega))).bs, ha, hb, hab, by omega, hB⟩
  · go_wp2_with fail
    refine (l1Below_any _ _ g _ M 2 H4.out.2.2.2.2.1 (by omega) (by omega)).mono ?_
    rintro e w5 ⟨y, rfl, hy0, hy1, C5, G5⟩
    have sz5 := G5.size
    have H5 : Hid (w5.heap[w2.heap.size]? = some (.cells #[.slice s0 s1 s2, .slice t0 t1 t2] 24 (0, 0)) ∧ w5.heap[w.heap.size]? = some (.cells #[.slice none 0 0, .slice none 0 0] 24 (0, 0)) ∧ Row w5 w1.heap.size w2.heap.size (.slice s0 s1 s2) a ∧ Row w5 w1.heap.size w2.heap.size (.slice t0 t1 t2) b ∧ Below w.heap.size w w5) :=
      ⟨box_grown G5 H4.out.1 (by omega), box_grown G5 H4.out.2.1 (by omega), H4.out.2.2.1.drawn G5 (.inl (by omega)), H4.out.2.2.2.1.drawn G5 (.inl (by omega)), below_grown H4.out.2.2.2.2.2.1 G5 (by omega)⟩
    clear C5 G5 H4
    obtain ⟨N, hN, hyN⟩ : ∃ N : Nat, N ≤ 6001 ∧ 6000 + y = (N : Int) := ⟨(6000 + y).toNat, by omega, by omega⟩
    go_wp2_with (at_make; refine wpList_make_full _ rfl _ _ 22 rfl w5.heap.size 5 i0 (.int .u8 0) 1 Tryd.underlying22 hi hz0 hz1 _ _ _ _ N rfl rfl (by omega) (by omega) (by rw [hz2]; omega) (by unfold maxLen; omega) (Nat.le_refl _) ?_)
    intro w6 hown hgrow
    have hB6 := (Below.refl w5.heap.size w5).grown hgrow (Nat.le_refl _) (by simp)
    have hZ6 := (zeros_bs (by unfold maxLen; omega) (made_heap hown)).toRow
    have H6 : Hid (w6.heap[w2.heap.size]? = some (.cells #[.slice s0 s1 s2, .slice t0 t1 t2] 24 (0, 0)) ∧ w6.heap[w.heap.size]? = some (.cells #[.slice none 0 0, .slice none 0 0] 24 (0, 0)) ∧ Row w6 w1.heap.size w2.heap.size (.slice s0 s1 s2) a ∧ Row w6 w1.heap.size w2.heap.size (.slice t0 t1 t2) b ∧ Below w.heap.size w w6 ∧ Row w6 w5.heap.size (w5.heap.size + 1) (.slice (some ⟨w5.heap.size, 0, none⟩) N N) (List.replicate N 0)) :=
      ⟨box_below hB6 H5.out.1, box_below hB6 H5.out.2.1, H5.out.2.2.1.below hB6, H5.out.2.2.2.1.below hB6, Below.step H5.out.2.2.2.2 hB6, hZ6⟩
    have sz6 := hB6.size
    clear hown hgrow hB6 hZ6 H5
    obtain ⟨f0, f1, z0, z1, l0⟩ := box2 H6.out.1
    obtain ⟨f2, f3, z2, z3, l2⟩ := box2 H6.out.2.1
    go_wp2
    refine bodyPost_ret (v := .tuple #[.agg #[.slice s0 s1 s2, .slice t0 t1 t2], .slice (some ⟨w5.heap.size, 0, none⟩) N N]) (by simp [results, Tryd.results5, go_sem, f2, f3]) rfl ?_
    have hB := (H6.out.2.2.2.2.1.setCell (p := ⟨w.heap.size, 0, none⟩) (Nat.le_refl _) (.slice s0 s1 s2)).setCell (p := ⟨w.heap.size, 1, none⟩) (Nat.le_refl _) (.slice t0 t1 t2)
    exact ⟨_, _, a, b, List.replicate N 0, rfl, ⟨_, _, rfl, ((H6.out.2.2.1.set (.inl (by omega))).set (.inl (by omega))).bs, ((H6.out.2.2.2.1.set (.inl (by omega))).set (.inl (by omega))).bs⟩, ((H6.out.2.2.2.2.2.set (.inl (by omega))).set (.inl (by omega))).bs, ha, hb, hab, by simp; omega, hB⟩

end Go.Proofs.YtiafkmjndcfjlaaDoor
