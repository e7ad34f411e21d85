/- What szByteS, szLog, toLog, eqLog, markLog, heldLog of package laws do. -/
import Derived.Test.YtiafkmjndcfjlabDoorEx1
import Derived.Test.YtiafkmjndcfjlabDoorLibLog
namespace Go.Proofs.YtiafkmjndcfjlabDoor
open Go.RowKit

/-- What is left of a size when n more are taken; -1: it does not suffice. -/
def szL' (left : Int) (n : Nat) : Int := if left - n < 0 then -1 else left - n

set_option maxHeartbeats 400000 in
theorem szByteS_any (v : Value) (l : List Int) (left : Int) (w : World) (hv : Bs w v l) (h0 : 0 ≤ left) (h1 : left ≤ 4000000) :
    Calls Tryd.prog 14 #[v, .int .i64 left] w fun e w' => e = .returned (.int .i64 (szL' left l.length)) ∧ w' = w := by
  obtain ⟨ho, a, cap, rfl, hlc, hcm, -⟩ := hv
  unfold maxLen at hcm
  by_cases hb : left - (l.length : Int) < 0
  · have HZ : Hid (szL' left l.length = -1) := by simp [Hid, szL', hb]
    go_enter Tryd.func14, Tryd.ntmps14
    go_wp2
    go_ret
    exact ⟨by rw [HZ.out]; rfl, rfl⟩
  · have HZ : Hid (szL' left l.length = left - l.length) := by simp [Hid, szL', hb]
    go_enter Tryd.func14, Tryd.ntmps14
    go_wp2
    go_ret
    exact ⟨by rw [HZ.out]; rfl, rfl⟩

set_option maxHeartbeats 400000 in
theorem toLog_r (v : Value) (a b : List Int) (w : World) (hv : LogV w v a b) (ha : a.length ≤ 2000000) (hb : b.length ≤ 2000000) :
    Calls Tryd.prog 6 #[v] w fun e w' => ∃ u, e = .returned u ∧ LogR w' w.heap.size w'.heap.size u a b ∧ Below w.heap.size w w' := by
  obtain ⟨v0, v1, rfl, h0, h1⟩ := hv
  have H0 : Hid (∀ wi, Below w.heap.size w wi → Bs wi v0 a) := fun wi h => h0.below h
  have H1 : Hid (∀ wi, Below w.heap.size w wi → Bs wi v1 b) := fun wi h => h1.below h
  obtain ⟨a0, c0, rfl⟩ : ∃ x y, v0 = .slice x a.length y := by obtain ⟨_, x, y, h, _⟩ := h0; exact ⟨x, y, h⟩
  obtain ⟨a1, c1, rfl⟩ : ∃ x y, v1 = .slice x b.length y := by obtain ⟨_, x, y, h, _⟩ := h1; exact ⟨x, y, h⟩
  clear h0 h1
  go_enter Tryd.func6, Tryd.ntmps6
  go_wp2_with fail
  refine (toByteS_r _ a _ (H0.out _ (box3_below w _ _ _)) ha).mono ?_
  rintro e w1 ⟨u0, rfl, R0, B0⟩
  obtain ⟨x0, y0, rfl⟩ := R0.bs.form
  have b3 := box3 w (.cells #[.slice a0 a.length c0, .slice a1 b.length c1] 24) (.cells #[.slice none 0 0, .slice none 0 0] 26) (.cells #[.slice none 0 0, .slice none 0 0] 26)
  have k0 := box_below B0 b3.1
  have k1 := box_below B0 b3.2.1
  have k2 := box_below B0 b3.2.2
  have HX1 : Hid (Below w.heap.size w w1) := Below.step (box3_below w _ _ _) B0
  have HR0 : Hid (Row w1 (w.heap.size + 3) w1.heap.size (.slice x0 a.length y0) a) := R0.wide (by simp) (Nat.le_refl _)
  obtain ⟨f00, f01, -⟩ := box2 k0
  obtain ⟨f20, f21, z20, z21, l2⟩ := box2 k2
  have HK : Hid (w1.heap[w.heap.size + 1]? = some (.cells #[.slice none 0 0, .slice none 0 0] 26 (0, 0)) ∧ w1.heap[w.heap.size + 1 + 1]? = some (.cells #[.slice none 0 0, .slice none 0 0] 26 (0, 0))) := ⟨k1, k2⟩
  clear R0 B0 b3 k0 k1 k2
  go_wp2_with fail
  refine (toByteS_r _ b _ (H1.out _ (HX1.out.setCell (by simp; omega) _)) hb).mono ?_
  rintro e w2 ⟨u1, rfl, R1, B1⟩
  obtain ⟨x1, y1, rfl⟩ := R1.bs.form
  have k1 := box_below B1 (box_other HK.out.1 (by omega))
  have k2 := box_below B1 (box2_set0 HK.out.2)
  have hz2 : w1.heap.size ≤ w2.heap.size := by have := B1.size; simpa [World.setCell] using this
  have HX2 : Hid (Below w.heap.size w w2) := (HX1.out.setCell (by simp; omega) _).trans (B1.mono (by simp [World.setCell]; omega))
  have HR1 : Hid (Row w2 w1.heap.size w2.heap.size (.slice x1 b.length y1) b) := R1.wide (by simp [World.setCell]) (Nat.le_refl _)
  have HR0' : Hid (Row w2 (w.heap.size + 3) w1.heap.size (.slice x0 a.length y0) a) :=
    (HR0.out.drawn (grownBy_setCell (World.grownBy.refl _ _)) (.inl (by omega))).below B1
  obtain ⟨f10, f11, z10, z11, l1⟩ := box2 k1
  clear f20 f21 z20 z21 f00 f01
  obtain ⟨f20, f21, z20, z21, l2'⟩ := box2 k2
  have HK2 : Hid (w2.heap[w.heap.size + 1 + 1]? = some (.cells #[.slice x0 a.length y0, .slice none 0 0] 26 (0, 0))) := k2
  clear R1 B1 k1 k2 HK HR0 HX1
  go_wp2
  refine bodyPost_ret (v := .agg #[.slice x0 a.length y0, .slice x1 b.length y1]) (by simp [results, Tryd.results6, go_sem, f10, f11]) rfl ⟨_, rfl, ?_, ?_⟩
  · exact ⟨_, _, w.heap.size + 3, w1.heap.size, w1.heap.size, _, rfl, ((HR0'.out.set (.inl (by omega))).set (.inl (by omega))).set (.inl (by omega)), ((HR1.out.set (.inl (by omega))).set (.inl (by omega))).set (.inl (by omega)), by omega, by simp [World.setCell]; omega, by omega, by simp [World.setCell], .inl (Nat.le_refl _)⟩
  · exact ((HX2.out.setCell (by simp; omega) _).setCell (by simp) _).setCell (by simp) _


set_option maxHeartbeats 400000 in
theorem szLog_any (v : Value) (a b : List Int) (left : Int) (w : World) (hv : LogV w v a b) (h0 : 0 ≤ left) (h1 : left ≤ 4000000) :
    Calls Tryd.prog 4 #[v, .int .i64 left] w fun e w' => ∃ x : Int, e = .returned (.int .i64 x) ∧ (x = -1 ∨ (0 ≤ x ∧ x + a.length + b.length = left)) ∧ Below w.heap.size w w' := by
  obtain ⟨v0, v1, rfl, g0, g1⟩ := hv
  have hB : Below w.heap.size w (w.alloc (.cells #[v0, v1] 24)) := (Below.refl _ _).alloc (Nat.le_refl _) _
  have H0 : Hid (Bs (w.alloc (.cells #[v0, v1] 24)) v0 a ∧ Bs (w.alloc (.cells #[v0, v1] 24)) v1 b) := ⟨g0.below hB, g1.below hB⟩
  obtain ⟨a0, c0, rfl⟩ := g0.form
  obtain ⟨a1, c1, rfl⟩ := g1.form
  clear g0 g1
  by_cases ha : left - (a.length : Int) < 0
  · have HZ : Hid (szL' left a.length = -1) := by simp [Hid, szL', ha]
    go_enter Tryd.func4, Tryd.ntmps4
    go_wp2_with fail
    refine (szByteS_any _ a left _ H0.out.1 h0 h1).mono ?_
    rintro e w1 ⟨rfl, rfl⟩
    rw [HZ.out]
    go_wp2
    go_ret
    exact ⟨-1, rfl, .inl rfl, hB⟩
  · have HZ : Hid (szL' left a.length = left - a.length) := by simp [Hid, szL', ha]
    by_cases hb : left - (a.length : Int) - (b.length : Int) < 0
    · have HZ2 : Hid (szL' (left - a.length) b.length = -1) := by simp [Hid, szL', hb]
      go_enter Tryd.func4, Tryd.ntmps4
      go_wp2_with fail
      refine (szByteS_any _ a left _ H0.out.1 h0 h1).mono ?_
      rintro e w1 ⟨rfl, rfl⟩
      rw [HZ.out]
      go_wp2_with fail
      refine (szByteS_any _ b (left - a.length) _ H0.out.2 (by omega) (by omega)).mono ?_
      rintro e w1 ⟨rfl, rfl⟩
      rw [HZ2.out]
      go_wp2
      go_ret
      exact ⟨-1, rfl, .inl rfl, hB⟩
    · have HZ2 : Hid (szL' (left - a.length) b.length = left - a.length - b.length) := by simp [Hid, szL', hb]
      go_enter Tryd.func4, Tryd.ntmps4
      go_wp2_with fail
      refine (szByteS_any _ a left _ H0.out.1 h0 h1).mono ?_
      rintro e w1 ⟨rfl, rfl⟩
      rw [HZ.out]
      go_wp2_with fail
      refine (szByteS_any _ b (left - a.length) _ H0.out.2 (by omega) (by omega)).mono ?_
      rintro e w1 ⟨rfl, rfl⟩
      rw [HZ2.out]
      go_wp2
      go_ret
      exact ⟨_, rfl, .inr ⟨by omega, by omega⟩, hB⟩

set_option maxHeartbeats 400000 in
theorem eqLog_yes (v u : Value) (a b : List Int) (w : World) (hv : LogV w v a b) (hu : LogV w u a b) :
    Calls Tryd.prog 9 #[v, u] w fun e w' => e = .returned (.bool true) ∧ Below w.heap.size w w' := by
  obtain ⟨v0, v1, rfl, g0, g1⟩ := hv
  obtain ⟨u0, u1, rfl, g2, g3⟩ := hu
  have bx := boxes2 w (.cells #[v0, v1] 26) (.cells #[u0, u1] 26)
  have HW : Hid (∀ wi, Below w.heap.size w wi → Bs wi v0 a ∧ Bs wi v1 b ∧ Bs wi u0 a ∧ Bs wi u1 b) := fun wi h => ⟨g0.below h, g1.below h, g2.below h, g3.below h⟩
  obtain ⟨a0, c0, rfl⟩ := g0.form
  obtain ⟨a1, c1, rfl⟩ := g1.form
  obtain ⟨a2, c2, rfl⟩ := g2.form
  obtain ⟨a3, c3, rfl⟩ := g3.form
  clear g0 g1 g2 g3
  go_enter Tryd.func9, Tryd.ntmps9
  go_wp2_with fail
  refine (eqByteS_yes _ _ a _ (HW.out _ bx.2.2).1 (HW.out _ bx.2.2).2.2.1).mono ?_
  rintro e w1 ⟨rfl, B⟩
  obtain ⟨-, f01, -⟩ := box2 (box_below B bx.1)
  obtain ⟨-, f11, -⟩ := box2 (box_below B bx.2.1)
  have HX : Hid (Below w.heap.size w w1) := Below.step bx.2.2 B
  clear bx B
  go_wp2_with fail
  refine (eqByteS_yes _ _ b _ (HW.out _ HX.out).2.1 (HW.out _ HX.out).2.2.2).mono ?_
  rintro e w2 ⟨rfl, B⟩
  have HX2 : Hid (Below w.heap.size w w2) := Below.step HX.out B
  clear B
  go_wp2
  go_ret
  exact ⟨rfl, HX2.out⟩

set_option maxHeartbeats 400000 in
theorem heldLog_yes (v : Value) (n m : Nat) (k : Int) (w : World) (hv : LogV w v (marks k n) (marks (k + n) m)) (hn : n ≤ 2000000) (hm : m ≤ 2000000) (hk0 : 0 ≤ k) (hk1 : k ≤ 100000000000) :
    Calls Tryd.prog 13 #[v, .int .i64 k] w fun e w' => e = .returned (.int .i64 (k + n + m)) ∧ Below w.heap.size w w' := by
  obtain ⟨v0, v1, rfl, g0, g1⟩ := hv
  have HW : Hid (∀ wi, Below w.heap.size w wi → Bs wi v0 (marks k n) ∧ Bs wi v1 (marks (k + n) m)) := fun wi h => ⟨g0.below h, g1.below h⟩
  have hB : Below w.heap.size w (w.alloc (.cells #[v0, v1] 26)) := (Below.refl _ _).alloc (Nat.le_refl _) _
  obtain ⟨a0, c0, rfl⟩ := g0.form
  obtain ⟨a1, c1, rfl⟩ := g1.form
  have bx := box_new w (.cells #[.slice a0 (marks k n).length c0, .slice a1 (marks (k + n) m).length c1] 26)
  rw [length_marks, length_marks] at *
  clear g0 g1
  go_enter Tryd.func13, Tryd.ntmps13
  go_wp2_with fail
  refine (heldByteS_yes _ n k _ (HW.out _ hB).1 hn hk0 (by omega)).mono ?_
  rintro e w1 ⟨rfl, B⟩
  obtain ⟨-, f01, -⟩ := box2 (box_below B bx)
  have HX : Hid (Below w.heap.size w w1) := Below.step hB B
  clear bx B hB
  go_wp2_with fail
  refine (heldByteS_yes _ m (k + n) _ (HW.out _ HX.out).2 hm (by omega) (by omega)).mono ?_
  rintro e w2 ⟨rfl, B⟩
  have HX2 : Hid (Below w.heap.size w w2) := Below.step HX.out B
  clear B
  go_wp2
  go_ret
  exact ⟨rfl, HX2.out⟩

set_option maxHeartbeats 400000 in
theorem markLog_r (B T : Nat) (v : Value) (a b : List Int) (k : Int) (w : World) (hv : LogR w B T v a b) (ha : a.length ≤ 2000000) (hb : b.length ≤ 2000000) (hk0 : 0 ≤ k) (hk1 : k ≤ 100000000000) :
    Calls Tryd.prog 11 #[v, .int .i64 k] w fun e w' => e = .returned (.int .i64 (k + a.length + b.length)) ∧ LogR w' B T v (marks k a.length) (marks (k + a.length) b.length) ∧ Within B T w w' := by
  obtain ⟨v0, v1, B0, T0, B1, T1, rfl, g0, g1, r0, r1, r2, r3, r4⟩ := hv
  have hB : Below w.heap.size w (w.alloc (.cells #[v0, v1] 26)) := (Below.refl _ _).alloc (Nat.le_refl _) _
  have HW : Hid (Row (w.alloc (.cells #[v0, v1] 26)) B0 T0 v0 a ∧ Row (w.alloc (.cells #[v0, v1] 26)) B1 T1 v1 b) := ⟨g0.below hB, g1.below hB⟩
  obtain ⟨a0, c0, rfl⟩ := g0.bs.form
  obtain ⟨a1, c1, rfl⟩ := g1.bs.form
  have bx := box_new w (.cells #[.slice a0 a.length c0, .slice a1 b.length c1] 26)
  have hlt : ∀ g, (Value.slice a0 a.length c0).ownBlock = some g → g < w.heap.size := fun g hg => (g0.2.1.lt g hg).2
  clear g0 g1
  go_enter Tryd.func11, Tryd.ntmps11
  go_wp2_with fail
  refine (markByteS_r B0 T0 _ a k _ HW.out.1 ha hk0 (by omega)).mono ?_
  rintro e w1 ⟨rfl, R0, G⟩
  have HI : Hid (Within B T w w1) := (Within.ofBelow hB).trans ((HW.out.1.within G).wide r0 r1)
  have HR1 : Hid (Row w1 B1 T1 (.slice a1 b.length c1) b) := HW.out.2.kept HW.out.1 G (by omega)
  have HR0 : Hid (Row w1 B0 T0 (.slice a0 a.length c0) (marks k a.length)) := R0
  have bx1 : w1.heap[w.heap.size]? = some (.cells #[.slice a0 a.length c0, .slice a1 b.length c1] 26) :=
    (G.block w.heap.size (by simp) (fun e => by have := hlt _ e.symm; omega)).trans bx
  obtain ⟨-, f01, -⟩ := box2 bx1
  clear bx bx1 G R0 hB hlt
  go_wp2_with fail
  refine (markByteS_r B1 T1 _ b (k + a.length) _ HR1.out hb (by omega) (by omega)).mono ?_
  rintro e w2 ⟨rfl, R1, G⟩
  have HI2 : Hid (Within B T w w2) := HI.out.trans ((HR1.out.within G).wide r2 r3)
  have HR0' : Hid (Row w2 B0 T0 (.slice a0 a.length c0) (marks k a.length)) := HR0.out.kept HR1.out G (by omega)
  have HR1' : Hid (Row w2 B1 T1 (.slice a1 b.length c1) (marks (k + a.length) b.length)) := R1
  clear G R1
  go_wp2
  go_ret
  exact ⟨rfl, ⟨_, _, B0, T0, B1, T1, rfl, HR0'.out, HR1'.out, r0, r1, r2, r3, r4⟩, HI2.out⟩

theorem markByteS_w (B T : Nat) (v : Value) (l : List Int) (k : Int) (w : World) (hv : Row w B T v l) (hl : l.length ≤ 2000000) (hk0 : 0 ≤ k) (hk1 : k ≤ 1000000000000) :
    Calls Tryd.prog 12 #[v, .int .i64 k] w fun e w' => e = .returned (.int .i64 (k + l.length)) ∧ Row w' B T v (marks k l.length) ∧ Within B T w w' :=
  (markByteS_r B T v l k w hv hl hk0 hk1).mono fun _ _ ⟨h1, h2, h3⟩ => ⟨h1, h2, hv.within h3⟩

end Go.Proofs.YtiafkmjndcfjlabDoor
