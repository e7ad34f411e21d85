/- The proof's texts, part 6. -/
import Derived.Test.YthnlbhmecokomaaDoorPart5
import Derived.Test.YthnlbhmecokomaaDoorPart2
import Derived.Test.YthnlbhmecokomaaDoorPart3
import Derived.Deep.DeepCutAuto

/- What l4getBox of package spec does: a box is read behind a cursor. -/
namespace Go.Proofs.YthnlbhmecokomaaDoor
open Go.RowKit
set_option maxRecDepth 100000
set_option linter.unusedVariables false

set_option maxRecDepth 100000 in
set_option maxHeartbeats 4000000 in
theorem l4getBox_c (g : Nat) (bv : Value) (l : List Int) (p : Int) (w : World) (hc : w.heap[g]? = some (.cells #[bv, .int .i64 p] 37 (0, 0))) (hb : ∀ wi, w.grownBy wi (some g) → Bs wi bv l) (hl : l.length ≤ 2000000) (hp0 : -1 ≤ p) (hp1 : p ≤ 9000000) :
    Calls Tryd.prog 25 #[.pointer (some ⟨g, 0, none⟩)] w fun e w' => ∃ u, e = .returned u ∧ BoxO w' (In w.heap.size w'.heap.size) u (gBox l p).1 ∧ w'.heap[g]? = some (.cells #[bv, .int .i64 (gBox l p).2] 37 (0, 0)) ∧ w.grownBy w' (some g) := by
  have hlg : g < w.heap.size := lt_of_heap hc
  have HB : Hid (∀ wi, w.grownBy wi (some g) → Bs wi bv l) := hb
  obtain ⟨ba, bn, bc, rfl⟩ := (hb w (World.grownBy.refl _ _)).form3
  obtain ⟨i0, hi, hz0, hz1, hz2⟩ := info_parts infoMail
  obtain ⟨i1, hj, hy0, hy1, hy2⟩ := info_parts infoGone
  have HG0 : Hid (w.grownBy (w.alloc (.cells #[.slice none 0 0, .int .i64 0, .int .i64 0, .int .i64 0, .slice none 0 0, .slice none 0 0, .int .i64 0] 53)) (some g)) := gr_alloc (World.grownBy.refl _ _)
  have HC0 : Hid ((w.alloc (.cells #[.slice none 0 0, .int .i64 0, .int .i64 0, .int .i64 0, .slice none 0 0, .slice none 0 0, .int .i64 0] 53)).heap[g]? = some (.cells #[.slice ba bn bc, .int .i64 p] 37 (0, 0))) := gr_at (gr_alloc (g := w.heap.size) (World.grownBy.refl _ _)) hc (by omega)
  have HR0 : Hid ((w.alloc (.cells #[.slice none 0 0, .int .i64 0, .int .i64 0, .int .i64 0, .slice none 0 0, .slice none 0 0, .int .i64 0] 53)).heap[w.heap.size]? = some (.cells #[.slice none 0 0, .int .i64 0, .int .i64 0, .int .i64 0, .slice none 0 0, .slice none 0 0, .int .i64 0] 53 (0, 0))) := box_new w _
  have hsz0 : (w.alloc (.cells #[.slice none 0 0, .int .i64 0, .int .i64 0, .int .i64 0, .slice none 0 0, .slice none 0 0, .int .i64 0] 53)).heap.size = w.heap.size + 1 := by simp
  clear hb hc
  go_enter Tryd.func25, Tryd.ntmps25
  go_wp2_with fail
  refine (l4getText_c g _ l p _ HC0.out (HB.out _ HG0.out) hl hp0 hp1).mono ?_
  rintro e w1 ⟨NV, rfl, RN, HC1, G1⟩
  have HG1 : Hid (w.grownBy w1 (some g)) := grownBy_trans HG0.out G1
  have HR1 : Hid (w1.heap[w.heap.size]? = some (.cells #[.slice none 0 0, .int .i64 0, .int .i64 0, .int .i64 0, .slice none 0 0, .slice none 0 0, .int .i64 0] 53 (0, 0))) := gr_at G1 HR0.out (by omega)
  have s1 : w.heap.size + 1 ≤ w1.heap.size := by have := G1.size; omega
  rw [hsz0] at RN
  have ht0 := gT_bd l p hl hp0 hp1
  obtain ⟨na, nn, nc, hNV⟩ := (Row.bs RN).form3
  subst hNV
  have e0 : (gT l p).2 = bP0 l p := rfl
  rw [e0] at HC1 ht0
  have HC1' : Hid _ := HC1
  have HN1 : Hid (Row w1 (w.heap.size + 1) w1.heap.size (.slice na nn nc) (gT l p).1) := RN
  generalize hnm : (gT l p).1 = nm at RN HN1 ht0
  have HNM : Hid ((gT l p).1 = nm) := hnm
  generalize hp0' : bP0 l p = p0 at HC1 HC1' ht0
  have HP0 : Hid (bP0 l p = p0) := hp0'
  obtain ⟨hnl, hq0, hq1⟩ := ht0
  clear HC1 RN G1 HC0 HR0 HG0 hnm hp0' e0
  go_wp2_with fail
  have HX1 : Hid ((w1.alloc (.cells #[.slice na nn nc, .int .i64 0, .int .i64 0, .int .i64 0, .slice none 0 0, .slice none 0 0, .int .i64 0] 53)).heap[w1.heap.size]? = some (.cells #[.slice na nn nc, .int .i64 0, .int .i64 0, .int .i64 0, .slice none 0 0, .slice none 0 0, .int .i64 0] 53 (0, 0))) := box_new w1 _
  have HC2 : Hid ((w1.alloc (.cells #[.slice na nn nc, .int .i64 0, .int .i64 0, .int .i64 0, .slice none 0 0, .slice none 0 0, .int .i64 0] 53)).heap[g]? = some (.cells #[.slice ba bn bc, .int .i64 p0] 37 (0, 0))) := gr_at (gr_alloc (g := w1.heap.size) (World.grownBy.refl _ _)) HC1'.out (by omega)
  have HG2 : Hid (w.grownBy (w1.alloc (.cells #[.slice na nn nc, .int .i64 0, .int .i64 0, .int .i64 0, .slice none 0 0, .slice none 0 0, .int .i64 0] 53)) (some g)) := gr_alloc HG1.out
  have HR2 : Hid ((w1.alloc (.cells #[.slice na nn nc, .int .i64 0, .int .i64 0, .int .i64 0, .slice none 0 0, .slice none 0 0, .int .i64 0] 53)).heap[w.heap.size]? = some (.cells #[.slice none 0 0, .int .i64 0, .int .i64 0, .int .i64 0, .slice none 0 0, .slice none 0 0, .int .i64 0] 53 (0, 0))) := gr_at (gr_alloc (g := w1.heap.size) (World.grownBy.refl _ _)) HR1.out (by omega)
  have HN2 : Hid (Row (w1.alloc (.cells #[.slice na nn nc, .int .i64 0, .int .i64 0, .int .i64 0, .slice none 0 0, .slice none 0 0, .int .i64 0] 53)) (w.heap.size + 1) w1.heap.size (.slice na nn nc) nm) := HN1.out.below ((Below.refl _ _).alloc (Nat.le_refl _) _)
  have sx2 : w1.heap.size + 1 ≤ (w1.alloc (.cells #[.slice na nn nc, .int .i64 0, .int .i64 0, .int .i64 0, .slice none 0 0, .slice none 0 0, .int .i64 0] 53)).heap.size := by simp
  clear HC1' HG1 HR1 HN1
  refine (l4get_c g _ l p0 _ HC2.out (HB.out _ HG2.out) hl hq0 hq1).mono ?_
  rintro e y0 ⟨rfl, HC, G⟩
  obtain ⟨bd0, hr0, hr1⟩ := gN_bd l p0 hl hq0 hq1
  have HGy : Hid (w.grownBy y0 (some g)) := grownBy_trans HG2.out G
  have HXy : y0.heap[w1.heap.size]? = some (.cells #[.slice na nn nc, .int .i64 0, .int .i64 0, .int .i64 0, .slice none 0 0, .slice none 0 0, .int .i64 0] 53 (0, 0)) := gr_at G HX1.out (by omega)
  have HRy : Hid (y0.heap[w.heap.size]? = some (.cells #[.slice none 0 0, .int .i64 0, .int .i64 0, .int .i64 0, .slice none 0 0, .slice none 0 0, .int .i64 0] 53 (0, 0))) := gr_at G HR2.out (by omega)
  have HNy : Hid (Row y0 (w.heap.size + 1) w1.heap.size (.slice na nn nc) nm) := HN2.out.gr G (.inl (by omega))
  have hsy : w1.heap.size + 1 ≤ y0.heap.size := by have := G.size; omega
  have HCy : Hid _ := HC
  generalize hn0 : (gN l p0).1 = n0 at HC HCy bd0
  have HV0 : Hid ((gN l p0).1 = n0) := hn0
  generalize hg0 : (gN l p0).2 = p1 at HC HCy hr0 hr1
  have HP1 : Hid (bP1 l p = p1) := by show _ = _; unfold bP1; rw [HP0.out, hg0]
  clear hq0 hq1 HC hn0 hg0 G HC2 HG2 HR2 HN2 HX1 sx2
  obtain ⟨zx, zl⟩ := box8z HXy
  obtain ⟨x0, x1, x2, x3, x4, x5, x6⟩ := bx7 HXy
  have HX3 : Hid ((y0.setCell ⟨w1.heap.size, 1, none⟩ (.int .i64 n0)).heap[w1.heap.size]? = some (.cells #[.slice na nn nc, .int .i64 n0, .int .i64 0, .int .i64 0, .slice none 0 0, .slice none 0 0, .int .i64 0] 53 (0, 0))) := box_set HXy
  have HC3 : Hid ((y0.setCell ⟨w1.heap.size, 1, none⟩ (.int .i64 n0)).heap[g]? = some (.cells #[.slice ba bn bc, .int .i64 p1] 37 (0, 0))) := box_other HCy.out (by omega)
  have HG3 : Hid (w.grownBy (y0.setCell ⟨w1.heap.size, 1, none⟩ (.int .i64 n0)) (some g)) := gr_set HGy.out (by omega)
  have HR3 : Hid ((y0.setCell ⟨w1.heap.size, 1, none⟩ (.int .i64 n0)).heap[w.heap.size]? = some (.cells #[.slice none 0 0, .int .i64 0, .int .i64 0, .int .i64 0, .slice none 0 0, .slice none 0 0, .int .i64 0] 53 (0, 0))) := box_other HRy.out (by omega)
  have HN3 : Hid (Row (y0.setCell ⟨w1.heap.size, 1, none⟩ (.int .i64 n0)) (w.heap.size + 1) w1.heap.size (.slice na nn nc) nm) := HNy.out.set (.inr (by omega))
  have sx2 : w1.heap.size + 1 ≤ (y0.setCell ⟨w1.heap.size, 1, none⟩ (.int .i64 n0)).heap.size := by rw [box_size]; exact hsy
  have hq0 := hr0
  have hq1 := hr1
  clear hr0 hr1 HCy HGy HRy HNy HXy hsy
  go_wp2_with fail
  clear zx zl x0 x1 x2 x3 x4 x5 x6
  refine (l4get_c g _ l p1 _ HC3.out (HB.out _ HG3.out) hl hq0 hq1).mono ?_
  rintro e y1 ⟨rfl, HC, G⟩
  obtain ⟨bd1, hr0, hr1⟩ := gN_bd l p1 hl hq0 hq1
  have HGy : Hid (w.grownBy y1 (some g)) := grownBy_trans HG3.out G
  have HXy : y1.heap[w1.heap.size]? = some (.cells #[.slice na nn nc, .int .i64 n0, .int .i64 0, .int .i64 0, .slice none 0 0, .slice none 0 0, .int .i64 0] 53 (0, 0)) := gr_at G HX3.out (by omega)
  have HRy : Hid (y1.heap[w.heap.size]? = some (.cells #[.slice none 0 0, .int .i64 0, .int .i64 0, .int .i64 0, .slice none 0 0, .slice none 0 0, .int .i64 0] 53 (0, 0))) := gr_at G HR3.out (by omega)
  have HNy : Hid (Row y1 (w.heap.size + 1) w1.heap.size (.slice na nn nc) nm) := HN3.out.gr G (.inl (by omega))
  have hsy : w1.heap.size + 1 ≤ y1.heap.size := by have := G.size; omega
  have HCy : Hid _ := HC
  generalize hn1 : (gN l p1).1 = n1 at HC HCy bd1
  have HV1 : Hid ((gN l p1).1 = n1) := hn1
  generalize hg1 : (gN l p1).2 = p2 at HC HCy hr0 hr1
  have HP2 : Hid (bP2 l p = p2) := by show _ = _; unfold bP2; rw [HP1.out, hg1]
  clear hq0 hq1 HC hn1 hg1 G HC3 HG3 HR3 HN3 HX3 sx2
  obtain ⟨zx, zl⟩ := box8z HXy
  obtain ⟨x0, x1, x2, x3, x4, x5, x6⟩ := bx7 HXy
  have HX4 : Hid ((y1.setCell ⟨w1.heap.size, 2, none⟩ (.int .i64 n1)).heap[w1.heap.size]? = some (.cells #[.slice na nn nc, .int .i64 n0, .int .i64 n1, .int .i64 0, .slice none 0 0, .slice none 0 0, .int .i64 0] 53 (0, 0))) := box_set HXy
  have HC4 : Hid ((y1.setCell ⟨w1.heap.size, 2, none⟩ (.int .i64 n1)).heap[g]? = some (.cells #[.slice ba bn bc, .int .i64 p2] 37 (0, 0))) := box_other HCy.out (by omega)
  have HG4 : Hid (w.grownBy (y1.setCell ⟨w1.heap.size, 2, none⟩ (.int .i64 n1)) (some g)) := gr_set HGy.out (by omega)
  have HR4 : Hid ((y1.setCell ⟨w1.heap.size, 2, none⟩ (.int .i64 n1)).heap[w.heap.size]? = some (.cells #[.slice none 0 0, .int .i64 0, .int .i64 0, .int .i64 0, .slice none 0 0, .slice none 0 0, .int .i64 0] 53 (0, 0))) := box_other HRy.out (by omega)
  have HN4 : Hid (Row (y1.setCell ⟨w1.heap.size, 2, none⟩ (.int .i64 n1)) (w.heap.size + 1) w1.heap.size (.slice na nn nc) nm) := HNy.out.set (.inr (by omega))
  have sx2 : w1.heap.size + 1 ≤ (y1.setCell ⟨w1.heap.size, 2, none⟩ (.int .i64 n1)).heap.size := by rw [box_size]; exact hsy
  have hq0 := hr0
  have hq1 := hr1
  clear hr0 hr1 HCy HGy HRy HNy HXy hsy
  go_wp2_with fail
  clear zx zl x0 x1 x2 x3 x4 x5 x6
  refine (l4get_c g _ l p2 _ HC4.out (HB.out _ HG4.out) hl hq0 hq1).mono ?_
  rintro e y2 ⟨rfl, HC, G⟩
  obtain ⟨bd2, hr0, hr1⟩ := gN_bd l p2 hl hq0 hq1
  have HGy : Hid (w.grownBy y2 (some g)) := grownBy_trans HG4.out G
  have HXy : y2.heap[w1.heap.size]? = some (.cells #[.slice na nn nc, .int .i64 n0, .int .i64 n1, .int .i64 0, .slice none 0 0, .slice none 0 0, .int .i64 0] 53 (0, 0)) := gr_at G HX4.out (by omega)
  have HRy : Hid (y2.heap[w.heap.size]? = some (.cells #[.slice none 0 0, .int .i64 0, .int .i64 0, .int .i64 0, .slice none 0 0, .slice none 0 0, .int .i64 0] 53 (0, 0))) := gr_at G HR4.out (by omega)
  have HNy : Hid (Row y2 (w.heap.size + 1) w1.heap.size (.slice na nn nc) nm) := HN4.out.gr G (.inl (by omega))
  have hsy : w1.heap.size + 1 ≤ y2.heap.size := by have := G.size; omega
  have HCy : Hid _ := HC
  generalize hn2 : (gN l p2).1 = n2 at HC HCy bd2
  have HV2 : Hid ((gN l p2).1 = n2) := hn2
  generalize hg2 : (gN l p2).2 = p3 at HC HCy hr0 hr1
  have HP3 : Hid (bP3 l p = p3) := by show _ = _; unfold bP3; rw [HP2.out, hg2]
  clear hq0 hq1 HC hn2 hg2 G HC4 HG4 HR4 HN4 HX4 sx2
  obtain ⟨zx, zl⟩ := box8z HXy
  obtain ⟨x0, x1, x2, x3, x4, x5, x6⟩ := bx7 HXy
  have HX5 : Hid ((y2.setCell ⟨w1.heap.size, 3, none⟩ (.int .i64 n2)).heap[w1.heap.size]? = some (.cells #[.slice na nn nc, .int .i64 n0, .int .i64 n1, .int .i64 n2, .slice none 0 0, .slice none 0 0, .int .i64 0] 53 (0, 0))) := box_set HXy
  have HC5 : Hid ((y2.setCell ⟨w1.heap.size, 3, none⟩ (.int .i64 n2)).heap[g]? = some (.cells #[.slice ba bn bc, .int .i64 p3] 37 (0, 0))) := box_other HCy.out (by omega)
  have HG5 : Hid (w.grownBy (y2.setCell ⟨w1.heap.size, 3, none⟩ (.int .i64 n2)) (some g)) := gr_set HGy.out (by omega)
  have HR5 : Hid ((y2.setCell ⟨w1.heap.size, 3, none⟩ (.int .i64 n2)).heap[w.heap.size]? = some (.cells #[.slice none 0 0, .int .i64 0, .int .i64 0, .int .i64 0, .slice none 0 0, .slice none 0 0, .int .i64 0] 53 (0, 0))) := box_other HRy.out (by omega)
  have HN5 : Hid (Row (y2.setCell ⟨w1.heap.size, 3, none⟩ (.int .i64 n2)) (w.heap.size + 1) w1.heap.size (.slice na nn nc) nm) := HNy.out.set (.inr (by omega))
  have sx2 : w1.heap.size + 1 ≤ (y2.setCell ⟨w1.heap.size, 3, none⟩ (.int .i64 n2)).heap.size := by rw [box_size]; exact hsy
  have hq0 := hr0
  have hq1 := hr1
  clear hr0 hr1 HCy HGy HRy HNy HXy hsy
  go_wp2_with fail
  clear zx zl x0 x1 x2 x3 x4 x5 x6
  refine (l4get_c g _ l p3 _ HC5.out (HB.out _ HG5.out) hl hq0 hq1).mono ?_
  rintro e y3 ⟨rfl, HC, G⟩
  obtain ⟨bd3, hr0, hr1⟩ := gN_bd l p3 hl hq0 hq1
  have HGy : Hid (w.grownBy y3 (some g)) := grownBy_trans HG5.out G
  have HXy : y3.heap[w1.heap.size]? = some (.cells #[.slice na nn nc, .int .i64 n0, .int .i64 n1, .int .i64 n2, .slice none 0 0, .slice none 0 0, .int .i64 0] 53 (0, 0)) := gr_at G HX5.out (by omega)
  have HRy : Hid (y3.heap[w.heap.size]? = some (.cells #[.slice none 0 0, .int .i64 0, .int .i64 0, .int .i64 0, .slice none 0 0, .slice none 0 0, .int .i64 0] 53 (0, 0))) := gr_at G HR5.out (by omega)
  have HNy : Hid (Row y3 (w.heap.size + 1) w1.heap.size (.slice na nn nc) nm) := HN5.out.gr G (.inl (by omega))
  have hsy : w1.heap.size + 1 ≤ y3.heap.size := by have := G.size; omega
  have HCy : Hid _ := HC
  generalize hn3 : (gN l p3).1 = n3 at HC HCy bd3
  have HV3 : Hid ((gN l p3).1 = n3) := hn3
  generalize hg3 : (gN l p3).2 = p4 at HC HCy hr0 hr1
  have HP4 : Hid (bP4 l p = p4) := by show _ = _; unfold bP4; rw [HP3.out, hg3]
  clear hq0 hq1 HC hn3 hg3 G HC5 HG5 HR5 HN5 HX5 sx2
  obtain ⟨zx, zl⟩ := box8z HXy
  obtain ⟨x0, x1, x2, x3, x4, x5, x6⟩ := bx7 HXy
  have HX6 : Hid ((y3.setCell ⟨w1.heap.size, 6, none⟩ (.int .i64 n3)).heap[w1.heap.size]? = some (.cells #[.slice na nn nc, .int .i64 n0, .int .i64 n1, .int .i64 n2, .slice none 0 0, .slice none 0 0, .int .i64 n3] 53 (0, 0))) := box_set HXy
  have HC6 : Hid ((y3.setCell ⟨w1.heap.size, 6, none⟩ (.int .i64 n3)).heap[g]? = some (.cells #[.slice ba bn bc, .int .i64 p4] 37 (0, 0))) := box_other HCy.out (by omega)
  have HG6 : Hid (w.grownBy (y3.setCell ⟨w1.heap.size, 6, none⟩ (.int .i64 n3)) (some g)) := gr_set HGy.out (by omega)
  have HR6 : Hid ((y3.setCell ⟨w1.heap.size, 6, none⟩ (.int .i64 n3)).heap[w.heap.size]? = some (.cells #[.slice none 0 0, .int .i64 0, .int .i64 0, .int .i64 0, .slice none 0 0, .slice none 0 0, .int .i64 0] 53 (0, 0))) := box_other HRy.out (by omega)
  have HN6 : Hid (Row (y3.setCell ⟨w1.heap.size, 6, none⟩ (.int .i64 n3)) (w.heap.size + 1) w1.heap.size (.slice na nn nc) nm) := HNy.out.set (.inr (by omega))
  have sx2 : w1.heap.size + 1 ≤ (y3.setCell ⟨w1.heap.size, 6, none⟩ (.int .i64 n3)).heap.size := by rw [box_size]; exact hsy
  have hq0 := hr0
  have hq1 := hr1
  clear hr0 hr1 HCy HGy HRy HNy HXy hsy
  go_wp2_with fail
  clear zx zl x0 x1 x2 x3 x4 x5 x6
  refine (l4get_c g _ l p4 _ HC6.out (HB.out _ HG6.out) hl hq0 hq1).mono ?_
  rintro e y4 ⟨rfl, HC, G⟩
  obtain ⟨bd4, hr0, hr1⟩ := gN_bd l p4 hl hq0 hq1
  have HGy : Hid (w.grownBy y4 (some g)) := grownBy_trans HG6.out G
  have HXy : Hid (y4.heap[w1.heap.size]? = some (.cells #[.slice na nn nc, .int .i64 n0, .int .i64 n1, .int .i64 n2, .slice none 0 0, .slice none 0 0, .int .i64 n3] 53 (0, 0))) := gr_at G HX6.out (by omega)
  have HRy : Hid (y4.heap[w.heap.size]? = some (.cells #[.slice none 0 0, .int .i64 0, .int .i64 0, .int .i64 0, .slice none 0 0, .slice none 0 0, .int .i64 0] 53 (0, 0))) := gr_at G HR6.out (by omega)
  have HNy : Hid (Row y4 (w.heap.size + 1) w1.heap.size (.slice na nn nc) nm) := HN6.out.gr G (.inl (by omega))
  have hsy : w1.heap.size + 1 ≤ y4.heap.size := by have := G.size; omega
  have HCy : Hid _ := HC
  generalize hn4 : (gN l p4).1 = n4 at HC HCy bd4
  generalize hg4 : (gN l p4).2 = q4 at HC HCy hr0 hr1
  have HM : Hid (bM l p = gMany (gMail l) (min n4.toNat 13) q4) := by show _ = _; unfold bM; rw [HP4.out, hn4, hg4]
  clear hq0 hq1 HC hn4 hg4 G HC6 HG6 HR6 HN6 HX6 sx2
  obtain ⟨n4', rfl⟩ : ∃ n : Nat, n4 = n := ⟨n4.toNat, by omega⟩
  rw [Int.toNat_natCast] at HM
  go_wp2
  go_loopw [5] (fun i wr => ∃ (c : Nat) (q : Int) (ms : List MailD) (va : Option Addr) (vn vc : Nat), c ≤ 13 ∧ i = .int .i64 c ∧ -1 ≤ q ∧ q ≤ 9000000 ∧ Hid (bM l p = (ms ++ (gMany (gMail l) (min n4' 13 - c) q).1, (gMany (gMail l) (min n4' 13 - c) q).2) ∧ ms.length = c) ∧ Hid (w.grownBy wr (some g)) ∧ Hid (wr.heap[g]? = some (.cells #[.slice ba bn bc, .int .i64 q] 37 (0, 0))) ∧ Hid (wr.heap[w1.heap.size]? = some (.cells #[.slice na nn nc, .int .i64 n0, .int .i64 n1, .int .i64 n2, .slice va vn vc, .slice none 0 0, .int .i64 n3] 53 (0, 0))) ∧ Hid (wr.heap[w.heap.size]? = some (.cells #[.slice none 0 0, .int .i64 0, .int .i64 0, .int .i64 0, .slice none 0 0, .slice none 0 0, .int .i64 0] 53 (0, 0))) ∧ Hid (Row wr (w.heap.size + 1) w1.heap.size (.slice na nn nc) nm) ∧ w1.heap.size + 1 ≤ wr.heap.size ∧ Hid (MailsR wr (w1.heap.size + 1) wr.heap.size (.slice va vn vc) ms)) (fun i _ => 13 - (intOf i).toNat)
  case atStart => exact ⟨0, q4, [], none, 0, 0, by omega, rfl, hr0, hr1, ⟨HM.out, rfl⟩, HGy, HCy, HXy, HRy, HNy, hsy, .inl ⟨rfl, rfl⟩⟩
  case round =>
    obtain ⟨c, q, ms, va, vn, vc, hc, rfl, hq0, hq1, HM1, HG, HC, HX, HR, HN, hs, HO⟩ := hrel
    clear HM HGy HCy HXy HRy HNy hsy hr0 hr1
    obtain ⟨c0, c1⟩ := bx2 HC.out
    by_cases hgo : c < n4' ∧ c ≤ 12 ∧ 0 ≤ q
    · obtain ⟨ha1, ha2, ha3⟩ := hgo
      have HL : Hid (bM l p = (ms ++ [(gMail l q).1] ++ (gMany (gMail l) (min n4' 13 - (c + 1)) (gMail l q).2).1, (gMany (gMail l) (min n4' 13 - (c + 1)) (gMail l q).2).2)) := many_step HM1.out.1 (by omega) ha3
      have HLn : Hid (ms.length = c) := HM1.out.2
      clear HM1
      have hd1 : decide ((c : Int) < n4') = true := by simp; omega
      have hd2 : decide ((c : Int) ≤ 12) = true := by simp; omega
      have hd3 : decide (0 ≤ q) = true := by simpa using ha3
      go_wp2_with fail
      clear c0 c1
      refine (l4get_c g _ l q _ HC.out (HB.out _ HG.out) hl hq0 hq1).mono ?_
      rintro e m0 ⟨rfl, KC, G⟩
      obtain ⟨be0, hr0, hr0'⟩ := gN_bd l q hl hq0 hq1
      have HGm0 : Hid (w.grownBy m0 (some g)) := grownBy_trans HG.out G
      have HXm0 : Hid (m0.heap[w1.heap.size]? = some (.cells #[.slice na nn nc, .int .i64 n0, .int .i64 n1, .int .i64 n2, .slice va vn vc, .slice none 0 0, .int .i64 n3] 53 (0, 0))) := gr_at G HX.out (by omega)
      have HRm0 : Hid (m0.heap[w.heap.size]? = some (.cells #[.slice none 0 0, .int .i64 0, .int .i64 0, .int .i64 0, .slice none 0 0, .slice none 0 0, .int .i64 0] 53 (0, 0))) := gr_at G HR.out (by omega)
      have HNm0 : Hid (Row m0 (w.heap.size + 1) w1.heap.size (.slice na nn nc) nm) := HN.out.gr G (.inl (by omega))
      have HOm0 : Hid (MailsR m0 (w1.heap.size + 1) wr.heap.size (.slice va vn vc) ms) := OwR.gr HO.out G (.inl (by omega))
      have hsm0 : wr.heap.size ≤ m0.heap.size := by have := G.size; omega
      have KCm0 : Hid _ := KC
      generalize hu0 : (gN l q).1 = u0 at KC be0
      generalize hv0 : (gN l q).2 = r0 at KC KCm0 hr0 hr0'
      have HU0 : Hid ((gN l q).1 = u0 ∧ (gN l q).2 = r0) := ⟨hu0, hv0⟩
      clear KC hu0 hv0 G HG HC HX HR HN HO
      have HMB1 : Hid ((m0.alloc (.cells #[.int .i64 u0, .int .i64 0, .int .i64 0, .slice none 0 0] 73)).heap[m0.heap.size]? = some (.cells #[.int .i64 u0, .int .i64 0, .int .i64 0, .slice none 0 0] 73 (0, 0))) := box_new m0 _
      have HC1 : Hid ((m0.alloc (.cells #[.int .i64 u0, .int .i64 0, .int .i64 0, .slice none 0 0] 73)).heap[g]? = some (.cells #[.slice ba bn bc, .int .i64 r0] 37 (0, 0))) := gr_at (gr_alloc (g := m0.heap.size) (World.grownBy.refl _ _)) KCm0.out (by omega)
      have HG1 : Hid (w.grownBy (m0.alloc (.cells #[.int .i64 u0, .int .i64 0, .int .i64 0, .slice none 0 0] 73)) (some g)) := gr_alloc HGm0.out
      have HX1 : Hid ((m0.alloc (.cells #[.int .i64 u0, .int .i64 0, .int .i64 0, .slice none 0 0] 73)).heap[w1.heap.size]? = some (.cells #[.slice na nn nc, .int .i64 n0, .int .i64 n1, .int .i64 n2, .slice va vn vc, .slice none 0 0, .int .i64 n3] 53 (0, 0))) := gr_at (gr_alloc (g := m0.heap.size) (World.grownBy.refl _ _)) HXm0.out (by omega)
      have HR1 : Hid ((m0.alloc (.cells #[.int .i64 u0, .int .i64 0, .int .i64 0, .slice none 0 0] 73)).heap[w.heap.size]? = some (.cells #[.slice none 0 0, .int .i64 0, .int .i64 0, .int .i64 0, .slice none 0 0, .slice none 0 0, .int .i64 0] 53 (0, 0))) := gr_at (gr_alloc (g := m0.heap.size) (World.grownBy.refl _ _)) HRm0.out (by omega)
      have HN1 : Hid (Row (m0.alloc (.cells #[.int .i64 u0, .int .i64 0, .int .i64 0, .slice none 0 0] 73)) (w.heap.size + 1) w1.heap.size (.slice na nn nc) nm) := HNm0.out.below ((Below.refl _ _).alloc (Nat.le_refl _) _)
      have HO1 : Hid (MailsR (m0.alloc (.cells #[.int .i64 u0, .int .i64 0, .int .i64 0, .slice none 0 0] 73)) (w1.heap.size + 1) wr.heap.size (.slice va vn vc) ms) := OwR.below HOm0.out ((Below.refl _ _).alloc (Nat.le_refl _) _)
      have sm : m0.heap.size + 1 ≤ (m0.alloc (.cells #[.int .i64 u0, .int .i64 0, .int .i64 0, .slice none 0 0] 73)).heap.size := by simp
      clear HGm0 HXm0 HRm0 HNm0 HOm0 KCm0
      go_wp2_with fail
      refine (l4get_c g _ l r0 _ HC1.out (HB.out _ HG1.out) hl hr0 hr0').mono ?_
      rintro e m1 ⟨rfl, KC, G⟩
      obtain ⟨be1, hr1, hr1'⟩ := gN_bd l r0 hl hr0 hr0'
      have HGm1 : Hid (w.grownBy m1 (some g)) := grownBy_trans HG1.out G
      have HXm1 : Hid (m1.heap[w1.heap.size]? = some (.cells #[.slice na nn nc, .int .i64 n0, .int .i64 n1, .int .i64 n2, .slice va vn vc, .slice none 0 0, .int .i64 n3] 53 (0, 0))) := gr_at G HX1.out (by omega)
      have HRm1 : Hid (m1.heap[w.heap.size]? = some (.cells #[.slice none 0 0, .int .i64 0, .int .i64 0, .int .i64 0, .slice none 0 0, .slice none 0 0, .int .i64 0] 53 (0, 0))) := gr_at G HR1.out (by omega)
      have HNm1 : Hid (Row m1 (w.heap.size + 1) w1.heap.size (.slice na nn nc) nm) := HN1.out.gr G (.inl (by omega))
      have HOm1 : Hid (MailsR m1 (w1.heap.size + 1) wr.heap.size (.slice va vn vc) ms) := OwR.gr HO1.out G (.inl (by omega))
      have hsm1 : m0.heap.size + 1 ≤ m1.heap.size := by have := G.size; omega
      have KMBm1 : m1.heap[m0.heap.size]? = some (.cells #[.int .i64 u0, .int .i64 0, .int .i64 0, .slice none 0 0] 73 (0, 0)) := gr_at G HMB1.out (by omega)
      have KCm1 : Hid _ := KC
      generalize hu1 : (gN l r0).1 = u1 at KC be1
      generalize hv1 : (gN l r0).2 = r1 at KC KCm1 hr1 hr1'
      have HU1 : Hid ((gN l r0).1 = u1 ∧ (gN l r0).2 = r1) := ⟨hu1, hv1⟩
      clear KC hu1 hv1 G HG1 HC1 HX1 HR1 HN1 HO1 HMB1
      obtain ⟨zx, zl⟩ := box8z KMBm1
      obtain ⟨x0, x1, x2, x3⟩ := bx4 KMBm1
      have HMB2 : Hid ((m1.setCell ⟨m0.heap.size, 1, none⟩ (.int .i64 u1)).heap[m0.heap.size]? = some (.cells #[.int .i64 u0, .int .i64 u1, .int .i64 0, .slice none 0 0] 73 (0, 0))) := box_set KMBm1
      have HC2 : Hid ((m1.setCell ⟨m0.heap.size, 1, none⟩ (.int .i64 u1)).heap[g]? = some (.cells #[.slice ba bn bc, .int .i64 r1] 37 (0, 0))) := box_other KCm1.out (by omega)
      have HG2 : Hid (w.grownBy (m1.setCell ⟨m0.heap.size, 1, none⟩ (.int .i64 u1)) (some g)) := gr_set HGm1.out (by omega)
      have HX2 : Hid ((m1.setCell ⟨m0.heap.size, 1, none⟩ (.int .i64 u1)).heap[w1.heap.size]? = some (.cells #[.slice na nn nc, .int .i64 n0, .int .i64 n1, .int .i64 n2, .slice va vn vc, .slice none 0 0, .int .i64 n3] 53 (0, 0))) := box_other HXm1.out (by omega)
      have HR2 : Hid ((m1.setCell ⟨m0.heap.size, 1, none⟩ (.int .i64 u1)).heap[w.heap.size]? = some (.cells #[.slice none 0 0, .int .i64 0, .int .i64 0, .int .i64 0, .slice none 0 0, .slice none 0 0, .int .i64 0] 53 (0, 0))) := box_other HRm1.out (by omega)
      have HN2 : Hid (Row (m1.setCell ⟨m0.heap.size, 1, none⟩ (.int .i64 u1)) (w.heap.size + 1) w1.heap.size (.slice na nn nc) nm) := HNm1.out.set (.inr (by omega))
      have HO2 : Hid (MailsR (m1.setCell ⟨m0.heap.size, 1, none⟩ (.int .i64 u1)) (w1.heap.size + 1) wr.heap.size (.slice va vn vc) ms) := OwR.set HOm1.out (.inr (by omega))
      have sm2 : m0.heap.size + 1 ≤ (m1.setCell ⟨m0.heap.size, 1, none⟩ (.int .i64 u1)).heap.size := by rw [box_size]; omega
      clear KMBm1 KCm1 HGm1 HXm1 HRm1 HNm1 HOm1
      go_wp2_with fail
      clear zx zl x0 x1 x2 x3
      refine (l4get_c g _ l r1 _ HC2.out (HB.out _ HG2.out) hl hr1 hr1').mono ?_
      rintro e m2 ⟨rfl, KC, G⟩
      obtain ⟨be2, hr2, hr2'⟩ := gN_bd l r1 hl hr1 hr1'
      have HGm2 : Hid (w.grownBy m2 (some g)) := grownBy_trans HG2.out G
      have HXm2 : Hid (m2.heap[w1.heap.size]? = some (.cells #[.slice na nn nc, .int .i64 n0, .int .i64 n1, .int .i64 n2, .slice va vn vc, .slice none 0 0, .int .i64 n3] 53 (0, 0))) := gr_at G HX2.out (by omega)
      have HRm2 : Hid (m2.heap[w.heap.size]? = some (.cells #[.slice none 0 0, .int .i64 0, .int .i64 0, .int .i64 0, .slice none 0 0, .slice none 0 0, .int .i64 0] 53 (0, 0))) := gr_at G HR2.out (by omega)
      have HNm2 : Hid (Row m2 (w.heap.size + 1) w1.heap.size (.slice na nn nc) nm) := HN2.out.gr G (.inl (by omega))
      have HOm2 : Hid (MailsR m2 (w1.heap.size + 1) wr.heap.size (.slice va vn vc) ms) := OwR.gr HO2.out G (.inl (by omega))
      have hsm2 : m0.heap.size + 1 ≤ m2.heap.size := by have := G.size; omega
      have KMBm2 : m2.heap[m0.heap.size]? = some (.cells #[.int .i64 u0, .int .i64 u1, .int .i64 0, .slice none 0 0] 73 (0, 0)) := gr_at G HMB2.out (by omega)
      have KCm2 : Hid _ := KC
      generalize hu2 : (gN l r1).1 = u2 at KC be2
      generalize hv2 : (gN l r1).2 = r2 at KC KCm2 hr2 hr2'
      have HU2 : Hid ((gN l r1).1 = u2 ∧ (gN l r1).2 = r2) := ⟨hu2, hv2⟩
      clear KC hu2 hv2 G HG2 HC2 HX2 HR2 HN2 HO2 HMB2
      obtain ⟨zx, zl⟩ := box8z KMBm2
      obtain ⟨x0, x1, x2, x3⟩ := bx4 KMBm2
      have HMB3 : Hid ((m2.setCell ⟨m0.heap.size, 2, none⟩ (.int .i64 u2)).heap[m0.heap.size]? = some (.cells #[.int .i64 u0, .int .i64 u1, .int .i64 u2, .slice none 0 0] 73 (0, 0))) := box_set KMBm2
      have HC3 : Hid ((m2.setCell ⟨m0.heap.size, 2, none⟩ (.int .i64 u2)).heap[g]? = some (.cells #[.slice ba bn bc, .int .i64 r2] 37 (0, 0))) := box_other KCm2.out (by omega)
      have HG3 : Hid (w.grownBy (m2.setCell ⟨m0.heap.size, 2, none⟩ (.int .i64 u2)) (some g)) := gr_set HGm2.out (by omega)
      have HX3 : Hid ((m2.setCell ⟨m0.heap.size, 2, none⟩ (.int .i64 u2)).heap[w1.heap.size]? = some (.cells #[.slice na nn nc, .int .i64 n0, .int .i64 n1, .int .i64 n2, .slice va vn vc, .slice none 0 0, .int .i64 n3] 53 (0, 0))) := box_other HXm2.out (by omega)
      have HR3 : Hid ((m2.setCell ⟨m0.heap.size, 2, none⟩ (.int .i64 u2)).heap[w.heap.size]? = some (.cells #[.slice none 0 0, .int .i64 0, .int .i64 0, .int .i64 0, .slice none 0 0, .slice none 0 0, .int .i64 0] 53 (0, 0))) := box_other HRm2.out (by omega)
      have HN3 : Hid (Row (m2.setCell ⟨m0.heap.size, 2, none⟩ (.int .i64 u2)) (w.heap.size + 1) w1.heap.size (.slice na nn nc) nm) := HNm2.out.set (.inr (by omega))
      have HO3 : Hid (MailsR (m2.setCell ⟨m0.heap.size, 2, none⟩ (.int .i64 u2)) (w1.heap.size + 1) wr.heap.size (.slice va vn vc) ms) := OwR.set HOm2.out (.inr (by omega))
      have sm3 : m0.heap.size + 1 ≤ (m2.setCell ⟨m0.heap.size, 2, none⟩ (.int .i64 u2)).heap.size := by rw [box_size]; omega
      clear KMBm2 KCm2 HGm2 HXm2 HRm2 HNm2 HOm2
      go_wp2_with fail
      clear zx zl x0 x1 x2 x3
      refine (l4getText_c g _ l r2 _ HC3.out (HB.out _ HG3.out) hl hr2 hr2').mono ?_
      rintro e m3 ⟨TV, rfl, RT, KC, G⟩
      obtain ⟨be3, hr3, hr3'⟩ := gT_bd l r2 hl hr2 hr2'
      have HGm3 : Hid (w.grownBy m3 (some g)) := grownBy_trans HG3.out G
      have HXm3 : Hid (m3.heap[w1.heap.size]? = some (.cells #[.slice na nn nc, .int .i64 n0, .int .i64 n1, .int .i64 n2, .slice va vn vc, .slice none 0 0, .int .i64 n3] 53 (0, 0))) := gr_at G HX3.out (by omega)
      have HRm3 : Hid (m3.heap[w.heap.size]? = some (.cells #[.slice none 0 0, .int .i64 0, .int .i64 0, .int .i64 0, .slice none 0 0, .slice none 0 0, .int .i64 0] 53 (0, 0))) := gr_at G HR3.out (by omega)
      have HNm3 : Hid (Row m3 (w.heap.size + 1) w1.heap.size (.slice na nn nc) nm) := HN3.out.gr G (.inl (by omega))
      have HOm3 : Hid (MailsR m3 (w1.heap.size + 1) wr.heap.size (.slice va vn vc) ms) := OwR.gr HO3.out G (.inl (by omega))
      have hsm3 : m0.heap.size + 1 ≤ m3.heap.size := by have := G.size; omega
      have KMBm3 : m3.heap[m0.heap.size]? = some (.cells #[.int .i64 u0, .int .i64 u1, .int .i64 u2, .slice none 0 0] 73 (0, 0)) := gr_at G HMB3.out (by omega)
      obtain ⟨ta, tn, tc, hTV⟩ := (Row.bs RT).form3
      subst hTV
      have HT : Hid (Row m3 (m2.setCell ⟨m0.heap.size, 2, none⟩ (.int .i64 u2)).heap.size m3.heap.size (.slice ta tn tc) (gT l r2).1) := RT
      have KCm3 : Hid _ := KC
      generalize hu3 : (gT l r2).1 = u3 at KC be3 RT HT
      generalize hv3 : (gT l r2).2 = r3 at KC KCm3 hr3 hr3'
      have HU3 : Hid ((gT l r2).1 = u3 ∧ (gT l r2).2 = r3) := ⟨hu3, hv3⟩
      clear KC hu3 hv3 G HG3 HC3 HX3 HR3 HN3 HO3 HMB3 RT
      obtain ⟨zx, zl⟩ := box8z KMBm3
      obtain ⟨x0, x1, x2, x3⟩ := bx4 KMBm3
      have HMB4 : Hid ((m3.setCell ⟨m0.heap.size, 3, none⟩ (.slice ta tn tc)).heap[m0.heap.size]? = some (.cells #[.int .i64 u0, .int .i64 u1, .int .i64 u2, .slice ta tn tc] 73 (0, 0))) := box_set KMBm3
      have HC4 : Hid ((m3.setCell ⟨m0.heap.size, 3, none⟩ (.slice ta tn tc)).heap[g]? = some (.cells #[.slice ba bn bc, .int .i64 r3] 37 (0, 0))) := box_other KCm3.out (by omega)
      have HG4 : Hid (w.grownBy (m3.setCell ⟨m0.heap.size, 3, none⟩ (.slice ta tn tc)) (some g)) := gr_set HGm3.out (by omega)
      have HX4 : Hid ((m3.setCell ⟨m0.heap.size, 3, none⟩ (.slice ta tn tc)).heap[w1.heap.size]? = some (.cells #[.slice na nn nc, .int .i64 n0, .int .i64 n1, .int .i64 n2, .slice va vn vc, .slice none 0 0, .int .i64 n3] 53 (0, 0))) := box_other HXm3.out (by omega)
      have HR4 : Hid ((m3.setCell ⟨m0.heap.size, 3, none⟩ (.slice ta tn tc)).heap[w.heap.size]? = some (.cells #[.slice none 0 0, .int .i64 0, .int .i64 0, .int .i64 0, .slice none 0 0, .slice none 0 0, .int .i64 0] 53 (0, 0))) := box_other HRm3.out (by omega)
      have HN4 : Hid (Row (m3.setCell ⟨m0.heap.size, 3, none⟩ (.slice ta tn tc)) (w.heap.size + 1) w1.heap.size (.slice na nn nc) nm) := HNm3.out.set (.inr (by omega))
      have HO4 : Hid (MailsR (m3.setCell ⟨m0.heap.size, 3, none⟩ (.slice ta tn tc)) (w1.heap.size + 1) wr.heap.size (.slice va vn vc) ms) := OwR.set HOm3.out (.inr (by omega))
      have HT4 : Hid (Row (m3.setCell ⟨m0.heap.size, 3, none⟩ (.slice ta tn tc)) m2.heap.size m3.heap.size (.slice ta tn tc) u3) := HT.out.wide (by rw [box_size]; exact Nat.le_refl _) (Nat.le_refl _) |>.set (.inl (by omega))
      have sm4 : m0.heap.size + 1 ≤ (m3.setCell ⟨m0.heap.size, 3, none⟩ (.slice ta tn tc)).heap.size := by rw [box_size]; omega
      clear KMBm3 KCm3 HGm3 HXm3 HRm3 HNm3 HOm3 HT
      have hfin : (gMail l q).1 = ⟨u0, u1, u2, u3⟩ ∧ (gMail l q).2 = r3 := by unfold gMail; rw [HU0.out.1, HU0.out.2, HU1.out.1, HU1.out.2, HU2.out.1, HU2.out.2, HU3.out.1, HU3.out.2]; exact ⟨rfl, rfl⟩
      have HL2 : Hid (bM l p = (ms ++ [⟨u0, u1, u2, u3⟩] ++ (gMany (gMail l) (min n4' 13 - (c + 1)) r3).1, (gMany (gMail l) (min n4' 13 - (c + 1)) r3).2)) := by show _ = _; rw [HL.out, hfin.1, hfin.2]
      clear hfin HL HU0 HU1 HU2 HU3
      go_upto_region 14 with fail
      clear zx zl x0 x1 x2 x3
      have S34 : Hid ((m3.setCell ⟨m0.heap.size, 3, none⟩ (.slice ta tn tc)).heap.size = m3.heap.size) := box_size
      generalize hw4 : (m3.setCell ⟨m0.heap.size, 3, none⟩ (.slice ta tn tc)) = w4 at *
      clear hw4
      obtain ⟨b0, b1, b2, b3, b4, b5, b6⟩ := bx7 HX4.out
      obtain ⟨x0, x1, x2, x3⟩ := bx4 HMB4.out
      have lx := lt_of_heap HX4.out
      have lm := lt_of_heap HMB4.out
      have AB : Below w4.heap.size w4 (w4.alloc (.cells #[.int .i64 u0, .int .i64 u1, .int .i64 u2, .slice ta tn tc] 73)) := (Below.refl _ _).alloc (Nat.le_refl _) _
      have hwide : wr.heap.size ≤ m2.heap.size := by omega
      have h43 : m3.heap.size ≤ (w4.alloc (.cells #[.int .i64 u0, .int .i64 u1, .int .i64 u2, .slice ta tn tc] 73)).heap.size := by have := S34.out; simp; omega
      have HE : Hid (MailE (w4.alloc (.cells #[.int .i64 u0, .int .i64 u1, .int .i64 u2, .slice ta tn tc] 73)) [.int .i64 u0, .int .i64 u1, .int .i64 u2, .slice ta tn tc] ⟨u0, u1, u2, u3⟩ (In wr.heap.size (w4.alloc (.cells #[.int .i64 u0, .int .i64 u1, .int .i64 u2, .slice ta tn tc] 73)).heap.size)) := ⟨_, rfl, (((HT4.out.below AB).wide hwide h43).ro), i64_of be0, i64_of be1, i64_of be2⟩
      have HOp : Hid _ := OwR.below HO4.out AB
      have hMs : wr.heap.size ≤ (w4.alloc (.cells #[.int .i64 u0, .int .i64 u1, .int .i64 u2, .slice ta tn tc] 73)).heap.size := by have := S34.out; simp; omega
      have hone : ∀ u ∈ [.int .i64 u0, .int .i64 u1, .int .i64 u2, .slice ta tn tc], Value.oneCell' u = true := by intro u hu; simp only [List.mem_cons, List.not_mem_nil, or_false] at hu; rcases hu with rfl | rfl | rfl | rfl <;> rfl
      have hl1 : ms.length + 1 ≤ maxLen := by have := HLn.out; unfold maxLen; omega
      have hl2 : (ms.length + 1) * 48 ≤ 140737488355328 := by have := HLn.out; omega
      go_wp2_with (at_builtin; refine wpList_push rfl (.tmp 55) (.tmp 57) rfl framesMail (B := w1.heap.size + 1) (M := wr.heap.size) HOp.out hMs hs Tryd.underlying50 hi hz0 hz1 hz2 rfl (by omega) rfl ⟨u0, u1, u2, u3⟩ [.int .i64 u0, .int .i64 u1, .int .i64 u2, .slice ta tn tc] rfl HE.out ⟨w4.heap.size, 0, none⟩ 1 rfl (cells_new w4 _ _) hone hl1 hl2 ?_)
      intro DV wz hO hgz hvz
      obtain ⟨da, dn, dc, hDV⟩ := OwR.form3 hO
      subst hDV
      have hge : ∀ j, (Value.slice va vn vc).ownBlock = some j → w1.heap.size + 1 ≤ j := fun j hj => (hvz j hj).1
      have KX := grown_at hgz hge (box_below AB HX4.out) (by omega)
      have HCz : Hid (wz.heap[g]? = _) := grown_at hgz hge (box_below AB HC4.out) (by omega)
      have HRz : Hid (wz.heap[w.heap.size]? = _) := grown_at hgz hge (box_below AB HR4.out) (by omega)
      have HGz : Hid (w.grownBy wz (some g)) := gr_push (gr_below HG4.out AB) hgz (fun j hj => by have := hge j hj; omega)
      have HNz : Hid (Row wz (w.heap.size + 1) w1.heap.size (.slice na nn nc) nm) := (HN4.out.below AB).gr' hgz (fun j hj => by have := hge j hj; omega)
      have S34o := S34.out
      have sz : w4.heap.size + 1 ≤ wz.heap.size := by have := hgz.size; simpa using this
      obtain ⟨zx, zl⟩ := box8z KX
      obtain ⟨d0, d1, d2, d3, d4, d5, d6⟩ := bx7 KX
      have HX5 : Hid ((wz.setCell ⟨w1.heap.size, 4, none⟩ (.slice da dn dc)).heap[w1.heap.size]? = some (.cells #[.slice na nn nc, .int .i64 n0, .int .i64 n1, .int .i64 n2, .slice da dn dc, .slice none 0 0, .int .i64 n3] 53 (0, 0))) := box_set KX
      have HC5 : Hid ((wz.setCell ⟨w1.heap.size, 4, none⟩ (.slice da dn dc)).heap[g]? = _) := box_other HCz.out (by omega)
      have HR5 : Hid ((wz.setCell ⟨w1.heap.size, 4, none⟩ (.slice da dn dc)).heap[w.heap.size]? = _) := box_other HRz.out (by omega)
      have HG5 : Hid (w.grownBy (wz.setCell ⟨w1.heap.size, 4, none⟩ (.slice da dn dc)) (some g)) := gr_set HGz.out (by omega)
      have HN5 : Hid (Row (wz.setCell ⟨w1.heap.size, 4, none⟩ (.slice da dn dc)) (w.heap.size + 1) w1.heap.size (.slice na nn nc) nm) := HNz.out.set (.inr (by omega))
      have HO5 : Hid (MailsR (wz.setCell ⟨w1.heap.size, 4, none⟩ (.slice da dn dc)) (w1.heap.size + 1) (wz.setCell ⟨w1.heap.size, 4, none⟩ (.slice da dn dc)).heap.size (.slice da dn dc) (ms ++ [⟨u0, u1, u2, u3⟩])) := by show MailsR _ _ _ _ _; rw [box_size]; exact OwR.set hO (.inl (by omega))
      have hs5 : w1.heap.size + 1 ≤ (wz.setCell ⟨w1.heap.size, 4, none⟩ (.slice da dn dc)).heap.size := by rw [box_size]; omega
      have hlen5 : Hid ((ms ++ [(⟨u0, u1, u2, u3⟩ : MailD)]).length = c + 1) := by show _ = _; simp [HLn.out]
      clear KX HCz HRz HGz HNz HX4 HC4 HR4 HG4 HN4 HO4 HMB4 HT4 HE HOp hO hgz hvz hge b0 b1 b2 b3 b4 b5 b6 x0 x1 x2 x3 AB hone hl1 hl2 HLn
      go_wp2
      go_roundw
      case rel => exact ⟨c + 1, r3, _, da, dn, dc, by omega, by go_num, hr3, hr3', ⟨HL2.out, hlen5.out⟩, HG5, HC5, HX5, HR5, HN5, hs5, HO5⟩
      case measure => simp [intOf]; omega
    · have HME : Hid (bM l p = (ms, q) ∧ ms.length ≤ 13) := ⟨many_end HM1.out.1 (by omega), by have := HM1.out.2; omega⟩
      clear HM1
      go_upto_region 8 with fail
      go_cut [39] (fun s wx => s = .bool false ∧ wx = wr)
      case first =>
        by_cases h1 : c < n4'
        · by_cases h2 : c ≤ 12
          · have h3 : q < 0 := by omega
            have hd1 : decide ((c : Int) < n4') = true := by simp; omega
            have hd2 : decide ((c : Int) ≤ 12) = true := by simp; omega
            have hd3 : decide (0 ≤ q) = false := by simp; omega
            go_wp2
            go_meet
            case rel => exact ⟨rfl, rfl⟩
          · have hd1 : decide ((c : Int) < n4') = true := by simp; omega
            have hd2 : decide ((c : Int) ≤ 12) = false := by simp; omega
            go_wp2
            go_meet
            case rel => exact ⟨rfl, rfl⟩
        · have hd1 : decide ((c : Int) < n4') = false := by simp; omega
          go_wp2
          go_meet
          case rel => exact ⟨rfl, rfl⟩
      case rest =>
        obtain ⟨rfl, rfl⟩ := hcut
        clear hgo c0 c1
        go_wp2_with fail
        refine (l4get_c g _ l q _ HC.out (HB.out _ HG.out) hl hq0 hq1).mono ?_
        rintro e z0 ⟨rfl, KC, G⟩
        obtain ⟨be0, hr0, hr1⟩ := gN_bd l q hl hq0 hq1
        have HG1 : Hid (w.grownBy z0 (some g)) := grownBy_trans HG.out G
        have HX1 : Hid (z0.heap[w1.heap.size]? = some (.cells #[.slice na nn nc, .int .i64 n0, .int .i64 n1, .int .i64 n2, .slice va vn vc, .slice none 0 0, .int .i64 n3] 53 (0, 0))) := gr_at G HX.out (by omega)
        have HR1 : Hid (z0.heap[w.heap.size]? = some (.cells #[.slice none 0 0, .int .i64 0, .int .i64 0, .int .i64 0, .slice none 0 0, .slice none 0 0, .int .i64 0] 53 (0, 0))) := gr_at G HR.out (by omega)
        have HN1 : Hid (Row z0 (w.heap.size + 1) w1.heap.size (.slice na nn nc) nm) := HN.out.gr G (.inl (by omega))
        have HO1 : Hid (MailsR z0 (w1.heap.size + 1) z0.heap.size (.slice va vn vc) ms) := OwR.wide (OwR.gr HO.out G (.inl (by omega))) (Nat.le_refl _) G.size
        have hs1 : w1.heap.size + 1 ≤ z0.heap.size := by have := G.size; omega
        have KC1 : Hid _ := KC
        generalize hn5 : (gN l q).1 = n5 at KC KC1 be0
        generalize hg5 : (gN l q).2 = q5 at KC KC1 hr0 hr1
        have HM5 : Hid (bG l p = gMany (gGone l) (min n5.toNat 41) q5) := by show _ = _; unfold bG; rw [HME.out.1]; rw [hn5, hg5]
        clear KC hn5 hg5 G HC HG HR HN HX HO
        obtain ⟨n5', rfl⟩ : ∃ n : Nat, n5 = n := ⟨n5.toNat, by omega⟩
        rw [Int.toNat_natCast] at HM5
        go_wp2
        go_loopw [7] (fun i wr => ∃ (c : Nat) (q : Int) (gs : List GoneD) (ga : Option Addr) (gn gc : Nat), c ≤ 41 ∧ i = .int .i64 c ∧ -1 ≤ q ∧ q ≤ 9000000 ∧ Hid (bG l p = (gs ++ (gMany (gGone l) (min n5' 41 - c) q).1, (gMany (gGone l) (min n5' 41 - c) q).2) ∧ gs.length = c) ∧ Hid (w.grownBy wr (some g)) ∧ Hid (wr.heap[g]? = some (.cells #[.slice ba bn bc, .int .i64 q] 37 (0, 0))) ∧ Hid (wr.heap[w1.heap.size]? = some (.cells #[.slice na nn nc, .int .i64 n0, .int .i64 n1, .int .i64 n2, .slice va vn vc, .slice ga gn gc, .int .i64 n3] 53 (0, 0))) ∧ Hid (wr.heap[w.heap.size]? = some (.cells #[.slice none 0 0, .int .i64 0, .int .i64 0, .int .i64 0, .slice none 0 0, .slice none 0 0, .int .i64 0] 53 (0, 0))) ∧ Hid (Row wr (w.heap.size + 1) w1.heap.size (.slice na nn nc) nm) ∧ z0.heap.size ≤ wr.heap.size ∧ Hid (MailsR wr (w1.heap.size + 1) z0.heap.size (.slice va vn vc) ms) ∧ Hid (GonesR wr z0.heap.size wr.heap.size (.slice ga gn gc) gs)) (fun i _ => 41 - (intOf i).toNat)
        case atStart => exact ⟨0, q5, [], none, 0, 0, by omega, rfl, hr0, hr1, ⟨HM5.out, rfl⟩, HG1, KC1, HX1, HR1, HN1, Nat.le_refl _, HO1, .inl ⟨rfl, rfl⟩⟩
        case round =>
          obtain ⟨c, q, gs, ga, gn, gc, hc, rfl, hq0, hq1, HM1, HG, HC, HX, HR, HN, hs, HO, HP⟩ := hrel
          clear HM5 HG1 KC1 HX1 HR1 HN1 HO1 hr0 hr1
          obtain ⟨c0, c1⟩ := bx2 HC.out
          by_cases hgo : c < n5' ∧ c ≤ 40 ∧ 0 ≤ q
          · obtain ⟨ha1, ha2, ha3⟩ := hgo
            have HL : Hid (bG l p = (gs ++ [(gGone l q).1] ++ (gMany (gGone l) (min n5' 41 - (c + 1)) (gGone l q).2).1, (gMany (gGone l) (min n5' 41 - (c + 1)) (gGone l q).2).2)) := many_step HM1.out.1 (by omega) ha3
            have HLn : Hid (gs.length = c) := HM1.out.2
            clear HM1
            have hd1 : decide ((c : Int) < n5') = true := by simp; omega
            have hd2 : decide ((c : Int) ≤ 40) = true := by simp; omega
            have hd3 : decide (0 ≤ q) = true := by simpa using ha3
            go_wp2_with fail
            clear c0 c1
            refine (l4get_c g _ l q _ HC.out (HB.out _ HG.out) hl hq0 hq1).mono ?_
            rintro e m0 ⟨rfl, KC, G⟩
            obtain ⟨be1, hr0, hr0'⟩ := gN_bd l q hl hq0 hq1
            have HGm0 : Hid (w.grownBy m0 (some g)) := grownBy_trans HG.out G
            have HXm0 : Hid (m0.heap[w1.heap.size]? = some (.cells #[.slice na nn nc, .int .i64 n0, .int .i64 n1, .int .i64 n2, .slice va vn vc, .slice ga gn gc, .int .i64 n3] 53 (0, 0))) := gr_at G HX.out (by omega)
            have HRm0 : Hid (m0.heap[w.heap.size]? = some (.cells #[.slice none 0 0, .int .i64 0, .int .i64 0, .int .i64 0, .slice none 0 0, .slice none 0 0, .int .i64 0] 53 (0, 0))) := gr_at G HR.out (by omega)
            have HNm0 : Hid (Row m0 (w.heap.size + 1) w1.heap.size (.slice na nn nc) nm) := HN.out.gr G (.inl (by omega))
            have HOm0 : Hid (MailsR m0 (w1.heap.size + 1) z0.heap.size (.slice va vn vc) ms) := OwR.gr HO.out G (.inl (by omega))
            have HPm0 : Hid (GonesR m0 z0.heap.size wr.heap.size (.slice ga gn gc) gs) := OwR.gr HP.out G (.inl (by omega))
            have hsm0 : wr.heap.size ≤ m0.heap.size := G.size
            have KCm0 : Hid _ := KC
            generalize hu0 : (gN l q).1 = u0 at KC be1
            generalize hv0 : (gN l q).2 = r0 at KC KCm0 hr0 hr0'
            have HU0 : Hid ((gN l q).1 = u0 ∧ (gN l q).2 = r0) := ⟨hu0, hv0⟩
            clear KC hu0 hv0 G HG HC HX HR HN HO HP
            have HMB1 : Hid ((m0.alloc (.cells #[.int .i64 u0, .int .i64 0] 75)).heap[m0.heap.size]? = some (.cells #[.int .i64 u0, .int .i64 0] 75 (0, 0))) := box_new m0 _
            have HC1 : Hid ((m0.alloc (.cells #[.int .i64 u0, .int .i64 0] 75)).heap[g]? = some (.cells #[.slice ba bn bc, .int .i64 r0] 37 (0, 0))) := gr_at (gr_alloc (g := m0.heap.size) (World.grownBy.refl _ _)) KCm0.out (by omega)
            have HG1 : Hid (w.grownBy (m0.alloc (.cells #[.int .i64 u0, .int .i64 0] 75)) (some g)) := gr_alloc HGm0.out
            have HX1 : Hid ((m0.alloc (.cells #[.int .i64 u0, .int .i64 0] 75)).heap[w1.heap.size]? = some (.cells #[.slice na nn nc, .int .i64 n0, .int .i64 n1, .int .i64 n2, .slice va vn vc, .slice ga gn gc, .int .i64 n3] 53 (0, 0))) := gr_at (gr_alloc (g := m0.heap.size) (World.grownBy.refl _ _)) HXm0.out (by omega)
            have HR1 : Hid ((m0.alloc (.cells #[.int .i64 u0, .int .i64 0] 75)).heap[w.heap.size]? = some (.cells #[.slice none 0 0, .int .i64 0, .int .i64 0, .int .i64 0, .slice none 0 0, .slice none 0 0, .int .i64 0] 53 (0, 0))) := gr_at (gr_alloc (g := m0.heap.size) (World.grownBy.refl _ _)) HRm0.out (by omega)
            have HN1 : Hid (Row (m0.alloc (.cells #[.int .i64 u0, .int .i64 0] 75)) (w.heap.size + 1) w1.heap.size (.slice na nn nc) nm) := HNm0.out.below ((Below.refl _ _).alloc (Nat.le_refl _) _)
            have HO1 : Hid (MailsR (m0.alloc (.cells #[.int .i64 u0, .int .i64 0] 75)) (w1.heap.size + 1) z0.heap.size (.slice va vn vc) ms) := OwR.below HOm0.out ((Below.refl _ _).alloc (Nat.le_refl _) _)
            have HP1 : Hid (GonesR (m0.alloc (.cells #[.int .i64 u0, .int .i64 0] 75)) z0.heap.size wr.heap.size (.slice ga gn gc) gs) := OwR.below HPm0.out ((Below.refl _ _).alloc (Nat.le_refl _) _)
            have sm : m0.heap.size + 1 ≤ (m0.alloc (.cells #[.int .i64 u0, .int .i64 0] 75)).heap.size := by simp
            clear HGm0 HXm0 HRm0 HNm0 HOm0 HPm0 KCm0
            go_wp2_with fail
            refine (l4get_c g _ l r0 _ HC1.out (HB.out _ HG1.out) hl hr0 hr0').mono ?_
            rintro e m1 ⟨rfl, KC, G⟩
            obtain ⟨be2, hr1, hr1'⟩ := gN_bd l r0 hl hr0 hr0'
            have HGm1 : Hid (w.grownBy m1 (some g)) := grownBy_trans HG1.out G
            have HXm1 : Hid (m1.heap[w1.heap.size]? = some (.cells #[.slice na nn nc, .int .i64 n0, .int .i64 n1, .int .i64 n2, .slice va vn vc, .slice ga gn gc, .int .i64 n3] 53 (0, 0))) := gr_at G HX1.out (by omega)
            have HRm1 : Hid (m1.heap[w.heap.size]? = some (.cells #[.slice none 0 0, .int .i64 0, .int .i64 0, .int .i64 0, .slice none 0 0, .slice none 0 0, .int .i64 0] 53 (0, 0))) := gr_at G HR1.out (by omega)
            have HNm1 : Hid (Row m1 (w.heap.size + 1) w1.heap.size (.slice na nn nc) nm) := HN1.out.gr G (.inl (by omega))
            have HOm1 : Hid (MailsR m1 (w1.heap.size + 1) z0.heap.size (.slice va vn vc) ms) := OwR.gr HO1.out G (.inl (by omega))
            have HPm1 : Hid (GonesR m1 z0.heap.size wr.heap.size (.slice ga gn gc) gs) := OwR.gr HP1.out G (.inl (by omega))
            have hsm1 : m0.heap.size + 1 ≤ m1.heap.size := by have := G.size; omega
            have KMB : m1.heap[m0.heap.size]? = some (.cells #[.int .i64 u0, .int .i64 0] 75 (0, 0)) := gr_at G HMB1.out (by omega)
            have KCm1 : Hid _ := KC
            generalize hu1 : (gN l r0).1 = u1 at KC be2
            generalize hv1 : (gN l r0).2 = r1 at KC KCm1 hr1 hr1'
            have HU1 : Hid ((gN l r0).1 = u1 ∧ (gN l r0).2 = r1) := ⟨hu1, hv1⟩
            clear KC hu1 hv1 G HG1 HC1 HX1 HR1 HN1 HO1 HP1 HMB1
            obtain ⟨zx, zl⟩ := box8z KMB
            obtain ⟨x0, x1⟩ := bx2 KMB
            have HMB4 : Hid ((m1.setCell ⟨m0.heap.size, 1, none⟩ (.int .i64 u1)).heap[m0.heap.size]? = some (.cells #[.int .i64 u0, .int .i64 u1] 75 (0, 0))) := box_set KMB
            have HC4 : Hid ((m1.setCell ⟨m0.heap.size, 1, none⟩ (.int .i64 u1)).heap[g]? = some (.cells #[.slice ba bn bc, .int .i64 r1] 37 (0, 0))) := box_other KCm1.out (by omega)
            have HG4 : Hid (w.grownBy (m1.setCell ⟨m0.heap.size, 1, none⟩ (.int .i64 u1)) (some g)) := gr_set HGm1.out (by omega)
            have HX4 : Hid ((m1.setCell ⟨m0.heap.size, 1, none⟩ (.int .i64 u1)).heap[w1.heap.size]? = some (.cells #[.slice na nn nc, .int .i64 n0, .int .i64 n1, .int .i64 n2, .slice va vn vc, .slice ga gn gc, .int .i64 n3] 53 (0, 0))) := box_other HXm1.out (by omega)
            have HR4 : Hid ((m1.setCell ⟨m0.heap.size, 1, none⟩ (.int .i64 u1)).heap[w.heap.size]? = some (.cells #[.slice none 0 0, .int .i64 0, .int .i64 0, .int .i64 0, .slice none 0 0, .slice none 0 0, .int .i64 0] 53 (0, 0))) := box_other HRm1.out (by omega)
            have HN4 : Hid (Row (m1.setCell ⟨m0.heap.size, 1, none⟩ (.int .i64 u1)) (w.heap.size + 1) w1.heap.size (.slice na nn nc) nm) := HNm1.out.set (.inr (by omega))
            have HO4 : Hid (MailsR (m1.setCell ⟨m0.heap.size, 1, none⟩ (.int .i64 u1)) (w1.heap.size + 1) z0.heap.size (.slice va vn vc) ms) := OwR.set HOm1.out (.inr (by omega))
            have HP4' : Hid (GonesR (m1.setCell ⟨m0.heap.size, 1, none⟩ (.int .i64 u1)) z0.heap.size wr.heap.size (.slice ga gn gc) gs) := OwR.set HPm1.out (.inr (by omega))
            have S34 : Hid ((m1.setCell ⟨m0.heap.size, 1, none⟩ (.int .i64 u1)).heap.size = m1.heap.size) := box_size
            clear KMB KCm1 HGm1 HXm1 HRm1 HNm1 HOm1 HPm1
            have hfin : (gGone l q).1 = ⟨u0, u1⟩ ∧ (gGone l q).2 = r1 := by unfold gGone; rw [HU0.out.1, HU0.out.2, HU1.out.1, HU1.out.2]; exact ⟨rfl, rfl⟩
            have HL2 : Hid (bG l p = (gs ++ [⟨u0, u1⟩] ++ (gMany (gGone l) (min n5' 41 - (c + 1)) r1).1, (gMany (gGone l) (min n5' 41 - (c + 1)) r1).2)) := by show _ = _; rw [HL.out, hfin.1, hfin.2]
            clear hfin HL HU0 HU1
            go_upto_region 21 with fail
            clear zx zl x0 x1
            generalize hw4 : (m1.setCell ⟨m0.heap.size, 1, none⟩ (.int .i64 u1)) = w4 at *
            clear hw4
            obtain ⟨b0, b1, b2, b3, b4, b5, b6⟩ := bx7 HX4.out
            obtain ⟨x0, x1⟩ := bx2 HMB4.out
            have lx := lt_of_heap HX4.out
            have lm := lt_of_heap HMB4.out
            have AB : Below w4.heap.size w4 (w4.alloc (.cells #[.int .i64 u0, .int .i64 u1] 75)) := (Below.refl _ _).alloc (Nat.le_refl _) _
            have HE : Hid (GoneE (w4.alloc (.cells #[.int .i64 u0, .int .i64 u1] 75)) [.int .i64 u0, .int .i64 u1] ⟨u0, u1⟩ (In wr.heap.size (w4.alloc (.cells #[.int .i64 u0, .int .i64 u1] 75)).heap.size)) := ⟨rfl, i64_of be1, i64_of be2⟩
            have HOp : Hid _ := OwR.below HP4'.out AB
            have hMs : wr.heap.size ≤ (w4.alloc (.cells #[.int .i64 u0, .int .i64 u1] 75)).heap.size := by have := S34.out; simp; omega
            have hone : ∀ u ∈ [Value.int .i64 u0, .int .i64 u1], Value.oneCell' u = true := by intro u hu; simp only [List.mem_cons, List.not_mem_nil, or_false] at hu; rcases hu with rfl | rfl <;> rfl
            have hl1 : gs.length + 1 ≤ maxLen := by have := HLn.out; unfold maxLen; omega
            have hl2 : (gs.length + 1) * 16 ≤ 140737488355328 := by have := HLn.out; omega
            go_wp2_with (at_builtin; refine wpList_push rfl (.tmp 85) (.tmp 87) rfl framesGone (B := z0.heap.size) (M := wr.heap.size) HOp.out hMs hs Tryd.underlying51 hj hy0 hy1 hy2 rfl (by omega) rfl ⟨u0, u1⟩ [.int .i64 u0, .int .i64 u1] rfl HE.out ⟨w4.heap.size, 0, none⟩ 1 rfl (cells_new w4 _ _) hone hl1 hl2 ?_)
            intro DV wz hO hgz hvz
            obtain ⟨da, dn, dc, hDV⟩ := OwR.form3 hO
            subst hDV
            have hge : ∀ j, (Value.slice ga gn gc).ownBlock = some j → z0.heap.size ≤ j := fun j hj => (hvz j hj).1
            have KX := grown_at hgz hge (box_below AB HX4.out) (by omega)
            have HCz : Hid (wz.heap[g]? = _) := grown_at hgz hge (box_below AB HC4.out) (by omega)
            have HRz : Hid (wz.heap[w.heap.size]? = _) := grown_at hgz hge (box_below AB HR4.out) (by omega)
            have HGz : Hid (w.grownBy wz (some g)) := gr_push (gr_below HG4.out AB) hgz (fun j hj => by have := hge j hj; omega)
            have HNz : Hid (Row wz (w.heap.size + 1) w1.heap.size (.slice na nn nc) nm) := (HN4.out.below AB).gr' hgz (fun j hj => by have := hge j hj; omega)
            have HOz : Hid (MailsR wz (w1.heap.size + 1) z0.heap.size (.slice va vn vc) ms) := OwR.gr' (OwR.below HO4.out AB) hgz (fun j hj => by have := hge j hj; omega)
            have S34o := S34.out
            have sz : w4.heap.size + 1 ≤ wz.heap.size := by have := hgz.size; simpa using this
            obtain ⟨zx, zl⟩ := box8z KX
            obtain ⟨d0, d1, d2, d3, d4, d5, d6⟩ := bx7 KX
            have HX5 : Hid ((wz.setCell ⟨w1.heap.size, 5, none⟩ (.slice da dn dc)).heap[w1.heap.size]? = some (.cells #[.slice na nn nc, .int .i64 n0, .int .i64 n1, .int .i64 n2, .slice va vn vc, .slice da dn dc, .int .i64 n3] 53 (0, 0))) := box_set KX
            have HC5 : Hid ((wz.setCell ⟨w1.heap.size, 5, none⟩ (.slice da dn dc)).heap[g]? = _) := box_other HCz.out (by omega)
            have HR5 : Hid ((wz.setCell ⟨w1.heap.size, 5, none⟩ (.slice da dn dc)).heap[w.heap.size]? = _) := box_other HRz.out (by omega)
            have HG5 : Hid (w.grownBy (wz.setCell ⟨w1.heap.size, 5, none⟩ (.slice da dn dc)) (some g)) := gr_set HGz.out (by omega)
            have HN5 : Hid (Row (wz.setCell ⟨w1.heap.size, 5, none⟩ (.slice da dn dc)) (w.heap.size + 1) w1.heap.size (.slice na nn nc) nm) := HNz.out.set (.inr (by omega))
            have HO5 : Hid (MailsR (wz.setCell ⟨w1.heap.size, 5, none⟩ (.slice da dn dc)) (w1.heap.size + 1) z0.heap.size (.slice va vn vc) ms) := OwR.set HOz.out (.inl (by omega))
            have HP5 : Hid (GonesR (wz.setCell ⟨w1.heap.size, 5, none⟩ (.slice da dn dc)) z0.heap.size (wz.setCell ⟨w1.heap.size, 5, none⟩ (.slice da dn dc)).heap.size (.slice da dn dc) (gs ++ [⟨u0, u1⟩])) := by show GonesR _ _ _ _ _; rw [box_size]; exact OwR.set hO (.inl (by omega))
            have hs5 : z0.heap.size ≤ (wz.setCell ⟨w1.heap.size, 5, none⟩ (.slice da dn dc)).heap.size := by rw [box_size]; omega
            have hlen5 : Hid ((gs ++ [(⟨u0, u1⟩ : GoneD)]).length = c + 1) := by show _ = _; simp [HLn.out]
            clear KX HCz HRz HGz HNz HOz HX4 HC4 HR4 HG4 HN4 HO4 HP4' HMB4 HE HOp hO hgz hvz hge b0 b1 b2 b3 b4 b5 b6 x0 x1 AB hone hl1 hl2 HLn
            go_wp2
            go_roundw
            case rel => exact ⟨c + 1, r1, _, da, dn, dc, by omega, by go_num, hr1, hr1', ⟨HL2.out, hlen5.out⟩, HG5, HC5, HX5, HR5, HN5, hs5, HO5, HP5⟩
            case measure => simp [intOf]; omega
          · have HME2 : Hid (bG l p = (gs, q)) := many_end HM1.out.1 (by omega)
            have hgl : gs.length ≤ 41 := by have := HM1.out.2; omega
            clear HM1
            go_upto_region 17 with fail
            go_cut [75] (fun s wx => s = .bool false ∧ wx = wr)
            case first =>
              by_cases h1 : c < n5'
              · by_cases h2 : c ≤ 40
                · have h3 : q < 0 := by omega
                  have hd1 : decide ((c : Int) < n5') = true := by simp; omega
                  have hd2 : decide ((c : Int) ≤ 40) = true := by simp; omega
                  have hd3 : decide (0 ≤ q) = false := by simp; omega
                  go_wp2
                  go_meet
                  case rel => exact ⟨rfl, rfl⟩
                · have hd1 : decide ((c : Int) < n5') = true := by simp; omega
                  have hd2 : decide ((c : Int) ≤ 40) = false := by simp; omega
                  go_wp2
                  go_meet
                  case rel => exact ⟨rfl, rfl⟩
              · have hd1 : decide ((c : Int) < n5') = false := by simp; omega
                go_wp2
                go_meet
                case rel => exact ⟨rfl, rfl⟩
            case rest =>
              obtain ⟨rfl, rfl⟩ := hcut
              clear hgo c0 c1
              obtain ⟨d0, d1, d2, d3, d4, d5, d6⟩ := bx7 HX.out
              obtain ⟨r0, r1, r2, r3, r4, r5, r6⟩ := bx7 HR.out
              obtain ⟨rz, rl⟩ := box8z HR.out
              have lx := lt_of_heap HX.out
              have HCf : Hid ((((((((wc.setCell ⟨w.heap.size, 0, none⟩ (.slice na nn nc)).setCell ⟨w.heap.size, 1, none⟩ (.int .i64 n0)).setCell ⟨w.heap.size, 2, none⟩ (.int .i64 n1)).setCell ⟨w.heap.size, 3, none⟩ (.int .i64 n2)).setCell ⟨w.heap.size, 4, none⟩ (.slice va vn vc)).setCell ⟨w.heap.size, 5, none⟩ (.slice ga gn gc)).setCell ⟨w.heap.size, 6, none⟩ (.int .i64 n3)).heap[g]? = _) := (box_other (k := w.heap.size) (i := 6) (v := .int .i64 n3) (box_other (k := w.heap.size) (i := 5) (v := .slice ga gn gc) (box_other (k := w.heap.size) (i := 4) (v := .slice va vn vc) (box_other (k := w.heap.size) (i := 3) (v := .int .i64 n2) (box_other (k := w.heap.size) (i := 2) (v := .int .i64 n1) (box_other (k := w.heap.size) (i := 1) (v := .int .i64 n0) (box_other (k := w.heap.size) (i := 0) (v := .slice na nn nc) HC.out (by omega)) (by omega)) (by omega)) (by omega)) (by omega)) (by omega)) (by omega))
              have HGf : Hid (w.grownBy (((((((wc.setCell ⟨w.heap.size, 0, none⟩ (.slice na nn nc)).setCell ⟨w.heap.size, 1, none⟩ (.int .i64 n0)).setCell ⟨w.heap.size, 2, none⟩ (.int .i64 n1)).setCell ⟨w.heap.size, 3, none⟩ (.int .i64 n2)).setCell ⟨w.heap.size, 4, none⟩ (.slice va vn vc)).setCell ⟨w.heap.size, 5, none⟩ (.slice ga gn gc)).setCell ⟨w.heap.size, 6, none⟩ (.int .i64 n3)) (some g)) := (gr_set (b := w.heap.size) (j := 6) (u := .int .i64 n3) (gr_set (b := w.heap.size) (j := 5) (u := .slice ga gn gc) (gr_set (b := w.heap.size) (j := 4) (u := .slice va vn vc) (gr_set (b := w.heap.size) (j := 3) (u := .int .i64 n2) (gr_set (b := w.heap.size) (j := 2) (u := .int .i64 n1) (gr_set (b := w.heap.size) (j := 1) (u := .int .i64 n0) (gr_set (b := w.heap.size) (j := 0) (u := .slice na nn nc) HG.out (Nat.le_refl _)) (Nat.le_refl _)) (Nat.le_refl _)) (Nat.le_refl _)) (Nat.le_refl _)) (Nat.le_refl _)) (Nat.le_refl _))
              have HNf : Hid (Row (((((((wc.setCell ⟨w.heap.size, 0, none⟩ (.slice na nn nc)).setCell ⟨w.heap.size, 1, none⟩ (.int .i64 n0)).setCell ⟨w.heap.size, 2, none⟩ (.int .i64 n1)).setCell ⟨w.heap.size, 3, none⟩ (.int .i64 n2)).setCell ⟨w.heap.size, 4, none⟩ (.slice va vn vc)).setCell ⟨w.heap.size, 5, none⟩ (.slice ga gn gc)).setCell ⟨w.heap.size, 6, none⟩ (.int .i64 n3)) (w.heap.size + 1) w1.heap.size (.slice na nn nc) nm) := (Row.set (i := 6) (x := .int .i64 n3) (Row.set (i := 5) (x := .slice ga gn gc) (Row.set (i := 4) (x := .slice va vn vc) (Row.set (i := 3) (x := .int .i64 n2) (Row.set (i := 2) (x := .int .i64 n1) (Row.set (i := 1) (x := .int .i64 n0) (Row.set (i := 0) (x := .slice na nn nc) HN.out (.inl (by omega))) (.inl (by omega))) (.inl (by omega))) (.inl (by omega))) (.inl (by omega))) (.inl (by omega))) (.inl (by omega)))
              have HOf : Hid (MailsR (((((((wc.setCell ⟨w.heap.size, 0, none⟩ (.slice na nn nc)).setCell ⟨w.heap.size, 1, none⟩ (.int .i64 n0)).setCell ⟨w.heap.size, 2, none⟩ (.int .i64 n1)).setCell ⟨w.heap.size, 3, none⟩ (.int .i64 n2)).setCell ⟨w.heap.size, 4, none⟩ (.slice va vn vc)).setCell ⟨w.heap.size, 5, none⟩ (.slice ga gn gc)).setCell ⟨w.heap.size, 6, none⟩ (.int .i64 n3)) (w1.heap.size + 1) z0.heap.size (.slice va vn vc) ms) := (OwR.set (i := 6) (x := .int .i64 n3) (OwR.set (i := 5) (x := .slice ga gn gc) (OwR.set (i := 4) (x := .slice va vn vc) (OwR.set (i := 3) (x := .int .i64 n2) (OwR.set (i := 2) (x := .int .i64 n1) (OwR.set (i := 1) (x := .int .i64 n0) (OwR.set (i := 0) (x := .slice na nn nc) HO.out (.inl (by omega))) (.inl (by omega))) (.inl (by omega))) (.inl (by omega))) (.inl (by omega))) (.inl (by omega))) (.inl (by omega)))
              have HPf : Hid (GonesR (((((((wc.setCell ⟨w.heap.size, 0, none⟩ (.slice na nn nc)).setCell ⟨w.heap.size, 1, none⟩ (.int .i64 n0)).setCell ⟨w.heap.size, 2, none⟩ (.int .i64 n1)).setCell ⟨w.heap.size, 3, none⟩ (.int .i64 n2)).setCell ⟨w.heap.size, 4, none⟩ (.slice va vn vc)).setCell ⟨w.heap.size, 5, none⟩ (.slice ga gn gc)).setCell ⟨w.heap.size, 6, none⟩ (.int .i64 n3)) z0.heap.size wc.heap.size (.slice ga gn gc) gs) := (OwR.set (i := 6) (x := .int .i64 n3) (OwR.set (i := 5) (x := .slice ga gn gc) (OwR.set (i := 4) (x := .slice va vn vc) (OwR.set (i := 3) (x := .int .i64 n2) (OwR.set (i := 2) (x := .int .i64 n1) (OwR.set (i := 1) (x := .int .i64 n0) (OwR.set (i := 0) (x := .slice na nn nc) HP.out (.inl (by omega))) (.inl (by omega))) (.inl (by omega))) (.inl (by omega))) (.inl (by omega))) (.inl (by omega))) (.inl (by omega)))
              have KF := (box_set (i := 6) (v := .int .i64 n3) (box_set (i := 5) (v := .slice ga gn gc) (box_set (i := 4) (v := .slice va vn vc) (box_set (i := 3) (v := .int .i64 n2) (box_set (i := 2) (v := .int .i64 n1) (box_set (i := 1) (v := .int .i64 n0) (box_set (i := 0) (v := .slice na nn nc) HR.out)))))))
              obtain ⟨f0, f1, f2, f3, f4, f5, f6⟩ := bx7 KF
              have hszf : Hid ((((((((wc.setCell ⟨w.heap.size, 0, none⟩ (.slice na nn nc)).setCell ⟨w.heap.size, 1, none⟩ (.int .i64 n0)).setCell ⟨w.heap.size, 2, none⟩ (.int .i64 n1)).setCell ⟨w.heap.size, 3, none⟩ (.int .i64 n2)).setCell ⟨w.heap.size, 4, none⟩ (.slice va vn vc)).setCell ⟨w.heap.size, 5, none⟩ (.slice ga gn gc)).setCell ⟨w.heap.size, 6, none⟩ (.int .i64 n3)).heap.size = wc.heap.size) := by show _ = _; simp only [box_size]
              have HBX : Hid ((gBox l p).1 = ⟨nm, n0, n1, n2, ms, gs, n3⟩ ∧ (gBox l p).2 = q) := by unfold gBox; rw [HP0.out, HP1.out, HP2.out, HP3.out, HNM.out, HV0.out, HV1.out, HV2.out, HV3.out, HME.out.1, HME2.out]; exact ⟨rfl, rfl⟩
              clear KF HC HG HN HO HP HR HX
              go_wp2
              refine bodyPost_ret (v := .agg #[.slice na nn nc, .int .i64 n0, .int .i64 n1, .int .i64 n2, .slice va vn vc, .slice ga gn gc, .int .i64 n3]) (by simp [results, Tryd.results25, go_sem, f0, f1, f2, f3, f4, f5, f6]) rfl ⟨_, rfl, ?_, ?_, HGf.out⟩
              · rw [HBX.out.1]
                exact ⟨_, rfl, _, _, _, In (w.heap.size + 1) w1.heap.size, In (w1.heap.size + 1) z0.heap.size, In z0.heap.size wc.heap.size, rfl, HNf.out.ro, HOf.out, HPf.out, (fun x hx => ⟨⟨by have := hx.1; omega, by have := hx.2; rw [hszf.out]; omega⟩, fun h => by have := hx.2; have := h.1; omega, fun h => by have := hx.2; have := h.1; omega⟩), (fun x hx => ⟨⟨by have := hx.1; omega, by have := hx.2; rw [hszf.out]; omega⟩, fun h => by have := hx.2; have := h.1; omega⟩), (fun x hx => ⟨by have := hx.1; omega, by have := hx.2; rw [hszf.out]; omega⟩), i64_of bd0, i64_of bd1, i64_of bd2, i64_of bd3⟩
              · rw [HBX.out.2]
                exact HCf.out

end Go.Proofs.YthnlbhmecokomaaDoor
