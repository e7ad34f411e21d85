/- The proof's texts, part 8. -/
import Derived.Test.YtlegmiaoablcgaaDoorPart3
import Derived.Test.YtlegmiaoablcgaaDoorPart2
import Derived.Deep.DeepCutAuto
import Derived.Test.YtlegmiaoablcgaaDoorPart7
import Derived.Lib.SlicesS

/- What l4ownCmd of package spec does. -/
namespace Go.Proofs.YtlegmiaoablcgaaDoor
open Go.RowKit
set_option maxRecDepth 100000
set_option linter.unusedVariables false
set_option linter.unusedSimpArgs false

set_option maxRecDepth 100000 in
set_option maxHeartbeats 4000000 in
theorem l4ownCmd_r (v : Value) (k : Int) (bx tt : List Int) (uid mode fl si : Int) (tx : List Int) (w : World) (hv : CmdV w v k bx tt uid mode fl si tx) (hl : bx.length ≤ 2000 ∧ tt.length ≤ 2000 ∧ tx.length ≤ 2000) :
    Calls Tryd.prog 32 #[v] w fun r w' => ∃ u, r = .returned u ∧ CmdV w' u k bx tt uid mode fl si tx ∧ Below w.heap.size w w' := by
  obtain ⟨u0, u1, u2, rfl, h0, h1, h2, hint⟩ := hv
  obtain ⟨a0, n0, c0, rfl⟩ := h0.form3
  obtain ⟨a1, n1, c1, rfl⟩ := h1.form3
  obtain ⟨a2, n2, c2, rfl⟩ := h2.form3
  have H0 : Hid (∀ w', Below w.heap.size w w' → Bs w' (.slice a0 n0 c0) bx) := fun w' h => h0.below h
  have H1 : Hid (∀ w', Below w.heap.size w w' → Bs w' (.slice a1 n1 c1) tt) := fun w' h => h1.below h
  have H2 : Hid (∀ w', Below w.heap.size w w' → Bs w' (.slice a2 n2 c2) tx) := fun w' h => h2.below h
  have HINT : Hid (I64 k ∧ I64 uid ∧ I64 mode ∧ I64 fl ∧ I64 si) := hint
  obtain ⟨i0, hi, hz0, hz1, hz2⟩ := info_parts info5
  obtain ⟨kA, kR, X⟩ := boxes2 w (.cells #[.int .i64 k, .slice a0 n0 c0, .slice a1 n1 c1, .int .i64 uid, .int .i64 mode, .int .i64 fl, .int .i64 si, .slice a2 n2 c2] 24) (.cells #[.int .i64 0, .slice none 0 0, .slice none 0 0, .int .i64 0, .int .i64 0, .int .i64 0, .int .i64 0, .slice none 0 0] 24)
  have HB0 : Hid (Below w.heap.size w ((w.alloc (.cells #[.int .i64 k, .slice a0 n0 c0, .slice a1 n1 c1, .int .i64 uid, .int .i64 mode, .int .i64 fl, .int .i64 si, .slice a2 n2 c2] 24)).alloc (.cells #[.int .i64 0, .slice none 0 0, .slice none 0 0, .int .i64 0, .int .i64 0, .int .i64 0, .int .i64 0, .slice none 0 0] 24))) := X
  have HA0 : Hid _ := kA
  have HR0 : Hid _ := kR
  clear h0 h1 h2 hint kA kR X
  go_enter Tryd.func32, Tryd.ntmps32
  go_upto_region 1 with fail
  generalize (w.alloc (.cells #[.int .i64 k, .slice a0 n0 c0, .slice a1 n1 c1, .int .i64 uid, .int .i64 mode, .int .i64 fl, .int .i64 si, .slice a2 n2 c2] 24)).alloc (.cells #[.int .i64 0, .slice none 0 0, .slice none 0 0, .int .i64 0, .int .i64 0, .int .i64 0, .int .i64 0, .slice none 0 0] 24) = w0 at HB0 HA0 HR0 ⊢
  obtain ⟨d0, d1, d2, d3, d4, d5, d6, d7, -⟩ := box8l HA0.out
  obtain ⟨dz, dl⟩ := box8z HA0.out
  have hsz0 : w.heap.size + 1 < w0.heap.size := lt_of_heap HR0.out
  have HE : Hid (OwnB (w0.alloc (.cells #[] 5)) w0.heap.size (.slice (some ⟨w0.heap.size, 0, none⟩) 0 0) []) := ownB_empty w0 _ (Nat.le_refl _)
  have HBE : Hid (Below w0.heap.size w0 (w0.alloc (.cells #[] 5))) := (Below.refl _ _).alloc (Nat.le_refl _) _
  have HC : Hid (Bs (w0.alloc (.cells #[] 5)) (.slice a0 n0 c0) bx) := (H0.out w0 HB0.out).alloc _
  go_wp2_with (at_builtin; refine wpList_append_bytes rfl (.tmp 3) (.tmp 5) 22 rfl i0 Tryd.underlying22 hi hz0 hz1 hz2 w0.heap.size _ [] rfl HE.out _ bx rfl HC.out (by simp; omega) (by simp) w0 HBE.out ?_)
  intro xv v0 hO hB _
  have HRW : Row v0 w0.heap.size v0.heap.size xv bx := OwnB.toRow (by simpa using hO)
  obtain ⟨x0, p0, y0, hxv⟩ := HRW.bs.form3
  subst hxv
  have HA1 : Hid ((v0.setCell ⟨w.heap.size, 1, none⟩ (.slice x0 p0 y0)).heap[w.heap.size]? = some (.cells #[.int .i64 k, .slice x0 p0 y0, .slice a1 n1 c1, .int .i64 uid, .int .i64 mode, .int .i64 fl, .int .i64 si, .slice a2 n2 c2] 24 (0, 0))) := box_set (i := 1) (v := .slice x0 p0 y0) (box_below hB HA0.out)
  have HR1 : Hid ((v0.setCell ⟨w.heap.size, 1, none⟩ (.slice x0 p0 y0)).heap[w.heap.size + 1]? = some (.cells #[.int .i64 0, .slice none 0 0, .slice none 0 0, .int .i64 0, .int .i64 0, .int .i64 0, .int .i64 0, .slice none 0 0] 24 (0, 0))) := box_other (k := w.heap.size) (i := 1) (v := .slice x0 p0 y0) (box_below hB HR0.out) (by omega)
  have HB1 : Hid (Below w.heap.size w (v0.setCell ⟨w.heap.size, 1, none⟩ (.slice x0 p0 y0))) := (Below.step HB0.out hB).setCell (p := ⟨w.heap.size, 1, none⟩) (by simp) _
  have G0_1 : Hid (Row (v0.setCell ⟨w.heap.size, 1, none⟩ (.slice x0 p0 y0)) w0.heap.size v0.heap.size (.slice x0 p0 y0) bx) := HRW.set (.inl (by omega))
  clear d0 d1 d2 d3 d4 d5 d6 d7
  obtain ⟨d0, d1, d2, d3, d4, d5, d6, d7, -⟩ := box8l (box_below hB HA0.out)
  obtain ⟨ez, el⟩ := box8z (box_below hB HA0.out)
  clear HRW hO hB HE HBE HC dz dl
  go_upto_region 2 with fail
  clear d0 d1 d2 d3 d4 d5 d6 d7 ez el
  generalize (v0.setCell ⟨w.heap.size, 1, none⟩ (.slice x0 p0 y0)) = w1 at HA1 HR1 HB1 G0_1 ⊢
  obtain ⟨d0, d1, d2, d3, d4, d5, d6, d7, -⟩ := box8l HA1.out
  obtain ⟨dz, dl⟩ := box8z HA1.out
  have hsz1 : w.heap.size + 1 < w1.heap.size := lt_of_heap HR1.out
  have HE : Hid (OwnB (w1.alloc (.cells #[] 5)) w1.heap.size (.slice (some ⟨w1.heap.size, 0, none⟩) 0 0) []) := ownB_empty w1 _ (Nat.le_refl _)
  have HBE : Hid (Below w1.heap.size w1 (w1.alloc (.cells #[] 5))) := (Below.refl _ _).alloc (Nat.le_refl _) _
  have HC : Hid (Bs (w1.alloc (.cells #[] 5)) (.slice a1 n1 c1) tt) := (H1.out w1 HB1.out).alloc _
  go_wp2_with (at_builtin; refine wpList_append_bytes rfl (.tmp 8) (.tmp 10) 22 rfl i0 Tryd.underlying22 hi hz0 hz1 hz2 w1.heap.size _ [] rfl HE.out _ tt rfl HC.out (by simp; omega) (by simp) w1 HBE.out ?_)
  intro xv v1 hO hB _
  have HRW : Row v1 w1.heap.size v1.heap.size xv tt := OwnB.toRow (by simpa using hO)
  obtain ⟨x1, p1, y1, hxv⟩ := HRW.bs.form3
  subst hxv
  have HA2 : Hid ((v1.setCell ⟨w.heap.size, 2, none⟩ (.slice x1 p1 y1)).heap[w.heap.size]? = some (.cells #[.int .i64 k, .slice x0 p0 y0, .slice x1 p1 y1, .int .i64 uid, .int .i64 mode, .int .i64 fl, .int .i64 si, .slice a2 n2 c2] 24 (0, 0))) := box_set (i := 2) (v := .slice x1 p1 y1) (box_below hB HA1.out)
  have HR2 : Hid ((v1.setCell ⟨w.heap.size, 2, none⟩ (.slice x1 p1 y1)).heap[w.heap.size + 1]? = some (.cells #[.int .i64 0, .slice none 0 0, .slice none 0 0, .int .i64 0, .int .i64 0, .int .i64 0, .int .i64 0, .slice none 0 0] 24 (0, 0))) := box_other (k := w.heap.size) (i := 2) (v := .slice x1 p1 y1) (box_below hB HR1.out) (by omega)
  have HB2 : Hid (Below w.heap.size w (v1.setCell ⟨w.heap.size, 2, none⟩ (.slice x1 p1 y1))) := (Below.step HB1.out hB).setCell (p := ⟨w.heap.size, 2, none⟩) (by simp) _
  have G1_2 : Hid (Row (v1.setCell ⟨w.heap.size, 2, none⟩ (.slice x1 p1 y1)) w1.heap.size v1.heap.size (.slice x1 p1 y1) tt) := HRW.set (.inl (by omega))
  have G0_2 : Hid (Row (v1.setCell ⟨w.heap.size, 2, none⟩ (.slice x1 p1 y1)) w0.heap.size v0.heap.size (.slice x0 p0 y0) bx) := (G0_1.out.below hB).set (.inl (by omega))
  clear d0 d1 d2 d3 d4 d5 d6 d7
  obtain ⟨d0, d1, d2, d3, d4, d5, d6, d7, -⟩ := box8l (box_below hB HA1.out)
  obtain ⟨ez, el⟩ := box8z (box_below hB HA1.out)
  clear HRW hO hB HE HBE HC dz dl
  go_upto_region 3 with fail
  clear d0 d1 d2 d3 d4 d5 d6 d7 ez el
  generalize (v1.setCell ⟨w.heap.size, 2, none⟩ (.slice x1 p1 y1)) = w2 at HA2 HR2 HB2 G1_2 G0_2 ⊢
  obtain ⟨d0, d1, d2, d3, d4, d5, d6, d7, -⟩ := box8l HA2.out
  obtain ⟨dz, dl⟩ := box8z HA2.out
  have hsz2 : w.heap.size + 1 < w2.heap.size := lt_of_heap HR2.out
  have HE : Hid (OwnB (w2.alloc (.cells #[] 5)) w2.heap.size (.slice (some ⟨w2.heap.size, 0, none⟩) 0 0) []) := ownB_empty w2 _ (Nat.le_refl _)
  have HBE : Hid (Below w2.heap.size w2 (w2.alloc (.cells #[] 5))) := (Below.refl _ _).alloc (Nat.le_refl _) _
  have HC : Hid (Bs (w2.alloc (.cells #[] 5)) (.slice a2 n2 c2) tx) := (H2.out w2 HB2.out).alloc _
  go_wp2_with (at_builtin; refine wpList_append_bytes rfl (.tmp 13) (.tmp 15) 22 rfl i0 Tryd.underlying22 hi hz0 hz1 hz2 w2.heap.size _ [] rfl HE.out _ tx rfl HC.out (by simp; omega) (by simp) w2 HBE.out ?_)
  intro xv v2 hO hB _
  have HRW : Row v2 w2.heap.size v2.heap.size xv tx := OwnB.toRow (by simpa using hO)
  obtain ⟨x2, p2, y2, hxv⟩ := HRW.bs.form3
  subst hxv
  have HA3 : Hid ((v2.setCell ⟨w.heap.size, 7, none⟩ (.slice x2 p2 y2)).heap[w.heap.size]? = some (.cells #[.int .i64 k, .slice x0 p0 y0, .slice x1 p1 y1, .int .i64 uid, .int .i64 mode, .int .i64 fl, .int .i64 si, .slice x2 p2 y2] 24 (0, 0))) := box_set (i := 7) (v := .slice x2 p2 y2) (box_below hB HA2.out)
  have HR3 : Hid ((v2.setCell ⟨w.heap.size, 7, none⟩ (.slice x2 p2 y2)).heap[w.heap.size + 1]? = some (.cells #[.int .i64 0, .slice none 0 0, .slice none 0 0, .int .i64 0, .int .i64 0, .int .i64 0, .int .i64 0, .slice none 0 0] 24 (0, 0))) := box_other (k := w.heap.size) (i := 7) (v := .slice x2 p2 y2) (box_below hB HR2.out) (by omega)
  have HB3 : Hid (Below w.heap.size w (v2.setCell ⟨w.heap.size, 7, none⟩ (.slice x2 p2 y2))) := (Below.step HB2.out hB).setCell (p := ⟨w.heap.size, 7, none⟩) (by simp) _
  have G2_3 : Hid (Row (v2.setCell ⟨w.heap.size, 7, none⟩ (.slice x2 p2 y2)) w2.heap.size v2.heap.size (.slice x2 p2 y2) tx) := HRW.set (.inl (by omega))
  have G0_3 : Hid (Row (v2.setCell ⟨w.heap.size, 7, none⟩ (.slice x2 p2 y2)) w0.heap.size v0.heap.size (.slice x0 p0 y0) bx) := (G0_2.out.below hB).set (.inl (by omega))
  have G1_3 : Hid (Row (v2.setCell ⟨w.heap.size, 7, none⟩ (.slice x2 p2 y2)) w1.heap.size v1.heap.size (.slice x1 p1 y1) tt) := (G1_2.out.below hB).set (.inl (by omega))
  clear d0 d1 d2 d3 d4 d5 d6 d7
  obtain ⟨d0, d1, d2, d3, d4, d5, d6, d7, -⟩ := box8l (box_below hB HA2.out)
  obtain ⟨ez, el⟩ := box8z (box_below hB HA2.out)
  clear HRW hO hB HE HBE HC dz dl
  go_upto_region 4 with fail
  clear d0 d1 d2 d3 d4 d5 d6 d7 ez el
  generalize (v2.setCell ⟨w.heap.size, 7, none⟩ (.slice x2 p2 y2)) = w3 at HA3 HR3 HB3 G2_3 G0_3 G1_3 ⊢
  have hsz3 : w.heap.size + 1 < w3.heap.size := lt_of_heap HR3.out
  obtain ⟨d0, d1, d2, d3, d4, d5, d6, d7, -⟩ := box8l HA3.out
  obtain ⟨r0, r1, r2, r3, r4, r5, r6, r7, -⟩ := box8l HR3.out
  obtain ⟨dz, dl⟩ := box8z HA3.out
  obtain ⟨rz, rl⟩ := box8z HR3.out
  have hk := HR3.out
  replace hk : (World.setCell _ _ _).heap[w.heap.size + 1]? = some (Obj.cells #[.int .i64 k, .slice none 0 0, .slice none 0 0, .int .i64 0, .int .i64 0, .int .i64 0, .int .i64 0, .slice none 0 0] 24 (0, 0)) := box_set (i := 0) (v := .int .i64 k) hk
  replace hk : (World.setCell _ _ _).heap[w.heap.size + 1]? = some (Obj.cells #[.int .i64 k, .slice x0 p0 y0, .slice none 0 0, .int .i64 0, .int .i64 0, .int .i64 0, .int .i64 0, .slice none 0 0] 24 (0, 0)) := box_set (i := 1) (v := .slice x0 p0 y0) hk
  replace hk : (World.setCell _ _ _).heap[w.heap.size + 1]? = some (Obj.cells #[.int .i64 k, .slice x0 p0 y0, .slice x1 p1 y1, .int .i64 0, .int .i64 0, .int .i64 0, .int .i64 0, .slice none 0 0] 24 (0, 0)) := box_set (i := 2) (v := .slice x1 p1 y1) hk
  replace hk : (World.setCell _ _ _).heap[w.heap.size + 1]? = some (Obj.cells #[.int .i64 k, .slice x0 p0 y0, .slice x1 p1 y1, .int .i64 uid, .int .i64 0, .int .i64 0, .int .i64 0, .slice none 0 0] 24 (0, 0)) := box_set (i := 3) (v := .int .i64 uid) hk
  replace hk : (World.setCell _ _ _).heap[w.heap.size + 1]? = some (Obj.cells #[.int .i64 k, .slice x0 p0 y0, .slice x1 p1 y1, .int .i64 uid, .int .i64 mode, .int .i64 0, .int .i64 0, .slice none 0 0] 24 (0, 0)) := box_set (i := 4) (v := .int .i64 mode) hk
  replace hk : (World.setCell _ _ _).heap[w.heap.size + 1]? = some (Obj.cells #[.int .i64 k, .slice x0 p0 y0, .slice x1 p1 y1, .int .i64 uid, .int .i64 mode, .int .i64 fl, .int .i64 0, .slice none 0 0] 24 (0, 0)) := box_set (i := 5) (v := .int .i64 fl) hk
  replace hk : (World.setCell _ _ _).heap[w.heap.size + 1]? = some (Obj.cells #[.int .i64 k, .slice x0 p0 y0, .slice x1 p1 y1, .int .i64 uid, .int .i64 mode, .int .i64 fl, .int .i64 si, .slice none 0 0] 24 (0, 0)) := box_set (i := 6) (v := .int .i64 si) hk
  replace hk : (World.setCell _ _ _).heap[w.heap.size + 1]? = some (Obj.cells #[.int .i64 k, .slice x0 p0 y0, .slice x1 p1 y1, .int .i64 uid, .int .i64 mode, .int .i64 fl, .int .i64 si, .slice x2 p2 y2] 24 (0, 0)) := box_set (i := 7) (v := .slice x2 p2 y2) hk
  have HKF : Hid _ := hk
  have HBF : Hid (Below w.heap.size w ((((((((w3.setCell ⟨w.heap.size + 1, 0, none⟩ (.int .i64 k)).setCell ⟨w.heap.size + 1, 1, none⟩ (.slice x0 p0 y0)).setCell ⟨w.heap.size + 1, 2, none⟩ (.slice x1 p1 y1)).setCell ⟨w.heap.size + 1, 3, none⟩ (.int .i64 uid)).setCell ⟨w.heap.size + 1, 4, none⟩ (.int .i64 mode)).setCell ⟨w.heap.size + 1, 5, none⟩ (.int .i64 fl)).setCell ⟨w.heap.size + 1, 6, none⟩ (.int .i64 si)).setCell ⟨w.heap.size + 1, 7, none⟩ (.slice x2 p2 y2))) := ((((((((HB3.out.setCell (p := ⟨w.heap.size + 1, 0, none⟩) (by simp) _).setCell (p := ⟨w.heap.size + 1, 1, none⟩) (by simp) _).setCell (p := ⟨w.heap.size + 1, 2, none⟩) (by simp) _).setCell (p := ⟨w.heap.size + 1, 3, none⟩) (by simp) _).setCell (p := ⟨w.heap.size + 1, 4, none⟩) (by simp) _).setCell (p := ⟨w.heap.size + 1, 5, none⟩) (by simp) _).setCell (p := ⟨w.heap.size + 1, 6, none⟩) (by simp) _).setCell (p := ⟨w.heap.size + 1, 7, none⟩) (by simp) _)
  have F0 : Hid (Bs ((((((((w3.setCell ⟨w.heap.size + 1, 0, none⟩ (.int .i64 k)).setCell ⟨w.heap.size + 1, 1, none⟩ (.slice x0 p0 y0)).setCell ⟨w.heap.size + 1, 2, none⟩ (.slice x1 p1 y1)).setCell ⟨w.heap.size + 1, 3, none⟩ (.int .i64 uid)).setCell ⟨w.heap.size + 1, 4, none⟩ (.int .i64 mode)).setCell ⟨w.heap.size + 1, 5, none⟩ (.int .i64 fl)).setCell ⟨w.heap.size + 1, 6, none⟩ (.int .i64 si)).setCell ⟨w.heap.size + 1, 7, none⟩ (.slice x2 p2 y2)) (.slice x0 p0 y0) bx) := ((((((((G0_3.out.set (.inl (by omega))).set (.inl (by omega))).set (.inl (by omega))).set (.inl (by omega))).set (.inl (by omega))).set (.inl (by omega))).set (.inl (by omega))).set (.inl (by omega))).bs
  have F1 : Hid (Bs ((((((((w3.setCell ⟨w.heap.size + 1, 0, none⟩ (.int .i64 k)).setCell ⟨w.heap.size + 1, 1, none⟩ (.slice x0 p0 y0)).setCell ⟨w.heap.size + 1, 2, none⟩ (.slice x1 p1 y1)).setCell ⟨w.heap.size + 1, 3, none⟩ (.int .i64 uid)).setCell ⟨w.heap.size + 1, 4, none⟩ (.int .i64 mode)).setCell ⟨w.heap.size + 1, 5, none⟩ (.int .i64 fl)).setCell ⟨w.heap.size + 1, 6, none⟩ (.int .i64 si)).setCell ⟨w.heap.size + 1, 7, none⟩ (.slice x2 p2 y2)) (.slice x1 p1 y1) tt) := ((((((((G1_3.out.set (.inl (by omega))).set (.inl (by omega))).set (.inl (by omega))).set (.inl (by omega))).set (.inl (by omega))).set (.inl (by omega))).set (.inl (by omega))).set (.inl (by omega))).bs
  have F2 : Hid (Bs ((((((((w3.setCell ⟨w.heap.size + 1, 0, none⟩ (.int .i64 k)).setCell ⟨w.heap.size + 1, 1, none⟩ (.slice x0 p0 y0)).setCell ⟨w.heap.size + 1, 2, none⟩ (.slice x1 p1 y1)).setCell ⟨w.heap.size + 1, 3, none⟩ (.int .i64 uid)).setCell ⟨w.heap.size + 1, 4, none⟩ (.int .i64 mode)).setCell ⟨w.heap.size + 1, 5, none⟩ (.int .i64 fl)).setCell ⟨w.heap.size + 1, 6, none⟩ (.int .i64 si)).setCell ⟨w.heap.size + 1, 7, none⟩ (.slice x2 p2 y2)) (.slice x2 p2 y2) tx) := ((((((((G2_3.out.set (.inl (by omega))).set (.inl (by omega))).set (.inl (by omega))).set (.inl (by omega))).set (.inl (by omega))).set (.inl (by omega))).set (.inl (by omega))).set (.inl (by omega))).bs
  clear hk
  go_wp2
  obtain ⟨f0, f1, f2, f3, f4, f5, f6, f7, -⟩ := box8l HKF.out
  refine bodyPost_ret (v := .agg #[.int .i64 k, .slice x0 p0 y0, .slice x1 p1 y1, .int .i64 uid, .int .i64 mode, .int .i64 fl, .int .i64 si, .slice x2 p2 y2]) (by simp [results, Tryd.results32, go_sem, f0, f1, f2, f3, f4, f5, f6, f7]) rfl ⟨_, rfl, ⟨_, _, _, rfl, F0.out, F1.out, F2.out, HINT.out⟩, HBF.out⟩

end Go.Proofs.YtlegmiaoablcgaaDoor

/- What l4rest of package spec does, but for a store. -/
namespace Go.Proofs.YtlegmiaoablcgaaDoor
open Go.RowKit
set_option maxRecDepth 100000
set_option linter.unusedVariables false
set_option linter.unusedSimpArgs false

/-- All old blocks but the parser's and the command's are as they were. -/
structure Gr2 (w w' : World) (g gc : Nat) : Prop where
  os : w'.os = w.os
  tape : w'.tape = w.tape
  output : w'.output = w.output
  size : w.heap.size ≤ w'.heap.size
  block : ∀ k, k < w.heap.size → k ≠ g → k ≠ gc → w'.heap[k]? = w.heap[k]?
section
variable {w w1 w2 : World} {g gc i : Nat} {x : Value}
theorem Gr2.refl (w : World) (g gc : Nat) : Gr2 w w g gc := ⟨rfl, rfl, rfl, Nat.le_refl _, fun _ _ _ _ => rfl⟩
theorem Gr2.gb (h : Gr2 w w1 g gc) (h2 : w1.grownBy w2 (some g)) : Gr2 w w2 g gc := ⟨h2.os.trans h.os, h2.tape.trans h.tape, h2.output.trans h.output, Nat.le_trans h.size h2.size, fun k hk h3 h4 => (h2.block k (Nat.lt_of_lt_of_le hk h.size) (fun e => h3 (by cases e; rfl))).trans (h.block k hk h3 h4)⟩
theorem Gr2.setC (h : Gr2 w w1 g gc) : Gr2 w (w1.setCell ⟨gc, i, none⟩ x) g gc := ⟨h.os, h.tape, h.output, by rw [box_size]; exact h.size, fun k hk h3 h4 => (Below.heap_setCell _ _ _ _ (show k ≠ gc from h4)).trans (h.block k hk h3 h4)⟩
theorem Gr2.setP (h : Gr2 w w1 g gc) : Gr2 w (w1.setCell ⟨g, i, none⟩ x) g gc := ⟨h.os, h.tape, h.output, by rw [box_size]; exact h.size, fun k hk h3 h4 => (Below.heap_setCell _ _ _ _ (show k ≠ g from h3)).trans (h.block k hk h3 h4)⟩
theorem Gr2.below (h : Gr2 w w1 g gc) (hb : Below w1.heap.size w1 w2) : Gr2 w w2 g gc := ⟨hb.os.trans h.os, hb.tape.trans h.tape, hb.output.trans h.output, Nat.le_trans h.size hb.size, fun k hk h3 h4 => (hb.block k (Nat.lt_of_lt_of_le hk h.size)).trans (h.block k hk h3 h4)⟩
theorem Gr2.toks {S : Nat → Prop} {v : Value} {ts : List TokD} (h : Gr2 w w1 g gc) (ht : ToksO w S v ts) (hS : ¬ S g) (hSc : ¬ S gc) : ToksO w1 S v ts := Ow.frame framesTok ht fun b hb hlt => h.block b hlt (fun e => hS (e ▸ hb)) (fun e => hSc (e ▸ hb))
theorem rb_setC {S : Nat → Prop} {v : Value} {l : List Int} (h : RB w S v l) (hS : ¬ S gc) : RB (w.setCell ⟨gc, i, none⟩ x) S v l := h.frame fun b hb _ => Below.heap_setCell _ _ _ _ (show b ≠ gc from fun e => hS (e ▸ hb))
end
theorem takeS_i (e k least : Int) (ts : List TokD) (st : PS) : (takeS e k least ts st).2.i ≤ st.i + 1 := by
  unfold takeS
  split
  · simp
  · split <;> simp
theorem run_fieldN (a b c : Int) (x : Option Addr) (y z : Nat) (w : World) : (Instr.field 59 (.agg #[.int .i64 a, .int .i64 b, .int .i64 c, .slice x y z]) 2).run Tryd.prog w = .ok (.int .i64 c) w := by kernel_rfl
theorem run_fieldT (a b c : Int) (x : Option Addr) (y z : Nat) (w : World) : (Instr.field 59 (.agg #[.int .i64 a, .int .i64 b, .int .i64 c, .slice x y z]) 3).run Tryd.prog w = .ok (.slice x y z) w := by kernel_rfl
/-- The command's variable. -/
def CmdP (w : World) (gc : Nat) (S : Nat → Prop) (c : CmdD) : Prop := ∃ a0 n0 c0 a1 n1 c1 a2 n2 c2, w.heap[gc]? = some (.cells #[.int .i64 c.k, .slice a0 n0 c0, .slice a1 n1 c1, .int .i64 c.uid, .int .i64 c.mode, .int .i64 c.fl, .int .i64 c.si, .slice a2 n2 c2] 24 (0, 0)) ∧ RB w S (.slice a0 n0 c0) c.bx ∧ RB w S (.slice a1 n1 c1) c.tt ∧ RB w S (.slice a2 n2 c2) c.tx

set_option maxRecDepth 100000 in
set_option maxHeartbeats 4000000 in
theorem l4rest_none (g gc : Nat) (lv : Value) (e : Int) (st : PS) (ts : List TokD) (S : Nat → Prop) (kd : Int) (bx tt tx : List Int) (uid mode fl si : Int) (a0 a1 a2 : Option Addr) (n0 n1 n2 c0 c1 c2 : Nat) (w : World) (hp : ParP w g lv e st) (ht : ToksO w S lv ts) (hS : ¬ S g) (hSc : ¬ S gc) (hne : g ≠ gc) (hSl : ∀ b, S b → b < w.heap.size) (hil : st.i ≤ 1000)
    (hc : w.heap[gc]? = some (.cells #[.int .i64 kd, .slice a0 n0 c0, .slice a1 n1 c1, .int .i64 uid, .int .i64 mode, .int .i64 fl, .int .i64 si, .slice a2 n2 c2] 24 (0, 0))) (r0 : RB w S (.slice a0 n0 c0) bx) (r1 : RB w S (.slice a1 n1 c1) tt) (r2 : RB w S (.slice a2 n2 c2) tx) (hk2 : kd ≠ 2) (hk3 : kd ≠ 3) (hk5 : kd ≠ 5) (hk6 : kd ≠ 6) (hk8 : kd ≠ 8) :
    Calls Tryd.prog 31 #[.pointer (some ⟨g, 0, none⟩), .pointer (some ⟨gc, 0, none⟩)] w fun r w' => r = .returned (.tuple #[]) ∧ Gr2 w w' g gc ∧ ParP w' g lv e st ∧ CmdP w' gc S ⟨kd, bx, tt, uid, mode, fl, si, tx⟩ := by
  have HP0 : Hid (ParP w g lv e st) := hp
  have HT0 : Hid (ToksO w S lv ts) := ht
  have HC0 : Hid (w.heap[gc]? = some (.cells #[.int .i64 kd, .slice a0 n0 c0, .slice a1 n1 c1, .int .i64 uid, .int .i64 mode, .int .i64 fl, .int .i64 si, .slice a2 n2 c2] 24 (0, 0))) := hc
  have HG0 : Hid (Gr2 w w g gc) := Gr2.refl _ _ _
  have HR00 : Hid (RB w S (.slice a0 n0 c0) bx) := r0
  have HR10 : Hid (RB w S (.slice a1 n1 c1) tt) := r1
  have HR20 : Hid (RB w S (.slice a2 n2 c2) tx) := r2
  have hlg0 : g < w.heap.size := lt_of_heap hp
  have hlc0 : gc < w.heap.size := lt_of_heap hc
  clear hp ht hc r0 r1 r2
  obtain ⟨d0, d1, d2, d3, d4, d5, d6, d7, -⟩ := box8l HC0.out
  go_enter Tryd.func31, Tryd.ntmps31
  have h2b : (kd == 2) = false := by simp [hk2]
  have h3b : (kd == 3) = false := by simp [hk3]
  have h5b : (kd == 5) = false := by simp [hk5]
  have h6b : (kd == 6) = false := by simp [hk6]
  have h8b : (kd == 8) = false := by simp [hk8]
  go_wp2
  go_end0
  exact ⟨rfl, HG0.out, HP0.out, _, _, _, _, _, _, _, _, _, HC0.out, HR00.out, HR10.out, HR20.out⟩

set_option maxRecDepth 100000 in
set_option maxHeartbeats 4000000 in
theorem l4rest_chg (g gc : Nat) (lv : Value) (e : Int) (st : PS) (ts : List TokD) (S : Nat → Prop) (bx tt tx : List Int) (uid mode fl si : Int) (a0 a1 a2 : Option Addr) (n0 n1 n2 c0 c1 c2 : Nat) (w : World) (hp : ParP w g lv e st) (ht : ToksO w S lv ts) (hS : ¬ S g) (hSc : ¬ S gc) (hne : g ≠ gc) (hSl : ∀ b, S b → b < w.heap.size) (hil : st.i ≤ 1000)
    (hc : w.heap[gc]? = some (.cells #[.int .i64 8, .slice a0 n0 c0, .slice a1 n1 c1, .int .i64 uid, .int .i64 mode, .int .i64 fl, .int .i64 si, .slice a2 n2 c2] 24 (0, 0))) (r0 : RB w S (.slice a0 n0 c0) bx) (r1 : RB w S (.slice a1 n1 c1) tt) (r2 : RB w S (.slice a2 n2 c2) tx)  :
    Calls Tryd.prog 31 #[.pointer (some ⟨g, 0, none⟩), .pointer (some ⟨gc, 0, none⟩)] w fun r w' => r = .returned (.tuple #[]) ∧ Gr2 w w' g gc ∧ ParP w' g lv e (takeS e 3 0 ts st).2 ∧ CmdP w' gc S ⟨8, bx, tt, uid, mode, fl, (takeS e 3 0 ts st).1.n, tx⟩ := by
  have HP0 : Hid (ParP w g lv e st) := hp
  have HT0 : Hid (ToksO w S lv ts) := ht
  have HC0 : Hid (w.heap[gc]? = some (.cells #[.int .i64 8, .slice a0 n0 c0, .slice a1 n1 c1, .int .i64 uid, .int .i64 mode, .int .i64 fl, .int .i64 si, .slice a2 n2 c2] 24 (0, 0))) := hc
  have HG0 : Hid (Gr2 w w g gc) := Gr2.refl _ _ _
  have HR00 : Hid (RB w S (.slice a0 n0 c0) bx) := r0
  have HR10 : Hid (RB w S (.slice a1 n1 c1) tt) := r1
  have HR20 : Hid (RB w S (.slice a2 n2 c2) tx) := r2
  have hlg0 : g < w.heap.size := lt_of_heap hp
  have hlc0 : gc < w.heap.size := lt_of_heap hc
  clear hp ht hc r0 r1 r2
  obtain ⟨d0, d1, d2, d3, d4, d5, d6, d7, -⟩ := box8l HC0.out
  go_enter Tryd.func31, Tryd.ntmps31
  go_wp2_with fail
  refine (l4take_r g lv e 3 0 st ts S w HP0.out HT0.out hS (fun b h => Nat.lt_of_lt_of_le (hSl b h) HG0.out.size) (by omega) (by decide)).mono ?_
  rintro r v0 ⟨z0a, z0n, z0c, rfl, hrb, hG, hP⟩
  have HG' : Gr2 w v0 g gc := HG0.out.gb hG
  have HCx : v0.heap[gc]? = some (.cells #[.int .i64 8, .slice a0 n0 c0, .slice a1 n1 c1, .int .i64 uid, .int .i64 mode, .int .i64 fl, .int .i64 si, .slice a2 n2 c2] 24 (0, 0)) := (hG.block gc (lt_of_heap HC0.out) (fun h => by cases h; exact hne rfl)).trans HC0.out
  have HG1 : Hid (Gr2 w (v0.setCell ⟨gc, 6, none⟩ (.int .i64 (takeS e 3 0 ts st).1.n)) g gc) := HG'.setC
  have HC1 : Hid ((v0.setCell ⟨gc, 6, none⟩ (.int .i64 (takeS e 3 0 ts st).1.n)).heap[gc]? = some (.cells #[.int .i64 8, .slice a0 n0 c0, .slice a1 n1 c1, .int .i64 uid, .int .i64 mode, .int .i64 fl, .int .i64 (takeS e 3 0 ts st).1.n, .slice a2 n2 c2] 24 (0, 0))) := box_set (i := 6) (v := .int .i64 (takeS e 3 0 ts st).1.n) HCx
  have HP1 : Hid (ParP (v0.setCell ⟨gc, 6, none⟩ (.int .i64 (takeS e 3 0 ts st).1.n)) g lv e (takeS e 3 0 ts st).2) := box_other (k := gc) (i := 6) (v := .int .i64 (takeS e 3 0 ts st).1.n) hP hne
  have HT1 : Hid (ToksO (v0.setCell ⟨gc, 6, none⟩ (.int .i64 (takeS e 3 0 ts st).1.n)) S lv ts) := HG1.out.toks HT0.out hS hSc
  have HR01 : Hid (RB (v0.setCell ⟨gc, 6, none⟩ (.int .i64 (takeS e 3 0 ts st).1.n)) S (.slice a0 n0 c0) bx) := rb_setC (rb_gb HR00.out hG hS) hSc
  have HR11 : Hid (RB (v0.setCell ⟨gc, 6, none⟩ (.int .i64 (takeS e 3 0 ts st).1.n)) S (.slice a1 n1 c1) tt) := rb_setC (rb_gb HR10.out hG hS) hSc
  have HR21 : Hid (RB (v0.setCell ⟨gc, 6, none⟩ (.int .i64 (takeS e 3 0 ts st).1.n)) S (.slice a2 n2 c2) tx) := rb_setC (rb_gb HR20.out hG hS) hSc
  obtain ⟨d0, d1, d2, d3, d4, d5, d6, d7, -⟩ := box8l HCx
  obtain ⟨dz, dl⟩ := box8z HCx
  clear hrb hG hP HG' HCx
  have hfd := fun w' => run_fieldN (takeS e 3 0 ts st).1.k (takeS e 3 0 ts st).1.p (takeS e 3 0 ts st).1.n z0a z0n z0c w'
  go_wp2
  first | go_end0 | refine bodyPost_ret (v := .tuple #[]) (by simp [results, Tryd.results31, go_sem]) rfl ?_
  exact ⟨rfl, HG1.out, HP1.out, _, _, _, _, _, _, _, _, _, HC1.out, HR01.out, HR11.out, HR21.out⟩

set_option maxRecDepth 100000 in
set_option maxHeartbeats 4000000 in
theorem l4rest_fetch (g gc : Nat) (lv : Value) (e : Int) (st : PS) (ts : List TokD) (S : Nat → Prop) (bx tt tx : List Int) (uid mode fl si : Int) (a0 a1 a2 : Option Addr) (n0 n1 n2 c0 c1 c2 : Nat) (w : World) (hp : ParP w g lv e st) (ht : ToksO w S lv ts) (hS : ¬ S g) (hSc : ¬ S gc) (hne : g ≠ gc) (hSl : ∀ b, S b → b < w.heap.size) (hil : st.i ≤ 1000)
    (hc : w.heap[gc]? = some (.cells #[.int .i64 5, .slice a0 n0 c0, .slice a1 n1 c1, .int .i64 uid, .int .i64 mode, .int .i64 fl, .int .i64 si, .slice a2 n2 c2] 24 (0, 0))) (r0 : RB w S (.slice a0 n0 c0) bx) (r1 : RB w S (.slice a1 n1 c1) tt) (r2 : RB w S (.slice a2 n2 c2) tx)  :
    Calls Tryd.prog 31 #[.pointer (some ⟨g, 0, none⟩), .pointer (some ⟨gc, 0, none⟩)] w fun r w' => r = .returned (.tuple #[]) ∧ Gr2 w w' g gc ∧ ParP w' g lv e (takeS e 3 1 ts st).2 ∧ CmdP w' gc S ⟨5, bx, tt, (takeS e 3 1 ts st).1.n, mode, fl, si, tx⟩ := by
  have HP0 : Hid (ParP w g lv e st) := hp
  have HT0 : Hid (ToksO w S lv ts) := ht
  have HC0 : Hid (w.heap[gc]? = some (.cells #[.int .i64 5, .slice a0 n0 c0, .slice a1 n1 c1, .int .i64 uid, .int .i64 mode, .int .i64 fl, .int .i64 si, .slice a2 n2 c2] 24 (0, 0))) := hc
  have HG0 : Hid (Gr2 w w g gc) := Gr2.refl _ _ _
  have HR00 : Hid (RB w S (.slice a0 n0 c0) bx) := r0
  have HR10 : Hid (RB w S (.slice a1 n1 c1) tt) := r1
  have HR20 : Hid (RB w S (.slice a2 n2 c2) tx) := r2
  have hlg0 : g < w.heap.size := lt_of_heap hp
  have hlc0 : gc < w.heap.size := lt_of_heap hc
  clear hp ht hc r0 r1 r2
  obtain ⟨d0, d1, d2, d3, d4, d5, d6, d7, -⟩ := box8l HC0.out
  go_enter Tryd.func31, Tryd.ntmps31
  go_wp2_with fail
  refine (l4take_r g lv e 3 1 st ts S w HP0.out HT0.out hS (fun b h => Nat.lt_of_lt_of_le (hSl b h) HG0.out.size) (by omega) (by decide)).mono ?_
  rintro r v0 ⟨z0a, z0n, z0c, rfl, hrb, hG, hP⟩
  have HG' : Gr2 w v0 g gc := HG0.out.gb hG
  have HCx : v0.heap[gc]? = some (.cells #[.int .i64 5, .slice a0 n0 c0, .slice a1 n1 c1, .int .i64 uid, .int .i64 mode, .int .i64 fl, .int .i64 si, .slice a2 n2 c2] 24 (0, 0)) := (hG.block gc (lt_of_heap HC0.out) (fun h => by cases h; exact hne rfl)).trans HC0.out
  have HG1 : Hid (Gr2 w (v0.setCell ⟨gc, 3, none⟩ (.int .i64 (takeS e 3 1 ts st).1.n)) g gc) := HG'.setC
  have HC1 : Hid ((v0.setCell ⟨gc, 3, none⟩ (.int .i64 (takeS e 3 1 ts st).1.n)).heap[gc]? = some (.cells #[.int .i64 5, .slice a0 n0 c0, .slice a1 n1 c1, .int .i64 (takeS e 3 1 ts st).1.n, .int .i64 mode, .int .i64 fl, .int .i64 si, .slice a2 n2 c2] 24 (0, 0))) := box_set (i := 3) (v := .int .i64 (takeS e 3 1 ts st).1.n) HCx
  have HP1 : Hid (ParP (v0.setCell ⟨gc, 3, none⟩ (.int .i64 (takeS e 3 1 ts st).1.n)) g lv e (takeS e 3 1 ts st).2) := box_other (k := gc) (i := 3) (v := .int .i64 (takeS e 3 1 ts st).1.n) hP hne
  have HT1 : Hid (ToksO (v0.setCell ⟨gc, 3, none⟩ (.int .i64 (takeS e 3 1 ts st).1.n)) S lv ts) := HG1.out.toks HT0.out hS hSc
  have HR01 : Hid (RB (v0.setCell ⟨gc, 3, none⟩ (.int .i64 (takeS e 3 1 ts st).1.n)) S (.slice a0 n0 c0) bx) := rb_setC (rb_gb HR00.out hG hS) hSc
  have HR11 : Hid (RB (v0.setCell ⟨gc, 3, none⟩ (.int .i64 (takeS e 3 1 ts st).1.n)) S (.slice a1 n1 c1) tt) := rb_setC (rb_gb HR10.out hG hS) hSc
  have HR21 : Hid (RB (v0.setCell ⟨gc, 3, none⟩ (.int .i64 (takeS e 3 1 ts st).1.n)) S (.slice a2 n2 c2) tx) := rb_setC (rb_gb HR20.out hG hS) hSc
  obtain ⟨d0, d1, d2, d3, d4, d5, d6, d7, -⟩ := box8l HCx
  obtain ⟨dz, dl⟩ := box8z HCx
  clear hrb hG hP HG' HCx
  have hfd := fun w' => run_fieldN (takeS e 3 1 ts st).1.k (takeS e 3 1 ts st).1.p (takeS e 3 1 ts st).1.n z0a z0n z0c w'
  go_wp2
  first | go_end0 | refine bodyPost_ret (v := .tuple #[]) (by simp [results, Tryd.results31, go_sem]) rfl ?_
  exact ⟨rfl, HG1.out, HP1.out, _, _, _, _, _, _, _, _, _, HC1.out, HR01.out, HR11.out, HR21.out⟩

set_option maxRecDepth 100000 in
set_option maxHeartbeats 4000000 in
theorem l4rest_app (g gc : Nat) (lv : Value) (e : Int) (st : PS) (ts : List TokD) (S : Nat → Prop) (bx tt tx : List Int) (uid mode fl si : Int) (a0 a1 a2 : Option Addr) (n0 n1 n2 c0 c1 c2 : Nat) (w : World) (hp : ParP w g lv e st) (ht : ToksO w S lv ts) (hS : ¬ S g) (hSc : ¬ S gc) (hne : g ≠ gc) (hSl : ∀ b, S b → b < w.heap.size) (hil : st.i ≤ 1000)
    (hc : w.heap[gc]? = some (.cells #[.int .i64 2, .slice a0 n0 c0, .slice a1 n1 c1, .int .i64 uid, .int .i64 mode, .int .i64 fl, .int .i64 si, .slice a2 n2 c2] 24 (0, 0))) (r0 : RB w S (.slice a0 n0 c0) bx) (r1 : RB w S (.slice a1 n1 c1) tt) (r2 : RB w S (.slice a2 n2 c2) tx)  :
    Calls Tryd.prog 31 #[.pointer (some ⟨g, 0, none⟩), .pointer (some ⟨gc, 0, none⟩)] w fun r w' => r = .returned (.tuple #[]) ∧ Gr2 w w' g gc ∧ ParP w' g lv e (takeS e 5 0 ts (takeS e 4 0 ts st).2).2 ∧ CmdP w' gc S ⟨2, bx, tt, uid, mode, (takeS e 4 0 ts st).1.n, si, (takeS e 5 0 ts (takeS e 4 0 ts st).2).1.tx⟩ := by
  have HP0 : Hid (ParP w g lv e st) := hp
  have HT0 : Hid (ToksO w S lv ts) := ht
  have HC0 : Hid (w.heap[gc]? = some (.cells #[.int .i64 2, .slice a0 n0 c0, .slice a1 n1 c1, .int .i64 uid, .int .i64 mode, .int .i64 fl, .int .i64 si, .slice a2 n2 c2] 24 (0, 0))) := hc
  have HG0 : Hid (Gr2 w w g gc) := Gr2.refl _ _ _
  have HR00 : Hid (RB w S (.slice a0 n0 c0) bx) := r0
  have HR10 : Hid (RB w S (.slice a1 n1 c1) tt) := r1
  have HR20 : Hid (RB w S (.slice a2 n2 c2) tx) := r2
  have hlg0 : g < w.heap.size := lt_of_heap hp
  have hlc0 : gc < w.heap.size := lt_of_heap hc
  clear hp ht hc r0 r1 r2
  obtain ⟨d0, d1, d2, d3, d4, d5, d6, d7, -⟩ := box8l HC0.out
  go_enter Tryd.func31, Tryd.ntmps31
  go_wp2_with fail
  refine (l4take_r g lv e 4 0 st ts S w HP0.out HT0.out hS (fun b h => Nat.lt_of_lt_of_le (hSl b h) HG0.out.size) (by omega) (by decide)).mono ?_
  rintro r v0 ⟨z0a, z0n, z0c, rfl, hrb, hG, hP⟩
  have HG' : Gr2 w v0 g gc := HG0.out.gb hG
  have HCx : v0.heap[gc]? = some (.cells #[.int .i64 2, .slice a0 n0 c0, .slice a1 n1 c1, .int .i64 uid, .int .i64 mode, .int .i64 fl, .int .i64 si, .slice a2 n2 c2] 24 (0, 0)) := (hG.block gc (lt_of_heap HC0.out) (fun h => by cases h; exact hne rfl)).trans HC0.out
  have HG1 : Hid (Gr2 w (v0.setCell ⟨gc, 5, none⟩ (.int .i64 (takeS e 4 0 ts st).1.n)) g gc) := HG'.setC
  have HC1 : Hid ((v0.setCell ⟨gc, 5, none⟩ (.int .i64 (takeS e 4 0 ts st).1.n)).heap[gc]? = some (.cells #[.int .i64 2, .slice a0 n0 c0, .slice a1 n1 c1, .int .i64 uid, .int .i64 mode, .int .i64 (takeS e 4 0 ts st).1.n, .int .i64 si, .slice a2 n2 c2] 24 (0, 0))) := box_set (i := 5) (v := .int .i64 (takeS e 4 0 ts st).1.n) HCx
  have HP1 : Hid (ParP (v0.setCell ⟨gc, 5, none⟩ (.int .i64 (takeS e 4 0 ts st).1.n)) g lv e (takeS e 4 0 ts st).2) := box_other (k := gc) (i := 5) (v := .int .i64 (takeS e 4 0 ts st).1.n) hP hne
  have HT1 : Hid (ToksO (v0.setCell ⟨gc, 5, none⟩ (.int .i64 (takeS e 4 0 ts st).1.n)) S lv ts) := HG1.out.toks HT0.out hS hSc
  have HR01 : Hid (RB (v0.setCell ⟨gc, 5, none⟩ (.int .i64 (takeS e 4 0 ts st).1.n)) S (.slice a0 n0 c0) bx) := rb_setC (rb_gb HR00.out hG hS) hSc
  have HR11 : Hid (RB (v0.setCell ⟨gc, 5, none⟩ (.int .i64 (takeS e 4 0 ts st).1.n)) S (.slice a1 n1 c1) tt) := rb_setC (rb_gb HR10.out hG hS) hSc
  have HR21 : Hid (RB (v0.setCell ⟨gc, 5, none⟩ (.int .i64 (takeS e 4 0 ts st).1.n)) S (.slice a2 n2 c2) tx) := rb_setC (rb_gb HR20.out hG hS) hSc
  obtain ⟨d0, d1, d2, d3, d4, d5, d6, d7, -⟩ := box8l HCx
  obtain ⟨dz, dl⟩ := box8z HCx
  clear hrb hG hP HG' HCx
  have hfd := fun w' => run_fieldN (takeS e 4 0 ts st).1.k (takeS e 4 0 ts st).1.p (takeS e 4 0 ts st).1.n z0a z0n z0c w'
  go_upto_region 3 with fail
  generalize (v0.setCell ⟨gc, 5, none⟩ (.int .i64 (takeS e 4 0 ts st).1.n)) = w1 at HG1 HC1 HP1 HT1 HR01 HR11 HR21 ⊢
  clear d0 d1 d2 d3 d4 d5 d6 d7 dz dl
  go_wp2_with fail
  refine (l4take_r g lv e 5 0 (takeS e 4 0 ts st).2 ts S w1 HP1.out HT1.out hS (fun b h => Nat.lt_of_lt_of_le (hSl b h) HG1.out.size) (by have := takeS_i e 4 0 ts st; omega) (by decide)).mono ?_
  rintro r v1 ⟨z1a, z1n, z1c, rfl, hrb, hG, hP⟩
  have HG' : Gr2 w v1 g gc := HG1.out.gb hG
  have HCx : v1.heap[gc]? = some (.cells #[.int .i64 2, .slice a0 n0 c0, .slice a1 n1 c1, .int .i64 uid, .int .i64 mode, .int .i64 (takeS e 4 0 ts st).1.n, .int .i64 si, .slice a2 n2 c2] 24 (0, 0)) := (hG.block gc (lt_of_heap HC1.out) (fun h => by cases h; exact hne rfl)).trans HC1.out
  have HG2 : Hid (Gr2 w (v1.setCell ⟨gc, 7, none⟩ (.slice z1a z1n z1c)) g gc) := HG'.setC
  have HC2 : Hid ((v1.setCell ⟨gc, 7, none⟩ (.slice z1a z1n z1c)).heap[gc]? = some (.cells #[.int .i64 2, .slice a0 n0 c0, .slice a1 n1 c1, .int .i64 uid, .int .i64 mode, .int .i64 (takeS e 4 0 ts st).1.n, .int .i64 si, .slice z1a z1n z1c] 24 (0, 0))) := box_set (i := 7) (v := .slice z1a z1n z1c) HCx
  have HP2 : Hid (ParP (v1.setCell ⟨gc, 7, none⟩ (.slice z1a z1n z1c)) g lv e (takeS e 5 0 ts (takeS e 4 0 ts st).2).2) := box_other (k := gc) (i := 7) (v := .slice z1a z1n z1c) hP hne
  have HT2 : Hid (ToksO (v1.setCell ⟨gc, 7, none⟩ (.slice z1a z1n z1c)) S lv ts) := HG2.out.toks HT0.out hS hSc
  have HR02 : Hid (RB (v1.setCell ⟨gc, 7, none⟩ (.slice z1a z1n z1c)) S (.slice a0 n0 c0) bx) := rb_setC (rb_gb HR01.out hG hS) hSc
  have HR12 : Hid (RB (v1.setCell ⟨gc, 7, none⟩ (.slice z1a z1n z1c)) S (.slice a1 n1 c1) tt) := rb_setC (rb_gb HR11.out hG hS) hSc
  have HR22 : Hid (RB (v1.setCell ⟨gc, 7, none⟩ (.slice z1a z1n z1c)) S (.slice a2 n2 c2) tx) := rb_setC (rb_gb HR21.out hG hS) hSc
  have HZ1 : Hid (RB (v1.setCell ⟨gc, 7, none⟩ (.slice z1a z1n z1c)) S (.slice z1a z1n z1c) (takeS e 5 0 ts (takeS e 4 0 ts st).2).1.tx) := rb_setC hrb hSc
  obtain ⟨d0, d1, d2, d3, d4, d5, d6, d7, -⟩ := box8l HCx
  obtain ⟨dz, dl⟩ := box8z HCx
  clear hrb hG hP HG' HCx
  have hfd := fun w' => run_fieldT (takeS e 5 0 ts (takeS e 4 0 ts st).2).1.k (takeS e 5 0 ts (takeS e 4 0 ts st).2).1.p (takeS e 5 0 ts (takeS e 4 0 ts st).2).1.n z1a z1n z1c w'
  go_wp2
  first | go_end0 | refine bodyPost_ret (v := .tuple #[]) (by simp [results, Tryd.results31, go_sem]) rfl ?_
  exact ⟨rfl, HG2.out, HP2.out, _, _, _, _, _, _, _, _, _, HC2.out, HR02.out, HR12.out, HZ1.out⟩


end Go.Proofs.YtlegmiaoablcgaaDoor

/- What oneOf of the reader of lines of package impl does; the command that is being read. -/
namespace Go.Proofs.YtlegmiaoablcgaaDoor
open Go.RowKit
set_option maxRecDepth 100000
set_option linter.unusedVariables false
set_option linter.unusedSimpArgs false

/-- Which of the words it is; -1: none. -/
def idxW (ws : List (List Int)) (x : List Int) : Int := Lib.idxOfS (ws.map strOfNums) (strOfNums x)
def wordM (e : Int) (ws : List (List Int)) (ts : List TokD) : Except Int (Int × List TokD) := match nextM e 1 ts with
  | .error p => .error p
  | .ok p => if idxW ws p.1.tx < 0 then .error p.1.p else .ok (idxW ws p.1.tx, p.2)
def WordP (w0 w : World) (g : Nat) (S : Nat → Prop) (lv : Value) (ea : Addr) (r : Except Int (Int × List TokD)) (e : Ending) (w' : World) : Prop := w.grownBy w' (some g) ∧ match r with
  | .ok p => ∃ tv', e = .returned (.int .i64 p.1) ∧ Rs w0 w' g S lv tv' p.2
  | .error p => e = gaveUp ea ∧ Bad w' g 3 p

set_option maxRecDepth 100000 in
set_option maxHeartbeats 2000000 in
theorem oneOf_r (g : Nat) (la : Option Addr) (ln lc : Nat) (tv : Value) (ts : List TokD) (S : Nat → Prop) (ea : Addr) (ws : List (List Int)) (b cp : Nat) (w0 w : World) (hE : Env w0 g S ea) (hr : Rs w0 w g S (.slice la ln lc) tv ts) (hok : ∀ t ∈ ts, OkT t) (hS : ∀ b, S b → b < w.heap.size) (hln : ln ≤ 2000)
    (hbg : b ≠ g) (hbl : b < w.heap.size) (hws : ws.length ≤ 100) (hcells : ∀ j, j < ws.length → w.cell? ⟨b, j, none⟩ = some (.string (strOfNums (ws.getD j [])))) :
    Calls Tryd.prog 36 #[.pointer (some ⟨g, 0, none⟩), .slice (some ⟨b, 0, none⟩) ws.length cp] w (WordP w0 w g S (.slice la ln lc) ea (wordM ln ws ts)) := by
  have hn := next_r g la ln lc tv ts S ea 1 w0 w hE hr hok (by omega) hS hln
  have HEN : Hid (Env w0 g S ea) := hE
  rw [show sortM 1 = 2 from rfl] at hn
  unfold wordM
  cases hres : nextM ln 1 ts with
  | error p =>
    rw [hres] at hn
    clear hres hr hcells
    go_enter Tryd.func36, Tryd.ntmps36
    go_wp2_with fail
    refine hn.mono ?_
    rintro e w1 ⟨hG, rfl, hb⟩
    have HF : Hid (w.grownBy w1 (some g) ∧ Bad w1 g 3 p) := ⟨hG, hb⟩
    clear hG hb
    go_wp2
    exact ⟨rfl, HF.out.1, rfl, HF.out.2⟩
  | ok p =>
    have hm := next_mem hres
    have h5 : p.1.k ≠ 5 := by rw [hm.2.2]; decide
    rw [hres] at hn
    clear hres hr hm
    obtain ⟨⟨tk, tp, tn, tx⟩, ts'⟩ := p
    simp only at h5
    show Calls _ _ _ _ (WordP w0 w g S (.slice la ln lc) ea (if idxW ws tx < 0 then .error tp else .ok (idxW ws tx, ts')))
    obtain ⟨X, hX⟩ : ∃ X, X = idxW ws tx := ⟨_, rfl⟩
    rw [← hX]
    have HX0 : Hid (X = Lib.idxOfS ((ws.map strOfNums).take ws.length) (strOfNums tx)) := by
      show _ = _
      rw [hX, idxW, List.take_of_length_le (by simp)]
    clear hX
    obtain ⟨res, hres⟩ : ∃ res : Except Int (Int × List TokD), res = if X < 0 then .error tp else .ok (X, ts') := ⟨_, rfl⟩
    have HRES : Hid (res = if X < 0 then .error tp else .ok (X, ts')) := hres
    rw [← hres]
    clear hres
    have HCC : Hid (∀ w', w.grownBy w' (some g) → ∀ j, j < (ws.map strOfNums).length → w'.cell? ⟨b, 0 + j, none⟩ = some (.string ((ws.map strOfNums).getD j ByteArray.empty))) := by
      intro w' hG j hj
      simp only [List.length_map] at hj
      rw [Nat.zero_add, cell_same (hG.block b hbl (by simpa using hbg)), hcells j hj]
      simp [List.getD_eq_getElem?_getD, List.getElem?_map, List.getElem?_eq_getElem hj]
    clear hcells
    go_enter Tryd.func36, Tryd.ntmps36
    go_wp2_with fail
    refine hn.mono ?_
    rintro e w1 ⟨hG, a, n, c, tv', rfl, hR, hTX⟩
    simp only at hR hTX
    have AB : Below w1.heap.size w1 (w1.alloc (.cells #[.int .i64 (sortM tk), .int .i64 tp, .int .i64 tn, .slice a n c] 74)) := (Below.refl _ _).alloc (Nat.le_refl _) _
    have HG : Hid (w.grownBy (w1.alloc (.cells #[.int .i64 (sortM tk), .int .i64 tp, .int .i64 tn, .slice a n c] 74)) (some g)) := gb_below hG AB
    have HR : Hid (Rs w0 (w1.alloc (.cells #[.int .i64 (sortM tk), .int .i64 tp, .int .i64 tn, .slice a n c] 74)) g S (.slice la ln lc) tv' ts') := hR.below AB
    have HK : Hid ((w1.alloc (.cells #[.int .i64 (sortM tk), .int .i64 tp, .int .i64 tn, .slice a n c] 74)).heap[w1.heap.size]? = some (.cells #[.int .i64 (sortM tk), .int .i64 tp, .int .i64 tn, .slice a n c] 74 (0, 0))) := box_new _ _
    have HBS : Hid (Bs (w1.alloc (.cells #[.int .i64 (sortM tk), .int .i64 tp, .int .i64 tn, .slice a n c] 74)) (.slice a n c) tx) := hTX.2 h5 _ HR.out.bel
    clear hG hR AB hTX
    go_upto_region 2 with fail
    generalize (w1.alloc (.cells #[.int .i64 (sortM tk), .int .i64 tp, .int .i64 tn, .slice a n c] 74)) = w2 at HG HR HK HBS ⊢
    obtain ⟨c0, c1, c2, c3, cz, cl⟩ := tab4 HK.out
    have hcv := run_convert_bs HBS.out
    go_wp2_with fail
    refine (Tryd.slices_Index_string b 0 ws.length cp (ws.map strOfNums) (strOfNums tx) w2 (by simp) (by omega) (HCC.out w2 HG.out)).mono ?_
    rintro e w2 ⟨rfl, rfl⟩
    rw [← HX0.out]
    by_cases hle : X < 0
    · have HRE : Hid (res = .error tp) := by show _ = _; rw [HRES.out, if_pos hle]
      go_wp2_with fail
      refine (giveUp_r g _ tv' 0 0 3 tp ea _ HR.out.lr (HEN.out.gave.below HR.out.bel) HEN.out.ne).mono ?_
      rintro e w3 ⟨rfl, hb, hG⟩
      have HF : Hid (Bad w3 g 3 tp ∧ w.grownBy w3 (some g)) := ⟨hb, gb_trans HG.out hG⟩
      clear hb hG
      go_wp2
      refine ⟨rfl, ?_⟩
      rw [HRE.out]
      exact ⟨HF.out.2, rfl, HF.out.1⟩
    · have HRE : Hid (res = .ok (X, ts')) := by show _ = _; rw [HRES.out, if_neg hle]
      go_wp2
      go_ret
      rw [HRE.out]
      exact ⟨HG.out, _, rfl, HR.out⟩

/-- The command's variable, while it is read. -/
def CI (w : World) (gc N : Nat) (S : Nat → Prop) (c : CmdD) : Prop := ∃ a0 n0 c0 a1 n1 c1 a2 n2 c2 T0, w.heap[gc]? = some (.cells #[.int .i64 c.k, .slice a0 n0 c0, .slice a1 n1 c1, .int .i64 c.uid, .int .i64 c.mode, .int .i64 c.fl, .int .i64 c.si, .slice a2 n2 c2] 24 (0, 0)) ∧
  Row w N T0 (.slice a0 n0 c0) c.bx ∧ Row w T0 w.heap.size (.slice a1 n1 c1) c.tt ∧ RB w S (.slice a2 n2 c2) c.tx ∧ N ≤ T0 ∧ T0 ≤ w.heap.size
/-- Where the reading of a command stands. -/
structure RI (w0 w1 w : World) (g gc N : Nat) (S : Nat → Prop) (lv tv : Value) (ts : List TokD) (c : CmdD) : Prop where
  gr : Gr2 w1 w g gc
  rs : Rs w0 w g S lv tv ts
  ci : CI w gc N S c
/-- What lies where, once for all. -/
structure Pl (w0 w1 : World) (g gc N : Nat) (S : Nat → Prop) : Prop where
  gN : g < N
  cN : gc < N
  c0 : w0.heap.size ≤ gc
  ne : g ≠ gc
  sg : ¬ S g
  sc : ¬ S gc
  sN : ∀ b, S b → b < N
  nw : N ≤ w1.heap.size
section
variable {w0 w1 w w' : World} {g gc N : Nat} {S : Nat → Prop} {lv tv tv' : Value} {ts ts' : List TokD} {c : CmdD}
theorem RI.step (h : RI w0 w1 w g gc N S lv tv ts c) (P : Pl w0 w1 g gc N S) (hG : w.grownBy w' (some g)) (hR : Rs w0 w' g S lv tv' ts') : RI w0 w1 w' g gc N S lv tv' ts' c := by
  obtain ⟨gr, rs, a0, n0, c0, a1, n1, c1, a2, n2, c2, T0, hc, r0, r1, r2, h1, h2⟩ := h
  have p1 := P.gN
  have hs := hG.size
  exact ⟨gr.gb hG, hR, a0, n0, c0, a1, n1, c1, a2, n2, c2, T0, (hG.block gc (lt_of_heap hc) (fun e => P.ne (by cases e; rfl))).trans hc, r0.drawn hG (.inl p1), (r1.drawn hG (.inl (by omega))).wide (Nat.le_refl _) hs, rb_gb r2 hG P.sg, h1, by omega⟩
theorem RI.below (h : RI w0 w1 w g gc N S lv tv ts c) (P : Pl w0 w1 g gc N S) (hb : Below w.heap.size w w') : RI w0 w1 w' g gc N S lv tv ts c := h.step P (gb_below (gb_refl _ _) hb) (h.rs.below hb)
theorem RI.cells (h : RI w0 w1 w g gc N S lv tv ts c) : ∃ v1 v2 v7 : Value, w.cell? ⟨gc, 0, none⟩ = some (.int .i64 c.k) ∧ w.cell? ⟨gc, 1, none⟩ = some v1 ∧ w.cell? ⟨gc, 2, none⟩ = some v2 ∧ w.cell? ⟨gc, 3, none⟩ = some (.int .i64 c.uid) ∧ w.cell? ⟨gc, 4, none⟩ = some (.int .i64 c.mode) ∧ w.cell? ⟨gc, 5, none⟩ = some (.int .i64 c.fl) ∧ w.cell? ⟨gc, 6, none⟩ = some (.int .i64 c.si) ∧ w.cell? ⟨gc, 7, none⟩ = some v7 ∧ (∀ i, w.frozen? ⟨gc, i, none⟩ = false) ∧ gc < w.heap.size := by
  obtain ⟨gr, rs, a0, n0, c0, a1, n1, c1, a2, n2, c2, T0, hc, -⟩ := h
  obtain ⟨d0, d1, d2, d3, d4, d5, d6, d7, d8⟩ := box8l hc
  exact ⟨_, _, _, d0, d1, d2, d3, d4, d5, d6, d7, (box8z hc).1, d8⟩
theorem RI.setI {j : Nat} {n : Int} {c' : CmdD} (h : RI w0 w1 w g gc N S lv tv ts c) (P : Pl w0 w1 g gc N S) (hj : (j = 3 ∧ c' = { c with uid := n }) ∨ (j = 4 ∧ c' = { c with mode := n }) ∨ (j = 5 ∧ c' = { c with fl := n }) ∨ (j = 6 ∧ c' = { c with si := n })) : RI w0 w1 (w.setCell ⟨gc, j, none⟩ (.int .i64 n)) g gc N S lv tv ts c' := by
  obtain ⟨gr, rs, a0, n0, c0, a1, n1, c1, a2, n2, c2, T0, hc, r0, r1, r2, h1, h2⟩ := h
  have p1 := P.cN
  refine ⟨gr.setC, rs.setO P.c0 P.ne P.sc, ?_⟩
  rcases hj with ⟨rfl, rfl⟩ | ⟨rfl, rfl⟩ | ⟨rfl, rfl⟩ | ⟨rfl, rfl⟩
  · exact ⟨a0, n0, c0, a1, n1, c1, a2, n2, c2, T0, box_set (i := 3) (v := .int .i64 n) hc, r0.set (.inl p1), by rw [box_size]; exact r1.set (.inl (by omega)), rb_setC r2 P.sc, h1, by rw [box_size]; exact h2⟩
  · exact ⟨a0, n0, c0, a1, n1, c1, a2, n2, c2, T0, box_set (i := 4) (v := .int .i64 n) hc, r0.set (.inl p1), by rw [box_size]; exact r1.set (.inl (by omega)), rb_setC r2 P.sc, h1, by rw [box_size]; exact h2⟩
  · exact ⟨a0, n0, c0, a1, n1, c1, a2, n2, c2, T0, box_set (i := 5) (v := .int .i64 n) hc, r0.set (.inl p1), by rw [box_size]; exact r1.set (.inl (by omega)), rb_setC r2 P.sc, h1, by rw [box_size]; exact h2⟩
  · exact ⟨a0, n0, c0, a1, n1, c1, a2, n2, c2, T0, box_set (i := 6) (v := .int .i64 n) hc, r0.set (.inl p1), by rw [box_size]; exact r1.set (.inl (by omega)), rb_setC r2 P.sc, h1, by rw [box_size]; exact h2⟩
/-- The command as it begins: its kind alone. -/
def C0 (w : World) (gc : Nat) (k : Int) : Prop := w.heap[gc]? = some (.cells #[.int .i64 k, .slice none 0 0, .slice none 0 0, .int .i64 0, .int .i64 0, .int .i64 0, .int .i64 0, .slice none 0 0] 24 (0, 0))
theorem rb_nil (w : World) (S : Nat → Prop) : RB w S (.slice none 0 0) [] := ⟨oct_nil, World.ownsRow_nil _ _ _ _, fun g hg => by simp [Value.ownBlock] at hg⟩
theorem RI.first {k : Int} {ua : Option Addr} {un uc : Nat} {x : List Int} (P : Pl w0 w1 g gc N S) (hc : C0 w1 gc k) (hG : w1.grownBy w' (some g)) (hR : Rs w0 w' g S lv tv ts) (hrow : Row w' w1.heap.size w'.heap.size (.slice ua un uc) x) : RI w0 w1 (w'.setCell ⟨gc, 1, none⟩ (.slice ua un uc)) g gc N S lv tv ts ⟨k, x, [], 0, 0, 0, 0, []⟩ := by
  have p1 := P.cN
  have p2 := P.nw
  have hs := hG.size
  exact ⟨((Gr2.refl w1 g gc).gb hG).setC, hR.setO P.c0 P.ne P.sc, ua, un, uc, none, 0, 0, none, 0, 0, w'.heap.size, box_set (i := 1) (v := .slice ua un uc) ((hG.block gc (lt_of_heap hc) (fun e => P.ne (by cases e; rfl))).trans hc), (hrow.set (.inl (by omega))).wide p2 (Nat.le_refl _), Row.nil _ _ _, rb_nil _ _, by omega, by rw [box_size]; exact Nat.le_refl _⟩
theorem RI.to {ua : Option Addr} {un uc : Nat} {x : List Int} (h : RI w0 w1 w g gc N S lv tv ts c) (P : Pl w0 w1 g gc N S) (hG : w.grownBy w' (some g)) (hR : Rs w0 w' g S lv tv' ts') (hrow : Row w' w.heap.size w'.heap.size (.slice ua un uc) x) : RI w0 w1 (w'.setCell ⟨gc, 2, none⟩ (.slice ua un uc)) g gc N S lv tv' ts' { c with tt := x } := by
  obtain ⟨gr, rs, a0, n0, c0, a1, n1, c1, a2, n2, c2, T0, hc, r0, r1, r2, h1, h2⟩ := h
  have p1 := P.cN
  have p2 := P.gN
  have hs := hG.size
  exact ⟨(gr.gb hG).setC, hR.setO P.c0 P.ne P.sc, a0, n0, c0, ua, un, uc, a2, n2, c2, T0, box_set (i := 2) (v := .slice ua un uc) ((hG.block gc (lt_of_heap hc) (fun e => P.ne (by cases e; rfl))).trans hc), (r0.drawn hG (.inl p2)).set (.inl p1), by rw [box_size]; exact (hrow.set (.inl (by omega))).wide h2 (Nat.le_refl _), rb_setC (rb_gb r2 hG P.sg) P.sc, h1, by rw [box_size]; omega⟩
theorem RI.text {ua : Option Addr} {un uc : Nat} {x : List Int} (h : RI w0 w1 w g gc N S lv tv ts c) (P : Pl w0 w1 g gc N S) (hrb : RB w S (.slice ua un uc) x) : RI w0 w1 (w.setCell ⟨gc, 7, none⟩ (.slice ua un uc)) g gc N S lv tv ts { c with tx := x } := by
  obtain ⟨gr, rs, a0, n0, c0, a1, n1, c1, a2, n2, c2, T0, hc, r0, r1, r2, h1, h2⟩ := h
  have p1 := P.cN
  exact ⟨gr.setC, rs.setO P.c0 P.ne P.sc, a0, n0, c0, a1, n1, c1, ua, un, uc, T0, box_set (i := 7) (v := .slice ua un uc) hc, r0.set (.inl p1), by rw [box_size]; exact r1.set (.inl (by omega)), rb_setC hrb P.sc, h1, by rw [box_size]; exact h2⟩
end

end Go.Proofs.YtlegmiaoablcgaaDoor

/- What storeWords and forms of package impl do. -/
namespace Go.Proofs.YtlegmiaoablcgaaDoor
open Go.RowKit
set_option maxRecDepth 100000
set_option linter.unusedVariables false

set_option maxRecDepth 100000 in
theorem storeWords_r (w : World) : Calls Tryd.prog 79 #[] w fun e w' => e = .returned (.slice (some ⟨w.heap.size, 0, none⟩) 3 3) ∧ w' = w.alloc (.cells #[.string ⟨#[73, 83]⟩, .string ⟨#[87, 73, 84, 72]⟩, .string ⟨#[87, 73, 84, 72, 79, 85, 84]⟩] 9) := by
  go_enter Tryd.func79, Tryd.ntmps79
  go_wp2
  go_ret
  exact ⟨rfl, rfl⟩
abbrev formsO : Obj := .cells #[.string ⟨#[67, 82, 69, 65, 84, 69]⟩, .func (.func 53) #[] #[], .func (.func 54) #[] #[], .string ⟨#[68, 69, 76, 69, 84, 69]⟩, .func (.func 53) #[] #[], .func (.func 54) #[] #[], .string ⟨#[65, 80, 80, 69, 78, 68]⟩, .func (.func 55) #[] #[], .func (.func 56) #[] #[], .string ⟨#[83, 84, 79, 82, 69]⟩, .func (.func 57) #[] #[], .func (.func 58) #[] #[], .string ⟨#[69, 88, 80, 85, 78, 71, 69]⟩, .func (.func 53) #[] #[], .func (.func 54) #[] #[], .string ⟨#[70, 69, 84, 67, 72]⟩, .func (.func 59) #[] #[], .func (.func 60) #[] #[], .string ⟨#[67, 79, 80, 89]⟩, .func (.func 61) #[] #[], .func (.func 62) #[] #[], .string ⟨#[83, 84, 65, 84, 85, 83]⟩, .func (.func 53) #[] #[], .func (.func 54) #[] #[], .string ⟨#[67, 72, 65, 78, 71, 69, 83]⟩, .func (.func 63) #[] #[], .func (.func 64) #[] #[], .string ⟨#[76, 73, 83, 84]⟩, .func (.func 65) #[] #[], .func (.func 66) #[] #[]] 69
theorem run_storeF {P : Program} (W : World) (b i : Nat) (cs : Array Value) (t : TypeId) (v : Value) (h : W.heap[b]? = some (.cells cs t (0, 0))) (hi : i < cs.size) (hv : v.oneCell' = true) : (store ⟨b, i, none⟩ v).run P W = .ok () (W.setCell ⟨b, i, none⟩ v) := by
  rw [run_store P W _ v _ hv, cell_of_row W b i cs t (0, 0) h]
  simp [hi, frozen_of_row W b i cs t h]
set_option maxRecDepth 100000 in
set_option maxHeartbeats 4000000 in
theorem forms_r (w : World) : Calls Tryd.prog 35 #[] w fun e w' => e = .returned (.slice (some ⟨w.heap.size, 0, none⟩) 10 10) ∧ w' = w.alloc (.cells #[.string ⟨#[67, 82, 69, 65, 84, 69]⟩, .func (.func 53) #[] #[], .func (.func 54) #[] #[], .string ⟨#[68, 69, 76, 69, 84, 69]⟩, .func (.func 53) #[] #[], .func (.func 54) #[] #[], .string ⟨#[65, 80, 80, 69, 78, 68]⟩, .func (.func 55) #[] #[], .func (.func 56) #[] #[], .string ⟨#[83, 84, 79, 82, 69]⟩, .func (.func 57) #[] #[], .func (.func 58) #[] #[], .string ⟨#[69, 88, 80, 85, 78, 71, 69]⟩, .func (.func 53) #[] #[], .func (.func 54) #[] #[], .string ⟨#[70, 69, 84, 67, 72]⟩, .func (.func 59) #[] #[], .func (.func 60) #[] #[], .string ⟨#[67, 79, 80, 89]⟩, .func (.func 61) #[] #[], .func (.func 62) #[] #[], .string ⟨#[83, 84, 65, 84, 85, 83]⟩, .func (.func 53) #[] #[], .func (.func 54) #[] #[], .string ⟨#[67, 72, 65, 78, 71, 69, 83]⟩, .func (.func 63) #[] #[], .func (.func 64) #[] #[], .string ⟨#[76, 73, 83, 84]⟩, .func (.func 65) #[] #[], .func (.func 66) #[] #[]] 69) := by
  go_enter Tryd.func35, Tryd.ntmps35
  go_wp2
  go_ret
  exact ⟨rfl, rfl⟩
theorem formAt0 {w : World} {b : Nat} (h : w.heap[b]? = some formsO) : w.cell? ⟨b, 0, none⟩ = some (.string ⟨#[67, 82, 69, 65, 84, 69]⟩) ∧ w.cell? ⟨b, 1, none⟩ = some (.func (.func 53) #[] #[]) ∧ w.cell? ⟨b, 2, none⟩ = some (.func (.func 54) #[] #[]) :=
  ⟨by rw [cell_of_row w b 0 _ _ (0, 0) h]; rfl, by rw [cell_of_row w b 1 _ _ (0, 0) h]; rfl, by rw [cell_of_row w b 2 _ _ (0, 0) h]; rfl⟩
theorem formAt1 {w : World} {b : Nat} (h : w.heap[b]? = some formsO) : w.cell? ⟨b, 3, none⟩ = some (.string ⟨#[68, 69, 76, 69, 84, 69]⟩) ∧ w.cell? ⟨b, 4, none⟩ = some (.func (.func 53) #[] #[]) ∧ w.cell? ⟨b, 5, none⟩ = some (.func (.func 54) #[] #[]) :=
  ⟨by rw [cell_of_row w b 3 _ _ (0, 0) h]; rfl, by rw [cell_of_row w b 4 _ _ (0, 0) h]; rfl, by rw [cell_of_row w b 5 _ _ (0, 0) h]; rfl⟩
theorem formAt2 {w : World} {b : Nat} (h : w.heap[b]? = some formsO) : w.cell? ⟨b, 6, none⟩ = some (.string ⟨#[65, 80, 80, 69, 78, 68]⟩) ∧ w.cell? ⟨b, 7, none⟩ = some (.func (.func 55) #[] #[]) ∧ w.cell? ⟨b, 8, none⟩ = some (.func (.func 56) #[] #[]) :=
  ⟨by rw [cell_of_row w b 6 _ _ (0, 0) h]; rfl, by rw [cell_of_row w b 7 _ _ (0, 0) h]; rfl, by rw [cell_of_row w b 8 _ _ (0, 0) h]; rfl⟩
theorem formAt3 {w : World} {b : Nat} (h : w.heap[b]? = some formsO) : w.cell? ⟨b, 9, none⟩ = some (.string ⟨#[83, 84, 79, 82, 69]⟩) ∧ w.cell? ⟨b, 10, none⟩ = some (.func (.func 57) #[] #[]) ∧ w.cell? ⟨b, 11, none⟩ = some (.func (.func 58) #[] #[]) :=
  ⟨by rw [cell_of_row w b 9 _ _ (0, 0) h]; rfl, by rw [cell_of_row w b 10 _ _ (0, 0) h]; rfl, by rw [cell_of_row w b 11 _ _ (0, 0) h]; rfl⟩
theorem formAt4 {w : World} {b : Nat} (h : w.heap[b]? = some formsO) : w.cell? ⟨b, 12, none⟩ = some (.string ⟨#[69, 88, 80, 85, 78, 71, 69]⟩) ∧ w.cell? ⟨b, 13, none⟩ = some (.func (.func 53) #[] #[]) ∧ w.cell? ⟨b, 14, none⟩ = some (.func (.func 54) #[] #[]) :=
  ⟨by rw [cell_of_row w b 12 _ _ (0, 0) h]; rfl, by rw [cell_of_row w b 13 _ _ (0, 0) h]; rfl, by rw [cell_of_row w b 14 _ _ (0, 0) h]; rfl⟩
theorem formAt5 {w : World} {b : Nat} (h : w.heap[b]? = some formsO) : w.cell? ⟨b, 15, none⟩ = some (.string ⟨#[70, 69, 84, 67, 72]⟩) ∧ w.cell? ⟨b, 16, none⟩ = some (.func (.func 59) #[] #[]) ∧ w.cell? ⟨b, 17, none⟩ = some (.func (.func 60) #[] #[]) :=
  ⟨by rw [cell_of_row w b 15 _ _ (0, 0) h]; rfl, by rw [cell_of_row w b 16 _ _ (0, 0) h]; rfl, by rw [cell_of_row w b 17 _ _ (0, 0) h]; rfl⟩
theorem formAt6 {w : World} {b : Nat} (h : w.heap[b]? = some formsO) : w.cell? ⟨b, 18, none⟩ = some (.string ⟨#[67, 79, 80, 89]⟩) ∧ w.cell? ⟨b, 19, none⟩ = some (.func (.func 61) #[] #[]) ∧ w.cell? ⟨b, 20, none⟩ = some (.func (.func 62) #[] #[]) :=
  ⟨by rw [cell_of_row w b 18 _ _ (0, 0) h]; rfl, by rw [cell_of_row w b 19 _ _ (0, 0) h]; rfl, by rw [cell_of_row w b 20 _ _ (0, 0) h]; rfl⟩
theorem formAt7 {w : World} {b : Nat} (h : w.heap[b]? = some formsO) : w.cell? ⟨b, 21, none⟩ = some (.string ⟨#[83, 84, 65, 84, 85, 83]⟩) ∧ w.cell? ⟨b, 22, none⟩ = some (.func (.func 53) #[] #[]) ∧ w.cell? ⟨b, 23, none⟩ = some (.func (.func 54) #[] #[]) :=
  ⟨by rw [cell_of_row w b 21 _ _ (0, 0) h]; rfl, by rw [cell_of_row w b 22 _ _ (0, 0) h]; rfl, by rw [cell_of_row w b 23 _ _ (0, 0) h]; rfl⟩
theorem formAt8 {w : World} {b : Nat} (h : w.heap[b]? = some formsO) : w.cell? ⟨b, 24, none⟩ = some (.string ⟨#[67, 72, 65, 78, 71, 69, 83]⟩) ∧ w.cell? ⟨b, 25, none⟩ = some (.func (.func 63) #[] #[]) ∧ w.cell? ⟨b, 26, none⟩ = some (.func (.func 64) #[] #[]) :=
  ⟨by rw [cell_of_row w b 24 _ _ (0, 0) h]; rfl, by rw [cell_of_row w b 25 _ _ (0, 0) h]; rfl, by rw [cell_of_row w b 26 _ _ (0, 0) h]; rfl⟩
theorem formAt9 {w : World} {b : Nat} (h : w.heap[b]? = some formsO) : w.cell? ⟨b, 27, none⟩ = some (.string ⟨#[76, 73, 83, 84]⟩) ∧ w.cell? ⟨b, 28, none⟩ = some (.func (.func 65) #[] #[]) ∧ w.cell? ⟨b, 29, none⟩ = some (.func (.func 66) #[] #[]) :=
  ⟨by rw [cell_of_row w b 27 _ _ (0, 0) h]; rfl, by rw [cell_of_row w b 28 _ _ (0, 0) h]; rfl, by rw [cell_of_row w b 29 _ _ (0, 0) h]; rfl⟩

end Go.Proofs.YtlegmiaoablcgaaDoor

/- What the functions readNothing, readBox .. readChanges of package impl do. -/
namespace Go.Proofs.YtlegmiaoablcgaaDoor
open Go.RowKit
set_option maxRecDepth 100000
set_option linter.unusedVariables false
set_option linter.unusedSimpArgs false

def storeW : List (List Int) := [[73, 83], [87, 73, 84, 72], [87, 73, 84, 72, 79, 85, 84]]
/-- What a kind wants behind the box, as package impl reads it. -/
def restI (e : Int) (c : CmdD) (ts : List TokD) : Except Int (CmdD × List TokD) :=
  if c.k = 2 then
    (nextM e 4 ts).bind fun a => (nextM e 5 a.2).bind fun b => .ok ({ c with fl := a.1.n, tx := b.1.tx }, b.2)
  else if c.k = 3 then
    (takeM e 3 1 ts).bind fun a => (wordM e storeW a.2).bind fun m => (nextM e 4 m.2).bind fun b =>
      if b.2 = [] then .ok ({ c with uid := a.1.n, mode := m.1, fl := b.1.n }, b.2)
      else (wordM e [sinceW] b.2).bind fun s => (takeM e 3 1 s.2).bind fun d => .ok ({ c with uid := a.1.n, mode := m.1, fl := b.1.n, si := d.1.n }, d.2)
  else if c.k = 5 then (takeM e 3 1 ts).bind fun a => .ok ({ c with uid := a.1.n }, a.2)
  else if c.k = 6 then
    (takeM e 3 1 ts).bind fun a => (nextM e 2 a.2).bind fun b =>
      if b.2 = [] then .ok ({ c with uid := a.1.n, tt := b.1.tx }, b.2)
      else (wordM e [awayW] b.2).bind fun s => .ok ({ c with uid := a.1.n, tt := b.1.tx, mode := 1 }, s.2)
  else if c.k = 8 then (takeM e 3 0 ts).bind fun a => .ok ({ c with si := a.1.n }, a.2)
  else .ok (c, ts)
def readI (e k : Int) (ts : List TokD) : Except Int (CmdD × List TokD) := if k = 9 then .ok (⟨9, [], [], 0, 0, 0, 0, []⟩, ts) else (nextM e 2 ts).bind fun b => restI e ⟨k, b.1.tx, [], 0, 0, 0, 0, []⟩ b.2
/-- What such a function comes to. -/
def ReadP (w0 w : World) (g gc N : Nat) (S : Nat → Prop) (lv : Value) (ea : Addr) (r : Except Int (CmdD × List TokD)) (e : Ending) (w' : World) : Prop := match r with
  | .ok p => ∃ tv', e = .returned (.tuple #[]) ∧ RI w0 w w' g gc N S lv tv' p.2 p.1
  | .error p => e = gaveUp ea ∧ Gr2 w w' g gc ∧ Bad w' g 3 p
theorem take_mem {e k least : Int} {ts : List TokD} {p : TokD × List TokD} (h : takeM e k least ts = .ok p) : (∀ t ∈ p.2, t ∈ ts) ∧ p.1 ∈ ts := by
  cases ts with
  | nil => simp [takeM] at h
  | cons t r =>
    simp only [takeM] at h
    split at h
    · cases h
      exact ⟨fun t ht => by simp [ht], by simp⟩
    · cases h
theorem word_mem {e : Int} {ws : List (List Int)} {ts : List TokD} {p : Int × List TokD} (h : wordM e ws ts = .ok p) : (∀ t ∈ p.2, t ∈ ts) ∧ 0 ≤ p.1 := by
  unfold wordM at h
  cases hn : nextM e 1 ts with
  | error q => rw [hn] at h; cases h
  | ok q =>
    rw [hn] at h
    simp only at h
    split at h
    · cases h
    · cases h
      exact ⟨(next_mem hn).1, by simp only; omega⟩

set_option maxHeartbeats 1000000 in
theorem readNothing_r (g gc N : Nat) (la : Option Addr) (ln lc : Nat) (tv : Value) (ts : List TokD) (S : Nat → Prop) (ea : Addr) (w0 w : World) (P : Pl w0 w g gc N S) (hr : Rs w0 w g S (.slice la ln lc) tv ts) (hc : C0 w gc 9) :
    Calls Tryd.prog 65 #[.pointer (some ⟨g, 0, none⟩), .pointer (some ⟨gc, 0, none⟩)] w (ReadP w0 w g gc N S (.slice la ln lc) ea (readI ln 9 ts)) := by
  have HF : Hid (RI w0 w w g gc N S (.slice la ln lc) tv ts ⟨9, [], [], 0, 0, 0, 0, []⟩) := ⟨Gr2.refl _ _ _, hr, none, 0, 0, none, 0, 0, none, 0, 0, N, hc, Row.nil _ _ _, Row.nil _ _ _, rb_nil _ _, Nat.le_refl _, P.nw⟩
  have hrd : readI ln 9 ts = .ok (⟨9, [], [], 0, 0, 0, 0, []⟩, ts) := by simp [readI]
  rw [hrd]
  clear hr hc P hrd
  go_enter Tryd.func65, Tryd.ntmps65
  go_wp2
  first | go_end0 | refine bodyPost_ret (v := .tuple #[]) (by simp [results, Tryd.results65, go_sem]) rfl ?_
  exact ⟨_, rfl, HF.out⟩

set_option maxRecDepth 100000 in
set_option maxHeartbeats 4000000 in
theorem readBox_r (g gc N : Nat) (la : Option Addr) (ln lc : Nat) (tv : Value) (ts : List TokD) (S : Nat → Prop) (ea : Addr) (k : Int) (w0 w : World) (hE : Env w0 g S ea) (P : Pl w0 w g gc N S) (hr : Rs w0 w g S (.slice la ln lc) tv ts) (hc : C0 w gc k) (hok : ∀ t ∈ ts, OkT t) (hln : ln ≤ 2000) (hk : k ≠ 9 ∧ k ≠ 2 ∧ k ≠ 3 ∧ k ≠ 5 ∧ k ≠ 6 ∧ k ≠ 8) :
    Calls Tryd.prog 53 #[.pointer (some ⟨g, 0, none⟩), .pointer (some ⟨gc, 0, none⟩)] w (ReadP w0 w g gc N S (.slice la ln lc) ea (readI ln k ts)) := by
  have HP : Hid (Pl w0 w g gc N S) := P
  have HEN : Hid (Env w0 g S ea) := hE
  have HC : Hid (C0 w gc k) := hc
  have hcl : gc < w.heap.size := lt_of_heap hc
  have hS0 : ∀ b, S b → b < w.heap.size := fun b hb => Nat.lt_of_lt_of_le (P.sN b hb) P.nw
  have hn := name_r g la ln lc tv ts S ea w0 w hE hr hok hS0 hln
  obtain ⟨res, hres⟩ : ∃ res, res = readI ln k ts := ⟨_, rfl⟩
  have HRES : Hid (res = readI ln k ts) := hres
  rw [← hres]
  clear hres hr hc P hE
  cases h1 : nextM ln 2 ts with
  | error p =>
    rw [h1] at hn
    have HRE : Hid (res = .error p) := by show _ = _; rw [HRES.out]; simp [readI, h1, Except.bind, hk]
    clear h1
    go_enter Tryd.func53, Tryd.ntmps53
    go_wp2_with fail
    refine hn.mono ?_
    rintro e w1 ⟨hG, rfl, hb⟩
    have HF : Hid (Gr2 w w1 g gc ∧ Bad w1 g 3 p) := ⟨(Gr2.refl _ _ _).gb hG, hb⟩
    clear hG hb
    go_wp2
    refine ⟨rfl, ?_⟩
    rw [HRE.out]
    exact ⟨rfl, HF.out.1, HF.out.2⟩
  | ok p =>
    obtain ⟨⟨bk, bp, bn, bx⟩, ts1⟩ := p
    rw [h1] at hn
    have hok1 : ∀ t ∈ ts1, OkT t := fun t ht => hok t ((next_mem h1).1 t ht)
    have HE1 : Hid (nextM ln 2 ts = .ok (⟨bk, bp, bn, bx⟩, ts1)) := h1
    clear h1
    go_enter Tryd.func53, Tryd.ntmps53
    go_wp2_with fail
    refine hn.mono ?_
    rintro e w1 ⟨hG, u, tv1, rfl, hR, hrow⟩
    simp only at hR hrow
    obtain ⟨ua, un, uc, hu⟩ := (Row.bs hrow).form3
    subst hu
    have H1 : Hid (RI w0 w (w1.setCell ⟨gc, 1, none⟩ (.slice ua un uc)) g gc N S (.slice la ln lc) tv1 ts1 ⟨k, bx, [], 0, 0, 0, 0, []⟩) := RI.first HP.out HC.out hG hR hrow
    have hcb := (hG.block gc hcl (fun e => HP.out.ne (by cases e; rfl))).trans HC.out
    obtain ⟨d0, d1, d2, d3, d4, d5, d6, d7, dl⟩ := box8l hcb
    obtain ⟨dz, -⟩ := box8z hcb
    clear hG hR hrow hcb
    have HRE : Hid (res = .ok (⟨k, bx, [], 0, 0, 0, 0, []⟩, ts1)) := by show _ = _; rw [HRES.out]; simp [readI, restI, HE1.out, Except.bind, hk]
    go_wp2
    first | go_end0 | refine bodyPost_ret (v := .tuple #[]) (by simp [results, Tryd.results53, go_sem]) rfl ?_
    rw [HRE.out]
    exact ⟨_, rfl, H1.out⟩

set_option maxRecDepth 100000 in
set_option maxHeartbeats 4000000 in
theorem readFetch_r (g gc N : Nat) (la : Option Addr) (ln lc : Nat) (tv : Value) (ts : List TokD) (S : Nat → Prop) (ea : Addr) (w0 w : World) (hE : Env w0 g S ea) (P : Pl w0 w g gc N S) (hr : Rs w0 w g S (.slice la ln lc) tv ts) (hc : C0 w gc 5) (hok : ∀ t ∈ ts, OkT t) (hln : ln ≤ 2000) :
    Calls Tryd.prog 59 #[.pointer (some ⟨g, 0, none⟩), .pointer (some ⟨gc, 0, none⟩)] w (ReadP w0 w g gc N S (.slice la ln lc) ea (readI ln 5 ts)) := by
  have HP : Hid (Pl w0 w g gc N S) := P
  have HEN : Hid (Env w0 g S ea) := hE
  have HC : Hid (C0 w gc 5) := hc
  have hcl : gc < w.heap.size := lt_of_heap hc
  have hS0 : ∀ b, S b → b < w.heap.size := fun b hb => Nat.lt_of_lt_of_le (P.sN b hb) P.nw
  have hn := name_r g la ln lc tv ts S ea w0 w hE hr hok hS0 hln
  obtain ⟨res, hres⟩ : ∃ res, res = readI ln 5 ts := ⟨_, rfl⟩
  have HRES : Hid (res = readI ln 5 ts) := hres
  rw [← hres]
  clear hres hr hc P hE
  cases h1 : nextM ln 2 ts with
  | error p =>
    rw [h1] at hn
    have HRE : Hid (res = .error p) := by show _ = _; rw [HRES.out]; simp [readI, h1, Except.bind]
    clear h1
    go_enter Tryd.func59, Tryd.ntmps59
    go_wp2_with fail
    refine hn.mono ?_
    rintro e w1 ⟨hG, rfl, hb⟩
    have HF : Hid (Gr2 w w1 g gc ∧ Bad w1 g 3 p) := ⟨(Gr2.refl _ _ _).gb hG, hb⟩
    clear hG hb
    go_wp2
    refine ⟨rfl, ?_⟩
    rw [HRE.out]
    exact ⟨rfl, HF.out.1, HF.out.2⟩
  | ok p =>
    obtain ⟨⟨bk, bp, bn, bx⟩, ts1⟩ := p
    rw [h1] at hn
    have hok1 : ∀ t ∈ ts1, OkT t := fun t ht => hok t ((next_mem h1).1 t ht)
    have HE1 : Hid (nextM ln 2 ts = .ok (⟨bk, bp, bn, bx⟩, ts1)) := h1
    clear h1
    go_enter Tryd.func59, Tryd.ntmps59
    go_wp2_with fail
    refine hn.mono ?_
    rintro e w1 ⟨hG, u, tv1, rfl, hR, hrow⟩
    simp only at hR hrow
    obtain ⟨ua, un, uc, hu⟩ := (Row.bs hrow).form3
    subst hu
    have H1 : Hid (RI w0 w (w1.setCell ⟨gc, 1, none⟩ (.slice ua un uc)) g gc N S (.slice la ln lc) tv1 ts1 ⟨5, bx, [], 0, 0, 0, 0, []⟩) := RI.first HP.out HC.out hG hR hrow
    have hcb := (hG.block gc hcl (fun e => HP.out.ne (by cases e; rfl))).trans HC.out
    obtain ⟨d0, d1, d2, d3, d4, d5, d6, d7, dl⟩ := box8l hcb
    obtain ⟨dz, -⟩ := box8z hcb
    clear hG hR hrow hcb
    go_upto_region 1 with fail
    generalize (w1.setCell ⟨gc, 1, none⟩ (.slice ua un uc)) = x1 at H1 ⊢
    clear d0 d1 d2 d3 d4 d5 d6 d7 dz dl
    cases h2 : takeM ln 3 1 ts1 with
    | error p =>
      have hc2 := number_r g la ln lc tv1 ts1 S ea 1 w0 x1 HEN.out H1.out.rs hok1 (fun b h => Nat.lt_of_lt_of_le (hS0 b h) H1.out.gr.size) hln
      rw [h2] at hc2
      have HRE : Hid (res = .error p) := by show _ = _; rw [HRES.out]; simp [h2, readI, restI, HE1.out, Except.bind]
      clear h2
      go_wp2_with fail
      refine hc2.mono ?_
      rintro e y ⟨hG, rfl, hb⟩
      have HF : Hid (Gr2 w y g gc ∧ Bad y g 3 p) := ⟨H1.out.gr.gb hG, hb⟩
      clear hG hb
      go_wp2
      refine ⟨rfl, ?_⟩
      rw [HRE.out]
      exact ⟨rfl, HF.out.1, HF.out.2⟩
    | ok p =>
      obtain ⟨⟨z2k, z2p, z2n, z2t⟩, ts2⟩ := p
      have hc2 := number_r g la ln lc tv1 ts1 S ea 1 w0 x1 HEN.out H1.out.rs hok1 (fun b h => Nat.lt_of_lt_of_le (hS0 b h) H1.out.gr.size) hln
      rw [h2] at hc2
      have hok2 : ∀ t ∈ ts2, OkT t := fun t ht => hok1 t ((take_mem h2).1 t ht)
      have HE2 : Hid (takeM ln 3 1 ts1 = .ok (⟨z2k, z2p, z2n, z2t⟩, ts2)) := h2
      clear h2
      go_wp2_with fail
      refine hc2.mono ?_
      rintro e y2 ⟨hG, tv2, rfl, hR⟩
      simp only at hR
      have HY : Hid (RI w0 w y2 g gc N S (.slice la ln lc) tv2 ts2 ⟨5, bx, [], 0, 0, 0, 0, []⟩) := H1.out.step HP.out hG hR
      clear hG hR
      have H2 : Hid (RI w0 w (y2.setCell ⟨gc, 3, none⟩ (.int .i64 z2n)) g gc N S (.slice la ln lc) tv2 ts2 ⟨5, bx, [], z2n, 0, 0, 0, []⟩) := HY.out.setI HP.out (.inl ⟨rfl, rfl⟩)
      obtain ⟨v1, v2, v7, d0, d1, d2, d3, d4, d5, d6, d7, dz, dl⟩ := HY.out.cells
      simp only at d0 d3 d4 d5 d6
      have HRE : Hid (res = .ok (⟨5, bx, [], z2n, 0, 0, 0, []⟩, ts2)) := by show _ = _; rw [HRES.out]; simp [readI, restI, HE1.out, HE2.out, Except.bind]
      go_wp2
      first | go_end0 | refine bodyPost_ret (v := .tuple #[]) (by simp [results, Tryd.results59, go_sem]) rfl ?_
      rw [HRE.out]
      exact ⟨_, rfl, H2.out⟩

set_option maxRecDepth 100000 in
set_option maxHeartbeats 4000000 in
theorem readChanges_r (g gc N : Nat) (la : Option Addr) (ln lc : Nat) (tv : Value) (ts : List TokD) (S : Nat → Prop) (ea : Addr) (w0 w : World) (hE : Env w0 g S ea) (P : Pl w0 w g gc N S) (hr : Rs w0 w g S (.slice la ln lc) tv ts) (hc : C0 w gc 8) (hok : ∀ t ∈ ts, OkT t) (hln : ln ≤ 2000) :
    Calls Tryd.prog 63 #[.pointer (some ⟨g, 0, none⟩), .pointer (some ⟨gc, 0, none⟩)] w (ReadP w0 w g gc N S (.slice la ln lc) ea (readI ln 8 ts)) := by
  have HP : Hid (Pl w0 w g gc N S) := P
  have HEN : Hid (Env w0 g S ea) := hE
  have HC : Hid (C0 w gc 8) := hc
  have hcl : gc < w.heap.size := lt_of_heap hc
  have hS0 : ∀ b, S b → b < w.heap.size := fun b hb => Nat.lt_of_lt_of_le (P.sN b hb) P.nw
  have hn := name_r g la ln lc tv ts S ea w0 w hE hr hok hS0 hln
  obtain ⟨res, hres⟩ : ∃ res, res = readI ln 8 ts := ⟨_, rfl⟩
  have HRES : Hid (res = readI ln 8 ts) := hres
  rw [← hres]
  clear hres hr hc P hE
  cases h1 : nextM ln 2 ts with
  | error p =>
    rw [h1] at hn
    have HRE : Hid (res = .error p) := by show _ = _; rw [HRES.out]; simp [readI, h1, Except.bind]
    clear h1
    go_enter Tryd.func63, Tryd.ntmps63
    go_wp2_with fail
    refine hn.mono ?_
    rintro e w1 ⟨hG, rfl, hb⟩
    have HF : Hid (Gr2 w w1 g gc ∧ Bad w1 g 3 p) := ⟨(Gr2.refl _ _ _).gb hG, hb⟩
    clear hG hb
    go_wp2
    refine ⟨rfl, ?_⟩
    rw [HRE.out]
    exact ⟨rfl, HF.out.1, HF.out.2⟩
  | ok p =>
    obtain ⟨⟨bk, bp, bn, bx⟩, ts1⟩ := p
    rw [h1] at hn
    have hok1 : ∀ t ∈ ts1, OkT t := fun t ht => hok t ((next_mem h1).1 t ht)
    have HE1 : Hid (nextM ln 2 ts = .ok (⟨bk, bp, bn, bx⟩, ts1)) := h1
    clear h1
    go_enter Tryd.func63, Tryd.ntmps63
    go_wp2_with fail
    refine hn.mono ?_
    rintro e w1 ⟨hG, u, tv1, rfl, hR, hrow⟩
    simp only at hR hrow
    obtain ⟨ua, un, uc, hu⟩ := (Row.bs hrow).form3
    subst hu
    have H1 : Hid (RI w0 w (w1.setCell ⟨gc, 1, none⟩ (.slice ua un uc)) g gc N S (.slice la ln lc) tv1 ts1 ⟨8, bx, [], 0, 0, 0, 0, []⟩) := RI.first HP.out HC.out hG hR hrow
    have hcb := (hG.block gc hcl (fun e => HP.out.ne (by cases e; rfl))).trans HC.out
    obtain ⟨d0, d1, d2, d3, d4, d5, d6, d7, dl⟩ := box8l hcb
    obtain ⟨dz, -⟩ := box8z hcb
    clear hG hR hrow hcb
    go_upto_region 1 with fail
    generalize (w1.setCell ⟨gc, 1, none⟩ (.slice ua un uc)) = x1 at H1 ⊢
    clear d0 d1 d2 d3 d4 d5 d6 d7 dz dl
    cases h2 : takeM ln 3 0 ts1 with
    | error p =>
      have hc2 := number_r g la ln lc tv1 ts1 S ea 0 w0 x1 HEN.out H1.out.rs hok1 (fun b h => Nat.lt_of_lt_of_le (hS0 b h) H1.out.gr.size) hln
      rw [h2] at hc2
      have HRE : Hid (res = .error p) := by show _ = _; rw [HRES.out]; simp [h2, readI, restI, HE1.out, Except.bind]
      clear h2
      go_wp2_with fail
      refine hc2.mono ?_
      rintro e y ⟨hG, rfl, hb⟩
      have HF : Hid (Gr2 w y g gc ∧ Bad y g 3 p) := ⟨H1.out.gr.gb hG, hb⟩
      clear hG hb
      go_wp2
      refine ⟨rfl, ?_⟩
      rw [HRE.out]
      exact ⟨rfl, HF.out.1, HF.out.2⟩
    | ok p =>
      obtain ⟨⟨z2k, z2p, z2n, z2t⟩, ts2⟩ := p
      have hc2 := number_r g la ln lc tv1 ts1 S ea 0 w0 x1 HEN.out H1.out.rs hok1 (fun b h => Nat.lt_of_lt_of_le (hS0 b h) H1.out.gr.size) hln
      rw [h2] at hc2
      have hok2 : ∀ t ∈ ts2, OkT t := fun t ht => hok1 t ((take_mem h2).1 t ht)
      have HE2 : Hid (takeM ln 3 0 ts1 = .ok (⟨z2k, z2p, z2n, z2t⟩, ts2)) := h2
      clear h2
      go_wp2_with fail
      refine hc2.mono ?_
      rintro e y2 ⟨hG, tv2, rfl, hR⟩
      simp only at hR
      have HY : Hid (RI w0 w y2 g gc N S (.slice la ln lc) tv2 ts2 ⟨8, bx, [], 0, 0, 0, 0, []⟩) := H1.out.step HP.out hG hR
      clear hG hR
      have H2 : Hid (RI w0 w (y2.setCell ⟨gc, 6, none⟩ (.int .i64 z2n)) g gc N S (.slice la ln lc) tv2 ts2 ⟨8, bx, [], 0, 0, 0, z2n, []⟩) := HY.out.setI HP.out (.inr (.inr (.inr ⟨rfl, rfl⟩)))
      obtain ⟨v1, v2, v7, d0, d1, d2, d3, d4, d5, d6, d7, dz, dl⟩ := HY.out.cells
      simp only at d0 d3 d4 d5 d6
      have HRE : Hid (res = .ok (⟨8, bx, [], 0, 0, 0, z2n, []⟩, ts2)) := by show _ = _; rw [HRES.out]; simp [readI, restI, HE1.out, HE2.out, Except.bind]
      go_wp2
      first | go_end0 | refine bodyPost_ret (v := .tuple #[]) (by simp [results, Tryd.results63, go_sem]) rfl ?_
      rw [HRE.out]
      exact ⟨_, rfl, H2.out⟩

set_option maxRecDepth 100000 in
set_option maxHeartbeats 4000000 in
theorem readAppend_r (g gc N : Nat) (la : Option Addr) (ln lc : Nat) (tv : Value) (ts : List TokD) (S : Nat → Prop) (ea : Addr) (w0 w : World) (hE : Env w0 g S ea) (P : Pl w0 w g gc N S) (hr : Rs w0 w g S (.slice la ln lc) tv ts) (hc : C0 w gc 2) (hok : ∀ t ∈ ts, OkT t) (hln : ln ≤ 2000) :
    Calls Tryd.prog 55 #[.pointer (some ⟨g, 0, none⟩), .pointer (some ⟨gc, 0, none⟩)] w (ReadP w0 w g gc N S (.slice la ln lc) ea (readI ln 2 ts)) := by
  have HP : Hid (Pl w0 w g gc N S) := P
  have HEN : Hid (Env w0 g S ea) := hE
  have HC : Hid (C0 w gc 2) := hc
  have hcl : gc < w.heap.size := lt_of_heap hc
  have hS0 : ∀ b, S b → b < w.heap.size := fun b hb => Nat.lt_of_lt_of_le (P.sN b hb) P.nw
  have hn := name_r g la ln lc tv ts S ea w0 w hE hr hok hS0 hln
  obtain ⟨res, hres⟩ : ∃ res, res = readI ln 2 ts := ⟨_, rfl⟩
  have HRES : Hid (res = readI ln 2 ts) := hres
  rw [← hres]
  clear hres hr hc P hE
  cases h1 : nextM ln 2 ts with
  | error p =>
    rw [h1] at hn
    have HRE : Hid (res = .error p) := by show _ = _; rw [HRES.out]; simp [readI, h1, Except.bind]
    clear h1
    go_enter Tryd.func55, Tryd.ntmps55
    go_wp2_with fail
    refine hn.mono ?_
    rintro e w1 ⟨hG, rfl, hb⟩
    have HF : Hid (Gr2 w w1 g gc ∧ Bad w1 g 3 p) := ⟨(Gr2.refl _ _ _).gb hG, hb⟩
    clear hG hb
    go_wp2
    refine ⟨rfl, ?_⟩
    rw [HRE.out]
    exact ⟨rfl, HF.out.1, HF.out.2⟩
  | ok p =>
    obtain ⟨⟨bk, bp, bn, bx⟩, ts1⟩ := p
    rw [h1] at hn
    have hok1 : ∀ t ∈ ts1, OkT t := fun t ht => hok t ((next_mem h1).1 t ht)
    have HE1 : Hid (nextM ln 2 ts = .ok (⟨bk, bp, bn, bx⟩, ts1)) := h1
    clear h1
    go_enter Tryd.func55, Tryd.ntmps55
    go_wp2_with fail
    refine hn.mono ?_
    rintro e w1 ⟨hG, u, tv1, rfl, hR, hrow⟩
    simp only at hR hrow
    obtain ⟨ua, un, uc, hu⟩ := (Row.bs hrow).form3
    subst hu
    have H1 : Hid (RI w0 w (w1.setCell ⟨gc, 1, none⟩ (.slice ua un uc)) g gc N S (.slice la ln lc) tv1 ts1 ⟨2, bx, [], 0, 0, 0, 0, []⟩) := RI.first HP.out HC.out hG hR hrow
    have hcb := (hG.block gc hcl (fun e => HP.out.ne (by cases e; rfl))).trans HC.out
    obtain ⟨d0, d1, d2, d3, d4, d5, d6, d7, dl⟩ := box8l hcb
    obtain ⟨dz, -⟩ := box8z hcb
    clear hG hR hrow hcb
    go_upto_region 1 with fail
    generalize (w1.setCell ⟨gc, 1, none⟩ (.slice ua un uc)) = x1 at H1 ⊢
    clear d0 d1 d2 d3 d4 d5 d6 d7 dz dl
    cases h2 : nextM ln 4 ts1 with
    | error p =>
      have hc2 := next_r g la ln lc tv1 ts1 S ea 4 w0 x1 HEN.out H1.out.rs hok1 (by omega) (fun b h => Nat.lt_of_lt_of_le (hS0 b h) H1.out.gr.size) hln
      rw [h2] at hc2
      have HRE : Hid (res = .error p) := by show _ = _; rw [HRES.out]; simp [h2, readI, restI, HE1.out, Except.bind]
      clear h2
      go_wp2_with fail
      refine hc2.mono ?_
      rintro e y ⟨hG, rfl, hb⟩
      have HF : Hid (Gr2 w y g gc ∧ Bad y g 3 p) := ⟨H1.out.gr.gb hG, hb⟩
      clear hG hb
      go_wp2
      refine ⟨rfl, ?_⟩
      rw [HRE.out]
      exact ⟨rfl, HF.out.1, HF.out.2⟩
    | ok p =>
      obtain ⟨⟨z2k, z2p, z2n, z2t⟩, ts2⟩ := p
      have hc2 := next_r g la ln lc tv1 ts1 S ea 4 w0 x1 HEN.out H1.out.rs hok1 (by omega) (fun b h => Nat.lt_of_lt_of_le (hS0 b h) H1.out.gr.size) hln
      rw [h2] at hc2
      have hok2 : ∀ t ∈ ts2, OkT t := fun t ht => hok1 t ((next_mem h2).1 t ht)
      have HE2 : Hid (nextM ln 4 ts1 = .ok (⟨z2k, z2p, z2n, z2t⟩, ts2)) := h2
      clear h2
      go_wp2_with fail
      refine hc2.mono ?_
      rintro e y2 ⟨hG, xa, xn, xc, tv2, rfl, hR, hTX⟩
      simp only at hR hTX
      have HY : Hid (RI w0 w y2 g gc N S (.slice la ln lc) tv2 ts2 ⟨2, bx, [], 0, 0, 0, 0, []⟩) := H1.out.step HP.out hG hR
      clear hG hR
      have hfd := fun w' => run_field2 (sortM z2k) z2p z2n xa xn xc w'
      clear hTX
      have H2 : Hid (RI w0 w (y2.setCell ⟨gc, 5, none⟩ (.int .i64 z2n)) g gc N S (.slice la ln lc) tv2 ts2 ⟨2, bx, [], 0, 0, z2n, 0, []⟩) := HY.out.setI HP.out (.inr (.inr (.inl ⟨rfl, rfl⟩)))
      obtain ⟨v1, v2, v7, d0, d1, d2, d3, d4, d5, d6, d7, dz, dl⟩ := HY.out.cells
      simp only at d0 d3 d4 d5 d6
      go_upto_region 2 with fail
      generalize (y2.setCell ⟨gc, 5, none⟩ (.int .i64 z2n)) = x2 at H2 ⊢
      clear d0 d1 d2 d3 d4 d5 d6 d7 dz dl
      cases h3 : nextM ln 5 ts2 with
      | error p =>
        have hc2 := next_r g la ln lc tv2 ts2 S ea 5 w0 x2 HEN.out H2.out.rs hok2 (by omega) (fun b h => Nat.lt_of_lt_of_le (hS0 b h) H2.out.gr.size) hln
        rw [h3] at hc2
        have HRE : Hid (res = .error p) := by show _ = _; rw [HRES.out]; simp [h3, readI, restI, HE1.out, HE2.out, Except.bind]
        clear h3
        go_wp2_with fail
        refine hc2.mono ?_
        rintro e y ⟨hG, rfl, hb⟩
        have HF : Hid (Gr2 w y g gc ∧ Bad y g 3 p) := ⟨H2.out.gr.gb hG, hb⟩
        clear hG hb
        go_wp2
        refine ⟨rfl, ?_⟩
        rw [HRE.out]
        exact ⟨rfl, HF.out.1, HF.out.2⟩
      | ok p =>
        obtain ⟨⟨z3k, z3p, z3n, z3t⟩, ts3⟩ := p
        have hc2 := next_r g la ln lc tv2 ts2 S ea 5 w0 x2 HEN.out H2.out.rs hok2 (by omega) (fun b h => Nat.lt_of_lt_of_le (hS0 b h) H2.out.gr.size) hln
        rw [h3] at hc2
        have hok3 : ∀ t ∈ ts3, OkT t := fun t ht => hok2 t ((next_mem h3).1 t ht)
        have HE3 : Hid (nextM ln 5 ts2 = .ok (⟨z3k, z3p, z3n, z3t⟩, ts3)) := h3
        have HK5 : Hid (z3k = 5) := (next_mem h3).2.2
        clear h3
        go_wp2_with fail
        refine hc2.mono ?_
        rintro e y3 ⟨hG, xa, xn, xc, tv3, rfl, hR, hTX⟩
        simp only at hR hTX
        have HY : Hid (RI w0 w y3 g gc N S (.slice la ln lc) tv3 ts3 ⟨2, bx, [], 0, 0, z2n, 0, []⟩) := H2.out.step HP.out hG hR
        clear hG hR
        have hfd := fun w' => run_field3 (sortM z3k) z3p z3n xa xn xc w'
        have H3 : Hid (RI w0 w (y3.setCell ⟨gc, 7, none⟩ (.slice xa xn xc)) g gc N S (.slice la ln lc) tv3 ts3 ⟨2, bx, [], 0, 0, z2n, 0, z3t⟩) := HY.out.text HP.out (hTX.1 HK5.out)
        clear hTX
        obtain ⟨v1, v2, v7, d0, d1, d2, d3, d4, d5, d6, d7, dz, dl⟩ := HY.out.cells
        simp only at d0 d3 d4 d5 d6
        have HRE : Hid (res = .ok (⟨2, bx, [], 0, 0, z2n, 0, z3t⟩, ts3)) := by show _ = _; rw [HRES.out]; simp [readI, restI, HE1.out, HE2.out, HE3.out, Except.bind]
        go_wp2
        first | go_end0 | refine bodyPost_ret (v := .tuple #[]) (by simp [results, Tryd.results55, go_sem]) rfl ?_
        rw [HRE.out]
        exact ⟨_, rfl, H3.out⟩

end Go.Proofs.YtlegmiaoablcgaaDoor
