/- The proof's texts, part 2. -/
import Derived.Test.YtkdejfcdmjkndaaPart1
import Derived.Deep.RegionHeld3
import Derived.WalkKit
import Derived.Lib.Bytealg

/- What toBox, toBoxS of package laws do. -/
namespace Go.Proofs.Ytkdejfcdmjkndaa
open Go.RowKit
set_option maxRecDepth 100000
set_option linter.unusedVariables false

theorem in_chain {B B0 T0 T1 T2 : Nat} (h0 : B ≤ B0) (h1 : B0 ≤ T0) (h2 : T0 ≤ T1) (h3 : T1 ≤ T2) :
    (∀ x, In B0 T0 x → In B T2 x ∧ ¬ In T0 T1 x ∧ ¬ In T1 T2 x) ∧ (∀ x, In T0 T1 x → In B T2 x ∧ ¬ In T1 T2 x) ∧ (∀ x, In T1 T2 x → In B T2 x) := by
  unfold In
  refine ⟨fun x h => ⟨by omega, by omega, by omega⟩, fun x h => ⟨by omega, by omega⟩, fun x h => by omega⟩

set_option maxRecDepth 100000 in
set_option maxHeartbeats 1000000 in
theorem toBox_o (v : Value) (x : BoxD) (w : World) (hv : BoxV w v x) (h0 : szX x ≤ 2000000) :
    Calls Try.prog 42 #[v] w fun e w' => ∃ u, e = .returned u ∧ (∃ a n c p q r s t y, u = .agg #[.slice a n c, .int .i64 x.valid, .int .i64 x.next, .int .i64 x.seq, .slice p q r, .slice s t y, .int .i64 x.lost] ∧ BoxE w' [.slice a n c, .int .i64 x.valid, .int .i64 x.next, .int .i64 x.seq, .slice p q r, .slice s t y, .int .i64 x.lost] x (In w.heap.size w'.heap.size)) ∧ Below w.heap.size w w' := by
  obtain ⟨u0, u1, u2, rfl, g0, g1, g2, i0, i1, i2, i3⟩ := hv
  obtain ⟨name, valid, next, seq, mails, gones, lost⟩ := x
  simp only at g0 g1 g2 i0 i1 i2 i3
  have hs : name.length ≤ 2000000 ∧ szM mails ≤ 2000000 ∧ gones.length ≤ 2000000 := by unfold szX at h0; simp only at h0; omega
  clear h0
  have H0 : Hid (∀ wi, Below w.heap.size w wi → Bs wi u0 name ∧ MailsV wi u1 mails ∧ GonesV wi u2 gones) := fun wi h => ⟨g0.below h, g1.below keepsMail h, g2.below keepsGone h⟩
  obtain ⟨a0, n0, c0, rfl⟩ := g0.form3
  obtain ⟨a1, c1, rfl, -⟩ := g1.form
  obtain ⟨a2, c2, rfl, -⟩ := g2.form
  have HI : Hid (I64 valid ∧ I64 next ∧ I64 seq ∧ I64 lost) := ⟨i0, i1, i2, i3⟩
  clear g0 g1 g2 i0 i1 i2 i3
  simp only
  go_enter Try.func42, Try.ntmps42
  go_wp2_with fail
  refine (toByteS_r _ name _ (H0.out _ (box3_below w _ _ _)).1 hs.1).mono ?_
  rintro e w1 ⟨u0, rfl, R0, B⟩
  obtain ⟨x0, m0, y0, rfl⟩ := R0.bs.form3
  have b3 := box3 w (.cells #[.slice a0 n0 c0, .int .i64 valid, .int .i64 next, .int .i64 seq, .slice a1 mails.length c1, .slice a2 gones.length c2, .int .i64 lost] 77) (.cells #[.slice none 0 0, .int .i64 0, .int .i64 0, .int .i64 0, .slice none 0 0, .slice none 0 0, .int .i64 0] 66) (.cells #[.slice none 0 0, .int .i64 0, .int .i64 0, .int .i64 0, .slice none 0 0, .slice none 0 0, .int .i64 0] 66)
  have kA := box_below B b3.1
  have kR := box_below B b3.2.1
  have kO := box_below B b3.2.2
  have s1 : w.heap.size + 3 ≤ w1.heap.size := by have := B.size; simp at this; omega
  have X := Below.step (box3_below w _ _ _) B
  replace R0 := R0.wide (B' := w.heap.size + 3) (T' := w1.heap.size) (by simp) (Nat.le_refl _)
  clear b3 B
  obtain ⟨-, f1, f2, f3, f4, -, -⟩ := bx7 kA
  obtain ⟨oz, ol⟩ := box8z kO
  obtain ⟨o0, o1, o2, o3, o4, o5, o6⟩ := bx7 kO
  go_wp2_with fail
  clear f1 f2 f3 f4 oz ol o0 o1 o2 o3 o4 o5 o6
  replace X := X.setCell (p := ⟨w.heap.size + 1 + 1, 0, none⟩) (by simp; omega) (.slice x0 m0 y0)
  replace R0 := R0.set (g := w.heap.size + 1 + 1) (i := 0) (x := .slice x0 m0 y0) (.inl (by omega))
  replace kA := box_other (i := 0) (v := .slice x0 m0 y0) kA (show w.heap.size ≠ w.heap.size + 1 + 1 by omega)
  replace kR := box_other (i := 0) (v := .slice x0 m0 y0) kR (show w.heap.size + 1 ≠ w.heap.size + 1 + 1 by omega)
  replace kO : (World.setCell _ _ _).heap[w.heap.size + 1 + 1]? = some (Obj.cells #[.slice x0 m0 y0, .int .i64 0, .int .i64 0, .int .i64 0, .slice none 0 0, .slice none 0 0, .int .i64 0] 66) := box_set (i := 0) (v := .slice x0 m0 y0) kO
  replace X := X.setCell (p := ⟨w.heap.size + 1 + 1, 1, none⟩) (by simp; omega) (.int .i64 valid)
  replace R0 := R0.set (g := w.heap.size + 1 + 1) (i := 1) (x := .int .i64 valid) (.inl (by omega))
  replace kA := box_other (i := 1) (v := .int .i64 valid) kA (show w.heap.size ≠ w.heap.size + 1 + 1 by omega)
  replace kR := box_other (i := 1) (v := .int .i64 valid) kR (show w.heap.size + 1 ≠ w.heap.size + 1 + 1 by omega)
  replace kO : (World.setCell _ _ _).heap[w.heap.size + 1 + 1]? = some (Obj.cells #[.slice x0 m0 y0, .int .i64 valid, .int .i64 0, .int .i64 0, .slice none 0 0, .slice none 0 0, .int .i64 0] 66) := box_set (i := 1) (v := .int .i64 valid) kO
  replace X := X.setCell (p := ⟨w.heap.size + 1 + 1, 2, none⟩) (by simp; omega) (.int .i64 next)
  replace R0 := R0.set (g := w.heap.size + 1 + 1) (i := 2) (x := .int .i64 next) (.inl (by omega))
  replace kA := box_other (i := 2) (v := .int .i64 next) kA (show w.heap.size ≠ w.heap.size + 1 + 1 by omega)
  replace kR := box_other (i := 2) (v := .int .i64 next) kR (show w.heap.size + 1 ≠ w.heap.size + 1 + 1 by omega)
  replace kO : (World.setCell _ _ _).heap[w.heap.size + 1 + 1]? = some (Obj.cells #[.slice x0 m0 y0, .int .i64 valid, .int .i64 next, .int .i64 0, .slice none 0 0, .slice none 0 0, .int .i64 0] 66) := box_set (i := 2) (v := .int .i64 next) kO
  replace X := X.setCell (p := ⟨w.heap.size + 1 + 1, 3, none⟩) (by simp; omega) (.int .i64 seq)
  replace R0 := R0.set (g := w.heap.size + 1 + 1) (i := 3) (x := .int .i64 seq) (.inl (by omega))
  replace kA := box_other (i := 3) (v := .int .i64 seq) kA (show w.heap.size ≠ w.heap.size + 1 + 1 by omega)
  replace kR := box_other (i := 3) (v := .int .i64 seq) kR (show w.heap.size + 1 ≠ w.heap.size + 1 + 1 by omega)
  replace kO : (World.setCell _ _ _).heap[w.heap.size + 1 + 1]? = some (Obj.cells #[.slice x0 m0 y0, .int .i64 valid, .int .i64 next, .int .i64 seq, .slice none 0 0, .slice none 0 0, .int .i64 0] 66) := box_set (i := 3) (v := .int .i64 seq) kO
  refine (toMailS_r _ mails _ (H0.out _ X).2.1 hs.2.1).mono ?_
  rintro e w2 ⟨u1, rfl, R1, B⟩
  obtain ⟨x1, m1, y1, rfl⟩ := R1.form3
  simp only [box_size] at R1
  have s2 : w1.heap.size ≤ w2.heap.size := by have := B.size; simpa only [box_size] using this
  replace X := Below.step X B
  replace R0 := R0.below B
  replace kA := box_below B kA
  replace kR := box_below B kR
  replace kO := box_below B kO
  clear B
  obtain ⟨-, -, -, -, -, f5, -⟩ := bx7 kA
  obtain ⟨oz, ol⟩ := box8z kO
  obtain ⟨o0, o1, o2, o3, o4, o5, o6⟩ := bx7 kO
  go_wp2_with fail
  clear f5 oz ol o0 o1 o2 o3 o4 o5 o6
  replace X := X.setCell (p := ⟨w.heap.size + 1 + 1, 4, none⟩) (by simp; omega) (.slice x1 m1 y1)
  replace R0 := R0.set (g := w.heap.size + 1 + 1) (i := 4) (x := .slice x1 m1 y1) (.inl (by omega))
  replace R1 := R1.set (g := w.heap.size + 1 + 1) (i := 4) (x := .slice x1 m1 y1) (.inl (by omega))
  replace kA := box_other (i := 4) (v := .slice x1 m1 y1) kA (show w.heap.size ≠ w.heap.size + 1 + 1 by omega)
  replace kR := box_other (i := 4) (v := .slice x1 m1 y1) kR (show w.heap.size + 1 ≠ w.heap.size + 1 + 1 by omega)
  replace kO : (World.setCell _ _ _).heap[w.heap.size + 1 + 1]? = some (Obj.cells #[.slice x0 m0 y0, .int .i64 valid, .int .i64 next, .int .i64 seq, .slice x1 m1 y1, .slice none 0 0, .int .i64 0] 66) := box_set (i := 4) (v := .slice x1 m1 y1) kO
  refine (toGoneS_r _ gones _ (H0.out _ X).2.2 hs.2.2).mono ?_
  rintro e w3 ⟨u2, rfl, R2, B⟩
  obtain ⟨x2, m2, y2, rfl⟩ := R2.form3
  simp only [box_size] at R2
  have s3 : w2.heap.size ≤ w3.heap.size := by have := B.size; simpa only [box_size] using this
  replace X := Below.step X B
  replace R0 := R0.below B
  replace R1 := R1.below B
  replace kA := box_below B kA
  replace kR := box_below B kR
  replace kO := box_below B kO
  clear B
  obtain ⟨-, -, -, -, -, -, f6⟩ := bx7 kA
  obtain ⟨oz, ol⟩ := box8z kO
  obtain ⟨o0, o1, o2, o3, o4, o5, o6⟩ := bx7 kO
  obtain ⟨rz, rl⟩ := box8z kR
  obtain ⟨r0, r1, r2, r3, r4, r5, r6⟩ := bx7 kR
  go_wp2
  refine bodyPost_ret (v := .agg #[.slice x0 m0 y0, .int .i64 valid, .int .i64 next, .int .i64 seq, .slice x1 m1 y1, .slice x2 m2 y2, .int .i64 lost]) (by simp [results, Try.results42, go_sem, r0, r1, r2, r3, r4, r5, r6]) rfl ⟨_, rfl, ?_, ?_⟩
  · simp only [box_size]
    exact ⟨_, _, _, _, _, _, _, _, _, rfl, _, _, _, In (w.heap.size + 3) w1.heap.size, In w1.heap.size w2.heap.size, In w2.heap.size w3.heap.size, rfl, Row.ro ((((((((((R0.set (g := w.heap.size + 1 + 1) (i := 5) (x := .slice x2 m2 y2) (.inl (by omega))).set (g := w.heap.size + 1 + 1) (i := 6) (x := .int .i64 lost) (.inl (by omega))).set (g := w.heap.size + 1) (i := 0) (x := .slice x0 m0 y0) (.inl (by omega))).set (g := w.heap.size + 1) (i := 1) (x := .int .i64 valid) (.inl (by omega))).set (g := w.heap.size + 1) (i := 2) (x := .int .i64 next) (.inl (by omega))).set (g := w.heap.size + 1) (i := 3) (x := .int .i64 seq) (.inl (by omega))).set (g := w.heap.size + 1) (i := 4) (x := .slice x1 m1 y1) (.inl (by omega))).set (g := w.heap.size + 1) (i := 5) (x := .slice x2 m2 y2) (.inl (by omega))).set (g := w.heap.size + 1) (i := 6) (x := .int .i64 lost) (.inl (by omega)))), OwR.ow ((((((((((R1.set (g := w.heap.size + 1 + 1) (i := 5) (x := .slice x2 m2 y2) (.inl (by omega))).set (g := w.heap.size + 1 + 1) (i := 6) (x := .int .i64 lost) (.inl (by omega))).set (g := w.heap.size + 1) (i := 0) (x := .slice x0 m0 y0) (.inl (by omega))).set (g := w.heap.size + 1) (i := 1) (x := .int .i64 valid) (.inl (by omega))).set (g := w.heap.size + 1) (i := 2) (x := .int .i64 next) (.inl (by omega))).set (g := w.heap.size + 1) (i := 3) (x := .int .i64 seq) (.inl (by omega))).set (g := w.heap.size + 1) (i := 4) (x := .slice x1 m1 y1) (.inl (by omega))).set (g := w.heap.size + 1) (i := 5) (x := .slice x2 m2 y2) (.inl (by omega))).set (g := w.heap.size + 1) (i := 6) (x := .int .i64 lost) (.inl (by omega)))), OwR.ow ((((((((((R2.set (g := w.heap.size + 1 + 1) (i := 5) (x := .slice x2 m2 y2) (.inl (by omega))).set (g := w.heap.size + 1 + 1) (i := 6) (x := .int .i64 lost) (.inl (by omega))).set (g := w.heap.size + 1) (i := 0) (x := .slice x0 m0 y0) (.inl (by omega))).set (g := w.heap.size + 1) (i := 1) (x := .int .i64 valid) (.inl (by omega))).set (g := w.heap.size + 1) (i := 2) (x := .int .i64 next) (.inl (by omega))).set (g := w.heap.size + 1) (i := 3) (x := .int .i64 seq) (.inl (by omega))).set (g := w.heap.size + 1) (i := 4) (x := .slice x1 m1 y1) (.inl (by omega))).set (g := w.heap.size + 1) (i := 5) (x := .slice x2 m2 y2) (.inl (by omega))).set (g := w.heap.size + 1) (i := 6) (x := .int .i64 lost) (.inl (by omega)))), (in_chain (by omega) (by omega) (by omega) (by omega)).1, (in_chain (B0 := w.heap.size + 3) (by omega) (by omega) (by omega) (by omega)).2.1, (in_chain (B0 := w.heap.size + 3) (T0 := w1.heap.size) (by omega) (by omega) (by omega) (by omega)).2.2, HI.out⟩
  · exact (((((((((X.setCell (p := ⟨w.heap.size + 1 + 1, 5, none⟩) (by simp <;> omega) (.slice x2 m2 y2)).setCell (p := ⟨w.heap.size + 1 + 1, 6, none⟩) (by simp <;> omega) (.int .i64 lost)).setCell (p := ⟨w.heap.size + 1, 0, none⟩) (by simp <;> omega) (.slice x0 m0 y0)).setCell (p := ⟨w.heap.size + 1, 1, none⟩) (by simp <;> omega) (.int .i64 valid)).setCell (p := ⟨w.heap.size + 1, 2, none⟩) (by simp <;> omega) (.int .i64 next)).setCell (p := ⟨w.heap.size + 1, 3, none⟩) (by simp <;> omega) (.int .i64 seq)).setCell (p := ⟨w.heap.size + 1, 4, none⟩) (by simp <;> omega) (.slice x1 m1 y1)).setCell (p := ⟨w.heap.size + 1, 5, none⟩) (by simp <;> omega) (.slice x2 m2 y2)).setCell (p := ⟨w.heap.size + 1, 6, none⟩) (by simp <;> omega) (.int .i64 lost))

theorem infoBox : (Try.prog.info? 66).map (fun i => (i.zero, i.size, i.bytes)) = some (some (.agg #[.slice none 0 0, .int .i64 0, .int .i64 0, .int .i64 0, .slice none 0 0, .slice none 0 0, .int .i64 0]), 7, 104) := by kernel_rfl

set_option maxRecDepth 100000 in
set_option maxHeartbeats 1000000 in
theorem toBoxS_r (v : Value) (l : List BoxD) (w : World) (hv : BoxesV w v l) (hl : szXs l ≤ 2000000) :
    Calls Try.prog 32 #[v] w fun e w' => ∃ u, e = .returned u ∧ BoxesR w' w.heap.size w'.heap.size u l ∧ Below w.heap.size w w' := by
  have HV : Hid (∀ wi, Below w.heap.size w wi → BoxesV wi v l) := fun wi h => hv.below keepsBox h
  obtain ⟨a, cap, rfl, hlc, hcm⟩ := hv.form
  have hll : l.length ≤ 2000000 := by have := szXs_len l; omega
  clear hv
  obtain ⟨i0, hi, hz0, hz1, hz2⟩ := info_parts infoBox
  go_enter Try.func32, Try.ntmps32
  go_wp2_with (at_make; refine wpList_make_full _ rfl _ _ 34 rfl w.heap.size 66 i0 (.agg #[.slice none 0 0, .int .i64 0, .int .i64 0, .int .i64 0, .slice none 0 0, .slice none 0 0, .int .i64 0]) 7 Try.underlying34 hi hz0 hz1 _ _ _ _ l.length rfl rfl rfl rfl ?b1 ?b2 ?b3 ?_)
  case b1 => rw [hz2]; omega
  case b2 => unfold maxLen; omega
  case b3 => exact Nat.le_refl _
  intro w1 hown hgrow
  have HB : Hid (Below w.heap.size w w1) := (Below.refl w.heap.size w).grown hgrow (Nat.le_refl _) (by simp)
  have HP : Hid (Part 66 7 BoxE w1 w.heap.size l.length 0 l) := by obtain ⟨cur, h1, h2⟩ := made_part hown; exact Part.start h1 h2
  clear hown hgrow hi hz0 hz1 hz2
  go_wp2
  go_loopw [4] (fun i wr => ∃ k : Nat, k ≤ l.length ∧ i = .int .i64 k ∧ Hid (Part 66 7 BoxE wr w.heap.size l.length k l) ∧ Hid (Below w.heap.size w wr)) (fun i _ => l.length - (intOf i).toNat)
  case atStart => exact ⟨0, Nat.zero_le _, rfl, HP, HB⟩
  case round =>
    obtain ⟨k, hk, rfl, hP, hB⟩ := hrel
    by_cases hlt : k < l.length
    · obtain ⟨x, hx⟩ : ∃ x, l[k]? = some x := ⟨l[k], List.getElem?_eq_getElem hlt⟩
      obtain ⟨b, off, cap', u0, u1, u2, hv', hlb, d0, d1, d2, d3, d4, d5, d6, hu0, hu1, hu2, i0, i1, i2, i3⟩ := BoxesV.cell (HV.out wr hB.out) k x hx
      simp only [Value.slice.injEq, true_and] at hv'
      obtain ⟨rfl, rfl⟩ := hv'
      obtain ⟨ua, un, uc, rfl⟩ := hu0.form3
      obtain ⟨va, vc, rfl, -⟩ := hu1.form
      obtain ⟨wa, wc, rfl, -⟩ := hu2.form
      go_wp2_with fail
      refine (toBox_o _ x _ ⟨_, _, _, rfl, hu0, hu1, hu2, i0, i1, i2, i3⟩ (by have := szXs_mem (List.mem_of_getElem? hx); omega)).mono ?_
      rintro e w2 ⟨_, rfl, ⟨ya, yn, yc, za, zn, zc, ta, tn, tc, rfl, he⟩, B⟩
      clear d0 d1 d2 d3 d4 d5 d6
      have hs2 := B.size
      have HS : Hid (Part 66 7 BoxE (put w2 w.heap.size (k * 7) [.slice ya yn yc, .int .i64 x.valid, .int .i64 x.next, .int .i64 x.seq, .slice za zn zc, .slice ta tn tc, .int .i64 x.lost]) w.heap.size l.length (k + 1) l) := Part.step framesBox hP.out B x hx hlt _ rfl he
      have HB2 : Hid (Below w.heap.size w w2) := Below.step hB.out B
      have hgl := hP.out.lt
      have hgl2 : w.heap.size < w2.heap.size := by omega
      obtain ⟨q0, t0⟩ := (show ∃ u, w2.cell? ⟨w.heap.size, k * 7, none⟩ = some u from by obtain ⟨⟨u, hu⟩, -⟩ := hP.out.cell (k * 7) (by omega); exact ⟨u, (B.cell (p := ⟨w.heap.size, k * 7, none⟩) hgl).trans hu⟩)
      obtain ⟨q1, t1⟩ := (show ∃ u, w2.cell? ⟨w.heap.size, k * 7 + 1, none⟩ = some u from by obtain ⟨⟨u, hu⟩, -⟩ := hP.out.cell (k * 7 + 1) (by omega); exact ⟨u, (B.cell (p := ⟨w.heap.size, k * 7 + 1, none⟩) hgl).trans hu⟩)
      obtain ⟨q2, t2⟩ := (show ∃ u, w2.cell? ⟨w.heap.size, k * 7 + 2, none⟩ = some u from by obtain ⟨⟨u, hu⟩, -⟩ := hP.out.cell (k * 7 + 2) (by omega); exact ⟨u, (B.cell (p := ⟨w.heap.size, k * 7 + 2, none⟩) hgl).trans hu⟩)
      obtain ⟨q3, t3⟩ := (show ∃ u, w2.cell? ⟨w.heap.size, k * 7 + 3, none⟩ = some u from by obtain ⟨⟨u, hu⟩, -⟩ := hP.out.cell (k * 7 + 3) (by omega); exact ⟨u, (B.cell (p := ⟨w.heap.size, k * 7 + 3, none⟩) hgl).trans hu⟩)
      obtain ⟨q4, t4⟩ := (show ∃ u, w2.cell? ⟨w.heap.size, k * 7 + 4, none⟩ = some u from by obtain ⟨⟨u, hu⟩, -⟩ := hP.out.cell (k * 7 + 4) (by omega); exact ⟨u, (B.cell (p := ⟨w.heap.size, k * 7 + 4, none⟩) hgl).trans hu⟩)
      obtain ⟨q5, t5⟩ := (show ∃ u, w2.cell? ⟨w.heap.size, k * 7 + 5, none⟩ = some u from by obtain ⟨⟨u, hu⟩, -⟩ := hP.out.cell (k * 7 + 5) (by omega); exact ⟨u, (B.cell (p := ⟨w.heap.size, k * 7 + 5, none⟩) hgl).trans hu⟩)
      obtain ⟨q6, t6⟩ := (show ∃ u, w2.cell? ⟨w.heap.size, k * 7 + 6, none⟩ = some u from by obtain ⟨⟨u, hu⟩, -⟩ := hP.out.cell (k * 7 + 6) (by omega); exact ⟨u, (B.cell (p := ⟨w.heap.size, k * 7 + 6, none⟩) hgl).trans hu⟩)
      have fz : ∀ i, w2.frozen? ⟨w.heap.size, i, none⟩ = false := by
        intro i
        obtain ⟨cur, cs, fs, hh, -⟩ := hP.out
        exact frozen_of_row w2 w.heap.size i cur 66 (box_below B hh)
      clear hP hB B he
      go_wp2
      go_roundw
      case rel => exact ⟨k + 1, by omega, by go_num, HS, put_below HB2.out (Nat.le_refl _) (k * 7) [.slice ya yn yc, .int .i64 x.valid, .int .i64 x.next, .int .i64 x.seq, .slice za zn zc, .slice ta tn tc, .int .i64 x.lost]⟩
      case measure => simp [intOf]; omega
    · obtain rfl : k = l.length := by omega
      go_wp2
      go_ret
      exact ⟨_, rfl, Part.done hP.out rfl (by unfold maxLen; omega) (Nat.le_refl _), hB.out⟩

end Go.Proofs.Ytkdejfcdmjkndaa

/- What toIntS, toAccount of package laws do. -/
namespace Go.Proofs.Ytkdejfcdmjkndaa
open Go.RowKit
set_option maxRecDepth 100000
set_option linter.unusedVariables false

theorem infoInt : (Try.prog.info? 3).map (fun i => (i.zero, i.size, i.bytes)) = some (some (.int .i64 0), 1, 8) := by kernel_rfl

set_option maxRecDepth 100000 in
set_option maxHeartbeats 1000000 in
theorem toIntS_r (v : Value) (l : List Int) (w : World) (hv : IntsV w v l) (hll : l.length ≤ 2000000) :
    Calls Try.prog 33 #[v] w fun e w' => ∃ u, e = .returned u ∧ IntsR w' w.heap.size w'.heap.size u l ∧ Below w.heap.size w w' := by
  have HV : Hid (∀ wi, Below w.heap.size w wi → IntsV wi v l) := fun wi h => hv.below keepsInt h
  obtain ⟨a, cap, rfl, hlc, hcm⟩ := hv.form
  clear hv
  obtain ⟨i0, hi, hz0, hz1, hz2⟩ := info_parts infoInt
  go_enter Try.func33, Try.ntmps33
  go_wp2_with (at_make; refine wpList_make_full _ rfl _ _ 26 rfl w.heap.size 3 i0 (.int .i64 0) 1 Try.underlying26 hi hz0 hz1 _ _ _ _ l.length rfl rfl rfl rfl ?b1 ?b2 ?b3 ?_)
  case b1 => rw [hz2]; omega
  case b2 => unfold maxLen; omega
  case b3 => exact Nat.le_refl _
  intro w1 hown hgrow
  have HB : Hid (Below w.heap.size w w1) := (Below.refl w.heap.size w).grown hgrow (Nat.le_refl _) (by simp)
  have HP : Hid (Part 3 1 IntE w1 w.heap.size l.length 0 l) := by obtain ⟨cur, h1, h2⟩ := made_part hown; exact Part.start h1 h2
  clear hown hgrow hi hz0 hz1 hz2
  go_wp2
  go_loopw [4] (fun i wr => ∃ k : Nat, k ≤ l.length ∧ i = .int .i64 k ∧ Hid (Part 3 1 IntE wr w.heap.size l.length k l) ∧ Hid (Below w.heap.size w wr)) (fun i _ => l.length - (intOf i).toNat)
  case atStart => exact ⟨0, Nat.zero_le _, rfl, HP, HB⟩
  case round =>
    obtain ⟨k, hk, rfl, hP, hB⟩ := hrel
    by_cases hlt : k < l.length
    · obtain ⟨x, hx⟩ : ∃ x, l[k]? = some x := ⟨l[k], List.getElem?_eq_getElem hlt⟩
      obtain ⟨b, off, cap', hv', hlb, d0, i0⟩ := IntsV.cell (HV.out wr hB.out) k x hx
      simp only [Value.slice.injEq, true_and] at hv'
      obtain ⟨rfl, rfl⟩ := hv'
      have HS : Hid (Part 3 1 IntE (put wr w.heap.size k [.int .i64 x]) w.heap.size l.length (k + 1) l) := by
        have := Part.step framesInt hP.out (Below.refl _ _) x hx hlt [.int .i64 x] rfl ⟨rfl, i0⟩
        rwa [Nat.mul_one] at this
      have hgl := hP.out.lt
      obtain ⟨⟨q0, t0⟩, z0⟩ := hP.out.cell k (by omega)
      clear hP
      go_wp2
      go_roundw
      case rel => exact ⟨k + 1, by omega, by go_num, HS, put_below hB.out (Nat.le_refl _) k [.int .i64 x]⟩
      case measure => simp [intOf]; omega
    · obtain rfl : k = l.length := by omega
      go_wp2
      go_ret
      exact ⟨_, rfl, Part.done hP.out rfl (by unfold maxLen; omega) (Nat.le_refl _), hB.out⟩

set_option maxRecDepth 100000 in
set_option maxHeartbeats 1000000 in
theorem toAccount_o (v : Value) (x : AccD) (w : World) (hv : AccV w v x) (h0 : szXs x.boxes ≤ 2000000) (h1 : x.seen.length ≤ 2000000) :
    Calls Try.prog 17 #[v] w fun e w' => ∃ u, e = .returned u ∧ AccO w' (In w.heap.size w'.heap.size) u x ∧ Below w.heap.size w w' := by
  obtain ⟨u0, u1, rfl, g0, g1, i0⟩ := hv
  obtain ⟨valid, boxes, seen⟩ := x
  simp only at g0 g1 i0 h0 h1
  have H0 : Hid (∀ wi, Below w.heap.size w wi → BoxesV wi u0 boxes ∧ IntsV wi u1 seen) := fun wi h => ⟨g0.below keepsBox h, g1.below keepsInt h⟩
  obtain ⟨a0, c0, rfl, -⟩ := g0.form
  obtain ⟨a1, c1, rfl, -⟩ := g1.form
  have HI : Hid (I64 valid) := i0
  clear g0 g1 i0
  simp only
  go_enter Try.func17, Try.ntmps17
  go_wp2_with fail
  refine (toBoxS_r _ boxes _ (H0.out _ (box3_below w _ _ _)).1 h0).mono ?_
  rintro e w1 ⟨u0, rfl, R0, B⟩
  obtain ⟨x0, m0, y0, rfl⟩ := R0.form3
  have b3 := box3 w (.cells #[.int .i64 valid, .slice a0 boxes.length c0, .slice a1 seen.length c1] 28) (.cells #[.int .i64 0, .slice none 0 0, .slice none 0 0] 36) (.cells #[.int .i64 valid, .slice none 0 0, .slice none 0 0] 36)
  have kA := box_below B b3.1
  have kR := box_below B b3.2.1
  have kO := box_below B b3.2.2
  have s1 : w.heap.size + 3 ≤ w1.heap.size := by have := B.size; simp at this; omega
  have X := Below.step (box3_below w _ _ _) B
  replace R0 := R0.wide (B' := w.heap.size + 3) (T' := w1.heap.size) (by simp) (Nat.le_refl _)
  clear b3 B
  obtain ⟨-, -, f2⟩ := bx3 kA
  obtain ⟨oz, ol⟩ := box8z kO
  obtain ⟨o0, o1, o2⟩ := bx3 kO
  go_wp2_with fail
  clear f2 oz ol o0 o1 o2
  replace X := X.setCell (p := ⟨w.heap.size + 1 + 1, 1, none⟩) (by simp; omega) (.slice x0 m0 y0)
  replace R0 := R0.set (g := w.heap.size + 1 + 1) (i := 1) (x := .slice x0 m0 y0) (.inl (by omega))
  replace kA := box_other (i := 1) (v := .slice x0 m0 y0) kA (show w.heap.size ≠ w.heap.size + 1 + 1 by omega)
  replace kR := box_other (i := 1) (v := .slice x0 m0 y0) kR (show w.heap.size + 1 ≠ w.heap.size + 1 + 1 by omega)
  replace kO : (World.setCell _ _ _).heap[w.heap.size + 1 + 1]? = some (Obj.cells #[.int .i64 valid, .slice x0 m0 y0, .slice none 0 0] 36) := box_set (i := 1) (v := .slice x0 m0 y0) kO
  refine (toIntS_r _ seen _ (H0.out _ X).2 h1).mono ?_
  rintro e w2 ⟨u1, rfl, R1, B⟩
  obtain ⟨x1, m1, y1, rfl⟩ := R1.form3
  simp only [box_size] at R1
  have s2 : w1.heap.size ≤ w2.heap.size := by have := B.size; simpa only [box_size] using this
  replace X := Below.step X B
  replace R0 := R0.below B
  replace kA := box_below B kA
  replace kR := box_below B kR
  replace kO := box_below B kO
  clear B
  obtain ⟨-, -, -⟩ := bx3 kA
  obtain ⟨oz, ol⟩ := box8z kO
  obtain ⟨o0, o1, o2⟩ := bx3 kO
  obtain ⟨rz, rl⟩ := box8z kR
  obtain ⟨r0, r1, r2⟩ := bx3 kR
  go_wp2
  refine bodyPost_ret (v := .agg #[.int .i64 valid, .slice x0 m0 y0, .slice x1 m1 y1]) (by simp [results, Try.results17, go_sem, r0, r1, r2]) rfl ⟨_, rfl, ?_, ?_⟩
  · simp only [box_size]
    exact ⟨_, _, In (w.heap.size + 3) w1.heap.size, In w1.heap.size w2.heap.size, rfl, OwR.ow (((((R0.set (g := w.heap.size + 1 + 1) (i := 2) (x := .slice x1 m1 y1) (.inl (by omega))).set (g := w.heap.size + 1) (i := 0) (x := .int .i64 valid) (.inl (by omega))).set (g := w.heap.size + 1) (i := 1) (x := .slice x0 m0 y0) (.inl (by omega))).set (g := w.heap.size + 1) (i := 2) (x := .slice x1 m1 y1) (.inl (by omega)))), OwR.ow (((((R1.set (g := w.heap.size + 1 + 1) (i := 2) (x := .slice x1 m1 y1) (.inl (by omega))).set (g := w.heap.size + 1) (i := 0) (x := .int .i64 valid) (.inl (by omega))).set (g := w.heap.size + 1) (i := 1) (x := .slice x0 m0 y0) (.inl (by omega))).set (g := w.heap.size + 1) (i := 2) (x := .slice x1 m1 y1) (.inl (by omega)))), fun x h => ⟨⟨Nat.le_trans (by omega) h.1, Nat.lt_of_lt_of_le h.2 (by omega)⟩, fun h' => Nat.not_le_of_lt h.2 h'.1⟩, fun x h => ⟨Nat.le_trans (by omega) h.1, h.2⟩, HI.out⟩
  · exact ((((X.setCell (p := ⟨w.heap.size + 1 + 1, 2, none⟩) (by simp <;> omega) (.slice x1 m1 y1)).setCell (p := ⟨w.heap.size + 1, 0, none⟩) (by simp <;> omega) (.int .i64 valid)).setCell (p := ⟨w.heap.size + 1, 1, none⟩) (by simp <;> omega) (.slice x0 m0 y0)).setCell (p := ⟨w.heap.size + 1, 2, none⟩) (by simp <;> omega) (.slice x1 m1 y1))

end Go.Proofs.Ytkdejfcdmjkndaa

/- What szMail, szMailS, szGoneS, szBox of package laws do. -/
namespace Go.Proofs.Ytkdejfcdmjkndaa
open Go.RowKit
set_option maxRecDepth 100000
set_option linter.unusedVariables false

def tot {α : Type} (f : α → Nat) (l : List α) : Nat := (l.map f).sum
theorem tot_succ {α : Type} (f : α → Nat) {l : List α} {k : Nat} {x : α} (hx : l[k]? = some x) : tot f (l.take (k + 1)) = tot f (l.take k) + f x := by
  obtain ⟨h, rfl⟩ := List.getElem?_eq_some_iff.1 hx
  unfold tot
  rw [List.take_succ_eq_append_getElem h, List.map_append, List.sum_append]
  simp
theorem szM_tot (l : List MailD) : szM l = tot (fun m => m.text.length) l + l.length := by
  induction l with
  | nil => rfl
  | cons x l ih => simp only [szM, tot, List.map_cons, List.sum_cons, List.length_cons] at ih ⊢; omega
theorem szXs_tot (l : List BoxD) : szXs l = tot szX l + l.length := by
  induction l with
  | nil => rfl
  | cons x l ih => simp only [szXs, tot, List.map_cons, List.sum_cons, List.length_cons] at ih ⊢; omega
theorem szByteS_e (v : Value) (l : List Int) (left : Int) (w : World) (hv : Bs w v l) (h0 : 0 ≤ left) (h1 : left ≤ 4000000) :
    Calls Try.prog 24 #[v, .int .i64 left] w fun e w' => ∃ y : Int, e = .returned (.int .i64 y) ∧ (y = -1 ∨ (0 ≤ y ∧ y + l.length = left)) ∧ Below w.heap.size w w' :=
  (szByteS_any v l left w hv h0 h1).mono fun _ _ ⟨h, hw⟩ => ⟨_, h, szL_or left l.length, by rw [hw]; exact Below.refl _ _⟩

set_option maxRecDepth 100000 in
set_option maxHeartbeats 1000000 in
theorem szMail_any (v : Value) (x : MailD) (left : Int) (w : World) (hv : MailV w v x) (h0 : 0 ≤ left) (h1 : left ≤ 4000000) :
    Calls Try.prog 64 #[v, .int .i64 left] w fun e w' => ∃ y : Int, e = .returned (.int .i64 y) ∧ (y = -1 ∨ (0 ≤ y ∧ y + x.text.length = left)) ∧ Below w.heap.size w w' := by
  obtain ⟨u, rfl, g0, -⟩ := hv
  obtain ⟨uid, flags, seq, text⟩ := x
  simp only at g0
  have H0 : Hid (∀ wi, Below w.heap.size w wi → Bs wi u text) := fun wi h => g0.below h
  obtain ⟨a0, n0, c0, rfl⟩ := g0.form3
  clear g0
  simp only
  have X : Below w.heap.size w (w.alloc (.cells #[.int .i64 uid, .int .i64 flags, .int .i64 seq, .slice a0 n0 c0] 103)) := (Below.refl _ _).alloc (Nat.le_refl _) _
  have kA := box_new w (.cells #[.int .i64 uid, .int .i64 flags, .int .i64 seq, .slice a0 n0 c0] 103)
  go_enter Try.func64, Try.ntmps64
  go_wp2_with fail
  refine (szByteS_e _ text left _ (H0.out _ X) h0 h1).mono ?_
  rintro e w1 ⟨y0, rfl, hy, B⟩
  replace X := Below.step X B
  replace kA := box_below B kA
  clear B
  obtain ⟨f0, f1, f2, f3⟩ := bx4 kA
  rcases hy with rfl | ⟨q0, p0⟩
  · go_wp2
    go_ret
    exact ⟨-1, rfl, .inl rfl, X⟩
  go_wp2
  go_ret
  exact ⟨y0, rfl, .inr ⟨q0, by omega⟩, X⟩

set_option maxRecDepth 100000 in
set_option maxHeartbeats 1000000 in
theorem szMailS_any (v : Value) (l : List MailD) (left : Int) (w : World) (hv : MailsV w v l) (h0 : 0 ≤ left) (h1 : left ≤ 4000000) :
    Calls Try.prog 52 #[v, .int .i64 left] w fun e w' => ∃ y : Int, e = .returned (.int .i64 y) ∧ (y = -1 ∨ (0 ≤ y ∧ y + szM l = left)) ∧ Below w.heap.size w w' := by
  have HV : Hid (∀ wi, Below w.heap.size w wi → MailsV wi v l) := fun wi h => hv.below keepsMail h
  obtain ⟨a, cap, rfl, hlc, hcm⟩ := hv.form
  clear hv
  by_cases hb : left - (l.length : Int) < 0
  · go_enter Try.func52, Try.ntmps52
    go_wp2
    go_ret
    exact ⟨-1, rfl, .inl rfl, Below.refl _ _⟩
  · go_enter Try.func52, Try.ntmps52
    go_wp2
    go_loopw [1, 5] (fun q i wr => ∃ (k : Nat) (y : Int), k ≤ l.length ∧ i = .int .i64 k ∧ q = .int .i64 y ∧ 0 ≤ y ∧ Hid (y + l.length + tot (fun m => m.text.length) (l.take k) = left) ∧ Hid (Below w.heap.size w wr)) (fun _ i _ => l.length - (intOf i).toNat)
    case atStart => exact ⟨0, left - l.length, Nat.zero_le _, rfl, rfl, by omega, (show Hid _ from by simp [Hid, tot]), Below.refl _ _⟩
    case round =>
      obtain ⟨k, y, hk, rfl, rfl, hy0, hy1, hB⟩ := hrel
      by_cases hlt : k < l.length
      · obtain ⟨x, hx⟩ : ∃ x, l[k]? = some x := ⟨l[k], List.getElem?_eq_getElem hlt⟩
        obtain ⟨b, off, cap', u, hv', hlb, d0, d1, d2, d3, hu, i0, i1, i2⟩ := MailsV.cell (HV.out wr hB.out) k x hx
        simp only [Value.slice.injEq, true_and] at hv'
        obtain ⟨rfl, rfl⟩ := hv'
        obtain ⟨ua, un, uc, rfl⟩ := hu.form3
        have HT : Hid (tot (fun m => m.text.length) (l.take (k + 1)) = tot (fun m => m.text.length) (l.take k) + (fun m => m.text.length) x) := tot_succ _ hx
        go_wp2_with fail
        refine (szMail_any _ x _ _ ⟨_, rfl, hu, i0, i1, i2⟩ hy0 (by have := hy1.out; omega)).mono ?_
        rintro e w2 ⟨y2, rfl, hy2, B⟩
        have HB2 : Hid (Below w.heap.size w w2) := Below.step hB.out B
        clear B hB d0 d1 d2 d3
        rcases hy2 with rfl | ⟨q0, q1⟩
        · go_wp2
          go_ret
          exact ⟨-1, rfl, .inl rfl, HB2.out⟩
        · have HE : Hid (y2 + l.length + tot (fun m => m.text.length) (l.take (k + 1)) = left) := by
            have h1 := HT.out
            have h2 := hy1.out
            simp only [Hid]
            omega
          clear q1
          go_wp2
          go_roundw
          case rel => exact ⟨k + 1, y2, by omega, by go_num, rfl, q0, HE, HB2⟩
          case measure => simp [intOf]; omega
      · obtain rfl : k = l.length := by omega
        go_wp2
        go_ret
        refine ⟨y, rfl, .inr ⟨hy0, ?_⟩, hB.out⟩
        have h2 := hy1.out
        rw [List.take_length] at h2
        have h3 := szM_tot l
        omega

set_option maxRecDepth 100000 in
set_option maxHeartbeats 1000000 in
theorem szGoneS_any (v : Value) (l : List GoneD) (left : Int) (w : World) (hv : GonesV w v l) (h0 : 0 ≤ left) (h1 : left ≤ 4000000) :
    Calls Try.prog 53 #[v, .int .i64 left] w fun e w' => ∃ y : Int, e = .returned (.int .i64 y) ∧ (y = -1 ∨ (0 ≤ y ∧ y + l.length = left)) ∧ Below w.heap.size w w' := by
  obtain ⟨a, cap, rfl, hlc, hcm⟩ := hv.form
  clear hv
  by_cases hb : left - (l.length : Int) < 0
  · go_enter Try.func53, Try.ntmps53
    go_wp2
    go_ret
    exact ⟨-1, rfl, .inl rfl, Below.refl _ _⟩
  · go_enter Try.func53, Try.ntmps53
    go_wp2
    go_ret
    exact ⟨left - l.length, rfl, .inr ⟨by omega, by omega⟩, Below.refl _ _⟩

set_option maxRecDepth 100000 in
set_option maxHeartbeats 1000000 in
theorem szBox_any (v : Value) (x : BoxD) (left : Int) (w : World) (hv : BoxV w v x) (h0 : 0 ≤ left) (h1 : left ≤ 4000000) :
    Calls Try.prog 39 #[v, .int .i64 left] w fun e w' => ∃ y : Int, e = .returned (.int .i64 y) ∧ (y = -1 ∨ (0 ≤ y ∧ y + szX x = left)) ∧ Below w.heap.size w w' := by
  obtain ⟨u0, u1, u2, rfl, g0, g1, g2, -⟩ := hv
  unfold szX
  obtain ⟨name, valid, next, seq, mails, gones, lost⟩ := x
  simp only at g0 g1 g2
  have H0 : Hid (∀ wi, Below w.heap.size w wi → Bs wi u0 name ∧ MailsV wi u1 mails ∧ GonesV wi u2 gones) := fun wi h => ⟨g0.below h, g1.below keepsMail h, g2.below keepsGone h⟩
  obtain ⟨a0, n0, c0, rfl⟩ := g0.form3
  obtain ⟨a1, c1, rfl, -⟩ := g1.form
  obtain ⟨a2, c2, rfl, -⟩ := g2.form
  clear g0 g1 g2
  simp only
  have X : Below w.heap.size w (w.alloc (.cells #[.slice a0 n0 c0, .int .i64 valid, .int .i64 next, .int .i64 seq, .slice a1 mails.length c1, .slice a2 gones.length c2, .int .i64 lost] 77)) := (Below.refl _ _).alloc (Nat.le_refl _) _
  have kA := box_new w (.cells #[.slice a0 n0 c0, .int .i64 valid, .int .i64 next, .int .i64 seq, .slice a1 mails.length c1, .slice a2 gones.length c2, .int .i64 lost] 77)
  go_enter Try.func39, Try.ntmps39
  go_wp2_with fail
  refine (szByteS_e _ name left _ (H0.out _ X).1 h0 h1).mono ?_
  rintro e w1 ⟨y0, rfl, hy, B⟩
  replace X := Below.step X B
  replace kA := box_below B kA
  clear B
  obtain ⟨f0, f1, f2, f3, f4, f5, f6⟩ := bx7 kA
  rcases hy with rfl | ⟨q0, p0⟩
  · go_wp2
    go_ret
    exact ⟨-1, rfl, .inl rfl, X⟩
  go_wp2_with fail
  clear f0 f1 f2 f3 f4 f5 f6
  refine (szMailS_any _ mails y0 _ (H0.out _ X).2.1 q0 (by omega)).mono ?_
  rintro e w2 ⟨y1, rfl, hy, B⟩
  replace X := Below.step X B
  replace kA := box_below B kA
  clear B
  obtain ⟨f0, f1, f2, f3, f4, f5, f6⟩ := bx7 kA
  rcases hy with rfl | ⟨q1, p1⟩
  · go_wp2
    go_ret
    exact ⟨-1, rfl, .inl rfl, X⟩
  go_wp2_with fail
  clear f0 f1 f2 f3 f4 f5 f6
  refine (szGoneS_any _ gones y1 _ (H0.out _ X).2.2 q1 (by omega)).mono ?_
  rintro e w3 ⟨y2, rfl, hy, B⟩
  replace X := Below.step X B
  replace kA := box_below B kA
  clear B
  obtain ⟨f0, f1, f2, f3, f4, f5, f6⟩ := bx7 kA
  rcases hy with rfl | ⟨q2, p2⟩
  · go_wp2
    go_ret
    exact ⟨-1, rfl, .inl rfl, X⟩
  go_wp2
  go_ret
  exact ⟨y2, rfl, .inr ⟨q2, by omega⟩, X⟩

end Go.Proofs.Ytkdejfcdmjkndaa

/- What szBoxS, szIntS, szAccount of package laws do. -/
namespace Go.Proofs.Ytkdejfcdmjkndaa
open Go.RowKit
set_option maxRecDepth 100000
set_option linter.unusedVariables false

set_option maxRecDepth 100000 in
set_option maxHeartbeats 1000000 in
theorem szIntS_any (v : Value) (l : List Int) (left : Int) (w : World) (hv : IntsV w v l) (h0 : 0 ≤ left) (h1 : left ≤ 4000000) :
    Calls Try.prog 26 #[v, .int .i64 left] w fun e w' => ∃ y : Int, e = .returned (.int .i64 y) ∧ (y = -1 ∨ (0 ≤ y ∧ y + l.length = left)) ∧ Below w.heap.size w w' := by
  obtain ⟨a, cap, rfl, hlc, hcm⟩ := hv.form
  clear hv
  by_cases hb : left - (l.length : Int) < 0
  · go_enter Try.func26, Try.ntmps26
    go_wp2
    go_ret
    exact ⟨-1, rfl, .inl rfl, Below.refl _ _⟩
  · go_enter Try.func26, Try.ntmps26
    go_wp2
    go_ret
    exact ⟨left - l.length, rfl, .inr ⟨by omega, by omega⟩, Below.refl _ _⟩

set_option maxRecDepth 100000 in
set_option maxHeartbeats 1000000 in
theorem szBoxS_any (v : Value) (l : List BoxD) (left : Int) (w : World) (hv : BoxesV w v l) (h0 : 0 ≤ left) (h1 : left ≤ 4000000) :
    Calls Try.prog 25 #[v, .int .i64 left] w fun e w' => ∃ y : Int, e = .returned (.int .i64 y) ∧ (y = -1 ∨ (0 ≤ y ∧ y + szXs l = left)) ∧ Below w.heap.size w w' := by
  have HV : Hid (∀ wi, Below w.heap.size w wi → BoxesV wi v l) := fun wi h => hv.below keepsBox h
  obtain ⟨a, cap, rfl, hlc, hcm⟩ := hv.form
  clear hv
  by_cases hb : left - (l.length : Int) < 0
  · go_enter Try.func25, Try.ntmps25
    go_wp2
    go_ret
    exact ⟨-1, rfl, .inl rfl, Below.refl _ _⟩
  · go_enter Try.func25, Try.ntmps25
    go_wp2
    go_loopw [1, 5] (fun q i wr => ∃ (k : Nat) (y : Int), k ≤ l.length ∧ i = .int .i64 k ∧ q = .int .i64 y ∧ 0 ≤ y ∧ Hid (y + l.length + tot (szX) (l.take k) = left) ∧ Hid (Below w.heap.size w wr)) (fun _ i _ => l.length - (intOf i).toNat)
    case atStart => exact ⟨0, left - l.length, Nat.zero_le _, rfl, rfl, by omega, (show Hid _ from by simp [Hid, tot]), Below.refl _ _⟩
    case round =>
      obtain ⟨k, y, hk, rfl, rfl, hy0, hy1, hB⟩ := hrel
      by_cases hlt : k < l.length
      · obtain ⟨x, hx⟩ : ∃ x, l[k]? = some x := ⟨l[k], List.getElem?_eq_getElem hlt⟩
        obtain ⟨b, off, cap', u0, u1, u2, hv', hlb, d0, d1, d2, d3, d4, d5, d6, hu0, hu1, hu2, i0, i1, i2, i3⟩ := BoxesV.cell (HV.out wr hB.out) k x hx
        simp only [Value.slice.injEq, true_and] at hv'
        obtain ⟨rfl, rfl⟩ := hv'
        obtain ⟨ua, un, uc, rfl⟩ := hu0.form3
        obtain ⟨va, vc, rfl, -⟩ := hu1.form
        obtain ⟨wa, wc, rfl, -⟩ := hu2.form
        have HT : Hid (tot (szX) (l.take (k + 1)) = tot (szX) (l.take k) + (szX) x) := tot_succ _ hx
        go_wp2_with fail
        refine (szBox_any _ x _ _ ⟨_, _, _, rfl, hu0, hu1, hu2, i0, i1, i2, i3⟩ hy0 (by have := hy1.out; omega)).mono ?_
        rintro e w2 ⟨y2, rfl, hy2, B⟩
        have HB2 : Hid (Below w.heap.size w w2) := Below.step hB.out B
        clear B hB d0 d1 d2 d3 d4 d5 d6
        rcases hy2 with rfl | ⟨q0, q1⟩
        · go_wp2
          go_ret
          exact ⟨-1, rfl, .inl rfl, HB2.out⟩
        · have HE : Hid (y2 + l.length + tot (szX) (l.take (k + 1)) = left) := by
            have h1 := HT.out
            have h2 := hy1.out
            simp only [Hid]
            omega
          clear q1
          go_wp2
          go_roundw
          case rel => exact ⟨k + 1, y2, by omega, by go_num, rfl, q0, HE, HB2⟩
          case measure => simp [intOf]; omega
      · obtain rfl : k = l.length := by omega
        go_wp2
        go_ret
        refine ⟨y, rfl, .inr ⟨hy0, ?_⟩, hB.out⟩
        have h2 := hy1.out
        rw [List.take_length] at h2
        have h3 := szXs_tot l
        omega

set_option maxRecDepth 100000 in
set_option maxHeartbeats 1000000 in
theorem szAccount_any (v : Value) (x : AccD) (left : Int) (w : World) (hv : AccV w v x) (h0 : 0 ≤ left) (h1 : left ≤ 4000000) :
    Calls Try.prog 10 #[v, .int .i64 left] w fun e w' => ∃ y : Int, e = .returned (.int .i64 y) ∧ (y = -1 ∨ (0 ≤ y ∧ y + (szXs x.boxes + x.seen.length : Nat) = left)) ∧ Below w.heap.size w w' := by
  obtain ⟨u0, u1, rfl, g0, g1, -⟩ := hv
  obtain ⟨valid, boxes, seen⟩ := x
  simp only at g0 g1
  have H0 : Hid (∀ wi, Below w.heap.size w wi → BoxesV wi u0 boxes ∧ IntsV wi u1 seen) := fun wi h => ⟨g0.below keepsBox h, g1.below keepsInt h⟩
  obtain ⟨a0, c0, rfl, -⟩ := g0.form
  obtain ⟨a1, c1, rfl, -⟩ := g1.form
  clear g0 g1
  simp only
  have X : Below w.heap.size w (w.alloc (.cells #[.int .i64 valid, .slice a0 boxes.length c0, .slice a1 seen.length c1] 28)) := (Below.refl _ _).alloc (Nat.le_refl _) _
  have kA := box_new w (.cells #[.int .i64 valid, .slice a0 boxes.length c0, .slice a1 seen.length c1] 28)
  go_enter Try.func10, Try.ntmps10
  go_wp2_with fail
  refine (szBoxS_any _ boxes left _ (H0.out _ X).1 h0 h1).mono ?_
  rintro e w1 ⟨y0, rfl, hy, B⟩
  replace X := Below.step X B
  replace kA := box_below B kA
  clear B
  obtain ⟨f0, f1, f2⟩ := bx3 kA
  rcases hy with rfl | ⟨q0, p0⟩
  · go_wp2
    go_ret
    exact ⟨-1, rfl, .inl rfl, X⟩
  go_wp2_with fail
  clear f0 f1 f2
  refine (szIntS_any _ seen y0 _ (H0.out _ X).2 q0 (by omega)).mono ?_
  rintro e w2 ⟨y1, rfl, hy, B⟩
  replace X := Below.step X B
  replace kA := box_below B kA
  clear B
  obtain ⟨f0, f1, f2⟩ := bx3 kA
  rcases hy with rfl | ⟨q1, p1⟩
  · go_wp2
    go_ret
    exact ⟨-1, rfl, .inl rfl, X⟩
  go_wp2
  go_ret
  exact ⟨y1, rfl, .inr ⟨q1, by omega⟩, X⟩

end Go.Proofs.Ytkdejfcdmjkndaa

/- What eqMail, eqMailS, eqGone, eqGoneS, eqBox of package laws do. -/
namespace Go.Proofs.Ytkdejfcdmjkndaa
open Go.RowKit
set_option maxRecDepth 100000
set_option linter.unusedVariables false

set_option maxRecDepth 100000 in
set_option maxHeartbeats 1000000 in
theorem eqMail_yes (v u : Value) (x : MailD) (w : World) (hv : MailV w v x) (hu : MailV w u x) :
    Calls Try.prog 73 #[v, u] w fun e w' => e = .returned (.bool true) ∧ Below w.heap.size w w' := by
  obtain ⟨u0, rfl, g0, -⟩ := hv
  obtain ⟨u1, rfl, g1, -⟩ := hu
  obtain ⟨uid, flags, seq, text⟩ := x
  simp only at g0 g1
  have H0 : Hid (∀ wi, Below w.heap.size w wi → Bs wi u0 text ∧ Bs wi u1 text) := fun wi h => ⟨g0.below h, g1.below h⟩
  obtain ⟨a0, n0, c0, rfl⟩ := g0.form3
  obtain ⟨a1, n1, c1, rfl⟩ := g1.form3
  clear g0 g1
  simp only
  obtain ⟨kA, kB, X⟩ := boxes2 w (.cells #[.int .i64 uid, .int .i64 flags, .int .i64 seq, .slice a0 n0 c0] 79) (.cells #[.int .i64 uid, .int .i64 flags, .int .i64 seq, .slice a1 n1 c1] 79)
  go_enter Try.func73, Try.ntmps73
  go_wp2_with fail
  refine (eqByteS_yes _ _ text _ (H0.out _ X).1 (H0.out _ X).2).mono ?_
  rintro e w1 ⟨rfl, B⟩
  replace X := Below.step X B
  replace kA := box_below B kA
  replace kB := box_below B kB
  clear B
  obtain ⟨f0, f1, f2, f3⟩ := bx4 kA
  obtain ⟨e0, e1, e2, e3⟩ := bx4 kB
  go_wp2
  go_ret
  exact ⟨rfl, X⟩

set_option maxRecDepth 100000 in
set_option maxHeartbeats 1000000 in
theorem eqMailS_yes (v u : Value) (l : List MailD) (w : World) (hv : MailsV w v l) (hu : MailsV w u l) :
    Calls Try.prog 62 #[v, u] w fun e w' => e = .returned (.bool true) ∧ Below w.heap.size w w' := by
  have HV : Hid (∀ wi, Below w.heap.size w wi → MailsV wi v l ∧ MailsV wi u l) := fun wi h => ⟨hv.below keepsMail h, hu.below keepsMail h⟩
  obtain ⟨a, cap, rfl, hlc, hcm⟩ := hv.form
  obtain ⟨a2, cap2, rfl, hlc2, hcm2⟩ := hu.form
  clear hv hu
  go_enter Try.func62, Try.ntmps62
  go_wp2
  go_loopw [5] (fun i wr => ∃ k : Nat, k ≤ l.length ∧ i = .int .i64 k ∧ Hid (Below w.heap.size w wr)) (fun i _ => l.length - (intOf i).toNat)
  case atStart => exact ⟨0, Nat.zero_le _, rfl, Below.refl _ _⟩
  case round =>
    obtain ⟨k, hk, rfl, hB⟩ := hrel
    by_cases hlt : k < l.length
    · obtain ⟨x, hx⟩ : ∃ x, l[k]? = some x := ⟨l[k], List.getElem?_eq_getElem hlt⟩
      have DR : Below wr.heap.size wr wr.drew := (Below.refl _ _).drew
      obtain ⟨b, off, cap', u, hv', hlb, d0, d1, d2, d3, hu, i0, i1, i2⟩ := MailsV.cell (HV.out wr hB.out).1 k x hx
      obtain ⟨b2, off2, cap2', u2, hv2, hlb2, z0, z1, z2, z3, hu2, j0, j1, j2⟩ := MailsV.cell (HV.out wr hB.out).2 k x hx
      simp only [Value.slice.injEq, true_and] at hv' hv2
      obtain ⟨rfl, rfl⟩ := hv'
      obtain ⟨rfl, rfl⟩ := hv2
      obtain ⟨ua, un, uc, rfl⟩ := hu.form3
      obtain ⟨ta, tn, tc, rfl⟩ := hu2.form3
      have HA : Hid (MailV wr.drew (.agg #[.int .i64 x.uid, .int .i64 x.flags, .int .i64 x.seq, .slice ua un uc]) x ∧ MailV wr.drew (.agg #[.int .i64 x.uid, .int .i64 x.flags, .int .i64 x.seq, .slice ta tn tc]) x) := ⟨⟨_, rfl, hu.below DR, i0, i1, i2⟩, ⟨_, rfl, hu2.below DR, j0, j1, j2⟩⟩
      go_wp2
      go_region_held3 (fun w' => w'.cell? ⟨b, off + k * 4, none⟩ = some (.int .i64 x.uid) ∧ w'.cell? ⟨b, off + k * 4 + 1, none⟩ = some (.int .i64 x.flags) ∧ w'.cell? ⟨b, off + k * 4 + 2, none⟩ = some (.int .i64 x.seq) ∧ w'.cell? ⟨b, off + k * 4 + 3, none⟩ = some (.slice ua un uc) ∧ w'.cell? ⟨b2, off2 + k * 4, none⟩ = some (.int .i64 x.uid) ∧ w'.cell? ⟨b2, off2 + k * 4 + 1, none⟩ = some (.int .i64 x.flags) ∧ w'.cell? ⟨b2, off2 + k * 4 + 2, none⟩ = some (.int .i64 x.seq) ∧ w'.cell? ⟨b2, off2 + k * 4 + 3, none⟩ = some (.slice ta tn tc))
        (first | go_keep | exact ⟨d0, d1, d2, d3, z0, z1, z2, z3⟩ | exact ⟨(B.cell (p := ⟨_, _, none⟩) (by exact hlb)).trans d0, (B.cell (p := ⟨_, _, none⟩) (by exact hlb)).trans d1, (B.cell (p := ⟨_, _, none⟩) (by exact hlb)).trans d2, (B.cell (p := ⟨_, _, none⟩) (by exact hlb)).trans d3, (B.cell (p := ⟨_, _, none⟩) (by exact hlb2)).trans z0, (B.cell (p := ⟨_, _, none⟩) (by exact hlb2)).trans z1, (B.cell (p := ⟨_, _, none⟩) (by exact hlb2)).trans z2, (B.cell (p := ⟨_, _, none⟩) (by exact hlb2)).trans z3⟩)
        ((go_at_call 73; refine (eqMail_yes _ _ x _ HA.out.1 HA.out.2).mono ?_; rintro e w1 ⟨rfl, B⟩))
      have HB2 : Hid (Below w.heap.size w w1) := Below.step (Below.step hB.out DR) B
      clear d0 d1 d2 d3 z0 z1 z2 z3 B hB
      go_wp2
      go_roundw
      case rel => exact ⟨k + 1, by omega, by go_num, HB2⟩
      case measure => simp [intOf]; omega
    · go_wp2
      go_ret
      exact ⟨rfl, hB.out⟩

set_option maxRecDepth 100000 in
set_option maxHeartbeats 1000000 in
theorem eqGone_yes (v u : Value) (x : GoneD) (w : World) (hv : v = .agg #[.int .i64 x.uid, .int .i64 x.seq]) (hu : u = .agg #[.int .i64 x.uid, .int .i64 x.seq]) :
    Calls Try.prog 74 #[v, u] w fun e w' => e = .returned (.bool true) ∧ Below w.heap.size w w' := by
  subst hv
  subst hu
  obtain ⟨uid, seq⟩ := x
  simp only
  obtain ⟨kA, kB, X⟩ := boxes2 w (.cells #[.int .i64 uid, .int .i64 seq] 81) (.cells #[.int .i64 uid, .int .i64 seq] 81)
  go_enter Try.func74, Try.ntmps74
  go_wp2
  go_ret
  exact ⟨rfl, X⟩

set_option maxRecDepth 100000 in
set_option maxHeartbeats 1000000 in
theorem eqGoneS_yes (v u : Value) (l : List GoneD) (w : World) (hv : GonesV w v l) (hu : GonesV w u l) :
    Calls Try.prog 63 #[v, u] w fun e w' => e = .returned (.bool true) ∧ Below w.heap.size w w' := by
  have HV : Hid (∀ wi, Below w.heap.size w wi → GonesV wi v l ∧ GonesV wi u l) := fun wi h => ⟨hv.below keepsGone h, hu.below keepsGone h⟩
  obtain ⟨a, cap, rfl, hlc, hcm⟩ := hv.form
  obtain ⟨a2, cap2, rfl, hlc2, hcm2⟩ := hu.form
  clear hv hu
  go_enter Try.func63, Try.ntmps63
  go_wp2
  go_loopw [5] (fun i wr => ∃ k : Nat, k ≤ l.length ∧ i = .int .i64 k ∧ Hid (Below w.heap.size w wr)) (fun i _ => l.length - (intOf i).toNat)
  case atStart => exact ⟨0, Nat.zero_le _, rfl, Below.refl _ _⟩
  case round =>
    obtain ⟨k, hk, rfl, hB⟩ := hrel
    by_cases hlt : k < l.length
    · obtain ⟨x, hx⟩ : ∃ x, l[k]? = some x := ⟨l[k], List.getElem?_eq_getElem hlt⟩
      have DR : Below wr.heap.size wr wr.drew := (Below.refl _ _).drew
      obtain ⟨b, off, cap', hv', hlb, d0, d1, i0, i1⟩ := GonesV.cell (HV.out wr hB.out).1 k x hx
      obtain ⟨b2, off2, cap2', hv2, hlb2, z0, z1, j0, j1⟩ := GonesV.cell (HV.out wr hB.out).2 k x hx
      simp only [Value.slice.injEq, true_and] at hv' hv2
      obtain ⟨rfl, rfl⟩ := hv'
      obtain ⟨rfl, rfl⟩ := hv2
      have HA : Hid (True) := trivial
      go_wp2
      go_region_held3 (fun w' => w'.cell? ⟨b, off + k * 2, none⟩ = some (.int .i64 x.uid) ∧ w'.cell? ⟨b, off + k * 2 + 1, none⟩ = some (.int .i64 x.seq) ∧ w'.cell? ⟨b2, off2 + k * 2, none⟩ = some (.int .i64 x.uid) ∧ w'.cell? ⟨b2, off2 + k * 2 + 1, none⟩ = some (.int .i64 x.seq))
        (first | go_keep | exact ⟨d0, d1, z0, z1⟩ | exact ⟨(B.cell (p := ⟨_, _, none⟩) (by exact hlb)).trans d0, (B.cell (p := ⟨_, _, none⟩) (by exact hlb)).trans d1, (B.cell (p := ⟨_, _, none⟩) (by exact hlb2)).trans z0, (B.cell (p := ⟨_, _, none⟩) (by exact hlb2)).trans z1⟩)
        ((go_at_call 74; refine (eqGone_yes _ _ x _ rfl rfl).mono ?_; rintro e w1 ⟨rfl, B⟩))
      have HB2 : Hid (Below w.heap.size w w1) := Below.step (Below.step hB.out DR) B
      clear d0 d1 z0 z1 B hB
      go_wp2
      go_roundw
      case rel => exact ⟨k + 1, by omega, by go_num, HB2⟩
      case measure => simp [intOf]; omega
    · go_wp2
      go_ret
      exact ⟨rfl, hB.out⟩

set_option maxRecDepth 100000 in
set_option maxHeartbeats 1000000 in
theorem eqBox_yes (v u : Value) (x : BoxD) (w : World) (hv : BoxV w v x) (hu : BoxV w u x) :
    Calls Try.prog 51 #[v, u] w fun e w' => e = .returned (.bool true) ∧ Below w.heap.size w w' := by
  obtain ⟨u0, u1, u2, rfl, g0, g1, g2, -⟩ := hv
  obtain ⟨u3, u4, u5, rfl, g3, g4, g5, -⟩ := hu
  obtain ⟨name, valid, next, seq, mails, gones, lost⟩ := x
  simp only at g0 g1 g2 g3 g4 g5
  have H0 : Hid (∀ wi, Below w.heap.size w wi → (Bs wi u0 name ∧ Bs wi u3 name) ∧ (MailsV wi u1 mails ∧ MailsV wi u4 mails) ∧ (GonesV wi u2 gones ∧ GonesV wi u5 gones)) := fun wi h => ⟨⟨g0.below h, g3.below h⟩, ⟨g1.below keepsMail h, g4.below keepsMail h⟩, ⟨g2.below keepsGone h, g5.below keepsGone h⟩⟩
  obtain ⟨a0, n0, c0, rfl⟩ := g0.form3
  obtain ⟨a1, c1, rfl, -⟩ := g1.form
  obtain ⟨a2, c2, rfl, -⟩ := g2.form
  obtain ⟨a3, n3, c3, rfl⟩ := g3.form3
  obtain ⟨a4, c4, rfl, -⟩ := g4.form
  obtain ⟨a5, c5, rfl, -⟩ := g5.form
  clear g0 g1 g2 g3 g4 g5
  simp only
  obtain ⟨kA, kB, X⟩ := boxes2 w (.cells #[.slice a0 n0 c0, .int .i64 valid, .int .i64 next, .int .i64 seq, .slice a1 mails.length c1, .slice a2 gones.length c2, .int .i64 lost] 66) (.cells #[.slice a3 n3 c3, .int .i64 valid, .int .i64 next, .int .i64 seq, .slice a4 mails.length c4, .slice a5 gones.length c5, .int .i64 lost] 66)
  go_enter Try.func51, Try.ntmps51
  go_wp2_with fail
  refine (eqByteS_yes _ _ name _ (H0.out _ X).1.1 (H0.out _ X).1.2).mono ?_
  rintro e w1 ⟨rfl, B⟩
  replace X := Below.step X B
  replace kA := box_below B kA
  replace kB := box_below B kB
  clear B
  obtain ⟨f0, f1, f2, f3, f4, f5, f6⟩ := bx7 kA
  obtain ⟨e0, e1, e2, e3, e4, e5, e6⟩ := bx7 kB
  go_wp2_with fail
  clear f0 e0 f1 e1 f2 e2 f3 e3 f4 e4 f5 e5 f6 e6
  refine (eqMailS_yes _ _ mails _ (H0.out _ X).2.1.1 (H0.out _ X).2.1.2).mono ?_
  rintro e w2 ⟨rfl, B⟩
  replace X := Below.step X B
  replace kA := box_below B kA
  replace kB := box_below B kB
  clear B
  obtain ⟨f0, f1, f2, f3, f4, f5, f6⟩ := bx7 kA
  obtain ⟨e0, e1, e2, e3, e4, e5, e6⟩ := bx7 kB
  go_wp2_with fail
  clear f0 e0 f1 e1 f2 e2 f3 e3 f4 e4 f5 e5 f6 e6
  refine (eqGoneS_yes _ _ gones _ (H0.out _ X).2.2.1 (H0.out _ X).2.2.2).mono ?_
  rintro e w3 ⟨rfl, B⟩
  replace X := Below.step X B
  replace kA := box_below B kA
  replace kB := box_below B kB
  clear B
  obtain ⟨f0, f1, f2, f3, f4, f5, f6⟩ := bx7 kA
  obtain ⟨e0, e1, e2, e3, e4, e5, e6⟩ := bx7 kB
  go_wp2
  go_ret
  exact ⟨rfl, X⟩

end Go.Proofs.Ytkdejfcdmjkndaa

/- What eqBoxS, eqIntS, eqAccount of package laws do. -/
namespace Go.Proofs.Ytkdejfcdmjkndaa
open Go.RowKit
set_option maxRecDepth 100000
set_option linter.unusedVariables false

set_option maxRecDepth 100000 in
set_option maxHeartbeats 1000000 in
theorem eqIntS_yes (v u : Value) (l : List Int) (w : World) (hv : IntsV w v l) (hu : IntsV w u l) :
    Calls Try.prog 38 #[v, u] w fun e w' => e = .returned (.bool true) ∧ Below w.heap.size w w' := by
  have HV : Hid (∀ wi, Below w.heap.size w wi → IntsV wi v l ∧ IntsV wi u l) := fun wi h => ⟨hv.below keepsInt h, hu.below keepsInt h⟩
  obtain ⟨a, cap, rfl, hlc, hcm⟩ := hv.form
  obtain ⟨a2, cap2, rfl, hlc2, hcm2⟩ := hu.form
  clear hv hu
  go_enter Try.func38, Try.ntmps38
  go_wp2
  go_loopw [5] (fun i wr => ∃ k : Nat, k ≤ l.length ∧ i = .int .i64 k ∧ Hid (Below w.heap.size w wr)) (fun i _ => l.length - (intOf i).toNat)
  case atStart => exact ⟨0, Nat.zero_le _, rfl, Below.refl _ _⟩
  case round =>
    obtain ⟨k, hk, rfl, hB⟩ := hrel
    by_cases hlt : k < l.length
    · obtain ⟨x, hx⟩ : ∃ x, l[k]? = some x := ⟨l[k], List.getElem?_eq_getElem hlt⟩
      obtain ⟨b, off, cap', hv', hlb, d0, i0⟩ := IntsV.cell (HV.out wr hB.out).1 k x hx
      obtain ⟨b2, off2, cap2', hv2, hlb2, z0, j0⟩ := IntsV.cell (HV.out wr hB.out).2 k x hx
      simp only [Value.slice.injEq, true_and] at hv' hv2
      obtain ⟨rfl, rfl⟩ := hv'
      obtain ⟨rfl, rfl⟩ := hv2
      go_wp2
      go_quiet (fail)
      go_wp2
      go_roundw
      case rel => exact ⟨k + 1, by omega, by go_num, below_drewN _ hB.out⟩
      case measure => simp [intOf]; omega
    · go_wp2
      go_ret
      exact ⟨rfl, hB.out⟩

set_option maxRecDepth 100000 in
set_option maxHeartbeats 1000000 in
theorem eqBoxS_yes (v u : Value) (l : List BoxD) (w : World) (hv : BoxesV w v l) (hu : BoxesV w u l) :
    Calls Try.prog 37 #[v, u] w fun e w' => e = .returned (.bool true) ∧ Below w.heap.size w w' := by
  have HV : Hid (∀ wi, Below w.heap.size w wi → BoxesV wi v l ∧ BoxesV wi u l) := fun wi h => ⟨hv.below keepsBox h, hu.below keepsBox h⟩
  obtain ⟨a, cap, rfl, hlc, hcm⟩ := hv.form
  obtain ⟨a2, cap2, rfl, hlc2, hcm2⟩ := hu.form
  clear hv hu
  go_enter Try.func37, Try.ntmps37
  go_wp2
  go_loopw [5] (fun i wr => ∃ k : Nat, k ≤ l.length ∧ i = .int .i64 k ∧ Hid (Below w.heap.size w wr)) (fun i _ => l.length - (intOf i).toNat)
  case atStart => exact ⟨0, Nat.zero_le _, rfl, Below.refl _ _⟩
  case round =>
    obtain ⟨k, hk, rfl, hB⟩ := hrel
    by_cases hlt : k < l.length
    · obtain ⟨x, hx⟩ : ∃ x, l[k]? = some x := ⟨l[k], List.getElem?_eq_getElem hlt⟩
      have DR : Below wr.heap.size wr wr.drew := (Below.refl _ _).drew
      obtain ⟨b, off, cap', u0, u1, u2, hv', hlb, d0, d1, d2, d3, d4, d5, d6, hu0, hu1, hu2, i0, i1, i2, i3⟩ := BoxesV.cell (HV.out wr hB.out).1 k x hx
      obtain ⟨b2, off2, cap2', u3, u4, u5, hv2, hlb2, z0, z1, z2, z3, z4, z5, z6, hu3, hu4, hu5, j0, j1, j2, j3⟩ := BoxesV.cell (HV.out wr hB.out).2 k x hx
      simp only [Value.slice.injEq, true_and] at hv' hv2
      obtain ⟨rfl, rfl⟩ := hv'
      obtain ⟨rfl, rfl⟩ := hv2
      obtain ⟨ua, un, uc, rfl⟩ := hu0.form3
      obtain ⟨va, vc, rfl, -⟩ := hu1.form
      obtain ⟨wa, wc, rfl, -⟩ := hu2.form
      obtain ⟨ra, rn, rc, rfl⟩ := hu3.form3
      obtain ⟨sa, sc, rfl, -⟩ := hu4.form
      obtain ⟨ta, tc, rfl, -⟩ := hu5.form
      have HA : Hid (BoxV wr.drew (.agg #[.slice ua un uc, .int .i64 x.valid, .int .i64 x.next, .int .i64 x.seq, .slice va x.mails.length vc, .slice wa x.gones.length wc, .int .i64 x.lost]) x ∧ BoxV wr.drew (.agg #[.slice ra rn rc, .int .i64 x.valid, .int .i64 x.next, .int .i64 x.seq, .slice sa x.mails.length sc, .slice ta x.gones.length tc, .int .i64 x.lost]) x) := ⟨⟨_, _, _, rfl, hu0.below DR, hu1.below keepsMail DR, hu2.below keepsGone DR, i0, i1, i2, i3⟩, ⟨_, _, _, rfl, hu3.below DR, hu4.below keepsMail DR, hu5.below keepsGone DR, j0, j1, j2, j3⟩⟩
      go_wp2
      go_region_held3 (fun w' => w'.cell? ⟨b, off + k * 7, none⟩ = some (.slice ua un uc) ∧ w'.cell? ⟨b, off + k * 7 + 1, none⟩ = some (.int .i64 x.valid) ∧ w'.cell? ⟨b, off + k * 7 + 2, none⟩ = some (.int .i64 x.next) ∧ w'.cell? ⟨b, off + k * 7 + 3, none⟩ = some (.int .i64 x.seq) ∧ w'.cell? ⟨b, off + k * 7 + 4, none⟩ = some (.slice va x.mails.length vc) ∧ w'.cell? ⟨b, off + k * 7 + 5, none⟩ = some (.slice wa x.gones.length wc) ∧ w'.cell? ⟨b, off + k * 7 + 6, none⟩ = some (.int .i64 x.lost) ∧ w'.cell? ⟨b2, off2 + k * 7, none⟩ = some (.slice ra rn rc) ∧ w'.cell? ⟨b2, off2 + k * 7 + 1, none⟩ = some (.int .i64 x.valid) ∧ w'.cell? ⟨b2, off2 + k * 7 + 2, none⟩ = some (.int .i64 x.next) ∧ w'.cell? ⟨b2, off2 + k * 7 + 3, none⟩ = some (.int .i64 x.seq) ∧ w'.cell? ⟨b2, off2 + k * 7 + 4, none⟩ = some (.slice sa x.mails.length sc) ∧ w'.cell? ⟨b2, off2 + k * 7 + 5, none⟩ = some (.slice ta x.gones.length tc) ∧ w'.cell? ⟨b2, off2 + k * 7 + 6, none⟩ = some (.int .i64 x.lost))
        (first | go_keep | exact ⟨d0, d1, d2, d3, d4, d5, d6, z0, z1, z2, z3, z4, z5, z6⟩ | exact ⟨(B.cell (p := ⟨_, _, none⟩) (by exact hlb)).trans d0, (B.cell (p := ⟨_, _, none⟩) (by exact hlb)).trans d1, (B.cell (p := ⟨_, _, none⟩) (by exact hlb)).trans d2, (B.cell (p := ⟨_, _, none⟩) (by exact hlb)).trans d3, (B.cell (p := ⟨_, _, none⟩) (by exact hlb)).trans d4, (B.cell (p := ⟨_, _, none⟩) (by exact hlb)).trans d5, (B.cell (p := ⟨_, _, none⟩) (by exact hlb)).trans d6, (B.cell (p := ⟨_, _, none⟩) (by exact hlb2)).trans z0, (B.cell (p := ⟨_, _, none⟩) (by exact hlb2)).trans z1, (B.cell (p := ⟨_, _, none⟩) (by exact hlb2)).trans z2, (B.cell (p := ⟨_, _, none⟩) (by exact hlb2)).trans z3, (B.cell (p := ⟨_, _, none⟩) (by exact hlb2)).trans z4, (B.cell (p := ⟨_, _, none⟩) (by exact hlb2)).trans z5, (B.cell (p := ⟨_, _, none⟩) (by exact hlb2)).trans z6⟩)
        ((go_at_call 51; refine (eqBox_yes _ _ x _ HA.out.1 HA.out.2).mono ?_; rintro e w1 ⟨rfl, B⟩))
      have HB2 : Hid (Below w.heap.size w w1) := Below.step (Below.step hB.out DR) B
      clear d0 d1 d2 d3 d4 d5 d6 z0 z1 z2 z3 z4 z5 z6 B hB
      go_wp2
      go_roundw
      case rel => exact ⟨k + 1, by omega, by go_num, HB2⟩
      case measure => simp [intOf]; omega
    · go_wp2
      go_ret
      exact ⟨rfl, hB.out⟩

set_option maxRecDepth 100000 in
set_option maxHeartbeats 1000000 in
theorem eqAccount_yes (v u : Value) (x : AccD) (w : World) (hv : AccV w v x) (hu : AccV w u x) :
    Calls Try.prog 23 #[v, u] w fun e w' => e = .returned (.bool true) ∧ Below w.heap.size w w' := by
  obtain ⟨u0, u1, rfl, g0, g1, -⟩ := hv
  obtain ⟨u2, u3, rfl, g2, g3, -⟩ := hu
  obtain ⟨valid, boxes, seen⟩ := x
  simp only at g0 g1 g2 g3
  have H0 : Hid (∀ wi, Below w.heap.size w wi → (BoxesV wi u0 boxes ∧ BoxesV wi u2 boxes) ∧ (IntsV wi u1 seen ∧ IntsV wi u3 seen)) := fun wi h => ⟨⟨g0.below keepsBox h, g2.below keepsBox h⟩, ⟨g1.below keepsInt h, g3.below keepsInt h⟩⟩
  obtain ⟨a0, c0, rfl, -⟩ := g0.form
  obtain ⟨a1, c1, rfl, -⟩ := g1.form
  obtain ⟨a2, c2, rfl, -⟩ := g2.form
  obtain ⟨a3, c3, rfl, -⟩ := g3.form
  clear g0 g1 g2 g3
  simp only
  obtain ⟨kA, kB, X⟩ := boxes2 w (.cells #[.int .i64 valid, .slice a0 boxes.length c0, .slice a1 seen.length c1] 36) (.cells #[.int .i64 valid, .slice a2 boxes.length c2, .slice a3 seen.length c3] 36)
  go_enter Try.func23, Try.ntmps23
  go_wp2_with fail
  refine (eqBoxS_yes _ _ boxes _ (H0.out _ X).1.1 (H0.out _ X).1.2).mono ?_
  rintro e w1 ⟨rfl, B⟩
  replace X := Below.step X B
  replace kA := box_below B kA
  replace kB := box_below B kB
  clear B
  obtain ⟨f0, f1, f2⟩ := bx3 kA
  obtain ⟨e0, e1, e2⟩ := bx3 kB
  go_wp2_with fail
  clear f0 e0 f1 e1 f2 e2
  refine (eqIntS_yes _ _ seen _ (H0.out _ X).2.1 (H0.out _ X).2.2).mono ?_
  rintro e w2 ⟨rfl, B⟩
  replace X := Below.step X B
  replace kA := box_below B kA
  replace kB := box_below B kB
  clear B
  obtain ⟨f0, f1, f2⟩ := bx3 kA
  obtain ⟨e0, e1, e2⟩ := bx3 kB
  go_wp2
  go_ret
  exact ⟨rfl, X⟩

end Go.Proofs.Ytkdejfcdmjkndaa

/- Records in memory: what they read as, and those of the call's own. -/
namespace Go.Proofs.Ytkdejfcdmjkndaa
open Go.RowKit

structure CmdD where
  k : Int
  bx : List Int
  tt : List Int
  uid : Int
  mode : Int
  fl : Int
  si : Int
  tx : List Int
structure RecD where
  kind : Int
  user : Int
  n : Int
  cmd : CmdD
  acc : AccD

/-- The value v reads as a record. -/
def RecV (w : World) (v : Value) (r : RecD) : Prop :=
  ∃ u0 u1 u2 u3 u4, v = .agg #[.int .i64 r.kind, .int .i64 r.user, .int .i64 r.n, .int .i64 r.cmd.k, u0, u1, .int .i64 r.cmd.uid, .int .i64 r.cmd.mode, .int .i64 r.cmd.fl, .int .i64 r.cmd.si, u2, .int .i64 r.acc.valid, u3, u4] ∧ CmdV w (.agg #[.int .i64 r.cmd.k, u0, u1, .int .i64 r.cmd.uid, .int .i64 r.cmd.mode, .int .i64 r.cmd.fl, .int .i64 r.cmd.si, u2]) r.cmd.k r.cmd.bx r.cmd.tt r.cmd.uid r.cmd.mode r.cmd.fl r.cmd.si r.cmd.tx ∧ AccV w (.agg #[.int .i64 r.acc.valid, u3, u4]) r.acc ∧ I64 r.kind ∧ I64 r.user ∧ I64 r.n
theorem RecV.below {w w' : World} {v : Value} {r : RecD} (h : RecV w v r) (hb : Below w.heap.size w w') : RecV w' v r :=
  let ⟨u0, u1, u2, u3, u4, h0, h1, h2, i⟩ := h; ⟨u0, u1, u2, u3, u4, h0, h1.below hb, h2.below hb, i⟩
/-- A record of the call's own in blocks from B on and below T. -/
def RecR (w : World) (B T : Nat) (v : Value) (r : RecD) : Prop :=
  ∃ u0 u1 u2 u3 u4 T0, v = .agg #[.int .i64 r.kind, .int .i64 r.user, .int .i64 r.n, .int .i64 r.cmd.k, u0, u1, .int .i64 r.cmd.uid, .int .i64 r.cmd.mode, .int .i64 r.cmd.fl, .int .i64 r.cmd.si, u2, .int .i64 r.acc.valid, u3, u4] ∧ CmdR w B T0 (.agg #[.int .i64 r.cmd.k, u0, u1, .int .i64 r.cmd.uid, .int .i64 r.cmd.mode, .int .i64 r.cmd.fl, .int .i64 r.cmd.si, u2]) r.cmd.k r.cmd.bx r.cmd.tt r.cmd.uid r.cmd.mode r.cmd.fl r.cmd.si r.cmd.tx ∧ AccO w (In T0 T) (.agg #[.int .i64 r.acc.valid, u3, u4]) r.acc ∧ B ≤ T0 ∧ T0 ≤ T ∧ I64 r.kind ∧ I64 r.user ∧ I64 r.n
section
variable {w w' : World} {B T B' T' : Nat} {x : Value} {r : RecD}
theorem RecR.v (h : RecR w B T x r) : RecV w x r := let ⟨u0, u1, u2, u3, u4, _, h0, h1, h2, _, _, i⟩ := h; ⟨u0, u1, u2, u3, u4, h0, h1.v, h2.v, i⟩
theorem RecR.below (h : RecR w B T x r) (hb : Below w.heap.size w w') : RecR w' B T x r := let ⟨u0, u1, u2, u3, u4, T0, h0, h1, h2, i⟩ := h; ⟨u0, u1, u2, u3, u4, T0, h0, h1.below hb, h2.below hb, i⟩
theorem RecR.wide (h : RecR w B T x r) (hB : B' ≤ B) (hT : T ≤ T') : RecR w B' T' x r :=
  let ⟨u0, u1, u2, u3, u4, T0, h0, h1, h2, j0, j1, i⟩ := h
  ⟨u0, u1, u2, u3, u4, T0, h0, h1.wide hB (Nat.le_refl _), let ⟨p, q, S0, S1, k0, k1, k2, d0, d1, k⟩ := h2; ⟨p, q, S0, S1, k0, k1, k2, fun x hx => ⟨⟨(d0 x hx).1.1, Nat.lt_of_lt_of_le (d0 x hx).1.2 hT⟩, (d0 x hx).2⟩, fun x hx => ⟨(d1 x hx).1, Nat.lt_of_lt_of_le (d1 x hx).2 hT⟩, k⟩, by omega, by omega, i⟩
theorem RecR.keptW (h : RecR w B T x r) (hw : Within B' T' w w') (hd : T ≤ B' ∨ T' ≤ B) : RecR w' B T x r :=
  let ⟨u0, u1, u2, u3, u4, T0, h0, h1, h2, j0, j1, i⟩ := h
  ⟨u0, u1, u2, u3, u4, T0, h0, h1.keptW hw (by omega), h2.frame fun b hb hlt => hw.block b hlt (by have := hb.1; have := hb.2; omega), j0, j1, i⟩
end
theorem CmdR.set {w : World} {g i B T : Nat} {v x : Value} {k : Int} {bx tt : List Int} {uid mode fl si : Int} {tx : List Int} (h : CmdR w B T v k bx tt uid mode fl si tx) (hd : g < B ∨ T ≤ g) : CmdR (w.setCell ⟨g, i, none⟩ x) B T v k bx tt uid mode fl si tx :=
  let ⟨u0, u1, u2, T0, T1, hv, h0, h1, h2, r0, r1, r2, r⟩ := h; ⟨u0, u1, u2, T0, T1, hv, h0.set (by omega), h1.set (by omega), h2.set (by omega), r0, r1, r2, r⟩
theorem AccO.set {w : World} {g i B T : Nat} {v x : Value} {a : AccD} (h : AccO w (In B T) v a) (hd : g < B ∨ T ≤ g) : AccO (w.setCell ⟨g, i, none⟩ x) (In B T) v a :=
  h.frame fun b hb hlt => Below.heap_setCell _ _ _ _ (by have := hb.1; have := hb.2; show b ≠ g; omega)
theorem bx14 {w : World} {g : Nat} {t : TypeId} {c0 c1 c2 c3 c4 c5 c6 c7 c8 c9 c10 c11 c12 c13 : Value} (h : w.heap[g]? = some (.cells #[c0, c1, c2, c3, c4, c5, c6, c7, c8, c9, c10, c11, c12, c13] t (0, 0))) :
    w.cell? ⟨g, 0, none⟩ = some c0 ∧ w.cell? ⟨g, 1, none⟩ = some c1 ∧ w.cell? ⟨g, 2, none⟩ = some c2 ∧ w.cell? ⟨g, 3, none⟩ = some c3 ∧ w.cell? ⟨g, 4, none⟩ = some c4 ∧ w.cell? ⟨g, 5, none⟩ = some c5 ∧ w.cell? ⟨g, 6, none⟩ = some c6 ∧ w.cell? ⟨g, 7, none⟩ = some c7 ∧ w.cell? ⟨g, 8, none⟩ = some c8 ∧ w.cell? ⟨g, 9, none⟩ = some c9 ∧ w.cell? ⟨g, 10, none⟩ = some c10 ∧ w.cell? ⟨g, 11, none⟩ = some c11 ∧ w.cell? ⟨g, 12, none⟩ = some c12 ∧ w.cell? ⟨g, 13, none⟩ = some c13 :=
  ⟨by rw [cell_of_row w g 0 _ t (0, 0) h]; rfl, by rw [cell_of_row w g 1 _ t (0, 0) h]; rfl, by rw [cell_of_row w g 2 _ t (0, 0) h]; rfl, by rw [cell_of_row w g 3 _ t (0, 0) h]; rfl, by rw [cell_of_row w g 4 _ t (0, 0) h]; rfl, by rw [cell_of_row w g 5 _ t (0, 0) h]; rfl, by rw [cell_of_row w g 6 _ t (0, 0) h]; rfl, by rw [cell_of_row w g 7 _ t (0, 0) h]; rfl, by rw [cell_of_row w g 8 _ t (0, 0) h]; rfl, by rw [cell_of_row w g 9 _ t (0, 0) h]; rfl, by rw [cell_of_row w g 10 _ t (0, 0) h]; rfl, by rw [cell_of_row w g 11 _ t (0, 0) h]; rfl, by rw [cell_of_row w g 12 _ t (0, 0) h]; rfl, by rw [cell_of_row w g 13 _ t (0, 0) h]; rfl⟩
theorem box14l {w : World} {g : Nat} {t : TypeId} {c0 c1 c2 c3 c4 c5 c6 c7 c8 c9 c10 c11 c12 c13 : Value} (h : w.heap[g]? = some (.cells #[c0, c1, c2, c3, c4, c5, c6, c7, c8, c9, c10, c11, c12, c13] t (0, 0))) :
    w.cell? ⟨g, 0, none⟩ = some c0 ∧ w.cell? ⟨g, 1, none⟩ = some c1 ∧ w.cell? ⟨g, 2, none⟩ = some c2 ∧ w.cell? ⟨g, 3, none⟩ = some c3 ∧ w.cell? ⟨g, 4, none⟩ = some c4 ∧ w.cell? ⟨g, 5, none⟩ = some c5 ∧ w.cell? ⟨g, 6, none⟩ = some c6 ∧ w.cell? ⟨g, 7, none⟩ = some c7 ∧ w.cell? ⟨g, 8, none⟩ = some c8 ∧ w.cell? ⟨g, 9, none⟩ = some c9 ∧ w.cell? ⟨g, 10, none⟩ = some c10 ∧ w.cell? ⟨g, 11, none⟩ = some c11 ∧ w.cell? ⟨g, 12, none⟩ = some c12 ∧ w.cell? ⟨g, 13, none⟩ = some c13 ∧ g < w.heap.size := by
  obtain ⟨f0, f1, f2, f3, f4, f5, f6, f7, f8, f9, f10, f11, f12, f13⟩ := bx14 h
  exact ⟨f0, f1, f2, f3, f4, f5, f6, f7, f8, f9, f10, f11, f12, f13, lt_of_heap h⟩

/-- A record's shape laid open. -/
theorem RecV.form {w : World} {v : Value} {r : RecD} (h : RecV w v r) : ∃ a0 n0 c0 a1 n1 c1 a2 n2 c2 a3 c3 a4 c4, v = .agg #[.int .i64 r.kind, .int .i64 r.user, .int .i64 r.n, .int .i64 r.cmd.k, .slice a0 n0 c0, .slice a1 n1 c1, .int .i64 r.cmd.uid, .int .i64 r.cmd.mode, .int .i64 r.cmd.fl, .int .i64 r.cmd.si, .slice a2 n2 c2, .int .i64 r.acc.valid, .slice a3 r.acc.boxes.length c3, .slice a4 r.acc.seen.length c4] := by
  obtain ⟨u0, u1, u2, u3, u4, rfl, ⟨p0, p1, p2, e, q0, q1, q2, -⟩, ⟨t0, t1, e', s0, s1, -⟩, -⟩ := h
  simp only [Value.agg.injEq, Array.mk.injEq, List.cons.injEq, and_true, true_and] at e e'
  obtain ⟨rfl, rfl, rfl⟩ := e
  obtain ⟨rfl, rfl⟩ := e'
  obtain ⟨a0, n0, c0, rfl⟩ := q0.form3
  obtain ⟨a1, n1, c1, rfl⟩ := q1.form3
  obtain ⟨a2, n2, c2, rfl⟩ := q2.form3
  obtain ⟨a3, c3, rfl, -⟩ := s0.form
  obtain ⟨a4, c4, rfl, -⟩ := s1.form
  exact ⟨_, _, _, _, _, _, _, _, _, _, _, _, _, rfl⟩
/-- A record's parts, at a record whose shape lies open. -/
theorem RecV.parts {w : World} {x0 x1 x2 x3 x4 : Value} {r : RecD} (h : RecV w (.agg #[.int .i64 r.kind, .int .i64 r.user, .int .i64 r.n, .int .i64 r.cmd.k, x0, x1, .int .i64 r.cmd.uid, .int .i64 r.cmd.mode, .int .i64 r.cmd.fl, .int .i64 r.cmd.si, x2, .int .i64 r.acc.valid, x3, x4]) r) : CmdV w (.agg #[.int .i64 r.cmd.k, x0, x1, .int .i64 r.cmd.uid, .int .i64 r.cmd.mode, .int .i64 r.cmd.fl, .int .i64 r.cmd.si, x2]) r.cmd.k r.cmd.bx r.cmd.tt r.cmd.uid r.cmd.mode r.cmd.fl r.cmd.si r.cmd.tx ∧ AccV w (.agg #[.int .i64 r.acc.valid, x3, x4]) r.acc ∧ I64 r.kind ∧ I64 r.user ∧ I64 r.n := by
  obtain ⟨u0, u1, u2, u3, u4, e, h1, h2, i⟩ := h
  simp only [Value.agg.injEq, Array.mk.injEq, List.cons.injEq, and_true, true_and] at e
  obtain ⟨rfl, rfl, rfl, rfl, rfl⟩ := e
  exact ⟨h1, h2, i⟩

end Go.Proofs.Ytkdejfcdmjkndaa

/- What szRecord, toRecord, eqRecord of package laws do. -/
namespace Go.Proofs.Ytkdejfcdmjkndaa
open Go.RowKit
set_option maxRecDepth 100000
set_option linter.unusedVariables false

set_option maxRecDepth 100000 in
set_option maxHeartbeats 1000000 in
theorem szRecord_any (v : Value) (r : RecD) (left : Int) (w : World) (hv : RecV w v r) (h0 : 0 ≤ left) (h1 : left ≤ 4000000) :
    Calls Try.prog 4 #[v, .int .i64 left] w fun e w' => ∃ y : Int, e = .returned (.int .i64 y) ∧ (y = -1 ∨ (0 ≤ y ∧ y + (r.cmd.bx.length + r.cmd.tt.length + r.cmd.tx.length + (szXs r.acc.boxes + r.acc.seen.length) : Nat) = left)) ∧ Below w.heap.size w w' := by
  have H0 : Hid (∀ wi, Below w.heap.size w wi → RecV wi v r) := fun wi h => hv.below h
  obtain ⟨a0, n0, c0, a1, n1, c1, a2, n2, c2, a3, c3, a4, c4, rfl⟩ := hv.form
  clear hv
  have X : Below w.heap.size w (w.alloc (.cells #[.int .i64 r.kind, .int .i64 r.user, .int .i64 r.n, .int .i64 r.cmd.k, .slice a0 n0 c0, .slice a1 n1 c1, .int .i64 r.cmd.uid, .int .i64 r.cmd.mode, .int .i64 r.cmd.fl, .int .i64 r.cmd.si, .slice a2 n2 c2, .int .i64 r.acc.valid, .slice a3 r.acc.boxes.length c3, .slice a4 r.acc.seen.length c4] 30)) := (Below.refl _ _).alloc (Nat.le_refl _) _
  have kA := box_new w (.cells #[.int .i64 r.kind, .int .i64 r.user, .int .i64 r.n, .int .i64 r.cmd.k, .slice a0 n0 c0, .slice a1 n1 c1, .int .i64 r.cmd.uid, .int .i64 r.cmd.mode, .int .i64 r.cmd.fl, .int .i64 r.cmd.si, .slice a2 n2 c2, .int .i64 r.acc.valid, .slice a3 r.acc.boxes.length c3, .slice a4 r.acc.seen.length c4] 30)
  go_enter Try.func4, Try.ntmps4
  go_wp2_with fail
  refine (szCmd_any _ r.cmd.k r.cmd.bx r.cmd.tt r.cmd.uid r.cmd.mode r.cmd.fl r.cmd.si r.cmd.tx left _ (H0.out _ X).parts.1 h0 h1).mono ?_
  rintro e w1 ⟨y0, rfl, hy, B⟩
  replace X := Below.step X B
  replace kA := box_below B kA
  clear B
  obtain ⟨f0, f1, f2, f3, f4, f5, f6, f7, f8, f9, f10, f11, f12, f13⟩ := bx14 kA
  rcases hy with rfl | ⟨q0, p0⟩
  · go_wp2
    go_ret
    exact ⟨-1, rfl, .inl rfl, X⟩
  go_wp2_with fail
  clear f0 f1 f2 f3 f4 f5 f6 f7 f8 f9 f10 f11 f12 f13
  refine (szAccount_any _ r.acc y0 _ (H0.out _ X).parts.2.1 q0 (by omega)).mono ?_
  rintro e w2 ⟨y1, rfl, hy, B⟩
  replace X := Below.step X B
  replace kA := box_below B kA
  clear B
  rcases hy with rfl | ⟨q1, p1⟩
  · go_wp2
    go_ret
    exact ⟨-1, rfl, .inl rfl, X⟩
  go_wp2
  go_ret
  exact ⟨y1, rfl, .inr ⟨q1, by omega⟩, X⟩

set_option maxRecDepth 100000 in
set_option maxHeartbeats 2000000 in
theorem eqRecord_yes (v u : Value) (r : RecD) (w : World) (hv : RecV w v r) (hu : RecV w u r) :
    Calls Try.prog 8 #[v, u] w fun e w' => e = .returned (.bool true) ∧ Below w.heap.size w w' := by
  have H0 : Hid (∀ wi, Below w.heap.size w wi → RecV wi v r ∧ RecV wi u r) := fun wi h => ⟨hv.below h, hu.below h⟩
  obtain ⟨a0, n0, c0, a1, n1, c1, a2, n2, c2, a3, c3, a4, c4, rfl⟩ := hv.form
  obtain ⟨b0, m0, d0, b1, m1, d1, b2, m2, d2, b3, d3, b4, d4, rfl⟩ := hu.form
  clear hv hu
  obtain ⟨kA, kB, X⟩ := boxes2 w (.cells #[.int .i64 r.kind, .int .i64 r.user, .int .i64 r.n, .int .i64 r.cmd.k, .slice a0 n0 c0, .slice a1 n1 c1, .int .i64 r.cmd.uid, .int .i64 r.cmd.mode, .int .i64 r.cmd.fl, .int .i64 r.cmd.si, .slice a2 n2 c2, .int .i64 r.acc.valid, .slice a3 r.acc.boxes.length c3, .slice a4 r.acc.seen.length c4] 38) (.cells #[.int .i64 r.kind, .int .i64 r.user, .int .i64 r.n, .int .i64 r.cmd.k, .slice b0 m0 d0, .slice b1 m1 d1, .int .i64 r.cmd.uid, .int .i64 r.cmd.mode, .int .i64 r.cmd.fl, .int .i64 r.cmd.si, .slice b2 m2 d2, .int .i64 r.acc.valid, .slice b3 r.acc.boxes.length d3, .slice b4 r.acc.seen.length d4] 38)
  go_enter Try.func8, Try.ntmps8
  go_wp2_with fail
  refine (eqCmd_yes _ _ r.cmd.k r.cmd.bx r.cmd.tt r.cmd.uid r.cmd.mode r.cmd.fl r.cmd.si r.cmd.tx _ (H0.out _ X).1.parts.1 (H0.out _ X).2.parts.1).mono ?_
  rintro e w1 ⟨rfl, B⟩
  replace X := Below.step X B
  replace kA := box_below B kA
  replace kB := box_below B kB
  clear B
  obtain ⟨f0, f1, f2, f3, f4, f5, f6, f7, f8, f9, f10, f11, f12, f13⟩ := bx14 kA
  obtain ⟨e0, e1, e2, e3, e4, e5, e6, e7, e8, e9, e10, e11, e12, e13⟩ := bx14 kB
  go_wp2_with fail
  clear f0 f1 f2 f3 f4 f5 f6 f7 f8 f9 f10 f11 f12 f13 e0 e1 e2 e3 e4 e5 e6 e7 e8 e9 e10 e11 e12 e13
  refine (eqAccount_yes _ _ r.acc _ (H0.out _ X).1.parts.2.1 (H0.out _ X).2.parts.2.1).mono ?_
  rintro e w2 ⟨rfl, B⟩
  replace X := Below.step X B
  clear B
  go_wp2
  go_ret
  exact ⟨rfl, X⟩

set_option maxRecDepth 100000 in
set_option maxHeartbeats 2000000 in
theorem toRecord_r (v : Value) (r : RecD) (w : World) (hv : RecV w v r) (h0 : r.cmd.bx.length ≤ 2000000) (h1 : r.cmd.tt.length ≤ 2000000) (h2 : r.cmd.tx.length ≤ 2000000) (h3 : szXs r.acc.boxes ≤ 2000000) (h4 : r.acc.seen.length ≤ 2000000) :
    Calls Try.prog 6 #[v] w fun e w' => ∃ u, e = .returned u ∧ RecR w' w.heap.size w'.heap.size u r ∧ Below w.heap.size w w' := by
  have H0 : Hid (∀ wi, Below w.heap.size w wi → RecV wi v r) := fun wi h => hv.below h
  obtain ⟨a0, n0, c0, a1, n1, c1, a2, n2, c2, a3, c3, a4, c4, rfl⟩ := hv.form
  clear hv
  go_enter Try.func6, Try.ntmps6
  go_wp2_with fail
  refine (toCmd_r _ r.cmd.k r.cmd.bx r.cmd.tt r.cmd.uid r.cmd.mode r.cmd.fl r.cmd.si r.cmd.tx _ (H0.out _ (box3_below w _ _ _)).parts.1 h0 h1 h2).mono ?_
  rintro e w1 ⟨uu, rfl, R0, B⟩
  obtain ⟨p0, p1, p2, rfl, g0, g1, g2, -⟩ := R0.v
  obtain ⟨x0, m0, y0, rfl⟩ := g0.form3
  obtain ⟨x1, m1, y1, rfl⟩ := g1.form3
  obtain ⟨x2, m2, y2, rfl⟩ := g2.form3
  clear g0 g1 g2
  have b3 := box3 w (.cells #[.int .i64 r.kind, .int .i64 r.user, .int .i64 r.n, .int .i64 r.cmd.k, .slice a0 n0 c0, .slice a1 n1 c1, .int .i64 r.cmd.uid, .int .i64 r.cmd.mode, .int .i64 r.cmd.fl, .int .i64 r.cmd.si, .slice a2 n2 c2, .int .i64 r.acc.valid, .slice a3 r.acc.boxes.length c3, .slice a4 r.acc.seen.length c4] 30) (.cells #[.int .i64 0, .int .i64 0, .int .i64 0, .int .i64 0, .slice none 0 0, .slice none 0 0, .int .i64 0, .int .i64 0, .int .i64 0, .int .i64 0, .slice none 0 0, .int .i64 0, .slice none 0 0, .slice none 0 0] 38) (.cells #[.int .i64 r.kind, .int .i64 r.user, .int .i64 r.n, .int .i64 0, .slice none 0 0, .slice none 0 0, .int .i64 0, .int .i64 0, .int .i64 0, .int .i64 0, .slice none 0 0, .int .i64 0, .slice none 0 0, .slice none 0 0] 38)
  have kA := box_below B b3.1
  have kR := box_below B b3.2.1
  have kO := box_below B b3.2.2
  have s1 : w.heap.size + 3 ≤ w1.heap.size := by have := B.size; simp at this; omega
  have X := Below.step (box3_below w _ _ _) B
  replace R0 := R0.wide (B' := w.heap.size + 3) (T' := w1.heap.size) (by simp) (Nat.le_refl _)
  clear b3 B
  obtain ⟨f0, f1, f2, f3, f4, f5, f6, f7, f8, f9, f10, f11, f12, f13⟩ := bx14 kA
  obtain ⟨oz, ol⟩ := box8z kO
  obtain ⟨o0, o1, o2, o3, o4, o5, o6, o7, o8, o9, o10, o11, o12, o13⟩ := bx14 kO
  go_wp2_with fail
  clear f0 f1 f2 f3 f4 f5 f6 f7 f8 f9 f10 f11 f12 f13 oz ol o0 o1 o2 o3 o4 o5 o6 o7 o8 o9 o10 o11 o12 o13
  replace X := X.setCell (p := ⟨w.heap.size + 1 + 1, 3, none⟩) (by simp; omega) (.int .i64 r.cmd.k)
  replace R0 := R0.set (g := w.heap.size + 1 + 1) (i := 3) (x := .int .i64 r.cmd.k) (.inl (by omega))
  replace kA := box_other (i := 3) (v := .int .i64 r.cmd.k) kA (show w.heap.size ≠ w.heap.size + 1 + 1 by omega)
  replace kR := box_other (i := 3) (v := .int .i64 r.cmd.k) kR (show w.heap.size + 1 ≠ w.heap.size + 1 + 1 by omega)
  replace kO : (World.setCell _ _ _).heap[w.heap.size + 1 + 1]? = some (Obj.cells #[.int .i64 r.kind, .int .i64 r.user, .int .i64 r.n, .int .i64 r.cmd.k, .slice none 0 0, .slice none 0 0, .int .i64 0, .int .i64 0, .int .i64 0, .int .i64 0, .slice none 0 0, .int .i64 0, .slice none 0 0, .slice none 0 0] 38) := box_set (i := 3) (v := .int .i64 r.cmd.k) kO
  replace X := X.setCell (p := ⟨w.heap.size + 1 + 1, 4, none⟩) (by simp; omega) (.slice x0 m0 y0)
  replace R0 := R0.set (g := w.heap.size + 1 + 1) (i := 4) (x := .slice x0 m0 y0) (.inl (by omega))
  replace kA := box_other (i := 4) (v := .slice x0 m0 y0) kA (show w.heap.size ≠ w.heap.size + 1 + 1 by omega)
  replace kR := box_other (i := 4) (v := .slice x0 m0 y0) kR (show w.heap.size + 1 ≠ w.heap.size + 1 + 1 by omega)
  replace kO : (World.setCell _ _ _).heap[w.heap.size + 1 + 1]? = some (Obj.cells #[.int .i64 r.kind, .int .i64 r.user, .int .i64 r.n, .int .i64 r.cmd.k, .slice x0 m0 y0, .slice none 0 0, .int .i64 0, .int .i64 0, .int .i64 0, .int .i64 0, .slice none 0 0, .int .i64 0, .slice none 0 0, .slice none 0 0] 38) := box_set (i := 4) (v := .slice x0 m0 y0) kO
  replace X := X.setCell (p := ⟨w.heap.size + 1 + 1, 5, none⟩) (by simp; omega) (.slice x1 m1 y1)
  replace R0 := R0.set (g := w.heap.size + 1 + 1) (i := 5) (x := .slice x1 m1 y1) (.inl (by omega))
  replace kA := box_other (i := 5) (v := .slice x1 m1 y1) kA (show w.heap.size ≠ w.heap.size + 1 + 1 by omega)
  replace kR := box_other (i := 5) (v := .slice x1 m1 y1) kR (show w.heap.size + 1 ≠ w.heap.size + 1 + 1 by omega)
  replace kO : (World.setCell _ _ _).heap[w.heap.size + 1 + 1]? = some (Obj.cells #[.int .i64 r.kind, .int .i64 r.user, .int .i64 r.n, .int .i64 r.cmd.k, .slice x0 m0 y0, .slice x1 m1 y1, .int .i64 0, .int .i64 0, .int .i64 0, .int .i64 0, .slice none 0 0, .int .i64 0, .slice none 0 0, .slice none 0 0] 38) := box_set (i := 5) (v := .slice x1 m1 y1) kO
  replace X := X.setCell (p := ⟨w.heap.size + 1 + 1, 6, none⟩) (by simp; omega) (.int .i64 r.cmd.uid)
  replace R0 := R0.set (g := w.heap.size + 1 + 1) (i := 6) (x := .int .i64 r.cmd.uid) (.inl (by omega))
  replace kA := box_other (i := 6) (v := .int .i64 r.cmd.uid) kA (show w.heap.size ≠ w.heap.size + 1 + 1 by omega)
  replace kR := box_other (i := 6) (v := .int .i64 r.cmd.uid) kR (show w.heap.size + 1 ≠ w.heap.size + 1 + 1 by omega)
  replace kO : (World.setCell _ _ _).heap[w.heap.size + 1 + 1]? = some (Obj.cells #[.int .i64 r.kind, .int .i64 r.user, .int .i64 r.n, .int .i64 r.cmd.k, .slice x0 m0 y0, .slice x1 m1 y1, .int .i64 r.cmd.uid, .int .i64 0, .int .i64 0, .int .i64 0, .slice none 0 0, .int .i64 0, .slice none 0 0, .slice none 0 0] 38) := box_set (i := 6) (v := .int .i64 r.cmd.uid) kO
  replace X := X.setCell (p := ⟨w.heap.size + 1 + 1, 7, none⟩) (by simp; omega) (.int .i64 r.cmd.mode)
  replace R0 := R0.set (g := w.heap.size + 1 + 1) (i := 7) (x := .int .i64 r.cmd.mode) (.inl (by omega))
  replace kA := box_other (i := 7) (v := .int .i64 r.cmd.mode) kA (show w.heap.size ≠ w.heap.size + 1 + 1 by omega)
  replace kR := box_other (i := 7) (v := .int .i64 r.cmd.mode) kR (show w.heap.size + 1 ≠ w.heap.size + 1 + 1 by omega)
  replace kO : (World.setCell _ _ _).heap[w.heap.size + 1 + 1]? = some (Obj.cells #[.int .i64 r.kind, .int .i64 r.user, .int .i64 r.n, .int .i64 r.cmd.k, .slice x0 m0 y0, .slice x1 m1 y1, .int .i64 r.cmd.uid, .int .i64 r.cmd.mode, .int .i64 0, .int .i64 0, .slice none 0 0, .int .i64 0, .slice none 0 0, .slice none 0 0] 38) := box_set (i := 7) (v := .int .i64 r.cmd.mode) kO
  replace X := X.setCell (p := ⟨w.heap.size + 1 + 1, 8, none⟩) (by simp; omega) (.int .i64 r.cmd.fl)
  replace R0 := R0.set (g := w.heap.size + 1 + 1) (i := 8) (x := .int .i64 r.cmd.fl) (.inl (by omega))
  replace kA := box_other (i := 8) (v := .int .i64 r.cmd.fl) kA (show w.heap.size ≠ w.heap.size + 1 + 1 by omega)
  replace kR := box_other (i := 8) (v := .int .i64 r.cmd.fl) kR (show w.heap.size + 1 ≠ w.heap.size + 1 + 1 by omega)
  replace kO : (World.setCell _ _ _).heap[w.heap.size + 1 + 1]? = some (Obj.cells #[.int .i64 r.kind, .int .i64 r.user, .int .i64 r.n, .int .i64 r.cmd.k, .slice x0 m0 y0, .slice x1 m1 y1, .int .i64 r.cmd.uid, .int .i64 r.cmd.mode, .int .i64 r.cmd.fl, .int .i64 0, .slice none 0 0, .int .i64 0, .slice none 0 0, .slice none 0 0] 38) := box_set (i := 8) (v := .int .i64 r.cmd.fl) kO
  replace X := X.setCell (p := ⟨w.heap.size + 1 + 1, 9, none⟩) (by simp; omega) (.int .i64 r.cmd.si)
  replace R0 := R0.set (g := w.heap.size + 1 + 1) (i := 9) (x := .int .i64 r.cmd.si) (.inl (by omega))
  replace kA := box_other (i := 9) (v := .int .i64 r.cmd.si) kA (show w.heap.size ≠ w.heap.size + 1 + 1 by omega)
  replace kR := box_other (i := 9) (v := .int .i64 r.cmd.si) kR (show w.heap.size + 1 ≠ w.heap.size + 1 + 1 by omega)
  replace kO : (World.setCell _ _ _).heap[w.heap.size + 1 + 1]? = some (Obj.cells #[.int .i64 r.kind, .int .i64 r.user, .int .i64 r.n, .int .i64 r.cmd.k, .slice x0 m0 y0, .slice x1 m1 y1, .int .i64 r.cmd.uid, .int .i64 r.cmd.mode, .int .i64 r.cmd.fl, .int .i64 r.cmd.si, .slice none 0 0, .int .i64 0, .slice none 0 0, .slice none 0 0] 38) := box_set (i := 9) (v := .int .i64 r.cmd.si) kO
  replace X := X.setCell (p := ⟨w.heap.size + 1 + 1, 10, none⟩) (by simp; omega) (.slice x2 m2 y2)
  replace R0 := R0.set (g := w.heap.size + 1 + 1) (i := 10) (x := .slice x2 m2 y2) (.inl (by omega))
  replace kA := box_other (i := 10) (v := .slice x2 m2 y2) kA (show w.heap.size ≠ w.heap.size + 1 + 1 by omega)
  replace kR := box_other (i := 10) (v := .slice x2 m2 y2) kR (show w.heap.size + 1 ≠ w.heap.size + 1 + 1 by omega)
  replace kO : (World.setCell _ _ _).heap[w.heap.size + 1 + 1]? = some (Obj.cells #[.int .i64 r.kind, .int .i64 r.user, .int .i64 r.n, .int .i64 r.cmd.k, .slice x0 m0 y0, .slice x1 m1 y1, .int .i64 r.cmd.uid, .int .i64 r.cmd.mode, .int .i64 r.cmd.fl, .int .i64 r.cmd.si, .slice x2 m2 y2, .int .i64 0, .slice none 0 0, .slice none 0 0] 38) := box_set (i := 10) (v := .slice x2 m2 y2) kO
  refine (toAccount_o _ r.acc _ (H0.out _ X).parts.2.1 h3 h4).mono ?_
  rintro e w2 ⟨vv, rfl, R1, B⟩
  obtain ⟨p3, p4, rfl, g3, g4, -⟩ := R1.v
  obtain ⟨x3, y3, rfl, -⟩ := g3.form
  obtain ⟨x4, y4, rfl, -⟩ := g4.form
  clear g3 g4
  simp only [box_size] at R1
  have s2 : w1.heap.size ≤ w2.heap.size := by have := B.size; simpa only [box_size] using this
  replace X := Below.step X B
  replace R0 := R0.below B
  replace kA := box_below B kA
  replace kR := box_below B kR
  replace kO := box_below B kO
  clear B
  obtain ⟨f0, f1, f2, f3, f4, f5, f6, f7, f8, f9, f10, f11, f12, f13⟩ := bx14 kA
  obtain ⟨oz, ol⟩ := box8z kO
  obtain ⟨o0, o1, o2, o3, o4, o5, o6, o7, o8, o9, o10, o11, o12, o13⟩ := bx14 kO
  obtain ⟨rz, rl⟩ := box8z kR
  obtain ⟨r0, r1, r2, r3, r4, r5, r6, r7, r8, r9, r10, r11, r12, r13⟩ := bx14 kR
  go_wp2
  refine bodyPost_ret (v := .agg #[.int .i64 r.kind, .int .i64 r.user, .int .i64 r.n, .int .i64 r.cmd.k, .slice x0 m0 y0, .slice x1 m1 y1, .int .i64 r.cmd.uid, .int .i64 r.cmd.mode, .int .i64 r.cmd.fl, .int .i64 r.cmd.si, .slice x2 m2 y2, .int .i64 r.acc.valid, .slice x3 r.acc.boxes.length y3, .slice x4 r.acc.seen.length y4]) (by simp [results, Try.results6, go_sem, r0, r1, r2, r3, r4, r5, r6, r7, r8, r9, r10, r11, r12, r13]) rfl ⟨_, rfl, ?_, ?_⟩
  · simp only [box_size]
    have hp := (H0.out _ (Below.refl _ _)).parts.2.2
    refine ⟨_, _, _, _, _, w1.heap.size, rfl, CmdR.wide (B := w.heap.size + 3) ?_ (by omega) (Nat.le_refl _), ?_, by omega, by omega, hp⟩
    · repeat refine CmdR.set ?_ (.inl (by omega))
      exact R0
    · repeat refine AccO.set ?_ (.inl (by omega))
      exact R1
  · repeat refine Below.setCell ?_ (by simp <;> omega) _
    exact X

end Go.Proofs.Ytkdejfcdmjkndaa

/- Names, texts and commands as plain lists and numbers: no program is named here. -/
namespace Go.Proofs.Ytkdejfcdmjkndaa

theorem ret_b {a b : Bool} (h : b = a) : Ending.returned (.bool a) = .returned (.bool b) := by rw [h]

/-- Every number of the list lies between two. -/
def allIn (lo hi : Int) (l : List Int) : Bool := l.all fun x => decide (lo ≤ x) && decide (x ≤ hi)
/-- A name: one to six small letters. -/
def nameB (l : List Int) : Bool := decide (1 ≤ l.length) && (decide (l.length ≤ 6) && allIn 97 122 l)
/-- A text: at most thirty bytes that can be seen. -/
def textB (l : List Int) : Bool := decide (l.length ≤ 30) && allIn 32 126 l
/-- A number lies between two. -/
def inB (n lo hi : Int) : Bool := decide (lo ≤ n) && decide (n ≤ hi)

theorem allIn_yes {lo hi : Int} {l : List Int} (h : ∀ j, j < l.length → lo ≤ l.getD j 0 ∧ l.getD j 0 ≤ hi) : allIn lo hi l = true := by
  unfold allIn
  rw [List.all_eq_true]
  intro x hx
  obtain ⟨j, hj, rfl⟩ := List.getElem_of_mem hx
  have := h j hj
  simp [hj] at this
  simp [this]
theorem allIn_no {lo hi : Int} {l : List Int} (j : Nat) (hj : j < l.length) (h : ¬ (lo ≤ l.getD j 0 ∧ l.getD j 0 ≤ hi)) : allIn lo hi l = false := by
  cases e : allIn lo hi l with
  | false => rfl
  | true =>
    exfalso
    unfold allIn at e
    rw [List.all_eq_true] at e
    have := e _ (List.getElem_mem hj)
    simp [hj] at h
    simp at this
    omega

theorem ret_i {k : IntKind} {a b : Int} (h : a = b) : Ending.returned (.int k a) = .returned (.int k b) := by rw [h]
/-- The place of the first that fits; -1 where there is none. -/
def firstI {α : Type} (p : α → Bool) (l : List α) : Int := match l.findIdx? p with | some i => i | none => -1
theorem firstI_hit {p : Int → Bool} {l : List Int} {k : Nat} (hk : k < l.length) (h : p (l.getD k 0) = true) (hA : ∀ j, j < k → p (l.getD j 0) = false) : firstI p l = k := by
  have : l.findIdx? p = some k := by
    rw [List.findIdx?_eq_some_iff_getElem]
    refine ⟨hk, by simpa [hk] using h, fun j hj => ?_⟩
    have := hA j hj
    simp [show j < l.length by omega] at this
    simp [this]
  simp [firstI, this]
theorem firstI_none {p : Int → Bool} {l : List Int} (hA : ∀ j, j < l.length → p (l.getD j 0) = false) : firstI p l = -1 := by
  have : l.findIdx? p = none := by
    rw [List.findIdx?_eq_none_iff]
    intro x hx
    obtain ⟨j, hj, rfl⟩ := List.getElem_of_mem hx
    have := hA j hj
    simpa [hj] using this
  simp [firstI, this]
theorem any_firstI {α : Type} (p : α → Bool) (l : List α) : l.any p = decide (0 ≤ firstI p l) := by
  unfold firstI
  cases h : l.findIdx? p with
  | none =>
    rw [List.findIdx?_eq_none_iff] at h
    simp only [show ¬ (0 : Int) ≤ -1 by omega, decide_false]
    rw [List.any_eq_false]
    intro x hx
    simp [h x hx]
  | some i =>
    rw [List.findIdx?_eq_some_iff_getElem] at h
    obtain ⟨hi, hp, -⟩ := h
    simp only [show (0 : Int) ≤ (i : Int) by omega, decide_true]
    rw [List.any_eq_true]
    exact ⟨_, List.getElem_mem hi, hp⟩

/-- Which kinds have a second name, a number of a mail, flags and how, a number of a change, a text. -/
def toB (k : Int) : Bool := decide (k = 6)
def uidB (k : Int) : Bool := decide (k = 3) || (decide (k = 5) || decide (k = 6))
def modeB (k : Int) : Bool := decide (k = 2) || (decide (k = 3) || decide (k = 6))
def sinceB (k : Int) : Bool := decide (k = 3) || decide (k = 8)
def textsB (k : Int) : Bool := decide (k = 2)

/-- A command that may be. -/
def cmdB (k : Int) (bx tt : List Int) (uid mode fl si : Int) (tx : List Int) : Bool :=
  decide (0 ≤ k ∧ k ≤ 9) && (if k = 9 then decide (bx.length = 0) else nameB bx) && (if k = 6 then nameB tt else decide (tt.length = 0)) &&
  (if k = 3 ∨ k = 5 ∨ k = 6 then inB uid 1 1000000 else decide (uid = 0)) && inB mode 0 (if k = 3 then 2 else if k = 6 then 1 else 0) &&
  inB fl 0 (if k = 2 ∨ k = 3 then 31 else 0) && inB si 0 (if k = 3 ∨ k = 8 then 1000000 else 0) && (if k = 2 then textB tx else decide (tx.length = 0))

theorem nameB_len {l : List Int} (h : nameB l = true) : 1 ≤ l.length ∧ l.length ≤ 6 := by unfold nameB at h; simp at h; exact ⟨h.1, h.2.1⟩
theorem textB_nil {l : List Int} (h : l.length = 0) : textB l = true := by
  have : l = [] := List.eq_nil_of_length_eq_zero h
  subst this; rfl
theorem nameB_nil {l : List Int} (h : l.length = 0) : nameB l = false := by
  have : l = [] := List.eq_nil_of_length_eq_zero h
  subst this; rfl

end Go.Proofs.Ytkdejfcdmjkndaa

/- What may be: boxes and accounts, as plain data. -/
namespace Go.Proofs.Ytkdejfcdmjkndaa

/-- The bytes of a list of numbers; which of two comes first. -/
def bts (l : List Int) : List UInt8 := l.map fun n => UInt8.ofNat n.toNat
def lessB (l m : List Int) : Bool := Op.bytesLess (bts l) (bts m)
theorem less_cmp : ∀ (a b : List UInt8), decide (0 ≤ Lib.compareBytes a b) = !Op.bytesLess a b
  | [], [] => rfl
  | [], _ :: _ => rfl
  | _ :: _, [] => rfl
  | a :: x, b :: y => by
    have ih := less_cmp x y
    unfold Lib.compareBytes Op.bytesLess
    by_cases h1 : a < b
    · simp [h1]
    · by_cases h2 : b < a
      · have hne : (a == b) = false := by simp; intro e; subst e; exact absurd h2 (UInt8.lt_irrefl _)
        simp [h1, h2, hne]
      · have he : a = b := UInt8.le_antisymm (UInt8.not_lt.1 h2) (UInt8.not_lt.1 h1)
        subst he
        simp only [h1, if_false, decide_false, Bool.false_or, BEq.rfl, Bool.true_and]
        exact ih

theorem rangeAll_yes {n : Nat} {f : Nat → Bool} (h : ∀ j, j < n → f j = true) : (List.range n).all f = true := by
  rw [List.all_eq_true]; intro j hj; exact h j (List.mem_range.1 hj)
theorem rangeAll_no {n : Nat} {f : Nat → Bool} (j : Nat) (hj : j < n) (h : f j = false) : (List.range n).all f = false := by
  rw [List.all_eq_false]; exact ⟨j, List.mem_range.2 hj, by simp [h]⟩
theorem and_false_of {a b : Bool} (h : b = false) : (a && b) = false := by rw [h]; cases a <;> rfl
theorem and_of {a b c : Bool} (h : a = true) (h' : b = c) : (a && b) = c := by rw [h, h']; rfl

def prevI (l : List Int) : Nat → Int
  | 0 => 0
  | i + 1 => l.getD i 0
def seenAt (l : List Int) (i : Nat) : Bool := inB (l.getD i 0) (prevI l i + 1) 1000000
def seenB (l : List Int) : Bool := decide (l.length ≤ 60) && (List.range l.length).all (seenAt l)
theorem prevI_ok {l : List Int} {k : Nat} (hk : k ≤ l.length) (h : ∀ j, j < k → seenAt l j = true) : 0 ≤ prevI l k ∧ prevI l k ≤ 1000000 ∧ (0 < k → 1 ≤ prevI l k) := by
  induction k with
  | zero => simp [prevI]
  | succ k ih =>
    have h1 := ih (by omega) (fun j hj => h j (by omega))
    have h2 := h k (by omega)
    simp only [seenAt, inB, Bool.and_eq_true, decide_eq_true_eq] at h2
    simp only [prevI]
    omega

def prevU (l : List MailD) : Nat → Int
  | 0 => 0
  | i + 1 => match l[i]? with | some m => m.uid | none => 0
def mailAt (b : BoxD) (i : Nat) : Bool := match b.mails[i]? with
  | some m => inB m.uid (prevU b.mails i + 1) (b.next - 1) && (inB m.flags 0 31 && (inB m.seq 1 b.seq && textB m.text))
  | none => true
def mailsB (b : BoxD) : Bool := decide (b.mails.length ≤ 12) && (List.range b.mails.length).all (mailAt b)
theorem prevU_ok {b : BoxD} {k : Nat} (hn : b.next ≤ 1000000) (hk : k ≤ b.mails.length) (h : ∀ j, j < k → mailAt b j = true) : 0 ≤ prevU b.mails k ∧ prevU b.mails k ≤ 1000000 := by
  induction k with
  | zero => simp [prevU]
  | succ k ih =>
    have h1 := ih (by omega) (fun j hj => h j (by omega))
    have h2 := h k (by omega)
    obtain ⟨m, hm⟩ : ∃ m, b.mails[k]? = some m := ⟨b.mails[k]'(by omega), List.getElem?_eq_getElem (by omega)⟩
    simp only [mailAt, hm, inB, Bool.and_eq_true, decide_eq_true_eq] at h2
    simp only [prevU, hm]
    omega

def minS (b : BoxD) : Nat → Int
  | 0 => max 1 b.lost
  | i + 1 => match b.gones[i]? with | some g => g.seq | none => 0
def goneAt (b : BoxD) (i : Nat) : Bool := match b.gones[i]? with
  | some g => inB g.uid 1 (b.next - 1) && (inB g.seq (minS b i) b.seq && (!(b.mails.any fun m => decide (m.uid = g.uid)) && !((b.gones.take i).any fun o => decide (o.uid = g.uid))))
  | none => true
def gonesB (b : BoxD) : Bool := decide (b.gones.length ≤ 40) && (List.range b.gones.length).all (goneAt b)
theorem minS_ok {b : BoxD} {k : Nat} (hk : k ≤ b.gones.length) (h : ∀ j, j < k → goneAt b j = true) : 1 ≤ minS b k ∧ b.lost ≤ minS b k := by
  induction k with
  | zero => simp only [minS]; omega
  | succ k ih =>
    have h1 := ih (by omega) (fun j hj => h j (by omega))
    have h2 := h k (by omega)
    obtain ⟨m, hm⟩ : ∃ m, b.gones[k]? = some m := ⟨b.gones[k]'(by omega), List.getElem?_eq_getElem (by omega)⟩
    simp only [goneAt, hm, inB, Bool.and_eq_true, decide_eq_true_eq] at h2
    simp only [minS, hm]
    omega

def boxB (b : BoxD) (valid : Int) : Bool := nameB b.name && (inB b.valid 1 valid && (inB b.next 1 1000000 && (inB b.seq 0 1000000 && (inB b.lost 0 b.seq && (mailsB b && gonesB b)))))
def nameAt (l : List BoxD) (i : Nat) : List Int := match l[i]? with | some b => b.name | none => []
def aheadB (l : List BoxD) (b : BoxD) : Nat → Bool
  | 0 => true
  | i + 1 => lessB (nameAt l i) b.name
def boxAt (a : AccD) (i : Nat) : Bool := match a.boxes[i]? with
  | some b => boxB b a.valid && (aheadB a.boxes b i && !((a.boxes.take i).any fun o => decide (o.valid = b.valid)))
  | none => true
def accB (a : AccD) : Bool := inB a.valid 0 1000000 && (decide (a.boxes.length ≤ 4) && (seenB a.seen && (List.range a.boxes.length).all (boxAt a)))

end Go.Proofs.Ytkdejfcdmjkndaa

/- Records that may be. -/
namespace Go.Proofs.Ytkdejfcdmjkndaa

/-- A command, an account that is zero, by its numbers and lengths. -/
def zC (k : Int) (nb nt : Nat) (uid mode fl si : Int) (nx : Nat) : Bool := decide (k = 0 ∧ nb = 0 ∧ nt = 0 ∧ uid = 0 ∧ mode = 0 ∧ fl = 0 ∧ si = 0 ∧ nx = 0)
def zA (valid : Int) (nb ns : Nat) : Bool := decide (valid = 0 ∧ nb = 0 ∧ ns = 0)
def zeroC (c : CmdD) : Bool := zC c.k c.bx.length c.tt.length c.uid c.mode c.fl c.si c.tx.length
def zeroA (a : AccD) : Bool := zA a.valid a.boxes.length a.seen.length
def cmdD (c : CmdD) : Bool := cmdB c.k c.bx c.tt c.uid c.mode c.fl c.si c.tx
def lowN (k : Int) : Int := if k = 0 then 1 else 0
def highN (k : Int) : Int := if k = 6 then 2 else if k = 7 ∨ k = 8 then 0 else 1000000
def recB (r : RecD) : Bool := inB r.kind 0 8 && (inB r.user 0 2 && (inB r.n (lowN r.kind) (highN r.kind) && ((bif decide (r.kind = 0) then cmdD r.cmd else zeroC r.cmd) && (bif decide (r.kind = 3) then accB r.acc else zeroA r.acc))))
theorem zero_not_ok {c : CmdD} (h : zeroC c = true) : cmdD c = false := by
  simp only [zeroC, zC, decide_eq_true_eq] at h
  simp [cmdD, cmdB, h.1, nameB_nil h.2.1]
theorem recB_range {r : RecD} (h : recB r = true) : (0 ≤ r.kind ∧ r.kind ≤ 8) ∧ (0 ≤ r.user ∧ r.user ≤ 2) ∧ (0 ≤ r.n ∧ r.n ≤ 1000000) := by
  simp only [recB, inB, Bool.and_eq_true, decide_eq_true_eq] at h
  obtain ⟨h0, h1, h2, -⟩ := h
  refine ⟨h0, h1, ?_, ?_⟩
  · have := h2.1; unfold lowN at this; split at this <;> omega
  · have := h2.2; unfold highN at this; split at this
    · omega
    · split at this <;> omega
theorem recB_out {r : RecD} (h : ¬ ((0 ≤ r.kind ∧ r.kind ≤ 8) ∧ (0 ≤ r.user ∧ r.user ≤ 2) ∧ (0 ≤ r.n ∧ r.n ≤ 1000000))) : recB r = false := by
  rw [Bool.eq_false_iff]; exact fun e => h (recB_range e)
theorem recB_zero {r : RecD} (hk : r.kind = 0) (hu : 0 ≤ r.user ∧ r.user ≤ 2) (hn : 0 ≤ r.n ∧ r.n ≤ 1000000) :
    recB r = (!zeroC r.cmd && (cmdD r.cmd && (!decide (r.n < 1) && zeroA r.acc))) := by
  have h := @zero_not_ok r.cmd
  simp only [recB, hk, inB, lowN, highN, hu.1, hu.2]
  generalize zeroC r.cmd = z at *
  generalize cmdD r.cmd = c at *
  generalize zeroA r.acc = y at *
  cases z <;> cases c <;> cases y <;> simp at * <;> (first | (rw [Bool.eq_iff_iff]; simp; omega) | omega)
theorem recB_more {r : RecD} (hk : 1 ≤ r.kind ∧ r.kind ≤ 8) (hu : 0 ≤ r.user ∧ r.user ≤ 2) (hn : 0 ≤ r.n ∧ r.n ≤ 1000000) :
    recB r = (zeroC r.cmd && (bif decide (r.kind = 3) then accB r.acc else (zeroA r.acc && (!(decide (r.kind = 6) && decide (3 ≤ r.n)) && (decide (r.kind < 7) || decide (r.n = 0)))))) := by
  have hk' : r.kind = 1 ∨ r.kind = 2 ∨ r.kind = 3 ∨ r.kind = 4 ∨ r.kind = 5 ∨ r.kind = 6 ∨ r.kind = 7 ∨ r.kind = 8 := by omega
  have e : ∀ b c : Bool, (decide (r.n = 0) && (b && c)) = (b && (c && decide (r.n = 0))) := by intro b c; cases b <;> cases c <;> simp
  rcases hk' with h | h | h | h | h | h | h | h <;> simp only [recB, h, inB, lowN, highN] <;> simp [hu.1, hu.2, hn.1, hn.2] <;> cases zeroC r.cmd <;> cases zeroA r.acc <;> simp <;> (first | (rw [Bool.eq_iff_iff]; simp; omega) | omega)

end Go.Proofs.Ytkdejfcdmjkndaa

/- What l5zeroCmd, l5zeroAcc of package spec do. -/
namespace Go.Proofs.Ytkdejfcdmjkndaa
open Go.RowKit
set_option maxRecDepth 100000
set_option linter.unusedVariables false
set_option linter.unusedSimpArgs false

set_option maxHeartbeats 1000000 in
theorem l5zeroCmd_gen (k : Int) (a0 a1 a2 : Option Addr) (nb nt nx c0 c1 c2 : Nat) (uid mode fl si : Int) (w : World) :
    Calls Try.prog 12 #[.agg #[.int .i64 k, .slice a0 nb c0, .slice a1 nt c1, .int .i64 uid, .int .i64 mode, .int .i64 fl, .int .i64 si, .slice a2 nx c2]] w fun e w' => e = .returned (.bool (zC k nb nt uid mode fl si nx)) ∧ Below w.heap.size w w' := by
  have HX : Hid (∀ o, Below w.heap.size w (w.alloc o)) := fun o => (Below.refl _ _).alloc (Nat.le_refl _) o
  go_enter Try.func12, Try.ntmps12
  go_wp2
  all_goals (go_ret; refine ⟨ret_b ?_, HX.out _⟩; clear HX; unfold zC; (try simp only [beq_iff_eq, beq_eq_false_iff_ne, ne_eq] at *); rw [Bool.eq_iff_iff]; simp; omega)
theorem l5zeroCmd_any (v : Value) (c : CmdD) (w : World) (hv : CmdV w v c.k c.bx c.tt c.uid c.mode c.fl c.si c.tx) :
    Calls Try.prog 12 #[v] w fun e w' => e = .returned (.bool (zeroC c)) ∧ Below w.heap.size w w' := by
  obtain ⟨u0, u1, u2, rfl, g0, g1, g2, -⟩ := hv
  obtain ⟨a0, c0, rfl⟩ := g0.form
  obtain ⟨a1, c1, rfl⟩ := g1.form
  obtain ⟨a2, c2, rfl⟩ := g2.form
  exact l5zeroCmd_gen _ _ _ _ _ _ _ _ _ _ _ _ _ _ w
set_option maxHeartbeats 1000000 in
theorem l5zeroAcc_gen (k : Int) (a0 a1 : Option Addr) (nb nt c0 c1 : Nat) (w : World) :
    Calls Try.prog 15 #[.agg #[.int .i64 k, .slice a0 nb c0, .slice a1 nt c1]] w fun e w' => e = .returned (.bool (zA k nb nt)) ∧ Below w.heap.size w w' := by
  have HX : Hid (∀ o, Below w.heap.size w (w.alloc o)) := fun o => (Below.refl _ _).alloc (Nat.le_refl _) o
  go_enter Try.func15, Try.ntmps15
  go_wp2
  all_goals (go_ret; refine ⟨ret_b ?_, HX.out _⟩; clear HX; unfold zA; (try simp only [beq_iff_eq, beq_eq_false_iff_ne, ne_eq] at *); rw [Bool.eq_iff_iff]; simp; omega)
theorem l5zeroAcc_any (v : Value) (a : AccD) (w : World) (hv : AccV w v a) :
    Calls Try.prog 15 #[v] w fun e w' => e = .returned (.bool (zeroA a)) ∧ Below w.heap.size w w' := by
  obtain ⟨u0, u1, rfl, g0, g1, -⟩ := hv
  obtain ⟨a0, c0, rfl, -⟩ := g0.form
  obtain ⟨a1, c1, rfl, -⟩ := g1.form
  exact l5zeroAcc_gen _ _ _ _ _ _ _ w

end Go.Proofs.Ytkdejfcdmjkndaa

/- What l3parts and l3seq of package spec do. -/
namespace Go.Proofs.Ytkdejfcdmjkndaa
open Go.RowKit
set_option maxRecDepth 100000

set_option maxHeartbeats 400000 in
theorem l3parts_any (k : Int) (w : World) :
    Calls Try.prog 28 #[.int .i64 k] w fun e w' => e = .returned (.tuple #[.bool (toB k), .bool (uidB k), .bool (modeB k), .bool (sinceB k), .bool (textsB k)]) ∧ w' = w := by
  go_enter Try.func28, Try.ntmps28
  go_wp2
  all_goals exact bodyPost_ret (v := .tuple #[.bool (toB k), .bool (uidB k), .bool (modeB k), .bool (sinceB k), .bool (textsB k)]) (by simp [results, Try.results28, go_sem, toB, uidB, modeB, sinceB, textsB, *] <;> (simp only [beq_iff_eq, beq_eq_false_iff_ne, ne_eq] at *; omega)) rfl ⟨rfl, rfl⟩

theorem l3seq_any (n : Int) (w : World) :
    Calls Try.prog 11 #[.int .i64 n] w fun e w' => e = .returned (.bool (inB n 0 1000000)) ∧ w' = w := by
  go_enter Try.func11, Try.ntmps11
  go_wp2
  all_goals (go_ret; exact ⟨by simp [inB, *] <;> omega, rfl⟩)

end Go.Proofs.Ytkdejfcdmjkndaa

/- Regions that draw their order, walked in the text's order: what each operation asks of the others is reckoned once for a region, in a table. -/
namespace Go.Proofs.Ytkdejfcdmjkndaa
set_option linter.unusedVariables false

/-- The operations of the region with this number. -/
def opsAt (id : Nat) : Code → Option (Array Oper)
  | .region i ops _ => if i == id then some ops else none
  | .seq a b => (opsAt id a).or (opsAt id b)
  | .cond _ a b => (opsAt id a).or (opsAt id b)
  | .block _ a => opsAt id a
  | .loop a => opsAt id a
  | _ => none

/-- The first i of n are listed. -/
def upto (n i : Nat) : Array Bool := (List.replicate i true ++ List.replicate (n - i) false).toArray
theorem upto_zero (n : Nat) : upto n 0 = Array.replicate n false := by simp [upto]
theorem upto_succ {n i : Nat} (h : i < n) : (upto n i).setIfInBounds i true = upto n (i + 1) := by
  have e : n - i = (n - (i + 1)) + 1 := by omega
  unfold upto
  rw [List.setIfInBounds_toArray]
  congr 1
  rw [List.set_append_right _ _ (by simp), List.length_replicate, Nat.sub_self, e, List.replicate_succ, List.set_cons_zero, List.replicate_succ', List.append_assoc]
  rfl

def statAt (ops : Array Oper) (n i : Nat) : Bool := Region.free .any ops (upto n i) i && (Region.ready .any ops (upto n i)).contains i
/-- cs: the operations that come up alone. -/
def table (ops : Array Oper) (n : Nat) (cs : List Nat) : Bool := (ops.size == n) && (Region.noSelect ops && ((List.range n).all (statAt ops n) && ((Region.ready .any ops (upto n n)).isEmpty && cs.all fun i => (Nat.blt i n) && (Region.ready .any ops (upto n i) == [i]))))

/-- The table's word, in a wrapping that no walk looks into. -/
structure Tab (ops : Array Oper) (n : Nat) (cs : List Nat) : Prop where
  out : table ops n cs = true

/-- What is left of the region when the first i operations are done. -/
def wpAt (P : Program) (ops : Array Oper) (Q : Exit → Act → World → Prop) (S : World → Prop) (n i : Nat) (a : Act) (w : World) : Prop := wpAnyH P .any ops Q S (n - i) (upto n i) a w

/-- Slot d filled: what 'put' does, in a form that computes by itself. -/
def setT (a : Act) (d : Nat) (v : Value) : Act := { a with tmps := (a.tmps.toList.set d v).toArray }
theorem put_setT (a : Act) (d : Nat) (v : Value) : a.put (some d) v = setT a d v := by
  unfold Act.put setT
  simp only
  congr 1
  exact Array.ext' (by simp)

section
variable {P : Program} {ops : Array Oper} {Q : Exit → Act → World → Prop} {S : World → Prop} {n : Nat} {cs : List Nat} {a : Act} {w : World}
theorem tab_of {c : Option Code} {id : Nat} (h : c.bind (opsAt id) = some ops) (T : (c.bind (opsAt id)).all (fun o => table o n cs) = true) : Tab ops n cs := by
  rw [h] at T; exact ⟨by simpa using T⟩
theorem table_parts (T' : Tab ops n cs) : ops.size = n ∧ Region.noSelect ops = true ∧ (∀ i, i < n → Region.free .any ops (upto n i) i = true ∧ (Region.ready .any ops (upto n i)).contains i = true) ∧ Region.ready .any ops (upto n n) = [] ∧ ∀ i, i ∈ cs → i < n ∧ Region.ready .any ops (upto n i) = [i] := by
  have T := T'.out
  simp only [table, Bool.and_eq_true, beq_iff_eq, List.all_eq_true, List.mem_range, statAt, List.isEmpty_iff, Nat.blt_eq] at T
  exact ⟨T.1, T.2.1, fun i hi => T.2.2.1 i hi, T.2.2.2.1, fun i hi => T.2.2.2.2 i hi⟩
theorem wp_begin {id : Nat} (T : Tab ops n cs) (hm : P.follows .mixedOrders = true) (hS : S w.drew) (h : Tab ops n cs → S w.drew → wpAt P ops Q S n 0 a w.drew) : Code.wp P (.region id ops true) Q a w := by
  refine wp_region_held_drew (S := S) hm hS fun hs => ?_
  obtain ⟨h1, -⟩ := table_parts T
  subst h1
  rw [← upto_zero]
  exact h T hs
/-- Operation i is taken; it is wanted. -/
theorem tkp (i d : Nat) {oi : Oper} (v : Value) (T : Tab ops n cs) (hy : ∀ w, S w → (execOp a.eval oi).run P w = .ok (.value v) w) (hS : S w) (h : wpAt P ops Q S n (i + 1) (setT a d v) w)
    (hi : ops[i]? = some oi := by rfl)
    (hg : (oi.dst == some d && Region.wanted oi (yielded ops a.tmps)) = true := by kernel_rfl)
    (hQ : ∀ c a w, Q (.panic c) (a.put (some d) v) w → Q (.panic c) a w := by exact fun _ _ _ h => h) : wpAt P ops Q S n i a w := by
  obtain ⟨h1, h2, h3, h4, h5⟩ := table_parts T
  have hlt : i < n := by have := (Array.getElem?_eq_some_iff.1 hi).1; omega
  simp only [Bool.and_eq_true, beq_iff_eq] at hg
  rw [← put_setT] at h
  unfold wpAt at h ⊢
  rw [show n - i = (n - (i + 1)) + 1 by omega]
  rw [← upto_succ hlt] at h
  exact wpAnyH_take hi h2 (h3 i hlt).1 (h3 i hlt).2 (by rw [hg.1]; exact hQ) (Or.inl ⟨hg.2, hy⟩) hS (by rw [hg.1]; exact h)
/-- None of these is wanted; ds: the slots that they would fill. -/
def skipsD (ops : Array Oper) : Nat → List Nat → Array Value → Bool
  | _, [], _ => true
  | i, d :: ds, tm => match ops[i]? with
    | some o => (o.dst == some d) && (!(Region.wanted o (yielded ops tm)) && skipsD ops (i + 1) ds (tm.toList.set d undef).toArray)
    | none => false
theorem skp (T : Tab ops n cs) (hQ : ∀ (d : Nat) v c a w, Q (.panic c) (a.put (some d) v) w → Q (.panic c) a w) (hS : S w) :
    ∀ (ds : List Nat) (i : Nat) (a : Act), skipsD ops i ds a.tmps = true → wpAt P ops Q S n (i + ds.length) (ds.foldl (fun a d => setT a d undef) a) w → wpAt P ops Q S n i a w
  | [], _, _, _, h => h
  | d :: ds, i, a, hk, h => by
    unfold skipsD at hk
    split at hk
    · rename_i o ho
      simp only [Bool.and_eq_true, beq_iff_eq, Bool.not_eq_true'] at hk
      obtain ⟨k1, k2, k3⟩ := hk
      obtain ⟨h1, h2, h3, h4, h5⟩ := table_parts T
      have hlt : i < n := by have := (Array.getElem?_eq_some_iff.1 ho).1; omega
      have hr := skp T hQ hS ds (i + 1) (setT a d undef) (by simpa [setT] using k3) (by rw [show i + 1 + ds.length = i + (d :: ds).length by simp; omega]; exact h)
      rw [← put_setT] at hr
      unfold wpAt at hr ⊢
      rw [show n - i = (n - (i + 1)) + 1 by omega]
      rw [← upto_succ hlt] at hr
      exact wpAnyH_take (v := undef) ho h2 (h3 i hlt).1 (h3 i hlt).2 (fun c a w => by rw [k1]; exact hQ d _ c a w) (Or.inr ⟨k2, rfl⟩) hS (by rw [k1]; exact hr)
    · cases hk
theorem skj {i j : Nat} (ds : List Nat) (hj : i + ds.length = j) (T : Tab ops n cs) (hQ : ∀ (d : Nat) v c a w, Q (.panic c) (a.put (some d) v) w → Q (.panic c) a w) (hS : S w) (hk : skipsD ops i ds a.tmps = true)
    (h : wpAt P ops Q S n j (ds.foldl (fun a d => setT a d undef) a) w) : wpAt P ops Q S n i a w := skp T hQ hS ds i a hk (by rw [hj]; exact h)
/-- Operation i is a call: it comes up alone. -/
theorem clp (i : Nat) (T : Tab ops n cs) (hi : i ∈ cs) (h : AllReadyH P .any ops Q S (n - (i + 1)) (upto n i) a w [i]) : wpAt P ops Q S n i a w := by
  obtain ⟨h1, h2, h3, h4, h5⟩ := table_parts T
  have hlt := (h5 i hi).1
  unfold wpAt
  rw [show n - i = (n - (i + 1)) + 1 by omega]
  exact wpAnyH_ready (h5 i hi).2 (by simp) h
theorem wpAt_in {i f : Nat} {l : Array Bool} (hlt : i < n) (hf : f = n - (i + 1)) (hl : l = (upto n i).setIfInBounds i true) (h : wpAt P ops Q S n (i + 1) a w) : wpAnyH P .any ops Q S f l a w := by
  subst hf hl
  rw [upto_succ hlt]
  exact h
theorem wp_end (T : Tab ops n cs) (h : Q .normal a w) : wpAt P ops Q S n n a w := by
  obtain ⟨h1, h2, h3, h4, h5⟩ := table_parts T
  exact wpAnyH_done h4 h _
end
theorem putA {α : Type} (l : List α) (i : Nat) (a : α) : l.toArray.setIfInBounds i a = (l.set i a).toArray := by simp
theorem put0 {α : Type} (x : α) (l : List α) (a : α) : (x :: l).set 0 a = a :: l := rfl
theorem putS {α : Type} (x : α) (l : List α) (i : Nat) (a : α) : (x :: l).set (i + 1) a = x :: l.set i a := rfl

end Go.Proofs.Ytkdejfcdmjkndaa
