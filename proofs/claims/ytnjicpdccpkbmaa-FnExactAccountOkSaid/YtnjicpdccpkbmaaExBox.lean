/- What toBox, toBoxS of package laws do. -/
import Derived.Test.YtnjicpdccpkbmaaExMail
import Derived.Test.YtnjicpdccpkbmaaExGone
namespace Go.Proofs.Ytnjicpdccpkbmaa
open Go.RowKit
set_option linter.unusedVariables false

theorem in_chain {B B0 T0 T1 T2 : Nat} (h0 : B ≤ B0) (h1 : B0 ≤ T0) (h2 : T0 ≤ T1) (h3 : T1 ≤ T2) :
    (∀ x, In B0 T0 x → In B T2 x ∧ ¬ In T0 T1 x ∧ ¬ In T1 T2 x) ∧ (∀ x, In T0 T1 x → In B T2 x ∧ ¬ In T1 T2 x) ∧ (∀ x, In T1 T2 x → In B T2 x) := by
  unfold In
  refine ⟨fun x h => ⟨by omega, by omega, by omega⟩, fun x h => ⟨by omega, by omega⟩, fun x h => by omega⟩

set_option maxRecDepth 100000 in
set_option maxHeartbeats 1000000 in
theorem toBox_o (v : Value) (x : BoxD) (w : World) (hv : BoxV w v x) (h0 : szX x ≤ 2000000) :
    Calls Try.prog 18 #[v] w fun e w' => ∃ u, e = .returned u ∧ (∃ a n c p q r s t y, u = .agg #[.slice a n c, .int .i64 x.valid, .int .i64 x.next, .int .i64 x.seq, .slice p q r, .slice s t y, .int .i64 x.lost] ∧ BoxE w' [.slice a n c, .int .i64 x.valid, .int .i64 x.next, .int .i64 x.seq, .slice p q r, .slice s t y, .int .i64 x.lost] x (In w.heap.size w'.heap.size)) ∧ Below w.heap.size w w' := by
  obtain ⟨u0, u1, u2, rfl, g0, g1, g2, i0, i1, i2, i3⟩ := hv
  obtain ⟨name, valid, next, seq, mails, gones, lost⟩ := x
  simp only at g0 g1 g2 i0 i1 i2 i3
  have hs : name.length ≤ 2000000 ∧ szM mails ≤ 2000000 ∧ gones.length ≤ 2000000 := by unfold szX at h0; simp only at h0; omega
  clear h0
  have H0 : Hid (∀ wi, Below w.heap.size w wi → Bs wi u0 name ∧ MailsV wi u1 mails ∧ GonesV wi u2 gones) := fun wi h => ⟨g0.below h, g1.below keepsMail h, g2.below keepsGone h⟩
  obtain ⟨a0, n0, c0, rfl⟩ := g0.form3
  obtain ⟨a1, c1, rfl, -⟩ := g1.form
  obtain ⟨a2, c2, rfl, -⟩ := g2.form
  have HI : Hid (I64 valid ∧ I64 next ∧ I64 seq ∧ I64 lost) := ⟨i0, i1, i2, i3⟩
  clear g0 g1 g2 i0 i1 i2 i3
  simp only
  go_enter Try.func18, Try.ntmps18
  go_wp2_with fail
  refine (toByteS_r _ name _ (H0.out _ (box3_below w _ _ _)).1 hs.1).mono ?_
  rintro e w1 ⟨u0, rfl, R0, B⟩
  obtain ⟨x0, m0, y0, rfl⟩ := R0.bs.form3
  have b3 := box3 w (.cells #[.slice a0 n0 c0, .int .i64 valid, .int .i64 next, .int .i64 seq, .slice a1 mails.length c1, .slice a2 gones.length c2, .int .i64 lost] 46) (.cells #[.slice none 0 0, .int .i64 0, .int .i64 0, .int .i64 0, .slice none 0 0, .slice none 0 0, .int .i64 0] 51) (.cells #[.slice none 0 0, .int .i64 0, .int .i64 0, .int .i64 0, .slice none 0 0, .slice none 0 0, .int .i64 0] 51)
  have kA := box_below B b3.1
  have kR := box_below B b3.2.1
  have kO := box_below B b3.2.2
  have s1 : w.heap.size + 3 ≤ w1.heap.size := by have := B.size; simp at this; omega
  have X := Below.step (box3_below w _ _ _) B
  replace R0 := R0.wide (B' := w.heap.size + 3) (T' := w1.heap.size) (by simp) (Nat.le_refl _)
  clear b3 B
  obtain ⟨-, f1, f2, f3, f4, -, -⟩ := bx7 kA
  obtain ⟨oz, ol⟩ := box8z kO
  obtain ⟨o0, o1, o2, o3, o4, o5, o6⟩ := bx7 kO
  go_wp2_with fail
  clear f1 f2 f3 f4 oz ol o0 o1 o2 o3 o4 o5 o6
  replace X := X.setCell (p := ⟨w.heap.size + 1 + 1, 0, none⟩) (by simp; omega) (.slice x0 m0 y0)
  replace R0 := R0.set (g := w.heap.size + 1 + 1) (i := 0) (x := .slice x0 m0 y0) (.inl (by omega))
  replace kA := box_other (i := 0) (v := .slice x0 m0 y0) kA (show w.heap.size ≠ w.heap.size + 1 + 1 by omega)
  replace kR := box_other (i := 0) (v := .slice x0 m0 y0) kR (show w.heap.size + 1 ≠ w.heap.size + 1 + 1 by omega)
  replace kO : (World.setCell _ _ _).heap[w.heap.size + 1 + 1]? = some (Obj.cells #[.slice x0 m0 y0, .int .i64 0, .int .i64 0, .int .i64 0, .slice none 0 0, .slice none 0 0, .int .i64 0] 51) := box_set (i := 0) (v := .slice x0 m0 y0) kO
  replace X := X.setCell (p := ⟨w.heap.size + 1 + 1, 1, none⟩) (by simp; omega) (.int .i64 valid)
  replace R0 := R0.set (g := w.heap.size + 1 + 1) (i := 1) (x := .int .i64 valid) (.inl (by omega))
  replace kA := box_other (i := 1) (v := .int .i64 valid) kA (show w.heap.size ≠ w.heap.size + 1 + 1 by omega)
  replace kR := box_other (i := 1) (v := .int .i64 valid) kR (show w.heap.size + 1 ≠ w.heap.size + 1 + 1 by omega)
  replace kO : (World.setCell _ _ _).heap[w.heap.size + 1 + 1]? = some (Obj.cells #[.slice x0 m0 y0, .int .i64 valid, .int .i64 0, .int .i64 0, .slice none 0 0, .slice none 0 0, .int .i64 0] 51) := box_set (i := 1) (v := .int .i64 valid) kO
  replace X := X.setCell (p := ⟨w.heap.size + 1 + 1, 2, none⟩) (by simp; omega) (.int .i64 next)
  replace R0 := R0.set (g := w.heap.size + 1 + 1) (i := 2) (x := .int .i64 next) (.inl (by omega))
  replace kA := box_other (i := 2) (v := .int .i64 next) kA (show w.heap.size ≠ w.heap.size + 1 + 1 by omega)
  replace kR := box_other (i := 2) (v := .int .i64 next) kR (show w.heap.size + 1 ≠ w.heap.size + 1 + 1 by omega)
  replace kO : (World.setCell _ _ _).heap[w.heap.size + 1 + 1]? = some (Obj.cells #[.slice x0 m0 y0, .int .i64 valid, .int .i64 next, .int .i64 0, .slice none 0 0, .slice none 0 0, .int .i64 0] 51) := box_set (i := 2) (v := .int .i64 next) kO
  replace X := X.setCell (p := ⟨w.heap.size + 1 + 1, 3, none⟩) (by simp; omega) (.int .i64 seq)
  replace R0 := R0.set (g := w.heap.size + 1 + 1) (i := 3) (x := .int .i64 seq) (.inl (by omega))
  replace kA := box_other (i := 3) (v := .int .i64 seq) kA (show w.heap.size ≠ w.heap.size + 1 + 1 by omega)
  replace kR := box_other (i := 3) (v := .int .i64 seq) kR (show w.heap.size + 1 ≠ w.heap.size + 1 + 1 by omega)
  replace kO : (World.setCell _ _ _).heap[w.heap.size + 1 + 1]? = some (Obj.cells #[.slice x0 m0 y0, .int .i64 valid, .int .i64 next, .int .i64 seq, .slice none 0 0, .slice none 0 0, .int .i64 0] 51) := box_set (i := 3) (v := .int .i64 seq) kO
  refine (toMailS_r _ mails _ (H0.out _ X).2.1 hs.2.1).mono ?_
  rintro e w2 ⟨u1, rfl, R1, B⟩
  obtain ⟨x1, m1, y1, rfl⟩ := R1.form3
  simp only [box_size] at R1
  have s2 : w1.heap.size ≤ w2.heap.size := by have := B.size; simpa only [box_size] using this
  replace X := Below.step X B
  replace R0 := R0.below B
  replace kA := box_below B kA
  replace kR := box_below B kR
  replace kO := box_below B kO
  clear B
  obtain ⟨-, -, -, -, -, f5, -⟩ := bx7 kA
  obtain ⟨oz, ol⟩ := box8z kO
  obtain ⟨o0, o1, o2, o3, o4, o5, o6⟩ := bx7 kO
  go_wp2_with fail
  clear f5 oz ol o0 o1 o2 o3 o4 o5 o6
  replace X := X.setCell (p := ⟨w.heap.size + 1 + 1, 4, none⟩) (by simp; omega) (.slice x1 m1 y1)
  replace R0 := R0.set (g := w.heap.size + 1 + 1) (i := 4) (x := .slice x1 m1 y1) (.inl (by omega))
  replace R1 := R1.set (g := w.heap.size + 1 + 1) (i := 4) (x := .slice x1 m1 y1) (.inl (by omega))
  replace kA := box_other (i := 4) (v := .slice x1 m1 y1) kA (show w.heap.size ≠ w.heap.size + 1 + 1 by omega)
  replace kR := box_other (i := 4) (v := .slice x1 m1 y1) kR (show w.heap.size + 1 ≠ w.heap.size + 1 + 1 by omega)
  replace kO : (World.setCell _ _ _).heap[w.heap.size + 1 + 1]? = some (Obj.cells #[.slice x0 m0 y0, .int .i64 valid, .int .i64 next, .int .i64 seq, .slice x1 m1 y1, .slice none 0 0, .int .i64 0] 51) := box_set (i := 4) (v := .slice x1 m1 y1) kO
  refine (toGoneS_r _ gones _ (H0.out _ X).2.2 hs.2.2).mono ?_
  rintro e w3 ⟨u2, rfl, R2, B⟩
  obtain ⟨x2, m2, y2, rfl⟩ := R2.form3
  simp only [box_size] at R2
  have s3 : w2.heap.size ≤ w3.heap.size := by have := B.size; simpa only [box_size] using this
  replace X := Below.step X B
  replace R0 := R0.below B
  replace R1 := R1.below B
  replace kA := box_below B kA
  replace kR := box_below B kR
  replace kO := box_below B kO
  clear B
  obtain ⟨-, -, -, -, -, -, f6⟩ := bx7 kA
  obtain ⟨oz, ol⟩ := box8z kO
  obtain ⟨o0, o1, o2, o3, o4, o5, o6⟩ := bx7 kO
  obtain ⟨rz, rl⟩ := box8z kR
  obtain ⟨r0, r1, r2, r3, r4, r5, r6⟩ := bx7 kR
  go_wp2
  refine bodyPost_ret (v := .agg #[.slice x0 m0 y0, .int .i64 valid, .int .i64 next, .int .i64 seq, .slice x1 m1 y1, .slice x2 m2 y2, .int .i64 lost]) (by simp [results, Try.results18, go_sem, r0, r1, r2, r3, r4, r5, r6]) rfl ⟨_, rfl, ?_, ?_⟩
  · simp only [box_size]
    exact ⟨_, _, _, _, _, _, _, _, _, rfl, _, _, _, In (w.heap.size + 3) w1.heap.size, In w1.heap.size w2.heap.size, In w2.heap.size w3.heap.size, rfl, Row.ro ((((((((((R0.set (g := w.heap.size + 1 + 1) (i := 5) (x := .slice x2 m2 y2) (.inl (by omega))).set (g := w.heap.size + 1 + 1) (i := 6) (x := .int .i64 lost) (.inl (by omega))).set (g := w.heap.size + 1) (i := 0) (x := .slice x0 m0 y0) (.inl (by omega))).set (g := w.heap.size + 1) (i := 1) (x := .int .i64 valid) (.inl (by omega))).set (g := w.heap.size + 1) (i := 2) (x := .int .i64 next) (.inl (by omega))).set (g := w.heap.size + 1) (i := 3) (x := .int .i64 seq) (.inl (by omega))).set (g := w.heap.size + 1) (i := 4) (x := .slice x1 m1 y1) (.inl (by omega))).set (g := w.heap.size + 1) (i := 5) (x := .slice x2 m2 y2) (.inl (by omega))).set (g := w.heap.size + 1) (i := 6) (x := .int .i64 lost) (.inl (by omega)))), OwR.ow ((((((((((R1.set (g := w.heap.size + 1 + 1) (i := 5) (x := .slice x2 m2 y2) (.inl (by omega))).set (g := w.heap.size + 1 + 1) (i := 6) (x := .int .i64 lost) (.inl (by omega))).set (g := w.heap.size + 1) (i := 0) (x := .slice x0 m0 y0) (.inl (by omega))).set (g := w.heap.size + 1) (i := 1) (x := .int .i64 valid) (.inl (by omega))).set (g := w.heap.size + 1) (i := 2) (x := .int .i64 next) (.inl (by omega))).set (g := w.heap.size + 1) (i := 3) (x := .int .i64 seq) (.inl (by omega))).set (g := w.heap.size + 1) (i := 4) (x := .slice x1 m1 y1) (.inl (by omega))).set (g := w.heap.size + 1) (i := 5) (x := .slice x2 m2 y2) (.inl (by omega))).set (g := w.heap.size + 1) (i := 6) (x := .int .i64 lost) (.inl (by omega)))), OwR.ow ((((((((((R2.set (g := w.heap.size + 1 + 1) (i := 5) (x := .slice x2 m2 y2) (.inl (by omega))).set (g := w.heap.size + 1 + 1) (i := 6) (x := .int .i64 lost) (.inl (by omega))).set (g := w.heap.size + 1) (i := 0) (x := .slice x0 m0 y0) (.inl (by omega))).set (g := w.heap.size + 1) (i := 1) (x := .int .i64 valid) (.inl (by omega))).set (g := w.heap.size + 1) (i := 2) (x := .int .i64 next) (.inl (by omega))).set (g := w.heap.size + 1) (i := 3) (x := .int .i64 seq) (.inl (by omega))).set (g := w.heap.size + 1) (i := 4) (x := .slice x1 m1 y1) (.inl (by omega))).set (g := w.heap.size + 1) (i := 5) (x := .slice x2 m2 y2) (.inl (by omega))).set (g := w.heap.size + 1) (i := 6) (x := .int .i64 lost) (.inl (by omega)))), (in_chain (by omega) (by omega) (by omega) (by omega)).1, (in_chain (B0 := w.heap.size + 3) (by omega) (by omega) (by omega) (by omega)).2.1, (in_chain (B0 := w.heap.size + 3) (T0 := w1.heap.size) (by omega) (by omega) (by omega) (by omega)).2.2, HI.out⟩
  · exact (((((((((X.setCell (p := ⟨w.heap.size + 1 + 1, 5, none⟩) (by simp <;> omega) (.slice x2 m2 y2)).setCell (p := ⟨w.heap.size + 1 + 1, 6, none⟩) (by simp <;> omega) (.int .i64 lost)).setCell (p := ⟨w.heap.size + 1, 0, none⟩) (by simp <;> omega) (.slice x0 m0 y0)).setCell (p := ⟨w.heap.size + 1, 1, none⟩) (by simp <;> omega) (.int .i64 valid)).setCell (p := ⟨w.heap.size + 1, 2, none⟩) (by simp <;> omega) (.int .i64 next)).setCell (p := ⟨w.heap.size + 1, 3, none⟩) (by simp <;> omega) (.int .i64 seq)).setCell (p := ⟨w.heap.size + 1, 4, none⟩) (by simp <;> omega) (.slice x1 m1 y1)).setCell (p := ⟨w.heap.size + 1, 5, none⟩) (by simp <;> omega) (.slice x2 m2 y2)).setCell (p := ⟨w.heap.size + 1, 6, none⟩) (by simp <;> omega) (.int .i64 lost))

theorem infoBox : (Try.prog.info? 51).map (fun i => (i.zero, i.size, i.bytes)) = some (some (.agg #[.slice none 0 0, .int .i64 0, .int .i64 0, .int .i64 0, .slice none 0 0, .slice none 0 0, .int .i64 0]), 7, 104) := by kernel_rfl

set_option maxRecDepth 100000 in
set_option maxHeartbeats 1000000 in
theorem toBoxS_r (v : Value) (l : List BoxD) (w : World) (hv : BoxesV w v l) (hl : szXs l ≤ 2000000) :
    Calls Try.prog 37 #[v] w fun e w' => ∃ u, e = .returned u ∧ BoxesR w' w.heap.size w'.heap.size u l ∧ Below w.heap.size w w' := by
  have HV : Hid (∀ wi, Below w.heap.size w wi → BoxesV wi v l) := fun wi h => hv.below keepsBox h
  obtain ⟨a, cap, rfl, hlc, hcm⟩ := hv.form
  have hll : l.length ≤ 2000000 := by have := szXs_len l; omega
  clear hv
  obtain ⟨i0, hi, hz0, hz1, hz2⟩ := info_parts infoBox
  go_enter Try.func37, Try.ntmps37
  go_wp2_with (at_make; refine wpList_make_full _ rfl _ _ 37 rfl w.heap.size 51 i0 (.agg #[.slice none 0 0, .int .i64 0, .int .i64 0, .int .i64 0, .slice none 0 0, .slice none 0 0, .int .i64 0]) 7 Try.underlying37 hi hz0 hz1 _ _ _ _ l.length rfl rfl rfl rfl ?b1 ?b2 ?b3 ?_)
  case b1 => rw [hz2]; omega
  case b2 => unfold maxLen; omega
  case b3 => exact Nat.le_refl _
  intro w1 hown hgrow
  have HB : Hid (Below w.heap.size w w1) := (Below.refl w.heap.size w).grown hgrow (Nat.le_refl _) (by simp)
  have HP : Hid (Part 51 7 BoxE w1 w.heap.size l.length 0 l) := by obtain ⟨cur, h1, h2⟩ := made_part hown; exact Part.start h1 h2
  clear hown hgrow hi hz0 hz1 hz2
  go_wp2
  go_loopw [4] (fun i wr => ∃ k : Nat, k ≤ l.length ∧ i = .int .i64 k ∧ Hid (Part 51 7 BoxE wr w.heap.size l.length k l) ∧ Hid (Below w.heap.size w wr)) (fun i _ => l.length - (intOf i).toNat)
  case atStart => exact ⟨0, Nat.zero_le _, rfl, HP, HB⟩
  case round =>
    obtain ⟨k, hk, rfl, hP, hB⟩ := hrel
    by_cases hlt : k < l.length
    · obtain ⟨x, hx⟩ : ∃ x, l[k]? = some x := ⟨l[k], List.getElem?_eq_getElem hlt⟩
      obtain ⟨b, off, cap', u0, u1, u2, hv', hlb, d0, d1, d2, d3, d4, d5, d6, hu0, hu1, hu2, i0, i1, i2, i3⟩ := BoxesV.cell (HV.out wr hB.out) k x hx
      simp only [Value.slice.injEq, true_and] at hv'
      obtain ⟨rfl, rfl⟩ := hv'
      obtain ⟨ua, un, uc, rfl⟩ := hu0.form3
      obtain ⟨va, vc, rfl, -⟩ := hu1.form
      obtain ⟨wa, wc, rfl, -⟩ := hu2.form
      go_wp2_with fail
      refine (toBox_o _ x _ ⟨_, _, _, rfl, hu0, hu1, hu2, i0, i1, i2, i3⟩ (by have := szXs_mem (List.mem_of_getElem? hx); omega)).mono ?_
      rintro e w2 ⟨_, rfl, ⟨ya, yn, yc, za, zn, zc, ta, tn, tc, rfl, he⟩, B⟩
      clear d0 d1 d2 d3 d4 d5 d6
      have hs2 := B.size
      have HS : Hid (Part 51 7 BoxE (put w2 w.heap.size (k * 7) [.slice ya yn yc, .int .i64 x.valid, .int .i64 x.next, .int .i64 x.seq, .slice za zn zc, .slice ta tn tc, .int .i64 x.lost]) w.heap.size l.length (k + 1) l) := Part.step framesBox hP.out B x hx hlt _ rfl he
      have HB2 : Hid (Below w.heap.size w w2) := Below.step hB.out B
      have hgl := hP.out.lt
      have hgl2 : w.heap.size < w2.heap.size := by omega
      obtain ⟨q0, t0⟩ := (show ∃ u, w2.cell? ⟨w.heap.size, k * 7, none⟩ = some u from by obtain ⟨⟨u, hu⟩, -⟩ := hP.out.cell (k * 7) (by omega); exact ⟨u, (B.cell (p := ⟨w.heap.size, k * 7, none⟩) hgl).trans hu⟩)
      obtain ⟨q1, t1⟩ := (show ∃ u, w2.cell? ⟨w.heap.size, k * 7 + 1, none⟩ = some u from by obtain ⟨⟨u, hu⟩, -⟩ := hP.out.cell (k * 7 + 1) (by omega); exact ⟨u, (B.cell (p := ⟨w.heap.size, k * 7 + 1, none⟩) hgl).trans hu⟩)
      obtain ⟨q2, t2⟩ := (show ∃ u, w2.cell? ⟨w.heap.size, k * 7 + 2, none⟩ = some u from by obtain ⟨⟨u, hu⟩, -⟩ := hP.out.cell (k * 7 + 2) (by omega); exact ⟨u, (B.cell (p := ⟨w.heap.size, k * 7 + 2, none⟩) hgl).trans hu⟩)
      obtain ⟨q3, t3⟩ := (show ∃ u, w2.cell? ⟨w.heap.size, k * 7 + 3, none⟩ = some u from by obtain ⟨⟨u, hu⟩, -⟩ := hP.out.cell (k * 7 + 3) (by omega); exact ⟨u, (B.cell (p := ⟨w.heap.size, k * 7 + 3, none⟩) hgl).trans hu⟩)
      obtain ⟨q4, t4⟩ := (show ∃ u, w2.cell? ⟨w.heap.size, k * 7 + 4, none⟩ = some u from by obtain ⟨⟨u, hu⟩, -⟩ := hP.out.cell (k * 7 + 4) (by omega); exact ⟨u, (B.cell (p := ⟨w.heap.size, k * 7 + 4, none⟩) hgl).trans hu⟩)
      obtain ⟨q5, t5⟩ := (show ∃ u, w2.cell? ⟨w.heap.size, k * 7 + 5, none⟩ = some u from by obtain ⟨⟨u, hu⟩, -⟩ := hP.out.cell (k * 7 + 5) (by omega); exact ⟨u, (B.cell (p := ⟨w.heap.size, k * 7 + 5, none⟩) hgl).trans hu⟩)
      obtain ⟨q6, t6⟩ := (show ∃ u, w2.cell? ⟨w.heap.size, k * 7 + 6, none⟩ = some u from by obtain ⟨⟨u, hu⟩, -⟩ := hP.out.cell (k * 7 + 6) (by omega); exact ⟨u, (B.cell (p := ⟨w.heap.size, k * 7 + 6, none⟩) hgl).trans hu⟩)
      have fz : ∀ i, w2.frozen? ⟨w.heap.size, i, none⟩ = false := by
        intro i
        obtain ⟨cur, cs, fs, hh, -⟩ := hP.out
        exact frozen_of_row w2 w.heap.size i cur 51 (box_below B hh)
      clear hP hB B he
      go_wp2
      go_roundw
      case rel => exact ⟨k + 1, by omega, by go_num, HS, put_below HB2.out (Nat.le_refl _) (k * 7) [.slice ya yn yc, .int .i64 x.valid, .int .i64 x.next, .int .i64 x.seq, .slice za zn zc, .slice ta tn tc, .int .i64 x.lost]⟩
      case measure => simp [intOf]; omega
    · obtain rfl : k = l.length := by omega
      go_wp2
      go_ret
      exact ⟨_, rfl, Part.done hP.out rfl (by unfold maxLen; omega) (Nat.le_refl _), hB.out⟩

end Go.Proofs.Ytnjicpdccpkbmaa
