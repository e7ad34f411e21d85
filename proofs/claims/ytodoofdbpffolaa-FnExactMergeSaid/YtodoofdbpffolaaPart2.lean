/- The proof's texts, part 2. -/
import Derived.Test.YtodoofdbpffolaaPart1
import Derived.Deep.RegionHeld3

/- What toGone, toGoneS of package laws do. -/
namespace Go.Proofs.Ytodoofdbpffolaa
open Go.RowKit
set_option maxRecDepth 100000
set_option linter.unusedVariables false

set_option maxHeartbeats 400000 in
theorem toGone_o (x : GoneD) (w : World) :
    Calls Try.prog 39 #[.agg #[.int .i64 x.uid, .int .i64 x.seq]] w fun e w' => e = .returned (.agg #[.int .i64 x.uid, .int .i64 x.seq]) ∧ Below w.heap.size w w' := by
  obtain ⟨uid, seq⟩ := x
  simp only
  go_enter Try.func39, Try.ntmps39
  go_wp2
  exact bodyPost_ret (v := .agg #[.int .i64 uid, .int .i64 seq]) (by simp [results, Try.results39, go_sem]) rfl ⟨rfl, box3_below w _ _ _⟩

theorem infoGone : (Try.prog.info? 53).map (fun i => (i.zero, i.size, i.bytes)) = some (some (.agg #[.int .i64 0, .int .i64 0]), 2, 16) := by kernel_rfl

set_option maxRecDepth 100000 in
set_option maxHeartbeats 1000000 in
theorem toGoneS_r (v : Value) (l : List GoneD) (w : World) (hv : GonesV w v l) (hl : l.length ≤ 2000000) :
    Calls Try.prog 20 #[v] w fun e w' => ∃ u, e = .returned u ∧ GonesR w' w.heap.size w'.heap.size u l ∧ Below w.heap.size w w' := by
  have HV : Hid (∀ wi, Below w.heap.size w wi → GonesV wi v l) := fun wi h => hv.below keepsGone h
  obtain ⟨a, cap, rfl, hlc, hcm⟩ := hv.form
  have hll : l.length ≤ 2000000 := by have := Nat.le_refl l.length; omega
  clear hv
  obtain ⟨i0, hi, hz0, hz1, hz2⟩ := info_parts infoGone
  go_enter Try.func20, Try.ntmps20
  go_wp2_with (at_make; refine wpList_make_full _ rfl _ _ 29 rfl w.heap.size 53 i0 (.agg #[.int .i64 0, .int .i64 0]) 2 Try.underlying29 hi hz0 hz1 _ _ _ _ l.length rfl rfl rfl rfl ?b1 ?b2 ?b3 ?_)
  case b1 => rw [hz2]; omega
  case b2 => unfold maxLen; omega
  case b3 => exact Nat.le_refl _
  intro w1 hown hgrow
  have HB : Hid (Below w.heap.size w w1) := (Below.refl w.heap.size w).grown hgrow (Nat.le_refl _) (by simp)
  have HP : Hid (Part 53 2 GoneE w1 w.heap.size l.length 0 l) := by obtain ⟨cur, h1, h2⟩ := made_part hown; exact Part.start h1 h2
  clear hown hgrow hi hz0 hz1 hz2
  go_wp2
  go_loopw [4] (fun i wr => ∃ k : Nat, k ≤ l.length ∧ i = .int .i64 k ∧ Hid (Part 53 2 GoneE wr w.heap.size l.length k l) ∧ Hid (Below w.heap.size w wr)) (fun i _ => l.length - (intOf i).toNat)
  case atStart => exact ⟨0, Nat.zero_le _, rfl, HP, HB⟩
  case round =>
    obtain ⟨k, hk, rfl, hP, hB⟩ := hrel
    by_cases hlt : k < l.length
    · obtain ⟨x, hx⟩ : ∃ x, l[k]? = some x := ⟨l[k], List.getElem?_eq_getElem hlt⟩
      obtain ⟨b, off, cap', hv', hlb, d0, d1, i0, i1⟩ := GonesV.cell (HV.out wr hB.out) k x hx
      simp only [Value.slice.injEq, true_and] at hv'
      obtain ⟨rfl, rfl⟩ := hv'
      go_wp2_with fail
      refine (toGone_o x _).mono ?_
      rintro e w2 ⟨rfl, B⟩
      clear d0 d1
      have hs2 := B.size
      have HS : Hid (Part 53 2 GoneE (put w2 w.heap.size (k * 2) [.int .i64 x.uid, .int .i64 x.seq]) w.heap.size l.length (k + 1) l) := Part.step framesGone hP.out B x hx hlt _ rfl ⟨rfl, i0, i1⟩
      have HB2 : Hid (Below w.heap.size w w2) := Below.step hB.out B
      have hgl := hP.out.lt
      have hgl2 : w.heap.size < w2.heap.size := by omega
      obtain ⟨q0, t0⟩ := (show ∃ u, w2.cell? ⟨w.heap.size, k * 2, none⟩ = some u from by obtain ⟨⟨u, hu⟩, -⟩ := hP.out.cell (k * 2) (by omega); exact ⟨u, (B.cell (p := ⟨w.heap.size, k * 2, none⟩) hgl).trans hu⟩)
      obtain ⟨q1, t1⟩ := (show ∃ u, w2.cell? ⟨w.heap.size, k * 2 + 1, none⟩ = some u from by obtain ⟨⟨u, hu⟩, -⟩ := hP.out.cell (k * 2 + 1) (by omega); exact ⟨u, (B.cell (p := ⟨w.heap.size, k * 2 + 1, none⟩) hgl).trans hu⟩)
      have fz : ∀ i, w2.frozen? ⟨w.heap.size, i, none⟩ = false := by
        intro i
        obtain ⟨cur, cs, fs, hh, -⟩ := hP.out
        exact frozen_of_row w2 w.heap.size i cur 53 (box_below B hh)
      clear hP hB B 
      go_wp2
      go_roundw
      case rel => exact ⟨k + 1, by omega, by go_num, HS, put_below HB2.out (Nat.le_refl _) (k * 2) [.int .i64 x.uid, .int .i64 x.seq]⟩
      case measure => simp [intOf]; omega
    · obtain rfl : k = l.length := by omega
      go_wp2
      go_ret
      exact ⟨_, rfl, Part.done hP.out rfl (by unfold maxLen; omega) (Nat.le_refl _), hB.out⟩

end Go.Proofs.Ytodoofdbpffolaa

/- What toBox, toBoxS of package laws do. -/
namespace Go.Proofs.Ytodoofdbpffolaa
open Go.RowKit
set_option maxRecDepth 100000
set_option linter.unusedVariables false

theorem in_chain {B B0 T0 T1 T2 : Nat} (h0 : B ≤ B0) (h1 : B0 ≤ T0) (h2 : T0 ≤ T1) (h3 : T1 ≤ T2) :
    (∀ x, In B0 T0 x → In B T2 x ∧ ¬ In T0 T1 x ∧ ¬ In T1 T2 x) ∧ (∀ x, In T0 T1 x → In B T2 x ∧ ¬ In T1 T2 x) ∧ (∀ x, In T1 T2 x → In B T2 x) := by
  unfold In
  refine ⟨fun x h => ⟨by omega, by omega, by omega⟩, fun x h => ⟨by omega, by omega⟩, fun x h => by omega⟩

set_option maxRecDepth 100000 in
set_option maxHeartbeats 1000000 in
theorem toBox_o (v : Value) (x : BoxD) (w : World) (hv : BoxV w v x) (h0 : szX x ≤ 2000000) :
    Calls Try.prog 6 #[v] w fun e w' => ∃ u, e = .returned u ∧ (∃ a n c p q r s t y, u = .agg #[.slice a n c, .int .i64 x.valid, .int .i64 x.next, .int .i64 x.seq, .slice p q r, .slice s t y, .int .i64 x.lost] ∧ BoxE w' [.slice a n c, .int .i64 x.valid, .int .i64 x.next, .int .i64 x.seq, .slice p q r, .slice s t y, .int .i64 x.lost] x (In w.heap.size w'.heap.size)) ∧ Below w.heap.size w w' := by
  obtain ⟨u0, u1, u2, rfl, g0, g1, g2, i0, i1, i2, i3⟩ := hv
  obtain ⟨name, valid, next, seq, mails, gones, lost⟩ := x
  simp only at g0 g1 g2 i0 i1 i2 i3
  have hs : name.length ≤ 2000000 ∧ szM mails ≤ 2000000 ∧ gones.length ≤ 2000000 := by unfold szX at h0; simp only at h0; omega
  clear h0
  have H0 : Hid (∀ wi, Below w.heap.size w wi → Bs wi u0 name ∧ MailsV wi u1 mails ∧ GonesV wi u2 gones) := fun wi h => ⟨g0.below h, g1.below keepsMail h, g2.below keepsGone h⟩
  obtain ⟨a0, n0, c0, rfl⟩ := g0.form3
  obtain ⟨a1, c1, rfl, -⟩ := g1.form
  obtain ⟨a2, c2, rfl, -⟩ := g2.form
  have HI : Hid (I64 valid ∧ I64 next ∧ I64 seq ∧ I64 lost) := ⟨i0, i1, i2, i3⟩
  clear g0 g1 g2 i0 i1 i2 i3
  simp only
  go_enter Try.func6, Try.ntmps6
  go_wp2_with fail
  refine (toByteS_r _ name _ (H0.out _ (box3_below w _ _ _)).1 hs.1).mono ?_
  rintro e w1 ⟨u0, rfl, R0, B⟩
  obtain ⟨x0, m0, y0, rfl⟩ := R0.bs.form3
  have b3 := box3 w (.cells #[.slice a0 n0 c0, .int .i64 valid, .int .i64 next, .int .i64 seq, .slice a1 mails.length c1, .slice a2 gones.length c2, .int .i64 lost] 26) (.cells #[.slice none 0 0, .int .i64 0, .int .i64 0, .int .i64 0, .slice none 0 0, .slice none 0 0, .int .i64 0] 31) (.cells #[.slice none 0 0, .int .i64 0, .int .i64 0, .int .i64 0, .slice none 0 0, .slice none 0 0, .int .i64 0] 31)
  have kA := box_below B b3.1
  have kR := box_below B b3.2.1
  have kO := box_below B b3.2.2
  have s1 : w.heap.size + 3 ≤ w1.heap.size := by have := B.size; simp at this; omega
  have X := Below.step (box3_below w _ _ _) B
  replace R0 := R0.wide (B' := w.heap.size + 3) (T' := w1.heap.size) (by simp) (Nat.le_refl _)
  clear b3 B
  obtain ⟨-, f1, f2, f3, f4, -, -⟩ := bx7 kA
  obtain ⟨oz, ol⟩ := box8z kO
  obtain ⟨o0, o1, o2, o3, o4, o5, o6⟩ := bx7 kO
  go_wp2_with fail
  clear f1 f2 f3 f4 oz ol o0 o1 o2 o3 o4 o5 o6
  replace X := X.setCell (p := ⟨w.heap.size + 1 + 1, 0, none⟩) (by simp; omega) (.slice x0 m0 y0)
  replace R0 := R0.set (g := w.heap.size + 1 + 1) (i := 0) (x := .slice x0 m0 y0) (.inl (by omega))
  replace kA := box_other (i := 0) (v := .slice x0 m0 y0) kA (show w.heap.size ≠ w.heap.size + 1 + 1 by omega)
  replace kR := box_other (i := 0) (v := .slice x0 m0 y0) kR (show w.heap.size + 1 ≠ w.heap.size + 1 + 1 by omega)
  replace kO : (World.setCell _ _ _).heap[w.heap.size + 1 + 1]? = some (Obj.cells #[.slice x0 m0 y0, .int .i64 0, .int .i64 0, .int .i64 0, .slice none 0 0, .slice none 0 0, .int .i64 0] 31) := box_set (i := 0) (v := .slice x0 m0 y0) kO
  replace X := X.setCell (p := ⟨w.heap.size + 1 + 1, 1, none⟩) (by simp; omega) (.int .i64 valid)
  replace R0 := R0.set (g := w.heap.size + 1 + 1) (i := 1) (x := .int .i64 valid) (.inl (by omega))
  replace kA := box_other (i := 1) (v := .int .i64 valid) kA (show w.heap.size ≠ w.heap.size + 1 + 1 by omega)
  replace kR := box_other (i := 1) (v := .int .i64 valid) kR (show w.heap.size + 1 ≠ w.heap.size + 1 + 1 by omega)
  replace kO : (World.setCell _ _ _).heap[w.heap.size + 1 + 1]? = some (Obj.cells #[.slice x0 m0 y0, .int .i64 valid, .int .i64 0, .int .i64 0, .slice none 0 0, .slice none 0 0, .int .i64 0] 31) := box_set (i := 1) (v := .int .i64 valid) kO
  replace X := X.setCell (p := ⟨w.heap.size + 1 + 1, 2, none⟩) (by simp; omega) (.int .i64 next)
  replace R0 := R0.set (g := w.heap.size + 1 + 1) (i := 2) (x := .int .i64 next) (.inl (by omega))
  replace kA := box_other (i := 2) (v := .int .i64 next) kA (show w.heap.size ≠ w.heap.size + 1 + 1 by omega)
  replace kR := box_other (i := 2) (v := .int .i64 next) kR (show w.heap.size + 1 ≠ w.heap.size + 1 + 1 by omega)
  replace kO : (World.setCell _ _ _).heap[w.heap.size + 1 + 1]? = some (Obj.cells #[.slice x0 m0 y0, .int .i64 valid, .int .i64 next, .int .i64 0, .slice none 0 0, .slice none 0 0, .int .i64 0] 31) := box_set (i := 2) (v := .int .i64 next) kO
  replace X := X.setCell (p := ⟨w.heap.size + 1 + 1, 3, none⟩) (by simp; omega) (.int .i64 seq)
  replace R0 := R0.set (g := w.heap.size + 1 + 1) (i := 3) (x := .int .i64 seq) (.inl (by omega))
  replace kA := box_other (i := 3) (v := .int .i64 seq) kA (show w.heap.size ≠ w.heap.size + 1 + 1 by omega)
  replace kR := box_other (i := 3) (v := .int .i64 seq) kR (show w.heap.size + 1 ≠ w.heap.size + 1 + 1 by omega)
  replace kO : (World.setCell _ _ _).heap[w.heap.size + 1 + 1]? = some (Obj.cells #[.slice x0 m0 y0, .int .i64 valid, .int .i64 next, .int .i64 seq, .slice none 0 0, .slice none 0 0, .int .i64 0] 31) := box_set (i := 3) (v := .int .i64 seq) kO
  refine (toMailS_r _ mails _ (H0.out _ X).2.1 hs.2.1).mono ?_
  rintro e w2 ⟨u1, rfl, R1, B⟩
  obtain ⟨x1, m1, y1, rfl⟩ := R1.form3
  simp only [box_size] at R1
  have s2 : w1.heap.size ≤ w2.heap.size := by have := B.size; simpa only [box_size] using this
  replace X := Below.step X B
  replace R0 := R0.below B
  replace kA := box_below B kA
  replace kR := box_below B kR
  replace kO := box_below B kO
  clear B
  obtain ⟨-, -, -, -, -, f5, -⟩ := bx7 kA
  obtain ⟨oz, ol⟩ := box8z kO
  obtain ⟨o0, o1, o2, o3, o4, o5, o6⟩ := bx7 kO
  go_wp2_with fail
  clear f5 oz ol o0 o1 o2 o3 o4 o5 o6
  replace X := X.setCell (p := ⟨w.heap.size + 1 + 1, 4, none⟩) (by simp; omega) (.slice x1 m1 y1)
  replace R0 := R0.set (g := w.heap.size + 1 + 1) (i := 4) (x := .slice x1 m1 y1) (.inl (by omega))
  replace R1 := R1.set (g := w.heap.size + 1 + 1) (i := 4) (x := .slice x1 m1 y1) (.inl (by omega))
  replace kA := box_other (i := 4) (v := .slice x1 m1 y1) kA (show w.heap.size ≠ w.heap.size + 1 + 1 by omega)
  replace kR := box_other (i := 4) (v := .slice x1 m1 y1) kR (show w.heap.size + 1 ≠ w.heap.size + 1 + 1 by omega)
  replace kO : (World.setCell _ _ _).heap[w.heap.size + 1 + 1]? = some (Obj.cells #[.slice x0 m0 y0, .int .i64 valid, .int .i64 next, .int .i64 seq, .slice x1 m1 y1, .slice none 0 0, .int .i64 0] 31) := box_set (i := 4) (v := .slice x1 m1 y1) kO
  refine (toGoneS_r _ gones _ (H0.out _ X).2.2 hs.2.2).mono ?_
  rintro e w3 ⟨u2, rfl, R2, B⟩
  obtain ⟨x2, m2, y2, rfl⟩ := R2.form3
  simp only [box_size] at R2
  have s3 : w2.heap.size ≤ w3.heap.size := by have := B.size; simpa only [box_size] using this
  replace X := Below.step X B
  replace R0 := R0.below B
  replace R1 := R1.below B
  replace kA := box_below B kA
  replace kR := box_below B kR
  replace kO := box_below B kO
  clear B
  obtain ⟨-, -, -, -, -, -, f6⟩ := bx7 kA
  obtain ⟨oz, ol⟩ := box8z kO
  obtain ⟨o0, o1, o2, o3, o4, o5, o6⟩ := bx7 kO
  obtain ⟨rz, rl⟩ := box8z kR
  obtain ⟨r0, r1, r2, r3, r4, r5, r6⟩ := bx7 kR
  go_wp2
  refine bodyPost_ret (v := .agg #[.slice x0 m0 y0, .int .i64 valid, .int .i64 next, .int .i64 seq, .slice x1 m1 y1, .slice x2 m2 y2, .int .i64 lost]) (by simp [results, Try.results6, go_sem, r0, r1, r2, r3, r4, r5, r6]) rfl ⟨_, rfl, ?_, ?_⟩
  · simp only [box_size]
    exact ⟨_, _, _, _, _, _, _, _, _, rfl, _, _, _, In (w.heap.size + 3) w1.heap.size, In w1.heap.size w2.heap.size, In w2.heap.size w3.heap.size, rfl, Row.ro ((((((((((R0.set (g := w.heap.size + 1 + 1) (i := 5) (x := .slice x2 m2 y2) (.inl (by omega))).set (g := w.heap.size + 1 + 1) (i := 6) (x := .int .i64 lost) (.inl (by omega))).set (g := w.heap.size + 1) (i := 0) (x := .slice x0 m0 y0) (.inl (by omega))).set (g := w.heap.size + 1) (i := 1) (x := .int .i64 valid) (.inl (by omega))).set (g := w.heap.size + 1) (i := 2) (x := .int .i64 next) (.inl (by omega))).set (g := w.heap.size + 1) (i := 3) (x := .int .i64 seq) (.inl (by omega))).set (g := w.heap.size + 1) (i := 4) (x := .slice x1 m1 y1) (.inl (by omega))).set (g := w.heap.size + 1) (i := 5) (x := .slice x2 m2 y2) (.inl (by omega))).set (g := w.heap.size + 1) (i := 6) (x := .int .i64 lost) (.inl (by omega)))), OwR.ow ((((((((((R1.set (g := w.heap.size + 1 + 1) (i := 5) (x := .slice x2 m2 y2) (.inl (by omega))).set (g := w.heap.size + 1 + 1) (i := 6) (x := .int .i64 lost) (.inl (by omega))).set (g := w.heap.size + 1) (i := 0) (x := .slice x0 m0 y0) (.inl (by omega))).set (g := w.heap.size + 1) (i := 1) (x := .int .i64 valid) (.inl (by omega))).set (g := w.heap.size + 1) (i := 2) (x := .int .i64 next) (.inl (by omega))).set (g := w.heap.size + 1) (i := 3) (x := .int .i64 seq) (.inl (by omega))).set (g := w.heap.size + 1) (i := 4) (x := .slice x1 m1 y1) (.inl (by omega))).set (g := w.heap.size + 1) (i := 5) (x := .slice x2 m2 y2) (.inl (by omega))).set (g := w.heap.size + 1) (i := 6) (x := .int .i64 lost) (.inl (by omega)))), OwR.ow ((((((((((R2.set (g := w.heap.size + 1 + 1) (i := 5) (x := .slice x2 m2 y2) (.inl (by omega))).set (g := w.heap.size + 1 + 1) (i := 6) (x := .int .i64 lost) (.inl (by omega))).set (g := w.heap.size + 1) (i := 0) (x := .slice x0 m0 y0) (.inl (by omega))).set (g := w.heap.size + 1) (i := 1) (x := .int .i64 valid) (.inl (by omega))).set (g := w.heap.size + 1) (i := 2) (x := .int .i64 next) (.inl (by omega))).set (g := w.heap.size + 1) (i := 3) (x := .int .i64 seq) (.inl (by omega))).set (g := w.heap.size + 1) (i := 4) (x := .slice x1 m1 y1) (.inl (by omega))).set (g := w.heap.size + 1) (i := 5) (x := .slice x2 m2 y2) (.inl (by omega))).set (g := w.heap.size + 1) (i := 6) (x := .int .i64 lost) (.inl (by omega)))), (in_chain (by omega) (by omega) (by omega) (by omega)).1, (in_chain (B0 := w.heap.size + 3) (by omega) (by omega) (by omega) (by omega)).2.1, (in_chain (B0 := w.heap.size + 3) (T0 := w1.heap.size) (by omega) (by omega) (by omega) (by omega)).2.2, HI.out⟩
  · exact (((((((((X.setCell (p := ⟨w.heap.size + 1 + 1, 5, none⟩) (by simp <;> omega) (.slice x2 m2 y2)).setCell (p := ⟨w.heap.size + 1 + 1, 6, none⟩) (by simp <;> omega) (.int .i64 lost)).setCell (p := ⟨w.heap.size + 1, 0, none⟩) (by simp <;> omega) (.slice x0 m0 y0)).setCell (p := ⟨w.heap.size + 1, 1, none⟩) (by simp <;> omega) (.int .i64 valid)).setCell (p := ⟨w.heap.size + 1, 2, none⟩) (by simp <;> omega) (.int .i64 next)).setCell (p := ⟨w.heap.size + 1, 3, none⟩) (by simp <;> omega) (.int .i64 seq)).setCell (p := ⟨w.heap.size + 1, 4, none⟩) (by simp <;> omega) (.slice x1 m1 y1)).setCell (p := ⟨w.heap.size + 1, 5, none⟩) (by simp <;> omega) (.slice x2 m2 y2)).setCell (p := ⟨w.heap.size + 1, 6, none⟩) (by simp <;> omega) (.int .i64 lost))

theorem infoBox : (Try.prog.info? 31).map (fun i => (i.zero, i.size, i.bytes)) = some (some (.agg #[.slice none 0 0, .int .i64 0, .int .i64 0, .int .i64 0, .slice none 0 0, .slice none 0 0, .int .i64 0]), 7, 104) := by kernel_rfl

end Go.Proofs.Ytodoofdbpffolaa

/- What szByteS of package laws does. -/
namespace Go.Proofs.Ytodoofdbpffolaa
open Go.RowKit
set_option maxRecDepth 100000

/-- What is left of a size when n more are taken; -1: it does not suffice. -/
def szL' (left : Int) (n : Nat) : Int := if left - n < 0 then -1 else left - n

set_option maxHeartbeats 400000 in
theorem szByteS_any (v : Value) (l : List Int) (left : Int) (w : World) (hv : Bs w v l) (h0 : 0 ≤ left) (h1 : left ≤ 4000000) :
    Calls Try.prog 11 #[v, .int .i64 left] w fun e w' => e = .returned (.int .i64 (szL' left l.length)) ∧ w' = w := by
  obtain ⟨ho, a, cap, rfl, hlc, hcm, -⟩ := hv
  unfold maxLen at hcm
  by_cases hb : left - (l.length : Int) < 0
  · have HZ : Hid (szL' left l.length = -1) := by simp [Hid, szL', hb]
    go_enter Try.func11, Try.ntmps11
    go_wp2
    go_ret
    exact ⟨by rw [HZ.out]; rfl, rfl⟩
  · have HZ : Hid (szL' left l.length = left - l.length) := by simp [Hid, szL', hb]
    go_enter Try.func11, Try.ntmps11
    go_wp2
    go_ret
    exact ⟨by rw [HZ.out]; rfl, rfl⟩

theorem szL_or (left : Int) (n : Nat) : szL' left n = -1 ∨ (0 ≤ szL' left n ∧ szL' left n + n = left) := by
  unfold szL'
  split
  · exact .inl rfl
  · exact .inr ⟨by omega, by omega⟩

end Go.Proofs.Ytodoofdbpffolaa

/- What szMail, szMailS, szGoneS, szBox of package laws do. -/
namespace Go.Proofs.Ytodoofdbpffolaa
open Go.RowKit
set_option maxRecDepth 100000
set_option linter.unusedVariables false

def tot {α : Type} (f : α → Nat) (l : List α) : Nat := (l.map f).sum
theorem tot_succ {α : Type} (f : α → Nat) {l : List α} {k : Nat} {x : α} (hx : l[k]? = some x) : tot f (l.take (k + 1)) = tot f (l.take k) + f x := by
  obtain ⟨h, rfl⟩ := List.getElem?_eq_some_iff.1 hx
  unfold tot
  rw [List.take_succ_eq_append_getElem h, List.map_append, List.sum_append]
  simp
theorem szM_tot (l : List MailD) : szM l = tot (fun m => m.text.length) l + l.length := by
  induction l with
  | nil => rfl
  | cons x l ih => simp only [szM, tot, List.map_cons, List.sum_cons, List.length_cons] at ih ⊢; omega
theorem szXs_tot (l : List BoxD) : szXs l = tot szX l + l.length := by
  induction l with
  | nil => rfl
  | cons x l ih => simp only [szXs, tot, List.map_cons, List.sum_cons, List.length_cons] at ih ⊢; omega
theorem szByteS_e (v : Value) (l : List Int) (left : Int) (w : World) (hv : Bs w v l) (h0 : 0 ≤ left) (h1 : left ≤ 4000000) :
    Calls Try.prog 11 #[v, .int .i64 left] w fun e w' => ∃ y : Int, e = .returned (.int .i64 y) ∧ (y = -1 ∨ (0 ≤ y ∧ y + l.length = left)) ∧ Below w.heap.size w w' :=
  (szByteS_any v l left w hv h0 h1).mono fun _ _ ⟨h, hw⟩ => ⟨_, h, szL_or left l.length, by rw [hw]; exact Below.refl _ _⟩

set_option maxRecDepth 100000 in
set_option maxHeartbeats 1000000 in
theorem szMail_any (v : Value) (x : MailD) (left : Int) (w : World) (hv : MailV w v x) (h0 : 0 ≤ left) (h1 : left ≤ 4000000) :
    Calls Try.prog 35 #[v, .int .i64 left] w fun e w' => ∃ y : Int, e = .returned (.int .i64 y) ∧ (y = -1 ∨ (0 ≤ y ∧ y + x.text.length = left)) ∧ Below w.heap.size w w' := by
  obtain ⟨u, rfl, g0, -⟩ := hv
  obtain ⟨uid, flags, seq, text⟩ := x
  simp only at g0
  have H0 : Hid (∀ wi, Below w.heap.size w wi → Bs wi u text) := fun wi h => g0.below h
  obtain ⟨a0, n0, c0, rfl⟩ := g0.form3
  clear g0
  simp only
  have X : Below w.heap.size w (w.alloc (.cells #[.int .i64 uid, .int .i64 flags, .int .i64 seq, .slice a0 n0 c0] 63)) := (Below.refl _ _).alloc (Nat.le_refl _) _
  have kA := box_new w (.cells #[.int .i64 uid, .int .i64 flags, .int .i64 seq, .slice a0 n0 c0] 63)
  go_enter Try.func35, Try.ntmps35
  go_wp2_with fail
  refine (szByteS_e _ text left _ (H0.out _ X) h0 h1).mono ?_
  rintro e w1 ⟨y0, rfl, hy, B⟩
  replace X := Below.step X B
  replace kA := box_below B kA
  clear B
  obtain ⟨f0, f1, f2, f3⟩ := bx4 kA
  rcases hy with rfl | ⟨q0, p0⟩
  · go_wp2
    go_ret
    exact ⟨-1, rfl, .inl rfl, X⟩
  go_wp2
  go_ret
  exact ⟨y0, rfl, .inr ⟨q0, by omega⟩, X⟩

set_option maxRecDepth 100000 in
set_option maxHeartbeats 1000000 in
theorem szMailS_any (v : Value) (l : List MailD) (left : Int) (w : World) (hv : MailsV w v l) (h0 : 0 ≤ left) (h1 : left ≤ 4000000) :
    Calls Try.prog 12 #[v, .int .i64 left] w fun e w' => ∃ y : Int, e = .returned (.int .i64 y) ∧ (y = -1 ∨ (0 ≤ y ∧ y + szM l = left)) ∧ Below w.heap.size w w' := by
  have HV : Hid (∀ wi, Below w.heap.size w wi → MailsV wi v l) := fun wi h => hv.below keepsMail h
  obtain ⟨a, cap, rfl, hlc, hcm⟩ := hv.form
  clear hv
  by_cases hb : left - (l.length : Int) < 0
  · go_enter Try.func12, Try.ntmps12
    go_wp2
    go_ret
    exact ⟨-1, rfl, .inl rfl, Below.refl _ _⟩
  · go_enter Try.func12, Try.ntmps12
    go_wp2
    go_loopw [1, 5] (fun q i wr => ∃ (k : Nat) (y : Int), k ≤ l.length ∧ i = .int .i64 k ∧ q = .int .i64 y ∧ 0 ≤ y ∧ Hid (y + l.length + tot (fun m => m.text.length) (l.take k) = left) ∧ Hid (Below w.heap.size w wr)) (fun _ i _ => l.length - (intOf i).toNat)
    case atStart => exact ⟨0, left - l.length, Nat.zero_le _, rfl, rfl, by omega, (show Hid _ from by simp [Hid, tot]), Below.refl _ _⟩
    case round =>
      obtain ⟨k, y, hk, rfl, rfl, hy0, hy1, hB⟩ := hrel
      by_cases hlt : k < l.length
      · obtain ⟨x, hx⟩ : ∃ x, l[k]? = some x := ⟨l[k], List.getElem?_eq_getElem hlt⟩
        obtain ⟨b, off, cap', u, hv', hlb, d0, d1, d2, d3, hu, i0, i1, i2⟩ := MailsV.cell (HV.out wr hB.out) k x hx
        simp only [Value.slice.injEq, true_and] at hv'
        obtain ⟨rfl, rfl⟩ := hv'
        obtain ⟨ua, un, uc, rfl⟩ := hu.form3
        have HT : Hid (tot (fun m => m.text.length) (l.take (k + 1)) = tot (fun m => m.text.length) (l.take k) + (fun m => m.text.length) x) := tot_succ _ hx
        go_wp2_with fail
        refine (szMail_any _ x _ _ ⟨_, rfl, hu, i0, i1, i2⟩ hy0 (by have := hy1.out; omega)).mono ?_
        rintro e w2 ⟨y2, rfl, hy2, B⟩
        have HB2 : Hid (Below w.heap.size w w2) := Below.step hB.out B
        clear B hB d0 d1 d2 d3
        rcases hy2 with rfl | ⟨q0, q1⟩
        · go_wp2
          go_ret
          exact ⟨-1, rfl, .inl rfl, HB2.out⟩
        · have HE : Hid (y2 + l.length + tot (fun m => m.text.length) (l.take (k + 1)) = left) := by
            have h1 := HT.out
            have h2 := hy1.out
            simp only [Hid]
            omega
          clear q1
          go_wp2
          go_roundw
          case rel => exact ⟨k + 1, y2, by omega, by go_num, rfl, q0, HE, HB2⟩
          case measure => simp [intOf]; omega
      · obtain rfl : k = l.length := by omega
        go_wp2
        go_ret
        refine ⟨y, rfl, .inr ⟨hy0, ?_⟩, hB.out⟩
        have h2 := hy1.out
        rw [List.take_length] at h2
        have h3 := szM_tot l
        omega

set_option maxRecDepth 100000 in
set_option maxHeartbeats 1000000 in
theorem szGoneS_any (v : Value) (l : List GoneD) (left : Int) (w : World) (hv : GonesV w v l) (h0 : 0 ≤ left) (h1 : left ≤ 4000000) :
    Calls Try.prog 13 #[v, .int .i64 left] w fun e w' => ∃ y : Int, e = .returned (.int .i64 y) ∧ (y = -1 ∨ (0 ≤ y ∧ y + l.length = left)) ∧ Below w.heap.size w w' := by
  obtain ⟨a, cap, rfl, hlc, hcm⟩ := hv.form
  clear hv
  by_cases hb : left - (l.length : Int) < 0
  · go_enter Try.func13, Try.ntmps13
    go_wp2
    go_ret
    exact ⟨-1, rfl, .inl rfl, Below.refl _ _⟩
  · go_enter Try.func13, Try.ntmps13
    go_wp2
    go_ret
    exact ⟨left - l.length, rfl, .inr ⟨by omega, by omega⟩, Below.refl _ _⟩

set_option maxRecDepth 100000 in
set_option maxHeartbeats 1000000 in
theorem szBox_any (v : Value) (x : BoxD) (left : Int) (w : World) (hv : BoxV w v x) (h0 : 0 ≤ left) (h1 : left ≤ 4000000) :
    Calls Try.prog 4 #[v, .int .i64 left] w fun e w' => ∃ y : Int, e = .returned (.int .i64 y) ∧ (y = -1 ∨ (0 ≤ y ∧ y + szX x = left)) ∧ Below w.heap.size w w' := by
  obtain ⟨u0, u1, u2, rfl, g0, g1, g2, -⟩ := hv
  unfold szX
  obtain ⟨name, valid, next, seq, mails, gones, lost⟩ := x
  simp only at g0 g1 g2
  have H0 : Hid (∀ wi, Below w.heap.size w wi → Bs wi u0 name ∧ MailsV wi u1 mails ∧ GonesV wi u2 gones) := fun wi h => ⟨g0.below h, g1.below keepsMail h, g2.below keepsGone h⟩
  obtain ⟨a0, n0, c0, rfl⟩ := g0.form3
  obtain ⟨a1, c1, rfl, -⟩ := g1.form
  obtain ⟨a2, c2, rfl, -⟩ := g2.form
  clear g0 g1 g2
  simp only
  have X : Below w.heap.size w (w.alloc (.cells #[.slice a0 n0 c0, .int .i64 valid, .int .i64 next, .int .i64 seq, .slice a1 mails.length c1, .slice a2 gones.length c2, .int .i64 lost] 26)) := (Below.refl _ _).alloc (Nat.le_refl _) _
  have kA := box_new w (.cells #[.slice a0 n0 c0, .int .i64 valid, .int .i64 next, .int .i64 seq, .slice a1 mails.length c1, .slice a2 gones.length c2, .int .i64 lost] 26)
  go_enter Try.func4, Try.ntmps4
  go_wp2_with fail
  refine (szByteS_e _ name left _ (H0.out _ X).1 h0 h1).mono ?_
  rintro e w1 ⟨y0, rfl, hy, B⟩
  replace X := Below.step X B
  replace kA := box_below B kA
  clear B
  obtain ⟨f0, f1, f2, f3, f4, f5, f6⟩ := bx7 kA
  rcases hy with rfl | ⟨q0, p0⟩
  · go_wp2
    go_ret
    exact ⟨-1, rfl, .inl rfl, X⟩
  go_wp2_with fail
  clear f0 f1 f2 f3 f4 f5 f6
  refine (szMailS_any _ mails y0 _ (H0.out _ X).2.1 q0 (by omega)).mono ?_
  rintro e w2 ⟨y1, rfl, hy, B⟩
  replace X := Below.step X B
  replace kA := box_below B kA
  clear B
  obtain ⟨f0, f1, f2, f3, f4, f5, f6⟩ := bx7 kA
  rcases hy with rfl | ⟨q1, p1⟩
  · go_wp2
    go_ret
    exact ⟨-1, rfl, .inl rfl, X⟩
  go_wp2_with fail
  clear f0 f1 f2 f3 f4 f5 f6
  refine (szGoneS_any _ gones y1 _ (H0.out _ X).2.2 q1 (by omega)).mono ?_
  rintro e w3 ⟨y2, rfl, hy, B⟩
  replace X := Below.step X B
  replace kA := box_below B kA
  clear B
  obtain ⟨f0, f1, f2, f3, f4, f5, f6⟩ := bx7 kA
  rcases hy with rfl | ⟨q2, p2⟩
  · go_wp2
    go_ret
    exact ⟨-1, rfl, .inl rfl, X⟩
  go_wp2
  go_ret
  exact ⟨y2, rfl, .inr ⟨q2, by omega⟩, X⟩

end Go.Proofs.Ytodoofdbpffolaa

/- What szBoxS, szIntS, szAccount of package laws do. -/
namespace Go.Proofs.Ytodoofdbpffolaa
open Go.RowKit
set_option linter.unusedVariables false

end Go.Proofs.Ytodoofdbpffolaa

/- What eqMail, eqMailS, eqGone, eqGoneS, eqBox of package laws do. -/
namespace Go.Proofs.Ytodoofdbpffolaa
open Go.RowKit
set_option maxRecDepth 100000
set_option linter.unusedVariables false

set_option maxRecDepth 100000 in
set_option maxHeartbeats 1000000 in
theorem eqMail_yes (v u : Value) (x : MailD) (w : World) (hv : MailV w v x) (hu : MailV w u x) :
    Calls Try.prog 48 #[v, u] w fun e w' => e = .returned (.bool true) ∧ Below w.heap.size w w' := by
  obtain ⟨u0, rfl, g0, -⟩ := hv
  obtain ⟨u1, rfl, g1, -⟩ := hu
  obtain ⟨uid, flags, seq, text⟩ := x
  simp only at g0 g1
  have H0 : Hid (∀ wi, Below w.heap.size w wi → Bs wi u0 text ∧ Bs wi u1 text) := fun wi h => ⟨g0.below h, g1.below h⟩
  obtain ⟨a0, n0, c0, rfl⟩ := g0.form3
  obtain ⟨a1, n1, c1, rfl⟩ := g1.form3
  clear g0 g1
  simp only
  obtain ⟨kA, kB, X⟩ := boxes2 w (.cells #[.int .i64 uid, .int .i64 flags, .int .i64 seq, .slice a0 n0 c0] 43) (.cells #[.int .i64 uid, .int .i64 flags, .int .i64 seq, .slice a1 n1 c1] 43)
  go_enter Try.func48, Try.ntmps48
  go_wp2_with fail
  refine (eqByteS_yes _ _ text _ (H0.out _ X).1 (H0.out _ X).2).mono ?_
  rintro e w1 ⟨rfl, B⟩
  replace X := Below.step X B
  replace kA := box_below B kA
  replace kB := box_below B kB
  clear B
  obtain ⟨f0, f1, f2, f3⟩ := bx4 kA
  obtain ⟨e0, e1, e2, e3⟩ := bx4 kB
  go_wp2
  go_ret
  exact ⟨rfl, X⟩

set_option maxRecDepth 100000 in
set_option maxHeartbeats 1000000 in
theorem eqMailS_yes (v u : Value) (l : List MailD) (w : World) (hv : MailsV w v l) (hu : MailsV w u l) :
    Calls Try.prog 27 #[v, u] w fun e w' => e = .returned (.bool true) ∧ Below w.heap.size w w' := by
  have HV : Hid (∀ wi, Below w.heap.size w wi → MailsV wi v l ∧ MailsV wi u l) := fun wi h => ⟨hv.below keepsMail h, hu.below keepsMail h⟩
  obtain ⟨a, cap, rfl, hlc, hcm⟩ := hv.form
  obtain ⟨a2, cap2, rfl, hlc2, hcm2⟩ := hu.form
  clear hv hu
  go_enter Try.func27, Try.ntmps27
  go_wp2
  go_loopw [5] (fun i wr => ∃ k : Nat, k ≤ l.length ∧ i = .int .i64 k ∧ Hid (Below w.heap.size w wr)) (fun i _ => l.length - (intOf i).toNat)
  case atStart => exact ⟨0, Nat.zero_le _, rfl, Below.refl _ _⟩
  case round =>
    obtain ⟨k, hk, rfl, hB⟩ := hrel
    by_cases hlt : k < l.length
    · obtain ⟨x, hx⟩ : ∃ x, l[k]? = some x := ⟨l[k], List.getElem?_eq_getElem hlt⟩
      have DR : Below wr.heap.size wr wr.drew := (Below.refl _ _).drew
      obtain ⟨b, off, cap', u, hv', hlb, d0, d1, d2, d3, hu, i0, i1, i2⟩ := MailsV.cell (HV.out wr hB.out).1 k x hx
      obtain ⟨b2, off2, cap2', u2, hv2, hlb2, z0, z1, z2, z3, hu2, j0, j1, j2⟩ := MailsV.cell (HV.out wr hB.out).2 k x hx
      simp only [Value.slice.injEq, true_and] at hv' hv2
      obtain ⟨rfl, rfl⟩ := hv'
      obtain ⟨rfl, rfl⟩ := hv2
      obtain ⟨ua, un, uc, rfl⟩ := hu.form3
      obtain ⟨ta, tn, tc, rfl⟩ := hu2.form3
      have HA : Hid (MailV wr.drew (.agg #[.int .i64 x.uid, .int .i64 x.flags, .int .i64 x.seq, .slice ua un uc]) x ∧ MailV wr.drew (.agg #[.int .i64 x.uid, .int .i64 x.flags, .int .i64 x.seq, .slice ta tn tc]) x) := ⟨⟨_, rfl, hu.below DR, i0, i1, i2⟩, ⟨_, rfl, hu2.below DR, j0, j1, j2⟩⟩
      go_wp2
      go_region_held3 (fun w' => w'.cell? ⟨b, off + k * 4, none⟩ = some (.int .i64 x.uid) ∧ w'.cell? ⟨b, off + k * 4 + 1, none⟩ = some (.int .i64 x.flags) ∧ w'.cell? ⟨b, off + k * 4 + 2, none⟩ = some (.int .i64 x.seq) ∧ w'.cell? ⟨b, off + k * 4 + 3, none⟩ = some (.slice ua un uc) ∧ w'.cell? ⟨b2, off2 + k * 4, none⟩ = some (.int .i64 x.uid) ∧ w'.cell? ⟨b2, off2 + k * 4 + 1, none⟩ = some (.int .i64 x.flags) ∧ w'.cell? ⟨b2, off2 + k * 4 + 2, none⟩ = some (.int .i64 x.seq) ∧ w'.cell? ⟨b2, off2 + k * 4 + 3, none⟩ = some (.slice ta tn tc))
        (first | go_keep | exact ⟨d0, d1, d2, d3, z0, z1, z2, z3⟩ | exact ⟨(B.cell (p := ⟨_, _, none⟩) (by exact hlb)).trans d0, (B.cell (p := ⟨_, _, none⟩) (by exact hlb)).trans d1, (B.cell (p := ⟨_, _, none⟩) (by exact hlb)).trans d2, (B.cell (p := ⟨_, _, none⟩) (by exact hlb)).trans d3, (B.cell (p := ⟨_, _, none⟩) (by exact hlb2)).trans z0, (B.cell (p := ⟨_, _, none⟩) (by exact hlb2)).trans z1, (B.cell (p := ⟨_, _, none⟩) (by exact hlb2)).trans z2, (B.cell (p := ⟨_, _, none⟩) (by exact hlb2)).trans z3⟩)
        ((go_at_call 48; refine (eqMail_yes _ _ x _ HA.out.1 HA.out.2).mono ?_; rintro e w1 ⟨rfl, B⟩))
      have HB2 : Hid (Below w.heap.size w w1) := Below.step (Below.step hB.out DR) B
      clear d0 d1 d2 d3 z0 z1 z2 z3 B hB
      go_wp2
      go_roundw
      case rel => exact ⟨k + 1, by omega, by go_num, HB2⟩
      case measure => simp [intOf]; omega
    · go_wp2
      go_ret
      exact ⟨rfl, hB.out⟩

set_option maxRecDepth 100000 in
set_option maxHeartbeats 1000000 in
theorem eqGone_yes (v u : Value) (x : GoneD) (w : World) (hv : v = .agg #[.int .i64 x.uid, .int .i64 x.seq]) (hu : u = .agg #[.int .i64 x.uid, .int .i64 x.seq]) :
    Calls Try.prog 49 #[v, u] w fun e w' => e = .returned (.bool true) ∧ Below w.heap.size w w' := by
  subst hv
  subst hu
  obtain ⟨uid, seq⟩ := x
  simp only
  obtain ⟨kA, kB, X⟩ := boxes2 w (.cells #[.int .i64 uid, .int .i64 seq] 53) (.cells #[.int .i64 uid, .int .i64 seq] 53)
  go_enter Try.func49, Try.ntmps49
  go_wp2
  go_ret
  exact ⟨rfl, X⟩

set_option maxRecDepth 100000 in
set_option maxHeartbeats 1000000 in
theorem eqGoneS_yes (v u : Value) (l : List GoneD) (w : World) (hv : GonesV w v l) (hu : GonesV w u l) :
    Calls Try.prog 28 #[v, u] w fun e w' => e = .returned (.bool true) ∧ Below w.heap.size w w' := by
  have HV : Hid (∀ wi, Below w.heap.size w wi → GonesV wi v l ∧ GonesV wi u l) := fun wi h => ⟨hv.below keepsGone h, hu.below keepsGone h⟩
  obtain ⟨a, cap, rfl, hlc, hcm⟩ := hv.form
  obtain ⟨a2, cap2, rfl, hlc2, hcm2⟩ := hu.form
  clear hv hu
  go_enter Try.func28, Try.ntmps28
  go_wp2
  go_loopw [5] (fun i wr => ∃ k : Nat, k ≤ l.length ∧ i = .int .i64 k ∧ Hid (Below w.heap.size w wr)) (fun i _ => l.length - (intOf i).toNat)
  case atStart => exact ⟨0, Nat.zero_le _, rfl, Below.refl _ _⟩
  case round =>
    obtain ⟨k, hk, rfl, hB⟩ := hrel
    by_cases hlt : k < l.length
    · obtain ⟨x, hx⟩ : ∃ x, l[k]? = some x := ⟨l[k], List.getElem?_eq_getElem hlt⟩
      have DR : Below wr.heap.size wr wr.drew := (Below.refl _ _).drew
      obtain ⟨b, off, cap', hv', hlb, d0, d1, i0, i1⟩ := GonesV.cell (HV.out wr hB.out).1 k x hx
      obtain ⟨b2, off2, cap2', hv2, hlb2, z0, z1, j0, j1⟩ := GonesV.cell (HV.out wr hB.out).2 k x hx
      simp only [Value.slice.injEq, true_and] at hv' hv2
      obtain ⟨rfl, rfl⟩ := hv'
      obtain ⟨rfl, rfl⟩ := hv2
      have HA : Hid (True) := trivial
      go_wp2
      go_region_held3 (fun w' => w'.cell? ⟨b, off + k * 2, none⟩ = some (.int .i64 x.uid) ∧ w'.cell? ⟨b, off + k * 2 + 1, none⟩ = some (.int .i64 x.seq) ∧ w'.cell? ⟨b2, off2 + k * 2, none⟩ = some (.int .i64 x.uid) ∧ w'.cell? ⟨b2, off2 + k * 2 + 1, none⟩ = some (.int .i64 x.seq))
        (first | go_keep | exact ⟨d0, d1, z0, z1⟩ | exact ⟨(B.cell (p := ⟨_, _, none⟩) (by exact hlb)).trans d0, (B.cell (p := ⟨_, _, none⟩) (by exact hlb)).trans d1, (B.cell (p := ⟨_, _, none⟩) (by exact hlb2)).trans z0, (B.cell (p := ⟨_, _, none⟩) (by exact hlb2)).trans z1⟩)
        ((go_at_call 49; refine (eqGone_yes _ _ x _ rfl rfl).mono ?_; rintro e w1 ⟨rfl, B⟩))
      have HB2 : Hid (Below w.heap.size w w1) := Below.step (Below.step hB.out DR) B
      clear d0 d1 z0 z1 B hB
      go_wp2
      go_roundw
      case rel => exact ⟨k + 1, by omega, by go_num, HB2⟩
      case measure => simp [intOf]; omega
    · go_wp2
      go_ret
      exact ⟨rfl, hB.out⟩

set_option maxRecDepth 100000 in
set_option maxHeartbeats 1000000 in
theorem eqBox_yes (v u : Value) (x : BoxD) (w : World) (hv : BoxV w v x) (hu : BoxV w u x) :
    Calls Try.prog 8 #[v, u] w fun e w' => e = .returned (.bool true) ∧ Below w.heap.size w w' := by
  obtain ⟨u0, u1, u2, rfl, g0, g1, g2, -⟩ := hv
  obtain ⟨u3, u4, u5, rfl, g3, g4, g5, -⟩ := hu
  obtain ⟨name, valid, next, seq, mails, gones, lost⟩ := x
  simp only at g0 g1 g2 g3 g4 g5
  have H0 : Hid (∀ wi, Below w.heap.size w wi → (Bs wi u0 name ∧ Bs wi u3 name) ∧ (MailsV wi u1 mails ∧ MailsV wi u4 mails) ∧ (GonesV wi u2 gones ∧ GonesV wi u5 gones)) := fun wi h => ⟨⟨g0.below h, g3.below h⟩, ⟨g1.below keepsMail h, g4.below keepsMail h⟩, ⟨g2.below keepsGone h, g5.below keepsGone h⟩⟩
  obtain ⟨a0, n0, c0, rfl⟩ := g0.form3
  obtain ⟨a1, c1, rfl, -⟩ := g1.form
  obtain ⟨a2, c2, rfl, -⟩ := g2.form
  obtain ⟨a3, n3, c3, rfl⟩ := g3.form3
  obtain ⟨a4, c4, rfl, -⟩ := g4.form
  obtain ⟨a5, c5, rfl, -⟩ := g5.form
  clear g0 g1 g2 g3 g4 g5
  simp only
  obtain ⟨kA, kB, X⟩ := boxes2 w (.cells #[.slice a0 n0 c0, .int .i64 valid, .int .i64 next, .int .i64 seq, .slice a1 mails.length c1, .slice a2 gones.length c2, .int .i64 lost] 31) (.cells #[.slice a3 n3 c3, .int .i64 valid, .int .i64 next, .int .i64 seq, .slice a4 mails.length c4, .slice a5 gones.length c5, .int .i64 lost] 31)
  go_enter Try.func8, Try.ntmps8
  go_wp2_with fail
  refine (eqByteS_yes _ _ name _ (H0.out _ X).1.1 (H0.out _ X).1.2).mono ?_
  rintro e w1 ⟨rfl, B⟩
  replace X := Below.step X B
  replace kA := box_below B kA
  replace kB := box_below B kB
  clear B
  obtain ⟨f0, f1, f2, f3, f4, f5, f6⟩ := bx7 kA
  obtain ⟨e0, e1, e2, e3, e4, e5, e6⟩ := bx7 kB
  go_wp2_with fail
  clear f0 e0 f1 e1 f2 e2 f3 e3 f4 e4 f5 e5 f6 e6
  refine (eqMailS_yes _ _ mails _ (H0.out _ X).2.1.1 (H0.out _ X).2.1.2).mono ?_
  rintro e w2 ⟨rfl, B⟩
  replace X := Below.step X B
  replace kA := box_below B kA
  replace kB := box_below B kB
  clear B
  obtain ⟨f0, f1, f2, f3, f4, f5, f6⟩ := bx7 kA
  obtain ⟨e0, e1, e2, e3, e4, e5, e6⟩ := bx7 kB
  go_wp2_with fail
  clear f0 e0 f1 e1 f2 e2 f3 e3 f4 e4 f5 e5 f6 e6
  refine (eqGoneS_yes _ _ gones _ (H0.out _ X).2.2.1 (H0.out _ X).2.2.2).mono ?_
  rintro e w3 ⟨rfl, B⟩
  replace X := Below.step X B
  replace kA := box_below B kA
  replace kB := box_below B kB
  clear B
  obtain ⟨f0, f1, f2, f3, f4, f5, f6⟩ := bx7 kA
  obtain ⟨e0, e1, e2, e3, e4, e5, e6⟩ := bx7 kB
  go_wp2
  go_ret
  exact ⟨rfl, X⟩

end Go.Proofs.Ytodoofdbpffolaa

/- What eqBoxS, eqIntS, eqAccount of package laws do. -/
namespace Go.Proofs.Ytodoofdbpffolaa
open Go.RowKit
set_option linter.unusedVariables false

end Go.Proofs.Ytodoofdbpffolaa

/- One element of a list of the call's own is written anew. -/
namespace Go.Proofs.Ytodoofdbpffolaa
open Go.RowKit

/-- What is known of element i, and what gives the list back behind a write to it. -/
theorem Ow.upd {α : Type} {t : TypeId} {sz : Nat} {E : World → List Value → α → (Nat → Prop) → Prop} {w : World} {S : Nat → Prop} {v : Value} {l : List α} (hE : Frames E) (h : Ow t sz E w S v l) (i : Nat) (x : α) (hx : l[i]? = some x) :
    ∃ (g cap : Nat) (cur : Array Value) (c : List Value) (f : Nat → Prop), v = .slice (some ⟨g, 0, none⟩) l.length cap ∧ l.length ≤ cap ∧ cap ≤ maxLen ∧ w.heap[g]? = some (.cells cur t (0, 0)) ∧ i * sz + sz ≤ cur.size ∧ S g ∧ E w c x f ∧ c.length = sz ∧
      (∀ j u, c[j]? = some u → cur[i * sz + j]? = some u) ∧ (∀ b, f b → S b ∧ b ≠ g) ∧
      ∀ (w' : World) (cur' : Array Value) (c' : List Value) (x' : α), w'.heap[g]? = some (.cells cur' t (0, 0)) → cur'.size = cur.size → (∀ j u, c'[j]? = some u → cur'[i * sz + j]? = some u) → (∀ m, m < i * sz ∨ i * sz + sz ≤ m → cur'[m]? = cur[m]?) → c'.length = sz →
        (∀ b, S b → b ≠ g → ¬ f b → b < w.heap.size → w'.heap[b]? = w.heap[b]?) → E w' c' x' f → Ow t sz E w' S v (l.set i x') := by
  have hi : i < l.length := (List.getElem?_eq_some_iff.1 hx).1
  rcases h with ⟨-, rfl⟩ | ⟨g, cap, cur, cs, fs, hv, hh, h1, h2, h3, h4, h5, h6, h7⟩
  · simp at hi
  · obtain ⟨e1, e2, e3⟩ := h5 i x hx
    have hroom : i * sz + sz ≤ cur.size := by
      have := Nat.mul_le_mul_right sz (show i + 1 ≤ cap by omega)
      rw [Nat.add_mul, Nat.one_mul] at this
      omega
    refine ⟨g, cap, cur, cs i, fs i, hv, h1, h2, hh, hroom, h4, e1, e2, e3, fun b hb => h6 i b hi hb, ?_⟩
    intro w' cur' c' x' k1 k2 k3 k4 k5 k6 k7
    refine .inr ⟨g, cap, cur', fun n => if n = i then c' else cs n, fs, by rw [List.length_set]; exact hv, k1, by rw [List.length_set]; exact h1, h2, by omega, h4, fun n y hy => ?_, by rw [List.length_set]; exact h6, by rw [List.length_set]; exact h7⟩
    by_cases hni : n = i
    · subst hni
      rw [List.getElem?_set_self hi] at hy
      cases hy
      simp only [if_true]
      exact ⟨k7, k5, k3⟩
    · rw [List.getElem?_set_ne (fun e => hni e.symm)] at hy
      simp only [if_neg hni]
      have hn : n < l.length := (List.getElem?_eq_some_iff.1 hy).1
      obtain ⟨q1, q2, q3⟩ := h5 n y hy
      refine ⟨hE _ _ _ _ _ q1 fun b hb hlt => k6 b (h6 n b hn hb).1 (h6 n b hn hb).2 (fun hf => h7 n i b hn hi hni hb hf) hlt, q2, fun j u hu => ?_⟩
      have hj : j < sz := by have := (List.getElem?_eq_some_iff.1 hu).1; omega
      rw [k4]
      · exact q3 j u hu
      · rcases Nat.lt_or_gt_of_ne hni with hlt | hgt
        · have := Nat.mul_le_mul_right sz (show n + 1 ≤ i by omega)
          rw [Nat.add_mul, Nat.one_mul] at this
          exact .inl (by omega)
        · have := Nat.mul_le_mul_right sz (show i + 1 ≤ n by omega)
          rw [Nat.add_mul, Nat.one_mul] at this
          exact .inr (by omega)

end Go.Proofs.Ytodoofdbpffolaa

/- Rows of rows ([][]byte): what one reads as, one of the call's own, its rows apart from each other. -/
namespace Go.Proofs.Ytodoofdbpffolaa
open Go.RowKit

/-- The sum of the first sizes. -/
def pre (m : Nat → Nat) : Nat → Nat
  | 0 => 0
  | j + 1 => pre m j + m j
theorem pre_mono (m : Nat → Nat) {i j : Nat} (h : i ≤ j) : pre m i ≤ pre m j := by
  induction j with
  | zero => simp at h; subst h; exact Nat.le_refl _
  | succ j ih =>
    by_cases hj : i = j + 1
    · subst hj; exact Nat.le_refl _
    · have := ih (by omega); simp only [pre]; omega
theorem pre_congr {m m' : Nat → Nat} {n : Nat} (h : ∀ i, i < n → m i = m' i) : pre m n = pre m' n := by
  induction n with
  | zero => rfl
  | succ n ih => simp only [pre]; rw [ih (fun i hi => h i (by omega)), h n (by omega)]

/-- The slice value v reads as n rows of bytes: the i-th is f i. -/
def SsF (w : World) (v : Value) (n : Nat) (f : Nat → List Int) : Prop :=
  ∃ a cap, ∃ us : Nat → Value, v = .slice a n cap ∧ n ≤ cap ∧ cap ≤ maxLen ∧
    (0 < n → ∃ b off, a = some ⟨b, off, none⟩ ∧ b < w.heap.size ∧ ∀ i, i < n → w.cell? ⟨b, off + i, none⟩ = some (us i)) ∧ ∀ i, i < n → Bs w (us i) (f i)

theorem SsF.below {w w' : World} {v : Value} {n : Nat} {f : Nat → List Int} (h : SsF w v n f) (hb : Below w.heap.size w w') : SsF w' v n f := by
  obtain ⟨a, cap, us, hv, h1, h2, h3, h4⟩ := h
  refine ⟨a, cap, us, hv, h1, h2, fun hp => ?_, fun i hi => (h4 i hi).below hb⟩
  obtain ⟨b, off, ha, hlt, hc⟩ := h3 hp
  exact ⟨b, off, ha, Nat.lt_of_lt_of_le hlt hb.size, fun i hi => (hb.cell (p := ⟨b, off + i, none⟩) hlt).trans (hc i hi)⟩
theorem SsF.form3 {w : World} {v : Value} {n : Nat} {f : Nat → List Int} (h : SsF w v n f) : ∃ a m cap, v = .slice a m cap := by obtain ⟨a, cap, _, h, _⟩ := h; exact ⟨a, _, cap, h⟩
theorem SsF.congr {w : World} {v : Value} {n : Nat} {f g : Nat → List Int} (h : SsF w v n f) (e : ∀ i, i < n → f i = g i) : SsF w v n g := by
  obtain ⟨a, cap, us, hv, h1, h2, h3, h4⟩ := h
  exact ⟨a, cap, us, hv, h1, h2, h3, fun i hi => by rw [← e i hi]; exact h4 i hi⟩

/-- The row of rows v with the slices us is the call's own, in blocks from B on and below T, no two in one; the i-th row's bytes are f i. -/
structure RowF (w : World) (B T : Nat) (v : Value) (us : List Value) (f : Nat → List Int) : Prop where
  row : w.ownsRow B 22 1 v us.length us
  top : ∀ g, v.ownBlock = some g → g < T
  rows : ∀ (i : Nat) (u : Value), us[i]? = some u → Row w B T u (f i)
  distinct : ∀ (i j : Nat) (u u' : Value) (g : Nat), us[i]? = some u → us[j]? = some u' → u.ownBlock = some g → u'.ownBlock = some g → i = j

/-- The rows of a list. -/
def RowS (w : World) (B T : Nat) (v : Value) (ls : List (List Int)) : Prop := ∃ us : List Value, us.length = ls.length ∧ RowF w B T v us (fun i => ls.getD i [])

theorem Row.heap {w : World} {B T g : Nat} {v : Value} {l : List Int} (h : Row w B T v l) (hg : v.ownBlock = some g) : ∃ cur, w.heap[g]? = some (.cells cur 5 (0, 0)) := by
  rcases h.2.1.2 with ⟨hn, _⟩ | ⟨k, cap, cur, hv, _, hh, _⟩
  · rw [hn] at hg; simp [Value.ownBlock] at hg
  · rw [hv] at hg; simp [Value.ownBlock] at hg; subst hg; exact ⟨cur, hh⟩
theorem ownsRow_heap {w : World} {B g n : Nat} {e : TypeId} {v : Value} {xs : List Value} (h : w.ownsRow B e 1 v n xs) (hg : v.ownBlock = some g) : ∃ cur, w.heap[g]? = some (.cells cur e (0, 0)) := by
  rcases h.2 with ⟨hn, _⟩ | ⟨k, cap, cur, hv, _, hh, _⟩
  · rw [hn] at hg; simp [Value.ownBlock] at hg
  · rw [hv] at hg; simp [Value.ownBlock] at hg; subst hg; exact ⟨cur, hh⟩
/-- A row of bytes and a row of slices never lie in one block. -/
theorem apart_types {w : World} {B B' T n : Nat} {v u : Value} {xs : List Value} {l : List Int} (h : w.ownsRow B 22 1 v n xs) (hu : Row w B' T u l) : u.ownBlock = none ∨ u.ownBlock ≠ v.ownBlock := by
  cases hg : u.ownBlock with
  | none => exact .inl rfl
  | some g =>
    refine .inr fun e => ?_
    obtain ⟨c1, h1⟩ := ownsRow_heap h e.symm
    obtain ⟨c2, h2⟩ := hu.heap hg
    rw [h1] at h2
    simp at h2

theorem ownsRow_below {w w' : World} {B n : Nat} {e : TypeId} {v : Value} {xs : List Value} (h : w.ownsRow B e 1 v n xs) (hb : Below w.heap.size w w') : w'.ownsRow B e 1 v n xs := by
  refine ⟨h.1, ?_⟩
  rcases h.2 with hn | ⟨g, cap, cur, hv, hg, hh, r⟩
  · exact .inl hn
  · exact .inr ⟨g, cap, cur, hv, hg, (hb.block g (lt_of_heap hh)).trans hh, r⟩
theorem ownsRow_keptW {w w' : World} {B T B' T' n : Nat} {e : TypeId} {v : Value} {xs : List Value} (h : w.ownsRow B e 1 v n xs) (ht : ∀ g, v.ownBlock = some g → g < T) (hw : Within B' T' w w') (hd : T ≤ B' ∨ T' ≤ B) : w'.ownsRow B e 1 v n xs := by
  refine ⟨h.1, ?_⟩
  rcases h.2 with hn | ⟨g, cap, cur, hv, hg, hh, r⟩
  · exact .inl hn
  · have hlt : g < T := ht g (by rw [hv]; rfl)
    exact .inr ⟨g, cap, cur, hv, hg, (hw.block g (lt_of_heap hh) (by omega)).trans hh, r⟩
theorem ownsRow_wide {w : World} {B B' n : Nat} {e : TypeId} {v : Value} {xs : List Value} (h : w.ownsRow B e 1 v n xs) (hB : B' ≤ B) : w.ownsRow B' e 1 v n xs := by
  refine ⟨h.1, ?_⟩
  rcases h.2 with hn | ⟨g, cap, cur, hv, hg, r⟩
  · exact .inl hn
  · exact .inr ⟨g, cap, cur, hv, Nat.le_trans hB hg, r⟩

theorem RowF.below {w w' : World} {B T : Nat} {v : Value} {us : List Value} {f : Nat → List Int} (h : RowF w B T v us f) (hb : Below w.heap.size w w') : RowF w' B T v us f :=
  ⟨ownsRow_below h.row hb, h.top, fun i u hu => (h.rows i u hu).below hb, h.distinct⟩
theorem RowF.keptW {w w' : World} {B T B' T' : Nat} {v : Value} {us : List Value} {f : Nat → List Int} (h : RowF w B T v us f) (hw : Within B' T' w w') (hd : T ≤ B' ∨ T' ≤ B) : RowF w' B T v us f :=
  ⟨ownsRow_keptW h.row h.top hw hd, h.top, fun i u hu => (h.rows i u hu).keptW hw hd, h.distinct⟩
theorem RowF.wide {w : World} {B T B' T' : Nat} {v : Value} {us : List Value} {f : Nat → List Int} (h : RowF w B T v us f) (hB : B' ≤ B) (hT : T ≤ T') : RowF w B' T' v us f :=
  ⟨ownsRow_wide h.row hB, fun g hg => Nat.lt_of_lt_of_le (h.top g hg) hT, fun i u hu => (h.rows i u hu).wide hB hT, h.distinct⟩
theorem RowF.congr {w : World} {B T : Nat} {v : Value} {us : List Value} {f g : Nat → List Int} (h : RowF w B T v us f) (e : ∀ i, i < us.length → f i = g i) : RowF w B T v us g :=
  ⟨h.row, h.top, fun i u hu => by rw [← e i (List.getElem?_eq_some_iff.1 hu).1]; exact h.rows i u hu, h.distinct⟩
theorem RowF.nil (w : World) (B T : Nat) (f : Nat → List Int) : RowF w B T (.slice none 0 0) [] f :=
  ⟨World.ownsRow_nil _ _ _ _, fun g hg => by simp [Value.ownBlock] at hg, fun i u hu => by simp at hu, fun i j u u' g hu => by simp at hu⟩
/-- One of the rows was written. -/
theorem RowF.wrote {w w' : World} {B T i : Nat} {v u : Value} {us : List Value} {f : Nat → List Int} {l : List Int} (h : RowF w B T v us f) (hu : us[i]? = some u) (hg : w.grownBy w' u.ownBlock) (hr : Row w' B T u l) : RowF w' B T v us (fun j => if j = i then l else f j) := by
  have hri := h.rows i u hu
  refine ⟨h.row.kept hg ?_, h.top, fun j u' hu' => ?_, h.distinct⟩
  · cases hv : v.ownBlock with
    | none => exact .inl rfl
    | some g =>
      refine .inr fun e => ?_
      rcases apart_types h.row hri with h1 | h1
      · rw [h1] at e; simp at e
      · exact h1 (by rw [hv]; exact e.symm)
  · by_cases hj : j = i
    · subst hj
      rw [hu] at hu'
      cases hu'
      simpa using hr
    · simp only [if_neg hj]
      have hrj := h.rows j u' hu'
      refine ⟨hrj.1, hrj.2.1.kept hg ?_, hrj.2.2⟩
      cases hv : u'.ownBlock with
      | none => exact .inl rfl
      | some g => exact .inr fun e => hj (h.distinct j i u' u g hu' hu hv e.symm)
/-- What was written lies within the rows' blocks. -/
theorem RowF.within {w w' : World} {B T i : Nat} {v u : Value} {us : List Value} {f : Nat → List Int} (h : RowF w B T v us f) (hu : us[i]? = some u) (hg : w.grownBy w' u.ownBlock) : Within B T w w' := (h.rows i u hu).within hg

theorem RowF.ss {w : World} {B T : Nat} {v : Value} {us : List Value} {f : Nat → List Int} (h : RowF w B T v us f) : SsF w v us.length f := by
  rcases h.row.2 with ⟨hn, hz⟩ | ⟨g, cap, cur, hv, hg, hh, h1, h2, h3, h4⟩
  · have : us = [] := List.eq_nil_of_length_eq_zero hz
    subst this
    exact ⟨none, 0, fun _ => .slice none 0 0, hn, by simp, by simp, fun hp => by simp at hp, fun i hi => by simp at hi⟩
  · refine ⟨_, cap, fun i => us.getD i (.slice none 0 0), hv, h1, h2, fun hp => ⟨g, 0, rfl, lt_of_heap hh, fun i hi => ?_⟩, fun i hi => ?_⟩
    · rw [Nat.zero_add, cell_of_row w g i cur 22 (0, 0) hh]
      rw [Nat.mul_one] at h4
      have e : us[i]? = some (us.getD i (.slice none 0 0)) := by simp [hi]
      rw [← h4, List.getElem?_take, if_pos hi] at e
      rw [h4] at e
      simpa using e
    · have e : us[i]? = some (us.getD i (.slice none 0 0)) := by simp [hi]
      exact (h.rows i _ e).bs

/-- One more row was appended: the slices' row has grown, a new row stands behind. -/
theorem RowF.snoc {w w' : World} {B T T' : Nat} {v v' u : Value} {us : List Value} {f : Nat → List Int} {l : List Int} (h : RowF w B T v us f) (hu : Row w T T' u l) (hT : T ≤ T') (hB : B ≤ T) (hr : w'.ownsRow B 22 1 v' (us.length + 1) (us ++ [u])) (hg : w.grownBy w' v.ownBlock) :
    RowF w' B (max T' w'.heap.size) v' (us ++ [u]) (fun j => if j = us.length then l else f j) := by
  have keep : ∀ {x : Value} {k : List Int} {B0 T0 : Nat}, Row w B0 T0 x k → Row w' B0 T0 x k := fun {x} {k} {B0} {T0} hx => by
    refine ⟨hx.1, hx.2.1.kept hg ?_, hx.2.2⟩
    exact apart_types h.row hx
  refine ⟨by simpa using hr, fun g hg' => Nat.lt_of_lt_of_le (hr.lt g hg').2 (Nat.le_max_right _ _), fun i x hx => ?_, fun i j x x' g hx hx' hgx hgx' => ?_⟩
  · by_cases hi : i < us.length
    · rw [List.getElem?_append_left hi] at hx
      simp only [if_neg (show ¬ i = us.length by omega)]
      exact (keep (h.rows i x hx)).wide (Nat.le_refl _) (Nat.le_trans hT (Nat.le_max_left _ _))
    · rw [List.getElem?_append_right (by omega)] at hx
      have h0 : i - us.length = 0 := by
        by_cases h0 : i - us.length = 0
        · exact h0
        · rw [List.getElem?_eq_none (by simp; omega)] at hx; simp at hx
      have hi' : i = us.length := by omega
      rw [h0] at hx
      simp at hx
      subst hx
      simp only [if_pos hi']
      exact (keep hu).wide hB (Nat.le_max_left _ _)
  · have last : ∀ {i : Nat} {x : Value}, (us ++ [u])[i]? = some x → (i < us.length ∧ us[i]? = some x) ∨ (i = us.length ∧ x = u) := fun {i} {x} hx => by
      by_cases hi : i < us.length
      · rw [List.getElem?_append_left hi] at hx; exact .inl ⟨hi, hx⟩
      · rw [List.getElem?_append_right (by omega)] at hx
        by_cases h0 : i - us.length = 0
        · rw [h0] at hx; simp at hx; exact .inr ⟨by omega, hx.symm⟩
        · rw [List.getElem?_eq_none (by simp; omega)] at hx; simp at hx
    rcases last hx with ⟨hi, hy⟩ | ⟨hi, hy⟩ <;> rcases last hx' with ⟨hj, hy'⟩ | ⟨hj, hy'⟩
    · exact h.distinct i j x x' g hy hy' hgx hgx'
    · have h1 := (h.rows i x hy).2.2 g hgx
      rw [hy'] at hgx'
      have h2 := (hu.2.1.lt g hgx').1
      omega
    · have h1 := (h.rows j x' hy').2.2 g hgx'
      rw [hy] at hgx
      have h2 := (hu.2.1.lt g hgx).1
      omega
    · omega

theorem RowS.below {w w' : World} {B T : Nat} {v : Value} {ls : List (List Int)} (h : RowS w B T v ls) (hb : Below w.heap.size w w') : RowS w' B T v ls := let ⟨us, e, h⟩ := h; ⟨us, e, h.below hb⟩
theorem RowS.keptW {w w' : World} {B T B' T' : Nat} {v : Value} {ls : List (List Int)} (h : RowS w B T v ls) (hw : Within B' T' w w') (hd : T ≤ B' ∨ T' ≤ B) : RowS w' B T v ls := let ⟨us, e, h⟩ := h; ⟨us, e, h.keptW hw hd⟩
theorem RowS.wide {w : World} {B T B' T' : Nat} {v : Value} {ls : List (List Int)} (h : RowS w B T v ls) (hB : B' ≤ B) (hT : T ≤ T') : RowS w B' T' v ls := let ⟨us, e, h⟩ := h; ⟨us, e, h.wide hB hT⟩
theorem RowS.nil (w : World) (B T : Nat) : RowS w B T (.slice none 0 0) [] := ⟨[], rfl, RowF.nil _ _ _ _⟩
theorem RowS.ss {w : World} {B T : Nat} {v : Value} {ls : List (List Int)} (h : RowS w B T v ls) : SsF w v ls.length (fun i => ls.getD i []) := by
  obtain ⟨us, e, h⟩ := h; rw [← e]; exact h.ss
theorem RowS.snoc {w w' : World} {B T T' : Nat} {v v' u : Value} {us : List Value} {ls : List (List Int)} {l : List Int} (he : us.length = ls.length) (h : RowF w B T v us (fun i => ls.getD i [])) (hu : Row w T T' u l) (hT : T ≤ T') (hB : B ≤ T) (hr : w'.ownsRow B 22 1 v' (us.length + 1) (us ++ [u])) (hg : w.grownBy w' v.ownBlock) (hm : T' ≤ w'.heap.size) :
    RowS w' B w'.heap.size v' (ls ++ [l]) := by
  have h2 := h.snoc hu hT hB hr hg
  rw [Nat.max_eq_right hm] at h2
  refine ⟨us ++ [u], by simp [he], h2.congr fun i hi => ?_⟩
  simp only [List.length_append, List.length_singleton] at hi
  by_cases h1 : i = us.length
  · subst h1; simp [he]
  · simp only [if_neg h1]
    have : i < ls.length := by omega
    simp [List.getElem?_append_left this]

end Go.Proofs.Ytodoofdbpffolaa

/- What is written into data of the call's own: the world apart from it, and the data as they are then. -/
namespace Go.Proofs.Ytodoofdbpffolaa
open Go.RowKit

/-- Apart from the blocks of S the world w' has all that w had. -/
structure Wr (S : Nat → Prop) (w w' : World) : Prop where
  os : w'.os = w.os
  tape : w'.tape = w.tape
  output : w'.output = w.output
  size : w.heap.size ≤ w'.heap.size
  block : ∀ k, k < w.heap.size → ¬ S k → w'.heap[k]? = w.heap[k]?

theorem Wr.refl (S : Nat → Prop) (w : World) : Wr S w w := ⟨rfl, rfl, rfl, Nat.le_refl _, fun _ _ _ => rfl⟩
theorem Wr.trans {S : Nat → Prop} {a b c : World} (h : Wr S a b) (k : Wr S b c) : Wr S a c :=
  ⟨k.os.trans h.os, k.tape.trans h.tape, k.output.trans h.output, Nat.le_trans h.size k.size, fun i hi hn => (k.block i (Nat.lt_of_lt_of_le hi h.size) hn).trans (h.block i hi hn)⟩
theorem Wr.mono {S S' : Nat → Prop} {a b : World} (h : Wr S a b) (hS : ∀ x, S x → S' x) : Wr S' a b := ⟨h.os, h.tape, h.output, h.size, fun i hi hn => h.block i hi fun hs => hn (hS i hs)⟩
theorem Wr.within {B T : Nat} {a b : World} (h : Wr (In B T) a b) : Within B T a b := ⟨h.os, h.tape, h.output, h.size, fun i hi hn => h.block i hi hn⟩
theorem Wr.below {B : Nat} {S : Nat → Prop} {w0 a b : World} (h : Wr S a b) (h0 : Below B w0 a) (hS : ∀ x, S x → B ≤ x) (hB : B ≤ a.heap.size) : Below B w0 b :=
  ⟨h.os.trans h0.os, h.tape.trans h0.tape, h.output.trans h0.output, Nat.le_trans h0.size h.size, fun k hk => (h.block k (Nat.lt_of_lt_of_le hk hB) fun hs => by have := hS k hs; omega).trans (h0.block k hk)⟩
theorem Wr.of_below {S : Nat → Prop} {a b : World} (h : Below a.heap.size a b) : Wr S a b := ⟨h.os, h.tape, h.output, h.size, fun k hk _ => h.block k hk⟩
theorem Wr.put {S : Nat → Prop} {w : World} {g : Nat} (hg : S g) (o : Nat) (c : List Value) (t : TypeId) (cur : Array Value) (h : w.heap[g]? = some (.cells cur t (0, 0))) (hs : o + c.length ≤ cur.size) : Wr S w (put w g o c) := by
  obtain ⟨cur', _, _, _, _, hw⟩ := put_spec g t c w o cur h hs
  refine ⟨hw.os, hw.tape, hw.output, hw.size, fun k hk hn => hw.block k hk fun ⟨h1, h2⟩ => ?_⟩
  obtain rfl : k = g := by omega
  exact hn hg

theorem markByteS_o (S : Nat → Prop) (v : Value) (l : List Int) (k : Int) (w : World) (hv : RO w S v l) (hl : l.length ≤ 2000000) (hk0 : 0 ≤ k) (hk1 : k ≤ 1000000000000) :
    Calls Try.prog 29 #[v, .int .i64 k] w fun e w' => e = .returned (.int .i64 (k + l.length)) ∧ RO w' S v (marks k l.length) ∧ Wr S w w' := by
  refine (markByteS_r 0 w.heap.size v l k w ⟨hv.1, hv.2.1, fun g hg => (hv.2.1.lt g hg).2⟩ hl hk0 hk1).mono ?_
  rintro e w' ⟨rfl, r, hg⟩
  exact ⟨rfl, ⟨r.1, r.2.1, hv.2.2⟩, ⟨hg.os, hg.tape, hg.output, hg.size, fun b hb hn => hg.block b hb fun e => hn (hv.2.2 b e.symm)⟩⟩

/-- Lists, marked one element behind the other: each takes as many marks as it has places. -/
def wtAt {α : Type} (z : α) (wt : α → Nat) (l : List α) (i : Nat) : Nat := wt (l.getD i z)
def mks {α : Type} (z : α) (mk : α → Int → α) (wt : α → Nat) (k : Int) (l : List α) : List α := (List.range l.length).map fun i => mk (l.getD i z) (k + (pre (wtAt z wt l) i : Nat))
section
variable {α : Type} {z : α} {mk : α → Int → α} {wt : α → Nat} {k : Int} {l : List α}
theorem length_mks : (mks z mk wt k l).length = l.length := by simp [mks]
theorem mks_get {i : Nat} {x : α} (h : l[i]? = some x) : (mks z mk wt k l)[i]? = some (mk x (k + (pre (wtAt z wt l) i : Nat))) := by
  have hi : i < l.length := (List.getElem?_eq_some_iff.1 h).1
  have hg : l.getD i z = x := by rw [List.getD_eq_getElem?_getD, h]; rfl
  simp only [mks, List.getElem?_map, List.getElem?_range hi, Option.map_some, hg]
theorem wtAt_get {i : Nat} {x : α} (h : l[i]? = some x) : wtAt z wt l i = wt x := by
  simp [wtAt, List.getD_eq_getElem?_getD, h]
theorem pre_step {i : Nat} {x : α} (h : l[i]? = some x) : pre (wtAt z wt l) (i + 1) = pre (wtAt z wt l) i + wt x := by
  show pre (wtAt z wt l) i + wtAt z wt l i = _
  rw [wtAt_get h]
theorem pre_le {i : Nat} (h : i ≤ l.length) : pre (wtAt z wt l) i ≤ pre (wtAt z wt l) l.length := pre_mono _ h
end
theorem pre_shift1 (m : Nat → Nat) (n : Nat) : pre m (n + 1) = m 0 + pre (fun i => m (i + 1)) n := by
  induction n with
  | zero => simp [pre]
  | succ n ih => rw [pre, ih]; simp only [pre]; omega
theorem wts_sum {α : Type} (z : α) (wt : α → Nat) (l : List α) : pre (wtAt z wt l) l.length = (l.map wt).sum := by
  induction l with
  | nil => rfl
  | cons x l ih =>
    rw [List.length_cons, pre_shift1]
    have : pre (fun i => wtAt z wt (x :: l) (i + 1)) l.length = pre (wtAt z wt l) l.length := pre_congr fun i _ => by simp [wtAt]
    rw [this, ih]
    simp [wtAt]
theorem sum_le {α : Type} (f g : α → Nat) (c : Nat) (l : List α) (h : ∀ x, x ∈ l → f x ≤ c * g x) : (l.map f).sum ≤ c * (l.map g).sum := by
  induction l with
  | nil => simp
  | cons x l ih =>
    have h1 := h x (by simp)
    have h2 := ih fun y hy => h y (by simp [hy])
    simp only [List.map_cons, List.sum_cons, Nat.mul_add]
    omega
theorem sum_mem {α : Type} (f : α → Nat) {l : List α} {x : α} (h : x ∈ l) : f x ≤ (l.map f).sum := by
  induction l with
  | nil => cases h
  | cons y l ih =>
    simp only [List.map_cons, List.sum_cons]
    rcases List.mem_cons.1 h with rfl | h
    · omega
    · have := ih h; omega

/-- The first i of a, the rest of b. -/
def mix {α : Type} (a b : List α) (i : Nat) : List α := a.take i ++ b.drop i
section
variable {α : Type} {a b : List α} {i : Nat}
theorem mix_zero : mix a b 0 = b := by simp [mix]
theorem mix_all (h : a.length = b.length) : mix a b b.length = a := by simp [mix, ← h]
theorem mix_length (h : a.length = b.length) (hi : i ≤ b.length) : (mix a b i).length = b.length := by simp [mix]; omega
theorem mix_get (h : a.length = b.length) (hi : i < b.length) : (mix a b i)[i]? = b[i]? := by
  have hl : (a.take i).length = i := by rw [List.length_take]; omega
  rw [mix, List.getElem?_append_right (by omega), hl]
  simp
theorem mix_set (h : a.length = b.length) {x : α} (hx : a[i]? = some x) : (mix a b i).set i x = mix a b (i + 1) := by
  have hi : i < a.length := (List.getElem?_eq_some_iff.1 hx).1
  have hv : a[i] = x := (List.getElem?_eq_some_iff.1 hx).2
  have hl : (a.take i).length = i := by rw [List.length_take]; omega
  rw [mix, List.set_append_right _ _ (by omega), hl, Nat.sub_self, mix, List.take_succ_eq_append_getElem hi, hv, List.append_assoc]
  congr 1
  rw [List.drop_eq_getElem_cons (show i < b.length by omega)]
  rfl
end

def zMail : MailD := ⟨0, 0, 0, []⟩
def zGone : GoneD := ⟨0, 0⟩
def zBox : BoxD := ⟨[], 0, 0, 0, [], [], 0⟩
def wtInt (_ : Int) : Nat := 1
def mkInt (_ : Int) (p : Int) : Int := p
def wtGone (_ : GoneD) : Nat := 2
def mkGone (_ : GoneD) (p : Int) : GoneD := ⟨p, p + 1⟩
def wtMail (m : MailD) : Nat := 3 + m.text.length
def mkMail (m : MailD) (p : Int) : MailD := ⟨p, p + 1, p + 2, marks (p + 3) m.text.length⟩
def wIs (l : List Int) : Nat := pre (wtAt 0 wtInt l) l.length
def wGs (l : List GoneD) : Nat := pre (wtAt zGone wtGone l) l.length
def wMs (l : List MailD) : Nat := pre (wtAt zMail wtMail l) l.length
def mkGones (k : Int) (l : List GoneD) : List GoneD := mks zGone mkGone wtGone k l
def mkMails (k : Int) (l : List MailD) : List MailD := mks zMail mkMail wtMail k l
def mkInts (k : Int) (l : List Int) : List Int := mks 0 mkInt wtInt k l
def wtBox (b : BoxD) : Nat := b.name.length + 3 + wMs b.mails + wGs b.gones + 1
def mkBox (b : BoxD) (p : Int) : BoxD :=
  ⟨marks p b.name.length, p + b.name.length, p + b.name.length + 1, p + b.name.length + 2, mkMails (p + b.name.length + 3) b.mails, mkGones (p + b.name.length + 3 + wMs b.mails) b.gones, p + b.name.length + 3 + wMs b.mails + wGs b.gones⟩
def wXs (l : List BoxD) : Nat := pre (wtAt zBox wtBox l) l.length
def mkBoxes (k : Int) (l : List BoxD) : List BoxD := mks zBox mkBox wtBox k l
theorem wIs_eq (l : List Int) : wIs l = l.length := by
  rw [wIs, wts_sum]
  induction l with
  | nil => rfl
  | cons x l ih => simp only [List.map_cons, List.sum_cons, ih, wtInt, List.length_cons]; omega
theorem wGs_eq (l : List GoneD) : wGs l = 2 * l.length := by
  rw [wGs, wts_sum]
  induction l with
  | nil => rfl
  | cons x l ih => simp only [List.map_cons, List.sum_cons, ih, wtGone, List.length_cons]; omega
theorem wMs_le (l : List MailD) : wMs l ≤ 3 * szM l := by
  rw [wMs, wts_sum, szM]
  exact sum_le _ _ 3 l fun x _ => by simp only [wtMail]; omega
theorem wtBox_le (b : BoxD) : wtBox b ≤ 4 * (szX b + 1) := by
  have h1 := wMs_le b.mails
  have h2 := wGs_eq b.gones
  simp only [wtBox, szX]
  omega
theorem wXs_le (l : List BoxD) : wXs l ≤ 4 * szXs l := by
  rw [wXs, wts_sum, szXs]
  exact sum_le _ _ 4 l fun x _ => wtBox_le x
theorem wMs_mem {l : List MailD} {m : MailD} (h : m ∈ l) : 3 + m.text.length ≤ wMs l := by
  rw [wMs, wts_sum]; exact sum_mem wtMail h
theorem wXs_mem {l : List BoxD} {b : BoxD} (h : b ∈ l) : wtBox b ≤ wXs l := by
  rw [wXs, wts_sum]; exact sum_mem wtBox h

end Go.Proofs.Ytodoofdbpffolaa

/- What heldMailS of package laws do of what was marked. -/
namespace Go.Proofs.Ytodoofdbpffolaa
open Go.RowKit
set_option maxRecDepth 100000
set_option linter.unusedVariables false

set_option maxRecDepth 100000 in
set_option maxHeartbeats 1000000 in
theorem heldMailS_any (v : Value) (l : List MailD) (k : Int) (w : World) (hv : MailsV w v (mkMails k l)) (hs : szM l ≤ 2000000) (hk0 : 0 ≤ k) (hk1 : k ≤ 100000000000) :
    Calls Try.prog 33 #[v, .int .i64 k] w fun e w' => e = .returned (.int .i64 (k + wMs l)) ∧ Below w.heap.size w w' := by
  have HV : Hid (∀ wi, Below w.heap.size w wi → MailsV wi v (mkMails k l)) := fun wi h => hv.below keepsMail h
  obtain ⟨a, cap, rfl, hlc, hcm⟩ := hv.form
  have hlen : (mkMails k l).length = l.length := length_mks
  rw [hlen] at hlc
  simp only [hlen] at HV ⊢
  clear hv
  have hl : l.length ≤ 2000000 := Nat.le_trans (szM_len l) hs
  have HWQ : Hid (wMs l ≤ 6000000) := by have := wMs_le l; unfold Hid; omega
  go_enter Try.func33, Try.ntmps33
  go_wp2
  go_loopw [1, 5] (fun q i wr => ∃ j : Nat, j ≤ l.length ∧ i = .int .i64 j ∧ q = .int .i64 (k + (pre (wtAt zMail wtMail l) j : Nat)) ∧ Hid (Below w.heap.size w wr)) (fun _ i _ => l.length - (intOf i).toNat)
  case atStart => exact ⟨0, Nat.zero_le _, rfl, by simp [pre], Below.refl _ _⟩
  case round =>
    obtain ⟨j, hj, rfl, rfl, hW⟩ := hrel
    by_cases hlt : j < l.length
    · obtain ⟨x, hx⟩ : ∃ x, l[j]? = some x := ⟨l[j], List.getElem?_eq_getElem hlt⟩
      have hp1 : pre (wtAt zMail wtMail l) (j + 1) = pre (wtAt zMail wtMail l) j + (3 + x.text.length) := pre_step hx
      have hpj : pre (wtAt zMail wtMail l) (j + 1) ≤ wMs l := pre_le hlt
      have hn := mks_get (z := zMail) (mk := mkMail) (wt := wtMail) (k := k) hx
      generalize pre (wtAt zMail wtMail l) j = P at hpj hp1 hn
      have hP : (P : Int) ≤ 6000000 := by have := HWQ.out; omega
      have hxt : x.text.length ≤ 2000000 := by have := szM_mem (List.mem_of_getElem? hx); omega
      obtain ⟨b, off, cap', u, hv', hlb, d0, d1, d2, d3, hu, -⟩ := MailsV.cell (HV.out wr hW.out) j _ hn
      simp only [hlen, Value.slice.injEq, true_and] at hv'
      obtain ⟨rfl, rfl⟩ := hv'
      obtain ⟨ua, un, uc, rfl⟩ := hu.form3
      simp only [mkMail] at d0 d1 d2 hu
      have e1 : IntKind.i64.wrap (k + (P : Int) + 1) = k + P + 1 := IntWalk.i64_in _ (by omega)
      have e2 : (k + (P : Int) + 1 + 1) = k + P + 2 := by omega
      have e3 : (k + (P : Int) + 2 + 1) = k + P + 3 := by omega
      have HU : Hid (Bs wr (.slice ua un uc) (marks (k + P + 3) x.text.length)) := hu
      clear hn hx hu
      go_wp2_with fail
      refine (heldByteS_yes _ x.text.length (k + P + 3) _ HU.out hxt (by omega) (by omega)).mono ?_
      rintro e w2 ⟨rfl, B2⟩
      have HW2 : Hid (Below w.heap.size w w2) := Below.step hW.out B2
      clear B2 d0 d1 d2 d3 HU
      go_wp2
      go_roundw
      case rel => exact ⟨j + 1, by omega, by go_num, by rw [hp1]; go_num, HW2⟩
      case measure => simp [intOf]; omega
    · go_wp2
      go_ret
      obtain rfl : j = l.length := by omega
      exact ⟨rfl, hW.out⟩

end Go.Proofs.Ytodoofdbpffolaa

/- What heldGoneS of package laws do of what was marked. -/
namespace Go.Proofs.Ytodoofdbpffolaa
open Go.RowKit
set_option maxRecDepth 100000
set_option linter.unusedVariables false

set_option maxRecDepth 100000 in
set_option maxHeartbeats 1000000 in
theorem heldGoneS_any (v : Value) (l : List GoneD) (k : Int) (w : World) (hv : GonesV w v (mkGones k l)) (hl : l.length ≤ 2000000) (hk0 : 0 ≤ k) (hk1 : k ≤ 100000000000) :
    Calls Try.prog 34 #[v, .int .i64 k] w fun e w' => e = .returned (.int .i64 (k + wGs l)) ∧ Below w.heap.size w w' := by
  have HV : Hid (∀ wi, Below w.heap.size w wi → GonesV wi v (mkGones k l)) := fun wi h => hv.below keepsGone h
  obtain ⟨a, cap, rfl, hlc, hcm⟩ := hv.form
  have hlen : (mkGones k l).length = l.length := length_mks
  rw [hlen] at hlc
  simp only [hlen] at HV ⊢
  clear hv
  have HWQ := (show Hid _ from wGs_eq l)
  go_enter Try.func34, Try.ntmps34
  go_wp2
  go_loopw [1, 5] (fun q i wr => ∃ j : Nat, j ≤ l.length ∧ i = .int .i64 j ∧ q = .int .i64 (k + (pre (wtAt zGone wtGone l) j : Nat)) ∧ Hid (Below w.heap.size w wr)) (fun _ i _ => l.length - (intOf i).toNat)
  case atStart => exact ⟨0, Nat.zero_le _, rfl, by simp [pre], Below.refl _ _⟩
  case round =>
    obtain ⟨j, hj, rfl, rfl, hW⟩ := hrel
    by_cases hlt : j < l.length
    · obtain ⟨x, hx⟩ : ∃ x, l[j]? = some x := ⟨l[j], List.getElem?_eq_getElem hlt⟩
      have hp1 : pre (wtAt zGone wtGone l) (j + 1) = pre (wtAt zGone wtGone l) j + 2 := pre_step hx
      have hpj : pre (wtAt zGone wtGone l) j ≤ wGs l := pre_le (Nat.le_of_lt hlt)
      have hn := mks_get (z := zGone) (mk := mkGone) (wt := wtGone) (k := k) hx
      generalize pre (wtAt zGone wtGone l) j = P at hpj hp1 hn
      have hP : (P : Int) ≤ 4000000 := by have := HWQ.out; omega
      obtain ⟨b, off, cap', hv', hlb, d0, d1, -⟩ := GonesV.cell (HV.out wr hW.out) j _ hn
      simp only [hlen, Value.slice.injEq, true_and] at hv'
      obtain ⟨rfl, rfl⟩ := hv'
      simp only [mkGone] at d0 d1
      clear hn hx
      go_wp2
      go_roundw
      case rel => exact ⟨j + 1, by omega, by go_num, by rw [hp1]; go_num, hW⟩
      case measure => simp [intOf]; omega
    · go_wp2
      go_ret
      obtain rfl : j = l.length := by omega
      exact ⟨rfl, hW.out⟩

end Go.Proofs.Ytodoofdbpffolaa

/- What markGoneS of package laws does. -/
namespace Go.Proofs.Ytodoofdbpffolaa
open Go.RowKit
set_option maxRecDepth 100000
set_option linter.unusedVariables false

/-- An element is written anew, cell by cell. -/
theorem Ow.put {α : Type} {t : TypeId} {sz : Nat} {E : World → List Value → α → (Nat → Prop) → Prop} {w : World} {S : Nat → Prop} {v : Value} {l : List α} (hE : Frames E) (h : Ow t sz E w S v l) (i : Nat) (x : α) (hx : l[i]? = some x) :
    ∃ (g cap : Nat) (c : List Value) (f : Nat → Prop), v = .slice (some ⟨g, 0, none⟩) l.length cap ∧ l.length ≤ cap ∧ cap ≤ maxLen ∧ g < w.heap.size ∧ S g ∧ E w c x f ∧ c.length = sz ∧ (∀ b, f b → S b ∧ b ≠ g) ∧
      (∀ j u, c[j]? = some u → w.cell? ⟨g, i * sz + j, none⟩ = some u) ∧ (∀ j, w.frozen? ⟨g, j, none⟩ = false) ∧ (∃ cur, w.heap[g]? = some (.cells cur t (0, 0)) ∧ i * sz + sz ≤ cur.size) ∧
      ∀ (c' : List Value) (x' : α), c'.length = sz → (∀ w', (∀ b, f b → b < w.heap.size → w'.heap[b]? = w.heap[b]?) → E w' c' x' f) → Ow t sz E (put w g (i * sz) c') S v (l.set i x') ∧ Wr S w (put w g (i * sz) c') := by
  obtain ⟨g, cap, cur, c, f, hv, h1, h2, hh, h3, h4, h5, h6, h7, h8, h9⟩ := h.upd hE i x hx
  refine ⟨g, cap, c, f, hv, h1, h2, lt_of_heap hh, h4, h5, h6, h8, fun j u hu => ?_, fun j => frozen_of_row w g j cur t hh, ⟨cur, hh, h3⟩, fun c' x' hc he => ?_⟩
  · rw [cell_of_row w g _ cur t (0, 0) hh]
    exact h7 j u hu
  · obtain ⟨cur', e1, e2, e3, e4, e5⟩ := put_spec g t c' w (i * sz) cur hh (by omega)
    refine ⟨h9 _ cur' c' x' e1 e2 e3 (fun m hm => e4 m (by omega)) hc (fun b hb hne _ hlt => e5.block b hlt (by omega)) (he _ fun b hb hlt => e5.block b hlt (by have := (h8 b hb).2; omega)), Wr.put h4 _ _ t cur hh (by omega)⟩

set_option maxHeartbeats 1000000 in
theorem markGoneS_o (S : Nat → Prop) (v : Value) (l : List GoneD) (k : Int) (w : World) (hv : GonesO w S v l) (hl : l.length ≤ 2000000) (hk0 : 0 ≤ k) (hk1 : k ≤ 100000000000) :
    Calls Try.prog 31 #[v, .int .i64 k] w fun e w' => e = .returned (.int .i64 (k + wGs l)) ∧ GonesO w' S v (mkGones k l) ∧ Wr S w w' := by
  have HV : Hid (GonesO w S v l) := hv
  obtain ⟨a, cap, rfl, hlc, hcm⟩ := (hv.rd fun _ _ _ _ h => h : GonesV w v l).form
  clear hv
  have hw := wGs_eq l
  have hlen : (mkGones k l).length = l.length := length_mks
  go_enter Try.func31, Try.ntmps31
  go_wp2
  go_loopw [1, 5] (fun q i wr => ∃ j : Nat, j ≤ l.length ∧ i = .int .i64 j ∧ q = .int .i64 (k + (pre (wtAt zGone wtGone l) j : Nat)) ∧ Hid (GonesO wr S (.slice a l.length cap) (mix (mkGones k l) l j)) ∧ Hid (Wr S w wr)) (fun _ i _ => l.length - (intOf i).toNat)
  case atStart => exact ⟨0, Nat.zero_le _, rfl, by simp [pre], by rw [mix_zero]; exact HV, Wr.refl _ _⟩
  case round =>
    obtain ⟨j, hj, rfl, rfl, hO, hW⟩ := hrel
    by_cases hlt : j < l.length
    · obtain ⟨x, hx⟩ : ∃ x, l[j]? = some x := ⟨l[j], List.getElem?_eq_getElem hlt⟩
      obtain ⟨g, cap', c, f, hv', -, -, hgl, hS, ⟨rfl, -, -⟩, -, -, hc, fz, -, hput⟩ := hO.out.put framesGone j x ((mix_get hlen hlt).trans hx)
      simp only [Value.slice.injEq] at hv'
      obtain ⟨rfl, -, rfl⟩ := hv'
      have hpj : pre (wtAt zGone wtGone l) j ≤ wGs l := pre_le (Nat.le_of_lt hlt)
      have hp1 : pre (wtAt zGone wtGone l) (j + 1) = pre (wtAt zGone wtGone l) j + 2 := pre_step hx
      have hn := mks_get (z := zGone) (mk := mkGone) (wt := wtGone) (k := k) hx
      generalize pre (wtAt zGone wtGone l) j = P at hpj hp1 hn
      have hP : (P : Int) ≤ 4000000 := by omega
      have d0 := hc 0 _ rfl
      have d1 := hc 1 _ rfl
      simp only [Nat.add_zero] at d0
      have HS : Hid (GonesO (put wr g (j * 2) [.int .i64 (k + P), .int .i64 (k + P + 1)]) S (.slice (some ⟨g, 0, none⟩) l.length cap) (mix (mkGones k l) l (j + 1)) ∧ Wr S w (put wr g (j * 2) [.int .i64 (k + P), .int .i64 (k + P + 1)])) := by
        obtain ⟨h1, h2⟩ := hput [.int .i64 (k + P), .int .i64 (k + P + 1)] (mkGone x (k + P)) rfl (fun w' _ => ⟨rfl, by constructor <;> simp only [mkGone] <;> omega, by constructor <;> simp only [mkGone] <;> omega⟩)
        rw [mix_set hlen hn] at h1
        exact ⟨h1, hW.out.trans h2⟩
      clear hput hc hn hO hW hx hw
      go_wp2
      go_roundw
      case rel => exact ⟨j + 1, by omega, by go_num, by rw [hp1]; go_num, HS.out.1, HS.out.2⟩
      case measure => simp [intOf]; omega
    · go_wp2
      go_ret
      obtain rfl : j = l.length := by omega
      exact ⟨rfl, by rw [← mix_all hlen]; exact hO.out, hW.out⟩

end Go.Proofs.Ytodoofdbpffolaa

/- What markMailS of package laws does. -/
namespace Go.Proofs.Ytodoofdbpffolaa
open Go.RowKit
set_option maxRecDepth 100000
set_option linter.unusedVariables false

set_option maxHeartbeats 1000000 in
theorem markMailS_o (S : Nat → Prop) (v : Value) (l : List MailD) (k : Int) (w : World) (hv : MailsO w S v l) (hs : szM l ≤ 2000000) (hk0 : 0 ≤ k) (hk1 : k ≤ 100000000000) :
    Calls Try.prog 30 #[v, .int .i64 k] w fun e w' => e = .returned (.int .i64 (k + wMs l)) ∧ MailsO w' S v (mkMails k l) ∧ Wr S w w' := by
  have HV : Hid (MailsO w S v l) := hv
  obtain ⟨a, cap, rfl, hlc, hcm⟩ := (hv.rd fun _ _ _ _ => MailE.rd : MailsV w v l).form
  clear hv
  have hl : l.length ≤ 2000000 := Nat.le_trans (szM_len l) hs
  have hb : wMs l ≤ 6000000 := by have := wMs_le l; omega
  have hlen : (mkMails k l).length = l.length := length_mks
  go_enter Try.func30, Try.ntmps30
  go_wp2
  go_loopw [1, 5] (fun q i wr => ∃ j : Nat, j ≤ l.length ∧ i = .int .i64 j ∧ q = .int .i64 (k + (pre (wtAt zMail wtMail l) j : Nat)) ∧ Hid (MailsO wr S (.slice a l.length cap) (mix (mkMails k l) l j)) ∧ Hid (Wr S w wr)) (fun _ i _ => l.length - (intOf i).toNat)
  case atStart => exact ⟨0, Nat.zero_le _, rfl, by simp [pre], by rw [mix_zero]; exact HV, Wr.refl _ _⟩
  case round =>
    obtain ⟨j, hj, rfl, rfl, hO, hW⟩ := hrel
    by_cases hlt : j < l.length
    · obtain ⟨x, hx⟩ : ∃ x, l[j]? = some x := ⟨l[j], List.getElem?_eq_getElem hlt⟩
      obtain ⟨g, cap', cur, c, f, hv', -, -, hh, hroom, hS, ⟨u, rfl, hu, -, -, -⟩, -, hcs, hf, hupd⟩ := hO.out.upd framesMail j x ((mix_get hlen hlt).trans hx)
      simp only [Value.slice.injEq] at hv'
      obtain ⟨rfl, -, rfl⟩ := hv'
      have hp1 : pre (wtAt zMail wtMail l) (j + 1) = pre (wtAt zMail wtMail l) j + (3 + x.text.length) := pre_step hx
      have hpj : pre (wtAt zMail wtMail l) (j + 1) ≤ wMs l := pre_le hlt
      have hn := mks_get (z := zMail) (mk := mkMail) (wt := wtMail) (k := k) hx
      generalize pre (wtAt zMail wtMail l) j = P at hpj hp1 hn
      have hP : (P : Int) ≤ 6000000 := by omega
      have hxt : x.text.length ≤ 2000000 := by have := szM_mem (List.mem_of_getElem? hx); omega
      have d0 := (cell_of_row wr g (j * 4) cur _ (0, 0) hh).trans (hcs 0 _ rfl)
      have d1 := (cell_of_row wr g (j * 4 + 1) cur _ (0, 0) hh).trans (hcs 1 _ rfl)
      have d2 := (cell_of_row wr g (j * 4 + 2) cur _ (0, 0) hh).trans (hcs 2 _ rfl)
      have fz : ∀ i, wr.frozen? ⟨g, i, none⟩ = false := fun i => frozen_of_row wr g i cur _ hh
      have hgl := lt_of_heap hh
      obtain ⟨ua, un, uc, rfl⟩ := hu.bs.form3
      obtain ⟨cur1, e1, e2, e3, e4, e5⟩ := put_spec g _ [.int .i64 (k + P), .int .i64 (k + P + 1), .int .i64 (k + P + 1 + 1)] wr (j * 4) cur hh (by simp; omega)
      have d3 : (((wr.setCell ⟨g, j * 4, none⟩ (.int .i64 (k + P))).setCell ⟨g, j * 4 + 1, none⟩ (.int .i64 (k + P + 1))).setCell ⟨g, j * 4 + 2, none⟩ (.int .i64 (k + P + 1 + 1))).cell? ⟨g, j * 4 + 3, none⟩ = some (.slice ua un uc) := (cell_of_row _ g (j * 4 + 3) cur1 _ (0, 0) e1).trans ((e4 (j * 4 + 3) (.inr (by simp))).trans (hcs 3 _ rfl))
      have HU : Hid (RO (put wr g (j * 4) [.int .i64 (k + P), .int .i64 (k + P + 1), .int .i64 (k + P + 1 + 1)]) f (.slice ua un uc) x.text) := hu.frame fun b hb hlt => e5.block b hlt (by have := (hf b hb).2; omega)
      have HS : Hid (∀ w', Wr f (put wr g (j * 4) [.int .i64 (k + P), .int .i64 (k + P + 1), .int .i64 (k + P + 1 + 1)]) w' → RO w' f (.slice ua un uc) (marks (k + P + 1 + 1 + 1) x.text.length) → MailsO w' S (.slice (some ⟨g, 0, none⟩) l.length cap) (mix (mkMails k l) l (j + 1)) ∧ Wr S w w') := by
        intro w' hw' hr
        have hsz := e5.size
        have hg' : w'.heap[g]? = _ := (hw'.block g (by omega) fun h => (hf g h).2 rfl).trans e1
        have hE : MailE w' [.int .i64 (k + P), .int .i64 (k + P + 1), .int .i64 (k + P + 1 + 1), .slice ua un uc] (mkMail x (k + P)) f := by
          refine ⟨.slice ua un uc, ?_, ?_, ?_, ?_, ?_⟩
          · simp only [mkMail]; rw [show k + P + 1 + 1 = k + (P : Int) + 2 by omega]
          · simp only [mkMail]; rw [show k + (P : Int) + 3 = k + P + 1 + 1 + 1 by omega]; exact hr
          all_goals (constructor <;> simp only [mkMail] <;> omega)
        have h1 := hupd w' cur1 _ (mkMail x (k + P)) hg' e2 (fun i u hi => ?_) (fun m hm => e4 m (by simp; omega)) rfl (fun b hb hne hnf hlt => (hw'.block b (by omega) hnf).trans (e5.block b hlt (by omega))) hE
        · rw [mix_set hlen hn] at h1
          refine ⟨h1, hW.out.trans ⟨hw'.os.trans e5.os, hw'.tape.trans e5.tape, hw'.output.trans e5.output, Nat.le_trans hsz hw'.size, fun b hb hns => ?_⟩⟩
          have hbg : b ≠ g := fun e => hns (e ▸ hS)
          exact (hw'.block b (by omega) fun h => hns (hf b h).1).trans (e5.block b hb (by omega))
        · match i, hi with
          | 0, hi => exact e3 0 u (by simpa using hi)
          | 1, hi => exact e3 1 u (by simpa using hi)
          | 2, hi => exact e3 2 u (by simpa using hi)
          | 3, hi => exact (e4 (j * 4 + 3) (.inr (by simp))).trans (hcs 3 u (by simpa using hi))
      clear hupd hcs hn hO hW hx e1 e2 e3 e4 e5 hu hh hroom hf
      go_wp2_with fail
      refine (markByteS_o f _ x.text _ _ HU.out hxt (by omega) (by omega)).mono ?_
      rintro e w2 ⟨rfl, R, W2⟩
      have HS2 := HS.out w2 W2 R
      have HM : Hid (MailsO w2 S (.slice (some ⟨g, 0, none⟩) l.length cap) (mix (mkMails k l) l (j + 1))) := HS2.1
      have HW : Hid (Wr S w w2) := HS2.2
      clear HS HS2 R W2 HU d0 d1 d2 d3 fz
      go_wp2
      go_roundw
      case rel => exact ⟨j + 1, by omega, by go_num, by rw [hp1]; go_num, HM, HW⟩
      case measure => simp [intOf]; omega
    · go_wp2
      go_ret
      obtain rfl : j = l.length := by omega
      exact ⟨rfl, by rw [← mix_all hlen]; exact hO.out, hW.out⟩

end Go.Proofs.Ytodoofdbpffolaa

/- What markBox of package laws does. -/
namespace Go.Proofs.Ytodoofdbpffolaa
open Go.RowKit
set_option maxRecDepth 100000
set_option linter.unusedVariables false

def mkBoxV (k : Int) (x : BoxD) : BoxD := ⟨marks k x.name.length, x.valid, x.next, x.seq, mkMails (k + x.name.length) x.mails, mkGones (k + x.name.length + wMs x.mails) x.gones, x.lost⟩
set_option maxRecDepth 100000 in
set_option maxHeartbeats 1000000 in
theorem markBox_o (S : Nat → Prop) (v : Value) (x : BoxD) (k : Int) (w : World) (hv : BoxO w S v x) (hS : ∀ b, S b → b < w.heap.size) (hn : x.name.length ≤ 2000000) (hm : szM x.mails ≤ 2000000) (hg : x.gones.length ≤ 2000000) (hk0 : 0 ≤ k) (hk1 : k ≤ 1000000000) :
    Calls Try.prog 9 #[v, .int .i64 k] w fun e w' => e = .returned (.int .i64 (k + x.name.length + wMs x.mails + wGs x.gones)) ∧ BoxO w' S v (mkBoxV k x) ∧ Wr S w w' := by
  obtain ⟨c, rfl, u0, u1, u2, S0, S1, S2, rfl, h0, h1, h2, d0, d1, d2, i0⟩ := hv
  have hb : wMs x.mails ≤ 6000000 := by have := wMs_le x.mails; omega
  obtain ⟨a0, n0, c0, rfl⟩ := h0.bs.form3
  obtain ⟨a1, c1, rfl, -⟩ := (h1.rd fun _ _ _ _ => MailE.rd : MailsV _ _ _).form
  obtain ⟨a2, c2, rfl, -⟩ := (h2.rd fun _ _ _ _ h => h : GonesV _ _ _).form
  have N0 : ¬ S0 w.heap.size := fun h => by have := hS _ (d0 _ h).1; omega
  have N1 : ¬ S1 w.heap.size := fun h => by have := hS _ (d1 _ h).1; omega
  have AB : Below w.heap.size w (w.alloc (.cells #[.slice a0 n0 c0, .int .i64 x.valid, .int .i64 x.next, .int .i64 x.seq, .slice a1 x.mails.length c1, .slice a2 x.gones.length c2, .int .i64 x.lost] 31)) := (Below.refl _ _).alloc (Nat.le_refl _) _
  have hsz : w.heap.size < (w.alloc (.cells #[.slice a0 n0 c0, .int .i64 x.valid, .int .i64 x.next, .int .i64 x.seq, .slice a1 x.mails.length c1, .slice a2 x.gones.length c2, .int .i64 x.lost] 31)).heap.size := by simp
  have H0 : Hid (RO (w.alloc (.cells #[.slice a0 n0 c0, .int .i64 x.valid, .int .i64 x.next, .int .i64 x.seq, .slice a1 x.mails.length c1, .slice a2 x.gones.length c2, .int .i64 x.lost] 31)) S0 (.slice a0 n0 c0) x.name) := h0.below AB
  have H1 : Hid (MailsO (w.alloc (.cells #[.slice a0 n0 c0, .int .i64 x.valid, .int .i64 x.next, .int .i64 x.seq, .slice a1 x.mails.length c1, .slice a2 x.gones.length c2, .int .i64 x.lost] 31)) S1 (.slice a1 x.mails.length c1) x.mails) := h1.below framesMail AB
  have H2 : Hid (GonesO (w.alloc (.cells #[.slice a0 n0 c0, .int .i64 x.valid, .int .i64 x.next, .int .i64 x.seq, .slice a1 x.mails.length c1, .slice a2 x.gones.length c2, .int .i64 x.lost] 31)) S2 (.slice a2 x.gones.length c2) x.gones) := h2.below framesGone AB
  have HK : Hid ((w.alloc (.cells #[.slice a0 n0 c0, .int .i64 x.valid, .int .i64 x.next, .int .i64 x.seq, .slice a1 x.mails.length c1, .slice a2 x.gones.length c2, .int .i64 x.lost] 31)).heap[w.heap.size]? = some (.cells #[.slice a0 n0 c0, .int .i64 x.valid, .int .i64 x.next, .int .i64 x.seq, .slice a1 x.mails.length c1, .slice a2 x.gones.length c2, .int .i64 x.lost] 31)) := box_new w _
  have HAB : Hid (Below w.heap.size w (w.alloc (.cells #[.slice a0 n0 c0, .int .i64 x.valid, .int .i64 x.next, .int .i64 x.seq, .slice a1 x.mails.length c1, .slice a2 x.gones.length c2, .int .i64 x.lost] 31))) := AB
  have HD : Hid ((∀ y, S0 y → S y ∧ ¬ S1 y ∧ ¬ S2 y) ∧ (∀ y, S1 y → S y ∧ ¬ S2 y) ∧ (∀ y, S2 y → S y)) := ⟨d0, d1, d2⟩
  clear h0 h1 h2 d0 d1 d2 AB
  obtain ⟨f0, f1, f2, f3, f4, f5, f6⟩ := bx7 HK.out
  go_enter Try.func9, Try.ntmps9
  go_wp2_with fail
  refine (markByteS_o S0 _ x.name k _ H0.out hn hk0 (by omega)).mono ?_
  rintro e w1 ⟨rfl, R1, W1⟩
  have s1 := W1.size
  have K1 : w1.heap[w.heap.size]? = _ := (W1.block _ hsz N0).trans HK.out
  have G0 : Hid (RO w1 S0 (.slice a0 n0 c0) (marks k x.name.length)) := R1
  have G1 : Hid (MailsO w1 S1 (.slice a1 x.mails.length c1) x.mails) := H1.out.frame framesMail fun b hb hlt => W1.block b hlt fun h => (HD.out.1 b h).2.1 hb
  have G2 : Hid (GonesO w1 S2 (.slice a2 x.gones.length c2) x.gones) := H2.out.frame framesGone fun b hb hlt => W1.block b hlt fun h => (HD.out.1 b h).2.2 hb
  have HW1 : Hid (Wr S w w1) := (Wr.of_below HAB.out).trans (W1.mono fun b h => (HD.out.1 b h).1)
  clear f0 f1 f2 f3 f4 f5 f6 R1 H0 H1 H2 HK W1 HAB
  obtain ⟨f0, f1, f2, f3, f4, f5, f6⟩ := bx7 K1
  have hlA := lt_of_heap K1
  go_wp2_with fail
  refine (markMailS_o S1 _ x.mails _ _ G1.out hm (by omega) (by omega)).mono ?_
  rintro e w2 ⟨rfl, R2, W2⟩
  have s2 := W2.size
  have K2 : w2.heap[w.heap.size]? = _ := (W2.block _ hlA N1).trans K1
  have J0 : Hid (RO w2 S0 (.slice a0 n0 c0) (marks k x.name.length)) := G0.out.frame fun b hb hlt => W2.block b hlt (HD.out.1 b hb).2.1
  have J1 : Hid (MailsO w2 S1 (.slice a1 x.mails.length c1) (mkMails (k + x.name.length) x.mails)) := R2
  have J2 : Hid (GonesO w2 S2 (.slice a2 x.gones.length c2) x.gones) := G2.out.frame framesGone fun b hb hlt => W2.block b hlt fun h => (HD.out.2.1 b h).2 hb
  have HW2 : Hid (Wr S w w2) := HW1.out.trans (W2.mono fun b h => (HD.out.2.1 b h).1)
  clear f0 f1 f2 f3 f4 f5 f6 R2 G0 G1 G2 K1 W2 HW1 hlA
  obtain ⟨f0, f1, f2, f3, f4, f5, f6⟩ := bx7 K2
  have hlA := lt_of_heap K2
  clear K2
  go_wp2_with fail
  refine (markGoneS_o S2 _ x.gones _ _ J2.out hg (by omega) (by omega)).mono ?_
  rintro e w3 ⟨rfl, R3, W3⟩
  have HF : Hid (BoxO w3 S (.agg #[.slice a0 n0 c0, .int .i64 x.valid, .int .i64 x.next, .int .i64 x.seq, .slice a1 x.mails.length c1, .slice a2 x.gones.length c2, .int .i64 x.lost]) (mkBoxV k x) ∧ Wr S w w3) := by
    refine ⟨⟨_, rfl, .slice a0 n0 c0, .slice a1 x.mails.length c1, .slice a2 x.gones.length c2, S0, S1, S2, rfl, ?_, ?_, R3, HD.out.1, HD.out.2.1, HD.out.2.2, i0⟩, HW2.out.trans (W3.mono HD.out.2.2)⟩
    · exact J0.out.frame fun b hb hlt => W3.block b hlt (HD.out.1 b hb).2.2
    · exact J1.out.frame framesMail fun b hb hlt => W3.block b hlt (HD.out.2.1 b hb).2
  clear R3 W3 J0 J1 J2 HW2 HD f0 f1 f2 f3 f4 f5 f6 hlA
  go_wp2
  go_ret
  exact ⟨rfl, HF.out.1, HF.out.2⟩

end Go.Proofs.Ytodoofdbpffolaa

/- What heldBox of package laws does of what was marked. -/
namespace Go.Proofs.Ytodoofdbpffolaa
open Go.RowKit
set_option maxRecDepth 100000
set_option linter.unusedVariables false

set_option maxRecDepth 100000 in
set_option maxHeartbeats 1000000 in
theorem heldBox_any (v : Value) (x : BoxD) (k : Int) (w : World) (hv : BoxV w v (mkBoxV k x)) (hn : x.name.length ≤ 2000000) (hs : szM x.mails ≤ 2000000) (hl : x.gones.length ≤ 2000000) (hk0 : 0 ≤ k) (hk1 : k ≤ 1000000000) :
    Calls Try.prog 10 #[v, .int .i64 k] w fun e w' => e = .returned (.int .i64 (k + x.name.length + wMs x.mails + wGs x.gones)) ∧ Below w.heap.size w w' := by
  obtain ⟨u0, u1, u2, rfl, g0, g1, g2, -⟩ := hv
  have hb : wMs x.mails ≤ 6000000 := by have := wMs_le x.mails; omega
  have hb2 : wGs x.gones ≤ 4000000 := by have := wGs_eq x.gones; omega
  obtain ⟨a0, n0, c0, rfl⟩ := g0.form3
  obtain ⟨a1, c1, rfl, -⟩ := g1.form
  obtain ⟨a2, c2, rfl, -⟩ := g2.form
  have HG : Hid (∀ wi, Below w.heap.size w wi → Bs wi (.slice a0 n0 c0) (mkBoxV k x).name ∧ MailsV wi (.slice a1 (mkBoxV k x).mails.length c1) (mkBoxV k x).mails ∧ GonesV wi (.slice a2 (mkBoxV k x).gones.length c2) (mkBoxV k x).gones) := fun wi h => ⟨g0.below h, g1.below keepsMail h, g2.below keepsGone h⟩
  clear g0 g1 g2
  generalize (mkBoxV k x).mails.length = nb at HG
  generalize (mkBoxV k x).gones.length = ns at HG
  have HX : Hid (Below w.heap.size w (w.alloc (.cells #[.slice a0 n0 c0, .int .i64 (mkBoxV k x).valid, .int .i64 (mkBoxV k x).next, .int .i64 (mkBoxV k x).seq, .slice a1 nb c1, .slice a2 ns c2, .int .i64 (mkBoxV k x).lost] 31))) := (Below.refl _ _).alloc (Nat.le_refl _) _
  have HK : Hid _ := box_new w (.cells #[.slice a0 n0 c0, .int .i64 (mkBoxV k x).valid, .int .i64 (mkBoxV k x).next, .int .i64 (mkBoxV k x).seq, .slice a1 nb c1, .slice a2 ns c2, .int .i64 (mkBoxV k x).lost] 31)
  obtain ⟨f0, f1, f2, f3, f4, f5, f6⟩ := bx7 HK.out
  have hlA := lt_of_heap HK.out
  go_enter Try.func10, Try.ntmps10
  go_wp2_with fail
  refine (heldByteS_yes _ x.name.length k _ (HG.out _ HX.out).1 (by omega) (by omega) (by omega)).mono ?_
  rintro e w1 ⟨rfl, B1⟩
  have C1 := Below.step HX.out B1
  have K1 := box_below B1 HK.out
  clear f0 f1 f2 f3 f4 f5 f6 hlA B1 HK
  obtain ⟨f0, f1, f2, f3, f4, f5, f6⟩ := bx7 K1
  have hlA := lt_of_heap K1
  go_wp2_with fail
  refine (heldMailS_any _ x.mails (k + x.name.length) _ (HG.out _ C1).2.1 hs (by omega) (by omega)).mono ?_
  rintro e w2 ⟨rfl, B2⟩
  have C2 := Below.step C1 B2
  have K2 := box_below B2 K1
  clear f0 f1 f2 f3 f4 f5 f6 hlA B2 K1 C1
  obtain ⟨f0, f1, f2, f3, f4, f5, f6⟩ := bx7 K2
  have hlA := lt_of_heap K2
  go_wp2_with fail
  refine (heldGoneS_any _ x.gones (k + x.name.length + wMs x.mails) _ (HG.out _ C2).2.2 hl (by omega) (by omega)).mono ?_
  rintro e w3 ⟨rfl, B3⟩
  have HB3 : Hid (Below w.heap.size w w3) := Below.step C2 B3
  clear f0 f1 f2 f3 f4 f5 f6 hlA K2 C2 B3 HG
  go_wp2
  go_ret
  exact ⟨rfl, HB3.out⟩

end Go.Proofs.Ytodoofdbpffolaa
