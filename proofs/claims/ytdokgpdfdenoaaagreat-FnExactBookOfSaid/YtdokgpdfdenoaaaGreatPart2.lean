/- The proof's texts, part 2. -/
import Derived.Test.YtdokgpdfdenoaaaGreatPart1
import Derived.Deep.RegionHeld3

/- What toMail, toMailS of package laws do. -/
namespace Go.Proofs.YtdokgpdfdenoaaaGreat
open Go.RowKit
set_option maxRecDepth 100000
set_option linter.unusedVariables false

set_option maxRecDepth 100000 in
set_option maxHeartbeats 1000000 in
theorem toMail_o (v : Value) (x : MailD) (w : World) (hv : MailV w v x) (h0 : x.text.length ≤ 2000000) :
    Calls Tryz.prog 90 #[v] w fun e w' => ∃ u, e = .returned u ∧ (∃ a n c, u = .agg #[.int .i64 x.uid, .int .i64 x.flags, .int .i64 x.seq, .slice a n c] ∧ MailE w' [.int .i64 x.uid, .int .i64 x.flags, .int .i64 x.seq, .slice a n c] x (In w.heap.size w'.heap.size)) ∧ Below w.heap.size w w' := by
  obtain ⟨u, rfl, g0, i0, i1, i2⟩ := hv
  obtain ⟨uid, flags, seq, text⟩ := x
  simp only at g0 i0 i1 i2 h0
  have H0 : Hid (∀ wi, Below w.heap.size w wi → Bs wi u text) := fun wi h => g0.below h
  obtain ⟨a0, n0, c0, rfl⟩ := g0.form3
  have HI : Hid (I64 uid ∧ I64 flags ∧ I64 seq) := ⟨i0, i1, i2⟩
  clear g0 i0 i1 i2
  simp only
  go_enter Tryz.func90, Tryz.ntmps90
  go_wp2_with fail
  refine (toByteS_r _ text _ (H0.out _ (box3_below w _ _ _)) h0).mono ?_
  rintro e w1 ⟨u0, rfl, R0, B⟩
  obtain ⟨x0, m0, y0, rfl⟩ := R0.bs.form3
  have b3 := box3 w (.cells #[.int .i64 uid, .int .i64 flags, .int .i64 seq, .slice a0 n0 c0] 142) (.cells #[.int .i64 0, .int .i64 0, .int .i64 0, .slice none 0 0] 115) (.cells #[.int .i64 uid, .int .i64 flags, .int .i64 seq, .slice none 0 0] 115)
  have kA := box_below B b3.1
  have kR := box_below B b3.2.1
  have kO := box_below B b3.2.2
  have s1 : w.heap.size + 3 ≤ w1.heap.size := by have := B.size; simp at this; omega
  have X := Below.step (box3_below w _ _ _) B
  replace R0 := R0.wide (B' := w.heap.size + 3) (T' := w1.heap.size) (by simp) (Nat.le_refl _)
  clear b3 B
  obtain ⟨-, -, -, -⟩ := bx4 kA
  obtain ⟨oz, ol⟩ := box8z kO
  obtain ⟨o0, o1, o2, o3⟩ := bx4 kO
  obtain ⟨rz, rl⟩ := box8z kR
  obtain ⟨r0, r1, r2, r3⟩ := bx4 kR
  go_wp2
  refine bodyPost_ret (v := .agg #[.int .i64 uid, .int .i64 flags, .int .i64 seq, .slice x0 m0 y0]) (by simp [results, Tryz.results90, go_sem, r0, r1, r2, r3]) rfl ⟨_, rfl, ?_, ?_⟩
  · simp only [box_size]
    exact ⟨_, _, _, rfl, _, rfl, Row.ro (Row.wide ((((((R0.set (g := w.heap.size + 1 + 1) (i := 3) (x := .slice x0 m0 y0) (.inl (by omega))).set (g := w.heap.size + 1) (i := 0) (x := .int .i64 uid) (.inl (by omega))).set (g := w.heap.size + 1) (i := 1) (x := .int .i64 flags) (.inl (by omega))).set (g := w.heap.size + 1) (i := 2) (x := .int .i64 seq) (.inl (by omega))).set (g := w.heap.size + 1) (i := 3) (x := .slice x0 m0 y0) (.inl (by omega)))) (by omega) (Nat.le_refl _)), HI.out⟩
  · exact (((((X.setCell (p := ⟨w.heap.size + 1 + 1, 3, none⟩) (by simp <;> omega) (.slice x0 m0 y0)).setCell (p := ⟨w.heap.size + 1, 0, none⟩) (by simp <;> omega) (.int .i64 uid)).setCell (p := ⟨w.heap.size + 1, 1, none⟩) (by simp <;> omega) (.int .i64 flags)).setCell (p := ⟨w.heap.size + 1, 2, none⟩) (by simp <;> omega) (.int .i64 seq)).setCell (p := ⟨w.heap.size + 1, 3, none⟩) (by simp <;> omega) (.slice x0 m0 y0))

theorem infoMail : (Tryz.prog.info? 115).map (fun i => (i.zero, i.size, i.bytes)) = some (some (.agg #[.int .i64 0, .int .i64 0, .int .i64 0, .slice none 0 0]), 4, 48) := by kernel_rfl

set_option maxRecDepth 100000 in
set_option maxHeartbeats 1000000 in
theorem toMailS_r (v : Value) (l : List MailD) (w : World) (hv : MailsV w v l) (hl : szM l ≤ 2000000) :
    Calls Tryz.prog 77 #[v] w fun e w' => ∃ u, e = .returned u ∧ MailsR w' w.heap.size w'.heap.size u l ∧ Below w.heap.size w w' := by
  have HV : Hid (∀ wi, Below w.heap.size w wi → MailsV wi v l) := fun wi h => hv.below keepsMail h
  obtain ⟨a, cap, rfl, hlc, hcm⟩ := hv.form
  have hll : l.length ≤ 2000000 := by have := szM_len l; omega
  clear hv
  obtain ⟨i0, hi, hz0, hz1, hz2⟩ := info_parts infoMail
  go_enter Tryz.func77, Tryz.ntmps77
  go_wp2_with (at_make; refine wpList_make_full _ rfl _ _ 86 rfl w.heap.size 115 i0 (.agg #[.int .i64 0, .int .i64 0, .int .i64 0, .slice none 0 0]) 4 Tryz.underlying86 hi hz0 hz1 _ _ _ _ l.length rfl rfl rfl rfl ?b1 ?b2 ?b3 ?_)
  case b1 => rw [hz2]; omega
  case b2 => unfold maxLen; omega
  case b3 => exact Nat.le_refl _
  intro w1 hown hgrow
  have HB : Hid (Below w.heap.size w w1) := (Below.refl w.heap.size w).grown hgrow (Nat.le_refl _) (by simp)
  have HP : Hid (Part 115 4 MailE w1 w.heap.size l.length 0 l) := by obtain ⟨cur, h1, h2⟩ := made_part hown; exact Part.start h1 h2
  clear hown hgrow hi hz0 hz1 hz2
  go_wp2
  go_loopw [4] (fun i wr => ∃ k : Nat, k ≤ l.length ∧ i = .int .i64 k ∧ Hid (Part 115 4 MailE wr w.heap.size l.length k l) ∧ Hid (Below w.heap.size w wr)) (fun i _ => l.length - (intOf i).toNat)
  case atStart => exact ⟨0, Nat.zero_le _, rfl, HP, HB⟩
  case round =>
    obtain ⟨k, hk, rfl, hP, hB⟩ := hrel
    by_cases hlt : k < l.length
    · obtain ⟨x, hx⟩ : ∃ x, l[k]? = some x := ⟨l[k], List.getElem?_eq_getElem hlt⟩
      obtain ⟨b, off, cap', u, hv', hlb, d0, d1, d2, d3, hu, i0, i1, i2⟩ := MailsV.cell (HV.out wr hB.out) k x hx
      simp only [Value.slice.injEq, true_and] at hv'
      obtain ⟨rfl, rfl⟩ := hv'
      obtain ⟨ua, un, uc, rfl⟩ := hu.form3
      go_wp2_with fail
      refine (toMail_o _ x _ ⟨_, rfl, hu, i0, i1, i2⟩ (by have := szM_mem (List.mem_of_getElem? hx); omega)).mono ?_
      rintro e w2 ⟨_, rfl, ⟨ya, yn, yc, rfl, he⟩, B⟩
      clear d0 d1 d2 d3
      have hs2 := B.size
      have HS : Hid (Part 115 4 MailE (put w2 w.heap.size (k * 4) [.int .i64 x.uid, .int .i64 x.flags, .int .i64 x.seq, .slice ya yn yc]) w.heap.size l.length (k + 1) l) := Part.step framesMail hP.out B x hx hlt _ rfl he
      have HB2 : Hid (Below w.heap.size w w2) := Below.step hB.out B
      have hgl := hP.out.lt
      have hgl2 : w.heap.size < w2.heap.size := by omega
      obtain ⟨q0, t0⟩ := (show ∃ u, w2.cell? ⟨w.heap.size, k * 4, none⟩ = some u from by obtain ⟨⟨u, hu⟩, -⟩ := hP.out.cell (k * 4) (by omega); exact ⟨u, (B.cell (p := ⟨w.heap.size, k * 4, none⟩) hgl).trans hu⟩)
      obtain ⟨q1, t1⟩ := (show ∃ u, w2.cell? ⟨w.heap.size, k * 4 + 1, none⟩ = some u from by obtain ⟨⟨u, hu⟩, -⟩ := hP.out.cell (k * 4 + 1) (by omega); exact ⟨u, (B.cell (p := ⟨w.heap.size, k * 4 + 1, none⟩) hgl).trans hu⟩)
      obtain ⟨q2, t2⟩ := (show ∃ u, w2.cell? ⟨w.heap.size, k * 4 + 2, none⟩ = some u from by obtain ⟨⟨u, hu⟩, -⟩ := hP.out.cell (k * 4 + 2) (by omega); exact ⟨u, (B.cell (p := ⟨w.heap.size, k * 4 + 2, none⟩) hgl).trans hu⟩)
      obtain ⟨q3, t3⟩ := (show ∃ u, w2.cell? ⟨w.heap.size, k * 4 + 3, none⟩ = some u from by obtain ⟨⟨u, hu⟩, -⟩ := hP.out.cell (k * 4 + 3) (by omega); exact ⟨u, (B.cell (p := ⟨w.heap.size, k * 4 + 3, none⟩) hgl).trans hu⟩)
      have fz : ∀ i, w2.frozen? ⟨w.heap.size, i, none⟩ = false := by
        intro i
        obtain ⟨cur, cs, fs, hh, -⟩ := hP.out
        exact frozen_of_row w2 w.heap.size i cur 115 (box_below B hh)
      clear hP hB B he
      go_wp2
      go_roundw
      case rel => exact ⟨k + 1, by omega, by go_num, HS, put_below HB2.out (Nat.le_refl _) (k * 4) [.int .i64 x.uid, .int .i64 x.flags, .int .i64 x.seq, .slice ya yn yc]⟩
      case measure => simp [intOf]; omega
    · obtain rfl : k = l.length := by omega
      go_wp2
      go_ret
      exact ⟨_, rfl, Part.done hP.out rfl (by unfold maxLen; omega) (Nat.le_refl _), hB.out⟩

end Go.Proofs.YtdokgpdfdenoaaaGreat

/- What toGone, toGoneS of package laws do. -/
namespace Go.Proofs.YtdokgpdfdenoaaaGreat
open Go.RowKit
set_option maxRecDepth 100000
set_option linter.unusedVariables false

set_option maxHeartbeats 400000 in
theorem toGone_o (x : GoneD) (w : World) :
    Calls Tryz.prog 91 #[.agg #[.int .i64 x.uid, .int .i64 x.seq]] w fun e w' => e = .returned (.agg #[.int .i64 x.uid, .int .i64 x.seq]) ∧ Below w.heap.size w w' := by
  obtain ⟨uid, seq⟩ := x
  simp only
  go_enter Tryz.func91, Tryz.ntmps91
  go_wp2
  exact bodyPost_ret (v := .agg #[.int .i64 uid, .int .i64 seq]) (by simp [results, Tryz.results91, go_sem]) rfl ⟨rfl, box3_below w _ _ _⟩

theorem infoGone : (Tryz.prog.info? 117).map (fun i => (i.zero, i.size, i.bytes)) = some (some (.agg #[.int .i64 0, .int .i64 0]), 2, 16) := by kernel_rfl

set_option maxRecDepth 100000 in
set_option maxHeartbeats 1000000 in
theorem toGoneS_r (v : Value) (l : List GoneD) (w : World) (hv : GonesV w v l) (hl : l.length ≤ 2000000) :
    Calls Tryz.prog 78 #[v] w fun e w' => ∃ u, e = .returned u ∧ GonesR w' w.heap.size w'.heap.size u l ∧ Below w.heap.size w w' := by
  have HV : Hid (∀ wi, Below w.heap.size w wi → GonesV wi v l) := fun wi h => hv.below keepsGone h
  obtain ⟨a, cap, rfl, hlc, hcm⟩ := hv.form
  have hll : l.length ≤ 2000000 := by have := Nat.le_refl l.length; omega
  clear hv
  obtain ⟨i0, hi, hz0, hz1, hz2⟩ := info_parts infoGone
  go_enter Tryz.func78, Tryz.ntmps78
  go_wp2_with (at_make; refine wpList_make_full _ rfl _ _ 87 rfl w.heap.size 117 i0 (.agg #[.int .i64 0, .int .i64 0]) 2 Tryz.underlying87 hi hz0 hz1 _ _ _ _ l.length rfl rfl rfl rfl ?b1 ?b2 ?b3 ?_)
  case b1 => rw [hz2]; omega
  case b2 => unfold maxLen; omega
  case b3 => exact Nat.le_refl _
  intro w1 hown hgrow
  have HB : Hid (Below w.heap.size w w1) := (Below.refl w.heap.size w).grown hgrow (Nat.le_refl _) (by simp)
  have HP : Hid (Part 117 2 GoneE w1 w.heap.size l.length 0 l) := by obtain ⟨cur, h1, h2⟩ := made_part hown; exact Part.start h1 h2
  clear hown hgrow hi hz0 hz1 hz2
  go_wp2
  go_loopw [4] (fun i wr => ∃ k : Nat, k ≤ l.length ∧ i = .int .i64 k ∧ Hid (Part 117 2 GoneE wr w.heap.size l.length k l) ∧ Hid (Below w.heap.size w wr)) (fun i _ => l.length - (intOf i).toNat)
  case atStart => exact ⟨0, Nat.zero_le _, rfl, HP, HB⟩
  case round =>
    obtain ⟨k, hk, rfl, hP, hB⟩ := hrel
    by_cases hlt : k < l.length
    · obtain ⟨x, hx⟩ : ∃ x, l[k]? = some x := ⟨l[k], List.getElem?_eq_getElem hlt⟩
      obtain ⟨b, off, cap', hv', hlb, d0, d1, i0, i1⟩ := GonesV.cell (HV.out wr hB.out) k x hx
      simp only [Value.slice.injEq, true_and] at hv'
      obtain ⟨rfl, rfl⟩ := hv'
      go_wp2_with fail
      refine (toGone_o x _).mono ?_
      rintro e w2 ⟨rfl, B⟩
      clear d0 d1
      have hs2 := B.size
      have HS : Hid (Part 117 2 GoneE (put w2 w.heap.size (k * 2) [.int .i64 x.uid, .int .i64 x.seq]) w.heap.size l.length (k + 1) l) := Part.step framesGone hP.out B x hx hlt _ rfl ⟨rfl, i0, i1⟩
      have HB2 : Hid (Below w.heap.size w w2) := Below.step hB.out B
      have hgl := hP.out.lt
      have hgl2 : w.heap.size < w2.heap.size := by omega
      obtain ⟨q0, t0⟩ := (show ∃ u, w2.cell? ⟨w.heap.size, k * 2, none⟩ = some u from by obtain ⟨⟨u, hu⟩, -⟩ := hP.out.cell (k * 2) (by omega); exact ⟨u, (B.cell (p := ⟨w.heap.size, k * 2, none⟩) hgl).trans hu⟩)
      obtain ⟨q1, t1⟩ := (show ∃ u, w2.cell? ⟨w.heap.size, k * 2 + 1, none⟩ = some u from by obtain ⟨⟨u, hu⟩, -⟩ := hP.out.cell (k * 2 + 1) (by omega); exact ⟨u, (B.cell (p := ⟨w.heap.size, k * 2 + 1, none⟩) hgl).trans hu⟩)
      have fz : ∀ i, w2.frozen? ⟨w.heap.size, i, none⟩ = false := by
        intro i
        obtain ⟨cur, cs, fs, hh, -⟩ := hP.out
        exact frozen_of_row w2 w.heap.size i cur 117 (box_below B hh)
      clear hP hB B 
      go_wp2
      go_roundw
      case rel => exact ⟨k + 1, by omega, by go_num, HS, put_below HB2.out (Nat.le_refl _) (k * 2) [.int .i64 x.uid, .int .i64 x.seq]⟩
      case measure => simp [intOf]; omega
    · obtain rfl : k = l.length := by omega
      go_wp2
      go_ret
      exact ⟨_, rfl, Part.done hP.out rfl (by unfold maxLen; omega) (Nat.le_refl _), hB.out⟩

end Go.Proofs.YtdokgpdfdenoaaaGreat

/- What toBox, toBoxS of package laws do. -/
namespace Go.Proofs.YtdokgpdfdenoaaaGreat
open Go.RowKit
set_option maxRecDepth 100000
set_option linter.unusedVariables false

theorem in_chain {B B0 T0 T1 T2 : Nat} (h0 : B ≤ B0) (h1 : B0 ≤ T0) (h2 : T0 ≤ T1) (h3 : T1 ≤ T2) :
    (∀ x, In B0 T0 x → In B T2 x ∧ ¬ In T0 T1 x ∧ ¬ In T1 T2 x) ∧ (∀ x, In T0 T1 x → In B T2 x ∧ ¬ In T1 T2 x) ∧ (∀ x, In T1 T2 x → In B T2 x) := by
  unfold In
  refine ⟨fun x h => ⟨by omega, by omega, by omega⟩, fun x h => ⟨by omega, by omega⟩, fun x h => by omega⟩

set_option maxRecDepth 100000 in
set_option maxHeartbeats 1000000 in
theorem toBox_o (v : Value) (x : BoxD) (w : World) (hv : BoxV w v x) (h0 : szX x ≤ 2000000) :
    Calls Tryz.prog 71 #[v] w fun e w' => ∃ u, e = .returned u ∧ (∃ a n c p q r s t y, u = .agg #[.slice a n c, .int .i64 x.valid, .int .i64 x.next, .int .i64 x.seq, .slice p q r, .slice s t y, .int .i64 x.lost] ∧ BoxE w' [.slice a n c, .int .i64 x.valid, .int .i64 x.next, .int .i64 x.seq, .slice p q r, .slice s t y, .int .i64 x.lost] x (In w.heap.size w'.heap.size)) ∧ Below w.heap.size w w' := by
  obtain ⟨u0, u1, u2, rfl, g0, g1, g2, i0, i1, i2, i3⟩ := hv
  obtain ⟨name, valid, next, seq, mails, gones, lost⟩ := x
  simp only at g0 g1 g2 i0 i1 i2 i3
  have hs : name.length ≤ 2000000 ∧ szM mails ≤ 2000000 ∧ gones.length ≤ 2000000 := by unfold szX at h0; simp only at h0; omega
  clear h0
  have H0 : Hid (∀ wi, Below w.heap.size w wi → Bs wi u0 name ∧ MailsV wi u1 mails ∧ GonesV wi u2 gones) := fun wi h => ⟨g0.below h, g1.below keepsMail h, g2.below keepsGone h⟩
  obtain ⟨a0, n0, c0, rfl⟩ := g0.form3
  obtain ⟨a1, c1, rfl, -⟩ := g1.form
  obtain ⟨a2, c2, rfl, -⟩ := g2.form
  have HI : Hid (I64 valid ∧ I64 next ∧ I64 seq ∧ I64 lost) := ⟨i0, i1, i2, i3⟩
  clear g0 g1 g2 i0 i1 i2 i3
  simp only
  go_enter Tryz.func71, Tryz.ntmps71
  go_wp2_with fail
  refine (toByteS_r _ name _ (H0.out _ (box3_below w _ _ _)).1 hs.1).mono ?_
  rintro e w1 ⟨u0, rfl, R0, B⟩
  obtain ⟨x0, m0, y0, rfl⟩ := R0.bs.form3
  have b3 := box3 w (.cells #[.slice a0 n0 c0, .int .i64 valid, .int .i64 next, .int .i64 seq, .slice a1 mails.length c1, .slice a2 gones.length c2, .int .i64 lost] 122) (.cells #[.slice none 0 0, .int .i64 0, .int .i64 0, .int .i64 0, .slice none 0 0, .slice none 0 0, .int .i64 0] 89) (.cells #[.slice none 0 0, .int .i64 0, .int .i64 0, .int .i64 0, .slice none 0 0, .slice none 0 0, .int .i64 0] 89)
  have kA := box_below B b3.1
  have kR := box_below B b3.2.1
  have kO := box_below B b3.2.2
  have s1 : w.heap.size + 3 ≤ w1.heap.size := by have := B.size; simp at this; omega
  have X := Below.step (box3_below w _ _ _) B
  replace R0 := R0.wide (B' := w.heap.size + 3) (T' := w1.heap.size) (by simp) (Nat.le_refl _)
  clear b3 B
  obtain ⟨-, f1, f2, f3, f4, -, -⟩ := bx7 kA
  obtain ⟨oz, ol⟩ := box8z kO
  obtain ⟨o0, o1, o2, o3, o4, o5, o6⟩ := bx7 kO
  go_wp2_with fail
  clear f1 f2 f3 f4 oz ol o0 o1 o2 o3 o4 o5 o6
  replace X := X.setCell (p := ⟨w.heap.size + 1 + 1, 0, none⟩) (by simp; omega) (.slice x0 m0 y0)
  replace R0 := R0.set (g := w.heap.size + 1 + 1) (i := 0) (x := .slice x0 m0 y0) (.inl (by omega))
  replace kA := box_other (i := 0) (v := .slice x0 m0 y0) kA (show w.heap.size ≠ w.heap.size + 1 + 1 by omega)
  replace kR := box_other (i := 0) (v := .slice x0 m0 y0) kR (show w.heap.size + 1 ≠ w.heap.size + 1 + 1 by omega)
  replace kO : (World.setCell _ _ _).heap[w.heap.size + 1 + 1]? = some (Obj.cells #[.slice x0 m0 y0, .int .i64 0, .int .i64 0, .int .i64 0, .slice none 0 0, .slice none 0 0, .int .i64 0] 89) := box_set (i := 0) (v := .slice x0 m0 y0) kO
  replace X := X.setCell (p := ⟨w.heap.size + 1 + 1, 1, none⟩) (by simp; omega) (.int .i64 valid)
  replace R0 := R0.set (g := w.heap.size + 1 + 1) (i := 1) (x := .int .i64 valid) (.inl (by omega))
  replace kA := box_other (i := 1) (v := .int .i64 valid) kA (show w.heap.size ≠ w.heap.size + 1 + 1 by omega)
  replace kR := box_other (i := 1) (v := .int .i64 valid) kR (show w.heap.size + 1 ≠ w.heap.size + 1 + 1 by omega)
  replace kO : (World.setCell _ _ _).heap[w.heap.size + 1 + 1]? = some (Obj.cells #[.slice x0 m0 y0, .int .i64 valid, .int .i64 0, .int .i64 0, .slice none 0 0, .slice none 0 0, .int .i64 0] 89) := box_set (i := 1) (v := .int .i64 valid) kO
  replace X := X.setCell (p := ⟨w.heap.size + 1 + 1, 2, none⟩) (by simp; omega) (.int .i64 next)
  replace R0 := R0.set (g := w.heap.size + 1 + 1) (i := 2) (x := .int .i64 next) (.inl (by omega))
  replace kA := box_other (i := 2) (v := .int .i64 next) kA (show w.heap.size ≠ w.heap.size + 1 + 1 by omega)
  replace kR := box_other (i := 2) (v := .int .i64 next) kR (show w.heap.size + 1 ≠ w.heap.size + 1 + 1 by omega)
  replace kO : (World.setCell _ _ _).heap[w.heap.size + 1 + 1]? = some (Obj.cells #[.slice x0 m0 y0, .int .i64 valid, .int .i64 next, .int .i64 0, .slice none 0 0, .slice none 0 0, .int .i64 0] 89) := box_set (i := 2) (v := .int .i64 next) kO
  replace X := X.setCell (p := ⟨w.heap.size + 1 + 1, 3, none⟩) (by simp; omega) (.int .i64 seq)
  replace R0 := R0.set (g := w.heap.size + 1 + 1) (i := 3) (x := .int .i64 seq) (.inl (by omega))
  replace kA := box_other (i := 3) (v := .int .i64 seq) kA (show w.heap.size ≠ w.heap.size + 1 + 1 by omega)
  replace kR := box_other (i := 3) (v := .int .i64 seq) kR (show w.heap.size + 1 ≠ w.heap.size + 1 + 1 by omega)
  replace kO : (World.setCell _ _ _).heap[w.heap.size + 1 + 1]? = some (Obj.cells #[.slice x0 m0 y0, .int .i64 valid, .int .i64 next, .int .i64 seq, .slice none 0 0, .slice none 0 0, .int .i64 0] 89) := box_set (i := 3) (v := .int .i64 seq) kO
  refine (toMailS_r _ mails _ (H0.out _ X).2.1 hs.2.1).mono ?_
  rintro e w2 ⟨u1, rfl, R1, B⟩
  obtain ⟨x1, m1, y1, rfl⟩ := R1.form3
  simp only [box_size] at R1
  have s2 : w1.heap.size ≤ w2.heap.size := by have := B.size; simpa only [box_size] using this
  replace X := Below.step X B
  replace R0 := R0.below B
  replace kA := box_below B kA
  replace kR := box_below B kR
  replace kO := box_below B kO
  clear B
  obtain ⟨-, -, -, -, -, f5, -⟩ := bx7 kA
  obtain ⟨oz, ol⟩ := box8z kO
  obtain ⟨o0, o1, o2, o3, o4, o5, o6⟩ := bx7 kO
  go_wp2_with fail
  clear f5 oz ol o0 o1 o2 o3 o4 o5 o6
  replace X := X.setCell (p := ⟨w.heap.size + 1 + 1, 4, none⟩) (by simp; omega) (.slice x1 m1 y1)
  replace R0 := R0.set (g := w.heap.size + 1 + 1) (i := 4) (x := .slice x1 m1 y1) (.inl (by omega))
  replace R1 := R1.set (g := w.heap.size + 1 + 1) (i := 4) (x := .slice x1 m1 y1) (.inl (by omega))
  replace kA := box_other (i := 4) (v := .slice x1 m1 y1) kA (show w.heap.size ≠ w.heap.size + 1 + 1 by omega)
  replace kR := box_other (i := 4) (v := .slice x1 m1 y1) kR (show w.heap.size + 1 ≠ w.heap.size + 1 + 1 by omega)
  replace kO : (World.setCell _ _ _).heap[w.heap.size + 1 + 1]? = some (Obj.cells #[.slice x0 m0 y0, .int .i64 valid, .int .i64 next, .int .i64 seq, .slice x1 m1 y1, .slice none 0 0, .int .i64 0] 89) := box_set (i := 4) (v := .slice x1 m1 y1) kO
  refine (toGoneS_r _ gones _ (H0.out _ X).2.2 hs.2.2).mono ?_
  rintro e w3 ⟨u2, rfl, R2, B⟩
  obtain ⟨x2, m2, y2, rfl⟩ := R2.form3
  simp only [box_size] at R2
  have s3 : w2.heap.size ≤ w3.heap.size := by have := B.size; simpa only [box_size] using this
  replace X := Below.step X B
  replace R0 := R0.below B
  replace R1 := R1.below B
  replace kA := box_below B kA
  replace kR := box_below B kR
  replace kO := box_below B kO
  clear B
  obtain ⟨-, -, -, -, -, -, f6⟩ := bx7 kA
  obtain ⟨oz, ol⟩ := box8z kO
  obtain ⟨o0, o1, o2, o3, o4, o5, o6⟩ := bx7 kO
  obtain ⟨rz, rl⟩ := box8z kR
  obtain ⟨r0, r1, r2, r3, r4, r5, r6⟩ := bx7 kR
  go_wp2
  refine bodyPost_ret (v := .agg #[.slice x0 m0 y0, .int .i64 valid, .int .i64 next, .int .i64 seq, .slice x1 m1 y1, .slice x2 m2 y2, .int .i64 lost]) (by simp [results, Tryz.results71, go_sem, r0, r1, r2, r3, r4, r5, r6]) rfl ⟨_, rfl, ?_, ?_⟩
  · simp only [box_size]
    exact ⟨_, _, _, _, _, _, _, _, _, rfl, _, _, _, In (w.heap.size + 3) w1.heap.size, In w1.heap.size w2.heap.size, In w2.heap.size w3.heap.size, rfl, Row.ro ((((((((((R0.set (g := w.heap.size + 1 + 1) (i := 5) (x := .slice x2 m2 y2) (.inl (by omega))).set (g := w.heap.size + 1 + 1) (i := 6) (x := .int .i64 lost) (.inl (by omega))).set (g := w.heap.size + 1) (i := 0) (x := .slice x0 m0 y0) (.inl (by omega))).set (g := w.heap.size + 1) (i := 1) (x := .int .i64 valid) (.inl (by omega))).set (g := w.heap.size + 1) (i := 2) (x := .int .i64 next) (.inl (by omega))).set (g := w.heap.size + 1) (i := 3) (x := .int .i64 seq) (.inl (by omega))).set (g := w.heap.size + 1) (i := 4) (x := .slice x1 m1 y1) (.inl (by omega))).set (g := w.heap.size + 1) (i := 5) (x := .slice x2 m2 y2) (.inl (by omega))).set (g := w.heap.size + 1) (i := 6) (x := .int .i64 lost) (.inl (by omega)))), OwR.ow ((((((((((R1.set (g := w.heap.size + 1 + 1) (i := 5) (x := .slice x2 m2 y2) (.inl (by omega))).set (g := w.heap.size + 1 + 1) (i := 6) (x := .int .i64 lost) (.inl (by omega))).set (g := w.heap.size + 1) (i := 0) (x := .slice x0 m0 y0) (.inl (by omega))).set (g := w.heap.size + 1) (i := 1) (x := .int .i64 valid) (.inl (by omega))).set (g := w.heap.size + 1) (i := 2) (x := .int .i64 next) (.inl (by omega))).set (g := w.heap.size + 1) (i := 3) (x := .int .i64 seq) (.inl (by omega))).set (g := w.heap.size + 1) (i := 4) (x := .slice x1 m1 y1) (.inl (by omega))).set (g := w.heap.size + 1) (i := 5) (x := .slice x2 m2 y2) (.inl (by omega))).set (g := w.heap.size + 1) (i := 6) (x := .int .i64 lost) (.inl (by omega)))), OwR.ow ((((((((((R2.set (g := w.heap.size + 1 + 1) (i := 5) (x := .slice x2 m2 y2) (.inl (by omega))).set (g := w.heap.size + 1 + 1) (i := 6) (x := .int .i64 lost) (.inl (by omega))).set (g := w.heap.size + 1) (i := 0) (x := .slice x0 m0 y0) (.inl (by omega))).set (g := w.heap.size + 1) (i := 1) (x := .int .i64 valid) (.inl (by omega))).set (g := w.heap.size + 1) (i := 2) (x := .int .i64 next) (.inl (by omega))).set (g := w.heap.size + 1) (i := 3) (x := .int .i64 seq) (.inl (by omega))).set (g := w.heap.size + 1) (i := 4) (x := .slice x1 m1 y1) (.inl (by omega))).set (g := w.heap.size + 1) (i := 5) (x := .slice x2 m2 y2) (.inl (by omega))).set (g := w.heap.size + 1) (i := 6) (x := .int .i64 lost) (.inl (by omega)))), (in_chain (by omega) (by omega) (by omega) (by omega)).1, (in_chain (B0 := w.heap.size + 3) (by omega) (by omega) (by omega) (by omega)).2.1, (in_chain (B0 := w.heap.size + 3) (T0 := w1.heap.size) (by omega) (by omega) (by omega) (by omega)).2.2, HI.out⟩
  · exact (((((((((X.setCell (p := ⟨w.heap.size + 1 + 1, 5, none⟩) (by simp <;> omega) (.slice x2 m2 y2)).setCell (p := ⟨w.heap.size + 1 + 1, 6, none⟩) (by simp <;> omega) (.int .i64 lost)).setCell (p := ⟨w.heap.size + 1, 0, none⟩) (by simp <;> omega) (.slice x0 m0 y0)).setCell (p := ⟨w.heap.size + 1, 1, none⟩) (by simp <;> omega) (.int .i64 valid)).setCell (p := ⟨w.heap.size + 1, 2, none⟩) (by simp <;> omega) (.int .i64 next)).setCell (p := ⟨w.heap.size + 1, 3, none⟩) (by simp <;> omega) (.int .i64 seq)).setCell (p := ⟨w.heap.size + 1, 4, none⟩) (by simp <;> omega) (.slice x1 m1 y1)).setCell (p := ⟨w.heap.size + 1, 5, none⟩) (by simp <;> omega) (.slice x2 m2 y2)).setCell (p := ⟨w.heap.size + 1, 6, none⟩) (by simp <;> omega) (.int .i64 lost))

theorem infoBox : (Tryz.prog.info? 89).map (fun i => (i.zero, i.size, i.bytes)) = some (some (.agg #[.slice none 0 0, .int .i64 0, .int .i64 0, .int .i64 0, .slice none 0 0, .slice none 0 0, .int .i64 0]), 7, 104) := by kernel_rfl

set_option maxRecDepth 100000 in
set_option maxHeartbeats 1000000 in
theorem toBoxS_r (v : Value) (l : List BoxD) (w : World) (hv : BoxesV w v l) (hl : szXs l ≤ 2000000) :
    Calls Tryz.prog 59 #[v] w fun e w' => ∃ u, e = .returned u ∧ BoxesR w' w.heap.size w'.heap.size u l ∧ Below w.heap.size w w' := by
  have HV : Hid (∀ wi, Below w.heap.size w wi → BoxesV wi v l) := fun wi h => hv.below keepsBox h
  obtain ⟨a, cap, rfl, hlc, hcm⟩ := hv.form
  have hll : l.length ≤ 2000000 := by have := szXs_len l; omega
  clear hv
  obtain ⟨i0, hi, hz0, hz1, hz2⟩ := info_parts infoBox
  go_enter Tryz.func59, Tryz.ntmps59
  go_wp2_with (at_make; refine wpList_make_full _ rfl _ _ 49 rfl w.heap.size 89 i0 (.agg #[.slice none 0 0, .int .i64 0, .int .i64 0, .int .i64 0, .slice none 0 0, .slice none 0 0, .int .i64 0]) 7 Tryz.underlying49 hi hz0 hz1 _ _ _ _ l.length rfl rfl rfl rfl ?b1 ?b2 ?b3 ?_)
  case b1 => rw [hz2]; omega
  case b2 => unfold maxLen; omega
  case b3 => exact Nat.le_refl _
  intro w1 hown hgrow
  have HB : Hid (Below w.heap.size w w1) := (Below.refl w.heap.size w).grown hgrow (Nat.le_refl _) (by simp)
  have HP : Hid (Part 89 7 BoxE w1 w.heap.size l.length 0 l) := by obtain ⟨cur, h1, h2⟩ := made_part hown; exact Part.start h1 h2
  clear hown hgrow hi hz0 hz1 hz2
  go_wp2
  go_loopw [4] (fun i wr => ∃ k : Nat, k ≤ l.length ∧ i = .int .i64 k ∧ Hid (Part 89 7 BoxE wr w.heap.size l.length k l) ∧ Hid (Below w.heap.size w wr)) (fun i _ => l.length - (intOf i).toNat)
  case atStart => exact ⟨0, Nat.zero_le _, rfl, HP, HB⟩
  case round =>
    obtain ⟨k, hk, rfl, hP, hB⟩ := hrel
    by_cases hlt : k < l.length
    · obtain ⟨x, hx⟩ : ∃ x, l[k]? = some x := ⟨l[k], List.getElem?_eq_getElem hlt⟩
      obtain ⟨b, off, cap', u0, u1, u2, hv', hlb, d0, d1, d2, d3, d4, d5, d6, hu0, hu1, hu2, i0, i1, i2, i3⟩ := BoxesV.cell (HV.out wr hB.out) k x hx
      simp only [Value.slice.injEq, true_and] at hv'
      obtain ⟨rfl, rfl⟩ := hv'
      obtain ⟨ua, un, uc, rfl⟩ := hu0.form3
      obtain ⟨va, vc, rfl, -⟩ := hu1.form
      obtain ⟨wa, wc, rfl, -⟩ := hu2.form
      go_wp2_with fail
      refine (toBox_o _ x _ ⟨_, _, _, rfl, hu0, hu1, hu2, i0, i1, i2, i3⟩ (by have := szXs_mem (List.mem_of_getElem? hx); omega)).mono ?_
      rintro e w2 ⟨_, rfl, ⟨ya, yn, yc, za, zn, zc, ta, tn, tc, rfl, he⟩, B⟩
      clear d0 d1 d2 d3 d4 d5 d6
      have hs2 := B.size
      have HS : Hid (Part 89 7 BoxE (put w2 w.heap.size (k * 7) [.slice ya yn yc, .int .i64 x.valid, .int .i64 x.next, .int .i64 x.seq, .slice za zn zc, .slice ta tn tc, .int .i64 x.lost]) w.heap.size l.length (k + 1) l) := Part.step framesBox hP.out B x hx hlt _ rfl he
      have HB2 : Hid (Below w.heap.size w w2) := Below.step hB.out B
      have hgl := hP.out.lt
      have hgl2 : w.heap.size < w2.heap.size := by omega
      obtain ⟨q0, t0⟩ := (show ∃ u, w2.cell? ⟨w.heap.size, k * 7, none⟩ = some u from by obtain ⟨⟨u, hu⟩, -⟩ := hP.out.cell (k * 7) (by omega); exact ⟨u, (B.cell (p := ⟨w.heap.size, k * 7, none⟩) hgl).trans hu⟩)
      obtain ⟨q1, t1⟩ := (show ∃ u, w2.cell? ⟨w.heap.size, k * 7 + 1, none⟩ = some u from by obtain ⟨⟨u, hu⟩, -⟩ := hP.out.cell (k * 7 + 1) (by omega); exact ⟨u, (B.cell (p := ⟨w.heap.size, k * 7 + 1, none⟩) hgl).trans hu⟩)
      obtain ⟨q2, t2⟩ := (show ∃ u, w2.cell? ⟨w.heap.size, k * 7 + 2, none⟩ = some u from by obtain ⟨⟨u, hu⟩, -⟩ := hP.out.cell (k * 7 + 2) (by omega); exact ⟨u, (B.cell (p := ⟨w.heap.size, k * 7 + 2, none⟩) hgl).trans hu⟩)
      obtain ⟨q3, t3⟩ := (show ∃ u, w2.cell? ⟨w.heap.size, k * 7 + 3, none⟩ = some u from by obtain ⟨⟨u, hu⟩, -⟩ := hP.out.cell (k * 7 + 3) (by omega); exact ⟨u, (B.cell (p := ⟨w.heap.size, k * 7 + 3, none⟩) hgl).trans hu⟩)
      obtain ⟨q4, t4⟩ := (show ∃ u, w2.cell? ⟨w.heap.size, k * 7 + 4, none⟩ = some u from by obtain ⟨⟨u, hu⟩, -⟩ := hP.out.cell (k * 7 + 4) (by omega); exact ⟨u, (B.cell (p := ⟨w.heap.size, k * 7 + 4, none⟩) hgl).trans hu⟩)
      obtain ⟨q5, t5⟩ := (show ∃ u, w2.cell? ⟨w.heap.size, k * 7 + 5, none⟩ = some u from by obtain ⟨⟨u, hu⟩, -⟩ := hP.out.cell (k * 7 + 5) (by omega); exact ⟨u, (B.cell (p := ⟨w.heap.size, k * 7 + 5, none⟩) hgl).trans hu⟩)
      obtain ⟨q6, t6⟩ := (show ∃ u, w2.cell? ⟨w.heap.size, k * 7 + 6, none⟩ = some u from by obtain ⟨⟨u, hu⟩, -⟩ := hP.out.cell (k * 7 + 6) (by omega); exact ⟨u, (B.cell (p := ⟨w.heap.size, k * 7 + 6, none⟩) hgl).trans hu⟩)
      have fz : ∀ i, w2.frozen? ⟨w.heap.size, i, none⟩ = false := by
        intro i
        obtain ⟨cur, cs, fs, hh, -⟩ := hP.out
        exact frozen_of_row w2 w.heap.size i cur 89 (box_below B hh)
      clear hP hB B he
      go_wp2
      go_roundw
      case rel => exact ⟨k + 1, by omega, by go_num, HS, put_below HB2.out (Nat.le_refl _) (k * 7) [.slice ya yn yc, .int .i64 x.valid, .int .i64 x.next, .int .i64 x.seq, .slice za zn zc, .slice ta tn tc, .int .i64 x.lost]⟩
      case measure => simp [intOf]; omega
    · obtain rfl : k = l.length := by omega
      go_wp2
      go_ret
      exact ⟨_, rfl, Part.done hP.out rfl (by unfold maxLen; omega) (Nat.le_refl _), hB.out⟩

end Go.Proofs.YtdokgpdfdenoaaaGreat

/- What toIntS, toAccount of package laws do. -/
namespace Go.Proofs.YtdokgpdfdenoaaaGreat
open Go.RowKit
set_option maxRecDepth 100000
set_option linter.unusedVariables false

theorem infoInt : (Tryz.prog.info? 3).map (fun i => (i.zero, i.size, i.bytes)) = some (some (.int .i64 0), 1, 8) := by kernel_rfl

set_option maxRecDepth 100000 in
set_option maxHeartbeats 1000000 in
theorem toIntS_r (v : Value) (l : List Int) (w : World) (hv : IntsV w v l) (hll : l.length ≤ 2000000) :
    Calls Tryz.prog 60 #[v] w fun e w' => ∃ u, e = .returned u ∧ IntsR w' w.heap.size w'.heap.size u l ∧ Below w.heap.size w w' := by
  have HV : Hid (∀ wi, Below w.heap.size w wi → IntsV wi v l) := fun wi h => hv.below keepsInt h
  obtain ⟨a, cap, rfl, hlc, hcm⟩ := hv.form
  clear hv
  obtain ⟨i0, hi, hz0, hz1, hz2⟩ := info_parts infoInt
  go_enter Tryz.func60, Tryz.ntmps60
  go_wp2_with (at_make; refine wpList_make_full _ rfl _ _ 41 rfl w.heap.size 3 i0 (.int .i64 0) 1 Tryz.underlying41 hi hz0 hz1 _ _ _ _ l.length rfl rfl rfl rfl ?b1 ?b2 ?b3 ?_)
  case b1 => rw [hz2]; omega
  case b2 => unfold maxLen; omega
  case b3 => exact Nat.le_refl _
  intro w1 hown hgrow
  have HB : Hid (Below w.heap.size w w1) := (Below.refl w.heap.size w).grown hgrow (Nat.le_refl _) (by simp)
  have HP : Hid (Part 3 1 IntE w1 w.heap.size l.length 0 l) := by obtain ⟨cur, h1, h2⟩ := made_part hown; exact Part.start h1 h2
  clear hown hgrow hi hz0 hz1 hz2
  go_wp2
  go_loopw [4] (fun i wr => ∃ k : Nat, k ≤ l.length ∧ i = .int .i64 k ∧ Hid (Part 3 1 IntE wr w.heap.size l.length k l) ∧ Hid (Below w.heap.size w wr)) (fun i _ => l.length - (intOf i).toNat)
  case atStart => exact ⟨0, Nat.zero_le _, rfl, HP, HB⟩
  case round =>
    obtain ⟨k, hk, rfl, hP, hB⟩ := hrel
    by_cases hlt : k < l.length
    · obtain ⟨x, hx⟩ : ∃ x, l[k]? = some x := ⟨l[k], List.getElem?_eq_getElem hlt⟩
      obtain ⟨b, off, cap', hv', hlb, d0, i0⟩ := IntsV.cell (HV.out wr hB.out) k x hx
      simp only [Value.slice.injEq, true_and] at hv'
      obtain ⟨rfl, rfl⟩ := hv'
      have HS : Hid (Part 3 1 IntE (put wr w.heap.size k [.int .i64 x]) w.heap.size l.length (k + 1) l) := by
        have := Part.step framesInt hP.out (Below.refl _ _) x hx hlt [.int .i64 x] rfl ⟨rfl, i0⟩
        rwa [Nat.mul_one] at this
      have hgl := hP.out.lt
      obtain ⟨⟨q0, t0⟩, z0⟩ := hP.out.cell k (by omega)
      clear hP
      go_wp2
      go_roundw
      case rel => exact ⟨k + 1, by omega, by go_num, HS, put_below hB.out (Nat.le_refl _) k [.int .i64 x]⟩
      case measure => simp [intOf]; omega
    · obtain rfl : k = l.length := by omega
      go_wp2
      go_ret
      exact ⟨_, rfl, Part.done hP.out rfl (by unfold maxLen; omega) (Nat.le_refl _), hB.out⟩

set_option maxRecDepth 100000 in
set_option maxHeartbeats 1000000 in
theorem toAccount_o (v : Value) (x : AccD) (w : World) (hv : AccV w v x) (h0 : szXs x.boxes ≤ 2000000) (h1 : x.seen.length ≤ 2000000) :
    Calls Tryz.prog 39 #[v] w fun e w' => ∃ u, e = .returned u ∧ AccO w' (In w.heap.size w'.heap.size) u x ∧ Below w.heap.size w w' := by
  obtain ⟨u0, u1, rfl, g0, g1, i0⟩ := hv
  obtain ⟨valid, boxes, seen⟩ := x
  simp only at g0 g1 i0 h0 h1
  have H0 : Hid (∀ wi, Below w.heap.size w wi → BoxesV wi u0 boxes ∧ IntsV wi u1 seen) := fun wi h => ⟨g0.below keepsBox h, g1.below keepsInt h⟩
  obtain ⟨a0, c0, rfl, -⟩ := g0.form
  obtain ⟨a1, c1, rfl, -⟩ := g1.form
  have HI : Hid (I64 valid) := i0
  clear g0 g1 i0
  simp only
  go_enter Tryz.func39, Tryz.ntmps39
  go_wp2_with fail
  refine (toBoxS_r _ boxes _ (H0.out _ (box3_below w _ _ _)).1 h0).mono ?_
  rintro e w1 ⟨u0, rfl, R0, B⟩
  obtain ⟨x0, m0, y0, rfl⟩ := R0.form3
  have b3 := box3 w (.cells #[.int .i64 valid, .slice a0 boxes.length c0, .slice a1 seen.length c1] 43) (.cells #[.int .i64 0, .slice none 0 0, .slice none 0 0] 51) (.cells #[.int .i64 valid, .slice none 0 0, .slice none 0 0] 51)
  have kA := box_below B b3.1
  have kR := box_below B b3.2.1
  have kO := box_below B b3.2.2
  have s1 : w.heap.size + 3 ≤ w1.heap.size := by have := B.size; simp at this; omega
  have X := Below.step (box3_below w _ _ _) B
  replace R0 := R0.wide (B' := w.heap.size + 3) (T' := w1.heap.size) (by simp) (Nat.le_refl _)
  clear b3 B
  obtain ⟨-, -, f2⟩ := bx3 kA
  obtain ⟨oz, ol⟩ := box8z kO
  obtain ⟨o0, o1, o2⟩ := bx3 kO
  go_wp2_with fail
  clear f2 oz ol o0 o1 o2
  replace X := X.setCell (p := ⟨w.heap.size + 1 + 1, 1, none⟩) (by simp; omega) (.slice x0 m0 y0)
  replace R0 := R0.set (g := w.heap.size + 1 + 1) (i := 1) (x := .slice x0 m0 y0) (.inl (by omega))
  replace kA := box_other (i := 1) (v := .slice x0 m0 y0) kA (show w.heap.size ≠ w.heap.size + 1 + 1 by omega)
  replace kR := box_other (i := 1) (v := .slice x0 m0 y0) kR (show w.heap.size + 1 ≠ w.heap.size + 1 + 1 by omega)
  replace kO : (World.setCell _ _ _).heap[w.heap.size + 1 + 1]? = some (Obj.cells #[.int .i64 valid, .slice x0 m0 y0, .slice none 0 0] 51) := box_set (i := 1) (v := .slice x0 m0 y0) kO
  refine (toIntS_r _ seen _ (H0.out _ X).2 h1).mono ?_
  rintro e w2 ⟨u1, rfl, R1, B⟩
  obtain ⟨x1, m1, y1, rfl⟩ := R1.form3
  simp only [box_size] at R1
  have s2 : w1.heap.size ≤ w2.heap.size := by have := B.size; simpa only [box_size] using this
  replace X := Below.step X B
  replace R0 := R0.below B
  replace kA := box_below B kA
  replace kR := box_below B kR
  replace kO := box_below B kO
  clear B
  obtain ⟨-, -, -⟩ := bx3 kA
  obtain ⟨oz, ol⟩ := box8z kO
  obtain ⟨o0, o1, o2⟩ := bx3 kO
  obtain ⟨rz, rl⟩ := box8z kR
  obtain ⟨r0, r1, r2⟩ := bx3 kR
  go_wp2
  refine bodyPost_ret (v := .agg #[.int .i64 valid, .slice x0 m0 y0, .slice x1 m1 y1]) (by simp [results, Tryz.results39, go_sem, r0, r1, r2]) rfl ⟨_, rfl, ?_, ?_⟩
  · simp only [box_size]
    exact ⟨_, _, In (w.heap.size + 3) w1.heap.size, In w1.heap.size w2.heap.size, rfl, OwR.ow (((((R0.set (g := w.heap.size + 1 + 1) (i := 2) (x := .slice x1 m1 y1) (.inl (by omega))).set (g := w.heap.size + 1) (i := 0) (x := .int .i64 valid) (.inl (by omega))).set (g := w.heap.size + 1) (i := 1) (x := .slice x0 m0 y0) (.inl (by omega))).set (g := w.heap.size + 1) (i := 2) (x := .slice x1 m1 y1) (.inl (by omega)))), OwR.ow (((((R1.set (g := w.heap.size + 1 + 1) (i := 2) (x := .slice x1 m1 y1) (.inl (by omega))).set (g := w.heap.size + 1) (i := 0) (x := .int .i64 valid) (.inl (by omega))).set (g := w.heap.size + 1) (i := 1) (x := .slice x0 m0 y0) (.inl (by omega))).set (g := w.heap.size + 1) (i := 2) (x := .slice x1 m1 y1) (.inl (by omega)))), fun x h => ⟨⟨Nat.le_trans (by omega) h.1, Nat.lt_of_lt_of_le h.2 (by omega)⟩, fun h' => Nat.not_le_of_lt h.2 h'.1⟩, fun x h => ⟨Nat.le_trans (by omega) h.1, h.2⟩, HI.out⟩
  · exact ((((X.setCell (p := ⟨w.heap.size + 1 + 1, 2, none⟩) (by simp <;> omega) (.slice x1 m1 y1)).setCell (p := ⟨w.heap.size + 1, 0, none⟩) (by simp <;> omega) (.int .i64 valid)).setCell (p := ⟨w.heap.size + 1, 1, none⟩) (by simp <;> omega) (.slice x0 m0 y0)).setCell (p := ⟨w.heap.size + 1, 2, none⟩) (by simp <;> omega) (.slice x1 m1 y1))

end Go.Proofs.YtdokgpdfdenoaaaGreat

/- What szMail, szMailS, szGoneS, szBox of package laws do. -/
namespace Go.Proofs.YtdokgpdfdenoaaaGreat
open Go.RowKit
set_option maxRecDepth 100000
set_option linter.unusedVariables false

def tot {α : Type} (f : α → Nat) (l : List α) : Nat := (l.map f).sum
theorem tot_succ {α : Type} (f : α → Nat) {l : List α} {k : Nat} {x : α} (hx : l[k]? = some x) : tot f (l.take (k + 1)) = tot f (l.take k) + f x := by
  obtain ⟨h, rfl⟩ := List.getElem?_eq_some_iff.1 hx
  unfold tot
  rw [List.take_succ_eq_append_getElem h, List.map_append, List.sum_append]
  simp
theorem szM_tot (l : List MailD) : szM l = tot (fun m => m.text.length) l + l.length := by
  induction l with
  | nil => rfl
  | cons x l ih => simp only [szM, tot, List.map_cons, List.sum_cons, List.length_cons] at ih ⊢; omega
theorem szXs_tot (l : List BoxD) : szXs l = tot szX l + l.length := by
  induction l with
  | nil => rfl
  | cons x l ih => simp only [szXs, tot, List.map_cons, List.sum_cons, List.length_cons] at ih ⊢; omega
theorem szByteS_e (v : Value) (l : List Int) (left : Int) (w : World) (hv : Bs w v l) (h0 : 0 ≤ left) (h1 : left ≤ 4000000) :
    Calls Tryz.prog 51 #[v, .int .i64 left] w fun e w' => ∃ y : Int, e = .returned (.int .i64 y) ∧ (y = -1 ∨ (0 ≤ y ∧ y + l.length = left)) ∧ Below w.heap.size w w' :=
  (szByteS_any v l left w hv h0 h1).mono fun _ _ ⟨h, hw⟩ => ⟨_, h, szL_or left l.length, by rw [hw]; exact Below.refl _ _⟩

set_option maxRecDepth 100000 in
set_option maxHeartbeats 1000000 in
theorem szMail_any (v : Value) (x : MailD) (left : Int) (w : World) (hv : MailV w v x) (h0 : 0 ≤ left) (h1 : left ≤ 4000000) :
    Calls Tryz.prog 89 #[v, .int .i64 left] w fun e w' => ∃ y : Int, e = .returned (.int .i64 y) ∧ (y = -1 ∨ (0 ≤ y ∧ y + x.text.length = left)) ∧ Below w.heap.size w w' := by
  obtain ⟨u, rfl, g0, -⟩ := hv
  obtain ⟨uid, flags, seq, text⟩ := x
  simp only at g0
  have H0 : Hid (∀ wi, Below w.heap.size w wi → Bs wi u text) := fun wi h => g0.below h
  obtain ⟨a0, n0, c0, rfl⟩ := g0.form3
  clear g0
  simp only
  have X : Below w.heap.size w (w.alloc (.cells #[.int .i64 uid, .int .i64 flags, .int .i64 seq, .slice a0 n0 c0] 142)) := (Below.refl _ _).alloc (Nat.le_refl _) _
  have kA := box_new w (.cells #[.int .i64 uid, .int .i64 flags, .int .i64 seq, .slice a0 n0 c0] 142)
  go_enter Tryz.func89, Tryz.ntmps89
  go_wp2_with fail
  refine (szByteS_e _ text left _ (H0.out _ X) h0 h1).mono ?_
  rintro e w1 ⟨y0, rfl, hy, B⟩
  replace X := Below.step X B
  replace kA := box_below B kA
  clear B
  obtain ⟨f0, f1, f2, f3⟩ := bx4 kA
  rcases hy with rfl | ⟨q0, p0⟩
  · go_wp2
    go_ret
    exact ⟨-1, rfl, .inl rfl, X⟩
  go_wp2
  go_ret
  exact ⟨y0, rfl, .inr ⟨q0, by omega⟩, X⟩

set_option maxRecDepth 100000 in
set_option maxHeartbeats 1000000 in
theorem szMailS_any (v : Value) (l : List MailD) (left : Int) (w : World) (hv : MailsV w v l) (h0 : 0 ≤ left) (h1 : left ≤ 4000000) :
    Calls Tryz.prog 75 #[v, .int .i64 left] w fun e w' => ∃ y : Int, e = .returned (.int .i64 y) ∧ (y = -1 ∨ (0 ≤ y ∧ y + szM l = left)) ∧ Below w.heap.size w w' := by
  have HV : Hid (∀ wi, Below w.heap.size w wi → MailsV wi v l) := fun wi h => hv.below keepsMail h
  obtain ⟨a, cap, rfl, hlc, hcm⟩ := hv.form
  clear hv
  by_cases hb : left - (l.length : Int) < 0
  · go_enter Tryz.func75, Tryz.ntmps75
    go_wp2
    go_ret
    exact ⟨-1, rfl, .inl rfl, Below.refl _ _⟩
  · go_enter Tryz.func75, Tryz.ntmps75
    go_wp2
    go_loopw [1, 5] (fun q i wr => ∃ (k : Nat) (y : Int), k ≤ l.length ∧ i = .int .i64 k ∧ q = .int .i64 y ∧ 0 ≤ y ∧ Hid (y + l.length + tot (fun m => m.text.length) (l.take k) = left) ∧ Hid (Below w.heap.size w wr)) (fun _ i _ => l.length - (intOf i).toNat)
    case atStart => exact ⟨0, left - l.length, Nat.zero_le _, rfl, rfl, by omega, (show Hid _ from by simp [Hid, tot]), Below.refl _ _⟩
    case round =>
      obtain ⟨k, y, hk, rfl, rfl, hy0, hy1, hB⟩ := hrel
      by_cases hlt : k < l.length
      · obtain ⟨x, hx⟩ : ∃ x, l[k]? = some x := ⟨l[k], List.getElem?_eq_getElem hlt⟩
        obtain ⟨b, off, cap', u, hv', hlb, d0, d1, d2, d3, hu, i0, i1, i2⟩ := MailsV.cell (HV.out wr hB.out) k x hx
        simp only [Value.slice.injEq, true_and] at hv'
        obtain ⟨rfl, rfl⟩ := hv'
        obtain ⟨ua, un, uc, rfl⟩ := hu.form3
        have HT : Hid (tot (fun m => m.text.length) (l.take (k + 1)) = tot (fun m => m.text.length) (l.take k) + (fun m => m.text.length) x) := tot_succ _ hx
        go_wp2_with fail
        refine (szMail_any _ x _ _ ⟨_, rfl, hu, i0, i1, i2⟩ hy0 (by have := hy1.out; omega)).mono ?_
        rintro e w2 ⟨y2, rfl, hy2, B⟩
        have HB2 : Hid (Below w.heap.size w w2) := Below.step hB.out B
        clear B hB d0 d1 d2 d3
        rcases hy2 with rfl | ⟨q0, q1⟩
        · go_wp2
          go_ret
          exact ⟨-1, rfl, .inl rfl, HB2.out⟩
        · have HE : Hid (y2 + l.length + tot (fun m => m.text.length) (l.take (k + 1)) = left) := by
            have h1 := HT.out
            have h2 := hy1.out
            simp only [Hid]
            omega
          clear q1
          go_wp2
          go_roundw
          case rel => exact ⟨k + 1, y2, by omega, by go_num, rfl, q0, HE, HB2⟩
          case measure => simp [intOf]; omega
      · obtain rfl : k = l.length := by omega
        go_wp2
        go_ret
        refine ⟨y, rfl, .inr ⟨hy0, ?_⟩, hB.out⟩
        have h2 := hy1.out
        rw [List.take_length] at h2
        have h3 := szM_tot l
        omega

set_option maxRecDepth 100000 in
set_option maxHeartbeats 1000000 in
theorem szGoneS_any (v : Value) (l : List GoneD) (left : Int) (w : World) (hv : GonesV w v l) (h0 : 0 ≤ left) (h1 : left ≤ 4000000) :
    Calls Tryz.prog 76 #[v, .int .i64 left] w fun e w' => ∃ y : Int, e = .returned (.int .i64 y) ∧ (y = -1 ∨ (0 ≤ y ∧ y + l.length = left)) ∧ Below w.heap.size w w' := by
  obtain ⟨a, cap, rfl, hlc, hcm⟩ := hv.form
  clear hv
  by_cases hb : left - (l.length : Int) < 0
  · go_enter Tryz.func76, Tryz.ntmps76
    go_wp2
    go_ret
    exact ⟨-1, rfl, .inl rfl, Below.refl _ _⟩
  · go_enter Tryz.func76, Tryz.ntmps76
    go_wp2
    go_ret
    exact ⟨left - l.length, rfl, .inr ⟨by omega, by omega⟩, Below.refl _ _⟩

set_option maxRecDepth 100000 in
set_option maxHeartbeats 1000000 in
theorem szBox_any (v : Value) (x : BoxD) (left : Int) (w : World) (hv : BoxV w v x) (h0 : 0 ≤ left) (h1 : left ≤ 4000000) :
    Calls Tryz.prog 68 #[v, .int .i64 left] w fun e w' => ∃ y : Int, e = .returned (.int .i64 y) ∧ (y = -1 ∨ (0 ≤ y ∧ y + szX x = left)) ∧ Below w.heap.size w w' := by
  obtain ⟨u0, u1, u2, rfl, g0, g1, g2, -⟩ := hv
  unfold szX
  obtain ⟨name, valid, next, seq, mails, gones, lost⟩ := x
  simp only at g0 g1 g2
  have H0 : Hid (∀ wi, Below w.heap.size w wi → Bs wi u0 name ∧ MailsV wi u1 mails ∧ GonesV wi u2 gones) := fun wi h => ⟨g0.below h, g1.below keepsMail h, g2.below keepsGone h⟩
  obtain ⟨a0, n0, c0, rfl⟩ := g0.form3
  obtain ⟨a1, c1, rfl, -⟩ := g1.form
  obtain ⟨a2, c2, rfl, -⟩ := g2.form
  clear g0 g1 g2
  simp only
  have X : Below w.heap.size w (w.alloc (.cells #[.slice a0 n0 c0, .int .i64 valid, .int .i64 next, .int .i64 seq, .slice a1 mails.length c1, .slice a2 gones.length c2, .int .i64 lost] 122)) := (Below.refl _ _).alloc (Nat.le_refl _) _
  have kA := box_new w (.cells #[.slice a0 n0 c0, .int .i64 valid, .int .i64 next, .int .i64 seq, .slice a1 mails.length c1, .slice a2 gones.length c2, .int .i64 lost] 122)
  go_enter Tryz.func68, Tryz.ntmps68
  go_wp2_with fail
  refine (szByteS_e _ name left _ (H0.out _ X).1 h0 h1).mono ?_
  rintro e w1 ⟨y0, rfl, hy, B⟩
  replace X := Below.step X B
  replace kA := box_below B kA
  clear B
  obtain ⟨f0, f1, f2, f3, f4, f5, f6⟩ := bx7 kA
  rcases hy with rfl | ⟨q0, p0⟩
  · go_wp2
    go_ret
    exact ⟨-1, rfl, .inl rfl, X⟩
  go_wp2_with fail
  clear f0 f1 f2 f3 f4 f5 f6
  refine (szMailS_any _ mails y0 _ (H0.out _ X).2.1 q0 (by omega)).mono ?_
  rintro e w2 ⟨y1, rfl, hy, B⟩
  replace X := Below.step X B
  replace kA := box_below B kA
  clear B
  obtain ⟨f0, f1, f2, f3, f4, f5, f6⟩ := bx7 kA
  rcases hy with rfl | ⟨q1, p1⟩
  · go_wp2
    go_ret
    exact ⟨-1, rfl, .inl rfl, X⟩
  go_wp2_with fail
  clear f0 f1 f2 f3 f4 f5 f6
  refine (szGoneS_any _ gones y1 _ (H0.out _ X).2.2 q1 (by omega)).mono ?_
  rintro e w3 ⟨y2, rfl, hy, B⟩
  replace X := Below.step X B
  replace kA := box_below B kA
  clear B
  obtain ⟨f0, f1, f2, f3, f4, f5, f6⟩ := bx7 kA
  rcases hy with rfl | ⟨q2, p2⟩
  · go_wp2
    go_ret
    exact ⟨-1, rfl, .inl rfl, X⟩
  go_wp2
  go_ret
  exact ⟨y2, rfl, .inr ⟨q2, by omega⟩, X⟩

end Go.Proofs.YtdokgpdfdenoaaaGreat

/- What szBoxS, szIntS, szAccount of package laws do. -/
namespace Go.Proofs.YtdokgpdfdenoaaaGreat
open Go.RowKit
set_option maxRecDepth 100000
set_option linter.unusedVariables false

set_option maxRecDepth 100000 in
set_option maxHeartbeats 1000000 in
theorem szIntS_any (v : Value) (l : List Int) (left : Int) (w : World) (hv : IntsV w v l) (h0 : 0 ≤ left) (h1 : left ≤ 4000000) :
    Calls Tryz.prog 53 #[v, .int .i64 left] w fun e w' => ∃ y : Int, e = .returned (.int .i64 y) ∧ (y = -1 ∨ (0 ≤ y ∧ y + l.length = left)) ∧ Below w.heap.size w w' := by
  obtain ⟨a, cap, rfl, hlc, hcm⟩ := hv.form
  clear hv
  by_cases hb : left - (l.length : Int) < 0
  · go_enter Tryz.func53, Tryz.ntmps53
    go_wp2
    go_ret
    exact ⟨-1, rfl, .inl rfl, Below.refl _ _⟩
  · go_enter Tryz.func53, Tryz.ntmps53
    go_wp2
    go_ret
    exact ⟨left - l.length, rfl, .inr ⟨by omega, by omega⟩, Below.refl _ _⟩

set_option maxRecDepth 100000 in
set_option maxHeartbeats 1000000 in
theorem szBoxS_any (v : Value) (l : List BoxD) (left : Int) (w : World) (hv : BoxesV w v l) (h0 : 0 ≤ left) (h1 : left ≤ 4000000) :
    Calls Tryz.prog 52 #[v, .int .i64 left] w fun e w' => ∃ y : Int, e = .returned (.int .i64 y) ∧ (y = -1 ∨ (0 ≤ y ∧ y + szXs l = left)) ∧ Below w.heap.size w w' := by
  have HV : Hid (∀ wi, Below w.heap.size w wi → BoxesV wi v l) := fun wi h => hv.below keepsBox h
  obtain ⟨a, cap, rfl, hlc, hcm⟩ := hv.form
  clear hv
  by_cases hb : left - (l.length : Int) < 0
  · go_enter Tryz.func52, Tryz.ntmps52
    go_wp2
    go_ret
    exact ⟨-1, rfl, .inl rfl, Below.refl _ _⟩
  · go_enter Tryz.func52, Tryz.ntmps52
    go_wp2
    go_loopw [1, 5] (fun q i wr => ∃ (k : Nat) (y : Int), k ≤ l.length ∧ i = .int .i64 k ∧ q = .int .i64 y ∧ 0 ≤ y ∧ Hid (y + l.length + tot (szX) (l.take k) = left) ∧ Hid (Below w.heap.size w wr)) (fun _ i _ => l.length - (intOf i).toNat)
    case atStart => exact ⟨0, left - l.length, Nat.zero_le _, rfl, rfl, by omega, (show Hid _ from by simp [Hid, tot]), Below.refl _ _⟩
    case round =>
      obtain ⟨k, y, hk, rfl, rfl, hy0, hy1, hB⟩ := hrel
      by_cases hlt : k < l.length
      · obtain ⟨x, hx⟩ : ∃ x, l[k]? = some x := ⟨l[k], List.getElem?_eq_getElem hlt⟩
        obtain ⟨b, off, cap', u0, u1, u2, hv', hlb, d0, d1, d2, d3, d4, d5, d6, hu0, hu1, hu2, i0, i1, i2, i3⟩ := BoxesV.cell (HV.out wr hB.out) k x hx
        simp only [Value.slice.injEq, true_and] at hv'
        obtain ⟨rfl, rfl⟩ := hv'
        obtain ⟨ua, un, uc, rfl⟩ := hu0.form3
        obtain ⟨va, vc, rfl, -⟩ := hu1.form
        obtain ⟨wa, wc, rfl, -⟩ := hu2.form
        have HT : Hid (tot (szX) (l.take (k + 1)) = tot (szX) (l.take k) + (szX) x) := tot_succ _ hx
        go_wp2_with fail
        refine (szBox_any _ x _ _ ⟨_, _, _, rfl, hu0, hu1, hu2, i0, i1, i2, i3⟩ hy0 (by have := hy1.out; omega)).mono ?_
        rintro e w2 ⟨y2, rfl, hy2, B⟩
        have HB2 : Hid (Below w.heap.size w w2) := Below.step hB.out B
        clear B hB d0 d1 d2 d3 d4 d5 d6
        rcases hy2 with rfl | ⟨q0, q1⟩
        · go_wp2
          go_ret
          exact ⟨-1, rfl, .inl rfl, HB2.out⟩
        · have HE : Hid (y2 + l.length + tot (szX) (l.take (k + 1)) = left) := by
            have h1 := HT.out
            have h2 := hy1.out
            simp only [Hid]
            omega
          clear q1
          go_wp2
          go_roundw
          case rel => exact ⟨k + 1, y2, by omega, by go_num, rfl, q0, HE, HB2⟩
          case measure => simp [intOf]; omega
      · obtain rfl : k = l.length := by omega
        go_wp2
        go_ret
        refine ⟨y, rfl, .inr ⟨hy0, ?_⟩, hB.out⟩
        have h2 := hy1.out
        rw [List.take_length] at h2
        have h3 := szXs_tot l
        omega

set_option maxRecDepth 100000 in
set_option maxHeartbeats 1000000 in
theorem szAccount_any (v : Value) (x : AccD) (left : Int) (w : World) (hv : AccV w v x) (h0 : 0 ≤ left) (h1 : left ≤ 4000000) :
    Calls Tryz.prog 31 #[v, .int .i64 left] w fun e w' => ∃ y : Int, e = .returned (.int .i64 y) ∧ (y = -1 ∨ (0 ≤ y ∧ y + (szXs x.boxes + x.seen.length : Nat) = left)) ∧ Below w.heap.size w w' := by
  obtain ⟨u0, u1, rfl, g0, g1, -⟩ := hv
  obtain ⟨valid, boxes, seen⟩ := x
  simp only at g0 g1
  have H0 : Hid (∀ wi, Below w.heap.size w wi → BoxesV wi u0 boxes ∧ IntsV wi u1 seen) := fun wi h => ⟨g0.below keepsBox h, g1.below keepsInt h⟩
  obtain ⟨a0, c0, rfl, -⟩ := g0.form
  obtain ⟨a1, c1, rfl, -⟩ := g1.form
  clear g0 g1
  simp only
  have X : Below w.heap.size w (w.alloc (.cells #[.int .i64 valid, .slice a0 boxes.length c0, .slice a1 seen.length c1] 43)) := (Below.refl _ _).alloc (Nat.le_refl _) _
  have kA := box_new w (.cells #[.int .i64 valid, .slice a0 boxes.length c0, .slice a1 seen.length c1] 43)
  go_enter Tryz.func31, Tryz.ntmps31
  go_wp2_with fail
  refine (szBoxS_any _ boxes left _ (H0.out _ X).1 h0 h1).mono ?_
  rintro e w1 ⟨y0, rfl, hy, B⟩
  replace X := Below.step X B
  replace kA := box_below B kA
  clear B
  obtain ⟨f0, f1, f2⟩ := bx3 kA
  rcases hy with rfl | ⟨q0, p0⟩
  · go_wp2
    go_ret
    exact ⟨-1, rfl, .inl rfl, X⟩
  go_wp2_with fail
  clear f0 f1 f2
  refine (szIntS_any _ seen y0 _ (H0.out _ X).2 q0 (by omega)).mono ?_
  rintro e w2 ⟨y1, rfl, hy, B⟩
  replace X := Below.step X B
  replace kA := box_below B kA
  clear B
  obtain ⟨f0, f1, f2⟩ := bx3 kA
  rcases hy with rfl | ⟨q1, p1⟩
  · go_wp2
    go_ret
    exact ⟨-1, rfl, .inl rfl, X⟩
  go_wp2
  go_ret
  exact ⟨y1, rfl, .inr ⟨q1, by omega⟩, X⟩

end Go.Proofs.YtdokgpdfdenoaaaGreat

/- What eqMail, eqMailS, eqGone, eqGoneS, eqBox of package laws do. -/
namespace Go.Proofs.YtdokgpdfdenoaaaGreat
open Go.RowKit
set_option maxRecDepth 100000
set_option linter.unusedVariables false

set_option maxRecDepth 100000 in
set_option maxHeartbeats 1000000 in
theorem eqMail_yes (v u : Value) (x : MailD) (w : World) (hv : MailV w v x) (hu : MailV w u x) :
    Calls Tryz.prog 98 #[v, u] w fun e w' => e = .returned (.bool true) ∧ Below w.heap.size w w' := by
  obtain ⟨u0, rfl, g0, -⟩ := hv
  obtain ⟨u1, rfl, g1, -⟩ := hu
  obtain ⟨uid, flags, seq, text⟩ := x
  simp only at g0 g1
  have H0 : Hid (∀ wi, Below w.heap.size w wi → Bs wi u0 text ∧ Bs wi u1 text) := fun wi h => ⟨g0.below h, g1.below h⟩
  obtain ⟨a0, n0, c0, rfl⟩ := g0.form3
  obtain ⟨a1, n1, c1, rfl⟩ := g1.form3
  clear g0 g1
  simp only
  obtain ⟨kA, kB, X⟩ := boxes2 w (.cells #[.int .i64 uid, .int .i64 flags, .int .i64 seq, .slice a0 n0 c0] 115) (.cells #[.int .i64 uid, .int .i64 flags, .int .i64 seq, .slice a1 n1 c1] 115)
  go_enter Tryz.func98, Tryz.ntmps98
  go_wp2_with fail
  refine (eqByteS_yes _ _ text _ (H0.out _ X).1 (H0.out _ X).2).mono ?_
  rintro e w1 ⟨rfl, B⟩
  replace X := Below.step X B
  replace kA := box_below B kA
  replace kB := box_below B kB
  clear B
  obtain ⟨f0, f1, f2, f3⟩ := bx4 kA
  obtain ⟨e0, e1, e2, e3⟩ := bx4 kB
  go_wp2
  go_ret
  exact ⟨rfl, X⟩

set_option maxRecDepth 100000 in
set_option maxHeartbeats 1000000 in
theorem eqMailS_yes (v u : Value) (l : List MailD) (w : World) (hv : MailsV w v l) (hu : MailsV w u l) :
    Calls Tryz.prog 87 #[v, u] w fun e w' => e = .returned (.bool true) ∧ Below w.heap.size w w' := by
  have HV : Hid (∀ wi, Below w.heap.size w wi → MailsV wi v l ∧ MailsV wi u l) := fun wi h => ⟨hv.below keepsMail h, hu.below keepsMail h⟩
  obtain ⟨a, cap, rfl, hlc, hcm⟩ := hv.form
  obtain ⟨a2, cap2, rfl, hlc2, hcm2⟩ := hu.form
  clear hv hu
  go_enter Tryz.func87, Tryz.ntmps87
  go_wp2
  go_loopw [5] (fun i wr => ∃ k : Nat, k ≤ l.length ∧ i = .int .i64 k ∧ Hid (Below w.heap.size w wr)) (fun i _ => l.length - (intOf i).toNat)
  case atStart => exact ⟨0, Nat.zero_le _, rfl, Below.refl _ _⟩
  case round =>
    obtain ⟨k, hk, rfl, hB⟩ := hrel
    by_cases hlt : k < l.length
    · obtain ⟨x, hx⟩ : ∃ x, l[k]? = some x := ⟨l[k], List.getElem?_eq_getElem hlt⟩
      have DR : Below wr.heap.size wr wr.drew := (Below.refl _ _).drew
      obtain ⟨b, off, cap', u, hv', hlb, d0, d1, d2, d3, hu, i0, i1, i2⟩ := MailsV.cell (HV.out wr hB.out).1 k x hx
      obtain ⟨b2, off2, cap2', u2, hv2, hlb2, z0, z1, z2, z3, hu2, j0, j1, j2⟩ := MailsV.cell (HV.out wr hB.out).2 k x hx
      simp only [Value.slice.injEq, true_and] at hv' hv2
      obtain ⟨rfl, rfl⟩ := hv'
      obtain ⟨rfl, rfl⟩ := hv2
      obtain ⟨ua, un, uc, rfl⟩ := hu.form3
      obtain ⟨ta, tn, tc, rfl⟩ := hu2.form3
      have HA : Hid (MailV wr.drew (.agg #[.int .i64 x.uid, .int .i64 x.flags, .int .i64 x.seq, .slice ua un uc]) x ∧ MailV wr.drew (.agg #[.int .i64 x.uid, .int .i64 x.flags, .int .i64 x.seq, .slice ta tn tc]) x) := ⟨⟨_, rfl, hu.below DR, i0, i1, i2⟩, ⟨_, rfl, hu2.below DR, j0, j1, j2⟩⟩
      go_wp2
      go_region_held3 (fun w' => w'.cell? ⟨b, off + k * 4, none⟩ = some (.int .i64 x.uid) ∧ w'.cell? ⟨b, off + k * 4 + 1, none⟩ = some (.int .i64 x.flags) ∧ w'.cell? ⟨b, off + k * 4 + 2, none⟩ = some (.int .i64 x.seq) ∧ w'.cell? ⟨b, off + k * 4 + 3, none⟩ = some (.slice ua un uc) ∧ w'.cell? ⟨b2, off2 + k * 4, none⟩ = some (.int .i64 x.uid) ∧ w'.cell? ⟨b2, off2 + k * 4 + 1, none⟩ = some (.int .i64 x.flags) ∧ w'.cell? ⟨b2, off2 + k * 4 + 2, none⟩ = some (.int .i64 x.seq) ∧ w'.cell? ⟨b2, off2 + k * 4 + 3, none⟩ = some (.slice ta tn tc))
        (first | go_keep | exact ⟨d0, d1, d2, d3, z0, z1, z2, z3⟩ | exact ⟨(B.cell (p := ⟨_, _, none⟩) (by exact hlb)).trans d0, (B.cell (p := ⟨_, _, none⟩) (by exact hlb)).trans d1, (B.cell (p := ⟨_, _, none⟩) (by exact hlb)).trans d2, (B.cell (p := ⟨_, _, none⟩) (by exact hlb)).trans d3, (B.cell (p := ⟨_, _, none⟩) (by exact hlb2)).trans z0, (B.cell (p := ⟨_, _, none⟩) (by exact hlb2)).trans z1, (B.cell (p := ⟨_, _, none⟩) (by exact hlb2)).trans z2, (B.cell (p := ⟨_, _, none⟩) (by exact hlb2)).trans z3⟩)
        ((go_at_call 98; refine (eqMail_yes _ _ x _ HA.out.1 HA.out.2).mono ?_; rintro e w1 ⟨rfl, B⟩))
      have HB2 : Hid (Below w.heap.size w w1) := Below.step (Below.step hB.out DR) B
      clear d0 d1 d2 d3 z0 z1 z2 z3 B hB
      go_wp2
      go_roundw
      case rel => exact ⟨k + 1, by omega, by go_num, HB2⟩
      case measure => simp [intOf]; omega
    · go_wp2
      go_ret
      exact ⟨rfl, hB.out⟩

set_option maxRecDepth 100000 in
set_option maxHeartbeats 1000000 in
theorem eqGone_yes (v u : Value) (x : GoneD) (w : World) (hv : v = .agg #[.int .i64 x.uid, .int .i64 x.seq]) (hu : u = .agg #[.int .i64 x.uid, .int .i64 x.seq]) :
    Calls Tryz.prog 99 #[v, u] w fun e w' => e = .returned (.bool true) ∧ Below w.heap.size w w' := by
  subst hv
  subst hu
  obtain ⟨uid, seq⟩ := x
  simp only
  obtain ⟨kA, kB, X⟩ := boxes2 w (.cells #[.int .i64 uid, .int .i64 seq] 117) (.cells #[.int .i64 uid, .int .i64 seq] 117)
  go_enter Tryz.func99, Tryz.ntmps99
  go_wp2
  go_ret
  exact ⟨rfl, X⟩

set_option maxRecDepth 100000 in
set_option maxHeartbeats 1000000 in
theorem eqGoneS_yes (v u : Value) (l : List GoneD) (w : World) (hv : GonesV w v l) (hu : GonesV w u l) :
    Calls Tryz.prog 88 #[v, u] w fun e w' => e = .returned (.bool true) ∧ Below w.heap.size w w' := by
  have HV : Hid (∀ wi, Below w.heap.size w wi → GonesV wi v l ∧ GonesV wi u l) := fun wi h => ⟨hv.below keepsGone h, hu.below keepsGone h⟩
  obtain ⟨a, cap, rfl, hlc, hcm⟩ := hv.form
  obtain ⟨a2, cap2, rfl, hlc2, hcm2⟩ := hu.form
  clear hv hu
  go_enter Tryz.func88, Tryz.ntmps88
  go_wp2
  go_loopw [5] (fun i wr => ∃ k : Nat, k ≤ l.length ∧ i = .int .i64 k ∧ Hid (Below w.heap.size w wr)) (fun i _ => l.length - (intOf i).toNat)
  case atStart => exact ⟨0, Nat.zero_le _, rfl, Below.refl _ _⟩
  case round =>
    obtain ⟨k, hk, rfl, hB⟩ := hrel
    by_cases hlt : k < l.length
    · obtain ⟨x, hx⟩ : ∃ x, l[k]? = some x := ⟨l[k], List.getElem?_eq_getElem hlt⟩
      have DR : Below wr.heap.size wr wr.drew := (Below.refl _ _).drew
      obtain ⟨b, off, cap', hv', hlb, d0, d1, i0, i1⟩ := GonesV.cell (HV.out wr hB.out).1 k x hx
      obtain ⟨b2, off2, cap2', hv2, hlb2, z0, z1, j0, j1⟩ := GonesV.cell (HV.out wr hB.out).2 k x hx
      simp only [Value.slice.injEq, true_and] at hv' hv2
      obtain ⟨rfl, rfl⟩ := hv'
      obtain ⟨rfl, rfl⟩ := hv2
      have HA : Hid (True) := trivial
      go_wp2
      go_region_held3 (fun w' => w'.cell? ⟨b, off + k * 2, none⟩ = some (.int .i64 x.uid) ∧ w'.cell? ⟨b, off + k * 2 + 1, none⟩ = some (.int .i64 x.seq) ∧ w'.cell? ⟨b2, off2 + k * 2, none⟩ = some (.int .i64 x.uid) ∧ w'.cell? ⟨b2, off2 + k * 2 + 1, none⟩ = some (.int .i64 x.seq))
        (first | go_keep | exact ⟨d0, d1, z0, z1⟩ | exact ⟨(B.cell (p := ⟨_, _, none⟩) (by exact hlb)).trans d0, (B.cell (p := ⟨_, _, none⟩) (by exact hlb)).trans d1, (B.cell (p := ⟨_, _, none⟩) (by exact hlb2)).trans z0, (B.cell (p := ⟨_, _, none⟩) (by exact hlb2)).trans z1⟩)
        ((go_at_call 99; refine (eqGone_yes _ _ x _ rfl rfl).mono ?_; rintro e w1 ⟨rfl, B⟩))
      have HB2 : Hid (Below w.heap.size w w1) := Below.step (Below.step hB.out DR) B
      clear d0 d1 z0 z1 B hB
      go_wp2
      go_roundw
      case rel => exact ⟨k + 1, by omega, by go_num, HB2⟩
      case measure => simp [intOf]; omega
    · go_wp2
      go_ret
      exact ⟨rfl, hB.out⟩

set_option maxRecDepth 100000 in
set_option maxHeartbeats 1000000 in
theorem eqBox_yes (v u : Value) (x : BoxD) (w : World) (hv : BoxV w v x) (hu : BoxV w u x) :
    Calls Tryz.prog 74 #[v, u] w fun e w' => e = .returned (.bool true) ∧ Below w.heap.size w w' := by
  obtain ⟨u0, u1, u2, rfl, g0, g1, g2, -⟩ := hv
  obtain ⟨u3, u4, u5, rfl, g3, g4, g5, -⟩ := hu
  obtain ⟨name, valid, next, seq, mails, gones, lost⟩ := x
  simp only at g0 g1 g2 g3 g4 g5
  have H0 : Hid (∀ wi, Below w.heap.size w wi → (Bs wi u0 name ∧ Bs wi u3 name) ∧ (MailsV wi u1 mails ∧ MailsV wi u4 mails) ∧ (GonesV wi u2 gones ∧ GonesV wi u5 gones)) := fun wi h => ⟨⟨g0.below h, g3.below h⟩, ⟨g1.below keepsMail h, g4.below keepsMail h⟩, ⟨g2.below keepsGone h, g5.below keepsGone h⟩⟩
  obtain ⟨a0, n0, c0, rfl⟩ := g0.form3
  obtain ⟨a1, c1, rfl, -⟩ := g1.form
  obtain ⟨a2, c2, rfl, -⟩ := g2.form
  obtain ⟨a3, n3, c3, rfl⟩ := g3.form3
  obtain ⟨a4, c4, rfl, -⟩ := g4.form
  obtain ⟨a5, c5, rfl, -⟩ := g5.form
  clear g0 g1 g2 g3 g4 g5
  simp only
  obtain ⟨kA, kB, X⟩ := boxes2 w (.cells #[.slice a0 n0 c0, .int .i64 valid, .int .i64 next, .int .i64 seq, .slice a1 mails.length c1, .slice a2 gones.length c2, .int .i64 lost] 89) (.cells #[.slice a3 n3 c3, .int .i64 valid, .int .i64 next, .int .i64 seq, .slice a4 mails.length c4, .slice a5 gones.length c5, .int .i64 lost] 89)
  go_enter Tryz.func74, Tryz.ntmps74
  go_wp2_with fail
  refine (eqByteS_yes _ _ name _ (H0.out _ X).1.1 (H0.out _ X).1.2).mono ?_
  rintro e w1 ⟨rfl, B⟩
  replace X := Below.step X B
  replace kA := box_below B kA
  replace kB := box_below B kB
  clear B
  obtain ⟨f0, f1, f2, f3, f4, f5, f6⟩ := bx7 kA
  obtain ⟨e0, e1, e2, e3, e4, e5, e6⟩ := bx7 kB
  go_wp2_with fail
  clear f0 e0 f1 e1 f2 e2 f3 e3 f4 e4 f5 e5 f6 e6
  refine (eqMailS_yes _ _ mails _ (H0.out _ X).2.1.1 (H0.out _ X).2.1.2).mono ?_
  rintro e w2 ⟨rfl, B⟩
  replace X := Below.step X B
  replace kA := box_below B kA
  replace kB := box_below B kB
  clear B
  obtain ⟨f0, f1, f2, f3, f4, f5, f6⟩ := bx7 kA
  obtain ⟨e0, e1, e2, e3, e4, e5, e6⟩ := bx7 kB
  go_wp2_with fail
  clear f0 e0 f1 e1 f2 e2 f3 e3 f4 e4 f5 e5 f6 e6
  refine (eqGoneS_yes _ _ gones _ (H0.out _ X).2.2.1 (H0.out _ X).2.2.2).mono ?_
  rintro e w3 ⟨rfl, B⟩
  replace X := Below.step X B
  replace kA := box_below B kA
  replace kB := box_below B kB
  clear B
  obtain ⟨f0, f1, f2, f3, f4, f5, f6⟩ := bx7 kA
  obtain ⟨e0, e1, e2, e3, e4, e5, e6⟩ := bx7 kB
  go_wp2
  go_ret
  exact ⟨rfl, X⟩

end Go.Proofs.YtdokgpdfdenoaaaGreat

/- What eqBoxS, eqIntS, eqAccount of package laws do. -/
namespace Go.Proofs.YtdokgpdfdenoaaaGreat
open Go.RowKit
set_option maxRecDepth 100000
set_option linter.unusedVariables false

set_option maxRecDepth 100000 in
set_option maxHeartbeats 1000000 in
theorem eqIntS_yes (v u : Value) (l : List Int) (w : World) (hv : IntsV w v l) (hu : IntsV w u l) :
    Calls Tryz.prog 67 #[v, u] w fun e w' => e = .returned (.bool true) ∧ Below w.heap.size w w' := by
  have HV : Hid (∀ wi, Below w.heap.size w wi → IntsV wi v l ∧ IntsV wi u l) := fun wi h => ⟨hv.below keepsInt h, hu.below keepsInt h⟩
  obtain ⟨a, cap, rfl, hlc, hcm⟩ := hv.form
  obtain ⟨a2, cap2, rfl, hlc2, hcm2⟩ := hu.form
  clear hv hu
  go_enter Tryz.func67, Tryz.ntmps67
  go_wp2
  go_loopw [5] (fun i wr => ∃ k : Nat, k ≤ l.length ∧ i = .int .i64 k ∧ Hid (Below w.heap.size w wr)) (fun i _ => l.length - (intOf i).toNat)
  case atStart => exact ⟨0, Nat.zero_le _, rfl, Below.refl _ _⟩
  case round =>
    obtain ⟨k, hk, rfl, hB⟩ := hrel
    by_cases hlt : k < l.length
    · obtain ⟨x, hx⟩ : ∃ x, l[k]? = some x := ⟨l[k], List.getElem?_eq_getElem hlt⟩
      obtain ⟨b, off, cap', hv', hlb, d0, i0⟩ := IntsV.cell (HV.out wr hB.out).1 k x hx
      obtain ⟨b2, off2, cap2', hv2, hlb2, z0, j0⟩ := IntsV.cell (HV.out wr hB.out).2 k x hx
      simp only [Value.slice.injEq, true_and] at hv' hv2
      obtain ⟨rfl, rfl⟩ := hv'
      obtain ⟨rfl, rfl⟩ := hv2
      go_wp2
      go_quiet (fail)
      go_wp2
      go_roundw
      case rel => exact ⟨k + 1, by omega, by go_num, below_drewN _ hB.out⟩
      case measure => simp [intOf]; omega
    · go_wp2
      go_ret
      exact ⟨rfl, hB.out⟩

set_option maxRecDepth 100000 in
set_option maxHeartbeats 1000000 in
theorem eqBoxS_yes (v u : Value) (l : List BoxD) (w : World) (hv : BoxesV w v l) (hu : BoxesV w u l) :
    Calls Tryz.prog 66 #[v, u] w fun e w' => e = .returned (.bool true) ∧ Below w.heap.size w w' := by
  have HV : Hid (∀ wi, Below w.heap.size w wi → BoxesV wi v l ∧ BoxesV wi u l) := fun wi h => ⟨hv.below keepsBox h, hu.below keepsBox h⟩
  obtain ⟨a, cap, rfl, hlc, hcm⟩ := hv.form
  obtain ⟨a2, cap2, rfl, hlc2, hcm2⟩ := hu.form
  clear hv hu
  go_enter Tryz.func66, Tryz.ntmps66
  go_wp2
  go_loopw [5] (fun i wr => ∃ k : Nat, k ≤ l.length ∧ i = .int .i64 k ∧ Hid (Below w.heap.size w wr)) (fun i _ => l.length - (intOf i).toNat)
  case atStart => exact ⟨0, Nat.zero_le _, rfl, Below.refl _ _⟩
  case round =>
    obtain ⟨k, hk, rfl, hB⟩ := hrel
    by_cases hlt : k < l.length
    · obtain ⟨x, hx⟩ : ∃ x, l[k]? = some x := ⟨l[k], List.getElem?_eq_getElem hlt⟩
      have DR : Below wr.heap.size wr wr.drew := (Below.refl _ _).drew
      obtain ⟨b, off, cap', u0, u1, u2, hv', hlb, d0, d1, d2, d3, d4, d5, d6, hu0, hu1, hu2, i0, i1, i2, i3⟩ := BoxesV.cell (HV.out wr hB.out).1 k x hx
      obtain ⟨b2, off2, cap2', u3, u4, u5, hv2, hlb2, z0, z1, z2, z3, z4, z5, z6, hu3, hu4, hu5, j0, j1, j2, j3⟩ := BoxesV.cell (HV.out wr hB.out).2 k x hx
      simp only [Value.slice.injEq, true_and] at hv' hv2
      obtain ⟨rfl, rfl⟩ := hv'
      obtain ⟨rfl, rfl⟩ := hv2
      obtain ⟨ua, un, uc, rfl⟩ := hu0.form3
      obtain ⟨va, vc, rfl, -⟩ := hu1.form
      obtain ⟨wa, wc, rfl, -⟩ := hu2.form
      obtain ⟨ra, rn, rc, rfl⟩ := hu3.form3
      obtain ⟨sa, sc, rfl, -⟩ := hu4.form
      obtain ⟨ta, tc, rfl, -⟩ := hu5.form
      have HA : Hid (BoxV wr.drew (.agg #[.slice ua un uc, .int .i64 x.valid, .int .i64 x.next, .int .i64 x.seq, .slice va x.mails.length vc, .slice wa x.gones.length wc, .int .i64 x.lost]) x ∧ BoxV wr.drew (.agg #[.slice ra rn rc, .int .i64 x.valid, .int .i64 x.next, .int .i64 x.seq, .slice sa x.mails.length sc, .slice ta x.gones.length tc, .int .i64 x.lost]) x) := ⟨⟨_, _, _, rfl, hu0.below DR, hu1.below keepsMail DR, hu2.below keepsGone DR, i0, i1, i2, i3⟩, ⟨_, _, _, rfl, hu3.below DR, hu4.below keepsMail DR, hu5.below keepsGone DR, j0, j1, j2, j3⟩⟩
      go_wp2
      go_region_held3 (fun w' => w'.cell? ⟨b, off + k * 7, none⟩ = some (.slice ua un uc) ∧ w'.cell? ⟨b, off + k * 7 + 1, none⟩ = some (.int .i64 x.valid) ∧ w'.cell? ⟨b, off + k * 7 + 2, none⟩ = some (.int .i64 x.next) ∧ w'.cell? ⟨b, off + k * 7 + 3, none⟩ = some (.int .i64 x.seq) ∧ w'.cell? ⟨b, off + k * 7 + 4, none⟩ = some (.slice va x.mails.length vc) ∧ w'.cell? ⟨b, off + k * 7 + 5, none⟩ = some (.slice wa x.gones.length wc) ∧ w'.cell? ⟨b, off + k * 7 + 6, none⟩ = some (.int .i64 x.lost) ∧ w'.cell? ⟨b2, off2 + k * 7, none⟩ = some (.slice ra rn rc) ∧ w'.cell? ⟨b2, off2 + k * 7 + 1, none⟩ = some (.int .i64 x.valid) ∧ w'.cell? ⟨b2, off2 + k * 7 + 2, none⟩ = some (.int .i64 x.next) ∧ w'.cell? ⟨b2, off2 + k * 7 + 3, none⟩ = some (.int .i64 x.seq) ∧ w'.cell? ⟨b2, off2 + k * 7 + 4, none⟩ = some (.slice sa x.mails.length sc) ∧ w'.cell? ⟨b2, off2 + k * 7 + 5, none⟩ = some (.slice ta x.gones.length tc) ∧ w'.cell? ⟨b2, off2 + k * 7 + 6, none⟩ = some (.int .i64 x.lost))
        (first | go_keep | exact ⟨d0, d1, d2, d3, d4, d5, d6, z0, z1, z2, z3, z4, z5, z6⟩ | exact ⟨(B.cell (p := ⟨_, _, none⟩) (by exact hlb)).trans d0, (B.cell (p := ⟨_, _, none⟩) (by exact hlb)).trans d1, (B.cell (p := ⟨_, _, none⟩) (by exact hlb)).trans d2, (B.cell (p := ⟨_, _, none⟩) (by exact hlb)).trans d3, (B.cell (p := ⟨_, _, none⟩) (by exact hlb)).trans d4, (B.cell (p := ⟨_, _, none⟩) (by exact hlb)).trans d5, (B.cell (p := ⟨_, _, none⟩) (by exact hlb)).trans d6, (B.cell (p := ⟨_, _, none⟩) (by exact hlb2)).trans z0, (B.cell (p := ⟨_, _, none⟩) (by exact hlb2)).trans z1, (B.cell (p := ⟨_, _, none⟩) (by exact hlb2)).trans z2, (B.cell (p := ⟨_, _, none⟩) (by exact hlb2)).trans z3, (B.cell (p := ⟨_, _, none⟩) (by exact hlb2)).trans z4, (B.cell (p := ⟨_, _, none⟩) (by exact hlb2)).trans z5, (B.cell (p := ⟨_, _, none⟩) (by exact hlb2)).trans z6⟩)
        ((go_at_call 74; refine (eqBox_yes _ _ x _ HA.out.1 HA.out.2).mono ?_; rintro e w1 ⟨rfl, B⟩))
      have HB2 : Hid (Below w.heap.size w w1) := Below.step (Below.step hB.out DR) B
      clear d0 d1 d2 d3 d4 d5 d6 z0 z1 z2 z3 z4 z5 z6 B hB
      go_wp2
      go_roundw
      case rel => exact ⟨k + 1, by omega, by go_num, HB2⟩
      case measure => simp [intOf]; omega
    · go_wp2
      go_ret
      exact ⟨rfl, hB.out⟩

set_option maxRecDepth 100000 in
set_option maxHeartbeats 1000000 in
theorem eqAccount_yes (v u : Value) (x : AccD) (w : World) (hv : AccV w v x) (hu : AccV w u x) :
    Calls Tryz.prog 48 #[v, u] w fun e w' => e = .returned (.bool true) ∧ Below w.heap.size w w' := by
  obtain ⟨u0, u1, rfl, g0, g1, -⟩ := hv
  obtain ⟨u2, u3, rfl, g2, g3, -⟩ := hu
  obtain ⟨valid, boxes, seen⟩ := x
  simp only at g0 g1 g2 g3
  have H0 : Hid (∀ wi, Below w.heap.size w wi → (BoxesV wi u0 boxes ∧ BoxesV wi u2 boxes) ∧ (IntsV wi u1 seen ∧ IntsV wi u3 seen)) := fun wi h => ⟨⟨g0.below keepsBox h, g2.below keepsBox h⟩, ⟨g1.below keepsInt h, g3.below keepsInt h⟩⟩
  obtain ⟨a0, c0, rfl, -⟩ := g0.form
  obtain ⟨a1, c1, rfl, -⟩ := g1.form
  obtain ⟨a2, c2, rfl, -⟩ := g2.form
  obtain ⟨a3, c3, rfl, -⟩ := g3.form
  clear g0 g1 g2 g3
  simp only
  obtain ⟨kA, kB, X⟩ := boxes2 w (.cells #[.int .i64 valid, .slice a0 boxes.length c0, .slice a1 seen.length c1] 51) (.cells #[.int .i64 valid, .slice a2 boxes.length c2, .slice a3 seen.length c3] 51)
  go_enter Tryz.func48, Tryz.ntmps48
  go_wp2_with fail
  refine (eqBoxS_yes _ _ boxes _ (H0.out _ X).1.1 (H0.out _ X).1.2).mono ?_
  rintro e w1 ⟨rfl, B⟩
  replace X := Below.step X B
  replace kA := box_below B kA
  replace kB := box_below B kB
  clear B
  obtain ⟨f0, f1, f2⟩ := bx3 kA
  obtain ⟨e0, e1, e2⟩ := bx3 kB
  go_wp2_with fail
  clear f0 e0 f1 e1 f2 e2
  refine (eqIntS_yes _ _ seen _ (H0.out _ X).2.1 (H0.out _ X).2.2).mono ?_
  rintro e w2 ⟨rfl, B⟩
  replace X := Below.step X B
  replace kA := box_below B kA
  replace kB := box_below B kB
  clear B
  obtain ⟨f0, f1, f2⟩ := bx3 kA
  obtain ⟨e0, e1, e2⟩ := bx3 kB
  go_wp2
  go_ret
  exact ⟨rfl, X⟩

end Go.Proofs.YtdokgpdfdenoaaaGreat

/- Commands as data. -/
namespace Go.Proofs.YtdokgpdfdenoaaaGreat
open Go.RowKit

structure CmdD where
  k : Int
  bx : List Int
  tt : List Int
  uid : Int
  mode : Int
  fl : Int
  si : Int
  tx : List Int
theorem CmdR.set {w : World} {g i B T : Nat} {v x : Value} {k : Int} {bx tt : List Int} {uid mode fl si : Int} {tx : List Int} (h : CmdR w B T v k bx tt uid mode fl si tx) (hd : g < B ∨ T ≤ g) : CmdR (w.setCell ⟨g, i, none⟩ x) B T v k bx tt uid mode fl si tx :=
  let ⟨u0, u1, u2, T0, T1, hv, h0, h1, h2, r0, r1, r2, r⟩ := h; ⟨u0, u1, u2, T0, T1, hv, h0.set (by omega), h1.set (by omega), h2.set (by omega), r0, r1, r2, r⟩

end Go.Proofs.YtdokgpdfdenoaaaGreat

/- Records in memory: what they read as, and those of the call's own. -/
namespace Go.Proofs.YtdokgpdfdenoaaaGreat
open Go.RowKit

structure RecD where
  kind : Int
  user : Int
  n : Int
  cmd : CmdD
  acc : AccD

/-- The value v reads as a record. -/
def RecV (w : World) (v : Value) (r : RecD) : Prop :=
  ∃ u0 u1 u2 u3 u4, v = .agg #[.int .i64 r.kind, .int .i64 r.user, .int .i64 r.n, .int .i64 r.cmd.k, u0, u1, .int .i64 r.cmd.uid, .int .i64 r.cmd.mode, .int .i64 r.cmd.fl, .int .i64 r.cmd.si, u2, .int .i64 r.acc.valid, u3, u4] ∧ CmdV w (.agg #[.int .i64 r.cmd.k, u0, u1, .int .i64 r.cmd.uid, .int .i64 r.cmd.mode, .int .i64 r.cmd.fl, .int .i64 r.cmd.si, u2]) r.cmd.k r.cmd.bx r.cmd.tt r.cmd.uid r.cmd.mode r.cmd.fl r.cmd.si r.cmd.tx ∧ AccV w (.agg #[.int .i64 r.acc.valid, u3, u4]) r.acc ∧ I64 r.kind ∧ I64 r.user ∧ I64 r.n
theorem RecV.below {w w' : World} {v : Value} {r : RecD} (h : RecV w v r) (hb : Below w.heap.size w w') : RecV w' v r :=
  let ⟨u0, u1, u2, u3, u4, h0, h1, h2, i⟩ := h; ⟨u0, u1, u2, u3, u4, h0, h1.below hb, h2.below hb, i⟩
/-- A record of the call's own in blocks from B on and below T. -/
def RecR (w : World) (B T : Nat) (v : Value) (r : RecD) : Prop :=
  ∃ u0 u1 u2 u3 u4 T0, v = .agg #[.int .i64 r.kind, .int .i64 r.user, .int .i64 r.n, .int .i64 r.cmd.k, u0, u1, .int .i64 r.cmd.uid, .int .i64 r.cmd.mode, .int .i64 r.cmd.fl, .int .i64 r.cmd.si, u2, .int .i64 r.acc.valid, u3, u4] ∧ CmdR w B T0 (.agg #[.int .i64 r.cmd.k, u0, u1, .int .i64 r.cmd.uid, .int .i64 r.cmd.mode, .int .i64 r.cmd.fl, .int .i64 r.cmd.si, u2]) r.cmd.k r.cmd.bx r.cmd.tt r.cmd.uid r.cmd.mode r.cmd.fl r.cmd.si r.cmd.tx ∧ AccO w (In T0 T) (.agg #[.int .i64 r.acc.valid, u3, u4]) r.acc ∧ B ≤ T0 ∧ T0 ≤ T ∧ I64 r.kind ∧ I64 r.user ∧ I64 r.n
section
variable {w w' : World} {B T B' T' : Nat} {x : Value} {r : RecD}
theorem RecR.v (h : RecR w B T x r) : RecV w x r := let ⟨u0, u1, u2, u3, u4, _, h0, h1, h2, _, _, i⟩ := h; ⟨u0, u1, u2, u3, u4, h0, h1.v, h2.v, i⟩
theorem RecR.below (h : RecR w B T x r) (hb : Below w.heap.size w w') : RecR w' B T x r := let ⟨u0, u1, u2, u3, u4, T0, h0, h1, h2, i⟩ := h; ⟨u0, u1, u2, u3, u4, T0, h0, h1.below hb, h2.below hb, i⟩
theorem RecR.wide (h : RecR w B T x r) (hB : B' ≤ B) (hT : T ≤ T') : RecR w B' T' x r :=
  let ⟨u0, u1, u2, u3, u4, T0, h0, h1, h2, j0, j1, i⟩ := h
  ⟨u0, u1, u2, u3, u4, T0, h0, h1.wide hB (Nat.le_refl _), let ⟨p, q, S0, S1, k0, k1, k2, d0, d1, k⟩ := h2; ⟨p, q, S0, S1, k0, k1, k2, fun x hx => ⟨⟨(d0 x hx).1.1, Nat.lt_of_lt_of_le (d0 x hx).1.2 hT⟩, (d0 x hx).2⟩, fun x hx => ⟨(d1 x hx).1, Nat.lt_of_lt_of_le (d1 x hx).2 hT⟩, k⟩, by omega, by omega, i⟩
theorem RecR.keptW (h : RecR w B T x r) (hw : Within B' T' w w') (hd : T ≤ B' ∨ T' ≤ B) : RecR w' B T x r :=
  let ⟨u0, u1, u2, u3, u4, T0, h0, h1, h2, j0, j1, i⟩ := h
  ⟨u0, u1, u2, u3, u4, T0, h0, h1.keptW hw (by omega), h2.frame fun b hb hlt => hw.block b hlt (by have := hb.1; have := hb.2; omega), j0, j1, i⟩
end
theorem AccO.set {w : World} {g i B T : Nat} {v x : Value} {a : AccD} (h : AccO w (In B T) v a) (hd : g < B ∨ T ≤ g) : AccO (w.setCell ⟨g, i, none⟩ x) (In B T) v a :=
  h.frame fun b hb hlt => Below.heap_setCell _ _ _ _ (by have := hb.1; have := hb.2; show b ≠ g; omega)
theorem bx14 {w : World} {g : Nat} {t : TypeId} {c0 c1 c2 c3 c4 c5 c6 c7 c8 c9 c10 c11 c12 c13 : Value} (h : w.heap[g]? = some (.cells #[c0, c1, c2, c3, c4, c5, c6, c7, c8, c9, c10, c11, c12, c13] t (0, 0))) :
    w.cell? ⟨g, 0, none⟩ = some c0 ∧ w.cell? ⟨g, 1, none⟩ = some c1 ∧ w.cell? ⟨g, 2, none⟩ = some c2 ∧ w.cell? ⟨g, 3, none⟩ = some c3 ∧ w.cell? ⟨g, 4, none⟩ = some c4 ∧ w.cell? ⟨g, 5, none⟩ = some c5 ∧ w.cell? ⟨g, 6, none⟩ = some c6 ∧ w.cell? ⟨g, 7, none⟩ = some c7 ∧ w.cell? ⟨g, 8, none⟩ = some c8 ∧ w.cell? ⟨g, 9, none⟩ = some c9 ∧ w.cell? ⟨g, 10, none⟩ = some c10 ∧ w.cell? ⟨g, 11, none⟩ = some c11 ∧ w.cell? ⟨g, 12, none⟩ = some c12 ∧ w.cell? ⟨g, 13, none⟩ = some c13 :=
  ⟨by rw [cell_of_row w g 0 _ t (0, 0) h]; rfl, by rw [cell_of_row w g 1 _ t (0, 0) h]; rfl, by rw [cell_of_row w g 2 _ t (0, 0) h]; rfl, by rw [cell_of_row w g 3 _ t (0, 0) h]; rfl, by rw [cell_of_row w g 4 _ t (0, 0) h]; rfl, by rw [cell_of_row w g 5 _ t (0, 0) h]; rfl, by rw [cell_of_row w g 6 _ t (0, 0) h]; rfl, by rw [cell_of_row w g 7 _ t (0, 0) h]; rfl, by rw [cell_of_row w g 8 _ t (0, 0) h]; rfl, by rw [cell_of_row w g 9 _ t (0, 0) h]; rfl, by rw [cell_of_row w g 10 _ t (0, 0) h]; rfl, by rw [cell_of_row w g 11 _ t (0, 0) h]; rfl, by rw [cell_of_row w g 12 _ t (0, 0) h]; rfl, by rw [cell_of_row w g 13 _ t (0, 0) h]; rfl⟩
theorem box14l {w : World} {g : Nat} {t : TypeId} {c0 c1 c2 c3 c4 c5 c6 c7 c8 c9 c10 c11 c12 c13 : Value} (h : w.heap[g]? = some (.cells #[c0, c1, c2, c3, c4, c5, c6, c7, c8, c9, c10, c11, c12, c13] t (0, 0))) :
    w.cell? ⟨g, 0, none⟩ = some c0 ∧ w.cell? ⟨g, 1, none⟩ = some c1 ∧ w.cell? ⟨g, 2, none⟩ = some c2 ∧ w.cell? ⟨g, 3, none⟩ = some c3 ∧ w.cell? ⟨g, 4, none⟩ = some c4 ∧ w.cell? ⟨g, 5, none⟩ = some c5 ∧ w.cell? ⟨g, 6, none⟩ = some c6 ∧ w.cell? ⟨g, 7, none⟩ = some c7 ∧ w.cell? ⟨g, 8, none⟩ = some c8 ∧ w.cell? ⟨g, 9, none⟩ = some c9 ∧ w.cell? ⟨g, 10, none⟩ = some c10 ∧ w.cell? ⟨g, 11, none⟩ = some c11 ∧ w.cell? ⟨g, 12, none⟩ = some c12 ∧ w.cell? ⟨g, 13, none⟩ = some c13 ∧ g < w.heap.size := by
  obtain ⟨f0, f1, f2, f3, f4, f5, f6, f7, f8, f9, f10, f11, f12, f13⟩ := bx14 h
  exact ⟨f0, f1, f2, f3, f4, f5, f6, f7, f8, f9, f10, f11, f12, f13, lt_of_heap h⟩

/-- A record's shape laid open. -/
theorem RecV.form {w : World} {v : Value} {r : RecD} (h : RecV w v r) : ∃ a0 n0 c0 a1 n1 c1 a2 n2 c2 a3 c3 a4 c4, v = .agg #[.int .i64 r.kind, .int .i64 r.user, .int .i64 r.n, .int .i64 r.cmd.k, .slice a0 n0 c0, .slice a1 n1 c1, .int .i64 r.cmd.uid, .int .i64 r.cmd.mode, .int .i64 r.cmd.fl, .int .i64 r.cmd.si, .slice a2 n2 c2, .int .i64 r.acc.valid, .slice a3 r.acc.boxes.length c3, .slice a4 r.acc.seen.length c4] := by
  obtain ⟨u0, u1, u2, u3, u4, rfl, ⟨p0, p1, p2, e, q0, q1, q2, -⟩, ⟨t0, t1, e', s0, s1, -⟩, -⟩ := h
  simp only [Value.agg.injEq, Array.mk.injEq, List.cons.injEq, and_true, true_and] at e e'
  obtain ⟨rfl, rfl, rfl⟩ := e
  obtain ⟨rfl, rfl⟩ := e'
  obtain ⟨a0, n0, c0, rfl⟩ := q0.form3
  obtain ⟨a1, n1, c1, rfl⟩ := q1.form3
  obtain ⟨a2, n2, c2, rfl⟩ := q2.form3
  obtain ⟨a3, c3, rfl, -⟩ := s0.form
  obtain ⟨a4, c4, rfl, -⟩ := s1.form
  exact ⟨_, _, _, _, _, _, _, _, _, _, _, _, _, rfl⟩
/-- A record's parts, at a record whose shape lies open. -/
theorem RecV.parts {w : World} {x0 x1 x2 x3 x4 : Value} {r : RecD} (h : RecV w (.agg #[.int .i64 r.kind, .int .i64 r.user, .int .i64 r.n, .int .i64 r.cmd.k, x0, x1, .int .i64 r.cmd.uid, .int .i64 r.cmd.mode, .int .i64 r.cmd.fl, .int .i64 r.cmd.si, x2, .int .i64 r.acc.valid, x3, x4]) r) : CmdV w (.agg #[.int .i64 r.cmd.k, x0, x1, .int .i64 r.cmd.uid, .int .i64 r.cmd.mode, .int .i64 r.cmd.fl, .int .i64 r.cmd.si, x2]) r.cmd.k r.cmd.bx r.cmd.tt r.cmd.uid r.cmd.mode r.cmd.fl r.cmd.si r.cmd.tx ∧ AccV w (.agg #[.int .i64 r.acc.valid, x3, x4]) r.acc ∧ I64 r.kind ∧ I64 r.user ∧ I64 r.n := by
  obtain ⟨u0, u1, u2, u3, u4, e, h1, h2, i⟩ := h
  simp only [Value.agg.injEq, Array.mk.injEq, List.cons.injEq, and_true, true_and] at e
  obtain ⟨rfl, rfl, rfl, rfl, rfl⟩ := e
  exact ⟨h1, h2, i⟩

end Go.Proofs.YtdokgpdfdenoaaaGreat

/- What szRecord, toRecord, eqRecord of package laws do. -/
namespace Go.Proofs.YtdokgpdfdenoaaaGreat
open Go.RowKit
set_option maxRecDepth 100000
set_option linter.unusedVariables false

set_option maxRecDepth 100000 in
set_option maxHeartbeats 1000000 in
theorem szRecord_any (v : Value) (r : RecD) (left : Int) (w : World) (hv : RecV w v r) (h0 : 0 ≤ left) (h1 : left ≤ 4000000) :
    Calls Tryz.prog 13 #[v, .int .i64 left] w fun e w' => ∃ y : Int, e = .returned (.int .i64 y) ∧ (y = -1 ∨ (0 ≤ y ∧ y + (r.cmd.bx.length + r.cmd.tt.length + r.cmd.tx.length + (szXs r.acc.boxes + r.acc.seen.length) : Nat) = left)) ∧ Below w.heap.size w w' := by
  have H0 : Hid (∀ wi, Below w.heap.size w wi → RecV wi v r) := fun wi h => hv.below h
  obtain ⟨a0, n0, c0, a1, n1, c1, a2, n2, c2, a3, c3, a4, c4, rfl⟩ := hv.form
  clear hv
  have X : Below w.heap.size w (w.alloc (.cells #[.int .i64 r.kind, .int .i64 r.user, .int .i64 r.n, .int .i64 r.cmd.k, .slice a0 n0 c0, .slice a1 n1 c1, .int .i64 r.cmd.uid, .int .i64 r.cmd.mode, .int .i64 r.cmd.fl, .int .i64 r.cmd.si, .slice a2 n2 c2, .int .i64 r.acc.valid, .slice a3 r.acc.boxes.length c3, .slice a4 r.acc.seen.length c4] 45)) := (Below.refl _ _).alloc (Nat.le_refl _) _
  have kA := box_new w (.cells #[.int .i64 r.kind, .int .i64 r.user, .int .i64 r.n, .int .i64 r.cmd.k, .slice a0 n0 c0, .slice a1 n1 c1, .int .i64 r.cmd.uid, .int .i64 r.cmd.mode, .int .i64 r.cmd.fl, .int .i64 r.cmd.si, .slice a2 n2 c2, .int .i64 r.acc.valid, .slice a3 r.acc.boxes.length c3, .slice a4 r.acc.seen.length c4] 45)
  go_enter Tryz.func13, Tryz.ntmps13
  go_wp2_with fail
  refine (szCmd_any _ r.cmd.k r.cmd.bx r.cmd.tt r.cmd.uid r.cmd.mode r.cmd.fl r.cmd.si r.cmd.tx left _ (H0.out _ X).parts.1 h0 h1).mono ?_
  rintro e w1 ⟨y0, rfl, hy, B⟩
  replace X := Below.step X B
  replace kA := box_below B kA
  clear B
  obtain ⟨f0, f1, f2, f3, f4, f5, f6, f7, f8, f9, f10, f11, f12, f13⟩ := bx14 kA
  rcases hy with rfl | ⟨q0, p0⟩
  · go_wp2
    go_ret
    exact ⟨-1, rfl, .inl rfl, X⟩
  go_wp2_with fail
  clear f0 f1 f2 f3 f4 f5 f6 f7 f8 f9 f10 f11 f12 f13
  refine (szAccount_any _ r.acc y0 _ (H0.out _ X).parts.2.1 q0 (by omega)).mono ?_
  rintro e w2 ⟨y1, rfl, hy, B⟩
  replace X := Below.step X B
  replace kA := box_below B kA
  clear B
  rcases hy with rfl | ⟨q1, p1⟩
  · go_wp2
    go_ret
    exact ⟨-1, rfl, .inl rfl, X⟩
  go_wp2
  go_ret
  exact ⟨y1, rfl, .inr ⟨q1, by omega⟩, X⟩

set_option maxRecDepth 100000 in
set_option maxHeartbeats 2000000 in
theorem eqRecord_yes (v u : Value) (r : RecD) (w : World) (hv : RecV w v r) (hu : RecV w u r) :
    Calls Tryz.prog 24 #[v, u] w fun e w' => e = .returned (.bool true) ∧ Below w.heap.size w w' := by
  have H0 : Hid (∀ wi, Below w.heap.size w wi → RecV wi v r ∧ RecV wi u r) := fun wi h => ⟨hv.below h, hu.below h⟩
  obtain ⟨a0, n0, c0, a1, n1, c1, a2, n2, c2, a3, c3, a4, c4, rfl⟩ := hv.form
  obtain ⟨b0, m0, d0, b1, m1, d1, b2, m2, d2, b3, d3, b4, d4, rfl⟩ := hu.form
  clear hv hu
  obtain ⟨kA, kB, X⟩ := boxes2 w (.cells #[.int .i64 r.kind, .int .i64 r.user, .int .i64 r.n, .int .i64 r.cmd.k, .slice a0 n0 c0, .slice a1 n1 c1, .int .i64 r.cmd.uid, .int .i64 r.cmd.mode, .int .i64 r.cmd.fl, .int .i64 r.cmd.si, .slice a2 n2 c2, .int .i64 r.acc.valid, .slice a3 r.acc.boxes.length c3, .slice a4 r.acc.seen.length c4] 53) (.cells #[.int .i64 r.kind, .int .i64 r.user, .int .i64 r.n, .int .i64 r.cmd.k, .slice b0 m0 d0, .slice b1 m1 d1, .int .i64 r.cmd.uid, .int .i64 r.cmd.mode, .int .i64 r.cmd.fl, .int .i64 r.cmd.si, .slice b2 m2 d2, .int .i64 r.acc.valid, .slice b3 r.acc.boxes.length d3, .slice b4 r.acc.seen.length d4] 53)
  go_enter Tryz.func24, Tryz.ntmps24
  go_wp2_with fail
  refine (eqCmd_yes _ _ r.cmd.k r.cmd.bx r.cmd.tt r.cmd.uid r.cmd.mode r.cmd.fl r.cmd.si r.cmd.tx _ (H0.out _ X).1.parts.1 (H0.out _ X).2.parts.1).mono ?_
  rintro e w1 ⟨rfl, B⟩
  replace X := Below.step X B
  replace kA := box_below B kA
  replace kB := box_below B kB
  clear B
  obtain ⟨f0, f1, f2, f3, f4, f5, f6, f7, f8, f9, f10, f11, f12, f13⟩ := bx14 kA
  obtain ⟨e0, e1, e2, e3, e4, e5, e6, e7, e8, e9, e10, e11, e12, e13⟩ := bx14 kB
  go_wp2_with fail
  clear f0 f1 f2 f3 f4 f5 f6 f7 f8 f9 f10 f11 f12 f13 e0 e1 e2 e3 e4 e5 e6 e7 e8 e9 e10 e11 e12 e13
  refine (eqAccount_yes _ _ r.acc _ (H0.out _ X).1.parts.2.1 (H0.out _ X).2.parts.2.1).mono ?_
  rintro e w2 ⟨rfl, B⟩
  replace X := Below.step X B
  clear B
  go_wp2
  go_ret
  exact ⟨rfl, X⟩

set_option maxRecDepth 100000 in
set_option maxHeartbeats 2000000 in
theorem toRecord_r (v : Value) (r : RecD) (w : World) (hv : RecV w v r) (h0 : r.cmd.bx.length ≤ 2000000) (h1 : r.cmd.tt.length ≤ 2000000) (h2 : r.cmd.tx.length ≤ 2000000) (h3 : szXs r.acc.boxes ≤ 2000000) (h4 : r.acc.seen.length ≤ 2000000) :
    Calls Tryz.prog 17 #[v] w fun e w' => ∃ u, e = .returned u ∧ RecR w' w.heap.size w'.heap.size u r ∧ Below w.heap.size w w' := by
  have H0 : Hid (∀ wi, Below w.heap.size w wi → RecV wi v r) := fun wi h => hv.below h
  obtain ⟨a0, n0, c0, a1, n1, c1, a2, n2, c2, a3, c3, a4, c4, rfl⟩ := hv.form
  clear hv
  go_enter Tryz.func17, Tryz.ntmps17
  go_wp2_with fail
  refine (toCmd_r _ r.cmd.k r.cmd.bx r.cmd.tt r.cmd.uid r.cmd.mode r.cmd.fl r.cmd.si r.cmd.tx _ (H0.out _ (box3_below w _ _ _)).parts.1 h0 h1 h2).mono ?_
  rintro e w1 ⟨uu, rfl, R0, B⟩
  obtain ⟨p0, p1, p2, rfl, g0, g1, g2, -⟩ := R0.v
  obtain ⟨x0, m0, y0, rfl⟩ := g0.form3
  obtain ⟨x1, m1, y1, rfl⟩ := g1.form3
  obtain ⟨x2, m2, y2, rfl⟩ := g2.form3
  clear g0 g1 g2
  have b3 := box3 w (.cells #[.int .i64 r.kind, .int .i64 r.user, .int .i64 r.n, .int .i64 r.cmd.k, .slice a0 n0 c0, .slice a1 n1 c1, .int .i64 r.cmd.uid, .int .i64 r.cmd.mode, .int .i64 r.cmd.fl, .int .i64 r.cmd.si, .slice a2 n2 c2, .int .i64 r.acc.valid, .slice a3 r.acc.boxes.length c3, .slice a4 r.acc.seen.length c4] 45) (.cells #[.int .i64 0, .int .i64 0, .int .i64 0, .int .i64 0, .slice none 0 0, .slice none 0 0, .int .i64 0, .int .i64 0, .int .i64 0, .int .i64 0, .slice none 0 0, .int .i64 0, .slice none 0 0, .slice none 0 0] 53) (.cells #[.int .i64 r.kind, .int .i64 r.user, .int .i64 r.n, .int .i64 0, .slice none 0 0, .slice none 0 0, .int .i64 0, .int .i64 0, .int .i64 0, .int .i64 0, .slice none 0 0, .int .i64 0, .slice none 0 0, .slice none 0 0] 53)
  have kA := box_below B b3.1
  have kR := box_below B b3.2.1
  have kO := box_below B b3.2.2
  have s1 : w.heap.size + 3 ≤ w1.heap.size := by have := B.size; simp at this; omega
  have X := Below.step (box3_below w _ _ _) B
  replace R0 := R0.wide (B' := w.heap.size + 3) (T' := w1.heap.size) (by simp) (Nat.le_refl _)
  clear b3 B
  obtain ⟨f0, f1, f2, f3, f4, f5, f6, f7, f8, f9, f10, f11, f12, f13⟩ := bx14 kA
  obtain ⟨oz, ol⟩ := box8z kO
  obtain ⟨o0, o1, o2, o3, o4, o5, o6, o7, o8, o9, o10, o11, o12, o13⟩ := bx14 kO
  go_wp2_with fail
  clear f0 f1 f2 f3 f4 f5 f6 f7 f8 f9 f10 f11 f12 f13 oz ol o0 o1 o2 o3 o4 o5 o6 o7 o8 o9 o10 o11 o12 o13
  replace X := X.setCell (p := ⟨w.heap.size + 1 + 1, 3, none⟩) (by simp; omega) (.int .i64 r.cmd.k)
  replace R0 := R0.set (g := w.heap.size + 1 + 1) (i := 3) (x := .int .i64 r.cmd.k) (.inl (by omega))
  replace kA := box_other (i := 3) (v := .int .i64 r.cmd.k) kA (show w.heap.size ≠ w.heap.size + 1 + 1 by omega)
  replace kR := box_other (i := 3) (v := .int .i64 r.cmd.k) kR (show w.heap.size + 1 ≠ w.heap.size + 1 + 1 by omega)
  replace kO : (World.setCell _ _ _).heap[w.heap.size + 1 + 1]? = some (Obj.cells #[.int .i64 r.kind, .int .i64 r.user, .int .i64 r.n, .int .i64 r.cmd.k, .slice none 0 0, .slice none 0 0, .int .i64 0, .int .i64 0, .int .i64 0, .int .i64 0, .slice none 0 0, .int .i64 0, .slice none 0 0, .slice none 0 0] 53) := box_set (i := 3) (v := .int .i64 r.cmd.k) kO
  replace X := X.setCell (p := ⟨w.heap.size + 1 + 1, 4, none⟩) (by simp; omega) (.slice x0 m0 y0)
  replace R0 := R0.set (g := w.heap.size + 1 + 1) (i := 4) (x := .slice x0 m0 y0) (.inl (by omega))
  replace kA := box_other (i := 4) (v := .slice x0 m0 y0) kA (show w.heap.size ≠ w.heap.size + 1 + 1 by omega)
  replace kR := box_other (i := 4) (v := .slice x0 m0 y0) kR (show w.heap.size + 1 ≠ w.heap.size + 1 + 1 by omega)
  replace kO : (World.setCell _ _ _).heap[w.heap.size + 1 + 1]? = some (Obj.cells #[.int .i64 r.kind, .int .i64 r.user, .int .i64 r.n, .int .i64 r.cmd.k, .slice x0 m0 y0, .slice none 0 0, .int .i64 0, .int .i64 0, .int .i64 0, .int .i64 0, .slice none 0 0, .int .i64 0, .slice none 0 0, .slice none 0 0] 53) := box_set (i := 4) (v := .slice x0 m0 y0) kO
  replace X := X.setCell (p := ⟨w.heap.size + 1 + 1, 5, none⟩) (by simp; omega) (.slice x1 m1 y1)
  replace R0 := R0.set (g := w.heap.size + 1 + 1) (i := 5) (x := .slice x1 m1 y1) (.inl (by omega))
  replace kA := box_other (i := 5) (v := .slice x1 m1 y1) kA (show w.heap.size ≠ w.heap.size + 1 + 1 by omega)
  replace kR := box_other (i := 5) (v := .slice x1 m1 y1) kR (show w.heap.size + 1 ≠ w.heap.size + 1 + 1 by omega)
  replace kO : (World.setCell _ _ _).heap[w.heap.size + 1 + 1]? = some (Obj.cells #[.int .i64 r.kind, .int .i64 r.user, .int .i64 r.n, .int .i64 r.cmd.k, .slice x0 m0 y0, .slice x1 m1 y1, .int .i64 0, .int .i64 0, .int .i64 0, .int .i64 0, .slice none 0 0, .int .i64 0, .slice none 0 0, .slice none 0 0] 53) := box_set (i := 5) (v := .slice x1 m1 y1) kO
  replace X := X.setCell (p := ⟨w.heap.size + 1 + 1, 6, none⟩) (by simp; omega) (.int .i64 r.cmd.uid)
  replace R0 := R0.set (g := w.heap.size + 1 + 1) (i := 6) (x := .int .i64 r.cmd.uid) (.inl (by omega))
  replace kA := box_other (i := 6) (v := .int .i64 r.cmd.uid) kA (show w.heap.size ≠ w.heap.size + 1 + 1 by omega)
  replace kR := box_other (i := 6) (v := .int .i64 r.cmd.uid) kR (show w.heap.size + 1 ≠ w.heap.size + 1 + 1 by omega)
  replace kO : (World.setCell _ _ _).heap[w.heap.size + 1 + 1]? = some (Obj.cells #[.int .i64 r.kind, .int .i64 r.user, .int .i64 r.n, .int .i64 r.cmd.k, .slice x0 m0 y0, .slice x1 m1 y1, .int .i64 r.cmd.uid, .int .i64 0, .int .i64 0, .int .i64 0, .slice none 0 0, .int .i64 0, .slice none 0 0, .slice none 0 0] 53) := box_set (i := 6) (v := .int .i64 r.cmd.uid) kO
  replace X := X.setCell (p := ⟨w.heap.size + 1 + 1, 7, none⟩) (by simp; omega) (.int .i64 r.cmd.mode)
  replace R0 := R0.set (g := w.heap.size + 1 + 1) (i := 7) (x := .int .i64 r.cmd.mode) (.inl (by omega))
  replace kA := box_other (i := 7) (v := .int .i64 r.cmd.mode) kA (show w.heap.size ≠ w.heap.size + 1 + 1 by omega)
  replace kR := box_other (i := 7) (v := .int .i64 r.cmd.mode) kR (show w.heap.size + 1 ≠ w.heap.size + 1 + 1 by omega)
  replace kO : (World.setCell _ _ _).heap[w.heap.size + 1 + 1]? = some (Obj.cells #[.int .i64 r.kind, .int .i64 r.user, .int .i64 r.n, .int .i64 r.cmd.k, .slice x0 m0 y0, .slice x1 m1 y1, .int .i64 r.cmd.uid, .int .i64 r.cmd.mode, .int .i64 0, .int .i64 0, .slice none 0 0, .int .i64 0, .slice none 0 0, .slice none 0 0] 53) := box_set (i := 7) (v := .int .i64 r.cmd.mode) kO
  replace X := X.setCell (p := ⟨w.heap.size + 1 + 1, 8, none⟩) (by simp; omega) (.int .i64 r.cmd.fl)
  replace R0 := R0.set (g := w.heap.size + 1 + 1) (i := 8) (x := .int .i64 r.cmd.fl) (.inl (by omega))
  replace kA := box_other (i := 8) (v := .int .i64 r.cmd.fl) kA (show w.heap.size ≠ w.heap.size + 1 + 1 by omega)
  replace kR := box_other (i := 8) (v := .int .i64 r.cmd.fl) kR (show w.heap.size + 1 ≠ w.heap.size + 1 + 1 by omega)
  replace kO : (World.setCell _ _ _).heap[w.heap.size + 1 + 1]? = some (Obj.cells #[.int .i64 r.kind, .int .i64 r.user, .int .i64 r.n, .int .i64 r.cmd.k, .slice x0 m0 y0, .slice x1 m1 y1, .int .i64 r.cmd.uid, .int .i64 r.cmd.mode, .int .i64 r.cmd.fl, .int .i64 0, .slice none 0 0, .int .i64 0, .slice none 0 0, .slice none 0 0] 53) := box_set (i := 8) (v := .int .i64 r.cmd.fl) kO
  replace X := X.setCell (p := ⟨w.heap.size + 1 + 1, 9, none⟩) (by simp; omega) (.int .i64 r.cmd.si)
  replace R0 := R0.set (g := w.heap.size + 1 + 1) (i := 9) (x := .int .i64 r.cmd.si) (.inl (by omega))
  replace kA := box_other (i := 9) (v := .int .i64 r.cmd.si) kA (show w.heap.size ≠ w.heap.size + 1 + 1 by omega)
  replace kR := box_other (i := 9) (v := .int .i64 r.cmd.si) kR (show w.heap.size + 1 ≠ w.heap.size + 1 + 1 by omega)
  replace kO : (World.setCell _ _ _).heap[w.heap.size + 1 + 1]? = some (Obj.cells #[.int .i64 r.kind, .int .i64 r.user, .int .i64 r.n, .int .i64 r.cmd.k, .slice x0 m0 y0, .slice x1 m1 y1, .int .i64 r.cmd.uid, .int .i64 r.cmd.mode, .int .i64 r.cmd.fl, .int .i64 r.cmd.si, .slice none 0 0, .int .i64 0, .slice none 0 0, .slice none 0 0] 53) := box_set (i := 9) (v := .int .i64 r.cmd.si) kO
  replace X := X.setCell (p := ⟨w.heap.size + 1 + 1, 10, none⟩) (by simp; omega) (.slice x2 m2 y2)
  replace R0 := R0.set (g := w.heap.size + 1 + 1) (i := 10) (x := .slice x2 m2 y2) (.inl (by omega))
  replace kA := box_other (i := 10) (v := .slice x2 m2 y2) kA (show w.heap.size ≠ w.heap.size + 1 + 1 by omega)
  replace kR := box_other (i := 10) (v := .slice x2 m2 y2) kR (show w.heap.size + 1 ≠ w.heap.size + 1 + 1 by omega)
  replace kO : (World.setCell _ _ _).heap[w.heap.size + 1 + 1]? = some (Obj.cells #[.int .i64 r.kind, .int .i64 r.user, .int .i64 r.n, .int .i64 r.cmd.k, .slice x0 m0 y0, .slice x1 m1 y1, .int .i64 r.cmd.uid, .int .i64 r.cmd.mode, .int .i64 r.cmd.fl, .int .i64 r.cmd.si, .slice x2 m2 y2, .int .i64 0, .slice none 0 0, .slice none 0 0] 53) := box_set (i := 10) (v := .slice x2 m2 y2) kO
  refine (toAccount_o _ r.acc _ (H0.out _ X).parts.2.1 h3 h4).mono ?_
  rintro e w2 ⟨vv, rfl, R1, B⟩
  obtain ⟨p3, p4, rfl, g3, g4, -⟩ := R1.v
  obtain ⟨x3, y3, rfl, -⟩ := g3.form
  obtain ⟨x4, y4, rfl, -⟩ := g4.form
  clear g3 g4
  simp only [box_size] at R1
  have s2 : w1.heap.size ≤ w2.heap.size := by have := B.size; simpa only [box_size] using this
  replace X := Below.step X B
  replace R0 := R0.below B
  replace kA := box_below B kA
  replace kR := box_below B kR
  replace kO := box_below B kO
  clear B
  obtain ⟨f0, f1, f2, f3, f4, f5, f6, f7, f8, f9, f10, f11, f12, f13⟩ := bx14 kA
  obtain ⟨oz, ol⟩ := box8z kO
  obtain ⟨o0, o1, o2, o3, o4, o5, o6, o7, o8, o9, o10, o11, o12, o13⟩ := bx14 kO
  obtain ⟨rz, rl⟩ := box8z kR
  obtain ⟨r0, r1, r2, r3, r4, r5, r6, r7, r8, r9, r10, r11, r12, r13⟩ := bx14 kR
  go_wp2
  refine bodyPost_ret (v := .agg #[.int .i64 r.kind, .int .i64 r.user, .int .i64 r.n, .int .i64 r.cmd.k, .slice x0 m0 y0, .slice x1 m1 y1, .int .i64 r.cmd.uid, .int .i64 r.cmd.mode, .int .i64 r.cmd.fl, .int .i64 r.cmd.si, .slice x2 m2 y2, .int .i64 r.acc.valid, .slice x3 r.acc.boxes.length y3, .slice x4 r.acc.seen.length y4]) (by simp [results, Tryz.results17, go_sem, r0, r1, r2, r3, r4, r5, r6, r7, r8, r9, r10, r11, r12, r13]) rfl ⟨_, rfl, ?_, ?_⟩
  · simp only [box_size]
    have hp := (H0.out _ (Below.refl _ _)).parts.2.2
    refine ⟨_, _, _, _, _, w1.heap.size, rfl, CmdR.wide (B := w.heap.size + 3) ?_ (by omega) (Nat.le_refl _), ?_, by omega, by omega, hp⟩
    · repeat refine CmdR.set ?_ (.inl (by omega))
      exact R0
    · repeat refine AccO.set ?_ (.inl (by omega))
      exact R1
  · repeat refine Below.setCell ?_ (by simp <;> omega) _
    exact X

end Go.Proofs.YtdokgpdfdenoaaaGreat
