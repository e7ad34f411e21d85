/- What toMail, toMailS of package laws do. -/
import Derived.Test.YtnjicpdccpkbmaaEx1
import Derived.Test.YtnjicpdccpkbmaaLibOwR
namespace Go.Proofs.Ytnjicpdccpkbmaa
open Go.RowKit
set_option linter.unusedVariables false

set_option maxRecDepth 100000 in
set_option maxHeartbeats 1000000 in
theorem toMail_o (v : Value) (x : MailD) (w : World) (hv : MailV w v x) (h0 : x.text.length ≤ 2000000) :
    Calls Try.prog 72 #[v] w fun e w' => ∃ u, e = .returned u ∧ (∃ a n c, u = .agg #[.int .i64 x.uid, .int .i64 x.flags, .int .i64 x.seq, .slice a n c] ∧ MailE w' [.int .i64 x.uid, .int .i64 x.flags, .int .i64 x.seq, .slice a n c] x (In w.heap.size w'.heap.size)) ∧ Below w.heap.size w w' := by
  obtain ⟨u, rfl, g0, i0, i1, i2⟩ := hv
  obtain ⟨uid, flags, seq, text⟩ := x
  simp only at g0 i0 i1 i2 h0
  have H0 : Hid (∀ wi, Below w.heap.size w wi → Bs wi u text) := fun wi h => g0.below h
  obtain ⟨a0, n0, c0, rfl⟩ := g0.form3
  have HI : Hid (I64 uid ∧ I64 flags ∧ I64 seq) := ⟨i0, i1, i2⟩
  clear g0 i0 i1 i2
  simp only
  go_enter Try.func72, Try.ntmps72
  go_wp2_with fail
  refine (toByteS_r _ text _ (H0.out _ (box3_below w _ _ _)) h0).mono ?_
  rintro e w1 ⟨u0, rfl, R0, B⟩
  obtain ⟨x0, m0, y0, rfl⟩ := R0.bs.form3
  have b3 := box3 w (.cells #[.int .i64 uid, .int .i64 flags, .int .i64 seq, .slice a0 n0 c0] 104) (.cells #[.int .i64 0, .int .i64 0, .int .i64 0, .slice none 0 0] 84) (.cells #[.int .i64 uid, .int .i64 flags, .int .i64 seq, .slice none 0 0] 84)
  have kA := box_below B b3.1
  have kR := box_below B b3.2.1
  have kO := box_below B b3.2.2
  have s1 : w.heap.size + 3 ≤ w1.heap.size := by have := B.size; simp at this; omega
  have X := Below.step (box3_below w _ _ _) B
  replace R0 := R0.wide (B' := w.heap.size + 3) (T' := w1.heap.size) (by simp) (Nat.le_refl _)
  clear b3 B
  obtain ⟨-, -, -, -⟩ := bx4 kA
  obtain ⟨oz, ol⟩ := box8z kO
  obtain ⟨o0, o1, o2, o3⟩ := bx4 kO
  obtain ⟨rz, rl⟩ := box8z kR
  obtain ⟨r0, r1, r2, r3⟩ := bx4 kR
  go_wp2
  refine bodyPost_ret (v := .agg #[.int .i64 uid, .int .i64 flags, .int .i64 seq, .slice x0 m0 y0]) (by simp [results, Try.results72, go_sem, r0, r1, r2, r3]) rfl ⟨_, rfl, ?_, ?_⟩
  · simp only [box_size]
    exact ⟨_, _, _, rfl, _, rfl, Row.ro (Row.wide ((((((R0.set (g := w.heap.size + 1 + 1) (i := 3) (x := .slice x0 m0 y0) (.inl (by omega))).set (g := w.heap.size + 1) (i := 0) (x := .int .i64 uid) (.inl (by omega))).set (g := w.heap.size + 1) (i := 1) (x := .int .i64 flags) (.inl (by omega))).set (g := w.heap.size + 1) (i := 2) (x := .int .i64 seq) (.inl (by omega))).set (g := w.heap.size + 1) (i := 3) (x := .slice x0 m0 y0) (.inl (by omega)))) (by omega) (Nat.le_refl _)), HI.out⟩
  · exact (((((X.setCell (p := ⟨w.heap.size + 1 + 1, 3, none⟩) (by simp <;> omega) (.slice x0 m0 y0)).setCell (p := ⟨w.heap.size + 1, 0, none⟩) (by simp <;> omega) (.int .i64 uid)).setCell (p := ⟨w.heap.size + 1, 1, none⟩) (by simp <;> omega) (.int .i64 flags)).setCell (p := ⟨w.heap.size + 1, 2, none⟩) (by simp <;> omega) (.int .i64 seq)).setCell (p := ⟨w.heap.size + 1, 3, none⟩) (by simp <;> omega) (.slice x0 m0 y0))

theorem infoMail : (Try.prog.info? 84).map (fun i => (i.zero, i.size, i.bytes)) = some (some (.agg #[.int .i64 0, .int .i64 0, .int .i64 0, .slice none 0 0]), 4, 48) := by kernel_rfl

set_option maxRecDepth 100000 in
set_option maxHeartbeats 1000000 in
theorem toMailS_r (v : Value) (l : List MailD) (w : World) (hv : MailsV w v l) (hl : szM l ≤ 2000000) :
    Calls Try.prog 51 #[v] w fun e w' => ∃ u, e = .returned u ∧ MailsR w' w.heap.size w'.heap.size u l ∧ Below w.heap.size w w' := by
  have HV : Hid (∀ wi, Below w.heap.size w wi → MailsV wi v l) := fun wi h => hv.below keepsMail h
  obtain ⟨a, cap, rfl, hlc, hcm⟩ := hv.form
  have hll : l.length ≤ 2000000 := by have := szM_len l; omega
  clear hv
  obtain ⟨i0, hi, hz0, hz1, hz2⟩ := info_parts infoMail
  go_enter Try.func51, Try.ntmps51
  go_wp2_with (at_make; refine wpList_make_full _ rfl _ _ 48 rfl w.heap.size 84 i0 (.agg #[.int .i64 0, .int .i64 0, .int .i64 0, .slice none 0 0]) 4 Try.underlying48 hi hz0 hz1 _ _ _ _ l.length rfl rfl rfl rfl ?b1 ?b2 ?b3 ?_)
  case b1 => rw [hz2]; omega
  case b2 => unfold maxLen; omega
  case b3 => exact Nat.le_refl _
  intro w1 hown hgrow
  have HB : Hid (Below w.heap.size w w1) := (Below.refl w.heap.size w).grown hgrow (Nat.le_refl _) (by simp)
  have HP : Hid (Part 84 4 MailE w1 w.heap.size l.length 0 l) := by obtain ⟨cur, h1, h2⟩ := made_part hown; exact Part.start h1 h2
  clear hown hgrow hi hz0 hz1 hz2
  go_wp2
  go_loopw [4] (fun i wr => ∃ k : Nat, k ≤ l.length ∧ i = .int .i64 k ∧ Hid (Part 84 4 MailE wr w.heap.size l.length k l) ∧ Hid (Below w.heap.size w wr)) (fun i _ => l.length - (intOf i).toNat)
  case atStart => exact ⟨0, Nat.zero_le _, rfl, HP, HB⟩
  case round =>
    obtain ⟨k, hk, rfl, hP, hB⟩ := hrel
    by_cases hlt : k < l.length
    · obtain ⟨x, hx⟩ : ∃ x, l[k]? = some x := ⟨l[k], List.getElem?_eq_getElem hlt⟩
      obtain ⟨b, off, cap', u, hv', hlb, d0, d1, d2, d3, hu, i0, i1, i2⟩ := MailsV.cell (HV.out wr hB.out) k x hx
      simp only [Value.slice.injEq, true_and] at hv'
      obtain ⟨rfl, rfl⟩ := hv'
      obtain ⟨ua, un, uc, rfl⟩ := hu.form3
      go_wp2_with fail
      refine (toMail_o _ x _ ⟨_, rfl, hu, i0, i1, i2⟩ (by have := szM_mem (List.mem_of_getElem? hx); omega)).mono ?_
      rintro e w2 ⟨_, rfl, ⟨ya, yn, yc, rfl, he⟩, B⟩
      clear d0 d1 d2 d3
      have hs2 := B.size
      have HS : Hid (Part 84 4 MailE (put w2 w.heap.size (k * 4) [.int .i64 x.uid, .int .i64 x.flags, .int .i64 x.seq, .slice ya yn yc]) w.heap.size l.length (k + 1) l) := Part.step framesMail hP.out B x hx hlt _ rfl he
      have HB2 : Hid (Below w.heap.size w w2) := Below.step hB.out B
      have hgl := hP.out.lt
      have hgl2 : w.heap.size < w2.heap.size := by omega
      obtain ⟨q0, t0⟩ := (show ∃ u, w2.cell? ⟨w.heap.size, k * 4, none⟩ = some u from by obtain ⟨⟨u, hu⟩, -⟩ := hP.out.cell (k * 4) (by omega); exact ⟨u, (B.cell (p := ⟨w.heap.size, k * 4, none⟩) hgl).trans hu⟩)
      obtain ⟨q1, t1⟩ := (show ∃ u, w2.cell? ⟨w.heap.size, k * 4 + 1, none⟩ = some u from by obtain ⟨⟨u, hu⟩, -⟩ := hP.out.cell (k * 4 + 1) (by omega); exact ⟨u, (B.cell (p := ⟨w.heap.size, k * 4 + 1, none⟩) hgl).trans hu⟩)
      obtain ⟨q2, t2⟩ := (show ∃ u, w2.cell? ⟨w.heap.size, k * 4 + 2, none⟩ = some u from by obtain ⟨⟨u, hu⟩, -⟩ := hP.out.cell (k * 4 + 2) (by omega); exact ⟨u, (B.cell (p := ⟨w.heap.size, k * 4 + 2, none⟩) hgl).trans hu⟩)
      obtain ⟨q3, t3⟩ := (show ∃ u, w2.cell? ⟨w.heap.size, k * 4 + 3, none⟩ = some u from by obtain ⟨⟨u, hu⟩, -⟩ := hP.out.cell (k * 4 + 3) (by omega); exact ⟨u, (B.cell (p := ⟨w.heap.size, k * 4 + 3, none⟩) hgl).trans hu⟩)
      have fz : ∀ i, w2.frozen? ⟨w.heap.size, i, none⟩ = false := by
        intro i
        obtain ⟨cur, cs, fs, hh, -⟩ := hP.out
        exact frozen_of_row w2 w.heap.size i cur 84 (box_below B hh)
      clear hP hB B he
      go_wp2
      go_roundw
      case rel => exact ⟨k + 1, by omega, by go_num, HS, put_below HB2.out (Nat.le_refl _) (k * 4) [.int .i64 x.uid, .int .i64 x.flags, .int .i64 x.seq, .slice ya yn yc]⟩
      case measure => simp [intOf]; omega
    · obtain rfl : k = l.length := by omega
      go_wp2
      go_ret
      exact ⟨_, rfl, Part.done hP.out rfl (by unfold maxLen; omega) (Nat.le_refl _), hB.out⟩

end Go.Proofs.Ytnjicpdccpkbmaa
