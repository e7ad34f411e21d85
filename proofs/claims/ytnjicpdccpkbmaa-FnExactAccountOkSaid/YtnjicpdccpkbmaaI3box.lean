/- What boxOk of package impl do. -/
import Derived.Test.YtnjicpdccpkbmaaI3gones
namespace Go.Proofs.Ytnjicpdccpkbmaa
open Go.RowKit Go.Shelf
set_option linter.unusedVariables false

set_option maxRecDepth 100000 in
set_option maxHeartbeats 1000000 in
theorem boxOk_any (v : Value) (x : BoxD) (mv : Int) (w : World) (hv : BoxV w v x) :
    Calls Try.prog 40 #[v, .int .i64 mv] w fun e w' => e = .returned (.bool (boxB x mv)) ∧ Below w.heap.size w w' := by
  have HV : Hid (∀ wi, Below w.heap.size w wi → BoxV wi v x) := fun wi h => hv.below h
  obtain ⟨u0, u1, u2, rfl, g0, g1, g2, i0, i1, i2, i3⟩ := hv
  have H0 : Hid (∀ wi, Below w.heap.size w wi → Bs wi u0 x.name ∧ MailsV wi u1 x.mails ∧ GonesV wi u2 x.gones) := fun wi h => ⟨g0.below h, g1.below keepsMail h, g2.below keepsGone h⟩
  obtain ⟨a0, n0, c0, rfl⟩ := g0.form3
  obtain ⟨a1, c1, rfl, m0, m1⟩ := g1.form
  obtain ⟨a2, c2, rfl, m2, m3⟩ := g2.form
  have kA := box_new w (.cells #[.slice a0 n0 c0, .int .i64 x.valid, .int .i64 x.next, .int .i64 x.seq, .slice a1 x.mails.length c1, .slice a2 x.gones.length c2, .int .i64 x.lost] 51)
  have X : Below w.heap.size w (w.alloc (.cells #[.slice a0 n0 c0, .int .i64 x.valid, .int .i64 x.next, .int .i64 x.seq, .slice a1 x.mails.length c1, .slice a2 x.gones.length c2, .int .i64 x.lost] 51)) := (Below.refl _ _).alloc (Nat.le_refl _) _
  clear g0 g1 g2
  have HC : Hid (boxB x mv = (nameB x.name && (inB x.valid 1 mv && (inB x.next 1 1000000 && (inB x.seq 0 1000000 && (inB x.lost 0 x.seq && (mailsB x && gonesB x))))))) := rfl
  have HN : Hid (inB x.next 1 1000000 = true → 1 ≤ x.next ∧ x.next ≤ 1000000) := by intro h; simp [inB] at h; exact h
  have hy1 := fun wi (h : Bs wi (.slice a0 n0 c0) x.name) => nameOk_any _ x.name wi h
  have hy2 := within_any x.valid 1 mv
  have hy3 := within_any x.next 1 1000000
  have hy4 := within_any x.seq 0 1000000
  have hy5 := within_any x.lost 0 x.seq
  have hy6 := fun wi (h : BoxV wi (.agg #[.slice a0 n0 c0, .int .i64 x.valid, .int .i64 x.next, .int .i64 x.seq, .slice a1 x.mails.length c1, .slice a2 x.gones.length c2, .int .i64 x.lost]) x) h1 h2 => mailsOk_any _ x wi h h1 h2
  have hy7 := fun wi (h : BoxV wi (.agg #[.slice a0 n0 c0, .int .i64 x.valid, .int .i64 x.next, .int .i64 x.seq, .slice a1 x.mails.length c1, .slice a2 x.gones.length c2, .int .i64 x.lost]) x) h1 h2 => gonesOk_any _ x wi h h1 h2
  generalize nameB x.name = X1 at HC hy1
  generalize inB x.valid 1 mv = X2 at HC hy2
  generalize inB x.next 1 1000000 = X3 at HC hy3 HN
  generalize inB x.seq 0 1000000 = X4 at HC hy4
  generalize inB x.lost 0 x.seq = X5 at HC hy5
  generalize mailsB x = X6 at HC hy6
  generalize gonesB x = X7 at HC hy7
  go_enter Try.func40, Try.ntmps40
  go_wp2_with fail
  refine (hy1 _ (H0.out _ X).1).mono ?_
  rintro e w1 ⟨rfl, B⟩
  replace kA := box_below B kA
  replace X := Below.step X B
  clear B hy1
  obtain ⟨f0, f1, f2, f3, f4, f5, f6⟩ := bx7 kA
  cases X1 with
  | false =>
    go_wp2
    go_ret
    exact ⟨ret_b HC.out, X⟩
  | true =>
  go_wp2_with fail
  refine (hy2 _).mono ?_
  rintro e w' ⟨rfl, rfl⟩
  cases X2 with
  | false =>
    go_wp2
    go_ret
    exact ⟨ret_b HC.out, X⟩
  | true =>
  go_wp2_with fail
  refine (hy3 _).mono ?_
  rintro e w' ⟨rfl, rfl⟩
  cases X3 with
  | false =>
    go_wp2
    go_ret
    exact ⟨ret_b HC.out, X⟩
  | true =>
  obtain ⟨hn0, hn1⟩ := HN.out rfl
  go_wp2_with fail
  refine (hy4 _).mono ?_
  rintro e w' ⟨rfl, rfl⟩
  cases X4 with
  | false =>
    go_wp2
    go_ret
    exact ⟨ret_b HC.out, X⟩
  | true =>
  go_wp2_with fail
  refine (hy5 _).mono ?_
  rintro e w' ⟨rfl, rfl⟩
  cases X5 with
  | false =>
    go_wp2
    go_ret
    exact ⟨ret_b HC.out, X⟩
  | true =>
  go_wp2_with fail
  refine (hy6 _ (HV.out _ X) hn0 hn1).mono ?_
  rintro e w2 ⟨rfl, B⟩
  replace kA := box_below B kA
  replace X := Below.step X B
  clear B hy6 f0 f1 f2 f3 f4 f5 f6
  obtain ⟨f0, f1, f2, f3, f4, f5, f6⟩ := bx7 kA
  cases X6 with
  | false =>
    go_wp2
    go_ret
    exact ⟨ret_b HC.out, X⟩
  | true =>
  go_wp2_with fail
  refine (hy7 _ (HV.out _ X) hn0 hn1).mono ?_
  rintro e w3 ⟨rfl, B⟩
  replace X := Below.step X B
  go_wp2
  go_ret
  exact ⟨ret_b HC.out, X⟩

end Go.Proofs.Ytnjicpdccpkbmaa
