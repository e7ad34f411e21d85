/- What CmdOk of package impl does. -/
import Derived.Test.YtompmicdieebhaaI3wants
import Derived.Test.YtompmicdieebhaaLibCmd
import Derived.Test.YtompmicdieebhaaLibBox
namespace Go.Proofs.Ytompmicdieebhaa
open Go.RowKit
set_option maxRecDepth 100000
set_option linter.unusedVariables false

theorem cmdB_conj (k : Int) (h : 0 ≤ k ∧ k ≤ 9) (bx tt : List Int) (uid mode fl si : Int) (tx : List Int) : cmdB k bx tt uid mode fl si tx =
    ((bif (!decide (k = 9)) then nameB bx else decide (bx.length = 0)) && ((bif decide (k = 6) then nameB tt else decide (tt.length = 0)) && (inB uid (if k = 3 ∨ k = 5 ∨ k = 6 then 1 else 0) (if k = 3 ∨ k = 5 ∨ k = 6 then 1000000 else 0) && (inB mode 0 (if k = 3 then 2 else if k = 6 then 1 else 0) && (inB fl 0 (if k = 2 ∨ k = 3 then 31 else 0) && (inB si 0 (if k = 3 ∨ k = 8 then 1000000 else 0) && (decide ((tx.length : Int) ≤ (if k = 2 then 30 else 0)) && textB tx))))))) := by
  have hk : k = 0 ∨ k = 1 ∨ k = 2 ∨ k = 3 ∨ k = 4 ∨ k = 5 ∨ k = 6 ∨ k = 7 ∨ k = 8 ∨ k = 9 := by omega
  have z := textB_nil (l := tx)
  have z2 := textB_len (l := tx)
  unfold cmdB inB
  generalize textB tx = T at *
  generalize nameB bx = NB at *
  generalize nameB tt = NT at *
  generalize tx.length = n at *
  generalize bx.length = n1 at *
  generalize tt.length = n2 at *
  clear h
  rcases hk with rfl | rfl | rfl | rfl | rfl | rfl | rfl | rfl | rfl | rfl <;> cases T <;> cases NB <;> cases NT <;> rw [Bool.eq_iff_iff] <;> simp at * <;> omega

set_option maxRecDepth 100000 in
set_option maxHeartbeats 2000000 in
theorem implCmdOk_gen (k : Int) (hk : 0 ≤ k ∧ k ≤ 9) (W0 W1 : Bool) (W2 W3 W4 W5 W6 W7 : Int) (hW : wantsV k = .agg #[.bool W0, .bool W1, .int .i64 W2, .int .i64 W3, .int .i64 W4, .int .i64 W5, .int .i64 W6, .int .i64 W7]) (a0 a1 a2 : Option Addr) (nb nt nx c0 c1 c2 : Nat) (bx tt : List Int) (uid mode fl si : Int) (tx : List Int) (w : World)
    (H0 : Hid (∀ wi, Below w.heap.size w wi → Bs wi (.slice a0 nb c0) bx ∧ Bs wi (.slice a1 nt c1) tt ∧ Bs wi (.slice a2 nx c2) tx)) (c : Bool)
    (HC : Hid (c = ((bif W0 then nameB bx else decide (bx.length = 0)) && ((bif W1 then nameB tt else decide (tt.length = 0)) && (inB uid W2 W3 && (inB mode 0 W4 && (inB fl 0 W5 && (inB si 0 W6 && (decide ((nx : Int) ≤ W7) && textB tx))))))))) :
    Calls Try.prog 22 #[.agg #[.int .i64 k, .slice a0 nb c0, .slice a1 nt c1, .int .i64 uid, .int .i64 mode, .int .i64 fl, .int .i64 si, .slice a2 nx c2]] w fun e w' => e = .returned (.bool c) ∧ Below w.heap.size w w' := by
  have hp : ∀ w, Calls Try.prog 24 #[.int .i64 k] w fun e w' => e = .returned (.agg #[.bool W0, .bool W1, .int .i64 W2, .int .i64 W3, .int .i64 W4, .int .i64 W5, .int .i64 W6, .int .i64 W7]) ∧ Below w.heap.size w w' := fun w => by rw [← hW]; exact wantsOf_any k hk w
  have ab : ∀ (x : World) o, Below x.heap.size x (x.alloc o) := fun x o => (Below.refl _ _).alloc (Nat.le_refl _) o
  have hin : ∀ w, Calls Try.prog 13 #[.int .i64 k, .int .i64 0, .int .i64 9] w fun e w' => e = .returned (.bool true) ∧ w' = w := fun w => by
    have h := within_any k 0 9 w
    rwa [show inB k 0 9 = true by simp [inB, hk.1, hk.2]] at h
  clear hW
  have hy0 : ∀ w (_ : Bs w (.slice a0 nb c0) bx), Calls Try.prog 25 #[.bool W0, .slice a0 nb c0] w fun e w' => e = .returned (.bool (bif W0 then nameB bx else decide (bx.length = 0))) ∧ Below w.heap.size w w' := fun w h => nameWanted_any _ _ bx w h
  have hy1 : ∀ w (_ : Bs w (.slice a1 nt c1) tt), Calls Try.prog 25 #[.bool W1, .slice a1 nt c1] w fun e w' => e = .returned (.bool (bif W1 then nameB tt else decide (tt.length = 0))) ∧ Below w.heap.size w w' := fun w h => nameWanted_any _ _ tt w h
  have hy2 := within_any uid W2 W3
  have hy3 := within_any mode 0 W4
  have hy4 := within_any fl 0 W5
  have hy5 := within_any si 0 W6
  have hy7 := textOk_any (.slice a2 nx c2) tx
  generalize (bif W0 then nameB bx else decide (bx.length = 0)) = X0 at HC hy0
  generalize (bif W1 then nameB tt else decide (tt.length = 0)) = X1 at HC hy1
  generalize inB uid W2 W3 = X2 at HC hy2
  generalize inB mode 0 W4 = X3 at HC hy3
  generalize inB fl 0 W5 = X4 at HC hy4
  generalize inB si 0 W6 = X5 at HC hy5
  generalize textB tx = X7 at HC hy7
  have bx0 := box_new w (.cells #[.int .i64 k, .slice a0 nb c0, .slice a1 nt c1, .int .i64 uid, .int .i64 mode, .int .i64 fl, .int .i64 si, .slice a2 nx c2] 29)
  go_enter Try.func22, Try.ntmps22
  go_wp2_with fail
  refine (hin _).mono ?_
  rintro e w' ⟨rfl, rfl⟩
  go_wp2_with fail
  refine (hp _).mono ?_
  rintro e w1 ⟨rfl, B⟩
  have X := Below.step (ab w _) B
  have s1 : w.heap.size < w1.heap.size := by have := B.size; simp at this; omega
  have kc := box_below B bx0
  clear bx0 B hp hin
  obtain ⟨c_0, c_1, c_2, c_3, c_4, c_5, c_6, c_7⟩ := box8 kc
  have kw := box_new w1 (.cells #[.bool W0, .bool W1, .int .i64 W2, .int .i64 W3, .int .i64 W4, .int .i64 W5, .int .i64 W6, .int .i64 W7] 49)
  replace kc := box_alloc kc (.cells #[.bool W0, .bool W1, .int .i64 W2, .int .i64 W3, .int .i64 W4, .int .i64 W5, .int .i64 W6, .int .i64 W7] 49)
  replace X := Below.step X (ab w1 (.cells #[.bool W0, .bool W1, .int .i64 W2, .int .i64 W3, .int .i64 W4, .int .i64 W5, .int .i64 W6, .int .i64 W7] 49))
  clear ab
  go_wp2_with fail
  refine (hy0 _ (H0.out _ X).1).mono ?_
  rintro e w2 ⟨rfl, B⟩
  clear c_0 c_1 c_2 c_3 c_4 c_5 c_6 c_7 hy0 s1
  replace kc := box_below B kc
  replace kw := box_below B kw
  replace X := Below.step X B
  clear B
  obtain ⟨c_0, c_1, c_2, c_3, c_4, c_5, c_6, c_7⟩ := box8 kc
  obtain ⟨d_0, d_1, d_2, d_3, d_4, d_5, d_6, d_7⟩ := box8 kw
  cases X0 with
  | false =>
    go_wp2
    go_ret
    exact ⟨ret_b HC.out, X⟩
  | true =>
  go_wp2_with fail
  refine (hy1 _ (H0.out _ X).2.1).mono ?_
  rintro e w3 ⟨rfl, B⟩
  clear c_0 c_1 c_2 c_3 c_4 c_5 c_6 c_7 d_0 d_1 d_2 d_3 d_4 d_5 d_6 d_7 hy1
  replace kc := box_below B kc
  replace kw := box_below B kw
  replace X := Below.step X B
  clear B
  obtain ⟨c_0, c_1, c_2, c_3, c_4, c_5, c_6, c_7⟩ := box8 kc
  obtain ⟨d_0, d_1, d_2, d_3, d_4, d_5, d_6, d_7⟩ := box8 kw
  cases X1 with
  | false =>
    go_wp2
    go_ret
    exact ⟨ret_b HC.out, X⟩
  | true =>
  go_wp2_with fail
  refine (hy2 _).mono ?_
  rintro e w' ⟨rfl, rfl⟩
  cases X2 with
  | false =>
    go_wp2
    go_ret
    exact ⟨ret_b HC.out, X⟩
  | true =>
  go_wp2_with fail
  refine (hy3 _).mono ?_
  rintro e w' ⟨rfl, rfl⟩
  cases X3 with
  | false =>
    go_wp2
    go_ret
    exact ⟨ret_b HC.out, X⟩
  | true =>
  go_wp2_with fail
  refine (hy4 _).mono ?_
  rintro e w' ⟨rfl, rfl⟩
  cases X4 with
  | false =>
    go_wp2
    go_ret
    exact ⟨ret_b HC.out, X⟩
  | true =>
  go_wp2_with fail
  refine (hy5 _).mono ?_
  rintro e w' ⟨rfl, rfl⟩
  cases X5 with
  | false =>
    go_wp2
    go_ret
    exact ⟨ret_b HC.out, X⟩
  | true =>
  by_cases h6 : (nx : Int) ≤ W7
  · rw [decide_eq_true h6] at HC
    go_wp2_with fail
    refine (hy7 _ (H0.out _ X).2.2).mono ?_
    rintro e w4 ⟨rfl, B⟩
    go_wp2
    go_ret
    exact ⟨ret_b HC.out, Below.step X B⟩
  · rw [decide_eq_false h6] at HC
    go_wp2
    go_ret
    exact ⟨ret_b HC.out, X⟩

set_option maxRecDepth 100000 in
theorem implCmdOk_any (v : Value) (k : Int) (bx tt : List Int) (uid mode fl si : Int) (tx : List Int) (w : World) (hv : CmdV w v k bx tt uid mode fl si tx) :
    Calls Try.prog 22 #[v] w fun e w' => e = .returned (.bool (cmdB k bx tt uid mode fl si tx)) ∧ Below w.heap.size w w' := by
  obtain ⟨u0, u1, u2, rfl, g0, g1, g2, i0, i1, i2, i3, i4⟩ := hv
  have H0 : Hid (∀ wi, Below w.heap.size w wi → Bs wi u0 bx ∧ Bs wi u1 tt ∧ Bs wi u2 tx) := fun wi h => ⟨g0.below h, g1.below h, g2.below h⟩
  obtain ⟨a0, c0, rfl⟩ := g0.form
  obtain ⟨a1, c1, rfl⟩ := g1.form
  obtain ⟨a2, c2, rfl⟩ := g2.form
  by_cases h : 0 ≤ k ∧ k ≤ 9
  · exact implCmdOk_gen k h _ _ _ _ _ _ _ _ rfl a0 a1 a2 _ _ _ c0 c1 c2 bx tt uid mode fl si tx w H0 _ (cmdB_conj k h bx tt uid mode fl si tx)
  · have HZ : Hid (cmdB k bx tt uid mode fl si tx = false) := by simp [Hid, cmdB, h]
    have hin : ∀ w, Calls Try.prog 13 #[.int .i64 k, .int .i64 0, .int .i64 9] w fun e w' => e = .returned (.bool false) ∧ w' = w := fun w => by
      have h' := within_any k 0 9 w
      rwa [show inB k 0 9 = false by simp [inB]; omega] at h'
    go_enter Try.func22, Try.ntmps22
    go_wp2_with fail
    refine (hin _).mono ?_
    rintro e w' ⟨rfl, rfl⟩
    go_wp2
    go_ret
    exact ⟨ret_b HZ.out, (Below.refl _ _).alloc (Nat.le_refl _) _⟩

end Go.Proofs.Ytompmicdieebhaa
