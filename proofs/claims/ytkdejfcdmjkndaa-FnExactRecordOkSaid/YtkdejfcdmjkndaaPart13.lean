/- The proof's texts, part 13. -/
import Derived.Test.YtkdejfcdmjkndaaPart2
import Derived.Test.YtkdejfcdmjkndaaPart12
import Derived.Deep.RegionHeld3
import Derived.Test.YtkdejfcdmjkndaaRows
import Derived.Test.YtkdejfcdmjkndaaPart1
import Derived.ProofKit
import Derived.OpenShut
import Derived.ShutString
import Derived.ChangeOld
import Derived.ChangeSame
import Derived.Deep.Light
import Derived.Deep.Slices

/- What numLimits, cmdWanted, accountWanted, RecordOk of package impl do. -/
namespace Go.Proofs.Ytkdejfcdmjkndaa
open Go.RowKit
set_option maxRecDepth 100000
set_option linter.unusedVariables false
set_option linter.unusedSimpArgs false

theorem numLimits_any (k : Int) (w : World) :
    Calls Try.prog 19 #[.int .i64 k] w fun e w' => e = .returned (.tuple #[.int .i64 (lowN k), .int .i64 (highN k)]) ∧ w' = w := by
  by_cases h0 : k = 0
  · subst h0
    go_enter Try.func19, Try.ntmps19
    go_wp2
    exact bodyPost_ret (v := .tuple #[.int .i64 1, .int .i64 1000000]) (by simp [results, Try.results19, go_sem]) rfl ⟨rfl, rfl⟩
  by_cases h6 : k = 6
  · subst h6
    go_enter Try.func19, Try.ntmps19
    go_wp2
    exact bodyPost_ret (v := .tuple #[.int .i64 0, .int .i64 2]) (by simp [results, Try.results19, go_sem]) rfl ⟨rfl, rfl⟩
  by_cases h7 : k = 7
  · subst h7
    go_enter Try.func19, Try.ntmps19
    go_wp2
    exact bodyPost_ret (v := .tuple #[.int .i64 0, .int .i64 0]) (by simp [results, Try.results19, go_sem]) rfl ⟨rfl, rfl⟩
  by_cases h8 : k = 8
  · subst h8
    go_enter Try.func19, Try.ntmps19
    go_wp2
    exact bodyPost_ret (v := .tuple #[.int .i64 0, .int .i64 0]) (by simp [results, Try.results19, go_sem]) rfl ⟨rfl, rfl⟩
  have HL : Hid (lowN k = 0 ∧ highN k = 1000000) := by simp [Hid, lowN, highN, h0, h6, h7, h8]
  have e0 : (k == 0) = false := by simp [h0]
  have e6 : (k == 6) = false := by simp [h6]
  have e7 : (k == 7) = false := by simp [h7]
  have e8 : (k == 8) = false := by simp [h8]
  go_enter Try.func19, Try.ntmps19
  go_wp2
  exact bodyPost_ret (v := .tuple #[.int .i64 0, .int .i64 1000000]) (by simp [results, Try.results19, go_sem]) rfl ⟨by rw [HL.out.1, HL.out.2], rfl⟩

set_option maxHeartbeats 1000000 in
theorem cmdWanted_zero (k : Int) (a0 a1 a2 : Option Addr) (nb nt nx c0 c1 c2 : Nat) (uid mode fl si : Int) (w : World) :
    Calls Try.prog 20 #[.bool false, .agg #[.int .i64 k, .slice a0 nb c0, .slice a1 nt c1, .int .i64 uid, .int .i64 mode, .int .i64 fl, .int .i64 si, .slice a2 nx c2]] w fun e w' => e = .returned (.bool (zC k nb nt uid mode fl si nx)) ∧ Below w.heap.size w w' := by
  have HX : Hid (∀ o, Below w.heap.size w (w.alloc o)) := fun o => (Below.refl _ _).alloc (Nat.le_refl _) o
  go_enter Try.func20, Try.ntmps20
  go_wp2
  all_goals (go_ret; refine ⟨ret_b ?_, HX.out _⟩; clear HX; unfold zC; (try simp only [beq_iff_eq, beq_eq_false_iff_ne, ne_eq] at *); rw [Bool.eq_iff_iff]; simp; omega)
theorem cmdWanted_any (b : Bool) (v : Value) (c : CmdD) (w : World) (hv : CmdV w v c.k c.bx c.tt c.uid c.mode c.fl c.si c.tx) :
    Calls Try.prog 20 #[.bool b, v] w fun e w' => e = .returned (.bool (bif b then cmdD c else zeroC c)) ∧ Below w.heap.size w w' := by
  have H0 : Hid (∀ wi, Below w.heap.size w wi → CmdV wi v c.k c.bx c.tt c.uid c.mode c.fl c.si c.tx) := fun wi h => hv.below h
  obtain ⟨u0, u1, u2, rfl, g0, g1, g2, -⟩ := hv
  obtain ⟨a0, c0, rfl⟩ := g0.form
  obtain ⟨a1, c1, rfl⟩ := g1.form
  obtain ⟨a2, c2, rfl⟩ := g2.form
  clear g0 g1 g2
  cases b with
  | false => exact cmdWanted_zero _ _ _ _ _ _ _ _ _ _ _ _ _ _ w
  | true =>
    have ab : ∀ o, Below w.heap.size w (w.alloc o) := fun o => (Below.refl _ _).alloc (Nat.le_refl _) o
    go_enter Try.func20, Try.ntmps20
    go_wp2_with fail
    refine (implCmdOk_any _ c.k c.bx c.tt c.uid c.mode c.fl c.si c.tx _ (H0.out _ (ab _))).mono ?_
    rintro e w1 ⟨rfl, B⟩
    replace B := Below.step (ab _) B
    clear ab H0
    go_wp2
    go_ret
    exact ⟨rfl, B⟩
set_option maxHeartbeats 1000000 in
theorem accountWanted_zero (k : Int) (a0 a1 : Option Addr) (nb nt c0 c1 : Nat) (w : World) :
    Calls Try.prog 21 #[.bool false, .agg #[.int .i64 k, .slice a0 nb c0, .slice a1 nt c1]] w fun e w' => e = .returned (.bool (zA k nb nt)) ∧ Below w.heap.size w w' := by
  have HX : Hid (∀ o, Below w.heap.size w (w.alloc o)) := fun o => (Below.refl _ _).alloc (Nat.le_refl _) o
  go_enter Try.func21, Try.ntmps21
  go_wp2
  all_goals (go_ret; refine ⟨ret_b ?_, HX.out _⟩; clear HX; unfold zA; (try simp only [beq_iff_eq, beq_eq_false_iff_ne, ne_eq] at *); rw [Bool.eq_iff_iff]; simp; omega)
theorem accountWanted_any (b : Bool) (v : Value) (a : AccD) (w : World) (hv : AccV w v a) :
    Calls Try.prog 21 #[.bool b, v] w fun e w' => e = .returned (.bool (bif b then accB a else zeroA a)) ∧ Below w.heap.size w w' := by
  have H0 : Hid (∀ wi, Below w.heap.size w wi → AccV wi v a) := fun wi h => hv.below h
  obtain ⟨u0, u1, rfl, g0, g1, -⟩ := hv
  obtain ⟨a0, c0, rfl, -⟩ := g0.form
  obtain ⟨a1, c1, rfl, -⟩ := g1.form
  clear g0 g1
  cases b with
  | false => exact accountWanted_zero _ _ _ _ _ _ _ w
  | true =>
    have ab : ∀ o, Below w.heap.size w (w.alloc o) := fun o => (Below.refl _ _).alloc (Nat.le_refl _) o
    go_enter Try.func21, Try.ntmps21
    go_wp2_with fail
    refine (implAccountOk_any _ a _ (H0.out _ (ab _))).mono ?_
    rintro e w1 ⟨rfl, B⟩
    replace B := Below.step (ab _) B
    clear ab H0
    go_wp2
    go_ret
    exact ⟨rfl, B⟩

set_option maxRecDepth 100000 in
set_option maxHeartbeats 2000000 in
theorem implRecordOk_gen (K U N L M : Int) (b0 b3 : Bool) (hb0 : (K == 0) = b0) (hb3 : (K == 3) = b3) (hd0 : decide (K = 0) = b0) (hd3 : decide (K = 3) = b3) (k : Int) (a0 a1 a2 a3 a4 : Option Addr) (nb nt nx mb ms c0 c1 c2 c3 c4 : Nat) (uid mode fl si valid : Int) (w : World) (c X0 X1 X2 X3 X4 : Bool)
    (h0 : ∀ w, Calls Try.prog 18 #[.int .i64 K, .int .i64 0, .int .i64 8] w fun e w' => e = .returned (.bool X0) ∧ w' = w)
    (h1 : ∀ w, Calls Try.prog 18 #[.int .i64 U, .int .i64 0, .int .i64 2] w fun e w' => e = .returned (.bool X1) ∧ w' = w)
    (hl : ∀ w, Calls Try.prog 19 #[.int .i64 K] w fun e w' => e = .returned (.tuple #[.int .i64 L, .int .i64 M]) ∧ w' = w)
    (h2 : ∀ w, Calls Try.prog 18 #[.int .i64 N, .int .i64 L, .int .i64 M] w fun e w' => e = .returned (.bool X2) ∧ w' = w)
    (h3 : Hid (∀ wi, Below w.heap.size w wi → Calls Try.prog 20 #[.bool b0, .agg #[.int .i64 k, .slice a0 nb c0, .slice a1 nt c1, .int .i64 uid, .int .i64 mode, .int .i64 fl, .int .i64 si, .slice a2 nx c2]] wi fun e w' => e = .returned (.bool X3) ∧ Below wi.heap.size wi w'))
    (h4 : Hid (∀ wi, Below w.heap.size w wi → Calls Try.prog 21 #[.bool b3, .agg #[.int .i64 valid, .slice a3 mb c3, .slice a4 ms c4]] wi fun e w' => e = .returned (.bool X4) ∧ Below wi.heap.size wi w'))
    (HC : Hid (c = (X0 && (X1 && (X2 && (X3 && X4)))))) :
    Calls Try.prog 7 #[.agg #[.int .i64 K, .int .i64 U, .int .i64 N, .int .i64 k, .slice a0 nb c0, .slice a1 nt c1, .int .i64 uid, .int .i64 mode, .int .i64 fl, .int .i64 si, .slice a2 nx c2, .int .i64 valid, .slice a3 mb c3, .slice a4 ms c4]] w fun e w' => e = .returned (.bool c) ∧ Below w.heap.size w w' := by
  have HX : Hid (∀ o, Below w.heap.size w (w.alloc o)) := fun o => (Below.refl _ _).alloc (Nat.le_refl _) o
  have kA := box_new w (.cells #[.int .i64 K, .int .i64 U, .int .i64 N, .int .i64 k, .slice a0 nb c0, .slice a1 nt c1, .int .i64 uid, .int .i64 mode, .int .i64 fl, .int .i64 si, .slice a2 nx c2, .int .i64 valid, .slice a3 mb c3, .slice a4 ms c4] 38)
  go_enter Try.func7, Try.ntmps7
  go_wp2_with fail
  refine (h0 _).mono ?_
  rintro e w' ⟨rfl, rfl⟩
  clear h0
  cases X0 with
  | false =>
    go_wp2
    go_ret
    exact ⟨ret_b HC.out, HX.out _⟩
  | true =>
  go_wp2_with fail
  refine (h1 _).mono ?_
  rintro e w' ⟨rfl, rfl⟩
  clear h1
  cases X1 with
  | false =>
    go_wp2
    go_ret
    exact ⟨ret_b HC.out, HX.out _⟩
  | true =>
  go_wp2_with fail
  refine (hl _).mono ?_
  rintro e w' ⟨rfl, rfl⟩
  clear hl
  go_wp2_with fail
  refine (h2 _).mono ?_
  rintro e w' ⟨rfl, rfl⟩
  clear h2
  cases X2 with
  | false =>
    go_wp2
    go_ret
    exact ⟨ret_b HC.out, HX.out _⟩
  | true =>
  go_wp2_with fail
  (try rw [hb0])
  (try rw [hd0])
  refine (h3.out _ (HX.out _)).mono ?_
  rintro e w1 ⟨rfl, B⟩
  have X := Below.step (HX.out _) B
  replace kA := box_below B kA
  clear B h3 HX
  obtain ⟨f0, f1, f2, f3, f4, f5, f6, f7, f8, f9, f10, f11, f12, f13⟩ := bx14 kA
  have hlt := lt_of_heap kA
  cases X3 with
  | false =>
    go_wp2
    go_ret
    exact ⟨ret_b HC.out, X⟩
  | true =>
  go_wp2_with fail
  (try rw [hb3])
  (try rw [hd3])
  refine (h4.out _ X).mono ?_
  rintro e w2 ⟨rfl, B⟩
  replace X := Below.step X B
  clear B h4 f0 f1 f2 f3 f4 f5 f6 f7 f8 f9 f10 f11 f12 f13 hlt kA
  go_wp2
  go_ret
  exact ⟨ret_b HC.out, X⟩
theorem implRecordOk_any (v : Value) (r : RecD) (w : World) (hv : RecV w v r) :
    Calls Try.prog 7 #[v] w fun e w' => e = .returned (.bool (recB r)) ∧ Below w.heap.size w w' := by
  have H0 : Hid (∀ wi, Below w.heap.size w wi → RecV wi v r) := fun wi h => hv.below h
  obtain ⟨a0, n0, c0, a1, n1, c1, a2, n2, c2, a3, c3, a4, c4, rfl⟩ := hv.form
  clear hv
  have e0 : (r.kind == 0) = decide (r.kind = 0) := by rw [Bool.eq_iff_iff]; simp
  have e3 : (r.kind == 3) = decide (r.kind = 3) := by rw [Bool.eq_iff_iff]; simp
  exact implRecordOk_gen r.kind r.user r.n _ _ _ _ e0 e3 rfl rfl _ _ _ _ _ _ _ _ _ _ _ _ _ _ _ _ _ _ _ _ _ w _ _ _ _ _ _ (within_any _ _ _) (within_any _ _ _) (numLimits_any _) (within_any _ _ _)
    (fun wi h => cmdWanted_any _ _ r.cmd wi (H0.out wi h).parts.1) (fun wi h => accountWanted_any _ _ r.acc wi (H0.out wi h).parts.2.1) rfl

end Go.Proofs.Ytkdejfcdmjkndaa

/- The law FnExactRecordOk, walked out of the contracts. -/
namespace Go.Proofs.Ytkdejfcdmjkndaa
open Go.RowKit
set_option maxRecDepth 100000

set_option maxRecDepth 100000 in
set_option maxHeartbeats 4000000 in
theorem exactRecordOk_walk (v : Value) (r : RecD) (w : World) (hv : RecV w v r) :
    Calls Try.prog 3 #[v] w fun e w' => e = .returned (.bool true) ∧ Below w.heap.size w w' := by
  have HV : Hid (∀ wi, Below w.heap.size w wi → RecV wi v r) := fun wi h => hv.below h
  obtain ⟨a0, n0, c0, a1, n1, c1, a2, n2, c2, a3, c3, a4, c4, rfl⟩ := hv.form
  clear hv
  go_enter Try.func3, Try.ntmps3
  have ab : ∀ o, Below w.heap.size w (w.alloc o) := fun o => (Below.refl _ _).alloc (Nat.le_refl _) o
  go_wp2_with fail
  refine (szRecord_any _ r 1048576 _ (HV.out _ (ab _)) (by omega) (by omega)).mono ?_
  rintro e w1 ⟨y, rfl, hx, B⟩
  have kA := box_below B (box_new w (.cells #[.int .i64 r.kind, .int .i64 r.user, .int .i64 r.n, .int .i64 r.cmd.k, .slice a0 n0 c0, .slice a1 n1 c1, .int .i64 r.cmd.uid, .int .i64 r.cmd.mode, .int .i64 r.cmd.fl, .int .i64 r.cmd.si, .slice a2 n2 c2, .int .i64 r.acc.valid, .slice a3 r.acc.boxes.length c3, .slice a4 r.acc.seen.length c4] 30))
  have X := Below.step (Below.step (Below.refl _ _) (ab _)) B
  have s1 : w.heap.size + 1 ≤ w1.heap.size := by have := B.size; simp at this; omega
  clear B ab
  rcases hx with rfl | ⟨hx0, hx1⟩
  · clear kA
    go_wp2
    go_ret
    exact ⟨rfl, X⟩
  have z0 : r.cmd.bx.length ≤ 1048576 := by omega
  have z1 : r.cmd.tt.length ≤ 1048576 := by omega
  have z2 : r.cmd.tx.length ≤ 1048576 := by omega
  have z3 : szXs r.acc.boxes ≤ 1048576 := by omega
  have z4 : r.acc.seen.length ≤ 1048576 := by omega
  clear hx1
  obtain ⟨fA0, fA1, fA2, fA3, fA4, fA5, fA6, fA7, fA8, fA9, fA10, fA11, fA12, fA13, lA⟩ := box14l kA
  go_wp2_with fail
  refine (toRecord_r _ r _ (HV.out _ X) (by omega) (by omega) (by omega) (by omega) (by omega)).mono ?_
  rintro e w2 ⟨u1, rfl, R1, B⟩
  clear fA0 fA1 fA2 fA3 fA4 fA5 fA6 fA7 fA8 fA9 fA10 fA11 fA12 fA13 lA
  replace kA := box_below B kA
  replace X := Below.step X B
  have s2 : w1.heap.size ≤ w2.heap.size := B.size
  clear B
  obtain ⟨fA0, fA1, fA2, fA3, fA4, fA5, fA6, fA7, fA8, fA9, fA10, fA11, fA12, fA13, lA⟩ := box14l kA
  go_wp2_with fail
  refine (specRecordOk_any _ r _ R1.v).mono ?_
  rintro e w3 ⟨rfl, B⟩
  clear fA0 fA1 fA2 fA3 fA4 fA5 fA6 fA7 fA8 fA9 fA10 fA11 fA12 fA13 lA
  replace R1 := R1.below B
  replace kA := box_below B kA
  replace X := Below.step X B
  have s3 : w2.heap.size ≤ w3.heap.size := B.size
  clear B
  clear R1
  obtain ⟨fA0, fA1, fA2, fA3, fA4, fA5, fA6, fA7, fA8, fA9, fA10, fA11, fA12, fA13, lA⟩ := box14l kA
  go_wp2_with fail
  refine (toRecord_r _ r _ (HV.out _ X) (by omega) (by omega) (by omega) (by omega) (by omega)).mono ?_
  rintro e w4 ⟨u2, rfl, R2, B⟩
  clear fA0 fA1 fA2 fA3 fA4 fA5 fA6 fA7 fA8 fA9 fA10 fA11 fA12 fA13 lA
  replace kA := box_below B kA
  replace X := Below.step X B
  have s4 : w3.heap.size ≤ w4.heap.size := B.size
  clear B
  obtain ⟨b0, m0, d0, b1, m1, d1, b2, m2, d2, b3, d3, b4, d4, rfl⟩ := R2.v.form
  have ab : ∀ o, Below w4.heap.size w4 (w4.alloc o) := fun o => (Below.refl _ _).alloc (Nat.le_refl _) o
  obtain ⟨fA0, fA1, fA2, fA3, fA4, fA5, fA6, fA7, fA8, fA9, fA10, fA11, fA12, fA13, lA⟩ := box14l kA
  go_wp2_with fail
  refine (implRecordOk_any _ r _ (R2.below (ab _)).v).mono ?_
  rintro e w5 ⟨rfl, B⟩
  clear fA0 fA1 fA2 fA3 fA4 fA5 fA6 fA7 fA8 fA9 fA10 fA11 fA12 fA13 lA
  replace R2 := (R2.below (ab _)).below B
  replace kA := box_below B (box_alloc kA _)
  have kx := box_below B (box_new w4 (.cells #[.int .i64 r.kind, .int .i64 r.user, .int .i64 r.n, .int .i64 r.cmd.k, .slice b0 m0 d0, .slice b1 m1 d1, .int .i64 r.cmd.uid, .int .i64 r.cmd.mode, .int .i64 r.cmd.fl, .int .i64 r.cmd.si, .slice b2 m2 d2, .int .i64 r.acc.valid, .slice b3 r.acc.boxes.length d3, .slice b4 r.acc.seen.length d4] 38))
  replace X := Below.step (Below.step X (ab _)) B
  have s5 : w4.heap.size + 1 ≤ w5.heap.size := by have := B.size; simp at this; omega
  clear B ab
  have HS : Hid (∀ w', Below w5.heap.size w5 w' → w'.cell? ⟨w4.heap.size, 0, none⟩ = some (.int .i64 r.kind) ∧ w'.cell? ⟨w4.heap.size, 1, none⟩ = some (.int .i64 r.user) ∧ w'.cell? ⟨w4.heap.size, 2, none⟩ = some (.int .i64 r.n) ∧ w'.cell? ⟨w4.heap.size, 3, none⟩ = some (.int .i64 r.cmd.k) ∧ w'.cell? ⟨w4.heap.size, 4, none⟩ = some (.slice b0 m0 d0) ∧ w'.cell? ⟨w4.heap.size, 5, none⟩ = some (.slice b1 m1 d1) ∧ w'.cell? ⟨w4.heap.size, 6, none⟩ = some (.int .i64 r.cmd.uid) ∧ w'.cell? ⟨w4.heap.size, 7, none⟩ = some (.int .i64 r.cmd.mode) ∧ w'.cell? ⟨w4.heap.size, 8, none⟩ = some (.int .i64 r.cmd.fl) ∧ w'.cell? ⟨w4.heap.size, 9, none⟩ = some (.int .i64 r.cmd.si) ∧ w'.cell? ⟨w4.heap.size, 10, none⟩ = some (.slice b2 m2 d2) ∧ w'.cell? ⟨w4.heap.size, 11, none⟩ = some (.int .i64 r.acc.valid) ∧ w'.cell? ⟨w4.heap.size, 12, none⟩ = some (.slice b3 r.acc.boxes.length d3) ∧ w'.cell? ⟨w4.heap.size, 13, none⟩ = some (.slice b4 r.acc.seen.length d4) ∧ w'.cell? ⟨w.heap.size, 0, none⟩ = some (.int .i64 r.kind) ∧ w'.cell? ⟨w.heap.size, 1, none⟩ = some (.int .i64 r.user) ∧ w'.cell? ⟨w.heap.size, 2, none⟩ = some (.int .i64 r.n) ∧ w'.cell? ⟨w.heap.size, 3, none⟩ = some (.int .i64 r.cmd.k) ∧ w'.cell? ⟨w.heap.size, 4, none⟩ = some (.slice a0 n0 c0) ∧ w'.cell? ⟨w.heap.size, 5, none⟩ = some (.slice a1 n1 c1) ∧ w'.cell? ⟨w.heap.size, 6, none⟩ = some (.int .i64 r.cmd.uid) ∧ w'.cell? ⟨w.heap.size, 7, none⟩ = some (.int .i64 r.cmd.mode) ∧ w'.cell? ⟨w.heap.size, 8, none⟩ = some (.int .i64 r.cmd.fl) ∧ w'.cell? ⟨w.heap.size, 9, none⟩ = some (.int .i64 r.cmd.si) ∧ w'.cell? ⟨w.heap.size, 10, none⟩ = some (.slice a2 n2 c2) ∧ w'.cell? ⟨w.heap.size, 11, none⟩ = some (.int .i64 r.acc.valid) ∧ w'.cell? ⟨w.heap.size, 12, none⟩ = some (.slice a3 r.acc.boxes.length c3) ∧ w'.cell? ⟨w.heap.size, 13, none⟩ = some (.slice a4 r.acc.seen.length c4)) := fun w' h => ⟨(box14l (box_below h kx)).1, (box14l (box_below h kx)).2.1, (box14l (box_below h kx)).2.2.1, (box14l (box_below h kx)).2.2.2.1, (box14l (box_below h kx)).2.2.2.2.1, (box14l (box_below h kx)).2.2.2.2.2.1, (box14l (box_below h kx)).2.2.2.2.2.2.1, (box14l (box_below h kx)).2.2.2.2.2.2.2.1, (box14l (box_below h kx)).2.2.2.2.2.2.2.2.1, (box14l (box_below h kx)).2.2.2.2.2.2.2.2.2.1, (box14l (box_below h kx)).2.2.2.2.2.2.2.2.2.2.1, (box14l (box_below h kx)).2.2.2.2.2.2.2.2.2.2.2.1, (box14l (box_below h kx)).2.2.2.2.2.2.2.2.2.2.2.2.1, (box14l (box_below h kx)).2.2.2.2.2.2.2.2.2.2.2.2.2.1, (box14l (box_below h kA)).1, (box14l (box_below h kA)).2.1, (box14l (box_below h kA)).2.2.1, (box14l (box_below h kA)).2.2.2.1, (box14l (box_below h kA)).2.2.2.2.1, (box14l (box_below h kA)).2.2.2.2.2.1, (box14l (box_below h kA)).2.2.2.2.2.2.1, (box14l (box_below h kA)).2.2.2.2.2.2.2.1, (box14l (box_below h kA)).2.2.2.2.2.2.2.2.1, (box14l (box_below h kA)).2.2.2.2.2.2.2.2.2.1, (box14l (box_below h kA)).2.2.2.2.2.2.2.2.2.2.1, (box14l (box_below h kA)).2.2.2.2.2.2.2.2.2.2.2.1, (box14l (box_below h kA)).2.2.2.2.2.2.2.2.2.2.2.2.1, (box14l (box_below h kA)).2.2.2.2.2.2.2.2.2.2.2.2.2.1⟩
  have DR : Below w5.heap.size w5 w5.drew := (Below.refl _ _).drew
  obtain ⟨fA0, fA1, fA2, fA3, fA4, fA5, fA6, fA7, fA8, fA9, fA10, fA11, fA12, fA13, lA⟩ := box14l kA
  obtain ⟨fx0, fx1, fx2, fx3, fx4, fx5, fx6, fx7, fx8, fx9, fx10, fx11, fx12, fx13, lx⟩ := box14l kx
  go_wp2
  go_region_held3 (fun w' => w'.cell? ⟨w4.heap.size, 0, none⟩ = some (.int .i64 r.kind) ∧ w'.cell? ⟨w4.heap.size, 1, none⟩ = some (.int .i64 r.user) ∧ w'.cell? ⟨w4.heap.size, 2, none⟩ = some (.int .i64 r.n) ∧ w'.cell? ⟨w4.heap.size, 3, none⟩ = some (.int .i64 r.cmd.k) ∧ w'.cell? ⟨w4.heap.size, 4, none⟩ = some (.slice b0 m0 d0) ∧ w'.cell? ⟨w4.heap.size, 5, none⟩ = some (.slice b1 m1 d1) ∧ w'.cell? ⟨w4.heap.size, 6, none⟩ = some (.int .i64 r.cmd.uid) ∧ w'.cell? ⟨w4.heap.size, 7, none⟩ = some (.int .i64 r.cmd.mode) ∧ w'.cell? ⟨w4.heap.size, 8, none⟩ = some (.int .i64 r.cmd.fl) ∧ w'.cell? ⟨w4.heap.size, 9, none⟩ = some (.int .i64 r.cmd.si) ∧ w'.cell? ⟨w4.heap.size, 10, none⟩ = some (.slice b2 m2 d2) ∧ w'.cell? ⟨w4.heap.size, 11, none⟩ = some (.int .i64 r.acc.valid) ∧ w'.cell? ⟨w4.heap.size, 12, none⟩ = some (.slice b3 r.acc.boxes.length d3) ∧ w'.cell? ⟨w4.heap.size, 13, none⟩ = some (.slice b4 r.acc.seen.length d4) ∧ w'.cell? ⟨w.heap.size, 0, none⟩ = some (.int .i64 r.kind) ∧ w'.cell? ⟨w.heap.size, 1, none⟩ = some (.int .i64 r.user) ∧ w'.cell? ⟨w.heap.size, 2, none⟩ = some (.int .i64 r.n) ∧ w'.cell? ⟨w.heap.size, 3, none⟩ = some (.int .i64 r.cmd.k) ∧ w'.cell? ⟨w.heap.size, 4, none⟩ = some (.slice a0 n0 c0) ∧ w'.cell? ⟨w.heap.size, 5, none⟩ = some (.slice a1 n1 c1) ∧ w'.cell? ⟨w.heap.size, 6, none⟩ = some (.int .i64 r.cmd.uid) ∧ w'.cell? ⟨w.heap.size, 7, none⟩ = some (.int .i64 r.cmd.mode) ∧ w'.cell? ⟨w.heap.size, 8, none⟩ = some (.int .i64 r.cmd.fl) ∧ w'.cell? ⟨w.heap.size, 9, none⟩ = some (.int .i64 r.cmd.si) ∧ w'.cell? ⟨w.heap.size, 10, none⟩ = some (.slice a2 n2 c2) ∧ w'.cell? ⟨w.heap.size, 11, none⟩ = some (.int .i64 r.acc.valid) ∧ w'.cell? ⟨w.heap.size, 12, none⟩ = some (.slice a3 r.acc.boxes.length c3) ∧ w'.cell? ⟨w.heap.size, 13, none⟩ = some (.slice a4 r.acc.seen.length c4))
    (first | go_keep | exact HS.out _ (Below.step (Below.step DR B) B') | exact HS.out _ (Below.step DR B))
    ((first | (go_at_call 6; refine (toRecord_r _ r _ (HV.out _ (Below.step X DR)) (by omega) (by omega) (by omega) (by omega) (by omega)).mono ?_; rintro e w6 ⟨u3, rfl, R3, B⟩) | (go_at_call 8; refine (eqRecord_yes _ _ r _ ((R2.below DR).below B).v R3.v).mono ?_; rintro e w7 ⟨rfl, B'⟩)))
  clear fA0 fA1 fA2 fA3 fA4 fA5 fA6 fA7 fA8 fA9 fA10 fA11 fA12 fA13 lA fx0 fx1 fx2 fx3 fx4 fx5 fx6 fx7 fx8 fx9 fx10 fx11 fx12 fx13 lx
  replace R2 := ((R2.below DR).below B).below B'
  replace kA := box_below B' (box_below B (box_below DR kA))
  replace kx := box_below B' (box_below B (box_below DR kx))
  replace X := Below.step (Below.step (Below.step X DR) B) B'
  have s7 : w5.heap.size ≤ w7.heap.size := Nat.le_trans B.size B'.size
  clear HS DR B B' R3
  clear R2 kA kx
  go_wp2
  go_ret
  exact ⟨rfl, X⟩

end Go.Proofs.Ytkdejfcdmjkndaa

/- From what a row reads of an argument to what the walks ask: a slice of bytes that came in. -/
namespace Go.Proofs.Ytkdejfcdmjkndaa
open Go.ChangeShapes Go.WideShapes Go.ChangeAt Go.RowKit

theorem ownKnob_none : ownKnob Try.prog.godebug = none := by kernel_rfl
theorem laidOut : laidOutB Try.prog = true := by kernel_rfl

theorem wf_byte {n : Int} (h : (Lit.int .u8 n).wf = true) : 0 ≤ n ∧ n ≤ 255 := bounds_u8 h
theorem wf_int {n : Int} (h : (Lit.int .i64 n).wf = true) : -9223372036854775808 ≤ n ∧ n ≤ 9223372036854775807 := bounds_i64 h

/-- A slice of bytes that came in, as the walks want it. -/
theorem open_bytes {H : Type} {enc : TypeId × Value → H} {W : World} {base : Nat} {a : Option Addr} {len cap : Nat} {d : DataW H} {p : List MemPlace}
    (h : DataW.Trod enc Try.prog W base (fun _ => true) true 22 (.slice a len cap) d p) : ∃ l, Bs W (.slice a len cap) l := by
  obtain ⟨fuel, hf⟩ := h
  rcases open_ints Try.underlying22 Try.underlying5 (by kernel_rfl) hf with ⟨hcs, _⟩ | ⟨x, l, c, zs, hcs, _, hl, hm, hz, _, hcell, hwz⟩
  · simp [Value.cells] at hcs
    obtain ⟨rfl, rfl, rfl⟩ := hcs
    exact ⟨[], oct_nil, none, 0, rfl, by simp, by simp, fun _ => rfl, fun h => absurd h (by simp)⟩
  · simp [Value.cells] at hcs
    obtain ⟨rfl, rfl, rfl⟩ := hcs
    simp at hz
    have ht : (zs.take len).length = len := by simp; omega
    refine ⟨zs.take len, fun x hx => wf_byte (hwz x (List.mem_of_mem_take hx)), some x, cap, by rw [ht], by omega, hm, (fun h => by cases h), fun hp => ?_⟩
    rw [ht] at hp
    obtain ⟨b, off, spot⟩ := x
    have h0 := hcell 0 (by omega)
    have hspot : spot = none := by simpa [Addr.add] using World.cell?_spot h0
    subst hspot
    refine ⟨b, off, rfl, ?_, fun i hi => ?_⟩
    · have := World.block_lt_of_cell? W _ h0
      simpa [Addr.add] using this
    · rw [ht] at hi
      have := hcell i (by omega)
      rw [Addr.add_lit] at this
      rw [this]
      simp [hi]

end Go.Proofs.Ytkdejfcdmjkndaa

/- A struct's fields laid open. -/
namespace Go.Proofs.Ytkdejfcdmjkndaa
open Go.ChangeShapes Go.WideShapes Go.ChangeAt Go.RowKit

/-- One field of a struct that is read; it takes one cell. -/
theorem open_field {H : Type} {enc : TypeId × Value → H} {P : Program} {W : World} {base fuel : Nat} {spare : Nat → Bool} {held : Bool} {t : TypeId} {fs : Array Field} {cs : List Value} {x : DataW H × List MemPlace}
    (ht : P.underlying t = some (.struct fs)) (h : DataW.trod enc P W base spare held fuel t cs = some x) (i : Nat) (ty : TypeId) (off : Nat) (c : Value) (hf : fs[i]?.map (fun f => (f.type, f.offset)) = some (ty, off)) (h1 : P.cellsOf ty = 1) (hc : (cs.drop off).take 1 = [c]) :
    ∃ n y, DataW.trod enc P W base spare held n ty [c] = some y := by
  obtain ⟨f, hf0, hf1⟩ := Option.map_eq_some_iff.1 hf
  simp only [Prod.mk.injEq] at hf1
  obtain ⟨rfl, rfl⟩ := hf1
  obtain ⟨xs, n, _, rfl, hl, hlen, hf'⟩ := DataW.trod_struct ht h
  have := hf' i f (by simpa using hf0)
  rw [h1, hc] at this
  have hi : i < xs.length := by rw [hlen]; exact (Array.getElem?_eq_some_iff.1 hf0).1
  exact ⟨n, xs[i], by rw [this, List.getElem?_eq_getElem hi]⟩

/-- One cell that is read as a slice of bytes. -/
theorem open_cellB {H : Type} {enc : TypeId × Value → H} {W : World} {base fuel : Nat} {c : Value} {y : DataW H × List MemPlace}
    (h : DataW.trod enc Try.prog W base (fun _ => true) true fuel 22 [c] = some y) : ∃ l, Bs W c l := by
  have h' := h
  rcases open_ints Try.underlying22 Try.underlying5 (by kernel_rfl) h with ⟨hcs, _⟩ | ⟨x, l, c', zs, hcs, _⟩
  · obtain rfl : c = .slice none 0 0 := by simpa using hcs
    exact open_bytes (d := y.1) (p := y.2) ⟨fuel, by simpa [Value.cells] using h'⟩
  · obtain rfl : c = .slice (some x) l c' := by simpa using hcs
    exact open_bytes (d := y.1) (p := y.2) ⟨fuel, by simpa [Value.cells] using h'⟩
/-- One cell that is read as a number. -/
theorem open_cellI {H : Type} {enc : TypeId × Value → H} {W : World} {base fuel : Nat} {c : Value} {y : DataW H × List MemPlace}
    (h : DataW.trod enc Try.prog W base (fun _ => true) true fuel 3 [c] = some y) : ∃ n, c = .int .i64 n ∧ I64 n := by
  obtain ⟨n, hc, -, hw⟩ := DataW.trod_int Try.underlying3 h
  exact ⟨n, by simpa using hc, wf_int hw⟩

theorem cellsB : Try.prog.cellsOf 22 = 1 := by kernel_rfl
theorem cellsI : Try.prog.cellsOf 3 = 1 := by kernel_rfl

end Go.Proofs.Ytkdejfcdmjkndaa

/- From what a row reads of an argument to what the walks ask: boxes and accounts that came in. -/
namespace Go.Proofs.Ytkdejfcdmjkndaa
open Go.ChangeShapes Go.WideShapes Go.ChangeAt Go.RowKit Go.Deep

theorem list_of {α : Type} {p : Nat → α → Prop} : ∀ (n : Nat), (∀ i, i < n → ∃ x, p i x) → ∃ l : List α, l.length = n ∧ ∀ i x, l[i]? = some x → p i x
  | 0, _ => ⟨[], rfl, by simp⟩
  | n + 1, h => by
    obtain ⟨l, hl, hp⟩ := list_of n (fun i hi => h i (by omega))
    obtain ⟨x, hx⟩ := h n (by omega)
    refine ⟨l ++ [x], by simp [hl], fun i y hy => ?_⟩
    by_cases hi : i < n
    · rw [List.getElem?_append_left (by omega)] at hy
      exact hp i y hy
    · have hlt : i < (l ++ [x]).length := (List.getElem?_eq_some_iff.1 hy).1
      simp at hlt
      obtain rfl : i = n := by omega
      rw [List.getElem?_append_right (by omega)] at hy
      simp [hl] at hy
      subst hy
      exact hx

/-- One cell that is read as a slice of structs. -/
theorem open_rd {α : Type} {E : World → List Value → α → Prop} {H : Type} {enc : TypeId × Value → H} {W : World} {base fuel sz : Nat} {t e : TypeId} {c : Value} {y : DataW H × List MemPlace} (h0 : 0 < sz)
    (ht : Try.prog.underlying t = some (.slice e)) (hc : Try.prog.cellsOf e = sz) (hE : ∀ n cs' y, cs'.length = sz → DataW.trod enc Try.prog W base (fun _ => true) true n e cs' = some y → ∃ x, E W cs' x)
    (h : DataW.trod enc Try.prog W base (fun _ => true) true fuel t [c] = some y) : ∃ l, Rd sz E W c l := by
  rcases open_slice ht h with ⟨hcs, -⟩ | ⟨a, len, cap, m, n, D, Pl, hcs, hb, hl, hm, hmm, -, hel⟩
  · obtain rfl : c = .slice none 0 0 := by simpa using hcs
    exact ⟨[], Rd.nil W⟩
  · obtain rfl : c = .slice (some a) len cap := by simpa using hcs
    simp only [if_true] at hmm
    subst hmm
    rw [hc] at hel
    have key : ∀ i, i < len → ∃ p : List Value × α, W.cells? base (a.add (i * sz)) sz = some p.1 ∧ p.1.length = sz ∧ E W p.1 p.2 := by
      intro i hi
      obtain ⟨cs', h1, h2⟩ := hel i (by omega)
      have hlen := (World.cells?_some h1).2.1
      obtain ⟨x, hx⟩ := hE n cs' _ hlen h2
      exact ⟨(cs', x), h1, hlen, hx⟩
    obtain ⟨ps, hpl, hps⟩ := list_of len key
    refine ⟨ps.map (·.2), some a, m, fun i => ((ps[i]?.map (·.1)).getD []), by simp [hpl], by simp [hpl]; omega, hm, (fun h => by cases h), fun i x hx => ?_, fun hp => ?_⟩
    · rw [List.getElem?_map, Option.map_eq_some_iff] at hx
      obtain ⟨p, hp, rfl⟩ := hx
      obtain ⟨-, q1, q2⟩ := hps i p hp
      simp only [hp, Option.map_some, Option.getD_some]
      exact ⟨q2, q1⟩
    · simp [hpl] at hp
      obtain ⟨b, off, spot⟩ := a
      obtain ⟨p0, hp0⟩ : ∃ p, ps[0]? = some p := ⟨ps[0]'(by omega), List.getElem?_eq_getElem (by omega)⟩
      obtain ⟨k1, k2, -⟩ := hps 0 p0 hp0
      have cell : ∀ i p, ps[i]? = some p → ∀ j u, p.1[j]? = some u → W.cell? (((⟨b, off, spot⟩ : Addr).add (i * sz)).add j) = some u := by
        intro i p hi j u hu
        obtain ⟨k1, k2, -⟩ := hps i p hi
        have hj : j < sz := by have := (List.getElem?_eq_some_iff.1 hu).1; omega
        rw [(World.cells?_some k1).2.2 j hj, hu]
      have c0 := cell 0 p0 hp0 0 (p0.1[0]'(by omega)) (List.getElem?_eq_getElem (by omega))
      have hspot : spot = none := by simpa [Addr.add] using World.cell?_spot c0
      subst hspot
      refine ⟨b, off, rfl, ?_, fun i j u hi hu => ?_⟩
      · have := World.block_lt_of_cell? W _ c0
        simpa [Addr.add] using this
      · obtain ⟨p, hpi⟩ : ∃ p, ps[i]? = some p := ⟨ps[i]'(by simp at hi; omega), List.getElem?_eq_getElem (by simp at hi; omega)⟩
        simp only [hpi, Option.map_some, Option.getD_some] at hu
        have := cell i p hpi j u hu
        simpa [Addr.add_lit, Nat.add_assoc] using this

/-- One cell that is read as a slice of numbers, of mails, of what went, of boxes. -/
theorem open_ints' {H : Type} {enc : TypeId × Value → H} {W : World} {base fuel : Nat} {c : Value} {y : DataW H × List MemPlace}
    (h : DataW.trod enc Try.prog W base (fun _ => true) true fuel 26 [c] = some y) : ∃ l, IntsV W c l := by
  refine open_rd (by omega) Try.underlying26 cellsI (fun n cs' y hl ht => ?_) h
  match cs', hl with
  | [c0], _ =>
    obtain ⟨k, rfl, i0⟩ := open_cellI ht
    exact ⟨k, rfl, i0⟩
theorem open_mails {H : Type} {enc : TypeId × Value → H} {W : World} {base fuel : Nat} {c : Value} {y : DataW H × List MemPlace}
    (h : DataW.trod enc Try.prog W base (fun _ => true) true fuel 74 [c] = some y) : ∃ l, MailsV W c l := by
  refine open_rd (by omega) Try.underlying74 (by kernel_rfl) (fun n cs' y hl hf => ?_) h
  match cs', hl with
  | [c0, c1, c2, c3], _ =>
    have u := Try.underlying103
    obtain ⟨_, _, h0⟩ := open_field u hf 0 3 0 c0 rfl cellsI rfl
    obtain ⟨_, _, h1⟩ := open_field u hf 1 3 1 c1 rfl cellsI rfl
    obtain ⟨_, _, h2⟩ := open_field u hf 2 3 2 c2 rfl cellsI rfl
    obtain ⟨_, _, h3⟩ := open_field u hf 3 22 3 c3 rfl cellsB rfl
    obtain ⟨uid, rfl, i0⟩ := open_cellI h0
    obtain ⟨flags, rfl, i1⟩ := open_cellI h1
    obtain ⟨seq, rfl, i2⟩ := open_cellI h2
    obtain ⟨text, b3⟩ := open_cellB h3
    exact ⟨⟨uid, flags, seq, text⟩, c3, rfl, b3, i0, i1, i2⟩
theorem open_gones {H : Type} {enc : TypeId × Value → H} {W : World} {base fuel : Nat} {c : Value} {y : DataW H × List MemPlace}
    (h : DataW.trod enc Try.prog W base (fun _ => true) true fuel 75 [c] = some y) : ∃ l, GonesV W c l := by
  refine open_rd (by omega) Try.underlying75 (by kernel_rfl) (fun n cs' y hl hf => ?_) h
  match cs', hl with
  | [c0, c1], _ =>
    have u := Try.underlying106
    obtain ⟨_, _, h0⟩ := open_field u hf 0 3 0 c0 rfl cellsI rfl
    obtain ⟨_, _, h1⟩ := open_field u hf 1 3 1 c1 rfl cellsI rfl
    obtain ⟨uid, rfl, i0⟩ := open_cellI h0
    obtain ⟨seq, rfl, i1⟩ := open_cellI h1
    exact ⟨⟨uid, seq⟩, rfl, i0, i1⟩
theorem cellsMs : Try.prog.cellsOf 74 = 1 := by kernel_rfl
theorem cellsGs : Try.prog.cellsOf 75 = 1 := by kernel_rfl
theorem cellsXs : Try.prog.cellsOf 25 = 1 := by kernel_rfl
theorem cellsIs : Try.prog.cellsOf 26 = 1 := by kernel_rfl
theorem open_boxCells {H : Type} {enc : TypeId × Value → H} {W : World} {base n : Nat} {cs' : List Value} {y : DataW H × List MemPlace} (hl : cs'.length = 7)
    (hf : DataW.trod enc Try.prog W base (fun _ => true) true n 77 cs' = some y) : ∃ x, BoxRE W cs' x := by
  match cs', hl with
  | [c0, c1, c2, c3, c4, c5, c6], _ =>
    have u := Try.underlying77
    obtain ⟨_, _, h0⟩ := open_field u hf 0 22 0 c0 rfl cellsB rfl
    obtain ⟨_, _, h1⟩ := open_field u hf 1 3 1 c1 rfl cellsI rfl
    obtain ⟨_, _, h2⟩ := open_field u hf 2 3 2 c2 rfl cellsI rfl
    obtain ⟨_, _, h3⟩ := open_field u hf 3 3 3 c3 rfl cellsI rfl
    obtain ⟨_, _, h4⟩ := open_field u hf 4 74 4 c4 rfl cellsMs rfl
    obtain ⟨_, _, h5⟩ := open_field u hf 5 75 5 c5 rfl cellsGs rfl
    obtain ⟨_, _, h6⟩ := open_field u hf 6 3 6 c6 rfl cellsI rfl
    obtain ⟨name, b0⟩ := open_cellB h0
    obtain ⟨valid, rfl, i1⟩ := open_cellI h1
    obtain ⟨next, rfl, i2⟩ := open_cellI h2
    obtain ⟨seq, rfl, i3⟩ := open_cellI h3
    obtain ⟨mails, b4⟩ := open_mails h4
    obtain ⟨gones, b5⟩ := open_gones h5
    obtain ⟨lost, rfl, i6⟩ := open_cellI h6
    exact ⟨⟨name, valid, next, seq, mails, gones, lost⟩, c0, c4, c5, rfl, b0, b4, b5, i1, i2, i3, i6⟩
/-- A box, an account that came in, as the walks want it. -/
theorem open_box {H : Type} {enc : TypeId × Value → H} {W : World} {base : Nat} {cs : Array Value} {d : DataW H} {p : List MemPlace} (hs : cs.size = 7)
    (h : DataW.Trod enc Try.prog W base (fun _ => true) true 77 (.agg cs) d p) : ∃ x, BoxV W (.agg cs) x := by
  obtain ⟨fuel, hf⟩ := h
  obtain ⟨cs⟩ := cs
  obtain ⟨x, u0, u1, u2, e, r⟩ := open_boxCells (cs' := cs) (by simpa using hs) hf
  subst e
  exact ⟨x, u0, u1, u2, rfl, r⟩
theorem open_account {H : Type} {enc : TypeId × Value → H} {W : World} {base : Nat} {cs : Array Value} {d : DataW H} {p : List MemPlace} (hs : cs.size = 3)
    (h : DataW.Trod enc Try.prog W base (fun _ => true) true 28 (.agg cs) d p) : ∃ x, AccV W (.agg cs) x := by
  obtain ⟨fuel, hf⟩ := h
  obtain ⟨cs⟩ := cs
  match cs, hs with
  | [c0, c1, c2], _ =>
    have u := Try.underlying28
    obtain ⟨_, _, h0⟩ := open_field u hf 0 3 0 c0 rfl cellsI rfl
    obtain ⟨_, _, h1⟩ := open_field u hf 1 25 1 c1 rfl cellsXs rfl
    obtain ⟨_, _, h2⟩ := open_field u hf 2 26 2 c2 rfl cellsIs rfl
    obtain ⟨valid, rfl, i0⟩ := open_cellI h0
    obtain ⟨boxes, b1⟩ := open_rd (by omega) Try.underlying25 (by kernel_rfl) (fun n cs' y hl hf => open_boxCells hl hf) h1
    obtain ⟨seen, b2⟩ := open_ints' h2
    exact ⟨⟨valid, boxes, seen⟩, c1, c2, rfl, b1, b2, i0⟩

end Go.Proofs.Ytkdejfcdmjkndaa

/- From what a row reads of an argument to what the walks ask: a command that came in. -/
namespace Go.Proofs.Ytkdejfcdmjkndaa
open Go.ChangeShapes Go.WideShapes Go.ChangeAt Go.RowKit

/-- A command that came in, as the walks want it. -/
theorem open_cmd {H : Type} {enc : TypeId × Value → H} {W : World} {base : Nat} {cs : Array Value} {d : DataW H} {p : List MemPlace} (hs : cs.size = 8)
    (h : DataW.Trod enc Try.prog W base (fun _ => true) true 24 (.agg cs) d p) : ∃ k bx tt uid mode fl si tx, CmdV W (.agg cs) k bx tt uid mode fl si tx := by
  obtain ⟨fuel, hf⟩ := h
  obtain ⟨cs⟩ := cs
  match cs, hs with
  | [c0, c1, c2, c3, c4, c5, c6, c7], _ =>
    have u := Try.underlying24
    obtain ⟨_, _, h0⟩ := open_field u hf 0 3 0 c0 rfl cellsI rfl
    obtain ⟨_, _, h1⟩ := open_field u hf 1 22 1 c1 rfl cellsB rfl
    obtain ⟨_, _, h2⟩ := open_field u hf 2 22 2 c2 rfl cellsB rfl
    obtain ⟨_, _, h3⟩ := open_field u hf 3 3 3 c3 rfl cellsI rfl
    obtain ⟨_, _, h4⟩ := open_field u hf 4 3 4 c4 rfl cellsI rfl
    obtain ⟨_, _, h5⟩ := open_field u hf 5 3 5 c5 rfl cellsI rfl
    obtain ⟨_, _, h6⟩ := open_field u hf 6 3 6 c6 rfl cellsI rfl
    obtain ⟨_, _, h7⟩ := open_field u hf 7 22 7 c7 rfl cellsB rfl
    obtain ⟨k, rfl, i0⟩ := open_cellI h0
    obtain ⟨bx, b1⟩ := open_cellB h1
    obtain ⟨tt, b2⟩ := open_cellB h2
    obtain ⟨uid, rfl, i3⟩ := open_cellI h3
    obtain ⟨mode, rfl, i4⟩ := open_cellI h4
    obtain ⟨fl, rfl, i5⟩ := open_cellI h5
    obtain ⟨si, rfl, i6⟩ := open_cellI h6
    obtain ⟨tx, b7⟩ := open_cellB h7
    exact ⟨k, bx, tt, uid, mode, fl, si, tx, c1, c2, c7, rfl, b1, b2, b7, i0, i3, i4, i5, i6⟩

end Go.Proofs.Ytkdejfcdmjkndaa

/- From what a row reads of an argument to what the walks ask: a record that came in. -/
namespace Go.Proofs.Ytkdejfcdmjkndaa
open Go.ChangeShapes Go.WideShapes Go.ChangeAt Go.RowKit

/-- A field of a struct that takes several cells. -/
theorem open_part {H : Type} {enc : TypeId × Value → H} {P : Program} {W : World} {base fuel : Nat} {spare : Nat → Bool} {held : Bool} {t : TypeId} {fs : Array Field} {cs : List Value} {x : DataW H × List MemPlace}
    (ht : P.underlying t = some (.struct fs)) (h : DataW.trod enc P W base spare held fuel t cs = some x) (i : Nat) (ty : TypeId) (off n : Nat) (c : List Value) (hf : fs[i]?.map (fun f => (f.type, f.offset)) = some (ty, off)) (h1 : P.cellsOf ty = n) (hc : (cs.drop off).take n = c) :
    ∃ n y, DataW.trod enc P W base spare held n ty c = some y := by
  obtain ⟨f, hf0, hf1⟩ := Option.map_eq_some_iff.1 hf
  simp only [Prod.mk.injEq] at hf1
  obtain ⟨rfl, rfl⟩ := hf1
  obtain ⟨xs, m, _, rfl, hl, hlen, hf'⟩ := DataW.trod_struct ht h
  have := hf' i f (by simpa using hf0)
  rw [h1, hc] at this
  have hi : i < xs.length := by rw [hlen]; exact (Array.getElem?_eq_some_iff.1 hf0).1
  exact ⟨m, xs[i], by rw [this, List.getElem?_eq_getElem hi]⟩

theorem open_recCells {H : Type} {enc : TypeId × Value → H} {W : World} {base n : Nat} {cs' : List Value} {y : DataW H × List MemPlace} (hl : cs'.length = 14)
    (hf : DataW.trod enc Try.prog W base (fun _ => true) true n 30 cs' = some y) : ∃ r, RecV W (.agg cs'.toArray) r := by
  match cs', hl with
  | [p0, p1, p2, p3, p4, p5, p6, p7, p8, p9, p10, p11, p12, p13], _ =>
    have u := Try.underlying30
    obtain ⟨_, _, h0⟩ := open_field u hf 0 3 0 p0 rfl cellsI rfl
    obtain ⟨_, _, h1⟩ := open_field u hf 1 3 1 p1 rfl cellsI rfl
    obtain ⟨_, _, h2⟩ := open_field u hf 2 3 2 p2 rfl cellsI rfl
    obtain ⟨_, _, h3⟩ := open_part u hf 3 24 3 8 [p3, p4, p5, p6, p7, p8, p9, p10] rfl (by kernel_rfl) rfl
    obtain ⟨_, _, h4⟩ := open_part u hf 4 28 11 3 [p11, p12, p13] rfl (by kernel_rfl) rfl
    obtain ⟨kind, rfl, i0⟩ := open_cellI h0
    obtain ⟨user, rfl, i1⟩ := open_cellI h1
    obtain ⟨nn, rfl, i2⟩ := open_cellI h2
    obtain ⟨k, bx, tt, uid, mode, fl, si, tx, hc⟩ := open_cmd (cs := #[p3, p4, p5, p6, p7, p8, p9, p10]) (d := _) (p := _) rfl ⟨_, h3⟩
    obtain ⟨a, ha⟩ := open_account (cs := #[p11, p12, p13]) (d := _) (p := _) rfl ⟨_, h4⟩
    have hc' := hc
    have ha' := ha
    obtain ⟨u0, u1, u2, e, -⟩ := hc
    obtain ⟨u3, u4, e', -⟩ := ha
    simp only [Value.agg.injEq, Array.mk.injEq, List.cons.injEq, and_true] at e e'
    obtain ⟨rfl, rfl, rfl, rfl, rfl, rfl, rfl, rfl⟩ := e
    obtain ⟨rfl, rfl, rfl⟩ := e'
    exact ⟨⟨kind, user, nn, ⟨k, bx, tt, uid, mode, fl, si, tx⟩, a⟩, _, _, _, _, _, rfl, hc', ha', i0, i1, i2⟩
theorem open_record {H : Type} {enc : TypeId × Value → H} {W : World} {base : Nat} {cs : Array Value} {d : DataW H} {p : List MemPlace} (hs : cs.size = 14)
    (h : DataW.Trod enc Try.prog W base (fun _ => true) true 30 (.agg cs) d p) : ∃ r, RecV W (.agg cs) r := by
  obtain ⟨fuel, hf⟩ := h
  obtain ⟨cs⟩ := cs
  exact open_recCells (cs' := cs) (by simpa using hs) hf

end Go.Proofs.Ytkdejfcdmjkndaa
