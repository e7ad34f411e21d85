/- The law FnExactActionOk, walked out of the contracts. -/
import Derived.Test.YtompmicdieebhaaExAct
import Derived.Test.YtompmicdieebhaaS7act
import Derived.Test.YtompmicdieebhaaI7act
import Derived.Deep.RegionHeld3
namespace Go.Proofs.Ytompmicdieebhaa
open Go.RowKit
set_option maxRecDepth 100000

set_option maxRecDepth 100000 in
set_option maxHeartbeats 4000000 in
theorem exactActionOk_walk (v : Value) (r : ActD) (w : World) (hv : ActV w v r) :
    Calls Try.prog 3 #[v] w fun e w' => e = .returned (.bool true) ∧ Below w.heap.size w w' := by
  have HV : Hid (∀ wi, Below w.heap.size w wi → ActV wi v r) := fun wi h => hv.below h
  obtain ⟨a0, n0, c0, a1, n1, c1, a2, n2, c2, rfl⟩ := hv.form
  clear hv
  go_enter Try.func3, Try.ntmps3
  have ab : ∀ o, Below w.heap.size w (w.alloc o) := fun o => (Below.refl _ _).alloc (Nat.le_refl _) o
  go_wp2_with fail
  refine (szAction_any _ r 1048576 _ (HV.out _ (ab _)) (by omega) (by omega)).mono ?_
  rintro e w1 ⟨y, rfl, hx, B⟩
  have kA := box_below B (box_new w (.cells #[.int .i64 r.kind, .int .i64 r.node, .int .i64 r.i, .int .i64 r.user, .int .i64 r.cmd.k, .slice a0 n0 c0, .slice a1 n1 c1, .int .i64 r.cmd.uid, .int .i64 r.cmd.mode, .int .i64 r.cmd.fl, .int .i64 r.cmd.si, .slice a2 n2 c2] 26))
  have X := Below.step (Below.step (Below.refl _ _) (ab _)) B
  have s1 : w.heap.size + 1 ≤ w1.heap.size := by have := B.size; simp at this; omega
  clear B ab
  rcases hx with rfl | ⟨hx0, hx1⟩
  · clear kA
    go_wp2
    go_ret
    exact ⟨rfl, X⟩
  have z0 : r.cmd.bx.length ≤ 1048576 := by omega
  have z1 : r.cmd.tt.length ≤ 1048576 := by omega
  have z2 : r.cmd.tx.length ≤ 1048576 := by omega
  clear hx1
  obtain ⟨fA0, fA1, fA2, fA3, fA4, fA5, fA6, fA7, fA8, fA9, fA10, fA11, lA⟩ := box12l kA
  go_wp2_with fail
  refine (toAction_r _ r _ (HV.out _ X) (by omega) (by omega) (by omega)).mono ?_
  rintro e w2 ⟨u1, rfl, R1, B⟩
  clear fA0 fA1 fA2 fA3 fA4 fA5 fA6 fA7 fA8 fA9 fA10 fA11 lA
  replace kA := box_below B kA
  replace X := Below.step X B
  have s2 : w1.heap.size ≤ w2.heap.size := B.size
  clear B
  obtain ⟨fA0, fA1, fA2, fA3, fA4, fA5, fA6, fA7, fA8, fA9, fA10, fA11, lA⟩ := box12l kA
  go_wp2_with fail
  refine (specActionOk_any _ r _ R1.v).mono ?_
  rintro e w3 ⟨rfl, B⟩
  clear fA0 fA1 fA2 fA3 fA4 fA5 fA6 fA7 fA8 fA9 fA10 fA11 lA
  replace R1 := R1.below B
  replace kA := box_below B kA
  replace X := Below.step X B
  have s3 : w2.heap.size ≤ w3.heap.size := B.size
  clear B
  clear R1
  obtain ⟨fA0, fA1, fA2, fA3, fA4, fA5, fA6, fA7, fA8, fA9, fA10, fA11, lA⟩ := box12l kA
  go_wp2_with fail
  refine (toAction_r _ r _ (HV.out _ X) (by omega) (by omega) (by omega)).mono ?_
  rintro e w4 ⟨u2, rfl, R2, B⟩
  clear fA0 fA1 fA2 fA3 fA4 fA5 fA6 fA7 fA8 fA9 fA10 fA11 lA
  replace kA := box_below B kA
  replace X := Below.step X B
  have s4 : w3.heap.size ≤ w4.heap.size := B.size
  clear B
  obtain ⟨b0, m0, d0, b1, m1, d1, b2, m2, d2, rfl⟩ := R2.v.form
  have ab : ∀ o, Below w4.heap.size w4 (w4.alloc o) := fun o => (Below.refl _ _).alloc (Nat.le_refl _) o
  obtain ⟨fA0, fA1, fA2, fA3, fA4, fA5, fA6, fA7, fA8, fA9, fA10, fA11, lA⟩ := box12l kA
  go_wp2_with fail
  refine (implActionOk_any _ r _ (R2.below (ab _)).v).mono ?_
  rintro e w5 ⟨rfl, B⟩
  clear fA0 fA1 fA2 fA3 fA4 fA5 fA6 fA7 fA8 fA9 fA10 fA11 lA
  replace R2 := (R2.below (ab _)).below B
  replace kA := box_below B (box_alloc kA _)
  have kx := box_below B (box_new w4 (.cells #[.int .i64 r.kind, .int .i64 r.node, .int .i64 r.i, .int .i64 r.user, .int .i64 r.cmd.k, .slice b0 m0 d0, .slice b1 m1 d1, .int .i64 r.cmd.uid, .int .i64 r.cmd.mode, .int .i64 r.cmd.fl, .int .i64 r.cmd.si, .slice b2 m2 d2] 31))
  replace X := Below.step (Below.step X (ab _)) B
  have s5 : w4.heap.size + 1 ≤ w5.heap.size := by have := B.size; simp at this; omega
  clear B ab
  have HS : Hid (∀ w', Below w5.heap.size w5 w' → w'.cell? ⟨w4.heap.size, 0, none⟩ = some (.int .i64 r.kind) ∧ w'.cell? ⟨w4.heap.size, 1, none⟩ = some (.int .i64 r.node) ∧ w'.cell? ⟨w4.heap.size, 2, none⟩ = some (.int .i64 r.i) ∧ w'.cell? ⟨w4.heap.size, 3, none⟩ = some (.int .i64 r.user) ∧ w'.cell? ⟨w4.heap.size, 4, none⟩ = some (.int .i64 r.cmd.k) ∧ w'.cell? ⟨w4.heap.size, 5, none⟩ = some (.slice b0 m0 d0) ∧ w'.cell? ⟨w4.heap.size, 6, none⟩ = some (.slice b1 m1 d1) ∧ w'.cell? ⟨w4.heap.size, 7, none⟩ = some (.int .i64 r.cmd.uid) ∧ w'.cell? ⟨w4.heap.size, 8, none⟩ = some (.int .i64 r.cmd.mode) ∧ w'.cell? ⟨w4.heap.size, 9, none⟩ = some (.int .i64 r.cmd.fl) ∧ w'.cell? ⟨w4.heap.size, 10, none⟩ = some (.int .i64 r.cmd.si) ∧ w'.cell? ⟨w4.heap.size, 11, none⟩ = some (.slice b2 m2 d2) ∧ w'.cell? ⟨w.heap.size, 0, none⟩ = some (.int .i64 r.kind) ∧ w'.cell? ⟨w.heap.size, 1, none⟩ = some (.int .i64 r.node) ∧ w'.cell? ⟨w.heap.size, 2, none⟩ = some (.int .i64 r.i) ∧ w'.cell? ⟨w.heap.size, 3, none⟩ = some (.int .i64 r.user) ∧ w'.cell? ⟨w.heap.size, 4, none⟩ = some (.int .i64 r.cmd.k) ∧ w'.cell? ⟨w.heap.size, 5, none⟩ = some (.slice a0 n0 c0) ∧ w'.cell? ⟨w.heap.size, 6, none⟩ = some (.slice a1 n1 c1) ∧ w'.cell? ⟨w.heap.size, 7, none⟩ = some (.int .i64 r.cmd.uid) ∧ w'.cell? ⟨w.heap.size, 8, none⟩ = some (.int .i64 r.cmd.mode) ∧ w'.cell? ⟨w.heap.size, 9, none⟩ = some (.int .i64 r.cmd.fl) ∧ w'.cell? ⟨w.heap.size, 10, none⟩ = some (.int .i64 r.cmd.si) ∧ w'.cell? ⟨w.heap.size, 11, none⟩ = some (.slice a2 n2 c2)) := fun w' h => ⟨(box12l (box_below h kx)).1, (box12l (box_below h kx)).2.1, (box12l (box_below h kx)).2.2.1, (box12l (box_below h kx)).2.2.2.1, (box12l (box_below h kx)).2.2.2.2.1, (box12l (box_below h kx)).2.2.2.2.2.1, (box12l (box_below h kx)).2.2.2.2.2.2.1, (box12l (box_below h kx)).2.2.2.2.2.2.2.1, (box12l (box_below h kx)).2.2.2.2.2.2.2.2.1, (box12l (box_below h kx)).2.2.2.2.2.2.2.2.2.1, (box12l (box_below h kx)).2.2.2.2.2.2.2.2.2.2.1, (box12l (box_below h kx)).2.2.2.2.2.2.2.2.2.2.2.1, (box12l (box_below h kA)).1, (box12l (box_below h kA)).2.1, (box12l (box_below h kA)).2.2.1, (box12l (box_below h kA)).2.2.2.1, (box12l (box_below h kA)).2.2.2.2.1, (box12l (box_below h kA)).2.2.2.2.2.1, (box12l (box_below h kA)).2.2.2.2.2.2.1, (box12l (box_below h kA)).2.2.2.2.2.2.2.1, (box12l (box_below h kA)).2.2.2.2.2.2.2.2.1, (box12l (box_below h kA)).2.2.2.2.2.2.2.2.2.1, (box12l (box_below h kA)).2.2.2.2.2.2.2.2.2.2.1, (box12l (box_below h kA)).2.2.2.2.2.2.2.2.2.2.2.1⟩
  have DR : Below w5.heap.size w5 w5.drew := (Below.refl _ _).drew
  obtain ⟨fA0, fA1, fA2, fA3, fA4, fA5, fA6, fA7, fA8, fA9, fA10, fA11, lA⟩ := box12l kA
  obtain ⟨fx0, fx1, fx2, fx3, fx4, fx5, fx6, fx7, fx8, fx9, fx10, fx11, lx⟩ := box12l kx
  go_wp2
  go_region_held3 (fun w' => w'.cell? ⟨w4.heap.size, 0, none⟩ = some (.int .i64 r.kind) ∧ w'.cell? ⟨w4.heap.size, 1, none⟩ = some (.int .i64 r.node) ∧ w'.cell? ⟨w4.heap.size, 2, none⟩ = some (.int .i64 r.i) ∧ w'.cell? ⟨w4.heap.size, 3, none⟩ = some (.int .i64 r.user) ∧ w'.cell? ⟨w4.heap.size, 4, none⟩ = some (.int .i64 r.cmd.k) ∧ w'.cell? ⟨w4.heap.size, 5, none⟩ = some (.slice b0 m0 d0) ∧ w'.cell? ⟨w4.heap.size, 6, none⟩ = some (.slice b1 m1 d1) ∧ w'.cell? ⟨w4.heap.size, 7, none⟩ = some (.int .i64 r.cmd.uid) ∧ w'.cell? ⟨w4.heap.size, 8, none⟩ = some (.int .i64 r.cmd.mode) ∧ w'.cell? ⟨w4.heap.size, 9, none⟩ = some (.int .i64 r.cmd.fl) ∧ w'.cell? ⟨w4.heap.size, 10, none⟩ = some (.int .i64 r.cmd.si) ∧ w'.cell? ⟨w4.heap.size, 11, none⟩ = some (.slice b2 m2 d2) ∧ w'.cell? ⟨w.heap.size, 0, none⟩ = some (.int .i64 r.kind) ∧ w'.cell? ⟨w.heap.size, 1, none⟩ = some (.int .i64 r.node) ∧ w'.cell? ⟨w.heap.size, 2, none⟩ = some (.int .i64 r.i) ∧ w'.cell? ⟨w.heap.size, 3, none⟩ = some (.int .i64 r.user) ∧ w'.cell? ⟨w.heap.size, 4, none⟩ = some (.int .i64 r.cmd.k) ∧ w'.cell? ⟨w.heap.size, 5, none⟩ = some (.slice a0 n0 c0) ∧ w'.cell? ⟨w.heap.size, 6, none⟩ = some (.slice a1 n1 c1) ∧ w'.cell? ⟨w.heap.size, 7, none⟩ = some (.int .i64 r.cmd.uid) ∧ w'.cell? ⟨w.heap.size, 8, none⟩ = some (.int .i64 r.cmd.mode) ∧ w'.cell? ⟨w.heap.size, 9, none⟩ = some (.int .i64 r.cmd.fl) ∧ w'.cell? ⟨w.heap.size, 10, none⟩ = some (.int .i64 r.cmd.si) ∧ w'.cell? ⟨w.heap.size, 11, none⟩ = some (.slice a2 n2 c2))
    (first | go_keep | exact HS.out _ (Below.step (Below.step DR B) B') | exact HS.out _ (Below.step DR B))
    ((first | (go_at_call 6; refine (toAction_r _ r _ (HV.out _ (Below.step X DR)) (by omega) (by omega) (by omega)).mono ?_; rintro e w6 ⟨u3, rfl, R3, B⟩) | (go_at_call 8; refine (eqAction_yes _ _ r _ ((R2.below DR).below B).v R3.v).mono ?_; rintro e w7 ⟨rfl, B'⟩)))
  clear fA0 fA1 fA2 fA3 fA4 fA5 fA6 fA7 fA8 fA9 fA10 fA11 lA fx0 fx1 fx2 fx3 fx4 fx5 fx6 fx7 fx8 fx9 fx10 fx11 lx
  replace R2 := ((R2.below DR).below B).below B'
  replace kA := box_below B' (box_below B (box_below DR kA))
  replace kx := box_below B' (box_below B (box_below DR kx))
  replace X := Below.step (Below.step (Below.step X DR) B) B'
  have s7 : w5.heap.size ≤ w7.heap.size := Nat.le_trans B.size B'.size
  clear HS DR B B' R3
  clear R2 kA kx
  go_wp2
  go_ret
  exact ⟨rfl, X⟩

end Go.Proofs.Ytompmicdieebhaa
