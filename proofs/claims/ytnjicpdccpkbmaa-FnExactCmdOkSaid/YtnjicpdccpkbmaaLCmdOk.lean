/- The law FnExactCmdOk, walked out of the contracts. -/
import Derived.Test.YtnjicpdccpkbmaaExCmd
import Derived.Test.YtnjicpdccpkbmaaS3cmd
import Derived.Test.YtnjicpdccpkbmaaI3cmd
import Derived.Deep.RegionHeld3
namespace Go.Proofs.Ytnjicpdccpkbmaa
open Go.RowKit

set_option maxRecDepth 100000 in
set_option maxHeartbeats 2000000 in
theorem exactCmdOk_walk (v : Value) (k : Int) (bx tt : List Int) (uid mode fl si : Int) (tx : List Int) (w : World) (hv : CmdV w v k bx tt uid mode fl si tx) :
    Calls Try.prog 3 #[v] w fun e w' => e = .returned (.bool true) ∧ Below w.heap.size w w' := by
  have HV : Hid (∀ wi, Below w.heap.size w wi → CmdV wi v k bx tt uid mode fl si tx) := fun wi h => hv.below h
  obtain ⟨v0, v1, v2, rfl, g0, g1, g2, -⟩ := hv
  obtain ⟨e0, e1, e2, rfl⟩ := g0.form3
  obtain ⟨e3, e4, e5, rfl⟩ := g1.form3
  obtain ⟨e6, e7, e8, rfl⟩ := g2.form3
  clear g0 g1 g2
  go_enter Try.func3, Try.ntmps3
  have ab : ∀ o, Below w.heap.size w (w.alloc o) := fun o => (Below.refl _ _).alloc (Nat.le_refl _) o
  go_wp2_with fail
  refine (szCmd_any _ k bx tt uid mode fl si tx 1048576 _ (HV.out _ (ab _)) (by omega) (by omega)).mono ?_
  rintro e w1 ⟨x, rfl, hx, B⟩
  have kA := box_below B (box_new w (.cells #[.int .i64 k, .slice e0 e1 e2, .slice e3 e4 e5, .int .i64 uid, .int .i64 mode, .int .i64 fl, .int .i64 si, .slice e6 e7 e8] 24))
  have X := Below.step (Below.step (Below.refl _ _) (ab _)) B
  have s1 : w.heap.size + 1 ≤ w1.heap.size := by have := B.size; simp at this; omega
  clear B ab
  rcases hx with rfl | ⟨hx0, hx1⟩
  · clear kA
    go_wp2
    go_ret
    exact ⟨rfl, X⟩
  have ha : bx.length ≤ 1048576 := by omega
  have hb : tt.length ≤ 1048576 := by omega
  have hc : tx.length ≤ 1048576 := by omega
  clear hx1
  obtain ⟨fA0, fA1, fA2, fA3, fA4, fA5, fA6, fA7, lA⟩ := box8l kA
  go_wp2_with fail
  refine (toCmd_r _ k bx tt uid mode fl si tx _ (HV.out _ X) (by omega) (by omega) (by omega)).mono ?_
  rintro e w2 ⟨u1, rfl, R1, B⟩
  clear fA0 fA1 fA2 fA3 fA4 fA5 fA6 fA7 lA
  replace kA := box_below B kA
  replace X := Below.step X B
  have s2 : w1.heap.size ≤ w2.heap.size := B.size
  clear B
  obtain ⟨fA0, fA1, fA2, fA3, fA4, fA5, fA6, fA7, lA⟩ := box8l kA
  go_wp2_with fail
  refine (specCmdOk_any _ k bx tt uid mode fl si tx _ R1.v).mono ?_
  rintro e w3 ⟨rfl, B⟩
  clear fA0 fA1 fA2 fA3 fA4 fA5 fA6 fA7 lA
  replace R1 := R1.below B
  replace kA := box_below B kA
  replace X := Below.step X B
  have s3 : w2.heap.size ≤ w3.heap.size := B.size
  clear B
  clear R1
  obtain ⟨fA0, fA1, fA2, fA3, fA4, fA5, fA6, fA7, lA⟩ := box8l kA
  go_wp2_with fail
  refine (toCmd_r _ k bx tt uid mode fl si tx _ (HV.out _ X) (by omega) (by omega) (by omega)).mono ?_
  rintro e w4 ⟨u2, rfl, R2, B⟩
  clear fA0 fA1 fA2 fA3 fA4 fA5 fA6 fA7 lA
  replace kA := box_below B kA
  replace X := Below.step X B
  have s4 : w3.heap.size ≤ w4.heap.size := B.size
  clear B
  obtain ⟨p2, q2, z2, rfl, h2p, h2q, h2z, -⟩ := R2.v
  obtain ⟨x2p, n2p, y2p, rfl⟩ := h2p.form3
  obtain ⟨x2q, n2q, y2q, rfl⟩ := h2q.form3
  obtain ⟨x2z, n2z, y2z, rfl⟩ := h2z.form3
  clear h2p h2q h2z
  have ab : ∀ o, Below w4.heap.size w4 (w4.alloc o) := fun o => (Below.refl _ _).alloc (Nat.le_refl _) o
  obtain ⟨fA0, fA1, fA2, fA3, fA4, fA5, fA6, fA7, lA⟩ := box8l kA
  go_wp2_with fail
  refine (implCmdOk_any _ k bx tt uid mode fl si tx _ (R2.below (ab _)).v).mono ?_
  rintro e w5 ⟨rfl, B⟩
  clear fA0 fA1 fA2 fA3 fA4 fA5 fA6 fA7 lA
  replace R2 := (R2.below (ab _)).below B
  replace kA := box_below B (box_alloc kA _)
  have kx := box_below B (box_new w4 (.cells #[.int .i64 k, .slice x2p n2p y2p, .slice x2q n2q y2q, .int .i64 uid, .int .i64 mode, .int .i64 fl, .int .i64 si, .slice x2z n2z y2z] 27))
  replace X := Below.step (Below.step X (ab _)) B
  have s5 : w4.heap.size + 1 ≤ w5.heap.size := by have := B.size; simp at this; omega
  clear B ab
  have HS : Hid (∀ w', Below w5.heap.size w5 w' → w'.cell? ⟨w4.heap.size, 0, none⟩ = some (.int .i64 k) ∧ w'.cell? ⟨w4.heap.size, 1, none⟩ = some (.slice x2p n2p y2p) ∧ w'.cell? ⟨w4.heap.size, 2, none⟩ = some (.slice x2q n2q y2q) ∧ w'.cell? ⟨w4.heap.size, 3, none⟩ = some (.int .i64 uid) ∧ w'.cell? ⟨w4.heap.size, 4, none⟩ = some (.int .i64 mode) ∧ w'.cell? ⟨w4.heap.size, 5, none⟩ = some (.int .i64 fl) ∧ w'.cell? ⟨w4.heap.size, 6, none⟩ = some (.int .i64 si) ∧ w'.cell? ⟨w4.heap.size, 7, none⟩ = some (.slice x2z n2z y2z) ∧ w'.cell? ⟨w.heap.size, 0, none⟩ = some (.int .i64 k) ∧ w'.cell? ⟨w.heap.size, 1, none⟩ = some (.slice e0 e1 e2) ∧ w'.cell? ⟨w.heap.size, 2, none⟩ = some (.slice e3 e4 e5) ∧ w'.cell? ⟨w.heap.size, 3, none⟩ = some (.int .i64 uid) ∧ w'.cell? ⟨w.heap.size, 4, none⟩ = some (.int .i64 mode) ∧ w'.cell? ⟨w.heap.size, 5, none⟩ = some (.int .i64 fl) ∧ w'.cell? ⟨w.heap.size, 6, none⟩ = some (.int .i64 si) ∧ w'.cell? ⟨w.heap.size, 7, none⟩ = some (.slice e6 e7 e8)) := fun w' h => ⟨(box8l (box_below h kx)).1, (box8l (box_below h kx)).2.1, (box8l (box_below h kx)).2.2.1, (box8l (box_below h kx)).2.2.2.1, (box8l (box_below h kx)).2.2.2.2.1, (box8l (box_below h kx)).2.2.2.2.2.1, (box8l (box_below h kx)).2.2.2.2.2.2.1, (box8l (box_below h kx)).2.2.2.2.2.2.2.1, (box8l (box_below h kA)).1, (box8l (box_below h kA)).2.1, (box8l (box_below h kA)).2.2.1, (box8l (box_below h kA)).2.2.2.1, (box8l (box_below h kA)).2.2.2.2.1, (box8l (box_below h kA)).2.2.2.2.2.1, (box8l (box_below h kA)).2.2.2.2.2.2.1, (box8l (box_below h kA)).2.2.2.2.2.2.2.1⟩
  have DR : Below w5.heap.size w5 w5.drew := (Below.refl _ _).drew
  obtain ⟨fA0, fA1, fA2, fA3, fA4, fA5, fA6, fA7, lA⟩ := box8l kA
  obtain ⟨fx0, fx1, fx2, fx3, fx4, fx5, fx6, fx7, lx⟩ := box8l kx
  go_wp2
  go_region_held3 (fun w' => w'.cell? ⟨w4.heap.size, 0, none⟩ = some (.int .i64 k) ∧ w'.cell? ⟨w4.heap.size, 1, none⟩ = some (.slice x2p n2p y2p) ∧ w'.cell? ⟨w4.heap.size, 2, none⟩ = some (.slice x2q n2q y2q) ∧ w'.cell? ⟨w4.heap.size, 3, none⟩ = some (.int .i64 uid) ∧ w'.cell? ⟨w4.heap.size, 4, none⟩ = some (.int .i64 mode) ∧ w'.cell? ⟨w4.heap.size, 5, none⟩ = some (.int .i64 fl) ∧ w'.cell? ⟨w4.heap.size, 6, none⟩ = some (.int .i64 si) ∧ w'.cell? ⟨w4.heap.size, 7, none⟩ = some (.slice x2z n2z y2z) ∧ w'.cell? ⟨w.heap.size, 0, none⟩ = some (.int .i64 k) ∧ w'.cell? ⟨w.heap.size, 1, none⟩ = some (.slice e0 e1 e2) ∧ w'.cell? ⟨w.heap.size, 2, none⟩ = some (.slice e3 e4 e5) ∧ w'.cell? ⟨w.heap.size, 3, none⟩ = some (.int .i64 uid) ∧ w'.cell? ⟨w.heap.size, 4, none⟩ = some (.int .i64 mode) ∧ w'.cell? ⟨w.heap.size, 5, none⟩ = some (.int .i64 fl) ∧ w'.cell? ⟨w.heap.size, 6, none⟩ = some (.int .i64 si) ∧ w'.cell? ⟨w.heap.size, 7, none⟩ = some (.slice e6 e7 e8))
    (first | go_keep | exact HS.out _ (Below.step (Below.step DR B) B') | exact HS.out _ (Below.step DR B))
    ((first | (go_at_call 8; refine (toCmd_r _ k bx tt uid mode fl si tx _ (HV.out _ (Below.step X DR)) (by omega) (by omega) (by omega)).mono ?_; rintro e w6 ⟨u3, rfl, R3, B⟩) | (go_at_call 10; refine (eqCmd_yes _ _ k bx tt uid mode fl si tx _ ((R2.below DR).below B).v R3.v).mono ?_; rintro e w7 ⟨rfl, B'⟩)))
  clear fA0 fA1 fA2 fA3 fA4 fA5 fA6 fA7 lA fx0 fx1 fx2 fx3 fx4 fx5 fx6 fx7 lx
  replace R2 := ((R2.below DR).below B).below B'
  replace kA := box_below B' (box_below B (box_below DR kA))
  replace kx := box_below B' (box_below B (box_below DR kx))
  replace X := Below.step (Below.step (Below.step X DR) B) B'
  have s7 : w5.heap.size ≤ w7.heap.size := Nat.le_trans B.size B'.size
  clear HS DR B B' R3
  clear R2 kA kx
  go_wp2
  go_ret
  exact ⟨rfl, X⟩

end Go.Proofs.Ytnjicpdccpkbmaa
