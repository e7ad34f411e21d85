/- The law FnTorn, walked out of the contracts. -/
import Derived.Test.YtiafkmjndcfjlaaDoorDraw8
import Derived.Test.YtiafkmjndcfjlaaDoorLogsM
import Derived.Test.YtiafkmjndcfjlaaDoorILogScan
import Derived.Test.YtiafkmjndcfjlaaDoorILogMend
import Derived.Test.YtiafkmjndcfjlaaDoorILogSync
import Derived.Test.YtiafkmjndcfjlaaDoorILogCrash
import Derived.Test.YtiafkmjndcfjlaaDoorILogWrite
import Derived.Test.YtiafkmjndcfjlaaDoorSame
import Derived.Deep.RegionHeld3
namespace Go.Proofs.YtiafkmjndcfjlaaDoor
open Go.RowKit
set_option maxRecDepth 100000

set_option maxHeartbeats 400000 in
theorem at_any (v : Value) (M : List Int) (i : Int) (w : World) (hv : Bs w v M) (hi0 : 0 ≤ i) (hi1 : i ≤ 1000) :
    Calls Tryd.prog 13 #[v, .int .i64 i] w fun e w' => ∃ x, e = .returned (.int .i64 x) ∧ 0 ≤ x ∧ x ≤ 255 ∧ Below w.heap.size w w' := by
  obtain ⟨ho, a, cap, rfl, h1, h2, h3, h4⟩ := hv
  unfold maxLen at h2
  by_cases hz : M = []
  · subst hz
    go_enter Tryd.func13, Tryd.ntmps13
    go_wp2
    go_ret
    exact ⟨0, rfl, by omega, by omega, Below.refl _ _⟩
  · have hp : 0 < M.length := List.length_pos_iff.2 hz
    have hne : ((M.length : Int) == 0) = false := by simp; omega
    obtain ⟨b, off, rfl, hb, hc⟩ := h4 hp
    obtain ⟨j, hj, hjl⟩ : ∃ j : Nat, i % (M.length : Int) = j ∧ j < M.length := ⟨(i % (M.length : Int)).toNat, by have := Int.emod_nonneg i (show (M.length : Int) ≠ 0 by omega); omega, by have := Int.emod_lt_of_pos i (show (0 : Int) < M.length by omega); omega⟩
    have hx := hc j hjl
    have hxo : 0 ≤ M.getD j 0 ∧ M.getD j 0 ≤ 255 := by
      have := ho (M.getD j 0) (by simp [List.getD, hjl])
      omega
    obtain ⟨hx0, hx1⟩ := hxo
    generalize M.getD j 0 = x at hx hx0 hx1
    have hjl' : (j : Int) < M.length := by omega
    clear hc h4 h3 hz
    go_enter Tryd.func13, Tryd.ntmps13
    go_wp2
    go_ret
    exact ⟨x, rfl, hx0, hx1, Below.refl _ _⟩
theorem keep_form (y : Int) (n : Nat) (h0 : 0 ≤ y) : ∃ K : Nat, y.tmod ((n : Int) + 2) = K ∧ K ≤ n + 1 := by
  rw [Int.tmod_eq_emod_of_nonneg h0]
  exact ⟨(y % ((n : Int) + 2)).toNat, by have := Int.emod_nonneg y (show (n : Int) + 2 ≠ 0 by omega); omega, by have := Int.emod_lt_of_pos y (show (0 : Int) < (n : Int) + 2 by omega); omega⟩


theorem LogR.bs0 {w : World} {B T : Nat} {u0 u1 : Value} {a b : List Int} (h : LogR w B T (.agg #[u0, u1]) a b) : Bs w u0 a := by
  obtain ⟨v0, v1, hv, h0, _⟩ := h.v
  simp only [Value.agg.injEq, Array.mk.injEq, List.cons.injEq, and_true] at hv
  obtain ⟨rfl, rfl⟩ := hv
  exact h0

set_option maxHeartbeats 4000000 in
theorem fnTorn_walk (v : Value) (M : List Int) (ea : Addr) (w : World) (hv : Bs w v M) (hs : Sent w ea) :
    Calls Tryd.prog 4 #[v] w fun e w' => e = .returned (.bool true) ∧ Below w.heap.size w w' := by
  have HS : Hid (∀ wi, Below w.heap.size w wi → Sent wi ea) := fun wi h => hs.below h
  have HV : Hid (∀ wi, Below w.heap.size w wi → Bs wi v M) := fun wi h => hv.below h
  obtain ⟨e0, e1, e2, rfl⟩ := hv.form3
  clear hv hs
  go_enter Tryd.func4, Tryd.ntmps4
  go_wp2_with fail
  refine (drawWrite_any _ M _ (HV.out _ (Below.refl _ _))).mono ?_
  rintro e w1 ⟨x0, u0, a, b, r, rfl, R1, RU, ha, hb, hab, hr, B⟩
  have X := Below.step (Below.refl _ _) B
  have s1 : w.heap.size ≤ w1.heap.size := B.size
  clear B
  have R1c := R1
  obtain ⟨p1, q1, rfl, h1p, h1q⟩ := R1c
  obtain ⟨x1, y1, rfl⟩ := h1p.form
  obtain ⟨z1, m1, t1, rfl⟩ := h1q.form3
  obtain ⟨r0, r2, rfl⟩ := RU.form
  clear h1p h1q
  have hP := mendA_length a b
  generalize hPe : mendA a b = P at hP
  have HPE : Hid (mendA a b = P) := hPe
  clear hPe
  have ab : ∀ o, Below w1.heap.size w1 (w1.alloc o) := fun o => (Below.refl _ _).alloc (Nat.le_refl _) o
  go_wp2_with fail
  refine (implMend_r _ a b _ (R1.below (ab _)) (by omega) (by omega)).mono ?_
  rintro e w2 ⟨u2, rfl, R2, B⟩
  rw [HPE.out] at R2
  replace R1 := (R1.below (ab _)).below B
  replace RU := (RU.below (ab _)).below B
  have kg := box_below B (box_new w1 (.cells #[.slice x1 a.length y1, .slice z1 m1 t1] 24))
  replace X := Below.step (Below.step X (ab _)) B
  have s2 : w1.heap.size + 1 ≤ w2.heap.size := by have := B.size; simp at this; omega
  replace R2 := R2.wide (B' := w1.heap.size + 1) (by simp) (Nat.le_refl _)
  clear B ab
  obtain ⟨fg0, fg1, -, -, lg⟩ := box2 kg
  go_wp2_with fail
  refine (implSync_r _ P [] _ R2.v (by omega) (by simp)).mono ?_
  rintro e w3 ⟨u3, rfl, R3, B⟩
  rw [sync_nil P (by omega)] at R3
  clear fg0 fg1 lg
  replace R1 := R1.below B
  replace RU := RU.below B
  replace R2 := R2.below B
  replace kg := box_below B kg
  replace X := Below.step X B
  have s3 : w2.heap.size ≤ w3.heap.size := B.size
  clear B
  clear R2
  obtain ⟨p3, q3, rfl, h3p, h3q⟩ := R3.v
  obtain ⟨x3, y3, rfl⟩ := h3p.form
  obtain ⟨z3, t3, rfl⟩ := h3q.form
  clear h3p h3q
  simp only [List.length_nil] at *
  have ab : ∀ o, Below w3.heap.size w3 (w3.alloc o) := fun o => (Below.refl _ _).alloc (Nat.le_refl _) o
  obtain ⟨fg0, fg1, -, -, lg⟩ := box2 kg
  go_wp2_with fail
  refine (implWrite_r _ _ P [] r ea _ (R3.below (ab _)).v (RU.below (ab _)) (HS.out _ (Below.step X (ab _))) (by omega) (by simp) (by omega)).mono ?_
  rintro e w4 ⟨u4, rfl, R4, B⟩
  generalize hWe : wrOk P [] r = ok
  have HWE : Hid (wrOk P [] r = ok) := hWe
  clear hWe
  clear fg0 fg1 lg
  replace R1 := (R1.below (ab _)).below B
  replace RU := (RU.below (ab _)).below B
  replace R3 := (R3.below (ab _)).below B
  replace kg := box_below B (box_alloc kg _)
  have km := box_below B (box_new w3 (.cells #[.slice x3 P.length y3, .slice z3 0 t3] 24))
  replace X := Below.step (Below.step X (ab _)) B
  have s4 : w3.heap.size + 1 ≤ w4.heap.size := by have := B.size; simp at this; omega
  replace R4 := R4.wide (B' := w3.heap.size + 1) (by simp) (Nat.le_refl _)
  clear B ab
  cases ok
  · have hno := logs_no P r (by omega) HWE.out
    obtain ⟨p4, q4, rfl, h4p, h4q⟩ := R4.v
    obtain ⟨x4, n4, y4, rfl⟩ := h4p.form3
    obtain ⟨z4, m4, t4, rfl⟩ := h4q.form3
    obtain ⟨fg0, fg1, -, -, lg⟩ := box2 kg
    obtain ⟨fm0, fm1, -, -, lm⟩ := box2 km
    clear h4p h4q R1 R3 R4 RU kg km
    have ab : ∀ o, Below w4.heap.size w4 (w4.alloc o) := fun o => (Below.refl _ _).alloc (Nat.le_refl _) o
    by_cases h6 : (6000 : Int) < r.length
    · go_wp2
      go_ret
      exact ⟨rfl, Below.step X (ab _)⟩
    · have h9 : (988000 : Int) < a.length := by omega
      go_wp2
      go_ret
      exact ⟨rfl, Below.step X (ab _)⟩
  obtain ⟨hr6, hA, hB, hQl⟩ := wr_yes P r HWE.out
  rw [hA, hB] at R4
  have hF5 := frameL_length r
  generalize hFe : frameL r = F at R4 hF5
  have HFE : Hid (frameL r = F) := hFe
  clear hA hB hQl hFe
  obtain ⟨p4, q4, rfl, h4p, h4q⟩ := R4.v
  obtain ⟨x4, y4, rfl⟩ := h4p.form
  obtain ⟨z4, t4, rfl⟩ := h4q.form
  clear h4p h4q
  have ab : ∀ o, Below w4.heap.size w4 (w4.alloc o) := fun o => (Below.refl _ _).alloc (Nat.le_refl _) o
  obtain ⟨fg0, fg1, -, -, lg⟩ := box2 kg
  obtain ⟨fm0, fm1, -, -, lm⟩ := box2 km
  go_wp2_with fail
  refine (specLogOk_any _ a b _ (R1.below (ab _))).mono ?_
  rintro e w5 ⟨rfl, B⟩
  clear fg0 fg1 lg fm0 fm1 lm
  replace R1 := (R1.below (ab _)).below B
  replace RU := (RU.below (ab _)).below B
  replace R3 := (R3.below (ab _)).below B
  replace R4 := (R4.below (ab _)).below B
  replace kg := box_below B (box_alloc kg _)
  replace km := box_below B (box_alloc km _)
  have kx := box_below B (box_new w4 (.cells #[.slice x4 P.length y4, .slice z4 F.length t4] 24))
  replace X := Below.step (Below.step X (ab _)) B
  have s5 : w4.heap.size + 1 ≤ w5.heap.size := by have := B.size; simp at this; omega
  clear B ab
  by_cases hok : a.length + b.length ≤ 1000000
  rotate_left
  · have hd : decide (a.length + b.length ≤ 1000000) = false := by simp [hok]
    rw [hd]
    clear hd
    obtain ⟨fg0, fg1, -, -, lg⟩ := box2 kg
    obtain ⟨fm0, fm1, -, -, lm⟩ := box2 km
    obtain ⟨fx0, fx1, -, -, lx⟩ := box2 kx
    clear R1 RU R3 R4 kg km kx
    by_cases h6 : (6000 : Int) < r.length
    · go_wp2
      go_ret
      exact ⟨rfl, X⟩
    · have h9 : (988000 : Int) < a.length := by omega
      go_wp2
      go_ret
      exact ⟨rfl, X⟩
  have hd : decide (a.length + b.length ≤ 1000000) = true := by simp [hok]
  rw [hd]
  clear hd
  clear R1
  clear kg
  have HX : Hid (∀ w', Below w5.heap.size w5 w' → w'.cell? ⟨w4.heap.size, 1, none⟩ = some (.slice z4 F.length t4)) := fun w' h => (box2 (box_below h kx)).2.1
  have DR : Below w5.heap.size w5 w5.drew := (Below.refl _ _).drew
  obtain ⟨fm0, fm1, -, -, lm⟩ := box2 km
  obtain ⟨fx0, fx1, -, -, lx⟩ := box2 kx
  have hF2 : ((F.length : Int) + 2 == 0) = false := by simp; omega
  have hF6 : ¬ ((F.length : Int) + 2 = 0) := by omega
  have hF8 : IntKind.i64.wrap ((F.length : Int) + 2) = (F.length : Int) + 2 := IntWalk.i64_in _ (by omega)
  have hF3 : (0 : Int) < (F.length : Int) + 2 := by omega
  have hF4 : (F.length : Int) ≤ 6005 := by omega
  go_wp2
  go_region_held3 (fun w' => w'.cell? ⟨w4.heap.size, 1, none⟩ = some (.slice z4 F.length t4))
    (first | go_keep | exact HX.out _ (Below.step DR B) | exact HX.out _ DR)
    ((go_at_call 13; refine (at_any _ M 3 _ (HV.out _ (Below.step X DR)) (by decide) (by decide)).mono ?_; rintro e w6 ⟨y, rfl, hy0, hy1, B⟩))
  clear fm0 fm1 lm fx0 fx1 lx
  replace RU := (RU.below DR).below B
  replace R3 := (R3.below DR).below B
  replace R4 := (R4.below DR).below B
  replace km := box_below B (box_below DR km)
  replace kx := box_below B (box_below DR kx)
  replace X := Below.step (Below.step X DR) B
  have s6 : w5.heap.size ≤ w6.heap.size := B.size
  clear HX DR B hF2 hF3 hF6 hF8
  obtain ⟨K, hK, hK1⟩ := keep_form y F.length hy0
  rw [hK]
  clear hK
  have hQ0 := crashA_length P F K
  generalize hQe : crashA P F K = Q at hQ0
  have HQE : Hid (crashA P F K = Q) := hQe
  clear hQe
  obtain ⟨fm0, fm1, -, -, lm⟩ := box2 km
  obtain ⟨fx0, fx1, -, -, lx⟩ := box2 kx
  go_wp2_with fail
  refine (implCrash_r _ P F K _ R4.v (by omega) (by omega) (by omega) (by omega)).mono ?_
  rintro e w7 ⟨u7, rfl, R7, B⟩
  rw [HQE.out] at R7
  clear fm0 fm1 lm fx0 fx1 lx
  replace RU := RU.below B
  replace R3 := R3.below B
  replace R4 := R4.below B
  replace km := box_below B km
  replace kx := box_below B kx
  replace X := Below.step X B
  have s7 : w6.heap.size ≤ w7.heap.size := B.size
  clear B
  have hY0 := mendA_length Q []
  generalize hYe : mendA Q [] = Y at hY0
  have HYE : Hid (mendA Q [] = Y) := hYe
  clear hYe
  obtain ⟨fm0, fm1, -, -, lm⟩ := box2 km
  obtain ⟨fx0, fx1, -, -, lx⟩ := box2 kx
  go_wp2_with fail
  refine (implMend_r _ Q [] _ R7.v (by omega) (by simp)).mono ?_
  rintro e w8 ⟨u8, rfl, R8, B⟩
  rw [HYE.out] at R8
  clear fm0 fm1 lm fx0 fx1 lx
  replace RU := RU.below B
  replace R3 := R3.below B
  replace R4 := R4.below B
  replace R7 := R7.below B
  replace km := box_below B km
  replace kx := box_below B kx
  replace X := Below.step X B
  have s8 : w7.heap.size ≤ w8.heap.size := B.size
  clear B
  clear R7 R4
  obtain ⟨p8, q8, rfl, h8p, h8q⟩ := R8.v
  obtain ⟨x8, y8, rfl⟩ := h8p.form
  obtain ⟨z8, t8, rfl⟩ := h8q.form
  clear h8p h8q
  simp only [List.length_nil] at *
  have ab : ∀ o, Below w8.heap.size w8 (w8.alloc o) := fun o => (Below.refl _ _).alloc (Nat.le_refl _) o
  obtain ⟨fm0, fm1, -, -, lm⟩ := box2 km
  obtain ⟨fx0, fx1, -, -, lx⟩ := box2 kx
  go_wp2_with fail
  refine (implScan_r _ P [] _ (R3.below (ab _)).v (by omega) (by simp)).mono ?_
  rintro e w9 ⟨u9, rfl, R9, B⟩
  generalize hSe : scanA P [] = S at R9 ⊢
  have HSE : Hid (scanA P [] = S) := hSe
  clear hSe
  obtain ⟨S, e9⟩ := S
  have hS1 : (S.length : Int) ≤ 1000000 := by have := scanA_len P S e9 HSE.out; omega
  simp only at R9 ⊢
  obtain ⟨x9, y9, us9, rfl, hc9, hd9, -⟩ := R9.ss
  clear fm0 fm1 lm fx0 fx1 lx
  replace RU := (RU.below (ab _)).below B
  replace R3 := (R3.below (ab _)).below B
  replace R8 := (R8.below (ab _)).below B
  replace km := box_below B (box_alloc km _)
  replace kx := box_below B (box_alloc kx _)
  have ky := box_below B (box_new w8 (.cells #[.slice x8 Y.length y8, .slice z8 0 t8] 24))
  replace X := Below.step (Below.step X (ab _)) B
  have s9 : w8.heap.size + 1 ≤ w9.heap.size := by have := B.size; simp at this; omega
  replace R9 := R9.wide (B' := w8.heap.size + 1) (by simp) (Nat.le_refl _)
  clear B ab
  clear R3
  clear km
  obtain ⟨fx0, fx1, -, -, lx⟩ := box2 kx
  obtain ⟨fy0, fy1, -, -, ly⟩ := box2 ky
  go_wp2_with fail
  refine (implScan_r _ Y [] _ R8.v (by omega) (by simp)).mono ?_
  rintro e w10 ⟨u10, rfl, R10, B⟩
  generalize hSe : scanA Y [] = S2 at R10 ⊢
  have HS2 : Hid (scanA Y [] = S2) := hSe
  clear hSe
  obtain ⟨S2, e10⟩ := S2
  simp only at R10 ⊢
  clear fx0 fx1 lx fy0 fy1 ly
  replace RU := RU.below B
  replace R8 := R8.below B
  replace R9 := R9.below B
  replace kx := box_below B kx
  replace ky := box_below B ky
  replace X := Below.step X B
  have s10 : w9.heap.size ≤ w10.heap.size := B.size
  clear B
  have HSS : Hid (SsF w10 u10 S2.length (fun i => S2.getD i [])) := R10.ss
  obtain ⟨x10, n10, y10, rfl, hn10, hc10, hd10⟩ : ∃ x n c, u10 = .slice x n c ∧ n = S2.length ∧ n ≤ c ∧ c ≤ 9223372036854775807 := by obtain ⟨x, c, us, h, h1, h2, _⟩ := HSS.out; exact ⟨x, _, c, h, rfl, h1, by unfold maxLen at h2; omega⟩
  have HN : Hid (n10 = S2.length) := hn10
  clear hn10 HSS
  obtain ⟨fx0, fx1, -, -, lx⟩ := box2 kx
  obtain ⟨fy0, fy1, -, -, ly⟩ := box2 ky
  go_wp2_with fail
  refine (implMend_r _ Y [] _ R8.v (by omega) (by simp)).mono ?_
  rintro e w11 ⟨u11, rfl, R11, B⟩
  have hYY := (torn_yes a b P r Q Y S e9 K hok HPE.out HSE.out HWE.out (by rw [HFE.out]; exact HQE.out) HYE.out)
  rw [HFE.out] at hYY
  obtain ⟨hQ1, hY1, hYY, hor⟩ := hYY
  rw [hYY] at R11
  have HOR : Hid ((F.length ≤ K ∧ scanA Y [] = (S ++ [r], Y.length)) ∨ (K < F.length ∧ scanA Y [] = (S, Y.length))) := hor
  clear hor hYY
  clear fx0 fx1 lx fy0 fy1 ly
  replace RU := RU.below B
  replace R8 := R8.below B
  replace R9 := R9.below B
  replace R10 := R10.below B
  replace kx := box_below B kx
  replace ky := box_below B ky
  replace X := Below.step X B
  have s11 : w10.heap.size ≤ w11.heap.size := B.size
  clear B
  obtain ⟨p11, q11, rfl, h11p, h11q⟩ := R11.v
  obtain ⟨x11, y11, rfl⟩ := h11p.form
  obtain ⟨z11, t11, rfl⟩ := h11q.form
  clear h11p h11q
  simp only [List.length_nil] at *
  unfold maxLen at hd9
  have ab : ∀ o, Below w11.heap.size w11 (w11.alloc o) := fun o => (Below.refl _ _).alloc (Nat.le_refl _) o
  rcases HOR.out with ⟨hk, hsc⟩ | ⟨hk, hsc⟩
  all_goals
    rw [HS2.out] at hsc
    simp only [Prod.mk.injEq] at hsc
    obtain ⟨hS2, rfl⟩ := hsc
  · obtain rfl : n10 = S.length + 1 := by rw [HN.out, hS2]; simp
    have hk' : (F.length : Int) ≤ K := by omega
    have HS3 : Hid (S2 = S ++ [r]) := hS2
    clear hS2
    obtain ⟨fx0, fx1, -, -, lx⟩ := box2 kx
    obtain ⟨fy0, fy1, -, -, ly⟩ := box2 ky
    go_wp2_with fail
    refine (sameBytes_yes _ _ Y _ (R8.below (ab _)).bs0 (R11.below (ab _)).bs0).mono ?_
    rintro e w12 ⟨rfl, B⟩
    clear fx0 fx1 lx fy0 fy1 ly
    replace RU := (RU.below (ab _)).below B
    replace R8 := (R8.below (ab _)).below B
    replace R9 := (R9.below (ab _)).below B
    replace R10 := (R10.below (ab _)).below B
    replace R11 := (R11.below (ab _)).below B
    replace kx := box_below B (box_alloc kx _)
    replace ky := box_below B (box_alloc ky _)
    have kz := box_below B (box_new w11 (.cells #[.slice x11 Y.length y11, .slice z11 0 t11] 24))
    replace X := Below.step (Below.step X (ab _)) B
    have s12 : w11.heap.size + 1 ≤ w12.heap.size := by have := B.size; simp at this; omega
    clear B ab
    obtain ⟨xx, cc, us, hv, -, -, hcells, hrows⟩ := R10.ss
    simp only [Value.slice.injEq] at hv
    obtain ⟨rfl, -, rfl⟩ := hv
    obtain ⟨b10, o10, rfl, hb10, hcl⟩ := hcells (by rw [HS3.out]; simp)
    have hk10 : w12.cell? ⟨b10, o10 + S.length, none⟩ = some (us S.length) := hcl _ (by rw [HS3.out]; simp)
    have HU : Hid (Bs w12 (us S.length) r) := by have := hrows S.length (by rw [HS3.out]; simp); rw [HS3.out] at this; simpa [Hid] using this
    clear hcl hrows hcells hb10
    clear R10 R9 R8 R11
    obtain ⟨fx0, fx1, -, -, lx⟩ := box2 kx
    obtain ⟨fy0, fy1, -, -, ly⟩ := box2 ky
    obtain ⟨fz0, fz1, -, -, lz⟩ := box2 kz
    go_wp2_with fail
    refine (sameBytes_yes _ _ r _ HU.out RU).mono ?_
    rintro e w13 ⟨rfl, B⟩
    clear fx0 fx1 lx fy0 fy1 ly fz0 fz1 lz
    replace X := Below.step X B
    clear B hk10 HU RU kx ky kz
    go_wp2
    go_ret
    exact ⟨rfl, X⟩
  · obtain rfl : n10 = S.length := by rw [HN.out, hS2]
    have hk' : ¬ (F.length : Int) ≤ K := by omega
    have hne1 : ((S.length : Int) == (S.length : Int) + 1) = false := by rw [beq_eq_false_iff_ne]; omega
    have hne2 : ¬ ((S.length : Int) = (S.length : Int) + 1) := by omega
    clear hS2
    obtain ⟨fx0, fx1, -, -, lx⟩ := box2 kx
    obtain ⟨fy0, fy1, -, -, ly⟩ := box2 ky
    go_wp2_with fail
    refine (sameBytes_yes _ _ Y _ (R8.below (ab _)).bs0 (R11.below (ab _)).bs0).mono ?_
    rintro e w12 ⟨rfl, B⟩
    clear fx0 fx1 lx fy0 fy1 ly
    replace RU := (RU.below (ab _)).below B
    replace R8 := (R8.below (ab _)).below B
    replace R9 := (R9.below (ab _)).below B
    replace R10 := (R10.below (ab _)).below B
    replace R11 := (R11.below (ab _)).below B
    replace kx := box_below B (box_alloc kx _)
    replace ky := box_below B (box_alloc ky _)
    have kz := box_below B (box_new w11 (.cells #[.slice x11 Y.length y11, .slice z11 0 t11] 24))
    replace X := Below.step (Below.step X (ab _)) B
    have s12 : w11.heap.size + 1 ≤ w12.heap.size := by have := B.size; simp at this; omega
    clear B ab
    clear R10 R9 R8 R11
    obtain ⟨fx0, fx1, -, -, lx⟩ := box2 kx
    obtain ⟨fy0, fy1, -, -, ly⟩ := box2 ky
    obtain ⟨fz0, fz1, -, -, lz⟩ := box2 kz
    go_wp2_with fail
    go_wp2
    go_ret
    exact ⟨rfl, X⟩

end Go.Proofs.YtiafkmjndcfjlaaDoor
