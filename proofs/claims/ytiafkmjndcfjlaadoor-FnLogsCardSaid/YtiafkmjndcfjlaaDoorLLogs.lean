/- The law FnLogs, walked out of the contracts. -/
import Derived.Test.YtiafkmjndcfjlaaDoorDraw8
import Derived.Test.YtiafkmjndcfjlaaDoorLogsM
import Derived.Test.YtiafkmjndcfjlaaDoorILogScan
import Derived.Test.YtiafkmjndcfjlaaDoorILogMend
import Derived.Test.YtiafkmjndcfjlaaDoorILogSync
import Derived.Test.YtiafkmjndcfjlaaDoorILogWrite
import Derived.Test.YtiafkmjndcfjlaaDoorSame
import Derived.Deep.RegionHeld3
namespace Go.Proofs.YtiafkmjndcfjlaaDoor
open Go.RowKit
set_option maxRecDepth 100000

theorem Sent.logs {w : World} {ea : Addr} (h : Sent w ea) (wi : World) (hb : Below w.heap.size w wi) : Sent wi ea := h.below hb

set_option maxHeartbeats 4000000 in
theorem fnLogs_walk (v : Value) (M : List Int) (ea : Addr) (w : World) (hv : Bs w v M) (hs : Sent w ea) :
    Calls Tryd.prog 3 #[v] w fun e w' => e = .returned (.bool true) ∧ Below w.heap.size w w' := by
  have HS : Hid (∀ wi, Below w.heap.size w wi → Sent wi ea) := fun wi h => hs.below h
  have HV : Hid (Bs w v M) := hv
  obtain ⟨e0, e1, e2, rfl⟩ := hv.form3
  clear hv hs
  go_enter Tryd.func3, Tryd.ntmps3
  go_wp2_with fail
  refine (drawWrite_any _ M _ HV.out).mono ?_
  rintro e w1 ⟨x0, u0, a, b, r, rfl, R1, RU, ha, hb, hab, hr, B⟩
  have X := Below.step (Below.refl _ _) B
  have s1 : w.heap.size ≤ w1.heap.size := B.size
  clear B
  have R1c := R1
  obtain ⟨p1, q1, rfl, h1p, h1q⟩ := R1c
  obtain ⟨x1, n1, y1, rfl⟩ := h1p.form3
  obtain ⟨z1, m1, t1, rfl⟩ := h1q.form3
  obtain ⟨r0, r2, rfl⟩ := RU.form
  clear h1p h1q
  have hP := mendA_length a b
  generalize hPe : mendA a b = P at hP
  have HPE : Hid (mendA a b = P) := hPe
  clear hPe
  have ab : ∀ o, Below w1.heap.size w1 (w1.alloc o) := fun o => (Below.refl _ _).alloc (Nat.le_refl _) o
  go_wp2_with fail
  refine (implMend_r _ a b _ (R1.below (ab _)) (by omega) (by omega)).mono ?_
  rintro e w2 ⟨u2, rfl, R2, B⟩
  rw [HPE.out] at R2
  replace R1 := (R1.below (ab _)).below B
  replace RU := (RU.below (ab _)).below B
  have kg := box_below B (box_new w1 (.cells #[.slice x1 n1 y1, .slice z1 m1 t1] 24))
  replace X := Below.step (Below.step X (ab _)) B
  have s2 : w1.heap.size + 1 ≤ w2.heap.size := by have := B.size; simp at this; omega
  replace R2 := R2.wide (B' := w1.heap.size + 1) (by simp) (Nat.le_refl _)
  clear B ab
  obtain ⟨p2, q2, rfl, h2p, h2q⟩ := R2.v
  obtain ⟨x2, y2, rfl⟩ := h2p.form
  obtain ⟨z2, m2, t2, rfl⟩ := h2q.form3
  clear h2p h2q
  have ab : ∀ o, Below w2.heap.size w2 (w2.alloc o) := fun o => (Below.refl _ _).alloc (Nat.le_refl _) o
  obtain ⟨fg0, fg1, -, -, lg⟩ := box2 kg
  go_wp2_with fail
  refine (implScan_r _ P [] _ (R2.below (ab _)).v (by omega) (by simp)).mono ?_
  rintro e w3 ⟨u3, rfl, R3, B⟩
  generalize hSe : scanA P [] = S3 at R3 ⊢
  have HSE : Hid (scanA P [] = S3) := hSe
  clear hSe
  obtain ⟨S3, e3⟩ := S3
  simp only at R3 ⊢
  obtain ⟨x3, y3, us3, rfl, hc3, hd3, -⟩ := R3.ss
  clear fg0 fg1 lg
  replace R1 := (R1.below (ab _)).below B
  replace RU := (RU.below (ab _)).below B
  replace R2 := (R2.below (ab _)).below B
  replace kg := box_below B (box_alloc kg _)
  have km := box_below B (box_new w2 (.cells #[.slice x2 P.length y2, .slice z2 m2 t2] 24))
  replace X := Below.step (Below.step X (ab _)) B
  have s3 : w2.heap.size + 1 ≤ w3.heap.size := by have := B.size; simp at this; omega
  replace R3 := R3.wide (B' := w2.heap.size + 1) (by simp) (Nat.le_refl _)
  clear B ab
  obtain ⟨fg0, fg1, -, -, lg⟩ := box2 kg
  obtain ⟨fm0, fm1, -, -, lm⟩ := box2 km
  go_wp2_with fail
  refine (implWrite_r _ _ P [] r ea _ R2.v RU (HS.out _ X) (by omega) (by simp) (by omega)).mono ?_
  rintro e w4 ⟨u4, rfl, R4, B⟩
  generalize hWe : wrOk P [] r = ok
  have HWE : Hid (wrOk P [] r = ok) := hWe
  clear hWe
  clear fg0 fg1 lg fm0 fm1 lm
  replace R1 := R1.below B
  replace RU := RU.below B
  replace R2 := R2.below B
  replace R3 := R3.below B
  replace kg := box_below B kg
  replace km := box_below B km
  replace X := Below.step X B
  have s4 : w3.heap.size ≤ w4.heap.size := B.size
  clear B
  obtain ⟨p4, q4, rfl, h4p, h4q⟩ := R4.v
  obtain ⟨x4, n4, y4, rfl⟩ := h4p.form3
  obtain ⟨z4, m4, t4, rfl⟩ := h4q.form3
  clear h4p h4q
  have ab : ∀ o, Below w4.heap.size w4 (w4.alloc o) := fun o => (Below.refl _ _).alloc (Nat.le_refl _) o
  obtain ⟨fg0, fg1, -, -, lg⟩ := box2 kg
  obtain ⟨fm0, fm1, -, -, lm⟩ := box2 km
  go_wp2_with fail
  refine (specLogOk_any _ a b _ (R1.below (ab _))).mono ?_
  rintro e w5 ⟨rfl, B⟩
  clear fg0 fg1 lg fm0 fm1 lm
  replace R1 := (R1.below (ab _)).below B
  replace RU := (RU.below (ab _)).below B
  replace R2 := (R2.below (ab _)).below B
  replace R3 := (R3.below (ab _)).below B
  replace R4 := (R4.below (ab _)).below B
  replace kg := box_below B (box_alloc kg _)
  replace km := box_below B (box_alloc km _)
  have kx := box_below B (box_new w4 (.cells #[.slice x4 n4 y4, .slice z4 m4 t4] 24))
  replace X := Below.step (Below.step X (ab _)) B
  have s5 : w4.heap.size + 1 ≤ w5.heap.size := by have := B.size; simp at this; omega
  clear B ab
  by_cases hok : a.length + b.length ≤ 1000000
  rotate_left
  · have hd : decide (a.length + b.length ≤ 1000000) = false := by simp [hok]
    rw [hd]
    obtain ⟨fg0, fg1, -, -, lg⟩ := box2 kg
    obtain ⟨fm0, fm1, -, -, lm⟩ := box2 km
    obtain ⟨fx0, fx1, -, -, lx⟩ := box2 kx
    obtain rfl : P = [] := by rw [← HPE.out]; simp [mendA, hok]
    have HD : Hid (decide (a.length + b.length ≤ 1000000) = false) := hd
    clear hd
    go_wp2_with fail
    refine (implLogOk_any _ a b _ R1 (by omega) (by omega)).mono ?_
    rintro e w6 ⟨rfl, B⟩
    rw [HD.out]
    replace X := Below.step X B
    clear B fg0 fg1 fm0 fm1 fx0 fx1 R1 R2 R3 R4 RU kg km kx
    go_wp2
    go_ret
    exact ⟨rfl, X⟩
  have hd : decide (a.length + b.length ≤ 1000000) = true := by simp [hok]
  rw [hd]
  clear hd
  cases ok
  · have hno := logs_no P r (by omega) HWE.out
    obtain ⟨fg0, fg1, -, -, lg⟩ := box2 kg
    obtain ⟨fm0, fm1, -, -, lm⟩ := box2 km
    obtain ⟨fx0, fx1, -, -, lx⟩ := box2 kx
    clear R1 R2 R3 R4 RU kg km kx
    by_cases h6 : (6000 : Int) < r.length
    · go_wp2
      go_ret
      exact ⟨rfl, X⟩
    · have h9 : (993990 : Int) < P.length := by omega
      go_wp2
      go_ret
      exact ⟨rfl, X⟩
  obtain ⟨rfl, hr6, hA, hB, hSy, hSc, hQl⟩ := logs_yes a b P r S3 e3 hok HPE.out HSE.out HWE.out
  rw [hA, hB] at R4
  have HSY : Hid (syncA P (frameL r) = P ++ frameL r) := hSy
  have hFl : (frameL r).length ≤ 1000000 := by simp at hQl; omega
  generalize hQe : P ++ frameL r = Q at hSc hQl HSY
  have HSC : Hid (scanA Q [] = (S3 ++ [r], Q.length)) := hSc
  clear hA hB hSy hSc hQe
  clear R1
  clear kg
  obtain ⟨fm0, fm1, -, -, lm⟩ := box2 km
  obtain ⟨fx0, fx1, -, -, lx⟩ := box2 kx
  go_wp2_with fail
  refine (implSync_r _ P (frameL r) _ R4.v (by omega) (by omega)).mono ?_
  rintro e w6 ⟨u6, rfl, R6, B⟩
  rw [HSY.out] at R6
  clear fm0 fm1 lm fx0 fx1 lx
  replace RU := RU.below B
  replace R2 := R2.below B
  replace R3 := R3.below B
  replace R4 := R4.below B
  replace km := box_below B km
  replace kx := box_below B kx
  replace X := Below.step X B
  have s6 : w5.heap.size ≤ w6.heap.size := B.size
  clear B
  obtain ⟨p6, q6, rfl, h6p, h6q⟩ := R6.v
  obtain ⟨x6, y6, rfl⟩ := h6p.form
  obtain ⟨z6, t6, rfl⟩ := h6q.form
  simp only [List.length_nil] at *
  clear h6p h6q
  clear R4
  clear kx
  have ab : ∀ o, Below w6.heap.size w6 (w6.alloc o) := fun o => (Below.refl _ _).alloc (Nat.le_refl _) o
  obtain ⟨fm0, fm1, -, -, lm⟩ := box2 km
  go_wp2_with fail
  refine (implScan_r _ Q [] _ (R6.below (ab _)).v (by omega) (by simp)).mono ?_
  rintro e w7 ⟨u7, rfl, R7, B⟩
  rw [HSC.out] at R7 ⊢
  simp only at R7 ⊢
  clear fm0 fm1 lm
  replace RU := (RU.below (ab _)).below B
  replace R2 := (R2.below (ab _)).below B
  replace R3 := (R3.below (ab _)).below B
  replace R6 := (R6.below (ab _)).below B
  replace km := box_below B (box_alloc km _)
  have ky := box_below B (box_new w6 (.cells #[.slice x6 Q.length y6, .slice z6 0 t6] 24))
  replace X := Below.step (Below.step X (ab _)) B
  have s7 : w6.heap.size + 1 ≤ w7.heap.size := by have := B.size; simp at this; omega
  replace R7 := R7.wide (B' := w6.heap.size + 1) (by simp) (Nat.le_refl _)
  clear B ab
  have S7 : SsF w7 u7 (S3.length + 1) (fun i => (S3 ++ [r]).getD i []) := by simpa using R7.ss
  clear R7
  obtain ⟨x7, y7, us7, rfl, hc7, hd7, hcells7, hrows7⟩ := S7
  obtain ⟨b7, o7, rfl, hb7, hcl7⟩ := hcells7 (by omega)
  have HC7 : Hid (∀ i, i < S3.length + 1 → w7.cell? ⟨b7, o7 + i, none⟩ = some (us7 i)) := hcl7
  have HR7 : Hid (∀ i, i < S3.length + 1 → Bs w7 (us7 i) ((S3 ++ [r]).getD i [])) := hrows7
  have hk7 : w7.cell? ⟨b7, o7 + S3.length, none⟩ = some (us7 S3.length) := hcl7 _ (by omega)
  have HU7 : Hid (Bs w7 (us7 S3.length) r) := by have := hrows7 S3.length (by omega); simpa [Hid] using this
  clear hcl7 hrows7 hcells7
  unfold maxLen at hd7 hd3
  obtain ⟨g3, c3, us3', hv3, -, -, hcells3, hrows3⟩ := R3.ss
  simp only [Value.slice.injEq] at hv3
  obtain ⟨rfl, -, rfl⟩ := hv3
  have HC3 : Hid (0 < S3.length → ∃ b off, x3 = some ⟨b, off, none⟩ ∧ b < w7.heap.size ∧ ∀ i, i < S3.length → w7.cell? ⟨b, off + i, none⟩ = some (us3' i)) := hcells3
  have HR3 : Hid (∀ i, i < S3.length → Bs w7 (us3' i) (S3.getD i [])) := hrows3
  clear hcells3 hrows3
  clear R3
  obtain ⟨fm0, fm1, -, -, lm⟩ := box2 km
  obtain ⟨fy0, fy1, -, -, ly⟩ := box2 ky
  go_wp2_with fail
  refine (sameBytes_yes _ _ r _ HU7.out RU).mono ?_
  rintro e w8 ⟨rfl, B⟩
  have HB : Hid (Below w7.heap.size w7 w8) := B
  clear hk7 HU7
  clear fm0 fm1 lm fy0 fy1 ly
  replace RU := RU.below B
  replace R2 := R2.below B
  replace R6 := R6.below B
  replace km := box_below B km
  replace ky := box_below B ky
  replace X := Below.step X B
  have s8 : w7.heap.size ≤ w8.heap.size := B.size
  clear B
  have hl3 : (S3.length : Int) ≤ 9223372036854775807 := by omega
  obtain ⟨fm0, fm1, -, -, lm⟩ := box2 km
  obtain ⟨fy0, fy1, -, -, ly⟩ := box2 ky
  clear RU R2 R6 km ky HSE HSC HSY HWE HPE HS HV
  go_wp2
  go_loopw [13] (fun i wr => ∃ k : Nat, k ≤ S3.length ∧ i = .int .i64 k ∧ Hid (Below w7.heap.size w7 wr) ∧ Hid (Below w.heap.size w wr)) (fun i _ => S3.length - (intOf i).toNat)
  case atStart => exact ⟨0, Nat.zero_le _, rfl, HB, X⟩
  case round =>
    obtain ⟨k, hk, rfl, hB, hX⟩ := hrel
    clear fm0 fm1 lm fy0 fy1 ly
    by_cases hlt : k < S3.length
    · obtain ⟨b3, o3, rfl, hb3, hcl3⟩ := HC3.out (by omega)
      have hx : wr.cell? ⟨b3, o3 + k, none⟩ = some (us3' k) := (hB.out.cell (p := ⟨b3, o3 + k, none⟩) hb3).trans (hcl3 k hlt)
      have hx' : wr.cell? ⟨b7, o7 + k, none⟩ = some (us7 k) := (hB.out.cell (p := ⟨b7, o7 + k, none⟩) hb7).trans (HC7.out k (by omega))
      have HA : Hid (Bs wr.drew (us3' k) (S3.getD k []) ∧ Bs wr.drew (us7 k) (S3.getD k [])) := ⟨(HR3.out k hlt).below hB.out.drew, by have := (HR7.out k (by omega)).below hB.out.drew; rwa [getD_app _ _ _ hlt] at this⟩
      have hlt1 : (k : Int) < (S3.length : Int) + 1 := by omega
      have hlt0 : (0 : Int) ≤ k := by omega
      have hlt2 : (k : Int) ≤ (S3.length : Int) + 1 := by omega
      clear HC3 HC7 HR3 HR7 hcl3
      generalize us3' k = U at hx HA
      generalize us7 k = U' at hx' HA
      go_wp2
      go_region_held3 (fun w' => w'.cell? ⟨b3, o3 + k, none⟩ = some U ∧ w'.cell? ⟨b7, o7 + k, none⟩ = some U')
        (first | go_keep | exact ⟨hx, hx'⟩ | exact ⟨(B.cell (by exact Nat.lt_of_lt_of_le hb3 hB.out.size)).trans hx, (B.cell (by exact Nat.lt_of_lt_of_le hb7 hB.out.size)).trans hx'⟩)
        ((go_at_call 12; refine (sameBytes_yes _ _ (S3.getD k []) _ HA.out.1 HA.out.2).mono ?_; rintro e w9 ⟨rfl, B⟩))
      go_wp2
      go_roundw
      case rel => exact ⟨k + 1, by omega, by go_num, Below.step hB.out (Below.step ((Below.refl _ _).drew) B), Below.step hX.out (Below.step ((Below.refl _ _).drew) B)⟩
      case measure => simp [intOf]; omega
    · go_wp2
      go_ret
      exact ⟨rfl, hX.out⟩

end Go.Proofs.YtiafkmjndcfjlaaDoor
