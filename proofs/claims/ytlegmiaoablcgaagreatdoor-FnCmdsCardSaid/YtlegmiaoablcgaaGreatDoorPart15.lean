/- The proof's texts, part 15. -/
import Derived.Test.YtlegmiaoablcgaaGreatDoorPart14

/- What CmdText of package impl does, kinds 2, 4. -/
namespace Go.Proofs.YtlegmiaoablcgaaGreatDoor
open Go.RowKit
set_option maxRecDepth 100000
set_option linter.unusedVariables false

set_option maxRecDepth 100000 in
set_option maxHeartbeats 4000000 in
theorem implCmdText_2 (a0 a1 a2 : Option Addr) (n0 n1 n2 c0 c1 c2 : Nat) (bx tt : List Int) (uid mode fl si : Int) (tx : List Int) (w : World) (HV : Hid (∀ wi, Below w.heap.size w wi → CmdV wi (.agg #[.int .i64 2, .slice a0 n0 c0, .slice a1 n1 c1, .int .i64 uid, .int .i64 mode, .int .i64 fl, .int .i64 si, .slice a2 n2 c2]) 2 bx tt uid mode fl si tx)) (HO : Hid (∀ wi, Below w.heap.size w wi → Calls Tryz.prog 7 #[.agg #[.int .i64 2, .slice a0 n0 c0, .slice a1 n1 c1, .int .i64 uid, .int .i64 mode, .int .i64 fl, .int .i64 si, .slice a2 n2 c2]] wi fun e w' => e = .returned (.bool true) ∧ Below wi.heap.size wi w'))
    (ss : List (List Int)) (hsl : ss.length ≤ 100) (hst : ∀ s, s ∈ ss → s.length ≤ 1000)
    (HT : Hid (∀ wi, Below w.heap.size w wi → Calls Tryz.prog 35 #[.agg #[.int .i64 2, .slice a0 n0 c0, .slice a1 n1 c1, .int .i64 uid, .int .i64 mode, .int .i64 fl, .int .i64 si, .slice a2 n2 c2]] wi fun e w' => ∃ u, e = .returned u ∧ StrsV w' u ss ∧ Below wi.heap.size wi w')) :
    Calls Tryz.prog 5 #[.agg #[.int .i64 2, .slice a0 n0 c0, .slice a1 n1 c1, .int .i64 uid, .int .i64 mode, .int .i64 fl, .int .i64 si, .slice a2 n2 c2]] w fun e w' => ∃ u, e = .returned (.tuple #[u, .bool true]) ∧ Row w' w.heap.size w'.heap.size u (kindW 2 ++ ss.flatMap tokB) ∧ Below w.heap.size w w' := by
  have HX : Hid (Below w.heap.size w (w.alloc (.cells #[.int .i64 2, .slice a0 n0 c0, .slice a1 n1 c1, .int .i64 uid, .int .i64 mode, .int .i64 fl, .int .i64 si, .slice a2 n2 c2] 24))) := (Below.refl _ _).alloc (Nat.le_refl _) _
  have HK0 := box_new w (.cells #[.int .i64 2, .slice a0 n0 c0, .slice a1 n1 c1, .int .i64 uid, .int .i64 mode, .int .i64 fl, .int .i64 si, .slice a2 n2 c2] 24)
  go_enter Tryz.func5, Tryz.ntmps5
  go_wp2_with fail
  refine (HO.out _ HX.out).mono ?_
  rintro e A ⟨rfl, BA⟩
  have XA : Hid (Below w.heap.size w A) := Below.step HX.out BA
  have HK : Hid (A.heap[w.heap.size]? = some (.cells #[.int .i64 2, .slice a0 n0 c0, .slice a1 n1 c1, .int .i64 uid, .int .i64 mode, .int .i64 fl, .int .i64 si, .slice a2 n2 c2] 24)) := box_below BA HK0
  have hsA : w.heap.size ≤ A.heap.size := XA.out.size
  clear HK0 BA HX HO
  have HS : Hid (∀ w', Below A.heap.size A w' → w'.cell? ⟨w.heap.size, 0, none⟩ = some (.int .i64 2)) := fun w' h => (box8 (box_below h HK.out)).1
  have C0 : Below A.heap.size A A.drew := (Below.refl _ _).drew
  obtain ⟨f0, f1, f2, f3, f4, f5, f6, f7⟩ := box8 HK.out
  have hlA := lt_of_heap HK.out
  go_upto_region 3 with fail
  go_cut [4] (fun s wx => ∃ b, s = .pointer (some ⟨b, 0, none⟩) ∧ Hid (wx.heap[b]? = some (.cells #[.string ⟨#[65, 80, 80, 69, 78, 68]⟩, .func (.func 34) #[] #[], .func (.func 35) #[] #[]] 40 (0, 0))) ∧ Hid (Below A.heap.size A wx))
  case first =>
    clear f0 f1 f2 f3 f4 f5 f6 f7 hlA
    go_wp2
    refine wp_region_held_drew (S := fun w' => w'.cell? ⟨w.heap.size, 0, none⟩ = some (.int .i64 2)) (by kernel_rfl) (HS.out _ C0) (fun hHeld => (show wpAnyH _ _ _ _ _ 7 #[false, false, false, false, false, false, false] _ _ from ?_))
    refine tq 1 9 hHeld ?_
    refine tq 2 10 hHeld ?_
    generalize hwd : A.drew = wd at *
    refine wpAnyH_ready (rs := [0, 5]) (by kernel_rfl) (by simp) ?_
    refine AllReadyH.cons rfl (fun K hK => ?_) (AllReadyH.cons rfl (fun K hK => ?_) AllReadyH.nil)
    · go_simp
      refine (forms_r _).mono ?_
      rintro e w1 ⟨rfl, hw1⟩
      have B1 : Below wd.heap.size wd w1 := by rw [hw1]; exact (Below.refl _ _).alloc (Nat.le_refl _) _
      have KF1 : w1.heap[wd.heap.size]? = some formsO := by rw [hw1]; exact box_new wd _
      have D1 := Below.step C0 B1
      clear hw1
      refine hK.out _ _ (HS.out _ D1) (fun hHeld => ?_)
      clear hK K
      refine wpAnyH_more (S' := fun w' => (w'.cell? ⟨wd.heap.size, 6, none⟩ = some (.string ⟨#[65, 80, 80, 69, 78, 68]⟩) ∧ w'.cell? ⟨wd.heap.size, 7, none⟩ = some (.func (.func 34) #[] #[]) ∧ w'.cell? ⟨wd.heap.size, 8, none⟩ = some (.func (.func 35) #[] #[])) ∧ w'.cell? ⟨w.heap.size, 0, none⟩ = some (.int .i64 2)) (fun _ h => h.2) _ _ _ _ ?_
      replace hHeld := And.intro (formAt2 KF1) hHeld
      refine tq 3 11 hHeld ?_
      refine tq 4 12 hHeld ?_
      refine wpAnyH_ready (rs := [5]) (by kernel_rfl) (by simp) ?_
      refine AllReadyH.cons rfl (fun K hK => ?_) AllReadyH.nil
      go_simp
      have AB : Below w1.heap.size w1 (w1.alloc (.cells #[.string ⟨#[]⟩, .nilFunc, .nilFunc] 40)) := (Below.refl _ _).alloc (Nat.le_refl _) _
      have KV := box_new w1 (.cells #[.string ⟨#[]⟩, .nilFunc, .nilFunc] 40)
      have KF2 := box_below AB KF1
      have hne := lt_of_heap KF1
      have D2 := Below.step D1 AB
      refine hK.out _ _ (⟨formAt2 KF2, HS.out _ D2⟩) (fun hHeld => ?_)
      clear hK K
      generalize hwv : w1.alloc (.cells #[.string ⟨#[]⟩, .nilFunc, .nilFunc] 40) = w2 at *
      obtain ⟨oz, ol⟩ := box8z KV
      obtain ⟨o0, o1, o2⟩ := bx3s KV
      have hlv : A.heap.size ≤ w1.heap.size := D1.size
      have KW : (((w2.setCell ⟨w1.heap.size, 0, none⟩ (.string ⟨#[65, 80, 80, 69, 78, 68]⟩)).setCell ⟨w1.heap.size, 1, none⟩ (.func (.func 34) #[] #[])).setCell ⟨w1.heap.size, 2, none⟩ (.func (.func 35) #[] #[])).heap[w1.heap.size]? = some (.cells #[.string ⟨#[65, 80, 80, 69, 78, 68]⟩, .func (.func 34) #[] #[], .func (.func 35) #[] #[]] 40 (0, 0)) := box_set (i := 2) (box_set (i := 1) (box_set (i := 0) KV))
      have DW : Below A.heap.size A (((w2.setCell ⟨w1.heap.size, 0, none⟩ (.string ⟨#[65, 80, 80, 69, 78, 68]⟩)).setCell ⟨w1.heap.size, 1, none⟩ (.func (.func 34) #[] #[])).setCell ⟨w1.heap.size, 2, none⟩ (.func (.func 35) #[] #[])) := ((D2.setCell (p := ⟨w1.heap.size, 0, none⟩) hlv _).setCell (p := ⟨w1.heap.size, 1, none⟩) hlv _).setCell (p := ⟨w1.heap.size, 2, none⟩) hlv _
      have KFW := box_other (i := 2) (v := .func (.func 35) #[] #[]) (box_other (i := 1) (v := .func (.func 34) #[] #[]) (box_other (i := 0) (v := .string ⟨#[65, 80, 80, 69, 78, 68]⟩) KF2 (show wd.heap.size ≠ w1.heap.size by omega)) (show wd.heap.size ≠ w1.heap.size by omega)) (show wd.heap.size ≠ w1.heap.size by omega)
      have st1 := run_storeF (P := Tryz.prog) (w2.setCell ⟨w1.heap.size, 0, none⟩ (.string ⟨#[65, 80, 80, 69, 78, 68]⟩)) w1.heap.size 1 _ _ (.func (.func 34) #[] #[]) (box_set (i := 0) KV) (by simp) rfl
      have st2 := run_storeF (P := Tryz.prog) ((w2.setCell ⟨w1.heap.size, 0, none⟩ (.string ⟨#[65, 80, 80, 69, 78, 68]⟩)).setCell ⟨w1.heap.size, 1, none⟩ (.func (.func 34) #[] #[])) w1.heap.size 2 _ _ (.func (.func 35) #[] #[]) (box_set (i := 1) (box_set (i := 0) KV)) (by simp) rfl
      refine wpAnyH_ready (rs := [6]) (by kernel_rfl) (by simp) ?_
      refine AllReadyH.cons rfl (fun K hK => ?_) AllReadyH.nil
      go_simp
      refine hK.out _ _ (⟨formAt2 KFW, HS.out _ DW⟩) (fun hHeld => ?_)
      clear hK K
      refine wpAnyH_done (by kernel_rfl) ?_ _
      go_wp2
      go_meet
      case rel => exact ⟨w1.heap.size, rfl, KW, DW⟩
    · go_simp
      have AB : Below wd.heap.size wd (wd.alloc (.cells #[.string ⟨#[]⟩, .nilFunc, .nilFunc] 40)) := (Below.refl _ _).alloc (Nat.le_refl _) _
      have KV0 := box_new wd (.cells #[.string ⟨#[]⟩, .nilFunc, .nilFunc] 40)
      have hne := lt_of_heap KV0
      have D1 := Below.step C0 AB
      refine hK.out _ _ (HS.out _ D1) (fun hHeld => ?_)
      clear hK K
      generalize hwv : wd.alloc (.cells #[.string ⟨#[]⟩, .nilFunc, .nilFunc] 40) = w1 at *
      refine wpAnyH_ready (rs := [0]) (by kernel_rfl) (by simp) ?_
      refine AllReadyH.cons rfl (fun K hK => ?_) AllReadyH.nil
      go_simp
      refine (forms_r _).mono ?_
      rintro e w2 ⟨rfl, hw2⟩
      have B2 : Below w1.heap.size w1 w2 := by rw [hw2]; exact (Below.refl _ _).alloc (Nat.le_refl _) _
      have KF2 : w2.heap[w1.heap.size]? = some formsO := by rw [hw2]; exact box_new w1 _
      have D2 := Below.step D1 B2
      clear hw2
      have KV := box_below B2 KV0
      refine hK.out _ _ (HS.out _ D2) (fun hHeld => ?_)
      clear hK K
      refine wpAnyH_more (S' := fun w' => (w'.cell? ⟨w1.heap.size, 6, none⟩ = some (.string ⟨#[65, 80, 80, 69, 78, 68]⟩) ∧ w'.cell? ⟨w1.heap.size, 7, none⟩ = some (.func (.func 34) #[] #[]) ∧ w'.cell? ⟨w1.heap.size, 8, none⟩ = some (.func (.func 35) #[] #[])) ∧ w'.cell? ⟨w.heap.size, 0, none⟩ = some (.int .i64 2)) (fun _ h => h.2) _ _ _ _ ?_
      replace hHeld := And.intro (formAt2 KF2) hHeld
      refine tq 3 11 hHeld ?_
      refine tq 4 12 hHeld ?_
      obtain ⟨oz, ol⟩ := box8z KV
      obtain ⟨o0, o1, o2⟩ := bx3s KV
      have hlv : A.heap.size ≤ wd.heap.size := C0.size
      have KW : (((w2.setCell ⟨wd.heap.size, 0, none⟩ (.string ⟨#[65, 80, 80, 69, 78, 68]⟩)).setCell ⟨wd.heap.size, 1, none⟩ (.func (.func 34) #[] #[])).setCell ⟨wd.heap.size, 2, none⟩ (.func (.func 35) #[] #[])).heap[wd.heap.size]? = some (.cells #[.string ⟨#[65, 80, 80, 69, 78, 68]⟩, .func (.func 34) #[] #[], .func (.func 35) #[] #[]] 40 (0, 0)) := box_set (i := 2) (box_set (i := 1) (box_set (i := 0) KV))
      have DW : Below A.heap.size A (((w2.setCell ⟨wd.heap.size, 0, none⟩ (.string ⟨#[65, 80, 80, 69, 78, 68]⟩)).setCell ⟨wd.heap.size, 1, none⟩ (.func (.func 34) #[] #[])).setCell ⟨wd.heap.size, 2, none⟩ (.func (.func 35) #[] #[])) := ((D2.setCell (p := ⟨wd.heap.size, 0, none⟩) hlv _).setCell (p := ⟨wd.heap.size, 1, none⟩) hlv _).setCell (p := ⟨wd.heap.size, 2, none⟩) hlv _
      have KFW := box_other (i := 2) (v := .func (.func 35) #[] #[]) (box_other (i := 1) (v := .func (.func 34) #[] #[]) (box_other (i := 0) (v := .string ⟨#[65, 80, 80, 69, 78, 68]⟩) KF2 (show w1.heap.size ≠ wd.heap.size by omega)) (show w1.heap.size ≠ wd.heap.size by omega)) (show w1.heap.size ≠ wd.heap.size by omega)
      have st1 := run_storeF (P := Tryz.prog) (w2.setCell ⟨wd.heap.size, 0, none⟩ (.string ⟨#[65, 80, 80, 69, 78, 68]⟩)) wd.heap.size 1 _ _ (.func (.func 34) #[] #[]) (box_set (i := 0) KV) (by simp) rfl
      have st2 := run_storeF (P := Tryz.prog) ((w2.setCell ⟨wd.heap.size, 0, none⟩ (.string ⟨#[65, 80, 80, 69, 78, 68]⟩)).setCell ⟨wd.heap.size, 1, none⟩ (.func (.func 34) #[] #[])) wd.heap.size 2 _ _ (.func (.func 35) #[] #[]) (box_set (i := 1) (box_set (i := 0) KV)) (by simp) rfl
      refine wpAnyH_ready (rs := [6]) (by kernel_rfl) (by simp) ?_
      refine AllReadyH.cons rfl (fun K hK => ?_) AllReadyH.nil
      go_simp
      refine hK.out _ _ (⟨formAt2 KFW, HS.out _ DW⟩) (fun hHeld => ?_)
      clear hK K
      refine wpAnyH_done (by kernel_rfl) ?_ _
      go_wp2
      go_meet
      case rel => exact ⟨wd.heap.size, rfl, KW, DW⟩
  case rest =>
    obtain ⟨b4, rfl, K4, X4⟩ := hcut
    clear f0 f1 f2 f3 f4 f5 f6 f7 hlA HS C0
    have HS2 : Hid (∀ w', Below wc.heap.size wc w' → (w'.cell? ⟨b4, 0, none⟩ = some (.string ⟨#[65, 80, 80, 69, 78, 68]⟩) ∧ w'.cell? ⟨b4, 1, none⟩ = some (.func (.func 34) #[] #[]) ∧ w'.cell? ⟨b4, 2, none⟩ = some (.func (.func 35) #[] #[])) ∧ w'.cell? ⟨w.heap.size, 0, none⟩ = some (.int .i64 2) ∧ w'.cell? ⟨w.heap.size, 1, none⟩ = some (.slice a0 n0 c0) ∧ w'.cell? ⟨w.heap.size, 2, none⟩ = some (.slice a1 n1 c1) ∧ w'.cell? ⟨w.heap.size, 3, none⟩ = some (.int .i64 uid) ∧ w'.cell? ⟨w.heap.size, 4, none⟩ = some (.int .i64 mode) ∧ w'.cell? ⟨w.heap.size, 5, none⟩ = some (.int .i64 fl) ∧ w'.cell? ⟨w.heap.size, 6, none⟩ = some (.int .i64 si) ∧ w'.cell? ⟨w.heap.size, 7, none⟩ = some (.slice a2 n2 c2)) := by
      intro w' h
      obtain ⟨p0, p1, p2⟩ := bx3s (box_below h K4.out)
      exact ⟨⟨p0, p1, p2⟩, box8 (box_below h (box_below X4.out HK.out))⟩
    have XC : Hid (Below w.heap.size w wc) := Below.step XA.out X4.out
    have D0 : Below wc.heap.size wc wc.drew := (Below.refl _ _).drew
    have hsC := XC.out.size
    obtain ⟨p0, p1, p2⟩ := bx3s K4.out
    have hl4 := lt_of_heap K4.out
    obtain ⟨f0, f1, f2, f3, f4, f5, f6, f7⟩ := box8 (box_below X4.out HK.out)
    have hlA := lt_of_heap (box_below X4.out HK.out)
    go_wp2
    refine wp_region_held_drew (S := fun w' => (w'.cell? ⟨b4, 0, none⟩ = some (.string ⟨#[65, 80, 80, 69, 78, 68]⟩) ∧ w'.cell? ⟨b4, 1, none⟩ = some (.func (.func 34) #[] #[]) ∧ w'.cell? ⟨b4, 2, none⟩ = some (.func (.func 35) #[] #[])) ∧ w'.cell? ⟨w.heap.size, 0, none⟩ = some (.int .i64 2) ∧ w'.cell? ⟨w.heap.size, 1, none⟩ = some (.slice a0 n0 c0) ∧ w'.cell? ⟨w.heap.size, 2, none⟩ = some (.slice a1 n1 c1) ∧ w'.cell? ⟨w.heap.size, 3, none⟩ = some (.int .i64 uid) ∧ w'.cell? ⟨w.heap.size, 4, none⟩ = some (.int .i64 mode) ∧ w'.cell? ⟨w.heap.size, 5, none⟩ = some (.int .i64 fl) ∧ w'.cell? ⟨w.heap.size, 6, none⟩ = some (.int .i64 si) ∧ w'.cell? ⟨w.heap.size, 7, none⟩ = some (.slice a2 n2 c2)) (by kernel_rfl) (HS2.out _ D0) (fun hHeld => (show wpAnyH _ _ _ _ _ 9 #[false, false, false, false, false, false, false, false, false] _ _ from ?_))
    refine tq 0 13 hHeld ?_
    refine tq 1 14 hHeld ?_
    refine tq 2 15 hHeld ?_
    refine tq 3 16 hHeld ?_
    refine tq 4 17 hHeld ?_
    generalize hwd4 : wc.drew = wd4 at *
    refine wpAnyH_ready (rs := [5]) (by kernel_rfl) (by simp) ?_
    refine AllReadyH.cons rfl (fun K hK => ?_) AllReadyH.nil
    go_simp
    refine (HT.out _ (Below.step XC.out D0)).mono ?_
    rintro e w5 ⟨u5, rfl, R5, B5⟩
    have D5 := Below.step D0 B5
    refine hK.out _ _ (HS2.out _ D5) (fun hHeld => ?_)
    clear hK K
    refine wpAnyH_ready (rs := [6]) (by kernel_rfl) (by simp) ?_
    refine AllReadyH.cons rfl (fun K hK => ?_) AllReadyH.nil
    go_simp
    refine (putTokens_b w5.heap.size _ u5 [] (kindW 2) ss _ (OwnB.nil' _ _) (Nat.le_refl _) (by intro x hx; simp [kindW] at hx; omega) (fun wi h => R5.below keepsStr (h.below)) (by simp) (by decide) hsl hst).mono ?_
    rintro e w6 ⟨u6, rfl, R6, B6⟩
    have D6 : Below wc.heap.size wc w6 := Below.step D5 (B6.below)
    refine hK.out _ _ (HS2.out _ D6) (fun hHeld => ?_)
    clear hK K
    refine tq 7 2 hHeld ?_
    refine tq 8 3 hHeld ?_
    refine wpAnyH_done (by kernel_rfl) ?_ _
    have HF : Hid (Row w6 w.heap.size w6.heap.size u6 (kindW 2 ++ ss.flatMap tokB)) := by
      have h := R6.toRow
      have h5 := D5.size
      simp only [List.nil_append] at h
      exact h.wide (by omega) (Nat.le_refl _)
    have HB : Hid (Below w.heap.size w w6) := Below.step XC.out D6
    clear HS2 D0 D5 D6 R5 B5 R6 B6 hHeld
    go_wp2
    exact bodyPost_ret (v := .tuple #[u6, .bool true]) (by simp [results, Tryz.results5, go_sem]) rfl ⟨u6, rfl, HF.out, HB.out⟩

set_option maxRecDepth 100000 in
set_option maxHeartbeats 4000000 in
theorem implCmdText_4 (a0 a1 a2 : Option Addr) (n0 n1 n2 c0 c1 c2 : Nat) (bx tt : List Int) (uid mode fl si : Int) (tx : List Int) (w : World) (HV : Hid (∀ wi, Below w.heap.size w wi → CmdV wi (.agg #[.int .i64 4, .slice a0 n0 c0, .slice a1 n1 c1, .int .i64 uid, .int .i64 mode, .int .i64 fl, .int .i64 si, .slice a2 n2 c2]) 4 bx tt uid mode fl si tx)) (HO : Hid (∀ wi, Below w.heap.size w wi → Calls Tryz.prog 7 #[.agg #[.int .i64 4, .slice a0 n0 c0, .slice a1 n1 c1, .int .i64 uid, .int .i64 mode, .int .i64 fl, .int .i64 si, .slice a2 n2 c2]] wi fun e w' => e = .returned (.bool true) ∧ Below wi.heap.size wi w'))
    (ss : List (List Int)) (hsl : ss.length ≤ 100) (hst : ∀ s, s ∈ ss → s.length ≤ 1000)
    (HT : Hid (∀ wi, Below w.heap.size w wi → Calls Tryz.prog 33 #[.agg #[.int .i64 4, .slice a0 n0 c0, .slice a1 n1 c1, .int .i64 uid, .int .i64 mode, .int .i64 fl, .int .i64 si, .slice a2 n2 c2]] wi fun e w' => ∃ u, e = .returned u ∧ StrsV w' u ss ∧ Below wi.heap.size wi w')) :
    Calls Tryz.prog 5 #[.agg #[.int .i64 4, .slice a0 n0 c0, .slice a1 n1 c1, .int .i64 uid, .int .i64 mode, .int .i64 fl, .int .i64 si, .slice a2 n2 c2]] w fun e w' => ∃ u, e = .returned (.tuple #[u, .bool true]) ∧ Row w' w.heap.size w'.heap.size u (kindW 4 ++ ss.flatMap tokB) ∧ Below w.heap.size w w' := by
  have HX : Hid (Below w.heap.size w (w.alloc (.cells #[.int .i64 4, .slice a0 n0 c0, .slice a1 n1 c1, .int .i64 uid, .int .i64 mode, .int .i64 fl, .int .i64 si, .slice a2 n2 c2] 24))) := (Below.refl _ _).alloc (Nat.le_refl _) _
  have HK0 := box_new w (.cells #[.int .i64 4, .slice a0 n0 c0, .slice a1 n1 c1, .int .i64 uid, .int .i64 mode, .int .i64 fl, .int .i64 si, .slice a2 n2 c2] 24)
  go_enter Tryz.func5, Tryz.ntmps5
  go_wp2_with fail
  refine (HO.out _ HX.out).mono ?_
  rintro e A ⟨rfl, BA⟩
  have XA : Hid (Below w.heap.size w A) := Below.step HX.out BA
  have HK : Hid (A.heap[w.heap.size]? = some (.cells #[.int .i64 4, .slice a0 n0 c0, .slice a1 n1 c1, .int .i64 uid, .int .i64 mode, .int .i64 fl, .int .i64 si, .slice a2 n2 c2] 24)) := box_below BA HK0
  have hsA : w.heap.size ≤ A.heap.size := XA.out.size
  clear HK0 BA HX HO
  have HS : Hid (∀ w', Below A.heap.size A w' → w'.cell? ⟨w.heap.size, 0, none⟩ = some (.int .i64 4)) := fun w' h => (box8 (box_below h HK.out)).1
  have C0 : Below A.heap.size A A.drew := (Below.refl _ _).drew
  obtain ⟨f0, f1, f2, f3, f4, f5, f6, f7⟩ := box8 HK.out
  have hlA := lt_of_heap HK.out
  go_upto_region 3 with fail
  go_cut [4] (fun s wx => ∃ b, s = .pointer (some ⟨b, 0, none⟩) ∧ Hid (wx.heap[b]? = some (.cells #[.string ⟨#[69, 88, 80, 85, 78, 71, 69]⟩, .func (.func 32) #[] #[], .func (.func 33) #[] #[]] 40 (0, 0))) ∧ Hid (Below A.heap.size A wx))
  case first =>
    clear f0 f1 f2 f3 f4 f5 f6 f7 hlA
    go_wp2
    refine wp_region_held_drew (S := fun w' => w'.cell? ⟨w.heap.size, 0, none⟩ = some (.int .i64 4)) (by kernel_rfl) (HS.out _ C0) (fun hHeld => (show wpAnyH _ _ _ _ _ 7 #[false, false, false, false, false, false, false] _ _ from ?_))
    refine tq 1 9 hHeld ?_
    refine tq 2 10 hHeld ?_
    generalize hwd : A.drew = wd at *
    refine wpAnyH_ready (rs := [0, 5]) (by kernel_rfl) (by simp) ?_
    refine AllReadyH.cons rfl (fun K hK => ?_) (AllReadyH.cons rfl (fun K hK => ?_) AllReadyH.nil)
    · go_simp
      refine (forms_r _).mono ?_
      rintro e w1 ⟨rfl, hw1⟩
      have B1 : Below wd.heap.size wd w1 := by rw [hw1]; exact (Below.refl _ _).alloc (Nat.le_refl _) _
      have KF1 : w1.heap[wd.heap.size]? = some formsO := by rw [hw1]; exact box_new wd _
      have D1 := Below.step C0 B1
      clear hw1
      refine hK.out _ _ (HS.out _ D1) (fun hHeld => ?_)
      clear hK K
      refine wpAnyH_more (S' := fun w' => (w'.cell? ⟨wd.heap.size, 12, none⟩ = some (.string ⟨#[69, 88, 80, 85, 78, 71, 69]⟩) ∧ w'.cell? ⟨wd.heap.size, 13, none⟩ = some (.func (.func 32) #[] #[]) ∧ w'.cell? ⟨wd.heap.size, 14, none⟩ = some (.func (.func 33) #[] #[])) ∧ w'.cell? ⟨w.heap.size, 0, none⟩ = some (.int .i64 4)) (fun _ h => h.2) _ _ _ _ ?_
      replace hHeld := And.intro (formAt4 KF1) hHeld
      refine tq 3 11 hHeld ?_
      refine tq 4 12 hHeld ?_
      refine wpAnyH_ready (rs := [5]) (by kernel_rfl) (by simp) ?_
      refine AllReadyH.cons rfl (fun K hK => ?_) AllReadyH.nil
      go_simp
      have AB : Below w1.heap.size w1 (w1.alloc (.cells #[.string ⟨#[]⟩, .nilFunc, .nilFunc] 40)) := (Below.refl _ _).alloc (Nat.le_refl _) _
      have KV := box_new w1 (.cells #[.string ⟨#[]⟩, .nilFunc, .nilFunc] 40)
      have KF2 := box_below AB KF1
      have hne := lt_of_heap KF1
      have D2 := Below.step D1 AB
      refine hK.out _ _ (⟨formAt4 KF2, HS.out _ D2⟩) (fun hHeld => ?_)
      clear hK K
      generalize hwv : w1.alloc (.cells #[.string ⟨#[]⟩, .nilFunc, .nilFunc] 40) = w2 at *
      obtain ⟨oz, ol⟩ := box8z KV
      obtain ⟨o0, o1, o2⟩ := bx3s KV
      have hlv : A.heap.size ≤ w1.heap.size := D1.size
      have KW : (((w2.setCell ⟨w1.heap.size, 0, none⟩ (.string ⟨#[69, 88, 80, 85, 78, 71, 69]⟩)).setCell ⟨w1.heap.size, 1, none⟩ (.func (.func 32) #[] #[])).setCell ⟨w1.heap.size, 2, none⟩ (.func (.func 33) #[] #[])).heap[w1.heap.size]? = some (.cells #[.string ⟨#[69, 88, 80, 85, 78, 71, 69]⟩, .func (.func 32) #[] #[], .func (.func 33) #[] #[]] 40 (0, 0)) := box_set (i := 2) (box_set (i := 1) (box_set (i := 0) KV))
      have DW : Below A.heap.size A (((w2.setCell ⟨w1.heap.size, 0, none⟩ (.string ⟨#[69, 88, 80, 85, 78, 71, 69]⟩)).setCell ⟨w1.heap.size, 1, none⟩ (.func (.func 32) #[] #[])).setCell ⟨w1.heap.size, 2, none⟩ (.func (.func 33) #[] #[])) := ((D2.setCell (p := ⟨w1.heap.size, 0, none⟩) hlv _).setCell (p := ⟨w1.heap.size, 1, none⟩) hlv _).setCell (p := ⟨w1.heap.size, 2, none⟩) hlv _
      have KFW := box_other (i := 2) (v := .func (.func 33) #[] #[]) (box_other (i := 1) (v := .func (.func 32) #[] #[]) (box_other (i := 0) (v := .string ⟨#[69, 88, 80, 85, 78, 71, 69]⟩) KF2 (show wd.heap.size ≠ w1.heap.size by omega)) (show wd.heap.size ≠ w1.heap.size by omega)) (show wd.heap.size ≠ w1.heap.size by omega)
      have st1 := run_storeF (P := Tryz.prog) (w2.setCell ⟨w1.heap.size, 0, none⟩ (.string ⟨#[69, 88, 80, 85, 78, 71, 69]⟩)) w1.heap.size 1 _ _ (.func (.func 32) #[] #[]) (box_set (i := 0) KV) (by simp) rfl
      have st2 := run_storeF (P := Tryz.prog) ((w2.setCell ⟨w1.heap.size, 0, none⟩ (.string ⟨#[69, 88, 80, 85, 78, 71, 69]⟩)).setCell ⟨w1.heap.size, 1, none⟩ (.func (.func 32) #[] #[])) w1.heap.size 2 _ _ (.func (.func 33) #[] #[]) (box_set (i := 1) (box_set (i := 0) KV)) (by simp) rfl
      refine wpAnyH_ready (rs := [6]) (by kernel_rfl) (by simp) ?_
      refine AllReadyH.cons rfl (fun K hK => ?_) AllReadyH.nil
      go_simp
      refine hK.out _ _ (⟨formAt4 KFW, HS.out _ DW⟩) (fun hHeld => ?_)
      clear hK K
      refine wpAnyH_done (by kernel_rfl) ?_ _
      go_wp2
      go_meet
      case rel => exact ⟨w1.heap.size, rfl, KW, DW⟩
    · go_simp
      have AB : Below wd.heap.size wd (wd.alloc (.cells #[.string ⟨#[]⟩, .nilFunc, .nilFunc] 40)) := (Below.refl _ _).alloc (Nat.le_refl _) _
      have KV0 := box_new wd (.cells #[.string ⟨#[]⟩, .nilFunc, .nilFunc] 40)
      have hne := lt_of_heap KV0
      have D1 := Below.step C0 AB
      refine hK.out _ _ (HS.out _ D1) (fun hHeld => ?_)
      clear hK K
      generalize hwv : wd.alloc (.cells #[.string ⟨#[]⟩, .nilFunc, .nilFunc] 40) = w1 at *
      refine wpAnyH_ready (rs := [0]) (by kernel_rfl) (by simp) ?_
      refine AllReadyH.cons rfl (fun K hK => ?_) AllReadyH.nil
      go_simp
      refine (forms_r _).mono ?_
      rintro e w2 ⟨rfl, hw2⟩
      have B2 : Below w1.heap.size w1 w2 := by rw [hw2]; exact (Below.refl _ _).alloc (Nat.le_refl _) _
      have KF2 : w2.heap[w1.heap.size]? = some formsO := by rw [hw2]; exact box_new w1 _
      have D2 := Below.step D1 B2
      clear hw2
      have KV := box_below B2 KV0
      refine hK.out _ _ (HS.out _ D2) (fun hHeld => ?_)
      clear hK K
      refine wpAnyH_more (S' := fun w' => (w'.cell? ⟨w1.heap.size, 12, none⟩ = some (.string ⟨#[69, 88, 80, 85, 78, 71, 69]⟩) ∧ w'.cell? ⟨w1.heap.size, 13, none⟩ = some (.func (.func 32) #[] #[]) ∧ w'.cell? ⟨w1.heap.size, 14, none⟩ = some (.func (.func 33) #[] #[])) ∧ w'.cell? ⟨w.heap.size, 0, none⟩ = some (.int .i64 4)) (fun _ h => h.2) _ _ _ _ ?_
      replace hHeld := And.intro (formAt4 KF2) hHeld
      refine tq 3 11 hHeld ?_
      refine tq 4 12 hHeld ?_
      obtain ⟨oz, ol⟩ := box8z KV
      obtain ⟨o0, o1, o2⟩ := bx3s KV
      have hlv : A.heap.size ≤ wd.heap.size := C0.size
      have KW : (((w2.setCell ⟨wd.heap.size, 0, none⟩ (.string ⟨#[69, 88, 80, 85, 78, 71, 69]⟩)).setCell ⟨wd.heap.size, 1, none⟩ (.func (.func 32) #[] #[])).setCell ⟨wd.heap.size, 2, none⟩ (.func (.func 33) #[] #[])).heap[wd.heap.size]? = some (.cells #[.string ⟨#[69, 88, 80, 85, 78, 71, 69]⟩, .func (.func 32) #[] #[], .func (.func 33) #[] #[]] 40 (0, 0)) := box_set (i := 2) (box_set (i := 1) (box_set (i := 0) KV))
      have DW : Below A.heap.size A (((w2.setCell ⟨wd.heap.size, 0, none⟩ (.string ⟨#[69, 88, 80, 85, 78, 71, 69]⟩)).setCell ⟨wd.heap.size, 1, none⟩ (.func (.func 32) #[] #[])).setCell ⟨wd.heap.size, 2, none⟩ (.func (.func 33) #[] #[])) := ((D2.setCell (p := ⟨wd.heap.size, 0, none⟩) hlv _).setCell (p := ⟨wd.heap.size, 1, none⟩) hlv _).setCell (p := ⟨wd.heap.size, 2, none⟩) hlv _
      have KFW := box_other (i := 2) (v := .func (.func 33) #[] #[]) (box_other (i := 1) (v := .func (.func 32) #[] #[]) (box_other (i := 0) (v := .string ⟨#[69, 88, 80, 85, 78, 71, 69]⟩) KF2 (show w1.heap.size ≠ wd.heap.size by omega)) (show w1.heap.size ≠ wd.heap.size by omega)) (show w1.heap.size ≠ wd.heap.size by omega)
      have st1 := run_storeF (P := Tryz.prog) (w2.setCell ⟨wd.heap.size, 0, none⟩ (.string ⟨#[69, 88, 80, 85, 78, 71, 69]⟩)) wd.heap.size 1 _ _ (.func (.func 32) #[] #[]) (box_set (i := 0) KV) (by simp) rfl
      have st2 := run_storeF (P := Tryz.prog) ((w2.setCell ⟨wd.heap.size, 0, none⟩ (.string ⟨#[69, 88, 80, 85, 78, 71, 69]⟩)).setCell ⟨wd.heap.size, 1, none⟩ (.func (.func 32) #[] #[])) wd.heap.size 2 _ _ (.func (.func 33) #[] #[]) (box_set (i := 1) (box_set (i := 0) KV)) (by simp) rfl
      refine wpAnyH_ready (rs := [6]) (by kernel_rfl) (by simp) ?_
      refine AllReadyH.cons rfl (fun K hK => ?_) AllReadyH.nil
      go_simp
      refine hK.out _ _ (⟨formAt4 KFW, HS.out _ DW⟩) (fun hHeld => ?_)
      clear hK K
      refine wpAnyH_done (by kernel_rfl) ?_ _
      go_wp2
      go_meet
      case rel => exact ⟨wd.heap.size, rfl, KW, DW⟩
  case rest =>
    obtain ⟨b4, rfl, K4, X4⟩ := hcut
    clear f0 f1 f2 f3 f4 f5 f6 f7 hlA HS C0
    have HS2 : Hid (∀ w', Below wc.heap.size wc w' → (w'.cell? ⟨b4, 0, none⟩ = some (.string ⟨#[69, 88, 80, 85, 78, 71, 69]⟩) ∧ w'.cell? ⟨b4, 1, none⟩ = some (.func (.func 32) #[] #[]) ∧ w'.cell? ⟨b4, 2, none⟩ = some (.func (.func 33) #[] #[])) ∧ w'.cell? ⟨w.heap.size, 0, none⟩ = some (.int .i64 4) ∧ w'.cell? ⟨w.heap.size, 1, none⟩ = some (.slice a0 n0 c0) ∧ w'.cell? ⟨w.heap.size, 2, none⟩ = some (.slice a1 n1 c1) ∧ w'.cell? ⟨w.heap.size, 3, none⟩ = some (.int .i64 uid) ∧ w'.cell? ⟨w.heap.size, 4, none⟩ = some (.int .i64 mode) ∧ w'.cell? ⟨w.heap.size, 5, none⟩ = some (.int .i64 fl) ∧ w'.cell? ⟨w.heap.size, 6, none⟩ = some (.int .i64 si) ∧ w'.cell? ⟨w.heap.size, 7, none⟩ = some (.slice a2 n2 c2)) := by
      intro w' h
      obtain ⟨p0, p1, p2⟩ := bx3s (box_below h K4.out)
      exact ⟨⟨p0, p1, p2⟩, box8 (box_below h (box_below X4.out HK.out))⟩
    have XC : Hid (Below w.heap.size w wc) := Below.step XA.out X4.out
    have D0 : Below wc.heap.size wc wc.drew := (Below.refl _ _).drew
    have hsC := XC.out.size
    obtain ⟨p0, p1, p2⟩ := bx3s K4.out
    have hl4 := lt_of_heap K4.out
    obtain ⟨f0, f1, f2, f3, f4, f5, f6, f7⟩ := box8 (box_below X4.out HK.out)
    have hlA := lt_of_heap (box_below X4.out HK.out)
    go_wp2
    refine wp_region_held_drew (S := fun w' => (w'.cell? ⟨b4, 0, none⟩ = some (.string ⟨#[69, 88, 80, 85, 78, 71, 69]⟩) ∧ w'.cell? ⟨b4, 1, none⟩ = some (.func (.func 32) #[] #[]) ∧ w'.cell? ⟨b4, 2, none⟩ = some (.func (.func 33) #[] #[])) ∧ w'.cell? ⟨w.heap.size, 0, none⟩ = some (.int .i64 4) ∧ w'.cell? ⟨w.heap.size, 1, none⟩ = some (.slice a0 n0 c0) ∧ w'.cell? ⟨w.heap.size, 2, none⟩ = some (.slice a1 n1 c1) ∧ w'.cell? ⟨w.heap.size, 3, none⟩ = some (.int .i64 uid) ∧ w'.cell? ⟨w.heap.size, 4, none⟩ = some (.int .i64 mode) ∧ w'.cell? ⟨w.heap.size, 5, none⟩ = some (.int .i64 fl) ∧ w'.cell? ⟨w.heap.size, 6, none⟩ = some (.int .i64 si) ∧ w'.cell? ⟨w.heap.size, 7, none⟩ = some (.slice a2 n2 c2)) (by kernel_rfl) (HS2.out _ D0) (fun hHeld => (show wpAnyH _ _ _ _ _ 9 #[false, false, false, false, false, false, false, false, false] _ _ from ?_))
    refine tq 0 13 hHeld ?_
    refine tq 1 14 hHeld ?_
    refine tq 2 15 hHeld ?_
    refine tq 3 16 hHeld ?_
    refine tq 4 17 hHeld ?_
    generalize hwd4 : wc.drew = wd4 at *
    refine wpAnyH_ready (rs := [5]) (by kernel_rfl) (by simp) ?_
    refine AllReadyH.cons rfl (fun K hK => ?_) AllReadyH.nil
    go_simp
    refine (HT.out _ (Below.step XC.out D0)).mono ?_
    rintro e w5 ⟨u5, rfl, R5, B5⟩
    have D5 := Below.step D0 B5
    refine hK.out _ _ (HS2.out _ D5) (fun hHeld => ?_)
    clear hK K
    refine wpAnyH_ready (rs := [6]) (by kernel_rfl) (by simp) ?_
    refine AllReadyH.cons rfl (fun K hK => ?_) AllReadyH.nil
    go_simp
    refine (putTokens_b w5.heap.size _ u5 [] (kindW 4) ss _ (OwnB.nil' _ _) (Nat.le_refl _) (by intro x hx; simp [kindW] at hx; omega) (fun wi h => R5.below keepsStr (h.below)) (by simp) (by decide) hsl hst).mono ?_
    rintro e w6 ⟨u6, rfl, R6, B6⟩
    have D6 : Below wc.heap.size wc w6 := Below.step D5 (B6.below)
    refine hK.out _ _ (HS2.out _ D6) (fun hHeld => ?_)
    clear hK K
    refine tq 7 2 hHeld ?_
    refine tq 8 3 hHeld ?_
    refine wpAnyH_done (by kernel_rfl) ?_ _
    have HF : Hid (Row w6 w.heap.size w6.heap.size u6 (kindW 4 ++ ss.flatMap tokB)) := by
      have h := R6.toRow
      have h5 := D5.size
      simp only [List.nil_append] at h
      exact h.wide (by omega) (Nat.le_refl _)
    have HB : Hid (Below w.heap.size w w6) := Below.step XC.out D6
    clear HS2 D0 D5 D6 R5 B5 R6 B6 hHeld
    go_wp2
    exact bodyPost_ret (v := .tuple #[u6, .bool true]) (by simp [results, Tryz.results5, go_sem]) rfl ⟨u6, rfl, HF.out, HB.out⟩

end Go.Proofs.YtlegmiaoablcgaaGreatDoor

/- What CmdText of package impl does, kinds 3, 5. -/
namespace Go.Proofs.YtlegmiaoablcgaaGreatDoor
open Go.RowKit
set_option maxRecDepth 100000
set_option linter.unusedVariables false

set_option maxRecDepth 100000 in
set_option maxHeartbeats 4000000 in
theorem implCmdText_3 (a0 a1 a2 : Option Addr) (n0 n1 n2 c0 c1 c2 : Nat) (bx tt : List Int) (uid mode fl si : Int) (tx : List Int) (w : World) (HV : Hid (∀ wi, Below w.heap.size w wi → CmdV wi (.agg #[.int .i64 3, .slice a0 n0 c0, .slice a1 n1 c1, .int .i64 uid, .int .i64 mode, .int .i64 fl, .int .i64 si, .slice a2 n2 c2]) 3 bx tt uid mode fl si tx)) (HO : Hid (∀ wi, Below w.heap.size w wi → Calls Tryz.prog 7 #[.agg #[.int .i64 3, .slice a0 n0 c0, .slice a1 n1 c1, .int .i64 uid, .int .i64 mode, .int .i64 fl, .int .i64 si, .slice a2 n2 c2]] wi fun e w' => e = .returned (.bool true) ∧ Below wi.heap.size wi w'))
    (ss : List (List Int)) (hsl : ss.length ≤ 100) (hst : ∀ s, s ∈ ss → s.length ≤ 1000)
    (HT : Hid (∀ wi, Below w.heap.size w wi → Calls Tryz.prog 37 #[.agg #[.int .i64 3, .slice a0 n0 c0, .slice a1 n1 c1, .int .i64 uid, .int .i64 mode, .int .i64 fl, .int .i64 si, .slice a2 n2 c2]] wi fun e w' => ∃ u, e = .returned u ∧ StrsV w' u ss ∧ Below wi.heap.size wi w')) :
    Calls Tryz.prog 5 #[.agg #[.int .i64 3, .slice a0 n0 c0, .slice a1 n1 c1, .int .i64 uid, .int .i64 mode, .int .i64 fl, .int .i64 si, .slice a2 n2 c2]] w fun e w' => ∃ u, e = .returned (.tuple #[u, .bool true]) ∧ Row w' w.heap.size w'.heap.size u (kindW 3 ++ ss.flatMap tokB) ∧ Below w.heap.size w w' := by
  have HX : Hid (Below w.heap.size w (w.alloc (.cells #[.int .i64 3, .slice a0 n0 c0, .slice a1 n1 c1, .int .i64 uid, .int .i64 mode, .int .i64 fl, .int .i64 si, .slice a2 n2 c2] 24))) := (Below.refl _ _).alloc (Nat.le_refl _) _
  have HK0 := box_new w (.cells #[.int .i64 3, .slice a0 n0 c0, .slice a1 n1 c1, .int .i64 uid, .int .i64 mode, .int .i64 fl, .int .i64 si, .slice a2 n2 c2] 24)
  go_enter Tryz.func5, Tryz.ntmps5
  go_wp2_with fail
  refine (HO.out _ HX.out).mono ?_
  rintro e A ⟨rfl, BA⟩
  have XA : Hid (Below w.heap.size w A) := Below.step HX.out BA
  have HK : Hid (A.heap[w.heap.size]? = some (.cells #[.int .i64 3, .slice a0 n0 c0, .slice a1 n1 c1, .int .i64 uid, .int .i64 mode, .int .i64 fl, .int .i64 si, .slice a2 n2 c2] 24)) := box_below BA HK0
  have hsA : w.heap.size ≤ A.heap.size := XA.out.size
  clear HK0 BA HX HO
  have HS : Hid (∀ w', Below A.heap.size A w' → w'.cell? ⟨w.heap.size, 0, none⟩ = some (.int .i64 3)) := fun w' h => (box8 (box_below h HK.out)).1
  have C0 : Below A.heap.size A A.drew := (Below.refl _ _).drew
  obtain ⟨f0, f1, f2, f3, f4, f5, f6, f7⟩ := box8 HK.out
  have hlA := lt_of_heap HK.out
  go_upto_region 3 with fail
  go_cut [4] (fun s wx => ∃ b, s = .pointer (some ⟨b, 0, none⟩) ∧ Hid (wx.heap[b]? = some (.cells #[.string ⟨#[83, 84, 79, 82, 69]⟩, .func (.func 36) #[] #[], .func (.func 37) #[] #[]] 40 (0, 0))) ∧ Hid (Below A.heap.size A wx))
  case first =>
    clear f0 f1 f2 f3 f4 f5 f6 f7 hlA
    go_wp2
    refine wp_region_held_drew (S := fun w' => w'.cell? ⟨w.heap.size, 0, none⟩ = some (.int .i64 3)) (by kernel_rfl) (HS.out _ C0) (fun hHeld => (show wpAnyH _ _ _ _ _ 7 #[false, false, false, false, false, false, false] _ _ from ?_))
    refine tq 1 9 hHeld ?_
    refine tq 2 10 hHeld ?_
    generalize hwd : A.drew = wd at *
    refine wpAnyH_ready (rs := [0, 5]) (by kernel_rfl) (by simp) ?_
    refine AllReadyH.cons rfl (fun K hK => ?_) (AllReadyH.cons rfl (fun K hK => ?_) AllReadyH.nil)
    · go_simp
      refine (forms_r _).mono ?_
      rintro e w1 ⟨rfl, hw1⟩
      have B1 : Below wd.heap.size wd w1 := by rw [hw1]; exact (Below.refl _ _).alloc (Nat.le_refl _) _
      have KF1 : w1.heap[wd.heap.size]? = some formsO := by rw [hw1]; exact box_new wd _
      have D1 := Below.step C0 B1
      clear hw1
      refine hK.out _ _ (HS.out _ D1) (fun hHeld => ?_)
      clear hK K
      refine wpAnyH_more (S' := fun w' => (w'.cell? ⟨wd.heap.size, 9, none⟩ = some (.string ⟨#[83, 84, 79, 82, 69]⟩) ∧ w'.cell? ⟨wd.heap.size, 10, none⟩ = some (.func (.func 36) #[] #[]) ∧ w'.cell? ⟨wd.heap.size, 11, none⟩ = some (.func (.func 37) #[] #[])) ∧ w'.cell? ⟨w.heap.size, 0, none⟩ = some (.int .i64 3)) (fun _ h => h.2) _ _ _ _ ?_
      replace hHeld := And.intro (formAt3 KF1) hHeld
      refine tq 3 11 hHeld ?_
      refine tq 4 12 hHeld ?_
      refine wpAnyH_ready (rs := [5]) (by kernel_rfl) (by simp) ?_
      refine AllReadyH.cons rfl (fun K hK => ?_) AllReadyH.nil
      go_simp
      have AB : Below w1.heap.size w1 (w1.alloc (.cells #[.string ⟨#[]⟩, .nilFunc, .nilFunc] 40)) := (Below.refl _ _).alloc (Nat.le_refl _) _
      have KV := box_new w1 (.cells #[.string ⟨#[]⟩, .nilFunc, .nilFunc] 40)
      have KF2 := box_below AB KF1
      have hne := lt_of_heap KF1
      have D2 := Below.step D1 AB
      refine hK.out _ _ (⟨formAt3 KF2, HS.out _ D2⟩) (fun hHeld => ?_)
      clear hK K
      generalize hwv : w1.alloc (.cells #[.string ⟨#[]⟩, .nilFunc, .nilFunc] 40) = w2 at *
      obtain ⟨oz, ol⟩ := box8z KV
      obtain ⟨o0, o1, o2⟩ := bx3s KV
      have hlv : A.heap.size ≤ w1.heap.size := D1.size
      have KW : (((w2.setCell ⟨w1.heap.size, 0, none⟩ (.string ⟨#[83, 84, 79, 82, 69]⟩)).setCell ⟨w1.heap.size, 1, none⟩ (.func (.func 36) #[] #[])).setCell ⟨w1.heap.size, 2, none⟩ (.func (.func 37) #[] #[])).heap[w1.heap.size]? = some (.cells #[.string ⟨#[83, 84, 79, 82, 69]⟩, .func (.func 36) #[] #[], .func (.func 37) #[] #[]] 40 (0, 0)) := box_set (i := 2) (box_set (i := 1) (box_set (i := 0) KV))
      have DW : Below A.heap.size A (((w2.setCell ⟨w1.heap.size, 0, none⟩ (.string ⟨#[83, 84, 79, 82, 69]⟩)).setCell ⟨w1.heap.size, 1, none⟩ (.func (.func 36) #[] #[])).setCell ⟨w1.heap.size, 2, none⟩ (.func (.func 37) #[] #[])) := ((D2.setCell (p := ⟨w1.heap.size, 0, none⟩) hlv _).setCell (p := ⟨w1.heap.size, 1, none⟩) hlv _).setCell (p := ⟨w1.heap.size, 2, none⟩) hlv _
      have KFW := box_other (i := 2) (v := .func (.func 37) #[] #[]) (box_other (i := 1) (v := .func (.func 36) #[] #[]) (box_other (i := 0) (v := .string ⟨#[83, 84, 79, 82, 69]⟩) KF2 (show wd.heap.size ≠ w1.heap.size by omega)) (show wd.heap.size ≠ w1.heap.size by omega)) (show wd.heap.size ≠ w1.heap.size by omega)
      have st1 := run_storeF (P := Tryz.prog) (w2.setCell ⟨w1.heap.size, 0, none⟩ (.string ⟨#[83, 84, 79, 82, 69]⟩)) w1.heap.size 1 _ _ (.func (.func 36) #[] #[]) (box_set (i := 0) KV) (by simp) rfl
      have st2 := run_storeF (P := Tryz.prog) ((w2.setCell ⟨w1.heap.size, 0, none⟩ (.string ⟨#[83, 84, 79, 82, 69]⟩)).setCell ⟨w1.heap.size, 1, none⟩ (.func (.func 36) #[] #[])) w1.heap.size 2 _ _ (.func (.func 37) #[] #[]) (box_set (i := 1) (box_set (i := 0) KV)) (by simp) rfl
      refine wpAnyH_ready (rs := [6]) (by kernel_rfl) (by simp) ?_
      refine AllReadyH.cons rfl (fun K hK => ?_) AllReadyH.nil
      go_simp
      refine hK.out _ _ (⟨formAt3 KFW, HS.out _ DW⟩) (fun hHeld => ?_)
      clear hK K
      refine wpAnyH_done (by kernel_rfl) ?_ _
      go_wp2
      go_meet
      case rel => exact ⟨w1.heap.size, rfl, KW, DW⟩
    · go_simp
      have AB : Below wd.heap.size wd (wd.alloc (.cells #[.string ⟨#[]⟩, .nilFunc, .nilFunc] 40)) := (Below.refl _ _).alloc (Nat.le_refl _) _
      have KV0 := box_new wd (.cells #[.string ⟨#[]⟩, .nilFunc, .nilFunc] 40)
      have hne := lt_of_heap KV0
      have D1 := Below.step C0 AB
      refine hK.out _ _ (HS.out _ D1) (fun hHeld => ?_)
      clear hK K
      generalize hwv : wd.alloc (.cells #[.string ⟨#[]⟩, .nilFunc, .nilFunc] 40) = w1 at *
      refine wpAnyH_ready (rs := [0]) (by kernel_rfl) (by simp) ?_
      refine AllReadyH.cons rfl (fun K hK => ?_) AllReadyH.nil
      go_simp
      refine (forms_r _).mono ?_
      rintro e w2 ⟨rfl, hw2⟩
      have B2 : Below w1.heap.size w1 w2 := by rw [hw2]; exact (Below.refl _ _).alloc (Nat.le_refl _) _
      have KF2 : w2.heap[w1.heap.size]? = some formsO := by rw [hw2]; exact box_new w1 _
      have D2 := Below.step D1 B2
      clear hw2
      have KV := box_below B2 KV0
      refine hK.out _ _ (HS.out _ D2) (fun hHeld => ?_)
      clear hK K
      refine wpAnyH_more (S' := fun w' => (w'.cell? ⟨w1.heap.size, 9, none⟩ = some (.string ⟨#[83, 84, 79, 82, 69]⟩) ∧ w'.cell? ⟨w1.heap.size, 10, none⟩ = some (.func (.func 36) #[] #[]) ∧ w'.cell? ⟨w1.heap.size, 11, none⟩ = some (.func (.func 37) #[] #[])) ∧ w'.cell? ⟨w.heap.size, 0, none⟩ = some (.int .i64 3)) (fun _ h => h.2) _ _ _ _ ?_
      replace hHeld := And.intro (formAt3 KF2) hHeld
      refine tq 3 11 hHeld ?_
      refine tq 4 12 hHeld ?_
      obtain ⟨oz, ol⟩ := box8z KV
      obtain ⟨o0, o1, o2⟩ := bx3s KV
      have hlv : A.heap.size ≤ wd.heap.size := C0.size
      have KW : (((w2.setCell ⟨wd.heap.size, 0, none⟩ (.string ⟨#[83, 84, 79, 82, 69]⟩)).setCell ⟨wd.heap.size, 1, none⟩ (.func (.func 36) #[] #[])).setCell ⟨wd.heap.size, 2, none⟩ (.func (.func 37) #[] #[])).heap[wd.heap.size]? = some (.cells #[.string ⟨#[83, 84, 79, 82, 69]⟩, .func (.func 36) #[] #[], .func (.func 37) #[] #[]] 40 (0, 0)) := box_set (i := 2) (box_set (i := 1) (box_set (i := 0) KV))
      have DW : Below A.heap.size A (((w2.setCell ⟨wd.heap.size, 0, none⟩ (.string ⟨#[83, 84, 79, 82, 69]⟩)).setCell ⟨wd.heap.size, 1, none⟩ (.func (.func 36) #[] #[])).setCell ⟨wd.heap.size, 2, none⟩ (.func (.func 37) #[] #[])) := ((D2.setCell (p := ⟨wd.heap.size, 0, none⟩) hlv _).setCell (p := ⟨wd.heap.size, 1, none⟩) hlv _).setCell (p := ⟨wd.heap.size, 2, none⟩) hlv _
      have KFW := box_other (i := 2) (v := .func (.func 37) #[] #[]) (box_other (i := 1) (v := .func (.func 36) #[] #[]) (box_other (i := 0) (v := .string ⟨#[83, 84, 79, 82, 69]⟩) KF2 (show w1.heap.size ≠ wd.heap.size by omega)) (show w1.heap.size ≠ wd.heap.size by omega)) (show w1.heap.size ≠ wd.heap.size by omega)
      have st1 := run_storeF (P := Tryz.prog) (w2.setCell ⟨wd.heap.size, 0, none⟩ (.string ⟨#[83, 84, 79, 82, 69]⟩)) wd.heap.size 1 _ _ (.func (.func 36) #[] #[]) (box_set (i := 0) KV) (by simp) rfl
      have st2 := run_storeF (P := Tryz.prog) ((w2.setCell ⟨wd.heap.size, 0, none⟩ (.string ⟨#[83, 84, 79, 82, 69]⟩)).setCell ⟨wd.heap.size, 1, none⟩ (.func (.func 36) #[] #[])) wd.heap.size 2 _ _ (.func (.func 37) #[] #[]) (box_set (i := 1) (box_set (i := 0) KV)) (by simp) rfl
      refine wpAnyH_ready (rs := [6]) (by kernel_rfl) (by simp) ?_
      refine AllReadyH.cons rfl (fun K hK => ?_) AllReadyH.nil
      go_simp
      refine hK.out _ _ (⟨formAt3 KFW, HS.out _ DW⟩) (fun hHeld => ?_)
      clear hK K
      refine wpAnyH_done (by kernel_rfl) ?_ _
      go_wp2
      go_meet
      case rel => exact ⟨wd.heap.size, rfl, KW, DW⟩
  case rest =>
    obtain ⟨b4, rfl, K4, X4⟩ := hcut
    clear f0 f1 f2 f3 f4 f5 f6 f7 hlA HS C0
    have HS2 : Hid (∀ w', Below wc.heap.size wc w' → (w'.cell? ⟨b4, 0, none⟩ = some (.string ⟨#[83, 84, 79, 82, 69]⟩) ∧ w'.cell? ⟨b4, 1, none⟩ = some (.func (.func 36) #[] #[]) ∧ w'.cell? ⟨b4, 2, none⟩ = some (.func (.func 37) #[] #[])) ∧ w'.cell? ⟨w.heap.size, 0, none⟩ = some (.int .i64 3) ∧ w'.cell? ⟨w.heap.size, 1, none⟩ = some (.slice a0 n0 c0) ∧ w'.cell? ⟨w.heap.size, 2, none⟩ = some (.slice a1 n1 c1) ∧ w'.cell? ⟨w.heap.size, 3, none⟩ = some (.int .i64 uid) ∧ w'.cell? ⟨w.heap.size, 4, none⟩ = some (.int .i64 mode) ∧ w'.cell? ⟨w.heap.size, 5, none⟩ = some (.int .i64 fl) ∧ w'.cell? ⟨w.heap.size, 6, none⟩ = some (.int .i64 si) ∧ w'.cell? ⟨w.heap.size, 7, none⟩ = some (.slice a2 n2 c2)) := by
      intro w' h
      obtain ⟨p0, p1, p2⟩ := bx3s (box_below h K4.out)
      exact ⟨⟨p0, p1, p2⟩, box8 (box_below h (box_below X4.out HK.out))⟩
    have XC : Hid (Below w.heap.size w wc) := Below.step XA.out X4.out
    have D0 : Below wc.heap.size wc wc.drew := (Below.refl _ _).drew
    have hsC := XC.out.size
    obtain ⟨p0, p1, p2⟩ := bx3s K4.out
    have hl4 := lt_of_heap K4.out
    obtain ⟨f0, f1, f2, f3, f4, f5, f6, f7⟩ := box8 (box_below X4.out HK.out)
    have hlA := lt_of_heap (box_below X4.out HK.out)
    go_wp2
    refine wp_region_held_drew (S := fun w' => (w'.cell? ⟨b4, 0, none⟩ = some (.string ⟨#[83, 84, 79, 82, 69]⟩) ∧ w'.cell? ⟨b4, 1, none⟩ = some (.func (.func 36) #[] #[]) ∧ w'.cell? ⟨b4, 2, none⟩ = some (.func (.func 37) #[] #[])) ∧ w'.cell? ⟨w.heap.size, 0, none⟩ = some (.int .i64 3) ∧ w'.cell? ⟨w.heap.size, 1, none⟩ = some (.slice a0 n0 c0) ∧ w'.cell? ⟨w.heap.size, 2, none⟩ = some (.slice a1 n1 c1) ∧ w'.cell? ⟨w.heap.size, 3, none⟩ = some (.int .i64 uid) ∧ w'.cell? ⟨w.heap.size, 4, none⟩ = some (.int .i64 mode) ∧ w'.cell? ⟨w.heap.size, 5, none⟩ = some (.int .i64 fl) ∧ w'.cell? ⟨w.heap.size, 6, none⟩ = some (.int .i64 si) ∧ w'.cell? ⟨w.heap.size, 7, none⟩ = some (.slice a2 n2 c2)) (by kernel_rfl) (HS2.out _ D0) (fun hHeld => (show wpAnyH _ _ _ _ _ 9 #[false, false, false, false, false, false, false, false, false] _ _ from ?_))
    refine tq 0 13 hHeld ?_
    refine tq 1 14 hHeld ?_
    refine tq 2 15 hHeld ?_
    refine tq 3 16 hHeld ?_
    refine tq 4 17 hHeld ?_
    generalize hwd4 : wc.drew = wd4 at *
    refine wpAnyH_ready (rs := [5]) (by kernel_rfl) (by simp) ?_
    refine AllReadyH.cons rfl (fun K hK => ?_) AllReadyH.nil
    go_simp
    refine (HT.out _ (Below.step XC.out D0)).mono ?_
    rintro e w5 ⟨u5, rfl, R5, B5⟩
    have D5 := Below.step D0 B5
    refine hK.out _ _ (HS2.out _ D5) (fun hHeld => ?_)
    clear hK K
    refine wpAnyH_ready (rs := [6]) (by kernel_rfl) (by simp) ?_
    refine AllReadyH.cons rfl (fun K hK => ?_) AllReadyH.nil
    go_simp
    refine (putTokens_b w5.heap.size _ u5 [] (kindW 3) ss _ (OwnB.nil' _ _) (Nat.le_refl _) (by intro x hx; simp [kindW] at hx; omega) (fun wi h => R5.below keepsStr (h.below)) (by simp) (by decide) hsl hst).mono ?_
    rintro e w6 ⟨u6, rfl, R6, B6⟩
    have D6 : Below wc.heap.size wc w6 := Below.step D5 (B6.below)
    refine hK.out _ _ (HS2.out _ D6) (fun hHeld => ?_)
    clear hK K
    refine tq 7 2 hHeld ?_
    refine tq 8 3 hHeld ?_
    refine wpAnyH_done (by kernel_rfl) ?_ _
    have HF : Hid (Row w6 w.heap.size w6.heap.size u6 (kindW 3 ++ ss.flatMap tokB)) := by
      have h := R6.toRow
      have h5 := D5.size
      simp only [List.nil_append] at h
      exact h.wide (by omega) (Nat.le_refl _)
    have HB : Hid (Below w.heap.size w w6) := Below.step XC.out D6
    clear HS2 D0 D5 D6 R5 B5 R6 B6 hHeld
    go_wp2
    exact bodyPost_ret (v := .tuple #[u6, .bool true]) (by simp [results, Tryz.results5, go_sem]) rfl ⟨u6, rfl, HF.out, HB.out⟩

set_option maxRecDepth 100000 in
set_option maxHeartbeats 4000000 in
theorem implCmdText_5 (a0 a1 a2 : Option Addr) (n0 n1 n2 c0 c1 c2 : Nat) (bx tt : List Int) (uid mode fl si : Int) (tx : List Int) (w : World) (HV : Hid (∀ wi, Below w.heap.size w wi → CmdV wi (.agg #[.int .i64 5, .slice a0 n0 c0, .slice a1 n1 c1, .int .i64 uid, .int .i64 mode, .int .i64 fl, .int .i64 si, .slice a2 n2 c2]) 5 bx tt uid mode fl si tx)) (HO : Hid (∀ wi, Below w.heap.size w wi → Calls Tryz.prog 7 #[.agg #[.int .i64 5, .slice a0 n0 c0, .slice a1 n1 c1, .int .i64 uid, .int .i64 mode, .int .i64 fl, .int .i64 si, .slice a2 n2 c2]] wi fun e w' => e = .returned (.bool true) ∧ Below wi.heap.size wi w'))
    (ss : List (List Int)) (hsl : ss.length ≤ 100) (hst : ∀ s, s ∈ ss → s.length ≤ 1000)
    (HT : Hid (∀ wi, Below w.heap.size w wi → Calls Tryz.prog 39 #[.agg #[.int .i64 5, .slice a0 n0 c0, .slice a1 n1 c1, .int .i64 uid, .int .i64 mode, .int .i64 fl, .int .i64 si, .slice a2 n2 c2]] wi fun e w' => ∃ u, e = .returned u ∧ StrsV w' u ss ∧ Below wi.heap.size wi w')) :
    Calls Tryz.prog 5 #[.agg #[.int .i64 5, .slice a0 n0 c0, .slice a1 n1 c1, .int .i64 uid, .int .i64 mode, .int .i64 fl, .int .i64 si, .slice a2 n2 c2]] w fun e w' => ∃ u, e = .returned (.tuple #[u, .bool true]) ∧ Row w' w.heap.size w'.heap.size u (kindW 5 ++ ss.flatMap tokB) ∧ Below w.heap.size w w' := by
  have HX : Hid (Below w.heap.size w (w.alloc (.cells #[.int .i64 5, .slice a0 n0 c0, .slice a1 n1 c1, .int .i64 uid, .int .i64 mode, .int .i64 fl, .int .i64 si, .slice a2 n2 c2] 24))) := (Below.refl _ _).alloc (Nat.le_refl _) _
  have HK0 := box_new w (.cells #[.int .i64 5, .slice a0 n0 c0, .slice a1 n1 c1, .int .i64 uid, .int .i64 mode, .int .i64 fl, .int .i64 si, .slice a2 n2 c2] 24)
  go_enter Tryz.func5, Tryz.ntmps5
  go_wp2_with fail
  refine (HO.out _ HX.out).mono ?_
  rintro e A ⟨rfl, BA⟩
  have XA : Hid (Below w.heap.size w A) := Below.step HX.out BA
  have HK : Hid (A.heap[w.heap.size]? = some (.cells #[.int .i64 5, .slice a0 n0 c0, .slice a1 n1 c1, .int .i64 uid, .int .i64 mode, .int .i64 fl, .int .i64 si, .slice a2 n2 c2] 24)) := box_below BA HK0
  have hsA : w.heap.size ≤ A.heap.size := XA.out.size
  clear HK0 BA HX HO
  have HS : Hid (∀ w', Below A.heap.size A w' → w'.cell? ⟨w.heap.size, 0, none⟩ = some (.int .i64 5)) := fun w' h => (box8 (box_below h HK.out)).1
  have C0 : Below A.heap.size A A.drew := (Below.refl _ _).drew
  obtain ⟨f0, f1, f2, f3, f4, f5, f6, f7⟩ := box8 HK.out
  have hlA := lt_of_heap HK.out
  go_upto_region 3 with fail
  go_cut [4] (fun s wx => ∃ b, s = .pointer (some ⟨b, 0, none⟩) ∧ Hid (wx.heap[b]? = some (.cells #[.string ⟨#[70, 69, 84, 67, 72]⟩, .func (.func 38) #[] #[], .func (.func 39) #[] #[]] 40 (0, 0))) ∧ Hid (Below A.heap.size A wx))
  case first =>
    clear f0 f1 f2 f3 f4 f5 f6 f7 hlA
    go_wp2
    refine wp_region_held_drew (S := fun w' => w'.cell? ⟨w.heap.size, 0, none⟩ = some (.int .i64 5)) (by kernel_rfl) (HS.out _ C0) (fun hHeld => (show wpAnyH _ _ _ _ _ 7 #[false, false, false, false, false, false, false] _ _ from ?_))
    refine tq 1 9 hHeld ?_
    refine tq 2 10 hHeld ?_
    generalize hwd : A.drew = wd at *
    refine wpAnyH_ready (rs := [0, 5]) (by kernel_rfl) (by simp) ?_
    refine AllReadyH.cons rfl (fun K hK => ?_) (AllReadyH.cons rfl (fun K hK => ?_) AllReadyH.nil)
    · go_simp
      refine (forms_r _).mono ?_
      rintro e w1 ⟨rfl, hw1⟩
      have B1 : Below wd.heap.size wd w1 := by rw [hw1]; exact (Below.refl _ _).alloc (Nat.le_refl _) _
      have KF1 : w1.heap[wd.heap.size]? = some formsO := by rw [hw1]; exact box_new wd _
      have D1 := Below.step C0 B1
      clear hw1
      refine hK.out _ _ (HS.out _ D1) (fun hHeld => ?_)
      clear hK K
      refine wpAnyH_more (S' := fun w' => (w'.cell? ⟨wd.heap.size, 15, none⟩ = some (.string ⟨#[70, 69, 84, 67, 72]⟩) ∧ w'.cell? ⟨wd.heap.size, 16, none⟩ = some (.func (.func 38) #[] #[]) ∧ w'.cell? ⟨wd.heap.size, 17, none⟩ = some (.func (.func 39) #[] #[])) ∧ w'.cell? ⟨w.heap.size, 0, none⟩ = some (.int .i64 5)) (fun _ h => h.2) _ _ _ _ ?_
      replace hHeld := And.intro (formAt5 KF1) hHeld
      refine tq 3 11 hHeld ?_
      refine tq 4 12 hHeld ?_
      refine wpAnyH_ready (rs := [5]) (by kernel_rfl) (by simp) ?_
      refine AllReadyH.cons rfl (fun K hK => ?_) AllReadyH.nil
      go_simp
      have AB : Below w1.heap.size w1 (w1.alloc (.cells #[.string ⟨#[]⟩, .nilFunc, .nilFunc] 40)) := (Below.refl _ _).alloc (Nat.le_refl _) _
      have KV := box_new w1 (.cells #[.string ⟨#[]⟩, .nilFunc, .nilFunc] 40)
      have KF2 := box_below AB KF1
      have hne := lt_of_heap KF1
      have D2 := Below.step D1 AB
      refine hK.out _ _ (⟨formAt5 KF2, HS.out _ D2⟩) (fun hHeld => ?_)
      clear hK K
      generalize hwv : w1.alloc (.cells #[.string ⟨#[]⟩, .nilFunc, .nilFunc] 40) = w2 at *
      obtain ⟨oz, ol⟩ := box8z KV
      obtain ⟨o0, o1, o2⟩ := bx3s KV
      have hlv : A.heap.size ≤ w1.heap.size := D1.size
      have KW : (((w2.setCell ⟨w1.heap.size, 0, none⟩ (.string ⟨#[70, 69, 84, 67, 72]⟩)).setCell ⟨w1.heap.size, 1, none⟩ (.func (.func 38) #[] #[])).setCell ⟨w1.heap.size, 2, none⟩ (.func (.func 39) #[] #[])).heap[w1.heap.size]? = some (.cells #[.string ⟨#[70, 69, 84, 67, 72]⟩, .func (.func 38) #[] #[], .func (.func 39) #[] #[]] 40 (0, 0)) := box_set (i := 2) (box_set (i := 1) (box_set (i := 0) KV))
      have DW : Below A.heap.size A (((w2.setCell ⟨w1.heap.size, 0, none⟩ (.string ⟨#[70, 69, 84, 67, 72]⟩)).setCell ⟨w1.heap.size, 1, none⟩ (.func (.func 38) #[] #[])).setCell ⟨w1.heap.size, 2, none⟩ (.func (.func 39) #[] #[])) := ((D2.setCell (p := ⟨w1.heap.size, 0, none⟩) hlv _).setCell (p := ⟨w1.heap.size, 1, none⟩) hlv _).setCell (p := ⟨w1.heap.size, 2, none⟩) hlv _
      have KFW := box_other (i := 2) (v := .func (.func 39) #[] #[]) (box_other (i := 1) (v := .func (.func 38) #[] #[]) (box_other (i := 0) (v := .string ⟨#[70, 69, 84, 67, 72]⟩) KF2 (show wd.heap.size ≠ w1.heap.size by omega)) (show wd.heap.size ≠ w1.heap.size by omega)) (show wd.heap.size ≠ w1.heap.size by omega)
      have st1 := run_storeF (P := Tryz.prog) (w2.setCell ⟨w1.heap.size, 0, none⟩ (.string ⟨#[70, 69, 84, 67, 72]⟩)) w1.heap.size 1 _ _ (.func (.func 38) #[] #[]) (box_set (i := 0) KV) (by simp) rfl
      have st2 := run_storeF (P := Tryz.prog) ((w2.setCell ⟨w1.heap.size, 0, none⟩ (.string ⟨#[70, 69, 84, 67, 72]⟩)).setCell ⟨w1.heap.size, 1, none⟩ (.func (.func 38) #[] #[])) w1.heap.size 2 _ _ (.func (.func 39) #[] #[]) (box_set (i := 1) (box_set (i := 0) KV)) (by simp) rfl
      refine wpAnyH_ready (rs := [6]) (by kernel_rfl) (by simp) ?_
      refine AllReadyH.cons rfl (fun K hK => ?_) AllReadyH.nil
      go_simp
      refine hK.out _ _ (⟨formAt5 KFW, HS.out _ DW⟩) (fun hHeld => ?_)
      clear hK K
      refine wpAnyH_done (by kernel_rfl) ?_ _
      go_wp2
      go_meet
      case rel => exact ⟨w1.heap.size, rfl, KW, DW⟩
    · go_simp
      have AB : Below wd.heap.size wd (wd.alloc (.cells #[.string ⟨#[]⟩, .nilFunc, .nilFunc] 40)) := (Below.refl _ _).alloc (Nat.le_refl _) _
      have KV0 := box_new wd (.cells #[.string ⟨#[]⟩, .nilFunc, .nilFunc] 40)
      have hne := lt_of_heap KV0
      have D1 := Below.step C0 AB
      refine hK.out _ _ (HS.out _ D1) (fun hHeld => ?_)
      clear hK K
      generalize hwv : wd.alloc (.cells #[.string ⟨#[]⟩, .nilFunc, .nilFunc] 40) = w1 at *
      refine wpAnyH_ready (rs := [0]) (by kernel_rfl) (by simp) ?_
      refine AllReadyH.cons rfl (fun K hK => ?_) AllReadyH.nil
      go_simp
      refine (forms_r _).mono ?_
      rintro e w2 ⟨rfl, hw2⟩
      have B2 : Below w1.heap.size w1 w2 := by rw [hw2]; exact (Below.refl _ _).alloc (Nat.le_refl _) _
      have KF2 : w2.heap[w1.heap.size]? = some formsO := by rw [hw2]; exact box_new w1 _
      have D2 := Below.step D1 B2
      clear hw2
      have KV := box_below B2 KV0
      refine hK.out _ _ (HS.out _ D2) (fun hHeld => ?_)
      clear hK K
      refine wpAnyH_more (S' := fun w' => (w'.cell? ⟨w1.heap.size, 15, none⟩ = some (.string ⟨#[70, 69, 84, 67, 72]⟩) ∧ w'.cell? ⟨w1.heap.size, 16, none⟩ = some (.func (.func 38) #[] #[]) ∧ w'.cell? ⟨w1.heap.size, 17, none⟩ = some (.func (.func 39) #[] #[])) ∧ w'.cell? ⟨w.heap.size, 0, none⟩ = some (.int .i64 5)) (fun _ h => h.2) _ _ _ _ ?_
      replace hHeld := And.intro (formAt5 KF2) hHeld
      refine tq 3 11 hHeld ?_
      refine tq 4 12 hHeld ?_
      obtain ⟨oz, ol⟩ := box8z KV
      obtain ⟨o0, o1, o2⟩ := bx3s KV
      have hlv : A.heap.size ≤ wd.heap.size := C0.size
      have KW : (((w2.setCell ⟨wd.heap.size, 0, none⟩ (.string ⟨#[70, 69, 84, 67, 72]⟩)).setCell ⟨wd.heap.size, 1, none⟩ (.func (.func 38) #[] #[])).setCell ⟨wd.heap.size, 2, none⟩ (.func (.func 39) #[] #[])).heap[wd.heap.size]? = some (.cells #[.string ⟨#[70, 69, 84, 67, 72]⟩, .func (.func 38) #[] #[], .func (.func 39) #[] #[]] 40 (0, 0)) := box_set (i := 2) (box_set (i := 1) (box_set (i := 0) KV))
      have DW : Below A.heap.size A (((w2.setCell ⟨wd.heap.size, 0, none⟩ (.string ⟨#[70, 69, 84, 67, 72]⟩)).setCell ⟨wd.heap.size, 1, none⟩ (.func (.func 38) #[] #[])).setCell ⟨wd.heap.size, 2, none⟩ (.func (.func 39) #[] #[])) := ((D2.setCell (p := ⟨wd.heap.size, 0, none⟩) hlv _).setCell (p := ⟨wd.heap.size, 1, none⟩) hlv _).setCell (p := ⟨wd.heap.size, 2, none⟩) hlv _
      have KFW := box_other (i := 2) (v := .func (.func 39) #[] #[]) (box_other (i := 1) (v := .func (.func 38) #[] #[]) (box_other (i := 0) (v := .string ⟨#[70, 69, 84, 67, 72]⟩) KF2 (show w1.heap.size ≠ wd.heap.size by omega)) (show w1.heap.size ≠ wd.heap.size by omega)) (show w1.heap.size ≠ wd.heap.size by omega)
      have st1 := run_storeF (P := Tryz.prog) (w2.setCell ⟨wd.heap.size, 0, none⟩ (.string ⟨#[70, 69, 84, 67, 72]⟩)) wd.heap.size 1 _ _ (.func (.func 38) #[] #[]) (box_set (i := 0) KV) (by simp) rfl
      have st2 := run_storeF (P := Tryz.prog) ((w2.setCell ⟨wd.heap.size, 0, none⟩ (.string ⟨#[70, 69, 84, 67, 72]⟩)).setCell ⟨wd.heap.size, 1, none⟩ (.func (.func 38) #[] #[])) wd.heap.size 2 _ _ (.func (.func 39) #[] #[]) (box_set (i := 1) (box_set (i := 0) KV)) (by simp) rfl
      refine wpAnyH_ready (rs := [6]) (by kernel_rfl) (by simp) ?_
      refine AllReadyH.cons rfl (fun K hK => ?_) AllReadyH.nil
      go_simp
      refine hK.out _ _ (⟨formAt5 KFW, HS.out _ DW⟩) (fun hHeld => ?_)
      clear hK K
      refine wpAnyH_done (by kernel_rfl) ?_ _
      go_wp2
      go_meet
      case rel => exact ⟨wd.heap.size, rfl, KW, DW⟩
  case rest =>
    obtain ⟨b4, rfl, K4, X4⟩ := hcut
    clear f0 f1 f2 f3 f4 f5 f6 f7 hlA HS C0
    have HS2 : Hid (∀ w', Below wc.heap.size wc w' → (w'.cell? ⟨b4, 0, none⟩ = some (.string ⟨#[70, 69, 84, 67, 72]⟩) ∧ w'.cell? ⟨b4, 1, none⟩ = some (.func (.func 38) #[] #[]) ∧ w'.cell? ⟨b4, 2, none⟩ = some (.func (.func 39) #[] #[])) ∧ w'.cell? ⟨w.heap.size, 0, none⟩ = some (.int .i64 5) ∧ w'.cell? ⟨w.heap.size, 1, none⟩ = some (.slice a0 n0 c0) ∧ w'.cell? ⟨w.heap.size, 2, none⟩ = some (.slice a1 n1 c1) ∧ w'.cell? ⟨w.heap.size, 3, none⟩ = some (.int .i64 uid) ∧ w'.cell? ⟨w.heap.size, 4, none⟩ = some (.int .i64 mode) ∧ w'.cell? ⟨w.heap.size, 5, none⟩ = some (.int .i64 fl) ∧ w'.cell? ⟨w.heap.size, 6, none⟩ = some (.int .i64 si) ∧ w'.cell? ⟨w.heap.size, 7, none⟩ = some (.slice a2 n2 c2)) := by
      intro w' h
      obtain ⟨p0, p1, p2⟩ := bx3s (box_below h K4.out)
      exact ⟨⟨p0, p1, p2⟩, box8 (box_below h (box_below X4.out HK.out))⟩
    have XC : Hid (Below w.heap.size w wc) := Below.step XA.out X4.out
    have D0 : Below wc.heap.size wc wc.drew := (Below.refl _ _).drew
    have hsC := XC.out.size
    obtain ⟨p0, p1, p2⟩ := bx3s K4.out
    have hl4 := lt_of_heap K4.out
    obtain ⟨f0, f1, f2, f3, f4, f5, f6, f7⟩ := box8 (box_below X4.out HK.out)
    have hlA := lt_of_heap (box_below X4.out HK.out)
    go_wp2
    refine wp_region_held_drew (S := fun w' => (w'.cell? ⟨b4, 0, none⟩ = some (.string ⟨#[70, 69, 84, 67, 72]⟩) ∧ w'.cell? ⟨b4, 1, none⟩ = some (.func (.func 38) #[] #[]) ∧ w'.cell? ⟨b4, 2, none⟩ = some (.func (.func 39) #[] #[])) ∧ w'.cell? ⟨w.heap.size, 0, none⟩ = some (.int .i64 5) ∧ w'.cell? ⟨w.heap.size, 1, none⟩ = some (.slice a0 n0 c0) ∧ w'.cell? ⟨w.heap.size, 2, none⟩ = some (.slice a1 n1 c1) ∧ w'.cell? ⟨w.heap.size, 3, none⟩ = some (.int .i64 uid) ∧ w'.cell? ⟨w.heap.size, 4, none⟩ = some (.int .i64 mode) ∧ w'.cell? ⟨w.heap.size, 5, none⟩ = some (.int .i64 fl) ∧ w'.cell? ⟨w.heap.size, 6, none⟩ = some (.int .i64 si) ∧ w'.cell? ⟨w.heap.size, 7, none⟩ = some (.slice a2 n2 c2)) (by kernel_rfl) (HS2.out _ D0) (fun hHeld => (show wpAnyH _ _ _ _ _ 9 #[false, false, false, false, false, false, false, false, false] _ _ from ?_))
    refine tq 0 13 hHeld ?_
    refine tq 1 14 hHeld ?_
    refine tq 2 15 hHeld ?_
    refine tq 3 16 hHeld ?_
    refine tq 4 17 hHeld ?_
    generalize hwd4 : wc.drew = wd4 at *
    refine wpAnyH_ready (rs := [5]) (by kernel_rfl) (by simp) ?_
    refine AllReadyH.cons rfl (fun K hK => ?_) AllReadyH.nil
    go_simp
    refine (HT.out _ (Below.step XC.out D0)).mono ?_
    rintro e w5 ⟨u5, rfl, R5, B5⟩
    have D5 := Below.step D0 B5
    refine hK.out _ _ (HS2.out _ D5) (fun hHeld => ?_)
    clear hK K
    refine wpAnyH_ready (rs := [6]) (by kernel_rfl) (by simp) ?_
    refine AllReadyH.cons rfl (fun K hK => ?_) AllReadyH.nil
    go_simp
    refine (putTokens_b w5.heap.size _ u5 [] (kindW 5) ss _ (OwnB.nil' _ _) (Nat.le_refl _) (by intro x hx; simp [kindW] at hx; omega) (fun wi h => R5.below keepsStr (h.below)) (by simp) (by decide) hsl hst).mono ?_
    rintro e w6 ⟨u6, rfl, R6, B6⟩
    have D6 : Below wc.heap.size wc w6 := Below.step D5 (B6.below)
    refine hK.out _ _ (HS2.out _ D6) (fun hHeld => ?_)
    clear hK K
    refine tq 7 2 hHeld ?_
    refine tq 8 3 hHeld ?_
    refine wpAnyH_done (by kernel_rfl) ?_ _
    have HF : Hid (Row w6 w.heap.size w6.heap.size u6 (kindW 5 ++ ss.flatMap tokB)) := by
      have h := R6.toRow
      have h5 := D5.size
      simp only [List.nil_append] at h
      exact h.wide (by omega) (Nat.le_refl _)
    have HB : Hid (Below w.heap.size w w6) := Below.step XC.out D6
    clear HS2 D0 D5 D6 R5 B5 R6 B6 hHeld
    go_wp2
    exact bodyPost_ret (v := .tuple #[u6, .bool true]) (by simp [results, Tryz.results5, go_sem]) rfl ⟨u6, rfl, HF.out, HB.out⟩

end Go.Proofs.YtlegmiaoablcgaaGreatDoor

/- What CmdText of package impl does, kinds 6, 7. -/
namespace Go.Proofs.YtlegmiaoablcgaaGreatDoor
open Go.RowKit
set_option maxRecDepth 100000
set_option linter.unusedVariables false

set_option maxRecDepth 100000 in
set_option maxHeartbeats 4000000 in
theorem implCmdText_6 (a0 a1 a2 : Option Addr) (n0 n1 n2 c0 c1 c2 : Nat) (bx tt : List Int) (uid mode fl si : Int) (tx : List Int) (w : World) (HV : Hid (∀ wi, Below w.heap.size w wi → CmdV wi (.agg #[.int .i64 6, .slice a0 n0 c0, .slice a1 n1 c1, .int .i64 uid, .int .i64 mode, .int .i64 fl, .int .i64 si, .slice a2 n2 c2]) 6 bx tt uid mode fl si tx)) (HO : Hid (∀ wi, Below w.heap.size w wi → Calls Tryz.prog 7 #[.agg #[.int .i64 6, .slice a0 n0 c0, .slice a1 n1 c1, .int .i64 uid, .int .i64 mode, .int .i64 fl, .int .i64 si, .slice a2 n2 c2]] wi fun e w' => e = .returned (.bool true) ∧ Below wi.heap.size wi w'))
    (ss : List (List Int)) (hsl : ss.length ≤ 100) (hst : ∀ s, s ∈ ss → s.length ≤ 1000)
    (HT : Hid (∀ wi, Below w.heap.size w wi → Calls Tryz.prog 41 #[.agg #[.int .i64 6, .slice a0 n0 c0, .slice a1 n1 c1, .int .i64 uid, .int .i64 mode, .int .i64 fl, .int .i64 si, .slice a2 n2 c2]] wi fun e w' => ∃ u, e = .returned u ∧ StrsV w' u ss ∧ Below wi.heap.size wi w')) :
    Calls Tryz.prog 5 #[.agg #[.int .i64 6, .slice a0 n0 c0, .slice a1 n1 c1, .int .i64 uid, .int .i64 mode, .int .i64 fl, .int .i64 si, .slice a2 n2 c2]] w fun e w' => ∃ u, e = .returned (.tuple #[u, .bool true]) ∧ Row w' w.heap.size w'.heap.size u (kindW 6 ++ ss.flatMap tokB) ∧ Below w.heap.size w w' := by
  have HX : Hid (Below w.heap.size w (w.alloc (.cells #[.int .i64 6, .slice a0 n0 c0, .slice a1 n1 c1, .int .i64 uid, .int .i64 mode, .int .i64 fl, .int .i64 si, .slice a2 n2 c2] 24))) := (Below.refl _ _).alloc (Nat.le_refl _) _
  have HK0 := box_new w (.cells #[.int .i64 6, .slice a0 n0 c0, .slice a1 n1 c1, .int .i64 uid, .int .i64 mode, .int .i64 fl, .int .i64 si, .slice a2 n2 c2] 24)
  go_enter Tryz.func5, Tryz.ntmps5
  go_wp2_with fail
  refine (HO.out _ HX.out).mono ?_
  rintro e A ⟨rfl, BA⟩
  have XA : Hid (Below w.heap.size w A) := Below.step HX.out BA
  have HK : Hid (A.heap[w.heap.size]? = some (.cells #[.int .i64 6, .slice a0 n0 c0, .slice a1 n1 c1, .int .i64 uid, .int .i64 mode, .int .i64 fl, .int .i64 si, .slice a2 n2 c2] 24)) := box_below BA HK0
  have hsA : w.heap.size ≤ A.heap.size := XA.out.size
  clear HK0 BA HX HO
  have HS : Hid (∀ w', Below A.heap.size A w' → w'.cell? ⟨w.heap.size, 0, none⟩ = some (.int .i64 6)) := fun w' h => (box8 (box_below h HK.out)).1
  have C0 : Below A.heap.size A A.drew := (Below.refl _ _).drew
  obtain ⟨f0, f1, f2, f3, f4, f5, f6, f7⟩ := box8 HK.out
  have hlA := lt_of_heap HK.out
  go_upto_region 3 with fail
  go_cut [4] (fun s wx => ∃ b, s = .pointer (some ⟨b, 0, none⟩) ∧ Hid (wx.heap[b]? = some (.cells #[.string ⟨#[67, 79, 80, 89]⟩, .func (.func 40) #[] #[], .func (.func 41) #[] #[]] 40 (0, 0))) ∧ Hid (Below A.heap.size A wx))
  case first =>
    clear f0 f1 f2 f3 f4 f5 f6 f7 hlA
    go_wp2
    refine wp_region_held_drew (S := fun w' => w'.cell? ⟨w.heap.size, 0, none⟩ = some (.int .i64 6)) (by kernel_rfl) (HS.out _ C0) (fun hHeld => (show wpAnyH _ _ _ _ _ 7 #[false, false, false, false, false, false, false] _ _ from ?_))
    refine tq 1 9 hHeld ?_
    refine tq 2 10 hHeld ?_
    generalize hwd : A.drew = wd at *
    refine wpAnyH_ready (rs := [0, 5]) (by kernel_rfl) (by simp) ?_
    refine AllReadyH.cons rfl (fun K hK => ?_) (AllReadyH.cons rfl (fun K hK => ?_) AllReadyH.nil)
    · go_simp
      refine (forms_r _).mono ?_
      rintro e w1 ⟨rfl, hw1⟩
      have B1 : Below wd.heap.size wd w1 := by rw [hw1]; exact (Below.refl _ _).alloc (Nat.le_refl _) _
      have KF1 : w1.heap[wd.heap.size]? = some formsO := by rw [hw1]; exact box_new wd _
      have D1 := Below.step C0 B1
      clear hw1
      refine hK.out _ _ (HS.out _ D1) (fun hHeld => ?_)
      clear hK K
      refine wpAnyH_more (S' := fun w' => (w'.cell? ⟨wd.heap.size, 18, none⟩ = some (.string ⟨#[67, 79, 80, 89]⟩) ∧ w'.cell? ⟨wd.heap.size, 19, none⟩ = some (.func (.func 40) #[] #[]) ∧ w'.cell? ⟨wd.heap.size, 20, none⟩ = some (.func (.func 41) #[] #[])) ∧ w'.cell? ⟨w.heap.size, 0, none⟩ = some (.int .i64 6)) (fun _ h => h.2) _ _ _ _ ?_
      replace hHeld := And.intro (formAt6 KF1) hHeld
      refine tq 3 11 hHeld ?_
      refine tq 4 12 hHeld ?_
      refine wpAnyH_ready (rs := [5]) (by kernel_rfl) (by simp) ?_
      refine AllReadyH.cons rfl (fun K hK => ?_) AllReadyH.nil
      go_simp
      have AB : Below w1.heap.size w1 (w1.alloc (.cells #[.string ⟨#[]⟩, .nilFunc, .nilFunc] 40)) := (Below.refl _ _).alloc (Nat.le_refl _) _
      have KV := box_new w1 (.cells #[.string ⟨#[]⟩, .nilFunc, .nilFunc] 40)
      have KF2 := box_below AB KF1
      have hne := lt_of_heap KF1
      have D2 := Below.step D1 AB
      refine hK.out _ _ (⟨formAt6 KF2, HS.out _ D2⟩) (fun hHeld => ?_)
      clear hK K
      generalize hwv : w1.alloc (.cells #[.string ⟨#[]⟩, .nilFunc, .nilFunc] 40) = w2 at *
      obtain ⟨oz, ol⟩ := box8z KV
      obtain ⟨o0, o1, o2⟩ := bx3s KV
      have hlv : A.heap.size ≤ w1.heap.size := D1.size
      have KW : (((w2.setCell ⟨w1.heap.size, 0, none⟩ (.string ⟨#[67, 79, 80, 89]⟩)).setCell ⟨w1.heap.size, 1, none⟩ (.func (.func 40) #[] #[])).setCell ⟨w1.heap.size, 2, none⟩ (.func (.func 41) #[] #[])).heap[w1.heap.size]? = some (.cells #[.string ⟨#[67, 79, 80, 89]⟩, .func (.func 40) #[] #[], .func (.func 41) #[] #[]] 40 (0, 0)) := box_set (i := 2) (box_set (i := 1) (box_set (i := 0) KV))
      have DW : Below A.heap.size A (((w2.setCell ⟨w1.heap.size, 0, none⟩ (.string ⟨#[67, 79, 80, 89]⟩)).setCell ⟨w1.heap.size, 1, none⟩ (.func (.func 40) #[] #[])).setCell ⟨w1.heap.size, 2, none⟩ (.func (.func 41) #[] #[])) := ((D2.setCell (p := ⟨w1.heap.size, 0, none⟩) hlv _).setCell (p := ⟨w1.heap.size, 1, none⟩) hlv _).setCell (p := ⟨w1.heap.size, 2, none⟩) hlv _
      have KFW := box_other (i := 2) (v := .func (.func 41) #[] #[]) (box_other (i := 1) (v := .func (.func 40) #[] #[]) (box_other (i := 0) (v := .string ⟨#[67, 79, 80, 89]⟩) KF2 (show wd.heap.size ≠ w1.heap.size by omega)) (show wd.heap.size ≠ w1.heap.size by omega)) (show wd.heap.size ≠ w1.heap.size by omega)
      have st1 := run_storeF (P := Tryz.prog) (w2.setCell ⟨w1.heap.size, 0, none⟩ (.string ⟨#[67, 79, 80, 89]⟩)) w1.heap.size 1 _ _ (.func (.func 40) #[] #[]) (box_set (i := 0) KV) (by simp) rfl
      have st2 := run_storeF (P := Tryz.prog) ((w2.setCell ⟨w1.heap.size, 0, none⟩ (.string ⟨#[67, 79, 80, 89]⟩)).setCell ⟨w1.heap.size, 1, none⟩ (.func (.func 40) #[] #[])) w1.heap.size 2 _ _ (.func (.func 41) #[] #[]) (box_set (i := 1) (box_set (i := 0) KV)) (by simp) rfl
      refine wpAnyH_ready (rs := [6]) (by kernel_rfl) (by simp) ?_
      refine AllReadyH.cons rfl (fun K hK => ?_) AllReadyH.nil
      go_simp
      refine hK.out _ _ (⟨formAt6 KFW, HS.out _ DW⟩) (fun hHeld => ?_)
      clear hK K
      refine wpAnyH_done (by kernel_rfl) ?_ _
      go_wp2
      go_meet
      case rel => exact ⟨w1.heap.size, rfl, KW, DW⟩
    · go_simp
      have AB : Below wd.heap.size wd (wd.alloc (.cells #[.string ⟨#[]⟩, .nilFunc, .nilFunc] 40)) := (Below.refl _ _).alloc (Nat.le_refl _) _
      have KV0 := box_new wd (.cells #[.string ⟨#[]⟩, .nilFunc, .nilFunc] 40)
      have hne := lt_of_heap KV0
      have D1 := Below.step C0 AB
      refine hK.out _ _ (HS.out _ D1) (fun hHeld => ?_)
      clear hK K
      generalize hwv : wd.alloc (.cells #[.string ⟨#[]⟩, .nilFunc, .nilFunc] 40) = w1 at *
      refine wpAnyH_ready (rs := [0]) (by kernel_rfl) (by simp) ?_
      refine AllReadyH.cons rfl (fun K hK => ?_) AllReadyH.nil
      go_simp
      refine (forms_r _).mono ?_
      rintro e w2 ⟨rfl, hw2⟩
      have B2 : Below w1.heap.size w1 w2 := by rw [hw2]; exact (Below.refl _ _).alloc (Nat.le_refl _) _
      have KF2 : w2.heap[w1.heap.size]? = some formsO := by rw [hw2]; exact box_new w1 _
      have D2 := Below.step D1 B2
      clear hw2
      have KV := box_below B2 KV0
      refine hK.out _ _ (HS.out _ D2) (fun hHeld => ?_)
      clear hK K
      refine wpAnyH_more (S' := fun w' => (w'.cell? ⟨w1.heap.size, 18, none⟩ = some (.string ⟨#[67, 79, 80, 89]⟩) ∧ w'.cell? ⟨w1.heap.size, 19, none⟩ = some (.func (.func 40) #[] #[]) ∧ w'.cell? ⟨w1.heap.size, 20, none⟩ = some (.func (.func 41) #[] #[])) ∧ w'.cell? ⟨w.heap.size, 0, none⟩ = some (.int .i64 6)) (fun _ h => h.2) _ _ _ _ ?_
      replace hHeld := And.intro (formAt6 KF2) hHeld
      refine tq 3 11 hHeld ?_
      refine tq 4 12 hHeld ?_
      obtain ⟨oz, ol⟩ := box8z KV
      obtain ⟨o0, o1, o2⟩ := bx3s KV
      have hlv : A.heap.size ≤ wd.heap.size := C0.size
      have KW : (((w2.setCell ⟨wd.heap.size, 0, none⟩ (.string ⟨#[67, 79, 80, 89]⟩)).setCell ⟨wd.heap.size, 1, none⟩ (.func (.func 40) #[] #[])).setCell ⟨wd.heap.size, 2, none⟩ (.func (.func 41) #[] #[])).heap[wd.heap.size]? = some (.cells #[.string ⟨#[67, 79, 80, 89]⟩, .func (.func 40) #[] #[], .func (.func 41) #[] #[]] 40 (0, 0)) := box_set (i := 2) (box_set (i := 1) (box_set (i := 0) KV))
      have DW : Below A.heap.size A (((w2.setCell ⟨wd.heap.size, 0, none⟩ (.string ⟨#[67, 79, 80, 89]⟩)).setCell ⟨wd.heap.size, 1, none⟩ (.func (.func 40) #[] #[])).setCell ⟨wd.heap.size, 2, none⟩ (.func (.func 41) #[] #[])) := ((D2.setCell (p := ⟨wd.heap.size, 0, none⟩) hlv _).setCell (p := ⟨wd.heap.size, 1, none⟩) hlv _).setCell (p := ⟨wd.heap.size, 2, none⟩) hlv _
      have KFW := box_other (i := 2) (v := .func (.func 41) #[] #[]) (box_other (i := 1) (v := .func (.func 40) #[] #[]) (box_other (i := 0) (v := .string ⟨#[67, 79, 80, 89]⟩) KF2 (show w1.heap.size ≠ wd.heap.size by omega)) (show w1.heap.size ≠ wd.heap.size by omega)) (show w1.heap.size ≠ wd.heap.size by omega)
      have st1 := run_storeF (P := Tryz.prog) (w2.setCell ⟨wd.heap.size, 0, none⟩ (.string ⟨#[67, 79, 80, 89]⟩)) wd.heap.size 1 _ _ (.func (.func 40) #[] #[]) (box_set (i := 0) KV) (by simp) rfl
      have st2 := run_storeF (P := Tryz.prog) ((w2.setCell ⟨wd.heap.size, 0, none⟩ (.string ⟨#[67, 79, 80, 89]⟩)).setCell ⟨wd.heap.size, 1, none⟩ (.func (.func 40) #[] #[])) wd.heap.size 2 _ _ (.func (.func 41) #[] #[]) (box_set (i := 1) (box_set (i := 0) KV)) (by simp) rfl
      refine wpAnyH_ready (rs := [6]) (by kernel_rfl) (by simp) ?_
      refine AllReadyH.cons rfl (fun K hK => ?_) AllReadyH.nil
      go_simp
      refine hK.out _ _ (⟨formAt6 KFW, HS.out _ DW⟩) (fun hHeld => ?_)
      clear hK K
      refine wpAnyH_done (by kernel_rfl) ?_ _
      go_wp2
      go_meet
      case rel => exact ⟨wd.heap.size, rfl, KW, DW⟩
  case rest =>
    obtain ⟨b4, rfl, K4, X4⟩ := hcut
    clear f0 f1 f2 f3 f4 f5 f6 f7 hlA HS C0
    have HS2 : Hid (∀ w', Below wc.heap.size wc w' → (w'.cell? ⟨b4, 0, none⟩ = some (.string ⟨#[67, 79, 80, 89]⟩) ∧ w'.cell? ⟨b4, 1, none⟩ = some (.func (.func 40) #[] #[]) ∧ w'.cell? ⟨b4, 2, none⟩ = some (.func (.func 41) #[] #[])) ∧ w'.cell? ⟨w.heap.size, 0, none⟩ = some (.int .i64 6) ∧ w'.cell? ⟨w.heap.size, 1, none⟩ = some (.slice a0 n0 c0) ∧ w'.cell? ⟨w.heap.size, 2, none⟩ = some (.slice a1 n1 c1) ∧ w'.cell? ⟨w.heap.size, 3, none⟩ = some (.int .i64 uid) ∧ w'.cell? ⟨w.heap.size, 4, none⟩ = some (.int .i64 mode) ∧ w'.cell? ⟨w.heap.size, 5, none⟩ = some (.int .i64 fl) ∧ w'.cell? ⟨w.heap.size, 6, none⟩ = some (.int .i64 si) ∧ w'.cell? ⟨w.heap.size, 7, none⟩ = some (.slice a2 n2 c2)) := by
      intro w' h
      obtain ⟨p0, p1, p2⟩ := bx3s (box_below h K4.out)
      exact ⟨⟨p0, p1, p2⟩, box8 (box_below h (box_below X4.out HK.out))⟩
    have XC : Hid (Below w.heap.size w wc) := Below.step XA.out X4.out
    have D0 : Below wc.heap.size wc wc.drew := (Below.refl _ _).drew
    have hsC := XC.out.size
    obtain ⟨p0, p1, p2⟩ := bx3s K4.out
    have hl4 := lt_of_heap K4.out
    obtain ⟨f0, f1, f2, f3, f4, f5, f6, f7⟩ := box8 (box_below X4.out HK.out)
    have hlA := lt_of_heap (box_below X4.out HK.out)
    go_wp2
    refine wp_region_held_drew (S := fun w' => (w'.cell? ⟨b4, 0, none⟩ = some (.string ⟨#[67, 79, 80, 89]⟩) ∧ w'.cell? ⟨b4, 1, none⟩ = some (.func (.func 40) #[] #[]) ∧ w'.cell? ⟨b4, 2, none⟩ = some (.func (.func 41) #[] #[])) ∧ w'.cell? ⟨w.heap.size, 0, none⟩ = some (.int .i64 6) ∧ w'.cell? ⟨w.heap.size, 1, none⟩ = some (.slice a0 n0 c0) ∧ w'.cell? ⟨w.heap.size, 2, none⟩ = some (.slice a1 n1 c1) ∧ w'.cell? ⟨w.heap.size, 3, none⟩ = some (.int .i64 uid) ∧ w'.cell? ⟨w.heap.size, 4, none⟩ = some (.int .i64 mode) ∧ w'.cell? ⟨w.heap.size, 5, none⟩ = some (.int .i64 fl) ∧ w'.cell? ⟨w.heap.size, 6, none⟩ = some (.int .i64 si) ∧ w'.cell? ⟨w.heap.size, 7, none⟩ = some (.slice a2 n2 c2)) (by kernel_rfl) (HS2.out _ D0) (fun hHeld => (show wpAnyH _ _ _ _ _ 9 #[false, false, false, false, false, false, false, false, false] _ _ from ?_))
    refine tq 0 13 hHeld ?_
    refine tq 1 14 hHeld ?_
    refine tq 2 15 hHeld ?_
    refine tq 3 16 hHeld ?_
    refine tq 4 17 hHeld ?_
    generalize hwd4 : wc.drew = wd4 at *
    refine wpAnyH_ready (rs := [5]) (by kernel_rfl) (by simp) ?_
    refine AllReadyH.cons rfl (fun K hK => ?_) AllReadyH.nil
    go_simp
    refine (HT.out _ (Below.step XC.out D0)).mono ?_
    rintro e w5 ⟨u5, rfl, R5, B5⟩
    have D5 := Below.step D0 B5
    refine hK.out _ _ (HS2.out _ D5) (fun hHeld => ?_)
    clear hK K
    refine wpAnyH_ready (rs := [6]) (by kernel_rfl) (by simp) ?_
    refine AllReadyH.cons rfl (fun K hK => ?_) AllReadyH.nil
    go_simp
    refine (putTokens_b w5.heap.size _ u5 [] (kindW 6) ss _ (OwnB.nil' _ _) (Nat.le_refl _) (by intro x hx; simp [kindW] at hx; omega) (fun wi h => R5.below keepsStr (h.below)) (by simp) (by decide) hsl hst).mono ?_
    rintro e w6 ⟨u6, rfl, R6, B6⟩
    have D6 : Below wc.heap.size wc w6 := Below.step D5 (B6.below)
    refine hK.out _ _ (HS2.out _ D6) (fun hHeld => ?_)
    clear hK K
    refine tq 7 2 hHeld ?_
    refine tq 8 3 hHeld ?_
    refine wpAnyH_done (by kernel_rfl) ?_ _
    have HF : Hid (Row w6 w.heap.size w6.heap.size u6 (kindW 6 ++ ss.flatMap tokB)) := by
      have h := R6.toRow
      have h5 := D5.size
      simp only [List.nil_append] at h
      exact h.wide (by omega) (Nat.le_refl _)
    have HB : Hid (Below w.heap.size w w6) := Below.step XC.out D6
    clear HS2 D0 D5 D6 R5 B5 R6 B6 hHeld
    go_wp2
    exact bodyPost_ret (v := .tuple #[u6, .bool true]) (by simp [results, Tryz.results5, go_sem]) rfl ⟨u6, rfl, HF.out, HB.out⟩

set_option maxRecDepth 100000 in
set_option maxHeartbeats 4000000 in
theorem implCmdText_7 (a0 a1 a2 : Option Addr) (n0 n1 n2 c0 c1 c2 : Nat) (bx tt : List Int) (uid mode fl si : Int) (tx : List Int) (w : World) (HV : Hid (∀ wi, Below w.heap.size w wi → CmdV wi (.agg #[.int .i64 7, .slice a0 n0 c0, .slice a1 n1 c1, .int .i64 uid, .int .i64 mode, .int .i64 fl, .int .i64 si, .slice a2 n2 c2]) 7 bx tt uid mode fl si tx)) (HO : Hid (∀ wi, Below w.heap.size w wi → Calls Tryz.prog 7 #[.agg #[.int .i64 7, .slice a0 n0 c0, .slice a1 n1 c1, .int .i64 uid, .int .i64 mode, .int .i64 fl, .int .i64 si, .slice a2 n2 c2]] wi fun e w' => e = .returned (.bool true) ∧ Below wi.heap.size wi w'))
    (ss : List (List Int)) (hsl : ss.length ≤ 100) (hst : ∀ s, s ∈ ss → s.length ≤ 1000)
    (HT : Hid (∀ wi, Below w.heap.size w wi → Calls Tryz.prog 33 #[.agg #[.int .i64 7, .slice a0 n0 c0, .slice a1 n1 c1, .int .i64 uid, .int .i64 mode, .int .i64 fl, .int .i64 si, .slice a2 n2 c2]] wi fun e w' => ∃ u, e = .returned u ∧ StrsV w' u ss ∧ Below wi.heap.size wi w')) :
    Calls Tryz.prog 5 #[.agg #[.int .i64 7, .slice a0 n0 c0, .slice a1 n1 c1, .int .i64 uid, .int .i64 mode, .int .i64 fl, .int .i64 si, .slice a2 n2 c2]] w fun e w' => ∃ u, e = .returned (.tuple #[u, .bool true]) ∧ Row w' w.heap.size w'.heap.size u (kindW 7 ++ ss.flatMap tokB) ∧ Below w.heap.size w w' := by
  have HX : Hid (Below w.heap.size w (w.alloc (.cells #[.int .i64 7, .slice a0 n0 c0, .slice a1 n1 c1, .int .i64 uid, .int .i64 mode, .int .i64 fl, .int .i64 si, .slice a2 n2 c2] 24))) := (Below.refl _ _).alloc (Nat.le_refl _) _
  have HK0 := box_new w (.cells #[.int .i64 7, .slice a0 n0 c0, .slice a1 n1 c1, .int .i64 uid, .int .i64 mode, .int .i64 fl, .int .i64 si, .slice a2 n2 c2] 24)
  go_enter Tryz.func5, Tryz.ntmps5
  go_wp2_with fail
  refine (HO.out _ HX.out).mono ?_
  rintro e A ⟨rfl, BA⟩
  have XA : Hid (Below w.heap.size w A) := Below.step HX.out BA
  have HK : Hid (A.heap[w.heap.size]? = some (.cells #[.int .i64 7, .slice a0 n0 c0, .slice a1 n1 c1, .int .i64 uid, .int .i64 mode, .int .i64 fl, .int .i64 si, .slice a2 n2 c2] 24)) := box_below BA HK0
  have hsA : w.heap.size ≤ A.heap.size := XA.out.size
  clear HK0 BA HX HO
  have HS : Hid (∀ w', Below A.heap.size A w' → w'.cell? ⟨w.heap.size, 0, none⟩ = some (.int .i64 7)) := fun w' h => (box8 (box_below h HK.out)).1
  have C0 : Below A.heap.size A A.drew := (Below.refl _ _).drew
  obtain ⟨f0, f1, f2, f3, f4, f5, f6, f7⟩ := box8 HK.out
  have hlA := lt_of_heap HK.out
  go_upto_region 3 with fail
  go_cut [4] (fun s wx => ∃ b, s = .pointer (some ⟨b, 0, none⟩) ∧ Hid (wx.heap[b]? = some (.cells #[.string ⟨#[83, 84, 65, 84, 85, 83]⟩, .func (.func 32) #[] #[], .func (.func 33) #[] #[]] 40 (0, 0))) ∧ Hid (Below A.heap.size A wx))
  case first =>
    clear f0 f1 f2 f3 f4 f5 f6 f7 hlA
    go_wp2
    refine wp_region_held_drew (S := fun w' => w'.cell? ⟨w.heap.size, 0, none⟩ = some (.int .i64 7)) (by kernel_rfl) (HS.out _ C0) (fun hHeld => (show wpAnyH _ _ _ _ _ 7 #[false, false, false, false, false, false, false] _ _ from ?_))
    refine tq 1 9 hHeld ?_
    refine tq 2 10 hHeld ?_
    generalize hwd : A.drew = wd at *
    refine wpAnyH_ready (rs := [0, 5]) (by kernel_rfl) (by simp) ?_
    refine AllReadyH.cons rfl (fun K hK => ?_) (AllReadyH.cons rfl (fun K hK => ?_) AllReadyH.nil)
    · go_simp
      refine (forms_r _).mono ?_
      rintro e w1 ⟨rfl, hw1⟩
      have B1 : Below wd.heap.size wd w1 := by rw [hw1]; exact (Below.refl _ _).alloc (Nat.le_refl _) _
      have KF1 : w1.heap[wd.heap.size]? = some formsO := by rw [hw1]; exact box_new wd _
      have D1 := Below.step C0 B1
      clear hw1
      refine hK.out _ _ (HS.out _ D1) (fun hHeld => ?_)
      clear hK K
      refine wpAnyH_more (S' := fun w' => (w'.cell? ⟨wd.heap.size, 21, none⟩ = some (.string ⟨#[83, 84, 65, 84, 85, 83]⟩) ∧ w'.cell? ⟨wd.heap.size, 22, none⟩ = some (.func (.func 32) #[] #[]) ∧ w'.cell? ⟨wd.heap.size, 23, none⟩ = some (.func (.func 33) #[] #[])) ∧ w'.cell? ⟨w.heap.size, 0, none⟩ = some (.int .i64 7)) (fun _ h => h.2) _ _ _ _ ?_
      replace hHeld := And.intro (formAt7 KF1) hHeld
      refine tq 3 11 hHeld ?_
      refine tq 4 12 hHeld ?_
      refine wpAnyH_ready (rs := [5]) (by kernel_rfl) (by simp) ?_
      refine AllReadyH.cons rfl (fun K hK => ?_) AllReadyH.nil
      go_simp
      have AB : Below w1.heap.size w1 (w1.alloc (.cells #[.string ⟨#[]⟩, .nilFunc, .nilFunc] 40)) := (Below.refl _ _).alloc (Nat.le_refl _) _
      have KV := box_new w1 (.cells #[.string ⟨#[]⟩, .nilFunc, .nilFunc] 40)
      have KF2 := box_below AB KF1
      have hne := lt_of_heap KF1
      have D2 := Below.step D1 AB
      refine hK.out _ _ (⟨formAt7 KF2, HS.out _ D2⟩) (fun hHeld => ?_)
      clear hK K
      generalize hwv : w1.alloc (.cells #[.string ⟨#[]⟩, .nilFunc, .nilFunc] 40) = w2 at *
      obtain ⟨oz, ol⟩ := box8z KV
      obtain ⟨o0, o1, o2⟩ := bx3s KV
      have hlv : A.heap.size ≤ w1.heap.size := D1.size
      have KW : (((w2.setCell ⟨w1.heap.size, 0, none⟩ (.string ⟨#[83, 84, 65, 84, 85, 83]⟩)).setCell ⟨w1.heap.size, 1, none⟩ (.func (.func 32) #[] #[])).setCell ⟨w1.heap.size, 2, none⟩ (.func (.func 33) #[] #[])).heap[w1.heap.size]? = some (.cells #[.string ⟨#[83, 84, 65, 84, 85, 83]⟩, .func (.func 32) #[] #[], .func (.func 33) #[] #[]] 40 (0, 0)) := box_set (i := 2) (box_set (i := 1) (box_set (i := 0) KV))
      have DW : Below A.heap.size A (((w2.setCell ⟨w1.heap.size, 0, none⟩ (.string ⟨#[83, 84, 65, 84, 85, 83]⟩)).setCell ⟨w1.heap.size, 1, none⟩ (.func (.func 32) #[] #[])).setCell ⟨w1.heap.size, 2, none⟩ (.func (.func 33) #[] #[])) := ((D2.setCell (p := ⟨w1.heap.size, 0, none⟩) hlv _).setCell (p := ⟨w1.heap.size, 1, none⟩) hlv _).setCell (p := ⟨w1.heap.size, 2, none⟩) hlv _
      have KFW := box_other (i := 2) (v := .func (.func 33) #[] #[]) (box_other (i := 1) (v := .func (.func 32) #[] #[]) (box_other (i := 0) (v := .string ⟨#[83, 84, 65, 84, 85, 83]⟩) KF2 (show wd.heap.size ≠ w1.heap.size by omega)) (show wd.heap.size ≠ w1.heap.size by omega)) (show wd.heap.size ≠ w1.heap.size by omega)
      have st1 := run_storeF (P := Tryz.prog) (w2.setCell ⟨w1.heap.size, 0, none⟩ (.string ⟨#[83, 84, 65, 84, 85, 83]⟩)) w1.heap.size 1 _ _ (.func (.func 32) #[] #[]) (box_set (i := 0) KV) (by simp) rfl
      have st2 := run_storeF (P := Tryz.prog) ((w2.setCell ⟨w1.heap.size, 0, none⟩ (.string ⟨#[83, 84, 65, 84, 85, 83]⟩)).setCell ⟨w1.heap.size, 1, none⟩ (.func (.func 32) #[] #[])) w1.heap.size 2 _ _ (.func (.func 33) #[] #[]) (box_set (i := 1) (box_set (i := 0) KV)) (by simp) rfl
      refine wpAnyH_ready (rs := [6]) (by kernel_rfl) (by simp) ?_
      refine AllReadyH.cons rfl (fun K hK => ?_) AllReadyH.nil
      go_simp
      refine hK.out _ _ (⟨formAt7 KFW, HS.out _ DW⟩) (fun hHeld => ?_)
      clear hK K
      refine wpAnyH_done (by kernel_rfl) ?_ _
      go_wp2
      go_meet
      case rel => exact ⟨w1.heap.size, rfl, KW, DW⟩
    · go_simp
      have AB : Below wd.heap.size wd (wd.alloc (.cells #[.string ⟨#[]⟩, .nilFunc, .nilFunc] 40)) := (Below.refl _ _).alloc (Nat.le_refl _) _
      have KV0 := box_new wd (.cells #[.string ⟨#[]⟩, .nilFunc, .nilFunc] 40)
      have hne := lt_of_heap KV0
      have D1 := Below.step C0 AB
      refine hK.out _ _ (HS.out _ D1) (fun hHeld => ?_)
      clear hK K
      generalize hwv : wd.alloc (.cells #[.string ⟨#[]⟩, .nilFunc, .nilFunc] 40) = w1 at *
      refine wpAnyH_ready (rs := [0]) (by kernel_rfl) (by simp) ?_
      refine AllReadyH.cons rfl (fun K hK => ?_) AllReadyH.nil
      go_simp
      refine (forms_r _).mono ?_
      rintro e w2 ⟨rfl, hw2⟩
      have B2 : Below w1.heap.size w1 w2 := by rw [hw2]; exact (Below.refl _ _).alloc (Nat.le_refl _) _
      have KF2 : w2.heap[w1.heap.size]? = some formsO := by rw [hw2]; exact box_new w1 _
      have D2 := Below.step D1 B2
      clear hw2
      have KV := box_below B2 KV0
      refine hK.out _ _ (HS.out _ D2) (fun hHeld => ?_)
      clear hK K
      refine wpAnyH_more (S' := fun w' => (w'.cell? ⟨w1.heap.size, 21, none⟩ = some (.string ⟨#[83, 84, 65, 84, 85, 83]⟩) ∧ w'.cell? ⟨w1.heap.size, 22, none⟩ = some (.func (.func 32) #[] #[]) ∧ w'.cell? ⟨w1.heap.size, 23, none⟩ = some (.func (.func 33) #[] #[])) ∧ w'.cell? ⟨w.heap.size, 0, none⟩ = some (.int .i64 7)) (fun _ h => h.2) _ _ _ _ ?_
      replace hHeld := And.intro (formAt7 KF2) hHeld
      refine tq 3 11 hHeld ?_
      refine tq 4 12 hHeld ?_
      obtain ⟨oz, ol⟩ := box8z KV
      obtain ⟨o0, o1, o2⟩ := bx3s KV
      have hlv : A.heap.size ≤ wd.heap.size := C0.size
      have KW : (((w2.setCell ⟨wd.heap.size, 0, none⟩ (.string ⟨#[83, 84, 65, 84, 85, 83]⟩)).setCell ⟨wd.heap.size, 1, none⟩ (.func (.func 32) #[] #[])).setCell ⟨wd.heap.size, 2, none⟩ (.func (.func 33) #[] #[])).heap[wd.heap.size]? = some (.cells #[.string ⟨#[83, 84, 65, 84, 85, 83]⟩, .func (.func 32) #[] #[], .func (.func 33) #[] #[]] 40 (0, 0)) := box_set (i := 2) (box_set (i := 1) (box_set (i := 0) KV))
      have DW : Below A.heap.size A (((w2.setCell ⟨wd.heap.size, 0, none⟩ (.string ⟨#[83, 84, 65, 84, 85, 83]⟩)).setCell ⟨wd.heap.size, 1, none⟩ (.func (.func 32) #[] #[])).setCell ⟨wd.heap.size, 2, none⟩ (.func (.func 33) #[] #[])) := ((D2.setCell (p := ⟨wd.heap.size, 0, none⟩) hlv _).setCell (p := ⟨wd.heap.size, 1, none⟩) hlv _).setCell (p := ⟨wd.heap.size, 2, none⟩) hlv _
      have KFW := box_other (i := 2) (v := .func (.func 33) #[] #[]) (box_other (i := 1) (v := .func (.func 32) #[] #[]) (box_other (i := 0) (v := .string ⟨#[83, 84, 65, 84, 85, 83]⟩) KF2 (show w1.heap.size ≠ wd.heap.size by omega)) (show w1.heap.size ≠ wd.heap.size by omega)) (show w1.heap.size ≠ wd.heap.size by omega)
      have st1 := run_storeF (P := Tryz.prog) (w2.setCell ⟨wd.heap.size, 0, none⟩ (.string ⟨#[83, 84, 65, 84, 85, 83]⟩)) wd.heap.size 1 _ _ (.func (.func 32) #[] #[]) (box_set (i := 0) KV) (by simp) rfl
      have st2 := run_storeF (P := Tryz.prog) ((w2.setCell ⟨wd.heap.size, 0, none⟩ (.string ⟨#[83, 84, 65, 84, 85, 83]⟩)).setCell ⟨wd.heap.size, 1, none⟩ (.func (.func 32) #[] #[])) wd.heap.size 2 _ _ (.func (.func 33) #[] #[]) (box_set (i := 1) (box_set (i := 0) KV)) (by simp) rfl
      refine wpAnyH_ready (rs := [6]) (by kernel_rfl) (by simp) ?_
      refine AllReadyH.cons rfl (fun K hK => ?_) AllReadyH.nil
      go_simp
      refine hK.out _ _ (⟨formAt7 KFW, HS.out _ DW⟩) (fun hHeld => ?_)
      clear hK K
      refine wpAnyH_done (by kernel_rfl) ?_ _
      go_wp2
      go_meet
      case rel => exact ⟨wd.heap.size, rfl, KW, DW⟩
  case rest =>
    obtain ⟨b4, rfl, K4, X4⟩ := hcut
    clear f0 f1 f2 f3 f4 f5 f6 f7 hlA HS C0
    have HS2 : Hid (∀ w', Below wc.heap.size wc w' → (w'.cell? ⟨b4, 0, none⟩ = some (.string ⟨#[83, 84, 65, 84, 85, 83]⟩) ∧ w'.cell? ⟨b4, 1, none⟩ = some (.func (.func 32) #[] #[]) ∧ w'.cell? ⟨b4, 2, none⟩ = some (.func (.func 33) #[] #[])) ∧ w'.cell? ⟨w.heap.size, 0, none⟩ = some (.int .i64 7) ∧ w'.cell? ⟨w.heap.size, 1, none⟩ = some (.slice a0 n0 c0) ∧ w'.cell? ⟨w.heap.size, 2, none⟩ = some (.slice a1 n1 c1) ∧ w'.cell? ⟨w.heap.size, 3, none⟩ = some (.int .i64 uid) ∧ w'.cell? ⟨w.heap.size, 4, none⟩ = some (.int .i64 mode) ∧ w'.cell? ⟨w.heap.size, 5, none⟩ = some (.int .i64 fl) ∧ w'.cell? ⟨w.heap.size, 6, none⟩ = some (.int .i64 si) ∧ w'.cell? ⟨w.heap.size, 7, none⟩ = some (.slice a2 n2 c2)) := by
      intro w' h
      obtain ⟨p0, p1, p2⟩ := bx3s (box_below h K4.out)
      exact ⟨⟨p0, p1, p2⟩, box8 (box_below h (box_below X4.out HK.out))⟩
    have XC : Hid (Below w.heap.size w wc) := Below.step XA.out X4.out
    have D0 : Below wc.heap.size wc wc.drew := (Below.refl _ _).drew
    have hsC := XC.out.size
    obtain ⟨p0, p1, p2⟩ := bx3s K4.out
    have hl4 := lt_of_heap K4.out
    obtain ⟨f0, f1, f2, f3, f4, f5, f6, f7⟩ := box8 (box_below X4.out HK.out)
    have hlA := lt_of_heap (box_below X4.out HK.out)
    go_wp2
    refine wp_region_held_drew (S := fun w' => (w'.cell? ⟨b4, 0, none⟩ = some (.string ⟨#[83, 84, 65, 84, 85, 83]⟩) ∧ w'.cell? ⟨b4, 1, none⟩ = some (.func (.func 32) #[] #[]) ∧ w'.cell? ⟨b4, 2, none⟩ = some (.func (.func 33) #[] #[])) ∧ w'.cell? ⟨w.heap.size, 0, none⟩ = some (.int .i64 7) ∧ w'.cell? ⟨w.heap.size, 1, none⟩ = some (.slice a0 n0 c0) ∧ w'.cell? ⟨w.heap.size, 2, none⟩ = some (.slice a1 n1 c1) ∧ w'.cell? ⟨w.heap.size, 3, none⟩ = some (.int .i64 uid) ∧ w'.cell? ⟨w.heap.size, 4, none⟩ = some (.int .i64 mode) ∧ w'.cell? ⟨w.heap.size, 5, none⟩ = some (.int .i64 fl) ∧ w'.cell? ⟨w.heap.size, 6, none⟩ = some (.int .i64 si) ∧ w'.cell? ⟨w.heap.size, 7, none⟩ = some (.slice a2 n2 c2)) (by kernel_rfl) (HS2.out _ D0) (fun hHeld => (show wpAnyH _ _ _ _ _ 9 #[false, false, false, false, false, false, false, false, false] _ _ from ?_))
    refine tq 0 13 hHeld ?_
    refine tq 1 14 hHeld ?_
    refine tq 2 15 hHeld ?_
    refine tq 3 16 hHeld ?_
    refine tq 4 17 hHeld ?_
    generalize hwd4 : wc.drew = wd4 at *
    refine wpAnyH_ready (rs := [5]) (by kernel_rfl) (by simp) ?_
    refine AllReadyH.cons rfl (fun K hK => ?_) AllReadyH.nil
    go_simp
    refine (HT.out _ (Below.step XC.out D0)).mono ?_
    rintro e w5 ⟨u5, rfl, R5, B5⟩
    have D5 := Below.step D0 B5
    refine hK.out _ _ (HS2.out _ D5) (fun hHeld => ?_)
    clear hK K
    refine wpAnyH_ready (rs := [6]) (by kernel_rfl) (by simp) ?_
    refine AllReadyH.cons rfl (fun K hK => ?_) AllReadyH.nil
    go_simp
    refine (putTokens_b w5.heap.size _ u5 [] (kindW 7) ss _ (OwnB.nil' _ _) (Nat.le_refl _) (by intro x hx; simp [kindW] at hx; omega) (fun wi h => R5.below keepsStr (h.below)) (by simp) (by decide) hsl hst).mono ?_
    rintro e w6 ⟨u6, rfl, R6, B6⟩
    have D6 : Below wc.heap.size wc w6 := Below.step D5 (B6.below)
    refine hK.out _ _ (HS2.out _ D6) (fun hHeld => ?_)
    clear hK K
    refine tq 7 2 hHeld ?_
    refine tq 8 3 hHeld ?_
    refine wpAnyH_done (by kernel_rfl) ?_ _
    have HF : Hid (Row w6 w.heap.size w6.heap.size u6 (kindW 7 ++ ss.flatMap tokB)) := by
      have h := R6.toRow
      have h5 := D5.size
      simp only [List.nil_append] at h
      exact h.wide (by omega) (Nat.le_refl _)
    have HB : Hid (Below w.heap.size w w6) := Below.step XC.out D6
    clear HS2 D0 D5 D6 R5 B5 R6 B6 hHeld
    go_wp2
    exact bodyPost_ret (v := .tuple #[u6, .bool true]) (by simp [results, Tryz.results5, go_sem]) rfl ⟨u6, rfl, HF.out, HB.out⟩

end Go.Proofs.YtlegmiaoablcgaaGreatDoor
