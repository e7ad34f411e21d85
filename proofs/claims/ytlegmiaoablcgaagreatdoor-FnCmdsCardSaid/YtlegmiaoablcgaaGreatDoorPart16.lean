/- The proof's texts, part 16. -/
import Derived.Test.YtlegmiaoablcgaaGreatDoorPart14
import Derived.Test.YtlegmiaoablcgaaGreatDoorPart3
import Derived.Test.YtlegmiaoablcgaaGreatDoorPart2
import Derived.Test.YtlegmiaoablcgaaGreatDoorPart15
import Derived.Test.YtlegmiaoablcgaaGreatDoorPart12
import Derived.Laws.BytesArg

/- What CmdText of package impl does, kinds 8, 9. -/
namespace Go.Proofs.YtlegmiaoablcgaaGreatDoor
open Go.RowKit
set_option maxRecDepth 100000
set_option linter.unusedVariables false

set_option maxRecDepth 100000 in
set_option maxHeartbeats 4000000 in
theorem implCmdText_8 (a0 a1 a2 : Option Addr) (n0 n1 n2 c0 c1 c2 : Nat) (bx tt : List Int) (uid mode fl si : Int) (tx : List Int) (w : World) (HV : Hid (∀ wi, Below w.heap.size w wi → CmdV wi (.agg #[.int .i64 8, .slice a0 n0 c0, .slice a1 n1 c1, .int .i64 uid, .int .i64 mode, .int .i64 fl, .int .i64 si, .slice a2 n2 c2]) 8 bx tt uid mode fl si tx)) (HO : Hid (∀ wi, Below w.heap.size w wi → Calls Tryz.prog 7 #[.agg #[.int .i64 8, .slice a0 n0 c0, .slice a1 n1 c1, .int .i64 uid, .int .i64 mode, .int .i64 fl, .int .i64 si, .slice a2 n2 c2]] wi fun e w' => e = .returned (.bool true) ∧ Below wi.heap.size wi w'))
    (ss : List (List Int)) (hsl : ss.length ≤ 100) (hst : ∀ s, s ∈ ss → s.length ≤ 1000)
    (HT : Hid (∀ wi, Below w.heap.size w wi → Calls Tryz.prog 43 #[.agg #[.int .i64 8, .slice a0 n0 c0, .slice a1 n1 c1, .int .i64 uid, .int .i64 mode, .int .i64 fl, .int .i64 si, .slice a2 n2 c2]] wi fun e w' => ∃ u, e = .returned u ∧ StrsV w' u ss ∧ Below wi.heap.size wi w')) :
    Calls Tryz.prog 5 #[.agg #[.int .i64 8, .slice a0 n0 c0, .slice a1 n1 c1, .int .i64 uid, .int .i64 mode, .int .i64 fl, .int .i64 si, .slice a2 n2 c2]] w fun e w' => ∃ u, e = .returned (.tuple #[u, .bool true]) ∧ Row w' w.heap.size w'.heap.size u (kindW 8 ++ ss.flatMap tokB) ∧ Below w.heap.size w w' := by
  have HX : Hid (Below w.heap.size w (w.alloc (.cells #[.int .i64 8, .slice a0 n0 c0, .slice a1 n1 c1, .int .i64 uid, .int .i64 mode, .int .i64 fl, .int .i64 si, .slice a2 n2 c2] 24))) := (Below.refl _ _).alloc (Nat.le_refl _) _
  have HK0 := box_new w (.cells #[.int .i64 8, .slice a0 n0 c0, .slice a1 n1 c1, .int .i64 uid, .int .i64 mode, .int .i64 fl, .int .i64 si, .slice a2 n2 c2] 24)
  go_enter Tryz.func5, Tryz.ntmps5
  go_wp2_with fail
  refine (HO.out _ HX.out).mono ?_
  rintro e A ⟨rfl, BA⟩
  have XA : Hid (Below w.heap.size w A) := Below.step HX.out BA
  have HK : Hid (A.heap[w.heap.size]? = some (.cells #[.int .i64 8, .slice a0 n0 c0, .slice a1 n1 c1, .int .i64 uid, .int .i64 mode, .int .i64 fl, .int .i64 si, .slice a2 n2 c2] 24)) := box_below BA HK0
  have hsA : w.heap.size ≤ A.heap.size := XA.out.size
  clear HK0 BA HX HO
  have HS : Hid (∀ w', Below A.heap.size A w' → w'.cell? ⟨w.heap.size, 0, none⟩ = some (.int .i64 8)) := fun w' h => (box8 (box_below h HK.out)).1
  have C0 : Below A.heap.size A A.drew := (Below.refl _ _).drew
  obtain ⟨f0, f1, f2, f3, f4, f5, f6, f7⟩ := box8 HK.out
  have hlA := lt_of_heap HK.out
  go_upto_region 3 with fail
  go_cut [4] (fun s wx => ∃ b, s = .pointer (some ⟨b, 0, none⟩) ∧ Hid (wx.heap[b]? = some (.cells #[.string ⟨#[67, 72, 65, 78, 71, 69, 83]⟩, .func (.func 42) #[] #[], .func (.func 43) #[] #[]] 40 (0, 0))) ∧ Hid (Below A.heap.size A wx))
  case first =>
    clear f0 f1 f2 f3 f4 f5 f6 f7 hlA
    go_wp2
    refine wp_region_held_drew (S := fun w' => w'.cell? ⟨w.heap.size, 0, none⟩ = some (.int .i64 8)) (by kernel_rfl) (HS.out _ C0) (fun hHeld => (show wpAnyH _ _ _ _ _ 7 #[false, false, false, false, false, false, false] _ _ from ?_))
    refine tq 1 9 hHeld ?_
    refine tq 2 10 hHeld ?_
    generalize hwd : A.drew = wd at *
    refine wpAnyH_ready (rs := [0, 5]) (by kernel_rfl) (by simp) ?_
    refine AllReadyH.cons rfl (fun K hK => ?_) (AllReadyH.cons rfl (fun K hK => ?_) AllReadyH.nil)
    · go_simp
      refine (forms_r _).mono ?_
      rintro e w1 ⟨rfl, hw1⟩
      have B1 : Below wd.heap.size wd w1 := by rw [hw1]; exact (Below.refl _ _).alloc (Nat.le_refl _) _
      have KF1 : w1.heap[wd.heap.size]? = some formsO := by rw [hw1]; exact box_new wd _
      have D1 := Below.step C0 B1
      clear hw1
      refine hK.out _ _ (HS.out _ D1) (fun hHeld => ?_)
      clear hK K
      refine wpAnyH_more (S' := fun w' => (w'.cell? ⟨wd.heap.size, 24, none⟩ = some (.string ⟨#[67, 72, 65, 78, 71, 69, 83]⟩) ∧ w'.cell? ⟨wd.heap.size, 25, none⟩ = some (.func (.func 42) #[] #[]) ∧ w'.cell? ⟨wd.heap.size, 26, none⟩ = some (.func (.func 43) #[] #[])) ∧ w'.cell? ⟨w.heap.size, 0, none⟩ = some (.int .i64 8)) (fun _ h => h.2) _ _ _ _ ?_
      replace hHeld := And.intro (formAt8 KF1) hHeld
      refine tq 3 11 hHeld ?_
      refine tq 4 12 hHeld ?_
      refine wpAnyH_ready (rs := [5]) (by kernel_rfl) (by simp) ?_
      refine AllReadyH.cons rfl (fun K hK => ?_) AllReadyH.nil
      go_simp
      have AB : Below w1.heap.size w1 (w1.alloc (.cells #[.string ⟨#[]⟩, .nilFunc, .nilFunc] 40)) := (Below.refl _ _).alloc (Nat.le_refl _) _
      have KV := box_new w1 (.cells #[.string ⟨#[]⟩, .nilFunc, .nilFunc] 40)
      have KF2 := box_below AB KF1
      have hne := lt_of_heap KF1
      have D2 := Below.step D1 AB
      refine hK.out _ _ (⟨formAt8 KF2, HS.out _ D2⟩) (fun hHeld => ?_)
      clear hK K
      generalize hwv : w1.alloc (.cells #[.string ⟨#[]⟩, .nilFunc, .nilFunc] 40) = w2 at *
      obtain ⟨oz, ol⟩ := box8z KV
      obtain ⟨o0, o1, o2⟩ := bx3s KV
      have hlv : A.heap.size ≤ w1.heap.size := D1.size
      have KW : (((w2.setCell ⟨w1.heap.size, 0, none⟩ (.string ⟨#[67, 72, 65, 78, 71, 69, 83]⟩)).setCell ⟨w1.heap.size, 1, none⟩ (.func (.func 42) #[] #[])).setCell ⟨w1.heap.size, 2, none⟩ (.func (.func 43) #[] #[])).heap[w1.heap.size]? = some (.cells #[.string ⟨#[67, 72, 65, 78, 71, 69, 83]⟩, .func (.func 42) #[] #[], .func (.func 43) #[] #[]] 40 (0, 0)) := box_set (i := 2) (box_set (i := 1) (box_set (i := 0) KV))
      have DW : Below A.heap.size A (((w2.setCell ⟨w1.heap.size, 0, none⟩ (.string ⟨#[67, 72, 65, 78, 71, 69, 83]⟩)).setCell ⟨w1.heap.size, 1, none⟩ (.func (.func 42) #[] #[])).setCell ⟨w1.heap.size, 2, none⟩ (.func (.func 43) #[] #[])) := ((D2.setCell (p := ⟨w1.heap.size, 0, none⟩) hlv _).setCell (p := ⟨w1.heap.size, 1, none⟩) hlv _).setCell (p := ⟨w1.heap.size, 2, none⟩) hlv _
      have KFW := box_other (i := 2) (v := .func (.func 43) #[] #[]) (box_other (i := 1) (v := .func (.func 42) #[] #[]) (box_other (i := 0) (v := .string ⟨#[67, 72, 65, 78, 71, 69, 83]⟩) KF2 (show wd.heap.size ≠ w1.heap.size by omega)) (show wd.heap.size ≠ w1.heap.size by omega)) (show wd.heap.size ≠ w1.heap.size by omega)
      have st1 := run_storeF (P := Tryz.prog) (w2.setCell ⟨w1.heap.size, 0, none⟩ (.string ⟨#[67, 72, 65, 78, 71, 69, 83]⟩)) w1.heap.size 1 _ _ (.func (.func 42) #[] #[]) (box_set (i := 0) KV) (by simp) rfl
      have st2 := run_storeF (P := Tryz.prog) ((w2.setCell ⟨w1.heap.size, 0, none⟩ (.string ⟨#[67, 72, 65, 78, 71, 69, 83]⟩)).setCell ⟨w1.heap.size, 1, none⟩ (.func (.func 42) #[] #[])) w1.heap.size 2 _ _ (.func (.func 43) #[] #[]) (box_set (i := 1) (box_set (i := 0) KV)) (by simp) rfl
      refine wpAnyH_ready (rs := [6]) (by kernel_rfl) (by simp) ?_
      refine AllReadyH.cons rfl (fun K hK => ?_) AllReadyH.nil
      go_simp
      refine hK.out _ _ (⟨formAt8 KFW, HS.out _ DW⟩) (fun hHeld => ?_)
      clear hK K
      refine wpAnyH_done (by kernel_rfl) ?_ _
      go_wp2
      go_meet
      case rel => exact ⟨w1.heap.size, rfl, KW, DW⟩
    · go_simp
      have AB : Below wd.heap.size wd (wd.alloc (.cells #[.string ⟨#[]⟩, .nilFunc, .nilFunc] 40)) := (Below.refl _ _).alloc (Nat.le_refl _) _
      have KV0 := box_new wd (.cells #[.string ⟨#[]⟩, .nilFunc, .nilFunc] 40)
      have hne := lt_of_heap KV0
      have D1 := Below.step C0 AB
      refine hK.out _ _ (HS.out _ D1) (fun hHeld => ?_)
      clear hK K
      generalize hwv : wd.alloc (.cells #[.string ⟨#[]⟩, .nilFunc, .nilFunc] 40) = w1 at *
      refine wpAnyH_ready (rs := [0]) (by kernel_rfl) (by simp) ?_
      refine AllReadyH.cons rfl (fun K hK => ?_) AllReadyH.nil
      go_simp
      refine (forms_r _).mono ?_
      rintro e w2 ⟨rfl, hw2⟩
      have B2 : Below w1.heap.size w1 w2 := by rw [hw2]; exact (Below.refl _ _).alloc (Nat.le_refl _) _
      have KF2 : w2.heap[w1.heap.size]? = some formsO := by rw [hw2]; exact box_new w1 _
      have D2 := Below.step D1 B2
      clear hw2
      have KV := box_below B2 KV0
      refine hK.out _ _ (HS.out _ D2) (fun hHeld => ?_)
      clear hK K
      refine wpAnyH_more (S' := fun w' => (w'.cell? ⟨w1.heap.size, 24, none⟩ = some (.string ⟨#[67, 72, 65, 78, 71, 69, 83]⟩) ∧ w'.cell? ⟨w1.heap.size, 25, none⟩ = some (.func (.func 42) #[] #[]) ∧ w'.cell? ⟨w1.heap.size, 26, none⟩ = some (.func (.func 43) #[] #[])) ∧ w'.cell? ⟨w.heap.size, 0, none⟩ = some (.int .i64 8)) (fun _ h => h.2) _ _ _ _ ?_
      replace hHeld := And.intro (formAt8 KF2) hHeld
      refine tq 3 11 hHeld ?_
      refine tq 4 12 hHeld ?_
      obtain ⟨oz, ol⟩ := box8z KV
      obtain ⟨o0, o1, o2⟩ := bx3s KV
      have hlv : A.heap.size ≤ wd.heap.size := C0.size
      have KW : (((w2.setCell ⟨wd.heap.size, 0, none⟩ (.string ⟨#[67, 72, 65, 78, 71, 69, 83]⟩)).setCell ⟨wd.heap.size, 1, none⟩ (.func (.func 42) #[] #[])).setCell ⟨wd.heap.size, 2, none⟩ (.func (.func 43) #[] #[])).heap[wd.heap.size]? = some (.cells #[.string ⟨#[67, 72, 65, 78, 71, 69, 83]⟩, .func (.func 42) #[] #[], .func (.func 43) #[] #[]] 40 (0, 0)) := box_set (i := 2) (box_set (i := 1) (box_set (i := 0) KV))
      have DW : Below A.heap.size A (((w2.setCell ⟨wd.heap.size, 0, none⟩ (.string ⟨#[67, 72, 65, 78, 71, 69, 83]⟩)).setCell ⟨wd.heap.size, 1, none⟩ (.func (.func 42) #[] #[])).setCell ⟨wd.heap.size, 2, none⟩ (.func (.func 43) #[] #[])) := ((D2.setCell (p := ⟨wd.heap.size, 0, none⟩) hlv _).setCell (p := ⟨wd.heap.size, 1, none⟩) hlv _).setCell (p := ⟨wd.heap.size, 2, none⟩) hlv _
      have KFW := box_other (i := 2) (v := .func (.func 43) #[] #[]) (box_other (i := 1) (v := .func (.func 42) #[] #[]) (box_other (i := 0) (v := .string ⟨#[67, 72, 65, 78, 71, 69, 83]⟩) KF2 (show w1.heap.size ≠ wd.heap.size by omega)) (show w1.heap.size ≠ wd.heap.size by omega)) (show w1.heap.size ≠ wd.heap.size by omega)
      have st1 := run_storeF (P := Tryz.prog) (w2.setCell ⟨wd.heap.size, 0, none⟩ (.string ⟨#[67, 72, 65, 78, 71, 69, 83]⟩)) wd.heap.size 1 _ _ (.func (.func 42) #[] #[]) (box_set (i := 0) KV) (by simp) rfl
      have st2 := run_storeF (P := Tryz.prog) ((w2.setCell ⟨wd.heap.size, 0, none⟩ (.string ⟨#[67, 72, 65, 78, 71, 69, 83]⟩)).setCell ⟨wd.heap.size, 1, none⟩ (.func (.func 42) #[] #[])) wd.heap.size 2 _ _ (.func (.func 43) #[] #[]) (box_set (i := 1) (box_set (i := 0) KV)) (by simp) rfl
      refine wpAnyH_ready (rs := [6]) (by kernel_rfl) (by simp) ?_
      refine AllReadyH.cons rfl (fun K hK => ?_) AllReadyH.nil
      go_simp
      refine hK.out _ _ (⟨formAt8 KFW, HS.out _ DW⟩) (fun hHeld => ?_)
      clear hK K
      refine wpAnyH_done (by kernel_rfl) ?_ _
      go_wp2
      go_meet
      case rel => exact ⟨wd.heap.size, rfl, KW, DW⟩
  case rest =>
    obtain ⟨b4, rfl, K4, X4⟩ := hcut
    clear f0 f1 f2 f3 f4 f5 f6 f7 hlA HS C0
    have HS2 : Hid (∀ w', Below wc.heap.size wc w' → (w'.cell? ⟨b4, 0, none⟩ = some (.string ⟨#[67, 72, 65, 78, 71, 69, 83]⟩) ∧ w'.cell? ⟨b4, 1, none⟩ = some (.func (.func 42) #[] #[]) ∧ w'.cell? ⟨b4, 2, none⟩ = some (.func (.func 43) #[] #[])) ∧ w'.cell? ⟨w.heap.size, 0, none⟩ = some (.int .i64 8) ∧ w'.cell? ⟨w.heap.size, 1, none⟩ = some (.slice a0 n0 c0) ∧ w'.cell? ⟨w.heap.size, 2, none⟩ = some (.slice a1 n1 c1) ∧ w'.cell? ⟨w.heap.size, 3, none⟩ = some (.int .i64 uid) ∧ w'.cell? ⟨w.heap.size, 4, none⟩ = some (.int .i64 mode) ∧ w'.cell? ⟨w.heap.size, 5, none⟩ = some (.int .i64 fl) ∧ w'.cell? ⟨w.heap.size, 6, none⟩ = some (.int .i64 si) ∧ w'.cell? ⟨w.heap.size, 7, none⟩ = some (.slice a2 n2 c2)) := by
      intro w' h
      obtain ⟨p0, p1, p2⟩ := bx3s (box_below h K4.out)
      exact ⟨⟨p0, p1, p2⟩, box8 (box_below h (box_below X4.out HK.out))⟩
    have XC : Hid (Below w.heap.size w wc) := Below.step XA.out X4.out
    have D0 : Below wc.heap.size wc wc.drew := (Below.refl _ _).drew
    have hsC := XC.out.size
    obtain ⟨p0, p1, p2⟩ := bx3s K4.out
    have hl4 := lt_of_heap K4.out
    obtain ⟨f0, f1, f2, f3, f4, f5, f6, f7⟩ := box8 (box_below X4.out HK.out)
    have hlA := lt_of_heap (box_below X4.out HK.out)
    go_wp2
    refine wp_region_held_drew (S := fun w' => (w'.cell? ⟨b4, 0, none⟩ = some (.string ⟨#[67, 72, 65, 78, 71, 69, 83]⟩) ∧ w'.cell? ⟨b4, 1, none⟩ = some (.func (.func 42) #[] #[]) ∧ w'.cell? ⟨b4, 2, none⟩ = some (.func (.func 43) #[] #[])) ∧ w'.cell? ⟨w.heap.size, 0, none⟩ = some (.int .i64 8) ∧ w'.cell? ⟨w.heap.size, 1, none⟩ = some (.slice a0 n0 c0) ∧ w'.cell? ⟨w.heap.size, 2, none⟩ = some (.slice a1 n1 c1) ∧ w'.cell? ⟨w.heap.size, 3, none⟩ = some (.int .i64 uid) ∧ w'.cell? ⟨w.heap.size, 4, none⟩ = some (.int .i64 mode) ∧ w'.cell? ⟨w.heap.size, 5, none⟩ = some (.int .i64 fl) ∧ w'.cell? ⟨w.heap.size, 6, none⟩ = some (.int .i64 si) ∧ w'.cell? ⟨w.heap.size, 7, none⟩ = some (.slice a2 n2 c2)) (by kernel_rfl) (HS2.out _ D0) (fun hHeld => (show wpAnyH _ _ _ _ _ 9 #[false, false, false, false, false, false, false, false, false] _ _ from ?_))
    refine tq 0 13 hHeld ?_
    refine tq 1 14 hHeld ?_
    refine tq 2 15 hHeld ?_
    refine tq 3 16 hHeld ?_
    refine tq 4 17 hHeld ?_
    generalize hwd4 : wc.drew = wd4 at *
    refine wpAnyH_ready (rs := [5]) (by kernel_rfl) (by simp) ?_
    refine AllReadyH.cons rfl (fun K hK => ?_) AllReadyH.nil
    go_simp
    refine (HT.out _ (Below.step XC.out D0)).mono ?_
    rintro e w5 ⟨u5, rfl, R5, B5⟩
    have D5 := Below.step D0 B5
    refine hK.out _ _ (HS2.out _ D5) (fun hHeld => ?_)
    clear hK K
    refine wpAnyH_ready (rs := [6]) (by kernel_rfl) (by simp) ?_
    refine AllReadyH.cons rfl (fun K hK => ?_) AllReadyH.nil
    go_simp
    refine (putTokens_b w5.heap.size _ u5 [] (kindW 8) ss _ (OwnB.nil' _ _) (Nat.le_refl _) (by intro x hx; simp [kindW] at hx; omega) (fun wi h => R5.below keepsStr (h.below)) (by simp) (by decide) hsl hst).mono ?_
    rintro e w6 ⟨u6, rfl, R6, B6⟩
    have D6 : Below wc.heap.size wc w6 := Below.step D5 (B6.below)
    refine hK.out _ _ (HS2.out _ D6) (fun hHeld => ?_)
    clear hK K
    refine tq 7 2 hHeld ?_
    refine tq 8 3 hHeld ?_
    refine wpAnyH_done (by kernel_rfl) ?_ _
    have HF : Hid (Row w6 w.heap.size w6.heap.size u6 (kindW 8 ++ ss.flatMap tokB)) := by
      have h := R6.toRow
      have h5 := D5.size
      simp only [List.nil_append] at h
      exact h.wide (by omega) (Nat.le_refl _)
    have HB : Hid (Below w.heap.size w w6) := Below.step XC.out D6
    clear HS2 D0 D5 D6 R5 B5 R6 B6 hHeld
    go_wp2
    exact bodyPost_ret (v := .tuple #[u6, .bool true]) (by simp [results, Tryz.results5, go_sem]) rfl ⟨u6, rfl, HF.out, HB.out⟩

set_option maxRecDepth 100000 in
set_option maxHeartbeats 4000000 in
theorem implCmdText_9 (a0 a1 a2 : Option Addr) (n0 n1 n2 c0 c1 c2 : Nat) (bx tt : List Int) (uid mode fl si : Int) (tx : List Int) (w : World) (HV : Hid (∀ wi, Below w.heap.size w wi → CmdV wi (.agg #[.int .i64 9, .slice a0 n0 c0, .slice a1 n1 c1, .int .i64 uid, .int .i64 mode, .int .i64 fl, .int .i64 si, .slice a2 n2 c2]) 9 bx tt uid mode fl si tx)) (HO : Hid (∀ wi, Below w.heap.size w wi → Calls Tryz.prog 7 #[.agg #[.int .i64 9, .slice a0 n0 c0, .slice a1 n1 c1, .int .i64 uid, .int .i64 mode, .int .i64 fl, .int .i64 si, .slice a2 n2 c2]] wi fun e w' => e = .returned (.bool true) ∧ Below wi.heap.size wi w'))
    (ss : List (List Int)) (hsl : ss.length ≤ 100) (hst : ∀ s, s ∈ ss → s.length ≤ 1000)
    (HT : Hid (∀ wi, Below w.heap.size w wi → Calls Tryz.prog 45 #[.agg #[.int .i64 9, .slice a0 n0 c0, .slice a1 n1 c1, .int .i64 uid, .int .i64 mode, .int .i64 fl, .int .i64 si, .slice a2 n2 c2]] wi fun e w' => ∃ u, e = .returned u ∧ StrsV w' u ss ∧ Below wi.heap.size wi w')) :
    Calls Tryz.prog 5 #[.agg #[.int .i64 9, .slice a0 n0 c0, .slice a1 n1 c1, .int .i64 uid, .int .i64 mode, .int .i64 fl, .int .i64 si, .slice a2 n2 c2]] w fun e w' => ∃ u, e = .returned (.tuple #[u, .bool true]) ∧ Row w' w.heap.size w'.heap.size u (kindW 9 ++ ss.flatMap tokB) ∧ Below w.heap.size w w' := by
  have HX : Hid (Below w.heap.size w (w.alloc (.cells #[.int .i64 9, .slice a0 n0 c0, .slice a1 n1 c1, .int .i64 uid, .int .i64 mode, .int .i64 fl, .int .i64 si, .slice a2 n2 c2] 24))) := (Below.refl _ _).alloc (Nat.le_refl _) _
  have HK0 := box_new w (.cells #[.int .i64 9, .slice a0 n0 c0, .slice a1 n1 c1, .int .i64 uid, .int .i64 mode, .int .i64 fl, .int .i64 si, .slice a2 n2 c2] 24)
  go_enter Tryz.func5, Tryz.ntmps5
  go_wp2_with fail
  refine (HO.out _ HX.out).mono ?_
  rintro e A ⟨rfl, BA⟩
  have XA : Hid (Below w.heap.size w A) := Below.step HX.out BA
  have HK : Hid (A.heap[w.heap.size]? = some (.cells #[.int .i64 9, .slice a0 n0 c0, .slice a1 n1 c1, .int .i64 uid, .int .i64 mode, .int .i64 fl, .int .i64 si, .slice a2 n2 c2] 24)) := box_below BA HK0
  have hsA : w.heap.size ≤ A.heap.size := XA.out.size
  clear HK0 BA HX HO
  have HS : Hid (∀ w', Below A.heap.size A w' → w'.cell? ⟨w.heap.size, 0, none⟩ = some (.int .i64 9)) := fun w' h => (box8 (box_below h HK.out)).1
  have C0 : Below A.heap.size A A.drew := (Below.refl _ _).drew
  obtain ⟨f0, f1, f2, f3, f4, f5, f6, f7⟩ := box8 HK.out
  have hlA := lt_of_heap HK.out
  go_upto_region 3 with fail
  go_cut [4] (fun s wx => ∃ b, s = .pointer (some ⟨b, 0, none⟩) ∧ Hid (wx.heap[b]? = some (.cells #[.string ⟨#[76, 73, 83, 84]⟩, .func (.func 44) #[] #[], .func (.func 45) #[] #[]] 40 (0, 0))) ∧ Hid (Below A.heap.size A wx))
  case first =>
    clear f0 f1 f2 f3 f4 f5 f6 f7 hlA
    go_wp2
    refine wp_region_held_drew (S := fun w' => w'.cell? ⟨w.heap.size, 0, none⟩ = some (.int .i64 9)) (by kernel_rfl) (HS.out _ C0) (fun hHeld => (show wpAnyH _ _ _ _ _ 7 #[false, false, false, false, false, false, false] _ _ from ?_))
    refine tq 1 9 hHeld ?_
    refine tq 2 10 hHeld ?_
    generalize hwd : A.drew = wd at *
    refine wpAnyH_ready (rs := [0, 5]) (by kernel_rfl) (by simp) ?_
    refine AllReadyH.cons rfl (fun K hK => ?_) (AllReadyH.cons rfl (fun K hK => ?_) AllReadyH.nil)
    · go_simp
      refine (forms_r _).mono ?_
      rintro e w1 ⟨rfl, hw1⟩
      have B1 : Below wd.heap.size wd w1 := by rw [hw1]; exact (Below.refl _ _).alloc (Nat.le_refl _) _
      have KF1 : w1.heap[wd.heap.size]? = some formsO := by rw [hw1]; exact box_new wd _
      have D1 := Below.step C0 B1
      clear hw1
      refine hK.out _ _ (HS.out _ D1) (fun hHeld => ?_)
      clear hK K
      refine wpAnyH_more (S' := fun w' => (w'.cell? ⟨wd.heap.size, 27, none⟩ = some (.string ⟨#[76, 73, 83, 84]⟩) ∧ w'.cell? ⟨wd.heap.size, 28, none⟩ = some (.func (.func 44) #[] #[]) ∧ w'.cell? ⟨wd.heap.size, 29, none⟩ = some (.func (.func 45) #[] #[])) ∧ w'.cell? ⟨w.heap.size, 0, none⟩ = some (.int .i64 9)) (fun _ h => h.2) _ _ _ _ ?_
      replace hHeld := And.intro (formAt9 KF1) hHeld
      refine tq 3 11 hHeld ?_
      refine tq 4 12 hHeld ?_
      refine wpAnyH_ready (rs := [5]) (by kernel_rfl) (by simp) ?_
      refine AllReadyH.cons rfl (fun K hK => ?_) AllReadyH.nil
      go_simp
      have AB : Below w1.heap.size w1 (w1.alloc (.cells #[.string ⟨#[]⟩, .nilFunc, .nilFunc] 40)) := (Below.refl _ _).alloc (Nat.le_refl _) _
      have KV := box_new w1 (.cells #[.string ⟨#[]⟩, .nilFunc, .nilFunc] 40)
      have KF2 := box_below AB KF1
      have hne := lt_of_heap KF1
      have D2 := Below.step D1 AB
      refine hK.out _ _ (⟨formAt9 KF2, HS.out _ D2⟩) (fun hHeld => ?_)
      clear hK K
      generalize hwv : w1.alloc (.cells #[.string ⟨#[]⟩, .nilFunc, .nilFunc] 40) = w2 at *
      obtain ⟨oz, ol⟩ := box8z KV
      obtain ⟨o0, o1, o2⟩ := bx3s KV
      have hlv : A.heap.size ≤ w1.heap.size := D1.size
      have KW : (((w2.setCell ⟨w1.heap.size, 0, none⟩ (.string ⟨#[76, 73, 83, 84]⟩)).setCell ⟨w1.heap.size, 1, none⟩ (.func (.func 44) #[] #[])).setCell ⟨w1.heap.size, 2, none⟩ (.func (.func 45) #[] #[])).heap[w1.heap.size]? = some (.cells #[.string ⟨#[76, 73, 83, 84]⟩, .func (.func 44) #[] #[], .func (.func 45) #[] #[]] 40 (0, 0)) := box_set (i := 2) (box_set (i := 1) (box_set (i := 0) KV))
      have DW : Below A.heap.size A (((w2.setCell ⟨w1.heap.size, 0, none⟩ (.string ⟨#[76, 73, 83, 84]⟩)).setCell ⟨w1.heap.size, 1, none⟩ (.func (.func 44) #[] #[])).setCell ⟨w1.heap.size, 2, none⟩ (.func (.func 45) #[] #[])) := ((D2.setCell (p := ⟨w1.heap.size, 0, none⟩) hlv _).setCell (p := ⟨w1.heap.size, 1, none⟩) hlv _).setCell (p := ⟨w1.heap.size, 2, none⟩) hlv _
      have KFW := box_other (i := 2) (v := .func (.func 45) #[] #[]) (box_other (i := 1) (v := .func (.func 44) #[] #[]) (box_other (i := 0) (v := .string ⟨#[76, 73, 83, 84]⟩) KF2 (show wd.heap.size ≠ w1.heap.size by omega)) (show wd.heap.size ≠ w1.heap.size by omega)) (show wd.heap.size ≠ w1.heap.size by omega)
      have st1 := run_storeF (P := Tryz.prog) (w2.setCell ⟨w1.heap.size, 0, none⟩ (.string ⟨#[76, 73, 83, 84]⟩)) w1.heap.size 1 _ _ (.func (.func 44) #[] #[]) (box_set (i := 0) KV) (by simp) rfl
      have st2 := run_storeF (P := Tryz.prog) ((w2.setCell ⟨w1.heap.size, 0, none⟩ (.string ⟨#[76, 73, 83, 84]⟩)).setCell ⟨w1.heap.size, 1, none⟩ (.func (.func 44) #[] #[])) w1.heap.size 2 _ _ (.func (.func 45) #[] #[]) (box_set (i := 1) (box_set (i := 0) KV)) (by simp) rfl
      refine wpAnyH_ready (rs := [6]) (by kernel_rfl) (by simp) ?_
      refine AllReadyH.cons rfl (fun K hK => ?_) AllReadyH.nil
      go_simp
      refine hK.out _ _ (⟨formAt9 KFW, HS.out _ DW⟩) (fun hHeld => ?_)
      clear hK K
      refine wpAnyH_done (by kernel_rfl) ?_ _
      go_wp2
      go_meet
      case rel => exact ⟨w1.heap.size, rfl, KW, DW⟩
    · go_simp
      have AB : Below wd.heap.size wd (wd.alloc (.cells #[.string ⟨#[]⟩, .nilFunc, .nilFunc] 40)) := (Below.refl _ _).alloc (Nat.le_refl _) _
      have KV0 := box_new wd (.cells #[.string ⟨#[]⟩, .nilFunc, .nilFunc] 40)
      have hne := lt_of_heap KV0
      have D1 := Below.step C0 AB
      refine hK.out _ _ (HS.out _ D1) (fun hHeld => ?_)
      clear hK K
      generalize hwv : wd.alloc (.cells #[.string ⟨#[]⟩, .nilFunc, .nilFunc] 40) = w1 at *
      refine wpAnyH_ready (rs := [0]) (by kernel_rfl) (by simp) ?_
      refine AllReadyH.cons rfl (fun K hK => ?_) AllReadyH.nil
      go_simp
      refine (forms_r _).mono ?_
      rintro e w2 ⟨rfl, hw2⟩
      have B2 : Below w1.heap.size w1 w2 := by rw [hw2]; exact (Below.refl _ _).alloc (Nat.le_refl _) _
      have KF2 : w2.heap[w1.heap.size]? = some formsO := by rw [hw2]; exact box_new w1 _
      have D2 := Below.step D1 B2
      clear hw2
      have KV := box_below B2 KV0
      refine hK.out _ _ (HS.out _ D2) (fun hHeld => ?_)
      clear hK K
      refine wpAnyH_more (S' := fun w' => (w'.cell? ⟨w1.heap.size, 27, none⟩ = some (.string ⟨#[76, 73, 83, 84]⟩) ∧ w'.cell? ⟨w1.heap.size, 28, none⟩ = some (.func (.func 44) #[] #[]) ∧ w'.cell? ⟨w1.heap.size, 29, none⟩ = some (.func (.func 45) #[] #[])) ∧ w'.cell? ⟨w.heap.size, 0, none⟩ = some (.int .i64 9)) (fun _ h => h.2) _ _ _ _ ?_
      replace hHeld := And.intro (formAt9 KF2) hHeld
      refine tq 3 11 hHeld ?_
      refine tq 4 12 hHeld ?_
      obtain ⟨oz, ol⟩ := box8z KV
      obtain ⟨o0, o1, o2⟩ := bx3s KV
      have hlv : A.heap.size ≤ wd.heap.size := C0.size
      have KW : (((w2.setCell ⟨wd.heap.size, 0, none⟩ (.string ⟨#[76, 73, 83, 84]⟩)).setCell ⟨wd.heap.size, 1, none⟩ (.func (.func 44) #[] #[])).setCell ⟨wd.heap.size, 2, none⟩ (.func (.func 45) #[] #[])).heap[wd.heap.size]? = some (.cells #[.string ⟨#[76, 73, 83, 84]⟩, .func (.func 44) #[] #[], .func (.func 45) #[] #[]] 40 (0, 0)) := box_set (i := 2) (box_set (i := 1) (box_set (i := 0) KV))
      have DW : Below A.heap.size A (((w2.setCell ⟨wd.heap.size, 0, none⟩ (.string ⟨#[76, 73, 83, 84]⟩)).setCell ⟨wd.heap.size, 1, none⟩ (.func (.func 44) #[] #[])).setCell ⟨wd.heap.size, 2, none⟩ (.func (.func 45) #[] #[])) := ((D2.setCell (p := ⟨wd.heap.size, 0, none⟩) hlv _).setCell (p := ⟨wd.heap.size, 1, none⟩) hlv _).setCell (p := ⟨wd.heap.size, 2, none⟩) hlv _
      have KFW := box_other (i := 2) (v := .func (.func 45) #[] #[]) (box_other (i := 1) (v := .func (.func 44) #[] #[]) (box_other (i := 0) (v := .string ⟨#[76, 73, 83, 84]⟩) KF2 (show w1.heap.size ≠ wd.heap.size by omega)) (show w1.heap.size ≠ wd.heap.size by omega)) (show w1.heap.size ≠ wd.heap.size by omega)
      have st1 := run_storeF (P := Tryz.prog) (w2.setCell ⟨wd.heap.size, 0, none⟩ (.string ⟨#[76, 73, 83, 84]⟩)) wd.heap.size 1 _ _ (.func (.func 44) #[] #[]) (box_set (i := 0) KV) (by simp) rfl
      have st2 := run_storeF (P := Tryz.prog) ((w2.setCell ⟨wd.heap.size, 0, none⟩ (.string ⟨#[76, 73, 83, 84]⟩)).setCell ⟨wd.heap.size, 1, none⟩ (.func (.func 44) #[] #[])) wd.heap.size 2 _ _ (.func (.func 45) #[] #[]) (box_set (i := 1) (box_set (i := 0) KV)) (by simp) rfl
      refine wpAnyH_ready (rs := [6]) (by kernel_rfl) (by simp) ?_
      refine AllReadyH.cons rfl (fun K hK => ?_) AllReadyH.nil
      go_simp
      refine hK.out _ _ (⟨formAt9 KFW, HS.out _ DW⟩) (fun hHeld => ?_)
      clear hK K
      refine wpAnyH_done (by kernel_rfl) ?_ _
      go_wp2
      go_meet
      case rel => exact ⟨wd.heap.size, rfl, KW, DW⟩
  case rest =>
    obtain ⟨b4, rfl, K4, X4⟩ := hcut
    clear f0 f1 f2 f3 f4 f5 f6 f7 hlA HS C0
    have HS2 : Hid (∀ w', Below wc.heap.size wc w' → (w'.cell? ⟨b4, 0, none⟩ = some (.string ⟨#[76, 73, 83, 84]⟩) ∧ w'.cell? ⟨b4, 1, none⟩ = some (.func (.func 44) #[] #[]) ∧ w'.cell? ⟨b4, 2, none⟩ = some (.func (.func 45) #[] #[])) ∧ w'.cell? ⟨w.heap.size, 0, none⟩ = some (.int .i64 9) ∧ w'.cell? ⟨w.heap.size, 1, none⟩ = some (.slice a0 n0 c0) ∧ w'.cell? ⟨w.heap.size, 2, none⟩ = some (.slice a1 n1 c1) ∧ w'.cell? ⟨w.heap.size, 3, none⟩ = some (.int .i64 uid) ∧ w'.cell? ⟨w.heap.size, 4, none⟩ = some (.int .i64 mode) ∧ w'.cell? ⟨w.heap.size, 5, none⟩ = some (.int .i64 fl) ∧ w'.cell? ⟨w.heap.size, 6, none⟩ = some (.int .i64 si) ∧ w'.cell? ⟨w.heap.size, 7, none⟩ = some (.slice a2 n2 c2)) := by
      intro w' h
      obtain ⟨p0, p1, p2⟩ := bx3s (box_below h K4.out)
      exact ⟨⟨p0, p1, p2⟩, box8 (box_below h (box_below X4.out HK.out))⟩
    have XC : Hid (Below w.heap.size w wc) := Below.step XA.out X4.out
    have D0 : Below wc.heap.size wc wc.drew := (Below.refl _ _).drew
    have hsC := XC.out.size
    obtain ⟨p0, p1, p2⟩ := bx3s K4.out
    have hl4 := lt_of_heap K4.out
    obtain ⟨f0, f1, f2, f3, f4, f5, f6, f7⟩ := box8 (box_below X4.out HK.out)
    have hlA := lt_of_heap (box_below X4.out HK.out)
    go_wp2
    refine wp_region_held_drew (S := fun w' => (w'.cell? ⟨b4, 0, none⟩ = some (.string ⟨#[76, 73, 83, 84]⟩) ∧ w'.cell? ⟨b4, 1, none⟩ = some (.func (.func 44) #[] #[]) ∧ w'.cell? ⟨b4, 2, none⟩ = some (.func (.func 45) #[] #[])) ∧ w'.cell? ⟨w.heap.size, 0, none⟩ = some (.int .i64 9) ∧ w'.cell? ⟨w.heap.size, 1, none⟩ = some (.slice a0 n0 c0) ∧ w'.cell? ⟨w.heap.size, 2, none⟩ = some (.slice a1 n1 c1) ∧ w'.cell? ⟨w.heap.size, 3, none⟩ = some (.int .i64 uid) ∧ w'.cell? ⟨w.heap.size, 4, none⟩ = some (.int .i64 mode) ∧ w'.cell? ⟨w.heap.size, 5, none⟩ = some (.int .i64 fl) ∧ w'.cell? ⟨w.heap.size, 6, none⟩ = some (.int .i64 si) ∧ w'.cell? ⟨w.heap.size, 7, none⟩ = some (.slice a2 n2 c2)) (by kernel_rfl) (HS2.out _ D0) (fun hHeld => (show wpAnyH _ _ _ _ _ 9 #[false, false, false, false, false, false, false, false, false] _ _ from ?_))
    refine tq 0 13 hHeld ?_
    refine tq 1 14 hHeld ?_
    refine tq 2 15 hHeld ?_
    refine tq 3 16 hHeld ?_
    refine tq 4 17 hHeld ?_
    generalize hwd4 : wc.drew = wd4 at *
    refine wpAnyH_ready (rs := [5]) (by kernel_rfl) (by simp) ?_
    refine AllReadyH.cons rfl (fun K hK => ?_) AllReadyH.nil
    go_simp
    refine (HT.out _ (Below.step XC.out D0)).mono ?_
    rintro e w5 ⟨u5, rfl, R5, B5⟩
    have D5 := Below.step D0 B5
    refine hK.out _ _ (HS2.out _ D5) (fun hHeld => ?_)
    clear hK K
    refine wpAnyH_ready (rs := [6]) (by kernel_rfl) (by simp) ?_
    refine AllReadyH.cons rfl (fun K hK => ?_) AllReadyH.nil
    go_simp
    refine (putTokens_b w5.heap.size _ u5 [] (kindW 9) ss _ (OwnB.nil' _ _) (Nat.le_refl _) (by intro x hx; simp [kindW] at hx; omega) (fun wi h => R5.below keepsStr (h.below)) (by simp) (by decide) hsl hst).mono ?_
    rintro e w6 ⟨u6, rfl, R6, B6⟩
    have D6 : Below wc.heap.size wc w6 := Below.step D5 (B6.below)
    refine hK.out _ _ (HS2.out _ D6) (fun hHeld => ?_)
    clear hK K
    refine tq 7 2 hHeld ?_
    refine tq 8 3 hHeld ?_
    refine wpAnyH_done (by kernel_rfl) ?_ _
    have HF : Hid (Row w6 w.heap.size w6.heap.size u6 (kindW 9 ++ ss.flatMap tokB)) := by
      have h := R6.toRow
      have h5 := D5.size
      simp only [List.nil_append] at h
      exact h.wide (by omega) (Nat.le_refl _)
    have HB : Hid (Below w.heap.size w w6) := Below.step XC.out D6
    clear HS2 D0 D5 D6 R5 B5 R6 B6 hHeld
    go_wp2
    exact bodyPost_ret (v := .tuple #[u6, .bool true]) (by simp [results, Tryz.results5, go_sem]) rfl ⟨u6, rfl, HF.out, HB.out⟩

end Go.Proofs.YtlegmiaoablcgaaGreatDoor

/- What wantsOf of package impl does. -/
namespace Go.Proofs.YtlegmiaoablcgaaGreatDoor
open Go.RowKit
set_option maxRecDepth 100000

set_option maxHeartbeats 400000 in
theorem nameWanted_any (wt : Bool) (v : Value) (l : List Int) (w : World) (hv : Bs w v l) :
    Calls Tryz.prog 22 #[.bool wt, v] w fun e w' => e = .returned (.bool (bif wt then nameB l else decide (l.length = 0))) ∧ Below w.heap.size w w' := by
  have H : Hid (Bs w v l) := hv
  obtain ⟨ho, a, cap, rfl, hlc, hcm, -⟩ := hv
  cases wt with
  | true =>
    go_enter Tryz.func22, Tryz.ntmps22
    go_wp2_with (first | (go_at_call 46; refine (nameOk_any _ l _ H.out).mono ?_; rintro e w1 ⟨rfl, B⟩))
    go_ret
    exact ⟨ret_b rfl, B⟩
  | false =>
    by_cases h : l.length = 0
    · have h' : l = [] := List.eq_nil_of_length_eq_zero h
      subst h'
      go_enter Tryz.func22, Tryz.ntmps22
      go_wp2
      go_ret
      exact ⟨ret_b rfl, Below.refl _ _⟩
    · have h2 : (l.length : Int) ≠ 0 := by omega
      have e : Hid ((bif false then nameB l else decide (l.length = 0)) = false) := by simp [Hid]; exact fun e => h (by rw [e]; rfl)
      generalize l.length = n at h2 hlc h e
      go_enter Tryz.func22, Tryz.ntmps22
      go_wp2
      go_ret
      exact ⟨ret_b (e.out.trans (by simp [h])), Below.refl _ _⟩

/-- Which fields a kind of command has. -/
def wantsV (k : Int) : Value :=
  .agg #[.bool (!decide (k = 9)), .bool (decide (k = 6)), .int .i64 (if k = 3 ∨ k = 5 ∨ k = 6 then 1 else 0), .int .i64 (if k = 3 ∨ k = 5 ∨ k = 6 then 1000000 else 0), .int .i64 (if k = 3 then 2 else if k = 6 then 1 else 0),
    .int .i64 (if k = 2 ∨ k = 3 then 31 else 0), .int .i64 (if k = 3 ∨ k = 8 then 1000000 else 0), .int .i64 (if k = 2 then 30 else 0)]

set_option maxHeartbeats 1000000 in
theorem wantsOf_any (k : Int) (h : 0 ≤ k ∧ k ≤ 9) (w : World) :
    Calls Tryz.prog 21 #[.int .i64 k] w fun e w' => e = .returned (wantsV k) ∧ Below w.heap.size w w' := by
  have hk : k = 0 ∨ k = 1 ∨ k = 2 ∨ k = 3 ∨ k = 4 ∨ k = 5 ∨ k = 6 ∨ k = 7 ∨ k = 8 ∨ k = 9 := by omega
  clear h
  rcases hk with rfl | rfl | rfl | rfl | rfl | rfl | rfl | rfl | rfl | rfl
  all_goals
    go_enter Tryz.func21, Tryz.ntmps21
    go_wp2
  all_goals refine bodyPost_ret (v := wantsV _) (by simp [results, Tryz.results21, go_sem, wantsV]) rfl ⟨rfl, ?_⟩
  all_goals exact (Below.refl _ _).alloc (Nat.le_refl _) _

end Go.Proofs.YtlegmiaoablcgaaGreatDoor

/- What CmdOk of package impl does. -/
namespace Go.Proofs.YtlegmiaoablcgaaGreatDoor
open Go.RowKit
set_option maxRecDepth 100000
set_option linter.unusedVariables false

theorem cmdB_conj (k : Int) (h : 0 ≤ k ∧ k ≤ 9) (bx tt : List Int) (uid mode fl si : Int) (tx : List Int) : cmdB k bx tt uid mode fl si tx =
    ((bif (!decide (k = 9)) then nameB bx else decide (bx.length = 0)) && ((bif decide (k = 6) then nameB tt else decide (tt.length = 0)) && (inB uid (if k = 3 ∨ k = 5 ∨ k = 6 then 1 else 0) (if k = 3 ∨ k = 5 ∨ k = 6 then 1000000 else 0) && (inB mode 0 (if k = 3 then 2 else if k = 6 then 1 else 0) && (inB fl 0 (if k = 2 ∨ k = 3 then 31 else 0) && (inB si 0 (if k = 3 ∨ k = 8 then 1000000 else 0) && (decide ((tx.length : Int) ≤ (if k = 2 then 30 else 0)) && textB tx))))))) := by
  have hk : k = 0 ∨ k = 1 ∨ k = 2 ∨ k = 3 ∨ k = 4 ∨ k = 5 ∨ k = 6 ∨ k = 7 ∨ k = 8 ∨ k = 9 := by omega
  have z := textB_nil (l := tx)
  have z2 := textB_len (l := tx)
  unfold cmdB inB
  generalize textB tx = T at *
  generalize nameB bx = NB at *
  generalize nameB tt = NT at *
  generalize tx.length = n at *
  generalize bx.length = n1 at *
  generalize tt.length = n2 at *
  clear h
  rcases hk with rfl | rfl | rfl | rfl | rfl | rfl | rfl | rfl | rfl | rfl <;> cases T <;> cases NB <;> cases NT <;> rw [Bool.eq_iff_iff] <;> simp at * <;> omega

set_option maxRecDepth 100000 in
set_option maxHeartbeats 2000000 in
theorem implCmdOk_gen (k : Int) (hk : 0 ≤ k ∧ k ≤ 9) (W0 W1 : Bool) (W2 W3 W4 W5 W6 W7 : Int) (hW : wantsV k = .agg #[.bool W0, .bool W1, .int .i64 W2, .int .i64 W3, .int .i64 W4, .int .i64 W5, .int .i64 W6, .int .i64 W7]) (a0 a1 a2 : Option Addr) (nb nt nx c0 c1 c2 : Nat) (bx tt : List Int) (uid mode fl si : Int) (tx : List Int) (w : World)
    (H0 : Hid (∀ wi, Below w.heap.size w wi → Bs wi (.slice a0 nb c0) bx ∧ Bs wi (.slice a1 nt c1) tt ∧ Bs wi (.slice a2 nx c2) tx)) (c : Bool)
    (HC : Hid (c = ((bif W0 then nameB bx else decide (bx.length = 0)) && ((bif W1 then nameB tt else decide (tt.length = 0)) && (inB uid W2 W3 && (inB mode 0 W4 && (inB fl 0 W5 && (inB si 0 W6 && (decide ((nx : Int) ≤ W7) && textB tx))))))))) :
    Calls Tryz.prog 7 #[.agg #[.int .i64 k, .slice a0 nb c0, .slice a1 nt c1, .int .i64 uid, .int .i64 mode, .int .i64 fl, .int .i64 si, .slice a2 nx c2]] w fun e w' => e = .returned (.bool c) ∧ Below w.heap.size w w' := by
  have hp : ∀ w, Calls Tryz.prog 21 #[.int .i64 k] w fun e w' => e = .returned (.agg #[.bool W0, .bool W1, .int .i64 W2, .int .i64 W3, .int .i64 W4, .int .i64 W5, .int .i64 W6, .int .i64 W7]) ∧ Below w.heap.size w w' := fun w => by rw [← hW]; exact wantsOf_any k hk w
  have ab : ∀ (x : World) o, Below x.heap.size x (x.alloc o) := fun x o => (Below.refl _ _).alloc (Nat.le_refl _) o
  have hin : ∀ w, Calls Tryz.prog 20 #[.int .i64 k, .int .i64 0, .int .i64 9] w fun e w' => e = .returned (.bool true) ∧ w' = w := fun w => by
    have h := within_any k 0 9 w
    rwa [show inB k 0 9 = true by simp [inB, hk.1, hk.2]] at h
  clear hW
  have hy0 : ∀ w (_ : Bs w (.slice a0 nb c0) bx), Calls Tryz.prog 22 #[.bool W0, .slice a0 nb c0] w fun e w' => e = .returned (.bool (bif W0 then nameB bx else decide (bx.length = 0))) ∧ Below w.heap.size w w' := fun w h => nameWanted_any _ _ bx w h
  have hy1 : ∀ w (_ : Bs w (.slice a1 nt c1) tt), Calls Tryz.prog 22 #[.bool W1, .slice a1 nt c1] w fun e w' => e = .returned (.bool (bif W1 then nameB tt else decide (tt.length = 0))) ∧ Below w.heap.size w w' := fun w h => nameWanted_any _ _ tt w h
  have hy2 := within_any uid W2 W3
  have hy3 := within_any mode 0 W4
  have hy4 := within_any fl 0 W5
  have hy5 := within_any si 0 W6
  have hy7 := textOk_any (.slice a2 nx c2) tx
  generalize (bif W0 then nameB bx else decide (bx.length = 0)) = X0 at HC hy0
  generalize (bif W1 then nameB tt else decide (tt.length = 0)) = X1 at HC hy1
  generalize inB uid W2 W3 = X2 at HC hy2
  generalize inB mode 0 W4 = X3 at HC hy3
  generalize inB fl 0 W5 = X4 at HC hy4
  generalize inB si 0 W6 = X5 at HC hy5
  generalize textB tx = X7 at HC hy7
  have bx0 := box_new w (.cells #[.int .i64 k, .slice a0 nb c0, .slice a1 nt c1, .int .i64 uid, .int .i64 mode, .int .i64 fl, .int .i64 si, .slice a2 nx c2] 24)
  go_enter Tryz.func7, Tryz.ntmps7
  go_wp2_with fail
  refine (hin _).mono ?_
  rintro e w' ⟨rfl, rfl⟩
  go_wp2_with fail
  refine (hp _).mono ?_
  rintro e w1 ⟨rfl, B⟩
  have X := Below.step (ab w _) B
  have s1 : w.heap.size < w1.heap.size := by have := B.size; simp at this; omega
  have kc := box_below B bx0
  clear bx0 B hp hin
  obtain ⟨c_0, c_1, c_2, c_3, c_4, c_5, c_6, c_7⟩ := box8 kc
  have kw := box_new w1 (.cells #[.bool W0, .bool W1, .int .i64 W2, .int .i64 W3, .int .i64 W4, .int .i64 W5, .int .i64 W6, .int .i64 W7] 50)
  replace kc := box_alloc kc (.cells #[.bool W0, .bool W1, .int .i64 W2, .int .i64 W3, .int .i64 W4, .int .i64 W5, .int .i64 W6, .int .i64 W7] 50)
  replace X := Below.step X (ab w1 (.cells #[.bool W0, .bool W1, .int .i64 W2, .int .i64 W3, .int .i64 W4, .int .i64 W5, .int .i64 W6, .int .i64 W7] 50))
  clear ab
  go_wp2_with fail
  refine (hy0 _ (H0.out _ X).1).mono ?_
  rintro e w2 ⟨rfl, B⟩
  clear c_0 c_1 c_2 c_3 c_4 c_5 c_6 c_7 hy0 s1
  replace kc := box_below B kc
  replace kw := box_below B kw
  replace X := Below.step X B
  clear B
  obtain ⟨c_0, c_1, c_2, c_3, c_4, c_5, c_6, c_7⟩ := box8 kc
  obtain ⟨d_0, d_1, d_2, d_3, d_4, d_5, d_6, d_7⟩ := box8 kw
  cases X0 with
  | false =>
    go_wp2
    go_ret
    exact ⟨ret_b HC.out, X⟩
  | true =>
  go_wp2_with fail
  refine (hy1 _ (H0.out _ X).2.1).mono ?_
  rintro e w3 ⟨rfl, B⟩
  clear c_0 c_1 c_2 c_3 c_4 c_5 c_6 c_7 d_0 d_1 d_2 d_3 d_4 d_5 d_6 d_7 hy1
  replace kc := box_below B kc
  replace kw := box_below B kw
  replace X := Below.step X B
  clear B
  obtain ⟨c_0, c_1, c_2, c_3, c_4, c_5, c_6, c_7⟩ := box8 kc
  obtain ⟨d_0, d_1, d_2, d_3, d_4, d_5, d_6, d_7⟩ := box8 kw
  cases X1 with
  | false =>
    go_wp2
    go_ret
    exact ⟨ret_b HC.out, X⟩
  | true =>
  go_wp2_with fail
  refine (hy2 _).mono ?_
  rintro e w' ⟨rfl, rfl⟩
  cases X2 with
  | false =>
    go_wp2
    go_ret
    exact ⟨ret_b HC.out, X⟩
  | true =>
  go_wp2_with fail
  refine (hy3 _).mono ?_
  rintro e w' ⟨rfl, rfl⟩
  cases X3 with
  | false =>
    go_wp2
    go_ret
    exact ⟨ret_b HC.out, X⟩
  | true =>
  go_wp2_with fail
  refine (hy4 _).mono ?_
  rintro e w' ⟨rfl, rfl⟩
  cases X4 with
  | false =>
    go_wp2
    go_ret
    exact ⟨ret_b HC.out, X⟩
  | true =>
  go_wp2_with fail
  refine (hy5 _).mono ?_
  rintro e w' ⟨rfl, rfl⟩
  cases X5 with
  | false =>
    go_wp2
    go_ret
    exact ⟨ret_b HC.out, X⟩
  | true =>
  by_cases h6 : (nx : Int) ≤ W7
  · rw [decide_eq_true h6] at HC
    go_wp2_with fail
    refine (hy7 _ (H0.out _ X).2.2).mono ?_
    rintro e w4 ⟨rfl, B⟩
    go_wp2
    go_ret
    exact ⟨ret_b HC.out, Below.step X B⟩
  · rw [decide_eq_false h6] at HC
    go_wp2
    go_ret
    exact ⟨ret_b HC.out, X⟩

set_option maxRecDepth 100000 in
theorem implCmdOk_any (v : Value) (k : Int) (bx tt : List Int) (uid mode fl si : Int) (tx : List Int) (w : World) (hv : CmdV w v k bx tt uid mode fl si tx) :
    Calls Tryz.prog 7 #[v] w fun e w' => e = .returned (.bool (cmdB k bx tt uid mode fl si tx)) ∧ Below w.heap.size w w' := by
  obtain ⟨u0, u1, u2, rfl, g0, g1, g2, i0, i1, i2, i3, i4⟩ := hv
  have H0 : Hid (∀ wi, Below w.heap.size w wi → Bs wi u0 bx ∧ Bs wi u1 tt ∧ Bs wi u2 tx) := fun wi h => ⟨g0.below h, g1.below h, g2.below h⟩
  obtain ⟨a0, c0, rfl⟩ := g0.form
  obtain ⟨a1, c1, rfl⟩ := g1.form
  obtain ⟨a2, c2, rfl⟩ := g2.form
  by_cases h : 0 ≤ k ∧ k ≤ 9
  · exact implCmdOk_gen k h _ _ _ _ _ _ _ _ rfl a0 a1 a2 _ _ _ c0 c1 c2 bx tt uid mode fl si tx w H0 _ (cmdB_conj k h bx tt uid mode fl si tx)
  · have HZ : Hid (cmdB k bx tt uid mode fl si tx = false) := by simp [Hid, cmdB, h]
    have hin : ∀ w, Calls Tryz.prog 20 #[.int .i64 k, .int .i64 0, .int .i64 9] w fun e w' => e = .returned (.bool false) ∧ w' = w := fun w => by
      have h' := within_any k 0 9 w
      rwa [show inB k 0 9 = false by simp [inB]; omega] at h'
    go_enter Tryz.func7, Tryz.ntmps7
    go_wp2_with fail
    refine (hin _).mono ?_
    rintro e w' ⟨rfl, rfl⟩
    go_wp2
    go_ret
    exact ⟨ret_b HZ.out, (Below.refl _ _).alloc (Nat.le_refl _) _⟩

end Go.Proofs.YtlegmiaoablcgaaGreatDoor

/- What CmdText of package impl does. -/
namespace Go.Proofs.YtlegmiaoablcgaaGreatDoor
open Go.RowKit
set_option maxRecDepth 100000
set_option linter.unusedVariables false
set_option linter.unusedSimpArgs false

theorem flat_tokB (ss : List (List Int)) : ss.flatMap tokB = ss.flatMap (fun s => [32] ++ s) := rfl
theorem tab_keeps {w wi : World} (ht : Tab10 w) (h : Below w.heap.size w wi) : Tab10 wi := Lib.tabBelow_of_tabIs ht _ h

set_option maxRecDepth 100000 in
set_option maxHeartbeats 2000000 in
theorem implCmdText_r (v : Value) (k : Int) (bx tt : List Int) (uid mode fl si : Int) (tx : List Int) (w : World) (hv : CmdV w v k bx tt uid mode fl si tx) (ht : Tab10 w) :
    Calls Tryz.prog 5 #[v] w fun e w' => ∃ u, e = .returned (.tuple #[u, .bool (cmdB k bx tt uid mode fl si tx)]) ∧ Row w' w.heap.size w'.heap.size u (ctB k bx tt uid mode fl si tx) ∧ Below w.heap.size w w' := by
  have HV : Hid (∀ wi, Below w.heap.size w wi → CmdV wi v k bx tt uid mode fl si tx) := fun wi h => hv.below h
  have HO0 : Hid (∀ wi, Below w.heap.size w wi → Calls Tryz.prog 7 #[v] wi fun e w' => e = .returned (.bool (cmdB k bx tt uid mode fl si tx)) ∧ Below wi.heap.size wi w') := fun wi h => implCmdOk_any v k bx tt uid mode fl si tx wi (hv.below h)
  obtain ⟨u0, u1, u2, rfl, g0, g1, g2, -⟩ := hv
  obtain ⟨a0, n0, c0, rfl⟩ := g0.form3
  obtain ⟨a1, n1, c1, rfl⟩ := g1.form3
  obtain ⟨a2, n2, c2, rfl⟩ := g2.form3
  clear g0 g1 g2
  cases hok : cmdB k bx tt uid mode fl si tx with
  | false =>
    have HE : Hid (ctB k bx tt uid mode fl si tx = []) := ctB_no hok
    have HO : Hid (∀ wi, Below w.heap.size w wi → Calls Tryz.prog 7 #[.agg #[.int .i64 k, .slice a0 n0 c0, .slice a1 n1 c1, .int .i64 uid, .int .i64 mode, .int .i64 fl, .int .i64 si, .slice a2 n2 c2]] wi fun e w' => e = .returned (.bool false) ∧ Below wi.heap.size wi w') := by rw [hok] at HO0; exact HO0
    clear HO0 hok HV
    have HX : Hid (∀ o, Below w.heap.size w (w.alloc o)) := fun o => (Below.refl _ _).alloc (Nat.le_refl _) o
    go_enter Tryz.func5, Tryz.ntmps5
    go_wp2_with fail
    refine (HO.out _ (HX.out _)).mono ?_
    rintro e w1 ⟨rfl, B⟩
    have X := Below.step (HX.out _) B
    clear B HX HO
    go_wp2
    refine bodyPost_ret (v := .tuple #[.slice none 0 0, .bool false]) (by simp [results, Tryz.results5, go_sem]) rfl ⟨.slice none 0 0, rfl, ?_, X⟩
    rw [HE.out]
    exact Row.nil _ _ _
  | true =>
    obtain ⟨hk, hb, htn, hu, hm, hf, hs, hx⟩ := cmd_facts hok
    have HO : Hid (∀ wi, Below w.heap.size w wi → Calls Tryz.prog 7 #[.agg #[.int .i64 k, .slice a0 n0 c0, .slice a1 n1 c1, .int .i64 uid, .int .i64 mode, .int .i64 fl, .int .i64 si, .slice a2 n2 c2]] wi fun e w' => e = .returned (.bool true) ∧ Below wi.heap.size wi w') := by rw [hok] at HO0; exact HO0
    rw [ctB_yes hok]
    have hbl : bx.length ≤ 6 ∨ k = 9 := by
      by_cases h9 : k = 9
      · exact .inr h9
      · exact .inl (nameB_len (hb h9)).2
    have htl : k = 6 → tt.length ≤ 6 := fun h => (nameB_len (htn h)).2
    have hql := quoB_len tx
    have hfl := flagsB_len fl
    have hdu := digB_len10 (n := uid.toNat) (by omega)
    have hds := digB_len10 (n := si.toNat) (by omega)
    have hmw : (modeW mode).length ≤ 7 := by
      obtain ⟨mn, rfl⟩ : ∃ n : Nat, mode = n := ⟨mode.toNat, by omega⟩
      exact (modeW_ok mn (by omega)).1
    have hsw : sinceW.length = 5 ∧ awayW.length = 4 := ⟨rfl, rfl⟩
    clear HO0 hok hb htn
    have hk' : k = 0 ∨ k = 1 ∨ k = 2 ∨ k = 3 ∨ k = 4 ∨ k = 5 ∨ k = 6 ∨ k = 7 ∨ k = 8 ∨ k = 9 := by omega
    rcases hk' with rfl | rfl | rfl | rfl | rfl | rfl | rfl | rfl | rfl | rfl
    · refine (implCmdText_0 a0 a1 a2 n0 n1 n2 c0 c1 c2 bx tt uid mode fl si tx w HV HO [bx] (by simp) (by intro s hs; simp only [List.mem_cons, List.not_mem_nil, or_false] at hs; rcases hs with rfl <;> omega) (fun wi h => boxTokens_r _ 0 bx tt uid mode fl si tx wi (HV.out wi h))).mono ?_
      rintro e w' ⟨u, rfl, hR, r⟩
      exact ⟨u, rfl, by simpa [toksB, flat_tokB, tokB] using hR, r⟩
    · refine (implCmdText_1 a0 a1 a2 n0 n1 n2 c0 c1 c2 bx tt uid mode fl si tx w HV HO [bx] (by simp) (by intro s hs; simp only [List.mem_cons, List.not_mem_nil, or_false] at hs; rcases hs with rfl <;> omega) (fun wi h => boxTokens_r _ 1 bx tt uid mode fl si tx wi (HV.out wi h))).mono ?_
      rintro e w' ⟨u, rfl, hR, r⟩
      exact ⟨u, rfl, by simpa [toksB, flat_tokB, tokB] using hR, r⟩
    · refine (implCmdText_2 a0 a1 a2 n0 n1 n2 c0 c1 c2 bx tt uid mode fl si tx w HV HO [bx, flagsB fl, quoB tx] (by simp) (by intro s hs; simp only [List.mem_cons, List.not_mem_nil, or_false] at hs; rcases hs with rfl | rfl | rfl <;> omega) (fun wi h => appendTokens_r _ 2 bx tt uid mode fl si tx wi (HV.out wi h) (by omega) (by omega) (by omega))).mono ?_
      rintro e w' ⟨u, rfl, hR, r⟩
      exact ⟨u, rfl, by simpa [toksB, flat_tokB, tokB] using hR, r⟩
    · refine (implCmdText_3 a0 a1 a2 n0 n1 n2 c0 c1 c2 bx tt uid mode fl si tx w HV HO (storeT bx uid mode fl si) (by unfold storeT; split <;> simp) (by unfold storeT; split <;> intro s hs <;> simp only [List.mem_cons, List.not_mem_nil, or_false] at hs <;> (first | (rcases hs with rfl | rfl | rfl | rfl | rfl | rfl <;> omega) | (rcases hs with rfl | rfl | rfl | rfl <;> omega))) (fun wi h => storeTokens_r _ 3 bx tt uid mode fl si tx wi (HV.out wi h) (by omega) (by omega) (by omega) (by omega) (by omega) (by omega) (by omega) (by omega) (tab_keeps ht h))).mono ?_
      rintro e w' ⟨u, rfl, hR, r⟩
      exact ⟨u, rfl, by simpa [toksB, flat_tokB, tokB, storeT] using hR, r⟩
    · refine (implCmdText_4 a0 a1 a2 n0 n1 n2 c0 c1 c2 bx tt uid mode fl si tx w HV HO [bx] (by simp) (by intro s hs; simp only [List.mem_cons, List.not_mem_nil, or_false] at hs; rcases hs with rfl <;> omega) (fun wi h => boxTokens_r _ 4 bx tt uid mode fl si tx wi (HV.out wi h))).mono ?_
      rintro e w' ⟨u, rfl, hR, r⟩
      exact ⟨u, rfl, by simpa [toksB, flat_tokB, tokB] using hR, r⟩
    · refine (implCmdText_5 a0 a1 a2 n0 n1 n2 c0 c1 c2 bx tt uid mode fl si tx w HV HO [bx, digB uid.toNat] (by simp) (by intro s hs; simp only [List.mem_cons, List.not_mem_nil, or_false] at hs; rcases hs with rfl | rfl <;> omega) (fun wi h => fetchTokens_r _ 5 bx tt uid mode fl si tx wi (HV.out wi h) (by omega) (by omega) (tab_keeps ht h))).mono ?_
      rintro e w' ⟨u, rfl, hR, r⟩
      exact ⟨u, rfl, by simpa [toksB, flat_tokB, tokB] using hR, r⟩
    · refine (implCmdText_6 a0 a1 a2 n0 n1 n2 c0 c1 c2 bx tt uid mode fl si tx w HV HO (copyT bx tt uid mode) (by unfold copyT; split <;> simp) (by have := htl rfl; unfold copyT; split <;> intro s hs <;> simp only [List.mem_cons, List.not_mem_nil, or_false] at hs <;> (first | (rcases hs with rfl | rfl | rfl | rfl <;> omega) | (rcases hs with rfl | rfl | rfl <;> omega))) (fun wi h => copyTokens_r _ 6 bx tt uid mode fl si tx wi (HV.out wi h) (by omega) (by omega) (tab_keeps ht h))).mono ?_
      rintro e w' ⟨u, rfl, hR, r⟩
      exact ⟨u, rfl, by simpa [toksB, flat_tokB, tokB, copyT] using hR, r⟩
    · refine (implCmdText_7 a0 a1 a2 n0 n1 n2 c0 c1 c2 bx tt uid mode fl si tx w HV HO [bx] (by simp) (by intro s hs; simp only [List.mem_cons, List.not_mem_nil, or_false] at hs; rcases hs with rfl <;> omega) (fun wi h => boxTokens_r _ 7 bx tt uid mode fl si tx wi (HV.out wi h))).mono ?_
      rintro e w' ⟨u, rfl, hR, r⟩
      exact ⟨u, rfl, by simpa [toksB, flat_tokB, tokB] using hR, r⟩
    · refine (implCmdText_8 a0 a1 a2 n0 n1 n2 c0 c1 c2 bx tt uid mode fl si tx w HV HO [bx, digB si.toNat] (by simp) (by intro s hs; simp only [List.mem_cons, List.not_mem_nil, or_false] at hs; rcases hs with rfl | rfl <;> omega) (fun wi h => changesTokens_r _ 8 bx tt uid mode fl si tx wi (HV.out wi h) (by omega) (by omega) (tab_keeps ht h))).mono ?_
      rintro e w' ⟨u, rfl, hR, r⟩
      exact ⟨u, rfl, by simpa [toksB, flat_tokB, tokB] using hR, r⟩
    · refine (implCmdText_9 a0 a1 a2 n0 n1 n2 c0 c1 c2 bx tt uid mode fl si tx w HV HO [] (by simp) (by intro s hs; cases hs) (fun wi h => noTokens_r _ 9 bx tt uid mode fl si tx wi (HV.out wi h))).mono ?_
      rintro e w' ⟨u, rfl, hR, r⟩
      exact ⟨u, rfl, by simpa [toksB, flat_tokB, tokB] using hR, r⟩

end Go.Proofs.YtlegmiaoablcgaaGreatDoor

/- Tokens with a blank behind them, on lists. -/
namespace Go.Proofs.YtlegmiaoablcgaaGreatDoor
open Go.RowKit
set_option linter.unusedVariables false
set_option linter.unusedSimpArgs false

/-- More than enough rounds change nothing. -/
theorem lex_fuel : ∀ (f : Nat) (i : Int) (s : List Int), s.length < f → ∀ g, s.length < g → lexM f i s = lexM g i s
  | 0, i, s, h, _, _ => by omega
  | f + 1, i, [], _, g, hg => by cases g with | zero => omega | succ g => rfl
  | f + 1, i, x :: r, h, g, hg => by
    cases g with
    | zero => omega
    | succ g =>
      simp only [List.length_cons] at h hg
      simp only [lexM]
      split
      · exact lex_fuel f _ r (by omega) g (by omega)
      · cases ho : oneM i (x :: r) with
        | none => rfl
        | some p =>
          have hl := oneM_less ho
          simp only [List.length_cons] at hl
          simp only
          rw [lex_fuel f _ p.2 (by omega) g (by omega)]
theorem flags_b (b : List Int) (hb : ∀ x ∈ lettersM, ∀ y, b.head? = some y → y ≠ x) : ∀ (ls : List Int) (v n : Int) (r : List Int), (∀ x ∈ ls, x ∈ lettersM) → flagsM ls v n (r ++ b) = ((flagsM ls v n r).1, (flagsM ls v n r).2 ++ b)
  | [], v, n, r, _ => rfl
  | x :: ls, v, n, [], hls => by
    have ih := fun v => flags_b b hb ls v n [] (fun y hy => hls y (by simp [hy]))
    cases b with
    | nil => simp only [List.nil_append, flagsM, List.append_nil]
    | cons y q =>
      simp only [List.nil_append] at ih ⊢
      rw [flagsM, if_neg (hb x (hls x (by simp)) y rfl), flagsM]
      exact ih (v * 2)
  | x :: ls, v, n, y :: q, hls => by
    simp only [List.cons_append, flagsM]
    split
    · exact flags_b b hb ls _ _ q (fun z hz => hls z (by simp [hz]))
    · exact flags_b b hb ls _ _ (y :: q) (fun z hz => hls z (by simp [hz]))
theorem text_b (b : List Int) : ∀ (m : Nat) (r : List Int), r.length ≤ m → ∀ p, textM r = some p → textM (r ++ b) = some (p.1, p.2 ++ b)
  | _, [], _, p, h => by simp [textM] at h
  | 0, _ :: _, hm, _, _ => by simp at hm
  | m + 1, x :: r, hm, p, h => by
    rw [textM_cons] at h
    rw [List.cons_append, textM_cons]
    split at h
    · rename_i h1
      cases h
      rw [if_pos h1]
    · rename_i h1
      rw [if_neg h1]
      split at h
      · rename_i h2
        rw [if_pos h2]
        cases r with
        | nil => simp at h
        | cons y q =>
          simp only [List.cons_append] at h ⊢
          split at h
          · rename_i h3
            rw [if_pos h3]
            cases hq : textM q with
            | none => rw [hq] at h; cases h
            | some p' =>
              rw [hq] at h
              cases h
              rw [text_b b m q (by simp at hm; omega) p' hq]
              rfl
          · cases h
      · rename_i h2
        rw [if_neg h2]
        cases hq : textM r with
        | none => rw [hq] at h; cases h
        | some p' =>
          rw [hq] at h
          cases h
          rw [text_b b m r (by simpa using hm) p' hq]
          rfl
theorem tw_b {p : Int → Bool} {b : List Int} (hb : ∀ y, b.head? = some y → p y = false) : ∀ s : List Int, (s ++ b).takeWhile p = s.takeWhile p ∧ (s ++ b).dropWhile p = s.dropWhile p ++ b
  | [] => by
    cases b with
    | nil => simp
    | cons y q => simp [hb y rfl]
  | x :: s => by
    by_cases h : p x = true
    · simp [h, (tw_b hb s).1, (tw_b hb s).2]
    · simp [h]
theorem one_b {b : List Int} (hb : ∀ y, b.head? = some y → y = 32) {i : Int} {s : List Int} {p : TokD × List Int} (h : oneM i s = some p) : oneM i (s ++ b) = some (p.1, p.2 ++ b) := by
  cases s with
  | nil => simp [oneM] at h
  | cons x r =>
    have hfl := flags_b b (fun x hx y hy => by rw [hb y hy]; simp [lettersM] at hx; omega) lettersM 1 0 r (fun _ h => h)
    have htw := tw_b (p := ldB) (b := b) (fun y hy => by rw [hb y hy]; rfl) (x :: r)
    simp only [oneM] at h
    simp only [List.cons_append, oneM]
    simp only [List.cons_append] at htw
    rw [htw.1, htw.2, hfl]
    split at h
    · rename_i h1
      rw [if_pos h1]
      cases hf : (flagsM lettersM 1 0 r).2 with
      | nil => rw [hf] at h; cases h
      | cons y q =>
        rw [hf] at h
        simp only [List.cons_append] at h ⊢
        split at h
        · rename_i h2
          cases h
          rw [if_pos h2]
        · cases h
    · rename_i h1
      rw [if_neg h1]
      split at h
      · rename_i h2
        rw [if_pos h2]
        cases ht : textM r with
        | none => rw [ht] at h; cases h
        | some q =>
          rw [ht] at h
          rw [text_b b r.length r (Nat.le_refl _) q ht]
          simp only at h ⊢
          split at h
          · rename_i h3
            cases h
            rw [if_pos h3]
          · cases h
      · rename_i h2
        rw [if_neg h2]
        cases hn : numM ((x :: r).takeWhile ldB) with
        | some m => rw [hn] at h; cases h; rfl
        | none =>
          rw [hn] at h
          simp only at h ⊢
          split at h
          · rename_i h3; cases h; rw [if_pos h3]
          · rename_i h3
            rw [if_neg h3]
            split at h
            · rename_i h4; cases h; rw [if_pos h4]
            · cases h

end Go.Proofs.YtlegmiaoablcgaaGreatDoor

/- The place that CmdRead answers lies in the line. -/
namespace Go.Proofs.YtlegmiaoablcgaaGreatDoor
open Go.RowKit
set_option linter.unusedSimpArgs false

theorem take_pos {e k least p M : Int} {ts : List TokD} (h : takeM e k least ts = .error p) (he : 0 ≤ e ∧ e ≤ M) (hok : ∀ t ∈ ts, 0 ≤ t.p ∧ t.p ≤ M) : 0 ≤ p ∧ p ≤ M := by
  cases ts with
  | nil => simp only [takeM] at h; cases h; exact he
  | cons t r =>
    simp only [takeM] at h
    split at h
    · cases h
    · cases h; exact hok t (by simp)
theorem fail_pos {e M : Int} {ts : List TokD} (he : 0 ≤ e ∧ e ≤ M) (hok : ∀ t ∈ ts, 0 ≤ t.p ∧ t.p ≤ M) : 0 ≤ failM e ts ∧ failM e ts ≤ M := by
  cases ts with
  | nil => exact he
  | cons t r => exact hok t (by simp)
/-- A result whose place, or whose tokens left, lie in the line. -/
def InX (M : Int) {α : Type} : Except Int (α × List TokD) → Prop
  | .error p => 0 ≤ p ∧ p ≤ M
  | .ok r => ∀ t ∈ r.2, 0 ≤ t.p ∧ t.p ≤ M
theorem take_in {e k least M : Int} {ts : List TokD} (he : 0 ≤ e ∧ e ≤ M) (hok : ∀ t ∈ ts, 0 ≤ t.p ∧ t.p ≤ M) : InX M (takeM e k least ts) := by
  cases h : takeM e k least ts with
  | error p => exact take_pos h he hok
  | ok a => exact fun t ht => hok t ((take_mem h).1 t ht)
theorem bind_in {M : Int} {α β : Type} {x : Except Int (α × List TokD)} {f : α × List TokD → Except Int (β × List TokD)} (hx : InX M x) (hf : ∀ a, (∀ t ∈ a.2, 0 ≤ t.p ∧ t.p ≤ M) → InX M (f a)) : InX M (x >>= f) := by
  cases x with
  | error p => exact hx
  | ok a => exact hf a hx
theorem drop_in {M : Int} {ts : List TokD} (hok : ∀ t ∈ ts, 0 ≤ t.p ∧ t.p ≤ M) (n : Nat) : ∀ t ∈ ts.drop n, 0 ≤ t.p ∧ t.p ≤ M := fun t ht => hok t (List.mem_of_mem_drop ht)
theorem rest_in {e M : Int} {c : CmdD} {ts : List TokD} (he : 0 ≤ e ∧ e ≤ M) (hok : ∀ t ∈ ts, 0 ≤ t.p ∧ t.p ≤ M) : InX M (restM e c ts) := by
  unfold restM
  split
  · exact bind_in (take_in he hok) fun a ha => bind_in (take_in he ha) fun b hb => hb
  split
  · refine bind_in (take_in he hok) fun a ha => ?_
    cases modeM a.2 with
    | none => exact fail_pos he ha
    | some m =>
      refine bind_in (take_in he (drop_in ha 1)) fun b hb => ?_
      split
      · exact bind_in (take_in he (drop_in hb 1)) fun d hd => hd
      · exact hb
  split
  · exact bind_in (take_in he hok) fun a ha => ha
  split
  · refine bind_in (take_in he hok) fun a ha => bind_in (take_in he ha) fun b hb => ?_
    split
    · exact drop_in hb 1
    · exact hb
  split
  · exact bind_in (take_in he hok) fun a ha => ha
  · exact hok
theorem cmd_pos {e M p : Int} {ts : List TokD} (he : 0 ≤ e ∧ e ≤ M) (hok : ∀ t ∈ ts, 0 ≤ t.p ∧ t.p ≤ M) (h : cmdM e ts = .error p) : 0 ≤ p ∧ p ≤ M := by
  unfold cmdM at h
  cases hk : kindM ts with
  | none => rw [hk] at h; cases h; exact fail_pos he hok
  | some k =>
    rw [hk] at h
    simp only at h
    have h1 : InX M (if k = 9 then Except.ok (([] : List Int), ts.drop 1) else do
      let b ← takeM e 2 0 (ts.drop 1)
      .ok (b.1.tx, b.2)) := by
      split
      · exact drop_in hok 1
      · exact bind_in (take_in he (drop_in hok 1)) fun b hb => hb
    generalize (if k = 9 then Except.ok (([] : List Int), ts.drop 1) else do
      let b ← takeM e 2 0 (ts.drop 1)
      .ok (b.1.tx, b.2)) = A at h h1
    cases A with
    | error q => cases h; exact h1
    | ok a =>
      simp only [bind, Except.bind] at h
      have h2 := rest_in (e := e) (c := ⟨k, a.1, [], 0, 0, 0, 0, []⟩) he h1
      generalize restM e ⟨k, a.1, [], 0, 0, 0, 0, []⟩ a.2 = R at h h2
      cases R with
      | error q => cases h; exact h2
      | ok r =>
        simp only at h
        obtain ⟨r1, r2⟩ := r
        cases r2 with
        | nil => cases h
        | cons t q => cases h; exact h2 t (by simp)
def InL (M : Int) : Except Int (List TokD) → Prop
  | .error p => 0 ≤ p ∧ p ≤ M
  | .ok ts => ∀ t ∈ ts, 0 ≤ t.p ∧ t.p ≤ M
theorem InL.mono {M N : Int} {x : Except Int (List TokD)} (h : InL M x) (hM : M ≤ N) : InL N x := by
  cases x with
  | error p => exact ⟨h.1, Int.le_trans h.2 hM⟩
  | ok ts => exact fun t ht => ⟨(h t ht).1, Int.le_trans (h t ht).2 hM⟩
theorem lex_pos : ∀ (f : Nat) (i : Int) (s : List Int), 0 ≤ i → InL (i + s.length) (lexM f i s)
  | 0, i, s, h => by intro t ht; simp at ht
  | f + 1, i, [], h => by intro t ht; simp at ht
  | f + 1, i, x :: r, h => by
    simp only [lexM]
    by_cases h32 : x = 32
    · rw [if_pos h32]
      exact (lex_pos f (i + 1) r (by omega)).mono (by simp only [List.length_cons]; omega)
    · rw [if_neg h32]
      cases hone : oneM i (x :: r) with
      | none => exact ⟨h, by simp only [List.length_cons]; omega⟩
      | some p =>
        have hs := oneM_suf hone
        have hl := hs.1.length_le
        have h1 := lex_pos f (i + (((x :: r).length : Int) - (p.2.length : Int))) p.2 (by omega)
        simp only
        generalize lexM f (i + (((x :: r).length : Int) - (p.2.length : Int))) p.2 = A at h1 ⊢
        cases A with
        | error j => exact InL.mono (x := .error j) h1 (by omega)
        | ok ts =>
          intro t ht
          rcases List.mem_cons.1 ht with rfl | ht
          · rw [hs.2]; omega
          · have := h1 t ht; omega
theorem read_pos (l : List Int) : 0 ≤ (readM l).2.2 ∧ (readM l).2.2 ≤ 120 := by
  unfold readM
  split
  · simp
  · rename_i hl
    have h1 := lex_pos (l.length + 1) 0 l (by omega)
    cases h : lexM (l.length + 1) 0 l with
    | error i => rw [h] at h1; have h2 : 0 ≤ i ∧ i ≤ 0 + (l.length : Int) := h1; simp only; omega
    | ok ts =>
      rw [h] at h1
      have h2 : ∀ t ∈ ts, 0 ≤ t.p ∧ t.p ≤ 0 + (l.length : Int) := h1
      simp only
      cases hc : cmdM l.length ts with
      | error p =>
        have := cmd_pos (M := 120) (by omega) (fun t ht => by have := h2 t ht; omega) hc
        exact this
      | ok c => simp

end Go.Proofs.YtlegmiaoablcgaaGreatDoor

/- A command comes back from its text; what was read is a command that may be: on lists. -/
namespace Go.Proofs.YtlegmiaoablcgaaGreatDoor
open Go.RowKit
set_option linter.unusedVariables false
set_option linter.unusedSimpArgs false

/-- A text that is one token. -/
def TkS (s : List Int) (k n : Int) (tx : List Int) : Prop := s ≠ [] ∧ (∀ y, s.head? = some y → y ≠ 32) ∧ ∀ i, oneM i s = some (⟨k, i, n, tx⟩, [])
/-- A line that is these tokens. -/
def Lx (i : Int) (s : List Int) (ts : List TokD) : Prop := ∀ f, s.length < f → lexM f i s = .ok ts
theorem Lx.nil (i : Int) : Lx i [] [] := fun f hf => by
  cases f with
  | zero => simp at hf
  | succ f => rfl
theorem Lx.blank {i : Int} {b : List Int} {ts : List TokD} (h : Lx (i + 1) b ts) : Lx i (32 :: b) ts := fun f hf => by
  cases f with
  | zero => simp at hf
  | succ f => rw [lexM, if_pos rfl]; exact h f (by simpa using hf)
theorem Lx.tok {i : Int} {s b : List Int} {k n : Int} {tx : List Int} {ts : List TokD} (hs : TkS s k n tx) (h : Lx (i + s.length) b ts) (hb : ∀ y, b.head? = some y → y = 32) : Lx i (s ++ b) (⟨k, i, n, tx⟩ :: ts) := fun f hf => by
  obtain ⟨h0, h1, h2⟩ := hs
  cases f with
  | zero => simp at hf
  | succ f =>
    cases s with
    | nil => exact absurd rfl h0
    | cons x r =>
      have ho := one_b hb (h2 i)
      simp only [List.nil_append] at ho
      rw [List.cons_append] at ho ⊢
      rw [lexM, if_neg (h1 x rfl), ho]
      simp only
      rw [show i + (((x :: (r ++ b)).length : Int) - (b.length : Int)) = i + ((x :: r).length : Int) by simp only [List.length_cons, List.length_append]; omega]
      rw [h f (by simp only [List.length_append, List.length_cons] at hf; omega)]
/-- The last token. -/
theorem Lx.last {i : Int} {s : List Int} {k n : Int} {tx : List Int} (hs : TkS s k n tx) : Lx i s [⟨k, i, n, tx⟩] := by
  have := Lx.tok (i := i) hs (Lx.nil _) (by simp)
  rwa [List.append_nil] at this
theorem Lx.more {i : Int} {s b : List Int} {k n : Int} {tx : List Int} {ts : List TokD} (hs : TkS s k n tx) (h : Lx (i + s.length + 1) b ts) : Lx i (s ++ ([32] ++ b)) (⟨k, i, n, tx⟩ :: ts) :=
  Lx.tok hs (Lx.blank h) (by simp)

theorem tw_all {p : Int → Bool} : ∀ {s : List Int}, (∀ x ∈ s, p x = true) → s.takeWhile p = s ∧ s.dropWhile p = []
  | [], _ => ⟨rfl, rfl⟩
  | x :: s, h => by
    have hx := h x (by simp)
    have := tw_all (s := s) fun y hy => h y (by simp [hy])
    simp [hx, this.1, this.2]
theorem allIn_mem {lo hi : Int} {l : List Int} (h : allIn lo hi l = true) : ∀ x ∈ l, lo ≤ x ∧ x ≤ hi := by
  intro x hx
  unfold allIn at h
  rw [List.all_eq_true] at h
  simpa using h x hx
theorem num_word {s : List Int} {x : Int} {r : List Int} (hs : s = x :: r) (hx : 57 < x) : numM s = none := numM_none fun n _ e => by
  have h := digB_digits n x (by rw [e, hs]; simp)
  omega
theorem one_word {s : List Int} (h0 : s ≠ []) (hl : ∀ x ∈ s, 57 < x ∧ ldB x = true) (i : Int) : oneM i s = if nameB s = true then some (⟨2, i, 0, s⟩, []) else if greatB s = true then some (⟨1, i, 0, s⟩, []) else none := by
  obtain ⟨h1, h2⟩ := tw_all (p := ldB) fun x hx => (hl x hx).2
  cases s with
  | nil => exact absurd rfl h0
  | cons x r =>
    have hx := hl x (by simp)
    simp only [oneM]
    rw [if_neg (by omega), if_neg (by omega), h1, h2, num_word rfl hx.1]
theorem tk_great {s : List Int} (h : allIn 65 90 s = true) (h0 : 0 < s.length) : TkS s 1 0 s := by
  have hm := allIn_mem h
  have hne : s ≠ [] := fun e => by rw [e] at h0; simp at h0
  refine ⟨hne, fun y hy => ?_, fun i => ?_⟩
  · have := hm y (List.mem_of_mem_head? hy)
    omega
  · rw [one_word hne (fun x hx => ⟨by have := hm x hx; omega, by have := hm x hx; simp [ldB]; omega⟩)]
    have hn : nameB s = false := by
      unfold nameB
      have : allIn 97 122 s = false := allIn_no 0 h0 (by have := hm (s.getD 0 0) (by rw [List.getD_eq_getElem?_getD, List.getElem?_eq_getElem h0]; simp); omega)
      rw [this]; simp
    rw [if_neg (by rw [hn]; simp), if_pos (by simp [greatB, h, h0])]
theorem tk_name {s : List Int} (h : nameB s = true) : TkS s 2 0 s := by
  have hl := nameB_len h
  have hm : ∀ x ∈ s, 97 ≤ x ∧ x ≤ 122 := by
    unfold nameB at h
    simp only [Bool.and_eq_true] at h
    exact allIn_mem h.2.2
  have hne : s ≠ [] := fun e => by rw [e] at hl; simp at hl
  refine ⟨hne, fun y hy => ?_, fun i => ?_⟩
  · have := hm y (List.mem_of_mem_head? hy)
    omega
  · rw [one_word hne (fun x hx => ⟨by have := hm x hx; omega, by have := hm x hx; simp [ldB]; omega⟩), if_pos h]
theorem tk_num {n : Int} (h0 : 0 ≤ n) (h : n ≤ 1000000) : TkS (digB n.toNat) 3 n [] := by
  have hm := digB_digits n.toNat
  have hne := digB_ne n.toNat
  obtain ⟨h1, h2⟩ := tw_all (p := ldB) (s := digB n.toNat) fun x hx => by have := hm x hx; simp [ldB]; omega
  refine ⟨hne, fun y hy => ?_, fun i => ?_⟩
  · have := hm y (List.mem_of_mem_head? hy)
    omega
  · have hn : numM (digB n.toNat) = some n.toNat := numM_some.2 ⟨by omega, rfl⟩
    generalize digB n.toNat = s at *
    cases s with
    | nil => exact absurd rfl hne
    | cons x r =>
      have hx := hm x (by simp)
      simp only [oneM]
      rw [if_neg (by omega), if_neg (by omega), h1, h2, hn]
      simp only
      rw [show ((n.toNat : Nat) : Int) = n by omega]
theorem flags_back : ∀ n : Nat, n < 32 → flagsM lettersM 1 0 ((List.range 5).flatMap (flagAt (n : Int)) ++ [41]) = ((n : Int), [41]) := by decide
theorem tk_flags {f : Int} (h0 : 0 ≤ f) (h : f ≤ 31) : TkS (flagsB f) 4 f [] := by
  obtain ⟨n, rfl⟩ : ∃ n : Nat, f = n := ⟨f.toNat, by omega⟩
  refine ⟨by simp [flagsB], fun y hy => ?_, fun i => ?_⟩
  · simp [flagsB] at hy; omega
  · have := flags_back n (by omega)
    rw [show flagsB (n : Int) = 40 :: ((List.range 5).flatMap (flagAt (n : Int)) ++ [41]) by simp [flagsB]]
    simp only [oneM, if_pos, this]
theorem text_back : ∀ t : List Int, textM (t.flatMap escB ++ [34]) = some (t, [])
  | [] => rfl
  | x :: t => by
    have ih := text_back t
    rw [List.flatMap_cons, List.append_assoc]
    unfold escB
    split
    · rename_i h
      rw [show ([92, x] ++ (t.flatMap (fun x => if x = 34 ∨ x = 92 then [92, x] else [x]) ++ [34])) = 92 :: x :: (t.flatMap escB ++ [34]) from rfl, tx_esc h, ih]
      rfl
    · rename_i h
      rw [show ([x] ++ (t.flatMap (fun x => if x = 34 ∨ x = 92 then [92, x] else [x]) ++ [34])) = x :: (t.flatMap escB ++ [34]) from rfl, tx_one (by omega) (by omega), ih]
      rfl
theorem tk_text {t : List Int} (h : textB t = true) : TkS (quoB t) 5 0 t := by
  refine ⟨by simp [quoB], fun y hy => ?_, fun i => ?_⟩
  · simp [quoB] at hy; omega
  · rw [show quoB t = 34 :: (t.flatMap escB ++ [34]) by simp [quoB]]
    simp only [oneM, text_back, h, if_true]
    rw [if_neg (by omega)]

theorem tk_kind {k : Int} (h : 0 ≤ k ∧ k ≤ 9) : TkS (kindW k) 1 0 (kindW k) := by
  have hk' : k = 0 ∨ k = 1 ∨ k = 2 ∨ k = 3 ∨ k = 4 ∨ k = 5 ∨ k = 6 ∨ k = 7 ∨ k = 8 ∨ k = 9 := by omega
  rcases hk' with rfl | rfl | rfl | rfl | rfl | rfl | rfl | rfl | rfl | rfl <;> exact tk_great (by decide) (by decide)
theorem tk_mode {m : Int} (h : 0 ≤ m ∧ m ≤ 2) : TkS (modeW m) 1 0 (modeW m) := by
  have hk' : m = 0 ∨ m = 1 ∨ m = 2 := by omega
  rcases hk' with rfl | rfl | rfl <;> exact tk_great (by decide) (by decide)
theorem ct_len {k : Int} {bx tt : List Int} {uid mode fl si : Int} {tx : List Int} (h : cmdB k bx tt uid mode fl si tx = true) : (ctB k bx tt uid mode fl si tx).length ≤ 120 := by
  rw [ctB_yes h]
  obtain ⟨hk, hb, htn, hu, hm, hf, hs, hx⟩ := cmd_facts h
  have hql := quoB_len tx
  have hfl := flagsB_len fl
  have hdu := digB_len10 (n := uid.toNat) (by omega)
  have hds := digB_len10 (n := si.toNat) (by omega)
  have hmw : (modeW mode).length ≤ 7 := by
    obtain ⟨mn, rfl⟩ : ∃ n : Nat, mode = n := ⟨mode.toNat, by omega⟩
    exact (modeW_ok mn (by omega)).1
  have hsw : sinceW.length = 5 ∧ awayW.length = 4 := ⟨rfl, rfl⟩
  have hbl : k ≠ 9 → bx.length ≤ 6 := fun h9 => (nameB_len (hb h9)).2
  have htl : k = 6 → tt.length ≤ 6 := fun h => (nameB_len (htn h)).2
  have hkw : (kindW k).length ≤ 7 := by
    have hk' : k = 0 ∨ k = 1 ∨ k = 2 ∨ k = 3 ∨ k = 4 ∨ k = 5 ∨ k = 6 ∨ k = 7 ∨ k = 8 ∨ k = 9 := by omega
    rcases hk' with rfl | rfl | rfl | rfl | rfl | rfl | rfl | rfl | rfl | rfl <;> decide
  rw [List.length_append]
  have key : ((toksB k bx tt uid mode fl si tx).flatMap (fun s => [32] ++ s)).length ≤ 110 := by
    have hk' : k = 0 ∨ k = 1 ∨ k = 2 ∨ k = 3 ∨ k = 4 ∨ k = 5 ∨ k = 6 ∨ k = 7 ∨ k = 8 ∨ k = 9 := by omega
    rcases hk' with rfl | rfl | rfl | rfl | rfl | rfl | rfl | rfl | rfl | rfl <;> simp [toksB] <;> (try split) <;> (try simp) <;> (try have := hbl (by omega)) <;> (try have := htl rfl) <;> omega
  omega
/-- A line whose tokens are a command's is read as it. -/
theorem read_of {l : List Int} {ts : List TokD} {c : CmdD} (hl : l.length ≤ 120) (hx : Lx 0 l ts) (hc : ∀ e, cmdM e ts = .ok c) : readM l = (c, 0, 0) := by
  unfold readM
  rw [if_neg (by omega), hx _ (by omega)]
  simp only [hc]
theorem kind_see {k : Nat} (hk : k < 10) (p n : Int) (ts : List TokD) : kindM (⟨1, p, n, kindW k⟩ :: ts) = some k := by
  have hk' : k = 0 ∨ k = 1 ∨ k = 2 ∨ k = 3 ∨ k = 4 ∨ k = 5 ∨ k = 6 ∨ k = 7 ∨ k = 8 ∨ k = 9 := by omega
  rcases hk' with rfl | rfl | rfl | rfl | rfl | rfl | rfl | rfl | rfl | rfl <;> rfl
theorem mode_see {m : Int} (h : 0 ≤ m ∧ m ≤ 2) (p n : Int) (ts : List TokD) : modeM (⟨1, p, n, modeW m⟩ :: ts) = some m := by
  have hk' : m = 0 ∨ m = 1 ∨ m = 2 := by omega
  rcases hk' with rfl | rfl | rfl <;> rfl
/-- Tokens that are a command, a box first. -/
theorem cmd_of {k : Nat} (hk : k < 9) {c : CmdD} {bx : List Int} {p q : Int} {ts : List TokD} (h : ∀ e, restM e ⟨k, bx, [], 0, 0, 0, 0, []⟩ ts = .ok (c, [])) (e : Int) : cmdM e (⟨1, p, 0, kindW k⟩ :: ⟨2, q, 0, bx⟩ :: ts) = .ok c := by
  unfold cmdM
  rw [kind_see (by omega)]
  simp only
  rw [if_neg (by omega)]
  simp [takeM, bind, Except.bind, h]
/-- A command comes back from its text. -/
theorem read_ct {k : Int} {bx tt : List Int} {uid mode fl si : Int} {tx : List Int} (h : cmdB k bx tt uid mode fl si tx = true) : readM (ctB k bx tt uid mode fl si tx) = (⟨k, bx, tt, uid, mode, fl, si, tx⟩, 0, 0) := by
  have hlen := ct_len h
  rw [ctB_yes h] at hlen ⊢
  simp only [cmdB, Bool.and_eq_true, decide_eq_true_eq] at h
  obtain ⟨⟨⟨⟨⟨⟨⟨h0, h1⟩, h2⟩, h3⟩, h4⟩, h5⟩, h6⟩, h7⟩ := h
  have hkw := tk_kind h0
  have hk' : k = 0 ∨ k = 1 ∨ k = 2 ∨ k = 3 ∨ k = 4 ∨ k = 5 ∨ k = 6 ∨ k = 7 ∨ k = 8 ∨ k = 9 := by omega
  have one : ∀ K : Nat, K < 9 → (K = 0 ∨ K = 1 ∨ K = 4 ∨ K = 7) → TkS (kindW K) 1 0 (kindW K) → nameB bx = true → (kindW K ++ List.flatMap (fun s => [32] ++ s) [bx]).length ≤ 120 → readM (kindW K ++ List.flatMap (fun s => [32] ++ s) [bx]) = (⟨K, bx, [], 0, 0, 0, 0, []⟩, 0, 0) := by
    intro K hK hK4 hw hb hl
    simp only [List.flatMap_cons, List.flatMap_nil, List.append_nil, List.append_assoc] at hl ⊢
    refine read_of hl (Lx.more hw (Lx.last (tk_name hb))) (cmd_of hK fun e => ?_)
    rcases hK4 with rfl | rfl | rfl | rfl <;> rfl
  rcases hk' with rfl | rfl | rfl | rfl | rfl | rfl | rfl | rfl | rfl | rfl <;> simp [inB] at h1 h2 h3 h4 h5 h6 h7
  · obtain rfl : mode = 0 := by omega
    obtain rfl : fl = 0 := by omega
    obtain rfl : si = 0 := by omega
    subst h2 h3 h7
    exact one 0 (by omega) (by omega) hkw h1 hlen
  · obtain rfl : mode = 0 := by omega
    obtain rfl : fl = 0 := by omega
    obtain rfl : si = 0 := by omega
    subst h2 h3 h7
    exact one 1 (by omega) (by omega) hkw h1 hlen
  · obtain rfl : mode = 0 := by omega
    obtain rfl : si = 0 := by omega
    subst h2 h3
    rw [show toksB 2 bx [] 0 0 fl 0 tx = [bx, flagsB fl, quoB tx] from rfl] at hlen ⊢
    simp only [List.flatMap_cons, List.flatMap_nil, List.append_nil, List.append_assoc] at hlen ⊢
    exact read_of hlen (Lx.more hkw (Lx.more (tk_name h1) (Lx.more (tk_flags h5.1 h5.2) (Lx.last (tk_text h7))))) (cmd_of (k := 2) (by omega) fun e => rfl)
  · subst h2 h7
    have hu : ∀ (e : Int) (p : Int) (ts : List TokD), takeM e 3 1 (⟨3, p, uid, []⟩ :: ts) = .ok (⟨3, p, uid, []⟩, ts) := fun e p ts => by rw [takeM, if_pos ⟨rfl, fun _ => h3.1⟩]
    by_cases hs : 0 < si
    · rw [show toksB 3 bx [] uid mode fl si [] = [bx, digB uid.toNat, modeW mode, flagsB fl, sinceW, digB si.toNat] by simp [toksB, hs]] at hlen ⊢
      simp only [List.flatMap_cons, List.flatMap_nil, List.append_nil, List.append_assoc] at hlen ⊢
      refine read_of hlen (Lx.more hkw (Lx.more (tk_name h1) (Lx.more (tk_num (by omega) h3.2) (Lx.more (tk_mode h4) (Lx.more (tk_flags h5.1 h5.2) (Lx.more (tk_great (s := sinceW) (by decide) (by decide)) (Lx.last (tk_num (by omega) h6.2)))))))) (cmd_of (k := 3) (by omega) fun e => ?_)
      have hs3 : ∀ (e : Int) (p : Int) (ts : List TokD), takeM e 3 1 (⟨3, p, si, []⟩ :: ts) = .ok (⟨3, p, si, []⟩, ts) := fun e p ts => by rw [takeM, if_pos ⟨rfl, fun _ => by simp only; omega⟩]
      unfold restM
      rw [if_neg (by simp), if_pos (by rfl), hu]
      simp only [bind, Except.bind, mode_see h4, List.drop_succ_cons, List.drop_zero]
      rw [takeM, if_pos ⟨rfl, by simp⟩]
      simp only [seesM, decide_true, and_self, if_true, List.drop_succ_cons, List.drop_zero, hs3]
      rfl
    · obtain rfl : si = 0 := by omega
      rw [show toksB 3 bx [] uid mode fl 0 [] = [bx, digB uid.toNat, modeW mode, flagsB fl] from rfl] at hlen ⊢
      simp only [List.flatMap_cons, List.flatMap_nil, List.append_nil, List.append_assoc] at hlen ⊢
      refine read_of hlen (Lx.more hkw (Lx.more (tk_name h1) (Lx.more (tk_num (by omega) h3.2) (Lx.more (tk_mode h4) (Lx.last (tk_flags h5.1 h5.2)))))) (cmd_of (k := 3) (by omega) fun e => ?_)
      unfold restM
      rw [if_neg (by simp), if_pos (by rfl), hu]
      simp only [bind, Except.bind, mode_see h4, List.drop_succ_cons, List.drop_zero]
      rw [takeM, if_pos ⟨rfl, by simp⟩]
      rfl
  · obtain rfl : mode = 0 := by omega
    obtain rfl : fl = 0 := by omega
    obtain rfl : si = 0 := by omega
    subst h2 h3 h7
    exact one 4 (by omega) (by omega) hkw h1 hlen
  · obtain rfl : mode = 0 := by omega
    obtain rfl : fl = 0 := by omega
    obtain rfl : si = 0 := by omega
    subst h2 h7
    have hu : ∀ (e : Int) (p : Int) (ts : List TokD), takeM e 3 1 (⟨3, p, uid, []⟩ :: ts) = .ok (⟨3, p, uid, []⟩, ts) := fun e p ts => by rw [takeM, if_pos ⟨rfl, fun _ => h3.1⟩]
    rw [show toksB 5 bx [] uid 0 0 0 [] = [bx, digB uid.toNat] from rfl] at hlen ⊢
    simp only [List.flatMap_cons, List.flatMap_nil, List.append_nil, List.append_assoc] at hlen ⊢
    refine read_of hlen (Lx.more hkw (Lx.more (tk_name h1) (Lx.last (tk_num (by omega) h3.2)))) (cmd_of (k := 5) (by omega) fun e => ?_)
    unfold restM
    rw [if_neg (by simp), if_neg (by simp), if_pos (by rfl), hu]
    rfl
  · obtain rfl : fl = 0 := by omega
    obtain rfl : si = 0 := by omega
    subst h7
    have hu : ∀ (e : Int) (p : Int) (ts : List TokD), takeM e 3 1 (⟨3, p, uid, []⟩ :: ts) = .ok (⟨3, p, uid, []⟩, ts) := fun e p ts => by rw [takeM, if_pos ⟨rfl, fun _ => h3.1⟩]
    obtain rfl | rfl : mode = 0 ∨ mode = 1 := by omega
    · rw [show toksB 6 bx tt uid 0 0 0 [] = [bx, digB uid.toNat, tt] from rfl] at hlen ⊢
      simp only [List.flatMap_cons, List.flatMap_nil, List.append_nil, List.append_assoc] at hlen ⊢
      refine read_of hlen (Lx.more hkw (Lx.more (tk_name h1) (Lx.more (tk_num (by omega) h3.2) (Lx.last (tk_name h2))))) (cmd_of (k := 6) (by omega) fun e => ?_)
      unfold restM
      rw [if_neg (by simp), if_neg (by simp), if_neg (by simp), if_pos (by rfl), hu]
      rfl
    · rw [show toksB 6 bx tt uid 1 0 0 [] = [bx, digB uid.toNat, tt, awayW] from rfl] at hlen ⊢
      simp only [List.flatMap_cons, List.flatMap_nil, List.append_nil, List.append_assoc] at hlen ⊢
      refine read_of hlen (Lx.more hkw (Lx.more (tk_name h1) (Lx.more (tk_num (by omega) h3.2) (Lx.more (tk_name h2) (Lx.last (tk_great (s := awayW) (by decide) (by decide))))))) (cmd_of (k := 6) (by omega) fun e => ?_)
      unfold restM
      rw [if_neg (by simp), if_neg (by simp), if_neg (by simp), if_pos (by rfl), hu]
      rfl
  · obtain rfl : mode = 0 := by omega
    obtain rfl : fl = 0 := by omega
    obtain rfl : si = 0 := by omega
    subst h2 h3 h7
    exact one 7 (by omega) (by omega) hkw h1 hlen
  · obtain rfl : mode = 0 := by omega
    obtain rfl : fl = 0 := by omega
    subst h2 h3 h7
    rw [show toksB 8 bx [] 0 0 0 si [] = [bx, digB si.toNat] from rfl] at hlen ⊢
    simp only [List.flatMap_cons, List.flatMap_nil, List.append_nil, List.append_assoc] at hlen ⊢
    refine read_of hlen (Lx.more hkw (Lx.more (tk_name h1) (Lx.last (tk_num h6.1 h6.2)))) (cmd_of (k := 8) (by omega) fun e => ?_)
    unfold restM
    rw [if_neg (by simp), if_neg (by simp), if_neg (by simp), if_neg (by simp), if_pos (by rfl), takeM, if_pos ⟨rfl, fun _ => h6.1⟩]
    rfl
  · obtain rfl : mode = 0 := by omega
    obtain rfl : fl = 0 := by omega
    obtain rfl : si = 0 := by omega
    subst h1 h2 h3 h7
    rw [show toksB 9 [] [] 0 0 0 0 [] = [] from rfl] at hlen ⊢
    simp only [List.flatMap_nil, List.append_nil] at hlen ⊢
    refine read_of hlen (Lx.last hkw) fun e => ?_
    unfold cmdM
    rw [show kindM [⟨1, 0, 0, kindW 9⟩] = some 9 from rfl]
    rfl

/-- A token that a line may have, by its kind. -/
def OkK (t : TokD) : Prop := (t.k = 2 → nameB t.tx = true) ∧ (t.k = 3 → 0 ≤ t.n ∧ t.n ≤ 1000000) ∧ (t.k = 4 → 0 ≤ t.n ∧ t.n ≤ 31) ∧ (t.k = 5 → textB t.tx = true)
theorem oneM_okK {i : Int} {s : List Int} {p : TokD × List Int} (h : oneM i s = some p) : OkK p.1 := by
  cases s with
  | nil => simp [oneM] at h
  | cons x r =>
    simp only [oneM] at h
    split at h
    · split at h
      · split at h
        · cases h
          have := flagsM_bd lettersM 1 0 r (by omega)
          rw [show capF lettersM 1 = 31 by decide] at this
          exact ⟨by simp, by simp, fun _ => by simp only; omega, by simp⟩
        · cases h
      · cases h
    · split at h
      · split at h
        · split at h
          · rename_i hb
            cases h
            exact ⟨by simp, by simp, by simp, fun _ => hb⟩
          · cases h
        · cases h
      · split at h
        · rename_i n hn
          cases h
          have := (numM_some.1 hn).1
          exact ⟨by simp, fun _ => by simp only; omega, by simp, by simp⟩
        · split at h
          · rename_i hb
            cases h
            exact ⟨fun _ => hb, by simp, by simp, by simp⟩
          · split at h
            · cases h; exact ⟨by simp, by simp, by simp, by simp⟩
            · cases h
theorem lex_okK : ∀ (f : Nat) (i : Int) (s : List Int) (ts : List TokD), lexM f i s = .ok ts → ∀ t ∈ ts, OkK t
  | 0, i, s, ts, h => by simp [lexM] at h; subst h; simp
  | f + 1, i, [], ts, h => by simp [lexM] at h; subst h; simp
  | f + 1, i, x :: r, ts, h => by
    simp only [lexM] at h
    split at h
    · exact lex_okK f _ r ts h
    · cases hone : oneM i (x :: r) with
      | none => rw [hone] at h; cases h
      | some p =>
        rw [hone] at h
        simp only at h
        cases hx : lexM f (i + (((x :: r).length : Int) - (p.2.length : Int))) p.2 with
        | error e => rw [hx] at h; cases h
        | ok us =>
          rw [hx] at h
          cases h
          intro t ht
          rcases List.mem_cons.1 ht with rfl | ht
          · exact oneM_okK hone
          · exact lex_okK f _ p.2 us hx t ht
theorem take_k {e k least : Int} {ts : List TokD} {p : TokD × List TokD} (hok : ∀ t ∈ ts, OkK t) (h : takeM e k least ts = .ok p) : p.1.k = k ∧ (k = 3 → least ≤ p.1.n) ∧ OkK p.1 ∧ ∀ t ∈ p.2, OkK t := by
  refine ⟨?_, ?_, hok _ (take_mem h).2, fun t ht => hok t ((take_mem h).1 t ht)⟩ <;> (cases ts with
    | nil => simp [takeM] at h
    | cons t r =>
      simp only [takeM] at h
      split at h
      · rename_i hc; cases h; first | exact hc.1 | exact hc.2
      · cases h)
/-- A command that was read so far is one that may be. -/
def CmK (c : CmdD) : Prop := cmdB c.k c.bx c.tt c.uid c.mode c.fl c.si c.tx = true
theorem rest_cm {e : Int} {k : Nat} {bx : List Int} {ts : List TokD} {r : CmdD × List TokD} (hk : k < 10) (hb : if k = 9 then bx = [] else nameB bx = true) (hok : ∀ t ∈ ts, OkK t) (h : restM e ⟨k, bx, [], 0, 0, 0, 0, []⟩ ts = .ok r) : CmK r.1 := by
  unfold restM at h
  simp only at h
  split at h
  · rename_i hk2
    obtain rfl : k = 2 := by omega
    cases h1 : takeM e 4 0 ts with
    | error p => rw [h1] at h; cases h
    | ok a =>
      obtain ⟨a1, a2, a3, a4⟩ := take_k hok h1
      rw [h1] at h
      simp only [bind, Except.bind] at h
      cases h2 : takeM e 5 0 a.2 with
      | error p => rw [h2] at h; cases h
      | ok b =>
        obtain ⟨b1, b2, b3, b4⟩ := take_k a4 h2
        rw [h2] at h
        cases h
        have := a3.2.2.1 a1
        have h5 := b3.2.2.2 b1
        simp at hb
        simp [CmK, cmdB, inB, hb, h5, this]
  · split at h
    · rename_i hk2
      obtain rfl : k = 3 := by omega
      simp at hb
      cases h1 : takeM e 3 1 ts with
      | error p => rw [h1] at h; cases h
      | ok a =>
        obtain ⟨a1, a2, a3, a4⟩ := take_k hok h1
        rw [h1] at h
        simp only [bind, Except.bind] at h
        cases hm : modeM a.2 with
        | none => rw [hm] at h; cases h
        | some m =>
          have hm3 : 0 ≤ m ∧ m ≤ 2 := by
            unfold modeM at hm
            split at hm
            · cases hm; omega
            · split at hm
              · cases hm; omega
              · split at hm
                · cases hm; omega
                · cases hm
          rw [hm] at h
          simp only at h
          cases h2 : takeM e 4 0 (a.2.drop 1) with
          | error p => rw [h2] at h; cases h
          | ok b =>
            obtain ⟨b1, b2, b3, b4⟩ := take_k (fun t ht => a4 t (List.mem_of_mem_drop ht)) h2
            rw [h2] at h
            simp only at h
            have ha := a3.2.1 a1
            have ha2 := a2 rfl
            have hf := b3.2.2.1 b1
            split at h
            · cases h3 : takeM e 3 1 (b.2.drop 1) with
              | error p => rw [h3] at h; cases h
              | ok d =>
                obtain ⟨d1, d2, d3, d4⟩ := take_k (fun t ht => b4 t (List.mem_of_mem_drop ht)) h3
                rw [h3] at h
                cases h
                have hd := d3.2.1 d1
                simp [CmK, cmdB, inB, hb, ha, ha2, hf, hd, hm3]
            · cases h
              simp [CmK, cmdB, inB, hb, ha, ha2, hf, hm3]
    · split at h
      · rename_i hk2
        obtain rfl : k = 5 := by omega
        simp at hb
        cases h1 : takeM e 3 1 ts with
        | error p => rw [h1] at h; cases h
        | ok a =>
          obtain ⟨a1, a2, a3, a4⟩ := take_k hok h1
          rw [h1] at h
          cases h
          have ha := a3.2.1 a1
          have ha2 := a2 rfl
          simp [CmK, cmdB, inB, hb, ha, ha2]
      · split at h
        · rename_i hk2
          obtain rfl : k = 6 := by omega
          simp at hb
          cases h1 : takeM e 3 1 ts with
          | error p => rw [h1] at h; cases h
          | ok a =>
            obtain ⟨a1, a2, a3, a4⟩ := take_k hok h1
            rw [h1] at h
            simp only [bind, Except.bind] at h
            have ha := a3.2.1 a1
            have ha2 := a2 rfl
            cases h2 : takeM e 2 0 a.2 with
            | error p => rw [h2] at h; cases h
            | ok b =>
              obtain ⟨b1, b2, b3, b4⟩ := take_k a4 h2
              rw [h2] at h
              simp only at h
              have hn := b3.1 b1
              split at h
              · cases h
                simp [CmK, cmdB, inB, hb, ha, ha2, hn]
              · cases h
                simp [CmK, cmdB, inB, hb, ha, ha2, hn]
        · split at h
          · rename_i hk2
            obtain rfl : k = 8 := by omega
            simp at hb
            cases h1 : takeM e 3 0 ts with
            | error p => rw [h1] at h; cases h
            | ok a =>
              obtain ⟨a1, a2, a3, a4⟩ := take_k hok h1
              rw [h1] at h
              cases h
              have ha := a3.2.1 a1
              simp [CmK, cmdB, inB, hb, ha]
          · cases h
            rename_i n2 n3 n5 n6 n8
            have hk' : k = 0 ∨ k = 1 ∨ k = 4 ∨ k = 7 ∨ k = 9 := by omega
            rcases hk' with rfl | rfl | rfl | rfl | rfl <;> simp at hb <;> simp [CmK, cmdB, inB, hb]
theorem cmd_cm {e : Int} {ts : List TokD} {c : CmdD} (hok : ∀ t ∈ ts, OkK t) (h : cmdM e ts = .ok c) : CmK c := by
  unfold cmdM at h
  cases hk : kindM ts with
  | none => rw [hk] at h; cases h
  | some k =>
    rw [hk] at h
    have hlt := kindM_lt hk
    have hod : ∀ t ∈ ts.drop 1, OkK t := fun t ht => hok t (List.mem_of_mem_drop ht)
    have key : ∀ (bx : List Int) (us : List TokD), (if k = 9 then bx = [] else nameB bx = true) → (∀ t ∈ us, OkK t) → ((restM e ⟨k, bx, [], 0, 0, 0, 0, []⟩ us).bind fun r => match r.2 with | [] => .ok r.1 | t :: _ => .error t.p) = Except.ok c → CmK c := by
      intro bx us hb hu hh
      cases hr : restM e ⟨k, bx, [], 0, 0, 0, 0, []⟩ us with
      | error p => rw [hr] at hh; cases hh
      | ok r =>
        rw [hr] at hh
        have := rest_cm hlt hb hu hr
        simp only [Except.bind] at hh
        split at hh
        · cases hh; exact this
        · cases hh
    simp only [bind, Except.bind] at h
    by_cases h9 : k = 9
    · rw [if_pos h9] at h
      exact key [] _ (by simp [h9]) hod h
    · rw [if_neg h9] at h
      cases h2 : takeM e 2 0 (ts.drop 1) with
      | error p => rw [h2] at h; cases h
      | ok b =>
        obtain ⟨b1, b2, b3, b4⟩ := take_k hod h2
        rw [h2] at h
        exact key b.1.tx b.2 (by simp [h9, b3.1 b1]) b4 h
/-- What is read with the code 0 is a command that may be; else the code is at most 3, and the place lies in the line. -/
theorem read_all (l : List Int) : ((readM l).2.1 = 0 ∧ CmK (readM l).1) ∨ ((readM l).2.1 ≠ 0 ∧ (readM l).2.1 ≤ 3 ∧ 0 ≤ (readM l).2.2 ∧ (readM l).2.2 ≤ (l.length : Int)) := by
  unfold readM
  split
  · exact .inr ⟨by simp, by simp, by simp, by simp⟩
  · have h1 := lex_pos (l.length + 1) 0 l (by omega)
    cases h : lexM (l.length + 1) 0 l with
    | error i => rw [h] at h1; have h2 : 0 ≤ i ∧ i ≤ 0 + (l.length : Int) := h1; exact .inr ⟨by simp, by simp, by simp only; omega, by simp only; omega⟩
    | ok ts =>
      rw [h] at h1
      have h2 : ∀ t ∈ ts, 0 ≤ t.p ∧ t.p ≤ 0 + (l.length : Int) := h1
      simp only
      cases hc : cmdM l.length ts with
      | error p =>
        have := cmd_pos (M := (l.length : Int)) (by omega) (fun t ht => by have := h2 t ht; omega) hc
        exact .inr ⟨by simp, by simp, this.1, this.2⟩
      | ok c => exact .inl ⟨rfl, cmd_cm (lex_okK _ _ _ _ h) hc⟩

end Go.Proofs.YtlegmiaoablcgaaGreatDoor

/- What sameBytes of package laws answers. -/
namespace Go.Proofs.YtlegmiaoablcgaaGreatDoor
open Go.RowKit
set_option maxRecDepth 100000

set_option maxHeartbeats 400000 in
theorem sameBytes_yes (v u : Value) (l : List Int) (w : World) (hv : Bs w v l) (hu : Bs w u l) :
    Calls Tryz.prog 10 #[v, u] w fun e w' => e = .returned (.bool true) ∧ Below w.heap.size w w' := by
  have h1 := run_convert_bs hv
  have h2 := run_convert_bs hu
  go_enter Tryz.func10, Tryz.ntmps10
  go_wp2
  go_ret
  exact ⟨rfl, Below.refl _ _⟩

end Go.Proofs.YtlegmiaoablcgaaGreatDoor
