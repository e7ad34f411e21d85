/- The proof's texts, part 17. -/
import Derived.Test.YtifpjdpcmfneaaaGreatDoorPart16
import Derived.Test.YtifpjdpcmfneaaaGreatDoorPart14
import Derived.Test.YtifpjdpcmfneaaaGreatDoorPart5
import Derived.Test.YtifpjdpcmfneaaaGreatDoorPart15
import Derived.Test.YtifpjdpcmfneaaaGreatDoorPart2
import Derived.Test.YtifpjdpcmfneaaaGreatDoorPart3
import Derived.Deep.RegionHeld3
import Derived.Test.YtifpjdpcmfneaaaGreatDoorRows
import Derived.Test.YtifpjdpcmfneaaaGreatDoorPart1
import Derived.ProofKit
import Derived.OpenShut
import Derived.ShutString
import Derived.ChangeOld
import Derived.ChangeSame
import Derived.Deep.Light
import Derived.Deep.Slices
import Derived.Test.YtifpjdpcmfneaaaGreatDoorPart4
import Derived.ChangeVars
import Derived.JoinedOf
import Derived.RowKit
import Derived.RowKitTokens
import Derived.LaidLaws
import Derived.LaidHandle
import Derived.Stop.Joined
import Derived.Stop.LaidErr
import Derived.Lib.LaidTab
import Derived.WalkSmall

/- What CmdText of package impl does, kinds 6, 7. -/
namespace Go.Proofs.YtifpjdpcmfneaaaGreatDoor
open Go.RowKit
set_option maxRecDepth 100000
set_option linter.unusedVariables false

set_option maxRecDepth 100000 in
set_option maxHeartbeats 4000000 in
theorem implCmdText_6 (a0 a1 a2 : Option Addr) (n0 n1 n2 c0 c1 c2 : Nat) (bx tt : List Int) (uid mode fl si : Int) (tx : List Int) (w : World) (HV : Hid (∀ wi, Below w.heap.size w wi → CmdV wi (.agg #[.int .i64 6, .slice a0 n0 c0, .slice a1 n1 c1, .int .i64 uid, .int .i64 mode, .int .i64 fl, .int .i64 si, .slice a2 n2 c2]) 6 bx tt uid mode fl si tx)) (HO : Hid (∀ wi, Below w.heap.size w wi → Calls Tryz.prog 47 #[.agg #[.int .i64 6, .slice a0 n0 c0, .slice a1 n1 c1, .int .i64 uid, .int .i64 mode, .int .i64 fl, .int .i64 si, .slice a2 n2 c2]] wi fun e w' => e = .returned (.bool true) ∧ Below wi.heap.size wi w'))
    (ss : List (List Int)) (hsl : ss.length ≤ 100) (hst : ∀ s, s ∈ ss → s.length ≤ 1000)
    (HT : Hid (∀ wi, Below w.heap.size w wi → Calls Tryz.prog 81 #[.agg #[.int .i64 6, .slice a0 n0 c0, .slice a1 n1 c1, .int .i64 uid, .int .i64 mode, .int .i64 fl, .int .i64 si, .slice a2 n2 c2]] wi fun e w' => ∃ u, e = .returned u ∧ StrsV w' u ss ∧ Below wi.heap.size wi w')) :
    Calls Tryz.prog 21 #[.agg #[.int .i64 6, .slice a0 n0 c0, .slice a1 n1 c1, .int .i64 uid, .int .i64 mode, .int .i64 fl, .int .i64 si, .slice a2 n2 c2]] w fun e w' => ∃ u, e = .returned (.tuple #[u, .bool true]) ∧ Row w' w.heap.size w'.heap.size u (kindW 6 ++ ss.flatMap tokB) ∧ Below w.heap.size w w' := by
  have HX : Hid (Below w.heap.size w (w.alloc (.cells #[.int .i64 6, .slice a0 n0 c0, .slice a1 n1 c1, .int .i64 uid, .int .i64 mode, .int .i64 fl, .int .i64 si, .slice a2 n2 c2] 34))) := (Below.refl _ _).alloc (Nat.le_refl _) _
  have HK0 := box_new w (.cells #[.int .i64 6, .slice a0 n0 c0, .slice a1 n1 c1, .int .i64 uid, .int .i64 mode, .int .i64 fl, .int .i64 si, .slice a2 n2 c2] 34)
  go_enter Tryz.func21, Tryz.ntmps21
  go_wp2_with fail
  refine (HO.out _ HX.out).mono ?_
  rintro e A ⟨rfl, BA⟩
  have XA : Hid (Below w.heap.size w A) := Below.step HX.out BA
  have HK : Hid (A.heap[w.heap.size]? = some (.cells #[.int .i64 6, .slice a0 n0 c0, .slice a1 n1 c1, .int .i64 uid, .int .i64 mode, .int .i64 fl, .int .i64 si, .slice a2 n2 c2] 34)) := box_below BA HK0
  have hsA : w.heap.size ≤ A.heap.size := XA.out.size
  clear HK0 BA HX HO
  have HS : Hid (∀ w', Below A.heap.size A w' → w'.cell? ⟨w.heap.size, 0, none⟩ = some (.int .i64 6)) := fun w' h => (box8 (box_below h HK.out)).1
  have C0 : Below A.heap.size A A.drew := (Below.refl _ _).drew
  obtain ⟨f0, f1, f2, f3, f4, f5, f6, f7⟩ := box8 HK.out
  have hlA := lt_of_heap HK.out
  go_upto_region 3 with fail
  go_cut [4] (fun s wx => ∃ b, s = .pointer (some ⟨b, 0, none⟩) ∧ Hid (wx.heap[b]? = some (.cells #[.string ⟨#[67, 79, 80, 89]⟩, .func (.func 80) #[] #[], .func (.func 81) #[] #[]] 79 (0, 0))) ∧ Hid (Below A.heap.size A wx))
  case first =>
    clear f0 f1 f2 f3 f4 f5 f6 f7 hlA
    go_wp2
    refine wp_region_held_drew (S := fun w' => w'.cell? ⟨w.heap.size, 0, none⟩ = some (.int .i64 6)) (by kernel_rfl) (HS.out _ C0) (fun hHeld => (show wpAnyH _ _ _ _ _ 7 #[false, false, false, false, false, false, false] _ _ from ?_))
    refine tq 1 9 hHeld ?_
    refine tq 2 10 hHeld ?_
    generalize hwd : A.drew = wd at *
    refine wpAnyH_ready (rs := [0, 5]) (by kernel_rfl) (by simp) ?_
    refine AllReadyH.cons rfl (fun K hK => ?_) (AllReadyH.cons rfl (fun K hK => ?_) AllReadyH.nil)
    · go_simp
      refine (forms_r _).mono ?_
      rintro e w1 ⟨rfl, hw1⟩
      have B1 : Below wd.heap.size wd w1 := by rw [hw1]; exact (Below.refl _ _).alloc (Nat.le_refl _) _
      have KF1 : w1.heap[wd.heap.size]? = some formsO := by rw [hw1]; exact box_new wd _
      have D1 := Below.step C0 B1
      clear hw1
      refine hK.out _ _ (HS.out _ D1) (fun hHeld => ?_)
      clear hK K
      refine wpAnyH_more (S' := fun w' => (w'.cell? ⟨wd.heap.size, 18, none⟩ = some (.string ⟨#[67, 79, 80, 89]⟩) ∧ w'.cell? ⟨wd.heap.size, 19, none⟩ = some (.func (.func 80) #[] #[]) ∧ w'.cell? ⟨wd.heap.size, 20, none⟩ = some (.func (.func 81) #[] #[])) ∧ w'.cell? ⟨w.heap.size, 0, none⟩ = some (.int .i64 6)) (fun _ h => h.2) _ _ _ _ ?_
      replace hHeld := And.intro (formAt6 KF1) hHeld
      refine tq 3 11 hHeld ?_
      refine tq 4 12 hHeld ?_
      refine wpAnyH_ready (rs := [5]) (by kernel_rfl) (by simp) ?_
      refine AllReadyH.cons rfl (fun K hK => ?_) AllReadyH.nil
      go_simp
      have AB : Below w1.heap.size w1 (w1.alloc (.cells #[.string ⟨#[]⟩, .nilFunc, .nilFunc] 79)) := (Below.refl _ _).alloc (Nat.le_refl _) _
      have KV := box_new w1 (.cells #[.string ⟨#[]⟩, .nilFunc, .nilFunc] 79)
      have KF2 := box_below AB KF1
      have hne := lt_of_heap KF1
      have D2 := Below.step D1 AB
      refine hK.out _ _ (⟨formAt6 KF2, HS.out _ D2⟩) (fun hHeld => ?_)
      clear hK K
      generalize hwv : w1.alloc (.cells #[.string ⟨#[]⟩, .nilFunc, .nilFunc] 79) = w2 at *
      obtain ⟨oz, ol⟩ := box8z KV
      obtain ⟨o0, o1, o2⟩ := bx3 KV
      have hlv : A.heap.size ≤ w1.heap.size := D1.size
      have KW : (((w2.setCell ⟨w1.heap.size, 0, none⟩ (.string ⟨#[67, 79, 80, 89]⟩)).setCell ⟨w1.heap.size, 1, none⟩ (.func (.func 80) #[] #[])).setCell ⟨w1.heap.size, 2, none⟩ (.func (.func 81) #[] #[])).heap[w1.heap.size]? = some (.cells #[.string ⟨#[67, 79, 80, 89]⟩, .func (.func 80) #[] #[], .func (.func 81) #[] #[]] 79 (0, 0)) := box_set (i := 2) (box_set (i := 1) (box_set (i := 0) KV))
      have DW : Below A.heap.size A (((w2.setCell ⟨w1.heap.size, 0, none⟩ (.string ⟨#[67, 79, 80, 89]⟩)).setCell ⟨w1.heap.size, 1, none⟩ (.func (.func 80) #[] #[])).setCell ⟨w1.heap.size, 2, none⟩ (.func (.func 81) #[] #[])) := ((D2.setCell (p := ⟨w1.heap.size, 0, none⟩) hlv _).setCell (p := ⟨w1.heap.size, 1, none⟩) hlv _).setCell (p := ⟨w1.heap.size, 2, none⟩) hlv _
      have KFW := box_other (i := 2) (v := .func (.func 81) #[] #[]) (box_other (i := 1) (v := .func (.func 80) #[] #[]) (box_other (i := 0) (v := .string ⟨#[67, 79, 80, 89]⟩) KF2 (show wd.heap.size ≠ w1.heap.size by omega)) (show wd.heap.size ≠ w1.heap.size by omega)) (show wd.heap.size ≠ w1.heap.size by omega)
      have st1 := run_storeF (P := Tryz.prog) (w2.setCell ⟨w1.heap.size, 0, none⟩ (.string ⟨#[67, 79, 80, 89]⟩)) w1.heap.size 1 _ _ (.func (.func 80) #[] #[]) (box_set (i := 0) KV) (by simp) rfl
      have st2 := run_storeF (P := Tryz.prog) ((w2.setCell ⟨w1.heap.size, 0, none⟩ (.string ⟨#[67, 79, 80, 89]⟩)).setCell ⟨w1.heap.size, 1, none⟩ (.func (.func 80) #[] #[])) w1.heap.size 2 _ _ (.func (.func 81) #[] #[]) (box_set (i := 1) (box_set (i := 0) KV)) (by simp) rfl
      refine wpAnyH_ready (rs := [6]) (by kernel_rfl) (by simp) ?_
      refine AllReadyH.cons rfl (fun K hK => ?_) AllReadyH.nil
      go_simp
      refine hK.out _ _ (⟨formAt6 KFW, HS.out _ DW⟩) (fun hHeld => ?_)
      clear hK K
      refine wpAnyH_done (by kernel_rfl) ?_ _
      go_wp2
      go_meet
      case rel => exact ⟨w1.heap.size, rfl, KW, DW⟩
    · go_simp
      have AB : Below wd.heap.size wd (wd.alloc (.cells #[.string ⟨#[]⟩, .nilFunc, .nilFunc] 79)) := (Below.refl _ _).alloc (Nat.le_refl _) _
      have KV0 := box_new wd (.cells #[.string ⟨#[]⟩, .nilFunc, .nilFunc] 79)
      have hne := lt_of_heap KV0
      have D1 := Below.step C0 AB
      refine hK.out _ _ (HS.out _ D1) (fun hHeld => ?_)
      clear hK K
      generalize hwv : wd.alloc (.cells #[.string ⟨#[]⟩, .nilFunc, .nilFunc] 79) = w1 at *
      refine wpAnyH_ready (rs := [0]) (by kernel_rfl) (by simp) ?_
      refine AllReadyH.cons rfl (fun K hK => ?_) AllReadyH.nil
      go_simp
      refine (forms_r _).mono ?_
      rintro e w2 ⟨rfl, hw2⟩
      have B2 : Below w1.heap.size w1 w2 := by rw [hw2]; exact (Below.refl _ _).alloc (Nat.le_refl _) _
      have KF2 : w2.heap[w1.heap.size]? = some formsO := by rw [hw2]; exact box_new w1 _
      have D2 := Below.step D1 B2
      clear hw2
      have KV := box_below B2 KV0
      refine hK.out _ _ (HS.out _ D2) (fun hHeld => ?_)
      clear hK K
      refine wpAnyH_more (S' := fun w' => (w'.cell? ⟨w1.heap.size, 18, none⟩ = some (.string ⟨#[67, 79, 80, 89]⟩) ∧ w'.cell? ⟨w1.heap.size, 19, none⟩ = some (.func (.func 80) #[] #[]) ∧ w'.cell? ⟨w1.heap.size, 20, none⟩ = some (.func (.func 81) #[] #[])) ∧ w'.cell? ⟨w.heap.size, 0, none⟩ = some (.int .i64 6)) (fun _ h => h.2) _ _ _ _ ?_
      replace hHeld := And.intro (formAt6 KF2) hHeld
      refine tq 3 11 hHeld ?_
      refine tq 4 12 hHeld ?_
      obtain ⟨oz, ol⟩ := box8z KV
      obtain ⟨o0, o1, o2⟩ := bx3 KV
      have hlv : A.heap.size ≤ wd.heap.size := C0.size
      have KW : (((w2.setCell ⟨wd.heap.size, 0, none⟩ (.string ⟨#[67, 79, 80, 89]⟩)).setCell ⟨wd.heap.size, 1, none⟩ (.func (.func 80) #[] #[])).setCell ⟨wd.heap.size, 2, none⟩ (.func (.func 81) #[] #[])).heap[wd.heap.size]? = some (.cells #[.string ⟨#[67, 79, 80, 89]⟩, .func (.func 80) #[] #[], .func (.func 81) #[] #[]] 79 (0, 0)) := box_set (i := 2) (box_set (i := 1) (box_set (i := 0) KV))
      have DW : Below A.heap.size A (((w2.setCell ⟨wd.heap.size, 0, none⟩ (.string ⟨#[67, 79, 80, 89]⟩)).setCell ⟨wd.heap.size, 1, none⟩ (.func (.func 80) #[] #[])).setCell ⟨wd.heap.size, 2, none⟩ (.func (.func 81) #[] #[])) := ((D2.setCell (p := ⟨wd.heap.size, 0, none⟩) hlv _).setCell (p := ⟨wd.heap.size, 1, none⟩) hlv _).setCell (p := ⟨wd.heap.size, 2, none⟩) hlv _
      have KFW := box_other (i := 2) (v := .func (.func 81) #[] #[]) (box_other (i := 1) (v := .func (.func 80) #[] #[]) (box_other (i := 0) (v := .string ⟨#[67, 79, 80, 89]⟩) KF2 (show w1.heap.size ≠ wd.heap.size by omega)) (show w1.heap.size ≠ wd.heap.size by omega)) (show w1.heap.size ≠ wd.heap.size by omega)
      have st1 := run_storeF (P := Tryz.prog) (w2.setCell ⟨wd.heap.size, 0, none⟩ (.string ⟨#[67, 79, 80, 89]⟩)) wd.heap.size 1 _ _ (.func (.func 80) #[] #[]) (box_set (i := 0) KV) (by simp) rfl
      have st2 := run_storeF (P := Tryz.prog) ((w2.setCell ⟨wd.heap.size, 0, none⟩ (.string ⟨#[67, 79, 80, 89]⟩)).setCell ⟨wd.heap.size, 1, none⟩ (.func (.func 80) #[] #[])) wd.heap.size 2 _ _ (.func (.func 81) #[] #[]) (box_set (i := 1) (box_set (i := 0) KV)) (by simp) rfl
      refine wpAnyH_ready (rs := [6]) (by kernel_rfl) (by simp) ?_
      refine AllReadyH.cons rfl (fun K hK => ?_) AllReadyH.nil
      go_simp
      refine hK.out _ _ (⟨formAt6 KFW, HS.out _ DW⟩) (fun hHeld => ?_)
      clear hK K
      refine wpAnyH_done (by kernel_rfl) ?_ _
      go_wp2
      go_meet
      case rel => exact ⟨wd.heap.size, rfl, KW, DW⟩
  case rest =>
    obtain ⟨b4, rfl, K4, X4⟩ := hcut
    clear f0 f1 f2 f3 f4 f5 f6 f7 hlA HS C0
    have HS2 : Hid (∀ w', Below wc.heap.size wc w' → (w'.cell? ⟨b4, 0, none⟩ = some (.string ⟨#[67, 79, 80, 89]⟩) ∧ w'.cell? ⟨b4, 1, none⟩ = some (.func (.func 80) #[] #[]) ∧ w'.cell? ⟨b4, 2, none⟩ = some (.func (.func 81) #[] #[])) ∧ w'.cell? ⟨w.heap.size, 0, none⟩ = some (.int .i64 6) ∧ w'.cell? ⟨w.heap.size, 1, none⟩ = some (.slice a0 n0 c0) ∧ w'.cell? ⟨w.heap.size, 2, none⟩ = some (.slice a1 n1 c1) ∧ w'.cell? ⟨w.heap.size, 3, none⟩ = some (.int .i64 uid) ∧ w'.cell? ⟨w.heap.size, 4, none⟩ = some (.int .i64 mode) ∧ w'.cell? ⟨w.heap.size, 5, none⟩ = some (.int .i64 fl) ∧ w'.cell? ⟨w.heap.size, 6, none⟩ = some (.int .i64 si) ∧ w'.cell? ⟨w.heap.size, 7, none⟩ = some (.slice a2 n2 c2)) := by
      intro w' h
      obtain ⟨p0, p1, p2⟩ := bx3 (box_below h K4.out)
      exact ⟨⟨p0, p1, p2⟩, box8 (box_below h (box_below X4.out HK.out))⟩
    have XC : Hid (Below w.heap.size w wc) := Below.step XA.out X4.out
    have D0 : Below wc.heap.size wc wc.drew := (Below.refl _ _).drew
    have hsC := XC.out.size
    obtain ⟨p0, p1, p2⟩ := bx3 K4.out
    have hl4 := lt_of_heap K4.out
    obtain ⟨f0, f1, f2, f3, f4, f5, f6, f7⟩ := box8 (box_below X4.out HK.out)
    have hlA := lt_of_heap (box_below X4.out HK.out)
    go_wp2
    refine wp_region_held_drew (S := fun w' => (w'.cell? ⟨b4, 0, none⟩ = some (.string ⟨#[67, 79, 80, 89]⟩) ∧ w'.cell? ⟨b4, 1, none⟩ = some (.func (.func 80) #[] #[]) ∧ w'.cell? ⟨b4, 2, none⟩ = some (.func (.func 81) #[] #[])) ∧ w'.cell? ⟨w.heap.size, 0, none⟩ = some (.int .i64 6) ∧ w'.cell? ⟨w.heap.size, 1, none⟩ = some (.slice a0 n0 c0) ∧ w'.cell? ⟨w.heap.size, 2, none⟩ = some (.slice a1 n1 c1) ∧ w'.cell? ⟨w.heap.size, 3, none⟩ = some (.int .i64 uid) ∧ w'.cell? ⟨w.heap.size, 4, none⟩ = some (.int .i64 mode) ∧ w'.cell? ⟨w.heap.size, 5, none⟩ = some (.int .i64 fl) ∧ w'.cell? ⟨w.heap.size, 6, none⟩ = some (.int .i64 si) ∧ w'.cell? ⟨w.heap.size, 7, none⟩ = some (.slice a2 n2 c2)) (by kernel_rfl) (HS2.out _ D0) (fun hHeld => (show wpAnyH _ _ _ _ _ 9 #[false, false, false, false, false, false, false, false, false] _ _ from ?_))
    refine tq 0 13 hHeld ?_
    refine tq 1 14 hHeld ?_
    refine tq 2 15 hHeld ?_
    refine tq 3 16 hHeld ?_
    refine tq 4 17 hHeld ?_
    generalize hwd4 : wc.drew = wd4 at *
    refine wpAnyH_ready (rs := [5]) (by kernel_rfl) (by simp) ?_
    refine AllReadyH.cons rfl (fun K hK => ?_) AllReadyH.nil
    go_simp
    refine (HT.out _ (Below.step XC.out D0)).mono ?_
    rintro e w5 ⟨u5, rfl, R5, B5⟩
    have D5 := Below.step D0 B5
    refine hK.out _ _ (HS2.out _ D5) (fun hHeld => ?_)
    clear hK K
    refine wpAnyH_ready (rs := [6]) (by kernel_rfl) (by simp) ?_
    refine AllReadyH.cons rfl (fun K hK => ?_) AllReadyH.nil
    go_simp
    refine (putTokens_b w5.heap.size _ u5 [] (kindW 6) ss _ (OwnB.nil' _ _) (Nat.le_refl _) (by intro x hx; simp [kindW] at hx; omega) (fun wi h => R5.below keepsStr (h.below)) (by simp) (by decide) hsl hst).mono ?_
    rintro e w6 ⟨u6, rfl, R6, B6⟩
    have D6 : Below wc.heap.size wc w6 := Below.step D5 (B6.below)
    refine hK.out _ _ (HS2.out _ D6) (fun hHeld => ?_)
    clear hK K
    refine tq 7 2 hHeld ?_
    refine tq 8 3 hHeld ?_
    refine wpAnyH_done (by kernel_rfl) ?_ _
    have HF : Hid (Row w6 w.heap.size w6.heap.size u6 (kindW 6 ++ ss.flatMap tokB)) := by
      have h := R6.toRow
      have h5 := D5.size
      simp only [List.nil_append] at h
      exact h.wide (by omega) (Nat.le_refl _)
    have HB : Hid (Below w.heap.size w w6) := Below.step XC.out D6
    clear HS2 D0 D5 D6 R5 B5 R6 B6 hHeld
    go_wp2
    exact bodyPost_ret (v := .tuple #[u6, .bool true]) (by simp [results, Tryz.results21, go_sem]) rfl ⟨u6, rfl, HF.out, HB.out⟩

set_option maxRecDepth 100000 in
set_option maxHeartbeats 4000000 in
theorem implCmdText_7 (a0 a1 a2 : Option Addr) (n0 n1 n2 c0 c1 c2 : Nat) (bx tt : List Int) (uid mode fl si : Int) (tx : List Int) (w : World) (HV : Hid (∀ wi, Below w.heap.size w wi → CmdV wi (.agg #[.int .i64 7, .slice a0 n0 c0, .slice a1 n1 c1, .int .i64 uid, .int .i64 mode, .int .i64 fl, .int .i64 si, .slice a2 n2 c2]) 7 bx tt uid mode fl si tx)) (HO : Hid (∀ wi, Below w.heap.size w wi → Calls Tryz.prog 47 #[.agg #[.int .i64 7, .slice a0 n0 c0, .slice a1 n1 c1, .int .i64 uid, .int .i64 mode, .int .i64 fl, .int .i64 si, .slice a2 n2 c2]] wi fun e w' => e = .returned (.bool true) ∧ Below wi.heap.size wi w'))
    (ss : List (List Int)) (hsl : ss.length ≤ 100) (hst : ∀ s, s ∈ ss → s.length ≤ 1000)
    (HT : Hid (∀ wi, Below w.heap.size w wi → Calls Tryz.prog 73 #[.agg #[.int .i64 7, .slice a0 n0 c0, .slice a1 n1 c1, .int .i64 uid, .int .i64 mode, .int .i64 fl, .int .i64 si, .slice a2 n2 c2]] wi fun e w' => ∃ u, e = .returned u ∧ StrsV w' u ss ∧ Below wi.heap.size wi w')) :
    Calls Tryz.prog 21 #[.agg #[.int .i64 7, .slice a0 n0 c0, .slice a1 n1 c1, .int .i64 uid, .int .i64 mode, .int .i64 fl, .int .i64 si, .slice a2 n2 c2]] w fun e w' => ∃ u, e = .returned (.tuple #[u, .bool true]) ∧ Row w' w.heap.size w'.heap.size u (kindW 7 ++ ss.flatMap tokB) ∧ Below w.heap.size w w' := by
  have HX : Hid (Below w.heap.size w (w.alloc (.cells #[.int .i64 7, .slice a0 n0 c0, .slice a1 n1 c1, .int .i64 uid, .int .i64 mode, .int .i64 fl, .int .i64 si, .slice a2 n2 c2] 34))) := (Below.refl _ _).alloc (Nat.le_refl _) _
  have HK0 := box_new w (.cells #[.int .i64 7, .slice a0 n0 c0, .slice a1 n1 c1, .int .i64 uid, .int .i64 mode, .int .i64 fl, .int .i64 si, .slice a2 n2 c2] 34)
  go_enter Tryz.func21, Tryz.ntmps21
  go_wp2_with fail
  refine (HO.out _ HX.out).mono ?_
  rintro e A ⟨rfl, BA⟩
  have XA : Hid (Below w.heap.size w A) := Below.step HX.out BA
  have HK : Hid (A.heap[w.heap.size]? = some (.cells #[.int .i64 7, .slice a0 n0 c0, .slice a1 n1 c1, .int .i64 uid, .int .i64 mode, .int .i64 fl, .int .i64 si, .slice a2 n2 c2] 34)) := box_below BA HK0
  have hsA : w.heap.size ≤ A.heap.size := XA.out.size
  clear HK0 BA HX HO
  have HS : Hid (∀ w', Below A.heap.size A w' → w'.cell? ⟨w.heap.size, 0, none⟩ = some (.int .i64 7)) := fun w' h => (box8 (box_below h HK.out)).1
  have C0 : Below A.heap.size A A.drew := (Below.refl _ _).drew
  obtain ⟨f0, f1, f2, f3, f4, f5, f6, f7⟩ := box8 HK.out
  have hlA := lt_of_heap HK.out
  go_upto_region 3 with fail
  go_cut [4] (fun s wx => ∃ b, s = .pointer (some ⟨b, 0, none⟩) ∧ Hid (wx.heap[b]? = some (.cells #[.string ⟨#[83, 84, 65, 84, 85, 83]⟩, .func (.func 72) #[] #[], .func (.func 73) #[] #[]] 79 (0, 0))) ∧ Hid (Below A.heap.size A wx))
  case first =>
    clear f0 f1 f2 f3 f4 f5 f6 f7 hlA
    go_wp2
    refine wp_region_held_drew (S := fun w' => w'.cell? ⟨w.heap.size, 0, none⟩ = some (.int .i64 7)) (by kernel_rfl) (HS.out _ C0) (fun hHeld => (show wpAnyH _ _ _ _ _ 7 #[false, false, false, false, false, false, false] _ _ from ?_))
    refine tq 1 9 hHeld ?_
    refine tq 2 10 hHeld ?_
    generalize hwd : A.drew = wd at *
    refine wpAnyH_ready (rs := [0, 5]) (by kernel_rfl) (by simp) ?_
    refine AllReadyH.cons rfl (fun K hK => ?_) (AllReadyH.cons rfl (fun K hK => ?_) AllReadyH.nil)
    · go_simp
      refine (forms_r _).mono ?_
      rintro e w1 ⟨rfl, hw1⟩
      have B1 : Below wd.heap.size wd w1 := by rw [hw1]; exact (Below.refl _ _).alloc (Nat.le_refl _) _
      have KF1 : w1.heap[wd.heap.size]? = some formsO := by rw [hw1]; exact box_new wd _
      have D1 := Below.step C0 B1
      clear hw1
      refine hK.out _ _ (HS.out _ D1) (fun hHeld => ?_)
      clear hK K
      refine wpAnyH_more (S' := fun w' => (w'.cell? ⟨wd.heap.size, 21, none⟩ = some (.string ⟨#[83, 84, 65, 84, 85, 83]⟩) ∧ w'.cell? ⟨wd.heap.size, 22, none⟩ = some (.func (.func 72) #[] #[]) ∧ w'.cell? ⟨wd.heap.size, 23, none⟩ = some (.func (.func 73) #[] #[])) ∧ w'.cell? ⟨w.heap.size, 0, none⟩ = some (.int .i64 7)) (fun _ h => h.2) _ _ _ _ ?_
      replace hHeld := And.intro (formAt7 KF1) hHeld
      refine tq 3 11 hHeld ?_
      refine tq 4 12 hHeld ?_
      refine wpAnyH_ready (rs := [5]) (by kernel_rfl) (by simp) ?_
      refine AllReadyH.cons rfl (fun K hK => ?_) AllReadyH.nil
      go_simp
      have AB : Below w1.heap.size w1 (w1.alloc (.cells #[.string ⟨#[]⟩, .nilFunc, .nilFunc] 79)) := (Below.refl _ _).alloc (Nat.le_refl _) _
      have KV := box_new w1 (.cells #[.string ⟨#[]⟩, .nilFunc, .nilFunc] 79)
      have KF2 := box_below AB KF1
      have hne := lt_of_heap KF1
      have D2 := Below.step D1 AB
      refine hK.out _ _ (⟨formAt7 KF2, HS.out _ D2⟩) (fun hHeld => ?_)
      clear hK K
      generalize hwv : w1.alloc (.cells #[.string ⟨#[]⟩, .nilFunc, .nilFunc] 79) = w2 at *
      obtain ⟨oz, ol⟩ := box8z KV
      obtain ⟨o0, o1, o2⟩ := bx3 KV
      have hlv : A.heap.size ≤ w1.heap.size := D1.size
      have KW : (((w2.setCell ⟨w1.heap.size, 0, none⟩ (.string ⟨#[83, 84, 65, 84, 85, 83]⟩)).setCell ⟨w1.heap.size, 1, none⟩ (.func (.func 72) #[] #[])).setCell ⟨w1.heap.size, 2, none⟩ (.func (.func 73) #[] #[])).heap[w1.heap.size]? = some (.cells #[.string ⟨#[83, 84, 65, 84, 85, 83]⟩, .func (.func 72) #[] #[], .func (.func 73) #[] #[]] 79 (0, 0)) := box_set (i := 2) (box_set (i := 1) (box_set (i := 0) KV))
      have DW : Below A.heap.size A (((w2.setCell ⟨w1.heap.size, 0, none⟩ (.string ⟨#[83, 84, 65, 84, 85, 83]⟩)).setCell ⟨w1.heap.size, 1, none⟩ (.func (.func 72) #[] #[])).setCell ⟨w1.heap.size, 2, none⟩ (.func (.func 73) #[] #[])) := ((D2.setCell (p := ⟨w1.heap.size, 0, none⟩) hlv _).setCell (p := ⟨w1.heap.size, 1, none⟩) hlv _).setCell (p := ⟨w1.heap.size, 2, none⟩) hlv _
      have KFW := box_other (i := 2) (v := .func (.func 73) #[] #[]) (box_other (i := 1) (v := .func (.func 72) #[] #[]) (box_other (i := 0) (v := .string ⟨#[83, 84, 65, 84, 85, 83]⟩) KF2 (show wd.heap.size ≠ w1.heap.size by omega)) (show wd.heap.size ≠ w1.heap.size by omega)) (show wd.heap.size ≠ w1.heap.size by omega)
      have st1 := run_storeF (P := Tryz.prog) (w2.setCell ⟨w1.heap.size, 0, none⟩ (.string ⟨#[83, 84, 65, 84, 85, 83]⟩)) w1.heap.size 1 _ _ (.func (.func 72) #[] #[]) (box_set (i := 0) KV) (by simp) rfl
      have st2 := run_storeF (P := Tryz.prog) ((w2.setCell ⟨w1.heap.size, 0, none⟩ (.string ⟨#[83, 84, 65, 84, 85, 83]⟩)).setCell ⟨w1.heap.size, 1, none⟩ (.func (.func 72) #[] #[])) w1.heap.size 2 _ _ (.func (.func 73) #[] #[]) (box_set (i := 1) (box_set (i := 0) KV)) (by simp) rfl
      refine wpAnyH_ready (rs := [6]) (by kernel_rfl) (by simp) ?_
      refine AllReadyH.cons rfl (fun K hK => ?_) AllReadyH.nil
      go_simp
      refine hK.out _ _ (⟨formAt7 KFW, HS.out _ DW⟩) (fun hHeld => ?_)
      clear hK K
      refine wpAnyH_done (by kernel_rfl) ?_ _
      go_wp2
      go_meet
      case rel => exact ⟨w1.heap.size, rfl, KW, DW⟩
    · go_simp
      have AB : Below wd.heap.size wd (wd.alloc (.cells #[.string ⟨#[]⟩, .nilFunc, .nilFunc] 79)) := (Below.refl _ _).alloc (Nat.le_refl _) _
      have KV0 := box_new wd (.cells #[.string ⟨#[]⟩, .nilFunc, .nilFunc] 79)
      have hne := lt_of_heap KV0
      have D1 := Below.step C0 AB
      refine hK.out _ _ (HS.out _ D1) (fun hHeld => ?_)
      clear hK K
      generalize hwv : wd.alloc (.cells #[.string ⟨#[]⟩, .nilFunc, .nilFunc] 79) = w1 at *
      refine wpAnyH_ready (rs := [0]) (by kernel_rfl) (by simp) ?_
      refine AllReadyH.cons rfl (fun K hK => ?_) AllReadyH.nil
      go_simp
      refine (forms_r _).mono ?_
      rintro e w2 ⟨rfl, hw2⟩
      have B2 : Below w1.heap.size w1 w2 := by rw [hw2]; exact (Below.refl _ _).alloc (Nat.le_refl _) _
      have KF2 : w2.heap[w1.heap.size]? = some formsO := by rw [hw2]; exact box_new w1 _
      have D2 := Below.step D1 B2
      clear hw2
      have KV := box_below B2 KV0
      refine hK.out _ _ (HS.out _ D2) (fun hHeld => ?_)
      clear hK K
      refine wpAnyH_more (S' := fun w' => (w'.cell? ⟨w1.heap.size, 21, none⟩ = some (.string ⟨#[83, 84, 65, 84, 85, 83]⟩) ∧ w'.cell? ⟨w1.heap.size, 22, none⟩ = some (.func (.func 72) #[] #[]) ∧ w'.cell? ⟨w1.heap.size, 23, none⟩ = some (.func (.func 73) #[] #[])) ∧ w'.cell? ⟨w.heap.size, 0, none⟩ = some (.int .i64 7)) (fun _ h => h.2) _ _ _ _ ?_
      replace hHeld := And.intro (formAt7 KF2) hHeld
      refine tq 3 11 hHeld ?_
      refine tq 4 12 hHeld ?_
      obtain ⟨oz, ol⟩ := box8z KV
      obtain ⟨o0, o1, o2⟩ := bx3 KV
      have hlv : A.heap.size ≤ wd.heap.size := C0.size
      have KW : (((w2.setCell ⟨wd.heap.size, 0, none⟩ (.string ⟨#[83, 84, 65, 84, 85, 83]⟩)).setCell ⟨wd.heap.size, 1, none⟩ (.func (.func 72) #[] #[])).setCell ⟨wd.heap.size, 2, none⟩ (.func (.func 73) #[] #[])).heap[wd.heap.size]? = some (.cells #[.string ⟨#[83, 84, 65, 84, 85, 83]⟩, .func (.func 72) #[] #[], .func (.func 73) #[] #[]] 79 (0, 0)) := box_set (i := 2) (box_set (i := 1) (box_set (i := 0) KV))
      have DW : Below A.heap.size A (((w2.setCell ⟨wd.heap.size, 0, none⟩ (.string ⟨#[83, 84, 65, 84, 85, 83]⟩)).setCell ⟨wd.heap.size, 1, none⟩ (.func (.func 72) #[] #[])).setCell ⟨wd.heap.size, 2, none⟩ (.func (.func 73) #[] #[])) := ((D2.setCell (p := ⟨wd.heap.size, 0, none⟩) hlv _).setCell (p := ⟨wd.heap.size, 1, none⟩) hlv _).setCell (p := ⟨wd.heap.size, 2, none⟩) hlv _
      have KFW := box_other (i := 2) (v := .func (.func 73) #[] #[]) (box_other (i := 1) (v := .func (.func 72) #[] #[]) (box_other (i := 0) (v := .string ⟨#[83, 84, 65, 84, 85, 83]⟩) KF2 (show w1.heap.size ≠ wd.heap.size by omega)) (show w1.heap.size ≠ wd.heap.size by omega)) (show w1.heap.size ≠ wd.heap.size by omega)
      have st1 := run_storeF (P := Tryz.prog) (w2.setCell ⟨wd.heap.size, 0, none⟩ (.string ⟨#[83, 84, 65, 84, 85, 83]⟩)) wd.heap.size 1 _ _ (.func (.func 72) #[] #[]) (box_set (i := 0) KV) (by simp) rfl
      have st2 := run_storeF (P := Tryz.prog) ((w2.setCell ⟨wd.heap.size, 0, none⟩ (.string ⟨#[83, 84, 65, 84, 85, 83]⟩)).setCell ⟨wd.heap.size, 1, none⟩ (.func (.func 72) #[] #[])) wd.heap.size 2 _ _ (.func (.func 73) #[] #[]) (box_set (i := 1) (box_set (i := 0) KV)) (by simp) rfl
      refine wpAnyH_ready (rs := [6]) (by kernel_rfl) (by simp) ?_
      refine AllReadyH.cons rfl (fun K hK => ?_) AllReadyH.nil
      go_simp
      refine hK.out _ _ (⟨formAt7 KFW, HS.out _ DW⟩) (fun hHeld => ?_)
      clear hK K
      refine wpAnyH_done (by kernel_rfl) ?_ _
      go_wp2
      go_meet
      case rel => exact ⟨wd.heap.size, rfl, KW, DW⟩
  case rest =>
    obtain ⟨b4, rfl, K4, X4⟩ := hcut
    clear f0 f1 f2 f3 f4 f5 f6 f7 hlA HS C0
    have HS2 : Hid (∀ w', Below wc.heap.size wc w' → (w'.cell? ⟨b4, 0, none⟩ = some (.string ⟨#[83, 84, 65, 84, 85, 83]⟩) ∧ w'.cell? ⟨b4, 1, none⟩ = some (.func (.func 72) #[] #[]) ∧ w'.cell? ⟨b4, 2, none⟩ = some (.func (.func 73) #[] #[])) ∧ w'.cell? ⟨w.heap.size, 0, none⟩ = some (.int .i64 7) ∧ w'.cell? ⟨w.heap.size, 1, none⟩ = some (.slice a0 n0 c0) ∧ w'.cell? ⟨w.heap.size, 2, none⟩ = some (.slice a1 n1 c1) ∧ w'.cell? ⟨w.heap.size, 3, none⟩ = some (.int .i64 uid) ∧ w'.cell? ⟨w.heap.size, 4, none⟩ = some (.int .i64 mode) ∧ w'.cell? ⟨w.heap.size, 5, none⟩ = some (.int .i64 fl) ∧ w'.cell? ⟨w.heap.size, 6, none⟩ = some (.int .i64 si) ∧ w'.cell? ⟨w.heap.size, 7, none⟩ = some (.slice a2 n2 c2)) := by
      intro w' h
      obtain ⟨p0, p1, p2⟩ := bx3 (box_below h K4.out)
      exact ⟨⟨p0, p1, p2⟩, box8 (box_below h (box_below X4.out HK.out))⟩
    have XC : Hid (Below w.heap.size w wc) := Below.step XA.out X4.out
    have D0 : Below wc.heap.size wc wc.drew := (Below.refl _ _).drew
    have hsC := XC.out.size
    obtain ⟨p0, p1, p2⟩ := bx3 K4.out
    have hl4 := lt_of_heap K4.out
    obtain ⟨f0, f1, f2, f3, f4, f5, f6, f7⟩ := box8 (box_below X4.out HK.out)
    have hlA := lt_of_heap (box_below X4.out HK.out)
    go_wp2
    refine wp_region_held_drew (S := fun w' => (w'.cell? ⟨b4, 0, none⟩ = some (.string ⟨#[83, 84, 65, 84, 85, 83]⟩) ∧ w'.cell? ⟨b4, 1, none⟩ = some (.func (.func 72) #[] #[]) ∧ w'.cell? ⟨b4, 2, none⟩ = some (.func (.func 73) #[] #[])) ∧ w'.cell? ⟨w.heap.size, 0, none⟩ = some (.int .i64 7) ∧ w'.cell? ⟨w.heap.size, 1, none⟩ = some (.slice a0 n0 c0) ∧ w'.cell? ⟨w.heap.size, 2, none⟩ = some (.slice a1 n1 c1) ∧ w'.cell? ⟨w.heap.size, 3, none⟩ = some (.int .i64 uid) ∧ w'.cell? ⟨w.heap.size, 4, none⟩ = some (.int .i64 mode) ∧ w'.cell? ⟨w.heap.size, 5, none⟩ = some (.int .i64 fl) ∧ w'.cell? ⟨w.heap.size, 6, none⟩ = some (.int .i64 si) ∧ w'.cell? ⟨w.heap.size, 7, none⟩ = some (.slice a2 n2 c2)) (by kernel_rfl) (HS2.out _ D0) (fun hHeld => (show wpAnyH _ _ _ _ _ 9 #[false, false, false, false, false, false, false, false, false] _ _ from ?_))
    refine tq 0 13 hHeld ?_
    refine tq 1 14 hHeld ?_
    refine tq 2 15 hHeld ?_
    refine tq 3 16 hHeld ?_
    refine tq 4 17 hHeld ?_
    generalize hwd4 : wc.drew = wd4 at *
    refine wpAnyH_ready (rs := [5]) (by kernel_rfl) (by simp) ?_
    refine AllReadyH.cons rfl (fun K hK => ?_) AllReadyH.nil
    go_simp
    refine (HT.out _ (Below.step XC.out D0)).mono ?_
    rintro e w5 ⟨u5, rfl, R5, B5⟩
    have D5 := Below.step D0 B5
    refine hK.out _ _ (HS2.out _ D5) (fun hHeld => ?_)
    clear hK K
    refine wpAnyH_ready (rs := [6]) (by kernel_rfl) (by simp) ?_
    refine AllReadyH.cons rfl (fun K hK => ?_) AllReadyH.nil
    go_simp
    refine (putTokens_b w5.heap.size _ u5 [] (kindW 7) ss _ (OwnB.nil' _ _) (Nat.le_refl _) (by intro x hx; simp [kindW] at hx; omega) (fun wi h => R5.below keepsStr (h.below)) (by simp) (by decide) hsl hst).mono ?_
    rintro e w6 ⟨u6, rfl, R6, B6⟩
    have D6 : Below wc.heap.size wc w6 := Below.step D5 (B6.below)
    refine hK.out _ _ (HS2.out _ D6) (fun hHeld => ?_)
    clear hK K
    refine tq 7 2 hHeld ?_
    refine tq 8 3 hHeld ?_
    refine wpAnyH_done (by kernel_rfl) ?_ _
    have HF : Hid (Row w6 w.heap.size w6.heap.size u6 (kindW 7 ++ ss.flatMap tokB)) := by
      have h := R6.toRow
      have h5 := D5.size
      simp only [List.nil_append] at h
      exact h.wide (by omega) (Nat.le_refl _)
    have HB : Hid (Below w.heap.size w w6) := Below.step XC.out D6
    clear HS2 D0 D5 D6 R5 B5 R6 B6 hHeld
    go_wp2
    exact bodyPost_ret (v := .tuple #[u6, .bool true]) (by simp [results, Tryz.results21, go_sem]) rfl ⟨u6, rfl, HF.out, HB.out⟩

end Go.Proofs.YtifpjdpcmfneaaaGreatDoor

/- What CmdText of package impl does, kinds 8, 9. -/
namespace Go.Proofs.YtifpjdpcmfneaaaGreatDoor
open Go.RowKit
set_option maxRecDepth 100000
set_option linter.unusedVariables false

set_option maxRecDepth 100000 in
set_option maxHeartbeats 4000000 in
theorem implCmdText_8 (a0 a1 a2 : Option Addr) (n0 n1 n2 c0 c1 c2 : Nat) (bx tt : List Int) (uid mode fl si : Int) (tx : List Int) (w : World) (HV : Hid (∀ wi, Below w.heap.size w wi → CmdV wi (.agg #[.int .i64 8, .slice a0 n0 c0, .slice a1 n1 c1, .int .i64 uid, .int .i64 mode, .int .i64 fl, .int .i64 si, .slice a2 n2 c2]) 8 bx tt uid mode fl si tx)) (HO : Hid (∀ wi, Below w.heap.size w wi → Calls Tryz.prog 47 #[.agg #[.int .i64 8, .slice a0 n0 c0, .slice a1 n1 c1, .int .i64 uid, .int .i64 mode, .int .i64 fl, .int .i64 si, .slice a2 n2 c2]] wi fun e w' => e = .returned (.bool true) ∧ Below wi.heap.size wi w'))
    (ss : List (List Int)) (hsl : ss.length ≤ 100) (hst : ∀ s, s ∈ ss → s.length ≤ 1000)
    (HT : Hid (∀ wi, Below w.heap.size w wi → Calls Tryz.prog 83 #[.agg #[.int .i64 8, .slice a0 n0 c0, .slice a1 n1 c1, .int .i64 uid, .int .i64 mode, .int .i64 fl, .int .i64 si, .slice a2 n2 c2]] wi fun e w' => ∃ u, e = .returned u ∧ StrsV w' u ss ∧ Below wi.heap.size wi w')) :
    Calls Tryz.prog 21 #[.agg #[.int .i64 8, .slice a0 n0 c0, .slice a1 n1 c1, .int .i64 uid, .int .i64 mode, .int .i64 fl, .int .i64 si, .slice a2 n2 c2]] w fun e w' => ∃ u, e = .returned (.tuple #[u, .bool true]) ∧ Row w' w.heap.size w'.heap.size u (kindW 8 ++ ss.flatMap tokB) ∧ Below w.heap.size w w' := by
  have HX : Hid (Below w.heap.size w (w.alloc (.cells #[.int .i64 8, .slice a0 n0 c0, .slice a1 n1 c1, .int .i64 uid, .int .i64 mode, .int .i64 fl, .int .i64 si, .slice a2 n2 c2] 34))) := (Below.refl _ _).alloc (Nat.le_refl _) _
  have HK0 := box_new w (.cells #[.int .i64 8, .slice a0 n0 c0, .slice a1 n1 c1, .int .i64 uid, .int .i64 mode, .int .i64 fl, .int .i64 si, .slice a2 n2 c2] 34)
  go_enter Tryz.func21, Tryz.ntmps21
  go_wp2_with fail
  refine (HO.out _ HX.out).mono ?_
  rintro e A ⟨rfl, BA⟩
  have XA : Hid (Below w.heap.size w A) := Below.step HX.out BA
  have HK : Hid (A.heap[w.heap.size]? = some (.cells #[.int .i64 8, .slice a0 n0 c0, .slice a1 n1 c1, .int .i64 uid, .int .i64 mode, .int .i64 fl, .int .i64 si, .slice a2 n2 c2] 34)) := box_below BA HK0
  have hsA : w.heap.size ≤ A.heap.size := XA.out.size
  clear HK0 BA HX HO
  have HS : Hid (∀ w', Below A.heap.size A w' → w'.cell? ⟨w.heap.size, 0, none⟩ = some (.int .i64 8)) := fun w' h => (box8 (box_below h HK.out)).1
  have C0 : Below A.heap.size A A.drew := (Below.refl _ _).drew
  obtain ⟨f0, f1, f2, f3, f4, f5, f6, f7⟩ := box8 HK.out
  have hlA := lt_of_heap HK.out
  go_upto_region 3 with fail
  go_cut [4] (fun s wx => ∃ b, s = .pointer (some ⟨b, 0, none⟩) ∧ Hid (wx.heap[b]? = some (.cells #[.string ⟨#[67, 72, 65, 78, 71, 69, 83]⟩, .func (.func 82) #[] #[], .func (.func 83) #[] #[]] 79 (0, 0))) ∧ Hid (Below A.heap.size A wx))
  case first =>
    clear f0 f1 f2 f3 f4 f5 f6 f7 hlA
    go_wp2
    refine wp_region_held_drew (S := fun w' => w'.cell? ⟨w.heap.size, 0, none⟩ = some (.int .i64 8)) (by kernel_rfl) (HS.out _ C0) (fun hHeld => (show wpAnyH _ _ _ _ _ 7 #[false, false, false, false, false, false, false] _ _ from ?_))
    refine tq 1 9 hHeld ?_
    refine tq 2 10 hHeld ?_
    generalize hwd : A.drew = wd at *
    refine wpAnyH_ready (rs := [0, 5]) (by kernel_rfl) (by simp) ?_
    refine AllReadyH.cons rfl (fun K hK => ?_) (AllReadyH.cons rfl (fun K hK => ?_) AllReadyH.nil)
    · go_simp
      refine (forms_r _).mono ?_
      rintro e w1 ⟨rfl, hw1⟩
      have B1 : Below wd.heap.size wd w1 := by rw [hw1]; exact (Below.refl _ _).alloc (Nat.le_refl _) _
      have KF1 : w1.heap[wd.heap.size]? = some formsO := by rw [hw1]; exact box_new wd _
      have D1 := Below.step C0 B1
      clear hw1
      refine hK.out _ _ (HS.out _ D1) (fun hHeld => ?_)
      clear hK K
      refine wpAnyH_more (S' := fun w' => (w'.cell? ⟨wd.heap.size, 24, none⟩ = some (.string ⟨#[67, 72, 65, 78, 71, 69, 83]⟩) ∧ w'.cell? ⟨wd.heap.size, 25, none⟩ = some (.func (.func 82) #[] #[]) ∧ w'.cell? ⟨wd.heap.size, 26, none⟩ = some (.func (.func 83) #[] #[])) ∧ w'.cell? ⟨w.heap.size, 0, none⟩ = some (.int .i64 8)) (fun _ h => h.2) _ _ _ _ ?_
      replace hHeld := And.intro (formAt8 KF1) hHeld
      refine tq 3 11 hHeld ?_
      refine tq 4 12 hHeld ?_
      refine wpAnyH_ready (rs := [5]) (by kernel_rfl) (by simp) ?_
      refine AllReadyH.cons rfl (fun K hK => ?_) AllReadyH.nil
      go_simp
      have AB : Below w1.heap.size w1 (w1.alloc (.cells #[.string ⟨#[]⟩, .nilFunc, .nilFunc] 79)) := (Below.refl _ _).alloc (Nat.le_refl _) _
      have KV := box_new w1 (.cells #[.string ⟨#[]⟩, .nilFunc, .nilFunc] 79)
      have KF2 := box_below AB KF1
      have hne := lt_of_heap KF1
      have D2 := Below.step D1 AB
      refine hK.out _ _ (⟨formAt8 KF2, HS.out _ D2⟩) (fun hHeld => ?_)
      clear hK K
      generalize hwv : w1.alloc (.cells #[.string ⟨#[]⟩, .nilFunc, .nilFunc] 79) = w2 at *
      obtain ⟨oz, ol⟩ := box8z KV
      obtain ⟨o0, o1, o2⟩ := bx3 KV
      have hlv : A.heap.size ≤ w1.heap.size := D1.size
      have KW : (((w2.setCell ⟨w1.heap.size, 0, none⟩ (.string ⟨#[67, 72, 65, 78, 71, 69, 83]⟩)).setCell ⟨w1.heap.size, 1, none⟩ (.func (.func 82) #[] #[])).setCell ⟨w1.heap.size, 2, none⟩ (.func (.func 83) #[] #[])).heap[w1.heap.size]? = some (.cells #[.string ⟨#[67, 72, 65, 78, 71, 69, 83]⟩, .func (.func 82) #[] #[], .func (.func 83) #[] #[]] 79 (0, 0)) := box_set (i := 2) (box_set (i := 1) (box_set (i := 0) KV))
      have DW : Below A.heap.size A (((w2.setCell ⟨w1.heap.size, 0, none⟩ (.string ⟨#[67, 72, 65, 78, 71, 69, 83]⟩)).setCell ⟨w1.heap.size, 1, none⟩ (.func (.func 82) #[] #[])).setCell ⟨w1.heap.size, 2, none⟩ (.func (.func 83) #[] #[])) := ((D2.setCell (p := ⟨w1.heap.size, 0, none⟩) hlv _).setCell (p := ⟨w1.heap.size, 1, none⟩) hlv _).setCell (p := ⟨w1.heap.size, 2, none⟩) hlv _
      have KFW := box_other (i := 2) (v := .func (.func 83) #[] #[]) (box_other (i := 1) (v := .func (.func 82) #[] #[]) (box_other (i := 0) (v := .string ⟨#[67, 72, 65, 78, 71, 69, 83]⟩) KF2 (show wd.heap.size ≠ w1.heap.size by omega)) (show wd.heap.size ≠ w1.heap.size by omega)) (show wd.heap.size ≠ w1.heap.size by omega)
      have st1 := run_storeF (P := Tryz.prog) (w2.setCell ⟨w1.heap.size, 0, none⟩ (.string ⟨#[67, 72, 65, 78, 71, 69, 83]⟩)) w1.heap.size 1 _ _ (.func (.func 82) #[] #[]) (box_set (i := 0) KV) (by simp) rfl
      have st2 := run_storeF (P := Tryz.prog) ((w2.setCell ⟨w1.heap.size, 0, none⟩ (.string ⟨#[67, 72, 65, 78, 71, 69, 83]⟩)).setCell ⟨w1.heap.size, 1, none⟩ (.func (.func 82) #[] #[])) w1.heap.size 2 _ _ (.func (.func 83) #[] #[]) (box_set (i := 1) (box_set (i := 0) KV)) (by simp) rfl
      refine wpAnyH_ready (rs := [6]) (by kernel_rfl) (by simp) ?_
      refine AllReadyH.cons rfl (fun K hK => ?_) AllReadyH.nil
      go_simp
      refine hK.out _ _ (⟨formAt8 KFW, HS.out _ DW⟩) (fun hHeld => ?_)
      clear hK K
      refine wpAnyH_done (by kernel_rfl) ?_ _
      go_wp2
      go_meet
      case rel => exact ⟨w1.heap.size, rfl, KW, DW⟩
    · go_simp
      have AB : Below wd.heap.size wd (wd.alloc (.cells #[.string ⟨#[]⟩, .nilFunc, .nilFunc] 79)) := (Below.refl _ _).alloc (Nat.le_refl _) _
      have KV0 := box_new wd (.cells #[.string ⟨#[]⟩, .nilFunc, .nilFunc] 79)
      have hne := lt_of_heap KV0
      have D1 := Below.step C0 AB
      refine hK.out _ _ (HS.out _ D1) (fun hHeld => ?_)
      clear hK K
      generalize hwv : wd.alloc (.cells #[.string ⟨#[]⟩, .nilFunc, .nilFunc] 79) = w1 at *
      refine wpAnyH_ready (rs := [0]) (by kernel_rfl) (by simp) ?_
      refine AllReadyH.cons rfl (fun K hK => ?_) AllReadyH.nil
      go_simp
      refine (forms_r _).mono ?_
      rintro e w2 ⟨rfl, hw2⟩
      have B2 : Below w1.heap.size w1 w2 := by rw [hw2]; exact (Below.refl _ _).alloc (Nat.le_refl _) _
      have KF2 : w2.heap[w1.heap.size]? = some formsO := by rw [hw2]; exact box_new w1 _
      have D2 := Below.step D1 B2
      clear hw2
      have KV := box_below B2 KV0
      refine hK.out _ _ (HS.out _ D2) (fun hHeld => ?_)
      clear hK K
      refine wpAnyH_more (S' := fun w' => (w'.cell? ⟨w1.heap.size, 24, none⟩ = some (.string ⟨#[67, 72, 65, 78, 71, 69, 83]⟩) ∧ w'.cell? ⟨w1.heap.size, 25, none⟩ = some (.func (.func 82) #[] #[]) ∧ w'.cell? ⟨w1.heap.size, 26, none⟩ = some (.func (.func 83) #[] #[])) ∧ w'.cell? ⟨w.heap.size, 0, none⟩ = some (.int .i64 8)) (fun _ h => h.2) _ _ _ _ ?_
      replace hHeld := And.intro (formAt8 KF2) hHeld
      refine tq 3 11 hHeld ?_
      refine tq 4 12 hHeld ?_
      obtain ⟨oz, ol⟩ := box8z KV
      obtain ⟨o0, o1, o2⟩ := bx3 KV
      have hlv : A.heap.size ≤ wd.heap.size := C0.size
      have KW : (((w2.setCell ⟨wd.heap.size, 0, none⟩ (.string ⟨#[67, 72, 65, 78, 71, 69, 83]⟩)).setCell ⟨wd.heap.size, 1, none⟩ (.func (.func 82) #[] #[])).setCell ⟨wd.heap.size, 2, none⟩ (.func (.func 83) #[] #[])).heap[wd.heap.size]? = some (.cells #[.string ⟨#[67, 72, 65, 78, 71, 69, 83]⟩, .func (.func 82) #[] #[], .func (.func 83) #[] #[]] 79 (0, 0)) := box_set (i := 2) (box_set (i := 1) (box_set (i := 0) KV))
      have DW : Below A.heap.size A (((w2.setCell ⟨wd.heap.size, 0, none⟩ (.string ⟨#[67, 72, 65, 78, 71, 69, 83]⟩)).setCell ⟨wd.heap.size, 1, none⟩ (.func (.func 82) #[] #[])).setCell ⟨wd.heap.size, 2, none⟩ (.func (.func 83) #[] #[])) := ((D2.setCell (p := ⟨wd.heap.size, 0, none⟩) hlv _).setCell (p := ⟨wd.heap.size, 1, none⟩) hlv _).setCell (p := ⟨wd.heap.size, 2, none⟩) hlv _
      have KFW := box_other (i := 2) (v := .func (.func 83) #[] #[]) (box_other (i := 1) (v := .func (.func 82) #[] #[]) (box_other (i := 0) (v := .string ⟨#[67, 72, 65, 78, 71, 69, 83]⟩) KF2 (show w1.heap.size ≠ wd.heap.size by omega)) (show w1.heap.size ≠ wd.heap.size by omega)) (show w1.heap.size ≠ wd.heap.size by omega)
      have st1 := run_storeF (P := Tryz.prog) (w2.setCell ⟨wd.heap.size, 0, none⟩ (.string ⟨#[67, 72, 65, 78, 71, 69, 83]⟩)) wd.heap.size 1 _ _ (.func (.func 82) #[] #[]) (box_set (i := 0) KV) (by simp) rfl
      have st2 := run_storeF (P := Tryz.prog) ((w2.setCell ⟨wd.heap.size, 0, none⟩ (.string ⟨#[67, 72, 65, 78, 71, 69, 83]⟩)).setCell ⟨wd.heap.size, 1, none⟩ (.func (.func 82) #[] #[])) wd.heap.size 2 _ _ (.func (.func 83) #[] #[]) (box_set (i := 1) (box_set (i := 0) KV)) (by simp) rfl
      refine wpAnyH_ready (rs := [6]) (by kernel_rfl) (by simp) ?_
      refine AllReadyH.cons rfl (fun K hK => ?_) AllReadyH.nil
      go_simp
      refine hK.out _ _ (⟨formAt8 KFW, HS.out _ DW⟩) (fun hHeld => ?_)
      clear hK K
      refine wpAnyH_done (by kernel_rfl) ?_ _
      go_wp2
      go_meet
      case rel => exact ⟨wd.heap.size, rfl, KW, DW⟩
  case rest =>
    obtain ⟨b4, rfl, K4, X4⟩ := hcut
    clear f0 f1 f2 f3 f4 f5 f6 f7 hlA HS C0
    have HS2 : Hid (∀ w', Below wc.heap.size wc w' → (w'.cell? ⟨b4, 0, none⟩ = some (.string ⟨#[67, 72, 65, 78, 71, 69, 83]⟩) ∧ w'.cell? ⟨b4, 1, none⟩ = some (.func (.func 82) #[] #[]) ∧ w'.cell? ⟨b4, 2, none⟩ = some (.func (.func 83) #[] #[])) ∧ w'.cell? ⟨w.heap.size, 0, none⟩ = some (.int .i64 8) ∧ w'.cell? ⟨w.heap.size, 1, none⟩ = some (.slice a0 n0 c0) ∧ w'.cell? ⟨w.heap.size, 2, none⟩ = some (.slice a1 n1 c1) ∧ w'.cell? ⟨w.heap.size, 3, none⟩ = some (.int .i64 uid) ∧ w'.cell? ⟨w.heap.size, 4, none⟩ = some (.int .i64 mode) ∧ w'.cell? ⟨w.heap.size, 5, none⟩ = some (.int .i64 fl) ∧ w'.cell? ⟨w.heap.size, 6, none⟩ = some (.int .i64 si) ∧ w'.cell? ⟨w.heap.size, 7, none⟩ = some (.slice a2 n2 c2)) := by
      intro w' h
      obtain ⟨p0, p1, p2⟩ := bx3 (box_below h K4.out)
      exact ⟨⟨p0, p1, p2⟩, box8 (box_below h (box_below X4.out HK.out))⟩
    have XC : Hid (Below w.heap.size w wc) := Below.step XA.out X4.out
    have D0 : Below wc.heap.size wc wc.drew := (Below.refl _ _).drew
    have hsC := XC.out.size
    obtain ⟨p0, p1, p2⟩ := bx3 K4.out
    have hl4 := lt_of_heap K4.out
    obtain ⟨f0, f1, f2, f3, f4, f5, f6, f7⟩ := box8 (box_below X4.out HK.out)
    have hlA := lt_of_heap (box_below X4.out HK.out)
    go_wp2
    refine wp_region_held_drew (S := fun w' => (w'.cell? ⟨b4, 0, none⟩ = some (.string ⟨#[67, 72, 65, 78, 71, 69, 83]⟩) ∧ w'.cell? ⟨b4, 1, none⟩ = some (.func (.func 82) #[] #[]) ∧ w'.cell? ⟨b4, 2, none⟩ = some (.func (.func 83) #[] #[])) ∧ w'.cell? ⟨w.heap.size, 0, none⟩ = some (.int .i64 8) ∧ w'.cell? ⟨w.heap.size, 1, none⟩ = some (.slice a0 n0 c0) ∧ w'.cell? ⟨w.heap.size, 2, none⟩ = some (.slice a1 n1 c1) ∧ w'.cell? ⟨w.heap.size, 3, none⟩ = some (.int .i64 uid) ∧ w'.cell? ⟨w.heap.size, 4, none⟩ = some (.int .i64 mode) ∧ w'.cell? ⟨w.heap.size, 5, none⟩ = some (.int .i64 fl) ∧ w'.cell? ⟨w.heap.size, 6, none⟩ = some (.int .i64 si) ∧ w'.cell? ⟨w.heap.size, 7, none⟩ = some (.slice a2 n2 c2)) (by kernel_rfl) (HS2.out _ D0) (fun hHeld => (show wpAnyH _ _ _ _ _ 9 #[false, false, false, false, false, false, false, false, false] _ _ from ?_))
    refine tq 0 13 hHeld ?_
    refine tq 1 14 hHeld ?_
    refine tq 2 15 hHeld ?_
    refine tq 3 16 hHeld ?_
    refine tq 4 17 hHeld ?_
    generalize hwd4 : wc.drew = wd4 at *
    refine wpAnyH_ready (rs := [5]) (by kernel_rfl) (by simp) ?_
    refine AllReadyH.cons rfl (fun K hK => ?_) AllReadyH.nil
    go_simp
    refine (HT.out _ (Below.step XC.out D0)).mono ?_
    rintro e w5 ⟨u5, rfl, R5, B5⟩
    have D5 := Below.step D0 B5
    refine hK.out _ _ (HS2.out _ D5) (fun hHeld => ?_)
    clear hK K
    refine wpAnyH_ready (rs := [6]) (by kernel_rfl) (by simp) ?_
    refine AllReadyH.cons rfl (fun K hK => ?_) AllReadyH.nil
    go_simp
    refine (putTokens_b w5.heap.size _ u5 [] (kindW 8) ss _ (OwnB.nil' _ _) (Nat.le_refl _) (by intro x hx; simp [kindW] at hx; omega) (fun wi h => R5.below keepsStr (h.below)) (by simp) (by decide) hsl hst).mono ?_
    rintro e w6 ⟨u6, rfl, R6, B6⟩
    have D6 : Below wc.heap.size wc w6 := Below.step D5 (B6.below)
    refine hK.out _ _ (HS2.out _ D6) (fun hHeld => ?_)
    clear hK K
    refine tq 7 2 hHeld ?_
    refine tq 8 3 hHeld ?_
    refine wpAnyH_done (by kernel_rfl) ?_ _
    have HF : Hid (Row w6 w.heap.size w6.heap.size u6 (kindW 8 ++ ss.flatMap tokB)) := by
      have h := R6.toRow
      have h5 := D5.size
      simp only [List.nil_append] at h
      exact h.wide (by omega) (Nat.le_refl _)
    have HB : Hid (Below w.heap.size w w6) := Below.step XC.out D6
    clear HS2 D0 D5 D6 R5 B5 R6 B6 hHeld
    go_wp2
    exact bodyPost_ret (v := .tuple #[u6, .bool true]) (by simp [results, Tryz.results21, go_sem]) rfl ⟨u6, rfl, HF.out, HB.out⟩

set_option maxRecDepth 100000 in
set_option maxHeartbeats 4000000 in
theorem implCmdText_9 (a0 a1 a2 : Option Addr) (n0 n1 n2 c0 c1 c2 : Nat) (bx tt : List Int) (uid mode fl si : Int) (tx : List Int) (w : World) (HV : Hid (∀ wi, Below w.heap.size w wi → CmdV wi (.agg #[.int .i64 9, .slice a0 n0 c0, .slice a1 n1 c1, .int .i64 uid, .int .i64 mode, .int .i64 fl, .int .i64 si, .slice a2 n2 c2]) 9 bx tt uid mode fl si tx)) (HO : Hid (∀ wi, Below w.heap.size w wi → Calls Tryz.prog 47 #[.agg #[.int .i64 9, .slice a0 n0 c0, .slice a1 n1 c1, .int .i64 uid, .int .i64 mode, .int .i64 fl, .int .i64 si, .slice a2 n2 c2]] wi fun e w' => e = .returned (.bool true) ∧ Below wi.heap.size wi w'))
    (ss : List (List Int)) (hsl : ss.length ≤ 100) (hst : ∀ s, s ∈ ss → s.length ≤ 1000)
    (HT : Hid (∀ wi, Below w.heap.size w wi → Calls Tryz.prog 85 #[.agg #[.int .i64 9, .slice a0 n0 c0, .slice a1 n1 c1, .int .i64 uid, .int .i64 mode, .int .i64 fl, .int .i64 si, .slice a2 n2 c2]] wi fun e w' => ∃ u, e = .returned u ∧ StrsV w' u ss ∧ Below wi.heap.size wi w')) :
    Calls Tryz.prog 21 #[.agg #[.int .i64 9, .slice a0 n0 c0, .slice a1 n1 c1, .int .i64 uid, .int .i64 mode, .int .i64 fl, .int .i64 si, .slice a2 n2 c2]] w fun e w' => ∃ u, e = .returned (.tuple #[u, .bool true]) ∧ Row w' w.heap.size w'.heap.size u (kindW 9 ++ ss.flatMap tokB) ∧ Below w.heap.size w w' := by
  have HX : Hid (Below w.heap.size w (w.alloc (.cells #[.int .i64 9, .slice a0 n0 c0, .slice a1 n1 c1, .int .i64 uid, .int .i64 mode, .int .i64 fl, .int .i64 si, .slice a2 n2 c2] 34))) := (Below.refl _ _).alloc (Nat.le_refl _) _
  have HK0 := box_new w (.cells #[.int .i64 9, .slice a0 n0 c0, .slice a1 n1 c1, .int .i64 uid, .int .i64 mode, .int .i64 fl, .int .i64 si, .slice a2 n2 c2] 34)
  go_enter Tryz.func21, Tryz.ntmps21
  go_wp2_with fail
  refine (HO.out _ HX.out).mono ?_
  rintro e A ⟨rfl, BA⟩
  have XA : Hid (Below w.heap.size w A) := Below.step HX.out BA
  have HK : Hid (A.heap[w.heap.size]? = some (.cells #[.int .i64 9, .slice a0 n0 c0, .slice a1 n1 c1, .int .i64 uid, .int .i64 mode, .int .i64 fl, .int .i64 si, .slice a2 n2 c2] 34)) := box_below BA HK0
  have hsA : w.heap.size ≤ A.heap.size := XA.out.size
  clear HK0 BA HX HO
  have HS : Hid (∀ w', Below A.heap.size A w' → w'.cell? ⟨w.heap.size, 0, none⟩ = some (.int .i64 9)) := fun w' h => (box8 (box_below h HK.out)).1
  have C0 : Below A.heap.size A A.drew := (Below.refl _ _).drew
  obtain ⟨f0, f1, f2, f3, f4, f5, f6, f7⟩ := box8 HK.out
  have hlA := lt_of_heap HK.out
  go_upto_region 3 with fail
  go_cut [4] (fun s wx => ∃ b, s = .pointer (some ⟨b, 0, none⟩) ∧ Hid (wx.heap[b]? = some (.cells #[.string ⟨#[76, 73, 83, 84]⟩, .func (.func 84) #[] #[], .func (.func 85) #[] #[]] 79 (0, 0))) ∧ Hid (Below A.heap.size A wx))
  case first =>
    clear f0 f1 f2 f3 f4 f5 f6 f7 hlA
    go_wp2
    refine wp_region_held_drew (S := fun w' => w'.cell? ⟨w.heap.size, 0, none⟩ = some (.int .i64 9)) (by kernel_rfl) (HS.out _ C0) (fun hHeld => (show wpAnyH _ _ _ _ _ 7 #[false, false, false, false, false, false, false] _ _ from ?_))
    refine tq 1 9 hHeld ?_
    refine tq 2 10 hHeld ?_
    generalize hwd : A.drew = wd at *
    refine wpAnyH_ready (rs := [0, 5]) (by kernel_rfl) (by simp) ?_
    refine AllReadyH.cons rfl (fun K hK => ?_) (AllReadyH.cons rfl (fun K hK => ?_) AllReadyH.nil)
    · go_simp
      refine (forms_r _).mono ?_
      rintro e w1 ⟨rfl, hw1⟩
      have B1 : Below wd.heap.size wd w1 := by rw [hw1]; exact (Below.refl _ _).alloc (Nat.le_refl _) _
      have KF1 : w1.heap[wd.heap.size]? = some formsO := by rw [hw1]; exact box_new wd _
      have D1 := Below.step C0 B1
      clear hw1
      refine hK.out _ _ (HS.out _ D1) (fun hHeld => ?_)
      clear hK K
      refine wpAnyH_more (S' := fun w' => (w'.cell? ⟨wd.heap.size, 27, none⟩ = some (.string ⟨#[76, 73, 83, 84]⟩) ∧ w'.cell? ⟨wd.heap.size, 28, none⟩ = some (.func (.func 84) #[] #[]) ∧ w'.cell? ⟨wd.heap.size, 29, none⟩ = some (.func (.func 85) #[] #[])) ∧ w'.cell? ⟨w.heap.size, 0, none⟩ = some (.int .i64 9)) (fun _ h => h.2) _ _ _ _ ?_
      replace hHeld := And.intro (formAt9 KF1) hHeld
      refine tq 3 11 hHeld ?_
      refine tq 4 12 hHeld ?_
      refine wpAnyH_ready (rs := [5]) (by kernel_rfl) (by simp) ?_
      refine AllReadyH.cons rfl (fun K hK => ?_) AllReadyH.nil
      go_simp
      have AB : Below w1.heap.size w1 (w1.alloc (.cells #[.string ⟨#[]⟩, .nilFunc, .nilFunc] 79)) := (Below.refl _ _).alloc (Nat.le_refl _) _
      have KV := box_new w1 (.cells #[.string ⟨#[]⟩, .nilFunc, .nilFunc] 79)
      have KF2 := box_below AB KF1
      have hne := lt_of_heap KF1
      have D2 := Below.step D1 AB
      refine hK.out _ _ (⟨formAt9 KF2, HS.out _ D2⟩) (fun hHeld => ?_)
      clear hK K
      generalize hwv : w1.alloc (.cells #[.string ⟨#[]⟩, .nilFunc, .nilFunc] 79) = w2 at *
      obtain ⟨oz, ol⟩ := box8z KV
      obtain ⟨o0, o1, o2⟩ := bx3 KV
      have hlv : A.heap.size ≤ w1.heap.size := D1.size
      have KW : (((w2.setCell ⟨w1.heap.size, 0, none⟩ (.string ⟨#[76, 73, 83, 84]⟩)).setCell ⟨w1.heap.size, 1, none⟩ (.func (.func 84) #[] #[])).setCell ⟨w1.heap.size, 2, none⟩ (.func (.func 85) #[] #[])).heap[w1.heap.size]? = some (.cells #[.string ⟨#[76, 73, 83, 84]⟩, .func (.func 84) #[] #[], .func (.func 85) #[] #[]] 79 (0, 0)) := box_set (i := 2) (box_set (i := 1) (box_set (i := 0) KV))
      have DW : Below A.heap.size A (((w2.setCell ⟨w1.heap.size, 0, none⟩ (.string ⟨#[76, 73, 83, 84]⟩)).setCell ⟨w1.heap.size, 1, none⟩ (.func (.func 84) #[] #[])).setCell ⟨w1.heap.size, 2, none⟩ (.func (.func 85) #[] #[])) := ((D2.setCell (p := ⟨w1.heap.size, 0, none⟩) hlv _).setCell (p := ⟨w1.heap.size, 1, none⟩) hlv _).setCell (p := ⟨w1.heap.size, 2, none⟩) hlv _
      have KFW := box_other (i := 2) (v := .func (.func 85) #[] #[]) (box_other (i := 1) (v := .func (.func 84) #[] #[]) (box_other (i := 0) (v := .string ⟨#[76, 73, 83, 84]⟩) KF2 (show wd.heap.size ≠ w1.heap.size by omega)) (show wd.heap.size ≠ w1.heap.size by omega)) (show wd.heap.size ≠ w1.heap.size by omega)
      have st1 := run_storeF (P := Tryz.prog) (w2.setCell ⟨w1.heap.size, 0, none⟩ (.string ⟨#[76, 73, 83, 84]⟩)) w1.heap.size 1 _ _ (.func (.func 84) #[] #[]) (box_set (i := 0) KV) (by simp) rfl
      have st2 := run_storeF (P := Tryz.prog) ((w2.setCell ⟨w1.heap.size, 0, none⟩ (.string ⟨#[76, 73, 83, 84]⟩)).setCell ⟨w1.heap.size, 1, none⟩ (.func (.func 84) #[] #[])) w1.heap.size 2 _ _ (.func (.func 85) #[] #[]) (box_set (i := 1) (box_set (i := 0) KV)) (by simp) rfl
      refine wpAnyH_ready (rs := [6]) (by kernel_rfl) (by simp) ?_
      refine AllReadyH.cons rfl (fun K hK => ?_) AllReadyH.nil
      go_simp
      refine hK.out _ _ (⟨formAt9 KFW, HS.out _ DW⟩) (fun hHeld => ?_)
      clear hK K
      refine wpAnyH_done (by kernel_rfl) ?_ _
      go_wp2
      go_meet
      case rel => exact ⟨w1.heap.size, rfl, KW, DW⟩
    · go_simp
      have AB : Below wd.heap.size wd (wd.alloc (.cells #[.string ⟨#[]⟩, .nilFunc, .nilFunc] 79)) := (Below.refl _ _).alloc (Nat.le_refl _) _
      have KV0 := box_new wd (.cells #[.string ⟨#[]⟩, .nilFunc, .nilFunc] 79)
      have hne := lt_of_heap KV0
      have D1 := Below.step C0 AB
      refine hK.out _ _ (HS.out _ D1) (fun hHeld => ?_)
      clear hK K
      generalize hwv : wd.alloc (.cells #[.string ⟨#[]⟩, .nilFunc, .nilFunc] 79) = w1 at *
      refine wpAnyH_ready (rs := [0]) (by kernel_rfl) (by simp) ?_
      refine AllReadyH.cons rfl (fun K hK => ?_) AllReadyH.nil
      go_simp
      refine (forms_r _).mono ?_
      rintro e w2 ⟨rfl, hw2⟩
      have B2 : Below w1.heap.size w1 w2 := by rw [hw2]; exact (Below.refl _ _).alloc (Nat.le_refl _) _
      have KF2 : w2.heap[w1.heap.size]? = some formsO := by rw [hw2]; exact box_new w1 _
      have D2 := Below.step D1 B2
      clear hw2
      have KV := box_below B2 KV0
      refine hK.out _ _ (HS.out _ D2) (fun hHeld => ?_)
      clear hK K
      refine wpAnyH_more (S' := fun w' => (w'.cell? ⟨w1.heap.size, 27, none⟩ = some (.string ⟨#[76, 73, 83, 84]⟩) ∧ w'.cell? ⟨w1.heap.size, 28, none⟩ = some (.func (.func 84) #[] #[]) ∧ w'.cell? ⟨w1.heap.size, 29, none⟩ = some (.func (.func 85) #[] #[])) ∧ w'.cell? ⟨w.heap.size, 0, none⟩ = some (.int .i64 9)) (fun _ h => h.2) _ _ _ _ ?_
      replace hHeld := And.intro (formAt9 KF2) hHeld
      refine tq 3 11 hHeld ?_
      refine tq 4 12 hHeld ?_
      obtain ⟨oz, ol⟩ := box8z KV
      obtain ⟨o0, o1, o2⟩ := bx3 KV
      have hlv : A.heap.size ≤ wd.heap.size := C0.size
      have KW : (((w2.setCell ⟨wd.heap.size, 0, none⟩ (.string ⟨#[76, 73, 83, 84]⟩)).setCell ⟨wd.heap.size, 1, none⟩ (.func (.func 84) #[] #[])).setCell ⟨wd.heap.size, 2, none⟩ (.func (.func 85) #[] #[])).heap[wd.heap.size]? = some (.cells #[.string ⟨#[76, 73, 83, 84]⟩, .func (.func 84) #[] #[], .func (.func 85) #[] #[]] 79 (0, 0)) := box_set (i := 2) (box_set (i := 1) (box_set (i := 0) KV))
      have DW : Below A.heap.size A (((w2.setCell ⟨wd.heap.size, 0, none⟩ (.string ⟨#[76, 73, 83, 84]⟩)).setCell ⟨wd.heap.size, 1, none⟩ (.func (.func 84) #[] #[])).setCell ⟨wd.heap.size, 2, none⟩ (.func (.func 85) #[] #[])) := ((D2.setCell (p := ⟨wd.heap.size, 0, none⟩) hlv _).setCell (p := ⟨wd.heap.size, 1, none⟩) hlv _).setCell (p := ⟨wd.heap.size, 2, none⟩) hlv _
      have KFW := box_other (i := 2) (v := .func (.func 85) #[] #[]) (box_other (i := 1) (v := .func (.func 84) #[] #[]) (box_other (i := 0) (v := .string ⟨#[76, 73, 83, 84]⟩) KF2 (show w1.heap.size ≠ wd.heap.size by omega)) (show w1.heap.size ≠ wd.heap.size by omega)) (show w1.heap.size ≠ wd.heap.size by omega)
      have st1 := run_storeF (P := Tryz.prog) (w2.setCell ⟨wd.heap.size, 0, none⟩ (.string ⟨#[76, 73, 83, 84]⟩)) wd.heap.size 1 _ _ (.func (.func 84) #[] #[]) (box_set (i := 0) KV) (by simp) rfl
      have st2 := run_storeF (P := Tryz.prog) ((w2.setCell ⟨wd.heap.size, 0, none⟩ (.string ⟨#[76, 73, 83, 84]⟩)).setCell ⟨wd.heap.size, 1, none⟩ (.func (.func 84) #[] #[])) wd.heap.size 2 _ _ (.func (.func 85) #[] #[]) (box_set (i := 1) (box_set (i := 0) KV)) (by simp) rfl
      refine wpAnyH_ready (rs := [6]) (by kernel_rfl) (by simp) ?_
      refine AllReadyH.cons rfl (fun K hK => ?_) AllReadyH.nil
      go_simp
      refine hK.out _ _ (⟨formAt9 KFW, HS.out _ DW⟩) (fun hHeld => ?_)
      clear hK K
      refine wpAnyH_done (by kernel_rfl) ?_ _
      go_wp2
      go_meet
      case rel => exact ⟨wd.heap.size, rfl, KW, DW⟩
  case rest =>
    obtain ⟨b4, rfl, K4, X4⟩ := hcut
    clear f0 f1 f2 f3 f4 f5 f6 f7 hlA HS C0
    have HS2 : Hid (∀ w', Below wc.heap.size wc w' → (w'.cell? ⟨b4, 0, none⟩ = some (.string ⟨#[76, 73, 83, 84]⟩) ∧ w'.cell? ⟨b4, 1, none⟩ = some (.func (.func 84) #[] #[]) ∧ w'.cell? ⟨b4, 2, none⟩ = some (.func (.func 85) #[] #[])) ∧ w'.cell? ⟨w.heap.size, 0, none⟩ = some (.int .i64 9) ∧ w'.cell? ⟨w.heap.size, 1, none⟩ = some (.slice a0 n0 c0) ∧ w'.cell? ⟨w.heap.size, 2, none⟩ = some (.slice a1 n1 c1) ∧ w'.cell? ⟨w.heap.size, 3, none⟩ = some (.int .i64 uid) ∧ w'.cell? ⟨w.heap.size, 4, none⟩ = some (.int .i64 mode) ∧ w'.cell? ⟨w.heap.size, 5, none⟩ = some (.int .i64 fl) ∧ w'.cell? ⟨w.heap.size, 6, none⟩ = some (.int .i64 si) ∧ w'.cell? ⟨w.heap.size, 7, none⟩ = some (.slice a2 n2 c2)) := by
      intro w' h
      obtain ⟨p0, p1, p2⟩ := bx3 (box_below h K4.out)
      exact ⟨⟨p0, p1, p2⟩, box8 (box_below h (box_below X4.out HK.out))⟩
    have XC : Hid (Below w.heap.size w wc) := Below.step XA.out X4.out
    have D0 : Below wc.heap.size wc wc.drew := (Below.refl _ _).drew
    have hsC := XC.out.size
    obtain ⟨p0, p1, p2⟩ := bx3 K4.out
    have hl4 := lt_of_heap K4.out
    obtain ⟨f0, f1, f2, f3, f4, f5, f6, f7⟩ := box8 (box_below X4.out HK.out)
    have hlA := lt_of_heap (box_below X4.out HK.out)
    go_wp2
    refine wp_region_held_drew (S := fun w' => (w'.cell? ⟨b4, 0, none⟩ = some (.string ⟨#[76, 73, 83, 84]⟩) ∧ w'.cell? ⟨b4, 1, none⟩ = some (.func (.func 84) #[] #[]) ∧ w'.cell? ⟨b4, 2, none⟩ = some (.func (.func 85) #[] #[])) ∧ w'.cell? ⟨w.heap.size, 0, none⟩ = some (.int .i64 9) ∧ w'.cell? ⟨w.heap.size, 1, none⟩ = some (.slice a0 n0 c0) ∧ w'.cell? ⟨w.heap.size, 2, none⟩ = some (.slice a1 n1 c1) ∧ w'.cell? ⟨w.heap.size, 3, none⟩ = some (.int .i64 uid) ∧ w'.cell? ⟨w.heap.size, 4, none⟩ = some (.int .i64 mode) ∧ w'.cell? ⟨w.heap.size, 5, none⟩ = some (.int .i64 fl) ∧ w'.cell? ⟨w.heap.size, 6, none⟩ = some (.int .i64 si) ∧ w'.cell? ⟨w.heap.size, 7, none⟩ = some (.slice a2 n2 c2)) (by kernel_rfl) (HS2.out _ D0) (fun hHeld => (show wpAnyH _ _ _ _ _ 9 #[false, false, false, false, false, false, false, false, false] _ _ from ?_))
    refine tq 0 13 hHeld ?_
    refine tq 1 14 hHeld ?_
    refine tq 2 15 hHeld ?_
    refine tq 3 16 hHeld ?_
    refine tq 4 17 hHeld ?_
    generalize hwd4 : wc.drew = wd4 at *
    refine wpAnyH_ready (rs := [5]) (by kernel_rfl) (by simp) ?_
    refine AllReadyH.cons rfl (fun K hK => ?_) AllReadyH.nil
    go_simp
    refine (HT.out _ (Below.step XC.out D0)).mono ?_
    rintro e w5 ⟨u5, rfl, R5, B5⟩
    have D5 := Below.step D0 B5
    refine hK.out _ _ (HS2.out _ D5) (fun hHeld => ?_)
    clear hK K
    refine wpAnyH_ready (rs := [6]) (by kernel_rfl) (by simp) ?_
    refine AllReadyH.cons rfl (fun K hK => ?_) AllReadyH.nil
    go_simp
    refine (putTokens_b w5.heap.size _ u5 [] (kindW 9) ss _ (OwnB.nil' _ _) (Nat.le_refl _) (by intro x hx; simp [kindW] at hx; omega) (fun wi h => R5.below keepsStr (h.below)) (by simp) (by decide) hsl hst).mono ?_
    rintro e w6 ⟨u6, rfl, R6, B6⟩
    have D6 : Below wc.heap.size wc w6 := Below.step D5 (B6.below)
    refine hK.out _ _ (HS2.out _ D6) (fun hHeld => ?_)
    clear hK K
    refine tq 7 2 hHeld ?_
    refine tq 8 3 hHeld ?_
    refine wpAnyH_done (by kernel_rfl) ?_ _
    have HF : Hid (Row w6 w.heap.size w6.heap.size u6 (kindW 9 ++ ss.flatMap tokB)) := by
      have h := R6.toRow
      have h5 := D5.size
      simp only [List.nil_append] at h
      exact h.wide (by omega) (Nat.le_refl _)
    have HB : Hid (Below w.heap.size w w6) := Below.step XC.out D6
    clear HS2 D0 D5 D6 R5 B5 R6 B6 hHeld
    go_wp2
    exact bodyPost_ret (v := .tuple #[u6, .bool true]) (by simp [results, Tryz.results21, go_sem]) rfl ⟨u6, rfl, HF.out, HB.out⟩

end Go.Proofs.YtifpjdpcmfneaaaGreatDoor

/- What CmdText of package impl does. -/
namespace Go.Proofs.YtifpjdpcmfneaaaGreatDoor
open Go.RowKit
set_option maxRecDepth 100000
set_option linter.unusedVariables false
set_option linter.unusedSimpArgs false

theorem flat_tokB (ss : List (List Int)) : ss.flatMap tokB = ss.flatMap (fun s => [32] ++ s) := rfl
theorem tab_keeps {w wi : World} (ht : Tab10 w) (h : Below w.heap.size w wi) : Tab10 wi := Lib.tabBelow_of_tabIs ht _ h

set_option maxRecDepth 100000 in
set_option maxHeartbeats 2000000 in
theorem implCmdText_r (v : Value) (k : Int) (bx tt : List Int) (uid mode fl si : Int) (tx : List Int) (w : World) (hv : CmdV w v k bx tt uid mode fl si tx) (ht : Tab10 w) :
    Calls Tryz.prog 21 #[v] w fun e w' => ∃ u, e = .returned (.tuple #[u, .bool (cmdB k bx tt uid mode fl si tx)]) ∧ Row w' w.heap.size w'.heap.size u (ctB k bx tt uid mode fl si tx) ∧ Below w.heap.size w w' := by
  have HV : Hid (∀ wi, Below w.heap.size w wi → CmdV wi v k bx tt uid mode fl si tx) := fun wi h => hv.below h
  have HO0 : Hid (∀ wi, Below w.heap.size w wi → Calls Tryz.prog 47 #[v] wi fun e w' => e = .returned (.bool (cmdB k bx tt uid mode fl si tx)) ∧ Below wi.heap.size wi w') := fun wi h => implCmdOk_any v k bx tt uid mode fl si tx wi (hv.below h)
  obtain ⟨u0, u1, u2, rfl, g0, g1, g2, -⟩ := hv
  obtain ⟨a0, n0, c0, rfl⟩ := g0.form3
  obtain ⟨a1, n1, c1, rfl⟩ := g1.form3
  obtain ⟨a2, n2, c2, rfl⟩ := g2.form3
  clear g0 g1 g2
  cases hok : cmdB k bx tt uid mode fl si tx with
  | false =>
    have HE : Hid (ctB k bx tt uid mode fl si tx = []) := ctB_no hok
    have HO : Hid (∀ wi, Below w.heap.size w wi → Calls Tryz.prog 47 #[.agg #[.int .i64 k, .slice a0 n0 c0, .slice a1 n1 c1, .int .i64 uid, .int .i64 mode, .int .i64 fl, .int .i64 si, .slice a2 n2 c2]] wi fun e w' => e = .returned (.bool false) ∧ Below wi.heap.size wi w') := by rw [hok] at HO0; exact HO0
    clear HO0 hok HV
    have HX : Hid (∀ o, Below w.heap.size w (w.alloc o)) := fun o => (Below.refl _ _).alloc (Nat.le_refl _) o
    go_enter Tryz.func21, Tryz.ntmps21
    go_wp2_with fail
    refine (HO.out _ (HX.out _)).mono ?_
    rintro e w1 ⟨rfl, B⟩
    have X := Below.step (HX.out _) B
    clear B HX HO
    go_wp2
    refine bodyPost_ret (v := .tuple #[.slice none 0 0, .bool false]) (by simp [results, Tryz.results21, go_sem]) rfl ⟨.slice none 0 0, rfl, ?_, X⟩
    rw [HE.out]
    exact Row.nil _ _ _
  | true =>
    obtain ⟨hk, hb, htn, hu, hm, hf, hs, hx⟩ := cmd_facts hok
    have HO : Hid (∀ wi, Below w.heap.size w wi → Calls Tryz.prog 47 #[.agg #[.int .i64 k, .slice a0 n0 c0, .slice a1 n1 c1, .int .i64 uid, .int .i64 mode, .int .i64 fl, .int .i64 si, .slice a2 n2 c2]] wi fun e w' => e = .returned (.bool true) ∧ Below wi.heap.size wi w') := by rw [hok] at HO0; exact HO0
    rw [ctB_yes hok]
    have hbl : bx.length ≤ 6 ∨ k = 9 := by
      by_cases h9 : k = 9
      · exact .inr h9
      · exact .inl (nameB_len (hb h9)).2
    have htl : k = 6 → tt.length ≤ 6 := fun h => (nameB_len (htn h)).2
    have hql := quoB_len tx
    have hfl := flagsB_len fl
    have hdu := digB_len10 (n := uid.toNat) (by omega)
    have hds := digB_len10 (n := si.toNat) (by omega)
    have hmw : (modeW mode).length ≤ 7 := by
      obtain ⟨mn, rfl⟩ : ∃ n : Nat, mode = n := ⟨mode.toNat, by omega⟩
      exact (modeW_ok mn (by omega)).1
    have hsw : sinceW.length = 5 ∧ awayW.length = 4 := ⟨rfl, rfl⟩
    clear HO0 hok hb htn
    have hk' : k = 0 ∨ k = 1 ∨ k = 2 ∨ k = 3 ∨ k = 4 ∨ k = 5 ∨ k = 6 ∨ k = 7 ∨ k = 8 ∨ k = 9 := by omega
    rcases hk' with rfl | rfl | rfl | rfl | rfl | rfl | rfl | rfl | rfl | rfl
    · refine (implCmdText_0 a0 a1 a2 n0 n1 n2 c0 c1 c2 bx tt uid mode fl si tx w HV HO [bx] (by simp) (by intro s hs; simp only [List.mem_cons, List.not_mem_nil, or_false] at hs; rcases hs with rfl <;> omega) (fun wi h => boxTokens_r _ 0 bx tt uid mode fl si tx wi (HV.out wi h))).mono ?_
      rintro e w' ⟨u, rfl, hR, r⟩
      exact ⟨u, rfl, by simpa [toksB, flat_tokB, tokB] using hR, r⟩
    · refine (implCmdText_1 a0 a1 a2 n0 n1 n2 c0 c1 c2 bx tt uid mode fl si tx w HV HO [bx] (by simp) (by intro s hs; simp only [List.mem_cons, List.not_mem_nil, or_false] at hs; rcases hs with rfl <;> omega) (fun wi h => boxTokens_r _ 1 bx tt uid mode fl si tx wi (HV.out wi h))).mono ?_
      rintro e w' ⟨u, rfl, hR, r⟩
      exact ⟨u, rfl, by simpa [toksB, flat_tokB, tokB] using hR, r⟩
    · refine (implCmdText_2 a0 a1 a2 n0 n1 n2 c0 c1 c2 bx tt uid mode fl si tx w HV HO [bx, flagsB fl, quoB tx] (by simp) (by intro s hs; simp only [List.mem_cons, List.not_mem_nil, or_false] at hs; rcases hs with rfl | rfl | rfl <;> omega) (fun wi h => appendTokens_r _ 2 bx tt uid mode fl si tx wi (HV.out wi h) (by omega) (by omega) (by omega))).mono ?_
      rintro e w' ⟨u, rfl, hR, r⟩
      exact ⟨u, rfl, by simpa [toksB, flat_tokB, tokB] using hR, r⟩
    · refine (implCmdText_3 a0 a1 a2 n0 n1 n2 c0 c1 c2 bx tt uid mode fl si tx w HV HO (storeT bx uid mode fl si) (by unfold storeT; split <;> simp) (by unfold storeT; split <;> intro s hs <;> simp only [List.mem_cons, List.not_mem_nil, or_false] at hs <;> (first | (rcases hs with rfl | rfl | rfl | rfl | rfl | rfl <;> omega) | (rcases hs with rfl | rfl | rfl | rfl <;> omega))) (fun wi h => storeTokens_r _ 3 bx tt uid mode fl si tx wi (HV.out wi h) (by omega) (by omega) (by omega) (by omega) (by omega) (by omega) (by omega) (by omega) (tab_keeps ht h))).mono ?_
      rintro e w' ⟨u, rfl, hR, r⟩
      exact ⟨u, rfl, by simpa [toksB, flat_tokB, tokB, storeT] using hR, r⟩
    · refine (implCmdText_4 a0 a1 a2 n0 n1 n2 c0 c1 c2 bx tt uid mode fl si tx w HV HO [bx] (by simp) (by intro s hs; simp only [List.mem_cons, List.not_mem_nil, or_false] at hs; rcases hs with rfl <;> omega) (fun wi h => boxTokens_r _ 4 bx tt uid mode fl si tx wi (HV.out wi h))).mono ?_
      rintro e w' ⟨u, rfl, hR, r⟩
      exact ⟨u, rfl, by simpa [toksB, flat_tokB, tokB] using hR, r⟩
    · refine (implCmdText_5 a0 a1 a2 n0 n1 n2 c0 c1 c2 bx tt uid mode fl si tx w HV HO [bx, digB uid.toNat] (by simp) (by intro s hs; simp only [List.mem_cons, List.not_mem_nil, or_false] at hs; rcases hs with rfl | rfl <;> omega) (fun wi h => fetchTokens_r _ 5 bx tt uid mode fl si tx wi (HV.out wi h) (by omega) (by omega) (tab_keeps ht h))).mono ?_
      rintro e w' ⟨u, rfl, hR, r⟩
      exact ⟨u, rfl, by simpa [toksB, flat_tokB, tokB] using hR, r⟩
    · refine (implCmdText_6 a0 a1 a2 n0 n1 n2 c0 c1 c2 bx tt uid mode fl si tx w HV HO (copyT bx tt uid mode) (by unfold copyT; split <;> simp) (by have := htl rfl; unfold copyT; split <;> intro s hs <;> simp only [List.mem_cons, List.not_mem_nil, or_false] at hs <;> (first | (rcases hs with rfl | rfl | rfl | rfl <;> omega) | (rcases hs with rfl | rfl | rfl <;> omega))) (fun wi h => copyTokens_r _ 6 bx tt uid mode fl si tx wi (HV.out wi h) (by omega) (by omega) (tab_keeps ht h))).mono ?_
      rintro e w' ⟨u, rfl, hR, r⟩
      exact ⟨u, rfl, by simpa [toksB, flat_tokB, tokB, copyT] using hR, r⟩
    · refine (implCmdText_7 a0 a1 a2 n0 n1 n2 c0 c1 c2 bx tt uid mode fl si tx w HV HO [bx] (by simp) (by intro s hs; simp only [List.mem_cons, List.not_mem_nil, or_false] at hs; rcases hs with rfl <;> omega) (fun wi h => boxTokens_r _ 7 bx tt uid mode fl si tx wi (HV.out wi h))).mono ?_
      rintro e w' ⟨u, rfl, hR, r⟩
      exact ⟨u, rfl, by simpa [toksB, flat_tokB, tokB] using hR, r⟩
    · refine (implCmdText_8 a0 a1 a2 n0 n1 n2 c0 c1 c2 bx tt uid mode fl si tx w HV HO [bx, digB si.toNat] (by simp) (by intro s hs; simp only [List.mem_cons, List.not_mem_nil, or_false] at hs; rcases hs with rfl | rfl <;> omega) (fun wi h => changesTokens_r _ 8 bx tt uid mode fl si tx wi (HV.out wi h) (by omega) (by omega) (tab_keeps ht h))).mono ?_
      rintro e w' ⟨u, rfl, hR, r⟩
      exact ⟨u, rfl, by simpa [toksB, flat_tokB, tokB] using hR, r⟩
    · refine (implCmdText_9 a0 a1 a2 n0 n1 n2 c0 c1 c2 bx tt uid mode fl si tx w HV HO [] (by simp) (by intro s hs; cases hs) (fun wi h => noTokens_r _ 9 bx tt uid mode fl si tx wi (HV.out wi h))).mono ?_
      rintro e w' ⟨u, rfl, hR, r⟩
      exact ⟨u, rfl, by simpa [toksB, flat_tokB, tokB] using hR, r⟩

end Go.Proofs.YtifpjdpcmfneaaaGreatDoor

/- What RecordBytes of package impl does. -/
namespace Go.Proofs.YtifpjdpcmfneaaaGreatDoor
open Go.RowKit
set_option maxRecDepth 100000
set_option linter.unusedVariables false

theorem ints_lit3 (w : World) (g : Nat) (a b c : Int) (ha : I64 a) (hb : I64 b) (hc : I64 c) (h : w.heap[g]? = some (.cells #[.int .i64 a, .int .i64 b, .int .i64 c] 3 (0, 0))) : IntsV w (.slice (some ⟨g, 0, none⟩) 3 3) [a, b, c] := by
  obtain ⟨f0, f1, f2⟩ := bx3 h
  refine ⟨some ⟨g, 0, none⟩, 3, fun i => [.int .i64 ([a, b, c].getD i 0)], by simp, by simp, by (first | omega | simp | (unfold maxLen; omega)), (fun h => by cases h), fun i x hx => ?_, fun _ => ⟨g, 0, rfl, lt_of_heap h, fun i j u hi hu => ?_⟩⟩
  · have hi : i < 3 := by have := (List.getElem?_eq_some_iff.1 hx).1; simpa using this
    have : i = 0 ∨ i = 1 ∨ i = 2 := by omega
    rcases this with rfl | rfl | rfl
    · obtain rfl : a = x := by simpa using hx
      exact ⟨⟨rfl, ha⟩, rfl⟩
    · obtain rfl : b = x := by simpa using hx
      exact ⟨⟨rfl, hb⟩, rfl⟩
    · obtain rfl : c = x := by simpa using hx
      exact ⟨⟨rfl, hc⟩, rfl⟩
  · have hi3 : i < 3 := by simpa using hi
    have hj : j = 0 := by have := (List.getElem?_eq_some_iff.1 hu).1; simp at this; omega
    subst hj
    have : i = 0 ∨ i = 1 ∨ i = 2 := by omega
    rcases this with rfl | rfl | rfl
    · obtain rfl : Value.int .i64 a = u := by simpa using hu
      simpa using f0
    · obtain rfl : Value.int .i64 b = u := by simpa using hu
      simpa using f1
    · obtain rfl : Value.int .i64 c = u := by simpa using hu
      simpa using f2

set_option maxRecDepth 100000 in
set_option maxHeartbeats 4000000 in
theorem implRecordBytes_r (v : Value) (r : RecD) (w : World) (hv : RecV w v r) (hz : szXs r.acc.boxes ≤ 2000000) (ht : Tab10 w) :
    Calls Tryz.prog 7 #[v] w fun e w' => ∃ u, e = .returned (.tuple #[u, .bool (recB r)]) ∧ Row w' w.heap.size w'.heap.size u (rbB r) ∧ Below w.heap.size w w' := by
  have H0 : Hid (∀ wi, Below w.heap.size w wi → RecV wi v r) := fun wi h => hv.below h
  have HT : Hid (∀ wi, Below w.heap.size w wi → Tab10 wi) := fun wi h => tab_keeps ht h
  obtain ⟨a0, n0, c0, a1, n1, c1, a2, n2, c2, a3, c3, a4, c4, rfl⟩ := hv.form
  have HI : Hid (I64 r.kind ∧ I64 r.user ∧ I64 r.n) := hv.parts.2.2
  clear hv ht
  have AB : ∀ o, Below w.heap.size w (w.alloc o) := fun o => (Below.refl _ _).alloc (Nat.le_refl _) o
  have kA := box_new w (.cells #[.int .i64 r.kind, .int .i64 r.user, .int .i64 r.n, .int .i64 r.cmd.k, .slice a0 n0 c0, .slice a1 n1 c1, .int .i64 r.cmd.uid, .int .i64 r.cmd.mode, .int .i64 r.cmd.fl, .int .i64 r.cmd.si, .slice a2 n2 c2, .int .i64 r.acc.valid, .slice a3 r.acc.boxes.length c3, .slice a4 r.acc.seen.length c4] 39)
  go_enter Tryz.func7, Tryz.ntmps7
  go_wp2_with fail
  refine (implRecordOk_any _ r _ (H0.out _ (AB _))).mono ?_
  rintro e w1 ⟨rfl, B⟩
  have X := Below.step (AB _) B
  replace kA := box_below B kA
  clear B AB
  obtain ⟨f0, f1, f2, f3, f4, f5, f6, f7, f8, f9, f10, f11, f12, f13⟩ := bx14 kA
  have hlA := lt_of_heap kA
  cases hok : recB r with
  | false =>
    have HE : Hid (rbB r = [] ∧ recB r = false) := ⟨rbB_no hok, hok⟩
    clear hok
    go_wp2
    refine bodyPost_ret (v := .tuple #[.slice none 0 0, .bool false]) (by simp [results, Tryz.results7, go_sem]) rfl ⟨.slice none 0 0, by rw [HE.out.2], ?_, X⟩
    rw [HE.out.1]
    exact Row.nil _ _ _
  | true =>
    have HE : Hid (rbB r = headB r ++ tailB r ∧ recB r = true) := ⟨rbB_yes hok, hok⟩
    clear hok
    have hhl := headB_len r
    have htl := tailB_len r
    have hs1 := X.size
    have AB1 : Below w1.heap.size w1 (w1.alloc (.cells #[.int .i64 r.kind, .int .i64 r.user, .int .i64 r.n] 3)) := (Below.refl _ _).alloc (Nat.le_refl _) _
    have KN := box_new w1 (.cells #[.int .i64 r.kind, .int .i64 r.user, .int .i64 r.n] 3)
    generalize hw2 : w1.alloc (.cells #[.int .i64 r.kind, .int .i64 r.user, .int .i64 r.n] 3) = w2 at AB1 KN
    have hnt : (3 : TypeId) ≠ 5 := by decide
    go_wp2_with fail
    refine (putNums_b w2.heap.size _ (.slice (some ⟨w1.heap.size, 0, none⟩) 3 3) [] [r.kind, r.user, r.n] _ (OwnB.nil' _ _) (Nat.le_refl _) (fun wi h => ints_lit3 wi _ _ _ _ HI.out.1 HI.out.2.1 HI.out.2.2 (h.box hnt KN)) (by simp) (by simp)).mono ?_
    rintro e w3 ⟨u3, rfl, R3, B3⟩
    have X3 : Hid (Below w.heap.size w w3) := Below.step (Below.step X AB1) B3.below
    have RH : Hid (Row w3 w.heap.size w3.heap.size u3 (headB r)) := by
      have h := R3.toRow.wide (B' := w.heap.size) (T' := w3.heap.size) (by have := AB1.size; omega) (Nat.le_refl _)
      simpa [Hid, headB, numsB] using h
    have K3 := box_below B3.below (box_below AB1 kA)
    clear f0 f1 f2 f3 f4 f5 f6 f7 f8 f9 f10 f11 f12 f13 hlA kA AB1 KN R3 B3 X
    obtain ⟨f0, f1, f2, f3, f4, f5, f6, f7, f8, f9, f10, f11, f12, f13⟩ := bx14 K3
    have hl3 := lt_of_heap K3
    by_cases hk0 : r.kind = 0
    · have HTL : Hid (tailB r = ctB r.cmd.k r.cmd.bx r.cmd.tt r.cmd.uid r.cmd.mode r.cmd.fl r.cmd.si r.cmd.tx) := by simp [Hid, tailB, hk0]
      have hk0' : (r.kind == 0) = true := by simp [hk0]
      go_wp2_with fail
      refine (implCmdText_r _ r.cmd.k r.cmd.bx r.cmd.tt r.cmd.uid r.cmd.mode r.cmd.fl r.cmd.si r.cmd.tx _ (H0.out _ X3.out).parts.1 (HT.out _ X3.out)).mono ?_
      rintro e w4 ⟨u4, rfl, R4, B4⟩
      have X4 : Hid (Below w.heap.size w w4) := Below.step X3.out B4
      have RH4 : Hid (Bs w4 u3 (headB r)) := (RH.out.below B4).bs
      have RT4 : Hid (Bs w4 u4 (tailB r)) := by rw [HTL.out]; exact R4.bs
      have hs4 := X4.out.size
      clear f0 f1 f2 f3 f4 f5 f6 f7 f8 f9 f10 f11 f12 f13 hl3 K3 R4 B4 RH X3
      go_wp2_with fail
      refine (joined_r _ _ (headB r) (tailB r) _ RH4.out RT4.out (by omega) (by omega)).mono ?_
      rintro e w5 ⟨u5, rfl, R5, B5⟩
      have HF : Hid (Row w5 w.heap.size w5.heap.size u5 (rbB r) ∧ Below w.heap.size w w5) := ⟨by rw [HE.out.1]; exact R5.wide (by omega) (Nat.le_refl _), Below.step X4.out B5⟩
      clear R5 B5 RH4 RT4 X4
      go_wp2
      exact bodyPost_ret (v := .tuple #[u5, .bool true]) (by simp [results, Tryz.results7, go_sem]) rfl ⟨u5, by rw [HE.out.2], HF.out⟩
    have hk0' : (r.kind == 0) = false := by simp [hk0]
    by_cases hk3 : r.kind = 3
    · have HTL : Hid (tailB r = outB r.acc) := by simp [Hid, tailB, hk3]
      have hk3' : (r.kind == 3) = true := by simp [hk3]
      go_wp2_with fail
      refine (implAccountBytes_r _ r.acc _ (H0.out _ X3.out).parts.2.1 hz).mono ?_
      rintro e w4 ⟨u4, rfl, R4, B4⟩
      have X4 : Hid (Below w.heap.size w w4) := Below.step X3.out B4
      have RH4 : Hid (Bs w4 u3 (headB r)) := (RH.out.below B4).bs
      have RT4 : Hid (Bs w4 u4 (tailB r)) := by rw [HTL.out]; exact R4.bs
      have hs4 := X4.out.size
      clear f0 f1 f2 f3 f4 f5 f6 f7 f8 f9 f10 f11 f12 f13 hl3 K3 R4 B4 RH X3
      go_wp2_with fail
      refine (joined_r _ _ (headB r) (tailB r) _ RH4.out RT4.out (by omega) (by omega)).mono ?_
      rintro e w5 ⟨u5, rfl, R5, B5⟩
      have HF : Hid (Row w5 w.heap.size w5.heap.size u5 (rbB r) ∧ Below w.heap.size w w5) := ⟨by rw [HE.out.1]; exact R5.wide (by omega) (Nat.le_refl _), Below.step X4.out B5⟩
      clear R5 B5 RH4 RT4 X4
      go_wp2
      exact bodyPost_ret (v := .tuple #[u5, .bool true]) (by simp [results, Tryz.results7, go_sem]) rfl ⟨u5, by rw [HE.out.2], HF.out⟩
    have hk3' : (r.kind == 3) = false := by simp [hk3]
    have HTL : Hid (tailB r = []) := by simp [Hid, tailB, hk0, hk3]
    have X4 : Hid (Below w.heap.size w w3) := X3
    have RH4 : Hid (Bs w3 u3 (headB r)) := RH.out.bs
    have RT4 : Hid (Bs w3 (.slice none 0 0) (tailB r)) := by rw [HTL.out]; exact bs_nil _
    have hs4 := X4.out.size
    clear RH X3
    go_wp2_with fail
    refine (joined_r _ _ (headB r) (tailB r) _ RH4.out RT4.out (by omega) (by omega)).mono ?_
    rintro e w5 ⟨u5, rfl, R5, B5⟩
    have HF : Hid (Row w5 w.heap.size w5.heap.size u5 (rbB r) ∧ Below w.heap.size w w5) := ⟨by rw [HE.out.1]; exact R5.wide (by omega) (Nat.le_refl _), Below.step X4.out B5⟩
    clear R5 B5 RH4 RT4 X4
    go_wp2
    exact bodyPost_ret (v := .tuple #[u5, .bool true]) (by simp [results, Tryz.results7, go_sem]) rfl ⟨u5, by rw [HE.out.2], HF.out⟩
end Go.Proofs.YtifpjdpcmfneaaaGreatDoor

/- The law FnExactRecordBytes, walked out of the contracts. -/
namespace Go.Proofs.YtifpjdpcmfneaaaGreatDoor
open Go.RowKit
set_option maxRecDepth 100000

theorem markByteS_w (B T : Nat) (v : Value) (l : List Int) (k : Int) (w : World) (hv : Row w B T v l) (hl : l.length ≤ 2000000) (hk0 : 0 ≤ k) (hk1 : k ≤ 1000000000000) :
    Calls Tryz.prog 11 #[v, .int .i64 k] w fun e w' => e = .returned (.int .i64 (k + l.length)) ∧ Row w' B T v (marks k l.length) ∧ Within B T w w' :=
  (markByteS_r B T v l k w hv hl hk0 hk1).mono fun _ _ ⟨h1, h2, h3⟩ => ⟨h1, h2, hv.within h3⟩

set_option maxRecDepth 100000 in
set_option maxHeartbeats 4000000 in
theorem exactRecordBytes_walk (v : Value) (r : RecD) (w : World) (hv : RecV w v r) (ht : Tab10 w) :
    Calls Tryz.prog 3 #[v] w fun e w' => e = .returned (.bool true) ∧ Below w.heap.size w w' := by
  have HV : Hid (∀ wi, Below w.heap.size w wi → RecV wi v r) := fun wi h => hv.below h
  have HT : Hid (∀ wi, Below w.heap.size w wi → Tab10 wi) := fun wi h => tab_keeps ht h
  obtain ⟨a0, n0, c0, a1, n1, c1, a2, n2, c2, a3, c3, a4, c4, rfl⟩ := hv.form
  clear hv ht
  have hP := rbB_len r
  generalize hPe : rbB r = P at hP
  generalize hOe : recB r = ok
  have HPE : Hid (rbB r = P ∧ recB r = ok) := ⟨hPe, hOe⟩
  clear hPe hOe
  go_enter Tryz.func3, Tryz.ntmps3
  have ab : ∀ o, Below w.heap.size w (w.alloc o) := fun o => (Below.refl _ _).alloc (Nat.le_refl _) o
  go_wp2_with fail
  refine (szRecord_any _ r 1048576 _ (HV.out _ (ab _)) (by omega) (by omega)).mono ?_
  rintro e w1 ⟨y, rfl, hx, B⟩
  have kA := box_below B (box_new w (.cells #[.int .i64 r.kind, .int .i64 r.user, .int .i64 r.n, .int .i64 r.cmd.k, .slice a0 n0 c0, .slice a1 n1 c1, .int .i64 r.cmd.uid, .int .i64 r.cmd.mode, .int .i64 r.cmd.fl, .int .i64 r.cmd.si, .slice a2 n2 c2, .int .i64 r.acc.valid, .slice a3 r.acc.boxes.length c3, .slice a4 r.acc.seen.length c4] 30))
  have X := Below.step (Below.step (Below.refl _ _) (ab _)) B
  have s1 : w.heap.size + 1 ≤ w1.heap.size := by have := B.size; simp at this; omega
  clear B ab
  rcases hx with rfl | ⟨hx0, hx1⟩
  · clear kA
    go_wp2
    go_ret
    exact ⟨rfl, X⟩
  have z0 : r.cmd.bx.length ≤ 1048576 := by omega
  have z1 : r.cmd.tt.length ≤ 1048576 := by omega
  have z2 : r.cmd.tx.length ≤ 1048576 := by omega
  have z3 : szXs r.acc.boxes ≤ 1048576 := by omega
  have z4 : r.acc.seen.length ≤ 1048576 := by omega
  clear hx1
  obtain ⟨fA0, fA1, fA2, fA3, fA4, fA5, fA6, fA7, fA8, fA9, fA10, fA11, fA12, fA13, lA⟩ := box14l kA
  go_wp2_with fail
  refine (toRecord_r _ r _ (HV.out _ X) (by omega) (by omega) (by omega) (by omega) (by omega)).mono ?_
  rintro e w2 ⟨u1, rfl, R1, B⟩
  clear fA0 fA1 fA2 fA3 fA4 fA5 fA6 fA7 fA8 fA9 fA10 fA11 fA12 fA13 lA
  replace kA := box_below B kA
  replace X := Below.step X B
  have s2 : w1.heap.size ≤ w2.heap.size := B.size
  clear B
  obtain ⟨fA0, fA1, fA2, fA3, fA4, fA5, fA6, fA7, fA8, fA9, fA10, fA11, fA12, fA13, lA⟩ := box14l kA
  go_wp2_with fail
  refine (specRecordBytes_r _ r _ R1.v (by omega)).mono ?_
  rintro e w3 ⟨u2, rfl, R2, B⟩
  rw [HPE.out.1] at R2
  rw [HPE.out.2]
  clear fA0 fA1 fA2 fA3 fA4 fA5 fA6 fA7 fA8 fA9 fA10 fA11 fA12 fA13 lA
  replace R1 := R1.below B
  replace kA := box_below B kA
  replace X := Below.step X B
  have s3 : w2.heap.size ≤ w3.heap.size := B.size
  clear B
  clear R1
  obtain ⟨fA0, fA1, fA2, fA3, fA4, fA5, fA6, fA7, fA8, fA9, fA10, fA11, fA12, fA13, lA⟩ := box14l kA
  go_wp2_with fail
  refine (toRecord_r _ r _ (HV.out _ X) (by omega) (by omega) (by omega) (by omega) (by omega)).mono ?_
  rintro e w4 ⟨u3, rfl, R3, B⟩
  clear fA0 fA1 fA2 fA3 fA4 fA5 fA6 fA7 fA8 fA9 fA10 fA11 fA12 fA13 lA
  replace R2 := R2.below B
  replace kA := box_below B kA
  replace X := Below.step X B
  have s4 : w3.heap.size ≤ w4.heap.size := B.size
  clear B
  obtain ⟨b0, m0, d0, b1, m1, d1, b2, m2, d2, b3, d3, b4, d4, rfl⟩ := R3.v.form
  have ab : ∀ o, Below w4.heap.size w4 (w4.alloc o) := fun o => (Below.refl _ _).alloc (Nat.le_refl _) o
  obtain ⟨fA0, fA1, fA2, fA3, fA4, fA5, fA6, fA7, fA8, fA9, fA10, fA11, fA12, fA13, lA⟩ := box14l kA
  go_wp2_with fail
  refine (implRecordBytes_r _ r _ (R3.below (ab _)).v (by omega) (HT.out _ (Below.step X (ab _)))).mono ?_
  rintro e w5 ⟨u4, rfl, R4, B⟩
  rw [HPE.out.1] at R4
  rw [HPE.out.2]
  clear fA0 fA1 fA2 fA3 fA4 fA5 fA6 fA7 fA8 fA9 fA10 fA11 fA12 fA13 lA
  replace R2 := (R2.below (ab _)).below B
  replace R3 := (R3.below (ab _)).below B
  replace kA := box_below B (box_alloc kA _)
  have kx := box_below B (box_new w4 (.cells #[.int .i64 r.kind, .int .i64 r.user, .int .i64 r.n, .int .i64 r.cmd.k, .slice b0 m0 d0, .slice b1 m1 d1, .int .i64 r.cmd.uid, .int .i64 r.cmd.mode, .int .i64 r.cmd.fl, .int .i64 r.cmd.si, .slice b2 m2 d2, .int .i64 r.acc.valid, .slice b3 r.acc.boxes.length d3, .slice b4 r.acc.seen.length d4] 39))
  replace X := Below.step (Below.step X (ab _)) B
  have s5 : w4.heap.size + 1 ≤ w5.heap.size := by have := B.size; simp at this; omega
  replace R4 := R4.wide (B' := w4.heap.size + 1) (by simp) (Nat.le_refl _)
  clear B ab
  obtain ⟨fA0, fA1, fA2, fA3, fA4, fA5, fA6, fA7, fA8, fA9, fA10, fA11, fA12, fA13, lA⟩ := box14l kA
  obtain ⟨fx0, fx1, fx2, fx3, fx4, fx5, fx6, fx7, fx8, fx9, fx10, fx11, fx12, fx13, lx⟩ := box14l kx
  go_wp2_with fail
  refine (eqByteS_yes _ _ P _ R4.bs R2.bs).mono ?_
  rintro e w6 ⟨rfl, B⟩
  clear fA0 fA1 fA2 fA3 fA4 fA5 fA6 fA7 fA8 fA9 fA10 fA11 fA12 fA13 lA fx0 fx1 fx2 fx3 fx4 fx5 fx6 fx7 fx8 fx9 fx10 fx11 fx12 fx13 lx
  replace R2 := R2.below B
  replace R3 := R3.below B
  replace R4 := R4.below B
  replace kA := box_below B kA
  replace kx := box_below B kx
  replace X := Below.step X B
  have s6 : w5.heap.size ≤ w6.heap.size := B.size
  clear B
  have HS : Hid (∀ w', Below w6.heap.size w6 w' → w'.cell? ⟨w4.heap.size, 0, none⟩ = some (.int .i64 r.kind) ∧ w'.cell? ⟨w4.heap.size, 1, none⟩ = some (.int .i64 r.user) ∧ w'.cell? ⟨w4.heap.size, 2, none⟩ = some (.int .i64 r.n) ∧ w'.cell? ⟨w4.heap.size, 3, none⟩ = some (.int .i64 r.cmd.k) ∧ w'.cell? ⟨w4.heap.size, 4, none⟩ = some (.slice b0 m0 d0) ∧ w'.cell? ⟨w4.heap.size, 5, none⟩ = some (.slice b1 m1 d1) ∧ w'.cell? ⟨w4.heap.size, 6, none⟩ = some (.int .i64 r.cmd.uid) ∧ w'.cell? ⟨w4.heap.size, 7, none⟩ = some (.int .i64 r.cmd.mode) ∧ w'.cell? ⟨w4.heap.size, 8, none⟩ = some (.int .i64 r.cmd.fl) ∧ w'.cell? ⟨w4.heap.size, 9, none⟩ = some (.int .i64 r.cmd.si) ∧ w'.cell? ⟨w4.heap.size, 10, none⟩ = some (.slice b2 m2 d2) ∧ w'.cell? ⟨w4.heap.size, 11, none⟩ = some (.int .i64 r.acc.valid) ∧ w'.cell? ⟨w4.heap.size, 12, none⟩ = some (.slice b3 r.acc.boxes.length d3) ∧ w'.cell? ⟨w4.heap.size, 13, none⟩ = some (.slice b4 r.acc.seen.length d4) ∧ w'.cell? ⟨w.heap.size, 0, none⟩ = some (.int .i64 r.kind) ∧ w'.cell? ⟨w.heap.size, 1, none⟩ = some (.int .i64 r.user) ∧ w'.cell? ⟨w.heap.size, 2, none⟩ = some (.int .i64 r.n) ∧ w'.cell? ⟨w.heap.size, 3, none⟩ = some (.int .i64 r.cmd.k) ∧ w'.cell? ⟨w.heap.size, 4, none⟩ = some (.slice a0 n0 c0) ∧ w'.cell? ⟨w.heap.size, 5, none⟩ = some (.slice a1 n1 c1) ∧ w'.cell? ⟨w.heap.size, 6, none⟩ = some (.int .i64 r.cmd.uid) ∧ w'.cell? ⟨w.heap.size, 7, none⟩ = some (.int .i64 r.cmd.mode) ∧ w'.cell? ⟨w.heap.size, 8, none⟩ = some (.int .i64 r.cmd.fl) ∧ w'.cell? ⟨w.heap.size, 9, none⟩ = some (.int .i64 r.cmd.si) ∧ w'.cell? ⟨w.heap.size, 10, none⟩ = some (.slice a2 n2 c2) ∧ w'.cell? ⟨w.heap.size, 11, none⟩ = some (.int .i64 r.acc.valid) ∧ w'.cell? ⟨w.heap.size, 12, none⟩ = some (.slice a3 r.acc.boxes.length c3) ∧ w'.cell? ⟨w.heap.size, 13, none⟩ = some (.slice a4 r.acc.seen.length c4)) := fun w' h => ⟨(box14l (box_below h kx)).1, (box14l (box_below h kx)).2.1, (box14l (box_below h kx)).2.2.1, (box14l (box_below h kx)).2.2.2.1, (box14l (box_below h kx)).2.2.2.2.1, (box14l (box_below h kx)).2.2.2.2.2.1, (box14l (box_below h kx)).2.2.2.2.2.2.1, (box14l (box_below h kx)).2.2.2.2.2.2.2.1, (box14l (box_below h kx)).2.2.2.2.2.2.2.2.1, (box14l (box_below h kx)).2.2.2.2.2.2.2.2.2.1, (box14l (box_below h kx)).2.2.2.2.2.2.2.2.2.2.1, (box14l (box_below h kx)).2.2.2.2.2.2.2.2.2.2.2.1, (box14l (box_below h kx)).2.2.2.2.2.2.2.2.2.2.2.2.1, (box14l (box_below h kx)).2.2.2.2.2.2.2.2.2.2.2.2.2.1, (box14l (box_below h kA)).1, (box14l (box_below h kA)).2.1, (box14l (box_below h kA)).2.2.1, (box14l (box_below h kA)).2.2.2.1, (box14l (box_below h kA)).2.2.2.2.1, (box14l (box_below h kA)).2.2.2.2.2.1, (box14l (box_below h kA)).2.2.2.2.2.2.1, (box14l (box_below h kA)).2.2.2.2.2.2.2.1, (box14l (box_below h kA)).2.2.2.2.2.2.2.2.1, (box14l (box_below h kA)).2.2.2.2.2.2.2.2.2.1, (box14l (box_below h kA)).2.2.2.2.2.2.2.2.2.2.1, (box14l (box_below h kA)).2.2.2.2.2.2.2.2.2.2.2.1, (box14l (box_below h kA)).2.2.2.2.2.2.2.2.2.2.2.2.1, (box14l (box_below h kA)).2.2.2.2.2.2.2.2.2.2.2.2.2.1⟩
  have DR : Below w6.heap.size w6 w6.drew := (Below.refl _ _).drew
  obtain ⟨fA0, fA1, fA2, fA3, fA4, fA5, fA6, fA7, fA8, fA9, fA10, fA11, fA12, fA13, lA⟩ := box14l kA
  obtain ⟨fx0, fx1, fx2, fx3, fx4, fx5, fx6, fx7, fx8, fx9, fx10, fx11, fx12, fx13, lx⟩ := box14l kx
  go_wp2
  go_region_held3 (fun w' => w'.cell? ⟨w4.heap.size, 0, none⟩ = some (.int .i64 r.kind) ∧ w'.cell? ⟨w4.heap.size, 1, none⟩ = some (.int .i64 r.user) ∧ w'.cell? ⟨w4.heap.size, 2, none⟩ = some (.int .i64 r.n) ∧ w'.cell? ⟨w4.heap.size, 3, none⟩ = some (.int .i64 r.cmd.k) ∧ w'.cell? ⟨w4.heap.size, 4, none⟩ = some (.slice b0 m0 d0) ∧ w'.cell? ⟨w4.heap.size, 5, none⟩ = some (.slice b1 m1 d1) ∧ w'.cell? ⟨w4.heap.size, 6, none⟩ = some (.int .i64 r.cmd.uid) ∧ w'.cell? ⟨w4.heap.size, 7, none⟩ = some (.int .i64 r.cmd.mode) ∧ w'.cell? ⟨w4.heap.size, 8, none⟩ = some (.int .i64 r.cmd.fl) ∧ w'.cell? ⟨w4.heap.size, 9, none⟩ = some (.int .i64 r.cmd.si) ∧ w'.cell? ⟨w4.heap.size, 10, none⟩ = some (.slice b2 m2 d2) ∧ w'.cell? ⟨w4.heap.size, 11, none⟩ = some (.int .i64 r.acc.valid) ∧ w'.cell? ⟨w4.heap.size, 12, none⟩ = some (.slice b3 r.acc.boxes.length d3) ∧ w'.cell? ⟨w4.heap.size, 13, none⟩ = some (.slice b4 r.acc.seen.length d4) ∧ w'.cell? ⟨w.heap.size, 0, none⟩ = some (.int .i64 r.kind) ∧ w'.cell? ⟨w.heap.size, 1, none⟩ = some (.int .i64 r.user) ∧ w'.cell? ⟨w.heap.size, 2, none⟩ = some (.int .i64 r.n) ∧ w'.cell? ⟨w.heap.size, 3, none⟩ = some (.int .i64 r.cmd.k) ∧ w'.cell? ⟨w.heap.size, 4, none⟩ = some (.slice a0 n0 c0) ∧ w'.cell? ⟨w.heap.size, 5, none⟩ = some (.slice a1 n1 c1) ∧ w'.cell? ⟨w.heap.size, 6, none⟩ = some (.int .i64 r.cmd.uid) ∧ w'.cell? ⟨w.heap.size, 7, none⟩ = some (.int .i64 r.cmd.mode) ∧ w'.cell? ⟨w.heap.size, 8, none⟩ = some (.int .i64 r.cmd.fl) ∧ w'.cell? ⟨w.heap.size, 9, none⟩ = some (.int .i64 r.cmd.si) ∧ w'.cell? ⟨w.heap.size, 10, none⟩ = some (.slice a2 n2 c2) ∧ w'.cell? ⟨w.heap.size, 11, none⟩ = some (.int .i64 r.acc.valid) ∧ w'.cell? ⟨w.heap.size, 12, none⟩ = some (.slice a3 r.acc.boxes.length c3) ∧ w'.cell? ⟨w.heap.size, 13, none⟩ = some (.slice a4 r.acc.seen.length c4))
    (first | go_keep | exact HS.out _ (Below.step (Below.step DR B) B') | exact HS.out _ (Below.step DR B))
    ((first | (go_at_call 6; refine (toRecord_r _ r _ (HV.out _ (Below.step X DR)) (by omega) (by omega) (by omega) (by omega) (by omega)).mono ?_; rintro e w7 ⟨u5, rfl, R5, B⟩) | (go_at_call 9; refine (eqRecord_yes _ _ r _ ((R3.below DR).below B).v R5.v).mono ?_; rintro e w8 ⟨rfl, B'⟩)))
  clear fA0 fA1 fA2 fA3 fA4 fA5 fA6 fA7 fA8 fA9 fA10 fA11 fA12 fA13 lA fx0 fx1 fx2 fx3 fx4 fx5 fx6 fx7 fx8 fx9 fx10 fx11 fx12 fx13 lx
  replace R2 := ((R2.below DR).below B).below B'
  replace R3 := ((R3.below DR).below B).below B'
  replace R4 := ((R4.below DR).below B).below B'
  replace kA := box_below B' (box_below B (box_below DR kA))
  replace kx := box_below B' (box_below B (box_below DR kx))
  replace X := Below.step (Below.step (Below.step X DR) B) B'
  have s8 : w6.heap.size ≤ w8.heap.size := Nat.le_trans B.size B'.size
  clear HS DR B B' R5
  obtain ⟨fA0, fA1, fA2, fA3, fA4, fA5, fA6, fA7, fA8, fA9, fA10, fA11, fA12, fA13, lA⟩ := box14l kA
  obtain ⟨fx0, fx1, fx2, fx3, fx4, fx5, fx6, fx7, fx8, fx9, fx10, fx11, fx12, fx13, lx⟩ := box14l kx
  go_wp2_with fail
  refine (markRecord_w _ _ _ r 1 _ R3 (by omega) (by omega) (by omega) (by omega) (by omega) (by omega) (by omega) (by omega)).mono ?_
  rintro e w9 ⟨rfl, R3', G⟩
  clear fA0 fA1 fA2 fA3 fA4 fA5 fA6 fA7 fA8 fA9 fA10 fA11 fA12 fA13 lA fx0 fx1 fx2 fx3 fx4 fx5 fx6 fx7 fx8 fx9 fx10 fx11 fx12 fx13 lx
  replace R2 := R2.keptW G (by omega)
  replace R4 := R4.keptW G (by omega)
  replace kA := box_within G kA (by omega)
  replace kx := box_within G kx (by omega)
  replace X := G.below X (by omega)
  have s9 := G.size
  clear G R3
  clear R3'
  clear kx
  obtain ⟨fA0, fA1, fA2, fA3, fA4, fA5, fA6, fA7, fA8, fA9, fA10, fA11, fA12, fA13, lA⟩ := box14l kA
  go_wp2_with fail
  refine (eqByteS_yes _ _ P _ R4.bs R2.bs).mono ?_
  rintro e w10 ⟨rfl, B⟩
  clear fA0 fA1 fA2 fA3 fA4 fA5 fA6 fA7 fA8 fA9 fA10 fA11 fA12 fA13 lA
  replace R2 := R2.below B
  replace R4 := R4.below B
  replace kA := box_below B kA
  replace X := Below.step X B
  have s10 : w9.heap.size ≤ w10.heap.size := B.size
  clear B
  obtain ⟨fA0, fA1, fA2, fA3, fA4, fA5, fA6, fA7, fA8, fA9, fA10, fA11, fA12, fA13, lA⟩ := box14l kA
  go_wp2_with fail
  refine (markByteS_w _ _ _ P 1 _ R4 (by omega) (by omega) (by omega)).mono ?_
  rintro e w11 ⟨rfl, R4', G⟩
  clear fA0 fA1 fA2 fA3 fA4 fA5 fA6 fA7 fA8 fA9 fA10 fA11 fA12 fA13 lA
  replace R2 := R2.keptW G (by omega)
  replace kA := box_within G kA (by omega)
  replace X := G.below X (by omega)
  have s11 := G.size
  clear G R4
  obtain ⟨fA0, fA1, fA2, fA3, fA4, fA5, fA6, fA7, fA8, fA9, fA10, fA11, fA12, fA13, lA⟩ := box14l kA
  go_wp2_with fail
  refine (heldByteS_yes _ P.length 1 _ R4'.bs (by omega) (by omega) (by omega)).mono ?_
  rintro e w12 ⟨rfl, B⟩
  clear fA0 fA1 fA2 fA3 fA4 fA5 fA6 fA7 fA8 fA9 fA10 fA11 fA12 fA13 lA
  replace R2 := R2.below B
  replace R4' := R4'.below B
  replace kA := box_below B kA
  replace X := Below.step X B
  have s12 : w11.heap.size ≤ w12.heap.size := B.size
  clear B
  obtain ⟨fA0, fA1, fA2, fA3, fA4, fA5, fA6, fA7, fA8, fA9, fA10, fA11, fA12, fA13, lA⟩ := box14l kA
  go_wp2_with fail
  refine (toRecord_r _ r _ (HV.out _ X) (by omega) (by omega) (by omega) (by omega) (by omega)).mono ?_
  rintro e w13 ⟨u6, rfl, R6, B⟩
  clear fA0 fA1 fA2 fA3 fA4 fA5 fA6 fA7 fA8 fA9 fA10 fA11 fA12 fA13 lA
  replace R2 := R2.below B
  replace R4' := R4'.below B
  replace kA := box_below B kA
  replace X := Below.step X B
  have s13 : w12.heap.size ≤ w13.heap.size := B.size
  clear B
  obtain ⟨fA0, fA1, fA2, fA3, fA4, fA5, fA6, fA7, fA8, fA9, fA10, fA11, fA12, fA13, lA⟩ := box14l kA
  go_wp2_with fail
  refine (implRecordBytes_r _ r _ R6.v (by omega) (HT.out _ X)).mono ?_
  rintro e w14 ⟨u7, rfl, R7, B⟩
  rw [HPE.out.1] at R7
  rw [HPE.out.2]
  clear fA0 fA1 fA2 fA3 fA4 fA5 fA6 fA7 fA8 fA9 fA10 fA11 fA12 fA13 lA
  replace R2 := R2.below B
  replace R4' := R4'.below B
  replace R6 := R6.below B
  replace kA := box_below B kA
  replace X := Below.step X B
  have s14 : w13.heap.size ≤ w14.heap.size := B.size
  clear B
  clear R6
  obtain ⟨fA0, fA1, fA2, fA3, fA4, fA5, fA6, fA7, fA8, fA9, fA10, fA11, fA12, fA13, lA⟩ := box14l kA
  go_wp2_with fail
  refine (eqByteS_yes _ _ P _ R7.bs R2.bs).mono ?_
  rintro e w15 ⟨rfl, B⟩
  clear fA0 fA1 fA2 fA3 fA4 fA5 fA6 fA7 fA8 fA9 fA10 fA11 fA12 fA13 lA
  replace R2 := R2.below B
  replace R4' := R4'.below B
  replace R7 := R7.below B
  replace kA := box_below B kA
  replace X := Below.step X B
  have s15 : w14.heap.size ≤ w15.heap.size := B.size
  clear B
  clear R7 R2
  obtain ⟨fA0, fA1, fA2, fA3, fA4, fA5, fA6, fA7, fA8, fA9, fA10, fA11, fA12, fA13, lA⟩ := box14l kA
  go_wp2_with fail
  refine (heldByteS_yes _ P.length 1 _ R4'.bs (by omega) (by omega) (by omega)).mono ?_
  rintro e w16 ⟨rfl, B⟩
  clear fA0 fA1 fA2 fA3 fA4 fA5 fA6 fA7 fA8 fA9 fA10 fA11 fA12 fA13 lA
  replace R4' := R4'.below B
  replace kA := box_below B kA
  replace X := Below.step X B
  have s16 : w15.heap.size ≤ w16.heap.size := B.size
  clear B
  clear R4' kA
  go_wp2
  go_ret
  exact ⟨rfl, X⟩

end Go.Proofs.YtifpjdpcmfneaaaGreatDoor

/- From what a row reads of an argument to what the walks ask: a slice of bytes that came in. -/
namespace Go.Proofs.YtifpjdpcmfneaaaGreatDoor
open Go.ChangeShapes Go.WideShapes Go.ChangeAt Go.RowKit

theorem ownKnob_none : ownKnob Tryz.prog.godebug = none := by kernel_rfl
theorem laidOut : laidOutB Tryz.prog = true := by kernel_rfl

theorem wf_byte {n : Int} (h : (Lit.int .u8 n).wf = true) : 0 ≤ n ∧ n ≤ 255 := bounds_u8 h
theorem wf_int {n : Int} (h : (Lit.int .i64 n).wf = true) : -9223372036854775808 ≤ n ∧ n ≤ 9223372036854775807 := bounds_i64 h

/-- A slice of bytes that came in, as the walks want it. -/
theorem open_bytes {H : Type} {enc : TypeId × Value → H} {W : World} {base : Nat} {a : Option Addr} {len cap : Nat} {d : DataW H} {p : List MemPlace}
    (h : DataW.Trod enc Tryz.prog W base (fun _ => true) true 22 (.slice a len cap) d p) : ∃ l, Bs W (.slice a len cap) l := by
  obtain ⟨fuel, hf⟩ := h
  rcases open_ints Tryz.underlying22 Tryz.underlying5 (by kernel_rfl) hf with ⟨hcs, _⟩ | ⟨x, l, c, zs, hcs, _, hl, hm, hz, _, hcell, hwz⟩
  · simp [Value.cells] at hcs
    obtain ⟨rfl, rfl, rfl⟩ := hcs
    exact ⟨[], oct_nil, none, 0, rfl, by simp, by simp, fun _ => rfl, fun h => absurd h (by simp)⟩
  · simp [Value.cells] at hcs
    obtain ⟨rfl, rfl, rfl⟩ := hcs
    simp at hz
    have ht : (zs.take len).length = len := by simp; omega
    refine ⟨zs.take len, fun x hx => wf_byte (hwz x (List.mem_of_mem_take hx)), some x, cap, by rw [ht], by omega, hm, (fun h => by cases h), fun hp => ?_⟩
    rw [ht] at hp
    obtain ⟨b, off, spot⟩ := x
    have h0 := hcell 0 (by omega)
    have hspot : spot = none := by simpa [Addr.add] using World.cell?_spot h0
    subst hspot
    refine ⟨b, off, rfl, ?_, fun i hi => ?_⟩
    · have := World.block_lt_of_cell? W _ h0
      simpa [Addr.add] using this
    · rw [ht] at hi
      have := hcell i (by omega)
      rw [Addr.add_lit] at this
      rw [this]
      simp [hi]

end Go.Proofs.YtifpjdpcmfneaaaGreatDoor

/- A struct's fields laid open. -/
namespace Go.Proofs.YtifpjdpcmfneaaaGreatDoor
open Go.ChangeShapes Go.WideShapes Go.ChangeAt Go.RowKit

/-- One field of a struct that is read; it takes one cell. -/
theorem open_field {H : Type} {enc : TypeId × Value → H} {P : Program} {W : World} {base fuel : Nat} {spare : Nat → Bool} {held : Bool} {t : TypeId} {fs : Array Field} {cs : List Value} {x : DataW H × List MemPlace}
    (ht : P.underlying t = some (.struct fs)) (h : DataW.trod enc P W base spare held fuel t cs = some x) (i : Nat) (ty : TypeId) (off : Nat) (c : Value) (hf : fs[i]?.map (fun f => (f.type, f.offset)) = some (ty, off)) (h1 : P.cellsOf ty = 1) (hc : (cs.drop off).take 1 = [c]) :
    ∃ n y, DataW.trod enc P W base spare held n ty [c] = some y := by
  obtain ⟨f, hf0, hf1⟩ := Option.map_eq_some_iff.1 hf
  simp only [Prod.mk.injEq] at hf1
  obtain ⟨rfl, rfl⟩ := hf1
  obtain ⟨xs, n, _, rfl, hl, hlen, hf'⟩ := DataW.trod_struct ht h
  have := hf' i f (by simpa using hf0)
  rw [h1, hc] at this
  have hi : i < xs.length := by rw [hlen]; exact (Array.getElem?_eq_some_iff.1 hf0).1
  exact ⟨n, xs[i], by rw [this, List.getElem?_eq_getElem hi]⟩

/-- One cell that is read as a slice of bytes. -/
theorem open_cellB {H : Type} {enc : TypeId × Value → H} {W : World} {base fuel : Nat} {c : Value} {y : DataW H × List MemPlace}
    (h : DataW.trod enc Tryz.prog W base (fun _ => true) true fuel 22 [c] = some y) : ∃ l, Bs W c l := by
  have h' := h
  rcases open_ints Tryz.underlying22 Tryz.underlying5 (by kernel_rfl) h with ⟨hcs, _⟩ | ⟨x, l, c', zs, hcs, _⟩
  · obtain rfl : c = .slice none 0 0 := by simpa using hcs
    exact open_bytes (d := y.1) (p := y.2) ⟨fuel, by simpa [Value.cells] using h'⟩
  · obtain rfl : c = .slice (some x) l c' := by simpa using hcs
    exact open_bytes (d := y.1) (p := y.2) ⟨fuel, by simpa [Value.cells] using h'⟩
/-- One cell that is read as a number. -/
theorem open_cellI {H : Type} {enc : TypeId × Value → H} {W : World} {base fuel : Nat} {c : Value} {y : DataW H × List MemPlace}
    (h : DataW.trod enc Tryz.prog W base (fun _ => true) true fuel 3 [c] = some y) : ∃ n, c = .int .i64 n ∧ I64 n := by
  obtain ⟨n, hc, -, hw⟩ := DataW.trod_int Tryz.underlying3 h
  exact ⟨n, by simpa using hc, wf_int hw⟩

theorem cellsB : Tryz.prog.cellsOf 22 = 1 := by kernel_rfl
theorem cellsI : Tryz.prog.cellsOf 3 = 1 := by kernel_rfl

end Go.Proofs.YtifpjdpcmfneaaaGreatDoor

/- From what a row reads of an argument to what the walks ask: boxes and accounts that came in. -/
namespace Go.Proofs.YtifpjdpcmfneaaaGreatDoor
open Go.ChangeShapes Go.WideShapes Go.ChangeAt Go.RowKit Go.Deep

theorem list_of {α : Type} {p : Nat → α → Prop} : ∀ (n : Nat), (∀ i, i < n → ∃ x, p i x) → ∃ l : List α, l.length = n ∧ ∀ i x, l[i]? = some x → p i x
  | 0, _ => ⟨[], rfl, by simp⟩
  | n + 1, h => by
    obtain ⟨l, hl, hp⟩ := list_of n (fun i hi => h i (by omega))
    obtain ⟨x, hx⟩ := h n (by omega)
    refine ⟨l ++ [x], by simp [hl], fun i y hy => ?_⟩
    by_cases hi : i < n
    · rw [List.getElem?_append_left (by omega)] at hy
      exact hp i y hy
    · have hlt : i < (l ++ [x]).length := (List.getElem?_eq_some_iff.1 hy).1
      simp at hlt
      obtain rfl : i = n := by omega
      rw [List.getElem?_append_right (by omega)] at hy
      simp [hl] at hy
      subst hy
      exact hx

/-- One cell that is read as a slice of structs. -/
theorem open_rd {α : Type} {E : World → List Value → α → Prop} {H : Type} {enc : TypeId × Value → H} {W : World} {base fuel sz : Nat} {t e : TypeId} {c : Value} {y : DataW H × List MemPlace} (h0 : 0 < sz)
    (ht : Tryz.prog.underlying t = some (.slice e)) (hc : Tryz.prog.cellsOf e = sz) (hE : ∀ n cs' y, cs'.length = sz → DataW.trod enc Tryz.prog W base (fun _ => true) true n e cs' = some y → ∃ x, E W cs' x)
    (h : DataW.trod enc Tryz.prog W base (fun _ => true) true fuel t [c] = some y) : ∃ l, Rd sz E W c l := by
  rcases open_slice ht h with ⟨hcs, -⟩ | ⟨a, len, cap, m, n, D, Pl, hcs, hb, hl, hm, hmm, -, hel⟩
  · obtain rfl : c = .slice none 0 0 := by simpa using hcs
    exact ⟨[], Rd.nil W⟩
  · obtain rfl : c = .slice (some a) len cap := by simpa using hcs
    simp only [if_true] at hmm
    subst hmm
    rw [hc] at hel
    have key : ∀ i, i < len → ∃ p : List Value × α, W.cells? base (a.add (i * sz)) sz = some p.1 ∧ p.1.length = sz ∧ E W p.1 p.2 := by
      intro i hi
      obtain ⟨cs', h1, h2⟩ := hel i (by omega)
      have hlen := (World.cells?_some h1).2.1
      obtain ⟨x, hx⟩ := hE n cs' _ hlen h2
      exact ⟨(cs', x), h1, hlen, hx⟩
    obtain ⟨ps, hpl, hps⟩ := list_of len key
    refine ⟨ps.map (·.2), some a, m, fun i => ((ps[i]?.map (·.1)).getD []), by simp [hpl], by simp [hpl]; omega, hm, (fun h => by cases h), fun i x hx => ?_, fun hp => ?_⟩
    · rw [List.getElem?_map, Option.map_eq_some_iff] at hx
      obtain ⟨p, hp, rfl⟩ := hx
      obtain ⟨-, q1, q2⟩ := hps i p hp
      simp only [hp, Option.map_some, Option.getD_some]
      exact ⟨q2, q1⟩
    · simp [hpl] at hp
      obtain ⟨b, off, spot⟩ := a
      obtain ⟨p0, hp0⟩ : ∃ p, ps[0]? = some p := ⟨ps[0]'(by omega), List.getElem?_eq_getElem (by omega)⟩
      obtain ⟨k1, k2, -⟩ := hps 0 p0 hp0
      have cell : ∀ i p, ps[i]? = some p → ∀ j u, p.1[j]? = some u → W.cell? (((⟨b, off, spot⟩ : Addr).add (i * sz)).add j) = some u := by
        intro i p hi j u hu
        obtain ⟨k1, k2, -⟩ := hps i p hi
        have hj : j < sz := by have := (List.getElem?_eq_some_iff.1 hu).1; omega
        rw [(World.cells?_some k1).2.2 j hj, hu]
      have c0 := cell 0 p0 hp0 0 (p0.1[0]'(by omega)) (List.getElem?_eq_getElem (by omega))
      have hspot : spot = none := by simpa [Addr.add] using World.cell?_spot c0
      subst hspot
      refine ⟨b, off, rfl, ?_, fun i j u hi hu => ?_⟩
      · have := World.block_lt_of_cell? W _ c0
        simpa [Addr.add] using this
      · obtain ⟨p, hpi⟩ : ∃ p, ps[i]? = some p := ⟨ps[i]'(by simp at hi; omega), List.getElem?_eq_getElem (by simp at hi; omega)⟩
        simp only [hpi, Option.map_some, Option.getD_some] at hu
        have := cell i p hpi j u hu
        simpa [Addr.add_lit, Nat.add_assoc] using this

/-- One cell that is read as a slice of numbers, of mails, of what went, of boxes. -/
theorem open_ints' {H : Type} {enc : TypeId × Value → H} {W : World} {base fuel : Nat} {c : Value} {y : DataW H × List MemPlace}
    (h : DataW.trod enc Tryz.prog W base (fun _ => true) true fuel 26 [c] = some y) : ∃ l, IntsV W c l := by
  refine open_rd (by omega) Tryz.underlying26 cellsI (fun n cs' y hl ht => ?_) h
  match cs', hl with
  | [c0], _ =>
    obtain ⟨k, rfl, i0⟩ := open_cellI ht
    exact ⟨k, rfl, i0⟩
theorem open_mails {H : Type} {enc : TypeId × Value → H} {W : World} {base fuel : Nat} {c : Value} {y : DataW H × List MemPlace}
    (h : DataW.trod enc Tryz.prog W base (fun _ => true) true fuel 93 [c] = some y) : ∃ l, MailsV W c l := by
  refine open_rd (by omega) Tryz.underlying93 (by kernel_rfl) (fun n cs' y hl hf => ?_) h
  match cs', hl with
  | [c0, c1, c2, c3], _ =>
    have u := Tryz.underlying146
    obtain ⟨_, _, h0⟩ := open_field u hf 0 3 0 c0 rfl cellsI rfl
    obtain ⟨_, _, h1⟩ := open_field u hf 1 3 1 c1 rfl cellsI rfl
    obtain ⟨_, _, h2⟩ := open_field u hf 2 3 2 c2 rfl cellsI rfl
    obtain ⟨_, _, h3⟩ := open_field u hf 3 22 3 c3 rfl cellsB rfl
    obtain ⟨uid, rfl, i0⟩ := open_cellI h0
    obtain ⟨flags, rfl, i1⟩ := open_cellI h1
    obtain ⟨seq, rfl, i2⟩ := open_cellI h2
    obtain ⟨text, b3⟩ := open_cellB h3
    exact ⟨⟨uid, flags, seq, text⟩, c3, rfl, b3, i0, i1, i2⟩
theorem open_gones {H : Type} {enc : TypeId × Value → H} {W : World} {base fuel : Nat} {c : Value} {y : DataW H × List MemPlace}
    (h : DataW.trod enc Tryz.prog W base (fun _ => true) true fuel 94 [c] = some y) : ∃ l, GonesV W c l := by
  refine open_rd (by omega) Tryz.underlying94 (by kernel_rfl) (fun n cs' y hl hf => ?_) h
  match cs', hl with
  | [c0, c1], _ =>
    have u := Tryz.underlying149
    obtain ⟨_, _, h0⟩ := open_field u hf 0 3 0 c0 rfl cellsI rfl
    obtain ⟨_, _, h1⟩ := open_field u hf 1 3 1 c1 rfl cellsI rfl
    obtain ⟨uid, rfl, i0⟩ := open_cellI h0
    obtain ⟨seq, rfl, i1⟩ := open_cellI h1
    exact ⟨⟨uid, seq⟩, rfl, i0, i1⟩
theorem cellsMs : Tryz.prog.cellsOf 93 = 1 := by kernel_rfl
theorem cellsGs : Tryz.prog.cellsOf 94 = 1 := by kernel_rfl
theorem cellsXs : Tryz.prog.cellsOf 25 = 1 := by kernel_rfl
theorem cellsIs : Tryz.prog.cellsOf 26 = 1 := by kernel_rfl
theorem open_boxCells {H : Type} {enc : TypeId × Value → H} {W : World} {base n : Nat} {cs' : List Value} {y : DataW H × List MemPlace} (hl : cs'.length = 7)
    (hf : DataW.trod enc Tryz.prog W base (fun _ => true) true n 96 cs' = some y) : ∃ x, BoxRE W cs' x := by
  match cs', hl with
  | [c0, c1, c2, c3, c4, c5, c6], _ =>
    have u := Tryz.underlying96
    obtain ⟨_, _, h0⟩ := open_field u hf 0 22 0 c0 rfl cellsB rfl
    obtain ⟨_, _, h1⟩ := open_field u hf 1 3 1 c1 rfl cellsI rfl
    obtain ⟨_, _, h2⟩ := open_field u hf 2 3 2 c2 rfl cellsI rfl
    obtain ⟨_, _, h3⟩ := open_field u hf 3 3 3 c3 rfl cellsI rfl
    obtain ⟨_, _, h4⟩ := open_field u hf 4 93 4 c4 rfl cellsMs rfl
    obtain ⟨_, _, h5⟩ := open_field u hf 5 94 5 c5 rfl cellsGs rfl
    obtain ⟨_, _, h6⟩ := open_field u hf 6 3 6 c6 rfl cellsI rfl
    obtain ⟨name, b0⟩ := open_cellB h0
    obtain ⟨valid, rfl, i1⟩ := open_cellI h1
    obtain ⟨next, rfl, i2⟩ := open_cellI h2
    obtain ⟨seq, rfl, i3⟩ := open_cellI h3
    obtain ⟨mails, b4⟩ := open_mails h4
    obtain ⟨gones, b5⟩ := open_gones h5
    obtain ⟨lost, rfl, i6⟩ := open_cellI h6
    exact ⟨⟨name, valid, next, seq, mails, gones, lost⟩, c0, c4, c5, rfl, b0, b4, b5, i1, i2, i3, i6⟩
/-- A box, an account that came in, as the walks want it. -/
theorem open_box {H : Type} {enc : TypeId × Value → H} {W : World} {base : Nat} {cs : Array Value} {d : DataW H} {p : List MemPlace} (hs : cs.size = 7)
    (h : DataW.Trod enc Tryz.prog W base (fun _ => true) true 96 (.agg cs) d p) : ∃ x, BoxV W (.agg cs) x := by
  obtain ⟨fuel, hf⟩ := h
  obtain ⟨cs⟩ := cs
  obtain ⟨x, u0, u1, u2, e, r⟩ := open_boxCells (cs' := cs) (by simpa using hs) hf
  subst e
  exact ⟨x, u0, u1, u2, rfl, r⟩
theorem open_account {H : Type} {enc : TypeId × Value → H} {W : World} {base : Nat} {cs : Array Value} {d : DataW H} {p : List MemPlace} (hs : cs.size = 3)
    (h : DataW.Trod enc Tryz.prog W base (fun _ => true) true 28 (.agg cs) d p) : ∃ x, AccV W (.agg cs) x := by
  obtain ⟨fuel, hf⟩ := h
  obtain ⟨cs⟩ := cs
  match cs, hs with
  | [c0, c1, c2], _ =>
    have u := Tryz.underlying28
    obtain ⟨_, _, h0⟩ := open_field u hf 0 3 0 c0 rfl cellsI rfl
    obtain ⟨_, _, h1⟩ := open_field u hf 1 25 1 c1 rfl cellsXs rfl
    obtain ⟨_, _, h2⟩ := open_field u hf 2 26 2 c2 rfl cellsIs rfl
    obtain ⟨valid, rfl, i0⟩ := open_cellI h0
    obtain ⟨boxes, b1⟩ := open_rd (by omega) Tryz.underlying25 (by kernel_rfl) (fun n cs' y hl hf => open_boxCells hl hf) h1
    obtain ⟨seen, b2⟩ := open_ints' h2
    exact ⟨⟨valid, boxes, seen⟩, c1, c2, rfl, b1, b2, i0⟩

end Go.Proofs.YtifpjdpcmfneaaaGreatDoor

/- From what a row reads of an argument to what the walks ask: a command that came in. -/
namespace Go.Proofs.YtifpjdpcmfneaaaGreatDoor
open Go.ChangeShapes Go.WideShapes Go.ChangeAt Go.RowKit

/-- A command that came in, as the walks want it. -/
theorem open_cmd {H : Type} {enc : TypeId × Value → H} {W : World} {base : Nat} {cs : Array Value} {d : DataW H} {p : List MemPlace} (hs : cs.size = 8)
    (h : DataW.Trod enc Tryz.prog W base (fun _ => true) true 24 (.agg cs) d p) : ∃ k bx tt uid mode fl si tx, CmdV W (.agg cs) k bx tt uid mode fl si tx := by
  obtain ⟨fuel, hf⟩ := h
  obtain ⟨cs⟩ := cs
  match cs, hs with
  | [c0, c1, c2, c3, c4, c5, c6, c7], _ =>
    have u := Tryz.underlying24
    obtain ⟨_, _, h0⟩ := open_field u hf 0 3 0 c0 rfl cellsI rfl
    obtain ⟨_, _, h1⟩ := open_field u hf 1 22 1 c1 rfl cellsB rfl
    obtain ⟨_, _, h2⟩ := open_field u hf 2 22 2 c2 rfl cellsB rfl
    obtain ⟨_, _, h3⟩ := open_field u hf 3 3 3 c3 rfl cellsI rfl
    obtain ⟨_, _, h4⟩ := open_field u hf 4 3 4 c4 rfl cellsI rfl
    obtain ⟨_, _, h5⟩ := open_field u hf 5 3 5 c5 rfl cellsI rfl
    obtain ⟨_, _, h6⟩ := open_field u hf 6 3 6 c6 rfl cellsI rfl
    obtain ⟨_, _, h7⟩ := open_field u hf 7 22 7 c7 rfl cellsB rfl
    obtain ⟨k, rfl, i0⟩ := open_cellI h0
    obtain ⟨bx, b1⟩ := open_cellB h1
    obtain ⟨tt, b2⟩ := open_cellB h2
    obtain ⟨uid, rfl, i3⟩ := open_cellI h3
    obtain ⟨mode, rfl, i4⟩ := open_cellI h4
    obtain ⟨fl, rfl, i5⟩ := open_cellI h5
    obtain ⟨si, rfl, i6⟩ := open_cellI h6
    obtain ⟨tx, b7⟩ := open_cellB h7
    exact ⟨k, bx, tt, uid, mode, fl, si, tx, c1, c2, c7, rfl, b1, b2, b7, i0, i3, i4, i5, i6⟩

end Go.Proofs.YtifpjdpcmfneaaaGreatDoor

/- From what a row reads of an argument to what the walks ask: a record that came in. -/
namespace Go.Proofs.YtifpjdpcmfneaaaGreatDoor
open Go.ChangeShapes Go.WideShapes Go.ChangeAt Go.RowKit

/-- A field of a struct that takes several cells. -/
theorem open_part {H : Type} {enc : TypeId × Value → H} {P : Program} {W : World} {base fuel : Nat} {spare : Nat → Bool} {held : Bool} {t : TypeId} {fs : Array Field} {cs : List Value} {x : DataW H × List MemPlace}
    (ht : P.underlying t = some (.struct fs)) (h : DataW.trod enc P W base spare held fuel t cs = some x) (i : Nat) (ty : TypeId) (off n : Nat) (c : List Value) (hf : fs[i]?.map (fun f => (f.type, f.offset)) = some (ty, off)) (h1 : P.cellsOf ty = n) (hc : (cs.drop off).take n = c) :
    ∃ n y, DataW.trod enc P W base spare held n ty c = some y := by
  obtain ⟨f, hf0, hf1⟩ := Option.map_eq_some_iff.1 hf
  simp only [Prod.mk.injEq] at hf1
  obtain ⟨rfl, rfl⟩ := hf1
  obtain ⟨xs, m, _, rfl, hl, hlen, hf'⟩ := DataW.trod_struct ht h
  have := hf' i f (by simpa using hf0)
  rw [h1, hc] at this
  have hi : i < xs.length := by rw [hlen]; exact (Array.getElem?_eq_some_iff.1 hf0).1
  exact ⟨m, xs[i], by rw [this, List.getElem?_eq_getElem hi]⟩

theorem open_recCells {H : Type} {enc : TypeId × Value → H} {W : World} {base n : Nat} {cs' : List Value} {y : DataW H × List MemPlace} (hl : cs'.length = 14)
    (hf : DataW.trod enc Tryz.prog W base (fun _ => true) true n 30 cs' = some y) : ∃ r, RecV W (.agg cs'.toArray) r := by
  match cs', hl with
  | [p0, p1, p2, p3, p4, p5, p6, p7, p8, p9, p10, p11, p12, p13], _ =>
    have u := Tryz.underlying30
    obtain ⟨_, _, h0⟩ := open_field u hf 0 3 0 p0 rfl cellsI rfl
    obtain ⟨_, _, h1⟩ := open_field u hf 1 3 1 p1 rfl cellsI rfl
    obtain ⟨_, _, h2⟩ := open_field u hf 2 3 2 p2 rfl cellsI rfl
    obtain ⟨_, _, h3⟩ := open_part u hf 3 24 3 8 [p3, p4, p5, p6, p7, p8, p9, p10] rfl (by kernel_rfl) rfl
    obtain ⟨_, _, h4⟩ := open_part u hf 4 28 11 3 [p11, p12, p13] rfl (by kernel_rfl) rfl
    obtain ⟨kind, rfl, i0⟩ := open_cellI h0
    obtain ⟨user, rfl, i1⟩ := open_cellI h1
    obtain ⟨nn, rfl, i2⟩ := open_cellI h2
    obtain ⟨k, bx, tt, uid, mode, fl, si, tx, hc⟩ := open_cmd (cs := #[p3, p4, p5, p6, p7, p8, p9, p10]) (d := _) (p := _) rfl ⟨_, h3⟩
    obtain ⟨a, ha⟩ := open_account (cs := #[p11, p12, p13]) (d := _) (p := _) rfl ⟨_, h4⟩
    have hc' := hc
    have ha' := ha
    obtain ⟨u0, u1, u2, e, -⟩ := hc
    obtain ⟨u3, u4, e', -⟩ := ha
    simp only [Value.agg.injEq, Array.mk.injEq, List.cons.injEq, and_true] at e e'
    obtain ⟨rfl, rfl, rfl, rfl, rfl, rfl, rfl, rfl⟩ := e
    obtain ⟨rfl, rfl, rfl⟩ := e'
    exact ⟨⟨kind, user, nn, ⟨k, bx, tt, uid, mode, fl, si, tx⟩, a⟩, _, _, _, _, _, rfl, hc', ha', i0, i1, i2⟩
theorem open_record {H : Type} {enc : TypeId × Value → H} {W : World} {base : Nat} {cs : Array Value} {d : DataW H} {p : List MemPlace} (hs : cs.size = 14)
    (h : DataW.Trod enc Tryz.prog W base (fun _ => true) true 30 (.agg cs) d p) : ∃ r, RecV W (.agg cs) r := by
  obtain ⟨fuel, hf⟩ := h
  obtain ⟨cs⟩ := cs
  exact open_recCells (cs' := cs) (by simpa using hs) hf

end Go.Proofs.YtifpjdpcmfneaaaGreatDoor

/- What the laid variables give a walk; a world that meets them. -/
namespace Go.Proofs.YtifpjdpcmfneaaaGreatDoor
open Go.ChangeShapes Go.WideShapes Go.ChangeAt Go.RowKit Go.Stop

theorem gN : Tryz.prog.globalNamed "loop.example/g00359/impl.errGaveUp" = some 1 := by kernel_rfl
theorem gNType : (Tryz.prog.globals[1]?).map (·.type) = some 165 := by kernel_rfl
theorem gP : Tryz.prog.globalNamed "internal/strconv.uint64pow10" = some 2 := by kernel_rfl
theorem gPType : (Tryz.prog.globals[2]?).map (·.type) = some 176 := by kernel_rfl
theorem cellsE : Tryz.prog.cellsOf 199 = 1 := by kernel_rfl
theorem cellsS : Tryz.prog.cellsOf 9 = 1 := by kernel_rfl
theorem starE : "*" ++ "errors.errorString" = "*errors.errorString" := by decide
theorem rowE (u : TypeId) (h : Tryz.prog.typeName? 3 u = some "*errors.errorString") : u = 182 :=
  typeName_ptr_named (nm := "errors.errorString") (by rw [starE]; kernel_rfl) (by kernel_rfl) (by decide) u (by rw [starE]; exact h)

abbrev laidL : List (String × DataW Unit) := [("math/bits.deBruijn32tab", Rows.laid_math_bits_deBruijn32tab), ("math/bits.deBruijn64tab", Rows.laid_math_bits_deBruijn64tab), ("internal/strconv.uint64pow10", Rows.laid_internal_strconv_uint64pow10), ("loop.example/g00359/impl.errGaveUp", Rows.laid_loop_example_g00359_impl_errGaveUp)]
theorem sent_of_laid {W : World} (h : laidMetH Tryz.prog laidL W) : ∃ ea, W.var? Tryz.prog "loop.example/g00359/impl.errGaveUp" = some #[.iface 182 (.pointer (some ea))] ∧ 1 < W.heap.size := by
  have h' : laidMet Tryz.prog laidL W := h
  obtain ⟨ea, s, hv, -⟩ := laid_sentinel h'.tail.tail.tail gN gNType Tryz.underlying165 rowE Tryz.underlying182 Tryz.underlying199 rfl rfl Tryz.underlying9 cellsE cellsS
  exact ⟨ea, hv, World.block_lt_of_cell? W ⟨1, 0, none⟩ (by simpa using World.var?_cell gN hv 0)⟩
theorem tab_of_laid {W : World} (h : laidMetH Tryz.prog laidL W) : Tab10 W := by
  have h' : laidMet Tryz.prog laidL W := h
  have h2 : laidMet Tryz.prog (("internal/strconv.uint64pow10", Lib.tabData .u64 Lib.pow10Tab) :: [("loop.example/g00359/impl.errGaveUp", Rows.laid_loop_example_g00359_impl_errGaveUp)]) W := h'.tail.tail
  exact Lib.tabIs_of_head gP gPType Tryz.underlying176 Tryz.underlying170 (by kernel_rfl) (by kernel_rfl) h2

def dataCells : DataW Unit → Array Value
  | .agg l => (l.map fun
    | .lit (.int k z) => Value.int k z
    | _ => undef).toArray
  | _ => #[]
abbrev upS : ByteArray := { data := #[116, 104, 101, 32, 114, 101, 97, 100, 101, 114, 32, 103, 97, 118, 101, 32, 117, 112] }
noncomputable def low : Nat := (World.holding Tryz.prog default ⟨#[], #[], []⟩).heap.size
def layCells (cs : Array Value) : Obj → Obj
  | .cells _ t frozen => .cells cs t frozen
  | o => o
noncomputable def laidWorld (os : Os) : World :=
  let w0 := World.holding Tryz.prog os ⟨#[.cells #[.string upS] 199], #[], []⟩
  { w0 with heap := (((w0.heap.modify 1 (layCells #[.iface 182 (.pointer (some ⟨low, 0, none⟩))])).modify 2 (layCells (dataCells Rows.laid_internal_strconv_uint64pow10))).modify 3 (layCells (dataCells Rows.laid_math_bits_deBruijn32tab))).modify 4 (layCells (dataCells Rows.laid_math_bits_deBruijn64tab)) }
theorem laid_met (os : Os) (args : Array Value) : laidMetH Tryz.prog laidL ((laidWorld os).forCall (fun _ _ => 0) ⟨#[], args, []⟩).memory :=
  laidMet_of_run' (l := laidL) 200 (by kernel_rfl) (by kernel_rfl)

end Go.Proofs.YtifpjdpcmfneaaaGreatDoor
