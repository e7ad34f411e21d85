/- The proof's texts, part 6. -/
import Derived.Test.YtifpjdpcmfneaaaDoorPart4
import Derived.Test.YtifpjdpcmfneaaaDoorPart1
import Derived.Test.YtifpjdpcmfneaaaDoorPart2
import Derived.Shelf.Abstract
import Derived.Test.YtifpjdpcmfneaaaDoorPart5
import Derived.Deep.RegionHeld3
import Derived.Test.YtifpjdpcmfneaaaDoorRows
import Derived.ProofKit
import Derived.OpenShut
import Derived.ShutString
import Derived.ChangeOld
import Derived.ChangeSame
import Derived.Deep.Light
import Derived.ChangeVars
import Derived.JoinedOf
import Derived.RowKit
import Derived.RowKitTokens
import Derived.LaidLaws
import Derived.LaidHandle
import Derived.Stop.Joined
import Derived.Stop.LaidErr
import Derived.Lib.LaidTab
import Derived.WalkSmall

/- What CmdText of package impl does, kinds 8, 9. -/
namespace Go.Proofs.YtifpjdpcmfneaaaDoor
open Go.RowKit
set_option maxRecDepth 100000
set_option linter.unusedVariables false

set_option maxRecDepth 100000 in
set_option maxHeartbeats 4000000 in
theorem implCmdText_8 (a0 a1 a2 : Option Addr) (n0 n1 n2 c0 c1 c2 : Nat) (bx tt : List Int) (uid mode fl si : Int) (tx : List Int) (w : World) (HV : Hid (∀ wi, Below w.heap.size w wi → CmdV wi (.agg #[.int .i64 8, .slice a0 n0 c0, .slice a1 n1 c1, .int .i64 uid, .int .i64 mode, .int .i64 fl, .int .i64 si, .slice a2 n2 c2]) 8 bx tt uid mode fl si tx)) (HO : Hid (∀ wi, Below w.heap.size w wi → Calls Tryd.prog 30 #[.agg #[.int .i64 8, .slice a0 n0 c0, .slice a1 n1 c1, .int .i64 uid, .int .i64 mode, .int .i64 fl, .int .i64 si, .slice a2 n2 c2]] wi fun e w' => e = .returned (.bool true) ∧ Below wi.heap.size wi w'))
    (ss : List (List Int)) (hsl : ss.length ≤ 100) (hst : ∀ s, s ∈ ss → s.length ≤ 1000)
    (HT : Hid (∀ wi, Below w.heap.size w wi → Calls Tryd.prog 86 #[.agg #[.int .i64 8, .slice a0 n0 c0, .slice a1 n1 c1, .int .i64 uid, .int .i64 mode, .int .i64 fl, .int .i64 si, .slice a2 n2 c2]] wi fun e w' => ∃ u, e = .returned u ∧ StrsV w' u ss ∧ Below wi.heap.size wi w')) :
    Calls Tryd.prog 9 #[.agg #[.int .i64 8, .slice a0 n0 c0, .slice a1 n1 c1, .int .i64 uid, .int .i64 mode, .int .i64 fl, .int .i64 si, .slice a2 n2 c2]] w fun e w' => ∃ u, e = .returned (.tuple #[u, .bool true]) ∧ Row w' w.heap.size w'.heap.size u (kindW 8 ++ ss.flatMap tokB) ∧ Below w.heap.size w w' := by
  have HX : Hid (Below w.heap.size w (w.alloc (.cells #[.int .i64 8, .slice a0 n0 c0, .slice a1 n1 c1, .int .i64 uid, .int .i64 mode, .int .i64 fl, .int .i64 si, .slice a2 n2 c2] 28))) := (Below.refl _ _).alloc (Nat.le_refl _) _
  have HK0 := box_new w (.cells #[.int .i64 8, .slice a0 n0 c0, .slice a1 n1 c1, .int .i64 uid, .int .i64 mode, .int .i64 fl, .int .i64 si, .slice a2 n2 c2] 28)
  go_enter Tryd.func9, Tryd.ntmps9
  go_wp2_with fail
  refine (HO.out _ HX.out).mono ?_
  rintro e A ⟨rfl, BA⟩
  have XA : Hid (Below w.heap.size w A) := Below.step HX.out BA
  have HK : Hid (A.heap[w.heap.size]? = some (.cells #[.int .i64 8, .slice a0 n0 c0, .slice a1 n1 c1, .int .i64 uid, .int .i64 mode, .int .i64 fl, .int .i64 si, .slice a2 n2 c2] 28)) := box_below BA HK0
  have hsA : w.heap.size ≤ A.heap.size := XA.out.size
  clear HK0 BA HX HO
  have HS : Hid (∀ w', Below A.heap.size A w' → w'.cell? ⟨w.heap.size, 0, none⟩ = some (.int .i64 8)) := fun w' h => (box8 (box_below h HK.out)).1
  have C0 : Below A.heap.size A A.drew := (Below.refl _ _).drew
  obtain ⟨f0, f1, f2, f3, f4, f5, f6, f7⟩ := box8 HK.out
  have hlA := lt_of_heap HK.out
  go_upto_region 3 with fail
  go_cut [4] (fun s wx => ∃ b, s = .pointer (some ⟨b, 0, none⟩) ∧ Hid (wx.heap[b]? = some (.cells #[.string ⟨#[67, 72, 65, 78, 71, 69, 83]⟩, .func (.func 85) #[] #[], .func (.func 86) #[] #[]] 69 (0, 0))) ∧ Hid (Below A.heap.size A wx))
  case first =>
    clear f0 f1 f2 f3 f4 f5 f6 f7 hlA
    go_wp2
    refine wp_region_held_drew (S := fun w' => w'.cell? ⟨w.heap.size, 0, none⟩ = some (.int .i64 8)) (by kernel_rfl) (HS.out _ C0) (fun hHeld => (show wpAnyH _ _ _ _ _ 7 #[false, false, false, false, false, false, false] _ _ from ?_))
    refine tk 1 9 ?vt105 ?ht105 hHeld ?_; case ht105 => (intro w s; (try dsimp only at s); go_simp <;> with_reducible rfl)
    conv => arg 8; simp only [Act.put, sA, s0, sS]
    refine tk 2 10 ?vt106 ?ht106 hHeld ?_; case ht106 => (intro w s; (try dsimp only at s); go_simp <;> with_reducible rfl)
    conv => arg 8; simp only [Act.put, sA, s0, sS]
    generalize hwd : A.drew = wd at *
    refine wpAnyH_ready (rs := [0, 5]) (by kernel_rfl) (by simp) ?_
    refine AllReadyH.cons rfl (fun K hK => ?_) (AllReadyH.cons rfl (fun K hK => ?_) AllReadyH.nil)
    · go_simp
      refine (forms_r _).mono ?_
      rintro e w1 ⟨rfl, hw1⟩
      have B1 : Below wd.heap.size wd w1 := by rw [hw1]; exact (Below.refl _ _).alloc (Nat.le_refl _) _
      have KF1 : w1.heap[wd.heap.size]? = some (.cells #[.string ⟨#[67, 82, 69, 65, 84, 69]⟩, .func (.func 75) #[] #[], .func (.func 76) #[] #[], .string ⟨#[68, 69, 76, 69, 84, 69]⟩, .func (.func 75) #[] #[], .func (.func 76) #[] #[], .string ⟨#[65, 80, 80, 69, 78, 68]⟩, .func (.func 77) #[] #[], .func (.func 78) #[] #[], .string ⟨#[83, 84, 79, 82, 69]⟩, .func (.func 79) #[] #[], .func (.func 80) #[] #[], .string ⟨#[69, 88, 80, 85, 78, 71, 69]⟩, .func (.func 75) #[] #[], .func (.func 76) #[] #[], .string ⟨#[70, 69, 84, 67, 72]⟩, .func (.func 81) #[] #[], .func (.func 82) #[] #[], .string ⟨#[67, 79, 80, 89]⟩, .func (.func 83) #[] #[], .func (.func 84) #[] #[], .string ⟨#[83, 84, 65, 84, 85, 83]⟩, .func (.func 75) #[] #[], .func (.func 76) #[] #[], .string ⟨#[67, 72, 65, 78, 71, 69, 83]⟩, .func (.func 85) #[] #[], .func (.func 86) #[] #[], .string ⟨#[76, 73, 83, 84]⟩, .func (.func 87) #[] #[], .func (.func 88) #[] #[]] 69) := by rw [hw1]; exact box_new wd _
      have D1 := Below.step C0 B1
      clear hw1
      refine hK.out _ _ (HS.out _ D1) (fun hHeld => ?_)
      clear hK K
      refine wpAnyH_more (S' := fun w' => (w'.cell? ⟨wd.heap.size, 24, none⟩ = some (.string ⟨#[67, 72, 65, 78, 71, 69, 83]⟩) ∧ w'.cell? ⟨wd.heap.size, 25, none⟩ = some (.func (.func 85) #[] #[]) ∧ w'.cell? ⟨wd.heap.size, 26, none⟩ = some (.func (.func 86) #[] #[])) ∧ w'.cell? ⟨w.heap.size, 0, none⟩ = some (.int .i64 8)) (fun _ h => h.2) _ _ _ _ ?_
      replace hHeld := And.intro (formAt8 KF1) hHeld
      refine tk 3 11 ?vt107 ?ht107 hHeld ?_; case ht107 => (intro w s; (try dsimp only at s); go_simp <;> with_reducible rfl)
      conv => arg 8; simp only [Act.put, sA, s0, sS]
      refine tk 4 12 ?vt108 ?ht108 hHeld ?_; case ht108 => (intro w s; (try dsimp only at s); go_simp <;> with_reducible rfl)
      conv => arg 8; simp only [Act.put, sA, s0, sS]
      refine wpAnyH_ready (rs := [5]) (by kernel_rfl) (by simp) ?_
      refine AllReadyH.cons rfl (fun K hK => ?_) AllReadyH.nil
      go_simp
      have AB : Below w1.heap.size w1 (w1.alloc (.cells #[.string ⟨#[]⟩, .nilFunc, .nilFunc] 69)) := (Below.refl _ _).alloc (Nat.le_refl _) _
      have KV := box_new w1 (.cells #[.string ⟨#[]⟩, .nilFunc, .nilFunc] 69)
      have KF2 := box_below AB KF1
      have hne := lt_of_heap KF1
      have D2 := Below.step D1 AB
      refine hK.out _ _ (⟨formAt8 KF2, HS.out _ D2⟩) (fun hHeld => ?_)
      clear hK K
      generalize hwv : w1.alloc (.cells #[.string ⟨#[]⟩, .nilFunc, .nilFunc] 69) = w2 at *
      obtain ⟨oz, ol⟩ := box8z KV
      obtain ⟨o0, o1, o2⟩ := bx3 KV
      have hlv : A.heap.size ≤ w1.heap.size := D1.size
      have KW : (((w2.setCell ⟨w1.heap.size, 0, none⟩ (.string ⟨#[67, 72, 65, 78, 71, 69, 83]⟩)).setCell ⟨w1.heap.size, 1, none⟩ (.func (.func 85) #[] #[])).setCell ⟨w1.heap.size, 2, none⟩ (.func (.func 86) #[] #[])).heap[w1.heap.size]? = some (.cells #[.string ⟨#[67, 72, 65, 78, 71, 69, 83]⟩, .func (.func 85) #[] #[], .func (.func 86) #[] #[]] 69 (0, 0)) := box_set (i := 2) (box_set (i := 1) (box_set (i := 0) KV))
      have DW : Below A.heap.size A (((w2.setCell ⟨w1.heap.size, 0, none⟩ (.string ⟨#[67, 72, 65, 78, 71, 69, 83]⟩)).setCell ⟨w1.heap.size, 1, none⟩ (.func (.func 85) #[] #[])).setCell ⟨w1.heap.size, 2, none⟩ (.func (.func 86) #[] #[])) := ((D2.setCell (p := ⟨w1.heap.size, 0, none⟩) hlv _).setCell (p := ⟨w1.heap.size, 1, none⟩) hlv _).setCell (p := ⟨w1.heap.size, 2, none⟩) hlv _
      have KFW := box_other (i := 2) (v := .func (.func 86) #[] #[]) (box_other (i := 1) (v := .func (.func 85) #[] #[]) (box_other (i := 0) (v := .string ⟨#[67, 72, 65, 78, 71, 69, 83]⟩) KF2 (show wd.heap.size ≠ w1.heap.size by omega)) (show wd.heap.size ≠ w1.heap.size by omega)) (show wd.heap.size ≠ w1.heap.size by omega)
      have st1 := run_storeF (P := Tryd.prog) (w2.setCell ⟨w1.heap.size, 0, none⟩ (.string ⟨#[67, 72, 65, 78, 71, 69, 83]⟩)) w1.heap.size 1 _ _ (.func (.func 85) #[] #[]) (box_set (i := 0) KV) (by simp) rfl
      have st2 := run_storeF (P := Tryd.prog) ((w2.setCell ⟨w1.heap.size, 0, none⟩ (.string ⟨#[67, 72, 65, 78, 71, 69, 83]⟩)).setCell ⟨w1.heap.size, 1, none⟩ (.func (.func 85) #[] #[])) w1.heap.size 2 _ _ (.func (.func 86) #[] #[]) (box_set (i := 1) (box_set (i := 0) KV)) (by simp) rfl
      refine wpAnyH_ready (rs := [6]) (by kernel_rfl) (by simp) ?_
      refine AllReadyH.cons rfl (fun K hK => ?_) AllReadyH.nil
      go_simp
      refine hK.out _ _ (⟨formAt8 KFW, HS.out _ DW⟩) (fun hHeld => ?_)
      clear hK K
      refine wpAnyH_done (by kernel_rfl) ?_ _
      go_wp2
      go_meet
      case rel => exact ⟨w1.heap.size, rfl, KW, DW⟩
    · go_simp
      have AB : Below wd.heap.size wd (wd.alloc (.cells #[.string ⟨#[]⟩, .nilFunc, .nilFunc] 69)) := (Below.refl _ _).alloc (Nat.le_refl _) _
      have KV0 := box_new wd (.cells #[.string ⟨#[]⟩, .nilFunc, .nilFunc] 69)
      have hne := lt_of_heap KV0
      have D1 := Below.step C0 AB
      refine hK.out _ _ (HS.out _ D1) (fun hHeld => ?_)
      clear hK K
      generalize hwv : wd.alloc (.cells #[.string ⟨#[]⟩, .nilFunc, .nilFunc] 69) = w1 at *
      refine wpAnyH_ready (rs := [0]) (by kernel_rfl) (by simp) ?_
      refine AllReadyH.cons rfl (fun K hK => ?_) AllReadyH.nil
      go_simp
      refine (forms_r _).mono ?_
      rintro e w2 ⟨rfl, hw2⟩
      have B2 : Below w1.heap.size w1 w2 := by rw [hw2]; exact (Below.refl _ _).alloc (Nat.le_refl _) _
      have KF2 : w2.heap[w1.heap.size]? = some (.cells #[.string ⟨#[67, 82, 69, 65, 84, 69]⟩, .func (.func 75) #[] #[], .func (.func 76) #[] #[], .string ⟨#[68, 69, 76, 69, 84, 69]⟩, .func (.func 75) #[] #[], .func (.func 76) #[] #[], .string ⟨#[65, 80, 80, 69, 78, 68]⟩, .func (.func 77) #[] #[], .func (.func 78) #[] #[], .string ⟨#[83, 84, 79, 82, 69]⟩, .func (.func 79) #[] #[], .func (.func 80) #[] #[], .string ⟨#[69, 88, 80, 85, 78, 71, 69]⟩, .func (.func 75) #[] #[], .func (.func 76) #[] #[], .string ⟨#[70, 69, 84, 67, 72]⟩, .func (.func 81) #[] #[], .func (.func 82) #[] #[], .string ⟨#[67, 79, 80, 89]⟩, .func (.func 83) #[] #[], .func (.func 84) #[] #[], .string ⟨#[83, 84, 65, 84, 85, 83]⟩, .func (.func 75) #[] #[], .func (.func 76) #[] #[], .string ⟨#[67, 72, 65, 78, 71, 69, 83]⟩, .func (.func 85) #[] #[], .func (.func 86) #[] #[], .string ⟨#[76, 73, 83, 84]⟩, .func (.func 87) #[] #[], .func (.func 88) #[] #[]] 69) := by rw [hw2]; exact box_new w1 _
      have D2 := Below.step D1 B2
      clear hw2
      have KV := box_below B2 KV0
      refine hK.out _ _ (HS.out _ D2) (fun hHeld => ?_)
      clear hK K
      refine wpAnyH_more (S' := fun w' => (w'.cell? ⟨w1.heap.size, 24, none⟩ = some (.string ⟨#[67, 72, 65, 78, 71, 69, 83]⟩) ∧ w'.cell? ⟨w1.heap.size, 25, none⟩ = some (.func (.func 85) #[] #[]) ∧ w'.cell? ⟨w1.heap.size, 26, none⟩ = some (.func (.func 86) #[] #[])) ∧ w'.cell? ⟨w.heap.size, 0, none⟩ = some (.int .i64 8)) (fun _ h => h.2) _ _ _ _ ?_
      replace hHeld := And.intro (formAt8 KF2) hHeld
      refine tk 3 11 ?vt109 ?ht109 hHeld ?_; case ht109 => (intro w s; (try dsimp only at s); go_simp <;> with_reducible rfl)
      conv => arg 8; simp only [Act.put, sA, s0, sS]
      refine tk 4 12 ?vt110 ?ht110 hHeld ?_; case ht110 => (intro w s; (try dsimp only at s); go_simp <;> with_reducible rfl)
      conv => arg 8; simp only [Act.put, sA, s0, sS]
      obtain ⟨oz, ol⟩ := box8z KV
      obtain ⟨o0, o1, o2⟩ := bx3 KV
      have hlv : A.heap.size ≤ wd.heap.size := C0.size
      have KW : (((w2.setCell ⟨wd.heap.size, 0, none⟩ (.string ⟨#[67, 72, 65, 78, 71, 69, 83]⟩)).setCell ⟨wd.heap.size, 1, none⟩ (.func (.func 85) #[] #[])).setCell ⟨wd.heap.size, 2, none⟩ (.func (.func 86) #[] #[])).heap[wd.heap.size]? = some (.cells #[.string ⟨#[67, 72, 65, 78, 71, 69, 83]⟩, .func (.func 85) #[] #[], .func (.func 86) #[] #[]] 69 (0, 0)) := box_set (i := 2) (box_set (i := 1) (box_set (i := 0) KV))
      have DW : Below A.heap.size A (((w2.setCell ⟨wd.heap.size, 0, none⟩ (.string ⟨#[67, 72, 65, 78, 71, 69, 83]⟩)).setCell ⟨wd.heap.size, 1, none⟩ (.func (.func 85) #[] #[])).setCell ⟨wd.heap.size, 2, none⟩ (.func (.func 86) #[] #[])) := ((D2.setCell (p := ⟨wd.heap.size, 0, none⟩) hlv _).setCell (p := ⟨wd.heap.size, 1, none⟩) hlv _).setCell (p := ⟨wd.heap.size, 2, none⟩) hlv _
      have KFW := box_other (i := 2) (v := .func (.func 86) #[] #[]) (box_other (i := 1) (v := .func (.func 85) #[] #[]) (box_other (i := 0) (v := .string ⟨#[67, 72, 65, 78, 71, 69, 83]⟩) KF2 (show w1.heap.size ≠ wd.heap.size by omega)) (show w1.heap.size ≠ wd.heap.size by omega)) (show w1.heap.size ≠ wd.heap.size by omega)
      have st1 := run_storeF (P := Tryd.prog) (w2.setCell ⟨wd.heap.size, 0, none⟩ (.string ⟨#[67, 72, 65, 78, 71, 69, 83]⟩)) wd.heap.size 1 _ _ (.func (.func 85) #[] #[]) (box_set (i := 0) KV) (by simp) rfl
      have st2 := run_storeF (P := Tryd.prog) ((w2.setCell ⟨wd.heap.size, 0, none⟩ (.string ⟨#[67, 72, 65, 78, 71, 69, 83]⟩)).setCell ⟨wd.heap.size, 1, none⟩ (.func (.func 85) #[] #[])) wd.heap.size 2 _ _ (.func (.func 86) #[] #[]) (box_set (i := 1) (box_set (i := 0) KV)) (by simp) rfl
      refine wpAnyH_ready (rs := [6]) (by kernel_rfl) (by simp) ?_
      refine AllReadyH.cons rfl (fun K hK => ?_) AllReadyH.nil
      go_simp
      refine hK.out _ _ (⟨formAt8 KFW, HS.out _ DW⟩) (fun hHeld => ?_)
      clear hK K
      refine wpAnyH_done (by kernel_rfl) ?_ _
      go_wp2
      go_meet
      case rel => exact ⟨wd.heap.size, rfl, KW, DW⟩
  case rest =>
    obtain ⟨b4, rfl, K4, X4⟩ := hcut
    clear f0 f1 f2 f3 f4 f5 f6 f7 hlA HS C0
    have HS2 : Hid (∀ w', Below wc.heap.size wc w' → (w'.cell? ⟨b4, 0, none⟩ = some (.string ⟨#[67, 72, 65, 78, 71, 69, 83]⟩) ∧ w'.cell? ⟨b4, 1, none⟩ = some (.func (.func 85) #[] #[]) ∧ w'.cell? ⟨b4, 2, none⟩ = some (.func (.func 86) #[] #[])) ∧ w'.cell? ⟨w.heap.size, 0, none⟩ = some (.int .i64 8) ∧ w'.cell? ⟨w.heap.size, 1, none⟩ = some (.slice a0 n0 c0) ∧ w'.cell? ⟨w.heap.size, 2, none⟩ = some (.slice a1 n1 c1) ∧ w'.cell? ⟨w.heap.size, 3, none⟩ = some (.int .i64 uid) ∧ w'.cell? ⟨w.heap.size, 4, none⟩ = some (.int .i64 mode) ∧ w'.cell? ⟨w.heap.size, 5, none⟩ = some (.int .i64 fl) ∧ w'.cell? ⟨w.heap.size, 6, none⟩ = some (.int .i64 si) ∧ w'.cell? ⟨w.heap.size, 7, none⟩ = some (.slice a2 n2 c2)) := by
      intro w' h
      obtain ⟨p0, p1, p2⟩ := bx3 (box_below h K4.out)
      exact ⟨⟨p0, p1, p2⟩, box8 (box_below h (box_below X4.out HK.out))⟩
    have XC : Hid (Below w.heap.size w wc) := Below.step XA.out X4.out
    have D0 : Below wc.heap.size wc wc.drew := (Below.refl _ _).drew
    have hsC := XC.out.size
    obtain ⟨p0, p1, p2⟩ := bx3 K4.out
    have hl4 := lt_of_heap K4.out
    obtain ⟨f0, f1, f2, f3, f4, f5, f6, f7⟩ := box8 (box_below X4.out HK.out)
    have hlA := lt_of_heap (box_below X4.out HK.out)
    go_wp2
    refine wp_region_held_drew (S := fun w' => (w'.cell? ⟨b4, 0, none⟩ = some (.string ⟨#[67, 72, 65, 78, 71, 69, 83]⟩) ∧ w'.cell? ⟨b4, 1, none⟩ = some (.func (.func 85) #[] #[]) ∧ w'.cell? ⟨b4, 2, none⟩ = some (.func (.func 86) #[] #[])) ∧ w'.cell? ⟨w.heap.size, 0, none⟩ = some (.int .i64 8) ∧ w'.cell? ⟨w.heap.size, 1, none⟩ = some (.slice a0 n0 c0) ∧ w'.cell? ⟨w.heap.size, 2, none⟩ = some (.slice a1 n1 c1) ∧ w'.cell? ⟨w.heap.size, 3, none⟩ = some (.int .i64 uid) ∧ w'.cell? ⟨w.heap.size, 4, none⟩ = some (.int .i64 mode) ∧ w'.cell? ⟨w.heap.size, 5, none⟩ = some (.int .i64 fl) ∧ w'.cell? ⟨w.heap.size, 6, none⟩ = some (.int .i64 si) ∧ w'.cell? ⟨w.heap.size, 7, none⟩ = some (.slice a2 n2 c2)) (by kernel_rfl) (HS2.out _ D0) (fun hHeld => (show wpAnyH _ _ _ _ _ 9 #[false, false, false, false, false, false, false, false, false] _ _ from ?_))
    refine tk 0 13 ?vt111 ?ht111 hHeld ?_; case ht111 => (intro w s; (try dsimp only at s); go_simp <;> with_reducible rfl)
    conv => arg 8; simp only [Act.put, sA, s0, sS]
    refine tk 1 14 ?vt112 ?ht112 hHeld ?_; case ht112 => (intro w s; (try dsimp only at s); go_simp <;> with_reducible rfl)
    conv => arg 8; simp only [Act.put, sA, s0, sS]
    refine tk 2 15 ?vt113 ?ht113 hHeld ?_; case ht113 => (intro w s; (try dsimp only at s); go_simp <;> with_reducible rfl)
    conv => arg 8; simp only [Act.put, sA, s0, sS]
    refine tk 3 16 ?vt114 ?ht114 hHeld ?_; case ht114 => (intro w s; (try dsimp only at s); go_simp <;> with_reducible rfl)
    conv => arg 8; simp only [Act.put, sA, s0, sS]
    refine tk 4 17 ?vt115 ?ht115 hHeld ?_; case ht115 => (intro w s; (try dsimp only at s); go_simp <;> with_reducible rfl)
    conv => arg 8; simp only [Act.put, sA, s0, sS]
    generalize hwd4 : wc.drew = wd4 at *
    refine wpAnyH_ready (rs := [5]) (by kernel_rfl) (by simp) ?_
    refine AllReadyH.cons rfl (fun K hK => ?_) AllReadyH.nil
    go_simp
    refine (HT.out _ (Below.step XC.out D0)).mono ?_
    rintro e w5 ⟨u5, rfl, R5, B5⟩
    have D5 := Below.step D0 B5
    refine hK.out _ _ (HS2.out _ D5) (fun hHeld => ?_)
    clear hK K
    refine wpAnyH_ready (rs := [6]) (by kernel_rfl) (by simp) ?_
    refine AllReadyH.cons rfl (fun K hK => ?_) AllReadyH.nil
    go_simp
    refine (putTokens_b w5.heap.size _ u5 [] (kindW 8) ss _ (OwnB.nil' _ _) (Nat.le_refl _) (by intro x hx; simp [kindW] at hx; omega) (fun wi h => R5.below keepsStr (h.below)) (by simp) (by decide) hsl hst).mono ?_
    rintro e w6 ⟨u6, rfl, R6, B6⟩
    have D6 : Below wc.heap.size wc w6 := Below.step D5 (B6.below)
    refine hK.out _ _ (HS2.out _ D6) (fun hHeld => ?_)
    clear hK K
    refine tk 7 2 ?vt116 ?ht116 hHeld ?_; case ht116 => (intro w s; (try dsimp only at s); go_simp <;> with_reducible rfl)
    conv => arg 8; simp only [Act.put, sA, s0, sS]
    refine tk 8 3 ?vt117 ?ht117 hHeld ?_; case ht117 => (intro w s; (try dsimp only at s); go_simp <;> with_reducible rfl)
    conv => arg 8; simp only [Act.put, sA, s0, sS]
    refine wpAnyH_done (by kernel_rfl) ?_ _
    have HF : Hid (Row w6 w.heap.size w6.heap.size u6 (kindW 8 ++ ss.flatMap tokB)) := by
      have h := R6.toRow
      have h5 := D5.size
      simp only [List.nil_append] at h
      exact h.wide (by omega) (Nat.le_refl _)
    have HB : Hid (Below w.heap.size w w6) := Below.step XC.out D6
    clear HS2 D0 D5 D6 R5 B5 R6 B6 hHeld
    go_wp2
    exact bodyPost_ret (v := .tuple #[u6, .bool true]) (by simp [results, Tryd.results9, go_sem]) rfl ⟨u6, rfl, HF.out, HB.out⟩

set_option maxRecDepth 100000 in
set_option maxHeartbeats 4000000 in
theorem implCmdText_9 (a0 a1 a2 : Option Addr) (n0 n1 n2 c0 c1 c2 : Nat) (bx tt : List Int) (uid mode fl si : Int) (tx : List Int) (w : World) (HV : Hid (∀ wi, Below w.heap.size w wi → CmdV wi (.agg #[.int .i64 9, .slice a0 n0 c0, .slice a1 n1 c1, .int .i64 uid, .int .i64 mode, .int .i64 fl, .int .i64 si, .slice a2 n2 c2]) 9 bx tt uid mode fl si tx)) (HO : Hid (∀ wi, Below w.heap.size w wi → Calls Tryd.prog 30 #[.agg #[.int .i64 9, .slice a0 n0 c0, .slice a1 n1 c1, .int .i64 uid, .int .i64 mode, .int .i64 fl, .int .i64 si, .slice a2 n2 c2]] wi fun e w' => e = .returned (.bool true) ∧ Below wi.heap.size wi w'))
    (ss : List (List Int)) (hsl : ss.length ≤ 100) (hst : ∀ s, s ∈ ss → s.length ≤ 1000)
    (HT : Hid (∀ wi, Below w.heap.size w wi → Calls Tryd.prog 88 #[.agg #[.int .i64 9, .slice a0 n0 c0, .slice a1 n1 c1, .int .i64 uid, .int .i64 mode, .int .i64 fl, .int .i64 si, .slice a2 n2 c2]] wi fun e w' => ∃ u, e = .returned u ∧ StrsV w' u ss ∧ Below wi.heap.size wi w')) :
    Calls Tryd.prog 9 #[.agg #[.int .i64 9, .slice a0 n0 c0, .slice a1 n1 c1, .int .i64 uid, .int .i64 mode, .int .i64 fl, .int .i64 si, .slice a2 n2 c2]] w fun e w' => ∃ u, e = .returned (.tuple #[u, .bool true]) ∧ Row w' w.heap.size w'.heap.size u (kindW 9 ++ ss.flatMap tokB) ∧ Below w.heap.size w w' := by
  have HX : Hid (Below w.heap.size w (w.alloc (.cells #[.int .i64 9, .slice a0 n0 c0, .slice a1 n1 c1, .int .i64 uid, .int .i64 mode, .int .i64 fl, .int .i64 si, .slice a2 n2 c2] 28))) := (Below.refl _ _).alloc (Nat.le_refl _) _
  have HK0 := box_new w (.cells #[.int .i64 9, .slice a0 n0 c0, .slice a1 n1 c1, .int .i64 uid, .int .i64 mode, .int .i64 fl, .int .i64 si, .slice a2 n2 c2] 28)
  go_enter Tryd.func9, Tryd.ntmps9
  go_wp2_with fail
  refine (HO.out _ HX.out).mono ?_
  rintro e A ⟨rfl, BA⟩
  have XA : Hid (Below w.heap.size w A) := Below.step HX.out BA
  have HK : Hid (A.heap[w.heap.size]? = some (.cells #[.int .i64 9, .slice a0 n0 c0, .slice a1 n1 c1, .int .i64 uid, .int .i64 mode, .int .i64 fl, .int .i64 si, .slice a2 n2 c2] 28)) := box_below BA HK0
  have hsA : w.heap.size ≤ A.heap.size := XA.out.size
  clear HK0 BA HX HO
  have HS : Hid (∀ w', Below A.heap.size A w' → w'.cell? ⟨w.heap.size, 0, none⟩ = some (.int .i64 9)) := fun w' h => (box8 (box_below h HK.out)).1
  have C0 : Below A.heap.size A A.drew := (Below.refl _ _).drew
  obtain ⟨f0, f1, f2, f3, f4, f5, f6, f7⟩ := box8 HK.out
  have hlA := lt_of_heap HK.out
  go_upto_region 3 with fail
  go_cut [4] (fun s wx => ∃ b, s = .pointer (some ⟨b, 0, none⟩) ∧ Hid (wx.heap[b]? = some (.cells #[.string ⟨#[76, 73, 83, 84]⟩, .func (.func 87) #[] #[], .func (.func 88) #[] #[]] 69 (0, 0))) ∧ Hid (Below A.heap.size A wx))
  case first =>
    clear f0 f1 f2 f3 f4 f5 f6 f7 hlA
    go_wp2
    refine wp_region_held_drew (S := fun w' => w'.cell? ⟨w.heap.size, 0, none⟩ = some (.int .i64 9)) (by kernel_rfl) (HS.out _ C0) (fun hHeld => (show wpAnyH _ _ _ _ _ 7 #[false, false, false, false, false, false, false] _ _ from ?_))
    refine tk 1 9 ?vt118 ?ht118 hHeld ?_; case ht118 => (intro w s; (try dsimp only at s); go_simp <;> with_reducible rfl)
    conv => arg 8; simp only [Act.put, sA, s0, sS]
    refine tk 2 10 ?vt119 ?ht119 hHeld ?_; case ht119 => (intro w s; (try dsimp only at s); go_simp <;> with_reducible rfl)
    conv => arg 8; simp only [Act.put, sA, s0, sS]
    generalize hwd : A.drew = wd at *
    refine wpAnyH_ready (rs := [0, 5]) (by kernel_rfl) (by simp) ?_
    refine AllReadyH.cons rfl (fun K hK => ?_) (AllReadyH.cons rfl (fun K hK => ?_) AllReadyH.nil)
    · go_simp
      refine (forms_r _).mono ?_
      rintro e w1 ⟨rfl, hw1⟩
      have B1 : Below wd.heap.size wd w1 := by rw [hw1]; exact (Below.refl _ _).alloc (Nat.le_refl _) _
      have KF1 : w1.heap[wd.heap.size]? = some (.cells #[.string ⟨#[67, 82, 69, 65, 84, 69]⟩, .func (.func 75) #[] #[], .func (.func 76) #[] #[], .string ⟨#[68, 69, 76, 69, 84, 69]⟩, .func (.func 75) #[] #[], .func (.func 76) #[] #[], .string ⟨#[65, 80, 80, 69, 78, 68]⟩, .func (.func 77) #[] #[], .func (.func 78) #[] #[], .string ⟨#[83, 84, 79, 82, 69]⟩, .func (.func 79) #[] #[], .func (.func 80) #[] #[], .string ⟨#[69, 88, 80, 85, 78, 71, 69]⟩, .func (.func 75) #[] #[], .func (.func 76) #[] #[], .string ⟨#[70, 69, 84, 67, 72]⟩, .func (.func 81) #[] #[], .func (.func 82) #[] #[], .string ⟨#[67, 79, 80, 89]⟩, .func (.func 83) #[] #[], .func (.func 84) #[] #[], .string ⟨#[83, 84, 65, 84, 85, 83]⟩, .func (.func 75) #[] #[], .func (.func 76) #[] #[], .string ⟨#[67, 72, 65, 78, 71, 69, 83]⟩, .func (.func 85) #[] #[], .func (.func 86) #[] #[], .string ⟨#[76, 73, 83, 84]⟩, .func (.func 87) #[] #[], .func (.func 88) #[] #[]] 69) := by rw [hw1]; exact box_new wd _
      have D1 := Below.step C0 B1
      clear hw1
      refine hK.out _ _ (HS.out _ D1) (fun hHeld => ?_)
      clear hK K
      refine wpAnyH_more (S' := fun w' => (w'.cell? ⟨wd.heap.size, 27, none⟩ = some (.string ⟨#[76, 73, 83, 84]⟩) ∧ w'.cell? ⟨wd.heap.size, 28, none⟩ = some (.func (.func 87) #[] #[]) ∧ w'.cell? ⟨wd.heap.size, 29, none⟩ = some (.func (.func 88) #[] #[])) ∧ w'.cell? ⟨w.heap.size, 0, none⟩ = some (.int .i64 9)) (fun _ h => h.2) _ _ _ _ ?_
      replace hHeld := And.intro (formAt9 KF1) hHeld
      refine tk 3 11 ?vt120 ?ht120 hHeld ?_; case ht120 => (intro w s; (try dsimp only at s); go_simp <;> with_reducible rfl)
      conv => arg 8; simp only [Act.put, sA, s0, sS]
      refine tk 4 12 ?vt121 ?ht121 hHeld ?_; case ht121 => (intro w s; (try dsimp only at s); go_simp <;> with_reducible rfl)
      conv => arg 8; simp only [Act.put, sA, s0, sS]
      refine wpAnyH_ready (rs := [5]) (by kernel_rfl) (by simp) ?_
      refine AllReadyH.cons rfl (fun K hK => ?_) AllReadyH.nil
      go_simp
      have AB : Below w1.heap.size w1 (w1.alloc (.cells #[.string ⟨#[]⟩, .nilFunc, .nilFunc] 69)) := (Below.refl _ _).alloc (Nat.le_refl _) _
      have KV := box_new w1 (.cells #[.string ⟨#[]⟩, .nilFunc, .nilFunc] 69)
      have KF2 := box_below AB KF1
      have hne := lt_of_heap KF1
      have D2 := Below.step D1 AB
      refine hK.out _ _ (⟨formAt9 KF2, HS.out _ D2⟩) (fun hHeld => ?_)
      clear hK K
      generalize hwv : w1.alloc (.cells #[.string ⟨#[]⟩, .nilFunc, .nilFunc] 69) = w2 at *
      obtain ⟨oz, ol⟩ := box8z KV
      obtain ⟨o0, o1, o2⟩ := bx3 KV
      have hlv : A.heap.size ≤ w1.heap.size := D1.size
      have KW : (((w2.setCell ⟨w1.heap.size, 0, none⟩ (.string ⟨#[76, 73, 83, 84]⟩)).setCell ⟨w1.heap.size, 1, none⟩ (.func (.func 87) #[] #[])).setCell ⟨w1.heap.size, 2, none⟩ (.func (.func 88) #[] #[])).heap[w1.heap.size]? = some (.cells #[.string ⟨#[76, 73, 83, 84]⟩, .func (.func 87) #[] #[], .func (.func 88) #[] #[]] 69 (0, 0)) := box_set (i := 2) (box_set (i := 1) (box_set (i := 0) KV))
      have DW : Below A.heap.size A (((w2.setCell ⟨w1.heap.size, 0, none⟩ (.string ⟨#[76, 73, 83, 84]⟩)).setCell ⟨w1.heap.size, 1, none⟩ (.func (.func 87) #[] #[])).setCell ⟨w1.heap.size, 2, none⟩ (.func (.func 88) #[] #[])) := ((D2.setCell (p := ⟨w1.heap.size, 0, none⟩) hlv _).setCell (p := ⟨w1.heap.size, 1, none⟩) hlv _).setCell (p := ⟨w1.heap.size, 2, none⟩) hlv _
      have KFW := box_other (i := 2) (v := .func (.func 88) #[] #[]) (box_other (i := 1) (v := .func (.func 87) #[] #[]) (box_other (i := 0) (v := .string ⟨#[76, 73, 83, 84]⟩) KF2 (show wd.heap.size ≠ w1.heap.size by omega)) (show wd.heap.size ≠ w1.heap.size by omega)) (show wd.heap.size ≠ w1.heap.size by omega)
      have st1 := run_storeF (P := Tryd.prog) (w2.setCell ⟨w1.heap.size, 0, none⟩ (.string ⟨#[76, 73, 83, 84]⟩)) w1.heap.size 1 _ _ (.func (.func 87) #[] #[]) (box_set (i := 0) KV) (by simp) rfl
      have st2 := run_storeF (P := Tryd.prog) ((w2.setCell ⟨w1.heap.size, 0, none⟩ (.string ⟨#[76, 73, 83, 84]⟩)).setCell ⟨w1.heap.size, 1, none⟩ (.func (.func 87) #[] #[])) w1.heap.size 2 _ _ (.func (.func 88) #[] #[]) (box_set (i := 1) (box_set (i := 0) KV)) (by simp) rfl
      refine wpAnyH_ready (rs := [6]) (by kernel_rfl) (by simp) ?_
      refine AllReadyH.cons rfl (fun K hK => ?_) AllReadyH.nil
      go_simp
      refine hK.out _ _ (⟨formAt9 KFW, HS.out _ DW⟩) (fun hHeld => ?_)
      clear hK K
      refine wpAnyH_done (by kernel_rfl) ?_ _
      go_wp2
      go_meet
      case rel => exact ⟨w1.heap.size, rfl, KW, DW⟩
    · go_simp
      have AB : Below wd.heap.size wd (wd.alloc (.cells #[.string ⟨#[]⟩, .nilFunc, .nilFunc] 69)) := (Below.refl _ _).alloc (Nat.le_refl _) _
      have KV0 := box_new wd (.cells #[.string ⟨#[]⟩, .nilFunc, .nilFunc] 69)
      have hne := lt_of_heap KV0
      have D1 := Below.step C0 AB
      refine hK.out _ _ (HS.out _ D1) (fun hHeld => ?_)
      clear hK K
      generalize hwv : wd.alloc (.cells #[.string ⟨#[]⟩, .nilFunc, .nilFunc] 69) = w1 at *
      refine wpAnyH_ready (rs := [0]) (by kernel_rfl) (by simp) ?_
      refine AllReadyH.cons rfl (fun K hK => ?_) AllReadyH.nil
      go_simp
      refine (forms_r _).mono ?_
      rintro e w2 ⟨rfl, hw2⟩
      have B2 : Below w1.heap.size w1 w2 := by rw [hw2]; exact (Below.refl _ _).alloc (Nat.le_refl _) _
      have KF2 : w2.heap[w1.heap.size]? = some (.cells #[.string ⟨#[67, 82, 69, 65, 84, 69]⟩, .func (.func 75) #[] #[], .func (.func 76) #[] #[], .string ⟨#[68, 69, 76, 69, 84, 69]⟩, .func (.func 75) #[] #[], .func (.func 76) #[] #[], .string ⟨#[65, 80, 80, 69, 78, 68]⟩, .func (.func 77) #[] #[], .func (.func 78) #[] #[], .string ⟨#[83, 84, 79, 82, 69]⟩, .func (.func 79) #[] #[], .func (.func 80) #[] #[], .string ⟨#[69, 88, 80, 85, 78, 71, 69]⟩, .func (.func 75) #[] #[], .func (.func 76) #[] #[], .string ⟨#[70, 69, 84, 67, 72]⟩, .func (.func 81) #[] #[], .func (.func 82) #[] #[], .string ⟨#[67, 79, 80, 89]⟩, .func (.func 83) #[] #[], .func (.func 84) #[] #[], .string ⟨#[83, 84, 65, 84, 85, 83]⟩, .func (.func 75) #[] #[], .func (.func 76) #[] #[], .string ⟨#[67, 72, 65, 78, 71, 69, 83]⟩, .func (.func 85) #[] #[], .func (.func 86) #[] #[], .string ⟨#[76, 73, 83, 84]⟩, .func (.func 87) #[] #[], .func (.func 88) #[] #[]] 69) := by rw [hw2]; exact box_new w1 _
      have D2 := Below.step D1 B2
      clear hw2
      have KV := box_below B2 KV0
      refine hK.out _ _ (HS.out _ D2) (fun hHeld => ?_)
      clear hK K
      refine wpAnyH_more (S' := fun w' => (w'.cell? ⟨w1.heap.size, 27, none⟩ = some (.string ⟨#[76, 73, 83, 84]⟩) ∧ w'.cell? ⟨w1.heap.size, 28, none⟩ = some (.func (.func 87) #[] #[]) ∧ w'.cell? ⟨w1.heap.size, 29, none⟩ = some (.func (.func 88) #[] #[])) ∧ w'.cell? ⟨w.heap.size, 0, none⟩ = some (.int .i64 9)) (fun _ h => h.2) _ _ _ _ ?_
      replace hHeld := And.intro (formAt9 KF2) hHeld
      refine tk 3 11 ?vt122 ?ht122 hHeld ?_; case ht122 => (intro w s; (try dsimp only at s); go_simp <;> with_reducible rfl)
      conv => arg 8; simp only [Act.put, sA, s0, sS]
      refine tk 4 12 ?vt123 ?ht123 hHeld ?_; case ht123 => (intro w s; (try dsimp only at s); go_simp <;> with_reducible rfl)
      conv => arg 8; simp only [Act.put, sA, s0, sS]
      obtain ⟨oz, ol⟩ := box8z KV
      obtain ⟨o0, o1, o2⟩ := bx3 KV
      have hlv : A.heap.size ≤ wd.heap.size := C0.size
      have KW : (((w2.setCell ⟨wd.heap.size, 0, none⟩ (.string ⟨#[76, 73, 83, 84]⟩)).setCell ⟨wd.heap.size, 1, none⟩ (.func (.func 87) #[] #[])).setCell ⟨wd.heap.size, 2, none⟩ (.func (.func 88) #[] #[])).heap[wd.heap.size]? = some (.cells #[.string ⟨#[76, 73, 83, 84]⟩, .func (.func 87) #[] #[], .func (.func 88) #[] #[]] 69 (0, 0)) := box_set (i := 2) (box_set (i := 1) (box_set (i := 0) KV))
      have DW : Below A.heap.size A (((w2.setCell ⟨wd.heap.size, 0, none⟩ (.string ⟨#[76, 73, 83, 84]⟩)).setCell ⟨wd.heap.size, 1, none⟩ (.func (.func 87) #[] #[])).setCell ⟨wd.heap.size, 2, none⟩ (.func (.func 88) #[] #[])) := ((D2.setCell (p := ⟨wd.heap.size, 0, none⟩) hlv _).setCell (p := ⟨wd.heap.size, 1, none⟩) hlv _).setCell (p := ⟨wd.heap.size, 2, none⟩) hlv _
      have KFW := box_other (i := 2) (v := .func (.func 88) #[] #[]) (box_other (i := 1) (v := .func (.func 87) #[] #[]) (box_other (i := 0) (v := .string ⟨#[76, 73, 83, 84]⟩) KF2 (show w1.heap.size ≠ wd.heap.size by omega)) (show w1.heap.size ≠ wd.heap.size by omega)) (show w1.heap.size ≠ wd.heap.size by omega)
      have st1 := run_storeF (P := Tryd.prog) (w2.setCell ⟨wd.heap.size, 0, none⟩ (.string ⟨#[76, 73, 83, 84]⟩)) wd.heap.size 1 _ _ (.func (.func 87) #[] #[]) (box_set (i := 0) KV) (by simp) rfl
      have st2 := run_storeF (P := Tryd.prog) ((w2.setCell ⟨wd.heap.size, 0, none⟩ (.string ⟨#[76, 73, 83, 84]⟩)).setCell ⟨wd.heap.size, 1, none⟩ (.func (.func 87) #[] #[])) wd.heap.size 2 _ _ (.func (.func 88) #[] #[]) (box_set (i := 1) (box_set (i := 0) KV)) (by simp) rfl
      refine wpAnyH_ready (rs := [6]) (by kernel_rfl) (by simp) ?_
      refine AllReadyH.cons rfl (fun K hK => ?_) AllReadyH.nil
      go_simp
      refine hK.out _ _ (⟨formAt9 KFW, HS.out _ DW⟩) (fun hHeld => ?_)
      clear hK K
      refine wpAnyH_done (by kernel_rfl) ?_ _
      go_wp2
      go_meet
      case rel => exact ⟨wd.heap.size, rfl, KW, DW⟩
  case rest =>
    obtain ⟨b4, rfl, K4, X4⟩ := hcut
    clear f0 f1 f2 f3 f4 f5 f6 f7 hlA HS C0
    have HS2 : Hid (∀ w', Below wc.heap.size wc w' → (w'.cell? ⟨b4, 0, none⟩ = some (.string ⟨#[76, 73, 83, 84]⟩) ∧ w'.cell? ⟨b4, 1, none⟩ = some (.func (.func 87) #[] #[]) ∧ w'.cell? ⟨b4, 2, none⟩ = some (.func (.func 88) #[] #[])) ∧ w'.cell? ⟨w.heap.size, 0, none⟩ = some (.int .i64 9) ∧ w'.cell? ⟨w.heap.size, 1, none⟩ = some (.slice a0 n0 c0) ∧ w'.cell? ⟨w.heap.size, 2, none⟩ = some (.slice a1 n1 c1) ∧ w'.cell? ⟨w.heap.size, 3, none⟩ = some (.int .i64 uid) ∧ w'.cell? ⟨w.heap.size, 4, none⟩ = some (.int .i64 mode) ∧ w'.cell? ⟨w.heap.size, 5, none⟩ = some (.int .i64 fl) ∧ w'.cell? ⟨w.heap.size, 6, none⟩ = some (.int .i64 si) ∧ w'.cell? ⟨w.heap.size, 7, none⟩ = some (.slice a2 n2 c2)) := by
      intro w' h
      obtain ⟨p0, p1, p2⟩ := bx3 (box_below h K4.out)
      exact ⟨⟨p0, p1, p2⟩, box8 (box_below h (box_below X4.out HK.out))⟩
    have XC : Hid (Below w.heap.size w wc) := Below.step XA.out X4.out
    have D0 : Below wc.heap.size wc wc.drew := (Below.refl _ _).drew
    have hsC := XC.out.size
    obtain ⟨p0, p1, p2⟩ := bx3 K4.out
    have hl4 := lt_of_heap K4.out
    obtain ⟨f0, f1, f2, f3, f4, f5, f6, f7⟩ := box8 (box_below X4.out HK.out)
    have hlA := lt_of_heap (box_below X4.out HK.out)
    go_wp2
    refine wp_region_held_drew (S := fun w' => (w'.cell? ⟨b4, 0, none⟩ = some (.string ⟨#[76, 73, 83, 84]⟩) ∧ w'.cell? ⟨b4, 1, none⟩ = some (.func (.func 87) #[] #[]) ∧ w'.cell? ⟨b4, 2, none⟩ = some (.func (.func 88) #[] #[])) ∧ w'.cell? ⟨w.heap.size, 0, none⟩ = some (.int .i64 9) ∧ w'.cell? ⟨w.heap.size, 1, none⟩ = some (.slice a0 n0 c0) ∧ w'.cell? ⟨w.heap.size, 2, none⟩ = some (.slice a1 n1 c1) ∧ w'.cell? ⟨w.heap.size, 3, none⟩ = some (.int .i64 uid) ∧ w'.cell? ⟨w.heap.size, 4, none⟩ = some (.int .i64 mode) ∧ w'.cell? ⟨w.heap.size, 5, none⟩ = some (.int .i64 fl) ∧ w'.cell? ⟨w.heap.size, 6, none⟩ = some (.int .i64 si) ∧ w'.cell? ⟨w.heap.size, 7, none⟩ = some (.slice a2 n2 c2)) (by kernel_rfl) (HS2.out _ D0) (fun hHeld => (show wpAnyH _ _ _ _ _ 9 #[false, false, false, false, false, false, false, false, false] _ _ from ?_))
    refine tk 0 13 ?vt124 ?ht124 hHeld ?_; case ht124 => (intro w s; (try dsimp only at s); go_simp <;> with_reducible rfl)
    conv => arg 8; simp only [Act.put, sA, s0, sS]
    refine tk 1 14 ?vt125 ?ht125 hHeld ?_; case ht125 => (intro w s; (try dsimp only at s); go_simp <;> with_reducible rfl)
    conv => arg 8; simp only [Act.put, sA, s0, sS]
    refine tk 2 15 ?vt126 ?ht126 hHeld ?_; case ht126 => (intro w s; (try dsimp only at s); go_simp <;> with_reducible rfl)
    conv => arg 8; simp only [Act.put, sA, s0, sS]
    refine tk 3 16 ?vt127 ?ht127 hHeld ?_; case ht127 => (intro w s; (try dsimp only at s); go_simp <;> with_reducible rfl)
    conv => arg 8; simp only [Act.put, sA, s0, sS]
    refine tk 4 17 ?vt128 ?ht128 hHeld ?_; case ht128 => (intro w s; (try dsimp only at s); go_simp <;> with_reducible rfl)
    conv => arg 8; simp only [Act.put, sA, s0, sS]
    generalize hwd4 : wc.drew = wd4 at *
    refine wpAnyH_ready (rs := [5]) (by kernel_rfl) (by simp) ?_
    refine AllReadyH.cons rfl (fun K hK => ?_) AllReadyH.nil
    go_simp
    refine (HT.out _ (Below.step XC.out D0)).mono ?_
    rintro e w5 ⟨u5, rfl, R5, B5⟩
    have D5 := Below.step D0 B5
    refine hK.out _ _ (HS2.out _ D5) (fun hHeld => ?_)
    clear hK K
    refine wpAnyH_ready (rs := [6]) (by kernel_rfl) (by simp) ?_
    refine AllReadyH.cons rfl (fun K hK => ?_) AllReadyH.nil
    go_simp
    refine (putTokens_b w5.heap.size _ u5 [] (kindW 9) ss _ (OwnB.nil' _ _) (Nat.le_refl _) (by intro x hx; simp [kindW] at hx; omega) (fun wi h => R5.below keepsStr (h.below)) (by simp) (by decide) hsl hst).mono ?_
    rintro e w6 ⟨u6, rfl, R6, B6⟩
    have D6 : Below wc.heap.size wc w6 := Below.step D5 (B6.below)
    refine hK.out _ _ (HS2.out _ D6) (fun hHeld => ?_)
    clear hK K
    refine tk 7 2 ?vt129 ?ht129 hHeld ?_; case ht129 => (intro w s; (try dsimp only at s); go_simp <;> with_reducible rfl)
    conv => arg 8; simp only [Act.put, sA, s0, sS]
    refine tk 8 3 ?vt130 ?ht130 hHeld ?_; case ht130 => (intro w s; (try dsimp only at s); go_simp <;> with_reducible rfl)
    conv => arg 8; simp only [Act.put, sA, s0, sS]
    refine wpAnyH_done (by kernel_rfl) ?_ _
    have HF : Hid (Row w6 w.heap.size w6.heap.size u6 (kindW 9 ++ ss.flatMap tokB)) := by
      have h := R6.toRow
      have h5 := D5.size
      simp only [List.nil_append] at h
      exact h.wide (by omega) (Nat.le_refl _)
    have HB : Hid (Below w.heap.size w w6) := Below.step XC.out D6
    clear HS2 D0 D5 D6 R5 B5 R6 B6 hHeld
    go_wp2
    exact bodyPost_ret (v := .tuple #[u6, .bool true]) (by simp [results, Tryd.results9, go_sem]) rfl ⟨u6, rfl, HF.out, HB.out⟩

end Go.Proofs.YtifpjdpcmfneaaaDoor

/- What slices.IndexFunc and slices.ContainsFunc do of bytes, whatever function is handed in. -/
namespace Go.Proofs.YtifpjdpcmfneaaaDoor
open Go.RowKit Go.Shelf
set_option maxRecDepth 100000

set_option maxHeartbeats 400000 in
theorem indexFuncB (g : Nat) (lb : Array Value) (p : Int → Bool) (v : Value) (l : List Int) (w : World) (hv : Bs w v l) (eg : ∀ args w, (callFunc g args).run Tryd.prog w = .ok (.enter g args) w)
    (hp : ∀ x, 0 ≤ x → x ≤ 255 → Calls Tryd.prog g (#[.int .u8 x] ++ lb) w fun e w' => e = .returned (.bool (p x)) ∧ w' = w) :
    Calls Tryd.prog 162 #[v, .func (.func g) #[] lb] w fun e w' => e = .returned (.int .i64 (firstI p l)) ∧ w' = w := by
  obtain ⟨ho, a, cap, rfl, hlc, hcm, hnil, hcells⟩ := hv
  unfold maxLen at hcm
  go_enter Tryd.func162, Tryd.ntmps162
  go_wp2
  go_loop [5, 8] (fun _ i => ∃ k : Nat, k ≤ l.length ∧ i = .int .i64 k ∧ Hid (∀ j, j < k → p (l.getD j 0) = false)) (fun _ i => l.length - (intOf i).toNat)
  case atStart => exact ⟨0, Nat.zero_le _, rfl, fun j hj => absurd hj (Nat.not_lt_zero _)⟩
  case round =>
    obtain ⟨k, hk, rfl, hA⟩ := hrel
    by_cases hlt : k < l.length
    · obtain ⟨b, off, rfl, hlb, hc⟩ := hcells (by omega)
      have hx := hc k hlt
      have hbx := oct_get ho k
      generalize hy : l.getD k 0 = x at hx hbx
      have HX : Hid (l.getD k 0 = x) := hy
      clear hy hc hcells
      have hcall := hp x hbx.1 hbx.2
      clear hp
      cases hq : p x with
      | true =>
        rw [hq] at hcall
        go_wp2_with (go_at_fn g; refine hcall.mono ?_; rintro e w' ⟨rfl, rfl⟩)
        go_ret
        exact ⟨ret_i (firstI_hit hlt (by rw [HX.out]; exact hq) hA.out).symm, rfl⟩
      | false =>
        rw [hq] at hcall
        go_wp2_with (go_at_fn g; refine hcall.mono ?_; rintro e w' ⟨rfl, rfl⟩)
        go_round
        case rel =>
          refine ⟨k + 1, by omega, by go_num, (show Hid _ from fun j hj => ?_)⟩
          by_cases e : j = k
          · subst e; rw [HX.out]; exact hq
          · exact hA.out j (by omega)
        case measure => simp [intOf]; omega
    · obtain rfl : k = l.length := by omega
      go_wp2
      go_ret
      exact ⟨ret_i (firstI_none hA.out).symm, rfl⟩

set_option maxHeartbeats 400000 in
theorem containsFuncB (g : Nat) (lb : Array Value) (p : Int → Bool) (v : Value) (l : List Int) (w : World) (hv : Bs w v l) (eg : ∀ args w, (callFunc g args).run Tryd.prog w = .ok (.enter g args) w)
    (hp : ∀ x, 0 ≤ x → x ≤ 255 → Calls Tryd.prog g (#[.int .u8 x] ++ lb) w fun e w' => e = .returned (.bool (p x)) ∧ w' = w) :
    Calls Tryd.prog 145 #[v, .func (.func g) #[] lb] w fun e w' => e = .returned (.bool (l.any p)) ∧ w' = w := by
  have hi := indexFuncB g lb p v l w hv eg hp
  have HF : Hid (l.any p = decide (0 ≤ firstI p l)) := any_firstI p l
  generalize firstI p l = i at hi HF
  obtain ⟨ho, a, cap, rfl, -⟩ := hv
  clear hp
  go_enter Tryd.func145, Tryd.ntmps145
  go_wp2_with (go_at_call 162; refine hi.mono ?_; rintro e w' ⟨rfl, rfl⟩)
  go_ret
  exact ⟨ret_b HF.out, rfl⟩

end Go.Proofs.YtifpjdpcmfneaaaDoor

/- What within, allWithin, nameOk, nameWanted, textOk of package impl do. -/
namespace Go.Proofs.YtifpjdpcmfneaaaDoor
open Go.RowKit Go.Shelf
set_option maxRecDepth 100000

theorem textB_len {l : List Int} (h : textB l = true) : l.length ≤ 30 := by unfold textB at h; simp at h; exact h.1

theorem within_any (n lo hi : Int) (w : World) :
    Calls Tryd.prog 71 #[.int .i64 n, .int .i64 lo, .int .i64 hi] w fun e w' => e = .returned (.bool (inB n lo hi)) ∧ w' = w := by
  by_cases h0 : lo ≤ n
  · by_cases h1 : n ≤ hi
    · go_enter Tryd.func71, Tryd.ntmps71
      go_wp2
      go_ret
      exact ⟨ret_b (by simp [inB, h0, h1]), rfl⟩
    · go_enter Tryd.func71, Tryd.ntmps71
      go_wp2
      go_ret
      exact ⟨ret_b (by simp [inB, h1]), rfl⟩
  · go_enter Tryd.func71, Tryd.ntmps71
    go_wp2
    go_ret
    exact ⟨ret_b (by simp [inB]; omega), rfl⟩

theorem allWithin1_any (x lo hi : Int) (b1 b2 : Nat) (w : World) (c1 : w.cell? ⟨b1, 0, none⟩ = some (.int .u8 lo)) (c2 : w.cell? ⟨b2, 0, none⟩ = some (.int .u8 hi)) :
    Calls Tryd.prog 146 #[.int .u8 x, .pointer (some ⟨b1, 0, none⟩), .pointer (some ⟨b2, 0, none⟩)] w fun e w' => e = .returned (.bool (decide (x < lo) || decide (hi < x))) ∧ w' = w := by
  by_cases h0 : x < lo
  · go_enter Tryd.func146, Tryd.ntmps146
    go_wp2
    go_ret
    exact ⟨ret_b (by simp [h0]), rfl⟩
  · go_enter Tryd.func146, Tryd.ntmps146
    go_wp2
    go_ret
    exact ⟨ret_b (by simp; omega), rfl⟩

theorem allIn_any (lo hi : Int) (l : List Int) : (!l.any fun x => decide (x < lo) || decide (hi < x)) = allIn lo hi l := by
  induction l with
  | nil => rfl
  | cons x l ih =>
    simp only [List.any_cons, allIn, List.all_cons, Bool.not_or]
    rw [ih]
    congr 1
    by_cases h0 : x < lo <;> by_cases h1 : hi < x <;> simp [h0, h1] <;> omega

set_option maxHeartbeats 400000 in
theorem allWithin_any (v : Value) (l : List Int) (lo hi : Int) (w : World) (hv : Bs w v l) :
    Calls Tryd.prog 118 #[v, .int .u8 lo, .int .u8 hi] w fun e w' => e = .returned (.bool (allIn lo hi l)) ∧ Below w.heap.size w w' := by
  have bx := boxes2 w (.cells #[.int .u8 lo] 5) (.cells #[.int .u8 hi] 5)
  have H : Hid (Calls Tryd.prog 145 #[v, .func (.func 146) #[] #[.pointer (some ⟨w.heap.size, 0, none⟩), .pointer (some ⟨w.heap.size + 1, 0, none⟩)]] ((w.alloc (.cells #[.int .u8 lo] 5)).alloc (.cells #[.int .u8 hi] 5)) fun e w' => e = .returned (.bool (l.any fun x => decide (x < lo) || decide (hi < x))) ∧ w' = (w.alloc (.cells #[.int .u8 lo] 5)).alloc (.cells #[.int .u8 hi] 5)) := by
    refine containsFuncB _ _ _ v l _ (hv.below bx.2.2) (fun args w => by kernel_rfl) fun x _ _ => allWithin1_any x lo hi _ _ _ ?_ ?_
    · rw [cell_of_row _ _ 0 _ _ (0, 0) bx.1]; rfl
    · rw [cell_of_row _ _ 0 _ _ (0, 0) bx.2.1]; rfl
  have HA := allIn_any lo hi l
  have HB : Hid (Below w.heap.size w ((w.alloc (.cells #[.int .u8 lo] 5)).alloc (.cells #[.int .u8 hi] 5))) := bx.2.2
  generalize (l.any fun x => decide (x < lo) || decide (hi < x)) = X at H HA
  have HA' : Hid ((!X) = allIn lo hi l) := HA
  clear HA bx
  obtain ⟨a, n, c, rfl⟩ := hv.form3
  clear hv
  go_enter Tryd.func118, Tryd.ntmps118
  go_wp2_with (go_at_call 145; refine H.out.mono ?_; rintro e w' ⟨rfl, rfl⟩)
  go_ret
  exact ⟨ret_b HA'.out.symm, HB.out⟩

set_option maxHeartbeats 400000 in
theorem nameOk_any (v : Value) (l : List Int) (w : World) (hv : Bs w v l) :
    Calls Tryd.prog 112 #[v] w fun e w' => e = .returned (.bool (nameB l)) ∧ Below w.heap.size w w' := by
  have H : Hid (Bs w v l) := hv
  obtain ⟨ho, a, cap, rfl, hlc, hcm, -⟩ := hv
  unfold maxLen at hcm
  by_cases h0 : 1 ≤ l.length ∧ l.length ≤ 6
  · have e1 : inB (l.length : Int) 1 6 = true := by simp [inB]; omega
    have e2 : Hid (nameB l = allIn 97 122 l) := by simp [Hid, nameB, h0.1, h0.2]
    have hw := within_any (l.length : Int) 1 6
    rw [e1] at hw
    clear e1
    go_enter Tryd.func112, Tryd.ntmps112
    go_wp2_with (first | (go_at_call 71; refine (hw _).mono ?_; rintro e w' ⟨rfl, rfl⟩) | (go_at_call 118; refine (allWithin_any _ l 97 122 _ H.out).mono ?_; rintro e w1 ⟨rfl, B⟩))
    go_ret
    exact ⟨ret_b e2.out, B⟩
  · have e1 : inB (l.length : Int) 1 6 = false := by simp [inB]; omega
    have e2 : Hid (nameB l = false) := by
      simp only [Hid, nameB]
      by_cases h1 : 1 ≤ l.length
      · simp [show ¬ l.length ≤ 6 by omega]
      · simp [h1]
    have hw := within_any (l.length : Int) 1 6
    rw [e1] at hw
    clear e1
    go_enter Tryd.func112, Tryd.ntmps112
    go_wp2_with (first | (go_at_call 71; refine (hw _).mono ?_; rintro e w' ⟨rfl, rfl⟩))
    go_ret
    exact ⟨ret_b e2.out, Below.refl _ _⟩

set_option maxHeartbeats 400000 in
theorem textOk_any (v : Value) (l : List Int) (w : World) (hv : Bs w v l) :
    Calls Tryd.prog 74 #[v] w fun e w' => e = .returned (.bool (textB l)) ∧ Below w.heap.size w w' := by
  have H : Hid (Bs w v l) := hv
  obtain ⟨ho, a, cap, rfl, hlc, hcm, -⟩ := hv
  unfold maxLen at hcm
  by_cases h0 : l.length ≤ 30
  · have e2 : Hid (textB l = allIn 32 126 l) := by simp [Hid, textB, h0]
    go_enter Tryd.func74, Tryd.ntmps74
    go_wp2_with (first | (go_at_call 118; refine (allWithin_any _ l 32 126 _ H.out).mono ?_; rintro e w1 ⟨rfl, B⟩))
    go_ret
    exact ⟨ret_b e2.out, B⟩
  · have e2 : Hid (textB l = false) := by simp [Hid, textB, h0]
    go_enter Tryd.func74, Tryd.ntmps74
    go_wp2
    go_ret
    exact ⟨ret_b e2.out, Below.refl _ _⟩

end Go.Proofs.YtifpjdpcmfneaaaDoor

/- What wantsOf of package impl does. -/
namespace Go.Proofs.YtifpjdpcmfneaaaDoor
open Go.RowKit
set_option maxRecDepth 100000

set_option maxHeartbeats 400000 in
theorem nameWanted_any (wt : Bool) (v : Value) (l : List Int) (w : World) (hv : Bs w v l) :
    Calls Tryd.prog 73 #[.bool wt, v] w fun e w' => e = .returned (.bool (bif wt then nameB l else decide (l.length = 0))) ∧ Below w.heap.size w w' := by
  have H : Hid (Bs w v l) := hv
  obtain ⟨ho, a, cap, rfl, hlc, hcm, -⟩ := hv
  cases wt with
  | true =>
    go_enter Tryd.func73, Tryd.ntmps73
    go_wp2_with (first | (go_at_call 112; refine (nameOk_any _ l _ H.out).mono ?_; rintro e w1 ⟨rfl, B⟩))
    go_ret
    exact ⟨ret_b rfl, B⟩
  | false =>
    by_cases h : l.length = 0
    · have h' : l = [] := List.eq_nil_of_length_eq_zero h
      subst h'
      go_enter Tryd.func73, Tryd.ntmps73
      go_wp2
      go_ret
      exact ⟨ret_b rfl, Below.refl _ _⟩
    · have h2 : (l.length : Int) ≠ 0 := by omega
      have e : Hid ((bif false then nameB l else decide (l.length = 0)) = false) := by simp [Hid]; exact fun e => h (by rw [e]; rfl)
      generalize l.length = n at h2 hlc h e
      go_enter Tryd.func73, Tryd.ntmps73
      go_wp2
      go_ret
      exact ⟨ret_b (e.out.trans (by simp [h])), Below.refl _ _⟩

/-- Which fields a kind of command has. -/
def wantsV (k : Int) : Value :=
  .agg #[.bool (!decide (k = 9)), .bool (decide (k = 6)), .int .i64 (if k = 3 ∨ k = 5 ∨ k = 6 then 1 else 0), .int .i64 (if k = 3 ∨ k = 5 ∨ k = 6 then 1000000 else 0), .int .i64 (if k = 3 then 2 else if k = 6 then 1 else 0),
    .int .i64 (if k = 2 ∨ k = 3 then 31 else 0), .int .i64 (if k = 3 ∨ k = 8 then 1000000 else 0), .int .i64 (if k = 2 then 30 else 0)]

set_option maxHeartbeats 1000000 in
theorem wantsOf_any (k : Int) (h : 0 ≤ k ∧ k ≤ 9) (w : World) :
    Calls Tryd.prog 72 #[.int .i64 k] w fun e w' => e = .returned (wantsV k) ∧ Below w.heap.size w w' := by
  have hk : k = 0 ∨ k = 1 ∨ k = 2 ∨ k = 3 ∨ k = 4 ∨ k = 5 ∨ k = 6 ∨ k = 7 ∨ k = 8 ∨ k = 9 := by omega
  clear h
  rcases hk with rfl | rfl | rfl | rfl | rfl | rfl | rfl | rfl | rfl | rfl
  all_goals
    go_enter Tryd.func72, Tryd.ntmps72
    go_wp2
  all_goals refine bodyPost_ret (v := wantsV _) (by simp [results, Tryd.results72, go_sem, wantsV]) rfl ⟨rfl, ?_⟩
  all_goals exact (Below.refl _ _).alloc (Nat.le_refl _) _

end Go.Proofs.YtifpjdpcmfneaaaDoor

/- What CmdOk of package impl does. -/
namespace Go.Proofs.YtifpjdpcmfneaaaDoor
open Go.RowKit
set_option maxRecDepth 100000
set_option linter.unusedVariables false

theorem cmdB_conj (k : Int) (h : 0 ≤ k ∧ k ≤ 9) (bx tt : List Int) (uid mode fl si : Int) (tx : List Int) : cmdB k bx tt uid mode fl si tx =
    ((bif (!decide (k = 9)) then nameB bx else decide (bx.length = 0)) && ((bif decide (k = 6) then nameB tt else decide (tt.length = 0)) && (inB uid (if k = 3 ∨ k = 5 ∨ k = 6 then 1 else 0) (if k = 3 ∨ k = 5 ∨ k = 6 then 1000000 else 0) && (inB mode 0 (if k = 3 then 2 else if k = 6 then 1 else 0) && (inB fl 0 (if k = 2 ∨ k = 3 then 31 else 0) && (inB si 0 (if k = 3 ∨ k = 8 then 1000000 else 0) && (decide ((tx.length : Int) ≤ (if k = 2 then 30 else 0)) && textB tx))))))) := by
  have hk : k = 0 ∨ k = 1 ∨ k = 2 ∨ k = 3 ∨ k = 4 ∨ k = 5 ∨ k = 6 ∨ k = 7 ∨ k = 8 ∨ k = 9 := by omega
  have z := textB_nil (l := tx)
  have z2 := textB_len (l := tx)
  unfold cmdB inB
  generalize textB tx = T at *
  generalize nameB bx = NB at *
  generalize nameB tt = NT at *
  generalize tx.length = n at *
  generalize bx.length = n1 at *
  generalize tt.length = n2 at *
  clear h
  rcases hk with rfl | rfl | rfl | rfl | rfl | rfl | rfl | rfl | rfl | rfl <;> cases T <;> cases NB <;> cases NT <;> rw [Bool.eq_iff_iff] <;> simp at * <;> omega

set_option maxRecDepth 100000 in
set_option maxHeartbeats 2000000 in
theorem implCmdOk_gen (k : Int) (hk : 0 ≤ k ∧ k ≤ 9) (W0 W1 : Bool) (W2 W3 W4 W5 W6 W7 : Int) (hW : wantsV k = .agg #[.bool W0, .bool W1, .int .i64 W2, .int .i64 W3, .int .i64 W4, .int .i64 W5, .int .i64 W6, .int .i64 W7]) (a0 a1 a2 : Option Addr) (nb nt nx c0 c1 c2 : Nat) (bx tt : List Int) (uid mode fl si : Int) (tx : List Int) (w : World)
    (H0 : Hid (∀ wi, Below w.heap.size w wi → Bs wi (.slice a0 nb c0) bx ∧ Bs wi (.slice a1 nt c1) tt ∧ Bs wi (.slice a2 nx c2) tx)) (c : Bool)
    (HC : Hid (c = ((bif W0 then nameB bx else decide (bx.length = 0)) && ((bif W1 then nameB tt else decide (tt.length = 0)) && (inB uid W2 W3 && (inB mode 0 W4 && (inB fl 0 W5 && (inB si 0 W6 && (decide ((nx : Int) ≤ W7) && textB tx))))))))) :
    Calls Tryd.prog 30 #[.agg #[.int .i64 k, .slice a0 nb c0, .slice a1 nt c1, .int .i64 uid, .int .i64 mode, .int .i64 fl, .int .i64 si, .slice a2 nx c2]] w fun e w' => e = .returned (.bool c) ∧ Below w.heap.size w w' := by
  have hp : ∀ w, Calls Tryd.prog 72 #[.int .i64 k] w fun e w' => e = .returned (.agg #[.bool W0, .bool W1, .int .i64 W2, .int .i64 W3, .int .i64 W4, .int .i64 W5, .int .i64 W6, .int .i64 W7]) ∧ Below w.heap.size w w' := fun w => by rw [← hW]; exact wantsOf_any k hk w
  have ab : ∀ (x : World) o, Below x.heap.size x (x.alloc o) := fun x o => (Below.refl _ _).alloc (Nat.le_refl _) o
  have hin : ∀ w, Calls Tryd.prog 71 #[.int .i64 k, .int .i64 0, .int .i64 9] w fun e w' => e = .returned (.bool true) ∧ w' = w := fun w => by
    have h := within_any k 0 9 w
    rwa [show inB k 0 9 = true by simp [inB, hk.1, hk.2]] at h
  clear hW
  have hy0 : ∀ w (_ : Bs w (.slice a0 nb c0) bx), Calls Tryd.prog 73 #[.bool W0, .slice a0 nb c0] w fun e w' => e = .returned (.bool (bif W0 then nameB bx else decide (bx.length = 0))) ∧ Below w.heap.size w w' := fun w h => nameWanted_any _ _ bx w h
  have hy1 : ∀ w (_ : Bs w (.slice a1 nt c1) tt), Calls Tryd.prog 73 #[.bool W1, .slice a1 nt c1] w fun e w' => e = .returned (.bool (bif W1 then nameB tt else decide (tt.length = 0))) ∧ Below w.heap.size w w' := fun w h => nameWanted_any _ _ tt w h
  have hy2 := within_any uid W2 W3
  have hy3 := within_any mode 0 W4
  have hy4 := within_any fl 0 W5
  have hy5 := within_any si 0 W6
  have hy7 := textOk_any (.slice a2 nx c2) tx
  generalize (bif W0 then nameB bx else decide (bx.length = 0)) = X0 at HC hy0
  generalize (bif W1 then nameB tt else decide (tt.length = 0)) = X1 at HC hy1
  generalize inB uid W2 W3 = X2 at HC hy2
  generalize inB mode 0 W4 = X3 at HC hy3
  generalize inB fl 0 W5 = X4 at HC hy4
  generalize inB si 0 W6 = X5 at HC hy5
  generalize textB tx = X7 at HC hy7
  have bx0 := box_new w (.cells #[.int .i64 k, .slice a0 nb c0, .slice a1 nt c1, .int .i64 uid, .int .i64 mode, .int .i64 fl, .int .i64 si, .slice a2 nx c2] 28)
  go_enter Tryd.func30, Tryd.ntmps30
  go_wp2_with fail
  refine (hin _).mono ?_
  rintro e w' ⟨rfl, rfl⟩
  go_wp2_with fail
  refine (hp _).mono ?_
  rintro e w1 ⟨rfl, B⟩
  have X := Below.step (ab w _) B
  have s1 : w.heap.size < w1.heap.size := by have := B.size; simp at this; omega
  have kc := box_below B bx0
  clear bx0 B hp hin
  obtain ⟨c_0, c_1, c_2, c_3, c_4, c_5, c_6, c_7⟩ := box8 kc
  have kw := box_new w1 (.cells #[.bool W0, .bool W1, .int .i64 W2, .int .i64 W3, .int .i64 W4, .int .i64 W5, .int .i64 W6, .int .i64 W7] 111)
  replace kc := box_alloc kc (.cells #[.bool W0, .bool W1, .int .i64 W2, .int .i64 W3, .int .i64 W4, .int .i64 W5, .int .i64 W6, .int .i64 W7] 111)
  replace X := Below.step X (ab w1 (.cells #[.bool W0, .bool W1, .int .i64 W2, .int .i64 W3, .int .i64 W4, .int .i64 W5, .int .i64 W6, .int .i64 W7] 111))
  clear ab
  go_wp2_with fail
  refine (hy0 _ (H0.out _ X).1).mono ?_
  rintro e w2 ⟨rfl, B⟩
  clear c_0 c_1 c_2 c_3 c_4 c_5 c_6 c_7 hy0 s1
  replace kc := box_below B kc
  replace kw := box_below B kw
  replace X := Below.step X B
  clear B
  obtain ⟨c_0, c_1, c_2, c_3, c_4, c_5, c_6, c_7⟩ := box8 kc
  obtain ⟨d_0, d_1, d_2, d_3, d_4, d_5, d_6, d_7⟩ := box8 kw
  cases X0 with
  | false =>
    go_wp2
    go_ret
    exact ⟨ret_b HC.out, X⟩
  | true =>
  go_wp2_with fail
  refine (hy1 _ (H0.out _ X).2.1).mono ?_
  rintro e w3 ⟨rfl, B⟩
  clear c_0 c_1 c_2 c_3 c_4 c_5 c_6 c_7 d_0 d_1 d_2 d_3 d_4 d_5 d_6 d_7 hy1
  replace kc := box_below B kc
  replace kw := box_below B kw
  replace X := Below.step X B
  clear B
  obtain ⟨c_0, c_1, c_2, c_3, c_4, c_5, c_6, c_7⟩ := box8 kc
  obtain ⟨d_0, d_1, d_2, d_3, d_4, d_5, d_6, d_7⟩ := box8 kw
  cases X1 with
  | false =>
    go_wp2
    go_ret
    exact ⟨ret_b HC.out, X⟩
  | true =>
  go_wp2_with fail
  refine (hy2 _).mono ?_
  rintro e w' ⟨rfl, rfl⟩
  cases X2 with
  | false =>
    go_wp2
    go_ret
    exact ⟨ret_b HC.out, X⟩
  | true =>
  go_wp2_with fail
  refine (hy3 _).mono ?_
  rintro e w' ⟨rfl, rfl⟩
  cases X3 with
  | false =>
    go_wp2
    go_ret
    exact ⟨ret_b HC.out, X⟩
  | true =>
  go_wp2_with fail
  refine (hy4 _).mono ?_
  rintro e w' ⟨rfl, rfl⟩
  cases X4 with
  | false =>
    go_wp2
    go_ret
    exact ⟨ret_b HC.out, X⟩
  | true =>
  go_wp2_with fail
  refine (hy5 _).mono ?_
  rintro e w' ⟨rfl, rfl⟩
  cases X5 with
  | false =>
    go_wp2
    go_ret
    exact ⟨ret_b HC.out, X⟩
  | true =>
  by_cases h6 : (nx : Int) ≤ W7
  · rw [decide_eq_true h6] at HC
    go_wp2_with fail
    refine (hy7 _ (H0.out _ X).2.2).mono ?_
    rintro e w4 ⟨rfl, B⟩
    go_wp2
    go_ret
    exact ⟨ret_b HC.out, Below.step X B⟩
  · rw [decide_eq_false h6] at HC
    go_wp2
    go_ret
    exact ⟨ret_b HC.out, X⟩

set_option maxRecDepth 100000 in
theorem implCmdOk_any (v : Value) (k : Int) (bx tt : List Int) (uid mode fl si : Int) (tx : List Int) (w : World) (hv : CmdV w v k bx tt uid mode fl si tx) :
    Calls Tryd.prog 30 #[v] w fun e w' => e = .returned (.bool (cmdB k bx tt uid mode fl si tx)) ∧ Below w.heap.size w w' := by
  obtain ⟨u0, u1, u2, rfl, g0, g1, g2, i0, i1, i2, i3, i4⟩ := hv
  have H0 : Hid (∀ wi, Below w.heap.size w wi → Bs wi u0 bx ∧ Bs wi u1 tt ∧ Bs wi u2 tx) := fun wi h => ⟨g0.below h, g1.below h, g2.below h⟩
  obtain ⟨a0, c0, rfl⟩ := g0.form
  obtain ⟨a1, c1, rfl⟩ := g1.form
  obtain ⟨a2, c2, rfl⟩ := g2.form
  by_cases h : 0 ≤ k ∧ k ≤ 9
  · exact implCmdOk_gen k h _ _ _ _ _ _ _ _ rfl a0 a1 a2 _ _ _ c0 c1 c2 bx tt uid mode fl si tx w H0 _ (cmdB_conj k h bx tt uid mode fl si tx)
  · have HZ : Hid (cmdB k bx tt uid mode fl si tx = false) := by simp [Hid, cmdB, h]
    have hin : ∀ w, Calls Tryd.prog 71 #[.int .i64 k, .int .i64 0, .int .i64 9] w fun e w' => e = .returned (.bool false) ∧ w' = w := fun w => by
      have h' := within_any k 0 9 w
      rwa [show inB k 0 9 = false by simp [inB]; omega] at h'
    go_enter Tryd.func30, Tryd.ntmps30
    go_wp2_with fail
    refine (hin _).mono ?_
    rintro e w' ⟨rfl, rfl⟩
    go_wp2
    go_ret
    exact ⟨ret_b HZ.out, (Below.refl _ _).alloc (Nat.le_refl _) _⟩

end Go.Proofs.YtifpjdpcmfneaaaDoor

/- What CmdText of package impl does. -/
namespace Go.Proofs.YtifpjdpcmfneaaaDoor
open Go.RowKit
set_option maxRecDepth 100000
set_option linter.unusedVariables false
set_option linter.unusedSimpArgs false

theorem flat_tokB (ss : List (List Int)) : ss.flatMap tokB = ss.flatMap (fun s => [32] ++ s) := rfl
theorem tab_keeps {w wi : World} (ht : Tab10 w) (h : Below w.heap.size w wi) : Tab10 wi := Lib.tabBelow_of_tabIs ht _ h

set_option maxRecDepth 100000 in
set_option maxHeartbeats 2000000 in
theorem implCmdText_r (v : Value) (k : Int) (bx tt : List Int) (uid mode fl si : Int) (tx : List Int) (w : World) (hv : CmdV w v k bx tt uid mode fl si tx) (ht : Tab10 w) :
    Calls Tryd.prog 9 #[v] w fun e w' => ∃ u, e = .returned (.tuple #[u, .bool (cmdB k bx tt uid mode fl si tx)]) ∧ Row w' w.heap.size w'.heap.size u (ctB k bx tt uid mode fl si tx) ∧ Below w.heap.size w w' := by
  have HV : Hid (∀ wi, Below w.heap.size w wi → CmdV wi v k bx tt uid mode fl si tx) := fun wi h => hv.below h
  have HO0 : Hid (∀ wi, Below w.heap.size w wi → Calls Tryd.prog 30 #[v] wi fun e w' => e = .returned (.bool (cmdB k bx tt uid mode fl si tx)) ∧ Below wi.heap.size wi w') := fun wi h => implCmdOk_any v k bx tt uid mode fl si tx wi (hv.below h)
  obtain ⟨u0, u1, u2, rfl, g0, g1, g2, -⟩ := hv
  obtain ⟨a0, n0, c0, rfl⟩ := g0.form3
  obtain ⟨a1, n1, c1, rfl⟩ := g1.form3
  obtain ⟨a2, n2, c2, rfl⟩ := g2.form3
  clear g0 g1 g2
  cases hok : cmdB k bx tt uid mode fl si tx with
  | false =>
    have HE : Hid (ctB k bx tt uid mode fl si tx = []) := ctB_no hok
    have HO : Hid (∀ wi, Below w.heap.size w wi → Calls Tryd.prog 30 #[.agg #[.int .i64 k, .slice a0 n0 c0, .slice a1 n1 c1, .int .i64 uid, .int .i64 mode, .int .i64 fl, .int .i64 si, .slice a2 n2 c2]] wi fun e w' => e = .returned (.bool false) ∧ Below wi.heap.size wi w') := by rw [hok] at HO0; exact HO0
    clear HO0 hok HV
    have HX : Hid (∀ o, Below w.heap.size w (w.alloc o)) := fun o => (Below.refl _ _).alloc (Nat.le_refl _) o
    go_enter Tryd.func9, Tryd.ntmps9
    go_wp2_with fail
    refine (HO.out _ (HX.out _)).mono ?_
    rintro e w1 ⟨rfl, B⟩
    have X := Below.step (HX.out _) B
    clear B HX HO
    go_wp2
    refine bodyPost_ret (v := .tuple #[.slice none 0 0, .bool false]) (by simp [results, Tryd.results9, go_sem]) rfl ⟨.slice none 0 0, rfl, ?_, X⟩
    rw [HE.out]
    exact Row.nil _ _ _
  | true =>
    obtain ⟨hk, hb, htn, hu, hm, hf, hs, hx⟩ := cmd_facts hok
    have HO : Hid (∀ wi, Below w.heap.size w wi → Calls Tryd.prog 30 #[.agg #[.int .i64 k, .slice a0 n0 c0, .slice a1 n1 c1, .int .i64 uid, .int .i64 mode, .int .i64 fl, .int .i64 si, .slice a2 n2 c2]] wi fun e w' => e = .returned (.bool true) ∧ Below wi.heap.size wi w') := by rw [hok] at HO0; exact HO0
    rw [ctB_yes hok]
    have hbl : bx.length ≤ 6 ∨ k = 9 := by
      by_cases h9 : k = 9
      · exact .inr h9
      · exact .inl (nameB_len (hb h9)).2
    have htl : k = 6 → tt.length ≤ 6 := fun h => (nameB_len (htn h)).2
    have hql := quoB_len tx
    have hfl := flagsB_len fl
    have hdu := digB_len10 (n := uid.toNat) (by omega)
    have hds := digB_len10 (n := si.toNat) (by omega)
    have hmw : (modeW mode).length ≤ 7 := by
      obtain ⟨mn, rfl⟩ : ∃ n : Nat, mode = n := ⟨mode.toNat, by omega⟩
      exact (modeW_ok mn (by omega)).1
    have hsw : sinceW.length = 5 ∧ awayW.length = 4 := ⟨rfl, rfl⟩
    clear HO0 hok hb htn
    have hk' : k = 0 ∨ k = 1 ∨ k = 2 ∨ k = 3 ∨ k = 4 ∨ k = 5 ∨ k = 6 ∨ k = 7 ∨ k = 8 ∨ k = 9 := by omega
    rcases hk' with rfl | rfl | rfl | rfl | rfl | rfl | rfl | rfl | rfl | rfl
    · refine (implCmdText_0 a0 a1 a2 n0 n1 n2 c0 c1 c2 bx tt uid mode fl si tx w HV HO [bx] (by simp) (by intro s hs; simp only [List.mem_cons, List.not_mem_nil, or_false] at hs; rcases hs with rfl <;> omega) (fun wi h => boxTokens_r _ 0 bx tt uid mode fl si tx wi (HV.out wi h))).mono ?_
      rintro e w' ⟨u, rfl, hR, r⟩
      exact ⟨u, rfl, by simpa [toksB, flat_tokB, tokB] using hR, r⟩
    · refine (implCmdText_1 a0 a1 a2 n0 n1 n2 c0 c1 c2 bx tt uid mode fl si tx w HV HO [bx] (by simp) (by intro s hs; simp only [List.mem_cons, List.not_mem_nil, or_false] at hs; rcases hs with rfl <;> omega) (fun wi h => boxTokens_r _ 1 bx tt uid mode fl si tx wi (HV.out wi h))).mono ?_
      rintro e w' ⟨u, rfl, hR, r⟩
      exact ⟨u, rfl, by simpa [toksB, flat_tokB, tokB] using hR, r⟩
    · refine (implCmdText_2 a0 a1 a2 n0 n1 n2 c0 c1 c2 bx tt uid mode fl si tx w HV HO [bx, flagsB fl, quoB tx] (by simp) (by intro s hs; simp only [List.mem_cons, List.not_mem_nil, or_false] at hs; rcases hs with rfl | rfl | rfl <;> omega) (fun wi h => appendTokens_r _ 2 bx tt uid mode fl si tx wi (HV.out wi h) (by omega) (by omega) (by omega))).mono ?_
      rintro e w' ⟨u, rfl, hR, r⟩
      exact ⟨u, rfl, by simpa [toksB, flat_tokB, tokB] using hR, r⟩
    · refine (implCmdText_3 a0 a1 a2 n0 n1 n2 c0 c1 c2 bx tt uid mode fl si tx w HV HO (storeT bx uid mode fl si) (by unfold storeT; split <;> simp) (by unfold storeT; split <;> intro s hs <;> simp only [List.mem_cons, List.not_mem_nil, or_false] at hs <;> (first | (rcases hs with rfl | rfl | rfl | rfl | rfl | rfl <;> omega) | (rcases hs with rfl | rfl | rfl | rfl <;> omega))) (fun wi h => storeTokens_r _ 3 bx tt uid mode fl si tx wi (HV.out wi h) (by omega) (by omega) (by omega) (by omega) (by omega) (by omega) (by omega) (by omega) (tab_keeps ht h))).mono ?_
      rintro e w' ⟨u, rfl, hR, r⟩
      exact ⟨u, rfl, by simpa [toksB, flat_tokB, tokB, storeT] using hR, r⟩
    · refine (implCmdText_4 a0 a1 a2 n0 n1 n2 c0 c1 c2 bx tt uid mode fl si tx w HV HO [bx] (by simp) (by intro s hs; simp only [List.mem_cons, List.not_mem_nil, or_false] at hs; rcases hs with rfl <;> omega) (fun wi h => boxTokens_r _ 4 bx tt uid mode fl si tx wi (HV.out wi h))).mono ?_
      rintro e w' ⟨u, rfl, hR, r⟩
      exact ⟨u, rfl, by simpa [toksB, flat_tokB, tokB] using hR, r⟩
    · refine (implCmdText_5 a0 a1 a2 n0 n1 n2 c0 c1 c2 bx tt uid mode fl si tx w HV HO [bx, digB uid.toNat] (by simp) (by intro s hs; simp only [List.mem_cons, List.not_mem_nil, or_false] at hs; rcases hs with rfl | rfl <;> omega) (fun wi h => fetchTokens_r _ 5 bx tt uid mode fl si tx wi (HV.out wi h) (by omega) (by omega) (tab_keeps ht h))).mono ?_
      rintro e w' ⟨u, rfl, hR, r⟩
      exact ⟨u, rfl, by simpa [toksB, flat_tokB, tokB] using hR, r⟩
    · refine (implCmdText_6 a0 a1 a2 n0 n1 n2 c0 c1 c2 bx tt uid mode fl si tx w HV HO (copyT bx tt uid mode) (by unfold copyT; split <;> simp) (by have := htl rfl; unfold copyT; split <;> intro s hs <;> simp only [List.mem_cons, List.not_mem_nil, or_false] at hs <;> (first | (rcases hs with rfl | rfl | rfl | rfl <;> omega) | (rcases hs with rfl | rfl | rfl <;> omega))) (fun wi h => copyTokens_r _ 6 bx tt uid mode fl si tx wi (HV.out wi h) (by omega) (by omega) (tab_keeps ht h))).mono ?_
      rintro e w' ⟨u, rfl, hR, r⟩
      exact ⟨u, rfl, by simpa [toksB, flat_tokB, tokB, copyT] using hR, r⟩
    · refine (implCmdText_7 a0 a1 a2 n0 n1 n2 c0 c1 c2 bx tt uid mode fl si tx w HV HO [bx] (by simp) (by intro s hs; simp only [List.mem_cons, List.not_mem_nil, or_false] at hs; rcases hs with rfl <;> omega) (fun wi h => boxTokens_r _ 7 bx tt uid mode fl si tx wi (HV.out wi h))).mono ?_
      rintro e w' ⟨u, rfl, hR, r⟩
      exact ⟨u, rfl, by simpa [toksB, flat_tokB, tokB] using hR, r⟩
    · refine (implCmdText_8 a0 a1 a2 n0 n1 n2 c0 c1 c2 bx tt uid mode fl si tx w HV HO [bx, digB si.toNat] (by simp) (by intro s hs; simp only [List.mem_cons, List.not_mem_nil, or_false] at hs; rcases hs with rfl | rfl <;> omega) (fun wi h => changesTokens_r _ 8 bx tt uid mode fl si tx wi (HV.out wi h) (by omega) (by omega) (tab_keeps ht h))).mono ?_
      rintro e w' ⟨u, rfl, hR, r⟩
      exact ⟨u, rfl, by simpa [toksB, flat_tokB, tokB] using hR, r⟩
    · refine (implCmdText_9 a0 a1 a2 n0 n1 n2 c0 c1 c2 bx tt uid mode fl si tx w HV HO [] (by simp) (by intro s hs; cases hs) (fun wi h => noTokens_r _ 9 bx tt uid mode fl si tx wi (HV.out wi h))).mono ?_
      rintro e w' ⟨u, rfl, hR, r⟩
      exact ⟨u, rfl, by simpa [toksB, flat_tokB, tokB] using hR, r⟩

end Go.Proofs.YtifpjdpcmfneaaaDoor

/- The law FnExactCmdText, walked out of the contracts. -/
namespace Go.Proofs.YtifpjdpcmfneaaaDoor
open Go.RowKit
set_option maxRecDepth 100000

/-- Bytes that lie in blocks from B on and below T. -/
def BsI (w : World) (B T : Nat) (v : Value) (l : List Int) : Prop := Bs w v l ∧ ∀ g, v.ownBlock = some g → B ≤ g ∧ (0 < l.length → g < T)
section
variable {w w' : World} {B T B' T' : Nat} {x : Value} {l : List Int}
theorem BsI.bs (h : BsI w B T x l) : Bs w x l := h.1
theorem BsI.below (h : BsI w B T x l) (hb : Below w.heap.size w w') : BsI w' B T x l := ⟨h.1.below hb, h.2⟩
theorem BsI.wide (h : BsI w B T x l) (hB : B' ≤ B) (hT : T ≤ T') : BsI w B' T' x l := ⟨h.1, fun g hg => ⟨Nat.le_trans hB (h.2 g hg).1, fun hp => Nat.lt_of_lt_of_le ((h.2 g hg).2 hp) hT⟩⟩
theorem BsI.keptW (h : BsI w B T x l) (hw : Within B' T' w w') (hd : T ≤ B' ∨ T' ≤ B) : BsI w' B T x l := by
  refine ⟨?_, h.2⟩
  obtain ⟨⟨ho, a, cap, rfl, h1, h2, h3, h4⟩, h5⟩ := h
  refine ⟨ho, a, cap, rfl, h1, h2, h3, fun hp => ?_⟩
  obtain ⟨b, off, rfl, hb, hc⟩ := h4 hp
  have q1 := (h5 b rfl).1
  have q2 := (h5 b rfl).2 hp
  have e : w'.heap[b]? = w.heap[b]? := hw.block b hb (by omega)
  exact ⟨b, off, rfl, Nat.lt_of_lt_of_le hb hw.size, fun i hi => (World.cell?_of_block (a := ⟨b, off + i, none⟩) e).trans (hc i hi)⟩
end
theorem specCmdText_i (v : Value) (k : Int) (bx tt : List Int) (uid mode fl si : Int) (tx : List Int) (w : World) (hv : CmdV w v k bx tt uid mode fl si tx) :
    Calls Tryd.prog 7 #[v] w fun e w' => ∃ u, e = .returned (.tuple #[u, .bool (cmdB k bx tt uid mode fl si tx)]) ∧ BsI w' w.heap.size w'.heap.size u (ctB k bx tt uid mode fl si tx) ∧ Below w.heap.size w w' := by
  refine (specCmdText_r v k bx tt uid mode fl si tx w hv).mono ?_
  rintro e w' ⟨u, rfl, hB, hn, B⟩
  refine ⟨u, rfl, ⟨hB, fun g hg => ⟨hn g hg, fun hp => ?_⟩⟩, B⟩
  obtain ⟨ho, a, cap, rfl, h1, h2, h3, h4⟩ := hB
  obtain ⟨b, off, rfl, hb, -⟩ := h4 hp
  have e : b = g := by simpa [Value.ownBlock] using hg
  rw [← e]
  exact hb
theorem ctB_len (k : Int) (bx tt : List Int) (uid mode fl si : Int) (tx : List Int) : (ctB k bx tt uid mode fl si tx).length ≤ 2000000 := by
  cases h : cmdB k bx tt uid mode fl si tx with
  | false => rw [ctB_no h]; simp
  | true =>
    rw [ctB_yes h]
    obtain ⟨hk, hb, htn, hu, hm, hf, hs, hx⟩ := cmd_facts h
    have hql := quoB_len tx
    have hfl := flagsB_len fl
    have hdu := digB_len10 (n := uid.toNat) (by omega)
    have hds := digB_len10 (n := si.toNat) (by omega)
    have hmw : (modeW mode).length ≤ 7 := by
      obtain ⟨mn, rfl⟩ : ∃ n : Nat, mode = n := ⟨mode.toNat, by omega⟩
      exact (modeW_ok mn (by omega)).1
    have hsw : sinceW.length = 5 ∧ awayW.length = 4 := ⟨rfl, rfl⟩
    have hbl : k ≠ 9 → bx.length ≤ 6 := fun h9 => (nameB_len (hb h9)).2
    have htl : k = 6 → tt.length ≤ 6 := fun h => (nameB_len (htn h)).2
    have hkw : (kindW k).length ≤ 7 := by
      have hk' : k = 0 ∨ k = 1 ∨ k = 2 ∨ k = 3 ∨ k = 4 ∨ k = 5 ∨ k = 6 ∨ k = 7 ∨ k = 8 ∨ k = 9 := by omega
      rcases hk' with rfl | rfl | rfl | rfl | rfl | rfl | rfl | rfl | rfl | rfl <;> decide
    rw [List.length_append]
    have key : ((toksB k bx tt uid mode fl si tx).flatMap (fun s => [32] ++ s)).length ≤ 1000 := by
      have hk' : k = 0 ∨ k = 1 ∨ k = 2 ∨ k = 3 ∨ k = 4 ∨ k = 5 ∨ k = 6 ∨ k = 7 ∨ k = 8 ∨ k = 9 := by omega
      rcases hk' with rfl | rfl | rfl | rfl | rfl | rfl | rfl | rfl | rfl | rfl <;> simp [toksB] <;> (try split) <;> (try simp) <;> (try have := hbl (by omega)) <;> (try have := htl rfl) <;> omega
    omega
theorem markByteS_w (B T : Nat) (v : Value) (l : List Int) (k : Int) (w : World) (hv : Row w B T v l) (hl : l.length ≤ 2000000) (hk0 : 0 ≤ k) (hk1 : k ≤ 1000000000000) :
    Calls Tryd.prog 13 #[v, .int .i64 k] w fun e w' => e = .returned (.int .i64 (k + l.length)) ∧ Row w' B T v (marks k l.length) ∧ Within B T w w' :=
  (markByteS_r B T v l k w hv hl hk0 hk1).mono fun _ _ ⟨h1, h2, h3⟩ => ⟨h1, h2, hv.within h3⟩

set_option maxRecDepth 100000 in
set_option maxHeartbeats 4000000 in
theorem exactCmdText_walk (v : Value) (k : Int) (bx tt : List Int) (uid mode fl si : Int) (tx : List Int) (w : World) (hv : CmdV w v k bx tt uid mode fl si tx) (ht : Tab10 w) :
    Calls Tryd.prog 3 #[v] w fun e w' => e = .returned (.bool true) ∧ Below w.heap.size w w' := by
  have HV : Hid (∀ wi, Below w.heap.size w wi → CmdV wi v k bx tt uid mode fl si tx) := fun wi h => hv.below h
  have HT : Hid (∀ wi, Below w.heap.size w wi → Tab10 wi) := fun wi h => tab_keeps ht h
  obtain ⟨v0, v1, v2, rfl, g0, g1, g2, -⟩ := hv
  obtain ⟨e0, e1, e2, rfl⟩ := g0.form3
  obtain ⟨e3, e4, e5, rfl⟩ := g1.form3
  obtain ⟨e6, e7, e8, rfl⟩ := g2.form3
  clear g0 g1 g2 ht
  have hP := ctB_len k bx tt uid mode fl si tx
  generalize hPe : ctB k bx tt uid mode fl si tx = P at hP
  generalize hOe : cmdB k bx tt uid mode fl si tx = ok
  have HPE : Hid (ctB k bx tt uid mode fl si tx = P ∧ cmdB k bx tt uid mode fl si tx = ok) := ⟨hPe, hOe⟩
  clear hPe hOe
  go_enter Tryd.func3, Tryd.ntmps3
  have ab : ∀ o, Below w.heap.size w (w.alloc o) := fun o => (Below.refl _ _).alloc (Nat.le_refl _) o
  go_wp2_with fail
  refine (szCmd_any _ k bx tt uid mode fl si tx 1048576 _ (HV.out _ (ab _)) (by omega) (by omega)).mono ?_
  rintro e w1 ⟨x, rfl, hx, B⟩
  have kA := box_below B (box_new w (.cells #[.int .i64 k, .slice e0 e1 e2, .slice e3 e4 e5, .int .i64 uid, .int .i64 mode, .int .i64 fl, .int .i64 si, .slice e6 e7 e8] 24))
  have X := Below.step (Below.step (Below.refl _ _) (ab _)) B
  have s1 : w.heap.size + 1 ≤ w1.heap.size := by have := B.size; simp at this; omega
  clear B ab
  rcases hx with rfl | ⟨hx0, hx1⟩
  · clear kA
    go_wp2
    go_ret
    exact ⟨rfl, X⟩
  have ha : bx.length ≤ 1048576 := by omega
  have hb : tt.length ≤ 1048576 := by omega
  have hc : tx.length ≤ 1048576 := by omega
  clear hx1
  obtain ⟨fA0, fA1, fA2, fA3, fA4, fA5, fA6, fA7, lA⟩ := box8l kA
  go_wp2_with fail
  refine (toCmd_r _ k bx tt uid mode fl si tx _ (HV.out _ X) (by omega) (by omega) (by omega)).mono ?_
  rintro e w2 ⟨u1, rfl, R1, B⟩
  clear fA0 fA1 fA2 fA3 fA4 fA5 fA6 fA7 lA
  replace kA := box_below B kA
  replace X := Below.step X B
  have s2 : w1.heap.size ≤ w2.heap.size := B.size
  clear B
  obtain ⟨fA0, fA1, fA2, fA3, fA4, fA5, fA6, fA7, lA⟩ := box8l kA
  go_wp2_with fail
  refine (specCmdText_i _ k bx tt uid mode fl si tx _ R1.v).mono ?_
  rintro e w3 ⟨u2, rfl, R2, B⟩
  rw [HPE.out.1] at R2
  rw [HPE.out.2]
  clear fA0 fA1 fA2 fA3 fA4 fA5 fA6 fA7 lA
  replace R1 := R1.below B
  replace kA := box_below B kA
  replace X := Below.step X B
  have s3 : w2.heap.size ≤ w3.heap.size := B.size
  clear B
  clear R1
  obtain ⟨fA0, fA1, fA2, fA3, fA4, fA5, fA6, fA7, lA⟩ := box8l kA
  go_wp2_with fail
  refine (toCmd_r _ k bx tt uid mode fl si tx _ (HV.out _ X) (by omega) (by omega) (by omega)).mono ?_
  rintro e w4 ⟨u3, rfl, R3, B⟩
  clear fA0 fA1 fA2 fA3 fA4 fA5 fA6 fA7 lA
  replace R2 := R2.below B
  replace kA := box_below B kA
  replace X := Below.step X B
  have s4 : w3.heap.size ≤ w4.heap.size := B.size
  clear B
  obtain ⟨p2, q2, z2, rfl, h2p, h2q, h2z, -⟩ := R3.v
  obtain ⟨x2p, n2p, y2p, rfl⟩ := h2p.form3
  obtain ⟨x2q, n2q, y2q, rfl⟩ := h2q.form3
  obtain ⟨x2z, n2z, y2z, rfl⟩ := h2z.form3
  clear h2p h2q h2z
  have ab : ∀ o, Below w4.heap.size w4 (w4.alloc o) := fun o => (Below.refl _ _).alloc (Nat.le_refl _) o
  obtain ⟨fA0, fA1, fA2, fA3, fA4, fA5, fA6, fA7, lA⟩ := box8l kA
  go_wp2_with fail
  refine (implCmdText_r _ k bx tt uid mode fl si tx _ (R3.below (ab _)).v (HT.out _ (Below.step X (ab _)))).mono ?_
  rintro e w5 ⟨u4, rfl, R4, B⟩
  rw [HPE.out.1] at R4
  rw [HPE.out.2]
  clear fA0 fA1 fA2 fA3 fA4 fA5 fA6 fA7 lA
  replace R2 := (R2.below (ab _)).below B
  replace R3 := (R3.below (ab _)).below B
  replace kA := box_below B (box_alloc kA _)
  have kx := box_below B (box_new w4 (.cells #[.int .i64 k, .slice x2p n2p y2p, .slice x2q n2q y2q, .int .i64 uid, .int .i64 mode, .int .i64 fl, .int .i64 si, .slice x2z n2z y2z] 28))
  replace X := Below.step (Below.step X (ab _)) B
  have s5 : w4.heap.size + 1 ≤ w5.heap.size := by have := B.size; simp at this; omega
  replace R4 := R4.wide (B' := w4.heap.size + 1) (by simp) (Nat.le_refl _)
  clear B ab
  obtain ⟨fA0, fA1, fA2, fA3, fA4, fA5, fA6, fA7, lA⟩ := box8l kA
  obtain ⟨fx0, fx1, fx2, fx3, fx4, fx5, fx6, fx7, lx⟩ := box8l kx
  go_wp2_with fail
  refine (eqByteS_yes _ _ P _ R4.bs R2.bs).mono ?_
  rintro e w6 ⟨rfl, B⟩
  clear fA0 fA1 fA2 fA3 fA4 fA5 fA6 fA7 lA fx0 fx1 fx2 fx3 fx4 fx5 fx6 fx7 lx
  replace R2 := R2.below B
  replace R3 := R3.below B
  replace R4 := R4.below B
  replace kA := box_below B kA
  replace kx := box_below B kx
  replace X := Below.step X B
  have s6 : w5.heap.size ≤ w6.heap.size := B.size
  clear B
  have HS : Hid (∀ w', Below w6.heap.size w6 w' → w'.cell? ⟨w4.heap.size, 0, none⟩ = some (.int .i64 k) ∧ w'.cell? ⟨w4.heap.size, 1, none⟩ = some (.slice x2p n2p y2p) ∧ w'.cell? ⟨w4.heap.size, 2, none⟩ = some (.slice x2q n2q y2q) ∧ w'.cell? ⟨w4.heap.size, 3, none⟩ = some (.int .i64 uid) ∧ w'.cell? ⟨w4.heap.size, 4, none⟩ = some (.int .i64 mode) ∧ w'.cell? ⟨w4.heap.size, 5, none⟩ = some (.int .i64 fl) ∧ w'.cell? ⟨w4.heap.size, 6, none⟩ = some (.int .i64 si) ∧ w'.cell? ⟨w4.heap.size, 7, none⟩ = some (.slice x2z n2z y2z) ∧ w'.cell? ⟨w.heap.size, 0, none⟩ = some (.int .i64 k) ∧ w'.cell? ⟨w.heap.size, 1, none⟩ = some (.slice e0 e1 e2) ∧ w'.cell? ⟨w.heap.size, 2, none⟩ = some (.slice e3 e4 e5) ∧ w'.cell? ⟨w.heap.size, 3, none⟩ = some (.int .i64 uid) ∧ w'.cell? ⟨w.heap.size, 4, none⟩ = some (.int .i64 mode) ∧ w'.cell? ⟨w.heap.size, 5, none⟩ = some (.int .i64 fl) ∧ w'.cell? ⟨w.heap.size, 6, none⟩ = some (.int .i64 si) ∧ w'.cell? ⟨w.heap.size, 7, none⟩ = some (.slice e6 e7 e8)) := fun w' h => ⟨(box8l (box_below h kx)).1, (box8l (box_below h kx)).2.1, (box8l (box_below h kx)).2.2.1, (box8l (box_below h kx)).2.2.2.1, (box8l (box_below h kx)).2.2.2.2.1, (box8l (box_below h kx)).2.2.2.2.2.1, (box8l (box_below h kx)).2.2.2.2.2.2.1, (box8l (box_below h kx)).2.2.2.2.2.2.2.1, (box8l (box_below h kA)).1, (box8l (box_below h kA)).2.1, (box8l (box_below h kA)).2.2.1, (box8l (box_below h kA)).2.2.2.1, (box8l (box_below h kA)).2.2.2.2.1, (box8l (box_below h kA)).2.2.2.2.2.1, (box8l (box_below h kA)).2.2.2.2.2.2.1, (box8l (box_below h kA)).2.2.2.2.2.2.2.1⟩
  have DR : Below w6.heap.size w6 w6.drew := (Below.refl _ _).drew
  obtain ⟨fA0, fA1, fA2, fA3, fA4, fA5, fA6, fA7, lA⟩ := box8l kA
  obtain ⟨fx0, fx1, fx2, fx3, fx4, fx5, fx6, fx7, lx⟩ := box8l kx
  go_wp2
  go_region_held3 (fun w' => w'.cell? ⟨w4.heap.size, 0, none⟩ = some (.int .i64 k) ∧ w'.cell? ⟨w4.heap.size, 1, none⟩ = some (.slice x2p n2p y2p) ∧ w'.cell? ⟨w4.heap.size, 2, none⟩ = some (.slice x2q n2q y2q) ∧ w'.cell? ⟨w4.heap.size, 3, none⟩ = some (.int .i64 uid) ∧ w'.cell? ⟨w4.heap.size, 4, none⟩ = some (.int .i64 mode) ∧ w'.cell? ⟨w4.heap.size, 5, none⟩ = some (.int .i64 fl) ∧ w'.cell? ⟨w4.heap.size, 6, none⟩ = some (.int .i64 si) ∧ w'.cell? ⟨w4.heap.size, 7, none⟩ = some (.slice x2z n2z y2z) ∧ w'.cell? ⟨w.heap.size, 0, none⟩ = some (.int .i64 k) ∧ w'.cell? ⟨w.heap.size, 1, none⟩ = some (.slice e0 e1 e2) ∧ w'.cell? ⟨w.heap.size, 2, none⟩ = some (.slice e3 e4 e5) ∧ w'.cell? ⟨w.heap.size, 3, none⟩ = some (.int .i64 uid) ∧ w'.cell? ⟨w.heap.size, 4, none⟩ = some (.int .i64 mode) ∧ w'.cell? ⟨w.heap.size, 5, none⟩ = some (.int .i64 fl) ∧ w'.cell? ⟨w.heap.size, 6, none⟩ = some (.int .i64 si) ∧ w'.cell? ⟨w.heap.size, 7, none⟩ = some (.slice e6 e7 e8))
    (first | go_keep | exact HS.out _ (Below.step (Below.step DR B) B') | exact HS.out _ (Below.step DR B))
    ((first | (go_at_call 8; refine (toCmd_r _ k bx tt uid mode fl si tx _ (HV.out _ (Below.step X DR)) (by omega) (by omega) (by omega)).mono ?_; rintro e w7 ⟨u5, rfl, R5, B⟩) | (go_at_call 11; refine (eqCmd_yes _ _ k bx tt uid mode fl si tx _ ((R3.below DR).below B).v R5.v).mono ?_; rintro e w8 ⟨rfl, B'⟩)))
  clear fA0 fA1 fA2 fA3 fA4 fA5 fA6 fA7 lA fx0 fx1 fx2 fx3 fx4 fx5 fx6 fx7 lx
  replace R2 := ((R2.below DR).below B).below B'
  replace R3 := ((R3.below DR).below B).below B'
  replace R4 := ((R4.below DR).below B).below B'
  replace kA := box_below B' (box_below B (box_below DR kA))
  replace kx := box_below B' (box_below B (box_below DR kx))
  replace X := Below.step (Below.step (Below.step X DR) B) B'
  have s8 : w6.heap.size ≤ w8.heap.size := Nat.le_trans B.size B'.size
  clear HS DR B B' R5
  obtain ⟨fA0, fA1, fA2, fA3, fA4, fA5, fA6, fA7, lA⟩ := box8l kA
  obtain ⟨fx0, fx1, fx2, fx3, fx4, fx5, fx6, fx7, lx⟩ := box8l kx
  go_wp2_with fail
  refine (markCmd_w _ _ _ k bx tt uid mode fl si tx 1 _ R3 (by omega) (by omega) (by omega) (by omega) (by omega) (by omega)).mono ?_
  rintro e w9 ⟨rfl, R3', G⟩
  clear fA0 fA1 fA2 fA3 fA4 fA5 fA6 fA7 lA fx0 fx1 fx2 fx3 fx4 fx5 fx6 fx7 lx
  replace R2 := R2.keptW G (by omega)
  replace R4 := R4.keptW G (by omega)
  replace kA := box_within G kA (by omega)
  replace kx := box_within G kx (by omega)
  replace X := G.below X (by omega)
  have s9 := G.size
  clear G R3
  clear R3'
  clear kx
  obtain ⟨fA0, fA1, fA2, fA3, fA4, fA5, fA6, fA7, lA⟩ := box8l kA
  go_wp2_with fail
  refine (eqByteS_yes _ _ P _ R4.bs R2.bs).mono ?_
  rintro e w10 ⟨rfl, B⟩
  clear fA0 fA1 fA2 fA3 fA4 fA5 fA6 fA7 lA
  replace R2 := R2.below B
  replace R4 := R4.below B
  replace kA := box_below B kA
  replace X := Below.step X B
  have s10 : w9.heap.size ≤ w10.heap.size := B.size
  clear B
  obtain ⟨fA0, fA1, fA2, fA3, fA4, fA5, fA6, fA7, lA⟩ := box8l kA
  go_wp2_with fail
  refine (markByteS_w _ _ _ P 1 _ R4 (by omega) (by omega) (by omega)).mono ?_
  rintro e w11 ⟨rfl, R4', G⟩
  clear fA0 fA1 fA2 fA3 fA4 fA5 fA6 fA7 lA
  replace R2 := R2.keptW G (by omega)
  replace kA := box_within G kA (by omega)
  replace X := G.below X (by omega)
  have s11 := G.size
  clear G R4
  obtain ⟨fA0, fA1, fA2, fA3, fA4, fA5, fA6, fA7, lA⟩ := box8l kA
  go_wp2_with fail
  refine (heldByteS_yes _ P.length 1 _ R4'.bs (by omega) (by omega) (by omega)).mono ?_
  rintro e w12 ⟨rfl, B⟩
  clear fA0 fA1 fA2 fA3 fA4 fA5 fA6 fA7 lA
  replace R2 := R2.below B
  replace R4' := R4'.below B
  replace kA := box_below B kA
  replace X := Below.step X B
  have s12 : w11.heap.size ≤ w12.heap.size := B.size
  clear B
  obtain ⟨fA0, fA1, fA2, fA3, fA4, fA5, fA6, fA7, lA⟩ := box8l kA
  go_wp2_with fail
  refine (toCmd_r _ k bx tt uid mode fl si tx _ (HV.out _ X) (by omega) (by omega) (by omega)).mono ?_
  rintro e w13 ⟨u6, rfl, R6, B⟩
  clear fA0 fA1 fA2 fA3 fA4 fA5 fA6 fA7 lA
  replace R2 := R2.below B
  replace R4' := R4'.below B
  replace kA := box_below B kA
  replace X := Below.step X B
  have s13 : w12.heap.size ≤ w13.heap.size := B.size
  clear B
  obtain ⟨fA0, fA1, fA2, fA3, fA4, fA5, fA6, fA7, lA⟩ := box8l kA
  go_wp2_with fail
  refine (implCmdText_r _ k bx tt uid mode fl si tx _ R6.v (HT.out _ X)).mono ?_
  rintro e w14 ⟨u7, rfl, R7, B⟩
  rw [HPE.out.1] at R7
  rw [HPE.out.2]
  clear fA0 fA1 fA2 fA3 fA4 fA5 fA6 fA7 lA
  replace R2 := R2.below B
  replace R4' := R4'.below B
  replace R6 := R6.below B
  replace kA := box_below B kA
  replace X := Below.step X B
  have s14 : w13.heap.size ≤ w14.heap.size := B.size
  clear B
  clear R6
  obtain ⟨fA0, fA1, fA2, fA3, fA4, fA5, fA6, fA7, lA⟩ := box8l kA
  go_wp2_with fail
  refine (eqByteS_yes _ _ P _ R7.bs R2.bs).mono ?_
  rintro e w15 ⟨rfl, B⟩
  clear fA0 fA1 fA2 fA3 fA4 fA5 fA6 fA7 lA
  replace R2 := R2.below B
  replace R4' := R4'.below B
  replace R7 := R7.below B
  replace kA := box_below B kA
  replace X := Below.step X B
  have s15 : w14.heap.size ≤ w15.heap.size := B.size
  clear B
  clear R7 R2
  obtain ⟨fA0, fA1, fA2, fA3, fA4, fA5, fA6, fA7, lA⟩ := box8l kA
  go_wp2_with fail
  refine (heldByteS_yes _ P.length 1 _ R4'.bs (by omega) (by omega) (by omega)).mono ?_
  rintro e w16 ⟨rfl, B⟩
  clear fA0 fA1 fA2 fA3 fA4 fA5 fA6 fA7 lA
  replace R4' := R4'.below B
  replace kA := box_below B kA
  replace X := Below.step X B
  have s16 : w15.heap.size ≤ w16.heap.size := B.size
  clear B
  clear R4' kA
  go_wp2
  go_ret
  exact ⟨rfl, X⟩

end Go.Proofs.YtifpjdpcmfneaaaDoor

/- From what a row reads of an argument to what the walks ask: a slice of bytes that came in. -/
namespace Go.Proofs.YtifpjdpcmfneaaaDoor
open Go.ChangeShapes Go.WideShapes Go.ChangeAt Go.RowKit

theorem ownKnob_none : ownKnob Tryd.prog.godebug = none := by kernel_rfl
theorem laidOut : laidOutB Tryd.prog = true := by kernel_rfl

theorem wf_byte {n : Int} (h : (Lit.int .u8 n).wf = true) : 0 ≤ n ∧ n ≤ 255 := bounds_u8 h
theorem wf_int {n : Int} (h : (Lit.int .i64 n).wf = true) : -9223372036854775808 ≤ n ∧ n ≤ 9223372036854775807 := bounds_i64 h

/-- A slice of bytes that came in, as the walks want it. -/
theorem open_bytes {H : Type} {enc : TypeId × Value → H} {W : World} {base : Nat} {a : Option Addr} {len cap : Nat} {d : DataW H} {p : List MemPlace}
    (h : DataW.Trod enc Tryd.prog W base (fun _ => true) true 22 (.slice a len cap) d p) : ∃ l, Bs W (.slice a len cap) l := by
  obtain ⟨fuel, hf⟩ := h
  rcases open_ints Tryd.underlying22 Tryd.underlying5 (by kernel_rfl) hf with ⟨hcs, _⟩ | ⟨x, l, c, zs, hcs, _, hl, hm, hz, _, hcell, hwz⟩
  · simp [Value.cells] at hcs
    obtain ⟨rfl, rfl, rfl⟩ := hcs
    exact ⟨[], oct_nil, none, 0, rfl, by simp, by simp, fun _ => rfl, fun h => absurd h (by simp)⟩
  · simp [Value.cells] at hcs
    obtain ⟨rfl, rfl, rfl⟩ := hcs
    simp at hz
    have ht : (zs.take len).length = len := by simp; omega
    refine ⟨zs.take len, fun x hx => wf_byte (hwz x (List.mem_of_mem_take hx)), some x, cap, by rw [ht], by omega, hm, (fun h => by cases h), fun hp => ?_⟩
    rw [ht] at hp
    obtain ⟨b, off, spot⟩ := x
    have h0 := hcell 0 (by omega)
    have hspot : spot = none := by simpa [Addr.add] using World.cell?_spot h0
    subst hspot
    refine ⟨b, off, rfl, ?_, fun i hi => ?_⟩
    · have := World.block_lt_of_cell? W _ h0
      simpa [Addr.add] using this
    · rw [ht] at hi
      have := hcell i (by omega)
      rw [Addr.add_lit] at this
      rw [this]
      simp [hi]

end Go.Proofs.YtifpjdpcmfneaaaDoor

/- A struct's fields laid open. -/
namespace Go.Proofs.YtifpjdpcmfneaaaDoor
open Go.ChangeShapes Go.WideShapes Go.ChangeAt Go.RowKit

/-- One field of a struct that is read; it takes one cell. -/
theorem open_field {H : Type} {enc : TypeId × Value → H} {P : Program} {W : World} {base fuel : Nat} {spare : Nat → Bool} {held : Bool} {t : TypeId} {fs : Array Field} {cs : List Value} {x : DataW H × List MemPlace}
    (ht : P.underlying t = some (.struct fs)) (h : DataW.trod enc P W base spare held fuel t cs = some x) (i : Nat) (ty : TypeId) (off : Nat) (c : Value) (hf : fs[i]?.map (fun f => (f.type, f.offset)) = some (ty, off)) (h1 : P.cellsOf ty = 1) (hc : (cs.drop off).take 1 = [c]) :
    ∃ n y, DataW.trod enc P W base spare held n ty [c] = some y := by
  obtain ⟨f, hf0, hf1⟩ := Option.map_eq_some_iff.1 hf
  simp only [Prod.mk.injEq] at hf1
  obtain ⟨rfl, rfl⟩ := hf1
  obtain ⟨xs, n, _, rfl, hl, hlen, hf'⟩ := DataW.trod_struct ht h
  have := hf' i f (by simpa using hf0)
  rw [h1, hc] at this
  have hi : i < xs.length := by rw [hlen]; exact (Array.getElem?_eq_some_iff.1 hf0).1
  exact ⟨n, xs[i], by rw [this, List.getElem?_eq_getElem hi]⟩

/-- One cell that is read as a slice of bytes. -/
theorem open_cellB {H : Type} {enc : TypeId × Value → H} {W : World} {base fuel : Nat} {c : Value} {y : DataW H × List MemPlace}
    (h : DataW.trod enc Tryd.prog W base (fun _ => true) true fuel 22 [c] = some y) : ∃ l, Bs W c l := by
  have h' := h
  rcases open_ints Tryd.underlying22 Tryd.underlying5 (by kernel_rfl) h with ⟨hcs, _⟩ | ⟨x, l, c', zs, hcs, _⟩
  · obtain rfl : c = .slice none 0 0 := by simpa using hcs
    exact open_bytes (d := y.1) (p := y.2) ⟨fuel, by simpa [Value.cells] using h'⟩
  · obtain rfl : c = .slice (some x) l c' := by simpa using hcs
    exact open_bytes (d := y.1) (p := y.2) ⟨fuel, by simpa [Value.cells] using h'⟩
/-- One cell that is read as a number. -/
theorem open_cellI {H : Type} {enc : TypeId × Value → H} {W : World} {base fuel : Nat} {c : Value} {y : DataW H × List MemPlace}
    (h : DataW.trod enc Tryd.prog W base (fun _ => true) true fuel 3 [c] = some y) : ∃ n, c = .int .i64 n ∧ I64 n := by
  obtain ⟨n, hc, -, hw⟩ := DataW.trod_int Tryd.underlying3 h
  exact ⟨n, by simpa using hc, wf_int hw⟩

theorem cellsB : Tryd.prog.cellsOf 22 = 1 := by kernel_rfl
theorem cellsI : Tryd.prog.cellsOf 3 = 1 := by kernel_rfl

end Go.Proofs.YtifpjdpcmfneaaaDoor

/- From what a row reads of an argument to what the walks ask: a command that came in. -/
namespace Go.Proofs.YtifpjdpcmfneaaaDoor
open Go.ChangeShapes Go.WideShapes Go.ChangeAt Go.RowKit

/-- A command that came in, as the walks want it. -/
theorem open_cmd {H : Type} {enc : TypeId × Value → H} {W : World} {base : Nat} {cs : Array Value} {d : DataW H} {p : List MemPlace} (hs : cs.size = 8)
    (h : DataW.Trod enc Tryd.prog W base (fun _ => true) true 24 (.agg cs) d p) : ∃ k bx tt uid mode fl si tx, CmdV W (.agg cs) k bx tt uid mode fl si tx := by
  obtain ⟨fuel, hf⟩ := h
  obtain ⟨cs⟩ := cs
  match cs, hs with
  | [c0, c1, c2, c3, c4, c5, c6, c7], _ =>
    have u := Tryd.underlying24
    obtain ⟨_, _, h0⟩ := open_field u hf 0 3 0 c0 rfl cellsI rfl
    obtain ⟨_, _, h1⟩ := open_field u hf 1 22 1 c1 rfl cellsB rfl
    obtain ⟨_, _, h2⟩ := open_field u hf 2 22 2 c2 rfl cellsB rfl
    obtain ⟨_, _, h3⟩ := open_field u hf 3 3 3 c3 rfl cellsI rfl
    obtain ⟨_, _, h4⟩ := open_field u hf 4 3 4 c4 rfl cellsI rfl
    obtain ⟨_, _, h5⟩ := open_field u hf 5 3 5 c5 rfl cellsI rfl
    obtain ⟨_, _, h6⟩ := open_field u hf 6 3 6 c6 rfl cellsI rfl
    obtain ⟨_, _, h7⟩ := open_field u hf 7 22 7 c7 rfl cellsB rfl
    obtain ⟨k, rfl, i0⟩ := open_cellI h0
    obtain ⟨bx, b1⟩ := open_cellB h1
    obtain ⟨tt, b2⟩ := open_cellB h2
    obtain ⟨uid, rfl, i3⟩ := open_cellI h3
    obtain ⟨mode, rfl, i4⟩ := open_cellI h4
    obtain ⟨fl, rfl, i5⟩ := open_cellI h5
    obtain ⟨si, rfl, i6⟩ := open_cellI h6
    obtain ⟨tx, b7⟩ := open_cellB h7
    exact ⟨k, bx, tt, uid, mode, fl, si, tx, c1, c2, c7, rfl, b1, b2, b7, i0, i3, i4, i5, i6⟩

end Go.Proofs.YtifpjdpcmfneaaaDoor

/- What the laid variables give a walk; a world that meets them. -/
namespace Go.Proofs.YtifpjdpcmfneaaaDoor
open Go.ChangeShapes Go.WideShapes Go.ChangeAt Go.RowKit Go.Stop

theorem gN : Tryd.prog.globalNamed "loop.example/g00359/impl.errGaveUp" = some 0 := by kernel_rfl
theorem gNType : (Tryd.prog.globals[0]?).map (·.type) = some 149 := by kernel_rfl
theorem gP : Tryd.prog.globalNamed "internal/strconv.uint64pow10" = some 2 := by kernel_rfl
theorem gPType : (Tryd.prog.globals[2]?).map (·.type) = some 186 := by kernel_rfl
theorem cellsE : Tryd.prog.cellsOf 210 = 1 := by kernel_rfl
theorem cellsS : Tryd.prog.cellsOf 9 = 1 := by kernel_rfl
theorem starE : "*" ++ "errors.errorString" = "*errors.errorString" := by decide
theorem rowE (u : TypeId) (h : Tryd.prog.typeName? 3 u = some "*errors.errorString") : u = 194 :=
  typeName_ptr_named (nm := "errors.errorString") (by rw [starE]; kernel_rfl) (by kernel_rfl) (by decide) u (by rw [starE]; exact h)

abbrev laidL : List (String × DataW Unit) := [("math/bits.deBruijn32tab", Rows.laid_math_bits_deBruijn32tab), ("math/bits.deBruijn64tab", Rows.laid_math_bits_deBruijn64tab), ("internal/strconv.uint64pow10", Rows.laid_internal_strconv_uint64pow10), ("loop.example/g00359/impl.errGaveUp", Rows.laid_loop_example_g00359_impl_errGaveUp)]
theorem sent_of_laid {W : World} (h : laidMetH Tryd.prog laidL W) : ∃ ea, W.var? Tryd.prog "loop.example/g00359/impl.errGaveUp" = some #[.iface 194 (.pointer (some ea))] ∧ 0 < W.heap.size := by
  have h' : laidMet Tryd.prog laidL W := h
  obtain ⟨ea, s, hv, -⟩ := laid_sentinel h'.tail.tail.tail gN gNType Tryd.underlying149 rowE Tryd.underlying194 Tryd.underlying210 rfl rfl Tryd.underlying9 cellsE cellsS
  exact ⟨ea, hv, World.block_lt_of_cell? W ⟨0, 0, none⟩ (by simpa using World.var?_cell gN hv 0)⟩
theorem tab_of_laid {W : World} (h : laidMetH Tryd.prog laidL W) : Tab10 W := by
  have h' : laidMet Tryd.prog laidL W := h
  have h2 : laidMet Tryd.prog (("internal/strconv.uint64pow10", Lib.tabData .u64 Lib.pow10Tab) :: [("loop.example/g00359/impl.errGaveUp", Rows.laid_loop_example_g00359_impl_errGaveUp)]) W := h'.tail.tail
  exact Lib.tabIs_of_head gP gPType Tryd.underlying186 Tryd.underlying171 (by kernel_rfl) (by kernel_rfl) h2

def dataCells : DataW Unit → Array Value
  | .agg l => (l.map fun
    | .lit (.int k z) => Value.int k z
    | _ => undef).toArray
  | _ => #[]
abbrev upS : ByteArray := { data := #[116, 104, 101, 32, 114, 101, 97, 100, 101, 114, 32, 103, 97, 118, 101, 32, 117, 112] }
noncomputable def low : Nat := (World.holding Tryd.prog default ⟨#[], #[], []⟩).heap.size
def layCells (cs : Array Value) : Obj → Obj
  | .cells _ t frozen => .cells cs t frozen
  | o => o
noncomputable def laidWorld (os : Os) : World :=
  let w0 := World.holding Tryd.prog os ⟨#[.cells #[.string upS] 210], #[], []⟩
  { w0 with heap := (((w0.heap.modify 0 (layCells #[.iface 194 (.pointer (some ⟨low, 0, none⟩))])).modify 2 (layCells (dataCells Rows.laid_internal_strconv_uint64pow10))).modify 3 (layCells (dataCells Rows.laid_math_bits_deBruijn32tab))).modify 4 (layCells (dataCells Rows.laid_math_bits_deBruijn64tab)) }
theorem laid_met (os : Os) (args : Array Value) : laidMetH Tryd.prog laidL ((laidWorld os).forCall (fun _ _ => 0) ⟨#[], args, []⟩).memory :=
  laidMet_of_run' (l := laidL) 200 (by kernel_rfl) (by kernel_rfl)

end Go.Proofs.YtifpjdpcmfneaaaDoor
