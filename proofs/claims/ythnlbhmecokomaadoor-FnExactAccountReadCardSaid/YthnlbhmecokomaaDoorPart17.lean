/- The proof's texts, part 17. -/
import Derived.Test.YthnlbhmecokomaaDoorPart7
import Derived.Test.YthnlbhmecokomaaDoorPart16
import Derived.Test.YthnlbhmecokomaaDoorPart8
import Derived.Test.YthnlbhmecokomaaDoorPart2
import Derived.Test.YthnlbhmecokomaaDoorPart1
import Derived.Test.YthnlbhmecokomaaDoorPart3

/- What AccountRead of package spec does. -/
namespace Go.Proofs.YthnlbhmecokomaaDoor
open Go.RowKit
set_option maxRecDepth 100000
set_option linter.unusedVariables false

theorem wpAnyH_mor {P : Program} {md : Region.Mode} {ops : Array Oper} {Q : Exit → Act → World → Prop} {S S' : World → Prop} (hS : ∀ w, S' w → S w) :
    ∀ (fuel : Nat) (l : Array Bool) (a : Act) (w : World), wpAnyH P md ops Q S' fuel l a w → wpAnyH P md ops Q S fuel l a w
  | 0, _, _, _, h => h
  | fuel + 1, _, _, _, h => ⟨h.1, fun i hi => wpOp_mono (fun a' w' h' => ⟨hS w' h'.1, wpAnyH_mor hS fuel _ a' w' h'.2⟩) (h.2 i hi)⟩
theorem below_gr {w W wi : World} {g : Nat} (h : Below w.heap.size w W) (hg : W.grownBy wi (some g)) (h0 : w.heap.size ≤ g) : Below w.heap.size w wi :=
  ⟨hg.os.trans h.os, hg.tape.trans h.tape, hg.output.trans h.output, Nat.le_trans h.size hg.size, fun k hk => (hg.block k (Nat.lt_of_lt_of_le hk h.size) fun e => by simp only [Option.some.injEq] at e; omega).trans (h.block k hk)⟩
theorem ret_ok {v : Value} {b c : Bool} {P : Prop} (h : c = b ∧ P) : Ending.returned (.tuple #[v, .bool b]) = .returned (.tuple #[v, .bool c]) := by rw [h.1]
theorem AccO.form {w : World} {S : Nat → Prop} {v : Value} {a : AccD} (h : AccO w S v a) : ∃ a0 n0 c0 a1 n1 c1, v = .agg #[.int .i64 a.valid, .slice a0 n0 c0, .slice a1 n1 c1] := by
  obtain ⟨u0, u1, S0, S1, rfl, h0, h1, -⟩ := h
  obtain ⟨a0, n0, c0, rfl⟩ := h0.form3
  obtain ⟨a1, n1, c1, rfl⟩ := h1.form3
  exact ⟨_, _, _, _, _, _, rfl⟩
theorem AccO.mono {w : World} {S S' : Nat → Prop} {v : Value} {a : AccD} (h : AccO w S v a) (hS : ∀ b, S b → S' b) : AccO w S' v a :=
  let ⟨u0, u1, S0, S1, h0, h1, h2, d0, d1, r⟩ := h; ⟨u0, u1, S0, S1, h0, h1, h2, fun x hx => ⟨hS x (d0 x hx).1, (d0 x hx).2⟩, fun x hx => hS x (d1 x hx), r⟩

set_option maxRecDepth 100000 in
set_option maxHeartbeats 4000000 in
theorem specAccountRead_r (v : Value) (l : List Int) (w : World) (hv : Bs w v l) (hl : l.length ≤ 2000000) :
    Calls Tryd.prog 4 #[v] w fun e w' => ∃ u, e = .returned (.tuple #[u, .bool (okS l)]) ∧ AccO w' (In w.heap.size w'.heap.size) u (outS l) ∧ Below w.heap.size w w' := by
  have HV : Hid (∀ wi, Below w.heap.size w wi → Bs wi v l) := fun wi h => hv.below h
  have hoc := hv.1
  obtain ⟨va, cap, rfl⟩ := hv.form
  obtain ⟨kR, kC, X⟩ := boxes2 w (.cells #[.int .i64 0, .slice none 0 0, .slice none 0 0] 26) (.cells #[.slice va l.length cap, .int .i64 0] 37)
  have HX : Hid _ := X
  have HR : Hid _ := kR
  have HC : Hid _ := kC
  have hsz : ((w.alloc (.cells #[.int .i64 0, .slice none 0 0, .slice none 0 0] 26)).alloc (.cells #[.slice va l.length cap, .int .i64 0] 37)).heap.size = w.heap.size + 2 := by simp
  clear hv X kR kC
  go_enter Tryd.func4, Tryd.ntmps4
  go_wp2_with fail
  refine (l4getAccount_c (w.heap.size + 1) _ l 0 _ HC.out (fun wi hg => HV.out wi (below_gr HX.out hg (by omega))) hl (by omega) (by omega)).mono ?_
  rintro e w1 ⟨u, rfl, R, KC, G⟩
  rw [hsz] at R
  have HB1 : Hid (Below w.heap.size w w1) := below_gr HX.out G (by omega)
  have HR1 : Hid (w1.heap[w.heap.size]? = some (.cells #[.int .i64 0, .slice none 0 0, .slice none 0 0] 26 (0, 0))) := gr_at G HR.out (by omega)
  have hs1 : w.heap.size + 2 ≤ w1.heap.size := by have := G.size; omega
  have HE : Hid (okS l = (decide ((gAcc l 0).2 = l.length) && (accB (gAcc l 0).1 && decide (accBs (gAcc l 0).1 = l)))) := rfl
  have HO : Hid (outS l = match okS l with | true => (gAcc l 0).1 | false => nilA) := rfl
  generalize hA : (gAcc l 0).1 = A at R HE HO
  have KC1 : Hid _ := KC
  generalize hq : (gAcc l 0).2 = q at KC KC1 HE
  have HO1 : Hid (AccO w1 (In (w.heap.size + 2) w1.heap.size) u A) := R
  obtain ⟨b0, bn0, bc0, b1, bn1, bc1, rfl⟩ := R.form
  clear R KC G HX HR HC hsz hA hq
  go_upto_region 3 with fail
  have AB : Below w1.heap.size w1 (w1.alloc (.cells #[.int .i64 A.valid, .slice b0 bn0 bc0, .slice b1 bn1 bc1] 26)) := (Below.refl _ _).alloc (Nat.le_refl _) _
  have KX := box_new w1 (.cells #[.int .i64 A.valid, .slice b0 bn0 bc0, .slice b1 bn1 bc1] 26)
  have HS : Hid (∀ w', Below (w1.alloc (.cells #[.int .i64 A.valid, .slice b0 bn0 bc0, .slice b1 bn1 bc1] 26)).heap.size (w1.alloc (.cells #[.int .i64 A.valid, .slice b0 bn0 bc0, .slice b1 bn1 bc1] 26)) w' → w'.cell? ⟨w.heap.size + 1, 1, none⟩ = some (.int .i64 q) ∧ w'.cell? ⟨w1.heap.size, 0, none⟩ = some (.int .i64 A.valid) ∧ w'.cell? ⟨w1.heap.size, 1, none⟩ = some (.slice b0 bn0 bc0) ∧ w'.cell? ⟨w1.heap.size, 2, none⟩ = some (.slice b1 bn1 bc1)) := fun w' h => ⟨(bx2 (box_below h (box_below AB KC1.out))).2, bx3 (box_below h KX)⟩
  have HR2 : Hid ((w1.alloc (.cells #[.int .i64 A.valid, .slice b0 bn0 bc0, .slice b1 bn1 bc1] 26)).heap[w.heap.size]? = some (.cells #[.int .i64 0, .slice none 0 0, .slice none 0 0] 26 (0, 0))) := box_below AB HR1.out
  have HB2 : Hid (Below w.heap.size w (w1.alloc (.cells #[.int .i64 A.valid, .slice b0 bn0 bc0, .slice b1 bn1 bc1] 26))) := Below.step HB1.out AB
  have HO2 : Hid (AccO (w1.alloc (.cells #[.int .i64 A.valid, .slice b0 bn0 bc0, .slice b1 bn1 bc1] 26)) (In (w.heap.size + 2) w1.heap.size) (.agg #[.int .i64 A.valid, .slice b0 bn0 bc0, .slice b1 bn1 bc1]) A) := HO1.out.below AB
  have HA : Hid (∀ w', Below (w1.alloc (.cells #[.int .i64 A.valid, .slice b0 bn0 bc0, .slice b1 bn1 bc1] 26)).heap.size (w1.alloc (.cells #[.int .i64 A.valid, .slice b0 bn0 bc0, .slice b1 bn1 bc1] 26)) w' → AccV w' (.agg #[.int .i64 A.valid, .slice b0 bn0 bc0, .slice b1 bn1 bc1]) A) := fun w' h => HO2.out.v.below h
  have HVV : Hid (∀ w', Below (w1.alloc (.cells #[.int .i64 A.valid, .slice b0 bn0 bc0, .slice b1 bn1 bc1] 26)).heap.size (w1.alloc (.cells #[.int .i64 A.valid, .slice b0 bn0 bc0, .slice b1 bn1 bc1] 26)) w' → Bs w' (.slice va l.length cap) l) := fun w' h => HV.out w' (Below.step HB2.out h)
  have lx2 := lt_of_heap KX
  generalize hw2 : w1.alloc (.cells #[.int .i64 A.valid, .slice b0 bn0 bc0, .slice b1 bn1 bc1] 26) = w2 at *
  clear hw2 KX AB KC1 HB1 HR1 HO1 HV
  by_cases z0 : q = l.length
  case neg =>
    have e0 : (q != (l.length : Int)) = true := by simpa using z0
    have hokf : okS l = false := by rw [HE.out, decide_eq_false z0]; rfl
    have HK : Hid (okS l = false ∧ outS l = nilA) := ⟨hokf, by rw [HO.out, hokf]⟩
    clear z0 hokf HE HO
    refine wp_region_held_drew (S := fun w' => w'.cell? ⟨w.heap.size + 1, 1, none⟩ = some (.int .i64 q) ∧ w'.cell? ⟨w1.heap.size, 0, none⟩ = some (.int .i64 A.valid) ∧ w'.cell? ⟨w1.heap.size, 1, none⟩ = some (.slice b0 bn0 bc0) ∧ w'.cell? ⟨w1.heap.size, 2, none⟩ = some (.slice b1 bn1 bc1)) (by kernel_rfl) (HS.out _ ((Below.refl _ _).drew)) (fun hHeld => (show wpAnyH _ _ _ _ _ 20 #[false, false, false, false, false, false, false, false, false, false, false, false, false, false, false, false, false, false, false, false] _ _ from ?_))
    refine tq 0 11 hHeld ?_
    refine tq 1 12 hHeld ?_
    refine tq 2 13 hHeld ?_
    refine tq 3 14 hHeld ?_
    refine tq 4 15 hHeld ?_
    refine tq 5 16 hHeld ?_
    refine tq 6 17 hHeld ?_
    refine tq 7 18 hHeld ?_
    refine wpAnyH_skips (by kernel_rfl) (fun _ _ _ _ _ h => h) hHeld [8, 9, 10] [19, 20, 21] _ _ _ (by kernel_rfl) ?_
    simp only [List.foldl_cons, List.foldl_nil, Act.put, sA, s0, sS]
    refine tq 11 22 hHeld ?_
    refine tq 12 23 hHeld ?_
    refine wpAnyH_skips (by kernel_rfl) (fun _ _ _ _ _ h => h) hHeld [13, 14, 15, 16, 17, 18] [24, 25, 26, 27, 28, 29] _ _ _ (by kernel_rfl) ?_
    simp only [List.foldl_cons, List.foldl_nil, Act.put, sA, s0, sS]
    refine tq 19 30 hHeld ?_
    refine wpAnyH_done (by kernel_rfl) ?_ _
    have DD : Below w2.heap.size w2 w2.drew := (Below.refl _ _).drew
    generalize w2.drew = wd at DD ⊢
    have KR := box_below DD HR2.out
    obtain ⟨rz, rl⟩ := box8z KR
    obtain ⟨r0, r1, r2⟩ := bx3 KR
    have KF := (box_set (i := 2) (v := .slice none 0 0) (box_set (i := 1) (v := .slice none 0 0) (box_set (i := 0) (v := .int .i64 0) KR)))
    obtain ⟨f0, f1, f2⟩ := bx3 KF
    have HBf : Hid (Below w.heap.size w (((wd.setCell ⟨w.heap.size, 0, none⟩ (.int .i64 0)).setCell ⟨w.heap.size, 1, none⟩ (.slice none 0 0)).setCell ⟨w.heap.size, 2, none⟩ (.slice none 0 0))) := ((((Below.step HB2.out DD).setCell (p := ⟨w.heap.size, 0, none⟩) (Nat.le_refl _) (.int .i64 0)).setCell (p := ⟨w.heap.size, 1, none⟩) (Nat.le_refl _) (.slice none 0 0)).setCell (p := ⟨w.heap.size, 2, none⟩) (Nat.le_refl _) (.slice none 0 0))
    clear KR KF
    go_wp2
    refine bodyPost_ret (v := .tuple #[.agg #[.int .i64 0, .slice none 0 0, .slice none 0 0], .bool false]) (by simp [results, Tryd.results4, go_sem, f0, f1, f2]) rfl ⟨_, ret_ok HK.out, ?_, ?_⟩
    · rw [HK.out.2]
      exact ⟨_, _, fun _ => False, fun _ => False, rfl, .inl ⟨rfl, rfl⟩, .inl ⟨rfl, rfl⟩, (fun x hx => hx.elim), (fun x hx => hx.elim), ⟨by decide, by decide⟩⟩
    · exact HBf.out

  have e0 : (q != (l.length : Int)) = false := by simpa using z0
  cases z1 : accB A with
  | false =>
    have hokf : okS l = false := by rw [HE.out, z1]; simp
    have HK : Hid (okS l = false ∧ outS l = nilA) := ⟨hokf, by rw [HO.out, hokf]⟩
    have hok : Hid (accB A = false) := z1
    clear z0 z1 hokf HE HO
    refine wp_region_held_drew (S := fun w' => w'.cell? ⟨w.heap.size + 1, 1, none⟩ = some (.int .i64 q) ∧ w'.cell? ⟨w1.heap.size, 0, none⟩ = some (.int .i64 A.valid) ∧ w'.cell? ⟨w1.heap.size, 1, none⟩ = some (.slice b0 bn0 bc0) ∧ w'.cell? ⟨w1.heap.size, 2, none⟩ = some (.slice b1 bn1 bc1)) (by kernel_rfl) (HS.out _ ((Below.refl _ _).drew)) (fun hHeld => (show wpAnyH _ _ _ _ _ 20 #[false, false, false, false, false, false, false, false, false, false, false, false, false, false, false, false, false, false, false, false] _ _ from ?_))
    refine tq 0 11 hHeld ?_
    refine tq 1 12 hHeld ?_
    refine tq 2 13 hHeld ?_
    refine tq 3 14 hHeld ?_
    refine tq 4 15 hHeld ?_
    refine tq 5 16 hHeld ?_
    refine tq 6 17 hHeld ?_
    refine tq 7 18 hHeld ?_
    refine tq 8 19 hHeld ?_
    refine wpAnyH_ready (rs := [9]) (by kernel_rfl) (by simp) ?_
    refine AllReadyH.cons rfl (fun K hK => ?_) AllReadyH.nil
    go_simp
    refine (specAccountOk_any _ A _ (HA.out _ ((Below.refl _ _).drew))).mono ?_
    rintro e w5 ⟨rfl, B5⟩
    have D5 : Below w2.heap.size w2 w5 := Below.step ((Below.refl _ _).drew) B5
    rw [hok.out]
    clear B5
    refine hK.out _ _ (HS.out _ D5) (fun hHeld => ?_)
    clear hK K
    refine tq 10 21 hHeld ?_
    refine tq 11 22 hHeld ?_
    refine tq 12 23 hHeld ?_
    refine wpAnyH_skips (by kernel_rfl) (fun _ _ _ _ _ h => h) hHeld [13, 14, 15, 16, 17, 18] [24, 25, 26, 27, 28, 29] _ _ _ (by kernel_rfl) ?_
    simp only [List.foldl_cons, List.foldl_nil, Act.put, sA, s0, sS]
    refine tq 19 30 hHeld ?_
    refine wpAnyH_done (by kernel_rfl) ?_ _
    have KR := box_below D5 HR2.out
    obtain ⟨rz, rl⟩ := box8z KR
    obtain ⟨r0, r1, r2⟩ := bx3 KR
    have KF := (box_set (i := 2) (v := .slice none 0 0) (box_set (i := 1) (v := .slice none 0 0) (box_set (i := 0) (v := .int .i64 0) KR)))
    obtain ⟨f0, f1, f2⟩ := bx3 KF
    have HBf : Hid (Below w.heap.size w (((w5.setCell ⟨w.heap.size, 0, none⟩ (.int .i64 0)).setCell ⟨w.heap.size, 1, none⟩ (.slice none 0 0)).setCell ⟨w.heap.size, 2, none⟩ (.slice none 0 0))) := ((((Below.step HB2.out D5).setCell (p := ⟨w.heap.size, 0, none⟩) (Nat.le_refl _) (.int .i64 0)).setCell (p := ⟨w.heap.size, 1, none⟩) (Nat.le_refl _) (.slice none 0 0)).setCell (p := ⟨w.heap.size, 2, none⟩) (Nat.le_refl _) (.slice none 0 0))
    clear KR KF
    go_wp2
    refine bodyPost_ret (v := .tuple #[.agg #[.int .i64 0, .slice none 0 0, .slice none 0 0], .bool false]) (by simp [results, Tryd.results4, go_sem, f0, f1, f2]) rfl ⟨_, ret_ok HK.out, ?_, ?_⟩
    · rw [HK.out.2]
      exact ⟨_, _, fun _ => False, fun _ => False, rfl, .inl ⟨rfl, rfl⟩, .inl ⟨rfl, rfl⟩, (fun x hx => hx.elim), (fun x hx => hx.elim), ⟨by decide, by decide⟩⟩
    · exact HBf.out

  | true =>
    have hok : Hid (accB A = true) := z1
    have hsm := accB_small z1
    have hse := accB_seen z1
    have hacz := acc_sz z1
    by_cases z2 : accBs A = l
    · have HZ : Hid (decide (accBs A = l) = true) := decide_eq_true z2
      have hokf : okS l = true := by rw [HE.out, z1, decide_eq_true z0, decide_eq_true z2]; rfl
      have HK : Hid (okS l = true ∧ outS l = A) := ⟨hokf, by rw [HO.out, hokf]⟩
      clear z0 z1 z2 hokf HE HO
      refine wp_region_held_drew (S := fun w' => (convert 22 9 (.slice va l.length cap)).run Tryd.prog w' = .ok (.string (strOfNums l)) w' ∧ w'.cell? ⟨w.heap.size + 1, 1, none⟩ = some (.int .i64 q) ∧ w'.cell? ⟨w1.heap.size, 0, none⟩ = some (.int .i64 A.valid) ∧ w'.cell? ⟨w1.heap.size, 1, none⟩ = some (.slice b0 bn0 bc0) ∧ w'.cell? ⟨w1.heap.size, 2, none⟩ = some (.slice b1 bn1 bc1)) (by kernel_rfl) (⟨run_convert_bs (HVV.out _ ((Below.refl _ _).drew)), HS.out _ ((Below.refl _ _).drew)⟩) (fun hHeld => (show wpAnyH _ _ _ _ _ 20 #[false, false, false, false, false, false, false, false, false, false, false, false, false, false, false, false, false, false, false, false] _ _ from ?_))
      refine tq 0 11 hHeld ?_
      refine tq 1 12 hHeld ?_
      refine tq 2 13 hHeld ?_
      refine tq 3 14 hHeld ?_
      refine tq 4 15 hHeld ?_
      refine tq 5 16 hHeld ?_
      refine tq 6 17 hHeld ?_
      refine tq 7 18 hHeld ?_
      refine tq 8 19 hHeld ?_
      refine wpAnyH_ready (rs := [9]) (by kernel_rfl) (by simp) ?_
      refine AllReadyH.cons rfl (fun K hK => ?_) AllReadyH.nil
      go_simp
      refine (specAccountOk_any _ A _ (HA.out _ ((Below.refl _ _).drew))).mono ?_
      rintro e w5 ⟨rfl, B5⟩
      have D5 : Below w2.heap.size w2 w5 := Below.step ((Below.refl _ _).drew) B5
      rw [hok.out]
      clear B5
      refine hK.out _ _ (⟨run_convert_bs (HVV.out _ D5), HS.out _ D5⟩) (fun hHeld => ?_)
      clear hK K
      refine tq 10 21 hHeld ?_
      refine tq 11 22 hHeld ?_
      refine tq 12 23 hHeld ?_
      refine tq 13 24 hHeld ?_
      refine tq 16 27 hHeld ?_
      refine tq 17 28 hHeld ?_
      refine wpAnyH_ready (rs := [14]) (by kernel_rfl) (by simp) ?_
      refine AllReadyH.cons rfl (fun K hK => ?_) AllReadyH.nil
      go_simp
      refine (l4account_r _ A _ (HA.out _ D5) hsm.1 hsm.2 hse hacz).mono ?_
      rintro e w6 ⟨ru, rfl, R6, B6⟩
      have D6 : Below w2.heap.size w2 w6 := Below.step D5 B6
      have e2 := (str_eq R6.1 hoc).trans HZ.out
      have hb6 := Row.bs R6
      obtain ⟨ra, rn, rc, rfl⟩ := hb6.form3
      clear R6
      refine hK.out _ _ (⟨run_convert_bs (HVV.out _ D6), HS.out _ D6⟩) (fun hHeld => ?_)
      clear hK K
      refine wpAnyH_mor (S' := fun w' => ((convert 22 9 (.slice ra rn rc)).run Tryd.prog w' = .ok (.string (strOfNums (accBs A))) w') ∧ (convert 22 9 (.slice va l.length cap)).run Tryd.prog w' = .ok (.string (strOfNums l)) w' ∧ w'.cell? ⟨w.heap.size + 1, 1, none⟩ = some (.int .i64 q) ∧ w'.cell? ⟨w1.heap.size, 0, none⟩ = some (.int .i64 A.valid) ∧ w'.cell? ⟨w1.heap.size, 1, none⟩ = some (.slice b0 bn0 bc0) ∧ w'.cell? ⟨w1.heap.size, 2, none⟩ = some (.slice b1 bn1 bc1)) (fun _ h => h.2) _ _ _ _ ?_
      replace hHeld := And.intro (run_convert_bs hb6) hHeld
      refine tq 15 26 hHeld ?_
      refine tq 18 29 hHeld ?_
      refine tq 19 30 hHeld ?_
      refine wpAnyH_done (by kernel_rfl) ?_ _
      have KR := box_below D6 HR2.out
      obtain ⟨rz, rl⟩ := box8z KR
      obtain ⟨r0, r1, r2⟩ := bx3 KR
      obtain ⟨g0, g1, g2⟩ := (HS.out _ D6).2
      have KF := (box_set (i := 2) (v := .slice b1 bn1 bc1) (box_set (i := 1) (v := .slice b0 bn0 bc0) (box_set (i := 0) (v := .int .i64 A.valid) KR)))
      obtain ⟨f0, f1, f2⟩ := bx3 KF
      have HBf : Hid (Below w.heap.size w (((w6.setCell ⟨w.heap.size, 0, none⟩ (.int .i64 A.valid)).setCell ⟨w.heap.size, 1, none⟩ (.slice b0 bn0 bc0)).setCell ⟨w.heap.size, 2, none⟩ (.slice b1 bn1 bc1))) := ((((Below.step HB2.out D6).setCell (p := ⟨w.heap.size, 0, none⟩) (Nat.le_refl _) (.int .i64 A.valid)).setCell (p := ⟨w.heap.size, 1, none⟩) (Nat.le_refl _) (.slice b0 bn0 bc0)).setCell (p := ⟨w.heap.size, 2, none⟩) (Nat.le_refl _) (.slice b1 bn1 bc1))
      have lx : w1.heap.size < w6.heap.size := Nat.lt_of_lt_of_le lx2 (D6).size
      have HAf : Hid (AccO (((w6.setCell ⟨w.heap.size, 0, none⟩ (.int .i64 A.valid)).setCell ⟨w.heap.size, 1, none⟩ (.slice b0 bn0 bc0)).setCell ⟨w.heap.size, 2, none⟩ (.slice b1 bn1 bc1)) (In w.heap.size (((w6.setCell ⟨w.heap.size, 0, none⟩ (.int .i64 A.valid)).setCell ⟨w.heap.size, 1, none⟩ (.slice b0 bn0 bc0)).setCell ⟨w.heap.size, 2, none⟩ (.slice b1 bn1 bc1)).heap.size) (.agg #[.int .i64 A.valid, .slice b0 bn0 bc0, .slice b1 bn1 bc1]) A) := (AccO.frame (HO2.out.below D6) (fun b hb hlt => by have := hb.1; rw [Below.heap_setCell _ _ _ _ (show b ≠ w.heap.size by omega), Below.heap_setCell _ _ _ _ (show b ≠ w.heap.size by omega), Below.heap_setCell _ _ _ _ (show b ≠ w.heap.size by omega)])).mono (fun b hb => ⟨by have := hb.1; omega, by have := hb.2; simp only [box_size]; exact Nat.lt_of_lt_of_le (by omega) (D6).size⟩)
      clear KR KF
      go_wp2
      refine bodyPost_ret (v := .tuple #[.agg #[.int .i64 A.valid, .slice b0 bn0 bc0, .slice b1 bn1 bc1], .bool true]) (by simp [results, Tryd.results4, go_sem, f0, f1, f2]) rfl ⟨_, ret_ok HK.out, ?_, ?_⟩
      · rw [HK.out.2]
        exact HAf.out
      · exact HBf.out

    · have HZ : Hid (decide (accBs A = l) = false) := decide_eq_false z2
      have hokf : okS l = false := by rw [HE.out, decide_eq_false z2]; simp
      have HK : Hid (okS l = false ∧ outS l = nilA) := ⟨hokf, by rw [HO.out, hokf]⟩
      clear z0 z1 z2 hokf HE HO
      refine wp_region_held_drew (S := fun w' => (convert 22 9 (.slice va l.length cap)).run Tryd.prog w' = .ok (.string (strOfNums l)) w' ∧ w'.cell? ⟨w.heap.size + 1, 1, none⟩ = some (.int .i64 q) ∧ w'.cell? ⟨w1.heap.size, 0, none⟩ = some (.int .i64 A.valid) ∧ w'.cell? ⟨w1.heap.size, 1, none⟩ = some (.slice b0 bn0 bc0) ∧ w'.cell? ⟨w1.heap.size, 2, none⟩ = some (.slice b1 bn1 bc1)) (by kernel_rfl) (⟨run_convert_bs (HVV.out _ ((Below.refl _ _).drew)), HS.out _ ((Below.refl _ _).drew)⟩) (fun hHeld => (show wpAnyH _ _ _ _ _ 20 #[false, false, false, false, false, false, false, false, false, false, false, false, false, false, false, false, false, false, false, false] _ _ from ?_))
      refine tq 0 11 hHeld ?_
      refine tq 1 12 hHeld ?_
      refine tq 2 13 hHeld ?_
      refine tq 3 14 hHeld ?_
      refine tq 4 15 hHeld ?_
      refine tq 5 16 hHeld ?_
      refine tq 6 17 hHeld ?_
      refine tq 7 18 hHeld ?_
      refine tq 8 19 hHeld ?_
      refine wpAnyH_ready (rs := [9]) (by kernel_rfl) (by simp) ?_
      refine AllReadyH.cons rfl (fun K hK => ?_) AllReadyH.nil
      go_simp
      refine (specAccountOk_any _ A _ (HA.out _ ((Below.refl _ _).drew))).mono ?_
      rintro e w5 ⟨rfl, B5⟩
      have D5 : Below w2.heap.size w2 w5 := Below.step ((Below.refl _ _).drew) B5
      rw [hok.out]
      clear B5
      refine hK.out _ _ (⟨run_convert_bs (HVV.out _ D5), HS.out _ D5⟩) (fun hHeld => ?_)
      clear hK K
      refine tq 10 21 hHeld ?_
      refine tq 11 22 hHeld ?_
      refine tq 12 23 hHeld ?_
      refine tq 13 24 hHeld ?_
      refine tq 16 27 hHeld ?_
      refine tq 17 28 hHeld ?_
      refine wpAnyH_ready (rs := [14]) (by kernel_rfl) (by simp) ?_
      refine AllReadyH.cons rfl (fun K hK => ?_) AllReadyH.nil
      go_simp
      refine (l4account_r _ A _ (HA.out _ D5) hsm.1 hsm.2 hse hacz).mono ?_
      rintro e w6 ⟨ru, rfl, R6, B6⟩
      have D6 : Below w2.heap.size w2 w6 := Below.step D5 B6
      have e2 := (str_eq R6.1 hoc).trans HZ.out
      have hb6 := Row.bs R6
      obtain ⟨ra, rn, rc, rfl⟩ := hb6.form3
      clear R6
      refine hK.out _ _ (⟨run_convert_bs (HVV.out _ D6), HS.out _ D6⟩) (fun hHeld => ?_)
      clear hK K
      refine wpAnyH_mor (S' := fun w' => ((convert 22 9 (.slice ra rn rc)).run Tryd.prog w' = .ok (.string (strOfNums (accBs A))) w') ∧ (convert 22 9 (.slice va l.length cap)).run Tryd.prog w' = .ok (.string (strOfNums l)) w' ∧ w'.cell? ⟨w.heap.size + 1, 1, none⟩ = some (.int .i64 q) ∧ w'.cell? ⟨w1.heap.size, 0, none⟩ = some (.int .i64 A.valid) ∧ w'.cell? ⟨w1.heap.size, 1, none⟩ = some (.slice b0 bn0 bc0) ∧ w'.cell? ⟨w1.heap.size, 2, none⟩ = some (.slice b1 bn1 bc1)) (fun _ h => h.2) _ _ _ _ ?_
      replace hHeld := And.intro (run_convert_bs hb6) hHeld
      refine tq 15 26 hHeld ?_
      refine tq 18 29 hHeld ?_
      refine tq 19 30 hHeld ?_
      refine wpAnyH_done (by kernel_rfl) ?_ _
      have KR := box_below D6 HR2.out
      obtain ⟨rz, rl⟩ := box8z KR
      obtain ⟨r0, r1, r2⟩ := bx3 KR
      have KF := (box_set (i := 2) (v := .slice none 0 0) (box_set (i := 1) (v := .slice none 0 0) (box_set (i := 0) (v := .int .i64 0) KR)))
      obtain ⟨f0, f1, f2⟩ := bx3 KF
      have HBf : Hid (Below w.heap.size w (((w6.setCell ⟨w.heap.size, 0, none⟩ (.int .i64 0)).setCell ⟨w.heap.size, 1, none⟩ (.slice none 0 0)).setCell ⟨w.heap.size, 2, none⟩ (.slice none 0 0))) := ((((Below.step HB2.out D6).setCell (p := ⟨w.heap.size, 0, none⟩) (Nat.le_refl _) (.int .i64 0)).setCell (p := ⟨w.heap.size, 1, none⟩) (Nat.le_refl _) (.slice none 0 0)).setCell (p := ⟨w.heap.size, 2, none⟩) (Nat.le_refl _) (.slice none 0 0))
      clear KR KF
      go_wp2
      refine bodyPost_ret (v := .tuple #[.agg #[.int .i64 0, .slice none 0 0, .slice none 0 0], .bool false]) (by simp [results, Tryd.results4, go_sem, f0, f1, f2]) rfl ⟨_, ret_ok HK.out, ?_, ?_⟩
      · rw [HK.out.2]
        exact ⟨_, _, fun _ => False, fun _ => False, rfl, .inl ⟨rfl, rfl⟩, .inl ⟨rfl, rfl⟩, (fun x hx => hx.elim), (fun x hx => hx.elim), ⟨by decide, by decide⟩⟩
      · exact HBf.out

end Go.Proofs.YthnlbhmecokomaaDoor

/- What AccountRead of package impl does. -/
namespace Go.Proofs.YthnlbhmecokomaaDoor
open Go.RowKit
set_option maxRecDepth 100000
set_option linter.unusedVariables false
set_option linter.unusedSimpArgs false

theorem bx1' {w : World} {g : Nat} {t : TypeId} {c0 : Value} (h : w.heap[g]? = some (.cells #[c0] t (0, 0))) : w.cell? ⟨g, 0, none⟩ = some c0 := by rw [cell_of_row w g 0 _ t (0, 0) h]; rfl
theorem rd_none {l : List Int} (ho : Oct l) (e : iAcc l 0 = none) : okS l = false ∧ outS l = nilA := by
  have h : okS l = false := by rw [ok_same ho]; unfold okI; rw [e]
  exact ⟨h, by unfold outS; rw [h]⟩
theorem rd_bad {l : List Int} {y : AccD × Int} (ho : Oct l) (e : iAcc l 0 = some y) (hb : y.2 ≠ l.length ∨ accB y.1 = false) : okS l = false ∧ outS l = nilA := by
  have h : okS l = false := by
    rw [ok_same ho]; unfold okI; rw [e]
    rcases hb with hb | hb
    · simp [hb]
    · simp [hb]
  exact ⟨h, by unfold outS; rw [h]⟩
theorem rd_yes {l : List Int} {y : AccD × Int} (ho : Oct l) (e : iAcc l 0 = some y) (h1 : y.2 = l.length) (h2 : accB y.1 = true) : okS l = true ∧ outS l = y.1 := by
  have h : okI l = true := by unfold okI; rw [e]; simp [h1, h2]
  exact ⟨(ok_same ho).trans h, out_same ho e h⟩

set_option maxRecDepth 100000 in
set_option maxHeartbeats 4000000 in
theorem implAccountRead_r (v : Value) (l : List Int) (ea : Addr) (w : World) (hv : Bs w v l) (hE : Gave w ea) (hl : l.length ≤ 2000000) :
    Calls Tryd.prog 6 #[v] w fun e w' => ∃ u, e = .returned (.tuple #[u, .bool (okS l)]) ∧ AccO w' (In w.heap.size w'.heap.size) u (outS l) ∧ Below w.heap.size w w' := by
  have hmf : ∀ (fn : Fn) (first cap : Array Value) (w : World), (Instr.makeFunc fn first cap).run Tryd.prog w = .ok (.func fn first cap) w := fun _ _ _ _ => rfl
  have HV : Hid (∀ wi, Below w.heap.size w wi → Bs wi v l) := fun wi h => hv.below h
  have HOC : Hid (Oct l) := hv.1
  have hlt := hE.lt
  have HE : Hid (Gave w ea) := hE
  obtain ⟨va, cap, rfl⟩ := hv.form
  have HX : Hid (Below w.heap.size w (((w.alloc (.cells #[.int .i64 0, .slice none 0 0, .slice none 0 0] 26)).alloc (.cells #[.bool false] 4)).alloc (.cells #[.slice va l.length cap, .int .i64 0] 43))) := (((Below.refl _ _).alloc (Nat.le_refl _) _).alloc (by simp) _).alloc (by simp; omega) _
  have HR : Hid ((((w.alloc (.cells #[.int .i64 0, .slice none 0 0, .slice none 0 0] 26)).alloc (.cells #[.bool false] 4)).alloc (.cells #[.slice va l.length cap, .int .i64 0] 43)).heap[w.heap.size]? = some (.cells #[.int .i64 0, .slice none 0 0, .slice none 0 0] 26 (0, 0))) := box_below ((Below.refl _ _).alloc (Nat.le_refl _) _) (boxes2 w _ _).1
  have HK : Hid ((((w.alloc (.cells #[.int .i64 0, .slice none 0 0, .slice none 0 0] 26)).alloc (.cells #[.bool false] 4)).alloc (.cells #[.slice va l.length cap, .int .i64 0] 43)).heap[w.heap.size + 1]? = some (.cells #[.bool false] 4 (0, 0))) := box_below ((Below.refl _ _).alloc (Nat.le_refl _) _) (boxes2 w _ _).2.1
  have HC : Hid ((((w.alloc (.cells #[.int .i64 0, .slice none 0 0, .slice none 0 0] 26)).alloc (.cells #[.bool false] 4)).alloc (.cells #[.slice va l.length cap, .int .i64 0] 43)).heap[w.heap.size + 2]? = some (.cells #[.slice va l.length cap, .int .i64 0] 43 (0, 0))) := by
    have h := box_new ((w.alloc (.cells #[.int .i64 0, .slice none 0 0, .slice none 0 0] 26)).alloc (.cells #[.bool false] 4)) (.cells #[.slice va l.length cap, .int .i64 0] 43)
    rw [show ((w.alloc (.cells #[.int .i64 0, .slice none 0 0, .slice none 0 0] 26)).alloc (.cells #[.bool false] 4)).heap.size = w.heap.size + 2 by simp] at h
    exact h
  have hsz : (((w.alloc (.cells #[.int .i64 0, .slice none 0 0, .slice none 0 0] 26)).alloc (.cells #[.bool false] 4)).alloc (.cells #[.slice va l.length cap, .int .i64 0] 43)).heap.size = w.heap.size + 3 := by simp
  clear hv hE
  go_enter_defers Tryd.func6, Tryd.ntmps6
  go_wp2_with fail
  refine (account_c (w.heap.size + 2) _ l 0 ea _ HC.out (fun wi hg => HV.out wi (below_gr HX.out hg (by omega))) (HE.out.below HX.out) (by omega) hl (by omega) (by omega)).mono ?_
  rintro e w1 ⟨hh, G⟩
  have HB1 : Hid (Below w.heap.size w w1) := below_gr HX.out G (by omega)
  have HR1 : Hid (w1.heap[w.heap.size]? = some (.cells #[.int .i64 0, .slice none 0 0, .slice none 0 0] 26 (0, 0))) := gr_at G HR.out (by omega)
  have HK1 : Hid (w1.heap[w.heap.size + 1]? = some (.cells #[.bool false] 4 (0, 0))) := gr_at G HK.out (by omega)
  have hs1 : w.heap.size + 3 ≤ w1.heap.size := by have := G.size; omega
  rcases hh with ⟨r, u, hr, rfl, R, KC⟩ | ⟨hr, rfl⟩
  rotate_left
  · have HNO : Hid (okS l = false ∧ outS l = nilA) := rd_none HOC.out hr
    clear hr G HX HR HK HC hsz
    go_wp2
    refine leaves_cons (f := 15) (args := #[.pointer (some ⟨w.heap.size, 0, none⟩), .pointer (some ⟨w.heap.size + 1, 0, none⟩)]) (by simp) (by simp [go_sem]) ?_
    refine (catch_panicking w.heap.size _ _ _ _ _ _ [] w1 HR1.out HK1.out).mono ?_
    rintro e u' w'' ⟨rfl, rfl, rfl⟩
    have KRf : ((((w1.setCell ⟨w.heap.size, 0, none⟩ (.int .i64 0)).setCell ⟨w.heap.size, 1, none⟩ (.slice none 0 0)).setCell ⟨w.heap.size, 2, none⟩ (.slice none 0 0)).setCell ⟨w.heap.size + 1, 0, none⟩ (.bool false)).heap[w.heap.size]? = some (.cells #[.int .i64 0, .slice none 0 0, .slice none 0 0] 26 (0, 0)) := (box_other (k := w.heap.size + 1) (i := 0) (v := .bool false) (box_set (i := 2) (v := .slice none 0 0) (box_set (i := 1) (v := .slice none 0 0) (box_set (i := 0) (v := .int .i64 0) HR1.out))) (by omega))
    have KBf : ((((w1.setCell ⟨w.heap.size, 0, none⟩ (.int .i64 0)).setCell ⟨w.heap.size, 1, none⟩ (.slice none 0 0)).setCell ⟨w.heap.size, 2, none⟩ (.slice none 0 0)).setCell ⟨w.heap.size + 1, 0, none⟩ (.bool false)).heap[w.heap.size + 1]? = some (.cells #[.bool false] 4 (0, 0)) := (box_set (i := 0) (v := .bool false) (box_other (k := w.heap.size) (i := 2) (v := .slice none 0 0) (box_other (k := w.heap.size) (i := 1) (v := .slice none 0 0) (box_other (k := w.heap.size) (i := 0) (v := .int .i64 0) HK1.out (by omega)) (by omega)) (by omega)))
    have HDf : Hid (Below w.heap.size w ((((w1.setCell ⟨w.heap.size, 0, none⟩ (.int .i64 0)).setCell ⟨w.heap.size, 1, none⟩ (.slice none 0 0)).setCell ⟨w.heap.size, 2, none⟩ (.slice none 0 0)).setCell ⟨w.heap.size + 1, 0, none⟩ (.bool false))) := ((((HB1.out.setCell (p := ⟨w.heap.size, 0, none⟩) (Nat.le_refl _) (.int .i64 0)).setCell (p := ⟨w.heap.size, 1, none⟩) (Nat.le_refl _) (.slice none 0 0)).setCell (p := ⟨w.heap.size, 2, none⟩) (Nat.le_refl _) (.slice none 0 0)).setCell (p := ⟨w.heap.size + 1, 0, none⟩) (by simp) (.bool false))
    obtain ⟨e0, e1, e2⟩ := bx3 KRf
    have e3 := bx1' KBf
    clear KRf KBf
    refine ⟨.tuple #[.agg #[.int .i64 0, .slice none 0 0, .slice none 0 0], .bool false], by simp [results, Tryd.results6, go_sem, e0, e1, e2, e3], _, ret_ok HNO.out, ?_, HDf.out⟩
    rw [HNO.out.2]
    exact ⟨_, _, fun _ => False, fun _ => False, rfl, .inl ⟨rfl, rfl⟩, .inl ⟨rfl, rfl⟩, (fun x hx => hx.elim), (fun x hx => hx.elim), ⟨by decide, by decide⟩⟩
  · obtain ⟨A, q⟩ := r
    rw [hsz] at R
    have HO1 : Hid (AccO w1 (In (w.heap.size + 3) w1.heap.size) u A) := R
    obtain ⟨b0, bn0, bc0, b1, bn1, bc1, rfl⟩ := AccO.form R
    have HRD : Hid (iAcc l 0 = some (A, q)) := hr
    have KC1 : Hid (w1.heap[w.heap.size + 2]? = some (.cells #[.slice va l.length cap, .int .i64 q] 43 (0, 0))) := KC
    clear hr R KC G HX HR HK HC hsz
    go_upto_region 4 with fail
    have AB : Below w1.heap.size w1 (w1.alloc (.cells #[.int .i64 A.valid, .slice b0 bn0 bc0, .slice b1 bn1 bc1] 26)) := (Below.refl _ _).alloc (Nat.le_refl _) _
    have KX := box_new w1 (.cells #[.int .i64 A.valid, .slice b0 bn0 bc0, .slice b1 bn1 bc1] 26)
    have HR2 : Hid ((w1.alloc (.cells #[.int .i64 A.valid, .slice b0 bn0 bc0, .slice b1 bn1 bc1] 26)).heap[w.heap.size]? = some (.cells #[.int .i64 0, .slice none 0 0, .slice none 0 0] 26 (0, 0))) := box_below AB HR1.out
    have HK2 : Hid ((w1.alloc (.cells #[.int .i64 A.valid, .slice b0 bn0 bc0, .slice b1 bn1 bc1] 26)).heap[w.heap.size + 1]? = some (.cells #[.bool false] 4 (0, 0))) := box_below AB HK1.out
    have HC2 : Hid ((w1.alloc (.cells #[.int .i64 A.valid, .slice b0 bn0 bc0, .slice b1 bn1 bc1] 26)).heap[w.heap.size + 2]? = some (.cells #[.slice va l.length cap, .int .i64 q] 43 (0, 0))) := box_below AB KC1.out
    have HX2 : Hid ((w1.alloc (.cells #[.int .i64 A.valid, .slice b0 bn0 bc0, .slice b1 bn1 bc1] 26)).heap[w1.heap.size]? = some (.cells #[.int .i64 A.valid, .slice b0 bn0 bc0, .slice b1 bn1 bc1] 26 (0, 0))) := KX
    have HB2 : Hid (Below w.heap.size w (w1.alloc (.cells #[.int .i64 A.valid, .slice b0 bn0 bc0, .slice b1 bn1 bc1] 26))) := Below.step HB1.out AB
    have HO2 : Hid (AccO (w1.alloc (.cells #[.int .i64 A.valid, .slice b0 bn0 bc0, .slice b1 bn1 bc1] 26)) (In (w.heap.size + 3) w1.heap.size) (.agg #[.int .i64 A.valid, .slice b0 bn0 bc0, .slice b1 bn1 bc1]) A) := HO1.out.below AB
    generalize hw2 : (w1.alloc (.cells #[.int .i64 A.valid, .slice b0 bn0 bc0, .slice b1 bn1 bc1] 26)) = w2 at *
    clear hw2 KX AB HR1 HK1 KC1 HB1 HO1
    obtain ⟨c0, c1⟩ := bx2 HC2.out
    obtain ⟨x0, x1, x2⟩ := bx3 HX2.out
    have lx := lt_of_heap HX2.out
    have lc := lt_of_heap HC2.out
    by_cases z0 : q = l.length
    case neg =>
      have t0 : (q != (l.length : Int)) = true := by simpa using z0
      have HNO : Hid (okS l = false ∧ outS l = nilA) := rd_bad HOC.out HRD.out (.inl z0)
      obtain ⟨r0, r1, r2⟩ := bx3 HR2.out
      obtain ⟨rz, rl⟩ := box8z HR2.out
      have k0 := bx1' HK2.out
      obtain ⟨kz, kl⟩ := box8z HK2.out
      have KRf : ((((w2.setCell ⟨w.heap.size, 0, none⟩ (.int .i64 0)).setCell ⟨w.heap.size, 1, none⟩ (.slice none 0 0)).setCell ⟨w.heap.size, 2, none⟩ (.slice none 0 0)).setCell ⟨w.heap.size + 1, 0, none⟩ (.bool false)).heap[w.heap.size]? = some (.cells #[.int .i64 0, .slice none 0 0, .slice none 0 0] 26 (0, 0)) := (box_other (k := w.heap.size + 1) (i := 0) (v := .bool false) (box_set (i := 2) (v := .slice none 0 0) (box_set (i := 1) (v := .slice none 0 0) (box_set (i := 0) (v := .int .i64 0) HR2.out))) (by omega))
      have KBf : ((((w2.setCell ⟨w.heap.size, 0, none⟩ (.int .i64 0)).setCell ⟨w.heap.size, 1, none⟩ (.slice none 0 0)).setCell ⟨w.heap.size, 2, none⟩ (.slice none 0 0)).setCell ⟨w.heap.size + 1, 0, none⟩ (.bool false)).heap[w.heap.size + 1]? = some (.cells #[.bool false] 4 (0, 0)) := (box_set (i := 0) (v := .bool false) (box_other (k := w.heap.size) (i := 2) (v := .slice none 0 0) (box_other (k := w.heap.size) (i := 1) (v := .slice none 0 0) (box_other (k := w.heap.size) (i := 0) (v := .int .i64 0) HK2.out (by omega)) (by omega)) (by omega)))
      have HDf : Hid (Below w.heap.size w ((((w2.setCell ⟨w.heap.size, 0, none⟩ (.int .i64 0)).setCell ⟨w.heap.size, 1, none⟩ (.slice none 0 0)).setCell ⟨w.heap.size, 2, none⟩ (.slice none 0 0)).setCell ⟨w.heap.size + 1, 0, none⟩ (.bool false))) := ((((HB2.out.setCell (p := ⟨w.heap.size, 0, none⟩) (Nat.le_refl _) (.int .i64 0)).setCell (p := ⟨w.heap.size, 1, none⟩) (Nat.le_refl _) (.slice none 0 0)).setCell (p := ⟨w.heap.size, 2, none⟩) (Nat.le_refl _) (.slice none 0 0)).setCell (p := ⟨w.heap.size + 1, 0, none⟩) (by simp) (.bool false))
      obtain ⟨e0, e1, e2⟩ := bx3 KRf
      have e3 := bx1' KBf
      clear KRf KBf
      clear z0
      go_wp2
      refine leaves_cons (f := 15) (args := #[.pointer (some ⟨w.heap.size, 0, none⟩), .pointer (some ⟨w.heap.size + 1, 0, none⟩)]) (by simp) (by simp [go_sem]) ?_
      refine (catch_idle _ _ _).mono ?_
      rintro e u' w'' ⟨rfl, rfl, rfl⟩
      refine ⟨.tuple #[.agg #[.int .i64 0, .slice none 0 0, .slice none 0 0], .bool false], by simp [results, Tryd.results6, go_sem, e0, e1, e2, e3], _, ret_ok HNO.out, ?_, HDf.out⟩
      rw [HNO.out.2]
      exact ⟨_, _, fun _ => False, fun _ => False, rfl, .inl ⟨rfl, rfl⟩, .inl ⟨rfl, rfl⟩, (fun x hx => hx.elim), (fun x hx => hx.elim), ⟨by decide, by decide⟩⟩
    have t0 : (q != (l.length : Int)) = false := by simpa using z0
    go_wp2_with fail
    refine (implAccountOk_any _ A _ HO2.out.v).mono ?_
    rintro e w5 ⟨rfl, B5⟩
    have HR5 : Hid (w5.heap[w.heap.size]? = some (.cells #[.int .i64 0, .slice none 0 0, .slice none 0 0] 26 (0, 0))) := box_below B5 HR2.out
    have HK5 : Hid (w5.heap[w.heap.size + 1]? = some (.cells #[.bool false] 4 (0, 0))) := box_below B5 HK2.out
    have HX5 : Hid (w5.heap[w1.heap.size]? = some (.cells #[.int .i64 A.valid, .slice b0 bn0 bc0, .slice b1 bn1 bc1] 26 (0, 0))) := box_below B5 HX2.out
    have HB5 : Hid (Below w.heap.size w w5) := Below.step HB2.out B5
    have HO5 : Hid (AccO w5 (In (w.heap.size + 3) w1.heap.size) (.agg #[.int .i64 A.valid, .slice b0 bn0 bc0, .slice b1 bn1 bc1]) A) := HO2.out.below B5
    have l5 : w1.heap.size < w5.heap.size := Nat.lt_of_lt_of_le lx B5.size
    clear B5 HR2 HK2 HX2 HC2 HB2 HO2 c0 c1 x0 x1 x2 lx lc
    obtain ⟨r0, r1, r2⟩ := bx3 HR5.out
    obtain ⟨rz, rl⟩ := box8z HR5.out
    have k0 := bx1' HK5.out
    obtain ⟨kz, kl⟩ := box8z HK5.out
    obtain ⟨x0, x1, x2⟩ := bx3 HX5.out
    cases z1 : accB A with
    | false =>
      have HNO : Hid (okS l = false ∧ outS l = nilA) := rd_bad HOC.out HRD.out (.inr z1)
      have KRf : ((((w5.setCell ⟨w.heap.size, 0, none⟩ (.int .i64 0)).setCell ⟨w.heap.size, 1, none⟩ (.slice none 0 0)).setCell ⟨w.heap.size, 2, none⟩ (.slice none 0 0)).setCell ⟨w.heap.size + 1, 0, none⟩ (.bool false)).heap[w.heap.size]? = some (.cells #[.int .i64 0, .slice none 0 0, .slice none 0 0] 26 (0, 0)) := (box_other (k := w.heap.size + 1) (i := 0) (v := .bool false) (box_set (i := 2) (v := .slice none 0 0) (box_set (i := 1) (v := .slice none 0 0) (box_set (i := 0) (v := .int .i64 0) HR5.out))) (by omega))
      have KBf : ((((w5.setCell ⟨w.heap.size, 0, none⟩ (.int .i64 0)).setCell ⟨w.heap.size, 1, none⟩ (.slice none 0 0)).setCell ⟨w.heap.size, 2, none⟩ (.slice none 0 0)).setCell ⟨w.heap.size + 1, 0, none⟩ (.bool false)).heap[w.heap.size + 1]? = some (.cells #[.bool false] 4 (0, 0)) := (box_set (i := 0) (v := .bool false) (box_other (k := w.heap.size) (i := 2) (v := .slice none 0 0) (box_other (k := w.heap.size) (i := 1) (v := .slice none 0 0) (box_other (k := w.heap.size) (i := 0) (v := .int .i64 0) HK5.out (by omega)) (by omega)) (by omega)))
      have HDf : Hid (Below w.heap.size w ((((w5.setCell ⟨w.heap.size, 0, none⟩ (.int .i64 0)).setCell ⟨w.heap.size, 1, none⟩ (.slice none 0 0)).setCell ⟨w.heap.size, 2, none⟩ (.slice none 0 0)).setCell ⟨w.heap.size + 1, 0, none⟩ (.bool false))) := ((((HB5.out.setCell (p := ⟨w.heap.size, 0, none⟩) (Nat.le_refl _) (.int .i64 0)).setCell (p := ⟨w.heap.size, 1, none⟩) (Nat.le_refl _) (.slice none 0 0)).setCell (p := ⟨w.heap.size, 2, none⟩) (Nat.le_refl _) (.slice none 0 0)).setCell (p := ⟨w.heap.size + 1, 0, none⟩) (by simp) (.bool false))
      obtain ⟨e0, e1, e2⟩ := bx3 KRf
      have e3 := bx1' KBf
      clear KRf KBf
      clear z1 z0
      go_wp2
      refine leaves_cons (f := 15) (args := #[.pointer (some ⟨w.heap.size, 0, none⟩), .pointer (some ⟨w.heap.size + 1, 0, none⟩)]) (by simp) (by simp [go_sem]) ?_
      refine (catch_idle _ _ _).mono ?_
      rintro e u' w'' ⟨rfl, rfl, rfl⟩
      refine ⟨.tuple #[.agg #[.int .i64 0, .slice none 0 0, .slice none 0 0], .bool false], by simp [results, Tryd.results6, go_sem, e0, e1, e2, e3], _, ret_ok HNO.out, ?_, HDf.out⟩
      rw [HNO.out.2]
      exact ⟨_, _, fun _ => False, fun _ => False, rfl, .inl ⟨rfl, rfl⟩, .inl ⟨rfl, rfl⟩, (fun x hx => hx.elim), (fun x hx => hx.elim), ⟨by decide, by decide⟩⟩
    | true =>
      have HNO : Hid (okS l = true ∧ outS l = A) := rd_yes HOC.out HRD.out z0 z1
      have KRf : ((((w5.setCell ⟨w.heap.size, 0, none⟩ (.int .i64 A.valid)).setCell ⟨w.heap.size, 1, none⟩ (.slice b0 bn0 bc0)).setCell ⟨w.heap.size, 2, none⟩ (.slice b1 bn1 bc1)).setCell ⟨w.heap.size + 1, 0, none⟩ (.bool true)).heap[w.heap.size]? = some (.cells #[.int .i64 A.valid, .slice b0 bn0 bc0, .slice b1 bn1 bc1] 26 (0, 0)) := (box_other (k := w.heap.size + 1) (i := 0) (v := .bool true) (box_set (i := 2) (v := .slice b1 bn1 bc1) (box_set (i := 1) (v := .slice b0 bn0 bc0) (box_set (i := 0) (v := .int .i64 A.valid) HR5.out))) (by omega))
      have KBf : ((((w5.setCell ⟨w.heap.size, 0, none⟩ (.int .i64 A.valid)).setCell ⟨w.heap.size, 1, none⟩ (.slice b0 bn0 bc0)).setCell ⟨w.heap.size, 2, none⟩ (.slice b1 bn1 bc1)).setCell ⟨w.heap.size + 1, 0, none⟩ (.bool true)).heap[w.heap.size + 1]? = some (.cells #[.bool true] 4 (0, 0)) := (box_set (i := 0) (v := .bool true) (box_other (k := w.heap.size) (i := 2) (v := .slice b1 bn1 bc1) (box_other (k := w.heap.size) (i := 1) (v := .slice b0 bn0 bc0) (box_other (k := w.heap.size) (i := 0) (v := .int .i64 A.valid) HK5.out (by omega)) (by omega)) (by omega)))
      have HDf : Hid (Below w.heap.size w ((((w5.setCell ⟨w.heap.size, 0, none⟩ (.int .i64 A.valid)).setCell ⟨w.heap.size, 1, none⟩ (.slice b0 bn0 bc0)).setCell ⟨w.heap.size, 2, none⟩ (.slice b1 bn1 bc1)).setCell ⟨w.heap.size + 1, 0, none⟩ (.bool true))) := ((((HB5.out.setCell (p := ⟨w.heap.size, 0, none⟩) (Nat.le_refl _) (.int .i64 A.valid)).setCell (p := ⟨w.heap.size, 1, none⟩) (Nat.le_refl _) (.slice b0 bn0 bc0)).setCell (p := ⟨w.heap.size, 2, none⟩) (Nat.le_refl _) (.slice b1 bn1 bc1)).setCell (p := ⟨w.heap.size + 1, 0, none⟩) (by simp) (.bool true))
      obtain ⟨e0, e1, e2⟩ := bx3 KRf
      have e3 := bx1' KBf
      clear KRf KBf
      have HAf : Hid (AccO ((((w5.setCell ⟨w.heap.size, 0, none⟩ (.int .i64 A.valid)).setCell ⟨w.heap.size, 1, none⟩ (.slice b0 bn0 bc0)).setCell ⟨w.heap.size, 2, none⟩ (.slice b1 bn1 bc1)).setCell ⟨w.heap.size + 1, 0, none⟩ (.bool true)) (In w.heap.size ((((w5.setCell ⟨w.heap.size, 0, none⟩ (.int .i64 A.valid)).setCell ⟨w.heap.size, 1, none⟩ (.slice b0 bn0 bc0)).setCell ⟨w.heap.size, 2, none⟩ (.slice b1 bn1 bc1)).setCell ⟨w.heap.size + 1, 0, none⟩ (.bool true)).heap.size) (.agg #[.int .i64 A.valid, .slice b0 bn0 bc0, .slice b1 bn1 bc1]) A) := (AccO.frame HO5.out (fun b hb hlt => by have := hb.1; rw [Below.heap_setCell _ _ _ _ (show b ≠ w.heap.size + 1 by omega), Below.heap_setCell _ _ _ _ (show b ≠ w.heap.size by omega), Below.heap_setCell _ _ _ _ (show b ≠ w.heap.size by omega), Below.heap_setCell _ _ _ _ (show b ≠ w.heap.size by omega)])).mono (fun b hb => ⟨by have := hb.1; omega, by have := hb.2; simp only [box_size]; omega⟩)
      clear z1 z0
      go_wp2
      refine leaves_cons (f := 15) (args := #[.pointer (some ⟨w.heap.size, 0, none⟩), .pointer (some ⟨w.heap.size + 1, 0, none⟩)]) (by simp) (by simp [go_sem]) ?_
      refine (catch_idle _ _ _).mono ?_
      rintro e u' w'' ⟨rfl, rfl, rfl⟩
      refine ⟨.tuple #[.agg #[.int .i64 A.valid, .slice b0 bn0 bc0, .slice b1 bn1 bc1], .bool true], by simp [results, Tryd.results6, go_sem, e0, e1, e2, e3], _, ret_ok HNO.out, ?_, HDf.out⟩
      rw [HNO.out.2]
      exact HAf.out

end Go.Proofs.YthnlbhmecokomaaDoor

/- One element of a list of the call's own is written anew. -/
namespace Go.Proofs.YthnlbhmecokomaaDoor
open Go.RowKit

/-- What is known of element i, and what gives the list back behind a write to it. -/
theorem Ow.upd {α : Type} {t : TypeId} {sz : Nat} {E : World → List Value → α → (Nat → Prop) → Prop} {w : World} {S : Nat → Prop} {v : Value} {l : List α} (hE : Frames E) (h : Ow t sz E w S v l) (i : Nat) (x : α) (hx : l[i]? = some x) :
    ∃ (g cap : Nat) (cur : Array Value) (c : List Value) (f : Nat → Prop), v = .slice (some ⟨g, 0, none⟩) l.length cap ∧ l.length ≤ cap ∧ cap ≤ maxLen ∧ w.heap[g]? = some (.cells cur t (0, 0)) ∧ i * sz + sz ≤ cur.size ∧ S g ∧ E w c x f ∧ c.length = sz ∧
      (∀ j u, c[j]? = some u → cur[i * sz + j]? = some u) ∧ (∀ b, f b → S b ∧ b ≠ g) ∧
      ∀ (w' : World) (cur' : Array Value) (c' : List Value) (x' : α), w'.heap[g]? = some (.cells cur' t (0, 0)) → cur'.size = cur.size → (∀ j u, c'[j]? = some u → cur'[i * sz + j]? = some u) → (∀ m, m < i * sz ∨ i * sz + sz ≤ m → cur'[m]? = cur[m]?) → c'.length = sz →
        (∀ b, S b → b ≠ g → ¬ f b → b < w.heap.size → w'.heap[b]? = w.heap[b]?) → E w' c' x' f → Ow t sz E w' S v (l.set i x') := by
  have hi : i < l.length := (List.getElem?_eq_some_iff.1 hx).1
  rcases h with ⟨-, rfl⟩ | ⟨g, cap, cur, cs, fs, hv, hh, h1, h2, h3, h4, h5, h6, h7⟩
  · simp at hi
  · obtain ⟨e1, e2, e3⟩ := h5 i x hx
    have hroom : i * sz + sz ≤ cur.size := by
      have := Nat.mul_le_mul_right sz (show i + 1 ≤ cap by omega)
      rw [Nat.add_mul, Nat.one_mul] at this
      omega
    refine ⟨g, cap, cur, cs i, fs i, hv, h1, h2, hh, hroom, h4, e1, e2, e3, fun b hb => h6 i b hi hb, ?_⟩
    intro w' cur' c' x' k1 k2 k3 k4 k5 k6 k7
    refine .inr ⟨g, cap, cur', fun n => if n = i then c' else cs n, fs, by rw [List.length_set]; exact hv, k1, by rw [List.length_set]; exact h1, h2, by omega, h4, fun n y hy => ?_, by rw [List.length_set]; exact h6, by rw [List.length_set]; exact h7⟩
    by_cases hni : n = i
    · subst hni
      rw [List.getElem?_set_self hi] at hy
      cases hy
      simp only [if_true]
      exact ⟨k7, k5, k3⟩
    · rw [List.getElem?_set_ne (fun e => hni e.symm)] at hy
      simp only [if_neg hni]
      have hn : n < l.length := (List.getElem?_eq_some_iff.1 hy).1
      obtain ⟨q1, q2, q3⟩ := h5 n y hy
      refine ⟨hE _ _ _ _ _ q1 fun b hb hlt => k6 b (h6 n b hn hb).1 (h6 n b hn hb).2 (fun hf => h7 n i b hn hi hni hb hf) hlt, q2, fun j u hu => ?_⟩
      have hj : j < sz := by have := (List.getElem?_eq_some_iff.1 hu).1; omega
      rw [k4]
      · exact q3 j u hu
      · rcases Nat.lt_or_gt_of_ne hni with hlt | hgt
        · have := Nat.mul_le_mul_right sz (show n + 1 ≤ i by omega)
          rw [Nat.add_mul, Nat.one_mul] at this
          exact .inl (by omega)
        · have := Nat.mul_le_mul_right sz (show i + 1 ≤ n by omega)
          rw [Nat.add_mul, Nat.one_mul] at this
          exact .inr (by omega)

end Go.Proofs.YthnlbhmecokomaaDoor

/- Rows of rows ([][]byte): what one reads as, one of the call's own, its rows apart from each other. -/
namespace Go.Proofs.YthnlbhmecokomaaDoor
open Go.RowKit

/-- The sum of the first sizes. -/
def pre (m : Nat → Nat) : Nat → Nat
  | 0 => 0
  | j + 1 => pre m j + m j
theorem pre_mono (m : Nat → Nat) {i j : Nat} (h : i ≤ j) : pre m i ≤ pre m j := by
  induction j with
  | zero => simp at h; subst h; exact Nat.le_refl _
  | succ j ih =>
    by_cases hj : i = j + 1
    · subst hj; exact Nat.le_refl _
    · have := ih (by omega); simp only [pre]; omega
theorem pre_congr {m m' : Nat → Nat} {n : Nat} (h : ∀ i, i < n → m i = m' i) : pre m n = pre m' n := by
  induction n with
  | zero => rfl
  | succ n ih => simp only [pre]; rw [ih (fun i hi => h i (by omega)), h n (by omega)]

/-- The slice value v reads as n rows of bytes: the i-th is f i. -/
def SsF (w : World) (v : Value) (n : Nat) (f : Nat → List Int) : Prop :=
  ∃ a cap, ∃ us : Nat → Value, v = .slice a n cap ∧ n ≤ cap ∧ cap ≤ maxLen ∧
    (0 < n → ∃ b off, a = some ⟨b, off, none⟩ ∧ b < w.heap.size ∧ ∀ i, i < n → w.cell? ⟨b, off + i, none⟩ = some (us i)) ∧ ∀ i, i < n → Bs w (us i) (f i)

theorem SsF.below {w w' : World} {v : Value} {n : Nat} {f : Nat → List Int} (h : SsF w v n f) (hb : Below w.heap.size w w') : SsF w' v n f := by
  obtain ⟨a, cap, us, hv, h1, h2, h3, h4⟩ := h
  refine ⟨a, cap, us, hv, h1, h2, fun hp => ?_, fun i hi => (h4 i hi).below hb⟩
  obtain ⟨b, off, ha, hlt, hc⟩ := h3 hp
  exact ⟨b, off, ha, Nat.lt_of_lt_of_le hlt hb.size, fun i hi => (hb.cell (p := ⟨b, off + i, none⟩) hlt).trans (hc i hi)⟩
theorem SsF.form3 {w : World} {v : Value} {n : Nat} {f : Nat → List Int} (h : SsF w v n f) : ∃ a m cap, v = .slice a m cap := by obtain ⟨a, cap, _, h, _⟩ := h; exact ⟨a, _, cap, h⟩
theorem SsF.congr {w : World} {v : Value} {n : Nat} {f g : Nat → List Int} (h : SsF w v n f) (e : ∀ i, i < n → f i = g i) : SsF w v n g := by
  obtain ⟨a, cap, us, hv, h1, h2, h3, h4⟩ := h
  exact ⟨a, cap, us, hv, h1, h2, h3, fun i hi => by rw [← e i hi]; exact h4 i hi⟩

/-- The row of rows v with the slices us is the call's own, in blocks from B on and below T, no two in one; the i-th row's bytes are f i. -/
structure RowF (w : World) (B T : Nat) (v : Value) (us : List Value) (f : Nat → List Int) : Prop where
  row : w.ownsRow B 22 1 v us.length us
  top : ∀ g, v.ownBlock = some g → g < T
  rows : ∀ (i : Nat) (u : Value), us[i]? = some u → Row w B T u (f i)
  distinct : ∀ (i j : Nat) (u u' : Value) (g : Nat), us[i]? = some u → us[j]? = some u' → u.ownBlock = some g → u'.ownBlock = some g → i = j

/-- The rows of a list. -/
def RowS (w : World) (B T : Nat) (v : Value) (ls : List (List Int)) : Prop := ∃ us : List Value, us.length = ls.length ∧ RowF w B T v us (fun i => ls.getD i [])

theorem Row.heap {w : World} {B T g : Nat} {v : Value} {l : List Int} (h : Row w B T v l) (hg : v.ownBlock = some g) : ∃ cur, w.heap[g]? = some (.cells cur 5 (0, 0)) := by
  rcases h.2.1.2 with ⟨hn, _⟩ | ⟨k, cap, cur, hv, _, hh, _⟩
  · rw [hn] at hg; simp [Value.ownBlock] at hg
  · rw [hv] at hg; simp [Value.ownBlock] at hg; subst hg; exact ⟨cur, hh⟩
theorem ownsRow_heap {w : World} {B g n : Nat} {e : TypeId} {v : Value} {xs : List Value} (h : w.ownsRow B e 1 v n xs) (hg : v.ownBlock = some g) : ∃ cur, w.heap[g]? = some (.cells cur e (0, 0)) := by
  rcases h.2 with ⟨hn, _⟩ | ⟨k, cap, cur, hv, _, hh, _⟩
  · rw [hn] at hg; simp [Value.ownBlock] at hg
  · rw [hv] at hg; simp [Value.ownBlock] at hg; subst hg; exact ⟨cur, hh⟩
/-- A row of bytes and a row of slices never lie in one block. -/
theorem apart_types {w : World} {B B' T n : Nat} {v u : Value} {xs : List Value} {l : List Int} (h : w.ownsRow B 22 1 v n xs) (hu : Row w B' T u l) : u.ownBlock = none ∨ u.ownBlock ≠ v.ownBlock := by
  cases hg : u.ownBlock with
  | none => exact .inl rfl
  | some g =>
    refine .inr fun e => ?_
    obtain ⟨c1, h1⟩ := ownsRow_heap h e.symm
    obtain ⟨c2, h2⟩ := hu.heap hg
    rw [h1] at h2
    simp at h2

theorem ownsRow_below {w w' : World} {B n : Nat} {e : TypeId} {v : Value} {xs : List Value} (h : w.ownsRow B e 1 v n xs) (hb : Below w.heap.size w w') : w'.ownsRow B e 1 v n xs := by
  refine ⟨h.1, ?_⟩
  rcases h.2 with hn | ⟨g, cap, cur, hv, hg, hh, r⟩
  · exact .inl hn
  · exact .inr ⟨g, cap, cur, hv, hg, (hb.block g (lt_of_heap hh)).trans hh, r⟩
theorem ownsRow_keptW {w w' : World} {B T B' T' n : Nat} {e : TypeId} {v : Value} {xs : List Value} (h : w.ownsRow B e 1 v n xs) (ht : ∀ g, v.ownBlock = some g → g < T) (hw : Within B' T' w w') (hd : T ≤ B' ∨ T' ≤ B) : w'.ownsRow B e 1 v n xs := by
  refine ⟨h.1, ?_⟩
  rcases h.2 with hn | ⟨g, cap, cur, hv, hg, hh, r⟩
  · exact .inl hn
  · have hlt : g < T := ht g (by rw [hv]; rfl)
    exact .inr ⟨g, cap, cur, hv, hg, (hw.block g (lt_of_heap hh) (by omega)).trans hh, r⟩
theorem ownsRow_wide {w : World} {B B' n : Nat} {e : TypeId} {v : Value} {xs : List Value} (h : w.ownsRow B e 1 v n xs) (hB : B' ≤ B) : w.ownsRow B' e 1 v n xs := by
  refine ⟨h.1, ?_⟩
  rcases h.2 with hn | ⟨g, cap, cur, hv, hg, r⟩
  · exact .inl hn
  · exact .inr ⟨g, cap, cur, hv, Nat.le_trans hB hg, r⟩

theorem RowF.below {w w' : World} {B T : Nat} {v : Value} {us : List Value} {f : Nat → List Int} (h : RowF w B T v us f) (hb : Below w.heap.size w w') : RowF w' B T v us f :=
  ⟨ownsRow_below h.row hb, h.top, fun i u hu => (h.rows i u hu).below hb, h.distinct⟩
theorem RowF.keptW {w w' : World} {B T B' T' : Nat} {v : Value} {us : List Value} {f : Nat → List Int} (h : RowF w B T v us f) (hw : Within B' T' w w') (hd : T ≤ B' ∨ T' ≤ B) : RowF w' B T v us f :=
  ⟨ownsRow_keptW h.row h.top hw hd, h.top, fun i u hu => (h.rows i u hu).keptW hw hd, h.distinct⟩
theorem RowF.wide {w : World} {B T B' T' : Nat} {v : Value} {us : List Value} {f : Nat → List Int} (h : RowF w B T v us f) (hB : B' ≤ B) (hT : T ≤ T') : RowF w B' T' v us f :=
  ⟨ownsRow_wide h.row hB, fun g hg => Nat.lt_of_lt_of_le (h.top g hg) hT, fun i u hu => (h.rows i u hu).wide hB hT, h.distinct⟩
theorem RowF.congr {w : World} {B T : Nat} {v : Value} {us : List Value} {f g : Nat → List Int} (h : RowF w B T v us f) (e : ∀ i, i < us.length → f i = g i) : RowF w B T v us g :=
  ⟨h.row, h.top, fun i u hu => by rw [← e i (List.getElem?_eq_some_iff.1 hu).1]; exact h.rows i u hu, h.distinct⟩
theorem RowF.nil (w : World) (B T : Nat) (f : Nat → List Int) : RowF w B T (.slice none 0 0) [] f :=
  ⟨World.ownsRow_nil _ _ _ _, fun g hg => by simp [Value.ownBlock] at hg, fun i u hu => by simp at hu, fun i j u u' g hu => by simp at hu⟩
/-- One of the rows was written. -/
theorem RowF.wrote {w w' : World} {B T i : Nat} {v u : Value} {us : List Value} {f : Nat → List Int} {l : List Int} (h : RowF w B T v us f) (hu : us[i]? = some u) (hg : w.grownBy w' u.ownBlock) (hr : Row w' B T u l) : RowF w' B T v us (fun j => if j = i then l else f j) := by
  have hri := h.rows i u hu
  refine ⟨h.row.kept hg ?_, h.top, fun j u' hu' => ?_, h.distinct⟩
  · cases hv : v.ownBlock with
    | none => exact .inl rfl
    | some g =>
      refine .inr fun e => ?_
      rcases apart_types h.row hri with h1 | h1
      · rw [h1] at e; simp at e
      · exact h1 (by rw [hv]; exact e.symm)
  · by_cases hj : j = i
    · subst hj
      rw [hu] at hu'
      cases hu'
      simpa using hr
    · simp only [if_neg hj]
      have hrj := h.rows j u' hu'
      refine ⟨hrj.1, hrj.2.1.kept hg ?_, hrj.2.2⟩
      cases hv : u'.ownBlock with
      | none => exact .inl rfl
      | some g => exact .inr fun e => hj (h.distinct j i u' u g hu' hu hv e.symm)
/-- What was written lies within the rows' blocks. -/
theorem RowF.within {w w' : World} {B T i : Nat} {v u : Value} {us : List Value} {f : Nat → List Int} (h : RowF w B T v us f) (hu : us[i]? = some u) (hg : w.grownBy w' u.ownBlock) : Within B T w w' := (h.rows i u hu).within hg

theorem RowF.ss {w : World} {B T : Nat} {v : Value} {us : List Value} {f : Nat → List Int} (h : RowF w B T v us f) : SsF w v us.length f := by
  rcases h.row.2 with ⟨hn, hz⟩ | ⟨g, cap, cur, hv, hg, hh, h1, h2, h3, h4⟩
  · have : us = [] := List.eq_nil_of_length_eq_zero hz
    subst this
    exact ⟨none, 0, fun _ => .slice none 0 0, hn, by simp, by simp, fun hp => by simp at hp, fun i hi => by simp at hi⟩
  · refine ⟨_, cap, fun i => us.getD i (.slice none 0 0), hv, h1, h2, fun hp => ⟨g, 0, rfl, lt_of_heap hh, fun i hi => ?_⟩, fun i hi => ?_⟩
    · rw [Nat.zero_add, cell_of_row w g i cur 22 (0, 0) hh]
      rw [Nat.mul_one] at h4
      have e : us[i]? = some (us.getD i (.slice none 0 0)) := by simp [hi]
      rw [← h4, List.getElem?_take, if_pos hi] at e
      rw [h4] at e
      simpa using e
    · have e : us[i]? = some (us.getD i (.slice none 0 0)) := by simp [hi]
      exact (h.rows i _ e).bs

/-- One more row was appended: the slices' row has grown, a new row stands behind. -/
theorem RowF.snoc {w w' : World} {B T T' : Nat} {v v' u : Value} {us : List Value} {f : Nat → List Int} {l : List Int} (h : RowF w B T v us f) (hu : Row w T T' u l) (hT : T ≤ T') (hB : B ≤ T) (hr : w'.ownsRow B 22 1 v' (us.length + 1) (us ++ [u])) (hg : w.grownBy w' v.ownBlock) :
    RowF w' B (max T' w'.heap.size) v' (us ++ [u]) (fun j => if j = us.length then l else f j) := by
  have keep : ∀ {x : Value} {k : List Int} {B0 T0 : Nat}, Row w B0 T0 x k → Row w' B0 T0 x k := fun {x} {k} {B0} {T0} hx => by
    refine ⟨hx.1, hx.2.1.kept hg ?_, hx.2.2⟩
    exact apart_types h.row hx
  refine ⟨by simpa using hr, fun g hg' => Nat.lt_of_lt_of_le (hr.lt g hg').2 (Nat.le_max_right _ _), fun i x hx => ?_, fun i j x x' g hx hx' hgx hgx' => ?_⟩
  · by_cases hi : i < us.length
    · rw [List.getElem?_append_left hi] at hx
      simp only [if_neg (show ¬ i = us.length by omega)]
      exact (keep (h.rows i x hx)).wide (Nat.le_refl _) (Nat.le_trans hT (Nat.le_max_left _ _))
    · rw [List.getElem?_append_right (by omega)] at hx
      have h0 : i - us.length = 0 := by
        by_cases h0 : i - us.length = 0
        · exact h0
        · rw [List.getElem?_eq_none (by simp; omega)] at hx; simp at hx
      have hi' : i = us.length := by omega
      rw [h0] at hx
      simp at hx
      subst hx
      simp only [if_pos hi']
      exact (keep hu).wide hB (Nat.le_max_left _ _)
  · have last : ∀ {i : Nat} {x : Value}, (us ++ [u])[i]? = some x → (i < us.length ∧ us[i]? = some x) ∨ (i = us.length ∧ x = u) := fun {i} {x} hx => by
      by_cases hi : i < us.length
      · rw [List.getElem?_append_left hi] at hx; exact .inl ⟨hi, hx⟩
      · rw [List.getElem?_append_right (by omega)] at hx
        by_cases h0 : i - us.length = 0
        · rw [h0] at hx; simp at hx; exact .inr ⟨by omega, hx.symm⟩
        · rw [List.getElem?_eq_none (by simp; omega)] at hx; simp at hx
    rcases last hx with ⟨hi, hy⟩ | ⟨hi, hy⟩ <;> rcases last hx' with ⟨hj, hy'⟩ | ⟨hj, hy'⟩
    · exact h.distinct i j x x' g hy hy' hgx hgx'
    · have h1 := (h.rows i x hy).2.2 g hgx
      rw [hy'] at hgx'
      have h2 := (hu.2.1.lt g hgx').1
      omega
    · have h1 := (h.rows j x' hy').2.2 g hgx'
      rw [hy] at hgx
      have h2 := (hu.2.1.lt g hgx).1
      omega
    · omega

theorem RowS.below {w w' : World} {B T : Nat} {v : Value} {ls : List (List Int)} (h : RowS w B T v ls) (hb : Below w.heap.size w w') : RowS w' B T v ls := let ⟨us, e, h⟩ := h; ⟨us, e, h.below hb⟩
theorem RowS.keptW {w w' : World} {B T B' T' : Nat} {v : Value} {ls : List (List Int)} (h : RowS w B T v ls) (hw : Within B' T' w w') (hd : T ≤ B' ∨ T' ≤ B) : RowS w' B T v ls := let ⟨us, e, h⟩ := h; ⟨us, e, h.keptW hw hd⟩
theorem RowS.wide {w : World} {B T B' T' : Nat} {v : Value} {ls : List (List Int)} (h : RowS w B T v ls) (hB : B' ≤ B) (hT : T ≤ T') : RowS w B' T' v ls := let ⟨us, e, h⟩ := h; ⟨us, e, h.wide hB hT⟩
theorem RowS.nil (w : World) (B T : Nat) : RowS w B T (.slice none 0 0) [] := ⟨[], rfl, RowF.nil _ _ _ _⟩
theorem RowS.ss {w : World} {B T : Nat} {v : Value} {ls : List (List Int)} (h : RowS w B T v ls) : SsF w v ls.length (fun i => ls.getD i []) := by
  obtain ⟨us, e, h⟩ := h; rw [← e]; exact h.ss
theorem RowS.snoc {w w' : World} {B T T' : Nat} {v v' u : Value} {us : List Value} {ls : List (List Int)} {l : List Int} (he : us.length = ls.length) (h : RowF w B T v us (fun i => ls.getD i [])) (hu : Row w T T' u l) (hT : T ≤ T') (hB : B ≤ T) (hr : w'.ownsRow B 22 1 v' (us.length + 1) (us ++ [u])) (hg : w.grownBy w' v.ownBlock) (hm : T' ≤ w'.heap.size) :
    RowS w' B w'.heap.size v' (ls ++ [l]) := by
  have h2 := h.snoc hu hT hB hr hg
  rw [Nat.max_eq_right hm] at h2
  refine ⟨us ++ [u], by simp [he], h2.congr fun i hi => ?_⟩
  simp only [List.length_append, List.length_singleton] at hi
  by_cases h1 : i = us.length
  · subst h1; simp [he]
  · simp only [if_neg h1]
    have : i < ls.length := by omega
    simp [List.getElem?_append_left this]

end Go.Proofs.YthnlbhmecokomaaDoor

/- What is written into data of the call's own: the world apart from it, and the data as they are then. -/
namespace Go.Proofs.YthnlbhmecokomaaDoor
open Go.RowKit

/-- Apart from the blocks of S the world w' has all that w had. -/
structure Wr (S : Nat → Prop) (w w' : World) : Prop where
  os : w'.os = w.os
  tape : w'.tape = w.tape
  output : w'.output = w.output
  size : w.heap.size ≤ w'.heap.size
  block : ∀ k, k < w.heap.size → ¬ S k → w'.heap[k]? = w.heap[k]?

theorem Wr.refl (S : Nat → Prop) (w : World) : Wr S w w := ⟨rfl, rfl, rfl, Nat.le_refl _, fun _ _ _ => rfl⟩
theorem Wr.trans {S : Nat → Prop} {a b c : World} (h : Wr S a b) (k : Wr S b c) : Wr S a c :=
  ⟨k.os.trans h.os, k.tape.trans h.tape, k.output.trans h.output, Nat.le_trans h.size k.size, fun i hi hn => (k.block i (Nat.lt_of_lt_of_le hi h.size) hn).trans (h.block i hi hn)⟩
theorem Wr.mono {S S' : Nat → Prop} {a b : World} (h : Wr S a b) (hS : ∀ x, S x → S' x) : Wr S' a b := ⟨h.os, h.tape, h.output, h.size, fun i hi hn => h.block i hi fun hs => hn (hS i hs)⟩
theorem Wr.within {B T : Nat} {a b : World} (h : Wr (In B T) a b) : Within B T a b := ⟨h.os, h.tape, h.output, h.size, fun i hi hn => h.block i hi hn⟩
theorem Wr.below {B : Nat} {S : Nat → Prop} {w0 a b : World} (h : Wr S a b) (h0 : Below B w0 a) (hS : ∀ x, S x → B ≤ x) (hB : B ≤ a.heap.size) : Below B w0 b :=
  ⟨h.os.trans h0.os, h.tape.trans h0.tape, h.output.trans h0.output, Nat.le_trans h0.size h.size, fun k hk => (h.block k (Nat.lt_of_lt_of_le hk hB) fun hs => by have := hS k hs; omega).trans (h0.block k hk)⟩
theorem Wr.of_below {S : Nat → Prop} {a b : World} (h : Below a.heap.size a b) : Wr S a b := ⟨h.os, h.tape, h.output, h.size, fun k hk _ => h.block k hk⟩
theorem Wr.put {S : Nat → Prop} {w : World} {g : Nat} (hg : S g) (o : Nat) (c : List Value) (t : TypeId) (cur : Array Value) (h : w.heap[g]? = some (.cells cur t (0, 0))) (hs : o + c.length ≤ cur.size) : Wr S w (put w g o c) := by
  obtain ⟨cur', _, _, _, _, hw⟩ := put_spec g t c w o cur h hs
  refine ⟨hw.os, hw.tape, hw.output, hw.size, fun k hk hn => hw.block k hk fun ⟨h1, h2⟩ => ?_⟩
  obtain rfl : k = g := by omega
  exact hn hg

theorem markByteS_o (S : Nat → Prop) (v : Value) (l : List Int) (k : Int) (w : World) (hv : RO w S v l) (hl : l.length ≤ 2000000) (hk0 : 0 ≤ k) (hk1 : k ≤ 1000000000000) :
    Calls Tryd.prog 9 #[v, .int .i64 k] w fun e w' => e = .returned (.int .i64 (k + l.length)) ∧ RO w' S v (marks k l.length) ∧ Wr S w w' := by
  refine (markByteS_r 0 w.heap.size v l k w ⟨hv.1, hv.2.1, fun g hg => (hv.2.1.lt g hg).2⟩ hl hk0 hk1).mono ?_
  rintro e w' ⟨rfl, r, hg⟩
  exact ⟨rfl, ⟨r.1, r.2.1, hv.2.2⟩, ⟨hg.os, hg.tape, hg.output, hg.size, fun b hb hn => hg.block b hb fun e => hn (hv.2.2 b e.symm)⟩⟩

/-- Lists, marked one element behind the other: each takes as many marks as it has places. -/
def wtAt {α : Type} (z : α) (wt : α → Nat) (l : List α) (i : Nat) : Nat := wt (l.getD i z)
def mks {α : Type} (z : α) (mk : α → Int → α) (wt : α → Nat) (k : Int) (l : List α) : List α := (List.range l.length).map fun i => mk (l.getD i z) (k + (pre (wtAt z wt l) i : Nat))
section
variable {α : Type} {z : α} {mk : α → Int → α} {wt : α → Nat} {k : Int} {l : List α}
theorem length_mks : (mks z mk wt k l).length = l.length := by simp [mks]
theorem mks_get {i : Nat} {x : α} (h : l[i]? = some x) : (mks z mk wt k l)[i]? = some (mk x (k + (pre (wtAt z wt l) i : Nat))) := by
  have hi : i < l.length := (List.getElem?_eq_some_iff.1 h).1
  have hg : l.getD i z = x := by rw [List.getD_eq_getElem?_getD, h]; rfl
  simp only [mks, List.getElem?_map, List.getElem?_range hi, Option.map_some, hg]
theorem wtAt_get {i : Nat} {x : α} (h : l[i]? = some x) : wtAt z wt l i = wt x := by
  simp [wtAt, List.getD_eq_getElem?_getD, h]
theorem pre_step {i : Nat} {x : α} (h : l[i]? = some x) : pre (wtAt z wt l) (i + 1) = pre (wtAt z wt l) i + wt x := by
  show pre (wtAt z wt l) i + wtAt z wt l i = _
  rw [wtAt_get h]
theorem pre_le {i : Nat} (h : i ≤ l.length) : pre (wtAt z wt l) i ≤ pre (wtAt z wt l) l.length := pre_mono _ h
end
theorem pre_shift1 (m : Nat → Nat) (n : Nat) : pre m (n + 1) = m 0 + pre (fun i => m (i + 1)) n := by
  induction n with
  | zero => simp [pre]
  | succ n ih => rw [pre, ih]; simp only [pre]; omega
theorem wts_sum {α : Type} (z : α) (wt : α → Nat) (l : List α) : pre (wtAt z wt l) l.length = (l.map wt).sum := by
  induction l with
  | nil => rfl
  | cons x l ih =>
    rw [List.length_cons, pre_shift1]
    have : pre (fun i => wtAt z wt (x :: l) (i + 1)) l.length = pre (wtAt z wt l) l.length := pre_congr fun i _ => by simp [wtAt]
    rw [this, ih]
    simp [wtAt]
theorem sum_le {α : Type} (f g : α → Nat) (c : Nat) (l : List α) (h : ∀ x, x ∈ l → f x ≤ c * g x) : (l.map f).sum ≤ c * (l.map g).sum := by
  induction l with
  | nil => simp
  | cons x l ih =>
    have h1 := h x (by simp)
    have h2 := ih fun y hy => h y (by simp [hy])
    simp only [List.map_cons, List.sum_cons, Nat.mul_add]
    omega
theorem sum_mem {α : Type} (f : α → Nat) {l : List α} {x : α} (h : x ∈ l) : f x ≤ (l.map f).sum := by
  induction l with
  | nil => cases h
  | cons y l ih =>
    simp only [List.map_cons, List.sum_cons]
    rcases List.mem_cons.1 h with rfl | h
    · omega
    · have := ih h; omega

/-- The first i of a, the rest of b. -/
def mix {α : Type} (a b : List α) (i : Nat) : List α := a.take i ++ b.drop i
section
variable {α : Type} {a b : List α} {i : Nat}
theorem mix_zero : mix a b 0 = b := by simp [mix]
theorem mix_all (h : a.length = b.length) : mix a b b.length = a := by simp [mix, ← h]
theorem mix_length (h : a.length = b.length) (hi : i ≤ b.length) : (mix a b i).length = b.length := by simp [mix]; omega
theorem mix_get (h : a.length = b.length) (hi : i < b.length) : (mix a b i)[i]? = b[i]? := by
  have hl : (a.take i).length = i := by rw [List.length_take]; omega
  rw [mix, List.getElem?_append_right (by omega), hl]
  simp
theorem mix_set (h : a.length = b.length) {x : α} (hx : a[i]? = some x) : (mix a b i).set i x = mix a b (i + 1) := by
  have hi : i < a.length := (List.getElem?_eq_some_iff.1 hx).1
  have hv : a[i] = x := (List.getElem?_eq_some_iff.1 hx).2
  have hl : (a.take i).length = i := by rw [List.length_take]; omega
  rw [mix, List.set_append_right _ _ (by omega), hl, Nat.sub_self, mix, List.take_succ_eq_append_getElem hi, hv, List.append_assoc]
  congr 1
  rw [List.drop_eq_getElem_cons (show i < b.length by omega)]
  rfl
end

def zMail : MailD := ⟨0, 0, 0, []⟩
def zGone : GoneD := ⟨0, 0⟩
def zBox : BoxD := ⟨[], 0, 0, 0, [], [], 0⟩
def wtInt (_ : Int) : Nat := 1
def mkInt (_ : Int) (p : Int) : Int := p
def wtGone (_ : GoneD) : Nat := 2
def mkGone (_ : GoneD) (p : Int) : GoneD := ⟨p, p + 1⟩
def wtMail (m : MailD) : Nat := 3 + m.text.length
def mkMail (m : MailD) (p : Int) : MailD := ⟨p, p + 1, p + 2, marks (p + 3) m.text.length⟩
def wIs (l : List Int) : Nat := pre (wtAt 0 wtInt l) l.length
def wGs (l : List GoneD) : Nat := pre (wtAt zGone wtGone l) l.length
def wMs (l : List MailD) : Nat := pre (wtAt zMail wtMail l) l.length
def mkGones (k : Int) (l : List GoneD) : List GoneD := mks zGone mkGone wtGone k l
def mkMails (k : Int) (l : List MailD) : List MailD := mks zMail mkMail wtMail k l
def mkInts (k : Int) (l : List Int) : List Int := mks 0 mkInt wtInt k l
def wtBox (b : BoxD) : Nat := b.name.length + 3 + wMs b.mails + wGs b.gones + 1
def mkBox (b : BoxD) (p : Int) : BoxD :=
  ⟨marks p b.name.length, p + b.name.length, p + b.name.length + 1, p + b.name.length + 2, mkMails (p + b.name.length + 3) b.mails, mkGones (p + b.name.length + 3 + wMs b.mails) b.gones, p + b.name.length + 3 + wMs b.mails + wGs b.gones⟩
def wXs (l : List BoxD) : Nat := pre (wtAt zBox wtBox l) l.length
def mkBoxes (k : Int) (l : List BoxD) : List BoxD := mks zBox mkBox wtBox k l
theorem wIs_eq (l : List Int) : wIs l = l.length := by
  rw [wIs, wts_sum]
  induction l with
  | nil => rfl
  | cons x l ih => simp only [List.map_cons, List.sum_cons, ih, wtInt, List.length_cons]; omega
theorem wGs_eq (l : List GoneD) : wGs l = 2 * l.length := by
  rw [wGs, wts_sum]
  induction l with
  | nil => rfl
  | cons x l ih => simp only [List.map_cons, List.sum_cons, ih, wtGone, List.length_cons]; omega
theorem wMs_le (l : List MailD) : wMs l ≤ 3 * szM l := by
  rw [wMs, wts_sum, szM]
  exact sum_le _ _ 3 l fun x _ => by simp only [wtMail]; omega
theorem wtBox_le (b : BoxD) : wtBox b ≤ 4 * (szX b + 1) := by
  have h1 := wMs_le b.mails
  have h2 := wGs_eq b.gones
  simp only [wtBox, szX]
  omega
theorem wXs_le (l : List BoxD) : wXs l ≤ 4 * szXs l := by
  rw [wXs, wts_sum, szXs]
  exact sum_le _ _ 4 l fun x _ => wtBox_le x
theorem wMs_mem {l : List MailD} {m : MailD} (h : m ∈ l) : 3 + m.text.length ≤ wMs l := by
  rw [wMs, wts_sum]; exact sum_mem wtMail h
theorem wXs_mem {l : List BoxD} {b : BoxD} (h : b ∈ l) : wtBox b ≤ wXs l := by
  rw [wXs, wts_sum]; exact sum_mem wtBox h

end Go.Proofs.YthnlbhmecokomaaDoor

/- What markGoneS of package laws does. -/
namespace Go.Proofs.YthnlbhmecokomaaDoor
open Go.RowKit
set_option maxRecDepth 100000
set_option linter.unusedVariables false

/-- An element is written anew, cell by cell. -/
theorem Ow.put {α : Type} {t : TypeId} {sz : Nat} {E : World → List Value → α → (Nat → Prop) → Prop} {w : World} {S : Nat → Prop} {v : Value} {l : List α} (hE : Frames E) (h : Ow t sz E w S v l) (i : Nat) (x : α) (hx : l[i]? = some x) :
    ∃ (g cap : Nat) (c : List Value) (f : Nat → Prop), v = .slice (some ⟨g, 0, none⟩) l.length cap ∧ l.length ≤ cap ∧ cap ≤ maxLen ∧ g < w.heap.size ∧ S g ∧ E w c x f ∧ c.length = sz ∧ (∀ b, f b → S b ∧ b ≠ g) ∧
      (∀ j u, c[j]? = some u → w.cell? ⟨g, i * sz + j, none⟩ = some u) ∧ (∀ j, w.frozen? ⟨g, j, none⟩ = false) ∧ (∃ cur, w.heap[g]? = some (.cells cur t (0, 0)) ∧ i * sz + sz ≤ cur.size) ∧
      ∀ (c' : List Value) (x' : α), c'.length = sz → (∀ w', (∀ b, f b → b < w.heap.size → w'.heap[b]? = w.heap[b]?) → E w' c' x' f) → Ow t sz E (put w g (i * sz) c') S v (l.set i x') ∧ Wr S w (put w g (i * sz) c') := by
  obtain ⟨g, cap, cur, c, f, hv, h1, h2, hh, h3, h4, h5, h6, h7, h8, h9⟩ := h.upd hE i x hx
  refine ⟨g, cap, c, f, hv, h1, h2, lt_of_heap hh, h4, h5, h6, h8, fun j u hu => ?_, fun j => frozen_of_row w g j cur t hh, ⟨cur, hh, h3⟩, fun c' x' hc he => ?_⟩
  · rw [cell_of_row w g _ cur t (0, 0) hh]
    exact h7 j u hu
  · obtain ⟨cur', e1, e2, e3, e4, e5⟩ := put_spec g t c' w (i * sz) cur hh (by omega)
    refine ⟨h9 _ cur' c' x' e1 e2 e3 (fun m hm => e4 m (by omega)) hc (fun b hb hne _ hlt => e5.block b hlt (by omega)) (he _ fun b hb hlt => e5.block b hlt (by have := (h8 b hb).2; omega)), Wr.put h4 _ _ t cur hh (by omega)⟩

set_option maxHeartbeats 1000000 in
theorem markGoneS_o (S : Nat → Prop) (v : Value) (l : List GoneD) (k : Int) (w : World) (hv : GonesO w S v l) (hl : l.length ≤ 2000000) (hk0 : 0 ≤ k) (hk1 : k ≤ 100000000000) :
    Calls Tryd.prog 40 #[v, .int .i64 k] w fun e w' => e = .returned (.int .i64 (k + wGs l)) ∧ GonesO w' S v (mkGones k l) ∧ Wr S w w' := by
  have HV : Hid (GonesO w S v l) := hv
  obtain ⟨a, cap, rfl, hlc, hcm⟩ := (hv.rd fun _ _ _ _ h => h : GonesV w v l).form
  clear hv
  have hw := wGs_eq l
  have hlen : (mkGones k l).length = l.length := length_mks
  go_enter Tryd.func40, Tryd.ntmps40
  go_wp2
  go_loopw [1, 5] (fun q i wr => ∃ j : Nat, j ≤ l.length ∧ i = .int .i64 j ∧ q = .int .i64 (k + (pre (wtAt zGone wtGone l) j : Nat)) ∧ Hid (GonesO wr S (.slice a l.length cap) (mix (mkGones k l) l j)) ∧ Hid (Wr S w wr)) (fun _ i _ => l.length - (intOf i).toNat)
  case atStart => exact ⟨0, Nat.zero_le _, rfl, by simp [pre], by rw [mix_zero]; exact HV, Wr.refl _ _⟩
  case round =>
    obtain ⟨j, hj, rfl, rfl, hO, hW⟩ := hrel
    by_cases hlt : j < l.length
    · obtain ⟨x, hx⟩ : ∃ x, l[j]? = some x := ⟨l[j], List.getElem?_eq_getElem hlt⟩
      obtain ⟨g, cap', c, f, hv', -, -, hgl, hS, ⟨rfl, -, -⟩, -, -, hc, fz, -, hput⟩ := hO.out.put framesGone j x ((mix_get hlen hlt).trans hx)
      simp only [Value.slice.injEq] at hv'
      obtain ⟨rfl, -, rfl⟩ := hv'
      have hpj : pre (wtAt zGone wtGone l) j ≤ wGs l := pre_le (Nat.le_of_lt hlt)
      have hp1 : pre (wtAt zGone wtGone l) (j + 1) = pre (wtAt zGone wtGone l) j + 2 := pre_step hx
      have hn := mks_get (z := zGone) (mk := mkGone) (wt := wtGone) (k := k) hx
      generalize pre (wtAt zGone wtGone l) j = P at hpj hp1 hn
      have hP : (P : Int) ≤ 4000000 := by omega
      have d0 := hc 0 _ rfl
      have d1 := hc 1 _ rfl
      simp only [Nat.add_zero] at d0
      have HS : Hid (GonesO (put wr g (j * 2) [.int .i64 (k + P), .int .i64 (k + P + 1)]) S (.slice (some ⟨g, 0, none⟩) l.length cap) (mix (mkGones k l) l (j + 1)) ∧ Wr S w (put wr g (j * 2) [.int .i64 (k + P), .int .i64 (k + P + 1)])) := by
        obtain ⟨h1, h2⟩ := hput [.int .i64 (k + P), .int .i64 (k + P + 1)] (mkGone x (k + P)) rfl (fun w' _ => ⟨rfl, by constructor <;> simp only [mkGone] <;> omega, by constructor <;> simp only [mkGone] <;> omega⟩)
        rw [mix_set hlen hn] at h1
        exact ⟨h1, hW.out.trans h2⟩
      clear hput hc hn hO hW hx hw
      go_wp2
      go_roundw
      case rel => exact ⟨j + 1, by omega, by go_num, by rw [hp1]; go_num, HS.out.1, HS.out.2⟩
      case measure => simp [intOf]; omega
    · go_wp2
      go_ret
      obtain rfl : j = l.length := by omega
      exact ⟨rfl, by rw [← mix_all hlen]; exact hO.out, hW.out⟩

end Go.Proofs.YthnlbhmecokomaaDoor

/- What markMailS of package laws does. -/
namespace Go.Proofs.YthnlbhmecokomaaDoor
open Go.RowKit
set_option maxRecDepth 100000
set_option linter.unusedVariables false

set_option maxHeartbeats 1000000 in
theorem markMailS_o (S : Nat → Prop) (v : Value) (l : List MailD) (k : Int) (w : World) (hv : MailsO w S v l) (hs : szM l ≤ 2000000) (hk0 : 0 ≤ k) (hk1 : k ≤ 100000000000) :
    Calls Tryd.prog 39 #[v, .int .i64 k] w fun e w' => e = .returned (.int .i64 (k + wMs l)) ∧ MailsO w' S v (mkMails k l) ∧ Wr S w w' := by
  have HV : Hid (MailsO w S v l) := hv
  obtain ⟨a, cap, rfl, hlc, hcm⟩ := (hv.rd fun _ _ _ _ => MailE.rd : MailsV w v l).form
  clear hv
  have hl : l.length ≤ 2000000 := Nat.le_trans (szM_len l) hs
  have hb : wMs l ≤ 6000000 := by have := wMs_le l; omega
  have hlen : (mkMails k l).length = l.length := length_mks
  go_enter Tryd.func39, Tryd.ntmps39
  go_wp2
  go_loopw [1, 5] (fun q i wr => ∃ j : Nat, j ≤ l.length ∧ i = .int .i64 j ∧ q = .int .i64 (k + (pre (wtAt zMail wtMail l) j : Nat)) ∧ Hid (MailsO wr S (.slice a l.length cap) (mix (mkMails k l) l j)) ∧ Hid (Wr S w wr)) (fun _ i _ => l.length - (intOf i).toNat)
  case atStart => exact ⟨0, Nat.zero_le _, rfl, by simp [pre], by rw [mix_zero]; exact HV, Wr.refl _ _⟩
  case round =>
    obtain ⟨j, hj, rfl, rfl, hO, hW⟩ := hrel
    by_cases hlt : j < l.length
    · obtain ⟨x, hx⟩ : ∃ x, l[j]? = some x := ⟨l[j], List.getElem?_eq_getElem hlt⟩
      obtain ⟨g, cap', cur, c, f, hv', -, -, hh, hroom, hS, ⟨u, rfl, hu, -, -, -⟩, -, hcs, hf, hupd⟩ := hO.out.upd framesMail j x ((mix_get hlen hlt).trans hx)
      simp only [Value.slice.injEq] at hv'
      obtain ⟨rfl, -, rfl⟩ := hv'
      have hp1 : pre (wtAt zMail wtMail l) (j + 1) = pre (wtAt zMail wtMail l) j + (3 + x.text.length) := pre_step hx
      have hpj : pre (wtAt zMail wtMail l) (j + 1) ≤ wMs l := pre_le hlt
      have hn := mks_get (z := zMail) (mk := mkMail) (wt := wtMail) (k := k) hx
      generalize pre (wtAt zMail wtMail l) j = P at hpj hp1 hn
      have hP : (P : Int) ≤ 6000000 := by omega
      have hxt : x.text.length ≤ 2000000 := by have := szM_mem (List.mem_of_getElem? hx); omega
      have d0 := (cell_of_row wr g (j * 4) cur _ (0, 0) hh).trans (hcs 0 _ rfl)
      have d1 := (cell_of_row wr g (j * 4 + 1) cur _ (0, 0) hh).trans (hcs 1 _ rfl)
      have d2 := (cell_of_row wr g (j * 4 + 2) cur _ (0, 0) hh).trans (hcs 2 _ rfl)
      have fz : ∀ i, wr.frozen? ⟨g, i, none⟩ = false := fun i => frozen_of_row wr g i cur _ hh
      have hgl := lt_of_heap hh
      obtain ⟨ua, un, uc, rfl⟩ := hu.bs.form3
      obtain ⟨cur1, e1, e2, e3, e4, e5⟩ := put_spec g _ [.int .i64 (k + P), .int .i64 (k + P + 1), .int .i64 (k + P + 1 + 1)] wr (j * 4) cur hh (by simp; omega)
      have d3 : (((wr.setCell ⟨g, j * 4, none⟩ (.int .i64 (k + P))).setCell ⟨g, j * 4 + 1, none⟩ (.int .i64 (k + P + 1))).setCell ⟨g, j * 4 + 2, none⟩ (.int .i64 (k + P + 1 + 1))).cell? ⟨g, j * 4 + 3, none⟩ = some (.slice ua un uc) := (cell_of_row _ g (j * 4 + 3) cur1 _ (0, 0) e1).trans ((e4 (j * 4 + 3) (.inr (by simp))).trans (hcs 3 _ rfl))
      have HU : Hid (RO (put wr g (j * 4) [.int .i64 (k + P), .int .i64 (k + P + 1), .int .i64 (k + P + 1 + 1)]) f (.slice ua un uc) x.text) := hu.frame fun b hb hlt => e5.block b hlt (by have := (hf b hb).2; omega)
      have HS : Hid (∀ w', Wr f (put wr g (j * 4) [.int .i64 (k + P), .int .i64 (k + P + 1), .int .i64 (k + P + 1 + 1)]) w' → RO w' f (.slice ua un uc) (marks (k + P + 1 + 1 + 1) x.text.length) → MailsO w' S (.slice (some ⟨g, 0, none⟩) l.length cap) (mix (mkMails k l) l (j + 1)) ∧ Wr S w w') := by
        intro w' hw' hr
        have hsz := e5.size
        have hg' : w'.heap[g]? = _ := (hw'.block g (by omega) fun h => (hf g h).2 rfl).trans e1
        have hE : MailE w' [.int .i64 (k + P), .int .i64 (k + P + 1), .int .i64 (k + P + 1 + 1), .slice ua un uc] (mkMail x (k + P)) f := by
          refine ⟨.slice ua un uc, ?_, ?_, ?_, ?_, ?_⟩
          · simp only [mkMail]; rw [show k + P + 1 + 1 = k + (P : Int) + 2 by omega]
          · simp only [mkMail]; rw [show k + (P : Int) + 3 = k + P + 1 + 1 + 1 by omega]; exact hr
          all_goals (constructor <;> simp only [mkMail] <;> omega)
        have h1 := hupd w' cur1 _ (mkMail x (k + P)) hg' e2 (fun i u hi => ?_) (fun m hm => e4 m (by simp; omega)) rfl (fun b hb hne hnf hlt => (hw'.block b (by omega) hnf).trans (e5.block b hlt (by omega))) hE
        · rw [mix_set hlen hn] at h1
          refine ⟨h1, hW.out.trans ⟨hw'.os.trans e5.os, hw'.tape.trans e5.tape, hw'.output.trans e5.output, Nat.le_trans hsz hw'.size, fun b hb hns => ?_⟩⟩
          have hbg : b ≠ g := fun e => hns (e ▸ hS)
          exact (hw'.block b (by omega) fun h => hns (hf b h).1).trans (e5.block b hb (by omega))
        · match i, hi with
          | 0, hi => exact e3 0 u (by simpa using hi)
          | 1, hi => exact e3 1 u (by simpa using hi)
          | 2, hi => exact e3 2 u (by simpa using hi)
          | 3, hi => exact (e4 (j * 4 + 3) (.inr (by simp))).trans (hcs 3 u (by simpa using hi))
      clear hupd hcs hn hO hW hx e1 e2 e3 e4 e5 hu hh hroom hf
      go_wp2_with fail
      refine (markByteS_o f _ x.text _ _ HU.out hxt (by omega) (by omega)).mono ?_
      rintro e w2 ⟨rfl, R, W2⟩
      have HS2 := HS.out w2 W2 R
      have HM : Hid (MailsO w2 S (.slice (some ⟨g, 0, none⟩) l.length cap) (mix (mkMails k l) l (j + 1))) := HS2.1
      have HW : Hid (Wr S w w2) := HS2.2
      clear HS HS2 R W2 HU d0 d1 d2 d3 fz
      go_wp2
      go_roundw
      case rel => exact ⟨j + 1, by omega, by go_num, by rw [hp1]; go_num, HM, HW⟩
      case measure => simp [intOf]; omega
    · go_wp2
      go_ret
      obtain rfl : j = l.length := by omega
      exact ⟨rfl, by rw [← mix_all hlen]; exact hO.out, hW.out⟩

end Go.Proofs.YthnlbhmecokomaaDoor

/- What markBoxS of package laws does. -/
namespace Go.Proofs.YthnlbhmecokomaaDoor
open Go.RowKit
set_option maxRecDepth 100000
set_option linter.unusedVariables false

theorem ne_out {b g : Nat} (h : b ≠ g) : ¬ (g ≤ b ∧ b < g + 1) := by omega

set_option maxRecDepth 100000 in
set_option maxHeartbeats 4000000 in
theorem markBoxS_o (S : Nat → Prop) (v : Value) (l : List BoxD) (k : Int) (w : World) (hv : BoxesO w S v l) (hs : szXs l ≤ 2000000) (hk0 : 0 ≤ k) (hk1 : k ≤ 10000000000) :
    Calls Tryd.prog 20 #[v, .int .i64 k] w fun e w' => e = .returned (.int .i64 (k + wXs l)) ∧ BoxesO w' S v (mkBoxes k l) ∧ Wr S w w' := by
  have HV : Hid (BoxesO w S v l) := hv
  obtain ⟨a, cap, rfl, hlc, hcm⟩ := (hv.rd fun _ _ _ _ => BoxE.rd : BoxesV w v l).form
  clear hv
  have hl : l.length ≤ 2000000 := Nat.le_trans (szXs_len l) hs
  have hb : wXs l ≤ 8000000 := by have := wXs_le l; omega
  have hlen : (mkBoxes k l).length = l.length := length_mks
  go_enter Tryd.func20, Tryd.ntmps20
  go_wp2
  go_loopw [1, 5] (fun q i wr => ∃ j : Nat, j ≤ l.length ∧ i = .int .i64 j ∧ q = .int .i64 (k + (pre (wtAt zBox wtBox l) j : Nat)) ∧ Hid (BoxesO wr S (.slice a l.length cap) (mix (mkBoxes k l) l j)) ∧ Hid (Wr S w wr)) (fun _ i _ => l.length - (intOf i).toNat)
  case atStart => exact ⟨0, Nat.zero_le _, rfl, by simp [pre], by rw [mix_zero]; exact HV, Wr.refl _ _⟩
  case round =>
    obtain ⟨j, hj, rfl, rfl, hO, hW⟩ := hrel
    by_cases hlt : j < l.length
    · obtain ⟨x, hx⟩ : ∃ x, l[j]? = some x := ⟨l[j], List.getElem?_eq_getElem hlt⟩
      obtain ⟨g, cap', cur, c, f, hv', -, -, hh, hroom, hS, ⟨u0, u1, u2, S0, S1, S2, rfl, h0, h1, h2, s0, s1, s2, -⟩, -, hcs, hf, hupd⟩ := hO.out.upd framesBox j x ((mix_get hlen hlt).trans hx)
      simp only [Value.slice.injEq] at hv'
      obtain ⟨rfl, -, rfl⟩ := hv'
      have hp1 : pre (wtAt zBox wtBox l) (j + 1) = pre (wtAt zBox wtBox l) j + wtBox x := pre_step hx
      have hpj : pre (wtAt zBox wtBox l) (j + 1) ≤ wXs l := pre_le hlt
      have hn := mks_get (z := zBox) (mk := mkBox) (wt := wtBox) (k := k) hx
      generalize pre (wtAt zBox wtBox l) j = P at hpj hp1 hn
      have hxs := szXs_mem (List.mem_of_getElem? hx)
      have hx0 : x.name.length ≤ 2000000 := by simp only [szX] at hxs; omega
      have hx1 : szM x.mails ≤ 2000000 := by simp only [szX] at hxs; omega
      have hx2 : x.gones.length ≤ 2000000 := by simp only [szX] at hxs; omega
      have hwt : wtBox x = x.name.length + 3 + wMs x.mails + wGs x.gones + 1 := rfl
      have hP : (P : Int) ≤ 8000000 := by omega
      have hPn : (x.name.length : Int) ≤ 8000000 := by omega
      have hPm : (wMs x.mails : Int) ≤ 8000000 := by omega
      have hPg : (wGs x.gones : Int) ≤ 8000000 := by omega
      obtain ⟨a0, n0, c0, rfl⟩ := h0.bs.form3
      obtain ⟨a1, c1, rfl, -⟩ := (h1.rd fun _ _ _ _ => MailE.rd : MailsV _ _ _).form
      obtain ⟨a2, c2, rfl, -⟩ := (h2.rd fun _ _ _ _ h => h : GonesV _ _ _).form
      have hgl := lt_of_heap hh
      have hg0 : ¬ S0 g := fun h => (hf g (s0 g h).1).2 rfl
      have hg1 : ¬ S1 g := fun h => (hf g (s1 g h).1).2 rfl
      have hg2 : ¬ S2 g := fun h => (hf g (s2 g h)).2 rfl
      have HH : Hid (wr.heap[g]? = some (.cells cur 53 (0, 0))) := hh
      have H0 : Hid (RO wr S0 (.slice a0 n0 c0) x.name) := h0
      have H1 : Hid (MailsO wr S1 (.slice a1 x.mails.length c1) x.mails) := h1
      have H2 : Hid (GonesO wr S2 (.slice a2 x.gones.length c2) x.gones) := h2
      have d0 := (cell_of_row wr g (j * 7) cur _ (0, 0) hh).trans (hcs 0 _ rfl)
      have HS0 : Hid ((∀ y, S0 y → f y ∧ ¬ S1 y ∧ ¬ S2 y) ∧ (∀ y, S1 y → f y ∧ ¬ S2 y) ∧ (∀ y, S2 y → f y)) := ⟨s0, s1, s2⟩
      have HF : Hid (∀ b, f b → S b ∧ b ≠ g) := hf
      have HC : Hid (∀ i u, [Value.slice a0 n0 c0, .int .i64 x.valid, .int .i64 x.next, .int .i64 x.seq, .slice a1 x.mails.length c1, .slice a2 x.gones.length c2, .int .i64 x.lost][i]? = some u → cur[j * 7 + i]? = some u) := hcs
      have HN : Hid ((mix (mkBoxes k l) l j).set j (mkBox x (k + P)) = mix (mkBoxes k l) l (j + 1)) := mix_set hlen hn
      have HUP := (show Hid _ from hupd)
      clear hupd hcs hn hO h0 h1 h2 s0 s1 s2 hf hh hx hxs
      go_wp2_with fail
      refine (markByteS_o S0 _ x.name _ _ H0.out hx0 (by omega) (by omega)).mono ?_
      rintro e w1 ⟨rfl, R1, W1⟩
      have hs1 := W1.size
      have hh1 : w1.heap[g]? = some (.cells cur 53 (0, 0)) := (W1.block g hgl hg0).trans HH.out
      have fz : ∀ i, w1.frozen? ⟨g, i, none⟩ = false := fun i => frozen_of_row w1 g i cur _ hh1
      clear d0
      have d1 := (cell_of_row w1 g (j * 7 + 1) cur _ (0, 0) hh1).trans (HC.out 1 _ rfl)
      have d2 := (cell_of_row w1 g (j * 7 + 2) cur _ (0, 0) hh1).trans (HC.out 2 _ rfl)
      have d3 := (cell_of_row w1 g (j * 7 + 3) cur _ (0, 0) hh1).trans (HC.out 3 _ rfl)
      obtain ⟨cur1, e1, e2, e3, e4, e5⟩ := put_spec g _ [.int .i64 (k + P + x.name.length), .int .i64 (k + P + x.name.length + 1), .int .i64 (k + P + x.name.length + 1 + 1)] w1 (j * 7 + 1) cur hh1 (by simp; omega)
      have d4 : (((w1.setCell ⟨g, j * 7 + 1, none⟩ (.int .i64 (k + P + x.name.length))).setCell ⟨g, j * 7 + 2, none⟩ (.int .i64 (k + P + x.name.length + 1))).setCell ⟨g, j * 7 + 3, none⟩ (.int .i64 (k + P + x.name.length + 1 + 1))).cell? ⟨g, j * 7 + 4, none⟩ = some (.slice a1 x.mails.length c1) := (cell_of_row _ g (j * 7 + 4) cur1 _ (0, 0) e1).trans ((e4 (j * 7 + 4) (.inr (by simp))).trans (HC.out 4 _ rfl))
      have hsp := e5.size
      have HB1 : Hid (∀ b, b ≠ g → ¬ S0 b → b < wr.heap.size → (put w1 g (j * 7 + 1) [.int .i64 (k + P + x.name.length), .int .i64 (k + P + x.name.length + 1), .int .i64 (k + P + x.name.length + 1 + 1)]).heap[b]? = wr.heap[b]?) := fun b hb h0 hlt => (e5.block b (by omega) (by omega)).trans (W1.block b hlt h0)
      have H1' : Hid (MailsO (put w1 g (j * 7 + 1) [.int .i64 (k + P + x.name.length), .int .i64 (k + P + x.name.length + 1), .int .i64 (k + P + x.name.length + 1 + 1)]) S1 (.slice a1 x.mails.length c1) x.mails) :=
        H1.out.frame framesMail fun b hb hlt => HB1.out b (fun e => hg1 (e ▸ hb)) (fun h => (HS0.out.1 b h).2.1 hb) hlt
      have H2' : Hid (GonesO (put w1 g (j * 7 + 1) [.int .i64 (k + P + x.name.length), .int .i64 (k + P + x.name.length + 1), .int .i64 (k + P + x.name.length + 1 + 1)]) S2 (.slice a2 x.gones.length c2) x.gones) :=
        H2.out.frame framesGone fun b hb hlt => HB1.out b (fun e => hg2 (e ▸ hb)) (fun h => (HS0.out.1 b h).2.2 hb) hlt
      have H0' : Hid (RO (put w1 g (j * 7 + 1) [.int .i64 (k + P + x.name.length), .int .i64 (k + P + x.name.length + 1), .int .i64 (k + P + x.name.length + 1 + 1)]) S0 (.slice a0 n0 c0) (marks (k + P) x.name.length)) :=
        R1.frame fun b hb hlt => e5.block b hlt (ne_out fun e => hg0 (e ▸ hb))
      have HO1 : Hid ((put w1 g (j * 7 + 1) [.int .i64 (k + P + x.name.length), .int .i64 (k + P + x.name.length + 1), .int .i64 (k + P + x.name.length + 1 + 1)]).os = wr.os ∧ (put w1 g (j * 7 + 1) [.int .i64 (k + P + x.name.length), .int .i64 (k + P + x.name.length + 1), .int .i64 (k + P + x.name.length + 1 + 1)]).tape = wr.tape ∧ (put w1 g (j * 7 + 1) [.int .i64 (k + P + x.name.length), .int .i64 (k + P + x.name.length + 1), .int .i64 (k + P + x.name.length + 1 + 1)]).output = wr.output) := ⟨e5.os.trans W1.os, e5.tape.trans W1.tape, e5.output.trans W1.output⟩
      have E1 : Hid ((put w1 g (j * 7 + 1) [.int .i64 (k + P + x.name.length), .int .i64 (k + P + x.name.length + 1), .int .i64 (k + P + x.name.length + 1 + 1)]).heap[g]? = some (.cells cur1 53 (0, 0))) := e1
      have E2 : Hid (cur1.size = cur.size ∧ (∀ i u, [Value.int .i64 (k + P + x.name.length), .int .i64 (k + P + x.name.length + 1), .int .i64 (k + P + x.name.length + 1 + 1)][i]? = some u → cur1[j * 7 + 1 + i]? = some u) ∧ (∀ m, m < j * 7 + 1 ∨ j * 7 + 4 ≤ m → cur1[m]? = cur[m]?)) := ⟨e2, e3, fun m hm => e4 m (by simp; omega)⟩
      clear e1 e2 e3 e4 e5 R1 W1 hh1 HH H0 H1 H2
      go_wp2_with fail
      refine (markMailS_o S1 _ x.mails _ _ H1'.out hx1 (by omega) (by omega)).mono ?_
      rintro e w2 ⟨rfl, R2, W2⟩
      have hs2 := W2.size
      have E1' : Hid (w2.heap[g]? = some (.cells cur1 53 (0, 0))) := (W2.block g (by omega) hg1).trans E1.out
      have HB2 : Hid (∀ b, b ≠ g → ¬ S0 b → ¬ S1 b → b < wr.heap.size → w2.heap[b]? = wr.heap[b]?) := fun b hb h0 h1 hlt => (W2.block b (by omega) h1).trans (HB1.out b hb h0 hlt)
      have G2 : Hid (GonesO w2 S2 (.slice a2 x.gones.length c2) x.gones) := H2'.out.frame framesGone fun b hb hlt => W2.block b hlt fun h => (HS0.out.2.1 b h).2 hb
      have G0 : Hid (RO w2 S0 (.slice a0 n0 c0) (marks (k + P) x.name.length)) := H0'.out.frame fun b hb hlt => W2.block b hlt fun h => (HS0.out.1 b hb).2.1 h
      have G1 : Hid (MailsO w2 S1 (.slice a1 x.mails.length c1) (mkMails (k + P + x.name.length + 1 + 1 + 1) x.mails)) := R2
      have HO2 : Hid (w2.os = wr.os ∧ w2.tape = wr.tape ∧ w2.output = wr.output) := ⟨W2.os.trans HO1.out.1, W2.tape.trans HO1.out.2.1, W2.output.trans HO1.out.2.2⟩
      have d5 := (cell_of_row w2 g (j * 7 + 5) cur1 _ (0, 0) E1'.out).trans ((E2.out.2.2 (j * 7 + 5) (.inr (by omega))).trans (HC.out 5 _ rfl))
      have hgl2 : g < w2.heap.size := by omega
      have hsz2 : wr.heap.size ≤ w2.heap.size := by omega
      clear d1 d2 d3 d4 fz R2 W2 H1' H2' H0' HB1 HO1 E1 hs1 hs2 hsp
      go_wp2_with fail
      refine (markGoneS_o S2 _ x.gones _ _ G2.out hx2 (by omega) (by omega)).mono ?_
      rintro e w3 ⟨rfl, R3, W3⟩
      have hs3 := W3.size
      have E3 : w3.heap[g]? = some (.cells cur1 53 (0, 0)) := (W3.block g hgl2 hg2).trans E1'.out
      have fz : ∀ i, w3.frozen? ⟨g, i, none⟩ = false := fun i => frozen_of_row w3 g i cur1 _ E3
      have d6 := (cell_of_row w3 g (j * 7 + 6) cur1 _ (0, 0) E3).trans ((E2.out.2.2 (j * 7 + 6) (.inr (by omega))).trans (HC.out 6 _ rfl))
      have hgl3 : g < w3.heap.size := by omega
      have HFIN : Hid (BoxesO (put w3 g (j * 7 + 6) [.int .i64 (k + P + x.name.length + 1 + 1 + 1 + wMs x.mails + wGs x.gones)]) S (.slice (some ⟨g, 0, none⟩) l.length cap) (mix (mkBoxes k l) l (j + 1)) ∧ Wr S w (put w3 g (j * 7 + 6) [.int .i64 (k + P + x.name.length + 1 + 1 + 1 + wMs x.mails + wGs x.gones)])) := by
        obtain ⟨cur2, p1, p2, p3, p4, p5⟩ := put_spec g _ [.int .i64 (k + P + x.name.length + 1 + 1 + 1 + wMs x.mails + wGs x.gones)] w3 (j * 7 + 6) cur1 E3 (by have := E2.out.1; simp; omega)
        have hsp := p5.size
        have hB : ∀ b, b ≠ g → ¬ S0 b → ¬ S1 b → ¬ S2 b → b < wr.heap.size → (put w3 g (j * 7 + 6) [.int .i64 (k + P + x.name.length + 1 + 1 + 1 + wMs x.mails + wGs x.gones)]).heap[b]? = wr.heap[b]? := fun b hb h0 h1 h2 hlt => (p5.block b (by omega) (by omega)).trans ((W3.block b (by omega) h2).trans (HB2.out b hb h0 h1 hlt))
        have hE : BoxE (put w3 g (j * 7 + 6) [.int .i64 (k + P + x.name.length + 1 + 1 + 1 + wMs x.mails + wGs x.gones)]) [Value.slice a0 n0 c0, .int .i64 (k + P + x.name.length), .int .i64 (k + P + x.name.length + 1), .int .i64 (k + P + x.name.length + 1 + 1), .slice a1 x.mails.length c1, .slice a2 x.gones.length c2, .int .i64 (k + P + x.name.length + 1 + 1 + 1 + wMs x.mails + wGs x.gones)] (mkBox x (k + P)) f := by
          refine ⟨.slice a0 n0 c0, .slice a1 x.mails.length c1, .slice a2 x.gones.length c2, S0, S1, S2, ?_, ?_, ?_, ?_, HS0.out.1, HS0.out.2.1, HS0.out.2.2, ?_, ?_, ?_, ?_⟩
          · simp only [mkBox]
            rw [show k + P + x.name.length + 1 + 1 + 1 = k + (P : Int) + x.name.length + 3 by omega, show k + P + x.name.length + 1 + 1 = k + (P : Int) + x.name.length + 2 by omega]
          · exact G0.out.frame fun b hb hlt => (p5.block b (by omega) (ne_out fun e => hg0 (e ▸ hb))).trans (W3.block b hlt (HS0.out.1 b hb).2.2)
          · simp only [mkBox]
            rw [show k + (P : Int) + x.name.length + 3 = k + P + x.name.length + 1 + 1 + 1 by omega]
            exact G1.out.frame framesMail fun b hb hlt => (p5.block b (by omega) (ne_out fun e => hg1 (e ▸ hb))).trans (W3.block b hlt (HS0.out.2.1 b hb).2)
          · simp only [mkBox]
            rw [show k + (P : Int) + x.name.length + 3 = k + P + x.name.length + 1 + 1 + 1 by omega]
            exact R3.frame framesGone fun b hb hlt => p5.block b hlt (ne_out fun e => hg2 (e ▸ hb))
          all_goals (constructor <;> simp only [mkBox] <;> omega)
        have hfin := HUP.out _ cur2 _ (mkBox x (k + P)) p1 (p2.trans E2.out.1) (fun i u hi => ?_) (fun m hm => (p4 m (by simp; omega)).trans (E2.out.2.2 m (by omega))) rfl (fun b hb hne hnf hlt => hB b hne (fun h => hnf (HS0.out.1 b h).1) (fun h => hnf (HS0.out.2.1 b h).1) (fun h => hnf (HS0.out.2.2 b h)) hlt) hE
        · rw [HN.out] at hfin
          refine ⟨hfin, hW.out.trans ⟨?_, ?_, ?_, by omega, fun b hb hns => hB b (fun e => hns (e ▸ hS)) (fun h => hns (HF.out b (HS0.out.1 b h).1).1) (fun h => hns (HF.out b (HS0.out.2.1 b h).1).1) (fun h => hns (HF.out b (HS0.out.2.2 b h)).1) hb⟩⟩
          · exact p5.os.trans (W3.os.trans HO2.out.1)
          · exact p5.tape.trans (W3.tape.trans HO2.out.2.1)
          · exact p5.output.trans (W3.output.trans HO2.out.2.2)
        · match i, hi with
          | 0, hi => exact (p4 (j * 7 + 0) (.inl (by omega))).trans ((E2.out.2.2 _ (.inl (by omega))).trans (HC.out 0 u (by simpa using hi)))
          | 1, hi => exact (p4 (j * 7 + 1) (.inl (by omega))).trans (E2.out.2.1 0 u (by simpa using hi))
          | 2, hi => exact (p4 (j * 7 + 2) (.inl (by omega))).trans (E2.out.2.1 1 u (by simpa using hi))
          | 3, hi => exact (p4 (j * 7 + 3) (.inl (by omega))).trans (E2.out.2.1 2 u (by simpa using hi))
          | 4, hi => exact (p4 (j * 7 + 4) (.inl (by omega))).trans ((E2.out.2.2 _ (.inr (by omega))).trans (HC.out 4 u (by simpa using hi)))
          | 5, hi => exact (p4 (j * 7 + 5) (.inl (by omega))).trans ((E2.out.2.2 _ (.inr (by omega))).trans (HC.out 5 u (by simpa using hi)))
          | 6, hi => exact p3 0 u (by simpa using hi)
      clear HUP HN HC HF HS0 G0 G1 G2 E1' E2 HO2 HB2 R3 W3 E3 hW hs3 hsz2 d5
      go_wp2
      go_roundw
      case rel => exact ⟨j + 1, by omega, by go_num, by rw [hp1, hwt]; go_num, HFIN.out.1, HFIN.out.2⟩
      case measure => simp [intOf]; omega
    · go_wp2
      go_ret
      obtain rfl : j = l.length := by omega
      exact ⟨rfl, by rw [← mix_all hlen]; exact hO.out, hW.out⟩

end Go.Proofs.YthnlbhmecokomaaDoor

/- What markIntS of package laws does. -/
namespace Go.Proofs.YthnlbhmecokomaaDoor
open Go.RowKit
set_option maxRecDepth 100000
set_option linter.unusedVariables false

set_option maxHeartbeats 1000000 in
theorem markIntS_o (S : Nat → Prop) (v : Value) (l : List Int) (k : Int) (w : World) (hv : IntsO w S v l) (hl : l.length ≤ 2000000) (hk0 : 0 ≤ k) (hk1 : k ≤ 100000000000) :
    Calls Tryd.prog 21 #[v, .int .i64 k] w fun e w' => e = .returned (.int .i64 (k + wIs l)) ∧ IntsO w' S v (mkInts k l) ∧ Wr S w w' := by
  have HV : Hid (IntsO w S v l) := hv
  obtain ⟨a, cap, rfl, hlc, hcm⟩ := (hv.rd fun _ _ _ _ h => h : IntsV w v l).form
  clear hv
  have hw := wIs_eq l
  have hlen : (mkInts k l).length = l.length := length_mks
  go_enter Tryd.func21, Tryd.ntmps21
  go_wp2
  go_loopw [1, 5] (fun q i wr => ∃ j : Nat, j ≤ l.length ∧ i = .int .i64 j ∧ q = .int .i64 (k + (pre (wtAt 0 wtInt l) j : Nat)) ∧ Hid (IntsO wr S (.slice a l.length cap) (mix (mkInts k l) l j)) ∧ Hid (Wr S w wr)) (fun _ i _ => l.length - (intOf i).toNat)
  case atStart => exact ⟨0, Nat.zero_le _, rfl, by simp [pre], by rw [mix_zero]; exact HV, Wr.refl _ _⟩
  case round =>
    obtain ⟨j, hj, rfl, rfl, hO, hW⟩ := hrel
    by_cases hlt : j < l.length
    · obtain ⟨x, hx⟩ : ∃ x, l[j]? = some x := ⟨l[j], List.getElem?_eq_getElem hlt⟩
      obtain ⟨g, cap', c, f, hv', -, -, hgl, hS, ⟨rfl, -⟩, -, -, hc, fz, -, hput⟩ := hO.out.put framesInt j x ((mix_get hlen hlt).trans hx)
      simp only [Value.slice.injEq] at hv'
      obtain ⟨rfl, -, rfl⟩ := hv'
      have hpj : pre (wtAt 0 wtInt l) j ≤ wIs l := pre_le (Nat.le_of_lt hlt)
      have hp1 : pre (wtAt 0 wtInt l) (j + 1) = pre (wtAt 0 wtInt l) j + 1 := pre_step hx
      have hn := mks_get (z := 0) (mk := mkInt) (wt := wtInt) (k := k) hx
      generalize pre (wtAt 0 wtInt l) j = P at hpj hp1 hn
      have hP : (P : Int) ≤ 4000000 := by omega
      have d0 := hc 0 _ rfl
      simp only [Nat.add_zero, Nat.mul_one] at d0 hput
      have HS : Hid (IntsO (put wr g j [.int .i64 (k + P)]) S (.slice (some ⟨g, 0, none⟩) l.length cap) (mix (mkInts k l) l (j + 1)) ∧ Wr S w (put wr g j [.int .i64 (k + P)])) := by
        obtain ⟨h1, h2⟩ := hput [.int .i64 (k + P)] (mkInt x (k + P)) rfl (fun w' _ => ⟨rfl, by constructor <;> simp only [mkInt] <;> omega⟩)
        rw [mix_set hlen hn] at h1
        exact ⟨h1, hW.out.trans h2⟩
      clear hput hc hn hO hW hx hw
      go_wp2
      go_roundw
      case rel => exact ⟨j + 1, by omega, by go_num, by rw [hp1]; go_num, HS.out.1, HS.out.2⟩
      case measure => simp [intOf]; omega
    · go_wp2
      go_ret
      obtain rfl : j = l.length := by omega
      exact ⟨rfl, by rw [← mix_all hlen]; exact hO.out, hW.out⟩

end Go.Proofs.YthnlbhmecokomaaDoor
