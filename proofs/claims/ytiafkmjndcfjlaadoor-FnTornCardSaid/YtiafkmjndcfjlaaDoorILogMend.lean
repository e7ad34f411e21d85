/- What Mend of package impl does. -/
import Derived.Test.YtiafkmjndcfjlaaDoorIVia
namespace Go.Proofs.YtiafkmjndcfjlaaDoor
open Go.RowKit Go.Shelf
set_option maxRecDepth 100000
attribute [local go_sem] Oper.semAt_some

set_option maxRecDepth 100000 in
set_option maxHeartbeats 2000000 in
/-- The method: the log of block g is cut off behind its last whole record. -/
theorem mend_m (g : Nat) (v0 v1 : Value) (a : List Int) (w : World) (hg : w.heap[g]? = some (.cells #[v0, v1] 24 (0, 0))) (g0 : Bs w v0 a) (h1n : ∃ x n y, v1 = .slice x n y) (ha : a.length ≤ 1000000) :
    Calls Tryd.prog 20 #[.pointer (some ⟨g, 0, none⟩)] w fun e w' => (∃ z, e = .returned z) ∧ ∃ u, w'.heap[g]? = some (.cells #[u, .slice none 0 0] 24 (0, 0)) ∧ Row w' w.heap.size w'.heap.size u (a.take (scanL a).2) ∧ Within g (g + 1) w w' := by
  have H0 : Hid (∀ wi, Below w.heap.size w wi → Bs wi v0 a) := fun wi h => g0.below h
  obtain ⟨a0, c0, rfl⟩ := g0.form
  obtain ⟨hcap, -⟩ := g0.cap
  obtain ⟨a1, n1, c1, rfl⟩ := h1n
  have HG : Hid (w.heap[g]? = some (.cells #[.slice a0 a.length c0, .slice a1 n1 c1] 24 (0, 0)) ∧ Bs w (.slice a0 a.length c0) a) := ⟨hg, g0⟩
  have hlt := lt_of_heap hg
  clear hg g0
  refine (callsIn_wide (n := 4)).1 ?_
  refine callsIn_of_wp_marks Tryd.func20 rfl trivial ?_ rfl
  simp only [Tryd.ntmps20, List.size_toArray, List.length_cons, List.length_nil, Nat.reduceAdd, Nat.reduceSub, Array.replicate_succ, Array.replicate_zero, List.push_toArray, List.append_toArray, List.nil_append, List.cons_append]
  gi_wp2_with fail
  refine ⟨trivial, (callsIn_wide.2 (records_in _ _)).mono ?_⟩
  rintro e w' ⟨rfl, rfl⟩
  gi_wp2_with fail
  have hsz : ((w.alloc (.cells #[.int .i64 0] 3)).alloc (.cells #[.pointer (some ⟨g, 0, none⟩)] 59)).heap.size = w.heap.size + 2 := by simp
  obtain ⟨bE, bN, hB0⟩ := boxes2 w (.cells #[.int .i64 0] 3) (.cells #[.pointer (some ⟨g, 0, none⟩)] 59)
  refine wpIn_rangeFunc_ownG rfl (by omega) (gf := 31) (lb := #[.pointer (some ⟨w.heap.size + 1, 0, none⟩)]) rfl trivial (enters_of Tryd.func31 (by kernel_rfl) rfl)
    (records_stops _ _ _ w _ _ _ a (by omega) (by omega) HG.out.1 HG.out.2 hB0 bN) KpR.t (KpR.b (by omega) (by omega)) (Below.refl _ _) (fun _ => rfl)
    (fun pre W => Boxed W w.heap.size 3 (.int .i64 (lastOf pre)) ∧ Below w.heap.size w W ∧ w.heap.size + 2 ≤ W.heap.size ∧ Boxed W (w.heap.size + 1) 59 (.pointer (some ⟨g, 0, none⟩)))
    (fun _ _ _ => False) ?own (fun _ _ _ _ _ hs _ _ => hs) ⟨bE, hB0, by omega, bN⟩
    (fun x => { tmps := #[.pointer (some ⟨g, 0, none⟩), undef, .pointer (some ⟨w.heap.size, 0, none⟩), undef, .int .i64 x.1.2.2, .pointer (some ⟨g, 0, none⟩), .func (.func 31) #[] #[.pointer (some ⟨w.heap.size + 1, 0, none⟩)], x.1.1, .int .i64 x.1.2.2, undef, undef, undef, undef, undef, undef, undef, undef, undef, undef, undef, undef, undef, undef], defers := [] }) ?assign ?body ?done ?stop
  case own =>
    rintro pre X Y row ⟨hE, hB, h3, hN⟩ hg hr
    have hr' : ∀ r, row = some r → ∃ o : Obj, X.heap[r]? = some o ∧ o.isCells = false := fun r e => (hr r e).2
    exact ⟨boxed_turn hE hg hr', hB.grown hg hB.size (fun k e => by have := (hr k e).1; omega), Nat.le_trans h3 hg.size, boxed_turn hN hg hr'⟩
  case assign =>
    intro l x W K hK
    dsimp only [encR]
    gi_wp2
    exact hK
  case body =>
    rintro l pre x W ⟨hE, hB, h3, hN⟩ hlt'
    obtain ⟨xb, hxb⟩ : ∃ xb, x.1.2.2 = xb := ⟨_, rfl⟩
    simp only [hxb]
    have HXB : Hid (x.1.2.2 = xb) := hxb
    have HI : Hid (Boxed W w.heap.size 3 (.int .i64 (lastOf pre)) ∧ Below w.heap.size w W ∧ Boxed W (w.heap.size + 1) 59 (.pointer (some ⟨g, 0, none⟩))) := ⟨hE, hB, hN⟩
    have cE := hE.cell
    have zE := hE.frozen
    clear hxb hE hB hN
    gi_wp2
    have el : lastOf (pre ++ [x]) = xb := by rw [lastOf_snoc]; exact HXB.out
    have hN5 := box_other (k := w.heap.size) (i := 0) (v := .int .i64 xb) HI.out.2.2 (by omega)
    have b5 := (Below.refl w.heap.size W).setCell (p := ⟨w.heap.size, 0, none⟩) (Nat.le_refl _) (.int .i64 xb)
    have s5 := b5.size
    refine ⟨(KeepsOthers.setCell _ _ _).from _, ⟨b5, hN5.trans HI.out.2.2.symm⟩, ?_, HI.out.2.1.trans b5, by omega, hN5⟩
    rw [el]; exact HI.out.1.set _
  case done =>
    rintro D ys W hD ⟨hys1, hys2⟩ ⟨hE, hB, h3, hN⟩ hK
    have cE := hE.cell
    rw [hys2] at cE
    have hKK := (scanL_end a).1
    generalize hKe : (scanL a).2 = K at cE hKK
    have HKE : Hid ((scanL a).2 = K) := hKe
    clear hKe
    have hD' : w.heap.size + 2 ≤ D := by omega
    have hmx : Tryd.prog.follows .mixedOrders = true := by kernel_rfl
    have hgW := box_below hB HG.out.1
    obtain ⟨f0, f1, z0, z1, -⟩ := box2 hgW
    have hK0 : (0 : Int) ≤ (K : Int) := by omega
    have hK1 : (K : Int) ≤ (c0 : Int) := by omega
    have hl : (a.take K).length ≤ 4000000 := by simp; omega
    have HC : Hid (Bs W.drew (.slice a0 K c0) (a.take K)) := bs_first (H0.out _ hB.drew) K hKK
    have HB : Hid (W.heap[g]? = some (.cells #[.slice a0 a.length c0, .slice a1 n1 c1] 24 (0, 0)) ∧ Below w.heap.size w W ∧ W.heap[D]? = some (.deferred (some []))) := ⟨hgW, hB, hK⟩
    clear hys1 hys2 hE hB hN hK hgW
    gi_wp2
    refine wpIn_only (fun a' w' => ∃ w2 r0 r1 r2, Hid (Below W.drew.heap.size W.drew w2 ∧ Row w2 W.drew.heap.size w2.heap.size (.slice r0 r1 r2) (a.take K)) ∧ w' = w2.setCell ⟨g, 0, none⟩ (.slice r0 r1 r2) ∧ a' = { tmps := #[.pointer (some ⟨g, 0, none⟩), undef, .pointer (some ⟨w.heap.size, 0, none⟩), undef, undef, .pointer (some ⟨g, 0, none⟩), .func (.func 31) #[] #[.pointer (some ⟨w.heap.size + 1, 0, none⟩)], undef, undef, undef, .pointer (some ⟨g, 0, none⟩), .pointer (some ⟨g, 0, none⟩), .pointer (some ⟨g, 0, none⟩), .pointer (some ⟨g, 0, none⟩), .slice a0 a.length c0, .int .i64 K, .slice a0 K c0, .slice r0 r1 r2, .pointer (some ⟨g, 0, none⟩), .pointer (some ⟨g, 0, none⟩), undef, undef, undef], defers := [{ target := .collected D, args := #[] }] }) ?tree ?rest
    case tree =>
      gi_region_with_o (refine ⟨trivial, ?_⟩; gi_at_call 22; refine (callsIn_wide.2 (joined_r _ _ (a.take K) [] _ HC.out (bs_nil _) hl (by simp))).mono ?_; rintro e w2 ⟨r, rfl, hRw, B2⟩; rw [List.append_nil] at hRw; obtain ⟨r0, r1, r2, rfl⟩ := hRw.bs.form3; obtain ⟨q0, q1, y0, y1, -⟩ := box2 (box_below B2 HB.out.1); have HR2 : Hid (Below W.drew.heap.size W.drew w2 ∧ Row w2 W.drew.heap.size w2.heap.size (.slice r0 r1 r2) (a.take K)) := ⟨B2, hRw⟩; clear B2 hRw)
      all_goals exact ⟨_, _, _, _, HR2, rfl, rfl⟩
    case rest =>
      rintro a' w' ⟨w2, r0, r1, r2, HR2, rfl, rfl⟩
      have hk2 := box_below HR2.out.1 HB.out.1
      have hk3 := box2_set0 (v := .slice r0 r1 r2) hk2
      obtain ⟨q0, q1, y0, y1, -⟩ := box2 hk3
      have HK3 : Hid ((w2.setCell ⟨g, 0, none⟩ (.slice r0 r1 r2)).heap[g]? = some (.cells #[.slice r0 r1 r2, .slice a1 n1 c1] 24 (0, 0)) ∧ w2.heap[D]? = some (.deferred (some []))) := ⟨hk3, box_below HR2.out.1 HB.out.2.2⟩
      clear hk2 hk3 f0 f1 z0 z1
      gi_wp2
      have hKD := box_other (k := g) (i := 1) (v := .slice none 0 0) (box_other (k := g) (i := 0) (v := .slice r0 r1 r2) HK3.out.2 (by omega)) (by omega)
      refine ⟨by simp, .inl ⟨_, _, rfl, run_takeDeferred hKD, ?_⟩⟩
      have hg4 := box2_set1 (v := .slice none 0 0) HK3.out.1
      have gp := grownBy_putObj' ((w2.setCell ⟨g, 0, none⟩ (.slice r0 r1 r2)).setCell ⟨g, 1, none⟩ (.slice none 0 0)) D (.deferred none)
      have hX : Below w.heap.size w w2 := Below.step HB.out.2.1 ⟨HR2.out.1.os, HR2.out.1.tape, HR2.out.1.output, HR2.out.1.size, HR2.out.1.block⟩
      have hW2 := within_set1 (i := 1) (x := .slice none 0 0) (within_set1 (i := 0) (x := .slice r0 r1 r2) (Within.ofBelow (B := g) (T := g + 1) hX))
      have hs4 := hW2.size
      have hsW : w.heap.size + 2 ≤ W.drew.heap.size := h3
      refine ⟨_, results_none rfl _ _ _, ⟨_, rfl⟩, .slice r0 r1 r2, ?_, ?_, ?_⟩
      · exact (gp.block g (by omega) (by simp; omega)).trans hg4
      · rw [HKE.out]
        have hR := (((HR2.out.2.set (g := g) (i := 0) (x := .slice r0 r1 r2) (.inl (by omega))).set (g := g) (i := 1) (x := .slice none 0 0) (.inl (by omega))).turn gp (fun r e => by cases e; exact ⟨_, hKD, rfl⟩))
        have hs5 := gp.size
        exact hR.wide (by omega) (Nat.le_trans (by simp [World.setCell]) hs5)
      · exact ⟨gp.os.trans hW2.os, gp.tape.trans hW2.tape, gp.output.trans hW2.output, Nat.le_trans hs4 gp.size, fun k hk hd => (gp.block k (Nat.lt_of_lt_of_le hk hs4) (by simp; omega)).trans (hW2.block k hk hd)⟩
  case stop =>
    rintro D c pre W _ _ h _
    exact h.elim

set_option maxHeartbeats 1000000 in
theorem implMend_r (v : Value) (a b : List Int) (w : World) (hv : LogV w v a b) (ha : a.length ≤ 4000000) (hb : b.length ≤ 4000000) :
    Calls Tryd.prog 6 #[v] w fun e w' => ∃ u, e = .returned u ∧ LogR w' w.heap.size w'.heap.size u (mendA a b) [] ∧ Below w.heap.size w w' := by
  have HV : Hid (∀ wi, Below w.heap.size w wi → LogV wi v a b) := fun wi h => hv.below h
  obtain ⟨v0, v1, rfl, g0, g1⟩ := hv
  have HW : Hid (∀ wi, Below w.heap.size w wi → Bs wi v0 a ∧ Bs wi v1 b) := fun wi h => ⟨g0.below h, g1.below h⟩
  obtain ⟨a0, n0, c0, rfl⟩ := g0.form3
  obtain ⟨a1, n1, c1, rfl⟩ := g1.form3
  clear g0 g1
  have hb2 := boxes2 w (.cells #[.slice a0 n0 c0, .slice a1 n1 c1] 24) (.cells #[.slice none 0 0, .slice none 0 0] 24)
  go_enter Tryd.func6, Tryd.ntmps6
  go_wp2_with fail
  refine (implLogOk_any _ a b _ (HV.out _ hb2.2.2) (by omega) (by omega)).mono ?_
  rintro e w1 ⟨rfl, B⟩
  have k0 := box_below B hb2.1
  have k1 := box_below B hb2.2.1
  have HX : Hid (Below w.heap.size w w1) := Below.step hb2.2.2 B
  have s1 : w.heap.size + 1 < w1.heap.size := lt_of_heap k1
  obtain ⟨f10, f11, z10, z11, -⟩ := box2 k1
  have HK : Hid (w1.heap[w.heap.size]? = some (.cells #[.slice a0 n0 c0, .slice a1 n1 c1] 24) ∧ w1.heap[w.heap.size + 1]? = some (.cells #[.slice none 0 0, .slice none 0 0] 24)) := ⟨k0, k1⟩
  clear hb2 B k0 k1 HV
  by_cases hok : a.length + b.length ≤ 1000000
  · have HP : Hid (mendA a b = a.take (scanL a).2) := by simp [Hid, mendA, hok]
    have hd : decide (a.length + b.length ≤ 1000000) = true := by simp [hok]
    go_wp2_with fail
    refine (mend_m _ _ _ a _ HK.out.1 (HW.out _ HX.out).1 ⟨_, _, _, rfl⟩ (by omega)).mono ?_
    rintro e w2 ⟨⟨z, rfl⟩, u, k0, R, B⟩
    rw [← HP.out] at R
    clear f10 f11 z10 z11
    have k1 := box_within B HK.out.2 (by omega)
    have hs2 := B.size
    have HX2 : Hid (Below w.heap.size w w2) := Within.below (B.wide (Nat.le_refl _) (Nat.le_refl _)) HX.out (Nat.le_refl _)
    obtain ⟨r0, r1, r2, rfl⟩ := R.bs.form3
    have HR : Hid (Row w2 w1.heap.size w2.heap.size (.slice r0 r1 r2) (mendA a b)) := R
    obtain ⟨f00, f01, -⟩ := box2 k0
    obtain ⟨f10, f11, z10, z11, -⟩ := box2 k1
    clear R B k0 k1 HK
    go_wp2
    refine bodyPost_ret (v := .agg #[.slice r0 r1 r2, .slice none 0 0]) (by simp [results, Tryd.results6, go_sem, f10, f11]) rfl ⟨_, rfl, ?_, ?_⟩
    · exact ⟨_, _, w1.heap.size, w2.heap.size, w2.heap.size, _, rfl, (HR.out.set (.inl (by omega))).set (.inl (by omega)), Row.nil _ _ _, by omega, by simp [World.setCell], by omega, Nat.le_refl _, .inl (Nat.le_refl _)⟩
    · exact (HX2.out.setCell (by simp) _).setCell (by simp) _
  · have HP : Hid (mendA a b = []) := by simp [Hid, mendA, hok]
    have hd : decide (a.length + b.length ≤ 1000000) = false := by simp [hok]
    go_wp2
    refine bodyPost_ret (v := .agg #[.slice none 0 0, .slice none 0 0]) (by simp [results, Tryd.results6, go_sem, f10, f11]) rfl ⟨_, rfl, ?_, ?_⟩
    · rw [HP.out]; exact LogR.zero _ _ _ (by have := HX.out.size; simp [World.setCell]; omega)
    · exact (HX.out.setCell (by simp) _).setCell (by simp) _

end Go.Proofs.YtiafkmjndcfjlaaDoor
