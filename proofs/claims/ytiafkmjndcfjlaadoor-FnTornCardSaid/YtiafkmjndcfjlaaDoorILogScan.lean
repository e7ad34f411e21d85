/- What Scan of package impl does. -/
import Derived.Test.YtiafkmjndcfjlaaDoorICollect
namespace Go.Proofs.YtiafkmjndcfjlaaDoor
open Go.RowKit Go.Shelf
attribute [local go_sem] Oper.semAt_some

set_option maxRecDepth 100000 in
set_option maxHeartbeats 2000000 in
theorem implScan_r (v : Value) (a b : List Int) (w : World) (hv : LogV w v a b) (ha : a.length ≤ 2000000) (hb : b.length ≤ 2000000) :
    Calls Tryd.prog 7 #[v] w fun e w' => ∃ u, e = .returned (.tuple #[u, .int .i64 (scanA a b).2]) ∧ RowS w' w.heap.size w'.heap.size u (scanA a b).1 ∧ Below w.heap.size w w' := by
  have HV : Hid (∀ wi, Below w.heap.size w wi → LogV wi v a b) := fun wi h => hv.below h
  obtain ⟨v0, v1, rfl, g0, g1⟩ := hv
  have H0 : Hid (∀ wi, Below w.heap.size w wi → Bs wi v0 a) := fun wi h => g0.below h
  obtain ⟨a0, n0, c0, rfl⟩ := g0.form3
  obtain ⟨a1, n1, c1, rfl⟩ := g1.form3
  clear g0 g1
  obtain ⟨i1, hj, hy0, hy1, hy2⟩ := info_parts info22
  have hB : Below w.heap.size w (w.alloc (.cells #[.slice a0 n0 c0, .slice a1 n1 c1] 24)) := (Below.refl _ _).alloc (Nat.le_refl _) _
  have bx := box_new w (.cells #[.slice a0 n0 c0, .slice a1 n1 c1] 24)
  refine (callsIn_wide (n := 4)).1 ?_
  refine callsIn_of_wp_marks Tryd.func7 rfl trivial ?_ rfl
  simp only [Tryd.ntmps7, List.size_toArray, List.length_cons, List.length_nil, Nat.reduceAdd, Nat.reduceSub, Array.replicate_succ, Array.replicate_zero, List.push_toArray, List.append_toArray, List.nil_append, List.cons_append]
  gi_wp2_with fail
  refine ⟨trivial, (callsIn_wide.2 (implLogOk_any _ a b _ (HV.out _ hB) (by omega) (by omega))).mono ?_⟩
  rintro e w1 ⟨rfl, B⟩
  have k0 := box_below B bx
  have HX : Hid (Below w.heap.size w w1) := Below.step hB B
  have HK : Hid (w1.heap[w.heap.size]? = some (.cells #[.slice a0 n0 c0, .slice a1 n1 c1] 24 (0, 0))) := k0
  have s1 : w.heap.size < w1.heap.size := lt_of_heap k0
  clear bx hB B HV k0
  by_cases hok : a.length + b.length ≤ 1000000
  · have HP : Hid (scanA a b = scanL a) := by simp [Hid, scanA, hok]
    have hd : decide (a.length + b.length ≤ 1000000) = true := by simp [hok]
    gi_wp2_with fail
    refine ⟨trivial, (callsIn_wide.2 (records_in _ _)).mono ?_⟩
    rintro e w' ⟨rfl, rfl⟩
    gi_wp2_with fail
    have hsz : (((w1.alloc (.cells #[.slice none 0 0] 28)).alloc (.cells #[.int .i64 0] 3)).alloc (.cells #[.pointer (some ⟨w.heap.size, 0, none⟩)] 59)).heap.size = w1.heap.size + 3 := by simp
    obtain ⟨bF, bE, bN⟩ := box3 w1 (.cells #[.slice none 0 0] 28) (.cells #[.int .i64 0] 3) (.cells #[.pointer (some ⟨w.heap.size, 0, none⟩)] 59)
    have hB0 := box3_below w1 (.cells #[.slice none 0 0] 28) (.cells #[.int .i64 0] 3) (.cells #[.pointer (some ⟨w.heap.size, 0, none⟩)] 59)
    refine wpIn_rangeFunc_ownG rfl (by omega) (gf := 31) (lb := #[.pointer (some ⟨w1.heap.size + 1 + 1, 0, none⟩)]) rfl trivial (enters_of Tryd.func31 (by kernel_rfl) rfl)
      (records_stops _ _ _ w1 _ _ _ a (by omega) (by omega) HK.out (H0.out _ HX.out) hB0 bN) KpR.t (KpR.b (by omega) (by omega)) (Below.refl _ _) (fun _ => rfl)
      (fun pre W => (∃ v, Boxed W w1.heap.size 28 v ∧ RowS W (w1.heap.size + 3) W.heap.size v (pre.map recOf)) ∧ Boxed W (w1.heap.size + 1) 3 (.int .i64 (lastOf pre)) ∧ Below w1.heap.size w1 W ∧ w1.heap.size + 3 ≤ W.heap.size ∧ Boxed W (w1.heap.size + 1 + 1) 59 (.pointer (some ⟨w.heap.size, 0, none⟩)))
      (fun _ _ _ => False) ?own (fun _ _ _ _ _ hs _ _ => hs) ⟨⟨_, bF, RowS.nil _ _ _⟩, bE, hB0, by omega, bN⟩
      (fun x => { tmps := #[.agg #[.slice a0 n0 c0, .slice a1 n1 c1], .pointer (some ⟨w.heap.size, 0, none⟩), .slice none 0 0, .int .i64 0, .pointer (some ⟨w1.heap.size, 0, none⟩), .pointer (some ⟨w1.heap.size + 1, 0, none⟩), x.1.1, .int .i64 x.1.2.2, .agg #[.slice a0 n0 c0, .slice a1 n1 c1], .bool true, .bool false, .func (.func 31) #[] #[.pointer (some ⟨w1.heap.size + 1 + 1, 0, none⟩)], x.1.1, .int .i64 x.1.2.2, undef, undef, undef, undef, undef, undef, undef, undef], defers := [] }) ?assign ?body ?done ?stop
    case own =>
      rintro pre X Y row ⟨⟨v, hv, hrow⟩, hE, hB, h3, hN⟩ hg hr
      have hr' : ∀ r, row = some r → ∃ o : Obj, X.heap[r]? = some o ∧ o.isCells = false := fun r e => (hr r e).2
      exact ⟨⟨v, boxed_turn hv hg hr', (hrow.turn hg hr').wide (Nat.le_refl _) hg.size⟩, boxed_turn hE hg hr', hB.grown hg hB.size (fun k e => by have := (hr k e).1; omega), Nat.le_trans h3 hg.size, boxed_turn hN hg hr'⟩
    case assign =>
      intro l x W K hK
      dsimp only [encR]
      gi_wp2
      exact hK
    case body =>
      rintro l pre x W ⟨⟨v, hv, hrow⟩, hE, hB, hsz3, hN⟩ hlt
      obtain ⟨x0, xn, xy, hx⟩ := x.2.1
      obtain ⟨xb, hxb⟩ : ∃ xb, x.1.2.2 = xb := ⟨_, rfl⟩
      obtain ⟨xr, hxr⟩ : ∃ xr, x.1.2.1 = xr := ⟨_, rfl⟩
      have hxB := x.2.2.1
      have hxl := x.2.2.2.1
      simp only [hx, hxb]
      rw [hx, hxr] at hxB
      rw [hxr] at hxl
      have HXB : Hid (x.1.2.2 = xb ∧ x.1.2.1 = xr) := ⟨hxb, hxr⟩
      clear hx hxb hxr
      have hlen : (pre.map recOf).length ≤ 1000000 := by simp; omega
      have hn : w1.heap.size ≤ w1.heap.size ∧ w1.heap.size < w1.heap.size + 3 := by omega
      have HI : Hid (Boxed W (w1.heap.size + 1) 3 (.int .i64 (lastOf pre)) ∧ Below w1.heap.size w1 W ∧ Boxed W (w1.heap.size + 1 + 1) 59 (.pointer (some ⟨w.heap.size, 0, none⟩))) := ⟨hE, hB, hN⟩
      have HBs : Hid (Bs W.drew (.slice x0 xn xy) xr) := hxB _ hB.drew
      have HV : Hid (Boxed W.drew w1.heap.size 28 v) := hv
      have HR : Hid (∃ us : List Value, us.length = (pre.map recOf).length ∧ RowF W (w1.heap.size + 3) W.heap.size v us (fun i => (pre.map recOf).getD i [])) := hrow
      have hc := hv.cell
      have hf := hv.frozen
      clear hxB hv hrow hE hB hN
      generalize hacc : pre.map recOf = acc at *
      have HA : Hid (pre.map recOf = acc) := hacc
      clear hacc
      obtain ⟨B0, hB0'⟩ : ∃ B0, B0 = w1.heap.size + 3 := ⟨_, rfl⟩
      rw [← hB0'] at HR hn hsz3
      have hmx : Tryd.prog.follows .mixedOrders = true := by kernel_rfl
      gi_wp2
      refine wpIn_via (fun a' w4 => ∃ v' t16 t17, a' = { tmps := #[.agg #[.slice a0 n0 c0, .slice a1 n1 c1], .pointer (some ⟨w.heap.size, 0, none⟩), .slice none 0 0, .int .i64 0, .pointer (some ⟨w1.heap.size, 0, none⟩), .pointer (some ⟨w1.heap.size + 1, 0, none⟩), .slice x0 xn xy, .int .i64 xb, .agg #[.slice a0 n0 c0, .slice a1 n1 c1], .bool true, .bool false, .func (.func 31) #[] #[.pointer (some ⟨w1.heap.size + 1 + 1, 0, none⟩)], .slice x0 xn xy, .int .i64 xb, v, .slice x0 xn xy, t16, t17, v', undef, undef, undef], defers := [] } ∧ Left W w4 w1.heap.size w1.heap.size B0 v' (acc ++ [xr])) ?tree ?rest
      case tree =>
        intro Q' hQ
        have hsz := hsz3
        refine wpIn_region_any hmx ?_
        change wpAnyIn _ _ _ _ _ _ _ _ _ (World.drew _)
        -- the step's four orders
        refine wpAnyIn_ready (rs := [0, 1]) (by kernel_rfl) (by simp) ?_
        refine AllReadyIn.cons rfl (fun K hK => ?_) ?_
        · go_simp
          refine hK _ _ ?_
          clear hK K
          refine wpAnyIn_ready (rs := [1]) (by kernel_rfl) (by simp) ?_
          refine AllReadyIn.cons rfl (fun K hK => ?_) ?_
          · go_simp
            refine hK _ _ ?_
            clear hK K
            refine wpAnyIn_ready (rs := [2]) (by kernel_rfl) (by simp) ?_
            refine AllReadyIn.cons rfl (fun K hK => ?_) ?_
            · go_simp
              gi_wp2_with (refine ⟨trivial, ?_⟩; gi_at_call 22; refine (CallsIn.inRound l (callsIn_wide.2 (joined_r _ _ xr [] _ HBs.out (bs_nil _) (by omega) (by simp)))).mono ?_; rintro e w2 ⟨r, rfl, hRw, B2⟩; rw [List.append_nil] at hRw; obtain ⟨r0, r1, r2, rfl⟩ := hRw.bs.form3; have c2 := Boxed.cell (box_below B2 HV.out); have z2 := Boxed.frozen (box_below B2 HV.out); have s2 : w1.heap.size < w2.heap.size := lt_of_heap (box_below B2 HV.out))
              refine wpAnyIn_ready (rs := [3]) (by kernel_rfl) (by simp) ?_
              refine AllReadyIn.cons rfl (fun K hK => ?_) ?_
              · go_simp
                refine hK _ _ ?_
                clear hK K
                refine wpAnyIn_ready (rs := [4]) (by kernel_rfl) (by simp) ?_
                refine AllReadyIn.cons rfl (fun K hK => ?_) ?_
                · obtain ⟨us, hus, hF⟩ := HR.out
                  have HUS : Hid (us.length = acc.length) := hus
                  have hul : us.length ≤ 1000000 := by omega
                  clear hus
                  obtain ⟨q1, q2, q3, q4, q5⟩ := collect_before hF B2 hRw hsz
                  refine stepIn_append_own _ rfl (.tmp 14) (.tmp 17) 28 rfl B0 22 i1 (.slice none 0 0) 1 24 Tryd.underlying28 hj hy0 hy1 hy2 rfl (by omega) v us.length us rfl q1 ⟨w2.heap.size, 0, none⟩ 1 1 [.slice r0 r1 r2] rfl rfl q3 q4 (by unfold maxLen; omega) (by omega) q5 ?_
                  intro v' w3 hr3 hg3 _
                  obtain ⟨g', cap', rfl⟩ := ownsRow_succ hr3
                  have P := collect_behind HUS.out hF B2 hRw HV.out hsz hn hr3 hg3
                  have c3 := P.1.cell
                  have z3 := P.1.frozen
                  clear c2 z2 hc hf
                  refine hK _ _ ?_
                  clear hK K
                  simp only [Act.put, List.setIfInBounds_toArray]
                  refine wpAnyIn_ready (rs := [5]) (by kernel_rfl) (by simp) ?_
                  refine AllReadyIn.cons rfl (fun K hK => ?_) ?_
                  · go_simp
                    refine hK _ _ ?_
                    clear hK K
                    refine wpAnyIn_done (by kernel_rfl) ?_ _
                    exact hQ _ _ ⟨_, _, _, rfl, P.2⟩
                  exact AllReadyIn.nil
                exact AllReadyIn.nil
              exact AllReadyIn.nil
            exact AllReadyIn.nil
          exact AllReadyIn.nil
        refine AllReadyIn.cons rfl (fun K hK => ?_) ?_
        · go_simp
          refine hK _ _ ?_
          clear hK K
          refine wpAnyIn_ready (rs := [0, 2]) (by kernel_rfl) (by simp) ?_
          refine AllReadyIn.cons rfl (fun K hK => ?_) ?_
          · go_simp
            refine hK _ _ ?_
            clear hK K
            refine wpAnyIn_ready (rs := [2]) (by kernel_rfl) (by simp) ?_
            refine AllReadyIn.cons rfl (fun K hK => ?_) ?_
            · go_simp
              gi_wp2_with (refine ⟨trivial, ?_⟩; gi_at_call 22; refine (CallsIn.inRound l (callsIn_wide.2 (joined_r _ _ xr [] _ HBs.out (bs_nil _) (by omega) (by simp)))).mono ?_; rintro e w2 ⟨r, rfl, hRw, B2⟩; rw [List.append_nil] at hRw; obtain ⟨r0, r1, r2, rfl⟩ := hRw.bs.form3; have c2 := Boxed.cell (box_below B2 HV.out); have z2 := Boxed.frozen (box_below B2 HV.out); have s2 : w1.heap.size < w2.heap.size := lt_of_heap (box_below B2 HV.out))
              refine wpAnyIn_ready (rs := [3]) (by kernel_rfl) (by simp) ?_
              refine AllReadyIn.cons rfl (fun K hK => ?_) ?_
              · go_simp
                refine hK _ _ ?_
                clear hK K
                refine wpAnyIn_ready (rs := [4]) (by kernel_rfl) (by simp) ?_
                refine AllReadyIn.cons rfl (fun K hK => ?_) ?_
                · obtain ⟨us, hus, hF⟩ := HR.out
                  have HUS : Hid (us.length = acc.length) := hus
                  have hul : us.length ≤ 1000000 := by omega
                  clear hus
                  obtain ⟨q1, q2, q3, q4, q5⟩ := collect_before hF B2 hRw hsz
                  refine stepIn_append_own _ rfl (.tmp 14) (.tmp 17) 28 rfl B0 22 i1 (.slice none 0 0) 1 24 Tryd.underlying28 hj hy0 hy1 hy2 rfl (by omega) v us.length us rfl q1 ⟨w2.heap.size, 0, none⟩ 1 1 [.slice r0 r1 r2] rfl rfl q3 q4 (by unfold maxLen; omega) (by omega) q5 ?_
                  intro v' w3 hr3 hg3 _
                  obtain ⟨g', cap', rfl⟩ := ownsRow_succ hr3
                  have P := collect_behind HUS.out hF B2 hRw HV.out hsz hn hr3 hg3
                  have c3 := P.1.cell
                  have z3 := P.1.frozen
                  clear c2 z2 hc hf
                  refine hK _ _ ?_
                  clear hK K
                  simp only [Act.put, List.setIfInBounds_toArray]
                  refine wpAnyIn_ready (rs := [5]) (by kernel_rfl) (by simp) ?_
                  refine AllReadyIn.cons rfl (fun K hK => ?_) ?_
                  · go_simp
                    refine hK _ _ ?_
                    clear hK K
                    refine wpAnyIn_done (by kernel_rfl) ?_ _
                    exact hQ _ _ ⟨_, _, _, rfl, P.2⟩
                  exact AllReadyIn.nil
                exact AllReadyIn.nil
              exact AllReadyIn.nil
            exact AllReadyIn.nil
          refine AllReadyIn.cons rfl (fun K hK => ?_) ?_
          · go_simp
            gi_wp2_with (refine ⟨trivial, ?_⟩; gi_at_call 22; refine (CallsIn.inRound l (callsIn_wide.2 (joined_r _ _ xr [] _ HBs.out (bs_nil _) (by omega) (by simp)))).mono ?_; rintro e w2 ⟨r, rfl, hRw, B2⟩; rw [List.append_nil] at hRw; obtain ⟨r0, r1, r2, rfl⟩ := hRw.bs.form3; have c2 := Boxed.cell (box_below B2 HV.out); have z2 := Boxed.frozen (box_below B2 HV.out); have s2 : w1.heap.size < w2.heap.size := lt_of_heap (box_below B2 HV.out))
            refine wpAnyIn_ready (rs := [0, 3]) (by kernel_rfl) (by simp) ?_
            refine AllReadyIn.cons rfl (fun K hK => ?_) ?_
            · go_simp
              refine hK _ _ ?_
              clear hK K
              refine wpAnyIn_ready (rs := [3]) (by kernel_rfl) (by simp) ?_
              refine AllReadyIn.cons rfl (fun K hK => ?_) ?_
              · go_simp
                refine hK _ _ ?_
                clear hK K
                refine wpAnyIn_ready (rs := [4]) (by kernel_rfl) (by simp) ?_
                refine AllReadyIn.cons rfl (fun K hK => ?_) ?_
                · obtain ⟨us, hus, hF⟩ := HR.out
                  have HUS : Hid (us.length = acc.length) := hus
                  have hul : us.length ≤ 1000000 := by omega
                  clear hus
                  obtain ⟨q1, q2, q3, q4, q5⟩ := collect_before hF B2 hRw hsz
                  refine stepIn_append_own _ rfl (.tmp 14) (.tmp 17) 28 rfl B0 22 i1 (.slice none 0 0) 1 24 Tryd.underlying28 hj hy0 hy1 hy2 rfl (by omega) v us.length us rfl q1 ⟨w2.heap.size, 0, none⟩ 1 1 [.slice r0 r1 r2] rfl rfl q3 q4 (by unfold maxLen; omega) (by omega) q5 ?_
                  intro v' w3 hr3 hg3 _
                  obtain ⟨g', cap', rfl⟩ := ownsRow_succ hr3
                  have P := collect_behind HUS.out hF B2 hRw HV.out hsz hn hr3 hg3
                  have c3 := P.1.cell
                  have z3 := P.1.frozen
                  clear c2 z2 hc hf
                  refine hK _ _ ?_
                  clear hK K
                  simp only [Act.put, List.setIfInBounds_toArray]
                  refine wpAnyIn_ready (rs := [5]) (by kernel_rfl) (by simp) ?_
                  refine AllReadyIn.cons rfl (fun K hK => ?_) ?_
                  · go_simp
                    refine hK _ _ ?_
                    clear hK K
                    refine wpAnyIn_done (by kernel_rfl) ?_ _
                    exact hQ _ _ ⟨_, _, _, rfl, P.2⟩
                  exact AllReadyIn.nil
                exact AllReadyIn.nil
              exact AllReadyIn.nil
            refine AllReadyIn.cons rfl (fun K hK => ?_) ?_
            · go_simp
              refine hK _ _ ?_
              clear hK K
              refine wpAnyIn_ready (rs := [0]) (by kernel_rfl) (by simp) ?_
              refine AllReadyIn.cons rfl (fun K hK => ?_) ?_
              · go_simp
                refine hK _ _ ?_
                clear hK K
                refine wpAnyIn_ready (rs := [4]) (by kernel_rfl) (by simp) ?_
                refine AllReadyIn.cons rfl (fun K hK => ?_) ?_
                · obtain ⟨us, hus, hF⟩ := HR.out
                  have HUS : Hid (us.length = acc.length) := hus
                  have hul : us.length ≤ 1000000 := by omega
                  clear hus
                  obtain ⟨q1, q2, q3, q4, q5⟩ := collect_before hF B2 hRw hsz
                  refine stepIn_append_own _ rfl (.tmp 14) (.tmp 17) 28 rfl B0 22 i1 (.slice none 0 0) 1 24 Tryd.underlying28 hj hy0 hy1 hy2 rfl (by omega) v us.length us rfl q1 ⟨w2.heap.size, 0, none⟩ 1 1 [.slice r0 r1 r2] rfl rfl q3 q4 (by unfold maxLen; omega) (by omega) q5 ?_
                  intro v' w3 hr3 hg3 _
                  obtain ⟨g', cap', rfl⟩ := ownsRow_succ hr3
                  have P := collect_behind HUS.out hF B2 hRw HV.out hsz hn hr3 hg3
                  have c3 := P.1.cell
                  have z3 := P.1.frozen
                  clear c2 z2 hc hf
                  refine hK _ _ ?_
                  clear hK K
                  simp only [Act.put, List.setIfInBounds_toArray]
                  refine wpAnyIn_ready (rs := [5]) (by kernel_rfl) (by simp) ?_
                  refine AllReadyIn.cons rfl (fun K hK => ?_) ?_
                  · go_simp
                    refine hK _ _ ?_
                    clear hK K
                    refine wpAnyIn_done (by kernel_rfl) ?_ _
                    exact hQ _ _ ⟨_, _, _, rfl, P.2⟩
                  exact AllReadyIn.nil
                exact AllReadyIn.nil
              exact AllReadyIn.nil
            exact AllReadyIn.nil
          exact AllReadyIn.nil
        exact AllReadyIn.nil
        -- behind the step
      case rest =>
        rintro a' w4 ⟨v', t16, t17, rfl, hL⟩
        have hE4 := hL.2.2.1 _ _ _ HI.out.1 (by decide) (by omega)
        have cE := hE4.cell
        have zE := hE4.frozen
        have HL : Hid (Left W w4 w1.heap.size w1.heap.size B0 v' (acc ++ [xr]) ∧ Boxed w4 (w1.heap.size + 1) 3 (.int .i64 (lastOf pre)) ∧ Boxed w4 (w1.heap.size + 1 + 1) 59 (.pointer (some ⟨w.heap.size, 0, none⟩))) := ⟨hL, hE4, hL.2.2.1 _ _ _ HI.out.2.2 (by decide) (by omega)⟩
        clear hL hE4
        gi_wp2
        obtain ⟨⟨b1, b2, b3, b4, b5⟩, hE4, hN4⟩ := HL.out
        have em : (pre ++ [x]).map recOf = acc ++ [xr] := by rw [List.map_append, HA.out]; simp [recOf, HXB.out.2]
        have el : lastOf (pre ++ [x]) = xb := by rw [lastOf_snoc]; exact HXB.out.1
        have hN5 := box_other (k := w1.heap.size + 1) (i := 0) (v := .int .i64 xb) hN4 (by omega)
        have b5' := b5.setCell (p := ⟨w1.heap.size + 1, 0, none⟩) (by simp only; omega) (.int .i64 xb)
        have s5 := b5'.size
        refine ⟨(b4.trans (KeepsOthers.setCell _ _ _)).from _, ⟨b5', hN5.trans HI.out.2.2.symm⟩, ⟨v', box_other b1 (by omega), ?_⟩, ?_, HI.out.2.1.trans b5', by omega, hN5⟩
        · rw [em, ← hB0']
          exact (b2.keptW (B' := w1.heap.size + 1) (T' := w1.heap.size + 1 + 1) (within_set1 (Within.refl _ _ _)) (by omega)).wide (Nat.le_refl _) (by simp [World.setCell])
        · rw [el]; exact hE4.set _
    case done =>
      rintro D ys W hD ⟨hys1, hys2⟩ ⟨⟨v, hv, hrow⟩, hE, hB, h3, hN⟩ hK
      have hc := hv.cell
      have hc' := hE.cell
      have hmx : Tryd.prog.follows .mixedOrders = true := by kernel_rfl
      have HF : Hid (RowS ((W.drew).putObj D (.deferred none)) w.heap.size ((W.drew).putObj D (.deferred none)).heap.size v (scanA a b).1 ∧ Below w.heap.size w ((W.drew).putObj D (.deferred none)) ∧ lastOf ys = ((scanA a b).2 : Int)) := by
        have h5 : Below w.heap.size W (W.putObj D (.deferred none)) := belowK_b (w := w1) (by omega) W D _ _ (by simp at hD; omega) hK rfl rfl
        rw [HP.out, ← hys1]
        refine ⟨?_, ?_, hys2⟩
        · have hKd : W.drew.heap[D]? = some (.deferred (some [])) := hK
          have h7 := (hrow.below ((Below.refl _ _).drew)).turn (grownBy_putObj' W.drew D (.deferred none)) (fun r e => by cases e; exact ⟨_, hKd, rfl⟩)
          have h8 : RowS (W.drew.putObj D (.deferred none)) w.heap.size (W.drew.putObj D (.deferred none)).heap.size v (ys.map recOf) := h7.wide (by omega) h5.size
          exact h8
        · have h6 := (Below.step HX.out hB).trans h5
          exact ⟨h6.os, h6.tape, h6.output, h6.size, h6.block⟩
      have HKD : Hid (W.drew.heap[D]? = some (.deferred (some []))) := hK
      clear hys1 hys2 hv hrow hE hB h3 hN hK
      gi_wp2
      refine wpIn_via (fun a' w' => a' = { tmps := #[.agg #[.slice a0 n0 c0, .slice a1 n1 c1], .pointer (some ⟨w.heap.size, 0, none⟩), v, .int .i64 (lastOf ys), .pointer (some ⟨w1.heap.size, 0, none⟩), .pointer (some ⟨w1.heap.size + 1, 0, none⟩), undef, undef, .agg #[.slice a0 n0 c0, .slice a1 n1 c1], .bool true, .bool false, .func (.func 31) #[] #[.pointer (some ⟨w1.heap.size + 1 + 1, 0, none⟩)], undef, undef, undef, undef, undef, undef, undef, undef, v, .int .i64 (lastOf ys)], defers := [{ target := .collected D, args := #[] }] } ∧ w' = W.drew) ?tree ?rest
      case tree =>
        intro Q' hQ
        refine wpIn_region_any hmx ?_
        change wpAnyIn _ _ _ _ _ _ _ _ _ (World.drew _)
        -- the answer's orders
        refine wpAnyIn_ready (rs := [0, 1]) (by kernel_rfl) (by simp) ?_
        refine AllReadyIn.cons rfl (fun K hK => ?_) ?_
        · go_simp
          refine hK _ _ ?_
          clear hK K
          refine wpAnyIn_ready (rs := [1, 2]) (by kernel_rfl) (by simp) ?_
          refine AllReadyIn.cons rfl (fun K hK => ?_) ?_
          · go_simp
            refine hK _ _ ?_
            clear hK K
            refine wpAnyIn_ready (rs := [2]) (by kernel_rfl) (by simp) ?_
            refine AllReadyIn.cons rfl (fun K hK => ?_) ?_
            · go_simp
              refine hK _ _ ?_
              clear hK K
              refine wpAnyIn_ready (rs := [3]) (by kernel_rfl) (by simp) ?_
              refine AllReadyIn.cons rfl (fun K hK => ?_) ?_
              · go_simp
                refine hK _ _ ?_
                clear hK K
                refine wpAnyIn_done (by kernel_rfl) ?_ _
                exact hQ _ _ ⟨rfl, rfl⟩
              exact AllReadyIn.nil
            exact AllReadyIn.nil
          refine AllReadyIn.cons rfl (fun K hK => ?_) ?_
          · go_simp
            refine hK _ _ ?_
            clear hK K
            refine wpAnyIn_ready (rs := [1]) (by kernel_rfl) (by simp) ?_
            refine AllReadyIn.cons rfl (fun K hK => ?_) ?_
            · go_simp
              refine hK _ _ ?_
              clear hK K
              refine wpAnyIn_ready (rs := [3]) (by kernel_rfl) (by simp) ?_
              refine AllReadyIn.cons rfl (fun K hK => ?_) ?_
              · go_simp
                refine hK _ _ ?_
                clear hK K
                refine wpAnyIn_done (by kernel_rfl) ?_ _
                exact hQ _ _ ⟨rfl, rfl⟩
              exact AllReadyIn.nil
            exact AllReadyIn.nil
          exact AllReadyIn.nil
        refine AllReadyIn.cons rfl (fun K hK => ?_) ?_
        · go_simp
          refine hK _ _ ?_
          clear hK K
          refine wpAnyIn_ready (rs := [0]) (by kernel_rfl) (by simp) ?_
          refine AllReadyIn.cons rfl (fun K hK => ?_) ?_
          · go_simp
            refine hK _ _ ?_
            clear hK K
            refine wpAnyIn_ready (rs := [2]) (by kernel_rfl) (by simp) ?_
            refine AllReadyIn.cons rfl (fun K hK => ?_) ?_
            · go_simp
              refine hK _ _ ?_
              clear hK K
              refine wpAnyIn_ready (rs := [3]) (by kernel_rfl) (by simp) ?_
              refine AllReadyIn.cons rfl (fun K hK => ?_) ?_
              · go_simp
                refine hK _ _ ?_
                clear hK K
                refine wpAnyIn_done (by kernel_rfl) ?_ _
                exact hQ _ _ ⟨rfl, rfl⟩
              exact AllReadyIn.nil
            exact AllReadyIn.nil
          exact AllReadyIn.nil
        exact AllReadyIn.nil
        -- behind the answer
      case rest =>
        rintro a' w' ⟨rfl, rfl⟩
        gi_wp2
        refine ⟨by simp, .inl ⟨_, _, rfl, run_takeDeferred HKD.out, ?_⟩⟩
        refine ⟨_, results_tmp2 rfl _ _ _, _, ?_, HF.out.1, HF.out.2.1⟩
        rw [← HF.out.2.2]
        rfl
    case stop =>
      rintro D c pre W _ _ h _
      exact h.elim
  · have HP : Hid (scanA a b = ([], 0)) := by simp [Hid, scanA, hok]
    have hd : decide (a.length + b.length ≤ 1000000) = false := by simp [hok]
    gi_wp2
    refine ⟨_, results_tmp2 rfl _ _ _, ?_⟩
    rw [HP.out]
    exact ⟨_, rfl, RowS.nil _ _ _, HX.out⟩

end Go.Proofs.YtiafkmjndcfjlaaDoor
