/- The proof's texts, part 6. -/
import Derived.Test.YtlegmiaoablcgaaGreatDoorPart5
import Derived.Test.YtlegmiaoablcgaaGreatDoorPart2

/- What the functions readCopy, readStore of package impl do. -/
namespace Go.Proofs.YtlegmiaoablcgaaGreatDoor
open Go.RowKit
set_option maxRecDepth 100000
set_option linter.unusedVariables false
set_option linter.unusedSimpArgs false

set_option maxRecDepth 100000 in
set_option maxHeartbeats 4000000 in
theorem readCopy_r (g gc N : Nat) (la : Option Addr) (ln lc : Nat) (tv : Value) (ts : List TokD) (S : Nat → Prop) (ea : Addr) (w0 w : World) (hE : Env w0 g S ea) (P : Pl w0 w g gc N S) (hr : Rs w0 w g S (.slice la ln lc) tv ts) (hc : C0 w gc 6) (hok : ∀ t ∈ ts, OkT t) (hln : ln ≤ 2000) :
    Calls Tryz.prog 40 #[.pointer (some ⟨g, 0, none⟩), .pointer (some ⟨gc, 0, none⟩)] w (ReadP w0 w g gc N S (.slice la ln lc) ea (readI ln 6 ts)) := by
  have HP : Hid (Pl w0 w g gc N S) := P
  have HEN : Hid (Env w0 g S ea) := hE
  have HC : Hid (C0 w gc 6) := hc
  have hcl : gc < w.heap.size := lt_of_heap hc
  have hS0 : ∀ b, S b → b < w.heap.size := fun b hb => Nat.lt_of_lt_of_le (P.sN b hb) P.nw
  have hn := name_r g la ln lc tv ts S ea w0 w hE hr hok hS0 hln
  obtain ⟨res, hres⟩ : ∃ res, res = readI ln 6 ts := ⟨_, rfl⟩
  have HRES : Hid (res = readI ln 6 ts) := hres
  rw [← hres]
  clear hres hr hc P hE
  cases h1 : nextM ln 2 ts with
  | error p =>
    rw [h1] at hn
    have HRE : Hid (res = .error p) := by show _ = _; rw [HRES.out]; simp [readI, h1, Except.bind]
    clear h1
    go_enter Tryz.func40, Tryz.ntmps40
    go_wp2_with fail
    refine hn.mono ?_
    rintro e w1 ⟨hG, rfl, hb⟩
    have HF : Hid (Gr2 w w1 g gc ∧ Bad w1 g 3 p) := ⟨(Gr2.refl _ _ _).gb hG, hb⟩
    clear hG hb
    go_wp2
    refine ⟨rfl, ?_⟩
    rw [HRE.out]
    exact ⟨rfl, HF.out.1, HF.out.2⟩
  | ok p =>
    obtain ⟨⟨bk, bp, bn, bx⟩, ts1⟩ := p
    rw [h1] at hn
    have hok1 : ∀ t ∈ ts1, OkT t := fun t ht => hok t ((next_mem h1).1 t ht)
    have HE1 : Hid (nextM ln 2 ts = .ok (⟨bk, bp, bn, bx⟩, ts1)) := h1
    clear h1
    go_enter Tryz.func40, Tryz.ntmps40
    go_wp2_with fail
    refine hn.mono ?_
    rintro e w1 ⟨hG, u, tv1, rfl, hR, hrow⟩
    simp only at hR hrow
    obtain ⟨ua, un, uc, hu⟩ := (Row.bs hrow).form3
    subst hu
    have H1 : Hid (RI w0 w (w1.setCell ⟨gc, 1, none⟩ (.slice ua un uc)) g gc N S (.slice la ln lc) tv1 ts1 ⟨6, bx, [], 0, 0, 0, 0, []⟩) := RI.first HP.out HC.out hG hR hrow
    have hcb := (hG.block gc hcl (fun e => HP.out.ne (by cases e; rfl))).trans HC.out
    obtain ⟨d0, d1, d2, d3, d4, d5, d6, d7, dl⟩ := box8l hcb
    obtain ⟨dz, -⟩ := box8z hcb
    clear hG hR hrow hcb
    go_upto_region 1 with fail
    generalize (w1.setCell ⟨gc, 1, none⟩ (.slice ua un uc)) = x1 at H1 ⊢
    clear d0 d1 d2 d3 d4 d5 d6 d7 dz dl
    cases h2 : takeM ln 3 1 ts1 with
    | error p =>
      have hc2 := number_r g la ln lc tv1 ts1 S ea 1 w0 x1 HEN.out H1.out.rs hok1 (fun b h => Nat.lt_of_lt_of_le (hS0 b h) H1.out.gr.size) hln
      rw [h2] at hc2
      have HRE : Hid (res = .error p) := by show _ = _; rw [HRES.out]; simp [h2, readI, restI, HE1.out, Except.bind]
      clear h2
      go_wp2_with fail
      refine hc2.mono ?_
      rintro e y ⟨hG, rfl, hb⟩
      have HF : Hid (Gr2 w y g gc ∧ Bad y g 3 p) := ⟨H1.out.gr.gb hG, hb⟩
      clear hG hb
      go_wp2
      refine ⟨rfl, ?_⟩
      rw [HRE.out]
      exact ⟨rfl, HF.out.1, HF.out.2⟩
    | ok p =>
      obtain ⟨⟨z2k, z2p, z2n, z2t⟩, ts2⟩ := p
      have hc2 := number_r g la ln lc tv1 ts1 S ea 1 w0 x1 HEN.out H1.out.rs hok1 (fun b h => Nat.lt_of_lt_of_le (hS0 b h) H1.out.gr.size) hln
      rw [h2] at hc2
      have hok2 : ∀ t ∈ ts2, OkT t := fun t ht => hok1 t ((take_mem h2).1 t ht)
      have HE2 : Hid (takeM ln 3 1 ts1 = .ok (⟨z2k, z2p, z2n, z2t⟩, ts2)) := h2
      clear h2
      go_wp2_with fail
      refine hc2.mono ?_
      rintro e y2 ⟨hG, tv2, rfl, hR⟩
      simp only at hR
      have HY : Hid (RI w0 w y2 g gc N S (.slice la ln lc) tv2 ts2 ⟨6, bx, [], 0, 0, 0, 0, []⟩) := H1.out.step HP.out hG hR
      clear hG hR
      have H2 : Hid (RI w0 w (y2.setCell ⟨gc, 3, none⟩ (.int .i64 z2n)) g gc N S (.slice la ln lc) tv2 ts2 ⟨6, bx, [], z2n, 0, 0, 0, []⟩) := HY.out.setI HP.out (.inl ⟨rfl, rfl⟩)
      obtain ⟨v1, v2, v7, d0, d1, d2, d3, d4, d5, d6, d7, dz, dl⟩ := HY.out.cells
      simp only at d0 d3 d4 d5 d6
      go_upto_region 2 with fail
      generalize (y2.setCell ⟨gc, 3, none⟩ (.int .i64 z2n)) = x2 at H2 ⊢
      clear d0 d1 d2 d3 d4 d5 d6 d7 dz dl
      cases h3 : nextM ln 2 ts2 with
      | error p =>
        have hc2 := name_r g la ln lc tv2 ts2 S ea w0 x2 HEN.out H2.out.rs hok2 (fun b h => Nat.lt_of_lt_of_le (hS0 b h) H2.out.gr.size) hln
        rw [h3] at hc2
        have HRE : Hid (res = .error p) := by show _ = _; rw [HRES.out]; simp [h3, readI, restI, HE1.out, HE2.out, Except.bind]
        clear h3
        go_wp2_with fail
        refine hc2.mono ?_
        rintro e y ⟨hG, rfl, hb⟩
        have HF : Hid (Gr2 w y g gc ∧ Bad y g 3 p) := ⟨H2.out.gr.gb hG, hb⟩
        clear hG hb
        go_wp2
        refine ⟨rfl, ?_⟩
        rw [HRE.out]
        exact ⟨rfl, HF.out.1, HF.out.2⟩
      | ok p =>
        obtain ⟨⟨z3k, z3p, z3n, z3t⟩, ts3⟩ := p
        have hc2 := name_r g la ln lc tv2 ts2 S ea w0 x2 HEN.out H2.out.rs hok2 (fun b h => Nat.lt_of_lt_of_le (hS0 b h) H2.out.gr.size) hln
        rw [h3] at hc2
        have hok3 : ∀ t ∈ ts3, OkT t := fun t ht => hok2 t ((next_mem h3).1 t ht)
        have HE3 : Hid (nextM ln 2 ts2 = .ok (⟨z3k, z3p, z3n, z3t⟩, ts3)) := h3
        clear h3
        go_wp2_with fail
        refine hc2.mono ?_
        rintro e y3 ⟨hG, u, tv3, rfl, hR, hrow⟩
        simp only at hR hrow
        obtain ⟨ta, tn, tc, hu⟩ := (Row.bs hrow).form3
        subst hu
        have HY : Hid (RI w0 w y3 g gc N S (.slice la ln lc) tv3 ts3 ⟨6, bx, [], z2n, 0, 0, 0, []⟩) := H2.out.step HP.out hG hR
        have H3 : Hid (RI w0 w (y3.setCell ⟨gc, 2, none⟩ (.slice ta tn tc)) g gc N S (.slice la ln lc) tv3 ts3 ⟨6, bx, z3t, z2n, 0, 0, 0, []⟩) := H2.out.to HP.out hG hR hrow
        clear hG hR hrow
        obtain ⟨v1, v2, v7, d0, d1, d2, d3, d4, d5, d6, d7, dz, dl⟩ := HY.out.cells
        simp only at d0 d3 d4 d5 d6
        go_upto_region 3 with fail
        generalize (y3.setCell ⟨gc, 2, none⟩ (.slice ta tn tc)) = x3 at H3 ⊢
        clear d0 d1 d2 d3 d4 d5 d6 d7 dz dl
        go_wp2_with fail
        refine (more_r g _ tv3 ts3 S w0 x3 0 0 H3.out.rs.lr H3.out.rs.toks).mono ?_
        rintro e x3 ⟨rfl, rfl⟩
        by_cases hts : ts3 = []
        · have HRE : Hid (res = .ok (⟨6, bx, z3t, z2n, 0, 0, 0, []⟩, ts3)) := by show _ = _; rw [HRES.out]; simp [hts, readI, restI, HE1.out, HE2.out, HE3.out, Except.bind]
          have hl0 : ts3.length = 0 := by rw [hts]; rfl
          have hd0 : decide (0 < ts3.length) = false := by simp [hl0]
          clear hts hl0
          rw [hd0]
          go_wp2
          all_goals (first | go_end0 | refine bodyPost_ret (v := .tuple #[]) (by simp [results, Tryz.results40, go_sem]) rfl ?_)
          all_goals (rw [HRE.out]; exact ⟨_, rfl, H3.out⟩)
        · have hl0 : 0 < ts3.length := List.length_pos_iff.2 hts
          have hd0 : decide (0 < ts3.length) = true := decide_eq_true hl0
          have HNE : Hid (ts3 ≠ []) := hts
          clear hts hl0
          rw [hd0]
          clear hd0
          have AB : Below x3.heap.size x3 (x3.alloc (.cells #[.string ⟨#[65, 87, 65, 89]⟩] 9)) := (Below.refl _ _).alloc (Nat.le_refl _) _
          have HA : Hid (RI w0 w (x3.alloc (.cells #[.string ⟨#[65, 87, 65, 89]⟩] 9)) g gc N S (.slice la ln lc) tv3 ts3 ⟨6, bx, z3t, z2n, 0, 0, 0, []⟩) := H3.out.below HP.out AB
          have hbk := box_new x3 (.cells #[.string ⟨#[65, 87, 65, 89]⟩] 9)
          have hbl : x3.heap.size < (x3.alloc (.cells #[.string ⟨#[65, 87, 65, 89]⟩] 9)).heap.size := lt_of_heap hbk
          have hbg : x3.heap.size ≠ g := by have := lt_of_heap H3.out.rs.lr; omega
          have hwc : ∀ j, j < ([awayW]).length → (x3.alloc (.cells #[.string ⟨#[65, 87, 65, 89]⟩] 9)).cell? ⟨x3.heap.size, j, none⟩ = some (.string (strOfNums (([awayW]).getD j []))) := by
            intro j hj
            rw [cell_of_row _ _ j _ _ (0, 0) hbk]
            obtain rfl : j = 0 := by simpa using hj
            rfl
          clear hbk AB
          cases h4 : wordM ln ([awayW]) ts3 with
          | error p =>
            have hc2 := oneOf_r g la ln lc tv3 ts3 S ea ([awayW]) x3.heap.size 1 w0 (x3.alloc (.cells #[.string ⟨#[65, 87, 65, 89]⟩] 9)) HEN.out HA.out.rs hok3 (fun b h => Nat.lt_of_lt_of_le (hS0 b h) HA.out.gr.size) hln hbg hbl (by decide) hwc
            rw [h4] at hc2
            have HRE : Hid (res = .error p) := by show _ = _; rw [HRES.out]; simp [h4, readI, restI, HE1.out, HE2.out, HE3.out, HNE.out, Except.bind]
            clear h4 hwc
            go_wp2_with fail
            refine hc2.mono ?_
            rintro e y ⟨hG, rfl, hb⟩
            have HF : Hid (Gr2 w y g gc ∧ Bad y g 3 p) := ⟨HA.out.gr.gb hG, hb⟩
            clear hG hb
            go_wp2
            refine ⟨rfl, ?_⟩
            rw [HRE.out]
            exact ⟨rfl, HF.out.1, HF.out.2⟩
          | ok p =>
            obtain ⟨z4m, ts4⟩ := p
            have hc2 := oneOf_r g la ln lc tv3 ts3 S ea ([awayW]) x3.heap.size 1 w0 (x3.alloc (.cells #[.string ⟨#[65, 87, 65, 89]⟩] 9)) HEN.out HA.out.rs hok3 (fun b h => Nat.lt_of_lt_of_le (hS0 b h) HA.out.gr.size) hln hbg hbl (by decide) hwc
            rw [h4] at hc2
            have hok4 : ∀ t ∈ ts4, OkT t := fun t ht => hok3 t ((word_mem h4).1 t ht)
            have HE4 : Hid (wordM ln ([awayW]) ts3 = .ok (z4m, ts4)) := h4
            clear h4 hwc
            go_wp2_with fail
            refine hc2.mono ?_
            rintro e y4 ⟨hG, tv4, rfl, hR⟩
            simp only at hR
            have HY : Hid (RI w0 w y4 g gc N S (.slice la ln lc) tv4 ts4 ⟨6, bx, z3t, z2n, 0, 0, 0, []⟩) := HA.out.step HP.out hG hR
            clear hG hR
            have H4 : Hid (RI w0 w (y4.setCell ⟨gc, 4, none⟩ (.int .i64 1)) g gc N S (.slice la ln lc) tv4 ts4 ⟨6, bx, z3t, z2n, 1, 0, 0, []⟩) := HY.out.setI HP.out (.inr (.inl ⟨rfl, rfl⟩))
            obtain ⟨v1, v2, v7, d0, d1, d2, d3, d4, d5, d6, d7, dz, dl⟩ := HY.out.cells
            simp only at d0 d3 d4 d5 d6
            have HRE : Hid (res = .ok (⟨6, bx, z3t, z2n, 1, 0, 0, []⟩, ts4)) := by show _ = _; rw [HRES.out]; simp [readI, restI, HE1.out, HE2.out, HE3.out, HNE.out, HE4.out, Except.bind]
            go_wp2
            first | go_end0 | refine bodyPost_ret (v := .tuple #[]) (by simp [results, Tryz.results40, go_sem]) rfl ?_
            rw [HRE.out]
            exact ⟨_, rfl, H4.out⟩

set_option maxRecDepth 100000 in
set_option maxHeartbeats 4000000 in
theorem readStore_r (g gc N : Nat) (la : Option Addr) (ln lc : Nat) (tv : Value) (ts : List TokD) (S : Nat → Prop) (ea : Addr) (w0 w : World) (hE : Env w0 g S ea) (P : Pl w0 w g gc N S) (hr : Rs w0 w g S (.slice la ln lc) tv ts) (hc : C0 w gc 3) (hok : ∀ t ∈ ts, OkT t) (hln : ln ≤ 2000) :
    Calls Tryz.prog 36 #[.pointer (some ⟨g, 0, none⟩), .pointer (some ⟨gc, 0, none⟩)] w (ReadP w0 w g gc N S (.slice la ln lc) ea (readI ln 3 ts)) := by
  have HP : Hid (Pl w0 w g gc N S) := P
  have HEN : Hid (Env w0 g S ea) := hE
  have HC : Hid (C0 w gc 3) := hc
  have hcl : gc < w.heap.size := lt_of_heap hc
  have hS0 : ∀ b, S b → b < w.heap.size := fun b hb => Nat.lt_of_lt_of_le (P.sN b hb) P.nw
  have hn := name_r g la ln lc tv ts S ea w0 w hE hr hok hS0 hln
  obtain ⟨res, hres⟩ : ∃ res, res = readI ln 3 ts := ⟨_, rfl⟩
  have HRES : Hid (res = readI ln 3 ts) := hres
  rw [← hres]
  clear hres hr hc P hE
  cases h1 : nextM ln 2 ts with
  | error p =>
    rw [h1] at hn
    have HRE : Hid (res = .error p) := by show _ = _; rw [HRES.out]; simp [readI, h1, Except.bind]
    clear h1
    go_enter Tryz.func36, Tryz.ntmps36
    go_wp2_with fail
    refine hn.mono ?_
    rintro e w1 ⟨hG, rfl, hb⟩
    have HF : Hid (Gr2 w w1 g gc ∧ Bad w1 g 3 p) := ⟨(Gr2.refl _ _ _).gb hG, hb⟩
    clear hG hb
    go_wp2
    refine ⟨rfl, ?_⟩
    rw [HRE.out]
    exact ⟨rfl, HF.out.1, HF.out.2⟩
  | ok p =>
    obtain ⟨⟨bk, bp, bn, bx⟩, ts1⟩ := p
    rw [h1] at hn
    have hok1 : ∀ t ∈ ts1, OkT t := fun t ht => hok t ((next_mem h1).1 t ht)
    have HE1 : Hid (nextM ln 2 ts = .ok (⟨bk, bp, bn, bx⟩, ts1)) := h1
    clear h1
    go_enter Tryz.func36, Tryz.ntmps36
    go_wp2_with fail
    refine hn.mono ?_
    rintro e w1 ⟨hG, u, tv1, rfl, hR, hrow⟩
    simp only at hR hrow
    obtain ⟨ua, un, uc, hu⟩ := (Row.bs hrow).form3
    subst hu
    have H1 : Hid (RI w0 w (w1.setCell ⟨gc, 1, none⟩ (.slice ua un uc)) g gc N S (.slice la ln lc) tv1 ts1 ⟨3, bx, [], 0, 0, 0, 0, []⟩) := RI.first HP.out HC.out hG hR hrow
    have hcb := (hG.block gc hcl (fun e => HP.out.ne (by cases e; rfl))).trans HC.out
    obtain ⟨d0, d1, d2, d3, d4, d5, d6, d7, dl⟩ := box8l hcb
    obtain ⟨dz, -⟩ := box8z hcb
    clear hG hR hrow hcb
    go_upto_region 1 with fail
    generalize (w1.setCell ⟨gc, 1, none⟩ (.slice ua un uc)) = x1 at H1 ⊢
    clear d0 d1 d2 d3 d4 d5 d6 d7 dz dl
    cases h2 : takeM ln 3 1 ts1 with
    | error p =>
      have hc2 := number_r g la ln lc tv1 ts1 S ea 1 w0 x1 HEN.out H1.out.rs hok1 (fun b h => Nat.lt_of_lt_of_le (hS0 b h) H1.out.gr.size) hln
      rw [h2] at hc2
      have HRE : Hid (res = .error p) := by show _ = _; rw [HRES.out]; simp [h2, readI, restI, HE1.out, Except.bind]
      clear h2
      go_wp2_with fail
      refine hc2.mono ?_
      rintro e y ⟨hG, rfl, hb⟩
      have HF : Hid (Gr2 w y g gc ∧ Bad y g 3 p) := ⟨H1.out.gr.gb hG, hb⟩
      clear hG hb
      go_wp2
      refine ⟨rfl, ?_⟩
      rw [HRE.out]
      exact ⟨rfl, HF.out.1, HF.out.2⟩
    | ok p =>
      obtain ⟨⟨z2k, z2p, z2n, z2t⟩, ts2⟩ := p
      have hc2 := number_r g la ln lc tv1 ts1 S ea 1 w0 x1 HEN.out H1.out.rs hok1 (fun b h => Nat.lt_of_lt_of_le (hS0 b h) H1.out.gr.size) hln
      rw [h2] at hc2
      have hok2 : ∀ t ∈ ts2, OkT t := fun t ht => hok1 t ((take_mem h2).1 t ht)
      have HE2 : Hid (takeM ln 3 1 ts1 = .ok (⟨z2k, z2p, z2n, z2t⟩, ts2)) := h2
      clear h2
      go_wp2_with fail
      refine hc2.mono ?_
      rintro e y2 ⟨hG, tv2, rfl, hR⟩
      simp only at hR
      have HY : Hid (RI w0 w y2 g gc N S (.slice la ln lc) tv2 ts2 ⟨3, bx, [], 0, 0, 0, 0, []⟩) := H1.out.step HP.out hG hR
      clear hG hR
      have H2 : Hid (RI w0 w (y2.setCell ⟨gc, 3, none⟩ (.int .i64 z2n)) g gc N S (.slice la ln lc) tv2 ts2 ⟨3, bx, [], z2n, 0, 0, 0, []⟩) := HY.out.setI HP.out (.inl ⟨rfl, rfl⟩)
      obtain ⟨v1, v2, v7, d0, d1, d2, d3, d4, d5, d6, d7, dz, dl⟩ := HY.out.cells
      simp only at d0 d3 d4 d5 d6
      go_upto_region 2 with fail
      generalize (y2.setCell ⟨gc, 3, none⟩ (.int .i64 z2n)) = x2 at H2 ⊢
      clear d0 d1 d2 d3 d4 d5 d6 d7 dz dl
      have AB : Below x2.heap.size x2 (x2.alloc (.cells #[.string ⟨#[73, 83]⟩, .string ⟨#[87, 73, 84, 72]⟩, .string ⟨#[87, 73, 84, 72, 79, 85, 84]⟩] 9)) := (Below.refl _ _).alloc (Nat.le_refl _) _
      have HA : Hid (RI w0 w (x2.alloc (.cells #[.string ⟨#[73, 83]⟩, .string ⟨#[87, 73, 84, 72]⟩, .string ⟨#[87, 73, 84, 72, 79, 85, 84]⟩] 9)) g gc N S (.slice la ln lc) tv2 ts2 ⟨3, bx, [], z2n, 0, 0, 0, []⟩) := H2.out.below HP.out AB
      have hbk := box_new x2 (.cells #[.string ⟨#[73, 83]⟩, .string ⟨#[87, 73, 84, 72]⟩, .string ⟨#[87, 73, 84, 72, 79, 85, 84]⟩] 9)
      have hbl : x2.heap.size < (x2.alloc (.cells #[.string ⟨#[73, 83]⟩, .string ⟨#[87, 73, 84, 72]⟩, .string ⟨#[87, 73, 84, 72, 79, 85, 84]⟩] 9)).heap.size := lt_of_heap hbk
      have hbg : x2.heap.size ≠ g := by have := lt_of_heap H2.out.rs.lr; omega
      have hwc : ∀ j, j < (storeW).length → (x2.alloc (.cells #[.string ⟨#[73, 83]⟩, .string ⟨#[87, 73, 84, 72]⟩, .string ⟨#[87, 73, 84, 72, 79, 85, 84]⟩] 9)).cell? ⟨x2.heap.size, j, none⟩ = some (.string (strOfNums ((storeW).getD j []))) := by
        intro j hj
        rw [cell_of_row _ _ j _ _ (0, 0) hbk]
        obtain rfl | rfl | rfl : j = 0 ∨ j = 1 ∨ j = 2 := by simp [storeW] at hj; omega
        all_goals rfl
      clear hbk AB
      cases h3 : wordM ln (storeW) ts2 with
      | error p =>
        have hc2 := oneOf_r g la ln lc tv2 ts2 S ea (storeW) x2.heap.size 3 w0 (x2.alloc (.cells #[.string ⟨#[73, 83]⟩, .string ⟨#[87, 73, 84, 72]⟩, .string ⟨#[87, 73, 84, 72, 79, 85, 84]⟩] 9)) HEN.out HA.out.rs hok2 (fun b h => Nat.lt_of_lt_of_le (hS0 b h) HA.out.gr.size) hln hbg hbl (by decide) hwc
        rw [h3] at hc2
        have HRE : Hid (res = .error p) := by show _ = _; rw [HRES.out]; simp [h3, readI, restI, HE1.out, HE2.out, Except.bind]
        clear h3 hwc
        go_wp2_with fail
        refine (storeWords_r _).mono ?_
        rintro e yy ⟨rfl, hyy⟩
        subst hyy
        go_wp2_with fail
        refine hc2.mono ?_
        rintro e y ⟨hG, rfl, hb⟩
        have HF : Hid (Gr2 w y g gc ∧ Bad y g 3 p) := ⟨HA.out.gr.gb hG, hb⟩
        clear hG hb
        go_wp2
        refine ⟨rfl, ?_⟩
        rw [HRE.out]
        exact ⟨rfl, HF.out.1, HF.out.2⟩
      | ok p =>
        obtain ⟨z3m, ts3⟩ := p
        have hc2 := oneOf_r g la ln lc tv2 ts2 S ea (storeW) x2.heap.size 3 w0 (x2.alloc (.cells #[.string ⟨#[73, 83]⟩, .string ⟨#[87, 73, 84, 72]⟩, .string ⟨#[87, 73, 84, 72, 79, 85, 84]⟩] 9)) HEN.out HA.out.rs hok2 (fun b h => Nat.lt_of_lt_of_le (hS0 b h) HA.out.gr.size) hln hbg hbl (by decide) hwc
        rw [h3] at hc2
        have hok3 : ∀ t ∈ ts3, OkT t := fun t ht => hok2 t ((word_mem h3).1 t ht)
        have HE3 : Hid (wordM ln (storeW) ts2 = .ok (z3m, ts3)) := h3
        clear h3 hwc
        go_wp2_with fail
        refine (storeWords_r _).mono ?_
        rintro e yy ⟨rfl, hyy⟩
        subst hyy
        go_wp2_with fail
        refine hc2.mono ?_
        rintro e y3 ⟨hG, tv3, rfl, hR⟩
        simp only at hR
        have HY : Hid (RI w0 w y3 g gc N S (.slice la ln lc) tv3 ts3 ⟨3, bx, [], z2n, 0, 0, 0, []⟩) := HA.out.step HP.out hG hR
        clear hG hR
        have H3 : Hid (RI w0 w (y3.setCell ⟨gc, 4, none⟩ (.int .i64 z3m)) g gc N S (.slice la ln lc) tv3 ts3 ⟨3, bx, [], z2n, z3m, 0, 0, []⟩) := HY.out.setI HP.out (.inr (.inl ⟨rfl, rfl⟩))
        obtain ⟨v1, v2, v7, d0, d1, d2, d3, d4, d5, d6, d7, dz, dl⟩ := HY.out.cells
        simp only at d0 d3 d4 d5 d6
        go_upto_region 3 with fail
        generalize (y3.setCell ⟨gc, 4, none⟩ (.int .i64 z3m)) = x3 at H3 ⊢
        clear d0 d1 d2 d3 d4 d5 d6 d7 dz dl
        cases h4 : nextM ln 4 ts3 with
        | error p =>
          have hc2 := next_r g la ln lc tv3 ts3 S ea 4 w0 x3 HEN.out H3.out.rs hok3 (by omega) (fun b h => Nat.lt_of_lt_of_le (hS0 b h) H3.out.gr.size) hln
          rw [h4] at hc2
          have HRE : Hid (res = .error p) := by show _ = _; rw [HRES.out]; simp [h4, readI, restI, HE1.out, HE2.out, HE3.out, Except.bind]
          clear h4
          go_wp2_with fail
          refine hc2.mono ?_
          rintro e y ⟨hG, rfl, hb⟩
          have HF : Hid (Gr2 w y g gc ∧ Bad y g 3 p) := ⟨H3.out.gr.gb hG, hb⟩
          clear hG hb
          go_wp2
          refine ⟨rfl, ?_⟩
          rw [HRE.out]
          exact ⟨rfl, HF.out.1, HF.out.2⟩
        | ok p =>
          obtain ⟨⟨z4k, z4p, z4n, z4t⟩, ts4⟩ := p
          have hc2 := next_r g la ln lc tv3 ts3 S ea 4 w0 x3 HEN.out H3.out.rs hok3 (by omega) (fun b h => Nat.lt_of_lt_of_le (hS0 b h) H3.out.gr.size) hln
          rw [h4] at hc2
          have hok4 : ∀ t ∈ ts4, OkT t := fun t ht => hok3 t ((next_mem h4).1 t ht)
          have HE4 : Hid (nextM ln 4 ts3 = .ok (⟨z4k, z4p, z4n, z4t⟩, ts4)) := h4
          clear h4
          go_wp2_with fail
          refine hc2.mono ?_
          rintro e y4 ⟨hG, xa, xn, xc, tv4, rfl, hR, hTX⟩
          simp only at hR hTX
          have HY : Hid (RI w0 w y4 g gc N S (.slice la ln lc) tv4 ts4 ⟨3, bx, [], z2n, z3m, 0, 0, []⟩) := H3.out.step HP.out hG hR
          clear hG hR
          have hfd := fun w' => run_field2 (sortM z4k) z4p z4n xa xn xc w'
          clear hTX
          have H4 : Hid (RI w0 w (y4.setCell ⟨gc, 5, none⟩ (.int .i64 z4n)) g gc N S (.slice la ln lc) tv4 ts4 ⟨3, bx, [], z2n, z3m, z4n, 0, []⟩) := HY.out.setI HP.out (.inr (.inr (.inl ⟨rfl, rfl⟩)))
          obtain ⟨v1, v2, v7, d0, d1, d2, d3, d4, d5, d6, d7, dz, dl⟩ := HY.out.cells
          simp only at d0 d3 d4 d5 d6
          go_upto_region 4 with fail
          generalize (y4.setCell ⟨gc, 5, none⟩ (.int .i64 z4n)) = x4 at H4 ⊢
          clear d0 d1 d2 d3 d4 d5 d6 d7 dz dl
          go_wp2_with fail
          refine (more_r g _ tv4 ts4 S w0 x4 0 0 H4.out.rs.lr H4.out.rs.toks).mono ?_
          rintro e x4 ⟨rfl, rfl⟩
          by_cases hts : ts4 = []
          · have HRE : Hid (res = .ok (⟨3, bx, [], z2n, z3m, z4n, 0, []⟩, ts4)) := by show _ = _; rw [HRES.out]; simp [hts, readI, restI, HE1.out, HE2.out, HE3.out, HE4.out, Except.bind]
            have hl0 : ts4.length = 0 := by rw [hts]; rfl
            have hd0 : decide (0 < ts4.length) = false := by simp [hl0]
            clear hts hl0
            rw [hd0]
            go_wp2
            all_goals (first | go_end0 | refine bodyPost_ret (v := .tuple #[]) (by simp [results, Tryz.results36, go_sem]) rfl ?_)
            all_goals (rw [HRE.out]; exact ⟨_, rfl, H4.out⟩)
          · have hl0 : 0 < ts4.length := List.length_pos_iff.2 hts
            have hd0 : decide (0 < ts4.length) = true := decide_eq_true hl0
            have HNE : Hid (ts4 ≠ []) := hts
            clear hts hl0
            rw [hd0]
            clear hd0
            have AB : Below x4.heap.size x4 (x4.alloc (.cells #[.string ⟨#[83, 73, 78, 67, 69]⟩] 9)) := (Below.refl _ _).alloc (Nat.le_refl _) _
            have HA : Hid (RI w0 w (x4.alloc (.cells #[.string ⟨#[83, 73, 78, 67, 69]⟩] 9)) g gc N S (.slice la ln lc) tv4 ts4 ⟨3, bx, [], z2n, z3m, z4n, 0, []⟩) := H4.out.below HP.out AB
            have hbk := box_new x4 (.cells #[.string ⟨#[83, 73, 78, 67, 69]⟩] 9)
            have hbl : x4.heap.size < (x4.alloc (.cells #[.string ⟨#[83, 73, 78, 67, 69]⟩] 9)).heap.size := lt_of_heap hbk
            have hbg : x4.heap.size ≠ g := by have := lt_of_heap H4.out.rs.lr; omega
            have hwc : ∀ j, j < ([sinceW]).length → (x4.alloc (.cells #[.string ⟨#[83, 73, 78, 67, 69]⟩] 9)).cell? ⟨x4.heap.size, j, none⟩ = some (.string (strOfNums (([sinceW]).getD j []))) := by
              intro j hj
              rw [cell_of_row _ _ j _ _ (0, 0) hbk]
              obtain rfl : j = 0 := by simpa using hj
              rfl
            clear hbk AB
            cases h5 : wordM ln ([sinceW]) ts4 with
            | error p =>
              have hc2 := oneOf_r g la ln lc tv4 ts4 S ea ([sinceW]) x4.heap.size 1 w0 (x4.alloc (.cells #[.string ⟨#[83, 73, 78, 67, 69]⟩] 9)) HEN.out HA.out.rs hok4 (fun b h => Nat.lt_of_lt_of_le (hS0 b h) HA.out.gr.size) hln hbg hbl (by decide) hwc
              rw [h5] at hc2
              have HRE : Hid (res = .error p) := by show _ = _; rw [HRES.out]; simp [h5, readI, restI, HE1.out, HE2.out, HE3.out, HE4.out, HNE.out, Except.bind]
              clear h5 hwc
              go_wp2_with fail
              refine hc2.mono ?_
              rintro e y ⟨hG, rfl, hb⟩
              have HF : Hid (Gr2 w y g gc ∧ Bad y g 3 p) := ⟨HA.out.gr.gb hG, hb⟩
              clear hG hb
              go_wp2
              refine ⟨rfl, ?_⟩
              rw [HRE.out]
              exact ⟨rfl, HF.out.1, HF.out.2⟩
            | ok p =>
              obtain ⟨z5m, ts5⟩ := p
              have hc2 := oneOf_r g la ln lc tv4 ts4 S ea ([sinceW]) x4.heap.size 1 w0 (x4.alloc (.cells #[.string ⟨#[83, 73, 78, 67, 69]⟩] 9)) HEN.out HA.out.rs hok4 (fun b h => Nat.lt_of_lt_of_le (hS0 b h) HA.out.gr.size) hln hbg hbl (by decide) hwc
              rw [h5] at hc2
              have hok5 : ∀ t ∈ ts5, OkT t := fun t ht => hok4 t ((word_mem h5).1 t ht)
              have HE5 : Hid (wordM ln ([sinceW]) ts4 = .ok (z5m, ts5)) := h5
              clear h5 hwc
              go_wp2_with fail
              refine hc2.mono ?_
              rintro e y5 ⟨hG, tv5, rfl, hR⟩
              simp only at hR
              have HY : Hid (RI w0 w y5 g gc N S (.slice la ln lc) tv5 ts5 ⟨3, bx, [], z2n, z3m, z4n, 0, []⟩) := HA.out.step HP.out hG hR
              clear hG hR
              have H5 : Hid (RI w0 w y5 g gc N S (.slice la ln lc) tv5 ts5 ⟨3, bx, [], z2n, z3m, z4n, 0, []⟩) := HY.out
              go_upto_region 6 with fail
              cases h6 : takeM ln 3 1 ts5 with
              | error p =>
                have hc2 := number_r g la ln lc tv5 ts5 S ea 1 w0 y5 HEN.out H5.out.rs hok5 (fun b h => Nat.lt_of_lt_of_le (hS0 b h) H5.out.gr.size) hln
                rw [h6] at hc2
                have HRE : Hid (res = .error p) := by show _ = _; rw [HRES.out]; simp [h6, readI, restI, HE1.out, HE2.out, HE3.out, HE4.out, HNE.out, HE5.out, Except.bind]
                clear h6
                go_wp2_with fail
                refine hc2.mono ?_
                rintro e y ⟨hG, rfl, hb⟩
                have HF : Hid (Gr2 w y g gc ∧ Bad y g 3 p) := ⟨H5.out.gr.gb hG, hb⟩
                clear hG hb
                go_wp2
                refine ⟨rfl, ?_⟩
                rw [HRE.out]
                exact ⟨rfl, HF.out.1, HF.out.2⟩
              | ok p =>
                obtain ⟨⟨z6k, z6p, z6n, z6t⟩, ts6⟩ := p
                have hc2 := number_r g la ln lc tv5 ts5 S ea 1 w0 y5 HEN.out H5.out.rs hok5 (fun b h => Nat.lt_of_lt_of_le (hS0 b h) H5.out.gr.size) hln
                rw [h6] at hc2
                have hok6 : ∀ t ∈ ts6, OkT t := fun t ht => hok5 t ((take_mem h6).1 t ht)
                have HE6 : Hid (takeM ln 3 1 ts5 = .ok (⟨z6k, z6p, z6n, z6t⟩, ts6)) := h6
                clear h6
                go_wp2_with fail
                refine hc2.mono ?_
                rintro e y6 ⟨hG, tv6, rfl, hR⟩
                simp only at hR
                have HY : Hid (RI w0 w y6 g gc N S (.slice la ln lc) tv6 ts6 ⟨3, bx, [], z2n, z3m, z4n, 0, []⟩) := H5.out.step HP.out hG hR
                clear hG hR
                have H6 : Hid (RI w0 w (y6.setCell ⟨gc, 6, none⟩ (.int .i64 z6n)) g gc N S (.slice la ln lc) tv6 ts6 ⟨3, bx, [], z2n, z3m, z4n, z6n, []⟩) := HY.out.setI HP.out (.inr (.inr (.inr ⟨rfl, rfl⟩)))
                obtain ⟨v1, v2, v7, d0, d1, d2, d3, d4, d5, d6, d7, dz, dl⟩ := HY.out.cells
                simp only at d0 d3 d4 d5 d6
                have HRE : Hid (res = .ok (⟨3, bx, [], z2n, z3m, z4n, z6n, []⟩, ts6)) := by show _ = _; rw [HRES.out]; simp [readI, restI, HE1.out, HE2.out, HE3.out, HE4.out, HNE.out, HE5.out, HE6.out, Except.bind]
                go_wp2
                first | go_end0 | refine bodyPost_ret (v := .tuple #[]) (by simp [results, Tryz.results36, go_sem]) rfl ?_
                rw [HRE.out]
                exact ⟨_, rfl, H6.out⟩

end Go.Proofs.YtlegmiaoablcgaaGreatDoor

/- Commands read as package impl reads them are the commands of the model. -/
namespace Go.Proofs.YtlegmiaoablcgaaGreatDoor
open Go.RowKit
set_option linter.unusedSimpArgs false

def idxL : List (List Int) → List Int → Int → Int
  | [], _, _ => -1
  | z :: zs, x, i => if z = x then i else idxL zs x (i + 1)
theorem str_inj {a b : List Int} (ha : Oct a) (hb : Oct b) : (strOfNums a = strOfNums b) = (a = b) := by
  apply propext
  constructor
  · intro h
    have := str_same ha hb
    rw [h] at this
    simpa using this.symm
  · rintro rfl; rfl
theorem idx_l {x : List Int} (hx : Oct x) : ∀ (ws : List (List Int)) (i : Nat), (∀ z ∈ ws, Oct z) → Lib.idxFromS (ws.map strOfNums) (strOfNums x) i = idxL ws x i
  | [], i, _ => rfl
  | z :: ws, i, h => by
    simp only [List.map_cons, Lib.idxFromS, idxL, str_inj (h z (by simp)) hx]
    rw [idx_l hx ws (i + 1) (fun y hy => h y (by simp [hy]))]
    split <;> simp
theorem idxW_l {ws : List (List Int)} {x : List Int} (hx : Oct x) (hw : ∀ z ∈ ws, Oct z) : idxW ws x = idxL ws x 0 := idx_l hx ws 0 hw
theorem find_idx (f : Nat → List Int) (x : List Int) : ∀ (n i : Nat), idxL ((List.range' i n).map f) x i = match (List.range' i n).find? (fun k => decide (f k = x)) with | some k => (k : Int) | none => -1
  | 0, i => rfl
  | n + 1, i => by
    simp only [List.range'_succ, List.map_cons, idxL, List.find?_cons]
    by_cases h : f i = x
    · simp [h]
    · have := find_idx f x n (i + 1)
      simp only [h, if_false, decide_false]
      exact_mod_cast this
def kindsW : List (List Int) := (List.range' 0 10).map fun k : Nat => kindW k
theorem oct_kind : ∀ z ∈ kindsW, Oct z := by
  have : kindsW.all (fun z => z.all fun x => decide (0 ≤ x) && decide (x ≤ 255)) = true := by decide
  intro z hz x hx
  have h := List.all_eq_true.1 (List.all_eq_true.1 this z hz) x hx
  simp only [Bool.and_eq_true, decide_eq_true_eq] at h
  exact h
theorem oct_words {ws : List (List Int)} (h : ws.all (fun z => z.all fun x => decide (0 ≤ x) && decide (x ≤ 255)) = true) : ∀ z ∈ ws, Oct z := by
  intro z hz x hx
  have h := List.all_eq_true.1 (List.all_eq_true.1 h z hz) x hx
  simp only [Bool.and_eq_true, decide_eq_true_eq] at h
  exact h
theorem next_take {e k : Int} (hk : k ≠ 3) (ts : List TokD) : nextM e k ts = takeM e k 0 ts := by
  rw [take_next]
  cases nextM e k ts with
  | error p => rfl
  | ok p => simp [hk]
theorem word_kind (e : Int) (ts : List TokD) (hok : ∀ t ∈ ts, OkT t) : wordM e kindsW ts = match kindM ts with | none => .error (failM e ts) | some k => .ok ((k : Int), ts.drop 1) := by
  unfold kindM
  cases ts with
  | nil => rfl
  | cons t r =>
    have ht := hok t (by simp)
    simp only [wordM, nextM, seesM, failM, List.drop_one, List.tail_cons]
    by_cases hk : t.k = 1
    · rw [if_pos hk]
      simp only
      rw [idxW_l ht.2.2.2.2.2.1 oct_kind]
      have h := find_idx (fun k : Nat => kindW k) t.tx 10 0
      have he : ((List.range 10).find? fun k : Nat => decide (t.k = 1 ∧ t.tx = kindW k)) = (List.range' 0 10).find? (fun k : Nat => decide (kindW k = t.tx)) := by
        rw [List.range_eq_range']
        congr 1
        funext k
        simp [hk, eq_comm]
      rw [he]
      show (if idxL kindsW t.tx 0 < 0 then _ else _) = _
      rw [show idxL kindsW t.tx 0 = _ from h]
      cases (List.range' 0 10).find? (fun k : Nat => decide (kindW k = t.tx)) with
      | none => rfl
      | some k => simp only; rw [if_neg (by omega)]
    · rw [if_neg hk]
      have he : ((List.range 10).find? fun k : Nat => decide (t.k = 1 ∧ t.tx = kindW k)) = none := by
        rw [List.find?_eq_none]
        intro k _
        simp [hk]
      rw [he]
theorem word_mode (e : Int) (ts : List TokD) (hok : ∀ t ∈ ts, OkT t) : wordM e storeW ts = match modeM ts with | none => .error (failM e ts) | some m => .ok (m, ts.drop 1) := by
  unfold modeM
  cases ts with
  | nil => rfl
  | cons t r =>
    have ht := hok t (by simp)
    simp only [wordM, nextM, seesM, failM, List.drop_one, List.tail_cons]
    by_cases hk : t.k = 1
    · rw [if_pos hk]
      simp only
      rw [idxW_l ht.2.2.2.2.2.1 (oct_words (by decide))]
      simp only [storeW, idxL, hk, true_and, decide_eq_true_eq]
      rw [show modeW 2 = [87, 73, 84, 72, 79, 85, 84] from rfl, show modeW 1 = [87, 73, 84, 72] from rfl, show modeW 0 = [73, 83] from rfl]
      by_cases h0 : t.tx = [73, 83]
      · simp [h0]
      · by_cases h1 : t.tx = [87, 73, 84, 72]
        · simp [h1]
        · by_cases h2 : t.tx = [87, 73, 84, 72, 79, 85, 84]
          · simp [h2]
          · simp [h0, h1, h2, Ne.symm h0, Ne.symm h1, Ne.symm h2, eq_comm]
    · rw [if_neg hk]
      simp [hk]
theorem word_one (e : Int) (x : List Int) (hx : Oct x) (t : TokD) (r : List TokD) (ht : OkT t) : wordM e [x] (t :: r) = if seesM x (t :: r) then .ok (0, r) else .error t.p := by
  simp only [wordM, nextM, seesM]
  by_cases hk : t.k = 1
  · rw [if_pos hk]
    simp only
    rw [idxW_l ht.2.2.2.2.2.1 (by intro z hz; simp at hz; subst hz; exact hx)]
    simp only [idxL, hk, true_and, decide_eq_true_eq]
    by_cases h : t.tx = x
    · simp [h]
    · simp [h, Ne.symm h]
  · rw [if_neg hk]
    simp [hk]
/-- Nothing may be left. -/
def endM (x : Except Int (CmdD × List TokD)) : Except Int CmdD := x.bind fun r => match r.2 with
  | [] => .ok r.1
  | t :: _ => .error t.p
theorem rest_same (e : Int) (c : CmdD) (ts : List TokD) (hok : ∀ t ∈ ts, OkT t) : endM (restI e c ts) = endM (restM e c ts) := by
  unfold restI restM
  split
  · rw [next_take (by decide)]
    cases h : takeM e 4 0 ts with
    | error p => rfl
    | ok a =>
      simp only [Except.bind, bind]
      rw [next_take (by decide)]
      all_goals rfl
  · split
    · cases h : takeM e 3 1 ts with
      | error p => rfl
      | ok a =>
        have hoa : ∀ t ∈ a.2, OkT t := fun t ht => hok t ((take_mem h).1 t ht)
        simp only [Except.bind, bind]
        rw [word_mode e a.2 hoa]
        cases hm : modeM a.2 with
        | none => rfl
        | some m =>
          simp only
          rw [next_take (by decide)]
          cases h2 : takeM e 4 0 (a.2.drop 1) with
          | error p => rfl
          | ok b =>
            have hob : ∀ t ∈ b.2, OkT t := fun t ht => hoa t (List.mem_of_mem_drop ((take_mem h2).1 t ht))
            simp only
            obtain ⟨bt, bl⟩ := b
            cases bl with
            | nil => simp [seesM, endM, Except.bind]
            | cons t r =>
              simp only
              rw [if_neg (by simp), word_one e sinceW (oct_words (ws := [sinceW]) (by decide) _ (by simp)) t r (hob t (by simp))]
              by_cases hs : seesM sinceW (t :: r) = true
              · simp only [hs, if_true, List.drop_one, List.tail_cons]
                all_goals rfl
              · simp only [hs, if_false, Bool.false_eq_true]
                all_goals rfl
    · split
      · rfl
      · split
        · cases h : takeM e 3 1 ts with
          | error p => rfl
          | ok a =>
            have hoa : ∀ t ∈ a.2, OkT t := fun t ht => hok t ((take_mem h).1 t ht)
            simp only [Except.bind, bind]
            rw [next_take (by decide)]
            cases h2 : takeM e 2 0 a.2 with
            | error p => rfl
            | ok b =>
              have hob : ∀ t ∈ b.2, OkT t := fun t ht => hoa t ((take_mem h2).1 t ht)
              simp only
              obtain ⟨bt, bl⟩ := b
              cases bl with
              | nil => simp [seesM, endM, Except.bind]
              | cons t r =>
                simp only
                rw [if_neg (by simp), word_one e awayW (oct_words (ws := [awayW]) (by decide) _ (by simp)) t r (hob t (by simp))]
                by_cases hs : seesM awayW (t :: r) = true
                · simp only [hs, if_true, List.drop_one, List.tail_cons]
                · simp only [hs, if_false, Bool.false_eq_true]
                  all_goals rfl
        · rfl
/-- A command, as package impl reads it. -/
def cmdI (e : Int) (ts : List TokD) : Except Int CmdD := (wordM e kindsW ts).bind fun m => endM (readI e m.1 m.2)
theorem cmd_same (e : Int) (ts : List TokD) (hok : ∀ t ∈ ts, OkT t) : cmdI e ts = cmdM e ts := by
  unfold cmdI cmdM
  rw [word_kind e ts hok]
  cases hk : kindM ts with
  | none => rfl
  | some k =>
    have hlt := kindM_lt hk
    have hod : ∀ t ∈ ts.drop 1, OkT t := fun t ht => hok t (List.mem_of_mem_drop ht)
    simp only [Except.bind, bind]
    by_cases h9 : k = 9
    · subst h9
      simp [readI, restM, endM, Except.bind]
      cases ts.tail <;> rfl
    · have h9' : ¬ ((k : Int) = 9) := by omega
      simp only [readI, if_neg h9', if_neg h9, Except.bind]
      rw [next_take (by decide)]
      cases h2 : takeM e 2 0 (ts.drop 1) with
      | error p => rfl
      | ok b =>
        simp only
        have := rest_same e ⟨k, b.1.tx, [], 0, 0, 0, 0, []⟩ b.2 (fun t ht => hod t ((take_mem h2).1 t ht))
        simp only [endM, Except.bind] at this
        exact this

end Go.Proofs.YtlegmiaoablcgaaGreatDoor

/- Rows of strings of the call's own: what is put behind one. -/
namespace Go.Proofs.YtlegmiaoablcgaaGreatDoor
open Go.RowKit

def strVals (ss : List (List Int)) : List Value := ss.map fun s => Value.string (strOfNums s)
theorem infoStr : (Tryz.prog.info? 9).map (fun i => (i.zero, i.size, i.bytes)) = some (some (.string ⟨#[]⟩), 1, 16) := by kernel_rfl
theorem rowS_lit (w : World) (B g : Nat) (ss : List (List Int)) (h : w.heap[g]? = some (.cells (strVals ss).toArray 9 (0, 0))) (hB : B ≤ g) (hl : ss.length ≤ 1000) :
    w.ownsRow B 9 1 (.slice (some ⟨g, 0, none⟩) ss.length ss.length) ss.length (strVals ss) := by
  refine ⟨by simp [strVals], .inr ⟨g, ss.length, _, rfl, hB, h, Nat.le_refl _, by unfold maxLen; omega, by simp [strVals], ?_⟩⟩
  simp only [Nat.mul_one]
  rw [List.take_of_length_le (by simp [strVals])]
theorem wpList_append_strs {w : World} {ops : Array Oper} {rest : List Oper} {o : Oper} {a : Act} {Q : Exit → Act → World → Prop} (hgd : o.guard = none) (s x : Operand) (t : TypeId)
    (ho : o.op = .call { callee := .builtin .append, args := #[s, x], argTypes := #[t, t] })
    (i : TypeInfo) (ht : Tryz.prog.underlying t = some (.slice 9)) (hi : Tryz.prog.info? 9 = some i) (hz : i.zero = some (.string ⟨#[]⟩)) (hsize : i.size = 1) (hby : i.bytes = 16)
    (B : Nat) (v : Value) (ss ms : List (List Int)) (n m : Nat) (hn : n = ss.length) (hm : m = ms.length) (hs : a.eval s = v) (hown : w.ownsRow B 9 1 v n (strVals ss)) (g : Nat) (hx : a.eval x = .slice (some ⟨g, 0, none⟩) m m)
    (hg : w.heap[g]? = some (.cells (strVals ms).toArray 9 (0, 0))) (hlen : n + m ≤ 1000) (hbase : B ≤ w.heap.size)
    (h : ∀ v' w', w'.ownsRow B 9 1 v' (ss ++ ms).length (strVals (ss ++ ms)) → w.grownBy w' v.ownBlock → wpList Tryz.prog ops Q rest (a.put o.dst v') w') : wpList Tryz.prog ops Q (o :: rest) a w := by
  subst hn hm
  refine wpList_append_own w hgd s x t ho B 9 i (.string ⟨#[]⟩) 1 16 ht hi hz hsize hby rfl (by omega) v ss.length (strVals ss) hs hown ⟨g, 0, none⟩ ms.length ms.length (strVals ms) hx (by simp [strVals]) ?_ ?_ (by unfold maxLen; omega) (by omega) hbase ?_
  · intro j u hu
    rw [Addr.add_lit, cell_of_row w g _ _ _ (0, 0) hg]
    simpa using hu
  · intro u hu
    obtain ⟨y, _, rfl⟩ := List.mem_map.1 hu
    rfl
  · intro v' w' h1 h2 _
    refine h v' w' ?_ h2
    have e : strVals (ss ++ ms) = strVals ss ++ strVals ms := by simp [strVals]
    rw [e, List.length_append]
    exact h1

end Go.Proofs.YtlegmiaoablcgaaGreatDoor
