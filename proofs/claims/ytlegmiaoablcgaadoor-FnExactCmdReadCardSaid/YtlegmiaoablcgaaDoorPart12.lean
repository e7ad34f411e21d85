/- The proof's texts, part 12. -/
import Derived.Test.YtlegmiaoablcgaaDoorPart11
import Derived.Test.YtlegmiaoablcgaaDoorPart7
import Derived.Test.YtlegmiaoablcgaaDoorPart2

/- What l4rest of package spec does at a store, and at every command. -/
namespace Go.Proofs.YtlegmiaoablcgaaDoor
open Go.RowKit
set_option maxRecDepth 100000
set_option linter.unusedVariables false
set_option linter.unusedSimpArgs false

/-- Where l4rest stands. -/
structure RSt (w0 w : World) (g gc : Nat) (lv : Value) (e : Int) (ts : List TokD) (S : Nat → Prop) (st : PS) (c : CmdD) : Prop where
  gr : Gr2 w0 w g gc
  par : ParP w g lv e st
  tok : ToksO w S lv ts
  cmd : CmdP w gc S c
section
variable {w0 w w' : World} {g gc : Nat} {lv : Value} {e : Int} {ts : List TokD} {S : Nat → Prop} {st st' : PS} {c : CmdD}
theorem RSt.below (h : RSt w0 w g gc lv e ts S st c) (hb : Below w.heap.size w w') : RSt w0 w' g gc lv e ts S st c := by
  refine ⟨h.gr.below hb, box_below hb h.par, Ow.below framesTok h.tok hb, ?_⟩
  obtain ⟨a0, n0, c0, a1, n1, c1, a2, n2, c2, hc, r0, r1, r2⟩ := h.cmd
  exact ⟨a0, n0, c0, a1, n1, c1, a2, n2, c2, box_below hb hc, r0.frame fun b _ hl => hb.block b hl, r1.frame fun b _ hl => hb.block b hl, r2.frame fun b _ hl => hb.block b hl⟩
theorem RSt.took (h : RSt w0 w g gc lv e ts S st c) (hS : ¬ S g) (hne : g ≠ gc) (hG : w.grownBy w' (some g)) (hP : ParP w' g lv e st') : RSt w0 w' g gc lv e ts S st' c := by
  refine ⟨h.gr.gb hG, hP, toks_gb h.tok hG hS, ?_⟩
  obtain ⟨a0, n0, c0, a1, n1, c1, a2, n2, c2, hc, r0, r1, r2⟩ := h.cmd
  exact ⟨a0, n0, c0, a1, n1, c1, a2, n2, c2, (hG.block gc (lt_of_heap hc) (fun h => by cases h; exact hne rfl)).trans hc, rb_gb r0 hG hS, rb_gb r1 hG hS, rb_gb r2 hG hS⟩
theorem RSt.bump {n : Int} (h : RSt w0 w g gc lv e ts S st c) (hS : ¬ S g) (hne : g ≠ gc) (hn : n = (st.i : Int) + 1) : RSt w0 (w.setCell ⟨g, 1, none⟩ (.int .i64 n)) g gc lv e ts S (bump st) c := by
  subst hn
  have hG : w.grownBy (w.setCell ⟨g, 1, none⟩ (.int .i64 ((st.i : Int) + 1))) (some g) := gb_set (gb_refl _ _)
  exact h.took hS hne hG (box_set (i := 1) (v := .int .i64 ((st.i : Int) + 1)) h.par)
theorem RSt.set {j : Nat} {n : Int} {c' : CmdD} (h : RSt w0 w g gc lv e ts S st c) (hSc : ¬ S gc) (hne : g ≠ gc) (hj : (j = 3 ∧ c' = { c with uid := n }) ∨ (j = 4 ∧ c' = { c with mode := n }) ∨ (j = 5 ∧ c' = { c with fl := n }) ∨ (j = 6 ∧ c' = { c with si := n })) : RSt w0 (w.setCell ⟨gc, j, none⟩ (.int .i64 n)) g gc lv e ts S st c' := by
  refine ⟨h.gr.setC, box_other (k := gc) (i := j) (v := .int .i64 n) h.par hne, Ow.frame framesTok h.tok fun b hb _ => Below.heap_setCell _ _ _ _ (show b ≠ gc from fun e => hSc (e ▸ hb)), ?_⟩
  obtain ⟨a0, n0, c0, a1, n1, c1, a2, n2, c2, hc, r0, r1, r2⟩ := h.cmd
  rcases hj with ⟨rfl, rfl⟩ | ⟨rfl, rfl⟩ | ⟨rfl, rfl⟩ | ⟨rfl, rfl⟩
  · exact ⟨a0, n0, c0, a1, n1, c1, a2, n2, c2, box_set (i := 3) (v := .int .i64 n) hc, rb_setC r0 hSc, rb_setC r1 hSc, rb_setC r2 hSc⟩
  · exact ⟨a0, n0, c0, a1, n1, c1, a2, n2, c2, box_set (i := 4) (v := .int .i64 n) hc, rb_setC r0 hSc, rb_setC r1 hSc, rb_setC r2 hSc⟩
  · exact ⟨a0, n0, c0, a1, n1, c1, a2, n2, c2, box_set (i := 5) (v := .int .i64 n) hc, rb_setC r0 hSc, rb_setC r1 hSc, rb_setC r2 hSc⟩
  · exact ⟨a0, n0, c0, a1, n1, c1, a2, n2, c2, box_set (i := 6) (v := .int .i64 n) hc, rb_setC r0 hSc, rb_setC r1 hSc, rb_setC r2 hSc⟩
/-- The command's cells. -/
theorem RSt.cells (h : RSt w0 w g gc lv e ts S st c) : ∃ v1 v2 v7 : Value, w.cell? ⟨gc, 0, none⟩ = some (.int .i64 c.k) ∧ w.cell? ⟨gc, 1, none⟩ = some v1 ∧ w.cell? ⟨gc, 2, none⟩ = some v2 ∧ w.cell? ⟨gc, 3, none⟩ = some (.int .i64 c.uid) ∧ w.cell? ⟨gc, 4, none⟩ = some (.int .i64 c.mode) ∧ w.cell? ⟨gc, 5, none⟩ = some (.int .i64 c.fl) ∧ w.cell? ⟨gc, 6, none⟩ = some (.int .i64 c.si) ∧ w.cell? ⟨gc, 7, none⟩ = some v7 ∧ (∀ i, w.frozen? ⟨gc, i, none⟩ = false) ∧ gc < w.heap.size := by
  obtain ⟨a0, n0, c0, a1, n1, c1, a2, n2, c2, hc, -⟩ := h.cmd
  obtain ⟨d0, d1, d2, d3, d4, d5, d6, d7, d8⟩ := box8l hc
  exact ⟨_, _, _, d0, d1, d2, d3, d4, d5, d6, d7, (box8z hc).1, d8⟩
end
def mOf (ts : List TokD) (st : PS) : Nat → Int
  | 0 => -1
  | k + 1 => if seesS (modeW k) ts st then k else mOf ts st k
theorem mOf3 (ts : List TokD) (st : PS) : mOf ts st 3 = match modeS ts st with | none => -1 | some m => m := by
  simp only [mOf, modeS]
  rw [show modeW ((2 : Nat) : Int) = modeW 2 from rfl, show modeW ((1 : Nat) : Int) = modeW 1 from rfl, show modeW ((0 : Nat) : Int) = modeW 0 from rfl]
  split
  · rfl
  · split
    · rfl
    · split <;> rfl
theorem modeS_pos {ts : List TokD} {st : PS} {m : Int} (h : modeS ts st = some m) : 0 ≤ m := by
  unfold modeS at h
  split at h
  · cases h; omega
  · split at h
    · cases h; omega
    · split at h
      · cases h; omega
      · cases h

set_option maxRecDepth 100000 in
set_option maxHeartbeats 4000000 in
theorem l4rest_store (g gc : Nat) (lv : Value) (e : Int) (st : PS) (ts : List TokD) (S : Nat → Prop) (c : CmdD) (w : World) (hk3 : c.k = 3) (hp : ParP w g lv e st) (ht : ToksO w S lv ts) (hS : ¬ S g) (hSc : ¬ S gc) (hne : g ≠ gc) (hSl : ∀ b, S b → b < w.heap.size) (hil : st.i ≤ 1000) (hc : CmdP w gc S c) :
    Calls Tryd.prog 31 #[.pointer (some ⟨g, 0, none⟩), .pointer (some ⟨gc, 0, none⟩)] w fun r w' => r = .returned (.tuple #[]) ∧ Gr2 w w' g gc ∧ ParP w' g lv e (restS e ts c st).2 ∧ CmdP w' gc S (restS e ts c st).1 := by
  obtain ⟨kd, bx, tt, uid, mode, fl, si, tx⟩ := c
  simp only at hk3
  subst hk3
  have H0 : Hid (RSt w w g gc lv e ts S st ⟨3, bx, tt, uid, mode, fl, si, tx⟩) := ⟨Gr2.refl _ _ _, hp, ht, hc⟩
  obtain ⟨res, hres⟩ : ∃ res, res = restS e ts ⟨3, bx, tt, uid, mode, fl, si, tx⟩ st := ⟨_, rfl⟩
  have HRES : Hid (res = restS e ts ⟨3, bx, tt, uid, mode, fl, si, tx⟩ st) := hres
  rw [← hres]
  clear hres hp ht hc
  obtain ⟨v1, v2, v7, d0, d1, d2, d3, d4, d5, d6, d7, dz, dl⟩ := H0.out.cells
  simp only at d0 d3 d4 d5 d6
  go_enter Tryd.func31, Tryd.ntmps31
  go_wp2_with fail
  refine (l4take_r g lv e 3 1 st ts S w H0.out.par H0.out.tok hS hSl (by omega) (by decide)).mono ?_
  rintro r w1 ⟨za, zn, zc, rfl, -, hG, hP⟩
  have hiA := takeS_i e 3 1 ts st
  generalize hA : takeS e 3 1 ts st = A at hP hiA
  have HA : Hid (takeS e 3 1 ts st = A) := hA
  clear hA
  obtain ⟨⟨ak, ap, an, ax⟩, A2⟩ := A
  simp only at hP hiA
  have H1 : Hid (RSt w w1 g gc lv e ts S A2 ⟨3, bx, tt, uid, mode, fl, si, tx⟩) := H0.out.took hS hne hG hP
  clear hG hP H0 d0 d1 d2 d3 d4 d5 d6 d7 dz dl
  have hfd := fun w' => run_fieldN ak ap an za zn zc w'
  have H2 : Hid (RSt w (w1.setCell ⟨gc, 3, none⟩ (.int .i64 an)) g gc lv e ts S A2 ⟨3, bx, tt, an, mode, fl, si, tx⟩) := H1.out.set hSc hne (.inl ⟨rfl, rfl⟩)
  obtain ⟨v1, v2, v7, d0, d1, d2, d3, d4, d5, d6, d7, dz, dl⟩ := H1.out.cells
  simp only at d0 d3 d4 d5 d6
  go_upto_region 6 with fail
  generalize (w1.setCell ⟨gc, 3, none⟩ (.int .i64 an)) = w2 at H2 ⊢
  clear d0 d1 d2 d3 d4 d5 d6 d7 dz dl hfd H1
  have H3 : Hid (RSt w (w2.setCell ⟨gc, 4, none⟩ (.int .i64 (-1))) g gc lv e ts S A2 ⟨3, bx, tt, an, -1, fl, si, tx⟩) := H2.out.set hSc hne (.inr (.inl ⟨rfl, rfl⟩))
  obtain ⟨v1, v2, v7, d0, d1, d2, d3, d4, d5, d6, d7, dz, dl⟩ := H2.out.cells
  simp only at d0 d3 d4 d5 d6
  go_upto_region 7 with fail
  generalize (w2.setCell ⟨gc, 4, none⟩ (.int .i64 (-1))) = w3 at H3 ⊢
  clear d0 d1 d2 d3 d4 d5 d6 d7 dz dl H2
  go_wp2
  go_loopw [4] (fun kv wr => ∃ k : Nat, k ≤ 3 ∧ kv = .int .i64 k ∧ Hid (RSt w wr g gc lv e ts S A2 ⟨3, bx, tt, an, mOf ts A2 k, fl, si, tx⟩)) (fun kv _ => 3 - (intOf kv).toNat)
  case atStart => exact ⟨0, by omega, rfl, H3⟩
  case round =>
    clear H3
    obtain ⟨k, hk, rfl, HK⟩ := hrel
    by_cases hlt : k < 3
    · have AB : Below wr.heap.size wr (wr.alloc (.cells #[.string ⟨#[73, 83]⟩, .string ⟨#[87, 73, 84, 72]⟩, .string ⟨#[87, 73, 84, 72, 79, 85, 84]⟩] 9)) := (Below.refl _ _).alloc (Nat.le_refl _) _
      have HKA : Hid (RSt w _ g gc lv e ts S A2 ⟨3, bx, tt, an, mOf ts A2 k, fl, si, tx⟩) := HK.out.below AB
      clear AB
      have HST : Hid (mOf ts A2 (k + 1) = if seesS (modeW k) ts A2 then (k : Int) else mOf ts A2 k) := rfl
      obtain rfl | rfl | rfl : k = 0 ∨ k = 1 ∨ k = 2 := by omega
      · go_wp2_with fail
        refine (l4sees_r g lv e A2 ts S (modeW 0) _ HKA.out.par HKA.out.tok (by intro x hx; simp [modeW] at hx; omega) (by omega)).mono ?_
        rintro r w4 ⟨rfl, hB⟩
        have H4 : Hid (RSt w w4 g gc lv e ts S A2 _) := HKA.out.below hB
        clear hB HKA HK
        obtain ⟨v1, v2, v7, d0, d1, d2, d3, d4, d5, d6, d7, dz, dl⟩ := H4.out.cells
        simp only at d0 d3 d4 d5 d6
        cases hs : seesS (modeW 0) ts A2 with
        | true =>
          have H5 : Hid (RSt w (w4.setCell ⟨gc, 4, none⟩ (.int .i64 0)) g gc lv e ts S A2 ⟨3, bx, tt, an, mOf ts A2 (0 + 1), fl, si, tx⟩) := by
            have h := H4.out.set (j := 4) (n := 0) hSc hne (.inr (.inl ⟨rfl, rfl⟩))
            rw [show mOf ts A2 (0 + 1) = 0 by rw [HST.out]; exact if_pos hs]
            exact h
          clear hs
          go_wp2
          go_roundw
          case rel => exact ⟨0 + 1, by omega, by go_num, H5⟩
          case measure => simp [intOf]
        | false =>
          have H5 : Hid (RSt w w4 g gc lv e ts S A2 ⟨3, bx, tt, an, mOf ts A2 (0 + 1), fl, si, tx⟩) := by
            rw [show mOf ts A2 (0 + 1) = mOf ts A2 0 by rw [HST.out]; exact if_neg (by rw [show modeW ((0 : Nat) : Int) = modeW 0 from rfl, hs]; simp)]
            exact H4.out
          clear hs
          go_wp2
          go_roundw
          case rel => exact ⟨0 + 1, by omega, by go_num, H5⟩
          case measure => simp [intOf]
      · go_wp2_with fail
        refine (l4sees_r g lv e A2 ts S (modeW 1) _ HKA.out.par HKA.out.tok (by intro x hx; simp [modeW] at hx; omega) (by omega)).mono ?_
        rintro r w4 ⟨rfl, hB⟩
        have H4 : Hid (RSt w w4 g gc lv e ts S A2 _) := HKA.out.below hB
        clear hB HKA HK
        obtain ⟨v1, v2, v7, d0, d1, d2, d3, d4, d5, d6, d7, dz, dl⟩ := H4.out.cells
        simp only at d0 d3 d4 d5 d6
        cases hs : seesS (modeW 1) ts A2 with
        | true =>
          have H5 : Hid (RSt w (w4.setCell ⟨gc, 4, none⟩ (.int .i64 1)) g gc lv e ts S A2 ⟨3, bx, tt, an, mOf ts A2 (1 + 1), fl, si, tx⟩) := by
            have h := H4.out.set (j := 4) (n := 1) hSc hne (.inr (.inl ⟨rfl, rfl⟩))
            rw [show mOf ts A2 (1 + 1) = 1 by rw [HST.out]; exact if_pos hs]
            exact h
          clear hs
          go_wp2
          go_roundw
          case rel => exact ⟨1 + 1, by omega, by go_num, H5⟩
          case measure => simp [intOf]
        | false =>
          have H5 : Hid (RSt w w4 g gc lv e ts S A2 ⟨3, bx, tt, an, mOf ts A2 (1 + 1), fl, si, tx⟩) := by
            rw [show mOf ts A2 (1 + 1) = mOf ts A2 1 by rw [HST.out]; exact if_neg (by rw [show modeW ((1 : Nat) : Int) = modeW 1 from rfl, hs]; simp)]
            exact H4.out
          clear hs
          go_wp2
          go_roundw
          case rel => exact ⟨1 + 1, by omega, by go_num, H5⟩
          case measure => simp [intOf]
      · go_wp2_with fail
        refine (l4sees_r g lv e A2 ts S (modeW 2) _ HKA.out.par HKA.out.tok (by intro x hx; simp [modeW] at hx; omega) (by omega)).mono ?_
        rintro r w4 ⟨rfl, hB⟩
        have H4 : Hid (RSt w w4 g gc lv e ts S A2 _) := HKA.out.below hB
        clear hB HKA HK
        obtain ⟨v1, v2, v7, d0, d1, d2, d3, d4, d5, d6, d7, dz, dl⟩ := H4.out.cells
        simp only at d0 d3 d4 d5 d6
        cases hs : seesS (modeW 2) ts A2 with
        | true =>
          have H5 : Hid (RSt w (w4.setCell ⟨gc, 4, none⟩ (.int .i64 2)) g gc lv e ts S A2 ⟨3, bx, tt, an, mOf ts A2 (2 + 1), fl, si, tx⟩) := by
            have h := H4.out.set (j := 4) (n := 2) hSc hne (.inr (.inl ⟨rfl, rfl⟩))
            rw [show mOf ts A2 (2 + 1) = 2 by rw [HST.out]; exact if_pos hs]
            exact h
          clear hs
          go_wp2
          go_roundw
          case rel => exact ⟨2 + 1, by omega, by go_num, H5⟩
          case measure => simp [intOf]
        | false =>
          have H5 : Hid (RSt w w4 g gc lv e ts S A2 ⟨3, bx, tt, an, mOf ts A2 (2 + 1), fl, si, tx⟩) := by
            rw [show mOf ts A2 (2 + 1) = mOf ts A2 2 by rw [HST.out]; exact if_neg (by rw [show modeW ((2 : Nat) : Int) = modeW 2 from rfl, hs]; simp)]
            exact H4.out
          clear hs
          go_wp2
          go_roundw
          case rel => exact ⟨2 + 1, by omega, by go_num, H5⟩
          case measure => simp [intOf]
    · obtain rfl : k = 3 := by omega
      obtain ⟨v1, v2, v7, d0, d1, d2, d3, d4, d5, d6, d7, dz, dl⟩ := HK.out.cells
      simp only at d0 d3 d4 d5 d6
      have HM : Hid (mOf ts A2 3 = _) := mOf3 ts A2
      cases hm : modeS ts A2 with
      | none =>
        have hm1 : mOf ts A2 3 = -1 := by rw [HM.out, hm]
        rw [hm1] at d4
        have HRE : Hid (res = (⟨3, bx, tt, an, mOf ts A2 3, fl, si, tx⟩, failS e ts A2)) := by
          show _ = _
          rw [HRES.out, hm1]
          simp [restS, HA.out, hm]
        clear hm hm1
        go_wp2_with fail
        refine (l4fail_r g lv e A2 ts S wr HK.out.par HK.out.tok hS (by omega)).mono ?_
        rintro r w5 ⟨rfl, hG, hP⟩
        have HF : Hid (RSt w w5 g gc lv e ts S (failS e ts A2) _) := HK.out.took hS hne hG hP
        clear hG hP
        go_wp2
        first | go_end0 | refine bodyPost_ret (v := .tuple #[]) (by simp [results, Tryd.results31, go_sem]) rfl ?_
        rw [HRE.out]
        exact ⟨rfl, HF.out.gr, HF.out.par, HF.out.cmd⟩
      | some m =>
        have hm0 := modeS_pos hm
        have hm1 : mOf ts A2 3 = m := by rw [HM.out, hm]
        have HK2 : Hid (RSt w wr g gc lv e ts S A2 ⟨3, bx, tt, an, m, fl, si, tx⟩) := by rw [← hm1]; exact HK.out
        rw [hm1] at d4
        have HMS : Hid (modeS ts A2 = some m) := hm
        have hmn : ¬ m < 0 := by omega
        clear hm1 HM HK hm
        obtain ⟨q0, q1, q2, q3, q4⟩ := px5 HK2.out.par
        obtain ⟨qz, ql⟩ := box8z HK2.out.par
        have H5 : Hid (RSt w (wr.setCell ⟨g, 1, none⟩ (.int .i64 ((A2.i : Int) + 1))) g gc lv e ts S (bump A2) ⟨3, bx, tt, an, m, fl, si, tx⟩) := HK2.out.bump hS hne rfl
        go_upto_region 15 with fail
        generalize (wr.setCell ⟨g, 1, none⟩ (.int .i64 ((A2.i : Int) + 1))) = w5 at H5 ⊢
        clear d0 d1 d2 d3 d4 d5 d6 d7 dz dl q0 q1 q2 q3 q4 qz ql HK2
        go_wp2_with fail
        refine (l4take_r g lv e 4 0 (bump A2) ts S w5 H5.out.par H5.out.tok hS (fun b h => Nat.lt_of_lt_of_le (hSl b h) H5.out.gr.size) (by show A2.i + 1 ≤ 2000; omega) (by decide)).mono ?_
        rintro r w6 ⟨ya, yn, yc, rfl, -, hG, hP⟩
        have hiB := takeS_i e 4 0 ts (bump A2)
        have hib : (bump A2).i = A2.i + 1 := rfl
        generalize hB : takeS e 4 0 ts (bump A2) = B at hP hiB
        have HB : Hid (takeS e 4 0 ts (bump A2) = B) := hB
        clear hB
        obtain ⟨⟨bk, bp, bn, bt⟩, B2⟩ := B
        simp only at hP hiB
        have H6 : Hid (RSt w w6 g gc lv e ts S B2 ⟨3, bx, tt, an, m, fl, si, tx⟩) := H5.out.took hS hne hG hP
        clear hG hP H5
        have hfd := fun w' => run_fieldN bk bp bn ya yn yc w'
        have H7 : Hid (RSt w (w6.setCell ⟨gc, 5, none⟩ (.int .i64 bn)) g gc lv e ts S B2 ⟨3, bx, tt, an, m, bn, si, tx⟩) := H6.out.set hSc hne (.inr (.inr (.inl ⟨rfl, rfl⟩)))
        obtain ⟨v1, v2, v7, d0, d1, d2, d3, d4, d5, d6, d7, dz, dl⟩ := H6.out.cells
        simp only at d0 d3 d4 d5 d6
        go_upto_region 16 with fail
        generalize (w6.setCell ⟨gc, 5, none⟩ (.int .i64 bn)) = w7 at H7 ⊢
        clear d0 d1 d2 d3 d4 d5 d6 d7 dz dl hfd H6
        go_wp2_with fail
        refine (l4sees_r g lv e B2 ts S sinceW w7 H7.out.par H7.out.tok (by intro x hx; simp [sinceW] at hx; omega) (by omega)).mono ?_
        rintro r w8 ⟨rfl, hBl⟩
        have H8 : Hid (RSt w w8 g gc lv e ts S B2 ⟨3, bx, tt, an, m, bn, si, tx⟩) := H7.out.below hBl
        clear hBl H7
        cases hs : seesS sinceW ts B2 with
        | true =>
          have HSS : Hid (seesS sinceW ts B2 = true) := hs
          clear hs
          obtain ⟨q0, q1, q2, q3, q4⟩ := px5 H8.out.par
          obtain ⟨qz, ql⟩ := box8z H8.out.par
          have H9 : Hid (RSt w (w8.setCell ⟨g, 1, none⟩ (.int .i64 ((B2.i : Int) + 1))) g gc lv e ts S (bump B2) ⟨3, bx, tt, an, m, bn, si, tx⟩) := H8.out.bump hS hne rfl
          go_upto_region 18 with fail
          generalize (w8.setCell ⟨g, 1, none⟩ (.int .i64 ((B2.i : Int) + 1))) = w9 at H9 ⊢
          clear q0 q1 q2 q3 q4 qz ql H8
          go_wp2_with fail
          refine (l4take_r g lv e 3 1 (bump B2) ts S w9 H9.out.par H9.out.tok hS (fun b h => Nat.lt_of_lt_of_le (hSl b h) H9.out.gr.size) (by show B2.i + 1 ≤ 2000; omega) (by decide)).mono ?_
          rintro r w10 ⟨xa, xn, xc, rfl, -, hG, hP⟩
          generalize hD : takeS e 3 1 ts (bump B2) = D at hP
          have HD : Hid (takeS e 3 1 ts (bump B2) = D) := hD
          clear hD
          obtain ⟨⟨dk, dp, dn, dt⟩, D2⟩ := D
          simp only at hP
          have H10 : Hid (RSt w w10 g gc lv e ts S D2 ⟨3, bx, tt, an, m, bn, si, tx⟩) := H9.out.took hS hne hG hP
          clear hG hP H9
          have hfd := fun w' => run_fieldN dk dp dn xa xn xc w'
          have H11 : Hid (RSt w (w10.setCell ⟨gc, 6, none⟩ (.int .i64 dn)) g gc lv e ts S D2 ⟨3, bx, tt, an, m, bn, dn, tx⟩) := H10.out.set hSc hne (.inr (.inr (.inr ⟨rfl, rfl⟩)))
          obtain ⟨v1, v2, v7, d0, d1, d2, d3, d4, d5, d6, d7, dz, dl⟩ := H10.out.cells
          simp only at d0 d3 d4 d5 d6
          have HRE : Hid (res = (⟨3, bx, tt, an, m, bn, dn, tx⟩, D2)) := by
            show _ = _
            rw [HRES.out]
            simp [restS, HA.out, HMS.out, HB.out, HSS.out, HD.out]
          go_wp2
          first | go_end0 | refine bodyPost_ret (v := .tuple #[]) (by simp [results, Tryd.results31, go_sem]) rfl ?_
          rw [HRE.out]
          exact ⟨rfl, H11.out.gr, H11.out.par, H11.out.cmd⟩
        | false =>
          have HRE : Hid (res = (⟨3, bx, tt, an, m, bn, si, tx⟩, B2)) := by
            show _ = _
            rw [HRES.out]
            simp [restS, HA.out, HMS.out, HB.out, hs]
          clear hs
          go_wp2
          all_goals go_end0
          all_goals (rw [HRE.out]; exact ⟨rfl, H8.out.gr, H8.out.par, H8.out.cmd⟩)

end Go.Proofs.YtlegmiaoablcgaaDoor

/- What l4rest of package spec does at every command. -/
namespace Go.Proofs.YtlegmiaoablcgaaDoor
open Go.RowKit
set_option linter.unusedVariables false
set_option linter.unusedSimpArgs false

theorem l4rest_r (g gc : Nat) (lv : Value) (e : Int) (st : PS) (ts : List TokD) (S : Nat → Prop) (c : CmdD) (w : World) (hp : ParP w g lv e st) (ht : ToksO w S lv ts) (hS : ¬ S g) (hSc : ¬ S gc) (hne : g ≠ gc) (hSl : ∀ b, S b → b < w.heap.size) (hil : st.i ≤ 1000) (hc : CmdP w gc S c) :
    Calls Tryd.prog 31 #[.pointer (some ⟨g, 0, none⟩), .pointer (some ⟨gc, 0, none⟩)] w fun r w' => r = .returned (.tuple #[]) ∧ Gr2 w w' g gc ∧ ParP w' g lv e (restS e ts c st).2 ∧ CmdP w' gc S (restS e ts c st).1 := by
  by_cases h3 : c.k = 3
  · exact l4rest_store g gc lv e st ts S c w h3 hp ht hS hSc hne hSl hil hc
  obtain ⟨kd, bx, tt, uid, mode, fl, si, tx⟩ := c
  obtain ⟨a0, n0, c0, a1, n1, c1, a2, n2, c2, hcc, r0, r1, r2⟩ := hc
  simp only at h3 hcc r0 r1 r2
  by_cases h2 : kd = 2
  · subst h2
    have h := l4rest_app g gc lv e st ts S bx tt tx uid mode fl si a0 a1 a2 n0 n1 n2 c0 c1 c2 w hp ht hS hSc hne hSl hil hcc r0 r1 r2
    rw [show restS e ts ⟨2, bx, tt, uid, mode, fl, si, tx⟩ st = (⟨2, bx, tt, uid, mode, (takeS e 4 0 ts st).1.n, si, (takeS e 5 0 ts (takeS e 4 0 ts st).2).1.tx⟩, (takeS e 5 0 ts (takeS e 4 0 ts st).2).2) by simp [restS]]
    exact h
  by_cases h5 : kd = 5
  · subst h5
    have h := l4rest_fetch g gc lv e st ts S bx tt tx uid mode fl si a0 a1 a2 n0 n1 n2 c0 c1 c2 w hp ht hS hSc hne hSl hil hcc r0 r1 r2
    rw [show restS e ts ⟨5, bx, tt, uid, mode, fl, si, tx⟩ st = (⟨5, bx, tt, (takeS e 3 1 ts st).1.n, mode, fl, si, tx⟩, (takeS e 3 1 ts st).2) by simp [restS]]
    exact h
  by_cases h8 : kd = 8
  · subst h8
    have h := l4rest_chg g gc lv e st ts S bx tt tx uid mode fl si a0 a1 a2 n0 n1 n2 c0 c1 c2 w hp ht hS hSc hne hSl hil hcc r0 r1 r2
    rw [show restS e ts ⟨8, bx, tt, uid, mode, fl, si, tx⟩ st = (⟨8, bx, tt, uid, mode, fl, (takeS e 3 0 ts st).1.n, tx⟩, (takeS e 3 0 ts st).2) by simp [restS]]
    exact h
  by_cases h6 : kd = 6
  · subst h6
    have h := l4rest_copy g gc lv e st ts S bx tt tx uid mode fl si a0 a1 a2 n0 n1 n2 c0 c1 c2 w hp ht hS hSc hne hSl hil hcc r0 r1 r2
    cases hs : seesS awayW ts (takeS e 2 0 ts (takeS e 3 1 ts st).2).2 with
    | true =>
      rw [if_pos hs, if_pos hs] at h
      rw [show restS e ts ⟨6, bx, tt, uid, mode, fl, si, tx⟩ st = (⟨6, bx, (takeS e 2 0 ts (takeS e 3 1 ts st).2).1.tx, (takeS e 3 1 ts st).1.n, 1, fl, si, tx⟩, bump (takeS e 2 0 ts (takeS e 3 1 ts st).2).2) by simp [restS, hs]]
      exact h
    | false =>
      rw [if_neg (by rw [hs]; simp), if_neg (by rw [hs]; simp)] at h
      rw [show restS e ts ⟨6, bx, tt, uid, mode, fl, si, tx⟩ st = (⟨6, bx, (takeS e 2 0 ts (takeS e 3 1 ts st).2).1.tx, (takeS e 3 1 ts st).1.n, mode, fl, si, tx⟩, (takeS e 2 0 ts (takeS e 3 1 ts st).2).2) by simp [restS, hs]]
      exact h
  have h := l4rest_none g gc lv e st ts S kd bx tt tx uid mode fl si a0 a1 a2 n0 n1 n2 c0 c1 c2 w hp ht hS hSc hne hSl hil hcc r0 r1 r2 h2 h3 h5 h6 h8
  rw [show restS e ts ⟨kd, bx, tt, uid, mode, fl, si, tx⟩ st = (⟨kd, bx, tt, uid, mode, fl, si, tx⟩, st) by simp [restS, h2, h3, h5, h6, h8]]
  exact h
theorem rest_i (e : Int) (ts : List TokD) (c : CmdD) (st : PS) : (restS e ts c st).2.i ≤ st.i + 6 := by
  have hf : ∀ s, (failS e ts s).i = s.i := fun s => by unfold failS; split <;> rfl
  have hb : ∀ s, (bump s).i = s.i + 1 := fun _ => rfl
  unfold restS
  split
  · have h1 := takeS_i e 4 0 ts st
    have h2 := takeS_i e 5 0 ts (takeS e 4 0 ts st).2
    simp only; omega
  · split
    · have h1 := takeS_i e 3 1 ts st
      split
      · simp only [hf]; omega
      · have h2 := takeS_i e 4 0 ts (bump (takeS e 3 1 ts st).2)
        rw [hb] at h2
        split
        · have h3 := takeS_i e 3 1 ts (bump (takeS e 4 0 ts (bump (takeS e 3 1 ts st).2)).2)
          rw [hb] at h3
          simp only; omega
        · simp only; omega
    · split
      · have h1 := takeS_i e 3 1 ts st
        simp only; omega
      · split
        · have h1 := takeS_i e 3 1 ts st
          have h2 := takeS_i e 2 0 ts (takeS e 3 1 ts st).2
          split
          · simp only [hb]; omega
          · simp only; omega
        · split
          · have h1 := takeS_i e 3 0 ts st
            simp only; omega
          · simp
section
variable {w0 w w' : World} {g gc : Nat} {lv : Value} {e : Int} {ts : List TokD} {S : Nat → Prop} {st st' : PS} {c : CmdD}
theorem RSt.setK {n : Int} (h : RSt w0 w g gc lv e ts S st c) (hSc : ¬ S gc) (hne : g ≠ gc) : RSt w0 (w.setCell ⟨gc, 0, none⟩ (.int .i64 n)) g gc lv e ts S st { c with k := n } := by
  refine ⟨h.gr.setC, box_other (k := gc) (i := 0) (v := .int .i64 n) h.par hne, Ow.frame framesTok h.tok fun b hb _ => Below.heap_setCell _ _ _ _ (show b ≠ gc from fun e => hSc (e ▸ hb)), ?_⟩
  obtain ⟨a0, n0, c0, a1, n1, c1, a2, n2, c2, hc, r0, r1, r2⟩ := h.cmd
  exact ⟨a0, n0, c0, a1, n1, c1, a2, n2, c2, box_set (i := 0) (v := .int .i64 n) hc, rb_setC r0 hSc, rb_setC r1 hSc, rb_setC r2 hSc⟩
theorem RSt.setB {ua : Option Addr} {un uc : Nat} {x : List Int} (h : RSt w0 w g gc lv e ts S st c) (hSc : ¬ S gc) (hne : g ≠ gc) (hr : RB w S (.slice ua un uc) x) : RSt w0 (w.setCell ⟨gc, 1, none⟩ (.slice ua un uc)) g gc lv e ts S st { c with bx := x } := by
  refine ⟨h.gr.setC, box_other (k := gc) (i := 1) (v := .slice ua un uc) h.par hne, Ow.frame framesTok h.tok fun b hb _ => Below.heap_setCell _ _ _ _ (show b ≠ gc from fun e => hSc (e ▸ hb)), ?_⟩
  obtain ⟨a0, n0, c0, a1, n1, c1, a2, n2, c2, hc, r0, r1, r2⟩ := h.cmd
  exact ⟨ua, un, uc, a1, n1, c1, a2, n2, c2, box_set (i := 1) (v := .slice ua un uc) hc, rb_setC hr hSc, rb_setC r1 hSc, rb_setC r2 hSc⟩
theorem Gr2.trans {a b c : World} (h : Gr2 a b g gc) (k : Gr2 b c g gc) : Gr2 a c g gc := ⟨k.os.trans h.os, k.tape.trans h.tape, k.output.trans h.output, Nat.le_trans h.size k.size, fun j hj h1 h2 => (k.block j (Nat.lt_of_lt_of_le hj h.size) h1 h2).trans (h.block j hj h1 h2)⟩
theorem RSt.rest (h : RSt w0 w g gc lv e ts S st c) (hS : ¬ S g) (hSc : ¬ S gc) (k : Gr2 w w' g gc) {c' : CmdD} (hp : ParP w' g lv e st') (hc : CmdP w' gc S c') : RSt w0 w' g gc lv e ts S st' c' := ⟨h.gr.trans k, hp, k.toks h.tok hS hSc, hc⟩
theorem below_gr2 {N : Nat} {wa : World} (hb : Below N wa w) (k : Gr2 w w' g gc) (h1 : N ≤ g) (h2 : N ≤ gc) (hs : N ≤ w.heap.size) : Below N wa w' :=
  ⟨k.os.trans hb.os, k.tape.trans hb.tape, k.output.trans hb.output, Nat.le_trans hb.size k.size, fun j hj => (k.block j (by omega) (by omega) (by omega)).trans (hb.block j hj)⟩
end

end Go.Proofs.YtlegmiaoablcgaaDoor

/- What l4kind of package spec does. -/
namespace Go.Proofs.YtlegmiaoablcgaaDoor
open Go.RowKit
set_option maxRecDepth 100000
set_option linter.unusedVariables false

set_option maxRecDepth 100000 in
set_option maxHeartbeats 2000000 in
theorem l4kind_r (k : Int) (h : 0 ≤ k ∧ k ≤ 9) (w : World) :
    Calls Tryd.prog 28 #[.int .i64 k] w fun e w' => e = .returned (.string (strOfNums (kindW k))) ∧ Below w.heap.size w w' := by
  have hk : k = 0 ∨ k = 1 ∨ k = 2 ∨ k = 3 ∨ k = 4 ∨ k = 5 ∨ k = 6 ∨ k = 7 ∨ k = 8 ∨ k = 9 := by omega
  rcases hk with rfl | rfl | rfl | rfl | rfl | rfl | rfl | rfl | rfl | rfl
  all_goals
    go_enter Tryd.func28, Tryd.ntmps28
    go_wp2
    go_ret
    exact ⟨rfl, (Below.refl _ _).alloc (Nat.le_refl _) _⟩

end Go.Proofs.YtlegmiaoablcgaaDoor
