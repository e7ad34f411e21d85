/- The proof's texts, part 7. -/
import Derived.Test.YtlegmiaoablcgaaDoorPart6
import Derived.Test.YtlegmiaoablcgaaDoorPart2
import Derived.Test.YtlegmiaoablcgaaDoorPart5
import Derived.WalkLawsBesides

/- What l4fail of package spec does. -/
namespace Go.Proofs.YtlegmiaoablcgaaDoor
open Go.RowKit
set_option maxRecDepth 100000
set_option linter.unusedVariables false
set_option linter.unusedSimpArgs false

theorem tab_fail4 : (Tryd.f29.body.bind (opsAt 4)).all (fun o => tableS o 15 [0, 1, 2, 3, 4, 5, 6, 7, 8, 9, 10, 11, 12, 13, 14] [14] [12, 15] 12) = true := by kernel_rfl
theorem tab_take5 : (Tryd.f30.body.bind (opsAt 5)).all (fun o => tableS o 12 [0, 1, 2, 3, 4, 5, 6, 7, 8, 9, 10, 11] [11] [11, 12] 12) = true := by kernel_rfl
section
variable {w w1 w2 : World} {g i : Nat} {x : Value}
theorem gb_refl (w : World) (g : Nat) : w.grownBy w (some g) := World.grownBy.refl _ _
theorem gb_set (h : w.grownBy w1 (some g)) : w.grownBy (w1.setCell ⟨g, i, none⟩ x) (some g) := ⟨h.os, h.tape, h.output, by rw [box_size]; exact h.size, fun k hk hne => (Below.heap_setCell _ _ _ _ (show k ≠ g from fun e => hne (by rw [e]))).trans (h.block k hk hne)⟩
theorem gb_below (h : w.grownBy w1 (some g)) (hb : Below w1.heap.size w1 w2) : w.grownBy w2 (some g) := ⟨hb.os.trans h.os, hb.tape.trans h.tape, hb.output.trans h.output, Nat.le_trans h.size hb.size, fun k hk hne => (hb.block k (Nat.lt_of_lt_of_le hk h.size)).trans (h.block k hk hne)⟩
theorem gb_trans (h : w.grownBy w1 (some g)) (h2 : w1.grownBy w2 (some g)) : w.grownBy w2 (some g) := ⟨h2.os.trans h.os, h2.tape.trans h.tape, h2.output.trans h.output, Nat.le_trans h.size h2.size, fun k hk hne => (h2.block k (Nat.lt_of_lt_of_le hk h.size) hne).trans (h.block k hk hne)⟩
/-- Tokens stay while the parser's block alone is written. -/
theorem toks_gb {S : Nat → Prop} {v : Value} {ts : List TokD} (h : ToksO w S v ts) (hg : w.grownBy w1 (some g)) (hS : ¬ S g) : ToksO w1 S v ts := Ow.frame framesTok h fun b hb hlt => hg.block b hlt fun e => hS (by cases e; exact hb)
theorem rb_gb {S : Nat → Prop} {v : Value} {l : List Int} (h : RB w S v l) (hg : w.grownBy w1 (some g)) (hS : ¬ S g) : RB w1 S v l := h.frame fun b hb hlt => hg.block b hlt fun e => hS (by cases e; exact hb)
end

set_option maxRecDepth 100000 in
set_option maxHeartbeats 2000000 in
theorem l4fail_r (g : Nat) (lv : Value) (e : Int) (st : PS) (ts : List TokD) (S : Nat → Prop) (w : World) (hp : ParP w g lv e st) (ht : ToksO w S lv ts) (hS : ¬ S g) (hil : st.i ≤ 3000) :
    Calls Tryd.prog 29 #[.pointer (some ⟨g, 0, none⟩)] w fun r w' => r = .returned (.tuple #[]) ∧ w.grownBy w' (some g) ∧ ParP w' g lv e (failS e ts st) := by
  obtain ⟨i, bad, p⟩ := st
  obtain ⟨la, lc, rfl, hlc, hlm⟩ := toks_slice ht
  have HPP : Hid (ParP w g (.slice la ts.length lc) e ⟨i, bad, p⟩) := hp
  have HTK : Hid (ToksO w S (.slice la ts.length lc) ts) := ht
  obtain ⟨q0, q1, q2, q3, q4⟩ := px5 hp
  obtain ⟨qz, hlg⟩ := box8z hp
  simp only at q0 q1 q2 q3 q4 hil
  clear hp ht
  cases bad with
  | true =>
    go_enter Tryd.func29, Tryd.ntmps29
    go_wp2
    exact bodyPost_ret (v := .tuple #[]) (by simp [results, Tryd.results29, go_sem]) rfl ⟨rfl, gb_refl _ _, HPP.out⟩
  | false =>
    have HP2 : Hid (((w.setCell ⟨g, 3, none⟩ (.bool true)).setCell ⟨g, 4, none⟩ (.int .i64 e)).heap[g]? = some (.cells #[.slice la ts.length lc, .int .i64 (i : Int), .int .i64 e, .bool true, .int .i64 e] 54 (0, 0))) := box_set (i := 4) (v := .int .i64 e) (box_set (i := 3) (v := .bool true) HPP.out)
    have HG2 : Hid (w.grownBy ((w.setCell ⟨g, 3, none⟩ (.bool true)).setCell ⟨g, 4, none⟩ (.int .i64 e)) (some g)) := gb_set (gb_set (gb_refl _ _))
    go_enter Tryd.func29, Tryd.ntmps29
    go_upto_region 3 with fail
    generalize ((w.setCell ⟨g, 3, none⟩ (.bool true)).setCell ⟨g, 4, none⟩ (.int .i64 e)) = w2 at HP2 HG2 ⊢
    clear q0 q1 q2 q3 q4 qz hlg
    have HPD : Hid (w2.drew.heap[g]? = _) := HP2.out
    have HGD : Hid (w.grownBy w2.drew (some g)) := gb_below HG2.out (Below.refl _ _).drew
    obtain ⟨q0, q1, q2, q3, q4⟩ := px5 HPD.out
    have hlg : g < w2.drew.heap.size := lt_of_heap HPD.out
    have hlg2 : g < w2.heap.size := lt_of_heap HP2.out
    by_cases hlt : i < ts.length
    · obtain ⟨t, htt⟩ : ∃ t, ts[i]? = some t := ⟨ts[i], List.getElem?_eq_getElem hlt⟩
      have HTD : Hid (ToksO w2.drew.drew S (.slice la ts.length lc) ts) := toks_gb HTK.out (gb_below HGD.out (Below.refl _ _).drew) hS
      obtain ⟨tb, lc', ua, un, uc, hv', htl, hStb, -, -, k0, k1, k2, k3, hrb⟩ := tok_at HTD.out htt
      simp only [Value.slice.injEq, true_and] at hv'
      obtain ⟨rfl, rfl⟩ := hv'
      have HR : Hid (failS e ts ⟨i, false, p⟩ = ⟨i, true, t.p⟩) := by simp [Hid, failS, drop_at htt, failM]
      have hii : (i : Int) < (ts.length : Int) := by omega
      have hdi : decide ((i : Int) < (ts.length : Int)) = true := decide_eq_true hii
      clear htt hrb k0 k2 k3
      refine wp_region_held_drew (S := fun w' => w'.cell? ⟨g, 1, none⟩ = some (.int .i64 (i : Int)) ∧ w'.cell? ⟨g, 0, none⟩ = some (.slice (some ⟨tb, 0, none⟩) ts.length lc)) (by kernel_rfl) (⟨q1, q0⟩) (fun hHeld => (show wpAnyH _ _ _ _ _ 10 #[false, false, false, false, false, false, false, false, false, false] _ _ from ?_))
      refine tq 0 16 hHeld ?_
      refine tq 1 17 hHeld ?_
      refine tq 2 18 hHeld ?_
      refine tq 3 19 hHeld ?_
      refine tq 4 20 hHeld ?_
      refine tq 5 21 hHeld ?_
      refine tq 6 22 hHeld ?_
      refine tq 7 23 hHeld ?_
      refine tq 8 24 hHeld ?_
      refine tq 9 25 hHeld ?_
      refine wpAnyH_done (by kernel_rfl) ?_ _
      go_upto_region 4 with fail
      clear q0 q1 q2 q3 q4
      have HPE : Hid (w2.drew.drew.heap[g]? = _) := HP2.out
      obtain ⟨q0, q1, q2, q3, q4⟩ := px5 HPE.out
      obtain ⟨qz, hlg3⟩ := box8z HPE.out
      have HP3 : Hid ((w2.drew.drew.setCell ⟨g, 4, none⟩ (.int .i64 t.p)).heap[g]? = some (.cells #[.slice (some ⟨tb, 0, none⟩) ts.length lc, .int .i64 (i : Int), .int .i64 e, .bool true, .int .i64 t.p] 54 (0, 0))) := box_set (i := 4) (v := .int .i64 t.p) HPE.out
      have HG3 : Hid (w.grownBy (w2.drew.drew.setCell ⟨g, 4, none⟩ (.int .i64 t.p)) (some g)) := gb_set (gb_below HGD.out (Below.refl _ _).drew)
      refine wpS_begin 12 (S := fun w' => w'.cell? ⟨g, 1, none⟩ = some (.int .i64 (i : Int)) ∧ w'.cell? ⟨g, 0, none⟩ = some (.slice (some ⟨tb, 0, none⟩) ts.length lc) ∧ w'.cell? ⟨tb, i * 4 + 1, none⟩ = some (.int .i64 t.p)) (tabS_of (by kernel_rfl) tab_fail4) (by kernel_rfl) (⟨q1, q0, k1⟩) (fun hTb hHeld => ?_)
      refine tks 0 0 26 hTb hHeld ?_
      refine tks 1 1 27 hTb hHeld ?_
      refine tks 2 2 28 hTb hHeld ?_
      refine tks 3 3 29 hTb hHeld ?_
      refine tks 4 4 30 hTb hHeld ?_
      refine tks 5 5 31 hTb hHeld ?_
      refine tks 6 6 32 hTb hHeld ?_
      refine tks 7 7 33 hTb hHeld ?_
      refine tks 8 8 34 hTb hHeld ?_
      refine tks 9 9 35 hTb hHeld ?_
      refine tks 10 10 36 hTb hHeld ?_
      refine tks 11 11 37 hTb hHeld ?_
      refine wpS_next (S' := fun w' => True) 12 15 hTb (by decide) (trivial) (fun hHeld => ?_)
      refine tks 12 12 38 hTb hHeld ?_
      refine tks 13 13 39 hTb hHeld ?_
      refine cls 14 14 hTb (by decide) rfl rfl (fun K hK => ?_)
      go_simp
      refine hK.out _ _ (trivial) (fun hHeld => ?_)
      clear hK K
      refine wpS_end hTb ?_
      go_wp2
      go_end0
      refine ⟨rfl, HG3.out, ?_⟩
      rw [HR.out]
      exact HP3.out
    · have HR : Hid (failS e ts ⟨i, false, p⟩ = ⟨i, true, e⟩) := by simp [Hid, failS, drop_nil hlt, failM]
      have hii : ¬ (i : Int) < (ts.length : Int) := by omega
      have hdi : decide ((i : Int) < (ts.length : Int)) = false := decide_eq_false hii
      refine wp_region_held_drew (S := fun w' => w'.cell? ⟨g, 1, none⟩ = some (.int .i64 (i : Int)) ∧ w'.cell? ⟨g, 0, none⟩ = some (.slice la ts.length lc)) (by kernel_rfl) (⟨q1, q0⟩) (fun hHeld => (show wpAnyH _ _ _ _ _ 10 #[false, false, false, false, false, false, false, false, false, false] _ _ from ?_))
      refine tq 0 16 hHeld ?_
      refine tq 1 17 hHeld ?_
      refine tq 2 18 hHeld ?_
      refine tq 3 19 hHeld ?_
      refine tq 4 20 hHeld ?_
      refine tq 5 21 hHeld ?_
      refine tq 6 22 hHeld ?_
      refine tq 7 23 hHeld ?_
      refine tq 8 24 hHeld ?_
      refine tq 9 25 hHeld ?_
      refine wpAnyH_done (by kernel_rfl) ?_ _
      go_wp2
      go_end0
      refine ⟨rfl, HGD.out, ?_⟩
      rw [HR.out]
      exact HPD.out

end Go.Proofs.YtlegmiaoablcgaaDoor

/- What joined of package impl does. -/
namespace Go.Proofs.YtlegmiaoablcgaaDoor
open Go.RowKit
set_option maxRecDepth 100000

set_option maxHeartbeats 400000 in
theorem joined_any (v u : Value) (l m : List Int) (w : World) (hv : Bs w v l) (hu : Bs w u m) (hl : l.length ≤ 4000000) (hm : m.length ≤ 4000000) :
    Calls Tryd.prog 87 #[v, u] w fun e w' => ∃ r, e = .returned r ∧ OwnB w' w.heap.size r (l ++ m) ∧ Below w.heap.size w w' := by
  have HV : Hid (Bs w v l) := hv
  have HU : Hid (Bs w u m) := hu
  obtain ⟨ho, a, cap, rfl, -⟩ := hv
  obtain ⟨ho', a', cap', rfl, -⟩ := hu
  obtain ⟨i0, hi, hz0, hz1, hz2⟩ := info_parts info5
  go_enter Tryd.func87, Tryd.ntmps87
  go_wp2_with (at_make; refine wpList_make_full _ rfl _ _ 22 rfl w.heap.size 5 i0 (.int .u8 0) 1 Tryd.underlying22 hi hz0 hz1 _ _ _ _ (l.length + m.length) rfl rfl (by omega) (by omega) (by rw [hz2]; omega) (by unfold maxLen; omega) (Nat.le_refl _) ?_)
  intro w1 hown hgrow
  have hB1 := (Below.refl w.heap.size w).grown hgrow (Nat.le_refl _) (by simp)
  have HR1 : Hid (w1.heap[w.heap.size]? = some (.cells (vals (List.replicate (l.length + m.length) 0)).toArray 5 (0, 0))) := by
    have := made_heap hown
    simpa [Hid, vals] using this
  clear hown hgrow
  go_wp2_with (refine wpList_copy_bytes rfl (.tmp 12) (.tmp 13) 22 22 rfl Tryd.underlying22 sz5 _ _ _ rfl _ l rfl (HV.out.below hB1) l.length (Nat.min_eq_left (Nat.le_add_right _ _)).symm w.heap.size 0 _ HR1.out (fun _ => rfl) (by simp) w.heap.size w hB1 (Nat.le_refl _) ?_)
  intro w2 HR2 hB2
  have hlen : (splice (List.replicate (l.length + m.length) (0 : Int)) 0 l).length = l.length + m.length := by rw [length_splice _ _ _ (by simp)]; simp
  have HL : Hid ((splice (List.replicate (l.length + m.length) (0 : Int)) 0 l).length = l.length + m.length) := hlen
  clear hlen
  have HE : Hid (splice (splice (List.replicate (l.length + m.length) (0 : Int)) 0 l) l.length m = l ++ m) := splice_two _ _ _ (by simp)
  by_cases hm0 : m = []
  · subst hm0
    go_wp2_with (refine wpList_copy_bytes rfl (.tmp 18) (.tmp 19) 22 22 rfl Tryd.underlying22 sz5 _ _ _ rfl _ [] rfl (HU.out.below hB2) 0 (Nat.min_eq_left (Nat.zero_le _)).symm w.heap.size l.length _ HR2.out (fun h => absurd h (by omega)) (by rw [HL.out]; omega) w.heap.size w hB2 (Nat.le_refl _) ?_)
    intro w3 HR3 hB3
    have HR4 : Hid (w3.heap[w.heap.size]? = some (.cells (vals (l ++ [])).toArray 5 (0, 0))) := by
      rw [← HE.out]; simpa using HR3
    clear HR3
    go_wp2
    go_ret
    have := own_made (oct_append ho ho') (by simp [maxLen]; omega) HR4.out
    exact ⟨_, rfl, ⟨_, Nat.le_refl _, by simpa using this⟩, hB3⟩
  · have hm1 : 0 < m.length := List.length_pos_iff.2 hm0
    go_wp2_with (refine wpList_copy_bytes rfl (.tmp 18) (.tmp 19) 22 22 rfl Tryd.underlying22 sz5 _ _ _ rfl _ m rfl (HU.out.below hB2) m.length (Nat.min_eq_left (by omega)).symm w.heap.size l.length _ HR2.out (fun _ => rfl) (by rw [HL.out]; omega) w.heap.size w hB2 (Nat.le_refl _) ?_)
    intro w3 HR3 hB3
    have HR4 : Hid (w3.heap[w.heap.size]? = some (.cells (vals (l ++ m)).toArray 5 (0, 0))) := by
      rw [← HE.out]; exact HR3
    clear HR3
    go_wp2
    go_ret
    have := own_made (oct_append ho ho') (by simp [maxLen]; omega) HR4.out
    exact ⟨_, rfl, ⟨_, Nat.le_refl _, by simpa using this⟩, hB3⟩

theorem joined_r (v u : Value) (l m : List Int) (w : World) (hv : Bs w v l) (hu : Bs w u m) (hl : l.length ≤ 4000000) (hm : m.length ≤ 4000000) :
    Calls Tryd.prog 87 #[v, u] w fun e w' => ∃ r, e = .returned r ∧ Row w' w.heap.size w'.heap.size r (l ++ m) ∧ Below w.heap.size w w' :=
  (joined_any v u l m w hv hu hl hm).mono fun _ _ ⟨u, h1, h2, h3⟩ => ⟨u, h1, h2.toRow, h3⟩

end Go.Proofs.YtlegmiaoablcgaaDoor

/- What giveUp, more, next, name, number of the reader of lines of package impl do: they read, or give up by a panic. -/
namespace Go.Proofs.YtlegmiaoablcgaaDoor
open Go.RowKit
set_option maxRecDepth 100000
set_option linter.unusedVariables false
set_option linter.unusedSimpArgs false

/-- What holds wherever the reader is: where the error lies, and that its block is new and apart. -/
structure Env (w0 : World) (g : Nat) (S : Nat → Prop) (ea : Addr) : Prop where
  gave : Gave w0 ea
  new : w0.heap.size ≤ g
  apart : ¬ S g
theorem Env.ne {w0 : World} {g : Nat} {S : Nat → Prop} {ea : Addr} (h : Env w0 g S ea) : g ≠ 0 := by
  have := h.gave.lt
  have := h.new
  omega

set_option maxRecDepth 100000 in
set_option maxHeartbeats 1000000 in
theorem giveUp_r (g : Nat) (lv tv : Value) (cd pl code p : Int) (ea : Addr) (w : World) (hc : LR w g lv tv cd pl) (hE : Gave w ea) (hne : g ≠ 0) :
    Calls Tryd.prog 38 #[.pointer (some ⟨g, 0, none⟩), .int .i64 code, .int .i64 p] w fun e w' => e = gaveUp ea ∧ Bad w' g code p ∧ w.grownBy w' (some g) := by
  have HB : Hid (Bad ((w.setCell ⟨g, 2, none⟩ (.int .i64 code)).setCell ⟨g, 3, none⟩ (.int .i64 p)) g code p) := ⟨_, _, box_set (i := 3) (v := .int .i64 p) (box_set (i := 2) (v := .int .i64 code) hc)⟩
  have HG : Hid (w.grownBy ((w.setCell ⟨g, 2, none⟩ (.int .i64 code)).setCell ⟨g, 3, none⟩ (.int .i64 p)) (some g)) := gb_set (gb_set (gb_refl _ _))
  have h0 : ((w.setCell ⟨g, 2, none⟩ (.int .i64 code)).setCell ⟨g, 3, none⟩ (.int .i64 p)).cell? ⟨0, 0, none⟩ = _ := hE.gr HG.out hne
  obtain ⟨c0, c1, c2, c3, cz, cl⟩ := tab4 hc
  clear hc hE
  go_enter Tryd.func38, Tryd.ntmps38
  go_wp2
  exact ⟨rfl, rfl, HB.out, HG.out⟩

theorem more_r (g : Nat) (lv tv : Value) (ts : List TokD) (S : Nat → Prop) (w0 w : World) (cd pl : Int) (hc : LR w g lv tv cd pl) (ht : TR w0 w S tv ts) :
    Calls Tryd.prog 37 #[.pointer (some ⟨g, 0, none⟩)] w fun e w' => e = .returned (.bool (decide (0 < ts.length))) ∧ w' = w := by
  obtain ⟨a, cap, rfl, h1, h2⟩ := ht.form
  obtain ⟨c0, c1, c2, c3, cz, cl⟩ := tab4 hc
  clear hc ht
  go_enter Tryd.func37, Tryd.ntmps37
  go_wp2
  go_ret
  exact ⟨by simp, rfl⟩

section
variable {w0 w w1 : World} {g r i : Nat} {S : Nat → Prop} {lv tv v x : Value} {ts : List TokD} {t : TokD}
theorem Rs.setO (h : Rs w0 w g S lv tv ts) (hr : w0.heap.size ≤ r) (hne : g ≠ r) (hS : ¬ S r) : Rs w0 (w.setCell ⟨r, i, none⟩ x) g S lv tv ts :=
  ⟨box_other (k := r) (i := i) (v := x) h.lr hne, h.toks.frame (by rw [box_size]; exact Nat.le_refl _) fun b hb _ => Below.heap_setCell _ _ _ _ (show b ≠ r from fun e => hS (e ▸ hb)), h.bel.setCell (p := ⟨r, i, none⟩) hr _⟩
theorem TX.setO (h : TX w0 w S v t) (hS : ¬ S r) : TX w0 (w.setCell ⟨r, i, none⟩ x) S v t := h.frame fun b hb _ => Below.heap_setCell _ _ _ _ (show b ≠ r from fun e => hS (e ▸ hb))
theorem gb_setN (h : w.grownBy w1 (some g)) (hr : w.heap.size ≤ r) : w.grownBy (w1.setCell ⟨r, i, none⟩ x) (some g) := ⟨h.os, h.tape, h.output, by rw [box_size]; exact h.size, fun k hk hne => (Below.heap_setCell _ _ _ _ (show k ≠ r by omega)).trans (h.block k hk hne)⟩
end
/-- What a step of the reader comes to: a token and where the reader stands behind it, or why it gave up. -/
def NextP (w0 w : World) (g : Nat) (S : Nat → Prop) (lv : Value) (ea : Addr) (r : Except Int (TokD × List TokD)) (e : Ending) (w' : World) : Prop := w.grownBy w' (some g) ∧ match r with
  | .ok p => ∃ a n c tv', e = .returned (.agg #[.int .i64 (sortM p.1.k), .int .i64 p.1.p, .int .i64 p.1.n, .slice a n c]) ∧ Rs w0 w' g S lv tv' p.2 ∧ TX w0 w' S (.slice a n c) p.1
  | .error p => e = gaveUp ea ∧ Bad w' g 3 p

set_option maxRecDepth 100000 in
set_option maxHeartbeats 2000000 in
theorem next_r (g : Nat) (la : Option Addr) (ln lc : Nat) (tv : Value) (ts : List TokD) (S : Nat → Prop) (ea : Addr) (k : Int) (w0 w : World) (hE : Env w0 g S ea) (hr : Rs w0 w g S (.slice la ln lc) tv ts) (hok : ∀ t ∈ ts, OkT t) (hk : 1 ≤ k ∧ k ≤ 5) (hS : ∀ b, S b → b < w.heap.size) (hln : ln ≤ 2000) :
    Calls Tryd.prog 67 #[.pointer (some ⟨g, 0, none⟩), .int .i64 (sortM k)] w (NextP w0 w g S (.slice la ln lc) ea (nextM ln k ts)) := by
  obtain ⟨res, hres⟩ : ∃ res, res = nextM ln k ts := ⟨_, rfl⟩
  have HRES : Hid (res = nextM ln k ts) := hres
  rw [← hres]
  clear hres
  have HR : Hid (Rs w0 w g S (.slice la ln lc) tv ts) := hr
  have HEN : Hid (Env w0 g S ea) := hE
  have hgl : g < w.heap.size := lt_of_heap hr.lr
  have AB : Below w.heap.size w (w.alloc (.cells #[.int .i64 0, .int .i64 0, .int .i64 0, .slice none 0 0] 74)) := (Below.refl _ _).alloc (Nat.le_refl _) _
  have HR1 : Hid (Rs w0 (w.alloc (.cells #[.int .i64 0, .int .i64 0, .int .i64 0, .slice none 0 0] 74)) g S (.slice la ln lc) tv ts) := hr.below AB
  have HG1 : Hid (w.grownBy (w.alloc (.cells #[.int .i64 0, .int .i64 0, .int .i64 0, .slice none 0 0] 74)) (some g)) := gb_below (gb_refl _ _) AB
  have HK1 : Hid ((w.alloc (.cells #[.int .i64 0, .int .i64 0, .int .i64 0, .slice none 0 0] 74)).heap[w.heap.size]? = some (.cells #[.int .i64 0, .int .i64 0, .int .i64 0, .slice none 0 0] 74 (0, 0))) := box_new _ _
  have hs1 : (w.alloc (.cells #[.int .i64 0, .int .i64 0, .int .i64 0, .slice none 0 0] 74)).heap.size = w.heap.size + 1 := by simp
  clear AB hr hE
  go_enter Tryd.func67, Tryd.ntmps67
  go_upto_region 1 with fail
  generalize (w.alloc (.cells #[.int .i64 0, .int .i64 0, .int .i64 0, .slice none 0 0] 74)) = w1 at HR1 HG1 HK1 hs1 ⊢
  have hs1' : w.heap.size + 1 ≤ w1.heap.size := by omega
  have Hs1 : Hid (w1.heap.size = w.heap.size + 1) := hs1
  clear hs1
  go_wp2_with fail
  refine (more_r g _ tv ts S w0 w1 0 0 HR1.out.lr HR1.out.toks).mono ?_
  rintro e w1 ⟨rfl, rfl⟩
  obtain ⟨c0, c1, c2, c3, cz, cl⟩ := tab4 HR1.out.lr
  cases ts with
  | nil =>
    have HRE : Hid (res = .error (ln : Int)) := HRES.out
    go_wp2_with fail
    refine (giveUp_r g _ tv 0 0 3 ln ea _ HR1.out.lr (HEN.out.gave.below HR1.out.bel) HEN.out.ne).mono ?_
    rintro e w3 ⟨rfl, hb, hG⟩
    have HF : Hid (Bad w3 g 3 ln ∧ w.grownBy w3 (some g)) := ⟨hb, gb_trans HG1.out hG⟩
    go_wp2
    refine ⟨rfl, ?_⟩
    rw [HRE.out]
    exact ⟨HF.out.2, rfl, HF.out.1⟩
  | cons t ts =>
    obtain ⟨b, off, cap, xa, xn, xk, rfl, h1, h2, hb, hSb, f0, f1, f2, f3, hX, hT, hT0⟩ := HR1.out.toks.head
    have HX : Hid (TX w0 w1 S (.slice xa xn xk) t) := hX
    have HTT : Hid (TR w0 w1 S (.slice (some ⟨b, off + 4, none⟩) ts.length (cap - 1)) ts ∧ (ts.length = 0 → TR w0 w1 S (.slice (some ⟨b, off, none⟩) ts.length (cap - 1)) ts)) := ⟨hT, hT0⟩
    have hbw := hS b hSb
    have htk := hok t (by simp)
    clear hX hT hT0
    have AB : Below w1.heap.size w1 (w1.alloc (.cells #[.int .i64 (sortM t.k), .int .i64 t.p, .int .i64 t.n, .slice xa xn xk] 74)) := (Below.refl _ _).alloc (Nat.le_refl _) _
    have HR2 : Hid (Rs w0 (w1.alloc (.cells #[.int .i64 (sortM t.k), .int .i64 t.p, .int .i64 t.n, .slice xa xn xk] 74)) g S (.slice la ln lc) _ (t :: ts)) := HR1.out.below AB
    have HG2 : Hid (w.grownBy (w1.alloc (.cells #[.int .i64 (sortM t.k), .int .i64 t.p, .int .i64 t.n, .slice xa xn xk] 74)) (some g)) := gb_below HG1.out AB
    have HK2 : Hid ((w1.alloc (.cells #[.int .i64 (sortM t.k), .int .i64 t.p, .int .i64 t.n, .slice xa xn xk] 74)).heap[w.heap.size]? = some (.cells #[.int .i64 0, .int .i64 0, .int .i64 0, .slice none 0 0] 74 (0, 0))) := box_below AB HK1.out
    have HN2 : Hid ((w1.alloc (.cells #[.int .i64 (sortM t.k), .int .i64 t.p, .int .i64 t.n, .slice xa xn xk] 74)).heap[w1.heap.size]? = some (.cells #[.int .i64 (sortM t.k), .int .i64 t.p, .int .i64 t.n, .slice xa xn xk] 74 (0, 0))) := box_new _ _
    have HX2 : Hid (TX w0 (w1.alloc (.cells #[.int .i64 (sortM t.k), .int .i64 t.p, .int .i64 t.n, .slice xa xn xk] 74)) S (.slice xa xn xk) t) := HX.out.frame fun b _ hl => AB.block b hl
    have HT2 : Hid (TR w0 (w1.alloc (.cells #[.int .i64 (sortM t.k), .int .i64 t.p, .int .i64 t.n, .slice xa xn xk] 74)) S (.slice (some ⟨b, off + 4, none⟩) ts.length (cap - 1)) ts ∧ (ts.length = 0 → TR w0 (w1.alloc (.cells #[.int .i64 (sortM t.k), .int .i64 t.p, .int .i64 t.n, .slice xa xn xk] 74)) S (.slice (some ⟨b, off, none⟩) ts.length (cap - 1)) ts)) := ⟨HTT.out.1.below AB, fun h => (HTT.out.2 h).below AB⟩
    have hs2 : (w1.alloc (.cells #[.int .i64 (sortM t.k), .int .i64 t.p, .int .i64 t.n, .slice xa xn xk] 74)).heap.size = w1.heap.size + 1 := by simp
    clear AB
    go_upto_region 4 with fail
    generalize (w1.alloc (.cells #[.int .i64 (sortM t.k), .int .i64 t.p, .int .i64 t.n, .slice xa xn xk] 74)) = w2 at HR2 HG2 HK2 HN2 HX2 HT2 hs2 ⊢
    have hs2' : w1.heap.size + 1 ≤ w2.heap.size := by omega
    clear hs2 f0 f1 f2 f3 c0 c1 c2 c3 cz cl HR1 HG1 HK1 HX HTT
    obtain ⟨c0, c1, c2, c3, cz, cl⟩ := tab4 HR2.out.lr
    obtain ⟨m0, m1, m2, m3, mz, ml⟩ := tab4 HN2.out
    by_cases hkk : t.k = k
    · subst hkk
      have hsk : (sortM t.k != sortM t.k) = false := by simp
      have HRE : Hid (res = .ok (t, ts)) := by show _ = _; rw [HRES.out]; simp [nextM]
      have hcap : ts.length ≤ cap - 1 := by omega
      have hT : TR w0 w2 S (.slice (if cap = 1 then some ⟨b, off, none⟩ else some ⟨b, off + 4, none⟩) ts.length (cap - 1)) ts := by
        by_cases hc1 : cap = 1
        · rw [if_pos hc1]; exact HT2.out.2 (by omega)
        · rw [if_neg hc1]; exact HT2.out.1
      have hA := HEN.out.apart
      have hold := HEN.out.new
      have hGs : w2.grownBy (w2.setCell ⟨g, 1, none⟩ (.slice (if cap = 1 then some ⟨b, off, none⟩ else some ⟨b, off + 4, none⟩) ts.length (cap - 1))) (some g) := gb_set (gb_refl _ _)
      have HR3 : Hid (Rs w0 (w2.setCell ⟨g, 1, none⟩ (.slice (if cap = 1 then some ⟨b, off, none⟩ else some ⟨b, off + 4, none⟩) ts.length (cap - 1))) g S (.slice la ln lc) (.slice (if cap = 1 then some ⟨b, off, none⟩ else some ⟨b, off + 4, none⟩) ts.length (cap - 1)) ts) := ⟨box_set (i := 1) (v := (.slice (if cap = 1 then some ⟨b, off, none⟩ else some ⟨b, off + 4, none⟩) ts.length (cap - 1))) HR2.out.lr, hT.gb hGs hA, HR2.out.bel.setCell (p := ⟨g, 1, none⟩) hold _⟩
      have HG3 : Hid (w.grownBy (w2.setCell ⟨g, 1, none⟩ (.slice (if cap = 1 then some ⟨b, off, none⟩ else some ⟨b, off + 4, none⟩) ts.length (cap - 1))) (some g)) := gb_set HG2.out
      have HX3 : Hid (TX w0 (w2.setCell ⟨g, 1, none⟩ (.slice (if cap = 1 then some ⟨b, off, none⟩ else some ⟨b, off + 4, none⟩) ts.length (cap - 1))) S (.slice xa xn xk) t) := HX2.out.frame fun b' hb' hl => hGs.block b' hl (fun e => hA (by cases e; exact hb'))
      have HK3 : Hid ((w2.setCell ⟨g, 1, none⟩ (.slice (if cap = 1 then some ⟨b, off, none⟩ else some ⟨b, off + 4, none⟩) ts.length (cap - 1))).heap[w.heap.size]? = some (.cells #[.int .i64 0, .int .i64 0, .int .i64 0, .slice none 0 0] 74 (0, 0))) := box_other (k := g) (i := 1) HK2.out (by omega)
      have HN3 : Hid ((w2.setCell ⟨g, 1, none⟩ (.slice (if cap = 1 then some ⟨b, off, none⟩ else some ⟨b, off + 4, none⟩) ts.length (cap - 1))).heap[w1.heap.size]? = some (.cells #[.int .i64 (sortM t.k), .int .i64 t.p, .int .i64 t.n, .slice xa xn xk] 74 (0, 0))) := box_other (k := g) (i := 1) HN2.out (by omega)
      clear hT hGs
      go_upto_region 7 with fail
      generalize (w2.setCell ⟨g, 1, none⟩ (.slice (if cap = 1 then some ⟨b, off, none⟩ else some ⟨b, off + 4, none⟩) ts.length (cap - 1))) = w3 at HR3 HG3 HX3 HK3 HN3 ⊢
      generalize (Value.slice (if cap = 1 then some ⟨b, off, none⟩ else some ⟨b, off + 4, none⟩) ts.length (cap - 1)) = tv' at HR3 ⊢
      clear c0 c1 c2 c3 cz cl m0 m1 m2 m3 mz ml HR2 HG2 HX2 HK2 HN2 HT2
      obtain ⟨c0, c1, c2, c3, cz, cl⟩ := tab4 HK3.out
      obtain ⟨m0, m1, m2, m3, mz, ml⟩ := tab4 HN3.out
      have hnS : ¬ S w.heap.size := fun h => absurd (hS _ h) (by omega)
      have hge : g ≠ w.heap.size := by omega
      have h00 : w0.heap.size ≤ w.heap.size := HR.out.bel.size
      have HF : Hid (Rs w0 ((((w3.setCell ⟨w.heap.size, 0, none⟩ (.int .i64 (sortM t.k))).setCell ⟨w.heap.size, 1, none⟩ (.int .i64 t.p)).setCell ⟨w.heap.size, 2, none⟩ (.int .i64 t.n)).setCell ⟨w.heap.size, 3, none⟩ (.slice xa xn xk)) g S (.slice la ln lc) tv' ts ∧ w.grownBy ((((w3.setCell ⟨w.heap.size, 0, none⟩ (.int .i64 (sortM t.k))).setCell ⟨w.heap.size, 1, none⟩ (.int .i64 t.p)).setCell ⟨w.heap.size, 2, none⟩ (.int .i64 t.n)).setCell ⟨w.heap.size, 3, none⟩ (.slice xa xn xk)) (some g) ∧ TX w0 ((((w3.setCell ⟨w.heap.size, 0, none⟩ (.int .i64 (sortM t.k))).setCell ⟨w.heap.size, 1, none⟩ (.int .i64 t.p)).setCell ⟨w.heap.size, 2, none⟩ (.int .i64 t.n)).setCell ⟨w.heap.size, 3, none⟩ (.slice xa xn xk)) S (.slice xa xn xk) t) := ⟨(((HR3.out.setO h00 hge hnS).setO h00 hge hnS).setO h00 hge hnS).setO h00 hge hnS, gb_setN (gb_setN (gb_setN (gb_setN HG3.out (Nat.le_refl _)) (Nat.le_refl _)) (Nat.le_refl _)) (Nat.le_refl _), (((HX3.out.setO hnS).setO hnS).setO hnS).setO hnS⟩
      have HKF : Hid (((((w3.setCell ⟨w.heap.size, 0, none⟩ (.int .i64 (sortM t.k))).setCell ⟨w.heap.size, 1, none⟩ (.int .i64 t.p)).setCell ⟨w.heap.size, 2, none⟩ (.int .i64 t.n)).setCell ⟨w.heap.size, 3, none⟩ (.slice xa xn xk)).heap[w.heap.size]? = some (.cells #[.int .i64 (sortM t.k), .int .i64 t.p, .int .i64 t.n, .slice xa xn xk] 74 (0, 0))) := box_set (i := 3) (box_set (i := 2) (box_set (i := 1) (box_set (i := 0) HK3.out)))
      go_wp2
      obtain ⟨f0, f1, f2, f3⟩ := tx4 HKF.out
      refine bodyPost_ret (v := .agg #[.int .i64 (sortM t.k), .int .i64 t.p, .int .i64 t.n, .slice xa xn xk]) (by simp [results, Tryd.results67, go_sem, f0, f1, f2, f3]) rfl ?_
      rw [HRE.out]
      exact ⟨HF.out.2.1, _, _, _, _, rfl, HF.out.1, HF.out.2.2⟩
    · have hsk : (sortM t.k != sortM k) = true := by
        have := sort_eq ⟨htk.1, htk.2.1⟩ hk
        simp [this, hkk]
      have HRE : Hid (res = .error t.p) := by show _ = _; rw [HRES.out]; simp [nextM, hkk]
      go_wp2_with fail
      refine (giveUp_r g _ _ 0 0 3 t.p ea _ HR2.out.lr (HEN.out.gave.below HR2.out.bel) HEN.out.ne).mono ?_
      rintro e w3 ⟨rfl, hb, hG⟩
      have HF : Hid (Bad w3 g 3 t.p ∧ w.grownBy w3 (some g)) := ⟨hb, gb_trans HG2.out hG⟩
      go_wp2
      refine ⟨rfl, ?_⟩
      rw [HRE.out]
      exact ⟨HF.out.2, rfl, HF.out.1⟩

theorem run_field3 (a b c : Int) (x : Option Addr) (y z : Nat) (w : World) : (Instr.field 74 (.agg #[.int .i64 a, .int .i64 b, .int .i64 c, .slice x y z]) 3).run Tryd.prog w = .ok (.slice x y z) w := by kernel_rfl
theorem run_field2 (a b c : Int) (x : Option Addr) (y z : Nat) (w : World) : (Instr.field 74 (.agg #[.int .i64 a, .int .i64 b, .int .i64 c, .slice x y z]) 2).run Tryd.prog w = .ok (.int .i64 c) w := by kernel_rfl
/-- Tokens taken of a list leave its others. -/
theorem next_mem {e k : Int} {ts : List TokD} {p : TokD × List TokD} (h : nextM e k ts = .ok p) : (∀ t ∈ p.2, t ∈ ts) ∧ p.1 ∈ ts ∧ p.1.k = k := by
  cases ts with
  | nil => simp [nextM] at h
  | cons t r =>
    simp only [nextM] at h
    split at h
    · rename_i hk
      cases h
      exact ⟨fun t ht => by simp [ht], by simp, hk⟩
    · cases h
theorem gave_gb {w w' : World} {ea : Addr} {g : Nat} (h : Gave w ea) (hg : w.grownBy w' (some g)) (hne : g ≠ 0) : Gave w' ea := h.gr hg hne
/-- What name comes to. -/
def NameP (w0 w : World) (g : Nat) (S : Nat → Prop) (lv : Value) (ea : Addr) (r : Except Int (TokD × List TokD)) (e : Ending) (w' : World) : Prop := w.grownBy w' (some g) ∧ match r with
  | .ok p => ∃ u tv', e = .returned u ∧ Rs w0 w' g S lv tv' p.2 ∧ Row w' w.heap.size w'.heap.size u p.1.tx
  | .error p => e = gaveUp ea ∧ Bad w' g 3 p

set_option maxRecDepth 100000 in
set_option maxHeartbeats 2000000 in
theorem name_r (g : Nat) (la : Option Addr) (ln lc : Nat) (tv : Value) (ts : List TokD) (S : Nat → Prop) (ea : Addr) (w0 w : World) (hE : Env w0 g S ea) (hr : Rs w0 w g S (.slice la ln lc) tv ts) (hok : ∀ t ∈ ts, OkT t) (hS : ∀ b, S b → b < w.heap.size) (hln : ln ≤ 2000) :
    Calls Tryd.prog 75 #[.pointer (some ⟨g, 0, none⟩)] w (NameP w0 w g S (.slice la ln lc) ea (nextM ln 2 ts)) := by
  have hn := next_r g la ln lc tv ts S ea 2 w0 w hE hr hok (by omega) hS hln
  rw [show sortM 2 = 1 from rfl] at hn
  cases hres : nextM ln 2 ts with
  | error p =>
    rw [hres] at hn
    clear hres hr
    go_enter Tryd.func75, Tryd.ntmps75
    go_wp2_with fail
    refine hn.mono ?_
    rintro e w1 ⟨hG, rfl, hb⟩
    have HF : Hid (w.grownBy w1 (some g) ∧ Bad w1 g 3 p) := ⟨hG, hb⟩
    clear hG hb
    go_wp2
    exact ⟨rfl, HF.out.1, rfl, HF.out.2⟩
  | ok p =>
    have hm := next_mem hres
    have ht := hok p.1 hm.2.1
    rw [hres] at hn
    have h5 : p.1.k ≠ 5 := by rw [hm.2.2]; decide
    clear hres hr
    obtain ⟨⟨tk, tp, tn, tx⟩, ts'⟩ := p
    simp only at h5 ht
    clear hm
    go_enter Tryd.func75, Tryd.ntmps75
    go_wp2_with fail
    refine hn.mono ?_
    rintro e w1 ⟨hG, a, n, c, tv', rfl, hR, hX⟩
    simp only at hR hX
    have hfd := fun w' => run_field3 (sortM tk) tp tn a n c w'
    have hbs : Bs w1 (.slice a n c) tx := hX.2 h5 w1 hR.bel
    have HG : Hid (w.grownBy w1 (some g)) := hG
    have HR : Hid (Rs w0 w1 g S (.slice la ln lc) tv' ts') := hR
    have HB : Hid (Bs w1 (.slice a n c) tx) := hbs
    have hlt : tx.length ≤ 2000 := ht.2.2.2.2.1
    clear hG hR hX hbs
    go_wp2_with fail
    refine (joined_r _ _ tx [] w1 HB.out (bs_nil _) (by omega) (by simp)).mono ?_
    rintro e w2 ⟨u, rfl, hrow, hB2⟩
    rw [List.append_nil] at hrow
    have HF : Hid (w.grownBy w2 (some g) ∧ Rs w0 w2 g S (.slice la ln lc) tv' ts' ∧ Row w2 w.heap.size w2.heap.size u tx) := ⟨gb_below HG.out hB2, HR.out.below hB2, hrow.wide HG.out.size (Nat.le_refl _)⟩
    obtain ⟨ua, un, uc, hu⟩ := (Row.bs hrow).form3
    subst hu
    clear hrow hB2
    go_wp2
    go_ret
    exact ⟨HF.out.1, _, _, rfl, HF.out.2.1, HF.out.2.2⟩

/-- What number comes to. -/
def NumP (w0 w : World) (g : Nat) (S : Nat → Prop) (lv : Value) (ea : Addr) (r : Except Int (TokD × List TokD)) (e : Ending) (w' : World) : Prop := w.grownBy w' (some g) ∧ match r with
  | .ok p => ∃ tv', e = .returned (.int .i64 p.1.n) ∧ Rs w0 w' g S lv tv' p.2
  | .error p => e = gaveUp ea ∧ Bad w' g 3 p
theorem take_next (e k least : Int) (ts : List TokD) : takeM e k least ts = match nextM e k ts with
    | .error p => .error p
    | .ok p => if k = 3 → least ≤ p.1.n then .ok p else .error p.1.p := by
  cases ts with
  | nil => rfl
  | cons t r =>
    simp only [takeM, nextM]
    by_cases h : t.k = k
    · simp [h]
    · simp [h]

set_option maxRecDepth 100000 in
set_option maxHeartbeats 2000000 in
theorem number_r (g : Nat) (la : Option Addr) (ln lc : Nat) (tv : Value) (ts : List TokD) (S : Nat → Prop) (ea : Addr) (least : Int) (w0 w : World) (hE : Env w0 g S ea) (hr : Rs w0 w g S (.slice la ln lc) tv ts) (hok : ∀ t ∈ ts, OkT t) (hS : ∀ b, S b → b < w.heap.size) (hln : ln ≤ 2000) :
    Calls Tryd.prog 78 #[.pointer (some ⟨g, 0, none⟩), .int .i64 least] w (NumP w0 w g S (.slice la ln lc) ea (takeM ln 3 least ts)) := by
  have hn := next_r g la ln lc tv ts S ea 3 w0 w hE hr hok (by omega) hS hln
  have HEN : Hid (Env w0 g S ea) := hE
  rw [show sortM 3 = 0 from rfl] at hn
  rw [take_next]
  cases hres : nextM ln 3 ts with
  | error p =>
    rw [hres] at hn
    clear hres hr
    go_enter Tryd.func78, Tryd.ntmps78
    go_wp2_with fail
    refine hn.mono ?_
    rintro e w1 ⟨hG, rfl, hb⟩
    have HF : Hid (w.grownBy w1 (some g) ∧ Bad w1 g 3 p) := ⟨hG, hb⟩
    clear hG hb
    go_wp2
    exact ⟨rfl, HF.out.1, rfl, HF.out.2⟩
  | ok p =>
    rw [hres] at hn
    clear hres hr
    obtain ⟨⟨tk, tp, tn, tx⟩, ts'⟩ := p
    show Calls _ _ _ _ (NumP w0 w g S (.slice la ln lc) ea (if (3 : Int) = 3 → least ≤ tn then .ok (⟨tk, tp, tn, tx⟩, ts') else .error tp))
    obtain ⟨res, hres⟩ : ∃ res : Except Int (TokD × List TokD), res = if (3 : Int) = 3 → least ≤ tn then .ok (⟨tk, tp, tn, tx⟩, ts') else .error tp := ⟨_, rfl⟩
    have HRES : Hid (res = if (3 : Int) = 3 → least ≤ tn then .ok (⟨tk, tp, tn, tx⟩, ts') else .error tp) := hres
    rw [← hres]
    clear hres
    go_enter Tryd.func78, Tryd.ntmps78
    go_wp2_with fail
    refine hn.mono ?_
    rintro e w1 ⟨hG, a, n, c, tv', rfl, hR, -⟩
    simp only at hR
    have AB : Below w1.heap.size w1 (w1.alloc (.cells #[.int .i64 (sortM tk), .int .i64 tp, .int .i64 tn, .slice a n c] 74)) := (Below.refl _ _).alloc (Nat.le_refl _) _
    have HG : Hid (w.grownBy (w1.alloc (.cells #[.int .i64 (sortM tk), .int .i64 tp, .int .i64 tn, .slice a n c] 74)) (some g)) := gb_below hG AB
    have HR : Hid (Rs w0 (w1.alloc (.cells #[.int .i64 (sortM tk), .int .i64 tp, .int .i64 tn, .slice a n c] 74)) g S (.slice la ln lc) tv' ts') := hR.below AB
    have HK : Hid ((w1.alloc (.cells #[.int .i64 (sortM tk), .int .i64 tp, .int .i64 tn, .slice a n c] 74)).heap[w1.heap.size]? = some (.cells #[.int .i64 (sortM tk), .int .i64 tp, .int .i64 tn, .slice a n c] 74 (0, 0))) := box_new _ _
    clear hG hR AB
    go_upto_region 2 with fail
    generalize (w1.alloc (.cells #[.int .i64 (sortM tk), .int .i64 tp, .int .i64 tn, .slice a n c] 74)) = w2 at HG HR HK ⊢
    obtain ⟨c0, c1, c2, c3, cz, cl⟩ := tab4 HK.out
    by_cases hle : tn < least
    · have HRE : Hid (res = .error tp) := by show _ = _; rw [HRES.out, if_neg (by simp; omega)]
      go_wp2_with fail
      refine (giveUp_r g _ tv' 0 0 3 tp ea _ HR.out.lr (HEN.out.gave.below HR.out.bel) HEN.out.ne).mono ?_
      rintro e w3 ⟨rfl, hb, hG⟩
      have HF : Hid (Bad w3 g 3 tp ∧ w.grownBy w3 (some g)) := ⟨hb, gb_trans HG.out hG⟩
      clear hb hG
      go_wp2
      refine ⟨rfl, ?_⟩
      rw [HRE.out]
      exact ⟨HF.out.2, rfl, HF.out.1⟩
    · have HRE : Hid (res = .ok (⟨tk, tp, tn, tx⟩, ts')) := by show _ = _; rw [HRES.out, if_pos (by intro; omega)]
      go_wp2
      go_ret
      rw [HRE.out]
      exact ⟨HG.out, _, rfl, HR.out⟩

end Go.Proofs.YtlegmiaoablcgaaDoor

/- What cut of the reader of lines of package impl does. -/
namespace Go.Proofs.YtlegmiaoablcgaaDoor
open Go.RowKit
set_option maxRecDepth 100000
set_option linter.unusedVariables false
set_option linter.unusedSimpArgs false

theorem tab_cut7 : (Tryd.f34.body.bind (opsAt 7)).all (fun o => tableS o 11 [0, 1, 2, 3, 4, 5, 6, 7, 8, 9, 10] [6, 7, 10] [8, 11] 11) = true := by kernel_rfl
/-- What cut comes to. -/
def CutP (w0 w : World) (g : Nat) (lv : Value) (ea : Addr) (r : Except Int (List TokD)) (e : Ending) (w' : World) : Prop := w.grownBy w' (some g) ∧ match r with
  | .ok ts => ∃ tv, e = .returned (.tuple #[]) ∧ LR w' g lv tv 0 0 ∧ ToksI w0 w' (In w.heap.size w'.heap.size) tv ts
  | .error p => e = gaveUp ea ∧ Bad w' g 2 p

set_option maxRecDepth 100000 in
set_option maxHeartbeats 4000000 in
theorem cut_r (g : Nat) (lv : Value) (l : List Int) (ea : Addr) (w0 w : World) (hv : Bs w0 lv l) (hw0 : Below w0.heap.size w0 w) (hE : Gave w0 ea) (hold : w0.heap.size ≤ g) (hr : LR w g lv (.slice none 0 0) 0 0) (hl : l.length ≤ 2000) (ht : Tab10 w0) (he : Errs w0) :
    Calls Tryd.prog 34 #[.pointer (some ⟨g, 0, none⟩)] w (CutP w0 w g lv ea (lexM (l.length + 1) 0 l)) := by
  obtain ⟨res, hres⟩ : ∃ res, res = lexM (l.length + 1) 0 l := ⟨_, rfl⟩
  have HRES : Hid (res = lexM (l.length + 1) 0 l) := hres
  rw [← hres]
  clear hres
  have HV : Hid (Bs w0 lv l) := hv
  have HEE : Hid (Gave w0 ea ∧ Tab10 w0 ∧ Errs w0) := ⟨hE, ht, he⟩
  have hgl : g < w.heap.size := lt_of_heap hr
  have h00 := hw0.size
  have hneg : g ≠ 0 := by have := hE.lt; omega
  obtain ⟨ho, la, lc, rfl, hlc, hcm, hnil, hcells⟩ := hv
  unfold maxLen at hcm
  have HCC : Hid (∀ k, k < l.length → ∃ b off, la = some ⟨b, off, none⟩ ∧ b < w0.heap.size ∧ w0.cell? ⟨b, off + k, none⟩ = some (.int .u8 (l.getD k 0))) := fun k hk => let ⟨b, off, e, h1, h2⟩ := hcells (by omega); ⟨b, off, e, h1, h2 k hk⟩
  have HO : Hid (Oct l) := ho
  have HR : Hid (LR w g (.slice la l.length lc) (.slice none 0 0) 0 0) := hr
  obtain ⟨i0, hi, hz0, hz1, hz2⟩ := info_parts infoTokI
  clear hcells hr
  go_enter Tryd.func34, Tryd.ntmps34
  go_wp2
  go_loopw [2] (fun iv wr => ∃ (k f : Nat) (ts : List TokD) (va : Option Addr) (vn vc : Nat), k ≤ l.length ∧ l.length - k < f ∧ ts.length ≤ k ∧ iv = .int .i64 k ∧ Hid (res = preM ts (lexM f k (l.drop k))) ∧ Hid (LR wr g (.slice la l.length lc) (.slice va vn vc) 0 0) ∧ Hid (ToksI w0 wr (In w.heap.size wr.heap.size) (.slice va vn vc) ts) ∧ Hid (w.grownBy wr (some g)) ∧ Hid (Below w0.heap.size w0 wr)) (fun iv _ => l.length - (intOf iv).toNat)
  case atStart => exact ⟨0, l.length + 1, [], none, 0, 0, Nat.zero_le _, by omega, Nat.zero_le _, rfl, by show _ = _; rw [preM_nil]; exact HRES.out, HR, .inl ⟨rfl, rfl⟩, gb_refl _ _, hw0⟩
  case round =>
    obtain ⟨k, f, ts, va, vn, vc, hk, hf, htl, rfl, HRR, HL, HT, HG, HB⟩ := hrel
    have hwr := HG.out.size
    obtain ⟨c0, c1, c2, c3, cz, cl⟩ := tab4 HL.out
    by_cases hlt : k < l.length
    · obtain ⟨b, off, rfl, hlb, hyc⟩ := HCC.out k hlt
      have hyo := oct_get HO.out k
      have HDR : Hid (l.drop k = l.getD k 0 :: l.drop (k + 1)) := drop_cons hlt
      have hki : (k : Int) < (l.length : Int) := by omega
      obtain ⟨f', rfl⟩ : ∃ f', f = f' + 1 := ⟨f - 1, by omega⟩
      generalize l.getD k 0 = y at hyc hyo HDR
      have hyr : wr.cell? ⟨b, off + k, none⟩ = some (.int .u8 y) := (HB.out.cell (p := ⟨b, off + k, none⟩) hlb).trans hyc
      have hlbr : b < wr.heap.size := by omega
      by_cases hy : y = 32
      · subst hy
        have HR2 : Hid (res = preM ts (lexM f' ((k + 1 : Nat) : Int) (l.drop (k + 1)))) := by
          show _ = _
          rw [HRR.out, HDR.out, lexM, if_pos rfl]
          rfl
        go_wp2
        go_roundw
        case rel => exact ⟨k + 1, f', ts, va, vn, vc, by omega, by omega, by omega, by go_num, HR2, HL, HT, HG, HB⟩
        case measure => simp [intOf]; omega
      · have hy1 : (y == 32) = false := by simp [hy]
        have HRL : Hid (lexM (f' + 1) k (l.drop k) = match oneM k (l.drop k) with
            | none => .error (k : Int)
            | some p => match lexM f' (k + ((l.drop k).length - p.2.length)) p.2 with
              | .ok ts => .ok (p.1 :: ts)
              | .error e => .error e) := by
          show _ = _
          rw [HDR.out, lexM, if_neg hy]
          rfl
        go_wp2_with fail
        refine (tokenAt_r _ l k w0 wr HV.out HB.out hlt hl HEE.out.2.1 HEE.out.2.2).mono ?_
        rintro e w1 ⟨B1, hP⟩
        have HL1 : Hid (LR w1 g _ _ 0 0) := box_below B1 HL.out
        have HG1 : Hid (w.grownBy w1 (some g)) := gb_below HG.out B1
        have HB1 : Hid (Below w0.heap.size w0 w1) := Below.step HB.out B1
        have hw1 : wr.heap.size ≤ w1.heap.size := B1.size
        cases hone : oneM k (l.drop k) with
        | none =>
          rw [hone] at hP
          obtain ⟨d0, d1, d2, ua, un, uc, rfl⟩ := hP
          have HRE : Hid (res = .error (k : Int)) := by
            show _ = _
            rw [HRR.out, HRL.out, hone]
            rfl
          clear B1 hone
          go_wp2_with fail
          have AB : Below w1.heap.size w1 (w1.alloc (.cells #[.int .i64 d0, .int .i64 d1, .int .i64 d2, .slice ua un uc] 74)) := (Below.refl _ _).alloc (Nat.le_refl _) _
          refine (giveUp_r g _ _ 0 0 2 k ea _ (box_below AB HL1.out) (HEE.out.1.below (Below.step HB1.out AB)) hneg).mono ?_
          rintro e w3 ⟨rfl, hb, hG⟩
          have HF : Hid (Bad w3 g 2 k ∧ w.grownBy w3 (some g)) := ⟨hb, gb_trans (gb_below HG1.out AB) hG⟩
          clear hb hG AB
          go_wp2
          refine ⟨rfl, ?_⟩
          rw [HRE.out]
          exact ⟨HF.out.2, rfl, HF.out.1⟩
        | some p =>
          rw [hone] at hP
          obtain ⟨ua, un, uc, rfl, hX⟩ := hP
          obtain ⟨hsuf, -⟩ := oneM_suf hone
          obtain ⟨K, hK⟩ : ∃ K, K = l.length - p.2.length := ⟨_, rfl⟩
          have hsl := hsuf.length_le
          rw [List.length_drop] at hsl
          have hp2 : p.2 = l.drop K := by rw [hK]; exact List.suffix_iff_eq_drop.1 (hsuf.trans (List.drop_suffix k l))
          have hlen : p.2.length < (l.drop k).length := oneM_less hone
          rw [List.length_drop] at hlen
          have HRN : Hid (res = preM (ts ++ [p.1]) (lexM f' (K : Int) (l.drop K))) := by
            show _ = _
            rw [preM_snoc, HRR.out, HRL.out, hone]
            simp only
            rw [show (k : Int) + (((l.drop k).length : Int) - (p.2.length : Int)) = (K : Int) by rw [List.length_drop]; omega, ← hp2]
            all_goals (cases lexM f' (K : Int) p.2 <;> rfl)
          rw [← hK]
          generalize hpk : p.1 = t at HRN hX
          have hKl : k < K ∧ K ≤ l.length := by omega
          have hKn : ¬ ((K : Int) < 0) := by omega
          have AB : Below w1.heap.size w1 (w1.alloc (.cells #[.int .i64 (sortM t.k), .int .i64 t.p, .int .i64 t.n, .slice ua un uc] 74)) := (Below.refl _ _).alloc (Nat.le_refl _) _
          have HL2 : Hid (LR (w1.alloc (.cells #[.int .i64 (sortM t.k), .int .i64 t.p, .int .i64 t.n, .slice ua un uc] 74)) g _ _ 0 0) := box_below AB HL1.out
          have HG2 : Hid (w.grownBy (w1.alloc (.cells #[.int .i64 (sortM t.k), .int .i64 t.p, .int .i64 t.n, .slice ua un uc] 74)) (some g)) := gb_below HG1.out AB
          have HX2 : Hid (TX w0 (w1.alloc (.cells #[.int .i64 (sortM t.k), .int .i64 t.p, .int .i64 t.n, .slice ua un uc] 74)) (In wr.heap.size w1.heap.size) (.slice ua un uc) t) := hX.frame fun b _ hlt => AB.block b hlt
          have HT2 : Hid (ToksI w0 (w1.alloc (.cells #[.int .i64 (sortM t.k), .int .i64 t.p, .int .i64 t.n, .slice ua un uc] 74)) (In w.heap.size wr.heap.size) (.slice va vn vc) ts) := Ow.below (framesTokI w0) (Ow.below (framesTokI w0) HT.out B1) AB
          have HN2 : Hid ((w1.alloc (.cells #[.int .i64 (sortM t.k), .int .i64 t.p, .int .i64 t.n, .slice ua un uc] 74)).heap[w1.heap.size]? = some (.cells #[.int .i64 (sortM t.k), .int .i64 t.p, .int .i64 t.n, .slice ua un uc] 74 (0, 0))) := box_new _ _
          have hs2 : (w1.alloc (.cells #[.int .i64 (sortM t.k), .int .i64 t.p, .int .i64 t.n, .slice ua un uc] 74)).heap.size = w1.heap.size + 1 := by simp
          clear hX hone HRL B1 hsuf hp2 hK AB c0 c1 c2 c3 cz cl
          go_upto_region 7 with fail
          generalize (w1.alloc (.cells #[.int .i64 (sortM t.k), .int .i64 t.p, .int .i64 t.n, .slice ua un uc] 74)) = w2 at HL2 HG2 HX2 HT2 HN2 hs2 ⊢
          have hs2' : w1.heap.size + 1 ≤ w2.heap.size := by omega
          clear hs2
          have HX3 : Hid (TX w0 w2 (In wr.heap.size w2.heap.size) (.slice ua un uc) t) := HX2.out.mono fun b hb => ⟨hb.1, by have := hb.2; omega⟩
          clear HX2
          have HX2 : Hid (TX w0 w2 (In wr.heap.size w2.heap.size) (.slice ua un uc) t) := HX3.out
          have HS : Hid (∀ w', Below w2.heap.size w2 w' → w'.cell? ⟨g, 1, none⟩ = some (.slice va vn vc) ∧ w'.cell? ⟨w1.heap.size, 0, none⟩ = some (.int .i64 (sortM t.k)) ∧ w'.cell? ⟨w1.heap.size, 1, none⟩ = some (.int .i64 t.p) ∧ w'.cell? ⟨w1.heap.size, 2, none⟩ = some (.int .i64 t.n) ∧ w'.cell? ⟨w1.heap.size, 3, none⟩ = some (.slice ua un uc)) := fun w' h => ⟨(tab4 (box_below h HL2.out)).2.1, tx4 (box_below h HN2.out)⟩
          obtain ⟨c0, c1, c2, c3, cz, cl⟩ := tab4 HL2.out
          have HS2 : Hid (∀ w' : World, (∀ j, wr.heap.size ≤ j → j < (w2.drew.alloc (.cells #[.int .i64 (sortM t.k), .int .i64 t.p, .int .i64 t.n, .slice ua un uc] 74)).heap.size → w'.heap[j]? = (w2.drew.alloc (.cells #[.int .i64 (sortM t.k), .int .i64 t.p, .int .i64 t.n, .slice ua un uc] 74)).heap[j]?) → w'.cell? ⟨w1.heap.size, 0, none⟩ = some (.int .i64 (sortM t.k)) ∧ w'.cell? ⟨w1.heap.size, 1, none⟩ = some (.int .i64 t.p) ∧ w'.cell? ⟨w1.heap.size, 2, none⟩ = some (.int .i64 t.n) ∧ w'.cell? ⟨w1.heap.size, 3, none⟩ = some (.slice ua un uc)) := fun w' h => by
            have AB : Below w2.heap.size w2 (w2.drew.alloc (.cells #[.int .i64 (sortM t.k), .int .i64 t.p, .int .i64 t.n, .slice ua un uc] 74)) := ((Below.refl _ _).drew).alloc (Nat.le_refl _) _
            have hb := box_below AB HN2.out
            exact tx4 ((h w1.heap.size hw1 (lt_of_heap hb)).trans hb)
          refine wpS_begin 8 (S := fun w' => w'.cell? ⟨g, 1, none⟩ = some (.slice va vn vc) ∧ w'.cell? ⟨w1.heap.size, 0, none⟩ = some (.int .i64 (sortM t.k)) ∧ w'.cell? ⟨w1.heap.size, 1, none⟩ = some (.int .i64 t.p) ∧ w'.cell? ⟨w1.heap.size, 2, none⟩ = some (.int .i64 t.n) ∧ w'.cell? ⟨w1.heap.size, 3, none⟩ = some (.slice ua un uc)) (tabS_of (by kernel_rfl) tab_cut7) (by kernel_rfl) (HS.out _ ((Below.refl _ _).drew)) (fun hTb hHeld => ?_)
          refine tks 0 0 36 hTb hHeld ?_
          refine tks 1 1 37 hTb hHeld ?_
          refine tks 2 2 38 hTb hHeld ?_
          refine tks 3 3 39 hTb hHeld ?_
          refine tks 4 4 40 hTb hHeld ?_
          refine tks 5 5 41 hTb hHeld ?_
          refine cls 6 6 hTb (by decide) rfl rfl (fun K hK => ?_)
          go_simp
          have AB : Below w2.heap.size w2 (w2.drew.alloc (.cells #[.int .i64 (sortM t.k), .int .i64 t.p, .int .i64 t.n, .slice ua un uc] 74)) := ((Below.refl _ _).drew).alloc (Nat.le_refl _) _
          refine hK.out _ _ (HS.out _ AB) (fun hHeld => ?_)
          clear hK K
          refine cls 7 7 hTb (by decide) rfl rfl (fun K hK => ?_)
          have hMs : wr.heap.size ≤ (w2.drew.alloc (.cells #[.int .i64 (sortM t.k), .int .i64 t.p, .int .i64 t.n, .slice ua un uc] 74)).heap.size := by simp only [World.size_alloc]; show _ ≤ w2.heap.size + 1; omega
          have HEa : TokI w0 (w2.drew.alloc (.cells #[.int .i64 (sortM t.k), .int .i64 t.p, .int .i64 t.n, .slice ua un uc] 74)) [.int .i64 (sortM t.k), .int .i64 t.p, .int .i64 t.n, .slice ua un uc] t (In wr.heap.size (w2.drew.alloc (.cells #[.int .i64 (sortM t.k), .int .i64 t.p, .int .i64 t.n, .slice ua un uc] 74)).heap.size) := ⟨ua, un, uc, rfl, (HX2.out.frame fun b _ hlt => AB.block b hlt).mono fun b hb => ⟨hb.1, Nat.lt_of_lt_of_le hb.2 AB.size⟩⟩
          have hl1 : ts.length + 1 ≤ maxLen := by unfold maxLen; omega
          have hl2 : (ts.length + 1) * 48 ≤ 140737488355328 := by omega
          refine ite_w2 (by kernel_rfl) (wp_push 43 rfl (.tmp 40) (.tmp 42) rfl (framesTokI w0) (B := w.heap.size) (M := wr.heap.size) (Ow.below (framesTokI w0) HT2.out AB) hMs hwr Tryd.underlying36 hi hz0 hz1 hz2 rfl (by omega) rfl t [.int .i64 (sortM t.k), .int .i64 t.p, .int .i64 t.n, .slice ua un uc] rfl HEa ⟨w2.heap.size, 0, none⟩ 1 rfl (cells_new w2.drew _ _) one_tok hl1 hl2 ?_)
          intro DV wz hO hgz hvz
          obtain ⟨da, dn, dc, hDV⟩ := toki_form hO
          subst hDV
          have hgne : ∀ j, (Value.slice va vn vc).ownBlock = some j → j ≠ g := fun j hj => by have := (hvz j hj).1; omega
          have KX : wz.heap[g]? = some (.cells #[.slice (some ⟨b, off, none⟩) l.length lc, .slice va vn vc, .int .i64 0, .int .i64 0] 38 (0, 0)) := (hgz.block g (lt_of_heap (box_below AB HL2.out)) (fun e => hgne g e.symm rfl)).trans (box_below AB HL2.out)
          have HGz : Hid (w.grownBy wz (some g)) := ⟨hgz.os.trans (AB.os.trans HG2.out.os), hgz.tape.trans (AB.tape.trans HG2.out.tape), hgz.output.trans (AB.output.trans HG2.out.output), Nat.le_trans HG2.out.size (Nat.le_trans AB.size hgz.size), fun j hj hne => ((hgz.block j (Nat.lt_of_lt_of_le hj (Nat.le_trans HG2.out.size AB.size)) (fun e => by have := (hvz j e.symm).1; omega)).trans (AB.block j (Nat.lt_of_lt_of_le hj HG2.out.size))).trans (HG2.out.block j hj hne)⟩
          have HBz : Hid (Below w0.heap.size w0 wz) := ⟨HGz.out.os.trans hw0.os, HGz.out.tape.trans hw0.tape, HGz.out.output.trans hw0.output, Nat.le_trans hw0.size HGz.out.size, fun j hj => (HGz.out.block j (by omega) (by simp; omega)).trans (hw0.block j hj)⟩
          obtain ⟨d0, d1, d2, d3, zx, zl⟩ := tab4 KX
          have HO : Hid (ToksI w0 wz (In w.heap.size wz.heap.size) (.slice da dn dc) (ts ++ [t])) := hO
          refine hK.out _ _ (⟨d1, (HS2.out wz (fun j hj1 hj2 => hgz.block j hj2 (fun e => by have := (hvz j e.symm).2; omega)))⟩) (fun hHeld => ?_)
          clear hK K
          refine wpS_next (S' := fun w' => True) 8 11 hTb (by decide) (trivial) (fun hHeld => ?_)
          refine tks 8 8 44 hTb hHeld ?_
          refine tks 9 9 45 hTb hHeld ?_
          refine cls 10 10 hTb (by decide) rfl rfl (fun K hK => ?_)
          go_simp
          refine hK.out _ _ (trivial) (fun hHeld => ?_)
          clear hK K
          refine wpS_end hTb ?_
          have HL5 : Hid (LR (wz.setCell ⟨g, 1, none⟩ (.slice da dn dc)) g (.slice (some ⟨b, off, none⟩) l.length lc) (.slice da dn dc) 0 0) := box_set (i := 1) (v := .slice da dn dc) KX
          have HG5 : Hid (w.grownBy (wz.setCell ⟨g, 1, none⟩ (.slice da dn dc)) (some g)) := gb_set HGz.out
          have HB5 : Hid (Below w0.heap.size w0 (wz.setCell ⟨g, 1, none⟩ (.slice da dn dc))) := HBz.out.setCell (p := ⟨g, 1, none⟩) hold _
          have HT5 : Hid (ToksI w0 (wz.setCell ⟨g, 1, none⟩ (.slice da dn dc)) (In w.heap.size (wz.setCell ⟨g, 1, none⟩ (.slice da dn dc)).heap.size) (.slice da dn dc) (ts ++ [t])) := by
            show ToksI _ _ _ _ _
            rw [box_size]
            exact Ow.frame (framesTokI w0) HO.out fun b hb _ => Below.heap_setCell _ _ _ _ (show b ≠ g by have := hb.1; omega)
          clear hTb hHeld HO KX HGz HBz hO hgz hvz hgne AB HEa
          go_wp2
          go_roundw
          case rel => exact ⟨K, f', ts ++ [t], da, dn, dc, hKl.2, by omega, by simp; omega, rfl, HRN, HL5, HT5, HG5, HB5⟩
          case measure => simp [intOf]; omega
    · obtain rfl : k = l.length := by omega
      have HRE : Hid (res = .ok ts) := by
        show _ = _
        rw [HRR.out, List.drop_length]
        cases f <;> simp [lexM, preM]
      go_wp2
      first | go_end0 | refine bodyPost_ret (v := .tuple #[]) (by simp [results, Tryd.results34, go_sem]) rfl ?_
      rw [HRE.out]
      exact ⟨HG.out, _, rfl, HL.out, HT.out⟩

end Go.Proofs.YtlegmiaoablcgaaDoor

/- What l4take of package spec does. -/
namespace Go.Proofs.YtlegmiaoablcgaaDoor
open Go.RowKit
set_option maxRecDepth 100000
set_option linter.unusedVariables false
set_option linter.unusedSimpArgs false

theorem tok_put {w1 : World} {r : Nat} {t : TypeId} {d0 d1 d2 d3 : Value} (hk : w1.heap[r]? = some (.cells #[d0, d1, d2, d3] t (0, 0))) (c0 c1 c2 c3 : Value) :
    ((((w1.setCell ⟨r, 0, none⟩ c0).setCell ⟨r, 1, none⟩ c1).setCell ⟨r, 2, none⟩ c2).setCell ⟨r, 3, none⟩ c3).heap[r]? = some (.cells #[c0, c1, c2, c3] t (0, 0)) ∧
      ∀ k, k ≠ r → ((((w1.setCell ⟨r, 0, none⟩ c0).setCell ⟨r, 1, none⟩ c1).setCell ⟨r, 2, none⟩ c2).setCell ⟨r, 3, none⟩ c3).heap[k]? = w1.heap[k]? :=
  ⟨box_set (i := 3) (box_set (i := 2) (box_set (i := 1) (box_set (i := 0) hk))), fun k hk => by rw [Below.heap_setCell _ _ _ _ (show k ≠ r from hk), Below.heap_setCell _ _ _ _ (show k ≠ r from hk), Below.heap_setCell _ _ _ _ (show k ≠ r from hk), Below.heap_setCell _ _ _ _ (show k ≠ r from hk)]⟩

set_option maxRecDepth 100000 in
set_option maxHeartbeats 4000000 in
theorem l4take_r (g : Nat) (lv : Value) (e k least : Int) (st : PS) (ts : List TokD) (S : Nat → Prop) (w : World) (hp : ParP w g lv e st) (ht : ToksO w S lv ts) (hS : ¬ S g) (hSl : ∀ b, S b → b < w.heap.size) (hil : st.i ≤ 2000) (hkn : k = 3 ∨ least = 0) :
    Calls Tryd.prog 30 #[.pointer (some ⟨g, 0, none⟩), .int .i64 k, .int .i64 least] w fun r w' => ∃ a n c, r = .returned (.agg #[.int .i64 (takeS e k least ts st).1.k, .int .i64 (takeS e k least ts st).1.p, .int .i64 (takeS e k least ts st).1.n, .slice a n c]) ∧ RB w' S (.slice a n c) (takeS e k least ts st).1.tx ∧ w.grownBy w' (some g) ∧ ParP w' g lv e (takeS e k least ts st).2 := by
  obtain ⟨i, bad, p⟩ := st
  obtain ⟨la, lc, rfl, hlc, hlm⟩ := toks_slice ht
  have HTK : Hid (ToksO w S (.slice la ts.length lc) ts) := ht
  have hlg := lt_of_heap hp
  have AB : Below w.heap.size w (w.alloc (.cells #[.int .i64 0, .int .i64 0, .int .i64 0, .slice none 0 0] 59)) := (Below.refl _ _).alloc (Nat.le_refl _) _
  have HPD0 : Hid (ParP (w.alloc (.cells #[.int .i64 0, .int .i64 0, .int .i64 0, .slice none 0 0] 59)) g (.slice la ts.length lc) e ⟨i, bad, p⟩) := box_below AB hp
  have HKD0 : Hid ((w.alloc (.cells #[.int .i64 0, .int .i64 0, .int .i64 0, .slice none 0 0] 59)).heap[w.heap.size]? = some (.cells #[.int .i64 0, .int .i64 0, .int .i64 0, .slice none 0 0] 59 (0, 0))) := box_new w _
  have HB0 : Hid (Below w.heap.size w (w.alloc (.cells #[.int .i64 0, .int .i64 0, .int .i64 0, .slice none 0 0] 59))) := AB
  simp only at hil
  clear hp ht AB
  go_enter Tryd.func30, Tryd.ntmps30
  go_upto_region 1 with fail
  generalize (w.alloc (.cells #[.int .i64 0, .int .i64 0, .int .i64 0, .slice none 0 0] 59)) = W at HPD0 HKD0 HB0 ⊢
  have HPD : Hid (ParP W.drew g (.slice la ts.length lc) e ⟨i, bad, p⟩) := HPD0.out
  have HKD : Hid (W.drew.heap[w.heap.size]? = some (.cells #[.int .i64 0, .int .i64 0, .int .i64 0, .slice none 0 0] 59 (0, 0))) := HKD0.out
  have HGD : Hid (w.grownBy W.drew (some g)) := gb_below (gb_refl _ _) HB0.out.drew
  have HTD : Hid (ToksO W.drew S (.slice la ts.length lc) ts) := toks_gb HTK.out HGD.out hS
  obtain ⟨q0, q1, q2, q3, q4⟩ := px5 HPD.out
  simp only at q0 q1 q2 q3 q4
  have hlgd : g < W.drew.heap.size := lt_of_heap HPD.out
  have hlgd1 : g < W.heap.size := hlgd
  clear HPD0 HKD0
  cases bad with
  | true =>
    refine wp_region_held_drew (S := fun w' => w'.cell? ⟨g, 3, none⟩ = some (.bool true)) (by kernel_rfl) (q3) (fun hHeld => (show wpAnyH _ _ _ _ _ 50 #[false, false, false, false, false, false, false, false, false, false, false, false, false, false, false, false, false, false, false, false, false, false, false, false, false, false, false, false, false, false, false, false, false, false, false, false, false, false, false, false, false, false, false, false, false, false, false, false, false, false] _ _ from ?_))
    refine tq 0 7 hHeld ?_
    refine tq 1 8 hHeld ?_
    refine tq 2 9 hHeld ?_
    refine tq 3 10 hHeld ?_
    refine tq 4 11 hHeld ?_
    refine wpAnyH_skips (by kernel_rfl) (fun _ _ _ _ _ h => h) hHeld [5, 6, 7, 8, 9, 10, 11, 12, 13, 14] [12, 13, 14, 15, 16, 17, 18, 19, 20, 21] _ _ _ (by kernel_rfl) ?_
    simp only [List.foldl_cons, List.foldl_nil, Act.put, sA, s0, sS]
    refine tq 15 22 hHeld ?_
    refine tq 16 23 hHeld ?_
    refine wpAnyH_skips (by kernel_rfl) (fun _ _ _ _ _ h => h) hHeld [17, 18, 19, 20, 21, 22, 23, 24, 25, 26, 27, 28, 29] [24, 25, 26, 27, 28, 29, 30, 31, 32, 33, 34, 35, 36] _ _ _ (by kernel_rfl) ?_
    simp only [List.foldl_cons, List.foldl_nil, Act.put, sA, s0, sS]
    refine tq 30 37 hHeld ?_
    refine tq 31 38 hHeld ?_
    refine wpAnyH_skips (by kernel_rfl) (fun _ _ _ _ _ h => h) hHeld [32, 33, 34, 35, 36, 37, 38, 39, 40, 41, 42, 43, 44, 45, 46, 47, 48] [39, 40, 41, 42, 43, 44, 45, 46, 47, 48, 49, 50, 51, 52, 53, 54, 55] _ _ _ (by kernel_rfl) ?_
    simp only [List.foldl_cons, List.foldl_nil, Act.put, sA, s0, sS]
    refine tq 49 56 hHeld ?_
    refine wpAnyH_done (by kernel_rfl) ?_ _
    go_wp2_with fail
    refine (l4fail_r g _ e ⟨i, true, p⟩ ts S _ HPD.out HTD.out hS (show i ≤ 3000 by omega)).mono ?_
    rintro r w3 ⟨rfl, hG3, hP3⟩
    have HG3 : Hid (w.grownBy w3 (some g)) := gb_trans HGD.out hG3
    have HP3 : Hid (ParP w3 g _ e _) := hP3
    have HK3 : Hid (w3.heap[w.heap.size]? = some (.cells #[.int .i64 0, .int .i64 0, .int .i64 0, .slice none 0 0] 59 (0, 0))) := (hG3.block _ (lt_of_heap HKD.out) (fun h => by cases h; omega)).trans HKD.out
    clear hG3 hP3
    obtain ⟨r0, r1, r2, r3⟩ := tx4 HK3.out
    obtain ⟨rz, rl⟩ := box8z HK3.out
    have HF : Hid _ := tok_put HK3.out (.int .i64 0) (.int .i64 0) (.int .i64 0) (.slice none 0 0)
    go_wp2
    obtain ⟨f0, f1, f2, f3⟩ := tx4 HF.out.1
    have hts : takeS e k least ts ⟨i, true, p⟩ = (zeroT, failS e ts ⟨i, true, p⟩) := rfl
    rw [hts]
    refine bodyPost_ret (v := .agg #[.int .i64 0, .int .i64 0, .int .i64 0, .slice none 0 0]) (by simp [results, Tryd.results30, go_sem, f0, f1, f2, f3]) rfl ⟨none, 0, 0, rfl, ⟨oct_nil, World.ownsRow_nil _ _ _ _, fun g hg => by simp [Value.ownBlock] at hg⟩, ?_, ?_⟩
    · exact ⟨HG3.out.os, HG3.out.tape, HG3.out.output, by simp only [box_size]; exact HG3.out.size, fun b hb hne => (HF.out.2 b (by omega)).trans (HG3.out.block b hb hne)⟩
    · exact (HF.out.2 g (by omega)).trans HP3.out
  | false =>
    by_cases hlt : i < ts.length
    · obtain ⟨t, htt⟩ : ∃ t, ts[i]? = some t := ⟨ts[i], List.getElem?_eq_getElem hlt⟩
      obtain ⟨tb, lc', ua, un, uc, hv', htl, hStb, -, -, k0, k1, k2, k3, hrb⟩ := tok_at HTD.out htt
      simp only [Value.slice.injEq, true_and] at hv'
      obtain ⟨rfl, rfl⟩ := hv'
      have HTT : Hid (ts[i]? = some t) := htt
      have HD : Hid (ts.drop i = t :: ts.drop (i + 1)) := drop_at htt
      have hii : (i : Int) < (ts.length : Int) := by omega
      have hdi : decide ((ts.length : Int) ≤ (i : Int)) = false := decide_eq_false (by omega)
      have hdn : decide (ts.length ≤ i) = false := decide_eq_false (by omega)
      have hnn : ¬ ts.length ≤ i := by omega
      clear htt hrb
      by_cases hk : t.k = k
      · have hk1 : (t.k != k) = false := by simp [hk]
        by_cases h3 : k = 3
        · have h31 : (k == 3) = true := by simp [h3]
          by_cases hn : t.n < least
          · have hn1 : decide (t.n < least) = true := decide_eq_true hn
            refine wp_region_held_drew (S := fun w' => w'.cell? ⟨g, 3, none⟩ = some (.bool false) ∧ w'.cell? ⟨g, 1, none⟩ = some (.int .i64 (i : Int)) ∧ w'.cell? ⟨g, 0, none⟩ = some (.slice (some ⟨tb, 0, none⟩) ts.length lc) ∧ w'.cell? ⟨tb, i * 4, none⟩ = some (.int .i64 t.k) ∧ w'.cell? ⟨tb, i * 4 + 2, none⟩ = some (.int .i64 t.n)) (by kernel_rfl) (⟨q3, q1, q0, k0, k2⟩) (fun hHeld => (show wpAnyH _ _ _ _ _ 50 #[false, false, false, false, false, false, false, false, false, false, false, false, false, false, false, false, false, false, false, false, false, false, false, false, false, false, false, false, false, false, false, false, false, false, false, false, false, false, false, false, false, false, false, false, false, false, false, false, false, false] _ _ from ?_))
            refine tq 0 7 hHeld ?_
            refine tq 1 8 hHeld ?_
            refine tq 2 9 hHeld ?_
            refine tq 3 10 hHeld ?_
            refine tq 4 11 hHeld ?_
            refine tq 5 12 hHeld ?_
            refine tq 6 13 hHeld ?_
            refine tq 7 14 hHeld ?_
            refine tq 8 15 hHeld ?_
            refine tq 9 16 hHeld ?_
            refine tq 10 17 hHeld ?_
            refine tq 11 18 hHeld ?_
            refine tq 12 19 hHeld ?_
            refine tq 13 20 hHeld ?_
            refine tq 14 21 hHeld ?_
            refine tq 15 22 hHeld ?_
            refine tq 16 23 hHeld ?_
            refine tq 17 24 hHeld ?_
            refine tq 18 25 hHeld ?_
            refine tq 19 26 hHeld ?_
            refine tq 20 27 hHeld ?_
            refine tq 21 28 hHeld ?_
            refine tq 22 29 hHeld ?_
            refine tq 23 30 hHeld ?_
            refine tq 24 31 hHeld ?_
            refine tq 25 32 hHeld ?_
            refine tq 26 33 hHeld ?_
            refine tq 27 34 hHeld ?_
            refine tq 28 35 hHeld ?_
            refine tq 29 36 hHeld ?_
            refine tq 30 37 hHeld ?_
            refine tq 31 38 hHeld ?_
            refine tq 32 39 hHeld ?_
            refine tq 33 40 hHeld ?_
            refine tq 34 41 hHeld ?_
            refine tq 35 42 hHeld ?_
            refine tq 36 43 hHeld ?_
            refine tq 37 44 hHeld ?_
            refine tq 38 45 hHeld ?_
            refine tq 39 46 hHeld ?_
            refine tq 40 47 hHeld ?_
            refine tq 41 48 hHeld ?_
            refine tq 42 49 hHeld ?_
            refine tq 43 50 hHeld ?_
            refine tq 44 51 hHeld ?_
            refine tq 45 52 hHeld ?_
            refine tq 46 53 hHeld ?_
            refine tq 47 54 hHeld ?_
            refine tq 48 55 hHeld ?_
            refine tq 49 56 hHeld ?_
            refine wpAnyH_done (by kernel_rfl) ?_ _
            go_wp2_with fail
            refine (l4fail_r g _ e ⟨i, false, p⟩ ts S _ HPD.out HTD.out hS (show i ≤ 3000 by omega)).mono ?_
            rintro r w3 ⟨rfl, hG3, hP3⟩
            have HG3 : Hid (w.grownBy w3 (some g)) := gb_trans HGD.out hG3
            have HP3 : Hid (ParP w3 g _ e _) := hP3
            have HK3 : Hid (w3.heap[w.heap.size]? = some (.cells #[.int .i64 0, .int .i64 0, .int .i64 0, .slice none 0 0] 59 (0, 0))) := (hG3.block _ (lt_of_heap HKD.out) (fun h => by cases h; omega)).trans HKD.out
            clear hG3 hP3
            obtain ⟨r0, r1, r2, r3⟩ := tx4 HK3.out
            obtain ⟨rz, rl⟩ := box8z HK3.out
            have HF : Hid _ := tok_put HK3.out (.int .i64 0) (.int .i64 0) (.int .i64 0) (.slice none 0 0)
            go_wp2
            obtain ⟨f0, f1, f2, f3⟩ := tx4 HF.out.1
            have hts : takeS e k least ts ⟨i, false, p⟩ = (zeroT, failS e ts ⟨i, false, p⟩) := by unfold takeS failS; rw [if_neg (by simp), if_neg (by simp), HD.out, takeM, if_neg (fun h => by have := h.2 h3; omega), failM]
            rw [hts]
            refine bodyPost_ret (v := .agg #[.int .i64 0, .int .i64 0, .int .i64 0, .slice none 0 0]) (by simp [results, Tryd.results30, go_sem, f0, f1, f2, f3]) rfl ⟨none, 0, 0, rfl, ⟨oct_nil, World.ownsRow_nil _ _ _ _, fun g hg => by simp [Value.ownBlock] at hg⟩, ?_, ?_⟩
            · exact ⟨HG3.out.os, HG3.out.tape, HG3.out.output, by simp only [box_size]; exact HG3.out.size, fun b hb hne => (HF.out.2 b (by omega)).trans (HG3.out.block b hb hne)⟩
            · exact (HF.out.2 g (by omega)).trans HP3.out
          · have hn1 : decide (t.n < least) = false := decide_eq_false hn
            have HTS : Hid (takeS e k least ts ⟨i, false, p⟩ = (t, ⟨i + 1, false, p⟩)) := by
              show _ = _
              unfold takeS
              rw [if_neg (by simp), HD.out, takeM, if_pos ⟨hk, fun _ => by omega⟩]
            clear hk h3
            refine wp_region_held_drew (S := fun w' => w'.cell? ⟨g, 3, none⟩ = some (.bool false) ∧ w'.cell? ⟨g, 1, none⟩ = some (.int .i64 (i : Int)) ∧ w'.cell? ⟨g, 0, none⟩ = some (.slice (some ⟨tb, 0, none⟩) ts.length lc) ∧ w'.cell? ⟨tb, i * 4, none⟩ = some (.int .i64 t.k) ∧ w'.cell? ⟨tb, i * 4 + 2, none⟩ = some (.int .i64 t.n)) (by kernel_rfl) (⟨q3, q1, q0, k0, k2⟩) (fun hHeld => (show wpAnyH _ _ _ _ _ 50 #[false, false, false, false, false, false, false, false, false, false, false, false, false, false, false, false, false, false, false, false, false, false, false, false, false, false, false, false, false, false, false, false, false, false, false, false, false, false, false, false, false, false, false, false, false, false, false, false, false, false] _ _ from ?_))
            refine tq 0 7 hHeld ?_
            refine tq 1 8 hHeld ?_
            refine tq 2 9 hHeld ?_
            refine tq 3 10 hHeld ?_
            refine tq 4 11 hHeld ?_
            refine tq 5 12 hHeld ?_
            refine tq 6 13 hHeld ?_
            refine tq 7 14 hHeld ?_
            refine tq 8 15 hHeld ?_
            refine tq 9 16 hHeld ?_
            refine tq 10 17 hHeld ?_
            refine tq 11 18 hHeld ?_
            refine tq 12 19 hHeld ?_
            refine tq 13 20 hHeld ?_
            refine tq 14 21 hHeld ?_
            refine tq 15 22 hHeld ?_
            refine tq 16 23 hHeld ?_
            refine tq 17 24 hHeld ?_
            refine tq 18 25 hHeld ?_
            refine tq 19 26 hHeld ?_
            refine tq 20 27 hHeld ?_
            refine tq 21 28 hHeld ?_
            refine tq 22 29 hHeld ?_
            refine tq 23 30 hHeld ?_
            refine tq 24 31 hHeld ?_
            refine tq 25 32 hHeld ?_
            refine tq 26 33 hHeld ?_
            refine tq 27 34 hHeld ?_
            refine tq 28 35 hHeld ?_
            refine tq 29 36 hHeld ?_
            refine tq 30 37 hHeld ?_
            refine tq 31 38 hHeld ?_
            refine tq 32 39 hHeld ?_
            refine tq 33 40 hHeld ?_
            refine tq 34 41 hHeld ?_
            refine tq 35 42 hHeld ?_
            refine tq 36 43 hHeld ?_
            refine tq 37 44 hHeld ?_
            refine tq 38 45 hHeld ?_
            refine tq 39 46 hHeld ?_
            refine tq 40 47 hHeld ?_
            refine tq 41 48 hHeld ?_
            refine tq 42 49 hHeld ?_
            refine tq 43 50 hHeld ?_
            refine tq 44 51 hHeld ?_
            refine tq 45 52 hHeld ?_
            refine tq 46 53 hHeld ?_
            refine tq 47 54 hHeld ?_
            refine tq 48 55 hHeld ?_
            refine tq 49 56 hHeld ?_
            refine wpAnyH_done (by kernel_rfl) ?_ _
            clear q0 q1 q2 q3 q4
            generalize W.drew = w9 at HPD HKD HGD HTD hlgd k0 k1 k2 k3 ⊢
            have HP4 : Hid ((w9.setCell ⟨g, 1, none⟩ (.int .i64 ((i : Int) + 1))).heap[g]? = some (.cells #[.slice (some ⟨tb, 0, none⟩) ts.length lc, .int .i64 ((i : Int) + 1), .int .i64 e, .bool false, .int .i64 p] 54 (0, 0))) := box_set (i := 1) (v := .int .i64 ((i : Int) + 1)) HPD.out
            have HG4 : Hid (w.grownBy (w9.setCell ⟨g, 1, none⟩ (.int .i64 ((i : Int) + 1))) (some g)) := gb_set HGD.out
            have HK4 : Hid ((w9.setCell ⟨g, 1, none⟩ (.int .i64 ((i : Int) + 1))).heap[w.heap.size]? = some (.cells #[.int .i64 0, .int .i64 0, .int .i64 0, .slice none 0 0] 59 (0, 0))) := box_other (k := g) (i := 1) (v := .int .i64 ((i : Int) + 1)) HKD.out (by omega)
            obtain ⟨q0, q1, q2, q3, q4⟩ := px5 HPD.out
            obtain ⟨qz, hlg9⟩ := box8z HPD.out
            go_upto_region 5 with fail
            generalize w9.setCell ⟨g, 1, none⟩ (.int .i64 ((i : Int) + 1)) = w4 at HP4 HG4 HK4 ⊢
            clear q0 q1 q2 q3 q4 qz k0 k1 k2 k3 hlg9
            have HTE : Hid (ToksO w4.drew S (.slice (some ⟨tb, 0, none⟩) ts.length lc) ts) := toks_gb HTK.out (gb_below HG4.out (Below.refl _ _).drew) hS
            obtain ⟨tb', lc', va, vn, vc, hv', htl', -, -, -, k0, k1, k2, k3, hrb⟩ := tok_at HTE.out HTT.out
            simp only [Value.slice.injEq, Option.some.injEq, Addr.mk.injEq, and_true, true_and] at hv'
            obtain ⟨rfl, rfl⟩ := hv'
            have HRB : Hid (RB w4.drew S (.slice va vn vc) t.tx) := hrb
            obtain ⟨q0, q1, q2, q3, q4⟩ := px5 (show w4.drew.heap[g]? = _ from HP4.out)
            have HKE : Hid (w4.drew.heap[w.heap.size]? = some (.cells #[.int .i64 0, .int .i64 0, .int .i64 0, .slice none 0 0] 59 (0, 0))) := HK4.out
            obtain ⟨r0, r1, r2, r3⟩ := tx4 HKE.out
            obtain ⟨rz, rl⟩ := box8z HKE.out
            have hlg4 : g < w4.drew.heap.size := lt_of_heap HP4.out
            have HG5 : Hid (w.grownBy w4.drew (some g)) := gb_below HG4.out (Below.refl _ _).drew
            have HP5 : Hid (w4.drew.heap[g]? = some (.cells #[.slice (some ⟨tb, 0, none⟩) ts.length lc, .int .i64 ((i : Int) + 1), .int .i64 e, .bool false, .int .i64 p] 54 (0, 0))) := HP4.out
            have hws : IntKind.i64.wrap (i : Int) = (i : Int) := by simp [IntKind.wrap, IntKind.bits, IntKind.signed]; omega
            have hi00 : (0 : Int) ≤ (i : Int) := by omega
            have HF : Hid _ := tok_put HKE.out (.int .i64 t.k) (.int .i64 t.p) (.int .i64 t.n) (.slice va vn vc)
            clear hrb
            refine wpS_begin 11 (S := fun w' => w'.cell? ⟨g, 0, none⟩ = some (.slice (some ⟨tb, 0, none⟩) ts.length lc) ∧ w'.cell? ⟨g, 1, none⟩ = some (.int .i64 ((i : Int) + 1)) ∧ w'.cell? ⟨tb, i * 4, none⟩ = some (.int .i64 t.k) ∧ w'.cell? ⟨tb, i * 4 + 1, none⟩ = some (.int .i64 t.p) ∧ w'.cell? ⟨tb, i * 4 + 2, none⟩ = some (.int .i64 t.n) ∧ w'.cell? ⟨tb, i * 4 + 3, none⟩ = some (.slice va vn vc)) (tabS_of (by kernel_rfl) tab_take5) (by kernel_rfl) (⟨q0, q1, k0, k1, k2, k3⟩) (fun hTb hHeld => ?_)
            generalize w4.drew = w5 at HG5 HP5 HKE HRB HTE HF r0 r1 r2 r3 rz rl q0 q1 q2 q3 q4 k0 k1 k2 k3 hlg4 htl' hHeld ⊢
            refine tks 0 0 67 hTb hHeld ?_
            refine tks 1 1 68 hTb hHeld ?_
            refine tks 2 2 69 hTb hHeld ?_
            refine tks 3 3 70 hTb hHeld ?_
            refine tks 4 4 71 hTb hHeld ?_
            refine tks 5 5 72 hTb hHeld ?_
            refine tks 6 6 73 hTb hHeld ?_
            refine tks 7 7 74 hTb hHeld ?_
            refine tks 8 8 75 hTb hHeld ?_
            refine tks 9 9 76 hTb hHeld ?_
            refine tks 10 10 77 hTb hHeld ?_
            refine wpS_next (S' := fun w' => True) 11 12 hTb (by decide) (trivial) (fun hHeld => ?_)
            refine cls 11 11 hTb (by decide) rfl rfl (fun K hK => ?_)
            go_simp
            refine hK.out _ _ (trivial) (fun hHeld => ?_)
            clear hK K
            refine wpS_end hTb ?_
            go_wp2
            obtain ⟨f0, f1, f2, f3⟩ := tx4 HF.out.1
            rw [HTS.out]
            refine bodyPost_ret (v := .agg #[.int .i64 t.k, .int .i64 t.p, .int .i64 t.n, .slice va vn vc]) (by simp [results, Tryd.results30, go_sem, f0, f1, f2, f3]) rfl ⟨va, vn, vc, rfl, HRB.out.frame fun b hb _ => HF.out.2 b (by have := hSl b hb; omega), ?_, ?_⟩
            · exact ⟨HG5.out.os, HG5.out.tape, HG5.out.output, by simp only [box_size]; exact HG5.out.size, fun b hb hne => (HF.out.2 b (by omega)).trans (HG5.out.block b hb hne)⟩
            · exact (HF.out.2 g (by omega)).trans HP5.out
        · have h31 : (k == 3) = false := by simp [h3]
          have HTS : Hid (takeS e k least ts ⟨i, false, p⟩ = (t, ⟨i + 1, false, p⟩)) := by
            show _ = _
            unfold takeS
            rw [if_neg (by simp), HD.out, takeM, if_pos ⟨hk, fun h => absurd h h3⟩]
          clear hk
          refine wp_region_held_drew (S := fun w' => w'.cell? ⟨g, 3, none⟩ = some (.bool false) ∧ w'.cell? ⟨g, 1, none⟩ = some (.int .i64 (i : Int)) ∧ w'.cell? ⟨g, 0, none⟩ = some (.slice (some ⟨tb, 0, none⟩) ts.length lc) ∧ w'.cell? ⟨tb, i * 4, none⟩ = some (.int .i64 t.k)) (by kernel_rfl) (⟨q3, q1, q0, k0⟩) (fun hHeld => (show wpAnyH _ _ _ _ _ 50 #[false, false, false, false, false, false, false, false, false, false, false, false, false, false, false, false, false, false, false, false, false, false, false, false, false, false, false, false, false, false, false, false, false, false, false, false, false, false, false, false, false, false, false, false, false, false, false, false, false, false] _ _ from ?_))
          refine tq 0 7 hHeld ?_
          refine tq 1 8 hHeld ?_
          refine tq 2 9 hHeld ?_
          refine tq 3 10 hHeld ?_
          refine tq 4 11 hHeld ?_
          refine tq 5 12 hHeld ?_
          refine tq 6 13 hHeld ?_
          refine tq 7 14 hHeld ?_
          refine tq 8 15 hHeld ?_
          refine tq 9 16 hHeld ?_
          refine tq 10 17 hHeld ?_
          refine tq 11 18 hHeld ?_
          refine tq 12 19 hHeld ?_
          refine tq 13 20 hHeld ?_
          refine tq 14 21 hHeld ?_
          refine tq 15 22 hHeld ?_
          refine tq 16 23 hHeld ?_
          refine tq 17 24 hHeld ?_
          refine tq 18 25 hHeld ?_
          refine tq 19 26 hHeld ?_
          refine tq 20 27 hHeld ?_
          refine tq 21 28 hHeld ?_
          refine tq 22 29 hHeld ?_
          refine tq 23 30 hHeld ?_
          refine tq 24 31 hHeld ?_
          refine tq 25 32 hHeld ?_
          refine tq 26 33 hHeld ?_
          refine tq 27 34 hHeld ?_
          refine tq 28 35 hHeld ?_
          refine tq 29 36 hHeld ?_
          refine tq 30 37 hHeld ?_
          refine tq 31 38 hHeld ?_
          refine tq 32 39 hHeld ?_
          refine tq 33 40 hHeld ?_
          refine tq 34 41 hHeld ?_
          refine wpAnyH_skips (by kernel_rfl) (fun _ _ _ _ _ h => h) hHeld [35, 36, 37, 38, 39, 40, 41, 42, 43, 44, 45, 46, 47] [42, 43, 44, 45, 46, 47, 48, 49, 50, 51, 52, 53, 54] _ _ _ (by kernel_rfl) ?_
          simp only [List.foldl_cons, List.foldl_nil, Act.put, sA, s0, sS]
          refine tq 48 55 hHeld ?_
          refine tq 49 56 hHeld ?_
          refine wpAnyH_done (by kernel_rfl) ?_ _
          clear q0 q1 q2 q3 q4
          generalize W.drew = w9 at HPD HKD HGD HTD hlgd k0 k1 k2 k3 ⊢
          have HP4 : Hid ((w9.setCell ⟨g, 1, none⟩ (.int .i64 ((i : Int) + 1))).heap[g]? = some (.cells #[.slice (some ⟨tb, 0, none⟩) ts.length lc, .int .i64 ((i : Int) + 1), .int .i64 e, .bool false, .int .i64 p] 54 (0, 0))) := box_set (i := 1) (v := .int .i64 ((i : Int) + 1)) HPD.out
          have HG4 : Hid (w.grownBy (w9.setCell ⟨g, 1, none⟩ (.int .i64 ((i : Int) + 1))) (some g)) := gb_set HGD.out
          have HK4 : Hid ((w9.setCell ⟨g, 1, none⟩ (.int .i64 ((i : Int) + 1))).heap[w.heap.size]? = some (.cells #[.int .i64 0, .int .i64 0, .int .i64 0, .slice none 0 0] 59 (0, 0))) := box_other (k := g) (i := 1) (v := .int .i64 ((i : Int) + 1)) HKD.out (by omega)
          obtain ⟨q0, q1, q2, q3, q4⟩ := px5 HPD.out
          obtain ⟨qz, hlg9⟩ := box8z HPD.out
          go_upto_region 5 with fail
          generalize w9.setCell ⟨g, 1, none⟩ (.int .i64 ((i : Int) + 1)) = w4 at HP4 HG4 HK4 ⊢
          clear q0 q1 q2 q3 q4 qz k0 k1 k2 k3 hlg9
          have HTE : Hid (ToksO w4.drew S (.slice (some ⟨tb, 0, none⟩) ts.length lc) ts) := toks_gb HTK.out (gb_below HG4.out (Below.refl _ _).drew) hS
          obtain ⟨tb', lc', va, vn, vc, hv', htl', -, -, -, k0, k1, k2, k3, hrb⟩ := tok_at HTE.out HTT.out
          simp only [Value.slice.injEq, Option.some.injEq, Addr.mk.injEq, and_true, true_and] at hv'
          obtain ⟨rfl, rfl⟩ := hv'
          have HRB : Hid (RB w4.drew S (.slice va vn vc) t.tx) := hrb
          obtain ⟨q0, q1, q2, q3, q4⟩ := px5 (show w4.drew.heap[g]? = _ from HP4.out)
          have HKE : Hid (w4.drew.heap[w.heap.size]? = some (.cells #[.int .i64 0, .int .i64 0, .int .i64 0, .slice none 0 0] 59 (0, 0))) := HK4.out
          obtain ⟨r0, r1, r2, r3⟩ := tx4 HKE.out
          obtain ⟨rz, rl⟩ := box8z HKE.out
          have hlg4 : g < w4.drew.heap.size := lt_of_heap HP4.out
          have HG5 : Hid (w.grownBy w4.drew (some g)) := gb_below HG4.out (Below.refl _ _).drew
          have HP5 : Hid (w4.drew.heap[g]? = some (.cells #[.slice (some ⟨tb, 0, none⟩) ts.length lc, .int .i64 ((i : Int) + 1), .int .i64 e, .bool false, .int .i64 p] 54 (0, 0))) := HP4.out
          have hws : IntKind.i64.wrap (i : Int) = (i : Int) := by simp [IntKind.wrap, IntKind.bits, IntKind.signed]; omega
          have hi00 : (0 : Int) ≤ (i : Int) := by omega
          have HF : Hid _ := tok_put HKE.out (.int .i64 t.k) (.int .i64 t.p) (.int .i64 t.n) (.slice va vn vc)
          clear hrb
          refine wpS_begin 11 (S := fun w' => w'.cell? ⟨g, 0, none⟩ = some (.slice (some ⟨tb, 0, none⟩) ts.length lc) ∧ w'.cell? ⟨g, 1, none⟩ = some (.int .i64 ((i : Int) + 1)) ∧ w'.cell? ⟨tb, i * 4, none⟩ = some (.int .i64 t.k) ∧ w'.cell? ⟨tb, i * 4 + 1, none⟩ = some (.int .i64 t.p) ∧ w'.cell? ⟨tb, i * 4 + 2, none⟩ = some (.int .i64 t.n) ∧ w'.cell? ⟨tb, i * 4 + 3, none⟩ = some (.slice va vn vc)) (tabS_of (by kernel_rfl) tab_take5) (by kernel_rfl) (⟨q0, q1, k0, k1, k2, k3⟩) (fun hTb hHeld => ?_)
          generalize w4.drew = w5 at HG5 HP5 HKE HRB HTE HF r0 r1 r2 r3 rz rl q0 q1 q2 q3 q4 k0 k1 k2 k3 hlg4 htl' hHeld ⊢
          refine tks 0 0 67 hTb hHeld ?_
          refine tks 1 1 68 hTb hHeld ?_
          refine tks 2 2 69 hTb hHeld ?_
          refine tks 3 3 70 hTb hHeld ?_
          refine tks 4 4 71 hTb hHeld ?_
          refine tks 5 5 72 hTb hHeld ?_
          refine tks 6 6 73 hTb hHeld ?_
          refine tks 7 7 74 hTb hHeld ?_
          refine tks 8 8 75 hTb hHeld ?_
          refine tks 9 9 76 hTb hHeld ?_
          refine tks 10 10 77 hTb hHeld ?_
          refine wpS_next (S' := fun w' => True) 11 12 hTb (by decide) (trivial) (fun hHeld => ?_)
          refine cls 11 11 hTb (by decide) rfl rfl (fun K hK => ?_)
          go_simp
          refine hK.out _ _ (trivial) (fun hHeld => ?_)
          clear hK K
          refine wpS_end hTb ?_
          go_wp2
          obtain ⟨f0, f1, f2, f3⟩ := tx4 HF.out.1
          rw [HTS.out]
          refine bodyPost_ret (v := .agg #[.int .i64 t.k, .int .i64 t.p, .int .i64 t.n, .slice va vn vc]) (by simp [results, Tryd.results30, go_sem, f0, f1, f2, f3]) rfl ⟨va, vn, vc, rfl, HRB.out.frame fun b hb _ => HF.out.2 b (by have := hSl b hb; omega), ?_, ?_⟩
          · exact ⟨HG5.out.os, HG5.out.tape, HG5.out.output, by simp only [box_size]; exact HG5.out.size, fun b hb hne => (HF.out.2 b (by omega)).trans (HG5.out.block b hb hne)⟩
          · exact (HF.out.2 g (by omega)).trans HP5.out
      · have hk1 : (t.k != k) = true := by simp [hk]
        refine wp_region_held_drew (S := fun w' => w'.cell? ⟨g, 3, none⟩ = some (.bool false) ∧ w'.cell? ⟨g, 1, none⟩ = some (.int .i64 (i : Int)) ∧ w'.cell? ⟨g, 0, none⟩ = some (.slice (some ⟨tb, 0, none⟩) ts.length lc) ∧ w'.cell? ⟨tb, i * 4, none⟩ = some (.int .i64 t.k)) (by kernel_rfl) (⟨q3, q1, q0, k0⟩) (fun hHeld => (show wpAnyH _ _ _ _ _ 50 #[false, false, false, false, false, false, false, false, false, false, false, false, false, false, false, false, false, false, false, false, false, false, false, false, false, false, false, false, false, false, false, false, false, false, false, false, false, false, false, false, false, false, false, false, false, false, false, false, false, false] _ _ from ?_))
        refine tq 0 7 hHeld ?_
        refine tq 1 8 hHeld ?_
        refine tq 2 9 hHeld ?_
        refine tq 3 10 hHeld ?_
        refine tq 4 11 hHeld ?_
        refine tq 5 12 hHeld ?_
        refine tq 6 13 hHeld ?_
        refine tq 7 14 hHeld ?_
        refine tq 8 15 hHeld ?_
        refine tq 9 16 hHeld ?_
        refine tq 10 17 hHeld ?_
        refine tq 11 18 hHeld ?_
        refine tq 12 19 hHeld ?_
        refine tq 13 20 hHeld ?_
        refine tq 14 21 hHeld ?_
        refine tq 15 22 hHeld ?_
        refine tq 16 23 hHeld ?_
        refine tq 17 24 hHeld ?_
        refine tq 18 25 hHeld ?_
        refine tq 19 26 hHeld ?_
        refine tq 20 27 hHeld ?_
        refine tq 21 28 hHeld ?_
        refine tq 22 29 hHeld ?_
        refine tq 23 30 hHeld ?_
        refine tq 24 31 hHeld ?_
        refine tq 25 32 hHeld ?_
        refine tq 26 33 hHeld ?_
        refine tq 27 34 hHeld ?_
        refine tq 28 35 hHeld ?_
        refine tq 29 36 hHeld ?_
        refine tq 30 37 hHeld ?_
        refine tq 31 38 hHeld ?_
        refine wpAnyH_skips (by kernel_rfl) (fun _ _ _ _ _ h => h) hHeld [32, 33, 34, 35, 36, 37, 38, 39, 40, 41, 42, 43, 44, 45, 46, 47, 48] [39, 40, 41, 42, 43, 44, 45, 46, 47, 48, 49, 50, 51, 52, 53, 54, 55] _ _ _ (by kernel_rfl) ?_
        simp only [List.foldl_cons, List.foldl_nil, Act.put, sA, s0, sS]
        refine tq 49 56 hHeld ?_
        refine wpAnyH_done (by kernel_rfl) ?_ _
        go_wp2_with fail
        refine (l4fail_r g _ e ⟨i, false, p⟩ ts S _ HPD.out HTD.out hS (show i ≤ 3000 by omega)).mono ?_
        rintro r w3 ⟨rfl, hG3, hP3⟩
        have HG3 : Hid (w.grownBy w3 (some g)) := gb_trans HGD.out hG3
        have HP3 : Hid (ParP w3 g _ e _) := hP3
        have HK3 : Hid (w3.heap[w.heap.size]? = some (.cells #[.int .i64 0, .int .i64 0, .int .i64 0, .slice none 0 0] 59 (0, 0))) := (hG3.block _ (lt_of_heap HKD.out) (fun h => by cases h; omega)).trans HKD.out
        clear hG3 hP3
        obtain ⟨r0, r1, r2, r3⟩ := tx4 HK3.out
        obtain ⟨rz, rl⟩ := box8z HK3.out
        have HF : Hid _ := tok_put HK3.out (.int .i64 0) (.int .i64 0) (.int .i64 0) (.slice none 0 0)
        go_wp2
        obtain ⟨f0, f1, f2, f3⟩ := tx4 HF.out.1
        have hts : takeS e k least ts ⟨i, false, p⟩ = (zeroT, failS e ts ⟨i, false, p⟩) := by unfold takeS failS; rw [if_neg (by simp), if_neg (by simp), HD.out, takeM, if_neg (fun h => hk h.1), failM]
        rw [hts]
        refine bodyPost_ret (v := .agg #[.int .i64 0, .int .i64 0, .int .i64 0, .slice none 0 0]) (by simp [results, Tryd.results30, go_sem, f0, f1, f2, f3]) rfl ⟨none, 0, 0, rfl, ⟨oct_nil, World.ownsRow_nil _ _ _ _, fun g hg => by simp [Value.ownBlock] at hg⟩, ?_, ?_⟩
        · exact ⟨HG3.out.os, HG3.out.tape, HG3.out.output, by simp only [box_size]; exact HG3.out.size, fun b hb hne => (HF.out.2 b (by omega)).trans (HG3.out.block b hb hne)⟩
        · exact (HF.out.2 g (by omega)).trans HP3.out
    · have hii : ¬ (i : Int) < (ts.length : Int) := by omega
      have hdi : decide ((ts.length : Int) ≤ (i : Int)) = true := decide_eq_true (by omega)
      have hdn : decide (ts.length ≤ i) = true := decide_eq_true (by omega)
      have hnn : ts.length ≤ i := by omega
      refine wp_region_held_drew (S := fun w' => w'.cell? ⟨g, 3, none⟩ = some (.bool false) ∧ w'.cell? ⟨g, 1, none⟩ = some (.int .i64 (i : Int)) ∧ w'.cell? ⟨g, 0, none⟩ = some (.slice la ts.length lc)) (by kernel_rfl) (⟨q3, q1, q0⟩) (fun hHeld => (show wpAnyH _ _ _ _ _ 50 #[false, false, false, false, false, false, false, false, false, false, false, false, false, false, false, false, false, false, false, false, false, false, false, false, false, false, false, false, false, false, false, false, false, false, false, false, false, false, false, false, false, false, false, false, false, false, false, false, false, false] _ _ from ?_))
      refine tq 0 7 hHeld ?_
      refine tq 1 8 hHeld ?_
      refine tq 2 9 hHeld ?_
      refine tq 3 10 hHeld ?_
      refine tq 4 11 hHeld ?_
      refine tq 5 12 hHeld ?_
      refine tq 6 13 hHeld ?_
      refine tq 7 14 hHeld ?_
      refine tq 8 15 hHeld ?_
      refine tq 9 16 hHeld ?_
      refine tq 10 17 hHeld ?_
      refine tq 11 18 hHeld ?_
      refine tq 12 19 hHeld ?_
      refine tq 13 20 hHeld ?_
      refine tq 14 21 hHeld ?_
      refine tq 15 22 hHeld ?_
      refine tq 16 23 hHeld ?_
      refine wpAnyH_skips (by kernel_rfl) (fun _ _ _ _ _ h => h) hHeld [17, 18, 19, 20, 21, 22, 23, 24, 25, 26, 27, 28, 29] [24, 25, 26, 27, 28, 29, 30, 31, 32, 33, 34, 35, 36] _ _ _ (by kernel_rfl) ?_
      simp only [List.foldl_cons, List.foldl_nil, Act.put, sA, s0, sS]
      refine tq 30 37 hHeld ?_
      refine tq 31 38 hHeld ?_
      refine wpAnyH_skips (by kernel_rfl) (fun _ _ _ _ _ h => h) hHeld [32, 33, 34, 35, 36, 37, 38, 39, 40, 41, 42, 43, 44, 45, 46, 47, 48] [39, 40, 41, 42, 43, 44, 45, 46, 47, 48, 49, 50, 51, 52, 53, 54, 55] _ _ _ (by kernel_rfl) ?_
      simp only [List.foldl_cons, List.foldl_nil, Act.put, sA, s0, sS]
      refine tq 49 56 hHeld ?_
      refine wpAnyH_done (by kernel_rfl) ?_ _
      go_wp2_with fail
      refine (l4fail_r g _ e ⟨i, false, p⟩ ts S _ HPD.out HTD.out hS (show i ≤ 3000 by omega)).mono ?_
      rintro r w3 ⟨rfl, hG3, hP3⟩
      have HG3 : Hid (w.grownBy w3 (some g)) := gb_trans HGD.out hG3
      have HP3 : Hid (ParP w3 g _ e _) := hP3
      have HK3 : Hid (w3.heap[w.heap.size]? = some (.cells #[.int .i64 0, .int .i64 0, .int .i64 0, .slice none 0 0] 59 (0, 0))) := (hG3.block _ (lt_of_heap HKD.out) (fun h => by cases h; omega)).trans HKD.out
      clear hG3 hP3
      obtain ⟨r0, r1, r2, r3⟩ := tx4 HK3.out
      obtain ⟨rz, rl⟩ := box8z HK3.out
      have HF : Hid _ := tok_put HK3.out (.int .i64 0) (.int .i64 0) (.int .i64 0) (.slice none 0 0)
      go_wp2
      obtain ⟨f0, f1, f2, f3⟩ := tx4 HF.out.1
      have hts : takeS e k least ts ⟨i, false, p⟩ = (zeroT, failS e ts ⟨i, false, p⟩) := by unfold takeS failS; rw [if_neg (by simp), if_neg (by simp), drop_nil hlt, takeM, failM]
      rw [hts]
      refine bodyPost_ret (v := .agg #[.int .i64 0, .int .i64 0, .int .i64 0, .slice none 0 0]) (by simp [results, Tryd.results30, go_sem, f0, f1, f2, f3]) rfl ⟨none, 0, 0, rfl, ⟨oct_nil, World.ownsRow_nil _ _ _ _, fun g hg => by simp [Value.ownBlock] at hg⟩, ?_, ?_⟩
      · exact ⟨HG3.out.os, HG3.out.tape, HG3.out.output, by simp only [box_size]; exact HG3.out.size, fun b hb hne => (HF.out.2 b (by omega)).trans (HG3.out.block b hb hne)⟩
      · exact (HF.out.2 g (by omega)).trans HP3.out

end Go.Proofs.YtlegmiaoablcgaaDoor
