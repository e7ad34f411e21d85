/- The proof's texts, part 5. -/
import Derived.Test.YtlegmiaoablcgaaGreatDoorPart3
import Derived.Test.YtlegmiaoablcgaaGreatDoorPart4
import Derived.WalkLawsBesides
import Derived.Test.YtlegmiaoablcgaaGreatDoorPart2
import Derived.Lib.SlicesS
import Derived.Deep.DeepCutAuto

/- What giveUp, more, next, name, number of the reader of lines of package impl do: they read, or give up by a panic. -/
namespace Go.Proofs.YtlegmiaoablcgaaGreatDoor
open Go.RowKit
set_option maxRecDepth 100000
set_option linter.unusedVariables false
set_option linter.unusedSimpArgs false

/-- What holds wherever the reader is: where the error lies, and that its block is new and apart. -/
structure Env (w0 : World) (g : Nat) (S : Nat → Prop) (ea : Addr) : Prop where
  gave : Gave w0 ea
  new : w0.heap.size ≤ g
  apart : ¬ S g
theorem Env.ne {w0 : World} {g : Nat} {S : Nat → Prop} {ea : Addr} (h : Env w0 g S ea) : g ≠ 0 := by
  have := h.gave.lt
  have := h.new
  omega

set_option maxRecDepth 100000 in
set_option maxHeartbeats 1000000 in
theorem giveUp_r (g : Nat) (lv tv : Value) (cd pl code p : Int) (ea : Addr) (w : World) (hc : LR w g lv tv cd pl) (hE : Gave w ea) (hne : g ≠ 0) :
    Calls Tryz.prog 51 #[.pointer (some ⟨g, 0, none⟩), .int .i64 code, .int .i64 p] w fun e w' => e = gaveUp ea ∧ Bad w' g code p ∧ w.grownBy w' (some g) := by
  have HB : Hid (Bad ((w.setCell ⟨g, 2, none⟩ (.int .i64 code)).setCell ⟨g, 3, none⟩ (.int .i64 p)) g code p) := ⟨_, _, box_set (i := 3) (v := .int .i64 p) (box_set (i := 2) (v := .int .i64 code) hc)⟩
  have HG : Hid (w.grownBy ((w.setCell ⟨g, 2, none⟩ (.int .i64 code)).setCell ⟨g, 3, none⟩ (.int .i64 p)) (some g)) := gb_set (gb_set (gb_refl _ _))
  have h0 : ((w.setCell ⟨g, 2, none⟩ (.int .i64 code)).setCell ⟨g, 3, none⟩ (.int .i64 p)).cell? ⟨0, 0, none⟩ = _ := hE.gr HG.out hne
  obtain ⟨c0, c1, c2, c3, cz, cl⟩ := tab4 hc
  clear hc hE
  go_enter Tryz.func51, Tryz.ntmps51
  go_wp2
  exact ⟨rfl, rfl, HB.out, HG.out⟩

theorem more_r (g : Nat) (lv tv : Value) (ts : List TokD) (S : Nat → Prop) (w0 w : World) (cd pl : Int) (hc : LR w g lv tv cd pl) (ht : TR w0 w S tv ts) :
    Calls Tryz.prog 50 #[.pointer (some ⟨g, 0, none⟩)] w fun e w' => e = .returned (.bool (decide (0 < ts.length))) ∧ w' = w := by
  obtain ⟨a, cap, rfl, h1, h2⟩ := ht.form
  obtain ⟨c0, c1, c2, c3, cz, cl⟩ := tab4 hc
  clear hc ht
  go_enter Tryz.func50, Tryz.ntmps50
  go_wp2
  go_ret
  exact ⟨by simp, rfl⟩

section
variable {w0 w w1 : World} {g r i : Nat} {S : Nat → Prop} {lv tv v x : Value} {ts : List TokD} {t : TokD}
theorem Rs.setO (h : Rs w0 w g S lv tv ts) (hr : w0.heap.size ≤ r) (hne : g ≠ r) (hS : ¬ S r) : Rs w0 (w.setCell ⟨r, i, none⟩ x) g S lv tv ts :=
  ⟨box_other (k := r) (i := i) (v := x) h.lr hne, h.toks.frame (by rw [box_size]; exact Nat.le_refl _) fun b hb _ => Below.heap_setCell _ _ _ _ (show b ≠ r from fun e => hS (e ▸ hb)), h.bel.setCell (p := ⟨r, i, none⟩) hr _⟩
theorem TX.setO (h : TX w0 w S v t) (hS : ¬ S r) : TX w0 (w.setCell ⟨r, i, none⟩ x) S v t := h.frame fun b hb _ => Below.heap_setCell _ _ _ _ (show b ≠ r from fun e => hS (e ▸ hb))
theorem gb_setN (h : w.grownBy w1 (some g)) (hr : w.heap.size ≤ r) : w.grownBy (w1.setCell ⟨r, i, none⟩ x) (some g) := ⟨h.os, h.tape, h.output, by rw [box_size]; exact h.size, fun k hk hne => (Below.heap_setCell _ _ _ _ (show k ≠ r by omega)).trans (h.block k hk hne)⟩
end
/-- What a step of the reader comes to: a token and where the reader stands behind it, or why it gave up. -/
def NextP (w0 w : World) (g : Nat) (S : Nat → Prop) (lv : Value) (ea : Addr) (r : Except Int (TokD × List TokD)) (e : Ending) (w' : World) : Prop := w.grownBy w' (some g) ∧ match r with
  | .ok p => ∃ a n c tv', e = .returned (.agg #[.int .i64 (sortM p.1.k), .int .i64 p.1.p, .int .i64 p.1.n, .slice a n c]) ∧ Rs w0 w' g S lv tv' p.2 ∧ TX w0 w' S (.slice a n c) p.1
  | .error p => e = gaveUp ea ∧ Bad w' g 3 p

set_option maxRecDepth 100000 in
set_option maxHeartbeats 2000000 in
theorem next_r (g : Nat) (la : Option Addr) (ln lc : Nat) (tv : Value) (ts : List TokD) (S : Nat → Prop) (ea : Addr) (k : Int) (w0 w : World) (hE : Env w0 g S ea) (hr : Rs w0 w g S (.slice la ln lc) tv ts) (hok : ∀ t ∈ ts, OkT t) (hk : 1 ≤ k ∧ k ≤ 5) (hS : ∀ b, S b → b < w.heap.size) (hln : ln ≤ 2000) :
    Calls Tryz.prog 61 #[.pointer (some ⟨g, 0, none⟩), .int .i64 (sortM k)] w (NextP w0 w g S (.slice la ln lc) ea (nextM ln k ts)) := by
  obtain ⟨res, hres⟩ : ∃ res, res = nextM ln k ts := ⟨_, rfl⟩
  have HRES : Hid (res = nextM ln k ts) := hres
  rw [← hres]
  clear hres
  have HR : Hid (Rs w0 w g S (.slice la ln lc) tv ts) := hr
  have HEN : Hid (Env w0 g S ea) := hE
  have hgl : g < w.heap.size := lt_of_heap hr.lr
  have AB : Below w.heap.size w (w.alloc (.cells #[.int .i64 0, .int .i64 0, .int .i64 0, .slice none 0 0] 72)) := (Below.refl _ _).alloc (Nat.le_refl _) _
  have HR1 : Hid (Rs w0 (w.alloc (.cells #[.int .i64 0, .int .i64 0, .int .i64 0, .slice none 0 0] 72)) g S (.slice la ln lc) tv ts) := hr.below AB
  have HG1 : Hid (w.grownBy (w.alloc (.cells #[.int .i64 0, .int .i64 0, .int .i64 0, .slice none 0 0] 72)) (some g)) := gb_below (gb_refl _ _) AB
  have HK1 : Hid ((w.alloc (.cells #[.int .i64 0, .int .i64 0, .int .i64 0, .slice none 0 0] 72)).heap[w.heap.size]? = some (.cells #[.int .i64 0, .int .i64 0, .int .i64 0, .slice none 0 0] 72 (0, 0))) := box_new _ _
  have hs1 : (w.alloc (.cells #[.int .i64 0, .int .i64 0, .int .i64 0, .slice none 0 0] 72)).heap.size = w.heap.size + 1 := by simp
  clear AB hr hE
  go_enter Tryz.func61, Tryz.ntmps61
  go_upto_region 1 with fail
  generalize (w.alloc (.cells #[.int .i64 0, .int .i64 0, .int .i64 0, .slice none 0 0] 72)) = w1 at HR1 HG1 HK1 hs1 ⊢
  have hs1' : w.heap.size + 1 ≤ w1.heap.size := by omega
  have Hs1 : Hid (w1.heap.size = w.heap.size + 1) := hs1
  clear hs1
  go_wp2_with fail
  refine (more_r g _ tv ts S w0 w1 0 0 HR1.out.lr HR1.out.toks).mono ?_
  rintro e w1 ⟨rfl, rfl⟩
  obtain ⟨c0, c1, c2, c3, cz, cl⟩ := tab4 HR1.out.lr
  cases ts with
  | nil =>
    have HRE : Hid (res = .error (ln : Int)) := HRES.out
    go_wp2_with fail
    refine (giveUp_r g _ tv 0 0 3 ln ea _ HR1.out.lr (HEN.out.gave.below HR1.out.bel) HEN.out.ne).mono ?_
    rintro e w3 ⟨rfl, hb, hG⟩
    have HF : Hid (Bad w3 g 3 ln ∧ w.grownBy w3 (some g)) := ⟨hb, gb_trans HG1.out hG⟩
    go_wp2
    refine ⟨rfl, ?_⟩
    rw [HRE.out]
    exact ⟨HF.out.2, rfl, HF.out.1⟩
  | cons t ts =>
    obtain ⟨b, off, cap, xa, xn, xk, rfl, h1, h2, hb, hSb, f0, f1, f2, f3, hX, hT, hT0⟩ := HR1.out.toks.head
    have HX : Hid (TX w0 w1 S (.slice xa xn xk) t) := hX
    have HTT : Hid (TR w0 w1 S (.slice (some ⟨b, off + 4, none⟩) ts.length (cap - 1)) ts ∧ (ts.length = 0 → TR w0 w1 S (.slice (some ⟨b, off, none⟩) ts.length (cap - 1)) ts)) := ⟨hT, hT0⟩
    have hbw := hS b hSb
    have htk := hok t (by simp)
    clear hX hT hT0
    have AB : Below w1.heap.size w1 (w1.alloc (.cells #[.int .i64 (sortM t.k), .int .i64 t.p, .int .i64 t.n, .slice xa xn xk] 72)) := (Below.refl _ _).alloc (Nat.le_refl _) _
    have HR2 : Hid (Rs w0 (w1.alloc (.cells #[.int .i64 (sortM t.k), .int .i64 t.p, .int .i64 t.n, .slice xa xn xk] 72)) g S (.slice la ln lc) _ (t :: ts)) := HR1.out.below AB
    have HG2 : Hid (w.grownBy (w1.alloc (.cells #[.int .i64 (sortM t.k), .int .i64 t.p, .int .i64 t.n, .slice xa xn xk] 72)) (some g)) := gb_below HG1.out AB
    have HK2 : Hid ((w1.alloc (.cells #[.int .i64 (sortM t.k), .int .i64 t.p, .int .i64 t.n, .slice xa xn xk] 72)).heap[w.heap.size]? = some (.cells #[.int .i64 0, .int .i64 0, .int .i64 0, .slice none 0 0] 72 (0, 0))) := box_below AB HK1.out
    have HN2 : Hid ((w1.alloc (.cells #[.int .i64 (sortM t.k), .int .i64 t.p, .int .i64 t.n, .slice xa xn xk] 72)).heap[w1.heap.size]? = some (.cells #[.int .i64 (sortM t.k), .int .i64 t.p, .int .i64 t.n, .slice xa xn xk] 72 (0, 0))) := box_new _ _
    have HX2 : Hid (TX w0 (w1.alloc (.cells #[.int .i64 (sortM t.k), .int .i64 t.p, .int .i64 t.n, .slice xa xn xk] 72)) S (.slice xa xn xk) t) := HX.out.frame fun b _ hl => AB.block b hl
    have HT2 : Hid (TR w0 (w1.alloc (.cells #[.int .i64 (sortM t.k), .int .i64 t.p, .int .i64 t.n, .slice xa xn xk] 72)) S (.slice (some ⟨b, off + 4, none⟩) ts.length (cap - 1)) ts ∧ (ts.length = 0 → TR w0 (w1.alloc (.cells #[.int .i64 (sortM t.k), .int .i64 t.p, .int .i64 t.n, .slice xa xn xk] 72)) S (.slice (some ⟨b, off, none⟩) ts.length (cap - 1)) ts)) := ⟨HTT.out.1.below AB, fun h => (HTT.out.2 h).below AB⟩
    have hs2 : (w1.alloc (.cells #[.int .i64 (sortM t.k), .int .i64 t.p, .int .i64 t.n, .slice xa xn xk] 72)).heap.size = w1.heap.size + 1 := by simp
    clear AB
    go_upto_region 4 with fail
    generalize (w1.alloc (.cells #[.int .i64 (sortM t.k), .int .i64 t.p, .int .i64 t.n, .slice xa xn xk] 72)) = w2 at HR2 HG2 HK2 HN2 HX2 HT2 hs2 ⊢
    have hs2' : w1.heap.size + 1 ≤ w2.heap.size := by omega
    clear hs2 f0 f1 f2 f3 c0 c1 c2 c3 cz cl HR1 HG1 HK1 HX HTT
    obtain ⟨c0, c1, c2, c3, cz, cl⟩ := tab4 HR2.out.lr
    obtain ⟨m0, m1, m2, m3, mz, ml⟩ := tab4 HN2.out
    by_cases hkk : t.k = k
    · subst hkk
      have hsk : (sortM t.k != sortM t.k) = false := by simp
      have HRE : Hid (res = .ok (t, ts)) := by show _ = _; rw [HRES.out]; simp [nextM]
      have hcap : ts.length ≤ cap - 1 := by omega
      have hT : TR w0 w2 S (.slice (if cap = 1 then some ⟨b, off, none⟩ else some ⟨b, off + 4, none⟩) ts.length (cap - 1)) ts := by
        by_cases hc1 : cap = 1
        · rw [if_pos hc1]; exact HT2.out.2 (by omega)
        · rw [if_neg hc1]; exact HT2.out.1
      have hA := HEN.out.apart
      have hold := HEN.out.new
      have hGs : w2.grownBy (w2.setCell ⟨g, 1, none⟩ (.slice (if cap = 1 then some ⟨b, off, none⟩ else some ⟨b, off + 4, none⟩) ts.length (cap - 1))) (some g) := gb_set (gb_refl _ _)
      have HR3 : Hid (Rs w0 (w2.setCell ⟨g, 1, none⟩ (.slice (if cap = 1 then some ⟨b, off, none⟩ else some ⟨b, off + 4, none⟩) ts.length (cap - 1))) g S (.slice la ln lc) (.slice (if cap = 1 then some ⟨b, off, none⟩ else some ⟨b, off + 4, none⟩) ts.length (cap - 1)) ts) := ⟨box_set (i := 1) (v := (.slice (if cap = 1 then some ⟨b, off, none⟩ else some ⟨b, off + 4, none⟩) ts.length (cap - 1))) HR2.out.lr, hT.gb hGs hA, HR2.out.bel.setCell (p := ⟨g, 1, none⟩) hold _⟩
      have HG3 : Hid (w.grownBy (w2.setCell ⟨g, 1, none⟩ (.slice (if cap = 1 then some ⟨b, off, none⟩ else some ⟨b, off + 4, none⟩) ts.length (cap - 1))) (some g)) := gb_set HG2.out
      have HX3 : Hid (TX w0 (w2.setCell ⟨g, 1, none⟩ (.slice (if cap = 1 then some ⟨b, off, none⟩ else some ⟨b, off + 4, none⟩) ts.length (cap - 1))) S (.slice xa xn xk) t) := HX2.out.frame fun b' hb' hl => hGs.block b' hl (fun e => hA (by cases e; exact hb'))
      have HK3 : Hid ((w2.setCell ⟨g, 1, none⟩ (.slice (if cap = 1 then some ⟨b, off, none⟩ else some ⟨b, off + 4, none⟩) ts.length (cap - 1))).heap[w.heap.size]? = some (.cells #[.int .i64 0, .int .i64 0, .int .i64 0, .slice none 0 0] 72 (0, 0))) := box_other (k := g) (i := 1) HK2.out (by omega)
      have HN3 : Hid ((w2.setCell ⟨g, 1, none⟩ (.slice (if cap = 1 then some ⟨b, off, none⟩ else some ⟨b, off + 4, none⟩) ts.length (cap - 1))).heap[w1.heap.size]? = some (.cells #[.int .i64 (sortM t.k), .int .i64 t.p, .int .i64 t.n, .slice xa xn xk] 72 (0, 0))) := box_other (k := g) (i := 1) HN2.out (by omega)
      clear hT hGs
      go_upto_region 7 with fail
      generalize (w2.setCell ⟨g, 1, none⟩ (.slice (if cap = 1 then some ⟨b, off, none⟩ else some ⟨b, off + 4, none⟩) ts.length (cap - 1))) = w3 at HR3 HG3 HX3 HK3 HN3 ⊢
      generalize (Value.slice (if cap = 1 then some ⟨b, off, none⟩ else some ⟨b, off + 4, none⟩) ts.length (cap - 1)) = tv' at HR3 ⊢
      clear c0 c1 c2 c3 cz cl m0 m1 m2 m3 mz ml HR2 HG2 HX2 HK2 HN2 HT2
      obtain ⟨c0, c1, c2, c3, cz, cl⟩ := tab4 HK3.out
      obtain ⟨m0, m1, m2, m3, mz, ml⟩ := tab4 HN3.out
      have hnS : ¬ S w.heap.size := fun h => absurd (hS _ h) (by omega)
      have hge : g ≠ w.heap.size := by omega
      have h00 : w0.heap.size ≤ w.heap.size := HR.out.bel.size
      have HF : Hid (Rs w0 ((((w3.setCell ⟨w.heap.size, 0, none⟩ (.int .i64 (sortM t.k))).setCell ⟨w.heap.size, 1, none⟩ (.int .i64 t.p)).setCell ⟨w.heap.size, 2, none⟩ (.int .i64 t.n)).setCell ⟨w.heap.size, 3, none⟩ (.slice xa xn xk)) g S (.slice la ln lc) tv' ts ∧ w.grownBy ((((w3.setCell ⟨w.heap.size, 0, none⟩ (.int .i64 (sortM t.k))).setCell ⟨w.heap.size, 1, none⟩ (.int .i64 t.p)).setCell ⟨w.heap.size, 2, none⟩ (.int .i64 t.n)).setCell ⟨w.heap.size, 3, none⟩ (.slice xa xn xk)) (some g) ∧ TX w0 ((((w3.setCell ⟨w.heap.size, 0, none⟩ (.int .i64 (sortM t.k))).setCell ⟨w.heap.size, 1, none⟩ (.int .i64 t.p)).setCell ⟨w.heap.size, 2, none⟩ (.int .i64 t.n)).setCell ⟨w.heap.size, 3, none⟩ (.slice xa xn xk)) S (.slice xa xn xk) t) := ⟨(((HR3.out.setO h00 hge hnS).setO h00 hge hnS).setO h00 hge hnS).setO h00 hge hnS, gb_setN (gb_setN (gb_setN (gb_setN HG3.out (Nat.le_refl _)) (Nat.le_refl _)) (Nat.le_refl _)) (Nat.le_refl _), (((HX3.out.setO hnS).setO hnS).setO hnS).setO hnS⟩
      have HKF : Hid (((((w3.setCell ⟨w.heap.size, 0, none⟩ (.int .i64 (sortM t.k))).setCell ⟨w.heap.size, 1, none⟩ (.int .i64 t.p)).setCell ⟨w.heap.size, 2, none⟩ (.int .i64 t.n)).setCell ⟨w.heap.size, 3, none⟩ (.slice xa xn xk)).heap[w.heap.size]? = some (.cells #[.int .i64 (sortM t.k), .int .i64 t.p, .int .i64 t.n, .slice xa xn xk] 72 (0, 0))) := box_set (i := 3) (box_set (i := 2) (box_set (i := 1) (box_set (i := 0) HK3.out)))
      go_wp2
      obtain ⟨f0, f1, f2, f3⟩ := tx4 HKF.out
      refine bodyPost_ret (v := .agg #[.int .i64 (sortM t.k), .int .i64 t.p, .int .i64 t.n, .slice xa xn xk]) (by simp [results, Tryz.results61, go_sem, f0, f1, f2, f3]) rfl ?_
      rw [HRE.out]
      exact ⟨HF.out.2.1, _, _, _, _, rfl, HF.out.1, HF.out.2.2⟩
    · have hsk : (sortM t.k != sortM k) = true := by
        have := sort_eq ⟨htk.1, htk.2.1⟩ hk
        simp [this, hkk]
      have HRE : Hid (res = .error t.p) := by show _ = _; rw [HRES.out]; simp [nextM, hkk]
      go_wp2_with fail
      refine (giveUp_r g _ _ 0 0 3 t.p ea _ HR2.out.lr (HEN.out.gave.below HR2.out.bel) HEN.out.ne).mono ?_
      rintro e w3 ⟨rfl, hb, hG⟩
      have HF : Hid (Bad w3 g 3 t.p ∧ w.grownBy w3 (some g)) := ⟨hb, gb_trans HG2.out hG⟩
      go_wp2
      refine ⟨rfl, ?_⟩
      rw [HRE.out]
      exact ⟨HF.out.2, rfl, HF.out.1⟩

theorem run_field3 (a b c : Int) (x : Option Addr) (y z : Nat) (w : World) : (Instr.field 72 (.agg #[.int .i64 a, .int .i64 b, .int .i64 c, .slice x y z]) 3).run Tryz.prog w = .ok (.slice x y z) w := by kernel_rfl
theorem run_field2 (a b c : Int) (x : Option Addr) (y z : Nat) (w : World) : (Instr.field 72 (.agg #[.int .i64 a, .int .i64 b, .int .i64 c, .slice x y z]) 2).run Tryz.prog w = .ok (.int .i64 c) w := by kernel_rfl
/-- Tokens taken of a list leave its others. -/
theorem next_mem {e k : Int} {ts : List TokD} {p : TokD × List TokD} (h : nextM e k ts = .ok p) : (∀ t ∈ p.2, t ∈ ts) ∧ p.1 ∈ ts ∧ p.1.k = k := by
  cases ts with
  | nil => simp [nextM] at h
  | cons t r =>
    simp only [nextM] at h
    split at h
    · rename_i hk
      cases h
      exact ⟨fun t ht => by simp [ht], by simp, hk⟩
    · cases h
theorem gave_gb {w w' : World} {ea : Addr} {g : Nat} (h : Gave w ea) (hg : w.grownBy w' (some g)) (hne : g ≠ 0) : Gave w' ea := h.gr hg hne
/-- What name comes to. -/
def NameP (w0 w : World) (g : Nat) (S : Nat → Prop) (lv : Value) (ea : Addr) (r : Except Int (TokD × List TokD)) (e : Ending) (w' : World) : Prop := w.grownBy w' (some g) ∧ match r with
  | .ok p => ∃ u tv', e = .returned u ∧ Rs w0 w' g S lv tv' p.2 ∧ Row w' w.heap.size w'.heap.size u p.1.tx
  | .error p => e = gaveUp ea ∧ Bad w' g 3 p

set_option maxRecDepth 100000 in
set_option maxHeartbeats 2000000 in
theorem name_r (g : Nat) (la : Option Addr) (ln lc : Nat) (tv : Value) (ts : List TokD) (S : Nat → Prop) (ea : Addr) (w0 w : World) (hE : Env w0 g S ea) (hr : Rs w0 w g S (.slice la ln lc) tv ts) (hok : ∀ t ∈ ts, OkT t) (hS : ∀ b, S b → b < w.heap.size) (hln : ln ≤ 2000) :
    Calls Tryz.prog 60 #[.pointer (some ⟨g, 0, none⟩)] w (NameP w0 w g S (.slice la ln lc) ea (nextM ln 2 ts)) := by
  have hn := next_r g la ln lc tv ts S ea 2 w0 w hE hr hok (by omega) hS hln
  rw [show sortM 2 = 1 from rfl] at hn
  cases hres : nextM ln 2 ts with
  | error p =>
    rw [hres] at hn
    clear hres hr
    go_enter Tryz.func60, Tryz.ntmps60
    go_wp2_with fail
    refine hn.mono ?_
    rintro e w1 ⟨hG, rfl, hb⟩
    have HF : Hid (w.grownBy w1 (some g) ∧ Bad w1 g 3 p) := ⟨hG, hb⟩
    clear hG hb
    go_wp2
    exact ⟨rfl, HF.out.1, rfl, HF.out.2⟩
  | ok p =>
    have hm := next_mem hres
    have ht := hok p.1 hm.2.1
    rw [hres] at hn
    have h5 : p.1.k ≠ 5 := by rw [hm.2.2]; decide
    clear hres hr
    obtain ⟨⟨tk, tp, tn, tx⟩, ts'⟩ := p
    simp only at h5 ht
    clear hm
    go_enter Tryz.func60, Tryz.ntmps60
    go_wp2_with fail
    refine hn.mono ?_
    rintro e w1 ⟨hG, a, n, c, tv', rfl, hR, hX⟩
    simp only at hR hX
    have hfd := fun w' => run_field3 (sortM tk) tp tn a n c w'
    have hbs : Bs w1 (.slice a n c) tx := hX.2 h5 w1 hR.bel
    have HG : Hid (w.grownBy w1 (some g)) := hG
    have HR : Hid (Rs w0 w1 g S (.slice la ln lc) tv' ts') := hR
    have HB : Hid (Bs w1 (.slice a n c) tx) := hbs
    have hlt : tx.length ≤ 2000 := ht.2.2.2.2.1
    clear hG hR hX hbs
    go_wp2_with fail
    refine (joined_r _ _ tx [] w1 HB.out (bs_nil _) (by omega) (by simp)).mono ?_
    rintro e w2 ⟨u, rfl, hrow, hB2⟩
    rw [List.append_nil] at hrow
    have HF : Hid (w.grownBy w2 (some g) ∧ Rs w0 w2 g S (.slice la ln lc) tv' ts' ∧ Row w2 w.heap.size w2.heap.size u tx) := ⟨gb_below HG.out hB2, HR.out.below hB2, hrow.wide HG.out.size (Nat.le_refl _)⟩
    obtain ⟨ua, un, uc, hu⟩ := (Row.bs hrow).form3
    subst hu
    clear hrow hB2
    go_wp2
    go_ret
    exact ⟨HF.out.1, _, _, rfl, HF.out.2.1, HF.out.2.2⟩

/-- What number comes to. -/
def NumP (w0 w : World) (g : Nat) (S : Nat → Prop) (lv : Value) (ea : Addr) (r : Except Int (TokD × List TokD)) (e : Ending) (w' : World) : Prop := w.grownBy w' (some g) ∧ match r with
  | .ok p => ∃ tv', e = .returned (.int .i64 p.1.n) ∧ Rs w0 w' g S lv tv' p.2
  | .error p => e = gaveUp ea ∧ Bad w' g 3 p
theorem take_next (e k least : Int) (ts : List TokD) : takeM e k least ts = match nextM e k ts with
    | .error p => .error p
    | .ok p => if k = 3 → least ≤ p.1.n then .ok p else .error p.1.p := by
  cases ts with
  | nil => rfl
  | cons t r =>
    simp only [takeM, nextM]
    by_cases h : t.k = k
    · simp [h]
    · simp [h]

set_option maxRecDepth 100000 in
set_option maxHeartbeats 2000000 in
theorem number_r (g : Nat) (la : Option Addr) (ln lc : Nat) (tv : Value) (ts : List TokD) (S : Nat → Prop) (ea : Addr) (least : Int) (w0 w : World) (hE : Env w0 g S ea) (hr : Rs w0 w g S (.slice la ln lc) tv ts) (hok : ∀ t ∈ ts, OkT t) (hS : ∀ b, S b → b < w.heap.size) (hln : ln ≤ 2000) :
    Calls Tryz.prog 64 #[.pointer (some ⟨g, 0, none⟩), .int .i64 least] w (NumP w0 w g S (.slice la ln lc) ea (takeM ln 3 least ts)) := by
  have hn := next_r g la ln lc tv ts S ea 3 w0 w hE hr hok (by omega) hS hln
  have HEN : Hid (Env w0 g S ea) := hE
  rw [show sortM 3 = 0 from rfl] at hn
  rw [take_next]
  cases hres : nextM ln 3 ts with
  | error p =>
    rw [hres] at hn
    clear hres hr
    go_enter Tryz.func64, Tryz.ntmps64
    go_wp2_with fail
    refine hn.mono ?_
    rintro e w1 ⟨hG, rfl, hb⟩
    have HF : Hid (w.grownBy w1 (some g) ∧ Bad w1 g 3 p) := ⟨hG, hb⟩
    clear hG hb
    go_wp2
    exact ⟨rfl, HF.out.1, rfl, HF.out.2⟩
  | ok p =>
    rw [hres] at hn
    clear hres hr
    obtain ⟨⟨tk, tp, tn, tx⟩, ts'⟩ := p
    show Calls _ _ _ _ (NumP w0 w g S (.slice la ln lc) ea (if (3 : Int) = 3 → least ≤ tn then .ok (⟨tk, tp, tn, tx⟩, ts') else .error tp))
    obtain ⟨res, hres⟩ : ∃ res : Except Int (TokD × List TokD), res = if (3 : Int) = 3 → least ≤ tn then .ok (⟨tk, tp, tn, tx⟩, ts') else .error tp := ⟨_, rfl⟩
    have HRES : Hid (res = if (3 : Int) = 3 → least ≤ tn then .ok (⟨tk, tp, tn, tx⟩, ts') else .error tp) := hres
    rw [← hres]
    clear hres
    go_enter Tryz.func64, Tryz.ntmps64
    go_wp2_with fail
    refine hn.mono ?_
    rintro e w1 ⟨hG, a, n, c, tv', rfl, hR, -⟩
    simp only at hR
    have AB : Below w1.heap.size w1 (w1.alloc (.cells #[.int .i64 (sortM tk), .int .i64 tp, .int .i64 tn, .slice a n c] 72)) := (Below.refl _ _).alloc (Nat.le_refl _) _
    have HG : Hid (w.grownBy (w1.alloc (.cells #[.int .i64 (sortM tk), .int .i64 tp, .int .i64 tn, .slice a n c] 72)) (some g)) := gb_below hG AB
    have HR : Hid (Rs w0 (w1.alloc (.cells #[.int .i64 (sortM tk), .int .i64 tp, .int .i64 tn, .slice a n c] 72)) g S (.slice la ln lc) tv' ts') := hR.below AB
    have HK : Hid ((w1.alloc (.cells #[.int .i64 (sortM tk), .int .i64 tp, .int .i64 tn, .slice a n c] 72)).heap[w1.heap.size]? = some (.cells #[.int .i64 (sortM tk), .int .i64 tp, .int .i64 tn, .slice a n c] 72 (0, 0))) := box_new _ _
    clear hG hR AB
    go_upto_region 2 with fail
    generalize (w1.alloc (.cells #[.int .i64 (sortM tk), .int .i64 tp, .int .i64 tn, .slice a n c] 72)) = w2 at HG HR HK ⊢
    obtain ⟨c0, c1, c2, c3, cz, cl⟩ := tab4 HK.out
    by_cases hle : tn < least
    · have HRE : Hid (res = .error tp) := by show _ = _; rw [HRES.out, if_neg (by simp; omega)]
      go_wp2_with fail
      refine (giveUp_r g _ tv' 0 0 3 tp ea _ HR.out.lr (HEN.out.gave.below HR.out.bel) HEN.out.ne).mono ?_
      rintro e w3 ⟨rfl, hb, hG⟩
      have HF : Hid (Bad w3 g 3 tp ∧ w.grownBy w3 (some g)) := ⟨hb, gb_trans HG.out hG⟩
      clear hb hG
      go_wp2
      refine ⟨rfl, ?_⟩
      rw [HRE.out]
      exact ⟨HF.out.2, rfl, HF.out.1⟩
    · have HRE : Hid (res = .ok (⟨tk, tp, tn, tx⟩, ts')) := by show _ = _; rw [HRES.out, if_pos (by intro; omega)]
      go_wp2
      go_ret
      rw [HRE.out]
      exact ⟨HG.out, _, rfl, HR.out⟩

end Go.Proofs.YtlegmiaoablcgaaGreatDoor

/- What cut of the reader of lines of package impl does. -/
namespace Go.Proofs.YtlegmiaoablcgaaGreatDoor
open Go.RowKit
set_option maxRecDepth 100000
set_option linter.unusedVariables false
set_option linter.unusedSimpArgs false

theorem tab_cut7 : (Tryz.f48.body.bind (opsAt 7)).all (fun o => tableS o 11 [0, 1, 2, 3, 4, 5, 6, 7, 8, 9, 10] [6, 7, 10] [8, 11] 11) = true := by kernel_rfl
/-- What cut comes to. -/
def CutP (w0 w : World) (g : Nat) (lv : Value) (ea : Addr) (r : Except Int (List TokD)) (e : Ending) (w' : World) : Prop := w.grownBy w' (some g) ∧ match r with
  | .ok ts => ∃ tv, e = .returned (.tuple #[]) ∧ LR w' g lv tv 0 0 ∧ ToksI w0 w' (In w.heap.size w'.heap.size) tv ts
  | .error p => e = gaveUp ea ∧ Bad w' g 2 p

set_option maxRecDepth 100000 in
set_option maxHeartbeats 4000000 in
theorem cut_r (g : Nat) (lv : Value) (l : List Int) (ea : Addr) (w0 w : World) (hv : Bs w0 lv l) (hw0 : Below w0.heap.size w0 w) (hE : Gave w0 ea) (hold : w0.heap.size ≤ g) (hr : LR w g lv (.slice none 0 0) 0 0) (hl : l.length ≤ 2000) (ht : Tab10 w0) (he : Errs w0) :
    Calls Tryz.prog 48 #[.pointer (some ⟨g, 0, none⟩)] w (CutP w0 w g lv ea (lexM (l.length + 1) 0 l)) := by
  obtain ⟨res, hres⟩ : ∃ res, res = lexM (l.length + 1) 0 l := ⟨_, rfl⟩
  have HRES : Hid (res = lexM (l.length + 1) 0 l) := hres
  rw [← hres]
  clear hres
  have HV : Hid (Bs w0 lv l) := hv
  have HEE : Hid (Gave w0 ea ∧ Tab10 w0 ∧ Errs w0) := ⟨hE, ht, he⟩
  have hgl : g < w.heap.size := lt_of_heap hr
  have h00 := hw0.size
  have hneg : g ≠ 0 := by have := hE.lt; omega
  obtain ⟨ho, la, lc, rfl, hlc, hcm, hnil, hcells⟩ := hv
  unfold maxLen at hcm
  have HCC : Hid (∀ k, k < l.length → ∃ b off, la = some ⟨b, off, none⟩ ∧ b < w0.heap.size ∧ w0.cell? ⟨b, off + k, none⟩ = some (.int .u8 (l.getD k 0))) := fun k hk => let ⟨b, off, e, h1, h2⟩ := hcells (by omega); ⟨b, off, e, h1, h2 k hk⟩
  have HO : Hid (Oct l) := ho
  have HR : Hid (LR w g (.slice la l.length lc) (.slice none 0 0) 0 0) := hr
  obtain ⟨i0, hi, hz0, hz1, hz2⟩ := info_parts infoTokI
  clear hcells hr
  go_enter Tryz.func48, Tryz.ntmps48
  go_wp2
  go_loopw [2] (fun iv wr => ∃ (k f : Nat) (ts : List TokD) (va : Option Addr) (vn vc : Nat), k ≤ l.length ∧ l.length - k < f ∧ ts.length ≤ k ∧ iv = .int .i64 k ∧ Hid (res = preM ts (lexM f k (l.drop k))) ∧ Hid (LR wr g (.slice la l.length lc) (.slice va vn vc) 0 0) ∧ Hid (ToksI w0 wr (In w.heap.size wr.heap.size) (.slice va vn vc) ts) ∧ Hid (w.grownBy wr (some g)) ∧ Hid (Below w0.heap.size w0 wr)) (fun iv _ => l.length - (intOf iv).toNat)
  case atStart => exact ⟨0, l.length + 1, [], none, 0, 0, Nat.zero_le _, by omega, Nat.zero_le _, rfl, by show _ = _; rw [preM_nil]; exact HRES.out, HR, .inl ⟨rfl, rfl⟩, gb_refl _ _, hw0⟩
  case round =>
    obtain ⟨k, f, ts, va, vn, vc, hk, hf, htl, rfl, HRR, HL, HT, HG, HB⟩ := hrel
    have hwr := HG.out.size
    obtain ⟨c0, c1, c2, c3, cz, cl⟩ := tab4 HL.out
    by_cases hlt : k < l.length
    · obtain ⟨b, off, rfl, hlb, hyc⟩ := HCC.out k hlt
      have hyo := oct_get HO.out k
      have HDR : Hid (l.drop k = l.getD k 0 :: l.drop (k + 1)) := drop_cons hlt
      have hki : (k : Int) < (l.length : Int) := by omega
      obtain ⟨f', rfl⟩ : ∃ f', f = f' + 1 := ⟨f - 1, by omega⟩
      generalize l.getD k 0 = y at hyc hyo HDR
      have hyr : wr.cell? ⟨b, off + k, none⟩ = some (.int .u8 y) := (HB.out.cell (p := ⟨b, off + k, none⟩) hlb).trans hyc
      have hlbr : b < wr.heap.size := by omega
      by_cases hy : y = 32
      · subst hy
        have HR2 : Hid (res = preM ts (lexM f' ((k + 1 : Nat) : Int) (l.drop (k + 1)))) := by
          show _ = _
          rw [HRR.out, HDR.out, lexM, if_pos rfl]
          rfl
        go_wp2
        go_roundw
        case rel => exact ⟨k + 1, f', ts, va, vn, vc, by omega, by omega, by omega, by go_num, HR2, HL, HT, HG, HB⟩
        case measure => simp [intOf]; omega
      · have hy1 : (y == 32) = false := by simp [hy]
        have HRL : Hid (lexM (f' + 1) k (l.drop k) = match oneM k (l.drop k) with
            | none => .error (k : Int)
            | some p => match lexM f' (k + ((l.drop k).length - p.2.length)) p.2 with
              | .ok ts => .ok (p.1 :: ts)
              | .error e => .error e) := by
          show _ = _
          rw [HDR.out, lexM, if_neg hy]
          rfl
        go_wp2_with fail
        refine (tokenAt_r _ l k w0 wr HV.out HB.out hlt hl HEE.out.2.1 HEE.out.2.2).mono ?_
        rintro e w1 ⟨B1, hP⟩
        have HL1 : Hid (LR w1 g _ _ 0 0) := box_below B1 HL.out
        have HG1 : Hid (w.grownBy w1 (some g)) := gb_below HG.out B1
        have HB1 : Hid (Below w0.heap.size w0 w1) := Below.step HB.out B1
        have hw1 : wr.heap.size ≤ w1.heap.size := B1.size
        cases hone : oneM k (l.drop k) with
        | none =>
          rw [hone] at hP
          obtain ⟨d0, d1, d2, ua, un, uc, rfl⟩ := hP
          have HRE : Hid (res = .error (k : Int)) := by
            show _ = _
            rw [HRR.out, HRL.out, hone]
            rfl
          clear B1 hone
          go_wp2_with fail
          have AB : Below w1.heap.size w1 (w1.alloc (.cells #[.int .i64 d0, .int .i64 d1, .int .i64 d2, .slice ua un uc] 72)) := (Below.refl _ _).alloc (Nat.le_refl _) _
          refine (giveUp_r g _ _ 0 0 2 k ea _ (box_below AB HL1.out) (HEE.out.1.below (Below.step HB1.out AB)) hneg).mono ?_
          rintro e w3 ⟨rfl, hb, hG⟩
          have HF : Hid (Bad w3 g 2 k ∧ w.grownBy w3 (some g)) := ⟨hb, gb_trans (gb_below HG1.out AB) hG⟩
          clear hb hG AB
          go_wp2
          refine ⟨rfl, ?_⟩
          rw [HRE.out]
          exact ⟨HF.out.2, rfl, HF.out.1⟩
        | some p =>
          rw [hone] at hP
          obtain ⟨ua, un, uc, rfl, hX⟩ := hP
          obtain ⟨hsuf, -⟩ := oneM_suf hone
          obtain ⟨K, hK⟩ : ∃ K, K = l.length - p.2.length := ⟨_, rfl⟩
          have hsl := hsuf.length_le
          rw [List.length_drop] at hsl
          have hp2 : p.2 = l.drop K := by rw [hK]; exact List.suffix_iff_eq_drop.1 (hsuf.trans (List.drop_suffix k l))
          have hlen : p.2.length < (l.drop k).length := oneM_less hone
          rw [List.length_drop] at hlen
          have HRN : Hid (res = preM (ts ++ [p.1]) (lexM f' (K : Int) (l.drop K))) := by
            show _ = _
            rw [preM_snoc, HRR.out, HRL.out, hone]
            simp only
            rw [show (k : Int) + (((l.drop k).length : Int) - (p.2.length : Int)) = (K : Int) by rw [List.length_drop]; omega, ← hp2]
            all_goals (cases lexM f' (K : Int) p.2 <;> rfl)
          rw [← hK]
          generalize hpk : p.1 = t at HRN hX
          have hKl : k < K ∧ K ≤ l.length := by omega
          have hKn : ¬ ((K : Int) < 0) := by omega
          have AB : Below w1.heap.size w1 (w1.alloc (.cells #[.int .i64 (sortM t.k), .int .i64 t.p, .int .i64 t.n, .slice ua un uc] 72)) := (Below.refl _ _).alloc (Nat.le_refl _) _
          have HL2 : Hid (LR (w1.alloc (.cells #[.int .i64 (sortM t.k), .int .i64 t.p, .int .i64 t.n, .slice ua un uc] 72)) g _ _ 0 0) := box_below AB HL1.out
          have HG2 : Hid (w.grownBy (w1.alloc (.cells #[.int .i64 (sortM t.k), .int .i64 t.p, .int .i64 t.n, .slice ua un uc] 72)) (some g)) := gb_below HG1.out AB
          have HX2 : Hid (TX w0 (w1.alloc (.cells #[.int .i64 (sortM t.k), .int .i64 t.p, .int .i64 t.n, .slice ua un uc] 72)) (In wr.heap.size w1.heap.size) (.slice ua un uc) t) := hX.frame fun b _ hlt => AB.block b hlt
          have HT2 : Hid (ToksI w0 (w1.alloc (.cells #[.int .i64 (sortM t.k), .int .i64 t.p, .int .i64 t.n, .slice ua un uc] 72)) (In w.heap.size wr.heap.size) (.slice va vn vc) ts) := Ow.below (framesTokI w0) (Ow.below (framesTokI w0) HT.out B1) AB
          have HN2 : Hid ((w1.alloc (.cells #[.int .i64 (sortM t.k), .int .i64 t.p, .int .i64 t.n, .slice ua un uc] 72)).heap[w1.heap.size]? = some (.cells #[.int .i64 (sortM t.k), .int .i64 t.p, .int .i64 t.n, .slice ua un uc] 72 (0, 0))) := box_new _ _
          have hs2 : (w1.alloc (.cells #[.int .i64 (sortM t.k), .int .i64 t.p, .int .i64 t.n, .slice ua un uc] 72)).heap.size = w1.heap.size + 1 := by simp
          clear hX hone HRL B1 hsuf hp2 hK AB c0 c1 c2 c3 cz cl
          go_upto_region 7 with fail
          generalize (w1.alloc (.cells #[.int .i64 (sortM t.k), .int .i64 t.p, .int .i64 t.n, .slice ua un uc] 72)) = w2 at HL2 HG2 HX2 HT2 HN2 hs2 ⊢
          have hs2' : w1.heap.size + 1 ≤ w2.heap.size := by omega
          clear hs2
          have HX3 : Hid (TX w0 w2 (In wr.heap.size w2.heap.size) (.slice ua un uc) t) := HX2.out.mono fun b hb => ⟨hb.1, by have := hb.2; omega⟩
          clear HX2
          have HX2 : Hid (TX w0 w2 (In wr.heap.size w2.heap.size) (.slice ua un uc) t) := HX3.out
          have HS : Hid (∀ w', Below w2.heap.size w2 w' → w'.cell? ⟨g, 1, none⟩ = some (.slice va vn vc) ∧ w'.cell? ⟨w1.heap.size, 0, none⟩ = some (.int .i64 (sortM t.k)) ∧ w'.cell? ⟨w1.heap.size, 1, none⟩ = some (.int .i64 t.p) ∧ w'.cell? ⟨w1.heap.size, 2, none⟩ = some (.int .i64 t.n) ∧ w'.cell? ⟨w1.heap.size, 3, none⟩ = some (.slice ua un uc)) := fun w' h => ⟨(tab4 (box_below h HL2.out)).2.1, tx4 (box_below h HN2.out)⟩
          obtain ⟨c0, c1, c2, c3, cz, cl⟩ := tab4 HL2.out
          have HS2 : Hid (∀ w' : World, (∀ j, wr.heap.size ≤ j → j < (w2.drew.alloc (.cells #[.int .i64 (sortM t.k), .int .i64 t.p, .int .i64 t.n, .slice ua un uc] 72)).heap.size → w'.heap[j]? = (w2.drew.alloc (.cells #[.int .i64 (sortM t.k), .int .i64 t.p, .int .i64 t.n, .slice ua un uc] 72)).heap[j]?) → w'.cell? ⟨w1.heap.size, 0, none⟩ = some (.int .i64 (sortM t.k)) ∧ w'.cell? ⟨w1.heap.size, 1, none⟩ = some (.int .i64 t.p) ∧ w'.cell? ⟨w1.heap.size, 2, none⟩ = some (.int .i64 t.n) ∧ w'.cell? ⟨w1.heap.size, 3, none⟩ = some (.slice ua un uc)) := fun w' h => by
            have AB : Below w2.heap.size w2 (w2.drew.alloc (.cells #[.int .i64 (sortM t.k), .int .i64 t.p, .int .i64 t.n, .slice ua un uc] 72)) := ((Below.refl _ _).drew).alloc (Nat.le_refl _) _
            have hb := box_below AB HN2.out
            exact tx4 ((h w1.heap.size hw1 (lt_of_heap hb)).trans hb)
          refine wpS_begin 8 (S := fun w' => w'.cell? ⟨g, 1, none⟩ = some (.slice va vn vc) ∧ w'.cell? ⟨w1.heap.size, 0, none⟩ = some (.int .i64 (sortM t.k)) ∧ w'.cell? ⟨w1.heap.size, 1, none⟩ = some (.int .i64 t.p) ∧ w'.cell? ⟨w1.heap.size, 2, none⟩ = some (.int .i64 t.n) ∧ w'.cell? ⟨w1.heap.size, 3, none⟩ = some (.slice ua un uc)) (tabS_of (by kernel_rfl) tab_cut7) (by kernel_rfl) (HS.out _ ((Below.refl _ _).drew)) (fun hTb hHeld => ?_)
          refine tks 0 0 36 hTb hHeld ?_
          refine tks 1 1 37 hTb hHeld ?_
          refine tks 2 2 38 hTb hHeld ?_
          refine tks 3 3 39 hTb hHeld ?_
          refine tks 4 4 40 hTb hHeld ?_
          refine tks 5 5 41 hTb hHeld ?_
          refine cls 6 6 hTb (by decide) rfl rfl (fun K hK => ?_)
          go_simp
          have AB : Below w2.heap.size w2 (w2.drew.alloc (.cells #[.int .i64 (sortM t.k), .int .i64 t.p, .int .i64 t.n, .slice ua un uc] 72)) := ((Below.refl _ _).drew).alloc (Nat.le_refl _) _
          refine hK.out _ _ (HS.out _ AB) (fun hHeld => ?_)
          clear hK K
          refine cls 7 7 hTb (by decide) rfl rfl (fun K hK => ?_)
          have hMs : wr.heap.size ≤ (w2.drew.alloc (.cells #[.int .i64 (sortM t.k), .int .i64 t.p, .int .i64 t.n, .slice ua un uc] 72)).heap.size := by simp only [World.size_alloc]; show _ ≤ w2.heap.size + 1; omega
          have HEa : TokI w0 (w2.drew.alloc (.cells #[.int .i64 (sortM t.k), .int .i64 t.p, .int .i64 t.n, .slice ua un uc] 72)) [.int .i64 (sortM t.k), .int .i64 t.p, .int .i64 t.n, .slice ua un uc] t (In wr.heap.size (w2.drew.alloc (.cells #[.int .i64 (sortM t.k), .int .i64 t.p, .int .i64 t.n, .slice ua un uc] 72)).heap.size) := ⟨ua, un, uc, rfl, (HX2.out.frame fun b _ hlt => AB.block b hlt).mono fun b hb => ⟨hb.1, Nat.lt_of_lt_of_le hb.2 AB.size⟩⟩
          have hl1 : ts.length + 1 ≤ maxLen := by unfold maxLen; omega
          have hl2 : (ts.length + 1) * 48 ≤ 140737488355328 := by omega
          refine ite_w2 (by kernel_rfl) (wp_push 43 rfl (.tmp 40) (.tmp 42) rfl (framesTokI w0) (B := w.heap.size) (M := wr.heap.size) (Ow.below (framesTokI w0) HT2.out AB) hMs hwr Tryz.underlying54 hi hz0 hz1 hz2 rfl (by omega) rfl t [.int .i64 (sortM t.k), .int .i64 t.p, .int .i64 t.n, .slice ua un uc] rfl HEa ⟨w2.heap.size, 0, none⟩ 1 rfl (cells_new w2.drew _ _) one_tok hl1 hl2 ?_)
          intro DV wz hO hgz hvz
          obtain ⟨da, dn, dc, hDV⟩ := toki_form hO
          subst hDV
          have hgne : ∀ j, (Value.slice va vn vc).ownBlock = some j → j ≠ g := fun j hj => by have := (hvz j hj).1; omega
          have KX : wz.heap[g]? = some (.cells #[.slice (some ⟨b, off, none⟩) l.length lc, .slice va vn vc, .int .i64 0, .int .i64 0] 56 (0, 0)) := (hgz.block g (lt_of_heap (box_below AB HL2.out)) (fun e => hgne g e.symm rfl)).trans (box_below AB HL2.out)
          have HGz : Hid (w.grownBy wz (some g)) := ⟨hgz.os.trans (AB.os.trans HG2.out.os), hgz.tape.trans (AB.tape.trans HG2.out.tape), hgz.output.trans (AB.output.trans HG2.out.output), Nat.le_trans HG2.out.size (Nat.le_trans AB.size hgz.size), fun j hj hne => ((hgz.block j (Nat.lt_of_lt_of_le hj (Nat.le_trans HG2.out.size AB.size)) (fun e => by have := (hvz j e.symm).1; omega)).trans (AB.block j (Nat.lt_of_lt_of_le hj HG2.out.size))).trans (HG2.out.block j hj hne)⟩
          have HBz : Hid (Below w0.heap.size w0 wz) := ⟨HGz.out.os.trans hw0.os, HGz.out.tape.trans hw0.tape, HGz.out.output.trans hw0.output, Nat.le_trans hw0.size HGz.out.size, fun j hj => (HGz.out.block j (by omega) (by simp; omega)).trans (hw0.block j hj)⟩
          obtain ⟨d0, d1, d2, d3, zx, zl⟩ := tab4 KX
          have HO : Hid (ToksI w0 wz (In w.heap.size wz.heap.size) (.slice da dn dc) (ts ++ [t])) := hO
          refine hK.out _ _ (⟨d1, (HS2.out wz (fun j hj1 hj2 => hgz.block j hj2 (fun e => by have := (hvz j e.symm).2; omega)))⟩) (fun hHeld => ?_)
          clear hK K
          refine wpS_next (S' := fun w' => True) 8 11 hTb (by decide) (trivial) (fun hHeld => ?_)
          refine tks 8 8 44 hTb hHeld ?_
          refine tks 9 9 45 hTb hHeld ?_
          refine cls 10 10 hTb (by decide) rfl rfl (fun K hK => ?_)
          go_simp
          refine hK.out _ _ (trivial) (fun hHeld => ?_)
          clear hK K
          refine wpS_end hTb ?_
          have HL5 : Hid (LR (wz.setCell ⟨g, 1, none⟩ (.slice da dn dc)) g (.slice (some ⟨b, off, none⟩) l.length lc) (.slice da dn dc) 0 0) := box_set (i := 1) (v := .slice da dn dc) KX
          have HG5 : Hid (w.grownBy (wz.setCell ⟨g, 1, none⟩ (.slice da dn dc)) (some g)) := gb_set HGz.out
          have HB5 : Hid (Below w0.heap.size w0 (wz.setCell ⟨g, 1, none⟩ (.slice da dn dc))) := HBz.out.setCell (p := ⟨g, 1, none⟩) hold _
          have HT5 : Hid (ToksI w0 (wz.setCell ⟨g, 1, none⟩ (.slice da dn dc)) (In w.heap.size (wz.setCell ⟨g, 1, none⟩ (.slice da dn dc)).heap.size) (.slice da dn dc) (ts ++ [t])) := by
            show ToksI _ _ _ _ _
            rw [box_size]
            exact Ow.frame (framesTokI w0) HO.out fun b hb _ => Below.heap_setCell _ _ _ _ (show b ≠ g by have := hb.1; omega)
          clear hTb hHeld HO KX HGz HBz hO hgz hvz hgne AB HEa
          go_wp2
          go_roundw
          case rel => exact ⟨K, f', ts ++ [t], da, dn, dc, hKl.2, by omega, by simp; omega, rfl, HRN, HL5, HT5, HG5, HB5⟩
          case measure => simp [intOf]; omega
    · obtain rfl : k = l.length := by omega
      have HRE : Hid (res = .ok ts) := by
        show _ = _
        rw [HRR.out, List.drop_length]
        cases f <;> simp [lexM, preM]
      go_wp2
      first | go_end0 | refine bodyPost_ret (v := .tuple #[]) (by simp [results, Tryz.results48, go_sem]) rfl ?_
      rw [HRE.out]
      exact ⟨HG.out, _, rfl, HL.out, HT.out⟩

end Go.Proofs.YtlegmiaoablcgaaGreatDoor

/- What oneOf of the reader of lines of package impl does; the command that is being read. -/
namespace Go.Proofs.YtlegmiaoablcgaaGreatDoor
open Go.RowKit
set_option maxRecDepth 100000
set_option linter.unusedVariables false
set_option linter.unusedSimpArgs false

/-- Which of the words it is; -1: none. -/
def idxW (ws : List (List Int)) (x : List Int) : Int := Lib.idxOfS (ws.map strOfNums) (strOfNums x)
def wordM (e : Int) (ws : List (List Int)) (ts : List TokD) : Except Int (Int × List TokD) := match nextM e 1 ts with
  | .error p => .error p
  | .ok p => if idxW ws p.1.tx < 0 then .error p.1.p else .ok (idxW ws p.1.tx, p.2)
def WordP (w0 w : World) (g : Nat) (S : Nat → Prop) (lv : Value) (ea : Addr) (r : Except Int (Int × List TokD)) (e : Ending) (w' : World) : Prop := w.grownBy w' (some g) ∧ match r with
  | .ok p => ∃ tv', e = .returned (.int .i64 p.1) ∧ Rs w0 w' g S lv tv' p.2
  | .error p => e = gaveUp ea ∧ Bad w' g 3 p

set_option maxRecDepth 100000 in
set_option maxHeartbeats 2000000 in
theorem oneOf_r (g : Nat) (la : Option Addr) (ln lc : Nat) (tv : Value) (ts : List TokD) (S : Nat → Prop) (ea : Addr) (ws : List (List Int)) (b cp : Nat) (w0 w : World) (hE : Env w0 g S ea) (hr : Rs w0 w g S (.slice la ln lc) tv ts) (hok : ∀ t ∈ ts, OkT t) (hS : ∀ b, S b → b < w.heap.size) (hln : ln ≤ 2000)
    (hbg : b ≠ g) (hbl : b < w.heap.size) (hws : ws.length ≤ 100) (hcells : ∀ j, j < ws.length → w.cell? ⟨b, j, none⟩ = some (.string (strOfNums (ws.getD j [])))) :
    Calls Tryz.prog 49 #[.pointer (some ⟨g, 0, none⟩), .slice (some ⟨b, 0, none⟩) ws.length cp] w (WordP w0 w g S (.slice la ln lc) ea (wordM ln ws ts)) := by
  have hn := next_r g la ln lc tv ts S ea 1 w0 w hE hr hok (by omega) hS hln
  have HEN : Hid (Env w0 g S ea) := hE
  rw [show sortM 1 = 2 from rfl] at hn
  unfold wordM
  cases hres : nextM ln 1 ts with
  | error p =>
    rw [hres] at hn
    clear hres hr hcells
    go_enter Tryz.func49, Tryz.ntmps49
    go_wp2_with fail
    refine hn.mono ?_
    rintro e w1 ⟨hG, rfl, hb⟩
    have HF : Hid (w.grownBy w1 (some g) ∧ Bad w1 g 3 p) := ⟨hG, hb⟩
    clear hG hb
    go_wp2
    exact ⟨rfl, HF.out.1, rfl, HF.out.2⟩
  | ok p =>
    have hm := next_mem hres
    have h5 : p.1.k ≠ 5 := by rw [hm.2.2]; decide
    rw [hres] at hn
    clear hres hr hm
    obtain ⟨⟨tk, tp, tn, tx⟩, ts'⟩ := p
    simp only at h5
    show Calls _ _ _ _ (WordP w0 w g S (.slice la ln lc) ea (if idxW ws tx < 0 then .error tp else .ok (idxW ws tx, ts')))
    obtain ⟨X, hX⟩ : ∃ X, X = idxW ws tx := ⟨_, rfl⟩
    rw [← hX]
    have HX0 : Hid (X = Lib.idxOfS ((ws.map strOfNums).take ws.length) (strOfNums tx)) := by
      show _ = _
      rw [hX, idxW, List.take_of_length_le (by simp)]
    clear hX
    obtain ⟨res, hres⟩ : ∃ res : Except Int (Int × List TokD), res = if X < 0 then .error tp else .ok (X, ts') := ⟨_, rfl⟩
    have HRES : Hid (res = if X < 0 then .error tp else .ok (X, ts')) := hres
    rw [← hres]
    clear hres
    have HCC : Hid (∀ w', w.grownBy w' (some g) → ∀ j, j < (ws.map strOfNums).length → w'.cell? ⟨b, 0 + j, none⟩ = some (.string ((ws.map strOfNums).getD j ByteArray.empty))) := by
      intro w' hG j hj
      simp only [List.length_map] at hj
      rw [Nat.zero_add, cell_same (hG.block b hbl (by simpa using hbg)), hcells j hj]
      simp [List.getD_eq_getElem?_getD, List.getElem?_map, List.getElem?_eq_getElem hj]
    clear hcells
    go_enter Tryz.func49, Tryz.ntmps49
    go_wp2_with fail
    refine hn.mono ?_
    rintro e w1 ⟨hG, a, n, c, tv', rfl, hR, hTX⟩
    simp only at hR hTX
    have AB : Below w1.heap.size w1 (w1.alloc (.cells #[.int .i64 (sortM tk), .int .i64 tp, .int .i64 tn, .slice a n c] 72)) := (Below.refl _ _).alloc (Nat.le_refl _) _
    have HG : Hid (w.grownBy (w1.alloc (.cells #[.int .i64 (sortM tk), .int .i64 tp, .int .i64 tn, .slice a n c] 72)) (some g)) := gb_below hG AB
    have HR : Hid (Rs w0 (w1.alloc (.cells #[.int .i64 (sortM tk), .int .i64 tp, .int .i64 tn, .slice a n c] 72)) g S (.slice la ln lc) tv' ts') := hR.below AB
    have HK : Hid ((w1.alloc (.cells #[.int .i64 (sortM tk), .int .i64 tp, .int .i64 tn, .slice a n c] 72)).heap[w1.heap.size]? = some (.cells #[.int .i64 (sortM tk), .int .i64 tp, .int .i64 tn, .slice a n c] 72 (0, 0))) := box_new _ _
    have HBS : Hid (Bs (w1.alloc (.cells #[.int .i64 (sortM tk), .int .i64 tp, .int .i64 tn, .slice a n c] 72)) (.slice a n c) tx) := hTX.2 h5 _ HR.out.bel
    clear hG hR AB hTX
    go_upto_region 2 with fail
    generalize (w1.alloc (.cells #[.int .i64 (sortM tk), .int .i64 tp, .int .i64 tn, .slice a n c] 72)) = w2 at HG HR HK HBS ⊢
    obtain ⟨c0, c1, c2, c3, cz, cl⟩ := tab4 HK.out
    have hcv := run_convert_bs HBS.out
    go_wp2_with fail
    refine (Tryz.slices_Index_string b 0 ws.length cp (ws.map strOfNums) (strOfNums tx) w2 (by simp) (by omega) (HCC.out w2 HG.out)).mono ?_
    rintro e w2 ⟨rfl, rfl⟩
    rw [← HX0.out]
    by_cases hle : X < 0
    · have HRE : Hid (res = .error tp) := by show _ = _; rw [HRES.out, if_pos hle]
      go_wp2_with fail
      refine (giveUp_r g _ tv' 0 0 3 tp ea _ HR.out.lr (HEN.out.gave.below HR.out.bel) HEN.out.ne).mono ?_
      rintro e w3 ⟨rfl, hb, hG⟩
      have HF : Hid (Bad w3 g 3 tp ∧ w.grownBy w3 (some g)) := ⟨hb, gb_trans HG.out hG⟩
      clear hb hG
      go_wp2
      refine ⟨rfl, ?_⟩
      rw [HRE.out]
      exact ⟨HF.out.2, rfl, HF.out.1⟩
    · have HRE : Hid (res = .ok (X, ts')) := by show _ = _; rw [HRES.out, if_neg hle]
      go_wp2
      go_ret
      rw [HRE.out]
      exact ⟨HG.out, _, rfl, HR.out⟩

/-- The command's variable, while it is read. -/
def CI (w : World) (gc N : Nat) (S : Nat → Prop) (c : CmdD) : Prop := ∃ a0 n0 c0 a1 n1 c1 a2 n2 c2 T0, w.heap[gc]? = some (.cells #[.int .i64 c.k, .slice a0 n0 c0, .slice a1 n1 c1, .int .i64 c.uid, .int .i64 c.mode, .int .i64 c.fl, .int .i64 c.si, .slice a2 n2 c2] 24 (0, 0)) ∧
  Row w N T0 (.slice a0 n0 c0) c.bx ∧ Row w T0 w.heap.size (.slice a1 n1 c1) c.tt ∧ RB w S (.slice a2 n2 c2) c.tx ∧ N ≤ T0 ∧ T0 ≤ w.heap.size
/-- Where the reading of a command stands. -/
structure RI (w0 w1 w : World) (g gc N : Nat) (S : Nat → Prop) (lv tv : Value) (ts : List TokD) (c : CmdD) : Prop where
  gr : Gr2 w1 w g gc
  rs : Rs w0 w g S lv tv ts
  ci : CI w gc N S c
/-- What lies where, once for all. -/
structure Pl (w0 w1 : World) (g gc N : Nat) (S : Nat → Prop) : Prop where
  gN : g < N
  cN : gc < N
  c0 : w0.heap.size ≤ gc
  ne : g ≠ gc
  sg : ¬ S g
  sc : ¬ S gc
  sN : ∀ b, S b → b < N
  nw : N ≤ w1.heap.size
section
variable {w0 w1 w w' : World} {g gc N : Nat} {S : Nat → Prop} {lv tv tv' : Value} {ts ts' : List TokD} {c : CmdD}
theorem RI.step (h : RI w0 w1 w g gc N S lv tv ts c) (P : Pl w0 w1 g gc N S) (hG : w.grownBy w' (some g)) (hR : Rs w0 w' g S lv tv' ts') : RI w0 w1 w' g gc N S lv tv' ts' c := by
  obtain ⟨gr, rs, a0, n0, c0, a1, n1, c1, a2, n2, c2, T0, hc, r0, r1, r2, h1, h2⟩ := h
  have p1 := P.gN
  have hs := hG.size
  exact ⟨gr.gb hG, hR, a0, n0, c0, a1, n1, c1, a2, n2, c2, T0, (hG.block gc (lt_of_heap hc) (fun e => P.ne (by cases e; rfl))).trans hc, r0.drawn hG (.inl p1), (r1.drawn hG (.inl (by omega))).wide (Nat.le_refl _) hs, rb_gb r2 hG P.sg, h1, by omega⟩
theorem RI.below (h : RI w0 w1 w g gc N S lv tv ts c) (P : Pl w0 w1 g gc N S) (hb : Below w.heap.size w w') : RI w0 w1 w' g gc N S lv tv ts c := h.step P (gb_below (gb_refl _ _) hb) (h.rs.below hb)
theorem RI.cells (h : RI w0 w1 w g gc N S lv tv ts c) : ∃ v1 v2 v7 : Value, w.cell? ⟨gc, 0, none⟩ = some (.int .i64 c.k) ∧ w.cell? ⟨gc, 1, none⟩ = some v1 ∧ w.cell? ⟨gc, 2, none⟩ = some v2 ∧ w.cell? ⟨gc, 3, none⟩ = some (.int .i64 c.uid) ∧ w.cell? ⟨gc, 4, none⟩ = some (.int .i64 c.mode) ∧ w.cell? ⟨gc, 5, none⟩ = some (.int .i64 c.fl) ∧ w.cell? ⟨gc, 6, none⟩ = some (.int .i64 c.si) ∧ w.cell? ⟨gc, 7, none⟩ = some v7 ∧ (∀ i, w.frozen? ⟨gc, i, none⟩ = false) ∧ gc < w.heap.size := by
  obtain ⟨gr, rs, a0, n0, c0, a1, n1, c1, a2, n2, c2, T0, hc, -⟩ := h
  obtain ⟨d0, d1, d2, d3, d4, d5, d6, d7, d8⟩ := box8l hc
  exact ⟨_, _, _, d0, d1, d2, d3, d4, d5, d6, d7, (box8z hc).1, d8⟩
theorem RI.setI {j : Nat} {n : Int} {c' : CmdD} (h : RI w0 w1 w g gc N S lv tv ts c) (P : Pl w0 w1 g gc N S) (hj : (j = 3 ∧ c' = { c with uid := n }) ∨ (j = 4 ∧ c' = { c with mode := n }) ∨ (j = 5 ∧ c' = { c with fl := n }) ∨ (j = 6 ∧ c' = { c with si := n })) : RI w0 w1 (w.setCell ⟨gc, j, none⟩ (.int .i64 n)) g gc N S lv tv ts c' := by
  obtain ⟨gr, rs, a0, n0, c0, a1, n1, c1, a2, n2, c2, T0, hc, r0, r1, r2, h1, h2⟩ := h
  have p1 := P.cN
  refine ⟨gr.setC, rs.setO P.c0 P.ne P.sc, ?_⟩
  rcases hj with ⟨rfl, rfl⟩ | ⟨rfl, rfl⟩ | ⟨rfl, rfl⟩ | ⟨rfl, rfl⟩
  · exact ⟨a0, n0, c0, a1, n1, c1, a2, n2, c2, T0, box_set (i := 3) (v := .int .i64 n) hc, r0.set (.inl p1), by rw [box_size]; exact r1.set (.inl (by omega)), rb_setC r2 P.sc, h1, by rw [box_size]; exact h2⟩
  · exact ⟨a0, n0, c0, a1, n1, c1, a2, n2, c2, T0, box_set (i := 4) (v := .int .i64 n) hc, r0.set (.inl p1), by rw [box_size]; exact r1.set (.inl (by omega)), rb_setC r2 P.sc, h1, by rw [box_size]; exact h2⟩
  · exact ⟨a0, n0, c0, a1, n1, c1, a2, n2, c2, T0, box_set (i := 5) (v := .int .i64 n) hc, r0.set (.inl p1), by rw [box_size]; exact r1.set (.inl (by omega)), rb_setC r2 P.sc, h1, by rw [box_size]; exact h2⟩
  · exact ⟨a0, n0, c0, a1, n1, c1, a2, n2, c2, T0, box_set (i := 6) (v := .int .i64 n) hc, r0.set (.inl p1), by rw [box_size]; exact r1.set (.inl (by omega)), rb_setC r2 P.sc, h1, by rw [box_size]; exact h2⟩
/-- The command as it begins: its kind alone. -/
def C0 (w : World) (gc : Nat) (k : Int) : Prop := w.heap[gc]? = some (.cells #[.int .i64 k, .slice none 0 0, .slice none 0 0, .int .i64 0, .int .i64 0, .int .i64 0, .int .i64 0, .slice none 0 0] 24 (0, 0))
theorem rb_nil (w : World) (S : Nat → Prop) : RB w S (.slice none 0 0) [] := ⟨oct_nil, World.ownsRow_nil _ _ _ _, fun g hg => by simp [Value.ownBlock] at hg⟩
theorem RI.first {k : Int} {ua : Option Addr} {un uc : Nat} {x : List Int} (P : Pl w0 w1 g gc N S) (hc : C0 w1 gc k) (hG : w1.grownBy w' (some g)) (hR : Rs w0 w' g S lv tv ts) (hrow : Row w' w1.heap.size w'.heap.size (.slice ua un uc) x) : RI w0 w1 (w'.setCell ⟨gc, 1, none⟩ (.slice ua un uc)) g gc N S lv tv ts ⟨k, x, [], 0, 0, 0, 0, []⟩ := by
  have p1 := P.cN
  have p2 := P.nw
  have hs := hG.size
  exact ⟨((Gr2.refl w1 g gc).gb hG).setC, hR.setO P.c0 P.ne P.sc, ua, un, uc, none, 0, 0, none, 0, 0, w'.heap.size, box_set (i := 1) (v := .slice ua un uc) ((hG.block gc (lt_of_heap hc) (fun e => P.ne (by cases e; rfl))).trans hc), (hrow.set (.inl (by omega))).wide p2 (Nat.le_refl _), Row.nil _ _ _, rb_nil _ _, by omega, by rw [box_size]; exact Nat.le_refl _⟩
theorem RI.to {ua : Option Addr} {un uc : Nat} {x : List Int} (h : RI w0 w1 w g gc N S lv tv ts c) (P : Pl w0 w1 g gc N S) (hG : w.grownBy w' (some g)) (hR : Rs w0 w' g S lv tv' ts') (hrow : Row w' w.heap.size w'.heap.size (.slice ua un uc) x) : RI w0 w1 (w'.setCell ⟨gc, 2, none⟩ (.slice ua un uc)) g gc N S lv tv' ts' { c with tt := x } := by
  obtain ⟨gr, rs, a0, n0, c0, a1, n1, c1, a2, n2, c2, T0, hc, r0, r1, r2, h1, h2⟩ := h
  have p1 := P.cN
  have p2 := P.gN
  have hs := hG.size
  exact ⟨(gr.gb hG).setC, hR.setO P.c0 P.ne P.sc, a0, n0, c0, ua, un, uc, a2, n2, c2, T0, box_set (i := 2) (v := .slice ua un uc) ((hG.block gc (lt_of_heap hc) (fun e => P.ne (by cases e; rfl))).trans hc), (r0.drawn hG (.inl p2)).set (.inl p1), by rw [box_size]; exact (hrow.set (.inl (by omega))).wide h2 (Nat.le_refl _), rb_setC (rb_gb r2 hG P.sg) P.sc, h1, by rw [box_size]; omega⟩
theorem RI.text {ua : Option Addr} {un uc : Nat} {x : List Int} (h : RI w0 w1 w g gc N S lv tv ts c) (P : Pl w0 w1 g gc N S) (hrb : RB w S (.slice ua un uc) x) : RI w0 w1 (w.setCell ⟨gc, 7, none⟩ (.slice ua un uc)) g gc N S lv tv ts { c with tx := x } := by
  obtain ⟨gr, rs, a0, n0, c0, a1, n1, c1, a2, n2, c2, T0, hc, r0, r1, r2, h1, h2⟩ := h
  have p1 := P.cN
  exact ⟨gr.setC, rs.setO P.c0 P.ne P.sc, a0, n0, c0, a1, n1, c1, ua, un, uc, T0, box_set (i := 7) (v := .slice ua un uc) hc, r0.set (.inl p1), by rw [box_size]; exact r1.set (.inl (by omega)), rb_setC hrb P.sc, h1, by rw [box_size]; exact h2⟩
end

end Go.Proofs.YtlegmiaoablcgaaGreatDoor

/- What storeWords and forms of package impl do. -/
namespace Go.Proofs.YtlegmiaoablcgaaGreatDoor
open Go.RowKit
set_option maxRecDepth 100000
set_option linter.unusedVariables false

set_option maxRecDepth 100000 in
theorem storeWords_r (w : World) : Calls Tryz.prog 65 #[] w fun e w' => e = .returned (.slice (some ⟨w.heap.size, 0, none⟩) 3 3) ∧ w' = w.alloc (.cells #[.string ⟨#[73, 83]⟩, .string ⟨#[87, 73, 84, 72]⟩, .string ⟨#[87, 73, 84, 72, 79, 85, 84]⟩] 9) := by
  go_enter Tryz.func65, Tryz.ntmps65
  go_wp2
  go_ret
  exact ⟨rfl, rfl⟩
abbrev formsO : Obj := .cells #[.string ⟨#[67, 82, 69, 65, 84, 69]⟩, .func (.func 32) #[] #[], .func (.func 33) #[] #[], .string ⟨#[68, 69, 76, 69, 84, 69]⟩, .func (.func 32) #[] #[], .func (.func 33) #[] #[], .string ⟨#[65, 80, 80, 69, 78, 68]⟩, .func (.func 34) #[] #[], .func (.func 35) #[] #[], .string ⟨#[83, 84, 79, 82, 69]⟩, .func (.func 36) #[] #[], .func (.func 37) #[] #[], .string ⟨#[69, 88, 80, 85, 78, 71, 69]⟩, .func (.func 32) #[] #[], .func (.func 33) #[] #[], .string ⟨#[70, 69, 84, 67, 72]⟩, .func (.func 38) #[] #[], .func (.func 39) #[] #[], .string ⟨#[67, 79, 80, 89]⟩, .func (.func 40) #[] #[], .func (.func 41) #[] #[], .string ⟨#[83, 84, 65, 84, 85, 83]⟩, .func (.func 32) #[] #[], .func (.func 33) #[] #[], .string ⟨#[67, 72, 65, 78, 71, 69, 83]⟩, .func (.func 42) #[] #[], .func (.func 43) #[] #[], .string ⟨#[76, 73, 83, 84]⟩, .func (.func 44) #[] #[], .func (.func 45) #[] #[]] 40
theorem run_storeF {P : Program} (W : World) (b i : Nat) (cs : Array Value) (t : TypeId) (v : Value) (h : W.heap[b]? = some (.cells cs t (0, 0))) (hi : i < cs.size) (hv : v.oneCell' = true) : (store ⟨b, i, none⟩ v).run P W = .ok () (W.setCell ⟨b, i, none⟩ v) := by
  rw [run_store P W _ v _ hv, cell_of_row W b i cs t (0, 0) h]
  simp [hi, frozen_of_row W b i cs t h]
set_option maxRecDepth 100000 in
set_option maxHeartbeats 4000000 in
theorem forms_r (w : World) : Calls Tryz.prog 14 #[] w fun e w' => e = .returned (.slice (some ⟨w.heap.size, 0, none⟩) 10 10) ∧ w' = w.alloc (.cells #[.string ⟨#[67, 82, 69, 65, 84, 69]⟩, .func (.func 32) #[] #[], .func (.func 33) #[] #[], .string ⟨#[68, 69, 76, 69, 84, 69]⟩, .func (.func 32) #[] #[], .func (.func 33) #[] #[], .string ⟨#[65, 80, 80, 69, 78, 68]⟩, .func (.func 34) #[] #[], .func (.func 35) #[] #[], .string ⟨#[83, 84, 79, 82, 69]⟩, .func (.func 36) #[] #[], .func (.func 37) #[] #[], .string ⟨#[69, 88, 80, 85, 78, 71, 69]⟩, .func (.func 32) #[] #[], .func (.func 33) #[] #[], .string ⟨#[70, 69, 84, 67, 72]⟩, .func (.func 38) #[] #[], .func (.func 39) #[] #[], .string ⟨#[67, 79, 80, 89]⟩, .func (.func 40) #[] #[], .func (.func 41) #[] #[], .string ⟨#[83, 84, 65, 84, 85, 83]⟩, .func (.func 32) #[] #[], .func (.func 33) #[] #[], .string ⟨#[67, 72, 65, 78, 71, 69, 83]⟩, .func (.func 42) #[] #[], .func (.func 43) #[] #[], .string ⟨#[76, 73, 83, 84]⟩, .func (.func 44) #[] #[], .func (.func 45) #[] #[]] 40) := by
  go_enter Tryz.func14, Tryz.ntmps14
  go_wp2
  go_ret
  exact ⟨rfl, rfl⟩
theorem formAt0 {w : World} {b : Nat} (h : w.heap[b]? = some formsO) : w.cell? ⟨b, 0, none⟩ = some (.string ⟨#[67, 82, 69, 65, 84, 69]⟩) ∧ w.cell? ⟨b, 1, none⟩ = some (.func (.func 32) #[] #[]) ∧ w.cell? ⟨b, 2, none⟩ = some (.func (.func 33) #[] #[]) :=
  ⟨by rw [cell_of_row w b 0 _ _ (0, 0) h]; rfl, by rw [cell_of_row w b 1 _ _ (0, 0) h]; rfl, by rw [cell_of_row w b 2 _ _ (0, 0) h]; rfl⟩
theorem formAt1 {w : World} {b : Nat} (h : w.heap[b]? = some formsO) : w.cell? ⟨b, 3, none⟩ = some (.string ⟨#[68, 69, 76, 69, 84, 69]⟩) ∧ w.cell? ⟨b, 4, none⟩ = some (.func (.func 32) #[] #[]) ∧ w.cell? ⟨b, 5, none⟩ = some (.func (.func 33) #[] #[]) :=
  ⟨by rw [cell_of_row w b 3 _ _ (0, 0) h]; rfl, by rw [cell_of_row w b 4 _ _ (0, 0) h]; rfl, by rw [cell_of_row w b 5 _ _ (0, 0) h]; rfl⟩
theorem formAt2 {w : World} {b : Nat} (h : w.heap[b]? = some formsO) : w.cell? ⟨b, 6, none⟩ = some (.string ⟨#[65, 80, 80, 69, 78, 68]⟩) ∧ w.cell? ⟨b, 7, none⟩ = some (.func (.func 34) #[] #[]) ∧ w.cell? ⟨b, 8, none⟩ = some (.func (.func 35) #[] #[]) :=
  ⟨by rw [cell_of_row w b 6 _ _ (0, 0) h]; rfl, by rw [cell_of_row w b 7 _ _ (0, 0) h]; rfl, by rw [cell_of_row w b 8 _ _ (0, 0) h]; rfl⟩
theorem formAt3 {w : World} {b : Nat} (h : w.heap[b]? = some formsO) : w.cell? ⟨b, 9, none⟩ = some (.string ⟨#[83, 84, 79, 82, 69]⟩) ∧ w.cell? ⟨b, 10, none⟩ = some (.func (.func 36) #[] #[]) ∧ w.cell? ⟨b, 11, none⟩ = some (.func (.func 37) #[] #[]) :=
  ⟨by rw [cell_of_row w b 9 _ _ (0, 0) h]; rfl, by rw [cell_of_row w b 10 _ _ (0, 0) h]; rfl, by rw [cell_of_row w b 11 _ _ (0, 0) h]; rfl⟩
theorem formAt4 {w : World} {b : Nat} (h : w.heap[b]? = some formsO) : w.cell? ⟨b, 12, none⟩ = some (.string ⟨#[69, 88, 80, 85, 78, 71, 69]⟩) ∧ w.cell? ⟨b, 13, none⟩ = some (.func (.func 32) #[] #[]) ∧ w.cell? ⟨b, 14, none⟩ = some (.func (.func 33) #[] #[]) :=
  ⟨by rw [cell_of_row w b 12 _ _ (0, 0) h]; rfl, by rw [cell_of_row w b 13 _ _ (0, 0) h]; rfl, by rw [cell_of_row w b 14 _ _ (0, 0) h]; rfl⟩
theorem formAt5 {w : World} {b : Nat} (h : w.heap[b]? = some formsO) : w.cell? ⟨b, 15, none⟩ = some (.string ⟨#[70, 69, 84, 67, 72]⟩) ∧ w.cell? ⟨b, 16, none⟩ = some (.func (.func 38) #[] #[]) ∧ w.cell? ⟨b, 17, none⟩ = some (.func (.func 39) #[] #[]) :=
  ⟨by rw [cell_of_row w b 15 _ _ (0, 0) h]; rfl, by rw [cell_of_row w b 16 _ _ (0, 0) h]; rfl, by rw [cell_of_row w b 17 _ _ (0, 0) h]; rfl⟩
theorem formAt6 {w : World} {b : Nat} (h : w.heap[b]? = some formsO) : w.cell? ⟨b, 18, none⟩ = some (.string ⟨#[67, 79, 80, 89]⟩) ∧ w.cell? ⟨b, 19, none⟩ = some (.func (.func 40) #[] #[]) ∧ w.cell? ⟨b, 20, none⟩ = some (.func (.func 41) #[] #[]) :=
  ⟨by rw [cell_of_row w b 18 _ _ (0, 0) h]; rfl, by rw [cell_of_row w b 19 _ _ (0, 0) h]; rfl, by rw [cell_of_row w b 20 _ _ (0, 0) h]; rfl⟩
theorem formAt7 {w : World} {b : Nat} (h : w.heap[b]? = some formsO) : w.cell? ⟨b, 21, none⟩ = some (.string ⟨#[83, 84, 65, 84, 85, 83]⟩) ∧ w.cell? ⟨b, 22, none⟩ = some (.func (.func 32) #[] #[]) ∧ w.cell? ⟨b, 23, none⟩ = some (.func (.func 33) #[] #[]) :=
  ⟨by rw [cell_of_row w b 21 _ _ (0, 0) h]; rfl, by rw [cell_of_row w b 22 _ _ (0, 0) h]; rfl, by rw [cell_of_row w b 23 _ _ (0, 0) h]; rfl⟩
theorem formAt8 {w : World} {b : Nat} (h : w.heap[b]? = some formsO) : w.cell? ⟨b, 24, none⟩ = some (.string ⟨#[67, 72, 65, 78, 71, 69, 83]⟩) ∧ w.cell? ⟨b, 25, none⟩ = some (.func (.func 42) #[] #[]) ∧ w.cell? ⟨b, 26, none⟩ = some (.func (.func 43) #[] #[]) :=
  ⟨by rw [cell_of_row w b 24 _ _ (0, 0) h]; rfl, by rw [cell_of_row w b 25 _ _ (0, 0) h]; rfl, by rw [cell_of_row w b 26 _ _ (0, 0) h]; rfl⟩
theorem formAt9 {w : World} {b : Nat} (h : w.heap[b]? = some formsO) : w.cell? ⟨b, 27, none⟩ = some (.string ⟨#[76, 73, 83, 84]⟩) ∧ w.cell? ⟨b, 28, none⟩ = some (.func (.func 44) #[] #[]) ∧ w.cell? ⟨b, 29, none⟩ = some (.func (.func 45) #[] #[]) :=
  ⟨by rw [cell_of_row w b 27 _ _ (0, 0) h]; rfl, by rw [cell_of_row w b 28 _ _ (0, 0) h]; rfl, by rw [cell_of_row w b 29 _ _ (0, 0) h]; rfl⟩

end Go.Proofs.YtlegmiaoablcgaaGreatDoor

/- What the functions readNothing, readBox .. readChanges of package impl do. -/
namespace Go.Proofs.YtlegmiaoablcgaaGreatDoor
open Go.RowKit
set_option maxRecDepth 100000
set_option linter.unusedVariables false
set_option linter.unusedSimpArgs false

def storeW : List (List Int) := [[73, 83], [87, 73, 84, 72], [87, 73, 84, 72, 79, 85, 84]]
/-- What a kind wants behind the box, as package impl reads it. -/
def restI (e : Int) (c : CmdD) (ts : List TokD) : Except Int (CmdD × List TokD) :=
  if c.k = 2 then
    (nextM e 4 ts).bind fun a => (nextM e 5 a.2).bind fun b => .ok ({ c with fl := a.1.n, tx := b.1.tx }, b.2)
  else if c.k = 3 then
    (takeM e 3 1 ts).bind fun a => (wordM e storeW a.2).bind fun m => (nextM e 4 m.2).bind fun b =>
      if b.2 = [] then .ok ({ c with uid := a.1.n, mode := m.1, fl := b.1.n }, b.2)
      else (wordM e [sinceW] b.2).bind fun s => (takeM e 3 1 s.2).bind fun d => .ok ({ c with uid := a.1.n, mode := m.1, fl := b.1.n, si := d.1.n }, d.2)
  else if c.k = 5 then (takeM e 3 1 ts).bind fun a => .ok ({ c with uid := a.1.n }, a.2)
  else if c.k = 6 then
    (takeM e 3 1 ts).bind fun a => (nextM e 2 a.2).bind fun b =>
      if b.2 = [] then .ok ({ c with uid := a.1.n, tt := b.1.tx }, b.2)
      else (wordM e [awayW] b.2).bind fun s => .ok ({ c with uid := a.1.n, tt := b.1.tx, mode := 1 }, s.2)
  else if c.k = 8 then (takeM e 3 0 ts).bind fun a => .ok ({ c with si := a.1.n }, a.2)
  else .ok (c, ts)
def readI (e k : Int) (ts : List TokD) : Except Int (CmdD × List TokD) := if k = 9 then .ok (⟨9, [], [], 0, 0, 0, 0, []⟩, ts) else (nextM e 2 ts).bind fun b => restI e ⟨k, b.1.tx, [], 0, 0, 0, 0, []⟩ b.2
/-- What such a function comes to. -/
def ReadP (w0 w : World) (g gc N : Nat) (S : Nat → Prop) (lv : Value) (ea : Addr) (r : Except Int (CmdD × List TokD)) (e : Ending) (w' : World) : Prop := match r with
  | .ok p => ∃ tv', e = .returned (.tuple #[]) ∧ RI w0 w w' g gc N S lv tv' p.2 p.1
  | .error p => e = gaveUp ea ∧ Gr2 w w' g gc ∧ Bad w' g 3 p
theorem word_mem {e : Int} {ws : List (List Int)} {ts : List TokD} {p : Int × List TokD} (h : wordM e ws ts = .ok p) : (∀ t ∈ p.2, t ∈ ts) ∧ 0 ≤ p.1 := by
  unfold wordM at h
  cases hn : nextM e 1 ts with
  | error q => rw [hn] at h; cases h
  | ok q =>
    rw [hn] at h
    simp only at h
    split at h
    · cases h
    · cases h
      exact ⟨(next_mem hn).1, by simp only; omega⟩

set_option maxHeartbeats 1000000 in
theorem readNothing_r (g gc N : Nat) (la : Option Addr) (ln lc : Nat) (tv : Value) (ts : List TokD) (S : Nat → Prop) (ea : Addr) (w0 w : World) (P : Pl w0 w g gc N S) (hr : Rs w0 w g S (.slice la ln lc) tv ts) (hc : C0 w gc 9) :
    Calls Tryz.prog 44 #[.pointer (some ⟨g, 0, none⟩), .pointer (some ⟨gc, 0, none⟩)] w (ReadP w0 w g gc N S (.slice la ln lc) ea (readI ln 9 ts)) := by
  have HF : Hid (RI w0 w w g gc N S (.slice la ln lc) tv ts ⟨9, [], [], 0, 0, 0, 0, []⟩) := ⟨Gr2.refl _ _ _, hr, none, 0, 0, none, 0, 0, none, 0, 0, N, hc, Row.nil _ _ _, Row.nil _ _ _, rb_nil _ _, Nat.le_refl _, P.nw⟩
  have hrd : readI ln 9 ts = .ok (⟨9, [], [], 0, 0, 0, 0, []⟩, ts) := by simp [readI]
  rw [hrd]
  clear hr hc P hrd
  go_enter Tryz.func44, Tryz.ntmps44
  go_wp2
  first | go_end0 | refine bodyPost_ret (v := .tuple #[]) (by simp [results, Tryz.results44, go_sem]) rfl ?_
  exact ⟨_, rfl, HF.out⟩

set_option maxRecDepth 100000 in
set_option maxHeartbeats 4000000 in
theorem readBox_r (g gc N : Nat) (la : Option Addr) (ln lc : Nat) (tv : Value) (ts : List TokD) (S : Nat → Prop) (ea : Addr) (k : Int) (w0 w : World) (hE : Env w0 g S ea) (P : Pl w0 w g gc N S) (hr : Rs w0 w g S (.slice la ln lc) tv ts) (hc : C0 w gc k) (hok : ∀ t ∈ ts, OkT t) (hln : ln ≤ 2000) (hk : k ≠ 9 ∧ k ≠ 2 ∧ k ≠ 3 ∧ k ≠ 5 ∧ k ≠ 6 ∧ k ≠ 8) :
    Calls Tryz.prog 32 #[.pointer (some ⟨g, 0, none⟩), .pointer (some ⟨gc, 0, none⟩)] w (ReadP w0 w g gc N S (.slice la ln lc) ea (readI ln k ts)) := by
  have HP : Hid (Pl w0 w g gc N S) := P
  have HEN : Hid (Env w0 g S ea) := hE
  have HC : Hid (C0 w gc k) := hc
  have hcl : gc < w.heap.size := lt_of_heap hc
  have hS0 : ∀ b, S b → b < w.heap.size := fun b hb => Nat.lt_of_lt_of_le (P.sN b hb) P.nw
  have hn := name_r g la ln lc tv ts S ea w0 w hE hr hok hS0 hln
  obtain ⟨res, hres⟩ : ∃ res, res = readI ln k ts := ⟨_, rfl⟩
  have HRES : Hid (res = readI ln k ts) := hres
  rw [← hres]
  clear hres hr hc P hE
  cases h1 : nextM ln 2 ts with
  | error p =>
    rw [h1] at hn
    have HRE : Hid (res = .error p) := by show _ = _; rw [HRES.out]; simp [readI, h1, Except.bind, hk]
    clear h1
    go_enter Tryz.func32, Tryz.ntmps32
    go_wp2_with fail
    refine hn.mono ?_
    rintro e w1 ⟨hG, rfl, hb⟩
    have HF : Hid (Gr2 w w1 g gc ∧ Bad w1 g 3 p) := ⟨(Gr2.refl _ _ _).gb hG, hb⟩
    clear hG hb
    go_wp2
    refine ⟨rfl, ?_⟩
    rw [HRE.out]
    exact ⟨rfl, HF.out.1, HF.out.2⟩
  | ok p =>
    obtain ⟨⟨bk, bp, bn, bx⟩, ts1⟩ := p
    rw [h1] at hn
    have hok1 : ∀ t ∈ ts1, OkT t := fun t ht => hok t ((next_mem h1).1 t ht)
    have HE1 : Hid (nextM ln 2 ts = .ok (⟨bk, bp, bn, bx⟩, ts1)) := h1
    clear h1
    go_enter Tryz.func32, Tryz.ntmps32
    go_wp2_with fail
    refine hn.mono ?_
    rintro e w1 ⟨hG, u, tv1, rfl, hR, hrow⟩
    simp only at hR hrow
    obtain ⟨ua, un, uc, hu⟩ := (Row.bs hrow).form3
    subst hu
    have H1 : Hid (RI w0 w (w1.setCell ⟨gc, 1, none⟩ (.slice ua un uc)) g gc N S (.slice la ln lc) tv1 ts1 ⟨k, bx, [], 0, 0, 0, 0, []⟩) := RI.first HP.out HC.out hG hR hrow
    have hcb := (hG.block gc hcl (fun e => HP.out.ne (by cases e; rfl))).trans HC.out
    obtain ⟨d0, d1, d2, d3, d4, d5, d6, d7, dl⟩ := box8l hcb
    obtain ⟨dz, -⟩ := box8z hcb
    clear hG hR hrow hcb
    have HRE : Hid (res = .ok (⟨k, bx, [], 0, 0, 0, 0, []⟩, ts1)) := by show _ = _; rw [HRES.out]; simp [readI, restI, HE1.out, Except.bind, hk]
    go_wp2
    first | go_end0 | refine bodyPost_ret (v := .tuple #[]) (by simp [results, Tryz.results32, go_sem]) rfl ?_
    rw [HRE.out]
    exact ⟨_, rfl, H1.out⟩

set_option maxRecDepth 100000 in
set_option maxHeartbeats 4000000 in
theorem readFetch_r (g gc N : Nat) (la : Option Addr) (ln lc : Nat) (tv : Value) (ts : List TokD) (S : Nat → Prop) (ea : Addr) (w0 w : World) (hE : Env w0 g S ea) (P : Pl w0 w g gc N S) (hr : Rs w0 w g S (.slice la ln lc) tv ts) (hc : C0 w gc 5) (hok : ∀ t ∈ ts, OkT t) (hln : ln ≤ 2000) :
    Calls Tryz.prog 38 #[.pointer (some ⟨g, 0, none⟩), .pointer (some ⟨gc, 0, none⟩)] w (ReadP w0 w g gc N S (.slice la ln lc) ea (readI ln 5 ts)) := by
  have HP : Hid (Pl w0 w g gc N S) := P
  have HEN : Hid (Env w0 g S ea) := hE
  have HC : Hid (C0 w gc 5) := hc
  have hcl : gc < w.heap.size := lt_of_heap hc
  have hS0 : ∀ b, S b → b < w.heap.size := fun b hb => Nat.lt_of_lt_of_le (P.sN b hb) P.nw
  have hn := name_r g la ln lc tv ts S ea w0 w hE hr hok hS0 hln
  obtain ⟨res, hres⟩ : ∃ res, res = readI ln 5 ts := ⟨_, rfl⟩
  have HRES : Hid (res = readI ln 5 ts) := hres
  rw [← hres]
  clear hres hr hc P hE
  cases h1 : nextM ln 2 ts with
  | error p =>
    rw [h1] at hn
    have HRE : Hid (res = .error p) := by show _ = _; rw [HRES.out]; simp [readI, h1, Except.bind]
    clear h1
    go_enter Tryz.func38, Tryz.ntmps38
    go_wp2_with fail
    refine hn.mono ?_
    rintro e w1 ⟨hG, rfl, hb⟩
    have HF : Hid (Gr2 w w1 g gc ∧ Bad w1 g 3 p) := ⟨(Gr2.refl _ _ _).gb hG, hb⟩
    clear hG hb
    go_wp2
    refine ⟨rfl, ?_⟩
    rw [HRE.out]
    exact ⟨rfl, HF.out.1, HF.out.2⟩
  | ok p =>
    obtain ⟨⟨bk, bp, bn, bx⟩, ts1⟩ := p
    rw [h1] at hn
    have hok1 : ∀ t ∈ ts1, OkT t := fun t ht => hok t ((next_mem h1).1 t ht)
    have HE1 : Hid (nextM ln 2 ts = .ok (⟨bk, bp, bn, bx⟩, ts1)) := h1
    clear h1
    go_enter Tryz.func38, Tryz.ntmps38
    go_wp2_with fail
    refine hn.mono ?_
    rintro e w1 ⟨hG, u, tv1, rfl, hR, hrow⟩
    simp only at hR hrow
    obtain ⟨ua, un, uc, hu⟩ := (Row.bs hrow).form3
    subst hu
    have H1 : Hid (RI w0 w (w1.setCell ⟨gc, 1, none⟩ (.slice ua un uc)) g gc N S (.slice la ln lc) tv1 ts1 ⟨5, bx, [], 0, 0, 0, 0, []⟩) := RI.first HP.out HC.out hG hR hrow
    have hcb := (hG.block gc hcl (fun e => HP.out.ne (by cases e; rfl))).trans HC.out
    obtain ⟨d0, d1, d2, d3, d4, d5, d6, d7, dl⟩ := box8l hcb
    obtain ⟨dz, -⟩ := box8z hcb
    clear hG hR hrow hcb
    go_upto_region 1 with fail
    generalize (w1.setCell ⟨gc, 1, none⟩ (.slice ua un uc)) = x1 at H1 ⊢
    clear d0 d1 d2 d3 d4 d5 d6 d7 dz dl
    cases h2 : takeM ln 3 1 ts1 with
    | error p =>
      have hc2 := number_r g la ln lc tv1 ts1 S ea 1 w0 x1 HEN.out H1.out.rs hok1 (fun b h => Nat.lt_of_lt_of_le (hS0 b h) H1.out.gr.size) hln
      rw [h2] at hc2
      have HRE : Hid (res = .error p) := by show _ = _; rw [HRES.out]; simp [h2, readI, restI, HE1.out, Except.bind]
      clear h2
      go_wp2_with fail
      refine hc2.mono ?_
      rintro e y ⟨hG, rfl, hb⟩
      have HF : Hid (Gr2 w y g gc ∧ Bad y g 3 p) := ⟨H1.out.gr.gb hG, hb⟩
      clear hG hb
      go_wp2
      refine ⟨rfl, ?_⟩
      rw [HRE.out]
      exact ⟨rfl, HF.out.1, HF.out.2⟩
    | ok p =>
      obtain ⟨⟨z2k, z2p, z2n, z2t⟩, ts2⟩ := p
      have hc2 := number_r g la ln lc tv1 ts1 S ea 1 w0 x1 HEN.out H1.out.rs hok1 (fun b h => Nat.lt_of_lt_of_le (hS0 b h) H1.out.gr.size) hln
      rw [h2] at hc2
      have hok2 : ∀ t ∈ ts2, OkT t := fun t ht => hok1 t ((take_mem h2).1 t ht)
      have HE2 : Hid (takeM ln 3 1 ts1 = .ok (⟨z2k, z2p, z2n, z2t⟩, ts2)) := h2
      clear h2
      go_wp2_with fail
      refine hc2.mono ?_
      rintro e y2 ⟨hG, tv2, rfl, hR⟩
      simp only at hR
      have HY : Hid (RI w0 w y2 g gc N S (.slice la ln lc) tv2 ts2 ⟨5, bx, [], 0, 0, 0, 0, []⟩) := H1.out.step HP.out hG hR
      clear hG hR
      have H2 : Hid (RI w0 w (y2.setCell ⟨gc, 3, none⟩ (.int .i64 z2n)) g gc N S (.slice la ln lc) tv2 ts2 ⟨5, bx, [], z2n, 0, 0, 0, []⟩) := HY.out.setI HP.out (.inl ⟨rfl, rfl⟩)
      obtain ⟨v1, v2, v7, d0, d1, d2, d3, d4, d5, d6, d7, dz, dl⟩ := HY.out.cells
      simp only at d0 d3 d4 d5 d6
      have HRE : Hid (res = .ok (⟨5, bx, [], z2n, 0, 0, 0, []⟩, ts2)) := by show _ = _; rw [HRES.out]; simp [readI, restI, HE1.out, HE2.out, Except.bind]
      go_wp2
      first | go_end0 | refine bodyPost_ret (v := .tuple #[]) (by simp [results, Tryz.results38, go_sem]) rfl ?_
      rw [HRE.out]
      exact ⟨_, rfl, H2.out⟩

set_option maxRecDepth 100000 in
set_option maxHeartbeats 4000000 in
theorem readChanges_r (g gc N : Nat) (la : Option Addr) (ln lc : Nat) (tv : Value) (ts : List TokD) (S : Nat → Prop) (ea : Addr) (w0 w : World) (hE : Env w0 g S ea) (P : Pl w0 w g gc N S) (hr : Rs w0 w g S (.slice la ln lc) tv ts) (hc : C0 w gc 8) (hok : ∀ t ∈ ts, OkT t) (hln : ln ≤ 2000) :
    Calls Tryz.prog 42 #[.pointer (some ⟨g, 0, none⟩), .pointer (some ⟨gc, 0, none⟩)] w (ReadP w0 w g gc N S (.slice la ln lc) ea (readI ln 8 ts)) := by
  have HP : Hid (Pl w0 w g gc N S) := P
  have HEN : Hid (Env w0 g S ea) := hE
  have HC : Hid (C0 w gc 8) := hc
  have hcl : gc < w.heap.size := lt_of_heap hc
  have hS0 : ∀ b, S b → b < w.heap.size := fun b hb => Nat.lt_of_lt_of_le (P.sN b hb) P.nw
  have hn := name_r g la ln lc tv ts S ea w0 w hE hr hok hS0 hln
  obtain ⟨res, hres⟩ : ∃ res, res = readI ln 8 ts := ⟨_, rfl⟩
  have HRES : Hid (res = readI ln 8 ts) := hres
  rw [← hres]
  clear hres hr hc P hE
  cases h1 : nextM ln 2 ts with
  | error p =>
    rw [h1] at hn
    have HRE : Hid (res = .error p) := by show _ = _; rw [HRES.out]; simp [readI, h1, Except.bind]
    clear h1
    go_enter Tryz.func42, Tryz.ntmps42
    go_wp2_with fail
    refine hn.mono ?_
    rintro e w1 ⟨hG, rfl, hb⟩
    have HF : Hid (Gr2 w w1 g gc ∧ Bad w1 g 3 p) := ⟨(Gr2.refl _ _ _).gb hG, hb⟩
    clear hG hb
    go_wp2
    refine ⟨rfl, ?_⟩
    rw [HRE.out]
    exact ⟨rfl, HF.out.1, HF.out.2⟩
  | ok p =>
    obtain ⟨⟨bk, bp, bn, bx⟩, ts1⟩ := p
    rw [h1] at hn
    have hok1 : ∀ t ∈ ts1, OkT t := fun t ht => hok t ((next_mem h1).1 t ht)
    have HE1 : Hid (nextM ln 2 ts = .ok (⟨bk, bp, bn, bx⟩, ts1)) := h1
    clear h1
    go_enter Tryz.func42, Tryz.ntmps42
    go_wp2_with fail
    refine hn.mono ?_
    rintro e w1 ⟨hG, u, tv1, rfl, hR, hrow⟩
    simp only at hR hrow
    obtain ⟨ua, un, uc, hu⟩ := (Row.bs hrow).form3
    subst hu
    have H1 : Hid (RI w0 w (w1.setCell ⟨gc, 1, none⟩ (.slice ua un uc)) g gc N S (.slice la ln lc) tv1 ts1 ⟨8, bx, [], 0, 0, 0, 0, []⟩) := RI.first HP.out HC.out hG hR hrow
    have hcb := (hG.block gc hcl (fun e => HP.out.ne (by cases e; rfl))).trans HC.out
    obtain ⟨d0, d1, d2, d3, d4, d5, d6, d7, dl⟩ := box8l hcb
    obtain ⟨dz, -⟩ := box8z hcb
    clear hG hR hrow hcb
    go_upto_region 1 with fail
    generalize (w1.setCell ⟨gc, 1, none⟩ (.slice ua un uc)) = x1 at H1 ⊢
    clear d0 d1 d2 d3 d4 d5 d6 d7 dz dl
    cases h2 : takeM ln 3 0 ts1 with
    | error p =>
      have hc2 := number_r g la ln lc tv1 ts1 S ea 0 w0 x1 HEN.out H1.out.rs hok1 (fun b h => Nat.lt_of_lt_of_le (hS0 b h) H1.out.gr.size) hln
      rw [h2] at hc2
      have HRE : Hid (res = .error p) := by show _ = _; rw [HRES.out]; simp [h2, readI, restI, HE1.out, Except.bind]
      clear h2
      go_wp2_with fail
      refine hc2.mono ?_
      rintro e y ⟨hG, rfl, hb⟩
      have HF : Hid (Gr2 w y g gc ∧ Bad y g 3 p) := ⟨H1.out.gr.gb hG, hb⟩
      clear hG hb
      go_wp2
      refine ⟨rfl, ?_⟩
      rw [HRE.out]
      exact ⟨rfl, HF.out.1, HF.out.2⟩
    | ok p =>
      obtain ⟨⟨z2k, z2p, z2n, z2t⟩, ts2⟩ := p
      have hc2 := number_r g la ln lc tv1 ts1 S ea 0 w0 x1 HEN.out H1.out.rs hok1 (fun b h => Nat.lt_of_lt_of_le (hS0 b h) H1.out.gr.size) hln
      rw [h2] at hc2
      have hok2 : ∀ t ∈ ts2, OkT t := fun t ht => hok1 t ((take_mem h2).1 t ht)
      have HE2 : Hid (takeM ln 3 0 ts1 = .ok (⟨z2k, z2p, z2n, z2t⟩, ts2)) := h2
      clear h2
      go_wp2_with fail
      refine hc2.mono ?_
      rintro e y2 ⟨hG, tv2, rfl, hR⟩
      simp only at hR
      have HY : Hid (RI w0 w y2 g gc N S (.slice la ln lc) tv2 ts2 ⟨8, bx, [], 0, 0, 0, 0, []⟩) := H1.out.step HP.out hG hR
      clear hG hR
      have H2 : Hid (RI w0 w (y2.setCell ⟨gc, 6, none⟩ (.int .i64 z2n)) g gc N S (.slice la ln lc) tv2 ts2 ⟨8, bx, [], 0, 0, 0, z2n, []⟩) := HY.out.setI HP.out (.inr (.inr (.inr ⟨rfl, rfl⟩)))
      obtain ⟨v1, v2, v7, d0, d1, d2, d3, d4, d5, d6, d7, dz, dl⟩ := HY.out.cells
      simp only at d0 d3 d4 d5 d6
      have HRE : Hid (res = .ok (⟨8, bx, [], 0, 0, 0, z2n, []⟩, ts2)) := by show _ = _; rw [HRES.out]; simp [readI, restI, HE1.out, HE2.out, Except.bind]
      go_wp2
      first | go_end0 | refine bodyPost_ret (v := .tuple #[]) (by simp [results, Tryz.results42, go_sem]) rfl ?_
      rw [HRE.out]
      exact ⟨_, rfl, H2.out⟩

set_option maxRecDepth 100000 in
set_option maxHeartbeats 4000000 in
theorem readAppend_r (g gc N : Nat) (la : Option Addr) (ln lc : Nat) (tv : Value) (ts : List TokD) (S : Nat → Prop) (ea : Addr) (w0 w : World) (hE : Env w0 g S ea) (P : Pl w0 w g gc N S) (hr : Rs w0 w g S (.slice la ln lc) tv ts) (hc : C0 w gc 2) (hok : ∀ t ∈ ts, OkT t) (hln : ln ≤ 2000) :
    Calls Tryz.prog 34 #[.pointer (some ⟨g, 0, none⟩), .pointer (some ⟨gc, 0, none⟩)] w (ReadP w0 w g gc N S (.slice la ln lc) ea (readI ln 2 ts)) := by
  have HP : Hid (Pl w0 w g gc N S) := P
  have HEN : Hid (Env w0 g S ea) := hE
  have HC : Hid (C0 w gc 2) := hc
  have hcl : gc < w.heap.size := lt_of_heap hc
  have hS0 : ∀ b, S b → b < w.heap.size := fun b hb => Nat.lt_of_lt_of_le (P.sN b hb) P.nw
  have hn := name_r g la ln lc tv ts S ea w0 w hE hr hok hS0 hln
  obtain ⟨res, hres⟩ : ∃ res, res = readI ln 2 ts := ⟨_, rfl⟩
  have HRES : Hid (res = readI ln 2 ts) := hres
  rw [← hres]
  clear hres hr hc P hE
  cases h1 : nextM ln 2 ts with
  | error p =>
    rw [h1] at hn
    have HRE : Hid (res = .error p) := by show _ = _; rw [HRES.out]; simp [readI, h1, Except.bind]
    clear h1
    go_enter Tryz.func34, Tryz.ntmps34
    go_wp2_with fail
    refine hn.mono ?_
    rintro e w1 ⟨hG, rfl, hb⟩
    have HF : Hid (Gr2 w w1 g gc ∧ Bad w1 g 3 p) := ⟨(Gr2.refl _ _ _).gb hG, hb⟩
    clear hG hb
    go_wp2
    refine ⟨rfl, ?_⟩
    rw [HRE.out]
    exact ⟨rfl, HF.out.1, HF.out.2⟩
  | ok p =>
    obtain ⟨⟨bk, bp, bn, bx⟩, ts1⟩ := p
    rw [h1] at hn
    have hok1 : ∀ t ∈ ts1, OkT t := fun t ht => hok t ((next_mem h1).1 t ht)
    have HE1 : Hid (nextM ln 2 ts = .ok (⟨bk, bp, bn, bx⟩, ts1)) := h1
    clear h1
    go_enter Tryz.func34, Tryz.ntmps34
    go_wp2_with fail
    refine hn.mono ?_
    rintro e w1 ⟨hG, u, tv1, rfl, hR, hrow⟩
    simp only at hR hrow
    obtain ⟨ua, un, uc, hu⟩ := (Row.bs hrow).form3
    subst hu
    have H1 : Hid (RI w0 w (w1.setCell ⟨gc, 1, none⟩ (.slice ua un uc)) g gc N S (.slice la ln lc) tv1 ts1 ⟨2, bx, [], 0, 0, 0, 0, []⟩) := RI.first HP.out HC.out hG hR hrow
    have hcb := (hG.block gc hcl (fun e => HP.out.ne (by cases e; rfl))).trans HC.out
    obtain ⟨d0, d1, d2, d3, d4, d5, d6, d7, dl⟩ := box8l hcb
    obtain ⟨dz, -⟩ := box8z hcb
    clear hG hR hrow hcb
    go_upto_region 1 with fail
    generalize (w1.setCell ⟨gc, 1, none⟩ (.slice ua un uc)) = x1 at H1 ⊢
    clear d0 d1 d2 d3 d4 d5 d6 d7 dz dl
    cases h2 : nextM ln 4 ts1 with
    | error p =>
      have hc2 := next_r g la ln lc tv1 ts1 S ea 4 w0 x1 HEN.out H1.out.rs hok1 (by omega) (fun b h => Nat.lt_of_lt_of_le (hS0 b h) H1.out.gr.size) hln
      rw [h2] at hc2
      have HRE : Hid (res = .error p) := by show _ = _; rw [HRES.out]; simp [h2, readI, restI, HE1.out, Except.bind]
      clear h2
      go_wp2_with fail
      refine hc2.mono ?_
      rintro e y ⟨hG, rfl, hb⟩
      have HF : Hid (Gr2 w y g gc ∧ Bad y g 3 p) := ⟨H1.out.gr.gb hG, hb⟩
      clear hG hb
      go_wp2
      refine ⟨rfl, ?_⟩
      rw [HRE.out]
      exact ⟨rfl, HF.out.1, HF.out.2⟩
    | ok p =>
      obtain ⟨⟨z2k, z2p, z2n, z2t⟩, ts2⟩ := p
      have hc2 := next_r g la ln lc tv1 ts1 S ea 4 w0 x1 HEN.out H1.out.rs hok1 (by omega) (fun b h => Nat.lt_of_lt_of_le (hS0 b h) H1.out.gr.size) hln
      rw [h2] at hc2
      have hok2 : ∀ t ∈ ts2, OkT t := fun t ht => hok1 t ((next_mem h2).1 t ht)
      have HE2 : Hid (nextM ln 4 ts1 = .ok (⟨z2k, z2p, z2n, z2t⟩, ts2)) := h2
      clear h2
      go_wp2_with fail
      refine hc2.mono ?_
      rintro e y2 ⟨hG, xa, xn, xc, tv2, rfl, hR, hTX⟩
      simp only at hR hTX
      have HY : Hid (RI w0 w y2 g gc N S (.slice la ln lc) tv2 ts2 ⟨2, bx, [], 0, 0, 0, 0, []⟩) := H1.out.step HP.out hG hR
      clear hG hR
      have hfd := fun w' => run_field2 (sortM z2k) z2p z2n xa xn xc w'
      clear hTX
      have H2 : Hid (RI w0 w (y2.setCell ⟨gc, 5, none⟩ (.int .i64 z2n)) g gc N S (.slice la ln lc) tv2 ts2 ⟨2, bx, [], 0, 0, z2n, 0, []⟩) := HY.out.setI HP.out (.inr (.inr (.inl ⟨rfl, rfl⟩)))
      obtain ⟨v1, v2, v7, d0, d1, d2, d3, d4, d5, d6, d7, dz, dl⟩ := HY.out.cells
      simp only at d0 d3 d4 d5 d6
      go_upto_region 2 with fail
      generalize (y2.setCell ⟨gc, 5, none⟩ (.int .i64 z2n)) = x2 at H2 ⊢
      clear d0 d1 d2 d3 d4 d5 d6 d7 dz dl
      cases h3 : nextM ln 5 ts2 with
      | error p =>
        have hc2 := next_r g la ln lc tv2 ts2 S ea 5 w0 x2 HEN.out H2.out.rs hok2 (by omega) (fun b h => Nat.lt_of_lt_of_le (hS0 b h) H2.out.gr.size) hln
        rw [h3] at hc2
        have HRE : Hid (res = .error p) := by show _ = _; rw [HRES.out]; simp [h3, readI, restI, HE1.out, HE2.out, Except.bind]
        clear h3
        go_wp2_with fail
        refine hc2.mono ?_
        rintro e y ⟨hG, rfl, hb⟩
        have HF : Hid (Gr2 w y g gc ∧ Bad y g 3 p) := ⟨H2.out.gr.gb hG, hb⟩
        clear hG hb
        go_wp2
        refine ⟨rfl, ?_⟩
        rw [HRE.out]
        exact ⟨rfl, HF.out.1, HF.out.2⟩
      | ok p =>
        obtain ⟨⟨z3k, z3p, z3n, z3t⟩, ts3⟩ := p
        have hc2 := next_r g la ln lc tv2 ts2 S ea 5 w0 x2 HEN.out H2.out.rs hok2 (by omega) (fun b h => Nat.lt_of_lt_of_le (hS0 b h) H2.out.gr.size) hln
        rw [h3] at hc2
        have hok3 : ∀ t ∈ ts3, OkT t := fun t ht => hok2 t ((next_mem h3).1 t ht)
        have HE3 : Hid (nextM ln 5 ts2 = .ok (⟨z3k, z3p, z3n, z3t⟩, ts3)) := h3
        have HK5 : Hid (z3k = 5) := (next_mem h3).2.2
        clear h3
        go_wp2_with fail
        refine hc2.mono ?_
        rintro e y3 ⟨hG, xa, xn, xc, tv3, rfl, hR, hTX⟩
        simp only at hR hTX
        have HY : Hid (RI w0 w y3 g gc N S (.slice la ln lc) tv3 ts3 ⟨2, bx, [], 0, 0, z2n, 0, []⟩) := H2.out.step HP.out hG hR
        clear hG hR
        have hfd := fun w' => run_field3 (sortM z3k) z3p z3n xa xn xc w'
        have H3 : Hid (RI w0 w (y3.setCell ⟨gc, 7, none⟩ (.slice xa xn xc)) g gc N S (.slice la ln lc) tv3 ts3 ⟨2, bx, [], 0, 0, z2n, 0, z3t⟩) := HY.out.text HP.out (hTX.1 HK5.out)
        clear hTX
        obtain ⟨v1, v2, v7, d0, d1, d2, d3, d4, d5, d6, d7, dz, dl⟩ := HY.out.cells
        simp only at d0 d3 d4 d5 d6
        have HRE : Hid (res = .ok (⟨2, bx, [], 0, 0, z2n, 0, z3t⟩, ts3)) := by show _ = _; rw [HRES.out]; simp [readI, restI, HE1.out, HE2.out, HE3.out, Except.bind]
        go_wp2
        first | go_end0 | refine bodyPost_ret (v := .tuple #[]) (by simp [results, Tryz.results34, go_sem]) rfl ?_
        rw [HRE.out]
        exact ⟨_, rfl, H3.out⟩

end Go.Proofs.YtlegmiaoablcgaaGreatDoor
