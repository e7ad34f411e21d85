/- The proof's texts, part 11. -/
import Derived.Test.YtlegmiaoablcgaaDoorPart7
import Derived.Test.YtlegmiaoablcgaaDoorPart3
import Derived.Defers
import Derived.Recover
import Derived.Test.YtlegmiaoablcgaaDoorPart10
import Derived.Test.YtlegmiaoablcgaaDoorPart6
import Derived.Test.YtlegmiaoablcgaaDoorPart9
import Derived.Test.YtlegmiaoablcgaaDoorPart2
import Derived.Test.YtlegmiaoablcgaaDoorPart8

/- What the function that CmdRead of package impl defers does. -/
namespace Go.Proofs.YtlegmiaoablcgaaDoor
open Go.RowKit
set_option linter.unusedVariables false
set_option linter.unusedSimpArgs false

theorem tab_catch1 : (Tryd.f17.body.bind (opsAt 1)).all (fun o => tableS o 12 [0, 1, 2, 3, 4, 5, 6, 7, 8, 9, 10, 11] [9, 10, 11] [9, 12] 12) = true := by kernel_rfl
section
variable {w : World} {R : Nat} {t : TypeId} {c0 c1 c2 c3 c4 c5 c6 c7 d0 d1 d2 d3 d4 d5 d6 d7 : Value}
theorem heap_set8 (h : w.heap[R]? = some (.cells #[c0, c1, c2, c3, c4, c5, c6, c7] t (0, 0))) : ((((((((w.setCell ⟨R, 0, none⟩ d0).setCell ⟨R, 1, none⟩ d1).setCell ⟨R, 2, none⟩ d2).setCell ⟨R, 3, none⟩ d3).setCell ⟨R, 4, none⟩ d4).setCell ⟨R, 5, none⟩ d5).setCell ⟨R, 6, none⟩ d6).setCell ⟨R, 7, none⟩ d7).heap[R]? = some (.cells #[d0, d1, d2, d3, d4, d5, d6, d7] t (0, 0)) := by
  have e0 : (w.setCell ⟨R, 0, none⟩ d0).heap[R]? = some (.cells #[d0, c1, c2, c3, c4, c5, c6, c7] t (0, 0)) := box_set h
  have e1 : ((w.setCell ⟨R, 0, none⟩ d0).setCell ⟨R, 1, none⟩ d1).heap[R]? = some (.cells #[d0, d1, c2, c3, c4, c5, c6, c7] t (0, 0)) := box_set e0
  have e2 : (((w.setCell ⟨R, 0, none⟩ d0).setCell ⟨R, 1, none⟩ d1).setCell ⟨R, 2, none⟩ d2).heap[R]? = some (.cells #[d0, d1, d2, c3, c4, c5, c6, c7] t (0, 0)) := box_set e1
  have e3 : ((((w.setCell ⟨R, 0, none⟩ d0).setCell ⟨R, 1, none⟩ d1).setCell ⟨R, 2, none⟩ d2).setCell ⟨R, 3, none⟩ d3).heap[R]? = some (.cells #[d0, d1, d2, d3, c4, c5, c6, c7] t (0, 0)) := box_set e2
  have e4 : (((((w.setCell ⟨R, 0, none⟩ d0).setCell ⟨R, 1, none⟩ d1).setCell ⟨R, 2, none⟩ d2).setCell ⟨R, 3, none⟩ d3).setCell ⟨R, 4, none⟩ d4).heap[R]? = some (.cells #[d0, d1, d2, d3, d4, c5, c6, c7] t (0, 0)) := box_set e3
  have e5 : ((((((w.setCell ⟨R, 0, none⟩ d0).setCell ⟨R, 1, none⟩ d1).setCell ⟨R, 2, none⟩ d2).setCell ⟨R, 3, none⟩ d3).setCell ⟨R, 4, none⟩ d4).setCell ⟨R, 5, none⟩ d5).heap[R]? = some (.cells #[d0, d1, d2, d3, d4, d5, c6, c7] t (0, 0)) := box_set e4
  have e6 : (((((((w.setCell ⟨R, 0, none⟩ d0).setCell ⟨R, 1, none⟩ d1).setCell ⟨R, 2, none⟩ d2).setCell ⟨R, 3, none⟩ d3).setCell ⟨R, 4, none⟩ d4).setCell ⟨R, 5, none⟩ d5).setCell ⟨R, 6, none⟩ d6).heap[R]? = some (.cells #[d0, d1, d2, d3, d4, d5, d6, c7] t (0, 0)) := box_set e5
  have e7 : ((((((((w.setCell ⟨R, 0, none⟩ d0).setCell ⟨R, 1, none⟩ d1).setCell ⟨R, 2, none⟩ d2).setCell ⟨R, 3, none⟩ d3).setCell ⟨R, 4, none⟩ d4).setCell ⟨R, 5, none⟩ d5).setCell ⟨R, 6, none⟩ d6).setCell ⟨R, 7, none⟩ d7).heap[R]? = some (.cells #[d0, d1, d2, d3, d4, d5, d6, d7] t (0, 0)) := box_set e6
  exact e7
theorem heap_oth8 {k : Nat} {o : Obj} (h : w.heap[k]? = some o) (hne : k ≠ R) : ((((((((w.setCell ⟨R, 0, none⟩ d0).setCell ⟨R, 1, none⟩ d1).setCell ⟨R, 2, none⟩ d2).setCell ⟨R, 3, none⟩ d3).setCell ⟨R, 4, none⟩ d4).setCell ⟨R, 5, none⟩ d5).setCell ⟨R, 6, none⟩ d6).setCell ⟨R, 7, none⟩ d7).heap[k]? = some o :=
  box_other (box_other (box_other (box_other (box_other (box_other (box_other (box_other h hne) hne) hne) hne) hne) hne) hne) hne
theorem below_set8 {w0 : World} {N : Nat} (h : Below N w0 w) (hN : N ≤ R) : Below N w0 ((((((((w.setCell ⟨R, 0, none⟩ d0).setCell ⟨R, 1, none⟩ d1).setCell ⟨R, 2, none⟩ d2).setCell ⟨R, 3, none⟩ d3).setCell ⟨R, 4, none⟩ d4).setCell ⟨R, 5, none⟩ d5).setCell ⟨R, 6, none⟩ d6).setCell ⟨R, 7, none⟩ d7) :=
  (((((((h.setCell (p := ⟨R, 0, none⟩) hN _).setCell (p := ⟨R, 1, none⟩) hN _).setCell (p := ⟨R, 2, none⟩) hN _).setCell (p := ⟨R, 3, none⟩) hN _).setCell (p := ⟨R, 4, none⟩) hN _).setCell (p := ⟨R, 5, none⟩) hN _).setCell (p := ⟨R, 6, none⟩) hN _).setCell (p := ⟨R, 7, none⟩) hN _
end
theorem drew3 {X w : World} {R : Nat} {a b c : Option Obj} (h : X.heap[R]? = a ∧ X.heap[R + 1]? = b ∧ X.heap[R + 2]? = c ∧ Below R w X) : X.drew.heap[R]? = a ∧ X.drew.heap[R + 1]? = b ∧ X.drew.heap[R + 2]? = c ∧ Below R w X.drew := ⟨h.1, h.2.1, h.2.2.1, h.2.2.2.drew⟩
theorem catch_sets {w : World} {R : Nat} {cd p : Int} {a0 a1 c0 c1 c2 c3 c4 c5 c6 c7 : Value} (h0 : w.heap[R]? = some (.cells #[c0, c1, c2, c3, c4, c5, c6, c7] 24 (0, 0))) (h1 : w.heap[R + 1]? = some (.cells #[a0] 3 (0, 0))) (h2 : w.heap[R + 2]? = some (.cells #[a1] 3 (0, 0))) :
    Hid (((((((((((w.setCell ⟨R, 0, none⟩ (.int .i64 0)).setCell ⟨R, 1, none⟩ (.slice none 0 0)).setCell ⟨R, 2, none⟩ (.slice none 0 0)).setCell ⟨R, 3, none⟩ (.int .i64 0)).setCell ⟨R, 4, none⟩ (.int .i64 0)).setCell ⟨R, 5, none⟩ (.int .i64 0)).setCell ⟨R, 6, none⟩ (.int .i64 0)).setCell ⟨R, 7, none⟩ (.slice none 0 0)).setCell ⟨R + 1, 0, none⟩ (.int .i64 cd)).setCell ⟨R + 2, 0, none⟩ (.int .i64 p)).heap[R]? = some (.cells #[.int .i64 0, .slice none 0 0, .slice none 0 0, .int .i64 0, .int .i64 0, .int .i64 0, .int .i64 0, .slice none 0 0] 24 (0, 0)) ∧ ((((((((((w.setCell ⟨R, 0, none⟩ (.int .i64 0)).setCell ⟨R, 1, none⟩ (.slice none 0 0)).setCell ⟨R, 2, none⟩ (.slice none 0 0)).setCell ⟨R, 3, none⟩ (.int .i64 0)).setCell ⟨R, 4, none⟩ (.int .i64 0)).setCell ⟨R, 5, none⟩ (.int .i64 0)).setCell ⟨R, 6, none⟩ (.int .i64 0)).setCell ⟨R, 7, none⟩ (.slice none 0 0)).setCell ⟨R + 1, 0, none⟩ (.int .i64 cd)).setCell ⟨R + 2, 0, none⟩ (.int .i64 p)).heap[R + 1]? = some (.cells #[.int .i64 cd] 3 (0, 0)) ∧ ((((((((((w.setCell ⟨R, 0, none⟩ (.int .i64 0)).setCell ⟨R, 1, none⟩ (.slice none 0 0)).setCell ⟨R, 2, none⟩ (.slice none 0 0)).setCell ⟨R, 3, none⟩ (.int .i64 0)).setCell ⟨R, 4, none⟩ (.int .i64 0)).setCell ⟨R, 5, none⟩ (.int .i64 0)).setCell ⟨R, 6, none⟩ (.int .i64 0)).setCell ⟨R, 7, none⟩ (.slice none 0 0)).setCell ⟨R + 1, 0, none⟩ (.int .i64 cd)).setCell ⟨R + 2, 0, none⟩ (.int .i64 p)).heap[R + 2]? = some (.cells #[.int .i64 p] 3 (0, 0)) ∧ Below R w ((((((((((w.setCell ⟨R, 0, none⟩ (.int .i64 0)).setCell ⟨R, 1, none⟩ (.slice none 0 0)).setCell ⟨R, 2, none⟩ (.slice none 0 0)).setCell ⟨R, 3, none⟩ (.int .i64 0)).setCell ⟨R, 4, none⟩ (.int .i64 0)).setCell ⟨R, 5, none⟩ (.int .i64 0)).setCell ⟨R, 6, none⟩ (.int .i64 0)).setCell ⟨R, 7, none⟩ (.slice none 0 0)).setCell ⟨R + 1, 0, none⟩ (.int .i64 cd)).setCell ⟨R + 2, 0, none⟩ (.int .i64 p))) :=
  ⟨box_other (k := R + 2) (box_other (k := R + 1) (heap_set8 h0) (by omega)) (by omega), box_other (k := R + 2) (box_set (i := 0) (heap_oth8 h1 (by omega))) (by omega), box_set (i := 0) (box_other (k := R + 1) (heap_oth8 h2 (by omega)) (by omega)), ((below_set8 (Below.refl R w) (Nat.le_refl _)).setCell (p := ⟨R + 1, 0, none⟩) (by simp) _).setCell (p := ⟨R + 2, 0, none⟩) (by simp) _⟩
set_option maxRecDepth 100000 in
set_option maxHeartbeats 2000000 in
theorem catchC_panicking (R rb g : Nat) (cs : Array Value) (a0 a1 : Value) (lv tv : Value) (cd p : Int) (u : TypeId) (pv : Value) (older : List PanicEntry) (w : World) (c0 c1 c2 c3 c4 c5 c6 c7 : Value)
    (h0 : w.heap[R]? = some (.cells #[c0, c1, c2, c3, c4, c5, c6, c7] 24 (0, 0))) (h1 : w.heap[R + 1]? = some (.cells #[a0] 3 (0, 0))) (h2 : w.heap[R + 2]? = some (.cells #[a1] 3 (0, 0))) (hrv : w.cell? ⟨rb, 0, none⟩ = some (.pointer (some ⟨g, 0, none⟩))) (hg : LR w g lv tv cd p) :
    CallsD Tryd.prog 17 #[.pointer (some ⟨rb, 0, none⟩), .pointer (some ⟨R, 0, none⟩), .pointer (some ⟨R + 1, 0, none⟩), .pointer (some ⟨R + 2, 0, none⟩)] (.panicking ({ v := .iface u pv, recovered := false } :: older)) w fun e u' w' =>
      e = .returned (.tuple #[]) ∧ u' = .panicking ({ v := .iface u pv, recovered := true } :: older) ∧ w'.heap[R]? = some (.cells #[.int .i64 0, .slice none 0 0, .slice none 0 0, .int .i64 0, .int .i64 0, .int .i64 0, .int .i64 0, .slice none 0 0] 24 (0, 0)) ∧ w'.heap[R + 1]? = some (.cells #[.int .i64 cd] 3 (0, 0)) ∧ w'.heap[R + 2]? = some (.cells #[.int .i64 p] 3 (0, 0)) ∧ Below R w w' := by
  obtain ⟨q0, q1, q2, q3, qz, ql⟩ := tab4 hg
  obtain ⟨f0, f1, f2, f3, f4, f5, f6, f7, fl⟩ := box8l h0
  obtain ⟨fz, -⟩ := box8z h0
  obtain ⟨gz, gl⟩ := box8z h1
  obtain ⟨kz, kl⟩ := box8z h2
  have g0 : w.cell? ⟨R + 1, 0, none⟩ = some a0 := by rw [cell_of_row w (R + 1) 0 _ _ (0, 0) h1]; rfl
  have k0 : w.cell? ⟨R + 2, 0, none⟩ = some a1 := by rw [cell_of_row w (R + 2) 0 _ _ (0, 0) h2]; rfl
  have hrl : rb < w.heap.size := World.block_lt_of_cell? w ⟨rb, 0, none⟩ hrv
  have HP := catch_sets (cd := cd) (p := p) h0 h1 h2
  refine callsD_of_wpS Tryd.func17 rfl fun c₀ cs hu => ?_
  apply wpS_seq
  apply wpS_region
  simp [wpOpsS, go_sem, recoverD, hu, Tryd.ntmps17, Exit.thenS]
  refine wpS_cond (t := true) (by simp [Act.eval, Array.replicate]) ?_
  simp only [if_true]
  refine wpS_of_wp ?_
  refine wpS_begin 9 (S := fun w' => w'.cell? ⟨rb, 0, none⟩ = some (.pointer (some ⟨g, 0, none⟩)) ∧ w'.cell? ⟨g, 2, none⟩ = some (.int .i64 cd) ∧ w'.cell? ⟨g, 3, none⟩ = some (.int .i64 p)) (tabS_of (by kernel_rfl) tab_catch1) (by kernel_rfl) (⟨hrv, q2, q3⟩) (fun hTb hHeld => ?_)
  refine tks 0 0 6 hTb hHeld ?_
  refine tks 1 1 7 hTb hHeld ?_
  refine tks 2 2 8 hTb hHeld ?_
  refine tks 3 3 9 hTb hHeld ?_
  refine tks 4 4 10 hTb hHeld ?_
  refine tks 5 5 11 hTb hHeld ?_
  refine tks 6 6 12 hTb hHeld ?_
  refine tks 7 7 13 hTb hHeld ?_
  refine tks 8 8 14 hTb hHeld ?_
  refine wpS_next (S' := fun w' => True) 9 12 hTb (by decide) (trivial) (fun hHeld => ?_)
  refine cls 9 9 hTb (by decide) rfl rfl (fun K hK => ?_)
  go_simp
  refine hK.out _ _ (trivial) (fun hHeld => ?_)
  clear hK K
  refine cls 10 10 hTb (by decide) rfl rfl (fun K hK => ?_)
  go_simp
  refine hK.out _ _ (trivial) (fun hHeld => ?_)
  clear hK K
  refine cls 11 11 hTb (by decide) rfl rfl (fun K hK => ?_)
  go_simp
  refine hK.out _ _ (trivial) (fun hHeld => ?_)
  clear hK K
  refine wpS_end hTb ?_
  have HQ := (show Hid _ from drew3 HP.out)
  clear HP
  generalize ((((((((((w.setCell ⟨R, 0, none⟩ (.int .i64 0)).setCell ⟨R, 1, none⟩ (.slice none 0 0)).setCell ⟨R, 2, none⟩ (.slice none 0 0)).setCell ⟨R, 3, none⟩ (.int .i64 0)).setCell ⟨R, 4, none⟩ (.int .i64 0)).setCell ⟨R, 5, none⟩ (.int .i64 0)).setCell ⟨R, 6, none⟩ (.int .i64 0)).setCell ⟨R, 7, none⟩ (.slice none 0 0)).setCell ⟨R + 1, 0, none⟩ (.int .i64 cd)).setCell ⟨R + 2, 0, none⟩ (.int .i64 p)).drew = wf at HQ ⊢
  simp only [bodyPostS, results, Tryd.results17]
  refine ⟨trivial, _, rfl, .tuple #[], ?_, rfl, rfl, HQ.out⟩
  simp [go_sem]

set_option maxRecDepth 100000 in
theorem catchC_idle (a b c d : Value) (w : World) :
    CallsD Tryd.prog 17 #[a, b, c, d] .returning w fun e u' w' => e = .returned (.tuple #[]) ∧ u' = .returning ∧ w' = w := by
  refine callsD_of_wpS Tryd.func17 rfl fun c₀ cs hu => ?_
  apply wpS_seq
  apply wpS_region
  simp [wpOpsS, go_sem, recoverD, hu, Tryd.ntmps17, Exit.thenS]
  refine wpS_cond (t := false) (by simp [Act.eval, Array.replicate]) ?_
  simp only [Bool.false_eq_true, if_false]
  refine wpS_of_wp (wp_skip ?_)
  cases c₀
  simp_all [bodyPostS, results, Tryd.results17]

end Go.Proofs.YtlegmiaoablcgaaDoor

/- What CmdRead of package impl does. -/
namespace Go.Proofs.YtlegmiaoablcgaaDoor
open Go.RowKit
set_option maxRecDepth 100000
set_option linter.unusedVariables false
set_option linter.unusedSimpArgs false

theorem rd_same {l : List Int} (ho : Oct l) (hl : l.length ≤ 120) : readM l = match rdI l with
    | .error p => (zeroCmd, p.1, p.2)
    | .ok c => (c, 0, 0) := by
  unfold readM rdI
  rw [if_neg (by omega)]
  cases h : lexM (l.length + 1) 0 l with
  | error i => rfl
  | ok ts =>
    simp only
    rw [cmd_same _ _ (lex_ok _ _ l ts ho (by omega) h)]
    cases cmdM l.length ts <;> rfl
theorem bx1c {w : World} {g : Nat} {t : TypeId} {c0 : Value} (h : w.heap[g]? = some (.cells #[c0] t (0, 0))) : w.cell? ⟨g, 0, none⟩ = some c0 ∧ (∀ i, w.frozen? ⟨g, i, none⟩ = false) ∧ g < w.heap.size :=
  ⟨by rw [cell_of_row w g 0 _ t (0, 0) h]; rfl, (box8z h).1, (box8z h).2⟩
section
variable {w w0 : World} {R N B T : Nat} {t : TypeId} {c0 c1 c2 c3 c4 c5 c6 c7 d0 d1 d2 d3 d4 d5 d6 d7 x0 x1 y0 y1 : Value}
theorem sets10 (h0 : w.heap[R]? = some (.cells #[c0, c1, c2, c3, c4, c5, c6, c7] 24 (0, 0))) (h1 : w.heap[R + 1]? = some (.cells #[y0] 3 (0, 0))) (h2 : w.heap[R + 2]? = some (.cells #[y1] 3 (0, 0))) (hb : Below N w0 w) (hN : N ≤ R) :
    ((((((((((w.setCell ⟨R, 0, none⟩ d0).setCell ⟨R, 1, none⟩ d1).setCell ⟨R, 2, none⟩ d2).setCell ⟨R, 3, none⟩ d3).setCell ⟨R, 4, none⟩ d4).setCell ⟨R, 5, none⟩ d5).setCell ⟨R, 6, none⟩ d6).setCell ⟨R, 7, none⟩ d7).setCell ⟨R + 1, 0, none⟩ x0).setCell ⟨R + 2, 0, none⟩ x1).heap[R]? = some (.cells #[d0, d1, d2, d3, d4, d5, d6, d7] 24 (0, 0)) ∧ ((((((((((w.setCell ⟨R, 0, none⟩ d0).setCell ⟨R, 1, none⟩ d1).setCell ⟨R, 2, none⟩ d2).setCell ⟨R, 3, none⟩ d3).setCell ⟨R, 4, none⟩ d4).setCell ⟨R, 5, none⟩ d5).setCell ⟨R, 6, none⟩ d6).setCell ⟨R, 7, none⟩ d7).setCell ⟨R + 1, 0, none⟩ x0).setCell ⟨R + 2, 0, none⟩ x1).heap[R + 1]? = some (.cells #[x0] 3 (0, 0)) ∧ ((((((((((w.setCell ⟨R, 0, none⟩ d0).setCell ⟨R, 1, none⟩ d1).setCell ⟨R, 2, none⟩ d2).setCell ⟨R, 3, none⟩ d3).setCell ⟨R, 4, none⟩ d4).setCell ⟨R, 5, none⟩ d5).setCell ⟨R, 6, none⟩ d6).setCell ⟨R, 7, none⟩ d7).setCell ⟨R + 1, 0, none⟩ x0).setCell ⟨R + 2, 0, none⟩ x1).heap[R + 2]? = some (.cells #[x1] 3 (0, 0)) ∧ Below N w0 ((((((((((w.setCell ⟨R, 0, none⟩ d0).setCell ⟨R, 1, none⟩ d1).setCell ⟨R, 2, none⟩ d2).setCell ⟨R, 3, none⟩ d3).setCell ⟨R, 4, none⟩ d4).setCell ⟨R, 5, none⟩ d5).setCell ⟨R, 6, none⟩ d6).setCell ⟨R, 7, none⟩ d7).setCell ⟨R + 1, 0, none⟩ x0).setCell ⟨R + 2, 0, none⟩ x1) ∧ ((((((((((w.setCell ⟨R, 0, none⟩ d0).setCell ⟨R, 1, none⟩ d1).setCell ⟨R, 2, none⟩ d2).setCell ⟨R, 3, none⟩ d3).setCell ⟨R, 4, none⟩ d4).setCell ⟨R, 5, none⟩ d5).setCell ⟨R, 6, none⟩ d6).setCell ⟨R, 7, none⟩ d7).setCell ⟨R + 1, 0, none⟩ x0).setCell ⟨R + 2, 0, none⟩ x1).heap.size = w.heap.size :=
  ⟨box_other (k := R + 2) (box_other (k := R + 1) (heap_set8 h0) (by omega)) (by omega), box_other (k := R + 2) (box_set (i := 0) (heap_oth8 h1 (by omega))) (by omega), box_set (i := 0) (box_other (k := R + 1) (heap_oth8 h2 (by omega)) (by omega)), ((below_set8 hb hN).setCell (p := ⟨R + 1, 0, none⟩) (by simp; omega) _).setCell (p := ⟨R + 2, 0, none⟩) (by simp; omega) _, by simp only [box_size]⟩
theorem row_set10 {v : Value} {l : List Int} (h : Row w B T v l) (hd : R + 2 < B) : Row ((((((((((w.setCell ⟨R, 0, none⟩ d0).setCell ⟨R, 1, none⟩ d1).setCell ⟨R, 2, none⟩ d2).setCell ⟨R, 3, none⟩ d3).setCell ⟨R, 4, none⟩ d4).setCell ⟨R, 5, none⟩ d5).setCell ⟨R, 6, none⟩ d6).setCell ⟨R, 7, none⟩ d7).setCell ⟨R + 1, 0, none⟩ x0).setCell ⟨R + 2, 0, none⟩ x1) B T v l := ((row_set8 h (.inl (by omega))).set (.inl (by omega))).set (.inl hd)
theorem cmdx_set10 {v : Value} {c : CmdD} (h : CmdX w B T v c) (hd : R + 2 < B) : CmdX ((((((((((w.setCell ⟨R, 0, none⟩ d0).setCell ⟨R, 1, none⟩ d1).setCell ⟨R, 2, none⟩ d2).setCell ⟨R, 3, none⟩ d3).setCell ⟨R, 4, none⟩ d4).setCell ⟨R, 5, none⟩ d5).setCell ⟨R, 6, none⟩ d6).setCell ⟨R, 7, none⟩ d7).setCell ⟨R + 1, 0, none⟩ x0).setCell ⟨R + 2, 0, none⟩ x1) B T v c := by
  obtain ⟨u0, u1, u2, T0, T1, hv, r0, r1, r2, h1, h2, h3⟩ := h
  exact ⟨u0, u1, u2, T0, T1, hv, row_set10 r0 hd, row_set10 r1 (by omega), row_set10 r2 (by omega), h1, h2, h3⟩
theorem CmdX.wide {v : Value} {c : CmdD} {B' T' : Nat} (h : CmdX w B T v c) (hB : B' ≤ B) (hT : T ≤ T') : CmdX w B' T' v c := by
  obtain ⟨u0, u1, u2, T0, T1, hv, r0, r1, r2, h1, h2, h3⟩ := h
  exact ⟨u0, u1, u2, T0, T1, hv, r0.wide hB (Nat.le_refl _), r1, r2.wide (Nat.le_refl _) hT, by omega, h2, by omega⟩
theorem cmdx_zero (w : World) (h : B ≤ T) : CmdX w B T (.agg #[.int .i64 0, .slice none 0 0, .slice none 0 0, .int .i64 0, .int .i64 0, .int .i64 0, .int .i64 0, .slice none 0 0]) zeroCmd := ⟨_, _, _, B, B, rfl, Row.nil _ _ _, Row.nil _ _ _, Row.nil _ _ _, Nat.le_refl _, Nat.le_refl _, h⟩
end
theorem below_gb {w0 w w' : World} {g N : Nat} (hb : Below N w0 w) (hg : w.grownBy w' (some g)) (hN : N ≤ g) (hs : N ≤ w.heap.size) : Below N w0 w' :=
  ⟨hg.os.trans hb.os, hg.tape.trans hb.tape, hg.output.trans hb.output, Nat.le_trans hb.size hg.size, fun k hk => (hg.block k (by omega) (by simp; omega)).trans (hb.block k hk)⟩
/-- The five blocks that CmdRead lays. -/
theorem five (w : World) (o0 o1 o2 o3 o4 : Obj) : (((((w.alloc o0).alloc o1).alloc o2).alloc o3).alloc o4).heap[w.heap.size]? = some o0 ∧ (((((w.alloc o0).alloc o1).alloc o2).alloc o3).alloc o4).heap[w.heap.size + 1]? = some o1 ∧ (((((w.alloc o0).alloc o1).alloc o2).alloc o3).alloc o4).heap[w.heap.size + 2]? = some o2 ∧ (((((w.alloc o0).alloc o1).alloc o2).alloc o3).alloc o4).heap[w.heap.size + 3]? = some o3 ∧ (((((w.alloc o0).alloc o1).alloc o2).alloc o3).alloc o4).heap[w.heap.size + 4]? = some o4 ∧ Below w.heap.size w (((((w.alloc o0).alloc o1).alloc o2).alloc o3).alloc o4) ∧ (((((w.alloc o0).alloc o1).alloc o2).alloc o3).alloc o4).heap.size = w.heap.size + 5 := by
  obtain ⟨a, b, c⟩ := box3 w o0 o1 o2
  have B3 := box3_below w o0 o1 o2
  have s3 : (((w.alloc o0).alloc o1).alloc o2).heap.size = w.heap.size + 3 := by simp
  generalize (((w.alloc o0).alloc o1).alloc o2) = X at a b c B3 s3
  obtain ⟨d, e, B5⟩ := boxes2 X o3 o4
  rw [s3] at d e
  exact ⟨box_below B5 a, box_below B5 b, box_below B5 c, d, e, Below.step B3 B5, by simp [s3]⟩

set_option maxRecDepth 100000 in
set_option maxHeartbeats 4000000 in
theorem implCmdRead_r (v : Value) (l : List Int) (ea : Addr) (w : World) (hv : Bs w v l) (hE : Gave w ea) (ht : Tab10 w) (he : Errs w) (hll : l.length ≤ 2000000) :
    Calls Tryd.prog 5 #[v] w fun e w' => ∃ u, e = .returned (.tuple #[u, .int .i64 (readM l).2.1, .int .i64 (readM l).2.2]) ∧ CmdX w' w.heap.size w'.heap.size u (readM l).1 ∧ Below w.heap.size w w' := by
  have hmf : ∀ (fn : Fn) (first cap : Array Value) (w : World), (Instr.makeFunc fn first cap).run Tryd.prog w = .ok (.func fn first cap) w := fun _ _ _ _ => rfl
  obtain ⟨res, hres⟩ : ∃ res, res = readM l := ⟨_, rfl⟩
  have HRES : Hid (res = readM l) := hres
  rw [← hres]
  clear hres
  have HV : Hid (Bs w v l) := hv
  have HEE : Hid (Gave w ea ∧ Tab10 w ∧ Errs w) := ⟨hE, ht, he⟩
  have HO : Hid (Oct l) := hv.1
  obtain ⟨va, cap, rfl⟩ := hv.form
  have hcap := hv.cap
  clear hv hE
  by_cases hlen : 120 < l.length
  · have HRE : Hid (res = (zeroCmd, 1, 0)) := by show _ = _; rw [HRES.out, readM, if_pos hlen]
    obtain ⟨k0, k1, k2⟩ := box3 w (.cells #[.int .i64 0, .slice none 0 0, .slice none 0 0, .int .i64 0, .int .i64 0, .int .i64 0, .int .i64 0, .slice none 0 0] 24) (.cells #[.int .i64 0] 3) (.cells #[.int .i64 0] 3)
    have HB3 : Hid (Below w.heap.size w (((w.alloc (.cells #[.int .i64 0, .slice none 0 0, .slice none 0 0, .int .i64 0, .int .i64 0, .int .i64 0, .int .i64 0, .slice none 0 0] 24)).alloc (.cells #[.int .i64 0] 3)).alloc (.cells #[.int .i64 0] 3))) := box3_below _ _ _ _
    have HK : Hid ((((w.alloc (.cells #[.int .i64 0, .slice none 0 0, .slice none 0 0, .int .i64 0, .int .i64 0, .int .i64 0, .int .i64 0, .slice none 0 0] 24)).alloc (.cells #[.int .i64 0] 3)).alloc (.cells #[.int .i64 0] 3)).heap[w.heap.size]? = some (.cells #[.int .i64 0, .slice none 0 0, .slice none 0 0, .int .i64 0, .int .i64 0, .int .i64 0, .int .i64 0, .slice none 0 0] 24 (0, 0)) ∧ (((w.alloc (.cells #[.int .i64 0, .slice none 0 0, .slice none 0 0, .int .i64 0, .int .i64 0, .int .i64 0, .int .i64 0, .slice none 0 0] 24)).alloc (.cells #[.int .i64 0] 3)).alloc (.cells #[.int .i64 0] 3)).heap[w.heap.size + 1]? = some (.cells #[.int .i64 0] 3 (0, 0)) ∧ (((w.alloc (.cells #[.int .i64 0, .slice none 0 0, .slice none 0 0, .int .i64 0, .int .i64 0, .int .i64 0, .int .i64 0, .slice none 0 0] 24)).alloc (.cells #[.int .i64 0] 3)).alloc (.cells #[.int .i64 0] 3)).heap[w.heap.size + 2]? = some (.cells #[.int .i64 0] 3 (0, 0))) := ⟨k0, k1, k2⟩
    clear k0 k1 k2
    have hli : (120 : Int) < (l.length : Int) := by omega
    go_enter_defers Tryd.func5, Tryd.ntmps5
    go_upto_region 2 with fail
    generalize (((w.alloc (.cells #[.int .i64 0, .slice none 0 0, .slice none 0 0, .int .i64 0, .int .i64 0, .int .i64 0, .int .i64 0, .slice none 0 0] 24)).alloc (.cells #[.int .i64 0] 3)).alloc (.cells #[.int .i64 0] 3)) = W at HB3 HK ⊢
    have HF : Hid _ := sets10 (d0 := .int .i64 0) (d1 := .slice none 0 0) (d2 := .slice none 0 0) (d3 := .int .i64 0) (d4 := .int .i64 0) (d5 := .int .i64 0) (d6 := .int .i64 0) (d7 := .slice none 0 0) (x0 := .int .i64 1) (x1 := .int .i64 0) HK.out.1 HK.out.2.1 HK.out.2.2 HB3.out (Nat.le_refl _)
    obtain ⟨d0, d1, d2, d3, d4, d5, d6, d7, dl⟩ := box8l HK.out.1
    obtain ⟨dz, -⟩ := box8z HK.out.1
    obtain ⟨e0, ez, el⟩ := bx1c HK.out.2.1
    obtain ⟨g0, gz, gl⟩ := bx1c HK.out.2.2
    go_wp2
    obtain ⟨m0, m1, m2, BW, sz⟩ := HF.out
    obtain ⟨f0, f1, f2, f3, f4, f5, f6, f7, -⟩ := box8l m0
    have f8 := (bx1c m1).1
    have f9 := (bx1c m2).1
    refine ⟨.tuple #[.agg #[.int .i64 0, .slice none 0 0, .slice none 0 0, .int .i64 0, .int .i64 0, .int .i64 0, .int .i64 0, .slice none 0 0], .int .i64 1, .int .i64 0], by simp [results, Tryd.results5, go_sem, f0, f1, f2, f3, f4, f5, f6, f7, f8, f9], _, by rw [HRE.out], ?_, BW⟩
    rw [HRE.out]
    exact cmdx_zero _ BW.size
  · have hl : l.length ≤ 2000 := by omega
    have hli : ¬ (120 : Int) < (l.length : Int) := by omega
    have HRE0 : Hid (readM l = match rdI l with
      | .error p => (zeroCmd, p.1, p.2)
      | .ok c => (c, 0, 0)) := rd_same HO.out (by omega)
    obtain ⟨k0, k1, k2, k3, k4, BB, hs⟩ := five w (.cells #[.int .i64 0, .slice none 0 0, .slice none 0 0, .int .i64 0, .int .i64 0, .int .i64 0, .int .i64 0, .slice none 0 0] 24) (.cells #[.int .i64 0] 3) (.cells #[.int .i64 0] 3) (.cells #[.slice va l.length cap, .slice none 0 0, .int .i64 0, .int .i64 0] 38) (.cells #[.pointer (some ⟨w.heap.size + 3, 0, none⟩)] 35)
    have HB : Hid (Below w.heap.size w (((((w.alloc (.cells #[.int .i64 0, .slice none 0 0, .slice none 0 0, .int .i64 0, .int .i64 0, .int .i64 0, .int .i64 0, .slice none 0 0] 24)).alloc (.cells #[.int .i64 0] 3)).alloc (.cells #[.int .i64 0] 3)).alloc (.cells #[.slice va l.length cap, .slice none 0 0, .int .i64 0, .int .i64 0] 38)).alloc (.cells #[.pointer (some ⟨w.heap.size + 3, 0, none⟩)] 35))) := BB
    have HK : Hid ((((((w.alloc (.cells #[.int .i64 0, .slice none 0 0, .slice none 0 0, .int .i64 0, .int .i64 0, .int .i64 0, .int .i64 0, .slice none 0 0] 24)).alloc (.cells #[.int .i64 0] 3)).alloc (.cells #[.int .i64 0] 3)).alloc (.cells #[.slice va l.length cap, .slice none 0 0, .int .i64 0, .int .i64 0] 38)).alloc (.cells #[.pointer (some ⟨w.heap.size + 3, 0, none⟩)] 35)).heap[w.heap.size]? = some (.cells #[.int .i64 0, .slice none 0 0, .slice none 0 0, .int .i64 0, .int .i64 0, .int .i64 0, .int .i64 0, .slice none 0 0] 24 (0, 0)) ∧ (((((w.alloc (.cells #[.int .i64 0, .slice none 0 0, .slice none 0 0, .int .i64 0, .int .i64 0, .int .i64 0, .int .i64 0, .slice none 0 0] 24)).alloc (.cells #[.int .i64 0] 3)).alloc (.cells #[.int .i64 0] 3)).alloc (.cells #[.slice va l.length cap, .slice none 0 0, .int .i64 0, .int .i64 0] 38)).alloc (.cells #[.pointer (some ⟨w.heap.size + 3, 0, none⟩)] 35)).heap[w.heap.size + 1]? = some (.cells #[.int .i64 0] 3 (0, 0)) ∧ (((((w.alloc (.cells #[.int .i64 0, .slice none 0 0, .slice none 0 0, .int .i64 0, .int .i64 0, .int .i64 0, .int .i64 0, .slice none 0 0] 24)).alloc (.cells #[.int .i64 0] 3)).alloc (.cells #[.int .i64 0] 3)).alloc (.cells #[.slice va l.length cap, .slice none 0 0, .int .i64 0, .int .i64 0] 38)).alloc (.cells #[.pointer (some ⟨w.heap.size + 3, 0, none⟩)] 35)).heap[w.heap.size + 2]? = some (.cells #[.int .i64 0] 3 (0, 0)) ∧ LR (((((w.alloc (.cells #[.int .i64 0, .slice none 0 0, .slice none 0 0, .int .i64 0, .int .i64 0, .int .i64 0, .int .i64 0, .slice none 0 0] 24)).alloc (.cells #[.int .i64 0] 3)).alloc (.cells #[.int .i64 0] 3)).alloc (.cells #[.slice va l.length cap, .slice none 0 0, .int .i64 0, .int .i64 0] 38)).alloc (.cells #[.pointer (some ⟨w.heap.size + 3, 0, none⟩)] 35)) (w.heap.size + 3) (.slice va l.length cap) (.slice none 0 0) 0 0 ∧ (((((w.alloc (.cells #[.int .i64 0, .slice none 0 0, .slice none 0 0, .int .i64 0, .int .i64 0, .int .i64 0, .int .i64 0, .slice none 0 0] 24)).alloc (.cells #[.int .i64 0] 3)).alloc (.cells #[.int .i64 0] 3)).alloc (.cells #[.slice va l.length cap, .slice none 0 0, .int .i64 0, .int .i64 0] 38)).alloc (.cells #[.pointer (some ⟨w.heap.size + 3, 0, none⟩)] 35)).heap[w.heap.size + 4]? = some (.cells #[.pointer (some ⟨w.heap.size + 3, 0, none⟩)] 35 (0, 0))) := ⟨k0, k1, k2, k3, k4⟩
    have Hs : Hid ((((((w.alloc (.cells #[.int .i64 0, .slice none 0 0, .slice none 0 0, .int .i64 0, .int .i64 0, .int .i64 0, .int .i64 0, .slice none 0 0] 24)).alloc (.cells #[.int .i64 0] 3)).alloc (.cells #[.int .i64 0] 3)).alloc (.cells #[.slice va l.length cap, .slice none 0 0, .int .i64 0, .int .i64 0] 38)).alloc (.cells #[.pointer (some ⟨w.heap.size + 3, 0, none⟩)] 35)).heap.size = w.heap.size + 5) := hs
    obtain ⟨r0, rz, rl⟩ := bx1c k4
    clear k0 k1 k2 k3 k4 BB hs
    go_enter_defers Tryd.func5, Tryd.ntmps5
    go_wp2_with fail
    refine (command_r (w.heap.size + 3) _ l ea w _ HV.out HB.out HEE.out.1 (by omega) HK.out.2.2.2.1 hl HEE.out.2.1 HEE.out.2.2).mono ?_
    rintro e w1 ⟨hG, hP⟩
    have hs1 := hG.size
    have HB1 : Hid (Below w.heap.size w w1) := below_gb HB.out hG (by omega) HB.out.size
    have HK1 : Hid (w1.heap[w.heap.size]? = some (.cells #[.int .i64 0, .slice none 0 0, .slice none 0 0, .int .i64 0, .int .i64 0, .int .i64 0, .int .i64 0, .slice none 0 0] 24 (0, 0)) ∧ w1.heap[w.heap.size + 1]? = some (.cells #[.int .i64 0] 3 (0, 0)) ∧ w1.heap[w.heap.size + 2]? = some (.cells #[.int .i64 0] 3 (0, 0)) ∧ w1.heap[w.heap.size + 4]? = some (.cells #[.pointer (some ⟨w.heap.size + 3, 0, none⟩)] 35 (0, 0))) :=
      ⟨(hG.block _ (lt_of_heap HK.out.1) (by simp)).trans HK.out.1, (hG.block _ (lt_of_heap HK.out.2.1) (by simp)).trans HK.out.2.1, (hG.block _ (lt_of_heap HK.out.2.2.1) (by simp)).trans HK.out.2.2.1, (hG.block _ (lt_of_heap HK.out.2.2.2.2) (by simp)).trans HK.out.2.2.2.2⟩
    rw [Hs.out] at hs1
    cases hrd : rdI l with
    | error p =>
      rw [hrd] at hP
      obtain ⟨rfl, lv', tv', hLR⟩ := hP
      have HRE : Hid (res = (zeroCmd, p.1, p.2)) := by show _ = _; rw [HRES.out, HRE0.out, hrd]
      have HLR : Hid (LR w1 (w.heap.size + 3) lv' tv' p.1 p.2) := hLR
      clear hrd hG HB HK Hs r0 rz rl hLR
      go_wp2
      refine leaves_cons (f := 17) (args := #[.pointer (some ⟨w.heap.size + 4, 0, none⟩), .pointer (some ⟨w.heap.size, 0, none⟩), .pointer (some ⟨w.heap.size + 1, 0, none⟩), .pointer (some ⟨w.heap.size + 2, 0, none⟩)]) (by simp) (by simp [go_sem]) ?_
      refine (catchC_panicking w.heap.size (w.heap.size + 4) (w.heap.size + 3) #[] _ _ _ _ p.1 p.2 _ _ [] w1 _ _ _ _ _ _ _ _ HK1.out.1 HK1.out.2.1 HK1.out.2.2.1 (bx1c HK1.out.2.2.2).1 HLR.out).mono ?_
      rintro e u' w'' ⟨rfl, rfl, m0, m1, m2, BW⟩
      obtain ⟨e0, e1, e2, e3, e4, e5, e6, e7, -⟩ := box8l m0
      have e8 := (bx1c m1).1
      have e9 := (bx1c m2).1
      have HBF : Hid (Below w.heap.size w w'') := HB1.out.trans BW
      refine ⟨.tuple #[.agg #[.int .i64 0, .slice none 0 0, .slice none 0 0, .int .i64 0, .int .i64 0, .int .i64 0, .int .i64 0, .slice none 0 0], .int .i64 p.1, .int .i64 p.2], by simp [results, Tryd.results5, go_sem, e0, e1, e2, e3, e4, e5, e6, e7, e8, e9], _, by rw [HRE.out], ?_, HBF.out⟩
      rw [HRE.out]
      exact cmdx_zero _ HBF.out.size
    | ok c =>
      rw [hrd] at hP
      obtain ⟨u, rfl, hX⟩ := hP
      have HRE : Hid (res = (c, 0, 0)) := by show _ = _; rw [HRES.out, HRE0.out, hrd]
      have hW5 : (((((w.alloc (.cells #[.int .i64 0, .slice none 0 0, .slice none 0 0, .int .i64 0, .int .i64 0, .int .i64 0, .int .i64 0, .slice none 0 0] 24)).alloc (.cells #[.int .i64 0] 3)).alloc (.cells #[.int .i64 0] 3)).alloc (.cells #[.slice va l.length cap, .slice none 0 0, .int .i64 0, .int .i64 0] 38)).alloc (.cells #[.pointer (some ⟨w.heap.size + 3, 0, none⟩)] 35)).heap.size = w.heap.size + 5 := Hs.out
      rw [hW5] at hX
      obtain ⟨kk, bx, tt, uid, mode, fl, si, tx⟩ := c
      have HX : Hid (CmdX w1 (w.heap.size + 5) w1.heap.size u ⟨kk, bx, tt, uid, mode, fl, si, tx⟩) := hX
      obtain ⟨u0, u1, u2, T0, T1, rfl, q0, q1, q2, -⟩ := hX
      obtain ⟨a0, n0, c0, rfl⟩ := q1.bs.form3
      obtain ⟨a1, n1, c1, rfl⟩ := q2.bs.form3
      obtain ⟨a2, n2, c2, rfl⟩ := q0.bs.form3
      clear hrd hG HB HK Hs r0 rz rl q0 q1 q2 hW5
      have HF : Hid _ := sets10 (d0 := .int .i64 kk) (d1 := .slice a0 n0 c0) (d2 := .slice a1 n1 c1) (d3 := .int .i64 uid) (d4 := .int .i64 mode) (d5 := .int .i64 fl) (d6 := .int .i64 si) (d7 := .slice a2 n2 c2) (x0 := .int .i64 0) (x1 := .int .i64 0) HK1.out.1 HK1.out.2.1 HK1.out.2.2.1 HB1.out (Nat.le_refl _)
      have HXF : Hid (CmdX ((((((((((w1.setCell ⟨w.heap.size, 0, none⟩ (.int .i64 kk)).setCell ⟨w.heap.size, 1, none⟩ (.slice a0 n0 c0)).setCell ⟨w.heap.size, 2, none⟩ (.slice a1 n1 c1)).setCell ⟨w.heap.size, 3, none⟩ (.int .i64 uid)).setCell ⟨w.heap.size, 4, none⟩ (.int .i64 mode)).setCell ⟨w.heap.size, 5, none⟩ (.int .i64 fl)).setCell ⟨w.heap.size, 6, none⟩ (.int .i64 si)).setCell ⟨w.heap.size, 7, none⟩ (.slice a2 n2 c2)).setCell ⟨w.heap.size + 1, 0, none⟩ (.int .i64 0)).setCell ⟨w.heap.size + 2, 0, none⟩ (.int .i64 0)) w.heap.size w1.heap.size (.agg #[.int .i64 kk, .slice a0 n0 c0, .slice a1 n1 c1, .int .i64 uid, .int .i64 mode, .int .i64 fl, .int .i64 si, .slice a2 n2 c2]) ⟨kk, bx, tt, uid, mode, fl, si, tx⟩) := (cmdx_set10 HX.out (by omega)).wide (by omega) (Nat.le_refl _)
      obtain ⟨d0, d1, d2, d3, d4, d5, d6, d7, dl⟩ := box8l HK1.out.1
      obtain ⟨dz, -⟩ := box8z HK1.out.1
      obtain ⟨e0, ez, el⟩ := bx1c HK1.out.2.1
      obtain ⟨g0, gz, gl⟩ := bx1c HK1.out.2.2.1
      go_wp2
      refine leaves_cons (f := 17) (args := #[.pointer (some ⟨w.heap.size + 4, 0, none⟩), .pointer (some ⟨w.heap.size, 0, none⟩), .pointer (some ⟨w.heap.size + 1, 0, none⟩), .pointer (some ⟨w.heap.size + 2, 0, none⟩)]) (by simp) (by simp [go_sem]) ?_
      refine (catchC_idle _ _ _ _ _).mono ?_
      rintro e u' w'' ⟨rfl, rfl, rfl⟩
      obtain ⟨m0, m1, m2, BW, sz⟩ := HF.out
      obtain ⟨f0, f1, f2, f3, f4, f5, f6, f7, -⟩ := box8l m0
      have f8 := (bx1c m1).1
      have f9 := (bx1c m2).1
      refine ⟨.tuple #[.agg #[.int .i64 kk, .slice a0 n0 c0, .slice a1 n1 c1, .int .i64 uid, .int .i64 mode, .int .i64 fl, .int .i64 si, .slice a2 n2 c2], .int .i64 0, .int .i64 0], by simp [results, Tryd.results5, go_sem, f0, f1, f2, f3, f4, f5, f6, f7, f8, f9], _, by rw [HRE.out], ?_, BW⟩
      rw [HRE.out, sz]
      exact HXF.out

end Go.Proofs.YtlegmiaoablcgaaDoor

/- The parser's steps, one behind the other, are the reading on lists. -/
namespace Go.Proofs.YtlegmiaoablcgaaDoor
open Go.RowKit

def bump (st : PS) : PS := ⟨st.i + 1, st.bad, st.p⟩
def modeS (ts : List TokD) (st : PS) : Option Int := if seesS (modeW 2) ts st then some 2 else if seesS (modeW 1) ts st then some 1 else if seesS (modeW 0) ts st then some 0 else none
def restS (e : Int) (ts : List TokD) (c : CmdD) (st : PS) : CmdD × PS :=
  if c.k = 2 then
    ({ c with fl := (takeS e 4 0 ts st).1.n, tx := (takeS e 5 0 ts (takeS e 4 0 ts st).2).1.tx }, (takeS e 5 0 ts (takeS e 4 0 ts st).2).2)
  else if c.k = 3 then
    match modeS ts (takeS e 3 1 ts st).2 with
    | none => ({ c with uid := (takeS e 3 1 ts st).1.n, mode := -1 }, failS e ts (takeS e 3 1 ts st).2)
    | some m =>
      if seesS sinceW ts (takeS e 4 0 ts (bump (takeS e 3 1 ts st).2)).2 then
        ({ c with uid := (takeS e 3 1 ts st).1.n, mode := m, fl := (takeS e 4 0 ts (bump (takeS e 3 1 ts st).2)).1.n, si := (takeS e 3 1 ts (bump (takeS e 4 0 ts (bump (takeS e 3 1 ts st).2)).2)).1.n }, (takeS e 3 1 ts (bump (takeS e 4 0 ts (bump (takeS e 3 1 ts st).2)).2)).2)
      else ({ c with uid := (takeS e 3 1 ts st).1.n, mode := m, fl := (takeS e 4 0 ts (bump (takeS e 3 1 ts st).2)).1.n }, (takeS e 4 0 ts (bump (takeS e 3 1 ts st).2)).2)
  else if c.k = 5 then ({ c with uid := (takeS e 3 1 ts st).1.n }, (takeS e 3 1 ts st).2)
  else if c.k = 6 then
    if seesS awayW ts (takeS e 2 0 ts (takeS e 3 1 ts st).2).2 then ({ c with uid := (takeS e 3 1 ts st).1.n, tt := (takeS e 2 0 ts (takeS e 3 1 ts st).2).1.tx, mode := 1 }, bump (takeS e 2 0 ts (takeS e 3 1 ts st).2).2)
    else ({ c with uid := (takeS e 3 1 ts st).1.n, tt := (takeS e 2 0 ts (takeS e 3 1 ts st).2).1.tx }, (takeS e 2 0 ts (takeS e 3 1 ts st).2).2)
  else if c.k = 8 then ({ c with si := (takeS e 3 0 ts st).1.n }, (takeS e 3 0 ts st).2)
  else (c, st)

theorem take_ok {e k least : Int} {ts : List TokD} {i : Nat} {p : Int} {r : TokD × List TokD} (h : takeM e k least (ts.drop i) = .ok r) : takeS e k least ts ⟨i, false, p⟩ = (r.1, ⟨i + 1, false, p⟩) ∧ ts.drop (i + 1) = r.2 := by
  refine ⟨by simp [takeS, h], ?_⟩
  rw [← List.drop_drop]
  cases hd : ts.drop i with
  | nil => rw [hd] at h; simp [takeM] at h
  | cons t q =>
    rw [hd] at h
    simp only [takeM] at h
    split at h
    · cases h; simp
    · cases h
theorem take_err {e k least : Int} {ts : List TokD} {i : Nat} {p q : Int} (h : takeM e k least (ts.drop i) = .error q) : takeS e k least ts ⟨i, false, p⟩ = (zeroT, ⟨i, true, q⟩) := by simp [takeS, h]
theorem take_bad (e k least : Int) (ts : List TokD) (i : Nat) (p : Int) : takeS e k least ts ⟨i, true, p⟩ = (zeroT, ⟨i, true, p⟩) := by simp [takeS]
theorem sees_bad (x : List Int) (ts : List TokD) (i : Nat) (p : Int) : seesS x ts ⟨i, true, p⟩ = false := by simp [seesS]
theorem sees_good (x : List Int) (ts : List TokD) (i : Nat) (p : Int) : seesS x ts ⟨i, false, p⟩ = seesM x (ts.drop i) := by simp [seesS]
theorem mode_bad (ts : List TokD) (i : Nat) (p : Int) : modeS ts ⟨i, true, p⟩ = none := by simp [modeS, seesS]
theorem mode_good (ts : List TokD) (i : Nat) (p : Int) : modeS ts ⟨i, false, p⟩ = modeM (ts.drop i) := by simp [modeS, modeM, seesS]
theorem fail_bad (e : Int) (ts : List TokD) (i : Nat) (p : Int) : failS e ts ⟨i, true, p⟩ = ⟨i, true, p⟩ := by simp [failS]
theorem fail_good (e : Int) (ts : List TokD) (i : Nat) (p : Int) : failS e ts ⟨i, false, p⟩ = ⟨i, true, failM e (ts.drop i)⟩ := by simp [failS]
theorem drop1 (ts : List TokD) (i : Nat) : (ts.drop i).drop 1 = ts.drop (i + 1) := by rw [List.drop_drop]

/-- What the steps come to: the list's reading, or the place at which it fails. -/
def Sim (ts : List TokD) (res : Except Int (CmdD × List TokD)) (x : CmdD × PS) : Prop := match res with
  | .ok r => x.1 = r.1 ∧ x.2.bad = false ∧ ts.drop x.2.i = r.2
  | .error p => x.2.bad = true ∧ x.2.p = p
theorem rest_sim (e : Int) (ts : List TokD) (c : CmdD) (i : Nat) (p : Int) : Sim ts (restM e c (ts.drop i)) (restS e ts c ⟨i, false, p⟩) := by
  unfold restM restS
  split
  · cases h : takeM e 4 0 (ts.drop i) with
    | error q => simp [take_err h, take_bad, Sim, bind, Except.bind]
    | ok a =>
      obtain ⟨h1, h2⟩ := take_ok (p := p) h
      rw [h1]
      simp only [bind, Except.bind, ← h2]
      cases h' : takeM e 5 0 (ts.drop (i + 1)) with
      | error q => simp [take_err h', Sim]
      | ok b =>
        obtain ⟨h3, h4⟩ := take_ok (p := p) h'
        simp [h3, Sim, h4]
  · split
    · cases h : takeM e 3 1 (ts.drop i) with
      | error q => simp [take_err h, mode_bad, fail_bad, Sim, bind, Except.bind]
      | ok a =>
        obtain ⟨h1, h2⟩ := take_ok (p := p) h
        rw [h1]
        simp only [bind, Except.bind, ← h2, mode_good]
        cases hm : modeM (ts.drop (i + 1)) with
        | none => simp [fail_good, Sim]
        | some m =>
          simp only [bump, drop1]
          cases h' : takeM e 4 0 (ts.drop (i + 1 + 1)) with
          | error q => simp [take_err h', sees_bad, Sim]
          | ok b =>
            obtain ⟨h3, h4⟩ := take_ok (p := p) h'
            simp only [h3, ← h4, sees_good]
            split
            · rename_i hs
              simp only [drop1]
              cases h'' : takeM e 3 1 (ts.drop (i + 1 + 1 + 1 + 1)) with
              | error q => simp [take_err h'', Sim]
              | ok d =>
                obtain ⟨h5, h6⟩ := take_ok (p := p) h''
                simp [h5, Sim, h6]
            · simp [Sim]
    · split
      · cases h : takeM e 3 1 (ts.drop i) with
        | error q => simp [take_err h, Sim, bind, Except.bind]
        | ok a =>
          obtain ⟨h1, h2⟩ := take_ok (p := p) h
          simp [h1, bind, Except.bind, Sim, h2]
      · split
        · cases h : takeM e 3 1 (ts.drop i) with
          | error q => simp [take_err h, take_bad, sees_bad, Sim, bind, Except.bind]
          | ok a =>
            obtain ⟨h1, h2⟩ := take_ok (p := p) h
            rw [h1]
            simp only [bind, Except.bind, ← h2]
            cases h' : takeM e 2 0 (ts.drop (i + 1)) with
            | error q => simp [take_err h', sees_bad, Sim]
            | ok b =>
              obtain ⟨h3, h4⟩ := take_ok (p := p) h'
              simp only [h3, ← h4, sees_good, bump]
              split <;> simp [Sim]
        · split
          · cases h : takeM e 3 0 (ts.drop i) with
            | error q => simp [take_err h, Sim, bind, Except.bind]
            | ok a =>
              obtain ⟨h1, h2⟩ := take_ok (p := p) h
              simp [h1, bind, Except.bind, Sim, h2]
          · simp [Sim]
theorem rest_bad (e : Int) (ts : List TokD) (c : CmdD) (i : Nat) (p : Int) : (restS e ts c ⟨i, true, p⟩).2.bad = true ∧ (restS e ts c ⟨i, true, p⟩).2.p = p := by
  unfold restS
  split
  · simp [take_bad]
  · split
    · simp [take_bad, mode_bad, fail_bad]
    · split
      · simp [take_bad]
      · split
        · simp [take_bad, sees_bad]
        · split
          · simp [take_bad]
          · simp

end Go.Proofs.YtlegmiaoablcgaaDoor

/- The parser's steps, up to the line's end, are the reading on lists; what a command that was read may be. -/
namespace Go.Proofs.YtlegmiaoablcgaaDoor
open Go.RowKit
set_option linter.unusedSimpArgs false

def kOf (ts : List TokD) (st : PS) : Nat → Int
  | 0 => -1
  | k + 1 => if seesS (kindW k) ts st then k else kOf ts st k
theorem kindW_inj : ∀ a b : Fin 10, kindW (a : Nat) = kindW (b : Nat) → a = b := by decide
theorem kOf_kind (ts : List TokD) (i : Nat) (p : Int) : kOf ts ⟨i, false, p⟩ 10 = match kindM (ts.drop i) with | none => -1 | some k => (k : Int) := by
  cases hk : kindM (ts.drop i) with
  | none =>
    have hno : ∀ k : Nat, k < 10 → seesS (kindW k) ts ⟨i, false, p⟩ = false := fun k hk10 => by
      rw [sees_good]
      have := List.find?_eq_none.1 hk k (by simpa using hk10)
      simpa using this
    have : ∀ n : Nat, n ≤ 10 → kOf ts ⟨i, false, p⟩ n = -1 := by
      intro n
      induction n with
      | zero => intro _; rfl
      | succ n ih => intro hn; simp only [kOf]; rw [if_neg (by rw [hno n (by omega)]; simp)]; exact ih (by omega)
    exact this 10 (Nat.le_refl _)
  | some k =>
    have hlt := kindM_lt hk
    have hs : seesM (kindW k) (ts.drop i) = true := by
      unfold kindM at hk
      simpa using List.find?_some hk
    have hot : ∀ j : Nat, j < 10 → j ≠ k → seesS (kindW j) ts ⟨i, false, p⟩ = false := fun j hj hne => by
      rw [sees_good]
      cases hd : ts.drop i with
      | nil => rfl
      | cons t r =>
        rw [hd] at hs
        simp only [seesM, decide_eq_true_eq] at hs
        simp only [seesM, decide_eq_false_iff_not]
        rintro ⟨-, h2⟩
        have := kindW_inj ⟨j, hj⟩ ⟨k, hlt⟩ (h2.symm.trans hs.2)
        exact hne (by simpa using this)
    have : ∀ n : Nat, n ≤ 10 → kOf ts ⟨i, false, p⟩ n = if k < n then (k : Int) else -1 := by
      intro n
      induction n with
      | zero => intro _; rfl
      | succ n ih =>
        intro hn
        simp only [kOf]
        by_cases he : n = k
        · subst he
          rw [if_pos (by rw [sees_good]; exact hs), if_pos (by omega)]
        · rw [if_neg (by rw [hot n (by omega) he]; simp), ih (by omega)]
          by_cases h : k < n
          · rw [if_pos h, if_pos (by omega)]
          · rw [if_neg h, if_neg (by omega)]
    rw [this 10 (Nat.le_refl _), if_pos hlt]
/-- What is left of a line must be nothing. -/
def lastS (e : Int) (ts : List TokD) (st : PS) : PS := if !st.bad && decide (st.i < ts.length) then failS e ts st else st
def finS (e : Int) (ts : List TokD) (R : CmdD × PS) : Except Int CmdD := if (lastS e ts R.2).bad then .error (lastS e ts R.2).p else .ok R.1
theorem fin_sim {e : Int} {ts : List TokD} {res : Except Int (CmdD × List TokD)} {R : CmdD × PS} (h : Sim ts res R) : finS e ts R = endM res := by
  obtain ⟨c, i, bad, p⟩ := R
  cases res with
  | error q =>
    obtain ⟨h1, h2⟩ := h
    simp only at h1 h2
    subst h1 h2
    simp [finS, lastS, endM, Except.bind]
  | ok r =>
    obtain ⟨h1, h2, h3⟩ := h
    simp only at h1 h2 h3
    subst h1 h2
    by_cases hl : i < ts.length
    · cases hr : r.2 with
      | nil => rw [hr] at h3; exact absurd (List.drop_eq_nil_iff.1 h3) (by omega)
      | cons t q =>
        rw [hr] at h3
        simp [finS, lastS, hl, failS, h3, failM, endM, Except.bind, hr]
    · have : r.2 = [] := by rw [← h3]; exact List.drop_eq_nil_iff.2 (by omega)
      simp [finS, lastS, hl, endM, Except.bind, this]
theorem fin_bad {e : Int} {ts : List TokD} {R : CmdD × PS} {q : Int} (h : R.2.bad = true ∧ R.2.p = q) : finS e ts R = .error q := by
  simp [finS, lastS, h.1, h.2]
/-- The steps behind the kind. -/
def stepS (e : Int) (ts : List TokD) (k : Int) (st : PS) : CmdD × PS := if k = 9 then restS e ts ⟨9, [], [], 0, 0, 0, 0, []⟩ st else restS e ts ⟨k, (takeS e 2 0 ts st).1.tx, [], 0, 0, 0, 0, []⟩ (takeS e 2 0 ts st).2
theorem spec_same {e : Int} {ts : List TokD} {k : Nat} (hk : kindM ts = some k) : cmdM e ts = finS e ts (stepS e ts k ⟨1, false, 0⟩) := by
  unfold cmdM
  rw [hk]
  have hd : ts.drop 1 = ts.drop (1 : Nat) := rfl
  unfold stepS
  by_cases h9 : k = 9
  · subst h9
    have h := fin_sim (e := e) (rest_sim e ts ⟨9, [], [], 0, 0, 0, 0, []⟩ 1 0)
    rw [show ((9 : Nat) : Int) = 9 from rfl, if_pos rfl, h]
    simp only [if_true, Except.bind, bind, endM]
    rfl
  · have h9' : ¬ ((k : Int) = 9) := by omega
    rw [if_neg h9']
    simp only [if_neg h9, Except.bind, bind]
    cases ht : takeM e 2 0 (ts.drop 1) with
    | error q =>
      rw [take_err (p := 0) ht]
      simp only
      rw [fin_bad (rest_bad e ts _ 1 q)]
    | ok b =>
      obtain ⟨h1, h2⟩ := take_ok (p := 0) ht
      rw [h1]
      simp only
      have h := fin_sim (e := e) (rest_sim e ts ⟨k, b.1.tx, [], 0, 0, 0, 0, []⟩ 2 0)
      rw [show (1 : Nat) + 1 = 2 from rfl] at h1 h2 ⊢
      rw [h, ← h2]
      rfl
/-- A command as one may be read. -/
def RngC (c : CmdD) : Prop := (0 ≤ c.k ∧ c.k ≤ 9) ∧ (0 ≤ c.uid ∧ c.uid ≤ 1000000) ∧ (0 ≤ c.mode ∧ c.mode ≤ 1000000) ∧ (0 ≤ c.fl ∧ c.fl ≤ 1000000) ∧ (0 ≤ c.si ∧ c.si ≤ 1000000) ∧ c.bx.length ≤ 2000 ∧ c.tt.length ≤ 2000 ∧ c.tx.length ≤ 2000
theorem rest_rng {e : Int} {c : CmdD} {ts : List TokD} {r : CmdD × List TokD} (hok : ∀ t ∈ ts, OkT t) (hc : RngC c) (h : restM e c ts = .ok r) : RngC r.1 := by
  obtain ⟨k, bx, tt, uid, mode, fl, si, tx⟩ := c
  obtain ⟨c1, c2, c3, c4, c5, c6, c7, c8⟩ := hc
  simp only at c1 c2 c3 c4 c5 c6 c7 c8
  unfold restM at h
  split at h
  · cases h1 : takeM e 4 0 ts with
    | error p => rw [h1] at h; cases h
    | ok a =>
      rw [h1] at h
      simp only [bind, Except.bind] at h
      have ha := hok a.1 (take_mem h1).2
      cases h2 : takeM e 5 0 a.2 with
      | error p => rw [h2] at h; cases h
      | ok b =>
        rw [h2] at h
        cases h
        have hb := hok b.1 ((take_mem h1).1 _ (take_mem h2).2)
        exact ⟨c1, c2, c3, ⟨ha.2.2.1, ha.2.2.2.1⟩, c5, c6, c7, hb.2.2.2.2.1⟩
  · split at h
    · cases h1 : takeM e 3 1 ts with
      | error p => rw [h1] at h; cases h
      | ok a =>
        rw [h1] at h
        simp only [bind, Except.bind] at h
        have ha := hok a.1 (take_mem h1).2
        cases hm : modeM a.2 with
        | none => rw [hm] at h; cases h
        | some m =>
          have hm3 : 0 ≤ m ∧ m ≤ 2 := by
            unfold modeM at hm
            split at hm
            · cases hm; omega
            · split at hm
              · cases hm; omega
              · split at hm
                · cases hm; omega
                · cases hm
          rw [hm] at h
          simp only at h
          cases h2 : takeM e 4 0 (a.2.drop 1) with
          | error p => rw [h2] at h; cases h
          | ok b =>
            rw [h2] at h
            have hb := hok b.1 ((take_mem h1).1 _ (List.mem_of_mem_drop (take_mem h2).2))
            simp only at h
            split at h
            · cases h3 : takeM e 3 1 (b.2.drop 1) with
              | error p => rw [h3] at h; cases h
              | ok d =>
                rw [h3] at h
                cases h
                have hd := hok d.1 ((take_mem h1).1 _ (List.mem_of_mem_drop ((take_mem h2).1 _ (List.mem_of_mem_drop (take_mem h3).2))))
                exact ⟨c1, ⟨ha.2.2.1, ha.2.2.2.1⟩, ⟨hm3.1, by simp only; omega⟩, ⟨hb.2.2.1, hb.2.2.2.1⟩, ⟨hd.2.2.1, hd.2.2.2.1⟩, c6, c7, c8⟩
            · cases h
              exact ⟨c1, ⟨ha.2.2.1, ha.2.2.2.1⟩, ⟨hm3.1, by simp only; omega⟩, ⟨hb.2.2.1, hb.2.2.2.1⟩, c5, c6, c7, c8⟩
    · split at h
      · cases h1 : takeM e 3 1 ts with
        | error p => rw [h1] at h; cases h
        | ok a =>
          rw [h1] at h
          cases h
          have ha := hok a.1 (take_mem h1).2
          exact ⟨c1, ⟨ha.2.2.1, ha.2.2.2.1⟩, c3, c4, c5, c6, c7, c8⟩
      · split at h
        · cases h1 : takeM e 3 1 ts with
          | error p => rw [h1] at h; cases h
          | ok a =>
            rw [h1] at h
            simp only [bind, Except.bind] at h
            have ha := hok a.1 (take_mem h1).2
            cases h2 : takeM e 2 0 a.2 with
            | error p => rw [h2] at h; cases h
            | ok b =>
              rw [h2] at h
              have hb := hok b.1 ((take_mem h1).1 _ (take_mem h2).2)
              simp only at h
              split at h
              · cases h
                exact ⟨c1, ⟨ha.2.2.1, ha.2.2.2.1⟩, ⟨by simp, by simp⟩, c4, c5, c6, hb.2.2.2.2.1, c8⟩
              · cases h
                exact ⟨c1, ⟨ha.2.2.1, ha.2.2.2.1⟩, c3, c4, c5, c6, hb.2.2.2.2.1, c8⟩
        · split at h
          · cases h1 : takeM e 3 0 ts with
            | error p => rw [h1] at h; cases h
            | ok a =>
              rw [h1] at h
              cases h
              have ha := hok a.1 (take_mem h1).2
              exact ⟨c1, c2, c3, c4, ⟨ha.2.2.1, ha.2.2.2.1⟩, c6, c7, c8⟩
          · cases h
            exact ⟨c1, c2, c3, c4, c5, c6, c7, c8⟩
theorem cmd_rng {e : Int} {ts : List TokD} {c : CmdD} (hok : ∀ t ∈ ts, OkT t) (h : cmdM e ts = .ok c) : RngC c := by
  unfold cmdM at h
  cases hk : kindM ts with
  | none => rw [hk] at h; cases h
  | some k =>
    rw [hk] at h
    have hlt := kindM_lt hk
    have hod : ∀ t ∈ ts.drop 1, OkT t := fun t ht => hok t (List.mem_of_mem_drop ht)
    have key : ∀ (bx : List Int) (us : List TokD), bx.length ≤ 2000 → (∀ t ∈ us, OkT t) → ((restM e ⟨k, bx, [], 0, 0, 0, 0, []⟩ us).bind fun r => match r.2 with | [] => .ok r.1 | t :: _ => .error t.p) = Except.ok c → RngC c := by
      intro bx us hb hu hh
      cases hr : restM e ⟨k, bx, [], 0, 0, 0, 0, []⟩ us with
      | error p => rw [hr] at hh; cases hh
      | ok r =>
        rw [hr] at hh
        have := rest_rng hu ⟨⟨by simp only; omega, by simp only; omega⟩, ⟨by simp, by simp⟩, ⟨by simp, by simp⟩, ⟨by simp, by simp⟩, ⟨by simp, by simp⟩, hb, by simp, by simp⟩ hr
        simp only [Except.bind] at hh
        split at hh
        · cases hh; exact this
        · cases hh
    simp only [bind, Except.bind] at h
    by_cases h9 : k = 9
    · rw [if_pos h9] at h
      exact key [] _ (by simp) hod h
    · rw [if_neg h9] at h
      cases h2 : takeM e 2 0 (ts.drop 1) with
      | error p => rw [h2] at h; cases h
      | ok b =>
        rw [h2] at h
        exact key b.1.tx b.2 (hod b.1 (take_mem h2).2).2.2.2.2.1 (fun t ht => hod t ((take_mem h2).1 t ht)) h
theorem lex_okT : ∀ (f : Nat) (i : Int) (s : List Int) (ts : List TokD), Oct s → s.length ≤ 2000 → lexM f i s = .ok ts → ∀ t ∈ ts, OkT t
  | 0, i, s, ts, _, _, h => by simp [lexM] at h; subst h; simp
  | f + 1, i, [], ts, _, _, h => by simp [lexM] at h; subst h; simp
  | f + 1, i, x :: r, ts, ho, hl, h => by
    simp only [lexM] at h
    split at h
    · exact lex_okT f _ r ts (fun z hz => ho z (by simp [hz])) (by simp at hl; omega) h
    · cases hone : oneM i (x :: r) with
      | none => rw [hone] at h; cases h
      | some p =>
        rw [hone] at h
        simp only at h
        have hsuf := (oneM_suf hone).1
        cases hx : lexM f (i + (((x :: r).length : Int) - (p.2.length : Int))) p.2 with
        | error e => rw [hx] at h; cases h
        | ok us =>
          rw [hx] at h
          cases h
          intro t ht
          rcases List.mem_cons.1 ht with rfl | ht
          · exact oneM_ok hone ho hl
          · exact lex_okT f _ p.2 us (fun z hz => ho z (hsuf.subset hz)) (Nat.le_trans hsuf.length_le hl) hx t ht
theorem read_rng {l : List Int} (ho : Oct l) : RngC (readM l).1 ∧ True := by
  have hz : RngC zeroCmd := ⟨⟨by decide, by decide⟩, ⟨by decide, by decide⟩, ⟨by decide, by decide⟩, ⟨by decide, by decide⟩, ⟨by decide, by decide⟩, by decide, by decide, by decide⟩
  unfold readM
  split
  · exact ⟨hz, trivial⟩
  · rename_i hl
    cases h : lexM (l.length + 1) 0 l with
    | error i => exact ⟨hz, trivial⟩
    | ok ts =>
      simp only
      have hok := lex_okT _ _ l ts ho (by omega) h
      cases hc : cmdM l.length ts with
      | error p => exact ⟨hz, trivial⟩
      | ok c => exact ⟨cmd_rng hok hc, trivial⟩

end Go.Proofs.YtlegmiaoablcgaaDoor

/- What toByteS, eqByteS, markByteS, heldByteS of package laws do. -/
namespace Go.Proofs.YtlegmiaoablcgaaDoor
open Go.RowKit
set_option maxRecDepth 100000

/-- the first k bytes of l laid over noughts -/
def laid (l : List Int) (k : Nat) : List Int := l.take k ++ List.replicate (l.length - k) 0
theorem length_laid (l : List Int) (k : Nat) (h : k ≤ l.length) : (laid l k).length = l.length := by simp [laid]; omega
theorem laid_zero (l : List Int) : vals (laid l 0) = List.replicate l.length (.int .u8 0) := by simp [laid, vals]
theorem laid_all (l : List Int) : laid l l.length = l := by simp [laid]
theorem laid_succ (l : List Int) (k : Nat) (h : k < l.length) : (vals (laid l k)).set k (.int .u8 (l.getD k 0)) = vals (laid l (k + 1)) := by
  have e : (laid l k).set k (l.getD k 0) = laid l (k + 1) := by
    have ht : (l.take k).length = k := by simp; omega
    have hr : List.replicate (l.length - k) (0 : Int) = 0 :: List.replicate (l.length - (k + 1)) 0 := by
      rw [show l.length - k = (l.length - (k + 1)) + 1 by omega, List.replicate_succ]
    unfold laid
    have hg : l.getD k 0 = l[k] := by simp [h]
    rw [hr, List.set_append_right k (l.getD k 0) (by omega), ht, Nat.sub_self, List.set_cons_zero, List.take_succ_eq_append_getElem h, List.append_assoc, List.singleton_append, hg]
  rw [← e]
  simp [vals, List.map_set]

set_option maxHeartbeats 400000 in
theorem toByteS_any (v : Value) (l : List Int) (w : World) (hv : Bs w v l) (hl : l.length ≤ 2000000) :
    Calls Tryd.prog 11 #[v] w fun e w' => ∃ u, e = .returned u ∧ Own w' w.heap.size u l ∧ Below w.heap.size w w' := by
  obtain ⟨ho, a, cap, rfl, hlc, hcm, hnil, hcells⟩ := hv
  obtain ⟨i0, hi, hz0, hz1, hz2⟩ := info_parts info5
  unfold maxLen at hcm
  go_enter Tryd.func11, Tryd.ntmps11
  go_wp2_with (at_make; refine wpList_make_full _ rfl _ _ 22 rfl w.heap.size 5 i0 (.int .u8 0) 1 Tryd.underlying22 hi hz0 hz1 _ _ _ _ l.length rfl rfl rfl rfl ?b1 ?b2 ?b3 ?_)
  case b1 => rw [hz2]; omega
  case b2 => unfold maxLen; omega
  case b3 => exact Nat.le_refl _
  intro w1 hown hgrow
  have hB := (Below.refl w.heap.size w).grown hgrow (Nat.le_refl _) (by simp)
  have HR : Hid (w1.heap[w.heap.size]? = some (.cells (vals (laid l 0)).toArray 5 (0, 0))) := by
    rw [laid_zero]
    exact made_heap hown
  clear hown hgrow
  go_wp2
  go_loopw [4] (fun i wr => ∃ k : Nat, k ≤ l.length ∧ i = .int .i64 k ∧ Hid (wr.heap[w.heap.size]? = some (.cells (vals (laid l k)).toArray 5 (0, 0))) ∧ Below w.heap.size w wr) (fun i _ => l.length - (intOf i).toNat)
  case atStart => exact ⟨0, Nat.zero_le _, rfl, HR, hB⟩
  case round =>
    obtain ⟨k, hk, rfl, hR, hB'⟩ := hrel
    by_cases hlt : k < l.length
    · obtain ⟨b, off, rfl, hlb, hc⟩ := hcells (by omega)
      have hcx : wr.cell? ⟨b, off + k, none⟩ = some (.int .u8 (l.getD k 0)) := (hB'.cell (by exact hlb)).trans (hc k hlt)
      have hd := cell_of_row wr w.heap.size k _ 5 (0, 0) hR.out
      have hd' : ∃ x, wr.cell? ⟨w.heap.size, k, none⟩ = some x := ⟨_, hd.trans (by simp [vals_get _ _ (show k < (laid l k).length by rw [length_laid l k hk]; exact hlt)]; rfl)⟩
      have hf := frozen_of_row wr w.heap.size k _ 5 hR.out
      have hR' := heap_setCell_same wr w.heap.size k _ 5 (.int .u8 (l.getD k 0)) hR.out
      have HR' : Hid ((wr.setCell ⟨w.heap.size, k, none⟩ (.int .u8 (l.getD k 0))).heap[w.heap.size]? = some (.cells (vals (laid l (k + 1))).toArray 5 (0, 0))) := by
        rw [← laid_succ l k hlt]; simpa [Hid] using hR'
      obtain ⟨x, hx⟩ := hd'
      clear hd hR' hR
      go_wp2
      go_roundw
      case rel => exact ⟨k + 1, by omega, by go_num, by rw [← show l.getD k 0 = l[k] by simp [hlt]]; exact HR', hB'.setCell (Nat.le_refl _) _⟩
      case measure => simp [intOf]; omega
    · go_wp2
      go_ret
      obtain rfl : k = l.length := by omega
      rw [laid_all] at hR
      exact ⟨_, rfl, own_made ho (by unfold maxLen; omega) hR.out, hB'⟩

theorem eqL_take (l m : List Int) (k : Nat) (hl : l.length = m.length) (h : l.take k = m.take k) (hk : l.length ≤ k) : l = m := by
  rw [List.take_of_length_le hk, List.take_of_length_le (by omega)] at h; exact h
theorem take_snoc_eq {l m : List Int} {k : Nat} (hl : k < l.length) (hm : k < m.length) (h : l.take k = m.take k) (e : l[k] = m[k]) : l.take (k + 1) = m.take (k + 1) := by
  rw [List.take_succ_eq_append_getElem hl, List.take_succ_eq_append_getElem hm, h, e]

set_option maxHeartbeats 400000 in
theorem eqByteS_any (v u : Value) (l m : List Int) (w : World) (hv : Bs w v l) (hu : Bs w u m) :
    Calls Tryd.prog 13 #[v, u] w fun e w' => e = .returned (.bool (decide (l = m))) ∧ ∃ n, w' = w.drewN n := by
  obtain ⟨ho, a, cap, rfl, hlc, hcm, hnil, hcells⟩ := hv
  obtain ⟨ho', a', cap', rfl, hlc', hcm', hnil', hcells'⟩ := hu
  unfold maxLen at hcm hcm'
  by_cases hlen : l.length = m.length
  · have hq : ((l.length : Int) == (m.length : Int)) = true := by simp; omega
    have HL : Hid (l.length = m.length) := hlen
    clear hlen
    go_enter Tryd.func13, Tryd.ntmps13
    go_wp2
    go_loopw [5] (fun i wr => ∃ k : Nat, k ≤ l.length ∧ i = .int .i64 k ∧ Hid (l.take k = m.take k) ∧ Hid (∃ n, wr = w.drewN n)) (fun i _ => l.length - (intOf i).toNat)
    case atStart => exact ⟨0, Nat.zero_le _, rfl, by simp [Hid], ⟨0, rfl⟩⟩
    case round =>
      obtain ⟨k, hk, rfl, hR, hW⟩ := hrel
      by_cases hlt : k < l.length
      · have hlt' : k < m.length := by rw [← HL.out]; exact hlt
        obtain ⟨b, off, rfl, hlb, hc⟩ := hcells (by omega)
        obtain ⟨b', off', rfl, hlb', hc'⟩ := hcells' (by omega)
        obtain ⟨n, rfl⟩ := hW.out
        have hx := hc k hlt
        have hx' := hc' k hlt'
        clear hc hc' hcells hcells' hW
        by_cases he : (l[k] == m[k]) = true
        · go_wp2
          go_quiet (fail)
          go_wp2
          go_roundw
          case rel => exact ⟨k + 1, by omega, by go_num, take_snoc_eq hlt hlt' hR.out (by simpa using he), ⟨_, rfl⟩⟩
          case measure => simp [intOf]; omega
        · have he' : (l[k] == m[k]) = false := by simpa using he
          have hd : l ≠ m := fun h => he (by subst h; simp)
          clear he
          go_wp2
          go_quiet (fail)
          go_wp2
          go_ret
          exact ⟨by simp [hd], _, World.drewN_drewN _ _ _⟩
      · go_wp2
        go_ret
        exact ⟨by simp [eqL_take l m k HL.out hR.out (by omega)], hW.out⟩
  · have hne : ((l.length : Int) == (m.length : Int)) = false := by simp; omega
    have hd : l ≠ m := fun h => hlen (by rw [h])
    go_enter Tryd.func13, Tryd.ntmps13
    go_wp2
    go_ret
    exact ⟨by simp [hd], 0, rfl⟩

/-- n marks from k on: what markByteS writes. -/
def marks (k : Int) (n : Nat) : List Int := (List.range n).map fun (i : Nat) => (k + (i : Int)) % 256
theorem length_marks (k : Int) (n : Nat) : (marks k n).length = n := by simp [marks]
theorem marks_succ (k : Int) (n : Nat) : marks k (n + 1) = marks k n ++ [(k + (n : Int)) % 256] := by simp [marks, List.range_succ]
theorem marks_get (k : Int) (n i : Nat) (h : i < n) : (marks k n).getD i 0 = (k + (i : Int)) % 256 := by simp [marks, h]
theorem marks_take (k : Int) (cr : Array Value) (j : Nat) (hj : j < cr.size) (h : cr.toList.take j = vals (marks k j)) :
    (cr.setIfInBounds j (.int .u8 ((k + (j : Int)) % 256))).toList.take (j + 1) = vals (marks k (j + 1)) := by
  rw [Array.toList_setIfInBounds, List.take_succ_eq_append_getElem (by simpa using hj), List.take_set_of_le (Nat.le_refl _), h, marks_succ, vals_append]
  simp [vals]
theorem oct_marks (k : Int) (n : Nat) : Oct (marks k n) := by
  intro x hx
  obtain ⟨i, _, rfl⟩ := List.mem_map.1 hx
  omega

set_option maxHeartbeats 400000 in
theorem markByteS_any (g : Nat) (v : Value) (l : List Int) (k : Int) (w : World) (hv : Own w g v l) (hl : l.length ≤ 2000000) (hk0 : 0 ≤ k) (hk1 : k ≤ 1000000000000) :
    Calls Tryd.prog 14 #[v, .int .i64 k] w fun e w' => e = .returned (.int .i64 (k + l.length)) ∧ Own w' g v (marks k l.length) ∧ w.grownBy w' (some g) := by
  obtain ⟨ho, ⟨rfl, rfl⟩ | ⟨cap, cur, rfl, hh, hlc, hcm, hcs, htk⟩⟩ := hv
  · go_enter Tryd.func14, Tryd.ntmps14
    go_wp2
    refine wp_loop_rounds 1 ?_
    rw [rounds_succ]
    go_wp2
    go_ret
    exact ⟨by simp, ⟨oct_marks _ _, .inl ⟨rfl, rfl⟩⟩, World.grownBy.refl _ _⟩
  · unfold maxLen at hcm
    go_enter Tryd.func14, Tryd.ntmps14
    go_wp2
    go_loopw [1, 5] (fun q i wr => ∃ j : Nat, j ≤ l.length ∧ i = .int .i64 j ∧ q = .int .i64 (k + j) ∧ Hid (∃ cr, wr.heap[g]? = some (.cells cr 5 (0, 0)) ∧ cr.size = cap ∧ cr.toList.take j = vals (marks k j)) ∧ w.grownBy wr (some g)) (fun _ i _ => l.length - (intOf i).toNat)
    case atStart => exact ⟨0, Nat.zero_le _, rfl, by simp, ⟨cur, hh, hcs, by simp [marks, vals]⟩, World.grownBy.refl _ _⟩
    case round =>
      obtain ⟨j, hj, rfl, rfl, hR, hG⟩ := hrel
      obtain ⟨cr, hR1, hR2, hR3⟩ := hR.out
      by_cases hlt : j < l.length
      · have hd := cell_of_row wr g j _ 5 (0, 0) hR1
        have hd' : ∃ x, wr.cell? ⟨g, j, none⟩ = some x := ⟨_, hd.trans (by simp [show j < cr.size by omega]; rfl)⟩
        have hf := frozen_of_row wr g j _ 5 hR1
        obtain ⟨x, hx⟩ := hd'
        clear hd
        go_wp2
        go_roundw
        case rel => exact ⟨j + 1, by omega, by go_num, by go_num, ⟨_, heap_setCell_same wr g j _ 5 _ hR1, by simpa using hR2, marks_take k cr j (by omega) hR3⟩, grownBy_setCell hG⟩
        case measure => simp [intOf]; omega
      · go_wp2
        go_ret
        obtain rfl : j = l.length := by omega
        exact ⟨rfl, ⟨oct_marks _ _, .inr ⟨cap, cr, by rw [length_marks], hR1, by rw [length_marks]; exact hlc, by unfold maxLen; omega, hR2, by rw [length_marks]; exact hR3⟩⟩, hG⟩

set_option maxHeartbeats 400000 in
theorem heldByteS_any (v : Value) (n : Nat) (k : Int) (w : World) (hv : Bs w v (marks k n)) (hl : n ≤ 2000000) (hk0 : 0 ≤ k) (hk1 : k ≤ 1000000000000) :
    Calls Tryd.prog 33 #[v, .int .i64 k] w fun e w' => e = .returned (.int .i64 (k + n)) ∧ ∃ d, w' = w.drewN d := by
  obtain ⟨ho, a, cap, rfl, hlc, hcm, hnil, hcells⟩ := hv
  rw [length_marks] at hlc hcells ⊢
  unfold maxLen at hcm
  go_enter Tryd.func33, Tryd.ntmps33
  go_wp2
  go_loopw [1, 5] (fun q i wr => ∃ j : Nat, j ≤ n ∧ i = .int .i64 j ∧ q = .int .i64 (k + j) ∧ Hid (∃ d, wr = w.drewN d)) (fun _ i _ => n - (intOf i).toNat)
  case atStart => exact ⟨0, Nat.zero_le _, rfl, by simp, ⟨0, rfl⟩⟩
  case round =>
    obtain ⟨j, hj, rfl, rfl, hW⟩ := hrel
    by_cases hlt : j < n
    · obtain ⟨b, off, rfl, hlb, hc⟩ := hcells (by omega)
      obtain ⟨d, rfl⟩ := hW.out
      have hx := hc j hlt
      rw [marks_get k n j hlt] at hx
      clear hc hcells hW
      go_wp2
      go_roundw
      case rel => exact ⟨j + 1, by omega, by go_num, by go_num, ⟨d, rfl⟩⟩
      case measure => simp [intOf]; omega
    · go_wp2
      go_ret
      obtain rfl : j = n := by omega
      exact ⟨rfl, hW.out⟩

theorem toByteS_r (v : Value) (l : List Int) (w : World) (hv : Bs w v l) (hl : l.length ≤ 2000000) :
    Calls Tryd.prog 11 #[v] w fun e w' => ∃ u, e = .returned u ∧ Row w' w.heap.size w'.heap.size u l ∧ Below w.heap.size w w' :=
  (toByteS_any v l w hv hl).mono fun _ _ ⟨u, h1, h2, h3⟩ => ⟨u, h1, OwnB.toRow ⟨_, Nat.le_refl _, h2⟩, h3⟩
theorem eqByteS_yes (v u : Value) (l : List Int) (w : World) (hv : Bs w v l) (hu : Bs w u l) :
    Calls Tryd.prog 13 #[v, u] w fun e w' => e = .returned (.bool true) ∧ Below w.heap.size w w' :=
  (eqByteS_any v u l l w hv hu).mono fun _ _ ⟨h, hd⟩ => ⟨by simpa using h, below_of_drewN hd⟩
theorem heldByteS_yes (v : Value) (n : Nat) (k : Int) (w : World) (hv : Bs w v (marks k n)) (hl : n ≤ 2000000) (hk0 : 0 ≤ k) (hk1 : k ≤ 1000000000000) :
    Calls Tryd.prog 33 #[v, .int .i64 k] w fun e w' => e = .returned (.int .i64 (k + n)) ∧ Below w.heap.size w w' :=
  (heldByteS_any v n k w hv hl hk0 hk1).mono fun _ _ ⟨h, hd⟩ => ⟨h, below_of_drewN hd⟩
theorem markByteS_r (B T : Nat) (v : Value) (l : List Int) (k : Int) (w : World) (hv : Row w B T v l) (hl : l.length ≤ 2000000) (hk0 : 0 ≤ k) (hk1 : k ≤ 1000000000000) :
    Calls Tryd.prog 14 #[v, .int .i64 k] w fun e w' => e = .returned (.int .i64 (k + l.length)) ∧ Row w' B T v (marks k l.length) ∧ w.grownBy w' v.ownBlock := by
  obtain ⟨g, hB, ho⟩ := hv.own
  rcases ho.2 with ⟨rfl, rfl⟩ | ⟨cap, cur, rfl, _⟩
  · go_enter Tryd.func14, Tryd.ntmps14
    go_wp2
    refine wp_loop_rounds 1 ?_
    rw [rounds_succ]
    go_wp2
    go_ret
    exact ⟨by simp, Row.nil _ _ _, World.grownBy.refl _ _⟩
  · refine (markByteS_any g _ l k w ho hl hk0 hk1).mono fun e w' ⟨h1, h2, h3⟩ => ⟨h1, ⟨h2.1, OwnB.row ⟨g, hB, h2⟩, hv.2.2⟩, h3⟩

end Go.Proofs.YtlegmiaoablcgaaDoor

/- What szByteS of package laws does. -/
namespace Go.Proofs.YtlegmiaoablcgaaDoor
open Go.RowKit

/-- What is left of a size when n more are taken; -1: it does not suffice. -/
def szL' (left : Int) (n : Nat) : Int := if left - n < 0 then -1 else left - n

theorem szL_or (left : Int) (n : Nat) : szL' left n = -1 ∨ (0 ≤ szL' left n ∧ szL' left n + n = left) := by
  unfold szL'
  split
  · exact .inl rfl
  · exact .inr ⟨by omega, by omega⟩

end Go.Proofs.YtlegmiaoablcgaaDoor

/- What szCmd, toCmd, eqCmd of package laws do. -/
namespace Go.Proofs.YtlegmiaoablcgaaDoor
open Go.RowKit
set_option maxRecDepth 100000
set_option linter.unusedVariables false

set_option maxRecDepth 100000 in
set_option maxHeartbeats 1000000 in
theorem eqCmd_yes (v u : Value) (k : Int) (bx tt : List Int) (uid mode fl si : Int) (tx : List Int) (w : World) (hv : CmdV w v k bx tt uid mode fl si tx) (hu : CmdV w u k bx tt uid mode fl si tx) :
    Calls Tryd.prog 12 #[v, u] w fun e w' => e = .returned (.bool true) ∧ Below w.heap.size w w' := by
  obtain ⟨u0, u1, u2, rfl, g0, g1, g2, i0, i1, i2, i3, i4⟩ := hv
  obtain ⟨v0, v1, v2, rfl, g3, g4, g5, -⟩ := hu
  have H0 : Hid (∀ wi, Below w.heap.size w wi → (Bs wi u0 bx ∧ Bs wi v0 bx) ∧ (Bs wi u1 tt ∧ Bs wi v1 tt) ∧ (Bs wi u2 tx ∧ Bs wi v2 tx)) := fun wi h => ⟨⟨g0.below h, g3.below h⟩, ⟨g1.below h, g4.below h⟩, ⟨g2.below h, g5.below h⟩⟩
  obtain ⟨a0, n0, c0, rfl⟩ := g0.form3
  obtain ⟨a1, n1, c1, rfl⟩ := g1.form3
  obtain ⟨a2, n2, c2, rfl⟩ := g2.form3
  obtain ⟨p0, m0, q0, rfl⟩ := g3.form3
  obtain ⟨p1, m1, q1, rfl⟩ := g4.form3
  obtain ⟨p2, m2, q2, rfl⟩ := g5.form3
  clear g0 g1 g2 g3 g4 g5 i0 i1 i2 i3 i4
  have bx2 := boxes2 w (.cells #[.int .i64 k, .slice a0 n0 c0, .slice a1 n1 c1, .int .i64 uid, .int .i64 mode, .int .i64 fl, .int .i64 si, .slice a2 n2 c2] 24) (.cells #[.int .i64 k, .slice p0 m0 q0, .slice p1 m1 q1, .int .i64 uid, .int .i64 mode, .int .i64 fl, .int .i64 si, .slice p2 m2 q2] 24)
  obtain ⟨kA, kB, X⟩ := bx2
  go_enter Tryd.func12, Tryd.ntmps12
  go_wp2_with fail
  refine (eqByteS_yes _ _ bx _ (H0.out _ X).1.1 (H0.out _ X).1.2).mono ?_
  rintro e w1 ⟨rfl, B⟩
  replace X := Below.step X B
  replace kA := box_below B kA
  replace kB := box_below B kB
  clear B
  obtain ⟨f0, f1, f2, f3, f4, f5, f6, f7⟩ := box8 kA
  obtain ⟨d0, d1, d2, d3, d4, d5, d6, d7⟩ := box8 kB
  go_wp2_with fail
  refine (eqByteS_yes _ _ tt _ (H0.out _ X).2.1.1 (H0.out _ X).2.1.2).mono ?_
  rintro e w2 ⟨rfl, B⟩
  clear f0 f1 f2 f3 f4 f5 f6 f7 d0 d1 d2 d3 d4 d5 d6 d7
  replace X := Below.step X B
  replace kA := box_below B kA
  replace kB := box_below B kB
  clear B
  obtain ⟨f0, f1, f2, f3, f4, f5, f6, f7⟩ := box8 kA
  obtain ⟨d0, d1, d2, d3, d4, d5, d6, d7⟩ := box8 kB
  go_wp2_with fail
  refine (eqByteS_yes _ _ tx _ (H0.out _ X).2.2.1 (H0.out _ X).2.2.2).mono ?_
  rintro e w3 ⟨rfl, B⟩
  clear f0 f1 f2 f3 f4 f5 f6 f7 d0 d1 d2 d3 d4 d5 d6 d7
  replace X := Below.step X B
  replace kA := box_below B kA
  replace kB := box_below B kB
  clear B
  obtain ⟨f0, f1, f2, f3, f4, f5, f6, f7⟩ := box8 kA
  obtain ⟨d0, d1, d2, d3, d4, d5, d6, d7⟩ := box8 kB
  go_wp2
  go_ret
  exact ⟨rfl, X⟩

end Go.Proofs.YtlegmiaoablcgaaDoor

/- What markCmd and heldCmd of package laws do at a command of the call's own that was read. -/
namespace Go.Proofs.YtlegmiaoablcgaaDoor
open Go.RowKit
set_option maxRecDepth 100000
set_option linter.unusedVariables false
set_option linter.unusedSimpArgs false

section
variable {w w' : World} {B T B' T' : Nat} {v : Value} {c : CmdD}
theorem CmdX.below (h : CmdX w B T v c) (hb : Below w.heap.size w w') : CmdX w' B T v c :=
  let ⟨u0, u1, u2, T0, T1, hv, r0, r1, r2, r⟩ := h; ⟨u0, u1, u2, T0, T1, hv, r0.below hb, r1.below hb, r2.below hb, r⟩
theorem CmdX.keptW (h : CmdX w B T v c) (hw : Within B' T' w w') (hd : T ≤ B' ∨ T' ≤ B) : CmdX w' B T v c :=
  let ⟨u0, u1, u2, T0, T1, hv, r0, r1, r2, h1, h2, h3⟩ := h; ⟨u0, u1, u2, T0, T1, hv, r0.keptW hw (by omega), r1.keptW hw (by omega), r2.keptW hw (by omega), h1, h2, h3⟩
theorem CmdX.form (h : CmdX w B T v c) : ∃ a0 n0 c0 a1 n1 c1 a2 n2 c2, v = .agg #[.int .i64 c.k, .slice a0 n0 c0, .slice a1 n1 c1, .int .i64 c.uid, .int .i64 c.mode, .int .i64 c.fl, .int .i64 c.si, .slice a2 n2 c2] := by
  obtain ⟨u0, u1, u2, T0, T1, hv, r0, r1, r2, r⟩ := h
  obtain ⟨a0, n0, c0, rfl⟩ := r1.bs.form3
  obtain ⟨a1, n1, c1, rfl⟩ := r2.bs.form3
  obtain ⟨a2, n2, c2, rfl⟩ := r0.bs.form3
  exact ⟨_, _, _, _, _, _, _, _, _, hv⟩
theorem CmdX.toV (h : CmdX w B T v c) (hr : RngC c) : CmdV w v c.k c.bx c.tt c.uid c.mode c.fl c.si c.tx := by
  obtain ⟨u0, u1, u2, T0, T1, hv, r0, r1, r2, r⟩ := h
  obtain ⟨g1, g2, g3, g4, g5, -⟩ := hr
  exact ⟨u0, u1, u2, hv, r1.bs, r2.bs, r0.bs, ⟨by omega, by omega⟩, ⟨by omega, by omega⟩, ⟨by omega, by omega⟩, ⟨by omega, by omega⟩, ⟨by omega, by omega⟩⟩
end
/-- The command with marks for its bytes. -/
def mkC (q : Int) (c : CmdD) : CmdD := { c with bx := marks q c.bx.length, tt := marks (q + c.bx.length) c.tt.length, tx := marks (q + c.bx.length + c.tt.length) c.tx.length }

set_option maxRecDepth 100000 in
set_option maxHeartbeats 1000000 in
theorem markCmd_x (B T : Nat) (v : Value) (c : CmdD) (q : Int) (w : World) (hv : CmdX w B T v c) (hT : T ≤ w.heap.size)
    (h0 : c.bx.length ≤ 2000000) (h1 : c.tt.length ≤ 2000000) (h2 : c.tx.length ≤ 2000000) (hq0 : 0 ≤ q) (hq1 : q ≤ 1000000000) :
    Calls Tryd.prog 15 #[v, .int .i64 q] w fun e w' => e = .returned (.int .i64 (q + c.bx.length + c.tt.length + c.tx.length)) ∧ CmdX w' B T v (mkC q c) ∧ Within B T w w' := by
  obtain ⟨ck, bx, tt, cu, cm, cf, cs, tx⟩ := c
  simp only at h0 h1 h2
  show Calls _ _ _ _ fun e w' => e = .returned (.int .i64 (q + bx.length + tt.length + tx.length)) ∧ CmdX w' B T v ⟨ck, marks q bx.length, marks (q + bx.length) tt.length, cu, cm, cf, cs, marks (q + bx.length + tt.length) tx.length⟩ ∧ Within B T w w'
  obtain ⟨u0, u1, u2, T0, T1, rfl, g2, g0, g1, r0, r1, r2⟩ := hv
  simp only at g0 g1 g2
  obtain ⟨a0, c0, rfl⟩ := g0.bs.form
  obtain ⟨a1, c1, rfl⟩ := g1.bs.form
  obtain ⟨a2, c2, rfl⟩ := g2.bs.form
  have hB : Below w.heap.size w (w.alloc (.cells #[.int .i64 ck, .slice a0 bx.length c0, .slice a1 tt.length c1, .int .i64 cu, .int .i64 cm, .int .i64 cf, .int .i64 cs, .slice a2 tx.length c2] 24)) := (Below.refl _ _).alloc (Nat.le_refl _) _
  have HW : Hid (Row (w.alloc (.cells #[.int .i64 ck, .slice a0 bx.length c0, .slice a1 tt.length c1, .int .i64 cu, .int .i64 cm, .int .i64 cf, .int .i64 cs, .slice a2 tx.length c2] 24)) T0 T1 (.slice a0 bx.length c0) bx ∧ Row (w.alloc (.cells #[.int .i64 ck, .slice a0 bx.length c0, .slice a1 tt.length c1, .int .i64 cu, .int .i64 cm, .int .i64 cf, .int .i64 cs, .slice a2 tx.length c2] 24)) T1 T (.slice a1 tt.length c1) tt ∧ Row (w.alloc (.cells #[.int .i64 ck, .slice a0 bx.length c0, .slice a1 tt.length c1, .int .i64 cu, .int .i64 cm, .int .i64 cf, .int .i64 cs, .slice a2 tx.length c2] 24)) B T0 (.slice a2 tx.length c2) tx) := ⟨g0.below hB, g1.below hB, g2.below hB⟩
  have bk := box_new w (.cells #[.int .i64 ck, .slice a0 bx.length c0, .slice a1 tt.length c1, .int .i64 cu, .int .i64 cm, .int .i64 cf, .int .i64 cs, .slice a2 tx.length c2] 24)
  clear g0 g1 g2
  obtain ⟨f0, f1, f2, f3, f4, f5, f6, f7⟩ := box8 bk
  go_enter Tryd.func15, Tryd.ntmps15
  go_wp2_with fail
  refine (markByteS_r T0 T1 _ bx q _ HW.out.1 h0 hq0 (by omega)).mono ?_
  rintro e w1 ⟨rfl, R0, G⟩
  have WI := HW.out.1.within G
  have s1 := WI.size
  have HI : Hid (Within B T w w1) := (Within.ofBelow hB).trans (WI.wide (by omega) (by omega))
  have HR1 : Hid (Row w1 T1 T (.slice a1 tt.length c1) tt) := HW.out.2.1.keptW WI (by omega)
  have HR2 : Hid (Row w1 B T0 (.slice a2 tx.length c2) tx) := HW.out.2.2.keptW WI (by omega)
  have HR0 : Hid (Row w1 T0 T1 (.slice a0 bx.length c0) (marks q bx.length)) := R0
  have bk1 := (WI.block w.heap.size (by simp) (by omega)).trans bk
  clear f0 f1 f2 f3 f4 f5 f6 f7 bk G R0 hB WI
  obtain ⟨f0, f1, f2, f3, f4, f5, f6, f7⟩ := box8 bk1
  have hl1 := lt_of_heap bk1
  go_wp2_with fail
  refine (markByteS_r T1 T _ tt (q + bx.length) _ HR1.out h1 (by omega) (by omega)).mono ?_
  rintro e w2 ⟨rfl, R1, G⟩
  have WI := HR1.out.within G
  have s2 := WI.size
  have HI2 : Hid (Within B T w w2) := HI.out.trans (WI.wide (by omega) (by omega))
  have HR0' : Hid (Row w2 T0 T1 (.slice a0 bx.length c0) (marks q bx.length)) := HR0.out.keptW WI (by omega)
  have HR2' : Hid (Row w2 B T0 (.slice a2 tx.length c2) tx) := HR2.out.keptW WI (by omega)
  have HR1' : Hid (Row w2 T1 T (.slice a1 tt.length c1) (marks (q + bx.length) tt.length)) := R1
  have bk2 := (WI.block w.heap.size hl1 (by omega)).trans bk1
  clear f0 f1 f2 f3 f4 f5 f6 f7 bk1 G R1 WI HI HR0 HR1 HR2
  obtain ⟨f0, f1, f2, f3, f4, f5, f6, f7⟩ := box8 bk2
  have hl2 := lt_of_heap bk2
  go_wp2_with fail
  refine (markByteS_r B T0 _ tx (q + bx.length + tt.length) _ HR2'.out h2 (by omega) (by omega)).mono ?_
  rintro e w3 ⟨rfl, R2, G⟩
  have WI := HR2'.out.within G
  have HI3 : Hid (Within B T w w3) := HI2.out.trans (WI.wide (Nat.le_refl _) (by omega))
  have Z0 : Hid (Row w3 T0 T1 (.slice a0 bx.length c0) (marks q bx.length)) := HR0'.out.keptW WI (by omega)
  have Z1 : Hid (Row w3 T1 T (.slice a1 tt.length c1) (marks (q + bx.length) tt.length)) := HR1'.out.keptW WI (by omega)
  have Z2 : Hid (Row w3 B T0 (.slice a2 tx.length c2) (marks (q + bx.length + tt.length) tx.length)) := R2
  clear f0 f1 f2 f3 f4 f5 f6 f7 bk2 G R2 WI HI2 HR0' HR1' HR2'
  go_wp2
  go_ret
  exact ⟨rfl, ⟨_, _, _, T0, T1, rfl, Z2.out, Z0.out, Z1.out, r0, r1, r2⟩, HI3.out⟩

set_option maxRecDepth 100000 in
set_option maxHeartbeats 1000000 in
theorem heldCmd_x (B T : Nat) (v : Value) (c : CmdD) (q : Int) (w : World) (hv : CmdX w B T v (mkC q c))
    (h0 : c.bx.length ≤ 2000000) (h1 : c.tt.length ≤ 2000000) (h2 : c.tx.length ≤ 2000000) (hq0 : 0 ≤ q) (hq1 : q ≤ 1000000000) :
    Calls Tryd.prog 16 #[v, .int .i64 q] w fun e w' => e = .returned (.int .i64 (q + c.bx.length + c.tt.length + c.tx.length)) ∧ Below w.heap.size w w' := by
  obtain ⟨ck, bx, tt, cu, cm, cf, cs, tx⟩ := c
  simp only at h0 h1 h2
  show Calls _ _ _ _ fun e w' => e = .returned (.int .i64 (q + bx.length + tt.length + tx.length)) ∧ Below w.heap.size w w'
  obtain ⟨u0, u1, u2, T0, T1, rfl, g2, g0, g1, r0, r1, r2⟩ := hv
  simp only [mkC] at g0 g1 g2
  obtain ⟨a0, c0, rfl⟩ := g0.bs.form
  obtain ⟨a1, c1, rfl⟩ := g1.bs.form
  obtain ⟨a2, c2, rfl⟩ := g2.bs.form
  rw [length_marks] at g0 g1 g2
  rw [length_marks, length_marks, length_marks]
  have HW : Hid (∀ wi, Below w.heap.size w wi → Bs wi (.slice a0 bx.length c0) (marks q bx.length) ∧ Bs wi (.slice a1 tt.length c1) (marks (q + bx.length) tt.length) ∧ Bs wi (.slice a2 tx.length c2) (marks (q + bx.length + tt.length) tx.length)) := fun wi h => ⟨g0.bs.below h, g1.bs.below h, g2.bs.below h⟩
  have HB : Hid (Below w.heap.size w (w.alloc (.cells #[.int .i64 ck, .slice a0 bx.length c0, .slice a1 tt.length c1, .int .i64 cu, .int .i64 cm, .int .i64 cf, .int .i64 cs, .slice a2 tx.length c2] 24))) := (Below.refl _ _).alloc (Nat.le_refl _) _
  have bk := box_new w (.cells #[.int .i64 ck, .slice a0 bx.length c0, .slice a1 tt.length c1, .int .i64 cu, .int .i64 cm, .int .i64 cf, .int .i64 cs, .slice a2 tx.length c2] 24)
  clear g0 g1 g2
  obtain ⟨f0, f1, f2, f3, f4, f5, f6, f7⟩ := box8 bk
  go_enter Tryd.func16, Tryd.ntmps16
  go_wp2_with fail
  refine (heldByteS_yes _ bx.length q _ (HW.out _ HB.out).1 h0 hq0 (by omega)).mono ?_
  rintro e w1 ⟨rfl, B1⟩
  have HB1 : Hid (Below w.heap.size w w1) := Below.step HB.out B1
  have bk1 := box_below B1 bk
  clear f0 f1 f2 f3 f4 f5 f6 f7 bk B1
  obtain ⟨f0, f1, f2, f3, f4, f5, f6, f7⟩ := box8 bk1
  have hl1 := lt_of_heap bk1
  have hn1 : ¬ (q + (bx.length : Int) < 0) := by omega
  go_wp2_with fail
  refine (heldByteS_yes _ tt.length (q + bx.length) _ (HW.out _ HB1.out).2.1 h1 (by omega) (by omega)).mono ?_
  rintro e w2 ⟨rfl, B2⟩
  have HB2 : Hid (Below w.heap.size w w2) := Below.step HB1.out B2
  have bk2 := box_below B2 bk1
  clear f0 f1 f2 f3 f4 f5 f6 f7 bk1 B2
  obtain ⟨f0, f1, f2, f3, f4, f5, f6, f7⟩ := box8 bk2
  have hl2 := lt_of_heap bk2
  have hn2 : ¬ (q + (bx.length : Int) + (tt.length : Int) < 0) := by omega
  go_wp2_with fail
  refine (heldByteS_yes _ tx.length (q + bx.length + tt.length) _ (HW.out _ HB2.out).2.2 h2 (by omega) (by omega)).mono ?_
  rintro e w3 ⟨rfl, B3⟩
  have HB3 : Hid (Below w.heap.size w w3) := Below.step HB2.out B3
  have hn3 : ¬ (q + (bx.length : Int) + (tt.length : Int) + (tx.length : Int) < 0) := by omega
  clear f0 f1 f2 f3 f4 f5 f6 f7 bk2 B3
  go_wp2
  go_ret
  exact ⟨rfl, HB3.out⟩

end Go.Proofs.YtlegmiaoablcgaaDoor

/- What l4rest of package spec does at a copy. -/
namespace Go.Proofs.YtlegmiaoablcgaaDoor
open Go.RowKit
set_option maxRecDepth 100000
set_option linter.unusedVariables false
set_option linter.unusedSimpArgs false

set_option maxRecDepth 100000 in
set_option maxHeartbeats 4000000 in
theorem l4rest_copy (g gc : Nat) (lv : Value) (e : Int) (st : PS) (ts : List TokD) (S : Nat → Prop) (bx tt tx : List Int) (uid mode fl si : Int) (a0 a1 a2 : Option Addr) (n0 n1 n2 c0 c1 c2 : Nat) (w : World) (hp : ParP w g lv e st) (ht : ToksO w S lv ts) (hS : ¬ S g) (hSc : ¬ S gc) (hne : g ≠ gc) (hSl : ∀ b, S b → b < w.heap.size) (hil : st.i ≤ 1000)
    (hc : w.heap[gc]? = some (.cells #[.int .i64 6, .slice a0 n0 c0, .slice a1 n1 c1, .int .i64 uid, .int .i64 mode, .int .i64 fl, .int .i64 si, .slice a2 n2 c2] 24 (0, 0))) (r0 : RB w S (.slice a0 n0 c0) bx) (r1 : RB w S (.slice a1 n1 c1) tt) (r2 : RB w S (.slice a2 n2 c2) tx)  :
    Calls Tryd.prog 31 #[.pointer (some ⟨g, 0, none⟩), .pointer (some ⟨gc, 0, none⟩)] w fun r w' => r = .returned (.tuple #[]) ∧ Gr2 w w' g gc ∧ ParP w' g lv e (if seesS awayW ts (takeS e 2 0 ts (takeS e 3 1 ts st).2).2 = true then ⟨(takeS e 2 0 ts (takeS e 3 1 ts st).2).2.i + 1, (takeS e 2 0 ts (takeS e 3 1 ts st).2).2.bad, (takeS e 2 0 ts (takeS e 3 1 ts st).2).2.p⟩ else (takeS e 2 0 ts (takeS e 3 1 ts st).2).2) ∧ CmdP w' gc S (if seesS awayW ts (takeS e 2 0 ts (takeS e 3 1 ts st).2).2 = true then ⟨6, bx, (takeS e 2 0 ts (takeS e 3 1 ts st).2).1.tx, (takeS e 3 1 ts st).1.n, 1, fl, si, tx⟩ else ⟨6, bx, (takeS e 2 0 ts (takeS e 3 1 ts st).2).1.tx, (takeS e 3 1 ts st).1.n, mode, fl, si, tx⟩) := by
  have HP0 : Hid (ParP w g lv e st) := hp
  have HT0 : Hid (ToksO w S lv ts) := ht
  have HC0 : Hid (w.heap[gc]? = some (.cells #[.int .i64 6, .slice a0 n0 c0, .slice a1 n1 c1, .int .i64 uid, .int .i64 mode, .int .i64 fl, .int .i64 si, .slice a2 n2 c2] 24 (0, 0))) := hc
  have HG0 : Hid (Gr2 w w g gc) := Gr2.refl _ _ _
  have HR00 : Hid (RB w S (.slice a0 n0 c0) bx) := r0
  have HR10 : Hid (RB w S (.slice a1 n1 c1) tt) := r1
  have HR20 : Hid (RB w S (.slice a2 n2 c2) tx) := r2
  have hlg0 : g < w.heap.size := lt_of_heap hp
  have hlc0 : gc < w.heap.size := lt_of_heap hc
  clear hp ht hc r0 r1 r2
  obtain ⟨d0, d1, d2, d3, d4, d5, d6, d7, -⟩ := box8l HC0.out
  go_enter Tryd.func31, Tryd.ntmps31
  go_wp2_with fail
  refine (l4take_r g lv e 3 1 st ts S w HP0.out HT0.out hS (fun b h => Nat.lt_of_lt_of_le (hSl b h) HG0.out.size) (by omega) (by decide)).mono ?_
  rintro r v0 ⟨z0a, z0n, z0c, rfl, hrb, hG, hP⟩
  have HG' : Gr2 w v0 g gc := HG0.out.gb hG
  have HCx : v0.heap[gc]? = some (.cells #[.int .i64 6, .slice a0 n0 c0, .slice a1 n1 c1, .int .i64 uid, .int .i64 mode, .int .i64 fl, .int .i64 si, .slice a2 n2 c2] 24 (0, 0)) := (hG.block gc (lt_of_heap HC0.out) (fun h => by cases h; exact hne rfl)).trans HC0.out
  have HG1 : Hid (Gr2 w (v0.setCell ⟨gc, 3, none⟩ (.int .i64 (takeS e 3 1 ts st).1.n)) g gc) := HG'.setC
  have HC1 : Hid ((v0.setCell ⟨gc, 3, none⟩ (.int .i64 (takeS e 3 1 ts st).1.n)).heap[gc]? = some (.cells #[.int .i64 6, .slice a0 n0 c0, .slice a1 n1 c1, .int .i64 (takeS e 3 1 ts st).1.n, .int .i64 mode, .int .i64 fl, .int .i64 si, .slice a2 n2 c2] 24 (0, 0))) := box_set (i := 3) (v := .int .i64 (takeS e 3 1 ts st).1.n) HCx
  have HP1 : Hid (ParP (v0.setCell ⟨gc, 3, none⟩ (.int .i64 (takeS e 3 1 ts st).1.n)) g lv e (takeS e 3 1 ts st).2) := box_other (k := gc) (i := 3) (v := .int .i64 (takeS e 3 1 ts st).1.n) hP hne
  have HT1 : Hid (ToksO (v0.setCell ⟨gc, 3, none⟩ (.int .i64 (takeS e 3 1 ts st).1.n)) S lv ts) := HG1.out.toks HT0.out hS hSc
  have HR01 : Hid (RB (v0.setCell ⟨gc, 3, none⟩ (.int .i64 (takeS e 3 1 ts st).1.n)) S (.slice a0 n0 c0) bx) := rb_setC (rb_gb HR00.out hG hS) hSc
  have HR11 : Hid (RB (v0.setCell ⟨gc, 3, none⟩ (.int .i64 (takeS e 3 1 ts st).1.n)) S (.slice a1 n1 c1) tt) := rb_setC (rb_gb HR10.out hG hS) hSc
  have HR21 : Hid (RB (v0.setCell ⟨gc, 3, none⟩ (.int .i64 (takeS e 3 1 ts st).1.n)) S (.slice a2 n2 c2) tx) := rb_setC (rb_gb HR20.out hG hS) hSc
  obtain ⟨d0, d1, d2, d3, d4, d5, d6, d7, -⟩ := box8l HCx
  obtain ⟨dz, dl⟩ := box8z HCx
  clear hrb hG hP HG' HCx
  have hfd := fun w' => run_fieldN (takeS e 3 1 ts st).1.k (takeS e 3 1 ts st).1.p (takeS e 3 1 ts st).1.n z0a z0n z0c w'
  go_upto_region 23 with fail
  generalize (v0.setCell ⟨gc, 3, none⟩ (.int .i64 (takeS e 3 1 ts st).1.n)) = w1 at HG1 HC1 HP1 HT1 HR01 HR11 HR21 ⊢
  clear d0 d1 d2 d3 d4 d5 d6 d7 dz dl
  go_wp2_with fail
  refine (l4take_r g lv e 2 0 (takeS e 3 1 ts st).2 ts S w1 HP1.out HT1.out hS (fun b h => Nat.lt_of_lt_of_le (hSl b h) HG1.out.size) (by have := takeS_i e 3 1 ts st; omega) (by decide)).mono ?_
  rintro r v1 ⟨z1a, z1n, z1c, rfl, hrb, hG, hP⟩
  have HG' : Gr2 w v1 g gc := HG1.out.gb hG
  have HCx : v1.heap[gc]? = some (.cells #[.int .i64 6, .slice a0 n0 c0, .slice a1 n1 c1, .int .i64 (takeS e 3 1 ts st).1.n, .int .i64 mode, .int .i64 fl, .int .i64 si, .slice a2 n2 c2] 24 (0, 0)) := (hG.block gc (lt_of_heap HC1.out) (fun h => by cases h; exact hne rfl)).trans HC1.out
  have HG2 : Hid (Gr2 w (v1.setCell ⟨gc, 2, none⟩ (.slice z1a z1n z1c)) g gc) := HG'.setC
  have HC2 : Hid ((v1.setCell ⟨gc, 2, none⟩ (.slice z1a z1n z1c)).heap[gc]? = some (.cells #[.int .i64 6, .slice a0 n0 c0, .slice z1a z1n z1c, .int .i64 (takeS e 3 1 ts st).1.n, .int .i64 mode, .int .i64 fl, .int .i64 si, .slice a2 n2 c2] 24 (0, 0))) := box_set (i := 2) (v := .slice z1a z1n z1c) HCx
  have HP2 : Hid (ParP (v1.setCell ⟨gc, 2, none⟩ (.slice z1a z1n z1c)) g lv e (takeS e 2 0 ts (takeS e 3 1 ts st).2).2) := box_other (k := gc) (i := 2) (v := .slice z1a z1n z1c) hP hne
  have HT2 : Hid (ToksO (v1.setCell ⟨gc, 2, none⟩ (.slice z1a z1n z1c)) S lv ts) := HG2.out.toks HT0.out hS hSc
  have HR02 : Hid (RB (v1.setCell ⟨gc, 2, none⟩ (.slice z1a z1n z1c)) S (.slice a0 n0 c0) bx) := rb_setC (rb_gb HR01.out hG hS) hSc
  have HR12 : Hid (RB (v1.setCell ⟨gc, 2, none⟩ (.slice z1a z1n z1c)) S (.slice a1 n1 c1) tt) := rb_setC (rb_gb HR11.out hG hS) hSc
  have HR22 : Hid (RB (v1.setCell ⟨gc, 2, none⟩ (.slice z1a z1n z1c)) S (.slice a2 n2 c2) tx) := rb_setC (rb_gb HR21.out hG hS) hSc
  have HZ1 : Hid (RB (v1.setCell ⟨gc, 2, none⟩ (.slice z1a z1n z1c)) S (.slice z1a z1n z1c) (takeS e 2 0 ts (takeS e 3 1 ts st).2).1.tx) := rb_setC hrb hSc
  obtain ⟨d0, d1, d2, d3, d4, d5, d6, d7, -⟩ := box8l HCx
  obtain ⟨dz, dl⟩ := box8z HCx
  clear hrb hG hP HG' HCx
  have hfd := fun w' => run_fieldT (takeS e 2 0 ts (takeS e 3 1 ts st).2).1.k (takeS e 2 0 ts (takeS e 3 1 ts st).2).1.p (takeS e 2 0 ts (takeS e 3 1 ts st).2).1.n z1a z1n z1c w'
  go_upto_region 24 with fail
  generalize (v1.setCell ⟨gc, 2, none⟩ (.slice z1a z1n z1c)) = w2 at HG2 HC2 HP2 HT2 HR02 HR12 HR22 HZ1 ⊢
  clear d0 d1 d2 d3 d4 d5 d6 d7 dz dl
  have hi1 := takeS_i e 3 1 ts st
  have hi2 := takeS_i e 2 0 ts (takeS e 3 1 ts st).2
  go_wp2_with fail
  refine (l4sees_r g lv e (takeS e 2 0 ts (takeS e 3 1 ts st).2).2 ts S awayW w2 HP2.out HT2.out (by intro x hx; simp [awayW] at hx; omega) (by omega)).mono ?_
  rintro r v2 ⟨rfl, hB⟩
  have HG3 : Hid (Gr2 w v2 g gc) := HG2.out.below hB
  have HC3 : Hid (v2.heap[gc]? = some (.cells #[.int .i64 6, .slice a0 n0 c0, .slice z1a z1n z1c, .int .i64 (takeS e 3 1 ts st).1.n, .int .i64 mode, .int .i64 fl, .int .i64 si, .slice a2 n2 c2] 24 (0, 0))) := box_below hB HC2.out
  have HP3 : Hid (ParP v2 g lv e (takeS e 2 0 ts (takeS e 3 1 ts st).2).2) := box_below hB HP2.out
  have HR03 : Hid (RB v2 S (.slice a0 n0 c0) bx) := HR02.out.frame fun b _ hb => hB.block b hb
  have HR13 : Hid (RB v2 S (.slice z1a z1n z1c) (takeS e 2 0 ts (takeS e 3 1 ts st).2).1.tx) := HZ1.out.frame fun b _ hb => hB.block b hb
  have HR23 : Hid (RB v2 S (.slice a2 n2 c2) tx) := HR22.out.frame fun b _ hb => hB.block b hb
  clear hB
  obtain ⟨d0, d1, d2, d3, d4, d5, d6, d7, -⟩ := box8l HC3.out
  obtain ⟨dz, dl⟩ := box8z HC3.out
  obtain ⟨q0, q1, q2, q3, q4⟩ := px5 HP3.out
  obtain ⟨qz, ql⟩ := box8z HP3.out
  cases hs : seesS awayW ts (takeS e 2 0 ts (takeS e 3 1 ts st).2).2 with
  | true =>
    have HPq : Hid (((v2.setCell ⟨g, 1, none⟩ (.int .i64 (((takeS e 2 0 ts (takeS e 3 1 ts st).2).2.i : Int) + 1))).setCell ⟨gc, 4, none⟩ (.int .i64 1)).heap[g]? = some (.cells #[lv, .int .i64 (((takeS e 2 0 ts (takeS e 3 1 ts st).2).2.i : Int) + 1), .int .i64 e, .bool (takeS e 2 0 ts (takeS e 3 1 ts st).2).2.bad, .int .i64 (takeS e 2 0 ts (takeS e 3 1 ts st).2).2.p] 54 (0, 0))) := box_other (k := gc) (i := 4) (v := .int .i64 1) (box_set (i := 1) (v := .int .i64 (((takeS e 2 0 ts (takeS e 3 1 ts st).2).2.i : Int) + 1)) HP3.out) hne
    have HCq : Hid (((v2.setCell ⟨g, 1, none⟩ (.int .i64 (((takeS e 2 0 ts (takeS e 3 1 ts st).2).2.i : Int) + 1))).setCell ⟨gc, 4, none⟩ (.int .i64 1)).heap[gc]? = some (.cells #[.int .i64 6, .slice a0 n0 c0, .slice z1a z1n z1c, .int .i64 (takeS e 3 1 ts st).1.n, .int .i64 1, .int .i64 fl, .int .i64 si, .slice a2 n2 c2] 24 (0, 0))) := box_set (i := 4) (v := .int .i64 1) (box_other (k := g) (i := 1) (v := .int .i64 (((takeS e 2 0 ts (takeS e 3 1 ts st).2).2.i : Int) + 1)) HC3.out (Ne.symm hne))
    have HGq : Hid (Gr2 w ((v2.setCell ⟨g, 1, none⟩ (.int .i64 (((takeS e 2 0 ts (takeS e 3 1 ts st).2).2.i : Int) + 1))).setCell ⟨gc, 4, none⟩ (.int .i64 1)) g gc) := HG3.out.setP.setC
    have HR0q : Hid (RB ((v2.setCell ⟨g, 1, none⟩ (.int .i64 (((takeS e 2 0 ts (takeS e 3 1 ts st).2).2.i : Int) + 1))).setCell ⟨gc, 4, none⟩ (.int .i64 1)) S (.slice a0 n0 c0) bx) := rb_setC (rb_setC HR03.out hS) hSc
    have HR1q : Hid (RB ((v2.setCell ⟨g, 1, none⟩ (.int .i64 (((takeS e 2 0 ts (takeS e 3 1 ts st).2).2.i : Int) + 1))).setCell ⟨gc, 4, none⟩ (.int .i64 1)) S (.slice z1a z1n z1c) (takeS e 2 0 ts (takeS e 3 1 ts st).2).1.tx) := rb_setC (rb_setC HR13.out hS) hSc
    have HR2q : Hid (RB ((v2.setCell ⟨g, 1, none⟩ (.int .i64 (((takeS e 2 0 ts (takeS e 3 1 ts st).2).2.i : Int) + 1))).setCell ⟨gc, 4, none⟩ (.int .i64 1)) S (.slice a2 n2 c2) tx) := rb_setC (rb_setC HR23.out hS) hSc
    have HPr : Hid (ParP ((v2.setCell ⟨g, 1, none⟩ (.int .i64 (((takeS e 2 0 ts (takeS e 3 1 ts st).2).2.i : Int) + 1))).setCell ⟨gc, 4, none⟩ (.int .i64 1)) g lv e ⟨(takeS e 2 0 ts (takeS e 3 1 ts st).2).2.i + 1, (takeS e 2 0 ts (takeS e 3 1 ts st).2).2.bad, (takeS e 2 0 ts (takeS e 3 1 ts st).2).2.p⟩) := HPq.out
    obtain ⟨e0, e1, e2, e3, e4, e5, e6, e7, -⟩ := box8l (box_other (k := g) (i := 1) (v := .int .i64 (((takeS e 2 0 ts (takeS e 3 1 ts st).2).2.i : Int) + 1)) HC3.out (Ne.symm hne))
    obtain ⟨ez, el⟩ := box8z (box_other (k := g) (i := 1) (v := .int .i64 (((takeS e 2 0 ts (takeS e 3 1 ts st).2).2.i : Int) + 1)) HC3.out (Ne.symm hne))
    go_wp2
    first | go_end0 | refine bodyPost_ret (v := .tuple #[]) (by simp [results, Tryd.results31, go_sem]) rfl ?_
    exact ⟨rfl, HGq.out, HPr.out, _, _, _, _, _, _, _, _, _, HCq.out, HR0q.out, HR1q.out, HR2q.out⟩
  | false =>
    go_wp2
    all_goals go_end0
    all_goals exact ⟨rfl, HG3.out, HP3.out, _, _, _, _, _, _, _, _, _, HC3.out, HR03.out, HR13.out, HR23.out⟩


end Go.Proofs.YtlegmiaoablcgaaDoor
