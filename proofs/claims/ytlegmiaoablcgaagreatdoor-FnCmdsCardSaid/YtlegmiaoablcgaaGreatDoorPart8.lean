/- The proof's texts, part 8. -/
import Derived.Test.YtlegmiaoablcgaaGreatDoorPart2
import Derived.Test.YtlegmiaoablcgaaGreatDoorPart5
import Derived.Test.YtlegmiaoablcgaaGreatDoorPart3
import Derived.Defers
import Derived.Recover
import Derived.Test.YtlegmiaoablcgaaGreatDoorPart7
import Derived.Laws.BitsAllLaws
import Derived.Lib.ConvBytes

/- Eight cells of a block that are set. -/
namespace Go.Proofs.YtlegmiaoablcgaaGreatDoor
open Go.RowKit
set_option linter.unusedVariables false

section
variable {w : World} {R : Nat} {t : TypeId} {c0 c1 c2 c3 c4 c5 c6 c7 d0 d1 d2 d3 d4 d5 d6 d7 : Value}
theorem heap_set8 (h : w.heap[R]? = some (.cells #[c0, c1, c2, c3, c4, c5, c6, c7] t (0, 0))) : ((((((((w.setCell ⟨R, 0, none⟩ d0).setCell ⟨R, 1, none⟩ d1).setCell ⟨R, 2, none⟩ d2).setCell ⟨R, 3, none⟩ d3).setCell ⟨R, 4, none⟩ d4).setCell ⟨R, 5, none⟩ d5).setCell ⟨R, 6, none⟩ d6).setCell ⟨R, 7, none⟩ d7).heap[R]? = some (.cells #[d0, d1, d2, d3, d4, d5, d6, d7] t (0, 0)) := by
  have e0 : (w.setCell ⟨R, 0, none⟩ d0).heap[R]? = some (.cells #[d0, c1, c2, c3, c4, c5, c6, c7] t (0, 0)) := box_set h
  have e1 : ((w.setCell ⟨R, 0, none⟩ d0).setCell ⟨R, 1, none⟩ d1).heap[R]? = some (.cells #[d0, d1, c2, c3, c4, c5, c6, c7] t (0, 0)) := box_set e0
  have e2 : (((w.setCell ⟨R, 0, none⟩ d0).setCell ⟨R, 1, none⟩ d1).setCell ⟨R, 2, none⟩ d2).heap[R]? = some (.cells #[d0, d1, d2, c3, c4, c5, c6, c7] t (0, 0)) := box_set e1
  have e3 : ((((w.setCell ⟨R, 0, none⟩ d0).setCell ⟨R, 1, none⟩ d1).setCell ⟨R, 2, none⟩ d2).setCell ⟨R, 3, none⟩ d3).heap[R]? = some (.cells #[d0, d1, d2, d3, c4, c5, c6, c7] t (0, 0)) := box_set e2
  have e4 : (((((w.setCell ⟨R, 0, none⟩ d0).setCell ⟨R, 1, none⟩ d1).setCell ⟨R, 2, none⟩ d2).setCell ⟨R, 3, none⟩ d3).setCell ⟨R, 4, none⟩ d4).heap[R]? = some (.cells #[d0, d1, d2, d3, d4, c5, c6, c7] t (0, 0)) := box_set e3
  have e5 : ((((((w.setCell ⟨R, 0, none⟩ d0).setCell ⟨R, 1, none⟩ d1).setCell ⟨R, 2, none⟩ d2).setCell ⟨R, 3, none⟩ d3).setCell ⟨R, 4, none⟩ d4).setCell ⟨R, 5, none⟩ d5).heap[R]? = some (.cells #[d0, d1, d2, d3, d4, d5, c6, c7] t (0, 0)) := box_set e4
  have e6 : (((((((w.setCell ⟨R, 0, none⟩ d0).setCell ⟨R, 1, none⟩ d1).setCell ⟨R, 2, none⟩ d2).setCell ⟨R, 3, none⟩ d3).setCell ⟨R, 4, none⟩ d4).setCell ⟨R, 5, none⟩ d5).setCell ⟨R, 6, none⟩ d6).heap[R]? = some (.cells #[d0, d1, d2, d3, d4, d5, d6, c7] t (0, 0)) := box_set e5
  have e7 : ((((((((w.setCell ⟨R, 0, none⟩ d0).setCell ⟨R, 1, none⟩ d1).setCell ⟨R, 2, none⟩ d2).setCell ⟨R, 3, none⟩ d3).setCell ⟨R, 4, none⟩ d4).setCell ⟨R, 5, none⟩ d5).setCell ⟨R, 6, none⟩ d6).setCell ⟨R, 7, none⟩ d7).heap[R]? = some (.cells #[d0, d1, d2, d3, d4, d5, d6, d7] t (0, 0)) := box_set e6
  exact e7
theorem heap_oth8 {k : Nat} {o : Obj} (h : w.heap[k]? = some o) (hne : k ≠ R) : ((((((((w.setCell ⟨R, 0, none⟩ d0).setCell ⟨R, 1, none⟩ d1).setCell ⟨R, 2, none⟩ d2).setCell ⟨R, 3, none⟩ d3).setCell ⟨R, 4, none⟩ d4).setCell ⟨R, 5, none⟩ d5).setCell ⟨R, 6, none⟩ d6).setCell ⟨R, 7, none⟩ d7).heap[k]? = some o :=
  box_other (box_other (box_other (box_other (box_other (box_other (box_other (box_other h hne) hne) hne) hne) hne) hne) hne) hne
theorem below_set8 {w0 : World} {N : Nat} (h : Below N w0 w) (hN : N ≤ R) : Below N w0 ((((((((w.setCell ⟨R, 0, none⟩ d0).setCell ⟨R, 1, none⟩ d1).setCell ⟨R, 2, none⟩ d2).setCell ⟨R, 3, none⟩ d3).setCell ⟨R, 4, none⟩ d4).setCell ⟨R, 5, none⟩ d5).setCell ⟨R, 6, none⟩ d6).setCell ⟨R, 7, none⟩ d7) :=
  (((((((h.setCell (p := ⟨R, 0, none⟩) hN _).setCell (p := ⟨R, 1, none⟩) hN _).setCell (p := ⟨R, 2, none⟩) hN _).setCell (p := ⟨R, 3, none⟩) hN _).setCell (p := ⟨R, 4, none⟩) hN _).setCell (p := ⟨R, 5, none⟩) hN _).setCell (p := ⟨R, 6, none⟩) hN _).setCell (p := ⟨R, 7, none⟩) hN _
end

end Go.Proofs.YtlegmiaoablcgaaGreatDoor

/- What the function that CmdRead of package impl defers does. -/
namespace Go.Proofs.YtlegmiaoablcgaaGreatDoor
open Go.RowKit
set_option linter.unusedVariables false
set_option linter.unusedSimpArgs false

theorem tab_catch1 : (Tryz.f24.body.bind (opsAt 1)).all (fun o => tableS o 12 [0, 1, 2, 3, 4, 5, 6, 7, 8, 9, 10, 11] [9, 10, 11] [9, 12] 12) = true := by kernel_rfl
theorem drew3 {X w : World} {R : Nat} {a b c : Option Obj} (h : X.heap[R]? = a ∧ X.heap[R + 1]? = b ∧ X.heap[R + 2]? = c ∧ Below R w X) : X.drew.heap[R]? = a ∧ X.drew.heap[R + 1]? = b ∧ X.drew.heap[R + 2]? = c ∧ Below R w X.drew := ⟨h.1, h.2.1, h.2.2.1, h.2.2.2.drew⟩
theorem catch_sets {w : World} {R : Nat} {cd p : Int} {a0 a1 c0 c1 c2 c3 c4 c5 c6 c7 : Value} (h0 : w.heap[R]? = some (.cells #[c0, c1, c2, c3, c4, c5, c6, c7] 24 (0, 0))) (h1 : w.heap[R + 1]? = some (.cells #[a0] 3 (0, 0))) (h2 : w.heap[R + 2]? = some (.cells #[a1] 3 (0, 0))) :
    Hid (((((((((((w.setCell ⟨R, 0, none⟩ (.int .i64 0)).setCell ⟨R, 1, none⟩ (.slice none 0 0)).setCell ⟨R, 2, none⟩ (.slice none 0 0)).setCell ⟨R, 3, none⟩ (.int .i64 0)).setCell ⟨R, 4, none⟩ (.int .i64 0)).setCell ⟨R, 5, none⟩ (.int .i64 0)).setCell ⟨R, 6, none⟩ (.int .i64 0)).setCell ⟨R, 7, none⟩ (.slice none 0 0)).setCell ⟨R + 1, 0, none⟩ (.int .i64 cd)).setCell ⟨R + 2, 0, none⟩ (.int .i64 p)).heap[R]? = some (.cells #[.int .i64 0, .slice none 0 0, .slice none 0 0, .int .i64 0, .int .i64 0, .int .i64 0, .int .i64 0, .slice none 0 0] 24 (0, 0)) ∧ ((((((((((w.setCell ⟨R, 0, none⟩ (.int .i64 0)).setCell ⟨R, 1, none⟩ (.slice none 0 0)).setCell ⟨R, 2, none⟩ (.slice none 0 0)).setCell ⟨R, 3, none⟩ (.int .i64 0)).setCell ⟨R, 4, none⟩ (.int .i64 0)).setCell ⟨R, 5, none⟩ (.int .i64 0)).setCell ⟨R, 6, none⟩ (.int .i64 0)).setCell ⟨R, 7, none⟩ (.slice none 0 0)).setCell ⟨R + 1, 0, none⟩ (.int .i64 cd)).setCell ⟨R + 2, 0, none⟩ (.int .i64 p)).heap[R + 1]? = some (.cells #[.int .i64 cd] 3 (0, 0)) ∧ ((((((((((w.setCell ⟨R, 0, none⟩ (.int .i64 0)).setCell ⟨R, 1, none⟩ (.slice none 0 0)).setCell ⟨R, 2, none⟩ (.slice none 0 0)).setCell ⟨R, 3, none⟩ (.int .i64 0)).setCell ⟨R, 4, none⟩ (.int .i64 0)).setCell ⟨R, 5, none⟩ (.int .i64 0)).setCell ⟨R, 6, none⟩ (.int .i64 0)).setCell ⟨R, 7, none⟩ (.slice none 0 0)).setCell ⟨R + 1, 0, none⟩ (.int .i64 cd)).setCell ⟨R + 2, 0, none⟩ (.int .i64 p)).heap[R + 2]? = some (.cells #[.int .i64 p] 3 (0, 0)) ∧ Below R w ((((((((((w.setCell ⟨R, 0, none⟩ (.int .i64 0)).setCell ⟨R, 1, none⟩ (.slice none 0 0)).setCell ⟨R, 2, none⟩ (.slice none 0 0)).setCell ⟨R, 3, none⟩ (.int .i64 0)).setCell ⟨R, 4, none⟩ (.int .i64 0)).setCell ⟨R, 5, none⟩ (.int .i64 0)).setCell ⟨R, 6, none⟩ (.int .i64 0)).setCell ⟨R, 7, none⟩ (.slice none 0 0)).setCell ⟨R + 1, 0, none⟩ (.int .i64 cd)).setCell ⟨R + 2, 0, none⟩ (.int .i64 p))) :=
  ⟨box_other (k := R + 2) (box_other (k := R + 1) (heap_set8 h0) (by omega)) (by omega), box_other (k := R + 2) (box_set (i := 0) (heap_oth8 h1 (by omega))) (by omega), box_set (i := 0) (box_other (k := R + 1) (heap_oth8 h2 (by omega)) (by omega)), ((below_set8 (Below.refl R w) (Nat.le_refl _)).setCell (p := ⟨R + 1, 0, none⟩) (by simp) _).setCell (p := ⟨R + 2, 0, none⟩) (by simp) _⟩
set_option maxRecDepth 100000 in
set_option maxHeartbeats 2000000 in
theorem catchC_panicking (R rb g : Nat) (cs : Array Value) (a0 a1 : Value) (lv tv : Value) (cd p : Int) (u : TypeId) (pv : Value) (older : List PanicEntry) (w : World) (c0 c1 c2 c3 c4 c5 c6 c7 : Value)
    (h0 : w.heap[R]? = some (.cells #[c0, c1, c2, c3, c4, c5, c6, c7] 24 (0, 0))) (h1 : w.heap[R + 1]? = some (.cells #[a0] 3 (0, 0))) (h2 : w.heap[R + 2]? = some (.cells #[a1] 3 (0, 0))) (hrv : w.cell? ⟨rb, 0, none⟩ = some (.pointer (some ⟨g, 0, none⟩))) (hg : LR w g lv tv cd p) :
    CallsD Tryz.prog 24 #[.pointer (some ⟨rb, 0, none⟩), .pointer (some ⟨R, 0, none⟩), .pointer (some ⟨R + 1, 0, none⟩), .pointer (some ⟨R + 2, 0, none⟩)] (.panicking ({ v := .iface u pv, recovered := false } :: older)) w fun e u' w' =>
      e = .returned (.tuple #[]) ∧ u' = .panicking ({ v := .iface u pv, recovered := true } :: older) ∧ w'.heap[R]? = some (.cells #[.int .i64 0, .slice none 0 0, .slice none 0 0, .int .i64 0, .int .i64 0, .int .i64 0, .int .i64 0, .slice none 0 0] 24 (0, 0)) ∧ w'.heap[R + 1]? = some (.cells #[.int .i64 cd] 3 (0, 0)) ∧ w'.heap[R + 2]? = some (.cells #[.int .i64 p] 3 (0, 0)) ∧ Below R w w' := by
  obtain ⟨q0, q1, q2, q3, qz, ql⟩ := tab4 hg
  obtain ⟨f0, f1, f2, f3, f4, f5, f6, f7, fl⟩ := box8l h0
  obtain ⟨fz, -⟩ := box8z h0
  obtain ⟨gz, gl⟩ := box8z h1
  obtain ⟨kz, kl⟩ := box8z h2
  have g0 : w.cell? ⟨R + 1, 0, none⟩ = some a0 := by rw [cell_of_row w (R + 1) 0 _ _ (0, 0) h1]; rfl
  have k0 : w.cell? ⟨R + 2, 0, none⟩ = some a1 := by rw [cell_of_row w (R + 2) 0 _ _ (0, 0) h2]; rfl
  have hrl : rb < w.heap.size := World.block_lt_of_cell? w ⟨rb, 0, none⟩ hrv
  have HP := catch_sets (cd := cd) (p := p) h0 h1 h2
  refine callsD_of_wpS Tryz.func24 rfl fun c₀ cs hu => ?_
  apply wpS_seq
  apply wpS_region
  simp [wpOpsS, go_sem, recoverD, hu, Tryz.ntmps24, Exit.thenS]
  refine wpS_cond (t := true) (by simp [Act.eval, Array.replicate]) ?_
  simp only [if_true]
  refine wpS_of_wp ?_
  refine wpS_begin 9 (S := fun w' => w'.cell? ⟨rb, 0, none⟩ = some (.pointer (some ⟨g, 0, none⟩)) ∧ w'.cell? ⟨g, 2, none⟩ = some (.int .i64 cd) ∧ w'.cell? ⟨g, 3, none⟩ = some (.int .i64 p)) (tabS_of (by kernel_rfl) tab_catch1) (by kernel_rfl) (⟨hrv, q2, q3⟩) (fun hTb hHeld => ?_)
  refine tks 0 0 6 hTb hHeld ?_
  refine tks 1 1 7 hTb hHeld ?_
  refine tks 2 2 8 hTb hHeld ?_
  refine tks 3 3 9 hTb hHeld ?_
  refine tks 4 4 10 hTb hHeld ?_
  refine tks 5 5 11 hTb hHeld ?_
  refine tks 6 6 12 hTb hHeld ?_
  refine tks 7 7 13 hTb hHeld ?_
  refine tks 8 8 14 hTb hHeld ?_
  refine wpS_next (S' := fun w' => True) 9 12 hTb (by decide) (trivial) (fun hHeld => ?_)
  refine cls 9 9 hTb (by decide) rfl rfl (fun K hK => ?_)
  go_simp
  refine hK.out _ _ (trivial) (fun hHeld => ?_)
  clear hK K
  refine cls 10 10 hTb (by decide) rfl rfl (fun K hK => ?_)
  go_simp
  refine hK.out _ _ (trivial) (fun hHeld => ?_)
  clear hK K
  refine cls 11 11 hTb (by decide) rfl rfl (fun K hK => ?_)
  go_simp
  refine hK.out _ _ (trivial) (fun hHeld => ?_)
  clear hK K
  refine wpS_end hTb ?_
  have HQ := (show Hid _ from drew3 HP.out)
  clear HP
  generalize ((((((((((w.setCell ⟨R, 0, none⟩ (.int .i64 0)).setCell ⟨R, 1, none⟩ (.slice none 0 0)).setCell ⟨R, 2, none⟩ (.slice none 0 0)).setCell ⟨R, 3, none⟩ (.int .i64 0)).setCell ⟨R, 4, none⟩ (.int .i64 0)).setCell ⟨R, 5, none⟩ (.int .i64 0)).setCell ⟨R, 6, none⟩ (.int .i64 0)).setCell ⟨R, 7, none⟩ (.slice none 0 0)).setCell ⟨R + 1, 0, none⟩ (.int .i64 cd)).setCell ⟨R + 2, 0, none⟩ (.int .i64 p)).drew = wf at HQ ⊢
  simp only [bodyPostS, results, Tryz.results24]
  refine ⟨trivial, _, rfl, .tuple #[], ?_, rfl, rfl, HQ.out⟩
  simp [go_sem]

set_option maxRecDepth 100000 in
theorem catchC_idle (a b c d : Value) (w : World) :
    CallsD Tryz.prog 24 #[a, b, c, d] .returning w fun e u' w' => e = .returned (.tuple #[]) ∧ u' = .returning ∧ w' = w := by
  refine callsD_of_wpS Tryz.func24 rfl fun c₀ cs hu => ?_
  apply wpS_seq
  apply wpS_region
  simp [wpOpsS, go_sem, recoverD, hu, Tryz.ntmps24, Exit.thenS]
  refine wpS_cond (t := false) (by simp [Act.eval, Array.replicate]) ?_
  simp only [Bool.false_eq_true, if_false]
  refine wpS_of_wp (wp_skip ?_)
  cases c₀
  simp_all [bodyPostS, results, Tryz.results24]

end Go.Proofs.YtlegmiaoablcgaaGreatDoor

/- What CmdRead of package impl does. -/
namespace Go.Proofs.YtlegmiaoablcgaaGreatDoor
open Go.RowKit
set_option maxRecDepth 100000
set_option linter.unusedVariables false
set_option linter.unusedSimpArgs false

theorem rd_same {l : List Int} (ho : Oct l) (hl : l.length ≤ 120) : readM l = match rdI l with
    | .error p => (zeroCmd, p.1, p.2)
    | .ok c => (c, 0, 0) := by
  unfold readM rdI
  rw [if_neg (by omega)]
  cases h : lexM (l.length + 1) 0 l with
  | error i => rfl
  | ok ts =>
    simp only
    rw [cmd_same _ _ (lex_ok _ _ l ts ho (by omega) h)]
    cases cmdM l.length ts <;> rfl
theorem bx1c {w : World} {g : Nat} {t : TypeId} {c0 : Value} (h : w.heap[g]? = some (.cells #[c0] t (0, 0))) : w.cell? ⟨g, 0, none⟩ = some c0 ∧ (∀ i, w.frozen? ⟨g, i, none⟩ = false) ∧ g < w.heap.size :=
  ⟨by rw [cell_of_row w g 0 _ t (0, 0) h]; rfl, (box8z h).1, (box8z h).2⟩
section
variable {w w0 : World} {R N B T : Nat} {t : TypeId} {c0 c1 c2 c3 c4 c5 c6 c7 d0 d1 d2 d3 d4 d5 d6 d7 x0 x1 y0 y1 : Value}
theorem sets10 (h0 : w.heap[R]? = some (.cells #[c0, c1, c2, c3, c4, c5, c6, c7] 24 (0, 0))) (h1 : w.heap[R + 1]? = some (.cells #[y0] 3 (0, 0))) (h2 : w.heap[R + 2]? = some (.cells #[y1] 3 (0, 0))) (hb : Below N w0 w) (hN : N ≤ R) :
    ((((((((((w.setCell ⟨R, 0, none⟩ d0).setCell ⟨R, 1, none⟩ d1).setCell ⟨R, 2, none⟩ d2).setCell ⟨R, 3, none⟩ d3).setCell ⟨R, 4, none⟩ d4).setCell ⟨R, 5, none⟩ d5).setCell ⟨R, 6, none⟩ d6).setCell ⟨R, 7, none⟩ d7).setCell ⟨R + 1, 0, none⟩ x0).setCell ⟨R + 2, 0, none⟩ x1).heap[R]? = some (.cells #[d0, d1, d2, d3, d4, d5, d6, d7] 24 (0, 0)) ∧ ((((((((((w.setCell ⟨R, 0, none⟩ d0).setCell ⟨R, 1, none⟩ d1).setCell ⟨R, 2, none⟩ d2).setCell ⟨R, 3, none⟩ d3).setCell ⟨R, 4, none⟩ d4).setCell ⟨R, 5, none⟩ d5).setCell ⟨R, 6, none⟩ d6).setCell ⟨R, 7, none⟩ d7).setCell ⟨R + 1, 0, none⟩ x0).setCell ⟨R + 2, 0, none⟩ x1).heap[R + 1]? = some (.cells #[x0] 3 (0, 0)) ∧ ((((((((((w.setCell ⟨R, 0, none⟩ d0).setCell ⟨R, 1, none⟩ d1).setCell ⟨R, 2, none⟩ d2).setCell ⟨R, 3, none⟩ d3).setCell ⟨R, 4, none⟩ d4).setCell ⟨R, 5, none⟩ d5).setCell ⟨R, 6, none⟩ d6).setCell ⟨R, 7, none⟩ d7).setCell ⟨R + 1, 0, none⟩ x0).setCell ⟨R + 2, 0, none⟩ x1).heap[R + 2]? = some (.cells #[x1] 3 (0, 0)) ∧ Below N w0 ((((((((((w.setCell ⟨R, 0, none⟩ d0).setCell ⟨R, 1, none⟩ d1).setCell ⟨R, 2, none⟩ d2).setCell ⟨R, 3, none⟩ d3).setCell ⟨R, 4, none⟩ d4).setCell ⟨R, 5, none⟩ d5).setCell ⟨R, 6, none⟩ d6).setCell ⟨R, 7, none⟩ d7).setCell ⟨R + 1, 0, none⟩ x0).setCell ⟨R + 2, 0, none⟩ x1) ∧ ((((((((((w.setCell ⟨R, 0, none⟩ d0).setCell ⟨R, 1, none⟩ d1).setCell ⟨R, 2, none⟩ d2).setCell ⟨R, 3, none⟩ d3).setCell ⟨R, 4, none⟩ d4).setCell ⟨R, 5, none⟩ d5).setCell ⟨R, 6, none⟩ d6).setCell ⟨R, 7, none⟩ d7).setCell ⟨R + 1, 0, none⟩ x0).setCell ⟨R + 2, 0, none⟩ x1).heap.size = w.heap.size :=
  ⟨box_other (k := R + 2) (box_other (k := R + 1) (heap_set8 h0) (by omega)) (by omega), box_other (k := R + 2) (box_set (i := 0) (heap_oth8 h1 (by omega))) (by omega), box_set (i := 0) (box_other (k := R + 1) (heap_oth8 h2 (by omega)) (by omega)), ((below_set8 hb hN).setCell (p := ⟨R + 1, 0, none⟩) (by simp; omega) _).setCell (p := ⟨R + 2, 0, none⟩) (by simp; omega) _, by simp only [box_size]⟩
theorem row_set10 {v : Value} {l : List Int} (h : Row w B T v l) (hd : R + 2 < B) : Row ((((((((((w.setCell ⟨R, 0, none⟩ d0).setCell ⟨R, 1, none⟩ d1).setCell ⟨R, 2, none⟩ d2).setCell ⟨R, 3, none⟩ d3).setCell ⟨R, 4, none⟩ d4).setCell ⟨R, 5, none⟩ d5).setCell ⟨R, 6, none⟩ d6).setCell ⟨R, 7, none⟩ d7).setCell ⟨R + 1, 0, none⟩ x0).setCell ⟨R + 2, 0, none⟩ x1) B T v l := ((row_set8 h (.inl (by omega))).set (.inl (by omega))).set (.inl hd)
theorem cmdx_set10 {v : Value} {c : CmdD} (h : CmdX w B T v c) (hd : R + 2 < B) : CmdX ((((((((((w.setCell ⟨R, 0, none⟩ d0).setCell ⟨R, 1, none⟩ d1).setCell ⟨R, 2, none⟩ d2).setCell ⟨R, 3, none⟩ d3).setCell ⟨R, 4, none⟩ d4).setCell ⟨R, 5, none⟩ d5).setCell ⟨R, 6, none⟩ d6).setCell ⟨R, 7, none⟩ d7).setCell ⟨R + 1, 0, none⟩ x0).setCell ⟨R + 2, 0, none⟩ x1) B T v c := by
  obtain ⟨u0, u1, u2, T0, T1, hv, r0, r1, r2, h1, h2, h3⟩ := h
  exact ⟨u0, u1, u2, T0, T1, hv, row_set10 r0 hd, row_set10 r1 (by omega), row_set10 r2 (by omega), h1, h2, h3⟩
theorem CmdX.wide {v : Value} {c : CmdD} {B' T' : Nat} (h : CmdX w B T v c) (hB : B' ≤ B) (hT : T ≤ T') : CmdX w B' T' v c := by
  obtain ⟨u0, u1, u2, T0, T1, hv, r0, r1, r2, h1, h2, h3⟩ := h
  exact ⟨u0, u1, u2, T0, T1, hv, r0.wide hB (Nat.le_refl _), r1, r2.wide (Nat.le_refl _) hT, by omega, h2, by omega⟩
theorem cmdx_zero (w : World) (h : B ≤ T) : CmdX w B T (.agg #[.int .i64 0, .slice none 0 0, .slice none 0 0, .int .i64 0, .int .i64 0, .int .i64 0, .int .i64 0, .slice none 0 0]) zeroCmd := ⟨_, _, _, B, B, rfl, Row.nil _ _ _, Row.nil _ _ _, Row.nil _ _ _, Nat.le_refl _, Nat.le_refl _, h⟩
end
theorem below_gb {w0 w w' : World} {g N : Nat} (hb : Below N w0 w) (hg : w.grownBy w' (some g)) (hN : N ≤ g) (hs : N ≤ w.heap.size) : Below N w0 w' :=
  ⟨hg.os.trans hb.os, hg.tape.trans hb.tape, hg.output.trans hb.output, Nat.le_trans hb.size hg.size, fun k hk => (hg.block k (by omega) (by simp; omega)).trans (hb.block k hk)⟩
/-- The five blocks that CmdRead lays. -/
theorem five (w : World) (o0 o1 o2 o3 o4 : Obj) : (((((w.alloc o0).alloc o1).alloc o2).alloc o3).alloc o4).heap[w.heap.size]? = some o0 ∧ (((((w.alloc o0).alloc o1).alloc o2).alloc o3).alloc o4).heap[w.heap.size + 1]? = some o1 ∧ (((((w.alloc o0).alloc o1).alloc o2).alloc o3).alloc o4).heap[w.heap.size + 2]? = some o2 ∧ (((((w.alloc o0).alloc o1).alloc o2).alloc o3).alloc o4).heap[w.heap.size + 3]? = some o3 ∧ (((((w.alloc o0).alloc o1).alloc o2).alloc o3).alloc o4).heap[w.heap.size + 4]? = some o4 ∧ Below w.heap.size w (((((w.alloc o0).alloc o1).alloc o2).alloc o3).alloc o4) ∧ (((((w.alloc o0).alloc o1).alloc o2).alloc o3).alloc o4).heap.size = w.heap.size + 5 := by
  obtain ⟨a, b, c⟩ := box3 w o0 o1 o2
  have B3 := box3_below w o0 o1 o2
  have s3 : (((w.alloc o0).alloc o1).alloc o2).heap.size = w.heap.size + 3 := by simp
  generalize (((w.alloc o0).alloc o1).alloc o2) = X at a b c B3 s3
  obtain ⟨d, e, B5⟩ := boxes2 X o3 o4
  rw [s3] at d e
  exact ⟨box_below B5 a, box_below B5 b, box_below B5 c, d, e, Below.step B3 B5, by simp [s3]⟩

set_option maxRecDepth 100000 in
set_option maxHeartbeats 4000000 in
theorem implCmdRead_r (v : Value) (l : List Int) (ea : Addr) (w : World) (hv : Bs w v l) (hE : Gave w ea) (ht : Tab10 w) (he : Errs w) (hll : l.length ≤ 2000000) :
    Calls Tryz.prog 8 #[v] w fun e w' => ∃ u, e = .returned (.tuple #[u, .int .i64 (readM l).2.1, .int .i64 (readM l).2.2]) ∧ CmdX w' w.heap.size w'.heap.size u (readM l).1 ∧ Below w.heap.size w w' := by
  have hmf : ∀ (fn : Fn) (first cap : Array Value) (w : World), (Instr.makeFunc fn first cap).run Tryz.prog w = .ok (.func fn first cap) w := fun _ _ _ _ => rfl
  obtain ⟨res, hres⟩ : ∃ res, res = readM l := ⟨_, rfl⟩
  have HRES : Hid (res = readM l) := hres
  rw [← hres]
  clear hres
  have HV : Hid (Bs w v l) := hv
  have HEE : Hid (Gave w ea ∧ Tab10 w ∧ Errs w) := ⟨hE, ht, he⟩
  have HO : Hid (Oct l) := hv.1
  obtain ⟨va, cap, rfl⟩ := hv.form
  have hcap := hv.cap
  clear hv hE
  by_cases hlen : 120 < l.length
  · have HRE : Hid (res = (zeroCmd, 1, 0)) := by show _ = _; rw [HRES.out, readM, if_pos hlen]
    obtain ⟨k0, k1, k2⟩ := box3 w (.cells #[.int .i64 0, .slice none 0 0, .slice none 0 0, .int .i64 0, .int .i64 0, .int .i64 0, .int .i64 0, .slice none 0 0] 24) (.cells #[.int .i64 0] 3) (.cells #[.int .i64 0] 3)
    have HB3 : Hid (Below w.heap.size w (((w.alloc (.cells #[.int .i64 0, .slice none 0 0, .slice none 0 0, .int .i64 0, .int .i64 0, .int .i64 0, .int .i64 0, .slice none 0 0] 24)).alloc (.cells #[.int .i64 0] 3)).alloc (.cells #[.int .i64 0] 3))) := box3_below _ _ _ _
    have HK : Hid ((((w.alloc (.cells #[.int .i64 0, .slice none 0 0, .slice none 0 0, .int .i64 0, .int .i64 0, .int .i64 0, .int .i64 0, .slice none 0 0] 24)).alloc (.cells #[.int .i64 0] 3)).alloc (.cells #[.int .i64 0] 3)).heap[w.heap.size]? = some (.cells #[.int .i64 0, .slice none 0 0, .slice none 0 0, .int .i64 0, .int .i64 0, .int .i64 0, .int .i64 0, .slice none 0 0] 24 (0, 0)) ∧ (((w.alloc (.cells #[.int .i64 0, .slice none 0 0, .slice none 0 0, .int .i64 0, .int .i64 0, .int .i64 0, .int .i64 0, .slice none 0 0] 24)).alloc (.cells #[.int .i64 0] 3)).alloc (.cells #[.int .i64 0] 3)).heap[w.heap.size + 1]? = some (.cells #[.int .i64 0] 3 (0, 0)) ∧ (((w.alloc (.cells #[.int .i64 0, .slice none 0 0, .slice none 0 0, .int .i64 0, .int .i64 0, .int .i64 0, .int .i64 0, .slice none 0 0] 24)).alloc (.cells #[.int .i64 0] 3)).alloc (.cells #[.int .i64 0] 3)).heap[w.heap.size + 2]? = some (.cells #[.int .i64 0] 3 (0, 0))) := ⟨k0, k1, k2⟩
    clear k0 k1 k2
    have hli : (120 : Int) < (l.length : Int) := by omega
    go_enter_defers Tryz.func8, Tryz.ntmps8
    go_upto_region 2 with fail
    generalize (((w.alloc (.cells #[.int .i64 0, .slice none 0 0, .slice none 0 0, .int .i64 0, .int .i64 0, .int .i64 0, .int .i64 0, .slice none 0 0] 24)).alloc (.cells #[.int .i64 0] 3)).alloc (.cells #[.int .i64 0] 3)) = W at HB3 HK ⊢
    have HF : Hid _ := sets10 (d0 := .int .i64 0) (d1 := .slice none 0 0) (d2 := .slice none 0 0) (d3 := .int .i64 0) (d4 := .int .i64 0) (d5 := .int .i64 0) (d6 := .int .i64 0) (d7 := .slice none 0 0) (x0 := .int .i64 1) (x1 := .int .i64 0) HK.out.1 HK.out.2.1 HK.out.2.2 HB3.out (Nat.le_refl _)
    obtain ⟨d0, d1, d2, d3, d4, d5, d6, d7, dl⟩ := box8l HK.out.1
    obtain ⟨dz, -⟩ := box8z HK.out.1
    obtain ⟨e0, ez, el⟩ := bx1c HK.out.2.1
    obtain ⟨g0, gz, gl⟩ := bx1c HK.out.2.2
    go_wp2
    obtain ⟨m0, m1, m2, BW, sz⟩ := HF.out
    obtain ⟨f0, f1, f2, f3, f4, f5, f6, f7, -⟩ := box8l m0
    have f8 := (bx1c m1).1
    have f9 := (bx1c m2).1
    refine ⟨.tuple #[.agg #[.int .i64 0, .slice none 0 0, .slice none 0 0, .int .i64 0, .int .i64 0, .int .i64 0, .int .i64 0, .slice none 0 0], .int .i64 1, .int .i64 0], by simp [results, Tryz.results8, go_sem, f0, f1, f2, f3, f4, f5, f6, f7, f8, f9], _, by rw [HRE.out], ?_, BW⟩
    rw [HRE.out]
    exact cmdx_zero _ BW.size
  · have hl : l.length ≤ 2000 := by omega
    have hli : ¬ (120 : Int) < (l.length : Int) := by omega
    have HRE0 : Hid (readM l = match rdI l with
      | .error p => (zeroCmd, p.1, p.2)
      | .ok c => (c, 0, 0)) := rd_same HO.out (by omega)
    obtain ⟨k0, k1, k2, k3, k4, BB, hs⟩ := five w (.cells #[.int .i64 0, .slice none 0 0, .slice none 0 0, .int .i64 0, .int .i64 0, .int .i64 0, .int .i64 0, .slice none 0 0] 24) (.cells #[.int .i64 0] 3) (.cells #[.int .i64 0] 3) (.cells #[.slice va l.length cap, .slice none 0 0, .int .i64 0, .int .i64 0] 56) (.cells #[.pointer (some ⟨w.heap.size + 3, 0, none⟩)] 53)
    have HB : Hid (Below w.heap.size w (((((w.alloc (.cells #[.int .i64 0, .slice none 0 0, .slice none 0 0, .int .i64 0, .int .i64 0, .int .i64 0, .int .i64 0, .slice none 0 0] 24)).alloc (.cells #[.int .i64 0] 3)).alloc (.cells #[.int .i64 0] 3)).alloc (.cells #[.slice va l.length cap, .slice none 0 0, .int .i64 0, .int .i64 0] 56)).alloc (.cells #[.pointer (some ⟨w.heap.size + 3, 0, none⟩)] 53))) := BB
    have HK : Hid ((((((w.alloc (.cells #[.int .i64 0, .slice none 0 0, .slice none 0 0, .int .i64 0, .int .i64 0, .int .i64 0, .int .i64 0, .slice none 0 0] 24)).alloc (.cells #[.int .i64 0] 3)).alloc (.cells #[.int .i64 0] 3)).alloc (.cells #[.slice va l.length cap, .slice none 0 0, .int .i64 0, .int .i64 0] 56)).alloc (.cells #[.pointer (some ⟨w.heap.size + 3, 0, none⟩)] 53)).heap[w.heap.size]? = some (.cells #[.int .i64 0, .slice none 0 0, .slice none 0 0, .int .i64 0, .int .i64 0, .int .i64 0, .int .i64 0, .slice none 0 0] 24 (0, 0)) ∧ (((((w.alloc (.cells #[.int .i64 0, .slice none 0 0, .slice none 0 0, .int .i64 0, .int .i64 0, .int .i64 0, .int .i64 0, .slice none 0 0] 24)).alloc (.cells #[.int .i64 0] 3)).alloc (.cells #[.int .i64 0] 3)).alloc (.cells #[.slice va l.length cap, .slice none 0 0, .int .i64 0, .int .i64 0] 56)).alloc (.cells #[.pointer (some ⟨w.heap.size + 3, 0, none⟩)] 53)).heap[w.heap.size + 1]? = some (.cells #[.int .i64 0] 3 (0, 0)) ∧ (((((w.alloc (.cells #[.int .i64 0, .slice none 0 0, .slice none 0 0, .int .i64 0, .int .i64 0, .int .i64 0, .int .i64 0, .slice none 0 0] 24)).alloc (.cells #[.int .i64 0] 3)).alloc (.cells #[.int .i64 0] 3)).alloc (.cells #[.slice va l.length cap, .slice none 0 0, .int .i64 0, .int .i64 0] 56)).alloc (.cells #[.pointer (some ⟨w.heap.size + 3, 0, none⟩)] 53)).heap[w.heap.size + 2]? = some (.cells #[.int .i64 0] 3 (0, 0)) ∧ LR (((((w.alloc (.cells #[.int .i64 0, .slice none 0 0, .slice none 0 0, .int .i64 0, .int .i64 0, .int .i64 0, .int .i64 0, .slice none 0 0] 24)).alloc (.cells #[.int .i64 0] 3)).alloc (.cells #[.int .i64 0] 3)).alloc (.cells #[.slice va l.length cap, .slice none 0 0, .int .i64 0, .int .i64 0] 56)).alloc (.cells #[.pointer (some ⟨w.heap.size + 3, 0, none⟩)] 53)) (w.heap.size + 3) (.slice va l.length cap) (.slice none 0 0) 0 0 ∧ (((((w.alloc (.cells #[.int .i64 0, .slice none 0 0, .slice none 0 0, .int .i64 0, .int .i64 0, .int .i64 0, .int .i64 0, .slice none 0 0] 24)).alloc (.cells #[.int .i64 0] 3)).alloc (.cells #[.int .i64 0] 3)).alloc (.cells #[.slice va l.length cap, .slice none 0 0, .int .i64 0, .int .i64 0] 56)).alloc (.cells #[.pointer (some ⟨w.heap.size + 3, 0, none⟩)] 53)).heap[w.heap.size + 4]? = some (.cells #[.pointer (some ⟨w.heap.size + 3, 0, none⟩)] 53 (0, 0))) := ⟨k0, k1, k2, k3, k4⟩
    have Hs : Hid ((((((w.alloc (.cells #[.int .i64 0, .slice none 0 0, .slice none 0 0, .int .i64 0, .int .i64 0, .int .i64 0, .int .i64 0, .slice none 0 0] 24)).alloc (.cells #[.int .i64 0] 3)).alloc (.cells #[.int .i64 0] 3)).alloc (.cells #[.slice va l.length cap, .slice none 0 0, .int .i64 0, .int .i64 0] 56)).alloc (.cells #[.pointer (some ⟨w.heap.size + 3, 0, none⟩)] 53)).heap.size = w.heap.size + 5) := hs
    obtain ⟨r0, rz, rl⟩ := bx1c k4
    clear k0 k1 k2 k3 k4 BB hs
    go_enter_defers Tryz.func8, Tryz.ntmps8
    go_wp2_with fail
    refine (command_r (w.heap.size + 3) _ l ea w _ HV.out HB.out HEE.out.1 (by omega) HK.out.2.2.2.1 hl HEE.out.2.1 HEE.out.2.2).mono ?_
    rintro e w1 ⟨hG, hP⟩
    have hs1 := hG.size
    have HB1 : Hid (Below w.heap.size w w1) := below_gb HB.out hG (by omega) HB.out.size
    have HK1 : Hid (w1.heap[w.heap.size]? = some (.cells #[.int .i64 0, .slice none 0 0, .slice none 0 0, .int .i64 0, .int .i64 0, .int .i64 0, .int .i64 0, .slice none 0 0] 24 (0, 0)) ∧ w1.heap[w.heap.size + 1]? = some (.cells #[.int .i64 0] 3 (0, 0)) ∧ w1.heap[w.heap.size + 2]? = some (.cells #[.int .i64 0] 3 (0, 0)) ∧ w1.heap[w.heap.size + 4]? = some (.cells #[.pointer (some ⟨w.heap.size + 3, 0, none⟩)] 53 (0, 0))) :=
      ⟨(hG.block _ (lt_of_heap HK.out.1) (by simp)).trans HK.out.1, (hG.block _ (lt_of_heap HK.out.2.1) (by simp)).trans HK.out.2.1, (hG.block _ (lt_of_heap HK.out.2.2.1) (by simp)).trans HK.out.2.2.1, (hG.block _ (lt_of_heap HK.out.2.2.2.2) (by simp)).trans HK.out.2.2.2.2⟩
    rw [Hs.out] at hs1
    cases hrd : rdI l with
    | error p =>
      rw [hrd] at hP
      obtain ⟨rfl, lv', tv', hLR⟩ := hP
      have HRE : Hid (res = (zeroCmd, p.1, p.2)) := by show _ = _; rw [HRES.out, HRE0.out, hrd]
      have HLR : Hid (LR w1 (w.heap.size + 3) lv' tv' p.1 p.2) := hLR
      clear hrd hG HB HK Hs r0 rz rl hLR
      go_wp2
      refine leaves_cons (f := 24) (args := #[.pointer (some ⟨w.heap.size + 4, 0, none⟩), .pointer (some ⟨w.heap.size, 0, none⟩), .pointer (some ⟨w.heap.size + 1, 0, none⟩), .pointer (some ⟨w.heap.size + 2, 0, none⟩)]) (by simp) (by simp [go_sem]) ?_
      refine (catchC_panicking w.heap.size (w.heap.size + 4) (w.heap.size + 3) #[] _ _ _ _ p.1 p.2 _ _ [] w1 _ _ _ _ _ _ _ _ HK1.out.1 HK1.out.2.1 HK1.out.2.2.1 (bx1c HK1.out.2.2.2).1 HLR.out).mono ?_
      rintro e u' w'' ⟨rfl, rfl, m0, m1, m2, BW⟩
      obtain ⟨e0, e1, e2, e3, e4, e5, e6, e7, -⟩ := box8l m0
      have e8 := (bx1c m1).1
      have e9 := (bx1c m2).1
      have HBF : Hid (Below w.heap.size w w'') := HB1.out.trans BW
      refine ⟨.tuple #[.agg #[.int .i64 0, .slice none 0 0, .slice none 0 0, .int .i64 0, .int .i64 0, .int .i64 0, .int .i64 0, .slice none 0 0], .int .i64 p.1, .int .i64 p.2], by simp [results, Tryz.results8, go_sem, e0, e1, e2, e3, e4, e5, e6, e7, e8, e9], _, by rw [HRE.out], ?_, HBF.out⟩
      rw [HRE.out]
      exact cmdx_zero _ HBF.out.size
    | ok c =>
      rw [hrd] at hP
      obtain ⟨u, rfl, hX⟩ := hP
      have HRE : Hid (res = (c, 0, 0)) := by show _ = _; rw [HRES.out, HRE0.out, hrd]
      have hW5 : (((((w.alloc (.cells #[.int .i64 0, .slice none 0 0, .slice none 0 0, .int .i64 0, .int .i64 0, .int .i64 0, .int .i64 0, .slice none 0 0] 24)).alloc (.cells #[.int .i64 0] 3)).alloc (.cells #[.int .i64 0] 3)).alloc (.cells #[.slice va l.length cap, .slice none 0 0, .int .i64 0, .int .i64 0] 56)).alloc (.cells #[.pointer (some ⟨w.heap.size + 3, 0, none⟩)] 53)).heap.size = w.heap.size + 5 := Hs.out
      rw [hW5] at hX
      obtain ⟨kk, bx, tt, uid, mode, fl, si, tx⟩ := c
      have HX : Hid (CmdX w1 (w.heap.size + 5) w1.heap.size u ⟨kk, bx, tt, uid, mode, fl, si, tx⟩) := hX
      obtain ⟨u0, u1, u2, T0, T1, rfl, q0, q1, q2, -⟩ := hX
      obtain ⟨a0, n0, c0, rfl⟩ := q1.bs.form3
      obtain ⟨a1, n1, c1, rfl⟩ := q2.bs.form3
      obtain ⟨a2, n2, c2, rfl⟩ := q0.bs.form3
      clear hrd hG HB HK Hs r0 rz rl q0 q1 q2 hW5
      have HF : Hid _ := sets10 (d0 := .int .i64 kk) (d1 := .slice a0 n0 c0) (d2 := .slice a1 n1 c1) (d3 := .int .i64 uid) (d4 := .int .i64 mode) (d5 := .int .i64 fl) (d6 := .int .i64 si) (d7 := .slice a2 n2 c2) (x0 := .int .i64 0) (x1 := .int .i64 0) HK1.out.1 HK1.out.2.1 HK1.out.2.2.1 HB1.out (Nat.le_refl _)
      have HXF : Hid (CmdX ((((((((((w1.setCell ⟨w.heap.size, 0, none⟩ (.int .i64 kk)).setCell ⟨w.heap.size, 1, none⟩ (.slice a0 n0 c0)).setCell ⟨w.heap.size, 2, none⟩ (.slice a1 n1 c1)).setCell ⟨w.heap.size, 3, none⟩ (.int .i64 uid)).setCell ⟨w.heap.size, 4, none⟩ (.int .i64 mode)).setCell ⟨w.heap.size, 5, none⟩ (.int .i64 fl)).setCell ⟨w.heap.size, 6, none⟩ (.int .i64 si)).setCell ⟨w.heap.size, 7, none⟩ (.slice a2 n2 c2)).setCell ⟨w.heap.size + 1, 0, none⟩ (.int .i64 0)).setCell ⟨w.heap.size + 2, 0, none⟩ (.int .i64 0)) w.heap.size w1.heap.size (.agg #[.int .i64 kk, .slice a0 n0 c0, .slice a1 n1 c1, .int .i64 uid, .int .i64 mode, .int .i64 fl, .int .i64 si, .slice a2 n2 c2]) ⟨kk, bx, tt, uid, mode, fl, si, tx⟩) := (cmdx_set10 HX.out (by omega)).wide (by omega) (Nat.le_refl _)
      obtain ⟨d0, d1, d2, d3, d4, d5, d6, d7, dl⟩ := box8l HK1.out.1
      obtain ⟨dz, -⟩ := box8z HK1.out.1
      obtain ⟨e0, ez, el⟩ := bx1c HK1.out.2.1
      obtain ⟨g0, gz, gl⟩ := bx1c HK1.out.2.2.1
      go_wp2
      refine leaves_cons (f := 24) (args := #[.pointer (some ⟨w.heap.size + 4, 0, none⟩), .pointer (some ⟨w.heap.size, 0, none⟩), .pointer (some ⟨w.heap.size + 1, 0, none⟩), .pointer (some ⟨w.heap.size + 2, 0, none⟩)]) (by simp) (by simp [go_sem]) ?_
      refine (catchC_idle _ _ _ _ _).mono ?_
      rintro e u' w'' ⟨rfl, rfl, rfl⟩
      obtain ⟨m0, m1, m2, BW, sz⟩ := HF.out
      obtain ⟨f0, f1, f2, f3, f4, f5, f6, f7, -⟩ := box8l m0
      have f8 := (bx1c m1).1
      have f9 := (bx1c m2).1
      refine ⟨.tuple #[.agg #[.int .i64 kk, .slice a0 n0 c0, .slice a1 n1 c1, .int .i64 uid, .int .i64 mode, .int .i64 fl, .int .i64 si, .slice a2 n2 c2], .int .i64 0, .int .i64 0], by simp [results, Tryz.results8, go_sem, f0, f1, f2, f3, f4, f5, f6, f7, f8, f9], _, by rw [HRE.out], ?_, BW⟩
      rw [HRE.out, sz]
      exact HXF.out

end Go.Proofs.YtlegmiaoablcgaaGreatDoor

/- What a command that was read may be. -/
namespace Go.Proofs.YtlegmiaoablcgaaGreatDoor
open Go.RowKit
set_option linter.unusedSimpArgs false

/-- A command as one may be read. -/
def RngC (c : CmdD) : Prop := (0 ≤ c.k ∧ c.k ≤ 9) ∧ (0 ≤ c.uid ∧ c.uid ≤ 1000000) ∧ (0 ≤ c.mode ∧ c.mode ≤ 1000000) ∧ (0 ≤ c.fl ∧ c.fl ≤ 1000000) ∧ (0 ≤ c.si ∧ c.si ≤ 1000000) ∧ c.bx.length ≤ 2000 ∧ c.tt.length ≤ 2000 ∧ c.tx.length ≤ 2000
theorem rest_rng {e : Int} {c : CmdD} {ts : List TokD} {r : CmdD × List TokD} (hok : ∀ t ∈ ts, OkT t) (hc : RngC c) (h : restM e c ts = .ok r) : RngC r.1 := by
  obtain ⟨k, bx, tt, uid, mode, fl, si, tx⟩ := c
  obtain ⟨c1, c2, c3, c4, c5, c6, c7, c8⟩ := hc
  simp only at c1 c2 c3 c4 c5 c6 c7 c8
  unfold restM at h
  split at h
  · cases h1 : takeM e 4 0 ts with
    | error p => rw [h1] at h; cases h
    | ok a =>
      rw [h1] at h
      simp only [bind, Except.bind] at h
      have ha := hok a.1 (take_mem h1).2
      cases h2 : takeM e 5 0 a.2 with
      | error p => rw [h2] at h; cases h
      | ok b =>
        rw [h2] at h
        cases h
        have hb := hok b.1 ((take_mem h1).1 _ (take_mem h2).2)
        exact ⟨c1, c2, c3, ⟨ha.2.2.1, ha.2.2.2.1⟩, c5, c6, c7, hb.2.2.2.2.1⟩
  · split at h
    · cases h1 : takeM e 3 1 ts with
      | error p => rw [h1] at h; cases h
      | ok a =>
        rw [h1] at h
        simp only [bind, Except.bind] at h
        have ha := hok a.1 (take_mem h1).2
        cases hm : modeM a.2 with
        | none => rw [hm] at h; cases h
        | some m =>
          have hm3 : 0 ≤ m ∧ m ≤ 2 := by
            unfold modeM at hm
            split at hm
            · cases hm; omega
            · split at hm
              · cases hm; omega
              · split at hm
                · cases hm; omega
                · cases hm
          rw [hm] at h
          simp only at h
          cases h2 : takeM e 4 0 (a.2.drop 1) with
          | error p => rw [h2] at h; cases h
          | ok b =>
            rw [h2] at h
            have hb := hok b.1 ((take_mem h1).1 _ (List.mem_of_mem_drop (take_mem h2).2))
            simp only at h
            split at h
            · cases h3 : takeM e 3 1 (b.2.drop 1) with
              | error p => rw [h3] at h; cases h
              | ok d =>
                rw [h3] at h
                cases h
                have hd := hok d.1 ((take_mem h1).1 _ (List.mem_of_mem_drop ((take_mem h2).1 _ (List.mem_of_mem_drop (take_mem h3).2))))
                exact ⟨c1, ⟨ha.2.2.1, ha.2.2.2.1⟩, ⟨hm3.1, by simp only; omega⟩, ⟨hb.2.2.1, hb.2.2.2.1⟩, ⟨hd.2.2.1, hd.2.2.2.1⟩, c6, c7, c8⟩
            · cases h
              exact ⟨c1, ⟨ha.2.2.1, ha.2.2.2.1⟩, ⟨hm3.1, by simp only; omega⟩, ⟨hb.2.2.1, hb.2.2.2.1⟩, c5, c6, c7, c8⟩
    · split at h
      · cases h1 : takeM e 3 1 ts with
        | error p => rw [h1] at h; cases h
        | ok a =>
          rw [h1] at h
          cases h
          have ha := hok a.1 (take_mem h1).2
          exact ⟨c1, ⟨ha.2.2.1, ha.2.2.2.1⟩, c3, c4, c5, c6, c7, c8⟩
      · split at h
        · cases h1 : takeM e 3 1 ts with
          | error p => rw [h1] at h; cases h
          | ok a =>
            rw [h1] at h
            simp only [bind, Except.bind] at h
            have ha := hok a.1 (take_mem h1).2
            cases h2 : takeM e 2 0 a.2 with
            | error p => rw [h2] at h; cases h
            | ok b =>
              rw [h2] at h
              have hb := hok b.1 ((take_mem h1).1 _ (take_mem h2).2)
              simp only at h
              split at h
              · cases h
                exact ⟨c1, ⟨ha.2.2.1, ha.2.2.2.1⟩, ⟨by simp, by simp⟩, c4, c5, c6, hb.2.2.2.2.1, c8⟩
              · cases h
                exact ⟨c1, ⟨ha.2.2.1, ha.2.2.2.1⟩, c3, c4, c5, c6, hb.2.2.2.2.1, c8⟩
        · split at h
          · cases h1 : takeM e 3 0 ts with
            | error p => rw [h1] at h; cases h
            | ok a =>
              rw [h1] at h
              cases h
              have ha := hok a.1 (take_mem h1).2
              exact ⟨c1, c2, c3, c4, ⟨ha.2.2.1, ha.2.2.2.1⟩, c6, c7, c8⟩
          · cases h
            exact ⟨c1, c2, c3, c4, c5, c6, c7, c8⟩
theorem cmd_rng {e : Int} {ts : List TokD} {c : CmdD} (hok : ∀ t ∈ ts, OkT t) (h : cmdM e ts = .ok c) : RngC c := by
  unfold cmdM at h
  cases hk : kindM ts with
  | none => rw [hk] at h; cases h
  | some k =>
    rw [hk] at h
    have hlt := kindM_lt hk
    have hod : ∀ t ∈ ts.drop 1, OkT t := fun t ht => hok t (List.mem_of_mem_drop ht)
    have key : ∀ (bx : List Int) (us : List TokD), bx.length ≤ 2000 → (∀ t ∈ us, OkT t) → ((restM e ⟨k, bx, [], 0, 0, 0, 0, []⟩ us).bind fun r => match r.2 with | [] => .ok r.1 | t :: _ => .error t.p) = Except.ok c → RngC c := by
      intro bx us hb hu hh
      cases hr : restM e ⟨k, bx, [], 0, 0, 0, 0, []⟩ us with
      | error p => rw [hr] at hh; cases hh
      | ok r =>
        rw [hr] at hh
        have := rest_rng hu ⟨⟨by simp only; omega, by simp only; omega⟩, ⟨by simp, by simp⟩, ⟨by simp, by simp⟩, ⟨by simp, by simp⟩, ⟨by simp, by simp⟩, hb, by simp, by simp⟩ hr
        simp only [Except.bind] at hh
        split at hh
        · cases hh; exact this
        · cases hh
    simp only [bind, Except.bind] at h
    by_cases h9 : k = 9
    · rw [if_pos h9] at h
      exact key [] _ (by simp) hod h
    · rw [if_neg h9] at h
      cases h2 : takeM e 2 0 (ts.drop 1) with
      | error p => rw [h2] at h; cases h
      | ok b =>
        rw [h2] at h
        exact key b.1.tx b.2 (hod b.1 (take_mem h2).2).2.2.2.2.1 (fun t ht => hod t ((take_mem h2).1 t ht)) h
theorem lex_okT : ∀ (f : Nat) (i : Int) (s : List Int) (ts : List TokD), Oct s → s.length ≤ 2000 → lexM f i s = .ok ts → ∀ t ∈ ts, OkT t
  | 0, i, s, ts, _, _, h => by simp [lexM] at h; subst h; simp
  | f + 1, i, [], ts, _, _, h => by simp [lexM] at h; subst h; simp
  | f + 1, i, x :: r, ts, ho, hl, h => by
    simp only [lexM] at h
    split at h
    · exact lex_okT f _ r ts (fun z hz => ho z (by simp [hz])) (by simp at hl; omega) h
    · cases hone : oneM i (x :: r) with
      | none => rw [hone] at h; cases h
      | some p =>
        rw [hone] at h
        simp only at h
        have hsuf := (oneM_suf hone).1
        cases hx : lexM f (i + (((x :: r).length : Int) - (p.2.length : Int))) p.2 with
        | error e => rw [hx] at h; cases h
        | ok us =>
          rw [hx] at h
          cases h
          intro t ht
          rcases List.mem_cons.1 ht with rfl | ht
          · exact oneM_ok hone ho hl
          · exact lex_okT f _ p.2 us (fun z hz => ho z (hsuf.subset hz)) (Nat.le_trans hsuf.length_le hl) hx t ht
theorem read_rng {l : List Int} (ho : Oct l) : RngC (readM l).1 ∧ True := by
  have hz : RngC zeroCmd := ⟨⟨by decide, by decide⟩, ⟨by decide, by decide⟩, ⟨by decide, by decide⟩, ⟨by decide, by decide⟩, ⟨by decide, by decide⟩, by decide, by decide, by decide⟩
  unfold readM
  split
  · exact ⟨hz, trivial⟩
  · rename_i hl
    cases h : lexM (l.length + 1) 0 l with
    | error i => exact ⟨hz, trivial⟩
    | ok ts =>
      simp only
      have hok := lex_okT _ _ l ts ho (by omega) h
      cases hc : cmdM l.length ts with
      | error p => exact ⟨hz, trivial⟩
      | ok c => exact ⟨cmd_rng hok hc, trivial⟩

end Go.Proofs.YtlegmiaoablcgaaGreatDoor

/- A command of the call's own that was read. -/
namespace Go.Proofs.YtlegmiaoablcgaaGreatDoor
open Go.RowKit
set_option linter.unusedVariables false

section
variable {w w' : World} {B T B' T' : Nat} {v : Value} {c : CmdD}
theorem CmdX.below (h : CmdX w B T v c) (hb : Below w.heap.size w w') : CmdX w' B T v c :=
  let ⟨u0, u1, u2, T0, T1, hv, r0, r1, r2, r⟩ := h; ⟨u0, u1, u2, T0, T1, hv, r0.below hb, r1.below hb, r2.below hb, r⟩
theorem CmdX.grown {g : Nat} (h : CmdX w B T v c) (hw : w.grownBy w' (some g)) (hd : g < B ∨ T ≤ g) : CmdX w' B T v c :=
  let ⟨u0, u1, u2, T0, T1, hv, r0, r1, r2, h1, h2, h3⟩ := h; ⟨u0, u1, u2, T0, T1, hv, r0.drawn hw (by omega), r1.drawn hw (by omega), r2.drawn hw (by omega), h1, h2, h3⟩
theorem CmdX.form (h : CmdX w B T v c) : ∃ a0 n0 c0 a1 n1 c1 a2 n2 c2, v = .agg #[.int .i64 c.k, .slice a0 n0 c0, .slice a1 n1 c1, .int .i64 c.uid, .int .i64 c.mode, .int .i64 c.fl, .int .i64 c.si, .slice a2 n2 c2] := by
  obtain ⟨u0, u1, u2, T0, T1, hv, r0, r1, r2, r⟩ := h
  obtain ⟨a0, n0, c0, rfl⟩ := r1.bs.form3
  obtain ⟨a1, n1, c1, rfl⟩ := r2.bs.form3
  obtain ⟨a2, n2, c2, rfl⟩ := r0.bs.form3
  exact ⟨_, _, _, _, _, _, _, _, _, hv⟩
theorem CmdX.toV (h : CmdX w B T v c) (hr : RngC c) : CmdV w v c.k c.bx c.tt c.uid c.mode c.fl c.si c.tx := by
  obtain ⟨u0, u1, u2, T0, T1, hv, r0, r1, r2, r⟩ := h
  obtain ⟨g1, g2, g3, g4, g5, -⟩ := hr
  exact ⟨u0, u1, u2, hv, r1.bs, r2.bs, r0.bs, ⟨by omega, by omega⟩, ⟨by omega, by omega⟩, ⟨by omega, by omega⟩, ⟨by omega, by omega⟩, ⟨by omega, by omega⟩⟩
end

end Go.Proofs.YtlegmiaoablcgaaGreatDoor

/- The drawing cursor of package spec: what l1Byte and l1Below answer lies in its bounds; they write into the cursor alone. -/
namespace Go.Proofs.YtlegmiaoablcgaaGreatDoor
open Go.RowKit
set_option maxRecDepth 100000

/-- The cursor at block g: it holds the slice cv of the bytes L, a place in it, and some number; below w0's size nothing has turned since w0. -/
def Cur (w0 w : World) (g : Nat) (cv : Value) (L : List Int) : Prop :=
  w0.heap.size ≤ g ∧ Below w0.heap.size w0 w ∧ Bs w0 cv L ∧ ∃ i h : Int, 0 ≤ i ∧ i ≤ L.length ∧ w.heap[g]? = some (.cells #[cv, .int .i64 i, .int .i64 h] 65 (0, 0))

theorem and255 (x : Int) : 0 ≤ bits BinOp.and IntKind.i64 x 255 ∧ bits BinOp.and IntKind.i64 x 255 ≤ 255 := by
  have e : bits BinOp.and IntKind.i64 x 255 = IntKind.i64.wrap ((BitVec.ofInt 64 x &&& BitVec.ofInt 64 255).toNat : Int) := rfl
  have hb : (BitVec.ofInt 64 x &&& BitVec.ofInt 64 255).toNat ≤ 255 := by
    rw [BitVec.toNat_and]
    exact Nat.and_le_right
  rw [e, IntWalk.i64_in _ (by omega)]
  omega

theorem grownBy_drewN {w w' : World} {r : Option Nat} (h : w.grownBy w' r) (n : Nat) : w.grownBy (w'.drewN n) r := ⟨h.os, h.tape, h.output, h.size, h.block⟩
theorem set_h {w : World} {g : Nat} {c0 c1 c2 v : Value} {t : TypeId} (h : w.heap[g]? = some (.cells #[c0, c1, c2] t (0, 0))) : (w.setCell ⟨g, 2, none⟩ v).heap[g]? = some (.cells #[c0, c1, v] t (0, 0)) := by
  rw [heap_setCell_same w g 2 _ t v h]; rfl
theorem set_i {w : World} {g : Nat} {c0 c1 c2 v : Value} {t : TypeId} (h : w.heap[g]? = some (.cells #[c0, c1, c2] t (0, 0))) : (w.setCell ⟨g, 1, none⟩ v).heap[g]? = some (.cells #[c0, v, c2] t (0, 0)) := by
  rw [heap_setCell_same w g 1 _ t v h]; rfl

set_option maxHeartbeats 1000000 in
theorem l1Byte_any (w0 w : World) (g : Nat) (cv : Value) (L : List Int) (hc : Cur w0 w g cv L) :
    Calls Tryz.prog 59 #[.pointer (some ⟨g, 0, none⟩)] w fun e w' => ∃ x, e = .returned (.int .i64 x) ∧ 0 ≤ x ∧ x ≤ 255 ∧ Cur w0 w' g cv L ∧ w.grownBy w' (some g) := by
  obtain ⟨hg, hB, hbs, i, h, hi0, hi1, hh⟩ := hc
  have f0 : w.cell? ⟨g, 0, none⟩ = some cv := by rw [cell_of_row w g 0 _ _ (0, 0) hh]; rfl
  have f1 : w.cell? ⟨g, 1, none⟩ = some (.int .i64 i) := by rw [cell_of_row w g 1 _ _ (0, 0) hh]; rfl
  have f2 : w.cell? ⟨g, 2, none⟩ = some (.int .i64 h) := by rw [cell_of_row w g 2 _ _ (0, 0) hh]; rfl
  have z1 := frozen_of_row w g 1 _ _ hh
  have z2 := frozen_of_row w g 2 _ _ hh
  obtain ⟨a, cap, rfl⟩ : ∃ a cap, cv = .slice a L.length cap := by obtain ⟨_, a, cap, h, _⟩ := hbs; exact ⟨a, cap, h⟩
  by_cases hlt : i < (L.length : Int)
  · obtain ⟨I, rfl⟩ := Int.eq_ofNat_of_zero_le hi0
    have HBS : Hid (Bs w0 (.slice a L.length cap) L) := hbs
    obtain ⟨ho, a', cap', hv, hlc, hcm, -, h4⟩ := hbs
    simp only [Value.slice.injEq] at hv
    obtain ⟨rfl, -, rfl⟩ := hv
    obtain ⟨b, off, rfl, hb, hcell⟩ := h4 (by omega)
    have fx : w.cell? ⟨b, off + I, none⟩ = some (.int .u8 (L.getD I 0)) := (hB.cell (p := ⟨b, off + I, none⟩) hb).trans (hcell I (by omega))
    have ox := oct_get ho I
    obtain ⟨x, hx⟩ : ∃ x, x = L.getD I 0 := ⟨_, rfl⟩
    rw [← hx] at fx ox
    obtain ⟨ox0, ox1⟩ := ox
    have hbg : ¬ b = g := by omega
    have hgb : ¬ g = b := by omega
    have HL : Hid (I < L.length) := by unfold Hid; omega
    unfold maxLen at hcm
    clear hcell h4 hx
    go_enter Tryz.func59, Tryz.ntmps59
    go_wp2
    go_quiet (fail)
    go_wp2
    go_quiet (fail)
    go_wp2
    go_quiet (fail)
    go_wp2
    go_ret
    exact ⟨_, rfl, (and255 _).1, (and255 _).2, ⟨hg, (below_drewN _ (hB.setCell hg _)).setCell hg _, HBS.out, (I : Int) + 1, _, by omega, by omega, set_i (w := (w.setCell ⟨g, 2, none⟩ _).drewN _) (set_h hh)⟩, grownBy_setCell (grownBy_drewN (grownBy_setCell (World.grownBy.refl _ _)) _)⟩
  · go_enter Tryz.func59, Tryz.ntmps59
    go_wp2
    go_quiet (fail)
    go_wp2
    go_quiet (fail)
    go_wp2
    go_ret
    exact ⟨_, rfl, (and255 _).1, (and255 _).2, ⟨hg, below_drewN _ (below_drewN _ (hB.setCell hg _)), hbs, i, _, hi0, hi1, set_h hh⟩, grownBy_drewN (grownBy_drewN (grownBy_setCell (World.grownBy.refl _ _)) _) _⟩

theorem Cur.below {w0 w w' : World} {g : Nat} {cv : Value} {L : List Int} (h : Cur w0 w g cv L) (hb : Below w.heap.size w w') : Cur w0 w' g cv L := by
  obtain ⟨hg, hB, hbs, i, q, h0, h1, hh⟩ := h
  exact ⟨hg, hB.trans (hb.mono hB.size), hbs, i, q, h0, h1, (hb.block g (lt_of_heap hh)).trans hh⟩
theorem Cur.lt {w0 w : World} {g : Nat} {cv : Value} {L : List Int} (h : Cur w0 w g cv L) : w0.heap.size ≤ g ∧ g < w.heap.size := by
  obtain ⟨hg, _, _, i, q, _, _, hh⟩ := h; exact ⟨hg, lt_of_heap hh⟩
/-- Another row was written. -/
theorem Cur.kept {w0 w w' : World} {g B T : Nat} {cv u : Value} {L m : List Int} (h : Cur w0 w g cv L) (hu : Row w B T u m) (hw : w.grownBy w' u.ownBlock) (hd : g < B) : Cur w0 w' g cv L := by
  obtain ⟨hg, hB, hbs, i, q, h0, h1, hh⟩ := h
  refine ⟨hg, hB.grown hw hB.size (fun k hk => by have := (hu.2.1.lt k hk).1; omega), hbs, i, q, h0, h1, (hw.block g (lt_of_heap hh) (fun e => ?_)).trans hh⟩
  have := (hu.2.1.lt g e.symm).1; omega
theorem grown_belowD {w w' : World} {g : Nat} (h : Below w.heap.size w w') : w.grownBy w' (some g) := ⟨h.os, h.tape, h.output, h.size, fun k hk _ => h.block k hk⟩
theorem below_grown {w0 w w' : World} {g : Nat} (h : Below w0.heap.size w0 w) (hw : w.grownBy w' (some g)) (hg : w0.heap.size ≤ g) : Below w0.heap.size w0 w' :=
  h.grown hw h.size (fun k hk => by cases hk; exact hg)

set_option maxHeartbeats 400000 in
theorem l1Below_any (w0 w : World) (g : Nat) (cv : Value) (L : List Int) (n : Int) (hc : Cur w0 w g cv L) (hn : 1 ≤ n) (hn1 : n ≤ 4000000000) :
    Calls Tryz.prog 30 #[.pointer (some ⟨g, 0, none⟩), .int .i64 n] w fun e w' => ∃ x, e = .returned (.int .i64 x) ∧ 0 ≤ x ∧ x < n ∧ Cur w0 w' g cv L ∧ w.grownBy w' (some g) := by
  by_cases hs : n ≤ 256
  · go_enter Tryz.func30, Tryz.ntmps30
    go_wp2_with fail
    refine (l1Byte_any w0 _ g cv L hc).mono ?_
    rintro e w1 ⟨x, rfl, hx0, hx1, hc1, hg1⟩
    go_wp2
    go_ret
    exact ⟨_, rfl, Int.emod_nonneg _ (by omega), Int.emod_lt_of_pos _ (by omega), hc1, hg1⟩
  · go_enter Tryz.func30, Tryz.ntmps30
    go_wp2_with fail
    refine (l1Byte_any w0 _ g cv L hc).mono ?_
    rintro e w1 ⟨x, rfl, hx0, hx1, hc1, hg1⟩
    go_wp2_with fail
    refine (l1Byte_any w0 _ g cv L hc1).mono ?_
    rintro e w2 ⟨y, rfl, hy0, hy1, hc2, hg2⟩
    go_wp2_with fail
    refine (l1Byte_any w0 _ g cv L hc2).mono ?_
    rintro e w3 ⟨z, rfl, hz0, hz1, hc3, hg3⟩
    go_wp2_with fail
    refine (l1Byte_any w0 _ g cv L hc3).mono ?_
    rintro e w4 ⟨q, rfl, hq0, hq1, hc4, hg4⟩
    go_wp2
    go_ret
    exact ⟨_, rfl, Int.emod_nonneg _ (by omega), Int.emod_lt_of_pos _ (by omega), hc4, grownBy_trans (grownBy_trans (grownBy_trans hg1 hg2) hg3) hg4⟩

set_option maxHeartbeats 400000 in
theorem l1Once_any (w0 w : World) (g : Nat) (cv : Value) (L : List Int) (n : Int) (hc : Cur w0 w g cv L) (hn : 1 ≤ n) (hn1 : n ≤ 4000000000) :
    Calls Tryz.prog 28 #[.pointer (some ⟨g, 0, none⟩), .int .i64 n] w fun e w' => ∃ x, e = .returned (.bool x) ∧ Cur w0 w' g cv L ∧ w.grownBy w' (some g) := by
  go_enter Tryz.func28, Tryz.ntmps28
  go_wp2_with fail
  refine (l1Below_any w0 _ g cv L n hc hn hn1).mono ?_
  rintro e w1 ⟨x, rfl, hx0, hx1, hc1, hg1⟩
  go_wp2
  go_ret
  exact ⟨_, rfl, hc1, hg1⟩

/-- A list of ints in a block of its own: each is an int, and there is one. -/
def Ints (w : World) (v : Value) (g n : Nat) : Prop :=
  1 ≤ n ∧ n ≤ 1000 ∧ ∃ k, k ≠ g ∧ k < w.heap.size ∧ v = .slice (some ⟨k, 0, none⟩) n n ∧ ∀ i, i < n → ∃ x, w.cell? ⟨k, i, none⟩ = some (.int .i64 x) ∧ -9223372036854775808 ≤ x ∧ x ≤ 9223372036854775807

set_option maxHeartbeats 400000 in
theorem l1PickInt_any (w0 w : World) (g n : Nat) (cv v : Value) (L : List Int) (hc : Cur w0 w g cv L) (hv : Ints w v g n) :
    Calls Tryz.prog 31 #[.pointer (some ⟨g, 0, none⟩), v] w fun e w' => ∃ x, e = .returned (.int .i64 x) ∧ -9223372036854775808 ≤ x ∧ x ≤ 9223372036854775807 ∧ Cur w0 w' g cv L ∧ w.grownBy w' (some g) := by
  obtain ⟨hn, hn1, k, hkg, hks, rfl, hcells⟩ := hv
  go_enter Tryz.func31, Tryz.ntmps31
  go_wp2_with fail
  refine (l1Below_any w0 _ g cv L n hc (by omega) (by omega)).mono ?_
  rintro e w1 ⟨x, rfl, hx0, hx1, hc1, hg1⟩
  obtain ⟨j, rfl⟩ := Int.eq_ofNat_of_zero_le hx0
  obtain ⟨y, hy, hy0, hy1⟩ := hcells j (by omega)
  have hy' : w1.cell? ⟨k, j, none⟩ = some (.int .i64 y) := hg1.cell hy (by simpa using hkg)
  clear hcells hy
  go_wp2
  go_ret
  exact ⟨_, rfl, hy0, hy1, hc1, hg1⟩

end Go.Proofs.YtlegmiaoablcgaaGreatDoor

/- What l1New, l1some and l1num of package spec answer. -/
namespace Go.Proofs.YtlegmiaoablcgaaGreatDoor
open Go.RowKit
set_option maxRecDepth 100000

theorem grownBy_belowB {w w1 w2 : World} {r : Option Nat} {B : Nat} (h : w.grownBy w1 r) (hb : Below B w1 w2) (hB : w.heap.size ≤ B) : w.grownBy w2 r :=
  ⟨hb.os.trans h.os, hb.tape.trans h.tape, hb.output.trans h.output, Nat.le_trans h.size hb.size, fun k hk hne => (hb.block k (Nat.lt_of_lt_of_le hk hB)).trans (h.block k hk hne)⟩
theorem Cur.belowB {w0 w w' : World} {g B : Nat} {cv : Value} {L : List Int} (h : Cur w0 w g cv L) (hb : Below B w w') (hg : g < B) : Cur w0 w' g cv L := by
  obtain ⟨hg0, hB, hbs, i, q, h0, h1, hh⟩ := h
  exact ⟨hg0, hB.trans (hb.mono (by omega)), hbs, i, q, h0, h1, (hb.block g hg).trans hh⟩
theorem OwnB.drawn {w w' : World} {g B : Nat} {v : Value} {l : List Int} (h : OwnB w B v l) (hw : w.grownBy w' (some g)) (hd : g < B) : OwnB w' B v l := by
  obtain ⟨k, hk, ho⟩ := h
  exact ⟨k, hk, ho.kept hw (by omega)⟩

set_option maxRecDepth 100000 in
set_option maxHeartbeats 400000 in
theorem l1New_any (v : Value) (L : List Int) (w : World) (hv : Bs w v L) :
    Calls Tryz.prog 13 #[v] w fun e w' => ∃ g, e = .returned (.pointer (some ⟨g, 0, none⟩)) ∧ Cur w w' g v L ∧ Below w.heap.size w w' := by
  have HBS : Hid (Bs w v L) := hv
  obtain ⟨ho, a, cap, rfl, hlc, hcm, hnil, hcells⟩ := hv
  unfold maxLen at hcm
  go_enter Tryz.func13, Tryz.ntmps13
  go_wp2
  go_loop [3, 4] (fun h i => ∃ (q : Int) (k : Nat), h = .int .i64 q ∧ i = .int .i64 k ∧ k ≤ L.length ∧ k ≤ 4000) (fun _ i => 4000 - (intOf i).toNat)
  case atStart => exact ⟨_, 0, rfl, rfl, Nat.zero_le _, Nat.zero_le _⟩
  case round =>
    obtain ⟨q, k, rfl, rfl, hk, hk4⟩ := hrel
    by_cases h1 : k < L.length
    · by_cases h2 : k < 4000
      · obtain ⟨b, off, rfl, hlb, hc⟩ := hcells (by omega)
        have hx := hc k h1
        have hb := oct_get ho k
        obtain ⟨x, hxe⟩ : ∃ x, x = L.getD k 0 := ⟨_, rfl⟩
        rw [← hxe] at hx hb
        clear hc hcells hxe
        go_wp2
        go_round
        case rel => exact ⟨_, k + 1, rfl, by go_num, by omega, by omega⟩
        case measure => simp [intOf]; omega
      · go_wp2
        go_ret
        exact ⟨w.heap.size, rfl, ⟨Nat.le_refl _, (Below.refl _ _).alloc (Nat.le_refl _) _, HBS.out, 0, q, by omega, by omega, heap_alloc_new w _⟩, (Below.refl _ _).alloc (Nat.le_refl _) _⟩
    · go_wp2
      go_ret
      exact ⟨w.heap.size, rfl, ⟨Nat.le_refl _, (Below.refl _ _).alloc (Nat.le_refl _) _, HBS.out, 0, q, by omega, by omega, heap_alloc_new w _⟩, (Below.refl _ _).alloc (Nat.le_refl _) _⟩

/-- Ints in a block that was just laid. -/
theorem ints_made (w : World) (g : Nat) (xs : List Int) (t : TypeId) (hg : g < w.heap.size) (h0 : 1 ≤ xs.length) (h1 : xs.length ≤ 1000) (hx : ∀ x ∈ xs, -9223372036854775808 ≤ x ∧ x ≤ 9223372036854775807) :
    Ints (w.alloc (.cells (xs.map (Value.int .i64)).toArray t)) (.slice (some ⟨w.heap.size, 0, none⟩) xs.length xs.length) g xs.length := by
  refine ⟨h0, h1, w.heap.size, by omega, by simp, rfl, fun i hi => ⟨xs[i], ?_, hx _ (List.getElem_mem hi)⟩⟩
  rw [cell_of_row _ _ i _ t (0, 0) (heap_alloc_new w _)]
  simp [hi]

end Go.Proofs.YtlegmiaoablcgaaGreatDoor

/- One byte in a block of its own; flags, one behind the other. -/
namespace Go.Proofs.YtlegmiaoablcgaaGreatDoor
open Go.RowKit

theorem ownB_one (w : World) (B : Nat) (hB : B ≤ w.heap.size) (x : Int) (h : 0 ≤ x ∧ x ≤ 255) : OwnB (w.alloc (.cells #[.int .u8 x] 5)) B (.slice (some ⟨w.heap.size, 0, none⟩) 1 1) [x] := by
  refine ⟨w.heap.size, hB, fun y hy => ?_, .inr ⟨1, #[.int .u8 x], rfl, heap_alloc_new w _, by simp, by unfold maxLen; omega, rfl, rfl⟩⟩
  simp only [List.mem_cons, List.not_mem_nil, or_false] at hy
  subst hy
  omega

theorem flagAt_len (f : Int) (i : Nat) : (flagAt f i).length ≤ 1 := by unfold flagAt; split <;> simp
theorem range5_step (f : Int) (k : Nat) : (List.range (k + 1)).flatMap (flagAt f) = (List.range k).flatMap (flagAt f) ++ flagAt f k := by simp [List.range_succ]

end Go.Proofs.YtlegmiaoablcgaaGreatDoor

/- Rows of bytes of the call's own that may have been made of a string: a mark lies behind their last cell. -/
namespace Go.Proofs.YtlegmiaoablcgaaGreatDoor
open Go.RowKit
set_option linter.unusedVariables false

/-- The slice value v lies at the head of block g, whose first cells are the bytes l; what is marked in the block lies behind its cells, or there is none. -/
def OwnQ (w : World) (g : Nat) (v : Value) (l : List Int) : Prop :=
  Oct l ∧ ∃ cap cur fz, v = .slice (some ⟨g, 0, none⟩) l.length cap ∧ w.heap[g]? = some (.cells cur 5 fz) ∧ (fz.2 = 0 ∨ cap ≤ fz.1) ∧ l.length ≤ cap ∧ cap ≤ maxLen ∧ cur.size = cap ∧ cur.toList.take l.length = vals l

theorem OwnQ.oct {w : World} {g : Nat} {v : Value} {l : List Int} (h : OwnQ w g v l) : Oct l := h.1
theorem OwnQ.lt {w : World} {g : Nat} {v : Value} {l : List Int} (h : OwnQ w g v l) : g < w.heap.size := by
  obtain ⟨_, cap, cur, fz, _, hh, _⟩ := h
  exact lt_of_heap hh
theorem OwnQ.form {w : World} {g : Nat} {v : Value} {l : List Int} (h : OwnQ w g v l) : ∃ cap, v = .slice (some ⟨g, 0, none⟩) l.length cap := by
  obtain ⟨_, cap, _, _, hv, _⟩ := h
  exact ⟨cap, hv⟩
theorem OwnQ.holds {w : World} {g : Nat} {v : Value} {l : List Int} (h : OwnQ w g v l) : ∀ j u, (vals l)[j]? = some u → w.cell? ⟨g, j, none⟩ = some u := by
  obtain ⟨_, cap, cur, fz, _, hh, _, _, _, _, ht⟩ := h
  intro j u hu
  rw [cell_of_row w g j cur _ fz hh]
  rw [← ht, List.getElem?_take] at hu
  split at hu
  · simpa using hu
  · cases hu
theorem OwnQ.bs {w : World} {g : Nat} {v : Value} {l : List Int} (h : OwnQ w g v l) : Bs w v l := by
  have hl := h.lt
  have hc := h.holds
  obtain ⟨ho, cap, cur, fz, hv, hh, _, h1, h2, _⟩ := h
  refine ⟨ho, some ⟨g, 0, none⟩, cap, hv, h1, h2, (fun h => by cases h), fun _ => ⟨g, 0, rfl, hl, fun i hi => ?_⟩⟩
  rw [Nat.zero_add]
  exact hc i _ (vals_get l i hi)
/-- The row stays where its block does. -/
theorem OwnQ.frame {w w' : World} {g : Nat} {v : Value} {l : List Int} (h : OwnQ w g v l) (hw : w'.heap[g]? = w.heap[g]?) : OwnQ w' g v l := by
  obtain ⟨ho, cap, cur, fz, hv, hh, r⟩ := h
  exact ⟨ho, cap, cur, fz, hv, hw.trans hh, r⟩
theorem OwnQ.below {w w' : World} {g : Nat} {v : Value} {l : List Int} (h : OwnQ w g v l) (hb : Below w.heap.size w w') : OwnQ w' g v l := h.frame (hb.block g h.lt)
/-- Bytes that lie in another block than g stay. -/
theorem Bs.grown {w w' : World} {g : Nat} {v : Value} {l : List Int} (h : Bs w v l) (hg : w.grownBy w' (some g)) (hn : v.ownBlock ≠ some g) : Bs w' v l := by
  obtain ⟨ho, a, cap, hv, h1, h2, h3, h4⟩ := h
  refine ⟨ho, a, cap, hv, h1, h2, h3, fun hp => ?_⟩
  obtain ⟨b, off, rfl, hb, hc⟩ := h4 hp
  have hne : some b ≠ some g := by rw [hv] at hn; simpa [Value.ownBlock] using hn
  refine ⟨b, off, rfl, Nat.lt_of_lt_of_le hb hg.size, fun i hi => ?_⟩
  rw [World.cell?_of_block (hg.block b hb hne)]
  exact hc i hi

theorem storeQ (P : Program) (g o : Nat) (t : TypeId) (fz : Nat × Nat) : ∀ (vs : List Value) (i : Nat) (cur : Array Value) (w : World), w.heap[g]? = some (.cells cur t fz) → (fz.2 = 0 ∨ o + i + vs.length ≤ fz.1) → o + i + vs.length ≤ cur.size → (∀ v ∈ vs, v.oneCell' = true) →
    (storeCells ⟨g, o, none⟩ vs i).run P w = .ok () (w.setRow g (cur.toList.take (o + i) ++ vs ++ cur.toList.drop (o + i + vs.length)).toArray) := by
  intro vs
  induction vs with
  | nil =>
    intro i cur w hg _ _ _
    have e : cur.toList.take (o + i) ++ [] ++ cur.toList.drop (o + i + 0) = cur.toList := by simp
    show (storeCells ⟨g, o, none⟩ [] i).run P w = _
    simp only [List.length_nil, e, Array.toArray_toList, storeCells]
    rw [setRow_self w g cur t fz hg]
    rfl
  | cons v rest ih =>
    intro i cur w hg hfz hl h1
    simp only [List.length_cons] at hfz hl
    have hc : w.cell? ⟨g, o + i, none⟩ = some (cur[o + i]'(by omega)) := by rw [cell_of_row w g (o + i) cur t fz hg]; simp [show o + i < cur.size by omega]
    have hf : w.frozen? ⟨g, o + i, none⟩ = false := by
      simp only [World.frozen?, hg, Bool.and_eq_false_iff, decide_eq_false_iff_not]
      rcases hfz with h | h
      · right; omega
      · left; omega
    have hs : (store ((⟨g, o, none⟩ : Addr).add i) v).run P w = .ok () (w.setRow g (cur.setIfInBounds (o + i) v)) := by
      rw [Addr.add_lit, run_store P w _ v _ (h1 v (by simp)), hc]
      simp [hf, setCell_eq_setRow w g (o + i) cur t fz v hg]
    have hr := ih (i + 1) (cur.setIfInBounds (o + i) v) (w.setRow g (cur.setIfInBounds (o + i) v)) (setRow_heap w g cur _ t _ hg) (by omega) (by simp; omega) (fun x hx => h1 x (by simp [hx]))
    simp only [storeCells, Sem.run_bind, hs, Result.andThen_ok, hr, setRow_setRow]
    congr 3
    have e := list_seg_step cur.toList (o + i) v rest (by simp; omega)
    simpa [Array.toList_setIfInBounds, Nat.add_assoc] using e

/-- What append does behind such a row. -/
theorem run_appendQ {P : Program} (w : World) (t ty : TypeId) (i : TypeInfo) (ht : P.underlying t = some (.slice 5)) (hi : P.info? 5 = some i) (hz : i.zero = some (.int .u8 0)) (hsize : i.size = 1) (hby : i.bytes = 1)
    (g : Nat) (v : Value) (l : List Int) (hown : OwnQ w g v l) (u : Value) (m : List Int) (hm : Bs w u m) (hlen : l.length + m.length ≤ 140737488355328) :
    ∃ v' w' g', (Builtin.append_ #[t, t] ty #[v, u]).run P w = .ok v' w' ∧ OwnQ w' g' v' (l ++ m) ∧ w.grownBy w' (some g) ∧ (g' = g ∨ w.heap.size ≤ g') := by
  have hold := hown.holds
  obtain ⟨ho, cap, cur, fz, rfl, hh, hfz, h1, h2, h3, h4⟩ := hown
  obtain ⟨hmo, ad, c, rfl, k1, k2, k3, k4⟩ := hm
  have hlm : (l ++ m).length = l.length + m.length := by simp
  cases ad with
  | none =>
    have : c = 0 := k3 rfl
    subst this
    have hm0 : m = [] := List.eq_nil_of_length_eq_zero (by omega)
    subst hm0
    refine ⟨.slice (some ⟨g, 0, none⟩) l.length cap, w, g, ?_, ⟨by simpa using ho, cap, cur, fz, by simp, hh, hfz, by simpa using h1, h2, h3, by simpa using h4⟩, World.grownBy.refl _ _, .inl rfl⟩
    simp [Builtin.append_, run_underlying ht, sizeOf, typeInfo, hi, Builtin.lenOf, Builtin.firstCells, h1, storeCells]
  | some ad =>
    have hnews : ∀ j u, (vals m)[j]? = some u → w.cell? (ad.add j) = some u := by
      intro j y hy
      have hj : j < m.length := by have := (List.getElem?_eq_some_iff.1 hy).1; simpa [length_vals] using this
      obtain ⟨b, off, had, _, hc⟩ := k4 (by omega)
      cases had
      rw [Addr.add_lit, hc j hj, ← hy, vals_get m j hj]
    by_cases hroom : l.length + m.length ≤ cap
    · have hf := run_firstCells_some (P := P) w i.size m.length ad m.length c (vals m) (by rw [hsize, length_vals, Nat.mul_one]) hnews
      have hst := storeQ P g (l.length * i.size) 5 fz (vals m) 0 cur w hh (by rw [hsize, length_vals]; rcases hfz with h | h <;> omega) (by rw [hsize, length_vals]; omega) (oneCell_vals m)
      rw [hsize] at hf hst
      simp only [Nat.add_zero, Nat.mul_one, length_vals] at hst hf
      refine ⟨.slice (some ⟨g, 0, none⟩) (l.length + m.length) cap, w.setRow g (cur.toList.take l.length ++ vals m ++ cur.toList.drop (l.length + m.length)).toArray, g, ?_, ⟨oct_append ho hmo, cap, _, fz, by rw [hlm], setRow_heap w g cur _ _ _ hh, hfz, by rw [hlm]; exact hroom, h2, ?_, ?_⟩, ⟨rfl, rfl, rfl, by simp, fun k _ hk => setRow_other w g k _ (fun e => hk (by rw [e]))⟩, .inl rfl⟩
      · simp [Builtin.append_, run_underlying ht, sizeOf, typeInfo, hi, hsize, Builtin.lenOf, hroom, hf, Addr.add_lit, hst]
      · simp only [List.size_toArray, List.length_append, List.length_take, List.length_drop, Array.length_toList, length_vals]; omega
      · have hv : (vals l ++ vals m).length = (l ++ m).length := by simp [length_vals]
        show ((cur.toList.take l.length ++ vals m ++ cur.toList.drop (l.length + m.length)).take (l ++ m).length) = _
        rw [h4, vals_append, ← hv]
        exact List.take_left
    · have hr := run_append_grow (P := P) w t ty 5 i (.int .u8 0) ht hi hz ⟨g, 0, none⟩ l.length cap (vals l) (by rw [hsize, length_vals, Nat.mul_one]) (fun j u hu => by rw [Addr.add_lit, Nat.zero_add]; exact hold j u hu) ad m.length c (vals m) (by rw [hsize, length_vals, Nat.mul_one]) hnews (by omega) (by omega) (by rw [hby]; exact growslice_fits (by omega) (by omega))
      have hge := grownCap_ge w (l.length + m.length) cap 5
      have hcm : grownCap w (l.length + m.length) cap 5 ≤ maxLen := grownCap_le_maxLen w (l.length + m.length) cap _ (by unfold maxLen; omega)
      refine ⟨_, _, w.heap.size, hr, ⟨oct_append ho hmo, _, _, (0, 0), by rw [hlm], heap_alloc_new w.drew _, .inl rfl, by rw [hlm]; exact hge, hcm, ?_, ?_⟩, ⟨rfl, rfl, rfl, by simp, fun k hk _ => Below.heap_alloc w.drew _ k hk⟩, .inr (Nat.le_refl _)⟩
      · have hz1 : (Value.int IntKind.u8 0).cells.size = 1 := rfl
        simp only [Array.size_append, List.size_toArray, size_zeroCells, hz1, length_vals]
        omega
      · have hv : (vals l ++ vals m).length = (l ++ m).length := by simp [length_vals]
        simp only [Array.toList_append, List.append_assoc]
        rw [← List.append_assoc, vals_append, ← hv]
        exact List.take_left

theorem wpList_appendQ {P : Program} {w : World} {ops : Array Oper} {rest : List Oper} {o : Oper} {a : Act} {Q : Exit → Act → World → Prop} (hgd : o.guard = none) (s x : Operand) (t : TypeId)
    (ho : o.op = .call { callee := .builtin .append, args := #[s, x], argTypes := #[t, t] })
    (i : TypeInfo) (ht : P.underlying t = some (.slice 5)) (hi : P.info? 5 = some i) (hz : i.zero = some (.int .u8 0)) (hsize : i.size = 1) (hby : i.bytes = 1)
    (g : Nat) (v : Value) (l : List Int) (hs : a.eval s = v) (hown : OwnQ w g v l) (u : Value) (m : List Int) (hx : a.eval x = u) (hm : Bs w u m) (hlen : l.length + m.length ≤ 140737488355328)
    (h : ∀ v' w' g', OwnQ w' g' v' (l ++ m) → w.grownBy w' (some g) → (g' = g ∨ w.heap.size ≤ g') → wpList P ops Q rest (a.put o.dst v') w') : wpList P ops Q (o :: rest) a w := by
  refine wpList_plain hgd fun K hK => ?_
  obtain ⟨v', w', g', hr, h2, h3, h4⟩ := run_appendQ (P := P) w t o.type i ht hi hz hsize hby g v l hown u m hm hlen
  unfold Oper.wp execOp
  simp only [ho, resolve, invoke, builtin, Sem.run_bind, Sem.run_pure, Result.andThen_ok, List.map_toArray, List.map_cons, List.map_nil, hs, hx, hr]
  exact hK _ _ (h v' w' g' h2 h3 h4)

/-- What '[]byte(s)' answers. -/
theorem bytesWorldQ (w : World) (s : List Int) (hs : Oct s) (hl : s.length ≤ 1000000) :
    OwnQ (Lib.bytesWorld w 5 (strOfNums s)) w.heap.size (.slice (some ⟨w.heap.size, 0, none⟩) s.length (grownCap w s.length 0 5)) s ∧ Below w.heap.size w (Lib.bytesWorld w 5 (strOfNums s)) := by
  have hge := grownCap_ge w s.length 0 5
  have hcm : grownCap w s.length 0 5 ≤ maxLen := grownCap_le_maxLen w s.length 0 _ (by unfold maxLen; omega)
  have hsz := strOfNums_size s
  have hcs : (Lib.bytesCells w 5 (strOfNums s)).size = grownCap w s.length 0 5 := by
    have : (strOfNums s).data.size = s.length := hsz
    simp only [Lib.bytesCells, Array.size_append, Array.size_map, Array.size_replicate, this, hsz]
    omega
  refine ⟨⟨hs, _, _, _, rfl, Lib.bytesWorld_at_new w _ _, .inr (Nat.le_of_eq hcs.symm), hge, hcm, hcs, ?_⟩, rfl, rfl, rfl, by rw [Lib.bytesWorld_size]; omega, fun k hk => Lib.bytesWorld_at_old w _ _ k hk⟩
  have e : ((strOfNums s).data.map fun b => Value.int .u8 b.toNat).toList = vals s := (by rw [Array.toList_map]; exact strCells_nums hs)
  have hv : (vals s).length = s.length := length_vals s
  simp only [Lib.bytesCells, Array.toList_append]
  rw [e, ← hv]
  exact List.take_left

end Go.Proofs.YtlegmiaoablcgaaGreatDoor

/- What l4word of package spec does behind bytes that may have been made of a string. -/
namespace Go.Proofs.YtlegmiaoablcgaaGreatDoor
open Go.RowKit
set_option maxRecDepth 100000
set_option linter.unusedVariables false

theorem grow_trans {w w1 w2 : World} {g g2 : Nat} (h : w.grownBy w1 (some g)) (k : w1.grownBy w2 (some g2)) (hg : g2 = g ∨ w.heap.size ≤ g2) : w.grownBy w2 (some g) :=
  ⟨k.os.trans h.os, k.tape.trans h.tape, k.output.trans h.output, Nat.le_trans h.size k.size, fun b hb hn => (k.block b (Nat.lt_of_lt_of_le hb h.size) (by rcases hg with rfl | hg; exact hn; simp; omega)).trans (h.block b hb hn)⟩
theorem grow_below {w w' : World} (h : Below w.heap.size w w') (g : Option Nat) : w.grownBy w' g := ⟨h.os, h.tape, h.output, h.size, fun b hb _ => h.block b hb⟩

set_option maxRecDepth 100000 in
set_option maxHeartbeats 1000000 in
theorem l4word_q (g : Nat) (v wv : Value) (l wd : List Int) (w : World) (hv : OwnQ w g v l) (hs : Bs w wv wd) (hn : wv.ownBlock ≠ some g) (h0 : 0 < l.length) (hl : l.length ≤ 1000000) (hwl : wd.length ≤ 1000000) :
    Calls Tryz.prog 53 #[v, wv] w fun e w' => ∃ u g', e = .returned u ∧ OwnQ w' g' u (l ++ [32] ++ wd) ∧ w.grownBy w' (some g) ∧ (g' = g ∨ w.heap.size ≤ g') := by
  have HN : Hid (wv.ownBlock ≠ some g) := hn
  obtain ⟨wa, wn, wc, rfl⟩ := hs.form3
  obtain ⟨cap, rfl⟩ := hv.form
  have h0' : (0 : Int) < (l.length : Int) := by omega
  have AB : Below w.heap.size w (w.alloc (.cells #[.int .u8 32] 5)) := (Below.refl _ _).alloc (Nat.le_refl _) _
  have HA : Hid (w.grownBy (w.alloc (.cells #[.int .u8 32] 5)) (some g)) := grow_below AB _
  have HOA : Hid (OwnQ (w.alloc (.cells #[.int .u8 32] 5)) g (.slice (some ⟨g, 0, none⟩) l.length cap) l) := hv.below AB
  have HSA : Hid (Bs (w.alloc (.cells #[.int .u8 32] 5)) (.slice wa wn wc) wd) := hs.below AB
  clear hv hs AB hn
  obtain ⟨i0, hi, hz0, hz1, hz2⟩ := info_parts info5
  go_enter Tryz.func53, Tryz.ntmps53
  go_wp2_with (at_builtin; refine wpList_appendQ rfl (.tmp 8) (.tmp 9) 22 rfl i0 Tryz.underlying22 hi hz0 hz1 hz2 g _ _ rfl HOA.out _ [32] rfl (bs_one _ _ (by omega)) (by simp only [List.length_cons, List.length_nil]; omega) ?_)
  intro v2 w2 g2 hO2 hG2 hg2
  have HO2 : Hid (OwnQ w2 g2 v2 (l ++ [32])) := by simpa [Hid] using hO2
  have HG : Hid (g2 = g ∨ w.heap.size ≤ g2) := by
    rcases hg2 with h | h
    · exact .inl h
    · right; (first | omega | (simp at h; omega))
  have HT2 : Hid (w.grownBy w2 (some g)) := grow_trans HA.out hG2 (.inl rfl)
  have HW : Hid (Bs w2 (.slice wa wn wc) wd) := HSA.out.grown hG2 HN.out
  clear hO2 hG2 hg2 HA HOA HSA
  go_wp2_with (at_builtin; refine wpList_appendQ rfl (.tmp 11) (.tmp 12) 22 rfl i0 Tryz.underlying22 hi hz0 hz1 hz2 g2 _ _ rfl HO2.out _ wd rfl HW.out (by simp only [List.length_append, List.length_cons, List.length_nil]; omega) ?_)
  intro v3 w3 g3 hO3 hG3 hg3
  have HO3 : Hid (OwnQ w3 g3 v3 (l ++ [32] ++ wd)) := by simpa [Hid] using hO3
  have HT3 : Hid (w.grownBy w3 (some g)) := grow_trans HT2.out hG3 HG.out
  have HG3 : Hid (g3 = g ∨ w.heap.size ≤ g3) := by
    have hs2 := HT2.out.size
    rcases hg3 with h | h
    · rw [h]; exact HG.out
    · right; omega
  clear hO3 hG3 hg3 HT2 HO2 HW HG
  go_wp2
  go_ret
  exact ⟨_, _, rfl, HO3.out, HT3.out, HG3.out⟩

end Go.Proofs.YtlegmiaoablcgaaGreatDoor

/- What l4digits, l4quoted, l4flags of package spec do. -/
namespace Go.Proofs.YtlegmiaoablcgaaGreatDoor
open Go.RowKit
set_option maxRecDepth 100000
set_option linter.unusedVariables false

set_option maxRecDepth 100000 in
set_option maxHeartbeats 1000000 in
theorem l4digits_r (n : Nat) (hn : n ≤ 9999999) (w : World) :
    Calls Tryz.prog 56 #[.int .i64 n] w fun e w' => ∃ u, e = .returned u ∧ OwnB w' w.heap.size u (digB n) ∧ Below w.heap.size w w' := by
  induction n using Nat.strongRecOn generalizing w with
  | ind n ih =>
    obtain ⟨i0, hi, hz0, hz1, hz2⟩ := info_parts info5
    by_cases h : n < 10
    · have h' : (n : Int) < 10 := by omega
      have HO : Hid (OwnB (w.alloc (.cells #[.int .u8 (48 + (n : Int))] 5)) w.heap.size (.slice (some ⟨w.heap.size, 0, none⟩) 1 1) (digB n)) := by rw [digB_small h]; exact ownB_one w _ (Nat.le_refl _) _ (by omega)
      clear ih
      go_enter Tryz.func56, Tryz.ntmps56
      go_wp2
      go_ret
      exact ⟨_, rfl, HO.out, (Below.refl _ _).alloc (Nat.le_refl _) _⟩
    · have h' : ¬ (n : Int) < 10 := by omega
      have hq : (n : Int) / 10 = ((n / 10 : Nat) : Int) := by omega
      have hr : (n : Int) % 10 = ((n % 10 : Nat) : Int) := by omega
      have HD : Hid (digB n = digB (n / 10) ++ [48 + ((n % 10 : Nat) : Int)]) := digB_big h
      have hc := ih (n / 10) (by omega) (by omega) w
      have hlen := digB_len10 (show n / 10 ≤ 9999999 by omega)
      clear ih
      generalize hQ : n / 10 = Q at hq hc HD hlen
      generalize hR : n % 10 = R at hr HD
      have hRb : R < 10 := by omega
      go_enter Tryz.func56, Tryz.ntmps56
      go_wp2_with fail
      refine hc.mono ?_
      rintro e w1 ⟨u1, rfl, O1, B1⟩
      have s1 := B1.size
      have HO : Hid (OwnB w1 w.heap.size u1 (digB Q)) := O1
      have HB : Hid (Below w.heap.size w w1) := B1
      clear O1 B1 hc
      go_wp2_with (at_builtin; refine wpList_append_bytes rfl (.tmp 11) (.tmp 16) 22 rfl i0 Tryz.underlying22 hi hz0 hz1 hz2 w.heap.size _ _ rfl (HO.out.alloc _) _ [48 + (R : Int)] rfl (bs_one _ _ (by omega)) (by simp; omega) (by simp; omega) w (HB.out.alloc s1 _) ?_)
      intro v2 w2 hO2 hB2 _
      have HO2 : Hid (OwnB w2 w.heap.size v2 (digB n)) := by rw [HD.out]; exact hO2
      clear hO2
      go_wp2
      go_ret
      exact ⟨_, rfl, HO2.out, hB2⟩

set_option maxHeartbeats 1000000 in
theorem l4quoted_r (v : Value) (t : List Int) (w : World) (hv : Bs w v t) (ht : t.length ≤ 2000000) :
    Calls Tryz.prog 55 #[v] w fun e w' => ∃ u, e = .returned u ∧ OwnB w' w.heap.size u (quoB t) ∧ Below w.heap.size w w' := by
  have HV : Hid (∀ wi, Below w.heap.size w wi → Bs wi v t) := fun wi h => hv.below h
  obtain ⟨ho, a, cap, rfl, hlc, hcm, -⟩ := hv
  unfold maxLen at hcm
  obtain ⟨i0, hi, hz0, hz1, hz2⟩ := info_parts info5
  have H0 : Hid (OwnB (w.alloc (.cells #[.int .u8 34] 5)) w.heap.size (.slice (some ⟨w.heap.size, 0, none⟩) 1 1) ([34] ++ (t.take 0).flatMap escB)) := by simpa [Hid] using ownB_one w _ (Nat.le_refl _) 34 (by omega)
  have HB : Hid (Below w.heap.size w (w.alloc (.cells #[.int .u8 34] 5))) := (Below.refl _ _).alloc (Nat.le_refl _) _
  go_enter Tryz.func55, Tryz.ntmps55
  go_wp2
  go_loopw [3, 4] (fun b i wr => ∃ k : Nat, k ≤ t.length ∧ i = .int .i64 k ∧ Hid (OwnB wr w.heap.size b ([34] ++ (t.take k).flatMap escB)) ∧ Hid (Below w.heap.size w wr)) (fun _ i _ => t.length - (intOf i).toNat)
  case atStart => exact ⟨0, Nat.zero_le _, rfl, H0, HB⟩
  case round =>
    clear H0 HB
    obtain ⟨k, hk, rfl, hO, hB⟩ := hrel
    have hsz := hB.out.size
    have hfl := flat_len escB 2 (t.take k) (fun x _ => escB_len x)
    have htk : (t.take k).length ≤ 2000000 := by simp; omega
    by_cases hlt : k < t.length
    · obtain ⟨x, hx⟩ : ∃ x, t[k]? = some x := ⟨t[k], List.getElem?_eq_getElem hlt⟩
      have hxo : 0 ≤ x ∧ x ≤ 255 := ho x (List.mem_of_getElem? hx)
      have HST : Hid ((t.take (k + 1)).flatMap escB = (t.take k).flatMap escB ++ escB x) := flat_step escB hx
      obtain ⟨ho', a', cap', hv', -, -, -, hcells⟩ := HV.out wr hB.out
      simp only [Value.slice.injEq, true_and] at hv'
      obtain ⟨rfl, rfl⟩ := hv'
      obtain ⟨b, off, rfl, hlb, hc⟩ := hcells (by omega)
      have d0 := hc k hlt
      rw [List.getD_eq_getElem?_getD, hx, Option.getD_some] at d0
      clear hcells hc ho'
      by_cases he : x = 34 ∨ x = 92
      · have HE : Hid (escB x = [92, x]) := by simp only [Hid, escB, if_pos he]
        rcases he with rfl | rfl
        all_goals
          go_wp2_with (at_builtin; refine wpList_append_bytes rfl (.tmp 24) (.tmp 25) 22 rfl i0 Tryz.underlying22 hi hz0 hz1 hz2 w.heap.size _ _ rfl (hO.out.alloc _) _ [92] rfl (bs_one _ _ (by omega)) (by simp only [List.length_append, List.length_cons, List.length_nil]; omega) (by simp; omega) w (hB.out.alloc hsz _) ?_)
          intro v2 w2 hO2 hB2 _
          have s2 := hB2.size
          have HO2 : Hid (OwnB w2 w.heap.size v2 ([34] ++ (t.take k).flatMap escB ++ [92])) := by simpa [Hid] using hO2
          obtain ⟨_, a', cap', hv', -, -, -, hcells⟩ := HV.out w2 hB2
          simp only [Value.slice.injEq, true_and] at hv'
          obtain ⟨rfl, rfl⟩ := hv'
          obtain ⟨b2, off2, hb2, hlb2, hc2⟩ := hcells (by omega)
          simp only [Option.some.injEq, Addr.mk.injEq, and_true] at hb2
          obtain ⟨rfl, rfl⟩ := hb2
          have d2 := hc2 k hlt
          rw [List.getD_eq_getElem?_getD, hx, Option.getD_some] at d2
          clear hO2 d0 hcells hc2 hO hB hlb
          go_wp2_with (at_builtin; refine wpList_append_bytes rfl (.tmp 27) (.tmp 32) 22 rfl i0 Tryz.underlying22 hi hz0 hz1 hz2 w.heap.size _ _ rfl (HO2.out.alloc _) _ _ rfl (bs_one _ _ (by omega)) (by simp only [List.length_append, List.length_cons, List.length_nil]; omega) (by simp; omega) w (hB2.alloc s2 _) ?_)
          intro v3 w3 hO3 hB3 _
          have HO3 : Hid (OwnB w3 w.heap.size v3 ([34] ++ (t.take (k + 1)).flatMap escB)) := by
            rw [HST.out, HE.out]
            simpa [Hid, show List.range 1 = [0] from rfl, show List.range 2 = [0, 1] from rfl, show List.range 3 = [0, 1, 2] from rfl, show List.range 4 = [0, 1, 2, 3] from rfl] using hO3
          clear hO3
          go_wp2
          go_roundw
          case rel => exact ⟨k + 1, by omega, by go_num, HO3, hB3⟩
          case measure => simp [intOf]; omega
      · have HE : Hid (escB x = [x]) := by simp only [Hid, escB, if_neg he]
        have h34 : x ≠ 34 := by omega
        have h92 : x ≠ 92 := by omega
        have b34 : (x == 34) = false := by simp [h34]
        have b92 : (x == 92) = false := by simp [h92]
        go_wp2_with (at_builtin; refine wpList_append_bytes rfl (.tmp 27) (.tmp 32) 22 rfl i0 Tryz.underlying22 hi hz0 hz1 hz2 w.heap.size _ _ rfl (hO.out.alloc _) _ [x] rfl (bs_one _ _ (by omega)) (by simp only [List.length_append, List.length_cons, List.length_nil]; omega) (by simp; omega) w (hB.out.alloc hsz _) ?_)
        intro v3 w3 hO3 hB3 _
        have HO3 : Hid (OwnB w3 w.heap.size v3 ([34] ++ (t.take (k + 1)).flatMap escB)) := by
          rw [HST.out, HE.out]
          simpa [Hid] using hO3
        clear hO3
        go_wp2
        go_roundw
        case rel => exact ⟨k + 1, by omega, by go_num, HO3, hB3⟩
        case measure => simp [intOf]; omega
    · obtain rfl : k = t.length := by omega
      go_wp2_with (at_builtin; refine wpList_append_bytes rfl (.tmp 34) (.tmp 35) 22 rfl i0 Tryz.underlying22 hi hz0 hz1 hz2 w.heap.size _ _ rfl (hO.out.alloc _) _ [34] rfl (bs_one _ _ (by omega)) (by simp only [List.length_append, List.length_cons, List.length_nil]; omega) (by simp; omega) w (hB.out.alloc hsz _) ?_)
      intro v2 w2 hO2 hB2 _
      have HO2 : Hid (OwnB w2 w.heap.size v2 (quoB t)) := by simpa [Hid, quoB] using hO2
      clear hO2
      go_wp2
      go_ret
      exact ⟨_, rfl, HO2.out, hB2⟩

theorem bit_one : ∀ x : Nat, x ≤ 31 → (bits BinOp.and IntKind.i64 (x : Int) 1 == 1) = decide (x % 2 = 1) := by
  intro x hx
  have h : ∀ x : Fin 32, (bits BinOp.and IntKind.i64 ((x : Nat) : Int) 1 == 1) = decide ((x : Nat) % 2 = 1) := by decide +kernel
  exact h ⟨x, by omega⟩
set_option maxRecDepth 100000 in
set_option maxHeartbeats 1000000 in
theorem l4flags_r (f : Nat) (hf : f ≤ 31) (w : World) :
    Calls Tryz.prog 54 #[.int .i64 f] w fun e w' => ∃ u, e = .returned u ∧ OwnB w' w.heap.size u (flagsB f) ∧ Below w.heap.size w w' := by
  obtain ⟨i0, hi, hz0, hz1, hz2⟩ := info_parts info5
  have H0 : Hid (OwnB (w.alloc (.cells #[.int .u8 40] 5)) w.heap.size (.slice (some ⟨w.heap.size, 0, none⟩) 1 1) ([40] ++ (List.range 0).flatMap (flagAt f))) := by simpa [Hid] using ownB_one w _ (Nat.le_refl _) 40 (by omega)
  have HB : Hid (Below w.heap.size w (w.alloc (.cells #[.int .u8 40] 5))) := (Below.refl _ _).alloc (Nat.le_refl _) _
  go_enter Tryz.func54, Tryz.ntmps54
  go_wp2
  go_loopw [3, 4] (fun b i wr => ∃ k : Nat, k ≤ 5 ∧ i = .int .i64 k ∧ Hid (OwnB wr w.heap.size b ([40] ++ (List.range k).flatMap (flagAt f))) ∧ Hid (Below w.heap.size w wr)) (fun _ i _ => 5 - (intOf i).toNat)
  case atStart => exact ⟨0, Nat.zero_le _, rfl, H0, HB⟩
  case round =>
    clear H0 HB
    obtain ⟨k, hk, rfl, hO, hB⟩ := hrel
    have hsz := hB.out.size
    have hfl := flat_len (flagAt f) 1 (List.range k) (fun x _ => flagAt_len f x)
    simp only [List.length_range] at hfl
    by_cases hlt : k < 5
    · have HST : Hid ((List.range (k + 1)).flatMap (flagAt f) = (List.range k).flatMap (flagAt f) ++ flagAt f k) := range5_step f k
      have hsmall : ∀ P : Nat, 0 < P → f / P ≤ 31 := fun P hp => Nat.le_trans (Nat.div_le_self _ _) hf
      obtain rfl | rfl | rfl | rfl | rfl : k = 0 ∨ k = 1 ∨ k = 2 ∨ k = 3 ∨ k = 4 := by omega
      · have hE : flagAt f 0 = (if f % 2 = 1 then [83] else []) := by simp [flagAt, letB]
        have hb : (bits BinOp.and IntKind.i64 (f : Int) 1 == 1) = decide (f % 2 = 1) := by
          have h := bit_one (f) (hf)
          simpa using h
        by_cases hc : f % 2 = 1
        · rw [if_pos hc] at hE
          rw [decide_eq_true hc] at hb
          have HE : Hid (flagAt f 0 = [83]) := hE
          clear hE
          go_wp2_with (at_builtin; refine wpList_append_bytes rfl (.tmp 15) (.tmp 18) 22 rfl i0 Tryz.underlying22 hi hz0 hz1 hz2 w.heap.size _ _ rfl (hO.out.alloc _) _ [83] rfl (bs_one _ 83 (by omega)) (by simp only [List.length_append, List.length_cons, List.length_nil]; omega) (by simp; omega) w (hB.out.alloc hsz _) ?_)
          intro v3 w3 hO3 hB3 _
          have HO3 : Hid (OwnB w3 w.heap.size v3 ([40] ++ (List.range (0 + 1)).flatMap (flagAt f))) := by
            rw [HST.out, HE.out]
            simpa [Hid, show List.range 1 = [0] from rfl, show List.range 2 = [0, 1] from rfl, show List.range 3 = [0, 1, 2] from rfl, show List.range 4 = [0, 1, 2, 3] from rfl] using hO3
          clear hO3
          go_wp2
          go_roundw
          case rel => exact ⟨0 + 1, by omega, by go_num, HO3, hB3⟩
          case measure => simp [intOf]
        · rw [if_neg hc] at hE
          rw [decide_eq_false hc] at hb
          have HEQ : Hid ([40] ++ (List.range 0).flatMap (flagAt f) = [40] ++ (List.range (0 + 1)).flatMap (flagAt f)) := by rw [Hid, HST.out, hE, List.append_nil]
          clear hE
          go_wp2
          go_roundw
          case rel => exact ⟨0 + 1, by omega, by go_num, by rw [← HEQ.out]; exact hO, hB⟩
          case measure => simp [intOf]
      · have hE : flagAt f 1 = (if f / 2 % 2 = 1 then [65] else []) := by simp [flagAt, letB]
        have hb : (bits BinOp.and IntKind.i64 ((f : Int) / 2) 1 == 1) = decide (f / 2 % 2 = 1) := by
          have h := bit_one (f / 2) (hsmall 2 (by omega))
          simpa using h
        by_cases hc : f / 2 % 2 = 1
        · rw [if_pos hc] at hE
          rw [decide_eq_true hc] at hb
          have HE : Hid (flagAt f 1 = [65]) := hE
          clear hE
          go_wp2_with (at_builtin; refine wpList_append_bytes rfl (.tmp 15) (.tmp 18) 22 rfl i0 Tryz.underlying22 hi hz0 hz1 hz2 w.heap.size _ _ rfl (hO.out.alloc _) _ [65] rfl (bs_one _ 65 (by omega)) (by simp only [List.length_append, List.length_cons, List.length_nil]; omega) (by simp; omega) w (hB.out.alloc hsz _) ?_)
          intro v3 w3 hO3 hB3 _
          have HO3 : Hid (OwnB w3 w.heap.size v3 ([40] ++ (List.range (1 + 1)).flatMap (flagAt f))) := by
            rw [HST.out, HE.out]
            simpa [Hid, show List.range 1 = [0] from rfl, show List.range 2 = [0, 1] from rfl, show List.range 3 = [0, 1, 2] from rfl, show List.range 4 = [0, 1, 2, 3] from rfl] using hO3
          clear hO3
          go_wp2
          go_roundw
          case rel => exact ⟨1 + 1, by omega, by go_num, HO3, hB3⟩
          case measure => simp [intOf]
        · rw [if_neg hc] at hE
          rw [decide_eq_false hc] at hb
          have HEQ : Hid ([40] ++ (List.range 1).flatMap (flagAt f) = [40] ++ (List.range (1 + 1)).flatMap (flagAt f)) := by rw [Hid, HST.out, hE, List.append_nil]
          clear hE
          go_wp2
          go_roundw
          case rel => exact ⟨1 + 1, by omega, by go_num, by rw [← HEQ.out]; exact hO, hB⟩
          case measure => simp [intOf]
      · have hE : flagAt f 2 = (if f / 4 % 2 = 1 then [70] else []) := by simp [flagAt, letB]
        have hb : (bits BinOp.and IntKind.i64 ((f : Int) / 4) 1 == 1) = decide (f / 4 % 2 = 1) := by
          have h := bit_one (f / 4) (hsmall 4 (by omega))
          simpa using h
        by_cases hc : f / 4 % 2 = 1
        · rw [if_pos hc] at hE
          rw [decide_eq_true hc] at hb
          have HE : Hid (flagAt f 2 = [70]) := hE
          clear hE
          go_wp2_with (at_builtin; refine wpList_append_bytes rfl (.tmp 15) (.tmp 18) 22 rfl i0 Tryz.underlying22 hi hz0 hz1 hz2 w.heap.size _ _ rfl (hO.out.alloc _) _ [70] rfl (bs_one _ 70 (by omega)) (by simp only [List.length_append, List.length_cons, List.length_nil]; omega) (by simp; omega) w (hB.out.alloc hsz _) ?_)
          intro v3 w3 hO3 hB3 _
          have HO3 : Hid (OwnB w3 w.heap.size v3 ([40] ++ (List.range (2 + 1)).flatMap (flagAt f))) := by
            rw [HST.out, HE.out]
            simpa [Hid, show List.range 1 = [0] from rfl, show List.range 2 = [0, 1] from rfl, show List.range 3 = [0, 1, 2] from rfl, show List.range 4 = [0, 1, 2, 3] from rfl] using hO3
          clear hO3
          go_wp2
          go_roundw
          case rel => exact ⟨2 + 1, by omega, by go_num, HO3, hB3⟩
          case measure => simp [intOf]
        · rw [if_neg hc] at hE
          rw [decide_eq_false hc] at hb
          have HEQ : Hid ([40] ++ (List.range 2).flatMap (flagAt f) = [40] ++ (List.range (2 + 1)).flatMap (flagAt f)) := by rw [Hid, HST.out, hE, List.append_nil]
          clear hE
          go_wp2
          go_roundw
          case rel => exact ⟨2 + 1, by omega, by go_num, by rw [← HEQ.out]; exact hO, hB⟩
          case measure => simp [intOf]
      · have hE : flagAt f 3 = (if f / 8 % 2 = 1 then [68] else []) := by simp [flagAt, letB]
        have hb : (bits BinOp.and IntKind.i64 ((f : Int) / 8) 1 == 1) = decide (f / 8 % 2 = 1) := by
          have h := bit_one (f / 8) (hsmall 8 (by omega))
          simpa using h
        by_cases hc : f / 8 % 2 = 1
        · rw [if_pos hc] at hE
          rw [decide_eq_true hc] at hb
          have HE : Hid (flagAt f 3 = [68]) := hE
          clear hE
          go_wp2_with (at_builtin; refine wpList_append_bytes rfl (.tmp 15) (.tmp 18) 22 rfl i0 Tryz.underlying22 hi hz0 hz1 hz2 w.heap.size _ _ rfl (hO.out.alloc _) _ [68] rfl (bs_one _ 68 (by omega)) (by simp only [List.length_append, List.length_cons, List.length_nil]; omega) (by simp; omega) w (hB.out.alloc hsz _) ?_)
          intro v3 w3 hO3 hB3 _
          have HO3 : Hid (OwnB w3 w.heap.size v3 ([40] ++ (List.range (3 + 1)).flatMap (flagAt f))) := by
            rw [HST.out, HE.out]
            simpa [Hid, show List.range 1 = [0] from rfl, show List.range 2 = [0, 1] from rfl, show List.range 3 = [0, 1, 2] from rfl, show List.range 4 = [0, 1, 2, 3] from rfl] using hO3
          clear hO3
          go_wp2
          go_roundw
          case rel => exact ⟨3 + 1, by omega, by go_num, HO3, hB3⟩
          case measure => simp [intOf]
        · rw [if_neg hc] at hE
          rw [decide_eq_false hc] at hb
          have HEQ : Hid ([40] ++ (List.range 3).flatMap (flagAt f) = [40] ++ (List.range (3 + 1)).flatMap (flagAt f)) := by rw [Hid, HST.out, hE, List.append_nil]
          clear hE
          go_wp2
          go_roundw
          case rel => exact ⟨3 + 1, by omega, by go_num, by rw [← HEQ.out]; exact hO, hB⟩
          case measure => simp [intOf]
      · have hE : flagAt f 4 = (if f / 16 % 2 = 1 then [82] else []) := by simp [flagAt, letB]
        have hb : (bits BinOp.and IntKind.i64 ((f : Int) / 16) 1 == 1) = decide (f / 16 % 2 = 1) := by
          have h := bit_one (f / 16) (hsmall 16 (by omega))
          simpa using h
        by_cases hc : f / 16 % 2 = 1
        · rw [if_pos hc] at hE
          rw [decide_eq_true hc] at hb
          have HE : Hid (flagAt f 4 = [82]) := hE
          clear hE
          go_wp2_with (at_builtin; refine wpList_append_bytes rfl (.tmp 15) (.tmp 18) 22 rfl i0 Tryz.underlying22 hi hz0 hz1 hz2 w.heap.size _ _ rfl (hO.out.alloc _) _ [82] rfl (bs_one _ 82 (by omega)) (by simp only [List.length_append, List.length_cons, List.length_nil]; omega) (by simp; omega) w (hB.out.alloc hsz _) ?_)
          intro v3 w3 hO3 hB3 _
          have HO3 : Hid (OwnB w3 w.heap.size v3 ([40] ++ (List.range (4 + 1)).flatMap (flagAt f))) := by
            rw [HST.out, HE.out]
            simpa [Hid, show List.range 1 = [0] from rfl, show List.range 2 = [0, 1] from rfl, show List.range 3 = [0, 1, 2] from rfl, show List.range 4 = [0, 1, 2, 3] from rfl] using hO3
          clear hO3
          go_wp2
          go_roundw
          case rel => exact ⟨4 + 1, by omega, by go_num, HO3, hB3⟩
          case measure => simp [intOf]
        · rw [if_neg hc] at hE
          rw [decide_eq_false hc] at hb
          have HEQ : Hid ([40] ++ (List.range 4).flatMap (flagAt f) = [40] ++ (List.range (4 + 1)).flatMap (flagAt f)) := by rw [Hid, HST.out, hE, List.append_nil]
          clear hE
          go_wp2
          go_roundw
          case rel => exact ⟨4 + 1, by omega, by go_num, by rw [← HEQ.out]; exact hO, hB⟩
          case measure => simp [intOf]
    · obtain rfl : k = 5 := by omega
      go_wp2_with (at_builtin; refine wpList_append_bytes rfl (.tmp 20) (.tmp 21) 22 rfl i0 Tryz.underlying22 hi hz0 hz1 hz2 w.heap.size _ _ rfl (hO.out.alloc _) _ _ rfl (bs_one _ _ (by omega)) (by simp only [List.length_append, List.length_cons, List.length_nil]; omega) (by simp; omega) w (hB.out.alloc hsz _) ?_)
      intro v2 w2 hO2 hB2 _
      have HO2 : Hid (OwnB w2 w.heap.size v2 (flagsB f)) := by simpa [Hid, flagsB, show List.range 5 = [0, 1, 2, 3, 4] from rfl] using hO2
      clear hO2
      go_wp2
      go_ret
      exact ⟨_, rfl, HO2.out, hB2⟩

end Go.Proofs.YtlegmiaoablcgaaGreatDoor

/- What l4kind of package spec does. -/
namespace Go.Proofs.YtlegmiaoablcgaaGreatDoor
open Go.RowKit
set_option maxRecDepth 100000
set_option linter.unusedVariables false

set_option maxRecDepth 100000 in
set_option maxHeartbeats 2000000 in
theorem l4kind_r (k : Int) (h : 0 ≤ k ∧ k ≤ 9) (w : World) :
    Calls Tryz.prog 52 #[.int .i64 k] w fun e w' => e = .returned (.string (strOfNums (kindW k))) ∧ Below w.heap.size w w' := by
  have hk : k = 0 ∨ k = 1 ∨ k = 2 ∨ k = 3 ∨ k = 4 ∨ k = 5 ∨ k = 6 ∨ k = 7 ∨ k = 8 ∨ k = 9 := by omega
  rcases hk with rfl | rfl | rfl | rfl | rfl | rfl | rfl | rfl | rfl | rfl
  all_goals
    go_enter Tryz.func52, Tryz.ntmps52
    go_wp2
    go_ret
    exact ⟨rfl, (Below.refl _ _).alloc (Nat.le_refl _) _⟩

end Go.Proofs.YtlegmiaoablcgaaGreatDoor

/- What the words of a line may be. -/
namespace Go.Proofs.YtlegmiaoablcgaaGreatDoor
open Go.RowKit

theorem digB_oct (n : Nat) : Oct (digB n) := ofU8_oct _
theorem flagsB_oct (f : Int) : Oct (flagsB f) := by
  intro y hy
  simp only [flagsB, List.mem_append, List.mem_cons, List.not_mem_nil, or_false, List.mem_flatMap, List.mem_range] at hy
  rcases hy with (rfl | ⟨i, hi, hy⟩) | rfl
  · omega
  · unfold flagAt at hy
    split at hy
    · simp only [List.mem_cons, List.not_mem_nil, or_false] at hy
      subst hy
      unfold letB
      split <;> omega
    · cases hy
  · omega
theorem flagsB_len (f : Int) : (flagsB f).length ≤ 7 := by
  have := flat_len (flagAt f) 1 (List.range 5) (fun x _ => flagAt_len f x)
  simp only [flagsB, List.length_append, List.length_cons, List.length_nil, List.length_range] at *
  omega
theorem quoB_oct {t : List Int} (h : Oct t) : Oct (quoB t) := by
  intro y hy
  simp only [quoB, List.mem_append, List.mem_cons, List.not_mem_nil, or_false, List.mem_flatMap] at hy
  rcases hy with (rfl | ⟨i, hi, hy⟩) | rfl
  · omega
  · have := h i hi
    unfold escB at hy
    split at hy <;> simp only [List.mem_cons, List.not_mem_nil, or_false] at hy <;> omega
  · omega
theorem quoB_len (t : List Int) : (quoB t).length ≤ 2 * t.length + 2 := by
  have := flat_len escB 2 t (fun x _ => escB_len x)
  simp only [quoB, List.length_append, List.length_cons, List.length_nil]
  omega

end Go.Proofs.YtlegmiaoablcgaaGreatDoor

/- A text that grows word by word: what is kept of it. -/
namespace Go.Proofs.YtlegmiaoablcgaaGreatDoor
open Go.RowKit
set_option linter.unusedVariables false

theorem bx3s {w : World} {g : Nat} {t : TypeId} {c0 c1 c2 : Value} (h : w.heap[g]? = some (.cells #[c0, c1, c2] t (0, 0))) : w.cell? ⟨g, 0, none⟩ = some c0 ∧ w.cell? ⟨g, 1, none⟩ = some c1 ∧ w.cell? ⟨g, 2, none⟩ = some c2 :=
  ⟨by rw [cell_of_row w g 0 _ t (0, 0) h]; rfl, by rw [cell_of_row w g 1 _ t (0, 0) h]; rfl, by rw [cell_of_row w g 2 _ t (0, 0) h]; rfl⟩

/-- The text v lies in block g, made behind A; all that A had is as it was. -/
def St (A wx : World) (g : Nat) (v : Value) (L : List Int) (n : Nat) : Prop := A.heap.size ≤ g ∧ OwnQ wx g v L ∧ Below A.heap.size A wx ∧ 0 < L.length ∧ L.length ≤ n
theorem St.own {A wx : World} {g : Nat} {v : Value} {L : List Int} {n : Nat} (h : St A wx g v L n) : OwnQ wx g v L := h.2.1
theorem St.old {A wx : World} {g : Nat} {v : Value} {L : List Int} {n : Nat} (h : St A wx g v L n) : Below A.heap.size A wx := h.2.2.1
theorem St.ge {A wx : World} {g : Nat} {v : Value} {L : List Int} {n : Nat} (h : St A wx g v L n) : A.heap.size ≤ g := h.1
theorem St.lt {A wx : World} {g : Nat} {v : Value} {L : List Int} {n : Nat} (h : St A wx g v L n) : g < wx.heap.size := h.2.1.lt
theorem St.below {A wx w' : World} {g : Nat} {v : Value} {L : List Int} {n : Nat} (h : St A wx g v L n) (hb : Below wx.heap.size wx w') : St A w' g v L n := ⟨h.1, h.2.1.below hb, Below.step h.2.2.1 hb, h.2.2.2⟩
theorem below_grownQ {A w w' : World} {g : Nat} (h : Below A.heap.size A w) (hg : w.grownBy w' (some g)) (hge : A.heap.size ≤ g) : Below A.heap.size A w' := h.grown hg h.size (fun k hk => by cases hk; exact hge)
theorem l4word_s (A : World) (g : Nat) (v wv : Value) (L wd : List Int) (n m : Nat) (w : World) (h : St A w g v L n) (hs : Bs w wv wd) (hn : wv.ownBlock ≠ some g) (hm : wd.length ≤ m) (hb : n + m ≤ 999999) :
    Calls Tryz.prog 53 #[v, wv] w fun e w' => ∃ u g', e = .returned u ∧ St A w' g' u (L ++ [32] ++ wd) (n + 1 + m) ∧ w.grownBy w' (some g) ∧ (g' = g ∨ w.heap.size ≤ g') := by
  have h0 := h.2.2.2
  refine (l4word_q g v wv L wd w h.own hs hn h0.1 (by omega) (by omega)).mono ?_
  rintro e w' ⟨u, g', rfl, hO, hG, hg⟩
  refine ⟨u, g', rfl, ⟨?_, hO, below_grownQ h.old hG h.ge, by simp; omega, by simp; omega⟩, hG, hg⟩
  have h1 := h.ge
  have h2 := h.old.size
  rcases hg with rfl | hg <;> omega
/-- A row that was made later than block g lies elsewhere. -/
theorem OwnB.ne {w : World} {B g : Nat} {v : Value} {l : List Int} (h : OwnB w B v l) (hg : g < B) : v.ownBlock ≠ some g := fun e => by have := (h.row.lt g e).1; omega
theorem bs_old_ne {w : World} {v : Value} {l : List Int} {g : Nat} (h : Bs w v l) (hg : w.heap.size ≤ g) (h0 : 0 < l.length) : v.ownBlock ≠ some g := by
  obtain ⟨_, a, cap, rfl, _, _, _, h4⟩ := h
  obtain ⟨b, off, rfl, hb, _⟩ := h4 h0
  simp only [Value.ownBlock, ne_eq, Option.some.injEq]
  omega
/-- The rest of a region under a stronger condition. -/
theorem wpAnyH_more {P : Program} {md : Region.Mode} {ops : Array Oper} {Q : Exit → Act → World → Prop} {S S' : World → Prop} (hS : ∀ w, S' w → S w) :
    ∀ (fuel : Nat) (l : Array Bool) (a : Act) (w : World), wpAnyH P md ops Q S' fuel l a w → wpAnyH P md ops Q S fuel l a w
  | 0, _, _, _, h => h
  | fuel + 1, _, _, _, h => ⟨h.1, fun i hi => wpOp_mono (fun a' w' h' => ⟨hS w' h'.1, wpAnyH_more hS fuel _ a' w' h'.2⟩) (h.2 i hi)⟩
theorem hidm {p : Prop} (h : p) : Hid p := h
theorem wpOrd_more {P : Program} {ops : Array Oper} {Q : Exit → Act → World → Prop} {S : World → Prop} {n p : Nat} {ord : List Nat} {a : Act} {w : World} (S' : World → Prop) (hS : ∀ w, S' w → S w) (h : wpOrd P ops Q S' n ord p a w) : wpOrd P ops Q S n ord p a w := wpAnyH_more hS _ _ _ _ h
theorem St.made {A wx : World} {g : Nat} {v : Value} {L : List Int} {n : Nat} (h : St A wx g v L n) : ∀ k, v.ownBlock = some k → A.heap.size ≤ k := by
  intro k hk
  obtain ⟨cap, rfl⟩ := h.own.form
  have e : g = k := by simpa [Value.ownBlock] using hk
  have := h.ge
  omega
theorem run_convert_str (s : List Int) (w : World) : (convert 9 22 (.string (strOfNums s))).run Tryz.prog w = .ok (.slice (some ⟨w.heap.size, 0, none⟩) s.length (grownCap w s.length 0 5)) (Lib.bytesWorld w 5 (strOfNums s)) := by
  have h := Lib.run_convert_string_bytes (P := Tryz.prog) w 9 22 5 (strOfNums s) Tryz.underlying9 Tryz.underlying22 Tryz.underlying5
  rwa [strOfNums_size] at h

/-- What '[]byte("..")' of a constant answers. -/
theorem lit_conv (W : World) (l : List Int) (hl : Oct l) (hn : l.length ≤ 1000) : ∃ w', (convert 22 22 (.slice (some ⟨W.heap.size, 0, none⟩) l.length l.length)).run Tryz.prog (W.alloc (.cells (vals l).toArray 5)) = .ok (.slice (some ⟨W.heap.size, 0, none⟩) l.length l.length) w' ∧
    OwnQ w' W.heap.size (.slice (some ⟨W.heap.size, 0, none⟩) l.length l.length) l ∧ Below W.heap.size W w' := by
  have hsh : (W.alloc (.cells (vals l).toArray 5)).shape? W.heap.size = some (5, (vals l).toArray.size) := by
    simp [World.shape?, World.alloc, -World.alloc_eq]
  refine ⟨(W.alloc (.cells (vals l).toArray 5)).freeze ⟨W.heap.size, (vals l).toArray.size, none⟩ 1, ?_, ⟨hl, l.length, (vals l).toArray, ((vals l).toArray.size, (vals l).toArray.size + 1), rfl, ?_, .inr (by simp [length_vals]), Nat.le_refl _, by unfold maxLen; omega, by simp [length_vals], by simp [List.take_of_length_le, length_vals]⟩, rfl, rfl, rfl, ?_, fun k hk => ?_⟩
  · simp [convert, run_underlying Tryz.underlying22, run_underlying Tryz.underlying5, markStringish, hsh, Result.andThen]
  · simp [World.freeze, World.alloc, -World.alloc_eq]
    rw [Array.getElem_modify_self]
    simp
  · simp [World.freeze, World.alloc, -World.alloc_eq]
  · have h1 : W.heap.size ≠ k := by omega
    simp [World.freeze, World.alloc, -World.alloc_eq, Array.getElem?_modify, Array.getElem?_push, h1, Ne.symm h1]
theorem modeW_ok (mn : Nat) (h : mn ≤ 2) : (modeW mn).length ≤ 7 ∧ Oct (modeW mn) := by
  have : mn = 0 ∨ mn = 1 ∨ mn = 2 := by omega
  rcases this with rfl | rfl | rfl <;> exact ⟨by decide, by intro x hx; simp [modeW] at hx; omega⟩
theorem modeCell {w : World} {b mn : Nat} (hm : mn ≤ 2) (h : w.heap[b]? = some (.cells #[.string ⟨#[73, 83]⟩, .string ⟨#[87, 73, 84, 72]⟩, .string ⟨#[87, 73, 84, 72, 79, 85, 84]⟩] 9 (0, 0))) : w.cell? ⟨b, mn, none⟩ = some (.string (strOfNums (modeW mn))) := by
  have e := bx3s h
  have : mn = 0 ∨ mn = 1 ∨ mn = 2 := by omega
  rcases this with rfl | rfl | rfl
  · exact e.1
  · exact e.2.1
  · exact e.2.2

end Go.Proofs.YtlegmiaoablcgaaGreatDoor
