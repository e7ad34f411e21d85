/- The proof's texts, part 10. -/
import Derived.Test.YtlegmiaoablcgaaGreatDoorPart9
import Derived.Test.YtlegmiaoablcgaaGreatDoorPart8
import Derived.Deep.DeepCutAuto

/- What l3cmd of package spec draws: a command that may be. -/
namespace Go.Proofs.YtlegmiaoablcgaaGreatDoor
open Go.RowKit
set_option maxRecDepth 100000
set_option linter.unusedVariables false
set_option linter.unusedSimpArgs false

theorem l3parts_0 (w : World) : Calls Tryz.prog 17 #[.int .i64 0] w fun e w' => e = .returned (.tuple #[.bool false, .bool false, .bool false, .bool false, .bool false]) ∧ w' = w := l3parts_any 0 w
theorem l3parts_1 (w : World) : Calls Tryz.prog 17 #[.int .i64 1] w fun e w' => e = .returned (.tuple #[.bool false, .bool false, .bool false, .bool false, .bool false]) ∧ w' = w := l3parts_any 1 w
theorem l3parts_2 (w : World) : Calls Tryz.prog 17 #[.int .i64 2] w fun e w' => e = .returned (.tuple #[.bool false, .bool false, .bool true, .bool false, .bool true]) ∧ w' = w := l3parts_any 2 w
theorem l3parts_3 (w : World) : Calls Tryz.prog 17 #[.int .i64 3] w fun e w' => e = .returned (.tuple #[.bool false, .bool true, .bool true, .bool true, .bool false]) ∧ w' = w := l3parts_any 3 w
theorem l3parts_4 (w : World) : Calls Tryz.prog 17 #[.int .i64 4] w fun e w' => e = .returned (.tuple #[.bool false, .bool false, .bool false, .bool false, .bool false]) ∧ w' = w := l3parts_any 4 w
theorem l3parts_5 (w : World) : Calls Tryz.prog 17 #[.int .i64 5] w fun e w' => e = .returned (.tuple #[.bool false, .bool true, .bool false, .bool false, .bool false]) ∧ w' = w := l3parts_any 5 w
theorem l3parts_6 (w : World) : Calls Tryz.prog 17 #[.int .i64 6] w fun e w' => e = .returned (.tuple #[.bool true, .bool true, .bool true, .bool false, .bool false]) ∧ w' = w := l3parts_any 6 w
theorem l3parts_7 (w : World) : Calls Tryz.prog 17 #[.int .i64 7] w fun e w' => e = .returned (.tuple #[.bool false, .bool false, .bool false, .bool false, .bool false]) ∧ w' = w := l3parts_any 7 w
theorem l3parts_8 (w : World) : Calls Tryz.prog 17 #[.int .i64 8] w fun e w' => e = .returned (.tuple #[.bool false, .bool false, .bool false, .bool true, .bool false]) ∧ w' = w := l3parts_any 8 w
theorem l3parts_9 (w : World) : Calls Tryz.prog 17 #[.int .i64 9] w fun e w' => e = .returned (.tuple #[.bool false, .bool false, .bool false, .bool false, .bool false]) ∧ w' = w := l3parts_any 9 w
/-- The parts of a command that was drawn: bytes that were made since wI; the text is none, or the call's own. -/
def CmdW0 (wI w : World) (v0 v1 v2 : Value) (bx tt tx : List Int) : Prop := Bs w v0 bx ∧ Bs w v1 tt ∧ (∀ b, v0.ownBlock = some b → wI.heap.size ≤ b ∧ b < w.heap.size) ∧ (∀ b, v1.ownBlock = some b → wI.heap.size ≤ b ∧ b < w.heap.size) ∧
  ((v2 = .slice none 0 0 ∧ tx = []) ∨ ∃ q, OwnQ w q v2 tx ∧ v0.ownBlock ≠ some q ∧ v1.ownBlock ≠ some q ∧ wI.heap.size ≤ q)
def CmdW (wI w : World) (u : Value) (c : CmdD) : Prop := ∃ a0 n0 c0 a1 n1 c1 v2, u = .agg #[.int .i64 c.k, .slice a0 n0 c0, .slice a1 n1 c1, .int .i64 c.uid, .int .i64 c.mode, .int .i64 c.fl, .int .i64 c.si, v2] ∧ CmdW0 wI w (.slice a0 n0 c0) (.slice a1 n1 c1) v2 c.bx c.tt c.tx
section
variable {w0 wI W W' : World} {g rr : Nat} {cv : Value} {L : List Int}
theorem gbs (i : Nat) (x : Value) (h : wI.grownBy W (some rr)) : wI.grownBy (W.setCell ⟨rr, i, none⟩ x) (some rr) := grownBy_setCell h
theorem gb_to (h : wI.grownBy W (some g)) (hB : Below rr W W') (hr : wI.heap.size ≤ rr) : wI.grownBy W' (some g) := ⟨hB.os.trans h.os, hB.tape.trans h.tape, hB.output.trans h.output, Nat.le_trans h.size hB.size, fun j hj hne => (hB.block j (by omega)).trans (h.block j hj hne)⟩
theorem cur_to (h : Cur w0 W g cv L) (hB : Below rr W W') (hr : g < rr) : Cur w0 W' g cv L := by
  obtain ⟨hg, hb, hbs, i, q, h0, h1, hh⟩ := h
  exact ⟨hg, hb.trans (hB.mono (by omega)), hbs, i, q, h0, h1, (hB.block g hr).trans hh⟩
end
section
variable {w0 wI W : World} {g k rr : Nat} {cv : Value} {L : List Int} {c : CmdD}
theorem XSt.fin (h : XSt w0 wI W g k rr cv L c) (P : XPl w0 wI g k rr) : ∃ a0 n0 c0 a1 n1 c1 a2 n2 c2, W.heap[k]? = some (.cells #[.int .i64 c.k, .slice a0 n0 c0, .slice a1 n1 c1, .int .i64 c.uid, .int .i64 c.mode, .int .i64 c.fl, .int .i64 c.si, .slice a2 n2 c2] 24 (0, 0)) ∧
    Hid (∀ v0 v1 v2, v0 = .slice a0 n0 c0 → v1 = .slice a1 n1 c1 → v2 = .slice a2 n2 c2 → ((((((((W.setCell ⟨rr, 0, none⟩ (.int .i64 c.k)).setCell ⟨rr, 1, none⟩ v0).setCell ⟨rr, 2, none⟩ v1).setCell ⟨rr, 3, none⟩ (.int .i64 c.uid)).setCell ⟨rr, 4, none⟩ (.int .i64 c.mode)).setCell ⟨rr, 5, none⟩ (.int .i64 c.fl)).setCell ⟨rr, 6, none⟩ (.int .i64 c.si)).setCell ⟨rr, 7, none⟩ v2).heap[rr]? = some (.cells #[.int .i64 c.k, v0, v1, .int .i64 c.uid, .int .i64 c.mode, .int .i64 c.fl, .int .i64 c.si, v2] 24 (0, 0)) ∧ Bs ((((((((W.setCell ⟨rr, 0, none⟩ (.int .i64 c.k)).setCell ⟨rr, 1, none⟩ v0).setCell ⟨rr, 2, none⟩ v1).setCell ⟨rr, 3, none⟩ (.int .i64 c.uid)).setCell ⟨rr, 4, none⟩ (.int .i64 c.mode)).setCell ⟨rr, 5, none⟩ (.int .i64 c.fl)).setCell ⟨rr, 6, none⟩ (.int .i64 c.si)).setCell ⟨rr, 7, none⟩ v2) v0 c.bx ∧ Bs ((((((((W.setCell ⟨rr, 0, none⟩ (.int .i64 c.k)).setCell ⟨rr, 1, none⟩ v0).setCell ⟨rr, 2, none⟩ v1).setCell ⟨rr, 3, none⟩ (.int .i64 c.uid)).setCell ⟨rr, 4, none⟩ (.int .i64 c.mode)).setCell ⟨rr, 5, none⟩ (.int .i64 c.fl)).setCell ⟨rr, 6, none⟩ (.int .i64 c.si)).setCell ⟨rr, 7, none⟩ v2) v1 c.tt ∧ Bs ((((((((W.setCell ⟨rr, 0, none⟩ (.int .i64 c.k)).setCell ⟨rr, 1, none⟩ v0).setCell ⟨rr, 2, none⟩ v1).setCell ⟨rr, 3, none⟩ (.int .i64 c.uid)).setCell ⟨rr, 4, none⟩ (.int .i64 c.mode)).setCell ⟨rr, 5, none⟩ (.int .i64 c.fl)).setCell ⟨rr, 6, none⟩ (.int .i64 c.si)).setCell ⟨rr, 7, none⟩ v2) v2 c.tx ∧ Cur w0 ((((((((W.setCell ⟨rr, 0, none⟩ (.int .i64 c.k)).setCell ⟨rr, 1, none⟩ v0).setCell ⟨rr, 2, none⟩ v1).setCell ⟨rr, 3, none⟩ (.int .i64 c.uid)).setCell ⟨rr, 4, none⟩ (.int .i64 c.mode)).setCell ⟨rr, 5, none⟩ (.int .i64 c.fl)).setCell ⟨rr, 6, none⟩ (.int .i64 c.si)).setCell ⟨rr, 7, none⟩ v2) g cv L ∧ wI.grownBy ((((((((W.setCell ⟨rr, 0, none⟩ (.int .i64 c.k)).setCell ⟨rr, 1, none⟩ v0).setCell ⟨rr, 2, none⟩ v1).setCell ⟨rr, 3, none⟩ (.int .i64 c.uid)).setCell ⟨rr, 4, none⟩ (.int .i64 c.mode)).setCell ⟨rr, 5, none⟩ (.int .i64 c.fl)).setCell ⟨rr, 6, none⟩ (.int .i64 c.si)).setCell ⟨rr, 7, none⟩ v2) (some g) ∧ CmdW0 wI ((((((((W.setCell ⟨rr, 0, none⟩ (.int .i64 c.k)).setCell ⟨rr, 1, none⟩ v0).setCell ⟨rr, 2, none⟩ v1).setCell ⟨rr, 3, none⟩ (.int .i64 c.uid)).setCell ⟨rr, 4, none⟩ (.int .i64 c.mode)).setCell ⟨rr, 5, none⟩ (.int .i64 c.fl)).setCell ⟨rr, 6, none⟩ (.int .i64 c.si)).setCell ⟨rr, 7, none⟩ v2) v0 v1 v2 c.bx c.tt c.tx) := by
  obtain ⟨u0, u1, u2, hc, ⟨⟨a0, n0, c0, rfl⟩, b0, -, -, r0, s0⟩, ⟨⟨a1, n1, c1, rfl⟩, b1, -, -, r1, s1⟩, T2⟩ := h.cmd
  obtain ⟨a2, n2, c2, rfl⟩ := T2.form
  refine ⟨a0, n0, c0, a1, n1, c1, a2, n2, c2, hc, ?_⟩
  intro v0 v1 v2 e0 e1 e2
  have G := gbs 7 v2 (gbs 6 (.int .i64 c.si) (gbs 5 (.int .i64 c.fl) (gbs 4 (.int .i64 c.mode) (gbs 3 (.int .i64 c.uid) (gbs 2 v1 (gbs 1 v0 (gbs 0 (.int .i64 c.k) (World.grownBy.refl W (some rr)))))))))
  have p1 := P.gI
  have p3 := P.rI
  have hB := below_set8 (d0 := .int .i64 c.k) (d1 := v0) (d2 := v1) (d3 := .int .i64 c.uid) (d4 := .int .i64 c.mode) (d5 := .int .i64 c.fl) (d6 := .int .i64 c.si) (d7 := v2) (Below.refl rr W) (Nat.le_refl rr)
  have hsz := hB.size
  have T3 := T2.gb G (.inr (.inr rfl))
  subst e0 e1 e2
  refine ⟨heap_set8 h.res, b0.grown G r0, b1.grown G r1, T3.bs, cur_to h.cur hB (by omega), gb_to h.gr hB p3, b0.grown G r0, b1.grown G r1, fun b hb => ?_, fun b hb => ?_, ?_⟩
  · have := s0 b hb; omega
  · have := s1 b hb; omega
  · rcases T3 with e | ⟨q, t, t0, t1, t2, t3, t4⟩
    · exact .inl e
    · exact .inr ⟨q, t, t0, t1, by omega⟩
end
set_option maxRecDepth 100000 in
set_option maxHeartbeats 8000000 in
theorem l3cmd_any (w0 w : World) (g : Nat) (cv : Value) (L : List Int) (hc : Cur w0 w g cv L) :
    Calls Tryz.prog 27 #[.pointer (some ⟨g, 0, none⟩)] w fun e w' => ∃ u, e = .returned u ∧ ∃ c : CmdD, CmdV w' u c.k c.bx c.tt c.uid c.mode c.fl c.si c.tx ∧ cmdB c.k c.bx c.tt c.uid c.mode c.fl c.si c.tx = true ∧ Cur w0 w' g cv L ∧ w.grownBy w' (some g) ∧ CmdW w w' u c := by
  have AB : Below w.heap.size w (w.alloc (.cells #[.int .i64 0, .slice none 0 0, .slice none 0 0, .int .i64 0, .int .i64 0, .int .i64 0, .int .i64 0, .slice none 0 0] 24)) := (Below.refl _ _).alloc (Nat.le_refl _) _
  have K0 := box_new w (.cells #[.int .i64 0, .slice none 0 0, .slice none 0 0, .int .i64 0, .int .i64 0, .int .i64 0, .int .i64 0, .slice none 0 0] 24)
  have hgl := hc.lt.2
  have hg0 := hc.lt.1
  have hc0 := hc.below AB
  have hI := intsB_made (w.alloc (.cells #[.int .i64 0, .slice none 0 0, .slice none 0 0, .int .i64 0, .int .i64 0, .int .i64 0, .int .i64 0, .slice none 0 0] 24)) g [0, 0, 1, 2, 2, 2, 2, 3, 3, 4, 5, 6, 6, 7, 8, 9] 3 0 9 (by simp; omega) (by simp) (by simp) (by intro x hx; simp at hx; omega)
  have bA : Below (w.alloc (.cells #[.int .i64 0, .slice none 0 0, .slice none 0 0, .int .i64 0, .int .i64 0, .int .i64 0, .int .i64 0, .slice none 0 0] 24)).heap.size (w.alloc (.cells #[.int .i64 0, .slice none 0 0, .slice none 0 0, .int .i64 0, .int .i64 0, .int .i64 0, .int .i64 0, .slice none 0 0] 24)) ((w.alloc (.cells #[.int .i64 0, .slice none 0 0, .slice none 0 0, .int .i64 0, .int .i64 0, .int .i64 0, .int .i64 0, .slice none 0 0] 24)).alloc (.cells #[.int .i64 0, .int .i64 0, .int .i64 1, .int .i64 2, .int .i64 2, .int .i64 2, .int .i64 2, .int .i64 3, .int .i64 3, .int .i64 4, .int .i64 5, .int .i64 6, .int .i64 6, .int .i64 7, .int .i64 8, .int .i64 9] 3)) := (Below.refl _ _).alloc (Nat.le_refl _) _
  have HI : Hid (IntsB ((w.alloc (.cells #[.int .i64 0, .slice none 0 0, .slice none 0 0, .int .i64 0, .int .i64 0, .int .i64 0, .int .i64 0, .slice none 0 0] 24)).alloc (.cells #[.int .i64 0, .int .i64 0, .int .i64 1, .int .i64 2, .int .i64 2, .int .i64 2, .int .i64 2, .int .i64 3, .int .i64 3, .int .i64 4, .int .i64 5, .int .i64 6, .int .i64 6, .int .i64 7, .int .i64 8, .int .i64 9] 3)) (.slice (some ⟨w.heap.size + 1, 0, none⟩) 16 16) g 16 0 9) := by simpa [Hid] using hI
  have HCA := hidm (hc0.below bA)
  have HK := hidm (box_below bA K0)
  have HG := hidm (gb_below' (gb_below' (World.grownBy.refl w (some g)) AB) bA)
  clear hI hc hc0 AB K0 bA
  go_enter Tryz.func27, Tryz.ntmps27
  go_wp2_with fail
  refine (l1PickInt_b w0 _ g 16 cv _ L 0 9 HCA.out HI.out).mono ?_
  rintro e w1 ⟨x, rfl, hx0, hx1, C1, G1⟩
  have K1 := hidm ((G1.block w.heap.size (lt_of_heap HK.out) (by simp; omega)).trans HK.out)
  have HG1 := hidm (gb_trans' HG.out G1)
  have HC1 := hidm C1
  clear HI HCA HK HG C1 G1
  go_wp2_with fail
  refine (l3drawName_any w0 _ g cv L HC1.out).mono ?_
  rintro e w2 ⟨u, gq, bx, rfl, O, hge, hnb, C2, G2⟩
  obtain ⟨cp, rfl⟩ := O.form
  have hl1 := lt_of_heap K1.out
  have K2 := (G2.block w.heap.size hl1 (by simp; omega)).trans K1.out
  have hl2 := lt_of_heap K2
  have hgl2 := C2.lt.2
  have PP : Hid (XPl w0 w g w2.heap.size w.heap.size) := ⟨hgl, hg0, by omega, Nat.le_refl _, by omega⟩
  have HX : Hid (XSt w0 w (w2.alloc (.cells #[.int .i64 x, .slice (some ⟨gq, 0, none⟩) bx.length cp, .slice none 0 0, .int .i64 0, .int .i64 0, .int .i64 0, .int .i64 0, .slice none 0 0] 24)) g w2.heap.size w.heap.size cv L ⟨x, bx, [], 0, 0, 0, 0, []⟩) := by
    have bA : Below w2.heap.size w2 (w2.alloc (.cells #[.int .i64 x, .slice (some ⟨gq, 0, none⟩) bx.length cp, .slice none 0 0, .int .i64 0, .int .i64 0, .int .i64 0, .int .i64 0, .slice none 0 0] 24)) := (Below.refl _ _).alloc (Nat.le_refl _) _
    have hlq := O.lt
    refine ⟨C2.below bA, gb_below' (gb_trans' HG1.out G2) bA, box_below bA K2, _, _, _, box_new w2 _, ⟨⟨_, _, _, rfl⟩, (O.below bA).bs, ?_, ?_, ?_, ?_⟩, QB.nil _ _ _ _, .inl ⟨rfl, rfl⟩⟩
    · simp only [Value.ownBlock, ne_eq, Option.some.injEq]; omega
    · simp only [Value.ownBlock, ne_eq, Option.some.injEq]; omega
    · simp only [Value.ownBlock, ne_eq, Option.some.injEq]; omega
    · intro b hb; simp only [Value.ownBlock, Option.some.injEq] at hb; subst hb; have := bA.size; omega
  clear K1 HG1 HC1 O hge C2 G2 K2
  go_wp2_with fail
  refine (l1Once_any w0 _ g cv L 3 HX.out.cur (by omega) (by omega)).mono ?_
  rintro e w3 ⟨y, rfl, C3, G3⟩
  have HX3 := hidm (HX.out.draw PP.out C3 G3)
  clear HX C3 G3
  have HX := HX3
  clear HX3
  have hcl := lt_of_heap HX.out.cmd.choose_spec.choose_spec.choose_spec.1
  have hnm : nameB [105, 110, 98, 111, 120] = true := by decide
  cases y
  · obtain rfl | rfl | rfl | rfl | rfl | rfl | rfl | rfl | rfl | rfl : x = 0 ∨ x = 1 ∨ x = 2 ∨ x = 3 ∨ x = 4 ∨ x = 5 ∨ x = 6 ∨ x = 7 ∨ x = 8 ∨ x = 9 := by omega
    · obtain ⟨y1, y2, y7, f0, f1, f2, f3, f4, f5, f6, f7, fz, flt⟩ := HX.out.cells
      dsimp only at f0 f3 f4 f5 f6
      go_wp2_with fail
      refine (l3parts_0 _).mono ?_
      rintro e w3 ⟨rfl, rfl⟩
      clear f0 f1 f2 f3 f4 f5 f6 f7 fz flt
      obtain ⟨y1, y2, y7, f0, f1, f2, f3, f4, f5, f6, f7, fz, flt⟩ := HX.out.cells
      dsimp only at f0 f3 f4 f5 f6
      go_upto_region 24 with fail
      clear f0 f1 f2 f3 f4 f5 f6 f7 fz flt
      obtain ⟨q0, n0, c0, q1, n1, c1, q2, n2, c2, hk, hF⟩ := HX.out.fin PP.out
      dsimp only at hk
      obtain ⟨d0, d1, d2, d3, d4, d5, d6, d7, -⟩ := box8l hk
      obtain ⟨dz, dl⟩ := box8z hk
      obtain ⟨r0, r1, r2, r3, r4, r5, r6, r7, -⟩ := box8l HX.out.res
      obtain ⟨rz, rl⟩ := box8z HX.out.res
      go_wp2
      obtain ⟨hK, F0, F1, F2, FC, FG, FW⟩ := hF.out _ _ _ rfl rfl rfl
      obtain ⟨f0, f1, f2, f3, f4, f5, f6, f7, -⟩ := box8l hK
      refine bodyPost_ret (v := .agg #[.int .i64 0, .slice q0 n0 c0, .slice q1 n1 c1, .int .i64 0, .int .i64 0, .int .i64 0, .int .i64 0, .slice q2 n2 c2]) (by simp [results, Tryz.results27, go_sem, f0, f1, f2, f3, f4, f5, f6, f7]) rfl ?_
      exact ⟨_, rfl, ⟨(0 : Int), bx, [], 0, 0, 0, 0, []⟩, ⟨_, _, _, rfl, F0, F1, F2, by unfold I64; dsimp only; omega, by unfold I64; dsimp only; omega, by unfold I64; dsimp only; omega, by unfold I64; dsimp only; omega, by unfold I64; dsimp only; omega⟩, by simp [cmdB, inB, *]; try omega, FC, FG, _, _, _, _, _, _, _, rfl, FW⟩
    · obtain ⟨y1, y2, y7, f0, f1, f2, f3, f4, f5, f6, f7, fz, flt⟩ := HX.out.cells
      dsimp only at f0 f3 f4 f5 f6
      go_wp2_with fail
      refine (l3parts_1 _).mono ?_
      rintro e w3 ⟨rfl, rfl⟩
      clear f0 f1 f2 f3 f4 f5 f6 f7 fz flt
      obtain ⟨y1, y2, y7, f0, f1, f2, f3, f4, f5, f6, f7, fz, flt⟩ := HX.out.cells
      dsimp only at f0 f3 f4 f5 f6
      go_upto_region 24 with fail
      clear f0 f1 f2 f3 f4 f5 f6 f7 fz flt
      obtain ⟨q0, n0, c0, q1, n1, c1, q2, n2, c2, hk, hF⟩ := HX.out.fin PP.out
      dsimp only at hk
      obtain ⟨d0, d1, d2, d3, d4, d5, d6, d7, -⟩ := box8l hk
      obtain ⟨dz, dl⟩ := box8z hk
      obtain ⟨r0, r1, r2, r3, r4, r5, r6, r7, -⟩ := box8l HX.out.res
      obtain ⟨rz, rl⟩ := box8z HX.out.res
      go_wp2
      obtain ⟨hK, F0, F1, F2, FC, FG, FW⟩ := hF.out _ _ _ rfl rfl rfl
      obtain ⟨f0, f1, f2, f3, f4, f5, f6, f7, -⟩ := box8l hK
      refine bodyPost_ret (v := .agg #[.int .i64 1, .slice q0 n0 c0, .slice q1 n1 c1, .int .i64 0, .int .i64 0, .int .i64 0, .int .i64 0, .slice q2 n2 c2]) (by simp [results, Tryz.results27, go_sem, f0, f1, f2, f3, f4, f5, f6, f7]) rfl ?_
      exact ⟨_, rfl, ⟨(1 : Int), bx, [], 0, 0, 0, 0, []⟩, ⟨_, _, _, rfl, F0, F1, F2, by unfold I64; dsimp only; omega, by unfold I64; dsimp only; omega, by unfold I64; dsimp only; omega, by unfold I64; dsimp only; omega, by unfold I64; dsimp only; omega⟩, by simp [cmdB, inB, *]; try omega, FC, FG, _, _, _, _, _, _, _, rfl, FW⟩
    · obtain ⟨y1, y2, y7, f0, f1, f2, f3, f4, f5, f6, f7, fz, flt⟩ := HX.out.cells
      dsimp only at f0 f3 f4 f5 f6
      go_wp2_with fail
      refine (l3parts_2 _).mono ?_
      rintro e w3 ⟨rfl, rfl⟩
      clear f0 f1 f2 f3 f4 f5 f6 f7 fz flt
      obtain ⟨y1, y2, y7, f0, f1, f2, f3, f4, f5, f6, f7, fz, flt⟩ := HX.out.cells
      dsimp only at f0 f3 f4 f5 f6
      go_wp2_with fail
      refine (l1Below_any w0 _ g cv L 3 HX.out.cur (by omega) (by omega)).mono ?_
      rintro e w11 ⟨a11, rfl, a11p, a11q, C, G⟩
      have HY := hidm (HX.out.draw PP.out C G)
      clear C G HX
      have HX := HY
      clear HY
      clear f0 f1 f2 f3 f4 f5 f6 f7 fz flt
      obtain ⟨y1, y2, y7, f0, f1, f2, f3, f4, f5, f6, f7, fz, flt⟩ := HX.out.cells
      dsimp only at f0 f3 f4 f5 f6
      have HY : Hid (XSt w0 w (w11.setCell ⟨w2.heap.size, 4, none⟩ (.int .i64 a11)) g w2.heap.size w.heap.size cv L ⟨(2 : Int), bx, [], 0, a11, 0, 0, []⟩) := hidm (HX.out.setI (n := a11) PP.out (.inr (.inr (.inl ⟨rfl, rfl⟩))))
      clear HX
      have HX := HY
      clear HY
      have hgl2 := HX.out.cur.lt.2
      have hI := intsB_made (w11.setCell ⟨w2.heap.size, 4, none⟩ (.int .i64 a11)) g [0, 1, 8, 8, 9, 31, 16] 3 0 31 hgl2 (by simp) (by simp) (by intro x hx; simp at hx; omega)
      have bA : Below _ (w11.setCell ⟨w2.heap.size, 4, none⟩ (.int .i64 a11)) ((w11.setCell ⟨w2.heap.size, 4, none⟩ (.int .i64 a11)).alloc (.cells #[.int .i64 0, .int .i64 1, .int .i64 8, .int .i64 8, .int .i64 9, .int .i64 31, .int .i64 16] 3)) := (Below.refl _ _).alloc (Nat.le_refl _) _
      have HI : Hid (IntsB ((w11.setCell ⟨w2.heap.size, 4, none⟩ (.int .i64 a11)).alloc (.cells #[.int .i64 0, .int .i64 1, .int .i64 8, .int .i64 8, .int .i64 9, .int .i64 31, .int .i64 16] 3)) (.slice (some ⟨w11.heap.size, 0, none⟩) 7 7) g 7 0 31) := by simpa [Hid] using hI
      have HZ := hidm (HX.out.below PP.out bA)
      clear hI hgl2 bA
      go_wp2_with fail
      refine (l1PickInt_b w0 _ g 7 cv _ L 0 31 HZ.out.cur HI.out).mono ?_
      rintro e w12 ⟨a12, rfl, a12p, a12q, C, G⟩
      have HY := hidm (HZ.out.draw PP.out C G)
      clear HI HZ
      clear C G HX
      have HX := HY
      clear HY
      clear f0 f1 f2 f3 f4 f5 f6 f7 fz flt
      obtain ⟨y1, y2, y7, f0, f1, f2, f3, f4, f5, f6, f7, fz, flt⟩ := HX.out.cells
      dsimp only at f0 f3 f4 f5 f6
      have HY : Hid (XSt w0 w (w12.setCell ⟨w2.heap.size, 5, none⟩ (.int .i64 a12)) g w2.heap.size w.heap.size cv L ⟨(2 : Int), bx, [], 0, a11, a12, 0, []⟩) := hidm (HX.out.setI (n := a12) PP.out (.inr (.inr (.inr (.inl ⟨rfl, rfl⟩)))))
      clear HX
      have HX := HY
      clear HY
      have HY : Hid (XSt w0 w ((w12.setCell ⟨w2.heap.size, 5, none⟩ (.int .i64 a12)).setCell ⟨w2.heap.size, 4, none⟩ (.int .i64 0)) g w2.heap.size w.heap.size cv L ⟨(2 : Int), bx, [], 0, 0, a12, 0, []⟩) := hidm (HX.out.setI (n := 0) PP.out (.inr (.inr (.inl ⟨rfl, rfl⟩))))
      clear HX
      have HX := HY
      clear HY
      go_wp2_with fail
      refine (l3drawText_any w0 _ g cv L HX.out.cur).mono ?_
      rintro e w13 ⟨uw13, gqw13, mw13, rfl, O, hge, mbw13, C, G⟩
      obtain ⟨cpw13, rfl⟩ := O.form
      have HY := hidm (HX.out.draw PP.out C G)
      have HQ : Hid (XSt w0 w (w13.setCell ⟨w2.heap.size, 7, none⟩ (.slice (some ⟨gqw13, 0, none⟩) mw13.length cpw13)) g w2.heap.size w.heap.size cv L ⟨(2 : Int), bx, [], 0, 0, a12, 0, mw13⟩) := hidm (HX.out.setN PP.out C G O hge (.inr (.inr ⟨rfl, rfl⟩)))
      clear O hge
      clear C G HX
      have HX := HY
      clear HY
      clear f0 f1 f2 f3 f4 f5 f6 f7 fz flt
      obtain ⟨y1, y2, y7, f0, f1, f2, f3, f4, f5, f6, f7, fz, flt⟩ := HX.out.cells
      dsimp only at f0 f3 f4 f5 f6
      have HY := HQ
      clear HQ
      clear HX
      have HX := HY
      clear HY
      go_upto_region 24 with fail
      clear f0 f1 f2 f3 f4 f5 f6 f7 fz flt
      generalize (w13.setCell ⟨w2.heap.size, 7, none⟩ (.slice (some ⟨gqw13, 0, none⟩) mw13.length cpw13)) = wz at HX ⊢
      obtain ⟨q0, n0, c0, q1, n1, c1, q2, n2, c2, hk, hF⟩ := HX.out.fin PP.out
      dsimp only at hk
      obtain ⟨d0, d1, d2, d3, d4, d5, d6, d7, -⟩ := box8l hk
      obtain ⟨dz, dl⟩ := box8z hk
      obtain ⟨r0, r1, r2, r3, r4, r5, r6, r7, -⟩ := box8l HX.out.res
      obtain ⟨rz, rl⟩ := box8z HX.out.res
      go_wp2
      obtain ⟨hK, F0, F1, F2, FC, FG, FW⟩ := hF.out _ _ _ rfl rfl rfl
      obtain ⟨f0, f1, f2, f3, f4, f5, f6, f7, -⟩ := box8l hK
      refine bodyPost_ret (v := .agg #[.int .i64 2, .slice q0 n0 c0, .slice q1 n1 c1, .int .i64 0, .int .i64 0, .int .i64 a12, .int .i64 0, .slice q2 n2 c2]) (by simp [results, Tryz.results27, go_sem, f0, f1, f2, f3, f4, f5, f6, f7]) rfl ?_
      exact ⟨_, rfl, ⟨(2 : Int), bx, [], 0, 0, a12, 0, mw13⟩, ⟨_, _, _, rfl, F0, F1, F2, by unfold I64; dsimp only; omega, by unfold I64; dsimp only; omega, by unfold I64; dsimp only; omega, by unfold I64; dsimp only; omega, by unfold I64; dsimp only; omega⟩, by simp [cmdB, inB, *]; try omega, FC, FG, _, _, _, _, _, _, _, rfl, FW⟩
    · obtain ⟨y1, y2, y7, f0, f1, f2, f3, f4, f5, f6, f7, fz, flt⟩ := HX.out.cells
      dsimp only at f0 f3 f4 f5 f6
      go_wp2_with fail
      refine (l3parts_3 _).mono ?_
      rintro e w3 ⟨rfl, rfl⟩
      clear f0 f1 f2 f3 f4 f5 f6 f7 fz flt
      obtain ⟨y1, y2, y7, f0, f1, f2, f3, f4, f5, f6, f7, fz, flt⟩ := HX.out.cells
      dsimp only at f0 f3 f4 f5 f6
      go_wp2_with fail
      refine (l1Below_any w0 _ g cv L 5 HX.out.cur (by omega) (by omega)).mono ?_
      rintro e w11 ⟨a11, rfl, a11p, a11q, C, G⟩
      have HY := hidm (HX.out.draw PP.out C G)
      clear C G HX
      have HX := HY
      clear HY
      clear f0 f1 f2 f3 f4 f5 f6 f7 fz flt
      obtain ⟨y1, y2, y7, f0, f1, f2, f3, f4, f5, f6, f7, fz, flt⟩ := HX.out.cells
      dsimp only at f0 f3 f4 f5 f6
      have HY : Hid (XSt w0 w (w11.setCell ⟨w2.heap.size, 3, none⟩ (.int .i64 (1 + a11))) g w2.heap.size w.heap.size cv L ⟨(3 : Int), bx, [], (1 + a11), 0, 0, 0, []⟩) := hidm (HX.out.setI (n := (1 + a11)) PP.out (.inr (.inl ⟨rfl, rfl⟩)))
      clear HX
      have HX := HY
      clear HY
      go_wp2_with fail
      refine (l1Below_any w0 _ g cv L 3 HX.out.cur (by omega) (by omega)).mono ?_
      rintro e w12 ⟨a12, rfl, a12p, a12q, C, G⟩
      have HY := hidm (HX.out.draw PP.out C G)
      clear C G HX
      have HX := HY
      clear HY
      clear f0 f1 f2 f3 f4 f5 f6 f7 fz flt
      obtain ⟨y1, y2, y7, f0, f1, f2, f3, f4, f5, f6, f7, fz, flt⟩ := HX.out.cells
      dsimp only at f0 f3 f4 f5 f6
      have HY : Hid (XSt w0 w (w12.setCell ⟨w2.heap.size, 4, none⟩ (.int .i64 a12)) g w2.heap.size w.heap.size cv L ⟨(3 : Int), bx, [], (1 + a11), a12, 0, 0, []⟩) := hidm (HX.out.setI (n := a12) PP.out (.inr (.inr (.inl ⟨rfl, rfl⟩))))
      clear HX
      have HX := HY
      clear HY
      have hgl2 := HX.out.cur.lt.2
      have hI := intsB_made (w12.setCell ⟨w2.heap.size, 4, none⟩ (.int .i64 a12)) g [0, 1, 8, 8, 9, 31, 16] 3 0 31 hgl2 (by simp) (by simp) (by intro x hx; simp at hx; omega)
      have bA : Below _ (w12.setCell ⟨w2.heap.size, 4, none⟩ (.int .i64 a12)) ((w12.setCell ⟨w2.heap.size, 4, none⟩ (.int .i64 a12)).alloc (.cells #[.int .i64 0, .int .i64 1, .int .i64 8, .int .i64 8, .int .i64 9, .int .i64 31, .int .i64 16] 3)) := (Below.refl _ _).alloc (Nat.le_refl _) _
      have HI : Hid (IntsB ((w12.setCell ⟨w2.heap.size, 4, none⟩ (.int .i64 a12)).alloc (.cells #[.int .i64 0, .int .i64 1, .int .i64 8, .int .i64 8, .int .i64 9, .int .i64 31, .int .i64 16] 3)) (.slice (some ⟨w12.heap.size, 0, none⟩) 7 7) g 7 0 31) := by simpa [Hid] using hI
      have HZ := hidm (HX.out.below PP.out bA)
      clear hI hgl2 bA
      go_wp2_with fail
      refine (l1PickInt_b w0 _ g 7 cv _ L 0 31 HZ.out.cur HI.out).mono ?_
      rintro e w13 ⟨a13, rfl, a13p, a13q, C, G⟩
      have HY := hidm (HZ.out.draw PP.out C G)
      clear HI HZ
      clear C G HX
      have HX := HY
      clear HY
      clear f0 f1 f2 f3 f4 f5 f6 f7 fz flt
      obtain ⟨y1, y2, y7, f0, f1, f2, f3, f4, f5, f6, f7, fz, flt⟩ := HX.out.cells
      dsimp only at f0 f3 f4 f5 f6
      have HY : Hid (XSt w0 w (w13.setCell ⟨w2.heap.size, 5, none⟩ (.int .i64 a13)) g w2.heap.size w.heap.size cv L ⟨(3 : Int), bx, [], (1 + a11), a12, a13, 0, []⟩) := hidm (HX.out.setI (n := a13) PP.out (.inr (.inr (.inr (.inl ⟨rfl, rfl⟩)))))
      clear HX
      have HX := HY
      clear HY
      go_wp2_with fail
      refine (l1Below_any w0 _ g cv L 8 HX.out.cur (by omega) (by omega)).mono ?_
      rintro e w14 ⟨a14, rfl, a14p, a14q, C, G⟩
      have HY := hidm (HX.out.draw PP.out C G)
      clear C G HX
      have HX := HY
      clear HY
      clear f0 f1 f2 f3 f4 f5 f6 f7 fz flt
      obtain ⟨y1, y2, y7, f0, f1, f2, f3, f4, f5, f6, f7, fz, flt⟩ := HX.out.cells
      dsimp only at f0 f3 f4 f5 f6
      go_wp2_with fail
      refine (l1Below_any w0 _ g cv L 2 HX.out.cur (by omega) (by omega)).mono ?_
      rintro e w15 ⟨a15, rfl, a15p, a15q, C, G⟩
      have HY := hidm (HX.out.draw PP.out C G)
      clear C G HX
      have HX := HY
      clear HY
      clear f0 f1 f2 f3 f4 f5 f6 f7 fz flt
      obtain ⟨y1, y2, y7, f0, f1, f2, f3, f4, f5, f6, f7, fz, flt⟩ := HX.out.cells
      dsimp only at f0 f3 f4 f5 f6
      have hmul : 0 ≤ a14 * a15 ∧ a14 * a15 ≤ 7 := by
        obtain rfl | rfl : a15 = 0 ∨ a15 = 1 := by omega
        · omega
        · omega
      have HY : Hid (XSt w0 w (w15.setCell ⟨w2.heap.size, 6, none⟩ (.int .i64 (a14 * a15))) g w2.heap.size w.heap.size cv L ⟨(3 : Int), bx, [], (1 + a11), a12, a13, (a14 * a15), []⟩) := hidm (HX.out.setI (n := (a14 * a15)) PP.out (.inr (.inr (.inr (.inr ⟨rfl, rfl⟩)))))
      clear HX
      have HX := HY
      clear HY
      go_upto_region 24 with fail
      clear f0 f1 f2 f3 f4 f5 f6 f7 fz flt
      generalize (w15.setCell ⟨w2.heap.size, 6, none⟩ (.int .i64 (a14 * a15))) = wz at HX ⊢
      obtain ⟨q0, n0, c0, q1, n1, c1, q2, n2, c2, hk, hF⟩ := HX.out.fin PP.out
      dsimp only at hk
      obtain ⟨d0, d1, d2, d3, d4, d5, d6, d7, -⟩ := box8l hk
      obtain ⟨dz, dl⟩ := box8z hk
      obtain ⟨r0, r1, r2, r3, r4, r5, r6, r7, -⟩ := box8l HX.out.res
      obtain ⟨rz, rl⟩ := box8z HX.out.res
      go_wp2
      obtain ⟨hK, F0, F1, F2, FC, FG, FW⟩ := hF.out _ _ _ rfl rfl rfl
      obtain ⟨f0, f1, f2, f3, f4, f5, f6, f7, -⟩ := box8l hK
      refine bodyPost_ret (v := .agg #[.int .i64 3, .slice q0 n0 c0, .slice q1 n1 c1, .int .i64 (1 + a11), .int .i64 a12, .int .i64 a13, .int .i64 (a14 * a15), .slice q2 n2 c2]) (by simp [results, Tryz.results27, go_sem, f0, f1, f2, f3, f4, f5, f6, f7]) rfl ?_
      exact ⟨_, rfl, ⟨(3 : Int), bx, [], (1 + a11), a12, a13, (a14 * a15), []⟩, ⟨_, _, _, rfl, F0, F1, F2, by unfold I64; dsimp only; omega, by unfold I64; dsimp only; omega, by unfold I64; dsimp only; omega, by unfold I64; dsimp only; omega, by unfold I64; dsimp only; omega⟩, by simp [cmdB, inB, *]; try omega, FC, FG, _, _, _, _, _, _, _, rfl, FW⟩
    · obtain ⟨y1, y2, y7, f0, f1, f2, f3, f4, f5, f6, f7, fz, flt⟩ := HX.out.cells
      dsimp only at f0 f3 f4 f5 f6
      go_wp2_with fail
      refine (l3parts_4 _).mono ?_
      rintro e w3 ⟨rfl, rfl⟩
      clear f0 f1 f2 f3 f4 f5 f6 f7 fz flt
      obtain ⟨y1, y2, y7, f0, f1, f2, f3, f4, f5, f6, f7, fz, flt⟩ := HX.out.cells
      dsimp only at f0 f3 f4 f5 f6
      go_upto_region 24 with fail
      clear f0 f1 f2 f3 f4 f5 f6 f7 fz flt
      obtain ⟨q0, n0, c0, q1, n1, c1, q2, n2, c2, hk, hF⟩ := HX.out.fin PP.out
      dsimp only at hk
      obtain ⟨d0, d1, d2, d3, d4, d5, d6, d7, -⟩ := box8l hk
      obtain ⟨dz, dl⟩ := box8z hk
      obtain ⟨r0, r1, r2, r3, r4, r5, r6, r7, -⟩ := box8l HX.out.res
      obtain ⟨rz, rl⟩ := box8z HX.out.res
      go_wp2
      obtain ⟨hK, F0, F1, F2, FC, FG, FW⟩ := hF.out _ _ _ rfl rfl rfl
      obtain ⟨f0, f1, f2, f3, f4, f5, f6, f7, -⟩ := box8l hK
      refine bodyPost_ret (v := .agg #[.int .i64 4, .slice q0 n0 c0, .slice q1 n1 c1, .int .i64 0, .int .i64 0, .int .i64 0, .int .i64 0, .slice q2 n2 c2]) (by simp [results, Tryz.results27, go_sem, f0, f1, f2, f3, f4, f5, f6, f7]) rfl ?_
      exact ⟨_, rfl, ⟨(4 : Int), bx, [], 0, 0, 0, 0, []⟩, ⟨_, _, _, rfl, F0, F1, F2, by unfold I64; dsimp only; omega, by unfold I64; dsimp only; omega, by unfold I64; dsimp only; omega, by unfold I64; dsimp only; omega, by unfold I64; dsimp only; omega⟩, by simp [cmdB, inB, *]; try omega, FC, FG, _, _, _, _, _, _, _, rfl, FW⟩
    · obtain ⟨y1, y2, y7, f0, f1, f2, f3, f4, f5, f6, f7, fz, flt⟩ := HX.out.cells
      dsimp only at f0 f3 f4 f5 f6
      go_wp2_with fail
      refine (l3parts_5 _).mono ?_
      rintro e w3 ⟨rfl, rfl⟩
      clear f0 f1 f2 f3 f4 f5 f6 f7 fz flt
      obtain ⟨y1, y2, y7, f0, f1, f2, f3, f4, f5, f6, f7, fz, flt⟩ := HX.out.cells
      dsimp only at f0 f3 f4 f5 f6
      go_wp2_with fail
      refine (l1Below_any w0 _ g cv L 5 HX.out.cur (by omega) (by omega)).mono ?_
      rintro e w11 ⟨a11, rfl, a11p, a11q, C, G⟩
      have HY := hidm (HX.out.draw PP.out C G)
      clear C G HX
      have HX := HY
      clear HY
      clear f0 f1 f2 f3 f4 f5 f6 f7 fz flt
      obtain ⟨y1, y2, y7, f0, f1, f2, f3, f4, f5, f6, f7, fz, flt⟩ := HX.out.cells
      dsimp only at f0 f3 f4 f5 f6
      have HY : Hid (XSt w0 w (w11.setCell ⟨w2.heap.size, 3, none⟩ (.int .i64 (1 + a11))) g w2.heap.size w.heap.size cv L ⟨(5 : Int), bx, [], (1 + a11), 0, 0, 0, []⟩) := hidm (HX.out.setI (n := (1 + a11)) PP.out (.inr (.inl ⟨rfl, rfl⟩)))
      clear HX
      have HX := HY
      clear HY
      go_upto_region 24 with fail
      clear f0 f1 f2 f3 f4 f5 f6 f7 fz flt
      generalize (w11.setCell ⟨w2.heap.size, 3, none⟩ (.int .i64 (1 + a11))) = wz at HX ⊢
      obtain ⟨q0, n0, c0, q1, n1, c1, q2, n2, c2, hk, hF⟩ := HX.out.fin PP.out
      dsimp only at hk
      obtain ⟨d0, d1, d2, d3, d4, d5, d6, d7, -⟩ := box8l hk
      obtain ⟨dz, dl⟩ := box8z hk
      obtain ⟨r0, r1, r2, r3, r4, r5, r6, r7, -⟩ := box8l HX.out.res
      obtain ⟨rz, rl⟩ := box8z HX.out.res
      go_wp2
      obtain ⟨hK, F0, F1, F2, FC, FG, FW⟩ := hF.out _ _ _ rfl rfl rfl
      obtain ⟨f0, f1, f2, f3, f4, f5, f6, f7, -⟩ := box8l hK
      refine bodyPost_ret (v := .agg #[.int .i64 5, .slice q0 n0 c0, .slice q1 n1 c1, .int .i64 (1 + a11), .int .i64 0, .int .i64 0, .int .i64 0, .slice q2 n2 c2]) (by simp [results, Tryz.results27, go_sem, f0, f1, f2, f3, f4, f5, f6, f7]) rfl ?_
      exact ⟨_, rfl, ⟨(5 : Int), bx, [], (1 + a11), 0, 0, 0, []⟩, ⟨_, _, _, rfl, F0, F1, F2, by unfold I64; dsimp only; omega, by unfold I64; dsimp only; omega, by unfold I64; dsimp only; omega, by unfold I64; dsimp only; omega, by unfold I64; dsimp only; omega⟩, by simp [cmdB, inB, *]; try omega, FC, FG, _, _, _, _, _, _, _, rfl, FW⟩
    · obtain ⟨y1, y2, y7, f0, f1, f2, f3, f4, f5, f6, f7, fz, flt⟩ := HX.out.cells
      dsimp only at f0 f3 f4 f5 f6
      go_wp2_with fail
      refine (l3parts_6 _).mono ?_
      rintro e w3 ⟨rfl, rfl⟩
      clear f0 f1 f2 f3 f4 f5 f6 f7 fz flt
      obtain ⟨y1, y2, y7, f0, f1, f2, f3, f4, f5, f6, f7, fz, flt⟩ := HX.out.cells
      dsimp only at f0 f3 f4 f5 f6
      go_wp2_with fail
      refine (l3drawName_any w0 _ g cv L HX.out.cur).mono ?_
      rintro e w11 ⟨uw11, gqw11, mw11, rfl, O, hge, mbw11, C, G⟩
      obtain ⟨cpw11, rfl⟩ := O.form
      have HY := hidm (HX.out.draw PP.out C G)
      have HQ : Hid (XSt w0 w (w11.setCell ⟨w2.heap.size, 2, none⟩ (.slice (some ⟨gqw11, 0, none⟩) mw11.length cpw11)) g w2.heap.size w.heap.size cv L ⟨(6 : Int), bx, mw11, 0, 0, 0, 0, []⟩) := hidm (HX.out.setN PP.out C G O hge (.inr (.inl ⟨rfl, rfl⟩)))
      clear O hge
      clear C G HX
      have HX := HY
      clear HY
      clear f0 f1 f2 f3 f4 f5 f6 f7 fz flt
      obtain ⟨y1, y2, y7, f0, f1, f2, f3, f4, f5, f6, f7, fz, flt⟩ := HX.out.cells
      dsimp only at f0 f3 f4 f5 f6
      have HY := HQ
      clear HQ
      clear HX
      have HX := HY
      clear HY
      go_wp2_with fail
      refine (l1Below_any w0 _ g cv L 5 HX.out.cur (by omega) (by omega)).mono ?_
      rintro e w12 ⟨a12, rfl, a12p, a12q, C, G⟩
      have HY := hidm (HX.out.draw PP.out C G)
      clear C G HX
      have HX := HY
      clear HY
      clear f0 f1 f2 f3 f4 f5 f6 f7 fz flt
      obtain ⟨y1, y2, y7, f0, f1, f2, f3, f4, f5, f6, f7, fz, flt⟩ := HX.out.cells
      dsimp only at f0 f3 f4 f5 f6
      have HY : Hid (XSt w0 w (w12.setCell ⟨w2.heap.size, 3, none⟩ (.int .i64 (1 + a12))) g w2.heap.size w.heap.size cv L ⟨(6 : Int), bx, mw11, (1 + a12), 0, 0, 0, []⟩) := hidm (HX.out.setI (n := (1 + a12)) PP.out (.inr (.inl ⟨rfl, rfl⟩)))
      clear HX
      have HX := HY
      clear HY
      go_wp2_with fail
      refine (l1Below_any w0 _ g cv L 3 HX.out.cur (by omega) (by omega)).mono ?_
      rintro e w13 ⟨a13, rfl, a13p, a13q, C, G⟩
      have HY := hidm (HX.out.draw PP.out C G)
      clear C G HX
      have HX := HY
      clear HY
      clear f0 f1 f2 f3 f4 f5 f6 f7 fz flt
      obtain ⟨y1, y2, y7, f0, f1, f2, f3, f4, f5, f6, f7, fz, flt⟩ := HX.out.cells
      dsimp only at f0 f3 f4 f5 f6
      have HY : Hid (XSt w0 w (w13.setCell ⟨w2.heap.size, 4, none⟩ (.int .i64 a13)) g w2.heap.size w.heap.size cv L ⟨(6 : Int), bx, mw11, (1 + a12), a13, 0, 0, []⟩) := hidm (HX.out.setI (n := a13) PP.out (.inr (.inr (.inl ⟨rfl, rfl⟩))))
      clear HX
      have HX := HY
      clear HY
      have hgl2 := HX.out.cur.lt.2
      have hI := intsB_made (w13.setCell ⟨w2.heap.size, 4, none⟩ (.int .i64 a13)) g [0, 1, 8, 8, 9, 31, 16] 3 0 31 hgl2 (by simp) (by simp) (by intro x hx; simp at hx; omega)
      have bA : Below _ (w13.setCell ⟨w2.heap.size, 4, none⟩ (.int .i64 a13)) ((w13.setCell ⟨w2.heap.size, 4, none⟩ (.int .i64 a13)).alloc (.cells #[.int .i64 0, .int .i64 1, .int .i64 8, .int .i64 8, .int .i64 9, .int .i64 31, .int .i64 16] 3)) := (Below.refl _ _).alloc (Nat.le_refl _) _
      have HI : Hid (IntsB ((w13.setCell ⟨w2.heap.size, 4, none⟩ (.int .i64 a13)).alloc (.cells #[.int .i64 0, .int .i64 1, .int .i64 8, .int .i64 8, .int .i64 9, .int .i64 31, .int .i64 16] 3)) (.slice (some ⟨w13.heap.size, 0, none⟩) 7 7) g 7 0 31) := by simpa [Hid] using hI
      have HZ := hidm (HX.out.below PP.out bA)
      clear hI hgl2 bA
      go_wp2_with fail
      refine (l1PickInt_b w0 _ g 7 cv _ L 0 31 HZ.out.cur HI.out).mono ?_
      rintro e w14 ⟨a14, rfl, a14p, a14q, C, G⟩
      have HY := hidm (HZ.out.draw PP.out C G)
      clear HI HZ
      clear C G HX
      have HX := HY
      clear HY
      clear f0 f1 f2 f3 f4 f5 f6 f7 fz flt
      obtain ⟨y1, y2, y7, f0, f1, f2, f3, f4, f5, f6, f7, fz, flt⟩ := HX.out.cells
      dsimp only at f0 f3 f4 f5 f6
      have HY : Hid (XSt w0 w (w14.setCell ⟨w2.heap.size, 5, none⟩ (.int .i64 a14)) g w2.heap.size w.heap.size cv L ⟨(6 : Int), bx, mw11, (1 + a12), a13, a14, 0, []⟩) := hidm (HX.out.setI (n := a14) PP.out (.inr (.inr (.inr (.inl ⟨rfl, rfl⟩)))))
      clear HX
      have HX := HY
      clear HY
      go_wp2_with fail
      refine (l1Below_any w0 _ g cv L 2 HX.out.cur (by omega) (by omega)).mono ?_
      rintro e w15 ⟨a15, rfl, a15p, a15q, C, G⟩
      have HY := hidm (HX.out.draw PP.out C G)
      clear C G HX
      have HX := HY
      clear HY
      clear f0 f1 f2 f3 f4 f5 f6 f7 fz flt
      obtain ⟨y1, y2, y7, f0, f1, f2, f3, f4, f5, f6, f7, fz, flt⟩ := HX.out.cells
      dsimp only at f0 f3 f4 f5 f6
      have HY : Hid (XSt w0 w (w15.setCell ⟨w2.heap.size, 4, none⟩ (.int .i64 a15)) g w2.heap.size w.heap.size cv L ⟨(6 : Int), bx, mw11, (1 + a12), a15, a14, 0, []⟩) := hidm (HX.out.setI (n := a15) PP.out (.inr (.inr (.inl ⟨rfl, rfl⟩))))
      clear HX
      have HX := HY
      clear HY
      have HY : Hid (XSt w0 w ((w15.setCell ⟨w2.heap.size, 4, none⟩ (.int .i64 a15)).setCell ⟨w2.heap.size, 5, none⟩ (.int .i64 0)) g w2.heap.size w.heap.size cv L ⟨(6 : Int), bx, mw11, (1 + a12), a15, 0, 0, []⟩) := hidm (HX.out.setI (n := 0) PP.out (.inr (.inr (.inr (.inl ⟨rfl, rfl⟩)))))
      clear HX
      have HX := HY
      clear HY
      go_upto_region 24 with fail
      clear f0 f1 f2 f3 f4 f5 f6 f7 fz flt
      generalize ((w15.setCell ⟨w2.heap.size, 4, none⟩ (.int .i64 a15)).setCell ⟨w2.heap.size, 5, none⟩ (.int .i64 0)) = wz at HX ⊢
      obtain ⟨q0, n0, c0, q1, n1, c1, q2, n2, c2, hk, hF⟩ := HX.out.fin PP.out
      dsimp only at hk
      obtain ⟨d0, d1, d2, d3, d4, d5, d6, d7, -⟩ := box8l hk
      obtain ⟨dz, dl⟩ := box8z hk
      obtain ⟨r0, r1, r2, r3, r4, r5, r6, r7, -⟩ := box8l HX.out.res
      obtain ⟨rz, rl⟩ := box8z HX.out.res
      go_wp2
      obtain ⟨hK, F0, F1, F2, FC, FG, FW⟩ := hF.out _ _ _ rfl rfl rfl
      obtain ⟨f0, f1, f2, f3, f4, f5, f6, f7, -⟩ := box8l hK
      refine bodyPost_ret (v := .agg #[.int .i64 6, .slice q0 n0 c0, .slice q1 n1 c1, .int .i64 (1 + a12), .int .i64 a15, .int .i64 0, .int .i64 0, .slice q2 n2 c2]) (by simp [results, Tryz.results27, go_sem, f0, f1, f2, f3, f4, f5, f6, f7]) rfl ?_
      exact ⟨_, rfl, ⟨(6 : Int), bx, mw11, (1 + a12), a15, 0, 0, []⟩, ⟨_, _, _, rfl, F0, F1, F2, by unfold I64; dsimp only; omega, by unfold I64; dsimp only; omega, by unfold I64; dsimp only; omega, by unfold I64; dsimp only; omega, by unfold I64; dsimp only; omega⟩, by simp [cmdB, inB, *]; try omega, FC, FG, _, _, _, _, _, _, _, rfl, FW⟩
    · obtain ⟨y1, y2, y7, f0, f1, f2, f3, f4, f5, f6, f7, fz, flt⟩ := HX.out.cells
      dsimp only at f0 f3 f4 f5 f6
      go_wp2_with fail
      refine (l3parts_7 _).mono ?_
      rintro e w3 ⟨rfl, rfl⟩
      clear f0 f1 f2 f3 f4 f5 f6 f7 fz flt
      obtain ⟨y1, y2, y7, f0, f1, f2, f3, f4, f5, f6, f7, fz, flt⟩ := HX.out.cells
      dsimp only at f0 f3 f4 f5 f6
      go_upto_region 24 with fail
      clear f0 f1 f2 f3 f4 f5 f6 f7 fz flt
      obtain ⟨q0, n0, c0, q1, n1, c1, q2, n2, c2, hk, hF⟩ := HX.out.fin PP.out
      dsimp only at hk
      obtain ⟨d0, d1, d2, d3, d4, d5, d6, d7, -⟩ := box8l hk
      obtain ⟨dz, dl⟩ := box8z hk
      obtain ⟨r0, r1, r2, r3, r4, r5, r6, r7, -⟩ := box8l HX.out.res
      obtain ⟨rz, rl⟩ := box8z HX.out.res
      go_wp2
      obtain ⟨hK, F0, F1, F2, FC, FG, FW⟩ := hF.out _ _ _ rfl rfl rfl
      obtain ⟨f0, f1, f2, f3, f4, f5, f6, f7, -⟩ := box8l hK
      refine bodyPost_ret (v := .agg #[.int .i64 7, .slice q0 n0 c0, .slice q1 n1 c1, .int .i64 0, .int .i64 0, .int .i64 0, .int .i64 0, .slice q2 n2 c2]) (by simp [results, Tryz.results27, go_sem, f0, f1, f2, f3, f4, f5, f6, f7]) rfl ?_
      exact ⟨_, rfl, ⟨(7 : Int), bx, [], 0, 0, 0, 0, []⟩, ⟨_, _, _, rfl, F0, F1, F2, by unfold I64; dsimp only; omega, by unfold I64; dsimp only; omega, by unfold I64; dsimp only; omega, by unfold I64; dsimp only; omega, by unfold I64; dsimp only; omega⟩, by simp [cmdB, inB, *]; try omega, FC, FG, _, _, _, _, _, _, _, rfl, FW⟩
    · obtain ⟨y1, y2, y7, f0, f1, f2, f3, f4, f5, f6, f7, fz, flt⟩ := HX.out.cells
      dsimp only at f0 f3 f4 f5 f6
      go_wp2_with fail
      refine (l3parts_8 _).mono ?_
      rintro e w3 ⟨rfl, rfl⟩
      clear f0 f1 f2 f3 f4 f5 f6 f7 fz flt
      obtain ⟨y1, y2, y7, f0, f1, f2, f3, f4, f5, f6, f7, fz, flt⟩ := HX.out.cells
      dsimp only at f0 f3 f4 f5 f6
      go_wp2_with fail
      refine (l1Below_any w0 _ g cv L 8 HX.out.cur (by omega) (by omega)).mono ?_
      rintro e w11 ⟨a11, rfl, a11p, a11q, C, G⟩
      have HY := hidm (HX.out.draw PP.out C G)
      clear C G HX
      have HX := HY
      clear HY
      clear f0 f1 f2 f3 f4 f5 f6 f7 fz flt
      obtain ⟨y1, y2, y7, f0, f1, f2, f3, f4, f5, f6, f7, fz, flt⟩ := HX.out.cells
      dsimp only at f0 f3 f4 f5 f6
      go_wp2_with fail
      refine (l1Below_any w0 _ g cv L 2 HX.out.cur (by omega) (by omega)).mono ?_
      rintro e w12 ⟨a12, rfl, a12p, a12q, C, G⟩
      have HY := hidm (HX.out.draw PP.out C G)
      clear C G HX
      have HX := HY
      clear HY
      clear f0 f1 f2 f3 f4 f5 f6 f7 fz flt
      obtain ⟨y1, y2, y7, f0, f1, f2, f3, f4, f5, f6, f7, fz, flt⟩ := HX.out.cells
      dsimp only at f0 f3 f4 f5 f6
      have hmul : 0 ≤ a11 * a12 ∧ a11 * a12 ≤ 7 := by
        obtain rfl | rfl : a12 = 0 ∨ a12 = 1 := by omega
        · omega
        · omega
      have HY : Hid (XSt w0 w (w12.setCell ⟨w2.heap.size, 6, none⟩ (.int .i64 (a11 * a12))) g w2.heap.size w.heap.size cv L ⟨(8 : Int), bx, [], 0, 0, 0, (a11 * a12), []⟩) := hidm (HX.out.setI (n := (a11 * a12)) PP.out (.inr (.inr (.inr (.inr ⟨rfl, rfl⟩)))))
      clear HX
      have HX := HY
      clear HY
      go_upto_region 24 with fail
      clear f0 f1 f2 f3 f4 f5 f6 f7 fz flt
      generalize (w12.setCell ⟨w2.heap.size, 6, none⟩ (.int .i64 (a11 * a12))) = wz at HX ⊢
      obtain ⟨q0, n0, c0, q1, n1, c1, q2, n2, c2, hk, hF⟩ := HX.out.fin PP.out
      dsimp only at hk
      obtain ⟨d0, d1, d2, d3, d4, d5, d6, d7, -⟩ := box8l hk
      obtain ⟨dz, dl⟩ := box8z hk
      obtain ⟨r0, r1, r2, r3, r4, r5, r6, r7, -⟩ := box8l HX.out.res
      obtain ⟨rz, rl⟩ := box8z HX.out.res
      go_wp2
      obtain ⟨hK, F0, F1, F2, FC, FG, FW⟩ := hF.out _ _ _ rfl rfl rfl
      obtain ⟨f0, f1, f2, f3, f4, f5, f6, f7, -⟩ := box8l hK
      refine bodyPost_ret (v := .agg #[.int .i64 8, .slice q0 n0 c0, .slice q1 n1 c1, .int .i64 0, .int .i64 0, .int .i64 0, .int .i64 (a11 * a12), .slice q2 n2 c2]) (by simp [results, Tryz.results27, go_sem, f0, f1, f2, f3, f4, f5, f6, f7]) rfl ?_
      exact ⟨_, rfl, ⟨(8 : Int), bx, [], 0, 0, 0, (a11 * a12), []⟩, ⟨_, _, _, rfl, F0, F1, F2, by unfold I64; dsimp only; omega, by unfold I64; dsimp only; omega, by unfold I64; dsimp only; omega, by unfold I64; dsimp only; omega, by unfold I64; dsimp only; omega⟩, by simp [cmdB, inB, *]; try omega, FC, FG, _, _, _, _, _, _, _, rfl, FW⟩
    · obtain ⟨y1, y2, y7, f0, f1, f2, f3, f4, f5, f6, f7, fz, flt⟩ := HX.out.cells
      dsimp only at f0 f3 f4 f5 f6
      go_wp2_with fail
      refine (l3parts_9 _).mono ?_
      rintro e w3 ⟨rfl, rfl⟩
      clear f0 f1 f2 f3 f4 f5 f6 f7 fz flt
      obtain ⟨y1, y2, y7, f0, f1, f2, f3, f4, f5, f6, f7, fz, flt⟩ := HX.out.cells
      dsimp only at f0 f3 f4 f5 f6
      have HY : Hid (XSt w0 w (w3.setCell ⟨w2.heap.size, 1, none⟩ (.slice none 0 0)) g w2.heap.size w.heap.size cv L ⟨(9 : Int), [], [], 0, 0, 0, 0, []⟩) := hidm (HX.out.setZ PP.out rfl)
      clear HX
      have HX := HY
      clear HY
      go_upto_region 24 with fail
      clear f0 f1 f2 f3 f4 f5 f6 f7 fz flt
      generalize (w3.setCell ⟨w2.heap.size, 1, none⟩ (.slice none 0 0)) = wz at HX ⊢
      obtain ⟨q0, n0, c0, q1, n1, c1, q2, n2, c2, hk, hF⟩ := HX.out.fin PP.out
      dsimp only at hk
      obtain ⟨d0, d1, d2, d3, d4, d5, d6, d7, -⟩ := box8l hk
      obtain ⟨dz, dl⟩ := box8z hk
      obtain ⟨r0, r1, r2, r3, r4, r5, r6, r7, -⟩ := box8l HX.out.res
      obtain ⟨rz, rl⟩ := box8z HX.out.res
      go_wp2
      obtain ⟨hK, F0, F1, F2, FC, FG, FW⟩ := hF.out _ _ _ rfl rfl rfl
      obtain ⟨f0, f1, f2, f3, f4, f5, f6, f7, -⟩ := box8l hK
      refine bodyPost_ret (v := .agg #[.int .i64 9, .slice q0 n0 c0, .slice q1 n1 c1, .int .i64 0, .int .i64 0, .int .i64 0, .int .i64 0, .slice q2 n2 c2]) (by simp [results, Tryz.results27, go_sem, f0, f1, f2, f3, f4, f5, f6, f7]) rfl ?_
      exact ⟨_, rfl, ⟨(9 : Int), [], [], 0, 0, 0, 0, []⟩, ⟨_, _, _, rfl, F0, F1, F2, by unfold I64; dsimp only; omega, by unfold I64; dsimp only; omega, by unfold I64; dsimp only; omega, by unfold I64; dsimp only; omega, by unfold I64; dsimp only; omega⟩, by simp [cmdB, inB, *]; try omega, FC, FG, _, _, _, _, _, _, _, rfl, FW⟩
  · obtain rfl | rfl | rfl | rfl | rfl | rfl | rfl | rfl | rfl | rfl : x = 0 ∨ x = 1 ∨ x = 2 ∨ x = 3 ∨ x = 4 ∨ x = 5 ∨ x = 6 ∨ x = 7 ∨ x = 8 ∨ x = 9 := by omega
    · obtain ⟨y1, y2, y7, f0, f1, f2, f3, f4, f5, f6, f7, fz, flt⟩ := HX.out.cells
      dsimp only at f0 f3 f4 f5 f6
      obtain ⟨w4, hcs, qx, b4⟩ : ∃ w', Sem.run Tryz.prog (convert 22 22 (.slice (some ⟨w3.heap.size, 0, none⟩) 5 5)) (w3.alloc (.cells #[.int .u8 105, .int .u8 110, .int .u8 98, .int .u8 111, .int .u8 120] 5)) = .ok (.slice (some ⟨w3.heap.size, 0, none⟩) 5 5) w' ∧ OwnQ w' w3.heap.size (.slice (some ⟨w3.heap.size, 0, none⟩) 5 5) [105, 110, 98, 111, 120] ∧ Below w3.heap.size w3 w' := lit_conv w3 [105, 110, 98, 111, 120] (by intro x hx; simp at hx; omega) (by decide)
      have HX4 := hidm (HX.out.below PP.out b4)
      have hl3 := lt_of_heap HX.out.res
      have HX5 : Hid (XSt w0 w (w4.setCell ⟨w2.heap.size, 1, none⟩ (.slice (some ⟨w3.heap.size, 0, none⟩) 5 5)) g w2.heap.size w.heap.size cv L ⟨(0 : Int), [105, 110, 98, 111, 120], [], 0, 0, 0, 0, []⟩) := hidm (HX.out.setN PP.out (HX.out.cur.below b4) (gb_below' (World.grownBy.refl _ _) b4) qx (Nat.le_refl _) (.inl ⟨rfl, rfl⟩))
      clear f0 f1 f2 f3 f4 f5 f6 f7 fz flt qx b4 HX hl3 hcl
      have HX := HX4
      clear HX4
      obtain ⟨y1, y2, y7, f0, f1, f2, f3, f4, f5, f6, f7, fz, flt⟩ := HX.out.cells
      dsimp only at f0 f3 f4 f5 f6
      go_wp2_with fail
      refine (l3parts_0 _).mono ?_
      rintro e w5 ⟨rfl, hw5⟩
      clear f0 f1 f2 f3 f4 f5 f6 f7 fz flt
      clear HX
      have HX := HX5
      clear HX5
      rw [← hw5] at HX
      generalize hq5 : (w4.setCell ⟨w2.heap.size, 1, none⟩ (.slice (some ⟨w3.heap.size, 0, none⟩) 5 5)) = w5' at hw5 ⊢
      subst hw5
      clear hq5 hcs
      obtain ⟨y1, y2, y7, f0, f1, f2, f3, f4, f5, f6, f7, fz, flt⟩ := HX.out.cells
      dsimp only at f0 f3 f4 f5 f6
      go_upto_region 24 with fail
      clear f0 f1 f2 f3 f4 f5 f6 f7 fz flt
      obtain ⟨q0, n0, c0, q1, n1, c1, q2, n2, c2, hk, hF⟩ := HX.out.fin PP.out
      dsimp only at hk
      obtain ⟨d0, d1, d2, d3, d4, d5, d6, d7, -⟩ := box8l hk
      obtain ⟨dz, dl⟩ := box8z hk
      obtain ⟨r0, r1, r2, r3, r4, r5, r6, r7, -⟩ := box8l HX.out.res
      obtain ⟨rz, rl⟩ := box8z HX.out.res
      go_wp2
      obtain ⟨hK, F0, F1, F2, FC, FG, FW⟩ := hF.out _ _ _ rfl rfl rfl
      obtain ⟨f0, f1, f2, f3, f4, f5, f6, f7, -⟩ := box8l hK
      refine bodyPost_ret (v := .agg #[.int .i64 0, .slice q0 n0 c0, .slice q1 n1 c1, .int .i64 0, .int .i64 0, .int .i64 0, .int .i64 0, .slice q2 n2 c2]) (by simp [results, Tryz.results27, go_sem, f0, f1, f2, f3, f4, f5, f6, f7]) rfl ?_
      exact ⟨_, rfl, ⟨(0 : Int), [105, 110, 98, 111, 120], [], 0, 0, 0, 0, []⟩, ⟨_, _, _, rfl, F0, F1, F2, by unfold I64; dsimp only; omega, by unfold I64; dsimp only; omega, by unfold I64; dsimp only; omega, by unfold I64; dsimp only; omega, by unfold I64; dsimp only; omega⟩, by simp [cmdB, inB, *]; try omega, FC, FG, _, _, _, _, _, _, _, rfl, FW⟩
    · obtain ⟨y1, y2, y7, f0, f1, f2, f3, f4, f5, f6, f7, fz, flt⟩ := HX.out.cells
      dsimp only at f0 f3 f4 f5 f6
      obtain ⟨w4, hcs, qx, b4⟩ : ∃ w', Sem.run Tryz.prog (convert 22 22 (.slice (some ⟨w3.heap.size, 0, none⟩) 5 5)) (w3.alloc (.cells #[.int .u8 105, .int .u8 110, .int .u8 98, .int .u8 111, .int .u8 120] 5)) = .ok (.slice (some ⟨w3.heap.size, 0, none⟩) 5 5) w' ∧ OwnQ w' w3.heap.size (.slice (some ⟨w3.heap.size, 0, none⟩) 5 5) [105, 110, 98, 111, 120] ∧ Below w3.heap.size w3 w' := lit_conv w3 [105, 110, 98, 111, 120] (by intro x hx; simp at hx; omega) (by decide)
      have HX4 := hidm (HX.out.below PP.out b4)
      have hl3 := lt_of_heap HX.out.res
      have HX5 : Hid (XSt w0 w (w4.setCell ⟨w2.heap.size, 1, none⟩ (.slice (some ⟨w3.heap.size, 0, none⟩) 5 5)) g w2.heap.size w.heap.size cv L ⟨(1 : Int), [105, 110, 98, 111, 120], [], 0, 0, 0, 0, []⟩) := hidm (HX.out.setN PP.out (HX.out.cur.below b4) (gb_below' (World.grownBy.refl _ _) b4) qx (Nat.le_refl _) (.inl ⟨rfl, rfl⟩))
      clear f0 f1 f2 f3 f4 f5 f6 f7 fz flt qx b4 HX hl3 hcl
      have HX := HX4
      clear HX4
      obtain ⟨y1, y2, y7, f0, f1, f2, f3, f4, f5, f6, f7, fz, flt⟩ := HX.out.cells
      dsimp only at f0 f3 f4 f5 f6
      go_wp2_with fail
      refine (l3parts_1 _).mono ?_
      rintro e w5 ⟨rfl, hw5⟩
      clear f0 f1 f2 f3 f4 f5 f6 f7 fz flt
      clear HX
      have HX := HX5
      clear HX5
      rw [← hw5] at HX
      generalize hq5 : (w4.setCell ⟨w2.heap.size, 1, none⟩ (.slice (some ⟨w3.heap.size, 0, none⟩) 5 5)) = w5' at hw5 ⊢
      subst hw5
      clear hq5 hcs
      obtain ⟨y1, y2, y7, f0, f1, f2, f3, f4, f5, f6, f7, fz, flt⟩ := HX.out.cells
      dsimp only at f0 f3 f4 f5 f6
      go_upto_region 24 with fail
      clear f0 f1 f2 f3 f4 f5 f6 f7 fz flt
      obtain ⟨q0, n0, c0, q1, n1, c1, q2, n2, c2, hk, hF⟩ := HX.out.fin PP.out
      dsimp only at hk
      obtain ⟨d0, d1, d2, d3, d4, d5, d6, d7, -⟩ := box8l hk
      obtain ⟨dz, dl⟩ := box8z hk
      obtain ⟨r0, r1, r2, r3, r4, r5, r6, r7, -⟩ := box8l HX.out.res
      obtain ⟨rz, rl⟩ := box8z HX.out.res
      go_wp2
      obtain ⟨hK, F0, F1, F2, FC, FG, FW⟩ := hF.out _ _ _ rfl rfl rfl
      obtain ⟨f0, f1, f2, f3, f4, f5, f6, f7, -⟩ := box8l hK
      refine bodyPost_ret (v := .agg #[.int .i64 1, .slice q0 n0 c0, .slice q1 n1 c1, .int .i64 0, .int .i64 0, .int .i64 0, .int .i64 0, .slice q2 n2 c2]) (by simp [results, Tryz.results27, go_sem, f0, f1, f2, f3, f4, f5, f6, f7]) rfl ?_
      exact ⟨_, rfl, ⟨(1 : Int), [105, 110, 98, 111, 120], [], 0, 0, 0, 0, []⟩, ⟨_, _, _, rfl, F0, F1, F2, by unfold I64; dsimp only; omega, by unfold I64; dsimp only; omega, by unfold I64; dsimp only; omega, by unfold I64; dsimp only; omega, by unfold I64; dsimp only; omega⟩, by simp [cmdB, inB, *]; try omega, FC, FG, _, _, _, _, _, _, _, rfl, FW⟩
    · obtain ⟨y1, y2, y7, f0, f1, f2, f3, f4, f5, f6, f7, fz, flt⟩ := HX.out.cells
      dsimp only at f0 f3 f4 f5 f6
      obtain ⟨w4, hcs, qx, b4⟩ : ∃ w', Sem.run Tryz.prog (convert 22 22 (.slice (some ⟨w3.heap.size, 0, none⟩) 5 5)) (w3.alloc (.cells #[.int .u8 105, .int .u8 110, .int .u8 98, .int .u8 111, .int .u8 120] 5)) = .ok (.slice (some ⟨w3.heap.size, 0, none⟩) 5 5) w' ∧ OwnQ w' w3.heap.size (.slice (some ⟨w3.heap.size, 0, none⟩) 5 5) [105, 110, 98, 111, 120] ∧ Below w3.heap.size w3 w' := lit_conv w3 [105, 110, 98, 111, 120] (by intro x hx; simp at hx; omega) (by decide)
      have HX4 := hidm (HX.out.below PP.out b4)
      have hl3 := lt_of_heap HX.out.res
      have HX5 : Hid (XSt w0 w (w4.setCell ⟨w2.heap.size, 1, none⟩ (.slice (some ⟨w3.heap.size, 0, none⟩) 5 5)) g w2.heap.size w.heap.size cv L ⟨(2 : Int), [105, 110, 98, 111, 120], [], 0, 0, 0, 0, []⟩) := hidm (HX.out.setN PP.out (HX.out.cur.below b4) (gb_below' (World.grownBy.refl _ _) b4) qx (Nat.le_refl _) (.inl ⟨rfl, rfl⟩))
      clear f0 f1 f2 f3 f4 f5 f6 f7 fz flt qx b4 HX hl3 hcl
      have HX := HX4
      clear HX4
      obtain ⟨y1, y2, y7, f0, f1, f2, f3, f4, f5, f6, f7, fz, flt⟩ := HX.out.cells
      dsimp only at f0 f3 f4 f5 f6
      go_wp2_with fail
      refine (l3parts_2 _).mono ?_
      rintro e w5 ⟨rfl, hw5⟩
      clear f0 f1 f2 f3 f4 f5 f6 f7 fz flt
      clear HX
      have HX := HX5
      clear HX5
      rw [← hw5] at HX
      generalize hq5 : (w4.setCell ⟨w2.heap.size, 1, none⟩ (.slice (some ⟨w3.heap.size, 0, none⟩) 5 5)) = w5' at hw5 ⊢
      subst hw5
      clear hq5 hcs
      obtain ⟨y1, y2, y7, f0, f1, f2, f3, f4, f5, f6, f7, fz, flt⟩ := HX.out.cells
      dsimp only at f0 f3 f4 f5 f6
      go_wp2_with fail
      refine (l1Below_any w0 _ g cv L 3 HX.out.cur (by omega) (by omega)).mono ?_
      rintro e w11 ⟨a11, rfl, a11p, a11q, C, G⟩
      have HY := hidm (HX.out.draw PP.out C G)
      clear C G HX
      have HX := HY
      clear HY
      clear f0 f1 f2 f3 f4 f5 f6 f7 fz flt
      obtain ⟨y1, y2, y7, f0, f1, f2, f3, f4, f5, f6, f7, fz, flt⟩ := HX.out.cells
      dsimp only at f0 f3 f4 f5 f6
      have HY : Hid (XSt w0 w (w11.setCell ⟨w2.heap.size, 4, none⟩ (.int .i64 a11)) g w2.heap.size w.heap.size cv L ⟨(2 : Int), [105, 110, 98, 111, 120], [], 0, a11, 0, 0, []⟩) := hidm (HX.out.setI (n := a11) PP.out (.inr (.inr (.inl ⟨rfl, rfl⟩))))
      clear HX
      have HX := HY
      clear HY
      have hgl2 := HX.out.cur.lt.2
      have hI := intsB_made (w11.setCell ⟨w2.heap.size, 4, none⟩ (.int .i64 a11)) g [0, 1, 8, 8, 9, 31, 16] 3 0 31 hgl2 (by simp) (by simp) (by intro x hx; simp at hx; omega)
      have bA : Below _ (w11.setCell ⟨w2.heap.size, 4, none⟩ (.int .i64 a11)) ((w11.setCell ⟨w2.heap.size, 4, none⟩ (.int .i64 a11)).alloc (.cells #[.int .i64 0, .int .i64 1, .int .i64 8, .int .i64 8, .int .i64 9, .int .i64 31, .int .i64 16] 3)) := (Below.refl _ _).alloc (Nat.le_refl _) _
      have HI : Hid (IntsB ((w11.setCell ⟨w2.heap.size, 4, none⟩ (.int .i64 a11)).alloc (.cells #[.int .i64 0, .int .i64 1, .int .i64 8, .int .i64 8, .int .i64 9, .int .i64 31, .int .i64 16] 3)) (.slice (some ⟨w11.heap.size, 0, none⟩) 7 7) g 7 0 31) := by simpa [Hid] using hI
      have HZ := hidm (HX.out.below PP.out bA)
      clear hI hgl2 bA
      go_wp2_with fail
      refine (l1PickInt_b w0 _ g 7 cv _ L 0 31 HZ.out.cur HI.out).mono ?_
      rintro e w12 ⟨a12, rfl, a12p, a12q, C, G⟩
      have HY := hidm (HZ.out.draw PP.out C G)
      clear HI HZ
      clear C G HX
      have HX := HY
      clear HY
      clear f0 f1 f2 f3 f4 f5 f6 f7 fz flt
      obtain ⟨y1, y2, y7, f0, f1, f2, f3, f4, f5, f6, f7, fz, flt⟩ := HX.out.cells
      dsimp only at f0 f3 f4 f5 f6
      have HY : Hid (XSt w0 w (w12.setCell ⟨w2.heap.size, 5, none⟩ (.int .i64 a12)) g w2.heap.size w.heap.size cv L ⟨(2 : Int), [105, 110, 98, 111, 120], [], 0, a11, a12, 0, []⟩) := hidm (HX.out.setI (n := a12) PP.out (.inr (.inr (.inr (.inl ⟨rfl, rfl⟩)))))
      clear HX
      have HX := HY
      clear HY
      have HY : Hid (XSt w0 w ((w12.setCell ⟨w2.heap.size, 5, none⟩ (.int .i64 a12)).setCell ⟨w2.heap.size, 4, none⟩ (.int .i64 0)) g w2.heap.size w.heap.size cv L ⟨(2 : Int), [105, 110, 98, 111, 120], [], 0, 0, a12, 0, []⟩) := hidm (HX.out.setI (n := 0) PP.out (.inr (.inr (.inl ⟨rfl, rfl⟩))))
      clear HX
      have HX := HY
      clear HY
      go_wp2_with fail
      refine (l3drawText_any w0 _ g cv L HX.out.cur).mono ?_
      rintro e w13 ⟨uw13, gqw13, mw13, rfl, O, hge, mbw13, C, G⟩
      obtain ⟨cpw13, rfl⟩ := O.form
      have HY := hidm (HX.out.draw PP.out C G)
      have HQ : Hid (XSt w0 w (w13.setCell ⟨w2.heap.size, 7, none⟩ (.slice (some ⟨gqw13, 0, none⟩) mw13.length cpw13)) g w2.heap.size w.heap.size cv L ⟨(2 : Int), [105, 110, 98, 111, 120], [], 0, 0, a12, 0, mw13⟩) := hidm (HX.out.setN PP.out C G O hge (.inr (.inr ⟨rfl, rfl⟩)))
      clear O hge
      clear C G HX
      have HX := HY
      clear HY
      clear f0 f1 f2 f3 f4 f5 f6 f7 fz flt
      obtain ⟨y1, y2, y7, f0, f1, f2, f3, f4, f5, f6, f7, fz, flt⟩ := HX.out.cells
      dsimp only at f0 f3 f4 f5 f6
      have HY := HQ
      clear HQ
      clear HX
      have HX := HY
      clear HY
      go_upto_region 24 with fail
      clear f0 f1 f2 f3 f4 f5 f6 f7 fz flt
      generalize (w13.setCell ⟨w2.heap.size, 7, none⟩ (.slice (some ⟨gqw13, 0, none⟩) mw13.length cpw13)) = wz at HX ⊢
      obtain ⟨q0, n0, c0, q1, n1, c1, q2, n2, c2, hk, hF⟩ := HX.out.fin PP.out
      dsimp only at hk
      obtain ⟨d0, d1, d2, d3, d4, d5, d6, d7, -⟩ := box8l hk
      obtain ⟨dz, dl⟩ := box8z hk
      obtain ⟨r0, r1, r2, r3, r4, r5, r6, r7, -⟩ := box8l HX.out.res
      obtain ⟨rz, rl⟩ := box8z HX.out.res
      go_wp2
      obtain ⟨hK, F0, F1, F2, FC, FG, FW⟩ := hF.out _ _ _ rfl rfl rfl
      obtain ⟨f0, f1, f2, f3, f4, f5, f6, f7, -⟩ := box8l hK
      refine bodyPost_ret (v := .agg #[.int .i64 2, .slice q0 n0 c0, .slice q1 n1 c1, .int .i64 0, .int .i64 0, .int .i64 a12, .int .i64 0, .slice q2 n2 c2]) (by simp [results, Tryz.results27, go_sem, f0, f1, f2, f3, f4, f5, f6, f7]) rfl ?_
      exact ⟨_, rfl, ⟨(2 : Int), [105, 110, 98, 111, 120], [], 0, 0, a12, 0, mw13⟩, ⟨_, _, _, rfl, F0, F1, F2, by unfold I64; dsimp only; omega, by unfold I64; dsimp only; omega, by unfold I64; dsimp only; omega, by unfold I64; dsimp only; omega, by unfold I64; dsimp only; omega⟩, by simp [cmdB, inB, *]; try omega, FC, FG, _, _, _, _, _, _, _, rfl, FW⟩
    · obtain ⟨y1, y2, y7, f0, f1, f2, f3, f4, f5, f6, f7, fz, flt⟩ := HX.out.cells
      dsimp only at f0 f3 f4 f5 f6
      obtain ⟨w4, hcs, qx, b4⟩ : ∃ w', Sem.run Tryz.prog (convert 22 22 (.slice (some ⟨w3.heap.size, 0, none⟩) 5 5)) (w3.alloc (.cells #[.int .u8 105, .int .u8 110, .int .u8 98, .int .u8 111, .int .u8 120] 5)) = .ok (.slice (some ⟨w3.heap.size, 0, none⟩) 5 5) w' ∧ OwnQ w' w3.heap.size (.slice (some ⟨w3.heap.size, 0, none⟩) 5 5) [105, 110, 98, 111, 120] ∧ Below w3.heap.size w3 w' := lit_conv w3 [105, 110, 98, 111, 120] (by intro x hx; simp at hx; omega) (by decide)
      have HX4 := hidm (HX.out.below PP.out b4)
      have hl3 := lt_of_heap HX.out.res
      have HX5 : Hid (XSt w0 w (w4.setCell ⟨w2.heap.size, 1, none⟩ (.slice (some ⟨w3.heap.size, 0, none⟩) 5 5)) g w2.heap.size w.heap.size cv L ⟨(3 : Int), [105, 110, 98, 111, 120], [], 0, 0, 0, 0, []⟩) := hidm (HX.out.setN PP.out (HX.out.cur.below b4) (gb_below' (World.grownBy.refl _ _) b4) qx (Nat.le_refl _) (.inl ⟨rfl, rfl⟩))
      clear f0 f1 f2 f3 f4 f5 f6 f7 fz flt qx b4 HX hl3 hcl
      have HX := HX4
      clear HX4
      obtain ⟨y1, y2, y7, f0, f1, f2, f3, f4, f5, f6, f7, fz, flt⟩ := HX.out.cells
      dsimp only at f0 f3 f4 f5 f6
      go_wp2_with fail
      refine (l3parts_3 _).mono ?_
      rintro e w5 ⟨rfl, hw5⟩
      clear f0 f1 f2 f3 f4 f5 f6 f7 fz flt
      clear HX
      have HX := HX5
      clear HX5
      rw [← hw5] at HX
      generalize hq5 : (w4.setCell ⟨w2.heap.size, 1, none⟩ (.slice (some ⟨w3.heap.size, 0, none⟩) 5 5)) = w5' at hw5 ⊢
      subst hw5
      clear hq5 hcs
      obtain ⟨y1, y2, y7, f0, f1, f2, f3, f4, f5, f6, f7, fz, flt⟩ := HX.out.cells
      dsimp only at f0 f3 f4 f5 f6
      go_wp2_with fail
      refine (l1Below_any w0 _ g cv L 5 HX.out.cur (by omega) (by omega)).mono ?_
      rintro e w11 ⟨a11, rfl, a11p, a11q, C, G⟩
      have HY := hidm (HX.out.draw PP.out C G)
      clear C G HX
      have HX := HY
      clear HY
      clear f0 f1 f2 f3 f4 f5 f6 f7 fz flt
      obtain ⟨y1, y2, y7, f0, f1, f2, f3, f4, f5, f6, f7, fz, flt⟩ := HX.out.cells
      dsimp only at f0 f3 f4 f5 f6
      have HY : Hid (XSt w0 w (w11.setCell ⟨w2.heap.size, 3, none⟩ (.int .i64 (1 + a11))) g w2.heap.size w.heap.size cv L ⟨(3 : Int), [105, 110, 98, 111, 120], [], (1 + a11), 0, 0, 0, []⟩) := hidm (HX.out.setI (n := (1 + a11)) PP.out (.inr (.inl ⟨rfl, rfl⟩)))
      clear HX
      have HX := HY
      clear HY
      go_wp2_with fail
      refine (l1Below_any w0 _ g cv L 3 HX.out.cur (by omega) (by omega)).mono ?_
      rintro e w12 ⟨a12, rfl, a12p, a12q, C, G⟩
      have HY := hidm (HX.out.draw PP.out C G)
      clear C G HX
      have HX := HY
      clear HY
      clear f0 f1 f2 f3 f4 f5 f6 f7 fz flt
      obtain ⟨y1, y2, y7, f0, f1, f2, f3, f4, f5, f6, f7, fz, flt⟩ := HX.out.cells
      dsimp only at f0 f3 f4 f5 f6
      have HY : Hid (XSt w0 w (w12.setCell ⟨w2.heap.size, 4, none⟩ (.int .i64 a12)) g w2.heap.size w.heap.size cv L ⟨(3 : Int), [105, 110, 98, 111, 120], [], (1 + a11), a12, 0, 0, []⟩) := hidm (HX.out.setI (n := a12) PP.out (.inr (.inr (.inl ⟨rfl, rfl⟩))))
      clear HX
      have HX := HY
      clear HY
      have hgl2 := HX.out.cur.lt.2
      have hI := intsB_made (w12.setCell ⟨w2.heap.size, 4, none⟩ (.int .i64 a12)) g [0, 1, 8, 8, 9, 31, 16] 3 0 31 hgl2 (by simp) (by simp) (by intro x hx; simp at hx; omega)
      have bA : Below _ (w12.setCell ⟨w2.heap.size, 4, none⟩ (.int .i64 a12)) ((w12.setCell ⟨w2.heap.size, 4, none⟩ (.int .i64 a12)).alloc (.cells #[.int .i64 0, .int .i64 1, .int .i64 8, .int .i64 8, .int .i64 9, .int .i64 31, .int .i64 16] 3)) := (Below.refl _ _).alloc (Nat.le_refl _) _
      have HI : Hid (IntsB ((w12.setCell ⟨w2.heap.size, 4, none⟩ (.int .i64 a12)).alloc (.cells #[.int .i64 0, .int .i64 1, .int .i64 8, .int .i64 8, .int .i64 9, .int .i64 31, .int .i64 16] 3)) (.slice (some ⟨w12.heap.size, 0, none⟩) 7 7) g 7 0 31) := by simpa [Hid] using hI
      have HZ := hidm (HX.out.below PP.out bA)
      clear hI hgl2 bA
      go_wp2_with fail
      refine (l1PickInt_b w0 _ g 7 cv _ L 0 31 HZ.out.cur HI.out).mono ?_
      rintro e w13 ⟨a13, rfl, a13p, a13q, C, G⟩
      have HY := hidm (HZ.out.draw PP.out C G)
      clear HI HZ
      clear C G HX
      have HX := HY
      clear HY
      clear f0 f1 f2 f3 f4 f5 f6 f7 fz flt
      obtain ⟨y1, y2, y7, f0, f1, f2, f3, f4, f5, f6, f7, fz, flt⟩ := HX.out.cells
      dsimp only at f0 f3 f4 f5 f6
      have HY : Hid (XSt w0 w (w13.setCell ⟨w2.heap.size, 5, none⟩ (.int .i64 a13)) g w2.heap.size w.heap.size cv L ⟨(3 : Int), [105, 110, 98, 111, 120], [], (1 + a11), a12, a13, 0, []⟩) := hidm (HX.out.setI (n := a13) PP.out (.inr (.inr (.inr (.inl ⟨rfl, rfl⟩)))))
      clear HX
      have HX := HY
      clear HY
      go_wp2_with fail
      refine (l1Below_any w0 _ g cv L 8 HX.out.cur (by omega) (by omega)).mono ?_
      rintro e w14 ⟨a14, rfl, a14p, a14q, C, G⟩
      have HY := hidm (HX.out.draw PP.out C G)
      clear C G HX
      have HX := HY
      clear HY
      clear f0 f1 f2 f3 f4 f5 f6 f7 fz flt
      obtain ⟨y1, y2, y7, f0, f1, f2, f3, f4, f5, f6, f7, fz, flt⟩ := HX.out.cells
      dsimp only at f0 f3 f4 f5 f6
      go_wp2_with fail
      refine (l1Below_any w0 _ g cv L 2 HX.out.cur (by omega) (by omega)).mono ?_
      rintro e w15 ⟨a15, rfl, a15p, a15q, C, G⟩
      have HY := hidm (HX.out.draw PP.out C G)
      clear C G HX
      have HX := HY
      clear HY
      clear f0 f1 f2 f3 f4 f5 f6 f7 fz flt
      obtain ⟨y1, y2, y7, f0, f1, f2, f3, f4, f5, f6, f7, fz, flt⟩ := HX.out.cells
      dsimp only at f0 f3 f4 f5 f6
      have hmul : 0 ≤ a14 * a15 ∧ a14 * a15 ≤ 7 := by
        obtain rfl | rfl : a15 = 0 ∨ a15 = 1 := by omega
        · omega
        · omega
      have HY : Hid (XSt w0 w (w15.setCell ⟨w2.heap.size, 6, none⟩ (.int .i64 (a14 * a15))) g w2.heap.size w.heap.size cv L ⟨(3 : Int), [105, 110, 98, 111, 120], [], (1 + a11), a12, a13, (a14 * a15), []⟩) := hidm (HX.out.setI (n := (a14 * a15)) PP.out (.inr (.inr (.inr (.inr ⟨rfl, rfl⟩)))))
      clear HX
      have HX := HY
      clear HY
      go_upto_region 24 with fail
      clear f0 f1 f2 f3 f4 f5 f6 f7 fz flt
      generalize (w15.setCell ⟨w2.heap.size, 6, none⟩ (.int .i64 (a14 * a15))) = wz at HX ⊢
      obtain ⟨q0, n0, c0, q1, n1, c1, q2, n2, c2, hk, hF⟩ := HX.out.fin PP.out
      dsimp only at hk
      obtain ⟨d0, d1, d2, d3, d4, d5, d6, d7, -⟩ := box8l hk
      obtain ⟨dz, dl⟩ := box8z hk
      obtain ⟨r0, r1, r2, r3, r4, r5, r6, r7, -⟩ := box8l HX.out.res
      obtain ⟨rz, rl⟩ := box8z HX.out.res
      go_wp2
      obtain ⟨hK, F0, F1, F2, FC, FG, FW⟩ := hF.out _ _ _ rfl rfl rfl
      obtain ⟨f0, f1, f2, f3, f4, f5, f6, f7, -⟩ := box8l hK
      refine bodyPost_ret (v := .agg #[.int .i64 3, .slice q0 n0 c0, .slice q1 n1 c1, .int .i64 (1 + a11), .int .i64 a12, .int .i64 a13, .int .i64 (a14 * a15), .slice q2 n2 c2]) (by simp [results, Tryz.results27, go_sem, f0, f1, f2, f3, f4, f5, f6, f7]) rfl ?_
      exact ⟨_, rfl, ⟨(3 : Int), [105, 110, 98, 111, 120], [], (1 + a11), a12, a13, (a14 * a15), []⟩, ⟨_, _, _, rfl, F0, F1, F2, by unfold I64; dsimp only; omega, by unfold I64; dsimp only; omega, by unfold I64; dsimp only; omega, by unfold I64; dsimp only; omega, by unfold I64; dsimp only; omega⟩, by simp [cmdB, inB, *]; try omega, FC, FG, _, _, _, _, _, _, _, rfl, FW⟩
    · obtain ⟨y1, y2, y7, f0, f1, f2, f3, f4, f5, f6, f7, fz, flt⟩ := HX.out.cells
      dsimp only at f0 f3 f4 f5 f6
      obtain ⟨w4, hcs, qx, b4⟩ : ∃ w', Sem.run Tryz.prog (convert 22 22 (.slice (some ⟨w3.heap.size, 0, none⟩) 5 5)) (w3.alloc (.cells #[.int .u8 105, .int .u8 110, .int .u8 98, .int .u8 111, .int .u8 120] 5)) = .ok (.slice (some ⟨w3.heap.size, 0, none⟩) 5 5) w' ∧ OwnQ w' w3.heap.size (.slice (some ⟨w3.heap.size, 0, none⟩) 5 5) [105, 110, 98, 111, 120] ∧ Below w3.heap.size w3 w' := lit_conv w3 [105, 110, 98, 111, 120] (by intro x hx; simp at hx; omega) (by decide)
      have HX4 := hidm (HX.out.below PP.out b4)
      have hl3 := lt_of_heap HX.out.res
      have HX5 : Hid (XSt w0 w (w4.setCell ⟨w2.heap.size, 1, none⟩ (.slice (some ⟨w3.heap.size, 0, none⟩) 5 5)) g w2.heap.size w.heap.size cv L ⟨(4 : Int), [105, 110, 98, 111, 120], [], 0, 0, 0, 0, []⟩) := hidm (HX.out.setN PP.out (HX.out.cur.below b4) (gb_below' (World.grownBy.refl _ _) b4) qx (Nat.le_refl _) (.inl ⟨rfl, rfl⟩))
      clear f0 f1 f2 f3 f4 f5 f6 f7 fz flt qx b4 HX hl3 hcl
      have HX := HX4
      clear HX4
      obtain ⟨y1, y2, y7, f0, f1, f2, f3, f4, f5, f6, f7, fz, flt⟩ := HX.out.cells
      dsimp only at f0 f3 f4 f5 f6
      go_wp2_with fail
      refine (l3parts_4 _).mono ?_
      rintro e w5 ⟨rfl, hw5⟩
      clear f0 f1 f2 f3 f4 f5 f6 f7 fz flt
      clear HX
      have HX := HX5
      clear HX5
      rw [← hw5] at HX
      generalize hq5 : (w4.setCell ⟨w2.heap.size, 1, none⟩ (.slice (some ⟨w3.heap.size, 0, none⟩) 5 5)) = w5' at hw5 ⊢
      subst hw5
      clear hq5 hcs
      obtain ⟨y1, y2, y7, f0, f1, f2, f3, f4, f5, f6, f7, fz, flt⟩ := HX.out.cells
      dsimp only at f0 f3 f4 f5 f6
      go_upto_region 24 with fail
      clear f0 f1 f2 f3 f4 f5 f6 f7 fz flt
      obtain ⟨q0, n0, c0, q1, n1, c1, q2, n2, c2, hk, hF⟩ := HX.out.fin PP.out
      dsimp only at hk
      obtain ⟨d0, d1, d2, d3, d4, d5, d6, d7, -⟩ := box8l hk
      obtain ⟨dz, dl⟩ := box8z hk
      obtain ⟨r0, r1, r2, r3, r4, r5, r6, r7, -⟩ := box8l HX.out.res
      obtain ⟨rz, rl⟩ := box8z HX.out.res
      go_wp2
      obtain ⟨hK, F0, F1, F2, FC, FG, FW⟩ := hF.out _ _ _ rfl rfl rfl
      obtain ⟨f0, f1, f2, f3, f4, f5, f6, f7, -⟩ := box8l hK
      refine bodyPost_ret (v := .agg #[.int .i64 4, .slice q0 n0 c0, .slice q1 n1 c1, .int .i64 0, .int .i64 0, .int .i64 0, .int .i64 0, .slice q2 n2 c2]) (by simp [results, Tryz.results27, go_sem, f0, f1, f2, f3, f4, f5, f6, f7]) rfl ?_
      exact ⟨_, rfl, ⟨(4 : Int), [105, 110, 98, 111, 120], [], 0, 0, 0, 0, []⟩, ⟨_, _, _, rfl, F0, F1, F2, by unfold I64; dsimp only; omega, by unfold I64; dsimp only; omega, by unfold I64; dsimp only; omega, by unfold I64; dsimp only; omega, by unfold I64; dsimp only; omega⟩, by simp [cmdB, inB, *]; try omega, FC, FG, _, _, _, _, _, _, _, rfl, FW⟩
    · obtain ⟨y1, y2, y7, f0, f1, f2, f3, f4, f5, f6, f7, fz, flt⟩ := HX.out.cells
      dsimp only at f0 f3 f4 f5 f6
      obtain ⟨w4, hcs, qx, b4⟩ : ∃ w', Sem.run Tryz.prog (convert 22 22 (.slice (some ⟨w3.heap.size, 0, none⟩) 5 5)) (w3.alloc (.cells #[.int .u8 105, .int .u8 110, .int .u8 98, .int .u8 111, .int .u8 120] 5)) = .ok (.slice (some ⟨w3.heap.size, 0, none⟩) 5 5) w' ∧ OwnQ w' w3.heap.size (.slice (some ⟨w3.heap.size, 0, none⟩) 5 5) [105, 110, 98, 111, 120] ∧ Below w3.heap.size w3 w' := lit_conv w3 [105, 110, 98, 111, 120] (by intro x hx; simp at hx; omega) (by decide)
      have HX4 := hidm (HX.out.below PP.out b4)
      have hl3 := lt_of_heap HX.out.res
      have HX5 : Hid (XSt w0 w (w4.setCell ⟨w2.heap.size, 1, none⟩ (.slice (some ⟨w3.heap.size, 0, none⟩) 5 5)) g w2.heap.size w.heap.size cv L ⟨(5 : Int), [105, 110, 98, 111, 120], [], 0, 0, 0, 0, []⟩) := hidm (HX.out.setN PP.out (HX.out.cur.below b4) (gb_below' (World.grownBy.refl _ _) b4) qx (Nat.le_refl _) (.inl ⟨rfl, rfl⟩))
      clear f0 f1 f2 f3 f4 f5 f6 f7 fz flt qx b4 HX hl3 hcl
      have HX := HX4
      clear HX4
      obtain ⟨y1, y2, y7, f0, f1, f2, f3, f4, f5, f6, f7, fz, flt⟩ := HX.out.cells
      dsimp only at f0 f3 f4 f5 f6
      go_wp2_with fail
      refine (l3parts_5 _).mono ?_
      rintro e w5 ⟨rfl, hw5⟩
      clear f0 f1 f2 f3 f4 f5 f6 f7 fz flt
      clear HX
      have HX := HX5
      clear HX5
      rw [← hw5] at HX
      generalize hq5 : (w4.setCell ⟨w2.heap.size, 1, none⟩ (.slice (some ⟨w3.heap.size, 0, none⟩) 5 5)) = w5' at hw5 ⊢
      subst hw5
      clear hq5 hcs
      obtain ⟨y1, y2, y7, f0, f1, f2, f3, f4, f5, f6, f7, fz, flt⟩ := HX.out.cells
      dsimp only at f0 f3 f4 f5 f6
      go_wp2_with fail
      refine (l1Below_any w0 _ g cv L 5 HX.out.cur (by omega) (by omega)).mono ?_
      rintro e w11 ⟨a11, rfl, a11p, a11q, C, G⟩
      have HY := hidm (HX.out.draw PP.out C G)
      clear C G HX
      have HX := HY
      clear HY
      clear f0 f1 f2 f3 f4 f5 f6 f7 fz flt
      obtain ⟨y1, y2, y7, f0, f1, f2, f3, f4, f5, f6, f7, fz, flt⟩ := HX.out.cells
      dsimp only at f0 f3 f4 f5 f6
      have HY : Hid (XSt w0 w (w11.setCell ⟨w2.heap.size, 3, none⟩ (.int .i64 (1 + a11))) g w2.heap.size w.heap.size cv L ⟨(5 : Int), [105, 110, 98, 111, 120], [], (1 + a11), 0, 0, 0, []⟩) := hidm (HX.out.setI (n := (1 + a11)) PP.out (.inr (.inl ⟨rfl, rfl⟩)))
      clear HX
      have HX := HY
      clear HY
      go_upto_region 24 with fail
      clear f0 f1 f2 f3 f4 f5 f6 f7 fz flt
      generalize (w11.setCell ⟨w2.heap.size, 3, none⟩ (.int .i64 (1 + a11))) = wz at HX ⊢
      obtain ⟨q0, n0, c0, q1, n1, c1, q2, n2, c2, hk, hF⟩ := HX.out.fin PP.out
      dsimp only at hk
      obtain ⟨d0, d1, d2, d3, d4, d5, d6, d7, -⟩ := box8l hk
      obtain ⟨dz, dl⟩ := box8z hk
      obtain ⟨r0, r1, r2, r3, r4, r5, r6, r7, -⟩ := box8l HX.out.res
      obtain ⟨rz, rl⟩ := box8z HX.out.res
      go_wp2
      obtain ⟨hK, F0, F1, F2, FC, FG, FW⟩ := hF.out _ _ _ rfl rfl rfl
      obtain ⟨f0, f1, f2, f3, f4, f5, f6, f7, -⟩ := box8l hK
      refine bodyPost_ret (v := .agg #[.int .i64 5, .slice q0 n0 c0, .slice q1 n1 c1, .int .i64 (1 + a11), .int .i64 0, .int .i64 0, .int .i64 0, .slice q2 n2 c2]) (by simp [results, Tryz.results27, go_sem, f0, f1, f2, f3, f4, f5, f6, f7]) rfl ?_
      exact ⟨_, rfl, ⟨(5 : Int), [105, 110, 98, 111, 120], [], (1 + a11), 0, 0, 0, []⟩, ⟨_, _, _, rfl, F0, F1, F2, by unfold I64; dsimp only; omega, by unfold I64; dsimp only; omega, by unfold I64; dsimp only; omega, by unfold I64; dsimp only; omega, by unfold I64; dsimp only; omega⟩, by simp [cmdB, inB, *]; try omega, FC, FG, _, _, _, _, _, _, _, rfl, FW⟩
    · obtain ⟨y1, y2, y7, f0, f1, f2, f3, f4, f5, f6, f7, fz, flt⟩ := HX.out.cells
      dsimp only at f0 f3 f4 f5 f6
      obtain ⟨w4, hcs, qx, b4⟩ : ∃ w', Sem.run Tryz.prog (convert 22 22 (.slice (some ⟨w3.heap.size, 0, none⟩) 5 5)) (w3.alloc (.cells #[.int .u8 105, .int .u8 110, .int .u8 98, .int .u8 111, .int .u8 120] 5)) = .ok (.slice (some ⟨w3.heap.size, 0, none⟩) 5 5) w' ∧ OwnQ w' w3.heap.size (.slice (some ⟨w3.heap.size, 0, none⟩) 5 5) [105, 110, 98, 111, 120] ∧ Below w3.heap.size w3 w' := lit_conv w3 [105, 110, 98, 111, 120] (by intro x hx; simp at hx; omega) (by decide)
      have HX4 := hidm (HX.out.below PP.out b4)
      have hl3 := lt_of_heap HX.out.res
      have HX5 : Hid (XSt w0 w (w4.setCell ⟨w2.heap.size, 1, none⟩ (.slice (some ⟨w3.heap.size, 0, none⟩) 5 5)) g w2.heap.size w.heap.size cv L ⟨(6 : Int), [105, 110, 98, 111, 120], [], 0, 0, 0, 0, []⟩) := hidm (HX.out.setN PP.out (HX.out.cur.below b4) (gb_below' (World.grownBy.refl _ _) b4) qx (Nat.le_refl _) (.inl ⟨rfl, rfl⟩))
      clear f0 f1 f2 f3 f4 f5 f6 f7 fz flt qx b4 HX hl3 hcl
      have HX := HX4
      clear HX4
      obtain ⟨y1, y2, y7, f0, f1, f2, f3, f4, f5, f6, f7, fz, flt⟩ := HX.out.cells
      dsimp only at f0 f3 f4 f5 f6
      go_wp2_with fail
      refine (l3parts_6 _).mono ?_
      rintro e w5 ⟨rfl, hw5⟩
      clear f0 f1 f2 f3 f4 f5 f6 f7 fz flt
      clear HX
      have HX := HX5
      clear HX5
      rw [← hw5] at HX
      generalize hq5 : (w4.setCell ⟨w2.heap.size, 1, none⟩ (.slice (some ⟨w3.heap.size, 0, none⟩) 5 5)) = w5' at hw5 ⊢
      subst hw5
      clear hq5 hcs
      obtain ⟨y1, y2, y7, f0, f1, f2, f3, f4, f5, f6, f7, fz, flt⟩ := HX.out.cells
      dsimp only at f0 f3 f4 f5 f6
      go_wp2_with fail
      refine (l3drawName_any w0 _ g cv L HX.out.cur).mono ?_
      rintro e w11 ⟨uw11, gqw11, mw11, rfl, O, hge, mbw11, C, G⟩
      obtain ⟨cpw11, rfl⟩ := O.form
      have HY := hidm (HX.out.draw PP.out C G)
      have HQ : Hid (XSt w0 w (w11.setCell ⟨w2.heap.size, 2, none⟩ (.slice (some ⟨gqw11, 0, none⟩) mw11.length cpw11)) g w2.heap.size w.heap.size cv L ⟨(6 : Int), [105, 110, 98, 111, 120], mw11, 0, 0, 0, 0, []⟩) := hidm (HX.out.setN PP.out C G O hge (.inr (.inl ⟨rfl, rfl⟩)))
      clear O hge
      clear C G HX
      have HX := HY
      clear HY
      clear f0 f1 f2 f3 f4 f5 f6 f7 fz flt
      obtain ⟨y1, y2, y7, f0, f1, f2, f3, f4, f5, f6, f7, fz, flt⟩ := HX.out.cells
      dsimp only at f0 f3 f4 f5 f6
      have HY := HQ
      clear HQ
      clear HX
      have HX := HY
      clear HY
      go_wp2_with fail
      refine (l1Below_any w0 _ g cv L 5 HX.out.cur (by omega) (by omega)).mono ?_
      rintro e w12 ⟨a12, rfl, a12p, a12q, C, G⟩
      have HY := hidm (HX.out.draw PP.out C G)
      clear C G HX
      have HX := HY
      clear HY
      clear f0 f1 f2 f3 f4 f5 f6 f7 fz flt
      obtain ⟨y1, y2, y7, f0, f1, f2, f3, f4, f5, f6, f7, fz, flt⟩ := HX.out.cells
      dsimp only at f0 f3 f4 f5 f6
      have HY : Hid (XSt w0 w (w12.setCell ⟨w2.heap.size, 3, none⟩ (.int .i64 (1 + a12))) g w2.heap.size w.heap.size cv L ⟨(6 : Int), [105, 110, 98, 111, 120], mw11, (1 + a12), 0, 0, 0, []⟩) := hidm (HX.out.setI (n := (1 + a12)) PP.out (.inr (.inl ⟨rfl, rfl⟩)))
      clear HX
      have HX := HY
      clear HY
      go_wp2_with fail
      refine (l1Below_any w0 _ g cv L 3 HX.out.cur (by omega) (by omega)).mono ?_
      rintro e w13 ⟨a13, rfl, a13p, a13q, C, G⟩
      have HY := hidm (HX.out.draw PP.out C G)
      clear C G HX
      have HX := HY
      clear HY
      clear f0 f1 f2 f3 f4 f5 f6 f7 fz flt
      obtain ⟨y1, y2, y7, f0, f1, f2, f3, f4, f5, f6, f7, fz, flt⟩ := HX.out.cells
      dsimp only at f0 f3 f4 f5 f6
      have HY : Hid (XSt w0 w (w13.setCell ⟨w2.heap.size, 4, none⟩ (.int .i64 a13)) g w2.heap.size w.heap.size cv L ⟨(6 : Int), [105, 110, 98, 111, 120], mw11, (1 + a12), a13, 0, 0, []⟩) := hidm (HX.out.setI (n := a13) PP.out (.inr (.inr (.inl ⟨rfl, rfl⟩))))
      clear HX
      have HX := HY
      clear HY
      have hgl2 := HX.out.cur.lt.2
      have hI := intsB_made (w13.setCell ⟨w2.heap.size, 4, none⟩ (.int .i64 a13)) g [0, 1, 8, 8, 9, 31, 16] 3 0 31 hgl2 (by simp) (by simp) (by intro x hx; simp at hx; omega)
      have bA : Below _ (w13.setCell ⟨w2.heap.size, 4, none⟩ (.int .i64 a13)) ((w13.setCell ⟨w2.heap.size, 4, none⟩ (.int .i64 a13)).alloc (.cells #[.int .i64 0, .int .i64 1, .int .i64 8, .int .i64 8, .int .i64 9, .int .i64 31, .int .i64 16] 3)) := (Below.refl _ _).alloc (Nat.le_refl _) _
      have HI : Hid (IntsB ((w13.setCell ⟨w2.heap.size, 4, none⟩ (.int .i64 a13)).alloc (.cells #[.int .i64 0, .int .i64 1, .int .i64 8, .int .i64 8, .int .i64 9, .int .i64 31, .int .i64 16] 3)) (.slice (some ⟨w13.heap.size, 0, none⟩) 7 7) g 7 0 31) := by simpa [Hid] using hI
      have HZ := hidm (HX.out.below PP.out bA)
      clear hI hgl2 bA
      go_wp2_with fail
      refine (l1PickInt_b w0 _ g 7 cv _ L 0 31 HZ.out.cur HI.out).mono ?_
      rintro e w14 ⟨a14, rfl, a14p, a14q, C, G⟩
      have HY := hidm (HZ.out.draw PP.out C G)
      clear HI HZ
      clear C G HX
      have HX := HY
      clear HY
      clear f0 f1 f2 f3 f4 f5 f6 f7 fz flt
      obtain ⟨y1, y2, y7, f0, f1, f2, f3, f4, f5, f6, f7, fz, flt⟩ := HX.out.cells
      dsimp only at f0 f3 f4 f5 f6
      have HY : Hid (XSt w0 w (w14.setCell ⟨w2.heap.size, 5, none⟩ (.int .i64 a14)) g w2.heap.size w.heap.size cv L ⟨(6 : Int), [105, 110, 98, 111, 120], mw11, (1 + a12), a13, a14, 0, []⟩) := hidm (HX.out.setI (n := a14) PP.out (.inr (.inr (.inr (.inl ⟨rfl, rfl⟩)))))
      clear HX
      have HX := HY
      clear HY
      go_wp2_with fail
      refine (l1Below_any w0 _ g cv L 2 HX.out.cur (by omega) (by omega)).mono ?_
      rintro e w15 ⟨a15, rfl, a15p, a15q, C, G⟩
      have HY := hidm (HX.out.draw PP.out C G)
      clear C G HX
      have HX := HY
      clear HY
      clear f0 f1 f2 f3 f4 f5 f6 f7 fz flt
      obtain ⟨y1, y2, y7, f0, f1, f2, f3, f4, f5, f6, f7, fz, flt⟩ := HX.out.cells
      dsimp only at f0 f3 f4 f5 f6
      have HY : Hid (XSt w0 w (w15.setCell ⟨w2.heap.size, 4, none⟩ (.int .i64 a15)) g w2.heap.size w.heap.size cv L ⟨(6 : Int), [105, 110, 98, 111, 120], mw11, (1 + a12), a15, a14, 0, []⟩) := hidm (HX.out.setI (n := a15) PP.out (.inr (.inr (.inl ⟨rfl, rfl⟩))))
      clear HX
      have HX := HY
      clear HY
      have HY : Hid (XSt w0 w ((w15.setCell ⟨w2.heap.size, 4, none⟩ (.int .i64 a15)).setCell ⟨w2.heap.size, 5, none⟩ (.int .i64 0)) g w2.heap.size w.heap.size cv L ⟨(6 : Int), [105, 110, 98, 111, 120], mw11, (1 + a12), a15, 0, 0, []⟩) := hidm (HX.out.setI (n := 0) PP.out (.inr (.inr (.inr (.inl ⟨rfl, rfl⟩)))))
      clear HX
      have HX := HY
      clear HY
      go_upto_region 24 with fail
      clear f0 f1 f2 f3 f4 f5 f6 f7 fz flt
      generalize ((w15.setCell ⟨w2.heap.size, 4, none⟩ (.int .i64 a15)).setCell ⟨w2.heap.size, 5, none⟩ (.int .i64 0)) = wz at HX ⊢
      obtain ⟨q0, n0, c0, q1, n1, c1, q2, n2, c2, hk, hF⟩ := HX.out.fin PP.out
      dsimp only at hk
      obtain ⟨d0, d1, d2, d3, d4, d5, d6, d7, -⟩ := box8l hk
      obtain ⟨dz, dl⟩ := box8z hk
      obtain ⟨r0, r1, r2, r3, r4, r5, r6, r7, -⟩ := box8l HX.out.res
      obtain ⟨rz, rl⟩ := box8z HX.out.res
      go_wp2
      obtain ⟨hK, F0, F1, F2, FC, FG, FW⟩ := hF.out _ _ _ rfl rfl rfl
      obtain ⟨f0, f1, f2, f3, f4, f5, f6, f7, -⟩ := box8l hK
      refine bodyPost_ret (v := .agg #[.int .i64 6, .slice q0 n0 c0, .slice q1 n1 c1, .int .i64 (1 + a12), .int .i64 a15, .int .i64 0, .int .i64 0, .slice q2 n2 c2]) (by simp [results, Tryz.results27, go_sem, f0, f1, f2, f3, f4, f5, f6, f7]) rfl ?_
      exact ⟨_, rfl, ⟨(6 : Int), [105, 110, 98, 111, 120], mw11, (1 + a12), a15, 0, 0, []⟩, ⟨_, _, _, rfl, F0, F1, F2, by unfold I64; dsimp only; omega, by unfold I64; dsimp only; omega, by unfold I64; dsimp only; omega, by unfold I64; dsimp only; omega, by unfold I64; dsimp only; omega⟩, by simp [cmdB, inB, *]; try omega, FC, FG, _, _, _, _, _, _, _, rfl, FW⟩
    · obtain ⟨y1, y2, y7, f0, f1, f2, f3, f4, f5, f6, f7, fz, flt⟩ := HX.out.cells
      dsimp only at f0 f3 f4 f5 f6
      obtain ⟨w4, hcs, qx, b4⟩ : ∃ w', Sem.run Tryz.prog (convert 22 22 (.slice (some ⟨w3.heap.size, 0, none⟩) 5 5)) (w3.alloc (.cells #[.int .u8 105, .int .u8 110, .int .u8 98, .int .u8 111, .int .u8 120] 5)) = .ok (.slice (some ⟨w3.heap.size, 0, none⟩) 5 5) w' ∧ OwnQ w' w3.heap.size (.slice (some ⟨w3.heap.size, 0, none⟩) 5 5) [105, 110, 98, 111, 120] ∧ Below w3.heap.size w3 w' := lit_conv w3 [105, 110, 98, 111, 120] (by intro x hx; simp at hx; omega) (by decide)
      have HX4 := hidm (HX.out.below PP.out b4)
      have hl3 := lt_of_heap HX.out.res
      have HX5 : Hid (XSt w0 w (w4.setCell ⟨w2.heap.size, 1, none⟩ (.slice (some ⟨w3.heap.size, 0, none⟩) 5 5)) g w2.heap.size w.heap.size cv L ⟨(7 : Int), [105, 110, 98, 111, 120], [], 0, 0, 0, 0, []⟩) := hidm (HX.out.setN PP.out (HX.out.cur.below b4) (gb_below' (World.grownBy.refl _ _) b4) qx (Nat.le_refl _) (.inl ⟨rfl, rfl⟩))
      clear f0 f1 f2 f3 f4 f5 f6 f7 fz flt qx b4 HX hl3 hcl
      have HX := HX4
      clear HX4
      obtain ⟨y1, y2, y7, f0, f1, f2, f3, f4, f5, f6, f7, fz, flt⟩ := HX.out.cells
      dsimp only at f0 f3 f4 f5 f6
      go_wp2_with fail
      refine (l3parts_7 _).mono ?_
      rintro e w5 ⟨rfl, hw5⟩
      clear f0 f1 f2 f3 f4 f5 f6 f7 fz flt
      clear HX
      have HX := HX5
      clear HX5
      rw [← hw5] at HX
      generalize hq5 : (w4.setCell ⟨w2.heap.size, 1, none⟩ (.slice (some ⟨w3.heap.size, 0, none⟩) 5 5)) = w5' at hw5 ⊢
      subst hw5
      clear hq5 hcs
      obtain ⟨y1, y2, y7, f0, f1, f2, f3, f4, f5, f6, f7, fz, flt⟩ := HX.out.cells
      dsimp only at f0 f3 f4 f5 f6
      go_upto_region 24 with fail
      clear f0 f1 f2 f3 f4 f5 f6 f7 fz flt
      obtain ⟨q0, n0, c0, q1, n1, c1, q2, n2, c2, hk, hF⟩ := HX.out.fin PP.out
      dsimp only at hk
      obtain ⟨d0, d1, d2, d3, d4, d5, d6, d7, -⟩ := box8l hk
      obtain ⟨dz, dl⟩ := box8z hk
      obtain ⟨r0, r1, r2, r3, r4, r5, r6, r7, -⟩ := box8l HX.out.res
      obtain ⟨rz, rl⟩ := box8z HX.out.res
      go_wp2
      obtain ⟨hK, F0, F1, F2, FC, FG, FW⟩ := hF.out _ _ _ rfl rfl rfl
      obtain ⟨f0, f1, f2, f3, f4, f5, f6, f7, -⟩ := box8l hK
      refine bodyPost_ret (v := .agg #[.int .i64 7, .slice q0 n0 c0, .slice q1 n1 c1, .int .i64 0, .int .i64 0, .int .i64 0, .int .i64 0, .slice q2 n2 c2]) (by simp [results, Tryz.results27, go_sem, f0, f1, f2, f3, f4, f5, f6, f7]) rfl ?_
      exact ⟨_, rfl, ⟨(7 : Int), [105, 110, 98, 111, 120], [], 0, 0, 0, 0, []⟩, ⟨_, _, _, rfl, F0, F1, F2, by unfold I64; dsimp only; omega, by unfold I64; dsimp only; omega, by unfold I64; dsimp only; omega, by unfold I64; dsimp only; omega, by unfold I64; dsimp only; omega⟩, by simp [cmdB, inB, *]; try omega, FC, FG, _, _, _, _, _, _, _, rfl, FW⟩
    · obtain ⟨y1, y2, y7, f0, f1, f2, f3, f4, f5, f6, f7, fz, flt⟩ := HX.out.cells
      dsimp only at f0 f3 f4 f5 f6
      obtain ⟨w4, hcs, qx, b4⟩ : ∃ w', Sem.run Tryz.prog (convert 22 22 (.slice (some ⟨w3.heap.size, 0, none⟩) 5 5)) (w3.alloc (.cells #[.int .u8 105, .int .u8 110, .int .u8 98, .int .u8 111, .int .u8 120] 5)) = .ok (.slice (some ⟨w3.heap.size, 0, none⟩) 5 5) w' ∧ OwnQ w' w3.heap.size (.slice (some ⟨w3.heap.size, 0, none⟩) 5 5) [105, 110, 98, 111, 120] ∧ Below w3.heap.size w3 w' := lit_conv w3 [105, 110, 98, 111, 120] (by intro x hx; simp at hx; omega) (by decide)
      have HX4 := hidm (HX.out.below PP.out b4)
      have hl3 := lt_of_heap HX.out.res
      have HX5 : Hid (XSt w0 w (w4.setCell ⟨w2.heap.size, 1, none⟩ (.slice (some ⟨w3.heap.size, 0, none⟩) 5 5)) g w2.heap.size w.heap.size cv L ⟨(8 : Int), [105, 110, 98, 111, 120], [], 0, 0, 0, 0, []⟩) := hidm (HX.out.setN PP.out (HX.out.cur.below b4) (gb_below' (World.grownBy.refl _ _) b4) qx (Nat.le_refl _) (.inl ⟨rfl, rfl⟩))
      clear f0 f1 f2 f3 f4 f5 f6 f7 fz flt qx b4 HX hl3 hcl
      have HX := HX4
      clear HX4
      obtain ⟨y1, y2, y7, f0, f1, f2, f3, f4, f5, f6, f7, fz, flt⟩ := HX.out.cells
      dsimp only at f0 f3 f4 f5 f6
      go_wp2_with fail
      refine (l3parts_8 _).mono ?_
      rintro e w5 ⟨rfl, hw5⟩
      clear f0 f1 f2 f3 f4 f5 f6 f7 fz flt
      clear HX
      have HX := HX5
      clear HX5
      rw [← hw5] at HX
      generalize hq5 : (w4.setCell ⟨w2.heap.size, 1, none⟩ (.slice (some ⟨w3.heap.size, 0, none⟩) 5 5)) = w5' at hw5 ⊢
      subst hw5
      clear hq5 hcs
      obtain ⟨y1, y2, y7, f0, f1, f2, f3, f4, f5, f6, f7, fz, flt⟩ := HX.out.cells
      dsimp only at f0 f3 f4 f5 f6
      go_wp2_with fail
      refine (l1Below_any w0 _ g cv L 8 HX.out.cur (by omega) (by omega)).mono ?_
      rintro e w11 ⟨a11, rfl, a11p, a11q, C, G⟩
      have HY := hidm (HX.out.draw PP.out C G)
      clear C G HX
      have HX := HY
      clear HY
      clear f0 f1 f2 f3 f4 f5 f6 f7 fz flt
      obtain ⟨y1, y2, y7, f0, f1, f2, f3, f4, f5, f6, f7, fz, flt⟩ := HX.out.cells
      dsimp only at f0 f3 f4 f5 f6
      go_wp2_with fail
      refine (l1Below_any w0 _ g cv L 2 HX.out.cur (by omega) (by omega)).mono ?_
      rintro e w12 ⟨a12, rfl, a12p, a12q, C, G⟩
      have HY := hidm (HX.out.draw PP.out C G)
      clear C G HX
      have HX := HY
      clear HY
      clear f0 f1 f2 f3 f4 f5 f6 f7 fz flt
      obtain ⟨y1, y2, y7, f0, f1, f2, f3, f4, f5, f6, f7, fz, flt⟩ := HX.out.cells
      dsimp only at f0 f3 f4 f5 f6
      have hmul : 0 ≤ a11 * a12 ∧ a11 * a12 ≤ 7 := by
        obtain rfl | rfl : a12 = 0 ∨ a12 = 1 := by omega
        · omega
        · omega
      have HY : Hid (XSt w0 w (w12.setCell ⟨w2.heap.size, 6, none⟩ (.int .i64 (a11 * a12))) g w2.heap.size w.heap.size cv L ⟨(8 : Int), [105, 110, 98, 111, 120], [], 0, 0, 0, (a11 * a12), []⟩) := hidm (HX.out.setI (n := (a11 * a12)) PP.out (.inr (.inr (.inr (.inr ⟨rfl, rfl⟩)))))
      clear HX
      have HX := HY
      clear HY
      go_upto_region 24 with fail
      clear f0 f1 f2 f3 f4 f5 f6 f7 fz flt
      generalize (w12.setCell ⟨w2.heap.size, 6, none⟩ (.int .i64 (a11 * a12))) = wz at HX ⊢
      obtain ⟨q0, n0, c0, q1, n1, c1, q2, n2, c2, hk, hF⟩ := HX.out.fin PP.out
      dsimp only at hk
      obtain ⟨d0, d1, d2, d3, d4, d5, d6, d7, -⟩ := box8l hk
      obtain ⟨dz, dl⟩ := box8z hk
      obtain ⟨r0, r1, r2, r3, r4, r5, r6, r7, -⟩ := box8l HX.out.res
      obtain ⟨rz, rl⟩ := box8z HX.out.res
      go_wp2
      obtain ⟨hK, F0, F1, F2, FC, FG, FW⟩ := hF.out _ _ _ rfl rfl rfl
      obtain ⟨f0, f1, f2, f3, f4, f5, f6, f7, -⟩ := box8l hK
      refine bodyPost_ret (v := .agg #[.int .i64 8, .slice q0 n0 c0, .slice q1 n1 c1, .int .i64 0, .int .i64 0, .int .i64 0, .int .i64 (a11 * a12), .slice q2 n2 c2]) (by simp [results, Tryz.results27, go_sem, f0, f1, f2, f3, f4, f5, f6, f7]) rfl ?_
      exact ⟨_, rfl, ⟨(8 : Int), [105, 110, 98, 111, 120], [], 0, 0, 0, (a11 * a12), []⟩, ⟨_, _, _, rfl, F0, F1, F2, by unfold I64; dsimp only; omega, by unfold I64; dsimp only; omega, by unfold I64; dsimp only; omega, by unfold I64; dsimp only; omega, by unfold I64; dsimp only; omega⟩, by simp [cmdB, inB, *]; try omega, FC, FG, _, _, _, _, _, _, _, rfl, FW⟩
    · obtain ⟨y1, y2, y7, f0, f1, f2, f3, f4, f5, f6, f7, fz, flt⟩ := HX.out.cells
      dsimp only at f0 f3 f4 f5 f6
      obtain ⟨w4, hcs, qx, b4⟩ : ∃ w', Sem.run Tryz.prog (convert 22 22 (.slice (some ⟨w3.heap.size, 0, none⟩) 5 5)) (w3.alloc (.cells #[.int .u8 105, .int .u8 110, .int .u8 98, .int .u8 111, .int .u8 120] 5)) = .ok (.slice (some ⟨w3.heap.size, 0, none⟩) 5 5) w' ∧ OwnQ w' w3.heap.size (.slice (some ⟨w3.heap.size, 0, none⟩) 5 5) [105, 110, 98, 111, 120] ∧ Below w3.heap.size w3 w' := lit_conv w3 [105, 110, 98, 111, 120] (by intro x hx; simp at hx; omega) (by decide)
      have HX4 := hidm (HX.out.below PP.out b4)
      have hl3 := lt_of_heap HX.out.res
      have HX5 : Hid (XSt w0 w (w4.setCell ⟨w2.heap.size, 1, none⟩ (.slice (some ⟨w3.heap.size, 0, none⟩) 5 5)) g w2.heap.size w.heap.size cv L ⟨(9 : Int), [105, 110, 98, 111, 120], [], 0, 0, 0, 0, []⟩) := hidm (HX.out.setN PP.out (HX.out.cur.below b4) (gb_below' (World.grownBy.refl _ _) b4) qx (Nat.le_refl _) (.inl ⟨rfl, rfl⟩))
      clear f0 f1 f2 f3 f4 f5 f6 f7 fz flt qx b4 HX hl3 hcl
      have HX := HX4
      clear HX4
      obtain ⟨y1, y2, y7, f0, f1, f2, f3, f4, f5, f6, f7, fz, flt⟩ := HX.out.cells
      dsimp only at f0 f3 f4 f5 f6
      go_wp2_with fail
      refine (l3parts_9 _).mono ?_
      rintro e w5 ⟨rfl, hw5⟩
      clear f0 f1 f2 f3 f4 f5 f6 f7 fz flt
      clear HX
      have HX := HX5
      clear HX5
      rw [← hw5] at HX
      generalize hq5 : (w4.setCell ⟨w2.heap.size, 1, none⟩ (.slice (some ⟨w3.heap.size, 0, none⟩) 5 5)) = w5' at hw5 ⊢
      subst hw5
      clear hq5 hcs
      obtain ⟨y1, y2, y7, f0, f1, f2, f3, f4, f5, f6, f7, fz, flt⟩ := HX.out.cells
      dsimp only at f0 f3 f4 f5 f6
      have HY : Hid (XSt w0 w (w5.setCell ⟨w2.heap.size, 1, none⟩ (.slice none 0 0)) g w2.heap.size w.heap.size cv L ⟨(9 : Int), [], [], 0, 0, 0, 0, []⟩) := hidm (HX.out.setZ PP.out rfl)
      clear HX
      have HX := HY
      clear HY
      go_upto_region 24 with fail
      clear f0 f1 f2 f3 f4 f5 f6 f7 fz flt
      generalize (w5.setCell ⟨w2.heap.size, 1, none⟩ (.slice none 0 0)) = wz at HX ⊢
      obtain ⟨q0, n0, c0, q1, n1, c1, q2, n2, c2, hk, hF⟩ := HX.out.fin PP.out
      dsimp only at hk
      obtain ⟨d0, d1, d2, d3, d4, d5, d6, d7, -⟩ := box8l hk
      obtain ⟨dz, dl⟩ := box8z hk
      obtain ⟨r0, r1, r2, r3, r4, r5, r6, r7, -⟩ := box8l HX.out.res
      obtain ⟨rz, rl⟩ := box8z HX.out.res
      go_wp2
      obtain ⟨hK, F0, F1, F2, FC, FG, FW⟩ := hF.out _ _ _ rfl rfl rfl
      obtain ⟨f0, f1, f2, f3, f4, f5, f6, f7, -⟩ := box8l hK
      refine bodyPost_ret (v := .agg #[.int .i64 9, .slice q0 n0 c0, .slice q1 n1 c1, .int .i64 0, .int .i64 0, .int .i64 0, .int .i64 0, .slice q2 n2 c2]) (by simp [results, Tryz.results27, go_sem, f0, f1, f2, f3, f4, f5, f6, f7]) rfl ?_
      exact ⟨_, rfl, ⟨(9 : Int), [], [], 0, 0, 0, 0, []⟩, ⟨_, _, _, rfl, F0, F1, F2, by unfold I64; dsimp only; omega, by unfold I64; dsimp only; omega, by unfold I64; dsimp only; omega, by unfold I64; dsimp only; omega, by unfold I64; dsimp only; omega⟩, by simp [cmdB, inB, *]; try omega, FC, FG, _, _, _, _, _, _, _, rfl, FW⟩

end Go.Proofs.YtlegmiaoablcgaaGreatDoor
