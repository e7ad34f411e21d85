/- The proof's texts, part 13. -/
import Derived.Test.YtlegmiaoablcgaaGreatDoorPart10
import Derived.Test.YtlegmiaoablcgaaGreatDoorPart12

/- What l3bentCmd of package spec draws: a command that can be read. -/
namespace Go.Proofs.YtlegmiaoablcgaaGreatDoor
open Go.RowKit
set_option maxRecDepth 100000
set_option linter.unusedVariables false
set_option linter.unusedSimpArgs false

theorem own_q {w : World} {B : Nat} {v : Value} {l : List Int} (h : OwnB w B v l) (hl : 0 < l.length) : ∃ g, B ≤ g ∧ OwnQ w g v l := by
  obtain ⟨g, hg, ho, ⟨rfl, rfl⟩ | ⟨cap, cur, h1, h2, h3, h4, h5, h6⟩⟩ := h
  · simp at hl
  · exact ⟨g, hg, ho, cap, cur, (0, 0), h1, h2, .inl rfl, h3, h4, h5, h6⟩
section
variable {w0 w w1 w' wI : World} {g k rr : Nat} {cv v0 v1 v2 : Value} {L l : List Int} {c : CmdD} {a0 a1 : Option Addr} {n0 n1 c0 c1 : Nat}
/-- The command that was drawn is put into a variable. -/
theorem XSt.start (hC : Cur w0 w1 g cv L) (hG : (w.alloc (.cells #[.int .i64 0, .slice none 0 0, .slice none 0 0, .int .i64 0, .int .i64 0, .int .i64 0, .int .i64 0, .slice none 0 0] 24)).grownBy w1 (some g)) (hg : g < w.heap.size) (hW : CmdW0 (w.alloc (.cells #[.int .i64 0, .slice none 0 0, .slice none 0 0, .int .i64 0, .int .i64 0, .int .i64 0, .int .i64 0, .slice none 0 0] 24)) w1 (.slice a0 n0 c0) (.slice a1 n1 c1) v2 c.bx c.tt c.tx) :
    XSt w0 w (w1.alloc (.cells #[.int .i64 c.k, .slice a0 n0 c0, .slice a1 n1 c1, .int .i64 c.uid, .int .i64 c.mode, .int .i64 c.fl, .int .i64 c.si, v2] 24)) g w1.heap.size w.heap.size cv L c := by
  have AB : Below w.heap.size w (w.alloc (.cells #[.int .i64 0, .slice none 0 0, .slice none 0 0, .int .i64 0, .int .i64 0, .int .i64 0, .int .i64 0, .slice none 0 0] 24)) := (Below.refl _ _).alloc (Nat.le_refl _) _
  have K0 := box_new w (.cells #[.int .i64 0, .slice none 0 0, .slice none 0 0, .int .i64 0, .int .i64 0, .int .i64 0, .int .i64 0, .slice none 0 0] 24)
  have bA : Below w1.heap.size w1 (w1.alloc (.cells #[.int .i64 c.k, .slice a0 n0 c0, .slice a1 n1 c1, .int .i64 c.uid, .int .i64 c.mode, .int .i64 c.fl, .int .i64 c.si, v2] 24)) := (Below.refl _ _).alloc (Nat.le_refl _) _
  have hs : (w.alloc (.cells #[.int .i64 0, .slice none 0 0, .slice none 0 0, .int .i64 0, .int .i64 0, .int .i64 0, .int .i64 0, .slice none 0 0] 24)).heap.size = w.heap.size + 1 := by simp
  obtain ⟨b0, b1, s0, s1, T⟩ := hW
  have hb := bA.size
  have K1 := (hG.block w.heap.size (by omega) (by simp; omega)).trans K0
  have hl1 := lt_of_heap K1
  have qb : ∀ (a : Option Addr) (n cc : Nat) (l : List Int), Bs w1 (.slice a n cc) l → (∀ b, (Value.slice a n cc).ownBlock = some b → (w.alloc (.cells #[.int .i64 0, .slice none 0 0, .slice none 0 0, .int .i64 0, .int .i64 0, .int .i64 0, .int .i64 0, .slice none 0 0] 24)).heap.size ≤ b ∧ b < w1.heap.size) → QB (w1.alloc (.cells #[.int .i64 c.k, .slice a0 n0 c0, .slice a1 n1 c1, .int .i64 c.uid, .int .i64 c.mode, .int .i64 c.fl, .int .i64 c.si, v2] 24)) g w1.heap.size w.heap.size (.slice a n cc) l := by
    intro a n cc l h1 h2
    refine ⟨⟨_, _, _, rfl⟩, h1.below bA, fun e => ?_, fun e => ?_, fun e => ?_, fun b e => ?_⟩ <;> (have := h2 _ e; omega)
  refine ⟨hC.below bA, gb_below' (gb_trans' (gb_below' (World.grownBy.refl _ _) AB) hG) bA, box_below bA K1, _, _, _, box_new w1 _, qb _ _ _ _ b0 s0, qb _ _ _ _ b1 s1, ?_⟩
  rcases T with e | ⟨q, t, t0, t1, t2⟩
  · exact .inl e
  · have := t.lt
    exact .inr ⟨q, t.below bA, t0, t1, by omega, by omega, by omega⟩
/-- A byte more is put behind the text. -/
theorem XSt.appT {q g' : Nat} {v' : Value} {x : List Int} {c' : CmdD} (h : XSt w0 wI w g k rr cv L c) (P : XPl w0 wI g k rr) (hk : w.heap[k]? = some (.cells #[.int .i64 c.k, v0, v1, .int .i64 c.uid, .int .i64 c.mode, .int .i64 c.fl, .int .i64 c.si, v2] 24 (0, 0))) (q0 : QB w g k rr v0 c.bx) (q1 : QB w g k rr v1 c.tt) (t : v0.ownBlock ≠ some q ∧ v1.ownBlock ≠ some q ∧ q ≠ g ∧ q ≠ k ∧ rr < q) (hql : q < w.heap.size)
    (hG : w.grownBy w' (some q)) (O : OwnQ w' g' v' x) (hg : g' = q ∨ w.heap.size ≤ g') (hc' : c' = { c with tx := x }) : XSt w0 wI (w'.setCell ⟨k, 7, none⟩ v') g k rr cv L c' ∧ w'.heap[k]? = w.heap[k]? := by
  have p1 := P.gI
  have p2 := P.kI
  have p0 := P.g0
  have p3 := P.rI
  have p4 := P.kr
  have hkl := lt_of_heap hk
  have hgl := h.cur.lt.2
  subst hc'
  have hB : Below (rr + 1) w w' := (Below.refl _ _).grown hG (by omega) (fun j hj => by cases hj; omega)
  have hkk := hG.block k hkl (by simp; omega)
  have hk' := hkk.trans hk
  have hS := set_gb w' k 7 v'
  have hq : k = g ∨ k = k ∨ k = rr := .inr (.inl rfl)
  have hsz := hG.size
  have fr : ∀ (v : Value) (l : List Int), QB w g k rr v l → v.ownBlock ≠ some q → QB w' g k rr v l := fun v l h hn => ⟨h.1, h.2.1.grown hG hn, h.2.2.1, h.2.2.2.1, h.2.2.2.2.1, fun b hb => ⟨(h.2.2.2.2.2 b hb).1, Nat.lt_of_lt_of_le (h.2.2.2.2.2 b hb).2 hG.size⟩⟩
  refine ⟨⟨(cur_to h.cur hB (by omega)).set (by omega) (by omega), gb_setI (gb_to h.gr hB (by omega)) p2, box_other (k := k) (i := 7) (v := v') ((hG.block rr (lt_of_heap h.res) (by simp; omega)).trans h.res) (Ne.symm P.kr), v0, v1, v', box_set (i := 7) hk', (fr _ _ q0 t.1).gb hS hq, (fr _ _ q1 t.2.1).gb hS hq, .inr ⟨g', O.frame (Below.heap_setCell _ _ _ _ (show g' ≠ k by omega)), ?_, ?_, by omega, by omega, by omega⟩⟩, hkk⟩
  · rcases hg with rfl | hg
    · exact t.1
    · intro e; have := (q0.2.2.2.2.2 _ e).2; omega
  · rcases hg with rfl | hg
    · exact t.2.1
    · intro e; have := (q1.2.2.2.2.2 _ e).2; omega
end
set_option maxRecDepth 100000 in
set_option maxHeartbeats 8000000 in
theorem l3bentCmd_any (w0 w : World) (g : Nat) (cv : Value) (L : List Int) (hc : Cur w0 w g cv L) :
    Calls Tryz.prog 12 #[.pointer (some ⟨g, 0, none⟩)] w fun e w' => ∃ u, e = .returned u ∧ (∃ c : CmdD, CmdV w' u c.k c.bx c.tt c.uid c.mode c.fl c.si c.tx ∧ CmdW w w' u c) ∧ Cur w0 w' g cv L ∧ w.grownBy w' (some g) := by
  obtain ⟨i0, hi, hz0, hz1, hz2⟩ := info_parts info5
  have AB : Below w.heap.size w (w.alloc (.cells #[.int .i64 0, .slice none 0 0, .slice none 0 0, .int .i64 0, .int .i64 0, .int .i64 0, .int .i64 0, .slice none 0 0] 24)) := (Below.refl _ _).alloc (Nat.le_refl _) _
  have hgl := hc.lt.2
  have hg0 := hc.lt.1
  have HC0 := hidm (hc.below AB)
  clear hc AB
  go_enter Tryz.func12, Tryz.ntmps12
  go_wp2_with fail
  refine (l3cmd_any w0 _ g cv L HC0.out).mono ?_
  rintro e w1 ⟨u, rfl, ⟨k, bx, tt, uid, mode, fl, si, tx⟩, hV, hok, C1, G1, a0, n0, c0, a1, n1, c1, v2, rfl, hW⟩
  have HJ : Hid (I64 k ∧ I64 uid ∧ I64 mode ∧ I64 fl ∧ I64 si) := by
    obtain ⟨u0, u1, u2, hu, -, -, -, r⟩ := hV
    exact r
  have htx : tx.length ≤ 30 := by
    simp only [cmdB, Bool.and_eq_true] at hok
    have h7 := hok.2
    split at h7
    · simp only [textB, Bool.and_eq_true, decide_eq_true_eq] at h7; exact h7.1
    · simp only [decide_eq_true_eq] at h7; omega
  have hs1 := G1.size
  simp at hs1
  have PP : Hid (XPl w0 w g w1.heap.size w.heap.size) := ⟨hgl, hg0, by omega, Nat.le_refl _, by omega⟩
  have HX := hidm (XSt.start (c := ⟨k, bx, tt, uid, mode, fl, si, tx⟩) C1 G1 hgl hW)
  dsimp only at HX
  obtain ⟨a2, n2, c2, rfl⟩ : ∃ a n c, v2 = .slice a n c := by
    rcases hW.2.2.2.2 with ⟨rfl, -⟩ | ⟨q, t, -⟩
    · exact ⟨_, _, _, rfl⟩
    · obtain ⟨cap, rfl⟩ := t.form; exact ⟨_, _, _, rfl⟩
  clear hV hok C1 G1 hW HC0
  go_wp2_with fail
  refine (l1Once_any w0 _ g cv L 8 HX.out.cur (by omega) (by omega)).mono ?_
  rintro e w2 ⟨y, rfl, C, G⟩
  have HY := hidm (HX.out.draw PP.out C G)
  clear HX C G
  have HX := HY
  clear HY
  cases y
  · go_upto_region 3 with fail
    obtain ⟨q0, n0, c0, q1, n1, c1, q2, n2, c2, hk, hF⟩ := HX.out.fin PP.out
    dsimp only at hk
    obtain ⟨d0, d1, d2, d3, d4, d5, d6, d7, -⟩ := box8l hk
    obtain ⟨dz, dl⟩ := box8z hk
    obtain ⟨r0, r1, r2, r3, r4, r5, r6, r7, -⟩ := box8l HX.out.res
    obtain ⟨rz, rl⟩ := box8z HX.out.res
    go_wp2
    obtain ⟨hK, F0, F1, F2, FC, FG, FW⟩ := hF.out _ _ _ rfl rfl rfl
    obtain ⟨f0, f1, f2, f3, f4, f5, f6, f7, -⟩ := box8l hK
    refine bodyPost_ret (v := .agg #[.int .i64 k, .slice q0 n0 c0, .slice q1 n1 c1, .int .i64 uid, .int .i64 mode, .int .i64 fl, .int .i64 si, .slice q2 n2 c2]) (by simp [results, Tryz.results12, go_sem, f0, f1, f2, f3, f4, f5, f6, f7]) rfl ?_
    exact ⟨_, rfl, ⟨⟨k, bx, tt, uid, mode, fl, si, tx⟩, ⟨_, _, _, rfl, F0, F1, F2, HJ.out.1, HJ.out.2.1, HJ.out.2.2.1, HJ.out.2.2.2.1, HJ.out.2.2.2.2⟩, _, _, _, _, _, _, _, rfl, FW⟩, FC, FG⟩
  obtain ⟨y1, y2, y7, f0, f1, f2, f3, f4, f5, f6, f7, fz, flt⟩ := HX.out.cells
  dsimp only at f0 f3 f4 f5 f6
  go_wp2_with fail
  refine (l1Below_any w0 _ g cv L 8 HX.out.cur (by omega) (by omega)).mono ?_
  rintro e w3 ⟨n, rfl, np, nq, C, G⟩
  have HY := hidm (HX.out.draw PP.out C G)
  clear HX C G f0 f1 f2 f3 f4 f5 f6 f7 fz flt
  have HX := HY
  clear HY
  obtain ⟨y1, y2, y7, f0, f1, f2, f3, f4, f5, f6, f7, fz, flt⟩ := HX.out.cells
  dsimp only at f0 f3 f4 f5 f6
  obtain rfl | rfl | rfl | rfl | rfl | rfl | rfl | rfl : n = 0 ∨ n = 1 ∨ n = 2 ∨ n = 3 ∨ n = 4 ∨ n = 5 ∨ n = 6 ∨ n = 7 := by omega
  · have hgl2 := HX.out.cur.lt.2
    have hI := intsB_made w3 g [-1, 10, 3, 6, 9] 3 (-1) 10 hgl2 (by simp) (by simp) (by intro x hx; simp at hx; omega)
    have bA : Below _ w3 (w3.alloc (.cells #[.int .i64 (-1), .int .i64 10, .int .i64 3, .int .i64 6, .int .i64 9] 3)) := (Below.refl _ _).alloc (Nat.le_refl _) _
    have HI : Hid (IntsB (w3.alloc (.cells #[.int .i64 (-1), .int .i64 10, .int .i64 3, .int .i64 6, .int .i64 9] 3)) (.slice (some ⟨w3.heap.size, 0, none⟩) 5 5) g 5 (-1) 10) := by simpa [Hid] using hI
    have HZ := hidm (HX.out.below PP.out bA)
    clear hI hgl2 bA
    go_wp2_with fail
    refine (l1PickInt_b w0 _ g 5 cv _ L (-1) 10 HZ.out.cur HI.out).mono ?_
    rintro e w4 ⟨a, rfl, ap, aq, C, G⟩
    have HY := hidm (HZ.out.draw PP.out C G)
    clear HI HZ C G HX
    have HX := HY
    clear HY
    clear f0 f1 f2 f3 f4 f5 f6 f7 fz flt
    obtain ⟨y1, y2, y7, f0, f1, f2, f3, f4, f5, f6, f7, fz, flt⟩ := HX.out.cells
    dsimp only at f0 f3 f4 f5 f6
    have HY : Hid (XSt w0 w (w4.setCell ⟨w1.heap.size, 0, none⟩ (.int .i64 a)) g w1.heap.size w.heap.size cv L ⟨a, bx, tt, uid, mode, fl, si, tx⟩) := hidm (HX.out.setI (n := a) PP.out (.inl ⟨rfl, rfl⟩))
    clear HX
    have HX := HY
    clear HY
    go_upto_region 20 with fail
    clear f0 f1 f2 f3 f4 f5 f6 f7 fz flt
    generalize (w4.setCell ⟨w1.heap.size, 0, none⟩ (.int .i64 a)) = wz at HX ⊢
    obtain ⟨q0, n0, c0, q1, n1, c1, q2, n2, c2, hk, hF⟩ := HX.out.fin PP.out
    dsimp only at hk
    obtain ⟨d0, d1, d2, d3, d4, d5, d6, d7, -⟩ := box8l hk
    obtain ⟨dz, dl⟩ := box8z hk
    obtain ⟨r0, r1, r2, r3, r4, r5, r6, r7, -⟩ := box8l HX.out.res
    obtain ⟨rz, rl⟩ := box8z HX.out.res
    go_wp2
    obtain ⟨hK, F0, F1, F2, FC, FG, FW⟩ := hF.out _ _ _ rfl rfl rfl
    obtain ⟨f0, f1, f2, f3, f4, f5, f6, f7, -⟩ := box8l hK
    refine bodyPost_ret (v := .agg #[.int .i64 a, .slice q0 n0 c0, .slice q1 n1 c1, .int .i64 uid, .int .i64 mode, .int .i64 fl, .int .i64 si, .slice q2 n2 c2]) (by simp [results, Tryz.results12, go_sem, f0, f1, f2, f3, f4, f5, f6, f7]) rfl ?_
    exact ⟨_, rfl, ⟨⟨a, bx, tt, uid, mode, fl, si, tx⟩, ⟨_, _, _, rfl, F0, F1, F2, by unfold I64; dsimp only; omega, HJ.out.2.1, HJ.out.2.2.1, HJ.out.2.2.2.1, HJ.out.2.2.2.2⟩, _, _, _, _, _, _, _, rfl, FW⟩, FC, FG⟩
  · have AB : Below w3.heap.size w3 (w3.alloc (.cells #[.string ⟨#[]⟩, .string ⟨#[65]⟩, .string ⟨#[116, 111, 111, 108, 111, 110, 103]⟩] 9)) := (Below.refl _ _).alloc (Nat.le_refl _) _
    have K0 := box_new w3 (.cells #[.string ⟨#[]⟩, .string ⟨#[65]⟩, .string ⟨#[116, 111, 111, 108, 111, 110, 103]⟩] 9)
    have HZ := hidm (HX.out.below PP.out AB)
    have hgl3 := HX.out.cur.lt.2
    clear AB
    go_wp2_with fail
    refine (l1Below_any w0 _ g cv L 3 HZ.out.cur (by omega) (by omega)).mono ?_
    rintro e w4 ⟨x, rfl, hx0, hx1, C, G⟩
    have K1 : w4.heap[w3.heap.size]? = _ := (G.block w3.heap.size (lt_of_heap K0) (by simp; omega)).trans K0
    have hl1 := lt_of_heap K1
    have HY := hidm (HZ.out.draw PP.out C G)
    clear HZ C G HX K0
    have HX := HY
    clear HY
    clear f0 f1 f2 f3 f4 f5 f6 f7 fz flt
    obtain ⟨j, rfl⟩ := Int.eq_ofNat_of_zero_le hx0
    obtain rfl | rfl | rfl : j = 0 ∨ j = 1 ∨ j = 2 := by omega
    · have hcell : w4.cell? ⟨w3.heap.size, 0, none⟩ = some (.string ⟨#[]⟩) := by rw [cell_of_row w4 w3.heap.size 0 _ _ (0, 0) K1]; rfl
      have hcv : (convert 9 22 (.string ⟨#[]⟩)).run Tryz.prog w4 = .ok (.slice (some ⟨w4.heap.size, 0, none⟩) 0 (grownCap w4 0 0 5)) (Lib.bytesWorld w4 5 (strOfNums [])) := run_convert_str [] w4
      obtain ⟨q1, q2⟩ := bytesWorldQ w4 [] (by intro x hx; simp at hx <;> omega) (by decide)
      have HY : Hid (XSt w0 w ((Lib.bytesWorld w4 5 (strOfNums [])).setCell ⟨w1.heap.size, 1, none⟩ (.slice (some ⟨w4.heap.size, 0, none⟩) 0 (grownCap w4 0 0 5))) g w1.heap.size w.heap.size cv L ⟨k, [], tt, uid, mode, fl, si, tx⟩) := hidm (HX.out.setN PP.out (HX.out.cur.below q2) (gb_below' (World.grownBy.refl _ _) q2) q1 (Nat.le_refl _) (.inl ⟨rfl, rfl⟩))
      have HX5 := hidm (HX.out.below PP.out q2)
      clear q1 q2 HX
      have HX := HX5
      clear HX5
      generalize Lib.bytesWorld w4 5 (strOfNums []) = w5 at hcv HX HY
      obtain ⟨y1, y2, y7, f0, f1, f2, f3, f4, f5, f6, f7, fz, flt⟩ := HX.out.cells
      dsimp only at f0 f3 f4 f5 f6
      clear HX
      have HX := HY
      clear HY
      generalize grownCap w4 0 0 5 = gc at hcv HX
      go_upto_region 20 with fail
      clear f0 f1 f2 f3 f4 f5 f6 f7 fz flt
      generalize (w5.setCell ⟨w1.heap.size, 1, none⟩ (.slice (some ⟨w4.heap.size, 0, none⟩) 0 gc)) = wz at HX ⊢
      obtain ⟨q0, n0, c0, q1, n1, c1, q2, n2, c2, hk, hF⟩ := HX.out.fin PP.out
      dsimp only at hk
      obtain ⟨d0, d1, d2, d3, d4, d5, d6, d7, -⟩ := box8l hk
      obtain ⟨dz, dl⟩ := box8z hk
      obtain ⟨r0, r1, r2, r3, r4, r5, r6, r7, -⟩ := box8l HX.out.res
      obtain ⟨rz, rl⟩ := box8z HX.out.res
      go_wp2
      obtain ⟨hK, F0, F1, F2, FC, FG, FW⟩ := hF.out _ _ _ rfl rfl rfl
      obtain ⟨f0, f1, f2, f3, f4, f5, f6, f7, -⟩ := box8l hK
      refine bodyPost_ret (v := .agg #[.int .i64 k, .slice q0 n0 c0, .slice q1 n1 c1, .int .i64 uid, .int .i64 mode, .int .i64 fl, .int .i64 si, .slice q2 n2 c2]) (by simp [results, Tryz.results12, go_sem, f0, f1, f2, f3, f4, f5, f6, f7]) rfl ?_
      exact ⟨_, rfl, ⟨⟨k, [], tt, uid, mode, fl, si, tx⟩, ⟨_, _, _, rfl, F0, F1, F2, HJ.out.1, HJ.out.2.1, HJ.out.2.2.1, HJ.out.2.2.2.1, HJ.out.2.2.2.2⟩, _, _, _, _, _, _, _, rfl, FW⟩, FC, FG⟩
    · have hcell : w4.cell? ⟨w3.heap.size, 1, none⟩ = some (.string ⟨#[65]⟩) := by rw [cell_of_row w4 w3.heap.size 1 _ _ (0, 0) K1]; rfl
      have hcv : (convert 9 22 (.string ⟨#[65]⟩)).run Tryz.prog w4 = .ok (.slice (some ⟨w4.heap.size, 0, none⟩) 1 (grownCap w4 1 0 5)) (Lib.bytesWorld w4 5 (strOfNums [65])) := run_convert_str [65] w4
      obtain ⟨q1, q2⟩ := bytesWorldQ w4 [65] (by intro x hx; simp at hx <;> omega) (by decide)
      have HY : Hid (XSt w0 w ((Lib.bytesWorld w4 5 (strOfNums [65])).setCell ⟨w1.heap.size, 1, none⟩ (.slice (some ⟨w4.heap.size, 0, none⟩) 1 (grownCap w4 1 0 5))) g w1.heap.size w.heap.size cv L ⟨k, [65], tt, uid, mode, fl, si, tx⟩) := hidm (HX.out.setN PP.out (HX.out.cur.below q2) (gb_below' (World.grownBy.refl _ _) q2) q1 (Nat.le_refl _) (.inl ⟨rfl, rfl⟩))
      have HX5 := hidm (HX.out.below PP.out q2)
      clear q1 q2 HX
      have HX := HX5
      clear HX5
      generalize Lib.bytesWorld w4 5 (strOfNums [65]) = w5 at hcv HX HY
      obtain ⟨y1, y2, y7, f0, f1, f2, f3, f4, f5, f6, f7, fz, flt⟩ := HX.out.cells
      dsimp only at f0 f3 f4 f5 f6
      clear HX
      have HX := HY
      clear HY
      generalize grownCap w4 1 0 5 = gc at hcv HX
      go_upto_region 20 with fail
      clear f0 f1 f2 f3 f4 f5 f6 f7 fz flt
      generalize (w5.setCell ⟨w1.heap.size, 1, none⟩ (.slice (some ⟨w4.heap.size, 0, none⟩) 1 gc)) = wz at HX ⊢
      obtain ⟨q0, n0, c0, q1, n1, c1, q2, n2, c2, hk, hF⟩ := HX.out.fin PP.out
      dsimp only at hk
      obtain ⟨d0, d1, d2, d3, d4, d5, d6, d7, -⟩ := box8l hk
      obtain ⟨dz, dl⟩ := box8z hk
      obtain ⟨r0, r1, r2, r3, r4, r5, r6, r7, -⟩ := box8l HX.out.res
      obtain ⟨rz, rl⟩ := box8z HX.out.res
      go_wp2
      obtain ⟨hK, F0, F1, F2, FC, FG, FW⟩ := hF.out _ _ _ rfl rfl rfl
      obtain ⟨f0, f1, f2, f3, f4, f5, f6, f7, -⟩ := box8l hK
      refine bodyPost_ret (v := .agg #[.int .i64 k, .slice q0 n0 c0, .slice q1 n1 c1, .int .i64 uid, .int .i64 mode, .int .i64 fl, .int .i64 si, .slice q2 n2 c2]) (by simp [results, Tryz.results12, go_sem, f0, f1, f2, f3, f4, f5, f6, f7]) rfl ?_
      exact ⟨_, rfl, ⟨⟨k, [65], tt, uid, mode, fl, si, tx⟩, ⟨_, _, _, rfl, F0, F1, F2, HJ.out.1, HJ.out.2.1, HJ.out.2.2.1, HJ.out.2.2.2.1, HJ.out.2.2.2.2⟩, _, _, _, _, _, _, _, rfl, FW⟩, FC, FG⟩
    · have hcell : w4.cell? ⟨w3.heap.size, 2, none⟩ = some (.string ⟨#[116, 111, 111, 108, 111, 110, 103]⟩) := by rw [cell_of_row w4 w3.heap.size 2 _ _ (0, 0) K1]; rfl
      have hcv : (convert 9 22 (.string ⟨#[116, 111, 111, 108, 111, 110, 103]⟩)).run Tryz.prog w4 = .ok (.slice (some ⟨w4.heap.size, 0, none⟩) 7 (grownCap w4 7 0 5)) (Lib.bytesWorld w4 5 (strOfNums [116, 111, 111, 108, 111, 110, 103])) := run_convert_str [116, 111, 111, 108, 111, 110, 103] w4
      obtain ⟨q1, q2⟩ := bytesWorldQ w4 [116, 111, 111, 108, 111, 110, 103] (by intro x hx; simp at hx <;> omega) (by decide)
      have HY : Hid (XSt w0 w ((Lib.bytesWorld w4 5 (strOfNums [116, 111, 111, 108, 111, 110, 103])).setCell ⟨w1.heap.size, 1, none⟩ (.slice (some ⟨w4.heap.size, 0, none⟩) 7 (grownCap w4 7 0 5))) g w1.heap.size w.heap.size cv L ⟨k, [116, 111, 111, 108, 111, 110, 103], tt, uid, mode, fl, si, tx⟩) := hidm (HX.out.setN PP.out (HX.out.cur.below q2) (gb_below' (World.grownBy.refl _ _) q2) q1 (Nat.le_refl _) (.inl ⟨rfl, rfl⟩))
      have HX5 := hidm (HX.out.below PP.out q2)
      clear q1 q2 HX
      have HX := HX5
      clear HX5
      generalize Lib.bytesWorld w4 5 (strOfNums [116, 111, 111, 108, 111, 110, 103]) = w5 at hcv HX HY
      obtain ⟨y1, y2, y7, f0, f1, f2, f3, f4, f5, f6, f7, fz, flt⟩ := HX.out.cells
      dsimp only at f0 f3 f4 f5 f6
      clear HX
      have HX := HY
      clear HY
      generalize grownCap w4 7 0 5 = gc at hcv HX
      go_upto_region 20 with fail
      clear f0 f1 f2 f3 f4 f5 f6 f7 fz flt
      generalize (w5.setCell ⟨w1.heap.size, 1, none⟩ (.slice (some ⟨w4.heap.size, 0, none⟩) 7 gc)) = wz at HX ⊢
      obtain ⟨q0, n0, c0, q1, n1, c1, q2, n2, c2, hk, hF⟩ := HX.out.fin PP.out
      dsimp only at hk
      obtain ⟨d0, d1, d2, d3, d4, d5, d6, d7, -⟩ := box8l hk
      obtain ⟨dz, dl⟩ := box8z hk
      obtain ⟨r0, r1, r2, r3, r4, r5, r6, r7, -⟩ := box8l HX.out.res
      obtain ⟨rz, rl⟩ := box8z HX.out.res
      go_wp2
      obtain ⟨hK, F0, F1, F2, FC, FG, FW⟩ := hF.out _ _ _ rfl rfl rfl
      obtain ⟨f0, f1, f2, f3, f4, f5, f6, f7, -⟩ := box8l hK
      refine bodyPost_ret (v := .agg #[.int .i64 k, .slice q0 n0 c0, .slice q1 n1 c1, .int .i64 uid, .int .i64 mode, .int .i64 fl, .int .i64 si, .slice q2 n2 c2]) (by simp [results, Tryz.results12, go_sem, f0, f1, f2, f3, f4, f5, f6, f7]) rfl ?_
      exact ⟨_, rfl, ⟨⟨k, [116, 111, 111, 108, 111, 110, 103], tt, uid, mode, fl, si, tx⟩, ⟨_, _, _, rfl, F0, F1, F2, HJ.out.1, HJ.out.2.1, HJ.out.2.2.1, HJ.out.2.2.2.1, HJ.out.2.2.2.2⟩, _, _, _, _, _, _, _, rfl, FW⟩, FC, FG⟩
  · have hgl2 := HX.out.cur.lt.2
    have hI := intsB_made w3 g [-1, 0, 1, 1000000, 1000001] 3 (-1) 1000001 hgl2 (by simp) (by simp) (by intro x hx; simp at hx; omega)
    have bA : Below _ w3 (w3.alloc (.cells #[.int .i64 (-1), .int .i64 0, .int .i64 1, .int .i64 1000000, .int .i64 1000001] 3)) := (Below.refl _ _).alloc (Nat.le_refl _) _
    have HI : Hid (IntsB (w3.alloc (.cells #[.int .i64 (-1), .int .i64 0, .int .i64 1, .int .i64 1000000, .int .i64 1000001] 3)) (.slice (some ⟨w3.heap.size, 0, none⟩) 5 5) g 5 (-1) 1000001) := by simpa [Hid] using hI
    have HZ := hidm (HX.out.below PP.out bA)
    clear hI hgl2 bA
    go_wp2_with fail
    refine (l1PickInt_b w0 _ g 5 cv _ L (-1) 1000001 HZ.out.cur HI.out).mono ?_
    rintro e w4 ⟨a, rfl, ap, aq, C, G⟩
    have HY := hidm (HZ.out.draw PP.out C G)
    clear HI HZ C G HX
    have HX := HY
    clear HY
    clear f0 f1 f2 f3 f4 f5 f6 f7 fz flt
    obtain ⟨y1, y2, y7, f0, f1, f2, f3, f4, f5, f6, f7, fz, flt⟩ := HX.out.cells
    dsimp only at f0 f3 f4 f5 f6
    have HY : Hid (XSt w0 w (w4.setCell ⟨w1.heap.size, 3, none⟩ (.int .i64 a)) g w1.heap.size w.heap.size cv L ⟨k, bx, tt, a, mode, fl, si, tx⟩) := hidm (HX.out.setI (n := a) PP.out (.inr (.inl ⟨rfl, rfl⟩)))
    clear HX
    have HX := HY
    clear HY
    go_upto_region 20 with fail
    clear f0 f1 f2 f3 f4 f5 f6 f7 fz flt
    generalize (w4.setCell ⟨w1.heap.size, 3, none⟩ (.int .i64 a)) = wz at HX ⊢
    obtain ⟨q0, n0, c0, q1, n1, c1, q2, n2, c2, hk, hF⟩ := HX.out.fin PP.out
    dsimp only at hk
    obtain ⟨d0, d1, d2, d3, d4, d5, d6, d7, -⟩ := box8l hk
    obtain ⟨dz, dl⟩ := box8z hk
    obtain ⟨r0, r1, r2, r3, r4, r5, r6, r7, -⟩ := box8l HX.out.res
    obtain ⟨rz, rl⟩ := box8z HX.out.res
    go_wp2
    obtain ⟨hK, F0, F1, F2, FC, FG, FW⟩ := hF.out _ _ _ rfl rfl rfl
    obtain ⟨f0, f1, f2, f3, f4, f5, f6, f7, -⟩ := box8l hK
    refine bodyPost_ret (v := .agg #[.int .i64 k, .slice q0 n0 c0, .slice q1 n1 c1, .int .i64 a, .int .i64 mode, .int .i64 fl, .int .i64 si, .slice q2 n2 c2]) (by simp [results, Tryz.results12, go_sem, f0, f1, f2, f3, f4, f5, f6, f7]) rfl ?_
    exact ⟨_, rfl, ⟨⟨k, bx, tt, a, mode, fl, si, tx⟩, ⟨_, _, _, rfl, F0, F1, F2, HJ.out.1, by unfold I64; dsimp only; omega, HJ.out.2.2.1, HJ.out.2.2.2.1, HJ.out.2.2.2.2⟩, _, _, _, _, _, _, _, rfl, FW⟩, FC, FG⟩
  · have hgl2 := HX.out.cur.lt.2
    have hI := intsB_made w3 g [-1, 1, 2, 3] 3 (-1) 3 hgl2 (by simp) (by simp) (by intro x hx; simp at hx; omega)
    have bA : Below _ w3 (w3.alloc (.cells #[.int .i64 (-1), .int .i64 1, .int .i64 2, .int .i64 3] 3)) := (Below.refl _ _).alloc (Nat.le_refl _) _
    have HI : Hid (IntsB (w3.alloc (.cells #[.int .i64 (-1), .int .i64 1, .int .i64 2, .int .i64 3] 3)) (.slice (some ⟨w3.heap.size, 0, none⟩) 4 4) g 4 (-1) 3) := by simpa [Hid] using hI
    have HZ := hidm (HX.out.below PP.out bA)
    clear hI hgl2 bA
    go_wp2_with fail
    refine (l1PickInt_b w0 _ g 4 cv _ L (-1) 3 HZ.out.cur HI.out).mono ?_
    rintro e w4 ⟨a, rfl, ap, aq, C, G⟩
    have HY := hidm (HZ.out.draw PP.out C G)
    clear HI HZ C G HX
    have HX := HY
    clear HY
    clear f0 f1 f2 f3 f4 f5 f6 f7 fz flt
    obtain ⟨y1, y2, y7, f0, f1, f2, f3, f4, f5, f6, f7, fz, flt⟩ := HX.out.cells
    dsimp only at f0 f3 f4 f5 f6
    have HY : Hid (XSt w0 w (w4.setCell ⟨w1.heap.size, 4, none⟩ (.int .i64 a)) g w1.heap.size w.heap.size cv L ⟨k, bx, tt, uid, a, fl, si, tx⟩) := hidm (HX.out.setI (n := a) PP.out (.inr (.inr (.inl ⟨rfl, rfl⟩))))
    clear HX
    have HX := HY
    clear HY
    go_upto_region 20 with fail
    clear f0 f1 f2 f3 f4 f5 f6 f7 fz flt
    generalize (w4.setCell ⟨w1.heap.size, 4, none⟩ (.int .i64 a)) = wz at HX ⊢
    obtain ⟨q0, n0, c0, q1, n1, c1, q2, n2, c2, hk, hF⟩ := HX.out.fin PP.out
    dsimp only at hk
    obtain ⟨d0, d1, d2, d3, d4, d5, d6, d7, -⟩ := box8l hk
    obtain ⟨dz, dl⟩ := box8z hk
    obtain ⟨r0, r1, r2, r3, r4, r5, r6, r7, -⟩ := box8l HX.out.res
    obtain ⟨rz, rl⟩ := box8z HX.out.res
    go_wp2
    obtain ⟨hK, F0, F1, F2, FC, FG, FW⟩ := hF.out _ _ _ rfl rfl rfl
    obtain ⟨f0, f1, f2, f3, f4, f5, f6, f7, -⟩ := box8l hK
    refine bodyPost_ret (v := .agg #[.int .i64 k, .slice q0 n0 c0, .slice q1 n1 c1, .int .i64 uid, .int .i64 a, .int .i64 fl, .int .i64 si, .slice q2 n2 c2]) (by simp [results, Tryz.results12, go_sem, f0, f1, f2, f3, f4, f5, f6, f7]) rfl ?_
    exact ⟨_, rfl, ⟨⟨k, bx, tt, uid, a, fl, si, tx⟩, ⟨_, _, _, rfl, F0, F1, F2, HJ.out.1, HJ.out.2.1, by unfold I64; dsimp only; omega, HJ.out.2.2.2.1, HJ.out.2.2.2.2⟩, _, _, _, _, _, _, _, rfl, FW⟩, FC, FG⟩
  · have hgl2 := HX.out.cur.lt.2
    have hI := intsB_made w3 g [-1, 1, 31, 32] 3 (-1) 32 hgl2 (by simp) (by simp) (by intro x hx; simp at hx; omega)
    have bA : Below _ w3 (w3.alloc (.cells #[.int .i64 (-1), .int .i64 1, .int .i64 31, .int .i64 32] 3)) := (Below.refl _ _).alloc (Nat.le_refl _) _
    have HI : Hid (IntsB (w3.alloc (.cells #[.int .i64 (-1), .int .i64 1, .int .i64 31, .int .i64 32] 3)) (.slice (some ⟨w3.heap.size, 0, none⟩) 4 4) g 4 (-1) 32) := by simpa [Hid] using hI
    have HZ := hidm (HX.out.below PP.out bA)
    clear hI hgl2 bA
    go_wp2_with fail
    refine (l1PickInt_b w0 _ g 4 cv _ L (-1) 32 HZ.out.cur HI.out).mono ?_
    rintro e w4 ⟨a, rfl, ap, aq, C, G⟩
    have HY := hidm (HZ.out.draw PP.out C G)
    clear HI HZ C G HX
    have HX := HY
    clear HY
    clear f0 f1 f2 f3 f4 f5 f6 f7 fz flt
    obtain ⟨y1, y2, y7, f0, f1, f2, f3, f4, f5, f6, f7, fz, flt⟩ := HX.out.cells
    dsimp only at f0 f3 f4 f5 f6
    have HY : Hid (XSt w0 w (w4.setCell ⟨w1.heap.size, 5, none⟩ (.int .i64 a)) g w1.heap.size w.heap.size cv L ⟨k, bx, tt, uid, mode, a, si, tx⟩) := hidm (HX.out.setI (n := a) PP.out (.inr (.inr (.inr (.inl ⟨rfl, rfl⟩)))))
    clear HX
    have HX := HY
    clear HY
    go_upto_region 20 with fail
    clear f0 f1 f2 f3 f4 f5 f6 f7 fz flt
    generalize (w4.setCell ⟨w1.heap.size, 5, none⟩ (.int .i64 a)) = wz at HX ⊢
    obtain ⟨q0, n0, c0, q1, n1, c1, q2, n2, c2, hk, hF⟩ := HX.out.fin PP.out
    dsimp only at hk
    obtain ⟨d0, d1, d2, d3, d4, d5, d6, d7, -⟩ := box8l hk
    obtain ⟨dz, dl⟩ := box8z hk
    obtain ⟨r0, r1, r2, r3, r4, r5, r6, r7, -⟩ := box8l HX.out.res
    obtain ⟨rz, rl⟩ := box8z HX.out.res
    go_wp2
    obtain ⟨hK, F0, F1, F2, FC, FG, FW⟩ := hF.out _ _ _ rfl rfl rfl
    obtain ⟨f0, f1, f2, f3, f4, f5, f6, f7, -⟩ := box8l hK
    refine bodyPost_ret (v := .agg #[.int .i64 k, .slice q0 n0 c0, .slice q1 n1 c1, .int .i64 uid, .int .i64 mode, .int .i64 a, .int .i64 si, .slice q2 n2 c2]) (by simp [results, Tryz.results12, go_sem, f0, f1, f2, f3, f4, f5, f6, f7]) rfl ?_
    exact ⟨_, rfl, ⟨⟨k, bx, tt, uid, mode, a, si, tx⟩, ⟨_, _, _, rfl, F0, F1, F2, HJ.out.1, HJ.out.2.1, HJ.out.2.2.1, by unfold I64; dsimp only; omega, HJ.out.2.2.2.2⟩, _, _, _, _, _, _, _, rfl, FW⟩, FC, FG⟩
  · have hgl2 := HX.out.cur.lt.2
    have hI := intsB_made w3 g [-1, 1, 1000000, 1000001] 3 (-1) 1000001 hgl2 (by simp) (by simp) (by intro x hx; simp at hx; omega)
    have bA : Below _ w3 (w3.alloc (.cells #[.int .i64 (-1), .int .i64 1, .int .i64 1000000, .int .i64 1000001] 3)) := (Below.refl _ _).alloc (Nat.le_refl _) _
    have HI : Hid (IntsB (w3.alloc (.cells #[.int .i64 (-1), .int .i64 1, .int .i64 1000000, .int .i64 1000001] 3)) (.slice (some ⟨w3.heap.size, 0, none⟩) 4 4) g 4 (-1) 1000001) := by simpa [Hid] using hI
    have HZ := hidm (HX.out.below PP.out bA)
    clear hI hgl2 bA
    go_wp2_with fail
    refine (l1PickInt_b w0 _ g 4 cv _ L (-1) 1000001 HZ.out.cur HI.out).mono ?_
    rintro e w4 ⟨a, rfl, ap, aq, C, G⟩
    have HY := hidm (HZ.out.draw PP.out C G)
    clear HI HZ C G HX
    have HX := HY
    clear HY
    clear f0 f1 f2 f3 f4 f5 f6 f7 fz flt
    obtain ⟨y1, y2, y7, f0, f1, f2, f3, f4, f5, f6, f7, fz, flt⟩ := HX.out.cells
    dsimp only at f0 f3 f4 f5 f6
    have HY : Hid (XSt w0 w (w4.setCell ⟨w1.heap.size, 6, none⟩ (.int .i64 a)) g w1.heap.size w.heap.size cv L ⟨k, bx, tt, uid, mode, fl, a, tx⟩) := hidm (HX.out.setI (n := a) PP.out (.inr (.inr (.inr (.inr ⟨rfl, rfl⟩)))))
    clear HX
    have HX := HY
    clear HY
    go_upto_region 20 with fail
    clear f0 f1 f2 f3 f4 f5 f6 f7 fz flt
    generalize (w4.setCell ⟨w1.heap.size, 6, none⟩ (.int .i64 a)) = wz at HX ⊢
    obtain ⟨q0, n0, c0, q1, n1, c1, q2, n2, c2, hk, hF⟩ := HX.out.fin PP.out
    dsimp only at hk
    obtain ⟨d0, d1, d2, d3, d4, d5, d6, d7, -⟩ := box8l hk
    obtain ⟨dz, dl⟩ := box8z hk
    obtain ⟨r0, r1, r2, r3, r4, r5, r6, r7, -⟩ := box8l HX.out.res
    obtain ⟨rz, rl⟩ := box8z HX.out.res
    go_wp2
    obtain ⟨hK, F0, F1, F2, FC, FG, FW⟩ := hF.out _ _ _ rfl rfl rfl
    obtain ⟨f0, f1, f2, f3, f4, f5, f6, f7, -⟩ := box8l hK
    refine bodyPost_ret (v := .agg #[.int .i64 k, .slice q0 n0 c0, .slice q1 n1 c1, .int .i64 uid, .int .i64 mode, .int .i64 fl, .int .i64 a, .slice q2 n2 c2]) (by simp [results, Tryz.results12, go_sem, f0, f1, f2, f3, f4, f5, f6, f7]) rfl ?_
    exact ⟨_, rfl, ⟨⟨k, bx, tt, uid, mode, fl, a, tx⟩, ⟨_, _, _, rfl, F0, F1, F2, HJ.out.1, HJ.out.2.1, HJ.out.2.2.1, HJ.out.2.2.2.1, by unfold I64; dsimp only; omega⟩, _, _, _, _, _, _, _, rfl, FW⟩, FC, FG⟩
  · have bA : Below w3.heap.size w3 (w3.alloc (.cells #[.int .u8 7] 5)) := (Below.refl _ _).alloc (Nat.le_refl _) _
    have HB1 := hidm (bs_one w3 7 (by omega))
    have HBA := hidm bA
    have HZ := hidm (HX.out.below PP.out bA)
    obtain ⟨v0, v1, v2, hk, q0, q1, T⟩ := HX.out.cmd
    dsimp only at hk q0 q1 T
    clear bA
    clear f0 f1 f2 f3 f4 f5 f6 f7 fz flt
    obtain ⟨f0, f1, f2, f3, f4, f5, f6, f7, flt⟩ := box8l hk
    have fz := (box8z hk).1
    rcases T with ⟨rfl, rfl⟩ | ⟨q, t, t0, t1, t2, t3, t4⟩
    · have HE : Hid (OwnB (w3.alloc (.cells #[.int .u8 7] 5)) w3.heap.size (.slice none 0 0) []) := ⟨w3.heap.size, Nat.le_refl _, oct_nil, .inl ⟨rfl, rfl⟩⟩
      go_wp2_with (at_builtin; refine wpList_append_bytes rfl (.tmp 57) (.tmp 58) 22 rfl i0 Tryz.underlying22 hi hz0 hz1 hz2 w3.heap.size _ [] rfl HE.out _ [7] rfl HB1.out (by simp) (by simp) w3 HBA.out ?_)
      rintro v' w4 OO B4 -
      obtain ⟨TX, hTX⟩ : ∃ TX : List Int, TX = [7] := ⟨_, rfl⟩
      rw [← hTX] at OO
      obtain ⟨gq, hge, O⟩ := own_q OO (by rw [hTX]; simp)
      obtain ⟨cp, rfl⟩ := O.form
      have HY : Hid (XSt w0 w (w4.setCell ⟨w1.heap.size, 7, none⟩ (.slice (some ⟨gq, 0, none⟩) TX.length cp)) g w1.heap.size w.heap.size cv L ⟨k, bx, tt, uid, mode, fl, si, TX⟩) := hidm (HX.out.setN PP.out (HX.out.cur.below B4) (gb_below' (World.grownBy.refl _ _) B4) O hge (.inr (.inr ⟨rfl, rfl⟩)))
      have HX5 := hidm (HX.out.below PP.out B4)
      clear hTX OO O hge B4 HX HE HB1 HBA HZ hk q0 q1 f0 f1 f2 f3 f4 f5 f6 f7 fz flt
      have HX := HX5
      clear HX5
      obtain ⟨y1, y2, y7, f0, f1, f2, f3, f4, f5, f6, f7, fz, flt⟩ := HX.out.cells
      dsimp only at f0 f3 f4 f5 f6
      clear HX
      have HX := HY
      clear HY
      go_upto_region 20 with fail
      clear f0 f1 f2 f3 f4 f5 f6 f7 fz flt
      generalize (w4.setCell ⟨w1.heap.size, 7, none⟩ (.slice (some ⟨gq, 0, none⟩) TX.length cp)) = wz at HX ⊢
      obtain ⟨q0, n0, c0, q1, n1, c1, q2, n2, c2, hk, hF⟩ := HX.out.fin PP.out
      dsimp only at hk
      obtain ⟨d0, d1, d2, d3, d4, d5, d6, d7, -⟩ := box8l hk
      obtain ⟨dz, dl⟩ := box8z hk
      obtain ⟨r0, r1, r2, r3, r4, r5, r6, r7, -⟩ := box8l HX.out.res
      obtain ⟨rz, rl⟩ := box8z HX.out.res
      go_wp2
      obtain ⟨hK, F0, F1, F2, FC, FG, FW⟩ := hF.out _ _ _ rfl rfl rfl
      obtain ⟨f0, f1, f2, f3, f4, f5, f6, f7, -⟩ := box8l hK
      refine bodyPost_ret (v := .agg #[.int .i64 k, .slice q0 n0 c0, .slice q1 n1 c1, .int .i64 uid, .int .i64 mode, .int .i64 fl, .int .i64 si, .slice q2 n2 c2]) (by simp [results, Tryz.results12, go_sem, f0, f1, f2, f3, f4, f5, f6, f7]) rfl ?_
      exact ⟨_, rfl, ⟨⟨k, bx, tt, uid, mode, fl, si, TX⟩, ⟨_, _, _, rfl, F0, F1, F2, HJ.out.1, HJ.out.2.1, HJ.out.2.2.1, HJ.out.2.2.2.1, HJ.out.2.2.2.2⟩, _, _, _, _, _, _, _, rfl, FW⟩, FC, FG⟩
    · have hql := Nat.lt_of_lt_of_le t.lt HBA.out.size
      have HT : Hid (OwnQ (w3.alloc (.cells #[.int .u8 7] 5)) q v2 tx) := t.below HBA.out
      have HP : Hid (∀ w4 g' v' x, OwnQ w4 g' v' x → (w3.alloc (.cells #[.int .u8 7] 5)).grownBy w4 (some q) → (g' = q ∨ (w3.alloc (.cells #[.int .u8 7] 5)).heap.size ≤ g') → XSt w0 w (w4.setCell ⟨w1.heap.size, 7, none⟩ v') g w1.heap.size w.heap.size cv L ⟨k, bx, tt, uid, mode, fl, si, x⟩ ∧ w4.heap[w1.heap.size]? = some (.cells #[.int .i64 k, v0, v1, .int .i64 uid, .int .i64 mode, .int .i64 fl, .int .i64 si, v2] 24 (0, 0))) := by
        intro w4 g' v' x O G hg
        have gA := gb_below' (World.grownBy.refl w3 (some g)) HBA.out
        have hkA := box_below HBA.out hk
        have := HZ.out.appT PP.out hkA (q0.gb gA (.inl rfl)) (q1.gb gA (.inl rfl)) ⟨t0, t1, t2, t3, t4⟩ hql G O hg rfl
        exact ⟨this.1, this.2.trans hkA⟩
      obtain ⟨TX, hTX⟩ : ∃ TX : List Int, TX = tx ++ [7] := ⟨_, rfl⟩
      obtain ⟨cp0, rfl⟩ := t.form
      clear hk q0 q1 t t0 t1 t2 t3 t4 HX HZ
      go_wp2_with (at_builtin; refine wpList_appendQ rfl (.tmp 57) (.tmp 58) 22 rfl i0 Tryz.underlying22 hi hz0 hz1 hz2 q _ tx rfl HT.out _ [7] rfl HB1.out (by simp; omega) ?_)
      rintro v' w4 g' O G hg
      rw [← hTX] at O
      obtain ⟨HX0, hk⟩ := HP.out w4 g' v' TX O G (by simpa using hg)
      obtain ⟨cp, rfl⟩ := O.form
      have HX := hidm HX0
      clear hTX O G hg HX0 HP HT HB1 HBA f0 f1 f2 f3 f4 f5 f6 f7 fz flt
      obtain ⟨f0, f1, f2, f3, f4, f5, f6, f7, flt⟩ := box8l hk
      have fz := (box8z hk).1
      clear hk
      go_upto_region 20 with fail
      clear f0 f1 f2 f3 f4 f5 f6 f7 fz flt
      generalize (w4.setCell ⟨w1.heap.size, 7, none⟩ (.slice (some ⟨g', 0, none⟩) TX.length cp)) = wz at HX ⊢
      obtain ⟨q0, n0, c0, q1, n1, c1, q2, n2, c2, hk, hF⟩ := HX.out.fin PP.out
      dsimp only at hk
      obtain ⟨d0, d1, d2, d3, d4, d5, d6, d7, -⟩ := box8l hk
      obtain ⟨dz, dl⟩ := box8z hk
      obtain ⟨r0, r1, r2, r3, r4, r5, r6, r7, -⟩ := box8l HX.out.res
      obtain ⟨rz, rl⟩ := box8z HX.out.res
      go_wp2
      obtain ⟨hK, F0, F1, F2, FC, FG, FW⟩ := hF.out _ _ _ rfl rfl rfl
      obtain ⟨f0, f1, f2, f3, f4, f5, f6, f7, -⟩ := box8l hK
      refine bodyPost_ret (v := .agg #[.int .i64 k, .slice q0 n0 c0, .slice q1 n1 c1, .int .i64 uid, .int .i64 mode, .int .i64 fl, .int .i64 si, .slice q2 n2 c2]) (by simp [results, Tryz.results12, go_sem, f0, f1, f2, f3, f4, f5, f6, f7]) rfl ?_
      exact ⟨_, rfl, ⟨⟨k, bx, tt, uid, mode, fl, si, TX⟩, ⟨_, _, _, rfl, F0, F1, F2, HJ.out.1, HJ.out.2.1, HJ.out.2.2.1, HJ.out.2.2.2.1, HJ.out.2.2.2.2⟩, _, _, _, _, _, _, _, rfl, FW⟩, FC, FG⟩
  · obtain ⟨w4, hcs, qx, b4⟩ : ∃ w', Sem.run Tryz.prog (convert 22 22 (.slice (some ⟨w3.heap.size, 0, none⟩) 4 4)) (w3.alloc (.cells #[.int .u8 115, .int .u8 101, .int .u8 110, .int .u8 116] 5)) = .ok (.slice (some ⟨w3.heap.size, 0, none⟩) 4 4) w' ∧ OwnQ w' w3.heap.size (.slice (some ⟨w3.heap.size, 0, none⟩) 4 4) [115, 101, 110, 116] ∧ Below w3.heap.size w3 w' := lit_conv w3 [115, 101, 110, 116] (by intro x hx; simp at hx; omega) (by decide)
    have HY : Hid (XSt w0 w (w4.setCell ⟨w1.heap.size, 2, none⟩ (.slice (some ⟨w3.heap.size, 0, none⟩) 4 4)) g w1.heap.size w.heap.size cv L ⟨k, bx, [115, 101, 110, 116], uid, mode, fl, si, tx⟩) := hidm (HX.out.setN PP.out (HX.out.cur.below b4) (gb_below' (World.grownBy.refl _ _) b4) qx (Nat.le_refl _) (.inr (.inl ⟨rfl, rfl⟩)))
    have HX5 := hidm (HX.out.below PP.out b4)
    clear qx b4 HX
    have HX := HX5
    clear HX5
    clear f0 f1 f2 f3 f4 f5 f6 f7 fz flt
    obtain ⟨y1, y2, y7, f0, f1, f2, f3, f4, f5, f6, f7, fz, flt⟩ := HX.out.cells
    dsimp only at f0 f3 f4 f5 f6
    clear HX
    have HX := HY
    clear HY
    go_upto_region 20 with fail
    clear f0 f1 f2 f3 f4 f5 f6 f7 fz flt
    generalize (w4.setCell ⟨w1.heap.size, 2, none⟩ (.slice (some ⟨w3.heap.size, 0, none⟩) 4 4)) = wz at HX ⊢
    obtain ⟨q0, n0, c0, q1, n1, c1, q2, n2, c2, hk, hF⟩ := HX.out.fin PP.out
    dsimp only at hk
    obtain ⟨d0, d1, d2, d3, d4, d5, d6, d7, -⟩ := box8l hk
    obtain ⟨dz, dl⟩ := box8z hk
    obtain ⟨r0, r1, r2, r3, r4, r5, r6, r7, -⟩ := box8l HX.out.res
    obtain ⟨rz, rl⟩ := box8z HX.out.res
    go_wp2
    obtain ⟨hK, F0, F1, F2, FC, FG, FW⟩ := hF.out _ _ _ rfl rfl rfl
    obtain ⟨f0, f1, f2, f3, f4, f5, f6, f7, -⟩ := box8l hK
    refine bodyPost_ret (v := .agg #[.int .i64 k, .slice q0 n0 c0, .slice q1 n1 c1, .int .i64 uid, .int .i64 mode, .int .i64 fl, .int .i64 si, .slice q2 n2 c2]) (by simp [results, Tryz.results12, go_sem, f0, f1, f2, f3, f4, f5, f6, f7]) rfl ?_
    exact ⟨_, rfl, ⟨⟨k, bx, [115, 101, 110, 116], uid, mode, fl, si, tx⟩, ⟨_, _, _, rfl, F0, F1, F2, HJ.out.1, HJ.out.2.1, HJ.out.2.2.1, HJ.out.2.2.2.1, HJ.out.2.2.2.2⟩, _, _, _, _, _, _, _, rfl, FW⟩, FC, FG⟩

set_option maxRecDepth 100000 in
theorem drawCmdText_any (v : Value) (L : List Int) (w : World) (hv : Bs w v L) :
    Calls Tryz.prog 4 #[v] w fun e w' => ∃ u, e = .returned u ∧ (∃ c : CmdD, CmdV w' u c.k c.bx c.tt c.uid c.mode c.fl c.si c.tx) ∧ Below w.heap.size w w' := by
  have AB : Below w.heap.size w (w.alloc (.cells #[.int .i64 0, .slice none 0 0, .slice none 0 0, .int .i64 0, .int .i64 0, .int .i64 0, .int .i64 0, .slice none 0 0] 24)) := (Below.refl _ _).alloc (Nat.le_refl _) _
  have K0 := box_new w (.cells #[.int .i64 0, .slice none 0 0, .slice none 0 0, .int .i64 0, .int .i64 0, .int .i64 0, .int .i64 0, .slice none 0 0] 24)
  have HV := hidm (hv.below AB)
  have HAB := hidm AB
  clear hv AB
  go_enter Tryz.func4, Tryz.ntmps4
  go_wp2_with fail
  refine (l1New_any _ L _ HV.out).mono ?_
  rintro e w1 ⟨g, rfl, C1, -⟩
  have HC1 := hidm C1
  clear C1
  go_wp2_with fail
  refine (l3bentCmd_any _ _ g v L HC1.out).mono ?_
  rintro e w2 ⟨u, rfl, ⟨⟨k, bx, tt, uid, mode, fl, si, tx⟩, hc, a0, n0, c0, a1, n1, c1, v2, hu, hW⟩, C2, -⟩
  have B2 := C2.2.1
  have hk := box_below B2 K0
  have HR : Hid (I64 k ∧ I64 uid ∧ I64 mode ∧ I64 fl ∧ I64 si) := by
    obtain ⟨u0, u1, u2, -, -, -, -, r⟩ := hc
    exact r
  subst hu
  dsimp only at hW
  obtain ⟨b0, b1, s0, s1, T⟩ := hW
  have hlt : w.heap.size < w1.heap.size := by have := HC1.out.2.1.size; simp at this; omega
  have hb2 : Bs w2 v2 tx ∧ ∀ b, v2.ownBlock = some b → w.heap.size < b := by
    rcases T with ⟨rfl, rfl⟩ | ⟨q, t, -, -, hq⟩
    · exact ⟨bs_nil _, by simp [Value.ownBlock]⟩
    · refine ⟨t.bs, ?_⟩
      obtain ⟨cp, rfl⟩ := t.form
      intro b hb
      simp only [Value.ownBlock, Option.some.injEq] at hb
      omega
  obtain ⟨b2, s2⟩ := hb2
  obtain ⟨a2, m2, rfl⟩ := b2.form
  obtain ⟨r0, r1, r2, r3, r4, r5, r6, r7, -⟩ := box8l hk
  obtain ⟨rz, rl⟩ := box8z hk
  have HB : Hid (∀ w', w2.grownBy w' (some w.heap.size) → Below w.heap.size w2 w' → Bs w' (.slice a0 n0 c0) bx ∧ Bs w' (.slice a1 n1 c1) tt ∧ Bs w' (.slice a2 tx.length m2) tx ∧ Below w.heap.size w w') := fun w' G B => ⟨b0.grown G fun e => by have := s0 _ e; omega, b1.grown G fun e => by have := s1 _ e; omega, b2.grown G fun e => by have := s2 _ e; omega, (Below.step HAB.out B2).trans B⟩
  have HK := hidm hk
  clear b0 b1 b2 s0 s1 s2 T hc C2 B2 hk K0 HV HAB HC1
  go_wp2
  have hK := heap_set8 (d0 := .int .i64 k) (d1 := .slice a0 n0 c0) (d2 := .slice a1 n1 c1) (d3 := .int .i64 uid) (d4 := .int .i64 mode) (d5 := .int .i64 fl) (d6 := .int .i64 si) (d7 := .slice a2 tx.length m2) HK.out
  have G := gbs 7 (.slice a2 tx.length m2) (gbs 6 (.int .i64 si) (gbs 5 (.int .i64 fl) (gbs 4 (.int .i64 mode) (gbs 3 (.int .i64 uid) (gbs 2 (.slice a1 n1 c1) (gbs 1 (.slice a0 n0 c0) (gbs 0 (.int .i64 k) (World.grownBy.refl w2 (some w.heap.size)))))))))
  have hB := below_set8 (d0 := .int .i64 k) (d1 := .slice a0 n0 c0) (d2 := .slice a1 n1 c1) (d3 := .int .i64 uid) (d4 := .int .i64 mode) (d5 := .int .i64 fl) (d6 := .int .i64 si) (d7 := .slice a2 tx.length m2) (Below.refl w.heap.size w2) (Nat.le_refl w.heap.size)
  obtain ⟨F0, F1, F2, FB⟩ := HB.out _ G hB
  obtain ⟨f0, f1, f2, f3, f4, f5, f6, f7, -⟩ := box8l hK
  refine bodyPost_ret (v := .agg #[.int .i64 k, .slice a0 n0 c0, .slice a1 n1 c1, .int .i64 uid, .int .i64 mode, .int .i64 fl, .int .i64 si, .slice a2 tx.length m2]) (by simp [results, Tryz.results4, go_sem, f0, f1, f2, f3, f4, f5, f6, f7]) rfl ?_
  exact ⟨_, rfl, ⟨⟨k, bx, tt, uid, mode, fl, si, tx⟩, _, _, _, rfl, F0, F1, F2, HR.out⟩, FB⟩

end Go.Proofs.YtlegmiaoablcgaaGreatDoor
