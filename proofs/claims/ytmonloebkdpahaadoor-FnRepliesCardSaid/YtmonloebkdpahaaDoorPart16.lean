/- The proof's texts, part 16. -/
import Derived.Test.YtmonloebkdpahaaDoorPart15
import Derived.Test.YtmonloebkdpahaaDoorPart3
import Derived.Deep.DeepCutAuto
import Derived.Deep.CutBlock
import Derived.Test.YtmonloebkdpahaaDoorPart1
import Derived.Test.YtmonloebkdpahaaDoorPart4
import Derived.Test.YtmonloebkdpahaaDoorPart2
import Derived.Lib.AppendIntMem

/- What l3account of package spec draws: an account, in blocks of its own. -/
namespace Go.Proofs.YtmonloebkdpahaaDoor
open Go.RowKit
set_option maxRecDepth 100000
set_option linter.unusedVariables false
set_option linter.unusedSimpArgs false

/-- The command behind x: where it lies, how it is read. -/
def XCmd (w : World) (k : Nat) (c : CmdD) : Prop := c.bx.length ≤ 6 ∧ c.tx.length ≤ 30 ∧ ∃ s0 m0 q0 s1 m1 q1 s2 m2 q2, w.heap[k]? = some (.cells #[.int .i64 c.k, .slice s0 m0 q0, .slice s1 m1 q1, .int .i64 c.uid, .int .i64 c.mode, .int .i64 c.fl, .int .i64 c.si, .slice s2 m2 q2] 77 (0, 0)) ∧ CmdS w (.agg #[.int .i64 c.k, .slice s0 m0 q0, .slice s1 m1 q1, .int .i64 c.uid, .int .i64 c.mode, .int .i64 c.fl, .int .i64 c.si, .slice s2 m2 q2]) c
theorem cmd_short {k uid mode fl si : Int} {bx tt tx : List Int} (h : cmdB k bx tt uid mode fl si tx = true) : bx.length ≤ 6 ∧ tx.length ≤ 30 := by
  simp only [cmdB, Bool.and_eq_true] at h
  obtain ⟨⟨⟨⟨⟨⟨⟨-, h1⟩, -⟩, -⟩, -⟩, -⟩, -⟩, h2⟩ := h
  constructor
  · split at h1
    · have := of_decide_eq_true h1; omega
    · exact (nameB_len h1).2
  · split at h2
    · unfold textB at h2
      simp only [Bool.and_eq_true, decide_eq_true_eq] at h2
      exact h2.1
    · have := of_decide_eq_true h2; omega
/-- Nothing that it has seen lies anywhere. -/
def NilS (w : World) (k : Nat) : Prop := w.cell? ⟨k, 2, none⟩ = some (.slice none 0 0)
theorem NilS.gb {w w' : World} {k K : Nat} (h : NilS w k) (hG : w.grownBy w' (some K)) (hk : k < w.heap.size) (hne : k ≠ K) : NilS w' k := by
  unfold NilS World.cell? at h ⊢
  rw [hG.block k hk (by simpa using hne)]
  exact h
/-- The account behind the variable, as it is taken. -/
theorem ASt.nil {w0 wI w : World} {g : Nat} {cv : Value} {L : List Int} {a : AccD} {S : Nat → Prop} {B : Nat} (h : ASt w0 wI w g cv L a S) (hn : NilS w (wI.heap.size + 1)) : ∃ u0 : Value, w.heap[wI.heap.size + 1]? = some (.cells #[.int .i64 a.valid, u0, .slice none 0 0] 72 (0, 0)) ∧ IntsO w (In B w.heap.size) (.slice none 0 0) a.seen ∧ a.seen.length = 0 := by
  obtain ⟨-, u0, u1, hh, -, hs, -⟩ := h.acc
  have h2 := (bx3 hh).2.2
  rw [show w.cell? ⟨wI.heap.size + 1, 2, none⟩ = _ from hn] at h2
  cases h2
  rcases hs with ⟨-, h1⟩ | ⟨q, cap, cur, cs, fs, hv, -⟩
  · exact ⟨u0, hh, .inl ⟨rfl, h1⟩, by rw [h1]; rfl⟩
  · cases hv

/-- The command that makes the first box. -/
theorem inbox_end {w0 w w3 w4 : World} {g K : Nat} {cv : Value} {L : List Int} {a : AccD} {S : Nat → Prop} {e0 e1 e2 e3 e4 e5 e6 e7 : Value} (hA : ASt w0 w w3 g cv L a S) (hN : NilS w3 (w.heap.size + 1)) (hgl : g < w.heap.size) (b4 : Below w3.heap.size w3 w4) (hk : w4.heap[K]? = some (.cells #[e0, e1, e2, e3, e4, e5, e6, e7] 77 (0, 0))) (qx : OwnQ w4 w3.heap.size (.slice (some ⟨w3.heap.size, 0, none⟩) 5 5) [105, 110, 98, 111, 120]) (hS : ¬ S K) (hK : w.heap.size + 1 < K) (hK3 : K < w3.heap.size) :
    ∃ c : CmdD, Hid (XCmd ((((((((w4.setCell ⟨K, 0, none⟩ (.int .i64 0)).setCell ⟨K, 1, none⟩ (.slice (some ⟨w3.heap.size, 0, none⟩) 5 5)).setCell ⟨K, 2, none⟩ (.slice none 0 0)).setCell ⟨K, 3, none⟩ (.int .i64 0)).setCell ⟨K, 4, none⟩ (.int .i64 0)).setCell ⟨K, 5, none⟩ (.int .i64 0)).setCell ⟨K, 6, none⟩ (.int .i64 0)).setCell ⟨K, 7, none⟩ (.slice none 0 0)) K c) ∧ Hid (ASt w0 w ((((((((w4.setCell ⟨K, 0, none⟩ (.int .i64 0)).setCell ⟨K, 1, none⟩ (.slice (some ⟨w3.heap.size, 0, none⟩) 5 5)).setCell ⟨K, 2, none⟩ (.slice none 0 0)).setCell ⟨K, 3, none⟩ (.int .i64 0)).setCell ⟨K, 4, none⟩ (.int .i64 0)).setCell ⟨K, 5, none⟩ (.int .i64 0)).setCell ⟨K, 6, none⟩ (.int .i64 0)).setCell ⟨K, 7, none⟩ (.slice none 0 0)) g cv L a S) ∧ Hid (NilS ((((((((w4.setCell ⟨K, 0, none⟩ (.int .i64 0)).setCell ⟨K, 1, none⟩ (.slice (some ⟨w3.heap.size, 0, none⟩) 5 5)).setCell ⟨K, 2, none⟩ (.slice none 0 0)).setCell ⟨K, 3, none⟩ (.int .i64 0)).setCell ⟨K, 4, none⟩ (.int .i64 0)).setCell ⟨K, 5, none⟩ (.int .i64 0)).setCell ⟨K, 6, none⟩ (.int .i64 0)).setCell ⟨K, 7, none⟩ (.slice none 0 0)) (w.heap.size + 1)) := by
  have G5 := gbs 7 (.slice none 0 0) (gbs 6 (.int .i64 0) (gbs 5 (.int .i64 0) (gbs 4 (.int .i64 0) (gbs 3 (.int .i64 0) (gbs 2 (.slice none 0 0) (gbs 1 (.slice (some ⟨w3.heap.size, 0, none⟩) 5 5) (gbs 0 (.int .i64 0) (World.grownBy.refl w4 (some K)))))))))
  refine ⟨⟨0, [105, 110, 98, 111, 120], [], 0, 0, 0, 0, []⟩, ⟨by decide, by decide, _, _, _, _, _, _, _, _, _, heap_set8 hk, _, _, _, rfl, OwnX.stay (OwnX.gb (.inr ⟨_, qx⟩) G5 (by simp only [Value.ownBlock, ne_eq, Option.some.injEq]; omega)), OwnX.stay (.inl ⟨rfl, rfl⟩), OwnX.stay (.inl ⟨rfl, rfl⟩), i64c0, i64c0, i64c0, i64c0, i64c0⟩, (hA.below b4).other hgl G5 (by omega) ⟨_, _, hk⟩ hS, NilS.gb (NilS.gb hN (gb_below' (World.grownBy.refl w3 (some K)) b4) hA.acc.lt (by omega)) G5 (hA.below b4).acc.lt (by omega)⟩

set_option maxRecDepth 100000 in
set_option maxHeartbeats 8000000 in
theorem l3account_any (w0 w : World) (g : Nat) (cv : Value) (L : List Int) (hc : Cur w0 w g cv L) :
    Calls Tryd.prog 37 #[.pointer (some ⟨g, 0, none⟩)] w fun e w' => ∃ (a : AccD) (S : Nat → Prop) (u0 u1 : Value), e = .returned (.agg #[.int .i64 a.valid, u0, u1]) ∧ BoxesQ w' S u0 a.boxes ∧ IntsO w' (fun k => ¬ S k ∧ k < w'.heap.size) u1 a.seen ∧ I64 a.valid ∧ InvA a ∧ (∀ k, S k → w.heap.size ≤ k) ∧ Cur w0 w' g cv L ∧ w.grownBy w' (some g) := by
  have hgl := hc.lt.2
  have AB : Below w.heap.size w ((w.alloc (.cells #[.int .i64 0, .slice none 0 0, .slice none 0 0] 72)).alloc (.cells #[.int .i64 0, .slice none 0 0, .slice none 0 0] 72)) := ((Below.refl _ _).alloc (Nat.le_refl _) _).alloc (by simp) _
  have HK0 : Hid (((w.alloc (.cells #[.int .i64 0, .slice none 0 0, .slice none 0 0] 72)).alloc (.cells #[.int .i64 0, .slice none 0 0, .slice none 0 0] 72)).heap[w.heap.size]? = some (.cells #[.int .i64 0, .slice none 0 0, .slice none 0 0] 72 (0, 0))) := box_below ((Below.refl _ _).alloc (Nat.le_refl _) _) (box_new w _)
  have HK1 : Hid (((w.alloc (.cells #[.int .i64 0, .slice none 0 0, .slice none 0 0] 72)).alloc (.cells #[.int .i64 0, .slice none 0 0, .slice none 0 0] 72)).heap[w.heap.size + 1]? = some (.cells #[.int .i64 0, .slice none 0 0, .slice none 0 0] 72 (0, 0))) := by
    have h := box_new (w.alloc (.cells #[.int .i64 0, .slice none 0 0, .slice none 0 0] 72)) (.cells #[.int .i64 0, .slice none 0 0, .slice none 0 0] 72)
    rw [show (w.alloc (.cells #[.int .i64 0, .slice none 0 0, .slice none 0 0] 72)).heap.size = w.heap.size + 1 by simp] at h
    exact h
  have HC := hidm (hc.below AB)
  have HG := hidm (gb_below' (World.grownBy.refl w (some g)) AB)
  clear hc AB
  go_enter Tryd.func37, Tryd.ntmps37
  go_wp2_with fail
  refine (l1Below_any w0 _ g cv L 22 HC.out (by omega) (by omega)).mono ?_
  rintro e w1 ⟨n, rfl, hn0, hn1, C1, G1⟩
  have HA : Hid (ASt w0 w w1 g cv L ⟨0, [], []⟩ (fun _ => False)) := by
    have h1 := (G1.block (w.heap.size + 1) (lt_of_heap HK1.out) (by simp; omega)).trans HK1.out
    exact ⟨C1, gb_trans' HG.out G1, (G1.block _ (lt_of_heap HK0.out) (by simp; omega)).trans HK0.out, ⟨fun h => h, _, _, h1, .inl ⟨rfl, rfl⟩, .inl ⟨rfl, rfl⟩, i64c0⟩, ⟨by simp, by simp⟩, fun _ h => h.elim, fun _ h => h.elim⟩
  have HN : Hid (NilS w1 (w.heap.size + 1)) := (bx3 ((G1.block (w.heap.size + 1) (lt_of_heap HK1.out) (by simp; omega)).trans HK1.out)).2.2
  clear HK0 HK1 HC HG C1 G1
  go_wp2_with fail
  go_loopw [5, 6] (fun iv xv wr => ∃ (i : Nat) (a : AccD) (S : Nat → Prop), iv = .int .i64 i ∧ (i : Int) ≤ n ∧ Hid (ASt w0 w wr g cv L a S) ∧ Hid (NilS wr (w.heap.size + 1))) (fun iv xv _ => n.toNat - (intOf iv).toNat)
  case atStart => exact ⟨0, _, _, rfl, hn0, HA, HN⟩
  case round =>
    clear HA HN
    obtain ⟨i, a, S, rfl, hi, HA, HN⟩ := hrel
    by_cases hlt : (i : Int) < n
    · go_wp2_with fail
      refine (l3cmd_any w0 _ g cv L HA.out.cur).mono ?_
      rintro e w2 ⟨u, rfl, c, hv, hcb, C2, G2, hW⟩
      have HCS := hidm (cmdS_of hW hv)
      have hsh := cmd_short hcb
      have HA2 := hidm (HA.out.draw hgl C2 G2)
      have HN2 := hidm (HN.out.gb G2 HA.out.acc.lt (by omega))
      obtain ⟨s0, m0, q0, s1, m1, q1, v2, rfl, -⟩ := hW
      obtain ⟨y0, y1, y2, e0, -, -, hb2, -⟩ := HCS.out
      simp only [Value.agg.injEq, Array.mk.injEq, List.cons.injEq, and_true, true_and] at e0
      obtain ⟨-, -, rfl⟩ := e0
      obtain ⟨s2, m2, q2, rfl⟩ := hb2.bs.form3
      clear hb2 hv hcb C2 G2 HA HN
      have AB : Below w2.heap.size w2 (w2.alloc (.cells #[.int .i64 c.k, .slice s0 m0 q0, .slice s1 m1 q1, .int .i64 c.uid, .int .i64 c.mode, .int .i64 c.fl, .int .i64 c.si, .slice s2 m2 q2] 77)) := (Below.refl _ _).alloc (Nat.le_refl _) _
      have HX : Hid (XCmd (w2.alloc (.cells #[.int .i64 c.k, .slice s0 m0 q0, .slice s1 m1 q1, .int .i64 c.uid, .int .i64 c.mode, .int .i64 c.fl, .int .i64 c.si, .slice s2 m2 q2] 77)) w2.heap.size c) := ⟨hsh.1, hsh.2, _, _, _, _, _, _, _, _, _, box_new w2 _, HCS.out.below AB⟩
      have HA3 := hidm (HA2.out.below AB)
      have HN3 : Hid (NilS (w2.alloc (.cells #[.int .i64 c.k, .slice s0 m0 q0, .slice s1 m1 q1, .int .i64 c.uid, .int .i64 c.mode, .int .i64 c.fl, .int .i64 c.si, .slice s2 m2 q2] 77)) (w.heap.size + 1)) := (AB.cell (p := ⟨w.heap.size + 1, 2, none⟩) HA2.out.acc.lt).trans HN2.out
      have hk2 : w.heap.size + 1 < w2.heap.size := HA2.out.acc.lt
      have HS2 : Hid (¬ S w2.heap.size) := fun h => absurd (HA2.out.high _ h) (Nat.lt_irrefl _)
      clear HCS hsh HA2 HN2 AB
      go_upto_if 20 with fail
      go_cut [] (fun wx => ∃ c : CmdD, Hid (XCmd wx w2.heap.size c) ∧ Hid (ASt w0 w wx g cv L a S) ∧ Hid (NilS wx (w.heap.size + 1)))
      case first =>
        generalize hW3 : w2.alloc (.cells #[.int .i64 c.k, .slice s0 m0 q0, .slice s1 m1 q1, .int .i64 c.uid, .int .i64 c.mode, .int .i64 c.fl, .int .i64 c.si, .slice s2 m2 q2] 77) = w3 at HX HA3 HN3 ⊢
        clear hW3
        by_cases h0 : i = 0
        · have h0b : ((i : Int) == 0) = true := by simp [h0]
          obtain ⟨w4, hcs, qx, b4⟩ : ∃ w', Sem.run Tryd.prog (convert 22 22 (.slice (some ⟨w3.heap.size, 0, none⟩) 5 5)) (w3.alloc (.cells #[.int .u8 105, .int .u8 110, .int .u8 98, .int .u8 111, .int .u8 120] 5)) = .ok (.slice (some ⟨w3.heap.size, 0, none⟩) 5 5) w' ∧ OwnQ w' w3.heap.size (.slice (some ⟨w3.heap.size, 0, none⟩) 5 5) [105, 110, 98, 111, 120] ∧ Below w3.heap.size w3 w' := lit_conv w3 [105, 110, 98, 111, 120] (by intro x hx; simp at hx; omega) (by decide)
          obtain ⟨-, -, t0, p0, r0, t1, p1, r1, t2, p2, r2, hk, -⟩ := HX.out
          have hk4 := box_below b4 hk
          obtain ⟨f0, f1, f2, f3, f4, f5, f6, f7, f8⟩ := box8l hk4
          have fz := (box8z hk4).1
          have HQ := hidm qx
          have HB4 := hidm b4
          have HK4 := hidm hk4
          have hk3 := lt_of_heap hk
          clear HX hk hk4 qx b4
          go_wp2
          go_meet
          case rel => exact inbox_end HA3.out HN3.out hgl HB4.out HK4.out HQ.out HS2.out hk2 hk3
        · have h0b : ((i : Int) == 0) = false := by simp; omega
          go_wp2
          go_meet
          case rel => exact ⟨c, HX, HA3, HN3⟩
      case rest =>
        obtain ⟨c, HX, HA, HN⟩ := hcut
        obtain ⟨hb6, ht30, s0, m0, q0, s1, m1, q1, s2, m2, q2, hk, hcs⟩ := HX.out
        have HCS := hidm hcs
        obtain ⟨f0, f1, f2, f3, f4, f5, f6, f7, f8⟩ := box8l hk
        clear hk hcs HX HA3 HN3 HS2
        go_wp2_with fail
        refine (l3do_r (w.heap.size + 1) a c S _ _ HA.out.acc HCS.out ⟨by omega, by omega⟩ (fun x hx => (HA.out.inv.2 x hx).sz) (by have := HA.out.inv.1; omega)).mono ?_
        rintro e w5 ⟨u, S', rfl, -, hT, hA', hS'⟩
        have HA5 := hidm (HA.out.turn hgl hT hA' hS' (inv_do HA.out.inv hb6 ht30))
        have HN5 : Hid (NilS w5 (w.heap.size + 1)) := (hT.2.2.2.2.2.2.2 HA.out.acc.lt HA.out.acc.1).trans HN.out
        clear HCS hT hA' hS' HA HN f0 f1 f2 f3 f4 f5 f6 f7 f8
        go_wp2
        go_roundw
        case rel => exact ⟨i + 1, _, _, by go_num, by omega, HA5, HN5⟩
        case measure => simp [intOf]; omega
    · obtain rfl : n = i := by omega
      go_wp2_with fail
      refine (l1Once_any w0 _ g cv L 3 HA.out.cur (by omega) (by omega)).mono ?_
      rintro e w2 ⟨y, rfl, C2, G2⟩
      have HA2 := hidm (HA.out.draw hgl C2 G2)
      have HN2 := hidm (HN.out.gb G2 HA.out.acc.lt (by omega))
      clear HA HN C2 G2
      go_upto_if 27 with fail
      go_cut [] (fun wx => ∃ (a : AccD) (S : Nat → Prop), Hid (ASt w0 w wx g cv L a S))
      case first =>
        cases y
        · go_wp2
          go_meet
          case rel => exact ⟨a, S, HA2⟩
        · go_wp2_with fail
          refine (l1Below_any w0 _ g cv L 5 HA2.out.cur (by omega) (by omega)).mono ?_
          rintro e w3 ⟨m, rfl, hm0, hm1, C3, G3⟩
          have HA3 := hidm (HA2.out.draw hgl C3 G3)
          have HN3 := hidm (HN2.out.gb G3 HA2.out.acc.lt (by omega))
          have HSB := hidm HA3.out.high
          obtain ⟨u0, hk, hI, hz⟩ := ASt.nil (B := w3.heap.size) HA3.out HN3.out
          have HK := hidm hk
          have HI := hidm hI
          have hB : w.heap.size + 2 ≤ w3.heap.size := by have := HA3.out.acc.lt; omega
          clear HA2 HN2 HN3 C3 G3 hk hI
          obtain ⟨i0, hi, hz0, hz1, hz2⟩ := info_parts infoInt
          go_wp2_with fail
          go_loopw [7, 9] (fun kv iv wr => ∃ (k j : Nat) (a : AccD) (u0 u1 : Value), kv = .int .i64 k ∧ iv = .int .i64 j ∧ (j : Int) ≤ m ∧ k ≤ 1 + 3 * j ∧ a.seen.length = j ∧ w3.heap.size ≤ wr.heap.size ∧ Hid (ASt w0 w wr g cv L a S) ∧ Hid (wr.heap[w.heap.size + 1]? = some (.cells #[.int .i64 a.valid, u0, u1] 72 (0, 0))) ∧ Hid (IntsO wr (In w3.heap.size wr.heap.size) u1 a.seen)) (fun kv iv _ => m.toNat - (intOf iv).toNat)
          case atStart => exact ⟨1, 0, a, _, _, rfl, rfl, hm0, by omega, hz, Nat.le_refl _, HA3, HK, HI⟩
          case round =>
            clear HA3 HK HI hz
            obtain ⟨k, j, a, u0, u1, rfl, rfl, hj, hk, hl, hsz, HA, HK, HI⟩ := hrel
            by_cases hlt : (j : Int) < m
            · have AB : Below wr.heap.size wr (wr.alloc (.cells #[.int .i64 k] 3)) := (Below.refl _ _).alloc (Nat.le_refl _) _
              have hO : IntsO (wr.alloc (.cells #[.int .i64 k] 3)) (In w3.heap.size wr.heap.size) u1 a.seen := intsp_oth HI.out fun k _ h _ => AB.block k h
              obtain ⟨ua, un, uc, rfl⟩ : ∃ ua un uc, u1 = .slice ua un uc := by
                rcases HI.out with ⟨h, -⟩ | ⟨q, cap, cur, cs, fs, h, -⟩ <;> exact ⟨_, _, _, h⟩
              obtain ⟨f0, f1, f2⟩ := bx3 HK.out
              have hlk := lt_of_heap HK.out
              have hM : wr.heap.size ≤ (wr.alloc (.cells #[.int .i64 k] 3)).heap.size := AB.size
              have hp1 : a.seen.length + 1 ≤ maxLen := by unfold maxLen; omega
              have hp2 : (a.seen.length + 1) * 8 ≤ 140737488355328 := by omega
              have hone : ∀ u ∈ [Value.int .i64 (k : Int)], u.oneCell' = true := by simp [Value.oneCell']
              have hki : I64 (k : Int) := ⟨by omega, by omega⟩
              go_wp2_with (at_builtin; refine wpList_push rfl (.tmp 36) (.tmp 38) rfl framesInt (B := w3.heap.size) (M := wr.heap.size) hO hM hsz Tryd.underlying70 hi hz0 hz1 hz2 rfl (by omega) rfl (k : Int) [.int .i64 k] rfl ⟨rfl, hki⟩ ⟨wr.heap.size, 0, none⟩ 1 rfl (cells_new wr _ _) hone hp1 hp2 ?_)
              intro V w4 hO4 hG4 hv4
              obtain ⟨oa, on, oc, rfl⟩ : ∃ ua un uc, V = .slice ua un uc := by
                rcases hO4 with ⟨h, -⟩ | ⟨q, cap, cur, cs, fs, h, -⟩ <;> exact ⟨_, _, _, h⟩
              obtain ⟨h5, h6, h7⟩ := HA.out.push hgl HK.out HI.out HSB.out hB hsz AB hO4 hG4 hv4
              have hsz5 : w3.heap.size ≤ (w4.setCell ⟨w.heap.size + 1, 2, none⟩ (.slice oa on oc)).heap.size := by rw [box_size]; have := hG4.size; omega
              have HA5 := hidm h5
              have HK5 := hidm h6
              have HI5 := hidm h7
              have hk4 : w4.heap[w.heap.size + 1]? = some (.cells #[.int .i64 a.valid, u0, .slice ua un uc] 72 (0, 0)) := (grown_at hG4 (fun g h => (hv4 g h).1) (box_below AB HK.out) (by omega))
              have fz := (box8z hk4).1
              have hlk4 := lt_of_heap hk4
              obtain ⟨e0, e1, e2⟩ := bx3 hk4
              clear h5 h6 h7 hO4 hG4 hv4 hO AB hone HA HK HI f0 f1 f2 hk4
              go_wp2_with fail
              refine (l1Below_any w0 _ g cv L 3 HA5.out.cur (by omega) (by omega)).mono ?_
              rintro e w6 ⟨x, rfl, hx0, hx1, C6, G6⟩
              have HA6 := hidm (HA5.out.draw hgl C6 G6)
              have HK6 := hidm ((G6.block _ (lt_of_heap HK5.out) (by simp; omega)).trans HK5.out)
              have HI6 : Hid (IntsO w6 (In w3.heap.size w6.heap.size) (.slice oa on oc) (a.seen ++ [(k : Int)])) := Ow.mono (intsp_oth HI5.out fun k h1 h2 _ => G6.block k h2 (by have := h1.1; simp; omega)) fun k h => ⟨h.1, Nat.lt_of_lt_of_le h.2 G6.size⟩
              have hsz6 := Nat.le_trans hsz5 G6.size
              obtain ⟨x, rfl⟩ : ∃ n : Nat, x = n := ⟨x.toNat, by omega⟩
              clear HA5 HK5 HI5 C6 G6 e0 e1 e2 fz hlk4
              go_wp2
              go_roundw
              case rel => exact ⟨k + 1 + x, j + 1, _, _, _, by go_num, by go_num, by omega, by omega, by simp; omega, hsz6, HA6, HK6, HI6⟩
              case measure => simp [intOf]; omega
            · go_wp2
              go_meet
              case rel => exact ⟨_, _, HA⟩
      case rest =>
        obtain ⟨a, S, HA⟩ := hcut
        obtain ⟨hSn, u0, u1, hk, hq, hs, hi64⟩ := HA.out.acc
        obtain ⟨a0, c0, rfl, -⟩ := hq.v.form
        obtain ⟨a1, n1, c1, rfl⟩ : ∃ ua un uc, u1 = .slice ua un uc := by
          rcases hs with ⟨h, -⟩ | ⟨q, cap, cur, cs, fs, h, -⟩ <;> exact ⟨_, _, _, h⟩
        obtain ⟨f0, f1, f2⟩ := bx3 hk
        have hr := HA.out.res
        obtain ⟨r0, r1, r2⟩ := bx3 hr
        have fz := (box8z hr).1
        have hlr := lt_of_heap hr
        have hlk := lt_of_heap hk
        have G : wc.grownBy (((wc.setCell ⟨w.heap.size, 0, none⟩ (.int .i64 a.valid)).setCell ⟨w.heap.size, 1, none⟩ (.slice a0 a.boxes.length c0)).setCell ⟨w.heap.size, 2, none⟩ (.slice a1 n1 c1)) (some w.heap.size) := gbs 2 _ (gbs 1 _ (gbs 0 _ (World.grownBy.refl wc (some w.heap.size))))
        have KF : Hid ((((wc.setCell ⟨w.heap.size, 0, none⟩ (.int .i64 a.valid)).setCell ⟨w.heap.size, 1, none⟩ (.slice a0 a.boxes.length c0)).setCell ⟨w.heap.size, 2, none⟩ (.slice a1 n1 c1)).heap[w.heap.size]? = some (.cells #[.int .i64 a.valid, .slice a0 a.boxes.length c0, .slice a1 n1 c1] 72 (0, 0))) := box_set (i := 2) (v := .slice a1 n1 c1) (box_set (i := 1) (v := .slice a0 a.boxes.length c0) (box_set (i := 0) (v := .int .i64 a.valid) hr))
        have b3 : Below w.heap.size wc (((wc.setCell ⟨w.heap.size, 0, none⟩ (.int .i64 a.valid)).setCell ⟨w.heap.size, 1, none⟩ (.slice a0 a.boxes.length c0)).setCell ⟨w.heap.size, 2, none⟩ (.slice a1 n1 c1)) := (((Below.refl w.heap.size wc).setCell (p := ⟨w.heap.size, 0, none⟩) (Nat.le_refl _) _).setCell (p := ⟨w.heap.size, 1, none⟩) (Nat.le_refl _) _).setCell (p := ⟨w.heap.size, 2, none⟩) (Nat.le_refl _) _
        have hst : ∀ t, t ≠ 72 → StayT wc (((wc.setCell ⟨w.heap.size, 0, none⟩ (.int .i64 a.valid)).setCell ⟨w.heap.size, 1, none⟩ (.slice a0 a.boxes.length c0)).setCell ⟨w.heap.size, 2, none⟩ (.slice a1 n1 c1)) t := fun t ht k hk => G.block k (ty_lt hk) (by
          simp only [ne_eq, Option.some.injEq]
          intro e
          subst e
          obtain ⟨cs, fz, hk⟩ := hk
          exact ty_ne hk ⟨_, _, hr⟩ ht)
        have HQ := hidm (boxes_oth hq (fun k h1 h2 => G.block k h2 (by have := HA.out.low k h1; simp; omega)) (hst _ (by decide)) (hst _ (by decide)))
        have HI : Hid (IntsO (((wc.setCell ⟨w.heap.size, 0, none⟩ (.int .i64 a.valid)).setCell ⟨w.heap.size, 1, none⟩ (.slice a0 a.boxes.length c0)).setCell ⟨w.heap.size, 2, none⟩ (.slice a1 n1 c1)) (fun k => ¬ S k ∧ k < ((((wc.setCell ⟨w.heap.size, 0, none⟩ (.int .i64 a.valid)).setCell ⟨w.heap.size, 1, none⟩ (.slice a0 a.boxes.length c0)).setCell ⟨w.heap.size, 2, none⟩ (.slice a1 n1 c1))).heap.size) (.slice a1 n1 c1) a.seen) := Ow.mono (intsp_oth hs fun k _ _ hT => hst _ (by decide) k hT) fun k h => ⟨h.1, Nat.lt_of_lt_of_le h.2 G.size⟩
        have HCF := hidm (cur_to HA.out.cur b3 hgl)
        have HGF := hidm (gb_to HA.out.gr b3 (Nat.le_refl _))
        clear G b3 hst hq hs hr hk
        go_wp2
        obtain ⟨e0, e1, e2⟩ := bx3 KF.out
        exact bodyPost_ret (v := .agg #[.int .i64 a.valid, .slice a0 a.boxes.length c0, .slice a1 n1 c1]) (by simp [results, Tryd.results37, go_sem, e0, e1, e2]) rfl ⟨a, S, _, _, rfl, HQ.out, HI.out, hi64, HA.out.inv, fun k h => by have := HA.out.low k h; omega, HCF.out, HGF.out⟩

end Go.Proofs.YtmonloebkdpahaaDoor

/- What DrawReplyText of package spec draws: a reply that can be read. -/
namespace Go.Proofs.YtmonloebkdpahaaDoor
open Go.RowKit
set_option maxRecDepth 100000
set_option linter.unusedVariables false
set_option linter.unusedSimpArgs false

/-- A name of the call's own, be it that its block is closed behind it. -/
def NameQE (w : World) (c : List Value) (l : List Int) (S : Nat → Prop) : Prop := ∃ u, c = [u] ∧ (RO w S u l ∨ ∃ q, S q ∧ OwnQ w q u l)
theorem framesNQ : Frames NameQE := fun _ _ _ _ _ h hw => let ⟨u, h0, h1⟩ := h; ⟨u, h0, h1.imp (fun h => h.frame hw) fun ⟨q, hq, o⟩ => ⟨q, hq, o.frame (hw q hq o.lt)⟩⟩
section
variable {w w' : World} {S : Nat → Prop} {v : Value} {l : List (List Int)}
theorem names_q (h : NamesO w S v l) : Ow 22 1 NameQE w S v l := by
  rcases h with h | ⟨g, cap, cur, cs, fs, hv, hh, h1, h2, h3, h4, h5, h6, h7⟩
  · exact .inl h
  · exact .inr ⟨g, cap, cur, cs, fs, hv, hh, h1, h2, h3, h4, fun i x hx => ⟨let ⟨u, e, r⟩ := (h5 i x hx).1; ⟨u, e, .inl r⟩, (h5 i x hx).2⟩, h6, h7⟩
theorem names_read (h : Ow 22 1 NameQE w S v l) (hw : ∀ k, S k → (Ty w k 22 ∨ Ty w k 5) → w'.heap[k]? = w.heap[k]?) : NamesV w' v l := by
  have h' : Ow 22 1 NameQE w' S v l := by
    rcases h with h | ⟨g, cap, cur, cs, fs, hv, hh, h1, h2, h3, h4, h5, h6, h7⟩
    · exact .inl h
    · refine .inr ⟨g, cap, cur, cs, fs, hv, (hw g h4 (.inl ⟨_, _, hh⟩)).trans hh, h1, h2, h3, h4, fun i x hx => ⟨?_, (h5 i x hx).2⟩, h6, h7⟩
      have hf := fun k hk => (h6 i k (List.getElem?_eq_some_iff.1 hx).1 hk).1
      obtain ⟨u, e, r⟩ := (h5 i x hx).1
      refine ⟨u, e, ?_⟩
      rcases r with r | ⟨q, hq, o⟩
      · refine .inl ⟨r.1, ⟨r.2.1.1, ?_⟩, r.2.2⟩
        rcases r.2.1.2 with hn | ⟨k, cap, cur, hv, hk, hh, r'⟩
        · exact .inl hn
        · exact .inr ⟨k, cap, cur, hv, hk, (hw k (hf k (r.2.2 k (by rw [hv]; rfl))) (.inr ⟨_, _, hh⟩)).trans hh, r'⟩
      · refine .inr ⟨q, hq, o.frame (hw q (hf q hq) (.inr ?_))⟩
        obtain ⟨-, cap, cur, fz, -, hh, -⟩ := o
        exact ⟨_, _, hh⟩
  exact h'.rd fun _ _ _ _ h => let ⟨u, e, r⟩ := h; ⟨u, e, r.elim RO.bs fun ⟨_, _, o⟩ => o.bs⟩
end

/-- The reply's variable at the end. -/
def RSt (wI w : World) (K : Nat) : Prop := wI.heap.size < K ∧ ∃ (x : RepD) (u0 u1 u2 u3 : Value), w.heap[K]? = some (.cells #[.int .i64 x.code, .int .i64 x.num, u0, .int .i64 x.box.valid, .int .i64 x.box.next, .int .i64 x.box.seq, u1, u2, .int .i64 x.box.lost, u3] 37 (0, 0)) ∧ (∀ w' : World, w.heap.size ≤ w'.heap.size → (∀ k, wI.heap.size < k → k < w.heap.size → w'.heap[k]? = w.heap[k]?) → RepV w' (.agg #[.int .i64 x.code, .int .i64 x.num, u0, .int .i64 x.box.valid, .int .i64 x.box.next, .int .i64 x.box.seq, u1, u2, .int .i64 x.box.lost, u3]) x) ∧ Below wI.heap.size wI w ∧ w.heap[wI.heap.size]? = some (.cells #[.int .i64 0, .int .i64 0, .slice none 0 0, .int .i64 0, .int .i64 0, .int .i64 0, .slice none 0 0, .slice none 0 0, .int .i64 0, .slice none 0 0] 37 (0, 0))
/-- The reply that was drawn (it was made at wb, in blocks from N on), ahead of a bend. -/
structure PSt (wI w0 wb w : World) (g : Nat) (cv : Value) (L : List Int) (N : Nat) (x : RepD) (u0 u1 u2 u3 : Value) : Prop where
  cur : Cur w0 w g cv L
  bel : Below wI.heap.size wI w
  res : w.heap[wI.heap.size]? = some (.cells #[.int .i64 0, .int .i64 0, .slice none 0 0, .int .i64 0, .int .i64 0, .int .i64 0, .slice none 0 0, .slice none 0 0, .int .i64 0, .slice none 0 0] 37 (0, 0))
  cel : w.heap[wb.heap.size]? = some (.cells #[.int .i64 x.code, .int .i64 x.num, u0, .int .i64 x.box.valid, .int .i64 x.box.next, .int .i64 x.box.seq, u1, u2, .int .i64 x.box.lost, u3] 37 (0, 0))
  rep : RepS wb N (.agg #[.int .i64 x.code, .int .i64 x.num, u0, .int .i64 x.box.valid, .int .i64 x.box.next, .int .i64 x.box.seq, u1, u2, .int .i64 x.box.lost, u3]) x
  sz : wb.heap.size ≤ w.heap.size
  st : ∀ k, N ≤ k → k < wb.heap.size → w.heap[k]? = wb.heap[k]?
  pl : wI.heap.size < g ∧ g < N ∧ N ≤ wb.heap.size
section
variable {wI w0 wb w w' w1 w2 : World} {g N : Nat} {cv u0 u1 u2 u3 v : Value} {L : List Int} {x : RepD}
theorem PSt.draw (h : PSt wI w0 wb w g cv L N x u0 u1 u2 u3) (hC : Cur w0 w' g cv L) (hG : w.grownBy w' (some g)) : PSt wI w0 wb w' g cv L N x u0 u1 u2 u3 := by
  obtain ⟨p1, p2, p3⟩ := h.pl
  have hs := h.bel.size
  refine ⟨hC, ⟨hG.os.trans h.bel.os, hG.tape.trans h.bel.tape, hG.output.trans h.bel.output, Nat.le_trans hs hG.size, fun k hk => (hG.block k (by omega) (by simp; omega)).trans (h.bel.block k hk)⟩, (hG.block _ (lt_of_heap h.res) (by simp; omega)).trans h.res, (hG.block _ (lt_of_heap h.cel) (by simp; omega)).trans h.cel, h.rep, Nat.le_trans h.sz hG.size, fun k h1 h2 => (hG.block k (Nat.lt_of_lt_of_le h2 h.sz) (by simp; omega)).trans (h.st k h1 h2), h.pl⟩
theorem PSt.below (h : PSt wI w0 wb w g cv L N x u0 u1 u2 u3) (hb : Below w.heap.size w w') : PSt wI w0 wb w' g cv L N x u0 u1 u2 u3 :=
  ⟨h.cur.below hb, Below.step h.bel hb, box_below hb h.res, box_below hb h.cel, h.rep, Nat.le_trans h.sz hb.size, fun k h1 h2 => (hb.block k (Nat.lt_of_lt_of_le h2 h.sz)).trans (h.st k h1 h2), h.pl⟩
theorem PSt.fin (h : PSt wI w0 wb w g cv L N x u0 u1 u2 u3) : RSt wI w wb.heap.size := by
  obtain ⟨p1, p2, p3⟩ := h.pl
  exact ⟨by omega, x, u0, u1, u2, u3, h.cel, fun w' hs hk => h.rep.1 w' (Nat.le_trans h.sz hs) fun k h1 h2 => (hk k (by omega) (Nat.lt_of_lt_of_le h2 h.sz)).trans (h.st k h1 h2), h.bel, h.res⟩
/-- One cell of the reply is put anew. -/
theorem PSt.put (h : PSt wI w0 wb w g cv L N x u0 u1 u2 u3) (i : Nat) (v : Value) : wI.heap.size < wb.heap.size ∧ (∀ w' : World, (w.setCell ⟨wb.heap.size, i, none⟩ v).heap.size ≤ w'.heap.size → (∀ k, wI.heap.size < k → k < (w.setCell ⟨wb.heap.size, i, none⟩ v).heap.size → w'.heap[k]? = (w.setCell ⟨wb.heap.size, i, none⟩ v).heap[k]?) → RepV w' (.agg #[.int .i64 x.code, .int .i64 x.num, u0, .int .i64 x.box.valid, .int .i64 x.box.next, .int .i64 x.box.seq, u1, u2, .int .i64 x.box.lost, u3]) x) ∧ Below wI.heap.size wI (w.setCell ⟨wb.heap.size, i, none⟩ v) ∧ (w.setCell ⟨wb.heap.size, i, none⟩ v).heap[wI.heap.size]? = some (.cells #[.int .i64 0, .int .i64 0, .slice none 0 0, .int .i64 0, .int .i64 0, .int .i64 0, .slice none 0 0, .slice none 0 0, .int .i64 0, .slice none 0 0] 37 (0, 0)) := by
  obtain ⟨p1, p2, p3⟩ := h.pl
  refine ⟨by omega, fun w' hs hk => h.rep.1 w' (Nat.le_trans h.sz (by rw [box_size] at hs; exact hs)) fun k h1 h2 => ?_, h.bel.setCell (p := ⟨wb.heap.size, i, none⟩) (show wI.heap.size ≤ wb.heap.size by omega) _, box_other h.res (by omega)⟩
  rw [hk k (by omega) (by rw [box_size]; exact Nat.lt_of_lt_of_le h2 h.sz), Below.heap_setCell _ _ _ _ (show k ≠ wb.heap.size by omega)]
  exact h.st k h1 h2
theorem PSt.code (h : PSt wI w0 wb w g cv L N x u0 u1 u2 u3) {n : Int} (hn : I64 n) : RSt wI (w.setCell ⟨wb.heap.size, 0, none⟩ (.int .i64 n)) wb.heap.size :=
  let p := h.put 0 (.int .i64 n)
  ⟨p.1, ⟨n, x.num, x.box, x.names⟩, u0, u1, u2, u3, box_set (i := 0) (v := .int .i64 n) h.cel, fun w' hs hk => let q := (p.2.1 w' hs hk).parts; ⟨u0, u1, u2, u3, rfl, q.1, q.2.1, hn, q.2.2.2⟩, p.2.2⟩
theorem PSt.num (h : PSt wI w0 wb w g cv L N x u0 u1 u2 u3) {n : Int} (hn : I64 n) : RSt wI (w.setCell ⟨wb.heap.size, 1, none⟩ (.int .i64 n)) wb.heap.size :=
  let p := h.put 1 (.int .i64 n)
  ⟨p.1, ⟨x.code, n, x.box, x.names⟩, u0, u1, u2, u3, box_set (i := 1) (v := .int .i64 n) h.cel, fun w' hs hk => let q := (p.2.1 w' hs hk).parts; ⟨u0, u1, u2, u3, rfl, q.1, q.2.1, q.2.2.1, hn⟩, p.2.2⟩
theorem BoxV.bare {w : World} {n : Int} (h : BoxV w (.agg #[u0, .int .i64 x.box.valid, .int .i64 x.box.next, .int .i64 x.box.seq, u1, u2, .int .i64 x.box.lost]) x.box) (hn : I64 n) : BoxV w (.agg #[u0, .int .i64 n, .int .i64 x.box.next, .int .i64 x.box.seq, u1, u2, .int .i64 x.box.lost]) { x.box with valid := n } := by
  obtain ⟨z0, z1, z2, e, b0, b1, b2, -, i⟩ := h
  simp only [Value.agg.injEq, Array.mk.injEq, List.cons.injEq, true_and, and_true] at e
  obtain ⟨rfl, rfl, rfl⟩ := e
  exact ⟨_, _, _, rfl, b0, b1, b2, hn, i⟩
theorem PSt.valid (h : PSt wI w0 wb w g cv L N x u0 u1 u2 u3) : RSt wI (w.setCell ⟨wb.heap.size, 3, none⟩ (.int .i64 0)) wb.heap.size :=
  let p := h.put 3 (.int .i64 0)
  ⟨p.1, ⟨x.code, x.num, { x.box with valid := 0 }, x.names⟩, u0, u1, u2, u3, box_set (i := 3) (v := .int .i64 0) h.cel, fun w' hs hk => let q := (p.2.1 w' hs hk).parts; ⟨u0, u1, u2, u3, rfl, q.1.bare i64c0, q.2.1, q.2.2.1, q.2.2.2⟩, p.2.2⟩
/-- The names, as they are taken for one more: none at all, or the call's own while the box has nothing. -/
def NmW (wb : World) (N : Nat) (x : RepD) (u3 : Value) : Prop := (u3 = .slice none 0 0 ∧ x.names = []) ∨ ((x.box.name = [] ∧ x.box.mails = [] ∧ x.box.gones = []) ∧ NamesO wb (In N wb.heap.size) u3 x.names)
theorem PSt.nm (h : PSt wI w0 wb w g cv L N x u0 u1 u2 u3) : NmW wb N x u3 := by
  obtain ⟨c0, c1, c2, c3, c4, c5, c6, c7, c8, c9, e, r⟩ := h.rep.2
  simp only [Value.agg.injEq, Array.mk.injEq, List.cons.injEq, and_true] at e
  obtain ⟨-, -, -, -, -, -, -, -, -, rfl⟩ := e
  exact r
theorem PSt.own (h : PSt wI w0 wb w g cv L N x u0 u1 u2 u3) (hb : Below w.heap.size w w1) : Ow 22 1 NameQE w1 (In N wb.heap.size) u3 x.names := by
  rcases h.nm with h1 | ⟨-, h1⟩
  · exact .inl h1
  · exact names_q (Ow.frame framesName h1 fun k h2 h3 => (hb.block k (Nat.lt_of_lt_of_le h3 h.sz)).trans (h.st k h2.1 h3))
theorem PSt.names (h : PSt wI w0 wb w g cv L N x u0 u1 u2 u3) (hb : Below w.heap.size w w1) (hO : Ow 22 1 NameQE w2 (In N w2.heap.size) v (x.names ++ [[90]])) (hG : w1.grownBy w2 u3.ownBlock) (hv : ∀ g, u3.ownBlock = some g → N ≤ g ∧ g < wb.heap.size) :
    RSt wI (w2.setCell ⟨wb.heap.size, 9, none⟩ v) wb.heap.size ∧ w2.heap[wb.heap.size]? = some (.cells #[.int .i64 x.code, .int .i64 x.num, u0, .int .i64 x.box.valid, .int .i64 x.box.next, .int .i64 x.box.seq, u1, u2, .int .i64 x.box.lost, u3] 37 (0, 0)) := by
  obtain ⟨p1, p2, p3⟩ := h.pl
  have hz := h.sz
  have hoth : ∀ k, k < w.heap.size → u3.ownBlock ≠ some k → w2.heap[k]? = w.heap[k]? := fun k h1 h2 => (hG.block k (Nat.lt_of_lt_of_le h1 hb.size) fun e => h2 e.symm).trans (hb.block k h1)
  have hK := (hoth _ (lt_of_heap h.cel) fun e => by have := hv _ e; omega).trans h.cel
  have hs : (w2.setCell ⟨wb.heap.size, 9, none⟩ v).heap.size = w2.heap.size := box_size
  have hB : Below wI.heap.size wI w2 := ⟨hG.os.trans (hb.os.trans h.bel.os), hG.tape.trans (hb.tape.trans h.bel.tape), hG.output.trans (hb.output.trans h.bel.output), Nat.le_trans h.bel.size (Nat.le_trans hb.size hG.size), fun k hk => (hoth k (by have := h.bel.size; omega) fun e => by have := hv _ e; omega).trans (h.bel.block k hk)⟩
  have hsz : w.heap.size ≤ w2.heap.size := Nat.le_trans hb.size hG.size
  refine ⟨⟨by omega, ⟨x.code, x.num, x.box, x.names ++ [[90]]⟩, u0, u1, u2, v, box_set (i := 9) (v := v) hK, fun w' hs' hk => ?_, hB.setCell (p := ⟨wb.heap.size, 9, none⟩) (show wI.heap.size ≤ wb.heap.size by omega) _, box_other ((hoth _ (lt_of_heap h.res) fun e => by have := hv _ e; omega).trans h.res) (by omega)⟩, hK⟩
  have hq := h.rep.v.parts
  refine ⟨u0, u1, u2, v, rfl, ?_, names_read hO fun k h1 h2 => ?_, hq.2.2⟩
  · rcases h.nm with ⟨rfl, -⟩ | ⟨⟨e0, e1, e2⟩, -⟩
    · refine (h.rep.1 w' (by omega) fun k h1 h2 => ?_).parts.1
      rw [hk k (by omega) (by omega), Below.heap_setCell _ _ _ _ (show k ≠ wb.heap.size by omega), hoth k (by omega) (by simp [Value.ownBlock])]
      exact h.st k h1 h2
    · obtain ⟨z0, z1, z2, e, b0, b1, b2, i⟩ := hq.1
      rw [e0] at b0
      rw [e1] at b1
      rw [e2] at b2
      exact ⟨z0, z1, z2, e, by simp only; rw [e0]; exact bs_nil_any b0, by simp only; rw [e1]; exact rd_nil_any b1, by simp only; rw [e2]; exact rd_nil_any b2, i⟩
  · have hne : k ≠ wb.heap.size := fun e => by
      subst e
      rcases h2 with ⟨cs, fz, hh⟩ | ⟨cs, fz, hh⟩
      · exact ty_ne hh ⟨_, _, hK⟩ (by decide)
      · exact ty_ne hh ⟨_, _, hK⟩ (by decide)
    have hlt := h1.2
    have hge := h1.1
    rw [hk k (by omega) (by omega), Below.heap_setCell _ _ _ _ (show k ≠ wb.heap.size from hne)]
end

set_option maxRecDepth 100000 in
set_option maxHeartbeats 8000000 in
theorem drawReplyText_any (v : Value) (L : List Int) (w : World) (hv : Bs w v L) :
    Calls Tryd.prog 14 #[v] w fun e w' => ∃ u x, e = .returned u ∧ RepV w' u x ∧ Below w.heap.size w w' := by
  have AB : Below w.heap.size w (w.alloc (.cells #[.int .i64 0, .int .i64 0, .slice none 0 0, .int .i64 0, .int .i64 0, .int .i64 0, .slice none 0 0, .slice none 0 0, .int .i64 0, .slice none 0 0] 37)) := (Below.refl _ _).alloc (Nat.le_refl _) _
  have HV := hidm (hv.below AB)
  have HK := hidm (box_new w (.cells #[.int .i64 0, .int .i64 0, .slice none 0 0, .int .i64 0, .int .i64 0, .int .i64 0, .slice none 0 0, .slice none 0 0, .int .i64 0, .slice none 0 0] 37))
  have HB := hidm AB
  have hs1 : (w.alloc (.cells #[.int .i64 0, .int .i64 0, .slice none 0 0, .int .i64 0, .int .i64 0, .int .i64 0, .slice none 0 0, .slice none 0 0, .int .i64 0, .slice none 0 0] 37)).heap.size = w.heap.size + 1 := by simp
  obtain ⟨va, cap, rfl⟩ := hv.form
  clear hv AB
  go_enter Tryd.func14, Tryd.ntmps14
  go_upto_region 1 with fail
  generalize w.alloc (.cells #[.int .i64 0, .int .i64 0, .slice none 0 0, .int .i64 0, .int .i64 0, .int .i64 0, .slice none 0 0, .slice none 0 0, .int .i64 0, .slice none 0 0] 37) = w0 at HV HK HB hs1 ⊢
  go_wp2_with fail
  refine (l1New_any _ L w0 HV.out).mono ?_
  rintro e w2 ⟨g, rfl, C2, B2⟩
  have HK2 := hidm (box_below B2 HK.out)
  have HB2 := hidm (Below.step HB.out B2)
  have HC2 := hidm C2
  have hg0 := C2.lt
  clear C2 B2 HK HB
  go_wp2_with fail
  refine (l3account_any w0 w2 g _ L HC2.out).mono ?_
  rintro e w3 ⟨a, S, b0, b1, rfl, hq, hs, hi, hI, hlow, C3, G3⟩
  obtain ⟨a0, c0, rfl, -⟩ := hq.v.form
  obtain ⟨a1, n1, c1, rfl⟩ : ∃ ua un uc, b1 = .slice ua un uc := by
    rcases hs with ⟨h, -⟩ | ⟨q, cap, cur, cs, fs, h, -⟩ <;> exact ⟨_, _, _, h⟩
  have HK3 := hidm ((G3.block _ (lt_of_heap HK2.out) (by simp; omega)).trans HK2.out)
  have HB3 : Hid (Below w.heap.size w w3) := ⟨G3.os.trans HB2.out.os, G3.tape.trans HB2.out.tape, G3.output.trans HB2.out.output, Nat.le_trans HB2.out.size G3.size, fun k hk => (G3.block k (by have := HB2.out.size; omega) (by simp; omega)).trans (HB2.out.block k hk)⟩
  have AB : Below w3.heap.size w3 (w3.alloc (.cells #[.int .i64 a.valid, .slice a0 a.boxes.length c0, .slice a1 n1 c1] 72)) := (Below.refl _ _).alloc (Nat.le_refl _) _
  have hz3 := G3.size
  have HP : Hid (AccP (w3.alloc (.cells #[.int .i64 a.valid, .slice a0 a.boxes.length c0, .slice a1 n1 c1] 72)) (fun k => S k ∧ k < w3.heap.size) w3.heap.size a) :=
    ⟨fun h => Nat.lt_irrefl _ h.2, _, _, box_new w3 _, boxes_oth (BoxesQ.cut hq) (fun k _ h => AB.block k h) (stay_below AB) (stay_below AB), Ow.mono (intsp_oth hs fun k _ h _ => AB.block k h) fun k h => ⟨fun h' => h.1 h'.1, Nat.lt_of_lt_of_le h.2 AB.size⟩, hi⟩
  have HC4 := hidm (C3.below AB)
  have HK4 := hidm (box_below AB HK3.out)
  have HB4 := hidm (Below.step HB3.out AB)
  have HLW := hidm hlow
  have hga : w3.heap.size < (w3.alloc (.cells #[.int .i64 a.valid, .slice a0 a.boxes.length c0, .slice a1 n1 c1] 72)).heap.size := by simp
  clear hq hs hi hlow C3 G3 HK2 HB2 HC2 HK3 HB3 AB
  go_upto_region 3 with fail
  generalize w3.alloc (.cells #[.int .i64 a.valid, .slice a0 a.boxes.length c0, .slice a1 n1 c1] 72) = w4 at HP HC4 HK4 HB4 hga ⊢
  go_wp2_with fail
  refine (l3cmd_any w0 _ g _ L HC4.out).mono ?_
  rintro e w5 ⟨u, rfl, c, hcv, hcb, C5, G5, hW⟩
  have HCS := hidm (cmdS_of hW hcv)
  have hsh := cmd_short hcb
  have HP5 := hidm (HP.out.draw HC4.out G5 fun h => by have := HLW.out _ h.1; omega)
  have HK5 := hidm ((G5.block _ (lt_of_heap HK4.out) (by simp; omega)).trans HK4.out)
  have HB5 : Hid (Below w.heap.size w w5) := ⟨G5.os.trans HB4.out.os, G5.tape.trans HB4.out.tape, G5.output.trans HB4.out.output, Nat.le_trans HB4.out.size G5.size, fun k hk => (G5.block k (by have := HB4.out.size; omega) (by simp; omega)).trans (HB4.out.block k hk)⟩
  have HC5 := hidm C5
  have hz5 := G5.size
  clear hcv hcb C5 G5 hW HP HK4 HB4 HC4
  go_wp2_with fail
  refine (l3do_r w3.heap.size a c _ u _ HP5.out HCS.out ⟨by omega, by omega⟩ (fun x hx => (hI.2 x hx).sz) (by have := hI.1; omega)).mono ?_
  rintro e w6 ⟨ur, S', rfl, hR, hT, -, -⟩
  have hln := names_do a c
  have hl4 := hI.1
  generalize (doD a c).2 = x at hR hln
  have HC6 := hidm (HC5.out.turns hT (by omega) (fun h => by have := HLW.out _ h.1; omega) (by omega) (fun k h => by have := HLW.out _ h.1; omega))
  have HB6 : Hid (Below w.heap.size w w6) := ⟨hT.2.2.2.2.1.trans HB5.out.os, hT.2.2.2.2.2.1.trans HB5.out.tape, hT.2.2.2.2.2.2.1.trans HB5.out.output, Nat.le_trans HB5.out.size hT.1, fun k hk => (hT.2.1 k (by have := HB5.out.size; omega) (by omega) (fun h => by have := HLW.out _ h.1; omega)).trans (HB5.out.block k hk)⟩
  have HK6 := hidm ((hT.2.1 _ (lt_of_heap HK5.out) (by omega) (fun h => by have := HLW.out _ h.1; omega)).trans HK5.out)
  have hz6 := hT.1
  obtain ⟨a0, n0, c0, a1, c1, a2, c2, a3, c3, rfl⟩ := hR.v.form
  have AB : Below w6.heap.size w6 (w6.alloc (.cells #[.int .i64 x.code, .int .i64 x.num, .slice a0 n0 c0, .int .i64 x.box.valid, .int .i64 x.box.next, .int .i64 x.box.seq, .slice a1 x.box.mails.length c1, .slice a2 x.box.gones.length c2, .int .i64 x.box.lost, .slice a3 x.names.length c3] 37)) := (Below.refl _ _).alloc (Nat.le_refl _) _
  have HA : Hid (PSt w w0 w6 (w6.alloc (.cells #[.int .i64 x.code, .int .i64 x.num, .slice a0 n0 c0, .int .i64 x.box.valid, .int .i64 x.box.next, .int .i64 x.box.seq, .slice a1 x.box.mails.length c1, .slice a2 x.box.gones.length c2, .int .i64 x.box.lost, .slice a3 x.names.length c3] 37)) g (.slice va L.length cap) L w5.heap.size x (.slice a0 n0 c0) (.slice a1 x.box.mails.length c1) (.slice a2 x.box.gones.length c2) (.slice a3 x.names.length c3)) :=
    ⟨HC6.out.below AB, Below.step HB6.out AB, box_below AB HK6.out, box_new w6 _, hR, AB.size, fun k _ h => AB.block k h, by omega, by omega, hz6⟩
  clear HCS HP5 HK5 HB5 HC5 hT HC6 HB6 HK6 AB HLW hI hsh hR
  go_upto_region 4 with fail
  generalize w6.alloc (.cells #[.int .i64 x.code, .int .i64 x.num, .slice a0 n0 c0, .int .i64 x.box.valid, .int .i64 x.box.next, .int .i64 x.box.seq, .slice a1 x.box.mails.length c1, .slice a2 x.box.gones.length c2, .int .i64 x.box.lost, .slice a3 x.names.length c3] 37) = w7 at HA ⊢
  go_wp2_with fail
  refine (l1Once_any w0 _ g _ L 8 HA.out.cur (by omega) (by omega)).mono ?_
  rintro e w8 ⟨y, rfl, C8, G8⟩
  have HA8 := hidm (HA.out.draw C8 G8)
  clear HA C8 G8
  go_upto_if 14 with fail
  go_cut [] (fun wx => Hid (RSt w wx w6.heap.size))
  case first =>
    cases y
    · go_wp2
      go_meet
      case rel => exact HA8.out.fin
    · go_wp2_with fail
      refine (l1Below_any w0 _ g _ L 4 HA8.out.cur (by omega) (by omega)).mono ?_
      rintro e w9 ⟨n, rfl, hn0, hn1, C9, G9⟩
      have HA := hidm (HA8.out.draw C9 G9)
      clear HA8 C9 G9
      obtain rfl | rfl | rfl | rfl : n = 0 ∨ n = 1 ∨ n = 2 ∨ n = 3 := by omega
      · have AB : Below w9.heap.size w9 (w9.alloc (.cells #[.int .i64 (-1), .int .i64 6, .int .i64 7] 3)) := (Below.refl _ _).alloc (Nat.le_refl _) _
        have HI : Hid (IntsB (w9.alloc (.cells #[.int .i64 (-1), .int .i64 6, .int .i64 7] 3)) (.slice (some ⟨w9.heap.size, 0, none⟩) 3 3) g 3 (-1) 7) := by simpa [Hid] using intsB_made w9 g [-1, 6, 7] 3 (-1) 7 HA.out.cur.lt.2 (by simp) (by simp) (by intro x hx; simp at hx; omega)
        have HA2 := hidm (HA.out.below AB)
        clear HA AB
        go_wp2_with fail
        refine (l1PickInt_b w0 _ g 3 _ _ L (-1) 7 HA2.out.cur HI.out).mono ?_
        rintro e wd ⟨y, rfl, hy0, hy1, C, G⟩
        have HA3 := hidm (HA2.out.draw C G)
        obtain ⟨r0, r1, -⟩ := bx10 HA3.out.cel
        have fz := (box8z HA3.out.cel).1
        have hl := lt_of_heap HA3.out.cel
        have HF := hidm (HA3.out.code (n := y) ⟨by omega, by omega⟩)
        clear HA2 HI C G HA3
        go_wp2
        go_meet
        case rel => exact HF
      · have AB : Below w9.heap.size w9 (w9.alloc (.cells #[.int .i64 (-1), .int .i64 1000000, .int .i64 1000001] 3)) := (Below.refl _ _).alloc (Nat.le_refl _) _
        have HI : Hid (IntsB (w9.alloc (.cells #[.int .i64 (-1), .int .i64 1000000, .int .i64 1000001] 3)) (.slice (some ⟨w9.heap.size, 0, none⟩) 3 3) g 3 (-1) 1000001) := by simpa [Hid] using intsB_made w9 g [-1, 1000000, 1000001] 3 (-1) 1000001 HA.out.cur.lt.2 (by simp) (by simp) (by intro x hx; simp at hx; omega)
        have HA2 := hidm (HA.out.below AB)
        clear HA AB
        go_wp2_with fail
        refine (l1PickInt_b w0 _ g 3 _ _ L (-1) 1000001 HA2.out.cur HI.out).mono ?_
        rintro e wd ⟨y, rfl, hy0, hy1, C, G⟩
        have HA3 := hidm (HA2.out.draw C G)
        obtain ⟨r0, r1, -⟩ := bx10 HA3.out.cel
        have fz := (box8z HA3.out.cel).1
        have hl := lt_of_heap HA3.out.cel
        have HF := hidm (HA3.out.num (n := y) ⟨by omega, by omega⟩)
        clear HA2 HI C G HA3
        go_wp2
        go_meet
        case rel => exact HF
      · obtain ⟨w4, hcs, qx, b4⟩ : ∃ w', Sem.run Tryd.prog (convert 22 22 (.slice (some ⟨w9.heap.size, 0, none⟩) 1 1)) (w9.alloc (.cells #[.int .u8 90] 5)) = .ok (.slice (some ⟨w9.heap.size, 0, none⟩) 1 1) w' ∧ OwnQ w' w9.heap.size (.slice (some ⟨w9.heap.size, 0, none⟩) 1 1) [90] ∧ Below w9.heap.size w9 w' := lit_conv w9 [90] (by intro x hx; simp at hx; omega) (by decide)
        have AB : Below w4.heap.size w4 (w4.alloc (.cells #[.slice (some ⟨w9.heap.size, 0, none⟩) 1 1] 22)) := (Below.refl _ _).alloc (Nat.le_refl _) _
        have HB5 := hidm (Below.step b4 AB)
        have hO := HA.out.own HB5.out
        have hsz := HA.out.sz
        have hM : w6.heap.size ≤ (w4.alloc (.cells #[.slice (some ⟨w9.heap.size, 0, none⟩) 1 1] 22)).heap.size := Nat.le_trans hsz HB5.out.size
        have hE : NameQE (w4.alloc (.cells #[.slice (some ⟨w9.heap.size, 0, none⟩) 1 1] 22)) [.slice (some ⟨w9.heap.size, 0, none⟩) 1 1] [90] (In w6.heap.size (w4.alloc (.cells #[.slice (some ⟨w9.heap.size, 0, none⟩) 1 1] 22)).heap.size) := ⟨_, rfl, .inr ⟨w9.heap.size, ⟨hsz, Nat.lt_of_lt_of_le qx.lt AB.size⟩, qx.below AB⟩⟩
        have hone : ∀ u ∈ [Value.slice (some ⟨w9.heap.size, 0, none⟩) 1 1], u.oneCell' = true := by simp [Value.oneCell']
        obtain ⟨i0, hi, hz0, hz1, hz2⟩ := info_parts infoBy
        have hp1 : x.names.length + 1 ≤ maxLen := by unfold maxLen; omega
        have hp2 : (x.names.length + 1) * 24 ≤ 140737488355328 := by omega
        obtain ⟨-, -, -, -, -, -, -, -, -, r9⟩ := bx10 HA.out.cel
        have hl9 := lt_of_heap HA.out.cel
        have hpl := HA.out.pl.2.2
        have k4 := hidm b4
        clear qx b4
        go_wp2_with (at_builtin; refine wpList_push rfl (.tmp 34) (.tmp 37) rfl framesNQ (B := w5.heap.size) (M := w6.heap.size) hO hM hpl Tryd.underlying27 hi hz0 hz1 hz2 rfl (by omega) rfl [90] [.slice (some ⟨w9.heap.size, 0, none⟩) 1 1] rfl hE ⟨w4.heap.size, 0, none⟩ 1 rfl (cells_new w4 _ _) hone hp1 hp2 ?_)
        intro V w10 hO10 hG10 hv10
        obtain ⟨oa, on, oc, rfl⟩ : ∃ ua un uc, V = .slice ua un uc := by
          rcases hO10 with ⟨h, -⟩ | ⟨q, cap, cur, cs, fs, h, -⟩ <;> exact ⟨_, _, _, h⟩
        obtain ⟨h1, hk10⟩ := HA.out.names HB5.out hO10 hG10 hv10
        have HF := hidm h1
        obtain ⟨-, -, -, -, -, -, -, -, -, q9⟩ := bx10 hk10
        have fz := (box8z hk10).1
        have hl := lt_of_heap hk10
        clear h1 hk10 hO10 hG10 hv10 hO hE AB hone k4 HA
        go_wp2
        go_meet
        case rel => exact HF
      · obtain ⟨-, -, -, r3, -⟩ := bx10 HA.out.cel
        have fz := (box8z HA.out.cel).1
        have hl := lt_of_heap HA.out.cel
        have HF := hidm HA.out.valid
        clear HA
        go_wp2
        go_meet
        case rel => exact HF
  case rest =>
    obtain ⟨hK, x, b0, b1, b2, b3, hk, hR, hB, hr⟩ := hcut.out
    have hR0 := hR wc (Nat.le_refl _) (fun _ _ _ => rfl)
    obtain ⟨a0, n0, c0, a1, c1, a2, c2, a3, c3, e⟩ := hR0.form
    simp only [Value.agg.injEq, Array.mk.injEq, List.cons.injEq, true_and, and_true] at e
    obtain ⟨rfl, rfl, rfl, rfl⟩ := e
    obtain ⟨f0, f1, f2, f3, f4, f5, f6, f7, f8, f9⟩ := bx10 hk
    obtain ⟨r0, r1, r2, r3, r4, r5, r6, r7, r8, r9⟩ := bx10 hr
    have fz := (box8z hr).1
    have hlk := lt_of_heap hk
    have hlr := lt_of_heap hr
    have KF := hidm (rep_cells hr (.int .i64 x.code) (.int .i64 x.num) (.slice a0 n0 c0) (.int .i64 x.box.valid) (.int .i64 x.box.next) (.int .i64 x.box.seq) (.slice a1 x.box.mails.length c1) (.slice a2 x.box.gones.length c2) (.int .i64 x.box.lost) (.slice a3 x.names.length c3))
    have BF : Hid (Below w.heap.size w ((((((((((wc.setCell ⟨w.heap.size, 0, none⟩ (.int .i64 x.code)).setCell ⟨w.heap.size, 1, none⟩ (.int .i64 x.num)).setCell ⟨w.heap.size, 2, none⟩ (.slice a0 n0 c0)).setCell ⟨w.heap.size, 3, none⟩ (.int .i64 x.box.valid)).setCell ⟨w.heap.size, 4, none⟩ (.int .i64 x.box.next)).setCell ⟨w.heap.size, 5, none⟩ (.int .i64 x.box.seq)).setCell ⟨w.heap.size, 6, none⟩ (.slice a1 x.box.mails.length c1)).setCell ⟨w.heap.size, 7, none⟩ (.slice a2 x.box.gones.length c2)).setCell ⟨w.heap.size, 8, none⟩ (.int .i64 x.box.lost)).setCell ⟨w.heap.size, 9, none⟩ (.slice a3 x.names.length c3))) := ((((((((((hB.setCell (p := ⟨w.heap.size, 0, none⟩) (Nat.le_refl _) _).setCell (p := ⟨w.heap.size, 1, none⟩) (Nat.le_refl _) _).setCell (p := ⟨w.heap.size, 2, none⟩) (Nat.le_refl _) _).setCell (p := ⟨w.heap.size, 3, none⟩) (Nat.le_refl _) _).setCell (p := ⟨w.heap.size, 4, none⟩) (Nat.le_refl _) _).setCell (p := ⟨w.heap.size, 5, none⟩) (Nat.le_refl _) _).setCell (p := ⟨w.heap.size, 6, none⟩) (Nat.le_refl _) _).setCell (p := ⟨w.heap.size, 7, none⟩) (Nat.le_refl _) _).setCell (p := ⟨w.heap.size, 8, none⟩) (Nat.le_refl _) _).setCell (p := ⟨w.heap.size, 9, none⟩) (Nat.le_refl _) _)
    have HF : Hid (RepV ((((((((((wc.setCell ⟨w.heap.size, 0, none⟩ (.int .i64 x.code)).setCell ⟨w.heap.size, 1, none⟩ (.int .i64 x.num)).setCell ⟨w.heap.size, 2, none⟩ (.slice a0 n0 c0)).setCell ⟨w.heap.size, 3, none⟩ (.int .i64 x.box.valid)).setCell ⟨w.heap.size, 4, none⟩ (.int .i64 x.box.next)).setCell ⟨w.heap.size, 5, none⟩ (.int .i64 x.box.seq)).setCell ⟨w.heap.size, 6, none⟩ (.slice a1 x.box.mails.length c1)).setCell ⟨w.heap.size, 7, none⟩ (.slice a2 x.box.gones.length c2)).setCell ⟨w.heap.size, 8, none⟩ (.int .i64 x.box.lost)).setCell ⟨w.heap.size, 9, none⟩ (.slice a3 x.names.length c3)) (.agg #[.int .i64 x.code, .int .i64 x.num, .slice a0 n0 c0, .int .i64 x.box.valid, .int .i64 x.box.next, .int .i64 x.box.seq, .slice a1 x.box.mails.length c1, .slice a2 x.box.gones.length c2, .int .i64 x.box.lost, .slice a3 x.names.length c3]) x) := hR _ (by simp only [box_size]; exact Nat.le_refl _) fun k h1 h2 => by rw [Below.heap_setCell _ _ _ _ (show k ≠ w.heap.size by omega), Below.heap_setCell _ _ _ _ (show k ≠ w.heap.size by omega), Below.heap_setCell _ _ _ _ (show k ≠ w.heap.size by omega), Below.heap_setCell _ _ _ _ (show k ≠ w.heap.size by omega), Below.heap_setCell _ _ _ _ (show k ≠ w.heap.size by omega), Below.heap_setCell _ _ _ _ (show k ≠ w.heap.size by omega), Below.heap_setCell _ _ _ _ (show k ≠ w.heap.size by omega), Below.heap_setCell _ _ _ _ (show k ≠ w.heap.size by omega), Below.heap_setCell _ _ _ _ (show k ≠ w.heap.size by omega), Below.heap_setCell _ _ _ _ (show k ≠ w.heap.size by omega)]
    clear hk hR hR0 hB hr
    go_wp2
    obtain ⟨e0, e1, e2, e3, e4, e5, e6, e7, e8, e9⟩ := bx10 KF.out
    exact bodyPost_ret (v := .agg #[.int .i64 x.code, .int .i64 x.num, .slice a0 n0 c0, .int .i64 x.box.valid, .int .i64 x.box.next, .int .i64 x.box.seq, .slice a1 x.box.mails.length c1, .slice a2 x.box.gones.length c2, .int .i64 x.box.lost, .slice a3 x.names.length c3]) (by simp [results, Tryd.results14, go_sem, e0, e1, e2, e3, e4, e5, e6, e7, e8, e9]) rfl ⟨_, x, rfl, HF.out, BF.out⟩

end Go.Proofs.YtmonloebkdpahaaDoor

/- Replies that may be. -/
namespace Go.Proofs.YtmonloebkdpahaaDoor

def zX (n0 : Nat) (valid next seq : Int) (nm ng : Nat) (lost : Int) : Bool := decide (n0 = 0 ∧ valid = 0 ∧ next = 0 ∧ seq = 0 ∧ nm = 0 ∧ ng = 0 ∧ lost = 0)
def zeroXB (b : BoxD) : Bool := zX b.name.length b.valid b.next b.seq b.mails.length b.gones.length b.lost
def badN (n : List Int) : Bool := !nameB n
def repB (x : RepD) : Bool := inB x.code 0 6 && (inB x.num 0 1000000 && (decide (x.names.length ≤ 4) && (!(x.names.any badN) && (zeroXB x.box || boxB x.box 1000000))))
theorem repB_out {x : RepD} (h : ¬ ((0 ≤ x.code ∧ x.code ≤ 6) ∧ (0 ≤ x.num ∧ x.num ≤ 1000000) ∧ x.names.length ≤ 4)) : repB x = false := by
  rw [Bool.eq_false_iff]
  intro e
  simp only [repB, inB, Bool.and_eq_true, decide_eq_true_eq] at e
  exact h ⟨e.1, e.2.1, e.2.2.1⟩
theorem repB_in {x : RepD} (h : (0 ≤ x.code ∧ x.code ≤ 6) ∧ (0 ≤ x.num ∧ x.num ≤ 1000000) ∧ x.names.length ≤ 4) : repB x = (!(x.names.any badN) && (zeroXB x.box || boxB x.box 1000000)) := by
  simp [repB, inB, h.1.1, h.1.2, h.2.1.1, h.2.1.2, h.2.2]
theorem names_bad {l : List (List Int)} {k : Nat} {x : List Int} (hx : l[k]? = some x) (h : nameB x = false) : l.any badN = true := by
  rw [List.any_eq_true]
  exact ⟨x, List.mem_of_getElem? hx, by simp [badN, h]⟩
theorem names_good {l : List (List Int)} (h : ∀ j x, j < l.length → l[j]? = some x → nameB x = true) : l.any badN = false := by
  rw [List.any_eq_false]
  intro x hx
  obtain ⟨i, hi, rfl⟩ := List.mem_iff_getElem.1 hx
  simp [badN, h i _ hi (List.getElem?_eq_getElem hi)]

end Go.Proofs.YtmonloebkdpahaaDoor

/- What stays while bytes of the call's own are put behind one another: all below B, and all that are no bytes. -/
namespace Go.Proofs.YtmonloebkdpahaaDoor
open Go.RowKit

structure Tw (B : Nat) (w w' : World) : Prop where
  below : Below B w w'
  typed : ∀ (b : Nat) (c : Array Value) (t : TypeId) (f : Nat × Nat), t ≠ 5 → w.heap[b]? = some (Obj.cells c t f) → w'.heap[b]? = some (Obj.cells c t f)

theorem Tw.refl (B : Nat) (w : World) : Tw B w w := ⟨Below.refl _ _, fun _ _ _ _ _ h => h⟩
theorem Tw.trans {B : Nat} {a b c : World} (h : Tw B a b) (k : Tw B b c) : Tw B a c := ⟨h.below.trans k.below, fun i cs t f ht hc => k.typed i cs t f ht (h.typed i cs t f ht hc)⟩
theorem Tw.of_below {B : Nat} {w w' : World} (hB : B ≤ w.heap.size) (h : Below w.heap.size w w') : Tw B w w' := ⟨h.mono hB, fun b _ _ _ _ hb => (h.block b (lt_of_heap hb)).trans hb⟩
theorem Tw.alloc {B : Nat} {w : World} (hB : B ≤ w.heap.size) (o : Obj) : Tw B w (w.alloc o) := Tw.of_below hB ((Below.refl _ _).alloc (Nat.le_refl _) o)
theorem Tw.grown {B : Nat} {w w' : World} {v : Value} {l : List Int} (hv : OwnB w B v l) (hB : B ≤ w.heap.size) (hg : w.grownBy w' v.ownBlock) : Tw B w w' := by
  refine ⟨(Below.refl B w).grown hg hB (fun k hk => (hv.row.lt k hk).1), fun b c t f ht hb => (hg.block b (lt_of_heap hb) fun e => ?_).trans hb⟩
  obtain ⟨g, _, _, ⟨rfl, _⟩ | ⟨cap, cur, rfl, hh, _⟩⟩ := hv
  · simp [Value.ownBlock] at e
  · simp only [Value.ownBlock, Option.some.injEq] at e
    subst e
    rw [hb] at hh
    simp only [Option.some.injEq, Obj.cells.injEq] at hh
    exact ht hh.2.1
theorem Tw.size {B : Nat} {w w' : World} (h : Tw B w w') : w.heap.size ≤ w'.heap.size := h.below.size
theorem Tw.box {B g : Nat} {w w' : World} {c : Array Value} {t : TypeId} (h : Tw B w w') (ht : t ≠ 5) (hb : w.heap[g]? = some (.cells c t (0, 0))) : w'.heap[g]? = some (.cells c t (0, 0)) := h.typed g c t _ ht hb
theorem OwnB.nil' (w : World) (B : Nat) : OwnB w B (.slice none 0 0) [] := ⟨B, Nat.le_refl _, oct_nil, .inl ⟨rfl, rfl⟩⟩

end Go.Proofs.YtmonloebkdpahaaDoor

/- What putTokens, putLine of package impl do. -/
namespace Go.Proofs.YtmonloebkdpahaaDoor
open Go.RowKit
set_option maxRecDepth 100000
set_option linter.unusedVariables false

/-- A list of strings that is read. -/
def StrRE (_ : World) (c : List Value) (s : List Int) : Prop := c = [.string (strOfNums s)] ∧ Oct s
abbrev StrsV := Rd 1 StrRE
theorem keepsStr : Keeps StrRE := fun _ _ _ _ _ h => h
theorem StrsV.cell {w : World} {v : Value} {l : List (List Int)} (h : StrsV w v l) (k : Nat) (x : List Int) (hx : l[k]? = some x) : ∃ b off cap, v = .slice (some ⟨b, off, none⟩) l.length cap ∧ b < w.heap.size ∧ w.cell? ⟨b, off + k, none⟩ = some (.string (strOfNums x)) ∧ Oct x := by
  obtain ⟨b, off, cap, c, hv, hlt, ⟨rfl, hi⟩, -, hc⟩ := h.get k x hx
  exact ⟨b, off, cap, hv, hlt, by simpa using hc 0 _ rfl, hi⟩
def tokB (s : List Int) : List Int := [32] ++ s

set_option maxRecDepth 100000 in
set_option maxHeartbeats 1000000 in
theorem putTokens_b (B : Nat) (v bv : Value) (l wd : List Int) (ss : List (List Int)) (w : World) (hv : OwnB w B v l) (hB : B ≤ w.heap.size) (hwd : Oct wd) (hs : ∀ wi, Tw B w wi → StrsV wi bv ss)
    (hl : l.length ≤ 1000000) (hwl : wd.length ≤ 1000) (hsl : ss.length ≤ 100) (hst : ∀ s, s ∈ ss → s.length ≤ 1000) :
    Calls Tryd.prog 58 #[v, .string (strOfNums wd), bv] w fun e w' => ∃ u, e = .returned u ∧ OwnB w' B u (l ++ wd ++ ss.flatMap tokB) ∧ Tw B w w' := by
  have HS : Hid (∀ wi, Tw B w wi → StrsV wi bv ss) := hs
  obtain ⟨a, cap, rfl, m0, m1⟩ := (hs w (Tw.refl _ _)).form
  clear hs
  have HV : Hid (OwnB w B v l) := hv
  obtain ⟨va, vn, vc, rfl⟩ := hv.bs.form3
  clear hv
  obtain ⟨i0, hi, hz0, hz1, hz2⟩ := info_parts info5
  have HT : Hid (∀ k, ((ss.take k).flatMap tokB).length ≤ 1001 * (ss.take k).length) := fun k => flat_len tokB 1001 _ (fun s h => by have := hst s (List.mem_of_mem_take h); simp only [tokB, List.length_append, List.length_cons, List.length_nil]; omega)
  go_enter Tryd.func58, Tryd.ntmps58
  go_wp2_with (at_builtin; refine wpList_append_str rfl (.tmp 9) (.tmp 10) 22 9 rfl i0 Tryd.underlying22 Tryd.underlying9 hi hz0 hz1 hz2 B _ l rfl HV.out wd rfl hwd (by omega) hB w (Below.refl _ _) ?_)
  intro v1 w1 hO1 hB1 hG1
  have HO1 : Hid (OwnB w1 B v1 (l ++ wd ++ (ss.take 0).flatMap tokB)) := by simpa [Hid] using hO1
  have HT1 : Hid (Tw B w w1) := Tw.grown HV.out hB hG1
  clear hO1 hB1 hG1 HV
  go_wp2
  go_loopw [0, 14] (fun out i wr => ∃ k : Nat, k ≤ ss.length ∧ i = .int .i64 k ∧ Hid (OwnB wr B out (l ++ wd ++ (ss.take k).flatMap tokB)) ∧ Hid (Tw B w wr)) (fun _ i _ => ss.length - (intOf i).toNat)
  case atStart => exact ⟨0, Nat.zero_le _, rfl, HO1, HT1⟩
  case round =>
    clear HO1 HT1
    obtain ⟨k, hk, rfl, hO, hT⟩ := hrel
    have hsz := hT.out.size
    have hfl := HT.out k
    have htk : (ss.take k).length ≤ 100 := by simp; omega
    by_cases hlt : k < ss.length
    · obtain ⟨s, hx⟩ : ∃ s, ss[k]? = some s := ⟨ss[k], List.getElem?_eq_getElem hlt⟩
      obtain ⟨b, off, cap', hv', hlb, d0, hso⟩ := StrsV.cell (HS.out wr hT.out) k s hx
      simp only [Value.slice.injEq, true_and] at hv'
      obtain ⟨rfl, rfl⟩ := hv'
      have hsl' := hst s (List.mem_of_getElem? hx)
      have HST : Hid ((ss.take (k + 1)).flatMap tokB = (ss.take k).flatMap tokB ++ tokB s) := flat_step tokB hx
      have sr : B ≤ wr.heap.size := by omega
      have HA : Hid (Tw B w (wr.alloc (.cells #[.int .u8 32] 5))) := hT.out.trans (Tw.alloc sr _)
      have HOA : Hid (OwnB (wr.alloc (.cells #[.int .u8 32] 5)) B _ (l ++ wd ++ (ss.take k).flatMap tokB)) := hO.out.alloc _
      have sA : B ≤ (wr.alloc (.cells #[.int .u8 32] 5)).heap.size := by simp; omega
      clear hx hO hT
      go_wp2_with (at_builtin; refine wpList_append_bytes rfl (.tmp 18) (.tmp 19) 22 rfl i0 Tryd.underlying22 hi hz0 hz1 hz2 B _ _ rfl HOA.out _ [32] rfl (bs_one _ _ (by omega)) (by simp only [List.length_append, List.length_cons, List.length_nil]; omega) sA (wr.alloc (.cells #[.int .u8 32] 5)) (Below.refl _ _) ?_)
      intro v2 w2 hO2 hB2 hG2
      have HO2 : Hid (OwnB w2 B v2 (l ++ wd ++ (ss.take k).flatMap tokB ++ [32])) := by simpa [Hid] using hO2
      have HT2 : Hid (Tw B w w2) := HA.out.trans (Tw.grown HOA.out sA hG2)
      have s2 : B ≤ w2.heap.size := Nat.le_trans sA hG2.size
      clear hO2 hB2 hG2 HA HOA d0
      go_wp2_with (at_builtin; refine wpList_append_str rfl (.tmp 21) (.tmp 22) 22 9 rfl i0 Tryd.underlying22 Tryd.underlying9 hi hz0 hz1 hz2 B _ _ rfl HO2.out s rfl hso (by simp only [List.length_append, List.length_cons, List.length_nil]; omega) s2 w2 (Below.refl _ _) ?_)
      intro v3 w3 hO3 hB3 hG3
      have HO3 : Hid (OwnB w3 B v3 (l ++ wd ++ (ss.take (k + 1)).flatMap tokB)) := by
        rw [HST.out]
        simpa [Hid, tokB] using hO3
      have HT3 : Hid (Tw B w w3) := HT2.out.trans (Tw.grown HO2.out s2 hG3)
      clear hO3 hB3 hG3 HT2 HO2 HST
      go_wp2
      go_roundw
      case rel => exact ⟨k + 1, by omega, by go_num, HO3, HT3⟩
      case measure => simp [intOf]; omega
    · obtain rfl : k = ss.length := by omega
      go_wp2
      go_ret
      have ho := hO.out
      rw [List.take_length] at ho
      exact ⟨_, rfl, ho, hT.out⟩

set_option maxRecDepth 100000 in
set_option maxHeartbeats 1000000 in
theorem putLine_b (B : Nat) (v bv : Value) (l wd : List Int) (ss : List (List Int)) (w : World) (hv : OwnB w B v l) (hB : B ≤ w.heap.size) (hwd : Oct wd) (hs : ∀ wi, Tw B w wi → StrsV wi bv ss)
    (hl : l.length ≤ 1000000) (hwl : wd.length ≤ 1000) (hsl : ss.length ≤ 100) (hst : ∀ s, s ∈ ss → s.length ≤ 1000) :
    Calls Tryd.prog 28 #[v, .string (strOfNums wd), bv] w fun e w' => ∃ u, e = .returned u ∧ OwnB w' B u (l ++ wd ++ ss.flatMap tokB ++ [10]) ∧ Tw B w w' := by
  have hc := putTokens_b B v bv l wd ss w hv hB hwd hs hl hwl hsl hst
  have hfl := flat_len tokB 1001 ss (fun s h => by have := hst s h; simp only [tokB, List.length_append, List.length_cons, List.length_nil]; omega)
  obtain ⟨a, cap, rfl, m0, m1⟩ := (hs w (Tw.refl _ _)).form
  obtain ⟨va, vn, vc, rfl⟩ := hv.bs.form3
  clear hs hv
  obtain ⟨i0, hi, hz0, hz1, hz2⟩ := info_parts info5
  go_enter Tryd.func28, Tryd.ntmps28
  go_wp2_with fail
  refine hc.mono ?_
  rintro e w1 ⟨u1, rfl, O1, T1⟩
  have s1 : B ≤ w1.heap.size := Nat.le_trans hB T1.size
  have HA : Hid (Tw B w (w1.alloc (.cells #[.int .u8 10] 5))) := T1.trans (Tw.alloc s1 _)
  have HOA : Hid (OwnB (w1.alloc (.cells #[.int .u8 10] 5)) B u1 (l ++ wd ++ ss.flatMap tokB)) := O1.alloc _
  have sA : B ≤ (w1.alloc (.cells #[.int .u8 10] 5)).heap.size := by simp; omega
  clear hc O1 T1
  go_wp2_with (at_builtin; refine wpList_append_bytes rfl (.tmp 10) (.tmp 11) 22 rfl i0 Tryd.underlying22 hi hz0 hz1 hz2 B _ _ rfl HOA.out _ [10] rfl (bs_one _ _ (by omega)) (by simp only [List.length_append, List.length_cons, List.length_nil]; omega) sA (w1.alloc (.cells #[.int .u8 10] 5)) (Below.refl _ _) ?_)
  intro v2 w2 hO2 hB2 hG2
  have HO2 : Hid (OwnB w2 B v2 (l ++ wd ++ ss.flatMap tokB ++ [10])) := by simpa [Hid] using hO2
  have HT2 : Hid (Tw B w w2) := HA.out.trans (Tw.grown HOA.out sA hG2)
  clear hO2 hB2 hG2 HA HOA
  go_wp2
  go_ret
  exact ⟨_, rfl, HO2.out, HT2.out⟩

end Go.Proofs.YtmonloebkdpahaaDoor

/- What needsEscape of package impl does. -/
namespace Go.Proofs.YtmonloebkdpahaaDoor
open Go.RowKit
set_option maxRecDepth 100000
set_option linter.unusedVariables false
set_option linter.unusedSimpArgs false

set_option maxHeartbeats 400000 in
theorem needsEscape_any (x : Int) (hx : 0 ≤ x ∧ x ≤ 255) (w : World) :
    Calls Tryd.prog 89 #[.int .u8 x] w fun e w' => e = .returned (.bool (decide (x = 34 ∨ x = 92))) ∧ w' = w := by
  by_cases h1 : x = 34
  · subst h1
    go_enter Tryd.func89, Tryd.ntmps89
    go_wp2
    go_ret
    exact ⟨rfl, rfl⟩
  · by_cases h2 : x = 92
    · subst h2
      go_enter Tryd.func89, Tryd.ntmps89
      go_wp2
      go_ret
      exact ⟨rfl, rfl⟩
    · have b1 : (x == 34) = false := by simp [h1]
      have b2 : (x == 92) = false := by simp [h2]
      have e : Hid (decide (x = 34 ∨ x = 92) = false) := decide_eq_false (by omega)
      go_enter Tryd.func89, Tryd.ntmps89
      go_wp2
      go_ret
      exact ⟨by rw [e.out]; rfl, rfl⟩

end Go.Proofs.YtmonloebkdpahaaDoor

/- What needsEscape, flagsText, quotedText of package impl do. -/
namespace Go.Proofs.YtmonloebkdpahaaDoor
open Go.RowKit
set_option maxRecDepth 100000
set_option linter.unusedVariables false

theorem bit_and : ∀ (k : Fin 5) (x : Fin 32), (bits BinOp.and IntKind.i64 ((x : Nat) : Int) ((2 ^ (k : Nat) : Nat) : Int) != 0) = decide ((x : Nat) / 2 ^ (k : Nat) % 2 = 1) := by decide +kernel

set_option maxRecDepth 100000 in
set_option maxHeartbeats 2000000 in
theorem flagsText_r (f : Nat) (hf : f ≤ 31) (w : World) :
    Calls Tryd.prog 59 #[.int .i64 f] w fun e w' => e = .returned (.string (strOfNums (flagsB f))) ∧ Below w.heap.size w w' := by
  obtain ⟨i0, hi, hz0, hz1, hz2⟩ := info_parts info5
  have H0 : Hid (OwnB (w.alloc (.cells #[.int .u8 40] 5)) w.heap.size (.slice (some ⟨w.heap.size, 0, none⟩) 1 1) ([40] ++ (List.range 0).flatMap (flagAt f))) := by simpa [Hid] using ownB_one w _ (Nat.le_refl _) 40 (by omega)
  have HB : Hid (Below w.heap.size w (w.alloc (.cells #[.int .u8 40] 5))) := (Below.refl _ _).alloc (Nat.le_refl _) _
  go_enter Tryd.func59, Tryd.ntmps59
  go_wp2
  go_loopw [3, 6] (fun b i wr => ∃ k : Nat, k ≤ 5 ∧ i = .int .i64 k ∧ Hid (OwnB wr w.heap.size b ([40] ++ (List.range k).flatMap (flagAt f))) ∧ Hid (Below w.heap.size w wr)) (fun _ i _ => 5 - (intOf i).toNat)
  case atStart => exact ⟨0, Nat.zero_le _, rfl, H0, HB⟩
  case round =>
    clear H0 HB
    obtain ⟨k, hk, rfl, hO, hB⟩ := hrel
    have hsz := hB.out.size
    have hfl := flat_len (flagAt f) 1 (List.range k) (fun x _ => flagAt_len f x)
    simp only [List.length_range] at hfl
    by_cases hlt : k < 5
    · have HST : Hid ((List.range (k + 1)).flatMap (flagAt f) = (List.range k).flatMap (flagAt f) ++ flagAt f k) := range5_step f k
      obtain rfl | rfl | rfl | rfl | rfl : k = 0 ∨ k = 1 ∨ k = 2 ∨ k = 3 ∨ k = 4 := by omega
      · have hE : flagAt f 0 = (if f % 2 = 1 then [83] else []) := by simp [flagAt, letB]
        have hb : (bits BinOp.and IntKind.i64 (f : Int) 1 != 0) = decide (f % 2 = 1) := by
          have h := bit_and 0 ⟨f, by omega⟩
          simpa using h
        by_cases hc : f % 2 = 1
        · rw [if_pos hc] at hE
          rw [decide_eq_true hc] at hb
          have HE : Hid (flagAt f 0 = [83]) := hE
          clear hE
          go_wp2_with (at_builtin; refine wpList_append_bytes rfl (.tmp 14) (.tmp 17) 22 rfl i0 Tryd.underlying22 hi hz0 hz1 hz2 w.heap.size _ _ rfl (hO.out.alloc _) _ [83] rfl (bs_one _ 83 (by omega)) (by simp only [List.length_append, List.length_cons, List.length_nil]; omega) (by simp; omega) w (hB.out.alloc hsz _) ?_)
          intro v3 w3 hO3 hB3 _
          have HO3 : Hid (OwnB w3 w.heap.size v3 ([40] ++ (List.range (0 + 1)).flatMap (flagAt f))) := by
            rw [HST.out, HE.out]
            simpa [Hid, show List.range 1 = [0] from rfl, show List.range 2 = [0, 1] from rfl, show List.range 3 = [0, 1, 2] from rfl, show List.range 4 = [0, 1, 2, 3] from rfl] using hO3
          clear hO3
          go_wp2
          go_roundw
          case rel => exact ⟨0 + 1, by omega, by go_num, HO3, hB3⟩
          case measure => simp [intOf]
        · rw [if_neg hc] at hE
          rw [decide_eq_false hc] at hb
          have HEQ : Hid ([40] ++ (List.range 0).flatMap (flagAt f) = [40] ++ (List.range (0 + 1)).flatMap (flagAt f)) := by rw [Hid, HST.out, hE, List.append_nil]
          clear hE
          go_wp2
          go_roundw
          case rel => exact ⟨0 + 1, by omega, by go_num, by rw [← HEQ.out]; exact hO, hB⟩
          case measure => simp [intOf]
      · have hE : flagAt f 1 = (if f / 2 % 2 = 1 then [65] else []) := by simp [flagAt, letB]
        have hb : (bits BinOp.and IntKind.i64 (f : Int) 2 != 0) = decide (f / 2 % 2 = 1) := by
          have h := bit_and 1 ⟨f, by omega⟩
          simpa using h
        by_cases hc : f / 2 % 2 = 1
        · rw [if_pos hc] at hE
          rw [decide_eq_true hc] at hb
          have HE : Hid (flagAt f 1 = [65]) := hE
          clear hE
          go_wp2_with (at_builtin; refine wpList_append_bytes rfl (.tmp 14) (.tmp 17) 22 rfl i0 Tryd.underlying22 hi hz0 hz1 hz2 w.heap.size _ _ rfl (hO.out.alloc _) _ [65] rfl (bs_one _ 65 (by omega)) (by simp only [List.length_append, List.length_cons, List.length_nil]; omega) (by simp; omega) w (hB.out.alloc hsz _) ?_)
          intro v3 w3 hO3 hB3 _
          have HO3 : Hid (OwnB w3 w.heap.size v3 ([40] ++ (List.range (1 + 1)).flatMap (flagAt f))) := by
            rw [HST.out, HE.out]
            simpa [Hid, show List.range 1 = [0] from rfl, show List.range 2 = [0, 1] from rfl, show List.range 3 = [0, 1, 2] from rfl, show List.range 4 = [0, 1, 2, 3] from rfl] using hO3
          clear hO3
          go_wp2
          go_roundw
          case rel => exact ⟨1 + 1, by omega, by go_num, HO3, hB3⟩
          case measure => simp [intOf]
        · rw [if_neg hc] at hE
          rw [decide_eq_false hc] at hb
          have HEQ : Hid ([40] ++ (List.range 1).flatMap (flagAt f) = [40] ++ (List.range (1 + 1)).flatMap (flagAt f)) := by rw [Hid, HST.out, hE, List.append_nil]
          clear hE
          go_wp2
          go_roundw
          case rel => exact ⟨1 + 1, by omega, by go_num, by rw [← HEQ.out]; exact hO, hB⟩
          case measure => simp [intOf]
      · have hE : flagAt f 2 = (if f / 4 % 2 = 1 then [70] else []) := by simp [flagAt, letB]
        have hb : (bits BinOp.and IntKind.i64 (f : Int) 4 != 0) = decide (f / 4 % 2 = 1) := by
          have h := bit_and 2 ⟨f, by omega⟩
          simpa using h
        by_cases hc : f / 4 % 2 = 1
        · rw [if_pos hc] at hE
          rw [decide_eq_true hc] at hb
          have HE : Hid (flagAt f 2 = [70]) := hE
          clear hE
          go_wp2_with (at_builtin; refine wpList_append_bytes rfl (.tmp 14) (.tmp 17) 22 rfl i0 Tryd.underlying22 hi hz0 hz1 hz2 w.heap.size _ _ rfl (hO.out.alloc _) _ [70] rfl (bs_one _ 70 (by omega)) (by simp only [List.length_append, List.length_cons, List.length_nil]; omega) (by simp; omega) w (hB.out.alloc hsz _) ?_)
          intro v3 w3 hO3 hB3 _
          have HO3 : Hid (OwnB w3 w.heap.size v3 ([40] ++ (List.range (2 + 1)).flatMap (flagAt f))) := by
            rw [HST.out, HE.out]
            simpa [Hid, show List.range 1 = [0] from rfl, show List.range 2 = [0, 1] from rfl, show List.range 3 = [0, 1, 2] from rfl, show List.range 4 = [0, 1, 2, 3] from rfl] using hO3
          clear hO3
          go_wp2
          go_roundw
          case rel => exact ⟨2 + 1, by omega, by go_num, HO3, hB3⟩
          case measure => simp [intOf]
        · rw [if_neg hc] at hE
          rw [decide_eq_false hc] at hb
          have HEQ : Hid ([40] ++ (List.range 2).flatMap (flagAt f) = [40] ++ (List.range (2 + 1)).flatMap (flagAt f)) := by rw [Hid, HST.out, hE, List.append_nil]
          clear hE
          go_wp2
          go_roundw
          case rel => exact ⟨2 + 1, by omega, by go_num, by rw [← HEQ.out]; exact hO, hB⟩
          case measure => simp [intOf]
      · have hE : flagAt f 3 = (if f / 8 % 2 = 1 then [68] else []) := by simp [flagAt, letB]
        have hb : (bits BinOp.and IntKind.i64 (f : Int) 8 != 0) = decide (f / 8 % 2 = 1) := by
          have h := bit_and 3 ⟨f, by omega⟩
          exact h
        by_cases hc : f / 8 % 2 = 1
        · rw [if_pos hc] at hE
          rw [decide_eq_true hc] at hb
          have HE : Hid (flagAt f 3 = [68]) := hE
          clear hE
          go_wp2_with (at_builtin; refine wpList_append_bytes rfl (.tmp 14) (.tmp 17) 22 rfl i0 Tryd.underlying22 hi hz0 hz1 hz2 w.heap.size _ _ rfl (hO.out.alloc _) _ [68] rfl (bs_one _ 68 (by omega)) (by simp only [List.length_append, List.length_cons, List.length_nil]; omega) (by simp; omega) w (hB.out.alloc hsz _) ?_)
          intro v3 w3 hO3 hB3 _
          have HO3 : Hid (OwnB w3 w.heap.size v3 ([40] ++ (List.range (3 + 1)).flatMap (flagAt f))) := by
            rw [HST.out, HE.out]
            simpa [Hid, show List.range 1 = [0] from rfl, show List.range 2 = [0, 1] from rfl, show List.range 3 = [0, 1, 2] from rfl, show List.range 4 = [0, 1, 2, 3] from rfl] using hO3
          clear hO3
          go_wp2
          go_roundw
          case rel => exact ⟨3 + 1, by omega, by go_num, HO3, hB3⟩
          case measure => simp [intOf]
        · rw [if_neg hc] at hE
          rw [decide_eq_false hc] at hb
          have HEQ : Hid ([40] ++ (List.range 3).flatMap (flagAt f) = [40] ++ (List.range (3 + 1)).flatMap (flagAt f)) := by rw [Hid, HST.out, hE, List.append_nil]
          clear hE
          go_wp2
          go_roundw
          case rel => exact ⟨3 + 1, by omega, by go_num, by rw [← HEQ.out]; exact hO, hB⟩
          case measure => simp [intOf]
      · have hE : flagAt f 4 = (if f / 16 % 2 = 1 then [82] else []) := by simp [flagAt, letB]
        have hb : (bits BinOp.and IntKind.i64 (f : Int) 16 != 0) = decide (f / 16 % 2 = 1) := by
          have h := bit_and 4 ⟨f, by omega⟩
          exact h
        by_cases hc : f / 16 % 2 = 1
        · rw [if_pos hc] at hE
          rw [decide_eq_true hc] at hb
          have HE : Hid (flagAt f 4 = [82]) := hE
          clear hE
          go_wp2_with (at_builtin; refine wpList_append_bytes rfl (.tmp 14) (.tmp 17) 22 rfl i0 Tryd.underlying22 hi hz0 hz1 hz2 w.heap.size _ _ rfl (hO.out.alloc _) _ [82] rfl (bs_one _ 82 (by omega)) (by simp only [List.length_append, List.length_cons, List.length_nil]; omega) (by simp; omega) w (hB.out.alloc hsz _) ?_)
          intro v3 w3 hO3 hB3 _
          have HO3 : Hid (OwnB w3 w.heap.size v3 ([40] ++ (List.range (4 + 1)).flatMap (flagAt f))) := by
            rw [HST.out, HE.out]
            simpa [Hid, show List.range 1 = [0] from rfl, show List.range 2 = [0, 1] from rfl, show List.range 3 = [0, 1, 2] from rfl, show List.range 4 = [0, 1, 2, 3] from rfl] using hO3
          clear hO3
          go_wp2
          go_roundw
          case rel => exact ⟨4 + 1, by omega, by go_num, HO3, hB3⟩
          case measure => simp [intOf]
        · rw [if_neg hc] at hE
          rw [decide_eq_false hc] at hb
          have HEQ : Hid ([40] ++ (List.range 4).flatMap (flagAt f) = [40] ++ (List.range (4 + 1)).flatMap (flagAt f)) := by rw [Hid, HST.out, hE, List.append_nil]
          clear hE
          go_wp2
          go_roundw
          case rel => exact ⟨4 + 1, by omega, by go_num, by rw [← HEQ.out]; exact hO, hB⟩
          case measure => simp [intOf]
    · obtain rfl : k = 5 := by omega
      go_wp2_with (at_builtin; refine wpList_append_bytes rfl (.tmp 20) (.tmp 21) 22 rfl i0 Tryd.underlying22 hi hz0 hz1 hz2 w.heap.size _ _ rfl (hO.out.alloc _) _ _ rfl (bs_one _ _ (by omega)) (by simp only [List.length_append, List.length_cons, List.length_nil]; omega) (by simp; omega) w (hB.out.alloc hsz _) ?_)
      intro v2 w2 hO2 hB2 _
      have HO2 : OwnB w2 w.heap.size v2 (flagsB f) := by simpa [flagsB, show List.range 5 = [0, 1, 2, 3, 4] from rfl] using hO2
      have hcv := run_convert_bs HO2.bs
      clear hO2 HO2
      go_wp2
      go_ret
      exact ⟨rfl, hB2⟩

set_option maxRecDepth 100000 in
set_option maxHeartbeats 2000000 in
theorem quotedText_r (v : Value) (t : List Int) (w : World) (hv : Bs w v t) (ht : t.length ≤ 2000000) :
    Calls Tryd.prog 60 #[v] w fun e w' => e = .returned (.string (strOfNums (quoB t))) ∧ Below w.heap.size w w' := by
  have HV : Hid (∀ wi, Below w.heap.size w wi → Bs wi v t) := fun wi h => hv.below h
  obtain ⟨ho, a, cap, rfl, hlc, hcm, -⟩ := hv
  unfold maxLen at hcm
  obtain ⟨i0, hi, hz0, hz1, hz2⟩ := info_parts info5
  have H0 : Hid (OwnB (w.alloc (.cells #[.int .u8 34] 5)) w.heap.size (.slice (some ⟨w.heap.size, 0, none⟩) 1 1) ([34] ++ (t.take 0).flatMap escB)) := by simpa [Hid] using ownB_one w _ (Nat.le_refl _) 34 (by omega)
  have HB : Hid (Below w.heap.size w (w.alloc (.cells #[.int .u8 34] 5))) := (Below.refl _ _).alloc (Nat.le_refl _) _
  go_enter Tryd.func60, Tryd.ntmps60
  go_wp2
  go_loopw [3, 9] (fun b i wr => ∃ k : Nat, k ≤ t.length ∧ i = .int .i64 k ∧ Hid (OwnB wr w.heap.size b ([34] ++ (t.take k).flatMap escB)) ∧ Hid (Below w.heap.size w wr)) (fun _ i _ => t.length - (intOf i).toNat)
  case atStart => exact ⟨0, Nat.zero_le _, rfl, H0, HB⟩
  case round =>
    clear H0 HB
    obtain ⟨k, hk, rfl, hO, hB⟩ := hrel
    have hsz := hB.out.size
    have hfl := flat_len escB 2 (t.take k) (fun x _ => escB_len x)
    have htk : (t.take k).length ≤ 2000000 := by simp; omega
    by_cases hlt : k < t.length
    · obtain ⟨x, hx⟩ : ∃ x, t[k]? = some x := ⟨t[k], List.getElem?_eq_getElem hlt⟩
      have hxo : 0 ≤ x ∧ x ≤ 255 := ho x (List.mem_of_getElem? hx)
      have HST : Hid ((t.take (k + 1)).flatMap escB = (t.take k).flatMap escB ++ escB x) := flat_step escB hx
      obtain ⟨ho', a', cap', hv', -, -, -, hcells⟩ := HV.out wr hB.out
      simp only [Value.slice.injEq, true_and] at hv'
      obtain ⟨rfl, rfl⟩ := hv'
      obtain ⟨b, off, rfl, hlb, hc⟩ := hcells (by omega)
      have d0 := hc k hlt
      rw [List.getD_eq_getElem?_getD, hx, Option.getD_some] at d0
      clear hcells hc ho'
      have hne := needsEscape_any x hxo wr
      by_cases he : x = 34 ∨ x = 92
      · have HE : Hid (escB x = [92, x]) := by simp only [Hid, escB, if_pos he]
        rw [decide_eq_true he] at hne
        have HX : Hid (x = 34 ∨ x = 92) := he
        clear he
        go_wp2_with fail
        refine hne.mono ?_
        rintro e w1 ⟨rfl, rfl⟩
        clear hne d0
        go_wp2_with (at_builtin; refine wpList_append_bytes rfl (.tmp 15) (.tmp 16) 22 rfl i0 Tryd.underlying22 hi hz0 hz1 hz2 w.heap.size _ _ rfl (hO.out.alloc _) _ _ rfl (bs_one _ _ (by omega)) (by simp only [List.length_append, List.length_cons, List.length_nil]; omega) (by simp; omega) w (hB.out.alloc hsz _) ?_)
        intro v2 w2 hO2 hB2 _
        have s2 := hB2.size
        have HO2 : Hid (OwnB w2 w.heap.size v2 ([34] ++ (t.take k).flatMap escB ++ [92])) := by simpa [Hid] using hO2
        clear hO2 hO hB hlb
        go_wp2_with (at_builtin; refine wpList_append_bytes rfl (.tmp 18) (.tmp 20) 22 rfl i0 Tryd.underlying22 hi hz0 hz1 hz2 w.heap.size _ _ rfl (HO2.out.alloc _) _ [x] rfl (bs_one _ _ (by omega)) (by simp only [List.length_append, List.length_cons, List.length_nil]; omega) (by simp; omega) w (hB2.alloc s2 _) ?_)
        intro v3 w3 hO3 hB3 _
        have HO3 : Hid (OwnB w3 w.heap.size v3 ([34] ++ (t.take (k + 1)).flatMap escB)) := by
          rw [HST.out, HE.out]
          simpa [Hid] using hO3
        clear hO3
        go_wp2
        go_roundw
        case rel => exact ⟨k + 1, by omega, by go_num, HO3, hB3⟩
        case measure => simp [intOf]; omega
      · have HE : Hid (escB x = [x]) := by simp only [Hid, escB, if_neg he]
        rw [decide_eq_false he] at hne
        clear he
        go_wp2_with fail
        refine hne.mono ?_
        rintro e w1 ⟨rfl, rfl⟩
        clear hne d0
        go_wp2_with (at_builtin; refine wpList_append_bytes rfl (.tmp 18) (.tmp 20) 22 rfl i0 Tryd.underlying22 hi hz0 hz1 hz2 w.heap.size _ _ rfl (hO.out.alloc _) _ [x] rfl (bs_one _ _ (by omega)) (by simp only [List.length_append, List.length_cons, List.length_nil]; omega) (by simp; omega) w (hB.out.alloc hsz _) ?_)
        intro v3 w3 hO3 hB3 _
        have HO3 : Hid (OwnB w3 w.heap.size v3 ([34] ++ (t.take (k + 1)).flatMap escB)) := by
          rw [HST.out, HE.out]
          simpa [Hid] using hO3
        clear hO3
        go_wp2
        go_roundw
        case rel => exact ⟨k + 1, by omega, by go_num, HO3, hB3⟩
        case measure => simp [intOf]; omega
    · obtain rfl : k = t.length := by omega
      go_wp2_with (at_builtin; refine wpList_append_bytes rfl (.tmp 23) (.tmp 24) 22 rfl i0 Tryd.underlying22 hi hz0 hz1 hz2 w.heap.size _ _ rfl (hO.out.alloc _) _ _ rfl (bs_one _ _ (by omega)) (by simp only [List.length_append, List.length_cons, List.length_nil]; omega) (by simp; omega) w (hB.out.alloc hsz _) ?_)
      intro v2 w2 hO2 hB2 _
      have HO2 : OwnB w2 w.heap.size v2 (quoB t) := by simpa [quoB] using hO2
      have hcv := run_convert_bs HO2.bs
      clear hO2 HO2
      go_wp2
      go_ret
      exact ⟨rfl, hB2⟩

end Go.Proofs.YtmonloebkdpahaaDoor

/- strconv.Itoa, out of the library's contract. -/
namespace Go.Proofs.YtmonloebkdpahaaDoor
open Go.RowKit

/-- The library's table of powers reads as its start-up lays it. -/
abbrev Tab10 (w : World) : Prop := Lib.TabIs Tryd.prog w "internal/strconv.uint64pow10" .u64 Lib.pow10Tab
theorem str_dig (n : Nat) : (⟨(Lib.decDigits n).toArray⟩ : ByteArray) = strOfNums (digB n) := by
  unfold strOfNums digB ofU8
  rw [List.map_map]
  congr 2
  conv => lhs; rw [← List.map_id (Lib.decDigits n)]
  refine List.map_congr_left fun b _ => ?_
  simp

theorem itoa_b (n : Nat) (hn : n ≤ 9999999) (w : World) (ht : Tab10 w) :
    Calls Tryd.prog 27 #[.int .i64 n] w fun e w' => e = .returned (.string (strOfNums (digB n))) ∧ Below w.heap.size w w' := by
  refine (Tryd.strconv_Itoa (n : Int) (by omega) (by omega) w ht).mono ?_
  rintro e w' ⟨rfl, k, os, rfl⟩
  refine ⟨?_, Lib.below_grow _ w (Nat.le_refl _) k os⟩
  rw [← str_dig]
  have : Lib.itoa (n : Int) = Lib.decDigits n := by
    unfold Lib.itoa
    rw [if_neg (by omega)]
    simp
  rw [this]

end Go.Proofs.YtmonloebkdpahaaDoor

/- Strings that commands and replies are made of. -/
namespace Go.Proofs.YtmonloebkdpahaaDoor
open Go.RowKit
set_option linter.unusedVariables false

theorem itoa_i (n : Int) (h0 : 0 ≤ n) (h1 : n ≤ 9999999) (w : World) (ht : Tab10 w) :
    Calls Tryd.prog 27 #[.int .i64 n] w fun e w' => e = .returned (.string (strOfNums (digB n.toNat))) ∧ Below w.heap.size w w' := by
  have h := itoa_b n.toNat (by omega) w ht
  rwa [show ((n.toNat : Nat) : Int) = n by omega] at h
theorem flagsText_i (n : Int) (h0 : 0 ≤ n) (h1 : n ≤ 31) (w : World) :
    Calls Tryd.prog 59 #[.int .i64 n] w fun e w' => e = .returned (.string (strOfNums (flagsB n))) ∧ Below w.heap.size w w' := by
  have h := flagsText_r n.toNat (by omega) w
  rwa [show ((n.toNat : Nat) : Int) = n by omega] at h
theorem strs_lit (w : World) (g : Nat) (ss : List (List Int)) (h : w.heap[g]? = some (.cells (ss.map (fun s => Value.string (strOfNums s))).toArray 9 (0, 0))) (hn : ∀ s, s ∈ ss → Oct s) (hl : ss.length ≤ 1000) : StrsV w (.slice (some ⟨g, 0, none⟩) ss.length ss.length) ss := by
  refine ⟨some ⟨g, 0, none⟩, ss.length, fun i => [.string (strOfNums (ss.getD i []))], rfl, Nat.le_refl _, by unfold maxLen; omega, (fun h => by cases h), fun i x hx => ?_, fun _ => ?_⟩
  · exact ⟨⟨by simp [List.getD_eq_getElem?_getD, hx], hn x (List.mem_of_getElem? hx)⟩, rfl⟩
  · refine ⟨g, 0, rfl, lt_of_heap h, fun i j u hi hu => ?_⟩
    cases j with
    | zero =>
      simp only [List.getElem?_cons_zero, Option.some.injEq] at hu
      subst hu
      rw [show 0 + i * 1 + 0 = i by omega, cell_of_row w g i _ _ (0, 0) h]
      simp [List.getD_eq_getElem?_getD, hi]
    | succ j => simp at hu
end Go.Proofs.YtmonloebkdpahaaDoor

/- Lines of boxes, on lists. -/
namespace Go.Proofs.YtmonloebkdpahaaDoor
open Go.RowKit

def mailLine (m : MailD) : List Int := [77, 65, 73, 76] ++ [digB m.uid.toNat, digB m.seq.toNat, flagsB m.flags, quoB m.text].flatMap tokB ++ [10]
def goneLine (g : GoneD) : List Int := [71, 79, 78, 69] ++ [digB g.uid.toNat].flatMap tokB ++ [10]
def boxLine (x : BoxD) : List Int := [66, 79, 88] ++ [x.name, digB x.valid.toNat, digB x.next.toNat, digB x.seq.toNat].flatMap tokB ++ [10]
theorem toks_len (ss : List (List Int)) (h : ∀ s, s ∈ ss → s.length ≤ 1000) : (ss.flatMap tokB).length ≤ 1001 * ss.length := flat_len tokB 1001 ss (fun s hs => by have := h s hs; simp only [tokB, List.length_append, List.length_cons, List.length_nil]; omega)
def boxLines (x : BoxD) : List Int := boxLine x ++ (x.mails.flatMap mailLine ++ x.gones.flatMap goneLine)

end Go.Proofs.YtmonloebkdpahaaDoor

/- Replies as lines, on lists. -/
namespace Go.Proofs.YtmonloebkdpahaaDoor
open Go.RowKit

def codeW (c : Int) : List Int := if c = 0 then [79, 75] else if c = 1 then [78, 79, 78, 69] else if c = 2 then [69, 88, 73, 83, 84, 83] else if c = 3 then [70, 85, 76, 76] else if c = 4 then [83, 84, 65, 76, 69] else if c = 5 then [66, 65, 68] else [65, 87, 65, 89]
def headL (x : RepD) : List Int := codeW x.code ++ ((digB x.num.toNat) :: x.names).flatMap tokB ++ [10]
def replyL (x : RepD) : List Int := headL x ++ (if zeroXB x.box = true then [] else boxLines x.box)
def rtB (x : RepD) : List Int := match repB x with
  | true => replyL x
  | false => []
theorem rtB_yes {x : RepD} (h : repB x = true) : rtB x = replyL x := by unfold rtB; rw [h]
theorem rtB_no {x : RepD} (h : repB x = false) : rtB x = [] := by unfold rtB; rw [h]
theorem codeW_ok (n : Nat) (h : n ≤ 6) : (codeW n).length ≤ 6 ∧ 0 < (codeW n).length ∧ Oct (codeW n) := by
  have : n = 0 ∨ n = 1 ∨ n = 2 ∨ n = 3 ∨ n = 4 ∨ n = 5 ∨ n = 6 := by omega
  rcases this with rfl | rfl | rfl | rfl | rfl | rfl | rfl <;> exact ⟨by decide, by decide, by intro x hx; simp [codeW] at hx; omega⟩
theorem rep_facts {x : RepD} (h : repB x = true) : (0 ≤ x.code ∧ x.code ≤ 6) ∧ (0 ≤ x.num ∧ x.num ≤ 1000000) ∧ x.names.length ≤ 4 ∧ (∀ n, n ∈ x.names → n.length ≤ 6 ∧ 0 < n.length) ∧ (zeroXB x.box = true ∨ boxB x.box 1000000 = true) := by
  simp only [repB, inB, Bool.and_eq_true, decide_eq_true_eq, Bool.not_eq_true', Bool.or_eq_true] at h
  obtain ⟨h0, h1, h2, h3, h4⟩ := h
  refine ⟨h0, h1, h2, fun n hn => ?_, h4⟩
  rw [List.any_eq_false] at h3
  have := h3 n hn
  simp only [badN, Bool.not_eq_true', Bool.not_eq_false] at this
  have := nameB_len this
  omega
theorem textB_len2 {l : List Int} (h : textB l = true) : l.length ≤ 30 := by unfold textB at h; simp at h; exact h.1
theorem box_facts {b : BoxD} (h : boxB b 1000000 = true) : b.name.length ≤ 6 ∧ 0 < b.name.length ∧ (0 ≤ b.valid ∧ b.valid ≤ 1000000) ∧ (0 ≤ b.next ∧ b.next ≤ 1000000) ∧ (0 ≤ b.seq ∧ b.seq ≤ 1000000) ∧ b.mails.length ≤ 12 ∧ b.gones.length ≤ 40 ∧
    (∀ m, m ∈ b.mails → 0 ≤ m.uid ∧ m.uid ≤ 1000000 ∧ 0 ≤ m.seq ∧ m.seq ≤ 1000000 ∧ 0 ≤ m.flags ∧ m.flags ≤ 31 ∧ m.text.length ≤ 30) ∧ (∀ m, m ∈ b.gones → 0 ≤ m.uid ∧ m.uid ≤ 1000000) := by
  simp only [boxB, mailsB, gonesB, inB, Bool.and_eq_true, decide_eq_true_eq] at h
  obtain ⟨h0, h1, h2, h3, h4, ⟨h5, h6⟩, h7, h8⟩ := h
  have hn := nameB_len h0
  rw [List.all_eq_true] at h6 h8
  refine ⟨hn.2, by omega, by omega, by omega, by omega, h5, h7, fun m hm => ?_, fun m hm => ?_⟩
  · obtain ⟨i, hi, rfl⟩ := List.mem_iff_getElem.1 hm
    have hp := prevU_ok (b := b) (k := i) h2.2 (by omega) (fun j hj => h6 j (by simp; omega))
    have := h6 i (by simp; omega)
    simp only [mailAt, List.getElem?_eq_getElem hi, inB, Bool.and_eq_true, decide_eq_true_eq] at this
    have ht := textB_len2 this.2.2.2
    omega
  · obtain ⟨i, hi, rfl⟩ := List.mem_iff_getElem.1 hm
    have := h8 i (by simp; omega)
    simp only [goneAt, List.getElem?_eq_getElem hi, inB, Bool.and_eq_true, decide_eq_true_eq] at this
    omega

end Go.Proofs.YtmonloebkdpahaaDoor

/- What l3name of package spec does. -/
namespace Go.Proofs.YtmonloebkdpahaaDoor
open Go.RowKit
set_option maxRecDepth 100000

set_option maxHeartbeats 400000 in
theorem l3name_any (v : Value) (l : List Int) (w : World) (hv : Bs w v l) :
    Calls Tryd.prog 47 #[v] w fun e w' => e = .returned (.bool (nameB l)) ∧ w' = w := by
  obtain ⟨ho, a, cap, rfl, hlc, hcm, hnil, hcells⟩ := hv
  unfold maxLen at hcm
  by_cases h0 : 1 ≤ l.length
  · by_cases h1 : l.length ≤ 6
    · have HN : Hid (nameB l = allIn 97 122 l) := by simp [Hid, nameB, h0, h1]
      obtain ⟨b, off, rfl, hlb, hc⟩ := hcells (by omega)
      go_enter Tryd.func47, Tryd.ntmps47
      go_wp2
      go_loop [3] (fun i => ∃ k : Nat, k ≤ l.length ∧ i = .int .i64 k ∧ Hid (∀ j, j < k → 97 ≤ l.getD j 0 ∧ l.getD j 0 ≤ 122)) (fun i => l.length - (intOf i).toNat)
      case atStart => exact ⟨0, Nat.zero_le _, rfl, fun j hj => absurd hj (Nat.not_lt_zero _)⟩
      case round =>
        obtain ⟨k, hk, rfl, hA⟩ := hrel
        by_cases hlt : k < l.length
        · have hx := hc k hlt
          have hbx := oct_get ho k
          have HY : Hid (l.getD k 0 = l.getD k 0) := rfl
          generalize hy : l.getD k 0 = x at hx hbx HY
          have HX : Hid (l.getD k 0 = x) := hy
          clear hy HY hc
          by_cases c1 : 97 ≤ x
          · by_cases c2 : x ≤ 122
            · go_wp2
              go_round
              case rel =>
                refine ⟨k + 1, by omega, by go_num, (show Hid _ from fun j hj => ?_)⟩
                by_cases e : j = k
                · subst e; rw [HX.out]; exact ⟨c1, c2⟩
                · exact hA.out j (by omega)
              case measure => simp [intOf]; omega
            · go_wp2
              go_ret
              exact ⟨ret_b (a := false) (by rw [HN.out, allIn_no k hlt (by rw [HX.out]; omega)]), rfl⟩
          · go_wp2
            go_ret
            exact ⟨ret_b (a := false) (by rw [HN.out, allIn_no k hlt (by rw [HX.out]; omega)]), rfl⟩
        · obtain rfl : k = l.length := by omega
          go_wp2
          go_ret
          exact ⟨ret_b (a := true) (by rw [HN.out, allIn_yes hA.out]), rfl⟩
    · have HN : Hid (nameB l = false) := by simp [Hid, nameB, h1]
      go_enter Tryd.func47, Tryd.ntmps47
      go_wp2
      go_ret
      exact ⟨ret_b (a := false) HN.out, rfl⟩
  · have HN : Hid (nameB l = false) := by simp [Hid, nameB, h0]
    go_enter Tryd.func47, Tryd.ntmps47
    go_wp2
    go_ret
    exact ⟨ret_b (a := false) HN.out, rfl⟩

end Go.Proofs.YtmonloebkdpahaaDoor

/- What l4zeroBox, l4replyOk of package spec do. -/
namespace Go.Proofs.YtmonloebkdpahaaDoor
open Go.RowKit
set_option maxRecDepth 100000
set_option linter.unusedVariables false
set_option linter.unusedSimpArgs false

set_option maxRecDepth 100000 in
set_option maxHeartbeats 2000000 in
theorem l4zeroBox_gen (a0 a1 a2 : Option Addr) (n0 nm ng c0 c1 c2 : Nat) (valid next seq lost : Int) (w : World) :
    Calls Tryd.prog 21 #[.agg #[.slice a0 n0 c0, .int .i64 valid, .int .i64 next, .int .i64 seq, .slice a1 nm c1, .slice a2 ng c2, .int .i64 lost]] w fun e w' => e = .returned (.bool (zX n0 valid next seq nm ng lost)) ∧ Below w.heap.size w w' := by
  have HX : Hid (∀ o, Below w.heap.size w (w.alloc o)) := fun o => (Below.refl _ _).alloc (Nat.le_refl _) o
  go_enter Tryd.func21, Tryd.ntmps21
  go_wp2
  all_goals (go_ret; refine ⟨ret_b ?_, HX.out _⟩; clear HX; unfold zX; (try simp only [beq_iff_eq, beq_eq_false_iff_ne, ne_eq] at *); rw [Bool.eq_iff_iff]; simp; omega)
theorem l4zeroBox_any (v : Value) (b : BoxD) (w : World) (hv : BoxV w v b) :
    Calls Tryd.prog 21 #[v] w fun e w' => e = .returned (.bool (zeroXB b)) ∧ Below w.heap.size w w' := by
  obtain ⟨u0, u1, u2, rfl, g0, g1, g2, -⟩ := hv
  obtain ⟨a0, c0, rfl⟩ := g0.form
  obtain ⟨a1, c1, rfl, -⟩ := g1.form
  obtain ⟨a2, c2, rfl, -⟩ := g2.form
  exact l4zeroBox_gen _ _ _ _ _ _ _ _ _ _ _ _ _ w

set_option maxRecDepth 100000 in
set_option maxHeartbeats 2000000 in
theorem l4replyOk_gen (v : Value) (x : RepD) (w : World) (hv : RepV w v x)
    (HO : Hid (∀ wi, Below w.heap.size w wi → ∀ u, BoxV wi u x.box → Calls Tryd.prog 48 #[u, .int .i64 1000000] wi fun e w' => e = .returned (.bool (boxB x.box 1000000)) ∧ Below wi.heap.size wi w')) :
    Calls Tryd.prog 17 #[v] w fun e w' => e = .returned (.bool (repB x)) ∧ Below w.heap.size w w' := by
  have H0 : Hid (∀ wi, Below w.heap.size w wi → RepV wi v x) := fun wi h => hv.below h
  obtain ⟨a0, n0, c0, a1, c1, a2, c2, a3, c3, rfl⟩ := hv.form
  have hnl : (x.names.length : Int) ≤ 9223372036854775807 := by
    obtain ⟨a, c, e, h1, h2⟩ := hv.parts.2.1.form
    omega
  clear hv
  have HX : Hid (∀ o, Below w.heap.size w (w.alloc o)) := fun o => (Below.refl _ _).alloc (Nat.le_refl _) o
  by_cases h : (0 ≤ x.code ∧ x.code ≤ 6) ∧ (0 ≤ x.num ∧ x.num ≤ 1000000) ∧ x.names.length ≤ 4
  · have HR : Hid (repB x = (!(x.names.any badN) && (zeroXB x.box || boxB x.box 1000000))) := repB_in h
    obtain ⟨⟨h0, h1⟩, ⟨h2, h3⟩, h4⟩ := h
    have h4' : ¬ (4 : Int) < (x.names.length : Int) := by omega
    have hl3 : ∀ w, Calls Tryd.prog 46 #[.int .i64 x.num] w fun e w' => e = .returned (.bool true) ∧ w' = w := fun w => by
      have h := l3seq_any x.num w
      rwa [show inB x.num 0 1000000 = true by simp [inB]; omega] at h
    have HK0 : Hid ((w.alloc (.cells #[.int .i64 x.code, .int .i64 x.num, .slice a0 n0 c0, .int .i64 x.box.valid, .int .i64 x.box.next, .int .i64 x.box.seq, .slice a1 x.box.mails.length c1, .slice a2 x.box.gones.length c2, .int .i64 x.box.lost, .slice a3 x.names.length c3] 37)).heap[w.heap.size]? = some (.cells #[.int .i64 x.code, .int .i64 x.num, .slice a0 n0 c0, .int .i64 x.box.valid, .int .i64 x.box.next, .int .i64 x.box.seq, .slice a1 x.box.mails.length c1, .slice a2 x.box.gones.length c2, .int .i64 x.box.lost, .slice a3 x.names.length c3] 37)) := box_new w _
    go_enter Tryd.func17, Tryd.ntmps17
    go_wp2_with (go_at_call 46; refine (hl3 _).mono ?_; rintro e w' ⟨rfl, rfl⟩)
    go_loopw [3] (fun i wr => ∃ k : Nat, k ≤ x.names.length ∧ i = .int .i64 k ∧ Hid (∀ j y, j < k → x.names[j]? = some y → nameB y = true) ∧ Hid (wr.heap[w.heap.size]? = some (.cells #[.int .i64 x.code, .int .i64 x.num, .slice a0 n0 c0, .int .i64 x.box.valid, .int .i64 x.box.next, .int .i64 x.box.seq, .slice a1 x.box.mails.length c1, .slice a2 x.box.gones.length c2, .int .i64 x.box.lost, .slice a3 x.names.length c3] 37)) ∧ Hid (Below w.heap.size w wr)) (fun i _ => x.names.length - (intOf i).toNat)
    case atStart => exact ⟨0, Nat.zero_le _, rfl, (fun j y hj => absurd hj (Nat.not_lt_zero _)), HK0, HX.out _⟩
    case round =>
      obtain ⟨k, hk, rfl, hA, hK, hB⟩ := hrel
      obtain ⟨f0, f1, f2, f3, f4, f5, f6, f7, f8, f9⟩ := bx10 hK.out
      have hlA := lt_of_heap hK.out
      by_cases hlt : k < x.names.length
      · obtain ⟨y, hy⟩ : ∃ y, x.names[k]? = some y := ⟨x.names[k], List.getElem?_eq_getElem hlt⟩
        obtain ⟨b, off, cap', u, hv', hlb, d0, hu⟩ := NamesV.cell (H0.out wr hB.out).parts.2.1 k y hy
        simp only [Value.slice.injEq, true_and] at hv'
        obtain ⟨rfl, rfl⟩ := hv'
        obtain ⟨ua, un, uc, rfl⟩ := hu.form3
        have hcall := l3name_any _ y wr hu
        have HY : Hid (x.names[k]? = some y) := hy
        clear hy hu
        have hkL : (k : Int) < (x.names.length : Int) := by omega
        cases hq : nameB y with
        | false =>
          rw [hq] at hcall
          have HQ : Hid (nameB y = false) := hq
          clear hq
          go_wp2_with (go_at_call 47; refine hcall.mono ?_; rintro e w' ⟨rfl, rfl⟩)
          go_ret
          exact ⟨ret_b (by rw [HR.out, names_bad HY.out HQ.out]; rfl), hB.out⟩
        | true =>
          rw [hq] at hcall
          have HQ : Hid (nameB y = true) := hq
          clear hq
          go_wp2_with (go_at_call 47; refine hcall.mono ?_; rintro e w' ⟨rfl, rfl⟩)
          go_roundw
          case rel =>
            refine ⟨k + 1, by omega, by go_num, (show Hid _ from fun j z hj hz => ?_), hK, hB⟩
            by_cases e : j = k
            · subst e; rw [HY.out] at hz; cases hz; exact HQ.out
            · exact hA.out j z (by omega) hz
          case measure => simp [intOf]; omega
      · obtain rfl : k = x.names.length := by omega
        have HG : Hid (x.names.any badN = false) := names_good hA.out
        have HZ := l4zeroBox_any _ x.box wr (H0.out _ hB.out).parts.1
        have HB1 : Hid (Below w.heap.size w wr) := hB
        have HK1 : Hid (wr.heap[w.heap.size]? = some (.cells #[.int .i64 x.code, .int .i64 x.num, .slice a0 n0 c0, .int .i64 x.box.valid, .int .i64 x.box.next, .int .i64 x.box.seq, .slice a1 x.box.mails.length c1, .slice a2 x.box.gones.length c2, .int .i64 x.box.lost, .slice a3 x.names.length c3] 37)) := hK
        generalize hzx : zeroXB x.box = z at HZ
        have HZX : Hid (zeroXB x.box = z) := hzx
        clear hzx
        go_wp2_with fail
        refine HZ.mono ?_
        rintro e w1 ⟨rfl, B⟩
        have X1 := Below.step HB1.out B
        have K1 := box_below B HK1.out
        clear f0 f1 f2 f3 f4 f5 f6 f7 f8 f9 hlA B hA hK hB HZ HB1 HK1
        obtain ⟨f0, f1, f2, f3, f4, f5, f6, f7, f8, f9⟩ := bx10 K1
        have hlA := lt_of_heap K1
        cases z with
        | true =>
          go_wp2
          go_ret
          exact ⟨ret_b (by rw [HR.out, HG.out, HZX.out]; rfl), X1⟩
        | false =>
          go_wp2_with fail
          refine (HO.out _ X1 _ (H0.out _ X1).parts.1).mono ?_
          rintro e w2 ⟨rfl, B⟩
          replace X1 := Below.step X1 B
          clear f0 f1 f2 f3 f4 f5 f6 f7 f8 f9 hlA B K1
          go_wp2
          go_ret
          exact ⟨ret_b (by rw [HR.out, HG.out, HZX.out]; simp), X1⟩
  · have HC : Hid (¬ ((0 ≤ x.code ∧ x.code ≤ 6) ∧ (0 ≤ x.num ∧ x.num ≤ 1000000) ∧ x.names.length ≤ 4)) := h
    clear h H0 HO
    by_cases hn : 0 ≤ x.num ∧ x.num ≤ 1000000
    · have hl3 : ∀ w, Calls Tryd.prog 46 #[.int .i64 x.num] w fun e w' => e = .returned (.bool true) ∧ w' = w := fun w => by
        have h := l3seq_any x.num w
        rwa [show inB x.num 0 1000000 = true by simp [inB]; omega] at h
      by_cases hm : x.names.length ≤ 4
      · have hm' : ¬ (4 : Int) < (x.names.length : Int) := by omega
        by_cases hc : x.code < 0
        · go_enter Tryd.func17, Tryd.ntmps17
          go_wp2
          go_ret
          exact ⟨ret_b (repB_out HC.out), HX.out _⟩
        · have hc6 : 6 < x.code := by
            have h := HC.out
            omega
          go_enter Tryd.func17, Tryd.ntmps17
          go_wp2
          go_ret
          exact ⟨ret_b (repB_out HC.out), HX.out _⟩
      · have hm' : (4 : Int) < (x.names.length : Int) := by omega
        go_enter Tryd.func17, Tryd.ntmps17
        go_wp2_with (go_at_call 46; refine (hl3 _).mono ?_; rintro e w' ⟨rfl, rfl⟩)
        all_goals (go_ret; exact ⟨ret_b (repB_out HC.out), HX.out _⟩)
    · have hl3 : ∀ w, Calls Tryd.prog 46 #[.int .i64 x.num] w fun e w' => e = .returned (.bool false) ∧ w' = w := fun w => by
        have h := l3seq_any x.num w
        rwa [show inB x.num 0 1000000 = false by simp [inB]; omega] at h
      go_enter Tryd.func17, Tryd.ntmps17
      go_wp2_with (go_at_call 46; refine (hl3 _).mono ?_; rintro e w' ⟨rfl, rfl⟩)
      all_goals (go_ret; exact ⟨ret_b (repB_out HC.out), HX.out _⟩)

end Go.Proofs.YtmonloebkdpahaaDoor
