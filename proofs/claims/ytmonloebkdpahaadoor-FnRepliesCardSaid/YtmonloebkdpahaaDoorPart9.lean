/- The proof's texts, part 9. -/
import Derived.Test.YtmonloebkdpahaaDoorPart3
import Derived.Test.YtmonloebkdpahaaDoorPart7
import Derived.Test.YtmonloebkdpahaaDoorPart8
import Derived.Test.YtmonloebkdpahaaDoorPart6

/- What a store leaves of the world. -/
namespace Go.Proofs.YtmonloebkdpahaaDoor
open Go.RowKit

theorem set_os (w : World) (p : Addr) (v : Value) : (w.setCell p v).os = w.os := rfl
theorem set_tape (w : World) (p : Addr) (v : Value) : (w.setCell p v).tape = w.tape := rfl
theorem set_output (w : World) (p : Addr) (v : Value) : (w.setCell p v).output = w.output := rfl

end Go.Proofs.YtmonloebkdpahaaDoor

/- Replies that stay while their own blocks do; what a command leaves of an account behind a pointer. -/
namespace Go.Proofs.YtmonloebkdpahaaDoor
open Go.RowKit
set_option linter.unusedVariables false

/-- The names of a reply: none at all, or the call's own in blocks from N on (then its box has nothing). -/
def NmN (w : World) (N : Nat) (u : Value) (r : RepD) : Prop := ∃ c0 c1 c2 c3 c4 c5 c6 c7 c8 c9, u = .agg #[c0, c1, c2, c3, c4, c5, c6, c7, c8, c9] ∧ ((c9 = .slice none 0 0 ∧ r.names = []) ∨ ((r.box.name = [] ∧ r.box.mails = [] ∧ r.box.gones = []) ∧ NamesO w (In N w.heap.size) c9 r.names))
theorem NmN.oth {w w' : World} {N : Nat} {u : Value} {r : RepD} (h : NmN w N u r) (hs : w.heap.size ≤ w'.heap.size) (hk : ∀ k, N ≤ k → k < w.heap.size → w'.heap[k]? = w.heap[k]?) : NmN w' N u r :=
  let ⟨c0, c1, c2, c3, c4, c5, c6, c7, c8, c9, e, h⟩ := h; ⟨c0, c1, c2, c3, c4, c5, c6, c7, c8, c9, e, h.imp id fun h => ⟨h.1, Ow.mono (Ow.frame framesName h.2 fun k h1 h2 => hk k h1.1 h2) fun k h1 => ⟨h1.1, Nat.lt_of_lt_of_le h1.2 hs⟩⟩⟩
/-- The value u reads as the reply r wherever the blocks from N on stay. -/
def RepS (w : World) (N : Nat) (u : Value) (r : RepD) : Prop := (∀ w' : World, w.heap.size ≤ w'.heap.size → (∀ k, N ≤ k → k < w.heap.size → w'.heap[k]? = w.heap[k]?) → RepV w' u r) ∧ NmN w N u r
theorem RepS.v {w : World} {N : Nat} {u : Value} {r : RepD} (h : RepS w N u r) : RepV w u r := h.1 w (Nat.le_refl _) fun _ _ _ => rfl
/-- It stays where the world changes below N alone. -/
theorem RepS.oth {w w' : World} {N : Nat} {u : Value} {r : RepD} (h : RepS w N u r) (hs : w.heap.size ≤ w'.heap.size) (hk : ∀ k, N ≤ k → k < w.heap.size → w'.heap[k]? = w.heap[k]?) : RepS w' N u r :=
  ⟨fun w'' hs' hk' => h.1 w'' (Nat.le_trans hs hs') fun k h1 h2 => (hk' k h1 (Nat.lt_of_lt_of_le h2 hs)).trans (hk k h1 h2), h.2.oth hs hk⟩
theorem RepS.below {w w' : World} {N : Nat} {u : Value} {r : RepD} (h : RepS w N u r) (hb : Below w.heap.size w w') : RepS w' N u r := h.oth hb.size fun k _ h2 => hb.block k h2
theorem RepS.less {w : World} {N N' : Nat} {u : Value} {r : RepD} (h : RepS w N u r) (hN : N' ≤ N) : RepS w N' u r :=
  ⟨fun w'' hs hk => h.1 w'' hs fun k h1 h2 => hk k (Nat.le_trans hN h1) h2, let ⟨c0, c1, c2, c3, c4, c5, c6, c7, c8, c9, e, h⟩ := h.2; ⟨c0, c1, c2, c3, c4, c5, c6, c7, c8, c9, e, h.imp id fun h => ⟨h.1, Ow.mono h.2 fun k h1 => ⟨Nat.le_trans hN h1.1, h1.2⟩⟩⟩⟩
theorem bs_nil_any {w w' : World} {v : Value} (h : Bs w v []) : Bs w' v [] := let ⟨ho, a, cap, e, h1, h2, h3, _⟩ := h; ⟨ho, a, cap, e, h1, h2, h3, fun h => absurd h (Nat.lt_irrefl 0)⟩
theorem rd_nil_any {α : Type} {sz : Nat} {E : World → List Value → α → Prop} {w w' : World} {v : Value} (h : Rd sz E w v ([] : List α)) : Rd sz E w' v ([] : List α) := let ⟨a, cap, cs, e, h1, h2, h3, _, _⟩ := h; ⟨a, cap, cs, e, h1, h2, h3, fun i x hx => by simp at hx, fun h => absurd h (Nat.lt_irrefl 0)⟩
/-- A reply without a box and names stays always. -/
theorem reps_code {w : World} {N : Nat} {u : Value} {c n : Int} (h : RepC w u (codeR c n)) : RepS w N u (codeR c n) := by
  obtain ⟨u0, u1, u2, u3, e, ⟨z0, z1, z2, ez, h0, h1, h2, hi⟩, h3, i⟩ := h
  simp only [Value.agg.injEq, Array.mk.injEq, List.cons.injEq, and_true, true_and] at ez
  obtain ⟨rfl, rfl, rfl⟩ := ez
  exact ⟨fun w' _ _ => ⟨u0, u1, u2, u3, e, ⟨_, _, _, rfl, bs_nil_any h0, rd_nil_any h1, rd_nil_any h2, hi⟩, by rw [h3.1]; exact Rd.nil _, i⟩, _, _, _, _, _, _, _, _, _, _, e, .inl h3⟩

/-- What a command leaves: the account behind the pointer, the reply; nothing else that is old has turned. -/
def DoneA (w : World) (S : Nat → Prop) (ga : Nat) (x : AccD × RepD) (e : Ending) (w' : World) : Prop :=
  ∃ u S', e = .returned u ∧ RepS w' w.heap.size u x.2 ∧ TurnsA w w' S ga ∧ AccP w' S' ga x.1 ∧ ∀ k, S' k → S k ∨ w.heap.size ≤ k
theorem DoneA.same {w : World} {S : Nat → Prop} {ga : Nat} {a : AccD} {c n : Int} {e : Ending} {w' : World} (h : ∃ u, e = .returned u ∧ RepC w' u (codeR c n) ∧ Below w.heap.size w w' ∧ AccP w' S ga a) : DoneA w S ga (a, codeR c n) e w' :=
  let ⟨u, h0, h1, h2, h3⟩ := h; ⟨u, S, h0, reps_code h1, TurnsA.below h2, h3, fun _ h => .inl h⟩
theorem DoneA.code {w : World} {S : Nat → Prop} {ga : Nat} {a : AccD} {c n : Int} {e : Ending} {w' : World} (h : ∃ u S', e = .returned u ∧ RepC w' u (codeR c n) ∧ TurnsA w w' S ga ∧ AccP w' S' ga a ∧ ∀ k, S' k → S k ∨ w.heap.size ≤ k) : DoneA w S ga (a, codeR c n) e w' :=
  let ⟨u, S', h0, h1, h2⟩ := h; ⟨u, S', h0, reps_code h1, h2⟩

/-- A reply that a callee gave is laid into the call's own variable. -/
theorem rep_cells {w1 : World} {r : Nat} {d0 d1 d2 d3 d4 d5 d6 d7 d8 d9 : Value} (hk : w1.heap[r]? = some (.cells #[d0, d1, d2, d3, d4, d5, d6, d7, d8, d9] 37 (0, 0))) (c0 c1 c2 c3 c4 c5 c6 c7 c8 c9 : Value) : ((((((((((w1.setCell ⟨r, 0, none⟩ c0).setCell ⟨r, 1, none⟩ c1).setCell ⟨r, 2, none⟩ c2).setCell ⟨r, 3, none⟩ c3).setCell ⟨r, 4, none⟩ c4).setCell ⟨r, 5, none⟩ c5).setCell ⟨r, 6, none⟩ c6).setCell ⟨r, 7, none⟩ c7).setCell ⟨r, 8, none⟩ c8).setCell ⟨r, 9, none⟩ c9).heap[r]? = some (.cells #[c0, c1, c2, c3, c4, c5, c6, c7, c8, c9] 37 (0, 0)) := by
  replace hk : (World.setCell _ _ _).heap[r]? = some (Obj.cells #[c0, d1, d2, d3, d4, d5, d6, d7, d8, d9] 37 (0, 0)) := box_set (i := 0) (v := c0) hk
  replace hk : (World.setCell _ _ _).heap[r]? = some (Obj.cells #[c0, c1, d2, d3, d4, d5, d6, d7, d8, d9] 37 (0, 0)) := box_set (i := 1) (v := c1) hk
  replace hk : (World.setCell _ _ _).heap[r]? = some (Obj.cells #[c0, c1, c2, d3, d4, d5, d6, d7, d8, d9] 37 (0, 0)) := box_set (i := 2) (v := c2) hk
  replace hk : (World.setCell _ _ _).heap[r]? = some (Obj.cells #[c0, c1, c2, c3, d4, d5, d6, d7, d8, d9] 37 (0, 0)) := box_set (i := 3) (v := c3) hk
  replace hk : (World.setCell _ _ _).heap[r]? = some (Obj.cells #[c0, c1, c2, c3, c4, d5, d6, d7, d8, d9] 37 (0, 0)) := box_set (i := 4) (v := c4) hk
  replace hk : (World.setCell _ _ _).heap[r]? = some (Obj.cells #[c0, c1, c2, c3, c4, c5, d6, d7, d8, d9] 37 (0, 0)) := box_set (i := 5) (v := c5) hk
  replace hk : (World.setCell _ _ _).heap[r]? = some (Obj.cells #[c0, c1, c2, c3, c4, c5, c6, d7, d8, d9] 37 (0, 0)) := box_set (i := 6) (v := c6) hk
  replace hk : (World.setCell _ _ _).heap[r]? = some (Obj.cells #[c0, c1, c2, c3, c4, c5, c6, c7, d8, d9] 37 (0, 0)) := box_set (i := 7) (v := c7) hk
  replace hk : (World.setCell _ _ _).heap[r]? = some (Obj.cells #[c0, c1, c2, c3, c4, c5, c6, c7, c8, d9] 37 (0, 0)) := box_set (i := 8) (v := c8) hk
  replace hk : (World.setCell _ _ _).heap[r]? = some (Obj.cells #[c0, c1, c2, c3, c4, c5, c6, c7, c8, c9] 37 (0, 0)) := box_set (i := 9) (v := c9) hk
  exact hk
theorem rep_putA {w w1 : World} {S : Nat → Prop} {ga r N : Nat} {d0 d1 d2 d3 d4 d5 d6 d7 d8 d9 : Value} (hR : w1.heap[r]? = some (.cells #[d0, d1, d2, d3, d4, d5, d6, d7, d8, d9] 37 (0, 0))) (hr : w.heap.size ≤ r) (ht : TurnsA w w1 S ga) (a : AccD) (S' : Nat → Prop) (hp : AccP w1 S' ga a) (hg : ga < w.heap.size) (hS : ¬ S' r) (rep : RepD) (c0 c1 c2 c3 c4 c5 c6 c7 c8 c9 : Value) (hrep : RepS w1 N (.agg #[c0, c1, c2, c3, c4, c5, c6, c7, c8, c9]) rep) (hN : r < N) :
    let w2 := ((((((((((w1.setCell ⟨r, 0, none⟩ c0).setCell ⟨r, 1, none⟩ c1).setCell ⟨r, 2, none⟩ c2).setCell ⟨r, 3, none⟩ c3).setCell ⟨r, 4, none⟩ c4).setCell ⟨r, 5, none⟩ c5).setCell ⟨r, 6, none⟩ c6).setCell ⟨r, 7, none⟩ c7).setCell ⟨r, 8, none⟩ c8).setCell ⟨r, 9, none⟩ c9)
    w2.heap[r]? = some (.cells #[c0, c1, c2, c3, c4, c5, c6, c7, c8, c9] 37 (0, 0)) ∧ TurnsA w w2 S ga ∧ AccP w2 S' ga a ∧ RepS w2 w.heap.size (.agg #[c0, c1, c2, c3, c4, c5, c6, c7, c8, c9]) rep := by
  intro w2
  have hoth : ∀ k, k ≠ r → w2.heap[k]? = w1.heap[k]? := fun k hk => by
    show ((((((((((w1.setCell ⟨r, 0, none⟩ c0).setCell ⟨r, 1, none⟩ c1).setCell ⟨r, 2, none⟩ c2).setCell ⟨r, 3, none⟩ c3).setCell ⟨r, 4, none⟩ c4).setCell ⟨r, 5, none⟩ c5).setCell ⟨r, 6, none⟩ c6).setCell ⟨r, 7, none⟩ c7).setCell ⟨r, 8, none⟩ c8).setCell ⟨r, 9, none⟩ c9).heap[k]? = _
    rw [Below.heap_setCell _ _ _ _ (show k ≠ r from hk), Below.heap_setCell _ _ _ _ (show k ≠ r from hk), Below.heap_setCell _ _ _ _ (show k ≠ r from hk), Below.heap_setCell _ _ _ _ (show k ≠ r from hk), Below.heap_setCell _ _ _ _ (show k ≠ r from hk), Below.heap_setCell _ _ _ _ (show k ≠ r from hk), Below.heap_setCell _ _ _ _ (show k ≠ r from hk), Below.heap_setCell _ _ _ _ (show k ≠ r from hk), Below.heap_setCell _ _ _ _ (show k ≠ r from hk), Below.heap_setCell _ _ _ _ (show k ≠ r from hk)]
  have hsz : w2.heap.size = w1.heap.size := by show ((((((((((w1.setCell ⟨r, 0, none⟩ c0).setCell ⟨r, 1, none⟩ c1).setCell ⟨r, 2, none⟩ c2).setCell ⟨r, 3, none⟩ c3).setCell ⟨r, 4, none⟩ c4).setCell ⟨r, 5, none⟩ c5).setCell ⟨r, 6, none⟩ c6).setCell ⟨r, 7, none⟩ c7).setCell ⟨r, 8, none⟩ c8).setCell ⟨r, 9, none⟩ c9).heap.size = _; simp only [box_size]
  have hos : w2.os = w1.os := by show ((((((((((w1.setCell ⟨r, 0, none⟩ c0).setCell ⟨r, 1, none⟩ c1).setCell ⟨r, 2, none⟩ c2).setCell ⟨r, 3, none⟩ c3).setCell ⟨r, 4, none⟩ c4).setCell ⟨r, 5, none⟩ c5).setCell ⟨r, 6, none⟩ c6).setCell ⟨r, 7, none⟩ c7).setCell ⟨r, 8, none⟩ c8).setCell ⟨r, 9, none⟩ c9).os = _; simp only [set_os]
  have htape : w2.tape = w1.tape := by show ((((((((((w1.setCell ⟨r, 0, none⟩ c0).setCell ⟨r, 1, none⟩ c1).setCell ⟨r, 2, none⟩ c2).setCell ⟨r, 3, none⟩ c3).setCell ⟨r, 4, none⟩ c4).setCell ⟨r, 5, none⟩ c5).setCell ⟨r, 6, none⟩ c6).setCell ⟨r, 7, none⟩ c7).setCell ⟨r, 8, none⟩ c8).setCell ⟨r, 9, none⟩ c9).tape = _; simp only [set_tape]
  have houtput : w2.output = w1.output := by show ((((((((((w1.setCell ⟨r, 0, none⟩ c0).setCell ⟨r, 1, none⟩ c1).setCell ⟨r, 2, none⟩ c2).setCell ⟨r, 3, none⟩ c3).setCell ⟨r, 4, none⟩ c4).setCell ⟨r, 5, none⟩ c5).setCell ⟨r, 6, none⟩ c6).setCell ⟨r, 7, none⟩ c7).setCell ⟨r, 8, none⟩ c8).setCell ⟨r, 9, none⟩ c9).output = _; simp only [set_output]
  have hT : ∀ t, t ≠ 37 → StayT w1 w2 t := fun t hne k hk => hoth k fun e => by obtain ⟨cs, fz, hh⟩ := hk; rw [e, hR] at hh; cases hh; exact hne rfl
  have hrg : ga ≠ r := by omega
  refine ⟨?_, ⟨by rw [hsz]; exact ht.1, fun k h1 h2 h3 => (hoth k (by omega)).trans (ht.2.1 k h1 h2 h3), ht.2.2.1.trans (hT _ (by decide)), ht.2.2.2.1.trans (hT _ (by decide)), hos.trans ht.2.2.2.2.1, htape.trans ht.2.2.2.2.2.1, houtput.trans ht.2.2.2.2.2.2.1, fun h1 h2 => (show w2.cell? ⟨ga, 2, none⟩ = w1.cell? ⟨ga, 2, none⟩ by unfold World.cell?; rw [hoth ga hrg]).trans (ht.2.2.2.2.2.2.2 h1 h2)⟩, hp.oth (by omega) (hoth ga hrg) (fun k h1 h2 => hoth k fun e => hS (e ▸ h1)) (hT _ (by decide)) (hT _ (by decide)) (hT _ (by decide)), ?_⟩
  · exact rep_cells hR c0 c1 c2 c3 c4 c5 c6 c7 c8 c9
  · exact (hrep.oth (by omega) fun k h1 _ => hoth k (by omega)).less (by omega)

end Go.Proofs.YtmonloebkdpahaaDoor

/- What l3create of package spec does where it creates nothing. -/
namespace Go.Proofs.YtmonloebkdpahaaDoor
open Go.RowKit
set_option maxRecDepth 100000
set_option linter.unusedVariables false
set_option linter.unusedSimpArgs false

set_option maxRecDepth 100000 in
set_option maxHeartbeats 4000000 in
theorem l3create_has (ga : Nat) (a : AccD) (S : Nat → Prop) (nv : Value) (nm : List Int) (w : World) (hp : AccP w S ga a) (hnv : Bs w nv nm) (hbl : a.boxes.length ≤ 2000000) (hf : 0 ≤ firstI (fun x : BoxD => decide (x.name = nm)) a.boxes) :
    Calls Tryd.prog 65 #[.pointer (some ⟨ga, 0, none⟩), nv] w fun e w' => ∃ u, e = .returned u ∧ RepC w' u (codeR 2 0) ∧ Below w.heap.size w w' ∧ AccP w' S ga a := by
  have HP : Hid (∀ w', Below w.heap.size w w' → AccP w' S ga a) := fun w' h => hp.below h
  have HN : Hid (∀ w', Below w.heap.size w w' → Bs w' nv nm) := fun w' h => hnv.below h
  have hlg := hp.lt
  obtain ⟨q0, q1, q2, rfl⟩ := hnv.form3
  clear hp hnv
  have HB : Hid (Below w.heap.size w (w.alloc (.cells #[.int .i64 0, .int .i64 0, .slice none 0 0, .int .i64 0, .int .i64 0, .int .i64 0, .slice none 0 0, .slice none 0 0, .int .i64 0, .slice none 0 0] 37))) := (Below.refl _ _).alloc (Nat.le_refl _) _
  have HK : Hid ((w.alloc (.cells #[.int .i64 0, .int .i64 0, .slice none 0 0, .int .i64 0, .int .i64 0, .int .i64 0, .slice none 0 0, .slice none 0 0, .int .i64 0, .slice none 0 0] 37)).heap[w.heap.size]? = some (.cells #[.int .i64 0, .int .i64 0, .slice none 0 0, .int .i64 0, .int .i64 0, .int .i64 0, .slice none 0 0, .slice none 0 0, .int .i64 0, .slice none 0 0] 37 (0, 0))) := box_new w _
  go_enter Tryd.func65, Tryd.ntmps65
  go_upto_region 1 with fail
  generalize w.alloc (.cells #[.int .i64 0, .int .i64 0, .slice none 0 0, .int .i64 0, .int .i64 0, .int .i64 0, .slice none 0 0, .slice none 0 0, .int .i64 0, .slice none 0 0] 37) = W at HB HK ⊢
  obtain ⟨u0, u1, c0, c1, c2, hb, hv⟩ := (HP.out W HB.out).cells
  have hl2 : ga < W.heap.size := Nat.lt_of_lt_of_le hlg HB.out.size
  have HV : Hid _ := hv
  obtain ⟨e0, e1, rfl, -⟩ := hb.v.form
  clear hb hv
  go_wp2_with fail
  refine (l3box_any _ _ a nm _ HV.out (HN.out _ HB.out) hbl).mono ?_
  rintro e w1 ⟨rfl, B1⟩
  have HB1 : Hid (Below w.heap.size w w1) := Below.step HB.out B1
  have HK1 : Hid _ := box_below B1 HK.out
  have d0 : w1.cell? ⟨ga, 0, none⟩ = some (.int .i64 a.valid) := (B1.cell (p := ⟨ga, 0, none⟩) hl2).trans c0
  have d1 : w1.cell? ⟨ga, 1, none⟩ = some (.slice e0 a.boxes.length e1) := (B1.cell (p := ⟨ga, 1, none⟩) hl2).trans c1
  have hl3 : ga < w1.heap.size := Nat.lt_of_lt_of_le hl2 B1.size
  clear B1 HK c0 c1 c2 HV HN
  generalize firstI (fun x : BoxD => decide (x.name = nm)) a.boxes = fi at *
  obtain ⟨r0, r1, r2, r3, r4, r5, r6, r7, r8, r9⟩ := bx10 HK1.out
  have fz : ∀ i, w1.frozen? ⟨w.heap.size, i, none⟩ = false := fun i => frozen_of_row w1 _ i _ _ HK1.out
  have hlr := lt_of_heap HK1.out
  have HF : Hid _ := rep_fin (w := w) HK1.out (Nat.le_refl _) HB1.out 2 0
  go_wp2
  obtain ⟨f0, f1, f2, f3, f4, f5, f6, f7, f8, f9⟩ := bx10 HF.out.1
  refine bodyPost_ret (v := .agg #[.int .i64 2, .int .i64 0, .slice none 0 0, .int .i64 0, .int .i64 0, .int .i64 0, .slice none 0 0, .slice none 0 0, .int .i64 0, .slice none 0 0]) (by simp [results, Tryd.results65, go_sem, f0, f1, f2, f3, f4, f5, f6, f7, f8, f9]) rfl ⟨_, rfl, ?_, HF.out.2, HP.out _ HF.out.2⟩
  exact ⟨_, _, _, _, rfl, ⟨_, _, _, rfl, bs_nil' _, Rd.nil _, Rd.nil _, i64c0, i64c0, i64c0, i64c0⟩, ⟨rfl, rfl⟩, ⟨by decide, by decide⟩, i64c0⟩

set_option maxRecDepth 100000 in
set_option maxHeartbeats 4000000 in
theorem l3create_full1 (ga : Nat) (a : AccD) (S : Nat → Prop) (nv : Value) (nm : List Int) (w : World) (hp : AccP w S ga a) (hnv : Bs w nv nm) (hbl : a.boxes.length ≤ 2000000) (hf : firstI (fun x : BoxD => decide (x.name = nm)) a.boxes < 0) (h4 : 4 ≤ a.boxes.length) :
    Calls Tryd.prog 65 #[.pointer (some ⟨ga, 0, none⟩), nv] w fun e w' => ∃ u, e = .returned u ∧ RepC w' u (codeR 3 0) ∧ Below w.heap.size w w' ∧ AccP w' S ga a := by
  have HP : Hid (∀ w', Below w.heap.size w w' → AccP w' S ga a) := fun w' h => hp.below h
  have HN : Hid (∀ w', Below w.heap.size w w' → Bs w' nv nm) := fun w' h => hnv.below h
  have hlg := hp.lt
  obtain ⟨q0, q1, q2, rfl⟩ := hnv.form3
  clear hp hnv
  have HB : Hid (Below w.heap.size w (w.alloc (.cells #[.int .i64 0, .int .i64 0, .slice none 0 0, .int .i64 0, .int .i64 0, .int .i64 0, .slice none 0 0, .slice none 0 0, .int .i64 0, .slice none 0 0] 37))) := (Below.refl _ _).alloc (Nat.le_refl _) _
  have HK : Hid ((w.alloc (.cells #[.int .i64 0, .int .i64 0, .slice none 0 0, .int .i64 0, .int .i64 0, .int .i64 0, .slice none 0 0, .slice none 0 0, .int .i64 0, .slice none 0 0] 37)).heap[w.heap.size]? = some (.cells #[.int .i64 0, .int .i64 0, .slice none 0 0, .int .i64 0, .int .i64 0, .int .i64 0, .slice none 0 0, .slice none 0 0, .int .i64 0, .slice none 0 0] 37 (0, 0))) := box_new w _
  go_enter Tryd.func65, Tryd.ntmps65
  go_upto_region 1 with fail
  generalize w.alloc (.cells #[.int .i64 0, .int .i64 0, .slice none 0 0, .int .i64 0, .int .i64 0, .int .i64 0, .slice none 0 0, .slice none 0 0, .int .i64 0, .slice none 0 0] 37) = W at HB HK ⊢
  obtain ⟨u0, u1, c0, c1, c2, hb, hv⟩ := (HP.out W HB.out).cells
  have hl2 : ga < W.heap.size := Nat.lt_of_lt_of_le hlg HB.out.size
  have HV : Hid _ := hv
  obtain ⟨e0, e1, rfl, -⟩ := hb.v.form
  clear hb hv
  go_wp2_with fail
  refine (l3box_any _ _ a nm _ HV.out (HN.out _ HB.out) hbl).mono ?_
  rintro e w1 ⟨rfl, B1⟩
  have HB1 : Hid (Below w.heap.size w w1) := Below.step HB.out B1
  have HK1 : Hid _ := box_below B1 HK.out
  have d0 : w1.cell? ⟨ga, 0, none⟩ = some (.int .i64 a.valid) := (B1.cell (p := ⟨ga, 0, none⟩) hl2).trans c0
  have d1 : w1.cell? ⟨ga, 1, none⟩ = some (.slice e0 a.boxes.length e1) := (B1.cell (p := ⟨ga, 1, none⟩) hl2).trans c1
  have hl3 : ga < w1.heap.size := Nat.lt_of_lt_of_le hl2 B1.size
  clear B1 HK c0 c1 c2 HV HN
  generalize firstI (fun x : BoxD => decide (x.name = nm)) a.boxes = fi at *
  obtain ⟨r0, r1, r2, r3, r4, r5, r6, r7, r8, r9⟩ := bx10 HK1.out
  have fz : ∀ i, w1.frozen? ⟨w.heap.size, i, none⟩ = false := fun i => frozen_of_row w1 _ i _ _ HK1.out
  have hlr := lt_of_heap HK1.out
  have h4i : (4 : Int) ≤ (a.boxes.length : Int) := by omega
  have HF : Hid _ := rep_fin (w := w) HK1.out (Nat.le_refl _) HB1.out 3 0
  go_wp2
  obtain ⟨f0, f1, f2, f3, f4, f5, f6, f7, f8, f9⟩ := bx10 HF.out.1
  refine bodyPost_ret (v := .agg #[.int .i64 3, .int .i64 0, .slice none 0 0, .int .i64 0, .int .i64 0, .int .i64 0, .slice none 0 0, .slice none 0 0, .int .i64 0, .slice none 0 0]) (by simp [results, Tryd.results65, go_sem, f0, f1, f2, f3, f4, f5, f6, f7, f8, f9]) rfl ⟨_, rfl, ?_, HF.out.2, HP.out _ HF.out.2⟩
  exact ⟨_, _, _, _, rfl, ⟨_, _, _, rfl, bs_nil' _, Rd.nil _, Rd.nil _, i64c0, i64c0, i64c0, i64c0⟩, ⟨rfl, rfl⟩, ⟨by decide, by decide⟩, i64c0⟩

set_option maxRecDepth 100000 in
set_option maxHeartbeats 4000000 in
theorem l3create_full2 (ga : Nat) (a : AccD) (S : Nat → Prop) (nv : Value) (nm : List Int) (w : World) (hp : AccP w S ga a) (hnv : Bs w nv nm) (hbl : a.boxes.length ≤ 2000000) (hf : firstI (fun x : BoxD => decide (x.name = nm)) a.boxes < 0) (h4 : ¬ 4 ≤ a.boxes.length) (hv : 1000000 ≤ a.valid) :
    Calls Tryd.prog 65 #[.pointer (some ⟨ga, 0, none⟩), nv] w fun e w' => ∃ u, e = .returned u ∧ RepC w' u (codeR 3 0) ∧ Below w.heap.size w w' ∧ AccP w' S ga a := by
  have HP : Hid (∀ w', Below w.heap.size w w' → AccP w' S ga a) := fun w' h => hp.below h
  have HN : Hid (∀ w', Below w.heap.size w w' → Bs w' nv nm) := fun w' h => hnv.below h
  have hlg := hp.lt
  obtain ⟨q0, q1, q2, rfl⟩ := hnv.form3
  clear hp hnv
  have HB : Hid (Below w.heap.size w (w.alloc (.cells #[.int .i64 0, .int .i64 0, .slice none 0 0, .int .i64 0, .int .i64 0, .int .i64 0, .slice none 0 0, .slice none 0 0, .int .i64 0, .slice none 0 0] 37))) := (Below.refl _ _).alloc (Nat.le_refl _) _
  have HK : Hid ((w.alloc (.cells #[.int .i64 0, .int .i64 0, .slice none 0 0, .int .i64 0, .int .i64 0, .int .i64 0, .slice none 0 0, .slice none 0 0, .int .i64 0, .slice none 0 0] 37)).heap[w.heap.size]? = some (.cells #[.int .i64 0, .int .i64 0, .slice none 0 0, .int .i64 0, .int .i64 0, .int .i64 0, .slice none 0 0, .slice none 0 0, .int .i64 0, .slice none 0 0] 37 (0, 0))) := box_new w _
  go_enter Tryd.func65, Tryd.ntmps65
  go_upto_region 1 with fail
  generalize w.alloc (.cells #[.int .i64 0, .int .i64 0, .slice none 0 0, .int .i64 0, .int .i64 0, .int .i64 0, .slice none 0 0, .slice none 0 0, .int .i64 0, .slice none 0 0] 37) = W at HB HK ⊢
  obtain ⟨u0, u1, c0, c1, c2, hb, hv⟩ := (HP.out W HB.out).cells
  have hl2 : ga < W.heap.size := Nat.lt_of_lt_of_le hlg HB.out.size
  have HV : Hid _ := hv
  obtain ⟨e0, e1, rfl, -⟩ := hb.v.form
  clear hb hv
  go_wp2_with fail
  refine (l3box_any _ _ a nm _ HV.out (HN.out _ HB.out) hbl).mono ?_
  rintro e w1 ⟨rfl, B1⟩
  have HB1 : Hid (Below w.heap.size w w1) := Below.step HB.out B1
  have HK1 : Hid _ := box_below B1 HK.out
  have d0 : w1.cell? ⟨ga, 0, none⟩ = some (.int .i64 a.valid) := (B1.cell (p := ⟨ga, 0, none⟩) hl2).trans c0
  have d1 : w1.cell? ⟨ga, 1, none⟩ = some (.slice e0 a.boxes.length e1) := (B1.cell (p := ⟨ga, 1, none⟩) hl2).trans c1
  have hl3 : ga < w1.heap.size := Nat.lt_of_lt_of_le hl2 B1.size
  clear B1 HK c0 c1 c2 HV HN
  generalize firstI (fun x : BoxD => decide (x.name = nm)) a.boxes = fi at *
  obtain ⟨r0, r1, r2, r3, r4, r5, r6, r7, r8, r9⟩ := bx10 HK1.out
  have fz : ∀ i, w1.frozen? ⟨w.heap.size, i, none⟩ = false := fun i => frozen_of_row w1 _ i _ _ HK1.out
  have hlr := lt_of_heap HK1.out
  have h4i : (a.boxes.length : Int) < 4 := by omega
  have HF : Hid _ := rep_fin (w := w) HK1.out (Nat.le_refl _) HB1.out 3 0
  go_wp2
  obtain ⟨f0, f1, f2, f3, f4, f5, f6, f7, f8, f9⟩ := bx10 HF.out.1
  refine bodyPost_ret (v := .agg #[.int .i64 3, .int .i64 0, .slice none 0 0, .int .i64 0, .int .i64 0, .int .i64 0, .slice none 0 0, .slice none 0 0, .int .i64 0, .slice none 0 0]) (by simp [results, Tryd.results65, go_sem, f0, f1, f2, f3, f4, f5, f6, f7, f8, f9]) rfl ⟨_, rfl, ?_, HF.out.2, HP.out _ HF.out.2⟩
  exact ⟨_, _, _, _, rfl, ⟨_, _, _, rfl, bs_nil' _, Rd.nil _, Rd.nil _, i64c0, i64c0, i64c0, i64c0⟩, ⟨rfl, rfl⟩, ⟨by decide, by decide⟩, i64c0⟩

end Go.Proofs.YtmonloebkdpahaaDoor

/- A box behind a pointer: its fields are written, one by one. -/
namespace Go.Proofs.YtmonloebkdpahaaDoor
open Go.RowKit

section
variable {w w' : World} {S S' : Nat → Prop} {g o : Nat} {b b' : BoxD}
theorem BoxP.fit (h : BoxP w S g o b) : ∀ cur t, w.heap[g]? = some (.cells cur t (0, 0)) → o + 7 ≤ cur.size := by
  obtain ⟨cur, c, hh, ⟨u0, u1, u2, rfl, -⟩, hc⟩ := h
  intro cur' t h'
  rw [hh] at h'
  cases h'
  have := (Array.getElem?_eq_some_iff.1 (hc 6 _ rfl)).1
  omega
theorem BoxP.lt (h : BoxP w S g o b) : g < w.heap.size := ty_lt h.ty
/-- A field is written: what the box says with it. -/
theorem BoxP.put (h : BoxP w S g o b) (j : Nat) (hj : j < 7) (x : Value) (hq : ∀ c, BoxQE w c b S → c.length = 7 → BoxQE (w.setCell ⟨g, o + j, none⟩ x) (c.set j x) b' S') : BoxP (w.setCell ⟨g, o + j, none⟩ x) S' g o b' := by
  have hf := h.fit
  obtain ⟨cur, c, hh, hb, hc⟩ := h
  have hsz := hf cur _ hh
  have hl : c.length = 7 := by obtain ⟨u0, u1, u2, rfl, -⟩ := hb; rfl
  refine ⟨_, _, box_set hh, hq c hb hl, fun k u hk => ?_⟩
  by_cases e : k = j
  · subst e
    rw [List.getElem?_set_self (by omega)] at hk
    cases hk
    rw [Array.getElem?_setIfInBounds_self_of_lt (by omega)]
  · rw [List.getElem?_set_ne (Ne.symm e)] at hk
    rw [Array.getElem?_setIfInBounds_ne (by omega)]
    exact hc k u hk
theorem set_ro {x : Value} {j : Nat} {u : Value} {l : List Int} (ht : Ty w g 35) (h : RO w Any u l) : RO (w.setCell ⟨g, j, none⟩ x) Any u l := ro_oth h (stay_set ht (by decide))
theorem set_ms {x : Value} {j : Nat} {u : Value} {l : List MailD} (ht : Ty w g 35) (h : MailsQ w S u l) : MailsQ (w.setCell ⟨g, j, none⟩ x) S u l := by
  rcases h with h | ⟨m, cap, cur, cs, fs, hv, hh, r⟩
  · exact .inl h
  · have hne : m ≠ g := fun e => by subst e; exact ty_ne hh ht (by decide)
    obtain ⟨h1, h2, h3, h4, h5, h6, h7⟩ := r
    exact .inr ⟨m, cap, cur, cs, fs, hv, (Below.heap_setCell _ _ _ _ (show m ≠ g from hne)).trans hh, h1, h2, h3, h4, fun i y hy => ⟨mail_oth (h5 i y hy).1 (stay_set ht (by decide)), (h5 i y hy).2⟩, h6, h7⟩
theorem set_gs {x : Value} {j : Nat} {u : Value} {l : List GoneD} (ht : Ty w g 35) (h : GonesQ w u l) : GonesQ (w.setCell ⟨g, j, none⟩ x) u l := gonesq_oth h (stay_set ht (by decide))
theorem BoxP.setNext (h : BoxP w S g o b) (n : Int) (hn : I64 n) : BoxP (w.setCell ⟨g, o + 2, none⟩ (.int .i64 n)) S g o ⟨b.name, b.valid, n, b.seq, b.mails, b.gones, b.lost⟩ :=
  h.put 2 (by omega) _ fun c ⟨u0, u1, u2, e, h1, h2, h3, i0, i1, i2, i3⟩ _ => ⟨u0, u1, u2, by rw [e]; rfl, set_ro h.ty h1, set_ms h.ty h2, set_gs h.ty h3, i0, hn, i2, i3⟩
theorem BoxP.setSeq (h : BoxP w S g o b) (n : Int) (hn : I64 n) : BoxP (w.setCell ⟨g, o + 3, none⟩ (.int .i64 n)) S g o ⟨b.name, b.valid, b.next, n, b.mails, b.gones, b.lost⟩ :=
  h.put 3 (by omega) _ fun c ⟨u0, u1, u2, e, h1, h2, h3, i0, i1, i2, i3⟩ _ => ⟨u0, u1, u2, by rw [e]; rfl, set_ro h.ty h1, set_ms h.ty h2, set_gs h.ty h3, i0, i1, hn, i3⟩
theorem BoxP.setMails (h : BoxP w S g o b) {u : Value} {ms : List MailD} (hm : MailsQ w S' u ms) : BoxP (w.setCell ⟨g, o + 4, none⟩ u) S' g o ⟨b.name, b.valid, b.next, b.seq, ms, b.gones, b.lost⟩ :=
  h.put 4 (by omega) _ fun c ⟨u0, u1, u2, e, h1, h2, h3, r⟩ _ => ⟨u0, u, u2, by rw [e]; rfl, set_ro h.ty h1, set_ms h.ty hm, set_gs h.ty h3, r⟩
theorem BoxP.setGones (h : BoxP w S g o b) {u : Value} {gs : List GoneD} (hm : GonesQ w u gs) : BoxP (w.setCell ⟨g, o + 5, none⟩ u) S g o ⟨b.name, b.valid, b.next, b.seq, b.mails, gs, b.lost⟩ :=
  h.put 5 (by omega) _ fun c ⟨u0, u1, u2, e, h1, h2, h3, r⟩ _ => ⟨u0, u1, u, by rw [e]; rfl, set_ro h.ty h1, set_ms h.ty h2, set_gs h.ty hm, r⟩
theorem BoxP.setLost (h : BoxP w S g o b) (n : Int) (hn : I64 n) : BoxP (w.setCell ⟨g, o + 6, none⟩ (.int .i64 n)) S g o ⟨b.name, b.valid, b.next, b.seq, b.mails, b.gones, n⟩ :=
  h.put 6 (by omega) _ fun c ⟨u0, u1, u2, e, h1, h2, h3, i0, i1, i2, i3⟩ _ => ⟨u0, u1, u2, by rw [e]; rfl, set_ro h.ty h1, set_ms h.ty h2, set_gs h.ty h3, i0, i1, i2, hn⟩
theorem BoxP.mono (h : BoxP w S g o b) (hS : ∀ k, S k → S' k) : BoxP w S' g o b :=
  let ⟨cur, c, hh, ⟨u0, u1, u2, e, h1, h2, r⟩, hc⟩ := h; ⟨cur, c, hh, ⟨u0, u1, u2, e, h1, h2.mono hS, r⟩, hc⟩
theorem turns_set {j : Nat} {x : Value} (h : BoxP w S g o b) (hj : j < 7) : Turns w (w.setCell ⟨g, o + j, none⟩ x) S' g o := turns_field h.ty (by omega) (by omega)
end

end Go.Proofs.YtmonloebkdpahaaDoor

/- Regions walked in phases: where several operations may come next, each one goes on in an order of its own. -/
namespace Go.Proofs.YtmonloebkdpahaaDoor
set_option linter.unusedVariables false

theorem left_same {A A' : List Nat} (h : (A.all (fun x => A'.contains x) && A'.all (fun x => A.contains x)) = true) (L : Array Bool) : left A L = left A' L := by
  simp only [Bool.and_eq_true, List.all_eq_true, List.contains_iff_mem] at h
  unfold left
  rw [Bool.eq_iff_iff]
  simp only [List.any_eq_true]
  exact ⟨fun ⟨x, hx, e⟩ => ⟨x, h.1 x hx, e⟩, fun ⟨x, hx, e⟩ => ⟨x, h.2 x hx, e⟩⟩
section
variable {P : Program} {md : Region.Mode} {ops : Array Oper} {Q : Exit → Act → World → Prop} {S : World → Prop}
theorem wpAnyS_same {A A' : List Nat} (hA : ∀ L, left A L = left A' L) : ∀ (n : Nat) (L : Array Bool) (a : Act) (w : World), wpAnyS P md ops Q S A n L a w → wpAnyS P md ops Q S A' n L a w
  | 0, _, _, _, h => h
  | n + 1, L, a, w, h => by
    refine ⟨fun hl => h.1 (by rw [hA]; exact hl), fun hl => ?_⟩
    have h2 := h.2 (by rw [hA]; exact hl)
    exact ⟨h2.1, fun i hi => wpOp_mono (fun a' w' q => ⟨q.1, wpAnyS_same hA n _ a' w' q.2⟩) (h2.2 i hi)⟩
end
section
variable {P : Program} {ops : Array Oper} {Q : Exit → Act → World → Prop} {S : World → Prop} {n f : Nat} {ord cs qs : List Nat} {a : Act} {w : World}
/-- What is owed of those that may come next. -/
def AllS (P : Program) (ops : Array Oper) (Q : Exit → Act → World → Prop) (S : World → Prop) (n : Nat) (ord : List Nat) (q p : Nat) (a : Act) (w : World) (rs : List Nat) : Prop :=
  ∀ i ∈ rs, wpOp P ops Q i (fun a' w' => S w' ∧ wpAnyS P .any ops Q S (ord.take q) (n - (p + 1)) ((doneA n (ord.take p)).setIfInBounds i true) a' w') a w
theorem AllS.nil {q p : Nat} : AllS P ops Q S n ord q p a w [] := fun _ h => by cases h
theorem AllS.cons {q p i : Nat} {rs : List Nat} {oi : Oper} (ord' : List Nat) (hi : ops[i]? = some oi) (hd : (doneA n (ord.take p)).setIfInBounds i true = doneA n (ord'.take (p + 1)))
    (hA : ((ord'.take q).all (fun x => (ord.take q).contains x) && (ord.take q).all (fun x => (ord'.take q).contains x)) = true)
    (h : ∀ K : Act → World → Prop, Shut (∀ a w, S w → (S w → wpPh P ops Q S n ord' q (p + 1) a w) → K a w) → if Region.wanted oi (yielded ops a.tmps) = true then Oper.wp P oi a w K Q else K (a.put oi.dst undef) w)
    (hs : AllS P ops Q S n ord q p a w rs) : AllS P ops Q S n ord q p a w (i :: rs) := by
  intro j hj
  rcases List.mem_cons.1 hj with rfl | hj
  · refine wpOp_step hi (fun K hK => h K (fun a w hS hW => hK a w ⟨hS, ?_⟩))
    have := hW hS
    unfold wpPh at this
    rw [hd]
    exact wpAnyS_same (left_same hA) _ _ _ _ this
  · exact hs j hj
/-- The table of an order some of whose places (bs) have several that may come next. -/
def tableB (ops : Array Oper) (n : Nat) (ord cs bs qs : List Nat) (f : Nat) : Bool :=
  (ops.size == n) && ((ord.length == n) && (Region.noSelect ops && ((List.range n).all (fun p => match ord[p]? with
    | some i => cs.contains p || (bs.contains p || (Region.free .any ops (doneA n (ord.take p)) i && (Region.ready .any ops (doneA n (ord.take p))).contains i))
    | none => false) && ((Region.ready .any ops (doneA n (ord.take n))).isEmpty && (cs.all (fun p => match ord[p]? with
    | some i => Nat.blt p n && (Region.ready .any ops (doneA n (ord.take p)) == [i])
    | none => false) && ((List.range (n + 1)).all (fun p => (List.range n).all fun k => !((doneA n (ord.take p)).getD k false) || (waits .any ops k).all fun i => (doneA n (ord.take p)).getD i false) &&
    qs.all fun q => (List.range n).all fun j => (ord.take q).contains j || (ord.take q).all fun i => (ancL .any ops j f).contains i))))))
structure TabB (ops : Array Oper) (n : Nat) (ord cs bs qs : List Nat) (f : Nat) : Prop where
  out : tableB ops n ord cs bs qs f = true
variable {bs : List Nat}
theorem tabB_of {c : Option Code} {id : Nat} (h : c.bind (opsAt id) = some ops) (T : (c.bind (opsAt id)).all (fun o => tableB o n ord cs bs qs f) = true) : TabB ops n ord cs bs qs f := by
  rw [h] at T; exact ⟨by simpa using T⟩
theorem TabB.all (T' : TabB ops n ord cs bs qs f) : ops.size = n ∧ ord.length = n ∧ Region.noSelect ops = true ∧ (∀ p i, ord[p]? = some i → ¬ p ∈ cs → ¬ p ∈ bs → Region.free .any ops (doneA n (ord.take p)) i = true ∧ (Region.ready .any ops (doneA n (ord.take p))).contains i = true) ∧ Region.ready .any ops (doneA n (ord.take n)) = [] ∧
    (∀ p i, p ∈ cs → ord[p]? = some i → p < n ∧ Region.ready .any ops (doneA n (ord.take p)) = [i]) ∧ (∀ p, p ≤ n → ClosedL .any ops (doneA n (ord.take p))) ∧ ∀ q, q ∈ qs → Parts .any ops (ord.take q) := by
  have T := T'.out
  simp only [tableB, Bool.and_eq_true, beq_iff_eq, List.all_eq_true, List.mem_range, List.isEmpty_iff] at T
  obtain ⟨h1, h2, h3, h4, h5, h6, h7, h8⟩ := T
  refine ⟨h1, h2, h3, fun p i hp hc hb => ?_, h5, fun p i hc hp => ?_, fun p hp k i hk hi => ?_, fun q hq j hj hn i hi => ?_⟩
  · have hlt : p < n := by have := (List.getElem?_eq_some_iff.1 hp).1; omega
    have := h4 p hlt
    rw [hp] at this
    simp only [Bool.or_eq_true, Bool.and_eq_true, List.contains_iff_mem] at this
    rcases this with h | h | h
    · exact absurd h hc
    · exact absurd h hb
    · exact ⟨h.1, by simpa using h.2⟩
  · have := h6 p hc
    rw [hp] at this
    simp only [Bool.and_eq_true, beq_iff_eq, Nat.blt_eq] at this
    exact this
  · have hkn : k < n := by
      by_cases hkn : k < n
      · exact hkn
      · unfold waits at hi
        rw [Array.getElem?_eq_none (by omega)] at hi
        cases hi
    have := h7 p (by omega) k hkn
    rw [hk] at this
    simp only [Bool.not_true, Bool.false_or, List.all_eq_true] at this
    exact this i hi
  · obtain ⟨o, ho⟩ := hj
    have hjn : j < n := by rw [← h1]; exact (Array.getElem?_eq_some_iff.1 ho).1
    have := h8 q hq j hjn
    simp only [Bool.or_eq_true, List.contains_iff_mem, List.all_eq_true] at this
    rcases this with h | h
    · exact absurd h hn
    · exact anc_of f i (h i hi)
theorem wpB_begin {id : Nat} (q : Nat) (T : TabB ops n ord cs bs qs f) (hm : P.follows .mixedOrders = true) (hS : S w.drew) (h : TabB ops n ord cs bs qs f → S w.drew → wpPh P ops Q S n ord q 0 a w.drew) : Code.wp P (.region id ops true) Q a w := by
  refine wp_region_any hm ?_
  have h1 := T.all.1
  have := wpAny_of_phase _ _ _ _ (h T hS)
  subst h1
  exact this
/-- The beginning, with the tables of three orders. -/
theorem wpB_begin3 {id : Nat} {ord2 cs2 bs2 ord3 cs3 bs3 : List Nat} (q : Nat) (T : TabB ops n ord cs bs qs f) (T2 : TabB ops n ord2 cs2 bs2 qs f) (T3 : TabB ops n ord3 cs3 bs3 qs f) (hm : P.follows .mixedOrders = true) (hS : S w.drew)
    (h : TabB ops n ord cs bs qs f → TabB ops n ord2 cs2 bs2 qs f → TabB ops n ord3 cs3 bs3 qs f → S w.drew → wpPh P ops Q S n ord q 0 a w.drew) : Code.wp P (.region id ops true) Q a w := wpB_begin q T hm hS fun T => h T T2 T3
theorem tkb0 (p i d : Nat) {q : Nat} {oi : Oper} (v : Value) (T : TabB ops n ord cs bs qs f) (hy : ∀ w, S w → (execOp a.eval oi).run P w = .ok (.value v) w) (hS : S w) (h : wpPh P ops Q S n ord q (p + 1) (setT a d v) w)
    (hp : (ord.take q)[p]? = some i) (hc : ¬ p ∈ cs) (hb : ¬ p ∈ bs) (hq : q ∈ qs) (hi : ops[i]? = some oi)
    (hg : (oi.dst == some d && Region.wanted oi (yielded ops a.tmps)) = true) (hQ : ∀ c a w, Q (.panic c) (a.put (some d) v) w → Q (.panic c) a w) : wpPh P ops Q S n ord q p a w := by
  obtain ⟨h1, h2, h3, h4, h5, h6, h7, h8⟩ := T.all
  have hp' : ord[p]? = some i := by
    rw [List.getElem?_take] at hp
    split at hp
    · exact hp
    · cases hp
  have hlt : p < n := by have := (List.getElem?_eq_some_iff.1 hp').1; omega
  simp only [Bool.and_eq_true, beq_iff_eq] at hg
  rw [← put_setT] at h
  unfold wpPh at h ⊢
  rw [show n - p = (n - (p + 1)) + 1 by omega]
  rw [← doneA_step hp'] at h
  exact wpAnyS_first hi (List.mem_of_getElem? hp) (h8 q hq) (Region.noSelect_spec h3) (by rw [hg.1]; exact hQ) _ _ _ _ (h7 p (by omega)) (Region.free_spec hi (h4 p i hp' hc hb).1) (by simpa using (h4 p i hp' hc hb).2) (Or.inl ⟨hg.2, hy⟩) hS (by rw [hg.1]; exact h)
theorem clb (p i : Nat) {q : Nat} {oi : Oper} (T : TabB ops n ord cs bs qs f) (hc : p ∈ cs) (hp : (ord.take q)[p]? = some i) (hi : ops[i]? = some oi)
    (h : ∀ K : Act → World → Prop, Shut (∀ a w, S w → (S w → wpPh P ops Q S n ord q (p + 1) a w) → K a w) → if Region.wanted oi (yielded ops a.tmps) = true then Oper.wp P oi a w K Q else K (a.put oi.dst undef) w) : wpPh P ops Q S n ord q p a w := by
  obtain ⟨h1, h2, h3, h4, h5, h6, h7, h8⟩ := T.all
  have hp' : ord[p]? = some i := by
    rw [List.getElem?_take] at hp
    split at hp
    · exact hp
    · cases hp
  have hlt := (h6 p i hc hp').1
  have hr := (h6 p i hc hp').2
  have hun : (doneA n (ord.take p)).getD i true = false := (mem_ready.1 (show i ∈ Region.ready .any ops (doneA n (ord.take p)) by rw [hr]; simp)).1
  have hl : left (ord.take q) (doneA n (ord.take p)) = true := left_mem (List.mem_of_getElem? hp) hun
  unfold wpPh
  rw [show n - p = (n - (p + 1)) + 1 by omega]
  refine ⟨fun h => absurd hl (by rw [h]; simp), fun _ => ⟨fun h => absurd hr (by rw [h]; simp), fun j hj => ?_⟩⟩
  rw [hr] at hj
  obtain rfl : j = i := by simpa using hj
  exact wpOp_step hi (fun K hK => h K (fun a w hS hW => hK a w ⟨hS, by rw [doneA_step hp']; exact hW hS⟩))
/-- Several may come next. -/
theorem brb (p : Nat) {q : Nat} (rs : List Nat) (hr : Region.ready .any ops (doneA n (ord.take p)) = rs) (hl : left (ord.take q) (doneA n (ord.take p)) = true) (hp : p < n) (hne : rs ≠ [])
    (h : AllS P ops Q S n ord q p a w rs) : wpPh P ops Q S n ord q p a w := by
  unfold wpPh
  rw [show n - p = (n - (p + 1)) + 1 by omega]
  refine ⟨fun hl' => ?_, fun _ => ⟨fun h' => absurd (hr.symm.trans h') hne, fun i hi => h i (by rw [← hr]; exact hi)⟩⟩
  rw [hl] at hl'
  cases hl'
theorem wpB_next {S' : World → Prop} (q q' : Nat) (hl : left (ord.take q) (doneA n (ord.take q)) = false) (hS : S' w) (h : S' w → wpPh P ops Q S' n ord q' q a w) : wpPh P ops Q S n ord q q a w := by
  have h := wpAny_of_phase _ _ _ _ (h hS)
  unfold wpPh
  revert h
  generalize n - q = m
  intro h
  cases m with
  | zero => exact h
  | succ m => exact ⟨fun _ => h, fun hh => absurd hh (by rw [hl]; simp)⟩
theorem wpB_end {q : Nat} (T : TabB ops n ord cs bs qs f) (h : Q .normal a w) : wpPh P ops Q S n ord q n a w := by
  unfold wpPh
  rw [Nat.sub_self]
  exact ⟨T.all.2.2.2.2.1, h⟩
end
theorem tkb {P : Program} {ops : Array Oper} {Q : Exit → Act → World → Prop} {S : World → Prop} {n f q : Nat} {ord cs bs qs : List Nat} {a a' : Act} {w : World} (p i d : Nat) {oi : Oper} {v : Value} (T : TabB ops n ord cs bs qs f) (hS : S w) (h : wpPh P ops Q S n ord q (p + 1) a' w)
    (hp : (ord.take q)[p]? = some i := by rfl) (hc : ¬ p ∈ cs := by decide) (hb : ¬ p ∈ bs := by decide) (hq : q ∈ qs := by decide)
    (hi : ops[i]? = some oi := by rfl)
    (hg : (oi.dst == some d && Region.wanted oi (yielded ops a.tmps)) = true := by kernel_rfl)
    (hy : ∀ w, S w → (execOp a.eval oi).run P w = .ok (.value v) w := by (intro w s; (try dsimp only at s); go_simp <;> with_reducible rfl))
    (ha : setT a d v = a' := by (conv => lhs; dsimp only [setT, List.toList_toArray, put0, putS]))
    (hQ : ∀ c a w, Q (.panic c) (a.put (some d) v) w → Q (.panic c) a w := by exact fun _ _ _ h => h) : wpPh P ops Q S n ord q p a w :=
  tkb0 p i d v T hy hS (by rw [ha]; exact h) hp hc hb hq hi hg hQ

end Go.Proofs.YtmonloebkdpahaaDoor

/- A list of mails that is copied and grows by one: as it is read, and as it is then the box' own. -/
namespace Go.Proofs.YtmonloebkdpahaaDoor
open Go.RowKit
set_option linter.unusedVariables false

/-- Mails as they lay in w. -/
def MailAt (w : World) (_ : World) (c : List Value) (m : MailD) : Prop := MailQE w c m Any
theorem MailsQ.at {w x : World} {S : Nat → Prop} {v : Value} {l : List MailD} (h : MailsQ w S v l) (hb : Below w.heap.size w x) : Rd 4 (MailAt w) x v l := by
  rcases h with ⟨rfl, rfl⟩ | ⟨g, cap, cur, cs, fs, hv, hh, h1, h2, h3, h4, h5, h6, h7⟩
  · exact Rd.nil x
  · refine ⟨some ⟨g, 0, none⟩, cap, cs, hv, h1, h2, (fun h => by cases h), fun i m hm => ⟨(h5 i m hm).1, (h5 i m hm).2.1⟩, fun hp => ⟨g, 0, rfl, Nat.lt_of_lt_of_le (lt_of_heap hh) hb.size, fun i j u hi hu => ?_⟩⟩
    have hh' : x.heap[g]? = some (.cells cur _ (0, 0)) := (hb.block g (lt_of_heap hh)).trans hh
    rw [Nat.zero_add, cell_of_row x g _ cur _ (0, 0) hh']
    exact (h5 i l[i] (List.getElem?_eq_getElem hi)).2.2 j u hu
theorem one_at {w : World} : ∀ (x : World) (c : List Value) (m : MailD), MailAt w x c m → ∀ y ∈ c, y.oneCell' = true := by
  rintro x c m ⟨u, rfl, h, -⟩ y hy
  obtain ⟨a, n, cp, rfl⟩ := h.bs.form3
  simp only [List.mem_cons, List.not_mem_nil, or_false] at hy
  rcases hy with rfl | rfl | rfl | rfl <;> rfl
theorem mq_of {w : World} {B n : Nat} {v : Value} {l : List MailD} {xs : List Value} {S : Nat → Prop} (h : w.ownsRow B 54 4 v n xs) (hn : l.length = n)
    (hx : ∀ i m, l[i]? = some m → ∃ c, c.length = 4 ∧ MailQE w c m Any ∧ ∀ j y, c[j]? = some y → xs[i * 4 + j]? = some y) (hS : ∀ g, v.ownBlock = some g → S g) : MailsQ w S v l := by
  subst hn
  rcases h.2 with ⟨hn, hl⟩ | ⟨g, cap, cur, hv, hg, hh, h1, h2, h3, h4⟩
  · exact .inl ⟨hn, List.eq_nil_of_length_eq_zero hl⟩
  · have hpick : ∀ i, ∃ c, i < l.length → ∀ m, l[i]? = some m → c.length = 4 ∧ MailQE w c m Any ∧ ∀ j y, c[j]? = some y → xs[i * 4 + j]? = some y := by
      intro i
      by_cases hi : i < l.length
      · obtain ⟨c, hc⟩ := hx i l[i] (List.getElem?_eq_getElem hi)
        exact ⟨c, fun _ m hm => by rw [List.getElem?_eq_getElem hi] at hm; cases hm; exact hc⟩
      · exact ⟨[], fun h => absurd h hi⟩
    obtain ⟨cs, hcs⟩ := Classical.axiomOfChoice hpick
    refine .inr ⟨g, cap, cur, cs, fun _ _ => False, hv, hh, h1, h2, h3, hS g (by rw [hv]; rfl), fun i m hm => ?_, by simp, by simp⟩
    obtain ⟨q1, q2, q3⟩ := hcs i (List.getElem?_eq_some_iff.1 hm).1 m hm
    refine ⟨q2, q1, fun j y hy => ?_⟩
    have := q3 j y hy
    rw [← h4, List.getElem?_take] at this
    split at this
    · simpa using this
    · cases this
section
variable {P : Program} {w : World} {e t : TypeId} {sz bytes B n : Nat} {v : Value} {xs : List Value}
/-- One element more put behind a row of the call's own, in a region that draws. -/
theorem wp_app1 {o : Oper} {a : Act} {K : Act → World → Prop} {Q : Exit → Act → World → Prop} (d : Nat) (hd : o.dst = some d) (s y : Operand)
    (ho : o.op = .call { callee := .builtin .append, args := #[s, y], argTypes := #[t, t] }) (h : w.ownsRow B e sz v n xs) {i : TypeInfo} {z : Value} (ht : P.underlying t = some (.slice e)) (hi : P.info? e = some i) (hz : i.zero = some z) (hsize : i.size = sz) (hby : i.bytes = bytes) (hzs : z.cells.size = sz) (hsz : 0 < sz)
    (hs : a.eval s = v) (c : List Value) (hc : c.length = sz) (ad : Addr) (cc : Nat) (hy : a.eval y = .slice (some ad) 1 cc) (hcell : ∀ j u, c[j]? = some u → w.cell? (ad.add j) = some u) (h1 : ∀ u ∈ c, u.oneCell' = true) (hl : n + 1 ≤ maxLen) (hb : (n + 1) * bytes ≤ 140737488355328) (hB : B ≤ w.heap.size)
    (k : ∀ v' w', w'.ownsRow B e sz v' (n + 1) (xs ++ c) → w.grownBy w' v.ownBlock → (v'.ownBlock = v.ownBlock ∨ v'.ownBlock = some w.heap.size) → K (a.put (some d) v') w') : o.wp P a w K Q := by
  obtain ⟨v', w', hr, h2, h3, h4, h5⟩ := run_append_own_at (P := P) w B t o.type e i z sz bytes ht hi hz hsize hby hzs hsz v n xs h ad 1 cc c (by omega) hcell h1 hl hb hB
  unfold Oper.wp execOp
  simp only [ho, resolve, invoke, builtin, Sem.run_bind, Sem.run_pure, Result.andThen_ok, List.map_toArray, List.map_cons, List.map_nil, hs, hy, hr]
  have := k v' w' h2 h3 h5
  rw [← hd] at this
  exact this
end

end Go.Proofs.YtmonloebkdpahaaDoor

/- A whole list put behind a row of the call's own; parts of a list. -/
namespace Go.Proofs.YtmonloebkdpahaaDoor
open Go.RowKit
set_option linter.unusedVariables false

section
variable {α : Type} {P : Program} {w : World} {e t : TypeId} {sz bytes B n : Nat} {RE : World → List Value → α → Prop} {v u : Value} {m : List α} {xs : List Value}
theorem run_catA (h : w.ownsRow B e sz v n xs) (hu : Rd sz RE w u m) (hone : ∀ c x, RE w c x → ∀ y ∈ c, y.oneCell' = true) (ty : TypeId) {i : TypeInfo} {z : Value} (ht : P.underlying t = some (.slice e)) (hi : P.info? e = some i) (hz : i.zero = some z) (hsize : i.size = sz) (hby : i.bytes = bytes) (hzs : z.cells.size = sz) (hsz : 0 < sz)
    (hl : n + m.length ≤ maxLen) (hb : (n + m.length) * bytes ≤ 140737488355328) (hB : B ≤ w.heap.size) :
    ∃ v' w' ys, (Builtin.append_ #[t, t] ty #[v, u]).run P w = .ok v' w' ∧ w'.ownsRow B e sz v' (n + m.length) (xs ++ ys) ∧ ys.length = m.length * sz ∧ (∀ i x, m[i]? = some x → ∃ c, c.length = sz ∧ RE w c x ∧ ∀ j y, c[j]? = some y → ys[i * sz + j]? = some y) ∧ w.grownBy w' v.ownBlock ∧ (v'.ownBlock = v.ownBlock ∨ v'.ownBlock = some w.heap.size) := by
  obtain ⟨a, cap, cs, rfl, h1, h2, h3, h4, h5⟩ := hu
  cases a with
  | none =>
    have hc := h3 rfl
    have hm : m = [] := List.eq_nil_of_length_eq_zero (by omega)
    subst hm
    subst hc
    exact ⟨v, w, [], run_append_owned_none (P := P) (w := w) B t ty e i sz ht hi v n xs h, by simpa using h, by simp, by simp, World.grownBy.refl _ _, .inl rfl⟩
  | some ad =>
    have hlen : ∀ i, i < m.length → (cs i).length = sz := fun i hi => (h4 i m[i] (List.getElem?_eq_getElem hi)).2
    have hfl := flatC_len m.length hlen
    have hnews : ∀ k y, ((List.range m.length).flatMap cs)[k]? = some y → w.cell? (ad.add k) = some y := by
      intro k y hk
      have hk2 : k < m.length * sz := by have := (List.getElem?_eq_some_iff.1 hk).1; omega
      have hd : k = k / sz * sz + k % sz := by have := Nat.div_add_mod k sz; rw [Nat.mul_comm]; omega
      have hi1 : k / sz < m.length := Nat.div_lt_of_lt_mul (by rw [Nat.mul_comm]; exact hk2)
      have hj1 : k % sz < sz := Nat.mod_lt _ hsz
      have hk3 := hk
      rw [hd, flatC_get m.length hlen _ _ hi1 hj1] at hk3
      obtain ⟨b, off, hab, -, hcell⟩ := h5 (Nat.lt_of_le_of_lt (Nat.zero_le _) hi1)
      cases hab
      have := hcell _ _ _ hi1 hk3
      rw [Addr.add_lit]
      rw [Nat.add_assoc, ← hd] at this
      exact this
    have hones : ∀ y ∈ (List.range m.length).flatMap cs, y.oneCell' = true := by
      intro y hy
      obtain ⟨i, hi', hy⟩ := List.mem_flatMap.1 hy
      have hil : i < m.length := by simpa using hi'
      exact hone _ _ (h4 i m[i] (List.getElem?_eq_getElem hil)).1 y hy
    obtain ⟨v', w', hr, k2, k3, k4, k5⟩ := run_append_own_at (P := P) w B t ty e i z sz bytes ht hi hz hsize hby hzs hsz v n xs h ad m.length cap ((List.range m.length).flatMap cs) hfl hnews hones hl hb hB
    refine ⟨v', w', (List.range m.length).flatMap cs, hr, k2, hfl, fun i x hx => ?_, k3, k5⟩
    have hil : i < m.length := (List.getElem?_eq_some_iff.1 hx).1
    refine ⟨cs i, hlen i hil, (h4 i x hx).1, fun j y hy => ?_⟩
    have hj : j < sz := by have := (List.getElem?_eq_some_iff.1 hy).1; have := hlen i hil; omega
    rw [flatC_get m.length hlen i j hil hj]
    exact hy
theorem wp_catA {o : Oper} {a : Act} {K : Act → World → Prop} {Q : Exit → Act → World → Prop} (d : Nat) (hd : o.dst = some d) (s y : Operand)
    (ho : o.op = .call { callee := .builtin .append, args := #[s, y], argTypes := #[t, t] }) (h : w.ownsRow B e sz v n xs) (hu : Rd sz RE w u m) (hone : ∀ c x, RE w c x → ∀ y ∈ c, y.oneCell' = true) {i : TypeInfo} {z : Value} (ht : P.underlying t = some (.slice e)) (hi : P.info? e = some i) (hz : i.zero = some z) (hsize : i.size = sz) (hby : i.bytes = bytes) (hzs : z.cells.size = sz) (hsz : 0 < sz)
    (hs : a.eval s = v) (hy : a.eval y = u) (hl : n + m.length ≤ maxLen) (hb : (n + m.length) * bytes ≤ 140737488355328) (hB : B ≤ w.heap.size)
    (k : ∀ v' w' ys, w'.ownsRow B e sz v' (n + m.length) (xs ++ ys) → ys.length = m.length * sz → (∀ i x, m[i]? = some x → ∃ c, c.length = sz ∧ RE w c x ∧ ∀ j y, c[j]? = some y → ys[i * sz + j]? = some y) → w.grownBy w' v.ownBlock → (v'.ownBlock = v.ownBlock ∨ v'.ownBlock = some w.heap.size) → K (a.put (some d) v') w') : o.wp P a w K Q := by
  obtain ⟨v', w', ys, hr, h2, h3, h4, h5, h6⟩ := run_catA (P := P) (t := t) h hu hone o.type ht hi hz hsize hby hzs hsz hl hb hB
  unfold Oper.wp execOp
  simp only [ho, resolve, invoke, builtin, Sem.run_bind, Sem.run_pure, Result.andThen_ok, List.map_toArray, List.map_cons, List.map_nil, hs, hy, hr]
  have := k v' w' ys h2 h3 h4 h5 h6
  rw [← hd] at this
  exact this
/-- The first ones, the last ones of a list that is read. -/
theorem Rd.take {ad : Option Addr} {c k : Nat} (h : Rd sz RE w (.slice ad m.length c) m) (hk : k ≤ m.length) : Rd sz RE w (.slice ad k c) (m.take k) := by
  obtain ⟨a, cap, cs, hv, h1, h2, h3, h4, h5⟩ := h
  cases hv
  have hl : (m.take k).length = k := by simp; omega
  refine ⟨ad, c, cs, by rw [hl], by omega, h2, h3, fun i x hx => h4 i x ?_, fun hp => ?_⟩
  · rw [List.getElem?_take] at hx
    split at hx
    · exact hx
    · cases hx
  · rw [hl] at hp
    obtain ⟨b, off, ha, hb, hc⟩ := h5 (by omega)
    exact ⟨b, off, ha, hb, fun i j u hi hu => hc i j u (by omega) hu⟩
theorem Rd.drop {b off c k : Nat} (h : Rd sz RE w (.slice (some ⟨b, off, none⟩) m.length c) m) (hk : k ≤ m.length) : Rd sz RE w (.slice (some ⟨b, off + k * sz, none⟩) (m.length - k) (c - k)) (m.drop k) := by
  obtain ⟨a, cap, cs, hv, h1, h2, h3, h4, h5⟩ := h
  cases hv
  have hl : (m.drop k).length = m.length - k := by simp
  refine ⟨some ⟨b, off + k * sz, none⟩, c - k, fun i => cs (k + i), by rw [hl], by omega, by omega, (fun h => by cases h), fun i x hx => h4 (k + i) x (by rw [List.getElem?_drop] at hx; exact hx), fun hp => ?_⟩
  rw [hl] at hp
  obtain ⟨b', off', ha, hb, hc⟩ := h5 (by omega)
  cases ha
  refine ⟨b, off + k * sz, rfl, hb, fun i j u hi hu => ?_⟩
  have := hc (k + i) j u (by omega) hu
  rw [Nat.add_mul, ← Nat.add_assoc] at this
  exact this
end

end Go.Proofs.YtmonloebkdpahaaDoor

/- Cells put behind a row of the call's own, as they are. -/
namespace Go.Proofs.YtmonloebkdpahaaDoor
open Go.RowKit
set_option linter.unusedVariables false

/-- A slice's cells, as they are. -/
def SrcC (w : World) (u : Value) (m sz : Nat) (news : List Value) : Prop :=
  (u = .slice none 0 0 ∧ m = 0 ∧ news = []) ∨ ∃ g off cap, u = .slice (some ⟨g, off, none⟩) m cap ∧ news.length = m * sz ∧ ∀ j y, news[j]? = some y → w.cell? ⟨g, off + j, none⟩ = some y
section
variable {P : Program} {w : World} {e t : TypeId} {sz bytes B n m : Nat} {v u : Value} {xs news : List Value}
theorem run_catC (h : w.ownsRow B e sz v n xs) (hu : SrcC w u m sz news) (hone : ∀ y ∈ news, y.oneCell' = true) (ty : TypeId) {i : TypeInfo} {z : Value} (ht : P.underlying t = some (.slice e)) (hi : P.info? e = some i) (hz : i.zero = some z) (hsize : i.size = sz) (hby : i.bytes = bytes) (hzs : z.cells.size = sz) (hsz : 0 < sz)
    (hl : n + m ≤ maxLen) (hb : (n + m) * bytes ≤ 140737488355328) (hB : B ≤ w.heap.size) :
    ∃ v' w', (Builtin.append_ #[t, t] ty #[v, u]).run P w = .ok v' w' ∧ w'.ownsRow B e sz v' (n + m) (xs ++ news) ∧ w.grownBy w' v.ownBlock ∧ (v'.ownBlock = v.ownBlock ∨ v'.ownBlock = some w.heap.size) := by
  rcases hu with ⟨rfl, rfl, rfl⟩ | ⟨g, off, cap, rfl, hn, hc⟩
  · exact ⟨v, w, run_append_owned_none (P := P) (w := w) B t ty e i sz ht hi v n xs h, by simpa using h, World.grownBy.refl _ _, .inl rfl⟩
  · obtain ⟨v', w', hr, k2, k3, k4, k5⟩ := run_append_own_at (P := P) w B t ty e i z sz bytes ht hi hz hsize hby hzs hsz v n xs h ⟨g, off, none⟩ m cap news hn (fun j y hy => by rw [Addr.add_lit]; exact hc j y hy) hone hl hb hB
    exact ⟨v', w', hr, k2, k3, k5⟩
theorem wp_catC {o : Oper} {a : Act} {K : Act → World → Prop} {Q : Exit → Act → World → Prop} (d : Nat) (hd : o.dst = some d) (s y : Operand)
    (ho : o.op = .call { callee := .builtin .append, args := #[s, y], argTypes := #[t, t] }) (h : w.ownsRow B e sz v n xs) (hu : SrcC w u m sz news) (hone : ∀ y ∈ news, y.oneCell' = true) {i : TypeInfo} {z : Value} (ht : P.underlying t = some (.slice e)) (hi : P.info? e = some i) (hz : i.zero = some z) (hsize : i.size = sz) (hby : i.bytes = bytes) (hzs : z.cells.size = sz) (hsz : 0 < sz)
    (hs : a.eval s = v) (hy : a.eval y = u) (hl : n + m ≤ maxLen) (hb : (n + m) * bytes ≤ 140737488355328) (hB : B ≤ w.heap.size)
    (k : ∀ v' w', w'.ownsRow B e sz v' (n + m) (xs ++ news) → w.grownBy w' v.ownBlock → (v'.ownBlock = v.ownBlock ∨ v'.ownBlock = some w.heap.size) → K (a.put (some d) v') w') : o.wp P a w K Q := by
  obtain ⟨v', w', hr, h2, h3, h5⟩ := run_catC (P := P) (t := t) h hu hone o.type ht hi hz hsize hby hzs hsz hl hb hB
  unfold Oper.wp execOp
  simp only [ho, resolve, invoke, builtin, Sem.run_bind, Sem.run_pure, Result.andThen_ok, List.map_toArray, List.map_cons, List.map_nil, hs, hy, hr]
  have := k v' w' h2 h3 h5
  rw [← hd] at this
  exact this
theorem wpList_catC {ops : Array Oper} {rest : List Oper} {o : Oper} {a : Act} {Q : Exit → Act → World → Prop} (hgd : o.guard = none) (s y : Operand)
    (ho : o.op = .call { callee := .builtin .append, args := #[s, y], argTypes := #[t, t] }) (h : w.ownsRow B e sz v n xs) (hu : SrcC w u m sz news) (hone : ∀ y ∈ news, y.oneCell' = true) {i : TypeInfo} {z : Value} (ht : P.underlying t = some (.slice e)) (hi : P.info? e = some i) (hz : i.zero = some z) (hsize : i.size = sz) (hby : i.bytes = bytes) (hzs : z.cells.size = sz) (hsz : 0 < sz)
    (hs : a.eval s = v) (hy : a.eval y = u) (hl : n + m ≤ maxLen) (hb : (n + m) * bytes ≤ 140737488355328) (hB : B ≤ w.heap.size)
    (k : ∀ v' w', w'.ownsRow B e sz v' (n + m) (xs ++ news) → w.grownBy w' v.ownBlock → (v'.ownBlock = v.ownBlock ∨ v'.ownBlock = some w.heap.size) → wpList P ops Q rest (a.put o.dst v') w') : wpList P ops Q (o :: rest) a w := by
  refine wpList_plain hgd fun K hK => ?_
  obtain ⟨v', w', hr, h2, h3, h5⟩ := run_catC (P := P) (t := t) h hu hone o.type ht hi hz hsize hby hzs hsz hl hb hB
  unfold Oper.wp execOp
  simp only [ho, resolve, invoke, builtin, Sem.run_bind, Sem.run_pure, Result.andThen_ok, List.map_toArray, List.map_cons, List.map_nil, hs, hy, hr]
  exact hK _ _ (k v' w' h2 h3 h5)
end

end Go.Proofs.YtmonloebkdpahaaDoor

/- An account whose boxes are put anew. -/
namespace Go.Proofs.YtmonloebkdpahaaDoor
open Go.RowKit
set_option linter.unusedVariables false
set_option linter.unusedSimpArgs false

theorem AccP.putBoxes {w1 w : World} {S S' : Nat → Prop} {ga : Nat} {a : AccD} {v : Value} {l : List BoxD} (h : AccP w1 S ga a) (hb : Below w1.heap.size w1 w) (hq : BoxesQ w S' v l) (hg : ¬ S' ga) (hS : ∀ k, S' k → S k ∨ w1.heap.size ≤ k) :
    AccP (w.setCell ⟨ga, 1, none⟩ v) S' ga ⟨a.valid, l, a.seen⟩ := by
  have h' := h.below hb
  have ht := h'.ty
  obtain ⟨_, u0', u1', hh, _, hi, _⟩ := h
  obtain ⟨hs, u0, u1, h0, h1, _, r⟩ := h'
  have hk : ∀ k, k ≠ ga → (w.setCell ⟨ga, 1, none⟩ v).heap[k]? = w.heap[k]? := fun k h => Below.heap_setCell _ _ _ _ h
  have he := (hb.block ga (lt_of_heap hh)).trans hh
  rw [h0] at he
  simp only [Option.some.injEq, Obj.cells.injEq, Array.mk.injEq, List.cons.injEq, true_and, and_true] at he
  obtain ⟨rfl, rfl⟩ := he
  refine ⟨hg, v, u1, box_set (i := 1) h0, boxes_oth hq (fun k h _ => hk k fun e => hg (e ▸ h)) (stay_set ht (by decide)) (stay_set ht (by decide)), ?_, r⟩
  refine Ow.mono (intsp_oth (w := w1) hi fun k hk1 hk2 hT => ?_) fun k h => ⟨fun h' => (hS k h').elim h.1 fun h' => by have := h.2; omega, by have := h.2; have := hb.size; simpa [World.setCell] using Nat.lt_of_lt_of_le h.2 hb.size⟩
  have : k ≠ ga := fun e => by subst e; obtain ⟨cs, fz, hT⟩ := hT; exact ty_ne hT ⟨_, _, hh⟩ (by decide)
  exact (hk k this).trans (hb.block k hk2)

/-- A box of its own, without mails and gones. -/
theorem bare_el {w : World} {na : Option Addr} {nn nc : Nat} {nm : List Int} {v n : Int} (h : RO w Any (.slice na nn nc) nm) (hv : I64 v) (hn : I64 n) : EL 7 BoxQE w [⟨nm, v, n, 0, [], [], 0⟩] (fun _ => False) [.slice na nn nc, .int .i64 v, .int .i64 n, .int .i64 0, .slice none 0 0, .slice none 0 0, .int .i64 0] :=
  EL.one rfl ⟨_, _, _, rfl, h, .inl ⟨rfl, rfl⟩, ⟨Rd.nil _, fun _ _ _ e => by cases e⟩, hv, hn, i64c0, i64c0⟩
theorem one_el {w : World} : ∀ {l : List BoxD} {S : Nat → Prop} {xs : List Value}, EL 7 BoxQE w l S xs → ∀ y ∈ xs, y.oneCell' = true
  | [], _, _, h => by rw [show _ = [] from h]; simp
  | x :: l, _, _, ⟨c, ys, _, _, e, hc, ⟨u0, u1, u2, ec, h0, h1, h2, _⟩, hl, _⟩ => by
    obtain ⟨a0, n0, c0, rfl⟩ := h0.bs.form3
    obtain ⟨a1, c1, rfl, -⟩ := h1.v.form
    obtain ⟨a2, c2, rfl, -⟩ := h2.1.form
    subst ec
    subst e
    intro y hy
    simp only [List.cons_append, List.nil_append, List.mem_cons, List.mem_append, List.not_mem_nil, or_false] at hy
    rcases hy with rfl | rfl | rfl | rfl | rfl | rfl | rfl | hy
    all_goals first | rfl | exact one_el hl y hy
/-- One box into the middle of a row. -/
theorem el_mid {w : World} {l : List BoxD} {b : BoxD} {S : Nat → Prop} {xs cb : List Value} (i : Nat) (h : EL 7 BoxQE w l S xs) (hb : EL 7 BoxQE w [b] (fun _ => False) cb) : EL 7 BoxQE w (l.take i ++ b :: l.drop i) S (xs.take (i * 7) ++ cb ++ xs.drop (i * 7)) := by
  obtain ⟨S1, S2, e1, e2, d1, d2, d3⟩ := EL.split i h
  have := (e1.app hb (fun _ _ h => h)).app e2 (fun k h h' => h.elim (fun h => d3 k h h') (fun h => h))
  rw [List.append_assoc] at this
  exact this.mono fun k h => h.elim (fun h => h.elim (d1 k) False.elim) (d2 k)
/-- One box out of a row. -/
theorem el_out {w : World} {l : List BoxD} {S : Nat → Prop} {xs : List Value} (i : Nat) (h : EL 7 BoxQE w l S xs) : EL 7 BoxQE w (l.take i ++ l.drop (i + 1)) S (xs.take (i * 7) ++ xs.drop ((i + 1) * 7)) := by
  obtain ⟨S1, S2, e1, e2, d1, d2, d3⟩ := EL.split i h
  obtain ⟨T1, T2, f1, f2, c1, c2, c3⟩ := EL.split 1 e2
  have := e1.app f2 (fun k h h' => d3 k h (c2 k h'))
  rw [List.drop_drop, List.drop_drop] at this
  rw [show (i + 1) * 7 = i * 7 + 1 * 7 by omega]
  exact this.mono fun k h => h.elim (d1 k) fun h => d2 k (c2 k h)
theorem takeWhile_take {α : Type} (p : α → Bool) : ∀ (l : List α) (i : Nat), (∀ j x, j < i → l[j]? = some x → p x = true) → (∀ x, l[i]? = some x → p x = false) → i ≤ l.length → l.takeWhile p = l.take i ∧ l.dropWhile p = l.drop i
  | [], i, _, _, hi => by simp at hi; subst hi; simp
  | x :: l, 0, _, h, _ => by simp [h x rfl]
  | x :: l, i + 1, h1, h2, hi => by
    have hx := h1 0 x (by omega) rfl
    obtain ⟨e1, e2⟩ := takeWhile_take p l i (fun j y hj hy => h1 (j + 1) y (by omega) (by simpa using hy)) (fun y hy => h2 y (by simpa using hy)) (by simpa using hi)
    simp [hx, e1, e2]

section
variable {w : World} {g cap n k : Nat} {cur : Array Value}
theorem src_take (hh : w.heap[g]? = some (.cells cur 35 (0, 0))) (hs : n * 7 ≤ cur.size) (hk : k ≤ n) (c : Nat) : SrcC w (.slice (some ⟨g, 0, none⟩) k c) k 7 ((cur.toList.take (n * 7)).take (k * 7)) := by
  refine .inr ⟨g, 0, c, rfl, ?_, fun j y hy => ?_⟩
  · rw [List.length_take, List.length_take, Array.length_toList]; omega
  · rw [List.getElem?_take] at hy
    split at hy
    · rw [List.getElem?_take] at hy
      split at hy
      · rw [cell_of_row w g _ cur _ (0, 0) hh, Nat.zero_add]; simpa using hy
      · cases hy
    · cases hy
theorem src_drop (hh : w.heap[g]? = some (.cells cur 35 (0, 0))) (hs : n * 7 ≤ cur.size) (hk : k ≤ n) (c : Nat) : SrcC w (.slice (some ⟨g, k * 7, none⟩) (n - k) c) (n - k) 7 ((cur.toList.take (n * 7)).drop (k * 7)) := by
  refine .inr ⟨g, k * 7, c, rfl, ?_, fun j y hy => ?_⟩
  · rw [List.length_drop, List.length_take, Array.length_toList, Nat.sub_mul]; omega
  · rw [List.getElem?_drop, List.getElem?_take] at hy
    split at hy
    · rw [cell_of_row w g _ cur _ (0, 0) hh]; simpa using hy
    · cases hy
theorem src_end (w : World) (g n : Nat) (cur : Array Value) (c : Nat) : SrcC w (.slice (some ⟨g, 0, none⟩) 0 c) 0 7 ((cur.toList.take (n * 7)).drop (n * 7)) := by
  refine .inr ⟨g, 0, c, rfl, ?_, fun j y hy => ?_⟩
  · rw [List.length_drop, List.length_take]; omega
  · rw [List.drop_of_length_le (by rw [List.length_take]; omega)] at hy; cases hy
end
/-- The boxes with one more are the account's. -/
theorem create_end {wl w3 : World} {S0 : Nat → Prop} {ga k m : Nat} {A : AccD} {cells xs : List Value} {V : Value} {na : Option Addr} {nn nc : Nat} {nm : List Int} {v : Int} (hA : AccP wl S0 ga A) (hSl : ∀ k, S0 k → k < wl.heap.size) (hb : Below wl.heap.size wl w3) (hel : EL 7 BoxQE wl A.boxes S0 cells) (hro : RO wl Any (.slice na nn nc) nm) (hv : I64 v)
    (hrow : w3.ownsRow wl.heap.size 35 7 V m xs) (hm : m = A.boxes.length + 1) (hxs : xs = cells.take (k * 7) ++ [.slice na nn nc, .int .i64 v, .int .i64 1, .int .i64 0, .slice none 0 0, .slice none 0 0, .int .i64 0] ++ cells.drop (k * 7)) (hk : k ≤ A.boxes.length) :
    AccP (w3.setCell ⟨ga, 1, none⟩ V) (fun j => S0 j ∨ wl.heap.size ≤ j) ga ⟨A.valid, A.boxes.take k ++ ⟨nm, v, 1, 0, [], [], 0⟩ :: A.boxes.drop k, A.seen⟩ := by
  have hl : (A.boxes.take k ++ (⟨nm, v, 1, 0, [], [], 0⟩ : BoxD) :: A.boxes.drop k).length = m := by rw [hm, List.length_append, List.length_cons, List.length_take, List.length_drop]; omega
  subst hxs
  rw [← hl] at hrow
  have he := el_mid k (el_oth hel (fun k _ hk => hb.block k hk) (stay_below hb) (stay_below hb)) (bare_el (w := w3) (v := v) (n := 1) (ro_oth hro (stay_below hb)) hv ⟨by decide, by decide⟩)
  exact hA.putBoxes hb (boxesq_row hrow he hSl) (fun h => h.elim hA.1 (fun h => by have := hA.lt; omega)) (fun k h => h)

end Go.Proofs.YtmonloebkdpahaaDoor

/- A reply that is laid behind an account that turned. -/
namespace Go.Proofs.YtmonloebkdpahaaDoor
open Go.RowKit
set_option linter.unusedVariables false
set_option linter.unusedSimpArgs false

/-- A reply that is laid above all that was there; what turned ahead of it. -/
theorem rep_turnA {w w1 : World} {S : Nat → Prop} {ga r : Nat} {d0 d1 d2 d3 d4 d5 d6 d7 d8 d9 : Value} (hR : w1.heap[r]? = some (.cells #[d0, d1, d2, d3, d4, d5, d6, d7, d8, d9] 37 (0, 0))) (hr : w.heap.size ≤ r) (ht : TurnsA w w1 S ga) (a : AccD) (S' : Nat → Prop) (hp : AccP w1 S' ga a) (hg : ga < w.heap.size) (hS : ¬ S' r) (c n : Int) (hc : I64 c ∧ I64 n) :
    let w2 := ((((((((((w1.setCell ⟨r, 0, none⟩ (.int .i64 c)).setCell ⟨r, 1, none⟩ (.int .i64 n)).setCell ⟨r, 2, none⟩ (.slice none 0 0)).setCell ⟨r, 3, none⟩ (.int .i64 0)).setCell ⟨r, 4, none⟩ (.int .i64 0)).setCell ⟨r, 5, none⟩ (.int .i64 0)).setCell ⟨r, 6, none⟩ (.slice none 0 0)).setCell ⟨r, 7, none⟩ (.slice none 0 0)).setCell ⟨r, 8, none⟩ (.int .i64 0)).setCell ⟨r, 9, none⟩ (.slice none 0 0))
    w2.heap[r]? = some (.cells #[.int .i64 c, .int .i64 n, .slice none 0 0, .int .i64 0, .int .i64 0, .int .i64 0, .slice none 0 0, .slice none 0 0, .int .i64 0, .slice none 0 0] 37 (0, 0)) ∧ TurnsA w w2 S ga ∧ AccP w2 S' ga a ∧ RepC w2 (.agg #[.int .i64 c, .int .i64 n, .slice none 0 0, .int .i64 0, .int .i64 0, .int .i64 0, .slice none 0 0, .slice none 0 0, .int .i64 0, .slice none 0 0]) (codeR c n) := by
  intro w2
  have hoth : ∀ k, k ≠ r → w2.heap[k]? = w1.heap[k]? := fun k hk => by
    show ((((((((((w1.setCell ⟨r, 0, none⟩ (.int .i64 c)).setCell ⟨r, 1, none⟩ (.int .i64 n)).setCell ⟨r, 2, none⟩ (.slice none 0 0)).setCell ⟨r, 3, none⟩ (.int .i64 0)).setCell ⟨r, 4, none⟩ (.int .i64 0)).setCell ⟨r, 5, none⟩ (.int .i64 0)).setCell ⟨r, 6, none⟩ (.slice none 0 0)).setCell ⟨r, 7, none⟩ (.slice none 0 0)).setCell ⟨r, 8, none⟩ (.int .i64 0)).setCell ⟨r, 9, none⟩ (.slice none 0 0)).heap[k]? = _
    rw [Below.heap_setCell _ _ _ _ (show k ≠ r from hk), Below.heap_setCell _ _ _ _ (show k ≠ r from hk), Below.heap_setCell _ _ _ _ (show k ≠ r from hk), Below.heap_setCell _ _ _ _ (show k ≠ r from hk), Below.heap_setCell _ _ _ _ (show k ≠ r from hk), Below.heap_setCell _ _ _ _ (show k ≠ r from hk), Below.heap_setCell _ _ _ _ (show k ≠ r from hk), Below.heap_setCell _ _ _ _ (show k ≠ r from hk), Below.heap_setCell _ _ _ _ (show k ≠ r from hk), Below.heap_setCell _ _ _ _ (show k ≠ r from hk)]
  have hsz : w2.heap.size = w1.heap.size := by show ((((((((((w1.setCell ⟨r, 0, none⟩ (.int .i64 c)).setCell ⟨r, 1, none⟩ (.int .i64 n)).setCell ⟨r, 2, none⟩ (.slice none 0 0)).setCell ⟨r, 3, none⟩ (.int .i64 0)).setCell ⟨r, 4, none⟩ (.int .i64 0)).setCell ⟨r, 5, none⟩ (.int .i64 0)).setCell ⟨r, 6, none⟩ (.slice none 0 0)).setCell ⟨r, 7, none⟩ (.slice none 0 0)).setCell ⟨r, 8, none⟩ (.int .i64 0)).setCell ⟨r, 9, none⟩ (.slice none 0 0)).heap.size = _; simp only [box_size]
  have hos : w2.os = w1.os := by show ((((((((((w1.setCell ⟨r, 0, none⟩ (.int .i64 c)).setCell ⟨r, 1, none⟩ (.int .i64 n)).setCell ⟨r, 2, none⟩ (.slice none 0 0)).setCell ⟨r, 3, none⟩ (.int .i64 0)).setCell ⟨r, 4, none⟩ (.int .i64 0)).setCell ⟨r, 5, none⟩ (.int .i64 0)).setCell ⟨r, 6, none⟩ (.slice none 0 0)).setCell ⟨r, 7, none⟩ (.slice none 0 0)).setCell ⟨r, 8, none⟩ (.int .i64 0)).setCell ⟨r, 9, none⟩ (.slice none 0 0)).os = _; simp only [set_os]
  have htape : w2.tape = w1.tape := by show ((((((((((w1.setCell ⟨r, 0, none⟩ (.int .i64 c)).setCell ⟨r, 1, none⟩ (.int .i64 n)).setCell ⟨r, 2, none⟩ (.slice none 0 0)).setCell ⟨r, 3, none⟩ (.int .i64 0)).setCell ⟨r, 4, none⟩ (.int .i64 0)).setCell ⟨r, 5, none⟩ (.int .i64 0)).setCell ⟨r, 6, none⟩ (.slice none 0 0)).setCell ⟨r, 7, none⟩ (.slice none 0 0)).setCell ⟨r, 8, none⟩ (.int .i64 0)).setCell ⟨r, 9, none⟩ (.slice none 0 0)).tape = _; simp only [set_tape]
  have houtput : w2.output = w1.output := by show ((((((((((w1.setCell ⟨r, 0, none⟩ (.int .i64 c)).setCell ⟨r, 1, none⟩ (.int .i64 n)).setCell ⟨r, 2, none⟩ (.slice none 0 0)).setCell ⟨r, 3, none⟩ (.int .i64 0)).setCell ⟨r, 4, none⟩ (.int .i64 0)).setCell ⟨r, 5, none⟩ (.int .i64 0)).setCell ⟨r, 6, none⟩ (.slice none 0 0)).setCell ⟨r, 7, none⟩ (.slice none 0 0)).setCell ⟨r, 8, none⟩ (.int .i64 0)).setCell ⟨r, 9, none⟩ (.slice none 0 0)).output = _; simp only [set_output]
  have hT : ∀ t, t ≠ 37 → StayT w1 w2 t := fun t hne k hk => hoth k fun e => by obtain ⟨cs, fz, hh⟩ := hk; rw [e, hR] at hh; cases hh; exact hne rfl
  have hrg : ga ≠ r := by omega
  refine ⟨?_, ⟨by rw [hsz]; exact ht.1, fun k h1 h2 h3 => (hoth k (by omega)).trans (ht.2.1 k h1 h2 h3), ht.2.2.1.trans (hT _ (by decide)), ht.2.2.2.1.trans (hT _ (by decide)), hos.trans ht.2.2.2.2.1, htape.trans ht.2.2.2.2.2.1, houtput.trans ht.2.2.2.2.2.2.1, fun h1 h2 => (show w2.cell? ⟨ga, 2, none⟩ = w1.cell? ⟨ga, 2, none⟩ by unfold World.cell?; rw [hoth ga hrg]).trans (ht.2.2.2.2.2.2.2 h1 h2)⟩, hp.oth (by omega) (hoth ga hrg) (fun k h1 h2 => hoth k fun e => hS (e ▸ h1)) (hT _ (by decide)) (hT _ (by decide)) (hT _ (by decide)), ?_⟩
  · exact (rep_fin (w := { w1 with heap := #[] }) hR (Nat.zero_le _) ⟨rfl, rfl, rfl, Nat.zero_le _, fun k hk => absurd hk (Nat.not_lt_zero _)⟩ c n).1
  · exact ⟨_, _, _, _, rfl, ⟨_, _, _, rfl, bs_nil' _, Rd.nil _, Rd.nil _, i64c0, i64c0, i64c0, i64c0⟩, ⟨rfl, rfl⟩, hc⟩

end Go.Proofs.YtmonloebkdpahaaDoor

/- What l3add of package spec does. -/
namespace Go.Proofs.YtmonloebkdpahaaDoor
open Go.RowKit
set_option maxRecDepth 100000
set_option linter.unusedVariables false
set_option linter.unusedSimpArgs false

theorem tab_addA : (Tryd.f68.body.bind (opsAt 4)).all (fun o => tableB o 22 [0, 2, 3, 4, 5, 7, 8, 9, 10, 11, 12, 14, 13, 1, 6, 15, 16, 17, 18, 19, 20, 21] [13, 14, 15, 17, 18, 21] [12] [19, 22] 0) = true := by kernel_rfl
theorem tab_addB : (Tryd.f68.body.bind (opsAt 4)).all (fun o => tableB o 22 [0, 2, 3, 4, 5, 7, 8, 9, 10, 11, 12, 14, 1, 13, 6, 15, 16, 17, 18, 19, 20, 21] [14, 15, 17, 18, 21] [12, 13] [19, 22] 0) = true := by kernel_rfl
theorem tab_addC : (Tryd.f68.body.bind (opsAt 4)).all (fun o => tableB o 22 [0, 2, 3, 4, 5, 7, 8, 9, 10, 11, 12, 14, 1, 6, 13, 15, 16, 17, 18, 19, 20, 21] [14, 15, 17, 18, 21] [12, 13] [19, 22] 0) = true := by kernel_rfl

theorem own_form {w : World} {B n : Nat} {e : TypeId} {sz : Nat} {v : Value} {xs : List Value} (h : w.ownsRow B e sz v n xs) : ∃ a m c, v = .slice a m c := by
  rcases h.2 with ⟨h, -⟩ | ⟨g, cap, cur, h, -⟩
  · exact ⟨_, _, _, h⟩
  · exact ⟨_, _, _, h⟩
theorem below_row {w0 w w' : World} {row : Option Nat} (h : Below w0.heap.size w0 w) (hg : w.grownBy w' row) (hr : ∀ j, row = some j → w0.heap.size ≤ j) : Below w0.heap.size w0 w' :=
  ⟨hg.os.trans h.os, hg.tape.trans h.tape, hg.output.trans h.output, Nat.le_trans h.size hg.size, fun k hk => (hg.block k (Nat.lt_of_lt_of_le hk h.size) fun e => by have := hr k e.symm; omega).trans (h.block k hk)⟩
theorem ro_row {w w' : World} {S : Nat → Prop} {u v : Value} {l : List Int} {B n : Nat} {e : TypeId} {sz : Nat} {xs : List Value} (h : RO w S u l) (hg : w.grownBy w' v.ownBlock) (hr : w.ownsRow B e sz v n xs) (hne : 5 ≠ e) : RO w' S u l := by
  refine ro_oth h fun k ⟨cs, fz, hk⟩ => hg.block k (lt_of_heap hk) fun e2 => ?_
  rcases hr.2 with ⟨h', -⟩ | ⟨g', cap, cur, h', -, hh, -⟩
  · rw [h'] at e2; cases e2
  · rw [h'] at e2
    cases e2
    rw [hh] at hk
    cases hk
    exact hne rfl
/-- The list that has grown is the box' own. -/
theorem add_end {wb x : World} {S : Nat → Prop} {g o : Nat} {b0 : BoxD} {ms : List MailD} {xm : List Value} {da ta : Option Addr} {dn dc tn tc : Nat} {tx : List Int} {nx fl sq : Int} (hp : BoxP wb S g o b0) (hD : Below wb.heap.size wb x)
    (hm : x.ownsRow wb.heap.size 54 4 (.slice da dn dc) (ms.length + 1) (xm ++ [.int .i64 nx, .int .i64 fl, .int .i64 sq, .slice ta tn tc])) 
    (hx : ∀ i m, ms[i]? = some m → ∃ c, c.length = 4 ∧ MailQE wb c m Any ∧ ∀ j y, c[j]? = some y → xm[i * 4 + j]? = some y) (hxl : xm.length = ms.length * 4)
    (ht : RO x (fun k => wb.heap.size ≤ k) (.slice ta tn tc) tx) (hi : I64 nx ∧ I64 fl ∧ I64 sq) :
    BoxP (x.setCell ⟨g, o + 4, none⟩ (.slice da dn dc)) (fun k => wb.heap.size ≤ k) g o ⟨b0.name, b0.valid, b0.next, b0.seq, ms ++ [⟨nx, fl, sq, tx⟩], b0.gones, b0.lost⟩ ∧ Turns wb (x.setCell ⟨g, o + 4, none⟩ (.slice da dn dc)) (fun k => wb.heap.size ≤ k) g o := by
  have hp' := hp.below hD
  have hq : MailsQ x (fun k => wb.heap.size ≤ k) (.slice da dn dc) (ms ++ [⟨nx, fl, sq, tx⟩]) := by
    refine mq_of hm (by simp) (fun i m h => ?_) (fun k hk => own_ge hm hk)
    by_cases hlt : i < ms.length
    · rw [List.getElem?_append_left hlt] at h
      obtain ⟨c, h1, h2, h3⟩ := hx i m h
      refine ⟨c, h1, mail_oth h2 (stay_below hD), fun j y hy => ?_⟩
      have := h3 j y hy
      rw [List.getElem?_append_left (List.getElem?_eq_some_iff.1 this).1]
      exact this
    · rw [List.getElem?_append_right (by omega)] at h
      have hi0 : i = ms.length := by
        have := (List.getElem?_eq_some_iff.1 h).1
        simp at this
        omega
      subst hi0
      simp only [Nat.sub_self, List.getElem?_cons_zero, Option.some.injEq] at h
      subst h
      refine ⟨[.int .i64 nx, .int .i64 fl, .int .i64 sq, .slice ta tn tc], rfl, ⟨_, rfl, ht.mono fun _ _ => trivial, hi⟩, fun j y hy => ?_⟩
      rw [List.getElem?_append_right (by omega), show ms.length * 4 + j - xm.length = j by omega]
      exact hy
  exact ⟨hp'.setMails hq, (turns_below hD).trans (turns_set (S' := fun k => wb.heap.size ≤ k) hp' (by omega)) (fun k h => .inl h)⟩

set_option maxRecDepth 100000 in
set_option maxHeartbeats 8000000 in
theorem l3add_r (g o : Nat) (b : BoxD) (S : Nat → Prop) (fl : Int) (tv : Value) (tx : List Int) (w : World) (hp : BoxP w S g o b) (hfl : I64 fl) (ht : ∀ w', w.heap.size ≤ w'.heap.size → StayT w w' 5 → Bs w' tv tx) (hlt : tx.length ≤ 2000000) (hml : b.mails.length ≤ 2000000) (hs1 : b.seq < 1000000000) (hn1 : b.next < 1000000000) :
    Calls Tryd.prog 68 #[.pointer (some ⟨g, o, none⟩), .int .i64 fl, tv] w fun e w' => e = .returned (.int .i64 b.next) ∧ Turns w w' S g o ∧ BoxP w' (fun k => w.heap.size ≤ k) g o (addX b fl tx) := by
  have hp0 := hp
  obtain ⟨u0, u1, u2, h0, h1, h2, ⟨i0, i1, i2, i3⟩, c0, c1, c2, c3, c4, c5, c6⟩ := hp.cells
  have hz := hp.open
  have hlg := hp.lt
  have b1 := i1.1
  have b2 := i2.1
  have HP1 : Hid (BoxP (w.setCell ⟨g, o + 3, none⟩ (.int .i64 (b.seq + 1))) S g o _) := hp.setSeq (b.seq + 1) ⟨by omega, by omega⟩
  have HT1 : Hid (Turns w (w.setCell ⟨g, o + 3, none⟩ (.int .i64 (b.seq + 1))) S g o) := turns_set hp (by omega)
  have HIN : Hid (I64 b.next ∧ I64 fl ∧ I64 (b.seq + 1)) := ⟨i1, hfl, by omega, by omega⟩
  obtain ⟨ta0, tn0, tc0, htv⟩ := (ht w (Nat.le_refl _) (StayT.refl _ _)).form3
  subst htv
  have HTO : Hid (Oct tx) := (ht w (Nat.le_refl _) (StayT.refl _ _)).1
  have HT : Hid (∀ w', w.heap.size ≤ w'.heap.size → StayT w w' 5 → Bs w' (.slice ta0 tn0 tc0) tx) := ht
  obtain ⟨i0, hi, hz0, hz1, hz2⟩ := info_parts infoMail
  obtain ⟨j0, hj, hy0, hy1, hy2⟩ := info_parts info5
  have hl1 : b.mails.length ≤ maxLen := by unfold maxLen; omega
  have hl2 : b.mails.length * 48 ≤ 140737488355328 := by omega
  have hl3 : tx.length ≤ maxLen := by unfold maxLen; omega
  have hl4 : tx.length * 1 ≤ 140737488355328 := by omega
  have hl5 : b.mails.length + 1 ≤ maxLen := by unfold maxLen; omega
  have hl6 : (b.mails.length + 1) * 48 ≤ 140737488355328 := by omega
  clear ht h0 h1 h2 hfl i1 i2 i3 hp hp0
  go_enter Tryd.func68, Tryd.ntmps68
  go_upto_region 2 with fail
  clear c0 c1 c2 c3 c4 c5 c6 hz hlg
  generalize w.setCell ⟨g, o + 3, none⟩ (.int .i64 (b.seq + 1)) = w1 at HP1 HT1 ⊢
  obtain ⟨u0, u1, u2, h0, h1, h2, hint, c0, c1, c2, c3, c4, c5, c6⟩ := HP1.out.cells
  simp only at c0 c1 c2 c3 c4 c5 c6
  have hz := HP1.out.open
  have hlg := HP1.out.lt
  have HP2' : Hid (BoxP (w1.setCell ⟨g, o + 2, none⟩ (.int .i64 (b.next + 1))) S g o _) := HP1.out.setNext (b.next + 1) ⟨by omega, by omega⟩
  have HT2' : Hid (Turns w (w1.setCell ⟨g, o + 2, none⟩ (.int .i64 (b.next + 1))) S g o) := HT1.out.trans (turns_set (S' := S) HP1.out (by omega)) (fun k h => .inl h)
  clear h0 h1 h2 hint
  go_upto_region 4 with fail
  clear c0 c1 c2 c3 c4 c5 c6 hz hlg
  generalize w1.setCell ⟨g, o + 2, none⟩ (.int .i64 (b.next + 1)) = w2 at HP2' HT2' ⊢
  clear HP1 HT1
  have HP2 : Hid (BoxP w2.drew S g o ⟨b.name, b.valid, b.next + 1, b.seq + 1, b.mails, b.gones, b.lost⟩) := HP2'.out.below (Below.refl _ _).drew
  have HT2 : Hid (Turns w w2.drew S g o) := HT2'.out.trans (turns_below (Below.refl _ _).drew) (fun k h => .inl h)
  obtain ⟨v0, v1, v2, g0, g1, g2, gi, c0, c1, c2, c3, c4, c5, c6⟩ := HP2.out.cells
  simp only at c0 c1 c2 c3 c4 c5 c6 g0 g1 g2 gi
  have HMS : Hid (MailsQ w2.drew S v1 b.mails) := g1
  obtain ⟨a1, z1, rfl, -⟩ := g1.v.form
  have HS : Hid (∀ w', Below w2.drew.heap.size w2.drew w' → (w'.cell? ⟨g, o + 4, none⟩ = some (.slice a1 b.mails.length z1) ∧ w'.cell? ⟨g, o + 3, none⟩ = some (.int .i64 (b.seq + 1)))) := fun w' h => ⟨cell_later h c4, cell_later h c3⟩
  have HTX : Hid (∀ x, Below w2.drew.heap.size w2.drew x → Bs x (.slice ta0 tn0 tc0) tx) := fun x h => HT.out x (Nat.le_trans HT2.out.1 h.size) (HT2.out.2.2.1.trans (stay_below h))
  have hlg := HP2.out.lt
  clear g0 g1 g2 gi c0 c1 c2 c3 c4 c5 c6 HP2' HT2' HT
  refine wpB_begin3 19 (S := fun w' => (w'.cell? ⟨g, o + 4, none⟩ = some (.slice a1 b.mails.length z1) ∧ w'.cell? ⟨g, o + 3, none⟩ = some (.int .i64 (b.seq + 1)))) (tabB_of (by kernel_rfl) tab_addA) (tabB_of (by kernel_rfl) tab_addB) (tabB_of (by kernel_rfl) tab_addC) (by kernel_rfl) (HS.out _ (Below.refl _ _)) (fun hTb hTb2 hTb3 hHeld => ?_)
  have HTA := hidm' hTb
  have HTB := hidm' hTb2
  have HTC := hidm' hTb3
  clear hTb2 hTb3
  have D0 : Hid (Below w2.drew.heap.size w2.drew w2.drew) := Below.refl _ _
  generalize w2.drew = wb at *
  refine tkb 0 0 26 hTb hHeld ?_
  refine tkb 1 2 28 hTb hHeld ?_
  refine tkb 2 3 29 hTb hHeld ?_
  refine tkb 3 4 30 hTb hHeld ?_
  refine tkb 4 5 31 hTb hHeld ?_
  refine tkb 5 7 33 hTb hHeld ?_
  refine tkb 6 8 34 hTb hHeld ?_
  refine tkb 7 9 35 hTb hHeld ?_
  refine tkb 8 10 36 hTb hHeld ?_
  refine tkb 9 11 37 hTb hHeld ?_
  refine tkb 10 12 38 hTb hHeld ?_
  refine tkb 11 14 40 hTb hHeld ?_
  refine brb 12 [1, 13] (by kernel_rfl) (by decide) (by decide) (by simp) ?_
  refine (AllS.cons [0, 2, 3, 4, 5, 7, 8, 9, 10, 11, 12, 14, 1, 13, 6, 15, 16, 17, 18, 19, 20, 21] rfl (by decide) (by decide) (fun K hK => ?_) (AllS.cons [0, 2, 3, 4, 5, 7, 8, 9, 10, 11, 12, 14, 13, 1, 6, 15, 16, 17, 18, 19, 20, 21] rfl (by decide) (by decide) (fun K hK => ?_) AllS.nil))
  · have hTb := HTB.out
    go_simp
    have AB2 : Below wb.heap.size wb (wb.alloc (.cells #[] 54)) := (Below.refl _ _).alloc (Nat.le_refl _) _
    have D2 : Hid (Below wb.heap.size wb (wb.alloc (.cells #[] 54))) := Below.step D0.out AB2
    have hN2 : wb.heap.size ≤ (wb.alloc (.cells #[] 54)).heap.size := D2.out.size
    have Fe12 : Hid _ := owns_empty wb 54 4 wb.heap.size D0.out.size
    refine hK.out _ _ (HS.out _ D2.out) (fun hHeld => ?_)
    clear hK K AB2
    generalize hw2 : wb.alloc (.cells #[] 54) = x2 at *
    clear hw2
    refine brb 13 [6, 13] (by kernel_rfl) (by decide) (by decide) (by simp) ?_
    refine (AllS.cons [0, 2, 3, 4, 5, 7, 8, 9, 10, 11, 12, 14, 1, 6, 13, 15, 16, 17, 18, 19, 20, 21] rfl (by decide) (by decide) (fun K hK => ?_) (AllS.cons [0, 2, 3, 4, 5, 7, 8, 9, 10, 11, 12, 14, 1, 13, 6, 15, 16, 17, 18, 19, 20, 21] rfl (by decide) (by decide) (fun K hK => ?_) AllS.nil))
    · have hTb := HTC.out
      refine ite_w (by kernel_rfl) (wp_cat (B := wb.heap.size) 32 rfl (.tmp 27) (.tmp 31) rfl Fe12.out (HMS.out.at D2.out) (one_at _) Tryd.underlying32 hi hz0 hz1 hz2 rfl (by omega) rfl rfl hl1 hl2 D2.out.size ?_)
      intro V4 x4 xm hO4 hX4 hG4 hB4
      have HXM : Hid _ := hX4
      have HXL : Hid (xm.length = b.mails.length * 4) := hO4.1
      have hG'4 : x2.grownBy x4 (some (wb.heap.size)) := hG4
      have KE4 := own_ty Fe12.out
      have D4 : Hid (Below wb.heap.size wb x4) := below_gr0 D2.out hG'4 (own_ge Fe12.out rfl)
      have Frm4 : Hid _ := hO4
      obtain ⟨ma, mn, mc, hV4⟩ := own_form hO4
      subst hV4
      refine hK.out _ _ (HS.out _ D4.out) (fun hHeld => ?_)
      clear hK K hG4 hB4 hO4 hX4
      refine clb 14 13 hTb (by decide) rfl rfl (fun K hK => ?_)
      go_simp
      have AB6 : Below x4.heap.size x4 (x4.alloc (.cells #[] 5)) := (Below.refl _ _).alloc (Nat.le_refl _) _
      have D6 : Hid (Below wb.heap.size wb (x4.alloc (.cells #[] 5))) := Below.step D4.out AB6
      have hN6 : wb.heap.size ≤ (x4.alloc (.cells #[] 5)).heap.size := D6.out.size
      have Frm6 : Hid _ := own_below Frm4.out AB6
      have Fe26 : Hid _ := owns_empty x4 5 1 wb.heap.size D4.out.size
      refine hK.out _ _ (HS.out _ D6.out) (fun hHeld => ?_)
      clear hK K AB6
      generalize hw6 : x4.alloc (.cells #[] 5) = x6 at *
      clear hw6
      refine clb 15 15 hTb (by decide) rfl rfl (fun K hK => ?_)
      refine ite_w (by kernel_rfl) (wp_cat (B := wb.heap.size) 41 rfl (.tmp 39) (.tmp 40) rfl Fe26.out (Bs.rd1 (HTX.out _ D6.out)) (one_byte _) Tryd.underlying22 hj hy0 hy1 hy2 rfl (by omega) rfl rfl hl3 hl4 D6.out.size ?_)
      intro V8 x8 xt hO8 hX8 hG8 hB8
      have hG'8 : x6.grownBy x8 (some (x4.heap.size)) := hG8
      have KE8 := own_ty Fe26.out
      have D8 : Hid (Below wb.heap.size wb x8) := below_gr0 D6.out hG'8 (own_ge Fe26.out rfl)
      have Frm8 : Hid _ := own_grT Frm6.out hG'8 KE8 (by decide)
      have hR8 : RO x8 (fun k => wb.heap.size ≤ k) V8 tx := ro_of HTO.out hO8 hX8 (fun g hg => own_ge hO8 hg)
      obtain ⟨ta, tn, tc, hV8⟩ := hR8.bs.form3
      subst hV8
      have Frt8 : Hid (RO x8 (fun k => wb.heap.size ≤ k) (.slice ta tn tc) tx) := hR8
      refine hK.out _ _ (HS.out _ D8.out) (fun hHeld => ?_)
      clear hK K hG8 hB8 hO8 hX8 hR8
      refine tkb 16 16 42 hTb hHeld ?_
      refine clb 17 17 hTb (by decide) rfl rfl (fun K hK => ?_)
      go_simp
      have AB11 : Below x8.heap.size x8 (x8.alloc (.cells #[.int .i64 b.next, .int .i64 fl, .int .i64 (b.seq + 1), .slice ta tn tc] 54)) := (Below.refl _ _).alloc (Nat.le_refl _) _
      have D11 : Hid (Below wb.heap.size wb (x8.alloc (.cells #[.int .i64 b.next, .int .i64 fl, .int .i64 (b.seq + 1), .slice ta tn tc] 54))) := Below.step D8.out AB11
      have hN11 : wb.heap.size ≤ (x8.alloc (.cells #[.int .i64 b.next, .int .i64 fl, .int .i64 (b.seq + 1), .slice ta tn tc] 54)).heap.size := D11.out.size
      have Frm11 : Hid _ := own_below Frm8.out AB11
      have Frt11 : Hid (RO (x8.alloc (.cells #[.int .i64 b.next, .int .i64 fl, .int .i64 (b.seq + 1), .slice ta tn tc] 54)) (fun k => wb.heap.size ≤ k) (.slice ta tn tc) tx) := Frt8.out.below AB11
      have FC : Hid _ := cells_new x8 #[.int .i64 b.next, .int .i64 fl, .int .i64 (b.seq + 1), .slice ta tn tc] 54
      refine hK.out _ _ (HS.out _ D11.out) (fun hHeld => ?_)
      clear hK K AB11
      generalize hw11 : x8.alloc (.cells #[.int .i64 b.next, .int .i64 fl, .int .i64 (b.seq + 1), .slice ta tn tc] 54) = x11 at *
      clear hw11
      refine clb 18 18 hTb (by decide) rfl rfl (fun K hK => ?_)
      refine ite_w (by kernel_rfl) (wp_app1 44 rfl (.tmp 32) (.tmp 43) rfl Frm11.out Tryd.underlying32 hi hz0 hz1 hz2 rfl (by omega) rfl [.int .i64 b.next, .int .i64 fl, .int .i64 (b.seq + 1), .slice ta tn tc] rfl ⟨x8.heap.size, 0, none⟩ 1 rfl FC.out one4' hl5 hl6 D11.out.size ?_)
      intro V13 x13 hO13 hG13 hB13
      obtain ⟨da, dn, dc, hV13⟩ := own_form hO13
      subst hV13
      have D13 : Hid (Below wb.heap.size wb x13) := below_row D11.out hG13 (fun j hj => own_ge Frm11.out hj)
      have Frt13 : Hid (RO x13 (fun k => wb.heap.size ≤ k) (.slice ta tn tc) tx) := ro_row Frt11.out hG13 Frm11.out (by decide)
      have Frm13 : Hid _ := hO13
      refine hK.out _ _ (HS.out _ D13.out) (fun hHeld => ?_)
      clear hK K hG13 hB13 hO13 FC
      refine wpB_next (S' := fun _ => True) 19 22 (by decide) trivial (fun hHeld => ?_)
      refine tkb 19 19 45 hTb hHeld ?_
      refine tkb 20 20 46 hTb hHeld ?_
      refine clb 21 21 hTb (by decide) rfl rfl (fun K hK => ?_)
      have HQ := add_end HP2.out D13.out Frm13.out HXM.out HXL.out Frt13.out HIN.out
      have HP9 : Hid _ := HQ.1
      have HT9 : Hid _ := HQ.2
      clear HQ
      have gc := HP2.out.below D13.out
      obtain ⟨v0, v1, v2, -, -, -, -, k0, k1, k2, k3, k4, k5, k6⟩ := gc.cells
      have gz := gc.open
      have gl := gc.lt
      go_simp
      refine hK.out _ _ trivial (fun hHeld => ?_)
      clear hK K
      refine wpB_end hTb ?_
      go_wp2
      go_ret
      exact ⟨rfl, Turns.trans HT2.out HT9.out (fun k h => .inr (Nat.le_trans HT2.out.1 h)), BoxP.mono HP9.out fun k h => Nat.le_trans HT2.out.1 h⟩
    · have hTb := HTB.out
      go_simp
      have AB15 : Below x2.heap.size x2 (x2.alloc (.cells #[] 5)) := (Below.refl _ _).alloc (Nat.le_refl _) _
      have D15 : Hid (Below wb.heap.size wb (x2.alloc (.cells #[] 5))) := Below.step D2.out AB15
      have hN15 : wb.heap.size ≤ (x2.alloc (.cells #[] 5)).heap.size := D15.out.size
      have Fe115 : Hid _ := own_below Fe12.out AB15
      have Fe215 : Hid _ := owns_empty x2 5 1 wb.heap.size D2.out.size
      refine hK.out _ _ (HS.out _ D15.out) (fun hHeld => ?_)
      clear hK K AB15
      generalize hw15 : x2.alloc (.cells #[] 5) = x15 at *
      clear hw15
      refine clb 14 6 hTb (by decide) rfl rfl (fun K hK => ?_)
      refine ite_w (by kernel_rfl) (wp_cat (B := wb.heap.size) 32 rfl (.tmp 27) (.tmp 31) rfl Fe115.out (HMS.out.at D15.out) (one_at _) Tryd.underlying32 hi hz0 hz1 hz2 rfl (by omega) rfl rfl hl1 hl2 D15.out.size ?_)
      intro V17 x17 xm hO17 hX17 hG17 hB17
      have HXM : Hid _ := hX17
      have HXL : Hid (xm.length = b.mails.length * 4) := hO17.1
      have hG'17 : x15.grownBy x17 (some (wb.heap.size)) := hG17
      have KE17 := own_ty Fe115.out
      have D17 : Hid (Below wb.heap.size wb x17) := below_gr0 D15.out hG'17 (own_ge Fe115.out rfl)
      have Fe217 : Hid _ := own_grT Fe215.out hG'17 KE17 (by decide)
      have Frm17 : Hid _ := hO17
      obtain ⟨ma, mn, mc, hV17⟩ := own_form hO17
      subst hV17
      refine hK.out _ _ (HS.out _ D17.out) (fun hHeld => ?_)
      clear hK K hG17 hB17 hO17 hX17
      refine clb 15 15 hTb (by decide) rfl rfl (fun K hK => ?_)
      refine ite_w (by kernel_rfl) (wp_cat (B := wb.heap.size) 41 rfl (.tmp 39) (.tmp 40) rfl Fe217.out (Bs.rd1 (HTX.out _ D17.out)) (one_byte _) Tryd.underlying22 hj hy0 hy1 hy2 rfl (by omega) rfl rfl hl3 hl4 D17.out.size ?_)
      intro V19 x19 xt hO19 hX19 hG19 hB19
      have hG'19 : x17.grownBy x19 (some (x2.heap.size)) := hG19
      have KE19 := own_ty Fe217.out
      have D19 : Hid (Below wb.heap.size wb x19) := below_gr0 D17.out hG'19 (own_ge Fe217.out rfl)
      have Frm19 : Hid _ := own_grT Frm17.out hG'19 KE19 (by decide)
      have hR19 : RO x19 (fun k => wb.heap.size ≤ k) V19 tx := ro_of HTO.out hO19 hX19 (fun g hg => own_ge hO19 hg)
      obtain ⟨ta, tn, tc, hV19⟩ := hR19.bs.form3
      subst hV19
      have Frt19 : Hid (RO x19 (fun k => wb.heap.size ≤ k) (.slice ta tn tc) tx) := hR19
      refine hK.out _ _ (HS.out _ D19.out) (fun hHeld => ?_)
      clear hK K hG19 hB19 hO19 hX19 hR19
      refine tkb 16 16 42 hTb hHeld ?_
      refine clb 17 17 hTb (by decide) rfl rfl (fun K hK => ?_)
      go_simp
      have AB22 : Below x19.heap.size x19 (x19.alloc (.cells #[.int .i64 b.next, .int .i64 fl, .int .i64 (b.seq + 1), .slice ta tn tc] 54)) := (Below.refl _ _).alloc (Nat.le_refl _) _
      have D22 : Hid (Below wb.heap.size wb (x19.alloc (.cells #[.int .i64 b.next, .int .i64 fl, .int .i64 (b.seq + 1), .slice ta tn tc] 54))) := Below.step D19.out AB22
      have hN22 : wb.heap.size ≤ (x19.alloc (.cells #[.int .i64 b.next, .int .i64 fl, .int .i64 (b.seq + 1), .slice ta tn tc] 54)).heap.size := D22.out.size
      have Frm22 : Hid _ := own_below Frm19.out AB22
      have Frt22 : Hid (RO (x19.alloc (.cells #[.int .i64 b.next, .int .i64 fl, .int .i64 (b.seq + 1), .slice ta tn tc] 54)) (fun k => wb.heap.size ≤ k) (.slice ta tn tc) tx) := Frt19.out.below AB22
      have FC : Hid _ := cells_new x19 #[.int .i64 b.next, .int .i64 fl, .int .i64 (b.seq + 1), .slice ta tn tc] 54
      refine hK.out _ _ (HS.out _ D22.out) (fun hHeld => ?_)
      clear hK K AB22
      generalize hw22 : x19.alloc (.cells #[.int .i64 b.next, .int .i64 fl, .int .i64 (b.seq + 1), .slice ta tn tc] 54) = x22 at *
      clear hw22
      refine clb 18 18 hTb (by decide) rfl rfl (fun K hK => ?_)
      refine ite_w (by kernel_rfl) (wp_app1 44 rfl (.tmp 32) (.tmp 43) rfl Frm22.out Tryd.underlying32 hi hz0 hz1 hz2 rfl (by omega) rfl [.int .i64 b.next, .int .i64 fl, .int .i64 (b.seq + 1), .slice ta tn tc] rfl ⟨x19.heap.size, 0, none⟩ 1 rfl FC.out one4' hl5 hl6 D22.out.size ?_)
      intro V24 x24 hO24 hG24 hB24
      obtain ⟨da, dn, dc, hV24⟩ := own_form hO24
      subst hV24
      have D24 : Hid (Below wb.heap.size wb x24) := below_row D22.out hG24 (fun j hj => own_ge Frm22.out hj)
      have Frt24 : Hid (RO x24 (fun k => wb.heap.size ≤ k) (.slice ta tn tc) tx) := ro_row Frt22.out hG24 Frm22.out (by decide)
      have Frm24 : Hid _ := hO24
      refine hK.out _ _ (HS.out _ D24.out) (fun hHeld => ?_)
      clear hK K hG24 hB24 hO24 FC
      refine wpB_next (S' := fun _ => True) 19 22 (by decide) trivial (fun hHeld => ?_)
      refine tkb 19 19 45 hTb hHeld ?_
      refine tkb 20 20 46 hTb hHeld ?_
      refine clb 21 21 hTb (by decide) rfl rfl (fun K hK => ?_)
      have HQ := add_end HP2.out D24.out Frm24.out HXM.out HXL.out Frt24.out HIN.out
      have HP9 : Hid _ := HQ.1
      have HT9 : Hid _ := HQ.2
      clear HQ
      have gc := HP2.out.below D24.out
      obtain ⟨v0, v1, v2, -, -, -, -, k0, k1, k2, k3, k4, k5, k6⟩ := gc.cells
      have gz := gc.open
      have gl := gc.lt
      go_simp
      refine hK.out _ _ trivial (fun hHeld => ?_)
      clear hK K
      refine wpB_end hTb ?_
      go_wp2
      go_ret
      exact ⟨rfl, Turns.trans HT2.out HT9.out (fun k h => .inr (Nat.le_trans HT2.out.1 h)), BoxP.mono HP9.out fun k h => Nat.le_trans HT2.out.1 h⟩
  · have hTb := HTA.out
    go_simp
    have AB26 : Below wb.heap.size wb (wb.alloc (.cells #[] 5)) := (Below.refl _ _).alloc (Nat.le_refl _) _
    have D26 : Hid (Below wb.heap.size wb (wb.alloc (.cells #[] 5))) := Below.step D0.out AB26
    have hN26 : wb.heap.size ≤ (wb.alloc (.cells #[] 5)).heap.size := D26.out.size
    have Fe226 : Hid _ := owns_empty wb 5 1 wb.heap.size D0.out.size
    refine hK.out _ _ (HS.out _ D26.out) (fun hHeld => ?_)
    clear hK K AB26
    generalize hw26 : wb.alloc (.cells #[] 5) = x26 at *
    clear hw26
    refine clb 13 1 hTb (by decide) rfl rfl (fun K hK => ?_)
    go_simp
    have AB28 : Below x26.heap.size x26 (x26.alloc (.cells #[] 54)) := (Below.refl _ _).alloc (Nat.le_refl _) _
    have D28 : Hid (Below wb.heap.size wb (x26.alloc (.cells #[] 54))) := Below.step D26.out AB28
    have hN28 : wb.heap.size ≤ (x26.alloc (.cells #[] 54)).heap.size := D28.out.size
    have Fe228 : Hid _ := own_below Fe226.out AB28
    have Fe128 : Hid _ := owns_empty x26 54 4 wb.heap.size D26.out.size
    refine hK.out _ _ (HS.out _ D28.out) (fun hHeld => ?_)
    clear hK K AB28
    generalize hw28 : x26.alloc (.cells #[] 54) = x28 at *
    clear hw28
    refine clb 14 6 hTb (by decide) rfl rfl (fun K hK => ?_)
    refine ite_w (by kernel_rfl) (wp_cat (B := wb.heap.size) 32 rfl (.tmp 27) (.tmp 31) rfl Fe128.out (HMS.out.at D28.out) (one_at _) Tryd.underlying32 hi hz0 hz1 hz2 rfl (by omega) rfl rfl hl1 hl2 D28.out.size ?_)
    intro V30 x30 xm hO30 hX30 hG30 hB30
    have HXM : Hid _ := hX30
    have HXL : Hid (xm.length = b.mails.length * 4) := hO30.1
    have hG'30 : x28.grownBy x30 (some (x26.heap.size)) := hG30
    have KE30 := own_ty Fe128.out
    have D30 : Hid (Below wb.heap.size wb x30) := below_gr0 D28.out hG'30 (own_ge Fe128.out rfl)
    have Fe230 : Hid _ := own_grT Fe228.out hG'30 KE30 (by decide)
    have Frm30 : Hid _ := hO30
    obtain ⟨ma, mn, mc, hV30⟩ := own_form hO30
    subst hV30
    refine hK.out _ _ (HS.out _ D30.out) (fun hHeld => ?_)
    clear hK K hG30 hB30 hO30 hX30
    refine clb 15 15 hTb (by decide) rfl rfl (fun K hK => ?_)
    refine ite_w (by kernel_rfl) (wp_cat (B := wb.heap.size) 41 rfl (.tmp 39) (.tmp 40) rfl Fe230.out (Bs.rd1 (HTX.out _ D30.out)) (one_byte _) Tryd.underlying22 hj hy0 hy1 hy2 rfl (by omega) rfl rfl hl3 hl4 D30.out.size ?_)
    intro V32 x32 xt hO32 hX32 hG32 hB32
    have hG'32 : x30.grownBy x32 (some (wb.heap.size)) := hG32
    have KE32 := own_ty Fe230.out
    have D32 : Hid (Below wb.heap.size wb x32) := below_gr0 D30.out hG'32 (own_ge Fe230.out rfl)
    have Frm32 : Hid _ := own_grT Frm30.out hG'32 KE32 (by decide)
    have hR32 : RO x32 (fun k => wb.heap.size ≤ k) V32 tx := ro_of HTO.out hO32 hX32 (fun g hg => own_ge hO32 hg)
    obtain ⟨ta, tn, tc, hV32⟩ := hR32.bs.form3
    subst hV32
    have Frt32 : Hid (RO x32 (fun k => wb.heap.size ≤ k) (.slice ta tn tc) tx) := hR32
    refine hK.out _ _ (HS.out _ D32.out) (fun hHeld => ?_)
    clear hK K hG32 hB32 hO32 hX32 hR32
    refine tkb 16 16 42 hTb hHeld ?_
    refine clb 17 17 hTb (by decide) rfl rfl (fun K hK => ?_)
    go_simp
    have AB35 : Below x32.heap.size x32 (x32.alloc (.cells #[.int .i64 b.next, .int .i64 fl, .int .i64 (b.seq + 1), .slice ta tn tc] 54)) := (Below.refl _ _).alloc (Nat.le_refl _) _
    have D35 : Hid (Below wb.heap.size wb (x32.alloc (.cells #[.int .i64 b.next, .int .i64 fl, .int .i64 (b.seq + 1), .slice ta tn tc] 54))) := Below.step D32.out AB35
    have hN35 : wb.heap.size ≤ (x32.alloc (.cells #[.int .i64 b.next, .int .i64 fl, .int .i64 (b.seq + 1), .slice ta tn tc] 54)).heap.size := D35.out.size
    have Frm35 : Hid _ := own_below Frm32.out AB35
    have Frt35 : Hid (RO (x32.alloc (.cells #[.int .i64 b.next, .int .i64 fl, .int .i64 (b.seq + 1), .slice ta tn tc] 54)) (fun k => wb.heap.size ≤ k) (.slice ta tn tc) tx) := Frt32.out.below AB35
    have FC : Hid _ := cells_new x32 #[.int .i64 b.next, .int .i64 fl, .int .i64 (b.seq + 1), .slice ta tn tc] 54
    refine hK.out _ _ (HS.out _ D35.out) (fun hHeld => ?_)
    clear hK K AB35
    generalize hw35 : x32.alloc (.cells #[.int .i64 b.next, .int .i64 fl, .int .i64 (b.seq + 1), .slice ta tn tc] 54) = x35 at *
    clear hw35
    refine clb 18 18 hTb (by decide) rfl rfl (fun K hK => ?_)
    refine ite_w (by kernel_rfl) (wp_app1 44 rfl (.tmp 32) (.tmp 43) rfl Frm35.out Tryd.underlying32 hi hz0 hz1 hz2 rfl (by omega) rfl [.int .i64 b.next, .int .i64 fl, .int .i64 (b.seq + 1), .slice ta tn tc] rfl ⟨x32.heap.size, 0, none⟩ 1 rfl FC.out one4' hl5 hl6 D35.out.size ?_)
    intro V37 x37 hO37 hG37 hB37
    obtain ⟨da, dn, dc, hV37⟩ := own_form hO37
    subst hV37
    have D37 : Hid (Below wb.heap.size wb x37) := below_row D35.out hG37 (fun j hj => own_ge Frm35.out hj)
    have Frt37 : Hid (RO x37 (fun k => wb.heap.size ≤ k) (.slice ta tn tc) tx) := ro_row Frt35.out hG37 Frm35.out (by decide)
    have Frm37 : Hid _ := hO37
    refine hK.out _ _ (HS.out _ D37.out) (fun hHeld => ?_)
    clear hK K hG37 hB37 hO37 FC
    refine wpB_next (S' := fun _ => True) 19 22 (by decide) trivial (fun hHeld => ?_)
    refine tkb 19 19 45 hTb hHeld ?_
    refine tkb 20 20 46 hTb hHeld ?_
    refine clb 21 21 hTb (by decide) rfl rfl (fun K hK => ?_)
    have HQ := add_end HP2.out D37.out Frm37.out HXM.out HXL.out Frt37.out HIN.out
    have HP9 : Hid _ := HQ.1
    have HT9 : Hid _ := HQ.2
    clear HQ
    have gc := HP2.out.below D37.out
    obtain ⟨v0, v1, v2, -, -, -, -, k0, k1, k2, k3, k4, k5, k6⟩ := gc.cells
    have gz := gc.open
    have gl := gc.lt
    go_simp
    refine hK.out _ _ trivial (fun hHeld => ?_)
    clear hK K
    refine wpB_end hTb ?_
    go_wp2
    go_ret
    exact ⟨rfl, Turns.trans HT2.out HT9.out (fun k h => .inr (Nat.le_trans HT2.out.1 h)), BoxP.mono HP9.out fun k h => Nat.le_trans HT2.out.1 h⟩

end Go.Proofs.YtmonloebkdpahaaDoor
