/- The proof's texts, part 4. -/
import Derived.Test.YtmonloebkdpahaaDoorPart1
import Derived.Test.YtmonloebkdpahaaDoorPart3
import Derived.Lib.ConvBytes
import Derived.Deep.RegionHeld3
import Derived.Test.YtmonloebkdpahaaDoorPart2
import Derived.Lib.AppendStr

/- What l3name of package spec does. -/
namespace Go.Proofs.YtmonloebkdpahaaDoor
open Go.RowKit
set_option maxRecDepth 100000

set_option maxHeartbeats 400000 in
theorem l3name_any (v : Value) (l : List Int) (w : World) (hv : Bs w v l) :
    Calls Tryd.prog 47 #[v] w fun e w' => e = .returned (.bool (nameB l)) ∧ w' = w := by
  obtain ⟨ho, a, cap, rfl, hlc, hcm, hnil, hcells⟩ := hv
  unfold maxLen at hcm
  by_cases h0 : 1 ≤ l.length
  · by_cases h1 : l.length ≤ 6
    · have HN : Hid (nameB l = allIn 97 122 l) := by simp [Hid, nameB, h0, h1]
      obtain ⟨b, off, rfl, hlb, hc⟩ := hcells (by omega)
      go_enter Tryd.func47, Tryd.ntmps47
      go_wp2
      go_loop [3] (fun i => ∃ k : Nat, k ≤ l.length ∧ i = .int .i64 k ∧ Hid (∀ j, j < k → 97 ≤ l.getD j 0 ∧ l.getD j 0 ≤ 122)) (fun i => l.length - (intOf i).toNat)
      case atStart => exact ⟨0, Nat.zero_le _, rfl, fun j hj => absurd hj (Nat.not_lt_zero _)⟩
      case round =>
        obtain ⟨k, hk, rfl, hA⟩ := hrel
        by_cases hlt : k < l.length
        · have hx := hc k hlt
          have hbx := oct_get ho k
          have HY : Hid (l.getD k 0 = l.getD k 0) := rfl
          generalize hy : l.getD k 0 = x at hx hbx HY
          have HX : Hid (l.getD k 0 = x) := hy
          clear hy HY hc
          by_cases c1 : 97 ≤ x
          · by_cases c2 : x ≤ 122
            · go_wp2
              go_round
              case rel =>
                refine ⟨k + 1, by omega, by go_num, (show Hid _ from fun j hj => ?_)⟩
                by_cases e : j = k
                · subst e; rw [HX.out]; exact ⟨c1, c2⟩
                · exact hA.out j (by omega)
              case measure => simp [intOf]; omega
            · go_wp2
              go_ret
              exact ⟨ret_b (a := false) (by rw [HN.out, allIn_no k hlt (by rw [HX.out]; omega)]), rfl⟩
          · go_wp2
            go_ret
            exact ⟨ret_b (a := false) (by rw [HN.out, allIn_no k hlt (by rw [HX.out]; omega)]), rfl⟩
        · obtain rfl : k = l.length := by omega
          go_wp2
          go_ret
          exact ⟨ret_b (a := true) (by rw [HN.out, allIn_yes hA.out]), rfl⟩
    · have HN : Hid (nameB l = false) := by simp [Hid, nameB, h1]
      go_enter Tryd.func47, Tryd.ntmps47
      go_wp2
      go_ret
      exact ⟨ret_b (a := false) HN.out, rfl⟩
  · have HN : Hid (nameB l = false) := by simp [Hid, nameB, h0]
    go_enter Tryd.func47, Tryd.ntmps47
    go_wp2
    go_ret
    exact ⟨ret_b (a := false) HN.out, rfl⟩

end Go.Proofs.YtmonloebkdpahaaDoor

/- What l4zeroBox, l4replyOk of package spec do. -/
namespace Go.Proofs.YtmonloebkdpahaaDoor
open Go.RowKit
set_option maxRecDepth 100000
set_option linter.unusedVariables false
set_option linter.unusedSimpArgs false

set_option maxRecDepth 100000 in
set_option maxHeartbeats 2000000 in
theorem l4zeroBox_gen (a0 a1 a2 : Option Addr) (n0 nm ng c0 c1 c2 : Nat) (valid next seq lost : Int) (w : World) :
    Calls Tryd.prog 21 #[.agg #[.slice a0 n0 c0, .int .i64 valid, .int .i64 next, .int .i64 seq, .slice a1 nm c1, .slice a2 ng c2, .int .i64 lost]] w fun e w' => e = .returned (.bool (zX n0 valid next seq nm ng lost)) ∧ Below w.heap.size w w' := by
  have HX : Hid (∀ o, Below w.heap.size w (w.alloc o)) := fun o => (Below.refl _ _).alloc (Nat.le_refl _) o
  go_enter Tryd.func21, Tryd.ntmps21
  go_wp2
  all_goals (go_ret; refine ⟨ret_b ?_, HX.out _⟩; clear HX; unfold zX; (try simp only [beq_iff_eq, beq_eq_false_iff_ne, ne_eq] at *); rw [Bool.eq_iff_iff]; simp; omega)
theorem l4zeroBox_any (v : Value) (b : BoxD) (w : World) (hv : BoxV w v b) :
    Calls Tryd.prog 21 #[v] w fun e w' => e = .returned (.bool (zeroX b)) ∧ Below w.heap.size w w' := by
  obtain ⟨u0, u1, u2, rfl, g0, g1, g2, -⟩ := hv
  obtain ⟨a0, c0, rfl⟩ := g0.form
  obtain ⟨a1, c1, rfl, -⟩ := g1.form
  obtain ⟨a2, c2, rfl, -⟩ := g2.form
  exact l4zeroBox_gen _ _ _ _ _ _ _ _ _ _ _ _ _ w

set_option maxRecDepth 100000 in
set_option maxHeartbeats 2000000 in
theorem l4replyOk_gen (v : Value) (x : RepD) (w : World) (hv : RepV w v x)
    (HO : Hid (∀ wi, Below w.heap.size w wi → ∀ u, BoxV wi u x.box → Calls Tryd.prog 48 #[u, .int .i64 1000000] wi fun e w' => e = .returned (.bool (boxB x.box 1000000)) ∧ Below wi.heap.size wi w')) :
    Calls Tryd.prog 17 #[v] w fun e w' => e = .returned (.bool (repB x)) ∧ Below w.heap.size w w' := by
  have H0 : Hid (∀ wi, Below w.heap.size w wi → RepV wi v x) := fun wi h => hv.below h
  obtain ⟨a0, n0, c0, a1, c1, a2, c2, a3, c3, rfl⟩ := hv.form
  have hnl : (x.names.length : Int) ≤ 9223372036854775807 := by
    obtain ⟨a, c, e, h1, h2⟩ := hv.parts.2.1.form
    omega
  clear hv
  have HX : Hid (∀ o, Below w.heap.size w (w.alloc o)) := fun o => (Below.refl _ _).alloc (Nat.le_refl _) o
  by_cases h : (0 ≤ x.code ∧ x.code ≤ 6) ∧ (0 ≤ x.num ∧ x.num ≤ 1000000) ∧ x.names.length ≤ 4
  · have HR : Hid (repB x = (!(x.names.any badN) && (zeroX x.box || boxB x.box 1000000))) := repB_in h
    obtain ⟨⟨h0, h1⟩, ⟨h2, h3⟩, h4⟩ := h
    have h4' : ¬ (4 : Int) < (x.names.length : Int) := by omega
    have hl3 : ∀ w, Calls Tryd.prog 46 #[.int .i64 x.num] w fun e w' => e = .returned (.bool true) ∧ w' = w := fun w => by
      have h := l3seq_any x.num w
      rwa [show inB x.num 0 1000000 = true by simp [inB]; omega] at h
    have HK0 : Hid ((w.alloc (.cells #[.int .i64 x.code, .int .i64 x.num, .slice a0 n0 c0, .int .i64 x.box.valid, .int .i64 x.box.next, .int .i64 x.box.seq, .slice a1 x.box.mails.length c1, .slice a2 x.box.gones.length c2, .int .i64 x.box.lost, .slice a3 x.names.length c3] 37)).heap[w.heap.size]? = some (.cells #[.int .i64 x.code, .int .i64 x.num, .slice a0 n0 c0, .int .i64 x.box.valid, .int .i64 x.box.next, .int .i64 x.box.seq, .slice a1 x.box.mails.length c1, .slice a2 x.box.gones.length c2, .int .i64 x.box.lost, .slice a3 x.names.length c3] 37)) := box_new w _
    go_enter Tryd.func17, Tryd.ntmps17
    go_wp2_with (go_at_call 46; refine (hl3 _).mono ?_; rintro e w' ⟨rfl, rfl⟩)
    go_loopw [3] (fun i wr => ∃ k : Nat, k ≤ x.names.length ∧ i = .int .i64 k ∧ Hid (∀ j y, j < k → x.names[j]? = some y → nameB y = true) ∧ Hid (wr.heap[w.heap.size]? = some (.cells #[.int .i64 x.code, .int .i64 x.num, .slice a0 n0 c0, .int .i64 x.box.valid, .int .i64 x.box.next, .int .i64 x.box.seq, .slice a1 x.box.mails.length c1, .slice a2 x.box.gones.length c2, .int .i64 x.box.lost, .slice a3 x.names.length c3] 37)) ∧ Hid (Below w.heap.size w wr)) (fun i _ => x.names.length - (intOf i).toNat)
    case atStart => exact ⟨0, Nat.zero_le _, rfl, (fun j y hj => absurd hj (Nat.not_lt_zero _)), HK0, HX.out _⟩
    case round =>
      obtain ⟨k, hk, rfl, hA, hK, hB⟩ := hrel
      obtain ⟨f0, f1, f2, f3, f4, f5, f6, f7, f8, f9⟩ := bx10 hK.out
      have hlA := lt_of_heap hK.out
      by_cases hlt : k < x.names.length
      · obtain ⟨y, hy⟩ : ∃ y, x.names[k]? = some y := ⟨x.names[k], List.getElem?_eq_getElem hlt⟩
        obtain ⟨b, off, cap', u, hv', hlb, d0, hu⟩ := NamesV.cell (H0.out wr hB.out).parts.2.1 k y hy
        simp only [Value.slice.injEq, true_and] at hv'
        obtain ⟨rfl, rfl⟩ := hv'
        obtain ⟨ua, un, uc, rfl⟩ := hu.form3
        have hcall := l3name_any _ y wr hu
        have HY : Hid (x.names[k]? = some y) := hy
        clear hy hu
        have hkL : (k : Int) < (x.names.length : Int) := by omega
        cases hq : nameB y with
        | false =>
          rw [hq] at hcall
          have HQ : Hid (nameB y = false) := hq
          clear hq
          go_wp2_with (go_at_call 47; refine hcall.mono ?_; rintro e w' ⟨rfl, rfl⟩)
          go_ret
          exact ⟨ret_b (by rw [HR.out, names_bad HY.out HQ.out]; rfl), hB.out⟩
        | true =>
          rw [hq] at hcall
          have HQ : Hid (nameB y = true) := hq
          clear hq
          go_wp2_with (go_at_call 47; refine hcall.mono ?_; rintro e w' ⟨rfl, rfl⟩)
          go_roundw
          case rel =>
            refine ⟨k + 1, by omega, by go_num, (show Hid _ from fun j z hj hz => ?_), hK, hB⟩
            by_cases e : j = k
            · subst e; rw [HY.out] at hz; cases hz; exact HQ.out
            · exact hA.out j z (by omega) hz
          case measure => simp [intOf]; omega
      · obtain rfl : k = x.names.length := by omega
        have HG : Hid (x.names.any badN = false) := names_good hA.out
        have HZ := l4zeroBox_any _ x.box wr (H0.out _ hB.out).parts.1
        have HB1 : Hid (Below w.heap.size w wr) := hB
        have HK1 : Hid (wr.heap[w.heap.size]? = some (.cells #[.int .i64 x.code, .int .i64 x.num, .slice a0 n0 c0, .int .i64 x.box.valid, .int .i64 x.box.next, .int .i64 x.box.seq, .slice a1 x.box.mails.length c1, .slice a2 x.box.gones.length c2, .int .i64 x.box.lost, .slice a3 x.names.length c3] 37)) := hK
        generalize hzx : zeroX x.box = z at HZ
        have HZX : Hid (zeroX x.box = z) := hzx
        clear hzx
        go_wp2_with fail
        refine HZ.mono ?_
        rintro e w1 ⟨rfl, B⟩
        have X1 := Below.step HB1.out B
        have K1 := box_below B HK1.out
        clear f0 f1 f2 f3 f4 f5 f6 f7 f8 f9 hlA B hA hK hB HZ HB1 HK1
        obtain ⟨f0, f1, f2, f3, f4, f5, f6, f7, f8, f9⟩ := bx10 K1
        have hlA := lt_of_heap K1
        cases z with
        | true =>
          go_wp2
          go_ret
          exact ⟨ret_b (by rw [HR.out, HG.out, HZX.out]; rfl), X1⟩
        | false =>
          go_wp2_with fail
          refine (HO.out _ X1 _ (H0.out _ X1).parts.1).mono ?_
          rintro e w2 ⟨rfl, B⟩
          replace X1 := Below.step X1 B
          clear f0 f1 f2 f3 f4 f5 f6 f7 f8 f9 hlA B K1
          go_wp2
          go_ret
          exact ⟨ret_b (by rw [HR.out, HG.out, HZX.out]; simp), X1⟩
  · have HC : Hid (¬ ((0 ≤ x.code ∧ x.code ≤ 6) ∧ (0 ≤ x.num ∧ x.num ≤ 1000000) ∧ x.names.length ≤ 4)) := h
    clear h H0 HO
    by_cases hn : 0 ≤ x.num ∧ x.num ≤ 1000000
    · have hl3 : ∀ w, Calls Tryd.prog 46 #[.int .i64 x.num] w fun e w' => e = .returned (.bool true) ∧ w' = w := fun w => by
        have h := l3seq_any x.num w
        rwa [show inB x.num 0 1000000 = true by simp [inB]; omega] at h
      by_cases hm : x.names.length ≤ 4
      · have hm' : ¬ (4 : Int) < (x.names.length : Int) := by omega
        by_cases hc : x.code < 0
        · go_enter Tryd.func17, Tryd.ntmps17
          go_wp2
          go_ret
          exact ⟨ret_b (repB_out HC.out), HX.out _⟩
        · have hc6 : 6 < x.code := by
            have h := HC.out
            omega
          go_enter Tryd.func17, Tryd.ntmps17
          go_wp2
          go_ret
          exact ⟨ret_b (repB_out HC.out), HX.out _⟩
      · have hm' : (4 : Int) < (x.names.length : Int) := by omega
        go_enter Tryd.func17, Tryd.ntmps17
        go_wp2_with (go_at_call 46; refine (hl3 _).mono ?_; rintro e w' ⟨rfl, rfl⟩)
        all_goals (go_ret; exact ⟨ret_b (repB_out HC.out), HX.out _⟩)
    · have hl3 : ∀ w, Calls Tryd.prog 46 #[.int .i64 x.num] w fun e w' => e = .returned (.bool false) ∧ w' = w := fun w => by
        have h := l3seq_any x.num w
        rwa [show inB x.num 0 1000000 = false by simp [inB]; omega] at h
      go_enter Tryd.func17, Tryd.ntmps17
      go_wp2_with (go_at_call 46; refine (hl3 _).mono ?_; rintro e w' ⟨rfl, rfl⟩)
      all_goals (go_ret; exact ⟨ret_b (repB_out HC.out), HX.out _⟩)

end Go.Proofs.YtmonloebkdpahaaDoor

/- Rows of bytes of the call's own that may have been made of a string: a mark lies behind their last cell. -/
namespace Go.Proofs.YtmonloebkdpahaaDoor
open Go.RowKit
set_option linter.unusedVariables false

/-- The slice value v lies at the head of block g, whose first cells are the bytes l; what is marked in the block lies behind its cells, or there is none. -/
def OwnQ (w : World) (g : Nat) (v : Value) (l : List Int) : Prop :=
  Oct l ∧ ∃ cap cur fz, v = .slice (some ⟨g, 0, none⟩) l.length cap ∧ w.heap[g]? = some (.cells cur 5 fz) ∧ (fz.2 = 0 ∨ cap ≤ fz.1) ∧ l.length ≤ cap ∧ cap ≤ maxLen ∧ cur.size = cap ∧ cur.toList.take l.length = vals l

theorem OwnQ.oct {w : World} {g : Nat} {v : Value} {l : List Int} (h : OwnQ w g v l) : Oct l := h.1
theorem OwnQ.lt {w : World} {g : Nat} {v : Value} {l : List Int} (h : OwnQ w g v l) : g < w.heap.size := by
  obtain ⟨_, cap, cur, fz, _, hh, _⟩ := h
  exact lt_of_heap hh
theorem OwnQ.form {w : World} {g : Nat} {v : Value} {l : List Int} (h : OwnQ w g v l) : ∃ cap, v = .slice (some ⟨g, 0, none⟩) l.length cap := by
  obtain ⟨_, cap, _, _, hv, _⟩ := h
  exact ⟨cap, hv⟩
theorem OwnQ.holds {w : World} {g : Nat} {v : Value} {l : List Int} (h : OwnQ w g v l) : ∀ j u, (vals l)[j]? = some u → w.cell? ⟨g, j, none⟩ = some u := by
  obtain ⟨_, cap, cur, fz, _, hh, _, _, _, _, ht⟩ := h
  intro j u hu
  rw [cell_of_row w g j cur _ fz hh]
  rw [← ht, List.getElem?_take] at hu
  split at hu
  · simpa using hu
  · cases hu
theorem OwnQ.bs {w : World} {g : Nat} {v : Value} {l : List Int} (h : OwnQ w g v l) : Bs w v l := by
  have hl := h.lt
  have hc := h.holds
  obtain ⟨ho, cap, cur, fz, hv, hh, _, h1, h2, _⟩ := h
  refine ⟨ho, some ⟨g, 0, none⟩, cap, hv, h1, h2, (fun h => by cases h), fun _ => ⟨g, 0, rfl, hl, fun i hi => ?_⟩⟩
  rw [Nat.zero_add]
  exact hc i _ (vals_get l i hi)
/-- The row stays where its block does. -/
theorem OwnQ.frame {w w' : World} {g : Nat} {v : Value} {l : List Int} (h : OwnQ w g v l) (hw : w'.heap[g]? = w.heap[g]?) : OwnQ w' g v l := by
  obtain ⟨ho, cap, cur, fz, hv, hh, r⟩ := h
  exact ⟨ho, cap, cur, fz, hv, hw.trans hh, r⟩
theorem OwnQ.below {w w' : World} {g : Nat} {v : Value} {l : List Int} (h : OwnQ w g v l) (hb : Below w.heap.size w w') : OwnQ w' g v l := h.frame (hb.block g h.lt)
/-- Bytes that lie in another block than g stay. -/
theorem Bs.grown {w w' : World} {g : Nat} {v : Value} {l : List Int} (h : Bs w v l) (hg : w.grownBy w' (some g)) (hn : v.ownBlock ≠ some g) : Bs w' v l := by
  obtain ⟨ho, a, cap, hv, h1, h2, h3, h4⟩ := h
  refine ⟨ho, a, cap, hv, h1, h2, h3, fun hp => ?_⟩
  obtain ⟨b, off, rfl, hb, hc⟩ := h4 hp
  have hne : some b ≠ some g := by rw [hv] at hn; simpa [Value.ownBlock] using hn
  refine ⟨b, off, rfl, Nat.lt_of_lt_of_le hb hg.size, fun i hi => ?_⟩
  rw [World.cell?_of_block (hg.block b hb hne)]
  exact hc i hi

theorem storeQ (P : Program) (g o : Nat) (t : TypeId) (fz : Nat × Nat) : ∀ (vs : List Value) (i : Nat) (cur : Array Value) (w : World), w.heap[g]? = some (.cells cur t fz) → (fz.2 = 0 ∨ o + i + vs.length ≤ fz.1) → o + i + vs.length ≤ cur.size → (∀ v ∈ vs, v.oneCell' = true) →
    (storeCells ⟨g, o, none⟩ vs i).run P w = .ok () (w.setRow g (cur.toList.take (o + i) ++ vs ++ cur.toList.drop (o + i + vs.length)).toArray) := by
  intro vs
  induction vs with
  | nil =>
    intro i cur w hg _ _ _
    have e : cur.toList.take (o + i) ++ [] ++ cur.toList.drop (o + i + 0) = cur.toList := by simp
    show (storeCells ⟨g, o, none⟩ [] i).run P w = _
    simp only [List.length_nil, e, Array.toArray_toList, storeCells]
    rw [setRow_self w g cur t fz hg]
    rfl
  | cons v rest ih =>
    intro i cur w hg hfz hl h1
    simp only [List.length_cons] at hfz hl
    have hc : w.cell? ⟨g, o + i, none⟩ = some (cur[o + i]'(by omega)) := by rw [cell_of_row w g (o + i) cur t fz hg]; simp [show o + i < cur.size by omega]
    have hf : w.frozen? ⟨g, o + i, none⟩ = false := by
      simp only [World.frozen?, hg, Bool.and_eq_false_iff, decide_eq_false_iff_not]
      rcases hfz with h | h
      · right; omega
      · left; omega
    have hs : (store ((⟨g, o, none⟩ : Addr).add i) v).run P w = .ok () (w.setRow g (cur.setIfInBounds (o + i) v)) := by
      rw [Addr.add_lit, run_store P w _ v _ (h1 v (by simp)), hc]
      simp [hf, setCell_eq_setRow w g (o + i) cur t fz v hg]
    have hr := ih (i + 1) (cur.setIfInBounds (o + i) v) (w.setRow g (cur.setIfInBounds (o + i) v)) (setRow_heap w g cur _ t _ hg) (by omega) (by simp; omega) (fun x hx => h1 x (by simp [hx]))
    simp only [storeCells, Sem.run_bind, hs, Result.andThen_ok, hr, setRow_setRow]
    congr 3
    have e := list_seg_step cur.toList (o + i) v rest (by simp; omega)
    simpa [Array.toList_setIfInBounds, Nat.add_assoc] using e

/-- What append does behind such a row. -/
theorem run_appendQ {P : Program} (w : World) (t ty : TypeId) (i : TypeInfo) (ht : P.underlying t = some (.slice 5)) (hi : P.info? 5 = some i) (hz : i.zero = some (.int .u8 0)) (hsize : i.size = 1) (hby : i.bytes = 1)
    (g : Nat) (v : Value) (l : List Int) (hown : OwnQ w g v l) (u : Value) (m : List Int) (hm : Bs w u m) (hlen : l.length + m.length ≤ 140737488355328) :
    ∃ v' w' g', (Builtin.append_ #[t, t] ty #[v, u]).run P w = .ok v' w' ∧ OwnQ w' g' v' (l ++ m) ∧ w.grownBy w' (some g) ∧ (g' = g ∨ w.heap.size ≤ g') := by
  have hold := hown.holds
  obtain ⟨ho, cap, cur, fz, rfl, hh, hfz, h1, h2, h3, h4⟩ := hown
  obtain ⟨hmo, ad, c, rfl, k1, k2, k3, k4⟩ := hm
  have hlm : (l ++ m).length = l.length + m.length := by simp
  cases ad with
  | none =>
    have : c = 0 := k3 rfl
    subst this
    have hm0 : m = [] := List.eq_nil_of_length_eq_zero (by omega)
    subst hm0
    refine ⟨.slice (some ⟨g, 0, none⟩) l.length cap, w, g, ?_, ⟨by simpa using ho, cap, cur, fz, by simp, hh, hfz, by simpa using h1, h2, h3, by simpa using h4⟩, World.grownBy.refl _ _, .inl rfl⟩
    simp [Builtin.append_, run_underlying ht, sizeOf, typeInfo, hi, Builtin.lenOf, Builtin.firstCells, h1, storeCells]
  | some ad =>
    have hnews : ∀ j u, (vals m)[j]? = some u → w.cell? (ad.add j) = some u := by
      intro j y hy
      have hj : j < m.length := by have := (List.getElem?_eq_some_iff.1 hy).1; simpa [length_vals] using this
      obtain ⟨b, off, had, _, hc⟩ := k4 (by omega)
      cases had
      rw [Addr.add_lit, hc j hj, ← hy, vals_get m j hj]
    by_cases hroom : l.length + m.length ≤ cap
    · have hf := run_firstCells_some (P := P) w i.size m.length ad m.length c (vals m) (by rw [hsize, length_vals, Nat.mul_one]) hnews
      have hst := storeQ P g (l.length * i.size) 5 fz (vals m) 0 cur w hh (by rw [hsize, length_vals]; rcases hfz with h | h <;> omega) (by rw [hsize, length_vals]; omega) (oneCell_vals m)
      rw [hsize] at hf hst
      simp only [Nat.add_zero, Nat.mul_one, length_vals] at hst hf
      refine ⟨.slice (some ⟨g, 0, none⟩) (l.length + m.length) cap, w.setRow g (cur.toList.take l.length ++ vals m ++ cur.toList.drop (l.length + m.length)).toArray, g, ?_, ⟨oct_append ho hmo, cap, _, fz, by rw [hlm], setRow_heap w g cur _ _ _ hh, hfz, by rw [hlm]; exact hroom, h2, ?_, ?_⟩, ⟨rfl, rfl, rfl, by simp, fun k _ hk => setRow_other w g k _ (fun e => hk (by rw [e]))⟩, .inl rfl⟩
      · simp [Builtin.append_, run_underlying ht, sizeOf, typeInfo, hi, hsize, Builtin.lenOf, hroom, hf, Addr.add_lit, hst]
      · simp only [List.size_toArray, List.length_append, List.length_take, List.length_drop, Array.length_toList, length_vals]; omega
      · have hv : (vals l ++ vals m).length = (l ++ m).length := by simp [length_vals]
        show ((cur.toList.take l.length ++ vals m ++ cur.toList.drop (l.length + m.length)).take (l ++ m).length) = _
        rw [h4, vals_append, ← hv]
        exact List.take_left
    · have hr := run_append_grow (P := P) w t ty 5 i (.int .u8 0) ht hi hz ⟨g, 0, none⟩ l.length cap (vals l) (by rw [hsize, length_vals, Nat.mul_one]) (fun j u hu => by rw [Addr.add_lit, Nat.zero_add]; exact hold j u hu) ad m.length c (vals m) (by rw [hsize, length_vals, Nat.mul_one]) hnews (by omega) (by omega) (by rw [hby]; exact growslice_fits (by omega) (by omega))
      have hge := grownCap_ge w (l.length + m.length) cap 5
      have hcm : grownCap w (l.length + m.length) cap 5 ≤ maxLen := grownCap_le_maxLen w (l.length + m.length) cap _ (by unfold maxLen; omega)
      refine ⟨_, _, w.heap.size, hr, ⟨oct_append ho hmo, _, _, (0, 0), by rw [hlm], heap_alloc_new w.drew _, .inl rfl, by rw [hlm]; exact hge, hcm, ?_, ?_⟩, ⟨rfl, rfl, rfl, by simp, fun k hk _ => Below.heap_alloc w.drew _ k hk⟩, .inr (Nat.le_refl _)⟩
      · have hz1 : (Value.int IntKind.u8 0).cells.size = 1 := rfl
        simp only [Array.size_append, List.size_toArray, size_zeroCells, hz1, length_vals]
        omega
      · have hv : (vals l ++ vals m).length = (l ++ m).length := by simp [length_vals]
        simp only [Array.toList_append, List.append_assoc]
        rw [← List.append_assoc, vals_append, ← hv]
        exact List.take_left

theorem wpList_appendQ {P : Program} {w : World} {ops : Array Oper} {rest : List Oper} {o : Oper} {a : Act} {Q : Exit → Act → World → Prop} (hgd : o.guard = none) (s x : Operand) (t : TypeId)
    (ho : o.op = .call { callee := .builtin .append, args := #[s, x], argTypes := #[t, t] })
    (i : TypeInfo) (ht : P.underlying t = some (.slice 5)) (hi : P.info? 5 = some i) (hz : i.zero = some (.int .u8 0)) (hsize : i.size = 1) (hby : i.bytes = 1)
    (g : Nat) (v : Value) (l : List Int) (hs : a.eval s = v) (hown : OwnQ w g v l) (u : Value) (m : List Int) (hx : a.eval x = u) (hm : Bs w u m) (hlen : l.length + m.length ≤ 140737488355328)
    (h : ∀ v' w' g', OwnQ w' g' v' (l ++ m) → w.grownBy w' (some g) → (g' = g ∨ w.heap.size ≤ g') → wpList P ops Q rest (a.put o.dst v') w') : wpList P ops Q (o :: rest) a w := by
  refine wpList_plain hgd fun K hK => ?_
  obtain ⟨v', w', g', hr, h2, h3, h4⟩ := run_appendQ (P := P) w t o.type i ht hi hz hsize hby g v l hown u m hm hlen
  unfold Oper.wp execOp
  simp only [ho, resolve, invoke, builtin, Sem.run_bind, Sem.run_pure, Result.andThen_ok, List.map_toArray, List.map_cons, List.map_nil, hs, hx, hr]
  exact hK _ _ (h v' w' g' h2 h3 h4)

/-- What '[]byte(s)' answers. -/
theorem bytesWorldQ (w : World) (s : List Int) (hs : Oct s) (hl : s.length ≤ 1000000) :
    OwnQ (Lib.bytesWorld w 5 (strOfNums s)) w.heap.size (.slice (some ⟨w.heap.size, 0, none⟩) s.length (grownCap w s.length 0 5)) s ∧ Below w.heap.size w (Lib.bytesWorld w 5 (strOfNums s)) := by
  have hge := grownCap_ge w s.length 0 5
  have hcm : grownCap w s.length 0 5 ≤ maxLen := grownCap_le_maxLen w s.length 0 _ (by unfold maxLen; omega)
  have hsz := strOfNums_size s
  have hcs : (Lib.bytesCells w 5 (strOfNums s)).size = grownCap w s.length 0 5 := by
    have : (strOfNums s).data.size = s.length := hsz
    simp only [Lib.bytesCells, Array.size_append, Array.size_map, Array.size_replicate, this, hsz]
    omega
  refine ⟨⟨hs, _, _, _, rfl, Lib.bytesWorld_at_new w _ _, .inr (Nat.le_of_eq hcs.symm), hge, hcm, hcs, ?_⟩, rfl, rfl, rfl, by rw [Lib.bytesWorld_size]; omega, fun k hk => Lib.bytesWorld_at_old w _ _ k hk⟩
  have e : ((strOfNums s).data.map fun b => Value.int .u8 b.toNat).toList = vals s := (by rw [Array.toList_map]; exact strCells_nums hs)
  have hv : (vals s).length = s.length := length_vals s
  simp only [Lib.bytesCells, Array.toList_append]
  rw [e, ← hv]
  exact List.take_left

end Go.Proofs.YtmonloebkdpahaaDoor

/- What l4word of package spec does behind bytes that may have been made of a string. -/
namespace Go.Proofs.YtmonloebkdpahaaDoor
open Go.RowKit
set_option maxRecDepth 100000
set_option linter.unusedVariables false

theorem grow_trans {w w1 w2 : World} {g g2 : Nat} (h : w.grownBy w1 (some g)) (k : w1.grownBy w2 (some g2)) (hg : g2 = g ∨ w.heap.size ≤ g2) : w.grownBy w2 (some g) :=
  ⟨k.os.trans h.os, k.tape.trans h.tape, k.output.trans h.output, Nat.le_trans h.size k.size, fun b hb hn => (k.block b (Nat.lt_of_lt_of_le hb h.size) (by rcases hg with rfl | hg; exact hn; simp; omega)).trans (h.block b hb hn)⟩
theorem grow_below {w w' : World} (h : Below w.heap.size w w') (g : Option Nat) : w.grownBy w' g := ⟨h.os, h.tape, h.output, h.size, fun b hb _ => h.block b hb⟩

set_option maxRecDepth 100000 in
set_option maxHeartbeats 1000000 in
theorem l4word_q (g : Nat) (v wv : Value) (l wd : List Int) (w : World) (hv : OwnQ w g v l) (hs : Bs w wv wd) (hn : wv.ownBlock ≠ some g) (h0 : 0 < l.length) (hl : l.length ≤ 1000000) (hwl : wd.length ≤ 1000000) :
    Calls Tryd.prog 18 #[v, wv] w fun e w' => ∃ u g', e = .returned u ∧ OwnQ w' g' u (l ++ [32] ++ wd) ∧ w.grownBy w' (some g) ∧ (g' = g ∨ w.heap.size ≤ g') := by
  have HN : Hid (wv.ownBlock ≠ some g) := hn
  obtain ⟨wa, wn, wc, rfl⟩ := hs.form3
  obtain ⟨cap, rfl⟩ := hv.form
  have h0' : (0 : Int) < (l.length : Int) := by omega
  have AB : Below w.heap.size w (w.alloc (.cells #[.int .u8 32] 5)) := (Below.refl _ _).alloc (Nat.le_refl _) _
  have HA : Hid (w.grownBy (w.alloc (.cells #[.int .u8 32] 5)) (some g)) := grow_below AB _
  have HOA : Hid (OwnQ (w.alloc (.cells #[.int .u8 32] 5)) g (.slice (some ⟨g, 0, none⟩) l.length cap) l) := hv.below AB
  have HSA : Hid (Bs (w.alloc (.cells #[.int .u8 32] 5)) (.slice wa wn wc) wd) := hs.below AB
  clear hv hs AB hn
  obtain ⟨i0, hi, hz0, hz1, hz2⟩ := info_parts info5
  go_enter Tryd.func18, Tryd.ntmps18
  go_wp2_with (at_builtin; refine wpList_appendQ rfl (.tmp 8) (.tmp 9) 22 rfl i0 Tryd.underlying22 hi hz0 hz1 hz2 g _ _ rfl HOA.out _ [32] rfl (bs_one _ _ (by omega)) (by simp only [List.length_cons, List.length_nil]; omega) ?_)
  intro v2 w2 g2 hO2 hG2 hg2
  have HO2 : Hid (OwnQ w2 g2 v2 (l ++ [32])) := by simpa [Hid] using hO2
  have HG : Hid (g2 = g ∨ w.heap.size ≤ g2) := by
    rcases hg2 with h | h
    · exact .inl h
    · right; (first | omega | (simp at h; omega))
  have HT2 : Hid (w.grownBy w2 (some g)) := grow_trans HA.out hG2 (.inl rfl)
  have HW : Hid (Bs w2 (.slice wa wn wc) wd) := HSA.out.grown hG2 HN.out
  clear hO2 hG2 hg2 HA HOA HSA
  go_wp2_with (at_builtin; refine wpList_appendQ rfl (.tmp 11) (.tmp 12) 22 rfl i0 Tryd.underlying22 hi hz0 hz1 hz2 g2 _ _ rfl HO2.out _ wd rfl HW.out (by simp only [List.length_append, List.length_cons, List.length_nil]; omega) ?_)
  intro v3 w3 g3 hO3 hG3 hg3
  have HO3 : Hid (OwnQ w3 g3 v3 (l ++ [32] ++ wd)) := by simpa [Hid] using hO3
  have HT3 : Hid (w.grownBy w3 (some g)) := grow_trans HT2.out hG3 HG.out
  have HG3 : Hid (g3 = g ∨ w.heap.size ≤ g3) := by
    have hs2 := HT2.out.size
    rcases hg3 with h | h
    · rw [h]; exact HG.out
    · right; omega
  clear hO3 hG3 hg3 HT2 HO2 HW HG
  go_wp2
  go_ret
  exact ⟨_, _, rfl, HO3.out, HT3.out, HG3.out⟩

end Go.Proofs.YtmonloebkdpahaaDoor

/- What l4digits, l4quoted, l4flags of package spec do. -/
namespace Go.Proofs.YtmonloebkdpahaaDoor
open Go.RowKit
set_option maxRecDepth 100000
set_option linter.unusedVariables false

set_option maxRecDepth 100000 in
set_option maxHeartbeats 1000000 in
theorem l4digits_r (n : Nat) (hn : n ≤ 9999999) (w : World) :
    Calls Tryd.prog 20 #[.int .i64 n] w fun e w' => ∃ u, e = .returned u ∧ OwnB w' w.heap.size u (digB n) ∧ Below w.heap.size w w' := by
  induction n using Nat.strongRecOn generalizing w with
  | ind n ih =>
    obtain ⟨i0, hi, hz0, hz1, hz2⟩ := info_parts info5
    by_cases h : n < 10
    · have h' : (n : Int) < 10 := by omega
      have HO : Hid (OwnB (w.alloc (.cells #[.int .u8 (48 + (n : Int))] 5)) w.heap.size (.slice (some ⟨w.heap.size, 0, none⟩) 1 1) (digB n)) := by rw [digB_small h]; exact ownB_one w _ (Nat.le_refl _) _ (by omega)
      clear ih
      go_enter Tryd.func20, Tryd.ntmps20
      go_wp2
      go_ret
      exact ⟨_, rfl, HO.out, (Below.refl _ _).alloc (Nat.le_refl _) _⟩
    · have h' : ¬ (n : Int) < 10 := by omega
      have hq : (n : Int) / 10 = ((n / 10 : Nat) : Int) := by omega
      have hr : (n : Int) % 10 = ((n % 10 : Nat) : Int) := by omega
      have HD : Hid (digB n = digB (n / 10) ++ [48 + ((n % 10 : Nat) : Int)]) := digB_big h
      have hc := ih (n / 10) (by omega) (by omega) w
      have hlen := digB_len10 (show n / 10 ≤ 9999999 by omega)
      clear ih
      generalize hQ : n / 10 = Q at hq hc HD hlen
      generalize hR : n % 10 = R at hr HD
      have hRb : R < 10 := by omega
      go_enter Tryd.func20, Tryd.ntmps20
      go_wp2_with fail
      refine hc.mono ?_
      rintro e w1 ⟨u1, rfl, O1, B1⟩
      have s1 := B1.size
      have HO : Hid (OwnB w1 w.heap.size u1 (digB Q)) := O1
      have HB : Hid (Below w.heap.size w w1) := B1
      clear O1 B1 hc
      go_wp2_with (at_builtin; refine wpList_append_bytes rfl (.tmp 11) (.tmp 16) 22 rfl i0 Tryd.underlying22 hi hz0 hz1 hz2 w.heap.size _ _ rfl (HO.out.alloc _) _ [48 + (R : Int)] rfl (bs_one _ _ (by omega)) (by simp; omega) (by simp; omega) w (HB.out.alloc s1 _) ?_)
      intro v2 w2 hO2 hB2 _
      have HO2 : Hid (OwnB w2 w.heap.size v2 (digB n)) := by rw [HD.out]; exact hO2
      clear hO2
      go_wp2
      go_ret
      exact ⟨_, rfl, HO2.out, hB2⟩

set_option maxHeartbeats 1000000 in
theorem l4quoted_r (v : Value) (t : List Int) (w : World) (hv : Bs w v t) (ht : t.length ≤ 2000000) :
    Calls Tryd.prog 23 #[v] w fun e w' => ∃ u, e = .returned u ∧ OwnB w' w.heap.size u (quoB t) ∧ Below w.heap.size w w' := by
  have HV : Hid (∀ wi, Below w.heap.size w wi → Bs wi v t) := fun wi h => hv.below h
  obtain ⟨ho, a, cap, rfl, hlc, hcm, -⟩ := hv
  unfold maxLen at hcm
  obtain ⟨i0, hi, hz0, hz1, hz2⟩ := info_parts info5
  have H0 : Hid (OwnB (w.alloc (.cells #[.int .u8 34] 5)) w.heap.size (.slice (some ⟨w.heap.size, 0, none⟩) 1 1) ([34] ++ (t.take 0).flatMap escB)) := by simpa [Hid] using ownB_one w _ (Nat.le_refl _) 34 (by omega)
  have HB : Hid (Below w.heap.size w (w.alloc (.cells #[.int .u8 34] 5))) := (Below.refl _ _).alloc (Nat.le_refl _) _
  go_enter Tryd.func23, Tryd.ntmps23
  go_wp2
  go_loopw [3, 4] (fun b i wr => ∃ k : Nat, k ≤ t.length ∧ i = .int .i64 k ∧ Hid (OwnB wr w.heap.size b ([34] ++ (t.take k).flatMap escB)) ∧ Hid (Below w.heap.size w wr)) (fun _ i _ => t.length - (intOf i).toNat)
  case atStart => exact ⟨0, Nat.zero_le _, rfl, H0, HB⟩
  case round =>
    clear H0 HB
    obtain ⟨k, hk, rfl, hO, hB⟩ := hrel
    have hsz := hB.out.size
    have hfl := flat_len escB 2 (t.take k) (fun x _ => escB_len x)
    have htk : (t.take k).length ≤ 2000000 := by simp; omega
    by_cases hlt : k < t.length
    · obtain ⟨x, hx⟩ : ∃ x, t[k]? = some x := ⟨t[k], List.getElem?_eq_getElem hlt⟩
      have hxo : 0 ≤ x ∧ x ≤ 255 := ho x (List.mem_of_getElem? hx)
      have HST : Hid ((t.take (k + 1)).flatMap escB = (t.take k).flatMap escB ++ escB x) := flat_step escB hx
      obtain ⟨ho', a', cap', hv', -, -, -, hcells⟩ := HV.out wr hB.out
      simp only [Value.slice.injEq, true_and] at hv'
      obtain ⟨rfl, rfl⟩ := hv'
      obtain ⟨b, off, rfl, hlb, hc⟩ := hcells (by omega)
      have d0 := hc k hlt
      rw [List.getD_eq_getElem?_getD, hx, Option.getD_some] at d0
      clear hcells hc ho'
      by_cases he : x = 34 ∨ x = 92
      · have HE : Hid (escB x = [92, x]) := by simp only [Hid, escB, if_pos he]
        rcases he with rfl | rfl
        all_goals
          go_wp2_with (at_builtin; refine wpList_append_bytes rfl (.tmp 24) (.tmp 25) 22 rfl i0 Tryd.underlying22 hi hz0 hz1 hz2 w.heap.size _ _ rfl (hO.out.alloc _) _ [92] rfl (bs_one _ _ (by omega)) (by simp only [List.length_append, List.length_cons, List.length_nil]; omega) (by simp; omega) w (hB.out.alloc hsz _) ?_)
          intro v2 w2 hO2 hB2 _
          have s2 := hB2.size
          have HO2 : Hid (OwnB w2 w.heap.size v2 ([34] ++ (t.take k).flatMap escB ++ [92])) := by simpa [Hid] using hO2
          obtain ⟨_, a', cap', hv', -, -, -, hcells⟩ := HV.out w2 hB2
          simp only [Value.slice.injEq, true_and] at hv'
          obtain ⟨rfl, rfl⟩ := hv'
          obtain ⟨b2, off2, hb2, hlb2, hc2⟩ := hcells (by omega)
          simp only [Option.some.injEq, Addr.mk.injEq, and_true] at hb2
          obtain ⟨rfl, rfl⟩ := hb2
          have d2 := hc2 k hlt
          rw [List.getD_eq_getElem?_getD, hx, Option.getD_some] at d2
          clear hO2 d0 hcells hc2 hO hB hlb
          go_wp2_with (at_builtin; refine wpList_append_bytes rfl (.tmp 27) (.tmp 32) 22 rfl i0 Tryd.underlying22 hi hz0 hz1 hz2 w.heap.size _ _ rfl (HO2.out.alloc _) _ _ rfl (bs_one _ _ (by omega)) (by simp only [List.length_append, List.length_cons, List.length_nil]; omega) (by simp; omega) w (hB2.alloc s2 _) ?_)
          intro v3 w3 hO3 hB3 _
          have HO3 : Hid (OwnB w3 w.heap.size v3 ([34] ++ (t.take (k + 1)).flatMap escB)) := by
            rw [HST.out, HE.out]
            simpa [Hid, show List.range 1 = [0] from rfl, show List.range 2 = [0, 1] from rfl, show List.range 3 = [0, 1, 2] from rfl, show List.range 4 = [0, 1, 2, 3] from rfl] using hO3
          clear hO3
          go_wp2
          go_roundw
          case rel => exact ⟨k + 1, by omega, by go_num, HO3, hB3⟩
          case measure => simp [intOf]; omega
      · have HE : Hid (escB x = [x]) := by simp only [Hid, escB, if_neg he]
        have h34 : x ≠ 34 := by omega
        have h92 : x ≠ 92 := by omega
        have b34 : (x == 34) = false := by simp [h34]
        have b92 : (x == 92) = false := by simp [h92]
        go_wp2_with (at_builtin; refine wpList_append_bytes rfl (.tmp 27) (.tmp 32) 22 rfl i0 Tryd.underlying22 hi hz0 hz1 hz2 w.heap.size _ _ rfl (hO.out.alloc _) _ [x] rfl (bs_one _ _ (by omega)) (by simp only [List.length_append, List.length_cons, List.length_nil]; omega) (by simp; omega) w (hB.out.alloc hsz _) ?_)
        intro v3 w3 hO3 hB3 _
        have HO3 : Hid (OwnB w3 w.heap.size v3 ([34] ++ (t.take (k + 1)).flatMap escB)) := by
          rw [HST.out, HE.out]
          simpa [Hid] using hO3
        clear hO3
        go_wp2
        go_roundw
        case rel => exact ⟨k + 1, by omega, by go_num, HO3, hB3⟩
        case measure => simp [intOf]; omega
    · obtain rfl : k = t.length := by omega
      go_wp2_with (at_builtin; refine wpList_append_bytes rfl (.tmp 34) (.tmp 35) 22 rfl i0 Tryd.underlying22 hi hz0 hz1 hz2 w.heap.size _ _ rfl (hO.out.alloc _) _ [34] rfl (bs_one _ _ (by omega)) (by simp only [List.length_append, List.length_cons, List.length_nil]; omega) (by simp; omega) w (hB.out.alloc hsz _) ?_)
      intro v2 w2 hO2 hB2 _
      have HO2 : Hid (OwnB w2 w.heap.size v2 (quoB t)) := by simpa [Hid, quoB] using hO2
      clear hO2
      go_wp2
      go_ret
      exact ⟨_, rfl, HO2.out, hB2⟩

theorem bit_one : ∀ x : Nat, x ≤ 31 → (bits BinOp.and IntKind.i64 (x : Int) 1 == 1) = decide (x % 2 = 1) := by
  intro x hx
  have h : ∀ x : Fin 32, (bits BinOp.and IntKind.i64 ((x : Nat) : Int) 1 == 1) = decide ((x : Nat) % 2 = 1) := by decide +kernel
  exact h ⟨x, by omega⟩
set_option maxRecDepth 100000 in
set_option maxHeartbeats 1000000 in
theorem l4flags_r (f : Nat) (hf : f ≤ 31) (w : World) :
    Calls Tryd.prog 22 #[.int .i64 f] w fun e w' => ∃ u, e = .returned u ∧ OwnB w' w.heap.size u (flagsB f) ∧ Below w.heap.size w w' := by
  obtain ⟨i0, hi, hz0, hz1, hz2⟩ := info_parts info5
  have H0 : Hid (OwnB (w.alloc (.cells #[.int .u8 40] 5)) w.heap.size (.slice (some ⟨w.heap.size, 0, none⟩) 1 1) ([40] ++ (List.range 0).flatMap (flagAt f))) := by simpa [Hid] using ownB_one w _ (Nat.le_refl _) 40 (by omega)
  have HB : Hid (Below w.heap.size w (w.alloc (.cells #[.int .u8 40] 5))) := (Below.refl _ _).alloc (Nat.le_refl _) _
  go_enter Tryd.func22, Tryd.ntmps22
  go_wp2
  go_loopw [3, 4] (fun b i wr => ∃ k : Nat, k ≤ 5 ∧ i = .int .i64 k ∧ Hid (OwnB wr w.heap.size b ([40] ++ (List.range k).flatMap (flagAt f))) ∧ Hid (Below w.heap.size w wr)) (fun _ i _ => 5 - (intOf i).toNat)
  case atStart => exact ⟨0, Nat.zero_le _, rfl, H0, HB⟩
  case round =>
    clear H0 HB
    obtain ⟨k, hk, rfl, hO, hB⟩ := hrel
    have hsz := hB.out.size
    have hfl := flat_len (flagAt f) 1 (List.range k) (fun x _ => flagAt_len f x)
    simp only [List.length_range] at hfl
    by_cases hlt : k < 5
    · have HST : Hid ((List.range (k + 1)).flatMap (flagAt f) = (List.range k).flatMap (flagAt f) ++ flagAt f k) := range5_step f k
      have hsmall : ∀ P : Nat, 0 < P → f / P ≤ 31 := fun P hp => Nat.le_trans (Nat.div_le_self _ _) hf
      obtain rfl | rfl | rfl | rfl | rfl : k = 0 ∨ k = 1 ∨ k = 2 ∨ k = 3 ∨ k = 4 := by omega
      · have hE : flagAt f 0 = (if f % 2 = 1 then [83] else []) := by simp [flagAt, letB]
        have hb : (bits BinOp.and IntKind.i64 (f : Int) 1 == 1) = decide (f % 2 = 1) := by
          have h := bit_one (f) (hf)
          simpa using h
        by_cases hc : f % 2 = 1
        · rw [if_pos hc] at hE
          rw [decide_eq_true hc] at hb
          have HE : Hid (flagAt f 0 = [83]) := hE
          clear hE
          go_wp2_with (at_builtin; refine wpList_append_bytes rfl (.tmp 15) (.tmp 18) 22 rfl i0 Tryd.underlying22 hi hz0 hz1 hz2 w.heap.size _ _ rfl (hO.out.alloc _) _ [83] rfl (bs_one _ 83 (by omega)) (by simp only [List.length_append, List.length_cons, List.length_nil]; omega) (by simp; omega) w (hB.out.alloc hsz _) ?_)
          intro v3 w3 hO3 hB3 _
          have HO3 : Hid (OwnB w3 w.heap.size v3 ([40] ++ (List.range (0 + 1)).flatMap (flagAt f))) := by
            rw [HST.out, HE.out]
            simpa [Hid, show List.range 1 = [0] from rfl, show List.range 2 = [0, 1] from rfl, show List.range 3 = [0, 1, 2] from rfl, show List.range 4 = [0, 1, 2, 3] from rfl] using hO3
          clear hO3
          go_wp2
          go_roundw
          case rel => exact ⟨0 + 1, by omega, by go_num, HO3, hB3⟩
          case measure => simp [intOf]
        · rw [if_neg hc] at hE
          rw [decide_eq_false hc] at hb
          have HEQ : Hid ([40] ++ (List.range 0).flatMap (flagAt f) = [40] ++ (List.range (0 + 1)).flatMap (flagAt f)) := by rw [Hid, HST.out, hE, List.append_nil]
          clear hE
          go_wp2
          go_roundw
          case rel => exact ⟨0 + 1, by omega, by go_num, by rw [← HEQ.out]; exact hO, hB⟩
          case measure => simp [intOf]
      · have hE : flagAt f 1 = (if f / 2 % 2 = 1 then [65] else []) := by simp [flagAt, letB]
        have hb : (bits BinOp.and IntKind.i64 ((f : Int) / 2) 1 == 1) = decide (f / 2 % 2 = 1) := by
          have h := bit_one (f / 2) (hsmall 2 (by omega))
          simpa using h
        by_cases hc : f / 2 % 2 = 1
        · rw [if_pos hc] at hE
          rw [decide_eq_true hc] at hb
          have HE : Hid (flagAt f 1 = [65]) := hE
          clear hE
          go_wp2_with (at_builtin; refine wpList_append_bytes rfl (.tmp 15) (.tmp 18) 22 rfl i0 Tryd.underlying22 hi hz0 hz1 hz2 w.heap.size _ _ rfl (hO.out.alloc _) _ [65] rfl (bs_one _ 65 (by omega)) (by simp only [List.length_append, List.length_cons, List.length_nil]; omega) (by simp; omega) w (hB.out.alloc hsz _) ?_)
          intro v3 w3 hO3 hB3 _
          have HO3 : Hid (OwnB w3 w.heap.size v3 ([40] ++ (List.range (1 + 1)).flatMap (flagAt f))) := by
            rw [HST.out, HE.out]
            simpa [Hid, show List.range 1 = [0] from rfl, show List.range 2 = [0, 1] from rfl, show List.range 3 = [0, 1, 2] from rfl, show List.range 4 = [0, 1, 2, 3] from rfl] using hO3
          clear hO3
          go_wp2
          go_roundw
          case rel => exact ⟨1 + 1, by omega, by go_num, HO3, hB3⟩
          case measure => simp [intOf]
        · rw [if_neg hc] at hE
          rw [decide_eq_false hc] at hb
          have HEQ : Hid ([40] ++ (List.range 1).flatMap (flagAt f) = [40] ++ (List.range (1 + 1)).flatMap (flagAt f)) := by rw [Hid, HST.out, hE, List.append_nil]
          clear hE
          go_wp2
          go_roundw
          case rel => exact ⟨1 + 1, by omega, by go_num, by rw [← HEQ.out]; exact hO, hB⟩
          case measure => simp [intOf]
      · have hE : flagAt f 2 = (if f / 4 % 2 = 1 then [70] else []) := by simp [flagAt, letB]
        have hb : (bits BinOp.and IntKind.i64 ((f : Int) / 4) 1 == 1) = decide (f / 4 % 2 = 1) := by
          have h := bit_one (f / 4) (hsmall 4 (by omega))
          simpa using h
        by_cases hc : f / 4 % 2 = 1
        · rw [if_pos hc] at hE
          rw [decide_eq_true hc] at hb
          have HE : Hid (flagAt f 2 = [70]) := hE
          clear hE
          go_wp2_with (at_builtin; refine wpList_append_bytes rfl (.tmp 15) (.tmp 18) 22 rfl i0 Tryd.underlying22 hi hz0 hz1 hz2 w.heap.size _ _ rfl (hO.out.alloc _) _ [70] rfl (bs_one _ 70 (by omega)) (by simp only [List.length_append, List.length_cons, List.length_nil]; omega) (by simp; omega) w (hB.out.alloc hsz _) ?_)
          intro v3 w3 hO3 hB3 _
          have HO3 : Hid (OwnB w3 w.heap.size v3 ([40] ++ (List.range (2 + 1)).flatMap (flagAt f))) := by
            rw [HST.out, HE.out]
            simpa [Hid, show List.range 1 = [0] from rfl, show List.range 2 = [0, 1] from rfl, show List.range 3 = [0, 1, 2] from rfl, show List.range 4 = [0, 1, 2, 3] from rfl] using hO3
          clear hO3
          go_wp2
          go_roundw
          case rel => exact ⟨2 + 1, by omega, by go_num, HO3, hB3⟩
          case measure => simp [intOf]
        · rw [if_neg hc] at hE
          rw [decide_eq_false hc] at hb
          have HEQ : Hid ([40] ++ (List.range 2).flatMap (flagAt f) = [40] ++ (List.range (2 + 1)).flatMap (flagAt f)) := by rw [Hid, HST.out, hE, List.append_nil]
          clear hE
          go_wp2
          go_roundw
          case rel => exact ⟨2 + 1, by omega, by go_num, by rw [← HEQ.out]; exact hO, hB⟩
          case measure => simp [intOf]
      · have hE : flagAt f 3 = (if f / 8 % 2 = 1 then [68] else []) := by simp [flagAt, letB]
        have hb : (bits BinOp.and IntKind.i64 ((f : Int) / 8) 1 == 1) = decide (f / 8 % 2 = 1) := by
          have h := bit_one (f / 8) (hsmall 8 (by omega))
          simpa using h
        by_cases hc : f / 8 % 2 = 1
        · rw [if_pos hc] at hE
          rw [decide_eq_true hc] at hb
          have HE : Hid (flagAt f 3 = [68]) := hE
          clear hE
          go_wp2_with (at_builtin; refine wpList_append_bytes rfl (.tmp 15) (.tmp 18) 22 rfl i0 Tryd.underlying22 hi hz0 hz1 hz2 w.heap.size _ _ rfl (hO.out.alloc _) _ [68] rfl (bs_one _ 68 (by omega)) (by simp only [List.length_append, List.length_cons, List.length_nil]; omega) (by simp; omega) w (hB.out.alloc hsz _) ?_)
          intro v3 w3 hO3 hB3 _
          have HO3 : Hid (OwnB w3 w.heap.size v3 ([40] ++ (List.range (3 + 1)).flatMap (flagAt f))) := by
            rw [HST.out, HE.out]
            simpa [Hid, show List.range 1 = [0] from rfl, show List.range 2 = [0, 1] from rfl, show List.range 3 = [0, 1, 2] from rfl, show List.range 4 = [0, 1, 2, 3] from rfl] using hO3
          clear hO3
          go_wp2
          go_roundw
          case rel => exact ⟨3 + 1, by omega, by go_num, HO3, hB3⟩
          case measure => simp [intOf]
        · rw [if_neg hc] at hE
          rw [decide_eq_false hc] at hb
          have HEQ : Hid ([40] ++ (List.range 3).flatMap (flagAt f) = [40] ++ (List.range (3 + 1)).flatMap (flagAt f)) := by rw [Hid, HST.out, hE, List.append_nil]
          clear hE
          go_wp2
          go_roundw
          case rel => exact ⟨3 + 1, by omega, by go_num, by rw [← HEQ.out]; exact hO, hB⟩
          case measure => simp [intOf]
      · have hE : flagAt f 4 = (if f / 16 % 2 = 1 then [82] else []) := by simp [flagAt, letB]
        have hb : (bits BinOp.and IntKind.i64 ((f : Int) / 16) 1 == 1) = decide (f / 16 % 2 = 1) := by
          have h := bit_one (f / 16) (hsmall 16 (by omega))
          simpa using h
        by_cases hc : f / 16 % 2 = 1
        · rw [if_pos hc] at hE
          rw [decide_eq_true hc] at hb
          have HE : Hid (flagAt f 4 = [82]) := hE
          clear hE
          go_wp2_with (at_builtin; refine wpList_append_bytes rfl (.tmp 15) (.tmp 18) 22 rfl i0 Tryd.underlying22 hi hz0 hz1 hz2 w.heap.size _ _ rfl (hO.out.alloc _) _ [82] rfl (bs_one _ 82 (by omega)) (by simp only [List.length_append, List.length_cons, List.length_nil]; omega) (by simp; omega) w (hB.out.alloc hsz _) ?_)
          intro v3 w3 hO3 hB3 _
          have HO3 : Hid (OwnB w3 w.heap.size v3 ([40] ++ (List.range (4 + 1)).flatMap (flagAt f))) := by
            rw [HST.out, HE.out]
            simpa [Hid, show List.range 1 = [0] from rfl, show List.range 2 = [0, 1] from rfl, show List.range 3 = [0, 1, 2] from rfl, show List.range 4 = [0, 1, 2, 3] from rfl] using hO3
          clear hO3
          go_wp2
          go_roundw
          case rel => exact ⟨4 + 1, by omega, by go_num, HO3, hB3⟩
          case measure => simp [intOf]
        · rw [if_neg hc] at hE
          rw [decide_eq_false hc] at hb
          have HEQ : Hid ([40] ++ (List.range 4).flatMap (flagAt f) = [40] ++ (List.range (4 + 1)).flatMap (flagAt f)) := by rw [Hid, HST.out, hE, List.append_nil]
          clear hE
          go_wp2
          go_roundw
          case rel => exact ⟨4 + 1, by omega, by go_num, by rw [← HEQ.out]; exact hO, hB⟩
          case measure => simp [intOf]
    · obtain rfl : k = 5 := by omega
      go_wp2_with (at_builtin; refine wpList_append_bytes rfl (.tmp 20) (.tmp 21) 22 rfl i0 Tryd.underlying22 hi hz0 hz1 hz2 w.heap.size _ _ rfl (hO.out.alloc _) _ _ rfl (bs_one _ _ (by omega)) (by simp only [List.length_append, List.length_cons, List.length_nil]; omega) (by simp; omega) w (hB.out.alloc hsz _) ?_)
      intro v2 w2 hO2 hB2 _
      have HO2 : Hid (OwnB w2 w.heap.size v2 (flagsB f)) := by simpa [Hid, flagsB, show List.range 5 = [0, 1, 2, 3, 4] from rfl] using hO2
      clear hO2
      go_wp2
      go_ret
      exact ⟨_, rfl, HO2.out, hB2⟩

end Go.Proofs.YtmonloebkdpahaaDoor

/- Commands as texts, on lists. -/
namespace Go.Proofs.YtmonloebkdpahaaDoor
open Go.RowKit

def kindW (k : Int) : List Int :=
  if k = 0 then [67, 82, 69, 65, 84, 69] else if k = 1 then [68, 69, 76, 69, 84, 69] else if k = 2 then [65, 80, 80, 69, 78, 68] else if k = 3 then [83, 84, 79, 82, 69] else if k = 4 then [69, 88, 80, 85, 78, 71, 69] else if k = 5 then [70, 69, 84, 67, 72] else if k = 6 then [67, 79, 80, 89] else if k = 7 then [83, 84, 65, 84, 85, 83] else if k = 8 then [67, 72, 65, 78, 71, 69, 83] else [76, 73, 83, 84]
def modeW (m : Int) : List Int := if m = 0 then [73, 83] else if m = 1 then [87, 73, 84, 72] else [87, 73, 84, 72, 79, 85, 84]
def sinceW : List Int := [83, 73, 78, 67, 69]
def awayW : List Int := [65, 87, 65, 89]
/-- What stands behind the kind's word. -/
def toksB (k : Int) (bx tt : List Int) (uid mode fl si : Int) (tx : List Int) : List (List Int) :=
  if k = 9 then [] else if k = 2 then [bx, flagsB fl, quoB tx]
  else if k = 3 then (if 0 < si then [bx, digB uid.toNat, modeW mode, flagsB fl, sinceW, digB si.toNat] else [bx, digB uid.toNat, modeW mode, flagsB fl])
  else if k = 5 then [bx, digB uid.toNat]
  else if k = 6 then (if mode = 1 then [bx, digB uid.toNat, tt, awayW] else [bx, digB uid.toNat, tt])
  else if k = 8 then [bx, digB si.toNat] else [bx]
/-- What CmdText answers. -/
def ctB (k : Int) (bx tt : List Int) (uid mode fl si : Int) (tx : List Int) : List Int := match cmdB k bx tt uid mode fl si tx with
  | true => kindW k ++ (toksB k bx tt uid mode fl si tx).flatMap (fun s => [32] ++ s)
  | false => []

end Go.Proofs.YtmonloebkdpahaaDoor

/- What l4kind of package spec does. -/
namespace Go.Proofs.YtmonloebkdpahaaDoor
open Go.RowKit
set_option linter.unusedVariables false

end Go.Proofs.YtmonloebkdpahaaDoor

/- In a region that draws its order: operations whose guards are not met are passed by together. -/
namespace Go.Proofs.YtmonloebkdpahaaDoor


/-- These operations may come up one behind the other, and none is wanted; ds: the slots that they would fill. -/
def skipsOk (md : Region.Mode) (ops : Array Oper) : List Nat → List Nat → Array Bool → Array Value → Bool
  | [], [], _, _ => true
  | i :: is, d :: ds, l, tm => match ops[i]? with
    | some o => (o.dst == some d) && (Region.free md ops l i && ((Region.ready md ops l).contains i && (!(Region.wanted o (yielded ops tm)) && skipsOk md ops is ds (l.setIfInBounds i true) (tm.setIfInBounds d undef))))
    | none => false
  | _, _, _, _ => false

theorem wpAnyH_skips {P : Program} {md : Region.Mode} {ops : Array Oper} {Q : Exit → Act → World → Prop} {S : World → Prop} {w : World} (hs : Region.noSelect ops = true)
    (hQ : ∀ (d : Nat) v c a w, Q (.panic c) (a.put (some d) v) w → Q (.panic c) a w) (hS : S w) :
    ∀ (is ds : List Nat) (l : Array Bool) (a : Act) (fuel : Nat), skipsOk md ops is ds l a.tmps = true →
      wpAnyH P md ops Q S fuel (is.foldl (fun l i => l.setIfInBounds i true) l) (ds.foldl (fun a d => a.put (some d) undef) a) w → wpAnyH P md ops Q S (fuel + is.length) l a w
  | [], [], _, _, _, _, h => h
  | [], _ :: _, _, _, _, hk, _ => by simp [skipsOk] at hk
  | _ :: _, [], _, _, _, hk, _ => by simp [skipsOk] at hk
  | i :: is, d :: ds, l, a, fuel, hk, h => by
    unfold skipsOk at hk
    split at hk
    · rename_i o ho
      simp only [Bool.and_eq_true, beq_iff_eq, Bool.not_eq_true'] at hk
      obtain ⟨h1, h2, h3, h4, h5⟩ := hk
      refine wpAnyH_take (fuel := fuel + is.length) (i := i) (oi := o) (v := undef) ho hs h2 h3 (fun c a w => by rw [h1]; exact hQ d _ c a w) (Or.inr ⟨h4, rfl⟩) hS ?_
      rw [h1]
      exact wpAnyH_skips hs hQ hS is ds _ _ fuel (by simpa [Act.put] using h5) h
    · cases hk

/-- One operation is taken first; the slot that it fills is named. -/
theorem wpAnyH_takeD {P : Program} {md : Region.Mode} {ops : Array Oper} {Q : Exit → Act → World → Prop} {S : World → Prop} {i : Nat} (d : Nat) {oi : Oper} {v : Value} {fuel : Nat} {listed : Array Bool} {a : Act} {w : World} (hi : ops[i]? = some oi)
    (hd : oi.dst = some d) (hs : Region.noSelect ops = true) (hf : Region.free md ops listed i = true) (hr : (Region.ready md ops listed).contains i = true)
    (hQ : ∀ c a w, Q (.panic c) (a.put (some d) v) w → Q (.panic c) a w) (hy : YieldsIf P ops S oi v a) (hS : S w)
    (h : wpAnyH P md ops Q S fuel (listed.setIfInBounds i true) (a.put (some d) v) w) : wpAnyH P md ops Q S (fuel + 1) listed a w :=
  wpAnyH_take hi hs hf hr (by rw [hd]; exact hQ) hy hS (by rw [hd]; exact h)

/-- The same, its side conditions in one Bool; short, for it is written often. -/
theorem tk {P : Program} {md : Region.Mode} {ops : Array Oper} {Q : Exit → Act → World → Prop} {S : World → Prop} (i d : Nat) {oi : Oper} (v : Value) {fuel : Nat} {listed : Array Bool} {a : Act} {w : World}
    (hy : ∀ w, S w → (execOp a.eval oi).run P w = .ok (.value v) w) (hS : S w) (h : wpAnyH P md ops Q S fuel (listed.setIfInBounds i true) (a.put (some d) v) w)
    (hi : ops[i]? = some oi := by rfl)
    (hc : (Region.noSelect ops && (Region.free md ops listed i && (Region.ready md ops listed).contains i)) = true := by decide +kernel)
    (hg : (oi.dst == some d && Region.wanted oi (yielded ops a.tmps)) = true := by kernel_rfl)
    (hQ : ∀ c a w, Q (.panic c) (a.put (some d) v) w → Q (.panic c) a w := by exact fun _ _ _ h => h) : wpAnyH P md ops Q S (fuel + 1) listed a w := by
  simp only [Bool.and_eq_true, beq_iff_eq] at hc hg
  obtain ⟨h2, h3, h4⟩ := hc
  obtain ⟨h1, h5⟩ := hg
  exact wpAnyH_takeD d hi h1 h2 h3 h4 hQ (Or.inl ⟨h5, hy⟩) hS h
theorem sA {α : Type} (l : List α) (i : Nat) (a : α) : l.toArray.setIfInBounds i a = (l.set i a).toArray := by simp
theorem s0 {α : Type} (x : α) (l : List α) (a : α) : (x :: l).set 0 a = a :: l := rfl
theorem sS {α : Type} (x : α) (l : List α) (i : Nat) (a : α) : (x :: l).set (i + 1) a = x :: l.set i a := rfl
/-- The same, what it yields and the state behind it found by themselves. -/
theorem tq {P : Program} {md : Region.Mode} {ops : Array Oper} {Q : Exit → Act → World → Prop} {S : World → Prop} (i d : Nat) {oi : Oper} {v : Value} {fuel : Nat} {listed : Array Bool} {a a' : Act} {w : World}
    (hS : S w) (h : wpAnyH P md ops Q S fuel (listed.setIfInBounds i true) a' w)
    (hi : ops[i]? = some oi := by rfl)
    (hc : (Region.noSelect ops && (Region.free md ops listed i && (Region.ready md ops listed).contains i)) = true := by decide +kernel)
    (hg : (oi.dst == some d && Region.wanted oi (yielded ops a.tmps)) = true := by kernel_rfl)
    (hy : ∀ w, S w → (execOp a.eval oi).run P w = .ok (.value v) w := by (intro w s; (try dsimp only at s); go_simp <;> with_reducible rfl))
    (ha : a.put (some d) v = a' := by (conv => lhs; simp only [Act.put, sA, s0, sS]))
    (hQ : ∀ c a w, Q (.panic c) (a.put (some d) v) w → Q (.panic c) a w := by exact fun _ _ _ h => h) : wpAnyH P md ops Q S (fuel + 1) listed a w :=
  tk i d v hy hS (by rw [ha]; exact h) hi hc hg hQ

end Go.Proofs.YtmonloebkdpahaaDoor

/- A text that grows word by word: what is kept of it. -/
namespace Go.Proofs.YtmonloebkdpahaaDoor
open Go.RowKit
set_option linter.unusedVariables false

/-- The text v lies in block g, made behind A; all that A had is as it was. -/
def St (A wx : World) (g : Nat) (v : Value) (L : List Int) (n : Nat) : Prop := A.heap.size ≤ g ∧ OwnQ wx g v L ∧ Below A.heap.size A wx ∧ 0 < L.length ∧ L.length ≤ n
theorem St.own {A wx : World} {g : Nat} {v : Value} {L : List Int} {n : Nat} (h : St A wx g v L n) : OwnQ wx g v L := h.2.1
theorem St.old {A wx : World} {g : Nat} {v : Value} {L : List Int} {n : Nat} (h : St A wx g v L n) : Below A.heap.size A wx := h.2.2.1
theorem St.ge {A wx : World} {g : Nat} {v : Value} {L : List Int} {n : Nat} (h : St A wx g v L n) : A.heap.size ≤ g := h.1
theorem St.lt {A wx : World} {g : Nat} {v : Value} {L : List Int} {n : Nat} (h : St A wx g v L n) : g < wx.heap.size := h.2.1.lt
theorem St.below {A wx w' : World} {g : Nat} {v : Value} {L : List Int} {n : Nat} (h : St A wx g v L n) (hb : Below wx.heap.size wx w') : St A w' g v L n := ⟨h.1, h.2.1.below hb, Below.step h.2.2.1 hb, h.2.2.2⟩
theorem below_grownQ {A w w' : World} {g : Nat} (h : Below A.heap.size A w) (hg : w.grownBy w' (some g)) (hge : A.heap.size ≤ g) : Below A.heap.size A w' := h.grown hg h.size (fun k hk => by cases hk; exact hge)
theorem l4word_s (A : World) (g : Nat) (v wv : Value) (L wd : List Int) (n m : Nat) (w : World) (h : St A w g v L n) (hs : Bs w wv wd) (hn : wv.ownBlock ≠ some g) (hm : wd.length ≤ m) (hb : n + m ≤ 999999) :
    Calls Tryd.prog 18 #[v, wv] w fun e w' => ∃ u g', e = .returned u ∧ St A w' g' u (L ++ [32] ++ wd) (n + 1 + m) ∧ w.grownBy w' (some g) ∧ (g' = g ∨ w.heap.size ≤ g') := by
  have h0 := h.2.2.2
  refine (l4word_q g v wv L wd w h.own hs hn h0.1 (by omega) (by omega)).mono ?_
  rintro e w' ⟨u, g', rfl, hO, hG, hg⟩
  refine ⟨u, g', rfl, ⟨?_, hO, below_grownQ h.old hG h.ge, by simp; omega, by simp; omega⟩, hG, hg⟩
  have h1 := h.ge
  have h2 := h.old.size
  rcases hg with rfl | hg <;> omega
/-- A row that was made later than block g lies elsewhere. -/
theorem OwnB.ne {w : World} {B g : Nat} {v : Value} {l : List Int} (h : OwnB w B v l) (hg : g < B) : v.ownBlock ≠ some g := fun e => by have := (h.row.lt g e).1; omega
theorem bs_old_ne {w : World} {v : Value} {l : List Int} {g : Nat} (h : Bs w v l) (hg : w.heap.size ≤ g) (h0 : 0 < l.length) : v.ownBlock ≠ some g := by
  obtain ⟨_, a, cap, rfl, _, _, _, h4⟩ := h
  obtain ⟨b, off, rfl, hb, _⟩ := h4 h0
  simp only [Value.ownBlock, ne_eq, Option.some.injEq]
  omega
/-- The rest of a region under a stronger condition. -/
theorem wpAnyH_more {P : Program} {md : Region.Mode} {ops : Array Oper} {Q : Exit → Act → World → Prop} {S S' : World → Prop} (hS : ∀ w, S' w → S w) :
    ∀ (fuel : Nat) (l : Array Bool) (a : Act) (w : World), wpAnyH P md ops Q S' fuel l a w → wpAnyH P md ops Q S fuel l a w
  | 0, _, _, _, h => h
  | fuel + 1, _, _, _, h => ⟨h.1, fun i hi => wpOp_mono (fun a' w' h' => ⟨hS w' h'.1, wpAnyH_more hS fuel _ a' w' h'.2⟩) (h.2 i hi)⟩
theorem hidm {p : Prop} (h : p) : Hid p := h
theorem wpOrd_more {P : Program} {ops : Array Oper} {Q : Exit → Act → World → Prop} {S : World → Prop} {n p : Nat} {ord : List Nat} {a : Act} {w : World} (S' : World → Prop) (hS : ∀ w, S' w → S w) (h : wpOrd P ops Q S' n ord p a w) : wpOrd P ops Q S n ord p a w := wpAnyH_more hS _ _ _ _ h
theorem St.made {A wx : World} {g : Nat} {v : Value} {L : List Int} {n : Nat} (h : St A wx g v L n) : ∀ k, v.ownBlock = some k → A.heap.size ≤ k := by
  intro k hk
  obtain ⟨cap, rfl⟩ := h.own.form
  have e : g = k := by simpa [Value.ownBlock] using hk
  have := h.ge
  omega
theorem run_convert_str (s : List Int) (w : World) : (convert 9 22 (.string (strOfNums s))).run Tryd.prog w = .ok (.slice (some ⟨w.heap.size, 0, none⟩) s.length (grownCap w s.length 0 5)) (Lib.bytesWorld w 5 (strOfNums s)) := by
  have h := Lib.run_convert_string_bytes (P := Tryd.prog) w 9 22 5 (strOfNums s) Tryd.underlying9 Tryd.underlying22 Tryd.underlying5
  rwa [strOfNums_size] at h

/-- What '[]byte("..")' of a constant answers. -/
theorem lit_conv (W : World) (l : List Int) (hl : Oct l) (hn : l.length ≤ 1000) : ∃ w', (convert 22 22 (.slice (some ⟨W.heap.size, 0, none⟩) l.length l.length)).run Tryd.prog (W.alloc (.cells (vals l).toArray 5)) = .ok (.slice (some ⟨W.heap.size, 0, none⟩) l.length l.length) w' ∧
    OwnQ w' W.heap.size (.slice (some ⟨W.heap.size, 0, none⟩) l.length l.length) l ∧ Below W.heap.size W w' := by
  have hsh : (W.alloc (.cells (vals l).toArray 5)).shape? W.heap.size = some (5, (vals l).toArray.size) := by
    simp [World.shape?, World.alloc, -World.alloc_eq]
  refine ⟨(W.alloc (.cells (vals l).toArray 5)).freeze ⟨W.heap.size, (vals l).toArray.size, none⟩ 1, ?_, ⟨hl, l.length, (vals l).toArray, ((vals l).toArray.size, (vals l).toArray.size + 1), rfl, ?_, .inr (by simp [length_vals]), Nat.le_refl _, by unfold maxLen; omega, by simp [length_vals], by simp [List.take_of_length_le, length_vals]⟩, rfl, rfl, rfl, ?_, fun k hk => ?_⟩
  · simp [convert, run_underlying Tryd.underlying22, run_underlying Tryd.underlying5, markStringish, hsh, Result.andThen]
  · simp [World.freeze, World.alloc, -World.alloc_eq]
    rw [Array.getElem_modify_self]
    simp
  · simp [World.freeze, World.alloc, -World.alloc_eq]
  · have h1 : W.heap.size ≠ k := by omega
    simp [World.freeze, World.alloc, -World.alloc_eq, Array.getElem?_modify, Array.getElem?_push, h1, Ne.symm h1]
theorem modeW_ok (mn : Nat) (h : mn ≤ 2) : (modeW mn).length ≤ 7 ∧ Oct (modeW mn) := by
  have : mn = 0 ∨ mn = 1 ∨ mn = 2 := by omega
  rcases this with rfl | rfl | rfl <;> exact ⟨by decide, by intro x hx; simp [modeW] at hx; omega⟩
theorem modeCell {w : World} {b mn : Nat} (hm : mn ≤ 2) (h : w.heap[b]? = some (.cells #[.string ⟨#[73, 83]⟩, .string ⟨#[87, 73, 84, 72]⟩, .string ⟨#[87, 73, 84, 72, 79, 85, 84]⟩] 9 (0, 0))) : w.cell? ⟨b, mn, none⟩ = some (.string (strOfNums (modeW mn))) := by
  have e := bx3 h
  have : mn = 0 ∨ mn = 1 ∨ mn = 2 := by omega
  rcases this with rfl | rfl | rfl
  · exact e.1
  · exact e.2.1
  · exact e.2.2

end Go.Proofs.YtmonloebkdpahaaDoor

/- A text that grows while blocks beside it stay; strings put behind it. -/
namespace Go.Proofs.YtmonloebkdpahaaDoor
open Go.RowKit
set_option linter.unusedVariables false

/-- The text v grows in block g, behind A; the blocks in K are as they were in w0. -/
def Tx (A w0 : World) (K : Nat → Prop) (wx : World) (g : Nat) (v : Value) (L : List Int) (n : Nat) : Prop :=
  St A wx g v L n ∧ ¬ K g ∧ (∀ b, K b → b < w0.heap.size) ∧ (∀ b, K b → wx.heap[b]? = w0.heap[b]?) ∧ w0.heap.size ≤ wx.heap.size
section
variable {A w0 wx w' : World} {K : Nat → Prop} {g g' n : Nat} {v v' : Value} {L m : List Int}
theorem Tx.st (h : Tx A w0 K wx g v L n) : St A wx g v L n := h.1
theorem Tx.kept (h : Tx A w0 K wx g v L n) {b : Nat} {o : Obj} (hb : K b) (ho : w0.heap[b]? = some o) : wx.heap[b]? = some o := (h.2.2.2.1 b hb).trans ho
theorem Tx.below (h : Tx A w0 K wx g v L n) (hb : Below wx.heap.size wx w') : Tx A w0 K w' g v L n :=
  ⟨h.1.below hb, h.2.1, h.2.2.1, fun b hk => (hb.block b (Nat.lt_of_lt_of_le (h.2.2.1 b hk) h.2.2.2.2)).trans (h.2.2.2.1 b hk), Nat.le_trans h.2.2.2.2 hb.size⟩
theorem Tx.grow (h : Tx A w0 K wx g v L n) (hO : OwnQ w' g' v' (L ++ m)) (hG : wx.grownBy w' (some g)) (hg : g' = g ∨ wx.heap.size ≤ g') : Tx A w0 K w' g' v' (L ++ m) (n + m.length) := by
  obtain ⟨h1, h2, h3, h4, h5⟩ := h
  have hs := h1.old.size
  refine ⟨⟨?_, hO, below_grownQ h1.old hG h1.ge, ?_, ?_⟩, ?_, h3, fun b hk => ?_, Nat.le_trans h5 hG.size⟩
  · have := h1.ge
    rcases hg with rfl | hg <;> omega
  · have := h1.2.2.2.1
    simp only [List.length_append]; omega
  · have := h1.2.2.2.2
    simp only [List.length_append]; omega
  · rcases hg with rfl | hg
    · exact h2
    · intro hk
      have := h3 g' hk
      omega
  · have hne : b ≠ g := fun e => h2 (e ▸ hk)
    exact (hG.block b (Nat.lt_of_lt_of_le (h3 b hk) h5) (by simpa using hne)).trans (h4 b hk)
theorem Tx.of_st (h : St A wx g v L n) (hk : ∀ b, K b → b < wx.heap.size ∧ b ≠ g) : Tx A wx K wx g v L n :=
  ⟨h, fun e => (hk g e).2 rfl, fun b hb => (hk b hb).1, fun _ _ => rfl, Nat.le_refl _⟩
end

/-- What append of a string does behind such a row. -/
theorem run_appendStrQ {P : Program} (w : World) (t u ty : TypeId) (i : TypeInfo) (ht : P.underlying t = some (.slice 5)) (hu : P.underlying u = some .string) (hi : P.info? 5 = some i) (hz : i.zero = some (.int .u8 0)) (hsize : i.size = 1) (hby : i.bytes = 1)
    (g : Nat) (v : Value) (l : List Int) (hown : OwnQ w g v l) (m : List Int) (hm : Oct m) (hlen : l.length + m.length ≤ 140737488355328) :
    ∃ v' w' g', (Builtin.append_ #[t, u] ty #[v, .string (strOfNums m)]).run P w = .ok v' w' ∧ OwnQ w' g' v' (l ++ m) ∧ w.grownBy w' (some g) ∧ (g' = g ∨ w.heap.size ≤ g') := by
  have hold := hown.holds
  obtain ⟨ho, cap, cur, fz, rfl, hh, hfz, h1, h2, h3, h4⟩ := hown
  have hlm : (l ++ m).length = l.length + m.length := by simp
  have hss := strOfNums_size m
  have hsc := strCells_nums hm
  by_cases hroom : l.length + m.length ≤ cap
  · have hf := Lib.run_firstCells_string (P := P) w 1 (strOfNums m)
    have hst := storeQ P g l.length 5 fz (vals m) 0 cur w hh (by rw [length_vals]; rcases hfz with h | h <;> omega) (by rw [length_vals]; omega) (oneCell_vals m)
    simp only [Nat.add_zero, length_vals] at hst
    rw [hss, hsc] at hf
    refine ⟨.slice (some ⟨g, 0, none⟩) (l.length + m.length) cap, w.setRow g (cur.toList.take l.length ++ vals m ++ cur.toList.drop (l.length + m.length)).toArray, g, ?_, ⟨oct_append ho hm, cap, _, fz, by rw [hlm], setRow_heap w g cur _ _ _ hh, hfz, by rw [hlm]; exact hroom, h2, ?_, ?_⟩, ⟨rfl, rfl, rfl, by simp, fun k _ hk => setRow_other w g k _ (fun e => hk (by rw [e]))⟩, .inl rfl⟩
    · simp [Builtin.append_, run_underlying ht, run_underlying hu, sizeOf, typeInfo, hi, hsize, Builtin.lenOf, hss, hroom, hf, Addr.add_lit, hst]
    · simp only [List.size_toArray, List.length_append, List.length_take, List.length_drop, Array.length_toList, length_vals]; omega
    · have hv : (vals l ++ vals m).length = (l ++ m).length := by simp [length_vals]
      show ((cur.toList.take l.length ++ vals m ++ cur.toList.drop (l.length + m.length)).take (l ++ m).length) = _
      rw [h4, vals_append, ← hv]
      exact List.take_left
  · have hr := Lib.run_append_grow_string (P := P) w t u ty 5 i (.int .u8 0) ht hu hi hz ⟨g, 0, none⟩ l.length cap (vals l) (by rw [hsize, length_vals, Nat.mul_one]) (fun j y hy => by rw [Addr.add_lit, Nat.zero_add]; exact hold j y hy) (strOfNums m) (by omega) (by omega) (by rw [hby]; exact growslice_fits (by omega) (by omega))
    rw [hss, hsc] at hr
    have hge := grownCap_ge w (l.length + m.length) cap 5
    have hcm : grownCap w (l.length + m.length) cap 5 ≤ maxLen := grownCap_le_maxLen w (l.length + m.length) cap _ (by unfold maxLen; omega)
    refine ⟨_, _, w.heap.size, hr, ⟨oct_append ho hm, _, _, (0, 0), by rw [hlm], heap_alloc_new w.drew _, .inl rfl, by rw [hlm]; exact hge, hcm, ?_, ?_⟩, ⟨rfl, rfl, rfl, by simp, fun k hk _ => Below.heap_alloc w.drew _ k hk⟩, .inr (Nat.le_refl _)⟩
    · have hz1 : (Value.int IntKind.u8 0).cells.size = 1 := rfl
      simp only [Array.size_append, List.size_toArray, size_zeroCells, hz1, length_vals]
      omega
    · have hv : (vals l ++ vals m).length = (l ++ m).length := by simp [length_vals]
      simp only [Array.toList_append, List.append_assoc]
      rw [← List.append_assoc, vals_append, ← hv]
      exact List.take_left

theorem ite_of {c : Bool} {p q : Prop} (hc : c = true) (h : p) : if c = true then p else q := by rw [if_pos hc]; exact h
/-- An append behind such a text, as an operation of a region that draws its order: of a string, of bytes. -/
theorem wp_appStrQ {P : Program} {w : World} {o : Oper} {a : Act} {K : Act → World → Prop} {Q : Exit → Act → World → Prop} (d : Nat) (hd : o.dst = some d) (s x : Operand) (t u : TypeId)
    (ho : o.op = .call { callee := .builtin .append, args := #[s, x], argTypes := #[t, u] })
    (i : TypeInfo) (ht : P.underlying t = some (.slice 5)) (hu : P.underlying u = some .string) (hi : P.info? 5 = some i) (hz : i.zero = some (.int .u8 0)) (hsize : i.size = 1) (hby : i.bytes = 1)
    (g : Nat) (v : Value) (l : List Int) (hs : a.eval s = v) (hown : OwnQ w g v l) (m : List Int) (hx : a.eval x = .string (strOfNums m)) (hm : Oct m) (hlen : l.length + m.length ≤ 140737488355328)
    (h : ∀ v' w' g', OwnQ w' g' v' (l ++ m) → w.grownBy w' (some g) → (g' = g ∨ w.heap.size ≤ g') → K (a.put (some d) v') w') : o.wp P a w K Q := by
  obtain ⟨v', w', g', hr, h2, h3, h4⟩ := run_appendStrQ (P := P) w t u o.type i ht hu hi hz hsize hby g v l hown m hm hlen
  unfold Oper.wp execOp
  simp only [ho, resolve, invoke, builtin, Sem.run_bind, Sem.run_pure, Result.andThen_ok, List.map_toArray, List.map_cons, List.map_nil, hs, hx, hr]
  have := h v' w' g' h2 h3 h4
  rw [← hd] at this
  exact this
theorem wp_appQ {P : Program} {w : World} {o : Oper} {a : Act} {K : Act → World → Prop} {Q : Exit → Act → World → Prop} (d : Nat) (hd : o.dst = some d) (s x : Operand) (t : TypeId)
    (ho : o.op = .call { callee := .builtin .append, args := #[s, x], argTypes := #[t, t] })
    (i : TypeInfo) (ht : P.underlying t = some (.slice 5)) (hi : P.info? 5 = some i) (hz : i.zero = some (.int .u8 0)) (hsize : i.size = 1) (hby : i.bytes = 1)
    (g : Nat) (v : Value) (l : List Int) (hs : a.eval s = v) (hown : OwnQ w g v l) (u : Value) (m : List Int) (hx : a.eval x = u) (hm : Bs w u m) (hlen : l.length + m.length ≤ 140737488355328)
    (h : ∀ v' w' g', OwnQ w' g' v' (l ++ m) → w.grownBy w' (some g) → (g' = g ∨ w.heap.size ≤ g') → K (a.put (some d) v') w') : o.wp P a w K Q := by
  obtain ⟨v', w', g', hr, h2, h3, h4⟩ := run_appendQ (P := P) w t o.type i ht hi hz hsize hby g v l hown u m hm hlen
  unfold Oper.wp execOp
  simp only [ho, resolve, invoke, builtin, Sem.run_bind, Sem.run_pure, Result.andThen_ok, List.map_toArray, List.map_cons, List.map_nil, hs, hx, hr]
  have := h v' w' g' h2 h3 h4
  rw [← hd] at this
  exact this

theorem tx_le {A w0 wx : World} {K : Nat → Prop} {g n m : Nat} {v : Value} {L : List Int} (h : Tx A w0 K wx g v L n) (hm : n ≤ m) : Tx A w0 K wx g v L m :=
  ⟨⟨h.1.1, h.1.2.1, h.1.2.2.1, h.1.2.2.2.1, Nat.le_trans h.1.2.2.2.2 hm⟩, h.2⟩
theorem bs_lt1 {w : World} {b : Nat} {x : Int} (h : Bs w (.slice (some ⟨b, 0, none⟩) 1 1) [x]) : b < w.heap.size := by
  obtain ⟨_, a, cap, e, _, _, _, h4⟩ := h
  obtain ⟨b', off, ha, hb, _⟩ := h4 (by simp)
  rw [ha] at e
  simp only [Value.slice.injEq, Option.some.injEq, Addr.mk.injEq] at e
  rw [e.1.1]
  exact hb
theorem BoxV.name_bs {w : World} {u0 u1 u2 : Value} {b : BoxD} (h : BoxV w (.agg #[u0, .int .i64 b.valid, .int .i64 b.next, .int .i64 b.seq, u1, u2, .int .i64 b.lost]) b) : Bs w u0 b.name := by
  obtain ⟨p0, p1, p2, e, q, -⟩ := h
  simp only [Value.agg.injEq, Array.mk.injEq, List.cons.injEq, and_true, true_and] at e
  rw [e.1]
  exact q

theorem Tx.back {A w0 w1 wx : World} {K K' : Nat → Prop} {g g' n n' : Nat} {v v' : Value} {L L' : List Int} (h' : Tx A w1 K' wx g' v' L' n') (h : Tx A w0 K w1 g v L n) (hk : ∀ b, K b → K' b) : Tx A w0 K wx g' v' L' n' :=
  ⟨h'.1, fun e => h'.2.1 (hk _ e), h.2.2.1, fun b hb => (h'.2.2.2.1 b (hk b hb)).trans (h.2.2.2.1 b hb), Nat.le_trans h.2.2.2.2 h'.2.2.2.2⟩
theorem BoxV.lists {w : World} {u0 u1 u2 : Value} {b : BoxD} (h : BoxV w (.agg #[u0, .int .i64 b.valid, .int .i64 b.next, .int .i64 b.seq, u1, u2, .int .i64 b.lost]) b) : MailsV w u1 b.mails ∧ GonesV w u2 b.gones := by
  obtain ⟨p0, p1, p2, e, q, q1, q2, -⟩ := h
  simp only [Value.agg.injEq, Array.mk.injEq, List.cons.injEq, and_true, true_and] at e
  rw [e.2.1, e.2.2]
  exact ⟨q1, q2⟩

end Go.Proofs.YtmonloebkdpahaaDoor
