/- The proof's texts, part 2. -/
import Derived.Test.YtifpjdpcmfneaaaDoorPart1
import Derived.Lib.ConvBytes
import Derived.WalkKit
import Derived.Deep.RegionHeld3
import Derived.Lib.AppendIntMem

/- Rows of bytes of the call's own that may have been made of a string: a mark lies behind their last cell. -/
namespace Go.Proofs.YtifpjdpcmfneaaaDoor
open Go.RowKit
set_option linter.unusedVariables false

/-- The slice value v lies at the head of block g, whose first cells are the bytes l; what is marked in the block lies behind its cells, or there is none. -/
def OwnQ (w : World) (g : Nat) (v : Value) (l : List Int) : Prop :=
  Oct l ∧ ∃ cap cur fz, v = .slice (some ⟨g, 0, none⟩) l.length cap ∧ w.heap[g]? = some (.cells cur 5 fz) ∧ (fz.2 = 0 ∨ cap ≤ fz.1) ∧ l.length ≤ cap ∧ cap ≤ maxLen ∧ cur.size = cap ∧ cur.toList.take l.length = vals l

theorem OwnQ.oct {w : World} {g : Nat} {v : Value} {l : List Int} (h : OwnQ w g v l) : Oct l := h.1
theorem OwnQ.lt {w : World} {g : Nat} {v : Value} {l : List Int} (h : OwnQ w g v l) : g < w.heap.size := by
  obtain ⟨_, cap, cur, fz, _, hh, _⟩ := h
  exact lt_of_heap hh
theorem OwnQ.form {w : World} {g : Nat} {v : Value} {l : List Int} (h : OwnQ w g v l) : ∃ cap, v = .slice (some ⟨g, 0, none⟩) l.length cap := by
  obtain ⟨_, cap, _, _, hv, _⟩ := h
  exact ⟨cap, hv⟩
theorem OwnQ.holds {w : World} {g : Nat} {v : Value} {l : List Int} (h : OwnQ w g v l) : ∀ j u, (vals l)[j]? = some u → w.cell? ⟨g, j, none⟩ = some u := by
  obtain ⟨_, cap, cur, fz, _, hh, _, _, _, _, ht⟩ := h
  intro j u hu
  rw [cell_of_row w g j cur _ fz hh]
  rw [← ht, List.getElem?_take] at hu
  split at hu
  · simpa using hu
  · cases hu
theorem OwnQ.bs {w : World} {g : Nat} {v : Value} {l : List Int} (h : OwnQ w g v l) : Bs w v l := by
  have hl := h.lt
  have hc := h.holds
  obtain ⟨ho, cap, cur, fz, hv, hh, _, h1, h2, _⟩ := h
  refine ⟨ho, some ⟨g, 0, none⟩, cap, hv, h1, h2, (fun h => by cases h), fun _ => ⟨g, 0, rfl, hl, fun i hi => ?_⟩⟩
  rw [Nat.zero_add]
  exact hc i _ (vals_get l i hi)
/-- The row stays where its block does. -/
theorem OwnQ.frame {w w' : World} {g : Nat} {v : Value} {l : List Int} (h : OwnQ w g v l) (hw : w'.heap[g]? = w.heap[g]?) : OwnQ w' g v l := by
  obtain ⟨ho, cap, cur, fz, hv, hh, r⟩ := h
  exact ⟨ho, cap, cur, fz, hv, hw.trans hh, r⟩
theorem OwnQ.below {w w' : World} {g : Nat} {v : Value} {l : List Int} (h : OwnQ w g v l) (hb : Below w.heap.size w w') : OwnQ w' g v l := h.frame (hb.block g h.lt)
/-- Bytes that lie in another block than g stay. -/
theorem Bs.grown {w w' : World} {g : Nat} {v : Value} {l : List Int} (h : Bs w v l) (hg : w.grownBy w' (some g)) (hn : v.ownBlock ≠ some g) : Bs w' v l := by
  obtain ⟨ho, a, cap, hv, h1, h2, h3, h4⟩ := h
  refine ⟨ho, a, cap, hv, h1, h2, h3, fun hp => ?_⟩
  obtain ⟨b, off, rfl, hb, hc⟩ := h4 hp
  have hne : some b ≠ some g := by rw [hv] at hn; simpa [Value.ownBlock] using hn
  refine ⟨b, off, rfl, Nat.lt_of_lt_of_le hb hg.size, fun i hi => ?_⟩
  rw [World.cell?_of_block (hg.block b hb hne)]
  exact hc i hi

theorem storeQ (P : Program) (g o : Nat) (t : TypeId) (fz : Nat × Nat) : ∀ (vs : List Value) (i : Nat) (cur : Array Value) (w : World), w.heap[g]? = some (.cells cur t fz) → (fz.2 = 0 ∨ o + i + vs.length ≤ fz.1) → o + i + vs.length ≤ cur.size → (∀ v ∈ vs, v.oneCell' = true) →
    (storeCells ⟨g, o, none⟩ vs i).run P w = .ok () (w.setRow g (cur.toList.take (o + i) ++ vs ++ cur.toList.drop (o + i + vs.length)).toArray) := by
  intro vs
  induction vs with
  | nil =>
    intro i cur w hg _ _ _
    have e : cur.toList.take (o + i) ++ [] ++ cur.toList.drop (o + i + 0) = cur.toList := by simp
    show (storeCells ⟨g, o, none⟩ [] i).run P w = _
    simp only [List.length_nil, e, Array.toArray_toList, storeCells]
    rw [setRow_self w g cur t fz hg]
    rfl
  | cons v rest ih =>
    intro i cur w hg hfz hl h1
    simp only [List.length_cons] at hfz hl
    have hc : w.cell? ⟨g, o + i, none⟩ = some (cur[o + i]'(by omega)) := by rw [cell_of_row w g (o + i) cur t fz hg]; simp [show o + i < cur.size by omega]
    have hf : w.frozen? ⟨g, o + i, none⟩ = false := by
      simp only [World.frozen?, hg, Bool.and_eq_false_iff, decide_eq_false_iff_not]
      rcases hfz with h | h
      · right; omega
      · left; omega
    have hs : (store ((⟨g, o, none⟩ : Addr).add i) v).run P w = .ok () (w.setRow g (cur.setIfInBounds (o + i) v)) := by
      rw [Addr.add_lit, run_store P w _ v _ (h1 v (by simp)), hc]
      simp [hf, setCell_eq_setRow w g (o + i) cur t fz v hg]
    have hr := ih (i + 1) (cur.setIfInBounds (o + i) v) (w.setRow g (cur.setIfInBounds (o + i) v)) (setRow_heap w g cur _ t _ hg) (by omega) (by simp; omega) (fun x hx => h1 x (by simp [hx]))
    simp only [storeCells, Sem.run_bind, hs, Result.andThen_ok, hr, setRow_setRow]
    congr 3
    have e := list_seg_step cur.toList (o + i) v rest (by simp; omega)
    simpa [Array.toList_setIfInBounds, Nat.add_assoc] using e

/-- What append does behind such a row. -/
theorem run_appendQ {P : Program} (w : World) (t ty : TypeId) (i : TypeInfo) (ht : P.underlying t = some (.slice 5)) (hi : P.info? 5 = some i) (hz : i.zero = some (.int .u8 0)) (hsize : i.size = 1) (hby : i.bytes = 1)
    (g : Nat) (v : Value) (l : List Int) (hown : OwnQ w g v l) (u : Value) (m : List Int) (hm : Bs w u m) (hlen : l.length + m.length ≤ 140737488355328) :
    ∃ v' w' g', (Builtin.append_ #[t, t] ty #[v, u]).run P w = .ok v' w' ∧ OwnQ w' g' v' (l ++ m) ∧ w.grownBy w' (some g) ∧ (g' = g ∨ w.heap.size ≤ g') := by
  have hold := hown.holds
  obtain ⟨ho, cap, cur, fz, rfl, hh, hfz, h1, h2, h3, h4⟩ := hown
  obtain ⟨hmo, ad, c, rfl, k1, k2, k3, k4⟩ := hm
  have hlm : (l ++ m).length = l.length + m.length := by simp
  cases ad with
  | none =>
    have : c = 0 := k3 rfl
    subst this
    have hm0 : m = [] := List.eq_nil_of_length_eq_zero (by omega)
    subst hm0
    refine ⟨.slice (some ⟨g, 0, none⟩) l.length cap, w, g, ?_, ⟨by simpa using ho, cap, cur, fz, by simp, hh, hfz, by simpa using h1, h2, h3, by simpa using h4⟩, World.grownBy.refl _ _, .inl rfl⟩
    simp [Builtin.append_, run_underlying ht, sizeOf, typeInfo, hi, Builtin.lenOf, Builtin.firstCells, h1, storeCells]
  | some ad =>
    have hnews : ∀ j u, (vals m)[j]? = some u → w.cell? (ad.add j) = some u := by
      intro j y hy
      have hj : j < m.length := by have := (List.getElem?_eq_some_iff.1 hy).1; simpa [length_vals] using this
      obtain ⟨b, off, had, _, hc⟩ := k4 (by omega)
      cases had
      rw [Addr.add_lit, hc j hj, ← hy, vals_get m j hj]
    by_cases hroom : l.length + m.length ≤ cap
    · have hf := run_firstCells_some (P := P) w i.size m.length ad m.length c (vals m) (by rw [hsize, length_vals, Nat.mul_one]) hnews
      have hst := storeQ P g (l.length * i.size) 5 fz (vals m) 0 cur w hh (by rw [hsize, length_vals]; rcases hfz with h | h <;> omega) (by rw [hsize, length_vals]; omega) (oneCell_vals m)
      rw [hsize] at hf hst
      simp only [Nat.add_zero, Nat.mul_one, length_vals] at hst hf
      refine ⟨.slice (some ⟨g, 0, none⟩) (l.length + m.length) cap, w.setRow g (cur.toList.take l.length ++ vals m ++ cur.toList.drop (l.length + m.length)).toArray, g, ?_, ⟨oct_append ho hmo, cap, _, fz, by rw [hlm], setRow_heap w g cur _ _ _ hh, hfz, by rw [hlm]; exact hroom, h2, ?_, ?_⟩, ⟨rfl, rfl, rfl, by simp, fun k _ hk => setRow_other w g k _ (fun e => hk (by rw [e]))⟩, .inl rfl⟩
      · simp [Builtin.append_, run_underlying ht, sizeOf, typeInfo, hi, hsize, Builtin.lenOf, hroom, hf, Addr.add_lit, hst]
      · simp only [List.size_toArray, List.length_append, List.length_take, List.length_drop, Array.length_toList, length_vals]; omega
      · have hv : (vals l ++ vals m).length = (l ++ m).length := by simp [length_vals]
        show ((cur.toList.take l.length ++ vals m ++ cur.toList.drop (l.length + m.length)).take (l ++ m).length) = _
        rw [h4, vals_append, ← hv]
        exact List.take_left
    · have hr := run_append_grow (P := P) w t ty 5 i (.int .u8 0) ht hi hz ⟨g, 0, none⟩ l.length cap (vals l) (by rw [hsize, length_vals, Nat.mul_one]) (fun j u hu => by rw [Addr.add_lit, Nat.zero_add]; exact hold j u hu) ad m.length c (vals m) (by rw [hsize, length_vals, Nat.mul_one]) hnews (by omega) (by omega) (by rw [hby]; exact growslice_fits (by omega) (by omega))
      have hge := grownCap_ge w (l.length + m.length) cap 5
      have hcm : grownCap w (l.length + m.length) cap 5 ≤ maxLen := grownCap_le_maxLen w (l.length + m.length) cap _ (by unfold maxLen; omega)
      refine ⟨_, _, w.heap.size, hr, ⟨oct_append ho hmo, _, _, (0, 0), by rw [hlm], heap_alloc_new w.drew _, .inl rfl, by rw [hlm]; exact hge, hcm, ?_, ?_⟩, ⟨rfl, rfl, rfl, by simp, fun k hk _ => Below.heap_alloc w.drew _ k hk⟩, .inr (Nat.le_refl _)⟩
      · have hz1 : (Value.int IntKind.u8 0).cells.size = 1 := rfl
        simp only [Array.size_append, List.size_toArray, size_zeroCells, hz1, length_vals]
        omega
      · have hv : (vals l ++ vals m).length = (l ++ m).length := by simp [length_vals]
        simp only [Array.toList_append, List.append_assoc]
        rw [← List.append_assoc, vals_append, ← hv]
        exact List.take_left

theorem wpList_appendQ {P : Program} {w : World} {ops : Array Oper} {rest : List Oper} {o : Oper} {a : Act} {Q : Exit → Act → World → Prop} (hgd : o.guard = none) (s x : Operand) (t : TypeId)
    (ho : o.op = .call { callee := .builtin .append, args := #[s, x], argTypes := #[t, t] })
    (i : TypeInfo) (ht : P.underlying t = some (.slice 5)) (hi : P.info? 5 = some i) (hz : i.zero = some (.int .u8 0)) (hsize : i.size = 1) (hby : i.bytes = 1)
    (g : Nat) (v : Value) (l : List Int) (hs : a.eval s = v) (hown : OwnQ w g v l) (u : Value) (m : List Int) (hx : a.eval x = u) (hm : Bs w u m) (hlen : l.length + m.length ≤ 140737488355328)
    (h : ∀ v' w' g', OwnQ w' g' v' (l ++ m) → w.grownBy w' (some g) → (g' = g ∨ w.heap.size ≤ g') → wpList P ops Q rest (a.put o.dst v') w') : wpList P ops Q (o :: rest) a w := by
  refine wpList_plain hgd fun K hK => ?_
  obtain ⟨v', w', g', hr, h2, h3, h4⟩ := run_appendQ (P := P) w t o.type i ht hi hz hsize hby g v l hown u m hm hlen
  unfold Oper.wp execOp
  simp only [ho, resolve, invoke, builtin, Sem.run_bind, Sem.run_pure, Result.andThen_ok, List.map_toArray, List.map_cons, List.map_nil, hs, hx, hr]
  exact hK _ _ (h v' w' g' h2 h3 h4)

/-- What '[]byte(s)' answers. -/
theorem bytesWorldQ (w : World) (s : List Int) (hs : Oct s) (hl : s.length ≤ 1000000) :
    OwnQ (Lib.bytesWorld w 5 (strOfNums s)) w.heap.size (.slice (some ⟨w.heap.size, 0, none⟩) s.length (grownCap w s.length 0 5)) s ∧ Below w.heap.size w (Lib.bytesWorld w 5 (strOfNums s)) := by
  have hge := grownCap_ge w s.length 0 5
  have hcm : grownCap w s.length 0 5 ≤ maxLen := grownCap_le_maxLen w s.length 0 _ (by unfold maxLen; omega)
  have hsz := strOfNums_size s
  have hcs : (Lib.bytesCells w 5 (strOfNums s)).size = grownCap w s.length 0 5 := by
    have : (strOfNums s).data.size = s.length := hsz
    simp only [Lib.bytesCells, Array.size_append, Array.size_map, Array.size_replicate, this, hsz]
    omega
  refine ⟨⟨hs, _, _, _, rfl, Lib.bytesWorld_at_new w _ _, .inr (Nat.le_of_eq hcs.symm), hge, hcm, hcs, ?_⟩, rfl, rfl, rfl, by rw [Lib.bytesWorld_size]; omega, fun k hk => Lib.bytesWorld_at_old w _ _ k hk⟩
  have e : ((strOfNums s).data.map fun b => Value.int .u8 b.toNat).toList = vals s := (by rw [Array.toList_map]; exact strCells_nums hs)
  have hv : (vals s).length = s.length := length_vals s
  simp only [Lib.bytesCells, Array.toList_append]
  rw [e, ← hv]
  exact List.take_left

end Go.Proofs.YtifpjdpcmfneaaaDoor

/- What l4word of package spec does behind bytes that may have been made of a string. -/
namespace Go.Proofs.YtifpjdpcmfneaaaDoor
open Go.RowKit
set_option maxRecDepth 100000
set_option linter.unusedVariables false

theorem grow_trans {w w1 w2 : World} {g g2 : Nat} (h : w.grownBy w1 (some g)) (k : w1.grownBy w2 (some g2)) (hg : g2 = g ∨ w.heap.size ≤ g2) : w.grownBy w2 (some g) :=
  ⟨k.os.trans h.os, k.tape.trans h.tape, k.output.trans h.output, Nat.le_trans h.size k.size, fun b hb hn => (k.block b (Nat.lt_of_lt_of_le hb h.size) (by rcases hg with rfl | hg; exact hn; simp; omega)).trans (h.block b hb hn)⟩
theorem grow_below {w w' : World} (h : Below w.heap.size w w') (g : Option Nat) : w.grownBy w' g := ⟨h.os, h.tape, h.output, h.size, fun b hb _ => h.block b hb⟩

set_option maxRecDepth 100000 in
set_option maxHeartbeats 1000000 in
theorem l4word_q (g : Nat) (v wv : Value) (l wd : List Int) (w : World) (hv : OwnQ w g v l) (hs : Bs w wv wd) (hn : wv.ownBlock ≠ some g) (h0 : 0 < l.length) (hl : l.length ≤ 1000000) (hwl : wd.length ≤ 1000000) :
    Calls Tryd.prog 48 #[v, wv] w fun e w' => ∃ u g', e = .returned u ∧ OwnQ w' g' u (l ++ [32] ++ wd) ∧ w.grownBy w' (some g) ∧ (g' = g ∨ w.heap.size ≤ g') := by
  have HN : Hid (wv.ownBlock ≠ some g) := hn
  obtain ⟨wa, wn, wc, rfl⟩ := hs.form3
  obtain ⟨cap, rfl⟩ := hv.form
  have h0' : (0 : Int) < (l.length : Int) := by omega
  have AB : Below w.heap.size w (w.alloc (.cells #[.int .u8 32] 5)) := (Below.refl _ _).alloc (Nat.le_refl _) _
  have HA : Hid (w.grownBy (w.alloc (.cells #[.int .u8 32] 5)) (some g)) := grow_below AB _
  have HOA : Hid (OwnQ (w.alloc (.cells #[.int .u8 32] 5)) g (.slice (some ⟨g, 0, none⟩) l.length cap) l) := hv.below AB
  have HSA : Hid (Bs (w.alloc (.cells #[.int .u8 32] 5)) (.slice wa wn wc) wd) := hs.below AB
  clear hv hs AB hn
  obtain ⟨i0, hi, hz0, hz1, hz2⟩ := info_parts info5
  go_enter Tryd.func48, Tryd.ntmps48
  go_wp2_with (at_builtin; refine wpList_appendQ rfl (.tmp 8) (.tmp 9) 22 rfl i0 Tryd.underlying22 hi hz0 hz1 hz2 g _ _ rfl HOA.out _ [32] rfl (bs_one _ _ (by omega)) (by simp only [List.length_cons, List.length_nil]; omega) ?_)
  intro v2 w2 g2 hO2 hG2 hg2
  have HO2 : Hid (OwnQ w2 g2 v2 (l ++ [32])) := by simpa [Hid] using hO2
  have HG : Hid (g2 = g ∨ w.heap.size ≤ g2) := by
    rcases hg2 with h | h
    · exact .inl h
    · right; (first | omega | (simp at h; omega))
  have HT2 : Hid (w.grownBy w2 (some g)) := grow_trans HA.out hG2 (.inl rfl)
  have HW : Hid (Bs w2 (.slice wa wn wc) wd) := HSA.out.grown hG2 HN.out
  clear hO2 hG2 hg2 HA HOA HSA
  go_wp2_with (at_builtin; refine wpList_appendQ rfl (.tmp 11) (.tmp 12) 22 rfl i0 Tryd.underlying22 hi hz0 hz1 hz2 g2 _ _ rfl HO2.out _ wd rfl HW.out (by simp only [List.length_append, List.length_cons, List.length_nil]; omega) ?_)
  intro v3 w3 g3 hO3 hG3 hg3
  have HO3 : Hid (OwnQ w3 g3 v3 (l ++ [32] ++ wd)) := by simpa [Hid] using hO3
  have HT3 : Hid (w.grownBy w3 (some g)) := grow_trans HT2.out hG3 HG.out
  have HG3 : Hid (g3 = g ∨ w.heap.size ≤ g3) := by
    have hs2 := HT2.out.size
    rcases hg3 with h | h
    · rw [h]; exact HG.out
    · right; omega
  clear hO3 hG3 hg3 HT2 HO2 HW HG
  go_wp2
  go_ret
  exact ⟨_, _, rfl, HO3.out, HT3.out, HG3.out⟩

end Go.Proofs.YtifpjdpcmfneaaaDoor

/- What l4digits, l4quoted, l4flags of package spec do. -/
namespace Go.Proofs.YtifpjdpcmfneaaaDoor
open Go.RowKit
set_option maxRecDepth 100000
set_option linter.unusedVariables false

set_option maxRecDepth 100000 in
set_option maxHeartbeats 1000000 in
theorem l4digits_r (n : Nat) (hn : n ≤ 9999999) (w : World) :
    Calls Tryd.prog 50 #[.int .i64 n] w fun e w' => ∃ u, e = .returned u ∧ OwnB w' w.heap.size u (digB n) ∧ Below w.heap.size w w' := by
  induction n using Nat.strongRecOn generalizing w with
  | ind n ih =>
    obtain ⟨i0, hi, hz0, hz1, hz2⟩ := info_parts info5
    by_cases h : n < 10
    · have h' : (n : Int) < 10 := by omega
      have HO : Hid (OwnB (w.alloc (.cells #[.int .u8 (48 + (n : Int))] 5)) w.heap.size (.slice (some ⟨w.heap.size, 0, none⟩) 1 1) (digB n)) := by rw [digB_small h]; exact ownB_one w _ (Nat.le_refl _) _ (by omega)
      clear ih
      go_enter Tryd.func50, Tryd.ntmps50
      go_wp2
      go_ret
      exact ⟨_, rfl, HO.out, (Below.refl _ _).alloc (Nat.le_refl _) _⟩
    · have h' : ¬ (n : Int) < 10 := by omega
      have hq : (n : Int) / 10 = ((n / 10 : Nat) : Int) := by omega
      have hr : (n : Int) % 10 = ((n % 10 : Nat) : Int) := by omega
      have HD : Hid (digB n = digB (n / 10) ++ [48 + ((n % 10 : Nat) : Int)]) := digB_big h
      have hc := ih (n / 10) (by omega) (by omega) w
      have hlen := digB_len10 (show n / 10 ≤ 9999999 by omega)
      clear ih
      generalize hQ : n / 10 = Q at hq hc HD hlen
      generalize hR : n % 10 = R at hr HD
      have hRb : R < 10 := by omega
      go_enter Tryd.func50, Tryd.ntmps50
      go_wp2_with fail
      refine hc.mono ?_
      rintro e w1 ⟨u1, rfl, O1, B1⟩
      have s1 := B1.size
      have HO : Hid (OwnB w1 w.heap.size u1 (digB Q)) := O1
      have HB : Hid (Below w.heap.size w w1) := B1
      clear O1 B1 hc
      go_wp2_with (at_builtin; refine wpList_append_bytes rfl (.tmp 11) (.tmp 16) 22 rfl i0 Tryd.underlying22 hi hz0 hz1 hz2 w.heap.size _ _ rfl (HO.out.alloc _) _ [48 + (R : Int)] rfl (bs_one _ _ (by omega)) (by simp; omega) (by simp; omega) w (HB.out.alloc s1 _) ?_)
      intro v2 w2 hO2 hB2 _
      have HO2 : Hid (OwnB w2 w.heap.size v2 (digB n)) := by rw [HD.out]; exact hO2
      clear hO2
      go_wp2
      go_ret
      exact ⟨_, rfl, HO2.out, hB2⟩

set_option maxHeartbeats 1000000 in
theorem l4quoted_r (v : Value) (t : List Int) (w : World) (hv : Bs w v t) (ht : t.length ≤ 2000000) :
    Calls Tryd.prog 53 #[v] w fun e w' => ∃ u, e = .returned u ∧ OwnB w' w.heap.size u (quoB t) ∧ Below w.heap.size w w' := by
  have HV : Hid (∀ wi, Below w.heap.size w wi → Bs wi v t) := fun wi h => hv.below h
  obtain ⟨ho, a, cap, rfl, hlc, hcm, -⟩ := hv
  unfold maxLen at hcm
  obtain ⟨i0, hi, hz0, hz1, hz2⟩ := info_parts info5
  have H0 : Hid (OwnB (w.alloc (.cells #[.int .u8 34] 5)) w.heap.size (.slice (some ⟨w.heap.size, 0, none⟩) 1 1) ([34] ++ (t.take 0).flatMap escB)) := by simpa [Hid] using ownB_one w _ (Nat.le_refl _) 34 (by omega)
  have HB : Hid (Below w.heap.size w (w.alloc (.cells #[.int .u8 34] 5))) := (Below.refl _ _).alloc (Nat.le_refl _) _
  go_enter Tryd.func53, Tryd.ntmps53
  go_wp2
  go_loopw [3, 4] (fun b i wr => ∃ k : Nat, k ≤ t.length ∧ i = .int .i64 k ∧ Hid (OwnB wr w.heap.size b ([34] ++ (t.take k).flatMap escB)) ∧ Hid (Below w.heap.size w wr)) (fun _ i _ => t.length - (intOf i).toNat)
  case atStart => exact ⟨0, Nat.zero_le _, rfl, H0, HB⟩
  case round =>
    clear H0 HB
    obtain ⟨k, hk, rfl, hO, hB⟩ := hrel
    have hsz := hB.out.size
    have hfl := flat_len escB 2 (t.take k) (fun x _ => escB_len x)
    have htk : (t.take k).length ≤ 2000000 := by simp; omega
    by_cases hlt : k < t.length
    · obtain ⟨x, hx⟩ : ∃ x, t[k]? = some x := ⟨t[k], List.getElem?_eq_getElem hlt⟩
      have hxo : 0 ≤ x ∧ x ≤ 255 := ho x (List.mem_of_getElem? hx)
      have HST : Hid ((t.take (k + 1)).flatMap escB = (t.take k).flatMap escB ++ escB x) := flat_step escB hx
      obtain ⟨ho', a', cap', hv', -, -, -, hcells⟩ := HV.out wr hB.out
      simp only [Value.slice.injEq, true_and] at hv'
      obtain ⟨rfl, rfl⟩ := hv'
      obtain ⟨b, off, rfl, hlb, hc⟩ := hcells (by omega)
      have d0 := hc k hlt
      rw [List.getD_eq_getElem?_getD, hx, Option.getD_some] at d0
      clear hcells hc ho'
      by_cases he : x = 34 ∨ x = 92
      · have HE : Hid (escB x = [92, x]) := by simp only [Hid, escB, if_pos he]
        rcases he with rfl | rfl
        all_goals
          go_wp2_with (at_builtin; refine wpList_append_bytes rfl (.tmp 24) (.tmp 25) 22 rfl i0 Tryd.underlying22 hi hz0 hz1 hz2 w.heap.size _ _ rfl (hO.out.alloc _) _ [92] rfl (bs_one _ _ (by omega)) (by simp only [List.length_append, List.length_cons, List.length_nil]; omega) (by simp; omega) w (hB.out.alloc hsz _) ?_)
          intro v2 w2 hO2 hB2 _
          have s2 := hB2.size
          have HO2 : Hid (OwnB w2 w.heap.size v2 ([34] ++ (t.take k).flatMap escB ++ [92])) := by simpa [Hid] using hO2
          obtain ⟨_, a', cap', hv', -, -, -, hcells⟩ := HV.out w2 hB2
          simp only [Value.slice.injEq, true_and] at hv'
          obtain ⟨rfl, rfl⟩ := hv'
          obtain ⟨b2, off2, hb2, hlb2, hc2⟩ := hcells (by omega)
          simp only [Option.some.injEq, Addr.mk.injEq, and_true] at hb2
          obtain ⟨rfl, rfl⟩ := hb2
          have d2 := hc2 k hlt
          rw [List.getD_eq_getElem?_getD, hx, Option.getD_some] at d2
          clear hO2 d0 hcells hc2 hO hB hlb
          go_wp2_with (at_builtin; refine wpList_append_bytes rfl (.tmp 27) (.tmp 32) 22 rfl i0 Tryd.underlying22 hi hz0 hz1 hz2 w.heap.size _ _ rfl (HO2.out.alloc _) _ _ rfl (bs_one _ _ (by omega)) (by simp only [List.length_append, List.length_cons, List.length_nil]; omega) (by simp; omega) w (hB2.alloc s2 _) ?_)
          intro v3 w3 hO3 hB3 _
          have HO3 : Hid (OwnB w3 w.heap.size v3 ([34] ++ (t.take (k + 1)).flatMap escB)) := by
            rw [HST.out, HE.out]
            simpa [Hid, show List.range 1 = [0] from rfl, show List.range 2 = [0, 1] from rfl, show List.range 3 = [0, 1, 2] from rfl, show List.range 4 = [0, 1, 2, 3] from rfl] using hO3
          clear hO3
          go_wp2
          go_roundw
          case rel => exact ⟨k + 1, by omega, by go_num, HO3, hB3⟩
          case measure => simp [intOf]; omega
      · have HE : Hid (escB x = [x]) := by simp only [Hid, escB, if_neg he]
        have h34 : x ≠ 34 := by omega
        have h92 : x ≠ 92 := by omega
        have b34 : (x == 34) = false := by simp [h34]
        have b92 : (x == 92) = false := by simp [h92]
        go_wp2_with (at_builtin; refine wpList_append_bytes rfl (.tmp 27) (.tmp 32) 22 rfl i0 Tryd.underlying22 hi hz0 hz1 hz2 w.heap.size _ _ rfl (hO.out.alloc _) _ [x] rfl (bs_one _ _ (by omega)) (by simp only [List.length_append, List.length_cons, List.length_nil]; omega) (by simp; omega) w (hB.out.alloc hsz _) ?_)
        intro v3 w3 hO3 hB3 _
        have HO3 : Hid (OwnB w3 w.heap.size v3 ([34] ++ (t.take (k + 1)).flatMap escB)) := by
          rw [HST.out, HE.out]
          simpa [Hid] using hO3
        clear hO3
        go_wp2
        go_roundw
        case rel => exact ⟨k + 1, by omega, by go_num, HO3, hB3⟩
        case measure => simp [intOf]; omega
    · obtain rfl : k = t.length := by omega
      go_wp2_with (at_builtin; refine wpList_append_bytes rfl (.tmp 34) (.tmp 35) 22 rfl i0 Tryd.underlying22 hi hz0 hz1 hz2 w.heap.size _ _ rfl (hO.out.alloc _) _ [34] rfl (bs_one _ _ (by omega)) (by simp only [List.length_append, List.length_cons, List.length_nil]; omega) (by simp; omega) w (hB.out.alloc hsz _) ?_)
      intro v2 w2 hO2 hB2 _
      have HO2 : Hid (OwnB w2 w.heap.size v2 (quoB t)) := by simpa [Hid, quoB] using hO2
      clear hO2
      go_wp2
      go_ret
      exact ⟨_, rfl, HO2.out, hB2⟩

theorem bit_one : ∀ x : Nat, x ≤ 31 → (bits BinOp.and IntKind.i64 (x : Int) 1 == 1) = decide (x % 2 = 1) := by
  intro x hx
  have h : ∀ x : Fin 32, (bits BinOp.and IntKind.i64 ((x : Nat) : Int) 1 == 1) = decide ((x : Nat) % 2 = 1) := by decide +kernel
  exact h ⟨x, by omega⟩
set_option maxRecDepth 100000 in
set_option maxHeartbeats 1000000 in
theorem l4flags_r (f : Nat) (hf : f ≤ 31) (w : World) :
    Calls Tryd.prog 52 #[.int .i64 f] w fun e w' => ∃ u, e = .returned u ∧ OwnB w' w.heap.size u (flagsB f) ∧ Below w.heap.size w w' := by
  obtain ⟨i0, hi, hz0, hz1, hz2⟩ := info_parts info5
  have H0 : Hid (OwnB (w.alloc (.cells #[.int .u8 40] 5)) w.heap.size (.slice (some ⟨w.heap.size, 0, none⟩) 1 1) ([40] ++ (List.range 0).flatMap (flagAt f))) := by simpa [Hid] using ownB_one w _ (Nat.le_refl _) 40 (by omega)
  have HB : Hid (Below w.heap.size w (w.alloc (.cells #[.int .u8 40] 5))) := (Below.refl _ _).alloc (Nat.le_refl _) _
  go_enter Tryd.func52, Tryd.ntmps52
  go_wp2
  go_loopw [3, 4] (fun b i wr => ∃ k : Nat, k ≤ 5 ∧ i = .int .i64 k ∧ Hid (OwnB wr w.heap.size b ([40] ++ (List.range k).flatMap (flagAt f))) ∧ Hid (Below w.heap.size w wr)) (fun _ i _ => 5 - (intOf i).toNat)
  case atStart => exact ⟨0, Nat.zero_le _, rfl, H0, HB⟩
  case round =>
    clear H0 HB
    obtain ⟨k, hk, rfl, hO, hB⟩ := hrel
    have hsz := hB.out.size
    have hfl := flat_len (flagAt f) 1 (List.range k) (fun x _ => flagAt_len f x)
    simp only [List.length_range] at hfl
    by_cases hlt : k < 5
    · have HST : Hid ((List.range (k + 1)).flatMap (flagAt f) = (List.range k).flatMap (flagAt f) ++ flagAt f k) := range5_step f k
      have hsmall : ∀ P : Nat, 0 < P → f / P ≤ 31 := fun P hp => Nat.le_trans (Nat.div_le_self _ _) hf
      obtain rfl | rfl | rfl | rfl | rfl : k = 0 ∨ k = 1 ∨ k = 2 ∨ k = 3 ∨ k = 4 := by omega
      · have hE : flagAt f 0 = (if f % 2 = 1 then [83] else []) := by simp [flagAt, letB]
        have hb : (bits BinOp.and IntKind.i64 (f : Int) 1 == 1) = decide (f % 2 = 1) := by
          have h := bit_one (f) (hf)
          simpa using h
        by_cases hc : f % 2 = 1
        · rw [if_pos hc] at hE
          rw [decide_eq_true hc] at hb
          have HE : Hid (flagAt f 0 = [83]) := hE
          clear hE
          go_wp2_with (at_builtin; refine wpList_append_bytes rfl (.tmp 15) (.tmp 18) 22 rfl i0 Tryd.underlying22 hi hz0 hz1 hz2 w.heap.size _ _ rfl (hO.out.alloc _) _ [83] rfl (bs_one _ 83 (by omega)) (by simp only [List.length_append, List.length_cons, List.length_nil]; omega) (by simp; omega) w (hB.out.alloc hsz _) ?_)
          intro v3 w3 hO3 hB3 _
          have HO3 : Hid (OwnB w3 w.heap.size v3 ([40] ++ (List.range (0 + 1)).flatMap (flagAt f))) := by
            rw [HST.out, HE.out]
            simpa [Hid, show List.range 1 = [0] from rfl, show List.range 2 = [0, 1] from rfl, show List.range 3 = [0, 1, 2] from rfl, show List.range 4 = [0, 1, 2, 3] from rfl] using hO3
          clear hO3
          go_wp2
          go_roundw
          case rel => exact ⟨0 + 1, by omega, by go_num, HO3, hB3⟩
          case measure => simp [intOf]
        · rw [if_neg hc] at hE
          rw [decide_eq_false hc] at hb
          have HEQ : Hid ([40] ++ (List.range 0).flatMap (flagAt f) = [40] ++ (List.range (0 + 1)).flatMap (flagAt f)) := by rw [Hid, HST.out, hE, List.append_nil]
          clear hE
          go_wp2
          go_roundw
          case rel => exact ⟨0 + 1, by omega, by go_num, by rw [← HEQ.out]; exact hO, hB⟩
          case measure => simp [intOf]
      · have hE : flagAt f 1 = (if f / 2 % 2 = 1 then [65] else []) := by simp [flagAt, letB]
        have hb : (bits BinOp.and IntKind.i64 ((f : Int) / 2) 1 == 1) = decide (f / 2 % 2 = 1) := by
          have h := bit_one (f / 2) (hsmall 2 (by omega))
          simpa using h
        by_cases hc : f / 2 % 2 = 1
        · rw [if_pos hc] at hE
          rw [decide_eq_true hc] at hb
          have HE : Hid (flagAt f 1 = [65]) := hE
          clear hE
          go_wp2_with (at_builtin; refine wpList_append_bytes rfl (.tmp 15) (.tmp 18) 22 rfl i0 Tryd.underlying22 hi hz0 hz1 hz2 w.heap.size _ _ rfl (hO.out.alloc _) _ [65] rfl (bs_one _ 65 (by omega)) (by simp only [List.length_append, List.length_cons, List.length_nil]; omega) (by simp; omega) w (hB.out.alloc hsz _) ?_)
          intro v3 w3 hO3 hB3 _
          have HO3 : Hid (OwnB w3 w.heap.size v3 ([40] ++ (List.range (1 + 1)).flatMap (flagAt f))) := by
            rw [HST.out, HE.out]
            simpa [Hid, show List.range 1 = [0] from rfl, show List.range 2 = [0, 1] from rfl, show List.range 3 = [0, 1, 2] from rfl, show List.range 4 = [0, 1, 2, 3] from rfl] using hO3
          clear hO3
          go_wp2
          go_roundw
          case rel => exact ⟨1 + 1, by omega, by go_num, HO3, hB3⟩
          case measure => simp [intOf]
        · rw [if_neg hc] at hE
          rw [decide_eq_false hc] at hb
          have HEQ : Hid ([40] ++ (List.range 1).flatMap (flagAt f) = [40] ++ (List.range (1 + 1)).flatMap (flagAt f)) := by rw [Hid, HST.out, hE, List.append_nil]
          clear hE
          go_wp2
          go_roundw
          case rel => exact ⟨1 + 1, by omega, by go_num, by rw [← HEQ.out]; exact hO, hB⟩
          case measure => simp [intOf]
      · have hE : flagAt f 2 = (if f / 4 % 2 = 1 then [70] else []) := by simp [flagAt, letB]
        have hb : (bits BinOp.and IntKind.i64 ((f : Int) / 4) 1 == 1) = decide (f / 4 % 2 = 1) := by
          have h := bit_one (f / 4) (hsmall 4 (by omega))
          simpa using h
        by_cases hc : f / 4 % 2 = 1
        · rw [if_pos hc] at hE
          rw [decide_eq_true hc] at hb
          have HE : Hid (flagAt f 2 = [70]) := hE
          clear hE
          go_wp2_with (at_builtin; refine wpList_append_bytes rfl (.tmp 15) (.tmp 18) 22 rfl i0 Tryd.underlying22 hi hz0 hz1 hz2 w.heap.size _ _ rfl (hO.out.alloc _) _ [70] rfl (bs_one _ 70 (by omega)) (by simp only [List.length_append, List.length_cons, List.length_nil]; omega) (by simp; omega) w (hB.out.alloc hsz _) ?_)
          intro v3 w3 hO3 hB3 _
          have HO3 : Hid (OwnB w3 w.heap.size v3 ([40] ++ (List.range (2 + 1)).flatMap (flagAt f))) := by
            rw [HST.out, HE.out]
            simpa [Hid, show List.range 1 = [0] from rfl, show List.range 2 = [0, 1] from rfl, show List.range 3 = [0, 1, 2] from rfl, show List.range 4 = [0, 1, 2, 3] from rfl] using hO3
          clear hO3
          go_wp2
          go_roundw
          case rel => exact ⟨2 + 1, by omega, by go_num, HO3, hB3⟩
          case measure => simp [intOf]
        · rw [if_neg hc] at hE
          rw [decide_eq_false hc] at hb
          have HEQ : Hid ([40] ++ (List.range 2).flatMap (flagAt f) = [40] ++ (List.range (2 + 1)).flatMap (flagAt f)) := by rw [Hid, HST.out, hE, List.append_nil]
          clear hE
          go_wp2
          go_roundw
          case rel => exact ⟨2 + 1, by omega, by go_num, by rw [← HEQ.out]; exact hO, hB⟩
          case measure => simp [intOf]
      · have hE : flagAt f 3 = (if f / 8 % 2 = 1 then [68] else []) := by simp [flagAt, letB]
        have hb : (bits BinOp.and IntKind.i64 ((f : Int) / 8) 1 == 1) = decide (f / 8 % 2 = 1) := by
          have h := bit_one (f / 8) (hsmall 8 (by omega))
          simpa using h
        by_cases hc : f / 8 % 2 = 1
        · rw [if_pos hc] at hE
          rw [decide_eq_true hc] at hb
          have HE : Hid (flagAt f 3 = [68]) := hE
          clear hE
          go_wp2_with (at_builtin; refine wpList_append_bytes rfl (.tmp 15) (.tmp 18) 22 rfl i0 Tryd.underlying22 hi hz0 hz1 hz2 w.heap.size _ _ rfl (hO.out.alloc _) _ [68] rfl (bs_one _ 68 (by omega)) (by simp only [List.length_append, List.length_cons, List.length_nil]; omega) (by simp; omega) w (hB.out.alloc hsz _) ?_)
          intro v3 w3 hO3 hB3 _
          have HO3 : Hid (OwnB w3 w.heap.size v3 ([40] ++ (List.range (3 + 1)).flatMap (flagAt f))) := by
            rw [HST.out, HE.out]
            simpa [Hid, show List.range 1 = [0] from rfl, show List.range 2 = [0, 1] from rfl, show List.range 3 = [0, 1, 2] from rfl, show List.range 4 = [0, 1, 2, 3] from rfl] using hO3
          clear hO3
          go_wp2
          go_roundw
          case rel => exact ⟨3 + 1, by omega, by go_num, HO3, hB3⟩
          case measure => simp [intOf]
        · rw [if_neg hc] at hE
          rw [decide_eq_false hc] at hb
          have HEQ : Hid ([40] ++ (List.range 3).flatMap (flagAt f) = [40] ++ (List.range (3 + 1)).flatMap (flagAt f)) := by rw [Hid, HST.out, hE, List.append_nil]
          clear hE
          go_wp2
          go_roundw
          case rel => exact ⟨3 + 1, by omega, by go_num, by rw [← HEQ.out]; exact hO, hB⟩
          case measure => simp [intOf]
      · have hE : flagAt f 4 = (if f / 16 % 2 = 1 then [82] else []) := by simp [flagAt, letB]
        have hb : (bits BinOp.and IntKind.i64 ((f : Int) / 16) 1 == 1) = decide (f / 16 % 2 = 1) := by
          have h := bit_one (f / 16) (hsmall 16 (by omega))
          simpa using h
        by_cases hc : f / 16 % 2 = 1
        · rw [if_pos hc] at hE
          rw [decide_eq_true hc] at hb
          have HE : Hid (flagAt f 4 = [82]) := hE
          clear hE
          go_wp2_with (at_builtin; refine wpList_append_bytes rfl (.tmp 15) (.tmp 18) 22 rfl i0 Tryd.underlying22 hi hz0 hz1 hz2 w.heap.size _ _ rfl (hO.out.alloc _) _ [82] rfl (bs_one _ 82 (by omega)) (by simp only [List.length_append, List.length_cons, List.length_nil]; omega) (by simp; omega) w (hB.out.alloc hsz _) ?_)
          intro v3 w3 hO3 hB3 _
          have HO3 : Hid (OwnB w3 w.heap.size v3 ([40] ++ (List.range (4 + 1)).flatMap (flagAt f))) := by
            rw [HST.out, HE.out]
            simpa [Hid, show List.range 1 = [0] from rfl, show List.range 2 = [0, 1] from rfl, show List.range 3 = [0, 1, 2] from rfl, show List.range 4 = [0, 1, 2, 3] from rfl] using hO3
          clear hO3
          go_wp2
          go_roundw
          case rel => exact ⟨4 + 1, by omega, by go_num, HO3, hB3⟩
          case measure => simp [intOf]
        · rw [if_neg hc] at hE
          rw [decide_eq_false hc] at hb
          have HEQ : Hid ([40] ++ (List.range 4).flatMap (flagAt f) = [40] ++ (List.range (4 + 1)).flatMap (flagAt f)) := by rw [Hid, HST.out, hE, List.append_nil]
          clear hE
          go_wp2
          go_roundw
          case rel => exact ⟨4 + 1, by omega, by go_num, by rw [← HEQ.out]; exact hO, hB⟩
          case measure => simp [intOf]
    · obtain rfl : k = 5 := by omega
      go_wp2_with (at_builtin; refine wpList_append_bytes rfl (.tmp 20) (.tmp 21) 22 rfl i0 Tryd.underlying22 hi hz0 hz1 hz2 w.heap.size _ _ rfl (hO.out.alloc _) _ _ rfl (bs_one _ _ (by omega)) (by simp only [List.length_append, List.length_cons, List.length_nil]; omega) (by simp; omega) w (hB.out.alloc hsz _) ?_)
      intro v2 w2 hO2 hB2 _
      have HO2 : Hid (OwnB w2 w.heap.size v2 (flagsB f)) := by simpa [Hid, flagsB, show List.range 5 = [0, 1, 2, 3, 4] from rfl] using hO2
      clear hO2
      go_wp2
      go_ret
      exact ⟨_, rfl, HO2.out, hB2⟩

end Go.Proofs.YtifpjdpcmfneaaaDoor

/- Names, texts and commands as plain lists and numbers: no program is named here. -/
namespace Go.Proofs.YtifpjdpcmfneaaaDoor

theorem ret_b {a b : Bool} (h : b = a) : Ending.returned (.bool a) = .returned (.bool b) := by rw [h]

/-- Every number of the list lies between two. -/
def allIn (lo hi : Int) (l : List Int) : Bool := l.all fun x => decide (lo ≤ x) && decide (x ≤ hi)
/-- A name: one to six small letters. -/
def nameB (l : List Int) : Bool := decide (1 ≤ l.length) && (decide (l.length ≤ 6) && allIn 97 122 l)
/-- A text: at most thirty bytes that can be seen. -/
def textB (l : List Int) : Bool := decide (l.length ≤ 30) && allIn 32 126 l
/-- A number lies between two. -/
def inB (n lo hi : Int) : Bool := decide (lo ≤ n) && decide (n ≤ hi)

theorem allIn_yes {lo hi : Int} {l : List Int} (h : ∀ j, j < l.length → lo ≤ l.getD j 0 ∧ l.getD j 0 ≤ hi) : allIn lo hi l = true := by
  unfold allIn
  rw [List.all_eq_true]
  intro x hx
  obtain ⟨j, hj, rfl⟩ := List.getElem_of_mem hx
  have := h j hj
  simp [hj] at this
  simp [this]
theorem allIn_no {lo hi : Int} {l : List Int} (j : Nat) (hj : j < l.length) (h : ¬ (lo ≤ l.getD j 0 ∧ l.getD j 0 ≤ hi)) : allIn lo hi l = false := by
  cases e : allIn lo hi l with
  | false => rfl
  | true =>
    exfalso
    unfold allIn at e
    rw [List.all_eq_true] at e
    have := e _ (List.getElem_mem hj)
    simp [hj] at h
    simp at this
    omega

theorem ret_i {k : IntKind} {a b : Int} (h : a = b) : Ending.returned (.int k a) = .returned (.int k b) := by rw [h]
/-- The place of the first that fits; -1 where there is none. -/
def firstI {α : Type} (p : α → Bool) (l : List α) : Int := match l.findIdx? p with | some i => i | none => -1
theorem firstI_hit {p : Int → Bool} {l : List Int} {k : Nat} (hk : k < l.length) (h : p (l.getD k 0) = true) (hA : ∀ j, j < k → p (l.getD j 0) = false) : firstI p l = k := by
  have : l.findIdx? p = some k := by
    rw [List.findIdx?_eq_some_iff_getElem]
    refine ⟨hk, by simpa [hk] using h, fun j hj => ?_⟩
    have := hA j hj
    simp [show j < l.length by omega] at this
    simp [this]
  simp [firstI, this]
theorem firstI_none {p : Int → Bool} {l : List Int} (hA : ∀ j, j < l.length → p (l.getD j 0) = false) : firstI p l = -1 := by
  have : l.findIdx? p = none := by
    rw [List.findIdx?_eq_none_iff]
    intro x hx
    obtain ⟨j, hj, rfl⟩ := List.getElem_of_mem hx
    have := hA j hj
    simpa [hj] using this
  simp [firstI, this]
theorem any_firstI {α : Type} (p : α → Bool) (l : List α) : l.any p = decide (0 ≤ firstI p l) := by
  unfold firstI
  cases h : l.findIdx? p with
  | none =>
    rw [List.findIdx?_eq_none_iff] at h
    simp only [show ¬ (0 : Int) ≤ -1 by omega, decide_false]
    rw [List.any_eq_false]
    intro x hx
    simp [h x hx]
  | some i =>
    rw [List.findIdx?_eq_some_iff_getElem] at h
    obtain ⟨hi, hp, -⟩ := h
    simp only [show (0 : Int) ≤ (i : Int) by omega, decide_true]
    rw [List.any_eq_true]
    exact ⟨_, List.getElem_mem hi, hp⟩

/-- Which kinds have a second name, a number of a mail, flags and how, a number of a change, a text. -/
def toB (k : Int) : Bool := decide (k = 6)
def uidB (k : Int) : Bool := decide (k = 3) || (decide (k = 5) || decide (k = 6))
def modeB (k : Int) : Bool := decide (k = 2) || (decide (k = 3) || decide (k = 6))
def sinceB (k : Int) : Bool := decide (k = 3) || decide (k = 8)
def textsB (k : Int) : Bool := decide (k = 2)

/-- A command that may be. -/
def cmdB (k : Int) (bx tt : List Int) (uid mode fl si : Int) (tx : List Int) : Bool :=
  decide (0 ≤ k ∧ k ≤ 9) && (if k = 9 then decide (bx.length = 0) else nameB bx) && (if k = 6 then nameB tt else decide (tt.length = 0)) &&
  (if k = 3 ∨ k = 5 ∨ k = 6 then inB uid 1 1000000 else decide (uid = 0)) && inB mode 0 (if k = 3 then 2 else if k = 6 then 1 else 0) &&
  inB fl 0 (if k = 2 ∨ k = 3 then 31 else 0) && inB si 0 (if k = 3 ∨ k = 8 then 1000000 else 0) && (if k = 2 then textB tx else decide (tx.length = 0))

theorem nameB_len {l : List Int} (h : nameB l = true) : 1 ≤ l.length ∧ l.length ≤ 6 := by unfold nameB at h; simp at h; exact ⟨h.1, h.2.1⟩
theorem textB_nil {l : List Int} (h : l.length = 0) : textB l = true := by
  have : l = [] := List.eq_nil_of_length_eq_zero h
  subst this; rfl
theorem nameB_nil {l : List Int} (h : l.length = 0) : nameB l = false := by
  have : l = [] := List.eq_nil_of_length_eq_zero h
  subst this; rfl

end Go.Proofs.YtifpjdpcmfneaaaDoor

/- Commands as texts, on lists. -/
namespace Go.Proofs.YtifpjdpcmfneaaaDoor
open Go.RowKit

def kindW (k : Int) : List Int :=
  if k = 0 then [67, 82, 69, 65, 84, 69] else if k = 1 then [68, 69, 76, 69, 84, 69] else if k = 2 then [65, 80, 80, 69, 78, 68] else if k = 3 then [83, 84, 79, 82, 69] else if k = 4 then [69, 88, 80, 85, 78, 71, 69] else if k = 5 then [70, 69, 84, 67, 72] else if k = 6 then [67, 79, 80, 89] else if k = 7 then [83, 84, 65, 84, 85, 83] else if k = 8 then [67, 72, 65, 78, 71, 69, 83] else [76, 73, 83, 84]
def modeW (m : Int) : List Int := if m = 0 then [73, 83] else if m = 1 then [87, 73, 84, 72] else [87, 73, 84, 72, 79, 85, 84]
def sinceW : List Int := [83, 73, 78, 67, 69]
def awayW : List Int := [65, 87, 65, 89]
/-- What stands behind the kind's word. -/
def toksB (k : Int) (bx tt : List Int) (uid mode fl si : Int) (tx : List Int) : List (List Int) :=
  if k = 9 then [] else if k = 2 then [bx, flagsB fl, quoB tx]
  else if k = 3 then (if 0 < si then [bx, digB uid.toNat, modeW mode, flagsB fl, sinceW, digB si.toNat] else [bx, digB uid.toNat, modeW mode, flagsB fl])
  else if k = 5 then [bx, digB uid.toNat]
  else if k = 6 then (if mode = 1 then [bx, digB uid.toNat, tt, awayW] else [bx, digB uid.toNat, tt])
  else if k = 8 then [bx, digB si.toNat] else [bx]
/-- What CmdText answers. -/
def ctB (k : Int) (bx tt : List Int) (uid mode fl si : Int) (tx : List Int) : List Int := match cmdB k bx tt uid mode fl si tx with
  | true => kindW k ++ (toksB k bx tt uid mode fl si tx).flatMap (fun s => [32] ++ s)
  | false => []

end Go.Proofs.YtifpjdpcmfneaaaDoor

/- Data with depth in memory: lists of structs, what they read as, and lists of the call's own, whose blocks lie in a set. -/
namespace Go.Proofs.YtifpjdpcmfneaaaDoor
open Go.RowKit

/-- The blocks from B on and below T. -/
def In (B T : Nat) : Nat → Prop := fun b => B ≤ b ∧ b < T

/-- The slice value v reads as the list l, each element of sz cells that E says. -/
def Rd {α : Type} (sz : Nat) (E : World → List Value → α → Prop) (w : World) (v : Value) (l : List α) : Prop :=
  ∃ (a : Option Addr) (cap : Nat) (cs : Nat → List Value), v = .slice a l.length cap ∧ l.length ≤ cap ∧ cap ≤ maxLen ∧ (a = none → cap = 0) ∧
    (∀ i x, l[i]? = some x → E w (cs i) x ∧ (cs i).length = sz) ∧
    (0 < l.length → ∃ b off, a = some ⟨b, off, none⟩ ∧ b < w.heap.size ∧ ∀ i j u, i < l.length → (cs i)[j]? = some u → w.cell? ⟨b, off + i * sz + j, none⟩ = some u)

/-- What an element says stays while nothing old turns. -/
def Keeps {α : Type} (E : World → List Value → α → Prop) : Prop := ∀ w w' c x, Below w.heap.size w w' → E w c x → E w' c x

section
variable {α : Type} {sz : Nat} {E : World → List Value → α → Prop} {w w' : World} {v : Value} {l : List α}
theorem Rd.below (hE : Keeps E) (h : Rd sz E w v l) (hb : Below w.heap.size w w') : Rd sz E w' v l := by
  obtain ⟨a, cap, cs, hv, h1, h2, h3, h4, h5⟩ := h
  refine ⟨a, cap, cs, hv, h1, h2, h3, fun i x hx => ⟨hE _ _ _ _ hb (h4 i x hx).1, (h4 i x hx).2⟩, fun hp => ?_⟩
  obtain ⟨b, off, ha, hlt, hc⟩ := h5 hp
  exact ⟨b, off, ha, Nat.lt_of_lt_of_le hlt hb.size, fun i j u hi hu => (hb.cell (p := ⟨b, off + i * sz + j, none⟩) hlt).trans (hc i j u hi hu)⟩
theorem Rd.form (h : Rd sz E w v l) : ∃ a cap, v = .slice a l.length cap ∧ l.length ≤ cap ∧ cap ≤ 9223372036854775807 := by
  obtain ⟨a, cap, cs, hv, h1, h2, _⟩ := h
  exact ⟨a, cap, hv, h1, h2⟩
theorem Rd.get (h : Rd sz E w v l) (k : Nat) (x : α) (hx : l[k]? = some x) :
    ∃ b off cap c, v = .slice (some ⟨b, off, none⟩) l.length cap ∧ b < w.heap.size ∧ E w c x ∧ c.length = sz ∧ ∀ j u, c[j]? = some u → w.cell? ⟨b, off + k * sz + j, none⟩ = some u := by
  obtain ⟨a, cap, cs, hv, h1, h2, h3, h4, h5⟩ := h
  have hk : k < l.length := (List.getElem?_eq_some_iff.1 hx).1
  obtain ⟨b, off, rfl, hlt, hc⟩ := h5 (by omega)
  exact ⟨b, off, cap, cs k, hv, hlt, (h4 k x hx).1, (h4 k x hx).2, fun j u hu => hc k j u hk hu⟩
theorem Rd.nil (w : World) : Rd sz E w (.slice none 0 0) ([] : List α) := ⟨none, 0, fun _ => [], rfl, by simp, by simp, fun _ => rfl, by simp, by simp⟩
end

/-- The list l of the call's own: nil, or at the head of a block of S; what its elements lead to lies in S too, apart from that block and from one another. -/
def Ow {α : Type} (t : TypeId) (sz : Nat) (E : World → List Value → α → (Nat → Prop) → Prop) (w : World) (S : Nat → Prop) (v : Value) (l : List α) : Prop :=
  (v = .slice none 0 0 ∧ l = []) ∨
  ∃ (g cap : Nat) (cur : Array Value) (cs : Nat → List Value) (fs : Nat → Nat → Prop), v = .slice (some ⟨g, 0, none⟩) l.length cap ∧ w.heap[g]? = some (.cells cur t (0, 0)) ∧ l.length ≤ cap ∧ cap ≤ maxLen ∧ cur.size = cap * sz ∧ S g ∧
    (∀ i x, l[i]? = some x → E w (cs i) x (fs i) ∧ (cs i).length = sz ∧ ∀ j u, (cs i)[j]? = some u → cur[i * sz + j]? = some u) ∧
    (∀ i b, i < l.length → fs i b → S b ∧ b ≠ g) ∧ (∀ i j b, i < l.length → j < l.length → i ≠ j → fs i b → ¬ fs j b)

/-- What an element of the call's own says stays while its blocks do. -/
def Frames {α : Type} (E : World → List Value → α → (Nat → Prop) → Prop) : Prop := ∀ w w' c x S, E w c x S → (∀ b, S b → b < w.heap.size → w'.heap[b]? = w.heap[b]?) → E w' c x S

section
variable {α : Type} {t : TypeId} {sz : Nat} {E : World → List Value → α → (Nat → Prop) → Prop} {w w' : World} {S S' : Nat → Prop} {v : Value} {l : List α}
theorem Ow.frame (hE : Frames E) (h : Ow t sz E w S v l) (hw : ∀ b, S b → b < w.heap.size → w'.heap[b]? = w.heap[b]?) : Ow t sz E w' S v l := by
  rcases h with h | ⟨g, cap, cur, cs, fs, hv, hh, h1, h2, h3, h4, h5, h6, h7⟩
  · exact .inl h
  · refine .inr ⟨g, cap, cur, cs, fs, hv, (hw g h4 (lt_of_heap hh)).trans hh, h1, h2, h3, h4, fun i x hx => ⟨?_, (h5 i x hx).2⟩, h6, h7⟩
    have hi : i < l.length := (List.getElem?_eq_some_iff.1 hx).1
    exact hE _ _ _ _ _ (h5 i x hx).1 fun b hb hlt => hw b (h6 i b hi hb).1 hlt
theorem Ow.mono (h : Ow t sz E w S v l) (hS : ∀ b, S b → S' b) : Ow t sz E w S' v l := by
  rcases h with h | ⟨g, cap, cur, cs, fs, hv, hh, h1, h2, h3, h4, h5, h6, h7⟩
  · exact .inl h
  · exact .inr ⟨g, cap, cur, cs, fs, hv, hh, h1, h2, h3, hS g h4, h5, fun i b hi hb => ⟨hS b (h6 i b hi hb).1, (h6 i b hi hb).2⟩, h7⟩
theorem Ow.below (hE : Frames E) (h : Ow t sz E w S v l) (hb : Below w.heap.size w w') : Ow t sz E w' S v l := h.frame hE fun b _ hlt => hb.block b hlt
theorem Ow.keptW {B T : Nat} (hE : Frames E) (h : Ow t sz E w S v l) (hw : Within B T w w') (hd : ∀ b, S b → ¬ (B ≤ b ∧ b < T)) : Ow t sz E w' S v l := h.frame hE fun b hb hlt => hw.block b hlt (hd b hb)
theorem Ow.rd {RE : World → List Value → α → Prop} (hE : ∀ w c x S, E w c x S → RE w c x) (h : Ow t sz E w S v l) : Rd sz RE w v l := by
  rcases h with ⟨rfl, rfl⟩ | ⟨g, cap, cur, cs, fs, hv, hh, h1, h2, h3, h4, h5, h6, h7⟩
  · exact Rd.nil w
  · refine ⟨some ⟨g, 0, none⟩, cap, cs, hv, h1, h2, (fun h => by cases h), fun i x hx => ⟨hE _ _ _ _ (h5 i x hx).1, (h5 i x hx).2.1⟩, fun hp => ⟨g, 0, rfl, lt_of_heap hh, fun i j u hi hu => ?_⟩⟩
    rw [Nat.zero_add, cell_of_row w g _ cur t (0, 0) hh]
    exact (h5 i l[i] (List.getElem?_eq_getElem hi)).2.2 j u hu
end

/-- The cells of c laid into block g from o on. -/
def put (w : World) (g o : Nat) : List Value → World
  | [] => w
  | c :: cs => put (w.setCell ⟨g, o, none⟩ c) g (o + 1) cs

theorem put_spec (g : Nat) (t : TypeId) : ∀ (cs : List Value) (w : World) (o : Nat) (cur : Array Value), w.heap[g]? = some (.cells cur t (0, 0)) → o + cs.length ≤ cur.size →
    ∃ cur', (put w g o cs).heap[g]? = some (.cells cur' t (0, 0)) ∧ cur'.size = cur.size ∧ (∀ j u, cs[j]? = some u → cur'[o + j]? = some u) ∧ (∀ i, i < o ∨ o + cs.length ≤ i → cur'[i]? = cur[i]?) ∧ Within g (g + 1) w (put w g o cs)
  | [], w, o, cur, h, _ => ⟨cur, h, rfl, by simp, fun _ _ => rfl, Within.refl _ _ _⟩
  | c :: cs, w, o, cur, h, hs => by
    simp only [List.length_cons] at hs
    have h1 : (w.setCell ⟨g, o, none⟩ c).heap[g]? = some (.cells (cur.setIfInBounds o c) t (0, 0)) := heap_setCell_same w g o cur t c h
    obtain ⟨cur', e1, e2, e3, e4, e5⟩ := put_spec g t cs (w.setCell ⟨g, o, none⟩ c) (o + 1) _ h1 (by simp; omega)
    refine ⟨cur', e1, by simpa using e2, fun j u hu => ?_, fun i hi => ?_, ?_⟩
    · cases j with
      | zero =>
        simp at hu; subst hu
        rw [Nat.add_zero, e4 o (.inl (by omega)), Array.getElem?_setIfInBounds]
        simp [show o < cur.size by omega]
      | succ j =>
        have := e3 j u (by simpa using hu)
        rwa [show o + (j + 1) = o + 1 + j by omega]
    · simp only [List.length_cons] at hi
      rw [e4 i (by omega)]
      rw [Array.getElem?_setIfInBounds]
      simp [show ¬ o = i by omega]
    · exact (⟨rfl, rfl, rfl, by simp [World.setCell], fun k hk hn => Below.heap_setCell w ⟨g, o, none⟩ c k (show k ≠ g by omega)⟩ : Within g (g + 1) w (w.setCell ⟨g, o, none⟩ c)).trans e5

/-- A list that is being laid: k of its elements lie there. -/
def Part {α : Type} (t : TypeId) (sz : Nat) (E : World → List Value → α → (Nat → Prop) → Prop) (w : World) (g n k : Nat) (l : List α) : Prop :=
  ∃ (cur : Array Value) (cs : Nat → List Value) (fs : Nat → Nat → Prop), w.heap[g]? = some (.cells cur t (0, 0)) ∧ cur.size = n * sz ∧
    (∀ i x, i < k → l[i]? = some x → E w (cs i) x (fs i) ∧ (cs i).length = sz ∧ ∀ j u, (cs i)[j]? = some u → cur[i * sz + j]? = some u) ∧
    (∀ i b, i < k → fs i b → g < b ∧ b < w.heap.size) ∧ (∀ i j b, i < k → j < k → i ≠ j → fs i b → ¬ fs j b)

section
variable {α : Type} {t : TypeId} {sz : Nat} {E : World → List Value → α → (Nat → Prop) → Prop} {w w' : World} {l : List α} {g n k : Nat}
theorem Part.start {cur : Array Value} (h : w.heap[g]? = some (.cells cur t (0, 0))) (hs : cur.size = n * sz) : Part t sz E w g n 0 l := ⟨cur, fun _ => [], fun _ _ => False, h, hs, by simp, by simp, by simp⟩
theorem Part.cell (h : Part t sz E w g n k l) (i : Nat) (hi : i < n * sz) : (∃ u, w.cell? ⟨g, i, none⟩ = some u) ∧ w.frozen? ⟨g, i, none⟩ = false := by
  obtain ⟨cur, cs, fs, hh, hs, _⟩ := h
  refine ⟨⟨cur[i]'(by omega), ?_⟩, frozen_of_row w g i cur t hh⟩
  rw [cell_of_row w g i cur t (0, 0) hh]
  simp
theorem Part.lt (h : Part t sz E w g n k l) : g < w.heap.size := let ⟨_, _, _, hh, _⟩ := h; lt_of_heap hh
theorem Part.step (hE : Frames E) (h : Part t sz E w g n k l) (hb : Below w.heap.size w w') (x : α) (hx : l[k]? = some x) (hk : k < n) (c : List Value) (hc : c.length = sz) (he : E w' c x (In w.heap.size w'.heap.size)) :
    Part t sz E (put w' g (k * sz) c) g n (k + 1) l := by
  obtain ⟨cur, cs, fs, hh, hs, h1, h2, h3⟩ := h
  have hg : g < w.heap.size := lt_of_heap hh
  have hroom : k * sz + sz ≤ n * sz := by
    have := Nat.mul_le_mul_right sz (show k + 1 ≤ n by omega)
    rw [Nat.add_mul, Nat.one_mul] at this
    exact this
  obtain ⟨cur', e1, e2, e3, e4, e5⟩ := put_spec g t c w' (k * sz) cur ((hb.block g hg).trans hh) (by omega)
  have same : ∀ b, b ≠ g → b < w.heap.size → (put w' g (k * sz) c).heap[b]? = w.heap[b]? := fun b hne hlt =>
    (e5.block b (Nat.lt_of_lt_of_le hlt hb.size) (by omega)).trans (hb.block b hlt)
  refine ⟨cur', fun i => if i = k then c else cs i, fun i => if i = k then In w.heap.size w'.heap.size else fs i, e1, by omega, fun i y hi hy => ?_, fun i b hi hb' => ?_, fun i j b hi hj hne hbi hbj => ?_⟩
  · by_cases hik : i = k
    · subst hik
      rw [hx] at hy; cases hy
      simp only [if_true]
      refine ⟨hE _ _ _ _ _ he fun b hb' hlt => e5.block b hlt (by have := hb'.1; omega), hc, fun j u hu => e3 j u hu⟩
    · simp only [if_neg hik]
      have hi' : i < k := by omega
      obtain ⟨q1, q2, q3⟩ := h1 i y hi' hy
      refine ⟨hE _ _ _ _ _ q1 fun b hb' hlt => same b (by have := (h2 i b hi' hb').1; omega) hlt, q2, fun j u hu => ?_⟩
      have hj : j < sz := by have := (List.getElem?_eq_some_iff.1 hu).1; omega
      have hlow : i * sz + j < k * sz := by
        have := Nat.mul_le_mul_right sz (show i + 1 ≤ k by omega)
        rw [Nat.add_mul, Nat.one_mul] at this
        omega
      rw [e4 _ (.inl hlow)]
      exact q3 j u hu
  · by_cases hik : i = k
    · simp only [hik, if_true] at hb'
      have := e5.size
      exact ⟨by have := hb'.1; omega, by have := hb'.2; omega⟩
    · simp only [if_neg hik] at hb'
      have := h2 i b (by omega) hb'
      have := e5.size
      have := hb.size
      omega
  · by_cases hik : i = k
    · by_cases hjk : j = k
      · omega
      · simp only [hik, if_true] at hbi
        simp only [if_neg hjk] at hbj
        have := h2 j b (by omega) hbj
        have := hbi.1
        omega
    · simp only [if_neg hik] at hbi
      by_cases hjk : j = k
      · simp only [hjk, if_true] at hbj
        have := h2 i b (by omega) hbi
        have := hbj.1
        omega
      · simp only [if_neg hjk] at hbj
        exact h3 i j b (by omega) (by omega) hne hbi hbj
theorem Part.done {B : Nat} (h : Part t sz E w g n n l) (hn : l.length = n) (hm : n ≤ maxLen) (hB : B ≤ g) : Ow t sz E w (In B w.heap.size) (.slice (some ⟨g, 0, none⟩) n n) l := by
  obtain ⟨cur, cs, fs, hh, hs, h1, h2, h3⟩ := h
  subst hn
  refine .inr ⟨g, l.length, cur, cs, fs, rfl, hh, Nat.le_refl _, hm, hs, ⟨hB, lt_of_heap hh⟩, fun i x hx => h1 i x (List.getElem?_eq_some_iff.1 hx).1 hx, fun i b hi hb => ?_, h3⟩
  have := h2 i b hi hb
  exact ⟨⟨by omega, this.2⟩, by omega⟩
theorem put_below {B : Nat} {w0 w : World} (hb : Below B w0 w) (hB : B ≤ g) (o : Nat) (c : List Value) : Below B w0 (put w g o c) := by
  induction c generalizing w o with
  | nil => exact hb
  | cons x c ih => exact ih (hb.setCell (p := ⟨g, o, none⟩) hB x) (o + 1)
end

end Go.Proofs.YtifpjdpcmfneaaaDoor

/- Mails, boxes and accounts in memory: what they read as, and those of the call's own. -/
namespace Go.Proofs.YtifpjdpcmfneaaaDoor
open Go.RowKit

structure MailD where
  uid : Int
  flags : Int
  seq : Int
  text : List Int
structure GoneD where
  uid : Int
  seq : Int
structure BoxD where
  name : List Int
  valid : Int
  next : Int
  seq : Int
  mails : List MailD
  gones : List GoneD
  lost : Int
structure AccD where
  valid : Int
  boxes : List BoxD
  seen : List Int

/-- A row of bytes of the call's own whose block lies in S. -/
def RO (w : World) (S : Nat → Prop) (v : Value) (l : List Int) : Prop := Oct l ∧ w.ownsRow 0 5 1 v l.length (vals l) ∧ ∀ g, v.ownBlock = some g → S g

theorem Row.ro {w : World} {B T : Nat} {v : Value} {l : List Int} (h : Row w B T v l) : RO w (In B T) v l :=
  ⟨h.1, (h.wide (B' := 0) (T' := T) (Nat.zero_le _) (Nat.le_refl _)).2.1, fun g hg => ⟨(h.2.1.lt g hg).1, h.2.2 g hg⟩⟩
theorem RO.bs {w : World} {S : Nat → Prop} {v : Value} {l : List Int} (h : RO w S v l) : Bs w v l := (own_of_row h.1 rfl h.2.1).elim fun _ h => h.2.bs
theorem RO.mono {w : World} {S S' : Nat → Prop} {v : Value} {l : List Int} (h : RO w S v l) (hS : ∀ b, S b → S' b) : RO w S' v l := ⟨h.1, h.2.1, fun g hg => hS g (h.2.2 g hg)⟩
theorem RO.frame {w w' : World} {S : Nat → Prop} {v : Value} {l : List Int} (h : RO w S v l) (hw : ∀ b, S b → b < w.heap.size → w'.heap[b]? = w.heap[b]?) : RO w' S v l := by
  refine ⟨h.1, ⟨h.2.1.1, ?_⟩, h.2.2⟩
  rcases h.2.1.2 with hn | ⟨g, cap, cur, hv, hg, hh, r⟩
  · exact .inl hn
  · exact .inr ⟨g, cap, cur, hv, hg, (hw g (h.2.2 g (by rw [hv]; rfl)) (lt_of_heap hh)).trans hh, r⟩
theorem RO.below {w w' : World} {S : Nat → Prop} {v : Value} {l : List Int} (h : RO w S v l) (hb : Below w.heap.size w w') : RO w' S v l := h.frame fun b _ hlt => hb.block b hlt
theorem RO.nil (w : World) (S : Nat → Prop) : RO w S (.slice none 0 0) [] := ⟨oct_nil, World.ownsRow_nil _ _ _ _, fun g hg => by simp [Value.ownBlock] at hg⟩

def IntRE (_ : World) (c : List Value) (n : Int) : Prop := c = [.int .i64 n] ∧ I64 n
def MailRE (w : World) (c : List Value) (m : MailD) : Prop := ∃ u, c = [.int .i64 m.uid, .int .i64 m.flags, .int .i64 m.seq, u] ∧ Bs w u m.text ∧ I64 m.uid ∧ I64 m.flags ∧ I64 m.seq
def GoneRE (_ : World) (c : List Value) (m : GoneD) : Prop := c = [.int .i64 m.uid, .int .i64 m.seq] ∧ I64 m.uid ∧ I64 m.seq
abbrev IntsV := Rd 1 IntRE
abbrev MailsV := Rd 4 MailRE
abbrev GonesV := Rd 2 GoneRE
def BoxRE (w : World) (c : List Value) (b : BoxD) : Prop :=
  ∃ u0 u1 u2, c = [u0, .int .i64 b.valid, .int .i64 b.next, .int .i64 b.seq, u1, u2, .int .i64 b.lost] ∧ Bs w u0 b.name ∧ MailsV w u1 b.mails ∧ GonesV w u2 b.gones ∧ I64 b.valid ∧ I64 b.next ∧ I64 b.seq ∧ I64 b.lost
abbrev BoxesV := Rd 7 BoxRE

theorem keepsInt : Keeps IntRE := fun _ _ _ _ _ h => h
theorem keepsGone : Keeps GoneRE := fun _ _ _ _ _ h => h
theorem keepsMail : Keeps MailRE := fun _ _ _ _ hb h => let ⟨u, h0, h1, r⟩ := h; ⟨u, h0, h1.below hb, r⟩
theorem keepsBox : Keeps BoxRE := fun _ _ _ _ hb h => let ⟨u0, u1, u2, h0, h1, h2, h3, r⟩ := h; ⟨u0, u1, u2, h0, h1.below hb, h2.below keepsMail hb, h3.below keepsGone hb, r⟩

def IntE (_ : World) (c : List Value) (n : Int) (_ : Nat → Prop) : Prop := c = [.int .i64 n] ∧ I64 n
def MailE (w : World) (c : List Value) (m : MailD) (S : Nat → Prop) : Prop := ∃ u, c = [.int .i64 m.uid, .int .i64 m.flags, .int .i64 m.seq, u] ∧ RO w S u m.text ∧ I64 m.uid ∧ I64 m.flags ∧ I64 m.seq
def GoneE (_ : World) (c : List Value) (m : GoneD) (_ : Nat → Prop) : Prop := c = [.int .i64 m.uid, .int .i64 m.seq] ∧ I64 m.uid ∧ I64 m.seq
theorem framesInt : Frames IntE := fun _ _ _ _ _ h _ => h
theorem framesGone : Frames GoneE := fun _ _ _ _ _ h _ => h
theorem framesMail : Frames MailE := fun _ _ _ _ _ h hw => let ⟨u, h0, h1, r⟩ := h; ⟨u, h0, h1.frame hw, r⟩
abbrev IntsO := Ow 3 1 IntE
abbrev MailsO := Ow 96 4 MailE
abbrev GonesO := Ow 98 2 GoneE
def BoxE (w : World) (c : List Value) (b : BoxD) (S : Nat → Prop) : Prop :=
  ∃ u0 u1 u2 S0 S1 S2, c = [u0, .int .i64 b.valid, .int .i64 b.next, .int .i64 b.seq, u1, u2, .int .i64 b.lost] ∧ RO w S0 u0 b.name ∧ MailsO w S1 u1 b.mails ∧ GonesO w S2 u2 b.gones ∧ (∀ x, S0 x → S x ∧ ¬ S1 x ∧ ¬ S2 x) ∧ (∀ x, S1 x → S x ∧ ¬ S2 x) ∧ (∀ x, S2 x → S x) ∧
    I64 b.valid ∧ I64 b.next ∧ I64 b.seq ∧ I64 b.lost
theorem framesBox : Frames BoxE := fun _ _ _ _ _ h hw =>
  let ⟨u0, u1, u2, S0, S1, S2, h0, h1, h2, h3, d0, d1, d2, r⟩ := h
  ⟨u0, u1, u2, S0, S1, S2, h0, h1.frame fun b hb => hw b (d0 b hb).1, h2.frame framesMail fun b hb => hw b (d1 b hb).1, h3.frame framesGone fun b hb => hw b (d2 b hb), d0, d1, d2, r⟩
abbrev BoxesO := Ow 57 7 BoxE
theorem MailE.rd {w : World} {c : List Value} {m : MailD} {S : Nat → Prop} (h : MailE w c m S) : MailRE w c m := let ⟨u, h0, h1, r⟩ := h; ⟨u, h0, h1.bs, r⟩
theorem BoxE.rd {w : World} {c : List Value} {b : BoxD} {S : Nat → Prop} (h : BoxE w c b S) : BoxRE w c b :=
  let ⟨u0, u1, u2, _, _, _, h0, h1, h2, h3, _, _, _, r⟩ := h; ⟨u0, u1, u2, h0, h1.bs, h2.rd fun _ _ _ _ => MailE.rd, h3.rd fun _ _ _ _ h => h, r⟩

def AccV (w : World) (v : Value) (a : AccD) : Prop := ∃ u0 u1, v = .agg #[.int .i64 a.valid, u0, u1] ∧ BoxesV w u0 a.boxes ∧ IntsV w u1 a.seen ∧ I64 a.valid
theorem AccV.below {w w' : World} {v : Value} {a : AccD} (h : AccV w v a) (hb : Below w.heap.size w w') : AccV w' v a := let ⟨u0, u1, h0, h1, h2, r⟩ := h; ⟨u0, u1, h0, h1.below keepsBox hb, h2.below keepsInt hb, r⟩
def AccO (w : World) (S : Nat → Prop) (v : Value) (a : AccD) : Prop := ∃ u0 u1 S0 S1, v = .agg #[.int .i64 a.valid, u0, u1] ∧ BoxesO w S0 u0 a.boxes ∧ IntsO w S1 u1 a.seen ∧ (∀ x, S0 x → S x ∧ ¬ S1 x) ∧ (∀ x, S1 x → S x) ∧ I64 a.valid
theorem AccO.v {w : World} {S : Nat → Prop} {v : Value} {a : AccD} (h : AccO w S v a) : AccV w v a :=
  let ⟨u0, u1, _, _, h0, h1, h2, _, _, r⟩ := h; ⟨u0, u1, h0, h1.rd fun _ _ _ _ => BoxE.rd, h2.rd fun _ _ _ _ h => h, r⟩
theorem AccO.frame {w w' : World} {S : Nat → Prop} {v : Value} {a : AccD} (h : AccO w S v a) (hw : ∀ b, S b → b < w.heap.size → w'.heap[b]? = w.heap[b]?) : AccO w' S v a :=
  let ⟨u0, u1, S0, S1, h0, h1, h2, d0, d1, r⟩ := h; ⟨u0, u1, S0, S1, h0, h1.frame framesBox fun b hb => hw b (d0 b hb).1, h2.frame framesInt fun b hb => hw b (d1 b hb), d0, d1, r⟩
theorem AccO.below {w w' : World} {S : Nat → Prop} {v : Value} {a : AccD} (h : AccO w S v a) (hb : Below w.heap.size w w') : AccO w' S v a := h.frame fun b _ hlt => hb.block b hlt
/-- A box as a value. -/
def BoxV (w : World) (v : Value) (b : BoxD) : Prop :=
  ∃ u0 u1 u2, v = .agg #[u0, .int .i64 b.valid, .int .i64 b.next, .int .i64 b.seq, u1, u2, .int .i64 b.lost] ∧ Bs w u0 b.name ∧ MailsV w u1 b.mails ∧ GonesV w u2 b.gones ∧ I64 b.valid ∧ I64 b.next ∧ I64 b.seq ∧ I64 b.lost
theorem BoxV.below {w w' : World} {v : Value} {b : BoxD} (h : BoxV w v b) (hb : Below w.heap.size w w') : BoxV w' v b := let ⟨u0, u1, u2, h0, h1, h2, h3, r⟩ := h; ⟨u0, u1, u2, h0, h1.below hb, h2.below keepsMail hb, h3.below keepsGone hb, r⟩
def BoxO (w : World) (S : Nat → Prop) (v : Value) (b : BoxD) : Prop := ∃ c, v = .agg c.toArray ∧ BoxE w c b S
theorem BoxO.v {w : World} {S : Nat → Prop} {v : Value} {b : BoxD} (h : BoxO w S v b) : BoxV w v b := by
  obtain ⟨c, rfl, h⟩ := h
  obtain ⟨u0, u1, u2, rfl, r⟩ := h.rd
  exact ⟨u0, u1, u2, rfl, r⟩
def MailV (w : World) (v : Value) (m : MailD) : Prop := ∃ u, v = .agg #[.int .i64 m.uid, .int .i64 m.flags, .int .i64 m.seq, u] ∧ Bs w u m.text ∧ I64 m.uid ∧ I64 m.flags ∧ I64 m.seq
theorem MailV.below {w w' : World} {v : Value} {m : MailD} (h : MailV w v m) (hb : Below w.heap.size w w') : MailV w' v m := let ⟨u, h0, h1, r⟩ := h; ⟨u, h0, h1.below hb, r⟩

/-- One element's cells, as the walk asks for them. -/
theorem IntsV.cell {w : World} {v : Value} {l : List Int} (h : IntsV w v l) (k : Nat) (x : Int) (hx : l[k]? = some x) : ∃ b off cap, v = .slice (some ⟨b, off, none⟩) l.length cap ∧ b < w.heap.size ∧ w.cell? ⟨b, off + k, none⟩ = some (.int .i64 x) ∧ I64 x := by
  obtain ⟨b, off, cap, c, hv, hlt, ⟨rfl, hi⟩, -, hc⟩ := h.get k x hx
  exact ⟨b, off, cap, hv, hlt, by simpa using hc 0 _ rfl, hi⟩
theorem GonesV.cell {w : World} {v : Value} {l : List GoneD} (h : GonesV w v l) (k : Nat) (x : GoneD) (hx : l[k]? = some x) : ∃ b off cap, v = .slice (some ⟨b, off, none⟩) l.length cap ∧ b < w.heap.size ∧ w.cell? ⟨b, off + k * 2, none⟩ = some (.int .i64 x.uid) ∧ w.cell? ⟨b, off + k * 2 + 1, none⟩ = some (.int .i64 x.seq) ∧ I64 x.uid ∧ I64 x.seq := by
  obtain ⟨b, off, cap, c, hv, hlt, ⟨rfl, hi⟩, -, hc⟩ := h.get k x hx
  exact ⟨b, off, cap, hv, hlt, hc 0 _ rfl, hc 1 _ rfl, hi⟩
theorem MailsV.cell {w : World} {v : Value} {l : List MailD} (h : MailsV w v l) (k : Nat) (x : MailD) (hx : l[k]? = some x) : ∃ b off cap u, v = .slice (some ⟨b, off, none⟩) l.length cap ∧ b < w.heap.size ∧ w.cell? ⟨b, off + k * 4, none⟩ = some (.int .i64 x.uid) ∧ w.cell? ⟨b, off + k * 4 + 1, none⟩ = some (.int .i64 x.flags) ∧
    w.cell? ⟨b, off + k * 4 + 2, none⟩ = some (.int .i64 x.seq) ∧ w.cell? ⟨b, off + k * 4 + 3, none⟩ = some u ∧ Bs w u x.text ∧ I64 x.uid ∧ I64 x.flags ∧ I64 x.seq := by
  obtain ⟨b, off, cap, c, hv, hlt, ⟨u, rfl, hu, hi⟩, -, hc⟩ := h.get k x hx
  exact ⟨b, off, cap, u, hv, hlt, hc 0 _ rfl, hc 1 _ rfl, hc 2 _ rfl, hc 3 _ rfl, hu, hi⟩
theorem BoxesV.cell {w : World} {v : Value} {l : List BoxD} (h : BoxesV w v l) (k : Nat) (x : BoxD) (hx : l[k]? = some x) : ∃ b off cap u0 u1 u2, v = .slice (some ⟨b, off, none⟩) l.length cap ∧ b < w.heap.size ∧ w.cell? ⟨b, off + k * 7, none⟩ = some u0 ∧ w.cell? ⟨b, off + k * 7 + 1, none⟩ = some (.int .i64 x.valid) ∧
    w.cell? ⟨b, off + k * 7 + 2, none⟩ = some (.int .i64 x.next) ∧ w.cell? ⟨b, off + k * 7 + 3, none⟩ = some (.int .i64 x.seq) ∧ w.cell? ⟨b, off + k * 7 + 4, none⟩ = some u1 ∧ w.cell? ⟨b, off + k * 7 + 5, none⟩ = some u2 ∧ w.cell? ⟨b, off + k * 7 + 6, none⟩ = some (.int .i64 x.lost) ∧
    Bs w u0 x.name ∧ MailsV w u1 x.mails ∧ GonesV w u2 x.gones ∧ I64 x.valid ∧ I64 x.next ∧ I64 x.seq ∧ I64 x.lost := by
  obtain ⟨b, off, cap, c, hv, hlt, ⟨u0, u1, u2, rfl, h0, h1, h2, hi⟩, -, hc⟩ := h.get k x hx
  exact ⟨b, off, cap, u0, u1, u2, hv, hlt, hc 0 _ rfl, hc 1 _ rfl, hc 2 _ rfl, hc 3 _ rfl, hc 4 _ rfl, hc 5 _ rfl, hc 6 _ rfl, h0, h1, h2, hi⟩

/-- How many values a mail, a list of mails, a box, a list of boxes hold. -/
def szM (l : List MailD) : Nat := (l.map fun m => m.text.length + 1).sum
def szX (b : BoxD) : Nat := b.name.length + szM b.mails + b.gones.length
def szXs (l : List BoxD) : Nat := (l.map fun b => szX b + 1).sum
theorem szM_mem {l : List MailD} {m : MailD} (h : m ∈ l) : m.text.length + 1 ≤ szM l := by
  induction l with
  | nil => cases h
  | cons x l ih =>
    simp only [szM, List.map_cons, List.sum_cons] at ih ⊢
    rcases List.mem_cons.1 h with rfl | h
    · omega
    · have := ih h; omega
theorem szXs_mem {l : List BoxD} {b : BoxD} (h : b ∈ l) : szX b + 1 ≤ szXs l := by
  induction l with
  | nil => cases h
  | cons x l ih =>
    simp only [szXs, List.map_cons, List.sum_cons] at ih ⊢
    rcases List.mem_cons.1 h with rfl | h
    · omega
    · have := ih h; omega
theorem szM_len (l : List MailD) : l.length ≤ szM l := by
  induction l with
  | nil => simp [szM]
  | cons x l ih => simp only [szM, List.map_cons, List.sum_cons, List.length_cons] at ih ⊢; omega
theorem szXs_len (l : List BoxD) : l.length ≤ szXs l := by
  induction l with
  | nil => simp [szXs]
  | cons x l ih => simp only [szXs, List.map_cons, List.sum_cons, List.length_cons] at ih ⊢; omega

end Go.Proofs.YtifpjdpcmfneaaaDoor

/- What stays while bytes of the call's own are put behind one another: all below B, and all that are no bytes. -/
namespace Go.Proofs.YtifpjdpcmfneaaaDoor
open Go.RowKit

structure Tw (B : Nat) (w w' : World) : Prop where
  below : Below B w w'
  typed : ∀ (b : Nat) (c : Array Value) (t : TypeId) (f : Nat × Nat), t ≠ 5 → w.heap[b]? = some (Obj.cells c t f) → w'.heap[b]? = some (Obj.cells c t f)

theorem Tw.refl (B : Nat) (w : World) : Tw B w w := ⟨Below.refl _ _, fun _ _ _ _ _ h => h⟩
theorem Tw.trans {B : Nat} {a b c : World} (h : Tw B a b) (k : Tw B b c) : Tw B a c := ⟨h.below.trans k.below, fun i cs t f ht hc => k.typed i cs t f ht (h.typed i cs t f ht hc)⟩
theorem Tw.of_below {B : Nat} {w w' : World} (hB : B ≤ w.heap.size) (h : Below w.heap.size w w') : Tw B w w' := ⟨h.mono hB, fun b _ _ _ _ hb => (h.block b (lt_of_heap hb)).trans hb⟩
theorem Tw.alloc {B : Nat} {w : World} (hB : B ≤ w.heap.size) (o : Obj) : Tw B w (w.alloc o) := Tw.of_below hB ((Below.refl _ _).alloc (Nat.le_refl _) o)
theorem Tw.grown {B : Nat} {w w' : World} {v : Value} {l : List Int} (hv : OwnB w B v l) (hB : B ≤ w.heap.size) (hg : w.grownBy w' v.ownBlock) : Tw B w w' := by
  refine ⟨(Below.refl B w).grown hg hB (fun k hk => (hv.row.lt k hk).1), fun b c t f ht hb => (hg.block b (lt_of_heap hb) fun e => ?_).trans hb⟩
  obtain ⟨g, _, _, ⟨rfl, _⟩ | ⟨cap, cur, rfl, hh, _⟩⟩ := hv
  · simp [Value.ownBlock] at e
  · simp only [Value.ownBlock, Option.some.injEq] at e
    subst e
    rw [hb] at hh
    simp only [Option.some.injEq, Obj.cells.injEq] at hh
    exact ht hh.2.1
theorem Tw.size {B : Nat} {w w' : World} (h : Tw B w w') : w.heap.size ≤ w'.heap.size := h.below.size
theorem Tw.box {B g : Nat} {w w' : World} {c : Array Value} {t : TypeId} (h : Tw B w w') (ht : t ≠ 5) (hb : w.heap[g]? = some (.cells c t (0, 0))) : w'.heap[g]? = some (.cells c t (0, 0)) := h.typed g c t _ ht hb
theorem OwnB.nil' (w : World) (B : Nat) : OwnB w B (.slice none 0 0) [] := ⟨B, Nat.le_refl _, oct_nil, .inl ⟨rfl, rfl⟩⟩

end Go.Proofs.YtifpjdpcmfneaaaDoor

/- What l4kind of package spec does. -/
namespace Go.Proofs.YtifpjdpcmfneaaaDoor
open Go.RowKit
set_option maxRecDepth 100000
set_option linter.unusedVariables false

set_option maxRecDepth 100000 in
set_option maxHeartbeats 2000000 in
theorem l4kind_r (k : Int) (h : 0 ≤ k ∧ k ≤ 9) (w : World) :
    Calls Tryd.prog 70 #[.int .i64 k] w fun e w' => e = .returned (.string (strOfNums (kindW k))) ∧ Below w.heap.size w w' := by
  have hk : k = 0 ∨ k = 1 ∨ k = 2 ∨ k = 3 ∨ k = 4 ∨ k = 5 ∨ k = 6 ∨ k = 7 ∨ k = 8 ∨ k = 9 := by omega
  rcases hk with rfl | rfl | rfl | rfl | rfl | rfl | rfl | rfl | rfl | rfl
  all_goals
    go_enter Tryd.func70, Tryd.ntmps70
    go_wp2
    go_ret
    exact ⟨rfl, (Below.refl _ _).alloc (Nat.le_refl _) _⟩

end Go.Proofs.YtifpjdpcmfneaaaDoor

/- Regions that draw their order, walked in the text's order: what each operation asks of the others is reckoned once for a region, in a table. -/
namespace Go.Proofs.YtifpjdpcmfneaaaDoor
set_option linter.unusedVariables false

/-- The operations of the region with this number. -/
def opsAt (id : Nat) : Code → Option (Array Oper)
  | .region i ops _ => if i == id then some ops else none
  | .seq a b => (opsAt id a).or (opsAt id b)
  | .cond _ a b => (opsAt id a).or (opsAt id b)
  | .block _ a => opsAt id a
  | .loop a => opsAt id a
  | _ => none

/-- The first i of n are listed. -/
def upto (n i : Nat) : Array Bool := (List.replicate i true ++ List.replicate (n - i) false).toArray
theorem upto_zero (n : Nat) : upto n 0 = Array.replicate n false := by simp [upto]
theorem upto_succ {n i : Nat} (h : i < n) : (upto n i).setIfInBounds i true = upto n (i + 1) := by
  have e : n - i = (n - (i + 1)) + 1 := by omega
  unfold upto
  rw [List.setIfInBounds_toArray]
  congr 1
  rw [List.set_append_right _ _ (by simp), List.length_replicate, Nat.sub_self, e, List.replicate_succ, List.set_cons_zero, List.replicate_succ', List.append_assoc]
  rfl

def statAt (ops : Array Oper) (n i : Nat) : Bool := Region.free .any ops (upto n i) i && (Region.ready .any ops (upto n i)).contains i
/-- cs: the operations that come up alone. -/
def table (ops : Array Oper) (n : Nat) (cs : List Nat) : Bool := (ops.size == n) && (Region.noSelect ops && ((List.range n).all (statAt ops n) && ((Region.ready .any ops (upto n n)).isEmpty && cs.all fun i => (Nat.blt i n) && (Region.ready .any ops (upto n i) == [i]))))

/-- The table's word, in a wrapping that no walk looks into. -/
structure Tab (ops : Array Oper) (n : Nat) (cs : List Nat) : Prop where
  out : table ops n cs = true

/-- What is left of the region when the first i operations are done. -/
def wpAt (P : Program) (ops : Array Oper) (Q : Exit → Act → World → Prop) (S : World → Prop) (n i : Nat) (a : Act) (w : World) : Prop := wpAnyH P .any ops Q S (n - i) (upto n i) a w

/-- Slot d filled: what 'put' does, in a form that computes by itself. -/
def setT (a : Act) (d : Nat) (v : Value) : Act := { a with tmps := (a.tmps.toList.set d v).toArray }
theorem put_setT (a : Act) (d : Nat) (v : Value) : a.put (some d) v = setT a d v := by
  unfold Act.put setT
  simp only
  congr 1
  exact Array.ext' (by simp)

section
variable {P : Program} {ops : Array Oper} {Q : Exit → Act → World → Prop} {S : World → Prop} {n : Nat} {cs : List Nat} {a : Act} {w : World}
theorem tab_of {c : Option Code} {id : Nat} (h : c.bind (opsAt id) = some ops) (T : (c.bind (opsAt id)).all (fun o => table o n cs) = true) : Tab ops n cs := by
  rw [h] at T; exact ⟨by simpa using T⟩
theorem table_parts (T' : Tab ops n cs) : ops.size = n ∧ Region.noSelect ops = true ∧ (∀ i, i < n → Region.free .any ops (upto n i) i = true ∧ (Region.ready .any ops (upto n i)).contains i = true) ∧ Region.ready .any ops (upto n n) = [] ∧ ∀ i, i ∈ cs → i < n ∧ Region.ready .any ops (upto n i) = [i] := by
  have T := T'.out
  simp only [table, Bool.and_eq_true, beq_iff_eq, List.all_eq_true, List.mem_range, statAt, List.isEmpty_iff, Nat.blt_eq] at T
  exact ⟨T.1, T.2.1, fun i hi => T.2.2.1 i hi, T.2.2.2.1, fun i hi => T.2.2.2.2 i hi⟩
theorem wp_begin {id : Nat} (T : Tab ops n cs) (hm : P.follows .mixedOrders = true) (hS : S w.drew) (h : Tab ops n cs → S w.drew → wpAt P ops Q S n 0 a w.drew) : Code.wp P (.region id ops true) Q a w := by
  refine wp_region_held_drew (S := S) hm hS fun hs => ?_
  obtain ⟨h1, -⟩ := table_parts T
  subst h1
  rw [← upto_zero]
  exact h T hs
/-- Operation i is taken; it is wanted. -/
theorem tkp (i d : Nat) {oi : Oper} (v : Value) (T : Tab ops n cs) (hy : ∀ w, S w → (execOp a.eval oi).run P w = .ok (.value v) w) (hS : S w) (h : wpAt P ops Q S n (i + 1) (setT a d v) w)
    (hi : ops[i]? = some oi := by rfl)
    (hg : (oi.dst == some d && Region.wanted oi (yielded ops a.tmps)) = true := by kernel_rfl)
    (hQ : ∀ c a w, Q (.panic c) (a.put (some d) v) w → Q (.panic c) a w := by exact fun _ _ _ h => h) : wpAt P ops Q S n i a w := by
  obtain ⟨h1, h2, h3, h4, h5⟩ := table_parts T
  have hlt : i < n := by have := (Array.getElem?_eq_some_iff.1 hi).1; omega
  simp only [Bool.and_eq_true, beq_iff_eq] at hg
  rw [← put_setT] at h
  unfold wpAt at h ⊢
  rw [show n - i = (n - (i + 1)) + 1 by omega]
  rw [← upto_succ hlt] at h
  exact wpAnyH_take hi h2 (h3 i hlt).1 (h3 i hlt).2 (by rw [hg.1]; exact hQ) (Or.inl ⟨hg.2, hy⟩) hS (by rw [hg.1]; exact h)
/-- None of these is wanted; ds: the slots that they would fill. -/
def skipsD (ops : Array Oper) : Nat → List Nat → Array Value → Bool
  | _, [], _ => true
  | i, d :: ds, tm => match ops[i]? with
    | some o => (o.dst == some d) && (!(Region.wanted o (yielded ops tm)) && skipsD ops (i + 1) ds (tm.toList.set d undef).toArray)
    | none => false
theorem skp (T : Tab ops n cs) (hQ : ∀ (d : Nat) v c a w, Q (.panic c) (a.put (some d) v) w → Q (.panic c) a w) (hS : S w) :
    ∀ (ds : List Nat) (i : Nat) (a : Act), skipsD ops i ds a.tmps = true → wpAt P ops Q S n (i + ds.length) (ds.foldl (fun a d => setT a d undef) a) w → wpAt P ops Q S n i a w
  | [], _, _, _, h => h
  | d :: ds, i, a, hk, h => by
    unfold skipsD at hk
    split at hk
    · rename_i o ho
      simp only [Bool.and_eq_true, beq_iff_eq, Bool.not_eq_true'] at hk
      obtain ⟨k1, k2, k3⟩ := hk
      obtain ⟨h1, h2, h3, h4, h5⟩ := table_parts T
      have hlt : i < n := by have := (Array.getElem?_eq_some_iff.1 ho).1; omega
      have hr := skp T hQ hS ds (i + 1) (setT a d undef) (by simpa [setT] using k3) (by rw [show i + 1 + ds.length = i + (d :: ds).length by simp; omega]; exact h)
      rw [← put_setT] at hr
      unfold wpAt at hr ⊢
      rw [show n - i = (n - (i + 1)) + 1 by omega]
      rw [← upto_succ hlt] at hr
      exact wpAnyH_take (v := undef) ho h2 (h3 i hlt).1 (h3 i hlt).2 (fun c a w => by rw [k1]; exact hQ d _ c a w) (Or.inr ⟨k2, rfl⟩) hS (by rw [k1]; exact hr)
    · cases hk
theorem skj {i j : Nat} (ds : List Nat) (hj : i + ds.length = j) (T : Tab ops n cs) (hQ : ∀ (d : Nat) v c a w, Q (.panic c) (a.put (some d) v) w → Q (.panic c) a w) (hS : S w) (hk : skipsD ops i ds a.tmps = true)
    (h : wpAt P ops Q S n j (ds.foldl (fun a d => setT a d undef) a) w) : wpAt P ops Q S n i a w := skp T hQ hS ds i a hk (by rw [hj]; exact h)
/-- Operation i is a call: it comes up alone. -/
theorem clp (i : Nat) (T : Tab ops n cs) (hi : i ∈ cs) (h : AllReadyH P .any ops Q S (n - (i + 1)) (upto n i) a w [i]) : wpAt P ops Q S n i a w := by
  obtain ⟨h1, h2, h3, h4, h5⟩ := table_parts T
  have hlt := (h5 i hi).1
  unfold wpAt
  rw [show n - i = (n - (i + 1)) + 1 by omega]
  exact wpAnyH_ready (h5 i hi).2 (by simp) h
theorem wpAt_in {i f : Nat} {l : Array Bool} (hlt : i < n) (hf : f = n - (i + 1)) (hl : l = (upto n i).setIfInBounds i true) (h : wpAt P ops Q S n (i + 1) a w) : wpAnyH P .any ops Q S f l a w := by
  subst hf hl
  rw [upto_succ hlt]
  exact h
theorem wp_end (T : Tab ops n cs) (h : Q .normal a w) : wpAt P ops Q S n n a w := by
  obtain ⟨h1, h2, h3, h4, h5⟩ := table_parts T
  exact wpAnyH_done h4 h _
end
theorem putA {α : Type} (l : List α) (i : Nat) (a : α) : l.toArray.setIfInBounds i a = (l.set i a).toArray := by simp
theorem put0 {α : Type} (x : α) (l : List α) (a : α) : (x :: l).set 0 a = a :: l := rfl
theorem putS {α : Type} (x : α) (l : List α) (i : Nat) (a : α) : (x :: l).set (i + 1) a = x :: l.set i a := rfl

end Go.Proofs.YtifpjdpcmfneaaaDoor

/- Regions that draw their order, walked in a given order: what each operation asks of the others is reckoned once for a region, in a table. -/
namespace Go.Proofs.YtifpjdpcmfneaaaDoor
set_option linter.unusedVariables false

/-- Which operations are done when the first p of the order are. -/
def doneA (n : Nat) (l : List Nat) : Array Bool := l.foldl (fun a i => a.setIfInBounds i true) (Array.replicate n false)
theorem doneA_step {n p i : Nat} {ord : List Nat} (h : ord[p]? = some i) : (doneA n (ord.take p)).setIfInBounds i true = doneA n (ord.take (p + 1)) := by
  have hp : p < ord.length := (List.getElem?_eq_some_iff.1 h).1
  rw [List.take_succ_eq_append_getElem hp, (List.getElem?_eq_some_iff.1 h).2]
  unfold doneA
  rw [List.foldl_append]
  rfl
/-- cs: the places of those that come up alone. -/
def tableO (ops : Array Oper) (n : Nat) (ord cs : List Nat) : Bool :=
  (ops.size == n) && ((ord.length == n) && (Region.noSelect ops && ((List.range n).all (fun p => match ord[p]? with
    | some i => cs.contains p || (Region.free .any ops (doneA n (ord.take p)) i && (Region.ready .any ops (doneA n (ord.take p))).contains i)
    | none => false) && ((Region.ready .any ops (doneA n (ord.take n))).isEmpty && cs.all fun p => match ord[p]? with
    | some i => Nat.blt p n && (Region.ready .any ops (doneA n (ord.take p)) == [i])
    | none => false))))

/-- What is left of the region when the first p operations of the order are done. -/
def wpOrd (P : Program) (ops : Array Oper) (Q : Exit → Act → World → Prop) (S : World → Prop) (n : Nat) (ord : List Nat) (p : Nat) (a : Act) (w : World) : Prop := wpAnyH P .any ops Q S (n - p) (doneA n (ord.take p)) a w

/-- The table's word, in a wrapping that no walk looks into. -/
structure TabO (ops : Array Oper) (n : Nat) (ord cs : List Nat) : Prop where
  out : tableO ops n ord cs = true

section
variable {P : Program} {ops : Array Oper} {Q : Exit → Act → World → Prop} {S : World → Prop} {n : Nat} {ord cs : List Nat} {a : Act} {w : World}
theorem tabO_of {c : Option Code} {id : Nat} (h : c.bind (opsAt id) = some ops) (T : (c.bind (opsAt id)).all (fun o => tableO o n ord cs) = true) : TabO ops n ord cs := by
  rw [h] at T; exact ⟨by simpa using T⟩
theorem tabO_parts (T' : TabO ops n ord cs) : ops.size = n ∧ ord.length = n ∧ Region.noSelect ops = true ∧ (∀ p i, ord[p]? = some i → ¬ p ∈ cs → Region.free .any ops (doneA n (ord.take p)) i = true ∧ (Region.ready .any ops (doneA n (ord.take p))).contains i = true) ∧ Region.ready .any ops (doneA n (ord.take n)) = [] ∧
    ∀ p i, p ∈ cs → ord[p]? = some i → p < n ∧ Region.ready .any ops (doneA n (ord.take p)) = [i] := by
  have T := T'.out
  simp only [tableO, Bool.and_eq_true, beq_iff_eq, List.all_eq_true, List.mem_range, List.isEmpty_iff] at T
  obtain ⟨h1, h2, h3, h4, h5, h6⟩ := T
  refine ⟨h1, h2, h3, fun p i hp hc => ?_, h5, fun p i hc hp => ?_⟩
  · have hlt : p < n := by have := (List.getElem?_eq_some_iff.1 hp).1; omega
    have := h4 p hlt
    rw [hp] at this
    simp only [Bool.or_eq_true, Bool.and_eq_true, List.contains_iff_mem] at this
    rcases this with h | h
    · exact absurd h hc
    · exact ⟨h.1, by simpa using h.2⟩
  · have := h6 p hc
    rw [hp] at this
    simp only [Bool.and_eq_true, beq_iff_eq, Nat.blt_eq] at this
    exact this
theorem wpO_begin {id : Nat} (T : TabO ops n ord cs) (hm : P.follows .mixedOrders = true) (hS : S w.drew) (h : TabO ops n ord cs → S w.drew → wpOrd P ops Q S n ord 0 a w.drew) : Code.wp P (.region id ops true) Q a w := by
  refine wp_region_held_drew (S := S) hm hS fun hs => ?_
  obtain ⟨h1, -⟩ := tabO_parts T
  subst h1
  exact h T hs
/-- The operation at place p of the order is taken; it is wanted. -/
theorem tko (p i d : Nat) {oi : Oper} (v : Value) (T : TabO ops n ord cs) (hy : ∀ w, S w → (execOp a.eval oi).run P w = .ok (.value v) w) (hS : S w) (h : wpOrd P ops Q S n ord (p + 1) (setT a d v) w)
    (hp : ord[p]? = some i := by rfl) (hc : ¬ p ∈ cs := by decide)
    (hi : ops[i]? = some oi := by rfl)
    (hg : (oi.dst == some d && Region.wanted oi (yielded ops a.tmps)) = true := by kernel_rfl)
    (hQ : ∀ c a w, Q (.panic c) (a.put (some d) v) w → Q (.panic c) a w := by exact fun _ _ _ h => h) : wpOrd P ops Q S n ord p a w := by
  obtain ⟨h1, h2, h3, h4, h5, h6⟩ := tabO_parts T
  have hlt : p < n := by have := (List.getElem?_eq_some_iff.1 hp).1; omega
  simp only [Bool.and_eq_true, beq_iff_eq] at hg
  rw [← put_setT] at h
  unfold wpOrd at h ⊢
  rw [show n - p = (n - (p + 1)) + 1 by omega]
  rw [← doneA_step hp] at h
  exact wpAnyH_take hi h3 (h4 p i hp hc).1 (h4 p i hp hc).2 (by rw [hg.1]; exact hQ) (Or.inl ⟨hg.2, hy⟩) hS (by rw [hg.1]; exact h)
/-- The operation at place p comes up alone: a call, or one that makes memory. -/
theorem clo (p i : Nat) (T : TabO ops n ord cs) (hc : p ∈ cs) (hp : ord[p]? = some i) (h : AllReadyH P .any ops Q S (n - (p + 1)) (doneA n (ord.take p)) a w [i]) : wpOrd P ops Q S n ord p a w := by
  obtain ⟨h1, h2, h3, h4, h5, h6⟩ := tabO_parts T
  have hlt := (h6 p i hc hp).1
  unfold wpOrd
  rw [show n - p = (n - (p + 1)) + 1 by omega]
  exact wpAnyH_ready (h6 p i hc hp).2 (by simp) h
theorem wpOrd_in {p i f : Nat} {l : Array Bool} (hp : ord[p]? = some i) (hf : f = n - (p + 1)) (hl : l = (doneA n (ord.take p)).setIfInBounds i true) (h : wpOrd P ops Q S n ord (p + 1) a w) : wpAnyH P .any ops Q S f l a w := by
  subst hf hl
  rw [doneA_step hp]
  exact h
theorem wpO_end (T : TabO ops n ord cs) (h : Q .normal a w) : wpOrd P ops Q S n ord n a w := by
  obtain ⟨h1, h2, h3, h4, h5, h6⟩ := tabO_parts T
  exact wpAnyH_done h5 h _
end

end Go.Proofs.YtifpjdpcmfneaaaDoor

/- In a region that draws its order: operations whose guards are not met are passed by together. -/
namespace Go.Proofs.YtifpjdpcmfneaaaDoor


/-- These operations may come up one behind the other, and none is wanted; ds: the slots that they would fill. -/
def skipsOk (md : Region.Mode) (ops : Array Oper) : List Nat → List Nat → Array Bool → Array Value → Bool
  | [], [], _, _ => true
  | i :: is, d :: ds, l, tm => match ops[i]? with
    | some o => (o.dst == some d) && (Region.free md ops l i && ((Region.ready md ops l).contains i && (!(Region.wanted o (yielded ops tm)) && skipsOk md ops is ds (l.setIfInBounds i true) (tm.setIfInBounds d undef))))
    | none => false
  | _, _, _, _ => false

theorem wpAnyH_skips {P : Program} {md : Region.Mode} {ops : Array Oper} {Q : Exit → Act → World → Prop} {S : World → Prop} {w : World} (hs : Region.noSelect ops = true)
    (hQ : ∀ (d : Nat) v c a w, Q (.panic c) (a.put (some d) v) w → Q (.panic c) a w) (hS : S w) :
    ∀ (is ds : List Nat) (l : Array Bool) (a : Act) (fuel : Nat), skipsOk md ops is ds l a.tmps = true →
      wpAnyH P md ops Q S fuel (is.foldl (fun l i => l.setIfInBounds i true) l) (ds.foldl (fun a d => a.put (some d) undef) a) w → wpAnyH P md ops Q S (fuel + is.length) l a w
  | [], [], _, _, _, _, h => h
  | [], _ :: _, _, _, _, hk, _ => by simp [skipsOk] at hk
  | _ :: _, [], _, _, _, hk, _ => by simp [skipsOk] at hk
  | i :: is, d :: ds, l, a, fuel, hk, h => by
    unfold skipsOk at hk
    split at hk
    · rename_i o ho
      simp only [Bool.and_eq_true, beq_iff_eq, Bool.not_eq_true'] at hk
      obtain ⟨h1, h2, h3, h4, h5⟩ := hk
      refine wpAnyH_take (fuel := fuel + is.length) (i := i) (oi := o) (v := undef) ho hs h2 h3 (fun c a w => by rw [h1]; exact hQ d _ c a w) (Or.inr ⟨h4, rfl⟩) hS ?_
      rw [h1]
      exact wpAnyH_skips hs hQ hS is ds _ _ fuel (by simpa [Act.put] using h5) h
    · cases hk

/-- One operation is taken first; the slot that it fills is named. -/
theorem wpAnyH_takeD {P : Program} {md : Region.Mode} {ops : Array Oper} {Q : Exit → Act → World → Prop} {S : World → Prop} {i : Nat} (d : Nat) {oi : Oper} {v : Value} {fuel : Nat} {listed : Array Bool} {a : Act} {w : World} (hi : ops[i]? = some oi)
    (hd : oi.dst = some d) (hs : Region.noSelect ops = true) (hf : Region.free md ops listed i = true) (hr : (Region.ready md ops listed).contains i = true)
    (hQ : ∀ c a w, Q (.panic c) (a.put (some d) v) w → Q (.panic c) a w) (hy : YieldsIf P ops S oi v a) (hS : S w)
    (h : wpAnyH P md ops Q S fuel (listed.setIfInBounds i true) (a.put (some d) v) w) : wpAnyH P md ops Q S (fuel + 1) listed a w :=
  wpAnyH_take hi hs hf hr (by rw [hd]; exact hQ) hy hS (by rw [hd]; exact h)

/-- The same, its side conditions in one Bool; short, for it is written often. -/
theorem tk {P : Program} {md : Region.Mode} {ops : Array Oper} {Q : Exit → Act → World → Prop} {S : World → Prop} (i d : Nat) {oi : Oper} (v : Value) {fuel : Nat} {listed : Array Bool} {a : Act} {w : World}
    (hy : ∀ w, S w → (execOp a.eval oi).run P w = .ok (.value v) w) (hS : S w) (h : wpAnyH P md ops Q S fuel (listed.setIfInBounds i true) (a.put (some d) v) w)
    (hi : ops[i]? = some oi := by rfl)
    (hc : (Region.noSelect ops && (Region.free md ops listed i && (Region.ready md ops listed).contains i)) = true := by decide +kernel)
    (hg : (oi.dst == some d && Region.wanted oi (yielded ops a.tmps)) = true := by kernel_rfl)
    (hQ : ∀ c a w, Q (.panic c) (a.put (some d) v) w → Q (.panic c) a w := by exact fun _ _ _ h => h) : wpAnyH P md ops Q S (fuel + 1) listed a w := by
  simp only [Bool.and_eq_true, beq_iff_eq] at hc hg
  obtain ⟨h2, h3, h4⟩ := hc
  obtain ⟨h1, h5⟩ := hg
  exact wpAnyH_takeD d hi h1 h2 h3 h4 hQ (Or.inl ⟨h5, hy⟩) hS h
theorem sA {α : Type} (l : List α) (i : Nat) (a : α) : l.toArray.setIfInBounds i a = (l.set i a).toArray := by simp
theorem s0 {α : Type} (x : α) (l : List α) (a : α) : (x :: l).set 0 a = a :: l := rfl
theorem sS {α : Type} (x : α) (l : List α) (i : Nat) (a : α) : (x :: l).set (i + 1) a = x :: l.set i a := rfl

end Go.Proofs.YtifpjdpcmfneaaaDoor

/- What putTokens, putLine of package impl do. -/
namespace Go.Proofs.YtifpjdpcmfneaaaDoor
open Go.RowKit
set_option maxRecDepth 100000
set_option linter.unusedVariables false

/-- A list of strings that is read. -/
def StrRE (_ : World) (c : List Value) (s : List Int) : Prop := c = [.string (strOfNums s)] ∧ Oct s
abbrev StrsV := Rd 1 StrRE
theorem keepsStr : Keeps StrRE := fun _ _ _ _ _ h => h
theorem StrsV.cell {w : World} {v : Value} {l : List (List Int)} (h : StrsV w v l) (k : Nat) (x : List Int) (hx : l[k]? = some x) : ∃ b off cap, v = .slice (some ⟨b, off, none⟩) l.length cap ∧ b < w.heap.size ∧ w.cell? ⟨b, off + k, none⟩ = some (.string (strOfNums x)) ∧ Oct x := by
  obtain ⟨b, off, cap, c, hv, hlt, ⟨rfl, hi⟩, -, hc⟩ := h.get k x hx
  exact ⟨b, off, cap, hv, hlt, by simpa using hc 0 _ rfl, hi⟩
def tokB (s : List Int) : List Int := [32] ++ s

set_option maxRecDepth 100000 in
set_option maxHeartbeats 1000000 in
theorem putTokens_b (B : Nat) (v bv : Value) (l wd : List Int) (ss : List (List Int)) (w : World) (hv : OwnB w B v l) (hB : B ≤ w.heap.size) (hwd : Oct wd) (hs : ∀ wi, Tw B w wi → StrsV wi bv ss)
    (hl : l.length ≤ 1000000) (hwl : wd.length ≤ 1000) (hsl : ss.length ≤ 100) (hst : ∀ s, s ∈ ss → s.length ≤ 1000) :
    Calls Tryd.prog 32 #[v, .string (strOfNums wd), bv] w fun e w' => ∃ u, e = .returned u ∧ OwnB w' B u (l ++ wd ++ ss.flatMap tokB) ∧ Tw B w w' := by
  have HS : Hid (∀ wi, Tw B w wi → StrsV wi bv ss) := hs
  obtain ⟨a, cap, rfl, m0, m1⟩ := (hs w (Tw.refl _ _)).form
  clear hs
  have HV : Hid (OwnB w B v l) := hv
  obtain ⟨va, vn, vc, rfl⟩ := hv.bs.form3
  clear hv
  obtain ⟨i0, hi, hz0, hz1, hz2⟩ := info_parts info5
  have HT : Hid (∀ k, ((ss.take k).flatMap tokB).length ≤ 1001 * (ss.take k).length) := fun k => flat_len tokB 1001 _ (fun s h => by have := hst s (List.mem_of_mem_take h); simp only [tokB, List.length_append, List.length_cons, List.length_nil]; omega)
  go_enter Tryd.func32, Tryd.ntmps32
  go_wp2_with (at_builtin; refine wpList_append_str rfl (.tmp 9) (.tmp 10) 22 9 rfl i0 Tryd.underlying22 Tryd.underlying9 hi hz0 hz1 hz2 B _ l rfl HV.out wd rfl hwd (by omega) hB w (Below.refl _ _) ?_)
  intro v1 w1 hO1 hB1 hG1
  have HO1 : Hid (OwnB w1 B v1 (l ++ wd ++ (ss.take 0).flatMap tokB)) := by simpa [Hid] using hO1
  have HT1 : Hid (Tw B w w1) := Tw.grown HV.out hB hG1
  clear hO1 hB1 hG1 HV
  go_wp2
  go_loopw [0, 14] (fun out i wr => ∃ k : Nat, k ≤ ss.length ∧ i = .int .i64 k ∧ Hid (OwnB wr B out (l ++ wd ++ (ss.take k).flatMap tokB)) ∧ Hid (Tw B w wr)) (fun _ i _ => ss.length - (intOf i).toNat)
  case atStart => exact ⟨0, Nat.zero_le _, rfl, HO1, HT1⟩
  case round =>
    clear HO1 HT1
    obtain ⟨k, hk, rfl, hO, hT⟩ := hrel
    have hsz := hT.out.size
    have hfl := HT.out k
    have htk : (ss.take k).length ≤ 100 := by simp; omega
    by_cases hlt : k < ss.length
    · obtain ⟨s, hx⟩ : ∃ s, ss[k]? = some s := ⟨ss[k], List.getElem?_eq_getElem hlt⟩
      obtain ⟨b, off, cap', hv', hlb, d0, hso⟩ := StrsV.cell (HS.out wr hT.out) k s hx
      simp only [Value.slice.injEq, true_and] at hv'
      obtain ⟨rfl, rfl⟩ := hv'
      have hsl' := hst s (List.mem_of_getElem? hx)
      have HST : Hid ((ss.take (k + 1)).flatMap tokB = (ss.take k).flatMap tokB ++ tokB s) := flat_step tokB hx
      have sr : B ≤ wr.heap.size := by omega
      have HA : Hid (Tw B w (wr.alloc (.cells #[.int .u8 32] 5))) := hT.out.trans (Tw.alloc sr _)
      have HOA : Hid (OwnB (wr.alloc (.cells #[.int .u8 32] 5)) B _ (l ++ wd ++ (ss.take k).flatMap tokB)) := hO.out.alloc _
      have sA : B ≤ (wr.alloc (.cells #[.int .u8 32] 5)).heap.size := by simp; omega
      clear hx hO hT
      go_wp2_with (at_builtin; refine wpList_append_bytes rfl (.tmp 18) (.tmp 19) 22 rfl i0 Tryd.underlying22 hi hz0 hz1 hz2 B _ _ rfl HOA.out _ [32] rfl (bs_one _ _ (by omega)) (by simp only [List.length_append, List.length_cons, List.length_nil]; omega) sA (wr.alloc (.cells #[.int .u8 32] 5)) (Below.refl _ _) ?_)
      intro v2 w2 hO2 hB2 hG2
      have HO2 : Hid (OwnB w2 B v2 (l ++ wd ++ (ss.take k).flatMap tokB ++ [32])) := by simpa [Hid] using hO2
      have HT2 : Hid (Tw B w w2) := HA.out.trans (Tw.grown HOA.out sA hG2)
      have s2 : B ≤ w2.heap.size := Nat.le_trans sA hG2.size
      clear hO2 hB2 hG2 HA HOA d0
      go_wp2_with (at_builtin; refine wpList_append_str rfl (.tmp 21) (.tmp 22) 22 9 rfl i0 Tryd.underlying22 Tryd.underlying9 hi hz0 hz1 hz2 B _ _ rfl HO2.out s rfl hso (by simp only [List.length_append, List.length_cons, List.length_nil]; omega) s2 w2 (Below.refl _ _) ?_)
      intro v3 w3 hO3 hB3 hG3
      have HO3 : Hid (OwnB w3 B v3 (l ++ wd ++ (ss.take (k + 1)).flatMap tokB)) := by
        rw [HST.out]
        simpa [Hid, tokB] using hO3
      have HT3 : Hid (Tw B w w3) := HT2.out.trans (Tw.grown HO2.out s2 hG3)
      clear hO3 hB3 hG3 HT2 HO2 HST
      go_wp2
      go_roundw
      case rel => exact ⟨k + 1, by omega, by go_num, HO3, HT3⟩
      case measure => simp [intOf]; omega
    · obtain rfl : k = ss.length := by omega
      go_wp2
      go_ret
      have ho := hO.out
      rw [List.take_length] at ho
      exact ⟨_, rfl, ho, hT.out⟩

set_option maxRecDepth 100000 in
set_option maxHeartbeats 1000000 in
theorem putLine_b (B : Nat) (v bv : Value) (l wd : List Int) (ss : List (List Int)) (w : World) (hv : OwnB w B v l) (hB : B ≤ w.heap.size) (hwd : Oct wd) (hs : ∀ wi, Tw B w wi → StrsV wi bv ss)
    (hl : l.length ≤ 1000000) (hwl : wd.length ≤ 1000) (hsl : ss.length ≤ 100) (hst : ∀ s, s ∈ ss → s.length ≤ 1000) :
    Calls Tryd.prog 58 #[v, .string (strOfNums wd), bv] w fun e w' => ∃ u, e = .returned u ∧ OwnB w' B u (l ++ wd ++ ss.flatMap tokB ++ [10]) ∧ Tw B w w' := by
  have hc := putTokens_b B v bv l wd ss w hv hB hwd hs hl hwl hsl hst
  have hfl := flat_len tokB 1001 ss (fun s h => by have := hst s h; simp only [tokB, List.length_append, List.length_cons, List.length_nil]; omega)
  obtain ⟨a, cap, rfl, m0, m1⟩ := (hs w (Tw.refl _ _)).form
  obtain ⟨va, vn, vc, rfl⟩ := hv.bs.form3
  clear hs hv
  obtain ⟨i0, hi, hz0, hz1, hz2⟩ := info_parts info5
  go_enter Tryd.func58, Tryd.ntmps58
  go_wp2_with fail
  refine hc.mono ?_
  rintro e w1 ⟨u1, rfl, O1, T1⟩
  have s1 : B ≤ w1.heap.size := Nat.le_trans hB T1.size
  have HA : Hid (Tw B w (w1.alloc (.cells #[.int .u8 10] 5))) := T1.trans (Tw.alloc s1 _)
  have HOA : Hid (OwnB (w1.alloc (.cells #[.int .u8 10] 5)) B u1 (l ++ wd ++ ss.flatMap tokB)) := O1.alloc _
  have sA : B ≤ (w1.alloc (.cells #[.int .u8 10] 5)).heap.size := by simp; omega
  clear hc O1 T1
  go_wp2_with (at_builtin; refine wpList_append_bytes rfl (.tmp 10) (.tmp 11) 22 rfl i0 Tryd.underlying22 hi hz0 hz1 hz2 B _ _ rfl HOA.out _ [10] rfl (bs_one _ _ (by omega)) (by simp only [List.length_append, List.length_cons, List.length_nil]; omega) sA (w1.alloc (.cells #[.int .u8 10] 5)) (Below.refl _ _) ?_)
  intro v2 w2 hO2 hB2 hG2
  have HO2 : Hid (OwnB w2 B v2 (l ++ wd ++ ss.flatMap tokB ++ [10])) := by simpa [Hid] using hO2
  have HT2 : Hid (Tw B w w2) := HA.out.trans (Tw.grown HOA.out sA hG2)
  clear hO2 hB2 hG2 HA HOA
  go_wp2
  go_ret
  exact ⟨_, rfl, HO2.out, HT2.out⟩

end Go.Proofs.YtifpjdpcmfneaaaDoor

/- What needsEscape, flagsText, quotedText of package impl do. -/
namespace Go.Proofs.YtifpjdpcmfneaaaDoor
open Go.RowKit
set_option maxRecDepth 100000
set_option linter.unusedVariables false

theorem ret_bool {b c : Bool} (h : b = c) : Ending.returned (.bool c) = .returned (.bool b) := by rw [h]
set_option maxHeartbeats 400000 in
theorem needsEscape_any (x : Int) (hx : 0 ≤ x ∧ x ≤ 255) (w : World) :
    Calls Tryd.prog 142 #[.int .u8 x] w fun e w' => e = .returned (.bool (decide (x = 34 ∨ x = 92))) ∧ w' = w := by
  by_cases h1 : x = 34
  · subst h1
    go_enter Tryd.func142, Tryd.ntmps142
    go_wp2
    go_ret
    exact ⟨rfl, rfl⟩
  · by_cases h2 : x = 92
    · subst h2
      go_enter Tryd.func142, Tryd.ntmps142
      go_wp2
      go_ret
      exact ⟨rfl, rfl⟩
    · have b1 : (x == 34) = false := by simp [h1]
      have b2 : (x == 92) = false := by simp [h2]
      have e : Hid (decide (x = 34 ∨ x = 92) = false) := decide_eq_false (by omega)
      go_enter Tryd.func142, Tryd.ntmps142
      go_wp2
      go_ret
      exact ⟨by rw [e.out]; rfl, rfl⟩

theorem bit_and : ∀ (k : Fin 5) (x : Fin 32), (bits BinOp.and IntKind.i64 ((x : Nat) : Int) ((2 ^ (k : Nat) : Nat) : Int) != 0) = decide ((x : Nat) / 2 ^ (k : Nat) % 2 = 1) := by decide +kernel

set_option maxRecDepth 100000 in
set_option maxHeartbeats 2000000 in
theorem flagsText_r (f : Nat) (hf : f ≤ 31) (w : World) :
    Calls Tryd.prog 114 #[.int .i64 f] w fun e w' => e = .returned (.string (strOfNums (flagsB f))) ∧ Below w.heap.size w w' := by
  obtain ⟨i0, hi, hz0, hz1, hz2⟩ := info_parts info5
  have H0 : Hid (OwnB (w.alloc (.cells #[.int .u8 40] 5)) w.heap.size (.slice (some ⟨w.heap.size, 0, none⟩) 1 1) ([40] ++ (List.range 0).flatMap (flagAt f))) := by simpa [Hid] using ownB_one w _ (Nat.le_refl _) 40 (by omega)
  have HB : Hid (Below w.heap.size w (w.alloc (.cells #[.int .u8 40] 5))) := (Below.refl _ _).alloc (Nat.le_refl _) _
  go_enter Tryd.func114, Tryd.ntmps114
  go_wp2
  go_loopw [3, 6] (fun b i wr => ∃ k : Nat, k ≤ 5 ∧ i = .int .i64 k ∧ Hid (OwnB wr w.heap.size b ([40] ++ (List.range k).flatMap (flagAt f))) ∧ Hid (Below w.heap.size w wr)) (fun _ i _ => 5 - (intOf i).toNat)
  case atStart => exact ⟨0, Nat.zero_le _, rfl, H0, HB⟩
  case round =>
    clear H0 HB
    obtain ⟨k, hk, rfl, hO, hB⟩ := hrel
    have hsz := hB.out.size
    have hfl := flat_len (flagAt f) 1 (List.range k) (fun x _ => flagAt_len f x)
    simp only [List.length_range] at hfl
    by_cases hlt : k < 5
    · have HST : Hid ((List.range (k + 1)).flatMap (flagAt f) = (List.range k).flatMap (flagAt f) ++ flagAt f k) := range5_step f k
      obtain rfl | rfl | rfl | rfl | rfl : k = 0 ∨ k = 1 ∨ k = 2 ∨ k = 3 ∨ k = 4 := by omega
      · have hE : flagAt f 0 = (if f % 2 = 1 then [83] else []) := by simp [flagAt, letB]
        have hb : (bits BinOp.and IntKind.i64 (f : Int) 1 != 0) = decide (f % 2 = 1) := by
          have h := bit_and 0 ⟨f, by omega⟩
          simpa using h
        by_cases hc : f % 2 = 1
        · rw [if_pos hc] at hE
          rw [decide_eq_true hc] at hb
          have HE : Hid (flagAt f 0 = [83]) := hE
          clear hE
          go_wp2_with (at_builtin; refine wpList_append_bytes rfl (.tmp 14) (.tmp 17) 22 rfl i0 Tryd.underlying22 hi hz0 hz1 hz2 w.heap.size _ _ rfl (hO.out.alloc _) _ [83] rfl (bs_one _ 83 (by omega)) (by simp only [List.length_append, List.length_cons, List.length_nil]; omega) (by simp; omega) w (hB.out.alloc hsz _) ?_)
          intro v3 w3 hO3 hB3 _
          have HO3 : Hid (OwnB w3 w.heap.size v3 ([40] ++ (List.range (0 + 1)).flatMap (flagAt f))) := by
            rw [HST.out, HE.out]
            simpa [Hid, show List.range 1 = [0] from rfl, show List.range 2 = [0, 1] from rfl, show List.range 3 = [0, 1, 2] from rfl, show List.range 4 = [0, 1, 2, 3] from rfl] using hO3
          clear hO3
          go_wp2
          go_roundw
          case rel => exact ⟨0 + 1, by omega, by go_num, HO3, hB3⟩
          case measure => simp [intOf]
        · rw [if_neg hc] at hE
          rw [decide_eq_false hc] at hb
          have HEQ : Hid ([40] ++ (List.range 0).flatMap (flagAt f) = [40] ++ (List.range (0 + 1)).flatMap (flagAt f)) := by rw [Hid, HST.out, hE, List.append_nil]
          clear hE
          go_wp2
          go_roundw
          case rel => exact ⟨0 + 1, by omega, by go_num, by rw [← HEQ.out]; exact hO, hB⟩
          case measure => simp [intOf]
      · have hE : flagAt f 1 = (if f / 2 % 2 = 1 then [65] else []) := by simp [flagAt, letB]
        have hb : (bits BinOp.and IntKind.i64 (f : Int) 2 != 0) = decide (f / 2 % 2 = 1) := by
          have h := bit_and 1 ⟨f, by omega⟩
          simpa using h
        by_cases hc : f / 2 % 2 = 1
        · rw [if_pos hc] at hE
          rw [decide_eq_true hc] at hb
          have HE : Hid (flagAt f 1 = [65]) := hE
          clear hE
          go_wp2_with (at_builtin; refine wpList_append_bytes rfl (.tmp 14) (.tmp 17) 22 rfl i0 Tryd.underlying22 hi hz0 hz1 hz2 w.heap.size _ _ rfl (hO.out.alloc _) _ [65] rfl (bs_one _ 65 (by omega)) (by simp only [List.length_append, List.length_cons, List.length_nil]; omega) (by simp; omega) w (hB.out.alloc hsz _) ?_)
          intro v3 w3 hO3 hB3 _
          have HO3 : Hid (OwnB w3 w.heap.size v3 ([40] ++ (List.range (1 + 1)).flatMap (flagAt f))) := by
            rw [HST.out, HE.out]
            simpa [Hid, show List.range 1 = [0] from rfl, show List.range 2 = [0, 1] from rfl, show List.range 3 = [0, 1, 2] from rfl, show List.range 4 = [0, 1, 2, 3] from rfl] using hO3
          clear hO3
          go_wp2
          go_roundw
          case rel => exact ⟨1 + 1, by omega, by go_num, HO3, hB3⟩
          case measure => simp [intOf]
        · rw [if_neg hc] at hE
          rw [decide_eq_false hc] at hb
          have HEQ : Hid ([40] ++ (List.range 1).flatMap (flagAt f) = [40] ++ (List.range (1 + 1)).flatMap (flagAt f)) := by rw [Hid, HST.out, hE, List.append_nil]
          clear hE
          go_wp2
          go_roundw
          case rel => exact ⟨1 + 1, by omega, by go_num, by rw [← HEQ.out]; exact hO, hB⟩
          case measure => simp [intOf]
      · have hE : flagAt f 2 = (if f / 4 % 2 = 1 then [70] else []) := by simp [flagAt, letB]
        have hb : (bits BinOp.and IntKind.i64 (f : Int) 4 != 0) = decide (f / 4 % 2 = 1) := by
          have h := bit_and 2 ⟨f, by omega⟩
          simpa using h
        by_cases hc : f / 4 % 2 = 1
        · rw [if_pos hc] at hE
          rw [decide_eq_true hc] at hb
          have HE : Hid (flagAt f 2 = [70]) := hE
          clear hE
          go_wp2_with (at_builtin; refine wpList_append_bytes rfl (.tmp 14) (.tmp 17) 22 rfl i0 Tryd.underlying22 hi hz0 hz1 hz2 w.heap.size _ _ rfl (hO.out.alloc _) _ [70] rfl (bs_one _ 70 (by omega)) (by simp only [List.length_append, List.length_cons, List.length_nil]; omega) (by simp; omega) w (hB.out.alloc hsz _) ?_)
          intro v3 w3 hO3 hB3 _
          have HO3 : Hid (OwnB w3 w.heap.size v3 ([40] ++ (List.range (2 + 1)).flatMap (flagAt f))) := by
            rw [HST.out, HE.out]
            simpa [Hid, show List.range 1 = [0] from rfl, show List.range 2 = [0, 1] from rfl, show List.range 3 = [0, 1, 2] from rfl, show List.range 4 = [0, 1, 2, 3] from rfl] using hO3
          clear hO3
          go_wp2
          go_roundw
          case rel => exact ⟨2 + 1, by omega, by go_num, HO3, hB3⟩
          case measure => simp [intOf]
        · rw [if_neg hc] at hE
          rw [decide_eq_false hc] at hb
          have HEQ : Hid ([40] ++ (List.range 2).flatMap (flagAt f) = [40] ++ (List.range (2 + 1)).flatMap (flagAt f)) := by rw [Hid, HST.out, hE, List.append_nil]
          clear hE
          go_wp2
          go_roundw
          case rel => exact ⟨2 + 1, by omega, by go_num, by rw [← HEQ.out]; exact hO, hB⟩
          case measure => simp [intOf]
      · have hE : flagAt f 3 = (if f / 8 % 2 = 1 then [68] else []) := by simp [flagAt, letB]
        have hb : (bits BinOp.and IntKind.i64 (f : Int) 8 != 0) = decide (f / 8 % 2 = 1) := by
          have h := bit_and 3 ⟨f, by omega⟩
          exact h
        by_cases hc : f / 8 % 2 = 1
        · rw [if_pos hc] at hE
          rw [decide_eq_true hc] at hb
          have HE : Hid (flagAt f 3 = [68]) := hE
          clear hE
          go_wp2_with (at_builtin; refine wpList_append_bytes rfl (.tmp 14) (.tmp 17) 22 rfl i0 Tryd.underlying22 hi hz0 hz1 hz2 w.heap.size _ _ rfl (hO.out.alloc _) _ [68] rfl (bs_one _ 68 (by omega)) (by simp only [List.length_append, List.length_cons, List.length_nil]; omega) (by simp; omega) w (hB.out.alloc hsz _) ?_)
          intro v3 w3 hO3 hB3 _
          have HO3 : Hid (OwnB w3 w.heap.size v3 ([40] ++ (List.range (3 + 1)).flatMap (flagAt f))) := by
            rw [HST.out, HE.out]
            simpa [Hid, show List.range 1 = [0] from rfl, show List.range 2 = [0, 1] from rfl, show List.range 3 = [0, 1, 2] from rfl, show List.range 4 = [0, 1, 2, 3] from rfl] using hO3
          clear hO3
          go_wp2
          go_roundw
          case rel => exact ⟨3 + 1, by omega, by go_num, HO3, hB3⟩
          case measure => simp [intOf]
        · rw [if_neg hc] at hE
          rw [decide_eq_false hc] at hb
          have HEQ : Hid ([40] ++ (List.range 3).flatMap (flagAt f) = [40] ++ (List.range (3 + 1)).flatMap (flagAt f)) := by rw [Hid, HST.out, hE, List.append_nil]
          clear hE
          go_wp2
          go_roundw
          case rel => exact ⟨3 + 1, by omega, by go_num, by rw [← HEQ.out]; exact hO, hB⟩
          case measure => simp [intOf]
      · have hE : flagAt f 4 = (if f / 16 % 2 = 1 then [82] else []) := by simp [flagAt, letB]
        have hb : (bits BinOp.and IntKind.i64 (f : Int) 16 != 0) = decide (f / 16 % 2 = 1) := by
          have h := bit_and 4 ⟨f, by omega⟩
          exact h
        by_cases hc : f / 16 % 2 = 1
        · rw [if_pos hc] at hE
          rw [decide_eq_true hc] at hb
          have HE : Hid (flagAt f 4 = [82]) := hE
          clear hE
          go_wp2_with (at_builtin; refine wpList_append_bytes rfl (.tmp 14) (.tmp 17) 22 rfl i0 Tryd.underlying22 hi hz0 hz1 hz2 w.heap.size _ _ rfl (hO.out.alloc _) _ [82] rfl (bs_one _ 82 (by omega)) (by simp only [List.length_append, List.length_cons, List.length_nil]; omega) (by simp; omega) w (hB.out.alloc hsz _) ?_)
          intro v3 w3 hO3 hB3 _
          have HO3 : Hid (OwnB w3 w.heap.size v3 ([40] ++ (List.range (4 + 1)).flatMap (flagAt f))) := by
            rw [HST.out, HE.out]
            simpa [Hid, show List.range 1 = [0] from rfl, show List.range 2 = [0, 1] from rfl, show List.range 3 = [0, 1, 2] from rfl, show List.range 4 = [0, 1, 2, 3] from rfl] using hO3
          clear hO3
          go_wp2
          go_roundw
          case rel => exact ⟨4 + 1, by omega, by go_num, HO3, hB3⟩
          case measure => simp [intOf]
        · rw [if_neg hc] at hE
          rw [decide_eq_false hc] at hb
          have HEQ : Hid ([40] ++ (List.range 4).flatMap (flagAt f) = [40] ++ (List.range (4 + 1)).flatMap (flagAt f)) := by rw [Hid, HST.out, hE, List.append_nil]
          clear hE
          go_wp2
          go_roundw
          case rel => exact ⟨4 + 1, by omega, by go_num, by rw [← HEQ.out]; exact hO, hB⟩
          case measure => simp [intOf]
    · obtain rfl : k = 5 := by omega
      go_wp2_with (at_builtin; refine wpList_append_bytes rfl (.tmp 20) (.tmp 21) 22 rfl i0 Tryd.underlying22 hi hz0 hz1 hz2 w.heap.size _ _ rfl (hO.out.alloc _) _ _ rfl (bs_one _ _ (by omega)) (by simp only [List.length_append, List.length_cons, List.length_nil]; omega) (by simp; omega) w (hB.out.alloc hsz _) ?_)
      intro v2 w2 hO2 hB2 _
      have HO2 : OwnB w2 w.heap.size v2 (flagsB f) := by simpa [flagsB, show List.range 5 = [0, 1, 2, 3, 4] from rfl] using hO2
      have hcv := run_convert_bs HO2.bs
      clear hO2 HO2
      go_wp2
      go_ret
      exact ⟨rfl, hB2⟩

set_option maxRecDepth 100000 in
set_option maxHeartbeats 2000000 in
theorem quotedText_r (v : Value) (t : List Int) (w : World) (hv : Bs w v t) (ht : t.length ≤ 2000000) :
    Calls Tryd.prog 115 #[v] w fun e w' => e = .returned (.string (strOfNums (quoB t))) ∧ Below w.heap.size w w' := by
  have HV : Hid (∀ wi, Below w.heap.size w wi → Bs wi v t) := fun wi h => hv.below h
  obtain ⟨ho, a, cap, rfl, hlc, hcm, -⟩ := hv
  unfold maxLen at hcm
  obtain ⟨i0, hi, hz0, hz1, hz2⟩ := info_parts info5
  have H0 : Hid (OwnB (w.alloc (.cells #[.int .u8 34] 5)) w.heap.size (.slice (some ⟨w.heap.size, 0, none⟩) 1 1) ([34] ++ (t.take 0).flatMap escB)) := by simpa [Hid] using ownB_one w _ (Nat.le_refl _) 34 (by omega)
  have HB : Hid (Below w.heap.size w (w.alloc (.cells #[.int .u8 34] 5))) := (Below.refl _ _).alloc (Nat.le_refl _) _
  go_enter Tryd.func115, Tryd.ntmps115
  go_wp2
  go_loopw [3, 9] (fun b i wr => ∃ k : Nat, k ≤ t.length ∧ i = .int .i64 k ∧ Hid (OwnB wr w.heap.size b ([34] ++ (t.take k).flatMap escB)) ∧ Hid (Below w.heap.size w wr)) (fun _ i _ => t.length - (intOf i).toNat)
  case atStart => exact ⟨0, Nat.zero_le _, rfl, H0, HB⟩
  case round =>
    clear H0 HB
    obtain ⟨k, hk, rfl, hO, hB⟩ := hrel
    have hsz := hB.out.size
    have hfl := flat_len escB 2 (t.take k) (fun x _ => escB_len x)
    have htk : (t.take k).length ≤ 2000000 := by simp; omega
    by_cases hlt : k < t.length
    · obtain ⟨x, hx⟩ : ∃ x, t[k]? = some x := ⟨t[k], List.getElem?_eq_getElem hlt⟩
      have hxo : 0 ≤ x ∧ x ≤ 255 := ho x (List.mem_of_getElem? hx)
      have HST : Hid ((t.take (k + 1)).flatMap escB = (t.take k).flatMap escB ++ escB x) := flat_step escB hx
      obtain ⟨ho', a', cap', hv', -, -, -, hcells⟩ := HV.out wr hB.out
      simp only [Value.slice.injEq, true_and] at hv'
      obtain ⟨rfl, rfl⟩ := hv'
      obtain ⟨b, off, rfl, hlb, hc⟩ := hcells (by omega)
      have d0 := hc k hlt
      rw [List.getD_eq_getElem?_getD, hx, Option.getD_some] at d0
      clear hcells hc ho'
      have hne := needsEscape_any x hxo wr
      by_cases he : x = 34 ∨ x = 92
      · have HE : Hid (escB x = [92, x]) := by simp only [Hid, escB, if_pos he]
        rw [decide_eq_true he] at hne
        have HX : Hid (x = 34 ∨ x = 92) := he
        clear he
        go_wp2_with fail
        refine hne.mono ?_
        rintro e w1 ⟨rfl, rfl⟩
        clear hne d0
        go_wp2_with (at_builtin; refine wpList_append_bytes rfl (.tmp 15) (.tmp 16) 22 rfl i0 Tryd.underlying22 hi hz0 hz1 hz2 w.heap.size _ _ rfl (hO.out.alloc _) _ _ rfl (bs_one _ _ (by omega)) (by simp only [List.length_append, List.length_cons, List.length_nil]; omega) (by simp; omega) w (hB.out.alloc hsz _) ?_)
        intro v2 w2 hO2 hB2 _
        have s2 := hB2.size
        have HO2 : Hid (OwnB w2 w.heap.size v2 ([34] ++ (t.take k).flatMap escB ++ [92])) := by simpa [Hid] using hO2
        clear hO2 hO hB hlb
        go_wp2_with (at_builtin; refine wpList_append_bytes rfl (.tmp 18) (.tmp 20) 22 rfl i0 Tryd.underlying22 hi hz0 hz1 hz2 w.heap.size _ _ rfl (HO2.out.alloc _) _ [x] rfl (bs_one _ _ (by omega)) (by simp only [List.length_append, List.length_cons, List.length_nil]; omega) (by simp; omega) w (hB2.alloc s2 _) ?_)
        intro v3 w3 hO3 hB3 _
        have HO3 : Hid (OwnB w3 w.heap.size v3 ([34] ++ (t.take (k + 1)).flatMap escB)) := by
          rw [HST.out, HE.out]
          simpa [Hid] using hO3
        clear hO3
        go_wp2
        go_roundw
        case rel => exact ⟨k + 1, by omega, by go_num, HO3, hB3⟩
        case measure => simp [intOf]; omega
      · have HE : Hid (escB x = [x]) := by simp only [Hid, escB, if_neg he]
        rw [decide_eq_false he] at hne
        clear he
        go_wp2_with fail
        refine hne.mono ?_
        rintro e w1 ⟨rfl, rfl⟩
        clear hne d0
        go_wp2_with (at_builtin; refine wpList_append_bytes rfl (.tmp 18) (.tmp 20) 22 rfl i0 Tryd.underlying22 hi hz0 hz1 hz2 w.heap.size _ _ rfl (hO.out.alloc _) _ [x] rfl (bs_one _ _ (by omega)) (by simp only [List.length_append, List.length_cons, List.length_nil]; omega) (by simp; omega) w (hB.out.alloc hsz _) ?_)
        intro v3 w3 hO3 hB3 _
        have HO3 : Hid (OwnB w3 w.heap.size v3 ([34] ++ (t.take (k + 1)).flatMap escB)) := by
          rw [HST.out, HE.out]
          simpa [Hid] using hO3
        clear hO3
        go_wp2
        go_roundw
        case rel => exact ⟨k + 1, by omega, by go_num, HO3, hB3⟩
        case measure => simp [intOf]; omega
    · obtain rfl : k = t.length := by omega
      go_wp2_with (at_builtin; refine wpList_append_bytes rfl (.tmp 23) (.tmp 24) 22 rfl i0 Tryd.underlying22 hi hz0 hz1 hz2 w.heap.size _ _ rfl (hO.out.alloc _) _ _ rfl (bs_one _ _ (by omega)) (by simp only [List.length_append, List.length_cons, List.length_nil]; omega) (by simp; omega) w (hB.out.alloc hsz _) ?_)
      intro v2 w2 hO2 hB2 _
      have HO2 : OwnB w2 w.heap.size v2 (quoB t) := by simpa [quoB] using hO2
      have hcv := run_convert_bs HO2.bs
      clear hO2 HO2
      go_wp2
      go_ret
      exact ⟨rfl, hB2⟩

end Go.Proofs.YtifpjdpcmfneaaaDoor

/- strconv.Itoa, out of the library's contract. -/
namespace Go.Proofs.YtifpjdpcmfneaaaDoor
open Go.RowKit

/-- The library's table of powers reads as its start-up lays it. -/
abbrev Tab10 (w : World) : Prop := Lib.TabIs Tryd.prog w "internal/strconv.uint64pow10" .u64 Lib.pow10Tab
theorem str_dig (n : Nat) : (⟨(Lib.decDigits n).toArray⟩ : ByteArray) = strOfNums (digB n) := by
  unfold strOfNums digB ofU8
  rw [List.map_map]
  congr 2
  conv => lhs; rw [← List.map_id (Lib.decDigits n)]
  refine List.map_congr_left fun b _ => ?_
  simp

theorem itoa_b (n : Nat) (hn : n ≤ 9999999) (w : World) (ht : Tab10 w) :
    Calls Tryd.prog 57 #[.int .i64 n] w fun e w' => e = .returned (.string (strOfNums (digB n))) ∧ Below w.heap.size w w' := by
  refine (Tryd.strconv_Itoa (n : Int) (by omega) (by omega) w ht).mono ?_
  rintro e w' ⟨rfl, k, os, rfl⟩
  refine ⟨?_, Lib.below_grow _ w (Nat.le_refl _) k os⟩
  rw [← str_dig]
  have : Lib.itoa (n : Int) = Lib.decDigits n := by
    unfold Lib.itoa
    rw [if_neg (by omega)]
    simp
  rw [this]

end Go.Proofs.YtifpjdpcmfneaaaDoor

/- Strings that commands and replies are made of. -/
namespace Go.Proofs.YtifpjdpcmfneaaaDoor
open Go.RowKit
set_option linter.unusedVariables false

theorem itoa_i (n : Int) (h0 : 0 ≤ n) (h1 : n ≤ 9999999) (w : World) (ht : Tab10 w) :
    Calls Tryd.prog 57 #[.int .i64 n] w fun e w' => e = .returned (.string (strOfNums (digB n.toNat))) ∧ Below w.heap.size w w' := by
  have h := itoa_b n.toNat (by omega) w ht
  rwa [show ((n.toNat : Nat) : Int) = n by omega] at h
theorem flagsText_i (n : Int) (h0 : 0 ≤ n) (h1 : n ≤ 31) (w : World) :
    Calls Tryd.prog 114 #[.int .i64 n] w fun e w' => e = .returned (.string (strOfNums (flagsB n))) ∧ Below w.heap.size w w' := by
  have h := flagsText_r n.toNat (by omega) w
  rwa [show ((n.toNat : Nat) : Int) = n by omega] at h
theorem strs_lit (w : World) (g : Nat) (ss : List (List Int)) (h : w.heap[g]? = some (.cells (ss.map (fun s => Value.string (strOfNums s))).toArray 9 (0, 0))) (hn : ∀ s, s ∈ ss → Oct s) (hl : ss.length ≤ 1000) : StrsV w (.slice (some ⟨g, 0, none⟩) ss.length ss.length) ss := by
  refine ⟨some ⟨g, 0, none⟩, ss.length, fun i => [.string (strOfNums (ss.getD i []))], rfl, Nat.le_refl _, by unfold maxLen; omega, (fun h => by cases h), fun i x hx => ?_, fun _ => ?_⟩
  · exact ⟨⟨by simp [List.getD_eq_getElem?_getD, hx], hn x (List.mem_of_getElem? hx)⟩, rfl⟩
  · refine ⟨g, 0, rfl, lt_of_heap h, fun i j u hi hu => ?_⟩
    cases j with
    | zero =>
      simp only [List.getElem?_cons_zero, Option.some.injEq] at hu
      subst hu
      rw [show 0 + i * 1 + 0 = i by omega, cell_of_row w g i _ _ (0, 0) h]
      simp [List.getD_eq_getElem?_getD, hi]
    | succ j => simp at hu
theorem digB_oct (n : Nat) : Oct (digB n) := ofU8_oct _
theorem flagsB_oct (f : Int) : Oct (flagsB f) := by
  intro y hy
  simp only [flagsB, List.mem_append, List.mem_cons, List.not_mem_nil, or_false, List.mem_flatMap, List.mem_range] at hy
  rcases hy with (rfl | ⟨i, hi, hy⟩) | rfl
  · omega
  · unfold flagAt at hy
    split at hy
    · simp only [List.mem_cons, List.not_mem_nil, or_false] at hy
      subst hy
      unfold letB
      split <;> omega
    · cases hy
  · omega
theorem flagsB_len (f : Int) : (flagsB f).length ≤ 7 := by
  have := flat_len (flagAt f) 1 (List.range 5) (fun x _ => flagAt_len f x)
  simp only [flagsB, List.length_append, List.length_cons, List.length_nil, List.length_range] at *
  omega
theorem quoB_oct {t : List Int} (h : Oct t) : Oct (quoB t) := by
  intro y hy
  simp only [quoB, List.mem_append, List.mem_cons, List.not_mem_nil, or_false, List.mem_flatMap] at hy
  rcases hy with (rfl | ⟨i, hi, hy⟩) | rfl
  · omega
  · have := h i hi
    unfold escB at hy
    split at hy <;> simp only [List.mem_cons, List.not_mem_nil, or_false] at hy <;> omega
  · omega
theorem quoB_len (t : List Int) : (quoB t).length ≤ 2 * t.length + 2 := by
  have := flat_len escB 2 t (fun x _ => escB_len x)
  simp only [quoB, List.length_append, List.length_cons, List.length_nil]
  omega

end Go.Proofs.YtifpjdpcmfneaaaDoor

/- Lists of the call's own whose blocks lie between two; blocks of two, three, four, seven cells. -/
namespace Go.Proofs.YtifpjdpcmfneaaaDoor
open Go.RowKit

class Fr {α : Type} (E : World → List Value → α → (Nat → Prop) → Prop) : Prop where
  out : Frames E
instance : Fr IntE := ⟨framesInt⟩
instance : Fr MailE := ⟨framesMail⟩
instance : Fr GoneE := ⟨framesGone⟩
instance : Fr BoxE := ⟨framesBox⟩

def OwR {α : Type} (t : TypeId) (sz : Nat) (E : World → List Value → α → (Nat → Prop) → Prop) (w : World) (B T : Nat) (v : Value) (l : List α) : Prop := Ow t sz E w (In B T) v l
section
variable {α : Type} {t : TypeId} {sz : Nat} {E : World → List Value → α → (Nat → Prop) → Prop} {w w' : World} {B T B' T' g i : Nat} {v x : Value} {l : List α}
theorem OwR.ow (h : OwR t sz E w B T v l) : Ow t sz E w (In B T) v l := h
theorem OwR.wide (h : OwR t sz E w B T v l) (hB : B' ≤ B) (hT : T ≤ T') : OwR t sz E w B' T' v l := Ow.mono h fun _ hb => ⟨Nat.le_trans hB hb.1, Nat.lt_of_lt_of_le hb.2 hT⟩
theorem OwR.below [Fr E] (h : OwR t sz E w B T v l) (hb : Below w.heap.size w w') : OwR t sz E w' B T v l := Ow.below Fr.out h hb
theorem OwR.keptW [Fr E] (h : OwR t sz E w B T v l) (hw : Within B' T' w w') (hd : T ≤ B' ∨ T' ≤ B) : OwR t sz E w' B T v l := Ow.keptW Fr.out h hw fun b hb => by have := hb.1; have := hb.2; omega
theorem OwR.set [Fr E] (h : OwR t sz E w B T v l) (hd : g < B ∨ T ≤ g) : OwR t sz E (w.setCell ⟨g, i, none⟩ x) B T v l :=
  Ow.frame Fr.out h fun b hb _ => Below.heap_setCell w ⟨g, i, none⟩ x b (show b ≠ g by have := hb.1; have := hb.2; omega)
theorem OwR.form3 (h : OwR t sz E w B T v l) : ∃ a n cap, v = .slice a n cap := by
  rcases h with ⟨rfl, _⟩ | ⟨g, cap, cur, cs, fs, hv, _⟩
  · exact ⟨_, _, _, rfl⟩
  · exact ⟨_, _, _, hv⟩
theorem made_part {e : TypeId} {n : Nat} {xs : List Value} (h : w.ownsRow B e sz (.slice (some ⟨g, 0, none⟩) n n) n xs) : ∃ cur, w.heap[g]? = some (.cells cur e (0, 0)) ∧ cur.size = n * sz := by
  rcases h.2 with ⟨h, _⟩ | ⟨g', c, cur, h, _, hh, _, _, h3, _⟩
  · simp at h
  · simp only [Value.slice.injEq, Option.some.injEq, Addr.mk.injEq, and_true, true_and] at h
    obtain ⟨rfl, rfl⟩ := h
    exact ⟨cur, hh, h3⟩
end
abbrev IntsR := OwR 3 1 IntE
abbrev MailsR := OwR 96 4 MailE
abbrev GonesR := OwR 98 2 GoneE
abbrev BoxesR := OwR 57 7 BoxE

theorem bx2 {w : World} {g : Nat} {t : TypeId} {c0 c1 : Value} (h : w.heap[g]? = some (.cells #[c0, c1] t (0, 0))) : w.cell? ⟨g, 0, none⟩ = some c0 ∧ w.cell? ⟨g, 1, none⟩ = some c1 :=
  ⟨by rw [cell_of_row w g 0 _ t (0, 0) h]; rfl, by rw [cell_of_row w g 1 _ t (0, 0) h]; rfl⟩
theorem bx3 {w : World} {g : Nat} {t : TypeId} {c0 c1 c2 : Value} (h : w.heap[g]? = some (.cells #[c0, c1, c2] t (0, 0))) : w.cell? ⟨g, 0, none⟩ = some c0 ∧ w.cell? ⟨g, 1, none⟩ = some c1 ∧ w.cell? ⟨g, 2, none⟩ = some c2 :=
  ⟨by rw [cell_of_row w g 0 _ t (0, 0) h]; rfl, by rw [cell_of_row w g 1 _ t (0, 0) h]; rfl, by rw [cell_of_row w g 2 _ t (0, 0) h]; rfl⟩
theorem bx4 {w : World} {g : Nat} {t : TypeId} {c0 c1 c2 c3 : Value} (h : w.heap[g]? = some (.cells #[c0, c1, c2, c3] t (0, 0))) : w.cell? ⟨g, 0, none⟩ = some c0 ∧ w.cell? ⟨g, 1, none⟩ = some c1 ∧ w.cell? ⟨g, 2, none⟩ = some c2 ∧ w.cell? ⟨g, 3, none⟩ = some c3 :=
  ⟨by rw [cell_of_row w g 0 _ t (0, 0) h]; rfl, by rw [cell_of_row w g 1 _ t (0, 0) h]; rfl, by rw [cell_of_row w g 2 _ t (0, 0) h]; rfl, by rw [cell_of_row w g 3 _ t (0, 0) h]; rfl⟩
theorem bx7 {w : World} {g : Nat} {t : TypeId} {c0 c1 c2 c3 c4 c5 c6 : Value} (h : w.heap[g]? = some (.cells #[c0, c1, c2, c3, c4, c5, c6] t (0, 0))) :
    w.cell? ⟨g, 0, none⟩ = some c0 ∧ w.cell? ⟨g, 1, none⟩ = some c1 ∧ w.cell? ⟨g, 2, none⟩ = some c2 ∧ w.cell? ⟨g, 3, none⟩ = some c3 ∧ w.cell? ⟨g, 4, none⟩ = some c4 ∧ w.cell? ⟨g, 5, none⟩ = some c5 ∧ w.cell? ⟨g, 6, none⟩ = some c6 :=
  ⟨by rw [cell_of_row w g 0 _ t (0, 0) h]; rfl, by rw [cell_of_row w g 1 _ t (0, 0) h]; rfl, by rw [cell_of_row w g 2 _ t (0, 0) h]; rfl, by rw [cell_of_row w g 3 _ t (0, 0) h]; rfl,
   by rw [cell_of_row w g 4 _ t (0, 0) h]; rfl, by rw [cell_of_row w g 5 _ t (0, 0) h]; rfl, by rw [cell_of_row w g 6 _ t (0, 0) h]; rfl⟩

end Go.Proofs.YtifpjdpcmfneaaaDoor
