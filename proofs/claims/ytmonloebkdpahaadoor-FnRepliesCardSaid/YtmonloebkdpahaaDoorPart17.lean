/- The proof's texts, part 17. -/
import Derived.Test.YtmonloebkdpahaaDoorPart1
import Derived.Lib.AppendStr
import Derived.Test.YtmonloebkdpahaaDoorPart2
import Derived.Test.YtmonloebkdpahaaDoorPart3

/- Strings and bytes put behind a text of one's own. -/
namespace Go.Proofs.YtmonloebkdpahaaDoor
open Go.RowKit
set_option linter.unusedVariables false

/-- What append of a string does behind such a row. -/
theorem run_appendStrQ {P : Program} (w : World) (t u ty : TypeId) (i : TypeInfo) (ht : P.underlying t = some (.slice 5)) (hu : P.underlying u = some .string) (hi : P.info? 5 = some i) (hz : i.zero = some (.int .u8 0)) (hsize : i.size = 1) (hby : i.bytes = 1)
    (g : Nat) (v : Value) (l : List Int) (hown : OwnQ w g v l) (m : List Int) (hm : Oct m) (hlen : l.length + m.length ≤ 140737488355328) :
    ∃ v' w' g', (Builtin.append_ #[t, u] ty #[v, .string (strOfNums m)]).run P w = .ok v' w' ∧ OwnQ w' g' v' (l ++ m) ∧ w.grownBy w' (some g) ∧ (g' = g ∨ w.heap.size ≤ g') := by
  have hold := hown.holds
  obtain ⟨ho, cap, cur, fz, rfl, hh, hfz, h1, h2, h3, h4⟩ := hown
  have hlm : (l ++ m).length = l.length + m.length := by simp
  have hss := strOfNums_size m
  have hsc := strCells_nums hm
  by_cases hroom : l.length + m.length ≤ cap
  · have hf := Lib.run_firstCells_string (P := P) w 1 (strOfNums m)
    have hst := storeQ P g l.length 5 fz (vals m) 0 cur w hh (by rw [length_vals]; rcases hfz with h | h <;> omega) (by rw [length_vals]; omega) (oneCell_vals m)
    simp only [Nat.add_zero, length_vals] at hst
    rw [hss, hsc] at hf
    refine ⟨.slice (some ⟨g, 0, none⟩) (l.length + m.length) cap, w.setRow g (cur.toList.take l.length ++ vals m ++ cur.toList.drop (l.length + m.length)).toArray, g, ?_, ⟨oct_append ho hm, cap, _, fz, by rw [hlm], setRow_heap w g cur _ _ _ hh, hfz, by rw [hlm]; exact hroom, h2, ?_, ?_⟩, ⟨rfl, rfl, rfl, by simp, fun k _ hk => setRow_other w g k _ (fun e => hk (by rw [e]))⟩, .inl rfl⟩
    · simp [Builtin.append_, run_underlying ht, run_underlying hu, sizeOf, typeInfo, hi, hsize, Builtin.lenOf, hss, hroom, hf, Addr.add_lit, hst]
    · simp only [List.size_toArray, List.length_append, List.length_take, List.length_drop, Array.length_toList, length_vals]; omega
    · have hv : (vals l ++ vals m).length = (l ++ m).length := by simp [length_vals]
      show ((cur.toList.take l.length ++ vals m ++ cur.toList.drop (l.length + m.length)).take (l ++ m).length) = _
      rw [h4, vals_append, ← hv]
      exact List.take_left
  · have hr := Lib.run_append_grow_string (P := P) w t u ty 5 i (.int .u8 0) ht hu hi hz ⟨g, 0, none⟩ l.length cap (vals l) (by rw [hsize, length_vals, Nat.mul_one]) (fun j y hy => by rw [Addr.add_lit, Nat.zero_add]; exact hold j y hy) (strOfNums m) (by omega) (by omega) (by rw [hby]; exact growslice_fits (by omega) (by omega))
    rw [hss, hsc] at hr
    have hge := grownCap_ge w (l.length + m.length) cap 5
    have hcm : grownCap w (l.length + m.length) cap 5 ≤ maxLen := grownCap_le_maxLen w (l.length + m.length) cap _ (by unfold maxLen; omega)
    refine ⟨_, _, w.heap.size, hr, ⟨oct_append ho hm, _, _, (0, 0), by rw [hlm], heap_alloc_new w.drew _, .inl rfl, by rw [hlm]; exact hge, hcm, ?_, ?_⟩, ⟨rfl, rfl, rfl, by simp, fun k hk _ => Below.heap_alloc w.drew _ k hk⟩, .inr (Nat.le_refl _)⟩
    · have hz1 : (Value.int IntKind.u8 0).cells.size = 1 := rfl
      simp only [Array.size_append, List.size_toArray, size_zeroCells, hz1, length_vals]
      omega
    · have hv : (vals l ++ vals m).length = (l ++ m).length := by simp [length_vals]
      simp only [Array.toList_append, List.append_assoc]
      rw [← List.append_assoc, vals_append, ← hv]
      exact List.take_left

theorem ite_of {c : Bool} {p q : Prop} (hc : c = true) (h : p) : if c = true then p else q := by rw [if_pos hc]; exact h
/-- An append behind such a text, as an operation of a region that draws its order: of a string, of bytes. -/
theorem wp_appStrQ {P : Program} {w : World} {o : Oper} {a : Act} {K : Act → World → Prop} {Q : Exit → Act → World → Prop} (d : Nat) (hd : o.dst = some d) (s x : Operand) (t u : TypeId)
    (ho : o.op = .call { callee := .builtin .append, args := #[s, x], argTypes := #[t, u] })
    (i : TypeInfo) (ht : P.underlying t = some (.slice 5)) (hu : P.underlying u = some .string) (hi : P.info? 5 = some i) (hz : i.zero = some (.int .u8 0)) (hsize : i.size = 1) (hby : i.bytes = 1)
    (g : Nat) (v : Value) (l : List Int) (hs : a.eval s = v) (hown : OwnQ w g v l) (m : List Int) (hx : a.eval x = .string (strOfNums m)) (hm : Oct m) (hlen : l.length + m.length ≤ 140737488355328)
    (h : ∀ v' w' g', OwnQ w' g' v' (l ++ m) → w.grownBy w' (some g) → (g' = g ∨ w.heap.size ≤ g') → K (a.put (some d) v') w') : o.wp P a w K Q := by
  obtain ⟨v', w', g', hr, h2, h3, h4⟩ := run_appendStrQ (P := P) w t u o.type i ht hu hi hz hsize hby g v l hown m hm hlen
  unfold Oper.wp execOp
  simp only [ho, resolve, invoke, builtin, Sem.run_bind, Sem.run_pure, Result.andThen_ok, List.map_toArray, List.map_cons, List.map_nil, hs, hx, hr]
  have := h v' w' g' h2 h3 h4
  rw [← hd] at this
  exact this
theorem wp_appQ {P : Program} {w : World} {o : Oper} {a : Act} {K : Act → World → Prop} {Q : Exit → Act → World → Prop} (d : Nat) (hd : o.dst = some d) (s x : Operand) (t : TypeId)
    (ho : o.op = .call { callee := .builtin .append, args := #[s, x], argTypes := #[t, t] })
    (i : TypeInfo) (ht : P.underlying t = some (.slice 5)) (hi : P.info? 5 = some i) (hz : i.zero = some (.int .u8 0)) (hsize : i.size = 1) (hby : i.bytes = 1)
    (g : Nat) (v : Value) (l : List Int) (hs : a.eval s = v) (hown : OwnQ w g v l) (u : Value) (m : List Int) (hx : a.eval x = u) (hm : Bs w u m) (hlen : l.length + m.length ≤ 140737488355328)
    (h : ∀ v' w' g', OwnQ w' g' v' (l ++ m) → w.grownBy w' (some g) → (g' = g ∨ w.heap.size ≤ g') → K (a.put (some d) v') w') : o.wp P a w K Q := by
  obtain ⟨v', w', g', hr, h2, h3, h4⟩ := run_appendQ (P := P) w t o.type i ht hi hz hsize hby g v l hown u m hm hlen
  unfold Oper.wp execOp
  simp only [ho, resolve, invoke, builtin, Sem.run_bind, Sem.run_pure, Result.andThen_ok, List.map_toArray, List.map_cons, List.map_nil, hs, hx, hr]
  have := h v' w' g' h2 h3 h4
  rw [← hd] at this
  exact this

end Go.Proofs.YtmonloebkdpahaaDoor

/- A text that grows while blocks beside it stay; strings put behind it. -/
namespace Go.Proofs.YtmonloebkdpahaaDoor
open Go.RowKit
set_option linter.unusedVariables false

/-- The text v grows in block g, behind A; the blocks in K are as they were in w0. -/
def Tx (A w0 : World) (K : Nat → Prop) (wx : World) (g : Nat) (v : Value) (L : List Int) (n : Nat) : Prop :=
  St A wx g v L n ∧ ¬ K g ∧ (∀ b, K b → b < w0.heap.size) ∧ (∀ b, K b → wx.heap[b]? = w0.heap[b]?) ∧ w0.heap.size ≤ wx.heap.size
section
variable {A w0 wx w' : World} {K : Nat → Prop} {g g' n : Nat} {v v' : Value} {L m : List Int}
theorem Tx.st (h : Tx A w0 K wx g v L n) : St A wx g v L n := h.1
theorem Tx.kept (h : Tx A w0 K wx g v L n) {b : Nat} {o : Obj} (hb : K b) (ho : w0.heap[b]? = some o) : wx.heap[b]? = some o := (h.2.2.2.1 b hb).trans ho
theorem Tx.below (h : Tx A w0 K wx g v L n) (hb : Below wx.heap.size wx w') : Tx A w0 K w' g v L n :=
  ⟨h.1.below hb, h.2.1, h.2.2.1, fun b hk => (hb.block b (Nat.lt_of_lt_of_le (h.2.2.1 b hk) h.2.2.2.2)).trans (h.2.2.2.1 b hk), Nat.le_trans h.2.2.2.2 hb.size⟩
theorem Tx.grow (h : Tx A w0 K wx g v L n) (hO : OwnQ w' g' v' (L ++ m)) (hG : wx.grownBy w' (some g)) (hg : g' = g ∨ wx.heap.size ≤ g') : Tx A w0 K w' g' v' (L ++ m) (n + m.length) := by
  obtain ⟨h1, h2, h3, h4, h5⟩ := h
  have hs := h1.old.size
  refine ⟨⟨?_, hO, below_grownQ h1.old hG h1.ge, ?_, ?_⟩, ?_, h3, fun b hk => ?_, Nat.le_trans h5 hG.size⟩
  · have := h1.ge
    rcases hg with rfl | hg <;> omega
  · have := h1.2.2.2.1
    simp only [List.length_append]; omega
  · have := h1.2.2.2.2
    simp only [List.length_append]; omega
  · rcases hg with rfl | hg
    · exact h2
    · intro hk
      have := h3 g' hk
      omega
  · have hne : b ≠ g := fun e => h2 (e ▸ hk)
    exact (hG.block b (Nat.lt_of_lt_of_le (h3 b hk) h5) (by simpa using hne)).trans (h4 b hk)
theorem Tx.of_st (h : St A wx g v L n) (hk : ∀ b, K b → b < wx.heap.size ∧ b ≠ g) : Tx A wx K wx g v L n :=
  ⟨h, fun e => (hk g e).2 rfl, fun b hb => (hk b hb).1, fun _ _ => rfl, Nat.le_refl _⟩
end

theorem tx_le {A w0 wx : World} {K : Nat → Prop} {g n m : Nat} {v : Value} {L : List Int} (h : Tx A w0 K wx g v L n) (hm : n ≤ m) : Tx A w0 K wx g v L m :=
  ⟨⟨h.1.1, h.1.2.1, h.1.2.2.1, h.1.2.2.2.1, Nat.le_trans h.1.2.2.2.2 hm⟩, h.2⟩
theorem bs_lt1 {w : World} {b : Nat} {x : Int} (h : Bs w (.slice (some ⟨b, 0, none⟩) 1 1) [x]) : b < w.heap.size := by
  obtain ⟨_, a, cap, e, _, _, _, h4⟩ := h
  obtain ⟨b', off, ha, hb, _⟩ := h4 (by simp)
  rw [ha] at e
  simp only [Value.slice.injEq, Option.some.injEq, Addr.mk.injEq] at e
  rw [e.1.1]
  exact hb
theorem BoxV.name_bs {w : World} {u0 u1 u2 : Value} {b : BoxD} (h : BoxV w (.agg #[u0, .int .i64 b.valid, .int .i64 b.next, .int .i64 b.seq, u1, u2, .int .i64 b.lost]) b) : Bs w u0 b.name := by
  obtain ⟨p0, p1, p2, e, q, -⟩ := h
  simp only [Value.agg.injEq, Array.mk.injEq, List.cons.injEq, and_true, true_and] at e
  rw [e.1]
  exact q

theorem Tx.back {A w0 w1 wx : World} {K K' : Nat → Prop} {g g' n n' : Nat} {v v' : Value} {L L' : List Int} (h' : Tx A w1 K' wx g' v' L' n') (h : Tx A w0 K w1 g v L n) (hk : ∀ b, K b → K' b) : Tx A w0 K wx g' v' L' n' :=
  ⟨h'.1, fun e => h'.2.1 (hk _ e), h.2.2.1, fun b hb => (h'.2.2.2.1 b (hk b hb)).trans (h.2.2.2.1 b hb), Nat.le_trans h.2.2.2.2 h'.2.2.2.2⟩
theorem BoxV.lists {w : World} {u0 u1 u2 : Value} {b : BoxD} (h : BoxV w (.agg #[u0, .int .i64 b.valid, .int .i64 b.next, .int .i64 b.seq, u1, u2, .int .i64 b.lost]) b) : MailsV w u1 b.mails ∧ GonesV w u2 b.gones := by
  obtain ⟨p0, p1, p2, e, q, q1, q2, -⟩ := h
  simp only [Value.agg.injEq, Array.mk.injEq, List.cons.injEq, and_true, true_and] at e
  rw [e.2.1, e.2.2]
  exact ⟨q1, q2⟩

end Go.Proofs.YtmonloebkdpahaaDoor
