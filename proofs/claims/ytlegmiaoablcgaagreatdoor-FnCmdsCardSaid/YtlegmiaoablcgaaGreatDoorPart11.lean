/- The proof's texts, part 11. -/
import Derived.Test.YtlegmiaoablcgaaGreatDoorPart8
import Derived.Test.YtlegmiaoablcgaaGreatDoorPart2
import Derived.Lib.AppendStr
import Derived.Deep.DeepCutAuto
import Derived.Test.YtlegmiaoablcgaaGreatDoorPart9
import Derived.Deep.Light

/- What 'append(b, make([]byte, n)...)' does. -/
namespace Go.Proofs.YtlegmiaoablcgaaGreatDoor
open Go.RowKit
set_option linter.unusedVariables false
set_option linter.unusedSimpArgs false

/-- Bytes of one's own, or none at all. -/
def OwnN (w : World) (B : Nat) (v : Value) (l : List Int) : Prop := (v = .slice none 0 0 ∧ l = []) ∨ ∃ g, B ≤ g ∧ OwnQ w g v l
def zeroL (n : Nat) : List Int := List.replicate n 0
theorem zeroL_len (n : Nat) : (zeroL n).length = n := by simp [zeroL]
theorem zeroL_oct (n : Nat) : Oct (zeroL n) := fun x hx => by rw [List.eq_of_mem_replicate hx]; omega
theorem zeroL_vals (n : Nat) : vals (zeroL n) = List.replicate n (Value.int .u8 0) := by simp [zeroL, vals]
theorem zeroL_cells (n : Nat) : Builtin.zeroCells (Value.int .u8 0).cells n = (vals (zeroL n)).toArray := by
  rw [zeroL_vals]
  apply Array.ext'
  apply List.ext_getElem
  · simp [Builtin.zeroCells, Value.cells]
  · intro j h1 h2
    simp [Builtin.zeroCells, Value.cells, Nat.mod_one]
theorem wrap_nat (n : Nat) (hn : n ≤ 100000) : IntKind.i64.wrap (n : Int) = n := by
  simp [IntKind.wrap, IntKind.signed, IntKind.bits] <;> omega
theorem run_appendZ {P : Program} (w : World) (t u ty : TypeId) (i : TypeInfo) (ht : P.underlying t = some (.slice 5)) (hu : P.underlying u = some (.int .i64)) (hi : P.info? 5 = some i) (hz : i.zero = some (.int .u8 0)) (hsize : i.size = 1) (hby : i.bytes = 1)
    (g : Nat) (v : Value) (l : List Int) (hown : OwnQ w g v l) (n : Nat) (hn0 : 0 < n) (hn : n ≤ 100000) (hlen : l.length + n ≤ 140737488355328) :
    ∃ v' w' g', (Builtin.append_ #[t, u] ty #[v, .int .i64 n]).run P w = .ok v' w' ∧ OwnQ w' g' v' (l ++ zeroL n) ∧ w.grownBy w' (some g) ∧ (g' = g ∨ w.heap.size ≤ g') := by
  have hold := hown.holds
  obtain ⟨ho, cap, cur, fz, rfl, hh, hfz, h1, h2, h3, h4⟩ := hown
  have hll := zeroL_len n
  have hlm : (l ++ zeroL n).length = l.length + n := by simp [hll]
  have hw := wrap_nat n hn
  have hzc := zeroL_cells n
  have hb : ¬ ((n : Int) < 0) := by omega
  have hc : ¬ ((281474976710656 : Int) < (n : Int)) := by omega
  have hn1 : ¬ (n = 0) := by omega
  have hd : ¬ ((n : Int) ≤ 0) := by omega
  have hm : max (n : Int) 0 = n := by omega
  by_cases hroom : l.length + n ≤ cap
  · have hst := storeQ P g l.length 5 fz (vals (zeroL n)) 0 cur w hh (by rw [length_vals, hll]; rcases hfz with h | h <;> omega) (by rw [length_vals, hll]; omega) (oneCell_vals _)
    simp only [Nat.add_zero, length_vals, hll] at hst
    refine ⟨.slice (some ⟨g, 0, none⟩) (l.length + n) cap, w.setRow g (cur.toList.take l.length ++ vals (zeroL n) ++ cur.toList.drop (l.length + n)).toArray, g, ?_, ⟨oct_append ho (zeroL_oct n), cap, _, fz, by rw [hlm], setRow_heap w g cur _ _ _ hh, hfz, by rw [hlm]; exact hroom, h2, ?_, ?_⟩, ⟨rfl, rfl, rfl, by simp, fun k _ hk => setRow_other w g k _ (fun e => hk (by rw [e]))⟩, .inl rfl⟩
    · simp [Builtin.append_, run_underlying ht, run_underlying hu, sizeOf, typeInfo, zeroValue, hi, hz, hsize, hby, asInt, asIntOf, hw, hb, hc, hd, hm, hn1, hroom, hzc, Addr.add_lit, hst]
    · simp only [List.size_toArray, List.length_append, List.length_take, List.length_drop, Array.length_toList, length_vals, hll]; omega
    · have hv : (vals l ++ vals (zeroL n)).length = (l ++ zeroL n).length := by simp [length_vals]
      show ((cur.toList.take l.length ++ vals (zeroL n) ++ cur.toList.drop (l.length + n)).take (l ++ zeroL n).length) = _
      rw [h4, vals_append, ← hv]
      exact List.take_left
  · have hge := grownCap_ge w (l.length + n) cap 5
    have hcm : grownCap w (l.length + n) cap 5 ≤ maxLen := grownCap_le_maxLen w (l.length + n) cap _ (by unfold maxLen; omega)
    have h63' : ¬ (9223372036854775807 < ((l.length : Int) + (n : Int))) := by omega
    have hfit : Builtin.nextslicecap (l.length + n) cap * 1 ≤ 281474976710656 := growslice_fits (by omega) (by omega)
    have h48' : ¬ (281474976710656 < Builtin.nextslicecap (l.length + n) cap) := by omega
    have hfo := run_firstCells_some (P := P) w.drew 1 l.length ⟨g, 0, none⟩ l.length cap (vals l) (by rw [length_vals, Nat.mul_one]) (fun j u hu => by rw [Addr.add_lit, Nat.zero_add]; simpa using hold j u hu)
    have hr : (Builtin.append_ #[t, u] ty #[.slice (some ⟨g, 0, none⟩) l.length cap, .int .i64 n]).run P w = .ok (.slice (some ⟨w.heap.size, 0, none⟩) (l.length + n) (grownCap w (l.length + n) cap 5)) (w.drew.alloc (.cells ((vals l).toArray ++ (vals (zeroL n)).toArray ++ Builtin.zeroCells (Value.int .u8 0).cells (grownCap w (l.length + n) cap 5 - (l.length + n))) 5)) := by
      rw [← hzc]
      simp [Builtin.append_, run_underlying ht, run_underlying hu, sizeOf, typeInfo, zeroValue, hi, hz, hsize, hby, asInt, asIntOf, hw, hb, hc, hd, hm, hn1, hroom, h63', h48', Question.forced, hfo, newRow, grownCap]
    refine ⟨_, _, w.heap.size, hr, ⟨oct_append ho (zeroL_oct n), _, _, (0, 0), by rw [hlm], heap_alloc_new w.drew _, .inl rfl, by rw [hlm]; exact hge, hcm, ?_, ?_⟩, ⟨rfl, rfl, rfl, by simp, fun k hk _ => Below.heap_alloc w.drew _ k hk⟩, .inr (Nat.le_refl _)⟩
    · have hz1 : (Value.int IntKind.u8 0).cells.size = 1 := rfl
      simp only [Array.size_append, List.size_toArray, size_zeroCells, hz1, length_vals, hll]
      omega
    · have hv : (vals l ++ vals (zeroL n)).length = (l ++ zeroL n).length := by simp [length_vals]
      simp only [Array.toList_append, List.append_assoc]
      rw [← List.append_assoc, vals_append, ← hv]
      exact List.take_left
theorem run_appendZ0 {P : Program} (w : World) (t u ty : TypeId) (i : TypeInfo) (ht : P.underlying t = some (.slice 5)) (hu : P.underlying u = some (.int .i64)) (hi : P.info? 5 = some i) (hz : i.zero = some (.int .u8 0)) (hsize : i.size = 1) (hby : i.bytes = 1)
    (n : Nat) (hn0 : 0 < n) (hn : n ≤ 100000) :
    ∃ v' w', (Builtin.append_ #[t, u] ty #[.slice none 0 0, .int .i64 n]).run P w = .ok v' w' ∧ OwnQ w' w.heap.size v' (zeroL n) ∧ Below w.heap.size w w' := by
  have hll := zeroL_len n
  have hw := wrap_nat n hn
  have hzc := zeroL_cells n
  have hb : ¬ ((n : Int) < 0) := by omega
  have hc : ¬ ((281474976710656 : Int) < (n : Int)) := by omega
  have hn1 : ¬ (n = 0) := by omega
  have hd : ¬ ((n : Int) ≤ 0) := by omega
  have hm : max (n : Int) 0 = n := by omega
  have hroom : ¬ (n ≤ 0) := by omega
  have hge := grownCap_ge w n 0 5
  have hcm : grownCap w n 0 5 ≤ maxLen := grownCap_le_maxLen w n 0 _ (by unfold maxLen; omega)
  have h63' : ¬ (9223372036854775807 < (n : Int)) := by omega
  have hfit : Builtin.nextslicecap n 0 * 1 ≤ 281474976710656 := growslice_fits (by omega) (by omega)
  have h48' : ¬ (281474976710656 < Builtin.nextslicecap n 0) := by omega
  have hr : (Builtin.append_ #[t, u] ty #[.slice none 0 0, .int .i64 n]).run P w = .ok (.slice (some ⟨w.heap.size, 0, none⟩) n (grownCap w n 0 5)) (w.drew.alloc (.cells ((vals (zeroL n)).toArray ++ Builtin.zeroCells (Value.int .u8 0).cells (grownCap w n 0 5 - n)) 5)) := by
    rw [← hzc]
    simp [Builtin.append_, run_underlying ht, run_underlying hu, sizeOf, typeInfo, zeroValue, hi, hz, hsize, hby, asInt, asIntOf, hw, hb, hc, hd, hm, hn1, hroom, h63', h48', Question.forced, Builtin.firstCells, newRow, grownCap]
  refine ⟨_, _, hr, ⟨zeroL_oct n, _, _, (0, 0), by rw [hll], heap_alloc_new w.drew _, .inl rfl, by rw [hll]; exact hge, hcm, ?_, ?_⟩, (Below.refl _ _).drew.alloc (Nat.le_refl _) _⟩
  · have hz1 : (Value.int IntKind.u8 0).cells.size = 1 := rfl
    simp only [Array.size_append, List.size_toArray, size_zeroCells, hz1, length_vals, hll]
    omega
  · have hv : (vals (zeroL n)).length = (zeroL n).length := by simp [length_vals]
    simp only [Array.toList_append]
    rw [← hv]
    exact List.take_left
section
variable {w w' : World} {B : Nat} {v : Value} {l : List Int}
theorem OwnN.bs (h : OwnN w B v l) : Bs w v l := by
  rcases h with ⟨rfl, rfl⟩ | ⟨g, _, h⟩
  · exact bs_nil w
  · exact h.bs
theorem OwnN.new (h : OwnN w B v l) : ∀ k, v.ownBlock = some k → B ≤ k := by
  rcases h with ⟨rfl, rfl⟩ | ⟨g, hg, h⟩
  · intro k hk; simp [Value.ownBlock] at hk
  · obtain ⟨cap, rfl⟩ := h.form
    intro k hk
    simp only [Value.ownBlock, Option.some.injEq] at hk
    omega
theorem OwnN.form (h : OwnN w B v l) : ∃ a c, v = .slice a l.length c := by
  rcases h with ⟨rfl, rfl⟩ | ⟨g, hg, h⟩
  · exact ⟨none, 0, rfl⟩
  · obtain ⟨cap, rfl⟩ := h.form; exact ⟨_, _, rfl⟩
theorem OwnN.below (h : OwnN w B v l) (hb : Below w.heap.size w w') : OwnN w' B v l := by
  rcases h with h | ⟨g, hg, h⟩
  · exact .inl h
  · exact .inr ⟨g, hg, h.below hb⟩
theorem Row.ownN {B' T : Nat} (h : Row w B' T v l) (hB : B ≤ B') : OwnN w B v l := by
  obtain ⟨ho, ⟨_, hr⟩, _⟩ := h
  rcases hr with ⟨rfl, h0⟩ | ⟨g, cap, cur, rfl, hg, hh, h1, h2, h3, h4⟩
  · exact .inl ⟨rfl, List.eq_nil_of_length_eq_zero h0⟩
  · exact .inr ⟨g, by omega, ho, cap, cur, (0, 0), rfl, hh, .inl rfl, h1, h2, by omega, by simpa using h4⟩
end
theorem wpList_appendZ {P : Program} {w : World} {ops : Array Oper} {rest : List Oper} {o : Oper} {a : Act} {Q : Exit → Act → World → Prop} (hgd : o.guard = none) (s x : Operand) (t u : TypeId)
    (ho : o.op = .call { callee := .builtin .append, args := #[s, x], argTypes := #[t, u] })
    (i : TypeInfo) (ht : P.underlying t = some (.slice 5)) (hu : P.underlying u = some (.int .i64)) (hi : P.info? 5 = some i) (hz : i.zero = some (.int .u8 0)) (hsize : i.size = 1) (hby : i.bytes = 1)
    (B : Nat) (v : Value) (l : List Int) (hs : a.eval s = v) (hown : OwnN w B v l) (hB : B ≤ w.heap.size) (n : Nat) (hx : a.eval x = .int .i64 n) (hn0 : 0 < n) (hn : n ≤ 100000) (hlen : l.length + n ≤ 140737488355328)
    (h : ∀ v' w', OwnN w' B v' (l ++ zeroL n) → Below B w w' → wpList P ops Q rest (a.put o.dst v') w') : wpList P ops Q (o :: rest) a w := by
  refine wpList_plain hgd fun K hK => ?_
  rcases hown with ⟨rfl, rfl⟩ | ⟨g, hg, hq⟩
  · obtain ⟨v', w', hr, h2, h3⟩ := run_appendZ0 (P := P) w t u o.type i ht hu hi hz hsize hby n hn0 hn
    unfold Oper.wp execOp
    simp only [ho, resolve, invoke, builtin, Sem.run_bind, Sem.run_pure, Result.andThen_ok, List.map_toArray, List.map_cons, List.map_nil, hs, hx, hr]
    exact hK _ _ (h v' w' (.inr ⟨_, hB, by simpa using h2⟩) (h3.mono hB))
  · obtain ⟨v', w', g', hr, h2, h3, h4⟩ := run_appendZ (P := P) w t u o.type i ht hu hi hz hsize hby g v l hq n hn0 hn hlen
    unfold Oper.wp execOp
    simp only [ho, resolve, invoke, builtin, Sem.run_bind, Sem.run_pure, Result.andThen_ok, List.map_toArray, List.map_cons, List.map_nil, hs, hx, hr]
    exact hK _ _ (h v' w' (.inr ⟨g', by omega, h2⟩) ((Below.refl B w).grown h3 hB (fun k hk => by cases hk; exact hg)))

end Go.Proofs.YtlegmiaoablcgaaGreatDoor

/- A text in a block of its own, made behind the call's beginning. -/
namespace Go.Proofs.YtlegmiaoablcgaaGreatDoor
open Go.RowKit

def OwnA (w w' : World) (u : Value) (l : List Int) : Prop := ∃ q, OwnQ w' q u l ∧ w.heap.size ≤ q
theorem OwnA.bs {w w' : World} {u : Value} {l : List Int} (h : OwnA w w' u l) : Bs w' u l := let ⟨_, h1, _⟩ := h; h1.bs
theorem OwnA.new {w w' : World} {u : Value} {l : List Int} (h : OwnA w w' u l) : ∀ b, u.ownBlock = some b → w.heap.size ≤ b := by
  obtain ⟨q, h1, h2⟩ := h
  obtain ⟨cap, rfl⟩ := h1.form
  intro b hb
  simp only [Value.ownBlock, Option.some.injEq] at hb
  omega
theorem St.ownA {w A wx : World} {g n : Nat} {v : Value} {L : List Int} (h : St A wx g v L n) (hA : w.heap.size ≤ A.heap.size) : OwnA w wx v L := ⟨g, h.own, Nat.le_trans hA h.ge⟩

end Go.Proofs.YtlegmiaoablcgaaGreatDoor

/- What l4text of package spec does: kinds with a name alone, and without one. -/
namespace Go.Proofs.YtlegmiaoablcgaaGreatDoor
open Go.RowKit
set_option maxRecDepth 100000
set_option linter.unusedVariables false

set_option maxRecDepth 100000 in
set_option maxHeartbeats 4000000 in
theorem l4text_9' (a0 a1 a2 : Option Addr) (n0 n1 n2 c0 c1 c2 : Nat) (bx tt : List Int) (uid mode fl si : Int) (tx : List Int) (w : World) (HG : Hid (∀ wi, Below w.heap.size w wi → Bs wi (.slice a0 n0 c0) bx ∧ Bs wi (.slice a1 n1 c1) tt ∧ Bs wi (.slice a2 n2 c2) tx))  :
    Calls Tryz.prog 26 #[.agg #[.int .i64 9, .slice a0 n0 c0, .slice a1 n1 c1, .int .i64 uid, .int .i64 mode, .int .i64 fl, .int .i64 si, .slice a2 n2 c2]] w fun e w' => ∃ u, e = .returned u ∧ OwnA w w' u (kindW 9) ∧ Below w.heap.size w w' := by
  have HX : Hid (Below w.heap.size w (w.alloc (.cells #[.int .i64 9, .slice a0 n0 c0, .slice a1 n1 c1, .int .i64 uid, .int .i64 mode, .int .i64 fl, .int .i64 si, .slice a2 n2 c2] 24))) := (Below.refl _ _).alloc (Nat.le_refl _) _
  have HK : Hid ((w.alloc (.cells #[.int .i64 9, .slice a0 n0 c0, .slice a1 n1 c1, .int .i64 uid, .int .i64 mode, .int .i64 fl, .int .i64 si, .slice a2 n2 c2] 24)).heap[w.heap.size]? = some (.cells #[.int .i64 9, .slice a0 n0 c0, .slice a1 n1 c1, .int .i64 uid, .int .i64 mode, .int .i64 fl, .int .i64 si, .slice a2 n2 c2] 24)) := box_new w _
  have hcv := run_convert_str (kindW 9)
  have hkw : (kindW 9).length ≤ 7 ∧ 0 < (kindW 9).length ∧ Oct (kindW 9) := by
    exact ⟨by decide, by decide, by intro x hx; simp [kindW] at hx; omega⟩
  have hq := fun W => bytesWorldQ W (kindW 9) hkw.2.2 (by omega)
  generalize hA : w.alloc (.cells #[.int .i64 9, .slice a0 n0 c0, .slice a1 n1 c1, .int .i64 uid, .int .i64 mode, .int .i64 fl, .int .i64 si, .slice a2 n2 c2] 24) = A at HX HK
  have hAs : A.heap.size = w.heap.size + 1 := by rw [← hA]; simp
  generalize hkW : kindW 9 = kw at *
  go_enter Tryz.func26, Tryz.ntmps26
  obtain ⟨f0, f1, f2, f3, f4, f5, f6, f7⟩ := box8 HK.out
  have hlA := lt_of_heap HK.out
  go_wp2_with fail
  refine (l4kind_r 9 (by omega) _).mono ?_
  rw [hkW]
  rintro e w1 ⟨rfl, B⟩
  have hq1 := hq w1
  have hs1 := B.size
  generalize hW2 : Lib.bytesWorld w1 5 (strOfNums kw) = w2 at *
  have C2 := Below.step B hq1.2
  have ST : Hid (St A w2 w1.heap.size (.slice (some ⟨w1.heap.size, 0, none⟩) kw.length (grownCap w1 kw.length 0 5)) kw 7) := ⟨hs1, hq1.1, C2, hkw.2.1, hkw.1⟩
  have K2 := box_below C2 HK.out
  clear f0 f1 f2 f3 f4 f5 f6 f7 hlA hq hq1 B C2
  obtain ⟨f0, f1, f2, f3, f4, f5, f6, f7⟩ := box8 K2
  have hlA := lt_of_heap K2
  go_wp2
  go_ret
  exact ⟨_, rfl, (ST.out.ownA (w := w) (by omega)), Below.step HX.out ST.out.old⟩

set_option maxRecDepth 100000 in
set_option maxHeartbeats 4000000 in
theorem l4text_0 (a0 a1 a2 : Option Addr) (n0 n1 n2 c0 c1 c2 : Nat) (bx tt : List Int) (uid mode fl si : Int) (tx : List Int) (w : World) (HG : Hid (∀ wi, Below w.heap.size w wi → Bs wi (.slice a0 n0 c0) bx ∧ Bs wi (.slice a1 n1 c1) tt ∧ Bs wi (.slice a2 n2 c2) tx)) (hbx : bx.length ≤ 6) (hbx0 : 0 < bx.length)  :
    Calls Tryz.prog 26 #[.agg #[.int .i64 0, .slice a0 n0 c0, .slice a1 n1 c1, .int .i64 uid, .int .i64 mode, .int .i64 fl, .int .i64 si, .slice a2 n2 c2]] w fun e w' => ∃ u, e = .returned u ∧ OwnA w w' u (kindW 0 ++ [32] ++ bx) ∧ Below w.heap.size w w' := by
  have HX : Hid (Below w.heap.size w (w.alloc (.cells #[.int .i64 0, .slice a0 n0 c0, .slice a1 n1 c1, .int .i64 uid, .int .i64 mode, .int .i64 fl, .int .i64 si, .slice a2 n2 c2] 24))) := (Below.refl _ _).alloc (Nat.le_refl _) _
  have HK : Hid ((w.alloc (.cells #[.int .i64 0, .slice a0 n0 c0, .slice a1 n1 c1, .int .i64 uid, .int .i64 mode, .int .i64 fl, .int .i64 si, .slice a2 n2 c2] 24)).heap[w.heap.size]? = some (.cells #[.int .i64 0, .slice a0 n0 c0, .slice a1 n1 c1, .int .i64 uid, .int .i64 mode, .int .i64 fl, .int .i64 si, .slice a2 n2 c2] 24)) := box_new w _
  have hcv := run_convert_str (kindW 0)
  have hkw : (kindW 0).length ≤ 7 ∧ 0 < (kindW 0).length ∧ Oct (kindW 0) := by
    exact ⟨by decide, by decide, by intro x hx; simp [kindW] at hx; omega⟩
  have hq := fun W => bytesWorldQ W (kindW 0) hkw.2.2 (by omega)
  generalize hA : w.alloc (.cells #[.int .i64 0, .slice a0 n0 c0, .slice a1 n1 c1, .int .i64 uid, .int .i64 mode, .int .i64 fl, .int .i64 si, .slice a2 n2 c2] 24) = A at HX HK
  have hAs : A.heap.size = w.heap.size + 1 := by rw [← hA]; simp
  generalize hkW : kindW 0 = kw at *
  go_enter Tryz.func26, Tryz.ntmps26
  obtain ⟨f0, f1, f2, f3, f4, f5, f6, f7⟩ := box8 HK.out
  have hlA := lt_of_heap HK.out
  go_wp2_with fail
  refine (l4kind_r 0 (by omega) _).mono ?_
  rw [hkW]
  rintro e w1 ⟨rfl, B⟩
  have hq1 := hq w1
  have hs1 := B.size
  generalize hW2 : Lib.bytesWorld w1 5 (strOfNums kw) = w2 at *
  have C2 := Below.step B hq1.2
  have ST : Hid (St A w2 w1.heap.size (.slice (some ⟨w1.heap.size, 0, none⟩) kw.length (grownCap w1 kw.length 0 5)) kw 7) := ⟨hs1, hq1.1, C2, hkw.2.1, hkw.1⟩
  have K2 := box_below C2 HK.out
  clear f0 f1 f2 f3 f4 f5 f6 f7 hlA hq hq1 B C2
  obtain ⟨f0, f1, f2, f3, f4, f5, f6, f7⟩ := box8 K2
  have hlA := lt_of_heap K2
  go_wp2_with fail
  refine (l4word_s A _ _ (.slice a0 n0 c0) kw bx 7 6 _ ST.out (HG.out _ (Below.step HX.out ST.out.old)).1 (bs_old_ne (HG.out _ (Below.refl _ _)).1 (by omega) hbx0) (by omega) (by omega)).mono ?_
  rintro e w3 ⟨v1, g1, rfl, ST1, G1, hg1⟩
  have S1 : Hid (St A w3 g1 v1 (kw ++ [32] ++ bx) 14) := ST1
  have K3 := box_below S1.out.old HK.out
  clear f0 f1 f2 f3 f4 f5 f6 f7 hlA ST1 G1 hg1 ST K2
  obtain ⟨f0, f1, f2, f3, f4, f5, f6, f7⟩ := box8 K3
  have hlA := lt_of_heap K3
  go_wp2
  go_ret
  exact ⟨_, rfl, (S1.out.ownA (w := w) (by omega)), Below.step HX.out S1.out.old⟩

set_option maxRecDepth 100000 in
set_option maxHeartbeats 4000000 in
theorem l4text_1 (a0 a1 a2 : Option Addr) (n0 n1 n2 c0 c1 c2 : Nat) (bx tt : List Int) (uid mode fl si : Int) (tx : List Int) (w : World) (HG : Hid (∀ wi, Below w.heap.size w wi → Bs wi (.slice a0 n0 c0) bx ∧ Bs wi (.slice a1 n1 c1) tt ∧ Bs wi (.slice a2 n2 c2) tx)) (hbx : bx.length ≤ 6) (hbx0 : 0 < bx.length)  :
    Calls Tryz.prog 26 #[.agg #[.int .i64 1, .slice a0 n0 c0, .slice a1 n1 c1, .int .i64 uid, .int .i64 mode, .int .i64 fl, .int .i64 si, .slice a2 n2 c2]] w fun e w' => ∃ u, e = .returned u ∧ OwnA w w' u (kindW 1 ++ [32] ++ bx) ∧ Below w.heap.size w w' := by
  have HX : Hid (Below w.heap.size w (w.alloc (.cells #[.int .i64 1, .slice a0 n0 c0, .slice a1 n1 c1, .int .i64 uid, .int .i64 mode, .int .i64 fl, .int .i64 si, .slice a2 n2 c2] 24))) := (Below.refl _ _).alloc (Nat.le_refl _) _
  have HK : Hid ((w.alloc (.cells #[.int .i64 1, .slice a0 n0 c0, .slice a1 n1 c1, .int .i64 uid, .int .i64 mode, .int .i64 fl, .int .i64 si, .slice a2 n2 c2] 24)).heap[w.heap.size]? = some (.cells #[.int .i64 1, .slice a0 n0 c0, .slice a1 n1 c1, .int .i64 uid, .int .i64 mode, .int .i64 fl, .int .i64 si, .slice a2 n2 c2] 24)) := box_new w _
  have hcv := run_convert_str (kindW 1)
  have hkw : (kindW 1).length ≤ 7 ∧ 0 < (kindW 1).length ∧ Oct (kindW 1) := by
    exact ⟨by decide, by decide, by intro x hx; simp [kindW] at hx; omega⟩
  have hq := fun W => bytesWorldQ W (kindW 1) hkw.2.2 (by omega)
  generalize hA : w.alloc (.cells #[.int .i64 1, .slice a0 n0 c0, .slice a1 n1 c1, .int .i64 uid, .int .i64 mode, .int .i64 fl, .int .i64 si, .slice a2 n2 c2] 24) = A at HX HK
  have hAs : A.heap.size = w.heap.size + 1 := by rw [← hA]; simp
  generalize hkW : kindW 1 = kw at *
  go_enter Tryz.func26, Tryz.ntmps26
  obtain ⟨f0, f1, f2, f3, f4, f5, f6, f7⟩ := box8 HK.out
  have hlA := lt_of_heap HK.out
  go_wp2_with fail
  refine (l4kind_r 1 (by omega) _).mono ?_
  rw [hkW]
  rintro e w1 ⟨rfl, B⟩
  have hq1 := hq w1
  have hs1 := B.size
  generalize hW2 : Lib.bytesWorld w1 5 (strOfNums kw) = w2 at *
  have C2 := Below.step B hq1.2
  have ST : Hid (St A w2 w1.heap.size (.slice (some ⟨w1.heap.size, 0, none⟩) kw.length (grownCap w1 kw.length 0 5)) kw 7) := ⟨hs1, hq1.1, C2, hkw.2.1, hkw.1⟩
  have K2 := box_below C2 HK.out
  clear f0 f1 f2 f3 f4 f5 f6 f7 hlA hq hq1 B C2
  obtain ⟨f0, f1, f2, f3, f4, f5, f6, f7⟩ := box8 K2
  have hlA := lt_of_heap K2
  go_wp2_with fail
  refine (l4word_s A _ _ (.slice a0 n0 c0) kw bx 7 6 _ ST.out (HG.out _ (Below.step HX.out ST.out.old)).1 (bs_old_ne (HG.out _ (Below.refl _ _)).1 (by omega) hbx0) (by omega) (by omega)).mono ?_
  rintro e w3 ⟨v1, g1, rfl, ST1, G1, hg1⟩
  have S1 : Hid (St A w3 g1 v1 (kw ++ [32] ++ bx) 14) := ST1
  have K3 := box_below S1.out.old HK.out
  clear f0 f1 f2 f3 f4 f5 f6 f7 hlA ST1 G1 hg1 ST K2
  obtain ⟨f0, f1, f2, f3, f4, f5, f6, f7⟩ := box8 K3
  have hlA := lt_of_heap K3
  go_wp2
  go_ret
  exact ⟨_, rfl, (S1.out.ownA (w := w) (by omega)), Below.step HX.out S1.out.old⟩

set_option maxRecDepth 100000 in
set_option maxHeartbeats 4000000 in
theorem l4text_4 (a0 a1 a2 : Option Addr) (n0 n1 n2 c0 c1 c2 : Nat) (bx tt : List Int) (uid mode fl si : Int) (tx : List Int) (w : World) (HG : Hid (∀ wi, Below w.heap.size w wi → Bs wi (.slice a0 n0 c0) bx ∧ Bs wi (.slice a1 n1 c1) tt ∧ Bs wi (.slice a2 n2 c2) tx)) (hbx : bx.length ≤ 6) (hbx0 : 0 < bx.length)  :
    Calls Tryz.prog 26 #[.agg #[.int .i64 4, .slice a0 n0 c0, .slice a1 n1 c1, .int .i64 uid, .int .i64 mode, .int .i64 fl, .int .i64 si, .slice a2 n2 c2]] w fun e w' => ∃ u, e = .returned u ∧ OwnA w w' u (kindW 4 ++ [32] ++ bx) ∧ Below w.heap.size w w' := by
  have HX : Hid (Below w.heap.size w (w.alloc (.cells #[.int .i64 4, .slice a0 n0 c0, .slice a1 n1 c1, .int .i64 uid, .int .i64 mode, .int .i64 fl, .int .i64 si, .slice a2 n2 c2] 24))) := (Below.refl _ _).alloc (Nat.le_refl _) _
  have HK : Hid ((w.alloc (.cells #[.int .i64 4, .slice a0 n0 c0, .slice a1 n1 c1, .int .i64 uid, .int .i64 mode, .int .i64 fl, .int .i64 si, .slice a2 n2 c2] 24)).heap[w.heap.size]? = some (.cells #[.int .i64 4, .slice a0 n0 c0, .slice a1 n1 c1, .int .i64 uid, .int .i64 mode, .int .i64 fl, .int .i64 si, .slice a2 n2 c2] 24)) := box_new w _
  have hcv := run_convert_str (kindW 4)
  have hkw : (kindW 4).length ≤ 7 ∧ 0 < (kindW 4).length ∧ Oct (kindW 4) := by
    exact ⟨by decide, by decide, by intro x hx; simp [kindW] at hx; omega⟩
  have hq := fun W => bytesWorldQ W (kindW 4) hkw.2.2 (by omega)
  generalize hA : w.alloc (.cells #[.int .i64 4, .slice a0 n0 c0, .slice a1 n1 c1, .int .i64 uid, .int .i64 mode, .int .i64 fl, .int .i64 si, .slice a2 n2 c2] 24) = A at HX HK
  have hAs : A.heap.size = w.heap.size + 1 := by rw [← hA]; simp
  generalize hkW : kindW 4 = kw at *
  go_enter Tryz.func26, Tryz.ntmps26
  obtain ⟨f0, f1, f2, f3, f4, f5, f6, f7⟩ := box8 HK.out
  have hlA := lt_of_heap HK.out
  go_wp2_with fail
  refine (l4kind_r 4 (by omega) _).mono ?_
  rw [hkW]
  rintro e w1 ⟨rfl, B⟩
  have hq1 := hq w1
  have hs1 := B.size
  generalize hW2 : Lib.bytesWorld w1 5 (strOfNums kw) = w2 at *
  have C2 := Below.step B hq1.2
  have ST : Hid (St A w2 w1.heap.size (.slice (some ⟨w1.heap.size, 0, none⟩) kw.length (grownCap w1 kw.length 0 5)) kw 7) := ⟨hs1, hq1.1, C2, hkw.2.1, hkw.1⟩
  have K2 := box_below C2 HK.out
  clear f0 f1 f2 f3 f4 f5 f6 f7 hlA hq hq1 B C2
  obtain ⟨f0, f1, f2, f3, f4, f5, f6, f7⟩ := box8 K2
  have hlA := lt_of_heap K2
  go_wp2_with fail
  refine (l4word_s A _ _ (.slice a0 n0 c0) kw bx 7 6 _ ST.out (HG.out _ (Below.step HX.out ST.out.old)).1 (bs_old_ne (HG.out _ (Below.refl _ _)).1 (by omega) hbx0) (by omega) (by omega)).mono ?_
  rintro e w3 ⟨v1, g1, rfl, ST1, G1, hg1⟩
  have S1 : Hid (St A w3 g1 v1 (kw ++ [32] ++ bx) 14) := ST1
  have K3 := box_below S1.out.old HK.out
  clear f0 f1 f2 f3 f4 f5 f6 f7 hlA ST1 G1 hg1 ST K2
  obtain ⟨f0, f1, f2, f3, f4, f5, f6, f7⟩ := box8 K3
  have hlA := lt_of_heap K3
  go_wp2
  go_ret
  exact ⟨_, rfl, (S1.out.ownA (w := w) (by omega)), Below.step HX.out S1.out.old⟩

set_option maxRecDepth 100000 in
set_option maxHeartbeats 4000000 in
theorem l4text_7 (a0 a1 a2 : Option Addr) (n0 n1 n2 c0 c1 c2 : Nat) (bx tt : List Int) (uid mode fl si : Int) (tx : List Int) (w : World) (HG : Hid (∀ wi, Below w.heap.size w wi → Bs wi (.slice a0 n0 c0) bx ∧ Bs wi (.slice a1 n1 c1) tt ∧ Bs wi (.slice a2 n2 c2) tx)) (hbx : bx.length ≤ 6) (hbx0 : 0 < bx.length)  :
    Calls Tryz.prog 26 #[.agg #[.int .i64 7, .slice a0 n0 c0, .slice a1 n1 c1, .int .i64 uid, .int .i64 mode, .int .i64 fl, .int .i64 si, .slice a2 n2 c2]] w fun e w' => ∃ u, e = .returned u ∧ OwnA w w' u (kindW 7 ++ [32] ++ bx) ∧ Below w.heap.size w w' := by
  have HX : Hid (Below w.heap.size w (w.alloc (.cells #[.int .i64 7, .slice a0 n0 c0, .slice a1 n1 c1, .int .i64 uid, .int .i64 mode, .int .i64 fl, .int .i64 si, .slice a2 n2 c2] 24))) := (Below.refl _ _).alloc (Nat.le_refl _) _
  have HK : Hid ((w.alloc (.cells #[.int .i64 7, .slice a0 n0 c0, .slice a1 n1 c1, .int .i64 uid, .int .i64 mode, .int .i64 fl, .int .i64 si, .slice a2 n2 c2] 24)).heap[w.heap.size]? = some (.cells #[.int .i64 7, .slice a0 n0 c0, .slice a1 n1 c1, .int .i64 uid, .int .i64 mode, .int .i64 fl, .int .i64 si, .slice a2 n2 c2] 24)) := box_new w _
  have hcv := run_convert_str (kindW 7)
  have hkw : (kindW 7).length ≤ 7 ∧ 0 < (kindW 7).length ∧ Oct (kindW 7) := by
    exact ⟨by decide, by decide, by intro x hx; simp [kindW] at hx; omega⟩
  have hq := fun W => bytesWorldQ W (kindW 7) hkw.2.2 (by omega)
  generalize hA : w.alloc (.cells #[.int .i64 7, .slice a0 n0 c0, .slice a1 n1 c1, .int .i64 uid, .int .i64 mode, .int .i64 fl, .int .i64 si, .slice a2 n2 c2] 24) = A at HX HK
  have hAs : A.heap.size = w.heap.size + 1 := by rw [← hA]; simp
  generalize hkW : kindW 7 = kw at *
  go_enter Tryz.func26, Tryz.ntmps26
  obtain ⟨f0, f1, f2, f3, f4, f5, f6, f7⟩ := box8 HK.out
  have hlA := lt_of_heap HK.out
  go_wp2_with fail
  refine (l4kind_r 7 (by omega) _).mono ?_
  rw [hkW]
  rintro e w1 ⟨rfl, B⟩
  have hq1 := hq w1
  have hs1 := B.size
  generalize hW2 : Lib.bytesWorld w1 5 (strOfNums kw) = w2 at *
  have C2 := Below.step B hq1.2
  have ST : Hid (St A w2 w1.heap.size (.slice (some ⟨w1.heap.size, 0, none⟩) kw.length (grownCap w1 kw.length 0 5)) kw 7) := ⟨hs1, hq1.1, C2, hkw.2.1, hkw.1⟩
  have K2 := box_below C2 HK.out
  clear f0 f1 f2 f3 f4 f5 f6 f7 hlA hq hq1 B C2
  obtain ⟨f0, f1, f2, f3, f4, f5, f6, f7⟩ := box8 K2
  have hlA := lt_of_heap K2
  go_wp2_with fail
  refine (l4word_s A _ _ (.slice a0 n0 c0) kw bx 7 6 _ ST.out (HG.out _ (Below.step HX.out ST.out.old)).1 (bs_old_ne (HG.out _ (Below.refl _ _)).1 (by omega) hbx0) (by omega) (by omega)).mono ?_
  rintro e w3 ⟨v1, g1, rfl, ST1, G1, hg1⟩
  have S1 : Hid (St A w3 g1 v1 (kw ++ [32] ++ bx) 14) := ST1
  have K3 := box_below S1.out.old HK.out
  clear f0 f1 f2 f3 f4 f5 f6 f7 hlA ST1 G1 hg1 ST K2
  obtain ⟨f0, f1, f2, f3, f4, f5, f6, f7⟩ := box8 K3
  have hlA := lt_of_heap K3
  go_wp2
  go_ret
  exact ⟨_, rfl, (S1.out.ownA (w := w) (by omega)), Below.step HX.out S1.out.old⟩

end Go.Proofs.YtlegmiaoablcgaaGreatDoor

/- What l4text of package spec does: APPEND. -/
namespace Go.Proofs.YtlegmiaoablcgaaGreatDoor
open Go.RowKit
set_option maxRecDepth 100000
set_option linter.unusedVariables false

theorem tabTX7 : (Tryz.f26.body.bind (opsAt 7)).all (fun o => tableO o 10 [0, 1, 2, 5, 6, 3, 4, 7, 8, 9] [5, 6, 7, 8]) = true := by kernel_rfl

set_option maxRecDepth 100000 in
set_option maxHeartbeats 4000000 in
theorem l4text_2 (a0 a1 a2 : Option Addr) (n0 n1 n2 c0 c1 c2 : Nat) (bx tt : List Int) (uid mode fl si : Int) (tx : List Int) (w : World) (HG : Hid (∀ wi, Below w.heap.size w wi → Bs wi (.slice a0 n0 c0) bx ∧ Bs wi (.slice a1 n1 c1) tt ∧ Bs wi (.slice a2 n2 c2) tx)) (hbx : bx.length ≤ 6) (hbx0 : 0 < bx.length) (fn : Nat) (hfl : fl = fn) (hfn : fn ≤ 31) (htx : tx.length ≤ 30) :
    Calls Tryz.prog 26 #[.agg #[.int .i64 2, .slice a0 n0 c0, .slice a1 n1 c1, .int .i64 uid, .int .i64 mode, .int .i64 fl, .int .i64 si, .slice a2 n2 c2]] w fun e w' => ∃ u, e = .returned u ∧ OwnA w w' u (kindW 2 ++ [32] ++ bx ++ [32] ++ flagsB fl ++ [32] ++ quoB tx) ∧ Below w.heap.size w w' := by
  subst hfl
  have hqu := quoB_len tx
  have HX : Hid (Below w.heap.size w (w.alloc (.cells #[.int .i64 2, .slice a0 n0 c0, .slice a1 n1 c1, .int .i64 uid, .int .i64 mode, .int .i64 fn, .int .i64 si, .slice a2 n2 c2] 24))) := (Below.refl _ _).alloc (Nat.le_refl _) _
  have HK : Hid ((w.alloc (.cells #[.int .i64 2, .slice a0 n0 c0, .slice a1 n1 c1, .int .i64 uid, .int .i64 mode, .int .i64 fn, .int .i64 si, .slice a2 n2 c2] 24)).heap[w.heap.size]? = some (.cells #[.int .i64 2, .slice a0 n0 c0, .slice a1 n1 c1, .int .i64 uid, .int .i64 mode, .int .i64 fn, .int .i64 si, .slice a2 n2 c2] 24)) := box_new w _
  have hcv := run_convert_str (kindW 2)
  have hkw : (kindW 2).length ≤ 7 ∧ 0 < (kindW 2).length ∧ Oct (kindW 2) := by
    exact ⟨by decide, by decide, by intro x hx; simp [kindW] at hx; omega⟩
  have hq := fun W => bytesWorldQ W (kindW 2) hkw.2.2 (by omega)
  generalize hA : w.alloc (.cells #[.int .i64 2, .slice a0 n0 c0, .slice a1 n1 c1, .int .i64 uid, .int .i64 mode, .int .i64 fn, .int .i64 si, .slice a2 n2 c2] 24) = A at HX HK
  have hAs : A.heap.size = w.heap.size + 1 := by rw [← hA]; simp
  generalize hkW : kindW 2 = kw at *
  go_enter Tryz.func26, Tryz.ntmps26
  obtain ⟨f0, f1, f2, f3, f4, f5, f6, f7⟩ := box8 HK.out
  have hlA := lt_of_heap HK.out
  go_wp2_with fail
  refine (l4kind_r 2 (by omega) _).mono ?_
  rw [hkW]
  rintro e w1 ⟨rfl, B⟩
  have hq1 := hq w1
  have hs1 := B.size
  generalize hW2 : Lib.bytesWorld w1 5 (strOfNums kw) = w2 at *
  have C2 := Below.step B hq1.2
  have ST : Hid (St A w2 w1.heap.size (.slice (some ⟨w1.heap.size, 0, none⟩) kw.length (grownCap w1 kw.length 0 5)) kw 7) := ⟨hs1, hq1.1, C2, hkw.2.1, hkw.1⟩
  have K2 := box_below C2 HK.out
  clear f0 f1 f2 f3 f4 f5 f6 f7 hlA hq hq1 B C2
  obtain ⟨f0, f1, f2, f3, f4, f5, f6, f7⟩ := box8 K2
  have hlA := lt_of_heap K2
  go_wp2_with fail
  refine (l4word_s A _ _ (.slice a0 n0 c0) kw bx 7 6 _ ST.out (HG.out _ (Below.step HX.out ST.out.old)).1 (bs_old_ne (HG.out _ (Below.refl _ _)).1 (by omega) hbx0) (by omega) (by omega)).mono ?_
  rintro e w3 ⟨v1, g1, rfl, ST1, G1, hg1⟩
  have S1 : Hid (St A w3 g1 v1 (kw ++ [32] ++ bx) 14) := ST1
  have K3 := box_below S1.out.old HK.out
  clear f0 f1 f2 f3 f4 f5 f6 f7 hlA ST1 G1 hg1 ST K2
  obtain ⟨f0, f1, f2, f3, f4, f5, f6, f7⟩ := box8 K3
  have hlA := lt_of_heap K3
  have HS : Hid (∀ w', Below A.heap.size A w' → w'.cell? ⟨w.heap.size, 5, none⟩ = some (.int .i64 fn) ∧ w'.cell? ⟨w.heap.size, 7, none⟩ = some (.slice a2 n2 c2)) := by
    intro w' h
    obtain ⟨s0, s1, s2, s3, s4, s5, s6, s7⟩ := box8 (box_below h HK.out)
    exact ⟨s5, s7⟩
  have DR : Below w3.heap.size w3 w3.drew := (Below.refl _ _).drew
  have S1d : Hid (St A w3.drew g1 v1 (kw ++ [32] ++ bx) 14) := S1.out.below DR
  go_wp2
  refine wpO_begin (S := fun w' => w'.cell? ⟨w.heap.size, 5, none⟩ = some (.int .i64 fn) ∧ w'.cell? ⟨w.heap.size, 7, none⟩ = some (.slice a2 n2 c2)) (tabO_of (by kernel_rfl) tabTX7) (by kernel_rfl) (HS.out _ S1d.out.old) (fun hTb hHeld => ?_)
  refine tkw 0 0 20 hTb hHeld ?_
  refine tkw 1 1 21 hTb hHeld ?_
  refine tkw 2 2 22 hTb hHeld ?_
  refine tkw 3 5 25 hTb hHeld ?_
  refine tkw 4 6 26 hTb hHeld ?_
  refine clo 5 3 hTb (by decide) rfl ?_
  refine AllReadyH.cons rfl (fun K hK => ?_) AllReadyH.nil
  go_simp
  refine (l4flags_r fn hfn _).mono ?_
  rintro e w4 ⟨u4, rfl, R4, B4⟩
  have S4 := hidm (St.below S1d.out B4)
  refine hK.out _ _ (HS.out _ S4.out.old) (fun hHeld => ?_)
  clear hK K
  refine wpOrd_in (n := 10) (p := 5) (i := 3) rfl rfl rfl ?_
  refine clo 6 4 hTb (by decide) rfl ?_
  refine AllReadyH.cons rfl (fun K hK => ?_) AllReadyH.nil
  go_simp
  refine (l4word_s A g1 v1 u4 (kw ++ [32] ++ bx) (flagsB fn) 14 7 _ S4.out (R4.bs) (R4.ne S1d.out.lt) (by first | omega | exact flagsB_len _ | exact digB_len10 (by omega)) (by omega)).mono ?_
  rintro e w5 ⟨v5, g5, rfl, T5, G5, hg5⟩
  have S5 := hidm T5
  refine hK.out _ _ (HS.out _ S5.out.old) (fun hHeld => ?_)
  clear hK K
  refine wpOrd_in (n := 10) (p := 6) (i := 4) rfl rfl rfl ?_
  refine clo 7 7 hTb (by decide) rfl ?_
  refine AllReadyH.cons rfl (fun K hK => ?_) AllReadyH.nil
  go_simp
  refine (l4quoted_r _ tx _ (HG.out _ (Below.step HX.out S5.out.old)).2.2 (by omega)).mono ?_
  rintro e w6 ⟨u6, rfl, R6, B6⟩
  have S6 := hidm (St.below S5.out B6)
  refine hK.out _ _ (HS.out _ S6.out.old) (fun hHeld => ?_)
  clear hK K
  refine wpOrd_in (n := 10) (p := 7) (i := 7) rfl rfl rfl ?_
  refine clo 8 8 hTb (by decide) rfl ?_
  refine AllReadyH.cons rfl (fun K hK => ?_) AllReadyH.nil
  go_simp
  refine (l4word_s A g5 v5 u6 ((kw ++ [32] ++ bx) ++ [32] ++ flagsB fn) (quoB tx) 22 62 _ S6.out (R6.bs) (R6.ne S5.out.lt) (by first | omega | exact flagsB_len _ | exact digB_len10 (by omega)) (by omega)).mono ?_
  rintro e w7 ⟨v7, g7, rfl, T7, G7, hg7⟩
  have S7 := hidm T7
  refine hK.out _ _ (HS.out _ S7.out.old) (fun hHeld => ?_)
  clear hK K
  refine wpOrd_in (n := 10) (p := 8) (i := 8) rfl rfl rfl ?_
  refine tkw 9 9 2 hTb hHeld ?_
  refine wpO_end hTb ?_
  clear HS hHeld hTb DR S1 S1d R4 B4 T5 G5 hg5 R6 B6 T7 G7 hg7 S4 S5 S6
  clear f0 f1 f2 f3 f4 f5 f6 f7 hlA K3
  go_wp2
  go_ret
  exact ⟨_, rfl, by simpa using (S7.out.ownA (w := w) (by omega)), Below.step HX.out S7.out.old⟩

end Go.Proofs.YtlegmiaoablcgaaGreatDoor

/- What l4text of package spec does: STORE. -/
namespace Go.Proofs.YtlegmiaoablcgaaGreatDoor
open Go.RowKit
set_option maxRecDepth 100000
set_option linter.unusedVariables false

theorem tabTX12 : (Tryz.f26.body.bind (opsAt 12)).all (fun o => tableO o 9 [0, 4, 5, 1, 2, 3, 6, 7, 8] [3, 4, 5, 6, 7]) = true := by kernel_rfl

set_option maxRecDepth 100000 in
set_option maxHeartbeats 4000000 in
theorem l4text_3 (a0 a1 a2 : Option Addr) (n0 n1 n2 c0 c1 c2 : Nat) (bx tt : List Int) (uid mode fl si : Int) (tx : List Int) (w : World) (HG : Hid (∀ wi, Below w.heap.size w wi → Bs wi (.slice a0 n0 c0) bx ∧ Bs wi (.slice a1 n1 c1) tt ∧ Bs wi (.slice a2 n2 c2) tx)) (hbx : bx.length ≤ 6) (hbx0 : 0 < bx.length) (un mn fn sn : Nat) (hx : uid = un) (hun : un ≤ 1000000) (hy : mode = mn) (hmn : mn ≤ 2) (hfl : fl = fn) (hfn : fn ≤ 31) (hz : si = sn) (hsn' : sn ≤ 1000000) :
    Calls Tryz.prog 26 #[.agg #[.int .i64 3, .slice a0 n0 c0, .slice a1 n1 c1, .int .i64 uid, .int .i64 mode, .int .i64 fl, .int .i64 si, .slice a2 n2 c2]] w fun e w' => ∃ u, e = .returned u ∧ OwnA w w' u (kindW 3 ++ [32] ++ bx ++ [32] ++ digB un ++ [32] ++ modeW mn ++ [32] ++ flagsB fl ++ (if 0 < si then [32] ++ sinceW ++ [32] ++ digB sn else [])) ∧ Below w.heap.size w w' := by
  subst hx hy hfl hz
  have hsn : sn ≤ 9999999 := by omega
  have hmw := modeW_ok mn hmn
  have hcm := run_convert_str (modeW mn)
  have hmnI : (mn : Int) < 3 := by omega
  have hmn0 : (0 : Int) ≤ (mn : Int) := by omega
  have HX : Hid (Below w.heap.size w (w.alloc (.cells #[.int .i64 3, .slice a0 n0 c0, .slice a1 n1 c1, .int .i64 un, .int .i64 mn, .int .i64 fn, .int .i64 sn, .slice a2 n2 c2] 24))) := (Below.refl _ _).alloc (Nat.le_refl _) _
  have HK : Hid ((w.alloc (.cells #[.int .i64 3, .slice a0 n0 c0, .slice a1 n1 c1, .int .i64 un, .int .i64 mn, .int .i64 fn, .int .i64 sn, .slice a2 n2 c2] 24)).heap[w.heap.size]? = some (.cells #[.int .i64 3, .slice a0 n0 c0, .slice a1 n1 c1, .int .i64 un, .int .i64 mn, .int .i64 fn, .int .i64 sn, .slice a2 n2 c2] 24)) := box_new w _
  have hcv := run_convert_str (kindW 3)
  have hkw : (kindW 3).length ≤ 7 ∧ 0 < (kindW 3).length ∧ Oct (kindW 3) := by
    exact ⟨by decide, by decide, by intro x hx; simp [kindW] at hx; omega⟩
  have hq := fun W => bytesWorldQ W (kindW 3) hkw.2.2 (by omega)
  generalize hA : w.alloc (.cells #[.int .i64 3, .slice a0 n0 c0, .slice a1 n1 c1, .int .i64 un, .int .i64 mn, .int .i64 fn, .int .i64 sn, .slice a2 n2 c2] 24) = A at HX HK
  have hAs : A.heap.size = w.heap.size + 1 := by rw [← hA]; simp
  generalize hkW : kindW 3 = kw at *
  go_enter Tryz.func26, Tryz.ntmps26
  obtain ⟨f0, f1, f2, f3, f4, f5, f6, f7⟩ := box8 HK.out
  have hlA := lt_of_heap HK.out
  go_wp2_with fail
  refine (l4kind_r 3 (by omega) _).mono ?_
  rw [hkW]
  rintro e w1 ⟨rfl, B⟩
  have hq1 := hq w1
  have hs1 := B.size
  generalize hW2 : Lib.bytesWorld w1 5 (strOfNums kw) = w2 at *
  have C2 := Below.step B hq1.2
  have ST : Hid (St A w2 w1.heap.size (.slice (some ⟨w1.heap.size, 0, none⟩) kw.length (grownCap w1 kw.length 0 5)) kw 7) := ⟨hs1, hq1.1, C2, hkw.2.1, hkw.1⟩
  have K2 := box_below C2 HK.out
  clear f0 f1 f2 f3 f4 f5 f6 f7 hlA hq hq1 B C2
  obtain ⟨f0, f1, f2, f3, f4, f5, f6, f7⟩ := box8 K2
  have hlA := lt_of_heap K2
  go_wp2_with fail
  refine (l4word_s A _ _ (.slice a0 n0 c0) kw bx 7 6 _ ST.out (HG.out _ (Below.step HX.out ST.out.old)).1 (bs_old_ne (HG.out _ (Below.refl _ _)).1 (by omega) hbx0) (by omega) (by omega)).mono ?_
  rintro e w3 ⟨v1, g1, rfl, ST1, G1, hg1⟩
  have S1 : Hid (St A w3 g1 v1 (kw ++ [32] ++ bx) 14) := ST1
  have K3 := box_below S1.out.old HK.out
  clear f0 f1 f2 f3 f4 f5 f6 f7 hlA ST1 G1 hg1 ST K2
  obtain ⟨f0, f1, f2, f3, f4, f5, f6, f7⟩ := box8 K3
  have hlA := lt_of_heap K3
  have HS : Hid (∀ w', Below A.heap.size A w' → w'.cell? ⟨w.heap.size, 3, none⟩ = some (.int .i64 un) ∧ w'.cell? ⟨w.heap.size, 4, none⟩ = some (.int .i64 mn)) := by
    intro w' h
    obtain ⟨s0, s1, s2, s3, s4, s5, s6, s7⟩ := box8 (box_below h HK.out)
    exact ⟨s3, s4⟩
  have DR : Below w3.heap.size w3 w3.drew := (Below.refl _ _).drew
  have S1d : Hid (St A w3.drew g1 v1 (kw ++ [32] ++ bx) 14) := S1.out.below DR
  clear f0 f1 f2 f3 f4 f5 f6 f7 hlA
  obtain ⟨f0, f1, f2, f3, f4, f5, f6, f7⟩ := box8 K3
  have hlA := lt_of_heap K3
  go_upto_region 9 with fail
  go_cut [3] (fun s wx => ∃ g, Hid (St A wx g s (((kw ++ [32] ++ bx) ++ [32] ++ digB un) ++ [32] ++ modeW mn) 31))
  case first =>
    clear f0 f1 f2 f3 f4 f5 f6 f7 hlA K3
    go_wp2
    refine wp_region_held_drew (S := fun w' => w'.cell? ⟨w.heap.size, 3, none⟩ = some (.int .i64 un) ∧ w'.cell? ⟨w.heap.size, 4, none⟩ = some (.int .i64 mn)) (by kernel_rfl) (HS.out _ S1d.out.old) (fun hHeld => (show wpAnyH _ _ _ _ _ 13 #[false, false, false, false, false, false, false, false, false, false, false, false, false] _ _ from ?_))
    refine tq 0 31 hHeld ?_
    refine tq 1 32 hHeld ?_
    refine tq 2 33 hHeld ?_
    refine tq 6 37 hHeld ?_
    refine tq 7 38 hHeld ?_
    generalize hw3d : w3.drew = w3d at *
    refine wpAnyH_ready (rs := [3, 5]) (by kernel_rfl) (by simp) ?_
    refine (AllReadyH.cons rfl (fun K hK => ?_) (AllReadyH.cons rfl (fun K hK => ?_) AllReadyH.nil))
    · go_simp
      refine (l4digits_r un (by omega) _).mono ?_
      rintro e w11 ⟨u11, rfl, R11, B11⟩
      have S11 := hidm (St.below S1d.out B11)
      have D11 := hidm R11.bs
      have N11 := hidm (R11.ne S1d.out.lt)
      refine hK.out _ _ (HS.out _ S11.out.old) (fun hHeld => ?_)
      clear hK K
      refine wpAnyH_ready (rs := [4, 5]) (by kernel_rfl) (by simp) ?_
      refine (AllReadyH.cons rfl (fun K hK => ?_) (AllReadyH.cons rfl (fun K hK => ?_) AllReadyH.nil))
      · go_simp
        refine (l4word_s A g1 v1 u11 (kw ++ [32] ++ bx) (digB un) 14 8 _ S11.out D11.out N11.out (digB_len10 (by omega)) (by omega)).mono ?_
        rintro e w12 ⟨v12, g12, rfl, T12, G12, hg12⟩
        have S12 := hidm T12
        refine hK.out _ _ (HS.out _ S12.out.old) (fun hHeld => ?_)
        clear hK K
        refine wpAnyH_ready (rs := [5]) (by kernel_rfl) (by simp) ?_
        refine (AllReadyH.cons rfl (fun K hK => ?_) AllReadyH.nil)
        go_simp
        have AB13 : Below w12.heap.size w12 (w12.alloc (.cells #[.string ⟨#[73, 83]⟩, .string ⟨#[87, 73, 84, 72]⟩, .string ⟨#[87, 73, 84, 72, 79, 85, 84]⟩] 9)) := (Below.refl _ _).alloc (Nat.le_refl _) _
        have S13 := hidm (St.below S12.out AB13)
        have KB13 := hidm (box_new w12 (.cells #[.string ⟨#[73, 83]⟩, .string ⟨#[87, 73, 84, 72]⟩, .string ⟨#[87, 73, 84, 72, 79, 85, 84]⟩] 9))
        have lb13 : g12 < w12.heap.size := S12.out.lt
        refine hK.out _ _ (HS.out _ S13.out.old) (fun hHeld => ?_)
        clear hK K
        generalize hw13 : w12.alloc (.cells #[.string ⟨#[73, 83]⟩, .string ⟨#[87, 73, 84, 72]⟩, .string ⟨#[87, 73, 84, 72, 79, 85, 84]⟩] 9) = w13 at *
        refine wpAnyH_more (S' := fun w' => w'.cell? ⟨w12.heap.size, mn, none⟩ = some (.string (strOfNums (modeW mn))) ∧ w'.cell? ⟨w.heap.size, 3, none⟩ = some (.int .i64 un) ∧ w'.cell? ⟨w.heap.size, 4, none⟩ = some (.int .i64 mn)) (fun _ h => h.2) _ _ _ _ ?_
        replace hHeld := And.intro (modeCell hmn KB13.out) hHeld
        refine tq 8 39 hHeld ?_
        refine tq 9 40 hHeld ?_
        refine wpAnyH_ready (rs := [10]) (by kernel_rfl) (by simp) ?_
        refine (AllReadyH.cons rfl (fun K hK => ?_) AllReadyH.nil)
        go_simp
        have q14 := bytesWorldQ w13 (modeW mn) hmw.2 (by omega)
        have S14 := hidm (St.below S13.out q14.2)
        have KB14 := hidm (box_below q14.2 KB13.out)
        have Q14 := hidm q14.1
        have lc14 : g12 < w13.heap.size := S13.out.lt
        have NC14 : w13.heap.size ≠ g12 := by omega
        refine hK.out _ _ (⟨modeCell hmn KB14.out, HS.out _ S14.out.old⟩) (fun hHeld => ?_)
        clear hK K
        generalize hw14 : Lib.bytesWorld w13 5 (strOfNums (modeW mn)) = w14 at *
        refine wpAnyH_ready (rs := [11]) (by kernel_rfl) (by simp) ?_
        refine AllReadyH.cons rfl (fun K hK => ?_) AllReadyH.nil
        go_simp
        refine (l4word_s A g12 v12 (.slice (some ⟨w13.heap.size, 0, none⟩) (modeW mn).length (grownCap w13 (modeW mn).length 0 5)) ((kw ++ [32] ++ bx) ++ [32] ++ digB un) (modeW mn) 23 7 _ S14.out Q14.out.bs (fun h => NC14 (by simpa [Value.ownBlock] using h)) hmw.1 (by omega)).mono ?_
        rintro e w15 ⟨v15, g15, rfl, T15, G15, hg15⟩
        have S15 := hidm T15
        have KB15 := hidm ((G15.block w12.heap.size (lt_of_heap KB14.out) (by simp only [ne_eq, Option.some.injEq]; omega)).trans KB14.out)
        refine hK.out _ _ (⟨modeCell hmn KB15.out, HS.out _ S15.out.old⟩) (fun hHeld => ?_)
        clear hK K
        refine tq 12 3 hHeld ?_
        refine wpAnyH_done (by kernel_rfl) ?_ _
        go_wp2
        go_meet
        case rel => exact ⟨_, S15⟩
      · go_simp
        have AB16 : Below w11.heap.size w11 (w11.alloc (.cells #[.string ⟨#[73, 83]⟩, .string ⟨#[87, 73, 84, 72]⟩, .string ⟨#[87, 73, 84, 72, 79, 85, 84]⟩] 9)) := (Below.refl _ _).alloc (Nat.le_refl _) _
        have S16 := hidm (St.below S11.out AB16)
        have KB16 := hidm (box_new w11 (.cells #[.string ⟨#[73, 83]⟩, .string ⟨#[87, 73, 84, 72]⟩, .string ⟨#[87, 73, 84, 72, 79, 85, 84]⟩] 9))
        have lb16 : g1 < w11.heap.size := S11.out.lt
        have D16 := hidm (Bs.below D11.out AB16)
        refine hK.out _ _ (HS.out _ S16.out.old) (fun hHeld => ?_)
        clear hK K
        generalize hw16 : w11.alloc (.cells #[.string ⟨#[73, 83]⟩, .string ⟨#[87, 73, 84, 72]⟩, .string ⟨#[87, 73, 84, 72, 79, 85, 84]⟩] 9) = w16 at *
        refine wpAnyH_more (S' := fun w' => w'.cell? ⟨w11.heap.size, mn, none⟩ = some (.string (strOfNums (modeW mn))) ∧ w'.cell? ⟨w.heap.size, 3, none⟩ = some (.int .i64 un) ∧ w'.cell? ⟨w.heap.size, 4, none⟩ = some (.int .i64 mn)) (fun _ h => h.2) _ _ _ _ ?_
        replace hHeld := And.intro (modeCell hmn KB16.out) hHeld
        refine tq 8 39 hHeld ?_
        refine tq 9 40 hHeld ?_
        refine wpAnyH_ready (rs := [4, 10]) (by kernel_rfl) (by simp) ?_
        refine (AllReadyH.cons rfl (fun K hK => ?_) (AllReadyH.cons rfl (fun K hK => ?_) AllReadyH.nil))
        · go_simp
          refine (l4word_s A g1 v1 u11 (kw ++ [32] ++ bx) (digB un) 14 8 _ S16.out D16.out N11.out (digB_len10 (by omega)) (by omega)).mono ?_
          rintro e w17 ⟨v17, g17, rfl, T17, G17, hg17⟩
          have S17 := hidm T17
          have KB17 := hidm ((G17.block w11.heap.size (lt_of_heap KB16.out) (by simp only [ne_eq, Option.some.injEq]; omega)).trans KB16.out)
          have LB17 : w11.heap.size ≠ g17 := by have := lt_of_heap KB16.out; rcases hg17 with h | h <;> omega
          refine hK.out _ _ (⟨modeCell hmn KB17.out, HS.out _ S17.out.old⟩) (fun hHeld => ?_)
          clear hK K
          refine wpAnyH_ready (rs := [10]) (by kernel_rfl) (by simp) ?_
          refine (AllReadyH.cons rfl (fun K hK => ?_) AllReadyH.nil)
          go_simp
          have q18 := bytesWorldQ w17 (modeW mn) hmw.2 (by omega)
          have S18 := hidm (St.below S17.out q18.2)
          have KB18 := hidm (box_below q18.2 KB17.out)
          have Q18 := hidm q18.1
          have lc18 : g17 < w17.heap.size := S17.out.lt
          have NC18 : w17.heap.size ≠ g17 := by omega
          refine hK.out _ _ (⟨modeCell hmn KB18.out, HS.out _ S18.out.old⟩) (fun hHeld => ?_)
          clear hK K
          generalize hw18 : Lib.bytesWorld w17 5 (strOfNums (modeW mn)) = w18 at *
          refine wpAnyH_ready (rs := [11]) (by kernel_rfl) (by simp) ?_
          refine AllReadyH.cons rfl (fun K hK => ?_) AllReadyH.nil
          go_simp
          refine (l4word_s A g17 v17 (.slice (some ⟨w17.heap.size, 0, none⟩) (modeW mn).length (grownCap w17 (modeW mn).length 0 5)) ((kw ++ [32] ++ bx) ++ [32] ++ digB un) (modeW mn) 23 7 _ S18.out Q18.out.bs (fun h => NC18 (by simpa [Value.ownBlock] using h)) hmw.1 (by omega)).mono ?_
          rintro e w19 ⟨v19, g19, rfl, T19, G19, hg19⟩
          have S19 := hidm T19
          have KB19 := hidm ((G19.block w11.heap.size (lt_of_heap KB18.out) (by simp only [ne_eq, Option.some.injEq]; omega)).trans KB18.out)
          refine hK.out _ _ (⟨modeCell hmn KB19.out, HS.out _ S19.out.old⟩) (fun hHeld => ?_)
          clear hK K
          refine tq 12 3 hHeld ?_
          refine wpAnyH_done (by kernel_rfl) ?_ _
          go_wp2
          go_meet
          case rel => exact ⟨_, S19⟩
        · go_simp
          have q20 := bytesWorldQ w16 (modeW mn) hmw.2 (by omega)
          have S20 := hidm (St.below S16.out q20.2)
          have KB20 := hidm (box_below q20.2 KB16.out)
          have Q20 := hidm q20.1
          have lc20 : g1 < w16.heap.size := S16.out.lt
          have NC20 : w16.heap.size ≠ g1 := by omega
          have D20 := hidm (Bs.below D16.out q20.2)
          refine hK.out _ _ (⟨modeCell hmn KB20.out, HS.out _ S20.out.old⟩) (fun hHeld => ?_)
          clear hK K
          generalize hw20 : Lib.bytesWorld w16 5 (strOfNums (modeW mn)) = w20 at *
          refine wpAnyH_ready (rs := [4]) (by kernel_rfl) (by simp) ?_
          refine (AllReadyH.cons rfl (fun K hK => ?_) AllReadyH.nil)
          go_simp
          refine (l4word_s A g1 v1 u11 (kw ++ [32] ++ bx) (digB un) 14 8 _ S20.out D20.out N11.out (digB_len10 (by omega)) (by omega)).mono ?_
          rintro e w21 ⟨v21, g21, rfl, T21, G21, hg21⟩
          have S21 := hidm T21
          have KB21 := hidm ((G21.block w11.heap.size (lt_of_heap KB20.out) (by simp only [ne_eq, Option.some.injEq]; omega)).trans KB20.out)
          have LB21 : w11.heap.size ≠ g21 := by have := lt_of_heap KB20.out; rcases hg21 with h | h <;> omega
          have Q21 := hidm (OwnQ.frame Q20.out (G21.block w16.heap.size Q20.out.lt (by simp only [ne_eq, Option.some.injEq]; omega)))
          have NC21 : w16.heap.size ≠ g21 := by have := Q20.out.lt; rcases hg21 with h | h <;> omega
          refine hK.out _ _ (⟨modeCell hmn KB21.out, HS.out _ S21.out.old⟩) (fun hHeld => ?_)
          clear hK K
          refine wpAnyH_ready (rs := [11]) (by kernel_rfl) (by simp) ?_
          refine AllReadyH.cons rfl (fun K hK => ?_) AllReadyH.nil
          go_simp
          refine (l4word_s A g21 v21 (.slice (some ⟨w16.heap.size, 0, none⟩) (modeW mn).length (grownCap w16 (modeW mn).length 0 5)) ((kw ++ [32] ++ bx) ++ [32] ++ digB un) (modeW mn) 23 7 _ S21.out Q21.out.bs (fun h => NC21 (by simpa [Value.ownBlock] using h)) hmw.1 (by omega)).mono ?_
          rintro e w22 ⟨v22, g22, rfl, T22, G22, hg22⟩
          have S22 := hidm T22
          have KB22 := hidm ((G22.block w11.heap.size (lt_of_heap KB21.out) (by simp only [ne_eq, Option.some.injEq]; omega)).trans KB21.out)
          refine hK.out _ _ (⟨modeCell hmn KB22.out, HS.out _ S22.out.old⟩) (fun hHeld => ?_)
          clear hK K
          refine tq 12 3 hHeld ?_
          refine wpAnyH_done (by kernel_rfl) ?_ _
          go_wp2
          go_meet
          case rel => exact ⟨_, S22⟩
    · go_simp
      have AB23 : Below w3d.heap.size w3d (w3d.alloc (.cells #[.string ⟨#[73, 83]⟩, .string ⟨#[87, 73, 84, 72]⟩, .string ⟨#[87, 73, 84, 72, 79, 85, 84]⟩] 9)) := (Below.refl _ _).alloc (Nat.le_refl _) _
      have S23 := hidm (St.below S1d.out AB23)
      have KB23 := hidm (box_new w3d (.cells #[.string ⟨#[73, 83]⟩, .string ⟨#[87, 73, 84, 72]⟩, .string ⟨#[87, 73, 84, 72, 79, 85, 84]⟩] 9))
      have lb23 : g1 < w3d.heap.size := S1d.out.lt
      refine hK.out _ _ (HS.out _ S23.out.old) (fun hHeld => ?_)
      clear hK K
      generalize hw23 : w3d.alloc (.cells #[.string ⟨#[73, 83]⟩, .string ⟨#[87, 73, 84, 72]⟩, .string ⟨#[87, 73, 84, 72, 79, 85, 84]⟩] 9) = w23 at *
      refine wpAnyH_more (S' := fun w' => w'.cell? ⟨w3d.heap.size, mn, none⟩ = some (.string (strOfNums (modeW mn))) ∧ w'.cell? ⟨w.heap.size, 3, none⟩ = some (.int .i64 un) ∧ w'.cell? ⟨w.heap.size, 4, none⟩ = some (.int .i64 mn)) (fun _ h => h.2) _ _ _ _ ?_
      replace hHeld := And.intro (modeCell hmn KB23.out) hHeld
      refine tq 8 39 hHeld ?_
      refine tq 9 40 hHeld ?_
      refine wpAnyH_ready (rs := [3, 10]) (by kernel_rfl) (by simp) ?_
      refine (AllReadyH.cons rfl (fun K hK => ?_) (AllReadyH.cons rfl (fun K hK => ?_) AllReadyH.nil))
      · go_simp
        refine (l4digits_r un (by omega) _).mono ?_
        rintro e w24 ⟨u24, rfl, R24, B24⟩
        have S24 := hidm (St.below S23.out B24)
        have D24 := hidm R24.bs
        have N24 := hidm (R24.ne S23.out.lt)
        have KB24 := hidm (box_below B24 KB23.out)
        refine hK.out _ _ (⟨modeCell hmn KB24.out, HS.out _ S24.out.old⟩) (fun hHeld => ?_)
        clear hK K
        refine wpAnyH_ready (rs := [4, 10]) (by kernel_rfl) (by simp) ?_
        refine (AllReadyH.cons rfl (fun K hK => ?_) (AllReadyH.cons rfl (fun K hK => ?_) AllReadyH.nil))
        · go_simp
          refine (l4word_s A g1 v1 u24 (kw ++ [32] ++ bx) (digB un) 14 8 _ S24.out D24.out N24.out (digB_len10 (by omega)) (by omega)).mono ?_
          rintro e w25 ⟨v25, g25, rfl, T25, G25, hg25⟩
          have S25 := hidm T25
          have KB25 := hidm ((G25.block w3d.heap.size (lt_of_heap KB24.out) (by simp only [ne_eq, Option.some.injEq]; omega)).trans KB24.out)
          have LB25 : w3d.heap.size ≠ g25 := by have := lt_of_heap KB24.out; rcases hg25 with h | h <;> omega
          refine hK.out _ _ (⟨modeCell hmn KB25.out, HS.out _ S25.out.old⟩) (fun hHeld => ?_)
          clear hK K
          refine wpAnyH_ready (rs := [10]) (by kernel_rfl) (by simp) ?_
          refine (AllReadyH.cons rfl (fun K hK => ?_) AllReadyH.nil)
          go_simp
          have q26 := bytesWorldQ w25 (modeW mn) hmw.2 (by omega)
          have S26 := hidm (St.below S25.out q26.2)
          have KB26 := hidm (box_below q26.2 KB25.out)
          have Q26 := hidm q26.1
          have lc26 : g25 < w25.heap.size := S25.out.lt
          have NC26 : w25.heap.size ≠ g25 := by omega
          refine hK.out _ _ (⟨modeCell hmn KB26.out, HS.out _ S26.out.old⟩) (fun hHeld => ?_)
          clear hK K
          generalize hw26 : Lib.bytesWorld w25 5 (strOfNums (modeW mn)) = w26 at *
          refine wpAnyH_ready (rs := [11]) (by kernel_rfl) (by simp) ?_
          refine AllReadyH.cons rfl (fun K hK => ?_) AllReadyH.nil
          go_simp
          refine (l4word_s A g25 v25 (.slice (some ⟨w25.heap.size, 0, none⟩) (modeW mn).length (grownCap w25 (modeW mn).length 0 5)) ((kw ++ [32] ++ bx) ++ [32] ++ digB un) (modeW mn) 23 7 _ S26.out Q26.out.bs (fun h => NC26 (by simpa [Value.ownBlock] using h)) hmw.1 (by omega)).mono ?_
          rintro e w27 ⟨v27, g27, rfl, T27, G27, hg27⟩
          have S27 := hidm T27
          have KB27 := hidm ((G27.block w3d.heap.size (lt_of_heap KB26.out) (by simp only [ne_eq, Option.some.injEq]; omega)).trans KB26.out)
          refine hK.out _ _ (⟨modeCell hmn KB27.out, HS.out _ S27.out.old⟩) (fun hHeld => ?_)
          clear hK K
          refine tq 12 3 hHeld ?_
          refine wpAnyH_done (by kernel_rfl) ?_ _
          go_wp2
          go_meet
          case rel => exact ⟨_, S27⟩
        · go_simp
          have q28 := bytesWorldQ w24 (modeW mn) hmw.2 (by omega)
          have S28 := hidm (St.below S24.out q28.2)
          have KB28 := hidm (box_below q28.2 KB24.out)
          have Q28 := hidm q28.1
          have lc28 : g1 < w24.heap.size := S24.out.lt
          have NC28 : w24.heap.size ≠ g1 := by omega
          have D28 := hidm (Bs.below D24.out q28.2)
          refine hK.out _ _ (⟨modeCell hmn KB28.out, HS.out _ S28.out.old⟩) (fun hHeld => ?_)
          clear hK K
          generalize hw28 : Lib.bytesWorld w24 5 (strOfNums (modeW mn)) = w28 at *
          refine wpAnyH_ready (rs := [4]) (by kernel_rfl) (by simp) ?_
          refine (AllReadyH.cons rfl (fun K hK => ?_) AllReadyH.nil)
          go_simp
          refine (l4word_s A g1 v1 u24 (kw ++ [32] ++ bx) (digB un) 14 8 _ S28.out D28.out N24.out (digB_len10 (by omega)) (by omega)).mono ?_
          rintro e w29 ⟨v29, g29, rfl, T29, G29, hg29⟩
          have S29 := hidm T29
          have KB29 := hidm ((G29.block w3d.heap.size (lt_of_heap KB28.out) (by simp only [ne_eq, Option.some.injEq]; omega)).trans KB28.out)
          have LB29 : w3d.heap.size ≠ g29 := by have := lt_of_heap KB28.out; rcases hg29 with h | h <;> omega
          have Q29 := hidm (OwnQ.frame Q28.out (G29.block w24.heap.size Q28.out.lt (by simp only [ne_eq, Option.some.injEq]; omega)))
          have NC29 : w24.heap.size ≠ g29 := by have := Q28.out.lt; rcases hg29 with h | h <;> omega
          refine hK.out _ _ (⟨modeCell hmn KB29.out, HS.out _ S29.out.old⟩) (fun hHeld => ?_)
          clear hK K
          refine wpAnyH_ready (rs := [11]) (by kernel_rfl) (by simp) ?_
          refine AllReadyH.cons rfl (fun K hK => ?_) AllReadyH.nil
          go_simp
          refine (l4word_s A g29 v29 (.slice (some ⟨w24.heap.size, 0, none⟩) (modeW mn).length (grownCap w24 (modeW mn).length 0 5)) ((kw ++ [32] ++ bx) ++ [32] ++ digB un) (modeW mn) 23 7 _ S29.out Q29.out.bs (fun h => NC29 (by simpa [Value.ownBlock] using h)) hmw.1 (by omega)).mono ?_
          rintro e w30 ⟨v30, g30, rfl, T30, G30, hg30⟩
          have S30 := hidm T30
          have KB30 := hidm ((G30.block w3d.heap.size (lt_of_heap KB29.out) (by simp only [ne_eq, Option.some.injEq]; omega)).trans KB29.out)
          refine hK.out _ _ (⟨modeCell hmn KB30.out, HS.out _ S30.out.old⟩) (fun hHeld => ?_)
          clear hK K
          refine tq 12 3 hHeld ?_
          refine wpAnyH_done (by kernel_rfl) ?_ _
          go_wp2
          go_meet
          case rel => exact ⟨_, S30⟩
      · go_simp
        have q31 := bytesWorldQ w23 (modeW mn) hmw.2 (by omega)
        have S31 := hidm (St.below S23.out q31.2)
        have KB31 := hidm (box_below q31.2 KB23.out)
        have Q31 := hidm q31.1
        have lc31 : g1 < w23.heap.size := S23.out.lt
        have NC31 : w23.heap.size ≠ g1 := by omega
        refine hK.out _ _ (⟨modeCell hmn KB31.out, HS.out _ S31.out.old⟩) (fun hHeld => ?_)
        clear hK K
        generalize hw31 : Lib.bytesWorld w23 5 (strOfNums (modeW mn)) = w31 at *
        refine wpAnyH_ready (rs := [3]) (by kernel_rfl) (by simp) ?_
        refine (AllReadyH.cons rfl (fun K hK => ?_) AllReadyH.nil)
        go_simp
        refine (l4digits_r un (by omega) _).mono ?_
        rintro e w32 ⟨u32, rfl, R32, B32⟩
        have S32 := hidm (St.below S31.out B32)
        have D32 := hidm R32.bs
        have N32 := hidm (R32.ne S31.out.lt)
        have KB32 := hidm (box_below B32 KB31.out)
        have Q32 := hidm (OwnQ.below Q31.out B32)
        refine hK.out _ _ (⟨modeCell hmn KB32.out, HS.out _ S32.out.old⟩) (fun hHeld => ?_)
        clear hK K
        refine wpAnyH_ready (rs := [4]) (by kernel_rfl) (by simp) ?_
        refine (AllReadyH.cons rfl (fun K hK => ?_) AllReadyH.nil)
        go_simp
        refine (l4word_s A g1 v1 u32 (kw ++ [32] ++ bx) (digB un) 14 8 _ S32.out D32.out N32.out (digB_len10 (by omega)) (by omega)).mono ?_
        rintro e w33 ⟨v33, g33, rfl, T33, G33, hg33⟩
        have S33 := hidm T33
        have KB33 := hidm ((G33.block w3d.heap.size (lt_of_heap KB32.out) (by simp only [ne_eq, Option.some.injEq]; omega)).trans KB32.out)
        have LB33 : w3d.heap.size ≠ g33 := by have := lt_of_heap KB32.out; rcases hg33 with h | h <;> omega
        have Q33 := hidm (OwnQ.frame Q32.out (G33.block w23.heap.size Q32.out.lt (by simp only [ne_eq, Option.some.injEq]; omega)))
        have NC33 : w23.heap.size ≠ g33 := by have := Q32.out.lt; rcases hg33 with h | h <;> omega
        refine hK.out _ _ (⟨modeCell hmn KB33.out, HS.out _ S33.out.old⟩) (fun hHeld => ?_)
        clear hK K
        refine wpAnyH_ready (rs := [11]) (by kernel_rfl) (by simp) ?_
        refine AllReadyH.cons rfl (fun K hK => ?_) AllReadyH.nil
        go_simp
        refine (l4word_s A g33 v33 (.slice (some ⟨w23.heap.size, 0, none⟩) (modeW mn).length (grownCap w23 (modeW mn).length 0 5)) ((kw ++ [32] ++ bx) ++ [32] ++ digB un) (modeW mn) 23 7 _ S33.out Q33.out.bs (fun h => NC33 (by simpa [Value.ownBlock] using h)) hmw.1 (by omega)).mono ?_
        rintro e w34 ⟨v34, g34, rfl, T34, G34, hg34⟩
        have S34 := hidm T34
        have KB34 := hidm ((G34.block w3d.heap.size (lt_of_heap KB33.out) (by simp only [ne_eq, Option.some.injEq]; omega)).trans KB33.out)
        refine hK.out _ _ (⟨modeCell hmn KB34.out, HS.out _ S34.out.old⟩) (fun hHeld => ?_)
        clear hK K
        refine tq 12 3 hHeld ?_
        refine wpAnyH_done (by kernel_rfl) ?_ _
        go_wp2
        go_meet
        case rel => exact ⟨_, S34⟩
  case rest =>
    clear f0 f1 f2 f3 f4 f5 f6 f7 hlA K3 HS DR S1 S1d hcm
    obtain ⟨g9, S9⟩ := hcut
    have K9 := box_below S9.out.old HK.out
    obtain ⟨f0, f1, f2, f3, f4, f5, f6, f7⟩ := box8 K9
    have hlA := lt_of_heap K9
    go_wp2_with fail
    refine (l4flags_r fn hfn _).mono ?_
    rintro e w40 ⟨u40, rfl, R40, B40⟩
    have S40 := hidm (St.below S9.out B40)
    have N40 := R40.ne S9.out.lt
    clear f0 f1 f2 f3 f4 f5 f6 f7 hlA K9
    go_wp2_with fail
    refine (l4word_s A g9 _ u40 (((kw ++ [32] ++ bx) ++ [32] ++ digB un) ++ [32] ++ modeW mn) (flagsB fn) 31 7 _ S40.out R40.bs N40 (flagsB_len _) (by omega)).mono ?_
    rintro e w41 ⟨v41, g41, rfl, T41, G41, hg41⟩
    have S41 := hidm T41
    have K41 := box_below S41.out.old HK.out
    clear S9 S40 R40 B40 N40 T41 G41 hg41
    obtain ⟨f0, f1, f2, f3, f4, f5, f6, f7⟩ := box8 K41
    have hlA := lt_of_heap K41
    by_cases hs : sn = 0
    · subst hs
      go_wp2
      go_ret
      exact ⟨_, rfl, by simpa using (S41.out.ownA (w := w) (by omega)), Below.step HX.out S41.out.old⟩
    · have hs' : (0 : Int) < (sn : Int) := by omega
      have hs2 : decide ((0 : Int) < (sn : Int)) = true := decide_eq_true hs'
      have HP : Hid ((if 0 < (sn : Int) then [32] ++ sinceW ++ [32] ++ digB sn else ([] : List Int)) = [32] ++ sinceW ++ [32] ++ digB sn) := by unfold Hid; rw [if_pos hs']
      have HS2 : Hid (∀ w', Below A.heap.size A w' → w'.cell? ⟨w.heap.size, 6, none⟩ = some (.int .i64 sn)) := by
        intro w' h
        obtain ⟨s0, s1, s2, s3, s4, s5, s6, s7⟩ := box8 (box_below h HK.out)
        exact s6
      have DR2 : Below w41.heap.size w41 w41.drew := (Below.refl _ _).drew
      have S41d := hidm (St.below S41.out DR2)
      obtain ⟨w42, hcs, qx, bx6⟩ : ∃ w', Sem.run Tryz.prog (convert 22 22 (.slice (some ⟨w41.drew.heap.size, 0, none⟩) 5 5)) (w41.drew.alloc (.cells #[.int .u8 83, .int .u8 73, .int .u8 78, .int .u8 67, .int .u8 69] 5)) = .ok (.slice (some ⟨w41.drew.heap.size, 0, none⟩) 5 5) w' ∧ OwnQ w' w41.drew.heap.size (.slice (some ⟨w41.drew.heap.size, 0, none⟩) 5 5) sinceW ∧ Below w41.drew.heap.size w41.drew w' := lit_conv w41.drew sinceW (by intro x hx; simp [sinceW] at hx; omega) (by decide)
      have hl41 := S41d.out.lt
      go_wp2
      refine wpO_begin (S := fun w' => w'.cell? ⟨w.heap.size, 6, none⟩ = some (.int .i64 sn)) (tabO_of (by kernel_rfl) tabTX12) (by kernel_rfl) (HS2.out _ S41d.out.old) (fun hTb hHeld => ?_)
      generalize hw41d : w41.drew = w41d at *
      refine tkw 0 0 51 hTb hHeld ?_
      refine tkw 1 4 55 hTb hHeld ?_
      refine tkw 2 5 56 hTb hHeld ?_
      refine clo 3 1 hTb (by decide) rfl ?_
      refine AllReadyH.cons rfl (fun K hK => ?_) AllReadyH.nil
      go_simp
      have AB := (show Below w41d.heap.size w41d (w41d.alloc (.cells #[.int .u8 83, .int .u8 73, .int .u8 78, .int .u8 67, .int .u8 69] 5)) from (Below.refl _ _).alloc (Nat.le_refl _) _)
      refine hK.out _ _ (HS2.out _ (St.below S41d.out AB).old) (fun hHeld => ?_)
      clear hK K
      refine wpOrd_in (n := 9) (p := 3) (i := 1) rfl rfl rfl ?_
      refine clo 4 2 hTb (by decide) rfl ?_
      refine AllReadyH.cons rfl (fun K hK => ?_) AllReadyH.nil
      go_simp
      have S42 := hidm (St.below S41d.out bx6)
      refine hK.out _ _ (HS2.out _ S42.out.old) (fun hHeld => ?_)
      clear hK K
      refine wpOrd_in (n := 9) (p := 4) (i := 2) rfl rfl rfl ?_
      refine clo 5 3 hTb (by decide) rfl ?_
      refine AllReadyH.cons rfl (fun K hK => ?_) AllReadyH.nil
      go_simp
      refine (l4word_s A g41 v41 (.slice (some ⟨w41d.heap.size, 0, none⟩) 5 5) ((((kw ++ [32] ++ bx) ++ [32] ++ digB un) ++ [32] ++ modeW mn) ++ [32] ++ flagsB fn) (sinceW) 39 5 _ S42.out (qx.bs) (by simp [Value.ownBlock]; omega) (by first | decide | omega | exact flagsB_len _ | exact digB_len10 (by omega)) (by omega)).mono ?_
      rintro e w43 ⟨v43, g43, rfl, T43, G43, hg43⟩
      have S43 := hidm T43
      refine hK.out _ _ (HS2.out _ S43.out.old) (fun hHeld => ?_)
      clear hK K
      refine wpOrd_in (n := 9) (p := 5) (i := 3) rfl rfl rfl ?_
      refine clo 6 6 hTb (by decide) rfl ?_
      refine AllReadyH.cons rfl (fun K hK => ?_) AllReadyH.nil
      go_simp
      refine (l4digits_r sn hsn _).mono ?_
      rintro e w44 ⟨u44, rfl, R44, B44⟩
      have S44 := hidm (St.below S43.out B44)
      refine hK.out _ _ (HS2.out _ S44.out.old) (fun hHeld => ?_)
      clear hK K
      refine wpOrd_in (n := 9) (p := 6) (i := 6) rfl rfl rfl ?_
      refine clo 7 7 hTb (by decide) rfl ?_
      refine AllReadyH.cons rfl (fun K hK => ?_) AllReadyH.nil
      go_simp
      refine (l4word_s A g43 v43 u44 (((((kw ++ [32] ++ bx) ++ [32] ++ digB un) ++ [32] ++ modeW mn) ++ [32] ++ flagsB fn) ++ [32] ++ sinceW) (digB sn) 45 8 _ S44.out (R44.bs) (R44.ne S43.out.lt) (by first | omega | exact flagsB_len _ | exact digB_len10 (by omega)) (by omega)).mono ?_
      rintro e w45 ⟨v45, g45, rfl, T45, G45, hg45⟩
      have S45 := hidm T45
      refine hK.out _ _ (HS2.out _ S45.out.old) (fun hHeld => ?_)
      clear hK K
      refine wpOrd_in (n := 9) (p := 7) (i := 7) rfl rfl rfl ?_
      refine tkw 8 8 3 hTb hHeld ?_
      refine wpO_end hTb ?_
      clear HS2 hHeld hTb DR2 S41 S41d R44 B44 T43 G43 hg43 T45 G45 hg45 S42 S43 S44 AB hcs qx bx6 hl41
      clear f0 f1 f2 f3 f4 f5 f6 f7 hlA K41
      go_wp2
      go_ret
      exact ⟨_, rfl, by first | (rw [HP.out]; simpa using (S45.out.ownA (w := w) (by omega))) | simpa using (S45.out.ownA (w := w) (by omega)), Below.step HX.out S45.out.old⟩

end Go.Proofs.YtlegmiaoablcgaaGreatDoor

/- What l4text of package spec does: FETCH, CHANGES. -/
namespace Go.Proofs.YtlegmiaoablcgaaGreatDoor
open Go.RowKit
set_option maxRecDepth 100000
set_option linter.unusedVariables false

set_option maxRecDepth 100000 in
set_option maxHeartbeats 4000000 in
theorem l4text_5 (a0 a1 a2 : Option Addr) (n0 n1 n2 c0 c1 c2 : Nat) (bx tt : List Int) (uid mode fl si : Int) (tx : List Int) (w : World) (HG : Hid (∀ wi, Below w.heap.size w wi → Bs wi (.slice a0 n0 c0) bx ∧ Bs wi (.slice a1 n1 c1) tt ∧ Bs wi (.slice a2 n2 c2) tx)) (hbx : bx.length ≤ 6) (hbx0 : 0 < bx.length) (un : Nat) (hx : uid = un) (hun : un ≤ 1000000) :
    Calls Tryz.prog 26 #[.agg #[.int .i64 5, .slice a0 n0 c0, .slice a1 n1 c1, .int .i64 uid, .int .i64 mode, .int .i64 fl, .int .i64 si, .slice a2 n2 c2]] w fun e w' => ∃ u, e = .returned u ∧ OwnA w w' u (kindW 5 ++ [32] ++ bx ++ [32] ++ digB un) ∧ Below w.heap.size w w' := by
  subst hx
  have HX : Hid (Below w.heap.size w (w.alloc (.cells #[.int .i64 5, .slice a0 n0 c0, .slice a1 n1 c1, .int .i64 un, .int .i64 mode, .int .i64 fl, .int .i64 si, .slice a2 n2 c2] 24))) := (Below.refl _ _).alloc (Nat.le_refl _) _
  have HK : Hid ((w.alloc (.cells #[.int .i64 5, .slice a0 n0 c0, .slice a1 n1 c1, .int .i64 un, .int .i64 mode, .int .i64 fl, .int .i64 si, .slice a2 n2 c2] 24)).heap[w.heap.size]? = some (.cells #[.int .i64 5, .slice a0 n0 c0, .slice a1 n1 c1, .int .i64 un, .int .i64 mode, .int .i64 fl, .int .i64 si, .slice a2 n2 c2] 24)) := box_new w _
  have hcv := run_convert_str (kindW 5)
  have hkw : (kindW 5).length ≤ 7 ∧ 0 < (kindW 5).length ∧ Oct (kindW 5) := by
    exact ⟨by decide, by decide, by intro x hx; simp [kindW] at hx; omega⟩
  have hq := fun W => bytesWorldQ W (kindW 5) hkw.2.2 (by omega)
  generalize hA : w.alloc (.cells #[.int .i64 5, .slice a0 n0 c0, .slice a1 n1 c1, .int .i64 un, .int .i64 mode, .int .i64 fl, .int .i64 si, .slice a2 n2 c2] 24) = A at HX HK
  have hAs : A.heap.size = w.heap.size + 1 := by rw [← hA]; simp
  generalize hkW : kindW 5 = kw at *
  go_enter Tryz.func26, Tryz.ntmps26
  obtain ⟨f0, f1, f2, f3, f4, f5, f6, f7⟩ := box8 HK.out
  have hlA := lt_of_heap HK.out
  go_wp2_with fail
  refine (l4kind_r 5 (by omega) _).mono ?_
  rw [hkW]
  rintro e w1 ⟨rfl, B⟩
  have hq1 := hq w1
  have hs1 := B.size
  generalize hW2 : Lib.bytesWorld w1 5 (strOfNums kw) = w2 at *
  have C2 := Below.step B hq1.2
  have ST : Hid (St A w2 w1.heap.size (.slice (some ⟨w1.heap.size, 0, none⟩) kw.length (grownCap w1 kw.length 0 5)) kw 7) := ⟨hs1, hq1.1, C2, hkw.2.1, hkw.1⟩
  have K2 := box_below C2 HK.out
  clear f0 f1 f2 f3 f4 f5 f6 f7 hlA hq hq1 B C2
  obtain ⟨f0, f1, f2, f3, f4, f5, f6, f7⟩ := box8 K2
  have hlA := lt_of_heap K2
  go_wp2_with fail
  refine (l4word_s A _ _ (.slice a0 n0 c0) kw bx 7 6 _ ST.out (HG.out _ (Below.step HX.out ST.out.old)).1 (bs_old_ne (HG.out _ (Below.refl _ _)).1 (by omega) hbx0) (by omega) (by omega)).mono ?_
  rintro e w3 ⟨v1, g1, rfl, ST1, G1, hg1⟩
  have S1 : Hid (St A w3 g1 v1 (kw ++ [32] ++ bx) 14) := ST1
  have K3 := box_below S1.out.old HK.out
  clear f0 f1 f2 f3 f4 f5 f6 f7 hlA ST1 G1 hg1 ST K2
  obtain ⟨f0, f1, f2, f3, f4, f5, f6, f7⟩ := box8 K3
  have hlA := lt_of_heap K3
  go_wp2_with fail
  refine (l4digits_r un (by omega) _).mono ?_
  rintro e w4 ⟨u4, rfl, R4, B4⟩
  have S4 := hidm (St.below S1.out B4)
  have K4 := box_below B4 K3
  clear f0 f1 f2 f3 f4 f5 f6 f7 hlA K3
  go_wp2_with fail
  refine (l4word_s A g1 v1 u4 (kw ++ [32] ++ bx) (digB un) 14 8 _ S4.out R4.bs (R4.ne S1.out.lt) (digB_len10 (by omega)) (by omega)).mono ?_
  rintro e w5 ⟨v5, g5, rfl, T5, G5, hg5⟩
  have S5 := hidm T5
  clear S1 S4 R4 B4 K4 T5 G5 hg5
  go_wp2
  go_ret
  exact ⟨_, rfl, by simpa using (S5.out.ownA (w := w) (by omega)), Below.step HX.out S5.out.old⟩

set_option maxRecDepth 100000 in
set_option maxHeartbeats 4000000 in
theorem l4text_8 (a0 a1 a2 : Option Addr) (n0 n1 n2 c0 c1 c2 : Nat) (bx tt : List Int) (uid mode fl si : Int) (tx : List Int) (w : World) (HG : Hid (∀ wi, Below w.heap.size w wi → Bs wi (.slice a0 n0 c0) bx ∧ Bs wi (.slice a1 n1 c1) tt ∧ Bs wi (.slice a2 n2 c2) tx)) (hbx : bx.length ≤ 6) (hbx0 : 0 < bx.length) (sn : Nat) (hx : si = sn) (hsn : sn ≤ 1000000) :
    Calls Tryz.prog 26 #[.agg #[.int .i64 8, .slice a0 n0 c0, .slice a1 n1 c1, .int .i64 uid, .int .i64 mode, .int .i64 fl, .int .i64 si, .slice a2 n2 c2]] w fun e w' => ∃ u, e = .returned u ∧ OwnA w w' u (kindW 8 ++ [32] ++ bx ++ [32] ++ digB sn) ∧ Below w.heap.size w w' := by
  subst hx
  have HX : Hid (Below w.heap.size w (w.alloc (.cells #[.int .i64 8, .slice a0 n0 c0, .slice a1 n1 c1, .int .i64 uid, .int .i64 mode, .int .i64 fl, .int .i64 sn, .slice a2 n2 c2] 24))) := (Below.refl _ _).alloc (Nat.le_refl _) _
  have HK : Hid ((w.alloc (.cells #[.int .i64 8, .slice a0 n0 c0, .slice a1 n1 c1, .int .i64 uid, .int .i64 mode, .int .i64 fl, .int .i64 sn, .slice a2 n2 c2] 24)).heap[w.heap.size]? = some (.cells #[.int .i64 8, .slice a0 n0 c0, .slice a1 n1 c1, .int .i64 uid, .int .i64 mode, .int .i64 fl, .int .i64 sn, .slice a2 n2 c2] 24)) := box_new w _
  have hcv := run_convert_str (kindW 8)
  have hkw : (kindW 8).length ≤ 7 ∧ 0 < (kindW 8).length ∧ Oct (kindW 8) := by
    exact ⟨by decide, by decide, by intro x hx; simp [kindW] at hx; omega⟩
  have hq := fun W => bytesWorldQ W (kindW 8) hkw.2.2 (by omega)
  generalize hA : w.alloc (.cells #[.int .i64 8, .slice a0 n0 c0, .slice a1 n1 c1, .int .i64 uid, .int .i64 mode, .int .i64 fl, .int .i64 sn, .slice a2 n2 c2] 24) = A at HX HK
  have hAs : A.heap.size = w.heap.size + 1 := by rw [← hA]; simp
  generalize hkW : kindW 8 = kw at *
  go_enter Tryz.func26, Tryz.ntmps26
  obtain ⟨f0, f1, f2, f3, f4, f5, f6, f7⟩ := box8 HK.out
  have hlA := lt_of_heap HK.out
  go_wp2_with fail
  refine (l4kind_r 8 (by omega) _).mono ?_
  rw [hkW]
  rintro e w1 ⟨rfl, B⟩
  have hq1 := hq w1
  have hs1 := B.size
  generalize hW2 : Lib.bytesWorld w1 5 (strOfNums kw) = w2 at *
  have C2 := Below.step B hq1.2
  have ST : Hid (St A w2 w1.heap.size (.slice (some ⟨w1.heap.size, 0, none⟩) kw.length (grownCap w1 kw.length 0 5)) kw 7) := ⟨hs1, hq1.1, C2, hkw.2.1, hkw.1⟩
  have K2 := box_below C2 HK.out
  clear f0 f1 f2 f3 f4 f5 f6 f7 hlA hq hq1 B C2
  obtain ⟨f0, f1, f2, f3, f4, f5, f6, f7⟩ := box8 K2
  have hlA := lt_of_heap K2
  go_wp2_with fail
  refine (l4word_s A _ _ (.slice a0 n0 c0) kw bx 7 6 _ ST.out (HG.out _ (Below.step HX.out ST.out.old)).1 (bs_old_ne (HG.out _ (Below.refl _ _)).1 (by omega) hbx0) (by omega) (by omega)).mono ?_
  rintro e w3 ⟨v1, g1, rfl, ST1, G1, hg1⟩
  have S1 : Hid (St A w3 g1 v1 (kw ++ [32] ++ bx) 14) := ST1
  have K3 := box_below S1.out.old HK.out
  clear f0 f1 f2 f3 f4 f5 f6 f7 hlA ST1 G1 hg1 ST K2
  obtain ⟨f0, f1, f2, f3, f4, f5, f6, f7⟩ := box8 K3
  have hlA := lt_of_heap K3
  go_wp2_with fail
  refine (l4digits_r sn (by omega) _).mono ?_
  rintro e w4 ⟨u4, rfl, R4, B4⟩
  have S4 := hidm (St.below S1.out B4)
  have K4 := box_below B4 K3
  clear f0 f1 f2 f3 f4 f5 f6 f7 hlA K3
  go_wp2_with fail
  refine (l4word_s A g1 v1 u4 (kw ++ [32] ++ bx) (digB sn) 14 8 _ S4.out R4.bs (R4.ne S1.out.lt) (digB_len10 (by omega)) (by omega)).mono ?_
  rintro e w5 ⟨v5, g5, rfl, T5, G5, hg5⟩
  have S5 := hidm T5
  clear S1 S4 R4 B4 K4 T5 G5 hg5
  go_wp2
  go_ret
  exact ⟨_, rfl, by simpa using (S5.out.ownA (w := w) (by omega)), Below.step HX.out S5.out.old⟩

end Go.Proofs.YtlegmiaoablcgaaGreatDoor

/- What l4text of package spec does: COPY. -/
namespace Go.Proofs.YtlegmiaoablcgaaGreatDoor
open Go.RowKit
set_option maxRecDepth 100000
set_option linter.unusedVariables false

theorem tabTX16 : (Tryz.f26.body.bind (opsAt 16)).all (fun o => tableO o 9 [0, 1, 2, 5, 6, 3, 4, 7, 8] [5, 6, 7]) = true := by kernel_rfl

set_option maxRecDepth 100000 in
set_option maxHeartbeats 4000000 in
theorem l4text_6 (a0 a1 a2 : Option Addr) (n0 n1 n2 c0 c1 c2 : Nat) (bx tt : List Int) (uid mode fl si : Int) (tx : List Int) (w : World) (HG : Hid (∀ wi, Below w.heap.size w wi → Bs wi (.slice a0 n0 c0) bx ∧ Bs wi (.slice a1 n1 c1) tt ∧ Bs wi (.slice a2 n2 c2) tx)) (hbx : bx.length ≤ 6) (hbx0 : 0 < bx.length) (un : Nat) (hx : uid = un) (hun' : un ≤ 1000000) (htt : tt.length ≤ 6) (htt0 : 0 < tt.length) :
    Calls Tryz.prog 26 #[.agg #[.int .i64 6, .slice a0 n0 c0, .slice a1 n1 c1, .int .i64 uid, .int .i64 mode, .int .i64 fl, .int .i64 si, .slice a2 n2 c2]] w fun e w' => ∃ u, e = .returned u ∧ OwnA w w' u (kindW 6 ++ [32] ++ bx ++ [32] ++ digB un ++ [32] ++ tt ++ (if mode = 1 then [32] ++ awayW else [])) ∧ Below w.heap.size w w' := by
  subst hx
  have hun : un ≤ 9999999 := by omega
  have HX : Hid (Below w.heap.size w (w.alloc (.cells #[.int .i64 6, .slice a0 n0 c0, .slice a1 n1 c1, .int .i64 un, .int .i64 mode, .int .i64 fl, .int .i64 si, .slice a2 n2 c2] 24))) := (Below.refl _ _).alloc (Nat.le_refl _) _
  have HK : Hid ((w.alloc (.cells #[.int .i64 6, .slice a0 n0 c0, .slice a1 n1 c1, .int .i64 un, .int .i64 mode, .int .i64 fl, .int .i64 si, .slice a2 n2 c2] 24)).heap[w.heap.size]? = some (.cells #[.int .i64 6, .slice a0 n0 c0, .slice a1 n1 c1, .int .i64 un, .int .i64 mode, .int .i64 fl, .int .i64 si, .slice a2 n2 c2] 24)) := box_new w _
  have hcv := run_convert_str (kindW 6)
  have hkw : (kindW 6).length ≤ 7 ∧ 0 < (kindW 6).length ∧ Oct (kindW 6) := by
    exact ⟨by decide, by decide, by intro x hx; simp [kindW] at hx; omega⟩
  have hq := fun W => bytesWorldQ W (kindW 6) hkw.2.2 (by omega)
  generalize hA : w.alloc (.cells #[.int .i64 6, .slice a0 n0 c0, .slice a1 n1 c1, .int .i64 un, .int .i64 mode, .int .i64 fl, .int .i64 si, .slice a2 n2 c2] 24) = A at HX HK
  have hAs : A.heap.size = w.heap.size + 1 := by rw [← hA]; simp
  generalize hkW : kindW 6 = kw at *
  go_enter Tryz.func26, Tryz.ntmps26
  obtain ⟨f0, f1, f2, f3, f4, f5, f6, f7⟩ := box8 HK.out
  have hlA := lt_of_heap HK.out
  go_wp2_with fail
  refine (l4kind_r 6 (by omega) _).mono ?_
  rw [hkW]
  rintro e w1 ⟨rfl, B⟩
  have hq1 := hq w1
  have hs1 := B.size
  generalize hW2 : Lib.bytesWorld w1 5 (strOfNums kw) = w2 at *
  have C2 := Below.step B hq1.2
  have ST : Hid (St A w2 w1.heap.size (.slice (some ⟨w1.heap.size, 0, none⟩) kw.length (grownCap w1 kw.length 0 5)) kw 7) := ⟨hs1, hq1.1, C2, hkw.2.1, hkw.1⟩
  have K2 := box_below C2 HK.out
  clear f0 f1 f2 f3 f4 f5 f6 f7 hlA hq hq1 B C2
  obtain ⟨f0, f1, f2, f3, f4, f5, f6, f7⟩ := box8 K2
  have hlA := lt_of_heap K2
  go_wp2_with fail
  refine (l4word_s A _ _ (.slice a0 n0 c0) kw bx 7 6 _ ST.out (HG.out _ (Below.step HX.out ST.out.old)).1 (bs_old_ne (HG.out _ (Below.refl _ _)).1 (by omega) hbx0) (by omega) (by omega)).mono ?_
  rintro e w3 ⟨v1, g1, rfl, ST1, G1, hg1⟩
  have S1 : Hid (St A w3 g1 v1 (kw ++ [32] ++ bx) 14) := ST1
  have K3 := box_below S1.out.old HK.out
  clear f0 f1 f2 f3 f4 f5 f6 f7 hlA ST1 G1 hg1 ST K2
  obtain ⟨f0, f1, f2, f3, f4, f5, f6, f7⟩ := box8 K3
  have hlA := lt_of_heap K3
  have HS : Hid (∀ w', Below A.heap.size A w' → w'.cell? ⟨w.heap.size, 2, none⟩ = some (.slice a1 n1 c1) ∧ w'.cell? ⟨w.heap.size, 3, none⟩ = some (.int .i64 un)) := by
    intro w' h
    obtain ⟨s0, s1, s2, s3, s4, s5, s6, s7⟩ := box8 (box_below h HK.out)
    exact ⟨s2, s3⟩
  have DR : Below w3.heap.size w3 w3.drew := (Below.refl _ _).drew
  have S1d : Hid (St A w3.drew g1 v1 (kw ++ [32] ++ bx) 14) := S1.out.below DR
  go_wp2
  refine wpO_begin (S := fun w' => w'.cell? ⟨w.heap.size, 2, none⟩ = some (.slice a1 n1 c1) ∧ w'.cell? ⟨w.heap.size, 3, none⟩ = some (.int .i64 un)) (tabO_of (by kernel_rfl) tabTX16) (by kernel_rfl) (HS.out _ S1d.out.old) (fun hTb hHeld => ?_)
  refine tkw 0 0 68 hTb hHeld ?_
  refine tkw 1 1 69 hTb hHeld ?_
  refine tkw 2 2 70 hTb hHeld ?_
  refine tkw 3 5 73 hTb hHeld ?_
  refine tkw 4 6 74 hTb hHeld ?_
  refine clo 5 3 hTb (by decide) rfl ?_
  refine AllReadyH.cons rfl (fun K hK => ?_) AllReadyH.nil
  go_simp
  refine (l4digits_r un hun _).mono ?_
  rintro e w4 ⟨u4, rfl, R4, B4⟩
  have S4 := hidm (St.below S1d.out B4)
  refine hK.out _ _ (HS.out _ S4.out.old) (fun hHeld => ?_)
  clear hK K
  refine wpOrd_in (n := 9) (p := 5) (i := 3) rfl rfl rfl ?_
  refine clo 6 4 hTb (by decide) rfl ?_
  refine AllReadyH.cons rfl (fun K hK => ?_) AllReadyH.nil
  go_simp
  refine (l4word_s A g1 v1 u4 (kw ++ [32] ++ bx) (digB un) 14 8 _ S4.out (R4.bs) (R4.ne S1d.out.lt) (by first | omega | exact flagsB_len _ | exact digB_len10 (by omega)) (by omega)).mono ?_
  rintro e w5 ⟨v5, g5, rfl, T5, G5, hg5⟩
  have S5 := hidm T5
  refine hK.out _ _ (HS.out _ S5.out.old) (fun hHeld => ?_)
  clear hK K
  refine wpOrd_in (n := 9) (p := 6) (i := 4) rfl rfl rfl ?_
  refine clo 7 7 hTb (by decide) rfl ?_
  refine AllReadyH.cons rfl (fun K hK => ?_) AllReadyH.nil
  go_simp
  refine (l4word_s A g5 v5 (.slice a1 n1 c1) ((kw ++ [32] ++ bx) ++ [32] ++ digB un) (tt) 23 6 _ S5.out ((HG.out _ (Below.step HX.out S5.out.old)).2.1) (bs_old_ne (HG.out _ (Below.refl _ _)).2.1 (by have := S5.out.ge; omega) htt0) (by first | omega | exact flagsB_len _ | exact digB_len10 (by omega)) (by omega)).mono ?_
  rintro e w6 ⟨v6, g6, rfl, T6, G6, hg6⟩
  have S6 := hidm T6
  refine hK.out _ _ (HS.out _ S6.out.old) (fun hHeld => ?_)
  clear hK K
  refine wpOrd_in (n := 9) (p := 7) (i := 7) rfl rfl rfl ?_
  refine tkw 8 8 3 hTb hHeld ?_
  refine wpO_end hTb ?_
  have K6 := box_below S6.out.old HK.out
  clear HS hHeld hTb DR S1 S1d R4 B4 T5 G5 hg5 T6 G6 hg6 S4 S5
  clear f0 f1 f2 f3 f4 f5 f6 f7 hlA K3
  obtain ⟨f0, f1, f2, f3, f4, f5, f6, f7⟩ := box8 K6
  have hlA := lt_of_heap K6
  by_cases hm : mode = 1
  · subst hm
    obtain ⟨w6x, hcs, qx, bx6⟩ : ∃ w', Sem.run Tryz.prog (convert 22 22 (.slice (some ⟨w6.heap.size, 0, none⟩) 4 4)) (w6.alloc (.cells #[.int .u8 65, .int .u8 87, .int .u8 65, .int .u8 89] 5)) = .ok (.slice (some ⟨w6.heap.size, 0, none⟩) 4 4) w' ∧ OwnQ w' w6.heap.size (.slice (some ⟨w6.heap.size, 0, none⟩) 4 4) awayW ∧ Below w6.heap.size w6 w' := lit_conv w6 awayW (by intro x hx; simp [awayW] at hx; omega) (by decide)
    have SA := hidm (St.below S6.out bx6)
    have BA := hidm qx.bs
    have hl6 := S6.out.lt
    clear qx bx6
    go_wp2_with fail
    refine (l4word_s A g6 v6 (.slice (some ⟨w6.heap.size, 0, none⟩) 4 4) (((kw ++ [32] ++ bx) ++ [32] ++ digB un) ++ [32] ++ tt) awayW 30 4 _ SA.out BA.out (by simp [Value.ownBlock]; omega) (by decide) (by omega)).mono ?_
    rintro e w7 ⟨v7, g7, rfl, T7, G7, hg7⟩
    have S7 := hidm T7
    clear f0 f1 f2 f3 f4 f5 f6 f7 hlA K6 SA BA hl6 hcs T7 G7 hg7
    go_wp2
    go_ret
    exact ⟨_, rfl, by simpa using (S7.out.ownA (w := w) (by omega)), Below.step HX.out S7.out.old⟩
  · have HM : Hid ((if mode = 1 then [32] ++ awayW else ([] : List Int)) = []) := by simp [Hid, hm]
    have hm2 : (mode == 1) = false := by simp [hm]
    go_wp2
    go_ret
    exact ⟨_, rfl, by first | (rw [HM.out]; simpa using (S6.out.ownA (w := w) (by omega))) | simpa using (S6.out.ownA (w := w) (by omega)), Below.step HX.out S6.out.old⟩

end Go.Proofs.YtlegmiaoablcgaaGreatDoor

/- What l3name of package spec does. -/
namespace Go.Proofs.YtlegmiaoablcgaaGreatDoor
open Go.RowKit
set_option maxRecDepth 100000

set_option maxHeartbeats 400000 in
theorem l3name_any (v : Value) (l : List Int) (w : World) (hv : Bs w v l) :
    Calls Tryz.prog 16 #[v] w fun e w' => e = .returned (.bool (nameB l)) ∧ w' = w := by
  obtain ⟨ho, a, cap, rfl, hlc, hcm, hnil, hcells⟩ := hv
  unfold maxLen at hcm
  by_cases h0 : 1 ≤ l.length
  · by_cases h1 : l.length ≤ 6
    · have HN : Hid (nameB l = allIn 97 122 l) := by simp [Hid, nameB, h0, h1]
      obtain ⟨b, off, rfl, hlb, hc⟩ := hcells (by omega)
      go_enter Tryz.func16, Tryz.ntmps16
      go_wp2
      go_loop [3] (fun i => ∃ k : Nat, k ≤ l.length ∧ i = .int .i64 k ∧ Hid (∀ j, j < k → 97 ≤ l.getD j 0 ∧ l.getD j 0 ≤ 122)) (fun i => l.length - (intOf i).toNat)
      case atStart => exact ⟨0, Nat.zero_le _, rfl, fun j hj => absurd hj (Nat.not_lt_zero _)⟩
      case round =>
        obtain ⟨k, hk, rfl, hA⟩ := hrel
        by_cases hlt : k < l.length
        · have hx := hc k hlt
          have hbx := oct_get ho k
          have HY : Hid (l.getD k 0 = l.getD k 0) := rfl
          generalize hy : l.getD k 0 = x at hx hbx HY
          have HX : Hid (l.getD k 0 = x) := hy
          clear hy HY hc
          by_cases c1 : 97 ≤ x
          · by_cases c2 : x ≤ 122
            · go_wp2
              go_round
              case rel =>
                refine ⟨k + 1, by omega, by go_num, (show Hid _ from fun j hj => ?_)⟩
                by_cases e : j = k
                · subst e; rw [HX.out]; exact ⟨c1, c2⟩
                · exact hA.out j (by omega)
              case measure => simp [intOf]; omega
            · go_wp2
              go_ret
              exact ⟨ret_b (a := false) (by rw [HN.out, allIn_no k hlt (by rw [HX.out]; omega)]), rfl⟩
          · go_wp2
            go_ret
            exact ⟨ret_b (a := false) (by rw [HN.out, allIn_no k hlt (by rw [HX.out]; omega)]), rfl⟩
        · obtain rfl : k = l.length := by omega
          go_wp2
          go_ret
          exact ⟨ret_b (a := true) (by rw [HN.out, allIn_yes hA.out]), rfl⟩
    · have HN : Hid (nameB l = false) := by simp [Hid, nameB, h1]
      go_enter Tryz.func16, Tryz.ntmps16
      go_wp2
      go_ret
      exact ⟨ret_b (a := false) HN.out, rfl⟩
  · have HN : Hid (nameB l = false) := by simp [Hid, nameB, h0]
    go_enter Tryz.func16, Tryz.ntmps16
    go_wp2
    go_ret
    exact ⟨ret_b (a := false) HN.out, rfl⟩

end Go.Proofs.YtlegmiaoablcgaaGreatDoor

/- What l3text of package spec does. -/
namespace Go.Proofs.YtlegmiaoablcgaaGreatDoor
open Go.RowKit
set_option maxRecDepth 100000

set_option maxHeartbeats 400000 in
theorem l3text_any (v : Value) (l : List Int) (w : World) (hv : Bs w v l) :
    Calls Tryz.prog 19 #[v] w fun e w' => e = .returned (.bool (textB l)) ∧ w' = w := by
  obtain ⟨ho, a, cap, rfl, hlc, hcm, hnil, hcells⟩ := hv
  unfold maxLen at hcm
  by_cases h0 : l.length ≤ 30
  · by_cases h1 : True
    · have HN : Hid (textB l = allIn 32 126 l) := by simp [Hid, textB, h0]
      clear h1
      go_enter Tryz.func19, Tryz.ntmps19
      go_wp2
      go_loop [3] (fun i => ∃ k : Nat, k ≤ l.length ∧ i = .int .i64 k ∧ Hid (∀ j, j < k → 32 ≤ l.getD j 0 ∧ l.getD j 0 ≤ 126)) (fun i => l.length - (intOf i).toNat)
      case atStart => exact ⟨0, Nat.zero_le _, rfl, fun j hj => absurd hj (Nat.not_lt_zero _)⟩
      case round =>
        obtain ⟨k, hk, rfl, hA⟩ := hrel
        by_cases hlt : k < l.length
        · obtain ⟨b, off, rfl, hlb, hc⟩ := hcells (by omega)
          have hx := hc k hlt
          have hbx := oct_get ho k
          have HY : Hid (l.getD k 0 = l.getD k 0) := rfl
          generalize hy : l.getD k 0 = x at hx hbx HY
          have HX : Hid (l.getD k 0 = x) := hy
          clear hy HY hc hcells
          by_cases c1 : 32 ≤ x
          · by_cases c2 : x ≤ 126
            · go_wp2
              go_round
              case rel =>
                refine ⟨k + 1, by omega, by go_num, (show Hid _ from fun j hj => ?_)⟩
                by_cases e : j = k
                · subst e; rw [HX.out]; exact ⟨c1, c2⟩
                · exact hA.out j (by omega)
              case measure => simp [intOf]; omega
            · go_wp2
              go_ret
              exact ⟨ret_b (a := false) (by rw [HN.out, allIn_no k hlt (by rw [HX.out]; omega)]), rfl⟩
          · go_wp2
            go_ret
            exact ⟨ret_b (a := false) (by rw [HN.out, allIn_no k hlt (by rw [HX.out]; omega)]), rfl⟩
        · obtain rfl : k = l.length := by omega
          go_wp2
          go_ret
          exact ⟨ret_b (a := true) (by rw [HN.out, allIn_yes hA.out]), rfl⟩
    · exact absurd trivial h1
  · have HN : Hid (textB l = false) := by simp [Hid, textB, h0]
    go_enter Tryz.func19, Tryz.ntmps19
    go_wp2
    go_ret
    exact ⟨ret_b (a := false) HN.out, rfl⟩

end Go.Proofs.YtlegmiaoablcgaaGreatDoor

/- What CmdOk of package spec does of a kind that has a name alone. -/
namespace Go.Proofs.YtlegmiaoablcgaaGreatDoor
open Go.RowKit
set_option maxRecDepth 100000
set_option linter.unusedVariables false

set_option maxRecDepth 100000 in
set_option maxHeartbeats 4000000 in
theorem specCmdOk_A (k : Int) (h00 : 0 ≤ k) (h01 : k ≤ 9) (h2 : ¬ k = 2) (h3 : ¬ k = 3) (h5 : ¬ k = 5) (h6 : ¬ k = 6) (h8 : ¬ k = 8) (h9 : ¬ k = 9) (a0 a1 a2 : Option Addr) (nb nt nx c0 c1 c2 : Nat) (bx tt : List Int) (uid mode fl si : Int) (tx : List Int) (w : World) (HN : Hid (bx.length = nb ∧ tt.length = nt ∧ tx.length = nx))
    (H0 : Hid (∀ o, Bs (w.alloc o) (.slice a0 nb c0) bx ∧ Bs (w.alloc o) (.slice a1 nt c1) tt ∧ Bs (w.alloc o) (.slice a2 nx c2) tx)) (i10 : -9223372036854775808 ≤ uid) (i11 : uid ≤ 9223372036854775807) (i20 : -9223372036854775808 ≤ mode) (i21 : mode ≤ 9223372036854775807) (i30 : -9223372036854775808 ≤ fl) (i31 : fl ≤ 9223372036854775807) (i40 : -9223372036854775808 ≤ si) (i41 : si ≤ 9223372036854775807) :
    Calls Tryz.prog 6 #[.agg #[.int .i64 k, .slice a0 nb c0, .slice a1 nt c1, .int .i64 uid, .int .i64 mode, .int .i64 fl, .int .i64 si, .slice a2 nx c2]] w fun e w' => e = .returned (.bool (cmdB k bx tt uid mode fl si tx)) ∧ Below w.heap.size w w' := by
  have hp : ∀ w, Calls Tryz.prog 17 #[.int .i64 k] w fun e w' => e = .returned (.tuple #[.bool false, .bool false, .bool false, .bool false, .bool false]) ∧ w' = w := fun w => by
    have h := l3parts_any k w
    rwa [show toB k = false by simp [toB, h6], show uidB k = false by simp [uidB, h3, h5, h6], show modeB k = false by simp [modeB, h2, h3, h6], show sinceB k = false by simp [sinceB, h3, h8], show textsB k = false by simp [textsB, h2]] at h
  have ab : Hid (∀ o, Below w.heap.size w (w.alloc o)) := fun o => (Below.refl _ _).alloc (Nat.le_refl _) o
  rcases Nat.eq_zero_or_pos nb with rfl | hnb
  all_goals rcases Nat.eq_zero_or_pos nt with rfl | hnt
  all_goals try have hnb' : (nb : Int) ≠ 0 := by omega
  all_goals try have hnt' : (nt : Int) ≠ 0 := by omega
  all_goals try have hnt2 : (0 : Int) < nt := by omega
  all_goals go_enter Tryz.func6, Tryz.ntmps6
  all_goals go_wp2_with (first
    | (go_at_call 16; (refine (l3name_any _ bx _ (H0.out _).1).mono ?_); rintro e w' ⟨rfl, rfl⟩)
    | (go_at_call 19; refine (l3text_any _ tx _ (H0.out _).2.2).mono ?_; rintro e w' ⟨rfl, rfl⟩)
    | (go_at_call 17; refine (hp _).mono ?_; rintro e w' ⟨rfl, rfl⟩)
    | (go_at_call 18; refine (l3seq_any _ _).mono ?_; rintro e w' ⟨rfl, rfl⟩))
  all_goals go_ret
  all_goals refine ⟨ret_b ?_, ab.out _⟩
  all_goals clear hp H0
  all_goals have HN' := HN.out
  all_goals (try go_light)
  all_goals obtain ⟨e0, e1, e2⟩ := HN'
  all_goals clear HN ab
  all_goals have z0 := nameB_nil (l := bx)
  all_goals have z1 := nameB_nil (l := tt)
  all_goals have z2 := textB_nil (l := tx)
  all_goals (try have y0 := HX.out)
  all_goals (try have y1 := HY.out)
  all_goals (try clear HX HY)
  all_goals (rcases (show k = 0 ∨ k = 1 ∨ k = 4 ∨ k = 7 by omega) with rfl | rfl | rfl | rfl)
  all_goals (unfold cmdB; unfold inB at *; cases hn : nameB bx <;> cases hm : nameB tt <;> cases ht : textB tx <;> simp [hn, hm, ht, e0, e1, e2] at * <;> first | omega | (rw [Bool.eq_iff_iff]; simp; omega))

end Go.Proofs.YtlegmiaoablcgaaGreatDoor

/- What CmdOk of package spec does of kind 2. -/
namespace Go.Proofs.YtlegmiaoablcgaaGreatDoor
open Go.RowKit
set_option maxRecDepth 100000
set_option linter.unusedVariables false

set_option maxRecDepth 100000 in
set_option maxHeartbeats 4000000 in
theorem specCmdOk_2 (a0 a1 a2 : Option Addr) (nb nt nx c0 c1 c2 : Nat) (bx tt : List Int) (uid mode fl si : Int) (tx : List Int) (w : World) (HN : Hid (bx.length = nb ∧ tt.length = nt ∧ tx.length = nx))
    (H0 : Hid (∀ o, Bs (w.alloc o) (.slice a0 nb c0) bx ∧ Bs (w.alloc o) (.slice a1 nt c1) tt ∧ Bs (w.alloc o) (.slice a2 nx c2) tx)) (i10 : -9223372036854775808 ≤ uid) (i11 : uid ≤ 9223372036854775807) (i20 : -9223372036854775808 ≤ mode) (i21 : mode ≤ 9223372036854775807) (i30 : -9223372036854775808 ≤ fl) (i31 : fl ≤ 9223372036854775807) (i40 : -9223372036854775808 ≤ si) (i41 : si ≤ 9223372036854775807) :
    Calls Tryz.prog 6 #[.agg #[.int .i64 2, .slice a0 nb c0, .slice a1 nt c1, .int .i64 uid, .int .i64 mode, .int .i64 fl, .int .i64 si, .slice a2 nx c2]] w fun e w' => e = .returned (.bool (cmdB 2 bx tt uid mode fl si tx)) ∧ Below w.heap.size w w' := by
  have hp : ∀ w, Calls Tryz.prog 17 #[.int .i64 2] w fun e w' => e = .returned (.tuple #[.bool false, .bool false, .bool true, .bool false, .bool true]) ∧ w' = w := fun w => l3parts_any 2 w
  have ab : Hid (∀ o, Below w.heap.size w (w.alloc o)) := fun o => (Below.refl _ _).alloc (Nat.le_refl _) o
  rcases Nat.eq_zero_or_pos nb with rfl | hnb
  all_goals rcases Nat.eq_zero_or_pos nt with rfl | hnt
  all_goals try have hnb' : (nb : Int) ≠ 0 := by omega
  all_goals try have hnt' : (nt : Int) ≠ 0 := by omega
  all_goals try have hnt2 : (0 : Int) < nt := by omega
  all_goals go_enter Tryz.func6, Tryz.ntmps6
  all_goals go_wp2_with (first
    | (go_at_call 16; (refine (l3name_any _ bx _ (H0.out _).1).mono ?_); rintro e w' ⟨rfl, rfl⟩)
    | (go_at_call 19; refine (l3text_any _ tx _ (H0.out _).2.2).mono ?_; rintro e w' ⟨rfl, rfl⟩)
    | (go_at_call 17; refine (hp _).mono ?_; rintro e w' ⟨rfl, rfl⟩)
    | (go_at_call 18; refine (l3seq_any _ _).mono ?_; rintro e w' ⟨rfl, rfl⟩))
  all_goals go_ret
  all_goals refine ⟨ret_b ?_, ab.out _⟩
  all_goals clear hp H0
  all_goals have HN' := HN.out
  all_goals (try go_light)
  all_goals obtain ⟨e0, e1, e2⟩ := HN'
  all_goals clear HN ab
  all_goals have z0 := nameB_nil (l := bx)
  all_goals have z1 := nameB_nil (l := tt)
  all_goals have z2 := textB_nil (l := tx)
  all_goals (try have y0 := HX.out)
  all_goals (try have y1 := HY.out)
  all_goals (try clear HX HY)
  all_goals (unfold cmdB; unfold inB at *; cases hn : nameB bx <;> cases hm : nameB tt <;> cases ht : textB tx <;> simp [hn, hm, ht, e0, e1, e2] at * <;> first | omega | (rw [Bool.eq_iff_iff]; simp; omega))

end Go.Proofs.YtlegmiaoablcgaaGreatDoor

/- What CmdOk of package spec does of kind 3. -/
namespace Go.Proofs.YtlegmiaoablcgaaGreatDoor
open Go.RowKit
set_option maxRecDepth 100000
set_option linter.unusedVariables false

set_option maxRecDepth 100000 in
set_option maxHeartbeats 4000000 in
theorem specCmdOk_3 (a0 a1 a2 : Option Addr) (nb nt nx c0 c1 c2 : Nat) (bx tt : List Int) (uid mode fl si : Int) (tx : List Int) (w : World) (HN : Hid (bx.length = nb ∧ tt.length = nt ∧ tx.length = nx))
    (H0 : Hid (∀ o, Bs (w.alloc o) (.slice a0 nb c0) bx ∧ Bs (w.alloc o) (.slice a1 nt c1) tt ∧ Bs (w.alloc o) (.slice a2 nx c2) tx)) (i10 : -9223372036854775808 ≤ uid) (i11 : uid ≤ 9223372036854775807) (i20 : -9223372036854775808 ≤ mode) (i21 : mode ≤ 9223372036854775807) (i30 : -9223372036854775808 ≤ fl) (i31 : fl ≤ 9223372036854775807) (i40 : -9223372036854775808 ≤ si) (i41 : si ≤ 9223372036854775807) :
    Calls Tryz.prog 6 #[.agg #[.int .i64 3, .slice a0 nb c0, .slice a1 nt c1, .int .i64 uid, .int .i64 mode, .int .i64 fl, .int .i64 si, .slice a2 nx c2]] w fun e w' => e = .returned (.bool (cmdB 3 bx tt uid mode fl si tx)) ∧ Below w.heap.size w w' := by
  have hp : ∀ w, Calls Tryz.prog 17 #[.int .i64 3] w fun e w' => e = .returned (.tuple #[.bool false, .bool true, .bool true, .bool true, .bool false]) ∧ w' = w := fun w => l3parts_any 3 w
  have ab : Hid (∀ o, Below w.heap.size w (w.alloc o)) := fun o => (Below.refl _ _).alloc (Nat.le_refl _) o
  rcases Nat.eq_zero_or_pos nb with rfl | hnb
  all_goals rcases Nat.eq_zero_or_pos nt with rfl | hnt
  all_goals try have hnb' : (nb : Int) ≠ 0 := by omega
  all_goals try have hnt' : (nt : Int) ≠ 0 := by omega
  all_goals try have hnt2 : (0 : Int) < nt := by omega
  all_goals go_enter Tryz.func6, Tryz.ntmps6
  all_goals go_wp2_with (first
    | (go_at_call 16; (refine (l3name_any _ bx _ (H0.out _).1).mono ?_); rintro e w' ⟨rfl, rfl⟩)
    | (go_at_call 19; refine (l3text_any _ tx _ (H0.out _).2.2).mono ?_; rintro e w' ⟨rfl, rfl⟩)
    | (go_at_call 17; refine (hp _).mono ?_; rintro e w' ⟨rfl, rfl⟩)
    | (go_at_call 18; refine (l3seq_any _ _).mono ?_; rintro e w' ⟨rfl, rfl⟩))
  all_goals go_ret
  all_goals refine ⟨ret_b ?_, ab.out _⟩
  all_goals clear hp H0
  all_goals have HN' := HN.out
  all_goals (try go_light)
  all_goals obtain ⟨e0, e1, e2⟩ := HN'
  all_goals clear HN ab
  all_goals have z0 := nameB_nil (l := bx)
  all_goals have z1 := nameB_nil (l := tt)
  all_goals have z2 := textB_nil (l := tx)
  all_goals (try have y0 := HX.out)
  all_goals (try have y1 := HY.out)
  all_goals (try clear HX HY)
  all_goals (unfold cmdB; unfold inB at *; cases hn : nameB bx <;> cases hm : nameB tt <;> cases ht : textB tx <;> simp [hn, hm, ht, e0, e1, e2] at * <;> first | omega | (rw [Bool.eq_iff_iff]; simp; omega))

end Go.Proofs.YtlegmiaoablcgaaGreatDoor

/- What CmdOk of package spec does of kind 5. -/
namespace Go.Proofs.YtlegmiaoablcgaaGreatDoor
open Go.RowKit
set_option maxRecDepth 100000
set_option linter.unusedVariables false

set_option maxRecDepth 100000 in
set_option maxHeartbeats 4000000 in
theorem specCmdOk_5 (a0 a1 a2 : Option Addr) (nb nt nx c0 c1 c2 : Nat) (bx tt : List Int) (uid mode fl si : Int) (tx : List Int) (w : World) (HN : Hid (bx.length = nb ∧ tt.length = nt ∧ tx.length = nx))
    (H0 : Hid (∀ o, Bs (w.alloc o) (.slice a0 nb c0) bx ∧ Bs (w.alloc o) (.slice a1 nt c1) tt ∧ Bs (w.alloc o) (.slice a2 nx c2) tx)) (i10 : -9223372036854775808 ≤ uid) (i11 : uid ≤ 9223372036854775807) (i20 : -9223372036854775808 ≤ mode) (i21 : mode ≤ 9223372036854775807) (i30 : -9223372036854775808 ≤ fl) (i31 : fl ≤ 9223372036854775807) (i40 : -9223372036854775808 ≤ si) (i41 : si ≤ 9223372036854775807) :
    Calls Tryz.prog 6 #[.agg #[.int .i64 5, .slice a0 nb c0, .slice a1 nt c1, .int .i64 uid, .int .i64 mode, .int .i64 fl, .int .i64 si, .slice a2 nx c2]] w fun e w' => e = .returned (.bool (cmdB 5 bx tt uid mode fl si tx)) ∧ Below w.heap.size w w' := by
  have hp : ∀ w, Calls Tryz.prog 17 #[.int .i64 5] w fun e w' => e = .returned (.tuple #[.bool false, .bool true, .bool false, .bool false, .bool false]) ∧ w' = w := fun w => l3parts_any 5 w
  have ab : Hid (∀ o, Below w.heap.size w (w.alloc o)) := fun o => (Below.refl _ _).alloc (Nat.le_refl _) o
  rcases Nat.eq_zero_or_pos nb with rfl | hnb
  all_goals rcases Nat.eq_zero_or_pos nt with rfl | hnt
  all_goals try have hnb' : (nb : Int) ≠ 0 := by omega
  all_goals try have hnt' : (nt : Int) ≠ 0 := by omega
  all_goals try have hnt2 : (0 : Int) < nt := by omega
  all_goals go_enter Tryz.func6, Tryz.ntmps6
  all_goals go_wp2_with (first
    | (go_at_call 16; (refine (l3name_any _ bx _ (H0.out _).1).mono ?_); rintro e w' ⟨rfl, rfl⟩)
    | (go_at_call 19; refine (l3text_any _ tx _ (H0.out _).2.2).mono ?_; rintro e w' ⟨rfl, rfl⟩)
    | (go_at_call 17; refine (hp _).mono ?_; rintro e w' ⟨rfl, rfl⟩)
    | (go_at_call 18; refine (l3seq_any _ _).mono ?_; rintro e w' ⟨rfl, rfl⟩))
  all_goals go_ret
  all_goals refine ⟨ret_b ?_, ab.out _⟩
  all_goals clear hp H0
  all_goals have HN' := HN.out
  all_goals (try go_light)
  all_goals obtain ⟨e0, e1, e2⟩ := HN'
  all_goals clear HN ab
  all_goals have z0 := nameB_nil (l := bx)
  all_goals have z1 := nameB_nil (l := tt)
  all_goals have z2 := textB_nil (l := tx)
  all_goals (try have y0 := HX.out)
  all_goals (try have y1 := HY.out)
  all_goals (try clear HX HY)
  all_goals (unfold cmdB; unfold inB at *; cases hn : nameB bx <;> cases hm : nameB tt <;> cases ht : textB tx <;> simp [hn, hm, ht, e0, e1, e2] at * <;> first | omega | (rw [Bool.eq_iff_iff]; simp; omega))

end Go.Proofs.YtlegmiaoablcgaaGreatDoor
