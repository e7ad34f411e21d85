/- The proof's texts, part 5. -/
import Derived.Test.YtlegmiaoablcgaaDoorPart3
import Derived.Deep.DeepCutAuto
import Derived.Maps.AppendAt
import Derived.Test.YtlegmiaoablcgaaDoorPart4
import Derived.Test.YtlegmiaoablcgaaDoorPart2
import Derived.Shelf.Abstract

/- What l4one of package spec does: a text. -/
namespace Go.Proofs.YtlegmiaoablcgaaDoor
open Go.RowKit
set_option maxRecDepth 100000
set_option linter.unusedVariables false
set_option linter.unusedSimpArgs false

theorem tab_one26 : (Tryd.f51.body.bind (opsAt 26)).all (fun o => tableS o 10 [0, 1, 2, 3, 4, 5, 6, 7, 8, 9] [6, 7, 9] [8, 10] 8) = true := by kernel_rfl
theorem ite_w2 {c : Bool} {A B : Prop} (hc : c = true) (h : A) : if c = true then A else B := by rw [if_pos hc]; exact h
theorem textM_cons (x : Int) (r : List Int) : textM (x :: r) = (if x = 34 then some ([], r) else if x = 92 then (match r with
      | y :: q => if y = 34 ∨ y = 92 then (textM q).map fun p => (y :: p.1, p.2) else none
      | [] => none) else (textM r).map fun p => (x :: p.1, p.2)) := by
  cases r with
  | nil => simp only [textM]
  | cons y q => simp only [textM]
theorem tx_one {y : Int} {r : List Int} (h1 : y ≠ 34) (h2 : y ≠ 92) : textM (y :: r) = (textM r).map fun p => (y :: p.1, p.2) := by rw [textM_cons, if_neg h1, if_neg h2]
theorem tx_esc {z : Int} {r : List Int} (h : z = 34 ∨ z = 92) : textM (92 :: z :: r) = (textM r).map fun p => (z :: p.1, p.2) := by rw [textM_cons, if_neg (by decide), if_pos rfl]; simp only [if_pos h]
theorem tx_no {z : Int} {r : List Int} (h : ¬ (z = 34 ∨ z = 92)) : textM (92 :: z :: r) = none := by rw [textM_cons, if_neg (by decide), if_pos rfl]; simp only [if_neg h]
theorem textB_pre {a b : List Int} (h : textB (a ++ b) = true) : textB a = true := by
  unfold textB allIn at *
  simp only [Bool.and_eq_true, decide_eq_true_eq, List.length_append, List.all_append] at *
  exact ⟨by omega, h.2.1⟩
theorem text_bad {i : Int} {s r acc : List Int} (h : textM s = (textM r).map fun p => (acc ++ p.1, p.2)) (hb : textB acc = false) : (match textM s with
      | some p => if textB p.1 then some (⟨5, i, 0, p.1⟩, p.2) else (none : Option (TokD × List Int))
      | none => none) = none := by
  rw [h]
  cases hr : textM r with
  | none => rfl
  | some p =>
    simp only [Option.map_some]
    rw [if_neg]
    intro h2
    rw [textB_pre h2] at hb
    cases hb
section
variable {P : Program} {w : World} {t : TypeId} {B : Nat} {v : Value} {l : List Int}
theorem wp_ownB {o : Oper} {a : Act} {K : Act → World → Prop} {Q : Exit → Act → World → Prop} (d : Nat) (hd : o.dst = some d) (s y : Operand)
    (ho : o.op = .call { callee := .builtin .append, args := #[s, y], argTypes := #[t, t] }) (h : OwnB w B v l) {i : TypeInfo} (ht : P.underlying t = some (.slice 5)) (hi : P.info? 5 = some i) (hz : i.zero = some (.int .u8 0)) (hsize : i.size = 1) (hby : i.bytes = 1)
    (hs : a.eval s = v) (x : Int) (hx : 0 ≤ x ∧ x ≤ 255) (ad : Addr) (cc : Nat) (hy : a.eval y = .slice (some ad) 1 cc) (hcell : w.cell? ad = some (.int .u8 x)) (hl : l.length ≤ 1000) (hB : B ≤ w.heap.size)
    (k : ∀ v' w', OwnB w' B v' (l ++ [x]) → w.grownBy w' v.ownBlock → (∀ g, v.ownBlock = some g → B ≤ g) → K (a.put (some d) v') w') : o.wp P a w K Q := by
  have hr0 := h.row
  obtain ⟨v', w', hr, h2, h3, h4, h5⟩ := run_append_own_at (P := P) w B t o.type 5 i (.int .u8 0) 1 1 ht hi hz hsize hby rfl (by omega) v l.length (vals l) hr0 ad 1 cc [.int .u8 x] rfl (fun j u hu => by
    cases j with
    | zero => simp at hu; rw [← hu]; simpa [Addr.add] using hcell
    | succ j => simp at hu) (by simp [Value.oneCell']) (by unfold maxLen; omega) (by omega) hB
  unfold Oper.wp execOp
  simp only [ho, resolve, invoke, builtin, Sem.run_bind, Sem.run_pure, Result.andThen_ok, List.map_toArray, List.map_cons, List.map_nil, hs, hy, hr]
  have hoct : Oct (l ++ [x]) := fun z hz => (List.mem_append.1 hz).elim (h.oct z) fun hz => by simp at hz; rw [hz]; exact hx
  have h2' : w'.ownsRow B 5 1 v' (l ++ [x]).length (vals (l ++ [x])) := by simpa [vals] using h2
  have := k v' w' (own_of_row hoct rfl h2') h3 (fun g hg => (hr0.lt g hg).1)
  rw [← hd] at this
  exact this
end

set_option maxRecDepth 100000 in
set_option maxHeartbeats 4000000 in
theorem l4one_tx (v : Value) (l : List Int) (i : Nat) (w : World) (hv : Bs w v l) (hil : i < l.length) (hl : l.length ≤ 2000) (h34 : l.getD i 0 = 34) :
    Calls Tryd.prog 51 #[v, .int .i64 i] w (OneP w l (oneM i (l.drop i))) := by
  obtain ⟨res, hres⟩ : ∃ res, res = oneM i (l.drop i) := ⟨_, rfl⟩
  have HRES : Hid (res = oneM i (l.drop i)) := hres
  rw [← hres]
  clear hres
  have HV : Hid (∀ w', Below w.heap.size w w' → Bs w' v l) := fun w' h => hv.below h
  obtain ⟨ho, a, cap, rfl, hlc, hcm, hnil, hcells⟩ := hv
  unfold maxLen at hcm
  obtain ⟨b, off, rfl, hlb, hcs⟩ := hcells (by omega)
  have HCC : Hid (∀ k, k < l.length → w.cell? ⟨b, off + k, none⟩ = some (.int .u8 (l.getD k 0))) := hcs
  have HO : Hid (Oct l) := ho
  obtain ⟨i0, hi, hz0, hz1, hz2⟩ := info_parts info5
  obtain ⟨kR, kT, X⟩ := boxes2 w (.cells #[.int .i64 0, .int .i64 0, .int .i64 0, .slice none 0 0] 59) (.cells #[.int .i64 0, .int .i64 i, .int .i64 0, .slice none 0 0] 59)
  have HX : Hid (Below w.heap.size w ((w.alloc (.cells #[.int .i64 0, .int .i64 0, .int .i64 0, .slice none 0 0] 59)).alloc (.cells #[.int .i64 0, .int .i64 i, .int .i64 0, .slice none 0 0] 59))) := X
  have HKR : Hid _ := kR
  have HKT : Hid _ := kT
  have hsW : ((w.alloc (.cells #[.int .i64 0, .int .i64 0, .int .i64 0, .slice none 0 0] 59)).alloc (.cells #[.int .i64 0, .int .i64 i, .int .i64 0, .slice none 0 0] 59)).heap.size = w.heap.size + 2 := by simp
  have hxi := oct_get ho i
  have hxc := HCC.out i hil
  have HXI : Hid (l.drop i = l.getD i 0 :: l.drop (i + 1)) := drop_cons hil
  generalize l.getD i 0 = x at hxi hxc HXI h34
  have hxW : ((w.alloc (.cells #[.int .i64 0, .int .i64 0, .int .i64 0, .slice none 0 0] 59)).alloc (.cells #[.int .i64 0, .int .i64 i, .int .i64 0, .slice none 0 0] 59)).cell? ⟨b, off + i, none⟩ = some (.int .u8 x) := (X.cell (p := ⟨b, off + i, none⟩) hlb).trans hxc
  have hlbW : b < ((w.alloc (.cells #[.int .i64 0, .int .i64 0, .int .i64 0, .slice none 0 0] 59)).alloc (.cells #[.int .i64 0, .int .i64 i, .int .i64 0, .slice none 0 0] 59)).heap.size := by omega
  have hii : (i : Int) < (l.length : Int) := by omega
  clear hcells hcs kR kT X hxc
  go_enter Tryd.func51, Tryd.ntmps51
  go_upto_region 2 with fail
  generalize ((w.alloc (.cells #[.int .i64 0, .int .i64 0, .int .i64 0, .slice none 0 0] 59)).alloc (.cells #[.int .i64 0, .int .i64 i, .int .i64 0, .slice none 0 0] 59)) = W at HX HKR HKT hsW hxW hlbW ⊢
  have hsW2 : w.heap.size + 2 ≤ W.heap.size := by omega
  clear hsW
  subst h34
  obtain ⟨t0, t1, t2, t3⟩ := tx4 HKT.out
  obtain ⟨tz, tl⟩ := box8z HKT.out
  have HKT1 : Hid ((W.setCell ⟨w.heap.size + 1, 0, none⟩ (.int .i64 5)).heap[w.heap.size + 1]? = some (.cells #[.int .i64 5, .int .i64 i, .int .i64 0, .slice none 0 0] 59 (0, 0))) := box_set (i := 0) (v := .int .i64 5) HKT.out
  have HKR1 : Hid ((W.setCell ⟨w.heap.size + 1, 0, none⟩ (.int .i64 5)).heap[w.heap.size]? = some (.cells #[.int .i64 0, .int .i64 0, .int .i64 0, .slice none 0 0] 59 (0, 0))) := box_other (k := w.heap.size + 1) (i := 0) (v := .int .i64 5) HKR.out (by omega)
  have HB1 : Hid (Below w.heap.size w (W.setCell ⟨w.heap.size + 1, 0, none⟩ (.int .i64 5))) := HX.out.setCell (p := ⟨w.heap.size + 1, 0, none⟩) (by simp) _
  have hsW1 : W.heap.size ≤ (W.setCell ⟨w.heap.size + 1, 0, none⟩ (.int .i64 5)).heap.size := by simp only [box_size]; omega
  go_upto_region 17 with fail
  generalize (W.setCell ⟨w.heap.size + 1, 0, none⟩ (.int .i64 5)) = W1 at HKT1 HKR1 HB1 hsW1 ⊢
  clear t0 t1 t2 t3 tz tl HKT HKR hxW
  go_wp2
  go_loopw [9] (fun kv wr => ∃ (k : Nat) (acc : List Int) (va : Option Addr) (vn vc : Nat), i < k ∧ k ≤ l.length ∧ kv = .int .i64 k ∧ Hid (textM (l.drop (i + 1)) = (textM (l.drop k)).map fun p => (acc ++ p.1, p.2)) ∧ Hid (textB acc = true) ∧ Hid (OwnB wr W.heap.size (.slice va vn vc) acc) ∧ Hid (Below w.heap.size w wr) ∧ Hid (wr.heap[w.heap.size]? = some (.cells #[.int .i64 0, .int .i64 0, .int .i64 0, .slice none 0 0] 59 (0, 0))) ∧ Hid (wr.heap[w.heap.size + 1]? = some (.cells #[.int .i64 5, .int .i64 i, .int .i64 0, .slice va vn vc] 59 (0, 0))) ∧ W.heap.size ≤ wr.heap.size) (fun kv _ => l.length - (intOf kv).toNat)
  case atStart => exact ⟨i + 1, [], none, 0, 0, by omega, by omega, by go_num, by show _ = _; cases textM (l.drop (i + 1)) <;> simp, (rfl : textB [] = true), ⟨W.heap.size, Nat.le_refl _, oct_nil, .inl ⟨rfl, rfl⟩⟩, HB1, HKR1, HKT1, hsW1⟩
  case round =>
    obtain ⟨k, acc, va, vn, vc, hik, hk, rfl, HTX0, HTB0, HOW, HBr, HKRr, HKTr, hWr⟩ := hrel
    clear HB1 HKR1 HKT1 hsW1
    have hlbr : b < wr.drew.heap.size := by show b < wr.heap.size; omega
    have hlbr1 : b < wr.heap.size := by omega
    have hwd : W.heap.size ≤ wr.drew.heap.size := hWr
    have hal : acc.length ≤ 30 := by have h := HTB0.out; unfold textB at h; simp at h; exact h.1
    by_cases hlt : k < l.length
    · have hyc := HCC.out k hlt
      have hyo := oct_get HO.out k
      have HDR : Hid (l.drop k = l.getD k 0 :: l.drop (k + 1)) := drop_cons hlt
      have hki : (k : Int) < (l.length : Int) := by omega
      generalize l.getD k 0 = y at hyc hyo HDR
      have hyr : wr.cell? ⟨b, off + k, none⟩ = some (.int .u8 y) := (HBr.out.cell (p := ⟨b, off + k, none⟩) hlb).trans hyc
      by_cases hy : y = 34
      · subst hy
        obtain ⟨r0, r1, r2, r3⟩ := tx4 HKRr.out
        obtain ⟨t0, t1, t2, t3⟩ := tx4 HKTr.out
        obtain ⟨rz, rl⟩ := box8z HKRr.out
        obtain ⟨tz, tl⟩ := box8z HKTr.out
        have HF : Hid _ := tok_fin (w := w) HKRr.out (Nat.le_refl _) HBr.out (.int .i64 5) (.int .i64 i) (.int .i64 0) (.slice va vn vc)
        go_wp2
        obtain ⟨f0, f1, f2, f3⟩ := tx4 HF.out.1
        refine bodyPost_ret (v := .tuple #[.agg #[.int .i64 5, .int .i64 i, .int .i64 0, .slice va vn vc], .int .i64 ((k + 1 : Nat) : Int)]) (by simp [results, Tryd.results51, go_sem, f0, f1, f2, f3]) rfl ⟨HF.out.2.1, ?_⟩
        have hr := HRES.out
        rw [HXI.out] at hr
        simp only [oneM] at hr
        rw [if_neg (by decide), if_pos trivial] at hr
        rw [HTX0.out, HDR.out] at hr
        rw [textM_cons, if_pos rfl] at hr
        simp only [Option.map_some, List.append_nil] at hr
        rw [if_pos HTB0.out] at hr
        subst hr
        have h2 : l.length - (l.drop (k + 1)).length = k + 1 := by rw [List.length_drop]; omega
        refine ⟨va, vn, vc, by rw [h2], ?_, by rw [List.length_drop]; omega⟩
        exact Row.wide (B := W.heap.size) (T := wr.heap.size) ((((HOW.out.toRow.set (.inl (by omega))).set (.inl (by omega))).set (.inl (by omega))).set (.inl (by omega))) (by omega) (by simp only [box_size]; omega)
      · have hy1 : (y == 34) = false := by simp [hy]
        by_cases hy92 : y = 92
        · subst hy92
          by_cases hlt2 : k + 1 < l.length
          · have hzc := HCC.out (k + 1) hlt2
            have hzo := oct_get HO.out (k + 1)
            have HDR2 : Hid (l.drop (k + 1) = l.getD (k + 1) 0 :: l.drop (k + 2)) := drop_cons hlt2
            have hki2 : (k : Int) + 1 < (l.length : Int) := by omega
            generalize l.getD (k + 1) 0 = z at hzc hzo HDR2
            have hzr : wr.cell? ⟨b, off + (k + 1), none⟩ = some (.int .u8 z) := (HBr.out.cell (p := ⟨b, off + (k + 1), none⟩) hlb).trans hzc
            by_cases hz : z = 34 ∨ z = 92
            · have HTX : Hid (textM (l.drop (i + 1)) = (textM (l.drop (k + 2))).map fun p => ((acc ++ [z]) ++ p.1, p.2)) := by
                show _ = _
                rw [HTX0.out, HDR.out, HDR2.out, tx_esc hz]
                cases textM (l.drop (k + 2)) <;> simp
              clear hyc hyo
              have hyc := hzc
              have hyo := hzo
              rcases hz with hz | hz
              · subst hz
                obtain ⟨t0, t1, t2, t3⟩ := tx4 (show wr.drew.heap[w.heap.size + 1]? = _ from HKTr.out)
                have htl : w.heap.size + 1 < wr.drew.heap.size := by show _ < wr.heap.size; omega
                have hyd : wr.drew.cell? ⟨b, off + (k + 1), none⟩ = some (.int .u8 34) := (HBr.out.drew.cell (p := ⟨b, off + (k + 1), none⟩) hlb).trans hyc
                have hkj : (((k + 1) : Nat) : Int) < (l.length : Int) := by omega
                go_upto_region 26 with fail
                refine wpS_begin 8 (S := fun w' => w'.cell? ⟨w.heap.size + 1, 3, none⟩ = some (.slice va vn vc) ∧ w'.cell? ⟨b, off + (k + 1), none⟩ = some (.int .u8 34)) (tabS_of (by kernel_rfl) tab_one26) (by kernel_rfl) (⟨t3, hyd⟩) (fun hTb hHeld => ?_)
                refine tks 0 0 110 hTb hHeld ?_
                refine tks 1 1 111 hTb hHeld ?_
                refine tks 2 2 112 hTb hHeld ?_
                refine tks 3 3 113 hTb hHeld ?_
                refine tks 4 4 114 hTb hHeld ?_
                refine tks 5 5 115 hTb hHeld ?_
                refine cls 6 6 hTb (by decide) rfl rfl (fun K hK => ?_)
                go_simp
                have AB : Below wr.drew.heap.size wr.drew (wr.drew.alloc (.cells #[.int .u8 34] 5)) := (Below.refl _ _).alloc (Nat.le_refl _) _
                have HAB : Hid (Below wr.drew.heap.size wr.drew (wr.drew.alloc (.cells #[.int .u8 34] 5))) := AB
                have HCA : Hid ((wr.drew.alloc (.cells #[.int .u8 34] 5)).cell? ⟨wr.drew.heap.size, 0, none⟩ = some (.int .u8 34)) := by show _ = _; rw [cell_of_row _ _ 0 _ _ (0, 0) (box_new wr.drew (.cells #[.int .u8 34] 5))]; rfl
                refine hK.out _ _ (⟨(AB.cell (p := ⟨w.heap.size + 1, 3, none⟩) htl).trans t3, (AB.cell (p := ⟨b, off + (k + 1), none⟩) hlbr).trans hyd⟩) (fun hHeld => ?_)
                clear hK K
                clear AB
                refine cls 7 7 hTb (by decide) rfl rfl (fun K hK => ?_)
                refine ite_w2 (by kernel_rfl) (wp_ownB 117 rfl (.tmp 111) (.tmp 116) rfl ((HOW.out.below (Below.refl _ _).drew).below HAB.out) Tryd.underlying22 hi hz0 hz1 hz2 rfl 34 hyo ⟨wr.drew.heap.size, 0, none⟩ 1 rfl HCA.out (by omega) (Nat.le_trans hWr HAB.out.size) ?_)
                intro DV w2 hO2 hG2 hg2
                obtain ⟨da, dn, dc, hDV⟩ := hO2.bs.form3
                subst hDV
                have HO2 : Hid (OwnB w2 W.heap.size (.slice da dn dc) (acc ++ [34])) := hO2
                have B2 : Below W.heap.size wr.drew w2 := ⟨hG2.os.trans HAB.out.os, hG2.tape.trans HAB.out.tape, hG2.output.trans HAB.out.output, Nat.le_trans HAB.out.size hG2.size, fun j hj => (hG2.block j (Nat.lt_of_lt_of_le hj (Nat.le_trans hwd HAB.out.size)) (fun e => by have := hg2 j e.symm; omega)).trans (HAB.out.block j (by omega))⟩
                have HB2 : Hid (Below W.heap.size wr.drew w2) := B2
                have HBw : Hid (Below w.heap.size w w2) := (HBr.out.drew).trans (B2.mono (by omega))
                have HKT2 : Hid (w2.heap[w.heap.size + 1]? = _) := (B2.block _ (by omega)).trans (show wr.drew.heap[w.heap.size + 1]? = _ from HKTr.out)
                have HKR2 : Hid (w2.heap[w.heap.size]? = _) := (B2.block _ (by omega)).trans (show wr.drew.heap[w.heap.size]? = _ from HKRr.out)
                have hW2 : W.heap.size ≤ w2.heap.size := Nat.le_trans hWr B2.size
                clear hO2 hG2 hg2
                refine hK.out _ _ (⟨(B2.cell (p := ⟨w.heap.size + 1, 3, none⟩) (show w.heap.size + 1 < W.heap.size by omega)).trans t3, (B2.cell (p := ⟨b, off + (k + 1), none⟩) (show b < W.heap.size by omega)).trans hyd⟩) (fun hHeld => ?_)
                clear hK K
                refine wpS_next (S' := fun w' => True) 8 10 hTb (by decide) (trivial) (fun hHeld => ?_)
                refine tks 8 8 118 hTb hHeld ?_
                refine cls 9 9 hTb (by decide) rfl rfl (fun K hK => ?_)
                obtain ⟨s0, s1, s2, s3⟩ := tx4 HKT2.out
                obtain ⟨sz, sl⟩ := box8z HKT2.out
                go_simp
                refine hK.out _ _ (trivial) (fun hHeld => ?_)
                clear hK K
                refine wpS_end hTb ?_
                clear s0 s1 s2 s3 sz sl t0 t1 t2 t3
                have HKT3 : Hid ((w2.setCell ⟨w.heap.size + 1, 3, none⟩ (.slice da dn dc)).heap[w.heap.size + 1]? = some (.cells #[.int .i64 5, .int .i64 i, .int .i64 0, .slice da dn dc] 59 (0, 0))) := box_set (i := 3) (v := .slice da dn dc) HKT2.out
                have HKR3 : Hid ((w2.setCell ⟨w.heap.size + 1, 3, none⟩ (.slice da dn dc)).heap[w.heap.size]? = some (.cells #[.int .i64 0, .int .i64 0, .int .i64 0, .slice none 0 0] 59 (0, 0))) := box_other (k := w.heap.size + 1) (i := 3) (v := .slice da dn dc) HKR2.out (by omega)
                have HB3 : Hid (Below w.heap.size w (w2.setCell ⟨w.heap.size + 1, 3, none⟩ (.slice da dn dc))) := HBw.out.setCell (p := ⟨w.heap.size + 1, 3, none⟩) (by simp) _
                have HO3 : Hid (OwnB (w2.setCell ⟨w.heap.size + 1, 3, none⟩ (.slice da dn dc)) W.heap.size (.slice da dn dc) (acc ++ [34])) := (HO2.out.toRow.set (.inl (by omega))).own
                have hs3 : W.heap.size ≤ (w2.setCell ⟨w.heap.size + 1, 3, none⟩ (.slice da dn dc)).heap.size := by simp only [box_size]; omega
                go_upto_region 27 with fail
                generalize (w2.setCell ⟨w.heap.size + 1, 3, none⟩ (.slice da dn dc)) = w3 at HKT3 HKR3 HB3 HO3 hs3 ⊢
                clear HKT2 HKR2 HB2 HBw HO2 HAB HCA
                obtain ⟨t0, t1, t2, t3⟩ := tx4 HKT3.out
                obtain ⟨tz, tl⟩ := box8z HKT3.out
                go_wp2_with fail
                refine (l3text_any _ (acc ++ [34]) w3 HO3.out.bs).mono ?_
                rintro e w9 ⟨rfl, hw9⟩
                obtain rfl := hw9.symm
                clear t0 t1 t2 t3 tz tl
                cases hb : textB (acc ++ [34]) with
                | true =>
                  have HTB : Hid (textB (acc ++ [34]) = true) := hb
                  clear hb
                  go_wp2
                  go_roundw
                  case rel => exact ⟨k + 2, acc ++ [34], da, dn, dc, by omega, by omega, by go_num, HTX, HTB, HO3, HB3, HKR3, HKT3, hs3⟩
                  case measure => simp [intOf]; omega
                | false =>
                  have HTB : Hid (textB (acc ++ [34]) = false) := hb
                  clear hb
                  obtain ⟨r0, r1, r2, r3⟩ := tx4 HKR3.out
                  obtain ⟨t0, t1, t2, t3⟩ := tx4 HKT3.out
                  obtain ⟨rz, rl⟩ := box8z HKR3.out
                  obtain ⟨tz, tl⟩ := box8z HKT3.out
                  have HF : Hid _ := tok_fin (w := w) HKR3.out (Nat.le_refl _) HB3.out (.int .i64 5) (.int .i64 i) (.int .i64 0) (.slice da dn dc)
                  go_wp2
                  obtain ⟨f0, f1, f2, f3⟩ := tx4 HF.out.1
                  refine bodyPost_ret (v := .tuple #[.agg #[.int .i64 5, .int .i64 i, .int .i64 0, .slice da dn dc], .int .i64 (-1)]) (by simp [results, Tryd.results51, go_sem, f0, f1, f2, f3]) rfl ⟨HF.out.2.1, ?_⟩
                  have hr := HRES.out
                  rw [HXI.out] at hr
                  simp only [oneM] at hr
                  rw [if_neg (by decide), if_pos trivial] at hr
                  have hno := text_bad (i := (i : Int)) (HTX.out) HTB.out
                  have hr := hr.trans hno
                  subst hr
                  exact ⟨_, _, _, _, _, _, rfl⟩
              · subst hz
                obtain ⟨t0, t1, t2, t3⟩ := tx4 (show wr.drew.heap[w.heap.size + 1]? = _ from HKTr.out)
                have htl : w.heap.size + 1 < wr.drew.heap.size := by show _ < wr.heap.size; omega
                have hyd : wr.drew.cell? ⟨b, off + (k + 1), none⟩ = some (.int .u8 92) := (HBr.out.drew.cell (p := ⟨b, off + (k + 1), none⟩) hlb).trans hyc
                have hkj : (((k + 1) : Nat) : Int) < (l.length : Int) := by omega
                go_upto_region 26 with fail
                refine wpS_begin 8 (S := fun w' => w'.cell? ⟨w.heap.size + 1, 3, none⟩ = some (.slice va vn vc) ∧ w'.cell? ⟨b, off + (k + 1), none⟩ = some (.int .u8 92)) (tabS_of (by kernel_rfl) tab_one26) (by kernel_rfl) (⟨t3, hyd⟩) (fun hTb hHeld => ?_)
                refine tks 0 0 110 hTb hHeld ?_
                refine tks 1 1 111 hTb hHeld ?_
                refine tks 2 2 112 hTb hHeld ?_
                refine tks 3 3 113 hTb hHeld ?_
                refine tks 4 4 114 hTb hHeld ?_
                refine tks 5 5 115 hTb hHeld ?_
                refine cls 6 6 hTb (by decide) rfl rfl (fun K hK => ?_)
                go_simp
                have AB : Below wr.drew.heap.size wr.drew (wr.drew.alloc (.cells #[.int .u8 92] 5)) := (Below.refl _ _).alloc (Nat.le_refl _) _
                have HAB : Hid (Below wr.drew.heap.size wr.drew (wr.drew.alloc (.cells #[.int .u8 92] 5))) := AB
                have HCA : Hid ((wr.drew.alloc (.cells #[.int .u8 92] 5)).cell? ⟨wr.drew.heap.size, 0, none⟩ = some (.int .u8 92)) := by show _ = _; rw [cell_of_row _ _ 0 _ _ (0, 0) (box_new wr.drew (.cells #[.int .u8 92] 5))]; rfl
                refine hK.out _ _ (⟨(AB.cell (p := ⟨w.heap.size + 1, 3, none⟩) htl).trans t3, (AB.cell (p := ⟨b, off + (k + 1), none⟩) hlbr).trans hyd⟩) (fun hHeld => ?_)
                clear hK K
                clear AB
                refine cls 7 7 hTb (by decide) rfl rfl (fun K hK => ?_)
                refine ite_w2 (by kernel_rfl) (wp_ownB 117 rfl (.tmp 111) (.tmp 116) rfl ((HOW.out.below (Below.refl _ _).drew).below HAB.out) Tryd.underlying22 hi hz0 hz1 hz2 rfl 92 hyo ⟨wr.drew.heap.size, 0, none⟩ 1 rfl HCA.out (by omega) (Nat.le_trans hWr HAB.out.size) ?_)
                intro DV w2 hO2 hG2 hg2
                obtain ⟨da, dn, dc, hDV⟩ := hO2.bs.form3
                subst hDV
                have HO2 : Hid (OwnB w2 W.heap.size (.slice da dn dc) (acc ++ [92])) := hO2
                have B2 : Below W.heap.size wr.drew w2 := ⟨hG2.os.trans HAB.out.os, hG2.tape.trans HAB.out.tape, hG2.output.trans HAB.out.output, Nat.le_trans HAB.out.size hG2.size, fun j hj => (hG2.block j (Nat.lt_of_lt_of_le hj (Nat.le_trans hwd HAB.out.size)) (fun e => by have := hg2 j e.symm; omega)).trans (HAB.out.block j (by omega))⟩
                have HB2 : Hid (Below W.heap.size wr.drew w2) := B2
                have HBw : Hid (Below w.heap.size w w2) := (HBr.out.drew).trans (B2.mono (by omega))
                have HKT2 : Hid (w2.heap[w.heap.size + 1]? = _) := (B2.block _ (by omega)).trans (show wr.drew.heap[w.heap.size + 1]? = _ from HKTr.out)
                have HKR2 : Hid (w2.heap[w.heap.size]? = _) := (B2.block _ (by omega)).trans (show wr.drew.heap[w.heap.size]? = _ from HKRr.out)
                have hW2 : W.heap.size ≤ w2.heap.size := Nat.le_trans hWr B2.size
                clear hO2 hG2 hg2
                refine hK.out _ _ (⟨(B2.cell (p := ⟨w.heap.size + 1, 3, none⟩) (show w.heap.size + 1 < W.heap.size by omega)).trans t3, (B2.cell (p := ⟨b, off + (k + 1), none⟩) (show b < W.heap.size by omega)).trans hyd⟩) (fun hHeld => ?_)
                clear hK K
                refine wpS_next (S' := fun w' => True) 8 10 hTb (by decide) (trivial) (fun hHeld => ?_)
                refine tks 8 8 118 hTb hHeld ?_
                refine cls 9 9 hTb (by decide) rfl rfl (fun K hK => ?_)
                obtain ⟨s0, s1, s2, s3⟩ := tx4 HKT2.out
                obtain ⟨sz, sl⟩ := box8z HKT2.out
                go_simp
                refine hK.out _ _ (trivial) (fun hHeld => ?_)
                clear hK K
                refine wpS_end hTb ?_
                clear s0 s1 s2 s3 sz sl t0 t1 t2 t3
                have HKT3 : Hid ((w2.setCell ⟨w.heap.size + 1, 3, none⟩ (.slice da dn dc)).heap[w.heap.size + 1]? = some (.cells #[.int .i64 5, .int .i64 i, .int .i64 0, .slice da dn dc] 59 (0, 0))) := box_set (i := 3) (v := .slice da dn dc) HKT2.out
                have HKR3 : Hid ((w2.setCell ⟨w.heap.size + 1, 3, none⟩ (.slice da dn dc)).heap[w.heap.size]? = some (.cells #[.int .i64 0, .int .i64 0, .int .i64 0, .slice none 0 0] 59 (0, 0))) := box_other (k := w.heap.size + 1) (i := 3) (v := .slice da dn dc) HKR2.out (by omega)
                have HB3 : Hid (Below w.heap.size w (w2.setCell ⟨w.heap.size + 1, 3, none⟩ (.slice da dn dc))) := HBw.out.setCell (p := ⟨w.heap.size + 1, 3, none⟩) (by simp) _
                have HO3 : Hid (OwnB (w2.setCell ⟨w.heap.size + 1, 3, none⟩ (.slice da dn dc)) W.heap.size (.slice da dn dc) (acc ++ [92])) := (HO2.out.toRow.set (.inl (by omega))).own
                have hs3 : W.heap.size ≤ (w2.setCell ⟨w.heap.size + 1, 3, none⟩ (.slice da dn dc)).heap.size := by simp only [box_size]; omega
                go_upto_region 27 with fail
                generalize (w2.setCell ⟨w.heap.size + 1, 3, none⟩ (.slice da dn dc)) = w3 at HKT3 HKR3 HB3 HO3 hs3 ⊢
                clear HKT2 HKR2 HB2 HBw HO2 HAB HCA
                obtain ⟨t0, t1, t2, t3⟩ := tx4 HKT3.out
                obtain ⟨tz, tl⟩ := box8z HKT3.out
                go_wp2_with fail
                refine (l3text_any _ (acc ++ [92]) w3 HO3.out.bs).mono ?_
                rintro e w9 ⟨rfl, hw9⟩
                obtain rfl := hw9.symm
                clear t0 t1 t2 t3 tz tl
                cases hb : textB (acc ++ [92]) with
                | true =>
                  have HTB : Hid (textB (acc ++ [92]) = true) := hb
                  clear hb
                  go_wp2
                  go_roundw
                  case rel => exact ⟨k + 2, acc ++ [92], da, dn, dc, by omega, by omega, by go_num, HTX, HTB, HO3, HB3, HKR3, HKT3, hs3⟩
                  case measure => simp [intOf]; omega
                | false =>
                  have HTB : Hid (textB (acc ++ [92]) = false) := hb
                  clear hb
                  obtain ⟨r0, r1, r2, r3⟩ := tx4 HKR3.out
                  obtain ⟨t0, t1, t2, t3⟩ := tx4 HKT3.out
                  obtain ⟨rz, rl⟩ := box8z HKR3.out
                  obtain ⟨tz, tl⟩ := box8z HKT3.out
                  have HF : Hid _ := tok_fin (w := w) HKR3.out (Nat.le_refl _) HB3.out (.int .i64 5) (.int .i64 i) (.int .i64 0) (.slice da dn dc)
                  go_wp2
                  obtain ⟨f0, f1, f2, f3⟩ := tx4 HF.out.1
                  refine bodyPost_ret (v := .tuple #[.agg #[.int .i64 5, .int .i64 i, .int .i64 0, .slice da dn dc], .int .i64 (-1)]) (by simp [results, Tryd.results51, go_sem, f0, f1, f2, f3]) rfl ⟨HF.out.2.1, ?_⟩
                  have hr := HRES.out
                  rw [HXI.out] at hr
                  simp only [oneM] at hr
                  rw [if_neg (by decide), if_pos trivial] at hr
                  have hno := text_bad (i := (i : Int)) (HTX.out) HTB.out
                  have hr := hr.trans hno
                  subst hr
                  exact ⟨_, _, _, _, _, _, rfl⟩
            · have hz1 : (z != 34) = true := by simp; omega
              have hz2 : (z != 92) = true := by simp; omega
              obtain ⟨r0, r1, r2, r3⟩ := tx4 HKRr.out
              obtain ⟨t0, t1, t2, t3⟩ := tx4 HKTr.out
              obtain ⟨rz, rl⟩ := box8z HKRr.out
              obtain ⟨tz, tl⟩ := box8z HKTr.out
              have HF : Hid _ := tok_fin (w := w) HKRr.out (Nat.le_refl _) HBr.out (.int .i64 5) (.int .i64 i) (.int .i64 0) (.slice va vn vc)
              go_wp2
              obtain ⟨f0, f1, f2, f3⟩ := tx4 HF.out.1
              refine bodyPost_ret (v := .tuple #[.agg #[.int .i64 5, .int .i64 i, .int .i64 0, .slice va vn vc], .int .i64 (-1)]) (by simp [results, Tryd.results51, go_sem, f0, f1, f2, f3]) rfl ⟨HF.out.2.1, ?_⟩
              have hr := HRES.out
              rw [HXI.out] at hr
              simp only [oneM] at hr
              rw [if_neg (by decide), if_pos trivial] at hr
              rw [HTX0.out, HDR.out] at hr
              rw [HDR2.out, tx_no hz] at hr
              simp only [Option.map_none] at hr
              subst hr
              exact ⟨_, _, _, _, _, _, rfl⟩
          · have hki2 : (l.length : Int) ≤ (k : Int) + 1 := by omega
            have HDR2 : Hid (l.drop (k + 1) = []) := by show _ = _; rw [List.drop_eq_nil_iff]; omega
            obtain ⟨r0, r1, r2, r3⟩ := tx4 HKRr.out
            obtain ⟨t0, t1, t2, t3⟩ := tx4 HKTr.out
            obtain ⟨rz, rl⟩ := box8z HKRr.out
            obtain ⟨tz, tl⟩ := box8z HKTr.out
            have HF : Hid _ := tok_fin (w := w) HKRr.out (Nat.le_refl _) HBr.out (.int .i64 5) (.int .i64 i) (.int .i64 0) (.slice va vn vc)
            go_wp2
            obtain ⟨f0, f1, f2, f3⟩ := tx4 HF.out.1
            refine bodyPost_ret (v := .tuple #[.agg #[.int .i64 5, .int .i64 i, .int .i64 0, .slice va vn vc], .int .i64 (-1)]) (by simp [results, Tryd.results51, go_sem, f0, f1, f2, f3]) rfl ⟨HF.out.2.1, ?_⟩
            have hr := HRES.out
            rw [HXI.out] at hr
            simp only [oneM] at hr
            rw [if_neg (by decide), if_pos trivial] at hr
            rw [HTX0.out, HDR.out] at hr
            rw [HDR2.out, textM_cons, if_neg (by decide), if_pos rfl] at hr
            simp only [Option.map_none] at hr
            subst hr
            exact ⟨_, _, _, _, _, _, rfl⟩
        · have hy2 : (y == 92) = false := by simp [hy92]
          have HTX : Hid (textM (l.drop (i + 1)) = (textM (l.drop (k + 1))).map fun p => ((acc ++ [y]) ++ p.1, p.2)) := by
            show _ = _
            rw [HTX0.out, HDR.out, tx_one hy hy92]
            cases textM (l.drop (k + 1)) <;> simp
          obtain ⟨t0, t1, t2, t3⟩ := tx4 (show wr.drew.heap[w.heap.size + 1]? = _ from HKTr.out)
          have htl : w.heap.size + 1 < wr.drew.heap.size := by show _ < wr.heap.size; omega
          have hyd : wr.drew.cell? ⟨b, off + k, none⟩ = some (.int .u8 y) := (HBr.out.drew.cell (p := ⟨b, off + k, none⟩) hlb).trans hyc
          have hkj : ((k : Nat) : Int) < (l.length : Int) := by omega
          go_upto_region 26 with fail
          refine wpS_begin 8 (S := fun w' => w'.cell? ⟨w.heap.size + 1, 3, none⟩ = some (.slice va vn vc) ∧ w'.cell? ⟨b, off + k, none⟩ = some (.int .u8 y)) (tabS_of (by kernel_rfl) tab_one26) (by kernel_rfl) (⟨t3, hyd⟩) (fun hTb hHeld => ?_)
          refine tks 0 0 110 hTb hHeld ?_
          refine tks 1 1 111 hTb hHeld ?_
          refine tks 2 2 112 hTb hHeld ?_
          refine tks 3 3 113 hTb hHeld ?_
          refine tks 4 4 114 hTb hHeld ?_
          refine tks 5 5 115 hTb hHeld ?_
          refine cls 6 6 hTb (by decide) rfl rfl (fun K hK => ?_)
          go_simp
          have AB : Below wr.drew.heap.size wr.drew (wr.drew.alloc (.cells #[.int .u8 y] 5)) := (Below.refl _ _).alloc (Nat.le_refl _) _
          have HAB : Hid (Below wr.drew.heap.size wr.drew (wr.drew.alloc (.cells #[.int .u8 y] 5))) := AB
          have HCA : Hid ((wr.drew.alloc (.cells #[.int .u8 y] 5)).cell? ⟨wr.drew.heap.size, 0, none⟩ = some (.int .u8 y)) := by show _ = _; rw [cell_of_row _ _ 0 _ _ (0, 0) (box_new wr.drew (.cells #[.int .u8 y] 5))]; rfl
          refine hK.out _ _ (⟨(AB.cell (p := ⟨w.heap.size + 1, 3, none⟩) htl).trans t3, (AB.cell (p := ⟨b, off + k, none⟩) hlbr).trans hyd⟩) (fun hHeld => ?_)
          clear hK K
          clear AB
          refine cls 7 7 hTb (by decide) rfl rfl (fun K hK => ?_)
          refine ite_w2 (by kernel_rfl) (wp_ownB 117 rfl (.tmp 111) (.tmp 116) rfl ((HOW.out.below (Below.refl _ _).drew).below HAB.out) Tryd.underlying22 hi hz0 hz1 hz2 rfl y hyo ⟨wr.drew.heap.size, 0, none⟩ 1 rfl HCA.out (by omega) (Nat.le_trans hWr HAB.out.size) ?_)
          intro DV w2 hO2 hG2 hg2
          obtain ⟨da, dn, dc, hDV⟩ := hO2.bs.form3
          subst hDV
          have HO2 : Hid (OwnB w2 W.heap.size (.slice da dn dc) (acc ++ [y])) := hO2
          have B2 : Below W.heap.size wr.drew w2 := ⟨hG2.os.trans HAB.out.os, hG2.tape.trans HAB.out.tape, hG2.output.trans HAB.out.output, Nat.le_trans HAB.out.size hG2.size, fun j hj => (hG2.block j (Nat.lt_of_lt_of_le hj (Nat.le_trans hwd HAB.out.size)) (fun e => by have := hg2 j e.symm; omega)).trans (HAB.out.block j (by omega))⟩
          have HB2 : Hid (Below W.heap.size wr.drew w2) := B2
          have HBw : Hid (Below w.heap.size w w2) := (HBr.out.drew).trans (B2.mono (by omega))
          have HKT2 : Hid (w2.heap[w.heap.size + 1]? = _) := (B2.block _ (by omega)).trans (show wr.drew.heap[w.heap.size + 1]? = _ from HKTr.out)
          have HKR2 : Hid (w2.heap[w.heap.size]? = _) := (B2.block _ (by omega)).trans (show wr.drew.heap[w.heap.size]? = _ from HKRr.out)
          have hW2 : W.heap.size ≤ w2.heap.size := Nat.le_trans hWr B2.size
          clear hO2 hG2 hg2
          refine hK.out _ _ (⟨(B2.cell (p := ⟨w.heap.size + 1, 3, none⟩) (show w.heap.size + 1 < W.heap.size by omega)).trans t3, (B2.cell (p := ⟨b, off + k, none⟩) (show b < W.heap.size by omega)).trans hyd⟩) (fun hHeld => ?_)
          clear hK K
          refine wpS_next (S' := fun w' => True) 8 10 hTb (by decide) (trivial) (fun hHeld => ?_)
          refine tks 8 8 118 hTb hHeld ?_
          refine cls 9 9 hTb (by decide) rfl rfl (fun K hK => ?_)
          obtain ⟨s0, s1, s2, s3⟩ := tx4 HKT2.out
          obtain ⟨sz, sl⟩ := box8z HKT2.out
          go_simp
          refine hK.out _ _ (trivial) (fun hHeld => ?_)
          clear hK K
          refine wpS_end hTb ?_
          clear s0 s1 s2 s3 sz sl t0 t1 t2 t3
          have HKT3 : Hid ((w2.setCell ⟨w.heap.size + 1, 3, none⟩ (.slice da dn dc)).heap[w.heap.size + 1]? = some (.cells #[.int .i64 5, .int .i64 i, .int .i64 0, .slice da dn dc] 59 (0, 0))) := box_set (i := 3) (v := .slice da dn dc) HKT2.out
          have HKR3 : Hid ((w2.setCell ⟨w.heap.size + 1, 3, none⟩ (.slice da dn dc)).heap[w.heap.size]? = some (.cells #[.int .i64 0, .int .i64 0, .int .i64 0, .slice none 0 0] 59 (0, 0))) := box_other (k := w.heap.size + 1) (i := 3) (v := .slice da dn dc) HKR2.out (by omega)
          have HB3 : Hid (Below w.heap.size w (w2.setCell ⟨w.heap.size + 1, 3, none⟩ (.slice da dn dc))) := HBw.out.setCell (p := ⟨w.heap.size + 1, 3, none⟩) (by simp) _
          have HO3 : Hid (OwnB (w2.setCell ⟨w.heap.size + 1, 3, none⟩ (.slice da dn dc)) W.heap.size (.slice da dn dc) (acc ++ [y])) := (HO2.out.toRow.set (.inl (by omega))).own
          have hs3 : W.heap.size ≤ (w2.setCell ⟨w.heap.size + 1, 3, none⟩ (.slice da dn dc)).heap.size := by simp only [box_size]; omega
          go_upto_region 27 with fail
          generalize (w2.setCell ⟨w.heap.size + 1, 3, none⟩ (.slice da dn dc)) = w3 at HKT3 HKR3 HB3 HO3 hs3 ⊢
          clear HKT2 HKR2 HB2 HBw HO2 HAB HCA
          obtain ⟨t0, t1, t2, t3⟩ := tx4 HKT3.out
          obtain ⟨tz, tl⟩ := box8z HKT3.out
          go_wp2_with fail
          refine (l3text_any _ (acc ++ [y]) w3 HO3.out.bs).mono ?_
          rintro e w9 ⟨rfl, hw9⟩
          obtain rfl := hw9.symm
          clear t0 t1 t2 t3 tz tl
          cases hb : textB (acc ++ [y]) with
          | true =>
            have HTB : Hid (textB (acc ++ [y]) = true) := hb
            clear hb
            go_wp2
            go_roundw
            case rel => exact ⟨k + 1, acc ++ [y], da, dn, dc, by omega, by omega, by go_num, HTX, HTB, HO3, HB3, HKR3, HKT3, hs3⟩
            case measure => simp [intOf]; omega
          | false =>
            have HTB : Hid (textB (acc ++ [y]) = false) := hb
            clear hb
            obtain ⟨r0, r1, r2, r3⟩ := tx4 HKR3.out
            obtain ⟨t0, t1, t2, t3⟩ := tx4 HKT3.out
            obtain ⟨rz, rl⟩ := box8z HKR3.out
            obtain ⟨tz, tl⟩ := box8z HKT3.out
            have HF : Hid _ := tok_fin (w := w) HKR3.out (Nat.le_refl _) HB3.out (.int .i64 5) (.int .i64 i) (.int .i64 0) (.slice da dn dc)
            go_wp2
            obtain ⟨f0, f1, f2, f3⟩ := tx4 HF.out.1
            refine bodyPost_ret (v := .tuple #[.agg #[.int .i64 5, .int .i64 i, .int .i64 0, .slice da dn dc], .int .i64 (-1)]) (by simp [results, Tryd.results51, go_sem, f0, f1, f2, f3]) rfl ⟨HF.out.2.1, ?_⟩
            have hr := HRES.out
            rw [HXI.out] at hr
            simp only [oneM] at hr
            rw [if_neg (by decide), if_pos trivial] at hr
            have hno := text_bad (i := (i : Int)) (HTX.out) HTB.out
            have hr := hr.trans hno
            subst hr
            exact ⟨_, _, _, _, _, _, rfl⟩
    · obtain rfl : k = l.length := by omega
      have HDR : Hid (l.drop l.length = []) := by simp [Hid]
      obtain ⟨r0, r1, r2, r3⟩ := tx4 HKRr.out
      obtain ⟨t0, t1, t2, t3⟩ := tx4 HKTr.out
      obtain ⟨rz, rl⟩ := box8z HKRr.out
      obtain ⟨tz, tl⟩ := box8z HKTr.out
      have HF : Hid _ := tok_fin (w := w) HKRr.out (Nat.le_refl _) HBr.out (.int .i64 5) (.int .i64 i) (.int .i64 0) (.slice va vn vc)
      go_wp2
      obtain ⟨f0, f1, f2, f3⟩ := tx4 HF.out.1
      refine bodyPost_ret (v := .tuple #[.agg #[.int .i64 5, .int .i64 i, .int .i64 0, .slice va vn vc], .int .i64 (-1)]) (by simp [results, Tryd.results51, go_sem, f0, f1, f2, f3]) rfl ⟨HF.out.2.1, ?_⟩
      have hr := HRES.out
      rw [HXI.out] at hr
      simp only [oneM] at hr
      rw [if_neg (by decide), if_pos trivial] at hr
      rw [HTX0.out, HDR.out] at hr
      simp only [textM, Option.map_none] at hr
      subst hr
      exact ⟨_, _, _, _, _, _, rfl⟩
end Go.Proofs.YtlegmiaoablcgaaDoor

/- A list of the call's own, and one element more put behind it. -/
namespace Go.Proofs.YtlegmiaoablcgaaDoor
open Go.RowKit

/-- The list as a row of cells, with what its elements lead to. -/
theorem Ow.row {α : Type} {t : TypeId} {sz : Nat} {E : World → List Value → α → (Nat → Prop) → Prop} {w : World} {B M : Nat} {v : Value} {l : List α} (h : Ow t sz E w (In B M) v l) :
    ∃ (xs : List Value) (cs : Nat → List Value) (fs : Nat → Nat → Prop), w.ownsRow B t sz v l.length xs ∧ (∀ g, v.ownBlock = some g → g < M) ∧
      (∀ i x, l[i]? = some x → E w (cs i) x (fs i) ∧ (cs i).length = sz ∧ ∀ j u, (cs i)[j]? = some u → xs[i * sz + j]? = some u) ∧
      (∀ i b, i < l.length → fs i b → In B M b ∧ v.ownBlock ≠ some b) ∧ (∀ i j b, i < l.length → j < l.length → i ≠ j → fs i b → ¬ fs j b) := by
  rcases h with ⟨rfl, rfl⟩ | ⟨g, cap, cur, cs, fs, rfl, hh, h1, h2, h3, h4, h5, h6, h7⟩
  · exact ⟨[], fun _ => [], fun _ _ => False, ⟨by simp, .inl ⟨rfl, rfl⟩⟩, fun g hg => by simp [Value.ownBlock] at hg, by simp, by simp, by simp⟩
  · have hle : l.length * sz ≤ cur.size := by rw [h3]; exact Nat.mul_le_mul_right _ h1
    refine ⟨cur.toList.take (l.length * sz), cs, fs, ⟨by simp; omega, .inr ⟨g, cap, cur, rfl, h4.1, hh, h1, h2, h3, rfl⟩⟩, fun q hq => ?_, fun i x hx => ?_, fun i b hi hb => ⟨(h6 i b hi hb).1, ?_⟩, h7⟩
    · simp only [Value.ownBlock, Option.some.injEq] at hq
      subst hq
      exact h4.2
    · have hi : i < l.length := (List.getElem?_eq_some_iff.1 hx).1
      obtain ⟨e1, e2, e3⟩ := h5 i x hx
      refine ⟨e1, e2, fun j u hu => ?_⟩
      have hj : j < sz := by have := (List.getElem?_eq_some_iff.1 hu).1; omega
      have hb : i * sz + j < l.length * sz := by
        have := Nat.mul_le_mul_right sz (show i + 1 ≤ l.length by omega)
        rw [Nat.add_mul, Nat.one_mul] at this
        omega
      rw [List.getElem?_take, if_pos hb]
      simpa using e3 j u hu
    · simp only [Value.ownBlock, ne_eq, Option.some.injEq]
      exact fun e => (h6 i b hi hb).2 e.symm

/-- One element more: its cells stand behind the row, its footprint lies behind the list's. -/
theorem Ow.push {α : Type} {t : TypeId} {sz : Nat} {E : World → List Value → α → (Nat → Prop) → Prop} {w w' : World} {B M : Nat} {v v' : Value} {l : List α} (hE : Frames E) (h : Ow t sz E w (In B M) v l) (hM : M ≤ w.heap.size) (hBM : B ≤ M)
    (x : α) (c : List Value) (hc : c.length = sz) (he : E w c x (In M w.heap.size))
    (hr : ∀ xs, w.ownsRow B t sz v l.length xs → w'.ownsRow B t sz v' (l.length + 1) (xs ++ c)) (hg : w.grownBy w' v.ownBlock)
    (hn : ∀ g, v'.ownBlock = some g → v.ownBlock = some g ∨ w.heap.size ≤ g) : Ow t sz E w' (In B w'.heap.size) v' (l ++ [x]) := by
  obtain ⟨xs, cs, fs, r1, r2, r3, r4, r5⟩ := h.row
  have hlen := r1.1
  obtain ⟨k1, k2 | ⟨g, cap, cur, k3, k4, k5, k6, k7, k8, k9⟩⟩ := hr xs r1
  · exfalso
    have := k2.2
    omega
  · have hgl := lt_of_heap k5
    have hlw := hg.size
    have hgo : ∀ b, b < w.heap.size → v.ownBlock ≠ some b → w'.heap[b]? = w.heap[b]? := fun b hb hne => hg.block b hb fun e => hne e.symm
    refine .inr ⟨g, cap, cur, fun i => if i = l.length then c else cs i, fun i => if i = l.length then In M w.heap.size else fs i, ?_, k5, ?_, k7, k8, ⟨k4, hgl⟩, fun i y hy => ?_, fun i b hi hb => ?_, fun i j b hi hj hij hb hb' => ?_⟩
    · rw [k3]; simp
    · simpa using k6
    · have hxs : ∀ (m : Nat) (u : Value), (xs ++ c)[m]? = some u → cur[m]? = some u := by
        intro m u hu
        rw [← k9, List.getElem?_take] at hu
        split at hu
        · simpa using hu
        · cases hu
      by_cases hi : i = l.length
      · subst hi
        rw [List.getElem?_append_right (Nat.le_refl _)] at hy
        simp only [Nat.sub_self, List.getElem?_cons_zero, Option.some.injEq] at hy
        subst hy
        simp only [if_true]
        refine ⟨hE _ _ _ _ _ he fun b hb hlt => hgo b hlt fun e => ?_, hc, fun j u hu => hxs _ _ ?_⟩
        · have := r2 b e
          have := hb.1
          omega
        · rw [List.getElem?_append_right (by omega), hlen]
          simpa using hu
      · have hi' : i < l.length := by
          have := (List.getElem?_eq_some_iff.1 hy).1
          simp at this
          omega
        rw [List.getElem?_append_left hi'] at hy
        simp only [if_neg hi]
        obtain ⟨e1, e2, e3⟩ := r3 i y hy
        refine ⟨hE _ _ _ _ _ e1 fun b hb hlt => hgo b hlt (r4 i b hi' hb).2, e2, fun j u hu => hxs _ _ ?_⟩
        have h := e3 j u hu
        have hm : i * sz + j < xs.length := (List.getElem?_eq_some_iff.1 h).1
        rw [List.getElem?_append_left hm]
        exact h
    · simp only [List.length_append, List.length_cons, List.length_nil] at hi
      by_cases hil : i = l.length
      · simp only [if_pos hil] at hb
        refine ⟨⟨by have := hb.1; omega, by have := hb.2; omega⟩, fun e => ?_⟩
        subst e
        rcases hn b (by rw [k3]; rfl) with h | h
        · have := r2 b h
          have := hb.1
          omega
        · have := hb.2
          omega
      · simp only [if_neg hil] at hb
        have hi' : i < l.length := by omega
        obtain ⟨q1, q2⟩ := r4 i b hi' hb
        refine ⟨⟨q1.1, by have := q1.2; omega⟩, fun e => ?_⟩
        subst e
        rcases hn b (by rw [k3]; rfl) with h | h
        · exact q2 h
        · have := q1.2
          omega
    · simp only [List.length_append, List.length_cons, List.length_nil] at hi hj
      by_cases hil : i = l.length
      · have hjl : j ≠ l.length := fun e => hij (hil.trans e.symm)
        simp only [if_pos hil] at hb
        simp only [if_neg hjl] at hb'
        have := (r4 j b (by omega) hb').1.2
        have := hb.1
        omega
      · simp only [if_neg hil] at hb
        by_cases hjl : j = l.length
        · simp only [if_pos hjl] at hb'
          have := (r4 i b (by omega) hb).1.2
          have := hb'.1
          omega
        · simp only [if_neg hjl] at hb'
          exact r5 i j b (by omega) (by omega) hij hb hb'

end Go.Proofs.YtlegmiaoablcgaaDoor

/- One element more put behind a list of the call's own: the operation. -/
namespace Go.Proofs.YtlegmiaoablcgaaDoor
open Go.RowKit

section
variable {α : Type} {P : Program} {w : World} {e t : TypeId} {sz bytes B M : Nat} {E : World → List Value → α → (Nat → Prop) → Prop} {v : Value} {l : List α}
theorem run_push (hE : Frames E) (h : Ow e sz E w (In B M) v l) (hM : M ≤ w.heap.size) (hBM : B ≤ M) (ty : TypeId) {i : TypeInfo} {z : Value} (ht : P.underlying t = some (.slice e)) (hi : P.info? e = some i) (hz : i.zero = some z) (hsize : i.size = sz) (hby : i.bytes = bytes) (hzs : z.cells.size = sz) (hsz : 0 < sz)
    (x : α) (c : List Value) (hc : c.length = sz) (he : E w c x (In M w.heap.size)) (ad : Addr) (cc : Nat) (hcell : ∀ j u, c[j]? = some u → w.cell? (ad.add j) = some u) (h1 : ∀ u ∈ c, u.oneCell' = true) (hl : l.length + 1 ≤ maxLen) (hb : (l.length + 1) * bytes ≤ 140737488355328) :
    ∃ v' w', (Builtin.append_ #[t, t] ty #[v, .slice (some ad) 1 cc]).run P w = .ok v' w' ∧ Ow e sz E w' (In B w'.heap.size) v' (l ++ [x]) ∧ w.grownBy w' v.ownBlock ∧ (∀ g, v.ownBlock = some g → B ≤ g ∧ g < M) := by
  obtain ⟨xs, cs, fs, r1, r2, r3, r4, r5⟩ := h.row
  obtain ⟨v', w', hr, h2, h3, h4, h5⟩ := run_append_own_at (P := P) w B t ty e i z sz bytes ht hi hz hsize hby hzs hsz v l.length xs r1 ad 1 cc c (by omega) hcell h1 hl hb (by omega)
  refine ⟨v', w', hr, h.push hE hM hBM x c hc he (fun ys hys => ?_) h3 (fun g hg => ?_), h3, fun g hg => ⟨?_, r2 g hg⟩⟩
  · obtain ⟨k1, k2⟩ := hys
    obtain ⟨m1, m2⟩ := r1
    have e : ys = xs := by
      rcases k2 with ⟨k3, k4⟩ | ⟨g, cap, cur, k3, k4, k5, k6, k7, k8, k9⟩
      · rw [k4, Nat.zero_mul, List.length_eq_zero_iff] at k1
        rw [k4, Nat.zero_mul, List.length_eq_zero_iff] at m1
        rw [k1, m1]
      · rcases m2 with ⟨m3, m4⟩ | ⟨g', cap', cur', m3, m4, m5, m6, m7, m8, m9⟩
        · rw [m3] at k3
          cases k3
        · rw [m3] at k3
          simp only [Value.slice.injEq, Option.some.injEq, Addr.mk.injEq] at k3
          obtain ⟨⟨rfl, -⟩, -⟩ := k3
          rw [m5] at k5
          simp only [Option.some.injEq, Obj.cells.injEq] at k5
          obtain ⟨rfl, -⟩ := k5
          rw [← k9, ← m9]
    rw [e]
    exact h2
  · rcases h5 with h5 | h5
    · exact .inl (h5 ▸ hg)
    · rw [h5] at hg
      exact .inr (by simp only [Option.some.injEq] at hg; omega)
  · obtain ⟨m1, m2⟩ := r1
    rcases m2 with ⟨m3, m4⟩ | ⟨g', cap', cur', m3, m4, m5, m6, m7, m8, m9⟩
    · rw [m3] at hg
      simp [Value.ownBlock] at hg
    · rw [m3] at hg
      simp only [Value.ownBlock, Option.some.injEq] at hg
      omega
/-- The operation in a region that draws. -/
theorem wp_push {o : Oper} {a : Act} {K : Act → World → Prop} {Q : Exit → Act → World → Prop} (d : Nat) (hd : o.dst = some d) (s y : Operand)
    (ho : o.op = .call { callee := .builtin .append, args := #[s, y], argTypes := #[t, t] }) (hE : Frames E) (h : Ow e sz E w (In B M) v l) (hM : M ≤ w.heap.size) (hBM : B ≤ M) {i : TypeInfo} {z : Value} (ht : P.underlying t = some (.slice e)) (hi : P.info? e = some i) (hz : i.zero = some z) (hsize : i.size = sz) (hby : i.bytes = bytes) (hzs : z.cells.size = sz) (hsz : 0 < sz)
    (hs : a.eval s = v) (x : α) (c : List Value) (hc : c.length = sz) (he : E w c x (In M w.heap.size)) (ad : Addr) (cc : Nat) (hy : a.eval y = .slice (some ad) 1 cc) (hcell : ∀ j u, c[j]? = some u → w.cell? (ad.add j) = some u) (h1 : ∀ u ∈ c, u.oneCell' = true) (hl : l.length + 1 ≤ maxLen) (hb : (l.length + 1) * bytes ≤ 140737488355328)
    (k : ∀ v' w', Ow e sz E w' (In B w'.heap.size) v' (l ++ [x]) → w.grownBy w' v.ownBlock → (∀ g, v.ownBlock = some g → B ≤ g ∧ g < M) → K (a.put (some d) v') w') : o.wp P a w K Q := by
  obtain ⟨v', w', hr, h2, h3, h4⟩ := run_push (P := P) (t := t) hE h hM hBM o.type ht hi hz hsize hby hzs hsz x c hc he ad cc hcell h1 hl hb
  unfold Oper.wp execOp
  simp only [ho, resolve, invoke, builtin, Sem.run_bind, Sem.run_pure, Result.andThen_ok, List.map_toArray, List.map_cons, List.map_nil, hs, hy, hr]
  have := k v' w' h2 h3 h4
  rw [← hd] at this
  exact this
/-- The operation in a region that goes in the text's order. -/
theorem wpList_push {ops : Array Oper} {rest : List Oper} {o : Oper} {a : Act} {Q : Exit → Act → World → Prop} (hgd : o.guard = none) (s y : Operand)
    (ho : o.op = .call { callee := .builtin .append, args := #[s, y], argTypes := #[t, t] }) (hE : Frames E) (h : Ow e sz E w (In B M) v l) (hM : M ≤ w.heap.size) (hBM : B ≤ M) {i : TypeInfo} {z : Value} (ht : P.underlying t = some (.slice e)) (hi : P.info? e = some i) (hz : i.zero = some z) (hsize : i.size = sz) (hby : i.bytes = bytes) (hzs : z.cells.size = sz) (hsz : 0 < sz)
    (hs : a.eval s = v) (x : α) (c : List Value) (hc : c.length = sz) (he : E w c x (In M w.heap.size)) (ad : Addr) (cc : Nat) (hy : a.eval y = .slice (some ad) 1 cc) (hcell : ∀ j u, c[j]? = some u → w.cell? (ad.add j) = some u) (h1 : ∀ u ∈ c, u.oneCell' = true) (hl : l.length + 1 ≤ maxLen) (hb : (l.length + 1) * bytes ≤ 140737488355328)
    (k : ∀ v' w', Ow e sz E w' (In B w'.heap.size) v' (l ++ [x]) → w.grownBy w' v.ownBlock → (∀ g, v.ownBlock = some g → B ≤ g ∧ g < M) → wpList P ops Q rest (a.put o.dst v') w') : wpList P ops Q (o :: rest) a w := by
  refine wpList_plain hgd fun K hK => ?_
  obtain ⟨v', w', hr, h2, h3, h4⟩ := run_push (P := P) (t := t) hE h hM hBM o.type ht hi hz hsize hby hzs hsz x c hc he ad cc hcell h1 hl hb
  unfold Oper.wp execOp
  simp only [ho, resolve, invoke, builtin, Sem.run_bind, Sem.run_pure, Result.andThen_ok, List.map_toArray, List.map_cons, List.map_nil, hs, hy, hr]
  exact hK _ _ (k v' w' h2 h3 h4)
end
theorem ite_w {c : Bool} {A B : Prop} (hc : c = true) (h : A) : if c = true then A else B := by rw [if_pos hc]; exact h
/-- What is new by one element stands in its block. -/
theorem cells_new (w : World) (cs : Array Value) (t : TypeId) : ∀ j u, cs.toList[j]? = some u → (w.alloc (.cells cs t)).cell? ((⟨w.heap.size, 0, none⟩ : Addr).add j) = some u := by
  intro j u hu
  have h := box_new w (.cells cs t)
  rw [Addr.add_lit, Nat.zero_add, cell_of_row _ _ _ _ _ (0, 0) h]
  simpa using hu
/-- What lies below the list stays. -/
theorem grown_below {w0 w w' : World} {v : Value} {N B : Nat} (h0 : Below N w0 w) (hg : w.grownBy w' v.ownBlock) (hv : ∀ g, v.ownBlock = some g → B ≤ g) (hB : N ≤ B) (hN : N ≤ w.heap.size) : Below N w0 w' :=
  ⟨hg.os.trans h0.os, hg.tape.trans h0.tape, hg.output.trans h0.output, Nat.le_trans h0.size hg.size, fun k hk => (hg.block k (by omega) fun e => by have := hv k e.symm; omega).trans (h0.block k hk)⟩
theorem grown_at {w w' : World} {v : Value} {B g : Nat} {o : Obj} (hg : w.grownBy w' v.ownBlock) (hv : ∀ g, v.ownBlock = some g → B ≤ g) (h : w.heap[g]? = some o) (hB : g < B) : w'.heap[g]? = some o :=
  (hg.block g (lt_of_heap h) fun e => by have := hv g e.symm; omega).trans h

end Go.Proofs.YtlegmiaoablcgaaDoor

/- What l4one and l4lex of package spec do. -/
namespace Go.Proofs.YtlegmiaoablcgaaDoor
open Go.RowKit
set_option maxRecDepth 100000
set_option linter.unusedVariables false
set_option linter.unusedSimpArgs false

theorem l4one_r (v : Value) (l : List Int) (i : Nat) (w : World) (hv : Bs w v l) (hil : i < l.length) (hl : l.length ≤ 2000) :
    Calls Tryd.prog 51 #[v, .int .i64 i] w (OneP w l (oneM i (l.drop i))) := by
  by_cases h1 : l.getD i 0 = 40
  · exact l4one_fl v l i w hv hil hl h1
  · by_cases h2 : l.getD i 0 = 34
    · exact l4one_tx v l i w hv hil hl h2
    · exact l4one_pc v l i w hv hil hl h1 h2

theorem flagsM_suf : ∀ (ls : List Int) (v n : Int) (r : List Int), (flagsM ls v n r).2 <:+ r
  | [], _, _, r => List.suffix_refl r
  | x :: ls, v, n, [] => by rw [fl_end]; exact flagsM_suf ls _ _ _
  | x :: ls, v, n, y :: q => by
    by_cases h : y = x
    · rw [fl_hit h]; exact (flagsM_suf ls _ _ q).trans (List.suffix_cons y q)
    · rw [fl_miss h]; exact flagsM_suf ls _ _ _
theorem textM_suf : ∀ (n : Nat) (r : List Int), r.length ≤ n → ∀ p, textM r = some p → p.2 <:+ r
  | _, [], _, p, h => by simp [textM] at h
  | 0, _ :: _, hn, _, _ => by simp at hn
  | n + 1, x :: r, hn, p, h => by
    rw [textM_cons] at h
    split at h
    · cases h; exact List.suffix_cons x r
    · split at h
      · cases r with
        | nil => simp at h
        | cons y q =>
          simp only at h
          split at h
          · cases hq : textM q with
            | none => rw [hq] at h; cases h
            | some p' =>
              rw [hq] at h
              cases h
              exact ((textM_suf n q (by simp at hn; omega) p' hq).trans (List.suffix_cons y q)).trans (List.suffix_cons x _)
          · cases h
      · cases hq : textM r with
        | none => rw [hq] at h; cases h
        | some p' =>
          rw [hq] at h
          cases h
          exact (textM_suf n r (by simpa using hn) p' hq).trans (List.suffix_cons x _)
theorem oneM_suf {i : Int} {s : List Int} {p : TokD × List Int} (h : oneM i s = some p) : p.2 <:+ s ∧ p.1.p = i := by
  cases s with
  | nil => simp [oneM] at h
  | cons x r =>
    simp only [oneM] at h
    split at h
    · split at h
      · rename_i y q hq
        split at h
        · cases h
          have := flagsM_suf lettersM 1 0 r
          rw [hq] at this
          exact ⟨((List.suffix_cons y q).trans this).trans (List.suffix_cons x r), rfl⟩
        · cases h
      · cases h
    · split at h
      · split at h
        · rename_i p' hp
          split at h
          · cases h
            exact ⟨(textM_suf r.length r (Nat.le_refl _) p' hp).trans (List.suffix_cons x r), rfl⟩
          · cases h
        · cases h
      · split at h
        · cases h
          exact ⟨List.dropWhile_suffix _, rfl⟩
        · split at h
          · cases h; exact ⟨List.dropWhile_suffix _, rfl⟩
          · split at h
            · cases h; exact ⟨List.dropWhile_suffix _, rfl⟩
            · cases h
def preM (ts : List TokD) : Except Int (List TokD) → Except Int (List TokD)
  | .ok rs => .ok (ts ++ rs)
  | .error e => .error e
theorem oneM_less {i : Int} {s : List Int} {p : TokD × List Int} (h : oneM i s = some p) : p.2.length < s.length := by
  cases s with
  | nil => simp [oneM] at h
  | cons x r =>
    simp only [oneM] at h
    split at h
    · split at h
      · rename_i y q hq
        split at h
        · cases h
          have := (flagsM_suf lettersM 1 0 r).length_le
          rw [hq] at this
          simp at this ⊢
          omega
        · cases h
      · cases h
    · split at h
      · split at h
        · rename_i p' hp
          split at h
          · cases h
            have := (textM_suf r.length r (Nat.le_refl _) p' hp).length_le
            simp at this ⊢
            omega
          · cases h
        · cases h
      · have key : 0 < ((x :: r).takeWhile ldB).length → ((x :: r).dropWhile ldB).length < (x :: r).length := by
          intro h0
          have h1 : ((x :: r).takeWhile ldB).length + ((x :: r).dropWhile ldB).length = (x :: r).length := by rw [← List.length_append, List.takeWhile_append_dropWhile]
          omega
        split at h
        · rename_i n hn
          cases h
          refine key ?_
          rw [← (numM_some.1 hn).2]
          exact List.length_pos_iff.2 (digB_ne n)
        · split at h
          · rename_i hb
            cases h
            exact key (nameB_len hb).1
          · split at h
            · rename_i hg
              cases h
              refine key ?_
              unfold greatB at hg
              simp only [Bool.and_eq_true, decide_eq_true_eq] at hg
              exact hg.2
            · cases h
theorem preM_nil (r : Except Int (List TokD)) : preM [] r = r := by cases r <;> rfl
theorem preM_snoc (ts : List TokD) (t : TokD) (r : Except Int (List TokD)) : preM (ts ++ [t]) r = preM ts (match r with | .ok rs => .ok (t :: rs) | .error e => .error e) := by cases r <;> simp [preM]
/-- A row of bytes in blocks of a set. -/
def RB (w : World) (S : Nat → Prop) (v : Value) (l : List Int) : Prop := Oct l ∧ w.ownsRow 0 5 1 v l.length (vals l) ∧ ∀ g, v.ownBlock = some g → S g
theorem Row.rb {w : World} {B T : Nat} {v : Value} {l : List Int} (h : Row w B T v l) : RB w (In B T) v l :=
  ⟨h.1, (h.wide (B' := 0) (T' := T) (Nat.zero_le _) (Nat.le_refl _)).2.1, fun g hg => ⟨(h.2.1.lt g hg).1, h.2.2 g hg⟩⟩
theorem RB.bs {w : World} {S : Nat → Prop} {v : Value} {l : List Int} (h : RB w S v l) : Bs w v l := (own_of_row h.1 rfl h.2.1).elim fun _ h => h.2.bs
theorem RB.frame {w w' : World} {S : Nat → Prop} {v : Value} {l : List Int} (h : RB w S v l) (hw : ∀ b, S b → b < w.heap.size → w'.heap[b]? = w.heap[b]?) : RB w' S v l := by
  obtain ⟨h0, ⟨h1, h2⟩, h3⟩ := h
  refine ⟨h0, ⟨h1, ?_⟩, h3⟩
  rcases h2 with h2 | ⟨g, cap, cur, hv, hg, hh, r⟩
  · exact .inl h2
  · exact .inr ⟨g, cap, cur, hv, hg, (hw g (h3 g (by rw [hv]; rfl)) (lt_of_heap hh)).trans hh, r⟩
def TokE (w : World) (c : List Value) (t : TokD) (S : Nat → Prop) : Prop := ∃ a n k, c = [.int .i64 t.k, .int .i64 t.p, .int .i64 t.n, .slice a n k] ∧ RB w S (.slice a n k) t.tx
theorem framesTok : Frames TokE := fun _ _ _ _ _ h hw => let ⟨a, n, k, h0, h1⟩ := h; ⟨a, n, k, h0, h1.frame hw⟩
abbrev ToksO := Ow 59 4 TokE
theorem infoTok : (Tryd.prog.info? 59).map (fun i => (i.zero, i.size, i.bytes)) = some (some (.agg #[.int .i64 0, .int .i64 0, .int .i64 0, .slice none 0 0]), 4, 48) := by kernel_rfl
theorem one_tok {a : Option Addr} {n c : Nat} {i j k : Int} : ∀ u ∈ [Value.int .i64 i, .int .i64 j, .int .i64 k, .slice a n c], Value.oneCell' u = true := by
  intro u hu
  simp only [List.mem_cons, List.not_mem_nil, or_false] at hu
  rcases hu with rfl | rfl | rfl | rfl <;> rfl
theorem tok_form {w : World} {S : Nat → Prop} {v : Value} {ts : List TokD} (h : ToksO w S v ts) : ∃ a n c, v = .slice a n c := by
  rcases h with ⟨h, -⟩ | ⟨g, cap, cur, cs, fs, h, -⟩
  · exact ⟨_, _, _, h⟩
  · exact ⟨_, _, _, h⟩
/-- What l4lex answers. -/
def LexP (w : World) (r : Except Int (List TokD)) (e : Ending) (w' : World) : Prop := Below w.heap.size w w' ∧ match r with
  | .error p => e = .returned (.tuple #[.slice none 0 0, .int .i64 p]) ∧ 0 ≤ p
  | .ok ts => ∃ a n c, e = .returned (.tuple #[.slice a n c, .int .i64 (-1)]) ∧ ToksO w' (In w.heap.size w'.heap.size) (.slice a n c) ts

set_option maxRecDepth 100000 in
set_option maxHeartbeats 2000000 in
theorem l4lex_r (v : Value) (l : List Int) (w : World) (hv : Bs w v l) (hl : l.length ≤ 2000) :
    Calls Tryd.prog 26 #[v] w (LexP w (lexM (l.length + 1) 0 l)) := by
  obtain ⟨res, hres⟩ : ∃ res, res = lexM (l.length + 1) 0 l := ⟨_, rfl⟩
  have HRES : Hid (res = lexM (l.length + 1) 0 l) := hres
  rw [← hres]
  clear hres
  have HV : Hid (∀ w', Below w.heap.size w w' → Bs w' v l) := fun w' h => hv.below h
  obtain ⟨ho, a, cap, rfl, hlc, hcm, hnil, hcells⟩ := hv
  unfold maxLen at hcm
  have HCC : Hid (∀ k, k < l.length → ∃ b off, a = some ⟨b, off, none⟩ ∧ b < w.heap.size ∧ w.cell? ⟨b, off + k, none⟩ = some (.int .u8 (l.getD k 0))) := fun k hk => let ⟨b, off, e, h1, h2⟩ := hcells (by omega); ⟨b, off, e, h1, h2 k hk⟩
  have HO : Hid (Oct l) := ho
  obtain ⟨i0, hi, hz0, hz1, hz2⟩ := info_parts infoTok
  clear hcells
  go_enter Tryd.func26, Tryd.ntmps26
  go_wp2
  go_loopw [4, 5] (fun ov iv wr => ∃ (k f : Nat) (ts : List TokD) (va : Option Addr) (vn vc : Nat), k ≤ l.length ∧ l.length - k < f ∧ ts.length ≤ k ∧ iv = .int .i64 k ∧ ov = .slice va vn vc ∧ Hid (res = preM ts (lexM f k (l.drop k))) ∧ Hid (ToksO wr (In w.heap.size wr.heap.size) (.slice va vn vc) ts) ∧ Hid (Below w.heap.size w wr)) (fun _ iv _ => l.length - (intOf iv).toNat)
  case atStart => exact ⟨0, l.length + 1, [], none, 0, 0, Nat.zero_le _, by omega, Nat.zero_le _, rfl, rfl, by show _ = _; rw [preM_nil]; exact HRES.out, .inl ⟨rfl, rfl⟩, Below.refl _ _⟩
  case round =>
    obtain ⟨k, f, ts, va, vn, vc, hk, hf, htl, rfl, rfl, HR, HT, HBr⟩ := hrel
    have hwr := HBr.out.size
    by_cases hlt : k < l.length
    · obtain ⟨b, off, rfl, hlb, hyc⟩ := HCC.out k hlt
      have hyo := oct_get HO.out k
      have HDR : Hid (l.drop k = l.getD k 0 :: l.drop (k + 1)) := drop_cons hlt
      have hki : (k : Int) < (l.length : Int) := by omega
      obtain ⟨f', rfl⟩ : ∃ f', f = f' + 1 := ⟨f - 1, by omega⟩
      generalize l.getD k 0 = y at hyc hyo HDR
      have hyr : wr.cell? ⟨b, off + k, none⟩ = some (.int .u8 y) := (HBr.out.cell (p := ⟨b, off + k, none⟩) hlb).trans hyc
      have hlbr : b < wr.heap.size := by omega
      by_cases hy : y = 32
      · subst hy
        have HR2 : Hid (res = preM ts (lexM f' ((k + 1 : Nat) : Int) (l.drop (k + 1)))) := by
          show _ = _
          rw [HR.out, HDR.out, lexM, if_pos rfl]
          rfl
        go_wp2
        go_roundw
        case rel => exact ⟨k + 1, f', ts, va, vn, vc, by omega, by omega, by omega, by go_num, rfl, HR2, HT, HBr⟩
        case measure => simp [intOf]; omega
      · have hy1 : (y == 32) = false := by simp [hy]
        have HRL : Hid (lexM (f' + 1) k (l.drop k) = match oneM k (l.drop k) with
            | none => .error (k : Int)
            | some p => match lexM f' (k + ((l.drop k).length - p.2.length)) p.2 with
              | .ok ts => .ok (p.1 :: ts)
              | .error e => .error e) := by
          show _ = _
          rw [HDR.out, lexM, if_neg hy]
          rfl
        go_wp2_with fail
        refine (l4one_r _ l k wr (HV.out wr HBr.out) hlt hl).mono ?_
        rintro e w1 ⟨B1, hP⟩
        have HB1 : Hid (Below w.heap.size w w1) := Below.step HBr.out B1
        cases hone : oneM k (l.drop k) with
        | none =>
          rw [hone] at hP
          obtain ⟨d0, d1, d2, ua, un, uc, rfl⟩ := hP
          have HRE : Hid (res = .error (k : Int)) := by
            show _ = _
            rw [HR.out, HRL.out, hone]
            rfl
          have HBF : Hid (Below w.heap.size w (w1.alloc (.cells #[.int .i64 d0, .int .i64 d1, .int .i64 d2, .slice ua un uc] 59))) := HB1.out.alloc (by have := HB1.out.size; omega) _
          clear B1 hone
          go_wp2
          go_ret2
          rw [HRE.out]
          exact ⟨HBF.out, rfl, by omega⟩
        | some p =>
          rw [hone] at hP
          obtain ⟨ua, un, uc, rfl, hrow, hpl⟩ := hP
          obtain ⟨hsuf, -⟩ := oneM_suf hone
          obtain ⟨K, hK⟩ : ∃ K, K = l.length - p.2.length := ⟨_, rfl⟩
          have hsl := hsuf.length_le
          rw [List.length_drop] at hsl
          have hp2 : p.2 = l.drop K := by rw [hK]; exact List.suffix_iff_eq_drop.1 (hsuf.trans (List.drop_suffix k l))
          have hlen : p.2.length < (l.drop k).length := oneM_less hone
          rw [List.length_drop] at hlen
          have HRN : Hid (res = preM (ts ++ [p.1]) (lexM f' (K : Int) (l.drop K))) := by
            show _ = _
            rw [preM_snoc, HR.out, HRL.out, hone]
            simp only
            rw [show (k : Int) + (((l.drop k).length : Int) - (p.2.length : Int)) = (K : Int) by rw [List.length_drop]; omega, ← hp2]
          have HTE : Hid (TokE w1 [.int .i64 p.1.k, .int .i64 p.1.p, .int .i64 p.1.n, .slice ua un uc] p.1 (In wr.heap.size w1.heap.size)) := ⟨ua, un, uc, rfl, hrow.rb⟩
          have HT1 : Hid (ToksO w1 (In w.heap.size wr.heap.size) (.slice va vn vc) ts) := Ow.below framesTok HT.out B1
          have hw1 : wr.heap.size ≤ w1.heap.size := B1.size
          rw [← hK]
          generalize hpk : p.1 = t at HRN HTE
          clear hrow hone HRL B1 hsuf hp2 hpl
          have A1 : Below w1.heap.size w1 ((w1.alloc (.cells #[.int .i64 t.k, .int .i64 t.p, .int .i64 t.n, .slice ua un uc] 59)).alloc (.cells #[.int .i64 t.k, .int .i64 t.p, .int .i64 t.n, .slice ua un uc] 59)) := ((Below.refl _ _).alloc (Nat.le_refl _) _).alloc (by simp) _
          have HA1 : Hid (Below w.heap.size w _) := Below.step HB1.out A1
          have HTE2 : Hid (TokE ((w1.alloc (.cells #[.int .i64 t.k, .int .i64 t.p, .int .i64 t.n, .slice ua un uc] 59)).alloc (.cells #[.int .i64 t.k, .int .i64 t.p, .int .i64 t.n, .slice ua un uc] 59)) [.int .i64 t.k, .int .i64 t.p, .int .i64 t.n, .slice ua un uc] t (In wr.heap.size ((w1.alloc (.cells #[.int .i64 t.k, .int .i64 t.p, .int .i64 t.n, .slice ua un uc] 59)).alloc (.cells #[.int .i64 t.k, .int .i64 t.p, .int .i64 t.n, .slice ua un uc] 59)).heap.size)) := by
            obtain ⟨a', n', k', e', hrb⟩ := framesTok _ _ _ _ _ HTE.out fun j _ hj => A1.block j hj
            exact ⟨a', n', k', e', hrb.1, hrb.2.1, fun g hg => ⟨(hrb.2.2 g hg).1, Nat.lt_of_lt_of_le (hrb.2.2 g hg).2 A1.size⟩⟩
          have HT2 : Hid (ToksO ((w1.alloc (.cells #[.int .i64 t.k, .int .i64 t.p, .int .i64 t.n, .slice ua un uc] 59)).alloc (.cells #[.int .i64 t.k, .int .i64 t.p, .int .i64 t.n, .slice ua un uc] 59)) (In w.heap.size wr.heap.size) (.slice va vn vc) ts) := Ow.below framesTok HT1.out A1
          have hM : wr.heap.size ≤ ((w1.alloc (.cells #[.int .i64 t.k, .int .i64 t.p, .int .i64 t.n, .slice ua un uc] 59)).alloc (.cells #[.int .i64 t.k, .int .i64 t.p, .int .i64 t.n, .slice ua un uc] 59)).heap.size := Nat.le_trans hw1 A1.size
          have hcn := cells_new (w1.alloc (.cells #[.int .i64 t.k, .int .i64 t.p, .int .i64 t.n, .slice ua un uc] 59)) #[.int .i64 t.k, .int .i64 t.p, .int .i64 t.n, .slice ua un uc] 59
          have hsz1 : (w1.alloc (.cells #[.int .i64 t.k, .int .i64 t.p, .int .i64 t.n, .slice ua un uc] 59)).heap.size = w1.heap.size + 1 := by simp
          rw [hsz1] at hcn
          have hp1 : ts.length + 1 ≤ maxLen := by unfold maxLen; omega
          have hp3 : (ts.length + 1) * 48 ≤ 140737488355328 := by omega
          have hKn : ¬ ((K : Int) < 0) := by omega
          clear A1 hsz1
          go_wp2_with (at_builtin; refine wpList_push rfl (.tmp 28) (.tmp 30) rfl framesTok (B := w.heap.size) (M := wr.heap.size) HT2.out hM hwr Tryd.underlying49 hi hz0 hz1 hz2 rfl (by omega) rfl t [.int .i64 t.k, .int .i64 t.p, .int .i64 t.n, .slice ua un uc] rfl HTE2.out ⟨w1.heap.size + 1, 0, none⟩ 1 rfl hcn one_tok hp1 hp3 ?_)
          intro DV w3 hO3 hG3 hg3
          obtain ⟨da, dn, dc, hDV⟩ := tok_form hO3
          subst hDV
          have HO3 : Hid (ToksO w3 (In w.heap.size w3.heap.size) (.slice da dn dc) (ts ++ [t])) := hO3
          have HB3 : Hid (Below w.heap.size w w3) := grown_below HA1.out hG3 (fun g hg => (hg3 g hg).1) (Nat.le_refl _) (by have := HA1.out.size; omega)
          clear hO3 hG3 hg3 hcn
          go_wp2
          go_roundw
          case rel => exact ⟨K, f', ts ++ [t], da, dn, dc, by omega, by omega, by simp; omega, by rw [hK], rfl, HRN, HO3, HB3⟩
          case measure => simp [intOf]; omega
    · obtain rfl : k = l.length := by omega
      have HRE : Hid (res = .ok ts) := by
        show _ = _
        rw [HR.out, List.drop_length]
        cases f <;> simp [lexM, preM]
      go_wp2
      go_ret2
      rw [HRE.out]
      exact ⟨HBr.out, va, vn, vc, rfl, HT.out⟩

end Go.Proofs.YtlegmiaoablcgaaDoor

/- What tokens may be, on lists. -/
namespace Go.Proofs.YtlegmiaoablcgaaDoor
open Go.RowKit

/-- A token as a line may have it. -/
def OkT (t : TokD) : Prop := 1 ≤ t.k ∧ t.k ≤ 5 ∧ 0 ≤ t.n ∧ t.n ≤ 1000000 ∧ t.tx.length ≤ 2000 ∧ Oct t.tx ∧ (t.k = 3 ∨ t.k = 4 → t.tx = [])
def capF : List Int → Int → Int
  | [], _ => 0
  | _ :: ls, v => v + capF ls (v * 2)
theorem flagsM_bd : ∀ (ls : List Int) (v n : Int) (r : List Int), 0 ≤ v → 0 ≤ capF ls v ∧ n ≤ (flagsM ls v n r).1 ∧ (flagsM ls v n r).1 ≤ n + capF ls v
  | [], v, n, r, h => by simp [flagsM, capF]
  | x :: ls, v, n, [], h => by
    have := flagsM_bd ls (v * 2) n [] (by omega)
    simp only [flagsM, capF]
    omega
  | x :: ls, v, n, y :: q, h => by
    have h1 := flagsM_bd ls (v * 2) (n + v) q (by omega)
    have h2 := flagsM_bd ls (v * 2) n (y :: q) (by omega)
    simp only [flagsM, capF]
    split <;> omega
theorem textM_oct : ∀ (n : Nat) (r : List Int), r.length ≤ n → Oct r → ∀ p, textM r = some p → Oct p.1 ∧ Oct p.2
  | _, [], _, _, p, h => by simp [textM] at h
  | 0, _ :: _, hn, _, _, _ => by simp at hn
  | n + 1, x :: r, hn, ho, p, h => by
    have hr : Oct r := fun z hz => ho z (by simp [hz])
    have hx : 0 ≤ x ∧ x ≤ 255 := ho x (by simp)
    rw [textM.eq_def] at h
    simp only at h
    split at h
    · cases h; exact ⟨oct_nil, hr⟩
    · split at h
      · cases r with
        | nil => simp at h
        | cons y q =>
          simp only at h
          split at h
          · cases hq : textM q with
            | none => rw [hq] at h; cases h
            | some p' =>
              rw [hq] at h
              cases h
              obtain ⟨a, b⟩ := textM_oct n q (by simp at hn; omega) (fun z hz => hr z (by simp [hz])) p' hq
              refine ⟨fun z hz => ?_, b⟩
              rcases List.mem_cons.1 hz with rfl | hz
              · exact hr z (by simp)
              · exact a z hz
          · cases h
      · cases hq : textM r with
        | none => rw [hq] at h; cases h
        | some p' =>
          rw [hq] at h
          cases h
          obtain ⟨a, b⟩ := textM_oct n r (by simpa using hn) hr p' hq
          refine ⟨fun z hz => ?_, b⟩
          rcases List.mem_cons.1 hz with rfl | hz
          · exact hx
          · exact a z hz
theorem oneM_ok {i : Int} {s : List Int} {p : TokD × List Int} (h : oneM i s = some p) (ho : Oct s) (hs : s.length ≤ 2000) : OkT p.1 := by
  have htw : (s.takeWhile ldB).length ≤ 2000 := Nat.le_trans (List.takeWhile_sublist _).length_le hs
  have hto : Oct (s.takeWhile ldB) := fun x hx => ho x ((List.takeWhile_sublist _).subset hx)
  cases s with
  | nil => simp [oneM] at h
  | cons x r =>
    have hr : Oct r := fun z hz => ho z (by simp [hz])
    simp only [oneM] at h
    split at h
    · split at h
      · split at h
        · cases h
          have := flagsM_bd lettersM 1 0 r (by omega)
          rw [show capF lettersM 1 = 31 by decide] at this
          exact ⟨by simp, by simp, by simp; omega, by simp; omega, by simp, oct_nil, fun _ => rfl⟩
        · cases h
      · cases h
    · split at h
      · split at h
        · rename_i p' hp
          split at h
          · rename_i hb
            cases h
            unfold textB at hb
            simp only [Bool.and_eq_true, decide_eq_true_eq] at hb
            exact ⟨by simp, by simp, by simp, by simp, by simp only; omega, (textM_oct r.length r (Nat.le_refl _) hr p' hp).1, by simp⟩
          · cases h
        · cases h
      · split at h
        · rename_i n hn
          cases h
          have := (numM_some.1 hn).1
          exact ⟨by simp, by simp, by simp, by simp only; omega, by simp, oct_nil, fun _ => rfl⟩
        · split at h
          · cases h; exact ⟨by simp, by simp, by simp, by simp, htw, hto, by simp⟩
          · split at h
            · cases h; exact ⟨by simp, by simp, by simp, by simp, htw, hto, by simp⟩
            · cases h

end Go.Proofs.YtlegmiaoablcgaaDoor

/- Tokens of package impl in memory; its reader of lines. -/
namespace Go.Proofs.YtlegmiaoablcgaaDoor
open Go.RowKit

theorem tab4 {w : World} {g : Nat} {t : TypeId} {c0 c1 c2 c3 : Value} (h : w.heap[g]? = some (.cells #[c0, c1, c2, c3] t (0, 0))) : w.cell? ⟨g, 0, none⟩ = some c0 ∧ w.cell? ⟨g, 1, none⟩ = some c1 ∧ w.cell? ⟨g, 2, none⟩ = some c2 ∧ w.cell? ⟨g, 3, none⟩ = some c3 ∧ (∀ i, w.frozen? ⟨g, i, none⟩ = false) ∧ g < w.heap.size :=
  let ⟨a, b, c, d⟩ := tx4 h; ⟨a, b, c, d, (box8z h).1, (box8z h).2⟩
/-- The number that package impl gives a token's kind. -/
def sortM (k : Int) : Int := if k = 3 then 0 else if k = 2 then 1 else if k = 1 then 2 else if k = 4 then 3 else 4
theorem sort_eq {a b : Int} (ha : 1 ≤ a ∧ a ≤ 5) (hb : 1 ≤ b ∧ b ≤ 5) : (sortM a = sortM b) = (a = b) := by
  unfold sortM
  apply propext
  constructor
  · intro h
    split at h <;> split at h <;> (repeat' split at h) <;> omega
  · rintro rfl; rfl
/-- A token's bytes: a text is the call's own, all else the line's (w0: the world in which the line lies). -/
def TX (w0 w : World) (S : Nat → Prop) (v : Value) (t : TokD) : Prop := (t.k = 5 → RB w S v t.tx) ∧ (t.k ≠ 5 → ∀ w', Below w0.heap.size w0 w' → Bs w' v t.tx)
def TokI (w0 : World) (w : World) (c : List Value) (t : TokD) (S : Nat → Prop) : Prop := ∃ a n k, c = [.int .i64 (sortM t.k), .int .i64 t.p, .int .i64 t.n, .slice a n k] ∧ TX w0 w S (.slice a n k) t
section
variable {w0 w w' : World} {S S' : Nat → Prop} {v : Value} {t : TokD} {ts : List TokD}
theorem TX.frame (h : TX w0 w S v t) (hw : ∀ b, S b → b < w.heap.size → w'.heap[b]? = w.heap[b]?) : TX w0 w' S v t := ⟨fun e => (h.1 e).frame hw, h.2⟩
theorem TX.mono (h : TX w0 w S v t) (hS : ∀ b, S b → S' b) : TX w0 w S' v t := ⟨fun e => ⟨(h.1 e).1, (h.1 e).2.1, fun g hg => hS g ((h.1 e).2.2 g hg)⟩, h.2⟩
theorem framesTokI (w0 : World) : Frames (TokI w0) := fun _ _ _ _ _ h hw => let ⟨a, n, k, h0, h1⟩ := h; ⟨a, n, k, h0, h1.frame hw⟩
abbrev ToksI (w0 : World) := Ow 74 4 (TokI w0)
/-- Tokens that are read: from any place of a block on. -/
def TR (w0 w : World) (S : Nat → Prop) (v : Value) (ts : List TokD) : Prop :=
  ∃ (a : Option Addr) (cap : Nat) (cs : Nat → List Value), v = .slice a ts.length cap ∧ ts.length ≤ cap ∧ cap ≤ 9223372036854775807 ∧ (∀ i t, ts[i]? = some t → TokI w0 w (cs i) t S) ∧
    (0 < ts.length → ∃ b off, a = some ⟨b, off, none⟩ ∧ b < w.heap.size ∧ S b ∧ ∀ i j u, i < ts.length → (cs i)[j]? = some u → w.cell? ⟨b, off + i * 4 + j, none⟩ = some u)
theorem cell_same {b o : Nat} (h : w'.heap[b]? = w.heap[b]?) : w'.cell? ⟨b, o, none⟩ = w.cell? ⟨b, o, none⟩ := by unfold World.cell?; rw [h]
theorem TR.of (h : ToksI w0 w S v ts) : TR w0 w S v ts := by
  rcases h with ⟨rfl, rfl⟩ | ⟨g, cap, cur, cs, fs, hv, hh, h1, h2, h3, h4, h5, h6, h7⟩
  · exact ⟨none, 0, fun _ => [], rfl, by simp, by simp, by simp, by simp⟩
  · unfold maxLen at h2
    refine ⟨some ⟨g, 0, none⟩, cap, cs, hv, h1, by omega, fun i t ht => ?_, fun _ => ⟨g, 0, rfl, lt_of_heap hh, h4, fun i j u hi hu => ?_⟩⟩
    · obtain ⟨a, n, k, e, hx⟩ := (h5 i t ht).1
      have hi : i < ts.length := (List.getElem?_eq_some_iff.1 ht).1
      exact ⟨a, n, k, e, hx.mono fun b hb => (h6 i b hi hb).1⟩
    · rw [Nat.zero_add, cell_of_row w g _ cur _ (0, 0) hh]
      exact (h5 i ts[i] (List.getElem?_eq_getElem hi)).2.2 j u hu
theorem TR.frame (h : TR w0 w S v ts) (hs : w.heap.size ≤ w'.heap.size) (hw : ∀ b, S b → b < w.heap.size → w'.heap[b]? = w.heap[b]?) : TR w0 w' S v ts := by
  obtain ⟨a, cap, cs, hv, h1, h2, h4, h5⟩ := h
  refine ⟨a, cap, cs, hv, h1, h2, fun i t ht => framesTokI w0 _ _ _ _ _ (h4 i t ht) hw, fun hp => ?_⟩
  obtain ⟨b, off, e, hl, hS, hc⟩ := h5 hp
  exact ⟨b, off, e, by omega, hS, fun i j u hi hu => (cell_same (hw b hS hl)).trans (hc i j u hi hu)⟩
theorem TR.below (h : TR w0 w S v ts) (hb : Below w.heap.size w w') : TR w0 w' S v ts := h.frame hb.size fun b _ hl => hb.block b hl
theorem TR.gb {g : Nat} (h : TR w0 w S v ts) (hg : w.grownBy w' (some g)) (hS : ¬ S g) : TR w0 w' S v ts := h.frame hg.size fun b hb hl => hg.block b hl fun e => hS (by cases e; exact hb)
theorem TR.form (h : TR w0 w S v ts) : ∃ a cap, v = .slice a ts.length cap ∧ ts.length ≤ cap ∧ cap ≤ 9223372036854775807 := let ⟨a, cap, _, hv, h1, h2, _⟩ := h; ⟨a, cap, hv, h1, h2⟩
/-- The first of the tokens, and the others. -/
theorem TR.head (h : TR w0 w S v (t :: ts)) : ∃ b off cap a n k, v = .slice (some ⟨b, off, none⟩) (ts.length + 1) cap ∧ ts.length + 1 ≤ cap ∧ cap ≤ 9223372036854775807 ∧ b < w.heap.size ∧ S b ∧
    w.cell? ⟨b, off, none⟩ = some (.int .i64 (sortM t.k)) ∧ w.cell? ⟨b, off + 1, none⟩ = some (.int .i64 t.p) ∧ w.cell? ⟨b, off + 2, none⟩ = some (.int .i64 t.n) ∧ w.cell? ⟨b, off + 3, none⟩ = some (.slice a n k) ∧ TX w0 w S (.slice a n k) t ∧
    TR w0 w S (.slice (some ⟨b, off + 4, none⟩) ts.length (cap - 1)) ts ∧ (ts.length = 0 → TR w0 w S (.slice (some ⟨b, off, none⟩) ts.length (cap - 1)) ts) := by
  obtain ⟨a, cap, cs, hv, h1, h2, h4, h5⟩ := h
  simp only [List.length_cons] at hv h1 h5
  obtain ⟨b, off, rfl, hl, hS, hc⟩ := h5 (by omega)
  obtain ⟨xa, xn, xk, hx, hX⟩ := h4 0 t rfl
  have c0 := fun j u hu => hc 0 j u (by omega) hu
  rw [hx] at c0
  refine ⟨b, off, cap, xa, xn, xk, hv, h1, h2, hl, hS, by simpa using c0 0 _ rfl, by simpa using c0 1 _ rfl, by simpa using c0 2 _ rfl, by simpa using c0 3 _ rfl, hX, ?_, ?_⟩
  · refine ⟨some ⟨b, off + 4, none⟩, cap - 1, fun i => cs (i + 1), rfl, by omega, by omega, fun i t' ht => h4 (i + 1) t' (by simpa using ht), fun _ => ⟨b, off + 4, rfl, hl, hS, fun i j u hi hu => ?_⟩⟩
    have := hc (i + 1) j u (by omega) hu
    rwa [show off + (i + 1) * 4 + j = off + 4 + i * 4 + j by omega] at this
  · intro h0
    have : ts = [] := List.length_eq_zero_iff.1 h0
    subst this
    exact ⟨some ⟨b, off, none⟩, cap - 1, fun _ => [], rfl, by simp, by omega, by simp, by simp⟩
end
theorem infoTokI : (Tryd.prog.info? 74).map (fun i => (i.zero, i.size, i.bytes)) = some (some (.agg #[.int .i64 0, .int .i64 0, .int .i64 0, .slice none 0 0]), 4, 48) := by kernel_rfl
theorem toki_form {w0 w : World} {S : Nat → Prop} {v : Value} {ts : List TokD} (h : ToksI w0 w S v ts) : ∃ a n c, v = .slice a n c := by
  rcases h with ⟨h, -⟩ | ⟨g, cap, cur, cs, fs, h, -⟩
  · exact ⟨_, _, _, h⟩
  · exact ⟨_, _, _, h⟩

/-- A token of a kind is taken. -/
def nextM (e k : Int) : List TokD → Except Int (TokD × List TokD)
  | [] => .error e
  | t :: r => if t.k = k then .ok (t, r) else .error t.p
/-- The reader's variable. -/
def LR (w : World) (g : Nat) (lv tv : Value) (cd pl : Int) : Prop := w.heap[g]? = some (.cells #[lv, tv, .int .i64 cd, .int .i64 pl] 38 (0, 0))
/-- Where the reader stands. -/
structure Rs (w0 w : World) (g : Nat) (S : Nat → Prop) (lv tv : Value) (ts : List TokD) : Prop where
  lr : LR w g lv tv 0 0
  toks : TR w0 w S tv ts
  bel : Below w0.heap.size w0 w
theorem Rs.below {w0 w w' : World} {g : Nat} {S : Nat → Prop} {lv tv : Value} {ts : List TokD} (h : Rs w0 w g S lv tv ts) (hb : Below w.heap.size w w') : Rs w0 w' g S lv tv ts := ⟨box_below hb h.lr, h.toks.below hb, Below.step h.bel hb⟩
/-- The reader has given up: why and where. -/
def Bad (w' : World) (g : Nat) (cd p : Int) : Prop := ∃ lv tv, LR w' g lv tv cd p

end Go.Proofs.YtlegmiaoablcgaaDoor

/- What slices.IndexFunc and slices.ContainsFunc do of bytes, whatever function is handed in. -/
namespace Go.Proofs.YtlegmiaoablcgaaDoor
open Go.RowKit Go.Shelf
set_option maxRecDepth 100000

set_option maxHeartbeats 400000 in
theorem indexFuncB (g : Nat) (lb : Array Value) (p : Int → Bool) (v : Value) (l : List Int) (w : World) (hv : Bs w v l) (eg : ∀ args w, (callFunc g args).run Tryd.prog w = .ok (.enter g args) w)
    (hp : ∀ x, 0 ≤ x → x ≤ 255 → Calls Tryd.prog g (#[.int .u8 x] ++ lb) w fun e w' => e = .returned (.bool (p x)) ∧ w' = w) :
    Calls Tryd.prog 97 #[v, .func (.func g) #[] lb] w fun e w' => e = .returned (.int .i64 (firstI p l)) ∧ w' = w := by
  obtain ⟨ho, a, cap, rfl, hlc, hcm, hnil, hcells⟩ := hv
  unfold maxLen at hcm
  go_enter Tryd.func97, Tryd.ntmps97
  go_wp2
  go_loop [5, 8] (fun _ i => ∃ k : Nat, k ≤ l.length ∧ i = .int .i64 k ∧ Hid (∀ j, j < k → p (l.getD j 0) = false)) (fun _ i => l.length - (intOf i).toNat)
  case atStart => exact ⟨0, Nat.zero_le _, rfl, fun j hj => absurd hj (Nat.not_lt_zero _)⟩
  case round =>
    obtain ⟨k, hk, rfl, hA⟩ := hrel
    by_cases hlt : k < l.length
    · obtain ⟨b, off, rfl, hlb, hc⟩ := hcells (by omega)
      have hx := hc k hlt
      have hbx := oct_get ho k
      generalize hy : l.getD k 0 = x at hx hbx
      have HX : Hid (l.getD k 0 = x) := hy
      clear hy hc hcells
      have hcall := hp x hbx.1 hbx.2
      clear hp
      cases hq : p x with
      | true =>
        rw [hq] at hcall
        go_wp2_with (go_at_fn g; refine hcall.mono ?_; rintro e w' ⟨rfl, rfl⟩)
        go_ret
        exact ⟨ret_i (firstI_hit hlt (by rw [HX.out]; exact hq) hA.out).symm, rfl⟩
      | false =>
        rw [hq] at hcall
        go_wp2_with (go_at_fn g; refine hcall.mono ?_; rintro e w' ⟨rfl, rfl⟩)
        go_round
        case rel =>
          refine ⟨k + 1, by omega, by go_num, (show Hid _ from fun j hj => ?_)⟩
          by_cases e : j = k
          · subst e; rw [HX.out]; exact hq
          · exact hA.out j (by omega)
        case measure => simp [intOf]; omega
    · obtain rfl : k = l.length := by omega
      go_wp2
      go_ret
      exact ⟨ret_i (firstI_none hA.out).symm, rfl⟩

set_option maxHeartbeats 400000 in
theorem containsFuncB (g : Nat) (lb : Array Value) (p : Int → Bool) (v : Value) (l : List Int) (w : World) (hv : Bs w v l) (eg : ∀ args w, (callFunc g args).run Tryd.prog w = .ok (.enter g args) w)
    (hp : ∀ x, 0 ≤ x → x ≤ 255 → Calls Tryd.prog g (#[.int .u8 x] ++ lb) w fun e w' => e = .returned (.bool (p x)) ∧ w' = w) :
    Calls Tryd.prog 92 #[v, .func (.func g) #[] lb] w fun e w' => e = .returned (.bool (l.any p)) ∧ w' = w := by
  have hi := indexFuncB g lb p v l w hv eg hp
  have HF : Hid (l.any p = decide (0 ≤ firstI p l)) := any_firstI p l
  generalize firstI p l = i at hi HF
  obtain ⟨ho, a, cap, rfl, -⟩ := hv
  clear hp
  go_enter Tryd.func92, Tryd.ntmps92
  go_wp2_with (go_at_call 97; refine hi.mono ?_; rintro e w' ⟨rfl, rfl⟩)
  go_ret
  exact ⟨ret_b HF.out, rfl⟩

end Go.Proofs.YtlegmiaoablcgaaDoor

/- What within, allWithin, nameOk, nameWanted, textOk of package impl do. -/
namespace Go.Proofs.YtlegmiaoablcgaaDoor
open Go.RowKit Go.Shelf
set_option maxRecDepth 100000

theorem textB_len {l : List Int} (h : textB l = true) : l.length ≤ 30 := by unfold textB at h; simp at h; exact h.1

theorem within_any (n lo hi : Int) (w : World) :
    Calls Tryd.prog 91 #[.int .i64 n, .int .i64 lo, .int .i64 hi] w fun e w' => e = .returned (.bool (inB n lo hi)) ∧ w' = w := by
  by_cases h0 : lo ≤ n
  · by_cases h1 : n ≤ hi
    · go_enter Tryd.func91, Tryd.ntmps91
      go_wp2
      go_ret
      exact ⟨ret_b (by simp [inB, h0, h1]), rfl⟩
    · go_enter Tryd.func91, Tryd.ntmps91
      go_wp2
      go_ret
      exact ⟨ret_b (by simp [inB, h1]), rfl⟩
  · go_enter Tryd.func91, Tryd.ntmps91
    go_wp2
    go_ret
    exact ⟨ret_b (by simp [inB]; omega), rfl⟩

theorem allWithin1_any (x lo hi : Int) (b1 b2 : Nat) (w : World) (c1 : w.cell? ⟨b1, 0, none⟩ = some (.int .u8 lo)) (c2 : w.cell? ⟨b2, 0, none⟩ = some (.int .u8 hi)) :
    Calls Tryd.prog 93 #[.int .u8 x, .pointer (some ⟨b1, 0, none⟩), .pointer (some ⟨b2, 0, none⟩)] w fun e w' => e = .returned (.bool (decide (x < lo) || decide (hi < x))) ∧ w' = w := by
  by_cases h0 : x < lo
  · go_enter Tryd.func93, Tryd.ntmps93
    go_wp2
    go_ret
    exact ⟨ret_b (by simp [h0]), rfl⟩
  · go_enter Tryd.func93, Tryd.ntmps93
    go_wp2
    go_ret
    exact ⟨ret_b (by simp; omega), rfl⟩

theorem allIn_any (lo hi : Int) (l : List Int) : (!l.any fun x => decide (x < lo) || decide (hi < x)) = allIn lo hi l := by
  induction l with
  | nil => rfl
  | cons x l ih =>
    simp only [List.any_cons, allIn, List.all_cons, Bool.not_or]
    rw [ih]
    congr 1
    by_cases h0 : x < lo <;> by_cases h1 : hi < x <;> simp [h0, h1] <;> omega

set_option maxHeartbeats 400000 in
theorem allWithin_any (v : Value) (l : List Int) (lo hi : Int) (w : World) (hv : Bs w v l) :
    Calls Tryd.prog 86 #[v, .int .u8 lo, .int .u8 hi] w fun e w' => e = .returned (.bool (allIn lo hi l)) ∧ Below w.heap.size w w' := by
  have bx := boxes2 w (.cells #[.int .u8 lo] 5) (.cells #[.int .u8 hi] 5)
  have H : Hid (Calls Tryd.prog 92 #[v, .func (.func 93) #[] #[.pointer (some ⟨w.heap.size, 0, none⟩), .pointer (some ⟨w.heap.size + 1, 0, none⟩)]] ((w.alloc (.cells #[.int .u8 lo] 5)).alloc (.cells #[.int .u8 hi] 5)) fun e w' => e = .returned (.bool (l.any fun x => decide (x < lo) || decide (hi < x))) ∧ w' = (w.alloc (.cells #[.int .u8 lo] 5)).alloc (.cells #[.int .u8 hi] 5)) := by
    refine containsFuncB _ _ _ v l _ (hv.below bx.2.2) (fun args w => by kernel_rfl) fun x _ _ => allWithin1_any x lo hi _ _ _ ?_ ?_
    · rw [cell_of_row _ _ 0 _ _ (0, 0) bx.1]; rfl
    · rw [cell_of_row _ _ 0 _ _ (0, 0) bx.2.1]; rfl
  have HA := allIn_any lo hi l
  have HB : Hid (Below w.heap.size w ((w.alloc (.cells #[.int .u8 lo] 5)).alloc (.cells #[.int .u8 hi] 5))) := bx.2.2
  generalize (l.any fun x => decide (x < lo) || decide (hi < x)) = X at H HA
  have HA' : Hid ((!X) = allIn lo hi l) := HA
  clear HA bx
  obtain ⟨a, n, c, rfl⟩ := hv.form3
  clear hv
  go_enter Tryd.func86, Tryd.ntmps86
  go_wp2_with (go_at_call 92; refine H.out.mono ?_; rintro e w' ⟨rfl, rfl⟩)
  go_ret
  exact ⟨ret_b HA'.out.symm, HB.out⟩

set_option maxHeartbeats 400000 in
theorem nameOk_any (v : Value) (l : List Int) (w : World) (hv : Bs w v l) :
    Calls Tryd.prog 85 #[v] w fun e w' => e = .returned (.bool (nameB l)) ∧ Below w.heap.size w w' := by
  have H : Hid (Bs w v l) := hv
  obtain ⟨ho, a, cap, rfl, hlc, hcm, -⟩ := hv
  unfold maxLen at hcm
  by_cases h0 : 1 ≤ l.length ∧ l.length ≤ 6
  · have e1 : inB (l.length : Int) 1 6 = true := by simp [inB]; omega
    have e2 : Hid (nameB l = allIn 97 122 l) := by simp [Hid, nameB, h0.1, h0.2]
    have hw := within_any (l.length : Int) 1 6
    rw [e1] at hw
    clear e1
    go_enter Tryd.func85, Tryd.ntmps85
    go_wp2_with (first | (go_at_call 91; refine (hw _).mono ?_; rintro e w' ⟨rfl, rfl⟩) | (go_at_call 86; refine (allWithin_any _ l 97 122 _ H.out).mono ?_; rintro e w1 ⟨rfl, B⟩))
    go_ret
    exact ⟨ret_b e2.out, B⟩
  · have e1 : inB (l.length : Int) 1 6 = false := by simp [inB]; omega
    have e2 : Hid (nameB l = false) := by
      simp only [Hid, nameB]
      by_cases h1 : 1 ≤ l.length
      · simp [show ¬ l.length ≤ 6 by omega]
      · simp [h1]
    have hw := within_any (l.length : Int) 1 6
    rw [e1] at hw
    clear e1
    go_enter Tryd.func85, Tryd.ntmps85
    go_wp2_with (first | (go_at_call 91; refine (hw _).mono ?_; rintro e w' ⟨rfl, rfl⟩))
    go_ret
    exact ⟨ret_b e2.out, Below.refl _ _⟩

set_option maxHeartbeats 400000 in
theorem textOk_any (v : Value) (l : List Int) (w : World) (hv : Bs w v l) :
    Calls Tryd.prog 89 #[v] w fun e w' => e = .returned (.bool (textB l)) ∧ Below w.heap.size w w' := by
  have H : Hid (Bs w v l) := hv
  obtain ⟨ho, a, cap, rfl, hlc, hcm, -⟩ := hv
  unfold maxLen at hcm
  by_cases h0 : l.length ≤ 30
  · have e2 : Hid (textB l = allIn 32 126 l) := by simp [Hid, textB, h0]
    go_enter Tryd.func89, Tryd.ntmps89
    go_wp2_with (first | (go_at_call 86; refine (allWithin_any _ l 32 126 _ H.out).mono ?_; rintro e w1 ⟨rfl, B⟩))
    go_ret
    exact ⟨ret_b e2.out, B⟩
  · have e2 : Hid (textB l = false) := by simp [Hid, textB, h0]
    go_enter Tryd.func89, Tryd.ntmps89
    go_wp2
    go_ret
    exact ⟨ret_b e2.out, Below.refl _ _⟩

end Go.Proofs.YtlegmiaoablcgaaDoor
