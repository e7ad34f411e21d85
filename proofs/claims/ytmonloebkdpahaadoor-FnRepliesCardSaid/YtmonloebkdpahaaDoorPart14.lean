/- The proof's texts, part 14. -/
import Derived.Test.YtmonloebkdpahaaDoorPart11
import Derived.Test.YtmonloebkdpahaaDoorPart12
import Derived.Test.YtmonloebkdpahaaDoorPart6
import Derived.Test.YtmonloebkdpahaaDoorPart9
import Derived.Deep.RegionHeld3
import Derived.Test.YtmonloebkdpahaaDoorPart3

/- What l3do of package spec does: delete. -/
namespace Go.Proofs.YtmonloebkdpahaaDoor
open Go.RowKit
set_option maxRecDepth 100000
set_option linter.unusedVariables false
set_option linter.unusedSimpArgs false

theorem tab_do17 : (Tryd.f38.body.bind (opsAt 17)).all (fun o => tableS o 20 [0, 2, 3, 4, 5, 6, 7, 9, 10, 11, 12, 13, 14, 15, 1, 8, 16, 17, 18, 19] [14, 15, 16, 19] [19, 20] 12) = true := by kernel_rfl
theorem delete_end {wl w3 : World} {S0 : Nat → Prop} {ga k m : Nat} {A : AccD} {cells : List Value} {V : Value} (hA : AccP wl S0 ga A) (hSl : ∀ k, S0 k → k < wl.heap.size) (hb : Below wl.heap.size wl w3) (hel : EL 7 BoxQE wl A.boxes S0 cells)
    (hrow : w3.ownsRow wl.heap.size 35 7 V m (cells.take (k * 7) ++ cells.drop ((k + 1) * 7))) (hm : m + 1 = A.boxes.length) (hk : k < A.boxes.length) :
    AccP (w3.setCell ⟨ga, 1, none⟩ V) (fun j => S0 j ∨ wl.heap.size ≤ j) ga ⟨A.valid, A.boxes.take k ++ A.boxes.drop (k + 1), A.seen⟩ := by
  have hl : (A.boxes.take k ++ A.boxes.drop (k + 1)).length = m := by rw [List.length_append, List.length_take, List.length_drop]; omega
  rw [← hl] at hrow
  have he := el_out k (el_oth hel (fun k _ hk => hb.block k hk) (stay_below hb) (stay_below hb))
  exact hA.putBoxes hb (boxesq_row hrow he hSl) (fun h => h.elim hA.1 (fun h => by have := hA.lt; omega)) (fun k h => h)

set_option maxRecDepth 100000 in
set_option maxHeartbeats 8000000 in
theorem l3do_del (ga : Nat) (a : AccD) (S : Nat → Prop) (uid mode fl si : Int) (bx tt tx : List Int) (x0 x1 x2 : Option Addr) (n0 n1 n2 m0 m1 m2 : Nat) (w : World) (hp : AccP w S ga a)
    (hs0 : ∀ w', w.heap.size ≤ w'.heap.size → StayT w w' 5 → Bs w' (.slice x0 n0 m0) bx) (hs1 : ∀ w', w.heap.size ≤ w'.heap.size → StayT w w' 5 → Bs w' (.slice x1 n1 m1) tt) (hs2 : ∀ w', w.heap.size ≤ w'.heap.size → StayT w w' 5 → Bs w' (.slice x2 n2 m2) tx)
    (hi64 : I64 uid ∧ I64 mode ∧ I64 fl ∧ I64 si) (hcl : bx.length ≤ 2000000 ∧ tx.length ≤ 2000000) (hsz : ∀ x ∈ a.boxes, szX x ≤ 900000) (hbl : a.boxes.length ≤ 2000000) (k : Nat) (b : BoxD) (hb : a.boxes[k]? = some b) (hf : firstI (fun x : BoxD => decide (x.name = bx)) a.boxes = (k : Int))  :
    Calls Tryd.prog 38 #[.pointer (some ⟨ga, 0, none⟩), .agg #[.int .i64 1, .slice x0 n0 m0, .slice x1 n1 m1, .int .i64 uid, .int .i64 mode, .int .i64 fl, .int .i64 si, .slice x2 n2 m2]] w (DoneA w S ga (⟨a.valid, a.boxes.take k ++ a.boxes.drop (k + 1), a.seen⟩, codeR 0 0)) := by
  obtain ⟨S0, hS0e⟩ : ∃ S0 : Nat → Prop, S0 = fun k => S k ∧ k < w.heap.size := ⟨_, rfl⟩
  have HSUB : Hid (∀ k, S0 k → S k) := by subst hS0e; exact fun k h => h.1
  have HSL : Hid (∀ k, S0 k → k < w.heap.size) := by subst hS0e; exact fun k h => h.2
  have HP : Hid (∀ w', Below w.heap.size w w' → AccP w' S0 ga a) := by subst hS0e; exact fun w' h => hp.cut.below h
  clear hS0e
  have hlga := hp.lt
  have HQ0 : Hid (∀ w', w.heap.size ≤ w'.heap.size → StayT w w' 5 → Bs w' (.slice x0 n0 m0) bx) := hs0
  have HQ1 : Hid (∀ w', w.heap.size ≤ w'.heap.size → StayT w w' 5 → Bs w' (.slice x1 n1 m1) tt) := hs1
  have HQ2 : Hid (∀ w', w.heap.size ≤ w'.heap.size → StayT w w' 5 → Bs w' (.slice x2 n2 m2) tx) := hs2
  have HI : Hid (I64 uid ∧ I64 mode ∧ I64 fl ∧ I64 si) := hi64
  have HSZ : Hid (∀ x ∈ a.boxes, szX x ≤ 900000) := hsz
  obtain ⟨HB, HKC, HKR, hsW⟩ := heads2 w (.cells #[.int .i64 1, .slice x0 n0 m0, .slice x1 n1 m1, .int .i64 uid, .int .i64 mode, .int .i64 fl, .int .i64 si, .slice x2 n2 m2] 77) (.cells #[.int .i64 0, .int .i64 0, .slice none 0 0, .int .i64 0, .int .i64 0, .int .i64 0, .slice none 0 0, .slice none 0 0, .int .i64 0, .slice none 0 0] 37)
  clear hs0 hs1 hs2 hp hi64 hsz
  go_enter Tryd.func38, Tryd.ntmps38
  go_upto_region 1 with fail
  generalize ((w.alloc (.cells #[.int .i64 1, .slice x0 n0 m0, .slice x1 n1 m1, .int .i64 uid, .int .i64 mode, .int .i64 fl, .int .i64 si, .slice x2 n2 m2] 77)).alloc (.cells #[.int .i64 0, .int .i64 0, .slice none 0 0, .int .i64 0, .int .i64 0, .int .i64 0, .slice none 0 0, .slice none 0 0, .int .i64 0, .slice none 0 0] 37)) = W at HB HKC HKR hsW ⊢
  have q0 : W.cell? ⟨w.heap.size, 0, none⟩ = some (.int .i64 1) := cell_of_row W w.heap.size 0 _ _ (0, 0) HKC.out
  have hlc : w.heap.size < W.heap.size := by omega
  go_upto_region 11 with fail
  clear q0
  have DR : Below W.heap.size W W.drew := (Below.refl _ _).drew
  have HAD : Hid (AccP W.drew S0 ga a) := HP.out W.drew (Below.step HB.out DR)
  obtain ⟨v9, u9, ca0, ca1, ca2, hbq, hav⟩ := HAD.out.cells
  obtain ⟨e0, e1, rfl, -⟩ := hbq.v.form
  have HAV : Hid _ := hav
  have HNB : Hid (Bs W.drew (.slice x0 n0 m0) bx) := HQ0.out _ (Nat.le_trans HB.out.size DR.size) (stay_below (Below.step HB.out DR))
  have hlga1 : ga < W.drew.heap.size := by show ga < W.heap.size; omega
  have hlc1 : w.heap.size < W.drew.heap.size := hlc
  have HS : Hid (∀ w', Below W.drew.heap.size W.drew w' → w'.cell? ⟨ga, 0, none⟩ = some (.int .i64 a.valid) ∧ w'.cell? ⟨ga, 1, none⟩ = some (.slice e0 a.boxes.length e1) ∧ w'.cell? ⟨ga, 2, none⟩ = some u9 ∧ w'.cell? ⟨w.heap.size, 1, none⟩ = some (.slice x0 n0 m0)) := fun w' h => ⟨(h.cell (p := ⟨ga, 0, none⟩) hlga1).trans ca0, (h.cell (p := ⟨ga, 1, none⟩) hlga1).trans ca1, (h.cell (p := ⟨ga, 2, none⟩) hlga1).trans ca2, cell_of_row w' w.heap.size 1 _ _ (0, 0) (box_below (Below.step DR h) HKC.out)⟩
  clear hbq hav ca0 ca1 ca2
  go_region_held3 (fun w' => w'.cell? ⟨ga, 0, none⟩ = some (.int .i64 a.valid) ∧ w'.cell? ⟨ga, 1, none⟩ = some (.slice e0 a.boxes.length e1) ∧ w'.cell? ⟨ga, 2, none⟩ = some u9 ∧ w'.cell? ⟨w.heap.size, 1, none⟩ = some (.slice x0 n0 m0))
    (first | exact HS.out _ (Below.refl _ _) | exact HS.out _ B1 | go_keep)
    ((go_at_call 66; refine (l3box_any _ _ a bx _ HAV.out HNB.out hbl).mono ?_; rintro e w1 ⟨rfl, B1⟩))
  have HB1 : Hid (Below W.heap.size W w1) := Below.step DR B1
  have HKC1 : Hid _ := box_below HB1.out HKC.out
  have HKR1 : Hid _ := box_below HB1.out HKR.out
  have hw1 : W.heap.size ≤ w1.heap.size := HB1.out.size
  have HX1 : Hid (Below w.heap.size w w1) := Below.step HB.out HB1.out
  have HE1 : Hid (w1.cell? ⟨ga, 1, none⟩ = some (.slice e0 a.boxes.length e1)) := (HS.out w1 B1).2.1
  clear B1 HAV HNB DR hlga1 hlc1 HS HAD
  have HA1 : Hid (AccP w1 S0 ga a) := HP.out w1 HX1.out
  obtain ⟨g, cap, Sb, cb, hSg, hpb, hSb, hback⟩ := HA1.out.at hb
  have e9 := Option.some.inj (cb.symm.trans HE1.out)
  simp only [Value.slice.injEq, true_and] at e9
  obtain ⟨rfl, rfl⟩ := e9
  have HBK : Hid _ := hback
  have HPB : Hid (BoxP w1 Sb g (k * 7) b) := hpb
  have HSb : Hid (∀ k, Sb k → S0 k) := fun k h => (hSb k h).1
  have hkl : k < a.boxes.length := (List.getElem?_eq_some_iff.1 hb).1
  have hki : (k : Int) < (a.boxes.length : Int) := by omega
  have hlg1 : g < w1.heap.size := hpb.lt
  have hga1 : ga < w1.heap.size := by omega
  have hlc1 : w.heap.size < w1.heap.size := by omega
  have hgw : g < w.heap.size := HSL.out g hSg
  have hsx : szX b ≤ 900000 := HSZ.out b (List.mem_of_getElem? hb)
  have hml : b.mails.length ≤ 900000 := by have := szM_len b.mails; unfold szX at hsx; omega
  have hgl : b.gones.length ≤ 900000 := by unfold szX at hsx; omega
  have HC1 : Hid (w1.cell? ⟨ga, 1, none⟩ = some (.slice (some ⟨g, 0, none⟩) a.boxes.length cap)) := cb
  obtain ⟨v8, u8, ca0, ca1, ca2, hbq, -⟩ := HA1.out.cells
  have e8 : v8 = .slice (some ⟨g, 0, none⟩) a.boxes.length cap := Option.some.inj (ca1.symm.trans cb)
  subst e8
  have HBQ : Hid (BoxesQ w1 S0 (.slice (some ⟨g, 0, none⟩) a.boxes.length cap) a.boxes) := hbq
  clear hpb hback hSb hbq ca0 ca1 ca2
  have q0 : w1.cell? ⟨w.heap.size, 0, none⟩ = some (.int .i64 1) := cell_of_row w1 w.heap.size 0 _ _ (0, 0) HKC1.out
  by_cases hce : cap = k + 1
  · have hke : k + 1 = a.boxes.length := by have := HBQ.out.v.form; obtain ⟨_, _, e, h, -⟩ := this; cases e; omega
    have HKE : Hid (k + 1 = a.boxes.length) := hke
    clear hke
    obtain ⟨g', cap', cur, hgv, hgh, hc1, hc2, hc3, -, hel⟩ := (Ow.el HBQ.out).resolve_left (fun h => by have := h.1; cases this)
    simp only [Value.slice.injEq, Option.some.injEq, Addr.mk.injEq, and_true, true_and] at hgv
    obtain ⟨rfl, rfl⟩ := hgv
    have HGH : Hid (w1.drew.heap[g]? = some (.cells cur 35 (0, 0))) := hgh
    have DRX : Below w1.heap.size w1 w1.drew := (Below.refl _ _).drew
    have HELD : Hid (EL 7 BoxQE w1.drew a.boxes S0 (cur.toList.take (a.boxes.length * 7))) := (el_oth (w' := w1.drew) hel (fun k _ hk => DRX.block k hk) (stay_below DRX) (stay_below DRX)).mono fun k h => h.1
    clear DRX
    have h1s : ∀ y ∈ ((cur.toList.take (a.boxes.length * 7)).take (k * 7)), y.oneCell' = true := fun y hy => one_el HELD.out y (List.mem_of_mem_take hy)
    have h2s : ∀ y ∈ ((cur.toList.take (a.boxes.length * 7)).drop ((k + 1) * 7)), y.oneCell' = true := fun y hy => one_el HELD.out y (List.mem_of_mem_drop hy)
    have HAD : Hid (AccP w1.drew S0 ga a) := HA1.out.below (Below.refl _ _).drew
    have HXD : Hid (Below w.heap.size w w1.drew) := HX1.out.drew
    have HKD : Hid (w1.drew.heap[w.heap.size + 1]? = _) := HKR1.out
    have HLD : Hid (∀ k, S0 k → k < w1.drew.heap.size) := fun k h => by have := HSL.out k h; show k < w1.heap.size; omega
    have hgd : g < w1.drew.heap.size := hlg1
    have hgad : ga < w1.drew.heap.size := hga1
    obtain ⟨i0, hi, hz0, hz1, hz2⟩ := info_parts infoBox
    have hm1 : 0 + k ≤ maxLen := by unfold maxLen; omega
    have hm2 : (0 + k) * 104 ≤ 140737488355328 := by omega
    have hm3 : k + 0 ≤ maxLen := by unfold maxLen; omega
    have hm4 : (k + 0) * 104 ≤ 140737488355328 := by omega
    have hiz : k ≤ cap := by omega
    have hwr : IntKind.i64.wrap ((k : Int) + 1) = (k : Int) + 1 := by simp [IntKind.wrap, IntKind.bits, IntKind.signed]; omega
    have htn : ((k : Int) + 1).toNat = k + 1 := by omega
    have hb0 : (0 : Int) ≤ (k : Int) + 1 := by omega
    have hb1 : (k : Int) + 1 ≤ (a.boxes.length : Int) := by omega
    subst hce
    have hie : (k : Int) ≤ (k : Int) + 1 := by omega
    clear hgh hel hc2
    go_upto_region 17 with fail
    clear q0 cb
    refine wpS_begin 19 (S := fun w' => w'.cell? ⟨ga, 1, none⟩ = some (.slice (some ⟨g, 0, none⟩) a.boxes.length (k + 1))) (tabS_of (by kernel_rfl) tab_do17) (by kernel_rfl) (HC1.out) (fun hTb hHeld => ?_)
    refine tks 0 0 64 hTb hHeld ?_
    refine tks 1 2 66 hTb hHeld ?_
    refine tks 2 3 67 hTb hHeld ?_
    refine tks 3 4 68 hTb hHeld ?_
    refine tks 4 5 69 hTb hHeld ?_
    refine tks 5 6 70 hTb hHeld ?_
    refine tks 6 7 71 hTb hHeld ?_
    refine tks 7 9 73 hTb hHeld ?_
    refine tks 8 10 74 hTb hHeld ?_
    refine tks 9 11 75 hTb hHeld ?_
    refine tks 10 12 76 hTb hHeld ?_
    refine tks 11 13 77 hTb hHeld ?_
    refine tks 12 14 78 hTb hHeld ?_
    refine tks 13 15 79 hTb hHeld ?_
    refine cls 14 1 hTb (by decide) rfl rfl (fun K hK => ?_)
    go_simp
    have AE : Below w1.drew.heap.size w1.drew (w1.drew.alloc (.cells #[] 35)) := (Below.refl _ _).alloc (Nat.le_refl _) _
    have HOE : Hid _ := owns_empty w1.drew 35 7 w1.drew.heap.size (Nat.le_refl _)
    have HDE : Hid (Below w1.drew.heap.size w1.drew (w1.drew.alloc (.cells #[] 35))) := AE
    refine hK.out _ _ ((AE.cell (p := ⟨ga, 1, none⟩) hga1).trans HC1.out) (fun hHeld => ?_)
    clear hK K
    clear AE
    refine cls 15 8 hTb (by decide) rfl rfl (fun K hK => ?_)
    refine ite_w (by kernel_rfl) (wp_catC (B := w1.drew.heap.size) 72 rfl (.tmp 65) (.tmp 71) rfl HOE.out (src_take ((HDE.out.block g hgd).trans HGH.out) (by omega) (by omega) (k + 1)) h1s Tryd.underlying69 hi hz0 hz1 hz2 rfl (by omega) rfl rfl hm1 hm2 HDE.out.size ?_)
    intro V1 w4 hO4 hG4 hB4
    obtain ⟨p1, p2, p3, hV1⟩ := own_form hO4
    subst hV1
    have HD4 : Hid (Below w1.drew.heap.size w1.drew w4) := below_row HDE.out hG4 (fun j hj => own_ge HOE.out hj)
    have HO4 : Hid (w4.ownsRow w1.drew.heap.size 35 7 (.slice p1 p2 p3) k ((cur.toList.take (a.boxes.length * 7)).take (k * 7))) := by simpa [World.ownsRow, Hid] using hO4
    clear hO4 hG4 hB4
    refine hK.out _ _ ((HD4.out.cell (p := ⟨ga, 1, none⟩) hga1).trans HC1.out) (fun hHeld => ?_)
    clear hK K
    refine cls 16 16 hTb (by decide) rfl rfl (fun K hK => ?_)
    have hsrc2 : SrcC w4 (.slice (some ⟨g, 0, none⟩) 0 0) 0 7 ((cur.toList.take (a.boxes.length * 7)).drop ((k + 1) * 7)) := by rw [HKE.out]; exact (src_end w4 g a.boxes.length cur 0)
    refine ite_w (by kernel_rfl) (wp_catC (B := w1.drew.heap.size) 80 rfl (.tmp 72) (.tmp 79) rfl HO4.out hsrc2 h2s Tryd.underlying69 hi hz0 hz1 hz2 rfl (by omega) rfl rfl hm3 hm4 HD4.out.size ?_)
    intro V2 w6 hO6 hG6 hB6
    obtain ⟨t1, t2, t3, hV2⟩ := own_form hO6
    subst hV2
    have HD6 : Hid (Below w1.drew.heap.size w1.drew w6) := below_row HD4.out hG6 (fun j hj => own_ge HO4.out hj)
    have HO6 : Hid (w6.ownsRow w1.drew.heap.size 35 7 (.slice t1 t2 t3) (k + 0) (((cur.toList.take (a.boxes.length * 7)).take (k * 7)) ++ ((cur.toList.take (a.boxes.length * 7)).drop ((k + 1) * 7)))) := by simpa [World.ownsRow, Hid] using hO6
    clear hO6 hG6 hB6 hsrc2
    refine hK.out _ _ ((HD6.out.cell (p := ⟨ga, 1, none⟩) hga1).trans HC1.out) (fun hHeld => ?_)
    clear hK K
    refine tks 17 17 81 hTb hHeld ?_
    refine tks 18 18 82 hTb hHeld ?_
    refine wpS_next (S' := fun w' => True) 19 20 hTb (by decide) (trivial) (fun hHeld => ?_)
    refine cls 19 19 hTb (by decide) rfl rfl (fun K hK => ?_)
    have HA6 : Hid (AccP w6 S0 ga a) := HAD.out.below HD6.out
    have HAZ : Hid (AccP (w6.setCell ⟨ga, 1, none⟩ (.slice t1 t2 t3)) (fun j => S0 j ∨ w1.drew.heap.size ≤ j) ga ⟨a.valid, a.boxes.take k ++ a.boxes.drop (k + 1), a.seen⟩) := delete_end HAD.out HLD.out HD6.out HELD.out HO6.out (by omega) hkl
    have HTZ : Hid (TurnsA w (w6.setCell ⟨ga, 1, none⟩ (.slice t1 t2 t3)) S0 ga) := (TurnsA.below (S := S0) (Below.step HXD.out HD6.out)).trans (TurnsA.set (S := S0) HA6.out) (fun k h => .inl h)
    have HKZ : Hid _ := box_other (k := ga) (i := 1) (v := .slice t1 t2 t3) (box_below HD6.out HKD.out) (by omega)
    have fz7 := HA6.out.open
    obtain ⟨w70, w71, c70, c71, -⟩ := HA6.out.cells
    have hga7 := HA6.out.lt
    go_simp
    refine hK.out _ _ (trivial) (fun hHeld => ?_)
    clear hK K
    refine wpS_end hTb ?_
    go_upto_region 18 with fail
    clear fz7 c70 c71 hga7
    generalize w6.setCell ⟨ga, 1, none⟩ (.slice t1 t2 t3) = w8 at HAZ HTZ HKZ ⊢
    obtain ⟨r0, r1, r2, r3, r4, r5, r6, r7, r8, r9⟩ := bx10 HKZ.out
    have fz : ∀ i, w8.frozen? ⟨w.heap.size + 1, i, none⟩ = false := fun i => frozen_of_row w8 _ i _ _ HKZ.out
    have hlr8 := lt_of_heap HKZ.out
    have hd1 : w1.drew.heap.size = w1.heap.size := rfl
    have HF : Hid _ := rep_turnA (w := w) HKZ.out (by omega) HTZ.out _ _ HAZ.out hlga (fun h => h.elim (fun h => by have := HSL.out _ h; omega) (fun h => by omega)) 0 0 ⟨i64c0, i64c0⟩
    go_wp2
    obtain ⟨f0, f1, f2, f3, f4, f5, f6, f7, f8, f9⟩ := bx10 HF.out.1
    refine bodyPost_ret (v := .agg #[.int .i64 0, .int .i64 0, .slice none 0 0, .int .i64 0, .int .i64 0, .int .i64 0, .slice none 0 0, .slice none 0 0, .int .i64 0, .slice none 0 0]) (by simp [results, Tryd.results38, go_sem, f0, f1, f2, f3, f4, f5, f6, f7, f8, f9]) rfl ⟨_, _, rfl, reps_code HF.out.2.2.2, TurnsA.wide HF.out.2.1 HSUB.out, HF.out.2.2.1, (show ∀ k, (S0 k ∨ w1.drew.heap.size ≤ k) → _ from fun k h => h.elim (fun h => .inl (HSUB.out k h)) (fun h => .inr (by omega)))⟩
  · skip
    obtain ⟨g', cap', cur, hgv, hgh, hc1, hc2, hc3, -, hel⟩ := (Ow.el HBQ.out).resolve_left (fun h => by have := h.1; cases this)
    simp only [Value.slice.injEq, Option.some.injEq, Addr.mk.injEq, and_true, true_and] at hgv
    obtain ⟨rfl, rfl⟩ := hgv
    have HGH : Hid (w1.drew.heap[g]? = some (.cells cur 35 (0, 0))) := hgh
    have DRX : Below w1.heap.size w1 w1.drew := (Below.refl _ _).drew
    have HELD : Hid (EL 7 BoxQE w1.drew a.boxes S0 (cur.toList.take (a.boxes.length * 7))) := (el_oth (w' := w1.drew) hel (fun k _ hk => DRX.block k hk) (stay_below DRX) (stay_below DRX)).mono fun k h => h.1
    clear DRX
    have h1s : ∀ y ∈ ((cur.toList.take (a.boxes.length * 7)).take (k * 7)), y.oneCell' = true := fun y hy => one_el HELD.out y (List.mem_of_mem_take hy)
    have h2s : ∀ y ∈ ((cur.toList.take (a.boxes.length * 7)).drop ((k + 1) * 7)), y.oneCell' = true := fun y hy => one_el HELD.out y (List.mem_of_mem_drop hy)
    have HAD : Hid (AccP w1.drew S0 ga a) := HA1.out.below (Below.refl _ _).drew
    have HXD : Hid (Below w.heap.size w w1.drew) := HX1.out.drew
    have HKD : Hid (w1.drew.heap[w.heap.size + 1]? = _) := HKR1.out
    have HLD : Hid (∀ k, S0 k → k < w1.drew.heap.size) := fun k h => by have := HSL.out k h; show k < w1.heap.size; omega
    have hgd : g < w1.drew.heap.size := hlg1
    have hgad : ga < w1.drew.heap.size := hga1
    obtain ⟨i0, hi, hz0, hz1, hz2⟩ := info_parts infoBox
    have hm1 : 0 + k ≤ maxLen := by unfold maxLen; omega
    have hm2 : (0 + k) * 104 ≤ 140737488355328 := by omega
    have hm3 : k + (a.boxes.length - (k + 1)) ≤ maxLen := by unfold maxLen; omega
    have hm4 : (k + (a.boxes.length - (k + 1))) * 104 ≤ 140737488355328 := by omega
    have hiz : k ≤ cap := by omega
    have hwr : IntKind.i64.wrap ((k : Int) + 1) = (k : Int) + 1 := by simp [IntKind.wrap, IntKind.bits, IntKind.signed]; omega
    have htn : ((k : Int) + 1).toNat = k + 1 := by omega
    have hb0 : (0 : Int) ≤ (k : Int) + 1 := by omega
    have hb1 : (k : Int) + 1 ≤ (a.boxes.length : Int) := by omega
    have hcn : ¬ cap = k + 1 := hce
    clear hgh hel hc2
    go_upto_region 17 with fail
    clear q0 cb
    refine wpS_begin 19 (S := fun w' => w'.cell? ⟨ga, 1, none⟩ = some (.slice (some ⟨g, 0, none⟩) a.boxes.length cap)) (tabS_of (by kernel_rfl) tab_do17) (by kernel_rfl) (HC1.out) (fun hTb hHeld => ?_)
    refine tks 0 0 64 hTb hHeld ?_
    refine tks 1 2 66 hTb hHeld ?_
    refine tks 2 3 67 hTb hHeld ?_
    refine tks 3 4 68 hTb hHeld ?_
    refine tks 4 5 69 hTb hHeld ?_
    refine tks 5 6 70 hTb hHeld ?_
    refine tks 6 7 71 hTb hHeld ?_
    refine tks 7 9 73 hTb hHeld ?_
    refine tks 8 10 74 hTb hHeld ?_
    refine tks 9 11 75 hTb hHeld ?_
    refine tks 10 12 76 hTb hHeld ?_
    refine tks 11 13 77 hTb hHeld ?_
    refine tks 12 14 78 hTb hHeld ?_
    refine tks 13 15 79 hTb hHeld ?_
    refine cls 14 1 hTb (by decide) rfl rfl (fun K hK => ?_)
    go_simp
    have AE : Below w1.drew.heap.size w1.drew (w1.drew.alloc (.cells #[] 35)) := (Below.refl _ _).alloc (Nat.le_refl _) _
    have HOE : Hid _ := owns_empty w1.drew 35 7 w1.drew.heap.size (Nat.le_refl _)
    have HDE : Hid (Below w1.drew.heap.size w1.drew (w1.drew.alloc (.cells #[] 35))) := AE
    refine hK.out _ _ ((AE.cell (p := ⟨ga, 1, none⟩) hga1).trans HC1.out) (fun hHeld => ?_)
    clear hK K
    clear AE
    refine cls 15 8 hTb (by decide) rfl rfl (fun K hK => ?_)
    refine ite_w (by kernel_rfl) (wp_catC (B := w1.drew.heap.size) 72 rfl (.tmp 65) (.tmp 71) rfl HOE.out (src_take ((HDE.out.block g hgd).trans HGH.out) (by omega) (by omega) cap) h1s Tryd.underlying69 hi hz0 hz1 hz2 rfl (by omega) rfl rfl hm1 hm2 HDE.out.size ?_)
    intro V1 w4 hO4 hG4 hB4
    obtain ⟨p1, p2, p3, hV1⟩ := own_form hO4
    subst hV1
    have HD4 : Hid (Below w1.drew.heap.size w1.drew w4) := below_row HDE.out hG4 (fun j hj => own_ge HOE.out hj)
    have HO4 : Hid (w4.ownsRow w1.drew.heap.size 35 7 (.slice p1 p2 p3) k ((cur.toList.take (a.boxes.length * 7)).take (k * 7))) := by simpa [World.ownsRow, Hid] using hO4
    clear hO4 hG4 hB4
    refine hK.out _ _ ((HD4.out.cell (p := ⟨ga, 1, none⟩) hga1).trans HC1.out) (fun hHeld => ?_)
    clear hK K
    refine cls 16 16 hTb (by decide) rfl rfl (fun K hK => ?_)
    have hsrc2 := (src_drop (n := a.boxes.length) (k := k + 1) ((HD4.out.block g hgd).trans HGH.out) (by omega) (by omega) (cap - (k + 1)))
    refine ite_w (by kernel_rfl) (wp_catC (B := w1.drew.heap.size) 80 rfl (.tmp 72) (.tmp 79) rfl HO4.out hsrc2 h2s Tryd.underlying69 hi hz0 hz1 hz2 rfl (by omega) rfl rfl hm3 hm4 HD4.out.size ?_)
    intro V2 w6 hO6 hG6 hB6
    obtain ⟨t1, t2, t3, hV2⟩ := own_form hO6
    subst hV2
    have HD6 : Hid (Below w1.drew.heap.size w1.drew w6) := below_row HD4.out hG6 (fun j hj => own_ge HO4.out hj)
    have HO6 : Hid (w6.ownsRow w1.drew.heap.size 35 7 (.slice t1 t2 t3) (k + (a.boxes.length - (k + 1))) (((cur.toList.take (a.boxes.length * 7)).take (k * 7)) ++ ((cur.toList.take (a.boxes.length * 7)).drop ((k + 1) * 7)))) := by simpa [World.ownsRow, Hid] using hO6
    clear hO6 hG6 hB6 hsrc2
    refine hK.out _ _ ((HD6.out.cell (p := ⟨ga, 1, none⟩) hga1).trans HC1.out) (fun hHeld => ?_)
    clear hK K
    refine tks 17 17 81 hTb hHeld ?_
    refine tks 18 18 82 hTb hHeld ?_
    refine wpS_next (S' := fun w' => True) 19 20 hTb (by decide) (trivial) (fun hHeld => ?_)
    refine cls 19 19 hTb (by decide) rfl rfl (fun K hK => ?_)
    have HA6 : Hid (AccP w6 S0 ga a) := HAD.out.below HD6.out
    have HAZ : Hid (AccP (w6.setCell ⟨ga, 1, none⟩ (.slice t1 t2 t3)) (fun j => S0 j ∨ w1.drew.heap.size ≤ j) ga ⟨a.valid, a.boxes.take k ++ a.boxes.drop (k + 1), a.seen⟩) := delete_end HAD.out HLD.out HD6.out HELD.out HO6.out (by omega) hkl
    have HTZ : Hid (TurnsA w (w6.setCell ⟨ga, 1, none⟩ (.slice t1 t2 t3)) S0 ga) := (TurnsA.below (S := S0) (Below.step HXD.out HD6.out)).trans (TurnsA.set (S := S0) HA6.out) (fun k h => .inl h)
    have HKZ : Hid _ := box_other (k := ga) (i := 1) (v := .slice t1 t2 t3) (box_below HD6.out HKD.out) (by omega)
    have fz7 := HA6.out.open
    obtain ⟨w70, w71, c70, c71, -⟩ := HA6.out.cells
    have hga7 := HA6.out.lt
    go_simp
    refine hK.out _ _ (trivial) (fun hHeld => ?_)
    clear hK K
    refine wpS_end hTb ?_
    go_upto_region 18 with fail
    clear fz7 c70 c71 hga7
    generalize w6.setCell ⟨ga, 1, none⟩ (.slice t1 t2 t3) = w8 at HAZ HTZ HKZ ⊢
    obtain ⟨r0, r1, r2, r3, r4, r5, r6, r7, r8, r9⟩ := bx10 HKZ.out
    have fz : ∀ i, w8.frozen? ⟨w.heap.size + 1, i, none⟩ = false := fun i => frozen_of_row w8 _ i _ _ HKZ.out
    have hlr8 := lt_of_heap HKZ.out
    have hd1 : w1.drew.heap.size = w1.heap.size := rfl
    have HF : Hid _ := rep_turnA (w := w) HKZ.out (by omega) HTZ.out _ _ HAZ.out hlga (fun h => h.elim (fun h => by have := HSL.out _ h; omega) (fun h => by omega)) 0 0 ⟨i64c0, i64c0⟩
    go_wp2
    obtain ⟨f0, f1, f2, f3, f4, f5, f6, f7, f8, f9⟩ := bx10 HF.out.1
    refine bodyPost_ret (v := .agg #[.int .i64 0, .int .i64 0, .slice none 0 0, .int .i64 0, .int .i64 0, .int .i64 0, .slice none 0 0, .slice none 0 0, .int .i64 0, .slice none 0 0]) (by simp [results, Tryd.results38, go_sem, f0, f1, f2, f3, f4, f5, f6, f7, f8, f9]) rfl ⟨_, _, rfl, reps_code HF.out.2.2.2, TurnsA.wide HF.out.2.1 HSUB.out, HF.out.2.2.1, (show ∀ k, (S0 k ∨ w1.drew.heap.size ≤ k) → _ from fun k h => h.elim (fun h => .inl (HSUB.out k h)) (fun h => .inr (by omega)))⟩


end Go.Proofs.YtmonloebkdpahaaDoor

/- What l3changes of package spec does: its reply stays while its own blocks do. -/
namespace Go.Proofs.YtmonloebkdpahaaDoor
open Go.RowKit
set_option maxRecDepth 100000
set_option linter.unusedVariables false
set_option linter.unusedSimpArgs false


set_option maxRecDepth 100000 in
set_option maxHeartbeats 8000000 in
theorem l3changes_s (v : Value) (b : BoxD) (since : Int) (w : World) (hv : BoxV w v b) (hsx : szX b ≤ 2000000) :
    Calls Tryd.prog 72 #[v, .int .i64 since] w fun e w' => ∃ u, e = .returned u ∧ RepS w' w.heap.size u (chgD b since) ∧ Below w.heap.size w w' := by
  obtain ⟨u0, u1, u2, rfl, g0, g1, g2, hint⟩ := hv
  have HINT : Hid (I64 b.valid ∧ I64 b.next ∧ I64 b.seq ∧ I64 b.lost) := hint
  have HNM : Hid (∀ wi, Below w.heap.size w wi → Bs wi u0 b.name) := fun wi h => g0.below h
  have HMM : Hid (MailsV w u1 b.mails) := g1
  have HGG : Hid (GonesV w u2 b.gones) := g2
  have hsz : b.name.length ≤ 2000000 ∧ szM b.mails ≤ 2000000 ∧ b.gones.length ≤ 2000000 := by unfold szX at hsx; omega
  have hmlen : b.mails.length ≤ 2000000 := by have := szM_len b.mails; omega
  have hglen : b.gones.length ≤ 2000000 := hsz.2.2
  have HSX : Hid (szX (chgX b since) ≤ 2000000) := Nat.le_trans (chg_sz b since) hsx
  obtain ⟨a0, an0, ac0, rfl⟩ := g0.form3
  obtain ⟨a1, ac1, rfl, -⟩ := g1.form
  obtain ⟨a2, ac2, rfl, -⟩ := g2.form
  obtain ⟨i0, hi, hz0, hz1, hz2⟩ := info_parts infoMail
  obtain ⟨i1, hj, hy0, hy1, hy2⟩ := info_parts infoGone
  have HB0 : Hid (Below w.heap.size w (((w.alloc (.cells #[.slice a0 an0 ac0, .int .i64 b.valid, .int .i64 b.next, .int .i64 b.seq, .slice a1 b.mails.length ac1, .slice a2 b.gones.length ac2, .int .i64 b.lost] 35)).alloc (.cells #[.int .i64 0, .int .i64 0, .slice none 0 0, .int .i64 0, .int .i64 0, .int .i64 0, .slice none 0 0, .slice none 0 0, .int .i64 0, .slice none 0 0] 37)).alloc (.cells #[.slice a0 an0 ac0, .int .i64 b.valid, .int .i64 b.next, .int .i64 b.seq, .slice none 0 0, .slice none 0 0, .int .i64 b.lost] 35))) := (((Below.refl _ _).alloc (Nat.le_refl _) _).alloc (by simp) _).alloc (by simp; omega) _
  have HKA0 : Hid ((((w.alloc (.cells #[.slice a0 an0 ac0, .int .i64 b.valid, .int .i64 b.next, .int .i64 b.seq, .slice a1 b.mails.length ac1, .slice a2 b.gones.length ac2, .int .i64 b.lost] 35)).alloc (.cells #[.int .i64 0, .int .i64 0, .slice none 0 0, .int .i64 0, .int .i64 0, .int .i64 0, .slice none 0 0, .slice none 0 0, .int .i64 0, .slice none 0 0] 37)).alloc (.cells #[.slice a0 an0 ac0, .int .i64 b.valid, .int .i64 b.next, .int .i64 b.seq, .slice none 0 0, .slice none 0 0, .int .i64 b.lost] 35)).heap[w.heap.size]? = some (.cells #[.slice a0 an0 ac0, .int .i64 b.valid, .int .i64 b.next, .int .i64 b.seq, .slice a1 b.mails.length ac1, .slice a2 b.gones.length ac2, .int .i64 b.lost] 35 (0, 0))) := box_below ((Below.refl _ _).alloc (Nat.le_refl _) _) (boxes2 w _ _).1
  have HKR0 : Hid ((((w.alloc (.cells #[.slice a0 an0 ac0, .int .i64 b.valid, .int .i64 b.next, .int .i64 b.seq, .slice a1 b.mails.length ac1, .slice a2 b.gones.length ac2, .int .i64 b.lost] 35)).alloc (.cells #[.int .i64 0, .int .i64 0, .slice none 0 0, .int .i64 0, .int .i64 0, .int .i64 0, .slice none 0 0, .slice none 0 0, .int .i64 0, .slice none 0 0] 37)).alloc (.cells #[.slice a0 an0 ac0, .int .i64 b.valid, .int .i64 b.next, .int .i64 b.seq, .slice none 0 0, .slice none 0 0, .int .i64 b.lost] 35)).heap[w.heap.size + 1]? = some (.cells #[.int .i64 0, .int .i64 0, .slice none 0 0, .int .i64 0, .int .i64 0, .int .i64 0, .slice none 0 0, .slice none 0 0, .int .i64 0, .slice none 0 0] 37 (0, 0))) := box_below ((Below.refl _ _).alloc (Nat.le_refl _) _) (boxes2 w _ _).2.1
  have HX0 : Hid ((((w.alloc (.cells #[.slice a0 an0 ac0, .int .i64 b.valid, .int .i64 b.next, .int .i64 b.seq, .slice a1 b.mails.length ac1, .slice a2 b.gones.length ac2, .int .i64 b.lost] 35)).alloc (.cells #[.int .i64 0, .int .i64 0, .slice none 0 0, .int .i64 0, .int .i64 0, .int .i64 0, .slice none 0 0, .slice none 0 0, .int .i64 0, .slice none 0 0] 37)).alloc (.cells #[.slice a0 an0 ac0, .int .i64 b.valid, .int .i64 b.next, .int .i64 b.seq, .slice none 0 0, .slice none 0 0, .int .i64 b.lost] 35)).heap[w.heap.size + 2]? = some (.cells #[.slice a0 an0 ac0, .int .i64 b.valid, .int .i64 b.next, .int .i64 b.seq, .slice none 0 0, .slice none 0 0, .int .i64 b.lost] 35 (0, 0))) := by
    have h := box_new ((w.alloc (.cells #[.slice a0 an0 ac0, .int .i64 b.valid, .int .i64 b.next, .int .i64 b.seq, .slice a1 b.mails.length ac1, .slice a2 b.gones.length ac2, .int .i64 b.lost] 35)).alloc (.cells #[.int .i64 0, .int .i64 0, .slice none 0 0, .int .i64 0, .int .i64 0, .int .i64 0, .slice none 0 0, .slice none 0 0, .int .i64 0, .slice none 0 0] 37)) (.cells #[.slice a0 an0 ac0, .int .i64 b.valid, .int .i64 b.next, .int .i64 b.seq, .slice none 0 0, .slice none 0 0, .int .i64 b.lost] 35)
    rw [show ((w.alloc (.cells #[.slice a0 an0 ac0, .int .i64 b.valid, .int .i64 b.next, .int .i64 b.seq, .slice a1 b.mails.length ac1, .slice a2 b.gones.length ac2, .int .i64 b.lost] 35)).alloc (.cells #[.int .i64 0, .int .i64 0, .slice none 0 0, .int .i64 0, .int .i64 0, .int .i64 0, .slice none 0 0, .slice none 0 0, .int .i64 0, .slice none 0 0] 37)).heap.size = w.heap.size + 2 by simp] at h
    exact h
  have hs0 : (((w.alloc (.cells #[.slice a0 an0 ac0, .int .i64 b.valid, .int .i64 b.next, .int .i64 b.seq, .slice a1 b.mails.length ac1, .slice a2 b.gones.length ac2, .int .i64 b.lost] 35)).alloc (.cells #[.int .i64 0, .int .i64 0, .slice none 0 0, .int .i64 0, .int .i64 0, .int .i64 0, .slice none 0 0, .slice none 0 0, .int .i64 0, .slice none 0 0] 37)).alloc (.cells #[.slice a0 an0 ac0, .int .i64 b.valid, .int .i64 b.next, .int .i64 b.seq, .slice none 0 0, .slice none 0 0, .int .i64 b.lost] 35)).heap.size = w.heap.size + 3 := by simp
  have HS0 : Hid _ := hs0
  clear g0 g1 g2 hint hs0
  by_cases hst : since < b.lost
  · have HC : Hid (chgD b since = ⟨4, b.lost, zeroX, []⟩) := by show _ = _; unfold chgD; rw [if_pos hst]
    obtain ⟨r0, r1, r2, r3, r4, r5, r6, r7, r8, r9⟩ := bx10 HKR0.out
    have HBs : Hid (Below w.heap.size w (((w.alloc (.cells #[.slice a0 an0 ac0, .int .i64 b.valid, .int .i64 b.next, .int .i64 b.seq, .slice a1 b.mails.length ac1, .slice a2 b.gones.length ac2, .int .i64 b.lost] 35)).alloc (.cells #[.int .i64 4, .int .i64 b.lost, .slice none 0 0, .int .i64 0, .int .i64 0, .int .i64 0, .slice none 0 0, .slice none 0 0, .int .i64 0, .slice none 0 0] 37)).alloc (.cells #[.slice a0 an0 ac0, .int .i64 b.valid, .int .i64 b.next, .int .i64 b.seq, .slice none 0 0, .slice none 0 0, .int .i64 b.lost] 35))) := (((Below.refl _ _).alloc (Nat.le_refl _) _).alloc (by simp) _).alloc (by simp; omega) _
    clear r0 r1 r2 r3 r4 r5 r6 r7 r8 r9 HB0 HKA0 HKR0 HX0 HS0
    go_enter Tryd.func72, Tryd.ntmps72
    go_wp2
    refine bodyPost_ret (v := .agg #[.int .i64 4, .int .i64 b.lost, .slice none 0 0, .int .i64 0, .int .i64 0, .int .i64 0, .slice none 0 0, .slice none 0 0, .int .i64 0, .slice none 0 0]) (by simp [results, Tryd.results72, go_sem]) rfl ⟨_, rfl, ?_, ?_⟩
    · rw [HC.out]
      exact ⟨fun w' _ _ => ⟨_, _, _, _, rfl, ⟨_, _, _, rfl, bs_nil' _, Rd.nil _, Rd.nil _, i64c0, i64c0, i64c0, i64c0⟩, Rd.nil _, i64c4, HINT.out.2.2.2⟩, _, _, _, _, _, _, _, _, _, _, rfl, .inl ⟨rfl, rfl⟩⟩
    · exact HBs.out
  have HC : Hid (chgD b since = ⟨0, 0, chgX b since, []⟩) := by show _ = _; unfold chgD; rw [if_neg hst]
  obtain ⟨N, hNe⟩ : ∃ N, N = w.heap.size + 3 := ⟨_, rfl⟩
  go_enter Tryd.func72, Tryd.ntmps72
  go_wp2
  generalize hw0 : (((w.alloc (.cells #[.slice a0 an0 ac0, .int .i64 b.valid, .int .i64 b.next, .int .i64 b.seq, .slice a1 b.mails.length ac1, .slice a2 b.gones.length ac2, .int .i64 b.lost] 35)).alloc (.cells #[.int .i64 0, .int .i64 0, .slice none 0 0, .int .i64 0, .int .i64 0, .int .i64 0, .slice none 0 0, .slice none 0 0, .int .i64 0, .slice none 0 0] 37)).alloc (.cells #[.slice a0 an0 ac0, .int .i64 b.valid, .int .i64 b.next, .int .i64 b.seq, .slice none 0 0, .slice none 0 0, .int .i64 b.lost] 35)) = w0 at *
  clear hw0
  have hN0 : N ≤ w0.heap.size := by have := HS0.out; omega
  clear HS0
  go_loopw [6] (fun i wr => ∃ (k : Nat) (va : Option Addr) (vn vc : Nat), k ≤ b.mails.length ∧ i = .int .i64 k ∧ Hid (Below w.heap.size w wr) ∧ Hid (wr.heap[w.heap.size]? = some (.cells #[.slice a0 an0 ac0, .int .i64 b.valid, .int .i64 b.next, .int .i64 b.seq, .slice a1 b.mails.length ac1, .slice a2 b.gones.length ac2, .int .i64 b.lost] 35 (0, 0))) ∧ Hid (wr.heap[w.heap.size + 1]? = some (.cells #[.int .i64 0, .int .i64 0, .slice none 0 0, .int .i64 0, .int .i64 0, .int .i64 0, .slice none 0 0, .slice none 0 0, .int .i64 0, .slice none 0 0] 37 (0, 0))) ∧ Hid (wr.heap[w.heap.size + 2]? = some (.cells #[.slice a0 an0 ac0, .int .i64 b.valid, .int .i64 b.next, .int .i64 b.seq, .slice va vn vc, .slice none 0 0, .int .i64 b.lost] 35 (0, 0))) ∧ N ≤ wr.heap.size ∧ Hid (MailsW w wr N wr.heap.size (.slice va vn vc) ((b.mails.take k).filter (fun m : MailD => decide (since < m.seq))))) (fun i _ => b.mails.length - (intOf i).toNat)
  case atStart => exact ⟨0, none, 0, 0, Nat.zero_le _, rfl, HB0, HKA0, HKR0, HX0, hN0, .inl ⟨rfl, rfl⟩⟩
  case round =>
    clear HB0 HKA0 HKR0 HX0 hN0
    obtain ⟨k, va, vn, vc, hk, rfl, HB, HKA, HKR, HX, hs, HO⟩ := hrel
    obtain ⟨c0, c1, c2, c3, c4, c5, c6⟩ := bx7 HKA.out
    obtain ⟨y0, y1, y2, y3, y4, y5, y6⟩ := bx7 HX.out
    have lA := lt_of_heap HKA.out
    have lX := lt_of_heap HX.out
    by_cases hlt : k < b.mails.length
    · obtain ⟨x, hx⟩ : ∃ x, b.mails[k]? = some x := ⟨b.mails[k], List.getElem?_eq_getElem hlt⟩
      obtain ⟨bb, off, cp, t, hv', hlb, e0, e1, e2, e3, ht, hxi⟩ := MailsV.cell HMM.out k x hx
      simp only [Value.slice.injEq, true_and] at hv'
      obtain ⟨rfl, rfl⟩ := hv'
      have HRE : Hid (MailRE w [.int .i64 x.uid, .int .i64 x.flags, .int .i64 x.seq, t] x) := ⟨_, rfl, ht, hxi⟩
      obtain ⟨ta, tn, tc, rfl⟩ := ht.form3
      clear ht hxi
      have E0 := e0
      have E1 := e1
      have E2 := e2
      have E3 := e3
      replace e0 := cell_later HB.out e0
      replace e1 := cell_later HB.out e1
      replace e2 := cell_later HB.out e2
      replace e3 := cell_later HB.out e3
      have hlb2 : bb < wr.heap.size := Nat.lt_of_lt_of_le hlb HB.out.size
      have HXX : Hid (b.mails[k]? = some x) := hx
      have hki : (k : Int) < b.mails.length := by omega
      clear hx
      by_cases hq : since < x.seq
      · have HQ : Hid (since < x.seq) := hq
        have HS : Hid (∀ w', Below wr.heap.size wr w' → (w'.cell? ⟨w.heap.size + 2, 4, none⟩ = some (.slice va vn vc) ∧ w'.cell? ⟨w.heap.size, 4, none⟩ = some (.slice (some ⟨bb, off, none⟩) b.mails.length ac1)) ∧ w'.cell? ⟨bb, off + k * 4, none⟩ = some (.int .i64 x.uid) ∧ w'.cell? ⟨bb, off + k * 4 + 1, none⟩ = some (.int .i64 x.flags) ∧ w'.cell? ⟨bb, off + k * 4 + 2, none⟩ = some (.int .i64 x.seq) ∧ w'.cell? ⟨bb, off + k * 4 + 3, none⟩ = some (.slice ta tn tc)) := fun w' h => ⟨⟨cell_later h y4, cell_later h c4⟩, cell_later h e0, cell_later h e1, cell_later h e2, cell_later h e3⟩
        have DR : Below wr.heap.size wr wr.drew := (Below.refl _ _).drew
        go_upto_region 8 with fail
        clear c0 c1 c2 c3 c4 c5 c6 y0 y1 y2 y3 y4 y5 y6
        refine wpS_begin 9 (S := fun w' => (w'.cell? ⟨w.heap.size + 2, 4, none⟩ = some (.slice va vn vc) ∧ w'.cell? ⟨w.heap.size, 4, none⟩ = some (.slice (some ⟨bb, off, none⟩) b.mails.length ac1)) ∧ w'.cell? ⟨bb, off + k * 4, none⟩ = some (.int .i64 x.uid) ∧ w'.cell? ⟨bb, off + k * 4 + 1, none⟩ = some (.int .i64 x.flags) ∧ w'.cell? ⟨bb, off + k * 4 + 2, none⟩ = some (.int .i64 x.seq) ∧ w'.cell? ⟨bb, off + k * 4 + 3, none⟩ = some (.slice ta tn tc)) (tabS_of (by kernel_rfl) tabS_chg8) (by kernel_rfl) (HS.out _ DR) (fun hTb hHeld => ?_)
        refine tks 0 0 41 hTb hHeld ?_
        refine tks 1 1 42 hTb hHeld ?_
        refine tks 2 2 43 hTb hHeld ?_
        refine tks 3 3 44 hTb hHeld ?_
        refine tks 4 4 45 hTb hHeld ?_
        refine tks 5 5 46 hTb hHeld ?_
        refine tks 6 6 47 hTb hHeld ?_
        refine cls 7 7 hTb (by decide) rfl rfl (fun K hK => ?_)
        go_simp
        have AB : Below wr.heap.size wr (wr.drew.alloc (.cells #[.int .i64 x.uid, .int .i64 x.flags, .int .i64 x.seq, .slice ta tn tc] 54)) := (Below.refl _ _).drew.alloc (Nat.le_refl _) _
        refine hK.out _ _ (HS.out _ AB) (fun hHeld => ?_)
        clear hK K
        refine cls 8 8 hTb (by decide) rfl rfl (fun K hK => ?_)
        have hMs : wr.heap.size ≤ (wr.drew.alloc (.cells #[.int .i64 x.uid, .int .i64 x.flags, .int .i64 x.seq, .slice ta tn tc] 54)).heap.size := AB.size
        have HEa : MailWE w (wr.drew.alloc (.cells #[.int .i64 x.uid, .int .i64 x.flags, .int .i64 x.seq, .slice ta tn tc] 54)) [.int .i64 x.uid, .int .i64 x.flags, .int .i64 x.seq, .slice ta tn tc] x (In wr.heap.size (wr.drew.alloc (.cells #[.int .i64 x.uid, .int .i64 x.flags, .int .i64 x.seq, .slice ta tn tc] 54)).heap.size) := HRE.out
        have hfl : ((b.mails.take k).filter (fun m : MailD => decide (since < m.seq))).length ≤ k := Nat.le_trans (List.length_filter_le _ _) (by simp; omega)
        have hp1 : ((b.mails.take k).filter (fun m : MailD => decide (since < m.seq))).length + 1 ≤ maxLen := by unfold maxLen; omega
        have hp2 : (((b.mails.take k).filter (fun m : MailD => decide (since < m.seq))).length + 1) * 48 ≤ 140737488355328 := by omega
        refine ite_w (by kernel_rfl) (wp_push 49 rfl (.tmp 42) (.tmp 48) rfl (framesMW w) (B := N) (M := wr.heap.size) (Ow.below (framesMW w) HO.out AB) hMs hs Tryd.underlying32 hi hz0 hz1 hz2 rfl (by omega) rfl x [.int .i64 x.uid, .int .i64 x.flags, .int .i64 x.seq, .slice ta tn tc] rfl HEa ⟨wr.heap.size, 0, none⟩ 1 rfl (cells_new wr.drew _ _) one4' hp1 hp2 ?_)
        intro DV wz hO hgz hvz
        obtain ⟨da, dn, dc, hDV⟩ := OwF.form3 hO
        subst hDV
        clear hfl
        have hge : ∀ j, (Value.slice va vn vc).ownBlock = some j → N ≤ j := fun j hj => (hvz j hj).1
        have KX := grown_at hgz hge (box_below AB HX.out) (by omega)
        have HKAz := hidm' (grown_at hgz hge (box_below AB HKA.out) (by omega))
        have HKRz := hidm' (grown_at hgz hge (box_below AB HKR.out) (by omega))
        have HBz : Hid (Below w.heap.size w wz) := grown_below (Below.step HB.out AB) hgz hge (by omega) (by have := AB.size; omega)
        have sz : wr.heap.size ≤ wz.heap.size := Nat.le_trans AB.size hgz.size
        obtain ⟨zx, zl⟩ := box8z KX
        obtain ⟨d0, d1, d2, d3, d4, d5, d6⟩ := bx7 KX
        refine hK.out _ _ (⟨⟨d4, (bx7 HKAz.out).2.2.2.2.1⟩, (cell_later HBz.out E0), (cell_later HBz.out E1), (cell_later HBz.out E2), (cell_later HBz.out E3)⟩) (fun hHeld => ?_)
        clear hK K
        refine wpS_next (S' := fun w' => True) 9 11 hTb (by decide) (trivial) (fun hHeld => ?_)
        refine tks 9 9 50 hTb hHeld ?_
        refine cls 10 10 hTb (by decide) rfl rfl (fun K hK => ?_)
        go_simp
        refine hK.out _ _ (trivial) (fun hHeld => ?_)
        clear hK K
        refine wpS_end hTb ?_
        have HX9 : Hid ((wz.setCell ⟨w.heap.size + 2, 4, none⟩ (.slice da dn dc)).heap[w.heap.size + 2]? = some (.cells #[.slice a0 an0 ac0, .int .i64 b.valid, .int .i64 b.next, .int .i64 b.seq, .slice da dn dc, .slice none 0 0, .int .i64 b.lost] 35 (0, 0))) := box_set KX
        have HKA9 := hidm' (box_other (k := w.heap.size + 2) (i := 4) (v := .slice da dn dc) HKAz.out (by omega))
        have HKR9 := hidm' (box_other (k := w.heap.size + 2) (i := 4) (v := .slice da dn dc) HKRz.out (by omega))
        have HB9 : Hid (Below w.heap.size w (wz.setCell ⟨w.heap.size + 2, 4, none⟩ (.slice da dn dc))) := HBz.out.setCell (p := ⟨w.heap.size + 2, 4, none⟩) (by simp) _
        have hfx : (b.mails.take (k + 1)).filter (fun m : MailD => decide (since < m.seq)) = (b.mails.take k).filter (fun m : MailD => decide (since < m.seq)) ++ [x] := by rw [take_snoc HXX.out, List.filter_append]; simp [HQ.out]
        have HO9 : Hid (MailsW w (wz.setCell ⟨w.heap.size + 2, 4, none⟩ (.slice da dn dc)) N (wz.setCell ⟨w.heap.size + 2, 4, none⟩ (.slice da dn dc)).heap.size (.slice da dn dc) ((b.mails.take (k + 1)).filter (fun m : MailD => decide (since < m.seq)))) := by show MailsW w _ _ _ _ _; rw [box_size, hfx]; exact mw_set hO (.inl (by omega))
        have hs9 : N ≤ (wz.setCell ⟨w.heap.size + 2, 4, none⟩ (.slice da dn dc)).heap.size := by rw [box_size]; have := AB.size; omega
        clear KX HKAz HKRz HBz HX HKA HKR HB HO HEa hO hgz hvz hge AB DR HS HRE hfx e0 E0 e1 E1 e2 E2 e3 E3
        go_wp2
        go_roundw
        case rel => exact ⟨k + 1, da, dn, dc, by omega, by go_num, HB9, HKA9, HKR9, HX9, hs9, HO9⟩
        case measure => simp [intOf]; omega
      · have hfx : (b.mails.take (k + 1)).filter (fun m : MailD => decide (since < m.seq)) = (b.mails.take k).filter (fun m : MailD => decide (since < m.seq)) := by rw [take_snoc HXX.out, List.filter_append]; simp [hq]
        have HO9 : Hid (MailsW w wr N wr.heap.size (.slice va vn vc) ((b.mails.take (k + 1)).filter (fun m : MailD => decide (since < m.seq)))) := by show MailsW w _ _ _ _ _; rw [hfx]; exact HO.out
        clear hfx HO
        go_wp2
        go_roundw
        case rel => exact ⟨k + 1, va, vn, vc, by omega, by go_num, HB, HKA, HKR, HX, hs, HO9⟩
        case measure => simp [intOf]; omega
    · obtain rfl : k = b.mails.length := by omega
      have HBa := HB
      have HKAa := HKA
      have HKRa := HKR
      have HXa := HX
      have HOMa : Hid (MailsW w wr N wr.heap.size (.slice va vn vc) (b.mails.filter (fun m : MailD => decide (since < m.seq)))) := by have h := HO.out; rw [List.take_length] at h; exact h
      obtain ⟨M1, hM1⟩ : ∃ M, M = wr.heap.size := ⟨_, rfl⟩
      clear HO
      go_wp2
      clear c0 c1 c2 c3 c4 c5 c6 y0 y1 y2 y3 y4 y5 y6 HB HKA HKR HX
      rw [← hM1] at HOMa
      have hMN : N ≤ M1 := by omega
      clear hs
      go_loopw [7] (fun i wr => ∃ (k : Nat) (ga : Option Addr) (gn gc : Nat), k ≤ b.gones.length ∧ i = .int .i64 k ∧ Hid (Below w.heap.size w wr) ∧ Hid (wr.heap[w.heap.size]? = some (.cells #[.slice a0 an0 ac0, .int .i64 b.valid, .int .i64 b.next, .int .i64 b.seq, .slice a1 b.mails.length ac1, .slice a2 b.gones.length ac2, .int .i64 b.lost] 35 (0, 0))) ∧ Hid (wr.heap[w.heap.size + 1]? = some (.cells #[.int .i64 0, .int .i64 0, .slice none 0 0, .int .i64 0, .int .i64 0, .int .i64 0, .slice none 0 0, .slice none 0 0, .int .i64 0, .slice none 0 0] 37 (0, 0))) ∧ Hid (wr.heap[w.heap.size + 2]? = some (.cells #[.slice a0 an0 ac0, .int .i64 b.valid, .int .i64 b.next, .int .i64 b.seq, .slice va vn vc, .slice ga gn gc, .int .i64 b.lost] 35 (0, 0))) ∧ M1 ≤ wr.heap.size ∧ Hid (MailsW w wr N M1 (.slice va vn vc) (b.mails.filter (fun m : MailD => decide (since < m.seq)))) ∧ Hid (GonesR wr M1 wr.heap.size (.slice ga gn gc) ((b.gones.take k).filter (fun m : GoneD => decide (since < m.seq))))) (fun i _ => b.gones.length - (intOf i).toNat)
      case atStart => exact ⟨0, none, 0, 0, Nat.zero_le _, rfl, HBa, HKAa, HKRa, HXa, (show M1 ≤ wr.heap.size by omega), HOMa, .inl ⟨rfl, rfl⟩⟩
      case round =>
        obtain ⟨k, ga, gn, gc, hk, rfl, HB, HKA, HKR, HX, hs, HOM', HO⟩ := hrel
        clear HBa HKAa HKRa HXa HOMa
        obtain ⟨c0, c1, c2, c3, c4, c5, c6⟩ := bx7 HKA.out
        obtain ⟨y0, y1, y2, y3, y4, y5, y6⟩ := bx7 HX.out
        have lA := lt_of_heap HKA.out
        have lX := lt_of_heap HX.out
        by_cases hlt : k < b.gones.length
        · obtain ⟨x, hx⟩ : ∃ x, b.gones[k]? = some x := ⟨b.gones[k], List.getElem?_eq_getElem hlt⟩
          obtain ⟨bb, off, cp, hv', hlb, e0, e1, hxi⟩ := GonesV.cell HGG.out k x hx
          simp only [Value.slice.injEq, true_and] at hv'
          obtain ⟨rfl, rfl⟩ := hv'
          have HRE : Hid (I64 x.uid ∧ I64 x.seq) := hxi
          clear hxi
          have E0 := e0
          have E1 := e1
          replace e0 := cell_later HB.out e0
          replace e1 := cell_later HB.out e1
          have hlb2 : bb < wr.heap.size := Nat.lt_of_lt_of_le hlb HB.out.size
          have HXX : Hid (b.gones[k]? = some x) := hx
          have hki : (k : Int) < b.gones.length := by omega
          clear hx
          by_cases hq : since < x.seq
          · have HQ : Hid (since < x.seq) := hq
            have HS : Hid (∀ w', Below wr.heap.size wr w' → (w'.cell? ⟨w.heap.size + 2, 5, none⟩ = some (.slice ga gn gc) ∧ w'.cell? ⟨w.heap.size, 5, none⟩ = some (.slice (some ⟨bb, off, none⟩) b.gones.length ac2)) ∧ w'.cell? ⟨bb, off + k * 2, none⟩ = some (.int .i64 x.uid) ∧ w'.cell? ⟨bb, off + k * 2 + 1, none⟩ = some (.int .i64 x.seq)) := fun w' h => ⟨⟨cell_later h y5, cell_later h c5⟩, cell_later h e0, cell_later h e1⟩
            have DR : Below wr.heap.size wr wr.drew := (Below.refl _ _).drew
            go_upto_region 13 with fail
            clear c0 c1 c2 c3 c4 c5 c6 y0 y1 y2 y3 y4 y5 y6
            refine wpS_begin 9 (S := fun w' => (w'.cell? ⟨w.heap.size + 2, 5, none⟩ = some (.slice ga gn gc) ∧ w'.cell? ⟨w.heap.size, 5, none⟩ = some (.slice (some ⟨bb, off, none⟩) b.gones.length ac2)) ∧ w'.cell? ⟨bb, off + k * 2, none⟩ = some (.int .i64 x.uid) ∧ w'.cell? ⟨bb, off + k * 2 + 1, none⟩ = some (.int .i64 x.seq)) (tabS_of (by kernel_rfl) tabS_chg13) (by kernel_rfl) (HS.out _ DR) (fun hTb hHeld => ?_)
            refine tks 0 0 66 hTb hHeld ?_
            refine tks 1 1 67 hTb hHeld ?_
            refine tks 2 2 68 hTb hHeld ?_
            refine tks 3 3 69 hTb hHeld ?_
            refine tks 4 4 70 hTb hHeld ?_
            refine tks 5 5 71 hTb hHeld ?_
            refine tks 6 6 72 hTb hHeld ?_
            refine cls 7 7 hTb (by decide) rfl rfl (fun K hK => ?_)
            go_simp
            have AB : Below wr.heap.size wr (wr.drew.alloc (.cells #[.int .i64 x.uid, .int .i64 x.seq] 57)) := (Below.refl _ _).drew.alloc (Nat.le_refl _) _
            refine hK.out _ _ (HS.out _ AB) (fun hHeld => ?_)
            clear hK K
            refine cls 8 8 hTb (by decide) rfl rfl (fun K hK => ?_)
            have hMs : wr.heap.size ≤ (wr.drew.alloc (.cells #[.int .i64 x.uid, .int .i64 x.seq] 57)).heap.size := AB.size
            have HEa : GoneE (wr.drew.alloc (.cells #[.int .i64 x.uid, .int .i64 x.seq] 57)) [.int .i64 x.uid, .int .i64 x.seq] x (In wr.heap.size (wr.drew.alloc (.cells #[.int .i64 x.uid, .int .i64 x.seq] 57)).heap.size) := ⟨rfl, HRE.out⟩
            have hfl : ((b.gones.take k).filter (fun m : GoneD => decide (since < m.seq))).length ≤ k := Nat.le_trans (List.length_filter_le _ _) (by simp; omega)
            have hp1 : ((b.gones.take k).filter (fun m : GoneD => decide (since < m.seq))).length + 1 ≤ maxLen := by unfold maxLen; omega
            have hp2 : (((b.gones.take k).filter (fun m : GoneD => decide (since < m.seq))).length + 1) * 16 ≤ 140737488355328 := by omega
            refine ite_w (by kernel_rfl) (wp_push 74 rfl (.tmp 67) (.tmp 73) rfl framesGone (B := M1) (M := wr.heap.size) (Ow.below framesGone HO.out AB) hMs hs Tryd.underlying33 hj hy0 hy1 hy2 rfl (by omega) rfl x [.int .i64 x.uid, .int .i64 x.seq] rfl HEa ⟨wr.heap.size, 0, none⟩ 1 rfl (cells_new wr.drew _ _) one2' hp1 hp2 ?_)
            intro DV wz hO hgz hvz
            obtain ⟨da, dn, dc, hDV⟩ := OwF.form3 hO
            subst hDV
            clear hfl
            have hge : ∀ j, (Value.slice ga gn gc).ownBlock = some j → M1 ≤ j := fun j hj => (hvz j hj).1
            have KX := grown_at hgz hge (box_below AB HX.out) (by omega)
            have HKAz := hidm' (grown_at hgz hge (box_below AB HKA.out) (by omega))
            have HKRz := hidm' (grown_at hgz hge (box_below AB HKR.out) (by omega))
            have HBz : Hid (Below w.heap.size w wz) := grown_below (Below.step HB.out AB) hgz hge (by omega) (by have := AB.size; omega)
            have HOMz : Hid (MailsW w wz N M1 (.slice va vn vc) (b.mails.filter (fun m : MailD => decide (since < m.seq)))) := mw_gr' (Ow.below (framesMW w) HOM'.out AB) hgz hge
            have sz : wr.heap.size ≤ wz.heap.size := Nat.le_trans AB.size hgz.size
            obtain ⟨zx, zl⟩ := box8z KX
            obtain ⟨d0, d1, d2, d3, d4, d5, d6⟩ := bx7 KX
            refine hK.out _ _ (⟨⟨d5, (bx7 HKAz.out).2.2.2.2.2.1⟩, (cell_later HBz.out E0), (cell_later HBz.out E1)⟩) (fun hHeld => ?_)
            clear hK K
            refine wpS_next (S' := fun w' => True) 9 11 hTb (by decide) (trivial) (fun hHeld => ?_)
            refine tks 9 9 75 hTb hHeld ?_
            refine cls 10 10 hTb (by decide) rfl rfl (fun K hK => ?_)
            go_simp
            refine hK.out _ _ (trivial) (fun hHeld => ?_)
            clear hK K
            refine wpS_end hTb ?_
            have HX9 : Hid ((wz.setCell ⟨w.heap.size + 2, 5, none⟩ (.slice da dn dc)).heap[w.heap.size + 2]? = some (.cells #[.slice a0 an0 ac0, .int .i64 b.valid, .int .i64 b.next, .int .i64 b.seq, .slice va vn vc, .slice da dn dc, .int .i64 b.lost] 35 (0, 0))) := box_set KX
            have HKA9 := hidm' (box_other (k := w.heap.size + 2) (i := 5) (v := .slice da dn dc) HKAz.out (by omega))
            have HKR9 := hidm' (box_other (k := w.heap.size + 2) (i := 5) (v := .slice da dn dc) HKRz.out (by omega))
            have HB9 : Hid (Below w.heap.size w (wz.setCell ⟨w.heap.size + 2, 5, none⟩ (.slice da dn dc))) := HBz.out.setCell (p := ⟨w.heap.size + 2, 5, none⟩) (by simp) _
            have hfx : (b.gones.take (k + 1)).filter (fun m : GoneD => decide (since < m.seq)) = (b.gones.take k).filter (fun m : GoneD => decide (since < m.seq)) ++ [x] := by rw [take_snoc HXX.out, List.filter_append]; simp [HQ.out]
            have HO9 : Hid (GonesR (wz.setCell ⟨w.heap.size + 2, 5, none⟩ (.slice da dn dc)) M1 (wz.setCell ⟨w.heap.size + 2, 5, none⟩ (.slice da dn dc)).heap.size (.slice da dn dc) ((b.gones.take (k + 1)).filter (fun m : GoneD => decide (since < m.seq)))) := by show GonesR _ _ _ _ _; rw [box_size, hfx]; exact OwR.set hO (.inl (by omega))
            have HOM9 : Hid (MailsW w (wz.setCell ⟨w.heap.size + 2, 5, none⟩ (.slice da dn dc)) N M1 (.slice va vn vc) (b.mails.filter (fun m : MailD => decide (since < m.seq)))) := mw_set HOMz.out (.inl (by omega))
            have hs9 : M1 ≤ (wz.setCell ⟨w.heap.size + 2, 5, none⟩ (.slice da dn dc)).heap.size := by rw [box_size]; have := AB.size; omega
            clear KX HKAz HKRz HBz HX HKA HKR HB HO HEa hO hgz hvz hge AB DR HS HRE hfx e0 E0 e1 E1 HOM' HOMz
            go_wp2
            go_roundw
            case rel => exact ⟨k + 1, da, dn, dc, by omega, by go_num, HB9, HKA9, HKR9, HX9, hs9, HOM9, HO9⟩
            case measure => simp [intOf]; omega
          · have hfx : (b.gones.take (k + 1)).filter (fun m : GoneD => decide (since < m.seq)) = (b.gones.take k).filter (fun m : GoneD => decide (since < m.seq)) := by rw [take_snoc HXX.out, List.filter_append]; simp [hq]
            have HO9 : Hid (GonesR wr M1 wr.heap.size (.slice ga gn gc) ((b.gones.take (k + 1)).filter (fun m : GoneD => decide (since < m.seq)))) := by show GonesR _ _ _ _ _; rw [hfx]; exact HO.out
            clear hfx HO
            go_wp2
            go_roundw
            case rel => exact ⟨k + 1, ga, gn, gc, by omega, by go_num, HB, HKA, HKR, HX, hs, HOM', HO9⟩
            case measure => simp [intOf]; omega
        · obtain rfl : k = b.gones.length := by omega
          have HOG : Hid (GonesR wr M1 wr.heap.size (.slice ga gn gc) (b.gones.filter (fun m : GoneD => decide (since < m.seq)))) := by have h := HO.out; rw [List.take_length] at h; exact h
          have HBX : Hid (BoxV wr (.agg #[.slice a0 an0 ac0, .int .i64 b.valid, .int .i64 b.next, .int .i64 b.seq, .slice va vn vc, .slice ga gn gc, .int .i64 b.lost]) (chgX b since)) := ⟨_, _, _, rfl, HNM.out wr HB.out, MailsW.v HOM'.out HB.out, Ow.rd (fun _ _ _ _ h => h) HOG.out, HINT.out⟩
          clear HO
          go_wp2_with fail
          refine (l3ownBox_r _ (chgX b since) _ HBX.out HSX.out).mono ?_
          rintro e w9 ⟨u, rfl, ⟨cs, hcs, hE⟩, B9⟩
          subst hcs
          obtain ⟨o0, on0, oc0, o1, on1, oc1, o2, on2, oc2, rfl⟩ := boxE_form hE
          have KR9 := box_below B9 HKR.out
          have HB9 : Hid (Below w.heap.size w w9) := Below.step HB.out B9
          have HBw : Hid (w.heap.size ≤ wr.heap.size) := HB.out.size
          have HE9 : Hid (BoxRE w9 [.slice o0 on0 oc0, .int .i64 (chgX b since).valid, .int .i64 (chgX b since).next, .int .i64 (chgX b since).seq, .slice o1 on1 oc1, .slice o2 on2 oc2, .int .i64 (chgX b since).lost] (chgX b since)) := hE.rd
          have HEO : Hid (BoxE w9 [.slice o0 on0 oc0, .int .i64 (chgX b since).valid, .int .i64 (chgX b since).next, .int .i64 (chgX b since).seq, .slice o1 on1 oc1, .slice o2 on2 oc2, .int .i64 (chgX b since).lost] (chgX b since) (In wr.heap.size w9.heap.size)) := hE
          obtain ⟨r0, r1, r2, r3, r4, r5, r6, r7, r8, r9⟩ := bx10 KR9
          obtain ⟨rz, rl⟩ := box8z KR9
          have KF := (box_set (i := 9) (v := .slice none 0 0) (box_set (i := 8) (v := .int .i64 (chgX b since).lost) (box_set (i := 7) (v := .slice o2 on2 oc2) (box_set (i := 6) (v := .slice o1 on1 oc1) (box_set (i := 5) (v := .int .i64 (chgX b since).seq) (box_set (i := 4) (v := .int .i64 (chgX b since).next) (box_set (i := 3) (v := .int .i64 (chgX b since).valid) (box_set (i := 2) (v := .slice o0 on0 oc0) (box_set (i := 1) (v := .int .i64 0) (box_set (i := 0) (v := .int .i64 0) KR9))))))))))
          obtain ⟨f0, f1, f2, f3, f4, f5, f6, f7, f8, f9⟩ := bx10 KF
          have HBf : Hid (Below w.heap.size w ((((((((((w9.setCell ⟨w.heap.size + 1, 0, none⟩ (.int .i64 0)).setCell ⟨w.heap.size + 1, 1, none⟩ (.int .i64 0)).setCell ⟨w.heap.size + 1, 2, none⟩ (.slice o0 on0 oc0)).setCell ⟨w.heap.size + 1, 3, none⟩ (.int .i64 (chgX b since).valid)).setCell ⟨w.heap.size + 1, 4, none⟩ (.int .i64 (chgX b since).next)).setCell ⟨w.heap.size + 1, 5, none⟩ (.int .i64 (chgX b since).seq)).setCell ⟨w.heap.size + 1, 6, none⟩ (.slice o1 on1 oc1)).setCell ⟨w.heap.size + 1, 7, none⟩ (.slice o2 on2 oc2)).setCell ⟨w.heap.size + 1, 8, none⟩ (.int .i64 (chgX b since).lost)).setCell ⟨w.heap.size + 1, 9, none⟩ (.slice none 0 0))) := ((((((((((HB9.out.setCell (p := ⟨w.heap.size + 1, 0, none⟩) (by simp) (.int .i64 0)).setCell (p := ⟨w.heap.size + 1, 1, none⟩) (by simp) (.int .i64 0)).setCell (p := ⟨w.heap.size + 1, 2, none⟩) (by simp) (.slice o0 on0 oc0)).setCell (p := ⟨w.heap.size + 1, 3, none⟩) (by simp) (.int .i64 (chgX b since).valid)).setCell (p := ⟨w.heap.size + 1, 4, none⟩) (by simp) (.int .i64 (chgX b since).next)).setCell (p := ⟨w.heap.size + 1, 5, none⟩) (by simp) (.int .i64 (chgX b since).seq)).setCell (p := ⟨w.heap.size + 1, 6, none⟩) (by simp) (.slice o1 on1 oc1)).setCell (p := ⟨w.heap.size + 1, 7, none⟩) (by simp) (.slice o2 on2 oc2)).setCell (p := ⟨w.heap.size + 1, 8, none⟩) (by simp) (.int .i64 (chgX b since).lost)).setCell (p := ⟨w.heap.size + 1, 9, none⟩) (by simp) (.slice none 0 0))
          have HEf : Hid (BoxE ((((((((((w9.setCell ⟨w.heap.size + 1, 0, none⟩ (.int .i64 0)).setCell ⟨w.heap.size + 1, 1, none⟩ (.int .i64 0)).setCell ⟨w.heap.size + 1, 2, none⟩ (.slice o0 on0 oc0)).setCell ⟨w.heap.size + 1, 3, none⟩ (.int .i64 (chgX b since).valid)).setCell ⟨w.heap.size + 1, 4, none⟩ (.int .i64 (chgX b since).next)).setCell ⟨w.heap.size + 1, 5, none⟩ (.int .i64 (chgX b since).seq)).setCell ⟨w.heap.size + 1, 6, none⟩ (.slice o1 on1 oc1)).setCell ⟨w.heap.size + 1, 7, none⟩ (.slice o2 on2 oc2)).setCell ⟨w.heap.size + 1, 8, none⟩ (.int .i64 (chgX b since).lost)).setCell ⟨w.heap.size + 1, 9, none⟩ (.slice none 0 0)) [.slice o0 on0 oc0, .int .i64 (chgX b since).valid, .int .i64 (chgX b since).next, .int .i64 (chgX b since).seq, .slice o1 on1 oc1, .slice o2 on2 oc2, .int .i64 (chgX b since).lost] (chgX b since) (In wr.heap.size w9.heap.size)) := (BoxE.set (g := w.heap.size + 1) (i := 9) (x := .slice none 0 0) (BoxE.set (g := w.heap.size + 1) (i := 8) (x := .int .i64 (chgX b since).lost) (BoxE.set (g := w.heap.size + 1) (i := 7) (x := .slice o2 on2 oc2) (BoxE.set (g := w.heap.size + 1) (i := 6) (x := .slice o1 on1 oc1) (BoxE.set (g := w.heap.size + 1) (i := 5) (x := .int .i64 (chgX b since).seq) (BoxE.set (g := w.heap.size + 1) (i := 4) (x := .int .i64 (chgX b since).next) (BoxE.set (g := w.heap.size + 1) (i := 3) (x := .int .i64 (chgX b since).valid) (BoxE.set (g := w.heap.size + 1) (i := 2) (x := .slice o0 on0 oc0) (BoxE.set (g := w.heap.size + 1) (i := 1) (x := .int .i64 0) (BoxE.set (g := w.heap.size + 1) (i := 0) (x := .int .i64 0) HEO.out (.inl (by omega))) (.inl (by omega))) (.inl (by omega))) (.inl (by omega))) (.inl (by omega))) (.inl (by omega))) (.inl (by omega))) (.inl (by omega))) (.inl (by omega))) (.inl (by omega)))
          clear KF KR9 hE B9 c0 c1 c2 c3 c4 c5 c6 y0 y1 y2 y3 y4 y5 y6 HB HKA HKR HX HE9 HEO HBX HOG HOM'
          go_wp2
          refine bodyPost_ret (v := .agg #[.int .i64 0, .int .i64 0, .slice o0 on0 oc0, .int .i64 (chgX b since).valid, .int .i64 (chgX b since).next, .int .i64 (chgX b since).seq, .slice o1 on1 oc1, .slice o2 on2 oc2, .int .i64 (chgX b since).lost, .slice none 0 0]) (by simp [results, Tryd.results72, go_sem, f0, f1, f2, f3, f4, f5, f6, f7, f8, f9]) rfl ⟨_, rfl, ?_, HBf.out⟩
          rw [HC.out]
          refine ⟨fun w' hs' hk' => ?_, _, _, _, _, _, _, _, _, _, _, rfl, .inl ⟨rfl, rfl⟩⟩
          obtain ⟨z0, z1, z2, ez, zz⟩ := (framesBox _ _ _ _ _ HEf.out fun k h1 h2 => hk' k (Nat.le_trans HBw.out h1.1) h2).rd
          simp only [List.cons.injEq, and_true, true_and] at ez
          obtain ⟨rfl, rfl, rfl⟩ := ez
          exact ⟨_, _, _, _, rfl, ⟨_, _, _, rfl, zz⟩, Rd.nil _, i64c0, i64c0⟩

end Go.Proofs.YtmonloebkdpahaaDoor

/- What l3do of package spec does: changes, status. -/
namespace Go.Proofs.YtmonloebkdpahaaDoor
open Go.RowKit
set_option maxRecDepth 100000
set_option linter.unusedVariables false
set_option linter.unusedSimpArgs false

theorem tab_do30 : (Tryd.f38.body.bind (opsAt 30)).all (fun o => tableS o 7 [0, 1, 2, 3, 4, 5, 6] [5, 6] [6, 7] 12) = true := by kernel_rfl
theorem tab_do32 : (Tryd.f38.body.bind (opsAt 32)).all (fun o => tableS o 30 [0, 1, 2, 3, 4, 6, 7, 8, 9, 11, 12, 13, 14, 15, 16, 17, 18, 19, 20, 21, 22, 23, 24, 25, 26, 5, 10, 27, 28, 29] [25, 26, 29] [29, 30] 12) = true := by kernel_rfl

set_option maxRecDepth 100000 in
set_option maxHeartbeats 8000000 in
theorem l3do_chg (ga : Nat) (a : AccD) (S : Nat → Prop) (uid mode fl si : Int) (bx tt tx : List Int) (x0 x1 x2 : Option Addr) (n0 n1 n2 m0 m1 m2 : Nat) (w : World) (hp : AccP w S ga a)
    (hs0 : ∀ w', w.heap.size ≤ w'.heap.size → StayT w w' 5 → Bs w' (.slice x0 n0 m0) bx) (hs1 : ∀ w', w.heap.size ≤ w'.heap.size → StayT w w' 5 → Bs w' (.slice x1 n1 m1) tt) (hs2 : ∀ w', w.heap.size ≤ w'.heap.size → StayT w w' 5 → Bs w' (.slice x2 n2 m2) tx)
    (hi64 : I64 uid ∧ I64 mode ∧ I64 fl ∧ I64 si) (hcl : bx.length ≤ 2000000 ∧ tx.length ≤ 2000000) (hsz : ∀ x ∈ a.boxes, szX x ≤ 900000) (hbl : a.boxes.length ≤ 2000000) (k : Nat) (b : BoxD) (hb : a.boxes[k]? = some b) (hf : firstI (fun x : BoxD => decide (x.name = bx)) a.boxes = (k : Int)) (rr : RepD) (hrr : chgD b si = rr) :
    Calls Tryd.prog 38 #[.pointer (some ⟨ga, 0, none⟩), .agg #[.int .i64 8, .slice x0 n0 m0, .slice x1 n1 m1, .int .i64 uid, .int .i64 mode, .int .i64 fl, .int .i64 si, .slice x2 n2 m2]] w (DoneA w S ga (a, rr)) := by
  obtain ⟨S0, hS0e⟩ : ∃ S0 : Nat → Prop, S0 = fun k => S k ∧ k < w.heap.size := ⟨_, rfl⟩
  have HSUB : Hid (∀ k, S0 k → S k) := by subst hS0e; exact fun k h => h.1
  have HSL : Hid (∀ k, S0 k → k < w.heap.size) := by subst hS0e; exact fun k h => h.2
  have HP : Hid (∀ w', Below w.heap.size w w' → AccP w' S0 ga a) := by subst hS0e; exact fun w' h => hp.cut.below h
  clear hS0e
  have hlga := hp.lt
  have HQ0 : Hid (∀ w', w.heap.size ≤ w'.heap.size → StayT w w' 5 → Bs w' (.slice x0 n0 m0) bx) := hs0
  have HQ1 : Hid (∀ w', w.heap.size ≤ w'.heap.size → StayT w w' 5 → Bs w' (.slice x1 n1 m1) tt) := hs1
  have HQ2 : Hid (∀ w', w.heap.size ≤ w'.heap.size → StayT w w' 5 → Bs w' (.slice x2 n2 m2) tx) := hs2
  have HI : Hid (I64 uid ∧ I64 mode ∧ I64 fl ∧ I64 si) := hi64
  have HSZ : Hid (∀ x ∈ a.boxes, szX x ≤ 900000) := hsz
  obtain ⟨HB, HKC, HKR, hsW⟩ := heads2 w (.cells #[.int .i64 8, .slice x0 n0 m0, .slice x1 n1 m1, .int .i64 uid, .int .i64 mode, .int .i64 fl, .int .i64 si, .slice x2 n2 m2] 77) (.cells #[.int .i64 0, .int .i64 0, .slice none 0 0, .int .i64 0, .int .i64 0, .int .i64 0, .slice none 0 0, .slice none 0 0, .int .i64 0, .slice none 0 0] 37)
  clear hs0 hs1 hs2 hp hi64 hsz
  go_enter Tryd.func38, Tryd.ntmps38
  go_upto_region 1 with fail
  generalize ((w.alloc (.cells #[.int .i64 8, .slice x0 n0 m0, .slice x1 n1 m1, .int .i64 uid, .int .i64 mode, .int .i64 fl, .int .i64 si, .slice x2 n2 m2] 77)).alloc (.cells #[.int .i64 0, .int .i64 0, .slice none 0 0, .int .i64 0, .int .i64 0, .int .i64 0, .slice none 0 0, .slice none 0 0, .int .i64 0, .slice none 0 0] 37)) = W at HB HKC HKR hsW ⊢
  have q0 : W.cell? ⟨w.heap.size, 0, none⟩ = some (.int .i64 8) := cell_of_row W w.heap.size 0 _ _ (0, 0) HKC.out
  have hlc : w.heap.size < W.heap.size := by omega
  go_upto_region 11 with fail
  clear q0
  have DR : Below W.heap.size W W.drew := (Below.refl _ _).drew
  have HAD : Hid (AccP W.drew S0 ga a) := HP.out W.drew (Below.step HB.out DR)
  obtain ⟨v9, u9, ca0, ca1, ca2, hbq, hav⟩ := HAD.out.cells
  obtain ⟨e0, e1, rfl, -⟩ := hbq.v.form
  have HAV : Hid _ := hav
  have HNB : Hid (Bs W.drew (.slice x0 n0 m0) bx) := HQ0.out _ (Nat.le_trans HB.out.size DR.size) (stay_below (Below.step HB.out DR))
  have hlga1 : ga < W.drew.heap.size := by show ga < W.heap.size; omega
  have hlc1 : w.heap.size < W.drew.heap.size := hlc
  have HS : Hid (∀ w', Below W.drew.heap.size W.drew w' → w'.cell? ⟨ga, 0, none⟩ = some (.int .i64 a.valid) ∧ w'.cell? ⟨ga, 1, none⟩ = some (.slice e0 a.boxes.length e1) ∧ w'.cell? ⟨ga, 2, none⟩ = some u9 ∧ w'.cell? ⟨w.heap.size, 1, none⟩ = some (.slice x0 n0 m0)) := fun w' h => ⟨(h.cell (p := ⟨ga, 0, none⟩) hlga1).trans ca0, (h.cell (p := ⟨ga, 1, none⟩) hlga1).trans ca1, (h.cell (p := ⟨ga, 2, none⟩) hlga1).trans ca2, cell_of_row w' w.heap.size 1 _ _ (0, 0) (box_below (Below.step DR h) HKC.out)⟩
  clear hbq hav ca0 ca1 ca2
  go_region_held3 (fun w' => w'.cell? ⟨ga, 0, none⟩ = some (.int .i64 a.valid) ∧ w'.cell? ⟨ga, 1, none⟩ = some (.slice e0 a.boxes.length e1) ∧ w'.cell? ⟨ga, 2, none⟩ = some u9 ∧ w'.cell? ⟨w.heap.size, 1, none⟩ = some (.slice x0 n0 m0))
    (first | exact HS.out _ (Below.refl _ _) | exact HS.out _ B1 | go_keep)
    ((go_at_call 66; refine (l3box_any _ _ a bx _ HAV.out HNB.out hbl).mono ?_; rintro e w1 ⟨rfl, B1⟩))
  have HB1 : Hid (Below W.heap.size W w1) := Below.step DR B1
  have HKC1 : Hid _ := box_below HB1.out HKC.out
  have HKR1 : Hid _ := box_below HB1.out HKR.out
  have hw1 : W.heap.size ≤ w1.heap.size := HB1.out.size
  have HX1 : Hid (Below w.heap.size w w1) := Below.step HB.out HB1.out
  have HE1 : Hid (w1.cell? ⟨ga, 1, none⟩ = some (.slice e0 a.boxes.length e1)) := (HS.out w1 B1).2.1
  clear B1 HAV HNB DR hlga1 hlc1 HS HAD
  have HA1 : Hid (AccP w1 S0 ga a) := HP.out w1 HX1.out
  obtain ⟨g, cap, Sb, cb, hSg, hpb, hSb, hback⟩ := HA1.out.at hb
  have e9 := Option.some.inj (cb.symm.trans HE1.out)
  simp only [Value.slice.injEq, true_and] at e9
  obtain ⟨rfl, rfl⟩ := e9
  have HBK : Hid _ := hback
  have HPB : Hid (BoxP w1 Sb g (k * 7) b) := hpb
  have HSb : Hid (∀ k, Sb k → S0 k) := fun k h => (hSb k h).1
  have hkl : k < a.boxes.length := (List.getElem?_eq_some_iff.1 hb).1
  have hki : (k : Int) < (a.boxes.length : Int) := by omega
  have hlg1 : g < w1.heap.size := hpb.lt
  have hga1 : ga < w1.heap.size := by omega
  have hlc1 : w.heap.size < w1.heap.size := by omega
  have hgw : g < w.heap.size := HSL.out g hSg
  have hsx : szX b ≤ 900000 := HSZ.out b (List.mem_of_getElem? hb)
  have hml : b.mails.length ≤ 900000 := by have := szM_len b.mails; unfold szX at hsx; omega
  have hgl : b.gones.length ≤ 900000 := by unfold szX at hsx; omega
  have HC1 : Hid (w1.cell? ⟨ga, 1, none⟩ = some (.slice (some ⟨g, 0, none⟩) a.boxes.length cap)) := cb
  clear hpb hback hSb
  have q0 : w1.cell? ⟨w.heap.size, 0, none⟩ = some (.int .i64 8) := cell_of_row w1 w.heap.size 0 _ _ (0, 0) HKC1.out
  have q6 : w1.cell? ⟨w.heap.size, 6, none⟩ = some (.int .i64 si) := cell_of_row w1 w.heap.size 6 _ _ (0, 0) HKC1.out
  obtain ⟨u0, u1, u2, h0, h1, h2, hint, c0, c1, c2, c3, c4, c5, c6⟩ := HPB.out.cells
  obtain ⟨a0, q0', z0, rfl⟩ := h0.bs.form3
  obtain ⟨a1, z1, rfl, -⟩ := h1.v.form
  obtain ⟨a2, z2, rfl, -⟩ := h2.1.form
  have HBV : Hid (BoxV w1 (.agg #[.slice a0 q0' z0, .int .i64 b.valid, .int .i64 b.next, .int .i64 b.seq, .slice a1 b.mails.length z1, .slice a2 b.gones.length z2, .int .i64 b.lost]) b) := ⟨_, _, _, rfl, h0.bs, h1.v, h2.1, hint⟩
  have HN64 : Hid (I64 b.next) := hint.2.1
  clear h0 h1 h2 hint
  have HXD : Hid (Below w.heap.size w w1.drew) := HX1.out.drew
  have HKD : Hid (w1.drew.heap[w.heap.size + 1]? = _) := HKR1.out
  have HKCD : Hid (w1.drew.heap[w.heap.size]? = _) := HKC1.out
  have hgd : g < w1.drew.heap.size := hlg1
  have hld : w.heap.size < w1.drew.heap.size := hlc1
  have hd1 : w1.drew.heap.size = w1.heap.size := rfl
  go_upto_region 30 with fail
  refine wpS_begin 6 (S := fun w' => w'.cell? ⟨g, k * 7, none⟩ = some (.slice a0 q0' z0) ∧ w'.cell? ⟨g, k * 7 + 1, none⟩ = some (.int .i64 b.valid) ∧ w'.cell? ⟨g, k * 7 + 2, none⟩ = some (.int .i64 b.next) ∧ w'.cell? ⟨g, k * 7 + 3, none⟩ = some (.int .i64 b.seq) ∧ w'.cell? ⟨g, k * 7 + 4, none⟩ = some (.slice a1 b.mails.length z1) ∧ w'.cell? ⟨g, k * 7 + 5, none⟩ = some (.slice a2 b.gones.length z2) ∧ w'.cell? ⟨g, k * 7 + 6, none⟩ = some (.int .i64 b.lost) ∧ w'.cell? ⟨w.heap.size, 6, none⟩ = some (.int .i64 si)) (tabS_of (by kernel_rfl) tab_do30) (by kernel_rfl) (⟨c0, c1, c2, c3, c4, c5, c6, q6⟩) (fun hTb hHeld => ?_)
  refine tks 0 0 116 hTb hHeld ?_
  refine tks 1 1 117 hTb hHeld ?_
  refine tks 2 2 118 hTb hHeld ?_
  refine tks 3 3 119 hTb hHeld ?_
  refine tks 4 4 120 hTb hHeld ?_
  refine cls 5 5 hTb (by decide) rfl rfl (fun K hK => ?_)
  go_simp
  have hc := l3changes_s _ b si w1.drew (HBV.out.below (Below.refl _ _).drew) (by omega)
  rw [hrr] at hc
  refine hc.mono ?_
  rintro e wz ⟨u, rfl, hrep, Bz⟩
  clear hc
  obtain ⟨y0, k0, j0, y1, j1, y2, j2, y3, j3, hU⟩ := hrep.v.form
  subst hU
  have HRS : Hid (RepS wz w1.drew.heap.size _ rr) := hrep
  have HXz : Hid (Below w.heap.size w wz) := Below.step HXD.out Bz
  have HKz : Hid _ := box_below Bz HKD.out
  have sz := Bz.size
  refine hK.out _ _ (⟨(Bz.cell (p := ⟨g, _, none⟩) hgd).trans c0, (Bz.cell (p := ⟨g, _, none⟩) hgd).trans c1, (Bz.cell (p := ⟨g, _, none⟩) hgd).trans c2, (Bz.cell (p := ⟨g, _, none⟩) hgd).trans c3, (Bz.cell (p := ⟨g, _, none⟩) hgd).trans c4, (Bz.cell (p := ⟨g, _, none⟩) hgd).trans c5, (Bz.cell (p := ⟨g, _, none⟩) hgd).trans c6, (Bz.cell (p := ⟨w.heap.size, _, none⟩) hld).trans q6⟩) (fun hHeld => ?_)
  clear hK K
  refine wpS_next (S' := fun w' => True) 6 7 hTb (by decide) (trivial) (fun hHeld => ?_)
  refine cls 6 6 hTb (by decide) rfl rfl (fun K hK => ?_)
  obtain ⟨r0, r1, r2, r3, r4, r5, r6, r7, r8, r9⟩ := bx10 HKz.out
  have fz : ∀ i, wz.frozen? ⟨w.heap.size + 1, i, none⟩ = false := fun i => frozen_of_row wz _ i _ _ HKz.out
  have hlr := lt_of_heap HKz.out
  have HF : Hid _ := rep_putA (w := w) (ga := ga) (S := S0) (S' := S0) HKz.out (by omega) (TurnsA.below HXz.out) a (HP.out _ HXz.out) hlga (fun h => by have := HSL.out _ h; omega) _ (.int .i64 rr.code) (.int .i64 rr.num) (.slice y0 k0 j0) (.int .i64 rr.box.valid) (.int .i64 rr.box.next) (.int .i64 rr.box.seq) (.slice y1 rr.box.mails.length j1) (.slice y2 rr.box.gones.length j2) (.int .i64 rr.box.lost) (.slice y3 rr.names.length j3) HRS.out (by show w.heap.size + 1 < w1.heap.size; omega)
  go_simp
  refine hK.out _ _ (trivial) (fun hHeld => ?_)
  clear hK K
  refine wpS_end hTb ?_
  go_wp2
  obtain ⟨f0, f1, f2, f3, f4, f5, f6, f7, f8, f9⟩ := bx10 HF.out.1
  refine bodyPost_ret (v := .agg #[.int .i64 rr.code, .int .i64 rr.num, .slice y0 k0 j0, .int .i64 rr.box.valid, .int .i64 rr.box.next, .int .i64 rr.box.seq, .slice y1 rr.box.mails.length j1, .slice y2 rr.box.gones.length j2, .int .i64 rr.box.lost, .slice y3 rr.names.length j3]) (by simp [results, Tryd.results38, go_sem, f0, f1, f2, f3, f4, f5, f6, f7, f8, f9]) rfl ⟨_, S0, rfl, HF.out.2.2.2, TurnsA.wide HF.out.2.1 HSUB.out, HF.out.2.2.1, fun k h => .inl (HSUB.out k h)⟩

set_option maxRecDepth 100000 in
set_option maxHeartbeats 8000000 in
theorem l3do_sta (ga : Nat) (a : AccD) (S : Nat → Prop) (uid mode fl si : Int) (bx tt tx : List Int) (x0 x1 x2 : Option Addr) (n0 n1 n2 m0 m1 m2 : Nat) (w : World) (hp : AccP w S ga a)
    (hs0 : ∀ w', w.heap.size ≤ w'.heap.size → StayT w w' 5 → Bs w' (.slice x0 n0 m0) bx) (hs1 : ∀ w', w.heap.size ≤ w'.heap.size → StayT w w' 5 → Bs w' (.slice x1 n1 m1) tt) (hs2 : ∀ w', w.heap.size ≤ w'.heap.size → StayT w w' 5 → Bs w' (.slice x2 n2 m2) tx)
    (hi64 : I64 uid ∧ I64 mode ∧ I64 fl ∧ I64 si) (hcl : bx.length ≤ 2000000 ∧ tx.length ≤ 2000000) (hsz : ∀ x ∈ a.boxes, szX x ≤ 900000) (hbl : a.boxes.length ≤ 2000000) (k : Nat) (b : BoxD) (hb : a.boxes[k]? = some b) (hf : firstI (fun x : BoxD => decide (x.name = bx)) a.boxes = (k : Int))  :
    Calls Tryd.prog 38 #[.pointer (some ⟨ga, 0, none⟩), .agg #[.int .i64 7, .slice x0 n0 m0, .slice x1 n1 m1, .int .i64 uid, .int .i64 mode, .int .i64 fl, .int .i64 si, .slice x2 n2 m2]] w (DoneA w S ga (a, ⟨0, (b.mails.length : Nat), ⟨b.name, b.valid, b.next, b.seq, [], [], b.lost⟩, []⟩)) := by
  obtain ⟨S0, hS0e⟩ : ∃ S0 : Nat → Prop, S0 = fun k => S k ∧ k < w.heap.size := ⟨_, rfl⟩
  have HSUB : Hid (∀ k, S0 k → S k) := by subst hS0e; exact fun k h => h.1
  have HSL : Hid (∀ k, S0 k → k < w.heap.size) := by subst hS0e; exact fun k h => h.2
  have HP : Hid (∀ w', Below w.heap.size w w' → AccP w' S0 ga a) := by subst hS0e; exact fun w' h => hp.cut.below h
  clear hS0e
  have hlga := hp.lt
  have HQ0 : Hid (∀ w', w.heap.size ≤ w'.heap.size → StayT w w' 5 → Bs w' (.slice x0 n0 m0) bx) := hs0
  have HQ1 : Hid (∀ w', w.heap.size ≤ w'.heap.size → StayT w w' 5 → Bs w' (.slice x1 n1 m1) tt) := hs1
  have HQ2 : Hid (∀ w', w.heap.size ≤ w'.heap.size → StayT w w' 5 → Bs w' (.slice x2 n2 m2) tx) := hs2
  have HI : Hid (I64 uid ∧ I64 mode ∧ I64 fl ∧ I64 si) := hi64
  have HSZ : Hid (∀ x ∈ a.boxes, szX x ≤ 900000) := hsz
  obtain ⟨HB, HKC, HKR, hsW⟩ := heads2 w (.cells #[.int .i64 7, .slice x0 n0 m0, .slice x1 n1 m1, .int .i64 uid, .int .i64 mode, .int .i64 fl, .int .i64 si, .slice x2 n2 m2] 77) (.cells #[.int .i64 0, .int .i64 0, .slice none 0 0, .int .i64 0, .int .i64 0, .int .i64 0, .slice none 0 0, .slice none 0 0, .int .i64 0, .slice none 0 0] 37)
  clear hs0 hs1 hs2 hp hi64 hsz
  go_enter Tryd.func38, Tryd.ntmps38
  go_upto_region 1 with fail
  generalize ((w.alloc (.cells #[.int .i64 7, .slice x0 n0 m0, .slice x1 n1 m1, .int .i64 uid, .int .i64 mode, .int .i64 fl, .int .i64 si, .slice x2 n2 m2] 77)).alloc (.cells #[.int .i64 0, .int .i64 0, .slice none 0 0, .int .i64 0, .int .i64 0, .int .i64 0, .slice none 0 0, .slice none 0 0, .int .i64 0, .slice none 0 0] 37)) = W at HB HKC HKR hsW ⊢
  have q0 : W.cell? ⟨w.heap.size, 0, none⟩ = some (.int .i64 7) := cell_of_row W w.heap.size 0 _ _ (0, 0) HKC.out
  have hlc : w.heap.size < W.heap.size := by omega
  go_upto_region 11 with fail
  clear q0
  have DR : Below W.heap.size W W.drew := (Below.refl _ _).drew
  have HAD : Hid (AccP W.drew S0 ga a) := HP.out W.drew (Below.step HB.out DR)
  obtain ⟨v9, u9, ca0, ca1, ca2, hbq, hav⟩ := HAD.out.cells
  obtain ⟨e0, e1, rfl, -⟩ := hbq.v.form
  have HAV : Hid _ := hav
  have HNB : Hid (Bs W.drew (.slice x0 n0 m0) bx) := HQ0.out _ (Nat.le_trans HB.out.size DR.size) (stay_below (Below.step HB.out DR))
  have hlga1 : ga < W.drew.heap.size := by show ga < W.heap.size; omega
  have hlc1 : w.heap.size < W.drew.heap.size := hlc
  have HS : Hid (∀ w', Below W.drew.heap.size W.drew w' → w'.cell? ⟨ga, 0, none⟩ = some (.int .i64 a.valid) ∧ w'.cell? ⟨ga, 1, none⟩ = some (.slice e0 a.boxes.length e1) ∧ w'.cell? ⟨ga, 2, none⟩ = some u9 ∧ w'.cell? ⟨w.heap.size, 1, none⟩ = some (.slice x0 n0 m0)) := fun w' h => ⟨(h.cell (p := ⟨ga, 0, none⟩) hlga1).trans ca0, (h.cell (p := ⟨ga, 1, none⟩) hlga1).trans ca1, (h.cell (p := ⟨ga, 2, none⟩) hlga1).trans ca2, cell_of_row w' w.heap.size 1 _ _ (0, 0) (box_below (Below.step DR h) HKC.out)⟩
  clear hbq hav ca0 ca1 ca2
  go_region_held3 (fun w' => w'.cell? ⟨ga, 0, none⟩ = some (.int .i64 a.valid) ∧ w'.cell? ⟨ga, 1, none⟩ = some (.slice e0 a.boxes.length e1) ∧ w'.cell? ⟨ga, 2, none⟩ = some u9 ∧ w'.cell? ⟨w.heap.size, 1, none⟩ = some (.slice x0 n0 m0))
    (first | exact HS.out _ (Below.refl _ _) | exact HS.out _ B1 | go_keep)
    ((go_at_call 66; refine (l3box_any _ _ a bx _ HAV.out HNB.out hbl).mono ?_; rintro e w1 ⟨rfl, B1⟩))
  have HB1 : Hid (Below W.heap.size W w1) := Below.step DR B1
  have HKC1 : Hid _ := box_below HB1.out HKC.out
  have HKR1 : Hid _ := box_below HB1.out HKR.out
  have hw1 : W.heap.size ≤ w1.heap.size := HB1.out.size
  have HX1 : Hid (Below w.heap.size w w1) := Below.step HB.out HB1.out
  have HE1 : Hid (w1.cell? ⟨ga, 1, none⟩ = some (.slice e0 a.boxes.length e1)) := (HS.out w1 B1).2.1
  clear B1 HAV HNB DR hlga1 hlc1 HS HAD
  have HA1 : Hid (AccP w1 S0 ga a) := HP.out w1 HX1.out
  obtain ⟨g, cap, Sb, cb, hSg, hpb, hSb, hback⟩ := HA1.out.at hb
  have e9 := Option.some.inj (cb.symm.trans HE1.out)
  simp only [Value.slice.injEq, true_and] at e9
  obtain ⟨rfl, rfl⟩ := e9
  have HBK : Hid _ := hback
  have HPB : Hid (BoxP w1 Sb g (k * 7) b) := hpb
  have HSb : Hid (∀ k, Sb k → S0 k) := fun k h => (hSb k h).1
  have hkl : k < a.boxes.length := (List.getElem?_eq_some_iff.1 hb).1
  have hki : (k : Int) < (a.boxes.length : Int) := by omega
  have hlg1 : g < w1.heap.size := hpb.lt
  have hga1 : ga < w1.heap.size := by omega
  have hlc1 : w.heap.size < w1.heap.size := by omega
  have hgw : g < w.heap.size := HSL.out g hSg
  have hsx : szX b ≤ 900000 := HSZ.out b (List.mem_of_getElem? hb)
  have hml : b.mails.length ≤ 900000 := by have := szM_len b.mails; unfold szX at hsx; omega
  have hgl : b.gones.length ≤ 900000 := by unfold szX at hsx; omega
  have HC1 : Hid (w1.cell? ⟨ga, 1, none⟩ = some (.slice (some ⟨g, 0, none⟩) a.boxes.length cap)) := cb
  clear hpb hback hSb
  have q0 : w1.cell? ⟨w.heap.size, 0, none⟩ = some (.int .i64 7) := cell_of_row w1 w.heap.size 0 _ _ (0, 0) HKC1.out
  obtain ⟨u0, u1, u2, h0, h1, h2, hint, c0, c1, c2, c3, c4, c5, c6⟩ := HPB.out.cells
  obtain ⟨a0, q0', z0, rfl⟩ := h0.bs.form3
  obtain ⟨a1, z1, rfl, -⟩ := h1.v.form
  obtain ⟨a2, z2, rfl, -⟩ := h2.1.form
  have HBV : Hid (BoxV w1 (.agg #[.slice a0 q0' z0, .int .i64 b.valid, .int .i64 b.next, .int .i64 b.seq, .slice a1 b.mails.length z1, .slice a2 b.gones.length z2, .int .i64 b.lost]) b) := ⟨_, _, _, rfl, h0.bs, h1.v, h2.1, hint⟩
  have HINT : Hid (I64 b.valid ∧ I64 b.next ∧ I64 b.seq ∧ I64 b.lost) := hint
  have HNM : Hid (Bs w1.drew (.slice a0 q0' z0) b.name) := h0.bs.below (Below.refl _ _).drew
  clear h0 h1 h2 hint
  have HXD : Hid (Below w.heap.size w w1.drew) := HX1.out.drew
  have HKD : Hid (w1.drew.heap[w.heap.size + 1]? = _) := HKR1.out
  have HKCD : Hid (w1.drew.heap[w.heap.size]? = _) := HKC1.out
  have hgd : g < w1.drew.heap.size := hlg1
  have hld : w.heap.size < w1.drew.heap.size := hlc1
  have hd1 : w1.drew.heap.size = w1.heap.size := rfl
  obtain ⟨i0, hi, hz0, hz1, hz2⟩ := info_parts info5
  have hnl : b.name.length ≤ 900000 := by unfold szX at hsx; omega
  have hm1 : b.name.length ≤ maxLen := by unfold maxLen; omega
  have hm2 : b.name.length * 1 ≤ 140737488355328 := by omega
  go_upto_region 32 with fail
  refine wpS_begin 29 (S := fun w' => w'.cell? ⟨g, k * 7, none⟩ = some (.slice a0 q0' z0) ∧ w'.cell? ⟨g, k * 7 + 1, none⟩ = some (.int .i64 b.valid) ∧ w'.cell? ⟨g, k * 7 + 2, none⟩ = some (.int .i64 b.next) ∧ w'.cell? ⟨g, k * 7 + 3, none⟩ = some (.int .i64 b.seq) ∧ w'.cell? ⟨g, k * 7 + 4, none⟩ = some (.slice a1 b.mails.length z1) ∧ w'.cell? ⟨g, k * 7 + 6, none⟩ = some (.int .i64 b.lost)) (tabS_of (by kernel_rfl) tab_do32) (by kernel_rfl) (⟨c0, c1, c2, c3, c4, c6⟩) (fun hTb hHeld => ?_)
  refine tks 0 0 124 hTb hHeld ?_
  refine tks 1 1 125 hTb hHeld ?_
  refine tks 2 2 126 hTb hHeld ?_
  refine tks 3 3 127 hTb hHeld ?_
  refine tks 4 4 128 hTb hHeld ?_
  refine tks 5 6 130 hTb hHeld ?_
  refine tks 6 7 131 hTb hHeld ?_
  refine tks 7 8 132 hTb hHeld ?_
  refine tks 8 9 133 hTb hHeld ?_
  refine tks 9 11 135 hTb hHeld ?_
  refine tks 10 12 136 hTb hHeld ?_
  refine tks 11 13 137 hTb hHeld ?_
  refine tks 12 14 138 hTb hHeld ?_
  refine tks 13 15 139 hTb hHeld ?_
  refine tks 14 16 140 hTb hHeld ?_
  refine tks 15 17 141 hTb hHeld ?_
  refine tks 16 18 142 hTb hHeld ?_
  refine tks 17 19 143 hTb hHeld ?_
  refine tks 18 20 144 hTb hHeld ?_
  refine tks 19 21 145 hTb hHeld ?_
  refine tks 20 22 146 hTb hHeld ?_
  refine tks 21 23 147 hTb hHeld ?_
  refine tks 22 24 148 hTb hHeld ?_
  refine tks 23 25 149 hTb hHeld ?_
  refine tks 24 26 150 hTb hHeld ?_
  refine cls 25 5 hTb (by decide) rfl rfl (fun K hK => ?_)
  go_simp
  have AE : Below w1.drew.heap.size w1.drew (w1.drew.alloc (.cells #[] 5)) := (Below.refl _ _).alloc (Nat.le_refl _) _
  have HOE : Hid _ := owns_empty w1.drew 5 1 w1.drew.heap.size (Nat.le_refl _)
  have HDE : Hid (Below w1.drew.heap.size w1.drew (w1.drew.alloc (.cells #[] 5))) := AE
  refine hK.out _ _ (⟨(AE.cell (p := ⟨g, _, none⟩) hgd).trans c0, (AE.cell (p := ⟨g, _, none⟩) hgd).trans c1, (AE.cell (p := ⟨g, _, none⟩) hgd).trans c2, (AE.cell (p := ⟨g, _, none⟩) hgd).trans c3, (AE.cell (p := ⟨g, _, none⟩) hgd).trans c4, (AE.cell (p := ⟨g, _, none⟩) hgd).trans c6⟩) (fun hHeld => ?_)
  clear hK K
  clear AE
  refine cls 26 10 hTb (by decide) rfl rfl (fun K hK => ?_)
  refine ite_w (by kernel_rfl) (wp_cat (B := w1.drew.heap.size) 134 rfl (.tmp 129) (.tmp 133) rfl HOE.out (Bs.rd1 (HNM.out.below HDE.out)) (one_byte _) Tryd.underlying22 hi hz0 hz1 hz2 rfl (by omega) rfl rfl hm1 hm2 HDE.out.size ?_)
  intro V1 wz xs hO4 hX4 hG4 hB4
  have hR : RO wz (fun k => w1.drew.heap.size ≤ k) V1 b.name := ro_of HNM.out.1 hO4 hX4 (fun g hg => own_ge hO4 hg)
  obtain ⟨y0, k0, j0, hV1⟩ := hR.bs.form3
  subst hV1
  have hG4' : (w1.drew.alloc (.cells #[] 5)).grownBy wz (some w1.drew.heap.size) := hG4
  have Bz : Below w1.drew.heap.size w1.drew wz := below_gr0 HDE.out hG4' (Nat.le_refl _)
  have HXz : Hid (Below w.heap.size w wz) := Below.step HXD.out Bz
  have HKz : Hid _ := box_below Bz HKD.out
  have sz := Bz.size
  have HRS : Hid (RepS wz w1.drew.heap.size (.agg #[.int .i64 0, .int .i64 (b.mails.length : Nat), .slice y0 k0 j0, .int .i64 b.valid, .int .i64 b.next, .int .i64 b.seq, .slice none 0 0, .slice none 0 0, .int .i64 b.lost, .slice none 0 0]) ⟨0, (b.mails.length : Nat), ⟨b.name, b.valid, b.next, b.seq, [], [], b.lost⟩, []⟩) := ⟨fun w' hs' hk' => ⟨_, _, _, _, rfl, ⟨_, _, _, rfl, (hR.frame fun k h1 h2 => hk' k h1 h2).bs, Rd.nil _, Rd.nil _, HINT.out⟩, Rd.nil _, i64c0, ⟨by show (-9223372036854775808 : Int) ≤ (b.mails.length : Int); omega, by show (b.mails.length : Int) ≤ 9223372036854775807; omega⟩⟩, _, _, _, _, _, _, _, _, _, _, rfl, .inl ⟨rfl, rfl⟩⟩
  clear hO4 hX4 hG4 hB4 hR hG4'
  refine hK.out _ _ (⟨(Bz.cell (p := ⟨g, _, none⟩) hgd).trans c0, (Bz.cell (p := ⟨g, _, none⟩) hgd).trans c1, (Bz.cell (p := ⟨g, _, none⟩) hgd).trans c2, (Bz.cell (p := ⟨g, _, none⟩) hgd).trans c3, (Bz.cell (p := ⟨g, _, none⟩) hgd).trans c4, (Bz.cell (p := ⟨g, _, none⟩) hgd).trans c6⟩) (fun hHeld => ?_)
  clear hK K
  refine tks 27 27 151 hTb hHeld ?_
  refine tks 28 28 152 hTb hHeld ?_
  refine wpS_next (S' := fun w' => True) 29 30 hTb (by decide) (trivial) (fun hHeld => ?_)
  refine cls 29 29 hTb (by decide) rfl rfl (fun K hK => ?_)
  obtain ⟨r0, r1, r2, r3, r4, r5, r6, r7, r8, r9⟩ := bx10 HKz.out
  have fz : ∀ i, wz.frozen? ⟨w.heap.size + 1, i, none⟩ = false := fun i => frozen_of_row wz _ i _ _ HKz.out
  have hlr := lt_of_heap HKz.out
  have HF : Hid _ := rep_putA (w := w) (ga := ga) (S := S0) (S' := S0) HKz.out (by omega) (TurnsA.below HXz.out) a (HP.out _ HXz.out) hlga (fun h => by have := HSL.out _ h; omega) _ (.int .i64 0) (.int .i64 (b.mails.length : Nat)) (.slice y0 k0 j0) (.int .i64 b.valid) (.int .i64 b.next) (.int .i64 b.seq) (.slice none 0 0) (.slice none 0 0) (.int .i64 b.lost) (.slice none 0 0) HRS.out (by show w.heap.size + 1 < w1.heap.size; omega)
  go_simp
  refine hK.out _ _ (trivial) (fun hHeld => ?_)
  clear hK K
  refine wpS_end hTb ?_
  go_wp2
  obtain ⟨f0, f1, f2, f3, f4, f5, f6, f7, f8, f9⟩ := bx10 HF.out.1
  refine bodyPost_ret (v := .agg #[.int .i64 0, .int .i64 (b.mails.length : Nat), .slice y0 k0 j0, .int .i64 b.valid, .int .i64 b.next, .int .i64 b.seq, .slice none 0 0, .slice none 0 0, .int .i64 b.lost, .slice none 0 0]) (by simp [results, Tryd.results38, go_sem, f0, f1, f2, f3, f4, f5, f6, f7, f8, f9]) rfl ⟨_, S0, rfl, HF.out.2.2.2, TurnsA.wide HF.out.2.1 HSUB.out, HF.out.2.2.1, fun k h => .inl (HSUB.out k h)⟩


end Go.Proofs.YtmonloebkdpahaaDoor
