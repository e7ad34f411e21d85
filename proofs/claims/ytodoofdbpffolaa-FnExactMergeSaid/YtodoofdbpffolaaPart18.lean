/- The proof's texts, part 18. -/
import Derived.Test.YtodoofdbpffolaaPart2
import Derived.Test.YtodoofdbpffolaaPart16
import Derived.Test.YtodoofdbpffolaaPart17
import Derived.Deep.RegionHeld3

/- The law FnExactMerge, walked out of the contracts. -/
namespace Go.Proofs.Ytodoofdbpffolaa
open Go.RowKit
set_option maxRecDepth 100000
set_option linter.unusedVariables false
set_option linter.unusedSimpArgs false

theorem box7l {w : World} {g : Nat} {t : TypeId} {c0 c1 c2 c3 c4 c5 c6 : Value} (h : w.heap[g]? = some (.cells #[c0, c1, c2, c3, c4, c5, c6] t (0, 0))) : w.cell? ⟨g, 0, none⟩ = some c0 ∧ w.cell? ⟨g, 1, none⟩ = some c1 ∧ w.cell? ⟨g, 2, none⟩ = some c2 ∧ w.cell? ⟨g, 3, none⟩ = some c3 ∧ w.cell? ⟨g, 4, none⟩ = some c4 ∧ w.cell? ⟨g, 5, none⟩ = some c5 ∧ w.cell? ⟨g, 6, none⟩ = some c6 ∧ g < w.heap.size := by
  obtain ⟨f0, f1, f2, f3, f4, f5, f6⟩ := bx7 h
  exact ⟨f0, f1, f2, f3, f4, f5, f6, lt_of_heap h⟩
section
variable {w w' : World} {B T B' T' : Nat} {v : Value} {b : BoxD}
theorem BoxO.below {S : Nat → Prop} (h : BoxO w S v b) (hb : Below w.heap.size w w') : BoxO w' S v b := let ⟨c, e, h⟩ := h; ⟨c, e, framesBox _ _ _ _ _ h fun k _ hk => hb.block k hk⟩
theorem BoxO.wide (h : BoxO w (In B T) v b) (hB : B' ≤ B) (hT : T ≤ T') : BoxO w (In B' T') v b :=
  let ⟨c, e, u0, u1, u2, S0, S1, S2, h0, h1, h2, h3, d0, d1, d2, r⟩ := h
  ⟨c, e, u0, u1, u2, S0, S1, S2, h0, h1, h2, h3, fun x hx => ⟨⟨Nat.le_trans hB (d0 x hx).1.1, Nat.lt_of_lt_of_le (d0 x hx).1.2 hT⟩, (d0 x hx).2⟩, fun x hx => ⟨⟨Nat.le_trans hB (d1 x hx).1.1, Nat.lt_of_lt_of_le (d1 x hx).1.2 hT⟩, (d1 x hx).2⟩, fun x hx => ⟨Nat.le_trans hB (d2 x hx).1, Nat.lt_of_lt_of_le (d2 x hx).2 hT⟩, r⟩
theorem BoxO.keptW (h : BoxO w (In B T) v b) (hw : Within B' T' w w') (hd : T ≤ B' ∨ T' ≤ B) : BoxO w' (In B T) v b :=
  let ⟨c, e, h⟩ := h; ⟨c, e, framesBox _ _ _ _ _ h fun k hk hlt => hw.block k hlt (by have := hk.1; have := hk.2; omega)⟩
theorem BoxO.form {S : Nat → Prop} (h : BoxO w S v b) : ∃ a n c p q r s t y, v = .agg #[.slice a n c, .int .i64 b.valid, .int .i64 b.next, .int .i64 b.seq, .slice p q r, .slice s t y, .int .i64 b.lost] := by
  obtain ⟨c, rfl, u0, u1, u2, S0, S1, S2, rfl, h1, h2, h3, -⟩ := h
  obtain ⟨a, n, c, rfl⟩ := h1.bs.form3
  obtain ⟨p, q, r, rfl⟩ := OwF.form3 h2
  obtain ⟨s, t, y, rfl⟩ := OwF.form3 h3
  exact ⟨a, n, c, p, q, r, s, t, y, rfl⟩
/-- A block of boxes is turned: what is no such block stays. -/
structure Ty2 (w : World) (g : Nat) : Prop where
  ty : Ty w g 31
theorem Ty2.of {cs : Array Value} {g : Nat} (h : w.heap[g]? = some (.cells cs 31 (0, 0))) : Ty2 w g := ⟨cs, (0, 0), h⟩
theorem boxO_oth {g : Nat} {S : Nat → Prop} (h : BoxO w S v b) (ho : ∀ k, k ≠ g → w'.heap[k]? = w.heap[k]?) (ht : Ty2 w g) : BoxO w' S v b := by
  obtain ⟨c, e, u0, u1, u2, S0, S1, S2, h0, h1, h2, h3, d0, d1, d2, r⟩ := h
  have hne : ∀ k t, Ty w k t → t ≠ 31 → w'.heap[k]? = w.heap[k]? := fun k t hk hn => ho k fun e2 => by subst e2; obtain ⟨cs, fz, hh⟩ := hk; exact ty_ne hh ht.ty hn
  refine ⟨c, e, u0, u1, u2, S0, S1, S2, h0, ro_oth h1 (fun k hk => hne k _ hk (by decide)), ?_, gones_oth h3 (fun k hk => hne k _ hk (by decide)), d0, d1, d2, r⟩
  rcases h2 with h | ⟨g', cap, cur, cs, fs, hv, hh, k1, k2, k3, k4, k5, k6, k7⟩
  · exact .inl h
  · exact .inr ⟨g', cap, cur, cs, fs, hv, (hne g' _ ⟨_, _, hh⟩ (by decide)).trans hh, k1, k2, k3, k4, fun i x hx => ⟨let ⟨u, q0, q1, q2⟩ := (k5 i x hx).1; ⟨u, q0, ro_oth q1 (fun k hk => hne k _ hk (by decide)), q2⟩, (k5 i x hx).2⟩, k6, k7⟩
end
theorem toBox_b (v : Value) (x : BoxD) (w : World) (hv : BoxV w v x) (h0 : szX x ≤ 2000000) :
    Calls Try.prog 6 #[v] w fun e w' => ∃ u, e = .returned u ∧ BoxO w' (In w.heap.size w'.heap.size) u x ∧ Below w.heap.size w w' :=
  (toBox_o v x w hv h0).mono fun _ _ ⟨u, h, ⟨_, _, _, _, _, _, _, _, _, h1, h2⟩, h3⟩ => ⟨u, h, ⟨_, h1, h2⟩, h3⟩
theorem markBox_w (B T : Nat) (v : Value) (x : BoxD) (k : Int) (w : World) (hv : BoxO w (In B T) v x) (hT : T ≤ w.heap.size) (hs : szX x ≤ 2000000) (hk0 : 0 ≤ k) (hk1 : k ≤ 1000000000) :
    Calls Try.prog 9 #[v, .int .i64 k] w fun e w' => e = .returned (.int .i64 (k + x.name.length + wMs x.mails + wGs x.gones)) ∧ BoxO w' (In B T) v (mkBoxV k x) ∧ Within B T w w' :=
  (markBox_o _ v x k w hv (fun b hb => Nat.lt_of_lt_of_le hb.2 hT) (by unfold szX at hs; omega) (by unfold szX at hs; omega) (by unfold szX at hs; omega) hk0 hk1).mono fun _ _ ⟨h1, h2, h3⟩ => ⟨h1, h2, h3.within⟩

theorem szM_le30 : ∀ ms : List MailD, (∀ m ∈ ms, m.text.length ≤ 30) → szM ms ≤ 31 * ms.length := by
  intro ms
  induction ms with
  | nil => intro _; simp [szM]
  | cons m ms ih =>
    intro hm
    have a := ih fun x hx => hm x (List.mem_cons_of_mem _ hx)
    have b := hm m (by simp)
    simp only [szM, List.map_cons, List.sum_cons, List.length_cons] at a ⊢
    omega
theorem szX_mergeD (o c : BoxD) : szX (mergeD o c) ≤ 2000000 := by
  unfold mergeD
  split
  · rename_i h
    simp only [mergeB, Bool.and_eq_true, decide_eq_true_eq] at h
    obtain ⟨h1, h2, h3, h4⟩ := h
    have hn : c.name.length ≤ 6 := by
      simp only [boxB, nameB, Bool.and_eq_true, decide_eq_true_eq] at h2
      exact h2.1.2.1
    have := szM_le30 _ (mergedM_text (okM_of h1) (okM_of h2))
    simp only [szX, List.length_nil]
    omega
  · decide

set_option maxRecDepth 100000 in
set_option maxHeartbeats 8000000 in
theorem exactMerge_walk (v : Value) (o : BoxD) (u : Value) (c : BoxD) (w : World) (hv : BoxV w v o) (hu : BoxV w u c) :
    Calls Try.prog 3 #[v, u] w fun e w' => e = .returned (.bool true) ∧ Below w.heap.size w w' := by
  have HV : Hid (∀ wi, Below w.heap.size w wi → BoxV wi v o ∧ BoxV wi u c) := fun wi h => ⟨hv.below h, hu.below h⟩
  obtain ⟨u0, u1, u2, rfl, g0, g1, g2, -⟩ := hv
  obtain ⟨u3, u4, u5, rfl, g3, g4, g5, -⟩ := hu
  obtain ⟨e0, n0, f0, rfl⟩ := g0.form3
  obtain ⟨e1, f1, rfl, -⟩ := g1.form
  obtain ⟨e2, f2, rfl, -⟩ := g2.form
  obtain ⟨e3, n3, f3, rfl⟩ := g3.form3
  obtain ⟨e4, f4, rfl, -⟩ := g4.form
  obtain ⟨e5, f5, rfl, -⟩ := g5.form
  clear g0 g1 g2 g3 g4 g5
  have hPS := szX_mergeD o c
  generalize hPe : mergeD o c = P at hPS
  have HPS : Hid _ := hPS
  clear hPS
  generalize hOe : mergeB o c = ok
  have HPE : Hid (mergeD o c = P ∧ mergeB o c = ok) := ⟨hPe, hOe⟩
  clear hPe hOe
  go_enter Try.func3, Try.ntmps3
  obtain ⟨kA, kB, X⟩ := boxes2 w (.cells #[.slice e0 n0 f0, .int .i64 o.valid, .int .i64 o.next, .int .i64 o.seq, .slice e1 o.mails.length f1, .slice e2 o.gones.length f2, .int .i64 o.lost] 26) (.cells #[.slice e3 n3 f3, .int .i64 c.valid, .int .i64 c.next, .int .i64 c.seq, .slice e4 c.mails.length f4, .slice e5 c.gones.length f5, .int .i64 c.lost] 26)
  have s1 : w.heap.size + 2 ≤ ((w.alloc (.cells #[.slice e0 n0 f0, .int .i64 o.valid, .int .i64 o.next, .int .i64 o.seq, .slice e1 o.mails.length f1, .slice e2 o.gones.length f2, .int .i64 o.lost] 26)).alloc (.cells #[.slice e3 n3 f3, .int .i64 c.valid, .int .i64 c.next, .int .i64 c.seq, .slice e4 c.mails.length f4, .slice e5 c.gones.length f5, .int .i64 c.lost] 26)).heap.size := by simp
  obtain ⟨fA0, fA1, fA2, fA3, fA4, fA5, fA6, lA⟩ := box7l kA
  go_wp2_with fail
  clear fA0 fA1 fA2 fA3 fA4 fA5 fA6 lA
  generalize (w.alloc (.cells #[.slice e0 n0 f0, .int .i64 o.valid, .int .i64 o.next, .int .i64 o.seq, .slice e1 o.mails.length f1, .slice e2 o.gones.length f2, .int .i64 o.lost] 26)).alloc (.cells #[.slice e3 n3 f3, .int .i64 c.valid, .int .i64 c.next, .int .i64 c.seq, .slice e4 c.mails.length f4, .slice e5 c.gones.length f5, .int .i64 c.lost] 26) = w1 at kA kB X s1 ⊢
  obtain ⟨fA0, fA1, fA2, fA3, fA4, fA5, fA6, lA⟩ := box7l kA
  obtain ⟨fB0, fB1, fB2, fB3, fB4, fB5, fB6, lB⟩ := box7l kB
  refine (szBox_any _ o 1048576 _ (HV.out _ X).1 (by omega) (by omega)).mono ?_
  rintro e w2 ⟨y, rfl, hx, B⟩
  clear fA0 fA1 fA2 fA3 fA4 fA5 fA6 lA fB0 fB1 fB2 fB3 fB4 fB5 fB6 lB
  replace kA := box_below B kA
  replace kB := box_below B kB
  replace X := Below.step X B
  have s2 : w1.heap.size ≤ w2.heap.size := B.size
  clear B
  rcases hx with rfl | ⟨hx0, hx1⟩
  · clear kA kB
    go_wp2
    go_ret
    exact ⟨rfl, X⟩
  obtain ⟨fA0, fA1, fA2, fA3, fA4, fA5, fA6, lA⟩ := box7l kA
  obtain ⟨fB0, fB1, fB2, fB3, fB4, fB5, fB6, lB⟩ := box7l kB
  go_wp2_with fail
  refine (szBox_any _ c y _ (HV.out _ X).2 (by omega) (by omega)).mono ?_
  rintro e w3 ⟨z, rfl, hy, B⟩
  clear fA0 fA1 fA2 fA3 fA4 fA5 fA6 lA fB0 fB1 fB2 fB3 fB4 fB5 fB6 lB
  replace kA := box_below B kA
  replace kB := box_below B kB
  replace X := Below.step X B
  have s3 : w2.heap.size ≤ w3.heap.size := B.size
  clear B
  rcases hy with rfl | ⟨hy0, hy1⟩
  · clear kA kB
    go_wp2
    go_ret
    exact ⟨rfl, X⟩
  have ho : szX o ≤ 1048576 := by omega
  have hc : szX c ≤ 1048576 := by omega
  clear hx1 hy1 hx0
  have HS : Hid (∀ w', Below w3.heap.size w3 w' → w'.cell? ⟨w.heap.size, 0, none⟩ = some (.slice e0 n0 f0) ∧ w'.cell? ⟨w.heap.size, 1, none⟩ = some (.int .i64 o.valid) ∧ w'.cell? ⟨w.heap.size, 2, none⟩ = some (.int .i64 o.next) ∧ w'.cell? ⟨w.heap.size, 3, none⟩ = some (.int .i64 o.seq) ∧ w'.cell? ⟨w.heap.size, 4, none⟩ = some (.slice e1 o.mails.length f1) ∧ w'.cell? ⟨w.heap.size, 5, none⟩ = some (.slice e2 o.gones.length f2) ∧ w'.cell? ⟨w.heap.size, 6, none⟩ = some (.int .i64 o.lost) ∧ w'.cell? ⟨w.heap.size + 1, 0, none⟩ = some (.slice e3 n3 f3) ∧ w'.cell? ⟨w.heap.size + 1, 1, none⟩ = some (.int .i64 c.valid) ∧ w'.cell? ⟨w.heap.size + 1, 2, none⟩ = some (.int .i64 c.next) ∧ w'.cell? ⟨w.heap.size + 1, 3, none⟩ = some (.int .i64 c.seq) ∧ w'.cell? ⟨w.heap.size + 1, 4, none⟩ = some (.slice e4 c.mails.length f4) ∧ w'.cell? ⟨w.heap.size + 1, 5, none⟩ = some (.slice e5 c.gones.length f5) ∧ w'.cell? ⟨w.heap.size + 1, 6, none⟩ = some (.int .i64 c.lost)) := fun w' h => ⟨(box7l (box_below h kA)).1, (box7l (box_below h kA)).2.1, (box7l (box_below h kA)).2.2.1, (box7l (box_below h kA)).2.2.2.1, (box7l (box_below h kA)).2.2.2.2.1, (box7l (box_below h kA)).2.2.2.2.2.1, (box7l (box_below h kA)).2.2.2.2.2.2.1, (box7l (box_below h kB)).1, (box7l (box_below h kB)).2.1, (box7l (box_below h kB)).2.2.1, (box7l (box_below h kB)).2.2.2.1, (box7l (box_below h kB)).2.2.2.2.1, (box7l (box_below h kB)).2.2.2.2.2.1, (box7l (box_below h kB)).2.2.2.2.2.2.1⟩
  have DR : Below w3.heap.size w3 w3.drew := (Below.refl _ _).drew
  obtain ⟨fA0, fA1, fA2, fA3, fA4, fA5, fA6, lA⟩ := box7l kA
  obtain ⟨fB0, fB1, fB2, fB3, fB4, fB5, fB6, lB⟩ := box7l kB
  go_upto_region 8 with fail
  clear fA0 fA1 fA2 fA3 fA4 fA5 fA6 lA fB0 fB1 fB2 fB3 fB4 fB5 fB6 lB
  go_cut [6, 7] (fun s6 s7 wx => (∃ (bx : Nat) (pa pd pg : Option Addr) (pb pc pe pf ph pi : Nat), s6 = .pointer (some ⟨bx, 0, none⟩) ∧ s7 = .bool ok ∧ w3.heap.size ≤ bx ∧ Hid (wx.heap[bx]? = some (.cells #[.slice pa pb pc, .int .i64 P.valid, .int .i64 P.next, .int .i64 P.seq, .slice pd pe pf, .slice pg ph pi, .int .i64 P.lost] 31 (0, 0))) ∧ Hid (BoxO wx (In w3.heap.size wx.heap.size) (.agg #[.slice pa pb pc, .int .i64 P.valid, .int .i64 P.next, .int .i64 P.seq, .slice pd pe pf, .slice pg ph pi, .int .i64 P.lost]) P) ∧ Hid (Below w3.heap.size w3 wx)))
  case first =>
    refine wp_region_held_drew (S := fun w' => w'.cell? ⟨w.heap.size, 0, none⟩ = some (.slice e0 n0 f0) ∧ w'.cell? ⟨w.heap.size, 1, none⟩ = some (.int .i64 o.valid) ∧ w'.cell? ⟨w.heap.size, 2, none⟩ = some (.int .i64 o.next) ∧ w'.cell? ⟨w.heap.size, 3, none⟩ = some (.int .i64 o.seq) ∧ w'.cell? ⟨w.heap.size, 4, none⟩ = some (.slice e1 o.mails.length f1) ∧ w'.cell? ⟨w.heap.size, 5, none⟩ = some (.slice e2 o.gones.length f2) ∧ w'.cell? ⟨w.heap.size, 6, none⟩ = some (.int .i64 o.lost) ∧ w'.cell? ⟨w.heap.size + 1, 0, none⟩ = some (.slice e3 n3 f3) ∧ w'.cell? ⟨w.heap.size + 1, 1, none⟩ = some (.int .i64 c.valid) ∧ w'.cell? ⟨w.heap.size + 1, 2, none⟩ = some (.int .i64 c.next) ∧ w'.cell? ⟨w.heap.size + 1, 3, none⟩ = some (.int .i64 c.seq) ∧ w'.cell? ⟨w.heap.size + 1, 4, none⟩ = some (.slice e4 c.mails.length f4) ∧ w'.cell? ⟨w.heap.size + 1, 5, none⟩ = some (.slice e5 c.gones.length f5) ∧ w'.cell? ⟨w.heap.size + 1, 6, none⟩ = some (.int .i64 c.lost)) (by kernel_rfl) (HS.out _ DR) (fun hHeld => (show wpAnyH _ _ _ _ _ 11 #[false, false, false, false, false, false, false, false, false, false, false] _ _ from ?_))
    refine tq 0 28 hHeld ?_
    refine tq 2 30 hHeld ?_
    have D0 : Hid (Below w3.heap.size w3 w3.drew) := DR
    generalize hwd : w3.drew = xd at *
    clear hwd
    refine wpAnyH_ready (rs := [1, 8]) (by kernel_rfl) (by simp) ?_
    refine AllReadyH.cons rfl (fun K hK => ?_) (AllReadyH.cons rfl (fun K hK => ?_) AllReadyH.nil)
    · go_simp
      refine (toBox_b _ o _ (HV.out _ (Below.step X D0.out)).1 (by omega)).mono ?_
      rintro e x1 ⟨u1, rfl, R, BB⟩
      have Fr11 : Hid (BoxO x1 (In w3.heap.size x1.heap.size) u1 o) := R.wide D0.out.size (Nat.le_refl _)
      have D1 : Hid (Below w3.heap.size w3 x1) := Below.step D0.out BB
      clear R
      refine hK.out _ _ (HS.out _ D1.out) (fun hHeld => ?_)
      clear hK K BB
      refine wpAnyH_ready (rs := [3, 8]) (by kernel_rfl) (by simp) ?_
      refine AllReadyH.cons rfl (fun K hK => ?_) (AllReadyH.cons rfl (fun K hK => ?_) AllReadyH.nil)
      · go_simp
        refine (toBox_b _ c _ (HV.out _ (Below.step X D1.out)).2 (by omega)).mono ?_
        rintro e x2 ⟨u2, rfl, R, BB⟩
        have Fr12 : Hid (BoxO x2 (In w3.heap.size x2.heap.size) u1 o) := (Fr11.out.below BB).wide (Nat.le_refl _) BB.size
        have Fr32 : Hid (BoxO x2 (In w3.heap.size x2.heap.size) u2 c) := R.wide D1.out.size (Nat.le_refl _)
        have D2 : Hid (Below w3.heap.size w3 x2) := Below.step D1.out BB
        clear R
        refine hK.out _ _ (HS.out _ D2.out) (fun hHeld => ?_)
        clear hK K BB
        refine wpAnyH_ready (rs := [4, 8]) (by kernel_rfl) (by simp) ?_
        refine AllReadyH.cons rfl (fun K hK => ?_) (AllReadyH.cons rfl (fun K hK => ?_) AllReadyH.nil)
        · go_simp
          refine (specMerge_r _ _ o c _ Fr12.out.v Fr32.out.v (by omega) (by omega)).mono ?_
          rintro e x3 ⟨u3, rfl, R, BB⟩
          rw [HPE.out.1] at R
          rw [HPE.out.2]
          obtain ⟨pa, pb, pc, pd, pe, pf, pg, ph, pi, rfl⟩ := R.form
          have Frp3 : Hid (BoxO x3 (In w3.heap.size x3.heap.size) (.agg #[.slice pa pb pc, .int .i64 P.valid, .int .i64 P.next, .int .i64 P.seq, .slice pd pe pf, .slice pg ph pi, .int .i64 P.lost]) P) := R.wide D2.out.size (Nat.le_refl _)
          have D3 : Hid (Below w3.heap.size w3 x3) := Below.step D2.out BB
          clear R
          refine hK.out _ _ (HS.out _ D3.out) (fun hHeld => ?_)
          clear hK K BB
          refine tq 5 27 hHeld ?_
          refine tq 6 33 hHeld ?_
          refine tq 7 34 hHeld ?_
          refine wpAnyH_ready (rs := [8]) (by kernel_rfl) (by simp) ?_
          refine AllReadyH.cons rfl (fun K hK => ?_) AllReadyH.nil
          go_simp
          have AB : Below x3.heap.size x3 (x3.alloc (.cells #[.slice none 0 0, .int .i64 0, .int .i64 0, .int .i64 0, .slice none 0 0, .slice none 0 0, .int .i64 0] 31)) := (Below.refl _ _).alloc (Nat.le_refl _) _
          have D4 : Hid (Below w3.heap.size w3 (x3.alloc (.cells #[.slice none 0 0, .int .i64 0, .int .i64 0, .int .i64 0, .slice none 0 0, .slice none 0 0, .int .i64 0] 31))) := Below.step D3.out AB
          have Fkx4 : Hid ((x3.alloc (.cells #[.slice none 0 0, .int .i64 0, .int .i64 0, .int .i64 0, .slice none 0 0, .slice none 0 0, .int .i64 0] 31)).heap[x3.heap.size]? = some (.cells #[.slice none 0 0, .int .i64 0, .int .i64 0, .int .i64 0, .slice none 0 0, .slice none 0 0, .int .i64 0] 31 (0, 0))) := box_new x3 _
          have Frp4 : Hid (BoxO (x3.alloc (.cells #[.slice none 0 0, .int .i64 0, .int .i64 0, .int .i64 0, .slice none 0 0, .slice none 0 0, .int .i64 0] 31)) (In w3.heap.size (x3.alloc (.cells #[.slice none 0 0, .int .i64 0, .int .i64 0, .int .i64 0, .slice none 0 0, .slice none 0 0, .int .i64 0] 31)).heap.size) (.agg #[.slice pa pb pc, .int .i64 P.valid, .int .i64 P.next, .int .i64 P.seq, .slice pd pe pf, .slice pg ph pi, .int .i64 P.lost]) P) := (Frp3.out.below AB).wide (Nat.le_refl _) AB.size
          refine hK.out _ _ (HS.out _ D4.out) (fun hHeld => ?_)
          clear hK K AB
          generalize hw4 : x3.alloc (.cells #[.slice none 0 0, .int .i64 0, .int .i64 0, .int .i64 0, .slice none 0 0, .slice none 0 0, .int .i64 0] 31) = x4 at *
          clear hw4
          refine wpAnyH_ready (rs := [9]) (by kernel_rfl) (by simp) ?_
          refine AllReadyH.cons rfl (fun K hK => ?_) AllReadyH.nil
          obtain ⟨zx, zl⟩ := box8z Fkx4.out
          obtain ⟨q0, q1, q2, q3, q4, q5, q6⟩ := bx7 Fkx4.out
          have HF : Hid _ := res7 Fkx4.out (N := w3.heap.size) (show w3.heap.size ≤ x3.heap.size from D3.out.size) D4.out (.slice pa pb pc) (.int .i64 P.valid) (.int .i64 P.next) (.int .i64 P.seq) (.slice pd pe pf) (.slice pg ph pi) (.int .i64 P.lost)
          have HBO : Hid (BoxO (((((((x4.setCell ⟨x3.heap.size, 0, none⟩ (.slice pa pb pc)).setCell ⟨x3.heap.size, 1, none⟩ (.int .i64 P.valid)).setCell ⟨x3.heap.size, 2, none⟩ (.int .i64 P.next)).setCell ⟨x3.heap.size, 3, none⟩ (.int .i64 P.seq)).setCell ⟨x3.heap.size, 4, none⟩ (.slice pd pe pf)).setCell ⟨x3.heap.size, 5, none⟩ (.slice pg ph pi)).setCell ⟨x3.heap.size, 6, none⟩ (.int .i64 P.lost)) (In w3.heap.size (((((((x4.setCell ⟨x3.heap.size, 0, none⟩ (.slice pa pb pc)).setCell ⟨x3.heap.size, 1, none⟩ (.int .i64 P.valid)).setCell ⟨x3.heap.size, 2, none⟩ (.int .i64 P.next)).setCell ⟨x3.heap.size, 3, none⟩ (.int .i64 P.seq)).setCell ⟨x3.heap.size, 4, none⟩ (.slice pd pe pf)).setCell ⟨x3.heap.size, 5, none⟩ (.slice pg ph pi)).setCell ⟨x3.heap.size, 6, none⟩ (.int .i64 P.lost)).heap.size) (.agg #[.slice pa pb pc, .int .i64 P.valid, .int .i64 P.next, .int .i64 P.seq, .slice pd pe pf, .slice pg ph pi, .int .i64 P.lost]) P) := by
            have := boxO_oth (w' := (((((((x4.setCell ⟨x3.heap.size, 0, none⟩ (.slice pa pb pc)).setCell ⟨x3.heap.size, 1, none⟩ (.int .i64 P.valid)).setCell ⟨x3.heap.size, 2, none⟩ (.int .i64 P.next)).setCell ⟨x3.heap.size, 3, none⟩ (.int .i64 P.seq)).setCell ⟨x3.heap.size, 4, none⟩ (.slice pd pe pf)).setCell ⟨x3.heap.size, 5, none⟩ (.slice pg ph pi)).setCell ⟨x3.heap.size, 6, none⟩ (.int .i64 P.lost))) Frp4.out (fun b hb => HF.out.2.2.1 b hb) (Ty2.of Fkx4.out)
            rw [HF.out.2.2.2]
            exact this
          go_simp
          refine hK.out _ _ (HS.out _ HF.out.2.1) (fun hHeld => ?_)
          clear hK K
          refine tq 10 7 hHeld ?_
          refine wpAnyH_done (by kernel_rfl) ?_ _
          go_wp2
          go_meet
          case rel => exact ⟨_, _, _, _, _, _, _, _, _, _, rfl, rfl, D3.out.size, HF.out.1, HBO.out, HF.out.2.1⟩
        · go_simp
          have AB : Below x2.heap.size x2 (x2.alloc (.cells #[.slice none 0 0, .int .i64 0, .int .i64 0, .int .i64 0, .slice none 0 0, .slice none 0 0, .int .i64 0] 31)) := (Below.refl _ _).alloc (Nat.le_refl _) _
          have D5 : Hid (Below w3.heap.size w3 (x2.alloc (.cells #[.slice none 0 0, .int .i64 0, .int .i64 0, .int .i64 0, .slice none 0 0, .slice none 0 0, .int .i64 0] 31))) := Below.step D2.out AB
          have Fkx5 : Hid ((x2.alloc (.cells #[.slice none 0 0, .int .i64 0, .int .i64 0, .int .i64 0, .slice none 0 0, .slice none 0 0, .int .i64 0] 31)).heap[x2.heap.size]? = some (.cells #[.slice none 0 0, .int .i64 0, .int .i64 0, .int .i64 0, .slice none 0 0, .slice none 0 0, .int .i64 0] 31 (0, 0))) := box_new x2 _
          have Fr15 : Hid (BoxO (x2.alloc (.cells #[.slice none 0 0, .int .i64 0, .int .i64 0, .int .i64 0, .slice none 0 0, .slice none 0 0, .int .i64 0] 31)) (In w3.heap.size (x2.alloc (.cells #[.slice none 0 0, .int .i64 0, .int .i64 0, .int .i64 0, .slice none 0 0, .slice none 0 0, .int .i64 0] 31)).heap.size) u1 o) := (Fr12.out.below AB).wide (Nat.le_refl _) AB.size
          have Fr35 : Hid (BoxO (x2.alloc (.cells #[.slice none 0 0, .int .i64 0, .int .i64 0, .int .i64 0, .slice none 0 0, .slice none 0 0, .int .i64 0] 31)) (In w3.heap.size (x2.alloc (.cells #[.slice none 0 0, .int .i64 0, .int .i64 0, .int .i64 0, .slice none 0 0, .slice none 0 0, .int .i64 0] 31)).heap.size) u2 c) := (Fr32.out.below AB).wide (Nat.le_refl _) AB.size
          refine hK.out _ _ (HS.out _ D5.out) (fun hHeld => ?_)
          clear hK K AB
          generalize hw5 : x2.alloc (.cells #[.slice none 0 0, .int .i64 0, .int .i64 0, .int .i64 0, .slice none 0 0, .slice none 0 0, .int .i64 0] 31) = x5 at *
          clear hw5
          refine wpAnyH_ready (rs := [4]) (by kernel_rfl) (by simp) ?_
          refine AllReadyH.cons rfl (fun K hK => ?_) AllReadyH.nil
          go_simp
          refine (specMerge_r _ _ o c _ Fr15.out.v Fr35.out.v (by omega) (by omega)).mono ?_
          rintro e x6 ⟨u6, rfl, R, BB⟩
          rw [HPE.out.1] at R
          rw [HPE.out.2]
          obtain ⟨pa, pb, pc, pd, pe, pf, pg, ph, pi, rfl⟩ := R.form
          have Frp6 : Hid (BoxO x6 (In w3.heap.size x6.heap.size) (.agg #[.slice pa pb pc, .int .i64 P.valid, .int .i64 P.next, .int .i64 P.seq, .slice pd pe pf, .slice pg ph pi, .int .i64 P.lost]) P) := R.wide D5.out.size (Nat.le_refl _)
          have Fkx6 : Hid _ := box_below BB Fkx5.out
          have D6 : Hid (Below w3.heap.size w3 x6) := Below.step D5.out BB
          clear R
          refine hK.out _ _ (HS.out _ D6.out) (fun hHeld => ?_)
          clear hK K BB
          refine tq 5 27 hHeld ?_
          refine tq 6 33 hHeld ?_
          refine tq 7 34 hHeld ?_
          refine wpAnyH_ready (rs := [9]) (by kernel_rfl) (by simp) ?_
          refine AllReadyH.cons rfl (fun K hK => ?_) AllReadyH.nil
          obtain ⟨zx, zl⟩ := box8z Fkx6.out
          obtain ⟨q0, q1, q2, q3, q4, q5, q6⟩ := bx7 Fkx6.out
          have HF : Hid _ := res7 Fkx6.out (N := w3.heap.size) (show w3.heap.size ≤ x2.heap.size from D2.out.size) D6.out (.slice pa pb pc) (.int .i64 P.valid) (.int .i64 P.next) (.int .i64 P.seq) (.slice pd pe pf) (.slice pg ph pi) (.int .i64 P.lost)
          have HBO : Hid (BoxO (((((((x6.setCell ⟨x2.heap.size, 0, none⟩ (.slice pa pb pc)).setCell ⟨x2.heap.size, 1, none⟩ (.int .i64 P.valid)).setCell ⟨x2.heap.size, 2, none⟩ (.int .i64 P.next)).setCell ⟨x2.heap.size, 3, none⟩ (.int .i64 P.seq)).setCell ⟨x2.heap.size, 4, none⟩ (.slice pd pe pf)).setCell ⟨x2.heap.size, 5, none⟩ (.slice pg ph pi)).setCell ⟨x2.heap.size, 6, none⟩ (.int .i64 P.lost)) (In w3.heap.size (((((((x6.setCell ⟨x2.heap.size, 0, none⟩ (.slice pa pb pc)).setCell ⟨x2.heap.size, 1, none⟩ (.int .i64 P.valid)).setCell ⟨x2.heap.size, 2, none⟩ (.int .i64 P.next)).setCell ⟨x2.heap.size, 3, none⟩ (.int .i64 P.seq)).setCell ⟨x2.heap.size, 4, none⟩ (.slice pd pe pf)).setCell ⟨x2.heap.size, 5, none⟩ (.slice pg ph pi)).setCell ⟨x2.heap.size, 6, none⟩ (.int .i64 P.lost)).heap.size) (.agg #[.slice pa pb pc, .int .i64 P.valid, .int .i64 P.next, .int .i64 P.seq, .slice pd pe pf, .slice pg ph pi, .int .i64 P.lost]) P) := by
            have := boxO_oth (w' := (((((((x6.setCell ⟨x2.heap.size, 0, none⟩ (.slice pa pb pc)).setCell ⟨x2.heap.size, 1, none⟩ (.int .i64 P.valid)).setCell ⟨x2.heap.size, 2, none⟩ (.int .i64 P.next)).setCell ⟨x2.heap.size, 3, none⟩ (.int .i64 P.seq)).setCell ⟨x2.heap.size, 4, none⟩ (.slice pd pe pf)).setCell ⟨x2.heap.size, 5, none⟩ (.slice pg ph pi)).setCell ⟨x2.heap.size, 6, none⟩ (.int .i64 P.lost))) Frp6.out (fun b hb => HF.out.2.2.1 b hb) (Ty2.of Fkx6.out)
            rw [HF.out.2.2.2]
            exact this
          go_simp
          refine hK.out _ _ (HS.out _ HF.out.2.1) (fun hHeld => ?_)
          clear hK K
          refine tq 10 7 hHeld ?_
          refine wpAnyH_done (by kernel_rfl) ?_ _
          go_wp2
          go_meet
          case rel => exact ⟨_, _, _, _, _, _, _, _, _, _, rfl, rfl, D2.out.size, HF.out.1, HBO.out, HF.out.2.1⟩
      · go_simp
        have AB : Below x1.heap.size x1 (x1.alloc (.cells #[.slice none 0 0, .int .i64 0, .int .i64 0, .int .i64 0, .slice none 0 0, .slice none 0 0, .int .i64 0] 31)) := (Below.refl _ _).alloc (Nat.le_refl _) _
        have D7 : Hid (Below w3.heap.size w3 (x1.alloc (.cells #[.slice none 0 0, .int .i64 0, .int .i64 0, .int .i64 0, .slice none 0 0, .slice none 0 0, .int .i64 0] 31))) := Below.step D1.out AB
        have Fkx7 : Hid ((x1.alloc (.cells #[.slice none 0 0, .int .i64 0, .int .i64 0, .int .i64 0, .slice none 0 0, .slice none 0 0, .int .i64 0] 31)).heap[x1.heap.size]? = some (.cells #[.slice none 0 0, .int .i64 0, .int .i64 0, .int .i64 0, .slice none 0 0, .slice none 0 0, .int .i64 0] 31 (0, 0))) := box_new x1 _
        have Fr17 : Hid (BoxO (x1.alloc (.cells #[.slice none 0 0, .int .i64 0, .int .i64 0, .int .i64 0, .slice none 0 0, .slice none 0 0, .int .i64 0] 31)) (In w3.heap.size (x1.alloc (.cells #[.slice none 0 0, .int .i64 0, .int .i64 0, .int .i64 0, .slice none 0 0, .slice none 0 0, .int .i64 0] 31)).heap.size) u1 o) := (Fr11.out.below AB).wide (Nat.le_refl _) AB.size
        refine hK.out _ _ (HS.out _ D7.out) (fun hHeld => ?_)
        clear hK K AB
        generalize hw7 : x1.alloc (.cells #[.slice none 0 0, .int .i64 0, .int .i64 0, .int .i64 0, .slice none 0 0, .slice none 0 0, .int .i64 0] 31) = x7 at *
        clear hw7
        refine wpAnyH_ready (rs := [3]) (by kernel_rfl) (by simp) ?_
        refine AllReadyH.cons rfl (fun K hK => ?_) AllReadyH.nil
        go_simp
        refine (toBox_b _ c _ (HV.out _ (Below.step X D7.out)).2 (by omega)).mono ?_
        rintro e x8 ⟨u8, rfl, R, BB⟩
        have Fr18 : Hid (BoxO x8 (In w3.heap.size x8.heap.size) u1 o) := (Fr17.out.below BB).wide (Nat.le_refl _) BB.size
        have Fr38 : Hid (BoxO x8 (In w3.heap.size x8.heap.size) u8 c) := R.wide D7.out.size (Nat.le_refl _)
        have Fkx8 : Hid _ := box_below BB Fkx7.out
        have D8 : Hid (Below w3.heap.size w3 x8) := Below.step D7.out BB
        clear R
        refine hK.out _ _ (HS.out _ D8.out) (fun hHeld => ?_)
        clear hK K BB
        refine wpAnyH_ready (rs := [4]) (by kernel_rfl) (by simp) ?_
        refine AllReadyH.cons rfl (fun K hK => ?_) AllReadyH.nil
        go_simp
        refine (specMerge_r _ _ o c _ Fr18.out.v Fr38.out.v (by omega) (by omega)).mono ?_
        rintro e x9 ⟨u9, rfl, R, BB⟩
        rw [HPE.out.1] at R
        rw [HPE.out.2]
        obtain ⟨pa, pb, pc, pd, pe, pf, pg, ph, pi, rfl⟩ := R.form
        have Frp9 : Hid (BoxO x9 (In w3.heap.size x9.heap.size) (.agg #[.slice pa pb pc, .int .i64 P.valid, .int .i64 P.next, .int .i64 P.seq, .slice pd pe pf, .slice pg ph pi, .int .i64 P.lost]) P) := R.wide D8.out.size (Nat.le_refl _)
        have Fkx9 : Hid _ := box_below BB Fkx8.out
        have D9 : Hid (Below w3.heap.size w3 x9) := Below.step D8.out BB
        clear R
        refine hK.out _ _ (HS.out _ D9.out) (fun hHeld => ?_)
        clear hK K BB
        refine tq 5 27 hHeld ?_
        refine tq 6 33 hHeld ?_
        refine tq 7 34 hHeld ?_
        refine wpAnyH_ready (rs := [9]) (by kernel_rfl) (by simp) ?_
        refine AllReadyH.cons rfl (fun K hK => ?_) AllReadyH.nil
        obtain ⟨zx, zl⟩ := box8z Fkx9.out
        obtain ⟨q0, q1, q2, q3, q4, q5, q6⟩ := bx7 Fkx9.out
        have HF : Hid _ := res7 Fkx9.out (N := w3.heap.size) (show w3.heap.size ≤ x1.heap.size from D1.out.size) D9.out (.slice pa pb pc) (.int .i64 P.valid) (.int .i64 P.next) (.int .i64 P.seq) (.slice pd pe pf) (.slice pg ph pi) (.int .i64 P.lost)
        have HBO : Hid (BoxO (((((((x9.setCell ⟨x1.heap.size, 0, none⟩ (.slice pa pb pc)).setCell ⟨x1.heap.size, 1, none⟩ (.int .i64 P.valid)).setCell ⟨x1.heap.size, 2, none⟩ (.int .i64 P.next)).setCell ⟨x1.heap.size, 3, none⟩ (.int .i64 P.seq)).setCell ⟨x1.heap.size, 4, none⟩ (.slice pd pe pf)).setCell ⟨x1.heap.size, 5, none⟩ (.slice pg ph pi)).setCell ⟨x1.heap.size, 6, none⟩ (.int .i64 P.lost)) (In w3.heap.size (((((((x9.setCell ⟨x1.heap.size, 0, none⟩ (.slice pa pb pc)).setCell ⟨x1.heap.size, 1, none⟩ (.int .i64 P.valid)).setCell ⟨x1.heap.size, 2, none⟩ (.int .i64 P.next)).setCell ⟨x1.heap.size, 3, none⟩ (.int .i64 P.seq)).setCell ⟨x1.heap.size, 4, none⟩ (.slice pd pe pf)).setCell ⟨x1.heap.size, 5, none⟩ (.slice pg ph pi)).setCell ⟨x1.heap.size, 6, none⟩ (.int .i64 P.lost)).heap.size) (.agg #[.slice pa pb pc, .int .i64 P.valid, .int .i64 P.next, .int .i64 P.seq, .slice pd pe pf, .slice pg ph pi, .int .i64 P.lost]) P) := by
          have := boxO_oth (w' := (((((((x9.setCell ⟨x1.heap.size, 0, none⟩ (.slice pa pb pc)).setCell ⟨x1.heap.size, 1, none⟩ (.int .i64 P.valid)).setCell ⟨x1.heap.size, 2, none⟩ (.int .i64 P.next)).setCell ⟨x1.heap.size, 3, none⟩ (.int .i64 P.seq)).setCell ⟨x1.heap.size, 4, none⟩ (.slice pd pe pf)).setCell ⟨x1.heap.size, 5, none⟩ (.slice pg ph pi)).setCell ⟨x1.heap.size, 6, none⟩ (.int .i64 P.lost))) Frp9.out (fun b hb => HF.out.2.2.1 b hb) (Ty2.of Fkx9.out)
          rw [HF.out.2.2.2]
          exact this
        go_simp
        refine hK.out _ _ (HS.out _ HF.out.2.1) (fun hHeld => ?_)
        clear hK K
        refine tq 10 7 hHeld ?_
        refine wpAnyH_done (by kernel_rfl) ?_ _
        go_wp2
        go_meet
        case rel => exact ⟨_, _, _, _, _, _, _, _, _, _, rfl, rfl, D1.out.size, HF.out.1, HBO.out, HF.out.2.1⟩
    · go_simp
      have AB : Below xd.heap.size xd (xd.alloc (.cells #[.slice none 0 0, .int .i64 0, .int .i64 0, .int .i64 0, .slice none 0 0, .slice none 0 0, .int .i64 0] 31)) := (Below.refl _ _).alloc (Nat.le_refl _) _
      have D10 : Hid (Below w3.heap.size w3 (xd.alloc (.cells #[.slice none 0 0, .int .i64 0, .int .i64 0, .int .i64 0, .slice none 0 0, .slice none 0 0, .int .i64 0] 31))) := Below.step D0.out AB
      have Fkx10 : Hid ((xd.alloc (.cells #[.slice none 0 0, .int .i64 0, .int .i64 0, .int .i64 0, .slice none 0 0, .slice none 0 0, .int .i64 0] 31)).heap[xd.heap.size]? = some (.cells #[.slice none 0 0, .int .i64 0, .int .i64 0, .int .i64 0, .slice none 0 0, .slice none 0 0, .int .i64 0] 31 (0, 0))) := box_new xd _
      refine hK.out _ _ (HS.out _ D10.out) (fun hHeld => ?_)
      clear hK K AB
      generalize hw10 : xd.alloc (.cells #[.slice none 0 0, .int .i64 0, .int .i64 0, .int .i64 0, .slice none 0 0, .slice none 0 0, .int .i64 0] 31) = x10 at *
      clear hw10
      refine wpAnyH_ready (rs := [1]) (by kernel_rfl) (by simp) ?_
      refine AllReadyH.cons rfl (fun K hK => ?_) AllReadyH.nil
      go_simp
      refine (toBox_b _ o _ (HV.out _ (Below.step X D10.out)).1 (by omega)).mono ?_
      rintro e x11 ⟨u11, rfl, R, BB⟩
      have Fr111 : Hid (BoxO x11 (In w3.heap.size x11.heap.size) u11 o) := R.wide D10.out.size (Nat.le_refl _)
      have Fkx11 : Hid _ := box_below BB Fkx10.out
      have D11 : Hid (Below w3.heap.size w3 x11) := Below.step D10.out BB
      clear R
      refine hK.out _ _ (HS.out _ D11.out) (fun hHeld => ?_)
      clear hK K BB
      refine wpAnyH_ready (rs := [3]) (by kernel_rfl) (by simp) ?_
      refine AllReadyH.cons rfl (fun K hK => ?_) AllReadyH.nil
      go_simp
      refine (toBox_b _ c _ (HV.out _ (Below.step X D11.out)).2 (by omega)).mono ?_
      rintro e x12 ⟨u12, rfl, R, BB⟩
      have Fr112 : Hid (BoxO x12 (In w3.heap.size x12.heap.size) u11 o) := (Fr111.out.below BB).wide (Nat.le_refl _) BB.size
      have Fr312 : Hid (BoxO x12 (In w3.heap.size x12.heap.size) u12 c) := R.wide D11.out.size (Nat.le_refl _)
      have Fkx12 : Hid _ := box_below BB Fkx11.out
      have D12 : Hid (Below w3.heap.size w3 x12) := Below.step D11.out BB
      clear R
      refine hK.out _ _ (HS.out _ D12.out) (fun hHeld => ?_)
      clear hK K BB
      refine wpAnyH_ready (rs := [4]) (by kernel_rfl) (by simp) ?_
      refine AllReadyH.cons rfl (fun K hK => ?_) AllReadyH.nil
      go_simp
      refine (specMerge_r _ _ o c _ Fr112.out.v Fr312.out.v (by omega) (by omega)).mono ?_
      rintro e x13 ⟨u13, rfl, R, BB⟩
      rw [HPE.out.1] at R
      rw [HPE.out.2]
      obtain ⟨pa, pb, pc, pd, pe, pf, pg, ph, pi, rfl⟩ := R.form
      have Frp13 : Hid (BoxO x13 (In w3.heap.size x13.heap.size) (.agg #[.slice pa pb pc, .int .i64 P.valid, .int .i64 P.next, .int .i64 P.seq, .slice pd pe pf, .slice pg ph pi, .int .i64 P.lost]) P) := R.wide D12.out.size (Nat.le_refl _)
      have Fkx13 : Hid _ := box_below BB Fkx12.out
      have D13 : Hid (Below w3.heap.size w3 x13) := Below.step D12.out BB
      clear R
      refine hK.out _ _ (HS.out _ D13.out) (fun hHeld => ?_)
      clear hK K BB
      refine tq 5 27 hHeld ?_
      refine tq 6 33 hHeld ?_
      refine tq 7 34 hHeld ?_
      refine wpAnyH_ready (rs := [9]) (by kernel_rfl) (by simp) ?_
      refine AllReadyH.cons rfl (fun K hK => ?_) AllReadyH.nil
      obtain ⟨zx, zl⟩ := box8z Fkx13.out
      obtain ⟨q0, q1, q2, q3, q4, q5, q6⟩ := bx7 Fkx13.out
      have HF : Hid _ := res7 Fkx13.out (N := w3.heap.size) (show w3.heap.size ≤ xd.heap.size from D0.out.size) D13.out (.slice pa pb pc) (.int .i64 P.valid) (.int .i64 P.next) (.int .i64 P.seq) (.slice pd pe pf) (.slice pg ph pi) (.int .i64 P.lost)
      have HBO : Hid (BoxO (((((((x13.setCell ⟨xd.heap.size, 0, none⟩ (.slice pa pb pc)).setCell ⟨xd.heap.size, 1, none⟩ (.int .i64 P.valid)).setCell ⟨xd.heap.size, 2, none⟩ (.int .i64 P.next)).setCell ⟨xd.heap.size, 3, none⟩ (.int .i64 P.seq)).setCell ⟨xd.heap.size, 4, none⟩ (.slice pd pe pf)).setCell ⟨xd.heap.size, 5, none⟩ (.slice pg ph pi)).setCell ⟨xd.heap.size, 6, none⟩ (.int .i64 P.lost)) (In w3.heap.size (((((((x13.setCell ⟨xd.heap.size, 0, none⟩ (.slice pa pb pc)).setCell ⟨xd.heap.size, 1, none⟩ (.int .i64 P.valid)).setCell ⟨xd.heap.size, 2, none⟩ (.int .i64 P.next)).setCell ⟨xd.heap.size, 3, none⟩ (.int .i64 P.seq)).setCell ⟨xd.heap.size, 4, none⟩ (.slice pd pe pf)).setCell ⟨xd.heap.size, 5, none⟩ (.slice pg ph pi)).setCell ⟨xd.heap.size, 6, none⟩ (.int .i64 P.lost)).heap.size) (.agg #[.slice pa pb pc, .int .i64 P.valid, .int .i64 P.next, .int .i64 P.seq, .slice pd pe pf, .slice pg ph pi, .int .i64 P.lost]) P) := by
        have := boxO_oth (w' := (((((((x13.setCell ⟨xd.heap.size, 0, none⟩ (.slice pa pb pc)).setCell ⟨xd.heap.size, 1, none⟩ (.int .i64 P.valid)).setCell ⟨xd.heap.size, 2, none⟩ (.int .i64 P.next)).setCell ⟨xd.heap.size, 3, none⟩ (.int .i64 P.seq)).setCell ⟨xd.heap.size, 4, none⟩ (.slice pd pe pf)).setCell ⟨xd.heap.size, 5, none⟩ (.slice pg ph pi)).setCell ⟨xd.heap.size, 6, none⟩ (.int .i64 P.lost))) Frp13.out (fun b hb => HF.out.2.2.1 b hb) (Ty2.of Fkx13.out)
        rw [HF.out.2.2.2]
        exact this
      go_simp
      refine hK.out _ _ (HS.out _ HF.out.2.1) (fun hHeld => ?_)
      clear hK K
      refine tq 10 7 hHeld ?_
      refine wpAnyH_done (by kernel_rfl) ?_ _
      go_wp2
      go_meet
      case rel => exact ⟨_, _, _, _, _, _, _, _, _, _, rfl, rfl, D0.out.size, HF.out.1, HBO.out, HF.out.2.1⟩
  case rest =>
    obtain ⟨bp, pa, pd, pg, pb, pc, pe, pf, ph, pi, rfl, rfl, hbp, HK, HR, HB⟩ := hcut
    rename World => wcp
    have kP := HK.out
    have Rp := HR.out
    have B := HB.out
    have lbp : bp < wcp.heap.size := lt_of_heap kP
    replace kA := box_below B kA
    replace kB := box_below B kB
    replace X := Below.step X B
    have swcp : w3.heap.size ≤ wcp.heap.size := B.size
    clear B HK HR HB HS DR
    obtain ⟨fA0, fA1, fA2, fA3, fA4, fA5, fA6, lA⟩ := box7l kA
    obtain ⟨fB0, fB1, fB2, fB3, fB4, fB5, fB6, lB⟩ := box7l kB
    obtain ⟨fP0, fP1, fP2, fP3, fP4, fP5, fP6, lP⟩ := box7l kP
    go_wp2_with fail
    refine (toBox_b _ o _ (HV.out _ X).1 (by omega)).mono ?_
    rintro e w5 ⟨u1, rfl, R1, B⟩
    clear fA0 fA1 fA2 fA3 fA4 fA5 fA6 lA fB0 fB1 fB2 fB3 fB4 fB5 fB6 lB fP0 fP1 fP2 fP3 fP4 fP5 fP6 lP
    replace Rp := Rp.below B
    replace kA := box_below B kA
    replace kB := box_below B kB
    replace kP := box_below B kP
    replace X := Below.step X B
    have s5 : wcp.heap.size ≤ w5.heap.size := B.size
    clear B
    obtain ⟨xa, xb, xc, xd, xe, xf, xg, xh, xi, rfl⟩ := R1.form
    have ab : ∀ o, Below w5.heap.size w5 (w5.alloc o) := fun o => (Below.refl _ _).alloc (Nat.le_refl _) o
    obtain ⟨fA0, fA1, fA2, fA3, fA4, fA5, fA6, lA⟩ := box7l kA
    obtain ⟨fB0, fB1, fB2, fB3, fB4, fB5, fB6, lB⟩ := box7l kB
    obtain ⟨fP0, fP1, fP2, fP3, fP4, fP5, fP6, lP⟩ := box7l kP
    go_wp2_with fail
    refine (toBox_b _ c _ (HV.out _ (Below.step X (ab _))).2 (by omega)).mono ?_
    rintro e w6 ⟨u2, rfl, R2, B⟩
    clear fA0 fA1 fA2 fA3 fA4 fA5 fA6 lA fB0 fB1 fB2 fB3 fB4 fB5 fB6 lB fP0 fP1 fP2 fP3 fP4 fP5 fP6 lP
    replace Rp := (Rp.below (ab _)).below B
    replace R1 := (R1.below (ab _)).below B
    replace kA := box_below B (box_alloc kA _)
    replace kB := box_below B (box_alloc kB _)
    replace kP := box_below B (box_alloc kP _)
    have kx := box_below B (box_new w5 (.cells #[.slice xa xb xc, .int .i64 o.valid, .int .i64 o.next, .int .i64 o.seq, .slice xd xe xf, .slice xg xh xi, .int .i64 o.lost] 31))
    replace X := Below.step (Below.step X (ab _)) B
    have s6 : w5.heap.size + 1 ≤ w6.heap.size := by have := B.size; simp at this; omega
    replace R2 := R2.wide (B' := w5.heap.size + 1) (by simp) (Nat.le_refl _)
    clear B ab
    obtain ⟨ya, yb, yc, yd, ye, yf, yg, yh, yi, rfl⟩ := R2.form
    have ab : ∀ o, Below w6.heap.size w6 (w6.alloc o) := fun o => (Below.refl _ _).alloc (Nat.le_refl _) o
    obtain ⟨fA0, fA1, fA2, fA3, fA4, fA5, fA6, lA⟩ := box7l kA
    obtain ⟨fB0, fB1, fB2, fB3, fB4, fB5, fB6, lB⟩ := box7l kB
    obtain ⟨fP0, fP1, fP2, fP3, fP4, fP5, fP6, lP⟩ := box7l kP
    obtain ⟨fx0, fx1, fx2, fx3, fx4, fx5, fx6, lx⟩ := box7l kx
    go_wp2_with fail
    refine (implMerge_r _ _ o c _ (R1.below (ab _)).v (R2.below (ab _)).v (by omega) (by omega)).mono ?_
    rintro e w7 ⟨u3, rfl, R3, B⟩
    rw [HPE.out.1] at R3
    rw [HPE.out.2]
    clear fA0 fA1 fA2 fA3 fA4 fA5 fA6 lA fB0 fB1 fB2 fB3 fB4 fB5 fB6 lB fP0 fP1 fP2 fP3 fP4 fP5 fP6 lP fx0 fx1 fx2 fx3 fx4 fx5 fx6 lx
    replace Rp := (Rp.below (ab _)).below B
    replace R1 := (R1.below (ab _)).below B
    replace R2 := (R2.below (ab _)).below B
    replace kA := box_below B (box_alloc kA _)
    replace kB := box_below B (box_alloc kB _)
    replace kP := box_below B (box_alloc kP _)
    replace kx := box_below B (box_alloc kx _)
    have ky := box_below B (box_new w6 (.cells #[.slice ya yb yc, .int .i64 c.valid, .int .i64 c.next, .int .i64 c.seq, .slice yd ye yf, .slice yg yh yi, .int .i64 c.lost] 31))
    replace X := Below.step (Below.step X (ab _)) B
    have s7 : w6.heap.size + 1 ≤ w7.heap.size := by have := B.size; simp at this; omega
    replace R3 := R3.wide (B' := w6.heap.size + 1) (by simp) (Nat.le_refl _)
    clear B ab
    obtain ⟨za, zb, zc, zd, ze, zf, zg, zh, zi, rfl⟩ := R3.form
    have ab : ∀ o, Below w7.heap.size w7 (w7.alloc o) := fun o => (Below.refl _ _).alloc (Nat.le_refl _) o
    obtain ⟨fA0, fA1, fA2, fA3, fA4, fA5, fA6, lA⟩ := box7l kA
    obtain ⟨fB0, fB1, fB2, fB3, fB4, fB5, fB6, lB⟩ := box7l kB
    obtain ⟨fP0, fP1, fP2, fP3, fP4, fP5, fP6, lP⟩ := box7l kP
    obtain ⟨fx0, fx1, fx2, fx3, fx4, fx5, fx6, lx⟩ := box7l kx
    obtain ⟨fy0, fy1, fy2, fy3, fy4, fy5, fy6, ly⟩ := box7l ky
    go_wp2_with fail
    refine (eqBox_yes _ _ P _ (R3.below (ab _)).v (Rp.below (ab _)).v).mono ?_
    rintro e w8 ⟨rfl, B⟩
    clear fA0 fA1 fA2 fA3 fA4 fA5 fA6 lA fB0 fB1 fB2 fB3 fB4 fB5 fB6 lB fP0 fP1 fP2 fP3 fP4 fP5 fP6 lP fx0 fx1 fx2 fx3 fx4 fx5 fx6 lx fy0 fy1 fy2 fy3 fy4 fy5 fy6 ly
    replace Rp := (Rp.below (ab _)).below B
    replace R1 := (R1.below (ab _)).below B
    replace R2 := (R2.below (ab _)).below B
    replace R3 := (R3.below (ab _)).below B
    replace kA := box_below B (box_alloc kA _)
    replace kB := box_below B (box_alloc kB _)
    replace kP := box_below B (box_alloc kP _)
    replace kx := box_below B (box_alloc kx _)
    replace ky := box_below B (box_alloc ky _)
    have kz := box_below B (box_new w7 (.cells #[.slice za zb zc, .int .i64 P.valid, .int .i64 P.next, .int .i64 P.seq, .slice zd ze zf, .slice zg zh zi, .int .i64 P.lost] 31))
    replace X := Below.step (Below.step X (ab _)) B
    have s8 : w7.heap.size + 1 ≤ w8.heap.size := by have := B.size; simp at this; omega
    clear B ab
    have HS : Hid (∀ w', Below w8.heap.size w8 w' → w'.cell? ⟨w5.heap.size, 0, none⟩ = some (.slice xa xb xc) ∧ w'.cell? ⟨w5.heap.size, 1, none⟩ = some (.int .i64 o.valid) ∧ w'.cell? ⟨w5.heap.size, 2, none⟩ = some (.int .i64 o.next) ∧ w'.cell? ⟨w5.heap.size, 3, none⟩ = some (.int .i64 o.seq) ∧ w'.cell? ⟨w5.heap.size, 4, none⟩ = some (.slice xd xe xf) ∧ w'.cell? ⟨w5.heap.size, 5, none⟩ = some (.slice xg xh xi) ∧ w'.cell? ⟨w5.heap.size, 6, none⟩ = some (.int .i64 o.lost) ∧ w'.cell? ⟨w.heap.size, 0, none⟩ = some (.slice e0 n0 f0) ∧ w'.cell? ⟨w.heap.size, 1, none⟩ = some (.int .i64 o.valid) ∧ w'.cell? ⟨w.heap.size, 2, none⟩ = some (.int .i64 o.next) ∧ w'.cell? ⟨w.heap.size, 3, none⟩ = some (.int .i64 o.seq) ∧ w'.cell? ⟨w.heap.size, 4, none⟩ = some (.slice e1 o.mails.length f1) ∧ w'.cell? ⟨w.heap.size, 5, none⟩ = some (.slice e2 o.gones.length f2) ∧ w'.cell? ⟨w.heap.size, 6, none⟩ = some (.int .i64 o.lost)) := fun w' h => ⟨(box7l (box_below h kx)).1, (box7l (box_below h kx)).2.1, (box7l (box_below h kx)).2.2.1, (box7l (box_below h kx)).2.2.2.1, (box7l (box_below h kx)).2.2.2.2.1, (box7l (box_below h kx)).2.2.2.2.2.1, (box7l (box_below h kx)).2.2.2.2.2.2.1, (box7l (box_below h kA)).1, (box7l (box_below h kA)).2.1, (box7l (box_below h kA)).2.2.1, (box7l (box_below h kA)).2.2.2.1, (box7l (box_below h kA)).2.2.2.2.1, (box7l (box_below h kA)).2.2.2.2.2.1, (box7l (box_below h kA)).2.2.2.2.2.2.1⟩
    have DR : Below w8.heap.size w8 w8.drew := (Below.refl _ _).drew
    obtain ⟨fA0, fA1, fA2, fA3, fA4, fA5, fA6, lA⟩ := box7l kA
    obtain ⟨fB0, fB1, fB2, fB3, fB4, fB5, fB6, lB⟩ := box7l kB
    obtain ⟨fP0, fP1, fP2, fP3, fP4, fP5, fP6, lP⟩ := box7l kP
    obtain ⟨fx0, fx1, fx2, fx3, fx4, fx5, fx6, lx⟩ := box7l kx
    obtain ⟨fy0, fy1, fy2, fy3, fy4, fy5, fy6, ly⟩ := box7l ky
    obtain ⟨fz0, fz1, fz2, fz3, fz4, fz5, fz6, lz⟩ := box7l kz
    go_wp2
    go_region_held3 (fun w' => w'.cell? ⟨w5.heap.size, 0, none⟩ = some (.slice xa xb xc) ∧ w'.cell? ⟨w5.heap.size, 1, none⟩ = some (.int .i64 o.valid) ∧ w'.cell? ⟨w5.heap.size, 2, none⟩ = some (.int .i64 o.next) ∧ w'.cell? ⟨w5.heap.size, 3, none⟩ = some (.int .i64 o.seq) ∧ w'.cell? ⟨w5.heap.size, 4, none⟩ = some (.slice xd xe xf) ∧ w'.cell? ⟨w5.heap.size, 5, none⟩ = some (.slice xg xh xi) ∧ w'.cell? ⟨w5.heap.size, 6, none⟩ = some (.int .i64 o.lost) ∧ w'.cell? ⟨w.heap.size, 0, none⟩ = some (.slice e0 n0 f0) ∧ w'.cell? ⟨w.heap.size, 1, none⟩ = some (.int .i64 o.valid) ∧ w'.cell? ⟨w.heap.size, 2, none⟩ = some (.int .i64 o.next) ∧ w'.cell? ⟨w.heap.size, 3, none⟩ = some (.int .i64 o.seq) ∧ w'.cell? ⟨w.heap.size, 4, none⟩ = some (.slice e1 o.mails.length f1) ∧ w'.cell? ⟨w.heap.size, 5, none⟩ = some (.slice e2 o.gones.length f2) ∧ w'.cell? ⟨w.heap.size, 6, none⟩ = some (.int .i64 o.lost))
      (first | go_keep | exact HS.out _ (Below.step (Below.step DR B) B') | exact HS.out _ (Below.step DR B))
      ((first | (go_at_call 6; refine (toBox_b _ o _ (HV.out _ (Below.step X DR)).1 (by omega)).mono ?_; rintro e w9 ⟨u5, rfl, R5, B⟩) | (go_at_call 8; refine (eqBox_yes _ _ o _ ((R1.below DR).below B).v R5.v).mono ?_; rintro e w10 ⟨rfl, B'⟩)))
    clear fA0 fA1 fA2 fA3 fA4 fA5 fA6 lA fB0 fB1 fB2 fB3 fB4 fB5 fB6 lB fP0 fP1 fP2 fP3 fP4 fP5 fP6 lP fx0 fx1 fx2 fx3 fx4 fx5 fx6 lx fy0 fy1 fy2 fy3 fy4 fy5 fy6 ly fz0 fz1 fz2 fz3 fz4 fz5 fz6 lz
    replace Rp := ((Rp.below DR).below B).below B'
    replace R1 := ((R1.below DR).below B).below B'
    replace R2 := ((R2.below DR).below B).below B'
    replace R3 := ((R3.below DR).below B).below B'
    replace kA := box_below B' (box_below B (box_below DR kA))
    replace kB := box_below B' (box_below B (box_below DR kB))
    replace kP := box_below B' (box_below B (box_below DR kP))
    replace kx := box_below B' (box_below B (box_below DR kx))
    replace ky := box_below B' (box_below B (box_below DR ky))
    replace kz := box_below B' (box_below B (box_below DR kz))
    replace X := Below.step (Below.step (Below.step X DR) B) B'
    have s10 : w8.heap.size ≤ w10.heap.size := Nat.le_trans B.size B'.size
    clear HS DR B B' R5
    have HS : Hid (∀ w', Below w10.heap.size w10 w' → w'.cell? ⟨w6.heap.size, 0, none⟩ = some (.slice ya yb yc) ∧ w'.cell? ⟨w6.heap.size, 1, none⟩ = some (.int .i64 c.valid) ∧ w'.cell? ⟨w6.heap.size, 2, none⟩ = some (.int .i64 c.next) ∧ w'.cell? ⟨w6.heap.size, 3, none⟩ = some (.int .i64 c.seq) ∧ w'.cell? ⟨w6.heap.size, 4, none⟩ = some (.slice yd ye yf) ∧ w'.cell? ⟨w6.heap.size, 5, none⟩ = some (.slice yg yh yi) ∧ w'.cell? ⟨w6.heap.size, 6, none⟩ = some (.int .i64 c.lost) ∧ w'.cell? ⟨w.heap.size + 1, 0, none⟩ = some (.slice e3 n3 f3) ∧ w'.cell? ⟨w.heap.size + 1, 1, none⟩ = some (.int .i64 c.valid) ∧ w'.cell? ⟨w.heap.size + 1, 2, none⟩ = some (.int .i64 c.next) ∧ w'.cell? ⟨w.heap.size + 1, 3, none⟩ = some (.int .i64 c.seq) ∧ w'.cell? ⟨w.heap.size + 1, 4, none⟩ = some (.slice e4 c.mails.length f4) ∧ w'.cell? ⟨w.heap.size + 1, 5, none⟩ = some (.slice e5 c.gones.length f5) ∧ w'.cell? ⟨w.heap.size + 1, 6, none⟩ = some (.int .i64 c.lost)) := fun w' h => ⟨(box7l (box_below h ky)).1, (box7l (box_below h ky)).2.1, (box7l (box_below h ky)).2.2.1, (box7l (box_below h ky)).2.2.2.1, (box7l (box_below h ky)).2.2.2.2.1, (box7l (box_below h ky)).2.2.2.2.2.1, (box7l (box_below h ky)).2.2.2.2.2.2.1, (box7l (box_below h kB)).1, (box7l (box_below h kB)).2.1, (box7l (box_below h kB)).2.2.1, (box7l (box_below h kB)).2.2.2.1, (box7l (box_below h kB)).2.2.2.2.1, (box7l (box_below h kB)).2.2.2.2.2.1, (box7l (box_below h kB)).2.2.2.2.2.2.1⟩
    have DR : Below w10.heap.size w10 w10.drew := (Below.refl _ _).drew
    obtain ⟨fA0, fA1, fA2, fA3, fA4, fA5, fA6, lA⟩ := box7l kA
    obtain ⟨fB0, fB1, fB2, fB3, fB4, fB5, fB6, lB⟩ := box7l kB
    obtain ⟨fP0, fP1, fP2, fP3, fP4, fP5, fP6, lP⟩ := box7l kP
    obtain ⟨fx0, fx1, fx2, fx3, fx4, fx5, fx6, lx⟩ := box7l kx
    obtain ⟨fy0, fy1, fy2, fy3, fy4, fy5, fy6, ly⟩ := box7l ky
    obtain ⟨fz0, fz1, fz2, fz3, fz4, fz5, fz6, lz⟩ := box7l kz
    go_wp2
    go_region_held3 (fun w' => w'.cell? ⟨w6.heap.size, 0, none⟩ = some (.slice ya yb yc) ∧ w'.cell? ⟨w6.heap.size, 1, none⟩ = some (.int .i64 c.valid) ∧ w'.cell? ⟨w6.heap.size, 2, none⟩ = some (.int .i64 c.next) ∧ w'.cell? ⟨w6.heap.size, 3, none⟩ = some (.int .i64 c.seq) ∧ w'.cell? ⟨w6.heap.size, 4, none⟩ = some (.slice yd ye yf) ∧ w'.cell? ⟨w6.heap.size, 5, none⟩ = some (.slice yg yh yi) ∧ w'.cell? ⟨w6.heap.size, 6, none⟩ = some (.int .i64 c.lost) ∧ w'.cell? ⟨w.heap.size + 1, 0, none⟩ = some (.slice e3 n3 f3) ∧ w'.cell? ⟨w.heap.size + 1, 1, none⟩ = some (.int .i64 c.valid) ∧ w'.cell? ⟨w.heap.size + 1, 2, none⟩ = some (.int .i64 c.next) ∧ w'.cell? ⟨w.heap.size + 1, 3, none⟩ = some (.int .i64 c.seq) ∧ w'.cell? ⟨w.heap.size + 1, 4, none⟩ = some (.slice e4 c.mails.length f4) ∧ w'.cell? ⟨w.heap.size + 1, 5, none⟩ = some (.slice e5 c.gones.length f5) ∧ w'.cell? ⟨w.heap.size + 1, 6, none⟩ = some (.int .i64 c.lost))
      (first | go_keep | exact HS.out _ (Below.step (Below.step DR B) B') | exact HS.out _ (Below.step DR B))
      ((first | (go_at_call 6; refine (toBox_b _ c _ (HV.out _ (Below.step X DR)).2 (by omega)).mono ?_; rintro e w11 ⟨u6, rfl, R6, B⟩) | (go_at_call 8; refine (eqBox_yes _ _ c _ ((R2.below DR).below B).v R6.v).mono ?_; rintro e w12 ⟨rfl, B'⟩)))
    clear fA0 fA1 fA2 fA3 fA4 fA5 fA6 lA fB0 fB1 fB2 fB3 fB4 fB5 fB6 lB fP0 fP1 fP2 fP3 fP4 fP5 fP6 lP fx0 fx1 fx2 fx3 fx4 fx5 fx6 lx fy0 fy1 fy2 fy3 fy4 fy5 fy6 ly fz0 fz1 fz2 fz3 fz4 fz5 fz6 lz
    replace Rp := ((Rp.below DR).below B).below B'
    replace R1 := ((R1.below DR).below B).below B'
    replace R2 := ((R2.below DR).below B).below B'
    replace R3 := ((R3.below DR).below B).below B'
    replace kA := box_below B' (box_below B (box_below DR kA))
    replace kB := box_below B' (box_below B (box_below DR kB))
    replace kP := box_below B' (box_below B (box_below DR kP))
    replace kx := box_below B' (box_below B (box_below DR kx))
    replace ky := box_below B' (box_below B (box_below DR ky))
    replace kz := box_below B' (box_below B (box_below DR kz))
    replace X := Below.step (Below.step (Below.step X DR) B) B'
    have s12 : w10.heap.size ≤ w12.heap.size := Nat.le_trans B.size B'.size
    clear HS DR B B' R6
    have hwo : wMs o.mails + wGs o.gones ≤ 9000000 := by have := wMs_le o.mails; have := wGs_eq o.gones; unfold szX at ho; omega
    have hno : o.name.length ≤ 1048576 := by unfold szX at ho; omega
    obtain ⟨fA0, fA1, fA2, fA3, fA4, fA5, fA6, lA⟩ := box7l kA
    obtain ⟨fB0, fB1, fB2, fB3, fB4, fB5, fB6, lB⟩ := box7l kB
    obtain ⟨fP0, fP1, fP2, fP3, fP4, fP5, fP6, lP⟩ := box7l kP
    obtain ⟨fx0, fx1, fx2, fx3, fx4, fx5, fx6, lx⟩ := box7l kx
    obtain ⟨fy0, fy1, fy2, fy3, fy4, fy5, fy6, ly⟩ := box7l ky
    obtain ⟨fz0, fz1, fz2, fz3, fz4, fz5, fz6, lz⟩ := box7l kz
    go_wp2_with fail
    refine (markBox_w _ _ _ o 1 _ R1 (by omega) (by omega) (by omega) (by omega)).mono ?_
    rintro e w13 ⟨rfl, R1', G⟩
    clear fA0 fA1 fA2 fA3 fA4 fA5 fA6 lA fB0 fB1 fB2 fB3 fB4 fB5 fB6 lB fP0 fP1 fP2 fP3 fP4 fP5 fP6 lP fx0 fx1 fx2 fx3 fx4 fx5 fx6 lx fy0 fy1 fy2 fy3 fy4 fy5 fy6 ly fz0 fz1 fz2 fz3 fz4 fz5 fz6 lz
    replace Rp := Rp.keptW G (by omega)
    replace R2 := R2.keptW G (by omega)
    replace R3 := R3.keptW G (by omega)
    replace kA := box_within G kA (by omega)
    replace kB := box_within G kB (by omega)
    replace kP := box_within G kP (by omega)
    replace kx := box_within G kx (by omega)
    replace ky := box_within G ky (by omega)
    replace kz := box_within G kz (by omega)
    replace X := G.below X (by omega)
    have s13 := G.size
    clear G R1
    clear R1'
    clear kx
    obtain ⟨fA0, fA1, fA2, fA3, fA4, fA5, fA6, lA⟩ := box7l kA
    obtain ⟨fB0, fB1, fB2, fB3, fB4, fB5, fB6, lB⟩ := box7l kB
    obtain ⟨fP0, fP1, fP2, fP3, fP4, fP5, fP6, lP⟩ := box7l kP
    obtain ⟨fy0, fy1, fy2, fy3, fy4, fy5, fy6, ly⟩ := box7l ky
    obtain ⟨fz0, fz1, fz2, fz3, fz4, fz5, fz6, lz⟩ := box7l kz
    go_wp2_with fail
    refine (markBox_w _ _ _ c _ _ R2 (by omega) (by omega) (by omega) (by omega)).mono ?_
    rintro e w14 ⟨rfl, R2', G⟩
    clear fA0 fA1 fA2 fA3 fA4 fA5 fA6 lA fB0 fB1 fB2 fB3 fB4 fB5 fB6 lB fP0 fP1 fP2 fP3 fP4 fP5 fP6 lP fy0 fy1 fy2 fy3 fy4 fy5 fy6 ly fz0 fz1 fz2 fz3 fz4 fz5 fz6 lz
    replace Rp := Rp.keptW G (by omega)
    replace R3 := R3.keptW G (by omega)
    replace kA := box_within G kA (by omega)
    replace kB := box_within G kB (by omega)
    replace kP := box_within G kP (by omega)
    replace ky := box_within G ky (by omega)
    replace kz := box_within G kz (by omega)
    replace X := G.below X (by omega)
    have s14 := G.size
    clear G R2
    clear R2'
    clear ky
    obtain ⟨fA0, fA1, fA2, fA3, fA4, fA5, fA6, lA⟩ := box7l kA
    obtain ⟨fB0, fB1, fB2, fB3, fB4, fB5, fB6, lB⟩ := box7l kB
    obtain ⟨fP0, fP1, fP2, fP3, fP4, fP5, fP6, lP⟩ := box7l kP
    obtain ⟨fz0, fz1, fz2, fz3, fz4, fz5, fz6, lz⟩ := box7l kz
    go_wp2_with fail
    refine (eqBox_yes _ _ P _ R3.v Rp.v).mono ?_
    rintro e w15 ⟨rfl, B⟩
    clear fA0 fA1 fA2 fA3 fA4 fA5 fA6 lA fB0 fB1 fB2 fB3 fB4 fB5 fB6 lB fP0 fP1 fP2 fP3 fP4 fP5 fP6 lP fz0 fz1 fz2 fz3 fz4 fz5 fz6 lz
    replace Rp := Rp.below B
    replace R3 := R3.below B
    replace kA := box_below B kA
    replace kB := box_below B kB
    replace kP := box_below B kP
    replace kz := box_below B kz
    replace X := Below.step X B
    have s15 : w14.heap.size ≤ w15.heap.size := B.size
    clear B
    obtain ⟨fA0, fA1, fA2, fA3, fA4, fA5, fA6, lA⟩ := box7l kA
    obtain ⟨fB0, fB1, fB2, fB3, fB4, fB5, fB6, lB⟩ := box7l kB
    obtain ⟨fP0, fP1, fP2, fP3, fP4, fP5, fP6, lP⟩ := box7l kP
    obtain ⟨fz0, fz1, fz2, fz3, fz4, fz5, fz6, lz⟩ := box7l kz
    go_wp2_with fail
    refine (markBox_w _ _ _ P 1 _ R3 (by omega) HPS.out (by omega) (by omega)).mono ?_
    rintro e w16 ⟨rfl, R3', G⟩
    clear fA0 fA1 fA2 fA3 fA4 fA5 fA6 lA fB0 fB1 fB2 fB3 fB4 fB5 fB6 lB fP0 fP1 fP2 fP3 fP4 fP5 fP6 lP fz0 fz1 fz2 fz3 fz4 fz5 fz6 lz
    replace Rp := Rp.keptW G (by omega)
    replace kA := box_within G kA (by omega)
    replace kB := box_within G kB (by omega)
    replace kP := box_within G kP (by omega)
    replace kz := box_within G kz (by omega)
    replace X := G.below X (by omega)
    have s16 := G.size
    clear G R3
    obtain ⟨fA0, fA1, fA2, fA3, fA4, fA5, fA6, lA⟩ := box7l kA
    obtain ⟨fB0, fB1, fB2, fB3, fB4, fB5, fB6, lB⟩ := box7l kB
    obtain ⟨fP0, fP1, fP2, fP3, fP4, fP5, fP6, lP⟩ := box7l kP
    obtain ⟨fz0, fz1, fz2, fz3, fz4, fz5, fz6, lz⟩ := box7l kz
    go_wp2_with fail
    refine (heldBox_any _ P 1 _ R3'.v (by have := HPS.out; unfold szX at this; omega) (by have := HPS.out; unfold szX at this; omega) (by have := HPS.out; unfold szX at this; omega) (by omega) (by omega)).mono ?_
    rintro e w17 ⟨rfl, B⟩
    clear fA0 fA1 fA2 fA3 fA4 fA5 fA6 lA fB0 fB1 fB2 fB3 fB4 fB5 fB6 lB fP0 fP1 fP2 fP3 fP4 fP5 fP6 lP fz0 fz1 fz2 fz3 fz4 fz5 fz6 lz
    replace Rp := Rp.below B
    replace R3' := R3'.below B
    replace kA := box_below B kA
    replace kB := box_below B kB
    replace kP := box_below B kP
    replace kz := box_below B kz
    replace X := Below.step X B
    have s17 : w16.heap.size ≤ w17.heap.size := B.size
    clear B
    have HS : Hid (∀ w', Below w17.heap.size w17 w' → w'.cell? ⟨w.heap.size, 0, none⟩ = some (.slice e0 n0 f0) ∧ w'.cell? ⟨w.heap.size, 1, none⟩ = some (.int .i64 o.valid) ∧ w'.cell? ⟨w.heap.size, 2, none⟩ = some (.int .i64 o.next) ∧ w'.cell? ⟨w.heap.size, 3, none⟩ = some (.int .i64 o.seq) ∧ w'.cell? ⟨w.heap.size, 4, none⟩ = some (.slice e1 o.mails.length f1) ∧ w'.cell? ⟨w.heap.size, 5, none⟩ = some (.slice e2 o.gones.length f2) ∧ w'.cell? ⟨w.heap.size, 6, none⟩ = some (.int .i64 o.lost) ∧ w'.cell? ⟨w.heap.size + 1, 0, none⟩ = some (.slice e3 n3 f3) ∧ w'.cell? ⟨w.heap.size + 1, 1, none⟩ = some (.int .i64 c.valid) ∧ w'.cell? ⟨w.heap.size + 1, 2, none⟩ = some (.int .i64 c.next) ∧ w'.cell? ⟨w.heap.size + 1, 3, none⟩ = some (.int .i64 c.seq) ∧ w'.cell? ⟨w.heap.size + 1, 4, none⟩ = some (.slice e4 c.mails.length f4) ∧ w'.cell? ⟨w.heap.size + 1, 5, none⟩ = some (.slice e5 c.gones.length f5) ∧ w'.cell? ⟨w.heap.size + 1, 6, none⟩ = some (.int .i64 c.lost)) := fun w' h => ⟨(box7l (box_below h kA)).1, (box7l (box_below h kA)).2.1, (box7l (box_below h kA)).2.2.1, (box7l (box_below h kA)).2.2.2.1, (box7l (box_below h kA)).2.2.2.2.1, (box7l (box_below h kA)).2.2.2.2.2.1, (box7l (box_below h kA)).2.2.2.2.2.2.1, (box7l (box_below h kB)).1, (box7l (box_below h kB)).2.1, (box7l (box_below h kB)).2.2.1, (box7l (box_below h kB)).2.2.2.1, (box7l (box_below h kB)).2.2.2.2.1, (box7l (box_below h kB)).2.2.2.2.2.1, (box7l (box_below h kB)).2.2.2.2.2.2.1⟩
    have DR : Below w17.heap.size w17 w17.drew := (Below.refl _ _).drew
    obtain ⟨fA0, fA1, fA2, fA3, fA4, fA5, fA6, lA⟩ := box7l kA
    obtain ⟨fB0, fB1, fB2, fB3, fB4, fB5, fB6, lB⟩ := box7l kB
    go_upto_region 31 with fail
    clear fA0 fA1 fA2 fA3 fA4 fA5 fA6 lA fB0 fB1 fB2 fB3 fB4 fB5 fB6 lB
    go_cut [15, 16] (fun s6 s7 wx => (∃ (bx : Nat) (qa qd qg : Option Addr) (qb qc qe qf qh qi : Nat), s6 = .pointer (some ⟨bx, 0, none⟩) ∧ s7 = .bool ok ∧ w17.heap.size ≤ bx ∧ Hid (wx.heap[bx]? = some (.cells #[.slice qa qb qc, .int .i64 P.valid, .int .i64 P.next, .int .i64 P.seq, .slice qd qe qf, .slice qg qh qi, .int .i64 P.lost] 31 (0, 0))) ∧ Hid (BoxO wx (In w17.heap.size wx.heap.size) (.agg #[.slice qa qb qc, .int .i64 P.valid, .int .i64 P.next, .int .i64 P.seq, .slice qd qe qf, .slice qg qh qi, .int .i64 P.lost]) P) ∧ Hid (Below w17.heap.size w17 wx)))
    case first =>
      refine wp_region_held_drew (S := fun w' => w'.cell? ⟨w.heap.size, 0, none⟩ = some (.slice e0 n0 f0) ∧ w'.cell? ⟨w.heap.size, 1, none⟩ = some (.int .i64 o.valid) ∧ w'.cell? ⟨w.heap.size, 2, none⟩ = some (.int .i64 o.next) ∧ w'.cell? ⟨w.heap.size, 3, none⟩ = some (.int .i64 o.seq) ∧ w'.cell? ⟨w.heap.size, 4, none⟩ = some (.slice e1 o.mails.length f1) ∧ w'.cell? ⟨w.heap.size, 5, none⟩ = some (.slice e2 o.gones.length f2) ∧ w'.cell? ⟨w.heap.size, 6, none⟩ = some (.int .i64 o.lost) ∧ w'.cell? ⟨w.heap.size + 1, 0, none⟩ = some (.slice e3 n3 f3) ∧ w'.cell? ⟨w.heap.size + 1, 1, none⟩ = some (.int .i64 c.valid) ∧ w'.cell? ⟨w.heap.size + 1, 2, none⟩ = some (.int .i64 c.next) ∧ w'.cell? ⟨w.heap.size + 1, 3, none⟩ = some (.int .i64 c.seq) ∧ w'.cell? ⟨w.heap.size + 1, 4, none⟩ = some (.slice e4 c.mails.length f4) ∧ w'.cell? ⟨w.heap.size + 1, 5, none⟩ = some (.slice e5 c.gones.length f5) ∧ w'.cell? ⟨w.heap.size + 1, 6, none⟩ = some (.int .i64 c.lost)) (by kernel_rfl) (HS.out _ DR) (fun hHeld => (show wpAnyH _ _ _ _ _ 11 #[false, false, false, false, false, false, false, false, false, false, false] _ _ from ?_))
      refine tq 0 95 hHeld ?_
      refine tq 2 97 hHeld ?_
      have D0 : Hid (Below w17.heap.size w17 w17.drew) := DR
      generalize hwd : w17.drew = xd at *
      clear hwd
      refine wpAnyH_ready (rs := [1, 8]) (by kernel_rfl) (by simp) ?_
      refine AllReadyH.cons rfl (fun K hK => ?_) (AllReadyH.cons rfl (fun K hK => ?_) AllReadyH.nil)
      · go_simp
        refine (toBox_b _ o _ (HV.out _ (Below.step X D0.out)).1 (by omega)).mono ?_
        rintro e x14 ⟨u14, rfl, R, BB⟩
        have Fr114 : Hid (BoxO x14 (In w17.heap.size x14.heap.size) u14 o) := R.wide D0.out.size (Nat.le_refl _)
        have D14 : Hid (Below w17.heap.size w17 x14) := Below.step D0.out BB
        clear R
        refine hK.out _ _ (HS.out _ D14.out) (fun hHeld => ?_)
        clear hK K BB
        refine wpAnyH_ready (rs := [3, 8]) (by kernel_rfl) (by simp) ?_
        refine AllReadyH.cons rfl (fun K hK => ?_) (AllReadyH.cons rfl (fun K hK => ?_) AllReadyH.nil)
        · go_simp
          refine (toBox_b _ c _ (HV.out _ (Below.step X D14.out)).2 (by omega)).mono ?_
          rintro e x15 ⟨u15, rfl, R, BB⟩
          have Fr115 : Hid (BoxO x15 (In w17.heap.size x15.heap.size) u14 o) := (Fr114.out.below BB).wide (Nat.le_refl _) BB.size
          have Fr315 : Hid (BoxO x15 (In w17.heap.size x15.heap.size) u15 c) := R.wide D14.out.size (Nat.le_refl _)
          have D15 : Hid (Below w17.heap.size w17 x15) := Below.step D14.out BB
          clear R
          refine hK.out _ _ (HS.out _ D15.out) (fun hHeld => ?_)
          clear hK K BB
          refine wpAnyH_ready (rs := [4, 8]) (by kernel_rfl) (by simp) ?_
          refine AllReadyH.cons rfl (fun K hK => ?_) (AllReadyH.cons rfl (fun K hK => ?_) AllReadyH.nil)
          · go_simp
            refine (implMerge_r _ _ o c _ Fr115.out.v Fr315.out.v (by omega) (by omega)).mono ?_
            rintro e x16 ⟨u16, rfl, R, BB⟩
            rw [HPE.out.1] at R
            rw [HPE.out.2]
            obtain ⟨qa, qb, qc, qd, qe, qf, qg, qh, qi, rfl⟩ := R.form
            have Frp16 : Hid (BoxO x16 (In w17.heap.size x16.heap.size) (.agg #[.slice qa qb qc, .int .i64 P.valid, .int .i64 P.next, .int .i64 P.seq, .slice qd qe qf, .slice qg qh qi, .int .i64 P.lost]) P) := R.wide D15.out.size (Nat.le_refl _)
            have D16 : Hid (Below w17.heap.size w17 x16) := Below.step D15.out BB
            clear R
            refine hK.out _ _ (HS.out _ D16.out) (fun hHeld => ?_)
            clear hK K BB
            refine tq 5 94 hHeld ?_
            refine tq 6 100 hHeld ?_
            refine tq 7 101 hHeld ?_
            refine wpAnyH_ready (rs := [8]) (by kernel_rfl) (by simp) ?_
            refine AllReadyH.cons rfl (fun K hK => ?_) AllReadyH.nil
            go_simp
            have AB : Below x16.heap.size x16 (x16.alloc (.cells #[.slice none 0 0, .int .i64 0, .int .i64 0, .int .i64 0, .slice none 0 0, .slice none 0 0, .int .i64 0] 31)) := (Below.refl _ _).alloc (Nat.le_refl _) _
            have D17 : Hid (Below w17.heap.size w17 (x16.alloc (.cells #[.slice none 0 0, .int .i64 0, .int .i64 0, .int .i64 0, .slice none 0 0, .slice none 0 0, .int .i64 0] 31))) := Below.step D16.out AB
            have Fkx17 : Hid ((x16.alloc (.cells #[.slice none 0 0, .int .i64 0, .int .i64 0, .int .i64 0, .slice none 0 0, .slice none 0 0, .int .i64 0] 31)).heap[x16.heap.size]? = some (.cells #[.slice none 0 0, .int .i64 0, .int .i64 0, .int .i64 0, .slice none 0 0, .slice none 0 0, .int .i64 0] 31 (0, 0))) := box_new x16 _
            have Frp17 : Hid (BoxO (x16.alloc (.cells #[.slice none 0 0, .int .i64 0, .int .i64 0, .int .i64 0, .slice none 0 0, .slice none 0 0, .int .i64 0] 31)) (In w17.heap.size (x16.alloc (.cells #[.slice none 0 0, .int .i64 0, .int .i64 0, .int .i64 0, .slice none 0 0, .slice none 0 0, .int .i64 0] 31)).heap.size) (.agg #[.slice qa qb qc, .int .i64 P.valid, .int .i64 P.next, .int .i64 P.seq, .slice qd qe qf, .slice qg qh qi, .int .i64 P.lost]) P) := (Frp16.out.below AB).wide (Nat.le_refl _) AB.size
            refine hK.out _ _ (HS.out _ D17.out) (fun hHeld => ?_)
            clear hK K AB
            generalize hw17 : x16.alloc (.cells #[.slice none 0 0, .int .i64 0, .int .i64 0, .int .i64 0, .slice none 0 0, .slice none 0 0, .int .i64 0] 31) = x17 at *
            clear hw17
            refine wpAnyH_ready (rs := [9]) (by kernel_rfl) (by simp) ?_
            refine AllReadyH.cons rfl (fun K hK => ?_) AllReadyH.nil
            obtain ⟨zx, zl⟩ := box8z Fkx17.out
            obtain ⟨q0, q1, q2, q3, q4, q5, q6⟩ := bx7 Fkx17.out
            have HF : Hid _ := res7 Fkx17.out (N := w17.heap.size) (show w17.heap.size ≤ x16.heap.size from D16.out.size) D17.out (.slice qa qb qc) (.int .i64 P.valid) (.int .i64 P.next) (.int .i64 P.seq) (.slice qd qe qf) (.slice qg qh qi) (.int .i64 P.lost)
            have HBO : Hid (BoxO (((((((x17.setCell ⟨x16.heap.size, 0, none⟩ (.slice qa qb qc)).setCell ⟨x16.heap.size, 1, none⟩ (.int .i64 P.valid)).setCell ⟨x16.heap.size, 2, none⟩ (.int .i64 P.next)).setCell ⟨x16.heap.size, 3, none⟩ (.int .i64 P.seq)).setCell ⟨x16.heap.size, 4, none⟩ (.slice qd qe qf)).setCell ⟨x16.heap.size, 5, none⟩ (.slice qg qh qi)).setCell ⟨x16.heap.size, 6, none⟩ (.int .i64 P.lost)) (In w17.heap.size (((((((x17.setCell ⟨x16.heap.size, 0, none⟩ (.slice qa qb qc)).setCell ⟨x16.heap.size, 1, none⟩ (.int .i64 P.valid)).setCell ⟨x16.heap.size, 2, none⟩ (.int .i64 P.next)).setCell ⟨x16.heap.size, 3, none⟩ (.int .i64 P.seq)).setCell ⟨x16.heap.size, 4, none⟩ (.slice qd qe qf)).setCell ⟨x16.heap.size, 5, none⟩ (.slice qg qh qi)).setCell ⟨x16.heap.size, 6, none⟩ (.int .i64 P.lost)).heap.size) (.agg #[.slice qa qb qc, .int .i64 P.valid, .int .i64 P.next, .int .i64 P.seq, .slice qd qe qf, .slice qg qh qi, .int .i64 P.lost]) P) := by
              have := boxO_oth (w' := (((((((x17.setCell ⟨x16.heap.size, 0, none⟩ (.slice qa qb qc)).setCell ⟨x16.heap.size, 1, none⟩ (.int .i64 P.valid)).setCell ⟨x16.heap.size, 2, none⟩ (.int .i64 P.next)).setCell ⟨x16.heap.size, 3, none⟩ (.int .i64 P.seq)).setCell ⟨x16.heap.size, 4, none⟩ (.slice qd qe qf)).setCell ⟨x16.heap.size, 5, none⟩ (.slice qg qh qi)).setCell ⟨x16.heap.size, 6, none⟩ (.int .i64 P.lost))) Frp17.out (fun b hb => HF.out.2.2.1 b hb) (Ty2.of Fkx17.out)
              rw [HF.out.2.2.2]
              exact this
            go_simp
            refine hK.out _ _ (HS.out _ HF.out.2.1) (fun hHeld => ?_)
            clear hK K
            refine tq 10 16 hHeld ?_
            refine wpAnyH_done (by kernel_rfl) ?_ _
            go_wp2
            go_meet
            case rel => exact ⟨_, _, _, _, _, _, _, _, _, _, rfl, rfl, D16.out.size, HF.out.1, HBO.out, HF.out.2.1⟩
          · go_simp
            have AB : Below x15.heap.size x15 (x15.alloc (.cells #[.slice none 0 0, .int .i64 0, .int .i64 0, .int .i64 0, .slice none 0 0, .slice none 0 0, .int .i64 0] 31)) := (Below.refl _ _).alloc (Nat.le_refl _) _
            have D18 : Hid (Below w17.heap.size w17 (x15.alloc (.cells #[.slice none 0 0, .int .i64 0, .int .i64 0, .int .i64 0, .slice none 0 0, .slice none 0 0, .int .i64 0] 31))) := Below.step D15.out AB
            have Fkx18 : Hid ((x15.alloc (.cells #[.slice none 0 0, .int .i64 0, .int .i64 0, .int .i64 0, .slice none 0 0, .slice none 0 0, .int .i64 0] 31)).heap[x15.heap.size]? = some (.cells #[.slice none 0 0, .int .i64 0, .int .i64 0, .int .i64 0, .slice none 0 0, .slice none 0 0, .int .i64 0] 31 (0, 0))) := box_new x15 _
            have Fr118 : Hid (BoxO (x15.alloc (.cells #[.slice none 0 0, .int .i64 0, .int .i64 0, .int .i64 0, .slice none 0 0, .slice none 0 0, .int .i64 0] 31)) (In w17.heap.size (x15.alloc (.cells #[.slice none 0 0, .int .i64 0, .int .i64 0, .int .i64 0, .slice none 0 0, .slice none 0 0, .int .i64 0] 31)).heap.size) u14 o) := (Fr115.out.below AB).wide (Nat.le_refl _) AB.size
            have Fr318 : Hid (BoxO (x15.alloc (.cells #[.slice none 0 0, .int .i64 0, .int .i64 0, .int .i64 0, .slice none 0 0, .slice none 0 0, .int .i64 0] 31)) (In w17.heap.size (x15.alloc (.cells #[.slice none 0 0, .int .i64 0, .int .i64 0, .int .i64 0, .slice none 0 0, .slice none 0 0, .int .i64 0] 31)).heap.size) u15 c) := (Fr315.out.below AB).wide (Nat.le_refl _) AB.size
            refine hK.out _ _ (HS.out _ D18.out) (fun hHeld => ?_)
            clear hK K AB
            generalize hw18 : x15.alloc (.cells #[.slice none 0 0, .int .i64 0, .int .i64 0, .int .i64 0, .slice none 0 0, .slice none 0 0, .int .i64 0] 31) = x18 at *
            clear hw18
            refine wpAnyH_ready (rs := [4]) (by kernel_rfl) (by simp) ?_
            refine AllReadyH.cons rfl (fun K hK => ?_) AllReadyH.nil
            go_simp
            refine (implMerge_r _ _ o c _ Fr118.out.v Fr318.out.v (by omega) (by omega)).mono ?_
            rintro e x19 ⟨u19, rfl, R, BB⟩
            rw [HPE.out.1] at R
            rw [HPE.out.2]
            obtain ⟨qa, qb, qc, qd, qe, qf, qg, qh, qi, rfl⟩ := R.form
            have Frp19 : Hid (BoxO x19 (In w17.heap.size x19.heap.size) (.agg #[.slice qa qb qc, .int .i64 P.valid, .int .i64 P.next, .int .i64 P.seq, .slice qd qe qf, .slice qg qh qi, .int .i64 P.lost]) P) := R.wide D18.out.size (Nat.le_refl _)
            have Fkx19 : Hid _ := box_below BB Fkx18.out
            have D19 : Hid (Below w17.heap.size w17 x19) := Below.step D18.out BB
            clear R
            refine hK.out _ _ (HS.out _ D19.out) (fun hHeld => ?_)
            clear hK K BB
            refine tq 5 94 hHeld ?_
            refine tq 6 100 hHeld ?_
            refine tq 7 101 hHeld ?_
            refine wpAnyH_ready (rs := [9]) (by kernel_rfl) (by simp) ?_
            refine AllReadyH.cons rfl (fun K hK => ?_) AllReadyH.nil
            obtain ⟨zx, zl⟩ := box8z Fkx19.out
            obtain ⟨q0, q1, q2, q3, q4, q5, q6⟩ := bx7 Fkx19.out
            have HF : Hid _ := res7 Fkx19.out (N := w17.heap.size) (show w17.heap.size ≤ x15.heap.size from D15.out.size) D19.out (.slice qa qb qc) (.int .i64 P.valid) (.int .i64 P.next) (.int .i64 P.seq) (.slice qd qe qf) (.slice qg qh qi) (.int .i64 P.lost)
            have HBO : Hid (BoxO (((((((x19.setCell ⟨x15.heap.size, 0, none⟩ (.slice qa qb qc)).setCell ⟨x15.heap.size, 1, none⟩ (.int .i64 P.valid)).setCell ⟨x15.heap.size, 2, none⟩ (.int .i64 P.next)).setCell ⟨x15.heap.size, 3, none⟩ (.int .i64 P.seq)).setCell ⟨x15.heap.size, 4, none⟩ (.slice qd qe qf)).setCell ⟨x15.heap.size, 5, none⟩ (.slice qg qh qi)).setCell ⟨x15.heap.size, 6, none⟩ (.int .i64 P.lost)) (In w17.heap.size (((((((x19.setCell ⟨x15.heap.size, 0, none⟩ (.slice qa qb qc)).setCell ⟨x15.heap.size, 1, none⟩ (.int .i64 P.valid)).setCell ⟨x15.heap.size, 2, none⟩ (.int .i64 P.next)).setCell ⟨x15.heap.size, 3, none⟩ (.int .i64 P.seq)).setCell ⟨x15.heap.size, 4, none⟩ (.slice qd qe qf)).setCell ⟨x15.heap.size, 5, none⟩ (.slice qg qh qi)).setCell ⟨x15.heap.size, 6, none⟩ (.int .i64 P.lost)).heap.size) (.agg #[.slice qa qb qc, .int .i64 P.valid, .int .i64 P.next, .int .i64 P.seq, .slice qd qe qf, .slice qg qh qi, .int .i64 P.lost]) P) := by
              have := boxO_oth (w' := (((((((x19.setCell ⟨x15.heap.size, 0, none⟩ (.slice qa qb qc)).setCell ⟨x15.heap.size, 1, none⟩ (.int .i64 P.valid)).setCell ⟨x15.heap.size, 2, none⟩ (.int .i64 P.next)).setCell ⟨x15.heap.size, 3, none⟩ (.int .i64 P.seq)).setCell ⟨x15.heap.size, 4, none⟩ (.slice qd qe qf)).setCell ⟨x15.heap.size, 5, none⟩ (.slice qg qh qi)).setCell ⟨x15.heap.size, 6, none⟩ (.int .i64 P.lost))) Frp19.out (fun b hb => HF.out.2.2.1 b hb) (Ty2.of Fkx19.out)
              rw [HF.out.2.2.2]
              exact this
            go_simp
            refine hK.out _ _ (HS.out _ HF.out.2.1) (fun hHeld => ?_)
            clear hK K
            refine tq 10 16 hHeld ?_
            refine wpAnyH_done (by kernel_rfl) ?_ _
            go_wp2
            go_meet
            case rel => exact ⟨_, _, _, _, _, _, _, _, _, _, rfl, rfl, D15.out.size, HF.out.1, HBO.out, HF.out.2.1⟩
        · go_simp
          have AB : Below x14.heap.size x14 (x14.alloc (.cells #[.slice none 0 0, .int .i64 0, .int .i64 0, .int .i64 0, .slice none 0 0, .slice none 0 0, .int .i64 0] 31)) := (Below.refl _ _).alloc (Nat.le_refl _) _
          have D20 : Hid (Below w17.heap.size w17 (x14.alloc (.cells #[.slice none 0 0, .int .i64 0, .int .i64 0, .int .i64 0, .slice none 0 0, .slice none 0 0, .int .i64 0] 31))) := Below.step D14.out AB
          have Fkx20 : Hid ((x14.alloc (.cells #[.slice none 0 0, .int .i64 0, .int .i64 0, .int .i64 0, .slice none 0 0, .slice none 0 0, .int .i64 0] 31)).heap[x14.heap.size]? = some (.cells #[.slice none 0 0, .int .i64 0, .int .i64 0, .int .i64 0, .slice none 0 0, .slice none 0 0, .int .i64 0] 31 (0, 0))) := box_new x14 _
          have Fr120 : Hid (BoxO (x14.alloc (.cells #[.slice none 0 0, .int .i64 0, .int .i64 0, .int .i64 0, .slice none 0 0, .slice none 0 0, .int .i64 0] 31)) (In w17.heap.size (x14.alloc (.cells #[.slice none 0 0, .int .i64 0, .int .i64 0, .int .i64 0, .slice none 0 0, .slice none 0 0, .int .i64 0] 31)).heap.size) u14 o) := (Fr114.out.below AB).wide (Nat.le_refl _) AB.size
          refine hK.out _ _ (HS.out _ D20.out) (fun hHeld => ?_)
          clear hK K AB
          generalize hw20 : x14.alloc (.cells #[.slice none 0 0, .int .i64 0, .int .i64 0, .int .i64 0, .slice none 0 0, .slice none 0 0, .int .i64 0] 31) = x20 at *
          clear hw20
          refine wpAnyH_ready (rs := [3]) (by kernel_rfl) (by simp) ?_
          refine AllReadyH.cons rfl (fun K hK => ?_) AllReadyH.nil
          go_simp
          refine (toBox_b _ c _ (HV.out _ (Below.step X D20.out)).2 (by omega)).mono ?_
          rintro e x21 ⟨u21, rfl, R, BB⟩
          have Fr121 : Hid (BoxO x21 (In w17.heap.size x21.heap.size) u14 o) := (Fr120.out.below BB).wide (Nat.le_refl _) BB.size
          have Fr321 : Hid (BoxO x21 (In w17.heap.size x21.heap.size) u21 c) := R.wide D20.out.size (Nat.le_refl _)
          have Fkx21 : Hid _ := box_below BB Fkx20.out
          have D21 : Hid (Below w17.heap.size w17 x21) := Below.step D20.out BB
          clear R
          refine hK.out _ _ (HS.out _ D21.out) (fun hHeld => ?_)
          clear hK K BB
          refine wpAnyH_ready (rs := [4]) (by kernel_rfl) (by simp) ?_
          refine AllReadyH.cons rfl (fun K hK => ?_) AllReadyH.nil
          go_simp
          refine (implMerge_r _ _ o c _ Fr121.out.v Fr321.out.v (by omega) (by omega)).mono ?_
          rintro e x22 ⟨u22, rfl, R, BB⟩
          rw [HPE.out.1] at R
          rw [HPE.out.2]
          obtain ⟨qa, qb, qc, qd, qe, qf, qg, qh, qi, rfl⟩ := R.form
          have Frp22 : Hid (BoxO x22 (In w17.heap.size x22.heap.size) (.agg #[.slice qa qb qc, .int .i64 P.valid, .int .i64 P.next, .int .i64 P.seq, .slice qd qe qf, .slice qg qh qi, .int .i64 P.lost]) P) := R.wide D21.out.size (Nat.le_refl _)
          have Fkx22 : Hid _ := box_below BB Fkx21.out
          have D22 : Hid (Below w17.heap.size w17 x22) := Below.step D21.out BB
          clear R
          refine hK.out _ _ (HS.out _ D22.out) (fun hHeld => ?_)
          clear hK K BB
          refine tq 5 94 hHeld ?_
          refine tq 6 100 hHeld ?_
          refine tq 7 101 hHeld ?_
          refine wpAnyH_ready (rs := [9]) (by kernel_rfl) (by simp) ?_
          refine AllReadyH.cons rfl (fun K hK => ?_) AllReadyH.nil
          obtain ⟨zx, zl⟩ := box8z Fkx22.out
          obtain ⟨q0, q1, q2, q3, q4, q5, q6⟩ := bx7 Fkx22.out
          have HF : Hid _ := res7 Fkx22.out (N := w17.heap.size) (show w17.heap.size ≤ x14.heap.size from D14.out.size) D22.out (.slice qa qb qc) (.int .i64 P.valid) (.int .i64 P.next) (.int .i64 P.seq) (.slice qd qe qf) (.slice qg qh qi) (.int .i64 P.lost)
          have HBO : Hid (BoxO (((((((x22.setCell ⟨x14.heap.size, 0, none⟩ (.slice qa qb qc)).setCell ⟨x14.heap.size, 1, none⟩ (.int .i64 P.valid)).setCell ⟨x14.heap.size, 2, none⟩ (.int .i64 P.next)).setCell ⟨x14.heap.size, 3, none⟩ (.int .i64 P.seq)).setCell ⟨x14.heap.size, 4, none⟩ (.slice qd qe qf)).setCell ⟨x14.heap.size, 5, none⟩ (.slice qg qh qi)).setCell ⟨x14.heap.size, 6, none⟩ (.int .i64 P.lost)) (In w17.heap.size (((((((x22.setCell ⟨x14.heap.size, 0, none⟩ (.slice qa qb qc)).setCell ⟨x14.heap.size, 1, none⟩ (.int .i64 P.valid)).setCell ⟨x14.heap.size, 2, none⟩ (.int .i64 P.next)).setCell ⟨x14.heap.size, 3, none⟩ (.int .i64 P.seq)).setCell ⟨x14.heap.size, 4, none⟩ (.slice qd qe qf)).setCell ⟨x14.heap.size, 5, none⟩ (.slice qg qh qi)).setCell ⟨x14.heap.size, 6, none⟩ (.int .i64 P.lost)).heap.size) (.agg #[.slice qa qb qc, .int .i64 P.valid, .int .i64 P.next, .int .i64 P.seq, .slice qd qe qf, .slice qg qh qi, .int .i64 P.lost]) P) := by
            have := boxO_oth (w' := (((((((x22.setCell ⟨x14.heap.size, 0, none⟩ (.slice qa qb qc)).setCell ⟨x14.heap.size, 1, none⟩ (.int .i64 P.valid)).setCell ⟨x14.heap.size, 2, none⟩ (.int .i64 P.next)).setCell ⟨x14.heap.size, 3, none⟩ (.int .i64 P.seq)).setCell ⟨x14.heap.size, 4, none⟩ (.slice qd qe qf)).setCell ⟨x14.heap.size, 5, none⟩ (.slice qg qh qi)).setCell ⟨x14.heap.size, 6, none⟩ (.int .i64 P.lost))) Frp22.out (fun b hb => HF.out.2.2.1 b hb) (Ty2.of Fkx22.out)
            rw [HF.out.2.2.2]
            exact this
          go_simp
          refine hK.out _ _ (HS.out _ HF.out.2.1) (fun hHeld => ?_)
          clear hK K
          refine tq 10 16 hHeld ?_
          refine wpAnyH_done (by kernel_rfl) ?_ _
          go_wp2
          go_meet
          case rel => exact ⟨_, _, _, _, _, _, _, _, _, _, rfl, rfl, D14.out.size, HF.out.1, HBO.out, HF.out.2.1⟩
      · go_simp
        have AB : Below xd.heap.size xd (xd.alloc (.cells #[.slice none 0 0, .int .i64 0, .int .i64 0, .int .i64 0, .slice none 0 0, .slice none 0 0, .int .i64 0] 31)) := (Below.refl _ _).alloc (Nat.le_refl _) _
        have D23 : Hid (Below w17.heap.size w17 (xd.alloc (.cells #[.slice none 0 0, .int .i64 0, .int .i64 0, .int .i64 0, .slice none 0 0, .slice none 0 0, .int .i64 0] 31))) := Below.step D0.out AB
        have Fkx23 : Hid ((xd.alloc (.cells #[.slice none 0 0, .int .i64 0, .int .i64 0, .int .i64 0, .slice none 0 0, .slice none 0 0, .int .i64 0] 31)).heap[xd.heap.size]? = some (.cells #[.slice none 0 0, .int .i64 0, .int .i64 0, .int .i64 0, .slice none 0 0, .slice none 0 0, .int .i64 0] 31 (0, 0))) := box_new xd _
        refine hK.out _ _ (HS.out _ D23.out) (fun hHeld => ?_)
        clear hK K AB
        generalize hw23 : xd.alloc (.cells #[.slice none 0 0, .int .i64 0, .int .i64 0, .int .i64 0, .slice none 0 0, .slice none 0 0, .int .i64 0] 31) = x23 at *
        clear hw23
        refine wpAnyH_ready (rs := [1]) (by kernel_rfl) (by simp) ?_
        refine AllReadyH.cons rfl (fun K hK => ?_) AllReadyH.nil
        go_simp
        refine (toBox_b _ o _ (HV.out _ (Below.step X D23.out)).1 (by omega)).mono ?_
        rintro e x24 ⟨u24, rfl, R, BB⟩
        have Fr124 : Hid (BoxO x24 (In w17.heap.size x24.heap.size) u24 o) := R.wide D23.out.size (Nat.le_refl _)
        have Fkx24 : Hid _ := box_below BB Fkx23.out
        have D24 : Hid (Below w17.heap.size w17 x24) := Below.step D23.out BB
        clear R
        refine hK.out _ _ (HS.out _ D24.out) (fun hHeld => ?_)
        clear hK K BB
        refine wpAnyH_ready (rs := [3]) (by kernel_rfl) (by simp) ?_
        refine AllReadyH.cons rfl (fun K hK => ?_) AllReadyH.nil
        go_simp
        refine (toBox_b _ c _ (HV.out _ (Below.step X D24.out)).2 (by omega)).mono ?_
        rintro e x25 ⟨u25, rfl, R, BB⟩
        have Fr125 : Hid (BoxO x25 (In w17.heap.size x25.heap.size) u24 o) := (Fr124.out.below BB).wide (Nat.le_refl _) BB.size
        have Fr325 : Hid (BoxO x25 (In w17.heap.size x25.heap.size) u25 c) := R.wide D24.out.size (Nat.le_refl _)
        have Fkx25 : Hid _ := box_below BB Fkx24.out
        have D25 : Hid (Below w17.heap.size w17 x25) := Below.step D24.out BB
        clear R
        refine hK.out _ _ (HS.out _ D25.out) (fun hHeld => ?_)
        clear hK K BB
        refine wpAnyH_ready (rs := [4]) (by kernel_rfl) (by simp) ?_
        refine AllReadyH.cons rfl (fun K hK => ?_) AllReadyH.nil
        go_simp
        refine (implMerge_r _ _ o c _ Fr125.out.v Fr325.out.v (by omega) (by omega)).mono ?_
        rintro e x26 ⟨u26, rfl, R, BB⟩
        rw [HPE.out.1] at R
        rw [HPE.out.2]
        obtain ⟨qa, qb, qc, qd, qe, qf, qg, qh, qi, rfl⟩ := R.form
        have Frp26 : Hid (BoxO x26 (In w17.heap.size x26.heap.size) (.agg #[.slice qa qb qc, .int .i64 P.valid, .int .i64 P.next, .int .i64 P.seq, .slice qd qe qf, .slice qg qh qi, .int .i64 P.lost]) P) := R.wide D25.out.size (Nat.le_refl _)
        have Fkx26 : Hid _ := box_below BB Fkx25.out
        have D26 : Hid (Below w17.heap.size w17 x26) := Below.step D25.out BB
        clear R
        refine hK.out _ _ (HS.out _ D26.out) (fun hHeld => ?_)
        clear hK K BB
        refine tq 5 94 hHeld ?_
        refine tq 6 100 hHeld ?_
        refine tq 7 101 hHeld ?_
        refine wpAnyH_ready (rs := [9]) (by kernel_rfl) (by simp) ?_
        refine AllReadyH.cons rfl (fun K hK => ?_) AllReadyH.nil
        obtain ⟨zx, zl⟩ := box8z Fkx26.out
        obtain ⟨q0, q1, q2, q3, q4, q5, q6⟩ := bx7 Fkx26.out
        have HF : Hid _ := res7 Fkx26.out (N := w17.heap.size) (show w17.heap.size ≤ xd.heap.size from D0.out.size) D26.out (.slice qa qb qc) (.int .i64 P.valid) (.int .i64 P.next) (.int .i64 P.seq) (.slice qd qe qf) (.slice qg qh qi) (.int .i64 P.lost)
        have HBO : Hid (BoxO (((((((x26.setCell ⟨xd.heap.size, 0, none⟩ (.slice qa qb qc)).setCell ⟨xd.heap.size, 1, none⟩ (.int .i64 P.valid)).setCell ⟨xd.heap.size, 2, none⟩ (.int .i64 P.next)).setCell ⟨xd.heap.size, 3, none⟩ (.int .i64 P.seq)).setCell ⟨xd.heap.size, 4, none⟩ (.slice qd qe qf)).setCell ⟨xd.heap.size, 5, none⟩ (.slice qg qh qi)).setCell ⟨xd.heap.size, 6, none⟩ (.int .i64 P.lost)) (In w17.heap.size (((((((x26.setCell ⟨xd.heap.size, 0, none⟩ (.slice qa qb qc)).setCell ⟨xd.heap.size, 1, none⟩ (.int .i64 P.valid)).setCell ⟨xd.heap.size, 2, none⟩ (.int .i64 P.next)).setCell ⟨xd.heap.size, 3, none⟩ (.int .i64 P.seq)).setCell ⟨xd.heap.size, 4, none⟩ (.slice qd qe qf)).setCell ⟨xd.heap.size, 5, none⟩ (.slice qg qh qi)).setCell ⟨xd.heap.size, 6, none⟩ (.int .i64 P.lost)).heap.size) (.agg #[.slice qa qb qc, .int .i64 P.valid, .int .i64 P.next, .int .i64 P.seq, .slice qd qe qf, .slice qg qh qi, .int .i64 P.lost]) P) := by
          have := boxO_oth (w' := (((((((x26.setCell ⟨xd.heap.size, 0, none⟩ (.slice qa qb qc)).setCell ⟨xd.heap.size, 1, none⟩ (.int .i64 P.valid)).setCell ⟨xd.heap.size, 2, none⟩ (.int .i64 P.next)).setCell ⟨xd.heap.size, 3, none⟩ (.int .i64 P.seq)).setCell ⟨xd.heap.size, 4, none⟩ (.slice qd qe qf)).setCell ⟨xd.heap.size, 5, none⟩ (.slice qg qh qi)).setCell ⟨xd.heap.size, 6, none⟩ (.int .i64 P.lost))) Frp26.out (fun b hb => HF.out.2.2.1 b hb) (Ty2.of Fkx26.out)
          rw [HF.out.2.2.2]
          exact this
        go_simp
        refine hK.out _ _ (HS.out _ HF.out.2.1) (fun hHeld => ?_)
        clear hK K
        refine tq 10 16 hHeld ?_
        refine wpAnyH_done (by kernel_rfl) ?_ _
        go_wp2
        go_meet
        case rel => exact ⟨_, _, _, _, _, _, _, _, _, _, rfl, rfl, D0.out.size, HF.out.1, HBO.out, HF.out.2.1⟩
    case rest =>
      obtain ⟨bq, qa, qd, qg, qb, qc, qe, qf, qh, qi, rfl, rfl, hbq, HK, HR, HB⟩ := hcut
      rename World => wcq
      have kQ := HK.out
      have Rq := HR.out
      have B := HB.out
      have lbq : bq < wcq.heap.size := lt_of_heap kQ
      replace Rp := Rp.below B
      replace R3' := R3'.below B
      replace kA := box_below B kA
      replace kB := box_below B kB
      replace kP := box_below B kP
      replace kz := box_below B kz
      replace X := Below.step X B
      have swcq : w17.heap.size ≤ wcq.heap.size := B.size
      clear B HK HR HB HS DR
      obtain ⟨fA0, fA1, fA2, fA3, fA4, fA5, fA6, lA⟩ := box7l kA
      obtain ⟨fB0, fB1, fB2, fB3, fB4, fB5, fB6, lB⟩ := box7l kB
      obtain ⟨fP0, fP1, fP2, fP3, fP4, fP5, fP6, lP⟩ := box7l kP
      obtain ⟨fz0, fz1, fz2, fz3, fz4, fz5, fz6, lz⟩ := box7l kz
      obtain ⟨fQ0, fQ1, fQ2, fQ3, fQ4, fQ5, fQ6, lQ⟩ := box7l kQ
      go_wp2_with fail
      refine (eqBox_yes _ _ P _ Rq.v Rp.v).mono ?_
      rintro e w19 ⟨rfl, B⟩
      clear fA0 fA1 fA2 fA3 fA4 fA5 fA6 lA fB0 fB1 fB2 fB3 fB4 fB5 fB6 lB fP0 fP1 fP2 fP3 fP4 fP5 fP6 lP fz0 fz1 fz2 fz3 fz4 fz5 fz6 lz fQ0 fQ1 fQ2 fQ3 fQ4 fQ5 fQ6 lQ
      replace Rp := Rp.below B
      replace R3' := R3'.below B
      replace Rq := Rq.below B
      replace kA := box_below B kA
      replace kB := box_below B kB
      replace kP := box_below B kP
      replace kz := box_below B kz
      replace kQ := box_below B kQ
      replace X := Below.step X B
      have s19 : wcq.heap.size ≤ w19.heap.size := B.size
      clear B
      obtain ⟨fA0, fA1, fA2, fA3, fA4, fA5, fA6, lA⟩ := box7l kA
      obtain ⟨fB0, fB1, fB2, fB3, fB4, fB5, fB6, lB⟩ := box7l kB
      obtain ⟨fP0, fP1, fP2, fP3, fP4, fP5, fP6, lP⟩ := box7l kP
      obtain ⟨fz0, fz1, fz2, fz3, fz4, fz5, fz6, lz⟩ := box7l kz
      obtain ⟨fQ0, fQ1, fQ2, fQ3, fQ4, fQ5, fQ6, lQ⟩ := box7l kQ
      go_wp2_with fail
      refine (heldBox_any _ P 1 _ R3'.v (by have := HPS.out; unfold szX at this; omega) (by have := HPS.out; unfold szX at this; omega) (by have := HPS.out; unfold szX at this; omega) (by omega) (by omega)).mono ?_
      rintro e w20 ⟨rfl, B⟩
      clear fA0 fA1 fA2 fA3 fA4 fA5 fA6 lA fB0 fB1 fB2 fB3 fB4 fB5 fB6 lB fP0 fP1 fP2 fP3 fP4 fP5 fP6 lP fz0 fz1 fz2 fz3 fz4 fz5 fz6 lz fQ0 fQ1 fQ2 fQ3 fQ4 fQ5 fQ6 lQ
      replace Rp := Rp.below B
      replace R3' := R3'.below B
      replace Rq := Rq.below B
      replace kA := box_below B kA
      replace kB := box_below B kB
      replace kP := box_below B kP
      replace kz := box_below B kz
      replace kQ := box_below B kQ
      replace X := Below.step X B
      have s20 : w19.heap.size ≤ w20.heap.size := B.size
      clear B
      clear Rp R3' Rq kA kB kP kz kQ
      go_wp2
      go_ret
      exact ⟨rfl, X⟩

end Go.Proofs.Ytodoofdbpffolaa
