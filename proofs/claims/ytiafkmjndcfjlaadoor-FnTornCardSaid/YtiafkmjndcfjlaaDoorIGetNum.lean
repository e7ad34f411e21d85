/- What GetNum of package impl does. -/
import Derived.Test.YtiafkmjndcfjlaaDoorNumSize
namespace Go.Proofs.YtiafkmjndcfjlaaDoor
open Go.RowKit
set_option maxRecDepth 100000

/-- The bytes from A on, five at most, laid over five noughts. -/
theorem five_of (l : List Int) (A : Nat) (ho : Oct l) : ∃ c0 c1 c2 c3 c4 : Int, splice (vals [0, 0, 0, 0, 0]) 0 (vals ((l.drop A).take 5)) = vals [c0, c1, c2, c3, c4] ∧ Oct [c0, c1, c2, c3, c4] ∧ [c0, c1, c2, c3, c4].take (Nat.min (l.length - A) 5) = (l.drop A).take 5 := by
  have hlen : ((l.drop A).take 5).length = Nat.min (l.length - A) 5 := by simp [Nat.min_comm]
  have ho' := oct_take (oct_drop ho A) 5
  generalize (l.drop A).take 5 = m at *
  rw [← hlen]
  have h5 : m.length ≤ 5 := by rw [hlen]; exact Nat.min_le_right ..
  match m, h5, ho' with
  | [], _, _ => exact ⟨0, 0, 0, 0, 0, rfl, by simp [Oct], rfl⟩
  | [x0], _, h => exact ⟨x0, 0, 0, 0, 0, rfl, by simp [Oct] at h ⊢; exact h, rfl⟩
  | [x0, x1], _, h => exact ⟨x0, x1, 0, 0, 0, rfl, by simp [Oct] at h ⊢; exact h, rfl⟩
  | [x0, x1, x2], _, h => exact ⟨x0, x1, x2, 0, 0, rfl, by simp [Oct] at h ⊢; exact h, rfl⟩
  | [x0, x1, x2, x3], _, h => exact ⟨x0, x1, x2, x3, 0, rfl, by simp [Oct] at h ⊢; exact h, rfl⟩
  | [x0, x1, x2, x3, x4], _, h => exact ⟨x0, x1, x2, x3, x4, rfl, h, rfl⟩
  | _ :: _ :: _ :: _ :: _ :: _ :: _, h, _ => simp at h
theorem get_bad1 {l : List Int} {A S : Nat} {G : Int × Int} (hG : G = outOf A (dec 5 0 0 1 (l.drop A))) (hS : szL 0 ((l.drop A).take 5) = S) (h0 : S = 0) : G = (0, -1) := by
  rw [hG, dec_two, hS, if_pos h0]; rfl
theorem get_bad2 {l : List Int} {A S : Nat} {G : Int × Int} {N : Int} (hG : G = outOf A (dec 5 0 0 1 (l.drop A))) (hS : szL 0 ((l.drop A).take 5) = S) (h0 : S ≠ 0) (hN : N = valL ((l.drop A).take S)) (hb : 2147483647 < N) : G = (0, -1) := by
  rw [hG, dec_two, hS, if_neg h0, if_pos (by rw [Nat.sub_zero, ← hN]; omega)]; rfl
theorem get_good {l : List Int} {A S : Nat} {G : Int × Int} {N : Int} (hG : G = outOf A (dec 5 0 0 1 (l.drop A))) (hS : szL 0 ((l.drop A).take 5) = S) (h0 : S ≠ 0) (hN : N = valL ((l.drop A).take S)) (hb : ¬ 2147483647 < N) : G = (N, (A : Int) + S) := by
  rw [hG, dec_two, hS, if_neg h0, if_neg (by rw [Nat.sub_zero, ← hN]; omega), Nat.sub_zero, ← hN]
  simp [outOf]
theorem take_two {cs r : List Int} {T S : Nat} (h : cs.take T = r.take 5) (hT : S ≤ T) (hS : S ≤ 5) : cs.take S = r.take S := by
  have := congrArg (List.take S) h
  rw [List.take_take, List.take_take, Nat.min_eq_left hT, Nat.min_eq_left hS] at this
  exact this
theorem valL_bd (l : List Int) (h : l.length ≤ 5) : 0 ≤ valL l ∧ valL l < 34359738368 := by
  match l, h with
  | [], _ => simp [valL]
  | [a], _ => simp [valL]; omega
  | [a, b], _ => simp [valL]; omega
  | [a, b, c], _ => simp [valL]; omega
  | [a, b, c, d], _ => simp [valL]; omega
  | [a, b, c, d, e], _ => simp [valL]; omega
  | _ :: _ :: _ :: _ :: _ :: _ :: _, h => simp at h
theorem cells_five {w : World} {g : Nat} {t : TypeId} {c0 c1 c2 c3 c4 : Int} (h : w.heap[g]? = some (.cells (vals [c0, c1, c2, c3, c4]).toArray t (0, 0))) :
    w.cell? ⟨g, 0, none⟩ = some (.int .u8 c0) ∧ w.cell? ⟨g, 1, none⟩ = some (.int .u8 c1) ∧ w.cell? ⟨g, 2, none⟩ = some (.int .u8 c2) ∧ w.cell? ⟨g, 3, none⟩ = some (.int .u8 c3) ∧ w.cell? ⟨g, 4, none⟩ = some (.int .u8 c4) := by
  refine ⟨?_, ?_, ?_, ?_, ?_⟩ <;> (rw [cell_of_row w g _ _ t (0, 0) h]; simp [vals])

set_option maxHeartbeats 1000000 in
theorem implGetNum_any (v : Value) (l : List Int) (at' : Int) (w : World) (hv : Bs w v l) (hl : l.length ≤ 2000000) (hn0 : -9223372036854775808 ≤ at') (hn1 : at' ≤ 9223372036854775807) :
    Calls Tryd.prog 32 #[v, .int .i64 at'] w fun e w' => e = .returned (.tuple #[.int .i64 (getL l at').1, .int .i64 (getL l at').2]) ∧ Below w.heap.size w w' := by
  obtain ⟨ho, a, cap, rfl, hlc, hcm, hnil, hcells⟩ := hv
  unfold maxLen at hcm
  by_cases hneg : at' < 0
  · have HG : Hid (getL l at' = (0, -1)) := by simp [Hid, getL, hneg]
    go_enter Tryd.func32, Tryd.ntmps32
    go_wp2
    go_ret2
    exact ⟨ret2 HG.out, Below.refl _ _⟩
  · obtain ⟨A, rfl⟩ := Int.eq_ofNat_of_zero_le (show 0 ≤ at' by omega)
    have hG : getL l (A : Int) = outOf A (dec 5 0 0 1 (l.drop A)) := by unfold getL; rw [if_neg hneg]; simp
    obtain ⟨G, hGG⟩ : ∃ G, G = getL l (A : Int) := ⟨_, rfl⟩
    rw [← hGG]
    have HG : Hid (G = outOf A (dec 5 0 0 1 (l.drop A))) := by rw [hGG]; exact hG
    clear hG hGG
    by_cases hin : A < l.length
    · obtain ⟨b, off, rfl, hlb, hc⟩ := hcells (by omega)
      have hA0 : (0 : Int) ≤ (A : Int) := by omega
      have hA1 : (A : Int) ≤ (l.length : Int) := by omega
      have hA2 : (A : Int) ≤ (cap : Int) := by omega
      have hA3 : ¬ cap = A := by omega
      clear hcells hnil
      go_enter Tryd.func32, Tryd.ntmps32
      obtain ⟨c0, c1, c2, c3, c4, hsp, hoc, htk⟩ := five_of l A ho
      have HSP : Hid (splice (vals [0, 0, 0, 0, 0]) 0 (vals ((l.drop A).take 5)) = vals [c0, c1, c2, c3, c4]) := hsp
      have HT : Hid ([c0, c1, c2, c3, c4].take (Nat.min (l.length - A) 5) = (l.drop A).take 5) := htk
      have HOC : Hid (Oct [c0, c1, c2, c3, c4]) := hoc
      have HN : Hid ((vals ((l.drop A).take 5)).length = Nat.min (l.length - A) 5) := by simp [Hid, length_vals, Nat.min_comm]
      have HC : Hid (∀ j u, (vals ((l.drop A).take 5))[j]? = some u → w.cell? ((⟨b, off + A, none⟩ : Addr).add j) = some u) := by
        intro j u hj
        have hj' : j < min 5 (l.length - A) := by have := (List.getElem?_eq_some_iff.1 hj).1; simpa [length_vals] using this
        have hj1 : j < 5 := by omega
        have hj2 : A + j < l.length := by omega
        rw [Addr.add_lit, Nat.add_assoc, hc (A + j) hj2, ← hj, vals_get _ j (by simp; omega)]
        simp [hj1, hj2]
      have HH : Hid ((w.alloc (.cells #[.int .u8 0, .int .u8 0, .int .u8 0, .int .u8 0, .int .u8 0] 71)).drew.heap[w.heap.size]? = some (.cells (vals [0, 0, 0, 0, 0]).toArray 71 (0, 0))) := heap_alloc_new w _
      have HB : Hid (Below w.heap.size w (w.alloc (.cells #[.int .u8 0, .int .u8 0, .int .u8 0, .int .u8 0, .int .u8 0] 71)).drew) := ((Below.refl _ _).alloc (Nat.le_refl _) _).drew
      have HCC : Hid (∀ j u, (vals ((l.drop A).take 5))[j]? = some u → (w.alloc (.cells #[.int .u8 0, .int .u8 0, .int .u8 0, .int .u8 0, .int .u8 0] 71)).drew.cell? ((⟨b, off + A, none⟩ : Addr).add j) = some u) := fun j u h => cell_later HB.out (HC.out j u h)
      have HF : Hid (0 + (vals ((l.drop A).take 5)).length ≤ (vals [0, 0, 0, 0, 0]).length) := by unfold Hid; rw [HN.out, Nat.zero_add]; exact Nat.min_le_right ..
      clear hsp htk hoc hc
      go_wp2
      go_region_law ((refine step_copy_splice rfl (.tmp 18) (.tmp 21) 22 22 rfl 5 Tryd.underlying22 sz5 _ _ _ _ _ _ rfl rfl w.heap.size 0 (vals [0, 0, 0, 0, 0]) 71 HH.out (vals ((l.drop A).take 5)) HN.out (fun _ => ⟨rfl, _, rfl, HCC.out⟩) HF.out (oneCell_vals _) w.heap.size w HB.out (Nat.le_refl _) ?_; intro w2 hg2 hb2))
      have hg3 := hg2.out
      rw [HSP.out] at hg3
      obtain ⟨f0, f1, f2, f3, f4⟩ := cells_five hg3
      clear hg2 hg3
      go_wp2_with fail
      refine (numSize_any c0 c1 c2 c3 c4 _ _ (by rw [HN.out]; exact Nat.min_le_right ..) HOC.out).mono ?_
      rintro e w3 ⟨rfl, hB3⟩
      have hS1 := szL_gt 0 ([c0, c1, c2, c3, c4].take (vals ((l.drop A).take 5)).length)
      generalize hS : szL 0 ([c0, c1, c2, c3, c4].take (vals ((l.drop A).take 5)).length) = S at hS1
      rw [HN.out, HT.out] at hS
      rw [HN.out, HT.out] at hS1
      have HS : Hid (szL 0 ((l.drop A).take 5) = S) := hS
      have HSM : Hid (S ≤ Nat.min (l.length - A) 5) := by
        have := HN.out; rw [length_vals] at this; unfold Hid; omega
      have hS5 : S ≤ 5 := Nat.le_trans HSM.out (Nat.min_le_right ..)
      have hSA : (S : Int) ≤ (l.length : Int) - (A : Int) := by have := Nat.le_trans HSM.out (Nat.min_le_left ..); omega
      clear hS hS1
      have sz2 := hb2.size
      have hlt : w.heap.size < w2.heap.size := World.block_lt_of_cell? w2 _ f0
      have f0' := cell_later hB3 f0
      have f1' := cell_later hB3 f1
      have f2' := cell_later hB3 f2
      have f3' := cell_later hB3 f3
      have f4' := cell_later hB3 f4
      clear f0 f1 f2 f3 f4
      have HB3 : Hid (Below w.heap.size w w3) := hb2.trans (hB3.mono (by omega))
      clear hb2 hB3
      by_cases hS0 : S = 0
      · have hS0' : ((S : Int) == 0) = true := by simp [hS0]
        have HE : Hid (G = (0, -1)) := get_bad1 HG.out HS.out hS0
        clear hS0
        go_wp2
        go_ret2
        exact ⟨ret2 HE.out, HB3.out⟩
      · have hS0' : ((S : Int) == 0) = false := by simp [hS0]
        go_wp2_with fail
        refine (numOf_any c0 c1 c2 c3 c4 S _ (by omega) hS5 HOC.out).mono ?_
        rintro e w4 ⟨rfl, hB4⟩
        have hb := valL_bd ([c0, c1, c2, c3, c4].take S) (by simp; omega)
        generalize hN : valL ([c0, c1, c2, c3, c4].take S) = N at hb
        rw [take_two HT.out HSM.out hS5] at hN
        have HNN : Hid (N = valL ((l.drop A).take S)) := hN.symm
        clear hN
        obtain ⟨hb0, hb1⟩ := hb
        have HB4 : Hid (Below w.heap.size w w4) := HB3.out.trans (hB4.mono HB3.out.size)
        clear hB4 f0' f1' f2' f3' f4'
        by_cases hbig : 2147483647 < N
        · have HE : Hid (G = (0, -1)) := get_bad2 HG.out HS.out hS0 HNN.out hbig
          clear hS0
          go_wp2
          go_ret2
          exact ⟨ret2 HE.out, HB4.out⟩
        · have HE : Hid (G = (N, (A : Int) + S)) := get_good HG.out HS.out hS0 HNN.out hbig
          clear hS0
          go_wp2
          go_ret2
          exact ⟨ret2' HE.out (by omega) (by omega), HB4.out⟩
    · have HE : Hid (G = (0, -1)) := by rw [HG.out, dec_end _ _ _ _ _ _ (by omega)]; rfl
      go_enter Tryd.func32, Tryd.ntmps32
      go_wp2
      go_ret2
      exact ⟨ret2 HE.out, Below.refl _ _⟩

end Go.Proofs.YtiafkmjndcfjlaaDoor
