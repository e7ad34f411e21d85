/- The proof's texts, part 13. -/
import Derived.Test.YtlegmiaoablcgaaDoorPart12
import Derived.Test.YtlegmiaoablcgaaDoorPart11

/- What CmdRead of package spec does. -/
namespace Go.Proofs.YtlegmiaoablcgaaDoor
open Go.RowKit
set_option maxRecDepth 100000
set_option linter.unusedVariables false
set_option linter.unusedSimpArgs false

theorem tab_cr22 : (Tryd.f10.body.bind (opsAt 22)).all (fun o => tableO o 8 [0, 1, 2, 3, 4, 5, 6, 7] [5]) = true := by kernel_rfl
theorem cmdv_zero (w : World) : CmdV w (.agg #[.int .i64 0, .slice none 0 0, .slice none 0 0, .int .i64 0, .int .i64 0, .int .i64 0, .int .i64 0, .slice none 0 0]) 0 [] [] 0 0 0 0 [] := ⟨_, _, _, rfl, bs_nil _, bs_nil _, bs_nil _, ⟨by decide, by decide⟩, ⟨by decide, by decide⟩, ⟨by decide, by decide⟩, ⟨by decide, by decide⟩, ⟨by decide, by decide⟩⟩
theorem bs_set8 {w : World} {R : Nat} {d0 d1 d2 d3 d4 d5 d6 d7 : Value} {v : Value} {l : List Int} (h : Bs w v l) (hc : w.heap[R]? = some (.cells #[.int .i64 0, .slice none 0 0, .slice none 0 0, .int .i64 0, .int .i64 0, .int .i64 0, .int .i64 0, .slice none 0 0] 24 (0, 0))) : Bs ((((((((w.setCell ⟨R, 0, none⟩ d0).setCell ⟨R, 1, none⟩ d1).setCell ⟨R, 2, none⟩ d2).setCell ⟨R, 3, none⟩ d3).setCell ⟨R, 4, none⟩ d4).setCell ⟨R, 5, none⟩ d5).setCell ⟨R, 6, none⟩ d6).setCell ⟨R, 7, none⟩ d7) v l := by
  obtain ⟨ho, a, cap, hv, h1, h2, h3, h4⟩ := h
  refine ⟨ho, a, cap, hv, h1, h2, h3, fun hp => ?_⟩
  obtain ⟨b, off, ha, hb, hcl⟩ := h4 hp
  have hne : b ≠ R := by
    rintro rfl
    have h0 := hcl 0 hp
    rw [cell_of_row w b (off + 0) _ _ (0, 0) hc] at h0
    rcases off with _ | _ | _ | _ | _ | _ | _ | _ | off <;> simp at h0
  refine ⟨b, off, ha, by simp only [box_size]; exact hb, fun i hi => ?_⟩
  rw [cell_same (w := w)]
  · exact hcl i hi
  · rw [Below.heap_setCell _ _ _ _ (show b ≠ R from hne), Below.heap_setCell _ _ _ _ (show b ≠ R from hne), Below.heap_setCell _ _ _ _ (show b ≠ R from hne), Below.heap_setCell _ _ _ _ (show b ≠ R from hne), Below.heap_setCell _ _ _ _ (show b ≠ R from hne), Below.heap_setCell _ _ _ _ (show b ≠ R from hne), Below.heap_setCell _ _ _ _ (show b ≠ R from hne), Below.heap_setCell _ _ _ _ (show b ≠ R from hne)]
theorem drew_heap {X : World} {g : Nat} {o : Obj} (h : X.heap[g]? = some o) : X.drew.heap[g]? = some o := h
theorem drew_below {X w : World} {N : Nat} (h : Below N w X) : Below N w X.drew := h.drew
theorem drew_px4 {X : World} {g : Nat} {t : TypeId} {c0 c1 c2 c3 c4 : Value} (h : X.heap[g]? = some (.cells #[c0, c1, c2, c3, c4] t (0, 0))) : X.drew.cell? ⟨g, 4, none⟩ = some c4 := (px5 (w := X.drew) h).2.2.2.2
theorem oct_kindW {k : Nat} (hk : k < 10) : Oct (kindW k) := oct_kind _ (by unfold kindsW; exact List.mem_map.2 ⟨k, by simp; omega, rfl⟩)

set_option maxRecDepth 100000 in
set_option maxHeartbeats 8000000 in
theorem specCmdRead_r (v : Value) (l : List Int) (w : World) (hv : Bs w v l) (hll : l.length ≤ 2000000) :
    Calls Tryd.prog 10 #[v] w fun e w' => ∃ u, e = .returned (.tuple #[u, .int .i64 (readM l).2.1, .int .i64 (readM l).2.2]) ∧ CmdV w' u (readM l).1.k (readM l).1.bx (readM l).1.tt (readM l).1.uid (readM l).1.mode (readM l).1.fl (readM l).1.si (readM l).1.tx ∧ Below w.heap.size w w' := by
  obtain ⟨res, hres⟩ : ∃ res, res = readM l := ⟨_, rfl⟩
  have HRES : Hid (res = readM l) := hres
  rw [← hres]
  clear hres
  have HV : Hid (Bs w v l) := hv
  have HO : Hid (Oct l) := hv.1
  obtain ⟨va, cap, rfl⟩ := hv.form
  have hcap := hv.cap
  clear hv
  have HB0 : Hid (Below w.heap.size w (w.alloc (.cells #[.int .i64 0, .slice none 0 0, .slice none 0 0, .int .i64 0, .int .i64 0, .int .i64 0, .int .i64 0, .slice none 0 0] 24))) := (Below.refl _ _).alloc (Nat.le_refl _) _
  have HK0 : Hid ((w.alloc (.cells #[.int .i64 0, .slice none 0 0, .slice none 0 0, .int .i64 0, .int .i64 0, .int .i64 0, .int .i64 0, .slice none 0 0] 24)).heap[w.heap.size]? = some (.cells #[.int .i64 0, .slice none 0 0, .slice none 0 0, .int .i64 0, .int .i64 0, .int .i64 0, .int .i64 0, .slice none 0 0] 24 (0, 0))) := box_new _ _
  have hs0 : (w.alloc (.cells #[.int .i64 0, .slice none 0 0, .slice none 0 0, .int .i64 0, .int .i64 0, .int .i64 0, .int .i64 0, .slice none 0 0] 24)).heap.size = w.heap.size + 1 := by simp
  go_enter Tryd.func10, Tryd.ntmps10
  go_upto_region 1 with fail
  generalize (w.alloc (.cells #[.int .i64 0, .slice none 0 0, .slice none 0 0, .int .i64 0, .int .i64 0, .int .i64 0, .int .i64 0, .slice none 0 0] 24)) = W at HB0 HK0 hs0 ⊢
  have hs0' : w.heap.size + 1 ≤ W.heap.size := by omega
  clear hs0
  by_cases hlen : 120 < l.length
  · have HRE : Hid (res = (zeroCmd, 1, 0)) := by show _ = _; rw [HRES.out, readM, if_pos hlen]
    have hli : (120 : Int) < (l.length : Int) := by omega
    have HF : Hid _ := heap_set8 (d0 := .int .i64 0) (d1 := .slice none 0 0) (d2 := .slice none 0 0) (d3 := .int .i64 0) (d4 := .int .i64 0) (d5 := .int .i64 0) (d6 := .int .i64 0) (d7 := .slice none 0 0) HK0.out
    have HBF : Hid (Below w.heap.size w ((((((((W.setCell ⟨w.heap.size, 0, none⟩ (.int .i64 0)).setCell ⟨w.heap.size, 1, none⟩ (.slice none 0 0)).setCell ⟨w.heap.size, 2, none⟩ (.slice none 0 0)).setCell ⟨w.heap.size, 3, none⟩ (.int .i64 0)).setCell ⟨w.heap.size, 4, none⟩ (.int .i64 0)).setCell ⟨w.heap.size, 5, none⟩ (.int .i64 0)).setCell ⟨w.heap.size, 6, none⟩ (.int .i64 0)).setCell ⟨w.heap.size, 7, none⟩ (.slice none 0 0))) := below_set8 HB0.out (Nat.le_refl _)
    obtain ⟨d0, d1, d2, d3, d4, d5, d6, d7, dl⟩ := box8l HK0.out
    obtain ⟨dz, -⟩ := box8z HK0.out
    go_wp2
    obtain ⟨f0, f1, f2, f3, f4, f5, f6, f7, -⟩ := box8l HF.out
    refine bodyPost_ret (v := .tuple #[.agg #[.int .i64 0, .slice none 0 0, .slice none 0 0, .int .i64 0, .int .i64 0, .int .i64 0, .int .i64 0, .slice none 0 0], .int .i64 1, .int .i64 0]) (by simp [results, Tryd.results10, go_sem, f0, f1, f2, f3, f4, f5, f6, f7]) rfl ?_
    rw [HRE.out]
    exact ⟨_, rfl, cmdv_zero _, HBF.out⟩
  · have hl : l.length ≤ 2000 := by omega
    have hli : ¬ (120 : Int) < (l.length : Int) := by omega
    have hlx := l4lex_r _ l W (HV.out.below HB0.out) hl
    cases hlm : lexM (l.length + 1) 0 l with
    | error p =>
      rw [hlm] at hlx
      have HRE : Hid (res = (zeroCmd, 2, p)) := by show _ = _; rw [HRES.out, readM, if_neg hlen, hlm]
      clear hlm
      go_wp2_with fail
      refine hlx.mono ?_
      rintro r w2 ⟨B2, rfl, hp0⟩
      have HB2 : Hid (Below w.heap.size w w2) := Below.step HB0.out B2
      have HK2 : Hid (w2.heap[w.heap.size]? = some (.cells #[.int .i64 0, .slice none 0 0, .slice none 0 0, .int .i64 0, .int .i64 0, .int .i64 0, .int .i64 0, .slice none 0 0] 24 (0, 0))) := box_below B2 HK0.out
      clear B2 HB0 HK0 hlx
      have HF : Hid _ := heap_set8 (d0 := .int .i64 0) (d1 := .slice none 0 0) (d2 := .slice none 0 0) (d3 := .int .i64 0) (d4 := .int .i64 0) (d5 := .int .i64 0) (d6 := .int .i64 0) (d7 := .slice none 0 0) HK2.out
      have HBF : Hid (Below w.heap.size w ((((((((w2.setCell ⟨w.heap.size, 0, none⟩ (.int .i64 0)).setCell ⟨w.heap.size, 1, none⟩ (.slice none 0 0)).setCell ⟨w.heap.size, 2, none⟩ (.slice none 0 0)).setCell ⟨w.heap.size, 3, none⟩ (.int .i64 0)).setCell ⟨w.heap.size, 4, none⟩ (.int .i64 0)).setCell ⟨w.heap.size, 5, none⟩ (.int .i64 0)).setCell ⟨w.heap.size, 6, none⟩ (.int .i64 0)).setCell ⟨w.heap.size, 7, none⟩ (.slice none 0 0))) := below_set8 HB2.out (Nat.le_refl _)
      obtain ⟨d0, d1, d2, d3, d4, d5, d6, d7, dl⟩ := box8l HK2.out
      obtain ⟨dz, -⟩ := box8z HK2.out
      go_wp2
      obtain ⟨f0, f1, f2, f3, f4, f5, f6, f7, -⟩ := box8l HF.out
      refine bodyPost_ret (v := .tuple #[.agg #[.int .i64 0, .slice none 0 0, .slice none 0 0, .int .i64 0, .int .i64 0, .int .i64 0, .int .i64 0, .slice none 0 0], .int .i64 2, .int .i64 p]) (by simp [results, Tryd.results10, go_sem, f0, f1, f2, f3, f4, f5, f6, f7]) rfl ?_
      rw [HRE.out]
      exact ⟨_, rfl, cmdv_zero _, HBF.out⟩
    | ok ts =>
      rw [hlm] at hlx
      have HOK : Hid (∀ t ∈ ts, OkT t) := lex_okT _ _ l ts HO.out hl hlm
      have HRE0 : Hid (res = match cmdM l.length ts with
        | .error p => (zeroCmd, 3, p)
        | .ok c => (c, 0, 0)) := by show _ = _; rw [HRES.out, readM, if_neg hlen, hlm]; simp only; cases cmdM (l.length : Int) ts <;> rfl
      clear hlm HRES
      go_wp2_with fail
      refine hlx.mono ?_
      rintro r w2 ⟨B2, ta, tn0, tc, rfl, hTK⟩
      obtain ⟨ta', tc', hts, htl, htm⟩ := toks_slice hTK
      simp only [Value.slice.injEq] at hts
      obtain ⟨rfl, hn0, rfl⟩ := hts
      subst hn0
      obtain ⟨S, hSd⟩ : ∃ S, S = In W.heap.size w2.heap.size := ⟨_, rfl⟩
      rw [← hSd] at hTK
      have hS2 : ∀ b, S b → W.heap.size ≤ b ∧ b < w2.heap.size := fun b hb => by rw [hSd] at hb; exact hb
      clear hSd
      obtain ⟨kg, kc, B4⟩ := boxes2 w2 (.cells #[.slice ta ts.length tc, .int .i64 0, .int .i64 (l.length : Int), .bool false, .int .i64 0] 54) (.cells #[.int .i64 (-1), .slice none 0 0, .slice none 0 0, .int .i64 0, .int .i64 0, .int .i64 0, .int .i64 0, .slice none 0 0] 24)
      have hs4 : ((w2.alloc (.cells #[.slice ta ts.length tc, .int .i64 0, .int .i64 (l.length : Int), .bool false, .int .i64 0] 54)).alloc (.cells #[.int .i64 (-1), .slice none 0 0, .slice none 0 0, .int .i64 0, .int .i64 0, .int .i64 0, .int .i64 0, .slice none 0 0] 24)).heap.size = w2.heap.size + 2 := by simp
      have hs2 := B2.size
      have HBW : Hid (Below w.heap.size w ((w2.alloc (.cells #[.slice ta ts.length tc, .int .i64 0, .int .i64 (l.length : Int), .bool false, .int .i64 0] 54)).alloc (.cells #[.int .i64 (-1), .slice none 0 0, .slice none 0 0, .int .i64 0, .int .i64 0, .int .i64 0, .int .i64 0, .slice none 0 0] 24))) := Below.step (Below.step HB0.out B2) B4
      have HKN : Hid (((w2.alloc (.cells #[.slice ta ts.length tc, .int .i64 0, .int .i64 (l.length : Int), .bool false, .int .i64 0] 54)).alloc (.cells #[.int .i64 (-1), .slice none 0 0, .slice none 0 0, .int .i64 0, .int .i64 0, .int .i64 0, .int .i64 0, .slice none 0 0] 24)).heap[w.heap.size]? = some (.cells #[.int .i64 0, .slice none 0 0, .slice none 0 0, .int .i64 0, .int .i64 0, .int .i64 0, .int .i64 0, .slice none 0 0] 24 (0, 0))) := box_below B4 (box_below B2 HK0.out)
      have HX4 : Hid (RSt ((w2.alloc (.cells #[.slice ta ts.length tc, .int .i64 0, .int .i64 (l.length : Int), .bool false, .int .i64 0] 54)).alloc (.cells #[.int .i64 (-1), .slice none 0 0, .slice none 0 0, .int .i64 0, .int .i64 0, .int .i64 0, .int .i64 0, .slice none 0 0] 24)) ((w2.alloc (.cells #[.slice ta ts.length tc, .int .i64 0, .int .i64 (l.length : Int), .bool false, .int .i64 0] 54)).alloc (.cells #[.int .i64 (-1), .slice none 0 0, .slice none 0 0, .int .i64 0, .int .i64 0, .int .i64 0, .int .i64 0, .slice none 0 0] 24)) w2.heap.size (w2.heap.size + 1) (.slice ta ts.length tc) l.length ts S ⟨0, false, 0⟩ ⟨-1, [], [], 0, 0, 0, 0, []⟩) := ⟨Gr2.refl _ _ _, kg, Ow.below framesTok hTK B4, none, 0, 0, none, 0, 0, none, 0, 0, kc, rb_nil _ _, rb_nil _ _, rb_nil _ _⟩
      clear kg kc B4 hTK B2 HB0 HK0 hlx
      go_upto_region 8 with fail
      generalize ((w2.alloc (.cells #[.slice ta ts.length tc, .int .i64 0, .int .i64 (l.length : Int), .bool false, .int .i64 0] 54)).alloc (.cells #[.int .i64 (-1), .slice none 0 0, .slice none 0 0, .int .i64 0, .int .i64 0, .int .i64 0, .int .i64 0, .slice none 0 0] 24)) = w4 at HBW HKN HX4 hs4 ⊢
      have hs4' : w2.heap.size + 2 ≤ w4.heap.size := by omega
      clear hs4
      obtain ⟨g, hg⟩ : ∃ g, g = w2.heap.size := ⟨_, rfl⟩
      obtain ⟨gc, hgc⟩ : ∃ gc, gc = w2.heap.size + 1 := ⟨_, rfl⟩
      rw [← hgc, ← hg] at HX4
      rw [← hgc, ← hg]
      have hSg : ¬ S g := fun h => by have := (hS2 g h).2; omega
      have hSgc : ¬ S gc := fun h => by have := (hS2 gc h).2; omega
      have hSw : ∀ b, S b → b < w4.heap.size := fun b hb => by have := (hS2 b hb).2; omega
      have hne : g ≠ gc := by omega
      have hgw : w.heap.size + 1 ≤ g := by omega
      have hgcw : w.heap.size + 1 ≤ gc := by omega
      have hg4 : w.heap.size + 1 ≤ w4.heap.size := by omega
      clear hg hgc
      go_wp2
      go_loopw [9] (fun kv wr => ∃ k : Nat, k ≤ 10 ∧ kv = .int .i64 k ∧ Hid (RSt w4 wr g gc (.slice ta ts.length tc) l.length ts S ⟨0, false, 0⟩ ⟨kOf ts ⟨0, false, 0⟩ k, [], [], 0, 0, 0, 0, []⟩)) (fun kv _ => 10 - (intOf kv).toNat)
      case atStart => exact ⟨0, by omega, rfl, HX4⟩
      case round =>
        obtain ⟨k, hk, rfl, HK⟩ := hrel
        by_cases hlt : k < 10
        · have hki : (k : Int) ≤ 9 := by omega
          have HSTEP : Hid (kOf ts ⟨0, false, 0⟩ (k + 1) = if seesS (kindW k) ts ⟨0, false, 0⟩ then (k : Int) else kOf ts ⟨0, false, 0⟩ k) := rfl
          go_wp2_with fail
          refine (l4kind_r k ⟨by omega, by omega⟩ wr).mono ?_
          rintro r x ⟨rfl, hB⟩
          have HX : Hid (RSt w4 x g gc (.slice ta ts.length tc) l.length ts S ⟨0, false, 0⟩ ⟨kOf ts ⟨0, false, 0⟩ k, [], [], 0, 0, 0, 0, []⟩) := HK.out.below hB
          clear hB HK
          go_wp2_with fail
          refine (l4sees_r g _ l.length ⟨0, false, 0⟩ ts S (kindW k) x HX.out.par HX.out.tok (oct_kindW hlt) (by simp)).mono ?_
          rintro r y ⟨rfl, hB⟩
          have HY : Hid (RSt w4 y g gc (.slice ta ts.length tc) l.length ts S ⟨0, false, 0⟩ ⟨kOf ts ⟨0, false, 0⟩ k, [], [], 0, 0, 0, 0, []⟩) := HX.out.below hB
          clear hB HX
          obtain ⟨v1, v2, v7, d0, d1, d2, d3, d4, d5, d6, d7, dz, dl⟩ := HY.out.cells
          simp only at d0 d3 d4 d5 d6
          cases hs : seesS (kindW k) ts ⟨0, false, 0⟩ with
          | true =>
            have HN : Hid (RSt w4 (y.setCell ⟨gc, 0, none⟩ (.int .i64 k)) g gc (.slice ta ts.length tc) l.length ts S ⟨0, false, 0⟩ ⟨kOf ts ⟨0, false, 0⟩ (k + 1), [], [], 0, 0, 0, 0, []⟩) := by
              show RSt _ _ _ _ _ _ _ _ _ _
              rw [HSTEP.out, if_pos hs]
              exact HY.out.setK hSgc hne
            clear hs
            go_wp2
            go_roundw
            case rel => exact ⟨k + 1, by omega, by go_num, HN⟩
            case measure => simp [intOf]; omega
          | false =>
            have HN : Hid (RSt w4 y g gc (.slice ta ts.length tc) l.length ts S ⟨0, false, 0⟩ ⟨kOf ts ⟨0, false, 0⟩ (k + 1), [], [], 0, 0, 0, 0, []⟩) := by
              show RSt _ _ _ _ _ _ _ _ _ _
              rw [HSTEP.out, if_neg (by rw [hs]; simp)]
              exact HY.out
            clear hs
            go_wp2
            go_roundw
            case rel => exact ⟨k + 1, by omega, by go_num, HN⟩
            case measure => simp [intOf]; omega
        · obtain rfl : k = 10 := by omega
          have hkk := kOf_kind ts 0 0
          rw [List.drop_zero] at hkk
          clear HX4
          cases hkm : kindM ts with
          | none =>
            rw [hkm] at hkk
            simp only at hkk
            rw [hkk] at HK
            have HRE : Hid (res = (zeroCmd, 3, failM l.length ts)) := by
              show _ = _
              rw [HRE0.out, cmdM, hkm]
            clear hkk hkm
            obtain ⟨v1, v2, v7, d0, d1, d2, d3, d4, d5, d6, d7, dz, dl⟩ := HK.out.cells
            simp only at d0 d3 d4 d5 d6
            go_wp2_with fail
            refine (l4fail_r g _ l.length ⟨0, false, 0⟩ ts S wr HK.out.par HK.out.tok hSg (by simp)).mono ?_
            rintro r y ⟨rfl, hG, hP⟩
            rw [fail_good, List.drop_zero] at hP
            obtain ⟨fp, hfp⟩ : ∃ fp, fp = failM l.length ts := ⟨_, rfl⟩
            rw [← hfp] at hP HRE
            obtain ⟨fi, hfi⟩ : ∃ fi : Nat, fi = 0 := ⟨_, rfl⟩
            rw [← hfi] at hP
            have HY : Hid (RSt w4 y g gc (.slice ta ts.length tc) l.length ts S ⟨fi, true, fp⟩ ⟨-1, [], [], 0, 0, 0, 0, []⟩) := HK.out.took hSg hne hG hP
            clear hG hP HK hfp hfi d0 d1 d2 d3 d4 d5 d6 d7 dz dl
            clear HRE0
            obtain ⟨hgr, hpar, -, -⟩ := HY.out
            have HKY : Hid (y.heap[w.heap.size]? = some (.cells #[.int .i64 0, .slice none 0 0, .slice none 0 0, .int .i64 0, .int .i64 0, .int .i64 0, .int .i64 0, .slice none 0 0] 24 (0, 0))) := (hgr.block w.heap.size (lt_of_heap HKN.out) (by omega) (by omega)).trans HKN.out
            have HBY : Hid (Below w.heap.size w y) := below_gr2 HBW.out hgr (by omega) (by omega) (by omega)
            have HPY : Hid (y.heap[g]? = some (.cells #[.slice ta ts.length tc, .int .i64 (fi : Int), .int .i64 (l.length : Int), .bool true, .int .i64 fp] 54 (0, 0))) := hpar
            clear hgr hpar HY
            obtain ⟨q0, q1, q2, q3, q4⟩ := px5 HPY.out
            obtain ⟨qz, ql⟩ := box8z HPY.out
            obtain ⟨d0, d1, d2, d3, d4, d5, d6, d7, dl⟩ := box8l HKY.out
            obtain ⟨dz, -⟩ := box8z HKY.out
            have hgN : g ≠ w.heap.size := by omega
            have HFD : Hid (((((((((y.setCell ⟨w.heap.size, 0, none⟩ (.int .i64 0)).setCell ⟨w.heap.size, 1, none⟩ (.slice none 0 0)).setCell ⟨w.heap.size, 2, none⟩ (.slice none 0 0)).setCell ⟨w.heap.size, 3, none⟩ (.int .i64 0)).setCell ⟨w.heap.size, 4, none⟩ (.int .i64 0)).setCell ⟨w.heap.size, 5, none⟩ (.int .i64 0)).setCell ⟨w.heap.size, 6, none⟩ (.int .i64 0)).setCell ⟨w.heap.size, 7, none⟩ (.slice none 0 0)).drew.heap[w.heap.size]? = some (.cells #[.int .i64 0, .slice none 0 0, .slice none 0 0, .int .i64 0, .int .i64 0, .int .i64 0, .int .i64 0, .slice none 0 0] 24 (0, 0))) := drew_heap (heap_set8 (d0 := .int .i64 0) (d1 := .slice none 0 0) (d2 := .slice none 0 0) (d3 := .int .i64 0) (d4 := .int .i64 0) (d5 := .int .i64 0) (d6 := .int .i64 0) (d7 := .slice none 0 0) HKY.out)
            have HBD : Hid (Below w.heap.size w ((((((((y.setCell ⟨w.heap.size, 0, none⟩ (.int .i64 0)).setCell ⟨w.heap.size, 1, none⟩ (.slice none 0 0)).setCell ⟨w.heap.size, 2, none⟩ (.slice none 0 0)).setCell ⟨w.heap.size, 3, none⟩ (.int .i64 0)).setCell ⟨w.heap.size, 4, none⟩ (.int .i64 0)).setCell ⟨w.heap.size, 5, none⟩ (.int .i64 0)).setCell ⟨w.heap.size, 6, none⟩ (.int .i64 0)).setCell ⟨w.heap.size, 7, none⟩ (.slice none 0 0)).drew) := drew_below (below_set8 HBY.out (Nat.le_refl _))
            have HSD : Hid (((((((((y.setCell ⟨w.heap.size, 0, none⟩ (.int .i64 0)).setCell ⟨w.heap.size, 1, none⟩ (.slice none 0 0)).setCell ⟨w.heap.size, 2, none⟩ (.slice none 0 0)).setCell ⟨w.heap.size, 3, none⟩ (.int .i64 0)).setCell ⟨w.heap.size, 4, none⟩ (.int .i64 0)).setCell ⟨w.heap.size, 5, none⟩ (.int .i64 0)).setCell ⟨w.heap.size, 6, none⟩ (.int .i64 0)).setCell ⟨w.heap.size, 7, none⟩ (.slice none 0 0)).drew.cell? ⟨g, 4, none⟩ = some (.int .i64 fp)) := drew_px4 (heap_oth8 HPY.out hgN)
            go_upto_region 22 with fail
            refine wpO_begin (S := fun w' => w'.cell? ⟨g, 4, none⟩ = some (.int .i64 fp)) (tabO_of (by kernel_rfl) tab_cr22) (by kernel_rfl) (q4) (fun hTb hHeld => ?_)
            refine tkw 0 0 83 hTb hHeld ?_
            refine tkw 1 1 84 hTb hHeld ?_
            refine tkw 2 2 85 hTb hHeld ?_
            refine tkw 3 3 86 hTb hHeld ?_
            refine tkw 4 4 87 hTb hHeld ?_
            refine clo 5 5 hTb (by decide) rfl ?_
            refine AllReadyH.cons rfl (fun K hK => ?_) AllReadyH.nil
            go_simp
            generalize ((((((((y.setCell ⟨w.heap.size, 0, none⟩ (.int .i64 0)).setCell ⟨w.heap.size, 1, none⟩ (.slice none 0 0)).setCell ⟨w.heap.size, 2, none⟩ (.slice none 0 0)).setCell ⟨w.heap.size, 3, none⟩ (.int .i64 0)).setCell ⟨w.heap.size, 4, none⟩ (.int .i64 0)).setCell ⟨w.heap.size, 5, none⟩ (.int .i64 0)).setCell ⟨w.heap.size, 6, none⟩ (.int .i64 0)).setCell ⟨w.heap.size, 7, none⟩ (.slice none 0 0)).drew = wf at HFD HBD HSD ⊢
            refine hK.out _ _ (HSD.out) (fun hHeld => ?_)
            clear hK K
            refine wpOrd_in (n := 8) (p := 5) (i := 5) rfl rfl rfl ?_
            refine tkw 6 6 3 hTb hHeld ?_
            refine tkw 7 7 4 hTb hHeld ?_
            refine wpO_end hTb ?_
            clear hTb hHeld
            go_wp2
            obtain ⟨f0, f1, f2, f3, f4, f5, f6, f7, -⟩ := box8l HFD.out
            refine bodyPost_ret (v := .tuple #[.agg #[.int .i64 0, .slice none 0 0, .slice none 0 0, .int .i64 0, .int .i64 0, .int .i64 0, .int .i64 0, .slice none 0 0], .int .i64 3, .int .i64 fp]) (by simp [results, Tryd.results10, go_sem, f0, f1, f2, f3, f4, f5, f6, f7]) rfl ?_
            rw [HRE.out]
            exact ⟨_, rfl, cmdv_zero _, HBD.out⟩
          | some k =>
            rw [hkm] at hkk
            simp only at hkk
            rw [hkk] at HK
            have hk9 := kindM_lt hkm
            have HCM : Hid (cmdM l.length ts = finS l.length ts (stepS l.length ts k ⟨1, false, 0⟩)) := spec_same hkm
            clear hkk hkm
            obtain ⟨v1, v2, v7, d0, d1, d2, d3, d4, d5, d6, d7, dz, dl⟩ := HK.out.cells
            obtain ⟨q0, q1, q2, q3, q4⟩ := px5 HK.out.par
            obtain ⟨qz, ql⟩ := box8z HK.out.par
            simp only at d0 d3 d4 d5 d6 q0 q1 q2 q3 q4
            have HX1 : Hid (RSt w4 (wr.setCell ⟨g, 1, none⟩ (.int .i64 1)) g gc (.slice ta ts.length tc) l.length ts S ⟨1, false, 0⟩ ⟨k, [], [], 0, 0, 0, 0, []⟩) := HK.out.bump hSg hne rfl
            have hkn : ¬ ((k : Int) < 0) := by omega
            go_upto_region 16 with fail
            generalize (wr.setCell ⟨g, 1, none⟩ (.int .i64 1)) = x1 at HX1 ⊢
            clear HK d0 d1 d2 d3 d4 d5 d6 d7 dz dl q0 q1 q2 q3 q4 qz ql
            obtain ⟨v1, v2, v7, d0, d1, d2, d3, d4, d5, d6, d7, dz, dl⟩ := HX1.out.cells
            simp only at d0 d3 d4 d5 d6
            by_cases h9 : k = 9
            · have h9i : ((k : Int) != 9) = false := by simp [h9]
              have HX5 : Hid (RSt w4 x1 g gc (.slice ta ts.length tc) l.length ts S ⟨1, false, 0⟩ ⟨k, [], [], 0, 0, 0, 0, []⟩) := HX1.out
              clear HX1
              go_wp2_with fail
              refine (l4rest_r g gc _ l.length ⟨1, false, 0⟩ ts S ⟨k, [], [], 0, 0, 0, 0, []⟩ x1 HX5.out.par HX5.out.tok hSg hSgc hne (fun b hb => Nat.lt_of_lt_of_le (hSw b hb) HX5.out.gr.size) (by simp) HX5.out.cmd).mono ?_
              rintro r x ⟨rfl, hgr, hpar, hcmd⟩
              have hiR := rest_i (l.length : Int) ts ⟨k, [], [], 0, 0, 0, 0, []⟩ ⟨1, false, 0⟩
              generalize hR : restS l.length ts ⟨k, [], [], 0, 0, 0, 0, []⟩ ⟨1, false, 0⟩ = R at hpar hcmd hiR
              obtain ⟨R1, R2⟩ := R
              simp only at hpar hcmd hiR
              have HX : Hid (RSt w4 x g gc (.slice ta ts.length tc) l.length ts S R2 R1) := HX5.out.rest hSg hSgc hgr hpar hcmd
              have HST : Hid (stepS l.length ts k ⟨1, false, 0⟩ = (R1, R2)) := by
                show _ = _
                rw [← hR, stepS, if_pos (by omega), h9]; rfl
              clear hgr hpar hcmd hR HX5
              obtain ⟨fi, bad, fp⟩ := R2
              have HPX := HX.out.par
              obtain ⟨q0, q1, q2, q3, q4⟩ := px5 HPX
              obtain ⟨qz, ql⟩ := box8z HPX
              simp only at q0 q1 q2 q3 q4 hiR
              clear HPX
              cases bad with
              | true =>
                have HRE : Hid (res = (zeroCmd, 3, fp)) := by
                  show _ = _
                  rw [HRE0.out, HCM.out, HST.out]
                  simp [finS, lastS]
                have HXD : Hid (RSt w4 x.drew g gc (.slice ta ts.length tc) l.length ts S ⟨fi, true, fp⟩ R1) := HX.out.below (Below.refl _ _).drew
                go_upto_region 19 with fail
                refine wp_region_held_drew (S := fun w' => w'.cell? ⟨g, 3, none⟩ = some (.bool true)) (by kernel_rfl) (q3) (fun hHeld => (show wpAnyH _ _ _ _ _ 17 #[false, false, false, false, false, false, false, false, false, false, false, false, false, false, false, false, false] _ _ from ?_))
                refine tq 0 60 hHeld ?_
                refine tq 1 61 hHeld ?_
                refine tq 2 62 hHeld ?_
                refine tq 3 63 hHeld ?_
                refine tq 4 64 hHeld ?_
                refine tq 5 65 hHeld ?_
                refine wpAnyH_skips (by kernel_rfl) (fun _ _ _ _ _ h => h) hHeld [6, 7, 8, 9, 10, 11, 12, 13, 14, 15] [66, 67, 68, 69, 70, 71, 72, 73, 74, 75] _ _ _ (by kernel_rfl) ?_
                simp only [List.foldl_cons, List.foldl_nil, Act.put, sA, s0, sS]
                refine tq 16 76 hHeld ?_
                refine wpAnyH_done (by kernel_rfl) ?_ _
                clear hHeld
                generalize x.drew = y at HXD ⊢
                clear HX q0 q1 q2 q3 q4 qz ql
                have HY : Hid (RSt w4 y g gc (.slice ta ts.length tc) l.length ts S ⟨fi, true, fp⟩ R1) := HXD.out
                clear HXD
                clear HRE0
                obtain ⟨hgr, hpar, -, -⟩ := HY.out
                have HKY : Hid (y.heap[w.heap.size]? = some (.cells #[.int .i64 0, .slice none 0 0, .slice none 0 0, .int .i64 0, .int .i64 0, .int .i64 0, .int .i64 0, .slice none 0 0] 24 (0, 0))) := (hgr.block w.heap.size (lt_of_heap HKN.out) (by omega) (by omega)).trans HKN.out
                have HBY : Hid (Below w.heap.size w y) := below_gr2 HBW.out hgr (by omega) (by omega) (by omega)
                have HPY : Hid (y.heap[g]? = some (.cells #[.slice ta ts.length tc, .int .i64 (fi : Int), .int .i64 (l.length : Int), .bool true, .int .i64 fp] 54 (0, 0))) := hpar
                clear hgr hpar HY
                obtain ⟨q0, q1, q2, q3, q4⟩ := px5 HPY.out
                obtain ⟨qz, ql⟩ := box8z HPY.out
                obtain ⟨d0, d1, d2, d3, d4, d5, d6, d7, dl⟩ := box8l HKY.out
                obtain ⟨dz, -⟩ := box8z HKY.out
                have hgN : g ≠ w.heap.size := by omega
                have HFD : Hid (((((((((y.setCell ⟨w.heap.size, 0, none⟩ (.int .i64 0)).setCell ⟨w.heap.size, 1, none⟩ (.slice none 0 0)).setCell ⟨w.heap.size, 2, none⟩ (.slice none 0 0)).setCell ⟨w.heap.size, 3, none⟩ (.int .i64 0)).setCell ⟨w.heap.size, 4, none⟩ (.int .i64 0)).setCell ⟨w.heap.size, 5, none⟩ (.int .i64 0)).setCell ⟨w.heap.size, 6, none⟩ (.int .i64 0)).setCell ⟨w.heap.size, 7, none⟩ (.slice none 0 0)).drew.heap[w.heap.size]? = some (.cells #[.int .i64 0, .slice none 0 0, .slice none 0 0, .int .i64 0, .int .i64 0, .int .i64 0, .int .i64 0, .slice none 0 0] 24 (0, 0))) := drew_heap (heap_set8 (d0 := .int .i64 0) (d1 := .slice none 0 0) (d2 := .slice none 0 0) (d3 := .int .i64 0) (d4 := .int .i64 0) (d5 := .int .i64 0) (d6 := .int .i64 0) (d7 := .slice none 0 0) HKY.out)
                have HBD : Hid (Below w.heap.size w ((((((((y.setCell ⟨w.heap.size, 0, none⟩ (.int .i64 0)).setCell ⟨w.heap.size, 1, none⟩ (.slice none 0 0)).setCell ⟨w.heap.size, 2, none⟩ (.slice none 0 0)).setCell ⟨w.heap.size, 3, none⟩ (.int .i64 0)).setCell ⟨w.heap.size, 4, none⟩ (.int .i64 0)).setCell ⟨w.heap.size, 5, none⟩ (.int .i64 0)).setCell ⟨w.heap.size, 6, none⟩ (.int .i64 0)).setCell ⟨w.heap.size, 7, none⟩ (.slice none 0 0)).drew) := drew_below (below_set8 HBY.out (Nat.le_refl _))
                have HSD : Hid (((((((((y.setCell ⟨w.heap.size, 0, none⟩ (.int .i64 0)).setCell ⟨w.heap.size, 1, none⟩ (.slice none 0 0)).setCell ⟨w.heap.size, 2, none⟩ (.slice none 0 0)).setCell ⟨w.heap.size, 3, none⟩ (.int .i64 0)).setCell ⟨w.heap.size, 4, none⟩ (.int .i64 0)).setCell ⟨w.heap.size, 5, none⟩ (.int .i64 0)).setCell ⟨w.heap.size, 6, none⟩ (.int .i64 0)).setCell ⟨w.heap.size, 7, none⟩ (.slice none 0 0)).drew.cell? ⟨g, 4, none⟩ = some (.int .i64 fp)) := drew_px4 (heap_oth8 HPY.out hgN)
                go_upto_region 22 with fail
                refine wpO_begin (S := fun w' => w'.cell? ⟨g, 4, none⟩ = some (.int .i64 fp)) (tabO_of (by kernel_rfl) tab_cr22) (by kernel_rfl) (q4) (fun hTb hHeld => ?_)
                refine tkw 0 0 83 hTb hHeld ?_
                refine tkw 1 1 84 hTb hHeld ?_
                refine tkw 2 2 85 hTb hHeld ?_
                refine tkw 3 3 86 hTb hHeld ?_
                refine tkw 4 4 87 hTb hHeld ?_
                refine clo 5 5 hTb (by decide) rfl ?_
                refine AllReadyH.cons rfl (fun K hK => ?_) AllReadyH.nil
                go_simp
                generalize ((((((((y.setCell ⟨w.heap.size, 0, none⟩ (.int .i64 0)).setCell ⟨w.heap.size, 1, none⟩ (.slice none 0 0)).setCell ⟨w.heap.size, 2, none⟩ (.slice none 0 0)).setCell ⟨w.heap.size, 3, none⟩ (.int .i64 0)).setCell ⟨w.heap.size, 4, none⟩ (.int .i64 0)).setCell ⟨w.heap.size, 5, none⟩ (.int .i64 0)).setCell ⟨w.heap.size, 6, none⟩ (.int .i64 0)).setCell ⟨w.heap.size, 7, none⟩ (.slice none 0 0)).drew = wf at HFD HBD HSD ⊢
                refine hK.out _ _ (HSD.out) (fun hHeld => ?_)
                clear hK K
                refine wpOrd_in (n := 8) (p := 5) (i := 5) rfl rfl rfl ?_
                refine tkw 6 6 3 hTb hHeld ?_
                refine tkw 7 7 4 hTb hHeld ?_
                refine wpO_end hTb ?_
                clear hTb hHeld
                go_wp2
                obtain ⟨f0, f1, f2, f3, f4, f5, f6, f7, -⟩ := box8l HFD.out
                refine bodyPost_ret (v := .tuple #[.agg #[.int .i64 0, .slice none 0 0, .slice none 0 0, .int .i64 0, .int .i64 0, .int .i64 0, .int .i64 0, .slice none 0 0], .int .i64 3, .int .i64 fp]) (by simp [results, Tryd.results10, go_sem, f0, f1, f2, f3, f4, f5, f6, f7]) rfl ?_
                rw [HRE.out]
                exact ⟨_, rfl, cmdv_zero _, HBD.out⟩
              | false =>
                by_cases hil : fi < ts.length
                · have hii : (fi : Int) < (ts.length : Int) := by omega
                  have hdi : decide ((fi : Int) < (ts.length : Int)) = true := decide_eq_true hii
                  have HXD : Hid (RSt w4 x.drew g gc (.slice ta ts.length tc) l.length ts S ⟨fi, false, fp⟩ R1) := HX.out.below (Below.refl _ _).drew
                  go_upto_region 19 with fail
                  refine wp_region_held_drew (S := fun w' => w'.cell? ⟨g, 3, none⟩ = some (.bool false) ∧ w'.cell? ⟨g, 1, none⟩ = some (.int .i64 (fi : Int)) ∧ w'.cell? ⟨g, 0, none⟩ = some (.slice ta ts.length tc)) (by kernel_rfl) (⟨q3, q1, q0⟩) (fun hHeld => (show wpAnyH _ _ _ _ _ 17 #[false, false, false, false, false, false, false, false, false, false, false, false, false, false, false, false, false] _ _ from ?_))
                  refine tq 0 60 hHeld ?_
                  refine tq 1 61 hHeld ?_
                  refine tq 2 62 hHeld ?_
                  refine tq 3 63 hHeld ?_
                  refine tq 4 64 hHeld ?_
                  refine tq 5 65 hHeld ?_
                  refine tq 6 66 hHeld ?_
                  refine tq 7 67 hHeld ?_
                  refine tq 8 68 hHeld ?_
                  refine tq 9 69 hHeld ?_
                  refine tq 10 70 hHeld ?_
                  refine tq 11 71 hHeld ?_
                  refine tq 12 72 hHeld ?_
                  refine tq 13 73 hHeld ?_
                  refine tq 14 74 hHeld ?_
                  refine tq 15 75 hHeld ?_
                  refine tq 16 76 hHeld ?_
                  refine wpAnyH_done (by kernel_rfl) ?_ _
                  clear hHeld
                  generalize x.drew = z at HXD ⊢
                  clear HX q0 q1 q2 q3 q4 qz ql
                  go_wp2_with fail
                  refine (l4fail_r g _ l.length ⟨fi, false, fp⟩ ts S z HXD.out.par HXD.out.tok hSg (by simp only; omega)).mono ?_
                  rintro r y ⟨rfl, hG, hP⟩
                  rw [fail_good] at hP
                  obtain ⟨fq, hfq⟩ : ∃ fq, fq = failM l.length (ts.drop fi) := ⟨_, rfl⟩
                  rw [← hfq] at hP
                  have HRE : Hid (res = (zeroCmd, 3, fq)) := by
                    show _ = _
                    rw [HRE0.out, HCM.out, HST.out]
                    simp [finS, lastS, hil, fail_good, hfq]
                  have HY0 : Hid (RSt w4 y g gc (.slice ta ts.length tc) l.length ts S ⟨fi, true, fq⟩ R1) := HXD.out.took hSg hne hG hP
                  clear hG hP HXD hfq
                  have HY : Hid (RSt w4 y g gc (.slice ta ts.length tc) l.length ts S ⟨fi, true, fq⟩ R1) := HY0.out
                  clear HY0
                  clear HRE0
                  obtain ⟨hgr, hpar, -, -⟩ := HY.out
                  have HKY : Hid (y.heap[w.heap.size]? = some (.cells #[.int .i64 0, .slice none 0 0, .slice none 0 0, .int .i64 0, .int .i64 0, .int .i64 0, .int .i64 0, .slice none 0 0] 24 (0, 0))) := (hgr.block w.heap.size (lt_of_heap HKN.out) (by omega) (by omega)).trans HKN.out
                  have HBY : Hid (Below w.heap.size w y) := below_gr2 HBW.out hgr (by omega) (by omega) (by omega)
                  have HPY : Hid (y.heap[g]? = some (.cells #[.slice ta ts.length tc, .int .i64 (fi : Int), .int .i64 (l.length : Int), .bool true, .int .i64 fq] 54 (0, 0))) := hpar
                  clear hgr hpar HY
                  obtain ⟨q0, q1, q2, q3, q4⟩ := px5 HPY.out
                  obtain ⟨qz, ql⟩ := box8z HPY.out
                  obtain ⟨d0, d1, d2, d3, d4, d5, d6, d7, dl⟩ := box8l HKY.out
                  obtain ⟨dz, -⟩ := box8z HKY.out
                  have hgN : g ≠ w.heap.size := by omega
                  have HFD : Hid (((((((((y.setCell ⟨w.heap.size, 0, none⟩ (.int .i64 0)).setCell ⟨w.heap.size, 1, none⟩ (.slice none 0 0)).setCell ⟨w.heap.size, 2, none⟩ (.slice none 0 0)).setCell ⟨w.heap.size, 3, none⟩ (.int .i64 0)).setCell ⟨w.heap.size, 4, none⟩ (.int .i64 0)).setCell ⟨w.heap.size, 5, none⟩ (.int .i64 0)).setCell ⟨w.heap.size, 6, none⟩ (.int .i64 0)).setCell ⟨w.heap.size, 7, none⟩ (.slice none 0 0)).drew.heap[w.heap.size]? = some (.cells #[.int .i64 0, .slice none 0 0, .slice none 0 0, .int .i64 0, .int .i64 0, .int .i64 0, .int .i64 0, .slice none 0 0] 24 (0, 0))) := drew_heap (heap_set8 (d0 := .int .i64 0) (d1 := .slice none 0 0) (d2 := .slice none 0 0) (d3 := .int .i64 0) (d4 := .int .i64 0) (d5 := .int .i64 0) (d6 := .int .i64 0) (d7 := .slice none 0 0) HKY.out)
                  have HBD : Hid (Below w.heap.size w ((((((((y.setCell ⟨w.heap.size, 0, none⟩ (.int .i64 0)).setCell ⟨w.heap.size, 1, none⟩ (.slice none 0 0)).setCell ⟨w.heap.size, 2, none⟩ (.slice none 0 0)).setCell ⟨w.heap.size, 3, none⟩ (.int .i64 0)).setCell ⟨w.heap.size, 4, none⟩ (.int .i64 0)).setCell ⟨w.heap.size, 5, none⟩ (.int .i64 0)).setCell ⟨w.heap.size, 6, none⟩ (.int .i64 0)).setCell ⟨w.heap.size, 7, none⟩ (.slice none 0 0)).drew) := drew_below (below_set8 HBY.out (Nat.le_refl _))
                  have HSD : Hid (((((((((y.setCell ⟨w.heap.size, 0, none⟩ (.int .i64 0)).setCell ⟨w.heap.size, 1, none⟩ (.slice none 0 0)).setCell ⟨w.heap.size, 2, none⟩ (.slice none 0 0)).setCell ⟨w.heap.size, 3, none⟩ (.int .i64 0)).setCell ⟨w.heap.size, 4, none⟩ (.int .i64 0)).setCell ⟨w.heap.size, 5, none⟩ (.int .i64 0)).setCell ⟨w.heap.size, 6, none⟩ (.int .i64 0)).setCell ⟨w.heap.size, 7, none⟩ (.slice none 0 0)).drew.cell? ⟨g, 4, none⟩ = some (.int .i64 fq)) := drew_px4 (heap_oth8 HPY.out hgN)
                  go_upto_region 22 with fail
                  refine wpO_begin (S := fun w' => w'.cell? ⟨g, 4, none⟩ = some (.int .i64 fq)) (tabO_of (by kernel_rfl) tab_cr22) (by kernel_rfl) (q4) (fun hTb hHeld => ?_)
                  refine tkw 0 0 83 hTb hHeld ?_
                  refine tkw 1 1 84 hTb hHeld ?_
                  refine tkw 2 2 85 hTb hHeld ?_
                  refine tkw 3 3 86 hTb hHeld ?_
                  refine tkw 4 4 87 hTb hHeld ?_
                  refine clo 5 5 hTb (by decide) rfl ?_
                  refine AllReadyH.cons rfl (fun K hK => ?_) AllReadyH.nil
                  go_simp
                  generalize ((((((((y.setCell ⟨w.heap.size, 0, none⟩ (.int .i64 0)).setCell ⟨w.heap.size, 1, none⟩ (.slice none 0 0)).setCell ⟨w.heap.size, 2, none⟩ (.slice none 0 0)).setCell ⟨w.heap.size, 3, none⟩ (.int .i64 0)).setCell ⟨w.heap.size, 4, none⟩ (.int .i64 0)).setCell ⟨w.heap.size, 5, none⟩ (.int .i64 0)).setCell ⟨w.heap.size, 6, none⟩ (.int .i64 0)).setCell ⟨w.heap.size, 7, none⟩ (.slice none 0 0)).drew = wf at HFD HBD HSD ⊢
                  refine hK.out _ _ (HSD.out) (fun hHeld => ?_)
                  clear hK K
                  refine wpOrd_in (n := 8) (p := 5) (i := 5) rfl rfl rfl ?_
                  refine tkw 6 6 3 hTb hHeld ?_
                  refine tkw 7 7 4 hTb hHeld ?_
                  refine wpO_end hTb ?_
                  clear hTb hHeld
                  go_wp2
                  obtain ⟨f0, f1, f2, f3, f4, f5, f6, f7, -⟩ := box8l HFD.out
                  refine bodyPost_ret (v := .tuple #[.agg #[.int .i64 0, .slice none 0 0, .slice none 0 0, .int .i64 0, .int .i64 0, .int .i64 0, .int .i64 0, .slice none 0 0], .int .i64 3, .int .i64 fq]) (by simp [results, Tryd.results10, go_sem, f0, f1, f2, f3, f4, f5, f6, f7]) rfl ?_
                  rw [HRE.out]
                  exact ⟨_, rfl, cmdv_zero _, HBD.out⟩
                · have hii : ¬ (fi : Int) < (ts.length : Int) := by omega
                  have hdi : decide ((fi : Int) < (ts.length : Int)) = false := decide_eq_false hii
                  have HCO : Hid (cmdM l.length ts = .ok R1) := by
                    show _ = _
                    rw [HCM.out, HST.out]
                    simp [finS, lastS, hil]
                  have HRE : Hid (res = (R1, 0, 0)) := by
                    show _ = _
                    rw [HRE0.out, HCO.out]
                  have HRG : Hid (RngC R1) := cmd_rng HOK.out HCO.out
                  have HXD : Hid (RSt w4 x.drew g gc (.slice ta ts.length tc) l.length ts S ⟨fi, false, fp⟩ R1) := HX.out.below (Below.refl _ _).drew
                  go_upto_region 19 with fail
                  refine wp_region_held_drew (S := fun w' => w'.cell? ⟨g, 3, none⟩ = some (.bool false) ∧ w'.cell? ⟨g, 1, none⟩ = some (.int .i64 (fi : Int)) ∧ w'.cell? ⟨g, 0, none⟩ = some (.slice ta ts.length tc)) (by kernel_rfl) (⟨q3, q1, q0⟩) (fun hHeld => (show wpAnyH _ _ _ _ _ 17 #[false, false, false, false, false, false, false, false, false, false, false, false, false, false, false, false, false] _ _ from ?_))
                  refine tq 0 60 hHeld ?_
                  refine tq 1 61 hHeld ?_
                  refine tq 2 62 hHeld ?_
                  refine tq 3 63 hHeld ?_
                  refine tq 4 64 hHeld ?_
                  refine tq 5 65 hHeld ?_
                  refine tq 6 66 hHeld ?_
                  refine tq 7 67 hHeld ?_
                  refine tq 8 68 hHeld ?_
                  refine tq 9 69 hHeld ?_
                  refine tq 10 70 hHeld ?_
                  refine tq 11 71 hHeld ?_
                  refine tq 12 72 hHeld ?_
                  refine tq 13 73 hHeld ?_
                  refine tq 14 74 hHeld ?_
                  refine tq 15 75 hHeld ?_
                  refine tq 16 76 hHeld ?_
                  refine wpAnyH_done (by kernel_rfl) ?_ _
                  clear hHeld
                  generalize x.drew = y at HXD ⊢
                  clear HX q0 q1 q2 q3 q4 qz ql
                  obtain ⟨hgr, hpar, -, a0, n0, c0, a1, n1, c1, a2, n2, c2, hcc, p0, p1, p2⟩ := HXD.out
                  have HKY : Hid (y.heap[w.heap.size]? = some (.cells #[.int .i64 0, .slice none 0 0, .slice none 0 0, .int .i64 0, .int .i64 0, .int .i64 0, .int .i64 0, .slice none 0 0] 24 (0, 0))) := (hgr.block w.heap.size (lt_of_heap HKN.out) (by omega) (by omega)).trans HKN.out
                  have HBY : Hid (Below w.heap.size w y) := below_gr2 HBW.out hgr (by omega) (by omega) (by omega)
                  obtain ⟨q0, q1, q2, q3, q4⟩ := px5 hpar
                  obtain ⟨qz, ql⟩ := box8z hpar
                  obtain ⟨j0, j1, j2, j3, j4, j5, j6, j7, jl⟩ := box8l hcc
                  obtain ⟨ck, cbx, ctt, cu, cm, cf, cs, ctx⟩ := R1
                  obtain ⟨g1, g2, g3, g4, g5, g6, g7, g8⟩ := HRG.out
                  simp only at j0 j3 j4 j5 j6 p0 p1 p2 q3 g1 g2 g3 g4 g5 g6 g7 g8
                  have hcv : CmdV y (.agg #[.int .i64 ck, .slice a0 n0 c0, .slice a1 n1 c1, .int .i64 cu, .int .i64 cm, .int .i64 cf, .int .i64 cs, .slice a2 n2 c2]) ck cbx ctt cu cm cf cs ctx := ⟨_, _, _, rfl, p0.bs, p1.bs, p2.bs, ⟨by omega, by omega⟩, ⟨by omega, by omega⟩, ⟨by omega, by omega⟩, ⟨by omega, by omega⟩, ⟨by omega, by omega⟩⟩
                  have hown := l4ownCmd_r _ ck cbx ctt cu cm cf cs ctx y hcv ⟨g6, g7, g8⟩
                  clear hgr hpar hcc p0 p1 p2 HXD hcv g1 g2 g3 g4 g5 g6 g7 g8
                  go_wp2_with fail
                  refine hown.mono ?_
                  rintro r z ⟨u, rfl, hcz, hBz⟩
                  have HKZ : Hid (z.heap[w.heap.size]? = some (.cells #[.int .i64 0, .slice none 0 0, .slice none 0 0, .int .i64 0, .int .i64 0, .int .i64 0, .int .i64 0, .slice none 0 0] 24 (0, 0))) := box_below hBz HKY.out
                  have HBZ : Hid (Below w.heap.size w z) := Below.step HBY.out hBz
                  obtain ⟨u0, u1, u2, rfl, s0, s1, s2, ii⟩ := hcz
                  obtain ⟨b0, m0, k0, rfl⟩ := s0.form3
                  obtain ⟨b1, m1, k1, rfl⟩ := s1.form3
                  obtain ⟨b2, m2, k2, rfl⟩ := s2.form3
                  have HCZ : Hid (CmdV ((((((((z.setCell ⟨w.heap.size, 0, none⟩ (.int .i64 ck)).setCell ⟨w.heap.size, 1, none⟩ (.slice b0 m0 k0)).setCell ⟨w.heap.size, 2, none⟩ (.slice b1 m1 k1)).setCell ⟨w.heap.size, 3, none⟩ (.int .i64 cu)).setCell ⟨w.heap.size, 4, none⟩ (.int .i64 cm)).setCell ⟨w.heap.size, 5, none⟩ (.int .i64 cf)).setCell ⟨w.heap.size, 6, none⟩ (.int .i64 cs)).setCell ⟨w.heap.size, 7, none⟩ (.slice b2 m2 k2)) (.agg #[.int .i64 ck, .slice b0 m0 k0, .slice b1 m1 k1, .int .i64 cu, .int .i64 cm, .int .i64 cf, .int .i64 cs, .slice b2 m2 k2]) ck cbx ctt cu cm cf cs ctx) := ⟨_, _, _, rfl, bs_set8 s0 HKZ.out, bs_set8 s1 HKZ.out, bs_set8 s2 HKZ.out, ii⟩
                  have HF : Hid _ := heap_set8 (d0 := .int .i64 ck) (d1 := .slice b0 m0 k0) (d2 := .slice b1 m1 k1) (d3 := .int .i64 cu) (d4 := .int .i64 cm) (d5 := .int .i64 cf) (d6 := .int .i64 cs) (d7 := .slice b2 m2 k2) HKZ.out
                  have HBF : Hid (Below w.heap.size w ((((((((z.setCell ⟨w.heap.size, 0, none⟩ (.int .i64 ck)).setCell ⟨w.heap.size, 1, none⟩ (.slice b0 m0 k0)).setCell ⟨w.heap.size, 2, none⟩ (.slice b1 m1 k1)).setCell ⟨w.heap.size, 3, none⟩ (.int .i64 cu)).setCell ⟨w.heap.size, 4, none⟩ (.int .i64 cm)).setCell ⟨w.heap.size, 5, none⟩ (.int .i64 cf)).setCell ⟨w.heap.size, 6, none⟩ (.int .i64 cs)).setCell ⟨w.heap.size, 7, none⟩ (.slice b2 m2 k2))) := below_set8 HBZ.out (Nat.le_refl _)
                  obtain ⟨d0, d1, d2, d3, d4, d5, d6, d7, dl⟩ := box8l HKZ.out
                  obtain ⟨dz, -⟩ := box8z HKZ.out
                  clear hown hBz s0 s1 s2 ii q0 q1 q2 q3 q4 qz ql j0 j1 j2 j3 j4 j5 j6 j7 jl
                  go_wp2
                  obtain ⟨f0, f1, f2, f3, f4, f5, f6, f7, -⟩ := box8l HF.out
                  refine bodyPost_ret (v := .tuple #[.agg #[.int .i64 ck, .slice b0 m0 k0, .slice b1 m1 k1, .int .i64 cu, .int .i64 cm, .int .i64 cf, .int .i64 cs, .slice b2 m2 k2], .int .i64 0, .int .i64 0]) (by simp [results, Tryd.results10, go_sem, f0, f1, f2, f3, f4, f5, f6, f7]) rfl ?_
                  rw [HRE.out]
                  exact ⟨_, rfl, HCZ.out, HBF.out⟩
            · have h9i : ((k : Int) != 9) = true := by simp; omega
              go_wp2_with fail
              refine (l4take_r g _ l.length 2 0 ⟨1, false, 0⟩ ts S x1 HX1.out.par HX1.out.tok hSg (fun b hb => Nat.lt_of_lt_of_le (hSw b hb) HX1.out.gr.size) (by simp) (by decide)).mono ?_
              rintro r x2 ⟨za, zn, zc, rfl, hrb, hG, hP⟩
              have hiA := takeS_i (l.length : Int) 2 0 ts ⟨1, false, 0⟩
              generalize hA : takeS l.length 2 0 ts ⟨1, false, 0⟩ = A at hP hiA hrb
              have HA : Hid (takeS l.length 2 0 ts ⟨1, false, 0⟩ = A) := hA
              clear hA
              obtain ⟨⟨ak, ap, an, ax⟩, A2⟩ := A
              simp only at hP hiA hrb
              have HX2 : Hid (RSt w4 x2 g gc (.slice ta ts.length tc) l.length ts S A2 ⟨k, [], [], 0, 0, 0, 0, []⟩) := HX1.out.took hSg hne hG hP
              have HX3 : Hid (RSt w4 (x2.setCell ⟨gc, 1, none⟩ (.slice za zn zc)) g gc (.slice ta ts.length tc) l.length ts S A2 ⟨k, ax, [], 0, 0, 0, 0, []⟩) := HX2.out.setB hSgc hne hrb
              have hfd := fun w' => run_fieldT ak ap an za zn zc w'
              clear hG hP hrb HX1 d0 d1 d2 d3 d4 d5 d6 d7 dz dl
              obtain ⟨v1, v2, v7, d0, d1, d2, d3, d4, d5, d6, d7, dz, dl⟩ := HX2.out.cells
              simp only at d0 d3 d4 d5 d6
              go_upto_region 18 with fail
              generalize (x2.setCell ⟨gc, 1, none⟩ (.slice za zn zc)) = x3 at HX3 ⊢
              clear HX2 d0 d1 d2 d3 d4 d5 d6 d7 dz dl hfd
              have HX5 : Hid (RSt w4 x3 g gc (.slice ta ts.length tc) l.length ts S A2 ⟨k, ax, [], 0, 0, 0, 0, []⟩) := HX3.out
              clear HX3
              go_wp2_with fail
              refine (l4rest_r g gc _ l.length A2 ts S ⟨k, ax, [], 0, 0, 0, 0, []⟩ x3 HX5.out.par HX5.out.tok hSg hSgc hne (fun b hb => Nat.lt_of_lt_of_le (hSw b hb) HX5.out.gr.size) (by omega) HX5.out.cmd).mono ?_
              rintro r x ⟨rfl, hgr, hpar, hcmd⟩
              have hiR := rest_i (l.length : Int) ts ⟨k, ax, [], 0, 0, 0, 0, []⟩ A2
              generalize hR : restS l.length ts ⟨k, ax, [], 0, 0, 0, 0, []⟩ A2 = R at hpar hcmd hiR
              obtain ⟨R1, R2⟩ := R
              simp only at hpar hcmd hiR
              have HX : Hid (RSt w4 x g gc (.slice ta ts.length tc) l.length ts S R2 R1) := HX5.out.rest hSg hSgc hgr hpar hcmd
              have HST : Hid (stepS l.length ts k ⟨1, false, 0⟩ = (R1, R2)) := by
                show _ = _
                rw [← hR, stepS, if_neg (by omega), HA.out]
              clear hgr hpar hcmd hR HX5
              obtain ⟨fi, bad, fp⟩ := R2
              have HPX := HX.out.par
              obtain ⟨q0, q1, q2, q3, q4⟩ := px5 HPX
              obtain ⟨qz, ql⟩ := box8z HPX
              simp only at q0 q1 q2 q3 q4 hiR
              clear HPX
              cases bad with
              | true =>
                have HRE : Hid (res = (zeroCmd, 3, fp)) := by
                  show _ = _
                  rw [HRE0.out, HCM.out, HST.out]
                  simp [finS, lastS]
                have HXD : Hid (RSt w4 x.drew g gc (.slice ta ts.length tc) l.length ts S ⟨fi, true, fp⟩ R1) := HX.out.below (Below.refl _ _).drew
                go_upto_region 19 with fail
                refine wp_region_held_drew (S := fun w' => w'.cell? ⟨g, 3, none⟩ = some (.bool true)) (by kernel_rfl) (q3) (fun hHeld => (show wpAnyH _ _ _ _ _ 17 #[false, false, false, false, false, false, false, false, false, false, false, false, false, false, false, false, false] _ _ from ?_))
                refine tq 0 60 hHeld ?_
                refine tq 1 61 hHeld ?_
                refine tq 2 62 hHeld ?_
                refine tq 3 63 hHeld ?_
                refine tq 4 64 hHeld ?_
                refine tq 5 65 hHeld ?_
                refine wpAnyH_skips (by kernel_rfl) (fun _ _ _ _ _ h => h) hHeld [6, 7, 8, 9, 10, 11, 12, 13, 14, 15] [66, 67, 68, 69, 70, 71, 72, 73, 74, 75] _ _ _ (by kernel_rfl) ?_
                simp only [List.foldl_cons, List.foldl_nil, Act.put, sA, s0, sS]
                refine tq 16 76 hHeld ?_
                refine wpAnyH_done (by kernel_rfl) ?_ _
                clear hHeld
                generalize x.drew = y at HXD ⊢
                clear HX q0 q1 q2 q3 q4 qz ql
                have HY : Hid (RSt w4 y g gc (.slice ta ts.length tc) l.length ts S ⟨fi, true, fp⟩ R1) := HXD.out
                clear HXD
                clear HRE0
                obtain ⟨hgr, hpar, -, -⟩ := HY.out
                have HKY : Hid (y.heap[w.heap.size]? = some (.cells #[.int .i64 0, .slice none 0 0, .slice none 0 0, .int .i64 0, .int .i64 0, .int .i64 0, .int .i64 0, .slice none 0 0] 24 (0, 0))) := (hgr.block w.heap.size (lt_of_heap HKN.out) (by omega) (by omega)).trans HKN.out
                have HBY : Hid (Below w.heap.size w y) := below_gr2 HBW.out hgr (by omega) (by omega) (by omega)
                have HPY : Hid (y.heap[g]? = some (.cells #[.slice ta ts.length tc, .int .i64 (fi : Int), .int .i64 (l.length : Int), .bool true, .int .i64 fp] 54 (0, 0))) := hpar
                clear hgr hpar HY
                obtain ⟨q0, q1, q2, q3, q4⟩ := px5 HPY.out
                obtain ⟨qz, ql⟩ := box8z HPY.out
                obtain ⟨d0, d1, d2, d3, d4, d5, d6, d7, dl⟩ := box8l HKY.out
                obtain ⟨dz, -⟩ := box8z HKY.out
                have hgN : g ≠ w.heap.size := by omega
                have HFD : Hid (((((((((y.setCell ⟨w.heap.size, 0, none⟩ (.int .i64 0)).setCell ⟨w.heap.size, 1, none⟩ (.slice none 0 0)).setCell ⟨w.heap.size, 2, none⟩ (.slice none 0 0)).setCell ⟨w.heap.size, 3, none⟩ (.int .i64 0)).setCell ⟨w.heap.size, 4, none⟩ (.int .i64 0)).setCell ⟨w.heap.size, 5, none⟩ (.int .i64 0)).setCell ⟨w.heap.size, 6, none⟩ (.int .i64 0)).setCell ⟨w.heap.size, 7, none⟩ (.slice none 0 0)).drew.heap[w.heap.size]? = some (.cells #[.int .i64 0, .slice none 0 0, .slice none 0 0, .int .i64 0, .int .i64 0, .int .i64 0, .int .i64 0, .slice none 0 0] 24 (0, 0))) := drew_heap (heap_set8 (d0 := .int .i64 0) (d1 := .slice none 0 0) (d2 := .slice none 0 0) (d3 := .int .i64 0) (d4 := .int .i64 0) (d5 := .int .i64 0) (d6 := .int .i64 0) (d7 := .slice none 0 0) HKY.out)
                have HBD : Hid (Below w.heap.size w ((((((((y.setCell ⟨w.heap.size, 0, none⟩ (.int .i64 0)).setCell ⟨w.heap.size, 1, none⟩ (.slice none 0 0)).setCell ⟨w.heap.size, 2, none⟩ (.slice none 0 0)).setCell ⟨w.heap.size, 3, none⟩ (.int .i64 0)).setCell ⟨w.heap.size, 4, none⟩ (.int .i64 0)).setCell ⟨w.heap.size, 5, none⟩ (.int .i64 0)).setCell ⟨w.heap.size, 6, none⟩ (.int .i64 0)).setCell ⟨w.heap.size, 7, none⟩ (.slice none 0 0)).drew) := drew_below (below_set8 HBY.out (Nat.le_refl _))
                have HSD : Hid (((((((((y.setCell ⟨w.heap.size, 0, none⟩ (.int .i64 0)).setCell ⟨w.heap.size, 1, none⟩ (.slice none 0 0)).setCell ⟨w.heap.size, 2, none⟩ (.slice none 0 0)).setCell ⟨w.heap.size, 3, none⟩ (.int .i64 0)).setCell ⟨w.heap.size, 4, none⟩ (.int .i64 0)).setCell ⟨w.heap.size, 5, none⟩ (.int .i64 0)).setCell ⟨w.heap.size, 6, none⟩ (.int .i64 0)).setCell ⟨w.heap.size, 7, none⟩ (.slice none 0 0)).drew.cell? ⟨g, 4, none⟩ = some (.int .i64 fp)) := drew_px4 (heap_oth8 HPY.out hgN)
                go_upto_region 22 with fail
                refine wpO_begin (S := fun w' => w'.cell? ⟨g, 4, none⟩ = some (.int .i64 fp)) (tabO_of (by kernel_rfl) tab_cr22) (by kernel_rfl) (q4) (fun hTb hHeld => ?_)
                refine tkw 0 0 83 hTb hHeld ?_
                refine tkw 1 1 84 hTb hHeld ?_
                refine tkw 2 2 85 hTb hHeld ?_
                refine tkw 3 3 86 hTb hHeld ?_
                refine tkw 4 4 87 hTb hHeld ?_
                refine clo 5 5 hTb (by decide) rfl ?_
                refine AllReadyH.cons rfl (fun K hK => ?_) AllReadyH.nil
                go_simp
                generalize ((((((((y.setCell ⟨w.heap.size, 0, none⟩ (.int .i64 0)).setCell ⟨w.heap.size, 1, none⟩ (.slice none 0 0)).setCell ⟨w.heap.size, 2, none⟩ (.slice none 0 0)).setCell ⟨w.heap.size, 3, none⟩ (.int .i64 0)).setCell ⟨w.heap.size, 4, none⟩ (.int .i64 0)).setCell ⟨w.heap.size, 5, none⟩ (.int .i64 0)).setCell ⟨w.heap.size, 6, none⟩ (.int .i64 0)).setCell ⟨w.heap.size, 7, none⟩ (.slice none 0 0)).drew = wf at HFD HBD HSD ⊢
                refine hK.out _ _ (HSD.out) (fun hHeld => ?_)
                clear hK K
                refine wpOrd_in (n := 8) (p := 5) (i := 5) rfl rfl rfl ?_
                refine tkw 6 6 3 hTb hHeld ?_
                refine tkw 7 7 4 hTb hHeld ?_
                refine wpO_end hTb ?_
                clear hTb hHeld
                go_wp2
                obtain ⟨f0, f1, f2, f3, f4, f5, f6, f7, -⟩ := box8l HFD.out
                refine bodyPost_ret (v := .tuple #[.agg #[.int .i64 0, .slice none 0 0, .slice none 0 0, .int .i64 0, .int .i64 0, .int .i64 0, .int .i64 0, .slice none 0 0], .int .i64 3, .int .i64 fp]) (by simp [results, Tryd.results10, go_sem, f0, f1, f2, f3, f4, f5, f6, f7]) rfl ?_
                rw [HRE.out]
                exact ⟨_, rfl, cmdv_zero _, HBD.out⟩
              | false =>
                by_cases hil : fi < ts.length
                · have hii : (fi : Int) < (ts.length : Int) := by omega
                  have hdi : decide ((fi : Int) < (ts.length : Int)) = true := decide_eq_true hii
                  have HXD : Hid (RSt w4 x.drew g gc (.slice ta ts.length tc) l.length ts S ⟨fi, false, fp⟩ R1) := HX.out.below (Below.refl _ _).drew
                  go_upto_region 19 with fail
                  refine wp_region_held_drew (S := fun w' => w'.cell? ⟨g, 3, none⟩ = some (.bool false) ∧ w'.cell? ⟨g, 1, none⟩ = some (.int .i64 (fi : Int)) ∧ w'.cell? ⟨g, 0, none⟩ = some (.slice ta ts.length tc)) (by kernel_rfl) (⟨q3, q1, q0⟩) (fun hHeld => (show wpAnyH _ _ _ _ _ 17 #[false, false, false, false, false, false, false, false, false, false, false, false, false, false, false, false, false] _ _ from ?_))
                  refine tq 0 60 hHeld ?_
                  refine tq 1 61 hHeld ?_
                  refine tq 2 62 hHeld ?_
                  refine tq 3 63 hHeld ?_
                  refine tq 4 64 hHeld ?_
                  refine tq 5 65 hHeld ?_
                  refine tq 6 66 hHeld ?_
                  refine tq 7 67 hHeld ?_
                  refine tq 8 68 hHeld ?_
                  refine tq 9 69 hHeld ?_
                  refine tq 10 70 hHeld ?_
                  refine tq 11 71 hHeld ?_
                  refine tq 12 72 hHeld ?_
                  refine tq 13 73 hHeld ?_
                  refine tq 14 74 hHeld ?_
                  refine tq 15 75 hHeld ?_
                  refine tq 16 76 hHeld ?_
                  refine wpAnyH_done (by kernel_rfl) ?_ _
                  clear hHeld
                  generalize x.drew = z at HXD ⊢
                  clear HX q0 q1 q2 q3 q4 qz ql
                  go_wp2_with fail
                  refine (l4fail_r g _ l.length ⟨fi, false, fp⟩ ts S z HXD.out.par HXD.out.tok hSg (by simp only; omega)).mono ?_
                  rintro r y ⟨rfl, hG, hP⟩
                  rw [fail_good] at hP
                  obtain ⟨fq, hfq⟩ : ∃ fq, fq = failM l.length (ts.drop fi) := ⟨_, rfl⟩
                  rw [← hfq] at hP
                  have HRE : Hid (res = (zeroCmd, 3, fq)) := by
                    show _ = _
                    rw [HRE0.out, HCM.out, HST.out]
                    simp [finS, lastS, hil, fail_good, hfq]
                  have HY0 : Hid (RSt w4 y g gc (.slice ta ts.length tc) l.length ts S ⟨fi, true, fq⟩ R1) := HXD.out.took hSg hne hG hP
                  clear hG hP HXD hfq
                  have HY : Hid (RSt w4 y g gc (.slice ta ts.length tc) l.length ts S ⟨fi, true, fq⟩ R1) := HY0.out
                  clear HY0
                  clear HRE0
                  obtain ⟨hgr, hpar, -, -⟩ := HY.out
                  have HKY : Hid (y.heap[w.heap.size]? = some (.cells #[.int .i64 0, .slice none 0 0, .slice none 0 0, .int .i64 0, .int .i64 0, .int .i64 0, .int .i64 0, .slice none 0 0] 24 (0, 0))) := (hgr.block w.heap.size (lt_of_heap HKN.out) (by omega) (by omega)).trans HKN.out
                  have HBY : Hid (Below w.heap.size w y) := below_gr2 HBW.out hgr (by omega) (by omega) (by omega)
                  have HPY : Hid (y.heap[g]? = some (.cells #[.slice ta ts.length tc, .int .i64 (fi : Int), .int .i64 (l.length : Int), .bool true, .int .i64 fq] 54 (0, 0))) := hpar
                  clear hgr hpar HY
                  obtain ⟨q0, q1, q2, q3, q4⟩ := px5 HPY.out
                  obtain ⟨qz, ql⟩ := box8z HPY.out
                  obtain ⟨d0, d1, d2, d3, d4, d5, d6, d7, dl⟩ := box8l HKY.out
                  obtain ⟨dz, -⟩ := box8z HKY.out
                  have hgN : g ≠ w.heap.size := by omega
                  have HFD : Hid (((((((((y.setCell ⟨w.heap.size, 0, none⟩ (.int .i64 0)).setCell ⟨w.heap.size, 1, none⟩ (.slice none 0 0)).setCell ⟨w.heap.size, 2, none⟩ (.slice none 0 0)).setCell ⟨w.heap.size, 3, none⟩ (.int .i64 0)).setCell ⟨w.heap.size, 4, none⟩ (.int .i64 0)).setCell ⟨w.heap.size, 5, none⟩ (.int .i64 0)).setCell ⟨w.heap.size, 6, none⟩ (.int .i64 0)).setCell ⟨w.heap.size, 7, none⟩ (.slice none 0 0)).drew.heap[w.heap.size]? = some (.cells #[.int .i64 0, .slice none 0 0, .slice none 0 0, .int .i64 0, .int .i64 0, .int .i64 0, .int .i64 0, .slice none 0 0] 24 (0, 0))) := drew_heap (heap_set8 (d0 := .int .i64 0) (d1 := .slice none 0 0) (d2 := .slice none 0 0) (d3 := .int .i64 0) (d4 := .int .i64 0) (d5 := .int .i64 0) (d6 := .int .i64 0) (d7 := .slice none 0 0) HKY.out)
                  have HBD : Hid (Below w.heap.size w ((((((((y.setCell ⟨w.heap.size, 0, none⟩ (.int .i64 0)).setCell ⟨w.heap.size, 1, none⟩ (.slice none 0 0)).setCell ⟨w.heap.size, 2, none⟩ (.slice none 0 0)).setCell ⟨w.heap.size, 3, none⟩ (.int .i64 0)).setCell ⟨w.heap.size, 4, none⟩ (.int .i64 0)).setCell ⟨w.heap.size, 5, none⟩ (.int .i64 0)).setCell ⟨w.heap.size, 6, none⟩ (.int .i64 0)).setCell ⟨w.heap.size, 7, none⟩ (.slice none 0 0)).drew) := drew_below (below_set8 HBY.out (Nat.le_refl _))
                  have HSD : Hid (((((((((y.setCell ⟨w.heap.size, 0, none⟩ (.int .i64 0)).setCell ⟨w.heap.size, 1, none⟩ (.slice none 0 0)).setCell ⟨w.heap.size, 2, none⟩ (.slice none 0 0)).setCell ⟨w.heap.size, 3, none⟩ (.int .i64 0)).setCell ⟨w.heap.size, 4, none⟩ (.int .i64 0)).setCell ⟨w.heap.size, 5, none⟩ (.int .i64 0)).setCell ⟨w.heap.size, 6, none⟩ (.int .i64 0)).setCell ⟨w.heap.size, 7, none⟩ (.slice none 0 0)).drew.cell? ⟨g, 4, none⟩ = some (.int .i64 fq)) := drew_px4 (heap_oth8 HPY.out hgN)
                  go_upto_region 22 with fail
                  refine wpO_begin (S := fun w' => w'.cell? ⟨g, 4, none⟩ = some (.int .i64 fq)) (tabO_of (by kernel_rfl) tab_cr22) (by kernel_rfl) (q4) (fun hTb hHeld => ?_)
                  refine tkw 0 0 83 hTb hHeld ?_
                  refine tkw 1 1 84 hTb hHeld ?_
                  refine tkw 2 2 85 hTb hHeld ?_
                  refine tkw 3 3 86 hTb hHeld ?_
                  refine tkw 4 4 87 hTb hHeld ?_
                  refine clo 5 5 hTb (by decide) rfl ?_
                  refine AllReadyH.cons rfl (fun K hK => ?_) AllReadyH.nil
                  go_simp
                  generalize ((((((((y.setCell ⟨w.heap.size, 0, none⟩ (.int .i64 0)).setCell ⟨w.heap.size, 1, none⟩ (.slice none 0 0)).setCell ⟨w.heap.size, 2, none⟩ (.slice none 0 0)).setCell ⟨w.heap.size, 3, none⟩ (.int .i64 0)).setCell ⟨w.heap.size, 4, none⟩ (.int .i64 0)).setCell ⟨w.heap.size, 5, none⟩ (.int .i64 0)).setCell ⟨w.heap.size, 6, none⟩ (.int .i64 0)).setCell ⟨w.heap.size, 7, none⟩ (.slice none 0 0)).drew = wf at HFD HBD HSD ⊢
                  refine hK.out _ _ (HSD.out) (fun hHeld => ?_)
                  clear hK K
                  refine wpOrd_in (n := 8) (p := 5) (i := 5) rfl rfl rfl ?_
                  refine tkw 6 6 3 hTb hHeld ?_
                  refine tkw 7 7 4 hTb hHeld ?_
                  refine wpO_end hTb ?_
                  clear hTb hHeld
                  go_wp2
                  obtain ⟨f0, f1, f2, f3, f4, f5, f6, f7, -⟩ := box8l HFD.out
                  refine bodyPost_ret (v := .tuple #[.agg #[.int .i64 0, .slice none 0 0, .slice none 0 0, .int .i64 0, .int .i64 0, .int .i64 0, .int .i64 0, .slice none 0 0], .int .i64 3, .int .i64 fq]) (by simp [results, Tryd.results10, go_sem, f0, f1, f2, f3, f4, f5, f6, f7]) rfl ?_
                  rw [HRE.out]
                  exact ⟨_, rfl, cmdv_zero _, HBD.out⟩
                · have hii : ¬ (fi : Int) < (ts.length : Int) := by omega
                  have hdi : decide ((fi : Int) < (ts.length : Int)) = false := decide_eq_false hii
                  have HCO : Hid (cmdM l.length ts = .ok R1) := by
                    show _ = _
                    rw [HCM.out, HST.out]
                    simp [finS, lastS, hil]
                  have HRE : Hid (res = (R1, 0, 0)) := by
                    show _ = _
                    rw [HRE0.out, HCO.out]
                  have HRG : Hid (RngC R1) := cmd_rng HOK.out HCO.out
                  have HXD : Hid (RSt w4 x.drew g gc (.slice ta ts.length tc) l.length ts S ⟨fi, false, fp⟩ R1) := HX.out.below (Below.refl _ _).drew
                  go_upto_region 19 with fail
                  refine wp_region_held_drew (S := fun w' => w'.cell? ⟨g, 3, none⟩ = some (.bool false) ∧ w'.cell? ⟨g, 1, none⟩ = some (.int .i64 (fi : Int)) ∧ w'.cell? ⟨g, 0, none⟩ = some (.slice ta ts.length tc)) (by kernel_rfl) (⟨q3, q1, q0⟩) (fun hHeld => (show wpAnyH _ _ _ _ _ 17 #[false, false, false, false, false, false, false, false, false, false, false, false, false, false, false, false, false] _ _ from ?_))
                  refine tq 0 60 hHeld ?_
                  refine tq 1 61 hHeld ?_
                  refine tq 2 62 hHeld ?_
                  refine tq 3 63 hHeld ?_
                  refine tq 4 64 hHeld ?_
                  refine tq 5 65 hHeld ?_
                  refine tq 6 66 hHeld ?_
                  refine tq 7 67 hHeld ?_
                  refine tq 8 68 hHeld ?_
                  refine tq 9 69 hHeld ?_
                  refine tq 10 70 hHeld ?_
                  refine tq 11 71 hHeld ?_
                  refine tq 12 72 hHeld ?_
                  refine tq 13 73 hHeld ?_
                  refine tq 14 74 hHeld ?_
                  refine tq 15 75 hHeld ?_
                  refine tq 16 76 hHeld ?_
                  refine wpAnyH_done (by kernel_rfl) ?_ _
                  clear hHeld
                  generalize x.drew = y at HXD ⊢
                  clear HX q0 q1 q2 q3 q4 qz ql
                  obtain ⟨hgr, hpar, -, a0, n0, c0, a1, n1, c1, a2, n2, c2, hcc, p0, p1, p2⟩ := HXD.out
                  have HKY : Hid (y.heap[w.heap.size]? = some (.cells #[.int .i64 0, .slice none 0 0, .slice none 0 0, .int .i64 0, .int .i64 0, .int .i64 0, .int .i64 0, .slice none 0 0] 24 (0, 0))) := (hgr.block w.heap.size (lt_of_heap HKN.out) (by omega) (by omega)).trans HKN.out
                  have HBY : Hid (Below w.heap.size w y) := below_gr2 HBW.out hgr (by omega) (by omega) (by omega)
                  obtain ⟨q0, q1, q2, q3, q4⟩ := px5 hpar
                  obtain ⟨qz, ql⟩ := box8z hpar
                  obtain ⟨j0, j1, j2, j3, j4, j5, j6, j7, jl⟩ := box8l hcc
                  obtain ⟨ck, cbx, ctt, cu, cm, cf, cs, ctx⟩ := R1
                  obtain ⟨g1, g2, g3, g4, g5, g6, g7, g8⟩ := HRG.out
                  simp only at j0 j3 j4 j5 j6 p0 p1 p2 q3 g1 g2 g3 g4 g5 g6 g7 g8
                  have hcv : CmdV y (.agg #[.int .i64 ck, .slice a0 n0 c0, .slice a1 n1 c1, .int .i64 cu, .int .i64 cm, .int .i64 cf, .int .i64 cs, .slice a2 n2 c2]) ck cbx ctt cu cm cf cs ctx := ⟨_, _, _, rfl, p0.bs, p1.bs, p2.bs, ⟨by omega, by omega⟩, ⟨by omega, by omega⟩, ⟨by omega, by omega⟩, ⟨by omega, by omega⟩, ⟨by omega, by omega⟩⟩
                  have hown := l4ownCmd_r _ ck cbx ctt cu cm cf cs ctx y hcv ⟨g6, g7, g8⟩
                  clear hgr hpar hcc p0 p1 p2 HXD hcv g1 g2 g3 g4 g5 g6 g7 g8
                  go_wp2_with fail
                  refine hown.mono ?_
                  rintro r z ⟨u, rfl, hcz, hBz⟩
                  have HKZ : Hid (z.heap[w.heap.size]? = some (.cells #[.int .i64 0, .slice none 0 0, .slice none 0 0, .int .i64 0, .int .i64 0, .int .i64 0, .int .i64 0, .slice none 0 0] 24 (0, 0))) := box_below hBz HKY.out
                  have HBZ : Hid (Below w.heap.size w z) := Below.step HBY.out hBz
                  obtain ⟨u0, u1, u2, rfl, s0, s1, s2, ii⟩ := hcz
                  obtain ⟨b0, m0, k0, rfl⟩ := s0.form3
                  obtain ⟨b1, m1, k1, rfl⟩ := s1.form3
                  obtain ⟨b2, m2, k2, rfl⟩ := s2.form3
                  have HCZ : Hid (CmdV ((((((((z.setCell ⟨w.heap.size, 0, none⟩ (.int .i64 ck)).setCell ⟨w.heap.size, 1, none⟩ (.slice b0 m0 k0)).setCell ⟨w.heap.size, 2, none⟩ (.slice b1 m1 k1)).setCell ⟨w.heap.size, 3, none⟩ (.int .i64 cu)).setCell ⟨w.heap.size, 4, none⟩ (.int .i64 cm)).setCell ⟨w.heap.size, 5, none⟩ (.int .i64 cf)).setCell ⟨w.heap.size, 6, none⟩ (.int .i64 cs)).setCell ⟨w.heap.size, 7, none⟩ (.slice b2 m2 k2)) (.agg #[.int .i64 ck, .slice b0 m0 k0, .slice b1 m1 k1, .int .i64 cu, .int .i64 cm, .int .i64 cf, .int .i64 cs, .slice b2 m2 k2]) ck cbx ctt cu cm cf cs ctx) := ⟨_, _, _, rfl, bs_set8 s0 HKZ.out, bs_set8 s1 HKZ.out, bs_set8 s2 HKZ.out, ii⟩
                  have HF : Hid _ := heap_set8 (d0 := .int .i64 ck) (d1 := .slice b0 m0 k0) (d2 := .slice b1 m1 k1) (d3 := .int .i64 cu) (d4 := .int .i64 cm) (d5 := .int .i64 cf) (d6 := .int .i64 cs) (d7 := .slice b2 m2 k2) HKZ.out
                  have HBF : Hid (Below w.heap.size w ((((((((z.setCell ⟨w.heap.size, 0, none⟩ (.int .i64 ck)).setCell ⟨w.heap.size, 1, none⟩ (.slice b0 m0 k0)).setCell ⟨w.heap.size, 2, none⟩ (.slice b1 m1 k1)).setCell ⟨w.heap.size, 3, none⟩ (.int .i64 cu)).setCell ⟨w.heap.size, 4, none⟩ (.int .i64 cm)).setCell ⟨w.heap.size, 5, none⟩ (.int .i64 cf)).setCell ⟨w.heap.size, 6, none⟩ (.int .i64 cs)).setCell ⟨w.heap.size, 7, none⟩ (.slice b2 m2 k2))) := below_set8 HBZ.out (Nat.le_refl _)
                  obtain ⟨d0, d1, d2, d3, d4, d5, d6, d7, dl⟩ := box8l HKZ.out
                  obtain ⟨dz, -⟩ := box8z HKZ.out
                  clear hown hBz s0 s1 s2 ii q0 q1 q2 q3 q4 qz ql j0 j1 j2 j3 j4 j5 j6 j7 jl
                  go_wp2
                  obtain ⟨f0, f1, f2, f3, f4, f5, f6, f7, -⟩ := box8l HF.out
                  refine bodyPost_ret (v := .tuple #[.agg #[.int .i64 ck, .slice b0 m0 k0, .slice b1 m1 k1, .int .i64 cu, .int .i64 cm, .int .i64 cf, .int .i64 cs, .slice b2 m2 k2], .int .i64 0, .int .i64 0]) (by simp [results, Tryd.results10, go_sem, f0, f1, f2, f3, f4, f5, f6, f7]) rfl ?_
                  rw [HRE.out]
                  exact ⟨_, rfl, HCZ.out, HBF.out⟩

end Go.Proofs.YtlegmiaoablcgaaDoor
