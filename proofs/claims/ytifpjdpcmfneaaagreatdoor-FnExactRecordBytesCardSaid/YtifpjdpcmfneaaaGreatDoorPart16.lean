/- The proof's texts, part 16. -/
import Derived.Test.YtifpjdpcmfneaaaGreatDoorPart15
import Derived.Test.YtifpjdpcmfneaaaGreatDoorPart4
import Derived.Deep.DeepCutAuto

/- What storeTokens of package impl does. -/
namespace Go.Proofs.YtifpjdpcmfneaaaGreatDoor
open Go.RowKit
set_option maxRecDepth 100000
set_option linter.unusedVariables false

def storeT (bx : List Int) (uid mode fl si : Int) : List (List Int) := if 0 < si then [bx, digB uid.toNat, modeW mode, flagsB fl, sinceW, digB si.toNat] else [bx, digB uid.toNat, modeW mode, flagsB fl]
theorem storeWords_r (w : World) : Calls Tryz.prog 110 #[] w fun e w' => e = .returned (.slice (some ⟨w.heap.size, 0, none⟩) 3 3) ∧ w' = w.alloc (.cells #[.string ⟨#[73, 83]⟩, .string ⟨#[87, 73, 84, 72]⟩, .string ⟨#[87, 73, 84, 72, 79, 85, 84]⟩] 9) := by
  go_enter Tryz.func110, Tryz.ntmps110
  go_wp2
  go_ret
  exact ⟨rfl, rfl⟩
theorem tabT_storeTokens : (Tryz.f77.body.bind (opsAt 1)).all (fun o => tableO o 16 [0, 1, 2, 3, 4, 7, 8, 11, 12, 5, 6, 9, 10, 13, 14, 15] [9, 10, 13, 14]) = true := by kernel_rfl

set_option maxRecDepth 100000 in
set_option maxHeartbeats 4000000 in
theorem storeTokens_r (v : Value) (k : Int) (bx tt : List Int) (uid mode fl si : Int) (tx : List Int) (w : World) (hv : CmdV w v k bx tt uid mode fl si tx) (y0 : 0 ≤ uid) (y1 : uid ≤ 9999999) (y2 : 0 ≤ fl) (y3 : fl ≤ 31) (y4 : 0 ≤ mode) (y5 : mode ≤ 2) (y6 : 0 ≤ si) (y7 : si ≤ 9999999) (ht : Tab10 w) :
    Calls Tryz.prog 77 #[v] w fun e w' => ∃ u, e = .returned u ∧ StrsV w' u (storeT bx uid mode fl si) ∧ Below w.heap.size w w' := by
  obtain ⟨mn, rfl⟩ : ∃ n : Nat, mode = n := ⟨mode.toNat, by omega⟩
  have hmn : mn ≤ 2 := by omega
  have hmnI : (mn : Int) < 3 := by omega
  obtain ⟨u0, u1, u2, rfl, g0, g1, g2, i0, i1, i2, i3, i4⟩ := hv
  obtain ⟨a0, n0, c0, rfl⟩ := g0.form3
  obtain ⟨a1, n1, c1, rfl⟩ := g1.form3
  obtain ⟨a2, n2, c2, rfl⟩ := g2.form3
  have HX : Hid (Below w.heap.size w (w.alloc (.cells #[.int .i64 k, .slice a0 n0 c0, .slice a1 n1 c1, .int .i64 uid, .int .i64 mn, .int .i64 fl, .int .i64 si, .slice a2 n2 c2] 34))) := (Below.refl _ _).alloc (Nat.le_refl _) _
  have HK : Hid ((w.alloc (.cells #[.int .i64 k, .slice a0 n0 c0, .slice a1 n1 c1, .int .i64 uid, .int .i64 mn, .int .i64 fl, .int .i64 si, .slice a2 n2 c2] 34)).heap[w.heap.size]? = some (.cells #[.int .i64 k, .slice a0 n0 c0, .slice a1 n1 c1, .int .i64 uid, .int .i64 mn, .int .i64 fl, .int .i64 si, .slice a2 n2 c2] 34)) := box_new w _
  have HG : Hid (∀ wi, Below w.heap.size w wi → Bs wi (.slice a0 n0 c0) bx ∧ Bs wi (.slice a2 n2 c2) tx) := fun wi h => ⟨g0.below h, g2.below h⟩
  have HOX : Hid (Oct bx ∧ Oct tx) := ⟨g0.1, g2.1⟩
  clear g0 g1 g2
  have HS : Hid (∀ w', Below (w.alloc (.cells #[.int .i64 k, .slice a0 n0 c0, .slice a1 n1 c1, .int .i64 uid, .int .i64 mn, .int .i64 fl, .int .i64 si, .slice a2 n2 c2] 34)).heap.size (w.alloc (.cells #[.int .i64 k, .slice a0 n0 c0, .slice a1 n1 c1, .int .i64 uid, .int .i64 mn, .int .i64 fl, .int .i64 si, .slice a2 n2 c2] 34)) w' → w'.cell? ⟨w.heap.size, 0, none⟩ = some (.int .i64 k) ∧ w'.cell? ⟨w.heap.size, 1, none⟩ = some (.slice a0 n0 c0) ∧ w'.cell? ⟨w.heap.size, 2, none⟩ = some (.slice a1 n1 c1) ∧ w'.cell? ⟨w.heap.size, 3, none⟩ = some (.int .i64 uid) ∧ w'.cell? ⟨w.heap.size, 4, none⟩ = some (.int .i64 mn) ∧ w'.cell? ⟨w.heap.size, 5, none⟩ = some (.int .i64 fl) ∧ w'.cell? ⟨w.heap.size, 6, none⟩ = some (.int .i64 si) ∧ w'.cell? ⟨w.heap.size, 7, none⟩ = some (.slice a2 n2 c2) ∧ (convert 22 9 (.slice a0 n0 c0)).run Tryz.prog w' = .ok (.string (strOfNums bx)) w') := by
    intro w' h
    obtain ⟨s0, s1, s2, s3, s4, s5, s6, s7⟩ := box8 (box_below h HK.out)
    exact ⟨s0, s1, s2, s3, s4, s5, s6, s7, run_convert_bs (HG.out _ (Below.step HX.out h)).1⟩
  have C0 : Below (w.alloc (.cells #[.int .i64 k, .slice a0 n0 c0, .slice a1 n1 c1, .int .i64 uid, .int .i64 mn, .int .i64 fl, .int .i64 si, .slice a2 n2 c2] 34)).heap.size (w.alloc (.cells #[.int .i64 k, .slice a0 n0 c0, .slice a1 n1 c1, .int .i64 uid, .int .i64 mn, .int .i64 fl, .int .i64 si, .slice a2 n2 c2] 34)) (w.alloc (.cells #[.int .i64 k, .slice a0 n0 c0, .slice a1 n1 c1, .int .i64 uid, .int .i64 mn, .int .i64 fl, .int .i64 si, .slice a2 n2 c2] 34)).drew := (Below.refl _ _).drew
  obtain ⟨z0, hi, hz0, hz1, hz2⟩ := info_parts infoStr
  go_enter Tryz.func77, Tryz.ntmps77
  go_wp2
  refine wpO_begin (S := fun w' => w'.cell? ⟨w.heap.size, 0, none⟩ = some (.int .i64 k) ∧ w'.cell? ⟨w.heap.size, 1, none⟩ = some (.slice a0 n0 c0) ∧ w'.cell? ⟨w.heap.size, 2, none⟩ = some (.slice a1 n1 c1) ∧ w'.cell? ⟨w.heap.size, 3, none⟩ = some (.int .i64 uid) ∧ w'.cell? ⟨w.heap.size, 4, none⟩ = some (.int .i64 mn) ∧ w'.cell? ⟨w.heap.size, 5, none⟩ = some (.int .i64 fl) ∧ w'.cell? ⟨w.heap.size, 6, none⟩ = some (.int .i64 si) ∧ w'.cell? ⟨w.heap.size, 7, none⟩ = some (.slice a2 n2 c2) ∧ (convert 22 9 (.slice a0 n0 c0)).run Tryz.prog w' = .ok (.string (strOfNums bx)) w') (tabO_of (by kernel_rfl) tabT_storeTokens) (by kernel_rfl) (HS.out _ C0) (fun hTb hHeld => ?_)
  refine tkw 0 0 4 hTb hHeld ?_
  refine tkw 1 1 5 hTb hHeld ?_
  refine tkw 2 2 6 hTb hHeld ?_
  refine tkw 3 3 7 hTb hHeld ?_
  refine tkw 4 4 8 hTb hHeld ?_
  refine tkw 5 7 11 hTb hHeld ?_
  refine tkw 6 8 12 hTb hHeld ?_
  refine tkw 7 11 15 hTb hHeld ?_
  refine tkw 8 12 16 hTb hHeld ?_
  refine clo 9 5 hTb (by decide) rfl ?_
  refine AllReadyH.cons rfl (fun K hK => ?_) AllReadyH.nil
  go_simp
  refine (itoa_i uid y0 y1 _ (Lib.tabBelow_of_tabIs ht _ (Below.step HX.out C0))).mono ?_
  rintro e w1 ⟨rfl, B1⟩
  have C1 := Below.step C0 B1
  clear B1
  refine hK.out _ _ (HS.out _ C1) (fun hHeld => ?_)
  clear hK K
  refine wpOrd_in (n := 16) (p := 9) (i := 5) rfl rfl rfl ?_
  refine clo 10 6 hTb (by decide) rfl ?_
  refine AllReadyH.cons rfl (fun K hK => ?_) AllReadyH.nil
  go_simp
  refine (storeWords_r _).mono ?_
  rintro e w2 ⟨rfl, hw2⟩
  have B2 : Below w1.heap.size w1 w2 := by rw [hw2]; exact (Below.refl _ _).alloc (Nat.le_refl _) _
  have KB : w2.heap[w1.heap.size]? = some (.cells #[.string ⟨#[73, 83]⟩, .string ⟨#[87, 73, 84, 72]⟩, .string ⟨#[87, 73, 84, 72, 79, 85, 84]⟩] 9) := by rw [hw2]; exact box_new w1 _
  have C2 := Below.step C1 B2
  clear hw2 B2
  refine hK.out _ _ (HS.out _ C2) (fun hHeld => ?_)
  clear hK K
  refine wpOrd_in (n := 16) (p := 10) (i := 6) rfl rfl rfl ?_
  refine wpOrd_more (fun w' => w'.cell? ⟨w1.heap.size, mn, none⟩ = some (.string (strOfNums (modeW mn))) ∧ w'.cell? ⟨w.heap.size, 0, none⟩ = some (.int .i64 k) ∧ w'.cell? ⟨w.heap.size, 1, none⟩ = some (.slice a0 n0 c0) ∧ w'.cell? ⟨w.heap.size, 2, none⟩ = some (.slice a1 n1 c1) ∧ w'.cell? ⟨w.heap.size, 3, none⟩ = some (.int .i64 uid) ∧ w'.cell? ⟨w.heap.size, 4, none⟩ = some (.int .i64 mn) ∧ w'.cell? ⟨w.heap.size, 5, none⟩ = some (.int .i64 fl) ∧ w'.cell? ⟨w.heap.size, 6, none⟩ = some (.int .i64 si) ∧ w'.cell? ⟨w.heap.size, 7, none⟩ = some (.slice a2 n2 c2) ∧ (convert 22 9 (.slice a0 n0 c0)).run Tryz.prog w' = .ok (.string (strOfNums bx)) w') (fun _ h => h.2) ?_
  replace hHeld := And.intro (modeCell hmn KB) hHeld
  refine tkw 11 9 13 hTb hHeld ?_
  refine tkw 12 10 14 hTb hHeld ?_
  refine clo 13 13 hTb (by decide) rfl ?_
  refine AllReadyH.cons rfl (fun K hK => ?_) AllReadyH.nil
  go_simp
  refine (flagsText_i fl y2 y3 _).mono ?_
  rintro e w3 ⟨rfl, B3⟩
  have C3 := Below.step C2 B3
  have KB3 := box_below B3 KB
  clear B3
  refine hK.out _ _ (⟨modeCell hmn KB3, HS.out _ C3⟩) (fun hHeld => ?_)
  clear hK K
  refine wpOrd_in (n := 16) (p := 13) (i := 13) rfl rfl rfl ?_
  refine clo 14 14 hTb (by decide) rfl ?_
  refine AllReadyH.cons rfl (fun K hK => ?_) AllReadyH.nil
  go_simp
  have AB4 := (show Below w3.heap.size w3 (w3.alloc (.cells #[.string (strOfNums (bx)), .string (strOfNums (digB uid.toNat)), .string (strOfNums (modeW mn)), .string (strOfNums (flagsB fl))] 9)) from (Below.refl _ _).alloc (Nat.le_refl _) _)
  have C4 := Below.step C3 AB4
  refine hK.out _ _ (⟨modeCell hmn (box_below AB4 KB3), HS.out _ C4⟩) (fun hHeld => ?_)
  clear hK K
  refine wpOrd_in (n := 16) (p := 14) (i := 14) rfl rfl rfl ?_
  refine tkw 15 15 3 hTb hHeld ?_
  refine wpO_end hTb ?_
  have HOC : ∀ s, s ∈ [bx, digB uid.toNat, modeW mn, flagsB fl] → Oct s := by
    intro s hs
    simp only [List.mem_cons, List.not_mem_nil, or_false] at hs
    rcases hs with rfl | rfl | rfl | rfl
    · exact HOX.out.1
    · exact digB_oct _
    · exact (modeW_ok mn hmn).2
    · exact flagsB_oct _
  have HF : Hid ((w3.alloc (.cells #[.string (strOfNums (bx)), .string (strOfNums (digB uid.toNat)), .string (strOfNums (modeW mn)), .string (strOfNums (flagsB fl))] 9)).ownsRow w.heap.size 9 1 (.slice (some ⟨w3.heap.size, 0, none⟩) 4 4) 4 (strVals [bx, digB uid.toNat, modeW mn, flagsB fl])) := rowS_lit _ _ _ [bx, digB uid.toNat, modeW mn, flagsB fl] (box_new w3 (.cells #[.string (strOfNums (bx)), .string (strOfNums (digB uid.toNat)), .string (strOfNums (modeW mn)), .string (strOfNums (flagsB fl))] 9)) (by have h1 := C3.size; simp at h1; omega) (by simp)
  have HBF : Hid (Below w.heap.size w (w3.alloc (.cells #[.string (strOfNums (bx)), .string (strOfNums (digB uid.toNat)), .string (strOfNums (modeW mn)), .string (strOfNums (flagsB fl))] 9))) := Below.step HX.out C4
  have HK2 := box_below C4 HK.out
  have HT5 : Hid (∀ wi, Below w.heap.size w wi → Tab10 wi) := fun wi h => Lib.tabBelow_of_tabIs ht _ h
  obtain ⟨f0, f1, f2, f3, f4, f5, f6, f7⟩ := box8 HK2
  have hlA := lt_of_heap HK2
  have s1 : w.heap.size ≤ w3.heap.size := by have h1 := C3.size; simp at h1; omega
  clear HS C0 C1 C2 C3 C4 AB4 KB KB3 hHeld hTb HK2 HK
  generalize hw4 : w3.alloc (.cells #[.string (strOfNums (bx)), .string (strOfNums (digB uid.toNat)), .string (strOfNums (modeW mn)), .string (strOfNums (flagsB fl))] 9) = w4 at *
  have hs4 : w4.heap.size = w3.heap.size + 1 := by rw [← hw4]; simp
  by_cases hm : 0 < si
  · have HE : Hid (storeT bx uid mn fl si = [bx, digB uid.toNat, modeW mn, flagsB fl] ++ [sinceW, digB si.toNat]) := by simp [Hid, storeT, hm]
    have hmd : decide (0 < si) = true := decide_eq_true hm
    go_wp2_with fail
    refine (itoa_i si y6 y7 _ (HT5.out _ HBF.out)).mono ?_
    rintro e w5 ⟨rfl, B5⟩
    have HF5 : Hid (w5.ownsRow w.heap.size 9 1 (.slice (some ⟨w3.heap.size, 0, none⟩) 4 4) 4 (strVals [bx, digB uid.toNat, modeW mn, flagsB fl])) := HF.out.kept (grow_below B5 none) (.inr (by simp [Value.ownBlock]))
    have X5 := Below.step HBF.out B5
    have hs5 := B5.size
    have HFA : Hid ((w5.alloc (.cells #[.string ⟨#[83, 73, 78, 67, 69]⟩, .string (strOfNums (digB si.toNat))] 9)).ownsRow w.heap.size 9 1 (.slice (some ⟨w3.heap.size, 0, none⟩) 4 4) 4 (strVals [bx, digB uid.toNat, modeW mn, flagsB fl])) := HF5.out.kept (World.grownBy_alloc _ _ none) (.inr (by simp [Value.ownBlock]))
    have HG2 : Hid ((w5.alloc (.cells #[.string ⟨#[83, 73, 78, 67, 69]⟩, .string (strOfNums (digB si.toNat))] 9)).heap[w5.heap.size]? = some (.cells (strVals [sinceW, digB si.toNat]).toArray 9 (0, 0))) := box_new w5 (.cells #[.string ⟨#[83, 73, 78, 67, 69]⟩, .string (strOfNums (digB si.toNat))] 9)
    have HBA : Hid (Below w.heap.size w (w5.alloc (.cells #[.string ⟨#[83, 73, 78, 67, 69]⟩, .string (strOfNums (digB si.toNat))] 9))) := Below.step X5 ((Below.refl _ _).alloc (Nat.le_refl _) _)
    have sA : w.heap.size ≤ (w5.alloc (.cells #[.string ⟨#[83, 73, 78, 67, 69]⟩, .string (strOfNums (digB si.toNat))] 9)).heap.size := HBA.out.size
    clear f0 f1 f2 f3 f4 f5 f6 f7 hlA B5 X5 HF5 HF
    go_wp2_with (at_builtin; refine wpList_append_strs rfl (.tmp 22) (.tmp 26) 83 rfl z0 Tryz.underlying83 hi hz0 hz1 hz2 w.heap.size _ [bx, digB uid.toNat, modeW mn, flagsB fl] [sinceW, digB si.toNat] 4 2 rfl rfl rfl HFA.out w5.heap.size rfl HG2.out (by omega) sA ?_)
    intro v6 w6 hO6 hG6
    have HF6 : Hid (StrsV w6 v6 (storeT bx uid mn fl si)) := by
      rw [HE.out]
      refine strs_of_row hO6 ?_
      intro s hs
      rcases List.mem_append.1 hs with h | h
      · exact HOC s h
      · simp only [List.mem_cons, List.not_mem_nil, or_false] at h
        rcases h with rfl | rfl
        · intro y hy
          simp only [sinceW, List.mem_cons, List.not_mem_nil, or_false] at hy
          omega
        · exact digB_oct _
    have HB6 : Hid (Below w.heap.size w w6) := HBA.out.grown hG6 HBA.out.size (fun q hq => (HFA.out.lt q hq).1)
    clear hO6 hG6 HFA HG2 HBA
    go_wp2
    go_ret
    exact ⟨_, rfl, HF6.out, HB6.out⟩
  · have HE : Hid (storeT bx uid mn fl si = [bx, digB uid.toNat, modeW mn, flagsB fl]) := by simp [Hid, storeT, hm]
    have hmd : decide (0 < si) = false := decide_eq_false hm
    go_wp2
    go_ret
    exact ⟨_, rfl, by rw [HE.out]; exact strs_of_row HF.out HOC, HBF.out⟩

end Go.Proofs.YtifpjdpcmfneaaaGreatDoor

/- What copyTokens of package impl does. -/
namespace Go.Proofs.YtifpjdpcmfneaaaGreatDoor
open Go.RowKit
set_option maxRecDepth 100000
set_option linter.unusedVariables false

def copyT (bx tt : List Int) (uid mode : Int) : List (List Int) := if mode = 1 then [bx, digB uid.toNat, tt, awayW] else [bx, digB uid.toNat, tt]
theorem tabT_copyTokens : (Tryz.f81.body.bind (opsAt 1)).all (fun o => tableO o 11 [0, 1, 2, 3, 4, 6, 7, 8, 5, 9, 10] [8, 9]) = true := by kernel_rfl

set_option maxRecDepth 100000 in
set_option maxHeartbeats 4000000 in
theorem copyTokens_r (v : Value) (k : Int) (bx tt : List Int) (uid mode fl si : Int) (tx : List Int) (w : World) (hv : CmdV w v k bx tt uid mode fl si tx) (y0 : 0 ≤ uid) (y1 : uid ≤ 9999999) (ht : Tab10 w) :
    Calls Tryz.prog 81 #[v] w fun e w' => ∃ u, e = .returned u ∧ StrsV w' u (copyT bx tt uid mode) ∧ Below w.heap.size w w' := by
  obtain ⟨u0, u1, u2, rfl, g0, g1, g2, i0, i1, i2, i3, i4⟩ := hv
  obtain ⟨a0, n0, c0, rfl⟩ := g0.form3
  obtain ⟨a1, n1, c1, rfl⟩ := g1.form3
  obtain ⟨a2, n2, c2, rfl⟩ := g2.form3
  have HX : Hid (Below w.heap.size w (w.alloc (.cells #[.int .i64 k, .slice a0 n0 c0, .slice a1 n1 c1, .int .i64 uid, .int .i64 mode, .int .i64 fl, .int .i64 si, .slice a2 n2 c2] 34))) := (Below.refl _ _).alloc (Nat.le_refl _) _
  have HK : Hid ((w.alloc (.cells #[.int .i64 k, .slice a0 n0 c0, .slice a1 n1 c1, .int .i64 uid, .int .i64 mode, .int .i64 fl, .int .i64 si, .slice a2 n2 c2] 34)).heap[w.heap.size]? = some (.cells #[.int .i64 k, .slice a0 n0 c0, .slice a1 n1 c1, .int .i64 uid, .int .i64 mode, .int .i64 fl, .int .i64 si, .slice a2 n2 c2] 34)) := box_new w _
  have HG : Hid (∀ wi, Below w.heap.size w wi → Bs wi (.slice a0 n0 c0) bx ∧ Bs wi (.slice a1 n1 c1) tt) := fun wi h => ⟨g0.below h, g1.below h⟩
  have HOX : Hid (Oct bx ∧ Oct tt) := ⟨g0.1, g1.1⟩
  clear g0 g1 g2
  have HS : Hid (∀ w', Below (w.alloc (.cells #[.int .i64 k, .slice a0 n0 c0, .slice a1 n1 c1, .int .i64 uid, .int .i64 mode, .int .i64 fl, .int .i64 si, .slice a2 n2 c2] 34)).heap.size (w.alloc (.cells #[.int .i64 k, .slice a0 n0 c0, .slice a1 n1 c1, .int .i64 uid, .int .i64 mode, .int .i64 fl, .int .i64 si, .slice a2 n2 c2] 34)) w' → w'.cell? ⟨w.heap.size, 0, none⟩ = some (.int .i64 k) ∧ w'.cell? ⟨w.heap.size, 1, none⟩ = some (.slice a0 n0 c0) ∧ w'.cell? ⟨w.heap.size, 2, none⟩ = some (.slice a1 n1 c1) ∧ w'.cell? ⟨w.heap.size, 3, none⟩ = some (.int .i64 uid) ∧ w'.cell? ⟨w.heap.size, 4, none⟩ = some (.int .i64 mode) ∧ w'.cell? ⟨w.heap.size, 5, none⟩ = some (.int .i64 fl) ∧ w'.cell? ⟨w.heap.size, 6, none⟩ = some (.int .i64 si) ∧ w'.cell? ⟨w.heap.size, 7, none⟩ = some (.slice a2 n2 c2) ∧ (convert 22 9 (.slice a0 n0 c0)).run Tryz.prog w' = .ok (.string (strOfNums bx)) w' ∧ (convert 22 9 (.slice a1 n1 c1)).run Tryz.prog w' = .ok (.string (strOfNums tt)) w') := by
    intro w' h
    obtain ⟨s0, s1, s2, s3, s4, s5, s6, s7⟩ := box8 (box_below h HK.out)
    exact ⟨s0, s1, s2, s3, s4, s5, s6, s7, run_convert_bs (HG.out _ (Below.step HX.out h)).1, run_convert_bs (HG.out _ (Below.step HX.out h)).2⟩
  have C0 : Below (w.alloc (.cells #[.int .i64 k, .slice a0 n0 c0, .slice a1 n1 c1, .int .i64 uid, .int .i64 mode, .int .i64 fl, .int .i64 si, .slice a2 n2 c2] 34)).heap.size (w.alloc (.cells #[.int .i64 k, .slice a0 n0 c0, .slice a1 n1 c1, .int .i64 uid, .int .i64 mode, .int .i64 fl, .int .i64 si, .slice a2 n2 c2] 34)) (w.alloc (.cells #[.int .i64 k, .slice a0 n0 c0, .slice a1 n1 c1, .int .i64 uid, .int .i64 mode, .int .i64 fl, .int .i64 si, .slice a2 n2 c2] 34)).drew := (Below.refl _ _).drew
  obtain ⟨z0, hi, hz0, hz1, hz2⟩ := info_parts infoStr
  go_enter Tryz.func81, Tryz.ntmps81
  go_wp2
  refine wpO_begin (S := fun w' => w'.cell? ⟨w.heap.size, 0, none⟩ = some (.int .i64 k) ∧ w'.cell? ⟨w.heap.size, 1, none⟩ = some (.slice a0 n0 c0) ∧ w'.cell? ⟨w.heap.size, 2, none⟩ = some (.slice a1 n1 c1) ∧ w'.cell? ⟨w.heap.size, 3, none⟩ = some (.int .i64 uid) ∧ w'.cell? ⟨w.heap.size, 4, none⟩ = some (.int .i64 mode) ∧ w'.cell? ⟨w.heap.size, 5, none⟩ = some (.int .i64 fl) ∧ w'.cell? ⟨w.heap.size, 6, none⟩ = some (.int .i64 si) ∧ w'.cell? ⟨w.heap.size, 7, none⟩ = some (.slice a2 n2 c2) ∧ (convert 22 9 (.slice a0 n0 c0)).run Tryz.prog w' = .ok (.string (strOfNums bx)) w' ∧ (convert 22 9 (.slice a1 n1 c1)).run Tryz.prog w' = .ok (.string (strOfNums tt)) w') (tabO_of (by kernel_rfl) tabT_copyTokens) (by kernel_rfl) (HS.out _ C0) (fun hTb hHeld => ?_)
  refine tkw 0 0 4 hTb hHeld ?_
  refine tkw 1 1 5 hTb hHeld ?_
  refine tkw 2 2 6 hTb hHeld ?_
  refine tkw 3 3 7 hTb hHeld ?_
  refine tkw 4 4 8 hTb hHeld ?_
  refine tkw 5 6 10 hTb hHeld ?_
  refine tkw 6 7 11 hTb hHeld ?_
  refine tkw 7 8 12 hTb hHeld ?_
  refine clo 8 5 hTb (by decide) rfl ?_
  refine AllReadyH.cons rfl (fun K hK => ?_) AllReadyH.nil
  go_simp
  refine (itoa_i uid y0 y1 _ (Lib.tabBelow_of_tabIs ht _ (Below.step HX.out C0))).mono ?_
  rintro e w1 ⟨rfl, B1⟩
  have C1 := Below.step C0 B1
  clear B1
  refine hK.out _ _ (HS.out _ C1) (fun hHeld => ?_)
  clear hK K
  refine wpOrd_in (n := 11) (p := 8) (i := 5) rfl rfl rfl ?_
  refine clo 9 9 hTb (by decide) rfl ?_
  refine AllReadyH.cons rfl (fun K hK => ?_) AllReadyH.nil
  go_simp
  have C2 := Below.step C1 (show Below w1.heap.size w1 (w1.alloc (.cells #[.string (strOfNums (bx)), .string (strOfNums (digB uid.toNat)), .string (strOfNums (tt))] 9)) from (Below.refl _ _).alloc (Nat.le_refl _) _)
  refine hK.out _ _ (HS.out _ C2) (fun hHeld => ?_)
  clear hK K
  refine wpOrd_in (n := 11) (p := 9) (i := 9) rfl rfl rfl ?_
  refine tkw 10 10 3 hTb hHeld ?_
  refine wpO_end hTb ?_
  have HOC : ∀ s, s ∈ [bx, digB uid.toNat, tt] → Oct s := by
    intro s hs
    simp only [List.mem_cons, List.not_mem_nil, or_false] at hs
    rcases hs with rfl | rfl | rfl
    · exact HOX.out.1
    · exact digB_oct _
    · exact HOX.out.2
  have HF : Hid ((w1.alloc (.cells #[.string (strOfNums (bx)), .string (strOfNums (digB uid.toNat)), .string (strOfNums (tt))] 9)).ownsRow w.heap.size 9 1 (.slice (some ⟨w1.heap.size, 0, none⟩) 3 3) 3 (strVals [bx, digB uid.toNat, tt])) := rowS_lit _ _ _ [bx, digB uid.toNat, tt] (box_new w1 (.cells #[.string (strOfNums (bx)), .string (strOfNums (digB uid.toNat)), .string (strOfNums (tt))] 9)) (by have h1 := C1.size; simp at h1; omega) (by simp)
  have HBF : Hid (Below w.heap.size w (w1.alloc (.cells #[.string (strOfNums (bx)), .string (strOfNums (digB uid.toNat)), .string (strOfNums (tt))] 9))) := Below.step HX.out C2
  have HK2 := box_below C2 HK.out
  obtain ⟨f0, f1, f2, f3, f4, f5, f6, f7⟩ := box8 HK2
  have hlA := lt_of_heap HK2
  have s1 : w.heap.size ≤ w1.heap.size := by have h1 := C1.size; simp at h1; omega
  clear HS C0 C1 C2 hHeld hTb HK2
  by_cases hm : mode = 1
  · have HE : Hid (copyT bx tt uid mode = [bx, digB uid.toNat, tt] ++ [awayW]) := by simp [Hid, copyT, hm]
    subst hm
    have HFA : Hid (((w1.alloc (.cells #[.string (strOfNums (bx)), .string (strOfNums (digB uid.toNat)), .string (strOfNums (tt))] 9)).alloc (.cells #[.string ⟨#[65, 87, 65, 89]⟩] 9)).ownsRow w.heap.size 9 1 (.slice (some ⟨w1.heap.size, 0, none⟩) 3 3) 3 (strVals [bx, digB uid.toNat, tt])) := HF.out.kept (World.grownBy_alloc _ _ none) (.inr (by simp [Value.ownBlock]))
    have HG2 : Hid (((w1.alloc (.cells #[.string (strOfNums (bx)), .string (strOfNums (digB uid.toNat)), .string (strOfNums (tt))] 9)).alloc (.cells #[.string ⟨#[65, 87, 65, 89]⟩] 9)).heap[w1.heap.size + 1]? = some (.cells (strVals [awayW]).toArray 9 (0, 0))) := by
      have h := box_new (w1.alloc (.cells #[.string (strOfNums (bx)), .string (strOfNums (digB uid.toNat)), .string (strOfNums (tt))] 9)) (.cells #[.string ⟨#[65, 87, 65, 89]⟩] 9)
      rw [show (w1.alloc (.cells #[.string (strOfNums (bx)), .string (strOfNums (digB uid.toNat)), .string (strOfNums (tt))] 9)).heap.size = w1.heap.size + 1 by simp] at h
      exact h
    have HBA : Hid (Below w.heap.size w ((w1.alloc (.cells #[.string (strOfNums (bx)), .string (strOfNums (digB uid.toNat)), .string (strOfNums (tt))] 9)).alloc (.cells #[.string ⟨#[65, 87, 65, 89]⟩] 9))) := Below.step HBF.out ((Below.refl _ _).alloc (Nat.le_refl _) _)
    have sA : w.heap.size ≤ ((w1.alloc (.cells #[.string (strOfNums (bx)), .string (strOfNums (digB uid.toNat)), .string (strOfNums (tt))] 9)).alloc (.cells #[.string ⟨#[65, 87, 65, 89]⟩] 9)).heap.size := HBA.out.size
    go_wp2_with (at_builtin; refine wpList_append_strs rfl (.tmp 17) (.tmp 18) 83 rfl z0 Tryz.underlying83 hi hz0 hz1 hz2 w.heap.size _ [bx, digB uid.toNat, tt] [awayW] 3 1 rfl rfl rfl HFA.out (w1.heap.size + 1) rfl HG2.out (by omega) sA ?_)
    intro v3 w3 hO3 hG3
    have HF3 : Hid (StrsV w3 v3 (copyT bx tt uid 1)) := by
      rw [HE.out]
      refine strs_of_row hO3 ?_
      intro s hs
      rcases List.mem_append.1 hs with h | h
      · exact HOC s h
      · simp only [List.mem_cons, List.not_mem_nil, or_false] at h
        subst h
        intro y hy
        simp only [awayW, List.mem_cons, List.not_mem_nil, or_false] at hy
        omega
    have HB3 : Hid (Below w.heap.size w w3) := HBA.out.grown hG3 HBA.out.size (fun q hq => (HFA.out.lt q hq).1)
    clear hO3 hG3 HFA HG2 HBA
    go_wp2
    go_ret
    exact ⟨_, rfl, HF3.out, HB3.out⟩
  · have HE : Hid (copyT bx tt uid mode = [bx, digB uid.toNat, tt]) := by simp [Hid, copyT, hm]
    go_wp2
    go_ret
    exact ⟨_, rfl, by rw [HE.out]; exact strs_of_row HF.out HOC, HBF.out⟩

end Go.Proofs.YtifpjdpcmfneaaaGreatDoor

/- What forms of package impl does. -/
namespace Go.Proofs.YtifpjdpcmfneaaaGreatDoor
open Go.RowKit
set_option maxRecDepth 100000
set_option linter.unusedVariables false

abbrev formsO : Obj := .cells #[.string ⟨#[67, 82, 69, 65, 84, 69]⟩, .func (.func 72) #[] #[], .func (.func 73) #[] #[], .string ⟨#[68, 69, 76, 69, 84, 69]⟩, .func (.func 72) #[] #[], .func (.func 73) #[] #[], .string ⟨#[65, 80, 80, 69, 78, 68]⟩, .func (.func 74) #[] #[], .func (.func 75) #[] #[], .string ⟨#[83, 84, 79, 82, 69]⟩, .func (.func 76) #[] #[], .func (.func 77) #[] #[], .string ⟨#[69, 88, 80, 85, 78, 71, 69]⟩, .func (.func 72) #[] #[], .func (.func 73) #[] #[], .string ⟨#[70, 69, 84, 67, 72]⟩, .func (.func 78) #[] #[], .func (.func 79) #[] #[], .string ⟨#[67, 79, 80, 89]⟩, .func (.func 80) #[] #[], .func (.func 81) #[] #[], .string ⟨#[83, 84, 65, 84, 85, 83]⟩, .func (.func 72) #[] #[], .func (.func 73) #[] #[], .string ⟨#[67, 72, 65, 78, 71, 69, 83]⟩, .func (.func 82) #[] #[], .func (.func 83) #[] #[], .string ⟨#[76, 73, 83, 84]⟩, .func (.func 84) #[] #[], .func (.func 85) #[] #[]] 79
theorem run_storeF {P : Program} (W : World) (b i : Nat) (cs : Array Value) (t : TypeId) (v : Value) (h : W.heap[b]? = some (.cells cs t (0, 0))) (hi : i < cs.size) (hv : v.oneCell' = true) : (store ⟨b, i, none⟩ v).run P W = .ok () (W.setCell ⟨b, i, none⟩ v) := by
  rw [run_store P W _ v _ hv, cell_of_row W b i cs t (0, 0) h]
  simp [hi, frozen_of_row W b i cs t h]
set_option maxRecDepth 100000 in
set_option maxHeartbeats 4000000 in
theorem forms_r (w : World) : Calls Tryz.prog 48 #[] w fun e w' => e = .returned (.slice (some ⟨w.heap.size, 0, none⟩) 10 10) ∧ w' = w.alloc (.cells #[.string ⟨#[67, 82, 69, 65, 84, 69]⟩, .func (.func 72) #[] #[], .func (.func 73) #[] #[], .string ⟨#[68, 69, 76, 69, 84, 69]⟩, .func (.func 72) #[] #[], .func (.func 73) #[] #[], .string ⟨#[65, 80, 80, 69, 78, 68]⟩, .func (.func 74) #[] #[], .func (.func 75) #[] #[], .string ⟨#[83, 84, 79, 82, 69]⟩, .func (.func 76) #[] #[], .func (.func 77) #[] #[], .string ⟨#[69, 88, 80, 85, 78, 71, 69]⟩, .func (.func 72) #[] #[], .func (.func 73) #[] #[], .string ⟨#[70, 69, 84, 67, 72]⟩, .func (.func 78) #[] #[], .func (.func 79) #[] #[], .string ⟨#[67, 79, 80, 89]⟩, .func (.func 80) #[] #[], .func (.func 81) #[] #[], .string ⟨#[83, 84, 65, 84, 85, 83]⟩, .func (.func 72) #[] #[], .func (.func 73) #[] #[], .string ⟨#[67, 72, 65, 78, 71, 69, 83]⟩, .func (.func 82) #[] #[], .func (.func 83) #[] #[], .string ⟨#[76, 73, 83, 84]⟩, .func (.func 84) #[] #[], .func (.func 85) #[] #[]] 79) := by
  go_enter Tryz.func48, Tryz.ntmps48
  go_wp2
  go_ret
  exact ⟨rfl, rfl⟩
theorem formAt0 {w : World} {b : Nat} (h : w.heap[b]? = some formsO) : w.cell? ⟨b, 0, none⟩ = some (.string ⟨#[67, 82, 69, 65, 84, 69]⟩) ∧ w.cell? ⟨b, 1, none⟩ = some (.func (.func 72) #[] #[]) ∧ w.cell? ⟨b, 2, none⟩ = some (.func (.func 73) #[] #[]) :=
  ⟨by rw [cell_of_row w b 0 _ _ (0, 0) h]; rfl, by rw [cell_of_row w b 1 _ _ (0, 0) h]; rfl, by rw [cell_of_row w b 2 _ _ (0, 0) h]; rfl⟩
theorem formAt1 {w : World} {b : Nat} (h : w.heap[b]? = some formsO) : w.cell? ⟨b, 3, none⟩ = some (.string ⟨#[68, 69, 76, 69, 84, 69]⟩) ∧ w.cell? ⟨b, 4, none⟩ = some (.func (.func 72) #[] #[]) ∧ w.cell? ⟨b, 5, none⟩ = some (.func (.func 73) #[] #[]) :=
  ⟨by rw [cell_of_row w b 3 _ _ (0, 0) h]; rfl, by rw [cell_of_row w b 4 _ _ (0, 0) h]; rfl, by rw [cell_of_row w b 5 _ _ (0, 0) h]; rfl⟩
theorem formAt2 {w : World} {b : Nat} (h : w.heap[b]? = some formsO) : w.cell? ⟨b, 6, none⟩ = some (.string ⟨#[65, 80, 80, 69, 78, 68]⟩) ∧ w.cell? ⟨b, 7, none⟩ = some (.func (.func 74) #[] #[]) ∧ w.cell? ⟨b, 8, none⟩ = some (.func (.func 75) #[] #[]) :=
  ⟨by rw [cell_of_row w b 6 _ _ (0, 0) h]; rfl, by rw [cell_of_row w b 7 _ _ (0, 0) h]; rfl, by rw [cell_of_row w b 8 _ _ (0, 0) h]; rfl⟩
theorem formAt3 {w : World} {b : Nat} (h : w.heap[b]? = some formsO) : w.cell? ⟨b, 9, none⟩ = some (.string ⟨#[83, 84, 79, 82, 69]⟩) ∧ w.cell? ⟨b, 10, none⟩ = some (.func (.func 76) #[] #[]) ∧ w.cell? ⟨b, 11, none⟩ = some (.func (.func 77) #[] #[]) :=
  ⟨by rw [cell_of_row w b 9 _ _ (0, 0) h]; rfl, by rw [cell_of_row w b 10 _ _ (0, 0) h]; rfl, by rw [cell_of_row w b 11 _ _ (0, 0) h]; rfl⟩
theorem formAt4 {w : World} {b : Nat} (h : w.heap[b]? = some formsO) : w.cell? ⟨b, 12, none⟩ = some (.string ⟨#[69, 88, 80, 85, 78, 71, 69]⟩) ∧ w.cell? ⟨b, 13, none⟩ = some (.func (.func 72) #[] #[]) ∧ w.cell? ⟨b, 14, none⟩ = some (.func (.func 73) #[] #[]) :=
  ⟨by rw [cell_of_row w b 12 _ _ (0, 0) h]; rfl, by rw [cell_of_row w b 13 _ _ (0, 0) h]; rfl, by rw [cell_of_row w b 14 _ _ (0, 0) h]; rfl⟩
theorem formAt5 {w : World} {b : Nat} (h : w.heap[b]? = some formsO) : w.cell? ⟨b, 15, none⟩ = some (.string ⟨#[70, 69, 84, 67, 72]⟩) ∧ w.cell? ⟨b, 16, none⟩ = some (.func (.func 78) #[] #[]) ∧ w.cell? ⟨b, 17, none⟩ = some (.func (.func 79) #[] #[]) :=
  ⟨by rw [cell_of_row w b 15 _ _ (0, 0) h]; rfl, by rw [cell_of_row w b 16 _ _ (0, 0) h]; rfl, by rw [cell_of_row w b 17 _ _ (0, 0) h]; rfl⟩
theorem formAt6 {w : World} {b : Nat} (h : w.heap[b]? = some formsO) : w.cell? ⟨b, 18, none⟩ = some (.string ⟨#[67, 79, 80, 89]⟩) ∧ w.cell? ⟨b, 19, none⟩ = some (.func (.func 80) #[] #[]) ∧ w.cell? ⟨b, 20, none⟩ = some (.func (.func 81) #[] #[]) :=
  ⟨by rw [cell_of_row w b 18 _ _ (0, 0) h]; rfl, by rw [cell_of_row w b 19 _ _ (0, 0) h]; rfl, by rw [cell_of_row w b 20 _ _ (0, 0) h]; rfl⟩
theorem formAt7 {w : World} {b : Nat} (h : w.heap[b]? = some formsO) : w.cell? ⟨b, 21, none⟩ = some (.string ⟨#[83, 84, 65, 84, 85, 83]⟩) ∧ w.cell? ⟨b, 22, none⟩ = some (.func (.func 72) #[] #[]) ∧ w.cell? ⟨b, 23, none⟩ = some (.func (.func 73) #[] #[]) :=
  ⟨by rw [cell_of_row w b 21 _ _ (0, 0) h]; rfl, by rw [cell_of_row w b 22 _ _ (0, 0) h]; rfl, by rw [cell_of_row w b 23 _ _ (0, 0) h]; rfl⟩
theorem formAt8 {w : World} {b : Nat} (h : w.heap[b]? = some formsO) : w.cell? ⟨b, 24, none⟩ = some (.string ⟨#[67, 72, 65, 78, 71, 69, 83]⟩) ∧ w.cell? ⟨b, 25, none⟩ = some (.func (.func 82) #[] #[]) ∧ w.cell? ⟨b, 26, none⟩ = some (.func (.func 83) #[] #[]) :=
  ⟨by rw [cell_of_row w b 24 _ _ (0, 0) h]; rfl, by rw [cell_of_row w b 25 _ _ (0, 0) h]; rfl, by rw [cell_of_row w b 26 _ _ (0, 0) h]; rfl⟩
theorem formAt9 {w : World} {b : Nat} (h : w.heap[b]? = some formsO) : w.cell? ⟨b, 27, none⟩ = some (.string ⟨#[76, 73, 83, 84]⟩) ∧ w.cell? ⟨b, 28, none⟩ = some (.func (.func 84) #[] #[]) ∧ w.cell? ⟨b, 29, none⟩ = some (.func (.func 85) #[] #[]) :=
  ⟨by rw [cell_of_row w b 27 _ _ (0, 0) h]; rfl, by rw [cell_of_row w b 28 _ _ (0, 0) h]; rfl, by rw [cell_of_row w b 29 _ _ (0, 0) h]; rfl⟩

end Go.Proofs.YtifpjdpcmfneaaaGreatDoor

/- What CmdText of package impl does, kinds 0, 1. -/
namespace Go.Proofs.YtifpjdpcmfneaaaGreatDoor
open Go.RowKit
set_option maxRecDepth 100000
set_option linter.unusedVariables false

set_option maxRecDepth 100000 in
set_option maxHeartbeats 4000000 in
theorem implCmdText_0 (a0 a1 a2 : Option Addr) (n0 n1 n2 c0 c1 c2 : Nat) (bx tt : List Int) (uid mode fl si : Int) (tx : List Int) (w : World) (HV : Hid (∀ wi, Below w.heap.size w wi → CmdV wi (.agg #[.int .i64 0, .slice a0 n0 c0, .slice a1 n1 c1, .int .i64 uid, .int .i64 mode, .int .i64 fl, .int .i64 si, .slice a2 n2 c2]) 0 bx tt uid mode fl si tx)) (HO : Hid (∀ wi, Below w.heap.size w wi → Calls Tryz.prog 47 #[.agg #[.int .i64 0, .slice a0 n0 c0, .slice a1 n1 c1, .int .i64 uid, .int .i64 mode, .int .i64 fl, .int .i64 si, .slice a2 n2 c2]] wi fun e w' => e = .returned (.bool true) ∧ Below wi.heap.size wi w'))
    (ss : List (List Int)) (hsl : ss.length ≤ 100) (hst : ∀ s, s ∈ ss → s.length ≤ 1000)
    (HT : Hid (∀ wi, Below w.heap.size w wi → Calls Tryz.prog 73 #[.agg #[.int .i64 0, .slice a0 n0 c0, .slice a1 n1 c1, .int .i64 uid, .int .i64 mode, .int .i64 fl, .int .i64 si, .slice a2 n2 c2]] wi fun e w' => ∃ u, e = .returned u ∧ StrsV w' u ss ∧ Below wi.heap.size wi w')) :
    Calls Tryz.prog 21 #[.agg #[.int .i64 0, .slice a0 n0 c0, .slice a1 n1 c1, .int .i64 uid, .int .i64 mode, .int .i64 fl, .int .i64 si, .slice a2 n2 c2]] w fun e w' => ∃ u, e = .returned (.tuple #[u, .bool true]) ∧ Row w' w.heap.size w'.heap.size u (kindW 0 ++ ss.flatMap tokB) ∧ Below w.heap.size w w' := by
  have HX : Hid (Below w.heap.size w (w.alloc (.cells #[.int .i64 0, .slice a0 n0 c0, .slice a1 n1 c1, .int .i64 uid, .int .i64 mode, .int .i64 fl, .int .i64 si, .slice a2 n2 c2] 34))) := (Below.refl _ _).alloc (Nat.le_refl _) _
  have HK0 := box_new w (.cells #[.int .i64 0, .slice a0 n0 c0, .slice a1 n1 c1, .int .i64 uid, .int .i64 mode, .int .i64 fl, .int .i64 si, .slice a2 n2 c2] 34)
  go_enter Tryz.func21, Tryz.ntmps21
  go_wp2_with fail
  refine (HO.out _ HX.out).mono ?_
  rintro e A ⟨rfl, BA⟩
  have XA : Hid (Below w.heap.size w A) := Below.step HX.out BA
  have HK : Hid (A.heap[w.heap.size]? = some (.cells #[.int .i64 0, .slice a0 n0 c0, .slice a1 n1 c1, .int .i64 uid, .int .i64 mode, .int .i64 fl, .int .i64 si, .slice a2 n2 c2] 34)) := box_below BA HK0
  have hsA : w.heap.size ≤ A.heap.size := XA.out.size
  clear HK0 BA HX HO
  have HS : Hid (∀ w', Below A.heap.size A w' → w'.cell? ⟨w.heap.size, 0, none⟩ = some (.int .i64 0)) := fun w' h => (box8 (box_below h HK.out)).1
  have C0 : Below A.heap.size A A.drew := (Below.refl _ _).drew
  obtain ⟨f0, f1, f2, f3, f4, f5, f6, f7⟩ := box8 HK.out
  have hlA := lt_of_heap HK.out
  go_upto_region 3 with fail
  go_cut [4] (fun s wx => ∃ b, s = .pointer (some ⟨b, 0, none⟩) ∧ Hid (wx.heap[b]? = some (.cells #[.string ⟨#[67, 82, 69, 65, 84, 69]⟩, .func (.func 72) #[] #[], .func (.func 73) #[] #[]] 79 (0, 0))) ∧ Hid (Below A.heap.size A wx))
  case first =>
    clear f0 f1 f2 f3 f4 f5 f6 f7 hlA
    go_wp2
    refine wp_region_held_drew (S := fun w' => w'.cell? ⟨w.heap.size, 0, none⟩ = some (.int .i64 0)) (by kernel_rfl) (HS.out _ C0) (fun hHeld => (show wpAnyH _ _ _ _ _ 7 #[false, false, false, false, false, false, false] _ _ from ?_))
    refine tq 1 9 hHeld ?_
    refine tq 2 10 hHeld ?_
    generalize hwd : A.drew = wd at *
    refine wpAnyH_ready (rs := [0, 5]) (by kernel_rfl) (by simp) ?_
    refine AllReadyH.cons rfl (fun K hK => ?_) (AllReadyH.cons rfl (fun K hK => ?_) AllReadyH.nil)
    · go_simp
      refine (forms_r _).mono ?_
      rintro e w1 ⟨rfl, hw1⟩
      have B1 : Below wd.heap.size wd w1 := by rw [hw1]; exact (Below.refl _ _).alloc (Nat.le_refl _) _
      have KF1 : w1.heap[wd.heap.size]? = some formsO := by rw [hw1]; exact box_new wd _
      have D1 := Below.step C0 B1
      clear hw1
      refine hK.out _ _ (HS.out _ D1) (fun hHeld => ?_)
      clear hK K
      refine wpAnyH_more (S' := fun w' => (w'.cell? ⟨wd.heap.size, 0, none⟩ = some (.string ⟨#[67, 82, 69, 65, 84, 69]⟩) ∧ w'.cell? ⟨wd.heap.size, 1, none⟩ = some (.func (.func 72) #[] #[]) ∧ w'.cell? ⟨wd.heap.size, 2, none⟩ = some (.func (.func 73) #[] #[])) ∧ w'.cell? ⟨w.heap.size, 0, none⟩ = some (.int .i64 0)) (fun _ h => h.2) _ _ _ _ ?_
      replace hHeld := And.intro (formAt0 KF1) hHeld
      refine tq 3 11 hHeld ?_
      refine tq 4 12 hHeld ?_
      refine wpAnyH_ready (rs := [5]) (by kernel_rfl) (by simp) ?_
      refine AllReadyH.cons rfl (fun K hK => ?_) AllReadyH.nil
      go_simp
      have AB : Below w1.heap.size w1 (w1.alloc (.cells #[.string ⟨#[]⟩, .nilFunc, .nilFunc] 79)) := (Below.refl _ _).alloc (Nat.le_refl _) _
      have KV := box_new w1 (.cells #[.string ⟨#[]⟩, .nilFunc, .nilFunc] 79)
      have KF2 := box_below AB KF1
      have hne := lt_of_heap KF1
      have D2 := Below.step D1 AB
      refine hK.out _ _ (⟨formAt0 KF2, HS.out _ D2⟩) (fun hHeld => ?_)
      clear hK K
      generalize hwv : w1.alloc (.cells #[.string ⟨#[]⟩, .nilFunc, .nilFunc] 79) = w2 at *
      obtain ⟨oz, ol⟩ := box8z KV
      obtain ⟨o0, o1, o2⟩ := bx3 KV
      have hlv : A.heap.size ≤ w1.heap.size := D1.size
      have KW : (((w2.setCell ⟨w1.heap.size, 0, none⟩ (.string ⟨#[67, 82, 69, 65, 84, 69]⟩)).setCell ⟨w1.heap.size, 1, none⟩ (.func (.func 72) #[] #[])).setCell ⟨w1.heap.size, 2, none⟩ (.func (.func 73) #[] #[])).heap[w1.heap.size]? = some (.cells #[.string ⟨#[67, 82, 69, 65, 84, 69]⟩, .func (.func 72) #[] #[], .func (.func 73) #[] #[]] 79 (0, 0)) := box_set (i := 2) (box_set (i := 1) (box_set (i := 0) KV))
      have DW : Below A.heap.size A (((w2.setCell ⟨w1.heap.size, 0, none⟩ (.string ⟨#[67, 82, 69, 65, 84, 69]⟩)).setCell ⟨w1.heap.size, 1, none⟩ (.func (.func 72) #[] #[])).setCell ⟨w1.heap.size, 2, none⟩ (.func (.func 73) #[] #[])) := ((D2.setCell (p := ⟨w1.heap.size, 0, none⟩) hlv _).setCell (p := ⟨w1.heap.size, 1, none⟩) hlv _).setCell (p := ⟨w1.heap.size, 2, none⟩) hlv _
      have KFW := box_other (i := 2) (v := .func (.func 73) #[] #[]) (box_other (i := 1) (v := .func (.func 72) #[] #[]) (box_other (i := 0) (v := .string ⟨#[67, 82, 69, 65, 84, 69]⟩) KF2 (show wd.heap.size ≠ w1.heap.size by omega)) (show wd.heap.size ≠ w1.heap.size by omega)) (show wd.heap.size ≠ w1.heap.size by omega)
      have st1 := run_storeF (P := Tryz.prog) (w2.setCell ⟨w1.heap.size, 0, none⟩ (.string ⟨#[67, 82, 69, 65, 84, 69]⟩)) w1.heap.size 1 _ _ (.func (.func 72) #[] #[]) (box_set (i := 0) KV) (by simp) rfl
      have st2 := run_storeF (P := Tryz.prog) ((w2.setCell ⟨w1.heap.size, 0, none⟩ (.string ⟨#[67, 82, 69, 65, 84, 69]⟩)).setCell ⟨w1.heap.size, 1, none⟩ (.func (.func 72) #[] #[])) w1.heap.size 2 _ _ (.func (.func 73) #[] #[]) (box_set (i := 1) (box_set (i := 0) KV)) (by simp) rfl
      refine wpAnyH_ready (rs := [6]) (by kernel_rfl) (by simp) ?_
      refine AllReadyH.cons rfl (fun K hK => ?_) AllReadyH.nil
      go_simp
      refine hK.out _ _ (⟨formAt0 KFW, HS.out _ DW⟩) (fun hHeld => ?_)
      clear hK K
      refine wpAnyH_done (by kernel_rfl) ?_ _
      go_wp2
      go_meet
      case rel => exact ⟨w1.heap.size, rfl, KW, DW⟩
    · go_simp
      have AB : Below wd.heap.size wd (wd.alloc (.cells #[.string ⟨#[]⟩, .nilFunc, .nilFunc] 79)) := (Below.refl _ _).alloc (Nat.le_refl _) _
      have KV0 := box_new wd (.cells #[.string ⟨#[]⟩, .nilFunc, .nilFunc] 79)
      have hne := lt_of_heap KV0
      have D1 := Below.step C0 AB
      refine hK.out _ _ (HS.out _ D1) (fun hHeld => ?_)
      clear hK K
      generalize hwv : wd.alloc (.cells #[.string ⟨#[]⟩, .nilFunc, .nilFunc] 79) = w1 at *
      refine wpAnyH_ready (rs := [0]) (by kernel_rfl) (by simp) ?_
      refine AllReadyH.cons rfl (fun K hK => ?_) AllReadyH.nil
      go_simp
      refine (forms_r _).mono ?_
      rintro e w2 ⟨rfl, hw2⟩
      have B2 : Below w1.heap.size w1 w2 := by rw [hw2]; exact (Below.refl _ _).alloc (Nat.le_refl _) _
      have KF2 : w2.heap[w1.heap.size]? = some formsO := by rw [hw2]; exact box_new w1 _
      have D2 := Below.step D1 B2
      clear hw2
      have KV := box_below B2 KV0
      refine hK.out _ _ (HS.out _ D2) (fun hHeld => ?_)
      clear hK K
      refine wpAnyH_more (S' := fun w' => (w'.cell? ⟨w1.heap.size, 0, none⟩ = some (.string ⟨#[67, 82, 69, 65, 84, 69]⟩) ∧ w'.cell? ⟨w1.heap.size, 1, none⟩ = some (.func (.func 72) #[] #[]) ∧ w'.cell? ⟨w1.heap.size, 2, none⟩ = some (.func (.func 73) #[] #[])) ∧ w'.cell? ⟨w.heap.size, 0, none⟩ = some (.int .i64 0)) (fun _ h => h.2) _ _ _ _ ?_
      replace hHeld := And.intro (formAt0 KF2) hHeld
      refine tq 3 11 hHeld ?_
      refine tq 4 12 hHeld ?_
      obtain ⟨oz, ol⟩ := box8z KV
      obtain ⟨o0, o1, o2⟩ := bx3 KV
      have hlv : A.heap.size ≤ wd.heap.size := C0.size
      have KW : (((w2.setCell ⟨wd.heap.size, 0, none⟩ (.string ⟨#[67, 82, 69, 65, 84, 69]⟩)).setCell ⟨wd.heap.size, 1, none⟩ (.func (.func 72) #[] #[])).setCell ⟨wd.heap.size, 2, none⟩ (.func (.func 73) #[] #[])).heap[wd.heap.size]? = some (.cells #[.string ⟨#[67, 82, 69, 65, 84, 69]⟩, .func (.func 72) #[] #[], .func (.func 73) #[] #[]] 79 (0, 0)) := box_set (i := 2) (box_set (i := 1) (box_set (i := 0) KV))
      have DW : Below A.heap.size A (((w2.setCell ⟨wd.heap.size, 0, none⟩ (.string ⟨#[67, 82, 69, 65, 84, 69]⟩)).setCell ⟨wd.heap.size, 1, none⟩ (.func (.func 72) #[] #[])).setCell ⟨wd.heap.size, 2, none⟩ (.func (.func 73) #[] #[])) := ((D2.setCell (p := ⟨wd.heap.size, 0, none⟩) hlv _).setCell (p := ⟨wd.heap.size, 1, none⟩) hlv _).setCell (p := ⟨wd.heap.size, 2, none⟩) hlv _
      have KFW := box_other (i := 2) (v := .func (.func 73) #[] #[]) (box_other (i := 1) (v := .func (.func 72) #[] #[]) (box_other (i := 0) (v := .string ⟨#[67, 82, 69, 65, 84, 69]⟩) KF2 (show w1.heap.size ≠ wd.heap.size by omega)) (show w1.heap.size ≠ wd.heap.size by omega)) (show w1.heap.size ≠ wd.heap.size by omega)
      have st1 := run_storeF (P := Tryz.prog) (w2.setCell ⟨wd.heap.size, 0, none⟩ (.string ⟨#[67, 82, 69, 65, 84, 69]⟩)) wd.heap.size 1 _ _ (.func (.func 72) #[] #[]) (box_set (i := 0) KV) (by simp) rfl
      have st2 := run_storeF (P := Tryz.prog) ((w2.setCell ⟨wd.heap.size, 0, none⟩ (.string ⟨#[67, 82, 69, 65, 84, 69]⟩)).setCell ⟨wd.heap.size, 1, none⟩ (.func (.func 72) #[] #[])) wd.heap.size 2 _ _ (.func (.func 73) #[] #[]) (box_set (i := 1) (box_set (i := 0) KV)) (by simp) rfl
      refine wpAnyH_ready (rs := [6]) (by kernel_rfl) (by simp) ?_
      refine AllReadyH.cons rfl (fun K hK => ?_) AllReadyH.nil
      go_simp
      refine hK.out _ _ (⟨formAt0 KFW, HS.out _ DW⟩) (fun hHeld => ?_)
      clear hK K
      refine wpAnyH_done (by kernel_rfl) ?_ _
      go_wp2
      go_meet
      case rel => exact ⟨wd.heap.size, rfl, KW, DW⟩
  case rest =>
    obtain ⟨b4, rfl, K4, X4⟩ := hcut
    clear f0 f1 f2 f3 f4 f5 f6 f7 hlA HS C0
    have HS2 : Hid (∀ w', Below wc.heap.size wc w' → (w'.cell? ⟨b4, 0, none⟩ = some (.string ⟨#[67, 82, 69, 65, 84, 69]⟩) ∧ w'.cell? ⟨b4, 1, none⟩ = some (.func (.func 72) #[] #[]) ∧ w'.cell? ⟨b4, 2, none⟩ = some (.func (.func 73) #[] #[])) ∧ w'.cell? ⟨w.heap.size, 0, none⟩ = some (.int .i64 0) ∧ w'.cell? ⟨w.heap.size, 1, none⟩ = some (.slice a0 n0 c0) ∧ w'.cell? ⟨w.heap.size, 2, none⟩ = some (.slice a1 n1 c1) ∧ w'.cell? ⟨w.heap.size, 3, none⟩ = some (.int .i64 uid) ∧ w'.cell? ⟨w.heap.size, 4, none⟩ = some (.int .i64 mode) ∧ w'.cell? ⟨w.heap.size, 5, none⟩ = some (.int .i64 fl) ∧ w'.cell? ⟨w.heap.size, 6, none⟩ = some (.int .i64 si) ∧ w'.cell? ⟨w.heap.size, 7, none⟩ = some (.slice a2 n2 c2)) := by
      intro w' h
      obtain ⟨p0, p1, p2⟩ := bx3 (box_below h K4.out)
      exact ⟨⟨p0, p1, p2⟩, box8 (box_below h (box_below X4.out HK.out))⟩
    have XC : Hid (Below w.heap.size w wc) := Below.step XA.out X4.out
    have D0 : Below wc.heap.size wc wc.drew := (Below.refl _ _).drew
    have hsC := XC.out.size
    obtain ⟨p0, p1, p2⟩ := bx3 K4.out
    have hl4 := lt_of_heap K4.out
    obtain ⟨f0, f1, f2, f3, f4, f5, f6, f7⟩ := box8 (box_below X4.out HK.out)
    have hlA := lt_of_heap (box_below X4.out HK.out)
    go_wp2
    refine wp_region_held_drew (S := fun w' => (w'.cell? ⟨b4, 0, none⟩ = some (.string ⟨#[67, 82, 69, 65, 84, 69]⟩) ∧ w'.cell? ⟨b4, 1, none⟩ = some (.func (.func 72) #[] #[]) ∧ w'.cell? ⟨b4, 2, none⟩ = some (.func (.func 73) #[] #[])) ∧ w'.cell? ⟨w.heap.size, 0, none⟩ = some (.int .i64 0) ∧ w'.cell? ⟨w.heap.size, 1, none⟩ = some (.slice a0 n0 c0) ∧ w'.cell? ⟨w.heap.size, 2, none⟩ = some (.slice a1 n1 c1) ∧ w'.cell? ⟨w.heap.size, 3, none⟩ = some (.int .i64 uid) ∧ w'.cell? ⟨w.heap.size, 4, none⟩ = some (.int .i64 mode) ∧ w'.cell? ⟨w.heap.size, 5, none⟩ = some (.int .i64 fl) ∧ w'.cell? ⟨w.heap.size, 6, none⟩ = some (.int .i64 si) ∧ w'.cell? ⟨w.heap.size, 7, none⟩ = some (.slice a2 n2 c2)) (by kernel_rfl) (HS2.out _ D0) (fun hHeld => (show wpAnyH _ _ _ _ _ 9 #[false, false, false, false, false, false, false, false, false] _ _ from ?_))
    refine tq 0 13 hHeld ?_
    refine tq 1 14 hHeld ?_
    refine tq 2 15 hHeld ?_
    refine tq 3 16 hHeld ?_
    refine tq 4 17 hHeld ?_
    generalize hwd4 : wc.drew = wd4 at *
    refine wpAnyH_ready (rs := [5]) (by kernel_rfl) (by simp) ?_
    refine AllReadyH.cons rfl (fun K hK => ?_) AllReadyH.nil
    go_simp
    refine (HT.out _ (Below.step XC.out D0)).mono ?_
    rintro e w5 ⟨u5, rfl, R5, B5⟩
    have D5 := Below.step D0 B5
    refine hK.out _ _ (HS2.out _ D5) (fun hHeld => ?_)
    clear hK K
    refine wpAnyH_ready (rs := [6]) (by kernel_rfl) (by simp) ?_
    refine AllReadyH.cons rfl (fun K hK => ?_) AllReadyH.nil
    go_simp
    refine (putTokens_b w5.heap.size _ u5 [] (kindW 0) ss _ (OwnB.nil' _ _) (Nat.le_refl _) (by intro x hx; simp [kindW] at hx; omega) (fun wi h => R5.below keepsStr (h.below)) (by simp) (by decide) hsl hst).mono ?_
    rintro e w6 ⟨u6, rfl, R6, B6⟩
    have D6 : Below wc.heap.size wc w6 := Below.step D5 (B6.below)
    refine hK.out _ _ (HS2.out _ D6) (fun hHeld => ?_)
    clear hK K
    refine tq 7 2 hHeld ?_
    refine tq 8 3 hHeld ?_
    refine wpAnyH_done (by kernel_rfl) ?_ _
    have HF : Hid (Row w6 w.heap.size w6.heap.size u6 (kindW 0 ++ ss.flatMap tokB)) := by
      have h := R6.toRow
      have h5 := D5.size
      simp only [List.nil_append] at h
      exact h.wide (by omega) (Nat.le_refl _)
    have HB : Hid (Below w.heap.size w w6) := Below.step XC.out D6
    clear HS2 D0 D5 D6 R5 B5 R6 B6 hHeld
    go_wp2
    exact bodyPost_ret (v := .tuple #[u6, .bool true]) (by simp [results, Tryz.results21, go_sem]) rfl ⟨u6, rfl, HF.out, HB.out⟩

set_option maxRecDepth 100000 in
set_option maxHeartbeats 4000000 in
theorem implCmdText_1 (a0 a1 a2 : Option Addr) (n0 n1 n2 c0 c1 c2 : Nat) (bx tt : List Int) (uid mode fl si : Int) (tx : List Int) (w : World) (HV : Hid (∀ wi, Below w.heap.size w wi → CmdV wi (.agg #[.int .i64 1, .slice a0 n0 c0, .slice a1 n1 c1, .int .i64 uid, .int .i64 mode, .int .i64 fl, .int .i64 si, .slice a2 n2 c2]) 1 bx tt uid mode fl si tx)) (HO : Hid (∀ wi, Below w.heap.size w wi → Calls Tryz.prog 47 #[.agg #[.int .i64 1, .slice a0 n0 c0, .slice a1 n1 c1, .int .i64 uid, .int .i64 mode, .int .i64 fl, .int .i64 si, .slice a2 n2 c2]] wi fun e w' => e = .returned (.bool true) ∧ Below wi.heap.size wi w'))
    (ss : List (List Int)) (hsl : ss.length ≤ 100) (hst : ∀ s, s ∈ ss → s.length ≤ 1000)
    (HT : Hid (∀ wi, Below w.heap.size w wi → Calls Tryz.prog 73 #[.agg #[.int .i64 1, .slice a0 n0 c0, .slice a1 n1 c1, .int .i64 uid, .int .i64 mode, .int .i64 fl, .int .i64 si, .slice a2 n2 c2]] wi fun e w' => ∃ u, e = .returned u ∧ StrsV w' u ss ∧ Below wi.heap.size wi w')) :
    Calls Tryz.prog 21 #[.agg #[.int .i64 1, .slice a0 n0 c0, .slice a1 n1 c1, .int .i64 uid, .int .i64 mode, .int .i64 fl, .int .i64 si, .slice a2 n2 c2]] w fun e w' => ∃ u, e = .returned (.tuple #[u, .bool true]) ∧ Row w' w.heap.size w'.heap.size u (kindW 1 ++ ss.flatMap tokB) ∧ Below w.heap.size w w' := by
  have HX : Hid (Below w.heap.size w (w.alloc (.cells #[.int .i64 1, .slice a0 n0 c0, .slice a1 n1 c1, .int .i64 uid, .int .i64 mode, .int .i64 fl, .int .i64 si, .slice a2 n2 c2] 34))) := (Below.refl _ _).alloc (Nat.le_refl _) _
  have HK0 := box_new w (.cells #[.int .i64 1, .slice a0 n0 c0, .slice a1 n1 c1, .int .i64 uid, .int .i64 mode, .int .i64 fl, .int .i64 si, .slice a2 n2 c2] 34)
  go_enter Tryz.func21, Tryz.ntmps21
  go_wp2_with fail
  refine (HO.out _ HX.out).mono ?_
  rintro e A ⟨rfl, BA⟩
  have XA : Hid (Below w.heap.size w A) := Below.step HX.out BA
  have HK : Hid (A.heap[w.heap.size]? = some (.cells #[.int .i64 1, .slice a0 n0 c0, .slice a1 n1 c1, .int .i64 uid, .int .i64 mode, .int .i64 fl, .int .i64 si, .slice a2 n2 c2] 34)) := box_below BA HK0
  have hsA : w.heap.size ≤ A.heap.size := XA.out.size
  clear HK0 BA HX HO
  have HS : Hid (∀ w', Below A.heap.size A w' → w'.cell? ⟨w.heap.size, 0, none⟩ = some (.int .i64 1)) := fun w' h => (box8 (box_below h HK.out)).1
  have C0 : Below A.heap.size A A.drew := (Below.refl _ _).drew
  obtain ⟨f0, f1, f2, f3, f4, f5, f6, f7⟩ := box8 HK.out
  have hlA := lt_of_heap HK.out
  go_upto_region 3 with fail
  go_cut [4] (fun s wx => ∃ b, s = .pointer (some ⟨b, 0, none⟩) ∧ Hid (wx.heap[b]? = some (.cells #[.string ⟨#[68, 69, 76, 69, 84, 69]⟩, .func (.func 72) #[] #[], .func (.func 73) #[] #[]] 79 (0, 0))) ∧ Hid (Below A.heap.size A wx))
  case first =>
    clear f0 f1 f2 f3 f4 f5 f6 f7 hlA
    go_wp2
    refine wp_region_held_drew (S := fun w' => w'.cell? ⟨w.heap.size, 0, none⟩ = some (.int .i64 1)) (by kernel_rfl) (HS.out _ C0) (fun hHeld => (show wpAnyH _ _ _ _ _ 7 #[false, false, false, false, false, false, false] _ _ from ?_))
    refine tq 1 9 hHeld ?_
    refine tq 2 10 hHeld ?_
    generalize hwd : A.drew = wd at *
    refine wpAnyH_ready (rs := [0, 5]) (by kernel_rfl) (by simp) ?_
    refine AllReadyH.cons rfl (fun K hK => ?_) (AllReadyH.cons rfl (fun K hK => ?_) AllReadyH.nil)
    · go_simp
      refine (forms_r _).mono ?_
      rintro e w1 ⟨rfl, hw1⟩
      have B1 : Below wd.heap.size wd w1 := by rw [hw1]; exact (Below.refl _ _).alloc (Nat.le_refl _) _
      have KF1 : w1.heap[wd.heap.size]? = some formsO := by rw [hw1]; exact box_new wd _
      have D1 := Below.step C0 B1
      clear hw1
      refine hK.out _ _ (HS.out _ D1) (fun hHeld => ?_)
      clear hK K
      refine wpAnyH_more (S' := fun w' => (w'.cell? ⟨wd.heap.size, 3, none⟩ = some (.string ⟨#[68, 69, 76, 69, 84, 69]⟩) ∧ w'.cell? ⟨wd.heap.size, 4, none⟩ = some (.func (.func 72) #[] #[]) ∧ w'.cell? ⟨wd.heap.size, 5, none⟩ = some (.func (.func 73) #[] #[])) ∧ w'.cell? ⟨w.heap.size, 0, none⟩ = some (.int .i64 1)) (fun _ h => h.2) _ _ _ _ ?_
      replace hHeld := And.intro (formAt1 KF1) hHeld
      refine tq 3 11 hHeld ?_
      refine tq 4 12 hHeld ?_
      refine wpAnyH_ready (rs := [5]) (by kernel_rfl) (by simp) ?_
      refine AllReadyH.cons rfl (fun K hK => ?_) AllReadyH.nil
      go_simp
      have AB : Below w1.heap.size w1 (w1.alloc (.cells #[.string ⟨#[]⟩, .nilFunc, .nilFunc] 79)) := (Below.refl _ _).alloc (Nat.le_refl _) _
      have KV := box_new w1 (.cells #[.string ⟨#[]⟩, .nilFunc, .nilFunc] 79)
      have KF2 := box_below AB KF1
      have hne := lt_of_heap KF1
      have D2 := Below.step D1 AB
      refine hK.out _ _ (⟨formAt1 KF2, HS.out _ D2⟩) (fun hHeld => ?_)
      clear hK K
      generalize hwv : w1.alloc (.cells #[.string ⟨#[]⟩, .nilFunc, .nilFunc] 79) = w2 at *
      obtain ⟨oz, ol⟩ := box8z KV
      obtain ⟨o0, o1, o2⟩ := bx3 KV
      have hlv : A.heap.size ≤ w1.heap.size := D1.size
      have KW : (((w2.setCell ⟨w1.heap.size, 0, none⟩ (.string ⟨#[68, 69, 76, 69, 84, 69]⟩)).setCell ⟨w1.heap.size, 1, none⟩ (.func (.func 72) #[] #[])).setCell ⟨w1.heap.size, 2, none⟩ (.func (.func 73) #[] #[])).heap[w1.heap.size]? = some (.cells #[.string ⟨#[68, 69, 76, 69, 84, 69]⟩, .func (.func 72) #[] #[], .func (.func 73) #[] #[]] 79 (0, 0)) := box_set (i := 2) (box_set (i := 1) (box_set (i := 0) KV))
      have DW : Below A.heap.size A (((w2.setCell ⟨w1.heap.size, 0, none⟩ (.string ⟨#[68, 69, 76, 69, 84, 69]⟩)).setCell ⟨w1.heap.size, 1, none⟩ (.func (.func 72) #[] #[])).setCell ⟨w1.heap.size, 2, none⟩ (.func (.func 73) #[] #[])) := ((D2.setCell (p := ⟨w1.heap.size, 0, none⟩) hlv _).setCell (p := ⟨w1.heap.size, 1, none⟩) hlv _).setCell (p := ⟨w1.heap.size, 2, none⟩) hlv _
      have KFW := box_other (i := 2) (v := .func (.func 73) #[] #[]) (box_other (i := 1) (v := .func (.func 72) #[] #[]) (box_other (i := 0) (v := .string ⟨#[68, 69, 76, 69, 84, 69]⟩) KF2 (show wd.heap.size ≠ w1.heap.size by omega)) (show wd.heap.size ≠ w1.heap.size by omega)) (show wd.heap.size ≠ w1.heap.size by omega)
      have st1 := run_storeF (P := Tryz.prog) (w2.setCell ⟨w1.heap.size, 0, none⟩ (.string ⟨#[68, 69, 76, 69, 84, 69]⟩)) w1.heap.size 1 _ _ (.func (.func 72) #[] #[]) (box_set (i := 0) KV) (by simp) rfl
      have st2 := run_storeF (P := Tryz.prog) ((w2.setCell ⟨w1.heap.size, 0, none⟩ (.string ⟨#[68, 69, 76, 69, 84, 69]⟩)).setCell ⟨w1.heap.size, 1, none⟩ (.func (.func 72) #[] #[])) w1.heap.size 2 _ _ (.func (.func 73) #[] #[]) (box_set (i := 1) (box_set (i := 0) KV)) (by simp) rfl
      refine wpAnyH_ready (rs := [6]) (by kernel_rfl) (by simp) ?_
      refine AllReadyH.cons rfl (fun K hK => ?_) AllReadyH.nil
      go_simp
      refine hK.out _ _ (⟨formAt1 KFW, HS.out _ DW⟩) (fun hHeld => ?_)
      clear hK K
      refine wpAnyH_done (by kernel_rfl) ?_ _
      go_wp2
      go_meet
      case rel => exact ⟨w1.heap.size, rfl, KW, DW⟩
    · go_simp
      have AB : Below wd.heap.size wd (wd.alloc (.cells #[.string ⟨#[]⟩, .nilFunc, .nilFunc] 79)) := (Below.refl _ _).alloc (Nat.le_refl _) _
      have KV0 := box_new wd (.cells #[.string ⟨#[]⟩, .nilFunc, .nilFunc] 79)
      have hne := lt_of_heap KV0
      have D1 := Below.step C0 AB
      refine hK.out _ _ (HS.out _ D1) (fun hHeld => ?_)
      clear hK K
      generalize hwv : wd.alloc (.cells #[.string ⟨#[]⟩, .nilFunc, .nilFunc] 79) = w1 at *
      refine wpAnyH_ready (rs := [0]) (by kernel_rfl) (by simp) ?_
      refine AllReadyH.cons rfl (fun K hK => ?_) AllReadyH.nil
      go_simp
      refine (forms_r _).mono ?_
      rintro e w2 ⟨rfl, hw2⟩
      have B2 : Below w1.heap.size w1 w2 := by rw [hw2]; exact (Below.refl _ _).alloc (Nat.le_refl _) _
      have KF2 : w2.heap[w1.heap.size]? = some formsO := by rw [hw2]; exact box_new w1 _
      have D2 := Below.step D1 B2
      clear hw2
      have KV := box_below B2 KV0
      refine hK.out _ _ (HS.out _ D2) (fun hHeld => ?_)
      clear hK K
      refine wpAnyH_more (S' := fun w' => (w'.cell? ⟨w1.heap.size, 3, none⟩ = some (.string ⟨#[68, 69, 76, 69, 84, 69]⟩) ∧ w'.cell? ⟨w1.heap.size, 4, none⟩ = some (.func (.func 72) #[] #[]) ∧ w'.cell? ⟨w1.heap.size, 5, none⟩ = some (.func (.func 73) #[] #[])) ∧ w'.cell? ⟨w.heap.size, 0, none⟩ = some (.int .i64 1)) (fun _ h => h.2) _ _ _ _ ?_
      replace hHeld := And.intro (formAt1 KF2) hHeld
      refine tq 3 11 hHeld ?_
      refine tq 4 12 hHeld ?_
      obtain ⟨oz, ol⟩ := box8z KV
      obtain ⟨o0, o1, o2⟩ := bx3 KV
      have hlv : A.heap.size ≤ wd.heap.size := C0.size
      have KW : (((w2.setCell ⟨wd.heap.size, 0, none⟩ (.string ⟨#[68, 69, 76, 69, 84, 69]⟩)).setCell ⟨wd.heap.size, 1, none⟩ (.func (.func 72) #[] #[])).setCell ⟨wd.heap.size, 2, none⟩ (.func (.func 73) #[] #[])).heap[wd.heap.size]? = some (.cells #[.string ⟨#[68, 69, 76, 69, 84, 69]⟩, .func (.func 72) #[] #[], .func (.func 73) #[] #[]] 79 (0, 0)) := box_set (i := 2) (box_set (i := 1) (box_set (i := 0) KV))
      have DW : Below A.heap.size A (((w2.setCell ⟨wd.heap.size, 0, none⟩ (.string ⟨#[68, 69, 76, 69, 84, 69]⟩)).setCell ⟨wd.heap.size, 1, none⟩ (.func (.func 72) #[] #[])).setCell ⟨wd.heap.size, 2, none⟩ (.func (.func 73) #[] #[])) := ((D2.setCell (p := ⟨wd.heap.size, 0, none⟩) hlv _).setCell (p := ⟨wd.heap.size, 1, none⟩) hlv _).setCell (p := ⟨wd.heap.size, 2, none⟩) hlv _
      have KFW := box_other (i := 2) (v := .func (.func 73) #[] #[]) (box_other (i := 1) (v := .func (.func 72) #[] #[]) (box_other (i := 0) (v := .string ⟨#[68, 69, 76, 69, 84, 69]⟩) KF2 (show w1.heap.size ≠ wd.heap.size by omega)) (show w1.heap.size ≠ wd.heap.size by omega)) (show w1.heap.size ≠ wd.heap.size by omega)
      have st1 := run_storeF (P := Tryz.prog) (w2.setCell ⟨wd.heap.size, 0, none⟩ (.string ⟨#[68, 69, 76, 69, 84, 69]⟩)) wd.heap.size 1 _ _ (.func (.func 72) #[] #[]) (box_set (i := 0) KV) (by simp) rfl
      have st2 := run_storeF (P := Tryz.prog) ((w2.setCell ⟨wd.heap.size, 0, none⟩ (.string ⟨#[68, 69, 76, 69, 84, 69]⟩)).setCell ⟨wd.heap.size, 1, none⟩ (.func (.func 72) #[] #[])) wd.heap.size 2 _ _ (.func (.func 73) #[] #[]) (box_set (i := 1) (box_set (i := 0) KV)) (by simp) rfl
      refine wpAnyH_ready (rs := [6]) (by kernel_rfl) (by simp) ?_
      refine AllReadyH.cons rfl (fun K hK => ?_) AllReadyH.nil
      go_simp
      refine hK.out _ _ (⟨formAt1 KFW, HS.out _ DW⟩) (fun hHeld => ?_)
      clear hK K
      refine wpAnyH_done (by kernel_rfl) ?_ _
      go_wp2
      go_meet
      case rel => exact ⟨wd.heap.size, rfl, KW, DW⟩
  case rest =>
    obtain ⟨b4, rfl, K4, X4⟩ := hcut
    clear f0 f1 f2 f3 f4 f5 f6 f7 hlA HS C0
    have HS2 : Hid (∀ w', Below wc.heap.size wc w' → (w'.cell? ⟨b4, 0, none⟩ = some (.string ⟨#[68, 69, 76, 69, 84, 69]⟩) ∧ w'.cell? ⟨b4, 1, none⟩ = some (.func (.func 72) #[] #[]) ∧ w'.cell? ⟨b4, 2, none⟩ = some (.func (.func 73) #[] #[])) ∧ w'.cell? ⟨w.heap.size, 0, none⟩ = some (.int .i64 1) ∧ w'.cell? ⟨w.heap.size, 1, none⟩ = some (.slice a0 n0 c0) ∧ w'.cell? ⟨w.heap.size, 2, none⟩ = some (.slice a1 n1 c1) ∧ w'.cell? ⟨w.heap.size, 3, none⟩ = some (.int .i64 uid) ∧ w'.cell? ⟨w.heap.size, 4, none⟩ = some (.int .i64 mode) ∧ w'.cell? ⟨w.heap.size, 5, none⟩ = some (.int .i64 fl) ∧ w'.cell? ⟨w.heap.size, 6, none⟩ = some (.int .i64 si) ∧ w'.cell? ⟨w.heap.size, 7, none⟩ = some (.slice a2 n2 c2)) := by
      intro w' h
      obtain ⟨p0, p1, p2⟩ := bx3 (box_below h K4.out)
      exact ⟨⟨p0, p1, p2⟩, box8 (box_below h (box_below X4.out HK.out))⟩
    have XC : Hid (Below w.heap.size w wc) := Below.step XA.out X4.out
    have D0 : Below wc.heap.size wc wc.drew := (Below.refl _ _).drew
    have hsC := XC.out.size
    obtain ⟨p0, p1, p2⟩ := bx3 K4.out
    have hl4 := lt_of_heap K4.out
    obtain ⟨f0, f1, f2, f3, f4, f5, f6, f7⟩ := box8 (box_below X4.out HK.out)
    have hlA := lt_of_heap (box_below X4.out HK.out)
    go_wp2
    refine wp_region_held_drew (S := fun w' => (w'.cell? ⟨b4, 0, none⟩ = some (.string ⟨#[68, 69, 76, 69, 84, 69]⟩) ∧ w'.cell? ⟨b4, 1, none⟩ = some (.func (.func 72) #[] #[]) ∧ w'.cell? ⟨b4, 2, none⟩ = some (.func (.func 73) #[] #[])) ∧ w'.cell? ⟨w.heap.size, 0, none⟩ = some (.int .i64 1) ∧ w'.cell? ⟨w.heap.size, 1, none⟩ = some (.slice a0 n0 c0) ∧ w'.cell? ⟨w.heap.size, 2, none⟩ = some (.slice a1 n1 c1) ∧ w'.cell? ⟨w.heap.size, 3, none⟩ = some (.int .i64 uid) ∧ w'.cell? ⟨w.heap.size, 4, none⟩ = some (.int .i64 mode) ∧ w'.cell? ⟨w.heap.size, 5, none⟩ = some (.int .i64 fl) ∧ w'.cell? ⟨w.heap.size, 6, none⟩ = some (.int .i64 si) ∧ w'.cell? ⟨w.heap.size, 7, none⟩ = some (.slice a2 n2 c2)) (by kernel_rfl) (HS2.out _ D0) (fun hHeld => (show wpAnyH _ _ _ _ _ 9 #[false, false, false, false, false, false, false, false, false] _ _ from ?_))
    refine tq 0 13 hHeld ?_
    refine tq 1 14 hHeld ?_
    refine tq 2 15 hHeld ?_
    refine tq 3 16 hHeld ?_
    refine tq 4 17 hHeld ?_
    generalize hwd4 : wc.drew = wd4 at *
    refine wpAnyH_ready (rs := [5]) (by kernel_rfl) (by simp) ?_
    refine AllReadyH.cons rfl (fun K hK => ?_) AllReadyH.nil
    go_simp
    refine (HT.out _ (Below.step XC.out D0)).mono ?_
    rintro e w5 ⟨u5, rfl, R5, B5⟩
    have D5 := Below.step D0 B5
    refine hK.out _ _ (HS2.out _ D5) (fun hHeld => ?_)
    clear hK K
    refine wpAnyH_ready (rs := [6]) (by kernel_rfl) (by simp) ?_
    refine AllReadyH.cons rfl (fun K hK => ?_) AllReadyH.nil
    go_simp
    refine (putTokens_b w5.heap.size _ u5 [] (kindW 1) ss _ (OwnB.nil' _ _) (Nat.le_refl _) (by intro x hx; simp [kindW] at hx; omega) (fun wi h => R5.below keepsStr (h.below)) (by simp) (by decide) hsl hst).mono ?_
    rintro e w6 ⟨u6, rfl, R6, B6⟩
    have D6 : Below wc.heap.size wc w6 := Below.step D5 (B6.below)
    refine hK.out _ _ (HS2.out _ D6) (fun hHeld => ?_)
    clear hK K
    refine tq 7 2 hHeld ?_
    refine tq 8 3 hHeld ?_
    refine wpAnyH_done (by kernel_rfl) ?_ _
    have HF : Hid (Row w6 w.heap.size w6.heap.size u6 (kindW 1 ++ ss.flatMap tokB)) := by
      have h := R6.toRow
      have h5 := D5.size
      simp only [List.nil_append] at h
      exact h.wide (by omega) (Nat.le_refl _)
    have HB : Hid (Below w.heap.size w w6) := Below.step XC.out D6
    clear HS2 D0 D5 D6 R5 B5 R6 B6 hHeld
    go_wp2
    exact bodyPost_ret (v := .tuple #[u6, .bool true]) (by simp [results, Tryz.results21, go_sem]) rfl ⟨u6, rfl, HF.out, HB.out⟩

end Go.Proofs.YtifpjdpcmfneaaaGreatDoor

/- What CmdText of package impl does, kinds 2, 4. -/
namespace Go.Proofs.YtifpjdpcmfneaaaGreatDoor
open Go.RowKit
set_option maxRecDepth 100000
set_option linter.unusedVariables false

set_option maxRecDepth 100000 in
set_option maxHeartbeats 4000000 in
theorem implCmdText_2 (a0 a1 a2 : Option Addr) (n0 n1 n2 c0 c1 c2 : Nat) (bx tt : List Int) (uid mode fl si : Int) (tx : List Int) (w : World) (HV : Hid (∀ wi, Below w.heap.size w wi → CmdV wi (.agg #[.int .i64 2, .slice a0 n0 c0, .slice a1 n1 c1, .int .i64 uid, .int .i64 mode, .int .i64 fl, .int .i64 si, .slice a2 n2 c2]) 2 bx tt uid mode fl si tx)) (HO : Hid (∀ wi, Below w.heap.size w wi → Calls Tryz.prog 47 #[.agg #[.int .i64 2, .slice a0 n0 c0, .slice a1 n1 c1, .int .i64 uid, .int .i64 mode, .int .i64 fl, .int .i64 si, .slice a2 n2 c2]] wi fun e w' => e = .returned (.bool true) ∧ Below wi.heap.size wi w'))
    (ss : List (List Int)) (hsl : ss.length ≤ 100) (hst : ∀ s, s ∈ ss → s.length ≤ 1000)
    (HT : Hid (∀ wi, Below w.heap.size w wi → Calls Tryz.prog 75 #[.agg #[.int .i64 2, .slice a0 n0 c0, .slice a1 n1 c1, .int .i64 uid, .int .i64 mode, .int .i64 fl, .int .i64 si, .slice a2 n2 c2]] wi fun e w' => ∃ u, e = .returned u ∧ StrsV w' u ss ∧ Below wi.heap.size wi w')) :
    Calls Tryz.prog 21 #[.agg #[.int .i64 2, .slice a0 n0 c0, .slice a1 n1 c1, .int .i64 uid, .int .i64 mode, .int .i64 fl, .int .i64 si, .slice a2 n2 c2]] w fun e w' => ∃ u, e = .returned (.tuple #[u, .bool true]) ∧ Row w' w.heap.size w'.heap.size u (kindW 2 ++ ss.flatMap tokB) ∧ Below w.heap.size w w' := by
  have HX : Hid (Below w.heap.size w (w.alloc (.cells #[.int .i64 2, .slice a0 n0 c0, .slice a1 n1 c1, .int .i64 uid, .int .i64 mode, .int .i64 fl, .int .i64 si, .slice a2 n2 c2] 34))) := (Below.refl _ _).alloc (Nat.le_refl _) _
  have HK0 := box_new w (.cells #[.int .i64 2, .slice a0 n0 c0, .slice a1 n1 c1, .int .i64 uid, .int .i64 mode, .int .i64 fl, .int .i64 si, .slice a2 n2 c2] 34)
  go_enter Tryz.func21, Tryz.ntmps21
  go_wp2_with fail
  refine (HO.out _ HX.out).mono ?_
  rintro e A ⟨rfl, BA⟩
  have XA : Hid (Below w.heap.size w A) := Below.step HX.out BA
  have HK : Hid (A.heap[w.heap.size]? = some (.cells #[.int .i64 2, .slice a0 n0 c0, .slice a1 n1 c1, .int .i64 uid, .int .i64 mode, .int .i64 fl, .int .i64 si, .slice a2 n2 c2] 34)) := box_below BA HK0
  have hsA : w.heap.size ≤ A.heap.size := XA.out.size
  clear HK0 BA HX HO
  have HS : Hid (∀ w', Below A.heap.size A w' → w'.cell? ⟨w.heap.size, 0, none⟩ = some (.int .i64 2)) := fun w' h => (box8 (box_below h HK.out)).1
  have C0 : Below A.heap.size A A.drew := (Below.refl _ _).drew
  obtain ⟨f0, f1, f2, f3, f4, f5, f6, f7⟩ := box8 HK.out
  have hlA := lt_of_heap HK.out
  go_upto_region 3 with fail
  go_cut [4] (fun s wx => ∃ b, s = .pointer (some ⟨b, 0, none⟩) ∧ Hid (wx.heap[b]? = some (.cells #[.string ⟨#[65, 80, 80, 69, 78, 68]⟩, .func (.func 74) #[] #[], .func (.func 75) #[] #[]] 79 (0, 0))) ∧ Hid (Below A.heap.size A wx))
  case first =>
    clear f0 f1 f2 f3 f4 f5 f6 f7 hlA
    go_wp2
    refine wp_region_held_drew (S := fun w' => w'.cell? ⟨w.heap.size, 0, none⟩ = some (.int .i64 2)) (by kernel_rfl) (HS.out _ C0) (fun hHeld => (show wpAnyH _ _ _ _ _ 7 #[false, false, false, false, false, false, false] _ _ from ?_))
    refine tq 1 9 hHeld ?_
    refine tq 2 10 hHeld ?_
    generalize hwd : A.drew = wd at *
    refine wpAnyH_ready (rs := [0, 5]) (by kernel_rfl) (by simp) ?_
    refine AllReadyH.cons rfl (fun K hK => ?_) (AllReadyH.cons rfl (fun K hK => ?_) AllReadyH.nil)
    · go_simp
      refine (forms_r _).mono ?_
      rintro e w1 ⟨rfl, hw1⟩
      have B1 : Below wd.heap.size wd w1 := by rw [hw1]; exact (Below.refl _ _).alloc (Nat.le_refl _) _
      have KF1 : w1.heap[wd.heap.size]? = some formsO := by rw [hw1]; exact box_new wd _
      have D1 := Below.step C0 B1
      clear hw1
      refine hK.out _ _ (HS.out _ D1) (fun hHeld => ?_)
      clear hK K
      refine wpAnyH_more (S' := fun w' => (w'.cell? ⟨wd.heap.size, 6, none⟩ = some (.string ⟨#[65, 80, 80, 69, 78, 68]⟩) ∧ w'.cell? ⟨wd.heap.size, 7, none⟩ = some (.func (.func 74) #[] #[]) ∧ w'.cell? ⟨wd.heap.size, 8, none⟩ = some (.func (.func 75) #[] #[])) ∧ w'.cell? ⟨w.heap.size, 0, none⟩ = some (.int .i64 2)) (fun _ h => h.2) _ _ _ _ ?_
      replace hHeld := And.intro (formAt2 KF1) hHeld
      refine tq 3 11 hHeld ?_
      refine tq 4 12 hHeld ?_
      refine wpAnyH_ready (rs := [5]) (by kernel_rfl) (by simp) ?_
      refine AllReadyH.cons rfl (fun K hK => ?_) AllReadyH.nil
      go_simp
      have AB : Below w1.heap.size w1 (w1.alloc (.cells #[.string ⟨#[]⟩, .nilFunc, .nilFunc] 79)) := (Below.refl _ _).alloc (Nat.le_refl _) _
      have KV := box_new w1 (.cells #[.string ⟨#[]⟩, .nilFunc, .nilFunc] 79)
      have KF2 := box_below AB KF1
      have hne := lt_of_heap KF1
      have D2 := Below.step D1 AB
      refine hK.out _ _ (⟨formAt2 KF2, HS.out _ D2⟩) (fun hHeld => ?_)
      clear hK K
      generalize hwv : w1.alloc (.cells #[.string ⟨#[]⟩, .nilFunc, .nilFunc] 79) = w2 at *
      obtain ⟨oz, ol⟩ := box8z KV
      obtain ⟨o0, o1, o2⟩ := bx3 KV
      have hlv : A.heap.size ≤ w1.heap.size := D1.size
      have KW : (((w2.setCell ⟨w1.heap.size, 0, none⟩ (.string ⟨#[65, 80, 80, 69, 78, 68]⟩)).setCell ⟨w1.heap.size, 1, none⟩ (.func (.func 74) #[] #[])).setCell ⟨w1.heap.size, 2, none⟩ (.func (.func 75) #[] #[])).heap[w1.heap.size]? = some (.cells #[.string ⟨#[65, 80, 80, 69, 78, 68]⟩, .func (.func 74) #[] #[], .func (.func 75) #[] #[]] 79 (0, 0)) := box_set (i := 2) (box_set (i := 1) (box_set (i := 0) KV))
      have DW : Below A.heap.size A (((w2.setCell ⟨w1.heap.size, 0, none⟩ (.string ⟨#[65, 80, 80, 69, 78, 68]⟩)).setCell ⟨w1.heap.size, 1, none⟩ (.func (.func 74) #[] #[])).setCell ⟨w1.heap.size, 2, none⟩ (.func (.func 75) #[] #[])) := ((D2.setCell (p := ⟨w1.heap.size, 0, none⟩) hlv _).setCell (p := ⟨w1.heap.size, 1, none⟩) hlv _).setCell (p := ⟨w1.heap.size, 2, none⟩) hlv _
      have KFW := box_other (i := 2) (v := .func (.func 75) #[] #[]) (box_other (i := 1) (v := .func (.func 74) #[] #[]) (box_other (i := 0) (v := .string ⟨#[65, 80, 80, 69, 78, 68]⟩) KF2 (show wd.heap.size ≠ w1.heap.size by omega)) (show wd.heap.size ≠ w1.heap.size by omega)) (show wd.heap.size ≠ w1.heap.size by omega)
      have st1 := run_storeF (P := Tryz.prog) (w2.setCell ⟨w1.heap.size, 0, none⟩ (.string ⟨#[65, 80, 80, 69, 78, 68]⟩)) w1.heap.size 1 _ _ (.func (.func 74) #[] #[]) (box_set (i := 0) KV) (by simp) rfl
      have st2 := run_storeF (P := Tryz.prog) ((w2.setCell ⟨w1.heap.size, 0, none⟩ (.string ⟨#[65, 80, 80, 69, 78, 68]⟩)).setCell ⟨w1.heap.size, 1, none⟩ (.func (.func 74) #[] #[])) w1.heap.size 2 _ _ (.func (.func 75) #[] #[]) (box_set (i := 1) (box_set (i := 0) KV)) (by simp) rfl
      refine wpAnyH_ready (rs := [6]) (by kernel_rfl) (by simp) ?_
      refine AllReadyH.cons rfl (fun K hK => ?_) AllReadyH.nil
      go_simp
      refine hK.out _ _ (⟨formAt2 KFW, HS.out _ DW⟩) (fun hHeld => ?_)
      clear hK K
      refine wpAnyH_done (by kernel_rfl) ?_ _
      go_wp2
      go_meet
      case rel => exact ⟨w1.heap.size, rfl, KW, DW⟩
    · go_simp
      have AB : Below wd.heap.size wd (wd.alloc (.cells #[.string ⟨#[]⟩, .nilFunc, .nilFunc] 79)) := (Below.refl _ _).alloc (Nat.le_refl _) _
      have KV0 := box_new wd (.cells #[.string ⟨#[]⟩, .nilFunc, .nilFunc] 79)
      have hne := lt_of_heap KV0
      have D1 := Below.step C0 AB
      refine hK.out _ _ (HS.out _ D1) (fun hHeld => ?_)
      clear hK K
      generalize hwv : wd.alloc (.cells #[.string ⟨#[]⟩, .nilFunc, .nilFunc] 79) = w1 at *
      refine wpAnyH_ready (rs := [0]) (by kernel_rfl) (by simp) ?_
      refine AllReadyH.cons rfl (fun K hK => ?_) AllReadyH.nil
      go_simp
      refine (forms_r _).mono ?_
      rintro e w2 ⟨rfl, hw2⟩
      have B2 : Below w1.heap.size w1 w2 := by rw [hw2]; exact (Below.refl _ _).alloc (Nat.le_refl _) _
      have KF2 : w2.heap[w1.heap.size]? = some formsO := by rw [hw2]; exact box_new w1 _
      have D2 := Below.step D1 B2
      clear hw2
      have KV := box_below B2 KV0
      refine hK.out _ _ (HS.out _ D2) (fun hHeld => ?_)
      clear hK K
      refine wpAnyH_more (S' := fun w' => (w'.cell? ⟨w1.heap.size, 6, none⟩ = some (.string ⟨#[65, 80, 80, 69, 78, 68]⟩) ∧ w'.cell? ⟨w1.heap.size, 7, none⟩ = some (.func (.func 74) #[] #[]) ∧ w'.cell? ⟨w1.heap.size, 8, none⟩ = some (.func (.func 75) #[] #[])) ∧ w'.cell? ⟨w.heap.size, 0, none⟩ = some (.int .i64 2)) (fun _ h => h.2) _ _ _ _ ?_
      replace hHeld := And.intro (formAt2 KF2) hHeld
      refine tq 3 11 hHeld ?_
      refine tq 4 12 hHeld ?_
      obtain ⟨oz, ol⟩ := box8z KV
      obtain ⟨o0, o1, o2⟩ := bx3 KV
      have hlv : A.heap.size ≤ wd.heap.size := C0.size
      have KW : (((w2.setCell ⟨wd.heap.size, 0, none⟩ (.string ⟨#[65, 80, 80, 69, 78, 68]⟩)).setCell ⟨wd.heap.size, 1, none⟩ (.func (.func 74) #[] #[])).setCell ⟨wd.heap.size, 2, none⟩ (.func (.func 75) #[] #[])).heap[wd.heap.size]? = some (.cells #[.string ⟨#[65, 80, 80, 69, 78, 68]⟩, .func (.func 74) #[] #[], .func (.func 75) #[] #[]] 79 (0, 0)) := box_set (i := 2) (box_set (i := 1) (box_set (i := 0) KV))
      have DW : Below A.heap.size A (((w2.setCell ⟨wd.heap.size, 0, none⟩ (.string ⟨#[65, 80, 80, 69, 78, 68]⟩)).setCell ⟨wd.heap.size, 1, none⟩ (.func (.func 74) #[] #[])).setCell ⟨wd.heap.size, 2, none⟩ (.func (.func 75) #[] #[])) := ((D2.setCell (p := ⟨wd.heap.size, 0, none⟩) hlv _).setCell (p := ⟨wd.heap.size, 1, none⟩) hlv _).setCell (p := ⟨wd.heap.size, 2, none⟩) hlv _
      have KFW := box_other (i := 2) (v := .func (.func 75) #[] #[]) (box_other (i := 1) (v := .func (.func 74) #[] #[]) (box_other (i := 0) (v := .string ⟨#[65, 80, 80, 69, 78, 68]⟩) KF2 (show w1.heap.size ≠ wd.heap.size by omega)) (show w1.heap.size ≠ wd.heap.size by omega)) (show w1.heap.size ≠ wd.heap.size by omega)
      have st1 := run_storeF (P := Tryz.prog) (w2.setCell ⟨wd.heap.size, 0, none⟩ (.string ⟨#[65, 80, 80, 69, 78, 68]⟩)) wd.heap.size 1 _ _ (.func (.func 74) #[] #[]) (box_set (i := 0) KV) (by simp) rfl
      have st2 := run_storeF (P := Tryz.prog) ((w2.setCell ⟨wd.heap.size, 0, none⟩ (.string ⟨#[65, 80, 80, 69, 78, 68]⟩)).setCell ⟨wd.heap.size, 1, none⟩ (.func (.func 74) #[] #[])) wd.heap.size 2 _ _ (.func (.func 75) #[] #[]) (box_set (i := 1) (box_set (i := 0) KV)) (by simp) rfl
      refine wpAnyH_ready (rs := [6]) (by kernel_rfl) (by simp) ?_
      refine AllReadyH.cons rfl (fun K hK => ?_) AllReadyH.nil
      go_simp
      refine hK.out _ _ (⟨formAt2 KFW, HS.out _ DW⟩) (fun hHeld => ?_)
      clear hK K
      refine wpAnyH_done (by kernel_rfl) ?_ _
      go_wp2
      go_meet
      case rel => exact ⟨wd.heap.size, rfl, KW, DW⟩
  case rest =>
    obtain ⟨b4, rfl, K4, X4⟩ := hcut
    clear f0 f1 f2 f3 f4 f5 f6 f7 hlA HS C0
    have HS2 : Hid (∀ w', Below wc.heap.size wc w' → (w'.cell? ⟨b4, 0, none⟩ = some (.string ⟨#[65, 80, 80, 69, 78, 68]⟩) ∧ w'.cell? ⟨b4, 1, none⟩ = some (.func (.func 74) #[] #[]) ∧ w'.cell? ⟨b4, 2, none⟩ = some (.func (.func 75) #[] #[])) ∧ w'.cell? ⟨w.heap.size, 0, none⟩ = some (.int .i64 2) ∧ w'.cell? ⟨w.heap.size, 1, none⟩ = some (.slice a0 n0 c0) ∧ w'.cell? ⟨w.heap.size, 2, none⟩ = some (.slice a1 n1 c1) ∧ w'.cell? ⟨w.heap.size, 3, none⟩ = some (.int .i64 uid) ∧ w'.cell? ⟨w.heap.size, 4, none⟩ = some (.int .i64 mode) ∧ w'.cell? ⟨w.heap.size, 5, none⟩ = some (.int .i64 fl) ∧ w'.cell? ⟨w.heap.size, 6, none⟩ = some (.int .i64 si) ∧ w'.cell? ⟨w.heap.size, 7, none⟩ = some (.slice a2 n2 c2)) := by
      intro w' h
      obtain ⟨p0, p1, p2⟩ := bx3 (box_below h K4.out)
      exact ⟨⟨p0, p1, p2⟩, box8 (box_below h (box_below X4.out HK.out))⟩
    have XC : Hid (Below w.heap.size w wc) := Below.step XA.out X4.out
    have D0 : Below wc.heap.size wc wc.drew := (Below.refl _ _).drew
    have hsC := XC.out.size
    obtain ⟨p0, p1, p2⟩ := bx3 K4.out
    have hl4 := lt_of_heap K4.out
    obtain ⟨f0, f1, f2, f3, f4, f5, f6, f7⟩ := box8 (box_below X4.out HK.out)
    have hlA := lt_of_heap (box_below X4.out HK.out)
    go_wp2
    refine wp_region_held_drew (S := fun w' => (w'.cell? ⟨b4, 0, none⟩ = some (.string ⟨#[65, 80, 80, 69, 78, 68]⟩) ∧ w'.cell? ⟨b4, 1, none⟩ = some (.func (.func 74) #[] #[]) ∧ w'.cell? ⟨b4, 2, none⟩ = some (.func (.func 75) #[] #[])) ∧ w'.cell? ⟨w.heap.size, 0, none⟩ = some (.int .i64 2) ∧ w'.cell? ⟨w.heap.size, 1, none⟩ = some (.slice a0 n0 c0) ∧ w'.cell? ⟨w.heap.size, 2, none⟩ = some (.slice a1 n1 c1) ∧ w'.cell? ⟨w.heap.size, 3, none⟩ = some (.int .i64 uid) ∧ w'.cell? ⟨w.heap.size, 4, none⟩ = some (.int .i64 mode) ∧ w'.cell? ⟨w.heap.size, 5, none⟩ = some (.int .i64 fl) ∧ w'.cell? ⟨w.heap.size, 6, none⟩ = some (.int .i64 si) ∧ w'.cell? ⟨w.heap.size, 7, none⟩ = some (.slice a2 n2 c2)) (by kernel_rfl) (HS2.out _ D0) (fun hHeld => (show wpAnyH _ _ _ _ _ 9 #[false, false, false, false, false, false, false, false, false] _ _ from ?_))
    refine tq 0 13 hHeld ?_
    refine tq 1 14 hHeld ?_
    refine tq 2 15 hHeld ?_
    refine tq 3 16 hHeld ?_
    refine tq 4 17 hHeld ?_
    generalize hwd4 : wc.drew = wd4 at *
    refine wpAnyH_ready (rs := [5]) (by kernel_rfl) (by simp) ?_
    refine AllReadyH.cons rfl (fun K hK => ?_) AllReadyH.nil
    go_simp
    refine (HT.out _ (Below.step XC.out D0)).mono ?_
    rintro e w5 ⟨u5, rfl, R5, B5⟩
    have D5 := Below.step D0 B5
    refine hK.out _ _ (HS2.out _ D5) (fun hHeld => ?_)
    clear hK K
    refine wpAnyH_ready (rs := [6]) (by kernel_rfl) (by simp) ?_
    refine AllReadyH.cons rfl (fun K hK => ?_) AllReadyH.nil
    go_simp
    refine (putTokens_b w5.heap.size _ u5 [] (kindW 2) ss _ (OwnB.nil' _ _) (Nat.le_refl _) (by intro x hx; simp [kindW] at hx; omega) (fun wi h => R5.below keepsStr (h.below)) (by simp) (by decide) hsl hst).mono ?_
    rintro e w6 ⟨u6, rfl, R6, B6⟩
    have D6 : Below wc.heap.size wc w6 := Below.step D5 (B6.below)
    refine hK.out _ _ (HS2.out _ D6) (fun hHeld => ?_)
    clear hK K
    refine tq 7 2 hHeld ?_
    refine tq 8 3 hHeld ?_
    refine wpAnyH_done (by kernel_rfl) ?_ _
    have HF : Hid (Row w6 w.heap.size w6.heap.size u6 (kindW 2 ++ ss.flatMap tokB)) := by
      have h := R6.toRow
      have h5 := D5.size
      simp only [List.nil_append] at h
      exact h.wide (by omega) (Nat.le_refl _)
    have HB : Hid (Below w.heap.size w w6) := Below.step XC.out D6
    clear HS2 D0 D5 D6 R5 B5 R6 B6 hHeld
    go_wp2
    exact bodyPost_ret (v := .tuple #[u6, .bool true]) (by simp [results, Tryz.results21, go_sem]) rfl ⟨u6, rfl, HF.out, HB.out⟩

set_option maxRecDepth 100000 in
set_option maxHeartbeats 4000000 in
theorem implCmdText_4 (a0 a1 a2 : Option Addr) (n0 n1 n2 c0 c1 c2 : Nat) (bx tt : List Int) (uid mode fl si : Int) (tx : List Int) (w : World) (HV : Hid (∀ wi, Below w.heap.size w wi → CmdV wi (.agg #[.int .i64 4, .slice a0 n0 c0, .slice a1 n1 c1, .int .i64 uid, .int .i64 mode, .int .i64 fl, .int .i64 si, .slice a2 n2 c2]) 4 bx tt uid mode fl si tx)) (HO : Hid (∀ wi, Below w.heap.size w wi → Calls Tryz.prog 47 #[.agg #[.int .i64 4, .slice a0 n0 c0, .slice a1 n1 c1, .int .i64 uid, .int .i64 mode, .int .i64 fl, .int .i64 si, .slice a2 n2 c2]] wi fun e w' => e = .returned (.bool true) ∧ Below wi.heap.size wi w'))
    (ss : List (List Int)) (hsl : ss.length ≤ 100) (hst : ∀ s, s ∈ ss → s.length ≤ 1000)
    (HT : Hid (∀ wi, Below w.heap.size w wi → Calls Tryz.prog 73 #[.agg #[.int .i64 4, .slice a0 n0 c0, .slice a1 n1 c1, .int .i64 uid, .int .i64 mode, .int .i64 fl, .int .i64 si, .slice a2 n2 c2]] wi fun e w' => ∃ u, e = .returned u ∧ StrsV w' u ss ∧ Below wi.heap.size wi w')) :
    Calls Tryz.prog 21 #[.agg #[.int .i64 4, .slice a0 n0 c0, .slice a1 n1 c1, .int .i64 uid, .int .i64 mode, .int .i64 fl, .int .i64 si, .slice a2 n2 c2]] w fun e w' => ∃ u, e = .returned (.tuple #[u, .bool true]) ∧ Row w' w.heap.size w'.heap.size u (kindW 4 ++ ss.flatMap tokB) ∧ Below w.heap.size w w' := by
  have HX : Hid (Below w.heap.size w (w.alloc (.cells #[.int .i64 4, .slice a0 n0 c0, .slice a1 n1 c1, .int .i64 uid, .int .i64 mode, .int .i64 fl, .int .i64 si, .slice a2 n2 c2] 34))) := (Below.refl _ _).alloc (Nat.le_refl _) _
  have HK0 := box_new w (.cells #[.int .i64 4, .slice a0 n0 c0, .slice a1 n1 c1, .int .i64 uid, .int .i64 mode, .int .i64 fl, .int .i64 si, .slice a2 n2 c2] 34)
  go_enter Tryz.func21, Tryz.ntmps21
  go_wp2_with fail
  refine (HO.out _ HX.out).mono ?_
  rintro e A ⟨rfl, BA⟩
  have XA : Hid (Below w.heap.size w A) := Below.step HX.out BA
  have HK : Hid (A.heap[w.heap.size]? = some (.cells #[.int .i64 4, .slice a0 n0 c0, .slice a1 n1 c1, .int .i64 uid, .int .i64 mode, .int .i64 fl, .int .i64 si, .slice a2 n2 c2] 34)) := box_below BA HK0
  have hsA : w.heap.size ≤ A.heap.size := XA.out.size
  clear HK0 BA HX HO
  have HS : Hid (∀ w', Below A.heap.size A w' → w'.cell? ⟨w.heap.size, 0, none⟩ = some (.int .i64 4)) := fun w' h => (box8 (box_below h HK.out)).1
  have C0 : Below A.heap.size A A.drew := (Below.refl _ _).drew
  obtain ⟨f0, f1, f2, f3, f4, f5, f6, f7⟩ := box8 HK.out
  have hlA := lt_of_heap HK.out
  go_upto_region 3 with fail
  go_cut [4] (fun s wx => ∃ b, s = .pointer (some ⟨b, 0, none⟩) ∧ Hid (wx.heap[b]? = some (.cells #[.string ⟨#[69, 88, 80, 85, 78, 71, 69]⟩, .func (.func 72) #[] #[], .func (.func 73) #[] #[]] 79 (0, 0))) ∧ Hid (Below A.heap.size A wx))
  case first =>
    clear f0 f1 f2 f3 f4 f5 f6 f7 hlA
    go_wp2
    refine wp_region_held_drew (S := fun w' => w'.cell? ⟨w.heap.size, 0, none⟩ = some (.int .i64 4)) (by kernel_rfl) (HS.out _ C0) (fun hHeld => (show wpAnyH _ _ _ _ _ 7 #[false, false, false, false, false, false, false] _ _ from ?_))
    refine tq 1 9 hHeld ?_
    refine tq 2 10 hHeld ?_
    generalize hwd : A.drew = wd at *
    refine wpAnyH_ready (rs := [0, 5]) (by kernel_rfl) (by simp) ?_
    refine AllReadyH.cons rfl (fun K hK => ?_) (AllReadyH.cons rfl (fun K hK => ?_) AllReadyH.nil)
    · go_simp
      refine (forms_r _).mono ?_
      rintro e w1 ⟨rfl, hw1⟩
      have B1 : Below wd.heap.size wd w1 := by rw [hw1]; exact (Below.refl _ _).alloc (Nat.le_refl _) _
      have KF1 : w1.heap[wd.heap.size]? = some formsO := by rw [hw1]; exact box_new wd _
      have D1 := Below.step C0 B1
      clear hw1
      refine hK.out _ _ (HS.out _ D1) (fun hHeld => ?_)
      clear hK K
      refine wpAnyH_more (S' := fun w' => (w'.cell? ⟨wd.heap.size, 12, none⟩ = some (.string ⟨#[69, 88, 80, 85, 78, 71, 69]⟩) ∧ w'.cell? ⟨wd.heap.size, 13, none⟩ = some (.func (.func 72) #[] #[]) ∧ w'.cell? ⟨wd.heap.size, 14, none⟩ = some (.func (.func 73) #[] #[])) ∧ w'.cell? ⟨w.heap.size, 0, none⟩ = some (.int .i64 4)) (fun _ h => h.2) _ _ _ _ ?_
      replace hHeld := And.intro (formAt4 KF1) hHeld
      refine tq 3 11 hHeld ?_
      refine tq 4 12 hHeld ?_
      refine wpAnyH_ready (rs := [5]) (by kernel_rfl) (by simp) ?_
      refine AllReadyH.cons rfl (fun K hK => ?_) AllReadyH.nil
      go_simp
      have AB : Below w1.heap.size w1 (w1.alloc (.cells #[.string ⟨#[]⟩, .nilFunc, .nilFunc] 79)) := (Below.refl _ _).alloc (Nat.le_refl _) _
      have KV := box_new w1 (.cells #[.string ⟨#[]⟩, .nilFunc, .nilFunc] 79)
      have KF2 := box_below AB KF1
      have hne := lt_of_heap KF1
      have D2 := Below.step D1 AB
      refine hK.out _ _ (⟨formAt4 KF2, HS.out _ D2⟩) (fun hHeld => ?_)
      clear hK K
      generalize hwv : w1.alloc (.cells #[.string ⟨#[]⟩, .nilFunc, .nilFunc] 79) = w2 at *
      obtain ⟨oz, ol⟩ := box8z KV
      obtain ⟨o0, o1, o2⟩ := bx3 KV
      have hlv : A.heap.size ≤ w1.heap.size := D1.size
      have KW : (((w2.setCell ⟨w1.heap.size, 0, none⟩ (.string ⟨#[69, 88, 80, 85, 78, 71, 69]⟩)).setCell ⟨w1.heap.size, 1, none⟩ (.func (.func 72) #[] #[])).setCell ⟨w1.heap.size, 2, none⟩ (.func (.func 73) #[] #[])).heap[w1.heap.size]? = some (.cells #[.string ⟨#[69, 88, 80, 85, 78, 71, 69]⟩, .func (.func 72) #[] #[], .func (.func 73) #[] #[]] 79 (0, 0)) := box_set (i := 2) (box_set (i := 1) (box_set (i := 0) KV))
      have DW : Below A.heap.size A (((w2.setCell ⟨w1.heap.size, 0, none⟩ (.string ⟨#[69, 88, 80, 85, 78, 71, 69]⟩)).setCell ⟨w1.heap.size, 1, none⟩ (.func (.func 72) #[] #[])).setCell ⟨w1.heap.size, 2, none⟩ (.func (.func 73) #[] #[])) := ((D2.setCell (p := ⟨w1.heap.size, 0, none⟩) hlv _).setCell (p := ⟨w1.heap.size, 1, none⟩) hlv _).setCell (p := ⟨w1.heap.size, 2, none⟩) hlv _
      have KFW := box_other (i := 2) (v := .func (.func 73) #[] #[]) (box_other (i := 1) (v := .func (.func 72) #[] #[]) (box_other (i := 0) (v := .string ⟨#[69, 88, 80, 85, 78, 71, 69]⟩) KF2 (show wd.heap.size ≠ w1.heap.size by omega)) (show wd.heap.size ≠ w1.heap.size by omega)) (show wd.heap.size ≠ w1.heap.size by omega)
      have st1 := run_storeF (P := Tryz.prog) (w2.setCell ⟨w1.heap.size, 0, none⟩ (.string ⟨#[69, 88, 80, 85, 78, 71, 69]⟩)) w1.heap.size 1 _ _ (.func (.func 72) #[] #[]) (box_set (i := 0) KV) (by simp) rfl
      have st2 := run_storeF (P := Tryz.prog) ((w2.setCell ⟨w1.heap.size, 0, none⟩ (.string ⟨#[69, 88, 80, 85, 78, 71, 69]⟩)).setCell ⟨w1.heap.size, 1, none⟩ (.func (.func 72) #[] #[])) w1.heap.size 2 _ _ (.func (.func 73) #[] #[]) (box_set (i := 1) (box_set (i := 0) KV)) (by simp) rfl
      refine wpAnyH_ready (rs := [6]) (by kernel_rfl) (by simp) ?_
      refine AllReadyH.cons rfl (fun K hK => ?_) AllReadyH.nil
      go_simp
      refine hK.out _ _ (⟨formAt4 KFW, HS.out _ DW⟩) (fun hHeld => ?_)
      clear hK K
      refine wpAnyH_done (by kernel_rfl) ?_ _
      go_wp2
      go_meet
      case rel => exact ⟨w1.heap.size, rfl, KW, DW⟩
    · go_simp
      have AB : Below wd.heap.size wd (wd.alloc (.cells #[.string ⟨#[]⟩, .nilFunc, .nilFunc] 79)) := (Below.refl _ _).alloc (Nat.le_refl _) _
      have KV0 := box_new wd (.cells #[.string ⟨#[]⟩, .nilFunc, .nilFunc] 79)
      have hne := lt_of_heap KV0
      have D1 := Below.step C0 AB
      refine hK.out _ _ (HS.out _ D1) (fun hHeld => ?_)
      clear hK K
      generalize hwv : wd.alloc (.cells #[.string ⟨#[]⟩, .nilFunc, .nilFunc] 79) = w1 at *
      refine wpAnyH_ready (rs := [0]) (by kernel_rfl) (by simp) ?_
      refine AllReadyH.cons rfl (fun K hK => ?_) AllReadyH.nil
      go_simp
      refine (forms_r _).mono ?_
      rintro e w2 ⟨rfl, hw2⟩
      have B2 : Below w1.heap.size w1 w2 := by rw [hw2]; exact (Below.refl _ _).alloc (Nat.le_refl _) _
      have KF2 : w2.heap[w1.heap.size]? = some formsO := by rw [hw2]; exact box_new w1 _
      have D2 := Below.step D1 B2
      clear hw2
      have KV := box_below B2 KV0
      refine hK.out _ _ (HS.out _ D2) (fun hHeld => ?_)
      clear hK K
      refine wpAnyH_more (S' := fun w' => (w'.cell? ⟨w1.heap.size, 12, none⟩ = some (.string ⟨#[69, 88, 80, 85, 78, 71, 69]⟩) ∧ w'.cell? ⟨w1.heap.size, 13, none⟩ = some (.func (.func 72) #[] #[]) ∧ w'.cell? ⟨w1.heap.size, 14, none⟩ = some (.func (.func 73) #[] #[])) ∧ w'.cell? ⟨w.heap.size, 0, none⟩ = some (.int .i64 4)) (fun _ h => h.2) _ _ _ _ ?_
      replace hHeld := And.intro (formAt4 KF2) hHeld
      refine tq 3 11 hHeld ?_
      refine tq 4 12 hHeld ?_
      obtain ⟨oz, ol⟩ := box8z KV
      obtain ⟨o0, o1, o2⟩ := bx3 KV
      have hlv : A.heap.size ≤ wd.heap.size := C0.size
      have KW : (((w2.setCell ⟨wd.heap.size, 0, none⟩ (.string ⟨#[69, 88, 80, 85, 78, 71, 69]⟩)).setCell ⟨wd.heap.size, 1, none⟩ (.func (.func 72) #[] #[])).setCell ⟨wd.heap.size, 2, none⟩ (.func (.func 73) #[] #[])).heap[wd.heap.size]? = some (.cells #[.string ⟨#[69, 88, 80, 85, 78, 71, 69]⟩, .func (.func 72) #[] #[], .func (.func 73) #[] #[]] 79 (0, 0)) := box_set (i := 2) (box_set (i := 1) (box_set (i := 0) KV))
      have DW : Below A.heap.size A (((w2.setCell ⟨wd.heap.size, 0, none⟩ (.string ⟨#[69, 88, 80, 85, 78, 71, 69]⟩)).setCell ⟨wd.heap.size, 1, none⟩ (.func (.func 72) #[] #[])).setCell ⟨wd.heap.size, 2, none⟩ (.func (.func 73) #[] #[])) := ((D2.setCell (p := ⟨wd.heap.size, 0, none⟩) hlv _).setCell (p := ⟨wd.heap.size, 1, none⟩) hlv _).setCell (p := ⟨wd.heap.size, 2, none⟩) hlv _
      have KFW := box_other (i := 2) (v := .func (.func 73) #[] #[]) (box_other (i := 1) (v := .func (.func 72) #[] #[]) (box_other (i := 0) (v := .string ⟨#[69, 88, 80, 85, 78, 71, 69]⟩) KF2 (show w1.heap.size ≠ wd.heap.size by omega)) (show w1.heap.size ≠ wd.heap.size by omega)) (show w1.heap.size ≠ wd.heap.size by omega)
      have st1 := run_storeF (P := Tryz.prog) (w2.setCell ⟨wd.heap.size, 0, none⟩ (.string ⟨#[69, 88, 80, 85, 78, 71, 69]⟩)) wd.heap.size 1 _ _ (.func (.func 72) #[] #[]) (box_set (i := 0) KV) (by simp) rfl
      have st2 := run_storeF (P := Tryz.prog) ((w2.setCell ⟨wd.heap.size, 0, none⟩ (.string ⟨#[69, 88, 80, 85, 78, 71, 69]⟩)).setCell ⟨wd.heap.size, 1, none⟩ (.func (.func 72) #[] #[])) wd.heap.size 2 _ _ (.func (.func 73) #[] #[]) (box_set (i := 1) (box_set (i := 0) KV)) (by simp) rfl
      refine wpAnyH_ready (rs := [6]) (by kernel_rfl) (by simp) ?_
      refine AllReadyH.cons rfl (fun K hK => ?_) AllReadyH.nil
      go_simp
      refine hK.out _ _ (⟨formAt4 KFW, HS.out _ DW⟩) (fun hHeld => ?_)
      clear hK K
      refine wpAnyH_done (by kernel_rfl) ?_ _
      go_wp2
      go_meet
      case rel => exact ⟨wd.heap.size, rfl, KW, DW⟩
  case rest =>
    obtain ⟨b4, rfl, K4, X4⟩ := hcut
    clear f0 f1 f2 f3 f4 f5 f6 f7 hlA HS C0
    have HS2 : Hid (∀ w', Below wc.heap.size wc w' → (w'.cell? ⟨b4, 0, none⟩ = some (.string ⟨#[69, 88, 80, 85, 78, 71, 69]⟩) ∧ w'.cell? ⟨b4, 1, none⟩ = some (.func (.func 72) #[] #[]) ∧ w'.cell? ⟨b4, 2, none⟩ = some (.func (.func 73) #[] #[])) ∧ w'.cell? ⟨w.heap.size, 0, none⟩ = some (.int .i64 4) ∧ w'.cell? ⟨w.heap.size, 1, none⟩ = some (.slice a0 n0 c0) ∧ w'.cell? ⟨w.heap.size, 2, none⟩ = some (.slice a1 n1 c1) ∧ w'.cell? ⟨w.heap.size, 3, none⟩ = some (.int .i64 uid) ∧ w'.cell? ⟨w.heap.size, 4, none⟩ = some (.int .i64 mode) ∧ w'.cell? ⟨w.heap.size, 5, none⟩ = some (.int .i64 fl) ∧ w'.cell? ⟨w.heap.size, 6, none⟩ = some (.int .i64 si) ∧ w'.cell? ⟨w.heap.size, 7, none⟩ = some (.slice a2 n2 c2)) := by
      intro w' h
      obtain ⟨p0, p1, p2⟩ := bx3 (box_below h K4.out)
      exact ⟨⟨p0, p1, p2⟩, box8 (box_below h (box_below X4.out HK.out))⟩
    have XC : Hid (Below w.heap.size w wc) := Below.step XA.out X4.out
    have D0 : Below wc.heap.size wc wc.drew := (Below.refl _ _).drew
    have hsC := XC.out.size
    obtain ⟨p0, p1, p2⟩ := bx3 K4.out
    have hl4 := lt_of_heap K4.out
    obtain ⟨f0, f1, f2, f3, f4, f5, f6, f7⟩ := box8 (box_below X4.out HK.out)
    have hlA := lt_of_heap (box_below X4.out HK.out)
    go_wp2
    refine wp_region_held_drew (S := fun w' => (w'.cell? ⟨b4, 0, none⟩ = some (.string ⟨#[69, 88, 80, 85, 78, 71, 69]⟩) ∧ w'.cell? ⟨b4, 1, none⟩ = some (.func (.func 72) #[] #[]) ∧ w'.cell? ⟨b4, 2, none⟩ = some (.func (.func 73) #[] #[])) ∧ w'.cell? ⟨w.heap.size, 0, none⟩ = some (.int .i64 4) ∧ w'.cell? ⟨w.heap.size, 1, none⟩ = some (.slice a0 n0 c0) ∧ w'.cell? ⟨w.heap.size, 2, none⟩ = some (.slice a1 n1 c1) ∧ w'.cell? ⟨w.heap.size, 3, none⟩ = some (.int .i64 uid) ∧ w'.cell? ⟨w.heap.size, 4, none⟩ = some (.int .i64 mode) ∧ w'.cell? ⟨w.heap.size, 5, none⟩ = some (.int .i64 fl) ∧ w'.cell? ⟨w.heap.size, 6, none⟩ = some (.int .i64 si) ∧ w'.cell? ⟨w.heap.size, 7, none⟩ = some (.slice a2 n2 c2)) (by kernel_rfl) (HS2.out _ D0) (fun hHeld => (show wpAnyH _ _ _ _ _ 9 #[false, false, false, false, false, false, false, false, false] _ _ from ?_))
    refine tq 0 13 hHeld ?_
    refine tq 1 14 hHeld ?_
    refine tq 2 15 hHeld ?_
    refine tq 3 16 hHeld ?_
    refine tq 4 17 hHeld ?_
    generalize hwd4 : wc.drew = wd4 at *
    refine wpAnyH_ready (rs := [5]) (by kernel_rfl) (by simp) ?_
    refine AllReadyH.cons rfl (fun K hK => ?_) AllReadyH.nil
    go_simp
    refine (HT.out _ (Below.step XC.out D0)).mono ?_
    rintro e w5 ⟨u5, rfl, R5, B5⟩
    have D5 := Below.step D0 B5
    refine hK.out _ _ (HS2.out _ D5) (fun hHeld => ?_)
    clear hK K
    refine wpAnyH_ready (rs := [6]) (by kernel_rfl) (by simp) ?_
    refine AllReadyH.cons rfl (fun K hK => ?_) AllReadyH.nil
    go_simp
    refine (putTokens_b w5.heap.size _ u5 [] (kindW 4) ss _ (OwnB.nil' _ _) (Nat.le_refl _) (by intro x hx; simp [kindW] at hx; omega) (fun wi h => R5.below keepsStr (h.below)) (by simp) (by decide) hsl hst).mono ?_
    rintro e w6 ⟨u6, rfl, R6, B6⟩
    have D6 : Below wc.heap.size wc w6 := Below.step D5 (B6.below)
    refine hK.out _ _ (HS2.out _ D6) (fun hHeld => ?_)
    clear hK K
    refine tq 7 2 hHeld ?_
    refine tq 8 3 hHeld ?_
    refine wpAnyH_done (by kernel_rfl) ?_ _
    have HF : Hid (Row w6 w.heap.size w6.heap.size u6 (kindW 4 ++ ss.flatMap tokB)) := by
      have h := R6.toRow
      have h5 := D5.size
      simp only [List.nil_append] at h
      exact h.wide (by omega) (Nat.le_refl _)
    have HB : Hid (Below w.heap.size w w6) := Below.step XC.out D6
    clear HS2 D0 D5 D6 R5 B5 R6 B6 hHeld
    go_wp2
    exact bodyPost_ret (v := .tuple #[u6, .bool true]) (by simp [results, Tryz.results21, go_sem]) rfl ⟨u6, rfl, HF.out, HB.out⟩

end Go.Proofs.YtifpjdpcmfneaaaGreatDoor

/- What CmdText of package impl does, kinds 3, 5. -/
namespace Go.Proofs.YtifpjdpcmfneaaaGreatDoor
open Go.RowKit
set_option maxRecDepth 100000
set_option linter.unusedVariables false

set_option maxRecDepth 100000 in
set_option maxHeartbeats 4000000 in
theorem implCmdText_3 (a0 a1 a2 : Option Addr) (n0 n1 n2 c0 c1 c2 : Nat) (bx tt : List Int) (uid mode fl si : Int) (tx : List Int) (w : World) (HV : Hid (∀ wi, Below w.heap.size w wi → CmdV wi (.agg #[.int .i64 3, .slice a0 n0 c0, .slice a1 n1 c1, .int .i64 uid, .int .i64 mode, .int .i64 fl, .int .i64 si, .slice a2 n2 c2]) 3 bx tt uid mode fl si tx)) (HO : Hid (∀ wi, Below w.heap.size w wi → Calls Tryz.prog 47 #[.agg #[.int .i64 3, .slice a0 n0 c0, .slice a1 n1 c1, .int .i64 uid, .int .i64 mode, .int .i64 fl, .int .i64 si, .slice a2 n2 c2]] wi fun e w' => e = .returned (.bool true) ∧ Below wi.heap.size wi w'))
    (ss : List (List Int)) (hsl : ss.length ≤ 100) (hst : ∀ s, s ∈ ss → s.length ≤ 1000)
    (HT : Hid (∀ wi, Below w.heap.size w wi → Calls Tryz.prog 77 #[.agg #[.int .i64 3, .slice a0 n0 c0, .slice a1 n1 c1, .int .i64 uid, .int .i64 mode, .int .i64 fl, .int .i64 si, .slice a2 n2 c2]] wi fun e w' => ∃ u, e = .returned u ∧ StrsV w' u ss ∧ Below wi.heap.size wi w')) :
    Calls Tryz.prog 21 #[.agg #[.int .i64 3, .slice a0 n0 c0, .slice a1 n1 c1, .int .i64 uid, .int .i64 mode, .int .i64 fl, .int .i64 si, .slice a2 n2 c2]] w fun e w' => ∃ u, e = .returned (.tuple #[u, .bool true]) ∧ Row w' w.heap.size w'.heap.size u (kindW 3 ++ ss.flatMap tokB) ∧ Below w.heap.size w w' := by
  have HX : Hid (Below w.heap.size w (w.alloc (.cells #[.int .i64 3, .slice a0 n0 c0, .slice a1 n1 c1, .int .i64 uid, .int .i64 mode, .int .i64 fl, .int .i64 si, .slice a2 n2 c2] 34))) := (Below.refl _ _).alloc (Nat.le_refl _) _
  have HK0 := box_new w (.cells #[.int .i64 3, .slice a0 n0 c0, .slice a1 n1 c1, .int .i64 uid, .int .i64 mode, .int .i64 fl, .int .i64 si, .slice a2 n2 c2] 34)
  go_enter Tryz.func21, Tryz.ntmps21
  go_wp2_with fail
  refine (HO.out _ HX.out).mono ?_
  rintro e A ⟨rfl, BA⟩
  have XA : Hid (Below w.heap.size w A) := Below.step HX.out BA
  have HK : Hid (A.heap[w.heap.size]? = some (.cells #[.int .i64 3, .slice a0 n0 c0, .slice a1 n1 c1, .int .i64 uid, .int .i64 mode, .int .i64 fl, .int .i64 si, .slice a2 n2 c2] 34)) := box_below BA HK0
  have hsA : w.heap.size ≤ A.heap.size := XA.out.size
  clear HK0 BA HX HO
  have HS : Hid (∀ w', Below A.heap.size A w' → w'.cell? ⟨w.heap.size, 0, none⟩ = some (.int .i64 3)) := fun w' h => (box8 (box_below h HK.out)).1
  have C0 : Below A.heap.size A A.drew := (Below.refl _ _).drew
  obtain ⟨f0, f1, f2, f3, f4, f5, f6, f7⟩ := box8 HK.out
  have hlA := lt_of_heap HK.out
  go_upto_region 3 with fail
  go_cut [4] (fun s wx => ∃ b, s = .pointer (some ⟨b, 0, none⟩) ∧ Hid (wx.heap[b]? = some (.cells #[.string ⟨#[83, 84, 79, 82, 69]⟩, .func (.func 76) #[] #[], .func (.func 77) #[] #[]] 79 (0, 0))) ∧ Hid (Below A.heap.size A wx))
  case first =>
    clear f0 f1 f2 f3 f4 f5 f6 f7 hlA
    go_wp2
    refine wp_region_held_drew (S := fun w' => w'.cell? ⟨w.heap.size, 0, none⟩ = some (.int .i64 3)) (by kernel_rfl) (HS.out _ C0) (fun hHeld => (show wpAnyH _ _ _ _ _ 7 #[false, false, false, false, false, false, false] _ _ from ?_))
    refine tq 1 9 hHeld ?_
    refine tq 2 10 hHeld ?_
    generalize hwd : A.drew = wd at *
    refine wpAnyH_ready (rs := [0, 5]) (by kernel_rfl) (by simp) ?_
    refine AllReadyH.cons rfl (fun K hK => ?_) (AllReadyH.cons rfl (fun K hK => ?_) AllReadyH.nil)
    · go_simp
      refine (forms_r _).mono ?_
      rintro e w1 ⟨rfl, hw1⟩
      have B1 : Below wd.heap.size wd w1 := by rw [hw1]; exact (Below.refl _ _).alloc (Nat.le_refl _) _
      have KF1 : w1.heap[wd.heap.size]? = some formsO := by rw [hw1]; exact box_new wd _
      have D1 := Below.step C0 B1
      clear hw1
      refine hK.out _ _ (HS.out _ D1) (fun hHeld => ?_)
      clear hK K
      refine wpAnyH_more (S' := fun w' => (w'.cell? ⟨wd.heap.size, 9, none⟩ = some (.string ⟨#[83, 84, 79, 82, 69]⟩) ∧ w'.cell? ⟨wd.heap.size, 10, none⟩ = some (.func (.func 76) #[] #[]) ∧ w'.cell? ⟨wd.heap.size, 11, none⟩ = some (.func (.func 77) #[] #[])) ∧ w'.cell? ⟨w.heap.size, 0, none⟩ = some (.int .i64 3)) (fun _ h => h.2) _ _ _ _ ?_
      replace hHeld := And.intro (formAt3 KF1) hHeld
      refine tq 3 11 hHeld ?_
      refine tq 4 12 hHeld ?_
      refine wpAnyH_ready (rs := [5]) (by kernel_rfl) (by simp) ?_
      refine AllReadyH.cons rfl (fun K hK => ?_) AllReadyH.nil
      go_simp
      have AB : Below w1.heap.size w1 (w1.alloc (.cells #[.string ⟨#[]⟩, .nilFunc, .nilFunc] 79)) := (Below.refl _ _).alloc (Nat.le_refl _) _
      have KV := box_new w1 (.cells #[.string ⟨#[]⟩, .nilFunc, .nilFunc] 79)
      have KF2 := box_below AB KF1
      have hne := lt_of_heap KF1
      have D2 := Below.step D1 AB
      refine hK.out _ _ (⟨formAt3 KF2, HS.out _ D2⟩) (fun hHeld => ?_)
      clear hK K
      generalize hwv : w1.alloc (.cells #[.string ⟨#[]⟩, .nilFunc, .nilFunc] 79) = w2 at *
      obtain ⟨oz, ol⟩ := box8z KV
      obtain ⟨o0, o1, o2⟩ := bx3 KV
      have hlv : A.heap.size ≤ w1.heap.size := D1.size
      have KW : (((w2.setCell ⟨w1.heap.size, 0, none⟩ (.string ⟨#[83, 84, 79, 82, 69]⟩)).setCell ⟨w1.heap.size, 1, none⟩ (.func (.func 76) #[] #[])).setCell ⟨w1.heap.size, 2, none⟩ (.func (.func 77) #[] #[])).heap[w1.heap.size]? = some (.cells #[.string ⟨#[83, 84, 79, 82, 69]⟩, .func (.func 76) #[] #[], .func (.func 77) #[] #[]] 79 (0, 0)) := box_set (i := 2) (box_set (i := 1) (box_set (i := 0) KV))
      have DW : Below A.heap.size A (((w2.setCell ⟨w1.heap.size, 0, none⟩ (.string ⟨#[83, 84, 79, 82, 69]⟩)).setCell ⟨w1.heap.size, 1, none⟩ (.func (.func 76) #[] #[])).setCell ⟨w1.heap.size, 2, none⟩ (.func (.func 77) #[] #[])) := ((D2.setCell (p := ⟨w1.heap.size, 0, none⟩) hlv _).setCell (p := ⟨w1.heap.size, 1, none⟩) hlv _).setCell (p := ⟨w1.heap.size, 2, none⟩) hlv _
      have KFW := box_other (i := 2) (v := .func (.func 77) #[] #[]) (box_other (i := 1) (v := .func (.func 76) #[] #[]) (box_other (i := 0) (v := .string ⟨#[83, 84, 79, 82, 69]⟩) KF2 (show wd.heap.size ≠ w1.heap.size by omega)) (show wd.heap.size ≠ w1.heap.size by omega)) (show wd.heap.size ≠ w1.heap.size by omega)
      have st1 := run_storeF (P := Tryz.prog) (w2.setCell ⟨w1.heap.size, 0, none⟩ (.string ⟨#[83, 84, 79, 82, 69]⟩)) w1.heap.size 1 _ _ (.func (.func 76) #[] #[]) (box_set (i := 0) KV) (by simp) rfl
      have st2 := run_storeF (P := Tryz.prog) ((w2.setCell ⟨w1.heap.size, 0, none⟩ (.string ⟨#[83, 84, 79, 82, 69]⟩)).setCell ⟨w1.heap.size, 1, none⟩ (.func (.func 76) #[] #[])) w1.heap.size 2 _ _ (.func (.func 77) #[] #[]) (box_set (i := 1) (box_set (i := 0) KV)) (by simp) rfl
      refine wpAnyH_ready (rs := [6]) (by kernel_rfl) (by simp) ?_
      refine AllReadyH.cons rfl (fun K hK => ?_) AllReadyH.nil
      go_simp
      refine hK.out _ _ (⟨formAt3 KFW, HS.out _ DW⟩) (fun hHeld => ?_)
      clear hK K
      refine wpAnyH_done (by kernel_rfl) ?_ _
      go_wp2
      go_meet
      case rel => exact ⟨w1.heap.size, rfl, KW, DW⟩
    · go_simp
      have AB : Below wd.heap.size wd (wd.alloc (.cells #[.string ⟨#[]⟩, .nilFunc, .nilFunc] 79)) := (Below.refl _ _).alloc (Nat.le_refl _) _
      have KV0 := box_new wd (.cells #[.string ⟨#[]⟩, .nilFunc, .nilFunc] 79)
      have hne := lt_of_heap KV0
      have D1 := Below.step C0 AB
      refine hK.out _ _ (HS.out _ D1) (fun hHeld => ?_)
      clear hK K
      generalize hwv : wd.alloc (.cells #[.string ⟨#[]⟩, .nilFunc, .nilFunc] 79) = w1 at *
      refine wpAnyH_ready (rs := [0]) (by kernel_rfl) (by simp) ?_
      refine AllReadyH.cons rfl (fun K hK => ?_) AllReadyH.nil
      go_simp
      refine (forms_r _).mono ?_
      rintro e w2 ⟨rfl, hw2⟩
      have B2 : Below w1.heap.size w1 w2 := by rw [hw2]; exact (Below.refl _ _).alloc (Nat.le_refl _) _
      have KF2 : w2.heap[w1.heap.size]? = some formsO := by rw [hw2]; exact box_new w1 _
      have D2 := Below.step D1 B2
      clear hw2
      have KV := box_below B2 KV0
      refine hK.out _ _ (HS.out _ D2) (fun hHeld => ?_)
      clear hK K
      refine wpAnyH_more (S' := fun w' => (w'.cell? ⟨w1.heap.size, 9, none⟩ = some (.string ⟨#[83, 84, 79, 82, 69]⟩) ∧ w'.cell? ⟨w1.heap.size, 10, none⟩ = some (.func (.func 76) #[] #[]) ∧ w'.cell? ⟨w1.heap.size, 11, none⟩ = some (.func (.func 77) #[] #[])) ∧ w'.cell? ⟨w.heap.size, 0, none⟩ = some (.int .i64 3)) (fun _ h => h.2) _ _ _ _ ?_
      replace hHeld := And.intro (formAt3 KF2) hHeld
      refine tq 3 11 hHeld ?_
      refine tq 4 12 hHeld ?_
      obtain ⟨oz, ol⟩ := box8z KV
      obtain ⟨o0, o1, o2⟩ := bx3 KV
      have hlv : A.heap.size ≤ wd.heap.size := C0.size
      have KW : (((w2.setCell ⟨wd.heap.size, 0, none⟩ (.string ⟨#[83, 84, 79, 82, 69]⟩)).setCell ⟨wd.heap.size, 1, none⟩ (.func (.func 76) #[] #[])).setCell ⟨wd.heap.size, 2, none⟩ (.func (.func 77) #[] #[])).heap[wd.heap.size]? = some (.cells #[.string ⟨#[83, 84, 79, 82, 69]⟩, .func (.func 76) #[] #[], .func (.func 77) #[] #[]] 79 (0, 0)) := box_set (i := 2) (box_set (i := 1) (box_set (i := 0) KV))
      have DW : Below A.heap.size A (((w2.setCell ⟨wd.heap.size, 0, none⟩ (.string ⟨#[83, 84, 79, 82, 69]⟩)).setCell ⟨wd.heap.size, 1, none⟩ (.func (.func 76) #[] #[])).setCell ⟨wd.heap.size, 2, none⟩ (.func (.func 77) #[] #[])) := ((D2.setCell (p := ⟨wd.heap.size, 0, none⟩) hlv _).setCell (p := ⟨wd.heap.size, 1, none⟩) hlv _).setCell (p := ⟨wd.heap.size, 2, none⟩) hlv _
      have KFW := box_other (i := 2) (v := .func (.func 77) #[] #[]) (box_other (i := 1) (v := .func (.func 76) #[] #[]) (box_other (i := 0) (v := .string ⟨#[83, 84, 79, 82, 69]⟩) KF2 (show w1.heap.size ≠ wd.heap.size by omega)) (show w1.heap.size ≠ wd.heap.size by omega)) (show w1.heap.size ≠ wd.heap.size by omega)
      have st1 := run_storeF (P := Tryz.prog) (w2.setCell ⟨wd.heap.size, 0, none⟩ (.string ⟨#[83, 84, 79, 82, 69]⟩)) wd.heap.size 1 _ _ (.func (.func 76) #[] #[]) (box_set (i := 0) KV) (by simp) rfl
      have st2 := run_storeF (P := Tryz.prog) ((w2.setCell ⟨wd.heap.size, 0, none⟩ (.string ⟨#[83, 84, 79, 82, 69]⟩)).setCell ⟨wd.heap.size, 1, none⟩ (.func (.func 76) #[] #[])) wd.heap.size 2 _ _ (.func (.func 77) #[] #[]) (box_set (i := 1) (box_set (i := 0) KV)) (by simp) rfl
      refine wpAnyH_ready (rs := [6]) (by kernel_rfl) (by simp) ?_
      refine AllReadyH.cons rfl (fun K hK => ?_) AllReadyH.nil
      go_simp
      refine hK.out _ _ (⟨formAt3 KFW, HS.out _ DW⟩) (fun hHeld => ?_)
      clear hK K
      refine wpAnyH_done (by kernel_rfl) ?_ _
      go_wp2
      go_meet
      case rel => exact ⟨wd.heap.size, rfl, KW, DW⟩
  case rest =>
    obtain ⟨b4, rfl, K4, X4⟩ := hcut
    clear f0 f1 f2 f3 f4 f5 f6 f7 hlA HS C0
    have HS2 : Hid (∀ w', Below wc.heap.size wc w' → (w'.cell? ⟨b4, 0, none⟩ = some (.string ⟨#[83, 84, 79, 82, 69]⟩) ∧ w'.cell? ⟨b4, 1, none⟩ = some (.func (.func 76) #[] #[]) ∧ w'.cell? ⟨b4, 2, none⟩ = some (.func (.func 77) #[] #[])) ∧ w'.cell? ⟨w.heap.size, 0, none⟩ = some (.int .i64 3) ∧ w'.cell? ⟨w.heap.size, 1, none⟩ = some (.slice a0 n0 c0) ∧ w'.cell? ⟨w.heap.size, 2, none⟩ = some (.slice a1 n1 c1) ∧ w'.cell? ⟨w.heap.size, 3, none⟩ = some (.int .i64 uid) ∧ w'.cell? ⟨w.heap.size, 4, none⟩ = some (.int .i64 mode) ∧ w'.cell? ⟨w.heap.size, 5, none⟩ = some (.int .i64 fl) ∧ w'.cell? ⟨w.heap.size, 6, none⟩ = some (.int .i64 si) ∧ w'.cell? ⟨w.heap.size, 7, none⟩ = some (.slice a2 n2 c2)) := by
      intro w' h
      obtain ⟨p0, p1, p2⟩ := bx3 (box_below h K4.out)
      exact ⟨⟨p0, p1, p2⟩, box8 (box_below h (box_below X4.out HK.out))⟩
    have XC : Hid (Below w.heap.size w wc) := Below.step XA.out X4.out
    have D0 : Below wc.heap.size wc wc.drew := (Below.refl _ _).drew
    have hsC := XC.out.size
    obtain ⟨p0, p1, p2⟩ := bx3 K4.out
    have hl4 := lt_of_heap K4.out
    obtain ⟨f0, f1, f2, f3, f4, f5, f6, f7⟩ := box8 (box_below X4.out HK.out)
    have hlA := lt_of_heap (box_below X4.out HK.out)
    go_wp2
    refine wp_region_held_drew (S := fun w' => (w'.cell? ⟨b4, 0, none⟩ = some (.string ⟨#[83, 84, 79, 82, 69]⟩) ∧ w'.cell? ⟨b4, 1, none⟩ = some (.func (.func 76) #[] #[]) ∧ w'.cell? ⟨b4, 2, none⟩ = some (.func (.func 77) #[] #[])) ∧ w'.cell? ⟨w.heap.size, 0, none⟩ = some (.int .i64 3) ∧ w'.cell? ⟨w.heap.size, 1, none⟩ = some (.slice a0 n0 c0) ∧ w'.cell? ⟨w.heap.size, 2, none⟩ = some (.slice a1 n1 c1) ∧ w'.cell? ⟨w.heap.size, 3, none⟩ = some (.int .i64 uid) ∧ w'.cell? ⟨w.heap.size, 4, none⟩ = some (.int .i64 mode) ∧ w'.cell? ⟨w.heap.size, 5, none⟩ = some (.int .i64 fl) ∧ w'.cell? ⟨w.heap.size, 6, none⟩ = some (.int .i64 si) ∧ w'.cell? ⟨w.heap.size, 7, none⟩ = some (.slice a2 n2 c2)) (by kernel_rfl) (HS2.out _ D0) (fun hHeld => (show wpAnyH _ _ _ _ _ 9 #[false, false, false, false, false, false, false, false, false] _ _ from ?_))
    refine tq 0 13 hHeld ?_
    refine tq 1 14 hHeld ?_
    refine tq 2 15 hHeld ?_
    refine tq 3 16 hHeld ?_
    refine tq 4 17 hHeld ?_
    generalize hwd4 : wc.drew = wd4 at *
    refine wpAnyH_ready (rs := [5]) (by kernel_rfl) (by simp) ?_
    refine AllReadyH.cons rfl (fun K hK => ?_) AllReadyH.nil
    go_simp
    refine (HT.out _ (Below.step XC.out D0)).mono ?_
    rintro e w5 ⟨u5, rfl, R5, B5⟩
    have D5 := Below.step D0 B5
    refine hK.out _ _ (HS2.out _ D5) (fun hHeld => ?_)
    clear hK K
    refine wpAnyH_ready (rs := [6]) (by kernel_rfl) (by simp) ?_
    refine AllReadyH.cons rfl (fun K hK => ?_) AllReadyH.nil
    go_simp
    refine (putTokens_b w5.heap.size _ u5 [] (kindW 3) ss _ (OwnB.nil' _ _) (Nat.le_refl _) (by intro x hx; simp [kindW] at hx; omega) (fun wi h => R5.below keepsStr (h.below)) (by simp) (by decide) hsl hst).mono ?_
    rintro e w6 ⟨u6, rfl, R6, B6⟩
    have D6 : Below wc.heap.size wc w6 := Below.step D5 (B6.below)
    refine hK.out _ _ (HS2.out _ D6) (fun hHeld => ?_)
    clear hK K
    refine tq 7 2 hHeld ?_
    refine tq 8 3 hHeld ?_
    refine wpAnyH_done (by kernel_rfl) ?_ _
    have HF : Hid (Row w6 w.heap.size w6.heap.size u6 (kindW 3 ++ ss.flatMap tokB)) := by
      have h := R6.toRow
      have h5 := D5.size
      simp only [List.nil_append] at h
      exact h.wide (by omega) (Nat.le_refl _)
    have HB : Hid (Below w.heap.size w w6) := Below.step XC.out D6
    clear HS2 D0 D5 D6 R5 B5 R6 B6 hHeld
    go_wp2
    exact bodyPost_ret (v := .tuple #[u6, .bool true]) (by simp [results, Tryz.results21, go_sem]) rfl ⟨u6, rfl, HF.out, HB.out⟩

set_option maxRecDepth 100000 in
set_option maxHeartbeats 4000000 in
theorem implCmdText_5 (a0 a1 a2 : Option Addr) (n0 n1 n2 c0 c1 c2 : Nat) (bx tt : List Int) (uid mode fl si : Int) (tx : List Int) (w : World) (HV : Hid (∀ wi, Below w.heap.size w wi → CmdV wi (.agg #[.int .i64 5, .slice a0 n0 c0, .slice a1 n1 c1, .int .i64 uid, .int .i64 mode, .int .i64 fl, .int .i64 si, .slice a2 n2 c2]) 5 bx tt uid mode fl si tx)) (HO : Hid (∀ wi, Below w.heap.size w wi → Calls Tryz.prog 47 #[.agg #[.int .i64 5, .slice a0 n0 c0, .slice a1 n1 c1, .int .i64 uid, .int .i64 mode, .int .i64 fl, .int .i64 si, .slice a2 n2 c2]] wi fun e w' => e = .returned (.bool true) ∧ Below wi.heap.size wi w'))
    (ss : List (List Int)) (hsl : ss.length ≤ 100) (hst : ∀ s, s ∈ ss → s.length ≤ 1000)
    (HT : Hid (∀ wi, Below w.heap.size w wi → Calls Tryz.prog 79 #[.agg #[.int .i64 5, .slice a0 n0 c0, .slice a1 n1 c1, .int .i64 uid, .int .i64 mode, .int .i64 fl, .int .i64 si, .slice a2 n2 c2]] wi fun e w' => ∃ u, e = .returned u ∧ StrsV w' u ss ∧ Below wi.heap.size wi w')) :
    Calls Tryz.prog 21 #[.agg #[.int .i64 5, .slice a0 n0 c0, .slice a1 n1 c1, .int .i64 uid, .int .i64 mode, .int .i64 fl, .int .i64 si, .slice a2 n2 c2]] w fun e w' => ∃ u, e = .returned (.tuple #[u, .bool true]) ∧ Row w' w.heap.size w'.heap.size u (kindW 5 ++ ss.flatMap tokB) ∧ Below w.heap.size w w' := by
  have HX : Hid (Below w.heap.size w (w.alloc (.cells #[.int .i64 5, .slice a0 n0 c0, .slice a1 n1 c1, .int .i64 uid, .int .i64 mode, .int .i64 fl, .int .i64 si, .slice a2 n2 c2] 34))) := (Below.refl _ _).alloc (Nat.le_refl _) _
  have HK0 := box_new w (.cells #[.int .i64 5, .slice a0 n0 c0, .slice a1 n1 c1, .int .i64 uid, .int .i64 mode, .int .i64 fl, .int .i64 si, .slice a2 n2 c2] 34)
  go_enter Tryz.func21, Tryz.ntmps21
  go_wp2_with fail
  refine (HO.out _ HX.out).mono ?_
  rintro e A ⟨rfl, BA⟩
  have XA : Hid (Below w.heap.size w A) := Below.step HX.out BA
  have HK : Hid (A.heap[w.heap.size]? = some (.cells #[.int .i64 5, .slice a0 n0 c0, .slice a1 n1 c1, .int .i64 uid, .int .i64 mode, .int .i64 fl, .int .i64 si, .slice a2 n2 c2] 34)) := box_below BA HK0
  have hsA : w.heap.size ≤ A.heap.size := XA.out.size
  clear HK0 BA HX HO
  have HS : Hid (∀ w', Below A.heap.size A w' → w'.cell? ⟨w.heap.size, 0, none⟩ = some (.int .i64 5)) := fun w' h => (box8 (box_below h HK.out)).1
  have C0 : Below A.heap.size A A.drew := (Below.refl _ _).drew
  obtain ⟨f0, f1, f2, f3, f4, f5, f6, f7⟩ := box8 HK.out
  have hlA := lt_of_heap HK.out
  go_upto_region 3 with fail
  go_cut [4] (fun s wx => ∃ b, s = .pointer (some ⟨b, 0, none⟩) ∧ Hid (wx.heap[b]? = some (.cells #[.string ⟨#[70, 69, 84, 67, 72]⟩, .func (.func 78) #[] #[], .func (.func 79) #[] #[]] 79 (0, 0))) ∧ Hid (Below A.heap.size A wx))
  case first =>
    clear f0 f1 f2 f3 f4 f5 f6 f7 hlA
    go_wp2
    refine wp_region_held_drew (S := fun w' => w'.cell? ⟨w.heap.size, 0, none⟩ = some (.int .i64 5)) (by kernel_rfl) (HS.out _ C0) (fun hHeld => (show wpAnyH _ _ _ _ _ 7 #[false, false, false, false, false, false, false] _ _ from ?_))
    refine tq 1 9 hHeld ?_
    refine tq 2 10 hHeld ?_
    generalize hwd : A.drew = wd at *
    refine wpAnyH_ready (rs := [0, 5]) (by kernel_rfl) (by simp) ?_
    refine AllReadyH.cons rfl (fun K hK => ?_) (AllReadyH.cons rfl (fun K hK => ?_) AllReadyH.nil)
    · go_simp
      refine (forms_r _).mono ?_
      rintro e w1 ⟨rfl, hw1⟩
      have B1 : Below wd.heap.size wd w1 := by rw [hw1]; exact (Below.refl _ _).alloc (Nat.le_refl _) _
      have KF1 : w1.heap[wd.heap.size]? = some formsO := by rw [hw1]; exact box_new wd _
      have D1 := Below.step C0 B1
      clear hw1
      refine hK.out _ _ (HS.out _ D1) (fun hHeld => ?_)
      clear hK K
      refine wpAnyH_more (S' := fun w' => (w'.cell? ⟨wd.heap.size, 15, none⟩ = some (.string ⟨#[70, 69, 84, 67, 72]⟩) ∧ w'.cell? ⟨wd.heap.size, 16, none⟩ = some (.func (.func 78) #[] #[]) ∧ w'.cell? ⟨wd.heap.size, 17, none⟩ = some (.func (.func 79) #[] #[])) ∧ w'.cell? ⟨w.heap.size, 0, none⟩ = some (.int .i64 5)) (fun _ h => h.2) _ _ _ _ ?_
      replace hHeld := And.intro (formAt5 KF1) hHeld
      refine tq 3 11 hHeld ?_
      refine tq 4 12 hHeld ?_
      refine wpAnyH_ready (rs := [5]) (by kernel_rfl) (by simp) ?_
      refine AllReadyH.cons rfl (fun K hK => ?_) AllReadyH.nil
      go_simp
      have AB : Below w1.heap.size w1 (w1.alloc (.cells #[.string ⟨#[]⟩, .nilFunc, .nilFunc] 79)) := (Below.refl _ _).alloc (Nat.le_refl _) _
      have KV := box_new w1 (.cells #[.string ⟨#[]⟩, .nilFunc, .nilFunc] 79)
      have KF2 := box_below AB KF1
      have hne := lt_of_heap KF1
      have D2 := Below.step D1 AB
      refine hK.out _ _ (⟨formAt5 KF2, HS.out _ D2⟩) (fun hHeld => ?_)
      clear hK K
      generalize hwv : w1.alloc (.cells #[.string ⟨#[]⟩, .nilFunc, .nilFunc] 79) = w2 at *
      obtain ⟨oz, ol⟩ := box8z KV
      obtain ⟨o0, o1, o2⟩ := bx3 KV
      have hlv : A.heap.size ≤ w1.heap.size := D1.size
      have KW : (((w2.setCell ⟨w1.heap.size, 0, none⟩ (.string ⟨#[70, 69, 84, 67, 72]⟩)).setCell ⟨w1.heap.size, 1, none⟩ (.func (.func 78) #[] #[])).setCell ⟨w1.heap.size, 2, none⟩ (.func (.func 79) #[] #[])).heap[w1.heap.size]? = some (.cells #[.string ⟨#[70, 69, 84, 67, 72]⟩, .func (.func 78) #[] #[], .func (.func 79) #[] #[]] 79 (0, 0)) := box_set (i := 2) (box_set (i := 1) (box_set (i := 0) KV))
      have DW : Below A.heap.size A (((w2.setCell ⟨w1.heap.size, 0, none⟩ (.string ⟨#[70, 69, 84, 67, 72]⟩)).setCell ⟨w1.heap.size, 1, none⟩ (.func (.func 78) #[] #[])).setCell ⟨w1.heap.size, 2, none⟩ (.func (.func 79) #[] #[])) := ((D2.setCell (p := ⟨w1.heap.size, 0, none⟩) hlv _).setCell (p := ⟨w1.heap.size, 1, none⟩) hlv _).setCell (p := ⟨w1.heap.size, 2, none⟩) hlv _
      have KFW := box_other (i := 2) (v := .func (.func 79) #[] #[]) (box_other (i := 1) (v := .func (.func 78) #[] #[]) (box_other (i := 0) (v := .string ⟨#[70, 69, 84, 67, 72]⟩) KF2 (show wd.heap.size ≠ w1.heap.size by omega)) (show wd.heap.size ≠ w1.heap.size by omega)) (show wd.heap.size ≠ w1.heap.size by omega)
      have st1 := run_storeF (P := Tryz.prog) (w2.setCell ⟨w1.heap.size, 0, none⟩ (.string ⟨#[70, 69, 84, 67, 72]⟩)) w1.heap.size 1 _ _ (.func (.func 78) #[] #[]) (box_set (i := 0) KV) (by simp) rfl
      have st2 := run_storeF (P := Tryz.prog) ((w2.setCell ⟨w1.heap.size, 0, none⟩ (.string ⟨#[70, 69, 84, 67, 72]⟩)).setCell ⟨w1.heap.size, 1, none⟩ (.func (.func 78) #[] #[])) w1.heap.size 2 _ _ (.func (.func 79) #[] #[]) (box_set (i := 1) (box_set (i := 0) KV)) (by simp) rfl
      refine wpAnyH_ready (rs := [6]) (by kernel_rfl) (by simp) ?_
      refine AllReadyH.cons rfl (fun K hK => ?_) AllReadyH.nil
      go_simp
      refine hK.out _ _ (⟨formAt5 KFW, HS.out _ DW⟩) (fun hHeld => ?_)
      clear hK K
      refine wpAnyH_done (by kernel_rfl) ?_ _
      go_wp2
      go_meet
      case rel => exact ⟨w1.heap.size, rfl, KW, DW⟩
    · go_simp
      have AB : Below wd.heap.size wd (wd.alloc (.cells #[.string ⟨#[]⟩, .nilFunc, .nilFunc] 79)) := (Below.refl _ _).alloc (Nat.le_refl _) _
      have KV0 := box_new wd (.cells #[.string ⟨#[]⟩, .nilFunc, .nilFunc] 79)
      have hne := lt_of_heap KV0
      have D1 := Below.step C0 AB
      refine hK.out _ _ (HS.out _ D1) (fun hHeld => ?_)
      clear hK K
      generalize hwv : wd.alloc (.cells #[.string ⟨#[]⟩, .nilFunc, .nilFunc] 79) = w1 at *
      refine wpAnyH_ready (rs := [0]) (by kernel_rfl) (by simp) ?_
      refine AllReadyH.cons rfl (fun K hK => ?_) AllReadyH.nil
      go_simp
      refine (forms_r _).mono ?_
      rintro e w2 ⟨rfl, hw2⟩
      have B2 : Below w1.heap.size w1 w2 := by rw [hw2]; exact (Below.refl _ _).alloc (Nat.le_refl _) _
      have KF2 : w2.heap[w1.heap.size]? = some formsO := by rw [hw2]; exact box_new w1 _
      have D2 := Below.step D1 B2
      clear hw2
      have KV := box_below B2 KV0
      refine hK.out _ _ (HS.out _ D2) (fun hHeld => ?_)
      clear hK K
      refine wpAnyH_more (S' := fun w' => (w'.cell? ⟨w1.heap.size, 15, none⟩ = some (.string ⟨#[70, 69, 84, 67, 72]⟩) ∧ w'.cell? ⟨w1.heap.size, 16, none⟩ = some (.func (.func 78) #[] #[]) ∧ w'.cell? ⟨w1.heap.size, 17, none⟩ = some (.func (.func 79) #[] #[])) ∧ w'.cell? ⟨w.heap.size, 0, none⟩ = some (.int .i64 5)) (fun _ h => h.2) _ _ _ _ ?_
      replace hHeld := And.intro (formAt5 KF2) hHeld
      refine tq 3 11 hHeld ?_
      refine tq 4 12 hHeld ?_
      obtain ⟨oz, ol⟩ := box8z KV
      obtain ⟨o0, o1, o2⟩ := bx3 KV
      have hlv : A.heap.size ≤ wd.heap.size := C0.size
      have KW : (((w2.setCell ⟨wd.heap.size, 0, none⟩ (.string ⟨#[70, 69, 84, 67, 72]⟩)).setCell ⟨wd.heap.size, 1, none⟩ (.func (.func 78) #[] #[])).setCell ⟨wd.heap.size, 2, none⟩ (.func (.func 79) #[] #[])).heap[wd.heap.size]? = some (.cells #[.string ⟨#[70, 69, 84, 67, 72]⟩, .func (.func 78) #[] #[], .func (.func 79) #[] #[]] 79 (0, 0)) := box_set (i := 2) (box_set (i := 1) (box_set (i := 0) KV))
      have DW : Below A.heap.size A (((w2.setCell ⟨wd.heap.size, 0, none⟩ (.string ⟨#[70, 69, 84, 67, 72]⟩)).setCell ⟨wd.heap.size, 1, none⟩ (.func (.func 78) #[] #[])).setCell ⟨wd.heap.size, 2, none⟩ (.func (.func 79) #[] #[])) := ((D2.setCell (p := ⟨wd.heap.size, 0, none⟩) hlv _).setCell (p := ⟨wd.heap.size, 1, none⟩) hlv _).setCell (p := ⟨wd.heap.size, 2, none⟩) hlv _
      have KFW := box_other (i := 2) (v := .func (.func 79) #[] #[]) (box_other (i := 1) (v := .func (.func 78) #[] #[]) (box_other (i := 0) (v := .string ⟨#[70, 69, 84, 67, 72]⟩) KF2 (show w1.heap.size ≠ wd.heap.size by omega)) (show w1.heap.size ≠ wd.heap.size by omega)) (show w1.heap.size ≠ wd.heap.size by omega)
      have st1 := run_storeF (P := Tryz.prog) (w2.setCell ⟨wd.heap.size, 0, none⟩ (.string ⟨#[70, 69, 84, 67, 72]⟩)) wd.heap.size 1 _ _ (.func (.func 78) #[] #[]) (box_set (i := 0) KV) (by simp) rfl
      have st2 := run_storeF (P := Tryz.prog) ((w2.setCell ⟨wd.heap.size, 0, none⟩ (.string ⟨#[70, 69, 84, 67, 72]⟩)).setCell ⟨wd.heap.size, 1, none⟩ (.func (.func 78) #[] #[])) wd.heap.size 2 _ _ (.func (.func 79) #[] #[]) (box_set (i := 1) (box_set (i := 0) KV)) (by simp) rfl
      refine wpAnyH_ready (rs := [6]) (by kernel_rfl) (by simp) ?_
      refine AllReadyH.cons rfl (fun K hK => ?_) AllReadyH.nil
      go_simp
      refine hK.out _ _ (⟨formAt5 KFW, HS.out _ DW⟩) (fun hHeld => ?_)
      clear hK K
      refine wpAnyH_done (by kernel_rfl) ?_ _
      go_wp2
      go_meet
      case rel => exact ⟨wd.heap.size, rfl, KW, DW⟩
  case rest =>
    obtain ⟨b4, rfl, K4, X4⟩ := hcut
    clear f0 f1 f2 f3 f4 f5 f6 f7 hlA HS C0
    have HS2 : Hid (∀ w', Below wc.heap.size wc w' → (w'.cell? ⟨b4, 0, none⟩ = some (.string ⟨#[70, 69, 84, 67, 72]⟩) ∧ w'.cell? ⟨b4, 1, none⟩ = some (.func (.func 78) #[] #[]) ∧ w'.cell? ⟨b4, 2, none⟩ = some (.func (.func 79) #[] #[])) ∧ w'.cell? ⟨w.heap.size, 0, none⟩ = some (.int .i64 5) ∧ w'.cell? ⟨w.heap.size, 1, none⟩ = some (.slice a0 n0 c0) ∧ w'.cell? ⟨w.heap.size, 2, none⟩ = some (.slice a1 n1 c1) ∧ w'.cell? ⟨w.heap.size, 3, none⟩ = some (.int .i64 uid) ∧ w'.cell? ⟨w.heap.size, 4, none⟩ = some (.int .i64 mode) ∧ w'.cell? ⟨w.heap.size, 5, none⟩ = some (.int .i64 fl) ∧ w'.cell? ⟨w.heap.size, 6, none⟩ = some (.int .i64 si) ∧ w'.cell? ⟨w.heap.size, 7, none⟩ = some (.slice a2 n2 c2)) := by
      intro w' h
      obtain ⟨p0, p1, p2⟩ := bx3 (box_below h K4.out)
      exact ⟨⟨p0, p1, p2⟩, box8 (box_below h (box_below X4.out HK.out))⟩
    have XC : Hid (Below w.heap.size w wc) := Below.step XA.out X4.out
    have D0 : Below wc.heap.size wc wc.drew := (Below.refl _ _).drew
    have hsC := XC.out.size
    obtain ⟨p0, p1, p2⟩ := bx3 K4.out
    have hl4 := lt_of_heap K4.out
    obtain ⟨f0, f1, f2, f3, f4, f5, f6, f7⟩ := box8 (box_below X4.out HK.out)
    have hlA := lt_of_heap (box_below X4.out HK.out)
    go_wp2
    refine wp_region_held_drew (S := fun w' => (w'.cell? ⟨b4, 0, none⟩ = some (.string ⟨#[70, 69, 84, 67, 72]⟩) ∧ w'.cell? ⟨b4, 1, none⟩ = some (.func (.func 78) #[] #[]) ∧ w'.cell? ⟨b4, 2, none⟩ = some (.func (.func 79) #[] #[])) ∧ w'.cell? ⟨w.heap.size, 0, none⟩ = some (.int .i64 5) ∧ w'.cell? ⟨w.heap.size, 1, none⟩ = some (.slice a0 n0 c0) ∧ w'.cell? ⟨w.heap.size, 2, none⟩ = some (.slice a1 n1 c1) ∧ w'.cell? ⟨w.heap.size, 3, none⟩ = some (.int .i64 uid) ∧ w'.cell? ⟨w.heap.size, 4, none⟩ = some (.int .i64 mode) ∧ w'.cell? ⟨w.heap.size, 5, none⟩ = some (.int .i64 fl) ∧ w'.cell? ⟨w.heap.size, 6, none⟩ = some (.int .i64 si) ∧ w'.cell? ⟨w.heap.size, 7, none⟩ = some (.slice a2 n2 c2)) (by kernel_rfl) (HS2.out _ D0) (fun hHeld => (show wpAnyH _ _ _ _ _ 9 #[false, false, false, false, false, false, false, false, false] _ _ from ?_))
    refine tq 0 13 hHeld ?_
    refine tq 1 14 hHeld ?_
    refine tq 2 15 hHeld ?_
    refine tq 3 16 hHeld ?_
    refine tq 4 17 hHeld ?_
    generalize hwd4 : wc.drew = wd4 at *
    refine wpAnyH_ready (rs := [5]) (by kernel_rfl) (by simp) ?_
    refine AllReadyH.cons rfl (fun K hK => ?_) AllReadyH.nil
    go_simp
    refine (HT.out _ (Below.step XC.out D0)).mono ?_
    rintro e w5 ⟨u5, rfl, R5, B5⟩
    have D5 := Below.step D0 B5
    refine hK.out _ _ (HS2.out _ D5) (fun hHeld => ?_)
    clear hK K
    refine wpAnyH_ready (rs := [6]) (by kernel_rfl) (by simp) ?_
    refine AllReadyH.cons rfl (fun K hK => ?_) AllReadyH.nil
    go_simp
    refine (putTokens_b w5.heap.size _ u5 [] (kindW 5) ss _ (OwnB.nil' _ _) (Nat.le_refl _) (by intro x hx; simp [kindW] at hx; omega) (fun wi h => R5.below keepsStr (h.below)) (by simp) (by decide) hsl hst).mono ?_
    rintro e w6 ⟨u6, rfl, R6, B6⟩
    have D6 : Below wc.heap.size wc w6 := Below.step D5 (B6.below)
    refine hK.out _ _ (HS2.out _ D6) (fun hHeld => ?_)
    clear hK K
    refine tq 7 2 hHeld ?_
    refine tq 8 3 hHeld ?_
    refine wpAnyH_done (by kernel_rfl) ?_ _
    have HF : Hid (Row w6 w.heap.size w6.heap.size u6 (kindW 5 ++ ss.flatMap tokB)) := by
      have h := R6.toRow
      have h5 := D5.size
      simp only [List.nil_append] at h
      exact h.wide (by omega) (Nat.le_refl _)
    have HB : Hid (Below w.heap.size w w6) := Below.step XC.out D6
    clear HS2 D0 D5 D6 R5 B5 R6 B6 hHeld
    go_wp2
    exact bodyPost_ret (v := .tuple #[u6, .bool true]) (by simp [results, Tryz.results21, go_sem]) rfl ⟨u6, rfl, HF.out, HB.out⟩

end Go.Proofs.YtifpjdpcmfneaaaGreatDoor
