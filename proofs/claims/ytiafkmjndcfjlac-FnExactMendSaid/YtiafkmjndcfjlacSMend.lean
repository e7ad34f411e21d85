/- What Mend of package spec does. -/
import Derived.Test.YtiafkmjndcfjlacSScanL
namespace Go.Proofs.Ytiafkmjndcfjlac
open Go.RowKit

set_option maxHeartbeats 1000000 in
theorem specMend_r (v : Value) (a b : List Int) (w : World) (hv : LogV w v a b) (ha : a.length ≤ 2000000) :
    Calls Try.prog 5 #[v] w fun e w' => ∃ u, e = .returned u ∧ LogR w' w.heap.size w'.heap.size u (mendA a b) [] ∧ Below w.heap.size w w' := by
  have HV : Hid (∀ wi, Below w.heap.size w wi → LogV wi v a b) := fun wi h => hv.below h
  obtain ⟨i0, hi, hz0, hz1, hz2⟩ := info_parts info5
  obtain ⟨v0, v1, rfl, g0, g1⟩ := hv
  have H0 : Hid (∀ wi, Below w.heap.size w wi → Bs wi v0 a) := fun wi h => g0.below h
  obtain ⟨a0, c0, rfl⟩ := g0.form
  obtain ⟨hcap, hcap'⟩ := g0.cap
  obtain ⟨a1, n1, c1, rfl⟩ := g1.form3
  clear g0 g1
  have hb2 := boxes2 w (.cells #[.slice a0 a.length c0, .slice a1 n1 c1] 26) (.cells #[.slice none 0 0, .slice none 0 0] 26)
  go_enter Try.func5, Try.ntmps5
  go_wp2_with fail
  refine (specLogOk_any _ a b _ (HV.out _ hb2.2.2)).mono ?_
  rintro e w1 ⟨rfl, B⟩
  have k0 := box_below B hb2.1
  have k1 := box_below B hb2.2.1
  have HX : Hid (Below w.heap.size w w1) := Below.step hb2.2.2 B
  have s1 : w.heap.size + 1 < w1.heap.size := lt_of_heap k1
  obtain ⟨f00, f01, -⟩ := box2 k0
  obtain ⟨f10, f11, z10, z11, -⟩ := box2 k1
  have HK : Hid (w1.heap[w.heap.size]? = some (.cells #[.slice a0 a.length c0, .slice a1 n1 c1] 26) ∧ w1.heap[w.heap.size + 1]? = some (.cells #[.slice none 0 0, .slice none 0 0] 26)) := ⟨k0, k1⟩
  clear hb2 B k0 k1 HV
  by_cases hok : a.length + b.length ≤ 1000000
  · have HP : Hid (mendA a b = a.take (scanL a).2) := by simp [Hid, mendA, hok]
    have hd : decide (a.length + b.length ≤ 1000000) = true := by simp [hok]
    have hK := (scanL_end a).1
    go_wp2_with fail
    refine (l2scan_r _ a _ (H0.out _ HX.out) ha).mono ?_
    rintro e w2 ⟨u, rfl, -, B⟩
    clear f00 f01 f10 f11 z10 z11
    generalize (scanL a).2 = K at hK HP ⊢
    have k0 := box_below B HK.out.1
    have k1 := box_below B HK.out.2
    have HX2 : Hid (Below w.heap.size w w2) := Below.step HX.out B
    have s2 : w1.heap.size ≤ w2.heap.size := B.size
    have bA : Below w2.heap.size w2 (w2.alloc (.cells #[] 5)) := (Below.refl _ _).alloc (Nat.le_refl _) _
    obtain ⟨f00, f01, -⟩ := box2 k0
    have HK2 : Hid (w2.heap[w.heap.size + 1]? = some (.cells #[.slice none 0 0, .slice none 0 0] 26)) := k1
    have HE : Hid (OwnB (w2.alloc (.cells #[] 5)) w2.heap.size (.slice (some ⟨w2.heap.size, 0, none⟩) 0 0) []) := ownB_empty w2 _ (Nat.le_refl _)
    have HB : Hid (Below w2.heap.size w2 (w2.alloc (.cells #[] 5))) := bA
    have HC : Hid (Bs (w2.alloc (.cells #[] 5)) (.slice a0 K c0) (a.take K)) := bs_first (H0.out _ (Below.step HX2.out bA)) K hK
    have hl : (a.take K).length ≤ 2000000 := by simp; omega
    clear B k0 k1 HK bA
    have hK0 : (0 : Int) ≤ (K : Int) := by omega
    have hK1 : (K : Int) ≤ (c0 : Int) := by omega
    have l0 : w.heap.size < w2.heap.size := by omega
    go_wp2_with (at_builtin; (refine wpList_append_bytes rfl (.tmp 15) (.tmp 19) 22 rfl i0 Try.underlying22 hi hz0 hz1 hz2 w2.heap.size _ [] rfl HE.out _ (a.take K) rfl HC.out ?m1 (by simp) w2 HB.out ?_))
    case m1 => simp only [List.length_nil]; omega
    intro r w3 hO3 hB3 _
    obtain ⟨r0, r1, r2, rfl⟩ := hO3.bs.form3
    have HR : Hid (Row w3 w2.heap.size w3.heap.size (.slice r0 r1 r2) (mendA a b)) := by rw [HP.out]; exact OwnB.toRow (by simpa using hO3)
    have HX3 : Hid (Below w.heap.size w w3) := Below.step HX2.out hB3
    clear f00 f01
    obtain ⟨f10, f11, z10, z11, l1⟩ := box2 (box_below hB3 HK2.out)
    clear hO3 hB3 HK2 HE HB HC
    go_wp2
    refine bodyPost_ret (v := .agg #[.slice r0 r1 r2, .slice none 0 0]) (by simp [results, Try.results5, go_sem, f10, f11]) rfl ⟨_, rfl, ?_, ?_⟩
    · exact ⟨_, _, w2.heap.size, w3.heap.size, w3.heap.size, _, rfl, (HR.out.set (.inl (by omega))).set (.inl (by omega)), Row.nil _ _ _, by omega, by simp [World.setCell], by have := HX3.out.size; omega, Nat.le_refl _, .inl (Nat.le_refl _)⟩
    · exact (HX3.out.setCell (by simp) _).setCell (by simp) _
  · have HP : Hid (mendA a b = []) := by simp [Hid, mendA, hok]
    have hd : decide (a.length + b.length ≤ 1000000) = false := by simp [hok]
    go_wp2
    refine bodyPost_ret (v := .agg #[.slice none 0 0, .slice none 0 0]) (by simp [results, Try.results5, go_sem, f10, f11]) rfl ⟨_, rfl, ?_, ?_⟩
    · rw [HP.out]; exact LogR.zero _ _ _ (by have := HX.out.size; simp [World.setCell]; omega)
    · exact (HX.out.setCell (by simp) _).setCell (by simp) _

end Go.Proofs.Ytiafkmjndcfjlac
