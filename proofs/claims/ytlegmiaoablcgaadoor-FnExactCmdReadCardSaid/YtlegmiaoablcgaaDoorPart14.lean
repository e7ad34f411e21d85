/- The proof's texts, part 14. -/
import Derived.Test.YtlegmiaoablcgaaDoorPart11
import Derived.Test.YtlegmiaoablcgaaDoorPart13
import Derived.Test.YtlegmiaoablcgaaDoorRows
import Derived.Test.YtlegmiaoablcgaaDoorPart2
import Derived.ProofKit
import Derived.OpenShut
import Derived.ShutString
import Derived.ChangeOld
import Derived.ChangeSame
import Derived.ChangeVars
import Derived.JoinedOf
import Derived.RowKit
import Derived.RowKitTokens
import Derived.LaidLaws
import Derived.LaidHandle
import Derived.Stop.Joined
import Derived.Stop.LaidErr
import Derived.Lib.LaidTab
import Derived.WalkSmall

/- The law FnExactCmdRead, walked out of the contracts. -/
namespace Go.Proofs.YtlegmiaoablcgaaDoor
open Go.RowKit
set_option maxRecDepth 100000
set_option linter.unusedVariables false
set_option linter.unusedSimpArgs false

set_option maxRecDepth 100000 in
set_option maxHeartbeats 8000000 in
theorem exactCmdRead_walk (v : Value) (l : List Int) (ea : Addr) (w : World) (hv : Bs w v l) (hE : Gave w ea) (ht : Tab10 w) (he : Errs w) :
    Calls Tryd.prog 4 #[v] w fun e w' => e = .returned (.bool true) ∧ Below w.heap.size w w' := by
  have HV : Hid (∀ wi, Below w.heap.size w wi → Bs wi v l) := fun wi h => hv.below h
  have HE : Hid (Gave w ea ∧ Tab10 w ∧ Errs w) := ⟨hE, ht, he⟩
  have hrg := (read_rng hv.1).1
  generalize hR : readM l = R at hrg
  obtain ⟨C, P, Q⟩ := R
  simp only at hrg
  have HR : Hid (readM l = (C, P, Q)) := hR
  have HRG : Hid (RngC C) := hrg
  obtain ⟨g1, g2, g3, g4, g5, g6, g7, g8⟩ := hrg
  have hPP : (P != P) = false := by simp
  have hQQ : (Q != Q) = false := by simp
  clear hR hE ht he
  obtain ⟨va, cap, rfl⟩ := hv.form
  clear hv
  by_cases hlen : 1048576 < l.length
  · go_enter Tryd.func4, Tryd.ntmps4
    go_wp2
    go_ret
    exact ⟨rfl, Below.refl _ _⟩
  go_enter Tryd.func4, Tryd.ntmps4
  go_wp2_with fail
  refine (toByteS_r _ l _ (HV.out _ (Below.refl _ _)) (by omega)).mono ?_
  rintro e w1 ⟨u1, rfl, R1, B⟩
  have X := B
  have s1 : w.heap.size ≤ w1.heap.size := B.size
  obtain ⟨xa, xn, xc, hu1⟩ := (Row.bs R1).form3
  subst hu1
  clear B
  go_wp2_with fail
  refine (specCmdRead_r _ l _ (Row.bs R1) (by omega)).mono ?_
  rintro e w2 ⟨U, rfl, R0, B⟩
  rw [HR.out] at R0
  rw [HR.out]
  simp only at R0
  replace X := Below.step X B
  have s2 : w1.heap.size ≤ w2.heap.size := B.size
  have HU : Hid (∀ wi, Below w2.heap.size w2 wi → CmdV wi U C.k C.bx C.tt C.uid C.mode C.fl C.si C.tx) := fun wi h => R0.below h
  obtain ⟨u0, u1, u2, hU, z0, z1, z2, -⟩ := R0
  obtain ⟨p0, pn0, pc0, hz0⟩ := z0.form3
  obtain ⟨p1, pn1, pc1, hz1⟩ := z1.form3
  obtain ⟨p2, pn2, pc2, hz2⟩ := z2.form3
  subst hz0 hz1 hz2
  subst hU
  clear B R1 z0 z1 z2
  go_wp2_with fail
  have AB : Below w2.heap.size w2 (w2.alloc (.cells #[.int .i64 C.k, .slice p0 pn0 pc0, .slice p1 pn1 pc1, .int .i64 C.uid, .int .i64 C.mode, .int .i64 C.fl, .int .i64 C.si, .slice p2 pn2 pc2] 24)) := (Below.refl _ _).alloc (Nat.le_refl _) _
  have K3 := box_new w2 (.cells #[.int .i64 C.k, .slice p0 pn0 pc0, .slice p1 pn1 pc1, .int .i64 C.uid, .int .i64 C.mode, .int .i64 C.fl, .int .i64 C.si, .slice p2 pn2 pc2] 24)
  have Y := AB
  replace X := Below.step X AB
  have s3 : (w2.alloc (.cells #[.int .i64 C.k, .slice p0 pn0 pc0, .slice p1 pn1 pc1, .int .i64 C.uid, .int .i64 C.mode, .int .i64 C.fl, .int .i64 C.si, .slice p2 pn2 pc2] 24)).heap.size = w2.heap.size + 1 := by simp
  generalize hWw3 : w2.alloc (.cells #[.int .i64 C.k, .slice p0 pn0 pc0, .slice p1 pn1 pc1, .int .i64 C.uid, .int .i64 C.mode, .int .i64 C.fl, .int .i64 C.si, .slice p2 pn2 pc2] 24) = w3 at *
  have Hs3 : Hid _ := s3
  have qs3 : w2.heap.size + 1 ≤ w3.heap.size := by omega
  clear hWw3 AB s3
  refine (toByteS_r _ l _ (HV.out _ X) (by omega)).mono ?_
  rintro e w4 ⟨x0, rfl, RX, B⟩
  replace X := Below.step X B
  replace Y := Below.step Y B
  replace K3 := box_below B K3
  have s4 : w3.heap.size ≤ w4.heap.size := B.size
  obtain ⟨ya, yn, yc, hx0⟩ := (Row.bs RX).form3
  subst hx0
  clear B
  go_wp2_with fail
  refine (implCmdRead_r _ l ea _ (Row.bs RX) (HE.out.1.below X) (Lib.tabBelow_of_tabIs HE.out.2.1 _ X) (HE.out.2.2.below X) (by omega)).mono ?_
  rintro e w5 ⟨G, rfl, RG, B⟩
  rw [HR.out] at RG
  rw [HR.out]
  simp only at RG
  replace X := Below.step X B
  replace Y := Below.step Y B
  replace K3 := box_below B K3
  replace RX := RX.below B
  have s5 : w4.heap.size ≤ w5.heap.size := B.size
  obtain ⟨g0, gn0, gc0, g1', gn1, gc1, g2', gn2, gc2, hG⟩ := RG.form
  subst hG
  clear B
  have AB : Below w5.heap.size w5 (w5.alloc (.cells #[.int .i64 C.k, .slice g0 gn0 gc0, .slice g1' gn1 gc1, .int .i64 C.uid, .int .i64 C.mode, .int .i64 C.fl, .int .i64 C.si, .slice g2' gn2 gc2] 24)) := (Below.refl _ _).alloc (Nat.le_refl _) _
  have K3' := box_below AB K3
  have K6' := box_new w5 (.cells #[.int .i64 C.k, .slice g0 gn0 gc0, .slice g1' gn1 gc1, .int .i64 C.uid, .int .i64 C.mode, .int .i64 C.fl, .int .i64 C.si, .slice g2' gn2 gc2] 24)
  obtain ⟨c0, c1, c2, c3, c4, c5, c6, c7, l3⟩ := box8l K3
  go_wp2_with fail
  clear c0 c1 c2 c3 c4 c5 c6 c7 l3
  replace RG := RG.below AB
  replace RX := RX.below AB
  replace X := Below.step X AB
  replace Y := Below.step Y AB
  have s6 : (w5.alloc (.cells #[.int .i64 C.k, .slice g0 gn0 gc0, .slice g1' gn1 gc1, .int .i64 C.uid, .int .i64 C.mode, .int .i64 C.fl, .int .i64 C.si, .slice g2' gn2 gc2] 24)).heap.size = w5.heap.size + 1 := by simp
  generalize hW6 : w5.alloc (.cells #[.int .i64 C.k, .slice g0 gn0 gc0, .slice g1' gn1 gc1, .int .i64 C.uid, .int .i64 C.mode, .int .i64 C.fl, .int .i64 C.si, .slice g2' gn2 gc2] 24) = w6 at *
  have q6 : w5.heap.size + 1 ≤ w6.heap.size := by omega
  clear hW6 AB s6 K3
  have K3 := K3'
  have K6 := K6'
  clear K3' K6'
  refine (eqCmd_yes _ _ C.k C.bx C.tt C.uid C.mode C.fl C.si C.tx _ (RG.toV HRG.out) (HU.out _ Y)).mono ?_
  rintro e w7 ⟨rfl, B⟩
  replace X := Below.step X B
  replace Y := Below.step Y B
  replace K3 := box_below B K3
  replace K6 := box_below B K6
  replace RG := RG.below B
  replace RX := RX.below B
  have sw7 : w6.heap.size ≤ w7.heap.size := B.size
  clear B
  go_wp2_with fail
  refine (toByteS_r _ l _ (HV.out _ X) (by omega)).mono ?_
  rintro e w8 ⟨x8, rfl, R8, B⟩
  replace X := Below.step X B
  replace Y := Below.step Y B
  replace K3 := box_below B K3
  replace K6 := box_below B K6
  replace RG := RG.below B
  replace RX := RX.below B
  have sw8 : w7.heap.size ≤ w8.heap.size := B.size
  clear B
  obtain ⟨ta, tn, tc, hx8⟩ := (Row.bs R8).form3
  subst hx8
  go_wp2_with fail
  refine (eqByteS_yes _ _ l _ (Row.bs RX) (Row.bs R8)).mono ?_
  rintro e w9 ⟨rfl, B⟩
  replace X := Below.step X B
  replace Y := Below.step Y B
  replace K3 := box_below B K3
  replace K6 := box_below B K6
  replace RG := RG.below B
  replace RX := RX.below B
  have sw9 : w8.heap.size ≤ w9.heap.size := B.size
  clear B
  clear R8
  go_wp2_with fail
  refine (markByteS_r w3.heap.size w4.heap.size _ l 1 _ RX (by omega) (by omega) (by omega)).mono ?_
  rintro e w10 ⟨rfl, RX2, hg⟩
  have Wi := Row.within RX hg
  replace X := Within.below Wi X (by omega)
  replace Y := Within.below Wi Y (by omega)
  replace K3 := box_within Wi K3 (by omega)
  replace K6 := box_within Wi K6 (by omega)
  replace RG := RG.keptW Wi (by omega)
  have s10 : w9.heap.size ≤ w10.heap.size := Wi.size
  have hm1 : ¬ ((1 : Int) + (l.length : Int) < 0) := by omega
  clear Wi hg RX RX2
  obtain ⟨c0, c1, c2, c3, c4, c5, c6, c7, l3⟩ := box8l K3
  obtain ⟨d0, d1, d2, d3, d4, d5, d6, d7, l6⟩ := box8l K6
  go_wp2_with fail
  clear c0 c1 c2 c3 c4 c5 c6 c7 l3 d0 d1 d2 d3 d4 d5 d6 d7 l6
  refine (eqCmd_yes _ _ C.k C.bx C.tt C.uid C.mode C.fl C.si C.tx _ (RG.toV HRG.out) (HU.out _ Y)).mono ?_
  rintro e w11 ⟨rfl, B⟩
  replace X := Below.step X B
  replace Y := Below.step Y B
  replace K3 := box_below B K3
  replace K6 := box_below B K6
  replace RG := RG.below B
  have sw11 : w10.heap.size ≤ w11.heap.size := B.size
  clear B
  obtain ⟨d0, d1, d2, d3, d4, d5, d6, d7, l6⟩ := box8l K6
  go_wp2_with fail
  clear d0 d1 d2 d3 d4 d5 d6 d7 l6
  refine (markCmd_x w4.heap.size w5.heap.size _ C 1 _ RG (by omega) (by omega) (by omega) (by omega) (by omega) (by omega)).mono ?_
  rintro e w12 ⟨rfl, RM, Wi⟩
  replace X := Within.below Wi X (by omega)
  replace Y := Within.below Wi Y (by omega)
  replace K3 := box_within Wi K3 (by omega)
  replace K6 := box_within Wi K6 (by omega)
  have s12 : w11.heap.size ≤ w12.heap.size := Wi.size
  clear Wi RG
  obtain ⟨d0, d1, d2, d3, d4, d5, d6, d7, l6⟩ := box8l K6
  go_wp2_with fail
  clear d0 d1 d2 d3 d4 d5 d6 d7 l6
  refine (heldCmd_x w4.heap.size w5.heap.size _ C 1 _ RM (by omega) (by omega) (by omega) (by omega) (by omega)).mono ?_
  rintro e w13 ⟨rfl, B⟩
  replace X := Below.step X B
  replace Y := Below.step Y B
  replace K3 := box_below B K3
  replace K6 := box_below B K6
  replace RM := RM.below B
  have sw13 : w12.heap.size ≤ w13.heap.size := B.size
  clear B
  have hmm : ¬ ((1 : Int) + (C.bx.length : Int) + (C.tt.length : Int) + (C.tx.length : Int) < 0) := by omega
  go_wp2_with fail
  refine (toByteS_r _ l _ (HV.out _ X) (by omega)).mono ?_
  rintro e w14 ⟨x14, rfl, R14, B⟩
  replace X := Below.step X B
  replace Y := Below.step Y B
  replace K3 := box_below B K3
  replace K6 := box_below B K6
  replace RM := RM.below B
  have sw14 : w13.heap.size ≤ w14.heap.size := B.size
  clear B
  obtain ⟨ta, tn, tc, hx14⟩ := (Row.bs R14).form3
  subst hx14
  go_wp2_with fail
  refine (implCmdRead_r _ l ea _ (Row.bs R14) (HE.out.1.below X) (Lib.tabBelow_of_tabIs HE.out.2.1 _ X) (HE.out.2.2.below X) (by omega)).mono ?_
  rintro e w15 ⟨H, rfl, RH, B⟩
  rw [HR.out] at RH
  rw [HR.out]
  simp only at RH
  replace X := Below.step X B
  replace Y := Below.step Y B
  replace K3 := box_below B K3
  replace K6 := box_below B K6
  replace RM := RM.below B
  have sw15 : w14.heap.size ≤ w15.heap.size := B.size
  clear B
  clear R14
  obtain ⟨h0, hn0, hc0, h1, hn1, hc1, h2, hn2, hc2, hH⟩ := RH.form
  subst hH
  have AB : Below w15.heap.size w15 (w15.alloc (.cells #[.int .i64 C.k, .slice h0 hn0 hc0, .slice h1 hn1 hc1, .int .i64 C.uid, .int .i64 C.mode, .int .i64 C.fl, .int .i64 C.si, .slice h2 hn2 hc2] 24)) := (Below.refl _ _).alloc (Nat.le_refl _) _
  have K3' := box_below AB K3
  have K6' := box_below AB K6
  obtain ⟨c0, c1, c2, c3, c4, c5, c6, c7, l3⟩ := box8l K3
  go_wp2_with fail
  clear c0 c1 c2 c3 c4 c5 c6 c7 l3
  replace RM := RM.below AB
  replace RH := RH.below AB
  replace X := Below.step X AB
  replace Y := Below.step Y AB
  generalize hW16 : w15.alloc (.cells #[.int .i64 C.k, .slice h0 hn0 hc0, .slice h1 hn1 hc1, .int .i64 C.uid, .int .i64 C.mode, .int .i64 C.fl, .int .i64 C.si, .slice h2 hn2 hc2] 24) = w16 at *
  clear hW16 AB K3 K6
  have K3 := K3'
  have K6 := K6'
  clear K3' K6'
  refine (eqCmd_yes _ _ C.k C.bx C.tt C.uid C.mode C.fl C.si C.tx _ (RH.toV HRG.out) (HU.out _ Y)).mono ?_
  rintro e w17 ⟨rfl, B⟩
  replace X := Below.step X B
  replace K6 := box_below B K6
  replace RM := RM.below B
  clear B
  obtain ⟨d0, d1, d2, d3, d4, d5, d6, d7, l6⟩ := box8l K6
  go_wp2_with fail
  clear d0 d1 d2 d3 d4 d5 d6 d7 l6
  refine (heldCmd_x w4.heap.size w5.heap.size _ C 1 _ RM (by omega) (by omega) (by omega) (by omega) (by omega)).mono ?_
  rintro e w18 ⟨rfl, B⟩
  replace X := Below.step X B
  go_wp2
  go_ret
  exact ⟨rfl, X⟩

end Go.Proofs.YtlegmiaoablcgaaDoor

/- From what a row reads of an argument to what the walks ask: a slice of bytes that came in. -/
namespace Go.Proofs.YtlegmiaoablcgaaDoor
open Go.ChangeShapes Go.WideShapes Go.ChangeAt Go.RowKit

theorem ownKnob_none : ownKnob Tryd.prog.godebug = none := by kernel_rfl
theorem laidOut : laidOutB Tryd.prog = true := by kernel_rfl

theorem wf_byte {n : Int} (h : (Lit.int .u8 n).wf = true) : 0 ≤ n ∧ n ≤ 255 := bounds_u8 h
theorem wf_int {n : Int} (h : (Lit.int .i64 n).wf = true) : -9223372036854775808 ≤ n ∧ n ≤ 9223372036854775807 := bounds_i64 h

/-- A slice of bytes that came in, as the walks want it. -/
theorem open_bytes {H : Type} {enc : TypeId × Value → H} {W : World} {base : Nat} {a : Option Addr} {len cap : Nat} {d : DataW H} {p : List MemPlace}
    (h : DataW.Trod enc Tryd.prog W base (fun _ => true) true 22 (.slice a len cap) d p) : ∃ l, Bs W (.slice a len cap) l := by
  obtain ⟨fuel, hf⟩ := h
  rcases open_ints Tryd.underlying22 Tryd.underlying5 (by kernel_rfl) hf with ⟨hcs, _⟩ | ⟨x, l, c, zs, hcs, _, hl, hm, hz, _, hcell, hwz⟩
  · simp [Value.cells] at hcs
    obtain ⟨rfl, rfl, rfl⟩ := hcs
    exact ⟨[], oct_nil, none, 0, rfl, by simp, by simp, fun _ => rfl, fun h => absurd h (by simp)⟩
  · simp [Value.cells] at hcs
    obtain ⟨rfl, rfl, rfl⟩ := hcs
    simp at hz
    have ht : (zs.take len).length = len := by simp; omega
    refine ⟨zs.take len, fun x hx => wf_byte (hwz x (List.mem_of_mem_take hx)), some x, cap, by rw [ht], by omega, hm, (fun h => by cases h), fun hp => ?_⟩
    rw [ht] at hp
    obtain ⟨b, off, spot⟩ := x
    have h0 := hcell 0 (by omega)
    have hspot : spot = none := by simpa [Addr.add] using World.cell?_spot h0
    subst hspot
    refine ⟨b, off, rfl, ?_, fun i hi => ?_⟩
    · have := World.block_lt_of_cell? W _ h0
      simpa [Addr.add] using this
    · rw [ht] at hi
      have := hcell i (by omega)
      rw [Addr.add_lit] at this
      rw [this]
      simp [hi]

end Go.Proofs.YtlegmiaoablcgaaDoor

/- What the laid variables give a walk (the errors of impl and strconv, strconv's tables); a world that meets them. -/
namespace Go.Proofs.YtlegmiaoablcgaaDoor
open Go.ChangeShapes Go.WideShapes Go.ChangeAt Go.RowKit Go.Stop

theorem gN : Tryd.prog.globalNamed "loop.example/g00359/impl.errGaveUp" = some 0 := by kernel_rfl
theorem gNType : (Tryd.prog.globals[0]?).map (·.type) = some 93 := by kernel_rfl
theorem gR : Tryd.prog.globalNamed "strconv.ErrRange" = some 3 := by kernel_rfl
theorem gRType : (Tryd.prog.globals[3]?).map (·.type) = some 93 := by kernel_rfl
theorem gS : Tryd.prog.globalNamed "strconv.ErrSyntax" = some 2 := by kernel_rfl
theorem gSType : (Tryd.prog.globals[2]?).map (·.type) = some 93 := by kernel_rfl
theorem gP : Tryd.prog.globalNamed "internal/strconv.uint64pow10" = some 1 := by kernel_rfl
theorem gPType : (Tryd.prog.globals[1]?).map (·.type) = some 124 := by kernel_rfl
theorem cellsE : Tryd.prog.cellsOf 140 = 1 := by kernel_rfl
theorem cellsS : Tryd.prog.cellsOf 9 = 1 := by kernel_rfl
theorem starE : "*" ++ "errors.errorString" = "*errors.errorString" := by decide
theorem rowE (u : TypeId) (h : Tryd.prog.typeName? 3 u = some "*errors.errorString") : u = 138 :=
  typeName_ptr_named (nm := "errors.errorString") (by rw [starE]; kernel_rfl) (by kernel_rfl) (by decide) u (by rw [starE]; exact h)

abbrev laidL : List (String × DataW Unit) := [("math/bits.deBruijn32tab", Rows.laid_math_bits_deBruijn32tab), ("math/bits.deBruijn64tab", Rows.laid_math_bits_deBruijn64tab), ("internal/strconv.uint64pow10", Rows.laid_internal_strconv_uint64pow10), ("strconv.ErrRange", Rows.laid_strconv_ErrRange), ("strconv.ErrSyntax", Rows.laid_strconv_ErrSyntax), ("loop.example/g00359/impl.errGaveUp", Rows.laid_loop_example_g00359_impl_errGaveUp)]
theorem sent_of_laid {W : World} (h : laidMetH Tryd.prog laidL W) : ∃ ea, W.var? Tryd.prog "loop.example/g00359/impl.errGaveUp" = some #[.iface 138 (.pointer (some ea))] ∧ Gave W ea := by
  have h' : laidMet Tryd.prog laidL W := h
  obtain ⟨ea, s, hv, -⟩ := laid_sentinel h'.tail.tail.tail.tail.tail gN gNType Tryd.underlying93 rowE Tryd.underlying138 Tryd.underlying140 rfl rfl Tryd.underlying9 cellsE cellsS
  exact ⟨ea, hv, by simpa [Gave] using World.var?_cell gN hv 0⟩
theorem errs_of_laid {W : World} (h : laidMetH Tryd.prog laidL W) : Errs W := by
  have h' : laidMet Tryd.prog laidL W := h
  obtain ⟨ea, s, hv, -⟩ := laid_sentinel h'.tail.tail.tail gR gRType Tryd.underlying93 rowE Tryd.underlying138 Tryd.underlying140 rfl rfl Tryd.underlying9 cellsE cellsS
  obtain ⟨eb, s', hv', -⟩ := laid_sentinel h'.tail.tail.tail.tail gS gSType Tryd.underlying93 rowE Tryd.underlying138 Tryd.underlying140 rfl rfl Tryd.underlying9 cellsE cellsS
  exact ⟨⟨_, _, by simpa using World.var?_cell gS hv' 0⟩, _, _, by simpa using World.var?_cell gR hv 0⟩
theorem tab_of_laid {W : World} (h : laidMetH Tryd.prog laidL W) : Tab10 W := by
  have h' : laidMet Tryd.prog laidL W := h
  have h2 : laidMet Tryd.prog (("internal/strconv.uint64pow10", Lib.tabData .u64 Lib.pow10Tab) :: [("strconv.ErrRange", Rows.laid_strconv_ErrRange), ("strconv.ErrSyntax", Rows.laid_strconv_ErrSyntax), ("loop.example/g00359/impl.errGaveUp", Rows.laid_loop_example_g00359_impl_errGaveUp)]) W := h'.tail.tail
  exact Lib.tabIs_of_head gP gPType Tryd.underlying124 Tryd.underlying112 (by kernel_rfl) (by kernel_rfl) h2

def dataCells : DataW Unit → Array Value
  | .agg l => (l.map fun
    | .lit (.int k z) => Value.int k z
    | _ => undef).toArray
  | _ => #[]
abbrev upS : ByteArray := { data := #[116, 104, 101, 32, 114, 101, 97, 100, 101, 114, 32, 103, 97, 118, 101, 32, 117, 112] }
abbrev rangeS : ByteArray := { data := #[118, 97, 108, 117, 101, 32, 111, 117, 116, 32, 111, 102, 32, 114, 97, 110, 103, 101] }
abbrev syntaxS : ByteArray := { data := #[105, 110, 118, 97, 108, 105, 100, 32, 115, 121, 110, 116, 97, 120] }
noncomputable def low : Nat := (World.holding Tryd.prog default ⟨#[], #[], []⟩).heap.size
def layCells (cs : Array Value) : Obj → Obj
  | .cells _ t frozen => .cells cs t frozen
  | o => o
noncomputable def laidWorld (os : Os) : World :=
  let w0 := World.holding Tryd.prog os ⟨#[.cells #[.string upS] 140, .cells #[.string rangeS] 140, .cells #[.string syntaxS] 140], #[], []⟩
  { w0 with heap := (((((w0.heap.modify 0 (layCells #[.iface 138 (.pointer (some ⟨low, 0, none⟩))])).modify 3 (layCells #[.iface 138 (.pointer (some ⟨low + 1, 0, none⟩))])).modify 2 (layCells #[.iface 138 (.pointer (some ⟨low + 2, 0, none⟩))])).modify 1 (layCells (dataCells Rows.laid_internal_strconv_uint64pow10))).modify 4 (layCells (dataCells Rows.laid_math_bits_deBruijn32tab))).modify 5 (layCells (dataCells Rows.laid_math_bits_deBruijn64tab)) }
theorem laid_met (os : Os) (args : Array Value) : laidMetH Tryd.prog laidL ((laidWorld os).forCall (fun _ _ => 0) ⟨#[], args, []⟩).memory :=
  laidMet_of_run' (l := laidL) 200 (by kernel_rfl) (by kernel_rfl)

end Go.Proofs.YtlegmiaoablcgaaDoor
