/- impl.CmdText writes a drawn command, if it may be, as a line of at most 120 bytes that impl.CmdRead reads back as a command with the same text; and what impl.CmdRead reads of a drawn line, well, comes back so from the text that impl.CmdText writes of it, while what it does not read has a place in the line The condition: the variables impl.errGaveUp, strconv.ErrRange, strconv.ErrSyntax and the tables of math/bits and internal/strconv that are listed start as the program's text lays them (the card ties them). -/
import Derived.Test.YtlegmiaoablcgaaGreatDoorPart17
import Derived.Test.YtlegmiaoablcgaaGreatDoorTie
import Derived.Test.YtlegmiaoablcgaaGreatDoorCards
import Derived.SevenTiedAt
namespace Go.Proofs.YtlegmiaoablcgaaGreatDoor
open Go.ChangeShapes Go.WideShapes Go.ChangeAt Go.RowKit Go.Stop
set_option linter.unusedVariables false

set_option maxRecDepth 100000 in
theorem fnCmds_lifted (os : Os) (started : os.Started) (H : Type) (enc : TypeId × Value → H) :
    ReturnsInHanded {} Tryz.checked os 3 .any (fun w args => (Rows.fnCmdsSpec.pre enc Tryz.prog Tryz.f3 [] false w args ∧ laidMetH Tryz.prog laidL w) ∧ sizedMet enc Tryz.prog Tryz.f3 (OpenSpec.ofChange Rows.fnCmdsSpec) false w args)
      (Rows.fnCmdsSpec.post enc Tryz.prog Tryz.f3 false true false false) := by
  refine returnsInHanded_of_change_and (C := Tryz.checked) (X := fun w _ => laidMetH Tryz.prog laidL w) (fun _ _ _ hh h => h.of_heap hh) ownKnob_none started (by kernel_rfl) Tryz.func3
    (ChangeSpec.witness_at (enc := enc) (C := Tryz.checked) (os := os) (X := fun w _ => laidMetH Tryz.prog laidL w) false (laidWorld os) #[.slice none 0 0] 8 rfl (by kernel_rfl) (by kernel_rfl) (by kernel_rfl) (by kernel_rfl) (by kernel_rfl) (laid_met os _)) ?_
  intro W base args ds gs before hval0 hW _ _ hL _
  have hval : ∀ (j : Nat) t v, Tryz.f3.params[j]? = some t → args[j]? = some v → Value.okWide Tryz.prog W .any base t v := hval0
  have hW' := hW
  obtain ⟨p, q, hA0, hV0, rfl, hfz, hnd⟩ := hW
  have hA : DataW.TrodAll enc Tryz.prog W 0 (fun _ => true) true Tryz.f3.params.toList args.toList ds p := hA0
  have hV : DataW.TrodVars enc Tryz.prog W (fun _ => true) ["loop.example/g00359/impl.errGaveUp"] gs q := hV0
  rw [Tryz.params3] at hA hval
  obtain ⟨v0, vs0, d0, ds0, p0, q0, hargs, rfl, rfl, h0, r0⟩ := trodAll_cons hA
  obtain ⟨rfl, rfl, rfl⟩ := trodAll_nil r0
  obtain rfl : args = #[v0] := by cases args; simp_all
  obtain ⟨ea, hv, hs⟩ := sent_of_laid hL
  have htab := tab_of_laid hL
  have herr := errs_of_laid hL
  have vr : ∀ {X : World}, X.var? Tryz.prog "loop.example/g00359/impl.errGaveUp" = some #[.iface 128 (.pointer (some ea))] → ∀ sp : Nat → Bool, DataW.TrodVars enc Tryz.prog X sp ["loop.example/g00359/impl.errGaveUp"] [tok enc (.iface 128 (.pointer (some ea)))] [.cell 0 0] :=
    fun x0 sp => vars_read1 enc gN gNType Tryz.underlying89 x0 trivial sp
  obtain ⟨rfl, rfl⟩ := hV.unique (vr hv _)
  obtain ⟨a0, len0, cap0, rfl⟩ := okWide_slice Tryz.underlying22 (hval 0 22 v0 rfl rfl)
  have k0 := h0
  have lt0 : ∀ x ∈ p0, x.block < W.heap.size := by obtain ⟨m, hm⟩ := k0; exact DataW.trod_lt m _ _ _ hm
  obtain ⟨l0, b0⟩ := open_bytes h0
  clear hA0 hval0 hV0
  refine (cmds_walk _ l0 ea W b0 hs htab herr).mono fun e W' ⟨he, bel⟩ => ?_
  subst he
  exact ⟨_, rfl, _, _, _, [], _, [.cell 0 0], hW', trodAll_mk1 (shut_bool Tryz.underlying4 _), (trodAll_cons_mk (Below.trod laidOut (by kernel_rfl) (of_decide_eq_true (by kernel_rfl)) k0 bel lt0) trodAll_mk0), vr (var?_below bel gN hs.lt hv) _, bel.frame _, fun h => by cases h⟩

theorem fnCmds_row : Rows.FnCmdsSaid :=
  OpenClaim.holds_of_wide 3 Tryz.f3 rfl rfl rfl rfl rfl rfl rfl ⟨rfl, rfl, rfl, rfl, rfl⟩ rfl rfl rfl rfl rfl (by kernel_rfl) Tryz.func3 (by kernel_rfl)
    (of_decide_eq_true (by kernel_rfl)) (by unfold Func.isWrapper; first | (rw [if_pos (by decide +kernel)]; kernel_rfl) | (rw [if_neg (by decide +kernel)]; exact ⟨rfl, rfl⟩))
    (fun os started H enc _ => fnCmds_lifted os started H enc)

theorem fnCmds_holds : Rows.FnCmdsCardSaid :=
  Claim7.holds_tied_plain_at .later [] [.data, .data, .data, .sentinel, .sentinel, .sentinel] true (true, "b47311236cb9f26337034b6f5b7fcd67cf64bf824c4bf3fec3018a25a18591cc") true
    fnCmds_row (fun _ h => by cases h) (by kernel_rfl) (fun _ h => by cases h) fnCmds_row_tie rfl ⟨rfl, rfl⟩ (by kernel_rfl) rfl
    (fun f fn hf hfn => by
      obtain rfl : f = 3 := Option.some.inj ((show Tryz.prog.funcNamed "loop.example/g00359/laws.FnCmds" = some 3 by kernel_rfl).symm.trans hf) |>.symm
      obtain rfl : fn = Tryz.f3 := (Option.some.inj (Tryz.func3.symm.trans hfn)).symm
      exact ⟨by kernel_rfl, fun j t ht => by
        rw [Tryz.params3] at ht
        have h3 : t = 22 := by
          rcases j with _ | j
          · simpa using ht.symm
          · simp at ht
        subst h3
        exact (show Tryz.prog.wantsStandIn 22 = false by kernel_rfl)⟩)
    (by kernel_rfl)

#print axioms fnCmds_holds
end Go.Proofs.YtlegmiaoablcgaaGreatDoor
