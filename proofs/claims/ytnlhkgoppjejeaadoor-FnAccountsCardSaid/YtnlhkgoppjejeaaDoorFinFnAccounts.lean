/- Of the program at this commit: for every code, an account that is drawn out of it has bytes just where the program and the specification both say that it may be, and it comes back from them, in at most 5980 bytes; and drawn bytes that are read as an account are just that account's bytes (the law FnAccounts). The condition: the variable impl.errGaveUp starts as the program's text lays it (the card ties it). -/
import Derived.Test.YtnlhkgoppjejeaaDoorPart48
import Derived.Test.YtnlhkgoppjejeaaDoorTie
import Derived.Test.YtnlhkgoppjejeaaDoorCards
import Derived.SevenTiedAt
namespace Go.Proofs.YtnlhkgoppjejeaaDoor
open Go.ChangeShapes Go.WideShapes Go.ChangeAt Go.RowKit Go.Stop
set_option linter.unusedVariables false

set_option maxRecDepth 100000 in
theorem fnAccounts_lifted (os : Os) (started : os.Started) (H : Type) (enc : TypeId × Value → H) :
    ReturnsInHanded {} Tryd.checked os 3 .any (fun w args => (Rows.fnAccountsSpec.pre enc Tryd.prog Tryd.f3 [] false w args ∧ laidMetH Tryd.prog laidL w) ∧ sizedMet enc Tryd.prog Tryd.f3 (OpenSpec.ofChange Rows.fnAccountsSpec) false w args)
      (Rows.fnAccountsSpec.post enc Tryd.prog Tryd.f3 false true false false) := by
  refine returnsInHanded_of_change_and (C := Tryd.checked) (X := fun w _ => laidMetH Tryd.prog laidL w) (fun _ _ _ hh h => h.of_heap hh) ownKnob_none started (by kernel_rfl) Tryd.func3
    (ChangeSpec.witness_at (enc := enc) (C := Tryd.checked) (os := os) (X := fun w _ => laidMetH Tryd.prog laidL w) false (laidWorld os) #[.slice none 0 0] 8 rfl (by kernel_rfl) (by kernel_rfl) (by kernel_rfl) (by kernel_rfl) (by kernel_rfl) (laid_met os _)) ?_
  intro W base args ds gs before hval0 hW _ _ hL _
  have hval : ∀ (j : Nat) t v, Tryd.f3.params[j]? = some t → args[j]? = some v → Value.okWide Tryd.prog W .any base t v := hval0
  have hW' := hW
  obtain ⟨p, q, hA0, hV0, rfl, hfz, hnd⟩ := hW
  have hA : DataW.TrodAll enc Tryd.prog W 0 (fun _ => true) true Tryd.f3.params.toList args.toList ds p := hA0
  have hV : DataW.TrodVars enc Tryd.prog W (fun _ => true) ["loop.example/g00359/impl.errGaveUp"] gs q := hV0
  rw [Tryd.params3] at hA hval
  obtain ⟨v0, vs0, d0, ds0, p0, q0, hargs, rfl, rfl, h0, r0⟩ := trodAll_cons hA
  obtain ⟨rfl, rfl, rfl⟩ := trodAll_nil r0
  obtain rfl : args = #[v0] := by cases args; simp_all
  obtain ⟨ea, hv, hs⟩ := sent_of_laid hL
  have vr : ∀ {X : World}, X.var? Tryd.prog "loop.example/g00359/impl.errGaveUp" = some #[.iface 127 (.pointer (some ea))] → ∀ sp : Nat → Bool, DataW.TrodVars enc Tryd.prog X sp ["loop.example/g00359/impl.errGaveUp"] [tok enc (.iface 127 (.pointer (some ea)))] [.cell 1 0] :=
    fun x0 sp => vars_read1 enc gvN gvType Tryd.underlying101 x0 trivial sp
  obtain ⟨rfl, rfl⟩ := hV.unique (vr hv _)
  obtain ⟨a0, len0, cap0, rfl⟩ := okWide_slice Tryd.underlying22 (hval 0 22 v0 rfl rfl)
  have k0 := h0
  have lt0 : ∀ x ∈ p0, x.block < W.heap.size := by obtain ⟨m, hm⟩ := k0; exact DataW.trod_lt m _ _ _ hm
  obtain ⟨l0, b0⟩ := open_bytes h0
  clear hA0 hval0 hV0
  refine (accounts_walk _ l0 ea W b0 hs).mono fun e W' ⟨he, bel⟩ => ?_
  subst he
  exact ⟨_, rfl, _, _, _, [], _, [.cell 1 0], hW', trodAll_mk1 (shut_bool Tryd.underlying4 _), (trodAll_cons_mk (Below.trod laidOut (by kernel_rfl) (of_decide_eq_true (by kernel_rfl)) k0 bel lt0) trodAll_mk0), vr (var?_below bel gvN hs.lt hv) _, bel.frame _, fun h => by cases h⟩

theorem fnAccounts_row : Rows.FnAccountsSaid :=
  OpenClaim.holds_of_wide 3 Tryd.f3 rfl rfl rfl rfl rfl rfl rfl ⟨rfl, rfl, rfl, rfl, rfl⟩ rfl rfl rfl rfl rfl (by kernel_rfl) Tryd.func3 (by kernel_rfl)
    (of_decide_eq_true (by kernel_rfl)) (by unfold Func.isWrapper; first | (rw [if_pos (by decide +kernel)]; kernel_rfl) | (rw [if_neg (by decide +kernel)]; exact ⟨rfl, rfl⟩))
    (fun os started H enc _ => fnAccounts_lifted os started H enc)

theorem fnAccounts_holds : Rows.FnAccountsCardSaid :=
  Claim7.holds_tied_plain_at .later [] [.sentinel] true (true, "22763223b9d08ba6456f08c51670e1366d81fe8325c7c79386a8ebc852eb8019") false
    fnAccounts_row (fun _ h => by cases h) (by kernel_rfl) (fun _ h => by cases h) fnAccounts_row_tie rfl ⟨rfl, rfl⟩ (by kernel_rfl) rfl
    (fun f fn hf hfn => by
      obtain rfl : f = 3 := Option.some.inj ((show Tryd.prog.funcNamed "loop.example/g00359/laws.FnAccounts" = some 3 by kernel_rfl).symm.trans hf) |>.symm
      obtain rfl : fn = Tryd.f3 := (Option.some.inj (Tryd.func3.symm.trans hfn)).symm
      exact ⟨by kernel_rfl, fun j t ht => by
        rw [Tryd.params3] at ht
        have h3 : t = 22 := by
          rcases j with _ | j
          · simpa using ht.symm
          · simp at ht
        subst h3
        exact (show Tryd.prog.wantsStandIn 22 = false by kernel_rfl)⟩)
    (by kernel_rfl)

#print axioms fnAccounts_holds
end Go.Proofs.YtnlhkgoppjejeaaDoor
