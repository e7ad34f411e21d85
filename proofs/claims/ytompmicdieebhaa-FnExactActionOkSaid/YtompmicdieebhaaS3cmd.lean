/- What CmdOk of package spec does. -/
import Derived.Test.YtompmicdieebhaaS3cmdA
import Derived.Test.YtompmicdieebhaaS3cmd2
import Derived.Test.YtompmicdieebhaaS3cmd3
import Derived.Test.YtompmicdieebhaaS3cmd5
import Derived.Test.YtompmicdieebhaaS3cmd6
import Derived.Test.YtompmicdieebhaaS3cmd8
import Derived.Test.YtompmicdieebhaaS3cmd9
namespace Go.Proofs.Ytompmicdieebhaa
open Go.RowKit
set_option maxRecDepth 100000

set_option maxRecDepth 100000 in
set_option maxHeartbeats 2000000 in
theorem specCmdOk_any (v : Value) (k : Int) (bx tt : List Int) (uid mode fl si : Int) (tx : List Int) (w : World) (hv : CmdV w v k bx tt uid mode fl si tx) :
    Calls Try.prog 10 #[v] w fun e w' => e = .returned (.bool (cmdB k bx tt uid mode fl si tx)) ∧ Below w.heap.size w w' := by
  obtain ⟨u0, u1, u2, rfl, g0, g1, g2, i0, i1, i2, i3, i4⟩ := hv
  have ab : ∀ o, Below w.heap.size w (w.alloc o) := fun o => (Below.refl _ _).alloc (Nat.le_refl _) o
  have H0 : Hid (∀ o, Bs (w.alloc o) u0 bx ∧ Bs (w.alloc o) u1 tt ∧ Bs (w.alloc o) u2 tx) := fun o => ⟨g0.below (ab o), g1.below (ab o), g2.below (ab o)⟩
  obtain ⟨a0, c0, rfl⟩ := g0.form
  obtain ⟨a1, c1, rfl⟩ := g1.form
  obtain ⟨a2, c2, rfl⟩ := g2.form
  obtain ⟨i10, i11⟩ := i1
  obtain ⟨i20, i21⟩ := i2
  obtain ⟨i30, i31⟩ := i3
  obtain ⟨i40, i41⟩ := i4
  obtain ⟨i00, i01⟩ := i0
  by_cases h : 0 ≤ k ∧ k ≤ 9
  · have hk : k = 0 ∨ k = 1 ∨ k = 2 ∨ k = 3 ∨ k = 4 ∨ k = 5 ∨ k = 6 ∨ k = 7 ∨ k = 8 ∨ k = 9 := by omega
    rcases hk with rfl | rfl | rfl | rfl | rfl | rfl | rfl | rfl | rfl | rfl
    · exact specCmdOk_A 0 (by omega) (by omega) (by omega) (by omega) (by omega) (by omega) (by omega) (by omega) a0 a1 a2 _ _ _ c0 c1 c2 bx tt uid mode fl si tx w ⟨rfl, rfl, rfl⟩ H0 i10 i11 i20 i21 i30 i31 i40 i41
    · exact specCmdOk_A 1 (by omega) (by omega) (by omega) (by omega) (by omega) (by omega) (by omega) (by omega) a0 a1 a2 _ _ _ c0 c1 c2 bx tt uid mode fl si tx w ⟨rfl, rfl, rfl⟩ H0 i10 i11 i20 i21 i30 i31 i40 i41
    · exact specCmdOk_2 a0 a1 a2 _ _ _ c0 c1 c2 bx tt uid mode fl si tx w ⟨rfl, rfl, rfl⟩ H0 i10 i11 i20 i21 i30 i31 i40 i41
    · exact specCmdOk_3 a0 a1 a2 _ _ _ c0 c1 c2 bx tt uid mode fl si tx w ⟨rfl, rfl, rfl⟩ H0 i10 i11 i20 i21 i30 i31 i40 i41
    · exact specCmdOk_A 4 (by omega) (by omega) (by omega) (by omega) (by omega) (by omega) (by omega) (by omega) a0 a1 a2 _ _ _ c0 c1 c2 bx tt uid mode fl si tx w ⟨rfl, rfl, rfl⟩ H0 i10 i11 i20 i21 i30 i31 i40 i41
    · exact specCmdOk_5 a0 a1 a2 _ _ _ c0 c1 c2 bx tt uid mode fl si tx w ⟨rfl, rfl, rfl⟩ H0 i10 i11 i20 i21 i30 i31 i40 i41
    · exact specCmdOk_6 a0 a1 a2 _ _ _ c0 c1 c2 bx tt uid mode fl si tx w ⟨rfl, rfl, rfl⟩ H0 i10 i11 i20 i21 i30 i31 i40 i41
    · exact specCmdOk_A 7 (by omega) (by omega) (by omega) (by omega) (by omega) (by omega) (by omega) (by omega) a0 a1 a2 _ _ _ c0 c1 c2 bx tt uid mode fl si tx w ⟨rfl, rfl, rfl⟩ H0 i10 i11 i20 i21 i30 i31 i40 i41
    · exact specCmdOk_8 a0 a1 a2 _ _ _ c0 c1 c2 bx tt uid mode fl si tx w ⟨rfl, rfl, rfl⟩ H0 i10 i11 i20 i21 i30 i31 i40 i41
    · exact specCmdOk_9 a0 a1 a2 _ _ _ c0 c1 c2 bx tt uid mode fl si tx w ⟨rfl, rfl, rfl⟩ H0 i10 i11 i20 i21 i30 i31 i40 i41
  · have HZ : Hid (cmdB k bx tt uid mode fl si tx = false) := by simp [Hid, cmdB, h]
    by_cases h1 : k < 0
    · go_enter Try.func10, Try.ntmps10
      go_wp2
      go_ret
      exact ⟨ret_b HZ.out, ab _⟩
    · have h2 : 9 < k := by omega
      go_enter Try.func10, Try.ntmps10
      go_wp2
      go_ret
      exact ⟨ret_b HZ.out, ab _⟩

end Go.Proofs.Ytompmicdieebhaa
