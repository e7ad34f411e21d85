/- What slices.IndexFunc and slices.ContainsFunc do of bytes, whatever function is handed in. -/
import Derived.Test.YtompmicdieebhaaBase
import Derived.Test.YtompmicdieebhaaLibLog
import Derived.Test.YtompmicdieebhaaMailM
import Derived.Shelf.Abstract
namespace Go.Proofs.Ytompmicdieebhaa
open Go.RowKit Go.Shelf
set_option maxRecDepth 100000

set_option maxHeartbeats 400000 in
theorem indexFuncB (g : Nat) (lb : Array Value) (p : Int → Bool) (v : Value) (l : List Int) (w : World) (hv : Bs w v l) (eg : ∀ args w, (callFunc g args).run Try.prog w = .ok (.enter g args) w)
    (hp : ∀ x, 0 ≤ x → x ≤ 255 → Calls Try.prog g (#[.int .u8 x] ++ lb) w fun e w' => e = .returned (.bool (p x)) ∧ w' = w) :
    Calls Try.prog 31 #[v, .func (.func g) #[] lb] w fun e w' => e = .returned (.int .i64 (firstI p l)) ∧ w' = w := by
  obtain ⟨ho, a, cap, rfl, hlc, hcm, hnil, hcells⟩ := hv
  unfold maxLen at hcm
  go_enter Try.func31, Try.ntmps31
  go_wp2
  go_loop [5, 8] (fun _ i => ∃ k : Nat, k ≤ l.length ∧ i = .int .i64 k ∧ Hid (∀ j, j < k → p (l.getD j 0) = false)) (fun _ i => l.length - (intOf i).toNat)
  case atStart => exact ⟨0, Nat.zero_le _, rfl, fun j hj => absurd hj (Nat.not_lt_zero _)⟩
  case round =>
    obtain ⟨k, hk, rfl, hA⟩ := hrel
    by_cases hlt : k < l.length
    · obtain ⟨b, off, rfl, hlb, hc⟩ := hcells (by omega)
      have hx := hc k hlt
      have hbx := oct_get ho k
      generalize hy : l.getD k 0 = x at hx hbx
      have HX : Hid (l.getD k 0 = x) := hy
      clear hy hc hcells
      have hcall := hp x hbx.1 hbx.2
      clear hp
      cases hq : p x with
      | true =>
        rw [hq] at hcall
        go_wp2_with (go_at_fn g; refine hcall.mono ?_; rintro e w' ⟨rfl, rfl⟩)
        go_ret
        exact ⟨ret_i (firstI_hit hlt (by rw [HX.out]; exact hq) hA.out).symm, rfl⟩
      | false =>
        rw [hq] at hcall
        go_wp2_with (go_at_fn g; refine hcall.mono ?_; rintro e w' ⟨rfl, rfl⟩)
        go_round
        case rel =>
          refine ⟨k + 1, by omega, by go_num, (show Hid _ from fun j hj => ?_)⟩
          by_cases e : j = k
          · subst e; rw [HX.out]; exact hq
          · exact hA.out j (by omega)
        case measure => simp [intOf]; omega
    · obtain rfl : k = l.length := by omega
      go_wp2
      go_ret
      exact ⟨ret_i (firstI_none hA.out).symm, rfl⟩

set_option maxHeartbeats 400000 in
theorem containsFuncB (g : Nat) (lb : Array Value) (p : Int → Bool) (v : Value) (l : List Int) (w : World) (hv : Bs w v l) (eg : ∀ args w, (callFunc g args).run Try.prog w = .ok (.enter g args) w)
    (hp : ∀ x, 0 ≤ x → x ≤ 255 → Calls Try.prog g (#[.int .u8 x] ++ lb) w fun e w' => e = .returned (.bool (p x)) ∧ w' = w) :
    Calls Try.prog 29 #[v, .func (.func g) #[] lb] w fun e w' => e = .returned (.bool (l.any p)) ∧ w' = w := by
  have hi := indexFuncB g lb p v l w hv eg hp
  have HF : Hid (l.any p = decide (0 ≤ firstI p l)) := any_firstI p l
  generalize firstI p l = i at hi HF
  obtain ⟨ho, a, cap, rfl, -⟩ := hv
  clear hp
  go_enter Try.func29, Try.ntmps29
  go_wp2_with (go_at_call 31; refine hi.mono ?_; rintro e w' ⟨rfl, rfl⟩)
  go_ret
  exact ⟨ret_b HF.out, rfl⟩

end Go.Proofs.Ytompmicdieebhaa
