/- What l3mail and l3gone of package spec do. -/
import Derived.Test.YtnjicpdccpkbmaaI3has
namespace Go.Proofs.Ytnjicpdccpkbmaa
open Go.RowKit
set_option linter.unusedVariables false
set_option linter.unusedSimpArgs false

set_option maxRecDepth 100000 in
set_option maxHeartbeats 4000000 in
theorem l3mail_any (v : Value) (x : BoxD) (uid : Int) (w : World) (hv : BoxV w v x) :
    Calls Try.prog 48 #[v, .int .i64 uid] w fun e w' => e = .returned (.int .i64 (firstI (fun m => decide (m.uid = uid)) x.mails)) ∧ Below w.heap.size w w' := by
  obtain ⟨u0, u1, u2, rfl, g0, g1, g2, i0, i1, i2, i3⟩ := hv
  have H0 : Hid (∀ wi, Below w.heap.size w wi → Bs wi u0 x.name ∧ MailsV wi u1 x.mails ∧ GonesV wi u2 x.gones) := fun wi h => ⟨g0.below h, g1.below keepsMail h, g2.below keepsGone h⟩
  obtain ⟨a0, n0, c0, rfl⟩ := g0.form3
  obtain ⟨a1, c1, rfl, m0, m1⟩ := g1.form
  obtain ⟨a2, c2, rfl, m2, m3⟩ := g2.form
  clear g0 g1 g2
  have HX : Hid (Below w.heap.size w (w.alloc (.cells #[.slice a0 n0 c0, .int .i64 x.valid, .int .i64 x.next, .int .i64 x.seq, .slice a1 x.mails.length c1, .slice a2 x.gones.length c2, .int .i64 x.lost] 51))) := (Below.refl _ _).alloc (Nat.le_refl _) _
  go_enter Try.func48, Try.ntmps48
  go_wp2
  go_loop [5] (fun i => ∃ k : Nat, k ≤ x.mails.length ∧ i = .int .i64 k ∧ Hid (∀ j m, j < k → x.mails[j]? = some m → decide (m.uid = uid) = false)) (fun i => x.mails.length - (intOf i).toNat)
  case atStart => exact ⟨0, Nat.zero_le _, rfl, fun j m hj => absurd hj (Nat.not_lt_zero _)⟩
  case round =>
    obtain ⟨k, hk, rfl, hA⟩ := hrel
    by_cases hlt : k < x.mails.length
    · obtain ⟨m, hm⟩ : ∃ m, x.mails[k]? = some m := ⟨x.mails[k], List.getElem?_eq_getElem hlt⟩
      obtain ⟨b, off, cap', u, hv', hlb, d0, d1, d2, d3, hu, j0, j1, j2⟩ := MailsV.cell (H0.out _ HX.out).2.1 k m hm
      simp only [Value.slice.injEq, true_and] at hv'
      obtain ⟨rfl, rfl⟩ := hv'
      have HM : Hid (x.mails[k]? = some m) := hm
      clear hm hu d1 d2 d3
      by_cases he : m.uid = uid
      · have he' : (m.uid == uid) = true := by simpa using he
        have HE : Hid (m.uid = uid) := he
        clear he
        go_wp2
        go_ret
        exact ⟨ret_i (firstI_hit' hlt HM.out (by simpa using HE.out) hA.out).symm, HX.out⟩
      · have he' : (m.uid == uid) = false := by simpa using he
        have HE : Hid (m.uid ≠ uid) := he
        clear he
        go_wp2
        go_round
        case rel =>
          refine ⟨k + 1, by omega, by go_num, (show Hid _ from fun j y hj hy => ?_)⟩
          by_cases e : j = k
          · subst e; rw [HM.out] at hy; cases hy; simpa using HE.out
          · exact hA.out j y (by omega) hy
        case measure => simp [intOf]; omega
    · obtain rfl : k = x.mails.length := by omega
      go_wp2
      go_ret
      exact ⟨ret_i (firstI_none' hA.out).symm, HX.out⟩

set_option maxRecDepth 100000 in
set_option maxHeartbeats 4000000 in
theorem l3gone_any (v : Value) (l : List GoneD) (uid : Int) (w : World) (hv : GonesV w v l) :
    Calls Try.prog 49 #[v, .int .i64 uid] w fun e w' => e = .returned (.bool (l.any fun o => decide (o.uid = uid))) ∧ w' = w := by
  have HV : Hid (GonesV w v l) := hv
  obtain ⟨a, cap, rfl, hlc, hcm⟩ := hv.form
  clear hv
  go_enter Try.func49, Try.ntmps49
  go_wp2
  go_loop [5] (fun i => ∃ k : Nat, k ≤ l.length ∧ i = .int .i64 k ∧ Hid (∀ j m, j < k → l[j]? = some m → m.uid ≠ uid)) (fun i => l.length - (intOf i).toNat)
  case atStart => exact ⟨0, Nat.zero_le _, rfl, fun j m hj => absurd hj (Nat.not_lt_zero _)⟩
  case round =>
    obtain ⟨k, hk, rfl, hA⟩ := hrel
    by_cases hlt : k < l.length
    · obtain ⟨m, hm⟩ : ∃ m, l[k]? = some m := ⟨l[k], List.getElem?_eq_getElem hlt⟩
      obtain ⟨b, off, cap', hv', hlb, d0, d1, j0, j1⟩ := GonesV.cell HV.out k m hm
      simp only [Value.slice.injEq, true_and] at hv'
      obtain ⟨rfl, rfl⟩ := hv'
      have HM : Hid (l[k]? = some m) := hm
      clear hm d1
      by_cases he : m.uid = uid
      · have he' : (m.uid == uid) = true := by simpa using he
        have HE : Hid (m.uid = uid) := he
        clear he
        go_wp2
        go_ret
        exact ⟨ret_b (List.any_eq_true.2 ⟨m, List.mem_of_getElem? HM.out, by simpa using HE.out⟩), rfl⟩
      · have he' : (m.uid == uid) = false := by simpa using he
        have HE : Hid (m.uid ≠ uid) := he
        clear he
        go_wp2
        go_round
        case rel =>
          refine ⟨k + 1, by omega, by go_num, (show Hid _ from fun j y hj hy => ?_)⟩
          by_cases e : j = k
          · subst e; rw [HM.out] at hy; cases hy; exact HE.out
          · exact hA.out j y (by omega) hy
        case measure => simp [intOf]; omega
    · obtain rfl : k = l.length := by omega
      go_wp2
      go_ret
      refine ⟨ret_b (List.any_eq_false.2 fun m hm => ?_), rfl⟩
      obtain ⟨j, hj, rfl⟩ := List.getElem_of_mem hm
      simpa using hA.out j _ hj (List.getElem?_eq_getElem hj)

end Go.Proofs.Ytnjicpdccpkbmaa
