/- What szMail, szMailS, szGoneS, szBox of package laws do. -/
import Derived.Test.YtnjicpdccpkbmaaExLog0
import Derived.Test.YtnjicpdccpkbmaaLibOwR
namespace Go.Proofs.Ytnjicpdccpkbmaa
open Go.RowKit
set_option linter.unusedVariables false

def tot {α : Type} (f : α → Nat) (l : List α) : Nat := (l.map f).sum
theorem tot_succ {α : Type} (f : α → Nat) {l : List α} {k : Nat} {x : α} (hx : l[k]? = some x) : tot f (l.take (k + 1)) = tot f (l.take k) + f x := by
  obtain ⟨h, rfl⟩ := List.getElem?_eq_some_iff.1 hx
  unfold tot
  rw [List.take_succ_eq_append_getElem h, List.map_append, List.sum_append]
  simp
theorem szM_tot (l : List MailD) : szM l = tot (fun m => m.text.length) l + l.length := by
  induction l with
  | nil => rfl
  | cons x l ih => simp only [szM, tot, List.map_cons, List.sum_cons, List.length_cons] at ih ⊢; omega
theorem szXs_tot (l : List BoxD) : szXs l = tot szX l + l.length := by
  induction l with
  | nil => rfl
  | cons x l ih => simp only [szXs, tot, List.map_cons, List.sum_cons, List.length_cons] at ih ⊢; omega
theorem szByteS_e (v : Value) (l : List Int) (left : Int) (w : World) (hv : Bs w v l) (h0 : 0 ≤ left) (h1 : left ≤ 4000000) :
    Calls Try.prog 23 #[v, .int .i64 left] w fun e w' => ∃ y : Int, e = .returned (.int .i64 y) ∧ (y = -1 ∨ (0 ≤ y ∧ y + l.length = left)) ∧ Below w.heap.size w w' :=
  (szByteS_any v l left w hv h0 h1).mono fun _ _ ⟨h, hw⟩ => ⟨_, h, szL_or left l.length, by rw [hw]; exact Below.refl _ _⟩

set_option maxRecDepth 100000 in
set_option maxHeartbeats 1000000 in
theorem szMail_any (v : Value) (x : MailD) (left : Int) (w : World) (hv : MailV w v x) (h0 : 0 ≤ left) (h1 : left ≤ 4000000) :
    Calls Try.prog 71 #[v, .int .i64 left] w fun e w' => ∃ y : Int, e = .returned (.int .i64 y) ∧ (y = -1 ∨ (0 ≤ y ∧ y + x.text.length = left)) ∧ Below w.heap.size w w' := by
  obtain ⟨u, rfl, g0, -⟩ := hv
  obtain ⟨uid, flags, seq, text⟩ := x
  simp only at g0
  have H0 : Hid (∀ wi, Below w.heap.size w wi → Bs wi u text) := fun wi h => g0.below h
  obtain ⟨a0, n0, c0, rfl⟩ := g0.form3
  clear g0
  simp only
  have X : Below w.heap.size w (w.alloc (.cells #[.int .i64 uid, .int .i64 flags, .int .i64 seq, .slice a0 n0 c0] 104)) := (Below.refl _ _).alloc (Nat.le_refl _) _
  have kA := box_new w (.cells #[.int .i64 uid, .int .i64 flags, .int .i64 seq, .slice a0 n0 c0] 104)
  go_enter Try.func71, Try.ntmps71
  go_wp2_with fail
  refine (szByteS_e _ text left _ (H0.out _ X) h0 h1).mono ?_
  rintro e w1 ⟨y0, rfl, hy, B⟩
  replace X := Below.step X B
  replace kA := box_below B kA
  clear B
  obtain ⟨f0, f1, f2, f3⟩ := bx4 kA
  rcases hy with rfl | ⟨q0, p0⟩
  · go_wp2
    go_ret
    exact ⟨-1, rfl, .inl rfl, X⟩
  go_wp2
  go_ret
  exact ⟨y0, rfl, .inr ⟨q0, by omega⟩, X⟩

set_option maxRecDepth 100000 in
set_option maxHeartbeats 1000000 in
theorem szMailS_any (v : Value) (l : List MailD) (left : Int) (w : World) (hv : MailsV w v l) (h0 : 0 ≤ left) (h1 : left ≤ 4000000) :
    Calls Try.prog 46 #[v, .int .i64 left] w fun e w' => ∃ y : Int, e = .returned (.int .i64 y) ∧ (y = -1 ∨ (0 ≤ y ∧ y + szM l = left)) ∧ Below w.heap.size w w' := by
  have HV : Hid (∀ wi, Below w.heap.size w wi → MailsV wi v l) := fun wi h => hv.below keepsMail h
  obtain ⟨a, cap, rfl, hlc, hcm⟩ := hv.form
  clear hv
  by_cases hb : left - (l.length : Int) < 0
  · go_enter Try.func46, Try.ntmps46
    go_wp2
    go_ret
    exact ⟨-1, rfl, .inl rfl, Below.refl _ _⟩
  · go_enter Try.func46, Try.ntmps46
    go_wp2
    go_loopw [1, 5] (fun q i wr => ∃ (k : Nat) (y : Int), k ≤ l.length ∧ i = .int .i64 k ∧ q = .int .i64 y ∧ 0 ≤ y ∧ Hid (y + l.length + tot (fun m => m.text.length) (l.take k) = left) ∧ Hid (Below w.heap.size w wr)) (fun _ i _ => l.length - (intOf i).toNat)
    case atStart => exact ⟨0, left - l.length, Nat.zero_le _, rfl, rfl, by omega, (show Hid _ from by simp [Hid, tot]), Below.refl _ _⟩
    case round =>
      obtain ⟨k, y, hk, rfl, rfl, hy0, hy1, hB⟩ := hrel
      by_cases hlt : k < l.length
      · obtain ⟨x, hx⟩ : ∃ x, l[k]? = some x := ⟨l[k], List.getElem?_eq_getElem hlt⟩
        obtain ⟨b, off, cap', u, hv', hlb, d0, d1, d2, d3, hu, i0, i1, i2⟩ := MailsV.cell (HV.out wr hB.out) k x hx
        simp only [Value.slice.injEq, true_and] at hv'
        obtain ⟨rfl, rfl⟩ := hv'
        obtain ⟨ua, un, uc, rfl⟩ := hu.form3
        have HT : Hid (tot (fun m => m.text.length) (l.take (k + 1)) = tot (fun m => m.text.length) (l.take k) + (fun m => m.text.length) x) := tot_succ _ hx
        go_wp2_with fail
        refine (szMail_any _ x _ _ ⟨_, rfl, hu, i0, i1, i2⟩ hy0 (by have := hy1.out; omega)).mono ?_
        rintro e w2 ⟨y2, rfl, hy2, B⟩
        have HB2 : Hid (Below w.heap.size w w2) := Below.step hB.out B
        clear B hB d0 d1 d2 d3
        rcases hy2 with rfl | ⟨q0, q1⟩
        · go_wp2
          go_ret
          exact ⟨-1, rfl, .inl rfl, HB2.out⟩
        · have HE : Hid (y2 + l.length + tot (fun m => m.text.length) (l.take (k + 1)) = left) := by
            have h1 := HT.out
            have h2 := hy1.out
            simp only [Hid]
            omega
          clear q1
          go_wp2
          go_roundw
          case rel => exact ⟨k + 1, y2, by omega, by go_num, rfl, q0, HE, HB2⟩
          case measure => simp [intOf]; omega
      · obtain rfl : k = l.length := by omega
        go_wp2
        go_ret
        refine ⟨y, rfl, .inr ⟨hy0, ?_⟩, hB.out⟩
        have h2 := hy1.out
        rw [List.take_length] at h2
        have h3 := szM_tot l
        omega

set_option maxRecDepth 100000 in
set_option maxHeartbeats 1000000 in
theorem szGoneS_any (v : Value) (l : List GoneD) (left : Int) (w : World) (hv : GonesV w v l) (h0 : 0 ≤ left) (h1 : left ≤ 4000000) :
    Calls Try.prog 47 #[v, .int .i64 left] w fun e w' => ∃ y : Int, e = .returned (.int .i64 y) ∧ (y = -1 ∨ (0 ≤ y ∧ y + l.length = left)) ∧ Below w.heap.size w w' := by
  obtain ⟨a, cap, rfl, hlc, hcm⟩ := hv.form
  clear hv
  by_cases hb : left - (l.length : Int) < 0
  · go_enter Try.func47, Try.ntmps47
    go_wp2
    go_ret
    exact ⟨-1, rfl, .inl rfl, Below.refl _ _⟩
  · go_enter Try.func47, Try.ntmps47
    go_wp2
    go_ret
    exact ⟨left - l.length, rfl, .inr ⟨by omega, by omega⟩, Below.refl _ _⟩

set_option maxRecDepth 100000 in
set_option maxHeartbeats 1000000 in
theorem szBox_any (v : Value) (x : BoxD) (left : Int) (w : World) (hv : BoxV w v x) (h0 : 0 ≤ left) (h1 : left ≤ 4000000) :
    Calls Try.prog 16 #[v, .int .i64 left] w fun e w' => ∃ y : Int, e = .returned (.int .i64 y) ∧ (y = -1 ∨ (0 ≤ y ∧ y + szX x = left)) ∧ Below w.heap.size w w' := by
  obtain ⟨u0, u1, u2, rfl, g0, g1, g2, -⟩ := hv
  unfold szX
  obtain ⟨name, valid, next, seq, mails, gones, lost⟩ := x
  simp only at g0 g1 g2
  have H0 : Hid (∀ wi, Below w.heap.size w wi → Bs wi u0 name ∧ MailsV wi u1 mails ∧ GonesV wi u2 gones) := fun wi h => ⟨g0.below h, g1.below keepsMail h, g2.below keepsGone h⟩
  obtain ⟨a0, n0, c0, rfl⟩ := g0.form3
  obtain ⟨a1, c1, rfl, -⟩ := g1.form
  obtain ⟨a2, c2, rfl, -⟩ := g2.form
  clear g0 g1 g2
  simp only
  have X : Below w.heap.size w (w.alloc (.cells #[.slice a0 n0 c0, .int .i64 valid, .int .i64 next, .int .i64 seq, .slice a1 mails.length c1, .slice a2 gones.length c2, .int .i64 lost] 46)) := (Below.refl _ _).alloc (Nat.le_refl _) _
  have kA := box_new w (.cells #[.slice a0 n0 c0, .int .i64 valid, .int .i64 next, .int .i64 seq, .slice a1 mails.length c1, .slice a2 gones.length c2, .int .i64 lost] 46)
  go_enter Try.func16, Try.ntmps16
  go_wp2_with fail
  refine (szByteS_e _ name left _ (H0.out _ X).1 h0 h1).mono ?_
  rintro e w1 ⟨y0, rfl, hy, B⟩
  replace X := Below.step X B
  replace kA := box_below B kA
  clear B
  obtain ⟨f0, f1, f2, f3, f4, f5, f6⟩ := bx7 kA
  rcases hy with rfl | ⟨q0, p0⟩
  · go_wp2
    go_ret
    exact ⟨-1, rfl, .inl rfl, X⟩
  go_wp2_with fail
  clear f0 f1 f2 f3 f4 f5 f6
  refine (szMailS_any _ mails y0 _ (H0.out _ X).2.1 q0 (by omega)).mono ?_
  rintro e w2 ⟨y1, rfl, hy, B⟩
  replace X := Below.step X B
  replace kA := box_below B kA
  clear B
  obtain ⟨f0, f1, f2, f3, f4, f5, f6⟩ := bx7 kA
  rcases hy with rfl | ⟨q1, p1⟩
  · go_wp2
    go_ret
    exact ⟨-1, rfl, .inl rfl, X⟩
  go_wp2_with fail
  clear f0 f1 f2 f3 f4 f5 f6
  refine (szGoneS_any _ gones y1 _ (H0.out _ X).2.2 q1 (by omega)).mono ?_
  rintro e w3 ⟨y2, rfl, hy, B⟩
  replace X := Below.step X B
  replace kA := box_below B kA
  clear B
  obtain ⟨f0, f1, f2, f3, f4, f5, f6⟩ := bx7 kA
  rcases hy with rfl | ⟨q2, p2⟩
  · go_wp2
    go_ret
    exact ⟨-1, rfl, .inl rfl, X⟩
  go_wp2
  go_ret
  exact ⟨y2, rfl, .inr ⟨q2, by omega⟩, X⟩

end Go.Proofs.Ytnjicpdccpkbmaa
