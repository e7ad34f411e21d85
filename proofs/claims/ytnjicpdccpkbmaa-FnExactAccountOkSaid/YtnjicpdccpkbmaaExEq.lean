/- What eqMail, eqMailS, eqGone, eqGoneS, eqBox of package laws do. -/
import Derived.Test.YtnjicpdccpkbmaaEx1
import Derived.Test.YtnjicpdccpkbmaaLibOwR
import Derived.Deep.RegionHeld3
namespace Go.Proofs.Ytnjicpdccpkbmaa
open Go.RowKit
set_option linter.unusedVariables false

set_option maxRecDepth 100000 in
set_option maxHeartbeats 1000000 in
theorem eqMail_yes (v u : Value) (x : MailD) (w : World) (hv : MailV w v x) (hu : MailV w u x) :
    Calls Try.prog 78 #[v, u] w fun e w' => e = .returned (.bool true) ∧ Below w.heap.size w w' := by
  obtain ⟨u0, rfl, g0, -⟩ := hv
  obtain ⟨u1, rfl, g1, -⟩ := hu
  obtain ⟨uid, flags, seq, text⟩ := x
  simp only at g0 g1
  have H0 : Hid (∀ wi, Below w.heap.size w wi → Bs wi u0 text ∧ Bs wi u1 text) := fun wi h => ⟨g0.below h, g1.below h⟩
  obtain ⟨a0, n0, c0, rfl⟩ := g0.form3
  obtain ⟨a1, n1, c1, rfl⟩ := g1.form3
  clear g0 g1
  simp only
  obtain ⟨kA, kB, X⟩ := boxes2 w (.cells #[.int .i64 uid, .int .i64 flags, .int .i64 seq, .slice a0 n0 c0] 84) (.cells #[.int .i64 uid, .int .i64 flags, .int .i64 seq, .slice a1 n1 c1] 84)
  go_enter Try.func78, Try.ntmps78
  go_wp2_with fail
  refine (eqByteS_yes _ _ text _ (H0.out _ X).1 (H0.out _ X).2).mono ?_
  rintro e w1 ⟨rfl, B⟩
  replace X := Below.step X B
  replace kA := box_below B kA
  replace kB := box_below B kB
  clear B
  obtain ⟨f0, f1, f2, f3⟩ := bx4 kA
  obtain ⟨e0, e1, e2, e3⟩ := bx4 kB
  go_wp2
  go_ret
  exact ⟨rfl, X⟩

set_option maxRecDepth 100000 in
set_option maxHeartbeats 1000000 in
theorem eqMailS_yes (v u : Value) (l : List MailD) (w : World) (hv : MailsV w v l) (hu : MailsV w u l) :
    Calls Try.prog 57 #[v, u] w fun e w' => e = .returned (.bool true) ∧ Below w.heap.size w w' := by
  have HV : Hid (∀ wi, Below w.heap.size w wi → MailsV wi v l ∧ MailsV wi u l) := fun wi h => ⟨hv.below keepsMail h, hu.below keepsMail h⟩
  obtain ⟨a, cap, rfl, hlc, hcm⟩ := hv.form
  obtain ⟨a2, cap2, rfl, hlc2, hcm2⟩ := hu.form
  clear hv hu
  go_enter Try.func57, Try.ntmps57
  go_wp2
  go_loopw [5] (fun i wr => ∃ k : Nat, k ≤ l.length ∧ i = .int .i64 k ∧ Hid (Below w.heap.size w wr)) (fun i _ => l.length - (intOf i).toNat)
  case atStart => exact ⟨0, Nat.zero_le _, rfl, Below.refl _ _⟩
  case round =>
    obtain ⟨k, hk, rfl, hB⟩ := hrel
    by_cases hlt : k < l.length
    · obtain ⟨x, hx⟩ : ∃ x, l[k]? = some x := ⟨l[k], List.getElem?_eq_getElem hlt⟩
      have DR : Below wr.heap.size wr wr.drew := (Below.refl _ _).drew
      obtain ⟨b, off, cap', u, hv', hlb, d0, d1, d2, d3, hu, i0, i1, i2⟩ := MailsV.cell (HV.out wr hB.out).1 k x hx
      obtain ⟨b2, off2, cap2', u2, hv2, hlb2, z0, z1, z2, z3, hu2, j0, j1, j2⟩ := MailsV.cell (HV.out wr hB.out).2 k x hx
      simp only [Value.slice.injEq, true_and] at hv' hv2
      obtain ⟨rfl, rfl⟩ := hv'
      obtain ⟨rfl, rfl⟩ := hv2
      obtain ⟨ua, un, uc, rfl⟩ := hu.form3
      obtain ⟨ta, tn, tc, rfl⟩ := hu2.form3
      have HA : Hid (MailV wr.drew (.agg #[.int .i64 x.uid, .int .i64 x.flags, .int .i64 x.seq, .slice ua un uc]) x ∧ MailV wr.drew (.agg #[.int .i64 x.uid, .int .i64 x.flags, .int .i64 x.seq, .slice ta tn tc]) x) := ⟨⟨_, rfl, hu.below DR, i0, i1, i2⟩, ⟨_, rfl, hu2.below DR, j0, j1, j2⟩⟩
      go_wp2
      go_region_held3 (fun w' => w'.cell? ⟨b, off + k * 4, none⟩ = some (.int .i64 x.uid) ∧ w'.cell? ⟨b, off + k * 4 + 1, none⟩ = some (.int .i64 x.flags) ∧ w'.cell? ⟨b, off + k * 4 + 2, none⟩ = some (.int .i64 x.seq) ∧ w'.cell? ⟨b, off + k * 4 + 3, none⟩ = some (.slice ua un uc) ∧ w'.cell? ⟨b2, off2 + k * 4, none⟩ = some (.int .i64 x.uid) ∧ w'.cell? ⟨b2, off2 + k * 4 + 1, none⟩ = some (.int .i64 x.flags) ∧ w'.cell? ⟨b2, off2 + k * 4 + 2, none⟩ = some (.int .i64 x.seq) ∧ w'.cell? ⟨b2, off2 + k * 4 + 3, none⟩ = some (.slice ta tn tc))
        (first | go_keep | exact ⟨d0, d1, d2, d3, z0, z1, z2, z3⟩ | exact ⟨(B.cell (p := ⟨_, _, none⟩) (by exact hlb)).trans d0, (B.cell (p := ⟨_, _, none⟩) (by exact hlb)).trans d1, (B.cell (p := ⟨_, _, none⟩) (by exact hlb)).trans d2, (B.cell (p := ⟨_, _, none⟩) (by exact hlb)).trans d3, (B.cell (p := ⟨_, _, none⟩) (by exact hlb2)).trans z0, (B.cell (p := ⟨_, _, none⟩) (by exact hlb2)).trans z1, (B.cell (p := ⟨_, _, none⟩) (by exact hlb2)).trans z2, (B.cell (p := ⟨_, _, none⟩) (by exact hlb2)).trans z3⟩)
        ((go_at_call 78; refine (eqMail_yes _ _ x _ HA.out.1 HA.out.2).mono ?_; rintro e w1 ⟨rfl, B⟩))
      have HB2 : Hid (Below w.heap.size w w1) := Below.step (Below.step hB.out DR) B
      clear d0 d1 d2 d3 z0 z1 z2 z3 B hB
      go_wp2
      go_roundw
      case rel => exact ⟨k + 1, by omega, by go_num, HB2⟩
      case measure => simp [intOf]; omega
    · go_wp2
      go_ret
      exact ⟨rfl, hB.out⟩

set_option maxRecDepth 100000 in
set_option maxHeartbeats 1000000 in
theorem eqGone_yes (v u : Value) (x : GoneD) (w : World) (hv : v = .agg #[.int .i64 x.uid, .int .i64 x.seq]) (hu : u = .agg #[.int .i64 x.uid, .int .i64 x.seq]) :
    Calls Try.prog 79 #[v, u] w fun e w' => e = .returned (.bool true) ∧ Below w.heap.size w w' := by
  subst hv
  subst hu
  obtain ⟨uid, seq⟩ := x
  simp only
  obtain ⟨kA, kB, X⟩ := boxes2 w (.cells #[.int .i64 uid, .int .i64 seq] 93) (.cells #[.int .i64 uid, .int .i64 seq] 93)
  go_enter Try.func79, Try.ntmps79
  go_wp2
  go_ret
  exact ⟨rfl, X⟩

set_option maxRecDepth 100000 in
set_option maxHeartbeats 1000000 in
theorem eqGoneS_yes (v u : Value) (l : List GoneD) (w : World) (hv : GonesV w v l) (hu : GonesV w u l) :
    Calls Try.prog 58 #[v, u] w fun e w' => e = .returned (.bool true) ∧ Below w.heap.size w w' := by
  have HV : Hid (∀ wi, Below w.heap.size w wi → GonesV wi v l ∧ GonesV wi u l) := fun wi h => ⟨hv.below keepsGone h, hu.below keepsGone h⟩
  obtain ⟨a, cap, rfl, hlc, hcm⟩ := hv.form
  obtain ⟨a2, cap2, rfl, hlc2, hcm2⟩ := hu.form
  clear hv hu
  go_enter Try.func58, Try.ntmps58
  go_wp2
  go_loopw [5] (fun i wr => ∃ k : Nat, k ≤ l.length ∧ i = .int .i64 k ∧ Hid (Below w.heap.size w wr)) (fun i _ => l.length - (intOf i).toNat)
  case atStart => exact ⟨0, Nat.zero_le _, rfl, Below.refl _ _⟩
  case round =>
    obtain ⟨k, hk, rfl, hB⟩ := hrel
    by_cases hlt : k < l.length
    · obtain ⟨x, hx⟩ : ∃ x, l[k]? = some x := ⟨l[k], List.getElem?_eq_getElem hlt⟩
      have DR : Below wr.heap.size wr wr.drew := (Below.refl _ _).drew
      obtain ⟨b, off, cap', hv', hlb, d0, d1, i0, i1⟩ := GonesV.cell (HV.out wr hB.out).1 k x hx
      obtain ⟨b2, off2, cap2', hv2, hlb2, z0, z1, j0, j1⟩ := GonesV.cell (HV.out wr hB.out).2 k x hx
      simp only [Value.slice.injEq, true_and] at hv' hv2
      obtain ⟨rfl, rfl⟩ := hv'
      obtain ⟨rfl, rfl⟩ := hv2
      have HA : Hid (True) := trivial
      go_wp2
      go_region_held3 (fun w' => w'.cell? ⟨b, off + k * 2, none⟩ = some (.int .i64 x.uid) ∧ w'.cell? ⟨b, off + k * 2 + 1, none⟩ = some (.int .i64 x.seq) ∧ w'.cell? ⟨b2, off2 + k * 2, none⟩ = some (.int .i64 x.uid) ∧ w'.cell? ⟨b2, off2 + k * 2 + 1, none⟩ = some (.int .i64 x.seq))
        (first | go_keep | exact ⟨d0, d1, z0, z1⟩ | exact ⟨(B.cell (p := ⟨_, _, none⟩) (by exact hlb)).trans d0, (B.cell (p := ⟨_, _, none⟩) (by exact hlb)).trans d1, (B.cell (p := ⟨_, _, none⟩) (by exact hlb2)).trans z0, (B.cell (p := ⟨_, _, none⟩) (by exact hlb2)).trans z1⟩)
        ((go_at_call 79; refine (eqGone_yes _ _ x _ rfl rfl).mono ?_; rintro e w1 ⟨rfl, B⟩))
      have HB2 : Hid (Below w.heap.size w w1) := Below.step (Below.step hB.out DR) B
      clear d0 d1 z0 z1 B hB
      go_wp2
      go_roundw
      case rel => exact ⟨k + 1, by omega, by go_num, HB2⟩
      case measure => simp [intOf]; omega
    · go_wp2
      go_ret
      exact ⟨rfl, hB.out⟩

set_option maxRecDepth 100000 in
set_option maxHeartbeats 1000000 in
theorem eqBox_yes (v u : Value) (x : BoxD) (w : World) (hv : BoxV w v x) (hu : BoxV w u x) :
    Calls Try.prog 20 #[v, u] w fun e w' => e = .returned (.bool true) ∧ Below w.heap.size w w' := by
  obtain ⟨u0, u1, u2, rfl, g0, g1, g2, -⟩ := hv
  obtain ⟨u3, u4, u5, rfl, g3, g4, g5, -⟩ := hu
  obtain ⟨name, valid, next, seq, mails, gones, lost⟩ := x
  simp only at g0 g1 g2 g3 g4 g5
  have H0 : Hid (∀ wi, Below w.heap.size w wi → (Bs wi u0 name ∧ Bs wi u3 name) ∧ (MailsV wi u1 mails ∧ MailsV wi u4 mails) ∧ (GonesV wi u2 gones ∧ GonesV wi u5 gones)) := fun wi h => ⟨⟨g0.below h, g3.below h⟩, ⟨g1.below keepsMail h, g4.below keepsMail h⟩, ⟨g2.below keepsGone h, g5.below keepsGone h⟩⟩
  obtain ⟨a0, n0, c0, rfl⟩ := g0.form3
  obtain ⟨a1, c1, rfl, -⟩ := g1.form
  obtain ⟨a2, c2, rfl, -⟩ := g2.form
  obtain ⟨a3, n3, c3, rfl⟩ := g3.form3
  obtain ⟨a4, c4, rfl, -⟩ := g4.form
  obtain ⟨a5, c5, rfl, -⟩ := g5.form
  clear g0 g1 g2 g3 g4 g5
  simp only
  obtain ⟨kA, kB, X⟩ := boxes2 w (.cells #[.slice a0 n0 c0, .int .i64 valid, .int .i64 next, .int .i64 seq, .slice a1 mails.length c1, .slice a2 gones.length c2, .int .i64 lost] 51) (.cells #[.slice a3 n3 c3, .int .i64 valid, .int .i64 next, .int .i64 seq, .slice a4 mails.length c4, .slice a5 gones.length c5, .int .i64 lost] 51)
  go_enter Try.func20, Try.ntmps20
  go_wp2_with fail
  refine (eqByteS_yes _ _ name _ (H0.out _ X).1.1 (H0.out _ X).1.2).mono ?_
  rintro e w1 ⟨rfl, B⟩
  replace X := Below.step X B
  replace kA := box_below B kA
  replace kB := box_below B kB
  clear B
  obtain ⟨f0, f1, f2, f3, f4, f5, f6⟩ := bx7 kA
  obtain ⟨e0, e1, e2, e3, e4, e5, e6⟩ := bx7 kB
  go_wp2_with fail
  clear f0 e0 f1 e1 f2 e2 f3 e3 f4 e4 f5 e5 f6 e6
  refine (eqMailS_yes _ _ mails _ (H0.out _ X).2.1.1 (H0.out _ X).2.1.2).mono ?_
  rintro e w2 ⟨rfl, B⟩
  replace X := Below.step X B
  replace kA := box_below B kA
  replace kB := box_below B kB
  clear B
  obtain ⟨f0, f1, f2, f3, f4, f5, f6⟩ := bx7 kA
  obtain ⟨e0, e1, e2, e3, e4, e5, e6⟩ := bx7 kB
  go_wp2_with fail
  clear f0 e0 f1 e1 f2 e2 f3 e3 f4 e4 f5 e5 f6 e6
  refine (eqGoneS_yes _ _ gones _ (H0.out _ X).2.2.1 (H0.out _ X).2.2.2).mono ?_
  rintro e w3 ⟨rfl, B⟩
  replace X := Below.step X B
  replace kA := box_below B kA
  replace kB := box_below B kB
  clear B
  obtain ⟨f0, f1, f2, f3, f4, f5, f6⟩ := bx7 kA
  obtain ⟨e0, e1, e2, e3, e4, e5, e6⟩ := bx7 kB
  go_wp2
  go_ret
  exact ⟨rfl, X⟩

end Go.Proofs.Ytnjicpdccpkbmaa
