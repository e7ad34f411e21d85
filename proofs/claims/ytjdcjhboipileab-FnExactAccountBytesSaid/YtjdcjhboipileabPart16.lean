/- The proof's texts, part 16. -/
import Derived.Test.YtjdcjhboipileabPart6
import Derived.Test.YtjdcjhboipileabPart5
import Derived.Test.YtjdcjhboipileabPart1
import Derived.Shelf.Abstract
import Derived.Lib.BytesEntry
import Derived.Lib.Bytealg
import Derived.Deep.RegionHeld3
import Derived.Test.YtjdcjhboipileabPart15

/- What boxOk of package impl do. -/
namespace Go.Proofs.Ytjdcjhboipileab
open Go.RowKit Go.Shelf
set_option maxRecDepth 100000
set_option linter.unusedVariables false

set_option maxRecDepth 100000 in
set_option maxHeartbeats 1000000 in
theorem boxOk_any (v : Value) (x : BoxD) (mv : Int) (w : World) (hv : BoxV w v x) :
    Calls Try.prog 33 #[v, .int .i64 mv] w fun e w' => e = .returned (.bool (boxB x mv)) ∧ Below w.heap.size w w' := by
  have HV : Hid (∀ wi, Below w.heap.size w wi → BoxV wi v x) := fun wi h => hv.below h
  obtain ⟨u0, u1, u2, rfl, g0, g1, g2, i0, i1, i2, i3⟩ := hv
  have H0 : Hid (∀ wi, Below w.heap.size w wi → Bs wi u0 x.name ∧ MailsV wi u1 x.mails ∧ GonesV wi u2 x.gones) := fun wi h => ⟨g0.below h, g1.below keepsMail h, g2.below keepsGone h⟩
  obtain ⟨a0, n0, c0, rfl⟩ := g0.form3
  obtain ⟨a1, c1, rfl, m0, m1⟩ := g1.form
  obtain ⟨a2, c2, rfl, m2, m3⟩ := g2.form
  have kA := box_new w (.cells #[.slice a0 n0 c0, .int .i64 x.valid, .int .i64 x.next, .int .i64 x.seq, .slice a1 x.mails.length c1, .slice a2 x.gones.length c2, .int .i64 x.lost] 49)
  have X : Below w.heap.size w (w.alloc (.cells #[.slice a0 n0 c0, .int .i64 x.valid, .int .i64 x.next, .int .i64 x.seq, .slice a1 x.mails.length c1, .slice a2 x.gones.length c2, .int .i64 x.lost] 49)) := (Below.refl _ _).alloc (Nat.le_refl _) _
  clear g0 g1 g2
  have HC : Hid (boxB x mv = (nameB x.name && (inB x.valid 1 mv && (inB x.next 1 1000000 && (inB x.seq 0 1000000 && (inB x.lost 0 x.seq && (mailsB x && gonesB x))))))) := rfl
  have HN : Hid (inB x.next 1 1000000 = true → 1 ≤ x.next ∧ x.next ≤ 1000000) := by intro h; simp [inB] at h; exact h
  have hy1 := fun wi (h : Bs wi (.slice a0 n0 c0) x.name) => nameOk_any _ x.name wi h
  have hy2 := within_any x.valid 1 mv
  have hy3 := within_any x.next 1 1000000
  have hy4 := within_any x.seq 0 1000000
  have hy5 := within_any x.lost 0 x.seq
  have hy6 := fun wi (h : BoxV wi (.agg #[.slice a0 n0 c0, .int .i64 x.valid, .int .i64 x.next, .int .i64 x.seq, .slice a1 x.mails.length c1, .slice a2 x.gones.length c2, .int .i64 x.lost]) x) h1 h2 => mailsOk_any _ x wi h h1 h2
  have hy7 := fun wi (h : BoxV wi (.agg #[.slice a0 n0 c0, .int .i64 x.valid, .int .i64 x.next, .int .i64 x.seq, .slice a1 x.mails.length c1, .slice a2 x.gones.length c2, .int .i64 x.lost]) x) h1 h2 => gonesOk_any _ x wi h h1 h2
  generalize nameB x.name = X1 at HC hy1
  generalize inB x.valid 1 mv = X2 at HC hy2
  generalize inB x.next 1 1000000 = X3 at HC hy3 HN
  generalize inB x.seq 0 1000000 = X4 at HC hy4
  generalize inB x.lost 0 x.seq = X5 at HC hy5
  generalize mailsB x = X6 at HC hy6
  generalize gonesB x = X7 at HC hy7
  go_enter Try.func33, Try.ntmps33
  go_wp2_with fail
  refine (hy1 _ (H0.out _ X).1).mono ?_
  rintro e w1 ⟨rfl, B⟩
  replace kA := box_below B kA
  replace X := Below.step X B
  clear B hy1
  obtain ⟨f0, f1, f2, f3, f4, f5, f6⟩ := bx7 kA
  cases X1 with
  | false =>
    go_wp2
    go_ret
    exact ⟨ret_b HC.out, X⟩
  | true =>
  go_wp2_with fail
  refine (hy2 _).mono ?_
  rintro e w' ⟨rfl, rfl⟩
  cases X2 with
  | false =>
    go_wp2
    go_ret
    exact ⟨ret_b HC.out, X⟩
  | true =>
  go_wp2_with fail
  refine (hy3 _).mono ?_
  rintro e w' ⟨rfl, rfl⟩
  cases X3 with
  | false =>
    go_wp2
    go_ret
    exact ⟨ret_b HC.out, X⟩
  | true =>
  obtain ⟨hn0, hn1⟩ := HN.out rfl
  go_wp2_with fail
  refine (hy4 _).mono ?_
  rintro e w' ⟨rfl, rfl⟩
  cases X4 with
  | false =>
    go_wp2
    go_ret
    exact ⟨ret_b HC.out, X⟩
  | true =>
  go_wp2_with fail
  refine (hy5 _).mono ?_
  rintro e w' ⟨rfl, rfl⟩
  cases X5 with
  | false =>
    go_wp2
    go_ret
    exact ⟨ret_b HC.out, X⟩
  | true =>
  go_wp2_with fail
  refine (hy6 _ (HV.out _ X) hn0 hn1).mono ?_
  rintro e w2 ⟨rfl, B⟩
  replace kA := box_below B kA
  replace X := Below.step X B
  clear B hy6 f0 f1 f2 f3 f4 f5 f6
  obtain ⟨f0, f1, f2, f3, f4, f5, f6⟩ := bx7 kA
  cases X6 with
  | false =>
    go_wp2
    go_ret
    exact ⟨ret_b HC.out, X⟩
  | true =>
  go_wp2_with fail
  refine (hy7 _ (HV.out _ X) hn0 hn1).mono ?_
  rintro e w3 ⟨rfl, B⟩
  replace X := Below.step X B
  go_wp2
  go_ret
  exact ⟨ret_b HC.out, X⟩

end Go.Proofs.Ytjdcjhboipileab

/- What slices.IndexFunc and slices.ContainsFunc of boxes do. -/
namespace Go.Proofs.Ytjdcjhboipileab
open Go.RowKit Go.Shelf
set_option maxRecDepth 100000
set_option linter.unusedVariables false

set_option maxRecDepth 100000 in
set_option maxHeartbeats 1000000 in
theorem indexFuncBox (g : Nat) (lb : Array Value) (p : BoxD → Bool) (v : Value) (l : List BoxD) (w : World) (hv : BoxesV w v l) (eg : ∀ args w, (callFunc g args).run Try.prog w = .ok (.enter g args) w)
    (hp : ∀ wi x u, Below w.heap.size w wi → BoxV wi u x → Calls Try.prog g (#[u] ++ lb) wi fun e w' => e = .returned (.bool (p x)) ∧ Below wi.heap.size wi w') :
    Calls Try.prog 57 #[v, .func (.func g) #[] lb] w fun e w' => e = .returned (.int .i64 (firstI p l)) ∧ Below w.heap.size w w' := by
  have HV : Hid (∀ wi, Below w.heap.size w wi → BoxesV wi v l) := fun wi h => hv.below keepsBox h
  have HP : Hid (∀ wi x u, Below w.heap.size w wi → BoxV wi u x → Calls Try.prog g (#[u] ++ lb) wi fun e w' => e = .returned (.bool (p x)) ∧ Below wi.heap.size wi w') := hp
  obtain ⟨a, cap, rfl, hlc, hcm⟩ := hv.form
  clear hv hp
  go_enter Try.func57, Try.ntmps57
  go_wp2
  go_loopw [5, 8] (fun _ i wr => ∃ k : Nat, k ≤ l.length ∧ i = .int .i64 k ∧ Hid (∀ j x, j < k → l[j]? = some x → p x = false) ∧ Hid (Below w.heap.size w wr)) (fun _ i _ => l.length - (intOf i).toNat)
  case atStart => exact ⟨0, Nat.zero_le _, rfl, (fun j x hj => absurd hj (Nat.not_lt_zero _)), Below.refl _ _⟩
  case round =>
    obtain ⟨k, hk, rfl, hA, hB⟩ := hrel
    by_cases hlt : k < l.length
    · obtain ⟨x, hx⟩ : ∃ x, l[k]? = some x := ⟨l[k], List.getElem?_eq_getElem hlt⟩
      obtain ⟨b, off, cap', u0, u1, u2, hv', hlb, d0, d1, d2, d3, d4, d5, d6, hu0, hu1, hu2, i0, i1, i2, i3⟩ := BoxesV.cell (HV.out wr hB.out) k x hx
      simp only [Value.slice.injEq, true_and] at hv'
      obtain ⟨rfl, rfl⟩ := hv'
      obtain ⟨ua, un, uc, rfl⟩ := hu0.form3
      obtain ⟨va, vc, rfl, -⟩ := hu1.form
      obtain ⟨wa, wc, rfl, -⟩ := hu2.form
      have hcall := HP.out wr x (.agg #[.slice ua un uc, .int .i64 x.valid, .int .i64 x.next, .int .i64 x.seq, .slice va x.mails.length vc, .slice wa x.gones.length wc, .int .i64 x.lost]) hB.out ⟨_, _, _, rfl, hu0, hu1, hu2, i0, i1, i2, i3⟩
      have HX : Hid (l[k]? = some x) := hx
      clear hx
      cases hq : p x with
      | true =>
        rw [hq] at hcall
        have HQ : Hid (p x = true) := hq
        clear hq
        go_wp2_with (go_at_fn g; refine hcall.mono ?_; rintro e w1 ⟨rfl, B⟩)
        go_ret
        exact ⟨ret_i (firstI_hit' hlt HX.out HQ.out hA.out).symm, Below.step hB.out B⟩
      | false =>
        rw [hq] at hcall
        have HQ : Hid (p x = false) := hq
        clear hq
        go_wp2_with (go_at_fn g; refine hcall.mono ?_; rintro e w1 ⟨rfl, B⟩)
        have HB2 : Hid (Below w.heap.size w w1) := Below.step hB.out B
        clear B hB
        go_roundw
        case rel =>
          refine ⟨k + 1, by omega, by go_num, (show Hid _ from fun j y hj hy => ?_), HB2⟩
          by_cases e : j = k
          · subst e; rw [HX.out] at hy; cases hy; exact HQ.out
          · exact hA.out j y (by omega) hy
        case measure => simp [intOf]; omega
    · obtain rfl : k = l.length := by omega
      go_wp2
      go_ret
      exact ⟨ret_i (firstI_none' hA.out).symm, hB.out⟩

set_option maxRecDepth 100000 in
set_option maxHeartbeats 1000000 in
theorem containsFuncBox (g : Nat) (lb : Array Value) (p : BoxD → Bool) (v : Value) (l : List BoxD) (w : World) (hv : BoxesV w v l) (eg : ∀ args w, (callFunc g args).run Try.prog w = .ok (.enter g args) w)
    (hp : ∀ wi x u, Below w.heap.size w wi → BoxV wi u x → Calls Try.prog g (#[u] ++ lb) wi fun e w' => e = .returned (.bool (p x)) ∧ Below wi.heap.size wi w') :
    Calls Try.prog 35 #[v, .func (.func g) #[] lb] w fun e w' => e = .returned (.bool (l.any p)) ∧ Below w.heap.size w w' := by
  have hi := indexFuncBox g lb p v l w hv eg hp
  have HF : Hid (l.any p = decide (0 ≤ firstI p l)) := any_firstI p l
  generalize firstI p l = i at hi HF
  obtain ⟨a, cap, rfl, -⟩ := hv.form
  clear hp hv
  go_enter Try.func35, Try.ntmps35
  go_wp2_with (go_at_call 57; refine hi.mono ?_; rintro e w1 ⟨rfl, B⟩)
  go_ret
  exact ⟨ret_b HF.out, B⟩

end Go.Proofs.Ytjdcjhboipileab

/- What bytes.Compare do. -/
namespace Go.Proofs.Ytjdcjhboipileab
open Go.RowKit Go.Shelf
set_option maxRecDepth 100000
set_option linter.unusedVariables false

/-- The bytes of a slice, as the model's entries take them. -/
theorem run_bytesOf_bs {w : World} {v : Value} {l : List Int} (h : Bs w v l) : (Extern.Bytes.bytesOf v).run Try.prog w = .ok ⟨(bts l).toArray⟩ w := by
  obtain ⟨ho, a, cap, rfl, h1, h2, h3, h4⟩ := h
  cases a with
  | none =>
    have hc := h3 rfl
    have : l = [] := List.eq_nil_of_length_eq_zero (by omega)
    subst this
    rfl
  | some ad =>
    have key : ∀ j x, l[j]? = some x → w.cell? (ad.add j) = some (.int .u8 x) := by
      intro j x hj
      have hjl : j < l.length := (List.getElem?_eq_some_iff.1 hj).1
      obtain ⟨b, off, had, -, hc⟩ := h4 (by omega)
      cases had
      rw [Addr.add_lit, hc j hjl]
      simp [List.getD, hj]
    have := Lib.run_loadBytesX (P := Try.prog) w l ad .empty key
    simp only [Extern.Bytes.bytesOf]
    rw [this]
    congr 1
    apply ByteArray.ext
    show (#[] : Array UInt8) ++ _ = _
    simp only [Array.empty_append]
    rfl
theorem run_compare_bs {w : World} {v u : Value} {l m : List Int} (hv : Bs w v l) (hu : Bs w u m) : (Extern.BytealgCompare.compare #[v, u]).run Try.prog w = .ok (.int .i64 (Lib.compareBytes (bts l) (bts m))) w := by
  change Sem.run Try.prog (do pure (goInt (Extern.BytealgCompare.cmp (← Extern.Bytes.bytesOf v) (← Extern.Bytes.bytesOf u)))) w = _
  simp only [Sem.run_bind, Sem.run_pure, run_bytesOf_bs hv, run_bytesOf_bs hu, Result.andThen]
  rw [Lib.cmp_eq]
  rfl

set_option maxRecDepth 100000 in
set_option maxHeartbeats 1000000 in
theorem compare_any (v u : Value) (l m : List Int) (w : World) (hv : Bs w v l) (hu : Bs w u m) :
    Calls Try.prog 34 #[v, u] w fun e w' => e = .returned (.int .i64 (Lib.compareBytes (bts l) (bts m))) ∧ w' = w := by
  have h8 := @run_callFunc_extern Try.prog 56 _ Extern.BytealgCompare.compare Try.func56 (by kernel_rfl) (by kernel_rfl) (by kernel_rfl) (by kernel_rfl)
  have hr := run_compare_bs hv hu
  obtain ⟨a, n, c, rfl⟩ := hv.form3
  obtain ⟨a', n', c', rfl⟩ := hu.form3
  clear hv hu
  generalize Lib.compareBytes (bts l) (bts m) = r at hr
  go_enter Try.func34, Try.ntmps34
  go_wp2
  go_ret
  exact ⟨rfl, rfl⟩

end Go.Proofs.Ytjdcjhboipileab

/- What AccountOk of package impl do. -/
namespace Go.Proofs.Ytjdcjhboipileab
open Go.RowKit Go.Shelf
set_option maxRecDepth 100000
set_option linter.unusedVariables false

set_option maxRecDepth 100000 in
set_option maxHeartbeats 1000000 in
theorem accountOk1_any (u : Value) (m : BoxD) (bg : Nat) (vd : Int) (w : World) (hu : BoxV w u m) (hc : w.cell? ⟨bg, 1, none⟩ = some (.int .i64 vd)) (hb : bg < w.heap.size) :
    Calls Try.prog 36 #[u, .pointer (some ⟨bg, 0, none⟩)] w fun e w' => e = .returned (.bool (decide (m.valid = vd))) ∧ Below w.heap.size w w' := by
  obtain ⟨u0, u1, u2, rfl, g0, g1, g2, -⟩ := hu
  obtain ⟨a0, n0, c0, rfl⟩ := g0.form3
  obtain ⟨a1, c1, rfl, -⟩ := g1.form
  obtain ⟨a2, c2, rfl, -⟩ := g2.form
  clear g0 g1 g2
  obtain ⟨name, valid, next, seq, mails, gones, lost⟩ := m
  simp only
  go_enter Try.func36, Try.ntmps36
  go_wp2
  go_ret
  exact ⟨ret_b (by rw [Bool.eq_iff_iff]; simp), (Below.refl _ _).alloc (Nat.le_refl _) _⟩

set_option maxRecDepth 100000 in
set_option maxHeartbeats 4000000 in
theorem implAccountOk_any (v : Value) (x : AccD) (w : World) (hv : AccV w v x) :
    Calls Try.prog 19 #[v] w fun e w' => e = .returned (.bool (accB x)) ∧ Below w.heap.size w w' := by
  obtain ⟨u0, u1, rfl, g0, g1, i0⟩ := hv
  have H0 : Hid (∀ wi, Below w.heap.size w wi → BoxesV wi u0 x.boxes ∧ IntsV wi u1 x.seen) := fun wi h => ⟨g0.below keepsBox h, g1.below keepsInt h⟩
  obtain ⟨a0, c0, rfl, m0, m1⟩ := g0.form
  obtain ⟨a1, c1, rfl, m2, m3⟩ := g1.form
  clear g0 g1
  have HK : Hid ((w.alloc (.cells #[.int .i64 x.valid, .slice a0 x.boxes.length c0, .slice a1 x.seen.length c1] 32)).heap[w.heap.size]? = some (.cells #[.int .i64 x.valid, .slice a0 x.boxes.length c0, .slice a1 x.seen.length c1] 32)) := box_new w _
  have HX : Hid (Below w.heap.size w (w.alloc (.cells #[.int .i64 x.valid, .slice a0 x.boxes.length c0, .slice a1 x.seen.length c1] 32))) := (Below.refl _ _).alloc (Nat.le_refl _) _
  have HC : Hid (accB x = (inB x.valid 0 1000000 && (decide (x.boxes.length ≤ 4) && (seenB x.seen && (List.range x.boxes.length).all (boxAt x))))) := rfl
  have hy1 := within_any x.valid 0 1000000
  have hy2 := seenOk_any _ x.seen _ (H0.out _ HX.out).2
  generalize inB x.valid 0 1000000 = X1 at HC hy1
  generalize seenB x.seen = X2 at HC hy2
  cases X1 with
  | false =>
    go_enter Try.func19, Try.ntmps19
    go_wp2_with fail
    refine (hy1 _).mono ?_
    rintro e w' ⟨rfl, rfl⟩
    go_wp2
    go_ret
    exact ⟨ret_b HC.out, HX.out⟩
  | true =>
  rcases Nat.lt_or_ge 4 x.boxes.length with h4 | h4
  · rw [decide_eq_false (Nat.not_le_of_lt h4)] at HC
    have h4' : (4 : Int) < x.boxes.length := by omega
    go_enter Try.func19, Try.ntmps19
    go_wp2_with fail
    refine (hy1 _).mono ?_
    rintro e w' ⟨rfl, rfl⟩
    go_wp2
    go_ret
    exact ⟨ret_b HC.out, HX.out⟩
  rw [decide_eq_true h4] at HC
  have h4' : (x.boxes.length : Int) ≤ 4 := by omega
  cases X2 with
  | false =>
    go_enter Try.func19, Try.ntmps19
    go_wp2_with fail
    refine (hy1 _).mono ?_
    rintro e w' ⟨rfl, rfl⟩
    go_wp2_with fail
    refine hy2.mono ?_
    rintro e w' ⟨rfl, rfl⟩
    go_wp2
    go_ret
    exact ⟨ret_b HC.out, HX.out⟩
  | true =>
  have HS : Hid (accB x = (List.range x.boxes.length).all (boxAt x)) := HC.out
  clear HC
  go_enter Try.func19, Try.ntmps19
  go_wp2_with fail
  refine (hy1 _).mono ?_
  rintro e w' ⟨rfl, rfl⟩
  go_wp2_with fail
  refine hy2.mono ?_
  rintro e w' ⟨rfl, rfl⟩
  clear hy1 hy2
  go_wp2
  go_loopw [3, 4, 5, 25] (fun _ _ _ i wr => ∃ k : Nat, k ≤ x.boxes.length ∧ i = .int .i64 k ∧ Hid (∀ j, j < k → boxAt x j = true) ∧ Hid (wr.heap[w.heap.size]? = some (.cells #[.int .i64 x.valid, .slice a0 x.boxes.length c0, .slice a1 x.seen.length c1] 32)) ∧ Hid (Below w.heap.size w wr)) (fun _ _ _ i _ => x.boxes.length - (intOf i).toNat)
  case atStart => exact ⟨0, Nat.zero_le _, rfl, (fun j hj => absurd hj (Nat.not_lt_zero _)), HK, HX⟩
  case round =>
    obtain ⟨k, hk, rfl, hA, hK, hB⟩ := hrel
    by_cases hlt : k < x.boxes.length
    · obtain ⟨m, hm⟩ : ∃ m, x.boxes[k]? = some m := ⟨x.boxes[k], List.getElem?_eq_getElem hlt⟩
      obtain ⟨b, off, cap', u0, u1, u2, hv', hlb, d0, d1, d2, d3, d4, d5, d6, hu0, hu1, hu2, j0, j1, j2, j3⟩ := BoxesV.cell (H0.out wr hB.out).1 k m hm
      simp only [Value.slice.injEq, true_and] at hv'
      obtain ⟨rfl, rfl⟩ := hv'
      obtain ⟨ua, un, uc, rfl⟩ := hu0.form3
      obtain ⟨va, vc, rfl, -⟩ := hu1.form
      obtain ⟨wa, wc, rfl, -⟩ := hu2.form
      have HBV : Hid (∀ wi, Below wr.heap.size wr wi → BoxV wi (.agg #[.slice ua un uc, .int .i64 m.valid, .int .i64 m.next, .int .i64 m.seq, .slice va m.mails.length vc, .slice wa m.gones.length wc, .int .i64 m.lost]) m) := fun wi h => ⟨_, _, _, rfl, hu0.below h, hu1.below keepsMail h, hu2.below keepsGone h, j0, j1, j2, j3⟩
      have HE : Hid (boxAt x k = (boxB m x.valid && (aheadB x.boxes m k && !((x.boxes.take k).any fun o => decide (o.valid = m.valid))))) := by simp [Hid, boxAt, hm]
      have HKg : Hid ((wr.alloc (.cells #[.slice ua un uc, .int .i64 m.valid, .int .i64 m.next, .int .i64 m.seq, .slice va m.mails.length vc, .slice wa m.gones.length wc, .int .i64 m.lost] 49)).heap[wr.heap.size]? = some (.cells #[.slice ua un uc, .int .i64 m.valid, .int .i64 m.next, .int .i64 m.seq, .slice va m.mails.length vc, .slice wa m.gones.length wc, .int .i64 m.lost] 49)) := box_new wr _
      have HKb : Hid ((wr.alloc (.cells #[.slice ua un uc, .int .i64 m.valid, .int .i64 m.next, .int .i64 m.seq, .slice va m.mails.length vc, .slice wa m.gones.length wc, .int .i64 m.lost] 49)).heap[w.heap.size]? = some (.cells #[.int .i64 x.valid, .slice (some ⟨b, off, none⟩) x.boxes.length c0, .slice a1 x.seen.length c1] 32)) := box_alloc hK.out _
      have HA1 : Hid (Below wr.heap.size wr (wr.alloc (.cells #[.slice ua un uc, .int .i64 m.valid, .int .i64 m.next, .int .i64 m.seq, .slice va m.mails.length vc, .slice wa m.gones.length wc, .int .i64 m.lost] 49))) := (Below.refl _ _).alloc (Nat.le_refl _) _
      have HB1 : Hid (Below w.heap.size w (wr.alloc (.cells #[.slice ua un uc, .int .i64 m.valid, .int .i64 m.next, .int .i64 m.seq, .slice va m.mails.length vc, .slice wa m.gones.length wc, .int .i64 m.lost] 49))) := Below.step hB.out HA1.out
      have HCF : Hid (∀ wi, Below (wr.alloc (.cells #[.slice ua un uc, .int .i64 m.valid, .int .i64 m.next, .int .i64 m.seq, .slice va m.mails.length vc, .slice wa m.gones.length wc, .int .i64 m.lost] 49)).heap.size (wr.alloc (.cells #[.slice ua un uc, .int .i64 m.valid, .int .i64 m.next, .int .i64 m.seq, .slice va m.mails.length vc, .slice wa m.gones.length wc, .int .i64 m.lost] 49)) wi → Calls Try.prog 35 #[.slice (some ⟨b, off, none⟩) k c0, .func (.func 36) #[] #[.pointer (some ⟨wr.heap.size, 0, none⟩)]] wi fun e w' => e = .returned (.bool ((x.boxes.take k).any fun o => decide (o.valid = m.valid))) ∧ Below wi.heap.size wi w') := fun wi hbi =>
        containsFuncBox 36 #[.pointer (some ⟨wr.heap.size, 0, none⟩)] (fun o => decide (o.valid = m.valid)) _ (x.boxes.take k) _ (((H0.out _ (Below.step HB1.out hbi)).1).take k hk) (fun args w => by kernel_rfl) (fun wj o u hbj hu => accountOk1_any u o wr.heap.size m.valid wj hu (bx7 (box_below hbj (box_below hbi HKg.out))).2.1 (lt_of_heap (box_below hbj (box_below hbi HKg.out))))
      generalize ((x.boxes.take k).any fun o => decide (o.valid = m.valid)) = X3 at HCF HE
      have HC1 := fun wi (h : BoxV wi (.agg #[.slice ua un uc, .int .i64 m.valid, .int .i64 m.next, .int .i64 m.seq, .slice va m.mails.length vc, .slice wa m.gones.length wc, .int .i64 m.lost]) m) => boxOk_any _ m x.valid wi h
      generalize boxB m x.valid = X1 at HE HC1
      have hK0 := hK.out
      obtain ⟨e0, e1, e2⟩ := bx3 hK0
      have hlA := lt_of_heap hK0
      clear hK0 hm
      have DR : Below (wr.alloc (.cells #[.slice ua un uc, .int .i64 m.valid, .int .i64 m.next, .int .i64 m.seq, .slice va m.mails.length vc, .slice wa m.gones.length wc, .int .i64 m.lost] 49)).heap.size (wr.alloc (.cells #[.slice ua un uc, .int .i64 m.valid, .int .i64 m.next, .int .i64 m.seq, .slice va m.mails.length vc, .slice wa m.gones.length wc, .int .i64 m.lost] 49)) (wr.alloc (.cells #[.slice ua un uc, .int .i64 m.valid, .int .i64 m.next, .int .i64 m.seq, .slice va m.mails.length vc, .slice wa m.gones.length wc, .int .i64 m.lost] 49)).drew := (Below.refl _ _).drew
      have HF : Hid (∀ w', Below (wr.alloc (.cells #[.slice ua un uc, .int .i64 m.valid, .int .i64 m.next, .int .i64 m.seq, .slice va m.mails.length vc, .slice wa m.gones.length wc, .int .i64 m.lost] 49)).heap.size (wr.alloc (.cells #[.slice ua un uc, .int .i64 m.valid, .int .i64 m.next, .int .i64 m.seq, .slice va m.mails.length vc, .slice wa m.gones.length wc, .int .i64 m.lost] 49)) w' → w'.cell? ⟨wr.heap.size, 0, none⟩ = some (.slice ua un uc) ∧ w'.cell? ⟨wr.heap.size, 1, none⟩ = some (.int .i64 m.valid) ∧ w'.cell? ⟨wr.heap.size, 2, none⟩ = some (.int .i64 m.next) ∧ w'.cell? ⟨wr.heap.size, 3, none⟩ = some (.int .i64 m.seq) ∧ w'.cell? ⟨wr.heap.size, 4, none⟩ = some (.slice va m.mails.length vc) ∧ w'.cell? ⟨wr.heap.size, 5, none⟩ = some (.slice wa m.gones.length wc) ∧ w'.cell? ⟨wr.heap.size, 6, none⟩ = some (.int .i64 m.lost) ∧ w'.cell? ⟨w.heap.size, 0, none⟩ = some (.int .i64 x.valid)) := by
        intro w' h
        obtain ⟨r0, r1, r2, r3, r4, r5, r6⟩ := bx7 (box_below h HKg.out)
        exact ⟨r0, r1, r2, r3, r4, r5, r6, (bx3 (box_below h HKb.out)).1⟩
      cases X1 with
      | false =>
        go_wp2
        refine wp_region_held_drew (S := fun w' => w'.cell? ⟨wr.heap.size, 0, none⟩ = some (.slice ua un uc) ∧ w'.cell? ⟨wr.heap.size, 1, none⟩ = some (.int .i64 m.valid) ∧ w'.cell? ⟨wr.heap.size, 2, none⟩ = some (.int .i64 m.next) ∧ w'.cell? ⟨wr.heap.size, 3, none⟩ = some (.int .i64 m.seq) ∧ w'.cell? ⟨wr.heap.size, 4, none⟩ = some (.slice va m.mails.length vc) ∧ w'.cell? ⟨wr.heap.size, 5, none⟩ = some (.slice wa m.gones.length wc) ∧ w'.cell? ⟨wr.heap.size, 6, none⟩ = some (.int .i64 m.lost) ∧ w'.cell? ⟨w.heap.size, 0, none⟩ = some (.int .i64 x.valid)) (by kernel_rfl) (HF.out _ DR) (fun hHeld => (show wpAnyH _ _ _ _ _ 21 #[false, false, false, false, false, false, false, false, false, false, false, false, false, false, false, false, false, false, false, false, false] _ _ from ?_))
        refine tk 0 34 ?v1 ?h1 hHeld ?_; case h1 => (intro w s; (try dsimp only at s); go_simp <;> with_reducible rfl)
        conv => arg 8; simp only [Act.put, sA, s0, sS]
        refine tk 1 35 ?v2 ?h2 hHeld ?_; case h2 => (intro w s; (try dsimp only at s); go_simp <;> with_reducible rfl)
        conv => arg 8; simp only [Act.put, sA, s0, sS]
        refine tk 2 36 ?v3 ?h3 hHeld ?_; case h3 => (intro w s; (try dsimp only at s); go_simp <;> with_reducible rfl)
        conv => arg 8; simp only [Act.put, sA, s0, sS]
        refine wpAnyH_ready (rs := [3]) (by kernel_rfl) (by simp) ?_
        refine AllReadyH.cons rfl (fun K hK => ?_) AllReadyH.nil
        go_simp
        refine (HC1 _ (HBV.out _ (Below.step HA1.out DR))).mono ?_
        rintro e w1 ⟨rfl, B⟩
        refine hK.out _ _ (HF.out _ (Below.step DR B)) (fun hHeld => ?_)
        clear hK K
        refine tk 4 38 ?v5 ?h5 hHeld ?_; case h5 => (intro w s; (try dsimp only at s); go_simp <;> with_reducible rfl)
        conv => arg 8; simp only [Act.put, sA, s0, sS]
        refine tk 5 39 ?v6 ?h6 hHeld ?_; case h6 => (intro w s; (try dsimp only at s); go_simp <;> with_reducible rfl)
        conv => arg 8; simp only [Act.put, sA, s0, sS]
        refine wpAnyH_skips (by kernel_rfl) (fun _ _ _ _ _ h => h) hHeld [6, 7, 8, 9, 10, 11, 12, 13, 14, 15, 16, 17, 18, 19] [40, 41, 42, 43, 44, 45, 46, 47, 48, 49, 50, 51, 52, 53] _ _ _ (by kernel_rfl) ?_
        simp only [List.foldl_cons, List.foldl_nil, Act.put, sA, s0, sS]
        refine tk 20 54 ?v8 ?h8 hHeld ?_; case h8 => (intro w s; (try dsimp only at s); go_simp <;> with_reducible rfl)
        conv => arg 8; simp only [Act.put, sA, s0, sS]
        refine wpAnyH_done (by kernel_rfl) ?_ _
        clear HC1 HCF HF HBV HKg HKb HA1
        repeat clear hHeld
        go_wp2
        go_ret
        exact ⟨ret_b (by rw [HS.out]; exact rangeAll_no k hlt HE.out), Below.step (Below.step HB1.out DR) B⟩
      | true =>
        by_cases hkz : (0 : Int) < (k : Int)
        rotate_left
        · have HAH : Hid (aheadB x.boxes m k = true) := by have : k = 0 := by omega
                                                           subst this; rfl
          rw [HAH.out, Bool.true_and, Bool.true_and] at HE
          clear HAH
          have hkN : ¬ 0 < k := by omega
          have hd : decide (0 < k) = false := by simpa using hkN
          go_wp2
          refine wp_region_held_drew (S := fun w' => w'.cell? ⟨wr.heap.size, 0, none⟩ = some (.slice ua un uc) ∧ w'.cell? ⟨wr.heap.size, 1, none⟩ = some (.int .i64 m.valid) ∧ w'.cell? ⟨wr.heap.size, 2, none⟩ = some (.int .i64 m.next) ∧ w'.cell? ⟨wr.heap.size, 3, none⟩ = some (.int .i64 m.seq) ∧ w'.cell? ⟨wr.heap.size, 4, none⟩ = some (.slice va m.mails.length vc) ∧ w'.cell? ⟨wr.heap.size, 5, none⟩ = some (.slice wa m.gones.length wc) ∧ w'.cell? ⟨wr.heap.size, 6, none⟩ = some (.int .i64 m.lost) ∧ w'.cell? ⟨w.heap.size, 0, none⟩ = some (.int .i64 x.valid)) (by kernel_rfl) (HF.out _ DR) (fun hHeld => (show wpAnyH _ _ _ _ _ 21 #[false, false, false, false, false, false, false, false, false, false, false, false, false, false, false, false, false, false, false, false, false] _ _ from ?_))
          refine tk 0 34 ?v9 ?h9 hHeld ?_; case h9 => (intro w s; (try dsimp only at s); go_simp <;> with_reducible rfl)
          conv => arg 8; simp only [Act.put, sA, s0, sS]
          refine tk 1 35 ?v10 ?h10 hHeld ?_; case h10 => (intro w s; (try dsimp only at s); go_simp <;> with_reducible rfl)
          conv => arg 8; simp only [Act.put, sA, s0, sS]
          refine tk 2 36 ?v11 ?h11 hHeld ?_; case h11 => (intro w s; (try dsimp only at s); go_simp <;> with_reducible rfl)
          conv => arg 8; simp only [Act.put, sA, s0, sS]
          refine wpAnyH_ready (rs := [3]) (by kernel_rfl) (by simp) ?_
          refine AllReadyH.cons rfl (fun K hK => ?_) AllReadyH.nil
          go_simp
          refine (HC1 _ (HBV.out _ (Below.step HA1.out DR))).mono ?_
          rintro e w1 ⟨rfl, B⟩
          refine hK.out _ _ (HF.out _ (Below.step DR B)) (fun hHeld => ?_)
          clear hK K
          refine tk 4 38 ?v13 ?h13 hHeld ?_; case h13 => (intro w s; (try dsimp only at s); go_simp <;> with_reducible rfl)
          conv => arg 8; simp only [Act.put, sA, s0, sS]
          refine tk 5 39 ?v14 ?h14 hHeld ?_; case h14 => (intro w s; (try dsimp only at s); go_simp <;> with_reducible rfl)
          conv => arg 8; simp only [Act.put, sA, s0, sS]
          refine tk 6 40 ?v15 ?h15 hHeld ?_; case h15 => (intro w s; (try dsimp only at s); go_simp <;> with_reducible rfl)
          conv => arg 8; simp only [Act.put, sA, s0, sS]
          refine tk 7 41 ?v16 ?h16 hHeld ?_; case h16 => (intro w s; (try dsimp only at s); go_simp <;> with_reducible rfl)
          conv => arg 8; simp only [Act.put, sA, s0, sS]
          refine tk 8 42 ?v17 ?h17 hHeld ?_; case h17 => (intro w s; (try dsimp only at s); go_simp <;> with_reducible rfl)
          conv => arg 8; simp only [Act.put, sA, s0, sS]
          refine wpAnyH_skips (by kernel_rfl) (fun _ _ _ _ _ h => h) hHeld [9, 10, 11, 12, 13, 14, 15, 16, 17, 18] [43, 44, 45, 46, 47, 48, 49, 50, 51, 52] _ _ _ (by kernel_rfl) ?_
          simp only [List.foldl_cons, List.foldl_nil, Act.put, sA, s0, sS]
          refine tk 19 53 ?v19 ?h19 hHeld ?_; case h19 => (intro w s; (try dsimp only at s); go_simp <;> with_reducible rfl)
          conv => arg 8; simp only [Act.put, sA, s0, sS]
          refine tk 20 54 ?v20 ?h20 hHeld ?_; case h20 => (intro w s; (try dsimp only at s); go_simp <;> with_reducible rfl)
          conv => arg 8; simp only [Act.put, sA, s0, sS]
          refine wpAnyH_done (by kernel_rfl) ?_ _
          repeat clear hHeld
          have c3' := HCF.out w1 (Below.step DR B)
          have HB2 : Hid (Below w.heap.size w w1) := Below.step (Below.step HB1.out DR) B
          have HKb2 : Hid (w1.heap[w.heap.size]? = some (.cells #[.int .i64 x.valid, .slice (some ⟨b, off, none⟩) x.boxes.length c0, .slice a1 x.seen.length c1] 32)) := box_below B (box_below DR HKb.out)
          clear B DR HB1 HKb HA1 HC1 HF HCF
          cases X3 with
          | true =>
            go_wp2_with fail
            refine c3'.mono ?_
            rintro e w3 ⟨rfl, B⟩
            go_wp2
            go_ret
            exact ⟨ret_b (by rw [HS.out]; exact rangeAll_no k hlt HE.out), Below.step HB2.out B⟩
          | false =>
            go_wp2_with fail
            refine c3'.mono ?_
            rintro e w3 ⟨rfl, B⟩
            have HB3 : Hid (Below w.heap.size w w3) := Below.step HB2.out B
            have HKb3 : Hid (w3.heap[w.heap.size]? = some (.cells #[.int .i64 x.valid, .slice (some ⟨b, off, none⟩) x.boxes.length c0, .slice a1 x.seen.length c1] 32)) := box_below B HKb2.out
            clear B HB2 HKb2
            go_wp2
            go_roundw
            case rel =>
              refine ⟨k + 1, by omega, by go_num, (show Hid _ from fun i hi => ?_), HKb3, HB3⟩
              by_cases e : i = k
              · subst e; exact HE.out
              · exact hA.out i (by omega)
            case measure => simp [intOf]; omega
        · obtain ⟨j, hj⟩ : ∃ j, k = j + 1 := ⟨k - 1, by omega⟩
          have hjk : (j : Int) < (k : Int) := by omega
          have hkN : 0 < k := by omega
          have hd : decide (0 < k) = true := by simpa using hkN
          have hj0 : (0 : Int) ≤ (j : Int) := by omega
          have hw1 : IntKind.i64.wrap ((k : Int) - 1) = (j : Int) := by rw [IntWalk.i64_in _ (by omega)]; omega
          have HJ : Hid (k = j + 1) := hj
          clear hj
          obtain ⟨m', hm'⟩ : ∃ m', x.boxes[j]? = some m' := ⟨x.boxes[j]'(by have := HJ.out; omega), List.getElem?_eq_getElem (by have := HJ.out; omega)⟩
          obtain ⟨b2, off2, cap2, p0, q1, q2, hv2, hlb2, t0, -, -, -, -, -, -, hp0, -⟩ := BoxesV.cell (H0.out wr hB.out).1 j m' hm'
          simp only [Value.slice.injEq, true_and, Option.some.injEq, Addr.mk.injEq, and_true] at hv2
          obtain ⟨⟨rfl, rfl⟩, rfl⟩ := hv2
          obtain ⟨pa, pn, pc, rfl⟩ := hp0.form3
          have HAH : Hid (aheadB x.boxes m k = lessB m'.name m.name) := by rw [HJ.out]; simp [Hid, aheadB, nameAt, hm']
          rw [HAH.out] at HE
          have HCM : Hid (∀ wi, Below wr.heap.size wr wi → Calls Try.prog 34 #[.slice pa pn pc, .slice ua un uc] wi fun e w' => e = .returned (.int .i64 (Lib.compareBytes (bts m'.name) (bts m.name))) ∧ w' = wi) := fun wi h => compare_any _ _ m'.name m.name wi (hp0.below h) (hu0.below h)
          have HLC : Hid (lessB m'.name m.name = !decide (0 ≤ Lib.compareBytes (bts m'.name) (bts m.name))) := by simp only [Hid]; rw [less_cmp]; simp [lessB]
          generalize Lib.compareBytes (bts m'.name) (bts m.name) = cv at HCM HLC
          generalize lessB m'.name m.name = L at HE HLC
          have HF2 : Hid (∀ w', Below (wr.alloc (.cells #[.slice ua un uc, .int .i64 m.valid, .int .i64 m.next, .int .i64 m.seq, .slice va m.mails.length vc, .slice wa m.gones.length wc, .int .i64 m.lost] 49)).heap.size (wr.alloc (.cells #[.slice ua un uc, .int .i64 m.valid, .int .i64 m.next, .int .i64 m.seq, .slice va m.mails.length vc, .slice wa m.gones.length wc, .int .i64 m.lost] 49)) w' → (w'.cell? ⟨wr.heap.size, 0, none⟩ = some (.slice ua un uc) ∧ w'.cell? ⟨wr.heap.size, 1, none⟩ = some (.int .i64 m.valid) ∧ w'.cell? ⟨wr.heap.size, 2, none⟩ = some (.int .i64 m.next) ∧ w'.cell? ⟨wr.heap.size, 3, none⟩ = some (.int .i64 m.seq) ∧ w'.cell? ⟨wr.heap.size, 4, none⟩ = some (.slice va m.mails.length vc) ∧ w'.cell? ⟨wr.heap.size, 5, none⟩ = some (.slice wa m.gones.length wc) ∧ w'.cell? ⟨wr.heap.size, 6, none⟩ = some (.int .i64 m.lost) ∧ w'.cell? ⟨w.heap.size, 0, none⟩ = some (.int .i64 x.valid)) ∧ w'.cell? ⟨b, off + j * 7, none⟩ = some (.slice pa pn pc)) := by
            intro w' h
            exact ⟨HF.out w' h, ((Below.step HA1.out h).cell (p := ⟨b, off + j * 7, none⟩) hlb).trans t0⟩
          clear hm' HAH
          by_cases hcv : 0 ≤ cv
          · have HL : Hid (L = false) := by rw [Hid, HLC.out, decide_eq_true hcv]; rfl
            clear HLC
            go_wp2
            refine wp_region_held_drew (S := fun w' => (w'.cell? ⟨wr.heap.size, 0, none⟩ = some (.slice ua un uc) ∧ w'.cell? ⟨wr.heap.size, 1, none⟩ = some (.int .i64 m.valid) ∧ w'.cell? ⟨wr.heap.size, 2, none⟩ = some (.int .i64 m.next) ∧ w'.cell? ⟨wr.heap.size, 3, none⟩ = some (.int .i64 m.seq) ∧ w'.cell? ⟨wr.heap.size, 4, none⟩ = some (.slice va m.mails.length vc) ∧ w'.cell? ⟨wr.heap.size, 5, none⟩ = some (.slice wa m.gones.length wc) ∧ w'.cell? ⟨wr.heap.size, 6, none⟩ = some (.int .i64 m.lost) ∧ w'.cell? ⟨w.heap.size, 0, none⟩ = some (.int .i64 x.valid)) ∧ w'.cell? ⟨b, off + j * 7, none⟩ = some (.slice pa pn pc)) (by kernel_rfl) (HF2.out _ DR) (fun hHeld => (show wpAnyH _ _ _ _ _ 21 #[false, false, false, false, false, false, false, false, false, false, false, false, false, false, false, false, false, false, false, false, false] _ _ from ?_))
            refine tk 0 34 ?v21 ?h21 hHeld ?_; case h21 => (intro w s; (try dsimp only at s); go_simp <;> with_reducible rfl)
            conv => arg 8; simp only [Act.put, sA, s0, sS]
            refine tk 1 35 ?v22 ?h22 hHeld ?_; case h22 => (intro w s; (try dsimp only at s); go_simp <;> with_reducible rfl)
            conv => arg 8; simp only [Act.put, sA, s0, sS]
            refine tk 2 36 ?v23 ?h23 hHeld ?_; case h23 => (intro w s; (try dsimp only at s); go_simp <;> with_reducible rfl)
            conv => arg 8; simp only [Act.put, sA, s0, sS]
            refine wpAnyH_ready (rs := [3]) (by kernel_rfl) (by simp) ?_
            refine AllReadyH.cons rfl (fun K hK => ?_) AllReadyH.nil
            go_simp
            refine (HC1 _ (HBV.out _ (Below.step HA1.out DR))).mono ?_
            rintro e w1 ⟨rfl, B⟩
            refine hK.out _ _ (HF2.out _ (Below.step DR B)) (fun hHeld => ?_)
            clear hK K
            refine tk 4 38 ?v25 ?h25 hHeld ?_; case h25 => (intro w s; (try dsimp only at s); go_simp <;> with_reducible rfl)
            conv => arg 8; simp only [Act.put, sA, s0, sS]
            refine tk 5 39 ?v26 ?h26 hHeld ?_; case h26 => (intro w s; (try dsimp only at s); go_simp <;> with_reducible rfl)
            conv => arg 8; simp only [Act.put, sA, s0, sS]
            refine tk 6 40 ?v27 ?h27 hHeld ?_; case h27 => (intro w s; (try dsimp only at s); go_simp <;> with_reducible rfl)
            conv => arg 8; simp only [Act.put, sA, s0, sS]
            refine tk 7 41 ?v28 ?h28 hHeld ?_; case h28 => (intro w s; (try dsimp only at s); go_simp <;> with_reducible rfl)
            conv => arg 8; simp only [Act.put, sA, s0, sS]
            refine tk 8 42 ?v29 ?h29 hHeld ?_; case h29 => (intro w s; (try dsimp only at s); go_simp <;> with_reducible rfl)
            conv => arg 8; simp only [Act.put, sA, s0, sS]
            refine tk 9 43 ?v30 ?h30 hHeld ?_; case h30 => (intro w s; (try dsimp only at s); go_simp <;> with_reducible rfl)
            conv => arg 8; simp only [Act.put, sA, s0, sS]
            refine tk 10 44 ?v31 ?h31 hHeld ?_; case h31 => (intro w s; (try dsimp only at s); go_simp <;> with_reducible rfl)
            conv => arg 8; simp only [Act.put, sA, s0, sS]
            refine tk 11 45 ?v32 ?h32 hHeld ?_; case h32 => (intro w s; (try dsimp only at s); go_simp <;> with_reducible rfl)
            conv => arg 8; simp only [Act.put, sA, s0, sS]
            refine tk 12 46 ?v33 ?h33 hHeld ?_; case h33 => (intro w s; (try dsimp only at s); go_simp <;> with_reducible rfl)
            conv => arg 8; simp only [Act.put, sA, s0, sS]
            refine tk 13 47 ?v34 ?h34 hHeld ?_; case h34 => (intro w s; (try dsimp only at s); go_simp <;> with_reducible rfl)
            conv => arg 8; simp only [Act.put, sA, s0, sS]
            refine tk 14 48 ?v35 ?h35 hHeld ?_; case h35 => (intro w s; (try dsimp only at s); go_simp <;> with_reducible rfl)
            conv => arg 8; simp only [Act.put, sA, s0, sS]
            refine tk 15 49 ?v36 ?h36 hHeld ?_; case h36 => (intro w s; (try dsimp only at s); go_simp <;> with_reducible rfl)
            conv => arg 8; simp only [Act.put, sA, s0, sS]
            refine tk 16 50 ?v37 ?h37 hHeld ?_; case h37 => (intro w s; (try dsimp only at s); go_simp <;> with_reducible rfl)
            conv => arg 8; simp only [Act.put, sA, s0, sS]
            refine wpAnyH_ready (rs := [17]) (by kernel_rfl) (by simp) ?_
            refine AllReadyH.cons rfl (fun K hK => ?_) AllReadyH.nil
            go_simp
            refine (HCM.out _ (Below.step (Below.step HA1.out DR) B)).mono ?_
            rintro e w2 ⟨rfl, rfl⟩
            refine hK.out _ _ (HF2.out _ (Below.step DR B)) (fun hHeld => ?_)
            clear hK K
            refine tk 18 52 ?v39 ?h39 hHeld ?_; case h39 => (intro w s; (try dsimp only at s); go_simp <;> with_reducible rfl)
            conv => arg 8; simp only [Act.put, sA, s0, sS]
            refine tk 19 53 ?v40 ?h40 hHeld ?_; case h40 => (intro w s; (try dsimp only at s); go_simp <;> with_reducible rfl)
            conv => arg 8; simp only [Act.put, sA, s0, sS]
            refine tk 20 54 ?v41 ?h41 hHeld ?_; case h41 => (intro w s; (try dsimp only at s); go_simp <;> with_reducible rfl)
            conv => arg 8; simp only [Act.put, sA, s0, sS]
            refine wpAnyH_done (by kernel_rfl) ?_ _
            clear HC1 HCF HF HBV HKg HKb HA1 HF2 HCM
            repeat clear hHeld
            go_wp2
            go_ret
            exact ⟨ret_b (by rw [HS.out]; exact rangeAll_no k hlt (by rw [HE.out, HL.out]; rfl)), Below.step (Below.step HB1.out DR) B⟩
          · have HL : Hid (L = true) := by rw [Hid, HLC.out, decide_eq_false hcv]; rfl
            rw [HL.out, Bool.true_and, Bool.true_and] at HE
            clear HLC
            go_wp2
            refine wp_region_held_drew (S := fun w' => (w'.cell? ⟨wr.heap.size, 0, none⟩ = some (.slice ua un uc) ∧ w'.cell? ⟨wr.heap.size, 1, none⟩ = some (.int .i64 m.valid) ∧ w'.cell? ⟨wr.heap.size, 2, none⟩ = some (.int .i64 m.next) ∧ w'.cell? ⟨wr.heap.size, 3, none⟩ = some (.int .i64 m.seq) ∧ w'.cell? ⟨wr.heap.size, 4, none⟩ = some (.slice va m.mails.length vc) ∧ w'.cell? ⟨wr.heap.size, 5, none⟩ = some (.slice wa m.gones.length wc) ∧ w'.cell? ⟨wr.heap.size, 6, none⟩ = some (.int .i64 m.lost) ∧ w'.cell? ⟨w.heap.size, 0, none⟩ = some (.int .i64 x.valid)) ∧ w'.cell? ⟨b, off + j * 7, none⟩ = some (.slice pa pn pc)) (by kernel_rfl) (HF2.out _ DR) (fun hHeld => (show wpAnyH _ _ _ _ _ 21 #[false, false, false, false, false, false, false, false, false, false, false, false, false, false, false, false, false, false, false, false, false] _ _ from ?_))
            refine tk 0 34 ?v42 ?h42 hHeld ?_; case h42 => (intro w s; (try dsimp only at s); go_simp <;> with_reducible rfl)
            conv => arg 8; simp only [Act.put, sA, s0, sS]
            refine tk 1 35 ?v43 ?h43 hHeld ?_; case h43 => (intro w s; (try dsimp only at s); go_simp <;> with_reducible rfl)
            conv => arg 8; simp only [Act.put, sA, s0, sS]
            refine tk 2 36 ?v44 ?h44 hHeld ?_; case h44 => (intro w s; (try dsimp only at s); go_simp <;> with_reducible rfl)
            conv => arg 8; simp only [Act.put, sA, s0, sS]
            refine wpAnyH_ready (rs := [3]) (by kernel_rfl) (by simp) ?_
            refine AllReadyH.cons rfl (fun K hK => ?_) AllReadyH.nil
            go_simp
            refine (HC1 _ (HBV.out _ (Below.step HA1.out DR))).mono ?_
            rintro e w1 ⟨rfl, B⟩
            refine hK.out _ _ (HF2.out _ (Below.step DR B)) (fun hHeld => ?_)
            clear hK K
            refine tk 4 38 ?v46 ?h46 hHeld ?_; case h46 => (intro w s; (try dsimp only at s); go_simp <;> with_reducible rfl)
            conv => arg 8; simp only [Act.put, sA, s0, sS]
            refine tk 5 39 ?v47 ?h47 hHeld ?_; case h47 => (intro w s; (try dsimp only at s); go_simp <;> with_reducible rfl)
            conv => arg 8; simp only [Act.put, sA, s0, sS]
            refine tk 6 40 ?v48 ?h48 hHeld ?_; case h48 => (intro w s; (try dsimp only at s); go_simp <;> with_reducible rfl)
            conv => arg 8; simp only [Act.put, sA, s0, sS]
            refine tk 7 41 ?v49 ?h49 hHeld ?_; case h49 => (intro w s; (try dsimp only at s); go_simp <;> with_reducible rfl)
            conv => arg 8; simp only [Act.put, sA, s0, sS]
            refine tk 8 42 ?v50 ?h50 hHeld ?_; case h50 => (intro w s; (try dsimp only at s); go_simp <;> with_reducible rfl)
            conv => arg 8; simp only [Act.put, sA, s0, sS]
            refine tk 9 43 ?v51 ?h51 hHeld ?_; case h51 => (intro w s; (try dsimp only at s); go_simp <;> with_reducible rfl)
            conv => arg 8; simp only [Act.put, sA, s0, sS]
            refine tk 10 44 ?v52 ?h52 hHeld ?_; case h52 => (intro w s; (try dsimp only at s); go_simp <;> with_reducible rfl)
            conv => arg 8; simp only [Act.put, sA, s0, sS]
            refine tk 11 45 ?v53 ?h53 hHeld ?_; case h53 => (intro w s; (try dsimp only at s); go_simp <;> with_reducible rfl)
            conv => arg 8; simp only [Act.put, sA, s0, sS]
            refine tk 12 46 ?v54 ?h54 hHeld ?_; case h54 => (intro w s; (try dsimp only at s); go_simp <;> with_reducible rfl)
            conv => arg 8; simp only [Act.put, sA, s0, sS]
            refine tk 13 47 ?v55 ?h55 hHeld ?_; case h55 => (intro w s; (try dsimp only at s); go_simp <;> with_reducible rfl)
            conv => arg 8; simp only [Act.put, sA, s0, sS]
            refine tk 14 48 ?v56 ?h56 hHeld ?_; case h56 => (intro w s; (try dsimp only at s); go_simp <;> with_reducible rfl)
            conv => arg 8; simp only [Act.put, sA, s0, sS]
            refine tk 15 49 ?v57 ?h57 hHeld ?_; case h57 => (intro w s; (try dsimp only at s); go_simp <;> with_reducible rfl)
            conv => arg 8; simp only [Act.put, sA, s0, sS]
            refine tk 16 50 ?v58 ?h58 hHeld ?_; case h58 => (intro w s; (try dsimp only at s); go_simp <;> with_reducible rfl)
            conv => arg 8; simp only [Act.put, sA, s0, sS]
            refine wpAnyH_ready (rs := [17]) (by kernel_rfl) (by simp) ?_
            refine AllReadyH.cons rfl (fun K hK => ?_) AllReadyH.nil
            go_simp
            refine (HCM.out _ (Below.step (Below.step HA1.out DR) B)).mono ?_
            rintro e w2 ⟨rfl, rfl⟩
            refine hK.out _ _ (HF2.out _ (Below.step DR B)) (fun hHeld => ?_)
            clear hK K
            refine tk 18 52 ?v60 ?h60 hHeld ?_; case h60 => (intro w s; (try dsimp only at s); go_simp <;> with_reducible rfl)
            conv => arg 8; simp only [Act.put, sA, s0, sS]
            refine tk 19 53 ?v61 ?h61 hHeld ?_; case h61 => (intro w s; (try dsimp only at s); go_simp <;> with_reducible rfl)
            conv => arg 8; simp only [Act.put, sA, s0, sS]
            refine tk 20 54 ?v62 ?h62 hHeld ?_; case h62 => (intro w s; (try dsimp only at s); go_simp <;> with_reducible rfl)
            conv => arg 8; simp only [Act.put, sA, s0, sS]
            refine wpAnyH_done (by kernel_rfl) ?_ _
            repeat clear hHeld
            clear HF2 HCM
            have c3' := HCF.out w2 (Below.step DR B)
            have HB2 : Hid (Below w.heap.size w w2) := Below.step (Below.step HB1.out DR) B
            have HKb2 : Hid (w2.heap[w.heap.size]? = some (.cells #[.int .i64 x.valid, .slice (some ⟨b, off, none⟩) x.boxes.length c0, .slice a1 x.seen.length c1] 32)) := box_below B (box_below DR HKb.out)
            clear B DR HB1 HKb HA1 HC1 HF HCF
            cases X3 with
            | true =>
              go_wp2_with fail
              refine c3'.mono ?_
              rintro e w3 ⟨rfl, B⟩
              go_wp2
              go_ret
              exact ⟨ret_b (by rw [HS.out]; exact rangeAll_no k hlt HE.out), Below.step HB2.out B⟩
            | false =>
              go_wp2_with fail
              refine c3'.mono ?_
              rintro e w3 ⟨rfl, B⟩
              have HB3 : Hid (Below w.heap.size w w3) := Below.step HB2.out B
              have HKb3 : Hid (w3.heap[w.heap.size]? = some (.cells #[.int .i64 x.valid, .slice (some ⟨b, off, none⟩) x.boxes.length c0, .slice a1 x.seen.length c1] 32)) := box_below B HKb2.out
              clear B HB2 HKb2
              go_wp2
              go_roundw
              case rel =>
                refine ⟨k + 1, by omega, by go_num, (show Hid _ from fun i hi => ?_), HKb3, HB3⟩
                by_cases e : i = k
                · subst e; exact HE.out
                · exact hA.out i (by omega)
              case measure => simp [intOf]; omega
    · obtain rfl : k = x.boxes.length := by omega
      go_wp2
      go_ret
      exact ⟨ret_b (by rw [HS.out]; exact rangeAll_yes hA.out), hB.out⟩

end Go.Proofs.Ytjdcjhboipileab

/- What AccountBytes of package impl do. -/
namespace Go.Proofs.Ytjdcjhboipileab
open Go.RowKit
set_option maxRecDepth 100000
set_option linter.unusedVariables false
set_option linter.unusedSimpArgs false

set_option maxRecDepth 100000 in
set_option maxHeartbeats 4000000 in
theorem implAccountBytes_r (v : Value) (x : AccD) (w : World) (hv : AccV w v x) (hz : szXs x.boxes ≤ 2000000) :
    Calls Try.prog 7 #[v] w fun e w' => ∃ u, e = .returned (.tuple #[u, .bool (accB x)]) ∧ Row w' w.heap.size w'.heap.size u (outB x) ∧ Below w.heap.size w w' := by
  have HV : Hid (∀ wi, Below w.heap.size w wi → AccV wi v x) := fun wi h => hv.below h
  obtain ⟨u0, u1, rfl, g0, g1, i0⟩ := hv
  have H0 : Hid (∀ wi, Below w.heap.size w wi → BoxesV wi u0 x.boxes ∧ IntsV wi u1 x.seen) := fun wi h => ⟨g0.below keepsBox h, g1.below keepsInt h⟩
  obtain ⟨a0, c0, rfl, m0, m1⟩ := g0.form
  obtain ⟨a1, c1, rfl, m2, m3⟩ := g1.form
  clear g0 g1
  have HX : Hid (Below w.heap.size w (w.alloc (.cells #[.int .i64 x.valid, .slice a0 x.boxes.length c0, .slice a1 x.seen.length c1] 32))) := (Below.refl _ _).alloc (Nat.le_refl _) _
  have HK : Hid ((w.alloc (.cells #[.int .i64 x.valid, .slice a0 x.boxes.length c0, .slice a1 x.seen.length c1] 32)).heap[w.heap.size]? = some (.cells #[.int .i64 x.valid, .slice a0 x.boxes.length c0, .slice a1 x.seen.length c1] 32)) := box_new w _
  have hn := implAccountOk_any _ x _ (HV.out _ HX.out)
  cases hA : accB x with
  | false =>
    rw [hA] at hn
    have HO : Hid (outB x = []) := by simp only [Hid, outB, hA]
    go_enter Try.func7, Try.ntmps7
    go_wp2_with fail
    refine hn.mono ?_
    rintro e w1 ⟨rfl, B⟩
    have HB1 : Hid (Below w.heap.size w w1) := Below.step HX.out B
    clear B HK hn
    go_wp2
    go_ret2
    exact ⟨_, rfl, by rw [HO.out]; exact Row.nil _ _ _, HB1.out⟩
  | true =>
    rw [hA] at hn
    have HO : Hid (outB x = accBs x) := by simp only [Hid, outB, hA]
    obtain ⟨y0, y1⟩ := accB_small hA
    have y2 := accB_seen hA
    clear hA
    have H1 : Hid (BoxesV w (.slice a0 x.boxes.length c0) x.boxes ∧ IntsV w (.slice a1 x.seen.length c1) x.seen) := H0.out w (Below.refl _ _)
    clear H0 HV
    go_enter Try.func7, Try.ntmps7
    go_wp2_with fail
    refine hn.mono ?_
    rintro e w1 ⟨rfl, B1⟩
    have HK1 : Hid (w1.heap[w.heap.size]? = some (.cells #[.int .i64 x.valid, .slice a0 x.boxes.length c0, .slice a1 x.seen.length c1] 32)) := box_below B1 HK.out
    have HB1 : Hid (Below w.heap.size w w1) := Below.step HX.out B1
    clear B1 HK hn HX
    generalize hBB : w.heap.size = B at HB1 HK1
    have HBB : Hid (w.heap.size = B) := hBB
    have s1 : B ≤ w1.heap.size := by rw [← hBB]; exact HB1.out.size
    clear hBB
    have HO1 : Hid (OwnB w1 B (.slice none 0 0) []) := OwnB.nil' _ _
    obtain ⟨f0, f1, f2⟩ := bx3 HK1.out
    have hlA := lt_of_heap HK1.out
    have HBN1 : Hid (((w1).alloc (.cells #[.int .i64 x.valid, .int .i64 (x.boxes.length : Int)] 3)).heap[(w1).heap.size]? = some (.cells #[.int .i64 x.valid, .int .i64 (x.boxes.length : Int)] 3)) := by
      have h := box_new (w1) (.cells #[.int .i64 x.valid, .int .i64 (x.boxes.length : Int)] 3)
      exact h
    have HNV1 : Hid (∀ wi, Tw B ((w1).alloc (.cells #[.int .i64 x.valid, .int .i64 (x.boxes.length : Int)] 3)) wi → IntsV wi (.slice (some ⟨(w1).heap.size, 0, none⟩) 2 2) [x.valid, (x.boxes.length : Int)]) := fun wi h => ints_lit wi (w1).heap.size [x.valid, (x.boxes.length : Int)] (Tw.box h (by decide) HBN1.out) (by simp only [List.mem_cons, List.not_mem_nil, or_false, forall_eq_or_imp, forall_eq]; exact ⟨i0, by omega, by omega⟩) (by simp)
    have HOA1 : Hid (OwnB ((w1).alloc (.cells #[.int .i64 x.valid, .int .i64 (x.boxes.length : Int)] 3)) B _ ([])) := HO1.out.alloc _
    have HSZ1 : B ≤ ((w1).alloc (.cells #[.int .i64 x.valid, .int .i64 (x.boxes.length : Int)] 3)).heap.size := by simp; omega
    clear HBN1
    go_wp2_with fail
    refine (putNums_b B _ _ _ [x.valid, (x.boxes.length : Int)] _ HOA1.out HSZ1 HNV1.out (by simp) (by simp)).mono ?_
    rintro e w2 ⟨r2, rfl, R2, T2⟩
    have HO2 : Hid (OwnB w2 B r2 (numsB [x.valid, (x.boxes.length : Int)] ++ (x.boxes.take 0).flatMap boxBs)) := by simpa [Hid] using R2
    have T3 : Hid (Tw B w1 w2) := (Tw.alloc s1 _).trans T2
    clear R2 T2 f0 f1 f2 hlA HO1
    generalize hL : numsB [x.valid, (x.boxes.length : Int)] = L at HO2
    have hLl : L.length ≤ 20 := by
      have := nums_len [x.valid, (x.boxes.length : Int)]
      rw [← hL]; simp at this; omega
    have HL : Hid (numsB [x.valid, (x.boxes.length : Int)] = L) := hL
    clear hL
    obtain ⟨f0, f1, f2⟩ := bx3 (T3.out.box (by decide) HK1.out)
    have hlA := lt_of_heap (T3.out.box (by decide) HK1.out)
    go_wp2
    clear f0 f1 f2 hlA
    go_loopw [4, 20] (fun out i wr => ∃ k : Nat, k ≤ x.boxes.length ∧ i = .int .i64 k ∧ Hid (OwnB wr B out (L ++ (x.boxes.take k).flatMap boxBs)) ∧ Hid (Tw B w1 wr)) (fun _ i _ => x.boxes.length - (intOf i).toNat)
    case atStart => exact ⟨0, Nat.zero_le _, rfl, HO2, T3⟩
    case round =>
      clear HO2 T3
      obtain ⟨k, hk, rfl, hO, hT⟩ := hrel
      have hml := boxes_len (x.boxes.take k) (fun b hb => y1 b (List.mem_of_mem_take hb))
      have htk : (x.boxes.take k).length ≤ 4 := by simp; omega
      have sr : B ≤ wr.heap.size := Nat.le_trans s1 hT.out.size
      have hbr : Below w.heap.size w wr := by rw [HBB.out]; exact HB1.out.trans hT.out.below
      by_cases hlt : k < x.boxes.length
      · obtain ⟨m, hm⟩ : ∃ m, x.boxes[k]? = some m := ⟨x.boxes[k], List.getElem?_eq_getElem hlt⟩
        obtain ⟨b, off, cap', u0, u1, u2, hv', hlb, d0, d1, d2, d3, d4, d5, d6, hu0, hu1, hu2, j0, j1, j2, j3⟩ := BoxesV.cell H1.out.1 k m hm
        simp only [Value.slice.injEq, true_and] at hv'
        obtain ⟨rfl, rfl⟩ := hv'
        obtain ⟨ua, un, uc, rfl⟩ := hu0.form3
        obtain ⟨va, vc, rfl, -⟩ := hu1.form
        obtain ⟨wa, wc, rfl, -⟩ := hu2.form
        have HBV : Hid (BoxV w (.agg #[.slice ua un uc, .int .i64 m.valid, .int .i64 m.next, .int .i64 m.seq, .slice va m.mails.length vc, .slice wa m.gones.length wc, .int .i64 m.lost]) m) := ⟨_, _, _, rfl, hu0, hu1, hu2, j0, j1, j2, j3⟩
        replace d0 := (hbr.cell (p := ⟨b, off + k * 7, none⟩) hlb).trans d0
        replace d1 := (hbr.cell (p := ⟨b, off + k * 7 + 1, none⟩) hlb).trans d1
        replace d2 := (hbr.cell (p := ⟨b, off + k * 7 + 2, none⟩) hlb).trans d2
        replace d3 := (hbr.cell (p := ⟨b, off + k * 7 + 3, none⟩) hlb).trans d3
        replace d4 := (hbr.cell (p := ⟨b, off + k * 7 + 4, none⟩) hlb).trans d4
        replace d5 := (hbr.cell (p := ⟨b, off + k * 7 + 5, none⟩) hlb).trans d5
        replace d6 := (hbr.cell (p := ⟨b, off + k * 7 + 6, none⟩) hlb).trans d6
        replace hlb : b < wr.heap.size := Nat.lt_of_lt_of_le hlb hbr.size
        have hq := y1 m (List.mem_of_getElem? hm)
        have hsz : szX m ≤ 2000000 := by have := szXs_mem (List.mem_of_getElem? hm); omega
        have HST : Hid ((x.boxes.take (k + 1)).flatMap boxBs = (x.boxes.take k).flatMap boxBs ++ boxBs m) := flat_step boxBs hm
        have HM : Hid ((wr.alloc (.cells #[.slice ua un uc, .int .i64 m.valid, .int .i64 m.next, .int .i64 m.seq, .slice va m.mails.length vc, .slice wa m.gones.length wc, .int .i64 m.lost] 49)).heap[wr.heap.size]? = some (.cells #[.slice ua un uc, .int .i64 m.valid, .int .i64 m.next, .int .i64 m.seq, .slice va m.mails.length vc, .slice wa m.gones.length wc, .int .i64 m.lost] 49)) := box_new wr _
        have TM : Hid (Tw B wr (wr.alloc (.cells #[.slice ua un uc, .int .i64 m.valid, .int .i64 m.next, .int .i64 m.seq, .slice va m.mails.length vc, .slice wa m.gones.length wc, .int .i64 m.lost] 49))) := Tw.alloc sr _
        have HOM : Hid (OwnB (wr.alloc (.cells #[.slice ua un uc, .int .i64 m.valid, .int .i64 m.next, .int .i64 m.seq, .slice va m.mails.length vc, .slice wa m.gones.length wc, .int .i64 m.lost] 49)) B _ (L ++ (x.boxes.take k).flatMap boxBs)) := hO.out.alloc _
        have HBM : Hid (Below w.heap.size w (wr.alloc (.cells #[.slice ua un uc, .int .i64 m.valid, .int .i64 m.next, .int .i64 m.seq, .slice va m.mails.length vc, .slice wa m.gones.length wc, .int .i64 m.lost] 49))) := Below.step hbr ((Below.refl _ _).alloc (Nat.le_refl _) _)
        obtain ⟨f0, f1, f2, f3, f4, f5, f6⟩ := bx7 HM.out
        have hlM := lt_of_heap HM.out
        clear hu0 hu1 hu2 hm hbr
        go_wp2_with fail
        refine (putBox_b w _ _ _ m _ (by rw [HBB.out]; exact HOM.out) HBM.out HBV.out (by simp only [List.length_append]; omega) hq.1 hq.2 hsz).mono ?_
        rintro e w3 ⟨r3, rfl, R3, T3⟩
        rw [HBB.out] at R3 T3
        have T4 : Hid (Tw B w1 w3) := hT.out.trans (TM.out.trans T3)
        have HO3 : Hid (OwnB w3 B r3 (L ++ (x.boxes.take (k + 1)).flatMap boxBs)) := by
          rw [HST.out, ← List.append_assoc]
          exact R3
        clear R3 T3 hO hT HBV HST d0 d1 d2 d3 d4 d5 d6 f0 f1 f2 f3 f4 f5 f6 hlM HM TM HOM HBM
        go_wp2
        go_roundw
        case rel => exact ⟨k + 1, by omega, by go_num, HO3, T4⟩
        case measure => simp [intOf]; omega
      · obtain rfl : k = x.boxes.length := by omega
        have HE : Hid ((x.boxes.take x.boxes.length).flatMap boxBs = x.boxes.flatMap boxBs) := by rw [Hid, List.take_length]
        have HO8' := hO.out
        rw [HE.out] at HO8'
        have HO8 := (show Hid _ from HO8')
        clear HO8'
        have hml2 := boxes_len x.boxes y1
        have K8 := hT.out.box (by decide) HK1.out
        obtain ⟨f0, f1, f2⟩ := bx3 K8
        have hlA := lt_of_heap K8
        clear hO K8
        have HBN2 : Hid (((wr).alloc (.cells #[.int .i64 (x.seen.length : Int)] 3)).heap[(wr).heap.size]? = some (.cells #[.int .i64 (x.seen.length : Int)] 3)) := by
          have h := box_new (wr) (.cells #[.int .i64 (x.seen.length : Int)] 3)
          exact h
        have HNV2 : Hid (∀ wi, Tw B ((wr).alloc (.cells #[.int .i64 (x.seen.length : Int)] 3)) wi → IntsV wi (.slice (some ⟨(wr).heap.size, 0, none⟩) 1 1) [(x.seen.length : Int)]) := fun wi h => ints_lit wi (wr).heap.size [(x.seen.length : Int)] (Tw.box h (by decide) HBN2.out) (by simp only [List.mem_cons, List.not_mem_nil, or_false, forall_eq_or_imp, forall_eq]; exact ⟨by omega, by omega⟩) (by simp)
        have HOA2 : Hid (OwnB ((wr).alloc (.cells #[.int .i64 (x.seen.length : Int)] 3)) B _ (L ++ x.boxes.flatMap boxBs)) := (show OwnB wr B _ (L ++ x.boxes.flatMap boxBs) from HO8.out).alloc _
        have HSZ2 : B ≤ ((wr).alloc (.cells #[.int .i64 (x.seen.length : Int)] 3)).heap.size := by simp; omega
        clear HBN2
        go_wp2_with fail
        refine (putNums_b B _ _ _ [(x.seen.length : Int)] _ HOA2.out HSZ2 HNV2.out (by simp only [List.length_append]; omega) (by simp)).mono ?_
        rintro e w9 ⟨r9, rfl, R9, T9⟩
        have HO9 : Hid (OwnB w9 B r9 (L ++ x.boxes.flatMap boxBs ++ numsB [(x.seen.length : Int)])) := R9
        have T10 : Hid (Tw B w1 w9) := hT.out.trans ((Tw.alloc sr _).trans T9)
        have s9 : B ≤ w9.heap.size := Nat.le_trans s1 T10.out.size
        clear R9 T9 hT HO8 f0 f1 f2 hlA hlt hk HE hbr
        have HN9 : Hid (∀ wi, Tw B w9 wi → IntsV wi (.slice a1 x.seen.length c1) x.seen) := fun wi h => H1.out.2.below keepsInt (by rw [HBB.out]; exact HB1.out.trans (T10.out.below.trans h.below))
        have hn1 := nums_len [(x.seen.length : Int)]
        simp only [List.length_cons, List.length_nil] at hn1
        have K9 := T10.out.box (by decide) HK1.out
        obtain ⟨f0, f1, f2⟩ := bx3 K9
        have hlA := lt_of_heap K9
        clear K9
        go_wp2_with fail
        refine (putNums_b B _ _ _ x.seen _ HO9.out s9 HN9.out (by simp only [List.length_append]; omega) (by omega)).mono ?_
        rintro e w10 ⟨r10, rfl, R10, T11⟩
        have HF : Hid (L ++ x.boxes.flatMap boxBs ++ numsB [(x.seen.length : Int)] ++ numsB x.seen = outB x) := by
          rw [Hid, HO.out, ← HL.out]
          simp [accBs, numsB]
        rw [HF.out] at R10
        have HR : Hid (OwnB w10 w.heap.size r10 (outB x)) := by rw [HBB.out]; exact R10
        have HBF : Hid (Below w.heap.size w w10) := by rw [HBB.out]; exact HB1.out.trans (T10.out.below.trans T11.below)
        clear R10 T11 f0 f1 f2 hlA HF HN9 T10 HO9 HBB
        go_wp2
        go_ret2
        exact ⟨_, rfl, HR.out.toRow, HBF.out⟩

end Go.Proofs.Ytjdcjhboipileab
