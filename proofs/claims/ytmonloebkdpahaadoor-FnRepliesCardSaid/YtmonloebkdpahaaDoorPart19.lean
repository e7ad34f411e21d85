/- The proof's texts, part 19. -/
import Derived.Test.YtmonloebkdpahaaDoorPart6
import Derived.Test.YtmonloebkdpahaaDoorPart4
import Derived.Test.YtmonloebkdpahaaDoorPart1
import Derived.Test.YtmonloebkdpahaaDoorPart2
import Derived.Shelf.Abstract
import Derived.Test.YtmonloebkdpahaaDoorPart3
import Derived.Test.YtmonloebkdpahaaDoorPart16

/- What slices.IndexFunc and slices.ContainsFunc of names do. -/
namespace Go.Proofs.YtmonloebkdpahaaDoor
open Go.RowKit
set_option maxRecDepth 100000
set_option linter.unusedVariables false
set_option linter.unusedSimpArgs false

set_option maxRecDepth 100000 in
set_option maxHeartbeats 1000000 in
theorem indexFuncName (g : Nat) (lb : Array Value) (p : List Int → Bool) (v : Value) (l : List (List Int)) (w : World) (hv : NamesV w v l) (eg : ∀ args w, (callFunc g args).run Tryd.prog w = .ok (.enter g args) w)
    (hp : ∀ wi x u, Below w.heap.size w wi → Bs wi u x → Calls Tryd.prog g (#[u] ++ lb) wi fun e w' => e = .returned (.bool (p x)) ∧ Below wi.heap.size wi w') :
    Calls Tryd.prog 84 #[v, .func (.func g) #[] lb] w fun e w' => e = .returned (.int .i64 (firstI p l)) ∧ Below w.heap.size w w' := by
  have HV : Hid (∀ wi, Below w.heap.size w wi → NamesV wi v l) := fun wi h => hv.below keepsName h
  have HP : Hid (∀ wi x u, Below w.heap.size w wi → Bs wi u x → Calls Tryd.prog g (#[u] ++ lb) wi fun e w' => e = .returned (.bool (p x)) ∧ Below wi.heap.size wi w') := hp
  obtain ⟨a, cap, rfl, hlc, hcm⟩ := hv.form
  clear hv hp
  go_enter Tryd.func84, Tryd.ntmps84
  go_wp2
  go_loopw [5, 8] (fun _ i wr => ∃ k : Nat, k ≤ l.length ∧ i = .int .i64 k ∧ Hid (∀ j x, j < k → l[j]? = some x → p x = false) ∧ Hid (Below w.heap.size w wr)) (fun _ i _ => l.length - (intOf i).toNat)
  case atStart => exact ⟨0, Nat.zero_le _, rfl, (fun j x hj => absurd hj (Nat.not_lt_zero _)), Below.refl _ _⟩
  case round =>
    obtain ⟨k, hk, rfl, hA, hB⟩ := hrel
    by_cases hlt : k < l.length
    · obtain ⟨x, hx⟩ : ∃ x, l[k]? = some x := ⟨l[k], List.getElem?_eq_getElem hlt⟩
      obtain ⟨b, off, cap', u, hv', hlb, d0, hu⟩ := NamesV.cell (HV.out wr hB.out) k x hx
      simp only [Value.slice.injEq, true_and] at hv'
      obtain ⟨rfl, rfl⟩ := hv'
      obtain ⟨ua, un, uc, rfl⟩ := hu.form3
      have hcall := HP.out wr x (.slice ua un uc) hB.out hu
      clear hu
      have HX : Hid (l[k]? = some x) := hx
      clear hx
      cases hq : p x with
      | true =>
        rw [hq] at hcall
        have HQ : Hid (p x = true) := hq
        clear hq
        go_wp2_with (go_at_fn g; refine hcall.mono ?_; rintro e w1 ⟨rfl, B⟩)
        go_ret
        exact ⟨ret_i (firstI_hit' hlt HX.out HQ.out hA.out).symm, Below.step hB.out B⟩
      | false =>
        rw [hq] at hcall
        have HQ : Hid (p x = false) := hq
        clear hq
        go_wp2_with (go_at_fn g; refine hcall.mono ?_; rintro e w1 ⟨rfl, B⟩)
        have HB2 : Hid (Below w.heap.size w w1) := Below.step hB.out B
        clear B hB
        go_roundw
        case rel =>
          refine ⟨k + 1, by omega, by go_num, (show Hid _ from fun j y hj hy => ?_), HB2⟩
          by_cases e : j = k
          · subst e; rw [HX.out] at hy; cases hy; exact HQ.out
          · exact hA.out j y (by omega) hy
        case measure => simp [intOf]; omega
    · obtain rfl : k = l.length := by omega
      go_wp2
      go_ret
      exact ⟨ret_i (firstI_none' hA.out).symm, hB.out⟩

set_option maxRecDepth 100000 in
set_option maxHeartbeats 1000000 in
theorem containsFuncName (g : Nat) (lb : Array Value) (p : List Int → Bool) (v : Value) (l : List (List Int)) (w : World) (hv : NamesV w v l) (eg : ∀ args w, (callFunc g args).run Tryd.prog w = .ok (.enter g args) w)
    (hp : ∀ wi x u, Below w.heap.size w wi → Bs wi u x → Calls Tryd.prog g (#[u] ++ lb) wi fun e w' => e = .returned (.bool (p x)) ∧ Below wi.heap.size wi w') :
    Calls Tryd.prog 53 #[v, .func (.func g) #[] lb] w fun e w' => e = .returned (.bool (l.any p)) ∧ Below w.heap.size w w' := by
  have hi := indexFuncName g lb p v l w hv eg hp
  have HF : Hid (l.any p = decide (0 ≤ firstI p l)) := any_firstI p l
  generalize firstI p l = i at hi HF
  obtain ⟨a, cap, rfl, -⟩ := hv.form
  clear hp hv
  go_enter Tryd.func53, Tryd.ntmps53
  go_wp2_with (go_at_call 84; refine hi.mono ?_; rintro e w1 ⟨rfl, B⟩)
  go_ret
  exact ⟨ret_b HF.out, B⟩

end Go.Proofs.YtmonloebkdpahaaDoor

/- What slices.IndexFunc and slices.ContainsFunc do of bytes, whatever function is handed in. -/
namespace Go.Proofs.YtmonloebkdpahaaDoor
open Go.RowKit Go.Shelf
set_option maxRecDepth 100000

set_option maxHeartbeats 400000 in
theorem indexFuncB (g : Nat) (lb : Array Value) (p : Int → Bool) (v : Value) (l : List Int) (w : World) (hv : Bs w v l) (eg : ∀ args w, (callFunc g args).run Tryd.prog w = .ok (.enter g args) w)
    (hp : ∀ x, 0 ≤ x → x ≤ 255 → Calls Tryd.prog g (#[.int .u8 x] ++ lb) w fun e w' => e = .returned (.bool (p x)) ∧ w' = w) :
    Calls Tryd.prog 105 #[v, .func (.func g) #[] lb] w fun e w' => e = .returned (.int .i64 (firstI p l)) ∧ w' = w := by
  obtain ⟨ho, a, cap, rfl, hlc, hcm, hnil, hcells⟩ := hv
  unfold maxLen at hcm
  go_enter Tryd.func105, Tryd.ntmps105
  go_wp2
  go_loop [5, 8] (fun _ i => ∃ k : Nat, k ≤ l.length ∧ i = .int .i64 k ∧ Hid (∀ j, j < k → p (l.getD j 0) = false)) (fun _ i => l.length - (intOf i).toNat)
  case atStart => exact ⟨0, Nat.zero_le _, rfl, fun j hj => absurd hj (Nat.not_lt_zero _)⟩
  case round =>
    obtain ⟨k, hk, rfl, hA⟩ := hrel
    by_cases hlt : k < l.length
    · obtain ⟨b, off, rfl, hlb, hc⟩ := hcells (by omega)
      have hx := hc k hlt
      have hbx := oct_get ho k
      generalize hy : l.getD k 0 = x at hx hbx
      have HX : Hid (l.getD k 0 = x) := hy
      clear hy hc hcells
      have hcall := hp x hbx.1 hbx.2
      clear hp
      cases hq : p x with
      | true =>
        rw [hq] at hcall
        go_wp2_with (go_at_fn g; refine hcall.mono ?_; rintro e w' ⟨rfl, rfl⟩)
        go_ret
        exact ⟨ret_i (firstI_hit hlt (by rw [HX.out]; exact hq) hA.out).symm, rfl⟩
      | false =>
        rw [hq] at hcall
        go_wp2_with (go_at_fn g; refine hcall.mono ?_; rintro e w' ⟨rfl, rfl⟩)
        go_round
        case rel =>
          refine ⟨k + 1, by omega, by go_num, (show Hid _ from fun j hj => ?_)⟩
          by_cases e : j = k
          · subst e; rw [HX.out]; exact hq
          · exact hA.out j (by omega)
        case measure => simp [intOf]; omega
    · obtain rfl : k = l.length := by omega
      go_wp2
      go_ret
      exact ⟨ret_i (firstI_none hA.out).symm, rfl⟩

set_option maxHeartbeats 400000 in
theorem containsFuncB (g : Nat) (lb : Array Value) (p : Int → Bool) (v : Value) (l : List Int) (w : World) (hv : Bs w v l) (eg : ∀ args w, (callFunc g args).run Tryd.prog w = .ok (.enter g args) w)
    (hp : ∀ x, 0 ≤ x → x ≤ 255 → Calls Tryd.prog g (#[.int .u8 x] ++ lb) w fun e w' => e = .returned (.bool (p x)) ∧ w' = w) :
    Calls Tryd.prog 94 #[v, .func (.func g) #[] lb] w fun e w' => e = .returned (.bool (l.any p)) ∧ w' = w := by
  have hi := indexFuncB g lb p v l w hv eg hp
  have HF : Hid (l.any p = decide (0 ≤ firstI p l)) := any_firstI p l
  generalize firstI p l = i at hi HF
  obtain ⟨ho, a, cap, rfl, -⟩ := hv
  clear hp
  go_enter Tryd.func94, Tryd.ntmps94
  go_wp2_with (go_at_call 105; refine hi.mono ?_; rintro e w' ⟨rfl, rfl⟩)
  go_ret
  exact ⟨ret_b HF.out, rfl⟩

end Go.Proofs.YtmonloebkdpahaaDoor

/- What within, allWithin, nameOk, nameWanted, textOk of package impl do. -/
namespace Go.Proofs.YtmonloebkdpahaaDoor
open Go.RowKit Go.Shelf
set_option maxRecDepth 100000

theorem within_any (n lo hi : Int) (w : World) :
    Calls Tryd.prog 52 #[.int .i64 n, .int .i64 lo, .int .i64 hi] w fun e w' => e = .returned (.bool (inB n lo hi)) ∧ w' = w := by
  by_cases h0 : lo ≤ n
  · by_cases h1 : n ≤ hi
    · go_enter Tryd.func52, Tryd.ntmps52
      go_wp2
      go_ret
      exact ⟨ret_b (by simp [inB, h0, h1]), rfl⟩
    · go_enter Tryd.func52, Tryd.ntmps52
      go_wp2
      go_ret
      exact ⟨ret_b (by simp [inB, h1]), rfl⟩
  · go_enter Tryd.func52, Tryd.ntmps52
    go_wp2
    go_ret
    exact ⟨ret_b (by simp [inB]; omega), rfl⟩

theorem allWithin1_any (x lo hi : Int) (b1 b2 : Nat) (w : World) (c1 : w.cell? ⟨b1, 0, none⟩ = some (.int .u8 lo)) (c2 : w.cell? ⟨b2, 0, none⟩ = some (.int .u8 hi)) :
    Calls Tryd.prog 95 #[.int .u8 x, .pointer (some ⟨b1, 0, none⟩), .pointer (some ⟨b2, 0, none⟩)] w fun e w' => e = .returned (.bool (decide (x < lo) || decide (hi < x))) ∧ w' = w := by
  by_cases h0 : x < lo
  · go_enter Tryd.func95, Tryd.ntmps95
    go_wp2
    go_ret
    exact ⟨ret_b (by simp [h0]), rfl⟩
  · go_enter Tryd.func95, Tryd.ntmps95
    go_wp2
    go_ret
    exact ⟨ret_b (by simp; omega), rfl⟩

theorem allIn_any (lo hi : Int) (l : List Int) : (!l.any fun x => decide (x < lo) || decide (hi < x)) = allIn lo hi l := by
  induction l with
  | nil => rfl
  | cons x l ih =>
    simp only [List.any_cons, allIn, List.all_cons, Bool.not_or]
    rw [ih]
    congr 1
    by_cases h0 : x < lo <;> by_cases h1 : hi < x <;> simp [h0, h1] <;> omega

set_option maxHeartbeats 400000 in
theorem allWithin_any (v : Value) (l : List Int) (lo hi : Int) (w : World) (hv : Bs w v l) :
    Calls Tryd.prog 85 #[v, .int .u8 lo, .int .u8 hi] w fun e w' => e = .returned (.bool (allIn lo hi l)) ∧ Below w.heap.size w w' := by
  have bx := boxes2 w (.cells #[.int .u8 lo] 5) (.cells #[.int .u8 hi] 5)
  have H : Hid (Calls Tryd.prog 94 #[v, .func (.func 95) #[] #[.pointer (some ⟨w.heap.size, 0, none⟩), .pointer (some ⟨w.heap.size + 1, 0, none⟩)]] ((w.alloc (.cells #[.int .u8 lo] 5)).alloc (.cells #[.int .u8 hi] 5)) fun e w' => e = .returned (.bool (l.any fun x => decide (x < lo) || decide (hi < x))) ∧ w' = (w.alloc (.cells #[.int .u8 lo] 5)).alloc (.cells #[.int .u8 hi] 5)) := by
    refine containsFuncB _ _ _ v l _ (hv.below bx.2.2) (fun args w => by kernel_rfl) fun x _ _ => allWithin1_any x lo hi _ _ _ ?_ ?_
    · rw [cell_of_row _ _ 0 _ _ (0, 0) bx.1]; rfl
    · rw [cell_of_row _ _ 0 _ _ (0, 0) bx.2.1]; rfl
  have HA := allIn_any lo hi l
  have HB : Hid (Below w.heap.size w ((w.alloc (.cells #[.int .u8 lo] 5)).alloc (.cells #[.int .u8 hi] 5))) := bx.2.2
  generalize (l.any fun x => decide (x < lo) || decide (hi < x)) = X at H HA
  have HA' : Hid ((!X) = allIn lo hi l) := HA
  clear HA bx
  obtain ⟨a, n, c, rfl⟩ := hv.form3
  clear hv
  go_enter Tryd.func85, Tryd.ntmps85
  go_wp2_with (go_at_call 94; refine H.out.mono ?_; rintro e w' ⟨rfl, rfl⟩)
  go_ret
  exact ⟨ret_b HA'.out.symm, HB.out⟩

set_option maxHeartbeats 400000 in
theorem nameOk_any (v : Value) (l : List Int) (w : World) (hv : Bs w v l) :
    Calls Tryd.prog 55 #[v] w fun e w' => e = .returned (.bool (nameB l)) ∧ Below w.heap.size w w' := by
  have H : Hid (Bs w v l) := hv
  obtain ⟨ho, a, cap, rfl, hlc, hcm, -⟩ := hv
  unfold maxLen at hcm
  by_cases h0 : 1 ≤ l.length ∧ l.length ≤ 6
  · have e1 : inB (l.length : Int) 1 6 = true := by simp [inB]; omega
    have e2 : Hid (nameB l = allIn 97 122 l) := by simp [Hid, nameB, h0.1, h0.2]
    have hw := within_any (l.length : Int) 1 6
    rw [e1] at hw
    clear e1
    go_enter Tryd.func55, Tryd.ntmps55
    go_wp2_with (first | (go_at_call 52; refine (hw _).mono ?_; rintro e w' ⟨rfl, rfl⟩) | (go_at_call 85; refine (allWithin_any _ l 97 122 _ H.out).mono ?_; rintro e w1 ⟨rfl, B⟩))
    go_ret
    exact ⟨ret_b e2.out, B⟩
  · have e1 : inB (l.length : Int) 1 6 = false := by simp [inB]; omega
    have e2 : Hid (nameB l = false) := by
      simp only [Hid, nameB]
      by_cases h1 : 1 ≤ l.length
      · simp [show ¬ l.length ≤ 6 by omega]
      · simp [h1]
    have hw := within_any (l.length : Int) 1 6
    rw [e1] at hw
    clear e1
    go_enter Tryd.func55, Tryd.ntmps55
    go_wp2_with (first | (go_at_call 52; refine (hw _).mono ?_; rintro e w' ⟨rfl, rfl⟩))
    go_ret
    exact ⟨ret_b e2.out, Below.refl _ _⟩

set_option maxHeartbeats 400000 in
theorem textOk_any (v : Value) (l : List Int) (w : World) (hv : Bs w v l) :
    Calls Tryd.prog 96 #[v] w fun e w' => e = .returned (.bool (textB l)) ∧ Below w.heap.size w w' := by
  have H : Hid (Bs w v l) := hv
  obtain ⟨ho, a, cap, rfl, hlc, hcm, -⟩ := hv
  unfold maxLen at hcm
  by_cases h0 : l.length ≤ 30
  · have e2 : Hid (textB l = allIn 32 126 l) := by simp [Hid, textB, h0]
    go_enter Tryd.func96, Tryd.ntmps96
    go_wp2_with (first | (go_at_call 85; refine (allWithin_any _ l 32 126 _ H.out).mono ?_; rintro e w1 ⟨rfl, B⟩))
    go_ret
    exact ⟨ret_b e2.out, B⟩
  · have e2 : Hid (textB l = false) := by simp [Hid, textB, h0]
    go_enter Tryd.func96, Tryd.ntmps96
    go_wp2
    go_ret
    exact ⟨ret_b e2.out, Below.refl _ _⟩

end Go.Proofs.YtmonloebkdpahaaDoor

/- What seenOk and mailsOk of package impl do. -/
namespace Go.Proofs.YtmonloebkdpahaaDoor
open Go.RowKit Go.Shelf
set_option maxRecDepth 100000
set_option linter.unusedVariables false

set_option maxRecDepth 100000 in
set_option maxHeartbeats 1000000 in
theorem mailsOk_any (v : Value) (x : BoxD) (w : World) (hv : BoxV w v x) (hn0 : 1 ≤ x.next) (hn1 : x.next ≤ 1000000) :
    Calls Tryd.prog 86 #[v] w fun e w' => e = .returned (.bool (mailsB x)) ∧ Below w.heap.size w w' := by
  obtain ⟨u0, u1, u2, rfl, g0, g1, g2, i0, i1, i2, i3⟩ := hv
  have H0 : Hid (∀ wi, Below w.heap.size w wi → Bs wi u0 x.name ∧ MailsV wi u1 x.mails ∧ GonesV wi u2 x.gones) := fun wi h => ⟨g0.below h, g1.below keepsMail h, g2.below keepsGone h⟩
  obtain ⟨a0, n0, c0, rfl⟩ := g0.form3
  obtain ⟨a1, c1, rfl, m0, m1⟩ := g1.form
  obtain ⟨a2, c2, rfl, m2, m3⟩ := g2.form
  clear g0 g1 g2
  have kA := box_new w (.cells #[.slice a0 n0 c0, .int .i64 x.valid, .int .i64 x.next, .int .i64 x.seq, .slice a1 x.mails.length c1, .slice a2 x.gones.length c2, .int .i64 x.lost] 35)
  have X : Below w.heap.size w (w.alloc (.cells #[.slice a0 n0 c0, .int .i64 x.valid, .int .i64 x.next, .int .i64 x.seq, .slice a1 x.mails.length c1, .slice a2 x.gones.length c2, .int .i64 x.lost] 35)) := (Below.refl _ _).alloc (Nat.le_refl _) _
  by_cases h0 : x.mails.length ≤ 12
  · have HS : Hid (mailsB x = (List.range x.mails.length).all (mailAt x)) := by simp [Hid, mailsB, h0]
    have HK : Hid ((w.alloc (.cells #[.slice a0 n0 c0, .int .i64 x.valid, .int .i64 x.next, .int .i64 x.seq, .slice a1 x.mails.length c1, .slice a2 x.gones.length c2, .int .i64 x.lost] 35)).heap[w.heap.size]? = some (.cells #[.slice a0 n0 c0, .int .i64 x.valid, .int .i64 x.next, .int .i64 x.seq, .slice a1 x.mails.length c1, .slice a2 x.gones.length c2, .int .i64 x.lost] 35)) := kA
    have HX : Hid (Below w.heap.size w (w.alloc (.cells #[.slice a0 n0 c0, .int .i64 x.valid, .int .i64 x.next, .int .i64 x.seq, .slice a1 x.mails.length c1, .slice a2 x.gones.length c2, .int .i64 x.lost] 35))) := X
    clear kA X
    go_enter Tryd.func86, Tryd.ntmps86
    go_wp2
    go_loopw [3, 5, 13] (fun q _ i wr => ∃ k : Nat, k ≤ x.mails.length ∧ i = .int .i64 k ∧ q = .int .i64 (prevU x.mails k) ∧ Hid (∀ j, j < k → mailAt x j = true) ∧ Hid (wr.heap[w.heap.size]? = some (.cells #[.slice a0 n0 c0, .int .i64 x.valid, .int .i64 x.next, .int .i64 x.seq, .slice a1 x.mails.length c1, .slice a2 x.gones.length c2, .int .i64 x.lost] 35)) ∧ Hid (Below w.heap.size w wr)) (fun _ _ i _ => x.mails.length - (intOf i).toNat)
    case atStart => exact ⟨0, Nat.zero_le _, rfl, rfl, (fun j hj => absurd hj (Nat.not_lt_zero _)), HK, HX⟩
    case round =>
      obtain ⟨k, hk, rfl, rfl, hA, hK, hB⟩ := hrel
      by_cases hlt : k < x.mails.length
      · obtain ⟨m, hm⟩ : ∃ m, x.mails[k]? = some m := ⟨x.mails[k], List.getElem?_eq_getElem hlt⟩
        obtain ⟨b, off, cap', u, hv', hlb, d0, d1, d2, d3, hu, j0, j1, j2⟩ := MailsV.cell (H0.out wr hB.out).2.1 k m hm
        simp only [Value.slice.injEq, true_and] at hv'
        obtain ⟨rfl, rfl⟩ := hv'
        obtain ⟨ua, un, uc, rfl⟩ := hu.form3
        have hp := prevU_ok hn1 hk hA.out
        have HE : Hid (mailAt x k = (inB m.uid (prevU x.mails k + 1) (x.next - 1) && (inB m.flags 0 31 && (inB m.seq 1 x.seq && textB m.text)))) := by simp [Hid, mailAt, hm]
        have HP1 : Hid (prevU x.mails (k + 1) = m.uid) := by simp [Hid, prevU, hm]
        generalize hQ : prevU x.mails k = q at hp HE
        clear hQ hm
        obtain ⟨hp0, hp1⟩ := hp
        obtain ⟨uid, flags, seq, text⟩ := m
        simp only at d0 d1 d2 d3 hu j0 j1 j2 HE HP1
        have c1' := within_any uid (q + 1) (x.next - 1)
        have c2' := within_any flags 0 31
        have c3' := within_any seq 1 x.seq
        generalize inB uid (q + 1) (x.next - 1) = X1 at c1' HE
        generalize inB flags 0 31 = X2 at c2' HE
        generalize inB seq 1 x.seq = X3 at c3' HE
        have ab : Below wr.heap.size wr (wr.alloc (.cells #[.int .i64 uid, .int .i64 flags, .int .i64 seq, .slice ua un uc] 54)) := (Below.refl _ _).alloc (Nat.le_refl _) _
        have c4' := textOk_any _ text _ (hu.below ab)
        generalize textB text = X4 at c4' HE
        have hKA := hK.out
        obtain ⟨e0, e1, e2, e3, e4, e5, e6⟩ := bx7 hKA
        have hlA := lt_of_heap hKA
        have HKm : Hid ((wr.alloc (.cells #[.int .i64 uid, .int .i64 flags, .int .i64 seq, .slice ua un uc] 54)).heap[wr.heap.size]? = some (.cells #[.int .i64 uid, .int .i64 flags, .int .i64 seq, .slice ua un uc] 54)) := box_new wr _
        have HKb : Hid ((wr.alloc (.cells #[.int .i64 uid, .int .i64 flags, .int .i64 seq, .slice ua un uc] 54)).heap[w.heap.size]? = some (.cells #[.slice a0 n0 c0, .int .i64 x.valid, .int .i64 x.next, .int .i64 x.seq, .slice (some ⟨b, off, none⟩) x.mails.length c1, .slice a2 x.gones.length c2, .int .i64 x.lost] 35)) := box_alloc hKA _
        have HB1 : Hid (Below w.heap.size w (wr.alloc (.cells #[.int .i64 uid, .int .i64 flags, .int .i64 seq, .slice ua un uc] 54))) := Below.step hB.out ab
        clear hKA hu ab hK hB
        go_wp2_with fail
        refine (c1' _).mono ?_
        rintro e w' ⟨rfl, rfl⟩
        cases X1 with
        | false =>
          go_wp2
          go_ret
          exact ⟨ret_b (by rw [HS.out]; exact rangeAll_no k hlt HE.out), HB1.out⟩
        | true =>
        go_wp2_with fail
        refine (c2' _).mono ?_
        rintro e w' ⟨rfl, rfl⟩
        cases X2 with
        | false =>
          go_wp2
          go_ret
          exact ⟨ret_b (by rw [HS.out]; exact rangeAll_no k hlt HE.out), HB1.out⟩
        | true =>
        go_wp2_with fail
        refine (c3' _).mono ?_
        rintro e w' ⟨rfl, rfl⟩
        cases X3 with
        | false =>
          go_wp2
          go_ret
          exact ⟨ret_b (by rw [HS.out]; exact rangeAll_no k hlt HE.out), HB1.out⟩
        | true =>
        go_wp2_with fail
        refine c4'.mono ?_
        rintro e w2 ⟨rfl, B⟩
        have HB2 : Hid (Below w.heap.size w w2) := Below.step HB1.out B
        have HKb2 : Hid (w2.heap[w.heap.size]? = some (.cells #[.slice a0 n0 c0, .int .i64 x.valid, .int .i64 x.next, .int .i64 x.seq, .slice (some ⟨b, off, none⟩) x.mails.length c1, .slice a2 x.gones.length c2, .int .i64 x.lost] 35)) := box_below B HKb.out
        obtain ⟨t0, t1, t2, t3⟩ := bx4 (box_below B HKm.out)
        clear B HB1 HKb HKm
        cases X4 with
        | false =>
          go_wp2
          go_ret
          exact ⟨ret_b (by rw [HS.out]; exact rangeAll_no k hlt HE.out), HB2.out⟩
        | true =>
        go_wp2
        go_roundw
        case rel =>
          refine ⟨k + 1, by omega, by go_num, by rw [HP1.out], (show Hid _ from fun j hj => ?_), HKb2, HB2⟩
          by_cases e : j = k
          · subst e; exact HE.out
          · exact hA.out j (by omega)
        case measure => simp [intOf]; omega
      · obtain rfl : k = x.mails.length := by omega
        go_wp2
        go_ret
        exact ⟨ret_b (by rw [HS.out]; exact rangeAll_yes hA.out), hB.out⟩
  · have HS : Hid (mailsB x = false) := by simp [Hid, mailsB, h0]
    go_enter Tryd.func86, Tryd.ntmps86
    go_wp2
    go_ret
    exact ⟨ret_b HS.out, X⟩

end Go.Proofs.YtmonloebkdpahaaDoor

/- What gonesOk of package impl do. -/
namespace Go.Proofs.YtmonloebkdpahaaDoor
open Go.RowKit Go.Shelf
set_option maxRecDepth 100000
set_option linter.unusedVariables false

theorem Rd.takeG {α : Type} {sz : Nat} {E : World → List Value → α → Prop} {w : World} {a : Option Addr} {n cap : Nat} {l : List α} (h : Rd sz E w (.slice a n cap) l) (k : Nat) (hk : k ≤ l.length) : Rd sz E w (.slice a k cap) (l.take k) := by
  obtain ⟨a', cap', cs, hv, h1, h2, h3, h4, h5⟩ := h
  simp only [Value.slice.injEq] at hv
  obtain ⟨rfl, -, rfl⟩ := hv
  have hl : (l.take k).length = k := by simp; omega
  refine ⟨a, cap, cs, by rw [hl], by rw [hl]; omega, h2, h3, fun i x hx => ?_, fun hp => ?_⟩
  · rw [List.getElem?_take] at hx
    split at hx
    · exact h4 i x hx
    · cases hx
  · rw [hl] at hp
    obtain ⟨b, off, ha, hlt, hc⟩ := h5 (by omega)
    exact ⟨b, off, ha, hlt, fun i j u hi hu => hc i j u (by rw [hl] at hi; omega) hu⟩

set_option maxRecDepth 100000 in
set_option maxHeartbeats 1000000 in
theorem gonesOk1_any (u : Value) (m : MailD) (bg : Nat) (guid : Int) (w : World) (hu : MailV w u m) (hc : w.cell? ⟨bg, 0, none⟩ = some (.int .i64 guid)) (hb : bg < w.heap.size) :
    Calls Tryd.prog 98 #[u, .pointer (some ⟨bg, 0, none⟩)] w fun e w' => e = .returned (.bool (decide (m.uid = guid))) ∧ Below w.heap.size w w' := by
  obtain ⟨u, rfl, h, -⟩ := hu
  obtain ⟨ua, un, uc, rfl⟩ := h.form3
  clear h
  obtain ⟨uid, flags, seq, text⟩ := m
  simp only
  go_enter Tryd.func98, Tryd.ntmps98
  go_wp2
  go_ret
  exact ⟨ret_b (by rw [Bool.eq_iff_iff]; simp), (Below.refl _ _).alloc (Nat.le_refl _) _⟩

set_option maxRecDepth 100000 in
set_option maxHeartbeats 1000000 in
theorem gonesOk2_any (u : Value) (m : GoneD) (bg : Nat) (guid : Int) (w : World) (hu : GoneV w u m) (hc : w.cell? ⟨bg, 0, none⟩ = some (.int .i64 guid)) (hb : bg < w.heap.size) :
    Calls Tryd.prog 100 #[u, .pointer (some ⟨bg, 0, none⟩)] w fun e w' => e = .returned (.bool (decide (m.uid = guid))) ∧ Below w.heap.size w w' := by
  unfold GoneV at hu
  subst hu
  obtain ⟨uid, seq⟩ := m
  simp only
  go_enter Tryd.func100, Tryd.ntmps100
  go_wp2
  go_ret
  exact ⟨ret_b (by rw [Bool.eq_iff_iff]; simp), (Below.refl _ _).alloc (Nat.le_refl _) _⟩

set_option maxRecDepth 100000 in
set_option maxHeartbeats 1000000 in
theorem gonesOk_any (v : Value) (x : BoxD) (w : World) (hv : BoxV w v x) (hn0 : 1 ≤ x.next) (hn1 : x.next ≤ 1000000) :
    Calls Tryd.prog 87 #[v] w fun e w' => e = .returned (.bool (gonesB x)) ∧ Below w.heap.size w w' := by
  obtain ⟨u0, u1, u2, rfl, g0, g1, g2, i0, i1, i2, i3⟩ := hv
  have H0 : Hid (∀ wi, Below w.heap.size w wi → Bs wi u0 x.name ∧ MailsV wi u1 x.mails ∧ GonesV wi u2 x.gones) := fun wi h => ⟨g0.below h, g1.below keepsMail h, g2.below keepsGone h⟩
  obtain ⟨a0, n0, c0, rfl⟩ := g0.form3
  obtain ⟨a1, c1, rfl, m0, m1⟩ := g1.form
  obtain ⟨a2, c2, rfl, m2, m3⟩ := g2.form
  clear g0 g1 g2
  have kA := box_new w (.cells #[.slice a0 n0 c0, .int .i64 x.valid, .int .i64 x.next, .int .i64 x.seq, .slice a1 x.mails.length c1, .slice a2 x.gones.length c2, .int .i64 x.lost] 35)
  have X : Below w.heap.size w (w.alloc (.cells #[.slice a0 n0 c0, .int .i64 x.valid, .int .i64 x.next, .int .i64 x.seq, .slice a1 x.mails.length c1, .slice a2 x.gones.length c2, .int .i64 x.lost] 35)) := (Below.refl _ _).alloc (Nat.le_refl _) _
  by_cases h0 : x.gones.length ≤ 40
  · have HS : Hid (gonesB x = (List.range x.gones.length).all (goneAt x)) := by simp [Hid, gonesB, h0]
    have HK : Hid ((w.alloc (.cells #[.slice a0 n0 c0, .int .i64 x.valid, .int .i64 x.next, .int .i64 x.seq, .slice a1 x.mails.length c1, .slice a2 x.gones.length c2, .int .i64 x.lost] 35)).heap[w.heap.size]? = some (.cells #[.slice a0 n0 c0, .int .i64 x.valid, .int .i64 x.next, .int .i64 x.seq, .slice a1 x.mails.length c1, .slice a2 x.gones.length c2, .int .i64 x.lost] 35)) := kA
    have HX : Hid (Below w.heap.size w (w.alloc (.cells #[.slice a0 n0 c0, .int .i64 x.valid, .int .i64 x.next, .int .i64 x.seq, .slice a1 x.mails.length c1, .slice a2 x.gones.length c2, .int .i64 x.lost] 35))) := X
    clear kA X
    by_cases hml : 1 < x.lost
    · have hml0 : Hid True := trivial
      go_enter Tryd.func87, Tryd.ntmps87
      go_wp2
      go_loopw [3, 4, 5, 16] (fun q _ _ i wr => ∃ k : Nat, k ≤ x.gones.length ∧ i = .int .i64 k ∧ q = .int .i64 (minS x k) ∧ Hid (∀ j, j < k → goneAt x j = true) ∧ Hid (wr.heap[w.heap.size]? = some (.cells #[.slice a0 n0 c0, .int .i64 x.valid, .int .i64 x.next, .int .i64 x.seq, .slice a1 x.mails.length c1, .slice a2 x.gones.length c2, .int .i64 x.lost] 35)) ∧ Hid (Below w.heap.size w wr)) (fun _ _ _ i _ => x.gones.length - (intOf i).toNat)
      case atStart => exact ⟨0, Nat.zero_le _, rfl, by simp [minS] <;> omega, (fun j hj => absurd hj (Nat.not_lt_zero _)), HK, HX⟩
      case round =>
        obtain ⟨k, hk, rfl, rfl, hA, hK, hB⟩ := hrel
        by_cases hlt : k < x.gones.length
        · obtain ⟨m, hm⟩ : ∃ m, x.gones[k]? = some m := ⟨x.gones[k], List.getElem?_eq_getElem hlt⟩
          obtain ⟨b, off, cap', hv', hlb, d0, d1, j0, j1⟩ := GonesV.cell (H0.out wr hB.out).2.2 k m hm
          simp only [Value.slice.injEq, true_and] at hv'
          obtain ⟨rfl, rfl⟩ := hv'
          have HE : Hid (goneAt x k = (inB m.uid 1 (x.next - 1) && (inB m.seq (minS x k) x.seq && (!(x.mails.any fun o => decide (o.uid = m.uid)) && !((x.gones.take k).any fun o => decide (o.uid = m.uid)))))) := by simp [Hid, goneAt, hm]
          have HP1 : Hid (minS x (k + 1) = m.seq) := by simp [Hid, minS, hm]
          generalize hQ : minS x k = q at HE
          clear hQ hm
          obtain ⟨uid, seq⟩ := m
          simp only at d0 d1 j0 j1 HE HP1
          have c1' := within_any uid 1 (x.next - 1)
          have c2' := within_any seq q x.seq
          generalize inB uid 1 (x.next - 1) = X1 at c1' HE
          generalize inB seq q x.seq = X2 at c2' HE
          have HKg : Hid ((wr.alloc (.cells #[.int .i64 uid, .int .i64 seq] 57)).heap[wr.heap.size]? = some (.cells #[.int .i64 uid, .int .i64 seq] 57)) := box_new wr _
          have HKb : Hid ((wr.alloc (.cells #[.int .i64 uid, .int .i64 seq] 57)).heap[w.heap.size]? = some (.cells #[.slice a0 n0 c0, .int .i64 x.valid, .int .i64 x.next, .int .i64 x.seq, .slice a1 x.mails.length c1, .slice (some ⟨b, off, none⟩) x.gones.length c2, .int .i64 x.lost] 35)) := box_alloc hK.out _
          have HB1 : Hid (Below w.heap.size w (wr.alloc (.cells #[.int .i64 uid, .int .i64 seq] 57))) := Below.step hB.out ((Below.refl _ _).alloc (Nat.le_refl _) _)
          have c3' := containsFuncMail 98 #[.pointer (some ⟨wr.heap.size, 0, none⟩)] (fun o => decide (o.uid = uid)) _ x.mails _ (H0.out _ HB1.out).2.1 (fun args w => by kernel_rfl) (fun wi o u hbi hu => gonesOk1_any u o wr.heap.size uid wi hu (bx2 (box_below hbi HKg.out)).1 (lt_of_heap (box_below hbi HKg.out)))
          have HC4 : Hid (∀ wi, Below (wr.alloc (.cells #[.int .i64 uid, .int .i64 seq] 57)).heap.size (wr.alloc (.cells #[.int .i64 uid, .int .i64 seq] 57)) wi → Calls Tryd.prog 99 #[.slice (some ⟨b, off, none⟩) k c2, .func (.func 100) #[] #[.pointer (some ⟨wr.heap.size, 0, none⟩)]] wi fun e w' => e = .returned (.bool ((x.gones.take k).any fun o => decide (o.uid = uid))) ∧ Below wi.heap.size wi w') := fun wi hbi =>
            containsFuncGone 100 #[.pointer (some ⟨wr.heap.size, 0, none⟩)] (fun o => decide (o.uid = uid)) _ (x.gones.take k) _ (((H0.out _ (Below.step HB1.out hbi)).2.2).takeG k hk) (fun args w => by kernel_rfl) (fun wj o u hbj hu => gonesOk2_any u o wr.heap.size uid wj hu (bx2 (box_below hbj (box_below hbi HKg.out))).1 (lt_of_heap (box_below hbj (box_below hbi HKg.out))))
          generalize (x.mails.any fun o => decide (o.uid = uid)) = X3 at c3' HE
          generalize ((x.gones.take k).any fun o => decide (o.uid = uid)) = X4 at HC4 HE
          obtain ⟨e0, e1, e2, e3, e4, e5, e6⟩ := bx7 hK.out
          have hlA := lt_of_heap hK.out
          clear hK hB
          go_wp2_with fail
          refine (c1' _).mono ?_
          rintro e w' ⟨rfl, rfl⟩
          cases X1 with
          | false =>
            go_wp2
            go_ret
            exact ⟨ret_b (by rw [HS.out]; exact rangeAll_no k hlt HE.out), HB1.out⟩
          | true =>
          go_wp2_with fail
          refine (c2' _).mono ?_
          rintro e w' ⟨rfl, rfl⟩
          cases X2 with
          | false =>
            go_wp2
            go_ret
            exact ⟨ret_b (by rw [HS.out]; exact rangeAll_no k hlt HE.out), HB1.out⟩
          | true =>
          go_wp2_with fail
          refine c3'.mono ?_
          rintro e w2 ⟨rfl, B⟩
          have HB2 : Hid (Below w.heap.size w w2) := Below.step HB1.out B
          have HKb2 : Hid (w2.heap[w.heap.size]? = some (.cells #[.slice a0 n0 c0, .int .i64 x.valid, .int .i64 x.next, .int .i64 x.seq, .slice a1 x.mails.length c1, .slice (some ⟨b, off, none⟩) x.gones.length c2, .int .i64 x.lost] 35)) := box_below B HKb.out
          have HKg2 : Hid (w2.heap[wr.heap.size]? = some (.cells #[.int .i64 uid, .int .i64 seq] 57)) := box_below B HKg.out
          have c4' := HC4.out w2 B
          obtain ⟨t0, t1⟩ := bx2 HKg2.out
          obtain ⟨s0, s1, s2, s3, s4, s5, s6⟩ := bx7 HKb2.out
          clear B HB1 HKb HKg HC4 e0 e1 e2 e3 e4 e5 e6
          cases X3 with
          | true =>
            go_wp2
            go_ret
            exact ⟨ret_b (by rw [HS.out]; exact rangeAll_no k hlt HE.out), HB2.out⟩
          | false =>
          go_wp2_with fail
          refine c4'.mono ?_
          rintro e w3 ⟨rfl, B⟩
          have HB3 : Hid (Below w.heap.size w w3) := Below.step HB2.out B
          have HKb3 : Hid (w3.heap[w.heap.size]? = some (.cells #[.slice a0 n0 c0, .int .i64 x.valid, .int .i64 x.next, .int .i64 x.seq, .slice a1 x.mails.length c1, .slice (some ⟨b, off, none⟩) x.gones.length c2, .int .i64 x.lost] 35)) := box_below B HKb2.out
          clear t0 t1 s0 s1 s2 s3 s4 s5 s6
          obtain ⟨t0, t1⟩ := bx2 (box_below B HKg2.out)
          clear B HB2 HKb2 HKg2
          cases X4 with
          | true =>
            go_wp2
            go_ret
            exact ⟨ret_b (by rw [HS.out]; exact rangeAll_no k hlt HE.out), HB3.out⟩
          | false =>
          go_wp2
          go_roundw
          case rel =>
            refine ⟨k + 1, by omega, by go_num, by rw [HP1.out], (show Hid _ from fun j hj => ?_), HKb3, HB3⟩
            by_cases e : j = k
            · subst e; exact HE.out
            · exact hA.out j (by omega)
          case measure => simp [intOf]; omega
        · obtain rfl : k = x.gones.length := by omega
          go_wp2
          go_ret
          exact ⟨ret_b (by rw [HS.out]; exact rangeAll_yes hA.out), hB.out⟩
    · have hml' : x.lost ≤ 1 := by omega
      clear hml
      go_enter Tryd.func87, Tryd.ntmps87
      go_wp2
      go_loopw [3, 4, 5, 16] (fun q _ _ i wr => ∃ k : Nat, k ≤ x.gones.length ∧ i = .int .i64 k ∧ q = .int .i64 (minS x k) ∧ Hid (∀ j, j < k → goneAt x j = true) ∧ Hid (wr.heap[w.heap.size]? = some (.cells #[.slice a0 n0 c0, .int .i64 x.valid, .int .i64 x.next, .int .i64 x.seq, .slice a1 x.mails.length c1, .slice a2 x.gones.length c2, .int .i64 x.lost] 35)) ∧ Hid (Below w.heap.size w wr)) (fun _ _ _ i _ => x.gones.length - (intOf i).toNat)
      case atStart => exact ⟨0, Nat.zero_le _, rfl, by simp [minS] <;> omega, (fun j hj => absurd hj (Nat.not_lt_zero _)), HK, HX⟩
      case round =>
        obtain ⟨k, hk, rfl, rfl, hA, hK, hB⟩ := hrel
        by_cases hlt : k < x.gones.length
        · obtain ⟨m, hm⟩ : ∃ m, x.gones[k]? = some m := ⟨x.gones[k], List.getElem?_eq_getElem hlt⟩
          obtain ⟨b, off, cap', hv', hlb, d0, d1, j0, j1⟩ := GonesV.cell (H0.out wr hB.out).2.2 k m hm
          simp only [Value.slice.injEq, true_and] at hv'
          obtain ⟨rfl, rfl⟩ := hv'
          have HE : Hid (goneAt x k = (inB m.uid 1 (x.next - 1) && (inB m.seq (minS x k) x.seq && (!(x.mails.any fun o => decide (o.uid = m.uid)) && !((x.gones.take k).any fun o => decide (o.uid = m.uid)))))) := by simp [Hid, goneAt, hm]
          have HP1 : Hid (minS x (k + 1) = m.seq) := by simp [Hid, minS, hm]
          generalize hQ : minS x k = q at HE
          clear hQ hm
          obtain ⟨uid, seq⟩ := m
          simp only at d0 d1 j0 j1 HE HP1
          have c1' := within_any uid 1 (x.next - 1)
          have c2' := within_any seq q x.seq
          generalize inB uid 1 (x.next - 1) = X1 at c1' HE
          generalize inB seq q x.seq = X2 at c2' HE
          have HKg : Hid ((wr.alloc (.cells #[.int .i64 uid, .int .i64 seq] 57)).heap[wr.heap.size]? = some (.cells #[.int .i64 uid, .int .i64 seq] 57)) := box_new wr _
          have HKb : Hid ((wr.alloc (.cells #[.int .i64 uid, .int .i64 seq] 57)).heap[w.heap.size]? = some (.cells #[.slice a0 n0 c0, .int .i64 x.valid, .int .i64 x.next, .int .i64 x.seq, .slice a1 x.mails.length c1, .slice (some ⟨b, off, none⟩) x.gones.length c2, .int .i64 x.lost] 35)) := box_alloc hK.out _
          have HB1 : Hid (Below w.heap.size w (wr.alloc (.cells #[.int .i64 uid, .int .i64 seq] 57))) := Below.step hB.out ((Below.refl _ _).alloc (Nat.le_refl _) _)
          have c3' := containsFuncMail 98 #[.pointer (some ⟨wr.heap.size, 0, none⟩)] (fun o => decide (o.uid = uid)) _ x.mails _ (H0.out _ HB1.out).2.1 (fun args w => by kernel_rfl) (fun wi o u hbi hu => gonesOk1_any u o wr.heap.size uid wi hu (bx2 (box_below hbi HKg.out)).1 (lt_of_heap (box_below hbi HKg.out)))
          have HC4 : Hid (∀ wi, Below (wr.alloc (.cells #[.int .i64 uid, .int .i64 seq] 57)).heap.size (wr.alloc (.cells #[.int .i64 uid, .int .i64 seq] 57)) wi → Calls Tryd.prog 99 #[.slice (some ⟨b, off, none⟩) k c2, .func (.func 100) #[] #[.pointer (some ⟨wr.heap.size, 0, none⟩)]] wi fun e w' => e = .returned (.bool ((x.gones.take k).any fun o => decide (o.uid = uid))) ∧ Below wi.heap.size wi w') := fun wi hbi =>
            containsFuncGone 100 #[.pointer (some ⟨wr.heap.size, 0, none⟩)] (fun o => decide (o.uid = uid)) _ (x.gones.take k) _ (((H0.out _ (Below.step HB1.out hbi)).2.2).takeG k hk) (fun args w => by kernel_rfl) (fun wj o u hbj hu => gonesOk2_any u o wr.heap.size uid wj hu (bx2 (box_below hbj (box_below hbi HKg.out))).1 (lt_of_heap (box_below hbj (box_below hbi HKg.out))))
          generalize (x.mails.any fun o => decide (o.uid = uid)) = X3 at c3' HE
          generalize ((x.gones.take k).any fun o => decide (o.uid = uid)) = X4 at HC4 HE
          obtain ⟨e0, e1, e2, e3, e4, e5, e6⟩ := bx7 hK.out
          have hlA := lt_of_heap hK.out
          clear hK hB
          go_wp2_with fail
          refine (c1' _).mono ?_
          rintro e w' ⟨rfl, rfl⟩
          cases X1 with
          | false =>
            go_wp2
            go_ret
            exact ⟨ret_b (by rw [HS.out]; exact rangeAll_no k hlt HE.out), HB1.out⟩
          | true =>
          go_wp2_with fail
          refine (c2' _).mono ?_
          rintro e w' ⟨rfl, rfl⟩
          cases X2 with
          | false =>
            go_wp2
            go_ret
            exact ⟨ret_b (by rw [HS.out]; exact rangeAll_no k hlt HE.out), HB1.out⟩
          | true =>
          go_wp2_with fail
          refine c3'.mono ?_
          rintro e w2 ⟨rfl, B⟩
          have HB2 : Hid (Below w.heap.size w w2) := Below.step HB1.out B
          have HKb2 : Hid (w2.heap[w.heap.size]? = some (.cells #[.slice a0 n0 c0, .int .i64 x.valid, .int .i64 x.next, .int .i64 x.seq, .slice a1 x.mails.length c1, .slice (some ⟨b, off, none⟩) x.gones.length c2, .int .i64 x.lost] 35)) := box_below B HKb.out
          have HKg2 : Hid (w2.heap[wr.heap.size]? = some (.cells #[.int .i64 uid, .int .i64 seq] 57)) := box_below B HKg.out
          have c4' := HC4.out w2 B
          obtain ⟨t0, t1⟩ := bx2 HKg2.out
          obtain ⟨s0, s1, s2, s3, s4, s5, s6⟩ := bx7 HKb2.out
          clear B HB1 HKb HKg HC4 e0 e1 e2 e3 e4 e5 e6
          cases X3 with
          | true =>
            go_wp2
            go_ret
            exact ⟨ret_b (by rw [HS.out]; exact rangeAll_no k hlt HE.out), HB2.out⟩
          | false =>
          go_wp2_with fail
          refine c4'.mono ?_
          rintro e w3 ⟨rfl, B⟩
          have HB3 : Hid (Below w.heap.size w w3) := Below.step HB2.out B
          have HKb3 : Hid (w3.heap[w.heap.size]? = some (.cells #[.slice a0 n0 c0, .int .i64 x.valid, .int .i64 x.next, .int .i64 x.seq, .slice a1 x.mails.length c1, .slice (some ⟨b, off, none⟩) x.gones.length c2, .int .i64 x.lost] 35)) := box_below B HKb2.out
          clear t0 t1 s0 s1 s2 s3 s4 s5 s6
          obtain ⟨t0, t1⟩ := bx2 (box_below B HKg2.out)
          clear B HB2 HKb2 HKg2
          cases X4 with
          | true =>
            go_wp2
            go_ret
            exact ⟨ret_b (by rw [HS.out]; exact rangeAll_no k hlt HE.out), HB3.out⟩
          | false =>
          go_wp2
          go_roundw
          case rel =>
            refine ⟨k + 1, by omega, by go_num, by rw [HP1.out], (show Hid _ from fun j hj => ?_), HKb3, HB3⟩
            by_cases e : j = k
            · subst e; exact HE.out
            · exact hA.out j (by omega)
          case measure => simp [intOf]; omega
        · obtain rfl : k = x.gones.length := by omega
          go_wp2
          go_ret
          exact ⟨ret_b (by rw [HS.out]; exact rangeAll_yes hA.out), hB.out⟩
  · have HS : Hid (gonesB x = false) := by simp [Hid, gonesB, h0]
    go_enter Tryd.func87, Tryd.ntmps87
    go_wp2
    go_ret
    exact ⟨ret_b HS.out, X⟩

end Go.Proofs.YtmonloebkdpahaaDoor

/- What boxOk of package impl do. -/
namespace Go.Proofs.YtmonloebkdpahaaDoor
open Go.RowKit Go.Shelf
set_option maxRecDepth 100000
set_option linter.unusedVariables false

set_option maxRecDepth 100000 in
set_option maxHeartbeats 1000000 in
theorem boxOk_any (v : Value) (x : BoxD) (mv : Int) (w : World) (hv : BoxV w v x) :
    Calls Tryd.prog 56 #[v, .int .i64 mv] w fun e w' => e = .returned (.bool (boxB x mv)) ∧ Below w.heap.size w w' := by
  have HV : Hid (∀ wi, Below w.heap.size w wi → BoxV wi v x) := fun wi h => hv.below h
  obtain ⟨u0, u1, u2, rfl, g0, g1, g2, i0, i1, i2, i3⟩ := hv
  have H0 : Hid (∀ wi, Below w.heap.size w wi → Bs wi u0 x.name ∧ MailsV wi u1 x.mails ∧ GonesV wi u2 x.gones) := fun wi h => ⟨g0.below h, g1.below keepsMail h, g2.below keepsGone h⟩
  obtain ⟨a0, n0, c0, rfl⟩ := g0.form3
  obtain ⟨a1, c1, rfl, m0, m1⟩ := g1.form
  obtain ⟨a2, c2, rfl, m2, m3⟩ := g2.form
  have kA := box_new w (.cells #[.slice a0 n0 c0, .int .i64 x.valid, .int .i64 x.next, .int .i64 x.seq, .slice a1 x.mails.length c1, .slice a2 x.gones.length c2, .int .i64 x.lost] 35)
  have X : Below w.heap.size w (w.alloc (.cells #[.slice a0 n0 c0, .int .i64 x.valid, .int .i64 x.next, .int .i64 x.seq, .slice a1 x.mails.length c1, .slice a2 x.gones.length c2, .int .i64 x.lost] 35)) := (Below.refl _ _).alloc (Nat.le_refl _) _
  clear g0 g1 g2
  have HC : Hid (boxB x mv = (nameB x.name && (inB x.valid 1 mv && (inB x.next 1 1000000 && (inB x.seq 0 1000000 && (inB x.lost 0 x.seq && (mailsB x && gonesB x))))))) := rfl
  have HN : Hid (inB x.next 1 1000000 = true → 1 ≤ x.next ∧ x.next ≤ 1000000) := by intro h; simp [inB] at h; exact h
  have hy1 := fun wi (h : Bs wi (.slice a0 n0 c0) x.name) => nameOk_any _ x.name wi h
  have hy2 := within_any x.valid 1 mv
  have hy3 := within_any x.next 1 1000000
  have hy4 := within_any x.seq 0 1000000
  have hy5 := within_any x.lost 0 x.seq
  have hy6 := fun wi (h : BoxV wi (.agg #[.slice a0 n0 c0, .int .i64 x.valid, .int .i64 x.next, .int .i64 x.seq, .slice a1 x.mails.length c1, .slice a2 x.gones.length c2, .int .i64 x.lost]) x) h1 h2 => mailsOk_any _ x wi h h1 h2
  have hy7 := fun wi (h : BoxV wi (.agg #[.slice a0 n0 c0, .int .i64 x.valid, .int .i64 x.next, .int .i64 x.seq, .slice a1 x.mails.length c1, .slice a2 x.gones.length c2, .int .i64 x.lost]) x) h1 h2 => gonesOk_any _ x wi h h1 h2
  generalize nameB x.name = X1 at HC hy1
  generalize inB x.valid 1 mv = X2 at HC hy2
  generalize inB x.next 1 1000000 = X3 at HC hy3 HN
  generalize inB x.seq 0 1000000 = X4 at HC hy4
  generalize inB x.lost 0 x.seq = X5 at HC hy5
  generalize mailsB x = X6 at HC hy6
  generalize gonesB x = X7 at HC hy7
  go_enter Tryd.func56, Tryd.ntmps56
  go_wp2_with fail
  refine (hy1 _ (H0.out _ X).1).mono ?_
  rintro e w1 ⟨rfl, B⟩
  replace kA := box_below B kA
  replace X := Below.step X B
  clear B hy1
  obtain ⟨f0, f1, f2, f3, f4, f5, f6⟩ := bx7 kA
  cases X1 with
  | false =>
    go_wp2
    go_ret
    exact ⟨ret_b HC.out, X⟩
  | true =>
  go_wp2_with fail
  refine (hy2 _).mono ?_
  rintro e w' ⟨rfl, rfl⟩
  cases X2 with
  | false =>
    go_wp2
    go_ret
    exact ⟨ret_b HC.out, X⟩
  | true =>
  go_wp2_with fail
  refine (hy3 _).mono ?_
  rintro e w' ⟨rfl, rfl⟩
  cases X3 with
  | false =>
    go_wp2
    go_ret
    exact ⟨ret_b HC.out, X⟩
  | true =>
  obtain ⟨hn0, hn1⟩ := HN.out rfl
  go_wp2_with fail
  refine (hy4 _).mono ?_
  rintro e w' ⟨rfl, rfl⟩
  cases X4 with
  | false =>
    go_wp2
    go_ret
    exact ⟨ret_b HC.out, X⟩
  | true =>
  go_wp2_with fail
  refine (hy5 _).mono ?_
  rintro e w' ⟨rfl, rfl⟩
  cases X5 with
  | false =>
    go_wp2
    go_ret
    exact ⟨ret_b HC.out, X⟩
  | true =>
  go_wp2_with fail
  refine (hy6 _ (HV.out _ X) hn0 hn1).mono ?_
  rintro e w2 ⟨rfl, B⟩
  replace kA := box_below B kA
  replace X := Below.step X B
  clear B hy6 f0 f1 f2 f3 f4 f5 f6
  obtain ⟨f0, f1, f2, f3, f4, f5, f6⟩ := bx7 kA
  cases X6 with
  | false =>
    go_wp2
    go_ret
    exact ⟨ret_b HC.out, X⟩
  | true =>
  go_wp2_with fail
  refine (hy7 _ (HV.out _ X) hn0 hn1).mono ?_
  rintro e w3 ⟨rfl, B⟩
  replace X := Below.step X B
  go_wp2
  go_ret
  exact ⟨ret_b HC.out, X⟩

end Go.Proofs.YtmonloebkdpahaaDoor

/- What boxIsZero, replyOk of package impl do. -/
namespace Go.Proofs.YtmonloebkdpahaaDoor
open Go.RowKit
set_option maxRecDepth 100000
set_option linter.unusedVariables false
set_option linter.unusedSimpArgs false

set_option maxRecDepth 100000 in
set_option maxHeartbeats 2000000 in
theorem boxIsZero_gen (a0 a1 a2 : Option Addr) (n0 nm ng c0 c1 c2 : Nat) (valid next seq lost : Int) (w : World) :
    Calls Tryd.prog 30 #[.agg #[.slice a0 n0 c0, .int .i64 valid, .int .i64 next, .int .i64 seq, .slice a1 nm c1, .slice a2 ng c2, .int .i64 lost]] w fun e w' => e = .returned (.bool (zX n0 valid next seq nm ng lost)) ∧ Below w.heap.size w w' := by
  have HX : Hid (∀ o, Below w.heap.size w (w.alloc o)) := fun o => (Below.refl _ _).alloc (Nat.le_refl _) o
  go_enter Tryd.func30, Tryd.ntmps30
  go_wp2
  all_goals (go_ret; refine ⟨ret_b ?_, HX.out _⟩; clear HX; unfold zX; (try simp only [beq_iff_eq, beq_eq_false_iff_ne, ne_eq] at *); rw [Bool.eq_iff_iff]; simp; omega)
theorem boxIsZero_any (v : Value) (b : BoxD) (w : World) (hv : BoxV w v b) :
    Calls Tryd.prog 30 #[v] w fun e w' => e = .returned (.bool (zeroXB b)) ∧ Below w.heap.size w w' := by
  obtain ⟨u0, u1, u2, rfl, g0, g1, g2, -⟩ := hv
  obtain ⟨a0, c0, rfl⟩ := g0.form
  obtain ⟨a1, c1, rfl, -⟩ := g1.form
  obtain ⟨a2, c2, rfl, -⟩ := g2.form
  exact boxIsZero_gen _ _ _ _ _ _ _ _ _ _ _ _ _ w

theorem badName_r (v : Value) (l : List Int) (w : World) (hv : Bs w v l) :
    Calls Tryd.prog 54 #[v] w fun e w' => e = .returned (.bool (badN l)) ∧ Below w.heap.size w w' := by
  have hc := nameOk_any v l w hv
  have HE : Hid (badN l = !nameB l) := rfl
  generalize nameB l = b at hc HE
  clear hv
  go_enter Tryd.func54, Tryd.ntmps54
  go_wp2_with fail
  refine hc.mono ?_
  rintro e w1 ⟨rfl, B⟩
  go_wp2
  go_ret
  exact ⟨ret_b HE.out, B⟩

set_option maxRecDepth 100000 in
set_option maxHeartbeats 2000000 in
theorem replyOk_gen (v : Value) (x : RepD) (w : World) (hv : RepV w v x) :
    Calls Tryd.prog 26 #[v] w fun e w' => e = .returned (.bool (repB x)) ∧ Below w.heap.size w w' := by
  have H0 : Hid (∀ wi, Below w.heap.size w wi → RepV wi v x) := fun wi h => hv.below h
  obtain ⟨a0, n0, c0, a1, c1, a2, c2, a3, c3, rfl⟩ := hv.form
  clear hv
  have hw0 := within_any x.code 0 6
  have hw1 := within_any x.num 0 1000000
  have HR : Hid (repB x = (inB x.code 0 6 && (inB x.num 0 1000000 && (decide (x.names.length ≤ 4) && (!(x.names.any badN) && (zeroXB x.box || boxB x.box 1000000)))))) := rfl
  have HX : Hid (∀ o, Below w.heap.size w (w.alloc o)) := fun o => (Below.refl _ _).alloc (Nat.le_refl _) o
  have kA := box_new w (.cells #[.int .i64 x.code, .int .i64 x.num, .slice a0 n0 c0, .int .i64 x.box.valid, .int .i64 x.box.next, .int .i64 x.box.seq, .slice a1 x.box.mails.length c1, .slice a2 x.box.gones.length c2, .int .i64 x.box.lost, .slice a3 x.names.length c3] 37)
  have hN : ∀ wi, Below w.heap.size w wi → Calls Tryd.prog 53 #[.slice a3 x.names.length c3, .func (.func 54) #[] #[]] wi fun e w' => e = .returned (.bool (x.names.any badN)) ∧ Below wi.heap.size wi w' := fun wi h =>
    containsFuncName 54 #[] badN _ x.names wi (H0.out wi h).parts.2.1 (fun args w => by kernel_rfl) (fun wj y u _ hu => badName_r u y wj hu)
  have HN : Hid (∀ wi, Below w.heap.size w wi → Calls Tryd.prog 53 #[.slice a3 x.names.length c3, .func (.func 54) #[] #[]] wi fun e w' => e = .returned (.bool (x.names.any badN)) ∧ Below wi.heap.size wi w') := hN
  clear hN
  have HZ : Hid (∀ wi, Below w.heap.size w wi → Calls Tryd.prog 30 #[.agg #[.slice a0 n0 c0, .int .i64 x.box.valid, .int .i64 x.box.next, .int .i64 x.box.seq, .slice a1 x.box.mails.length c1, .slice a2 x.box.gones.length c2, .int .i64 x.box.lost]] wi fun e w' => e = .returned (.bool (zeroXB x.box)) ∧ Below wi.heap.size wi w') := fun wi h => boxIsZero_any _ x.box wi (H0.out wi h).parts.1
  have HO : Hid (∀ wi, Below w.heap.size w wi → Calls Tryd.prog 56 #[.agg #[.slice a0 n0 c0, .int .i64 x.box.valid, .int .i64 x.box.next, .int .i64 x.box.seq, .slice a1 x.box.mails.length c1, .slice a2 x.box.gones.length c2, .int .i64 x.box.lost], .int .i64 1000000] wi fun e w' => e = .returned (.bool (boxB x.box 1000000)) ∧ Below wi.heap.size wi w') := fun wi h => boxOk_any _ x.box 1000000 wi (H0.out wi h).parts.1
  generalize inB x.code 0 6 = X0 at hw0 HR
  generalize inB x.num 0 1000000 = X1 at hw1 HR
  generalize x.names.any badN = X3 at HN HR
  generalize zeroXB x.box = X4 at HZ HR
  generalize boxB x.box 1000000 = X5 at HO HR
  go_enter Tryd.func26, Tryd.ntmps26
  go_wp2_with fail
  refine (hw0 _).mono ?_
  rintro e w' ⟨rfl, rfl⟩
  cases X0 with
  | false =>
    go_wp2
    go_ret
    exact ⟨ret_b HR.out, HX.out _⟩
  | true =>
  go_wp2_with fail
  refine (hw1 _).mono ?_
  rintro e w' ⟨rfl, rfl⟩
  clear hw0 hw1
  cases X1 with
  | false =>
    go_wp2
    go_ret
    exact ⟨ret_b HR.out, HX.out _⟩
  | true =>
  by_cases h4 : x.names.length ≤ 4
  · rw [decide_eq_true h4] at HR
    have h4' : (x.names.length : Int) ≤ 4 := by omega
    go_wp2_with fail
    refine (HN.out _ (HX.out _)).mono ?_
    rintro e w1 ⟨rfl, B⟩
    have Y := Below.step (HX.out _) B
    replace kA := box_below B kA
    clear B HX HN
    obtain ⟨f0, f1, f2, f3, f4, f5, f6, f7, f8, f9⟩ := bx10 kA
    have hlA := lt_of_heap kA
    cases X3 with
    | true =>
      go_wp2
      go_ret
      exact ⟨ret_b HR.out, Y⟩
    | false =>
    go_wp2_with fail
    refine (HZ.out _ Y).mono ?_
    rintro e w2 ⟨rfl, B⟩
    replace Y := Below.step Y B
    replace kA := box_below B kA
    clear B HZ f0 f1 f2 f3 f4 f5 f6 f7 f8 f9 hlA
    obtain ⟨f0, f1, f2, f3, f4, f5, f6, f7, f8, f9⟩ := bx10 kA
    have hlA := lt_of_heap kA
    cases X4 with
    | true =>
      go_wp2
      go_ret
      exact ⟨ret_b HR.out, Y⟩
    | false =>
    go_wp2_with fail
    refine (HO.out _ Y).mono ?_
    rintro e w3 ⟨rfl, B⟩
    replace Y := Below.step Y B
    clear B HO f0 f1 f2 f3 f4 f5 f6 f7 f8 f9 hlA kA
    go_wp2
    go_ret
    exact ⟨ret_b (by rw [HR.out]; cases X5 <;> rfl), Y⟩
  · rw [decide_eq_false h4] at HR
    have h4' : ¬ (x.names.length : Int) ≤ 4 := by omega
    go_wp2
    go_ret
    exact ⟨ret_b HR.out, HX.out _⟩

end Go.Proofs.YtmonloebkdpahaaDoor

/- The tables of putBoxLines' regions that draw their order. -/
namespace Go.Proofs.YtmonloebkdpahaaDoor

theorem tabPB1 : (Tryd.f31.body.bind (opsAt 1)).all (fun o => tableO o 16 [0, 1, 2, 3, 4, 5, 7, 8, 10, 11, 6, 9, 12, 13, 14, 15] [10, 11, 12, 13, 14]) = true := by kernel_rfl
theorem tabPB5 : (Tryd.f31.body.bind (opsAt 5)).all (fun o => tableO o 16 [0, 1, 2, 4, 5, 7, 8, 10, 11, 3, 6, 9, 12, 13, 14, 15] [9, 10, 11, 12, 13, 14]) = true := by kernel_rfl

end Go.Proofs.YtmonloebkdpahaaDoor

/- What putBoxLines of package impl do. -/
namespace Go.Proofs.YtmonloebkdpahaaDoor
open Go.RowKit
set_option maxRecDepth 100000
set_option linter.unusedVariables false
set_option linter.unusedSimpArgs false

theorem goneLine_len (m : GoneD) (h : 0 ≤ m.uid ∧ m.uid ≤ 9999999) : (goneLine m).length ≤ 2000 := by
  have e1 := digB_len10 (show m.uid.toNat ≤ 9999999 by omega)
  have := toks_len [digB m.uid.toNat] (fun s hs => by
    simp only [List.mem_cons, List.not_mem_nil, or_false] at hs
    subst hs
    omega)
  simp only [goneLine, List.length_append, List.length_cons, List.length_nil] at *
  omega
theorem mailLine_len (m : MailD) (h : 0 ≤ m.uid ∧ m.uid ≤ 9999999 ∧ 0 ≤ m.seq ∧ m.seq ≤ 9999999 ∧ 0 ≤ m.flags ∧ m.flags ≤ 31 ∧ m.text.length ≤ 400) : (mailLine m).length ≤ 5000 := by
  have e1 := digB_len10 (show m.uid.toNat ≤ 9999999 by omega)
  have e2 := digB_len10 (show m.seq.toNat ≤ 9999999 by omega)
  have e3 := flagsB_len m.flags
  have e4 := quoB_len m.text
  have := toks_len [digB m.uid.toNat, digB m.seq.toNat, flagsB m.flags, quoB m.text] (fun s hs => by
    simp only [List.mem_cons, List.not_mem_nil, or_false] at hs
    rcases hs with rfl | rfl | rfl | rfl <;> omega)
  simp only [mailLine, List.length_append, List.length_cons, List.length_nil] at *
  omega

set_option maxRecDepth 100000 in
set_option maxHeartbeats 4000000 in
theorem putBoxLines_b (wb : World) (ov v : Value) (l : List Int) (x : BoxD) (w : World) (ho : OwnB w wb.heap.size ov l) (hb : Below wb.heap.size wb w) (hv : BoxV wb v x) (ht : Tab10 wb) (hl : l.length ≤ 100000) (hnm : x.name.length ≤ 1000) (p0 : 0 ≤ x.valid) (p1 : x.valid ≤ 9999999) (p2 : 0 ≤ x.next) (p3 : x.next ≤ 9999999) (p4 : 0 ≤ x.seq) (p5 : x.seq ≤ 9999999)
    (q1 : x.mails.length ≤ 12) (q2 : x.gones.length ≤ 40) (hms : ∀ m, m ∈ x.mails → 0 ≤ m.uid ∧ m.uid ≤ 9999999 ∧ 0 ≤ m.seq ∧ m.seq ≤ 9999999 ∧ 0 ≤ m.flags ∧ m.flags ≤ 31 ∧ m.text.length ≤ 400) (hgs : ∀ m, m ∈ x.gones → 0 ≤ m.uid ∧ m.uid ≤ 9999999) :
    Calls Tryd.prog 31 #[ov, v] w fun e w' => ∃ u, e = .returned u ∧ OwnB w' wb.heap.size u (l ++ boxLines x) ∧ Tw wb.heap.size w w' := by
  have hB : wb.heap.size ≤ w.heap.size := hb.size
  obtain ⟨u0, u1, u2, rfl, g0, g1, g2, i0, i1, i2, i3⟩ := hv
  have OC1 : ∀ s, s ∈ [x.name, digB x.valid.toNat, digB x.next.toNat, digB x.seq.toNat] → Oct s := by
    intro s hs
    simp only [List.mem_cons, List.not_mem_nil, or_false] at hs
    rcases hs with rfl | rfl | rfl | rfl
    · exact g0.1
    all_goals exact digB_oct _
  have d1 := digB_len10 (show x.valid.toNat ≤ 9999999 by omega)
  have d2 := digB_len10 (show x.next.toNat ≤ 9999999 by omega)
  have d3 := digB_len10 (show x.seq.toNat ≤ 9999999 by omega)
  have LE1 : ∀ s, s ∈ [x.name, digB x.valid.toNat, digB x.next.toNat, digB x.seq.toNat] → s.length ≤ 1000 := by
    intro s hs
    simp only [List.mem_cons, List.not_mem_nil, or_false] at hs
    rcases hs with rfl | rfl | rfl | rfl <;> omega
  obtain ⟨a0, n0, c0, rfl⟩ := g0.form3
  obtain ⟨a1, c1, rfl, m0, m1⟩ := g1.form
  obtain ⟨a2, c2, rfl, m2, m3⟩ := g2.form
  obtain ⟨oa, on, oc, rfl⟩ := ho.bs.form3
  have HB : Hid (∀ wi, Tw wb.heap.size w wi → Below wb.heap.size wb wi) := fun wi h => hb.trans h.below
  have HTB0 : Hid (∀ wi, Tw wb.heap.size w wi → Tab10 wi) := fun wi h => Lib.tabBelow_of_tabIs ht wi (hb.trans h.below)
  have H0 : Hid (Bs wb (.slice a0 n0 c0) x.name ∧ MailsV wb (.slice a1 x.mails.length c1) x.mails ∧ GonesV wb (.slice a2 x.gones.length c2) x.gones) := ⟨g0, g1, g2⟩
  clear g0 g1 g2 ht
  generalize hBB : wb.heap.size = B at ho hB HB hb HTB0
  have HTB : Hid (∀ wi, Tw B w wi → Tab10 wi) := HTB0
  have HBB : Hid (wb.heap.size = B) := hBB
  clear hb hBB HTB0
  have TA : Hid (Tw B w (w.alloc (.cells #[.slice a0 n0 c0, .int .i64 x.valid, .int .i64 x.next, .int .i64 x.seq, .slice a1 x.mails.length c1, .slice a2 x.gones.length c2, .int .i64 x.lost] 35))) := Tw.alloc hB _
  have HK : Hid ((w.alloc (.cells #[.slice a0 n0 c0, .int .i64 x.valid, .int .i64 x.next, .int .i64 x.seq, .slice a1 x.mails.length c1, .slice a2 x.gones.length c2, .int .i64 x.lost] 35)).heap[w.heap.size]? = some (.cells #[.slice a0 n0 c0, .int .i64 x.valid, .int .i64 x.next, .int .i64 x.seq, .slice a1 x.mails.length c1, .slice a2 x.gones.length c2, .int .i64 x.lost] 35)) := box_new w _
  have sB : B ≤ (w.alloc (.cells #[.slice a0 n0 c0, .int .i64 x.valid, .int .i64 x.next, .int .i64 x.seq, .slice a1 x.mails.length c1, .slice a2 x.gones.length c2, .int .i64 x.lost] 35)).heap.size := by simp; omega
  have HS : Hid (∀ w', Tw B (w.alloc (.cells #[.slice a0 n0 c0, .int .i64 x.valid, .int .i64 x.next, .int .i64 x.seq, .slice a1 x.mails.length c1, .slice a2 x.gones.length c2, .int .i64 x.lost] 35)) w' → w'.cell? ⟨w.heap.size, 0, none⟩ = some (.slice a0 n0 c0) ∧ w'.cell? ⟨w.heap.size, 1, none⟩ = some (.int .i64 x.valid) ∧ w'.cell? ⟨w.heap.size, 2, none⟩ = some (.int .i64 x.next) ∧ w'.cell? ⟨w.heap.size, 3, none⟩ = some (.int .i64 x.seq) ∧ (convert 22 9 (.slice a0 n0 c0)).run Tryd.prog w' = .ok (.string (strOfNums x.name)) w') := by
    intro w' h
    obtain ⟨s0, s1, s2, s3, -⟩ := bx7 (h.box (by decide) HK.out)
    exact ⟨s0, s1, s2, s3, run_convert_bs (H0.out.1.below (by rw [HBB.out]; exact HB.out _ (TA.out.trans h)))⟩
  have C0 : Tw B (w.alloc (.cells #[.slice a0 n0 c0, .int .i64 x.valid, .int .i64 x.next, .int .i64 x.seq, .slice a1 x.mails.length c1, .slice a2 x.gones.length c2, .int .i64 x.lost] 35)) (w.alloc (.cells #[.slice a0 n0 c0, .int .i64 x.valid, .int .i64 x.next, .int .i64 x.seq, .slice a1 x.mails.length c1, .slice a2 x.gones.length c2, .int .i64 x.lost] 35)).drew := Tw.of_below sB (Below.refl _ _).drew
  have O0 : OwnB (w.alloc (.cells #[.slice a0 n0 c0, .int .i64 x.valid, .int .i64 x.next, .int .i64 x.seq, .slice a1 x.mails.length c1, .slice a2 x.gones.length c2, .int .i64 x.lost] 35)).drew B (.slice oa on oc) l := (ho.alloc _).below (Below.refl _ _).drew
  clear ho
  go_enter Tryd.func31, Tryd.ntmps31
  go_wp2
  refine wpO_begin (S := fun w' => w'.cell? ⟨w.heap.size, 0, none⟩ = some (.slice a0 n0 c0) ∧ w'.cell? ⟨w.heap.size, 1, none⟩ = some (.int .i64 x.valid) ∧ w'.cell? ⟨w.heap.size, 2, none⟩ = some (.int .i64 x.next) ∧ w'.cell? ⟨w.heap.size, 3, none⟩ = some (.int .i64 x.seq) ∧ (convert 22 9 (.slice a0 n0 c0)).run Tryd.prog w' = .ok (.string (strOfNums x.name)) w') (tabO_of (by kernel_rfl) tabPB1) (by kernel_rfl) (HS.out _ C0) (fun hTb hHeld => ?_)
  refine tko 0 0 9 ?v1 hTb ?h1 hHeld ?_; case h1 => (intro w s; (try dsimp only at s); go_simp <;> with_reducible rfl)
  conv => arg 8; dsimp only [setT, List.toList_toArray, put0, putS]
  refine tko 1 1 10 ?v2 hTb ?h2 hHeld ?_; case h2 => (intro w s; (try dsimp only at s); go_simp <;> with_reducible rfl)
  conv => arg 8; dsimp only [setT, List.toList_toArray, put0, putS]
  refine tko 2 2 11 ?v3 hTb ?h3 hHeld ?_; case h3 => (intro w s; (try dsimp only at s); go_simp <;> with_reducible rfl)
  conv => arg 8; dsimp only [setT, List.toList_toArray, put0, putS]
  refine tko 3 3 12 ?v4 hTb ?h4 hHeld ?_; case h4 => (intro w s; (try dsimp only at s); go_simp <;> with_reducible rfl)
  conv => arg 8; dsimp only [setT, List.toList_toArray, put0, putS]
  refine tko 4 4 13 ?v5 hTb ?h5 hHeld ?_; case h5 => (intro w s; (try dsimp only at s); go_simp <;> with_reducible rfl)
  conv => arg 8; dsimp only [setT, List.toList_toArray, put0, putS]
  refine tko 5 5 14 ?v6 hTb ?h6 hHeld ?_; case h6 => (intro w s; (try dsimp only at s); go_simp <;> with_reducible rfl)
  conv => arg 8; dsimp only [setT, List.toList_toArray, put0, putS]
  refine tko 6 7 16 ?v7 hTb ?h7 hHeld ?_; case h7 => (intro w s; (try dsimp only at s); go_simp <;> with_reducible rfl)
  conv => arg 8; dsimp only [setT, List.toList_toArray, put0, putS]
  refine tko 7 8 17 ?v8 hTb ?h8 hHeld ?_; case h8 => (intro w s; (try dsimp only at s); go_simp <;> with_reducible rfl)
  conv => arg 8; dsimp only [setT, List.toList_toArray, put0, putS]
  refine tko 8 10 19 ?v9 hTb ?h9 hHeld ?_; case h9 => (intro w s; (try dsimp only at s); go_simp <;> with_reducible rfl)
  conv => arg 8; dsimp only [setT, List.toList_toArray, put0, putS]
  refine tko 9 11 20 ?v10 hTb ?h10 hHeld ?_; case h10 => (intro w s; (try dsimp only at s); go_simp <;> with_reducible rfl)
  conv => arg 8; dsimp only [setT, List.toList_toArray, put0, putS]
  refine clo 10 6 hTb (by decide) rfl ?_
  refine AllReadyH.cons rfl (fun K hK => ?_) AllReadyH.nil
  go_simp
  refine (itoa_i x.valid p0 p1 _ (HTB.out _ (TA.out.trans C0))).mono ?_
  rintro e w1 ⟨rfl, B1⟩
  have C1 := C0.trans (Tw.of_below (Nat.le_trans sB C0.size) B1)
  have O1 := O0.below B1
  clear B1 O0
  refine hK.out _ _ (HS.out _ C1) (fun hHeld => ?_)
  clear hK K
  refine wpOrd_in (n := 16) (p := 10) (i := 6) rfl rfl rfl ?_
  refine clo 11 9 hTb (by decide) rfl ?_
  refine AllReadyH.cons rfl (fun K hK => ?_) AllReadyH.nil
  go_simp
  refine (itoa_i x.next p2 p3 _ (HTB.out _ (TA.out.trans C1))).mono ?_
  rintro e w2 ⟨rfl, B2⟩
  have C2 := C1.trans (Tw.of_below (Nat.le_trans sB C1.size) B2)
  have O2 := O1.below B2
  clear B2 O1
  refine hK.out _ _ (HS.out _ C2) (fun hHeld => ?_)
  clear hK K
  refine wpOrd_in (n := 16) (p := 11) (i := 9) rfl rfl rfl ?_
  refine clo 12 12 hTb (by decide) rfl ?_
  refine AllReadyH.cons rfl (fun K hK => ?_) AllReadyH.nil
  go_simp
  refine (itoa_i x.seq p4 p5 _ (HTB.out _ (TA.out.trans C2))).mono ?_
  rintro e w3 ⟨rfl, B3⟩
  have C3 := C2.trans (Tw.of_below (Nat.le_trans sB C2.size) B3)
  have O3 := O2.below B3
  clear B3 O2
  refine hK.out _ _ (HS.out _ C3) (fun hHeld => ?_)
  clear hK K
  refine wpOrd_in (n := 16) (p := 12) (i := 12) rfl rfl rfl ?_
  refine clo 13 13 hTb (by decide) rfl ?_
  refine AllReadyH.cons rfl (fun K hK => ?_) AllReadyH.nil
  go_simp
  have C4 := C3.trans (Tw.alloc (Nat.le_trans sB C3.size) (.cells #[.string (strOfNums (x.name)), .string (strOfNums (digB x.valid.toNat)), .string (strOfNums (digB x.next.toNat)), .string (strOfNums (digB x.seq.toNat))] 9))
  have HB4 : Hid ((w3.alloc (.cells #[.string (strOfNums (x.name)), .string (strOfNums (digB x.valid.toNat)), .string (strOfNums (digB x.next.toNat)), .string (strOfNums (digB x.seq.toNat))] 9)).heap[w3.heap.size]? = some (.cells #[.string (strOfNums (x.name)), .string (strOfNums (digB x.valid.toNat)), .string (strOfNums (digB x.next.toNat)), .string (strOfNums (digB x.seq.toNat))] 9)) := box_new w3 _
  have O4 := O3.alloc (.cells #[.string (strOfNums (x.name)), .string (strOfNums (digB x.valid.toNat)), .string (strOfNums (digB x.next.toNat)), .string (strOfNums (digB x.seq.toNat))] 9)
  clear O3
  refine hK.out _ _ (HS.out _ C4) (fun hHeld => ?_)
  clear hK K
  refine wpOrd_in (n := 16) (p := 13) (i := 13) rfl rfl rfl ?_
  refine clo 14 14 hTb (by decide) rfl ?_
  refine AllReadyH.cons rfl (fun K hK => ?_) AllReadyH.nil
  go_simp
  have s4 : B ≤ (w3.alloc (.cells #[.string (strOfNums (x.name)), .string (strOfNums (digB x.valid.toNat)), .string (strOfNums (digB x.next.toNat)), .string (strOfNums (digB x.seq.toNat))] 9)).heap.size := Nat.le_trans sB C4.size
  refine (putLine_b B _ _ (l) [66, 79, 88] [x.name, digB x.valid.toNat, digB x.next.toNat, digB x.seq.toNat] _ (O4) s4 (by intro y hy; simp at hy; omega) (fun wi h => strs_lit wi _ [x.name, digB x.valid.toNat, digB x.next.toNat, digB x.seq.toNat] (Tw.box h (by decide) HB4.out) OC1 (by simp)) (by first | omega | (simp only [List.length_append]; omega)) (by simp) (by simp) LE1).mono ?_
  rintro e w5 ⟨r5, rfl, R5, T5⟩
  have C5 := C4.trans T5
  clear T5
  refine hK.out _ _ (HS.out _ C5) (fun hHeld => ?_)
  clear hK K
  refine wpOrd_in (n := 16) (p := 14) (i := 14) rfl rfl rfl ?_
  refine tko 15 15 0 ?v16 hTb ?h16 hHeld ?_; case h16 => (intro w s; (try dsimp only at s); go_simp <;> with_reducible rfl)
  conv => arg 8; dsimp only [setT, List.toList_toArray, put0, putS]
  refine wpO_end hTb ?_
  have HO5 : Hid (OwnB w5 B r5 (l ++ boxLine x ++ (x.mails.take 0).flatMap mailLine)) := by simpa [Hid, boxLine] using R5
  have T5 : Hid (Tw B (w.alloc (.cells #[.slice a0 n0 c0, .int .i64 x.valid, .int .i64 x.next, .int .i64 x.seq, .slice a1 x.mails.length c1, .slice a2 x.gones.length c2, .int .i64 x.lost] 35)) w5) := C5
  clear HS C0 C1 C2 C3 C4 C5 O4 R5 hHeld HB4 s4
  clear hTb
  have hbl : (boxLine x).length ≤ 4100 := by
    have := flat_len tokB 1001 [x.name, digB x.valid.toNat, digB x.next.toNat, digB x.seq.toNat] (fun s h => by have := LE1 s h; simp only [tokB, List.length_append, List.length_cons, List.length_nil]; omega)
    simp only [boxLine, List.length_append, List.length_cons, List.length_nil] at *
    omega
  clear OC1 LE1
  generalize hL : l ++ boxLine x = L at HO5
  have hLl : L.length ≤ 104200 := by rw [← hL]; simp only [List.length_append]; omega
  have HL : Hid (l ++ boxLine x = L) := hL
  clear hL hbl d1 d2 d3
  obtain ⟨f0, f1, f2, f3, f4, f5, f6⟩ := bx7 (T5.out.box (by decide) HK.out)
  have hlA := lt_of_heap (T5.out.box (by decide) HK.out)
  go_wp2
  clear f0 f1 f2 f3 f4 f5 f6 hlA
  go_loopw [0, 27] (fun out i wr => ∃ k : Nat, k ≤ x.mails.length ∧ i = .int .i64 k ∧ Hid (OwnB wr B out (L ++ (x.mails.take k).flatMap mailLine)) ∧ Hid (Tw B (w.alloc (.cells #[.slice a0 n0 c0, .int .i64 x.valid, .int .i64 x.next, .int .i64 x.seq, .slice a1 x.mails.length c1, .slice a2 x.gones.length c2, .int .i64 x.lost] 35)) wr)) (fun _ i _ => x.mails.length - (intOf i).toNat)
  case atStart => exact ⟨0, Nat.zero_le _, rfl, HO5, T5⟩
  case round =>
    clear HO5 T5
    obtain ⟨k, hk, rfl, hO, hT⟩ := hrel
    have hml := flat_len mailLine 5000 (x.mails.take k) (fun m h => mailLine_len m (hms m (List.mem_of_mem_take h)))
    have htk : (x.mails.take k).length ≤ 12 := by simp; omega
    have sr : B ≤ wr.heap.size := Nat.le_trans sB hT.out.size
    by_cases hlt : k < x.mails.length
    · obtain ⟨m, hm⟩ : ∃ m, x.mails[k]? = some m := ⟨x.mails[k], List.getElem?_eq_getElem hlt⟩
      obtain ⟨b, off, cap', u, hv', hlb, d0, d1, d2, d3, hu, j0, j1, j2⟩ := MailsV.cell H0.out.2.1 k m hm
      simp only [Value.slice.injEq, true_and] at hv'
      obtain ⟨rfl, rfl⟩ := hv'
      obtain ⟨ua, un, uc, rfl⟩ := hu.form3
      have hbr : Below wb.heap.size wb wr := by rw [HBB.out]; exact HB.out _ (TA.out.trans hT.out)
      replace d0 := (hbr.cell (p := ⟨b, off + k * 4, none⟩) hlb).trans d0
      replace d1 := (hbr.cell (p := ⟨b, off + k * 4 + 1, none⟩) hlb).trans d1
      replace d2 := (hbr.cell (p := ⟨b, off + k * 4 + 2, none⟩) hlb).trans d2
      replace d3 := (hbr.cell (p := ⟨b, off + k * 4 + 3, none⟩) hlb).trans d3
      replace hlb : b < wr.heap.size := Nat.lt_of_lt_of_le hlb hbr.size
      obtain ⟨z0, z1, z2, z3, z4, z5, htx⟩ := hms m (List.mem_of_getElem? hm)
      have HST : Hid ((x.mails.take (k + 1)).flatMap mailLine = (x.mails.take k).flatMap mailLine ++ mailLine m) := flat_step mailLine hm
      obtain ⟨uid, flags, seq, text⟩ := m
      simp only at d0 d1 d2 d3 hu j0 j1 j2 z0 z1 z2 z3 z4 z5 htx
      have HTX : Hid (∀ wi, Tw B w wi → Bs wi (.slice ua un uc) text) := fun wi h => hu.below (by rw [HBB.out]; exact HB.out _ h)
      have OC5 : ∀ s, s ∈ [digB uid.toNat, digB seq.toNat, flagsB flags, quoB text] → Oct s := by
        intro s hs
        simp only [List.mem_cons, List.not_mem_nil, or_false] at hs
        rcases hs with rfl | rfl | rfl | rfl
        · exact digB_oct _
        · exact digB_oct _
        · exact flagsB_oct _
        · exact quoB_oct hu.1
      have e1 := digB_len10 (show uid.toNat ≤ 9999999 by omega)
      have e2 := digB_len10 (show seq.toNat ≤ 9999999 by omega)
      have e3 := flagsB_len flags
      have e4 := quoB_len text
      have LE5 : ∀ s, s ∈ [digB uid.toNat, digB seq.toNat, flagsB flags, quoB text] → s.length ≤ 1000 := by
        intro s hs
        simp only [List.mem_cons, List.not_mem_nil, or_false] at hs
        rcases hs with rfl | rfl | rfl | rfl <;> omega
      replace htx : text.length ≤ 2000000 := by omega
      have HM : Hid ((wr.alloc (.cells #[.int .i64 uid, .int .i64 flags, .int .i64 seq, .slice ua un uc] 54)).heap[wr.heap.size]? = some (.cells #[.int .i64 uid, .int .i64 flags, .int .i64 seq, .slice ua un uc] 54)) := box_new wr _
      have sm : B ≤ (wr.alloc (.cells #[.int .i64 uid, .int .i64 flags, .int .i64 seq, .slice ua un uc] 54)).heap.size := by simp; omega
      have TM : Hid (Tw B wr (wr.alloc (.cells #[.int .i64 uid, .int .i64 flags, .int .i64 seq, .slice ua un uc] 54))) := Tw.alloc sr _
      have HM5 : Hid (∀ w', Tw B (wr.alloc (.cells #[.int .i64 uid, .int .i64 flags, .int .i64 seq, .slice ua un uc] 54)) w' → w'.cell? ⟨wr.heap.size, 0, none⟩ = some (.int .i64 uid) ∧ w'.cell? ⟨wr.heap.size, 1, none⟩ = some (.int .i64 flags) ∧ w'.cell? ⟨wr.heap.size, 2, none⟩ = some (.int .i64 seq) ∧ w'.cell? ⟨wr.heap.size, 3, none⟩ = some (.slice ua un uc)) := fun w' h => bx4 (h.box (by decide) HM.out)
      have C10 : Tw B (wr.alloc (.cells #[.int .i64 uid, .int .i64 flags, .int .i64 seq, .slice ua un uc] 54)) (wr.alloc (.cells #[.int .i64 uid, .int .i64 flags, .int .i64 seq, .slice ua un uc] 54)).drew := Tw.of_below sm (Below.refl _ _).drew
      have O10 := (hO.out.alloc (.cells #[.int .i64 uid, .int .i64 flags, .int .i64 seq, .slice ua un uc] 54)).below (w' := (wr.alloc (.cells #[.int .i64 uid, .int .i64 flags, .int .i64 seq, .slice ua un uc] 54)).drew) (Below.refl _ _).drew
      obtain ⟨f0, f1, f2, f3⟩ := bx4 HM.out
      have hlM := lt_of_heap HM.out
      clear hu hm hbr hO e1 e2 e3 e4
      go_wp2
      refine wpO_begin (S := fun w' => w'.cell? ⟨wr.heap.size, 0, none⟩ = some (.int .i64 uid) ∧ w'.cell? ⟨wr.heap.size, 1, none⟩ = some (.int .i64 flags) ∧ w'.cell? ⟨wr.heap.size, 2, none⟩ = some (.int .i64 seq) ∧ w'.cell? ⟨wr.heap.size, 3, none⟩ = some (.slice ua un uc)) (tabO_of (by kernel_rfl) tabPB5) (by kernel_rfl) (HM5.out _ C10) (fun hTb hHeld => ?_)
      refine tko 0 0 31 ?v17 hTb ?h17 hHeld ?_; case h17 => (intro w s; (try dsimp only at s); go_simp <;> with_reducible rfl)
      conv => arg 8; dsimp only [setT, List.toList_toArray, put0, putS]
      refine tko 1 1 32 ?v18 hTb ?h18 hHeld ?_; case h18 => (intro w s; (try dsimp only at s); go_simp <;> with_reducible rfl)
      conv => arg 8; dsimp only [setT, List.toList_toArray, put0, putS]
      refine tko 2 2 33 ?v19 hTb ?h19 hHeld ?_; case h19 => (intro w s; (try dsimp only at s); go_simp <;> with_reducible rfl)
      conv => arg 8; dsimp only [setT, List.toList_toArray, put0, putS]
      refine tko 3 4 35 ?v20 hTb ?h20 hHeld ?_; case h20 => (intro w s; (try dsimp only at s); go_simp <;> with_reducible rfl)
      conv => arg 8; dsimp only [setT, List.toList_toArray, put0, putS]
      refine tko 4 5 36 ?v21 hTb ?h21 hHeld ?_; case h21 => (intro w s; (try dsimp only at s); go_simp <;> with_reducible rfl)
      conv => arg 8; dsimp only [setT, List.toList_toArray, put0, putS]
      refine tko 5 7 38 ?v22 hTb ?h22 hHeld ?_; case h22 => (intro w s; (try dsimp only at s); go_simp <;> with_reducible rfl)
      conv => arg 8; dsimp only [setT, List.toList_toArray, put0, putS]
      refine tko 6 8 39 ?v23 hTb ?h23 hHeld ?_; case h23 => (intro w s; (try dsimp only at s); go_simp <;> with_reducible rfl)
      conv => arg 8; dsimp only [setT, List.toList_toArray, put0, putS]
      refine tko 7 10 41 ?v24 hTb ?h24 hHeld ?_; case h24 => (intro w s; (try dsimp only at s); go_simp <;> with_reducible rfl)
      conv => arg 8; dsimp only [setT, List.toList_toArray, put0, putS]
      refine tko 8 11 42 ?v25 hTb ?h25 hHeld ?_; case h25 => (intro w s; (try dsimp only at s); go_simp <;> with_reducible rfl)
      conv => arg 8; dsimp only [setT, List.toList_toArray, put0, putS]
      refine clo 9 3 hTb (by decide) rfl ?_
      refine AllReadyH.cons rfl (fun K hK => ?_) AllReadyH.nil
      go_simp
      refine (itoa_i uid z0 z1 _ (HTB.out _ (TA.out.trans (hT.out.trans (TM.out.trans C10))))).mono ?_
      rintro e w11 ⟨rfl, B11⟩
      have C11 := C10.trans (Tw.of_below (Nat.le_trans sm C10.size) B11)
      have O11 := O10.below B11
      clear B11 O10
      refine hK.out _ _ (HM5.out _ C11) (fun hHeld => ?_)
      clear hK K
      refine wpOrd_in (n := 16) (p := 9) (i := 3) rfl rfl rfl ?_
      refine clo 10 6 hTb (by decide) rfl ?_
      refine AllReadyH.cons rfl (fun K hK => ?_) AllReadyH.nil
      go_simp
      refine (itoa_i seq z2 z3 _ (HTB.out _ (TA.out.trans (hT.out.trans (TM.out.trans C11))))).mono ?_
      rintro e w12 ⟨rfl, B12⟩
      have C12 := C11.trans (Tw.of_below (Nat.le_trans sm C11.size) B12)
      have O12 := O11.below B12
      clear B12 O11
      refine hK.out _ _ (HM5.out _ C12) (fun hHeld => ?_)
      clear hK K
      refine wpOrd_in (n := 16) (p := 10) (i := 6) rfl rfl rfl ?_
      refine clo 11 9 hTb (by decide) rfl ?_
      refine AllReadyH.cons rfl (fun K hK => ?_) AllReadyH.nil
      go_simp
      refine (flagsText_i flags z4 z5 _).mono ?_
      rintro e w13 ⟨rfl, B13⟩
      have C13 := C12.trans (Tw.of_below (Nat.le_trans sm C12.size) B13)
      have O13 := O12.below B13
      clear B13 O12
      refine hK.out _ _ (HM5.out _ C13) (fun hHeld => ?_)
      clear hK K
      refine wpOrd_in (n := 16) (p := 11) (i := 9) rfl rfl rfl ?_
      refine clo 12 12 hTb (by decide) rfl ?_
      refine AllReadyH.cons rfl (fun K hK => ?_) AllReadyH.nil
      go_simp
      refine (quotedText_r _ text _ (HTX.out _ (TA.out.trans (hT.out.trans (TM.out.trans C13)))) htx).mono ?_
      rintro e w14 ⟨rfl, B14⟩
      have C14 := C13.trans (Tw.of_below (Nat.le_trans sm C13.size) B14)
      have O14 := O13.below B14
      clear B14 O13
      refine hK.out _ _ (HM5.out _ C14) (fun hHeld => ?_)
      clear hK K
      refine wpOrd_in (n := 16) (p := 12) (i := 12) rfl rfl rfl ?_
      refine clo 13 13 hTb (by decide) rfl ?_
      refine AllReadyH.cons rfl (fun K hK => ?_) AllReadyH.nil
      go_simp
      have C15 := C14.trans (Tw.alloc (Nat.le_trans sm C14.size) (.cells #[.string (strOfNums (digB uid.toNat)), .string (strOfNums (digB seq.toNat)), .string (strOfNums (flagsB flags)), .string (strOfNums (quoB text))] 9))
      have HB4 : Hid ((w14.alloc (.cells #[.string (strOfNums (digB uid.toNat)), .string (strOfNums (digB seq.toNat)), .string (strOfNums (flagsB flags)), .string (strOfNums (quoB text))] 9)).heap[w14.heap.size]? = some (.cells #[.string (strOfNums (digB uid.toNat)), .string (strOfNums (digB seq.toNat)), .string (strOfNums (flagsB flags)), .string (strOfNums (quoB text))] 9)) := box_new w14 _
      have O15 := O14.alloc (.cells #[.string (strOfNums (digB uid.toNat)), .string (strOfNums (digB seq.toNat)), .string (strOfNums (flagsB flags)), .string (strOfNums (quoB text))] 9)
      clear O14
      refine hK.out _ _ (HM5.out _ C15) (fun hHeld => ?_)
      clear hK K
      refine wpOrd_in (n := 16) (p := 13) (i := 13) rfl rfl rfl ?_
      refine clo 14 14 hTb (by decide) rfl ?_
      refine AllReadyH.cons rfl (fun K hK => ?_) AllReadyH.nil
      go_simp
      have s4 : B ≤ (w14.alloc (.cells #[.string (strOfNums (digB uid.toNat)), .string (strOfNums (digB seq.toNat)), .string (strOfNums (flagsB flags)), .string (strOfNums (quoB text))] 9)).heap.size := Nat.le_trans sm C15.size
      refine (putLine_b B _ _ (L ++ (x.mails.take k).flatMap mailLine) [77, 65, 73, 76] [digB uid.toNat, digB seq.toNat, flagsB flags, quoB text] _ (O15) s4 (by intro y hy; simp at hy; omega) (fun wi h => strs_lit wi _ [digB uid.toNat, digB seq.toNat, flagsB flags, quoB text] (Tw.box h (by decide) HB4.out) OC5 (by simp)) (by first | omega | (simp only [List.length_append]; omega)) (by simp) (by simp) LE5).mono ?_
      rintro e w16 ⟨r16, rfl, R16, T16⟩
      have C16 := C15.trans T16
      clear T16
      refine hK.out _ _ (HM5.out _ C16) (fun hHeld => ?_)
      clear hK K
      refine wpOrd_in (n := 16) (p := 14) (i := 14) rfl rfl rfl ?_
      refine tko 15 15 0 ?v32 hTb ?h32 hHeld ?_; case h32 => (intro w s; (try dsimp only at s); go_simp <;> with_reducible rfl)
      conv => arg 8; dsimp only [setT, List.toList_toArray, put0, putS]
      refine wpO_end hTb ?_
      have HO6 : Hid (OwnB w16 B r16 (L ++ (x.mails.take (k + 1)).flatMap mailLine)) := by
        rw [HST.out]
        simpa [Hid, mailLine] using R16
      have T7 : Hid (Tw B (w.alloc (.cells #[.slice a0 n0 c0, .int .i64 x.valid, .int .i64 x.next, .int .i64 x.seq, .slice (some ⟨b, off, none⟩) x.mails.length c1, .slice a2 x.gones.length c2, .int .i64 x.lost] 35)) w16) := hT.out.trans (TM.out.trans C16)
      clear HM5 C10 C11 C12 C13 C14 C15 C16 O15 R16 hHeld HB4 s4 hTb HST HTX HM TM hT d0 d1 d2 d3 f0 f1 f2 f3 hlM OC5 LE5
      go_wp2
      go_roundw
      case rel => exact ⟨k + 1, by omega, by go_num, HO6, T7⟩
      case measure => simp [intOf]; omega
    · obtain rfl : k = x.mails.length := by omega
      have HE : Hid ((x.mails.take x.mails.length).flatMap mailLine = x.mails.flatMap mailLine) := by rw [Hid, List.take_length]
      have HO8' := hO.out
      rw [HE.out] at HO8'
      have HO8 := (show Hid _ from HO8')
      clear HO8' hO
      have hml2 := flat_len mailLine 5000 x.mails (fun m h => mailLine_len m (hms m h))
      obtain ⟨f0, f1, f2, f3, f4, f5, f6⟩ := bx7 (hT.out.box (by decide) HK.out)
      have hlA := lt_of_heap (hT.out.box (by decide) HK.out)
      go_wp2
      have HO9 := (show Hid (OwnB wr B _ (L ++ x.mails.flatMap mailLine ++ (x.gones.take 0).flatMap goneLine)) from by simpa [Hid] using (show OwnB wr B _ (L ++ x.mails.flatMap mailLine) from HO8.out))
      clear f0 f1 f2 f3 f4 f5 f6 hlA hlt hk HE HO8
      generalize hN : L ++ x.mails.flatMap mailLine = N at HO9
      have hNl : N.length ≤ 170000 := by rw [← hN]; simp only [List.length_append]; omega
      have HN : Hid (L ++ x.mails.flatMap mailLine = N) := hN
      clear hN hml hml2 htk
      go_loopw [0, 50] (fun out i wr => ∃ k : Nat, k ≤ x.gones.length ∧ i = .int .i64 k ∧ Hid (OwnB wr B out (N ++ (x.gones.take k).flatMap goneLine)) ∧ Hid (Tw B (w.alloc (.cells #[.slice a0 n0 c0, .int .i64 x.valid, .int .i64 x.next, .int .i64 x.seq, .slice a1 x.mails.length c1, .slice a2 x.gones.length c2, .int .i64 x.lost] 35)) wr)) (fun _ i _ => x.gones.length - (intOf i).toNat)
      case atStart => exact ⟨0, Nat.zero_le _, rfl, HO9, hT⟩
      case round =>
        clear HO9 hT sr
        obtain ⟨k, hk, rfl, hO, hT⟩ := hrel
        have hml := flat_len goneLine 2000 (x.gones.take k) (fun m h => goneLine_len m (hgs m (List.mem_of_mem_take h)))
        have htk : (x.gones.take k).length ≤ 40 := by simp; omega
        have sr : B ≤ wr.heap.size := Nat.le_trans sB hT.out.size
        by_cases hlt : k < x.gones.length
        · obtain ⟨m, hm⟩ : ∃ m, x.gones[k]? = some m := ⟨x.gones[k], List.getElem?_eq_getElem hlt⟩
          obtain ⟨b, off, cap', hv', hlb, d0, d1, j0, j1⟩ := GonesV.cell H0.out.2.2 k m hm
          simp only [Value.slice.injEq, true_and] at hv'
          obtain ⟨rfl, rfl⟩ := hv'
          have hbr : Below wb.heap.size wb wr := by rw [HBB.out]; exact HB.out _ (TA.out.trans hT.out)
          replace d0 := (hbr.cell (p := ⟨b, off + k * 2, none⟩) hlb).trans d0
          replace d1 := (hbr.cell (p := ⟨b, off + k * 2 + 1, none⟩) hlb).trans d1
          replace hlb : b < wr.heap.size := Nat.lt_of_lt_of_le hlb hbr.size
          obtain ⟨z0, z1⟩ := hgs m (List.mem_of_getElem? hm)
          have HST : Hid ((x.gones.take (k + 1)).flatMap goneLine = (x.gones.take k).flatMap goneLine ++ goneLine m) := flat_step goneLine hm
          obtain ⟨uid, seq⟩ := m
          simp only at d0 d1 j0 j1 z0 z1
          have e1 := digB_len10 (show uid.toNat ≤ 9999999 by omega)
          have HM : Hid ((wr.alloc (.cells #[.int .i64 uid, .int .i64 seq] 57)).heap[wr.heap.size]? = some (.cells #[.int .i64 uid, .int .i64 seq] 57)) := box_new wr _
          have sm : B ≤ (wr.alloc (.cells #[.int .i64 uid, .int .i64 seq] 57)).heap.size := by simp; omega
          have TM : Hid (Tw B wr (wr.alloc (.cells #[.int .i64 uid, .int .i64 seq] 57))) := Tw.alloc sr _
          have HOM := (show Hid (OwnB (wr.alloc (.cells #[.int .i64 uid, .int .i64 seq] 57)) B _ (N ++ (x.gones.take k).flatMap goneLine)) from hO.out.alloc _)
          obtain ⟨f0, f1⟩ := bx2 HM.out
          have hlM := lt_of_heap HM.out
          clear hm hbr hO
          go_wp2_with fail
          refine (itoa_i uid z0 z1 _ (HTB.out _ (TA.out.trans (hT.out.trans TM.out)))).mono ?_
          rintro e w1 ⟨rfl, B1⟩
          have s1 : B ≤ w1.heap.size := Nat.le_trans sm B1.size
          have C1 : Hid (Tw B wr w1) := TM.out.trans (Tw.of_below sm B1)
          have HO1 := (show Hid (OwnB (w1.alloc (.cells #[.string (strOfNums (digB uid.toNat))] 9)) B _ (N ++ (x.gones.take k).flatMap goneLine)) from (HOM.out.below B1).alloc _)
          have HB1 : Hid ((w1.alloc (.cells #[.string (strOfNums (digB uid.toNat))] 9)).heap[w1.heap.size]? = some (.cells #[.string (strOfNums (digB uid.toNat))] 9)) := box_new w1 _
          have C2 : Hid (Tw B wr (w1.alloc (.cells #[.string (strOfNums (digB uid.toNat))] 9))) := C1.out.trans (Tw.alloc s1 _)
          have s2 : B ≤ (w1.alloc (.cells #[.string (strOfNums (digB uid.toNat))] 9)).heap.size := by simp; omega
          clear B1 HOM d0 d1 f0 f1 hlM C1
          go_wp2_with fail
          refine (putLine_b B _ _ (N ++ (x.gones.take k).flatMap goneLine) [71, 79, 78, 69] [digB uid.toNat] _ HO1.out s2 (by intro y hy; simp at hy; omega) (fun wi h => strs_lit wi _ [digB uid.toNat] (Tw.box h (by decide) HB1.out) (by intro s hs; simp only [List.mem_cons, List.not_mem_nil, or_false] at hs; subst hs; exact digB_oct _) (by simp)) (by simp only [List.length_append]; omega) (by simp) (by simp) (by intro s hs; simp only [List.mem_cons, List.not_mem_nil, or_false] at hs; subst hs; omega)).mono ?_
          rintro e w4 ⟨r4, rfl, R4, T4⟩
          have HO4 : Hid (OwnB w4 B r4 (N ++ (x.gones.take (k + 1)).flatMap goneLine)) := by
            rw [HST.out]
            simpa [Hid, goneLine] using R4
          have T5 : Hid (Tw B (w.alloc (.cells #[.slice a0 n0 c0, .int .i64 x.valid, .int .i64 x.next, .int .i64 x.seq, .slice a1 x.mails.length c1, .slice (some ⟨b, off, none⟩) x.gones.length c2, .int .i64 x.lost] 35)) w4) := hT.out.trans (C2.out.trans T4)
          clear R4 T4 hT TM HM HST C2 HO1 HB1
          go_wp2
          go_roundw
          case rel => exact ⟨k + 1, by omega, by go_num, HO4, T5⟩
          case measure => simp [intOf]; omega
        · obtain rfl : k = x.gones.length := by omega
          have HF : Hid (N ++ (x.gones.take x.gones.length).flatMap goneLine = l ++ boxLines x) := by
            rw [Hid, List.take_length, ← HN.out, ← HL.out]
            simp [boxLines]
          go_wp2
          go_ret
          have hr := hO.out
          rw [HF.out] at hr
          exact ⟨_, rfl, hr, TA.out.trans hT.out⟩

end Go.Proofs.YtmonloebkdpahaaDoor

/- Rows of strings of the call's own: what is put behind one. -/
namespace Go.Proofs.YtmonloebkdpahaaDoor
open Go.RowKit

def strVals (ss : List (List Int)) : List Value := ss.map fun s => Value.string (strOfNums s)
theorem infoStr : (Tryd.prog.info? 9).map (fun i => (i.zero, i.size, i.bytes)) = some (some (.string ⟨#[]⟩), 1, 16) := by kernel_rfl
theorem rowS_lit (w : World) (B g : Nat) (ss : List (List Int)) (h : w.heap[g]? = some (.cells (strVals ss).toArray 9 (0, 0))) (hB : B ≤ g) (hl : ss.length ≤ 1000) :
    w.ownsRow B 9 1 (.slice (some ⟨g, 0, none⟩) ss.length ss.length) ss.length (strVals ss) := by
  refine ⟨by simp [strVals], .inr ⟨g, ss.length, _, rfl, hB, h, Nat.le_refl _, by unfold maxLen; omega, by simp [strVals], ?_⟩⟩
  simp only [Nat.mul_one]
  rw [List.take_of_length_le (by simp [strVals])]
theorem wpList_append_strs {w : World} {ops : Array Oper} {rest : List Oper} {o : Oper} {a : Act} {Q : Exit → Act → World → Prop} (hgd : o.guard = none) (s x : Operand) (t : TypeId)
    (ho : o.op = .call { callee := .builtin .append, args := #[s, x], argTypes := #[t, t] })
    (i : TypeInfo) (ht : Tryd.prog.underlying t = some (.slice 9)) (hi : Tryd.prog.info? 9 = some i) (hz : i.zero = some (.string ⟨#[]⟩)) (hsize : i.size = 1) (hby : i.bytes = 16)
    (B : Nat) (v : Value) (ss ms : List (List Int)) (n m : Nat) (hn : n = ss.length) (hm : m = ms.length) (hs : a.eval s = v) (hown : w.ownsRow B 9 1 v n (strVals ss)) (g : Nat) (hx : a.eval x = .slice (some ⟨g, 0, none⟩) m m)
    (hg : w.heap[g]? = some (.cells (strVals ms).toArray 9 (0, 0))) (hlen : n + m ≤ 1000) (hbase : B ≤ w.heap.size)
    (h : ∀ v' w', w'.ownsRow B 9 1 v' (ss ++ ms).length (strVals (ss ++ ms)) → w.grownBy w' v.ownBlock → wpList Tryd.prog ops Q rest (a.put o.dst v') w') : wpList Tryd.prog ops Q (o :: rest) a w := by
  subst hn hm
  refine wpList_append_own w hgd s x t ho B 9 i (.string ⟨#[]⟩) 1 16 ht hi hz hsize hby rfl (by omega) v ss.length (strVals ss) hs hown ⟨g, 0, none⟩ ms.length ms.length (strVals ms) hx (by simp [strVals]) ?_ ?_ (by unfold maxLen; omega) (by omega) hbase ?_
  · intro j u hu
    rw [Addr.add_lit, cell_of_row w g _ _ _ (0, 0) hg]
    simpa using hu
  · intro u hu
    obtain ⟨y, _, rfl⟩ := List.mem_map.1 hu
    rfl
  · intro v' w' h1 h2 _
    refine h v' w' ?_ h2
    have e : strVals (ss ++ ms) = strVals ss ++ strVals ms := by simp [strVals]
    rw [e, List.length_append]
    exact h1

end Go.Proofs.YtmonloebkdpahaaDoor

/- Rows of strings of the call's own. -/
namespace Go.Proofs.YtmonloebkdpahaaDoor
open Go.RowKit

theorem strs_of_row {w : World} {B : Nat} {v : Value} {ss : List (List Int)} (h : w.ownsRow B 9 1 v ss.length (strVals ss)) (ho : ∀ s, s ∈ ss → Oct s) : StrsV w v ss := by
  rcases h.2 with ⟨rfl, he⟩ | ⟨g, cap, cur, rfl, -, hh, h1, h2, h3, h4⟩
  · have : ss = [] := by simpa [strVals] using he
    subst this
    exact Rd.nil _
  · refine ⟨some ⟨g, 0, none⟩, cap, fun i => [.string (strOfNums (ss.getD i []))], rfl, h1, h2, (fun h => by cases h), fun i x hx => ?_, fun _ => ?_⟩
    · exact ⟨⟨by simp [List.getD_eq_getElem?_getD, hx], ho x (List.mem_of_getElem? hx)⟩, rfl⟩
    · refine ⟨g, 0, rfl, lt_of_heap hh, fun i j u hi hu => ?_⟩
      cases j with
      | zero =>
        simp only [List.getElem?_cons_zero, Option.some.injEq] at hu
        subst hu
        rw [show 0 + i * 1 + 0 = i by omega, cell_of_row w g i _ _ (0, 0) hh]
        have e : (strVals ss)[i]? = some (.string (strOfNums (ss.getD i []))) := by simp [strVals, List.getD_eq_getElem?_getD, hi]
        rw [← h4, Nat.mul_one, List.getElem?_take, if_pos hi] at e
        simpa using e
      | succ j => simp at hu

end Go.Proofs.YtmonloebkdpahaaDoor
