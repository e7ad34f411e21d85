/- The proof's texts, part 3. -/
import Derived.Test.YtjdcjhboipileabPart2
import Derived.Test.YtjdcjhboipileabPart1
import Derived.Deep.RegionHeld3

/- What toIntS, toAccount of package laws do. -/
namespace Go.Proofs.Ytjdcjhboipileab
open Go.RowKit
set_option maxRecDepth 100000
set_option linter.unusedVariables false

theorem infoInt : (Try.prog.info? 3).map (fun i => (i.zero, i.size, i.bytes)) = some (some (.int .i64 0), 1, 8) := by kernel_rfl

set_option maxRecDepth 100000 in
set_option maxHeartbeats 1000000 in
theorem toIntS_r (v : Value) (l : List Int) (w : World) (hv : IntsV w v l) (hll : l.length ≤ 2000000) :
    Calls Try.prog 18 #[v] w fun e w' => ∃ u, e = .returned u ∧ IntsR w' w.heap.size w'.heap.size u l ∧ Below w.heap.size w w' := by
  have HV : Hid (∀ wi, Below w.heap.size w wi → IntsV wi v l) := fun wi h => hv.below keepsInt h
  obtain ⟨a, cap, rfl, hlc, hcm⟩ := hv.form
  clear hv
  obtain ⟨i0, hi, hz0, hz1, hz2⟩ := info_parts infoInt
  go_enter Try.func18, Try.ntmps18
  go_wp2_with (at_make; refine wpList_make_full _ rfl _ _ 23 rfl w.heap.size 3 i0 (.int .i64 0) 1 Try.underlying23 hi hz0 hz1 _ _ _ _ l.length rfl rfl rfl rfl ?b1 ?b2 ?b3 ?_)
  case b1 => rw [hz2]; omega
  case b2 => unfold maxLen; omega
  case b3 => exact Nat.le_refl _
  intro w1 hown hgrow
  have HB : Hid (Below w.heap.size w w1) := (Below.refl w.heap.size w).grown hgrow (Nat.le_refl _) (by simp)
  have HP : Hid (Part 3 1 IntE w1 w.heap.size l.length 0 l) := by obtain ⟨cur, h1, h2⟩ := made_part hown; exact Part.start h1 h2
  clear hown hgrow hi hz0 hz1 hz2
  go_wp2
  go_loopw [4] (fun i wr => ∃ k : Nat, k ≤ l.length ∧ i = .int .i64 k ∧ Hid (Part 3 1 IntE wr w.heap.size l.length k l) ∧ Hid (Below w.heap.size w wr)) (fun i _ => l.length - (intOf i).toNat)
  case atStart => exact ⟨0, Nat.zero_le _, rfl, HP, HB⟩
  case round =>
    obtain ⟨k, hk, rfl, hP, hB⟩ := hrel
    by_cases hlt : k < l.length
    · obtain ⟨x, hx⟩ : ∃ x, l[k]? = some x := ⟨l[k], List.getElem?_eq_getElem hlt⟩
      obtain ⟨b, off, cap', hv', hlb, d0, i0⟩ := IntsV.cell (HV.out wr hB.out) k x hx
      simp only [Value.slice.injEq, true_and] at hv'
      obtain ⟨rfl, rfl⟩ := hv'
      have HS : Hid (Part 3 1 IntE (put wr w.heap.size k [.int .i64 x]) w.heap.size l.length (k + 1) l) := by
        have := Part.step framesInt hP.out (Below.refl _ _) x hx hlt [.int .i64 x] rfl ⟨rfl, i0⟩
        rwa [Nat.mul_one] at this
      have hgl := hP.out.lt
      obtain ⟨⟨q0, t0⟩, z0⟩ := hP.out.cell k (by omega)
      clear hP
      go_wp2
      go_roundw
      case rel => exact ⟨k + 1, by omega, by go_num, HS, put_below hB.out (Nat.le_refl _) k [.int .i64 x]⟩
      case measure => simp [intOf]; omega
    · obtain rfl : k = l.length := by omega
      go_wp2
      go_ret
      exact ⟨_, rfl, Part.done hP.out rfl (by unfold maxLen; omega) (Nat.le_refl _), hB.out⟩

set_option maxRecDepth 100000 in
set_option maxHeartbeats 1000000 in
theorem toAccount_o (v : Value) (x : AccD) (w : World) (hv : AccV w v x) (h0 : szXs x.boxes ≤ 2000000) (h1 : x.seen.length ≤ 2000000) :
    Calls Try.prog 6 #[v] w fun e w' => ∃ u, e = .returned u ∧ AccO w' (In w.heap.size w'.heap.size) u x ∧ Below w.heap.size w w' := by
  obtain ⟨u0, u1, rfl, g0, g1, i0⟩ := hv
  obtain ⟨valid, boxes, seen⟩ := x
  simp only at g0 g1 i0 h0 h1
  have H0 : Hid (∀ wi, Below w.heap.size w wi → BoxesV wi u0 boxes ∧ IntsV wi u1 seen) := fun wi h => ⟨g0.below keepsBox h, g1.below keepsInt h⟩
  obtain ⟨a0, c0, rfl, -⟩ := g0.form
  obtain ⟨a1, c1, rfl, -⟩ := g1.form
  have HI : Hid (I64 valid) := i0
  clear g0 g1 i0
  simp only
  go_enter Try.func6, Try.ntmps6
  go_wp2_with fail
  refine (toBoxS_r _ boxes _ (H0.out _ (box3_below w _ _ _)).1 h0).mono ?_
  rintro e w1 ⟨u0, rfl, R0, B⟩
  obtain ⟨x0, m0, y0, rfl⟩ := R0.form3
  have b3 := box3 w (.cells #[.int .i64 valid, .slice a0 boxes.length c0, .slice a1 seen.length c1] 25) (.cells #[.int .i64 0, .slice none 0 0, .slice none 0 0] 32) (.cells #[.int .i64 valid, .slice none 0 0, .slice none 0 0] 32)
  have kA := box_below B b3.1
  have kR := box_below B b3.2.1
  have kO := box_below B b3.2.2
  have s1 : w.heap.size + 3 ≤ w1.heap.size := by have := B.size; simp at this; omega
  have X := Below.step (box3_below w _ _ _) B
  replace R0 := R0.wide (B' := w.heap.size + 3) (T' := w1.heap.size) (by simp) (Nat.le_refl _)
  clear b3 B
  obtain ⟨-, -, f2⟩ := bx3 kA
  obtain ⟨oz, ol⟩ := box8z kO
  obtain ⟨o0, o1, o2⟩ := bx3 kO
  go_wp2_with fail
  clear f2 oz ol o0 o1 o2
  replace X := X.setCell (p := ⟨w.heap.size + 1 + 1, 1, none⟩) (by simp; omega) (.slice x0 m0 y0)
  replace R0 := R0.set (g := w.heap.size + 1 + 1) (i := 1) (x := .slice x0 m0 y0) (.inl (by omega))
  replace kA := box_other (i := 1) (v := .slice x0 m0 y0) kA (show w.heap.size ≠ w.heap.size + 1 + 1 by omega)
  replace kR := box_other (i := 1) (v := .slice x0 m0 y0) kR (show w.heap.size + 1 ≠ w.heap.size + 1 + 1 by omega)
  replace kO : (World.setCell _ _ _).heap[w.heap.size + 1 + 1]? = some (Obj.cells #[.int .i64 valid, .slice x0 m0 y0, .slice none 0 0] 32) := box_set (i := 1) (v := .slice x0 m0 y0) kO
  refine (toIntS_r _ seen _ (H0.out _ X).2 h1).mono ?_
  rintro e w2 ⟨u1, rfl, R1, B⟩
  obtain ⟨x1, m1, y1, rfl⟩ := R1.form3
  simp only [box_size] at R1
  have s2 : w1.heap.size ≤ w2.heap.size := by have := B.size; simpa only [box_size] using this
  replace X := Below.step X B
  replace R0 := R0.below B
  replace kA := box_below B kA
  replace kR := box_below B kR
  replace kO := box_below B kO
  clear B
  obtain ⟨-, -, -⟩ := bx3 kA
  obtain ⟨oz, ol⟩ := box8z kO
  obtain ⟨o0, o1, o2⟩ := bx3 kO
  obtain ⟨rz, rl⟩ := box8z kR
  obtain ⟨r0, r1, r2⟩ := bx3 kR
  go_wp2
  refine bodyPost_ret (v := .agg #[.int .i64 valid, .slice x0 m0 y0, .slice x1 m1 y1]) (by simp [results, Try.results6, go_sem, r0, r1, r2]) rfl ⟨_, rfl, ?_, ?_⟩
  · simp only [box_size]
    exact ⟨_, _, In (w.heap.size + 3) w1.heap.size, In w1.heap.size w2.heap.size, rfl, OwR.ow (((((R0.set (g := w.heap.size + 1 + 1) (i := 2) (x := .slice x1 m1 y1) (.inl (by omega))).set (g := w.heap.size + 1) (i := 0) (x := .int .i64 valid) (.inl (by omega))).set (g := w.heap.size + 1) (i := 1) (x := .slice x0 m0 y0) (.inl (by omega))).set (g := w.heap.size + 1) (i := 2) (x := .slice x1 m1 y1) (.inl (by omega)))), OwR.ow (((((R1.set (g := w.heap.size + 1 + 1) (i := 2) (x := .slice x1 m1 y1) (.inl (by omega))).set (g := w.heap.size + 1) (i := 0) (x := .int .i64 valid) (.inl (by omega))).set (g := w.heap.size + 1) (i := 1) (x := .slice x0 m0 y0) (.inl (by omega))).set (g := w.heap.size + 1) (i := 2) (x := .slice x1 m1 y1) (.inl (by omega)))), fun x h => ⟨⟨Nat.le_trans (by omega) h.1, Nat.lt_of_lt_of_le h.2 (by omega)⟩, fun h' => Nat.not_le_of_lt h.2 h'.1⟩, fun x h => ⟨Nat.le_trans (by omega) h.1, h.2⟩, HI.out⟩
  · exact ((((X.setCell (p := ⟨w.heap.size + 1 + 1, 2, none⟩) (by simp <;> omega) (.slice x1 m1 y1)).setCell (p := ⟨w.heap.size + 1, 0, none⟩) (by simp <;> omega) (.int .i64 valid)).setCell (p := ⟨w.heap.size + 1, 1, none⟩) (by simp <;> omega) (.slice x0 m0 y0)).setCell (p := ⟨w.heap.size + 1, 2, none⟩) (by simp <;> omega) (.slice x1 m1 y1))

end Go.Proofs.Ytjdcjhboipileab

/- What szByteS of package laws does. -/
namespace Go.Proofs.Ytjdcjhboipileab
open Go.RowKit
set_option maxRecDepth 100000

/-- What is left of a size when n more are taken; -1: it does not suffice. -/
def szL' (left : Int) (n : Nat) : Int := if left - n < 0 then -1 else left - n

set_option maxHeartbeats 400000 in
theorem szByteS_any (v : Value) (l : List Int) (left : Int) (w : World) (hv : Bs w v l) (h0 : 0 ≤ left) (h1 : left ≤ 4000000) :
    Calls Try.prog 42 #[v, .int .i64 left] w fun e w' => e = .returned (.int .i64 (szL' left l.length)) ∧ w' = w := by
  obtain ⟨ho, a, cap, rfl, hlc, hcm, -⟩ := hv
  unfold maxLen at hcm
  by_cases hb : left - (l.length : Int) < 0
  · have HZ : Hid (szL' left l.length = -1) := by simp [Hid, szL', hb]
    go_enter Try.func42, Try.ntmps42
    go_wp2
    go_ret
    exact ⟨by rw [HZ.out]; rfl, rfl⟩
  · have HZ : Hid (szL' left l.length = left - l.length) := by simp [Hid, szL', hb]
    go_enter Try.func42, Try.ntmps42
    go_wp2
    go_ret
    exact ⟨by rw [HZ.out]; rfl, rfl⟩

theorem szL_or (left : Int) (n : Nat) : szL' left n = -1 ∨ (0 ≤ szL' left n ∧ szL' left n + n = left) := by
  unfold szL'
  split
  · exact .inl rfl
  · exact .inr ⟨by omega, by omega⟩

end Go.Proofs.Ytjdcjhboipileab

/- What szMail, szMailS, szGoneS, szBox of package laws do. -/
namespace Go.Proofs.Ytjdcjhboipileab
open Go.RowKit
set_option maxRecDepth 100000
set_option linter.unusedVariables false

def tot {α : Type} (f : α → Nat) (l : List α) : Nat := (l.map f).sum
theorem tot_succ {α : Type} (f : α → Nat) {l : List α} {k : Nat} {x : α} (hx : l[k]? = some x) : tot f (l.take (k + 1)) = tot f (l.take k) + f x := by
  obtain ⟨h, rfl⟩ := List.getElem?_eq_some_iff.1 hx
  unfold tot
  rw [List.take_succ_eq_append_getElem h, List.map_append, List.sum_append]
  simp
theorem szM_tot (l : List MailD) : szM l = tot (fun m => m.text.length) l + l.length := by
  induction l with
  | nil => rfl
  | cons x l ih => simp only [szM, tot, List.map_cons, List.sum_cons, List.length_cons] at ih ⊢; omega
theorem szXs_tot (l : List BoxD) : szXs l = tot szX l + l.length := by
  induction l with
  | nil => rfl
  | cons x l ih => simp only [szXs, tot, List.map_cons, List.sum_cons, List.length_cons] at ih ⊢; omega
theorem szByteS_e (v : Value) (l : List Int) (left : Int) (w : World) (hv : Bs w v l) (h0 : 0 ≤ left) (h1 : left ≤ 4000000) :
    Calls Try.prog 42 #[v, .int .i64 left] w fun e w' => ∃ y : Int, e = .returned (.int .i64 y) ∧ (y = -1 ∨ (0 ≤ y ∧ y + l.length = left)) ∧ Below w.heap.size w w' :=
  (szByteS_any v l left w hv h0 h1).mono fun _ _ ⟨h, hw⟩ => ⟨_, h, szL_or left l.length, by rw [hw]; exact Below.refl _ _⟩

set_option maxRecDepth 100000 in
set_option maxHeartbeats 1000000 in
theorem szMail_any (v : Value) (x : MailD) (left : Int) (w : World) (hv : MailV w v x) (h0 : 0 ≤ left) (h1 : left ≤ 4000000) :
    Calls Try.prog 62 #[v, .int .i64 left] w fun e w' => ∃ y : Int, e = .returned (.int .i64 y) ∧ (y = -1 ∨ (0 ≤ y ∧ y + x.text.length = left)) ∧ Below w.heap.size w w' := by
  obtain ⟨u, rfl, g0, -⟩ := hv
  obtain ⟨uid, flags, seq, text⟩ := x
  simp only at g0
  have H0 : Hid (∀ wi, Below w.heap.size w wi → Bs wi u text) := fun wi h => g0.below h
  obtain ⟨a0, n0, c0, rfl⟩ := g0.form3
  clear g0
  simp only
  have X : Below w.heap.size w (w.alloc (.cells #[.int .i64 uid, .int .i64 flags, .int .i64 seq, .slice a0 n0 c0] 91)) := (Below.refl _ _).alloc (Nat.le_refl _) _
  have kA := box_new w (.cells #[.int .i64 uid, .int .i64 flags, .int .i64 seq, .slice a0 n0 c0] 91)
  go_enter Try.func62, Try.ntmps62
  go_wp2_with fail
  refine (szByteS_e _ text left _ (H0.out _ X) h0 h1).mono ?_
  rintro e w1 ⟨y0, rfl, hy, B⟩
  replace X := Below.step X B
  replace kA := box_below B kA
  clear B
  obtain ⟨f0, f1, f2, f3⟩ := bx4 kA
  rcases hy with rfl | ⟨q0, p0⟩
  · go_wp2
    go_ret
    exact ⟨-1, rfl, .inl rfl, X⟩
  go_wp2
  go_ret
  exact ⟨y0, rfl, .inr ⟨q0, by omega⟩, X⟩

set_option maxRecDepth 100000 in
set_option maxHeartbeats 1000000 in
theorem szMailS_any (v : Value) (l : List MailD) (left : Int) (w : World) (hv : MailsV w v l) (h0 : 0 ≤ left) (h1 : left ≤ 4000000) :
    Calls Try.prog 43 #[v, .int .i64 left] w fun e w' => ∃ y : Int, e = .returned (.int .i64 y) ∧ (y = -1 ∨ (0 ≤ y ∧ y + szM l = left)) ∧ Below w.heap.size w w' := by
  have HV : Hid (∀ wi, Below w.heap.size w wi → MailsV wi v l) := fun wi h => hv.below keepsMail h
  obtain ⟨a, cap, rfl, hlc, hcm⟩ := hv.form
  clear hv
  by_cases hb : left - (l.length : Int) < 0
  · go_enter Try.func43, Try.ntmps43
    go_wp2
    go_ret
    exact ⟨-1, rfl, .inl rfl, Below.refl _ _⟩
  · go_enter Try.func43, Try.ntmps43
    go_wp2
    go_loopw [1, 5] (fun q i wr => ∃ (k : Nat) (y : Int), k ≤ l.length ∧ i = .int .i64 k ∧ q = .int .i64 y ∧ 0 ≤ y ∧ Hid (y + l.length + tot (fun m => m.text.length) (l.take k) = left) ∧ Hid (Below w.heap.size w wr)) (fun _ i _ => l.length - (intOf i).toNat)
    case atStart => exact ⟨0, left - l.length, Nat.zero_le _, rfl, rfl, by omega, (show Hid _ from by simp [Hid, tot]), Below.refl _ _⟩
    case round =>
      obtain ⟨k, y, hk, rfl, rfl, hy0, hy1, hB⟩ := hrel
      by_cases hlt : k < l.length
      · obtain ⟨x, hx⟩ : ∃ x, l[k]? = some x := ⟨l[k], List.getElem?_eq_getElem hlt⟩
        obtain ⟨b, off, cap', u, hv', hlb, d0, d1, d2, d3, hu, i0, i1, i2⟩ := MailsV.cell (HV.out wr hB.out) k x hx
        simp only [Value.slice.injEq, true_and] at hv'
        obtain ⟨rfl, rfl⟩ := hv'
        obtain ⟨ua, un, uc, rfl⟩ := hu.form3
        have HT : Hid (tot (fun m => m.text.length) (l.take (k + 1)) = tot (fun m => m.text.length) (l.take k) + (fun m => m.text.length) x) := tot_succ _ hx
        go_wp2_with fail
        refine (szMail_any _ x _ _ ⟨_, rfl, hu, i0, i1, i2⟩ hy0 (by have := hy1.out; omega)).mono ?_
        rintro e w2 ⟨y2, rfl, hy2, B⟩
        have HB2 : Hid (Below w.heap.size w w2) := Below.step hB.out B
        clear B hB d0 d1 d2 d3
        rcases hy2 with rfl | ⟨q0, q1⟩
        · go_wp2
          go_ret
          exact ⟨-1, rfl, .inl rfl, HB2.out⟩
        · have HE : Hid (y2 + l.length + tot (fun m => m.text.length) (l.take (k + 1)) = left) := by
            have h1 := HT.out
            have h2 := hy1.out
            simp only [Hid]
            omega
          clear q1
          go_wp2
          go_roundw
          case rel => exact ⟨k + 1, y2, by omega, by go_num, rfl, q0, HE, HB2⟩
          case measure => simp [intOf]; omega
      · obtain rfl : k = l.length := by omega
        go_wp2
        go_ret
        refine ⟨y, rfl, .inr ⟨hy0, ?_⟩, hB.out⟩
        have h2 := hy1.out
        rw [List.take_length] at h2
        have h3 := szM_tot l
        omega

set_option maxRecDepth 100000 in
set_option maxHeartbeats 1000000 in
theorem szGoneS_any (v : Value) (l : List GoneD) (left : Int) (w : World) (hv : GonesV w v l) (h0 : 0 ≤ left) (h1 : left ≤ 4000000) :
    Calls Try.prog 44 #[v, .int .i64 left] w fun e w' => ∃ y : Int, e = .returned (.int .i64 y) ∧ (y = -1 ∨ (0 ≤ y ∧ y + l.length = left)) ∧ Below w.heap.size w w' := by
  obtain ⟨a, cap, rfl, hlc, hcm⟩ := hv.form
  clear hv
  by_cases hb : left - (l.length : Int) < 0
  · go_enter Try.func44, Try.ntmps44
    go_wp2
    go_ret
    exact ⟨-1, rfl, .inl rfl, Below.refl _ _⟩
  · go_enter Try.func44, Try.ntmps44
    go_wp2
    go_ret
    exact ⟨left - l.length, rfl, .inr ⟨by omega, by omega⟩, Below.refl _ _⟩

set_option maxRecDepth 100000 in
set_option maxHeartbeats 1000000 in
theorem szBox_any (v : Value) (x : BoxD) (left : Int) (w : World) (hv : BoxV w v x) (h0 : 0 ≤ left) (h1 : left ≤ 4000000) :
    Calls Try.prog 26 #[v, .int .i64 left] w fun e w' => ∃ y : Int, e = .returned (.int .i64 y) ∧ (y = -1 ∨ (0 ≤ y ∧ y + szX x = left)) ∧ Below w.heap.size w w' := by
  obtain ⟨u0, u1, u2, rfl, g0, g1, g2, -⟩ := hv
  unfold szX
  obtain ⟨name, valid, next, seq, mails, gones, lost⟩ := x
  simp only at g0 g1 g2
  have H0 : Hid (∀ wi, Below w.heap.size w wi → Bs wi u0 name ∧ MailsV wi u1 mails ∧ GonesV wi u2 gones) := fun wi h => ⟨g0.below h, g1.below keepsMail h, g2.below keepsGone h⟩
  obtain ⟨a0, n0, c0, rfl⟩ := g0.form3
  obtain ⟨a1, c1, rfl, -⟩ := g1.form
  obtain ⟨a2, c2, rfl, -⟩ := g2.form
  clear g0 g1 g2
  simp only
  have X : Below w.heap.size w (w.alloc (.cells #[.slice a0 n0 c0, .int .i64 valid, .int .i64 next, .int .i64 seq, .slice a1 mails.length c1, .slice a2 gones.length c2, .int .i64 lost] 58)) := (Below.refl _ _).alloc (Nat.le_refl _) _
  have kA := box_new w (.cells #[.slice a0 n0 c0, .int .i64 valid, .int .i64 next, .int .i64 seq, .slice a1 mails.length c1, .slice a2 gones.length c2, .int .i64 lost] 58)
  go_enter Try.func26, Try.ntmps26
  go_wp2_with fail
  refine (szByteS_e _ name left _ (H0.out _ X).1 h0 h1).mono ?_
  rintro e w1 ⟨y0, rfl, hy, B⟩
  replace X := Below.step X B
  replace kA := box_below B kA
  clear B
  obtain ⟨f0, f1, f2, f3, f4, f5, f6⟩ := bx7 kA
  rcases hy with rfl | ⟨q0, p0⟩
  · go_wp2
    go_ret
    exact ⟨-1, rfl, .inl rfl, X⟩
  go_wp2_with fail
  clear f0 f1 f2 f3 f4 f5 f6
  refine (szMailS_any _ mails y0 _ (H0.out _ X).2.1 q0 (by omega)).mono ?_
  rintro e w2 ⟨y1, rfl, hy, B⟩
  replace X := Below.step X B
  replace kA := box_below B kA
  clear B
  obtain ⟨f0, f1, f2, f3, f4, f5, f6⟩ := bx7 kA
  rcases hy with rfl | ⟨q1, p1⟩
  · go_wp2
    go_ret
    exact ⟨-1, rfl, .inl rfl, X⟩
  go_wp2_with fail
  clear f0 f1 f2 f3 f4 f5 f6
  refine (szGoneS_any _ gones y1 _ (H0.out _ X).2.2 q1 (by omega)).mono ?_
  rintro e w3 ⟨y2, rfl, hy, B⟩
  replace X := Below.step X B
  replace kA := box_below B kA
  clear B
  obtain ⟨f0, f1, f2, f3, f4, f5, f6⟩ := bx7 kA
  rcases hy with rfl | ⟨q2, p2⟩
  · go_wp2
    go_ret
    exact ⟨-1, rfl, .inl rfl, X⟩
  go_wp2
  go_ret
  exact ⟨y2, rfl, .inr ⟨q2, by omega⟩, X⟩

end Go.Proofs.Ytjdcjhboipileab

/- What szBoxS, szIntS, szAccount of package laws do. -/
namespace Go.Proofs.Ytjdcjhboipileab
open Go.RowKit
set_option maxRecDepth 100000
set_option linter.unusedVariables false

set_option maxRecDepth 100000 in
set_option maxHeartbeats 1000000 in
theorem szIntS_any (v : Value) (l : List Int) (left : Int) (w : World) (hv : IntsV w v l) (h0 : 0 ≤ left) (h1 : left ≤ 4000000) :
    Calls Try.prog 14 #[v, .int .i64 left] w fun e w' => ∃ y : Int, e = .returned (.int .i64 y) ∧ (y = -1 ∨ (0 ≤ y ∧ y + l.length = left)) ∧ Below w.heap.size w w' := by
  obtain ⟨a, cap, rfl, hlc, hcm⟩ := hv.form
  clear hv
  by_cases hb : left - (l.length : Int) < 0
  · go_enter Try.func14, Try.ntmps14
    go_wp2
    go_ret
    exact ⟨-1, rfl, .inl rfl, Below.refl _ _⟩
  · go_enter Try.func14, Try.ntmps14
    go_wp2
    go_ret
    exact ⟨left - l.length, rfl, .inr ⟨by omega, by omega⟩, Below.refl _ _⟩

set_option maxRecDepth 100000 in
set_option maxHeartbeats 1000000 in
theorem szBoxS_any (v : Value) (l : List BoxD) (left : Int) (w : World) (hv : BoxesV w v l) (h0 : 0 ≤ left) (h1 : left ≤ 4000000) :
    Calls Try.prog 13 #[v, .int .i64 left] w fun e w' => ∃ y : Int, e = .returned (.int .i64 y) ∧ (y = -1 ∨ (0 ≤ y ∧ y + szXs l = left)) ∧ Below w.heap.size w w' := by
  have HV : Hid (∀ wi, Below w.heap.size w wi → BoxesV wi v l) := fun wi h => hv.below keepsBox h
  obtain ⟨a, cap, rfl, hlc, hcm⟩ := hv.form
  clear hv
  by_cases hb : left - (l.length : Int) < 0
  · go_enter Try.func13, Try.ntmps13
    go_wp2
    go_ret
    exact ⟨-1, rfl, .inl rfl, Below.refl _ _⟩
  · go_enter Try.func13, Try.ntmps13
    go_wp2
    go_loopw [1, 5] (fun q i wr => ∃ (k : Nat) (y : Int), k ≤ l.length ∧ i = .int .i64 k ∧ q = .int .i64 y ∧ 0 ≤ y ∧ Hid (y + l.length + tot (szX) (l.take k) = left) ∧ Hid (Below w.heap.size w wr)) (fun _ i _ => l.length - (intOf i).toNat)
    case atStart => exact ⟨0, left - l.length, Nat.zero_le _, rfl, rfl, by omega, (show Hid _ from by simp [Hid, tot]), Below.refl _ _⟩
    case round =>
      obtain ⟨k, y, hk, rfl, rfl, hy0, hy1, hB⟩ := hrel
      by_cases hlt : k < l.length
      · obtain ⟨x, hx⟩ : ∃ x, l[k]? = some x := ⟨l[k], List.getElem?_eq_getElem hlt⟩
        obtain ⟨b, off, cap', u0, u1, u2, hv', hlb, d0, d1, d2, d3, d4, d5, d6, hu0, hu1, hu2, i0, i1, i2, i3⟩ := BoxesV.cell (HV.out wr hB.out) k x hx
        simp only [Value.slice.injEq, true_and] at hv'
        obtain ⟨rfl, rfl⟩ := hv'
        obtain ⟨ua, un, uc, rfl⟩ := hu0.form3
        obtain ⟨va, vc, rfl, -⟩ := hu1.form
        obtain ⟨wa, wc, rfl, -⟩ := hu2.form
        have HT : Hid (tot (szX) (l.take (k + 1)) = tot (szX) (l.take k) + (szX) x) := tot_succ _ hx
        go_wp2_with fail
        refine (szBox_any _ x _ _ ⟨_, _, _, rfl, hu0, hu1, hu2, i0, i1, i2, i3⟩ hy0 (by have := hy1.out; omega)).mono ?_
        rintro e w2 ⟨y2, rfl, hy2, B⟩
        have HB2 : Hid (Below w.heap.size w w2) := Below.step hB.out B
        clear B hB d0 d1 d2 d3 d4 d5 d6
        rcases hy2 with rfl | ⟨q0, q1⟩
        · go_wp2
          go_ret
          exact ⟨-1, rfl, .inl rfl, HB2.out⟩
        · have HE : Hid (y2 + l.length + tot (szX) (l.take (k + 1)) = left) := by
            have h1 := HT.out
            have h2 := hy1.out
            simp only [Hid]
            omega
          clear q1
          go_wp2
          go_roundw
          case rel => exact ⟨k + 1, y2, by omega, by go_num, rfl, q0, HE, HB2⟩
          case measure => simp [intOf]; omega
      · obtain rfl : k = l.length := by omega
        go_wp2
        go_ret
        refine ⟨y, rfl, .inr ⟨hy0, ?_⟩, hB.out⟩
        have h2 := hy1.out
        rw [List.take_length] at h2
        have h3 := szXs_tot l
        omega

set_option maxRecDepth 100000 in
set_option maxHeartbeats 1000000 in
theorem szAccount_any (v : Value) (x : AccD) (left : Int) (w : World) (hv : AccV w v x) (h0 : 0 ≤ left) (h1 : left ≤ 4000000) :
    Calls Try.prog 4 #[v, .int .i64 left] w fun e w' => ∃ y : Int, e = .returned (.int .i64 y) ∧ (y = -1 ∨ (0 ≤ y ∧ y + (szXs x.boxes + x.seen.length : Nat) = left)) ∧ Below w.heap.size w w' := by
  obtain ⟨u0, u1, rfl, g0, g1, -⟩ := hv
  obtain ⟨valid, boxes, seen⟩ := x
  simp only at g0 g1
  have H0 : Hid (∀ wi, Below w.heap.size w wi → BoxesV wi u0 boxes ∧ IntsV wi u1 seen) := fun wi h => ⟨g0.below keepsBox h, g1.below keepsInt h⟩
  obtain ⟨a0, c0, rfl, -⟩ := g0.form
  obtain ⟨a1, c1, rfl, -⟩ := g1.form
  clear g0 g1
  simp only
  have X : Below w.heap.size w (w.alloc (.cells #[.int .i64 valid, .slice a0 boxes.length c0, .slice a1 seen.length c1] 25)) := (Below.refl _ _).alloc (Nat.le_refl _) _
  have kA := box_new w (.cells #[.int .i64 valid, .slice a0 boxes.length c0, .slice a1 seen.length c1] 25)
  go_enter Try.func4, Try.ntmps4
  go_wp2_with fail
  refine (szBoxS_any _ boxes left _ (H0.out _ X).1 h0 h1).mono ?_
  rintro e w1 ⟨y0, rfl, hy, B⟩
  replace X := Below.step X B
  replace kA := box_below B kA
  clear B
  obtain ⟨f0, f1, f2⟩ := bx3 kA
  rcases hy with rfl | ⟨q0, p0⟩
  · go_wp2
    go_ret
    exact ⟨-1, rfl, .inl rfl, X⟩
  go_wp2_with fail
  clear f0 f1 f2
  refine (szIntS_any _ seen y0 _ (H0.out _ X).2 q0 (by omega)).mono ?_
  rintro e w2 ⟨y1, rfl, hy, B⟩
  replace X := Below.step X B
  replace kA := box_below B kA
  clear B
  obtain ⟨f0, f1, f2⟩ := bx3 kA
  rcases hy with rfl | ⟨q1, p1⟩
  · go_wp2
    go_ret
    exact ⟨-1, rfl, .inl rfl, X⟩
  go_wp2
  go_ret
  exact ⟨y1, rfl, .inr ⟨q1, by omega⟩, X⟩

end Go.Proofs.Ytjdcjhboipileab

/- What eqMail, eqMailS, eqGone, eqGoneS, eqBox of package laws do. -/
namespace Go.Proofs.Ytjdcjhboipileab
open Go.RowKit
set_option maxRecDepth 100000
set_option linter.unusedVariables false

set_option maxRecDepth 100000 in
set_option maxHeartbeats 1000000 in
theorem eqMail_yes (v u : Value) (x : MailD) (w : World) (hv : MailV w v x) (hu : MailV w u x) :
    Calls Try.prog 71 #[v, u] w fun e w' => e = .returned (.bool true) ∧ Below w.heap.size w w' := by
  obtain ⟨u0, rfl, g0, -⟩ := hv
  obtain ⟨u1, rfl, g1, -⟩ := hu
  obtain ⟨uid, flags, seq, text⟩ := x
  simp only at g0 g1
  have H0 : Hid (∀ wi, Below w.heap.size w wi → Bs wi u0 text ∧ Bs wi u1 text) := fun wi h => ⟨g0.below h, g1.below h⟩
  obtain ⟨a0, n0, c0, rfl⟩ := g0.form3
  obtain ⟨a1, n1, c1, rfl⟩ := g1.form3
  clear g0 g1
  simp only
  obtain ⟨kA, kB, X⟩ := boxes2 w (.cells #[.int .i64 uid, .int .i64 flags, .int .i64 seq, .slice a0 n0 c0] 69) (.cells #[.int .i64 uid, .int .i64 flags, .int .i64 seq, .slice a1 n1 c1] 69)
  go_enter Try.func71, Try.ntmps71
  go_wp2_with fail
  refine (eqByteS_yes _ _ text _ (H0.out _ X).1 (H0.out _ X).2).mono ?_
  rintro e w1 ⟨rfl, B⟩
  replace X := Below.step X B
  replace kA := box_below B kA
  replace kB := box_below B kB
  clear B
  obtain ⟨f0, f1, f2, f3⟩ := bx4 kA
  obtain ⟨e0, e1, e2, e3⟩ := bx4 kB
  go_wp2
  go_ret
  exact ⟨rfl, X⟩

set_option maxRecDepth 100000 in
set_option maxHeartbeats 1000000 in
theorem eqMailS_yes (v u : Value) (l : List MailD) (w : World) (hv : MailsV w v l) (hu : MailsV w u l) :
    Calls Try.prog 60 #[v, u] w fun e w' => e = .returned (.bool true) ∧ Below w.heap.size w w' := by
  have HV : Hid (∀ wi, Below w.heap.size w wi → MailsV wi v l ∧ MailsV wi u l) := fun wi h => ⟨hv.below keepsMail h, hu.below keepsMail h⟩
  obtain ⟨a, cap, rfl, hlc, hcm⟩ := hv.form
  obtain ⟨a2, cap2, rfl, hlc2, hcm2⟩ := hu.form
  clear hv hu
  go_enter Try.func60, Try.ntmps60
  go_wp2
  go_loopw [5] (fun i wr => ∃ k : Nat, k ≤ l.length ∧ i = .int .i64 k ∧ Hid (Below w.heap.size w wr)) (fun i _ => l.length - (intOf i).toNat)
  case atStart => exact ⟨0, Nat.zero_le _, rfl, Below.refl _ _⟩
  case round =>
    obtain ⟨k, hk, rfl, hB⟩ := hrel
    by_cases hlt : k < l.length
    · obtain ⟨x, hx⟩ : ∃ x, l[k]? = some x := ⟨l[k], List.getElem?_eq_getElem hlt⟩
      have DR : Below wr.heap.size wr wr.drew := (Below.refl _ _).drew
      obtain ⟨b, off, cap', u, hv', hlb, d0, d1, d2, d3, hu, i0, i1, i2⟩ := MailsV.cell (HV.out wr hB.out).1 k x hx
      obtain ⟨b2, off2, cap2', u2, hv2, hlb2, z0, z1, z2, z3, hu2, j0, j1, j2⟩ := MailsV.cell (HV.out wr hB.out).2 k x hx
      simp only [Value.slice.injEq, true_and] at hv' hv2
      obtain ⟨rfl, rfl⟩ := hv'
      obtain ⟨rfl, rfl⟩ := hv2
      obtain ⟨ua, un, uc, rfl⟩ := hu.form3
      obtain ⟨ta, tn, tc, rfl⟩ := hu2.form3
      have HA : Hid (MailV wr.drew (.agg #[.int .i64 x.uid, .int .i64 x.flags, .int .i64 x.seq, .slice ua un uc]) x ∧ MailV wr.drew (.agg #[.int .i64 x.uid, .int .i64 x.flags, .int .i64 x.seq, .slice ta tn tc]) x) := ⟨⟨_, rfl, hu.below DR, i0, i1, i2⟩, ⟨_, rfl, hu2.below DR, j0, j1, j2⟩⟩
      go_wp2
      go_region_held3 (fun w' => w'.cell? ⟨b, off + k * 4, none⟩ = some (.int .i64 x.uid) ∧ w'.cell? ⟨b, off + k * 4 + 1, none⟩ = some (.int .i64 x.flags) ∧ w'.cell? ⟨b, off + k * 4 + 2, none⟩ = some (.int .i64 x.seq) ∧ w'.cell? ⟨b, off + k * 4 + 3, none⟩ = some (.slice ua un uc) ∧ w'.cell? ⟨b2, off2 + k * 4, none⟩ = some (.int .i64 x.uid) ∧ w'.cell? ⟨b2, off2 + k * 4 + 1, none⟩ = some (.int .i64 x.flags) ∧ w'.cell? ⟨b2, off2 + k * 4 + 2, none⟩ = some (.int .i64 x.seq) ∧ w'.cell? ⟨b2, off2 + k * 4 + 3, none⟩ = some (.slice ta tn tc))
        (first | go_keep | exact ⟨d0, d1, d2, d3, z0, z1, z2, z3⟩ | exact ⟨(B.cell (p := ⟨_, _, none⟩) (by exact hlb)).trans d0, (B.cell (p := ⟨_, _, none⟩) (by exact hlb)).trans d1, (B.cell (p := ⟨_, _, none⟩) (by exact hlb)).trans d2, (B.cell (p := ⟨_, _, none⟩) (by exact hlb)).trans d3, (B.cell (p := ⟨_, _, none⟩) (by exact hlb2)).trans z0, (B.cell (p := ⟨_, _, none⟩) (by exact hlb2)).trans z1, (B.cell (p := ⟨_, _, none⟩) (by exact hlb2)).trans z2, (B.cell (p := ⟨_, _, none⟩) (by exact hlb2)).trans z3⟩)
        ((go_at_call 71; refine (eqMail_yes _ _ x _ HA.out.1 HA.out.2).mono ?_; rintro e w1 ⟨rfl, B⟩))
      have HB2 : Hid (Below w.heap.size w w1) := Below.step (Below.step hB.out DR) B
      clear d0 d1 d2 d3 z0 z1 z2 z3 B hB
      go_wp2
      go_roundw
      case rel => exact ⟨k + 1, by omega, by go_num, HB2⟩
      case measure => simp [intOf]; omega
    · go_wp2
      go_ret
      exact ⟨rfl, hB.out⟩

set_option maxRecDepth 100000 in
set_option maxHeartbeats 1000000 in
theorem eqGone_yes (v u : Value) (x : GoneD) (w : World) (hv : v = .agg #[.int .i64 x.uid, .int .i64 x.seq]) (hu : u = .agg #[.int .i64 x.uid, .int .i64 x.seq]) :
    Calls Try.prog 72 #[v, u] w fun e w' => e = .returned (.bool true) ∧ Below w.heap.size w w' := by
  subst hv
  subst hu
  obtain ⟨uid, seq⟩ := x
  simp only
  obtain ⟨kA, kB, X⟩ := boxes2 w (.cells #[.int .i64 uid, .int .i64 seq] 71) (.cells #[.int .i64 uid, .int .i64 seq] 71)
  go_enter Try.func72, Try.ntmps72
  go_wp2
  go_ret
  exact ⟨rfl, X⟩

set_option maxRecDepth 100000 in
set_option maxHeartbeats 1000000 in
theorem eqGoneS_yes (v u : Value) (l : List GoneD) (w : World) (hv : GonesV w v l) (hu : GonesV w u l) :
    Calls Try.prog 61 #[v, u] w fun e w' => e = .returned (.bool true) ∧ Below w.heap.size w w' := by
  have HV : Hid (∀ wi, Below w.heap.size w wi → GonesV wi v l ∧ GonesV wi u l) := fun wi h => ⟨hv.below keepsGone h, hu.below keepsGone h⟩
  obtain ⟨a, cap, rfl, hlc, hcm⟩ := hv.form
  obtain ⟨a2, cap2, rfl, hlc2, hcm2⟩ := hu.form
  clear hv hu
  go_enter Try.func61, Try.ntmps61
  go_wp2
  go_loopw [5] (fun i wr => ∃ k : Nat, k ≤ l.length ∧ i = .int .i64 k ∧ Hid (Below w.heap.size w wr)) (fun i _ => l.length - (intOf i).toNat)
  case atStart => exact ⟨0, Nat.zero_le _, rfl, Below.refl _ _⟩
  case round =>
    obtain ⟨k, hk, rfl, hB⟩ := hrel
    by_cases hlt : k < l.length
    · obtain ⟨x, hx⟩ : ∃ x, l[k]? = some x := ⟨l[k], List.getElem?_eq_getElem hlt⟩
      have DR : Below wr.heap.size wr wr.drew := (Below.refl _ _).drew
      obtain ⟨b, off, cap', hv', hlb, d0, d1, i0, i1⟩ := GonesV.cell (HV.out wr hB.out).1 k x hx
      obtain ⟨b2, off2, cap2', hv2, hlb2, z0, z1, j0, j1⟩ := GonesV.cell (HV.out wr hB.out).2 k x hx
      simp only [Value.slice.injEq, true_and] at hv' hv2
      obtain ⟨rfl, rfl⟩ := hv'
      obtain ⟨rfl, rfl⟩ := hv2
      have HA : Hid (True) := trivial
      go_wp2
      go_region_held3 (fun w' => w'.cell? ⟨b, off + k * 2, none⟩ = some (.int .i64 x.uid) ∧ w'.cell? ⟨b, off + k * 2 + 1, none⟩ = some (.int .i64 x.seq) ∧ w'.cell? ⟨b2, off2 + k * 2, none⟩ = some (.int .i64 x.uid) ∧ w'.cell? ⟨b2, off2 + k * 2 + 1, none⟩ = some (.int .i64 x.seq))
        (first | go_keep | exact ⟨d0, d1, z0, z1⟩ | exact ⟨(B.cell (p := ⟨_, _, none⟩) (by exact hlb)).trans d0, (B.cell (p := ⟨_, _, none⟩) (by exact hlb)).trans d1, (B.cell (p := ⟨_, _, none⟩) (by exact hlb2)).trans z0, (B.cell (p := ⟨_, _, none⟩) (by exact hlb2)).trans z1⟩)
        ((go_at_call 72; refine (eqGone_yes _ _ x _ rfl rfl).mono ?_; rintro e w1 ⟨rfl, B⟩))
      have HB2 : Hid (Below w.heap.size w w1) := Below.step (Below.step hB.out DR) B
      clear d0 d1 z0 z1 B hB
      go_wp2
      go_roundw
      case rel => exact ⟨k + 1, by omega, by go_num, HB2⟩
      case measure => simp [intOf]; omega
    · go_wp2
      go_ret
      exact ⟨rfl, hB.out⟩

set_option maxRecDepth 100000 in
set_option maxHeartbeats 1000000 in
theorem eqBox_yes (v u : Value) (x : BoxD) (w : World) (hv : BoxV w v x) (hu : BoxV w u x) :
    Calls Try.prog 39 #[v, u] w fun e w' => e = .returned (.bool true) ∧ Below w.heap.size w w' := by
  obtain ⟨u0, u1, u2, rfl, g0, g1, g2, -⟩ := hv
  obtain ⟨u3, u4, u5, rfl, g3, g4, g5, -⟩ := hu
  obtain ⟨name, valid, next, seq, mails, gones, lost⟩ := x
  simp only at g0 g1 g2 g3 g4 g5
  have H0 : Hid (∀ wi, Below w.heap.size w wi → (Bs wi u0 name ∧ Bs wi u3 name) ∧ (MailsV wi u1 mails ∧ MailsV wi u4 mails) ∧ (GonesV wi u2 gones ∧ GonesV wi u5 gones)) := fun wi h => ⟨⟨g0.below h, g3.below h⟩, ⟨g1.below keepsMail h, g4.below keepsMail h⟩, ⟨g2.below keepsGone h, g5.below keepsGone h⟩⟩
  obtain ⟨a0, n0, c0, rfl⟩ := g0.form3
  obtain ⟨a1, c1, rfl, -⟩ := g1.form
  obtain ⟨a2, c2, rfl, -⟩ := g2.form
  obtain ⟨a3, n3, c3, rfl⟩ := g3.form3
  obtain ⟨a4, c4, rfl, -⟩ := g4.form
  obtain ⟨a5, c5, rfl, -⟩ := g5.form
  clear g0 g1 g2 g3 g4 g5
  simp only
  obtain ⟨kA, kB, X⟩ := boxes2 w (.cells #[.slice a0 n0 c0, .int .i64 valid, .int .i64 next, .int .i64 seq, .slice a1 mails.length c1, .slice a2 gones.length c2, .int .i64 lost] 49) (.cells #[.slice a3 n3 c3, .int .i64 valid, .int .i64 next, .int .i64 seq, .slice a4 mails.length c4, .slice a5 gones.length c5, .int .i64 lost] 49)
  go_enter Try.func39, Try.ntmps39
  go_wp2_with fail
  refine (eqByteS_yes _ _ name _ (H0.out _ X).1.1 (H0.out _ X).1.2).mono ?_
  rintro e w1 ⟨rfl, B⟩
  replace X := Below.step X B
  replace kA := box_below B kA
  replace kB := box_below B kB
  clear B
  obtain ⟨f0, f1, f2, f3, f4, f5, f6⟩ := bx7 kA
  obtain ⟨e0, e1, e2, e3, e4, e5, e6⟩ := bx7 kB
  go_wp2_with fail
  clear f0 e0 f1 e1 f2 e2 f3 e3 f4 e4 f5 e5 f6 e6
  refine (eqMailS_yes _ _ mails _ (H0.out _ X).2.1.1 (H0.out _ X).2.1.2).mono ?_
  rintro e w2 ⟨rfl, B⟩
  replace X := Below.step X B
  replace kA := box_below B kA
  replace kB := box_below B kB
  clear B
  obtain ⟨f0, f1, f2, f3, f4, f5, f6⟩ := bx7 kA
  obtain ⟨e0, e1, e2, e3, e4, e5, e6⟩ := bx7 kB
  go_wp2_with fail
  clear f0 e0 f1 e1 f2 e2 f3 e3 f4 e4 f5 e5 f6 e6
  refine (eqGoneS_yes _ _ gones _ (H0.out _ X).2.2.1 (H0.out _ X).2.2.2).mono ?_
  rintro e w3 ⟨rfl, B⟩
  replace X := Below.step X B
  replace kA := box_below B kA
  replace kB := box_below B kB
  clear B
  obtain ⟨f0, f1, f2, f3, f4, f5, f6⟩ := bx7 kA
  obtain ⟨e0, e1, e2, e3, e4, e5, e6⟩ := bx7 kB
  go_wp2
  go_ret
  exact ⟨rfl, X⟩

end Go.Proofs.Ytjdcjhboipileab

/- What eqBoxS, eqIntS, eqAccount of package laws do. -/
namespace Go.Proofs.Ytjdcjhboipileab
open Go.RowKit
set_option maxRecDepth 100000
set_option linter.unusedVariables false

set_option maxRecDepth 100000 in
set_option maxHeartbeats 1000000 in
theorem eqIntS_yes (v u : Value) (l : List Int) (w : World) (hv : IntsV w v l) (hu : IntsV w u l) :
    Calls Try.prog 23 #[v, u] w fun e w' => e = .returned (.bool true) ∧ Below w.heap.size w w' := by
  have HV : Hid (∀ wi, Below w.heap.size w wi → IntsV wi v l ∧ IntsV wi u l) := fun wi h => ⟨hv.below keepsInt h, hu.below keepsInt h⟩
  obtain ⟨a, cap, rfl, hlc, hcm⟩ := hv.form
  obtain ⟨a2, cap2, rfl, hlc2, hcm2⟩ := hu.form
  clear hv hu
  go_enter Try.func23, Try.ntmps23
  go_wp2
  go_loopw [5] (fun i wr => ∃ k : Nat, k ≤ l.length ∧ i = .int .i64 k ∧ Hid (Below w.heap.size w wr)) (fun i _ => l.length - (intOf i).toNat)
  case atStart => exact ⟨0, Nat.zero_le _, rfl, Below.refl _ _⟩
  case round =>
    obtain ⟨k, hk, rfl, hB⟩ := hrel
    by_cases hlt : k < l.length
    · obtain ⟨x, hx⟩ : ∃ x, l[k]? = some x := ⟨l[k], List.getElem?_eq_getElem hlt⟩
      obtain ⟨b, off, cap', hv', hlb, d0, i0⟩ := IntsV.cell (HV.out wr hB.out).1 k x hx
      obtain ⟨b2, off2, cap2', hv2, hlb2, z0, j0⟩ := IntsV.cell (HV.out wr hB.out).2 k x hx
      simp only [Value.slice.injEq, true_and] at hv' hv2
      obtain ⟨rfl, rfl⟩ := hv'
      obtain ⟨rfl, rfl⟩ := hv2
      go_wp2
      go_quiet (fail)
      go_wp2
      go_roundw
      case rel => exact ⟨k + 1, by omega, by go_num, below_drewN _ hB.out⟩
      case measure => simp [intOf]; omega
    · go_wp2
      go_ret
      exact ⟨rfl, hB.out⟩

set_option maxRecDepth 100000 in
set_option maxHeartbeats 1000000 in
theorem eqBoxS_yes (v u : Value) (l : List BoxD) (w : World) (hv : BoxesV w v l) (hu : BoxesV w u l) :
    Calls Try.prog 22 #[v, u] w fun e w' => e = .returned (.bool true) ∧ Below w.heap.size w w' := by
  have HV : Hid (∀ wi, Below w.heap.size w wi → BoxesV wi v l ∧ BoxesV wi u l) := fun wi h => ⟨hv.below keepsBox h, hu.below keepsBox h⟩
  obtain ⟨a, cap, rfl, hlc, hcm⟩ := hv.form
  obtain ⟨a2, cap2, rfl, hlc2, hcm2⟩ := hu.form
  clear hv hu
  go_enter Try.func22, Try.ntmps22
  go_wp2
  go_loopw [5] (fun i wr => ∃ k : Nat, k ≤ l.length ∧ i = .int .i64 k ∧ Hid (Below w.heap.size w wr)) (fun i _ => l.length - (intOf i).toNat)
  case atStart => exact ⟨0, Nat.zero_le _, rfl, Below.refl _ _⟩
  case round =>
    obtain ⟨k, hk, rfl, hB⟩ := hrel
    by_cases hlt : k < l.length
    · obtain ⟨x, hx⟩ : ∃ x, l[k]? = some x := ⟨l[k], List.getElem?_eq_getElem hlt⟩
      have DR : Below wr.heap.size wr wr.drew := (Below.refl _ _).drew
      obtain ⟨b, off, cap', u0, u1, u2, hv', hlb, d0, d1, d2, d3, d4, d5, d6, hu0, hu1, hu2, i0, i1, i2, i3⟩ := BoxesV.cell (HV.out wr hB.out).1 k x hx
      obtain ⟨b2, off2, cap2', u3, u4, u5, hv2, hlb2, z0, z1, z2, z3, z4, z5, z6, hu3, hu4, hu5, j0, j1, j2, j3⟩ := BoxesV.cell (HV.out wr hB.out).2 k x hx
      simp only [Value.slice.injEq, true_and] at hv' hv2
      obtain ⟨rfl, rfl⟩ := hv'
      obtain ⟨rfl, rfl⟩ := hv2
      obtain ⟨ua, un, uc, rfl⟩ := hu0.form3
      obtain ⟨va, vc, rfl, -⟩ := hu1.form
      obtain ⟨wa, wc, rfl, -⟩ := hu2.form
      obtain ⟨ra, rn, rc, rfl⟩ := hu3.form3
      obtain ⟨sa, sc, rfl, -⟩ := hu4.form
      obtain ⟨ta, tc, rfl, -⟩ := hu5.form
      have HA : Hid (BoxV wr.drew (.agg #[.slice ua un uc, .int .i64 x.valid, .int .i64 x.next, .int .i64 x.seq, .slice va x.mails.length vc, .slice wa x.gones.length wc, .int .i64 x.lost]) x ∧ BoxV wr.drew (.agg #[.slice ra rn rc, .int .i64 x.valid, .int .i64 x.next, .int .i64 x.seq, .slice sa x.mails.length sc, .slice ta x.gones.length tc, .int .i64 x.lost]) x) := ⟨⟨_, _, _, rfl, hu0.below DR, hu1.below keepsMail DR, hu2.below keepsGone DR, i0, i1, i2, i3⟩, ⟨_, _, _, rfl, hu3.below DR, hu4.below keepsMail DR, hu5.below keepsGone DR, j0, j1, j2, j3⟩⟩
      go_wp2
      go_region_held3 (fun w' => w'.cell? ⟨b, off + k * 7, none⟩ = some (.slice ua un uc) ∧ w'.cell? ⟨b, off + k * 7 + 1, none⟩ = some (.int .i64 x.valid) ∧ w'.cell? ⟨b, off + k * 7 + 2, none⟩ = some (.int .i64 x.next) ∧ w'.cell? ⟨b, off + k * 7 + 3, none⟩ = some (.int .i64 x.seq) ∧ w'.cell? ⟨b, off + k * 7 + 4, none⟩ = some (.slice va x.mails.length vc) ∧ w'.cell? ⟨b, off + k * 7 + 5, none⟩ = some (.slice wa x.gones.length wc) ∧ w'.cell? ⟨b, off + k * 7 + 6, none⟩ = some (.int .i64 x.lost) ∧ w'.cell? ⟨b2, off2 + k * 7, none⟩ = some (.slice ra rn rc) ∧ w'.cell? ⟨b2, off2 + k * 7 + 1, none⟩ = some (.int .i64 x.valid) ∧ w'.cell? ⟨b2, off2 + k * 7 + 2, none⟩ = some (.int .i64 x.next) ∧ w'.cell? ⟨b2, off2 + k * 7 + 3, none⟩ = some (.int .i64 x.seq) ∧ w'.cell? ⟨b2, off2 + k * 7 + 4, none⟩ = some (.slice sa x.mails.length sc) ∧ w'.cell? ⟨b2, off2 + k * 7 + 5, none⟩ = some (.slice ta x.gones.length tc) ∧ w'.cell? ⟨b2, off2 + k * 7 + 6, none⟩ = some (.int .i64 x.lost))
        (first | go_keep | exact ⟨d0, d1, d2, d3, d4, d5, d6, z0, z1, z2, z3, z4, z5, z6⟩ | exact ⟨(B.cell (p := ⟨_, _, none⟩) (by exact hlb)).trans d0, (B.cell (p := ⟨_, _, none⟩) (by exact hlb)).trans d1, (B.cell (p := ⟨_, _, none⟩) (by exact hlb)).trans d2, (B.cell (p := ⟨_, _, none⟩) (by exact hlb)).trans d3, (B.cell (p := ⟨_, _, none⟩) (by exact hlb)).trans d4, (B.cell (p := ⟨_, _, none⟩) (by exact hlb)).trans d5, (B.cell (p := ⟨_, _, none⟩) (by exact hlb)).trans d6, (B.cell (p := ⟨_, _, none⟩) (by exact hlb2)).trans z0, (B.cell (p := ⟨_, _, none⟩) (by exact hlb2)).trans z1, (B.cell (p := ⟨_, _, none⟩) (by exact hlb2)).trans z2, (B.cell (p := ⟨_, _, none⟩) (by exact hlb2)).trans z3, (B.cell (p := ⟨_, _, none⟩) (by exact hlb2)).trans z4, (B.cell (p := ⟨_, _, none⟩) (by exact hlb2)).trans z5, (B.cell (p := ⟨_, _, none⟩) (by exact hlb2)).trans z6⟩)
        ((go_at_call 39; refine (eqBox_yes _ _ x _ HA.out.1 HA.out.2).mono ?_; rintro e w1 ⟨rfl, B⟩))
      have HB2 : Hid (Below w.heap.size w w1) := Below.step (Below.step hB.out DR) B
      clear d0 d1 d2 d3 d4 d5 d6 z0 z1 z2 z3 z4 z5 z6 B hB
      go_wp2
      go_roundw
      case rel => exact ⟨k + 1, by omega, by go_num, HB2⟩
      case measure => simp [intOf]; omega
    · go_wp2
      go_ret
      exact ⟨rfl, hB.out⟩

set_option maxRecDepth 100000 in
set_option maxHeartbeats 1000000 in
theorem eqAccount_yes (v u : Value) (x : AccD) (w : World) (hv : AccV w v x) (hu : AccV w u x) :
    Calls Try.prog 9 #[v, u] w fun e w' => e = .returned (.bool true) ∧ Below w.heap.size w w' := by
  obtain ⟨u0, u1, rfl, g0, g1, -⟩ := hv
  obtain ⟨u2, u3, rfl, g2, g3, -⟩ := hu
  obtain ⟨valid, boxes, seen⟩ := x
  simp only at g0 g1 g2 g3
  have H0 : Hid (∀ wi, Below w.heap.size w wi → (BoxesV wi u0 boxes ∧ BoxesV wi u2 boxes) ∧ (IntsV wi u1 seen ∧ IntsV wi u3 seen)) := fun wi h => ⟨⟨g0.below keepsBox h, g2.below keepsBox h⟩, ⟨g1.below keepsInt h, g3.below keepsInt h⟩⟩
  obtain ⟨a0, c0, rfl, -⟩ := g0.form
  obtain ⟨a1, c1, rfl, -⟩ := g1.form
  obtain ⟨a2, c2, rfl, -⟩ := g2.form
  obtain ⟨a3, c3, rfl, -⟩ := g3.form
  clear g0 g1 g2 g3
  simp only
  obtain ⟨kA, kB, X⟩ := boxes2 w (.cells #[.int .i64 valid, .slice a0 boxes.length c0, .slice a1 seen.length c1] 32) (.cells #[.int .i64 valid, .slice a2 boxes.length c2, .slice a3 seen.length c3] 32)
  go_enter Try.func9, Try.ntmps9
  go_wp2_with fail
  refine (eqBoxS_yes _ _ boxes _ (H0.out _ X).1.1 (H0.out _ X).1.2).mono ?_
  rintro e w1 ⟨rfl, B⟩
  replace X := Below.step X B
  replace kA := box_below B kA
  replace kB := box_below B kB
  clear B
  obtain ⟨f0, f1, f2⟩ := bx3 kA
  obtain ⟨e0, e1, e2⟩ := bx3 kB
  go_wp2_with fail
  clear f0 e0 f1 e1 f2 e2
  refine (eqIntS_yes _ _ seen _ (H0.out _ X).2.1 (H0.out _ X).2.2).mono ?_
  rintro e w2 ⟨rfl, B⟩
  replace X := Below.step X B
  replace kA := box_below B kA
  replace kB := box_below B kB
  clear B
  obtain ⟨f0, f1, f2⟩ := bx3 kA
  obtain ⟨e0, e1, e2⟩ := bx3 kB
  go_wp2
  go_ret
  exact ⟨rfl, X⟩

end Go.Proofs.Ytjdcjhboipileab

/- One element of a list of the call's own is written anew. -/
namespace Go.Proofs.Ytjdcjhboipileab
open Go.RowKit

/-- What is known of element i, and what gives the list back behind a write to it. -/
theorem Ow.upd {α : Type} {t : TypeId} {sz : Nat} {E : World → List Value → α → (Nat → Prop) → Prop} {w : World} {S : Nat → Prop} {v : Value} {l : List α} (hE : Frames E) (h : Ow t sz E w S v l) (i : Nat) (x : α) (hx : l[i]? = some x) :
    ∃ (g cap : Nat) (cur : Array Value) (c : List Value) (f : Nat → Prop), v = .slice (some ⟨g, 0, none⟩) l.length cap ∧ l.length ≤ cap ∧ cap ≤ maxLen ∧ w.heap[g]? = some (.cells cur t (0, 0)) ∧ i * sz + sz ≤ cur.size ∧ S g ∧ E w c x f ∧ c.length = sz ∧
      (∀ j u, c[j]? = some u → cur[i * sz + j]? = some u) ∧ (∀ b, f b → S b ∧ b ≠ g) ∧
      ∀ (w' : World) (cur' : Array Value) (c' : List Value) (x' : α), w'.heap[g]? = some (.cells cur' t (0, 0)) → cur'.size = cur.size → (∀ j u, c'[j]? = some u → cur'[i * sz + j]? = some u) → (∀ m, m < i * sz ∨ i * sz + sz ≤ m → cur'[m]? = cur[m]?) → c'.length = sz →
        (∀ b, S b → b ≠ g → ¬ f b → b < w.heap.size → w'.heap[b]? = w.heap[b]?) → E w' c' x' f → Ow t sz E w' S v (l.set i x') := by
  have hi : i < l.length := (List.getElem?_eq_some_iff.1 hx).1
  rcases h with ⟨-, rfl⟩ | ⟨g, cap, cur, cs, fs, hv, hh, h1, h2, h3, h4, h5, h6, h7⟩
  · simp at hi
  · obtain ⟨e1, e2, e3⟩ := h5 i x hx
    have hroom : i * sz + sz ≤ cur.size := by
      have := Nat.mul_le_mul_right sz (show i + 1 ≤ cap by omega)
      rw [Nat.add_mul, Nat.one_mul] at this
      omega
    refine ⟨g, cap, cur, cs i, fs i, hv, h1, h2, hh, hroom, h4, e1, e2, e3, fun b hb => h6 i b hi hb, ?_⟩
    intro w' cur' c' x' k1 k2 k3 k4 k5 k6 k7
    refine .inr ⟨g, cap, cur', fun n => if n = i then c' else cs n, fs, by rw [List.length_set]; exact hv, k1, by rw [List.length_set]; exact h1, h2, by omega, h4, fun n y hy => ?_, by rw [List.length_set]; exact h6, by rw [List.length_set]; exact h7⟩
    by_cases hni : n = i
    · subst hni
      rw [List.getElem?_set_self hi] at hy
      cases hy
      simp only [if_true]
      exact ⟨k7, k5, k3⟩
    · rw [List.getElem?_set_ne (fun e => hni e.symm)] at hy
      simp only [if_neg hni]
      have hn : n < l.length := (List.getElem?_eq_some_iff.1 hy).1
      obtain ⟨q1, q2, q3⟩ := h5 n y hy
      refine ⟨hE _ _ _ _ _ q1 fun b hb hlt => k6 b (h6 n b hn hb).1 (h6 n b hn hb).2 (fun hf => h7 n i b hn hi hni hb hf) hlt, q2, fun j u hu => ?_⟩
      have hj : j < sz := by have := (List.getElem?_eq_some_iff.1 hu).1; omega
      rw [k4]
      · exact q3 j u hu
      · rcases Nat.lt_or_gt_of_ne hni with hlt | hgt
        · have := Nat.mul_le_mul_right sz (show n + 1 ≤ i by omega)
          rw [Nat.add_mul, Nat.one_mul] at this
          exact .inl (by omega)
        · have := Nat.mul_le_mul_right sz (show i + 1 ≤ n by omega)
          rw [Nat.add_mul, Nat.one_mul] at this
          exact .inr (by omega)

end Go.Proofs.Ytjdcjhboipileab

/- Rows of rows ([][]byte): what one reads as, one of the call's own, its rows apart from each other. -/
namespace Go.Proofs.Ytjdcjhboipileab
open Go.RowKit

/-- The sum of the first sizes. -/
def pre (m : Nat → Nat) : Nat → Nat
  | 0 => 0
  | j + 1 => pre m j + m j
theorem pre_mono (m : Nat → Nat) {i j : Nat} (h : i ≤ j) : pre m i ≤ pre m j := by
  induction j with
  | zero => simp at h; subst h; exact Nat.le_refl _
  | succ j ih =>
    by_cases hj : i = j + 1
    · subst hj; exact Nat.le_refl _
    · have := ih (by omega); simp only [pre]; omega
theorem pre_congr {m m' : Nat → Nat} {n : Nat} (h : ∀ i, i < n → m i = m' i) : pre m n = pre m' n := by
  induction n with
  | zero => rfl
  | succ n ih => simp only [pre]; rw [ih (fun i hi => h i (by omega)), h n (by omega)]

/-- The slice value v reads as n rows of bytes: the i-th is f i. -/
def SsF (w : World) (v : Value) (n : Nat) (f : Nat → List Int) : Prop :=
  ∃ a cap, ∃ us : Nat → Value, v = .slice a n cap ∧ n ≤ cap ∧ cap ≤ maxLen ∧
    (0 < n → ∃ b off, a = some ⟨b, off, none⟩ ∧ b < w.heap.size ∧ ∀ i, i < n → w.cell? ⟨b, off + i, none⟩ = some (us i)) ∧ ∀ i, i < n → Bs w (us i) (f i)

theorem SsF.below {w w' : World} {v : Value} {n : Nat} {f : Nat → List Int} (h : SsF w v n f) (hb : Below w.heap.size w w') : SsF w' v n f := by
  obtain ⟨a, cap, us, hv, h1, h2, h3, h4⟩ := h
  refine ⟨a, cap, us, hv, h1, h2, fun hp => ?_, fun i hi => (h4 i hi).below hb⟩
  obtain ⟨b, off, ha, hlt, hc⟩ := h3 hp
  exact ⟨b, off, ha, Nat.lt_of_lt_of_le hlt hb.size, fun i hi => (hb.cell (p := ⟨b, off + i, none⟩) hlt).trans (hc i hi)⟩
theorem SsF.form3 {w : World} {v : Value} {n : Nat} {f : Nat → List Int} (h : SsF w v n f) : ∃ a m cap, v = .slice a m cap := by obtain ⟨a, cap, _, h, _⟩ := h; exact ⟨a, _, cap, h⟩
theorem SsF.congr {w : World} {v : Value} {n : Nat} {f g : Nat → List Int} (h : SsF w v n f) (e : ∀ i, i < n → f i = g i) : SsF w v n g := by
  obtain ⟨a, cap, us, hv, h1, h2, h3, h4⟩ := h
  exact ⟨a, cap, us, hv, h1, h2, h3, fun i hi => by rw [← e i hi]; exact h4 i hi⟩

/-- The row of rows v with the slices us is the call's own, in blocks from B on and below T, no two in one; the i-th row's bytes are f i. -/
structure RowF (w : World) (B T : Nat) (v : Value) (us : List Value) (f : Nat → List Int) : Prop where
  row : w.ownsRow B 27 1 v us.length us
  top : ∀ g, v.ownBlock = some g → g < T
  rows : ∀ (i : Nat) (u : Value), us[i]? = some u → Row w B T u (f i)
  distinct : ∀ (i j : Nat) (u u' : Value) (g : Nat), us[i]? = some u → us[j]? = some u' → u.ownBlock = some g → u'.ownBlock = some g → i = j

/-- The rows of a list. -/
def RowS (w : World) (B T : Nat) (v : Value) (ls : List (List Int)) : Prop := ∃ us : List Value, us.length = ls.length ∧ RowF w B T v us (fun i => ls.getD i [])

theorem Row.heap {w : World} {B T g : Nat} {v : Value} {l : List Int} (h : Row w B T v l) (hg : v.ownBlock = some g) : ∃ cur, w.heap[g]? = some (.cells cur 5 (0, 0)) := by
  rcases h.2.1.2 with ⟨hn, _⟩ | ⟨k, cap, cur, hv, _, hh, _⟩
  · rw [hn] at hg; simp [Value.ownBlock] at hg
  · rw [hv] at hg; simp [Value.ownBlock] at hg; subst hg; exact ⟨cur, hh⟩
theorem ownsRow_heap {w : World} {B g n : Nat} {e : TypeId} {v : Value} {xs : List Value} (h : w.ownsRow B e 1 v n xs) (hg : v.ownBlock = some g) : ∃ cur, w.heap[g]? = some (.cells cur e (0, 0)) := by
  rcases h.2 with ⟨hn, _⟩ | ⟨k, cap, cur, hv, _, hh, _⟩
  · rw [hn] at hg; simp [Value.ownBlock] at hg
  · rw [hv] at hg; simp [Value.ownBlock] at hg; subst hg; exact ⟨cur, hh⟩
/-- A row of bytes and a row of slices never lie in one block. -/
theorem apart_types {w : World} {B B' T n : Nat} {v u : Value} {xs : List Value} {l : List Int} (h : w.ownsRow B 27 1 v n xs) (hu : Row w B' T u l) : u.ownBlock = none ∨ u.ownBlock ≠ v.ownBlock := by
  cases hg : u.ownBlock with
  | none => exact .inl rfl
  | some g =>
    refine .inr fun e => ?_
    obtain ⟨c1, h1⟩ := ownsRow_heap h e.symm
    obtain ⟨c2, h2⟩ := hu.heap hg
    rw [h1] at h2
    simp at h2

theorem ownsRow_below {w w' : World} {B n : Nat} {e : TypeId} {v : Value} {xs : List Value} (h : w.ownsRow B e 1 v n xs) (hb : Below w.heap.size w w') : w'.ownsRow B e 1 v n xs := by
  refine ⟨h.1, ?_⟩
  rcases h.2 with hn | ⟨g, cap, cur, hv, hg, hh, r⟩
  · exact .inl hn
  · exact .inr ⟨g, cap, cur, hv, hg, (hb.block g (lt_of_heap hh)).trans hh, r⟩
theorem ownsRow_keptW {w w' : World} {B T B' T' n : Nat} {e : TypeId} {v : Value} {xs : List Value} (h : w.ownsRow B e 1 v n xs) (ht : ∀ g, v.ownBlock = some g → g < T) (hw : Within B' T' w w') (hd : T ≤ B' ∨ T' ≤ B) : w'.ownsRow B e 1 v n xs := by
  refine ⟨h.1, ?_⟩
  rcases h.2 with hn | ⟨g, cap, cur, hv, hg, hh, r⟩
  · exact .inl hn
  · have hlt : g < T := ht g (by rw [hv]; rfl)
    exact .inr ⟨g, cap, cur, hv, hg, (hw.block g (lt_of_heap hh) (by omega)).trans hh, r⟩
theorem ownsRow_wide {w : World} {B B' n : Nat} {e : TypeId} {v : Value} {xs : List Value} (h : w.ownsRow B e 1 v n xs) (hB : B' ≤ B) : w.ownsRow B' e 1 v n xs := by
  refine ⟨h.1, ?_⟩
  rcases h.2 with hn | ⟨g, cap, cur, hv, hg, r⟩
  · exact .inl hn
  · exact .inr ⟨g, cap, cur, hv, Nat.le_trans hB hg, r⟩

theorem RowF.below {w w' : World} {B T : Nat} {v : Value} {us : List Value} {f : Nat → List Int} (h : RowF w B T v us f) (hb : Below w.heap.size w w') : RowF w' B T v us f :=
  ⟨ownsRow_below h.row hb, h.top, fun i u hu => (h.rows i u hu).below hb, h.distinct⟩
theorem RowF.keptW {w w' : World} {B T B' T' : Nat} {v : Value} {us : List Value} {f : Nat → List Int} (h : RowF w B T v us f) (hw : Within B' T' w w') (hd : T ≤ B' ∨ T' ≤ B) : RowF w' B T v us f :=
  ⟨ownsRow_keptW h.row h.top hw hd, h.top, fun i u hu => (h.rows i u hu).keptW hw hd, h.distinct⟩
theorem RowF.wide {w : World} {B T B' T' : Nat} {v : Value} {us : List Value} {f : Nat → List Int} (h : RowF w B T v us f) (hB : B' ≤ B) (hT : T ≤ T') : RowF w B' T' v us f :=
  ⟨ownsRow_wide h.row hB, fun g hg => Nat.lt_of_lt_of_le (h.top g hg) hT, fun i u hu => (h.rows i u hu).wide hB hT, h.distinct⟩
theorem RowF.congr {w : World} {B T : Nat} {v : Value} {us : List Value} {f g : Nat → List Int} (h : RowF w B T v us f) (e : ∀ i, i < us.length → f i = g i) : RowF w B T v us g :=
  ⟨h.row, h.top, fun i u hu => by rw [← e i (List.getElem?_eq_some_iff.1 hu).1]; exact h.rows i u hu, h.distinct⟩
theorem RowF.nil (w : World) (B T : Nat) (f : Nat → List Int) : RowF w B T (.slice none 0 0) [] f :=
  ⟨World.ownsRow_nil _ _ _ _, fun g hg => by simp [Value.ownBlock] at hg, fun i u hu => by simp at hu, fun i j u u' g hu => by simp at hu⟩
/-- One of the rows was written. -/
theorem RowF.wrote {w w' : World} {B T i : Nat} {v u : Value} {us : List Value} {f : Nat → List Int} {l : List Int} (h : RowF w B T v us f) (hu : us[i]? = some u) (hg : w.grownBy w' u.ownBlock) (hr : Row w' B T u l) : RowF w' B T v us (fun j => if j = i then l else f j) := by
  have hri := h.rows i u hu
  refine ⟨h.row.kept hg ?_, h.top, fun j u' hu' => ?_, h.distinct⟩
  · cases hv : v.ownBlock with
    | none => exact .inl rfl
    | some g =>
      refine .inr fun e => ?_
      rcases apart_types h.row hri with h1 | h1
      · rw [h1] at e; simp at e
      · exact h1 (by rw [hv]; exact e.symm)
  · by_cases hj : j = i
    · subst hj
      rw [hu] at hu'
      cases hu'
      simpa using hr
    · simp only [if_neg hj]
      have hrj := h.rows j u' hu'
      refine ⟨hrj.1, hrj.2.1.kept hg ?_, hrj.2.2⟩
      cases hv : u'.ownBlock with
      | none => exact .inl rfl
      | some g => exact .inr fun e => hj (h.distinct j i u' u g hu' hu hv e.symm)
/-- What was written lies within the rows' blocks. -/
theorem RowF.within {w w' : World} {B T i : Nat} {v u : Value} {us : List Value} {f : Nat → List Int} (h : RowF w B T v us f) (hu : us[i]? = some u) (hg : w.grownBy w' u.ownBlock) : Within B T w w' := (h.rows i u hu).within hg

theorem RowF.ss {w : World} {B T : Nat} {v : Value} {us : List Value} {f : Nat → List Int} (h : RowF w B T v us f) : SsF w v us.length f := by
  rcases h.row.2 with ⟨hn, hz⟩ | ⟨g, cap, cur, hv, hg, hh, h1, h2, h3, h4⟩
  · have : us = [] := List.eq_nil_of_length_eq_zero hz
    subst this
    exact ⟨none, 0, fun _ => .slice none 0 0, hn, by simp, by simp, fun hp => by simp at hp, fun i hi => by simp at hi⟩
  · refine ⟨_, cap, fun i => us.getD i (.slice none 0 0), hv, h1, h2, fun hp => ⟨g, 0, rfl, lt_of_heap hh, fun i hi => ?_⟩, fun i hi => ?_⟩
    · rw [Nat.zero_add, cell_of_row w g i cur 27 (0, 0) hh]
      rw [Nat.mul_one] at h4
      have e : us[i]? = some (us.getD i (.slice none 0 0)) := by simp [hi]
      rw [← h4, List.getElem?_take, if_pos hi] at e
      rw [h4] at e
      simpa using e
    · have e : us[i]? = some (us.getD i (.slice none 0 0)) := by simp [hi]
      exact (h.rows i _ e).bs

/-- One more row was appended: the slices' row has grown, a new row stands behind. -/
theorem RowF.snoc {w w' : World} {B T T' : Nat} {v v' u : Value} {us : List Value} {f : Nat → List Int} {l : List Int} (h : RowF w B T v us f) (hu : Row w T T' u l) (hT : T ≤ T') (hB : B ≤ T) (hr : w'.ownsRow B 27 1 v' (us.length + 1) (us ++ [u])) (hg : w.grownBy w' v.ownBlock) :
    RowF w' B (max T' w'.heap.size) v' (us ++ [u]) (fun j => if j = us.length then l else f j) := by
  have keep : ∀ {x : Value} {k : List Int} {B0 T0 : Nat}, Row w B0 T0 x k → Row w' B0 T0 x k := fun {x} {k} {B0} {T0} hx => by
    refine ⟨hx.1, hx.2.1.kept hg ?_, hx.2.2⟩
    exact apart_types h.row hx
  refine ⟨by simpa using hr, fun g hg' => Nat.lt_of_lt_of_le (hr.lt g hg').2 (Nat.le_max_right _ _), fun i x hx => ?_, fun i j x x' g hx hx' hgx hgx' => ?_⟩
  · by_cases hi : i < us.length
    · rw [List.getElem?_append_left hi] at hx
      simp only [if_neg (show ¬ i = us.length by omega)]
      exact (keep (h.rows i x hx)).wide (Nat.le_refl _) (Nat.le_trans hT (Nat.le_max_left _ _))
    · rw [List.getElem?_append_right (by omega)] at hx
      have h0 : i - us.length = 0 := by
        by_cases h0 : i - us.length = 0
        · exact h0
        · rw [List.getElem?_eq_none (by simp; omega)] at hx; simp at hx
      have hi' : i = us.length := by omega
      rw [h0] at hx
      simp at hx
      subst hx
      simp only [if_pos hi']
      exact (keep hu).wide hB (Nat.le_max_left _ _)
  · have last : ∀ {i : Nat} {x : Value}, (us ++ [u])[i]? = some x → (i < us.length ∧ us[i]? = some x) ∨ (i = us.length ∧ x = u) := fun {i} {x} hx => by
      by_cases hi : i < us.length
      · rw [List.getElem?_append_left hi] at hx; exact .inl ⟨hi, hx⟩
      · rw [List.getElem?_append_right (by omega)] at hx
        by_cases h0 : i - us.length = 0
        · rw [h0] at hx; simp at hx; exact .inr ⟨by omega, hx.symm⟩
        · rw [List.getElem?_eq_none (by simp; omega)] at hx; simp at hx
    rcases last hx with ⟨hi, hy⟩ | ⟨hi, hy⟩ <;> rcases last hx' with ⟨hj, hy'⟩ | ⟨hj, hy'⟩
    · exact h.distinct i j x x' g hy hy' hgx hgx'
    · have h1 := (h.rows i x hy).2.2 g hgx
      rw [hy'] at hgx'
      have h2 := (hu.2.1.lt g hgx').1
      omega
    · have h1 := (h.rows j x' hy').2.2 g hgx'
      rw [hy] at hgx
      have h2 := (hu.2.1.lt g hgx).1
      omega
    · omega

theorem RowS.below {w w' : World} {B T : Nat} {v : Value} {ls : List (List Int)} (h : RowS w B T v ls) (hb : Below w.heap.size w w') : RowS w' B T v ls := let ⟨us, e, h⟩ := h; ⟨us, e, h.below hb⟩
theorem RowS.keptW {w w' : World} {B T B' T' : Nat} {v : Value} {ls : List (List Int)} (h : RowS w B T v ls) (hw : Within B' T' w w') (hd : T ≤ B' ∨ T' ≤ B) : RowS w' B T v ls := let ⟨us, e, h⟩ := h; ⟨us, e, h.keptW hw hd⟩
theorem RowS.wide {w : World} {B T B' T' : Nat} {v : Value} {ls : List (List Int)} (h : RowS w B T v ls) (hB : B' ≤ B) (hT : T ≤ T') : RowS w B' T' v ls := let ⟨us, e, h⟩ := h; ⟨us, e, h.wide hB hT⟩
theorem RowS.nil (w : World) (B T : Nat) : RowS w B T (.slice none 0 0) [] := ⟨[], rfl, RowF.nil _ _ _ _⟩
theorem RowS.ss {w : World} {B T : Nat} {v : Value} {ls : List (List Int)} (h : RowS w B T v ls) : SsF w v ls.length (fun i => ls.getD i []) := by
  obtain ⟨us, e, h⟩ := h; rw [← e]; exact h.ss
theorem RowS.snoc {w w' : World} {B T T' : Nat} {v v' u : Value} {us : List Value} {ls : List (List Int)} {l : List Int} (he : us.length = ls.length) (h : RowF w B T v us (fun i => ls.getD i [])) (hu : Row w T T' u l) (hT : T ≤ T') (hB : B ≤ T) (hr : w'.ownsRow B 27 1 v' (us.length + 1) (us ++ [u])) (hg : w.grownBy w' v.ownBlock) (hm : T' ≤ w'.heap.size) :
    RowS w' B w'.heap.size v' (ls ++ [l]) := by
  have h2 := h.snoc hu hT hB hr hg
  rw [Nat.max_eq_right hm] at h2
  refine ⟨us ++ [u], by simp [he], h2.congr fun i hi => ?_⟩
  simp only [List.length_append, List.length_singleton] at hi
  by_cases h1 : i = us.length
  · subst h1; simp [he]
  · simp only [if_neg h1]
    have : i < ls.length := by omega
    simp [List.getElem?_append_left this]

end Go.Proofs.Ytjdcjhboipileab
