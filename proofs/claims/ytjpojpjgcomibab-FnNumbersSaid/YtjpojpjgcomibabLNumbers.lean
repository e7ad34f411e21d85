/- The law FnNumbers, walked out of the contracts. -/
import Derived.Test.YtjpojpjgcomibabDraw3
import Derived.Test.YtjpojpjgcomibabDraw5
import Derived.Test.YtjpojpjgcomibabSame
import Derived.Test.YtjpojpjgcomibabLibTrip
import Derived.Test.YtjpojpjgcomibabIPutText
import Derived.Test.YtjpojpjgcomibabIGetText
import Derived.Deep.DeepCutAuto
import Derived.Deep.RegionHeld3
namespace Go.Proofs.Ytjpojpjgcomibab
open Go.RowKit

theorem slice_of {w : World} {v : Value} {l : List Int} (h : Bs w v l) : ∃ a cap, v = .slice a l.length cap := by obtain ⟨_, a, cap, h, _⟩ := h; exact ⟨a, cap, h⟩

theorem bs_prefix {w : World} {a : Option Addr} {cap : Nat} {l : List Int} (h : Bs w (.slice a l.length cap) l) (n : Nat) (hn : n ≤ l.length) : Bs w (.slice a n cap) (l.take n) := by
  obtain ⟨ho, a', cap', hv, h1, h2, h3, h4⟩ := h
  simp only [Value.slice.injEq] at hv
  obtain ⟨rfl, -, rfl⟩ := hv
  have hl : (l.take n).length = n := by simp; omega
  refine ⟨oct_take ho n, a, cap, by rw [hl], by rw [hl]; omega, h2, h3, fun hp => ?_⟩
  rw [hl] at hp
  obtain ⟨b, off, e, hlt, hc⟩ := h4 (by omega)
  refine ⟨b, off, e, hlt, fun i hi => ?_⟩
  rw [hl] at hi
  rw [hc i (by omega)]
  simp [hi]

set_option maxRecDepth 100000 in
set_option maxHeartbeats 1000000 in
theorem numbers_walk (v : Value) (L : List Int) (w : World) (hv : Bs w v L) :
    Calls Try.prog 3 #[v] w fun e w' => e = .returned (.bool true) ∧ Below w.heap.size w w' := by
  have HV : Hid (∀ wi, Below w.heap.size w wi → Bs wi v L) := fun wi h => hv.below h
  obtain ⟨i0, hi, hz0, hz1, hz2⟩ := info_parts info5
  clear hv
  go_enter Try.func3, Try.ntmps3
  go_wp2_with fail
  refine (drawPutNum_any v L _ (HV.out _ (Below.refl _ _))).mono ?_
  rintro e w1 ⟨u, l, n, rfl, hl, hn0, hn1, R, X⟩
  obtain ⟨a1, c1, rfl⟩ := slice_of R.bs
  have sX := X.size
  go_wp2_with fail
  refine (implPutNum_r _ l n _ R.bs (by omega) hn0 hn1).mono ?_
  rintro e w2 ⟨x, rfl, R2, B⟩
  have HO : Hid (OwnB w2 w1.heap.size x (putL l n)) := R2.own
  obtain ⟨a2, c2, rfl⟩ := slice_of R2.bs
  have hp := putL_length l n
  have sB := B.size
  replace X := Below.step X B
  clear R R2 B
  go_wp2_with (at_builtin; refine wpList_append_bytes rfl (.tmp 26) (.tmp 27) 22 rfl i0 Try.underlying22 hi hz0 hz1 hz2 w1.heap.size _ (putL l n) rfl (HO.out.alloc _) _ [7] rfl (bs_one _ _ (by omega)) (by simp; omega) (by simp; omega) w2 ((Below.refl _ _).alloc sB _) ?_)
  intro v3 w3 hO3 hB3 _
  replace X := X.trans (hB3.mono (by omega))
  have HB : Hid (Bs w3 v3 (putL l n ++ [7])) := hO3.bs
  clear hO3 HO hB3
  go_wp2_with fail
  refine (implGetNum_any _ (putL l n ++ [7]) l.length _ HB.out (by simp; omega) (by omega) (by omega)).mono ?_
  rintro e w4 ⟨rfl, B⟩
  replace X := Below.step X B
  have HG : Hid (0 ≤ n → n ≤ 2147483647 → getL (putL l n ++ [7]) l.length = (n, ((putL l n).length : Int))) := by
    intro h0 h1
    have e : putL l n = l ++ enc 4 n := by unfold putL; rw [if_pos ⟨h0, h1⟩]
    rw [e]; exact get_put l [7] n h0 h1
  generalize getL (putL l n ++ [7]) (l.length : Int) = G at HG
  generalize hPL : (putL l n).length = K at *
  obtain ⟨m, next⟩ := G
  clear HB B hPL
  have hw : (n < 0 ∨ 2147483647 < n) ∨ ((0 ≤ n ∧ n ≤ 2147483647) ∧ m = n ∧ next = (K : Int)) := by
    by_cases h0 : 0 ≤ n
    · by_cases h1 : n ≤ 2147483647
      · right
        have := HG.out h0 h1
        simp only [Prod.mk.injEq] at this
        exact ⟨⟨h0, h1⟩, this⟩
      · left; right; omega
    · left; left; omega
  clear HG
  have HW : Hid ((n < 0 ∨ 2147483647 < n) ∨ ((0 ≤ n ∧ n ≤ 2147483647) ∧ m = n ∧ next = (K : Int))) := hw
  clear hw
  go_upto_region 4 with fail
  go_cut [50] (fun s wx => s = .bool false ∧ wx = w4)
  case first =>
    rcases HW.out with (hw | hw) | ⟨⟨hw, hw'⟩, rfl, rfl⟩
    all_goals
      go_wp2
      go_meet
      case rel => exact ⟨rfl, rfl⟩
  case rest =>
    obtain ⟨rfl, rfl⟩ := hcut
    clear HW
    go_wp2_with fail
    refine (drawPutText_any v L _ (HV.out _ X)).mono ?_
    rintro e w5 ⟨u5, c, u5', t, rfl, hc, ht, R5, R5', B⟩
    replace X := Below.step X B
    obtain ⟨a5, c5, rfl⟩ := slice_of R5.bs
    obtain ⟨a5', c5', rfl⟩ := slice_of R5'.bs
    clear B
    go_wp2_with fail
    refine (implPutText_r _ _ c t _ R5.bs R5'.bs (by omega) (by omega)).mono ?_
    rintro e w6 ⟨y, rfl, R6, B⟩
    replace X := Below.step X B
    replace R5' := R5'.below B
    obtain ⟨a6, c6, rfl⟩ := slice_of R6.bs
    have hpt := putTL_length c t
    clear B R5
    go_wp2_with fail
    refine (implGetText_r _ (putTL c t) c.length _ R6.bs (by omega) (by omega) (by omega)).mono ?_
    rintro e w7 ⟨u7, rfl, R7, B⟩
    replace X := Below.step X B
    replace R5' := R5'.below B
    have HT : Hid (t.length ≤ 30 → getTL (putTL c t) c.length = (t, ((putTL c t).length : Int))) := getT_putT c t
    generalize getTL (putTL c t) (c.length : Int) = GT at HT R7
    generalize hKT : (putTL c t).length = KT at *
    obtain ⟨gt, ge⟩ := GT
    simp only at R7
    clear R6 B hKT
    have HTW : Hid (¬ t.length ≤ 30 ∨ (t.length ≤ 30 ∧ gt = t ∧ ge = (KT : Int))) := by
      by_cases h : t.length ≤ 30
      · right
        have := HT.out h
        simp only [Prod.mk.injEq] at this
        exact ⟨h, this⟩
      · left; exact h
    clear HT
    go_upto_region 9 with fail
    go_cut [80] (fun s wx => s = .bool false ∧ Below w.heap.size w wx)
    case first =>
      rcases HTW.out with htw | ⟨htw, rfl, rfl⟩
      · have htw' : ¬ (t.length : Int) ≤ 30 := by omega
        go_wp2
        go_meet
        case rel => exact ⟨rfl, X⟩
      · go_wp2_with fail
        refine (sameBytes_yes _ _ gt _ R7.bs R5'.bs).mono ?_
        rintro e w8 ⟨rfl, B⟩
        replace X := Below.step X B
        clear B R7 R5'
        go_wp2
        go_meet
        case rel => exact ⟨rfl, X⟩
    case rest =>
      obtain ⟨rfl, X9⟩ := hcut
      clear HTW R7 R5' X
      go_wp2_with fail
      refine (drawGetNum_any v L _ (HV.out _ X9)).mono ?_
      rintro e w9 ⟨u9, q, fr, rfl, hq, hf0, hf1, R9, B⟩
      replace X9 := Below.step X9 B
      obtain ⟨a9, c9, rfl⟩ := slice_of R9.bs
      clear B
      go_wp2_with fail
      refine (implGetNum_any _ q fr _ R9.bs (by omega) hf0 hf1).mono ?_
      rintro e w10 ⟨rfl, B⟩
      replace X9 := Below.step X9 B
      replace R9 := R9.below B
      clear B
      have HP : Hid (∀ k stop, getL q fr = (k, stop) → 0 ≤ stop → 0 ≤ fr ∧ fr ≤ stop ∧ stop ≤ q.length ∧ putL (q.take fr.toNat) k = q.take stop.toNat) := fun k stop h hs => put_get q fr k stop R9.oct h hs
      have hbd := getL_bd q fr
      generalize getL q fr = G9 at HP hbd
      obtain ⟨k, stop⟩ := G9
      simp only at hbd
      have hkb : -9223372036854775808 ≤ k ∧ k ≤ 9223372036854775807 := by
        rcases hbd with h | h
        · simp only [Prod.mk.injEq] at h; omega
        · omega
      clear hbd
      obtain ⟨hk0, hk1⟩ := hkb
      by_cases hst : stop < 0
      · have hsd : decide (stop < 0) = true := by simp [hst]
        clear R9 HP
        go_wp2
        go_quiet (fail)
        go_wp2
        go_ret
        exact ⟨rfl, below_drewN _ X9⟩
      · have hsd : decide (stop < 0) = false := by simp [hst]
        obtain ⟨p1, p2, p3, p4⟩ := HP.out k stop rfl (by omega)
        obtain ⟨F, rfl⟩ := Int.eq_ofNat_of_zero_le p1
        obtain ⟨T, rfl⟩ := Int.eq_ofNat_of_zero_le (show 0 ≤ stop by omega)
        rw [Int.toNat_natCast, Int.toNat_natCast] at p4
        have HP4 : Hid (putL (q.take F) k = q.take T) := p4
        have hcap : q.length ≤ c9 := by
          obtain ⟨_, a', cap', h1, h2, _⟩ := R9.bs
          simp only [Value.slice.injEq] at h1
          obtain ⟨-, -, rfl⟩ := h1
          exact h2
        have hF1 : (F : Int) ≤ (c9 : Int) := by omega
        have hT1 : (T : Int) ≤ (c9 : Int) := by omega
        have hF0 : (0 : Int) ≤ (F : Int) := by omega
        have hT0 : (0 : Int) ≤ (T : Int) := by omega
        have HF : Hid (Bs w10.drew (.slice a9 F c9) (q.take F)) := (bs_prefix R9.bs F (by omega)).below (Below.refl _ _).drew
        have HTT : Hid (∀ wx, Below w10.heap.size w10.drew wx → Bs wx (.slice a9 T c9) (q.take T)) := fun wx h => ((bs_prefix R9.bs T (by omega)).below (Below.refl _ _).drew).below h
        clear p4 HP R9 hcap
        clear HV hst hn0 hn1 hl hp hc ht hpt sX sB i0 hi hz0 hz1 hz2
        go_wp2
        go_region_held3 (fun _ => True) (trivial) (first | (go_at_call 5; refine (implPutNum_r _ (q.take F) k _ HF.out (by simp; omega) hk0 hk1).mono ?_; rintro e w11 ⟨u11, rfl, R11, B11⟩; rw [HP4.out] at R11) | (go_at_call 10; refine (sameBytes_yes _ _ (q.take T) _ R11.bs (HTT.out _ B11)).mono ?_; rintro e w12 ⟨rfl, B12⟩))
        all_goals
          have HX : Hid (Below w.heap.size w w12) := Below.step (Below.step X9.drew B11) B12
          clear R11 B11 B12
          go_wp2
          go_ret
          exact ⟨rfl, HX.out⟩

end Go.Proofs.Ytjpojpjgcomibab
