/- What GetText of package impl does. -/
import Derived.Test.YtjpojpjgcomibabIGetNum
import Derived.Test.YtjpojpjgcomibabJoined
import Derived.Test.YtjpojpjgcomibabLibText
namespace Go.Proofs.Ytjpojpjgcomibab
open Go.RowKit

set_option maxHeartbeats 400000 in
theorem implGetText_r (v : Value) (l : List Int) (at' : Int) (w : World) (hv : Bs w v l) (hl : l.length ≤ 2000000) (hn0 : -9223372036854775808 ≤ at') (hn1 : at' ≤ 9223372036854775807) :
    Calls Try.prog 9 #[v, .int .i64 at'] w fun e w' => ∃ r, e = .returned (.tuple #[r, .int .i64 (getTL l at').2]) ∧ Row w' w.heap.size w'.heap.size r (getTL l at').1 ∧ Below w.heap.size w w' := by
  have HV : Hid (Bs w v l) := hv
  obtain ⟨a, cap, rfl⟩ : ∃ a cap, v = .slice a l.length cap := by obtain ⟨_, a, cap, h, _⟩ := hv; exact ⟨a, cap, h⟩
  have hbd := getL_bd l at'
  have HT : Hid (getTL l at' = if (getL l at').2 < 0 ∨ 30 < (getL l at').1 ∨ (l.length : Int) - (getL l at').2 < (getL l at').1 then ([], -1) else ((l.drop (getL l at').2.toNat).take (getL l at').1.toNat, (getL l at').2 + (getL l at').1)) := rfl
  generalize hG : getL l at' = G at hbd HT
  generalize getTL l at' = R at HT
  have HG : Hid (getL l at' = G) := hG
  clear hG
  obtain ⟨n, next⟩ := G
  simp only at hbd HT
  by_cases hx : next < 0
  · have HR : Hid (R = ([], -1)) := by rw [HT.out, if_pos (.inl hx)]; rfl
    clear hbd hv
    go_enter Try.func9, Try.ntmps9
    go_wp2_with fail
    refine (implGetNum_any _ l at' _ HV.out hl hn0 hn1).mono ?_
    rintro e w1 ⟨rfl, B⟩
    rw [HG.out]
    go_wp2
    go_ret2
    rw [HR.out]
    exact ⟨_, rfl, Row.nil _ _ _, B⟩
  · obtain ⟨hb0, hb1, hb2, hb3⟩ : 0 ≤ n ∧ n ≤ 2147483647 ∧ 1 ≤ next ∧ next ≤ l.length := by
      rcases hbd with h | h
      · simp only [Prod.mk.injEq] at h; omega
      · exact h
    clear hbd
    by_cases hy : 30 < n
    · have HR : Hid (R = ([], -1)) := by rw [HT.out, if_pos (.inr (.inl hy))]; rfl
      clear hv
      go_enter Try.func9, Try.ntmps9
      go_wp2_with fail
      refine (implGetNum_any _ l at' _ HV.out hl hn0 hn1).mono ?_
      rintro e w1 ⟨rfl, B⟩
      rw [HG.out]
      go_wp2
      go_ret2
      rw [HR.out]
      exact ⟨_, rfl, Row.nil _ _ _, B⟩
    · by_cases hz : (l.length : Int) - next < n
      · have HR : Hid (R = ([], -1)) := by rw [HT.out, if_pos (.inr (.inr hz))]; rfl
        clear hv
        go_enter Try.func9, Try.ntmps9
        go_wp2_with fail
        refine (implGetNum_any _ l at' _ HV.out hl hn0 hn1).mono ?_
        rintro e w1 ⟨rfl, B⟩
        rw [HG.out]
        go_wp2
        go_ret2
        rw [HR.out]
        exact ⟨_, rfl, Row.nil _ _ _, B⟩
      · have HR : Hid (R = ((l.drop next.toNat).take n.toNat, next + n)) := by rw [HT.out, if_neg (by omega)]; rfl
        obtain ⟨N, rfl⟩ := Int.eq_ofNat_of_zero_le hb0
        obtain ⟨X, rfl⟩ := Int.eq_ofNat_of_zero_le (show 0 ≤ next by omega)
        obtain ⟨b, off, rfl⟩ : ∃ b off, a = some ⟨b, off, none⟩ := by
          obtain ⟨_, a', cap', h1, _, _, _, h4⟩ := hv
          simp only [Value.slice.injEq] at h1
          obtain ⟨rfl, -, -⟩ := h1
          obtain ⟨b, off, h, _⟩ := h4 (by omega)
          exact ⟨b, off, h⟩
        have hcap : l.length ≤ cap ∧ cap ≤ 9223372036854775807 := by
          obtain ⟨_, a', cap', h1, h2, h3, _⟩ := hv
          simp only [Value.slice.injEq] at h1
          obtain ⟨-, -, rfl⟩ := h1
          exact ⟨h2, h3⟩
        obtain ⟨hc0, hc1⟩ := hcap
        clear hv
        go_enter Try.func9, Try.ntmps9
        go_wp2_with fail
        refine (implGetNum_any _ l at' _ HV.out hl hn0 hn1).mono ?_
        rintro e w1 ⟨rfl, B⟩
        rw [HG.out]
        by_cases hcX : cap = X
        · subst hcX
          obtain rfl : N = 0 := by omega
          have HRR : Hid (R = ([], (cap : Int))) := by rw [HR.out]; simp [Hid]
          go_wp2_with fail
          refine (joined_r _ _ [] [] _ (bs_nil _) (bs_empty _ _ _ (by simp)) (by simp) (by simp)).mono ?_
          rintro e w2 ⟨r, rfl, R2, B2⟩
          have H2 : Hid (Row w2 w.heap.size w2.heap.size r []) := R2.wide B.size (Nat.le_refl _)
          have HB : Hid (Below w.heap.size w w2) := Below.step B B2
          clear R2 B B2
          go_wp2
          go_ret2
          rw [HRR.out]
          exact ⟨_, rfl, H2.out, HB.out⟩
        · have HC : Hid (Bs w1 (.slice (some ⟨b, off + X, none⟩) N (cap - X)) ((l.drop X).take N)) := bs_cut (HV.out.below B) X N (by omega)
          have HRR : Hid (R = ((l.drop X).take N, (X : Int) + N)) := HR.out
          go_wp2_with fail
          refine (joined_r _ _ [] _ _ (bs_nil _) HC.out (by simp) (by simp; omega)).mono ?_
          rintro e w2 ⟨r, rfl, R2, B2⟩
          have H2 : Hid (Row w2 w.heap.size w2.heap.size r ((l.drop X).take N)) := R2.wide B.size (Nat.le_refl _)
          have HB : Hid (Below w.heap.size w w2) := Below.step B B2
          clear R2 B B2
          go_wp2
          go_ret2
          rw [HRR.out]
          exact ⟨_, rfl, H2.out, HB.out⟩

end Go.Proofs.Ytjpojpjgcomibab
