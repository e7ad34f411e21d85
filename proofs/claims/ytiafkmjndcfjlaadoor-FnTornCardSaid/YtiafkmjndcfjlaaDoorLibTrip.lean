/- There and back: numbers and texts come back from their bytes, and bytes that are read are just the bytes of what was read. -/
import Derived.Test.YtiafkmjndcfjlaaDoorLibText
namespace Go.Proofs.YtiafkmjndcfjlaaDoor
open Go.RowKit

theorem dec_enc (f i : Nat) (n0 sc n : Int) (r : List Int) (h0 : 0 ≤ n) (h1 : n < 128 * 128 ^ f) (hi : 0 < i → 0 < n) (hm : n0 + n * sc ≤ 2147483647) (hn0 : 0 ≤ n0) (hs : 0 ≤ sc) :
    dec (f + 1) i n0 sc (enc f n ++ r) = some (n0 + n * sc, i + (enc f n).length) := by
  induction f generalizing i n0 sc n with
  | zero =>
    have hx : n < 128 := by simpa using h1
    have e : n % 128 = n := by omega
    simp only [enc, List.singleton_append, dec, e]
    rw [if_pos hx, if_neg (by omega)]
    simp
  | succ f ih =>
    by_cases hb : 127 < n
    · rw [enc_hi f n hb]
      simp only [List.cons_append, dec]
      have e : n0 + (n % 128 + 128) % 128 * sc + n / 128 * (sc * 128) = n0 + n * sc := by
        have h1 : (n % 128 + 128) % 128 = n % 128 := by omega
        have h2 : n = n % 128 + 128 * (n / 128) := by omega
        rw [h1]
        generalize n % 128 = a at *
        generalize n / 128 = b at *
        subst h2
        rw [Int.add_mul, Int.mul_comm sc 128, ← Int.mul_assoc, Int.mul_comm b 128, Int.add_assoc]
      have hp : n < 128 * (128 ^ f * 128) := by rw [← Int.pow_succ]; exact h1
      rw [if_neg (by omega), ih (i + 1) _ (sc * 128) (n / 128) (by omega) (by omega) (fun _ => by omega) (by omega) (by have := Int.mul_nonneg (show 0 ≤ (n % 128 + 128) % 128 by omega) hs; omega) (by omega), e]
      simp; omega
    · have e : n % 128 = n := by omega
      rw [enc_lo _ n hb]
      simp only [List.singleton_append, dec, e]
      rw [if_pos (by omega), if_neg (by omega)]
      simp

theorem enc_dec (f i : Nat) (n sc : Int) (l : List Int) (m : Int) (k : Nat) (ho : Oct l) (h : dec (f + 1) i n sc l = some (m, k)) :
    ∃ v, 0 ≤ v ∧ m = n + v * sc ∧ i < k ∧ l.take (k - i) = enc f v ∧ (0 < i → 0 < v) := by
  induction f generalizing i n sc l with
  | zero =>
    cases l with
    | nil => simp [dec] at h
    | cons x r =>
      have hx := ho x (by simp)
      simp only [dec] at h
      split at h
      · rename_i hlt
        split at h
        · simp at h
        · rename_i hb
          simp only [Option.some.injEq, Prod.mk.injEq] at h
          obtain ⟨rfl, rfl⟩ := h
          refine ⟨x, hx.1, by rw [show x % 128 = x by omega], by omega, ?_, fun hi => ?_⟩
          · rw [show i + 1 - i = 1 by omega, enc_lo _ x (by omega)]; simp
          · by_cases hz : x = 0
            · exact absurd (Or.inl ⟨hz, hi⟩) hb
            · omega
      · simp at h
  | succ f ih =>
    cases l with
    | nil => simp [dec] at h
    | cons x r =>
      have hx := ho x (by simp)
      rw [dec] at h
      split at h
      · rename_i hlt
        split at h
        · simp at h
        · rename_i hb
          simp only [Option.some.injEq, Prod.mk.injEq] at h
          obtain ⟨rfl, rfl⟩ := h
          refine ⟨x, hx.1, by rw [show x % 128 = x by omega], by omega, ?_, fun hi => ?_⟩
          · rw [show i + 1 - i = 1 by omega, enc_lo _ x (by omega)]; simp
          · by_cases hz : x = 0
            · exact absurd (Or.inl ⟨hz, hi⟩) hb
            · omega
      · rename_i hge
        obtain ⟨v, hv0, hv1, hv2, hv3, hv4⟩ := ih (i + 1) _ _ r (fun y hy => ho y (by simp [hy])) h
        have hvp := hv4 (by omega)
        refine ⟨x % 128 + 128 * v, by omega, ?_, by omega, ?_, fun _ => by omega⟩
        · rw [hv1, Int.add_mul, Int.mul_comm sc 128, ← Int.mul_assoc, Int.mul_comm v 128, Int.add_assoc]
        · rw [show k - i = (k - (i + 1)) + 1 by omega, List.take_succ_cons, hv3, enc_hi f _ (by omega)]
          congr 1
          · omega
          · congr 1; omega

theorem drop_len (b r : List Int) : (b ++ r).drop b.length = r := by simp
theorem get_put (b r : List Int) (n : Int) (h0 : 0 ≤ n) (h1 : n ≤ 2147483647) : getL (b ++ enc 4 n ++ r) b.length = (n, ((b ++ enc 4 n).length : Int)) := by
  unfold getL
  rw [if_neg (by omega), Int.toNat_natCast, List.append_assoc, drop_len, dec_enc 4 0 0 1 n r h0 (by omega) (fun h => absurd h (by omega)) (by omega) (by omega) (by omega)]
  simp [outOf]
theorem put_get (l : List Int) (at' k stop : Int) (ho : Oct l) (h : getL l at' = (k, stop)) (hs : 0 ≤ stop) : 0 ≤ at' ∧ at' ≤ stop ∧ stop ≤ l.length ∧ putL (l.take at'.toNat) k = l.take stop.toNat := by
  have hbd := getL_bd l at'
  rw [h] at hbd
  unfold getL at h
  split at h
  · simp only [Prod.mk.injEq] at h; omega
  · cases hd : dec 5 0 0 1 (l.drop at'.toNat) with
    | none => rw [hd] at h; simp only [outOf, Prod.mk.injEq] at h; omega
    | some p =>
      obtain ⟨m, q⟩ := p
      rw [hd] at h
      simp only [outOf, Prod.mk.injEq] at h
      obtain ⟨rfl, rfl⟩ := h
      obtain ⟨v, hv0, hv1, hv2, hv3, -⟩ := enc_dec 4 0 0 1 _ _ _ (oct_drop ho _) hd
      have hmv : m = v := by omega
      subst hmv
      have hb2 : 0 ≤ m ∧ m ≤ 2147483647 ∧ at' + q ≤ l.length := by
        rcases hbd with hb | hb
        · simp only [Prod.mk.injEq] at hb; omega
        · simp only at hb; omega
      refine ⟨by omega, by omega, hb2.2.2, ?_⟩
      unfold putL
      rw [if_pos ⟨hb2.1, hb2.2.1⟩, ← hv3, Nat.sub_zero, show (at' + (q : Int)).toNat = at'.toNat + q by omega, List.take_add]

theorem getT_putT (c t : List Int) (ht : t.length ≤ 30) : getTL (putTL c t) c.length = (t, ((putTL c t).length : Int)) := by
  have e : putTL c t = c ++ enc 4 t.length ++ t := by unfold putTL putL; rw [if_neg (by omega), if_pos (by omega)]
  have g := get_put c t (t.length : Int) (by omega) (by omega)
  unfold getTL
  rw [e, g]
  simp only
  rw [if_neg (by simp; omega), Int.toNat_natCast, Int.toNat_natCast, drop_len]
  simp
  omega

end Go.Proofs.YtiafkmjndcfjlaaDoor
