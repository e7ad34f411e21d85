/- The contracts of the helpers and of PutNum, over rows; the law FnExactPutNum, walked out of them. -/
import Derived.Test.YtjpojpjgcomibaeWalk6
import Derived.Test.YtjpojpjgcomibaeLibRow
namespace Go.Proofs.Ytjpojpjgcomibae
open Go.RowKit

theorem toByteS_r (v : Value) (l : List Int) (w : World) (hv : Bs w v l) (hl : l.length ≤ 2000000) :
    Calls Try.prog 8 #[v] w fun e w' => ∃ u, e = .returned u ∧ Row w' w.heap.size w'.heap.size u l ∧ Below w.heap.size w w' :=
  (toByteS_any v l w hv hl).mono fun _ _ ⟨u, h1, h2, h3⟩ => ⟨u, h1, OwnB.toRow ⟨_, Nat.le_refl _, h2⟩, h3⟩
theorem specPutNum_r (v : Value) (l : List Int) (n : Int) (w : World) (hv : Bs w v l) (hl : l.length ≤ 2000000) (hn0 : -9223372036854775808 ≤ n) (hn1 : n ≤ 9223372036854775807) :
    Calls Try.prog 7 #[v, .int .i64 n] w fun e w' => ∃ u, e = .returned u ∧ Row w' w.heap.size w'.heap.size u (putL l n) ∧ Below w.heap.size w w' :=
  (specPutNum_any v l n w hv hl hn0 hn1).mono fun _ _ ⟨u, h1, h2, h3⟩ => ⟨u, h1, h2.toRow, h3⟩
theorem implPutNum_r (v : Value) (l : List Int) (n : Int) (w : World) (hv : Bs w v l) (hl : l.length ≤ 2000000) (hn0 : -9223372036854775808 ≤ n) (hn1 : n ≤ 9223372036854775807) :
    Calls Try.prog 9 #[v, .int .i64 n] w fun e w' => ∃ u, e = .returned u ∧ Row w' w.heap.size w'.heap.size u (putL l n) ∧ Below w.heap.size w w' :=
  (implPutNum_any v l n w hv hl hn0 hn1).mono fun _ _ ⟨u, h1, h2, h3⟩ => ⟨u, h1, h2.toRow, h3⟩
theorem joined_r (v u : Value) (l m : List Int) (w : World) (hv : Bs w v l) (hu : Bs w u m) (hl : l.length ≤ 4000000) (hm : m.length ≤ 4000000) :
    Calls Try.prog 19 #[v, u] w fun e w' => ∃ r, e = .returned r ∧ Row w' w.heap.size w'.heap.size r (l ++ m) ∧ Below w.heap.size w w' :=
  (joined_any v u l m w hv hu hl hm).mono fun _ _ ⟨u, h1, h2, h3⟩ => ⟨u, h1, h2.toRow, h3⟩
theorem eqByteS_yes (v u : Value) (l : List Int) (w : World) (hv : Bs w v l) (hu : Bs w u l) :
    Calls Try.prog 10 #[v, u] w fun e w' => e = .returned (.bool true) ∧ Below w.heap.size w w' :=
  (eqByteS_any v u l l w hv hu).mono fun _ _ ⟨h, hd⟩ => ⟨by simpa using h, below_of_drewN hd⟩
theorem heldByteS_yes (v : Value) (n : Nat) (k : Int) (w : World) (hv : Bs w v (marks k n)) (hl : n ≤ 2000000) (hk0 : 0 ≤ k) (hk1 : k ≤ 1000000000000) :
    Calls Try.prog 12 #[v, .int .i64 k] w fun e w' => e = .returned (.int .i64 (k + n)) ∧ Below w.heap.size w w' :=
  (heldByteS_any v n k w hv hl hk0 hk1).mono fun _ _ ⟨h, hd⟩ => ⟨h, below_of_drewN hd⟩
theorem markByteS_r (B T : Nat) (v : Value) (l : List Int) (k : Int) (w : World) (hv : Row w B T v l) (hl : l.length ≤ 2000000) (hk0 : 0 ≤ k) (hk1 : k ≤ 1000000000000) :
    Calls Try.prog 11 #[v, .int .i64 k] w fun e w' => e = .returned (.int .i64 (k + l.length)) ∧ Row w' B T v (marks k l.length) ∧ w.grownBy w' v.ownBlock := by
  obtain ⟨g, hB, ho⟩ := hv.own
  rcases ho.2 with ⟨rfl, rfl⟩ | ⟨cap, cur, rfl, _⟩
  · go_enter Try.func11, Try.ntmps11
    go_wp2
    refine wp_loop_rounds 1 ?_
    rw [rounds_succ]
    go_wp2
    go_ret
    exact ⟨by simp, Row.nil _ _ _, World.grownBy.refl _ _⟩
  · refine (markByteS_any g _ l k w ho hl hk0 hk1).mono fun e w' ⟨h1, h2, h3⟩ => ⟨h1, ⟨h2.1, OwnB.row ⟨g, hB, h2⟩, hv.2.2⟩, h3⟩

set_option maxHeartbeats 1000000 in
theorem exactPutNum_walk (v : Value) (l : List Int) (n : Int) (w : World) (hv : Bs w v l) (hn0 : -9223372036854775808 ≤ n) (hn1 : n ≤ 9223372036854775807) :
    Calls Try.prog 3 #[v, .int .i64 n] w fun e w' => e = .returned (.bool true) ∧ Below w.heap.size w w' := by
  have HV : Hid (∀ wi, Below w.heap.size w wi → Bs wi v l) := fun wi h => hv.below h
  obtain ⟨a, cap, rfl⟩ : ∃ a cap, v = .slice a l.length cap := by obtain ⟨_, a, cap, h, _⟩ := hv; exact ⟨a, cap, h⟩
  clear hv
  by_cases hl : 1048576 < l.length
  · have hl' : (1048576 : Int) < (l.length : Int) := by omega
    go_enter Try.func3, Try.ntmps3
    go_wp2
    go_ret
    exact ⟨rfl, Below.refl _ _⟩
  · have hl' : ¬ (1048576 : Int) < (l.length : Int) := by omega
    have hP := putL_length l n
    generalize hPe : putL l n = P at hP
    have HPE : Hid (putL l n = P) := hPe
    clear hPe
    have hP1 : P.length ≤ 1048581 := by omega
    clear hP
    go_enter Try.func3, Try.ntmps3
    go_wp2_with fail
    refine (toByteS_r _ l _ (HV.out _ (Below.refl _ _)) (by omega)).mono ?_
    rintro e w1 ⟨u1, rfl, R1, X⟩
    have s1 := X.size
    go_wp2_with fail
    refine (specPutNum_r u1 l n _ R1.bs (by omega) hn0 hn1).mono ?_
    rintro e w2 ⟨u2, rfl, R2, B⟩
    rw [HPE.out] at R2
    replace X := Below.step X B
    have s2 := B.size
    clear R1 B
    go_wp2_with fail
    refine (toByteS_r _ l _ (HV.out _ X) (by omega)).mono ?_
    rintro e w3 ⟨u3, rfl, R3, B⟩
    replace X := Below.step X B
    replace R2 := R2.below B
    have s3 := B.size
    clear B
    go_wp2_with fail
    refine (implPutNum_r u3 l n _ R3.bs (by omega) hn0 hn1).mono ?_
    rintro e w4 ⟨u4, rfl, R4, B⟩
    rw [HPE.out] at R4
    replace X := Below.step X B
    replace R2 := R2.below B
    replace R3 := R3.below B
    clear B
    go_wp2_with fail
    refine (eqByteS_yes u4 u2 P _ R4.bs R2.bs).mono ?_
    rintro e w5 ⟨rfl, B⟩
    replace X := Below.step X B
    replace R2 := R2.below B
    replace R3 := R3.below B
    replace R4 := R4.below B
    clear B
    go_wp2_with fail
    refine (toByteS_r _ l _ (HV.out _ X) (by omega)).mono ?_
    rintro e w6 ⟨u6, rfl, R6, B⟩
    replace X := Below.step X B
    replace R2 := R2.below B
    replace R3 := R3.below B
    replace R4 := R4.below B
    clear B
    go_wp2_with fail
    refine (eqByteS_yes u3 u6 l _ R3.bs R6.bs).mono ?_
    rintro e w7 ⟨rfl, B⟩
    replace X := Below.step X B
    replace R2 := R2.below B
    replace R3 := R3.below B
    replace R4 := R4.below B
    clear B R6
    go_wp2_with fail
    refine (markByteS_r _ _ u3 l 1 _ R3 (by omega) (by omega) (by omega)).mono ?_
    rintro e w8 ⟨rfl, R3', G⟩
    replace X := R3.wrote G X (by omega)
    replace R2 := R2.kept R3 G (.inl (Nat.le_refl _))
    replace R4 := R4.kept R3 G (.inr (Nat.le_refl _))
    clear G R3 R3'
    go_wp2_with fail
    refine (eqByteS_yes u4 u2 P _ R4.bs R2.bs).mono ?_
    rintro e w9 ⟨rfl, B⟩
    replace X := Below.step X B
    replace R2 := R2.below B
    replace R4 := R4.below B
    clear B
    go_wp2_with fail
    refine (markByteS_r _ _ u4 P 1 _ R4 (by omega) (by omega) (by omega)).mono ?_
    rintro e w10 ⟨rfl, R4', G⟩
    replace X := R4.wrote G X (by omega)
    replace R2 := R2.kept R4 G (.inl (by omega))
    clear G R4
    go_wp2_with fail
    refine (heldByteS_yes u4 P.length 1 _ R4'.bs (by omega) (by omega) (by omega)).mono ?_
    rintro e w11 ⟨rfl, B⟩
    replace X := Below.step X B
    replace R2 := R2.below B
    replace R4' := R4'.below B
    clear B
    have hq : ((1 + (P.length : Int)) == 1 + (P.length : Int)) = true := by simp
    go_wp2_with fail
    refine (toByteS_r _ l _ (HV.out _ X) (by omega)).mono ?_
    rintro e w12 ⟨u12, rfl, R12, B⟩
    replace X := Below.step X B
    replace R2 := R2.below B
    replace R4' := R4'.below B
    clear B
    go_wp2_with fail
    refine (implPutNum_r u12 l n _ R12.bs (by omega) hn0 hn1).mono ?_
    rintro e w13 ⟨u13, rfl, R13, B⟩
    rw [HPE.out] at R13
    replace X := Below.step X B
    replace R2 := R2.below B
    replace R4' := R4'.below B
    clear B R12
    go_wp2_with fail
    refine (eqByteS_yes u13 u2 P _ R13.bs R2.bs).mono ?_
    rintro e w14 ⟨rfl, B⟩
    replace X := Below.step X B
    replace R4' := R4'.below B
    clear B R13 R2
    go_wp2_with fail
    refine (heldByteS_yes u4 P.length 1 _ R4'.bs (by omega) (by omega) (by omega)).mono ?_
    rintro e w15 ⟨rfl, B⟩
    replace X := Below.step X B
    clear B R4'
    go_wp2
    go_ret
    exact ⟨rfl, X⟩

end Go.Proofs.Ytjpojpjgcomibae
