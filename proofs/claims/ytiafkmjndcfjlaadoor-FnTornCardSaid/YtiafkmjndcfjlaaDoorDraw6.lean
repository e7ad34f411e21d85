/- What l2log of package spec draws: a log of the draw's own memory. -/
import Derived.Test.YtiafkmjndcfjlaaDoorDraw4
import Derived.Test.YtiafkmjndcfjlaaDoorSLog4L
import Derived.Test.YtiafkmjndcfjlaaDoorSLog1L
import Derived.Deep.RegionWith
namespace Go.Proofs.YtiafkmjndcfjlaaDoor
open Go.RowKit
set_option maxRecDepth 100000

theorem box_grown {w w' : World} {g k : Nat} {o : Obj} (hg : w.grownBy w' (some g)) (h : w.heap[k]? = some o) (hne : k ≠ g) : w'.heap[k]? = some o :=
  (hg.block k (lt_of_heap h) (by simp; exact hne)).trans h

/-- The log that is being drawn: block k holds it, its parts lie beyond k. -/
def LogD (w0 w wr : World) (g k : Nat) (cv : Value) (L : List Int) (sv tv : Value) (a b : List Int) : Prop :=
  wr.heap[k]? = some (.cells #[sv, tv] 24 (0, 0)) ∧ Row wr (k + 1) wr.heap.size sv a ∧ Row wr (k + 1) wr.heap.size tv b ∧ Cur w0 wr g cv L ∧ w.grownBy wr (some g)

theorem LogD.drawn {w0 w wr wr' : World} {g k : Nat} {cv : Value} {L : List Int} {sv tv : Value} {a b : List Int} (h : LogD w0 w wr g k cv L sv tv a b) (hg : wr.grownBy wr' (some g)) (hc : Cur w0 wr' g cv L) (hk : g < k) : LogD w0 w wr' g k cv L sv tv a b :=
  ⟨box_grown hg h.1 (by omega), (h.2.1.drawn hg (.inl (by omega))).wide (Nat.le_refl _) hg.size, (h.2.2.1.drawn hg (.inl (by omega))).wide (Nat.le_refl _) hg.size, hc, grownBy_trans h.2.2.2.2 hg⟩
theorem LogD.store {w0 w wr : World} {g k : Nat} {cv : Value} {L : List Int} {x y sv tv : Value} {a b : List Int} (k0 : wr.heap[k]? = some (.cells #[x, y] 24 (0, 0))) (hs : Row wr (k + 1) wr.heap.size sv a) (ht : Row wr (k + 1) wr.heap.size tv b) (hc : Cur w0 wr g cv L) (hg : w.grownBy wr (some g)) (hgk : g < k) (hwk : w.heap.size ≤ k) :
    LogD w0 w ((wr.setCell ⟨k, 0, none⟩ sv).setCell ⟨k, 1, none⟩ tv) g k cv L sv tv a b := by
  have h0 := hc.lt.1
  exact ⟨box2_set1 (box2_set0 k0), ((hs.set (.inl (by omega))).set (.inl (by omega))).wide (Nat.le_refl _) (by simp [World.setCell]), ((ht.set (.inl (by omega))).set (.inl (by omega))).wide (Nat.le_refl _) (by simp [World.setCell]), (hc.set (by omega) (by omega)).set (by omega) (by omega), grownBy_new (grownBy_new hg hwk) hwk⟩

theorem LogD.ret {w0 w wr : World} {g k : Nat} {cv : Value} {L : List Int} {sv tv : Value} {a b : List Int} (h : LogD w0 w wr g k cv L sv tv a b) (ha : a.length ≤ 500) (hb : b.length ≤ 500) (hgw : g < w.heap.size) (hwk : w.heap.size ≤ k) (x y : Value) :
    ∃ sv' tv' a' b', Ending.returned (.agg #[sv, tv]) = .returned (.agg #[sv', tv']) ∧ a'.length ≤ 500 ∧ b'.length ≤ 500 ∧ Row ((wr.setCell ⟨w.heap.size, 0, none⟩ x).setCell ⟨w.heap.size, 1, none⟩ y) w.heap.size ((wr.setCell ⟨w.heap.size, 0, none⟩ x).setCell ⟨w.heap.size, 1, none⟩ y).heap.size sv' a' ∧ Row ((wr.setCell ⟨w.heap.size, 0, none⟩ x).setCell ⟨w.heap.size, 1, none⟩ y) w.heap.size ((wr.setCell ⟨w.heap.size, 0, none⟩ x).setCell ⟨w.heap.size, 1, none⟩ y).heap.size tv' b' ∧ Cur w0 ((wr.setCell ⟨w.heap.size, 0, none⟩ x).setCell ⟨w.heap.size, 1, none⟩ y) g cv L ∧ w.grownBy ((wr.setCell ⟨w.heap.size, 0, none⟩ x).setCell ⟨w.heap.size, 1, none⟩ y) (some g) := by
  have h0 := h.2.2.2.1.lt.1
  exact ⟨sv, tv, a, b, rfl, ha, hb, ((h.2.1.set (.inl (by omega))).set (.inl (by omega))).wide (by omega) (by simp [World.setCell]), ((h.2.2.1.set (.inl (by omega))).set (.inl (by omega))).wide (by omega) (by simp [World.setCell]), (h.2.2.2.1.set (by omega) (by omega)).set (by omega) (by omega), grownBy_new (grownBy_new h.2.2.2.2 (Nat.le_refl _)) (Nat.le_refl _)⟩

set_option maxHeartbeats 2000000 in
theorem l2log_any (w0 w : World) (g : Nat) (cv : Value) (L : List Int) (hc : Cur w0 w g cv L) :
    Calls Tryd.prog 27 #[.pointer (some ⟨g, 0, none⟩)] w fun e w' => ∃ sv tv a b, e = .returned (.agg #[sv, tv]) ∧ a.length ≤ 500 ∧ b.length ≤ 500 ∧ Row w' w.heap.size w'.heap.size sv a ∧ Row w' w.heap.size w'.heap.size tv b ∧ Cur w0 w' g cv L ∧ w.grownBy w' (some g) := by
  obtain ⟨hg0, hg1⟩ := hc.lt
  have hb2 := boxes2 w (.cells #[.slice none 0 0, .slice none 0 0] 24) (.cells #[.slice none 0 0, .slice none 0 0] 24)
  have HC : Hid (Cur w0 w g cv L) := hc
  clear hc
  go_enter Tryd.func27, Tryd.ntmps27
  go_wp2_with fail
  refine (l1Below_any w0 _ g cv L 5 (HC.out.below hb2.2.2) (by omega) (by omega)).mono ?_
  rintro e w1 ⟨n, rfl, hn0, hn1, C1, G1⟩
  have k0 := box_grown G1 hb2.1 (by omega)
  have k1 := box_grown G1 hb2.2.1 (by omega)
  have HG : Hid (LogD w0 w w1 g (w.heap.size + 1) cv L (.slice none 0 0) (.slice none 0 0) [] [] ∧ w1.heap[w.heap.size]? = some (.cells #[.slice none 0 0, .slice none 0 0] 24 (0, 0))) :=
    ⟨⟨k1, Row.nil _ _ _, Row.nil _ _ _, C1, grownBy_trans (grown_below hb2.2.2) G1⟩, k0⟩
  clear hb2 k0 k1 C1 G1 HC
  go_wp2
  go_loopw [5] (fun i wr => ∃ (sv tv : Value) (a b : List Int) (I : Nat), i = .int .i64 I ∧ (I : Int) ≤ n ∧ a.length + b.length ≤ 25 * I ∧ w.heap.size + 1 < wr.heap.size ∧ Hid (LogD w0 w wr g (w.heap.size + 1) cv L sv tv a b) ∧ Hid (wr.heap[w.heap.size]? = some (.cells #[.slice none 0 0, .slice none 0 0] 24 (0, 0)))) (fun i _ => (n - intOf i).toNat)
  case atStart => exact ⟨_, _, [], [], 0, rfl, by omega, by simp, lt_of_heap HG.out.1.1, HG.out.1, HG.out.2⟩
  case round =>
    obtain ⟨sv, tv, a, b, I, rfl, hI, hab, hsz, HD, HR⟩ := hrel
    clear HG
    obtain ⟨s0, s1, s2, rfl⟩ := HD.out.2.1.bs.form3
    obtain ⟨t0, t1, t2, rfl⟩ := HD.out.2.2.1.bs.form3
    by_cases hlt : (I : Int) < n
    · have hadd : (I : Int) + 1 ≤ 9223372036854775807 := by omega
      have DR : Below wr.heap.size wr wr.drew := (Below.refl _ _).drew
      have HCd : Hid (Cur w0 wr.drew g cv L) := HD.out.2.2.2.1.below DR
      have HKd : Hid (wr.drew.heap[w.heap.size + 1]? = some (.cells #[.slice s0 s1 s2, .slice t0 t1 t2] 24 (0, 0))) := box_below DR HD.out.1
      have HSd : Hid (Row wr.drew (w.heap.size + 1 + 1) wr.drew.heap.size (.slice s0 s1 s2) a ∧ Row wr.drew (w.heap.size + 1 + 1) wr.drew.heap.size (.slice t0 t1 t2) b) := ⟨HD.out.2.1.below DR, HD.out.2.2.1.below DR⟩
      obtain ⟨f0, f1, z0, z1, -⟩ := box2 HD.out.1
      go_wp2
      go_region_with (first
        | (go_at_call 17; refine (l1some_any w0 _ g cv L 20 HCd.out (by omega)).mono ?_; rintro e w2 ⟨u, r, rfl, hrl, Ru, C2, G2⟩; obtain ⟨u0, u1, u2, rfl⟩ := Ru.bs.form3; obtain ⟨q0, q1, y0, y1, -⟩ := box2 (box_grown G2 HKd.out (by omega)))
        | (go_at_call 36; refine (l2write_x _ _ _ a b r _ ((HSd.out.1.drawn G2 (.inl (by omega))).bs) ((HSd.out.2.drawn G2 (.inl (by omega))).bs) Ru.bs (by omega) (by omega) (by omega)).mono ?_; rintro e w3 ⟨y, rfl, hyB, hyR, B3⟩; obtain ⟨v0, v1, v2, rfl⟩ := hyB.form3; have kk3 := box_below B3 (box_grown G2 HKd.out (by omega)); obtain ⟨q0', q1', y0', y1', -⟩ := box2 kk3))
      all_goals
        have hfl := frameL_length r
        have hfit : fitsB a b r = true := by simp [fitsB]; omega
        have Rv := hyR hfit
        have sz2 := G2.size
        have sz3 := B3.size
        have sd : wr.drew.heap.size = wr.heap.size := rfl
        have HL : Hid (LogD w0 w ((w3.setCell ⟨w.heap.size + 1, 0, none⟩ (.slice s0 s1 s2)).setCell ⟨w.heap.size + 1, 1, none⟩ (.slice v0 v1 v2)) g (w.heap.size + 1) cv L (.slice s0 s1 s2) (.slice v0 v1 v2) a (b ++ frameL r)) :=
          LogD.store kk3 (((HSd.out.1.drawn G2 (.inl (by omega))).below B3).wide (Nat.le_refl _) (by omega)) (Rv.wide (by omega) (Nat.le_refl _)) (C2.below B3) (grownBy_trans (grownBy_trans HD.out.2.2.2.2 (grownBy_trans (grown_below DR) G2)) (grown_below B3)) (by omega) (by omega)
        have HZ : Hid (((w3.setCell ⟨w.heap.size + 1, 0, none⟩ (.slice s0 s1 s2)).setCell ⟨w.heap.size + 1, 1, none⟩ (.slice v0 v1 v2)).heap[w.heap.size]? = some (.cells #[.slice none 0 0, .slice none 0 0] 24 (0, 0))) :=
          box_other (box_other (box_below B3 (box_grown G2 (box_below DR HR.out) (by omega))) (by omega)) (by omega)
        have hlen : a.length + (b ++ frameL r).length ≤ 25 * (I + 1) := by simp; omega
        obtain ⟨w4, hw4⟩ : ∃ w4, (w3.setCell ⟨w.heap.size + 1, 0, none⟩ (.slice s0 s1 s2)).setCell ⟨w.heap.size + 1, 1, none⟩ (.slice v0 v1 v2) = w4 := ⟨_, rfl⟩
        rw [hw4] at HL HZ ⊢
        generalize b ++ frameL r = c at HL hlen
        clear hw4 hyR hyB Rv kk3 q0 q1 y0 y1 q0' q1' y0' y1' f0 f1 z0 z1 B3 G2 C2 Ru HSd HKd HCd DR HD HR hfl sz2 sz3 sd
        go_wp2_with fail
        refine (l1Once_any w0 _ g cv L 2 HL.out.2.2.2.1 (by omega) (by omega)).mono ?_
        rintro e w5 ⟨x, rfl, C5, G5⟩
        have HL5 : Hid (LogD w0 w w5 g (w.heap.size + 1) cv L (.slice s0 s1 s2) (.slice v0 v1 v2) a c) := HL.out.drawn G5 C5 (by omega)
        have HZ5 : Hid (w5.heap[w.heap.size]? = some (.cells #[.slice none 0 0, .slice none 0 0] 24 (0, 0))) := box_grown G5 HZ.out (by omega)
        clear C5 G5 HL HZ
        obtain ⟨f0, f1, z0, z1, sz5⟩ := box2 HL5.out.1
        cases x
        · go_wp2
          go_roundw
          case rel => exact ⟨_, _, a, c, I + 1, by go_num, by omega, hlen, by omega, HL5, HZ5⟩
          case measure => simp [intOf]; omega
        · go_wp2_with fail
          refine (l2sync_r _ a c _ ⟨_, _, rfl, HL5.out.2.1.bs, HL5.out.2.2.1.bs⟩ (by omega) (by omega)).mono ?_
          rintro e w6 ⟨z, rfl, ⟨x0, x1, B0, T0, B1, T1, rfl, R0, R1, e1, e2, e3, e4, -⟩, B6⟩
          obtain ⟨x2, x3, x4, rfl⟩ := R0.bs.form3
          obtain ⟨x5, x6, x7, rfl⟩ := R1.bs.form3
          have kk6 := box_below B6 HL5.out.1
          have sz6 := B6.size
          have HL6 : Hid (LogD w0 w ((w6.setCell ⟨w.heap.size + 1, 0, none⟩ (.slice x2 x3 x4)).setCell ⟨w.heap.size + 1, 1, none⟩ (.slice x5 x6 x7)) g (w.heap.size + 1) cv L (.slice x2 x3 x4) (.slice x5 x6 x7) (a ++ c) []) :=
            LogD.store kk6 (R0.wide (by omega) e2) (R1.wide (by omega) e4) (HL5.out.2.2.2.1.below B6) (grownBy_trans HL5.out.2.2.2.2 (grown_below B6)) (by omega) (by omega)
          have HZ6 : Hid (((w6.setCell ⟨w.heap.size + 1, 0, none⟩ (.slice x2 x3 x4)).setCell ⟨w.heap.size + 1, 1, none⟩ (.slice x5 x6 x7)).heap[w.heap.size]? = some (.cells #[.slice none 0 0, .slice none 0 0] 24 (0, 0))) := box_other (box_other (box_below B6 HZ5.out) (by omega)) (by omega)
          clear f0 f1 z0 z1
          obtain ⟨f0, f1, z0, z1, -⟩ := box2 kk6
          clear R0 R1 B6 kk6 HL5 HZ5
          go_wp2
          go_roundw
          case rel => exact ⟨_, _, a ++ c, [], I + 1, by go_num, by omega, by simp; omega, lt_of_heap HL6.out.1, HL6, HZ6⟩
          case measure => simp [intOf]; omega
    · have hI4 : I ≤ 4 := by omega
      go_wp2_with fail
      refine (l1Once_any w0 _ g cv L 5 HD.out.2.2.2.1 (by omega) (by omega)).mono ?_
      rintro e w5 ⟨x, rfl, C5, G5⟩
      have HL5 : Hid (LogD w0 w w5 g (w.heap.size + 1) cv L (.slice s0 s1 s2) (.slice t0 t1 t2) a b) := HD.out.drawn G5 C5 (by omega)
      have HZ5 : Hid (w5.heap[w.heap.size]? = some (.cells #[.slice none 0 0, .slice none 0 0] 24 (0, 0))) := box_grown G5 HR.out (by omega)
      clear C5 G5 HD HR
      obtain ⟨f0, f1, z0, z1, sz5⟩ := box2 HL5.out.1
      obtain ⟨f2, f3, z2, z3, -⟩ := box2 HZ5.out
      cases x
      · go_wp2
        refine bodyPost_ret (v := .agg #[.slice s0 s1 s2, .slice t0 t1 t2]) (by simp [results, Tryd.results27, go_sem, f2, f3]) rfl ?_
        exact HL5.out.ret (by omega) (by omega) hg1 (by omega) _ _
      · go_wp2_with fail
        refine (l1spoil_any w0 _ g cv _ L a HL5.out.2.2.2.1 HL5.out.2.1.bs (by omega)).mono ?_
        rintro e w6 ⟨u, m, rfl, hm, Ru, C6, G6⟩
        obtain ⟨u0, u1, u2, rfl⟩ := Ru.bs.form3
        have hL6 := HL5.out.drawn G6 C6 (by omega)
        have hz6 := box_grown G6 HZ5.out (by omega)
        have sz6 := G6.size
        have HL7 : Hid (LogD w0 w (w6.setCell ⟨w.heap.size + 1, 0, none⟩ (.slice u0 u1 u2)) g (w.heap.size + 1) cv L (.slice u0 u1 u2) (.slice t0 t1 t2) m b) :=
          ⟨box2_set0 hL6.1, ((Ru.set (.inl (by omega))).wide (by omega) (by simp [World.setCell])), ((hL6.2.2.1.set (.inl (by omega))).wide (Nat.le_refl _) (by simp [World.setCell])), hL6.2.2.2.1.set (by omega) (by omega), grownBy_new hL6.2.2.2.2 (by omega)⟩
        have hz7 := box_other (k := w.heap.size + 1) (i := 0) (v := .slice u0 u1 u2) hz6 (by omega)
        clear f0 f1 z0 z1 f2 f3 z2 z3
        obtain ⟨f0, f1, z0, z1, sz7⟩ := box2 hL6.1
        obtain ⟨w7, hw7⟩ : ∃ w7, w6.setCell ⟨w.heap.size + 1, 0, none⟩ (.slice u0 u1 u2) = w7 := ⟨_, rfl⟩
        rw [hw7] at HL7 hz7
        obtain ⟨h0, h1, y0, y1, l7⟩ := box2 HL7.out.1
        obtain ⟨f2, f3, z2, z3, -⟩ := box2 hz7
        have HZ7 : Hid (w7.heap[w.heap.size]? = _) := hz7
        clear hL6 HL5 HZ5 Ru C6 G6 hz6 hz7
        go_wp2
        refine bodyPost_ret (v := .agg #[.slice u0 u1 u2, .slice t0 t1 t2]) (by simp [results, Tryd.results27, go_sem, f2, f3]) rfl ?_
        exact HL7.out.ret (by omega) (by omega) hg1 (by omega) _ _

end Go.Proofs.YtiafkmjndcfjlaaDoor
