/- What the method records of package impl does: the function that it answers shows each whole record. -/
import Derived.RangeFuncNested
import Derived.RangeFuncBound
import Derived.RangeFuncCalls
import Derived.RangeFuncLeaves
import Derived.RangeFuncBox
import Derived.Maps.AppendAt
import Derived.Shelf.Abstract
import Derived.Shelf.RegionOpen
import Derived.WalkKit
import Derived.OwnWalkIn
import Derived.TacticsInMore
import Derived.LoopNIn
import Derived.LoopIn
import Derived.Test.YtiafkmjndcfjlaaDoorIGetNum
import Derived.Test.YtiafkmjndcfjlaaDoorILogOk
import Derived.Test.YtiafkmjndcfjlaaDoorScanM
namespace Go.Proofs.YtiafkmjndcfjlaaDoor
open Go.RowKit Go.Shelf
set_option maxRecDepth 100000
attribute [local go_sem] Oper.semAt_some

/-- A record as it is shown: the slice, its bytes, the place behind it. -/
abbrev Shown (w0 : World) : Type := { p : Value × List Int × Int // (∃ x n y, p.1 = .slice x n y) ∧ (∀ W, Below w0.heap.size w0 W → Bs W p.1 p.2.1) ∧ p.2.1.length ≤ 6000 ∧ 0 ≤ p.2.2 ∧ p.2.2 ≤ 2000000 }
def recOf {w0 : World} (x : Shown w0) : List Int := x.1.2.1
def behindOf {w0 : World} (x : Shown w0) : Int := x.1.2.2
def encR {w0 : World} (x : Shown w0) : Array Value := #[x.1.1, .int .i64 x.1.2.2]
/-- The place behind the last of them. -/
def lastOf {w0 : World} (xs : List (Shown w0)) : Int := (xs.getLast?.map behindOf).getD 0
theorem lastOf_snoc {w0 : World} (xs : List (Shown w0)) (x : Shown w0) : lastOf (xs ++ [x]) = behindOf x := by simp [lastOf]

/-- What a round keeps: all blocks below n, and block b. -/
def KpR (n b : Nat) (W W' : World) : Prop := Below n W W' ∧ W'.heap[b]? = W.heap[b]?
theorem KpR.t {n b : Nat} {A B C : World} (h : KpR n b A B) (k : KpR n b B C) : KpR n b A C := ⟨h.1.trans k.1, k.2.trans h.2⟩
theorem KpR.b {n b : Nat} {w : World} (hn : n ≤ w.heap.size) (hb : b < w.heap.size) (W : World) (l : Nat) (o o' : Obj) (hl : w.heap.size ≤ l) (h : W.heap[l]? = some o) (h1 : o.isCells = false) (h2 : o.isWalk = false) : KpR n b W (W.putObj l o') :=
  ⟨belowK_b hn W l o o' hl h h1 h2, (grownBy_putObj' W l o').block b (by have := lt_of_heap h; omega) (by simp; omega)⟩

theorem grown_of_below {w w' : World} (h : Below w.heap.size w w') : w.grownBy w' none := ⟨h.os, h.tape, h.output, h.size, fun k hk _ => h.block k hk⟩

set_option maxHeartbeats 1000000 in
theorem records_in (p0 : Option Addr) (w : World) :
    Calls Tryd.prog 21 #[.pointer p0] w fun e w' => e = .returned (.func (.func 31) #[] #[.pointer (some ⟨w.heap.size, 0, none⟩)]) ∧ w' = w.alloc (.cells #[.pointer p0] 59) := by
  go_enter Tryd.func21, Tryd.ntmps21
  go_wp2
  go_ret
  exact ⟨rfl, rfl⟩

set_option maxRecDepth 100000 in
set_option maxHeartbeats 2000000 in
theorem records1_in (n l Bn g : Nat) (w0 : World) (v0 v1 : Value) (a : List Int) (hn : 1 ≤ n) (ha : a.length ≤ 1000000)
    (hg : w0.heap[g]? = some (.cells #[v0, v1] 24 (0, 0))) (hv : Bs w0 v0 a)
    (J Jx : List (Shown w0) → World → Prop) (W : World) (hJ : AbidesFrom W.heap.size J) (hB0 : Below w0.heap.size w0 W)
    (hBn : W.heap[Bn]? = some (.cells #[.pointer (some ⟨g, 0, none⟩)] 59 (0, 0)))
    (hY : ∀ pre x W1, J pre W1 → pre.length < a.length → YieldAt Fence.wide (n - 1) Tryd.prog l (encR x) W1 fun e W' =>
      (e = .returned (.bool true) ∧ J (pre ++ [x]) W' ∧ KpR w0.heap.size Bn W1 W') ∨ (e = .returned (.bool false) ∧ Jx (pre ++ [x]) W'))
    (h0 : J [] W) :
    CallsIn Fence.wide n Tryd.prog 31 #[.func (.yield l) #[] #[], .pointer (some ⟨Bn, 0, none⟩)] W fun e W' => (∃ v, e = .returned v) ∧
      ((∃ xs, (xs.map recOf = (scanL a).1 ∧ lastOf xs = ((scanL a).2 : Int)) ∧ J xs W') ∨ (∃ pre, True ∧ Jx pre W')) := by
  have HV : Hid (∀ wi, Below w0.heap.size w0 wi → Bs wi v0 a) := fun wi h => hv.below h
  obtain ⟨x0, cap, rfl⟩ := hv.form
  obtain ⟨hc0, hc1⟩ := hv.cap
  have hab : 0 < a.length → ∃ b off, x0 = some ⟨b, off, none⟩ := fun hp => by
    obtain ⟨_, a', cap', h1, _, _, _, h4⟩ := hv
    simp only [Value.slice.injEq] at h1
    obtain ⟨rfl, -, -⟩ := h1
    obtain ⟨b, off, h, _⟩ := h4 hp
    exact ⟨b, off, h⟩
  have HG : Hid (∀ wi, Below w0.heap.size w0 wi → wi.heap[g]? = some (.cells #[.slice x0 a.length cap, v1] 24 (0, 0))) := fun wi h => box_below h hg
  have HGG : Hid (scanL a = ([] ++ (scanGo a a.length 0).1, (scanGo a a.length 0).2)) := rfl
  have HY : Hid (∀ pre x W1, J pre W1 → pre.length < a.length → YieldAt Fence.wide (n - 1) Tryd.prog l (encR x) W1 fun e W' =>
      (e = .returned (.bool true) ∧ J (pre ++ [x]) W' ∧ KpR w0.heap.size Bn W1 W') ∨ (e = .returned (.bool false) ∧ Jx (pre ++ [x]) W')) := hY
  clear hY hg hv
  refine callsIn_of_wp Tryd.func31 rfl trivial ?_ rfl
  simp only [Tryd.ntmps31, List.size_toArray, List.length_cons, List.length_nil, Nat.reduceAdd, Nat.reduceSub, Array.replicate_succ, Array.replicate_zero, List.push_toArray, List.append_toArray, List.nil_append, List.cons_append]
  gi_wp2
  gi_loopw [3] (fun at' wr => ∃ (pre : List (Shown w0)) (A F : Nat), at' = .int .i64 A ∧ A ≤ a.length ∧ a.length ≤ F + A ∧ pre.length ≤ A ∧ lastOf pre = (A : Int) ∧ Hid (scanL a = (pre.map recOf ++ (scanGo a F A).1, (scanGo a F A).2)) ∧ Hid (J pre wr) ∧ Hid (Below w0.heap.size w0 wr) ∧ Hid (W.heap.size ≤ wr.heap.size) ∧ Hid (wr.heap[Bn]? = some (.cells #[.pointer (some ⟨g, 0, none⟩)] 59 (0, 0)))) (fun i _ => a.length + 1 - (intOf i).toNat)
  case atStart => exact ⟨[], 0, a.length, rfl, Nat.zero_le _, by omega, by simp, rfl, HGG, h0, hB0, Nat.le_refl _, hBn⟩
  case round =>
    obtain ⟨pre, A, F, rfl, hA, hF, hacc, hlast, hR, hO, hW, hS, hN⟩ := hrel
    clear HGG h0 hB0 hBn
    have fB := Boxed.cell hN.out
    obtain ⟨f0, -⟩ := box2 (HG.out _ hW.out)
    have hbd := getL_bd a A
    have hgt := getL_gt a A
    generalize hGG : getL a A = gg at hbd hgt
    have HGL : Hid (getL a A = gg) := hGG
    clear hGG
    obtain ⟨m, next⟩ := gg
    simp only at hbd hgt
    by_cases hbad : next < 0 ∨ 6000 < m ∨ (a.length : Int) - next < m
    · have HE : Hid (scanL a = (pre.map recOf, A)) := scan_stop hR.out (scan_bad a _ A (by rw [HGL.out]; exact hbad))
      have hbd' : next < 0 ∨ (0 ≤ m ∧ m ≤ 2147483647 ∧ 1 ≤ next ∧ next ≤ a.length) := by
        rcases hbd with h | h
        · simp only [Prod.mk.injEq] at h; omega
        · exact .inr h
      clear hbd hgt
      gi_wp2_with fail
      refine ⟨trivial, (callsIn_wide.2 (implGetNum_any _ a A _ (HV.out _ hW.out) (by omega) (by omega) (by omega))).mono ?_⟩
      rintro e w1 ⟨rfl, B⟩
      rw [HGL.out]
      have HJ1 : Hid (J pre w1) := hJ pre wr w1 none hO.out (grown_of_below B) (by intro r h; cases h)
      clear fB f0
      have fB := Boxed.cell (box_below B hN.out)
      obtain ⟨f0, -⟩ := box2 (HG.out _ (Below.step hW.out B))
      clear B hO hW hS hN hR
      have HF : Hid (List.map recOf pre = (scanL a).1 ∧ lastOf pre = ((scanL a).2 : Int)) := by unfold Hid; rw [HE.out]; exact ⟨rfl, hlast⟩
      clear HE hlast
      by_cases h1 : next < 0
      · clear hbad hbd'
        gi_wp2
        refine bodyPost_ret (results_none rfl _ _ _) rfl ?_
        exact ⟨⟨_, rfl⟩, .inl ⟨_, HF.out, HJ1.out⟩⟩
      · obtain ⟨hb0, hb1, hb2, hb3⟩ : 0 ≤ m ∧ m ≤ 2147483647 ∧ 1 ≤ next ∧ next ≤ a.length := by omega
        clear hbd'
        by_cases h2 : 6000 < m
        · clear hbad
          gi_wp2
          refine bodyPost_ret (results_none rfl _ _ _) rfl ?_
          exact ⟨⟨_, rfl⟩, .inl ⟨_, HF.out, HJ1.out⟩⟩
        · have h3 : (a.length : Int) - next < m := by omega
          clear hbad
          gi_wp2
          refine bodyPost_ret (results_none rfl _ _ _) rfl ?_
          exact ⟨⟨_, rfl⟩, .inl ⟨_, HF.out, HJ1.out⟩⟩
    · obtain ⟨hb0, hb1, hb2, hb3⟩ : 0 ≤ m ∧ m ≤ 2147483647 ∧ 1 ≤ next ∧ next ≤ a.length := by
        rcases hbd with h | h
        · simp only [Prod.mk.injEq] at h; omega
        · exact h
      clear hbd
      obtain ⟨M, rfl⟩ := Int.eq_ofNat_of_zero_le hb0
      obtain ⟨X, rfl⟩ := Int.eq_ofNat_of_zero_le (show 0 ≤ next by omega)
      have hn1 : ¬ (6000 : Int) < M := by omega
      have hn2 : ¬ (a.length : Int) - X < M := by omega
      have hgX : A < X := by omega
      clear hbad hgt
      obtain ⟨F, rfl⟩ : ∃ F', F = F' + 1 := ⟨F - 1, by omega⟩
      have HE := scan_meet hR.out (scan_good a F A M X (by omega) HGL.out (by omega) (by omega))
      have HE' : Hid (scanL a = ((pre.map recOf ++ [(a.drop X).take M]) ++ (scanGo a F (X + M)).1, (scanGo a F (X + M)).2)) := HE
      clear HE hR
      gi_wp2_with fail
      refine ⟨trivial, (callsIn_wide.2 (implGetNum_any _ a A _ (HV.out _ hW.out) (by omega) (by omega) (by omega))).mono ?_⟩
      rintro e w1 ⟨rfl, B⟩
      rw [HGL.out]
      have HJ1 : Hid (J pre w1) := hJ pre wr w1 none hO.out (grown_of_below B) (by intro r h; cases h)
      have HX1 : Hid (Below w0.heap.size w0 w1) := Below.step hW.out B
      have HS1 : Hid (W.heap.size ≤ w1.heap.size) := Nat.le_trans hS.out B.size
      have HN1 : Hid (w1.heap[Bn]? = some (.cells #[.pointer (some ⟨g, 0, none⟩)] 59 (0, 0))) := box_below B hN.out
      clear fB f0
      have fB := Boxed.cell HN1.out
      obtain ⟨f0, -⟩ := box2 (HG.out _ HX1.out)
      clear B hO hW hS hN
      have hXM : (X : Int) + M ≤ cap := by omega
      obtain ⟨b, off, rfl⟩ : ∃ b off, x0 = some ⟨b, off, none⟩ := hab (by omega)
      by_cases hcX : cap = X
      · subst hcX
        obtain rfl : M = 0 := by omega
        obtain ⟨fn, tmps, assign, body, hy, hR⟩ := HY.out pre ⟨(.slice (some ⟨b, off, none⟩) 0 0, (a.drop cap).take 0, (cap : Int)), ⟨_, _, _, rfl⟩, fun W _ => by simpa using bs_empty W _ _ (by simp), by simp, by simp only; omega, by simp only; omega⟩ w1 HJ1.out (by omega)
        dsimp only [encR] at hy
        gi_wp2
        refine hR.mono ?_
        rintro e W3 (⟨rfl, hJ3, hk3⟩ | ⟨rfl, hJx3⟩)
        · have HK3 : Hid (J (pre ++ [_]) W3 ∧ KpR w0.heap.size Bn w1 W3) := ⟨hJ3, hk3⟩
          clear hJ3 hk3 hy hR fB f0
          gi_wp2
          go_roundw
          case rel => exact ⟨_, cap, F, rfl, by omega, by omega, by simp; omega, by rw [lastOf_snoc]; rfl, by simpa [Hid, recOf] using HE'.out, HK3.out.1, HX1.out.trans HK3.out.2.1, Nat.le_trans HS1.out HK3.out.2.1.size, HK3.out.2.2.trans HN1.out⟩
          case measure => simp [intOf]; omega
        · clear hy hR fB f0
          gi_wp2
          refine bodyPost_ret (results_none rfl _ _ _) rfl ?_
          exact ⟨⟨_, rfl⟩, .inr ⟨_, trivial, hJx3⟩⟩
      · obtain ⟨fn, tmps, assign, body, hy, hR⟩ := HY.out pre ⟨(.slice (some ⟨b, off + X, none⟩) M (cap - X), (a.drop X).take M, (X : Int) + M), ⟨_, _, _, rfl⟩, fun W hW => bs_cut (HV.out W hW) X M (by omega), by simp; omega, by simp only; omega, by simp only; omega⟩ w1 HJ1.out (by omega)
        dsimp only [encR] at hy
        gi_wp2
        refine hR.mono ?_
        rintro e W3 (⟨rfl, hJ3, hk3⟩ | ⟨rfl, hJx3⟩)
        · have HK3 : Hid (J (pre ++ [_]) W3 ∧ KpR w0.heap.size Bn w1 W3) := ⟨hJ3, hk3⟩
          clear hJ3 hk3 hy hR fB f0
          gi_wp2
          go_roundw
          case rel => exact ⟨_, X + M, F, by simp, by omega, by omega, by simp; omega, by rw [lastOf_snoc]; simp [behindOf], by simpa [Hid, recOf] using HE'.out, HK3.out.1, HX1.out.trans HK3.out.2.1, Nat.le_trans HS1.out HK3.out.2.1.size, HK3.out.2.2.trans HN1.out⟩
          case measure => simp [intOf]; omega
        · clear hy hR fB f0
          gi_wp2
          refine bodyPost_ret (results_none rfl _ _ _) rfl ?_
          exact ⟨⟨_, rfl⟩, .inr ⟨_, trivial, hJx3⟩⟩

end Go.Proofs.YtiafkmjndcfjlaaDoor
