/- What toGone, toGoneS of package laws do. -/
import Derived.Test.YtnjicpdccpkbmaaEx1
import Derived.Test.YtnjicpdccpkbmaaLibOwR
namespace Go.Proofs.Ytnjicpdccpkbmaa
open Go.RowKit
set_option linter.unusedVariables false

set_option maxHeartbeats 400000 in
theorem toGone_o (x : GoneD) (w : World) :
    Calls Try.prog 73 #[.agg #[.int .i64 x.uid, .int .i64 x.seq]] w fun e w' => e = .returned (.agg #[.int .i64 x.uid, .int .i64 x.seq]) ∧ Below w.heap.size w w' := by
  obtain ⟨uid, seq⟩ := x
  simp only
  go_enter Try.func73, Try.ntmps73
  go_wp2
  exact bodyPost_ret (v := .agg #[.int .i64 uid, .int .i64 seq]) (by simp [results, Try.results73, go_sem]) rfl ⟨rfl, box3_below w _ _ _⟩

theorem infoGone : (Try.prog.info? 93).map (fun i => (i.zero, i.size, i.bytes)) = some (some (.agg #[.int .i64 0, .int .i64 0]), 2, 16) := by kernel_rfl

set_option maxRecDepth 100000 in
set_option maxHeartbeats 1000000 in
theorem toGoneS_r (v : Value) (l : List GoneD) (w : World) (hv : GonesV w v l) (hl : l.length ≤ 2000000) :
    Calls Try.prog 52 #[v] w fun e w' => ∃ u, e = .returned u ∧ GonesR w' w.heap.size w'.heap.size u l ∧ Below w.heap.size w w' := by
  have HV : Hid (∀ wi, Below w.heap.size w wi → GonesV wi v l) := fun wi h => hv.below keepsGone h
  obtain ⟨a, cap, rfl, hlc, hcm⟩ := hv.form
  have hll : l.length ≤ 2000000 := by have := Nat.le_refl l.length; omega
  clear hv
  obtain ⟨i0, hi, hz0, hz1, hz2⟩ := info_parts infoGone
  go_enter Try.func52, Try.ntmps52
  go_wp2_with (at_make; refine wpList_make_full _ rfl _ _ 49 rfl w.heap.size 93 i0 (.agg #[.int .i64 0, .int .i64 0]) 2 Try.underlying49 hi hz0 hz1 _ _ _ _ l.length rfl rfl rfl rfl ?b1 ?b2 ?b3 ?_)
  case b1 => rw [hz2]; omega
  case b2 => unfold maxLen; omega
  case b3 => exact Nat.le_refl _
  intro w1 hown hgrow
  have HB : Hid (Below w.heap.size w w1) := (Below.refl w.heap.size w).grown hgrow (Nat.le_refl _) (by simp)
  have HP : Hid (Part 93 2 GoneE w1 w.heap.size l.length 0 l) := by obtain ⟨cur, h1, h2⟩ := made_part hown; exact Part.start h1 h2
  clear hown hgrow hi hz0 hz1 hz2
  go_wp2
  go_loopw [4] (fun i wr => ∃ k : Nat, k ≤ l.length ∧ i = .int .i64 k ∧ Hid (Part 93 2 GoneE wr w.heap.size l.length k l) ∧ Hid (Below w.heap.size w wr)) (fun i _ => l.length - (intOf i).toNat)
  case atStart => exact ⟨0, Nat.zero_le _, rfl, HP, HB⟩
  case round =>
    obtain ⟨k, hk, rfl, hP, hB⟩ := hrel
    by_cases hlt : k < l.length
    · obtain ⟨x, hx⟩ : ∃ x, l[k]? = some x := ⟨l[k], List.getElem?_eq_getElem hlt⟩
      obtain ⟨b, off, cap', hv', hlb, d0, d1, i0, i1⟩ := GonesV.cell (HV.out wr hB.out) k x hx
      simp only [Value.slice.injEq, true_and] at hv'
      obtain ⟨rfl, rfl⟩ := hv'
      go_wp2_with fail
      refine (toGone_o x _).mono ?_
      rintro e w2 ⟨rfl, B⟩
      clear d0 d1
      have hs2 := B.size
      have HS : Hid (Part 93 2 GoneE (put w2 w.heap.size (k * 2) [.int .i64 x.uid, .int .i64 x.seq]) w.heap.size l.length (k + 1) l) := Part.step framesGone hP.out B x hx hlt _ rfl ⟨rfl, i0, i1⟩
      have HB2 : Hid (Below w.heap.size w w2) := Below.step hB.out B
      have hgl := hP.out.lt
      have hgl2 : w.heap.size < w2.heap.size := by omega
      obtain ⟨q0, t0⟩ := (show ∃ u, w2.cell? ⟨w.heap.size, k * 2, none⟩ = some u from by obtain ⟨⟨u, hu⟩, -⟩ := hP.out.cell (k * 2) (by omega); exact ⟨u, (B.cell (p := ⟨w.heap.size, k * 2, none⟩) hgl).trans hu⟩)
      obtain ⟨q1, t1⟩ := (show ∃ u, w2.cell? ⟨w.heap.size, k * 2 + 1, none⟩ = some u from by obtain ⟨⟨u, hu⟩, -⟩ := hP.out.cell (k * 2 + 1) (by omega); exact ⟨u, (B.cell (p := ⟨w.heap.size, k * 2 + 1, none⟩) hgl).trans hu⟩)
      have fz : ∀ i, w2.frozen? ⟨w.heap.size, i, none⟩ = false := by
        intro i
        obtain ⟨cur, cs, fs, hh, -⟩ := hP.out
        exact frozen_of_row w2 w.heap.size i cur 93 (box_below B hh)
      clear hP hB B 
      go_wp2
      go_roundw
      case rel => exact ⟨k + 1, by omega, by go_num, HS, put_below HB2.out (Nat.le_refl _) (k * 2) [.int .i64 x.uid, .int .i64 x.seq]⟩
      case measure => simp [intOf]; omega
    · obtain rfl : k = l.length := by omega
      go_wp2
      go_ret
      exact ⟨_, rfl, Part.done hP.out rfl (by unfold maxLen; omega) (Nat.le_refl _), hB.out⟩

end Go.Proofs.Ytnjicpdccpkbmaa
