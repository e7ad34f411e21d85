/- What eqByteSS, markByteSS, heldByteSS of package laws do. -/
import Derived.Test.YtiafkmjndcfjlabEx1
import Derived.Test.YtiafkmjndcfjlabLibRows
import Derived.Deep.RegionHeld3
namespace Go.Proofs.Ytiafkmjndcfjlab
open Go.RowKit

set_option maxHeartbeats 400000 in
theorem eqByteSS_yes (v u : Value) (n : Nat) (f : Nat → List Int) (w : World) (hv : SsF w v n f) (hu : SsF w u n f) (hn : n ≤ 2000000) :
    Calls Try.prog 27 #[v, u] w fun e w' => e = .returned (.bool true) ∧ Below w.heap.size w w' := by
  obtain ⟨a, cap, us, rfl, hlc, hcm, hcells, hrows⟩ := hv
  obtain ⟨a', cap', us', rfl, hlc', hcm', hcells', hrows'⟩ := hu
  unfold maxLen at hcm hcm'
  go_enter Try.func27, Try.ntmps27
  go_wp2
  go_loopw [5] (fun i wr => ∃ k : Nat, k ≤ n ∧ i = .int .i64 k ∧ Hid (Below w.heap.size w wr)) (fun i _ => n - (intOf i).toNat)
  case atStart => exact ⟨0, Nat.zero_le _, rfl, Below.refl _ _⟩
  case round =>
    obtain ⟨k, hk, rfl, hW⟩ := hrel
    by_cases hlt : k < n
    · obtain ⟨b, off, rfl, hlb, hc⟩ := hcells (by omega)
      obtain ⟨b', off', rfl, hlb', hc'⟩ := hcells' (by omega)
      have hx : wr.cell? ⟨b, off + k, none⟩ = some (us k) := (hW.out.cell (p := ⟨b, off + k, none⟩) hlb).trans (hc k hlt)
      have hx' : wr.cell? ⟨b', off' + k, none⟩ = some (us' k) := (hW.out.cell (p := ⟨b', off' + k, none⟩) hlb').trans (hc' k hlt)
      have HA : Hid (Bs wr.drew (us k) (f k) ∧ Bs wr.drew (us' k) (f k)) := ⟨(hrows k hlt).below hW.out.drew, (hrows' k hlt).below hW.out.drew⟩
      clear hc hc' hcells hcells' hrows hrows'
      generalize us k = U at hx HA
      generalize us' k = U' at hx' HA
      go_wp2
      go_region_held3 (fun w' => w'.cell? ⟨b, off + k, none⟩ = some U ∧ w'.cell? ⟨b', off' + k, none⟩ = some U')
        (first | go_keep | exact ⟨hx, hx'⟩ | exact ⟨(B.cell (by exact Nat.lt_of_lt_of_le hlb hW.out.size)).trans hx, (B.cell (by exact Nat.lt_of_lt_of_le hlb' hW.out.size)).trans hx'⟩)
        ((go_at_call 11; refine (eqByteS_yes _ _ (f k) _ HA.out.1 HA.out.2).mono ?_; rintro e w1 ⟨rfl, B⟩))
      go_wp2
      go_roundw
      case rel => exact ⟨k + 1, by omega, by go_num, Below.step hW.out (Below.step ((Below.refl _ _).drew) B)⟩
      case measure => simp [intOf]; omega
    · go_wp2
      go_ret
      exact ⟨rfl, hW.out⟩

set_option maxHeartbeats 400000 in
theorem markByteSS_f (B T : Nat) (v : Value) (us : List Value) (f : Nat → List Int) (k : Int) (w : World) (hv : RowF w B T v us f) (hl : us.length ≤ 2000000) (ht : pre (fun i => (f i).length) us.length ≤ 2000000) (hk0 : 0 ≤ k) (hk1 : k ≤ 100000000000) :
    Calls Try.prog 28 #[v, .int .i64 k] w fun e w' => e = .returned (.int .i64 (k + pre (fun i => (f i).length) us.length)) ∧ RowF w' B T v us (fun i => marks (k + pre (fun i => (f i).length) i) (f i).length) ∧ Within B T w w' := by
  have HV : Hid (RowF w B T v us f) := hv
  obtain ⟨a, n, cap, rfl⟩ := hv.ss.form3
  obtain rfl : n = us.length := by obtain ⟨x, y, z, h, _⟩ := hv.ss; simp only [Value.slice.injEq] at h; exact h.2.1
  have hcap : us.length ≤ cap ∧ cap ≤ 9223372036854775807 := by obtain ⟨x, y, z, h, h1, h2, _⟩ := hv.ss; simp only [Value.slice.injEq] at h; obtain ⟨-, -, rfl⟩ := h; exact ⟨h1, h2⟩
  clear hv
  obtain ⟨hcap0, hcap1⟩ := hcap
  go_enter Try.func28, Try.ntmps28
  go_wp2
  go_loopw [1, 5] (fun q i wr => ∃ j : Nat, j ≤ us.length ∧ i = .int .i64 j ∧ q = .int .i64 (k + pre (fun i => (f i).length) j) ∧ Hid (RowF wr B T (.slice a us.length cap) us (fun i => if i < j then marks (k + pre (fun i => (f i).length) i) (f i).length else f i)) ∧ Hid (Within B T w wr)) (fun _ i _ => us.length - (intOf i).toNat)
  case atStart => exact ⟨0, Nat.zero_le _, rfl, by simp [pre], by simpa [Hid] using HV.out, Within.refl _ _ _⟩
  case round =>
    obtain ⟨j, hj, rfl, rfl, hR, hW⟩ := hrel
    by_cases hlt : j < us.length
    · obtain ⟨b, off, hab, hc⟩ : ∃ b off, a = some ⟨b, off, none⟩ ∧ wr.cell? ⟨b, off + j, none⟩ = some (us.getD j (.slice none 0 0)) := by
        rcases hR.out.row.2 with ⟨hn, hz⟩ | ⟨g, cap', cur, hv', hg, hh, h1, h2, h3, h4⟩
        · omega
        · simp only [Value.slice.injEq] at hv'
          refine ⟨g, 0, hv'.1, ?_⟩
          rw [Nat.zero_add, cell_of_row wr g j cur 22 (0, 0) hh]
          rw [Nat.mul_one] at h4
          have e : us[j]? = some (us.getD j (.slice none 0 0)) := by simp [hlt]
          rw [← h4, List.getElem?_take, if_pos hlt] at e
          rw [h4] at e
          simpa using e
      subst hab
      have hu : us[j]? = some (us.getD j (.slice none 0 0)) := by simp [hlt]
      generalize us.getD j (.slice none 0 0) = U at hc hu
      have hr := hR.out.rows j U hu
      simp only [Nat.lt_irrefl, if_false] at hr
      have hp1 : pre (fun i => (f i).length) (j + 1) = pre (fun i => (f i).length) j + (f j).length := rfl
      have hp2 := pre_mono (fun i => (f i).length) (show j + 1 ≤ us.length by omega)
      have hp3 : (f j).length ≤ 2000000 := by omega
      have hp4 : pre (fun i => (f i).length) j ≤ 2000000 := by omega
      have HU : Hid (us[j]? = some U) := hu
      have HR : Hid (Row wr B T U (f j)) := hr
      have HP : Hid (pre (fun i => (f i).length) (j + 1) = pre (fun i => (f i).length) j + (f j).length) := hp1
      clear hu hr hp1 hp2
      generalize hq : pre (fun i => (f i).length) j = q at hp4 HP
      have HQ : Hid (pre (fun i => (f i).length) j = q) := hq
      clear hq
      go_wp2_with fail
      refine (markByteS_r B T _ (f j) _ _ HR.out hp3 (by omega) (by omega)).mono ?_
      rintro e w1 ⟨rfl, R1, G⟩
      have HN : Hid (RowF w1 B T (.slice (some ⟨b, off, none⟩) us.length cap) us (fun i => if i < j + 1 then marks (k + pre (fun i => (f i).length) i) (f i).length else f i)) := by
        refine (hR.out.wrote HU.out G R1).congr fun i hi => ?_
        by_cases h1 : i = j
        · subst h1; simp [HQ.out]
        · simp only [if_neg h1]
          by_cases h2 : i < j
          · simp [h2, show i < j + 1 by omega]
          · simp [h2, show ¬ i < j + 1 by omega]
      have HW2 : Hid (Within B T w w1) := hW.out.trans (HR.out.within G)
      clear R1 G hR hW HR HU
      go_wp2
      go_roundw
      case rel => exact ⟨j + 1, by omega, by go_num, by rw [HP.out]; go_num, HN, HW2⟩
      case measure => simp [intOf]; omega
    · obtain rfl : j = us.length := by omega
      go_wp2
      go_ret
      refine ⟨rfl, hR.out.congr fun i hi => ?_, hW.out⟩
      simp [hi]

set_option maxHeartbeats 400000 in
theorem heldByteSS_yes (v : Value) (n : Nat) (m : Nat → Nat) (k : Int) (w : World) (hv : SsF w v n (fun i => marks (k + pre m i) (m i))) (hn : n ≤ 2000000) (ht : pre m n ≤ 2000000) (hk0 : 0 ≤ k) (hk1 : k ≤ 100000000000) :
    Calls Try.prog 29 #[v, .int .i64 k] w fun e w' => e = .returned (.int .i64 (k + pre m n)) ∧ Below w.heap.size w w' := by
  obtain ⟨a, cap, us, rfl, hlc, hcm, hcells, hrows⟩ := hv
  unfold maxLen at hcm
  go_enter Try.func29, Try.ntmps29
  go_wp2
  go_loopw [1, 5] (fun q i wr => ∃ j : Nat, j ≤ n ∧ i = .int .i64 j ∧ q = .int .i64 (k + pre m j) ∧ Hid (Below w.heap.size w wr)) (fun _ i _ => n - (intOf i).toNat)
  case atStart => exact ⟨0, Nat.zero_le _, rfl, by simp [pre], Below.refl _ _⟩
  case round =>
    obtain ⟨j, hj, rfl, rfl, hW⟩ := hrel
    by_cases hlt : j < n
    · obtain ⟨b, off, rfl, hlb, hc⟩ := hcells (by omega)
      have hx : wr.cell? ⟨b, off + j, none⟩ = some (us j) := (hW.out.cell (p := ⟨b, off + j, none⟩) hlb).trans (hc j hlt)
      have HA : Hid (Bs wr (us j) (marks (k + pre m j) (m j))) := (hrows j hlt).below hW.out
      have HP : Hid (pre m (j + 1) = pre m j + m j) := rfl
      have hp2 := pre_mono m (show j + 1 ≤ n by omega)
      rw [HP.out] at hp2
      have hp3 : m j ≤ 2000000 := by omega
      have hp4 : pre m j ≤ 2000000 := by omega
      clear hc hcells hrows hp2
      generalize us j = U at hx HA
      generalize hq : pre m j = q at hp4 HP HA
      clear hq
      generalize m j = M at hp3 HP HA
      go_wp2_with fail
      refine (heldByteS_yes _ M _ _ HA.out hp3 (by omega) (by omega)).mono ?_
      rintro e w1 ⟨rfl, B⟩
      have HW2 : Hid (Below w.heap.size w w1) := Below.step hW.out B
      clear B hW HA
      go_wp2
      go_roundw
      case rel => exact ⟨j + 1, by omega, by go_num, by rw [HP.out]; go_num, HW2⟩
      case measure => simp [intOf]; omega
    · obtain rfl : j = n := by omega
      go_wp2
      go_ret
      exact ⟨rfl, hW.out⟩

/-- The marks of a list of rows. -/
def marksS (k : Int) (ls : List (List Int)) : List (List Int) := (List.range ls.length).map fun i => marks (k + pre (fun i => (ls.getD i []).length) i) (ls.getD i []).length
/-- How many bytes a list of rows has. -/
def totS (ls : List (List Int)) : Nat := pre (fun i => (ls.getD i []).length) ls.length

theorem eqByteSS_s (v u : Value) (ls : List (List Int)) (w : World) (hv : SsF w v ls.length (fun i => ls.getD i [])) (hu : SsF w u ls.length (fun i => ls.getD i [])) (hn : ls.length ≤ 2000000) :
    Calls Try.prog 27 #[v, u] w fun e w' => e = .returned (.bool true) ∧ Below w.heap.size w w' := eqByteSS_yes v u _ _ w hv hu hn
theorem markByteSS_s (B T : Nat) (v : Value) (ls : List (List Int)) (k : Int) (w : World) (hv : RowS w B T v ls) (hl : ls.length ≤ 2000000) (ht : totS ls ≤ 2000000) (hk0 : 0 ≤ k) (hk1 : k ≤ 100000000000) :
    Calls Try.prog 28 #[v, .int .i64 k] w fun e w' => e = .returned (.int .i64 (k + totS ls)) ∧ RowS w' B T v (marksS k ls) ∧ Within B T w w' := by
  obtain ⟨us, e, h⟩ := hv
  have ht' : pre (fun i => (ls.getD i []).length) us.length ≤ 2000000 := by rw [e]; exact ht
  refine (markByteSS_f B T v us _ k w h (by omega) ht' hk0 hk1).mono fun x w' ⟨h1, h2, h3⟩ => ⟨by rw [h1, e]; rfl, ⟨us, by simp [marksS, e], h2.congr fun i hi => ?_⟩, h3⟩
  rw [e] at hi
  simp [marksS, hi]
theorem heldByteSS_s (v : Value) (ls : List (List Int)) (k : Int) (w : World) (hv : SsF w v (marksS k ls).length (fun i => (marksS k ls).getD i [])) (hn : ls.length ≤ 2000000) (ht : totS ls ≤ 2000000) (hk0 : 0 ≤ k) (hk1 : k ≤ 100000000000) :
    Calls Try.prog 29 #[v, .int .i64 k] w fun e w' => e = .returned (.int .i64 (k + totS ls)) ∧ Below w.heap.size w w' := by
  have e : (marksS k ls).length = ls.length := by simp [marksS]
  rw [e] at hv
  refine heldByteSS_yes v ls.length (fun i => (ls.getD i []).length) k w (hv.congr fun i hi => ?_) hn ht hk0 hk1
  simp [marksS, hi]

end Go.Proofs.Ytiafkmjndcfjlab
