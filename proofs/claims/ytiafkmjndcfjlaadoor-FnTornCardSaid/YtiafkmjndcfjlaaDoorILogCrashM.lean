/- What the method crash of package impl does. -/
import Derived.Test.YtiafkmjndcfjlaaDoorILogOk
import Derived.Test.YtiafkmjndcfjlaaDoorJoined
import Derived.Test.YtiafkmjndcfjlaaDoorLogM
import Derived.Test.YtiafkmjndcfjlaaDoorLibSet
namespace Go.Proofs.YtiafkmjndcfjlaaDoor
open Go.RowKit
set_option maxRecDepth 100000

set_option maxHeartbeats 1000000 in
/-- The method: the log of block g keeps the first bytes of its tail. -/
theorem crash_m (g : Nat) (v0 v1 : Value) (a b : List Int) (keep : Int) (w : World) (hg : w.heap[g]? = some (.cells #[v0, v1] 24 (0, 0))) (g0 : Bs w v0 a) (g1 : Bs w v1 b) (ha : a.length ≤ 4000000) (hb : b.length ≤ 4000000) (hn0 : -9223372036854775808 ≤ keep) (hn1 : keep ≤ 9223372036854775807) :
    Calls Tryd.prog 26 #[.pointer (some ⟨g, 0, none⟩), .int .i64 keep] w fun e w' => (∃ z, e = .returned z) ∧ ∃ u, w'.heap[g]? = some (.cells #[u, .slice none 0 0] 24 (0, 0)) ∧ Row w' w.heap.size w'.heap.size u (a ++ b.take (keepN b.length keep)) ∧ Within g (g + 1) w w' := by
  have HW : Hid (∀ wi, Below w.heap.size w wi → Bs wi v0 a ∧ Bs wi v1 b) := fun wi h => ⟨g0.below h, g1.below h⟩
  obtain ⟨a0, c0, rfl⟩ := g0.form
  obtain ⟨a1, c1, rfl⟩ := g1.form
  obtain ⟨hcap, -⟩ := g1.cap
  clear g0 g1
  have hK := keepN_le b.length keep
  have HK : Hid ((keep < 0 ∧ keepN b.length keep = 0) ∨ (0 ≤ keep ∧ keep ≤ b.length ∧ (keepN b.length keep : Int) = keep) ∨ ((b.length : Int) < keep ∧ keepN b.length keep = b.length)) := by
    unfold Hid keepN
    by_cases h : keep < 0
    · left; rw [if_pos h]; exact ⟨h, rfl⟩
    · right
      rw [if_neg h]
      omega
  generalize keepN b.length keep = K at hK HK
  have hlen : (b.take K).length ≤ 4000000 := by simp; omega
  obtain ⟨f0, f1, z0, z1, -⟩ := box2 hg
  have hlt := lt_of_heap hg
  have HS : Hid (∀ w', Below w.heap.size w w' → w'.cell? ⟨g, 0, none⟩ = some (.slice a0 a.length c0) ∧ w'.cell? ⟨g, 1, none⟩ = some (.slice a1 b.length c1) ∧ w'.frozen? ⟨g, 0, none⟩ = false ∧ w'.frozen? ⟨g, 1, none⟩ = false ∧ Bs w' (.slice a0 a.length c0) a ∧ Bs w' (.slice a1 K c1) (b.take K) ∧ w'.heap[g]? = some (.cells #[.slice a0 a.length c0, .slice a1 b.length c1] 24 (0, 0))) := by
    intro w' h
    have hh := box_below h hg
    obtain ⟨q0, q1, y0, y1, -⟩ := box2 hh
    exact ⟨q0, q1, y0, y1, (HW.out _ h).1, bs_first (HW.out _ h).2 K hK, hh⟩
  clear hg
  have hK0 : (0 : Int) ≤ (K : Int) := by omega
  have hK1 : (K : Int) ≤ (c1 : Int) := by omega
  rcases HK.out with ⟨h, rfl⟩ | ⟨h, h', rfl⟩ | ⟨h, rfl⟩
  all_goals
    go_enter Tryd.func26, Tryd.ntmps26
    have DR : Below w.heap.size w w.drew := (Below.refl _ _).drew
    go_wp2
    go_region_with (go_at_call 22; refine (joined_any _ _ a (b.take _) _ (HS.out _ DR).2.2.2.2.1 (HS.out _ DR).2.2.2.2.2.1 ha hlen).mono ?_; rintro e w1 ⟨r, rfl, hO, B⟩; obtain ⟨r0, r1, r2, rfl⟩ := hO.bs.form3; obtain ⟨q0, q1, y0, y1, -, -, kk⟩ := HS.out _ (Below.step DR B))
    all_goals
      have HR : Hid (Row w1 w.heap.size w1.heap.size (.slice r0 r1 r2) _ ∧ Below w.heap.size w w1) := ⟨hO.toRow, Below.step DR B⟩
      have HK1 : Hid (w1.heap[g]? = _) := kk
      clear f0 f1 z0 z1 kk hO B DR HS
      go_wp2
      go_end0
      refine ⟨⟨_, rfl⟩, _, box2_set1 (box2_set0 HK1.out), ?_, ?_⟩
      · exact ((HR.out.1.set (.inl (by omega))).set (.inl (by omega))).wide (Nat.le_refl _) (by simp [World.setCell])
      · exact within_set1 (within_set1 (Within.ofBelow HR.out.2))

end Go.Proofs.YtiafkmjndcfjlaaDoor
