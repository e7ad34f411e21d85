/- What Write of package impl does. -/
import Derived.Test.YtiafkmjndcfjlaaDoorILogOk
import Derived.Test.YtiafkmjndcfjlaaDoorJoined
import Derived.Test.YtiafkmjndcfjlaaDoorIPutNum
import Derived.Test.YtiafkmjndcfjlaaDoorIIs
import Derived.Test.YtiafkmjndcfjlaaDoorWrM
import Derived.Test.YtiafkmjndcfjlaaDoorLibSet
import Derived.Deep.RegionWith
namespace Go.Proofs.YtiafkmjndcfjlaaDoor
open Go.RowKit
set_option maxRecDepth 100000

theorem put_frame (b r : List Int) (h : r.length ≤ 6000) : putL b r.length ++ r = b ++ frameL r := by
  unfold frameL putL
  rw [if_pos (by omega), if_pos (by omega)]
  simp

/-- The variable that holds the sentinel. -/
def Sent (w : World) (ea : Addr) : Prop := w.cell? ⟨0, 0, none⟩ = some (.iface 89 (.pointer (some ea)))
theorem Sent.cell {w : World} {ea : Addr} (h : Sent w ea) : w.cell? ⟨0, 0, none⟩ = some (.iface 89 (.pointer (some ea))) := h
theorem Sent.lt {w : World} {ea : Addr} (h : Sent w ea) : 0 < w.heap.size := World.block_lt_of_cell? w _ h
theorem Sent.below {w w' : World} {ea : Addr} (h : Sent w ea) (hb : Below w.heap.size w w') : Sent w' ea := (hb.cell (p := ⟨0, 0, none⟩) h.lt).trans h
theorem Sent.within {w w' : World} {ea : Addr} {B T : Nat} (h : Sent w ea) (hw : Within B T w w') (hB : 0 < B) : Sent w' ea := (World.cell?_of_block (a := ⟨0, 0, none⟩) (hw.block 0 h.lt (by omega))).trans h

set_option maxHeartbeats 1000000 in
/-- The method, where the record fits. -/
theorem write_fits (g : Nat) (v0 v1 u : Value) (a b r : List Int) (w : World) (hg : w.heap[g]? = some (.cells #[v0, v1] 24 (0, 0))) (g0 : Bs w v0 a) (g1 : Bs w v1 b) (gu : Bs w u r) (ha : a.length ≤ 2000000) (hb : b.length ≤ 2000000) (hf : fitsB a b r = true) :
    Calls Tryd.prog 24 #[.pointer (some ⟨g, 0, none⟩), u] w fun e w' => e = .returned .nilIface ∧ ∃ x, w'.heap[g]? = some (.cells #[v0, x] 24 (0, 0)) ∧ Row w' w.heap.size w'.heap.size x (b ++ frameL r) ∧ Within g (g + 1) w w' := by
  obtain ⟨h1, h2⟩ : r.length ≤ 6000 ∧ (frameL r).length + a.length + b.length ≤ 1000000 := by simpa [fitsB] using hf
  have HW : Hid (∀ wi, Below w.heap.size w wi → Bs wi v0 a ∧ Bs wi v1 b ∧ Bs wi u r) := fun wi h => ⟨g0.below h, g1.below h, gu.below h⟩
  obtain ⟨a0, n0, c0, rfl⟩ := g0.form3
  obtain ⟨a1, n1, c1, rfl⟩ := g1.form3
  obtain ⟨a2, c2, rfl⟩ := gu.form
  have HG : Hid (∀ wi, Below w.heap.size w wi → wi.heap[g]? = some (.cells #[.slice a0 n0 c0, .slice a1 n1 c1] 24 (0, 0))) := fun wi h => box_below h hg
  obtain ⟨f0, f1, z0, z1, -⟩ := box2 hg
  have hlt := lt_of_heap hg
  clear g0 g1 gu hg hf
  have h1' : ¬ (6000 : Int) < (r.length : Int) := by omega
  have HFE := put_frame b r h1
  have hpl := putL_length b r.length
  go_enter Tryd.func24, Tryd.ntmps24
  go_wp2_with fail
  refine (implPutNum_r _ b r.length _ (HW.out _ (Below.refl _ _)).2.1 (by omega) (by omega) (by omega)).mono ?_
  rintro e w1 ⟨p, rfl, R1, B1⟩
  have HR1 : Hid (Bs w1 p (putL b r.length)) := R1.bs
  obtain ⟨p0, p1, p2, rfl⟩ := R1.bs.form3
  have HX1 : Hid (Below w.heap.size w w1) := B1
  clear R1 B1
  go_wp2_with fail
  refine (joined_r _ _ (putL b r.length) r _ HR1.out (HW.out _ HX1.out).2.2 (by omega) (by omega)).mono ?_
  rintro e w2 ⟨t, rfl, R2, B2⟩
  rw [HFE] at R2
  have HX2 : Hid (Below w.heap.size w w2) := Below.step HX1.out B2
  obtain ⟨t0, t1, t2, rfl⟩ := R2.bs.form3
  have HR2 : Hid (Row w2 w.heap.size w2.heap.size (.slice t0 t1 t2) (b ++ frameL r)) := R2.wide HX1.out.size (Nat.le_refl _)
  clear f0 f1 z0 z1 R2 B2 HFE
  obtain ⟨f0, f1, z0, z1, -⟩ := box2 (HG.out _ HX2.out)
  go_wp2_with fail
  refine (implLogOk_any _ a (b ++ frameL r) _ ⟨_, _, rfl, (HW.out _ HX2.out).1, HR2.out.bs⟩ (by omega) (by simp; omega)).mono ?_
  rintro e w3 ⟨rfl, B3⟩
  have hd : decide (a.length + (b ++ frameL r).length ≤ 1000000) = true := by simp; omega
  rw [hd]
  clear hd
  have HX3 : Hid (Below w.heap.size w w3) := Below.step HX2.out B3
  have HR3 : Hid (Row w3 w.heap.size w3.heap.size (.slice t0 t1 t2) (b ++ frameL r)) := (HR2.out.below B3).wide (Nat.le_refl _) B3.size
  clear f0 f1 z0 z1 B3
  obtain ⟨f0, f1, z0, z1, -⟩ := box2 (HG.out _ HX3.out)
  go_wp2
  go_ret
  refine ⟨rfl, _, box2_set1 (HG.out _ HX3.out), ?_, within_set1 (Within.ofBelow HX3.out)⟩
  exact (HR3.out.set (.inl (by omega))).wide (Nat.le_refl _) (by simp [World.setCell])

set_option maxHeartbeats 1000000 in
/-- The method, where there is no room. -/
theorem write_not (g : Nat) (v0 v1 u : Value) (a b r : List Int) (ea : Addr) (w : World) (hg : w.heap[g]? = some (.cells #[v0, v1] 24 (0, 0))) (g0 : Bs w v0 a) (g1 : Bs w v1 b) (gu : Bs w u r) (hs : Sent w ea) (ha : a.length ≤ 2000000) (hb : b.length ≤ 2000000) (hr : r.length ≤ 2000000) (hf : fitsB a b r = false) :
    Calls Tryd.prog 24 #[.pointer (some ⟨g, 0, none⟩), u] w fun e w' => e = .returned (.iface 89 (.pointer (some ea))) ∧ Below w.heap.size w w' := by
  have h12 : ¬ (r.length ≤ 6000 ∧ (frameL r).length + a.length + b.length ≤ 1000000) := by simpa [fitsB] using hf
  have HS : Hid (∀ wi, Below w.heap.size w wi → Sent wi ea) := fun wi h => hs.below h
  have HW : Hid (∀ wi, Below w.heap.size w wi → Bs wi v0 a ∧ Bs wi v1 b ∧ Bs wi u r) := fun wi h => ⟨g0.below h, g1.below h, gu.below h⟩
  obtain ⟨a0, n0, c0, rfl⟩ := g0.form3
  obtain ⟨a1, n1, c1, rfl⟩ := g1.form3
  obtain ⟨a2, c2, rfl⟩ := gu.form
  have HG : Hid (∀ wi, Below w.heap.size w wi → wi.heap[g]? = some (.cells #[.slice a0 n0 c0, .slice a1 n1 c1] 24 (0, 0))) := fun wi h => box_below h hg
  obtain ⟨f0, f1, z0, z1, -⟩ := box2 hg
  have hlt := lt_of_heap hg
  have hE := hs.cell
  clear g0 g1 gu hg hf hs
  by_cases h1 : r.length ≤ 6000
  · have h2 : ¬ (frameL r).length + a.length + b.length ≤ 1000000 := fun h => h12 ⟨h1, h⟩
    have h1' : ¬ (6000 : Int) < (r.length : Int) := by omega
    have HFE := put_frame b r h1
    have hpl := putL_length b r.length
    have hfl := frameL_length r
    clear h12 hE
    go_enter Tryd.func24, Tryd.ntmps24
    go_wp2_with fail
    refine (implPutNum_r _ b r.length _ (HW.out _ (Below.refl _ _)).2.1 (by omega) (by omega) (by omega)).mono ?_
    rintro e w1 ⟨p, rfl, R1, B1⟩
    have HR1 : Hid (Bs w1 p (putL b r.length)) := R1.bs
    obtain ⟨p0, p1, p2, rfl⟩ := R1.bs.form3
    have HX1 : Hid (Below w.heap.size w w1) := B1
    clear R1 B1
    go_wp2_with fail
    refine (joined_r _ _ (putL b r.length) r _ HR1.out (HW.out _ HX1.out).2.2 (by omega) (by omega)).mono ?_
    rintro e w2 ⟨t, rfl, R2, B2⟩
    rw [HFE] at R2
    have HX2 : Hid (Below w.heap.size w w2) := Below.step HX1.out B2
    obtain ⟨t0, t1, t2, rfl⟩ := R2.bs.form3
    have HR2 : Hid (Bs w2 (.slice t0 t1 t2) (b ++ frameL r)) := R2.bs
    clear f0 f1 z0 z1 R2 B2 HFE
    obtain ⟨f0, f1, z0, z1, -⟩ := box2 (HG.out _ HX2.out)
    go_wp2_with fail
    refine (implLogOk_any _ a (b ++ frameL r) _ ⟨_, _, rfl, (HW.out _ HX2.out).1, HR2.out⟩ (by omega) (by simp; omega)).mono ?_
    rintro e w3 ⟨rfl, B3⟩
    have hd : decide (a.length + (b ++ frameL r).length ≤ 1000000) = false := by simp; omega
    rw [hd]
    clear hd
    have HX3 : Hid (Below w.heap.size w w3) := Below.step HX2.out B3
    clear f0 f1 z0 z1 B3
    have hE := (HS.out _ HX3.out).cell
    go_wp2
    go_ret
    exact ⟨rfl, HX3.out⟩
  · have h1' : (6000 : Int) < (r.length : Int) := by omega
    go_enter Tryd.func24, Tryd.ntmps24
    go_wp2
    go_ret
    exact ⟨rfl, Below.refl _ _⟩

set_option maxHeartbeats 2000000 in
theorem implWrite_r (v u : Value) (a b r : List Int) (ea : Addr) (w : World) (hv : LogV w v a b) (hu : Bs w u r) (hs : Sent w ea) (ha : a.length ≤ 2000000) (hb : b.length ≤ 2000000) (hr : r.length ≤ 2000000) :
    Calls Tryd.prog 8 #[v, u] w fun e w' => ∃ x, e = .returned (.tuple #[x, .bool (wrOk a b r)]) ∧ LogR w' w.heap.size w'.heap.size x (wrA a b) (wrB a b r) ∧ Below w.heap.size w w' := by
  have HV : Hid (∀ wi, Below w.heap.size w wi → LogV wi v a b) := fun wi h => hv.below h
  obtain ⟨v0, v1, rfl, g0, g1⟩ := hv
  have HW : Hid (∀ wi, Below w.heap.size w wi → Bs wi v0 a ∧ Bs wi v1 b ∧ Bs wi u r ∧ Sent wi ea) := fun wi h => ⟨g0.below h, g1.below h, hu.below h, hs.below h⟩
  obtain ⟨a0, n0, c0, rfl⟩ := g0.form3
  obtain ⟨a1, n1, c1, rfl⟩ := g1.form3
  obtain ⟨a2, n2, c2, rfl⟩ := hu.form3
  have hpos : 0 < w.heap.size := hs.lt
  clear g0 g1 hu hs
  have hb2 := boxes2 w (.cells #[.slice a0 n0 c0, .slice a1 n1 c1] 24) (.cells #[.slice none 0 0, .slice none 0 0] 24)
  go_enter Tryd.func8, Tryd.ntmps8
  go_wp2_with fail
  refine (implLogOk_any _ a b _ (HV.out _ hb2.2.2) (by omega) (by omega)).mono ?_
  rintro e w1 ⟨rfl, B⟩
  have k0 := box_below B hb2.1
  have k1 := box_below B hb2.2.1
  have HX : Hid (Below w.heap.size w w1) := Below.step hb2.2.2 B
  have s1 : w.heap.size + 1 < w1.heap.size := lt_of_heap k1
  obtain ⟨f00, f01, z00, z01, -⟩ := box2 k0
  obtain ⟨f10, f11, z10, z11, -⟩ := box2 k1
  have HK : Hid (w1.heap[w.heap.size]? = some (.cells #[.slice a0 n0 c0, .slice a1 n1 c1] 24 (0, 0)) ∧ w1.heap[w.heap.size + 1]? = some (.cells #[.slice none 0 0, .slice none 0 0] 24 (0, 0))) := ⟨k0, k1⟩
  clear hb2 B k0 k1 HV
  by_cases hok : a.length + b.length ≤ 1000000
  · have HP : Hid (wrA a b = a ∧ wrB a b r = writeB a b r ∧ wrOk a b r = fitsB a b r) := by simp [Hid, wrA, wrB, wrOk, hok]
    have hd : decide (a.length + b.length ≤ 1000000) = true := by simp [hok]
    rw [hd]
    clear hd
    go_wp2_with fail
    refine (joined_r _ _ a [] _ (HW.out _ HX.out).1 (bs_nil _) (by omega) (by simp)).mono ?_
    rintro e w2 ⟨p, rfl, R2, B2⟩
    rw [List.append_nil] at R2
    obtain ⟨p0, p1, p2, rfl⟩ := R2.bs.form3
    have s2 : w1.heap.size ≤ w2.heap.size := B2.size
    have HX2 : Hid (Below w.heap.size w w2) := Below.step HX.out B2
    have HR2 : Hid (Row w2 w1.heap.size w2.heap.size (.slice p0 p1 p2) a) := R2
    have HK2 : Hid (w2.heap[w.heap.size]? = some (.cells #[.slice a0 n0 c0, .slice a1 n1 c1] 24 (0, 0)) ∧ w2.heap[w.heap.size + 1]? = some (.cells #[.slice none 0 0, .slice none 0 0] 24 (0, 0))) := ⟨box_below B2 HK.out.1, box_below B2 HK.out.2⟩
    clear f00 f01 z00 z01 f10 f11 z10 z11 R2 B2 HK
    obtain ⟨f00, f01, z00, z01, -⟩ := box2 HK2.out.1
    go_wp2_with fail
    obtain ⟨w3, hw3⟩ : ∃ w3, w2.setCell ⟨w.heap.size, 0, none⟩ (.slice p0 p1 p2) = w3 := ⟨_, rfl⟩
    rw [hw3]
    have HX3 : Hid (Below w.heap.size w w3) := by rw [← hw3]; exact HX2.out.setCell (by simp) _
    have HR3 : Hid (Row w3 w1.heap.size w2.heap.size (.slice p0 p1 p2) a) := by rw [← hw3]; exact HR2.out.set (.inl (by omega))
    have HK3 : Hid (w3.heap[w.heap.size]? = some (.cells #[.slice p0 p1 p2, .slice a1 n1 c1] 24 (0, 0)) ∧ w3.heap[w.heap.size + 1]? = some (.cells #[.slice none 0 0, .slice none 0 0] 24 (0, 0))) := by rw [← hw3]; exact ⟨box2_set0 HK2.out.1, box_other HK2.out.2 (by omega)⟩
    have s3 : w3.heap.size = w2.heap.size := by rw [← hw3]; simp [World.setCell]
    have HS3 : Hid (w3.heap.size = w2.heap.size) := s3
    clear f00 f01 z00 z01 hw3 s3 HK2 HR2 HX2 HX
    refine (joined_r _ _ b [] _ (HW.out _ HX3.out).2.1 (bs_nil _) (by omega) (by simp)).mono ?_
    rintro e w4 ⟨q, rfl, R4, B4⟩
    rw [List.append_nil] at R4
    obtain ⟨q0, q1, q2, rfl⟩ := R4.bs.form3
    have s4 : w2.heap.size ≤ w4.heap.size := by have := B4.size; rw [HS3.out] at this; exact this
    have HX4 : Hid (Below w.heap.size w w4) := Below.step HX3.out B4
    have HR4 : Hid (Row w4 w2.heap.size w4.heap.size (.slice q0 q1 q2) b ∧ Row w4 w1.heap.size w2.heap.size (.slice p0 p1 p2) a) := ⟨by rw [← HS3.out]; exact R4, HR3.out.below B4⟩
    have HK4 : Hid (w4.heap[w.heap.size]? = some (.cells #[.slice p0 p1 p2, .slice a1 n1 c1] 24 (0, 0)) ∧ w4.heap[w.heap.size + 1]? = some (.cells #[.slice none 0 0, .slice none 0 0] 24 (0, 0))) := ⟨box_below B4 HK3.out.1, box_below B4 HK3.out.2⟩
    clear R4 B4 HR3 HK3 HX3 HS3
    obtain ⟨f00, f01, z00, z01, -⟩ := box2 HK4.out.1
    go_wp2
    obtain ⟨w5, hw5⟩ : ∃ w5, w4.setCell ⟨w.heap.size, 1, none⟩ (.slice q0 q1 q2) = w5 := ⟨_, rfl⟩
    rw [hw5]
    have HX5 : Hid (Below w.heap.size w w5) := by rw [← hw5]; exact HX4.out.setCell (by simp) _
    have HR5 : Hid (Row w5 w2.heap.size w4.heap.size (.slice q0 q1 q2) b ∧ Row w5 w1.heap.size w2.heap.size (.slice p0 p1 p2) a) := by rw [← hw5]; exact ⟨HR4.out.1.set (.inl (by omega)), HR4.out.2.set (.inl (by omega))⟩
    have HK5 : Hid (w5.heap[w.heap.size]? = some (.cells #[.slice p0 p1 p2, .slice q0 q1 q2] 24 (0, 0)) ∧ w5.heap[w.heap.size + 1]? = some (.cells #[.slice none 0 0, .slice none 0 0] 24 (0, 0))) := by rw [← hw5]; exact ⟨box2_set1 HK4.out.1, box_other HK4.out.2 (by omega)⟩
    have s5 : w4.heap.size ≤ w5.heap.size := by rw [← hw5]; simp [World.setCell]
    have hS : w5.cell? ⟨0, 0, none⟩ = some (.iface 89 (.pointer (some ea))) := (HW.out _ HX5.out).2.2.2.cell
    have DR : Below w5.heap.size w5 w5.drew := (Below.refl _ _).drew
    have HD : Hid (Bs w5.drew (.slice p0 p1 p2) a ∧ Bs w5.drew (.slice q0 q1 q2) b ∧ Bs w5.drew (.slice a2 n2 c2) r ∧ Sent w5.drew ea) := ⟨HR5.out.2.bs.below DR, HR5.out.1.bs.below DR, (HW.out _ (Below.step HX5.out DR)).2.2.1, (HW.out _ (Below.step HX5.out DR)).2.2.2⟩
    clear f00 f01 z00 z01 hw5 HX4 HR4 HK4
    cases hfit : fitsB a b r with
    | true =>
      have HFT : Hid (fitsB a b r = true) := hfit
      have HQ : Hid (writeB a b r = b ++ frameL r) := by simp [Hid, writeB, hfit]
      clear hfit
      go_region_held3 (fun w' => w'.cell? ⟨0, 0, none⟩ = some (.iface 89 (.pointer (some ea))))
        (first | go_keep | exact SC)
        ((first | (go_at_call 24; refine (write_fits _ _ _ _ a b r _ (box_below DR HK5.out.1) HD.out.1 HD.out.2.1 HD.out.2.2.1 ha hb HFT.out).mono ?_; rintro e w6 ⟨rfl, x, kx, Rx, Wx⟩; have SS : Sent w6 ea := HD.out.2.2.2.within Wx hpos; have SC := SS.cell) | (go_at_call 23; refine (is_nil ea _).mono ?_; rintro e w7 ⟨rfl, e7⟩; have e8 := e7.symm; subst e8; clear e7)))
      obtain ⟨x0, x1, x2, rfl⟩ := Rx.bs.form3
      have k1 := box_within Wx HK5.out.2 (by omega)
      have s6 := Wx.size
      have HX6 : Hid (Below w.heap.size w w6) := Within.below Wx (Below.step HX5.out DR) (Nat.le_refl _)
      have HR6 : Hid (Row w6 w1.heap.size w2.heap.size (.slice p0 p1 p2) a ∧ Row w6 w5.heap.size w6.heap.size (.slice x0 x1 x2) (b ++ frameL r)) := ⟨(HR5.out.2.below DR).keptW Wx (by omega), Rx⟩
      have s6' : w5.heap.size ≤ w6.heap.size := s6
      obtain ⟨f00, f01, -⟩ := box2 kx
      obtain ⟨f10, f11, z10, z11, l10⟩ := box2 k1
      clear Rx Wx kx k1 SS SC HD HR5 HX5 HK5 s6 hS
      go_wp2
      refine bodyPost_ret (v := .tuple #[.agg #[.slice p0 p1 p2, .slice x0 x1 x2], .bool true]) (by simp [results, Tryd.results8, go_sem, f10, f11]) rfl ⟨_, by rw [HP.out.2.2, HFT.out], ?_, ?_⟩
      · rw [HP.out.1, HP.out.2.1, HQ.out]
        exact ⟨_, _, w1.heap.size, w2.heap.size, w5.heap.size, w6.heap.size, rfl, (HR6.out.1.set (.inl (by omega))).set (.inl (by omega)), (HR6.out.2.set (.inl (by omega))).set (.inl (by omega)), by omega, by simp [World.setCell]; omega, by omega, by simp [World.setCell], .inl (by omega)⟩
      · exact (HX6.out.setCell (by simp) _).setCell (by simp) _
    | false =>
      have HFT : Hid (fitsB a b r = false) := hfit
      have HQ : Hid (writeB a b r = b) := by simp [Hid, writeB, hfit]
      clear hfit
      go_region_held3 (fun w' => w'.cell? ⟨0, 0, none⟩ = some (.iface 89 (.pointer (some ea))))
        (first | go_keep | exact SC)
        ((first | (go_at_call 24; refine (write_not _ _ _ _ a b r ea _ (box_below DR HK5.out.1) HD.out.1 HD.out.2.1 HD.out.2.2.1 HD.out.2.2.2 ha hb hr HFT.out).mono ?_; rintro e w6 ⟨rfl, B6⟩; have SS : Sent w6 ea := HD.out.2.2.2.below B6; have SC := SS.cell) | (go_at_call 23; refine (is_same ea _).mono ?_; rintro e w7 ⟨rfl, e7⟩; have e8 := e7.symm; subst e8; clear e7)))
      have k0 := box_below B6 (box_below DR HK5.out.1)
      have k1 := box_below B6 (box_below DR HK5.out.2)
      have s6' : w5.heap.size ≤ w6.heap.size := B6.size
      have HX6 : Hid (Below w.heap.size w w6) := Below.step (Below.step HX5.out DR) B6
      have HR6 : Hid (Row w6 w1.heap.size w2.heap.size (.slice p0 p1 p2) a ∧ Row w6 w2.heap.size w4.heap.size (.slice q0 q1 q2) b) := ⟨(HR5.out.2.below DR).below B6, (HR5.out.1.below DR).below B6⟩
      obtain ⟨f00, f01, -⟩ := box2 k0
      obtain ⟨f10, f11, z10, z11, l10⟩ := box2 k1
      clear B6 k0 k1 SS SC HD HR5 HX5 HK5 hS
      go_wp2
      refine bodyPost_ret (v := .tuple #[.agg #[.slice p0 p1 p2, .slice q0 q1 q2], .bool false]) (by simp [results, Tryd.results8, go_sem, f10, f11]) rfl ⟨_, by rw [HP.out.2.2, HFT.out], ?_, ?_⟩
      · rw [HP.out.1, HP.out.2.1, HQ.out]
        exact ⟨_, _, w1.heap.size, w2.heap.size, w2.heap.size, w4.heap.size, rfl, (HR6.out.1.set (.inl (by omega))).set (.inl (by omega)), (HR6.out.2.set (.inl (by omega))).set (.inl (by omega)), by omega, by simp [World.setCell]; omega, by omega, by simp [World.setCell]; omega, .inl (by omega)⟩
      · exact (HX6.out.setCell (by simp) _).setCell (by simp) _
  · have HP : Hid (wrA a b = [] ∧ wrB a b r = [] ∧ wrOk a b r = false) := by simp [Hid, wrA, wrB, wrOk, hok]
    have hd : decide (a.length + b.length ≤ 1000000) = false := by simp [hok]
    rw [hd]
    clear hd
    go_wp2
    refine bodyPost_ret (v := .tuple #[.agg #[.slice none 0 0, .slice none 0 0], .bool false]) (by simp [results, Tryd.results8, go_sem, f10, f11]) rfl ⟨_, by rw [HP.out.2.2], ?_, ?_⟩
    · rw [HP.out.1, HP.out.2.1]; exact LogR.zero _ _ _ (by have := HX.out.size; simp [World.setCell]; omega)
    · exact (HX.out.setCell (by simp) _).setCell (by simp) _

end Go.Proofs.YtiafkmjndcfjlaaDoor
