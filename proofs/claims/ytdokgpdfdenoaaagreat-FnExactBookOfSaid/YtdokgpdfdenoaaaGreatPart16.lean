/- The proof's texts, part 16. -/
import Derived.Test.YtdokgpdfdenoaaaGreatPart5
import Derived.Test.YtdokgpdfdenoaaaGreatPart4
import Derived.Test.YtdokgpdfdenoaaaGreatPart1
import Derived.Test.YtdokgpdfdenoaaaGreatPart15
import Derived.Test.YtdokgpdfdenoaaaGreatPart14
import Derived.Test.YtdokgpdfdenoaaaGreatPart3
import Derived.Test.YtdokgpdfdenoaaaGreatRows
import Derived.ProofKit
import Derived.OpenShut
import Derived.ShutString
import Derived.ChangeOld
import Derived.ChangeSame
import Derived.Deep.Light
import Derived.Deep.Slices
import Derived.Test.YtdokgpdfdenoaaaGreatPart2

/- What impl.firstBook does. -/
namespace Go.Proofs.YtdokgpdfdenoaaaGreat
open Go.RowKit
set_option maxRecDepth 100000
set_option linter.unusedVariables false

theorem tabS_firstBook : (Tryz.f21.body.bind (opsAt 5)).all (fun o => tableS o 10 [0, 1, 2, 3, 4, 5, 6, 7, 8, 9] [6, 7, 9] [8, 10] 0) = true := by kernel_rfl
set_option maxRecDepth 100000 in
set_option maxHeartbeats 4000000 in
theorem firstBook_r (h : Int) (h1 : 1 ≤ h) (h3 : h ≤ 3) (w : World) :
    Calls Tryz.prog 21 #[.int .i64 h] w fun e w' => ∃ u, e = .returned u ∧ BookR w' w.heap.size w'.heap.size u (openR h) ∧ Below w.heap.size w w' := by
  have hne : h ≠ 0 := by omega
  have hne2 : (h == 0) = false := by simpa using hne
  obtain ⟨i0, hi, hz0, hz1, hz2⟩ := info_parts infoRow
  have HX : Hid (Below w.heap.size w ((w.alloc (.cells #[.slice none 0 0] 26)).alloc (.cells #[.slice none 0 0] 26)) ∧ ((w.alloc (.cells #[.slice none 0 0] 26)).alloc (.cells #[.slice none 0 0] 26)).heap[w.heap.size]? = some (.cells #[.slice none 0 0] 26) ∧ ((w.alloc (.cells #[.slice none 0 0] 26)).alloc (.cells #[.slice none 0 0] 26)).heap[w.heap.size + 1]? = some (.cells #[.slice none 0 0] 26)) := by
    obtain ⟨kA, kB, X⟩ := boxes2 w (.cells #[.slice none 0 0] 26) (.cells #[.slice none 0 0] 26)
    exact ⟨X, kA, kB⟩
  go_enter Tryz.func21, Tryz.ntmps21
  go_wp2
  go_loopw [5] (fun i wr => ∃ (k : Nat) (ua : Option Addr) (un uc : Nat), k ≤ 3 ∧ i = .int .i64 k ∧ Hid (Below w.heap.size w wr) ∧ Hid (wr.heap[w.heap.size]? = some (.cells #[.slice none 0 0] 26) ∧ wr.heap[w.heap.size + 1]? = some (.cells #[.slice ua un uc] 26) ∧ w.heap.size + 2 ≤ wr.heap.size) ∧ Hid (RowsR wr (w.heap.size + 2) wr.heap.size (.slice ua un uc) ((openR h).take k))) (fun i _ => 3 - (intOf i).toNat)
  case atStart => exact ⟨0, none, 0, 0, Nat.zero_le _, rfl, HX.out.1, ⟨HX.out.2.1, HX.out.2.2, by simp⟩, .inl ⟨rfl, rfl⟩⟩
  case round =>
    obtain ⟨k, ua, un, uc, hk, rfl, HB, HK, HR⟩ := hrel
    have hsz := HK.out.2.2
    by_cases hlt : k < 3
    · have HS : Hid (∀ w', Below wr.heap.size wr w' → w'.cell? ⟨w.heap.size + 1, 0, none⟩ = some (.slice ua un uc)) := fun w' hb => by rw [cell_of_row _ _ _ _ _ (0, 0) (box_below hb HK.out.2.1)]; rfl
      have d0 := HS.out _ (Below.refl _ _)
      have hll : ((openR h).take k).length = k := by simp [openR]; omega
      go_wp2
      refine wpS_begin 8 (S := fun w' => w'.cell? ⟨w.heap.size + 1, 0, none⟩ = some (.slice ua un uc)) (tabS_of (by kernel_rfl) tabS_firstBook) (by kernel_rfl) (HS.out _ ((Below.refl _ _).drew)) (fun hTb hHeld => ?_)
      refine tks 0 0 8 hTb hHeld ?_
      refine tks 1 1 9 hTb hHeld ?_
      refine tks 2 2 10 hTb hHeld ?_
      refine tks 3 3 11 hTb hHeld ?_
      refine tks 4 4 12 hTb hHeld ?_
      refine tks 5 5 13 hTb hHeld ?_
      refine cls 6 6 hTb (by decide) rfl rfl (fun K hK => ?_)
      go_simp
      have AB : Below wr.heap.size wr (wr.drew.alloc (.cells #[.int .i64 1, .int .i64 ((k : Int).tmod h), .bool false, .int .i64 0, .int .i64 0] 70)) := (Below.refl _ _).drew.alloc (Nat.le_refl _) _
      refine hK.out _ _ (HS.out _ AB) (fun hHeld => ?_)
      clear hK K
      refine cls 7 7 hTb (by decide) rfl rfl (fun K hK => ?_)
      refine ite_w (by kernel_rfl) (wp_push 15 rfl (.tmp 9) (.tmp 14) rfl framesRow (B := w.heap.size + 2) (M := wr.heap.size) (OwR.below HR.out AB) (by simp) hsz Tryz.underlying24 hi hz0 hz1 hz2 rfl (by omega) rfl (openRow h k) [.int .i64 1, .int .i64 ((k : Int).tmod h), .bool false, .int .i64 0, .int .i64 0] rfl ⟨rfl, rowOk_i64 (openRow_ok h1 h3 (by omega))⟩ ⟨wr.heap.size, 0, none⟩ 1 rfl (cells_new wr.drew _ _) (by intro u hu; simp only [List.mem_cons, List.not_mem_nil, or_false] at hu; rcases hu with rfl | rfl | rfl | rfl | rfl <;> rfl) (by unfold maxLen; simp; omega) (by simp; omega) ?_)
      intro v2 w2 hO2 hg2 hv2
      obtain ⟨va, vn, vc, rfl⟩ := OwR.form3 hO2
      have KV2 := grown_at hg2 (fun g hg => (hv2 g hg).1) (box_below AB HK.out.2.1) (by omega)
      have KR2 := grown_at hg2 (fun g hg => (hv2 g hg).1) (box_below AB HK.out.1) (by omega)
      have B2 := grown_below (Below.step HB.out AB) hg2 (fun g hg => (hv2 g hg).1) (by omega) (by have := AB.size; omega)
      have s2 := hg2.size
      have dV2 : w2.cell? ⟨w.heap.size + 1, 0, none⟩ = some (.slice ua un uc) := by rw [cell_of_row _ _ _ _ _ (0, 0) KV2]; rfl
      obtain ⟨fz2, lz2⟩ := box8z KV2
      refine hK.out _ _ (dV2) (fun hHeld => ?_)
      clear hK K
      refine wpS_next (S' := fun w' => True) 8 10 hTb (by decide) (trivial) (fun hHeld => ?_)
      refine tks 8 8 16 hTb hHeld ?_
      refine cls 9 9 hTb (by decide) rfl rfl (fun K hK => ?_)
      go_simp
      refine hK.out _ _ (trivial) (fun hHeld => ?_)
      clear hK K
      refine wpS_end hTb ?_
      have HB2 : Hid _ := B2.setCell (p := ⟨w.heap.size + 1, 0, none⟩) (by simp) (.slice va vn vc)
      have HK2 : Hid ((w2.setCell ⟨w.heap.size + 1, 0, none⟩ (.slice va vn vc)).heap[w.heap.size]? = some (.cells #[.slice none 0 0] 26) ∧ (w2.setCell ⟨w.heap.size + 1, 0, none⟩ (.slice va vn vc)).heap[w.heap.size + 1]? = some (.cells #[.slice va vn vc] 26) ∧ w.heap.size + 2 ≤ (w2.setCell ⟨w.heap.size + 1, 0, none⟩ (.slice va vn vc)).heap.size) := ⟨box_other KR2 (by omega), box_set KV2, by rw [box_size]; have := AB.size; omega⟩
      have HR2 : Hid (RowsR (w2.setCell ⟨w.heap.size + 1, 0, none⟩ (.slice va vn vc)) (w.heap.size + 2) (w2.setCell ⟨w.heap.size + 1, 0, none⟩ (.slice va vn vc)).heap.size (.slice va vn vc) ((openR h).take (k + 1))) := by
        show RowsR _ _ _ _ _
        rw [openR_take h k hlt, box_size]
        exact OwR.set hO2 (.inl (by omega))
      clear HS d0 HB HK HR B2 KV2 KR2 AB hO2 hg2 hv2 dV2 fz2 lz2
      go_wp2
      go_roundw
      case rel => exact ⟨k + 1, va, vn, vc, by omega, by go_num, HB2, HK2, HR2⟩
      case measure => simp [intOf]; omega
    · obtain rfl : k = 3 := by omega
      have k0 := HK.out.1
      have k1 := HK.out.2.1
      have d0 : wr.cell? ⟨w.heap.size, 0, none⟩ = some (.slice none 0 0) := by rw [cell_of_row _ _ _ _ _ (0, 0) k0]; rfl
      have d1 : wr.cell? ⟨w.heap.size + 1, 0, none⟩ = some (.slice ua un uc) := by rw [cell_of_row _ _ _ _ _ (0, 0) k1]; rfl
      obtain ⟨oz, ol⟩ := box8z k0
      obtain ⟨rz, rl⟩ := box8z k1
      clear k0 k1
      go_wp2
      refine bodyPost_ret (v := .agg #[.slice ua un uc]) (by simp [results, Tryz.results21, go_sem, d0]) rfl ⟨_, rfl, ⟨_, rfl, ?_⟩, HB.out.setCell (p := ⟨w.heap.size, 0, none⟩) (by simp) (.slice ua un uc)⟩
      rw [box_size]
      exact OwR.wide (OwR.set HR.out (.inl (by omega))) (by omega) (Nat.le_refl _)

end Go.Proofs.YtdokgpdfdenoaaaGreat

/- What apply of the book, BookOf of package impl do. -/
namespace Go.Proofs.YtdokgpdfdenoaaaGreat
open Go.RowKit
set_option maxRecDepth 100000
set_option linter.unusedVariables false
set_option linter.unusedSimpArgs false

set_option maxRecDepth 100000 in
set_option maxHeartbeats 1000000 in
theorem apply_r (gb B M : Nat) (uu v : Value) (b : List RowD) (r : RecD) (w : World) (hk : w.heap[gb]? = some (.cells #[uu] 26)) (hR : RowsR w B M uu b) (hM : M ≤ w.heap.size) (hbl : b.length ≤ 1000) (hu0 : 0 ≤ r.user) (hu : r.user < b.length) (hok : ∀ x, x ∈ b → RowOk x) (hkind : 6 ≤ r.kind ∧ r.kind ≤ 8) (hn : 0 ≤ r.n ∧ r.n ≤ 1000000) (hv : RecV w v r) :
    Calls Tryz.prog 22 #[.pointer (some ⟨gb, 0, none⟩), v] w fun e w' => (∃ z, e = .returned z) ∧ RowsR w' B M uu (bookStep b r) ∧ Wr (In B M) w w' := by
  obtain ⟨a0, n0, c0, a1, n1, c1, a2, n2, c2, a3, c3, a4, c4, rfl⟩ := hv.form
  have AB : Below w.heap.size w (w.alloc (.cells #[.int .i64 r.kind, .int .i64 r.user, .int .i64 r.n, .int .i64 r.cmd.k, .slice a0 n0 c0, .slice a1 n1 c1, .int .i64 r.cmd.uid, .int .i64 r.cmd.mode, .int .i64 r.cmd.fl, .int .i64 r.cmd.si, .slice a2 n2 c2, .int .i64 r.acc.valid, .slice a3 r.acc.boxes.length c3, .slice a4 r.acc.seen.length c4] 53)) := (Below.refl _ _).alloc (Nat.le_refl _) _
  obtain ⟨j, hju⟩ : ∃ j : Nat, r.user = j := ⟨r.user.toNat, by omega⟩
  have hj : j < b.length := by omega
  have hjt : r.user.toNat = j := by omega
  obtain ⟨x, hx⟩ : ∃ x, b[j]? = some x := ⟨b[j], List.getElem?_eq_getElem hj⟩
  have hox : Hid (RowOk x) := hok x (List.mem_of_getElem? hx)
  have hI := rowOk_i64 (rowStep_ok (kind := r.kind) (n := r.n) hox.out hn.1 hn.2)
  obtain ⟨g, cap, cur, c, f, hv', -, -, hh, hroom, hS, ⟨rfl, -⟩, -, hcs, hf, hupd⟩ := Ow.upd framesRow (OwR.below hR AB) j x hx
  subst hv'
  have hng : g ≠ w.heap.size := by have := hS.2; omega
  have hlt : j * 5 + 5 ≤ 100000 := by omega
  have hbw : Hid ((w.alloc (.cells #[.int .i64 r.kind, .int .i64 r.user, .int .i64 r.n, .int .i64 r.cmd.k, .slice a0 n0 c0, .slice a1 n1 c1, .int .i64 r.cmd.uid, .int .i64 r.cmd.mode, .int .i64 r.cmd.fl, .int .i64 r.cmd.si, .slice a2 n2 c2, .int .i64 r.acc.valid, .slice a3 r.acc.boxes.length c3, .slice a4 r.acc.seen.length c4] 53)).heap[gb]? = some (.cells #[.slice (some ⟨g, 0, none⟩) b.length cap] 26)) := box_below AB hk
  have A0 : Hid (At (w.alloc (.cells #[.int .i64 r.kind, .int .i64 r.user, .int .i64 r.n, .int .i64 r.cmd.k, .slice a0 n0 c0, .slice a1 n1 c1, .int .i64 r.cmd.uid, .int .i64 r.cmd.mode, .int .i64 r.cmd.fl, .int .i64 r.cmd.si, .slice a2 n2 c2, .int .i64 r.acc.valid, .slice a3 r.acc.boxes.length c3, .slice a4 r.acc.seen.length c4] 53)) f g 70 cur (j * 5) [.int .i64 x.epoch, .int .i64 x.owner, .bool x.moving, .int .i64 x.tr, .int .i64 x.target] (w.alloc (.cells #[.int .i64 r.kind, .int .i64 r.user, .int .i64 r.n, .int .i64 r.cmd.k, .slice a0 n0 c0, .slice a1 n1 c1, .int .i64 r.cmd.uid, .int .i64 r.cmd.mode, .int .i64 r.cmd.fl, .int .i64 r.cmd.si, .slice a2 n2 c2, .int .i64 r.acc.valid, .slice a3 r.acc.boxes.length c3, .slice a4 r.acc.seen.length c4] 53))) := At.start hh hcs
  have fin : ∀ (w' : World) (cs : List Value), At (w.alloc (.cells #[.int .i64 r.kind, .int .i64 r.user, .int .i64 r.n, .int .i64 r.cmd.k, .slice a0 n0 c0, .slice a1 n1 c1, .int .i64 r.cmd.uid, .int .i64 r.cmd.mode, .int .i64 r.cmd.fl, .int .i64 r.cmd.si, .slice a2 n2 c2, .int .i64 r.acc.valid, .slice a3 r.acc.boxes.length c3, .slice a4 r.acc.seen.length c4] 53)) f g 70 cur (j * 5) cs w' → cs = [.int .i64 (rowStep x r.kind r.n).epoch, .int .i64 (rowStep x r.kind r.n).owner, .bool (rowStep x r.kind r.n).moving, .int .i64 (rowStep x r.kind r.n).tr, .int .i64 (rowStep x r.kind r.n).target] →
      RowsR w' B M (.slice (some ⟨g, 0, none⟩) b.length cap) (bookStep b r) ∧ Wr (In B M) w w' := by
    rintro w' cs hA rfl
    obtain ⟨cur', k1, k2, k3, k4⟩ := hA.blk
    refine ⟨?_, (Wr.of_below AB).trans (hA.wrote.mono fun y hy => ?_)⟩
    · rw [bookStep_get (x := x) (by rw [hjt]; exact hx), hjt]
      exact hupd w' cur' _ _ k1 k2 k3 (fun m hm => k4 m (by simpa using hm)) rfl (fun y hy hne hnf hlt => hA.wrote.block y hlt (fun h => h.elim hne hnf)) ⟨rfl, hI⟩
    · rcases hy with rfl | hy
      · exact hS
      · exact (hf y hy).1
  clear hupd hcs hh hf hR hk hv
  rw [hju] at hbw A0 fin ⊢
  have hkk : r.kind = 6 ∨ r.kind = 7 ∨ r.kind = 8 := by omega
  rcases hkk with hk6 | hk7 | hk8
  · rw [hk6] at hbw A0 fin ⊢
    exact (apply_6 gb g cap b.length j cur f x r.n r.cmd.k r.cmd.uid r.cmd.mode r.cmd.fl r.cmd.si r.acc.valid a0 a1 a2 a3 a4 n0 n1 n2 r.acc.boxes.length r.acc.seen.length c0 c1 c2 c3 c4 w _ rfl hbw A0 hj hbl hroom hox hng hlt).mono (fun e w' ⟨hz, hA⟩ => ⟨hz, fin w' _ hA rfl⟩)
  · rw [hk7] at hbw A0 fin ⊢
    exact (apply_7 gb g cap b.length j cur f x r.n r.cmd.k r.cmd.uid r.cmd.mode r.cmd.fl r.cmd.si r.acc.valid a0 a1 a2 a3 a4 n0 n1 n2 r.acc.boxes.length r.acc.seen.length c0 c1 c2 c3 c4 w _ rfl hbw A0 hj hbl hroom hox hng hlt).mono (fun e w' ⟨hz, hA⟩ => ⟨hz, fin w' _ hA rfl⟩)
  · rw [hk8] at hbw A0 fin ⊢
    exact (apply_8 gb g cap b.length j cur f x r.n r.cmd.k r.cmd.uid r.cmd.mode r.cmd.fl r.cmd.si r.acc.valid a0 a1 a2 a3 a4 n0 n1 n2 r.acc.boxes.length r.acc.seen.length c0 c1 c2 c3 c4 w _ rfl hbw A0 hj hbl hroom hox hng hlt).mono (fun e w' ⟨hz, hA⟩ => ⟨hz, fin w' _ hA rfl⟩)

set_option maxRecDepth 100000 in
set_option maxHeartbeats 4000000 in
theorem implBookOf_r (h : Int) (v : Value) (l : List RecD) (w : World) (hv : RecsV w v l) (hl : l.length ≤ 2000000) :
    Calls Tryz.prog 7 #[.int .i64 h, v] w fun e w' => ∃ u, e = .returned (.tuple #[u, .bool (bookB h l)]) ∧ BookR w' w.heap.size w'.heap.size u (bookD h l) ∧ Below w.heap.size w w' := by
  have HV : Hid (∀ wi, Below w.heap.size w wi → RecsV wi v l) := fun wi h => hv.below keepsRec h
  obtain ⟨a, cap, rfl, hlc, hcm⟩ := hv.form
  clear hv
  have X0 : Below w.heap.size w (w.alloc (.cells #[.slice none 0 0] 26)) := (Below.refl _ _).alloc (Nat.le_refl _) _
  have KR0 := box_new w (.cells #[.slice none 0 0] 26)
  have HE := (show Hid _ from bookB_any h l)
  have NO : Hid (∀ W, Below w.heap.size w W → bookB h l = false → ∃ u, Ending.returned (.tuple #[.agg #[.slice none 0 0], .bool false]) = .returned (.tuple #[u, .bool (bookB h l)]) ∧ BookR W w.heap.size W.heap.size u (bookD h l) ∧ Below w.heap.size w W) := by
    intro W hW hn
    refine ⟨.agg #[.slice none 0 0], ret_t hn, ⟨_, rfl, ?_⟩, hW⟩
    rw [bookD_no hn]
    exact .inl ⟨rfl, rfl⟩
  go_enter Tryz.func7, Tryz.ntmps7
  go_wp2_with fail
  refine (within_any _ _ _ _).mono ?_
  rintro e w' ⟨rfl, rfl⟩
  cases hin : inB h 1 3 with
  | false =>
    have NOK : Hid (bookB h l = false) := by show _ = _; rw [HE.out, hin]; rfl
    clear hin HE HV KR0
    go_wp2
    exact bodyPost_ret (v := .tuple #[.agg #[.slice none 0 0], .bool false]) (by simp [results, Tryz.results7, go_sem]) rfl (NO.out _ X0 NOK.out)
  | true =>
  have HIN : Hid (inB h 1 3 = true) := hin
  clear hin
  go_wp2_with fail
  refine (recordsOk_any 6 8 _ l _ (HV.out _ X0)).mono ?_
  rintro e w2 ⟨rfl, B⟩
  replace X0 := Below.step X0 B
  replace KR0 := box_below B KR0
  clear B
  have z0 : w2.cell? ⟨w.heap.size, 0, none⟩ = some (.slice none 0 0) := by rw [cell_of_row _ _ _ _ _ (0, 0) KR0]; rfl
  obtain ⟨oz, ol⟩ := box8z KR0
  cases hrk : l.any (badK 6 8) with
  | true =>
    have NOK : Hid (bookB h l = false) := by show _ = _; rw [HE.out, hrk]; simp
    have HB3 : Hid _ := X0.setCell (p := ⟨w.heap.size, 0, none⟩) (by simp) (.slice none 0 0)
    clear hrk HE HV KR0
    go_wp2
    exact bodyPost_ret (v := .tuple #[.agg #[.slice none 0 0], .bool false]) (by simp [results, Tryz.results7, go_sem, z0]) rfl (NO.out _ HB3.out NOK.out)
  | false =>
  have HRK : Hid (l.any (badK 6 8) = false) := hrk
  clear hrk z0 oz ol
  go_wp2_with fail
  refine (movesPast_any h _ l _ (HV.out _ X0)).mono ?_
  rintro e w3 ⟨rfl, B⟩
  replace X0 := Below.step X0 B
  replace KR0 := box_below B KR0
  clear B
  cases hmp : l.any (past h) with
  | true =>
    have z0 : w3.cell? ⟨w.heap.size, 0, none⟩ = some (.slice none 0 0) := by rw [cell_of_row _ _ _ _ _ (0, 0) KR0]; rfl
    obtain ⟨oz, ol⟩ := box8z KR0
    have NOK : Hid (bookB h l = false) := by show _ = _; rw [HE.out, hmp]; simp
    have HB3 : Hid _ := X0.setCell (p := ⟨w.heap.size, 0, none⟩) (by simp) (.slice none 0 0)
    clear hmp HE HV KR0
    go_wp2
    exact bodyPost_ret (v := .tuple #[.agg #[.slice none 0 0], .bool false]) (by simp [results, Tryz.results7, go_sem, z0]) rfl (NO.out _ HB3.out NOK.out)
  | false =>
  have OKB : Hid (bookB h l = true) := by show _ = _; rw [HE.out, HIN.out, HRK.out, hmp]; rfl
  obtain ⟨h1, h3⟩ : 1 ≤ h ∧ h ≤ 3 := by have := HIN.out; simpa [inB] using this
  have HOK : Hid (∀ x, x ∈ l → bookOk h x = true) := by
    have := OKB.out
    simp only [bookB, Bool.and_eq_true, List.all_eq_true] at this
    exact this.2
  clear hmp HIN HRK HE NO
  go_wp2_with fail
  refine (firstBook_r h h1 h3 _).mono ?_
  rintro e w1 ⟨uu, rfl, ⟨u, rfl, R1⟩, B1⟩
  obtain ⟨ua, un, uc, rfl⟩ := OwR.form3 R1
  have KR1 := box_below B1 KR0
  have X1 := Below.step X0 B1
  have s0 := lt_of_heap KR0
  have s1 : w3.heap.size ≤ w1.heap.size := B1.size
  have AB : Below w1.heap.size w1 (w1.alloc (.cells #[.slice ua un uc] 26)) := (Below.refl _ _).alloc (Nat.le_refl _) _
  generalize hN : w3.heap.size = N at R1 s0 s1
  have HW : Hid (∀ W, W = (w1.alloc (.cells #[.slice ua un uc] 26)) → Below w.heap.size w W ∧ W.heap[w.heap.size]? = some (.cells #[.slice none 0 0] 26) ∧ W.heap[w1.heap.size]? = some (.cells #[.slice ua un uc] 26) ∧ RowsR W N w1.heap.size (.slice ua un uc) (openR h) ∧ w1.heap.size < W.heap.size) := by
    rintro W rfl
    exact ⟨Below.step X1 AB, box_below AB KR1, box_new w1 _, OwR.below R1 AB, by simp⟩
  clear B1 KR0 KR1 X0 X1 R1 AB hN
  go_wp2
  go_loopw [27] (fun i wr => ∃ (k : Nat), k ≤ l.length ∧ i = .int .i64 k ∧ Hid (Below w.heap.size w wr) ∧ Hid (wr.heap[w.heap.size]? = some (.cells #[.slice none 0 0] 26) ∧ wr.heap[w1.heap.size]? = some (.cells #[.slice ua un uc] 26) ∧ w1.heap.size < wr.heap.size) ∧ Hid (RowsR wr N w1.heap.size (.slice ua un uc) ((l.take k).foldl bookStep (openR h)) ∧ (∀ x, x ∈ (l.take k).foldl bookStep (openR h) → RowOk x))) (fun i _ => l.length - (intOf i).toNat)
  case atStart =>
    obtain ⟨x0, x1, x2, x3, x4⟩ := HW.out _ rfl
    exact ⟨0, Nat.zero_le _, rfl, x0, ⟨x1, x2, x4⟩, ⟨by simpa using x3, by simpa using open_ok h1 h3⟩⟩
  case round =>
    clear HW
    obtain ⟨k, hk, rfl, HB, HK, HR⟩ := hrel
    by_cases hlt : k < l.length
    · obtain ⟨x, hx⟩ : ∃ x, l[k]? = some x := ⟨l[k], List.getElem?_eq_getElem hlt⟩
      have HX : Hid (l[k]? = some x) := hx
      obtain ⟨f0, f1, f2⟩ := bookOk_facts (HOK.out x (List.mem_of_getElem? hx))
      obtain ⟨b, off, cap', a0, n0, c0, a1, n1, c1, a2, n2, c2, a3, c3, a4, c4, hv', hlb, d0, d1, d2, d3, d4, d5, d6, d7, d8, d9, d10, d11, d12, d13, hRV⟩ := RecsV.cell (HV.out wr HB.out) k x hx
      simp only [Value.slice.injEq, true_and] at hv'
      obtain ⟨rfl, rfl⟩ := hv'
      have AB : Below wr.heap.size wr (wr.alloc (.cells #[.int .i64 x.kind, .int .i64 x.user, .int .i64 x.n, .int .i64 x.cmd.k, .slice a0 n0 c0, .slice a1 n1 c1, .int .i64 x.cmd.uid, .int .i64 x.cmd.mode, .int .i64 x.cmd.fl, .int .i64 x.cmd.si, .slice a2 n2 c2, .int .i64 x.acc.valid, .slice a3 x.acc.boxes.length c3, .slice a4 x.acc.seen.length c4] 53)) := (Below.refl _ _).alloc (Nat.le_refl _) _
      have HRV2 : Hid (RecV (wr.alloc (.cells #[.int .i64 x.kind, .int .i64 x.user, .int .i64 x.n, .int .i64 x.cmd.k, .slice a0 n0 c0, .slice a1 n1 c1, .int .i64 x.cmd.uid, .int .i64 x.cmd.mode, .int .i64 x.cmd.fl, .int .i64 x.cmd.si, .slice a2 n2 c2, .int .i64 x.acc.valid, .slice a3 x.acc.boxes.length c3, .slice a4 x.acc.seen.length c4] 53)) (.agg #[.int .i64 x.kind, .int .i64 x.user, .int .i64 x.n, .int .i64 x.cmd.k, .slice a0 n0 c0, .slice a1 n1 c1, .int .i64 x.cmd.uid, .int .i64 x.cmd.mode, .int .i64 x.cmd.fl, .int .i64 x.cmd.si, .slice a2 n2 c2, .int .i64 x.acc.valid, .slice a3 x.acc.boxes.length c3, .slice a4 x.acc.seen.length c4]) x) := hRV.below AB
      have HB2 : Hid (Below w.heap.size w (wr.alloc (.cells #[.int .i64 x.kind, .int .i64 x.user, .int .i64 x.n, .int .i64 x.cmd.k, .slice a0 n0 c0, .slice a1 n1 c1, .int .i64 x.cmd.uid, .int .i64 x.cmd.mode, .int .i64 x.cmd.fl, .int .i64 x.cmd.si, .slice a2 n2 c2, .int .i64 x.acc.valid, .slice a3 x.acc.boxes.length c3, .slice a4 x.acc.seen.length c4] 53))) := Below.step HB.out AB
      have HK0 : Hid _ := box_below AB HK.out.1
      have HK1 : Hid ((wr.alloc (.cells #[.int .i64 x.kind, .int .i64 x.user, .int .i64 x.n, .int .i64 x.cmd.k, .slice a0 n0 c0, .slice a1 n1 c1, .int .i64 x.cmd.uid, .int .i64 x.cmd.mode, .int .i64 x.cmd.fl, .int .i64 x.cmd.si, .slice a2 n2 c2, .int .i64 x.acc.valid, .slice a3 x.acc.boxes.length c3, .slice a4 x.acc.seen.length c4] 53)).heap[w1.heap.size]? = some (.cells #[.slice ua un uc] 26)) := box_below AB HK.out.2.1
      have hgl := HK.out.2.2
      have hsz : (wr.alloc (.cells #[.int .i64 x.kind, .int .i64 x.user, .int .i64 x.n, .int .i64 x.cmd.k, .slice a0 n0 c0, .slice a1 n1 c1, .int .i64 x.cmd.uid, .int .i64 x.cmd.mode, .int .i64 x.cmd.fl, .int .i64 x.cmd.si, .slice a2 n2 c2, .int .i64 x.acc.valid, .slice a3 x.acc.boxes.length c3, .slice a4 x.acc.seen.length c4] 53)).heap.size = wr.heap.size + 1 := by simp
      have HR2 : Hid (RowsR (wr.alloc (.cells #[.int .i64 x.kind, .int .i64 x.user, .int .i64 x.n, .int .i64 x.cmd.k, .slice a0 n0 c0, .slice a1 n1 c1, .int .i64 x.cmd.uid, .int .i64 x.cmd.mode, .int .i64 x.cmd.fl, .int .i64 x.cmd.si, .slice a2 n2 c2, .int .i64 x.acc.valid, .slice a3 x.acc.boxes.length c3, .slice a4 x.acc.seen.length c4] 53)) N w1.heap.size (.slice ua un uc) ((l.take k).foldl bookStep (openR h)) ∧ (∀ x, x ∈ (l.take k).foldl bookStep (openR h) → RowOk x)) := ⟨OwR.below HR.out.1 AB, HR.out.2⟩
      clear hRV AB HB HK HR hx
      go_wp2_with fail
      refine (apply_r w1.heap.size N w1.heap.size _ _ _ x _ HK1.out HR2.out.1 (by omega) (by rw [fold_len, openR_len]; omega) f1.1 (by rw [fold_len, openR_len]; omega) HR2.out.2 f0 f2 HRV2.out).mono ?_
      rintro e w4 ⟨⟨z, rfl⟩, hr4, hw4⟩
      have HB4 : Hid (Below w.heap.size w w4) := hw4.below HB2.out (fun y hy => by have := hy.1; omega) (by have := HB2.out.size; omega)
      have HK4 : Hid (w4.heap[w.heap.size]? = some (.cells #[.slice none 0 0] 26) ∧ w4.heap[w1.heap.size]? = some (.cells #[.slice ua un uc] 26) ∧ w1.heap.size < w4.heap.size) := ⟨(hw4.block _ (lt_of_heap HK0.out) (fun hy => by have := hy.1; omega)).trans HK0.out, (hw4.block _ (lt_of_heap HK1.out) (fun hy => by have := hy.2; omega)).trans HK1.out, by have := hw4.size; omega⟩
      have HR4 : Hid (RowsR w4 N w1.heap.size (.slice ua un uc) ((l.take (k + 1)).foldl bookStep (openR h)) ∧ (∀ x, x ∈ (l.take (k + 1)).foldl bookStep (openR h) → RowOk x)) := by
        show _ ∧ _
        rw [fold_step HX.out]
        exact ⟨hr4, rows_ok HR2.out.2 f2⟩
      clear hr4 hw4 HB2 HK0 HK1 HR2 HRV2 hsz d0 d1 d2 d3 d4 d5 d6 d7 d8 d9 d10 d11 d12 d13
      go_wp2
      go_roundw
      case rel => exact ⟨k + 1, by omega, by go_num, HB4, HK4, HR4⟩
      case measure => simp [intOf]; omega
    · obtain rfl : k = l.length := by omega
      have z0 : wr.cell? ⟨w.heap.size, 0, none⟩ = some (.slice none 0 0) := by rw [cell_of_row _ _ _ _ _ (0, 0) HK.out.1]; rfl
      have z1 : wr.cell? ⟨w1.heap.size, 0, none⟩ = some (.slice ua un uc) := by rw [cell_of_row _ _ _ _ _ (0, 0) HK.out.2.1]; rfl
      obtain ⟨oz, ol⟩ := box8z HK.out.1
      obtain ⟨rz, rl⟩ := box8z HK.out.2.1
      have HB3 : Hid _ := HB.out.setCell (p := ⟨w.heap.size, 0, none⟩) (by simp) (.slice ua un uc)
      have HR3 : Hid (RowsR (wr.setCell ⟨w.heap.size, 0, none⟩ (.slice ua un uc)) w.heap.size (wr.setCell ⟨w.heap.size, 0, none⟩ (.slice ua un uc)).heap.size (.slice ua un uc) (bookD h l)) := by
        show RowsR _ _ _ _ _
        rw [bookD_yes OKB.out, box_size]
        have := HR.out.1
        rw [List.take_length] at this
        exact OwR.wide (OwR.set this (.inl (by omega))) (by omega) (by omega)
      clear HB HK HR
      go_wp2
      exact bodyPost_ret (v := .tuple #[.agg #[.slice ua un uc], .bool true]) (by simp [results, Tryz.results7, go_sem, z0]) rfl ⟨_, ret_t OKB.out, ⟨_, rfl, HR3.out⟩, HB3.out⟩

end Go.Proofs.YtdokgpdfdenoaaaGreat

/- The law FnExactBookOf, walked out of the contracts. -/
namespace Go.Proofs.YtdokgpdfdenoaaaGreat
open Go.RowKit
set_option maxRecDepth 100000
set_option linter.unusedVariables false

theorem box1l {w : World} {g : Nat} {t : TypeId} {c0 : Value} (h : w.heap[g]? = some (.cells #[c0] t (0, 0))) : w.cell? ⟨g, 0, none⟩ = some c0 ∧ g < w.heap.size := ⟨bx1 h, lt_of_heap h⟩
theorem BookR.form {w : World} {B T : Nat} {v : Value} {l : List RowD} (h : BookR w B T v l) : ∃ a n c, v = .agg #[.slice a n c] := by
  obtain ⟨u, rfl, h⟩ := h
  obtain ⟨a, n, c, rfl⟩ := OwR.form3 h
  exact ⟨a, n, c, rfl⟩

set_option maxRecDepth 100000 in
set_option maxHeartbeats 4000000 in
theorem exactBookOf_walk (h : Int) (v : Value) (l : List RecD) (w : World) (hh0 : -9223372036854775808 ≤ h) (hh1 : h ≤ 9223372036854775807) (hv : RecsV w v l) :
    Calls Tryz.prog 3 #[.int .i64 h, v] w fun e w' => e = .returned (.bool true) ∧ Below w.heap.size w w' := by
  have HV : Hid (∀ wi, Below w.heap.size w wi → RecsV wi v l) := fun wi h => hv.below keepsRec h
  obtain ⟨a, cap, rfl, hlc, hcm⟩ := hv.form
  clear hv
  have hPl : (bookD h l).length ≤ 3 := bookD_len h l
  generalize hPe : bookD h l = P at hPl
  generalize hOe : bookB h l = ok
  have HPE : Hid (bookD h l = P ∧ bookB h l = ok) := ⟨hPe, hOe⟩
  clear hPe hOe
  go_enter Tryz.func3, Tryz.ntmps3
  go_wp2_with fail
  refine (szRecordS_any _ l 1048576 _ (HV.out _ (Below.refl _ _)) (by omega) (by omega)).mono ?_
  rintro e w1 ⟨y, rfl, hx, B⟩
  have X := Below.step (Below.refl _ _) B
  have s1 : w.heap.size ≤ w1.heap.size := B.size
  clear B
  rcases hx with rfl | ⟨hx0, hx1⟩
  · go_wp2
    go_ret
    exact ⟨rfl, X⟩
  have z0 : szRecs l ≤ 1048576 := by omega
  have z1 : l.length ≤ 1048576 := by have := szRecs_len l; omega
  clear hx1
  go_wp2_with fail
  refine (toRecordS_r _ l _ (HV.out _ X) (by omega)).mono ?_
  rintro e w2 ⟨u1, rfl, R1, B⟩
  replace X := Below.step X B
  have s2 : w1.heap.size ≤ w2.heap.size := B.size
  clear B
  go_wp2_with fail
  refine (specBookOf_r h _ l _ (RecsR.v R1) (by omega)).mono ?_
  rintro e w3 ⟨u2, rfl, R2, B⟩
  rw [HPE.out.1] at R2
  rw [HPE.out.2]
  replace R1 := R1.below B
  replace X := Below.step X B
  have s3 : w2.heap.size ≤ w3.heap.size := B.size
  clear B
  clear R1
  obtain ⟨s0, s1, s2, rfl⟩ := R2.form
  have ab : ∀ o, Below w3.heap.size w3 (w3.alloc o) := fun o => (Below.refl _ _).alloc (Nat.le_refl _) o
  go_wp2_with fail
  refine (toRecordS_r _ l _ (HV.out _ (Below.step X (ab _))) (by omega)).mono ?_
  rintro e w4 ⟨u3, rfl, R3, B⟩
  replace R2 := (R2.below (ab _)).below B
  have ks := box_below B (box_new w3 (.cells #[.slice s0 s1 s2] 26))
  replace X := Below.step (Below.step X (ab _)) B
  have s4 : w3.heap.size + 1 ≤ w4.heap.size := by have := B.size; simp at this; omega
  replace R3 := R3.wide (B' := w3.heap.size + 1) (by simp) (Nat.le_refl _)
  clear B ab
  obtain ⟨fs0, ls⟩ := box1l ks
  go_wp2_with fail
  refine (implBookOf_r h _ l _ (RecsR.v R3) (by omega)).mono ?_
  rintro e w5 ⟨u4, rfl, R4, B⟩
  rw [HPE.out.1] at R4
  rw [HPE.out.2]
  clear fs0 ls
  replace R2 := R2.below B
  replace R3 := R3.below B
  replace ks := box_below B ks
  replace X := Below.step X B
  have s5 : w4.heap.size ≤ w5.heap.size := B.size
  clear B
  obtain ⟨g0, g1, g2, rfl⟩ := R4.form
  have ab : ∀ o, Below w5.heap.size w5 (w5.alloc o) := fun o => (Below.refl _ _).alloc (Nat.le_refl _) o
  obtain ⟨fs0, ls⟩ := box1l ks
  go_wp2_with fail
  refine (eqBook_yes _ _ P _ (R4.below (ab _)).v (R2.below (ab _)).v).mono ?_
  rintro e w6 ⟨rfl, B⟩
  clear fs0 ls
  replace R2 := (R2.below (ab _)).below B
  replace R3 := (R3.below (ab _)).below B
  replace R4 := (R4.below (ab _)).below B
  replace ks := box_below B (box_alloc ks _)
  have kg := box_below B (box_new w5 (.cells #[.slice g0 g1 g2] 26))
  replace X := Below.step (Below.step X (ab _)) B
  have s6 : w5.heap.size + 1 ≤ w6.heap.size := by have := B.size; simp at this; omega
  clear B ab
  obtain ⟨fs0, ls⟩ := box1l ks
  obtain ⟨fg0, lg⟩ := box1l kg
  go_wp2_with fail
  refine (toRecordS_r _ l _ (HV.out _ X) (by omega)).mono ?_
  rintro e w7 ⟨u5, rfl, R5, B⟩
  clear fs0 ls fg0 lg
  replace R2 := R2.below B
  replace R3 := R3.below B
  replace R4 := R4.below B
  replace ks := box_below B ks
  replace kg := box_below B kg
  replace X := Below.step X B
  have s7 : w6.heap.size ≤ w7.heap.size := B.size
  clear B
  obtain ⟨fs0, ls⟩ := box1l ks
  obtain ⟨fg0, lg⟩ := box1l kg
  go_wp2_with fail
  refine (eqRecordS_yes _ _ l _ (RecsR.v R3) (RecsR.v R5)).mono ?_
  rintro e w8 ⟨rfl, B⟩
  clear fs0 ls fg0 lg
  replace R2 := R2.below B
  replace R3 := R3.below B
  replace R4 := R4.below B
  replace R5 := R5.below B
  replace ks := box_below B ks
  replace kg := box_below B kg
  replace X := Below.step X B
  have s8 : w7.heap.size ≤ w8.heap.size := B.size
  clear B
  clear R5
  obtain ⟨fs0, ls⟩ := box1l ks
  obtain ⟨fg0, lg⟩ := box1l kg
  go_wp2_with fail
  refine (markRecordS_w _ _ _ l 1 _ R3 (by omega) (by omega) (by omega)).mono ?_
  rintro e w9 ⟨rfl, R3', G⟩
  clear fs0 ls fg0 lg
  replace R2 := R2.keptW G (by omega)
  replace R4 := R4.keptW G (by omega)
  replace ks := box_within G ks (by omega)
  replace kg := box_within G kg (by omega)
  replace X := G.below X (by omega)
  have s9 := G.size
  clear G R3
  clear R3'
  obtain ⟨fs0, ls⟩ := box1l ks
  obtain ⟨fg0, lg⟩ := box1l kg
  go_wp2_with fail
  refine (eqBook_yes _ _ P _ R4.v R2.v).mono ?_
  rintro e w10 ⟨rfl, B⟩
  clear fs0 ls fg0 lg
  replace R2 := R2.below B
  replace R4 := R4.below B
  replace ks := box_below B ks
  replace kg := box_below B kg
  replace X := Below.step X B
  have s10 : w9.heap.size ≤ w10.heap.size := B.size
  clear B
  obtain ⟨fs0, ls⟩ := box1l ks
  obtain ⟨fg0, lg⟩ := box1l kg
  go_wp2_with fail
  refine (markBook_w _ _ _ P 1 _ R4 (by omega) (by omega) (by omega) (by omega)).mono ?_
  rintro e w11 ⟨rfl, R4', G⟩
  clear fs0 ls fg0 lg
  replace R2 := R2.keptW G (by omega)
  replace ks := box_within G ks (by omega)
  replace kg := box_within G kg (by omega)
  replace X := G.below X (by omega)
  have s11 := G.size
  clear G R4
  obtain ⟨fs0, ls⟩ := box1l ks
  obtain ⟨fg0, lg⟩ := box1l kg
  go_wp2_with fail
  refine (heldBook_any _ P 1 _ R4'.v (by omega) (by omega) (by omega)).mono ?_
  rintro e w12 ⟨rfl, B⟩
  clear fs0 ls fg0 lg
  replace R2 := R2.below B
  replace R4' := R4'.below B
  replace ks := box_below B ks
  replace kg := box_below B kg
  replace X := Below.step X B
  have s12 : w11.heap.size ≤ w12.heap.size := B.size
  clear B
  obtain ⟨fs0, ls⟩ := box1l ks
  obtain ⟨fg0, lg⟩ := box1l kg
  go_wp2_with fail
  refine (toRecordS_r _ l _ (HV.out _ X) (by omega)).mono ?_
  rintro e w13 ⟨u6, rfl, R6, B⟩
  clear fs0 ls fg0 lg
  replace R2 := R2.below B
  replace R4' := R4'.below B
  replace ks := box_below B ks
  replace kg := box_below B kg
  replace X := Below.step X B
  have s13 : w12.heap.size ≤ w13.heap.size := B.size
  clear B
  obtain ⟨fs0, ls⟩ := box1l ks
  obtain ⟨fg0, lg⟩ := box1l kg
  go_wp2_with fail
  refine (implBookOf_r h _ l _ (RecsR.v R6) (by omega)).mono ?_
  rintro e w14 ⟨u7, rfl, R7, B⟩
  rw [HPE.out.1] at R7
  rw [HPE.out.2]
  clear fs0 ls fg0 lg
  replace R2 := R2.below B
  replace R4' := R4'.below B
  replace R6 := R6.below B
  replace ks := box_below B ks
  replace kg := box_below B kg
  replace X := Below.step X B
  have s14 : w13.heap.size ≤ w14.heap.size := B.size
  clear B
  clear R6
  obtain ⟨h0, h1, h2, rfl⟩ := R7.form
  have ab : ∀ o, Below w14.heap.size w14 (w14.alloc o) := fun o => (Below.refl _ _).alloc (Nat.le_refl _) o
  obtain ⟨fs0, ls⟩ := box1l ks
  obtain ⟨fg0, lg⟩ := box1l kg
  go_wp2_with fail
  refine (eqBook_yes _ _ P _ (R7.below (ab _)).v (R2.below (ab _)).v).mono ?_
  rintro e w15 ⟨rfl, B⟩
  clear fs0 ls fg0 lg
  replace R2 := (R2.below (ab _)).below B
  replace R4' := (R4'.below (ab _)).below B
  replace R7 := (R7.below (ab _)).below B
  replace ks := box_below B (box_alloc ks _)
  replace kg := box_below B (box_alloc kg _)
  have kh := box_below B (box_new w14 (.cells #[.slice h0 h1 h2] 26))
  replace X := Below.step (Below.step X (ab _)) B
  have s15 : w14.heap.size + 1 ≤ w15.heap.size := by have := B.size; simp at this; omega
  clear B ab
  clear R7 R2
  clear kh ks
  obtain ⟨fg0, lg⟩ := box1l kg
  go_wp2_with fail
  refine (heldBook_any _ P 1 _ R4'.v (by omega) (by omega) (by omega)).mono ?_
  rintro e w16 ⟨rfl, B⟩
  clear fg0 lg
  replace R4' := R4'.below B
  replace kg := box_below B kg
  replace X := Below.step X B
  have s16 : w15.heap.size ≤ w16.heap.size := B.size
  clear B
  clear R4' kg
  go_wp2
  go_ret
  exact ⟨rfl, X⟩

end Go.Proofs.YtdokgpdfdenoaaaGreat

/- From what a row reads of an argument to what the walks ask: a slice of bytes that came in. -/
namespace Go.Proofs.YtdokgpdfdenoaaaGreat
open Go.ChangeShapes Go.WideShapes Go.ChangeAt Go.RowKit

theorem ownKnob_none : ownKnob Tryz.prog.godebug = none := by kernel_rfl
theorem laidOut : laidOutB Tryz.prog = true := by kernel_rfl

theorem wf_byte {n : Int} (h : (Lit.int .u8 n).wf = true) : 0 ≤ n ∧ n ≤ 255 := bounds_u8 h
theorem wf_int {n : Int} (h : (Lit.int .i64 n).wf = true) : -9223372036854775808 ≤ n ∧ n ≤ 9223372036854775807 := bounds_i64 h

/-- A slice of bytes that came in, as the walks want it. -/
theorem open_bytes {H : Type} {enc : TypeId × Value → H} {W : World} {base : Nat} {a : Option Addr} {len cap : Nat} {d : DataW H} {p : List MemPlace}
    (h : DataW.Trod enc Tryz.prog W base (fun _ => true) true 37 (.slice a len cap) d p) : ∃ l, Bs W (.slice a len cap) l := by
  obtain ⟨fuel, hf⟩ := h
  rcases open_ints Tryz.underlying37 Tryz.underlying5 (by kernel_rfl) hf with ⟨hcs, _⟩ | ⟨x, l, c, zs, hcs, _, hl, hm, hz, _, hcell, hwz⟩
  · simp [Value.cells] at hcs
    obtain ⟨rfl, rfl, rfl⟩ := hcs
    exact ⟨[], oct_nil, none, 0, rfl, by simp, by simp, fun _ => rfl, fun h => absurd h (by simp)⟩
  · simp [Value.cells] at hcs
    obtain ⟨rfl, rfl, rfl⟩ := hcs
    simp at hz
    have ht : (zs.take len).length = len := by simp; omega
    refine ⟨zs.take len, fun x hx => wf_byte (hwz x (List.mem_of_mem_take hx)), some x, cap, by rw [ht], by omega, hm, (fun h => by cases h), fun hp => ?_⟩
    rw [ht] at hp
    obtain ⟨b, off, spot⟩ := x
    have h0 := hcell 0 (by omega)
    have hspot : spot = none := by simpa [Addr.add] using World.cell?_spot h0
    subst hspot
    refine ⟨b, off, rfl, ?_, fun i hi => ?_⟩
    · have := World.block_lt_of_cell? W _ h0
      simpa [Addr.add] using this
    · rw [ht] at hi
      have := hcell i (by omega)
      rw [Addr.add_lit] at this
      rw [this]
      simp [hi]

end Go.Proofs.YtdokgpdfdenoaaaGreat

/- A struct's fields laid open. -/
namespace Go.Proofs.YtdokgpdfdenoaaaGreat
open Go.ChangeShapes Go.WideShapes Go.ChangeAt Go.RowKit

/-- One field of a struct that is read; it takes one cell. -/
theorem open_field {H : Type} {enc : TypeId × Value → H} {P : Program} {W : World} {base fuel : Nat} {spare : Nat → Bool} {held : Bool} {t : TypeId} {fs : Array Field} {cs : List Value} {x : DataW H × List MemPlace}
    (ht : P.underlying t = some (.struct fs)) (h : DataW.trod enc P W base spare held fuel t cs = some x) (i : Nat) (ty : TypeId) (off : Nat) (c : Value) (hf : fs[i]?.map (fun f => (f.type, f.offset)) = some (ty, off)) (h1 : P.cellsOf ty = 1) (hc : (cs.drop off).take 1 = [c]) :
    ∃ n y, DataW.trod enc P W base spare held n ty [c] = some y := by
  obtain ⟨f, hf0, hf1⟩ := Option.map_eq_some_iff.1 hf
  simp only [Prod.mk.injEq] at hf1
  obtain ⟨rfl, rfl⟩ := hf1
  obtain ⟨xs, n, _, rfl, hl, hlen, hf'⟩ := DataW.trod_struct ht h
  have := hf' i f (by simpa using hf0)
  rw [h1, hc] at this
  have hi : i < xs.length := by rw [hlen]; exact (Array.getElem?_eq_some_iff.1 hf0).1
  exact ⟨n, xs[i], by rw [this, List.getElem?_eq_getElem hi]⟩

/-- One cell that is read as a slice of bytes. -/
theorem open_cellB {H : Type} {enc : TypeId × Value → H} {W : World} {base fuel : Nat} {c : Value} {y : DataW H × List MemPlace}
    (h : DataW.trod enc Tryz.prog W base (fun _ => true) true fuel 37 [c] = some y) : ∃ l, Bs W c l := by
  have h' := h
  rcases open_ints Tryz.underlying37 Tryz.underlying5 (by kernel_rfl) h with ⟨hcs, _⟩ | ⟨x, l, c', zs, hcs, _⟩
  · obtain rfl : c = .slice none 0 0 := by simpa using hcs
    exact open_bytes (d := y.1) (p := y.2) ⟨fuel, by simpa [Value.cells] using h'⟩
  · obtain rfl : c = .slice (some x) l c' := by simpa using hcs
    exact open_bytes (d := y.1) (p := y.2) ⟨fuel, by simpa [Value.cells] using h'⟩
/-- One cell that is read as a number. -/
theorem open_cellI {H : Type} {enc : TypeId × Value → H} {W : World} {base fuel : Nat} {c : Value} {y : DataW H × List MemPlace}
    (h : DataW.trod enc Tryz.prog W base (fun _ => true) true fuel 3 [c] = some y) : ∃ n, c = .int .i64 n ∧ I64 n := by
  obtain ⟨n, hc, -, hw⟩ := DataW.trod_int Tryz.underlying3 h
  exact ⟨n, by simpa using hc, wf_int hw⟩

theorem cellsB : Tryz.prog.cellsOf 37 = 1 := by kernel_rfl
theorem cellsI : Tryz.prog.cellsOf 3 = 1 := by kernel_rfl

end Go.Proofs.YtdokgpdfdenoaaaGreat

/- From what a row reads of an argument to what the walks ask: boxes that came in. -/
namespace Go.Proofs.YtdokgpdfdenoaaaGreat
open Go.ChangeShapes Go.WideShapes Go.ChangeAt Go.RowKit Go.Deep

theorem list_of {α : Type} {p : Nat → α → Prop} : ∀ (n : Nat), (∀ i, i < n → ∃ x, p i x) → ∃ l : List α, l.length = n ∧ ∀ i x, l[i]? = some x → p i x
  | 0, _ => ⟨[], rfl, by simp⟩
  | n + 1, h => by
    obtain ⟨l, hl, hp⟩ := list_of n (fun i hi => h i (by omega))
    obtain ⟨x, hx⟩ := h n (by omega)
    refine ⟨l ++ [x], by simp [hl], fun i y hy => ?_⟩
    by_cases hi : i < n
    · rw [List.getElem?_append_left (by omega)] at hy
      exact hp i y hy
    · have hlt : i < (l ++ [x]).length := (List.getElem?_eq_some_iff.1 hy).1
      simp at hlt
      obtain rfl : i = n := by omega
      rw [List.getElem?_append_right (by omega)] at hy
      simp [hl] at hy
      subst hy
      exact hx

/-- One cell that is read as a slice of structs. -/
theorem open_rd {α : Type} {E : World → List Value → α → Prop} {H : Type} {enc : TypeId × Value → H} {W : World} {base fuel sz : Nat} {t e : TypeId} {c : Value} {y : DataW H × List MemPlace} (h0 : 0 < sz)
    (ht : Tryz.prog.underlying t = some (.slice e)) (hc : Tryz.prog.cellsOf e = sz) (hE : ∀ n cs' y, cs'.length = sz → DataW.trod enc Tryz.prog W base (fun _ => true) true n e cs' = some y → ∃ x, E W cs' x)
    (h : DataW.trod enc Tryz.prog W base (fun _ => true) true fuel t [c] = some y) : ∃ l, Rd sz E W c l := by
  rcases open_slice ht h with ⟨hcs, -⟩ | ⟨a, len, cap, m, n, D, Pl, hcs, hb, hl, hm, hmm, -, hel⟩
  · obtain rfl : c = .slice none 0 0 := by simpa using hcs
    exact ⟨[], Rd.nil W⟩
  · obtain rfl : c = .slice (some a) len cap := by simpa using hcs
    simp only [if_true] at hmm
    subst hmm
    rw [hc] at hel
    have key : ∀ i, i < len → ∃ p : List Value × α, W.cells? base (a.add (i * sz)) sz = some p.1 ∧ p.1.length = sz ∧ E W p.1 p.2 := by
      intro i hi
      obtain ⟨cs', h1, h2⟩ := hel i (by omega)
      have hlen := (World.cells?_some h1).2.1
      obtain ⟨x, hx⟩ := hE n cs' _ hlen h2
      exact ⟨(cs', x), h1, hlen, hx⟩
    obtain ⟨ps, hpl, hps⟩ := list_of len key
    refine ⟨ps.map (·.2), some a, m, fun i => ((ps[i]?.map (·.1)).getD []), by simp [hpl], by simp [hpl]; omega, hm, (fun h => by cases h), fun i x hx => ?_, fun hp => ?_⟩
    · rw [List.getElem?_map, Option.map_eq_some_iff] at hx
      obtain ⟨p, hp, rfl⟩ := hx
      obtain ⟨-, q1, q2⟩ := hps i p hp
      simp only [hp, Option.map_some, Option.getD_some]
      exact ⟨q2, q1⟩
    · simp [hpl] at hp
      obtain ⟨b, off, spot⟩ := a
      obtain ⟨p0, hp0⟩ : ∃ p, ps[0]? = some p := ⟨ps[0]'(by omega), List.getElem?_eq_getElem (by omega)⟩
      obtain ⟨k1, k2, -⟩ := hps 0 p0 hp0
      have cell : ∀ i p, ps[i]? = some p → ∀ j u, p.1[j]? = some u → W.cell? (((⟨b, off, spot⟩ : Addr).add (i * sz)).add j) = some u := by
        intro i p hi j u hu
        obtain ⟨k1, k2, -⟩ := hps i p hi
        have hj : j < sz := by have := (List.getElem?_eq_some_iff.1 hu).1; omega
        rw [(World.cells?_some k1).2.2 j hj, hu]
      have c0 := cell 0 p0 hp0 0 (p0.1[0]'(by omega)) (List.getElem?_eq_getElem (by omega))
      have hspot : spot = none := by simpa [Addr.add] using World.cell?_spot c0
      subst hspot
      refine ⟨b, off, rfl, ?_, fun i j u hi hu => ?_⟩
      · have := World.block_lt_of_cell? W _ c0
        simpa [Addr.add] using this
      · obtain ⟨p, hpi⟩ : ∃ p, ps[i]? = some p := ⟨ps[i]'(by simp at hi; omega), List.getElem?_eq_getElem (by simp at hi; omega)⟩
        simp only [hpi, Option.map_some, Option.getD_some] at hu
        have := cell i p hpi j u hu
        simpa [Addr.add_lit, Nat.add_assoc] using this

theorem open_mails {H : Type} {enc : TypeId × Value → H} {W : World} {base fuel : Nat} {c : Value} {y : DataW H × List MemPlace}
    (h : DataW.trod enc Tryz.prog W base (fun _ => true) true fuel 119 [c] = some y) : ∃ l, MailsV W c l := by
  refine open_rd (by omega) Tryz.underlying119 (by kernel_rfl) (fun n cs' y hl hf => ?_) h
  match cs', hl with
  | [c0, c1, c2, c3], _ =>
    have u := Tryz.underlying142
    obtain ⟨_, _, h0⟩ := open_field u hf 0 3 0 c0 rfl cellsI rfl
    obtain ⟨_, _, h1⟩ := open_field u hf 1 3 1 c1 rfl cellsI rfl
    obtain ⟨_, _, h2⟩ := open_field u hf 2 3 2 c2 rfl cellsI rfl
    obtain ⟨_, _, h3⟩ := open_field u hf 3 37 3 c3 rfl cellsB rfl
    obtain ⟨uid, rfl, i0⟩ := open_cellI h0
    obtain ⟨flags, rfl, i1⟩ := open_cellI h1
    obtain ⟨seq, rfl, i2⟩ := open_cellI h2
    obtain ⟨text, b3⟩ := open_cellB h3
    exact ⟨⟨uid, flags, seq, text⟩, c3, rfl, b3, i0, i1, i2⟩
theorem open_gones {H : Type} {enc : TypeId × Value → H} {W : World} {base fuel : Nat} {c : Value} {y : DataW H × List MemPlace}
    (h : DataW.trod enc Tryz.prog W base (fun _ => true) true fuel 120 [c] = some y) : ∃ l, GonesV W c l := by
  refine open_rd (by omega) Tryz.underlying120 (by kernel_rfl) (fun n cs' y hl hf => ?_) h
  match cs', hl with
  | [c0, c1], _ =>
    have u := Tryz.underlying145
    obtain ⟨_, _, h0⟩ := open_field u hf 0 3 0 c0 rfl cellsI rfl
    obtain ⟨_, _, h1⟩ := open_field u hf 1 3 1 c1 rfl cellsI rfl
    obtain ⟨uid, rfl, i0⟩ := open_cellI h0
    obtain ⟨seq, rfl, i1⟩ := open_cellI h1
    exact ⟨⟨uid, seq⟩, rfl, i0, i1⟩
theorem cellsMs : Tryz.prog.cellsOf 119 = 1 := by kernel_rfl
theorem cellsGs : Tryz.prog.cellsOf 120 = 1 := by kernel_rfl
theorem open_boxCells {H : Type} {enc : TypeId × Value → H} {W : World} {base n : Nat} {cs' : List Value} {y : DataW H × List MemPlace} (hl : cs'.length = 7)
    (hf : DataW.trod enc Tryz.prog W base (fun _ => true) true n 122 cs' = some y) : ∃ x, BoxRE W cs' x := by
  match cs', hl with
  | [c0, c1, c2, c3, c4, c5, c6], _ =>
    have u := Tryz.underlying122
    obtain ⟨_, _, h0⟩ := open_field u hf 0 37 0 c0 rfl cellsB rfl
    obtain ⟨_, _, h1⟩ := open_field u hf 1 3 1 c1 rfl cellsI rfl
    obtain ⟨_, _, h2⟩ := open_field u hf 2 3 2 c2 rfl cellsI rfl
    obtain ⟨_, _, h3⟩ := open_field u hf 3 3 3 c3 rfl cellsI rfl
    obtain ⟨_, _, h4⟩ := open_field u hf 4 119 4 c4 rfl cellsMs rfl
    obtain ⟨_, _, h5⟩ := open_field u hf 5 120 5 c5 rfl cellsGs rfl
    obtain ⟨_, _, h6⟩ := open_field u hf 6 3 6 c6 rfl cellsI rfl
    obtain ⟨name, b0⟩ := open_cellB h0
    obtain ⟨valid, rfl, i1⟩ := open_cellI h1
    obtain ⟨next, rfl, i2⟩ := open_cellI h2
    obtain ⟨seq, rfl, i3⟩ := open_cellI h3
    obtain ⟨mails, b4⟩ := open_mails h4
    obtain ⟨gones, b5⟩ := open_gones h5
    obtain ⟨lost, rfl, i6⟩ := open_cellI h6
    exact ⟨⟨name, valid, next, seq, mails, gones, lost⟩, c0, c4, c5, rfl, b0, b4, b5, i1, i2, i3, i6⟩
/-- A box, an account that came in, as the walks want it. -/
theorem open_box {H : Type} {enc : TypeId × Value → H} {W : World} {base : Nat} {cs : Array Value} {d : DataW H} {p : List MemPlace} (hs : cs.size = 7)
    (h : DataW.Trod enc Tryz.prog W base (fun _ => true) true 122 (.agg cs) d p) : ∃ x, BoxV W (.agg cs) x := by
  obtain ⟨fuel, hf⟩ := h
  obtain ⟨cs⟩ := cs
  obtain ⟨x, u0, u1, u2, e, r⟩ := open_boxCells (cs' := cs) (by simpa using hs) hf
  subst e
  exact ⟨x, u0, u1, u2, rfl, r⟩

end Go.Proofs.YtdokgpdfdenoaaaGreat

/- From what a row reads of an argument to what the walks ask: accounts that came in. -/
namespace Go.Proofs.YtdokgpdfdenoaaaGreat
open Go.ChangeShapes Go.WideShapes Go.ChangeAt Go.RowKit Go.Deep

/-- One cell that is read as a slice of numbers, of mails, of what went, of boxes. -/
theorem open_ints' {H : Type} {enc : TypeId × Value → H} {W : World} {base fuel : Nat} {c : Value} {y : DataW H × List MemPlace}
    (h : DataW.trod enc Tryz.prog W base (fun _ => true) true fuel 41 [c] = some y) : ∃ l, IntsV W c l := by
  refine open_rd (by omega) Tryz.underlying41 cellsI (fun n cs' y hl ht => ?_) h
  match cs', hl with
  | [c0], _ =>
    obtain ⟨k, rfl, i0⟩ := open_cellI ht
    exact ⟨k, rfl, i0⟩
theorem cellsXs : Tryz.prog.cellsOf 40 = 1 := by kernel_rfl
theorem cellsIs : Tryz.prog.cellsOf 41 = 1 := by kernel_rfl
theorem open_account {H : Type} {enc : TypeId × Value → H} {W : World} {base : Nat} {cs : Array Value} {d : DataW H} {p : List MemPlace} (hs : cs.size = 3)
    (h : DataW.Trod enc Tryz.prog W base (fun _ => true) true 43 (.agg cs) d p) : ∃ x, AccV W (.agg cs) x := by
  obtain ⟨fuel, hf⟩ := h
  obtain ⟨cs⟩ := cs
  match cs, hs with
  | [c0, c1, c2], _ =>
    have u := Tryz.underlying43
    obtain ⟨_, _, h0⟩ := open_field u hf 0 3 0 c0 rfl cellsI rfl
    obtain ⟨_, _, h1⟩ := open_field u hf 1 40 1 c1 rfl cellsXs rfl
    obtain ⟨_, _, h2⟩ := open_field u hf 2 41 2 c2 rfl cellsIs rfl
    obtain ⟨valid, rfl, i0⟩ := open_cellI h0
    obtain ⟨boxes, b1⟩ := open_rd (by omega) Tryz.underlying40 (by kernel_rfl) (fun n cs' y hl hf => open_boxCells hl hf) h1
    obtain ⟨seen, b2⟩ := open_ints' h2
    exact ⟨⟨valid, boxes, seen⟩, c1, c2, rfl, b1, b2, i0⟩

end Go.Proofs.YtdokgpdfdenoaaaGreat

/- From what a row reads of an argument to what the walks ask: a command that came in. -/
namespace Go.Proofs.YtdokgpdfdenoaaaGreat
open Go.ChangeShapes Go.WideShapes Go.ChangeAt Go.RowKit

/-- A command that came in, as the walks want it. -/
theorem open_cmd {H : Type} {enc : TypeId × Value → H} {W : World} {base : Nat} {cs : Array Value} {d : DataW H} {p : List MemPlace} (hs : cs.size = 8)
    (h : DataW.Trod enc Tryz.prog W base (fun _ => true) true 39 (.agg cs) d p) : ∃ k bx tt uid mode fl si tx, CmdV W (.agg cs) k bx tt uid mode fl si tx := by
  obtain ⟨fuel, hf⟩ := h
  obtain ⟨cs⟩ := cs
  match cs, hs with
  | [c0, c1, c2, c3, c4, c5, c6, c7], _ =>
    have u := Tryz.underlying39
    obtain ⟨_, _, h0⟩ := open_field u hf 0 3 0 c0 rfl cellsI rfl
    obtain ⟨_, _, h1⟩ := open_field u hf 1 37 1 c1 rfl cellsB rfl
    obtain ⟨_, _, h2⟩ := open_field u hf 2 37 2 c2 rfl cellsB rfl
    obtain ⟨_, _, h3⟩ := open_field u hf 3 3 3 c3 rfl cellsI rfl
    obtain ⟨_, _, h4⟩ := open_field u hf 4 3 4 c4 rfl cellsI rfl
    obtain ⟨_, _, h5⟩ := open_field u hf 5 3 5 c5 rfl cellsI rfl
    obtain ⟨_, _, h6⟩ := open_field u hf 6 3 6 c6 rfl cellsI rfl
    obtain ⟨_, _, h7⟩ := open_field u hf 7 37 7 c7 rfl cellsB rfl
    obtain ⟨k, rfl, i0⟩ := open_cellI h0
    obtain ⟨bx, b1⟩ := open_cellB h1
    obtain ⟨tt, b2⟩ := open_cellB h2
    obtain ⟨uid, rfl, i3⟩ := open_cellI h3
    obtain ⟨mode, rfl, i4⟩ := open_cellI h4
    obtain ⟨fl, rfl, i5⟩ := open_cellI h5
    obtain ⟨si, rfl, i6⟩ := open_cellI h6
    obtain ⟨tx, b7⟩ := open_cellB h7
    exact ⟨k, bx, tt, uid, mode, fl, si, tx, c1, c2, c7, rfl, b1, b2, b7, i0, i3, i4, i5, i6⟩

end Go.Proofs.YtdokgpdfdenoaaaGreat

/- A field of a struct that takes several cells. -/
namespace Go.Proofs.YtdokgpdfdenoaaaGreat
open Go.ChangeShapes Go.WideShapes Go.ChangeAt Go.RowKit

/-- A field of a struct that takes several cells. -/
theorem open_part {H : Type} {enc : TypeId × Value → H} {P : Program} {W : World} {base fuel : Nat} {spare : Nat → Bool} {held : Bool} {t : TypeId} {fs : Array Field} {cs : List Value} {x : DataW H × List MemPlace}
    (ht : P.underlying t = some (.struct fs)) (h : DataW.trod enc P W base spare held fuel t cs = some x) (i : Nat) (ty : TypeId) (off n : Nat) (c : List Value) (hf : fs[i]?.map (fun f => (f.type, f.offset)) = some (ty, off)) (h1 : P.cellsOf ty = n) (hc : (cs.drop off).take n = c) :
    ∃ n y, DataW.trod enc P W base spare held n ty c = some y := by
  obtain ⟨f, hf0, hf1⟩ := Option.map_eq_some_iff.1 hf
  simp only [Prod.mk.injEq] at hf1
  obtain ⟨rfl, rfl⟩ := hf1
  obtain ⟨xs, m, _, rfl, hl, hlen, hf'⟩ := DataW.trod_struct ht h
  have := hf' i f (by simpa using hf0)
  rw [h1, hc] at this
  have hi : i < xs.length := by rw [hlen]; exact (Array.getElem?_eq_some_iff.1 hf0).1
  exact ⟨m, xs[i], by rw [this, List.getElem?_eq_getElem hi]⟩

end Go.Proofs.YtdokgpdfdenoaaaGreat

/- From what a row reads of an argument to what the walks ask: a record that came in. -/
namespace Go.Proofs.YtdokgpdfdenoaaaGreat
open Go.ChangeShapes Go.WideShapes Go.ChangeAt Go.RowKit

theorem open_recCells {H : Type} {enc : TypeId × Value → H} {W : World} {base n : Nat} {cs' : List Value} {y : DataW H × List MemPlace} (hl : cs'.length = 14)
    (hf : DataW.trod enc Tryz.prog W base (fun _ => true) true n 45 cs' = some y) : ∃ r, RecV W (.agg cs'.toArray) r := by
  match cs', hl with
  | [p0, p1, p2, p3, p4, p5, p6, p7, p8, p9, p10, p11, p12, p13], _ =>
    have u := Tryz.underlying45
    obtain ⟨_, _, h0⟩ := open_field u hf 0 3 0 p0 rfl cellsI rfl
    obtain ⟨_, _, h1⟩ := open_field u hf 1 3 1 p1 rfl cellsI rfl
    obtain ⟨_, _, h2⟩ := open_field u hf 2 3 2 p2 rfl cellsI rfl
    obtain ⟨_, _, h3⟩ := open_part u hf 3 39 3 8 [p3, p4, p5, p6, p7, p8, p9, p10] rfl (by kernel_rfl) rfl
    obtain ⟨_, _, h4⟩ := open_part u hf 4 43 11 3 [p11, p12, p13] rfl (by kernel_rfl) rfl
    obtain ⟨kind, rfl, i0⟩ := open_cellI h0
    obtain ⟨user, rfl, i1⟩ := open_cellI h1
    obtain ⟨nn, rfl, i2⟩ := open_cellI h2
    obtain ⟨k, bx, tt, uid, mode, fl, si, tx, hc⟩ := open_cmd (cs := #[p3, p4, p5, p6, p7, p8, p9, p10]) (d := _) (p := _) rfl ⟨_, h3⟩
    obtain ⟨a, ha⟩ := open_account (cs := #[p11, p12, p13]) (d := _) (p := _) rfl ⟨_, h4⟩
    have hc' := hc
    have ha' := ha
    obtain ⟨u0, u1, u2, e, -⟩ := hc
    obtain ⟨u3, u4, e', -⟩ := ha
    simp only [Value.agg.injEq, Array.mk.injEq, List.cons.injEq, and_true] at e e'
    obtain ⟨rfl, rfl, rfl, rfl, rfl, rfl, rfl, rfl⟩ := e
    obtain ⟨rfl, rfl, rfl⟩ := e'
    exact ⟨⟨kind, user, nn, ⟨k, bx, tt, uid, mode, fl, si, tx⟩, a⟩, _, _, _, _, _, rfl, hc', ha', i0, i1, i2⟩
theorem open_record {H : Type} {enc : TypeId × Value → H} {W : World} {base : Nat} {cs : Array Value} {d : DataW H} {p : List MemPlace} (hs : cs.size = 14)
    (h : DataW.Trod enc Tryz.prog W base (fun _ => true) true 45 (.agg cs) d p) : ∃ r, RecV W (.agg cs) r := by
  obtain ⟨fuel, hf⟩ := h
  obtain ⟨cs⟩ := cs
  exact open_recCells (cs' := cs) (by simpa using hs) hf

end Go.Proofs.YtdokgpdfdenoaaaGreat

/- From what a row reads of an argument to what the walks ask: a list of records that came in. -/
namespace Go.Proofs.YtdokgpdfdenoaaaGreat
open Go.ChangeShapes Go.WideShapes Go.ChangeAt Go.RowKit

theorem open_recs {H : Type} {enc : TypeId × Value → H} {W : World} {base : Nat} {a : Option Addr} {n c : Nat} {d : DataW H} {p : List MemPlace}
    (h : DataW.Trod enc Tryz.prog W base (fun _ => true) true 22 (.slice a n c) d p) : ∃ l, RecsV W (.slice a n c) l := by
  obtain ⟨fuel, hf⟩ := h
  refine open_rd (by omega) Tryz.underlying22 (by kernel_rfl) (fun n cs' y hl ht => ?_) (by simpa [Value.cells] using hf)
  exact open_recCells hl ht

end Go.Proofs.YtdokgpdfdenoaaaGreat
