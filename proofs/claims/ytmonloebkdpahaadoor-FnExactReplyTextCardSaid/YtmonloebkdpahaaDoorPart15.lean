/- The proof's texts, part 15. -/
import Derived.Test.YtmonloebkdpahaaDoorPart8
import Derived.Test.YtmonloebkdpahaaDoorPart9
import Derived.Test.YtmonloebkdpahaaDoorPart10
import Derived.Test.YtmonloebkdpahaaDoorPart11
import Derived.Test.YtmonloebkdpahaaDoorPart12
import Derived.Test.YtmonloebkdpahaaDoorPart13
import Derived.Test.YtmonloebkdpahaaDoorPart14
import Derived.Test.YtmonloebkdpahaaDoorPart1
import Derived.Test.YtmonloebkdpahaaDoorPart3
import Derived.Test.YtmonloebkdpahaaDoorPart2
import Derived.Test.YtmonloebkdpahaaDoorPart5
import Derived.Test.YtmonloebkdpahaaDoorPart7
import Derived.Deep.RegionHeld3
import Derived.Test.YtmonloebkdpahaaDoorRows
import Derived.ProofKit
import Derived.OpenShut
import Derived.ShutString
import Derived.ChangeOld
import Derived.ChangeSame
import Derived.Deep.Light
import Derived.Deep.Slices
import Derived.ChangeVars
import Derived.JoinedOf
import Derived.RowKit
import Derived.RowKitTokens
import Derived.LaidLaws
import Derived.LaidHandle
import Derived.Stop.Joined
import Derived.Stop.LaidErr
import Derived.Lib.LaidTab
import Derived.WalkSmall

/- What l3boxOk of package spec does of every box. -/
namespace Go.Proofs.YtmonloebkdpahaaDoor
open Go.RowKit
set_option maxRecDepth 100000

theorem l3boxOk_in (v : Value) (x : BoxD) (mv : Int) (w : World) (hv : BoxV w v x) (hX1 : nameB x.name = true) (q0 : 1 ≤ x.valid) (q1 : x.valid ≤ mv) (q2 : 1 ≤ x.next) (q3 : x.next ≤ 1000000) (q4 : 0 ≤ x.seq) (q5 : x.seq ≤ 1000000) (q6 : (x.mails.length : Int) ≤ 12) (q7 : (x.gones.length : Int) ≤ 40) (q8 : 0 ≤ x.lost) (q9 : x.lost ≤ x.seq) :
    Calls Tryd.prog 48 #[v, .int .i64 mv] w fun e w' => e = .returned (.bool (boxB x mv)) ∧ Below w.heap.size w w' := by
  cases h : (List.range x.mails.length).all (mailAt x) with
  | true =>
    have hA : ∀ j, j < x.mails.length → mailAt x j = true := fun j hj => List.all_eq_true.1 h j (List.mem_range.2 hj)
    cases hg : (List.range x.gones.length).all (goneAt x) with
    | true => exact l3boxOk_inH v x mv w hv hX1 q0 q1 q2 q3 q4 q5 q6 q7 q8 q9 hA (fun j hj => List.all_eq_true.1 hg j (List.mem_range.2 hj))
    | false =>
      obtain ⟨kb, _, h1, h2⟩ := first_bad hg
      cases he : earlyB x kb with
      | true =>
        have hr := clsB_range x kb
        have h5 := early_cls he
        rcases (show clsB x kb = 1 ∨ clsB x kb = 2 ∨ clsB x kb = 3 ∨ 4 ≤ clsB x kb by omega) with h | h | h | h
        · exact l3boxOk_inJc v x mv w hv hX1 q0 q1 q2 q3 q4 q5 q6 q7 q8 q9 hA hg (fun k h3 h4 => by rw [only_bad h1 h2 h3 h4]; omega)
        · exact l3boxOk_inJd v x mv w hv hX1 q0 q1 q2 q3 q4 q5 q6 q7 q8 q9 hA hg (fun k h3 h4 => by rw [only_bad h1 h2 h3 h4]; omega)
        · exact l3boxOk_inJe v x mv w hv hX1 q0 q1 q2 q3 q4 q5 q6 q7 q8 q9 hA hg (fun k h3 h4 => by rw [only_bad h1 h2 h3 h4]; omega)
        · exact l3boxOk_inJb v x mv w hv hX1 q0 q1 q2 q3 q4 q5 q6 q7 q8 q9 hA hg (fun k h3 h4 => by rw [only_bad h1 h2 h3 h4]; omega)
      | false => exact l3boxOk_inI v x mv w hv hX1 q0 q1 q2 q3 q4 q5 q6 q7 q8 q9 hA hg (fun k h3 h4 => by rw [only_bad h1 h2 h3 h4]; exact he)
  | false => exact l3boxOk_inM v x mv w hv hX1 q0 q1 q2 q3 q4 q5 q6 q7 q8 q9 h

theorem boxB_no {x : BoxD} {mv : Int} (h : ¬ (1 ≤ x.valid ∧ x.valid ≤ mv ∧ 1 ≤ x.next ∧ x.next ≤ 1000000 ∧ 0 ≤ x.seq ∧ x.seq ≤ 1000000 ∧ (x.mails.length : Int) ≤ 12 ∧ (x.gones.length : Int) ≤ 40 ∧ 0 ≤ x.lost ∧ x.lost ≤ x.seq)) : boxB x mv = false := by
  rw [Bool.eq_false_iff]
  intro e
  simp only [boxB, mailsB, gonesB, inB, Bool.and_eq_true, decide_eq_true_eq] at e
  obtain ⟨-, ⟨e1, e2⟩, ⟨e3, e4⟩, ⟨e5, e6⟩, ⟨e7, e8⟩, ⟨e9, -⟩, e10, -⟩ := e
  exact h ⟨e1, e2, e3, e4, e5, e6, by omega, by omega, e7, e8⟩

set_option maxRecDepth 100000 in
set_option maxHeartbeats 8000000 in
theorem l3boxOk_any (v : Value) (x : BoxD) (mv : Int) (w : World) (hv : BoxV w v x) :
    Calls Tryd.prog 48 #[v, .int .i64 mv] w fun e w' => e = .returned (.bool (boxB x mv)) ∧ Below w.heap.size w w' := by
  cases hX : nameB x.name with
  | true =>
    by_cases hC : 1 ≤ x.valid ∧ x.valid ≤ mv ∧ 1 ≤ x.next ∧ x.next ≤ 1000000 ∧ 0 ≤ x.seq ∧ x.seq ≤ 1000000 ∧ (x.mails.length : Int) ≤ 12 ∧ (x.gones.length : Int) ≤ 40 ∧ 0 ≤ x.lost ∧ x.lost ≤ x.seq
    · obtain ⟨q0, q1, q2, q3, q4, q5, q6, q7, q8, q9⟩ := hC
      exact l3boxOk_in v x mv w hv hX q0 q1 q2 q3 q4 q5 q6 q7 q8 q9
    · obtain ⟨u0, u1, u2, rfl, g0, g1, g2, -⟩ := hv
      have HX : Hid (∀ o, Below w.heap.size w (w.alloc o)) := fun o => (Below.refl _ _).alloc (Nat.le_refl _) o
      have hn : ∀ o, Calls Tryd.prog 47 #[u0] (w.alloc o) fun e w' => e = .returned (.bool true) ∧ w' = w.alloc o := fun o => by
        have h := l3name_any _ x.name _ (g0.below (HX.out o))
        rwa [hX] at h
      obtain ⟨a0, n0, c0, rfl⟩ := g0.form3
      obtain ⟨a1, c1, rfl, m0, m1⟩ := g1.form
      obtain ⟨a2, c2, rfl, m2, m3⟩ := g2.form
      clear g0 g1 g2 hX
      have HC : Hid (¬ (1 ≤ x.valid ∧ x.valid ≤ mv ∧ 1 ≤ x.next ∧ x.next ≤ 1000000 ∧ 0 ≤ x.seq ∧ x.seq ≤ 1000000 ∧ (x.mails.length : Int) ≤ 12 ∧ (x.gones.length : Int) ≤ 40 ∧ 0 ≤ x.lost ∧ x.lost ≤ x.seq)) := hC
      clear hC
      go_enter Tryd.func48, Tryd.ntmps48
      go_wp2_with fail
      refine (hn _).mono ?_
      rintro e w' ⟨rfl, rfl⟩
      clear hn
      go_wp2
      all_goals first
        | (go_ret; exact ⟨ret_b (boxB_no HC.out), HX.out _⟩)
        | exact (HC.out ⟨by omega, by omega, by omega, by omega, by omega, by omega, by omega, by omega, by omega, by omega⟩).elim
  | false =>
    have HZ : Hid (boxB x mv = false) := by simp [Hid, boxB, hX]
    obtain ⟨u0, u1, u2, rfl, g0, g1, g2, -⟩ := hv
    have HX : Hid (∀ o, Below w.heap.size w (w.alloc o)) := fun o => (Below.refl _ _).alloc (Nat.le_refl _) o
    have hn : ∀ o, Calls Tryd.prog 47 #[u0] (w.alloc o) fun e w' => e = .returned (.bool false) ∧ w' = w.alloc o := fun o => by
      have h := l3name_any _ x.name _ (g0.below (HX.out o))
      rwa [hX] at h
    obtain ⟨a0, n0, c0, rfl⟩ := g0.form3
    obtain ⟨a1, c1, rfl, m0, m1⟩ := g1.form
    obtain ⟨a2, c2, rfl, m2, m3⟩ := g2.form
    clear g0 g1 g2 hX
    go_enter Tryd.func48, Tryd.ntmps48
    go_wp2_with fail
    refine (hn _).mono ?_
    rintro e w' ⟨rfl, rfl⟩
    clear hn
    go_wp2
    go_ret
    exact ⟨ret_b HZ.out, HX.out _⟩

end Go.Proofs.YtmonloebkdpahaaDoor

/- Bytes that lie in blocks of an interval; bytes that are marked. -/
namespace Go.Proofs.YtmonloebkdpahaaDoor
open Go.RowKit

/-- Bytes that lie in blocks from B on and below T. -/
def BsI (w : World) (B T : Nat) (v : Value) (l : List Int) : Prop := Bs w v l ∧ ∀ g, v.ownBlock = some g → B ≤ g ∧ (0 < l.length → g < T)
section
variable {w w' : World} {B T B' T' : Nat} {x : Value} {l : List Int}
theorem BsI.bs (h : BsI w B T x l) : Bs w x l := h.1
theorem BsI.below (h : BsI w B T x l) (hb : Below w.heap.size w w') : BsI w' B T x l := ⟨h.1.below hb, h.2⟩
theorem BsI.wide (h : BsI w B T x l) (hB : B' ≤ B) (hT : T ≤ T') : BsI w B' T' x l := ⟨h.1, fun g hg => ⟨Nat.le_trans hB (h.2 g hg).1, fun hp => Nat.lt_of_lt_of_le ((h.2 g hg).2 hp) hT⟩⟩
theorem BsI.keptW (h : BsI w B T x l) (hw : Within B' T' w w') (hd : T ≤ B' ∨ T' ≤ B) : BsI w' B T x l := by
  refine ⟨?_, h.2⟩
  obtain ⟨⟨ho, a, cap, rfl, h1, h2, h3, h4⟩, h5⟩ := h
  refine ⟨ho, a, cap, rfl, h1, h2, h3, fun hp => ?_⟩
  obtain ⟨b, off, rfl, hb, hc⟩ := h4 hp
  have q1 := (h5 b rfl).1
  have q2 := (h5 b rfl).2 hp
  have e : w'.heap[b]? = w.heap[b]? := hw.block b hb (by omega)
  exact ⟨b, off, rfl, Nat.lt_of_lt_of_le hb hw.size, fun i hi => (World.cell?_of_block (a := ⟨b, off + i, none⟩) e).trans (hc i hi)⟩
end
/-- Bytes of new memory. -/
theorem bsI_of {w w' : World} {u : Value} {l : List Int} (hB : Bs w' u l) (hn : ∀ g, u.ownBlock = some g → w.heap.size ≤ g) : BsI w' w.heap.size w'.heap.size u l := by
  refine ⟨hB, fun g hg => ⟨hn g hg, fun hp => ?_⟩⟩
  obtain ⟨ho, a, cap, rfl, h1, h2, h3, h4⟩ := hB
  obtain ⟨b, off, rfl, hb, -⟩ := h4 hp
  have e : b = g := by simpa [Value.ownBlock] using hg
  rw [← e]
  exact hb
theorem markByteS_w (B T : Nat) (v : Value) (l : List Int) (k : Int) (w : World) (hv : Row w B T v l) (hl : l.length ≤ 2000000) (hk0 : 0 ≤ k) (hk1 : k ≤ 1000000000000) :
    Calls Tryd.prog 12 #[v, .int .i64 k] w fun e w' => e = .returned (.int .i64 (k + l.length)) ∧ Row w' B T v (marks k l.length) ∧ Within B T w w' :=
  (markByteS_r B T v l k w hv hl hk0 hk1).mono fun _ _ ⟨h1, h2, h3⟩ => ⟨h1, h2, hv.within h3⟩

end Go.Proofs.YtmonloebkdpahaaDoor

/- How long a reply's text can be. -/
namespace Go.Proofs.YtmonloebkdpahaaDoor
open Go.RowKit

theorem rtB_len (x : RepD) : (rtB x).length ≤ 2000000 := by
  cases h : repB x with
  | false => rw [rtB_no h]; simp
  | true =>
    rw [rtB_yes h]
    obtain ⟨h0, h1, h2, h3, h4⟩ := rep_facts h
    have hc : (codeW x.code).length ≤ 6 := by
      obtain ⟨n, hn⟩ : ∃ n : Nat, x.code = n := ⟨x.code.toNat, by omega⟩
      rw [hn]; exact (codeW_ok n (by omega)).1
    have hd : (digB x.num.toNat).length ≤ 8 := digB_len10 (by omega)
    have ht := toks_len ((digB x.num.toNat) :: x.names) (fun s hs => by
      rcases List.mem_cons.1 hs with rfl | hs
      · omega
      · have := h3 s hs; omega)
    have hhead : (headL x).length ≤ 6000 := by
      simp only [headL, List.length_append, List.length_cons, List.length_nil] at ht ⊢
      omega
    simp only [replyL, List.length_append]
    split
    · simp; omega
    · rename_i hz
      rcases h4 with h4 | h4
      · exact absurd h4 hz
      obtain ⟨b0, -, b1, b2, b3, b4, b5, b6, b7⟩ := box_facts h4
      have d1 : (digB x.box.valid.toNat).length ≤ 8 := digB_len10 (by omega)
      have d2 : (digB x.box.next.toNat).length ≤ 8 := digB_len10 (by omega)
      have d3 : (digB x.box.seq.toNat).length ≤ 8 := digB_len10 (by omega)
      have hb : (boxLine x.box).length ≤ 5000 := by
        have := toks_len [x.box.name, digB x.box.valid.toNat, digB x.box.next.toNat, digB x.box.seq.toNat] (fun s hs => by
          simp only [List.mem_cons, List.not_mem_nil, or_false] at hs
          rcases hs with rfl | rfl | rfl | rfl <;> omega)
        simp only [boxLine, List.length_append, List.length_cons, List.length_nil] at this ⊢
        omega
      have hm := flat_len mailLine 5000 x.box.mails (fun m hm => by
        obtain ⟨m0, m1, m2, m3, m4, m5, m6⟩ := b6 m hm
        have e1 : (digB m.uid.toNat).length ≤ 8 := digB_len10 (by omega)
        have e2 : (digB m.seq.toNat).length ≤ 8 := digB_len10 (by omega)
        have e3 := flagsB_len m.flags
        have e4 := quoB_len m.text
        have := toks_len [digB m.uid.toNat, digB m.seq.toNat, flagsB m.flags, quoB m.text] (fun s hs => by
          simp only [List.mem_cons, List.not_mem_nil, or_false] at hs
          rcases hs with rfl | rfl | rfl | rfl <;> omega)
        simp only [mailLine, List.length_append, List.length_cons, List.length_nil] at this ⊢
        omega)
      have hg := flat_len goneLine 2000 x.box.gones (fun m hm => by
        have g0 := b7 m hm
        have e1 : (digB m.uid.toNat).length ≤ 8 := digB_len10 (by omega)
        have := toks_len [digB m.uid.toNat] (fun s hs => by
          simp only [List.mem_cons, List.not_mem_nil, or_false] at hs
          subst hs; omega)
        simp only [goneLine, List.length_append, List.length_cons, List.length_nil] at this ⊢
        omega)
      simp only [boxLines, List.length_append]
      omega

end Go.Proofs.YtmonloebkdpahaaDoor

/- The law FnExactReplyText, walked out of the contracts. -/
namespace Go.Proofs.YtmonloebkdpahaaDoor
open Go.RowKit
set_option maxRecDepth 100000

theorem specReplyText_i (v : Value) (x : RepD) (w : World) (hv : RepV w v x) :
    Calls Tryd.prog 6 #[v] w fun e w' => ∃ u, e = .returned u ∧ BsI w' w.heap.size w'.heap.size u (rtB x) ∧ Below w.heap.size w w' := by
  refine (specReplyText_gen v x w hv (fun wi h u hu => l3boxOk_any u x.box 1000000 wi hu)).mono ?_
  rintro e w' ⟨u, rfl, hB, hn, B⟩
  exact ⟨u, rfl, bsI_of hB hn, B⟩

set_option maxRecDepth 100000 in
set_option maxHeartbeats 4000000 in
theorem exactReplyText_walk (v : Value) (x : RepD) (w : World) (hv : RepV w v x) (ht : Tab10 w) :
    Calls Tryd.prog 3 #[v] w fun e w' => e = .returned (.bool true) ∧ Below w.heap.size w w' := by
  have HV : Hid (∀ wi, Below w.heap.size w wi → RepV wi v x) := fun wi h => hv.below h
  have HT : Hid (∀ wi, Below w.heap.size w wi → Tab10 wi) := fun wi h => Lib.tabBelow_of_tabIs ht _ h
  obtain ⟨a0, n0, c0, a1, c1, a2, c2, a3, c3, rfl⟩ := hv.form
  clear hv ht
  have hP := rtB_len x
  generalize hPe : rtB x = P at hP
  have HPE : Hid (rtB x = P) := hPe
  clear hPe
  go_enter Tryd.func3, Tryd.ntmps3
  have ab : ∀ o, Below w.heap.size w (w.alloc o) := fun o => (Below.refl _ _).alloc (Nat.le_refl _) o
  go_wp2_with fail
  refine (szReply_any _ x 1048576 _ (HV.out _ (ab _)) (by omega) (by omega)).mono ?_
  rintro e w1 ⟨y, rfl, hx, B⟩
  have kA := box_below B (box_new w (.cells #[.int .i64 x.code, .int .i64 x.num, .slice a0 n0 c0, .int .i64 x.box.valid, .int .i64 x.box.next, .int .i64 x.box.seq, .slice a1 x.box.mails.length c1, .slice a2 x.box.gones.length c2, .int .i64 x.box.lost, .slice a3 x.names.length c3] 29))
  have X := Below.step (Below.step (Below.refl _ _) (ab _)) B
  have s1 : w.heap.size + 1 ≤ w1.heap.size := by have := B.size; simp at this; omega
  clear B ab
  rcases hx with rfl | ⟨hx0, hx1⟩
  · clear kA
    go_wp2
    go_ret
    exact ⟨rfl, X⟩
  have z0 : szX x.box ≤ 1048576 := by omega
  have z1 : szN x.names ≤ 1048576 := by omega
  have y0 : x.box.name.length ≤ 1048576 := by have := z0; simp only [szX] at this; omega
  have y1 : szM x.box.mails ≤ 1048576 := by have := z0; simp only [szX] at this; omega
  have y2 : x.box.gones.length ≤ 1048576 := by have := z0; simp only [szX] at this; omega
  clear hx1
  obtain ⟨fA0, fA1, fA2, fA3, fA4, fA5, fA6, fA7, fA8, fA9, lA⟩ := box10l kA
  go_wp2_with fail
  refine (toReply_r _ x _ (HV.out _ X) (by omega) (by omega)).mono ?_
  rintro e w2 ⟨u1, rfl, R1, B⟩
  clear fA0 fA1 fA2 fA3 fA4 fA5 fA6 fA7 fA8 fA9 lA
  replace kA := box_below B kA
  replace X := Below.step X B
  have s2 : w1.heap.size ≤ w2.heap.size := B.size
  clear B
  obtain ⟨fA0, fA1, fA2, fA3, fA4, fA5, fA6, fA7, fA8, fA9, lA⟩ := box10l kA
  go_wp2_with fail
  refine (specReplyText_i _ x _ R1.rv).mono ?_
  rintro e w3 ⟨u2, rfl, R2, B⟩
  rw [HPE.out] at R2
  clear fA0 fA1 fA2 fA3 fA4 fA5 fA6 fA7 fA8 fA9 lA
  replace R1 := R1.below B
  replace kA := box_below B kA
  replace X := Below.step X B
  have s3 : w2.heap.size ≤ w3.heap.size := B.size
  clear B
  clear R1
  obtain ⟨fA0, fA1, fA2, fA3, fA4, fA5, fA6, fA7, fA8, fA9, lA⟩ := box10l kA
  go_wp2_with fail
  refine (toReply_r _ x _ (HV.out _ X) (by omega) (by omega)).mono ?_
  rintro e w4 ⟨u3, rfl, R3, B⟩
  clear fA0 fA1 fA2 fA3 fA4 fA5 fA6 fA7 fA8 fA9 lA
  replace R2 := R2.below B
  replace kA := box_below B kA
  replace X := Below.step X B
  have s4 : w3.heap.size ≤ w4.heap.size := B.size
  clear B
  obtain ⟨b0, m0, d0, b1, d1, b2, d2, b3, d3, rfl⟩ := R3.rv.form
  have ab : ∀ o, Below w4.heap.size w4 (w4.alloc o) := fun o => (Below.refl _ _).alloc (Nat.le_refl _) o
  obtain ⟨fA0, fA1, fA2, fA3, fA4, fA5, fA6, fA7, fA8, fA9, lA⟩ := box10l kA
  go_wp2_with fail
  refine (implReplyText_r _ x _ (R3.below (ab _)).rv (HT.out _ (Below.step X (ab _)))).mono ?_
  rintro e w5 ⟨u4, rfl, R4, B⟩
  rw [HPE.out] at R4
  clear fA0 fA1 fA2 fA3 fA4 fA5 fA6 fA7 fA8 fA9 lA
  replace R2 := (R2.below (ab _)).below B
  replace R3 := (R3.below (ab _)).below B
  replace kA := box_below B (box_alloc kA _)
  have kx := box_below B (box_new w4 (.cells #[.int .i64 x.code, .int .i64 x.num, .slice b0 m0 d0, .int .i64 x.box.valid, .int .i64 x.box.next, .int .i64 x.box.seq, .slice b1 x.box.mails.length d1, .slice b2 x.box.gones.length d2, .int .i64 x.box.lost, .slice b3 x.names.length d3] 37))
  replace X := Below.step (Below.step X (ab _)) B
  have s5 : w4.heap.size + 1 ≤ w5.heap.size := by have := B.size; simp at this; omega
  replace R4 := R4.wide (B' := w4.heap.size + 1) (by simp) (Nat.le_refl _)
  clear B ab
  obtain ⟨fA0, fA1, fA2, fA3, fA4, fA5, fA6, fA7, fA8, fA9, lA⟩ := box10l kA
  obtain ⟨fx0, fx1, fx2, fx3, fx4, fx5, fx6, fx7, fx8, fx9, lx⟩ := box10l kx
  go_wp2_with fail
  refine (eqByteS_yes _ _ P _ R4.bs R2.bs).mono ?_
  rintro e w6 ⟨rfl, B⟩
  clear fA0 fA1 fA2 fA3 fA4 fA5 fA6 fA7 fA8 fA9 lA fx0 fx1 fx2 fx3 fx4 fx5 fx6 fx7 fx8 fx9 lx
  replace R2 := R2.below B
  replace R3 := R3.below B
  replace R4 := R4.below B
  replace kA := box_below B kA
  replace kx := box_below B kx
  replace X := Below.step X B
  have s6 : w5.heap.size ≤ w6.heap.size := B.size
  clear B
  have HS : Hid (∀ w', Below w6.heap.size w6 w' → w'.cell? ⟨w4.heap.size, 0, none⟩ = some (.int .i64 x.code) ∧ w'.cell? ⟨w4.heap.size, 1, none⟩ = some (.int .i64 x.num) ∧ w'.cell? ⟨w4.heap.size, 2, none⟩ = some (.slice b0 m0 d0) ∧ w'.cell? ⟨w4.heap.size, 3, none⟩ = some (.int .i64 x.box.valid) ∧ w'.cell? ⟨w4.heap.size, 4, none⟩ = some (.int .i64 x.box.next) ∧ w'.cell? ⟨w4.heap.size, 5, none⟩ = some (.int .i64 x.box.seq) ∧ w'.cell? ⟨w4.heap.size, 6, none⟩ = some (.slice b1 x.box.mails.length d1) ∧ w'.cell? ⟨w4.heap.size, 7, none⟩ = some (.slice b2 x.box.gones.length d2) ∧ w'.cell? ⟨w4.heap.size, 8, none⟩ = some (.int .i64 x.box.lost) ∧ w'.cell? ⟨w4.heap.size, 9, none⟩ = some (.slice b3 x.names.length d3) ∧ w'.cell? ⟨w.heap.size, 0, none⟩ = some (.int .i64 x.code) ∧ w'.cell? ⟨w.heap.size, 1, none⟩ = some (.int .i64 x.num) ∧ w'.cell? ⟨w.heap.size, 2, none⟩ = some (.slice a0 n0 c0) ∧ w'.cell? ⟨w.heap.size, 3, none⟩ = some (.int .i64 x.box.valid) ∧ w'.cell? ⟨w.heap.size, 4, none⟩ = some (.int .i64 x.box.next) ∧ w'.cell? ⟨w.heap.size, 5, none⟩ = some (.int .i64 x.box.seq) ∧ w'.cell? ⟨w.heap.size, 6, none⟩ = some (.slice a1 x.box.mails.length c1) ∧ w'.cell? ⟨w.heap.size, 7, none⟩ = some (.slice a2 x.box.gones.length c2) ∧ w'.cell? ⟨w.heap.size, 8, none⟩ = some (.int .i64 x.box.lost) ∧ w'.cell? ⟨w.heap.size, 9, none⟩ = some (.slice a3 x.names.length c3)) := fun w' h => ⟨(box10l (box_below h kx)).1, (box10l (box_below h kx)).2.1, (box10l (box_below h kx)).2.2.1, (box10l (box_below h kx)).2.2.2.1, (box10l (box_below h kx)).2.2.2.2.1, (box10l (box_below h kx)).2.2.2.2.2.1, (box10l (box_below h kx)).2.2.2.2.2.2.1, (box10l (box_below h kx)).2.2.2.2.2.2.2.1, (box10l (box_below h kx)).2.2.2.2.2.2.2.2.1, (box10l (box_below h kx)).2.2.2.2.2.2.2.2.2.1, (box10l (box_below h kA)).1, (box10l (box_below h kA)).2.1, (box10l (box_below h kA)).2.2.1, (box10l (box_below h kA)).2.2.2.1, (box10l (box_below h kA)).2.2.2.2.1, (box10l (box_below h kA)).2.2.2.2.2.1, (box10l (box_below h kA)).2.2.2.2.2.2.1, (box10l (box_below h kA)).2.2.2.2.2.2.2.1, (box10l (box_below h kA)).2.2.2.2.2.2.2.2.1, (box10l (box_below h kA)).2.2.2.2.2.2.2.2.2.1⟩
  have DR : Below w6.heap.size w6 w6.drew := (Below.refl _ _).drew
  obtain ⟨fA0, fA1, fA2, fA3, fA4, fA5, fA6, fA7, fA8, fA9, lA⟩ := box10l kA
  obtain ⟨fx0, fx1, fx2, fx3, fx4, fx5, fx6, fx7, fx8, fx9, lx⟩ := box10l kx
  go_wp2
  go_region_held3 (fun w' => w'.cell? ⟨w4.heap.size, 0, none⟩ = some (.int .i64 x.code) ∧ w'.cell? ⟨w4.heap.size, 1, none⟩ = some (.int .i64 x.num) ∧ w'.cell? ⟨w4.heap.size, 2, none⟩ = some (.slice b0 m0 d0) ∧ w'.cell? ⟨w4.heap.size, 3, none⟩ = some (.int .i64 x.box.valid) ∧ w'.cell? ⟨w4.heap.size, 4, none⟩ = some (.int .i64 x.box.next) ∧ w'.cell? ⟨w4.heap.size, 5, none⟩ = some (.int .i64 x.box.seq) ∧ w'.cell? ⟨w4.heap.size, 6, none⟩ = some (.slice b1 x.box.mails.length d1) ∧ w'.cell? ⟨w4.heap.size, 7, none⟩ = some (.slice b2 x.box.gones.length d2) ∧ w'.cell? ⟨w4.heap.size, 8, none⟩ = some (.int .i64 x.box.lost) ∧ w'.cell? ⟨w4.heap.size, 9, none⟩ = some (.slice b3 x.names.length d3) ∧ w'.cell? ⟨w.heap.size, 0, none⟩ = some (.int .i64 x.code) ∧ w'.cell? ⟨w.heap.size, 1, none⟩ = some (.int .i64 x.num) ∧ w'.cell? ⟨w.heap.size, 2, none⟩ = some (.slice a0 n0 c0) ∧ w'.cell? ⟨w.heap.size, 3, none⟩ = some (.int .i64 x.box.valid) ∧ w'.cell? ⟨w.heap.size, 4, none⟩ = some (.int .i64 x.box.next) ∧ w'.cell? ⟨w.heap.size, 5, none⟩ = some (.int .i64 x.box.seq) ∧ w'.cell? ⟨w.heap.size, 6, none⟩ = some (.slice a1 x.box.mails.length c1) ∧ w'.cell? ⟨w.heap.size, 7, none⟩ = some (.slice a2 x.box.gones.length c2) ∧ w'.cell? ⟨w.heap.size, 8, none⟩ = some (.int .i64 x.box.lost) ∧ w'.cell? ⟨w.heap.size, 9, none⟩ = some (.slice a3 x.names.length c3))
    (first | go_keep | exact HS.out _ (Below.step (Below.step DR B) B') | exact HS.out _ (Below.step DR B))
    ((first | (go_at_call 7; refine (toReply_r _ x _ (HV.out _ (Below.step X DR)) (by omega) (by omega)).mono ?_; rintro e w7 ⟨u5, rfl, R5, B⟩) | (go_at_call 10; refine (eqReply_yes _ _ x _ ((R3.below DR).below B).rv R5.rv).mono ?_; rintro e w8 ⟨rfl, B'⟩)))
  clear fA0 fA1 fA2 fA3 fA4 fA5 fA6 fA7 fA8 fA9 lA fx0 fx1 fx2 fx3 fx4 fx5 fx6 fx7 fx8 fx9 lx
  replace R2 := ((R2.below DR).below B).below B'
  replace R3 := ((R3.below DR).below B).below B'
  replace R4 := ((R4.below DR).below B).below B'
  replace kA := box_below B' (box_below B (box_below DR kA))
  replace kx := box_below B' (box_below B (box_below DR kx))
  replace X := Below.step (Below.step (Below.step X DR) B) B'
  have s8 : w6.heap.size ≤ w8.heap.size := Nat.le_trans B.size B'.size
  clear HS DR B B' R5
  obtain ⟨fA0, fA1, fA2, fA3, fA4, fA5, fA6, fA7, fA8, fA9, lA⟩ := box10l kA
  obtain ⟨fx0, fx1, fx2, fx3, fx4, fx5, fx6, fx7, fx8, fx9, lx⟩ := box10l kx
  go_wp2_with fail
  refine (markReply_w _ _ _ x 1 _ R3 (by omega) (by omega) (by omega) (by omega) (by omega) (by omega) (by omega)).mono ?_
  rintro e w9 ⟨rfl, R3', G⟩
  clear fA0 fA1 fA2 fA3 fA4 fA5 fA6 fA7 fA8 fA9 lA fx0 fx1 fx2 fx3 fx4 fx5 fx6 fx7 fx8 fx9 lx
  replace R2 := R2.keptW G (by omega)
  replace R4 := R4.keptW G (by omega)
  replace kA := box_within G kA (by omega)
  replace kx := box_within G kx (by omega)
  replace X := G.below X (by omega)
  have s9 := G.size
  clear G R3
  clear R3'
  clear kx
  obtain ⟨fA0, fA1, fA2, fA3, fA4, fA5, fA6, fA7, fA8, fA9, lA⟩ := box10l kA
  go_wp2_with fail
  refine (eqByteS_yes _ _ P _ R4.bs R2.bs).mono ?_
  rintro e w10 ⟨rfl, B⟩
  clear fA0 fA1 fA2 fA3 fA4 fA5 fA6 fA7 fA8 fA9 lA
  replace R2 := R2.below B
  replace R4 := R4.below B
  replace kA := box_below B kA
  replace X := Below.step X B
  have s10 : w9.heap.size ≤ w10.heap.size := B.size
  clear B
  obtain ⟨fA0, fA1, fA2, fA3, fA4, fA5, fA6, fA7, fA8, fA9, lA⟩ := box10l kA
  go_wp2_with fail
  refine (markByteS_w _ _ _ P 1 _ R4 (by omega) (by omega) (by omega)).mono ?_
  rintro e w11 ⟨rfl, R4', G⟩
  clear fA0 fA1 fA2 fA3 fA4 fA5 fA6 fA7 fA8 fA9 lA
  replace R2 := R2.keptW G (by omega)
  replace kA := box_within G kA (by omega)
  replace X := G.below X (by omega)
  have s11 := G.size
  clear G R4
  obtain ⟨fA0, fA1, fA2, fA3, fA4, fA5, fA6, fA7, fA8, fA9, lA⟩ := box10l kA
  go_wp2_with fail
  refine (heldByteS_yes _ P.length 1 _ R4'.bs (by omega) (by omega) (by omega)).mono ?_
  rintro e w12 ⟨rfl, B⟩
  clear fA0 fA1 fA2 fA3 fA4 fA5 fA6 fA7 fA8 fA9 lA
  replace R2 := R2.below B
  replace R4' := R4'.below B
  replace kA := box_below B kA
  replace X := Below.step X B
  have s12 : w11.heap.size ≤ w12.heap.size := B.size
  clear B
  obtain ⟨fA0, fA1, fA2, fA3, fA4, fA5, fA6, fA7, fA8, fA9, lA⟩ := box10l kA
  go_wp2_with fail
  refine (toReply_r _ x _ (HV.out _ X) (by omega) (by omega)).mono ?_
  rintro e w13 ⟨u6, rfl, R6, B⟩
  clear fA0 fA1 fA2 fA3 fA4 fA5 fA6 fA7 fA8 fA9 lA
  replace R2 := R2.below B
  replace R4' := R4'.below B
  replace kA := box_below B kA
  replace X := Below.step X B
  have s13 : w12.heap.size ≤ w13.heap.size := B.size
  clear B
  obtain ⟨fA0, fA1, fA2, fA3, fA4, fA5, fA6, fA7, fA8, fA9, lA⟩ := box10l kA
  go_wp2_with fail
  refine (implReplyText_r _ x _ R6.rv (HT.out _ X)).mono ?_
  rintro e w14 ⟨u7, rfl, R7, B⟩
  rw [HPE.out] at R7
  clear fA0 fA1 fA2 fA3 fA4 fA5 fA6 fA7 fA8 fA9 lA
  replace R2 := R2.below B
  replace R4' := R4'.below B
  replace R6 := R6.below B
  replace kA := box_below B kA
  replace X := Below.step X B
  have s14 : w13.heap.size ≤ w14.heap.size := B.size
  clear B
  clear R6
  obtain ⟨fA0, fA1, fA2, fA3, fA4, fA5, fA6, fA7, fA8, fA9, lA⟩ := box10l kA
  go_wp2_with fail
  refine (eqByteS_yes _ _ P _ R7.bs R2.bs).mono ?_
  rintro e w15 ⟨rfl, B⟩
  clear fA0 fA1 fA2 fA3 fA4 fA5 fA6 fA7 fA8 fA9 lA
  replace R2 := R2.below B
  replace R4' := R4'.below B
  replace R7 := R7.below B
  replace kA := box_below B kA
  replace X := Below.step X B
  have s15 : w14.heap.size ≤ w15.heap.size := B.size
  clear B
  clear R7 R2
  obtain ⟨fA0, fA1, fA2, fA3, fA4, fA5, fA6, fA7, fA8, fA9, lA⟩ := box10l kA
  go_wp2_with fail
  refine (heldByteS_yes _ P.length 1 _ R4'.bs (by omega) (by omega) (by omega)).mono ?_
  rintro e w16 ⟨rfl, B⟩
  clear fA0 fA1 fA2 fA3 fA4 fA5 fA6 fA7 fA8 fA9 lA
  replace R4' := R4'.below B
  replace kA := box_below B kA
  replace X := Below.step X B
  have s16 : w15.heap.size ≤ w16.heap.size := B.size
  clear B
  clear R4' kA
  go_wp2
  go_ret
  exact ⟨rfl, X⟩

end Go.Proofs.YtmonloebkdpahaaDoor

/- From what a row reads of an argument to what the walks ask: a slice of bytes that came in. -/
namespace Go.Proofs.YtmonloebkdpahaaDoor
open Go.ChangeShapes Go.WideShapes Go.ChangeAt Go.RowKit

theorem ownKnob_none : ownKnob Tryd.prog.godebug = none := by kernel_rfl
theorem laidOut : laidOutB Tryd.prog = true := by kernel_rfl

theorem wf_byte {n : Int} (h : (Lit.int .u8 n).wf = true) : 0 ≤ n ∧ n ≤ 255 := bounds_u8 h
theorem wf_int {n : Int} (h : (Lit.int .i64 n).wf = true) : -9223372036854775808 ≤ n ∧ n ≤ 9223372036854775807 := bounds_i64 h

/-- A slice of bytes that came in, as the walks want it. -/
theorem open_bytes {H : Type} {enc : TypeId × Value → H} {W : World} {base : Nat} {a : Option Addr} {len cap : Nat} {d : DataW H} {p : List MemPlace}
    (h : DataW.Trod enc Tryd.prog W base (fun _ => true) true 22 (.slice a len cap) d p) : ∃ l, Bs W (.slice a len cap) l := by
  obtain ⟨fuel, hf⟩ := h
  rcases open_ints Tryd.underlying22 Tryd.underlying5 (by kernel_rfl) hf with ⟨hcs, _⟩ | ⟨x, l, c, zs, hcs, _, hl, hm, hz, _, hcell, hwz⟩
  · simp [Value.cells] at hcs
    obtain ⟨rfl, rfl, rfl⟩ := hcs
    exact ⟨[], oct_nil, none, 0, rfl, by simp, by simp, fun _ => rfl, fun h => absurd h (by simp)⟩
  · simp [Value.cells] at hcs
    obtain ⟨rfl, rfl, rfl⟩ := hcs
    simp at hz
    have ht : (zs.take len).length = len := by simp; omega
    refine ⟨zs.take len, fun x hx => wf_byte (hwz x (List.mem_of_mem_take hx)), some x, cap, by rw [ht], by omega, hm, (fun h => by cases h), fun hp => ?_⟩
    rw [ht] at hp
    obtain ⟨b, off, spot⟩ := x
    have h0 := hcell 0 (by omega)
    have hspot : spot = none := by simpa [Addr.add] using World.cell?_spot h0
    subst hspot
    refine ⟨b, off, rfl, ?_, fun i hi => ?_⟩
    · have := World.block_lt_of_cell? W _ h0
      simpa [Addr.add] using this
    · rw [ht] at hi
      have := hcell i (by omega)
      rw [Addr.add_lit] at this
      rw [this]
      simp [hi]

end Go.Proofs.YtmonloebkdpahaaDoor

/- A struct's fields laid open. -/
namespace Go.Proofs.YtmonloebkdpahaaDoor
open Go.ChangeShapes Go.WideShapes Go.ChangeAt Go.RowKit

/-- One field of a struct that is read; it takes one cell. -/
theorem open_field {H : Type} {enc : TypeId × Value → H} {P : Program} {W : World} {base fuel : Nat} {spare : Nat → Bool} {held : Bool} {t : TypeId} {fs : Array Field} {cs : List Value} {x : DataW H × List MemPlace}
    (ht : P.underlying t = some (.struct fs)) (h : DataW.trod enc P W base spare held fuel t cs = some x) (i : Nat) (ty : TypeId) (off : Nat) (c : Value) (hf : fs[i]?.map (fun f => (f.type, f.offset)) = some (ty, off)) (h1 : P.cellsOf ty = 1) (hc : (cs.drop off).take 1 = [c]) :
    ∃ n y, DataW.trod enc P W base spare held n ty [c] = some y := by
  obtain ⟨f, hf0, hf1⟩ := Option.map_eq_some_iff.1 hf
  simp only [Prod.mk.injEq] at hf1
  obtain ⟨rfl, rfl⟩ := hf1
  obtain ⟨xs, n, _, rfl, hl, hlen, hf'⟩ := DataW.trod_struct ht h
  have := hf' i f (by simpa using hf0)
  rw [h1, hc] at this
  have hi : i < xs.length := by rw [hlen]; exact (Array.getElem?_eq_some_iff.1 hf0).1
  exact ⟨n, xs[i], by rw [this, List.getElem?_eq_getElem hi]⟩

/-- One cell that is read as a slice of bytes. -/
theorem open_cellB {H : Type} {enc : TypeId × Value → H} {W : World} {base fuel : Nat} {c : Value} {y : DataW H × List MemPlace}
    (h : DataW.trod enc Tryd.prog W base (fun _ => true) true fuel 22 [c] = some y) : ∃ l, Bs W c l := by
  have h' := h
  rcases open_ints Tryd.underlying22 Tryd.underlying5 (by kernel_rfl) h with ⟨hcs, _⟩ | ⟨x, l, c', zs, hcs, _⟩
  · obtain rfl : c = .slice none 0 0 := by simpa using hcs
    exact open_bytes (d := y.1) (p := y.2) ⟨fuel, by simpa [Value.cells] using h'⟩
  · obtain rfl : c = .slice (some x) l c' := by simpa using hcs
    exact open_bytes (d := y.1) (p := y.2) ⟨fuel, by simpa [Value.cells] using h'⟩
/-- One cell that is read as a number. -/
theorem open_cellI {H : Type} {enc : TypeId × Value → H} {W : World} {base fuel : Nat} {c : Value} {y : DataW H × List MemPlace}
    (h : DataW.trod enc Tryd.prog W base (fun _ => true) true fuel 3 [c] = some y) : ∃ n, c = .int .i64 n ∧ I64 n := by
  obtain ⟨n, hc, -, hw⟩ := DataW.trod_int Tryd.underlying3 h
  exact ⟨n, by simpa using hc, wf_int hw⟩

theorem cellsB : Tryd.prog.cellsOf 22 = 1 := by kernel_rfl
theorem cellsI : Tryd.prog.cellsOf 3 = 1 := by kernel_rfl

end Go.Proofs.YtmonloebkdpahaaDoor

/- From what a row reads of an argument to what the walks ask: boxes that came in. -/
namespace Go.Proofs.YtmonloebkdpahaaDoor
open Go.ChangeShapes Go.WideShapes Go.ChangeAt Go.RowKit Go.Deep

theorem list_of {α : Type} {p : Nat → α → Prop} : ∀ (n : Nat), (∀ i, i < n → ∃ x, p i x) → ∃ l : List α, l.length = n ∧ ∀ i x, l[i]? = some x → p i x
  | 0, _ => ⟨[], rfl, by simp⟩
  | n + 1, h => by
    obtain ⟨l, hl, hp⟩ := list_of n (fun i hi => h i (by omega))
    obtain ⟨x, hx⟩ := h n (by omega)
    refine ⟨l ++ [x], by simp [hl], fun i y hy => ?_⟩
    by_cases hi : i < n
    · rw [List.getElem?_append_left (by omega)] at hy
      exact hp i y hy
    · have hlt : i < (l ++ [x]).length := (List.getElem?_eq_some_iff.1 hy).1
      simp at hlt
      obtain rfl : i = n := by omega
      rw [List.getElem?_append_right (by omega)] at hy
      simp [hl] at hy
      subst hy
      exact hx

/-- One cell that is read as a slice of structs. -/
theorem open_rd {α : Type} {E : World → List Value → α → Prop} {H : Type} {enc : TypeId × Value → H} {W : World} {base fuel sz : Nat} {t e : TypeId} {c : Value} {y : DataW H × List MemPlace} (h0 : 0 < sz)
    (ht : Tryd.prog.underlying t = some (.slice e)) (hc : Tryd.prog.cellsOf e = sz) (hE : ∀ n cs' y, cs'.length = sz → DataW.trod enc Tryd.prog W base (fun _ => true) true n e cs' = some y → ∃ x, E W cs' x)
    (h : DataW.trod enc Tryd.prog W base (fun _ => true) true fuel t [c] = some y) : ∃ l, Rd sz E W c l := by
  rcases open_slice ht h with ⟨hcs, -⟩ | ⟨a, len, cap, m, n, D, Pl, hcs, hb, hl, hm, hmm, -, hel⟩
  · obtain rfl : c = .slice none 0 0 := by simpa using hcs
    exact ⟨[], Rd.nil W⟩
  · obtain rfl : c = .slice (some a) len cap := by simpa using hcs
    simp only [if_true] at hmm
    subst hmm
    rw [hc] at hel
    have key : ∀ i, i < len → ∃ p : List Value × α, W.cells? base (a.add (i * sz)) sz = some p.1 ∧ p.1.length = sz ∧ E W p.1 p.2 := by
      intro i hi
      obtain ⟨cs', h1, h2⟩ := hel i (by omega)
      have hlen := (World.cells?_some h1).2.1
      obtain ⟨x, hx⟩ := hE n cs' _ hlen h2
      exact ⟨(cs', x), h1, hlen, hx⟩
    obtain ⟨ps, hpl, hps⟩ := list_of len key
    refine ⟨ps.map (·.2), some a, m, fun i => ((ps[i]?.map (·.1)).getD []), by simp [hpl], by simp [hpl]; omega, hm, (fun h => by cases h), fun i x hx => ?_, fun hp => ?_⟩
    · rw [List.getElem?_map, Option.map_eq_some_iff] at hx
      obtain ⟨p, hp, rfl⟩ := hx
      obtain ⟨-, q1, q2⟩ := hps i p hp
      simp only [hp, Option.map_some, Option.getD_some]
      exact ⟨q2, q1⟩
    · simp [hpl] at hp
      obtain ⟨b, off, spot⟩ := a
      obtain ⟨p0, hp0⟩ : ∃ p, ps[0]? = some p := ⟨ps[0]'(by omega), List.getElem?_eq_getElem (by omega)⟩
      obtain ⟨k1, k2, -⟩ := hps 0 p0 hp0
      have cell : ∀ i p, ps[i]? = some p → ∀ j u, p.1[j]? = some u → W.cell? (((⟨b, off, spot⟩ : Addr).add (i * sz)).add j) = some u := by
        intro i p hi j u hu
        obtain ⟨k1, k2, -⟩ := hps i p hi
        have hj : j < sz := by have := (List.getElem?_eq_some_iff.1 hu).1; omega
        rw [(World.cells?_some k1).2.2 j hj, hu]
      have c0 := cell 0 p0 hp0 0 (p0.1[0]'(by omega)) (List.getElem?_eq_getElem (by omega))
      have hspot : spot = none := by simpa [Addr.add] using World.cell?_spot c0
      subst hspot
      refine ⟨b, off, rfl, ?_, fun i j u hi hu => ?_⟩
      · have := World.block_lt_of_cell? W _ c0
        simpa [Addr.add] using this
      · obtain ⟨p, hpi⟩ : ∃ p, ps[i]? = some p := ⟨ps[i]'(by simp at hi; omega), List.getElem?_eq_getElem (by simp at hi; omega)⟩
        simp only [hpi, Option.map_some, Option.getD_some] at hu
        have := cell i p hpi j u hu
        simpa [Addr.add_lit, Nat.add_assoc] using this

theorem open_mails {H : Type} {enc : TypeId × Value → H} {W : World} {base fuel : Nat} {c : Value} {y : DataW H × List MemPlace}
    (h : DataW.trod enc Tryd.prog W base (fun _ => true) true fuel 23 [c] = some y) : ∃ l, MailsV W c l := by
  refine open_rd (by omega) Tryd.underlying23 (by kernel_rfl) (fun n cs' y hl hf => ?_) h
  match cs', hl with
  | [c0, c1, c2, c3], _ =>
    have u := Tryd.underlying111
    obtain ⟨_, _, h0⟩ := open_field u hf 0 3 0 c0 rfl cellsI rfl
    obtain ⟨_, _, h1⟩ := open_field u hf 1 3 1 c1 rfl cellsI rfl
    obtain ⟨_, _, h2⟩ := open_field u hf 2 3 2 c2 rfl cellsI rfl
    obtain ⟨_, _, h3⟩ := open_field u hf 3 22 3 c3 rfl cellsB rfl
    obtain ⟨uid, rfl, i0⟩ := open_cellI h0
    obtain ⟨flags, rfl, i1⟩ := open_cellI h1
    obtain ⟨seq, rfl, i2⟩ := open_cellI h2
    obtain ⟨text, b3⟩ := open_cellB h3
    exact ⟨⟨uid, flags, seq, text⟩, c3, rfl, b3, i0, i1, i2⟩
theorem open_gones {H : Type} {enc : TypeId × Value → H} {W : World} {base fuel : Nat} {c : Value} {y : DataW H × List MemPlace}
    (h : DataW.trod enc Tryd.prog W base (fun _ => true) true fuel 24 [c] = some y) : ∃ l, GonesV W c l := by
  refine open_rd (by omega) Tryd.underlying24 (by kernel_rfl) (fun n cs' y hl hf => ?_) h
  match cs', hl with
  | [c0, c1], _ =>
    have u := Tryd.underlying115
    obtain ⟨_, _, h0⟩ := open_field u hf 0 3 0 c0 rfl cellsI rfl
    obtain ⟨_, _, h1⟩ := open_field u hf 1 3 1 c1 rfl cellsI rfl
    obtain ⟨uid, rfl, i0⟩ := open_cellI h0
    obtain ⟨seq, rfl, i1⟩ := open_cellI h1
    exact ⟨⟨uid, seq⟩, rfl, i0, i1⟩
theorem cellsMs : Tryd.prog.cellsOf 23 = 1 := by kernel_rfl
theorem cellsGs : Tryd.prog.cellsOf 24 = 1 := by kernel_rfl
theorem open_boxCells {H : Type} {enc : TypeId × Value → H} {W : World} {base n : Nat} {cs' : List Value} {y : DataW H × List MemPlace} (hl : cs'.length = 7)
    (hf : DataW.trod enc Tryd.prog W base (fun _ => true) true n 26 cs' = some y) : ∃ x, BoxRE W cs' x := by
  match cs', hl with
  | [c0, c1, c2, c3, c4, c5, c6], _ =>
    have u := Tryd.underlying26
    obtain ⟨_, _, h0⟩ := open_field u hf 0 22 0 c0 rfl cellsB rfl
    obtain ⟨_, _, h1⟩ := open_field u hf 1 3 1 c1 rfl cellsI rfl
    obtain ⟨_, _, h2⟩ := open_field u hf 2 3 2 c2 rfl cellsI rfl
    obtain ⟨_, _, h3⟩ := open_field u hf 3 3 3 c3 rfl cellsI rfl
    obtain ⟨_, _, h4⟩ := open_field u hf 4 23 4 c4 rfl cellsMs rfl
    obtain ⟨_, _, h5⟩ := open_field u hf 5 24 5 c5 rfl cellsGs rfl
    obtain ⟨_, _, h6⟩ := open_field u hf 6 3 6 c6 rfl cellsI rfl
    obtain ⟨name, b0⟩ := open_cellB h0
    obtain ⟨valid, rfl, i1⟩ := open_cellI h1
    obtain ⟨next, rfl, i2⟩ := open_cellI h2
    obtain ⟨seq, rfl, i3⟩ := open_cellI h3
    obtain ⟨mails, b4⟩ := open_mails h4
    obtain ⟨gones, b5⟩ := open_gones h5
    obtain ⟨lost, rfl, i6⟩ := open_cellI h6
    exact ⟨⟨name, valid, next, seq, mails, gones, lost⟩, c0, c4, c5, rfl, b0, b4, b5, i1, i2, i3, i6⟩
/-- A box, an account that came in, as the walks want it. -/
theorem open_box {H : Type} {enc : TypeId × Value → H} {W : World} {base : Nat} {cs : Array Value} {d : DataW H} {p : List MemPlace} (hs : cs.size = 7)
    (h : DataW.Trod enc Tryd.prog W base (fun _ => true) true 26 (.agg cs) d p) : ∃ x, BoxV W (.agg cs) x := by
  obtain ⟨fuel, hf⟩ := h
  obtain ⟨cs⟩ := cs
  obtain ⟨x, u0, u1, u2, e, r⟩ := open_boxCells (cs' := cs) (by simpa using hs) hf
  subst e
  exact ⟨x, u0, u1, u2, rfl, r⟩

end Go.Proofs.YtmonloebkdpahaaDoor

/- A field of a struct that takes several cells. -/
namespace Go.Proofs.YtmonloebkdpahaaDoor
open Go.ChangeShapes Go.WideShapes Go.ChangeAt Go.RowKit

/-- A field of a struct that takes several cells. -/
theorem open_part {H : Type} {enc : TypeId × Value → H} {P : Program} {W : World} {base fuel : Nat} {spare : Nat → Bool} {held : Bool} {t : TypeId} {fs : Array Field} {cs : List Value} {x : DataW H × List MemPlace}
    (ht : P.underlying t = some (.struct fs)) (h : DataW.trod enc P W base spare held fuel t cs = some x) (i : Nat) (ty : TypeId) (off n : Nat) (c : List Value) (hf : fs[i]?.map (fun f => (f.type, f.offset)) = some (ty, off)) (h1 : P.cellsOf ty = n) (hc : (cs.drop off).take n = c) :
    ∃ n y, DataW.trod enc P W base spare held n ty c = some y := by
  obtain ⟨f, hf0, hf1⟩ := Option.map_eq_some_iff.1 hf
  simp only [Prod.mk.injEq] at hf1
  obtain ⟨rfl, rfl⟩ := hf1
  obtain ⟨xs, m, _, rfl, hl, hlen, hf'⟩ := DataW.trod_struct ht h
  have := hf' i f (by simpa using hf0)
  rw [h1, hc] at this
  have hi : i < xs.length := by rw [hlen]; exact (Array.getElem?_eq_some_iff.1 hf0).1
  exact ⟨m, xs[i], by rw [this, List.getElem?_eq_getElem hi]⟩

end Go.Proofs.YtmonloebkdpahaaDoor

/- From what a row reads of an argument to what the walks ask: a reply that came in. -/
namespace Go.Proofs.YtmonloebkdpahaaDoor
open Go.ChangeShapes Go.WideShapes Go.ChangeAt Go.RowKit
set_option linter.unusedVariables false

theorem open_names {H : Type} {enc : TypeId × Value → H} {W : World} {base fuel : Nat} {c : Value} {y : DataW H × List MemPlace}
    (h : DataW.trod enc Tryd.prog W base (fun _ => true) true fuel 27 [c] = some y) : ∃ l, NamesV W c l := by
  refine open_rd (by omega) Tryd.underlying27 cellsB (fun n cs' y hl hf => ?_) h
  match cs', hl with
  | [c0], _ =>
    obtain ⟨x, b0⟩ := open_cellB hf
    exact ⟨x, c0, rfl, b0⟩
theorem open_repCells {H : Type} {enc : TypeId × Value → H} {W : World} {base n : Nat} {cs' : List Value} {y : DataW H × List MemPlace} (hl : cs'.length = 10)
    (hf : DataW.trod enc Tryd.prog W base (fun _ => true) true n 29 cs' = some y) : ∃ r, RepV W (.agg cs'.toArray) r := by
  match cs', hl with
  | [p0, p1, p2, p3, p4, p5, p6, p7, p8, p9], _ =>
    have u := Tryd.underlying29
    obtain ⟨_, _, h0⟩ := open_field u hf 0 3 0 p0 rfl cellsI rfl
    obtain ⟨_, _, h1⟩ := open_field u hf 1 3 1 p1 rfl cellsI rfl
    obtain ⟨_, _, h2⟩ := open_part u hf 2 26 2 7 [p2, p3, p4, p5, p6, p7, p8] rfl (by kernel_rfl) rfl
    obtain ⟨_, _, h3⟩ := open_field u hf 3 27 9 p9 rfl (by kernel_rfl) rfl
    obtain ⟨code, rfl, i0⟩ := open_cellI h0
    obtain ⟨num, rfl, i1⟩ := open_cellI h1
    obtain ⟨b, hb⟩ := open_box (cs := #[p2, p3, p4, p5, p6, p7, p8]) (d := _) (p := _) rfl ⟨_, h2⟩
    obtain ⟨l, hn⟩ := open_names h3
    have hb' := hb
    obtain ⟨u0, u1, u2, e, -⟩ := hb
    simp only [Value.agg.injEq, Array.mk.injEq, List.cons.injEq, and_true] at e
    obtain ⟨rfl, rfl, rfl, rfl, rfl, rfl, rfl⟩ := e
    exact ⟨⟨code, num, b, l⟩, _, _, _, _, rfl, hb', hn, i0, i1⟩
theorem open_reply {H : Type} {enc : TypeId × Value → H} {W : World} {base : Nat} {cs : Array Value} {d : DataW H} {p : List MemPlace} (hs : cs.size = 10)
    (h : DataW.Trod enc Tryd.prog W base (fun _ => true) true 29 (.agg cs) d p) : ∃ r, RepV W (.agg cs) r := by
  obtain ⟨fuel, hf⟩ := h
  obtain ⟨cs⟩ := cs
  exact open_repCells (cs' := cs) (by simpa using hs) hf

end Go.Proofs.YtmonloebkdpahaaDoor

/- What the laid variables give a walk; a world that meets them. -/
namespace Go.Proofs.YtmonloebkdpahaaDoor
open Go.ChangeShapes Go.WideShapes Go.ChangeAt Go.RowKit Go.Stop

theorem gP : Tryd.prog.globalNamed "internal/strconv.uint64pow10" = some 0 := by kernel_rfl
theorem gPType : (Tryd.prog.globals[0]?).map (·.type) = some 141 := by kernel_rfl
abbrev laidL : List (String × DataW Unit) := [("math/bits.deBruijn32tab", Rows.laid_math_bits_deBruijn32tab), ("math/bits.deBruijn64tab", Rows.laid_math_bits_deBruijn64tab), ("internal/strconv.uint64pow10", Rows.laid_internal_strconv_uint64pow10)]
theorem tab_of_laid {W : World} (h : laidMetH Tryd.prog laidL W) : Tab10 W := by
  have h' : laidMet Tryd.prog laidL W := h
  have h2 : laidMet Tryd.prog (("internal/strconv.uint64pow10", Lib.tabData .u64 Lib.pow10Tab) :: []) W := h'.tail.tail
  exact Lib.tabIs_of_head gP gPType Tryd.underlying141 Tryd.underlying131 (by kernel_rfl) (by kernel_rfl) h2

def dataCells : DataW Unit → Array Value
  | .agg l => (l.map fun
    | .lit (.int k z) => Value.int k z
    | _ => undef).toArray
  | _ => #[]
def layCells (cs : Array Value) : Obj → Obj
  | .cells _ t frozen => .cells cs t frozen
  | o => o
noncomputable def laidWorld (os : Os) : World :=
  let w0 := World.holding Tryd.prog os ⟨#[], #[], []⟩
  { w0 with heap := ((w0.heap.modify 0 (layCells (dataCells Rows.laid_internal_strconv_uint64pow10))).modify 1 (layCells (dataCells Rows.laid_math_bits_deBruijn32tab))).modify 2 (layCells (dataCells Rows.laid_math_bits_deBruijn64tab)) }
theorem laid_met (os : Os) (args : Array Value) : laidMetH Tryd.prog laidL ((laidWorld os).forCall (fun _ _ => 0) ⟨#[], args, []⟩).memory :=
  laidMet_of_run' (l := laidL) 200 (by kernel_rfl) (by kernel_rfl)

end Go.Proofs.YtmonloebkdpahaaDoor
