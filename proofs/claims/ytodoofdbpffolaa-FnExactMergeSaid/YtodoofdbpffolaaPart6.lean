/- The proof's texts, part 6. -/
import Derived.Test.YtodoofdbpffolaaPart4
import Derived.Test.YtodoofdbpffolaaPart5
import Derived.Test.YtodoofdbpffolaaPart2
import Derived.Deep.DeepCutAuto

/- What l3ownBox of package spec does: a box is copied, with all that it leads to. -/
namespace Go.Proofs.Ytodoofdbpffolaa
open Go.RowKit
set_option maxRecDepth 100000
set_option linter.unusedVariables false
set_option linter.unusedSimpArgs false

theorem OwF.form3 {α : Type} {t : TypeId} {sz : Nat} {E : World → List Value → α → (Nat → Prop) → Prop} {w : World} {S : Nat → Prop} {v : Value} {l : List α} (h : Ow t sz E w S v l) : ∃ a n cap, v = .slice a n cap := by
  rcases h with ⟨rfl, _⟩ | ⟨g, cap, cur, cs, fs, hv, _⟩
  · exact ⟨_, _, _, rfl⟩
  · exact ⟨_, _, _, hv⟩
section
variable {w w' : World} {B sz n : Nat} {e t : TypeId} {v : Value} {xs : List Value} {g : Nat} {S : Nat → Prop}
/-- The block's cells bear a type. -/
def Ty (w : World) (g : Nat) (t : TypeId) : Prop := ∃ cs fz, w.heap[g]? = some (.cells cs t fz)
theorem ty_ne {cs : Array Value} {fz : Nat × Nat} (h : w.heap[g]? = some (.cells cs t fz)) (h2 : Ty w g e) (hne : t ≠ e) : False := by
  obtain ⟨cs', fz', h3⟩ := h2
  rw [h] at h3
  simp only [Option.some.injEq, Obj.cells.injEq] at h3
  exact hne h3.2.1
theorem own_below (h : w.ownsRow B e sz v n xs) (hb : Below w.heap.size w w') : w'.ownsRow B e sz v n xs := by
  refine ⟨h.1, ?_⟩
  rcases h.2 with hn | ⟨g, cap, cur, hv, hg, hh, r⟩
  · exact .inl hn
  · exact .inr ⟨g, cap, cur, hv, hg, box_below hb hh, r⟩
theorem own_ty {a : Addr} {m c : Nat} (h : w.ownsRow B e sz (.slice (some a) m c) n xs) : Ty w a.block e := by
  rcases h.2 with ⟨hn, _⟩ | ⟨g, cap, cur, hv, hg, hh, r⟩
  · cases hn
  · simp only [Value.slice.injEq, Option.some.injEq] at hv
    rw [hv.1]
    exact ⟨_, _, hh⟩
theorem own_ge (h : w.ownsRow B e sz v n xs) {k : Nat} (hk : v.ownBlock = some k) : B ≤ k := by
  rcases h.2 with ⟨hn, _⟩ | ⟨g, cap, cur, hv, hg, hh, r⟩
  · rw [hn] at hk; simp [Value.ownBlock] at hk
  · rw [hv] at hk; simp only [Value.ownBlock, Option.some.injEq] at hk; omega
theorem own_grT (h : w.ownsRow B e sz v n xs) (hg : w.grownBy w' (some g)) (ht : Ty w g t) (hne : e ≠ t) : w'.ownsRow B e sz v n xs := by
  refine ⟨h.1, ?_⟩
  rcases h.2 with hn | ⟨k, cap, cur, hv, hk, hh, r⟩
  · exact .inl hn
  · exact .inr ⟨k, cap, cur, hv, hk, gr_at hg hh (fun e2 => by subst e2; exact ty_ne hh ht hne), r⟩
theorem box_grT {cs : Array Value} {fz : Nat × Nat} {k : Nat} (hg : w.grownBy w' (some g)) (h : w.heap[k]? = some (.cells cs e fz)) (ht : Ty w g t) (hne : e ≠ t) : w'.heap[k]? = some (.cells cs e fz) := gr_at hg h (fun e2 => by subst e2; exact ty_ne h ht hne)
theorem ro_oth {l : List Int} (h : RO w S v l) (hw : ∀ k, Ty w k 5 → w'.heap[k]? = w.heap[k]?) : RO w' S v l := by
  refine ⟨h.1, ⟨h.2.1.1, ?_⟩, h.2.2⟩
  rcases h.2.1.2 with hn | ⟨k, cap, cur, hv, hk, hh, r⟩
  · exact .inl hn
  · exact .inr ⟨k, cap, cur, hv, hk, (hw k ⟨_, _, hh⟩).trans hh, r⟩
theorem ro_grT {l : List Int} (h : RO w S v l) (hg : w.grownBy w' (some g)) (ht : Ty w g t) (hne : 5 ≠ t) : RO w' S v l :=
  ⟨h.1, own_grT h.2.1 hg ht hne, h.2.2⟩
theorem gones_oth {l : List GoneD} (h : GonesO w S v l) (hw : ∀ k, Ty w k 53 → w'.heap[k]? = w.heap[k]?) : GonesO w' S v l := by
  rcases h with h | ⟨k, cap, cur, cs, fs, hv, hh, r⟩
  · exact .inl h
  · exact .inr ⟨k, cap, cur, cs, fs, hv, (hw k ⟨_, _, hh⟩).trans hh, r⟩
theorem gones_grT {l : List GoneD} (h : GonesO w S v l) (hg : w.grownBy w' (some g)) (ht : Ty w g t) (hne : 53 ≠ t) : GonesO w' S v l := by
  rcases h with h | ⟨k, cap, cur, cs, fs, hv, hh, r⟩
  · exact .inl h
  · exact .inr ⟨k, cap, cur, cs, fs, hv, gr_at hg hh (fun e2 => by subst e2; exact ty_ne hh ht hne), r⟩
theorem below_gr0 {w0 : World} (h : Below w0.heap.size w0 w) (hg : w.grownBy w' (some g)) (h0 : w0.heap.size ≤ g) : Below w0.heap.size w0 w' :=
  ⟨hg.os.trans h.os, hg.tape.trans h.tape, hg.output.trans h.output, Nat.le_trans h.size hg.size, fun k hk => (hg.block k (Nat.lt_of_lt_of_le hk h.size) fun e => by simp only [Option.some.injEq] at e; omega).trans (h.block k hk)⟩
theorem ro_in {l : List Int} {N : Nat} (h : RO w (fun k => N ≤ k) v l) : RO w (In N w.heap.size) v l := by
  refine ⟨h.1, h.2.1, fun g hg => ⟨h.2.2 g hg, ?_⟩⟩
  rcases h.2.1.2 with ⟨hn, _⟩ | ⟨k, cap, cur, hv, hk, hh, r⟩
  · rw [hn] at hg; simp [Value.ownBlock] at hg
  · rw [hv] at hg; simp only [Value.ownBlock, Option.some.injEq] at hg; rw [← hg]; exact lt_of_heap hh
theorem gones_in {l : List GoneD} {N : Nat} (h : GonesO w (fun k => N ≤ k) v l) : GonesR w N w.heap.size v l := by
  rcases h with h | ⟨k, cap, cur, cs, fs, hv, hh, h1, h2, h3, h4, h5, h6, h7⟩
  · exact .inl h
  · exact .inr ⟨k, cap, cur, cs, fun _ _ => False, hv, hh, h1, h2, h3, ⟨h4, lt_of_heap hh⟩, fun i x hx => ⟨(h5 i x hx).1, (h5 i x hx).2⟩, by simp, by simp⟩
theorem ro_gr {l : List Int} {N M : Nat} (h : RO w (In N M) v l) (hg : w.grownBy w' (some g)) (hd : g < N ∨ M ≤ g) : RO w' (In N M) v l :=
  h.frame fun b hb hlt => hg.block b hlt fun e => by have := hb.1; have := hb.2; simp only [Option.some.injEq] at e; omega
theorem ro_set {l : List Int} {N M i : Nat} {x : Value} (h : RO w (In N M) v l) (hd : g < N ∨ M ≤ g) : RO (w.setCell ⟨g, i, none⟩ x) (In N M) v l :=
  h.frame fun b hb _ => Below.heap_setCell _ _ _ _ (show b ≠ g by have := hb.1; have := hb.2; omega)
theorem ro_gr' {l : List Int} {N M : Nat} {row : Option Nat} (h : RO w (In N M) v l) (hg : w.grownBy w' row) (hd : ∀ j, row = some j → M ≤ j) : RO w' (In N M) v l :=
  h.frame fun b hb hlt => hg.block b hlt fun e => by have := hd b e.symm; have := hb.2; omega
theorem ro_self {l : List Int} (h : RO w S v l) : RO w (fun k => S k ∧ v.ownBlock = some k) v l := ⟨h.1, h.2.1, fun g hg => ⟨h.2.2 g hg, hg⟩⟩
theorem ro_ty {l : List Int} {k : Nat} (h : RO w S v l) (hk : v.ownBlock = some k) : Ty w k 5 := by
  rcases h.2.1.2 with ⟨hn, _⟩ | ⟨g, cap, cur, hv, _, hh, r⟩
  · rw [hn] at hk; simp [Value.ownBlock] at hk
  · rw [hv] at hk; simp only [Value.ownBlock, Option.some.injEq] at hk; rw [← hk]; exact ⟨_, _, hh⟩
theorem gones_self {l : List GoneD} (h : GonesO w S v l) : GonesO w (fun k => S k ∧ Ty w k 53) v l := by
  rcases h with h | ⟨k, cap, cur, cs, fs, hv, hh, h1, h2, h3, h4, h5, h6, h7⟩
  · exact .inl h
  · exact .inr ⟨k, cap, cur, cs, fun _ _ => False, hv, hh, h1, h2, h3, ⟨h4, _, _, hh⟩, fun i x hx => ⟨(h5 i x hx).1, (h5 i x hx).2⟩, by simp, by simp⟩
end
theorem one4' {a : Option Addr} {n c : Nat} {i j k : Int} : ∀ u ∈ [Value.int .i64 i, .int .i64 j, .int .i64 k, .slice a n c], Value.oneCell' u = true := by
  intro u hu
  simp only [List.mem_cons, List.not_mem_nil, or_false] at hu
  rcases hu with rfl | rfl | rfl | rfl <;> rfl
theorem hidm' {p : Prop} (h : p) : Hid p := h
theorem take_snoc {α : Type} {l : List α} {k : Nat} {x : α} (h : l[k]? = some x) : l.take (k + 1) = l.take k ++ [x] := by
  rw [List.take_add_one, h]; rfl

set_option maxRecDepth 100000 in
set_option maxHeartbeats 8000000 in
theorem l3ownBox_r (v : Value) (b : BoxD) (w : World) (hv : BoxV w v b) (hs : szX b ≤ 2000000) :
    Calls Try.prog 17 #[v] w fun e w' => ∃ u, e = .returned u ∧ BoxO w' (In w.heap.size w'.heap.size) u b ∧ Below w.heap.size w w' := by
  have HV : Hid (∀ wi, Below w.heap.size w wi → BoxV wi v b) := fun wi h => hv.below h
  obtain ⟨u0, u1, u2, rfl, g0, g1, g2, hint⟩ := hv
  have HINT : Hid (I64 b.valid ∧ I64 b.next ∧ I64 b.seq ∧ I64 b.lost) := hint
  have HNM0 : Hid (Oct b.name) := g0.1
  have HNM1 : Hid (∀ wi, Below w.heap.size w wi → Bs wi u0 b.name) := fun wi h => g0.below h
  have HMM1 : Hid (∀ wi, Below w.heap.size w wi → MailsV wi u1 b.mails) := fun wi h => g1.below keepsMail h
  have HGN1 : Hid (∀ wi, Below w.heap.size w wi → GonesV wi u2 b.gones) := fun wi h => g2.below keepsGone h
  have hsz : b.name.length ≤ 2000000 ∧ szM b.mails ≤ 2000000 ∧ b.gones.length ≤ 2000000 := by unfold szX at hs; omega
  obtain ⟨a0, an0, ac0, rfl⟩ := g0.form3
  obtain ⟨a1, ac1, rfl, hml, -⟩ := g1.form
  obtain ⟨a2, ac2, rfl, -⟩ := g2.form
  obtain ⟨i0, hi, hz0, hz1, hz2⟩ := info_parts info5
  obtain ⟨i1, hj, hy0, hy1, hy2⟩ := info_parts infoGone
  obtain ⟨i2, hq, hv0, hv1, hv2⟩ := info_parts infoMail
  have hmlen : b.mails.length ≤ 2000000 := by have := szM_len b.mails; omega
  have hl1 : b.name.length ≤ maxLen := by unfold maxLen; omega
  have hl2 : b.name.length * 1 ≤ 140737488355328 := by omega
  have hl3 : b.gones.length ≤ maxLen := by unfold maxLen; omega
  have hl4 : b.gones.length * 16 ≤ 140737488355328 := by omega
  obtain ⟨kA, kR, X⟩ := boxes2 w (.cells #[.slice a0 an0 ac0, .int .i64 b.valid, .int .i64 b.next, .int .i64 b.seq, .slice a1 b.mails.length ac1, .slice a2 b.gones.length ac2, .int .i64 b.lost] 31) (.cells #[.slice none 0 0, .int .i64 0, .int .i64 0, .int .i64 0, .slice none 0 0, .slice none 0 0, .int .i64 0] 31)
  have HX : Hid _ := X
  have HKA : Hid _ := kA
  have HKR : Hid _ := kR
  have hs0 : ((w.alloc (.cells #[.slice a0 an0 ac0, .int .i64 b.valid, .int .i64 b.next, .int .i64 b.seq, .slice a1 b.mails.length ac1, .slice a2 b.gones.length ac2, .int .i64 b.lost] 31)).alloc (.cells #[.slice none 0 0, .int .i64 0, .int .i64 0, .int .i64 0, .slice none 0 0, .slice none 0 0, .int .i64 0] 31)).heap.size = w.heap.size + 2 := by simp
  have HS0 : Hid _ := hs0
  clear g0 g1 g2 hint X kA kR hs0 hs
  go_enter Try.func17, Try.ntmps17
  go_upto_region 1 with fail
  generalize hw0 : (w.alloc (.cells #[.slice a0 an0 ac0, .int .i64 b.valid, .int .i64 b.next, .int .i64 b.seq, .slice a1 b.mails.length ac1, .slice a2 b.gones.length ac2, .int .i64 b.lost] 31)).alloc (.cells #[.slice none 0 0, .int .i64 0, .int .i64 0, .int .i64 0, .slice none 0 0, .slice none 0 0, .int .i64 0] 31) = w0 at *
  clear hw0
  obtain ⟨N, hNe⟩ : ∃ N, N = w.heap.size + 2 := ⟨_, rfl⟩
  have HNE : Hid (N = w.heap.size + 2) := hNe
  clear hNe
  go_cut [3] (fun s wx => ∃ bx na nn nc ga gn gc, s = .pointer (some ⟨bx, 0, none⟩) ∧ Hid (wx.heap[bx]? = some (.cells #[.slice na nn nc, .int .i64 b.valid, .int .i64 b.next, .int .i64 b.seq, .slice none 0 0, .slice ga gn gc, .int .i64 b.lost] 31 (0, 0))) ∧ Hid (RO wx (fun k => N ≤ k) (.slice na nn nc) b.name) ∧ Hid (GonesO wx (fun k => N ≤ k) (.slice ga gn gc) b.gones) ∧ N ≤ bx ∧ Hid (Below w0.heap.size w0 wx))
  case first =>
    have HS : Hid (∀ w', Below w0.heap.size w0 w' → w'.cell? ⟨w.heap.size, 0, none⟩ = some (.slice a0 an0 ac0) ∧ w'.cell? ⟨w.heap.size, 1, none⟩ = some (.int .i64 b.valid) ∧ w'.cell? ⟨w.heap.size, 2, none⟩ = some (.int .i64 b.next) ∧ w'.cell? ⟨w.heap.size, 3, none⟩ = some (.int .i64 b.seq) ∧ w'.cell? ⟨w.heap.size, 5, none⟩ = some (.slice a2 b.gones.length ac2) ∧ w'.cell? ⟨w.heap.size, 6, none⟩ = some (.int .i64 b.lost)) := fun w' h => by
      obtain ⟨c0, c1, c2, c3, c4, c5, c6⟩ := bx7 (box_below h HKA.out)
      exact ⟨c0, c1, c2, c3, c5, c6⟩
    have HNM : Hid (∀ w', Below w0.heap.size w0 w' → Bs w' (.slice a0 an0 ac0) b.name) := fun w' h => HNM1.out w' (Below.step HX.out h)
    have HGN : Hid (∀ w', Below w0.heap.size w0 w' → GonesV w' (.slice a2 b.gones.length ac2) b.gones) := fun w' h => HGN1.out w' (Below.step HX.out h)
    have hN0 : N ≤ w0.drew.heap.size := by have := HS0.out; have := HNE.out; show N ≤ w0.heap.size; omega
    have D0 : Hid (Below w0.heap.size w0 w0.drew) := (Below.refl _ _).drew
    clear HS0 HNE
    refine wp_region_held_drew (S := fun w' => w'.cell? ⟨w.heap.size, 0, none⟩ = some (.slice a0 an0 ac0) ∧ w'.cell? ⟨w.heap.size, 1, none⟩ = some (.int .i64 b.valid) ∧ w'.cell? ⟨w.heap.size, 2, none⟩ = some (.int .i64 b.next) ∧ w'.cell? ⟨w.heap.size, 3, none⟩ = some (.int .i64 b.seq) ∧ w'.cell? ⟨w.heap.size, 5, none⟩ = some (.slice a2 b.gones.length ac2) ∧ w'.cell? ⟨w.heap.size, 6, none⟩ = some (.int .i64 b.lost)) (by kernel_rfl) (HS.out _ D0.out) (fun hHeld => (show wpAnyH _ _ _ _ _ 19 #[false, false, false, false, false, false, false, false, false, false, false, false, false, false, false, false, false, false, false] _ _ from ?_))
    refine tq 1 7 hHeld ?_
    refine tq 2 8 hHeld ?_
    refine tq 4 10 hHeld ?_
    refine tq 5 11 hHeld ?_
    refine tq 6 12 hHeld ?_
    refine tq 7 13 hHeld ?_
    refine tq 8 14 hHeld ?_
    refine tq 9 15 hHeld ?_
    refine tq 11 17 hHeld ?_
    refine tq 12 18 hHeld ?_
    refine tq 14 20 hHeld ?_
    refine tq 15 21 hHeld ?_
    generalize hwd : w0.drew = x0 at *
    clear hwd
    refine wpAnyH_ready (rs := [0, 10, 17]) (by kernel_rfl) (by simp) ?_
    refine AllReadyH.cons rfl (fun K hK => ?_) (AllReadyH.cons rfl (fun K hK => ?_) (AllReadyH.cons rfl (fun K hK => ?_) AllReadyH.nil))
    · go_simp
      have AB : Below x0.heap.size x0 (x0.alloc (.cells #[] 5)) := (Below.refl _ _).alloc (Nat.le_refl _) _
      have D1 : Hid (Below w0.heap.size w0 (x0.alloc (.cells #[] 5))) := Below.step D0.out AB
      have hN1 : N ≤ (x0.alloc (.cells #[] 5)).heap.size := Nat.le_trans hN0 AB.size
      have Fn01 : Hid _ := owns_empty x0 5 1 N hN0
      refine hK.out _ _ (HS.out _ D1.out) (fun hHeld => ?_)
      clear hK K AB
      generalize hw1 : x0.alloc (.cells #[] 5) = x1 at *
      clear hw1
      refine wpAnyH_ready (rs := [3, 10, 17]) (by kernel_rfl) (by simp) ?_
      refine AllReadyH.cons rfl (fun K hK => ?_) (AllReadyH.cons rfl (fun K hK => ?_) (AllReadyH.cons rfl (fun K hK => ?_) AllReadyH.nil))
      · refine ite_w (by kernel_rfl) (wp_cat (B := N) 9 rfl (.tmp 6) (.tmp 8) rfl Fn01.out (Bs.rd1 (HNM.out _ D1.out)) (one_byte _) Try.underlying22 hi hz0 hz1 hz2 rfl (by omega) rfl rfl hl1 hl2 hN1 ?_)
        intro V2 x2 xs2 hO2 hX2 hG2 hB2
        have hG'2 : x1.grownBy x2 (some (x0.heap.size)) := hG2
        have D2 : Hid (Below w0.heap.size w0 x2) := below_gr0 D1.out hG'2 (show w0.heap.size ≤ x0.heap.size from (D0.out.size))
        have hN2 : N ≤ x2.heap.size := Nat.le_trans hN1 hG'2.size
        have KE2 := own_ty Fn01.out
        have hR2 : RO x2 (fun k => N ≤ k) V2 b.name := ro_of HNM0.out hO2 hX2 (fun g hg => own_ge hO2 hg)
        obtain ⟨na, nn, nc, hV2⟩ := hR2.bs.form3
        subst hV2
        have Frn2 : Hid (RO x2 (fun k => N ≤ k) (.slice na nn nc) b.name) := hR2
        refine hK.out _ _ (HS.out _ D2.out) (fun hHeld => ?_)
        clear hK K hO2 hX2 hG2 hG'2 hB2 KE2 hR2
        conv => arg 8; simp only [Act.put, sA, s0, sS]
        refine wpAnyH_ready (rs := [10, 17]) (by kernel_rfl) (by simp) ?_
        refine AllReadyH.cons rfl (fun K hK => ?_) (AllReadyH.cons rfl (fun K hK => ?_) AllReadyH.nil)
        · go_simp
          have AB : Below x2.heap.size x2 (x2.alloc (.cells #[] 53)) := (Below.refl _ _).alloc (Nat.le_refl _) _
          have D3 : Hid (Below w0.heap.size w0 (x2.alloc (.cells #[] 53))) := Below.step D2.out AB
          have hN3 : N ≤ (x2.alloc (.cells #[] 53)).heap.size := Nat.le_trans hN2 AB.size
          have Frn3 : Hid (RO (x2.alloc (.cells #[] 53)) (fun k => N ≤ k) (.slice na nn nc) b.name) := Frn2.out.below AB
          have Fg03 : Hid _ := owns_empty x2 53 2 N hN2
          refine hK.out _ _ (HS.out _ D3.out) (fun hHeld => ?_)
          clear hK K AB
          generalize hw3 : x2.alloc (.cells #[] 53) = x3 at *
          clear hw3
          refine wpAnyH_ready (rs := [13, 17]) (by kernel_rfl) (by simp) ?_
          refine AllReadyH.cons rfl (fun K hK => ?_) (AllReadyH.cons rfl (fun K hK => ?_) AllReadyH.nil)
          · refine ite_w (by kernel_rfl) (wp_cat (B := N) 19 rfl (.tmp 16) (.tmp 18) rfl Fg03.out (HGN.out _ D3.out) (one_gone _) Try.underlying29 hj hy0 hy1 hy2 rfl (by omega) rfl rfl hl3 hl4 hN3 ?_)
            intro V4 x4 xs4 hO4 hX4 hG4 hB4
            have hG'4 : x3.grownBy x4 (some (x2.heap.size)) := hG4
            have D4 : Hid (Below w0.heap.size w0 x4) := below_gr0 D3.out hG'4 (show w0.heap.size ≤ x2.heap.size from (D2.out.size))
            have hN4 : N ≤ x4.heap.size := Nat.le_trans hN3 hG'4.size
            have KE4 := own_ty Fg03.out
            have Frn4 : Hid (RO x4 (fun k => N ≤ k) (.slice na nn nc) b.name) := ro_grT Frn3.out hG'4 KE4 (by decide)
            have hR4 : GonesO x4 (fun k => N ≤ k) V4 b.gones := gones_of hO4 hX4 (fun g hg => own_ge hO4 hg)
            obtain ⟨ga, gn, gc, hV4⟩ := OwF.form3 hR4
            subst hV4
            have Frg4 : Hid (GonesO x4 (fun k => N ≤ k) (.slice ga gn gc) b.gones) := hR4
            refine hK.out _ _ (HS.out _ D4.out) (fun hHeld => ?_)
            clear hK K hO4 hX4 hG4 hG'4 hB4 KE4 hR4
            conv => arg 8; simp only [Act.put, sA, s0, sS]
            refine tq 16 22 hHeld ?_
            refine wpAnyH_ready (rs := [17]) (by kernel_rfl) (by simp) ?_
            refine AllReadyH.cons rfl (fun K hK => ?_) AllReadyH.nil
            go_simp
            have AB : Below x4.heap.size x4 (x4.alloc (.cells #[.slice none 0 0, .int .i64 0, .int .i64 0, .int .i64 0, .slice none 0 0, .slice none 0 0, .int .i64 0] 31)) := (Below.refl _ _).alloc (Nat.le_refl _) _
            have D5 : Hid (Below w0.heap.size w0 (x4.alloc (.cells #[.slice none 0 0, .int .i64 0, .int .i64 0, .int .i64 0, .slice none 0 0, .slice none 0 0, .int .i64 0] 31))) := Below.step D4.out AB
            have hN5 : N ≤ (x4.alloc (.cells #[.slice none 0 0, .int .i64 0, .int .i64 0, .int .i64 0, .slice none 0 0, .slice none 0 0, .int .i64 0] 31)).heap.size := Nat.le_trans hN4 AB.size
            have Frn5 : Hid (RO (x4.alloc (.cells #[.slice none 0 0, .int .i64 0, .int .i64 0, .int .i64 0, .slice none 0 0, .slice none 0 0, .int .i64 0] 31)) (fun k => N ≤ k) (.slice na nn nc) b.name) := Frn4.out.below AB
            have Frg5 : Hid (GonesO (x4.alloc (.cells #[.slice none 0 0, .int .i64 0, .int .i64 0, .int .i64 0, .slice none 0 0, .slice none 0 0, .int .i64 0] 31)) (fun k => N ≤ k) (.slice ga gn gc) b.gones) := Ow.below framesGone Frg4.out AB
            have Fkx5 : Hid ((x4.alloc (.cells #[.slice none 0 0, .int .i64 0, .int .i64 0, .int .i64 0, .slice none 0 0, .slice none 0 0, .int .i64 0] 31)).heap[x4.heap.size]? = some (.cells #[.slice none 0 0, .int .i64 0, .int .i64 0, .int .i64 0, .slice none 0 0, .slice none 0 0, .int .i64 0] 31 (0, 0))) := box_new x4 _
            refine hK.out _ _ (HS.out _ D5.out) (fun hHeld => ?_)
            clear hK K AB
            generalize hw5 : x4.alloc (.cells #[.slice none 0 0, .int .i64 0, .int .i64 0, .int .i64 0, .slice none 0 0, .slice none 0 0, .int .i64 0] 31) = x5 at *
            clear hw5
            refine wpAnyH_ready (rs := [18]) (by kernel_rfl) (by simp) ?_
            refine AllReadyH.cons rfl (fun K hK => ?_) AllReadyH.nil
            obtain ⟨zx, zl⟩ := box8z Fkx5.out
            obtain ⟨q0, q1, q2, q3, q4, q5, q6⟩ := bx7 Fkx5.out
            have KF : (((((((x5.setCell ⟨x4.heap.size, 0, none⟩ (.slice na nn nc)).setCell ⟨x4.heap.size, 1, none⟩ (.int .i64 b.valid)).setCell ⟨x4.heap.size, 2, none⟩ (.int .i64 b.next)).setCell ⟨x4.heap.size, 3, none⟩ (.int .i64 b.seq)).setCell ⟨x4.heap.size, 4, none⟩ (.slice none 0 0)).setCell ⟨x4.heap.size, 5, none⟩ (.slice ga gn gc)).setCell ⟨x4.heap.size, 6, none⟩ (.int .i64 b.lost)).heap[x4.heap.size]? = some (.cells #[.slice na nn nc, .int .i64 b.valid, .int .i64 b.next, .int .i64 b.seq, .slice none 0 0, .slice ga gn gc, .int .i64 b.lost] 31 (0, 0)) := (box_set (i := 6) (v := .int .i64 b.lost) (box_set (i := 5) (v := .slice ga gn gc) (box_set (i := 4) (v := .slice none 0 0) (box_set (i := 3) (v := .int .i64 b.seq) (box_set (i := 2) (v := .int .i64 b.next) (box_set (i := 1) (v := .int .i64 b.valid) (box_set (i := 0) (v := .slice na nn nc) Fkx5.out)))))))
            have DF : Below w0.heap.size w0 (((((((x5.setCell ⟨x4.heap.size, 0, none⟩ (.slice na nn nc)).setCell ⟨x4.heap.size, 1, none⟩ (.int .i64 b.valid)).setCell ⟨x4.heap.size, 2, none⟩ (.int .i64 b.next)).setCell ⟨x4.heap.size, 3, none⟩ (.int .i64 b.seq)).setCell ⟨x4.heap.size, 4, none⟩ (.slice none 0 0)).setCell ⟨x4.heap.size, 5, none⟩ (.slice ga gn gc)).setCell ⟨x4.heap.size, 6, none⟩ (.int .i64 b.lost)) := (((((((D5.out.setCell (p := ⟨x4.heap.size, 0, none⟩) (show w0.heap.size ≤ x4.heap.size from D4.out.size) (.slice na nn nc)).setCell (p := ⟨x4.heap.size, 1, none⟩) (show w0.heap.size ≤ x4.heap.size from D4.out.size) (.int .i64 b.valid)).setCell (p := ⟨x4.heap.size, 2, none⟩) (show w0.heap.size ≤ x4.heap.size from D4.out.size) (.int .i64 b.next)).setCell (p := ⟨x4.heap.size, 3, none⟩) (show w0.heap.size ≤ x4.heap.size from D4.out.size) (.int .i64 b.seq)).setCell (p := ⟨x4.heap.size, 4, none⟩) (show w0.heap.size ≤ x4.heap.size from D4.out.size) (.slice none 0 0)).setCell (p := ⟨x4.heap.size, 5, none⟩) (show w0.heap.size ≤ x4.heap.size from D4.out.size) (.slice ga gn gc)).setCell (p := ⟨x4.heap.size, 6, none⟩) (show w0.heap.size ≤ x4.heap.size from D4.out.size) (.int .i64 b.lost))
            have hoth : ∀ k, k ≠ x4.heap.size → (((((((x5.setCell ⟨x4.heap.size, 0, none⟩ (.slice na nn nc)).setCell ⟨x4.heap.size, 1, none⟩ (.int .i64 b.valid)).setCell ⟨x4.heap.size, 2, none⟩ (.int .i64 b.next)).setCell ⟨x4.heap.size, 3, none⟩ (.int .i64 b.seq)).setCell ⟨x4.heap.size, 4, none⟩ (.slice none 0 0)).setCell ⟨x4.heap.size, 5, none⟩ (.slice ga gn gc)).setCell ⟨x4.heap.size, 6, none⟩ (.int .i64 b.lost)).heap[k]? = x5.heap[k]? := fun k hk => by rw [Below.heap_setCell _ _ _ _ (show k ≠ x4.heap.size from hk), Below.heap_setCell _ _ _ _ (show k ≠ x4.heap.size from hk), Below.heap_setCell _ _ _ _ (show k ≠ x4.heap.size from hk), Below.heap_setCell _ _ _ _ (show k ≠ x4.heap.size from hk), Below.heap_setCell _ _ _ _ (show k ≠ x4.heap.size from hk), Below.heap_setCell _ _ _ _ (show k ≠ x4.heap.size from hk), Below.heap_setCell _ _ _ _ (show k ≠ x4.heap.size from hk)]
            have RF : RO (((((((x5.setCell ⟨x4.heap.size, 0, none⟩ (.slice na nn nc)).setCell ⟨x4.heap.size, 1, none⟩ (.int .i64 b.valid)).setCell ⟨x4.heap.size, 2, none⟩ (.int .i64 b.next)).setCell ⟨x4.heap.size, 3, none⟩ (.int .i64 b.seq)).setCell ⟨x4.heap.size, 4, none⟩ (.slice none 0 0)).setCell ⟨x4.heap.size, 5, none⟩ (.slice ga gn gc)).setCell ⟨x4.heap.size, 6, none⟩ (.int .i64 b.lost)) (fun k => N ≤ k) (.slice na nn nc) b.name := ro_oth Frn5.out (fun k hk => hoth k fun e => by subst e; exact ty_ne Fkx5.out hk (by decide))
            have GF : GonesO (((((((x5.setCell ⟨x4.heap.size, 0, none⟩ (.slice na nn nc)).setCell ⟨x4.heap.size, 1, none⟩ (.int .i64 b.valid)).setCell ⟨x4.heap.size, 2, none⟩ (.int .i64 b.next)).setCell ⟨x4.heap.size, 3, none⟩ (.int .i64 b.seq)).setCell ⟨x4.heap.size, 4, none⟩ (.slice none 0 0)).setCell ⟨x4.heap.size, 5, none⟩ (.slice ga gn gc)).setCell ⟨x4.heap.size, 6, none⟩ (.int .i64 b.lost)) (fun k => N ≤ k) (.slice ga gn gc) b.gones := gones_oth Frg5.out (fun k hk => hoth k fun e => by subst e; exact ty_ne Fkx5.out hk (by decide))
            go_simp
            refine hK.out _ _ (HS.out _ DF) (fun hHeld => ?_)
            clear hK K
            refine wpAnyH_done (by kernel_rfl) ?_ _
            go_wp2
            go_meet
            case rel => exact ⟨_, _, _, _, _, _, _, rfl, KF, RF, GF, hN4, DF⟩
          · go_simp
            have AB : Below x3.heap.size x3 (x3.alloc (.cells #[.slice none 0 0, .int .i64 0, .int .i64 0, .int .i64 0, .slice none 0 0, .slice none 0 0, .int .i64 0] 31)) := (Below.refl _ _).alloc (Nat.le_refl _) _
            have D6 : Hid (Below w0.heap.size w0 (x3.alloc (.cells #[.slice none 0 0, .int .i64 0, .int .i64 0, .int .i64 0, .slice none 0 0, .slice none 0 0, .int .i64 0] 31))) := Below.step D3.out AB
            have hN6 : N ≤ (x3.alloc (.cells #[.slice none 0 0, .int .i64 0, .int .i64 0, .int .i64 0, .slice none 0 0, .slice none 0 0, .int .i64 0] 31)).heap.size := Nat.le_trans hN3 AB.size
            have Fg06 : Hid _ := own_below Fg03.out AB
            have Frn6 : Hid (RO (x3.alloc (.cells #[.slice none 0 0, .int .i64 0, .int .i64 0, .int .i64 0, .slice none 0 0, .slice none 0 0, .int .i64 0] 31)) (fun k => N ≤ k) (.slice na nn nc) b.name) := Frn3.out.below AB
            have Fkx6 : Hid ((x3.alloc (.cells #[.slice none 0 0, .int .i64 0, .int .i64 0, .int .i64 0, .slice none 0 0, .slice none 0 0, .int .i64 0] 31)).heap[x3.heap.size]? = some (.cells #[.slice none 0 0, .int .i64 0, .int .i64 0, .int .i64 0, .slice none 0 0, .slice none 0 0, .int .i64 0] 31 (0, 0))) := box_new x3 _
            refine hK.out _ _ (HS.out _ D6.out) (fun hHeld => ?_)
            clear hK K AB
            generalize hw6 : x3.alloc (.cells #[.slice none 0 0, .int .i64 0, .int .i64 0, .int .i64 0, .slice none 0 0, .slice none 0 0, .int .i64 0] 31) = x6 at *
            clear hw6
            refine wpAnyH_ready (rs := [13]) (by kernel_rfl) (by simp) ?_
            refine AllReadyH.cons rfl (fun K hK => ?_) AllReadyH.nil
            refine ite_w (by kernel_rfl) (wp_cat (B := N) 19 rfl (.tmp 16) (.tmp 18) rfl Fg06.out (HGN.out _ D6.out) (one_gone _) Try.underlying29 hj hy0 hy1 hy2 rfl (by omega) rfl rfl hl3 hl4 hN6 ?_)
            intro V7 x7 xs7 hO7 hX7 hG7 hB7
            have hG'7 : x6.grownBy x7 (some (x2.heap.size)) := hG7
            have D7 : Hid (Below w0.heap.size w0 x7) := below_gr0 D6.out hG'7 (show w0.heap.size ≤ x2.heap.size from (D2.out.size))
            have hN7 : N ≤ x7.heap.size := Nat.le_trans hN6 hG'7.size
            have KE7 := own_ty Fg06.out
            have Frn7 : Hid (RO x7 (fun k => N ≤ k) (.slice na nn nc) b.name) := ro_grT Frn6.out hG'7 KE7 (by decide)
            have Fkx7 : Hid _ := box_grT hG'7 Fkx6.out KE7 (by decide)
            have hR7 : GonesO x7 (fun k => N ≤ k) V7 b.gones := gones_of hO7 hX7 (fun g hg => own_ge hO7 hg)
            obtain ⟨ga, gn, gc, hV7⟩ := OwF.form3 hR7
            subst hV7
            have Frg7 : Hid (GonesO x7 (fun k => N ≤ k) (.slice ga gn gc) b.gones) := hR7
            refine hK.out _ _ (HS.out _ D7.out) (fun hHeld => ?_)
            clear hK K hO7 hX7 hG7 hG'7 hB7 KE7 hR7
            conv => arg 8; simp only [Act.put, sA, s0, sS]
            refine tq 16 22 hHeld ?_
            refine wpAnyH_ready (rs := [18]) (by kernel_rfl) (by simp) ?_
            refine AllReadyH.cons rfl (fun K hK => ?_) AllReadyH.nil
            obtain ⟨zx, zl⟩ := box8z Fkx7.out
            obtain ⟨q0, q1, q2, q3, q4, q5, q6⟩ := bx7 Fkx7.out
            have KF : (((((((x7.setCell ⟨x3.heap.size, 0, none⟩ (.slice na nn nc)).setCell ⟨x3.heap.size, 1, none⟩ (.int .i64 b.valid)).setCell ⟨x3.heap.size, 2, none⟩ (.int .i64 b.next)).setCell ⟨x3.heap.size, 3, none⟩ (.int .i64 b.seq)).setCell ⟨x3.heap.size, 4, none⟩ (.slice none 0 0)).setCell ⟨x3.heap.size, 5, none⟩ (.slice ga gn gc)).setCell ⟨x3.heap.size, 6, none⟩ (.int .i64 b.lost)).heap[x3.heap.size]? = some (.cells #[.slice na nn nc, .int .i64 b.valid, .int .i64 b.next, .int .i64 b.seq, .slice none 0 0, .slice ga gn gc, .int .i64 b.lost] 31 (0, 0)) := (box_set (i := 6) (v := .int .i64 b.lost) (box_set (i := 5) (v := .slice ga gn gc) (box_set (i := 4) (v := .slice none 0 0) (box_set (i := 3) (v := .int .i64 b.seq) (box_set (i := 2) (v := .int .i64 b.next) (box_set (i := 1) (v := .int .i64 b.valid) (box_set (i := 0) (v := .slice na nn nc) Fkx7.out)))))))
            have DF : Below w0.heap.size w0 (((((((x7.setCell ⟨x3.heap.size, 0, none⟩ (.slice na nn nc)).setCell ⟨x3.heap.size, 1, none⟩ (.int .i64 b.valid)).setCell ⟨x3.heap.size, 2, none⟩ (.int .i64 b.next)).setCell ⟨x3.heap.size, 3, none⟩ (.int .i64 b.seq)).setCell ⟨x3.heap.size, 4, none⟩ (.slice none 0 0)).setCell ⟨x3.heap.size, 5, none⟩ (.slice ga gn gc)).setCell ⟨x3.heap.size, 6, none⟩ (.int .i64 b.lost)) := (((((((D7.out.setCell (p := ⟨x3.heap.size, 0, none⟩) (show w0.heap.size ≤ x3.heap.size from D3.out.size) (.slice na nn nc)).setCell (p := ⟨x3.heap.size, 1, none⟩) (show w0.heap.size ≤ x3.heap.size from D3.out.size) (.int .i64 b.valid)).setCell (p := ⟨x3.heap.size, 2, none⟩) (show w0.heap.size ≤ x3.heap.size from D3.out.size) (.int .i64 b.next)).setCell (p := ⟨x3.heap.size, 3, none⟩) (show w0.heap.size ≤ x3.heap.size from D3.out.size) (.int .i64 b.seq)).setCell (p := ⟨x3.heap.size, 4, none⟩) (show w0.heap.size ≤ x3.heap.size from D3.out.size) (.slice none 0 0)).setCell (p := ⟨x3.heap.size, 5, none⟩) (show w0.heap.size ≤ x3.heap.size from D3.out.size) (.slice ga gn gc)).setCell (p := ⟨x3.heap.size, 6, none⟩) (show w0.heap.size ≤ x3.heap.size from D3.out.size) (.int .i64 b.lost))
            have hoth : ∀ k, k ≠ x3.heap.size → (((((((x7.setCell ⟨x3.heap.size, 0, none⟩ (.slice na nn nc)).setCell ⟨x3.heap.size, 1, none⟩ (.int .i64 b.valid)).setCell ⟨x3.heap.size, 2, none⟩ (.int .i64 b.next)).setCell ⟨x3.heap.size, 3, none⟩ (.int .i64 b.seq)).setCell ⟨x3.heap.size, 4, none⟩ (.slice none 0 0)).setCell ⟨x3.heap.size, 5, none⟩ (.slice ga gn gc)).setCell ⟨x3.heap.size, 6, none⟩ (.int .i64 b.lost)).heap[k]? = x7.heap[k]? := fun k hk => by rw [Below.heap_setCell _ _ _ _ (show k ≠ x3.heap.size from hk), Below.heap_setCell _ _ _ _ (show k ≠ x3.heap.size from hk), Below.heap_setCell _ _ _ _ (show k ≠ x3.heap.size from hk), Below.heap_setCell _ _ _ _ (show k ≠ x3.heap.size from hk), Below.heap_setCell _ _ _ _ (show k ≠ x3.heap.size from hk), Below.heap_setCell _ _ _ _ (show k ≠ x3.heap.size from hk), Below.heap_setCell _ _ _ _ (show k ≠ x3.heap.size from hk)]
            have RF : RO (((((((x7.setCell ⟨x3.heap.size, 0, none⟩ (.slice na nn nc)).setCell ⟨x3.heap.size, 1, none⟩ (.int .i64 b.valid)).setCell ⟨x3.heap.size, 2, none⟩ (.int .i64 b.next)).setCell ⟨x3.heap.size, 3, none⟩ (.int .i64 b.seq)).setCell ⟨x3.heap.size, 4, none⟩ (.slice none 0 0)).setCell ⟨x3.heap.size, 5, none⟩ (.slice ga gn gc)).setCell ⟨x3.heap.size, 6, none⟩ (.int .i64 b.lost)) (fun k => N ≤ k) (.slice na nn nc) b.name := ro_oth Frn7.out (fun k hk => hoth k fun e => by subst e; exact ty_ne Fkx7.out hk (by decide))
            have GF : GonesO (((((((x7.setCell ⟨x3.heap.size, 0, none⟩ (.slice na nn nc)).setCell ⟨x3.heap.size, 1, none⟩ (.int .i64 b.valid)).setCell ⟨x3.heap.size, 2, none⟩ (.int .i64 b.next)).setCell ⟨x3.heap.size, 3, none⟩ (.int .i64 b.seq)).setCell ⟨x3.heap.size, 4, none⟩ (.slice none 0 0)).setCell ⟨x3.heap.size, 5, none⟩ (.slice ga gn gc)).setCell ⟨x3.heap.size, 6, none⟩ (.int .i64 b.lost)) (fun k => N ≤ k) (.slice ga gn gc) b.gones := gones_oth Frg7.out (fun k hk => hoth k fun e => by subst e; exact ty_ne Fkx7.out hk (by decide))
            go_simp
            refine hK.out _ _ (HS.out _ DF) (fun hHeld => ?_)
            clear hK K
            refine wpAnyH_done (by kernel_rfl) ?_ _
            go_wp2
            go_meet
            case rel => exact ⟨_, _, _, _, _, _, _, rfl, KF, RF, GF, hN3, DF⟩
        · go_simp
          have AB : Below x2.heap.size x2 (x2.alloc (.cells #[.slice none 0 0, .int .i64 0, .int .i64 0, .int .i64 0, .slice none 0 0, .slice none 0 0, .int .i64 0] 31)) := (Below.refl _ _).alloc (Nat.le_refl _) _
          have D8 : Hid (Below w0.heap.size w0 (x2.alloc (.cells #[.slice none 0 0, .int .i64 0, .int .i64 0, .int .i64 0, .slice none 0 0, .slice none 0 0, .int .i64 0] 31))) := Below.step D2.out AB
          have hN8 : N ≤ (x2.alloc (.cells #[.slice none 0 0, .int .i64 0, .int .i64 0, .int .i64 0, .slice none 0 0, .slice none 0 0, .int .i64 0] 31)).heap.size := Nat.le_trans hN2 AB.size
          have Frn8 : Hid (RO (x2.alloc (.cells #[.slice none 0 0, .int .i64 0, .int .i64 0, .int .i64 0, .slice none 0 0, .slice none 0 0, .int .i64 0] 31)) (fun k => N ≤ k) (.slice na nn nc) b.name) := Frn2.out.below AB
          have Fkx8 : Hid ((x2.alloc (.cells #[.slice none 0 0, .int .i64 0, .int .i64 0, .int .i64 0, .slice none 0 0, .slice none 0 0, .int .i64 0] 31)).heap[x2.heap.size]? = some (.cells #[.slice none 0 0, .int .i64 0, .int .i64 0, .int .i64 0, .slice none 0 0, .slice none 0 0, .int .i64 0] 31 (0, 0))) := box_new x2 _
          refine hK.out _ _ (HS.out _ D8.out) (fun hHeld => ?_)
          clear hK K AB
          generalize hw8 : x2.alloc (.cells #[.slice none 0 0, .int .i64 0, .int .i64 0, .int .i64 0, .slice none 0 0, .slice none 0 0, .int .i64 0] 31) = x8 at *
          clear hw8
          refine wpAnyH_ready (rs := [10]) (by kernel_rfl) (by simp) ?_
          refine AllReadyH.cons rfl (fun K hK => ?_) AllReadyH.nil
          go_simp
          have AB : Below x8.heap.size x8 (x8.alloc (.cells #[] 53)) := (Below.refl _ _).alloc (Nat.le_refl _) _
          have D9 : Hid (Below w0.heap.size w0 (x8.alloc (.cells #[] 53))) := Below.step D8.out AB
          have hN9 : N ≤ (x8.alloc (.cells #[] 53)).heap.size := Nat.le_trans hN8 AB.size
          have Frn9 : Hid (RO (x8.alloc (.cells #[] 53)) (fun k => N ≤ k) (.slice na nn nc) b.name) := Frn8.out.below AB
          have Fkx9 : Hid _ := box_below AB Fkx8.out
          have Fg09 : Hid _ := owns_empty x8 53 2 N hN8
          refine hK.out _ _ (HS.out _ D9.out) (fun hHeld => ?_)
          clear hK K AB
          generalize hw9 : x8.alloc (.cells #[] 53) = x9 at *
          clear hw9
          refine wpAnyH_ready (rs := [13]) (by kernel_rfl) (by simp) ?_
          refine AllReadyH.cons rfl (fun K hK => ?_) AllReadyH.nil
          refine ite_w (by kernel_rfl) (wp_cat (B := N) 19 rfl (.tmp 16) (.tmp 18) rfl Fg09.out (HGN.out _ D9.out) (one_gone _) Try.underlying29 hj hy0 hy1 hy2 rfl (by omega) rfl rfl hl3 hl4 hN9 ?_)
          intro V10 x10 xs10 hO10 hX10 hG10 hB10
          have hG'10 : x9.grownBy x10 (some (x8.heap.size)) := hG10
          have D10 : Hid (Below w0.heap.size w0 x10) := below_gr0 D9.out hG'10 (show w0.heap.size ≤ x8.heap.size from (D8.out.size))
          have hN10 : N ≤ x10.heap.size := Nat.le_trans hN9 hG'10.size
          have KE10 := own_ty Fg09.out
          have Frn10 : Hid (RO x10 (fun k => N ≤ k) (.slice na nn nc) b.name) := ro_grT Frn9.out hG'10 KE10 (by decide)
          have Fkx10 : Hid _ := box_grT hG'10 Fkx9.out KE10 (by decide)
          have hR10 : GonesO x10 (fun k => N ≤ k) V10 b.gones := gones_of hO10 hX10 (fun g hg => own_ge hO10 hg)
          obtain ⟨ga, gn, gc, hV10⟩ := OwF.form3 hR10
          subst hV10
          have Frg10 : Hid (GonesO x10 (fun k => N ≤ k) (.slice ga gn gc) b.gones) := hR10
          refine hK.out _ _ (HS.out _ D10.out) (fun hHeld => ?_)
          clear hK K hO10 hX10 hG10 hG'10 hB10 KE10 hR10
          conv => arg 8; simp only [Act.put, sA, s0, sS]
          refine tq 16 22 hHeld ?_
          refine wpAnyH_ready (rs := [18]) (by kernel_rfl) (by simp) ?_
          refine AllReadyH.cons rfl (fun K hK => ?_) AllReadyH.nil
          obtain ⟨zx, zl⟩ := box8z Fkx10.out
          obtain ⟨q0, q1, q2, q3, q4, q5, q6⟩ := bx7 Fkx10.out
          have KF : (((((((x10.setCell ⟨x2.heap.size, 0, none⟩ (.slice na nn nc)).setCell ⟨x2.heap.size, 1, none⟩ (.int .i64 b.valid)).setCell ⟨x2.heap.size, 2, none⟩ (.int .i64 b.next)).setCell ⟨x2.heap.size, 3, none⟩ (.int .i64 b.seq)).setCell ⟨x2.heap.size, 4, none⟩ (.slice none 0 0)).setCell ⟨x2.heap.size, 5, none⟩ (.slice ga gn gc)).setCell ⟨x2.heap.size, 6, none⟩ (.int .i64 b.lost)).heap[x2.heap.size]? = some (.cells #[.slice na nn nc, .int .i64 b.valid, .int .i64 b.next, .int .i64 b.seq, .slice none 0 0, .slice ga gn gc, .int .i64 b.lost] 31 (0, 0)) := (box_set (i := 6) (v := .int .i64 b.lost) (box_set (i := 5) (v := .slice ga gn gc) (box_set (i := 4) (v := .slice none 0 0) (box_set (i := 3) (v := .int .i64 b.seq) (box_set (i := 2) (v := .int .i64 b.next) (box_set (i := 1) (v := .int .i64 b.valid) (box_set (i := 0) (v := .slice na nn nc) Fkx10.out)))))))
          have DF : Below w0.heap.size w0 (((((((x10.setCell ⟨x2.heap.size, 0, none⟩ (.slice na nn nc)).setCell ⟨x2.heap.size, 1, none⟩ (.int .i64 b.valid)).setCell ⟨x2.heap.size, 2, none⟩ (.int .i64 b.next)).setCell ⟨x2.heap.size, 3, none⟩ (.int .i64 b.seq)).setCell ⟨x2.heap.size, 4, none⟩ (.slice none 0 0)).setCell ⟨x2.heap.size, 5, none⟩ (.slice ga gn gc)).setCell ⟨x2.heap.size, 6, none⟩ (.int .i64 b.lost)) := (((((((D10.out.setCell (p := ⟨x2.heap.size, 0, none⟩) (show w0.heap.size ≤ x2.heap.size from D2.out.size) (.slice na nn nc)).setCell (p := ⟨x2.heap.size, 1, none⟩) (show w0.heap.size ≤ x2.heap.size from D2.out.size) (.int .i64 b.valid)).setCell (p := ⟨x2.heap.size, 2, none⟩) (show w0.heap.size ≤ x2.heap.size from D2.out.size) (.int .i64 b.next)).setCell (p := ⟨x2.heap.size, 3, none⟩) (show w0.heap.size ≤ x2.heap.size from D2.out.size) (.int .i64 b.seq)).setCell (p := ⟨x2.heap.size, 4, none⟩) (show w0.heap.size ≤ x2.heap.size from D2.out.size) (.slice none 0 0)).setCell (p := ⟨x2.heap.size, 5, none⟩) (show w0.heap.size ≤ x2.heap.size from D2.out.size) (.slice ga gn gc)).setCell (p := ⟨x2.heap.size, 6, none⟩) (show w0.heap.size ≤ x2.heap.size from D2.out.size) (.int .i64 b.lost))
          have hoth : ∀ k, k ≠ x2.heap.size → (((((((x10.setCell ⟨x2.heap.size, 0, none⟩ (.slice na nn nc)).setCell ⟨x2.heap.size, 1, none⟩ (.int .i64 b.valid)).setCell ⟨x2.heap.size, 2, none⟩ (.int .i64 b.next)).setCell ⟨x2.heap.size, 3, none⟩ (.int .i64 b.seq)).setCell ⟨x2.heap.size, 4, none⟩ (.slice none 0 0)).setCell ⟨x2.heap.size, 5, none⟩ (.slice ga gn gc)).setCell ⟨x2.heap.size, 6, none⟩ (.int .i64 b.lost)).heap[k]? = x10.heap[k]? := fun k hk => by rw [Below.heap_setCell _ _ _ _ (show k ≠ x2.heap.size from hk), Below.heap_setCell _ _ _ _ (show k ≠ x2.heap.size from hk), Below.heap_setCell _ _ _ _ (show k ≠ x2.heap.size from hk), Below.heap_setCell _ _ _ _ (show k ≠ x2.heap.size from hk), Below.heap_setCell _ _ _ _ (show k ≠ x2.heap.size from hk), Below.heap_setCell _ _ _ _ (show k ≠ x2.heap.size from hk), Below.heap_setCell _ _ _ _ (show k ≠ x2.heap.size from hk)]
          have RF : RO (((((((x10.setCell ⟨x2.heap.size, 0, none⟩ (.slice na nn nc)).setCell ⟨x2.heap.size, 1, none⟩ (.int .i64 b.valid)).setCell ⟨x2.heap.size, 2, none⟩ (.int .i64 b.next)).setCell ⟨x2.heap.size, 3, none⟩ (.int .i64 b.seq)).setCell ⟨x2.heap.size, 4, none⟩ (.slice none 0 0)).setCell ⟨x2.heap.size, 5, none⟩ (.slice ga gn gc)).setCell ⟨x2.heap.size, 6, none⟩ (.int .i64 b.lost)) (fun k => N ≤ k) (.slice na nn nc) b.name := ro_oth Frn10.out (fun k hk => hoth k fun e => by subst e; exact ty_ne Fkx10.out hk (by decide))
          have GF : GonesO (((((((x10.setCell ⟨x2.heap.size, 0, none⟩ (.slice na nn nc)).setCell ⟨x2.heap.size, 1, none⟩ (.int .i64 b.valid)).setCell ⟨x2.heap.size, 2, none⟩ (.int .i64 b.next)).setCell ⟨x2.heap.size, 3, none⟩ (.int .i64 b.seq)).setCell ⟨x2.heap.size, 4, none⟩ (.slice none 0 0)).setCell ⟨x2.heap.size, 5, none⟩ (.slice ga gn gc)).setCell ⟨x2.heap.size, 6, none⟩ (.int .i64 b.lost)) (fun k => N ≤ k) (.slice ga gn gc) b.gones := gones_oth Frg10.out (fun k hk => hoth k fun e => by subst e; exact ty_ne Fkx10.out hk (by decide))
          go_simp
          refine hK.out _ _ (HS.out _ DF) (fun hHeld => ?_)
          clear hK K
          refine wpAnyH_done (by kernel_rfl) ?_ _
          go_wp2
          go_meet
          case rel => exact ⟨_, _, _, _, _, _, _, rfl, KF, RF, GF, hN2, DF⟩
      · go_simp
        have AB : Below x1.heap.size x1 (x1.alloc (.cells #[] 53)) := (Below.refl _ _).alloc (Nat.le_refl _) _
        have D11 : Hid (Below w0.heap.size w0 (x1.alloc (.cells #[] 53))) := Below.step D1.out AB
        have hN11 : N ≤ (x1.alloc (.cells #[] 53)).heap.size := Nat.le_trans hN1 AB.size
        have Fn011 : Hid _ := own_below Fn01.out AB
        have Fg011 : Hid _ := owns_empty x1 53 2 N hN1
        refine hK.out _ _ (HS.out _ D11.out) (fun hHeld => ?_)
        clear hK K AB
        generalize hw11 : x1.alloc (.cells #[] 53) = x11 at *
        clear hw11
        refine wpAnyH_ready (rs := [3, 17]) (by kernel_rfl) (by simp) ?_
        refine AllReadyH.cons rfl (fun K hK => ?_) (AllReadyH.cons rfl (fun K hK => ?_) AllReadyH.nil)
        · refine ite_w (by kernel_rfl) (wp_cat (B := N) 9 rfl (.tmp 6) (.tmp 8) rfl Fn011.out (Bs.rd1 (HNM.out _ D11.out)) (one_byte _) Try.underlying22 hi hz0 hz1 hz2 rfl (by omega) rfl rfl hl1 hl2 hN11 ?_)
          intro V12 x12 xs12 hO12 hX12 hG12 hB12
          have hG'12 : x11.grownBy x12 (some (x0.heap.size)) := hG12
          have D12 : Hid (Below w0.heap.size w0 x12) := below_gr0 D11.out hG'12 (show w0.heap.size ≤ x0.heap.size from (D0.out.size))
          have hN12 : N ≤ x12.heap.size := Nat.le_trans hN11 hG'12.size
          have KE12 := own_ty Fn011.out
          have Fg012 : Hid _ := own_grT Fg011.out hG'12 KE12 (by decide)
          have hR12 : RO x12 (fun k => N ≤ k) V12 b.name := ro_of HNM0.out hO12 hX12 (fun g hg => own_ge hO12 hg)
          obtain ⟨na, nn, nc, hV12⟩ := hR12.bs.form3
          subst hV12
          have Frn12 : Hid (RO x12 (fun k => N ≤ k) (.slice na nn nc) b.name) := hR12
          refine hK.out _ _ (HS.out _ D12.out) (fun hHeld => ?_)
          clear hK K hO12 hX12 hG12 hG'12 hB12 KE12 hR12
          conv => arg 8; simp only [Act.put, sA, s0, sS]
          refine wpAnyH_ready (rs := [13, 17]) (by kernel_rfl) (by simp) ?_
          refine AllReadyH.cons rfl (fun K hK => ?_) (AllReadyH.cons rfl (fun K hK => ?_) AllReadyH.nil)
          · refine ite_w (by kernel_rfl) (wp_cat (B := N) 19 rfl (.tmp 16) (.tmp 18) rfl Fg012.out (HGN.out _ D12.out) (one_gone _) Try.underlying29 hj hy0 hy1 hy2 rfl (by omega) rfl rfl hl3 hl4 hN12 ?_)
            intro V13 x13 xs13 hO13 hX13 hG13 hB13
            have hG'13 : x12.grownBy x13 (some (x1.heap.size)) := hG13
            have D13 : Hid (Below w0.heap.size w0 x13) := below_gr0 D12.out hG'13 (show w0.heap.size ≤ x1.heap.size from (D1.out.size))
            have hN13 : N ≤ x13.heap.size := Nat.le_trans hN12 hG'13.size
            have KE13 := own_ty Fg012.out
            have Frn13 : Hid (RO x13 (fun k => N ≤ k) (.slice na nn nc) b.name) := ro_grT Frn12.out hG'13 KE13 (by decide)
            have hR13 : GonesO x13 (fun k => N ≤ k) V13 b.gones := gones_of hO13 hX13 (fun g hg => own_ge hO13 hg)
            obtain ⟨ga, gn, gc, hV13⟩ := OwF.form3 hR13
            subst hV13
            have Frg13 : Hid (GonesO x13 (fun k => N ≤ k) (.slice ga gn gc) b.gones) := hR13
            refine hK.out _ _ (HS.out _ D13.out) (fun hHeld => ?_)
            clear hK K hO13 hX13 hG13 hG'13 hB13 KE13 hR13
            conv => arg 8; simp only [Act.put, sA, s0, sS]
            refine tq 16 22 hHeld ?_
            refine wpAnyH_ready (rs := [17]) (by kernel_rfl) (by simp) ?_
            refine AllReadyH.cons rfl (fun K hK => ?_) AllReadyH.nil
            go_simp
            have AB : Below x13.heap.size x13 (x13.alloc (.cells #[.slice none 0 0, .int .i64 0, .int .i64 0, .int .i64 0, .slice none 0 0, .slice none 0 0, .int .i64 0] 31)) := (Below.refl _ _).alloc (Nat.le_refl _) _
            have D14 : Hid (Below w0.heap.size w0 (x13.alloc (.cells #[.slice none 0 0, .int .i64 0, .int .i64 0, .int .i64 0, .slice none 0 0, .slice none 0 0, .int .i64 0] 31))) := Below.step D13.out AB
            have hN14 : N ≤ (x13.alloc (.cells #[.slice none 0 0, .int .i64 0, .int .i64 0, .int .i64 0, .slice none 0 0, .slice none 0 0, .int .i64 0] 31)).heap.size := Nat.le_trans hN13 AB.size
            have Frn14 : Hid (RO (x13.alloc (.cells #[.slice none 0 0, .int .i64 0, .int .i64 0, .int .i64 0, .slice none 0 0, .slice none 0 0, .int .i64 0] 31)) (fun k => N ≤ k) (.slice na nn nc) b.name) := Frn13.out.below AB
            have Frg14 : Hid (GonesO (x13.alloc (.cells #[.slice none 0 0, .int .i64 0, .int .i64 0, .int .i64 0, .slice none 0 0, .slice none 0 0, .int .i64 0] 31)) (fun k => N ≤ k) (.slice ga gn gc) b.gones) := Ow.below framesGone Frg13.out AB
            have Fkx14 : Hid ((x13.alloc (.cells #[.slice none 0 0, .int .i64 0, .int .i64 0, .int .i64 0, .slice none 0 0, .slice none 0 0, .int .i64 0] 31)).heap[x13.heap.size]? = some (.cells #[.slice none 0 0, .int .i64 0, .int .i64 0, .int .i64 0, .slice none 0 0, .slice none 0 0, .int .i64 0] 31 (0, 0))) := box_new x13 _
            refine hK.out _ _ (HS.out _ D14.out) (fun hHeld => ?_)
            clear hK K AB
            generalize hw14 : x13.alloc (.cells #[.slice none 0 0, .int .i64 0, .int .i64 0, .int .i64 0, .slice none 0 0, .slice none 0 0, .int .i64 0] 31) = x14 at *
            clear hw14
            refine wpAnyH_ready (rs := [18]) (by kernel_rfl) (by simp) ?_
            refine AllReadyH.cons rfl (fun K hK => ?_) AllReadyH.nil
            obtain ⟨zx, zl⟩ := box8z Fkx14.out
            obtain ⟨q0, q1, q2, q3, q4, q5, q6⟩ := bx7 Fkx14.out
            have KF : (((((((x14.setCell ⟨x13.heap.size, 0, none⟩ (.slice na nn nc)).setCell ⟨x13.heap.size, 1, none⟩ (.int .i64 b.valid)).setCell ⟨x13.heap.size, 2, none⟩ (.int .i64 b.next)).setCell ⟨x13.heap.size, 3, none⟩ (.int .i64 b.seq)).setCell ⟨x13.heap.size, 4, none⟩ (.slice none 0 0)).setCell ⟨x13.heap.size, 5, none⟩ (.slice ga gn gc)).setCell ⟨x13.heap.size, 6, none⟩ (.int .i64 b.lost)).heap[x13.heap.size]? = some (.cells #[.slice na nn nc, .int .i64 b.valid, .int .i64 b.next, .int .i64 b.seq, .slice none 0 0, .slice ga gn gc, .int .i64 b.lost] 31 (0, 0)) := (box_set (i := 6) (v := .int .i64 b.lost) (box_set (i := 5) (v := .slice ga gn gc) (box_set (i := 4) (v := .slice none 0 0) (box_set (i := 3) (v := .int .i64 b.seq) (box_set (i := 2) (v := .int .i64 b.next) (box_set (i := 1) (v := .int .i64 b.valid) (box_set (i := 0) (v := .slice na nn nc) Fkx14.out)))))))
            have DF : Below w0.heap.size w0 (((((((x14.setCell ⟨x13.heap.size, 0, none⟩ (.slice na nn nc)).setCell ⟨x13.heap.size, 1, none⟩ (.int .i64 b.valid)).setCell ⟨x13.heap.size, 2, none⟩ (.int .i64 b.next)).setCell ⟨x13.heap.size, 3, none⟩ (.int .i64 b.seq)).setCell ⟨x13.heap.size, 4, none⟩ (.slice none 0 0)).setCell ⟨x13.heap.size, 5, none⟩ (.slice ga gn gc)).setCell ⟨x13.heap.size, 6, none⟩ (.int .i64 b.lost)) := (((((((D14.out.setCell (p := ⟨x13.heap.size, 0, none⟩) (show w0.heap.size ≤ x13.heap.size from D13.out.size) (.slice na nn nc)).setCell (p := ⟨x13.heap.size, 1, none⟩) (show w0.heap.size ≤ x13.heap.size from D13.out.size) (.int .i64 b.valid)).setCell (p := ⟨x13.heap.size, 2, none⟩) (show w0.heap.size ≤ x13.heap.size from D13.out.size) (.int .i64 b.next)).setCell (p := ⟨x13.heap.size, 3, none⟩) (show w0.heap.size ≤ x13.heap.size from D13.out.size) (.int .i64 b.seq)).setCell (p := ⟨x13.heap.size, 4, none⟩) (show w0.heap.size ≤ x13.heap.size from D13.out.size) (.slice none 0 0)).setCell (p := ⟨x13.heap.size, 5, none⟩) (show w0.heap.size ≤ x13.heap.size from D13.out.size) (.slice ga gn gc)).setCell (p := ⟨x13.heap.size, 6, none⟩) (show w0.heap.size ≤ x13.heap.size from D13.out.size) (.int .i64 b.lost))
            have hoth : ∀ k, k ≠ x13.heap.size → (((((((x14.setCell ⟨x13.heap.size, 0, none⟩ (.slice na nn nc)).setCell ⟨x13.heap.size, 1, none⟩ (.int .i64 b.valid)).setCell ⟨x13.heap.size, 2, none⟩ (.int .i64 b.next)).setCell ⟨x13.heap.size, 3, none⟩ (.int .i64 b.seq)).setCell ⟨x13.heap.size, 4, none⟩ (.slice none 0 0)).setCell ⟨x13.heap.size, 5, none⟩ (.slice ga gn gc)).setCell ⟨x13.heap.size, 6, none⟩ (.int .i64 b.lost)).heap[k]? = x14.heap[k]? := fun k hk => by rw [Below.heap_setCell _ _ _ _ (show k ≠ x13.heap.size from hk), Below.heap_setCell _ _ _ _ (show k ≠ x13.heap.size from hk), Below.heap_setCell _ _ _ _ (show k ≠ x13.heap.size from hk), Below.heap_setCell _ _ _ _ (show k ≠ x13.heap.size from hk), Below.heap_setCell _ _ _ _ (show k ≠ x13.heap.size from hk), Below.heap_setCell _ _ _ _ (show k ≠ x13.heap.size from hk), Below.heap_setCell _ _ _ _ (show k ≠ x13.heap.size from hk)]
            have RF : RO (((((((x14.setCell ⟨x13.heap.size, 0, none⟩ (.slice na nn nc)).setCell ⟨x13.heap.size, 1, none⟩ (.int .i64 b.valid)).setCell ⟨x13.heap.size, 2, none⟩ (.int .i64 b.next)).setCell ⟨x13.heap.size, 3, none⟩ (.int .i64 b.seq)).setCell ⟨x13.heap.size, 4, none⟩ (.slice none 0 0)).setCell ⟨x13.heap.size, 5, none⟩ (.slice ga gn gc)).setCell ⟨x13.heap.size, 6, none⟩ (.int .i64 b.lost)) (fun k => N ≤ k) (.slice na nn nc) b.name := ro_oth Frn14.out (fun k hk => hoth k fun e => by subst e; exact ty_ne Fkx14.out hk (by decide))
            have GF : GonesO (((((((x14.setCell ⟨x13.heap.size, 0, none⟩ (.slice na nn nc)).setCell ⟨x13.heap.size, 1, none⟩ (.int .i64 b.valid)).setCell ⟨x13.heap.size, 2, none⟩ (.int .i64 b.next)).setCell ⟨x13.heap.size, 3, none⟩ (.int .i64 b.seq)).setCell ⟨x13.heap.size, 4, none⟩ (.slice none 0 0)).setCell ⟨x13.heap.size, 5, none⟩ (.slice ga gn gc)).setCell ⟨x13.heap.size, 6, none⟩ (.int .i64 b.lost)) (fun k => N ≤ k) (.slice ga gn gc) b.gones := gones_oth Frg14.out (fun k hk => hoth k fun e => by subst e; exact ty_ne Fkx14.out hk (by decide))
            go_simp
            refine hK.out _ _ (HS.out _ DF) (fun hHeld => ?_)
            clear hK K
            refine wpAnyH_done (by kernel_rfl) ?_ _
            go_wp2
            go_meet
            case rel => exact ⟨_, _, _, _, _, _, _, rfl, KF, RF, GF, hN13, DF⟩
          · go_simp
            have AB : Below x12.heap.size x12 (x12.alloc (.cells #[.slice none 0 0, .int .i64 0, .int .i64 0, .int .i64 0, .slice none 0 0, .slice none 0 0, .int .i64 0] 31)) := (Below.refl _ _).alloc (Nat.le_refl _) _
            have D15 : Hid (Below w0.heap.size w0 (x12.alloc (.cells #[.slice none 0 0, .int .i64 0, .int .i64 0, .int .i64 0, .slice none 0 0, .slice none 0 0, .int .i64 0] 31))) := Below.step D12.out AB
            have hN15 : N ≤ (x12.alloc (.cells #[.slice none 0 0, .int .i64 0, .int .i64 0, .int .i64 0, .slice none 0 0, .slice none 0 0, .int .i64 0] 31)).heap.size := Nat.le_trans hN12 AB.size
            have Fg015 : Hid _ := own_below Fg012.out AB
            have Frn15 : Hid (RO (x12.alloc (.cells #[.slice none 0 0, .int .i64 0, .int .i64 0, .int .i64 0, .slice none 0 0, .slice none 0 0, .int .i64 0] 31)) (fun k => N ≤ k) (.slice na nn nc) b.name) := Frn12.out.below AB
            have Fkx15 : Hid ((x12.alloc (.cells #[.slice none 0 0, .int .i64 0, .int .i64 0, .int .i64 0, .slice none 0 0, .slice none 0 0, .int .i64 0] 31)).heap[x12.heap.size]? = some (.cells #[.slice none 0 0, .int .i64 0, .int .i64 0, .int .i64 0, .slice none 0 0, .slice none 0 0, .int .i64 0] 31 (0, 0))) := box_new x12 _
            refine hK.out _ _ (HS.out _ D15.out) (fun hHeld => ?_)
            clear hK K AB
            generalize hw15 : x12.alloc (.cells #[.slice none 0 0, .int .i64 0, .int .i64 0, .int .i64 0, .slice none 0 0, .slice none 0 0, .int .i64 0] 31) = x15 at *
            clear hw15
            refine wpAnyH_ready (rs := [13]) (by kernel_rfl) (by simp) ?_
            refine AllReadyH.cons rfl (fun K hK => ?_) AllReadyH.nil
            refine ite_w (by kernel_rfl) (wp_cat (B := N) 19 rfl (.tmp 16) (.tmp 18) rfl Fg015.out (HGN.out _ D15.out) (one_gone _) Try.underlying29 hj hy0 hy1 hy2 rfl (by omega) rfl rfl hl3 hl4 hN15 ?_)
            intro V16 x16 xs16 hO16 hX16 hG16 hB16
            have hG'16 : x15.grownBy x16 (some (x1.heap.size)) := hG16
            have D16 : Hid (Below w0.heap.size w0 x16) := below_gr0 D15.out hG'16 (show w0.heap.size ≤ x1.heap.size from (D1.out.size))
            have hN16 : N ≤ x16.heap.size := Nat.le_trans hN15 hG'16.size
            have KE16 := own_ty Fg015.out
            have Frn16 : Hid (RO x16 (fun k => N ≤ k) (.slice na nn nc) b.name) := ro_grT Frn15.out hG'16 KE16 (by decide)
            have Fkx16 : Hid _ := box_grT hG'16 Fkx15.out KE16 (by decide)
            have hR16 : GonesO x16 (fun k => N ≤ k) V16 b.gones := gones_of hO16 hX16 (fun g hg => own_ge hO16 hg)
            obtain ⟨ga, gn, gc, hV16⟩ := OwF.form3 hR16
            subst hV16
            have Frg16 : Hid (GonesO x16 (fun k => N ≤ k) (.slice ga gn gc) b.gones) := hR16
            refine hK.out _ _ (HS.out _ D16.out) (fun hHeld => ?_)
            clear hK K hO16 hX16 hG16 hG'16 hB16 KE16 hR16
            conv => arg 8; simp only [Act.put, sA, s0, sS]
            refine tq 16 22 hHeld ?_
            refine wpAnyH_ready (rs := [18]) (by kernel_rfl) (by simp) ?_
            refine AllReadyH.cons rfl (fun K hK => ?_) AllReadyH.nil
            obtain ⟨zx, zl⟩ := box8z Fkx16.out
            obtain ⟨q0, q1, q2, q3, q4, q5, q6⟩ := bx7 Fkx16.out
            have KF : (((((((x16.setCell ⟨x12.heap.size, 0, none⟩ (.slice na nn nc)).setCell ⟨x12.heap.size, 1, none⟩ (.int .i64 b.valid)).setCell ⟨x12.heap.size, 2, none⟩ (.int .i64 b.next)).setCell ⟨x12.heap.size, 3, none⟩ (.int .i64 b.seq)).setCell ⟨x12.heap.size, 4, none⟩ (.slice none 0 0)).setCell ⟨x12.heap.size, 5, none⟩ (.slice ga gn gc)).setCell ⟨x12.heap.size, 6, none⟩ (.int .i64 b.lost)).heap[x12.heap.size]? = some (.cells #[.slice na nn nc, .int .i64 b.valid, .int .i64 b.next, .int .i64 b.seq, .slice none 0 0, .slice ga gn gc, .int .i64 b.lost] 31 (0, 0)) := (box_set (i := 6) (v := .int .i64 b.lost) (box_set (i := 5) (v := .slice ga gn gc) (box_set (i := 4) (v := .slice none 0 0) (box_set (i := 3) (v := .int .i64 b.seq) (box_set (i := 2) (v := .int .i64 b.next) (box_set (i := 1) (v := .int .i64 b.valid) (box_set (i := 0) (v := .slice na nn nc) Fkx16.out)))))))
            have DF : Below w0.heap.size w0 (((((((x16.setCell ⟨x12.heap.size, 0, none⟩ (.slice na nn nc)).setCell ⟨x12.heap.size, 1, none⟩ (.int .i64 b.valid)).setCell ⟨x12.heap.size, 2, none⟩ (.int .i64 b.next)).setCell ⟨x12.heap.size, 3, none⟩ (.int .i64 b.seq)).setCell ⟨x12.heap.size, 4, none⟩ (.slice none 0 0)).setCell ⟨x12.heap.size, 5, none⟩ (.slice ga gn gc)).setCell ⟨x12.heap.size, 6, none⟩ (.int .i64 b.lost)) := (((((((D16.out.setCell (p := ⟨x12.heap.size, 0, none⟩) (show w0.heap.size ≤ x12.heap.size from D12.out.size) (.slice na nn nc)).setCell (p := ⟨x12.heap.size, 1, none⟩) (show w0.heap.size ≤ x12.heap.size from D12.out.size) (.int .i64 b.valid)).setCell (p := ⟨x12.heap.size, 2, none⟩) (show w0.heap.size ≤ x12.heap.size from D12.out.size) (.int .i64 b.next)).setCell (p := ⟨x12.heap.size, 3, none⟩) (show w0.heap.size ≤ x12.heap.size from D12.out.size) (.int .i64 b.seq)).setCell (p := ⟨x12.heap.size, 4, none⟩) (show w0.heap.size ≤ x12.heap.size from D12.out.size) (.slice none 0 0)).setCell (p := ⟨x12.heap.size, 5, none⟩) (show w0.heap.size ≤ x12.heap.size from D12.out.size) (.slice ga gn gc)).setCell (p := ⟨x12.heap.size, 6, none⟩) (show w0.heap.size ≤ x12.heap.size from D12.out.size) (.int .i64 b.lost))
            have hoth : ∀ k, k ≠ x12.heap.size → (((((((x16.setCell ⟨x12.heap.size, 0, none⟩ (.slice na nn nc)).setCell ⟨x12.heap.size, 1, none⟩ (.int .i64 b.valid)).setCell ⟨x12.heap.size, 2, none⟩ (.int .i64 b.next)).setCell ⟨x12.heap.size, 3, none⟩ (.int .i64 b.seq)).setCell ⟨x12.heap.size, 4, none⟩ (.slice none 0 0)).setCell ⟨x12.heap.size, 5, none⟩ (.slice ga gn gc)).setCell ⟨x12.heap.size, 6, none⟩ (.int .i64 b.lost)).heap[k]? = x16.heap[k]? := fun k hk => by rw [Below.heap_setCell _ _ _ _ (show k ≠ x12.heap.size from hk), Below.heap_setCell _ _ _ _ (show k ≠ x12.heap.size from hk), Below.heap_setCell _ _ _ _ (show k ≠ x12.heap.size from hk), Below.heap_setCell _ _ _ _ (show k ≠ x12.heap.size from hk), Below.heap_setCell _ _ _ _ (show k ≠ x12.heap.size from hk), Below.heap_setCell _ _ _ _ (show k ≠ x12.heap.size from hk), Below.heap_setCell _ _ _ _ (show k ≠ x12.heap.size from hk)]
            have RF : RO (((((((x16.setCell ⟨x12.heap.size, 0, none⟩ (.slice na nn nc)).setCell ⟨x12.heap.size, 1, none⟩ (.int .i64 b.valid)).setCell ⟨x12.heap.size, 2, none⟩ (.int .i64 b.next)).setCell ⟨x12.heap.size, 3, none⟩ (.int .i64 b.seq)).setCell ⟨x12.heap.size, 4, none⟩ (.slice none 0 0)).setCell ⟨x12.heap.size, 5, none⟩ (.slice ga gn gc)).setCell ⟨x12.heap.size, 6, none⟩ (.int .i64 b.lost)) (fun k => N ≤ k) (.slice na nn nc) b.name := ro_oth Frn16.out (fun k hk => hoth k fun e => by subst e; exact ty_ne Fkx16.out hk (by decide))
            have GF : GonesO (((((((x16.setCell ⟨x12.heap.size, 0, none⟩ (.slice na nn nc)).setCell ⟨x12.heap.size, 1, none⟩ (.int .i64 b.valid)).setCell ⟨x12.heap.size, 2, none⟩ (.int .i64 b.next)).setCell ⟨x12.heap.size, 3, none⟩ (.int .i64 b.seq)).setCell ⟨x12.heap.size, 4, none⟩ (.slice none 0 0)).setCell ⟨x12.heap.size, 5, none⟩ (.slice ga gn gc)).setCell ⟨x12.heap.size, 6, none⟩ (.int .i64 b.lost)) (fun k => N ≤ k) (.slice ga gn gc) b.gones := gones_oth Frg16.out (fun k hk => hoth k fun e => by subst e; exact ty_ne Fkx16.out hk (by decide))
            go_simp
            refine hK.out _ _ (HS.out _ DF) (fun hHeld => ?_)
            clear hK K
            refine wpAnyH_done (by kernel_rfl) ?_ _
            go_wp2
            go_meet
            case rel => exact ⟨_, _, _, _, _, _, _, rfl, KF, RF, GF, hN12, DF⟩
        · go_simp
          have AB : Below x11.heap.size x11 (x11.alloc (.cells #[.slice none 0 0, .int .i64 0, .int .i64 0, .int .i64 0, .slice none 0 0, .slice none 0 0, .int .i64 0] 31)) := (Below.refl _ _).alloc (Nat.le_refl _) _
          have D17 : Hid (Below w0.heap.size w0 (x11.alloc (.cells #[.slice none 0 0, .int .i64 0, .int .i64 0, .int .i64 0, .slice none 0 0, .slice none 0 0, .int .i64 0] 31))) := Below.step D11.out AB
          have hN17 : N ≤ (x11.alloc (.cells #[.slice none 0 0, .int .i64 0, .int .i64 0, .int .i64 0, .slice none 0 0, .slice none 0 0, .int .i64 0] 31)).heap.size := Nat.le_trans hN11 AB.size
          have Fn017 : Hid _ := own_below Fn011.out AB
          have Fg017 : Hid _ := own_below Fg011.out AB
          have Fkx17 : Hid ((x11.alloc (.cells #[.slice none 0 0, .int .i64 0, .int .i64 0, .int .i64 0, .slice none 0 0, .slice none 0 0, .int .i64 0] 31)).heap[x11.heap.size]? = some (.cells #[.slice none 0 0, .int .i64 0, .int .i64 0, .int .i64 0, .slice none 0 0, .slice none 0 0, .int .i64 0] 31 (0, 0))) := box_new x11 _
          refine hK.out _ _ (HS.out _ D17.out) (fun hHeld => ?_)
          clear hK K AB
          generalize hw17 : x11.alloc (.cells #[.slice none 0 0, .int .i64 0, .int .i64 0, .int .i64 0, .slice none 0 0, .slice none 0 0, .int .i64 0] 31) = x17 at *
          clear hw17
          refine wpAnyH_ready (rs := [3]) (by kernel_rfl) (by simp) ?_
          refine AllReadyH.cons rfl (fun K hK => ?_) AllReadyH.nil
          refine ite_w (by kernel_rfl) (wp_cat (B := N) 9 rfl (.tmp 6) (.tmp 8) rfl Fn017.out (Bs.rd1 (HNM.out _ D17.out)) (one_byte _) Try.underlying22 hi hz0 hz1 hz2 rfl (by omega) rfl rfl hl1 hl2 hN17 ?_)
          intro V18 x18 xs18 hO18 hX18 hG18 hB18
          have hG'18 : x17.grownBy x18 (some (x0.heap.size)) := hG18
          have D18 : Hid (Below w0.heap.size w0 x18) := below_gr0 D17.out hG'18 (show w0.heap.size ≤ x0.heap.size from (D0.out.size))
          have hN18 : N ≤ x18.heap.size := Nat.le_trans hN17 hG'18.size
          have KE18 := own_ty Fn017.out
          have Fg018 : Hid _ := own_grT Fg017.out hG'18 KE18 (by decide)
          have Fkx18 : Hid _ := box_grT hG'18 Fkx17.out KE18 (by decide)
          have hR18 : RO x18 (fun k => N ≤ k) V18 b.name := ro_of HNM0.out hO18 hX18 (fun g hg => own_ge hO18 hg)
          obtain ⟨na, nn, nc, hV18⟩ := hR18.bs.form3
          subst hV18
          have Frn18 : Hid (RO x18 (fun k => N ≤ k) (.slice na nn nc) b.name) := hR18
          refine hK.out _ _ (HS.out _ D18.out) (fun hHeld => ?_)
          clear hK K hO18 hX18 hG18 hG'18 hB18 KE18 hR18
          conv => arg 8; simp only [Act.put, sA, s0, sS]
          refine wpAnyH_ready (rs := [13]) (by kernel_rfl) (by simp) ?_
          refine AllReadyH.cons rfl (fun K hK => ?_) AllReadyH.nil
          refine ite_w (by kernel_rfl) (wp_cat (B := N) 19 rfl (.tmp 16) (.tmp 18) rfl Fg018.out (HGN.out _ D18.out) (one_gone _) Try.underlying29 hj hy0 hy1 hy2 rfl (by omega) rfl rfl hl3 hl4 hN18 ?_)
          intro V19 x19 xs19 hO19 hX19 hG19 hB19
          have hG'19 : x18.grownBy x19 (some (x1.heap.size)) := hG19
          have D19 : Hid (Below w0.heap.size w0 x19) := below_gr0 D18.out hG'19 (show w0.heap.size ≤ x1.heap.size from (D1.out.size))
          have hN19 : N ≤ x19.heap.size := Nat.le_trans hN18 hG'19.size
          have KE19 := own_ty Fg018.out
          have Frn19 : Hid (RO x19 (fun k => N ≤ k) (.slice na nn nc) b.name) := ro_grT Frn18.out hG'19 KE19 (by decide)
          have Fkx19 : Hid _ := box_grT hG'19 Fkx18.out KE19 (by decide)
          have hR19 : GonesO x19 (fun k => N ≤ k) V19 b.gones := gones_of hO19 hX19 (fun g hg => own_ge hO19 hg)
          obtain ⟨ga, gn, gc, hV19⟩ := OwF.form3 hR19
          subst hV19
          have Frg19 : Hid (GonesO x19 (fun k => N ≤ k) (.slice ga gn gc) b.gones) := hR19
          refine hK.out _ _ (HS.out _ D19.out) (fun hHeld => ?_)
          clear hK K hO19 hX19 hG19 hG'19 hB19 KE19 hR19
          conv => arg 8; simp only [Act.put, sA, s0, sS]
          refine tq 16 22 hHeld ?_
          refine wpAnyH_ready (rs := [18]) (by kernel_rfl) (by simp) ?_
          refine AllReadyH.cons rfl (fun K hK => ?_) AllReadyH.nil
          obtain ⟨zx, zl⟩ := box8z Fkx19.out
          obtain ⟨q0, q1, q2, q3, q4, q5, q6⟩ := bx7 Fkx19.out
          have KF : (((((((x19.setCell ⟨x11.heap.size, 0, none⟩ (.slice na nn nc)).setCell ⟨x11.heap.size, 1, none⟩ (.int .i64 b.valid)).setCell ⟨x11.heap.size, 2, none⟩ (.int .i64 b.next)).setCell ⟨x11.heap.size, 3, none⟩ (.int .i64 b.seq)).setCell ⟨x11.heap.size, 4, none⟩ (.slice none 0 0)).setCell ⟨x11.heap.size, 5, none⟩ (.slice ga gn gc)).setCell ⟨x11.heap.size, 6, none⟩ (.int .i64 b.lost)).heap[x11.heap.size]? = some (.cells #[.slice na nn nc, .int .i64 b.valid, .int .i64 b.next, .int .i64 b.seq, .slice none 0 0, .slice ga gn gc, .int .i64 b.lost] 31 (0, 0)) := (box_set (i := 6) (v := .int .i64 b.lost) (box_set (i := 5) (v := .slice ga gn gc) (box_set (i := 4) (v := .slice none 0 0) (box_set (i := 3) (v := .int .i64 b.seq) (box_set (i := 2) (v := .int .i64 b.next) (box_set (i := 1) (v := .int .i64 b.valid) (box_set (i := 0) (v := .slice na nn nc) Fkx19.out)))))))
          have DF : Below w0.heap.size w0 (((((((x19.setCell ⟨x11.heap.size, 0, none⟩ (.slice na nn nc)).setCell ⟨x11.heap.size, 1, none⟩ (.int .i64 b.valid)).setCell ⟨x11.heap.size, 2, none⟩ (.int .i64 b.next)).setCell ⟨x11.heap.size, 3, none⟩ (.int .i64 b.seq)).setCell ⟨x11.heap.size, 4, none⟩ (.slice none 0 0)).setCell ⟨x11.heap.size, 5, none⟩ (.slice ga gn gc)).setCell ⟨x11.heap.size, 6, none⟩ (.int .i64 b.lost)) := (((((((D19.out.setCell (p := ⟨x11.heap.size, 0, none⟩) (show w0.heap.size ≤ x11.heap.size from D11.out.size) (.slice na nn nc)).setCell (p := ⟨x11.heap.size, 1, none⟩) (show w0.heap.size ≤ x11.heap.size from D11.out.size) (.int .i64 b.valid)).setCell (p := ⟨x11.heap.size, 2, none⟩) (show w0.heap.size ≤ x11.heap.size from D11.out.size) (.int .i64 b.next)).setCell (p := ⟨x11.heap.size, 3, none⟩) (show w0.heap.size ≤ x11.heap.size from D11.out.size) (.int .i64 b.seq)).setCell (p := ⟨x11.heap.size, 4, none⟩) (show w0.heap.size ≤ x11.heap.size from D11.out.size) (.slice none 0 0)).setCell (p := ⟨x11.heap.size, 5, none⟩) (show w0.heap.size ≤ x11.heap.size from D11.out.size) (.slice ga gn gc)).setCell (p := ⟨x11.heap.size, 6, none⟩) (show w0.heap.size ≤ x11.heap.size from D11.out.size) (.int .i64 b.lost))
          have hoth : ∀ k, k ≠ x11.heap.size → (((((((x19.setCell ⟨x11.heap.size, 0, none⟩ (.slice na nn nc)).setCell ⟨x11.heap.size, 1, none⟩ (.int .i64 b.valid)).setCell ⟨x11.heap.size, 2, none⟩ (.int .i64 b.next)).setCell ⟨x11.heap.size, 3, none⟩ (.int .i64 b.seq)).setCell ⟨x11.heap.size, 4, none⟩ (.slice none 0 0)).setCell ⟨x11.heap.size, 5, none⟩ (.slice ga gn gc)).setCell ⟨x11.heap.size, 6, none⟩ (.int .i64 b.lost)).heap[k]? = x19.heap[k]? := fun k hk => by rw [Below.heap_setCell _ _ _ _ (show k ≠ x11.heap.size from hk), Below.heap_setCell _ _ _ _ (show k ≠ x11.heap.size from hk), Below.heap_setCell _ _ _ _ (show k ≠ x11.heap.size from hk), Below.heap_setCell _ _ _ _ (show k ≠ x11.heap.size from hk), Below.heap_setCell _ _ _ _ (show k ≠ x11.heap.size from hk), Below.heap_setCell _ _ _ _ (show k ≠ x11.heap.size from hk), Below.heap_setCell _ _ _ _ (show k ≠ x11.heap.size from hk)]
          have RF : RO (((((((x19.setCell ⟨x11.heap.size, 0, none⟩ (.slice na nn nc)).setCell ⟨x11.heap.size, 1, none⟩ (.int .i64 b.valid)).setCell ⟨x11.heap.size, 2, none⟩ (.int .i64 b.next)).setCell ⟨x11.heap.size, 3, none⟩ (.int .i64 b.seq)).setCell ⟨x11.heap.size, 4, none⟩ (.slice none 0 0)).setCell ⟨x11.heap.size, 5, none⟩ (.slice ga gn gc)).setCell ⟨x11.heap.size, 6, none⟩ (.int .i64 b.lost)) (fun k => N ≤ k) (.slice na nn nc) b.name := ro_oth Frn19.out (fun k hk => hoth k fun e => by subst e; exact ty_ne Fkx19.out hk (by decide))
          have GF : GonesO (((((((x19.setCell ⟨x11.heap.size, 0, none⟩ (.slice na nn nc)).setCell ⟨x11.heap.size, 1, none⟩ (.int .i64 b.valid)).setCell ⟨x11.heap.size, 2, none⟩ (.int .i64 b.next)).setCell ⟨x11.heap.size, 3, none⟩ (.int .i64 b.seq)).setCell ⟨x11.heap.size, 4, none⟩ (.slice none 0 0)).setCell ⟨x11.heap.size, 5, none⟩ (.slice ga gn gc)).setCell ⟨x11.heap.size, 6, none⟩ (.int .i64 b.lost)) (fun k => N ≤ k) (.slice ga gn gc) b.gones := gones_oth Frg19.out (fun k hk => hoth k fun e => by subst e; exact ty_ne Fkx19.out hk (by decide))
          go_simp
          refine hK.out _ _ (HS.out _ DF) (fun hHeld => ?_)
          clear hK K
          refine wpAnyH_done (by kernel_rfl) ?_ _
          go_wp2
          go_meet
          case rel => exact ⟨_, _, _, _, _, _, _, rfl, KF, RF, GF, hN11, DF⟩
      · go_simp
        have AB : Below x1.heap.size x1 (x1.alloc (.cells #[.slice none 0 0, .int .i64 0, .int .i64 0, .int .i64 0, .slice none 0 0, .slice none 0 0, .int .i64 0] 31)) := (Below.refl _ _).alloc (Nat.le_refl _) _
        have D20 : Hid (Below w0.heap.size w0 (x1.alloc (.cells #[.slice none 0 0, .int .i64 0, .int .i64 0, .int .i64 0, .slice none 0 0, .slice none 0 0, .int .i64 0] 31))) := Below.step D1.out AB
        have hN20 : N ≤ (x1.alloc (.cells #[.slice none 0 0, .int .i64 0, .int .i64 0, .int .i64 0, .slice none 0 0, .slice none 0 0, .int .i64 0] 31)).heap.size := Nat.le_trans hN1 AB.size
        have Fn020 : Hid _ := own_below Fn01.out AB
        have Fkx20 : Hid ((x1.alloc (.cells #[.slice none 0 0, .int .i64 0, .int .i64 0, .int .i64 0, .slice none 0 0, .slice none 0 0, .int .i64 0] 31)).heap[x1.heap.size]? = some (.cells #[.slice none 0 0, .int .i64 0, .int .i64 0, .int .i64 0, .slice none 0 0, .slice none 0 0, .int .i64 0] 31 (0, 0))) := box_new x1 _
        refine hK.out _ _ (HS.out _ D20.out) (fun hHeld => ?_)
        clear hK K AB
        generalize hw20 : x1.alloc (.cells #[.slice none 0 0, .int .i64 0, .int .i64 0, .int .i64 0, .slice none 0 0, .slice none 0 0, .int .i64 0] 31) = x20 at *
        clear hw20
        refine wpAnyH_ready (rs := [3, 10]) (by kernel_rfl) (by simp) ?_
        refine AllReadyH.cons rfl (fun K hK => ?_) (AllReadyH.cons rfl (fun K hK => ?_) AllReadyH.nil)
        · refine ite_w (by kernel_rfl) (wp_cat (B := N) 9 rfl (.tmp 6) (.tmp 8) rfl Fn020.out (Bs.rd1 (HNM.out _ D20.out)) (one_byte _) Try.underlying22 hi hz0 hz1 hz2 rfl (by omega) rfl rfl hl1 hl2 hN20 ?_)
          intro V21 x21 xs21 hO21 hX21 hG21 hB21
          have hG'21 : x20.grownBy x21 (some (x0.heap.size)) := hG21
          have D21 : Hid (Below w0.heap.size w0 x21) := below_gr0 D20.out hG'21 (show w0.heap.size ≤ x0.heap.size from (D0.out.size))
          have hN21 : N ≤ x21.heap.size := Nat.le_trans hN20 hG'21.size
          have KE21 := own_ty Fn020.out
          have Fkx21 : Hid _ := box_grT hG'21 Fkx20.out KE21 (by decide)
          have hR21 : RO x21 (fun k => N ≤ k) V21 b.name := ro_of HNM0.out hO21 hX21 (fun g hg => own_ge hO21 hg)
          obtain ⟨na, nn, nc, hV21⟩ := hR21.bs.form3
          subst hV21
          have Frn21 : Hid (RO x21 (fun k => N ≤ k) (.slice na nn nc) b.name) := hR21
          refine hK.out _ _ (HS.out _ D21.out) (fun hHeld => ?_)
          clear hK K hO21 hX21 hG21 hG'21 hB21 KE21 hR21
          conv => arg 8; simp only [Act.put, sA, s0, sS]
          refine wpAnyH_ready (rs := [10]) (by kernel_rfl) (by simp) ?_
          refine AllReadyH.cons rfl (fun K hK => ?_) AllReadyH.nil
          go_simp
          have AB : Below x21.heap.size x21 (x21.alloc (.cells #[] 53)) := (Below.refl _ _).alloc (Nat.le_refl _) _
          have D22 : Hid (Below w0.heap.size w0 (x21.alloc (.cells #[] 53))) := Below.step D21.out AB
          have hN22 : N ≤ (x21.alloc (.cells #[] 53)).heap.size := Nat.le_trans hN21 AB.size
          have Frn22 : Hid (RO (x21.alloc (.cells #[] 53)) (fun k => N ≤ k) (.slice na nn nc) b.name) := Frn21.out.below AB
          have Fkx22 : Hid _ := box_below AB Fkx21.out
          have Fg022 : Hid _ := owns_empty x21 53 2 N hN21
          refine hK.out _ _ (HS.out _ D22.out) (fun hHeld => ?_)
          clear hK K AB
          generalize hw22 : x21.alloc (.cells #[] 53) = x22 at *
          clear hw22
          refine wpAnyH_ready (rs := [13]) (by kernel_rfl) (by simp) ?_
          refine AllReadyH.cons rfl (fun K hK => ?_) AllReadyH.nil
          refine ite_w (by kernel_rfl) (wp_cat (B := N) 19 rfl (.tmp 16) (.tmp 18) rfl Fg022.out (HGN.out _ D22.out) (one_gone _) Try.underlying29 hj hy0 hy1 hy2 rfl (by omega) rfl rfl hl3 hl4 hN22 ?_)
          intro V23 x23 xs23 hO23 hX23 hG23 hB23
          have hG'23 : x22.grownBy x23 (some (x21.heap.size)) := hG23
          have D23 : Hid (Below w0.heap.size w0 x23) := below_gr0 D22.out hG'23 (show w0.heap.size ≤ x21.heap.size from (D21.out.size))
          have hN23 : N ≤ x23.heap.size := Nat.le_trans hN22 hG'23.size
          have KE23 := own_ty Fg022.out
          have Frn23 : Hid (RO x23 (fun k => N ≤ k) (.slice na nn nc) b.name) := ro_grT Frn22.out hG'23 KE23 (by decide)
          have Fkx23 : Hid _ := box_grT hG'23 Fkx22.out KE23 (by decide)
          have hR23 : GonesO x23 (fun k => N ≤ k) V23 b.gones := gones_of hO23 hX23 (fun g hg => own_ge hO23 hg)
          obtain ⟨ga, gn, gc, hV23⟩ := OwF.form3 hR23
          subst hV23
          have Frg23 : Hid (GonesO x23 (fun k => N ≤ k) (.slice ga gn gc) b.gones) := hR23
          refine hK.out _ _ (HS.out _ D23.out) (fun hHeld => ?_)
          clear hK K hO23 hX23 hG23 hG'23 hB23 KE23 hR23
          conv => arg 8; simp only [Act.put, sA, s0, sS]
          refine tq 16 22 hHeld ?_
          refine wpAnyH_ready (rs := [18]) (by kernel_rfl) (by simp) ?_
          refine AllReadyH.cons rfl (fun K hK => ?_) AllReadyH.nil
          obtain ⟨zx, zl⟩ := box8z Fkx23.out
          obtain ⟨q0, q1, q2, q3, q4, q5, q6⟩ := bx7 Fkx23.out
          have KF : (((((((x23.setCell ⟨x1.heap.size, 0, none⟩ (.slice na nn nc)).setCell ⟨x1.heap.size, 1, none⟩ (.int .i64 b.valid)).setCell ⟨x1.heap.size, 2, none⟩ (.int .i64 b.next)).setCell ⟨x1.heap.size, 3, none⟩ (.int .i64 b.seq)).setCell ⟨x1.heap.size, 4, none⟩ (.slice none 0 0)).setCell ⟨x1.heap.size, 5, none⟩ (.slice ga gn gc)).setCell ⟨x1.heap.size, 6, none⟩ (.int .i64 b.lost)).heap[x1.heap.size]? = some (.cells #[.slice na nn nc, .int .i64 b.valid, .int .i64 b.next, .int .i64 b.seq, .slice none 0 0, .slice ga gn gc, .int .i64 b.lost] 31 (0, 0)) := (box_set (i := 6) (v := .int .i64 b.lost) (box_set (i := 5) (v := .slice ga gn gc) (box_set (i := 4) (v := .slice none 0 0) (box_set (i := 3) (v := .int .i64 b.seq) (box_set (i := 2) (v := .int .i64 b.next) (box_set (i := 1) (v := .int .i64 b.valid) (box_set (i := 0) (v := .slice na nn nc) Fkx23.out)))))))
          have DF : Below w0.heap.size w0 (((((((x23.setCell ⟨x1.heap.size, 0, none⟩ (.slice na nn nc)).setCell ⟨x1.heap.size, 1, none⟩ (.int .i64 b.valid)).setCell ⟨x1.heap.size, 2, none⟩ (.int .i64 b.next)).setCell ⟨x1.heap.size, 3, none⟩ (.int .i64 b.seq)).setCell ⟨x1.heap.size, 4, none⟩ (.slice none 0 0)).setCell ⟨x1.heap.size, 5, none⟩ (.slice ga gn gc)).setCell ⟨x1.heap.size, 6, none⟩ (.int .i64 b.lost)) := (((((((D23.out.setCell (p := ⟨x1.heap.size, 0, none⟩) (show w0.heap.size ≤ x1.heap.size from D1.out.size) (.slice na nn nc)).setCell (p := ⟨x1.heap.size, 1, none⟩) (show w0.heap.size ≤ x1.heap.size from D1.out.size) (.int .i64 b.valid)).setCell (p := ⟨x1.heap.size, 2, none⟩) (show w0.heap.size ≤ x1.heap.size from D1.out.size) (.int .i64 b.next)).setCell (p := ⟨x1.heap.size, 3, none⟩) (show w0.heap.size ≤ x1.heap.size from D1.out.size) (.int .i64 b.seq)).setCell (p := ⟨x1.heap.size, 4, none⟩) (show w0.heap.size ≤ x1.heap.size from D1.out.size) (.slice none 0 0)).setCell (p := ⟨x1.heap.size, 5, none⟩) (show w0.heap.size ≤ x1.heap.size from D1.out.size) (.slice ga gn gc)).setCell (p := ⟨x1.heap.size, 6, none⟩) (show w0.heap.size ≤ x1.heap.size from D1.out.size) (.int .i64 b.lost))
          have hoth : ∀ k, k ≠ x1.heap.size → (((((((x23.setCell ⟨x1.heap.size, 0, none⟩ (.slice na nn nc)).setCell ⟨x1.heap.size, 1, none⟩ (.int .i64 b.valid)).setCell ⟨x1.heap.size, 2, none⟩ (.int .i64 b.next)).setCell ⟨x1.heap.size, 3, none⟩ (.int .i64 b.seq)).setCell ⟨x1.heap.size, 4, none⟩ (.slice none 0 0)).setCell ⟨x1.heap.size, 5, none⟩ (.slice ga gn gc)).setCell ⟨x1.heap.size, 6, none⟩ (.int .i64 b.lost)).heap[k]? = x23.heap[k]? := fun k hk => by rw [Below.heap_setCell _ _ _ _ (show k ≠ x1.heap.size from hk), Below.heap_setCell _ _ _ _ (show k ≠ x1.heap.size from hk), Below.heap_setCell _ _ _ _ (show k ≠ x1.heap.size from hk), Below.heap_setCell _ _ _ _ (show k ≠ x1.heap.size from hk), Below.heap_setCell _ _ _ _ (show k ≠ x1.heap.size from hk), Below.heap_setCell _ _ _ _ (show k ≠ x1.heap.size from hk), Below.heap_setCell _ _ _ _ (show k ≠ x1.heap.size from hk)]
          have RF : RO (((((((x23.setCell ⟨x1.heap.size, 0, none⟩ (.slice na nn nc)).setCell ⟨x1.heap.size, 1, none⟩ (.int .i64 b.valid)).setCell ⟨x1.heap.size, 2, none⟩ (.int .i64 b.next)).setCell ⟨x1.heap.size, 3, none⟩ (.int .i64 b.seq)).setCell ⟨x1.heap.size, 4, none⟩ (.slice none 0 0)).setCell ⟨x1.heap.size, 5, none⟩ (.slice ga gn gc)).setCell ⟨x1.heap.size, 6, none⟩ (.int .i64 b.lost)) (fun k => N ≤ k) (.slice na nn nc) b.name := ro_oth Frn23.out (fun k hk => hoth k fun e => by subst e; exact ty_ne Fkx23.out hk (by decide))
          have GF : GonesO (((((((x23.setCell ⟨x1.heap.size, 0, none⟩ (.slice na nn nc)).setCell ⟨x1.heap.size, 1, none⟩ (.int .i64 b.valid)).setCell ⟨x1.heap.size, 2, none⟩ (.int .i64 b.next)).setCell ⟨x1.heap.size, 3, none⟩ (.int .i64 b.seq)).setCell ⟨x1.heap.size, 4, none⟩ (.slice none 0 0)).setCell ⟨x1.heap.size, 5, none⟩ (.slice ga gn gc)).setCell ⟨x1.heap.size, 6, none⟩ (.int .i64 b.lost)) (fun k => N ≤ k) (.slice ga gn gc) b.gones := gones_oth Frg23.out (fun k hk => hoth k fun e => by subst e; exact ty_ne Fkx23.out hk (by decide))
          go_simp
          refine hK.out _ _ (HS.out _ DF) (fun hHeld => ?_)
          clear hK K
          refine wpAnyH_done (by kernel_rfl) ?_ _
          go_wp2
          go_meet
          case rel => exact ⟨_, _, _, _, _, _, _, rfl, KF, RF, GF, hN1, DF⟩
        · go_simp
          have AB : Below x20.heap.size x20 (x20.alloc (.cells #[] 53)) := (Below.refl _ _).alloc (Nat.le_refl _) _
          have D24 : Hid (Below w0.heap.size w0 (x20.alloc (.cells #[] 53))) := Below.step D20.out AB
          have hN24 : N ≤ (x20.alloc (.cells #[] 53)).heap.size := Nat.le_trans hN20 AB.size
          have Fn024 : Hid _ := own_below Fn020.out AB
          have Fkx24 : Hid _ := box_below AB Fkx20.out
          have Fg024 : Hid _ := owns_empty x20 53 2 N hN20
          refine hK.out _ _ (HS.out _ D24.out) (fun hHeld => ?_)
          clear hK K AB
          generalize hw24 : x20.alloc (.cells #[] 53) = x24 at *
          clear hw24
          refine wpAnyH_ready (rs := [3]) (by kernel_rfl) (by simp) ?_
          refine AllReadyH.cons rfl (fun K hK => ?_) AllReadyH.nil
          refine ite_w (by kernel_rfl) (wp_cat (B := N) 9 rfl (.tmp 6) (.tmp 8) rfl Fn024.out (Bs.rd1 (HNM.out _ D24.out)) (one_byte _) Try.underlying22 hi hz0 hz1 hz2 rfl (by omega) rfl rfl hl1 hl2 hN24 ?_)
          intro V25 x25 xs25 hO25 hX25 hG25 hB25
          have hG'25 : x24.grownBy x25 (some (x0.heap.size)) := hG25
          have D25 : Hid (Below w0.heap.size w0 x25) := below_gr0 D24.out hG'25 (show w0.heap.size ≤ x0.heap.size from (D0.out.size))
          have hN25 : N ≤ x25.heap.size := Nat.le_trans hN24 hG'25.size
          have KE25 := own_ty Fn024.out
          have Fg025 : Hid _ := own_grT Fg024.out hG'25 KE25 (by decide)
          have Fkx25 : Hid _ := box_grT hG'25 Fkx24.out KE25 (by decide)
          have hR25 : RO x25 (fun k => N ≤ k) V25 b.name := ro_of HNM0.out hO25 hX25 (fun g hg => own_ge hO25 hg)
          obtain ⟨na, nn, nc, hV25⟩ := hR25.bs.form3
          subst hV25
          have Frn25 : Hid (RO x25 (fun k => N ≤ k) (.slice na nn nc) b.name) := hR25
          refine hK.out _ _ (HS.out _ D25.out) (fun hHeld => ?_)
          clear hK K hO25 hX25 hG25 hG'25 hB25 KE25 hR25
          conv => arg 8; simp only [Act.put, sA, s0, sS]
          refine wpAnyH_ready (rs := [13]) (by kernel_rfl) (by simp) ?_
          refine AllReadyH.cons rfl (fun K hK => ?_) AllReadyH.nil
          refine ite_w (by kernel_rfl) (wp_cat (B := N) 19 rfl (.tmp 16) (.tmp 18) rfl Fg025.out (HGN.out _ D25.out) (one_gone _) Try.underlying29 hj hy0 hy1 hy2 rfl (by omega) rfl rfl hl3 hl4 hN25 ?_)
          intro V26 x26 xs26 hO26 hX26 hG26 hB26
          have hG'26 : x25.grownBy x26 (some (x20.heap.size)) := hG26
          have D26 : Hid (Below w0.heap.size w0 x26) := below_gr0 D25.out hG'26 (show w0.heap.size ≤ x20.heap.size from (D20.out.size))
          have hN26 : N ≤ x26.heap.size := Nat.le_trans hN25 hG'26.size
          have KE26 := own_ty Fg025.out
          have Frn26 : Hid (RO x26 (fun k => N ≤ k) (.slice na nn nc) b.name) := ro_grT Frn25.out hG'26 KE26 (by decide)
          have Fkx26 : Hid _ := box_grT hG'26 Fkx25.out KE26 (by decide)
          have hR26 : GonesO x26 (fun k => N ≤ k) V26 b.gones := gones_of hO26 hX26 (fun g hg => own_ge hO26 hg)
          obtain ⟨ga, gn, gc, hV26⟩ := OwF.form3 hR26
          subst hV26
          have Frg26 : Hid (GonesO x26 (fun k => N ≤ k) (.slice ga gn gc) b.gones) := hR26
          refine hK.out _ _ (HS.out _ D26.out) (fun hHeld => ?_)
          clear hK K hO26 hX26 hG26 hG'26 hB26 KE26 hR26
          conv => arg 8; simp only [Act.put, sA, s0, sS]
          refine tq 16 22 hHeld ?_
          refine wpAnyH_ready (rs := [18]) (by kernel_rfl) (by simp) ?_
          refine AllReadyH.cons rfl (fun K hK => ?_) AllReadyH.nil
          obtain ⟨zx, zl⟩ := box8z Fkx26.out
          obtain ⟨q0, q1, q2, q3, q4, q5, q6⟩ := bx7 Fkx26.out
          have KF : (((((((x26.setCell ⟨x1.heap.size, 0, none⟩ (.slice na nn nc)).setCell ⟨x1.heap.size, 1, none⟩ (.int .i64 b.valid)).setCell ⟨x1.heap.size, 2, none⟩ (.int .i64 b.next)).setCell ⟨x1.heap.size, 3, none⟩ (.int .i64 b.seq)).setCell ⟨x1.heap.size, 4, none⟩ (.slice none 0 0)).setCell ⟨x1.heap.size, 5, none⟩ (.slice ga gn gc)).setCell ⟨x1.heap.size, 6, none⟩ (.int .i64 b.lost)).heap[x1.heap.size]? = some (.cells #[.slice na nn nc, .int .i64 b.valid, .int .i64 b.next, .int .i64 b.seq, .slice none 0 0, .slice ga gn gc, .int .i64 b.lost] 31 (0, 0)) := (box_set (i := 6) (v := .int .i64 b.lost) (box_set (i := 5) (v := .slice ga gn gc) (box_set (i := 4) (v := .slice none 0 0) (box_set (i := 3) (v := .int .i64 b.seq) (box_set (i := 2) (v := .int .i64 b.next) (box_set (i := 1) (v := .int .i64 b.valid) (box_set (i := 0) (v := .slice na nn nc) Fkx26.out)))))))
          have DF : Below w0.heap.size w0 (((((((x26.setCell ⟨x1.heap.size, 0, none⟩ (.slice na nn nc)).setCell ⟨x1.heap.size, 1, none⟩ (.int .i64 b.valid)).setCell ⟨x1.heap.size, 2, none⟩ (.int .i64 b.next)).setCell ⟨x1.heap.size, 3, none⟩ (.int .i64 b.seq)).setCell ⟨x1.heap.size, 4, none⟩ (.slice none 0 0)).setCell ⟨x1.heap.size, 5, none⟩ (.slice ga gn gc)).setCell ⟨x1.heap.size, 6, none⟩ (.int .i64 b.lost)) := (((((((D26.out.setCell (p := ⟨x1.heap.size, 0, none⟩) (show w0.heap.size ≤ x1.heap.size from D1.out.size) (.slice na nn nc)).setCell (p := ⟨x1.heap.size, 1, none⟩) (show w0.heap.size ≤ x1.heap.size from D1.out.size) (.int .i64 b.valid)).setCell (p := ⟨x1.heap.size, 2, none⟩) (show w0.heap.size ≤ x1.heap.size from D1.out.size) (.int .i64 b.next)).setCell (p := ⟨x1.heap.size, 3, none⟩) (show w0.heap.size ≤ x1.heap.size from D1.out.size) (.int .i64 b.seq)).setCell (p := ⟨x1.heap.size, 4, none⟩) (show w0.heap.size ≤ x1.heap.size from D1.out.size) (.slice none 0 0)).setCell (p := ⟨x1.heap.size, 5, none⟩) (show w0.heap.size ≤ x1.heap.size from D1.out.size) (.slice ga gn gc)).setCell (p := ⟨x1.heap.size, 6, none⟩) (show w0.heap.size ≤ x1.heap.size from D1.out.size) (.int .i64 b.lost))
          have hoth : ∀ k, k ≠ x1.heap.size → (((((((x26.setCell ⟨x1.heap.size, 0, none⟩ (.slice na nn nc)).setCell ⟨x1.heap.size, 1, none⟩ (.int .i64 b.valid)).setCell ⟨x1.heap.size, 2, none⟩ (.int .i64 b.next)).setCell ⟨x1.heap.size, 3, none⟩ (.int .i64 b.seq)).setCell ⟨x1.heap.size, 4, none⟩ (.slice none 0 0)).setCell ⟨x1.heap.size, 5, none⟩ (.slice ga gn gc)).setCell ⟨x1.heap.size, 6, none⟩ (.int .i64 b.lost)).heap[k]? = x26.heap[k]? := fun k hk => by rw [Below.heap_setCell _ _ _ _ (show k ≠ x1.heap.size from hk), Below.heap_setCell _ _ _ _ (show k ≠ x1.heap.size from hk), Below.heap_setCell _ _ _ _ (show k ≠ x1.heap.size from hk), Below.heap_setCell _ _ _ _ (show k ≠ x1.heap.size from hk), Below.heap_setCell _ _ _ _ (show k ≠ x1.heap.size from hk), Below.heap_setCell _ _ _ _ (show k ≠ x1.heap.size from hk), Below.heap_setCell _ _ _ _ (show k ≠ x1.heap.size from hk)]
          have RF : RO (((((((x26.setCell ⟨x1.heap.size, 0, none⟩ (.slice na nn nc)).setCell ⟨x1.heap.size, 1, none⟩ (.int .i64 b.valid)).setCell ⟨x1.heap.size, 2, none⟩ (.int .i64 b.next)).setCell ⟨x1.heap.size, 3, none⟩ (.int .i64 b.seq)).setCell ⟨x1.heap.size, 4, none⟩ (.slice none 0 0)).setCell ⟨x1.heap.size, 5, none⟩ (.slice ga gn gc)).setCell ⟨x1.heap.size, 6, none⟩ (.int .i64 b.lost)) (fun k => N ≤ k) (.slice na nn nc) b.name := ro_oth Frn26.out (fun k hk => hoth k fun e => by subst e; exact ty_ne Fkx26.out hk (by decide))
          have GF : GonesO (((((((x26.setCell ⟨x1.heap.size, 0, none⟩ (.slice na nn nc)).setCell ⟨x1.heap.size, 1, none⟩ (.int .i64 b.valid)).setCell ⟨x1.heap.size, 2, none⟩ (.int .i64 b.next)).setCell ⟨x1.heap.size, 3, none⟩ (.int .i64 b.seq)).setCell ⟨x1.heap.size, 4, none⟩ (.slice none 0 0)).setCell ⟨x1.heap.size, 5, none⟩ (.slice ga gn gc)).setCell ⟨x1.heap.size, 6, none⟩ (.int .i64 b.lost)) (fun k => N ≤ k) (.slice ga gn gc) b.gones := gones_oth Frg26.out (fun k hk => hoth k fun e => by subst e; exact ty_ne Fkx26.out hk (by decide))
          go_simp
          refine hK.out _ _ (HS.out _ DF) (fun hHeld => ?_)
          clear hK K
          refine wpAnyH_done (by kernel_rfl) ?_ _
          go_wp2
          go_meet
          case rel => exact ⟨_, _, _, _, _, _, _, rfl, KF, RF, GF, hN1, DF⟩
    · go_simp
      have AB : Below x0.heap.size x0 (x0.alloc (.cells #[] 53)) := (Below.refl _ _).alloc (Nat.le_refl _) _
      have D27 : Hid (Below w0.heap.size w0 (x0.alloc (.cells #[] 53))) := Below.step D0.out AB
      have hN27 : N ≤ (x0.alloc (.cells #[] 53)).heap.size := Nat.le_trans hN0 AB.size
      have Fg027 : Hid _ := owns_empty x0 53 2 N hN0
      refine hK.out _ _ (HS.out _ D27.out) (fun hHeld => ?_)
      clear hK K AB
      generalize hw27 : x0.alloc (.cells #[] 53) = x27 at *
      clear hw27
      refine wpAnyH_ready (rs := [0, 17]) (by kernel_rfl) (by simp) ?_
      refine AllReadyH.cons rfl (fun K hK => ?_) (AllReadyH.cons rfl (fun K hK => ?_) AllReadyH.nil)
      · go_simp
        have AB : Below x27.heap.size x27 (x27.alloc (.cells #[] 5)) := (Below.refl _ _).alloc (Nat.le_refl _) _
        have D28 : Hid (Below w0.heap.size w0 (x27.alloc (.cells #[] 5))) := Below.step D27.out AB
        have hN28 : N ≤ (x27.alloc (.cells #[] 5)).heap.size := Nat.le_trans hN27 AB.size
        have Fg028 : Hid _ := own_below Fg027.out AB
        have Fn028 : Hid _ := owns_empty x27 5 1 N hN27
        refine hK.out _ _ (HS.out _ D28.out) (fun hHeld => ?_)
        clear hK K AB
        generalize hw28 : x27.alloc (.cells #[] 5) = x28 at *
        clear hw28
        refine wpAnyH_ready (rs := [3, 17]) (by kernel_rfl) (by simp) ?_
        refine AllReadyH.cons rfl (fun K hK => ?_) (AllReadyH.cons rfl (fun K hK => ?_) AllReadyH.nil)
        · refine ite_w (by kernel_rfl) (wp_cat (B := N) 9 rfl (.tmp 6) (.tmp 8) rfl Fn028.out (Bs.rd1 (HNM.out _ D28.out)) (one_byte _) Try.underlying22 hi hz0 hz1 hz2 rfl (by omega) rfl rfl hl1 hl2 hN28 ?_)
          intro V29 x29 xs29 hO29 hX29 hG29 hB29
          have hG'29 : x28.grownBy x29 (some (x27.heap.size)) := hG29
          have D29 : Hid (Below w0.heap.size w0 x29) := below_gr0 D28.out hG'29 (show w0.heap.size ≤ x27.heap.size from (D27.out.size))
          have hN29 : N ≤ x29.heap.size := Nat.le_trans hN28 hG'29.size
          have KE29 := own_ty Fn028.out
          have Fg029 : Hid _ := own_grT Fg028.out hG'29 KE29 (by decide)
          have hR29 : RO x29 (fun k => N ≤ k) V29 b.name := ro_of HNM0.out hO29 hX29 (fun g hg => own_ge hO29 hg)
          obtain ⟨na, nn, nc, hV29⟩ := hR29.bs.form3
          subst hV29
          have Frn29 : Hid (RO x29 (fun k => N ≤ k) (.slice na nn nc) b.name) := hR29
          refine hK.out _ _ (HS.out _ D29.out) (fun hHeld => ?_)
          clear hK K hO29 hX29 hG29 hG'29 hB29 KE29 hR29
          conv => arg 8; simp only [Act.put, sA, s0, sS]
          refine wpAnyH_ready (rs := [13, 17]) (by kernel_rfl) (by simp) ?_
          refine AllReadyH.cons rfl (fun K hK => ?_) (AllReadyH.cons rfl (fun K hK => ?_) AllReadyH.nil)
          · refine ite_w (by kernel_rfl) (wp_cat (B := N) 19 rfl (.tmp 16) (.tmp 18) rfl Fg029.out (HGN.out _ D29.out) (one_gone _) Try.underlying29 hj hy0 hy1 hy2 rfl (by omega) rfl rfl hl3 hl4 hN29 ?_)
            intro V30 x30 xs30 hO30 hX30 hG30 hB30
            have hG'30 : x29.grownBy x30 (some (x0.heap.size)) := hG30
            have D30 : Hid (Below w0.heap.size w0 x30) := below_gr0 D29.out hG'30 (show w0.heap.size ≤ x0.heap.size from (D0.out.size))
            have hN30 : N ≤ x30.heap.size := Nat.le_trans hN29 hG'30.size
            have KE30 := own_ty Fg029.out
            have Frn30 : Hid (RO x30 (fun k => N ≤ k) (.slice na nn nc) b.name) := ro_grT Frn29.out hG'30 KE30 (by decide)
            have hR30 : GonesO x30 (fun k => N ≤ k) V30 b.gones := gones_of hO30 hX30 (fun g hg => own_ge hO30 hg)
            obtain ⟨ga, gn, gc, hV30⟩ := OwF.form3 hR30
            subst hV30
            have Frg30 : Hid (GonesO x30 (fun k => N ≤ k) (.slice ga gn gc) b.gones) := hR30
            refine hK.out _ _ (HS.out _ D30.out) (fun hHeld => ?_)
            clear hK K hO30 hX30 hG30 hG'30 hB30 KE30 hR30
            conv => arg 8; simp only [Act.put, sA, s0, sS]
            refine tq 16 22 hHeld ?_
            refine wpAnyH_ready (rs := [17]) (by kernel_rfl) (by simp) ?_
            refine AllReadyH.cons rfl (fun K hK => ?_) AllReadyH.nil
            go_simp
            have AB : Below x30.heap.size x30 (x30.alloc (.cells #[.slice none 0 0, .int .i64 0, .int .i64 0, .int .i64 0, .slice none 0 0, .slice none 0 0, .int .i64 0] 31)) := (Below.refl _ _).alloc (Nat.le_refl _) _
            have D31 : Hid (Below w0.heap.size w0 (x30.alloc (.cells #[.slice none 0 0, .int .i64 0, .int .i64 0, .int .i64 0, .slice none 0 0, .slice none 0 0, .int .i64 0] 31))) := Below.step D30.out AB
            have hN31 : N ≤ (x30.alloc (.cells #[.slice none 0 0, .int .i64 0, .int .i64 0, .int .i64 0, .slice none 0 0, .slice none 0 0, .int .i64 0] 31)).heap.size := Nat.le_trans hN30 AB.size
            have Frn31 : Hid (RO (x30.alloc (.cells #[.slice none 0 0, .int .i64 0, .int .i64 0, .int .i64 0, .slice none 0 0, .slice none 0 0, .int .i64 0] 31)) (fun k => N ≤ k) (.slice na nn nc) b.name) := Frn30.out.below AB
            have Frg31 : Hid (GonesO (x30.alloc (.cells #[.slice none 0 0, .int .i64 0, .int .i64 0, .int .i64 0, .slice none 0 0, .slice none 0 0, .int .i64 0] 31)) (fun k => N ≤ k) (.slice ga gn gc) b.gones) := Ow.below framesGone Frg30.out AB
            have Fkx31 : Hid ((x30.alloc (.cells #[.slice none 0 0, .int .i64 0, .int .i64 0, .int .i64 0, .slice none 0 0, .slice none 0 0, .int .i64 0] 31)).heap[x30.heap.size]? = some (.cells #[.slice none 0 0, .int .i64 0, .int .i64 0, .int .i64 0, .slice none 0 0, .slice none 0 0, .int .i64 0] 31 (0, 0))) := box_new x30 _
            refine hK.out _ _ (HS.out _ D31.out) (fun hHeld => ?_)
            clear hK K AB
            generalize hw31 : x30.alloc (.cells #[.slice none 0 0, .int .i64 0, .int .i64 0, .int .i64 0, .slice none 0 0, .slice none 0 0, .int .i64 0] 31) = x31 at *
            clear hw31
            refine wpAnyH_ready (rs := [18]) (by kernel_rfl) (by simp) ?_
            refine AllReadyH.cons rfl (fun K hK => ?_) AllReadyH.nil
            obtain ⟨zx, zl⟩ := box8z Fkx31.out
            obtain ⟨q0, q1, q2, q3, q4, q5, q6⟩ := bx7 Fkx31.out
            have KF : (((((((x31.setCell ⟨x30.heap.size, 0, none⟩ (.slice na nn nc)).setCell ⟨x30.heap.size, 1, none⟩ (.int .i64 b.valid)).setCell ⟨x30.heap.size, 2, none⟩ (.int .i64 b.next)).setCell ⟨x30.heap.size, 3, none⟩ (.int .i64 b.seq)).setCell ⟨x30.heap.size, 4, none⟩ (.slice none 0 0)).setCell ⟨x30.heap.size, 5, none⟩ (.slice ga gn gc)).setCell ⟨x30.heap.size, 6, none⟩ (.int .i64 b.lost)).heap[x30.heap.size]? = some (.cells #[.slice na nn nc, .int .i64 b.valid, .int .i64 b.next, .int .i64 b.seq, .slice none 0 0, .slice ga gn gc, .int .i64 b.lost] 31 (0, 0)) := (box_set (i := 6) (v := .int .i64 b.lost) (box_set (i := 5) (v := .slice ga gn gc) (box_set (i := 4) (v := .slice none 0 0) (box_set (i := 3) (v := .int .i64 b.seq) (box_set (i := 2) (v := .int .i64 b.next) (box_set (i := 1) (v := .int .i64 b.valid) (box_set (i := 0) (v := .slice na nn nc) Fkx31.out)))))))
            have DF : Below w0.heap.size w0 (((((((x31.setCell ⟨x30.heap.size, 0, none⟩ (.slice na nn nc)).setCell ⟨x30.heap.size, 1, none⟩ (.int .i64 b.valid)).setCell ⟨x30.heap.size, 2, none⟩ (.int .i64 b.next)).setCell ⟨x30.heap.size, 3, none⟩ (.int .i64 b.seq)).setCell ⟨x30.heap.size, 4, none⟩ (.slice none 0 0)).setCell ⟨x30.heap.size, 5, none⟩ (.slice ga gn gc)).setCell ⟨x30.heap.size, 6, none⟩ (.int .i64 b.lost)) := (((((((D31.out.setCell (p := ⟨x30.heap.size, 0, none⟩) (show w0.heap.size ≤ x30.heap.size from D30.out.size) (.slice na nn nc)).setCell (p := ⟨x30.heap.size, 1, none⟩) (show w0.heap.size ≤ x30.heap.size from D30.out.size) (.int .i64 b.valid)).setCell (p := ⟨x30.heap.size, 2, none⟩) (show w0.heap.size ≤ x30.heap.size from D30.out.size) (.int .i64 b.next)).setCell (p := ⟨x30.heap.size, 3, none⟩) (show w0.heap.size ≤ x30.heap.size from D30.out.size) (.int .i64 b.seq)).setCell (p := ⟨x30.heap.size, 4, none⟩) (show w0.heap.size ≤ x30.heap.size from D30.out.size) (.slice none 0 0)).setCell (p := ⟨x30.heap.size, 5, none⟩) (show w0.heap.size ≤ x30.heap.size from D30.out.size) (.slice ga gn gc)).setCell (p := ⟨x30.heap.size, 6, none⟩) (show w0.heap.size ≤ x30.heap.size from D30.out.size) (.int .i64 b.lost))
            have hoth : ∀ k, k ≠ x30.heap.size → (((((((x31.setCell ⟨x30.heap.size, 0, none⟩ (.slice na nn nc)).setCell ⟨x30.heap.size, 1, none⟩ (.int .i64 b.valid)).setCell ⟨x30.heap.size, 2, none⟩ (.int .i64 b.next)).setCell ⟨x30.heap.size, 3, none⟩ (.int .i64 b.seq)).setCell ⟨x30.heap.size, 4, none⟩ (.slice none 0 0)).setCell ⟨x30.heap.size, 5, none⟩ (.slice ga gn gc)).setCell ⟨x30.heap.size, 6, none⟩ (.int .i64 b.lost)).heap[k]? = x31.heap[k]? := fun k hk => by rw [Below.heap_setCell _ _ _ _ (show k ≠ x30.heap.size from hk), Below.heap_setCell _ _ _ _ (show k ≠ x30.heap.size from hk), Below.heap_setCell _ _ _ _ (show k ≠ x30.heap.size from hk), Below.heap_setCell _ _ _ _ (show k ≠ x30.heap.size from hk), Below.heap_setCell _ _ _ _ (show k ≠ x30.heap.size from hk), Below.heap_setCell _ _ _ _ (show k ≠ x30.heap.size from hk), Below.heap_setCell _ _ _ _ (show k ≠ x30.heap.size from hk)]
            have RF : RO (((((((x31.setCell ⟨x30.heap.size, 0, none⟩ (.slice na nn nc)).setCell ⟨x30.heap.size, 1, none⟩ (.int .i64 b.valid)).setCell ⟨x30.heap.size, 2, none⟩ (.int .i64 b.next)).setCell ⟨x30.heap.size, 3, none⟩ (.int .i64 b.seq)).setCell ⟨x30.heap.size, 4, none⟩ (.slice none 0 0)).setCell ⟨x30.heap.size, 5, none⟩ (.slice ga gn gc)).setCell ⟨x30.heap.size, 6, none⟩ (.int .i64 b.lost)) (fun k => N ≤ k) (.slice na nn nc) b.name := ro_oth Frn31.out (fun k hk => hoth k fun e => by subst e; exact ty_ne Fkx31.out hk (by decide))
            have GF : GonesO (((((((x31.setCell ⟨x30.heap.size, 0, none⟩ (.slice na nn nc)).setCell ⟨x30.heap.size, 1, none⟩ (.int .i64 b.valid)).setCell ⟨x30.heap.size, 2, none⟩ (.int .i64 b.next)).setCell ⟨x30.heap.size, 3, none⟩ (.int .i64 b.seq)).setCell ⟨x30.heap.size, 4, none⟩ (.slice none 0 0)).setCell ⟨x30.heap.size, 5, none⟩ (.slice ga gn gc)).setCell ⟨x30.heap.size, 6, none⟩ (.int .i64 b.lost)) (fun k => N ≤ k) (.slice ga gn gc) b.gones := gones_oth Frg31.out (fun k hk => hoth k fun e => by subst e; exact ty_ne Fkx31.out hk (by decide))
            go_simp
            refine hK.out _ _ (HS.out _ DF) (fun hHeld => ?_)
            clear hK K
            refine wpAnyH_done (by kernel_rfl) ?_ _
            go_wp2
            go_meet
            case rel => exact ⟨_, _, _, _, _, _, _, rfl, KF, RF, GF, hN30, DF⟩
          · go_simp
            have AB : Below x29.heap.size x29 (x29.alloc (.cells #[.slice none 0 0, .int .i64 0, .int .i64 0, .int .i64 0, .slice none 0 0, .slice none 0 0, .int .i64 0] 31)) := (Below.refl _ _).alloc (Nat.le_refl _) _
            have D32 : Hid (Below w0.heap.size w0 (x29.alloc (.cells #[.slice none 0 0, .int .i64 0, .int .i64 0, .int .i64 0, .slice none 0 0, .slice none 0 0, .int .i64 0] 31))) := Below.step D29.out AB
            have hN32 : N ≤ (x29.alloc (.cells #[.slice none 0 0, .int .i64 0, .int .i64 0, .int .i64 0, .slice none 0 0, .slice none 0 0, .int .i64 0] 31)).heap.size := Nat.le_trans hN29 AB.size
            have Fg032 : Hid _ := own_below Fg029.out AB
            have Frn32 : Hid (RO (x29.alloc (.cells #[.slice none 0 0, .int .i64 0, .int .i64 0, .int .i64 0, .slice none 0 0, .slice none 0 0, .int .i64 0] 31)) (fun k => N ≤ k) (.slice na nn nc) b.name) := Frn29.out.below AB
            have Fkx32 : Hid ((x29.alloc (.cells #[.slice none 0 0, .int .i64 0, .int .i64 0, .int .i64 0, .slice none 0 0, .slice none 0 0, .int .i64 0] 31)).heap[x29.heap.size]? = some (.cells #[.slice none 0 0, .int .i64 0, .int .i64 0, .int .i64 0, .slice none 0 0, .slice none 0 0, .int .i64 0] 31 (0, 0))) := box_new x29 _
            refine hK.out _ _ (HS.out _ D32.out) (fun hHeld => ?_)
            clear hK K AB
            generalize hw32 : x29.alloc (.cells #[.slice none 0 0, .int .i64 0, .int .i64 0, .int .i64 0, .slice none 0 0, .slice none 0 0, .int .i64 0] 31) = x32 at *
            clear hw32
            refine wpAnyH_ready (rs := [13]) (by kernel_rfl) (by simp) ?_
            refine AllReadyH.cons rfl (fun K hK => ?_) AllReadyH.nil
            refine ite_w (by kernel_rfl) (wp_cat (B := N) 19 rfl (.tmp 16) (.tmp 18) rfl Fg032.out (HGN.out _ D32.out) (one_gone _) Try.underlying29 hj hy0 hy1 hy2 rfl (by omega) rfl rfl hl3 hl4 hN32 ?_)
            intro V33 x33 xs33 hO33 hX33 hG33 hB33
            have hG'33 : x32.grownBy x33 (some (x0.heap.size)) := hG33
            have D33 : Hid (Below w0.heap.size w0 x33) := below_gr0 D32.out hG'33 (show w0.heap.size ≤ x0.heap.size from (D0.out.size))
            have hN33 : N ≤ x33.heap.size := Nat.le_trans hN32 hG'33.size
            have KE33 := own_ty Fg032.out
            have Frn33 : Hid (RO x33 (fun k => N ≤ k) (.slice na nn nc) b.name) := ro_grT Frn32.out hG'33 KE33 (by decide)
            have Fkx33 : Hid _ := box_grT hG'33 Fkx32.out KE33 (by decide)
            have hR33 : GonesO x33 (fun k => N ≤ k) V33 b.gones := gones_of hO33 hX33 (fun g hg => own_ge hO33 hg)
            obtain ⟨ga, gn, gc, hV33⟩ := OwF.form3 hR33
            subst hV33
            have Frg33 : Hid (GonesO x33 (fun k => N ≤ k) (.slice ga gn gc) b.gones) := hR33
            refine hK.out _ _ (HS.out _ D33.out) (fun hHeld => ?_)
            clear hK K hO33 hX33 hG33 hG'33 hB33 KE33 hR33
            conv => arg 8; simp only [Act.put, sA, s0, sS]
            refine tq 16 22 hHeld ?_
            refine wpAnyH_ready (rs := [18]) (by kernel_rfl) (by simp) ?_
            refine AllReadyH.cons rfl (fun K hK => ?_) AllReadyH.nil
            obtain ⟨zx, zl⟩ := box8z Fkx33.out
            obtain ⟨q0, q1, q2, q3, q4, q5, q6⟩ := bx7 Fkx33.out
            have KF : (((((((x33.setCell ⟨x29.heap.size, 0, none⟩ (.slice na nn nc)).setCell ⟨x29.heap.size, 1, none⟩ (.int .i64 b.valid)).setCell ⟨x29.heap.size, 2, none⟩ (.int .i64 b.next)).setCell ⟨x29.heap.size, 3, none⟩ (.int .i64 b.seq)).setCell ⟨x29.heap.size, 4, none⟩ (.slice none 0 0)).setCell ⟨x29.heap.size, 5, none⟩ (.slice ga gn gc)).setCell ⟨x29.heap.size, 6, none⟩ (.int .i64 b.lost)).heap[x29.heap.size]? = some (.cells #[.slice na nn nc, .int .i64 b.valid, .int .i64 b.next, .int .i64 b.seq, .slice none 0 0, .slice ga gn gc, .int .i64 b.lost] 31 (0, 0)) := (box_set (i := 6) (v := .int .i64 b.lost) (box_set (i := 5) (v := .slice ga gn gc) (box_set (i := 4) (v := .slice none 0 0) (box_set (i := 3) (v := .int .i64 b.seq) (box_set (i := 2) (v := .int .i64 b.next) (box_set (i := 1) (v := .int .i64 b.valid) (box_set (i := 0) (v := .slice na nn nc) Fkx33.out)))))))
            have DF : Below w0.heap.size w0 (((((((x33.setCell ⟨x29.heap.size, 0, none⟩ (.slice na nn nc)).setCell ⟨x29.heap.size, 1, none⟩ (.int .i64 b.valid)).setCell ⟨x29.heap.size, 2, none⟩ (.int .i64 b.next)).setCell ⟨x29.heap.size, 3, none⟩ (.int .i64 b.seq)).setCell ⟨x29.heap.size, 4, none⟩ (.slice none 0 0)).setCell ⟨x29.heap.size, 5, none⟩ (.slice ga gn gc)).setCell ⟨x29.heap.size, 6, none⟩ (.int .i64 b.lost)) := (((((((D33.out.setCell (p := ⟨x29.heap.size, 0, none⟩) (show w0.heap.size ≤ x29.heap.size from D29.out.size) (.slice na nn nc)).setCell (p := ⟨x29.heap.size, 1, none⟩) (show w0.heap.size ≤ x29.heap.size from D29.out.size) (.int .i64 b.valid)).setCell (p := ⟨x29.heap.size, 2, none⟩) (show w0.heap.size ≤ x29.heap.size from D29.out.size) (.int .i64 b.next)).setCell (p := ⟨x29.heap.size, 3, none⟩) (show w0.heap.size ≤ x29.heap.size from D29.out.size) (.int .i64 b.seq)).setCell (p := ⟨x29.heap.size, 4, none⟩) (show w0.heap.size ≤ x29.heap.size from D29.out.size) (.slice none 0 0)).setCell (p := ⟨x29.heap.size, 5, none⟩) (show w0.heap.size ≤ x29.heap.size from D29.out.size) (.slice ga gn gc)).setCell (p := ⟨x29.heap.size, 6, none⟩) (show w0.heap.size ≤ x29.heap.size from D29.out.size) (.int .i64 b.lost))
            have hoth : ∀ k, k ≠ x29.heap.size → (((((((x33.setCell ⟨x29.heap.size, 0, none⟩ (.slice na nn nc)).setCell ⟨x29.heap.size, 1, none⟩ (.int .i64 b.valid)).setCell ⟨x29.heap.size, 2, none⟩ (.int .i64 b.next)).setCell ⟨x29.heap.size, 3, none⟩ (.int .i64 b.seq)).setCell ⟨x29.heap.size, 4, none⟩ (.slice none 0 0)).setCell ⟨x29.heap.size, 5, none⟩ (.slice ga gn gc)).setCell ⟨x29.heap.size, 6, none⟩ (.int .i64 b.lost)).heap[k]? = x33.heap[k]? := fun k hk => by rw [Below.heap_setCell _ _ _ _ (show k ≠ x29.heap.size from hk), Below.heap_setCell _ _ _ _ (show k ≠ x29.heap.size from hk), Below.heap_setCell _ _ _ _ (show k ≠ x29.heap.size from hk), Below.heap_setCell _ _ _ _ (show k ≠ x29.heap.size from hk), Below.heap_setCell _ _ _ _ (show k ≠ x29.heap.size from hk), Below.heap_setCell _ _ _ _ (show k ≠ x29.heap.size from hk), Below.heap_setCell _ _ _ _ (show k ≠ x29.heap.size from hk)]
            have RF : RO (((((((x33.setCell ⟨x29.heap.size, 0, none⟩ (.slice na nn nc)).setCell ⟨x29.heap.size, 1, none⟩ (.int .i64 b.valid)).setCell ⟨x29.heap.size, 2, none⟩ (.int .i64 b.next)).setCell ⟨x29.heap.size, 3, none⟩ (.int .i64 b.seq)).setCell ⟨x29.heap.size, 4, none⟩ (.slice none 0 0)).setCell ⟨x29.heap.size, 5, none⟩ (.slice ga gn gc)).setCell ⟨x29.heap.size, 6, none⟩ (.int .i64 b.lost)) (fun k => N ≤ k) (.slice na nn nc) b.name := ro_oth Frn33.out (fun k hk => hoth k fun e => by subst e; exact ty_ne Fkx33.out hk (by decide))
            have GF : GonesO (((((((x33.setCell ⟨x29.heap.size, 0, none⟩ (.slice na nn nc)).setCell ⟨x29.heap.size, 1, none⟩ (.int .i64 b.valid)).setCell ⟨x29.heap.size, 2, none⟩ (.int .i64 b.next)).setCell ⟨x29.heap.size, 3, none⟩ (.int .i64 b.seq)).setCell ⟨x29.heap.size, 4, none⟩ (.slice none 0 0)).setCell ⟨x29.heap.size, 5, none⟩ (.slice ga gn gc)).setCell ⟨x29.heap.size, 6, none⟩ (.int .i64 b.lost)) (fun k => N ≤ k) (.slice ga gn gc) b.gones := gones_oth Frg33.out (fun k hk => hoth k fun e => by subst e; exact ty_ne Fkx33.out hk (by decide))
            go_simp
            refine hK.out _ _ (HS.out _ DF) (fun hHeld => ?_)
            clear hK K
            refine wpAnyH_done (by kernel_rfl) ?_ _
            go_wp2
            go_meet
            case rel => exact ⟨_, _, _, _, _, _, _, rfl, KF, RF, GF, hN29, DF⟩
        · go_simp
          have AB : Below x28.heap.size x28 (x28.alloc (.cells #[.slice none 0 0, .int .i64 0, .int .i64 0, .int .i64 0, .slice none 0 0, .slice none 0 0, .int .i64 0] 31)) := (Below.refl _ _).alloc (Nat.le_refl _) _
          have D34 : Hid (Below w0.heap.size w0 (x28.alloc (.cells #[.slice none 0 0, .int .i64 0, .int .i64 0, .int .i64 0, .slice none 0 0, .slice none 0 0, .int .i64 0] 31))) := Below.step D28.out AB
          have hN34 : N ≤ (x28.alloc (.cells #[.slice none 0 0, .int .i64 0, .int .i64 0, .int .i64 0, .slice none 0 0, .slice none 0 0, .int .i64 0] 31)).heap.size := Nat.le_trans hN28 AB.size
          have Fn034 : Hid _ := own_below Fn028.out AB
          have Fg034 : Hid _ := own_below Fg028.out AB
          have Fkx34 : Hid ((x28.alloc (.cells #[.slice none 0 0, .int .i64 0, .int .i64 0, .int .i64 0, .slice none 0 0, .slice none 0 0, .int .i64 0] 31)).heap[x28.heap.size]? = some (.cells #[.slice none 0 0, .int .i64 0, .int .i64 0, .int .i64 0, .slice none 0 0, .slice none 0 0, .int .i64 0] 31 (0, 0))) := box_new x28 _
          refine hK.out _ _ (HS.out _ D34.out) (fun hHeld => ?_)
          clear hK K AB
          generalize hw34 : x28.alloc (.cells #[.slice none 0 0, .int .i64 0, .int .i64 0, .int .i64 0, .slice none 0 0, .slice none 0 0, .int .i64 0] 31) = x34 at *
          clear hw34
          refine wpAnyH_ready (rs := [3]) (by kernel_rfl) (by simp) ?_
          refine AllReadyH.cons rfl (fun K hK => ?_) AllReadyH.nil
          refine ite_w (by kernel_rfl) (wp_cat (B := N) 9 rfl (.tmp 6) (.tmp 8) rfl Fn034.out (Bs.rd1 (HNM.out _ D34.out)) (one_byte _) Try.underlying22 hi hz0 hz1 hz2 rfl (by omega) rfl rfl hl1 hl2 hN34 ?_)
          intro V35 x35 xs35 hO35 hX35 hG35 hB35
          have hG'35 : x34.grownBy x35 (some (x27.heap.size)) := hG35
          have D35 : Hid (Below w0.heap.size w0 x35) := below_gr0 D34.out hG'35 (show w0.heap.size ≤ x27.heap.size from (D27.out.size))
          have hN35 : N ≤ x35.heap.size := Nat.le_trans hN34 hG'35.size
          have KE35 := own_ty Fn034.out
          have Fg035 : Hid _ := own_grT Fg034.out hG'35 KE35 (by decide)
          have Fkx35 : Hid _ := box_grT hG'35 Fkx34.out KE35 (by decide)
          have hR35 : RO x35 (fun k => N ≤ k) V35 b.name := ro_of HNM0.out hO35 hX35 (fun g hg => own_ge hO35 hg)
          obtain ⟨na, nn, nc, hV35⟩ := hR35.bs.form3
          subst hV35
          have Frn35 : Hid (RO x35 (fun k => N ≤ k) (.slice na nn nc) b.name) := hR35
          refine hK.out _ _ (HS.out _ D35.out) (fun hHeld => ?_)
          clear hK K hO35 hX35 hG35 hG'35 hB35 KE35 hR35
          conv => arg 8; simp only [Act.put, sA, s0, sS]
          refine wpAnyH_ready (rs := [13]) (by kernel_rfl) (by simp) ?_
          refine AllReadyH.cons rfl (fun K hK => ?_) AllReadyH.nil
          refine ite_w (by kernel_rfl) (wp_cat (B := N) 19 rfl (.tmp 16) (.tmp 18) rfl Fg035.out (HGN.out _ D35.out) (one_gone _) Try.underlying29 hj hy0 hy1 hy2 rfl (by omega) rfl rfl hl3 hl4 hN35 ?_)
          intro V36 x36 xs36 hO36 hX36 hG36 hB36
          have hG'36 : x35.grownBy x36 (some (x0.heap.size)) := hG36
          have D36 : Hid (Below w0.heap.size w0 x36) := below_gr0 D35.out hG'36 (show w0.heap.size ≤ x0.heap.size from (D0.out.size))
          have hN36 : N ≤ x36.heap.size := Nat.le_trans hN35 hG'36.size
          have KE36 := own_ty Fg035.out
          have Frn36 : Hid (RO x36 (fun k => N ≤ k) (.slice na nn nc) b.name) := ro_grT Frn35.out hG'36 KE36 (by decide)
          have Fkx36 : Hid _ := box_grT hG'36 Fkx35.out KE36 (by decide)
          have hR36 : GonesO x36 (fun k => N ≤ k) V36 b.gones := gones_of hO36 hX36 (fun g hg => own_ge hO36 hg)
          obtain ⟨ga, gn, gc, hV36⟩ := OwF.form3 hR36
          subst hV36
          have Frg36 : Hid (GonesO x36 (fun k => N ≤ k) (.slice ga gn gc) b.gones) := hR36
          refine hK.out _ _ (HS.out _ D36.out) (fun hHeld => ?_)
          clear hK K hO36 hX36 hG36 hG'36 hB36 KE36 hR36
          conv => arg 8; simp only [Act.put, sA, s0, sS]
          refine tq 16 22 hHeld ?_
          refine wpAnyH_ready (rs := [18]) (by kernel_rfl) (by simp) ?_
          refine AllReadyH.cons rfl (fun K hK => ?_) AllReadyH.nil
          obtain ⟨zx, zl⟩ := box8z Fkx36.out
          obtain ⟨q0, q1, q2, q3, q4, q5, q6⟩ := bx7 Fkx36.out
          have KF : (((((((x36.setCell ⟨x28.heap.size, 0, none⟩ (.slice na nn nc)).setCell ⟨x28.heap.size, 1, none⟩ (.int .i64 b.valid)).setCell ⟨x28.heap.size, 2, none⟩ (.int .i64 b.next)).setCell ⟨x28.heap.size, 3, none⟩ (.int .i64 b.seq)).setCell ⟨x28.heap.size, 4, none⟩ (.slice none 0 0)).setCell ⟨x28.heap.size, 5, none⟩ (.slice ga gn gc)).setCell ⟨x28.heap.size, 6, none⟩ (.int .i64 b.lost)).heap[x28.heap.size]? = some (.cells #[.slice na nn nc, .int .i64 b.valid, .int .i64 b.next, .int .i64 b.seq, .slice none 0 0, .slice ga gn gc, .int .i64 b.lost] 31 (0, 0)) := (box_set (i := 6) (v := .int .i64 b.lost) (box_set (i := 5) (v := .slice ga gn gc) (box_set (i := 4) (v := .slice none 0 0) (box_set (i := 3) (v := .int .i64 b.seq) (box_set (i := 2) (v := .int .i64 b.next) (box_set (i := 1) (v := .int .i64 b.valid) (box_set (i := 0) (v := .slice na nn nc) Fkx36.out)))))))
          have DF : Below w0.heap.size w0 (((((((x36.setCell ⟨x28.heap.size, 0, none⟩ (.slice na nn nc)).setCell ⟨x28.heap.size, 1, none⟩ (.int .i64 b.valid)).setCell ⟨x28.heap.size, 2, none⟩ (.int .i64 b.next)).setCell ⟨x28.heap.size, 3, none⟩ (.int .i64 b.seq)).setCell ⟨x28.heap.size, 4, none⟩ (.slice none 0 0)).setCell ⟨x28.heap.size, 5, none⟩ (.slice ga gn gc)).setCell ⟨x28.heap.size, 6, none⟩ (.int .i64 b.lost)) := (((((((D36.out.setCell (p := ⟨x28.heap.size, 0, none⟩) (show w0.heap.size ≤ x28.heap.size from D28.out.size) (.slice na nn nc)).setCell (p := ⟨x28.heap.size, 1, none⟩) (show w0.heap.size ≤ x28.heap.size from D28.out.size) (.int .i64 b.valid)).setCell (p := ⟨x28.heap.size, 2, none⟩) (show w0.heap.size ≤ x28.heap.size from D28.out.size) (.int .i64 b.next)).setCell (p := ⟨x28.heap.size, 3, none⟩) (show w0.heap.size ≤ x28.heap.size from D28.out.size) (.int .i64 b.seq)).setCell (p := ⟨x28.heap.size, 4, none⟩) (show w0.heap.size ≤ x28.heap.size from D28.out.size) (.slice none 0 0)).setCell (p := ⟨x28.heap.size, 5, none⟩) (show w0.heap.size ≤ x28.heap.size from D28.out.size) (.slice ga gn gc)).setCell (p := ⟨x28.heap.size, 6, none⟩) (show w0.heap.size ≤ x28.heap.size from D28.out.size) (.int .i64 b.lost))
          have hoth : ∀ k, k ≠ x28.heap.size → (((((((x36.setCell ⟨x28.heap.size, 0, none⟩ (.slice na nn nc)).setCell ⟨x28.heap.size, 1, none⟩ (.int .i64 b.valid)).setCell ⟨x28.heap.size, 2, none⟩ (.int .i64 b.next)).setCell ⟨x28.heap.size, 3, none⟩ (.int .i64 b.seq)).setCell ⟨x28.heap.size, 4, none⟩ (.slice none 0 0)).setCell ⟨x28.heap.size, 5, none⟩ (.slice ga gn gc)).setCell ⟨x28.heap.size, 6, none⟩ (.int .i64 b.lost)).heap[k]? = x36.heap[k]? := fun k hk => by rw [Below.heap_setCell _ _ _ _ (show k ≠ x28.heap.size from hk), Below.heap_setCell _ _ _ _ (show k ≠ x28.heap.size from hk), Below.heap_setCell _ _ _ _ (show k ≠ x28.heap.size from hk), Below.heap_setCell _ _ _ _ (show k ≠ x28.heap.size from hk), Below.heap_setCell _ _ _ _ (show k ≠ x28.heap.size from hk), Below.heap_setCell _ _ _ _ (show k ≠ x28.heap.size from hk), Below.heap_setCell _ _ _ _ (show k ≠ x28.heap.size from hk)]
          have RF : RO (((((((x36.setCell ⟨x28.heap.size, 0, none⟩ (.slice na nn nc)).setCell ⟨x28.heap.size, 1, none⟩ (.int .i64 b.valid)).setCell ⟨x28.heap.size, 2, none⟩ (.int .i64 b.next)).setCell ⟨x28.heap.size, 3, none⟩ (.int .i64 b.seq)).setCell ⟨x28.heap.size, 4, none⟩ (.slice none 0 0)).setCell ⟨x28.heap.size, 5, none⟩ (.slice ga gn gc)).setCell ⟨x28.heap.size, 6, none⟩ (.int .i64 b.lost)) (fun k => N ≤ k) (.slice na nn nc) b.name := ro_oth Frn36.out (fun k hk => hoth k fun e => by subst e; exact ty_ne Fkx36.out hk (by decide))
          have GF : GonesO (((((((x36.setCell ⟨x28.heap.size, 0, none⟩ (.slice na nn nc)).setCell ⟨x28.heap.size, 1, none⟩ (.int .i64 b.valid)).setCell ⟨x28.heap.size, 2, none⟩ (.int .i64 b.next)).setCell ⟨x28.heap.size, 3, none⟩ (.int .i64 b.seq)).setCell ⟨x28.heap.size, 4, none⟩ (.slice none 0 0)).setCell ⟨x28.heap.size, 5, none⟩ (.slice ga gn gc)).setCell ⟨x28.heap.size, 6, none⟩ (.int .i64 b.lost)) (fun k => N ≤ k) (.slice ga gn gc) b.gones := gones_oth Frg36.out (fun k hk => hoth k fun e => by subst e; exact ty_ne Fkx36.out hk (by decide))
          go_simp
          refine hK.out _ _ (HS.out _ DF) (fun hHeld => ?_)
          clear hK K
          refine wpAnyH_done (by kernel_rfl) ?_ _
          go_wp2
          go_meet
          case rel => exact ⟨_, _, _, _, _, _, _, rfl, KF, RF, GF, hN28, DF⟩
      · go_simp
        have AB : Below x27.heap.size x27 (x27.alloc (.cells #[.slice none 0 0, .int .i64 0, .int .i64 0, .int .i64 0, .slice none 0 0, .slice none 0 0, .int .i64 0] 31)) := (Below.refl _ _).alloc (Nat.le_refl _) _
        have D37 : Hid (Below w0.heap.size w0 (x27.alloc (.cells #[.slice none 0 0, .int .i64 0, .int .i64 0, .int .i64 0, .slice none 0 0, .slice none 0 0, .int .i64 0] 31))) := Below.step D27.out AB
        have hN37 : N ≤ (x27.alloc (.cells #[.slice none 0 0, .int .i64 0, .int .i64 0, .int .i64 0, .slice none 0 0, .slice none 0 0, .int .i64 0] 31)).heap.size := Nat.le_trans hN27 AB.size
        have Fg037 : Hid _ := own_below Fg027.out AB
        have Fkx37 : Hid ((x27.alloc (.cells #[.slice none 0 0, .int .i64 0, .int .i64 0, .int .i64 0, .slice none 0 0, .slice none 0 0, .int .i64 0] 31)).heap[x27.heap.size]? = some (.cells #[.slice none 0 0, .int .i64 0, .int .i64 0, .int .i64 0, .slice none 0 0, .slice none 0 0, .int .i64 0] 31 (0, 0))) := box_new x27 _
        refine hK.out _ _ (HS.out _ D37.out) (fun hHeld => ?_)
        clear hK K AB
        generalize hw37 : x27.alloc (.cells #[.slice none 0 0, .int .i64 0, .int .i64 0, .int .i64 0, .slice none 0 0, .slice none 0 0, .int .i64 0] 31) = x37 at *
        clear hw37
        refine wpAnyH_ready (rs := [0]) (by kernel_rfl) (by simp) ?_
        refine AllReadyH.cons rfl (fun K hK => ?_) AllReadyH.nil
        go_simp
        have AB : Below x37.heap.size x37 (x37.alloc (.cells #[] 5)) := (Below.refl _ _).alloc (Nat.le_refl _) _
        have D38 : Hid (Below w0.heap.size w0 (x37.alloc (.cells #[] 5))) := Below.step D37.out AB
        have hN38 : N ≤ (x37.alloc (.cells #[] 5)).heap.size := Nat.le_trans hN37 AB.size
        have Fg038 : Hid _ := own_below Fg037.out AB
        have Fkx38 : Hid _ := box_below AB Fkx37.out
        have Fn038 : Hid _ := owns_empty x37 5 1 N hN37
        refine hK.out _ _ (HS.out _ D38.out) (fun hHeld => ?_)
        clear hK K AB
        generalize hw38 : x37.alloc (.cells #[] 5) = x38 at *
        clear hw38
        refine wpAnyH_ready (rs := [3]) (by kernel_rfl) (by simp) ?_
        refine AllReadyH.cons rfl (fun K hK => ?_) AllReadyH.nil
        refine ite_w (by kernel_rfl) (wp_cat (B := N) 9 rfl (.tmp 6) (.tmp 8) rfl Fn038.out (Bs.rd1 (HNM.out _ D38.out)) (one_byte _) Try.underlying22 hi hz0 hz1 hz2 rfl (by omega) rfl rfl hl1 hl2 hN38 ?_)
        intro V39 x39 xs39 hO39 hX39 hG39 hB39
        have hG'39 : x38.grownBy x39 (some (x37.heap.size)) := hG39
        have D39 : Hid (Below w0.heap.size w0 x39) := below_gr0 D38.out hG'39 (show w0.heap.size ≤ x37.heap.size from (D37.out.size))
        have hN39 : N ≤ x39.heap.size := Nat.le_trans hN38 hG'39.size
        have KE39 := own_ty Fn038.out
        have Fg039 : Hid _ := own_grT Fg038.out hG'39 KE39 (by decide)
        have Fkx39 : Hid _ := box_grT hG'39 Fkx38.out KE39 (by decide)
        have hR39 : RO x39 (fun k => N ≤ k) V39 b.name := ro_of HNM0.out hO39 hX39 (fun g hg => own_ge hO39 hg)
        obtain ⟨na, nn, nc, hV39⟩ := hR39.bs.form3
        subst hV39
        have Frn39 : Hid (RO x39 (fun k => N ≤ k) (.slice na nn nc) b.name) := hR39
        refine hK.out _ _ (HS.out _ D39.out) (fun hHeld => ?_)
        clear hK K hO39 hX39 hG39 hG'39 hB39 KE39 hR39
        conv => arg 8; simp only [Act.put, sA, s0, sS]
        refine wpAnyH_ready (rs := [13]) (by kernel_rfl) (by simp) ?_
        refine AllReadyH.cons rfl (fun K hK => ?_) AllReadyH.nil
        refine ite_w (by kernel_rfl) (wp_cat (B := N) 19 rfl (.tmp 16) (.tmp 18) rfl Fg039.out (HGN.out _ D39.out) (one_gone _) Try.underlying29 hj hy0 hy1 hy2 rfl (by omega) rfl rfl hl3 hl4 hN39 ?_)
        intro V40 x40 xs40 hO40 hX40 hG40 hB40
        have hG'40 : x39.grownBy x40 (some (x0.heap.size)) := hG40
        have D40 : Hid (Below w0.heap.size w0 x40) := below_gr0 D39.out hG'40 (show w0.heap.size ≤ x0.heap.size from (D0.out.size))
        have hN40 : N ≤ x40.heap.size := Nat.le_trans hN39 hG'40.size
        have KE40 := own_ty Fg039.out
        have Frn40 : Hid (RO x40 (fun k => N ≤ k) (.slice na nn nc) b.name) := ro_grT Frn39.out hG'40 KE40 (by decide)
        have Fkx40 : Hid _ := box_grT hG'40 Fkx39.out KE40 (by decide)
        have hR40 : GonesO x40 (fun k => N ≤ k) V40 b.gones := gones_of hO40 hX40 (fun g hg => own_ge hO40 hg)
        obtain ⟨ga, gn, gc, hV40⟩ := OwF.form3 hR40
        subst hV40
        have Frg40 : Hid (GonesO x40 (fun k => N ≤ k) (.slice ga gn gc) b.gones) := hR40
        refine hK.out _ _ (HS.out _ D40.out) (fun hHeld => ?_)
        clear hK K hO40 hX40 hG40 hG'40 hB40 KE40 hR40
        conv => arg 8; simp only [Act.put, sA, s0, sS]
        refine tq 16 22 hHeld ?_
        refine wpAnyH_ready (rs := [18]) (by kernel_rfl) (by simp) ?_
        refine AllReadyH.cons rfl (fun K hK => ?_) AllReadyH.nil
        obtain ⟨zx, zl⟩ := box8z Fkx40.out
        obtain ⟨q0, q1, q2, q3, q4, q5, q6⟩ := bx7 Fkx40.out
        have KF : (((((((x40.setCell ⟨x27.heap.size, 0, none⟩ (.slice na nn nc)).setCell ⟨x27.heap.size, 1, none⟩ (.int .i64 b.valid)).setCell ⟨x27.heap.size, 2, none⟩ (.int .i64 b.next)).setCell ⟨x27.heap.size, 3, none⟩ (.int .i64 b.seq)).setCell ⟨x27.heap.size, 4, none⟩ (.slice none 0 0)).setCell ⟨x27.heap.size, 5, none⟩ (.slice ga gn gc)).setCell ⟨x27.heap.size, 6, none⟩ (.int .i64 b.lost)).heap[x27.heap.size]? = some (.cells #[.slice na nn nc, .int .i64 b.valid, .int .i64 b.next, .int .i64 b.seq, .slice none 0 0, .slice ga gn gc, .int .i64 b.lost] 31 (0, 0)) := (box_set (i := 6) (v := .int .i64 b.lost) (box_set (i := 5) (v := .slice ga gn gc) (box_set (i := 4) (v := .slice none 0 0) (box_set (i := 3) (v := .int .i64 b.seq) (box_set (i := 2) (v := .int .i64 b.next) (box_set (i := 1) (v := .int .i64 b.valid) (box_set (i := 0) (v := .slice na nn nc) Fkx40.out)))))))
        have DF : Below w0.heap.size w0 (((((((x40.setCell ⟨x27.heap.size, 0, none⟩ (.slice na nn nc)).setCell ⟨x27.heap.size, 1, none⟩ (.int .i64 b.valid)).setCell ⟨x27.heap.size, 2, none⟩ (.int .i64 b.next)).setCell ⟨x27.heap.size, 3, none⟩ (.int .i64 b.seq)).setCell ⟨x27.heap.size, 4, none⟩ (.slice none 0 0)).setCell ⟨x27.heap.size, 5, none⟩ (.slice ga gn gc)).setCell ⟨x27.heap.size, 6, none⟩ (.int .i64 b.lost)) := (((((((D40.out.setCell (p := ⟨x27.heap.size, 0, none⟩) (show w0.heap.size ≤ x27.heap.size from D27.out.size) (.slice na nn nc)).setCell (p := ⟨x27.heap.size, 1, none⟩) (show w0.heap.size ≤ x27.heap.size from D27.out.size) (.int .i64 b.valid)).setCell (p := ⟨x27.heap.size, 2, none⟩) (show w0.heap.size ≤ x27.heap.size from D27.out.size) (.int .i64 b.next)).setCell (p := ⟨x27.heap.size, 3, none⟩) (show w0.heap.size ≤ x27.heap.size from D27.out.size) (.int .i64 b.seq)).setCell (p := ⟨x27.heap.size, 4, none⟩) (show w0.heap.size ≤ x27.heap.size from D27.out.size) (.slice none 0 0)).setCell (p := ⟨x27.heap.size, 5, none⟩) (show w0.heap.size ≤ x27.heap.size from D27.out.size) (.slice ga gn gc)).setCell (p := ⟨x27.heap.size, 6, none⟩) (show w0.heap.size ≤ x27.heap.size from D27.out.size) (.int .i64 b.lost))
        have hoth : ∀ k, k ≠ x27.heap.size → (((((((x40.setCell ⟨x27.heap.size, 0, none⟩ (.slice na nn nc)).setCell ⟨x27.heap.size, 1, none⟩ (.int .i64 b.valid)).setCell ⟨x27.heap.size, 2, none⟩ (.int .i64 b.next)).setCell ⟨x27.heap.size, 3, none⟩ (.int .i64 b.seq)).setCell ⟨x27.heap.size, 4, none⟩ (.slice none 0 0)).setCell ⟨x27.heap.size, 5, none⟩ (.slice ga gn gc)).setCell ⟨x27.heap.size, 6, none⟩ (.int .i64 b.lost)).heap[k]? = x40.heap[k]? := fun k hk => by rw [Below.heap_setCell _ _ _ _ (show k ≠ x27.heap.size from hk), Below.heap_setCell _ _ _ _ (show k ≠ x27.heap.size from hk), Below.heap_setCell _ _ _ _ (show k ≠ x27.heap.size from hk), Below.heap_setCell _ _ _ _ (show k ≠ x27.heap.size from hk), Below.heap_setCell _ _ _ _ (show k ≠ x27.heap.size from hk), Below.heap_setCell _ _ _ _ (show k ≠ x27.heap.size from hk), Below.heap_setCell _ _ _ _ (show k ≠ x27.heap.size from hk)]
        have RF : RO (((((((x40.setCell ⟨x27.heap.size, 0, none⟩ (.slice na nn nc)).setCell ⟨x27.heap.size, 1, none⟩ (.int .i64 b.valid)).setCell ⟨x27.heap.size, 2, none⟩ (.int .i64 b.next)).setCell ⟨x27.heap.size, 3, none⟩ (.int .i64 b.seq)).setCell ⟨x27.heap.size, 4, none⟩ (.slice none 0 0)).setCell ⟨x27.heap.size, 5, none⟩ (.slice ga gn gc)).setCell ⟨x27.heap.size, 6, none⟩ (.int .i64 b.lost)) (fun k => N ≤ k) (.slice na nn nc) b.name := ro_oth Frn40.out (fun k hk => hoth k fun e => by subst e; exact ty_ne Fkx40.out hk (by decide))
        have GF : GonesO (((((((x40.setCell ⟨x27.heap.size, 0, none⟩ (.slice na nn nc)).setCell ⟨x27.heap.size, 1, none⟩ (.int .i64 b.valid)).setCell ⟨x27.heap.size, 2, none⟩ (.int .i64 b.next)).setCell ⟨x27.heap.size, 3, none⟩ (.int .i64 b.seq)).setCell ⟨x27.heap.size, 4, none⟩ (.slice none 0 0)).setCell ⟨x27.heap.size, 5, none⟩ (.slice ga gn gc)).setCell ⟨x27.heap.size, 6, none⟩ (.int .i64 b.lost)) (fun k => N ≤ k) (.slice ga gn gc) b.gones := gones_oth Frg40.out (fun k hk => hoth k fun e => by subst e; exact ty_ne Fkx40.out hk (by decide))
        go_simp
        refine hK.out _ _ (HS.out _ DF) (fun hHeld => ?_)
        clear hK K
        refine wpAnyH_done (by kernel_rfl) ?_ _
        go_wp2
        go_meet
        case rel => exact ⟨_, _, _, _, _, _, _, rfl, KF, RF, GF, hN27, DF⟩
    · go_simp
      have AB : Below x0.heap.size x0 (x0.alloc (.cells #[.slice none 0 0, .int .i64 0, .int .i64 0, .int .i64 0, .slice none 0 0, .slice none 0 0, .int .i64 0] 31)) := (Below.refl _ _).alloc (Nat.le_refl _) _
      have D41 : Hid (Below w0.heap.size w0 (x0.alloc (.cells #[.slice none 0 0, .int .i64 0, .int .i64 0, .int .i64 0, .slice none 0 0, .slice none 0 0, .int .i64 0] 31))) := Below.step D0.out AB
      have hN41 : N ≤ (x0.alloc (.cells #[.slice none 0 0, .int .i64 0, .int .i64 0, .int .i64 0, .slice none 0 0, .slice none 0 0, .int .i64 0] 31)).heap.size := Nat.le_trans hN0 AB.size
      have Fkx41 : Hid ((x0.alloc (.cells #[.slice none 0 0, .int .i64 0, .int .i64 0, .int .i64 0, .slice none 0 0, .slice none 0 0, .int .i64 0] 31)).heap[x0.heap.size]? = some (.cells #[.slice none 0 0, .int .i64 0, .int .i64 0, .int .i64 0, .slice none 0 0, .slice none 0 0, .int .i64 0] 31 (0, 0))) := box_new x0 _
      refine hK.out _ _ (HS.out _ D41.out) (fun hHeld => ?_)
      clear hK K AB
      generalize hw41 : x0.alloc (.cells #[.slice none 0 0, .int .i64 0, .int .i64 0, .int .i64 0, .slice none 0 0, .slice none 0 0, .int .i64 0] 31) = x41 at *
      clear hw41
      refine wpAnyH_ready (rs := [0, 10]) (by kernel_rfl) (by simp) ?_
      refine AllReadyH.cons rfl (fun K hK => ?_) (AllReadyH.cons rfl (fun K hK => ?_) AllReadyH.nil)
      · go_simp
        have AB : Below x41.heap.size x41 (x41.alloc (.cells #[] 5)) := (Below.refl _ _).alloc (Nat.le_refl _) _
        have D42 : Hid (Below w0.heap.size w0 (x41.alloc (.cells #[] 5))) := Below.step D41.out AB
        have hN42 : N ≤ (x41.alloc (.cells #[] 5)).heap.size := Nat.le_trans hN41 AB.size
        have Fkx42 : Hid _ := box_below AB Fkx41.out
        have Fn042 : Hid _ := owns_empty x41 5 1 N hN41
        refine hK.out _ _ (HS.out _ D42.out) (fun hHeld => ?_)
        clear hK K AB
        generalize hw42 : x41.alloc (.cells #[] 5) = x42 at *
        clear hw42
        refine wpAnyH_ready (rs := [3, 10]) (by kernel_rfl) (by simp) ?_
        refine AllReadyH.cons rfl (fun K hK => ?_) (AllReadyH.cons rfl (fun K hK => ?_) AllReadyH.nil)
        · refine ite_w (by kernel_rfl) (wp_cat (B := N) 9 rfl (.tmp 6) (.tmp 8) rfl Fn042.out (Bs.rd1 (HNM.out _ D42.out)) (one_byte _) Try.underlying22 hi hz0 hz1 hz2 rfl (by omega) rfl rfl hl1 hl2 hN42 ?_)
          intro V43 x43 xs43 hO43 hX43 hG43 hB43
          have hG'43 : x42.grownBy x43 (some (x41.heap.size)) := hG43
          have D43 : Hid (Below w0.heap.size w0 x43) := below_gr0 D42.out hG'43 (show w0.heap.size ≤ x41.heap.size from (D41.out.size))
          have hN43 : N ≤ x43.heap.size := Nat.le_trans hN42 hG'43.size
          have KE43 := own_ty Fn042.out
          have Fkx43 : Hid _ := box_grT hG'43 Fkx42.out KE43 (by decide)
          have hR43 : RO x43 (fun k => N ≤ k) V43 b.name := ro_of HNM0.out hO43 hX43 (fun g hg => own_ge hO43 hg)
          obtain ⟨na, nn, nc, hV43⟩ := hR43.bs.form3
          subst hV43
          have Frn43 : Hid (RO x43 (fun k => N ≤ k) (.slice na nn nc) b.name) := hR43
          refine hK.out _ _ (HS.out _ D43.out) (fun hHeld => ?_)
          clear hK K hO43 hX43 hG43 hG'43 hB43 KE43 hR43
          conv => arg 8; simp only [Act.put, sA, s0, sS]
          refine wpAnyH_ready (rs := [10]) (by kernel_rfl) (by simp) ?_
          refine AllReadyH.cons rfl (fun K hK => ?_) AllReadyH.nil
          go_simp
          have AB : Below x43.heap.size x43 (x43.alloc (.cells #[] 53)) := (Below.refl _ _).alloc (Nat.le_refl _) _
          have D44 : Hid (Below w0.heap.size w0 (x43.alloc (.cells #[] 53))) := Below.step D43.out AB
          have hN44 : N ≤ (x43.alloc (.cells #[] 53)).heap.size := Nat.le_trans hN43 AB.size
          have Frn44 : Hid (RO (x43.alloc (.cells #[] 53)) (fun k => N ≤ k) (.slice na nn nc) b.name) := Frn43.out.below AB
          have Fkx44 : Hid _ := box_below AB Fkx43.out
          have Fg044 : Hid _ := owns_empty x43 53 2 N hN43
          refine hK.out _ _ (HS.out _ D44.out) (fun hHeld => ?_)
          clear hK K AB
          generalize hw44 : x43.alloc (.cells #[] 53) = x44 at *
          clear hw44
          refine wpAnyH_ready (rs := [13]) (by kernel_rfl) (by simp) ?_
          refine AllReadyH.cons rfl (fun K hK => ?_) AllReadyH.nil
          refine ite_w (by kernel_rfl) (wp_cat (B := N) 19 rfl (.tmp 16) (.tmp 18) rfl Fg044.out (HGN.out _ D44.out) (one_gone _) Try.underlying29 hj hy0 hy1 hy2 rfl (by omega) rfl rfl hl3 hl4 hN44 ?_)
          intro V45 x45 xs45 hO45 hX45 hG45 hB45
          have hG'45 : x44.grownBy x45 (some (x43.heap.size)) := hG45
          have D45 : Hid (Below w0.heap.size w0 x45) := below_gr0 D44.out hG'45 (show w0.heap.size ≤ x43.heap.size from (D43.out.size))
          have hN45 : N ≤ x45.heap.size := Nat.le_trans hN44 hG'45.size
          have KE45 := own_ty Fg044.out
          have Frn45 : Hid (RO x45 (fun k => N ≤ k) (.slice na nn nc) b.name) := ro_grT Frn44.out hG'45 KE45 (by decide)
          have Fkx45 : Hid _ := box_grT hG'45 Fkx44.out KE45 (by decide)
          have hR45 : GonesO x45 (fun k => N ≤ k) V45 b.gones := gones_of hO45 hX45 (fun g hg => own_ge hO45 hg)
          obtain ⟨ga, gn, gc, hV45⟩ := OwF.form3 hR45
          subst hV45
          have Frg45 : Hid (GonesO x45 (fun k => N ≤ k) (.slice ga gn gc) b.gones) := hR45
          refine hK.out _ _ (HS.out _ D45.out) (fun hHeld => ?_)
          clear hK K hO45 hX45 hG45 hG'45 hB45 KE45 hR45
          conv => arg 8; simp only [Act.put, sA, s0, sS]
          refine tq 16 22 hHeld ?_
          refine wpAnyH_ready (rs := [18]) (by kernel_rfl) (by simp) ?_
          refine AllReadyH.cons rfl (fun K hK => ?_) AllReadyH.nil
          obtain ⟨zx, zl⟩ := box8z Fkx45.out
          obtain ⟨q0, q1, q2, q3, q4, q5, q6⟩ := bx7 Fkx45.out
          have KF : (((((((x45.setCell ⟨x0.heap.size, 0, none⟩ (.slice na nn nc)).setCell ⟨x0.heap.size, 1, none⟩ (.int .i64 b.valid)).setCell ⟨x0.heap.size, 2, none⟩ (.int .i64 b.next)).setCell ⟨x0.heap.size, 3, none⟩ (.int .i64 b.seq)).setCell ⟨x0.heap.size, 4, none⟩ (.slice none 0 0)).setCell ⟨x0.heap.size, 5, none⟩ (.slice ga gn gc)).setCell ⟨x0.heap.size, 6, none⟩ (.int .i64 b.lost)).heap[x0.heap.size]? = some (.cells #[.slice na nn nc, .int .i64 b.valid, .int .i64 b.next, .int .i64 b.seq, .slice none 0 0, .slice ga gn gc, .int .i64 b.lost] 31 (0, 0)) := (box_set (i := 6) (v := .int .i64 b.lost) (box_set (i := 5) (v := .slice ga gn gc) (box_set (i := 4) (v := .slice none 0 0) (box_set (i := 3) (v := .int .i64 b.seq) (box_set (i := 2) (v := .int .i64 b.next) (box_set (i := 1) (v := .int .i64 b.valid) (box_set (i := 0) (v := .slice na nn nc) Fkx45.out)))))))
          have DF : Below w0.heap.size w0 (((((((x45.setCell ⟨x0.heap.size, 0, none⟩ (.slice na nn nc)).setCell ⟨x0.heap.size, 1, none⟩ (.int .i64 b.valid)).setCell ⟨x0.heap.size, 2, none⟩ (.int .i64 b.next)).setCell ⟨x0.heap.size, 3, none⟩ (.int .i64 b.seq)).setCell ⟨x0.heap.size, 4, none⟩ (.slice none 0 0)).setCell ⟨x0.heap.size, 5, none⟩ (.slice ga gn gc)).setCell ⟨x0.heap.size, 6, none⟩ (.int .i64 b.lost)) := (((((((D45.out.setCell (p := ⟨x0.heap.size, 0, none⟩) (show w0.heap.size ≤ x0.heap.size from D0.out.size) (.slice na nn nc)).setCell (p := ⟨x0.heap.size, 1, none⟩) (show w0.heap.size ≤ x0.heap.size from D0.out.size) (.int .i64 b.valid)).setCell (p := ⟨x0.heap.size, 2, none⟩) (show w0.heap.size ≤ x0.heap.size from D0.out.size) (.int .i64 b.next)).setCell (p := ⟨x0.heap.size, 3, none⟩) (show w0.heap.size ≤ x0.heap.size from D0.out.size) (.int .i64 b.seq)).setCell (p := ⟨x0.heap.size, 4, none⟩) (show w0.heap.size ≤ x0.heap.size from D0.out.size) (.slice none 0 0)).setCell (p := ⟨x0.heap.size, 5, none⟩) (show w0.heap.size ≤ x0.heap.size from D0.out.size) (.slice ga gn gc)).setCell (p := ⟨x0.heap.size, 6, none⟩) (show w0.heap.size ≤ x0.heap.size from D0.out.size) (.int .i64 b.lost))
          have hoth : ∀ k, k ≠ x0.heap.size → (((((((x45.setCell ⟨x0.heap.size, 0, none⟩ (.slice na nn nc)).setCell ⟨x0.heap.size, 1, none⟩ (.int .i64 b.valid)).setCell ⟨x0.heap.size, 2, none⟩ (.int .i64 b.next)).setCell ⟨x0.heap.size, 3, none⟩ (.int .i64 b.seq)).setCell ⟨x0.heap.size, 4, none⟩ (.slice none 0 0)).setCell ⟨x0.heap.size, 5, none⟩ (.slice ga gn gc)).setCell ⟨x0.heap.size, 6, none⟩ (.int .i64 b.lost)).heap[k]? = x45.heap[k]? := fun k hk => by rw [Below.heap_setCell _ _ _ _ (show k ≠ x0.heap.size from hk), Below.heap_setCell _ _ _ _ (show k ≠ x0.heap.size from hk), Below.heap_setCell _ _ _ _ (show k ≠ x0.heap.size from hk), Below.heap_setCell _ _ _ _ (show k ≠ x0.heap.size from hk), Below.heap_setCell _ _ _ _ (show k ≠ x0.heap.size from hk), Below.heap_setCell _ _ _ _ (show k ≠ x0.heap.size from hk), Below.heap_setCell _ _ _ _ (show k ≠ x0.heap.size from hk)]
          have RF : RO (((((((x45.setCell ⟨x0.heap.size, 0, none⟩ (.slice na nn nc)).setCell ⟨x0.heap.size, 1, none⟩ (.int .i64 b.valid)).setCell ⟨x0.heap.size, 2, none⟩ (.int .i64 b.next)).setCell ⟨x0.heap.size, 3, none⟩ (.int .i64 b.seq)).setCell ⟨x0.heap.size, 4, none⟩ (.slice none 0 0)).setCell ⟨x0.heap.size, 5, none⟩ (.slice ga gn gc)).setCell ⟨x0.heap.size, 6, none⟩ (.int .i64 b.lost)) (fun k => N ≤ k) (.slice na nn nc) b.name := ro_oth Frn45.out (fun k hk => hoth k fun e => by subst e; exact ty_ne Fkx45.out hk (by decide))
          have GF : GonesO (((((((x45.setCell ⟨x0.heap.size, 0, none⟩ (.slice na nn nc)).setCell ⟨x0.heap.size, 1, none⟩ (.int .i64 b.valid)).setCell ⟨x0.heap.size, 2, none⟩ (.int .i64 b.next)).setCell ⟨x0.heap.size, 3, none⟩ (.int .i64 b.seq)).setCell ⟨x0.heap.size, 4, none⟩ (.slice none 0 0)).setCell ⟨x0.heap.size, 5, none⟩ (.slice ga gn gc)).setCell ⟨x0.heap.size, 6, none⟩ (.int .i64 b.lost)) (fun k => N ≤ k) (.slice ga gn gc) b.gones := gones_oth Frg45.out (fun k hk => hoth k fun e => by subst e; exact ty_ne Fkx45.out hk (by decide))
          go_simp
          refine hK.out _ _ (HS.out _ DF) (fun hHeld => ?_)
          clear hK K
          refine wpAnyH_done (by kernel_rfl) ?_ _
          go_wp2
          go_meet
          case rel => exact ⟨_, _, _, _, _, _, _, rfl, KF, RF, GF, hN0, DF⟩
        · go_simp
          have AB : Below x42.heap.size x42 (x42.alloc (.cells #[] 53)) := (Below.refl _ _).alloc (Nat.le_refl _) _
          have D46 : Hid (Below w0.heap.size w0 (x42.alloc (.cells #[] 53))) := Below.step D42.out AB
          have hN46 : N ≤ (x42.alloc (.cells #[] 53)).heap.size := Nat.le_trans hN42 AB.size
          have Fn046 : Hid _ := own_below Fn042.out AB
          have Fkx46 : Hid _ := box_below AB Fkx42.out
          have Fg046 : Hid _ := owns_empty x42 53 2 N hN42
          refine hK.out _ _ (HS.out _ D46.out) (fun hHeld => ?_)
          clear hK K AB
          generalize hw46 : x42.alloc (.cells #[] 53) = x46 at *
          clear hw46
          refine wpAnyH_ready (rs := [3]) (by kernel_rfl) (by simp) ?_
          refine AllReadyH.cons rfl (fun K hK => ?_) AllReadyH.nil
          refine ite_w (by kernel_rfl) (wp_cat (B := N) 9 rfl (.tmp 6) (.tmp 8) rfl Fn046.out (Bs.rd1 (HNM.out _ D46.out)) (one_byte _) Try.underlying22 hi hz0 hz1 hz2 rfl (by omega) rfl rfl hl1 hl2 hN46 ?_)
          intro V47 x47 xs47 hO47 hX47 hG47 hB47
          have hG'47 : x46.grownBy x47 (some (x41.heap.size)) := hG47
          have D47 : Hid (Below w0.heap.size w0 x47) := below_gr0 D46.out hG'47 (show w0.heap.size ≤ x41.heap.size from (D41.out.size))
          have hN47 : N ≤ x47.heap.size := Nat.le_trans hN46 hG'47.size
          have KE47 := own_ty Fn046.out
          have Fg047 : Hid _ := own_grT Fg046.out hG'47 KE47 (by decide)
          have Fkx47 : Hid _ := box_grT hG'47 Fkx46.out KE47 (by decide)
          have hR47 : RO x47 (fun k => N ≤ k) V47 b.name := ro_of HNM0.out hO47 hX47 (fun g hg => own_ge hO47 hg)
          obtain ⟨na, nn, nc, hV47⟩ := hR47.bs.form3
          subst hV47
          have Frn47 : Hid (RO x47 (fun k => N ≤ k) (.slice na nn nc) b.name) := hR47
          refine hK.out _ _ (HS.out _ D47.out) (fun hHeld => ?_)
          clear hK K hO47 hX47 hG47 hG'47 hB47 KE47 hR47
          conv => arg 8; simp only [Act.put, sA, s0, sS]
          refine wpAnyH_ready (rs := [13]) (by kernel_rfl) (by simp) ?_
          refine AllReadyH.cons rfl (fun K hK => ?_) AllReadyH.nil
          refine ite_w (by kernel_rfl) (wp_cat (B := N) 19 rfl (.tmp 16) (.tmp 18) rfl Fg047.out (HGN.out _ D47.out) (one_gone _) Try.underlying29 hj hy0 hy1 hy2 rfl (by omega) rfl rfl hl3 hl4 hN47 ?_)
          intro V48 x48 xs48 hO48 hX48 hG48 hB48
          have hG'48 : x47.grownBy x48 (some (x42.heap.size)) := hG48
          have D48 : Hid (Below w0.heap.size w0 x48) := below_gr0 D47.out hG'48 (show w0.heap.size ≤ x42.heap.size from (D42.out.size))
          have hN48 : N ≤ x48.heap.size := Nat.le_trans hN47 hG'48.size
          have KE48 := own_ty Fg047.out
          have Frn48 : Hid (RO x48 (fun k => N ≤ k) (.slice na nn nc) b.name) := ro_grT Frn47.out hG'48 KE48 (by decide)
          have Fkx48 : Hid _ := box_grT hG'48 Fkx47.out KE48 (by decide)
          have hR48 : GonesO x48 (fun k => N ≤ k) V48 b.gones := gones_of hO48 hX48 (fun g hg => own_ge hO48 hg)
          obtain ⟨ga, gn, gc, hV48⟩ := OwF.form3 hR48
          subst hV48
          have Frg48 : Hid (GonesO x48 (fun k => N ≤ k) (.slice ga gn gc) b.gones) := hR48
          refine hK.out _ _ (HS.out _ D48.out) (fun hHeld => ?_)
          clear hK K hO48 hX48 hG48 hG'48 hB48 KE48 hR48
          conv => arg 8; simp only [Act.put, sA, s0, sS]
          refine tq 16 22 hHeld ?_
          refine wpAnyH_ready (rs := [18]) (by kernel_rfl) (by simp) ?_
          refine AllReadyH.cons rfl (fun K hK => ?_) AllReadyH.nil
          obtain ⟨zx, zl⟩ := box8z Fkx48.out
          obtain ⟨q0, q1, q2, q3, q4, q5, q6⟩ := bx7 Fkx48.out
          have KF : (((((((x48.setCell ⟨x0.heap.size, 0, none⟩ (.slice na nn nc)).setCell ⟨x0.heap.size, 1, none⟩ (.int .i64 b.valid)).setCell ⟨x0.heap.size, 2, none⟩ (.int .i64 b.next)).setCell ⟨x0.heap.size, 3, none⟩ (.int .i64 b.seq)).setCell ⟨x0.heap.size, 4, none⟩ (.slice none 0 0)).setCell ⟨x0.heap.size, 5, none⟩ (.slice ga gn gc)).setCell ⟨x0.heap.size, 6, none⟩ (.int .i64 b.lost)).heap[x0.heap.size]? = some (.cells #[.slice na nn nc, .int .i64 b.valid, .int .i64 b.next, .int .i64 b.seq, .slice none 0 0, .slice ga gn gc, .int .i64 b.lost] 31 (0, 0)) := (box_set (i := 6) (v := .int .i64 b.lost) (box_set (i := 5) (v := .slice ga gn gc) (box_set (i := 4) (v := .slice none 0 0) (box_set (i := 3) (v := .int .i64 b.seq) (box_set (i := 2) (v := .int .i64 b.next) (box_set (i := 1) (v := .int .i64 b.valid) (box_set (i := 0) (v := .slice na nn nc) Fkx48.out)))))))
          have DF : Below w0.heap.size w0 (((((((x48.setCell ⟨x0.heap.size, 0, none⟩ (.slice na nn nc)).setCell ⟨x0.heap.size, 1, none⟩ (.int .i64 b.valid)).setCell ⟨x0.heap.size, 2, none⟩ (.int .i64 b.next)).setCell ⟨x0.heap.size, 3, none⟩ (.int .i64 b.seq)).setCell ⟨x0.heap.size, 4, none⟩ (.slice none 0 0)).setCell ⟨x0.heap.size, 5, none⟩ (.slice ga gn gc)).setCell ⟨x0.heap.size, 6, none⟩ (.int .i64 b.lost)) := (((((((D48.out.setCell (p := ⟨x0.heap.size, 0, none⟩) (show w0.heap.size ≤ x0.heap.size from D0.out.size) (.slice na nn nc)).setCell (p := ⟨x0.heap.size, 1, none⟩) (show w0.heap.size ≤ x0.heap.size from D0.out.size) (.int .i64 b.valid)).setCell (p := ⟨x0.heap.size, 2, none⟩) (show w0.heap.size ≤ x0.heap.size from D0.out.size) (.int .i64 b.next)).setCell (p := ⟨x0.heap.size, 3, none⟩) (show w0.heap.size ≤ x0.heap.size from D0.out.size) (.int .i64 b.seq)).setCell (p := ⟨x0.heap.size, 4, none⟩) (show w0.heap.size ≤ x0.heap.size from D0.out.size) (.slice none 0 0)).setCell (p := ⟨x0.heap.size, 5, none⟩) (show w0.heap.size ≤ x0.heap.size from D0.out.size) (.slice ga gn gc)).setCell (p := ⟨x0.heap.size, 6, none⟩) (show w0.heap.size ≤ x0.heap.size from D0.out.size) (.int .i64 b.lost))
          have hoth : ∀ k, k ≠ x0.heap.size → (((((((x48.setCell ⟨x0.heap.size, 0, none⟩ (.slice na nn nc)).setCell ⟨x0.heap.size, 1, none⟩ (.int .i64 b.valid)).setCell ⟨x0.heap.size, 2, none⟩ (.int .i64 b.next)).setCell ⟨x0.heap.size, 3, none⟩ (.int .i64 b.seq)).setCell ⟨x0.heap.size, 4, none⟩ (.slice none 0 0)).setCell ⟨x0.heap.size, 5, none⟩ (.slice ga gn gc)).setCell ⟨x0.heap.size, 6, none⟩ (.int .i64 b.lost)).heap[k]? = x48.heap[k]? := fun k hk => by rw [Below.heap_setCell _ _ _ _ (show k ≠ x0.heap.size from hk), Below.heap_setCell _ _ _ _ (show k ≠ x0.heap.size from hk), Below.heap_setCell _ _ _ _ (show k ≠ x0.heap.size from hk), Below.heap_setCell _ _ _ _ (show k ≠ x0.heap.size from hk), Below.heap_setCell _ _ _ _ (show k ≠ x0.heap.size from hk), Below.heap_setCell _ _ _ _ (show k ≠ x0.heap.size from hk), Below.heap_setCell _ _ _ _ (show k ≠ x0.heap.size from hk)]
          have RF : RO (((((((x48.setCell ⟨x0.heap.size, 0, none⟩ (.slice na nn nc)).setCell ⟨x0.heap.size, 1, none⟩ (.int .i64 b.valid)).setCell ⟨x0.heap.size, 2, none⟩ (.int .i64 b.next)).setCell ⟨x0.heap.size, 3, none⟩ (.int .i64 b.seq)).setCell ⟨x0.heap.size, 4, none⟩ (.slice none 0 0)).setCell ⟨x0.heap.size, 5, none⟩ (.slice ga gn gc)).setCell ⟨x0.heap.size, 6, none⟩ (.int .i64 b.lost)) (fun k => N ≤ k) (.slice na nn nc) b.name := ro_oth Frn48.out (fun k hk => hoth k fun e => by subst e; exact ty_ne Fkx48.out hk (by decide))
          have GF : GonesO (((((((x48.setCell ⟨x0.heap.size, 0, none⟩ (.slice na nn nc)).setCell ⟨x0.heap.size, 1, none⟩ (.int .i64 b.valid)).setCell ⟨x0.heap.size, 2, none⟩ (.int .i64 b.next)).setCell ⟨x0.heap.size, 3, none⟩ (.int .i64 b.seq)).setCell ⟨x0.heap.size, 4, none⟩ (.slice none 0 0)).setCell ⟨x0.heap.size, 5, none⟩ (.slice ga gn gc)).setCell ⟨x0.heap.size, 6, none⟩ (.int .i64 b.lost)) (fun k => N ≤ k) (.slice ga gn gc) b.gones := gones_oth Frg48.out (fun k hk => hoth k fun e => by subst e; exact ty_ne Fkx48.out hk (by decide))
          go_simp
          refine hK.out _ _ (HS.out _ DF) (fun hHeld => ?_)
          clear hK K
          refine wpAnyH_done (by kernel_rfl) ?_ _
          go_wp2
          go_meet
          case rel => exact ⟨_, _, _, _, _, _, _, rfl, KF, RF, GF, hN0, DF⟩
      · go_simp
        have AB : Below x41.heap.size x41 (x41.alloc (.cells #[] 53)) := (Below.refl _ _).alloc (Nat.le_refl _) _
        have D49 : Hid (Below w0.heap.size w0 (x41.alloc (.cells #[] 53))) := Below.step D41.out AB
        have hN49 : N ≤ (x41.alloc (.cells #[] 53)).heap.size := Nat.le_trans hN41 AB.size
        have Fkx49 : Hid _ := box_below AB Fkx41.out
        have Fg049 : Hid _ := owns_empty x41 53 2 N hN41
        refine hK.out _ _ (HS.out _ D49.out) (fun hHeld => ?_)
        clear hK K AB
        generalize hw49 : x41.alloc (.cells #[] 53) = x49 at *
        clear hw49
        refine wpAnyH_ready (rs := [0]) (by kernel_rfl) (by simp) ?_
        refine AllReadyH.cons rfl (fun K hK => ?_) AllReadyH.nil
        go_simp
        have AB : Below x49.heap.size x49 (x49.alloc (.cells #[] 5)) := (Below.refl _ _).alloc (Nat.le_refl _) _
        have D50 : Hid (Below w0.heap.size w0 (x49.alloc (.cells #[] 5))) := Below.step D49.out AB
        have hN50 : N ≤ (x49.alloc (.cells #[] 5)).heap.size := Nat.le_trans hN49 AB.size
        have Fg050 : Hid _ := own_below Fg049.out AB
        have Fkx50 : Hid _ := box_below AB Fkx49.out
        have Fn050 : Hid _ := owns_empty x49 5 1 N hN49
        refine hK.out _ _ (HS.out _ D50.out) (fun hHeld => ?_)
        clear hK K AB
        generalize hw50 : x49.alloc (.cells #[] 5) = x50 at *
        clear hw50
        refine wpAnyH_ready (rs := [3]) (by kernel_rfl) (by simp) ?_
        refine AllReadyH.cons rfl (fun K hK => ?_) AllReadyH.nil
        refine ite_w (by kernel_rfl) (wp_cat (B := N) 9 rfl (.tmp 6) (.tmp 8) rfl Fn050.out (Bs.rd1 (HNM.out _ D50.out)) (one_byte _) Try.underlying22 hi hz0 hz1 hz2 rfl (by omega) rfl rfl hl1 hl2 hN50 ?_)
        intro V51 x51 xs51 hO51 hX51 hG51 hB51
        have hG'51 : x50.grownBy x51 (some (x49.heap.size)) := hG51
        have D51 : Hid (Below w0.heap.size w0 x51) := below_gr0 D50.out hG'51 (show w0.heap.size ≤ x49.heap.size from (D49.out.size))
        have hN51 : N ≤ x51.heap.size := Nat.le_trans hN50 hG'51.size
        have KE51 := own_ty Fn050.out
        have Fg051 : Hid _ := own_grT Fg050.out hG'51 KE51 (by decide)
        have Fkx51 : Hid _ := box_grT hG'51 Fkx50.out KE51 (by decide)
        have hR51 : RO x51 (fun k => N ≤ k) V51 b.name := ro_of HNM0.out hO51 hX51 (fun g hg => own_ge hO51 hg)
        obtain ⟨na, nn, nc, hV51⟩ := hR51.bs.form3
        subst hV51
        have Frn51 : Hid (RO x51 (fun k => N ≤ k) (.slice na nn nc) b.name) := hR51
        refine hK.out _ _ (HS.out _ D51.out) (fun hHeld => ?_)
        clear hK K hO51 hX51 hG51 hG'51 hB51 KE51 hR51
        conv => arg 8; simp only [Act.put, sA, s0, sS]
        refine wpAnyH_ready (rs := [13]) (by kernel_rfl) (by simp) ?_
        refine AllReadyH.cons rfl (fun K hK => ?_) AllReadyH.nil
        refine ite_w (by kernel_rfl) (wp_cat (B := N) 19 rfl (.tmp 16) (.tmp 18) rfl Fg051.out (HGN.out _ D51.out) (one_gone _) Try.underlying29 hj hy0 hy1 hy2 rfl (by omega) rfl rfl hl3 hl4 hN51 ?_)
        intro V52 x52 xs52 hO52 hX52 hG52 hB52
        have hG'52 : x51.grownBy x52 (some (x41.heap.size)) := hG52
        have D52 : Hid (Below w0.heap.size w0 x52) := below_gr0 D51.out hG'52 (show w0.heap.size ≤ x41.heap.size from (D41.out.size))
        have hN52 : N ≤ x52.heap.size := Nat.le_trans hN51 hG'52.size
        have KE52 := own_ty Fg051.out
        have Frn52 : Hid (RO x52 (fun k => N ≤ k) (.slice na nn nc) b.name) := ro_grT Frn51.out hG'52 KE52 (by decide)
        have Fkx52 : Hid _ := box_grT hG'52 Fkx51.out KE52 (by decide)
        have hR52 : GonesO x52 (fun k => N ≤ k) V52 b.gones := gones_of hO52 hX52 (fun g hg => own_ge hO52 hg)
        obtain ⟨ga, gn, gc, hV52⟩ := OwF.form3 hR52
        subst hV52
        have Frg52 : Hid (GonesO x52 (fun k => N ≤ k) (.slice ga gn gc) b.gones) := hR52
        refine hK.out _ _ (HS.out _ D52.out) (fun hHeld => ?_)
        clear hK K hO52 hX52 hG52 hG'52 hB52 KE52 hR52
        conv => arg 8; simp only [Act.put, sA, s0, sS]
        refine tq 16 22 hHeld ?_
        refine wpAnyH_ready (rs := [18]) (by kernel_rfl) (by simp) ?_
        refine AllReadyH.cons rfl (fun K hK => ?_) AllReadyH.nil
        obtain ⟨zx, zl⟩ := box8z Fkx52.out
        obtain ⟨q0, q1, q2, q3, q4, q5, q6⟩ := bx7 Fkx52.out
        have KF : (((((((x52.setCell ⟨x0.heap.size, 0, none⟩ (.slice na nn nc)).setCell ⟨x0.heap.size, 1, none⟩ (.int .i64 b.valid)).setCell ⟨x0.heap.size, 2, none⟩ (.int .i64 b.next)).setCell ⟨x0.heap.size, 3, none⟩ (.int .i64 b.seq)).setCell ⟨x0.heap.size, 4, none⟩ (.slice none 0 0)).setCell ⟨x0.heap.size, 5, none⟩ (.slice ga gn gc)).setCell ⟨x0.heap.size, 6, none⟩ (.int .i64 b.lost)).heap[x0.heap.size]? = some (.cells #[.slice na nn nc, .int .i64 b.valid, .int .i64 b.next, .int .i64 b.seq, .slice none 0 0, .slice ga gn gc, .int .i64 b.lost] 31 (0, 0)) := (box_set (i := 6) (v := .int .i64 b.lost) (box_set (i := 5) (v := .slice ga gn gc) (box_set (i := 4) (v := .slice none 0 0) (box_set (i := 3) (v := .int .i64 b.seq) (box_set (i := 2) (v := .int .i64 b.next) (box_set (i := 1) (v := .int .i64 b.valid) (box_set (i := 0) (v := .slice na nn nc) Fkx52.out)))))))
        have DF : Below w0.heap.size w0 (((((((x52.setCell ⟨x0.heap.size, 0, none⟩ (.slice na nn nc)).setCell ⟨x0.heap.size, 1, none⟩ (.int .i64 b.valid)).setCell ⟨x0.heap.size, 2, none⟩ (.int .i64 b.next)).setCell ⟨x0.heap.size, 3, none⟩ (.int .i64 b.seq)).setCell ⟨x0.heap.size, 4, none⟩ (.slice none 0 0)).setCell ⟨x0.heap.size, 5, none⟩ (.slice ga gn gc)).setCell ⟨x0.heap.size, 6, none⟩ (.int .i64 b.lost)) := (((((((D52.out.setCell (p := ⟨x0.heap.size, 0, none⟩) (show w0.heap.size ≤ x0.heap.size from D0.out.size) (.slice na nn nc)).setCell (p := ⟨x0.heap.size, 1, none⟩) (show w0.heap.size ≤ x0.heap.size from D0.out.size) (.int .i64 b.valid)).setCell (p := ⟨x0.heap.size, 2, none⟩) (show w0.heap.size ≤ x0.heap.size from D0.out.size) (.int .i64 b.next)).setCell (p := ⟨x0.heap.size, 3, none⟩) (show w0.heap.size ≤ x0.heap.size from D0.out.size) (.int .i64 b.seq)).setCell (p := ⟨x0.heap.size, 4, none⟩) (show w0.heap.size ≤ x0.heap.size from D0.out.size) (.slice none 0 0)).setCell (p := ⟨x0.heap.size, 5, none⟩) (show w0.heap.size ≤ x0.heap.size from D0.out.size) (.slice ga gn gc)).setCell (p := ⟨x0.heap.size, 6, none⟩) (show w0.heap.size ≤ x0.heap.size from D0.out.size) (.int .i64 b.lost))
        have hoth : ∀ k, k ≠ x0.heap.size → (((((((x52.setCell ⟨x0.heap.size, 0, none⟩ (.slice na nn nc)).setCell ⟨x0.heap.size, 1, none⟩ (.int .i64 b.valid)).setCell ⟨x0.heap.size, 2, none⟩ (.int .i64 b.next)).setCell ⟨x0.heap.size, 3, none⟩ (.int .i64 b.seq)).setCell ⟨x0.heap.size, 4, none⟩ (.slice none 0 0)).setCell ⟨x0.heap.size, 5, none⟩ (.slice ga gn gc)).setCell ⟨x0.heap.size, 6, none⟩ (.int .i64 b.lost)).heap[k]? = x52.heap[k]? := fun k hk => by rw [Below.heap_setCell _ _ _ _ (show k ≠ x0.heap.size from hk), Below.heap_setCell _ _ _ _ (show k ≠ x0.heap.size from hk), Below.heap_setCell _ _ _ _ (show k ≠ x0.heap.size from hk), Below.heap_setCell _ _ _ _ (show k ≠ x0.heap.size from hk), Below.heap_setCell _ _ _ _ (show k ≠ x0.heap.size from hk), Below.heap_setCell _ _ _ _ (show k ≠ x0.heap.size from hk), Below.heap_setCell _ _ _ _ (show k ≠ x0.heap.size from hk)]
        have RF : RO (((((((x52.setCell ⟨x0.heap.size, 0, none⟩ (.slice na nn nc)).setCell ⟨x0.heap.size, 1, none⟩ (.int .i64 b.valid)).setCell ⟨x0.heap.size, 2, none⟩ (.int .i64 b.next)).setCell ⟨x0.heap.size, 3, none⟩ (.int .i64 b.seq)).setCell ⟨x0.heap.size, 4, none⟩ (.slice none 0 0)).setCell ⟨x0.heap.size, 5, none⟩ (.slice ga gn gc)).setCell ⟨x0.heap.size, 6, none⟩ (.int .i64 b.lost)) (fun k => N ≤ k) (.slice na nn nc) b.name := ro_oth Frn52.out (fun k hk => hoth k fun e => by subst e; exact ty_ne Fkx52.out hk (by decide))
        have GF : GonesO (((((((x52.setCell ⟨x0.heap.size, 0, none⟩ (.slice na nn nc)).setCell ⟨x0.heap.size, 1, none⟩ (.int .i64 b.valid)).setCell ⟨x0.heap.size, 2, none⟩ (.int .i64 b.next)).setCell ⟨x0.heap.size, 3, none⟩ (.int .i64 b.seq)).setCell ⟨x0.heap.size, 4, none⟩ (.slice none 0 0)).setCell ⟨x0.heap.size, 5, none⟩ (.slice ga gn gc)).setCell ⟨x0.heap.size, 6, none⟩ (.int .i64 b.lost)) (fun k => N ≤ k) (.slice ga gn gc) b.gones := gones_oth Frg52.out (fun k hk => hoth k fun e => by subst e; exact ty_ne Fkx52.out hk (by decide))
        go_simp
        refine hK.out _ _ (HS.out _ DF) (fun hHeld => ?_)
        clear hK K
        refine wpAnyH_done (by kernel_rfl) ?_ _
        go_wp2
        go_meet
        case rel => exact ⟨_, _, _, _, _, _, _, rfl, KF, RF, GF, hN0, DF⟩
  case rest =>
    obtain ⟨bx, na, nn, nc, ga, gn, gc, rfl, HX3, HRN, HRG, hbx, HD⟩ := hcut
    have hs2 : w0.heap.size = w.heap.size + 2 := HS0.out
    have hNe := HNE.out
    subst hNe
    have HB0 : Hid (Below w.heap.size w wc) := Below.step HX.out HD.out
    have HKA1 : Hid (wc.heap[w.heap.size]? = some (.cells #[.slice a0 an0 ac0, .int .i64 b.valid, .int .i64 b.next, .int .i64 b.seq, .slice a1 b.mails.length ac1, .slice a2 b.gones.length ac2, .int .i64 b.lost] 31 (0, 0))) := box_below HD.out HKA.out
    have HKR1 : Hid (wc.heap[w.heap.size + 1]? = some (.cells #[.slice none 0 0, .int .i64 0, .int .i64 0, .int .i64 0, .slice none 0 0, .slice none 0 0, .int .i64 0] 31 (0, 0))) := box_below HD.out HKR.out
    have HRN1 : Hid (RO wc (In (w.heap.size + 2) wc.heap.size) (.slice na nn nc) b.name) := ro_in HRN.out
    have HRG1 : Hid (GonesR wc (w.heap.size + 2) wc.heap.size (.slice ga gn gc) b.gones) := gones_in HRG.out
    have hlx := lt_of_heap HX3.out
    have hwc : w.heap.size + 2 ≤ wc.heap.size := by omega
    clear HD HX HKA HKR HRN HRG HS0 HNE hs2
    go_wp2
    go_loopw [4] (fun i wr => ∃ (k : Nat) (va : Option Addr) (vn vc : Nat), k ≤ b.mails.length ∧ i = .int .i64 k ∧ Hid (Below w.heap.size w wr) ∧ Hid (wr.heap[w.heap.size]? = some (.cells #[.slice a0 an0 ac0, .int .i64 b.valid, .int .i64 b.next, .int .i64 b.seq, .slice a1 b.mails.length ac1, .slice a2 b.gones.length ac2, .int .i64 b.lost] 31 (0, 0))) ∧ Hid (wr.heap[w.heap.size + 1]? = some (.cells #[.slice none 0 0, .int .i64 0, .int .i64 0, .int .i64 0, .slice none 0 0, .slice none 0 0, .int .i64 0] 31 (0, 0))) ∧ Hid (wr.heap[bx]? = some (.cells #[.slice na nn nc, .int .i64 b.valid, .int .i64 b.next, .int .i64 b.seq, .slice va vn vc, .slice ga gn gc, .int .i64 b.lost] 31 (0, 0))) ∧ Hid (RO wr (In (w.heap.size + 2) wc.heap.size) (.slice na nn nc) b.name) ∧ Hid (GonesR wr (w.heap.size + 2) wc.heap.size (.slice ga gn gc) b.gones) ∧ wc.heap.size ≤ wr.heap.size ∧ Hid (MailsR wr wc.heap.size wr.heap.size (.slice va vn vc) (b.mails.take k))) (fun i _ => b.mails.length - (intOf i).toNat)
    case atStart => exact ⟨0, none, 0, 0, Nat.zero_le _, rfl, HB0, HKA1, HKR1, HX3, HRN1, HRG1, Nat.le_refl _, .inl ⟨rfl, rfl⟩⟩
    case round =>
      obtain ⟨k, va, vn, vc, hk, rfl, HB, HKA, HKR, HX, HN, HG, hs, HO⟩ := hrel
      clear HB0 HKA1 HKR1 HX3 HRN1 HRG1
      obtain ⟨c0, c1, c2, c3, c4, c5, c6⟩ := bx7 HKA.out
      have lA := lt_of_heap HKA.out
      have lX := lt_of_heap HX.out
      by_cases hlt : k < b.mails.length
      · obtain ⟨m, hm⟩ : ∃ m, b.mails[k]? = some m := ⟨b.mails[k], List.getElem?_eq_getElem hlt⟩
        have hmem : m ∈ b.mails := List.mem_of_getElem? hm
        have hmt : m.text.length + 1 ≤ szM b.mails := szM_mem hmem
        obtain ⟨bb, off, cp, t, hv', hlb, d0, d1, d2, d3, ht, hi3⟩ := MailsV.cell (HMM1.out wr HB.out) k m hm
        simp only [Value.slice.injEq, true_and] at hv'
        obtain ⟨rfl, rfl⟩ := hv'
        have HT : Hid (Bs wr t m.text) := ht
        have HI3 : Hid (I64 m.uid ∧ I64 m.flags ∧ I64 m.seq) := hi3
        obtain ⟨ta, tn, tc, rfl⟩ := ht.form3
        have HM : Hid (b.mails[k]? = some m) := hm
        have hki : (k : Int) < b.mails.length := by omega
        clear ht hi3 hm hmem
        go_upto_region 6 with fail
        have AB : Below wr.heap.size wr (wr.alloc (.cells #[.int .i64 m.uid, .int .i64 m.flags, .int .i64 m.seq, .slice ta tn tc] 43)) := (Below.refl _ _).alloc (Nat.le_refl _) _
        have KM := box_new wr (.cells #[.int .i64 m.uid, .int .i64 m.flags, .int .i64 m.seq, .slice ta tn tc] 43)
        have HB5 : Hid (Below w.heap.size w (wr.alloc (.cells #[.int .i64 m.uid, .int .i64 m.flags, .int .i64 m.seq, .slice ta tn tc] 43))) := Below.step HB.out AB
        have HT5 : Hid (Bs (wr.alloc (.cells #[.int .i64 m.uid, .int .i64 m.flags, .int .i64 m.seq, .slice ta tn tc] 43)) (.slice ta tn tc) m.text) := HT.out.below AB
        have HKA5 := hidm' (box_below AB HKA.out)
        have HKR5 := hidm' (box_below AB HKR.out)
        have HX5 := hidm' (box_below AB HX.out)
        have HN5 : Hid (RO (wr.alloc (.cells #[.int .i64 m.uid, .int .i64 m.flags, .int .i64 m.seq, .slice ta tn tc] 43)) (In (w.heap.size + 2) wc.heap.size) (.slice na nn nc) b.name) := HN.out.below AB
        have HG5 : Hid (GonesR (wr.alloc (.cells #[.int .i64 m.uid, .int .i64 m.flags, .int .i64 m.seq, .slice ta tn tc] 43)) (w.heap.size + 2) wc.heap.size (.slice ga gn gc) b.gones) := OwR.below HG.out AB
        have HO5 : Hid (MailsR (wr.alloc (.cells #[.int .i64 m.uid, .int .i64 m.flags, .int .i64 m.seq, .slice ta tn tc] 43)) wc.heap.size wr.heap.size (.slice va vn vc) (b.mails.take k)) := OwR.below HO.out AB
        have HS5 : Hid ((wr.alloc (.cells #[.int .i64 m.uid, .int .i64 m.flags, .int .i64 m.seq, .slice ta tn tc] 43)).heap.size = wr.heap.size + 1) := by show _ = _; simp
        generalize hw5 : wr.alloc (.cells #[.int .i64 m.uid, .int .i64 m.flags, .int .i64 m.seq, .slice ta tn tc] 43) = w5 at *
        clear hw5 AB HB HT HKA HKR HX HN HG HO c0 c1 c2 c3 c4 c5 c6 d0 d1 d2 d3 lA lX hlb
        obtain ⟨m0, m1, m2, m3⟩ := bx4 KM
        obtain ⟨mz, ml⟩ := box8z KM
        have h5 : wr.heap.size + 1 ≤ w5.heap.size := by have := HS5.out; omega
        have AE : Below w5.heap.size w5 (w5.alloc (.cells #[] 5)) := (Below.refl _ _).alloc (Nat.le_refl _) _
        have hE := owns_empty w5 5 1 w5.heap.size (Nat.le_refl _)
        have HTE := Bs.rd1 (HT5.out.below AE)
        have ht1 : m.text.length ≤ maxLen := by unfold maxLen; omega
        have ht2 : m.text.length * 1 ≤ 140737488355328 := by omega
        have hBE : w5.heap.size ≤ (w5.alloc (.cells #[] 5)).heap.size := AE.size
        go_wp2_with (at_builtin; refine wpList_cat (B := w5.heap.size) rfl (.tmp 35) (.tmp 37) rfl hE HTE (one_byte _) Try.underlying22 hi hz0 hz1 hz2 rfl (by omega) rfl rfl ht1 ht2 hBE ?_)
        intro TV w6 xs hO6 hX6 hG6 hB6
        have hG6' : (w5.alloc (.cells #[] 5)).grownBy w6 (some w5.heap.size) := hG6
        have HB6 : Hid (Below w.heap.size w w6) := below_gr0 (Below.step HB5.out AE) hG6' (by omega)
        have KM6 := gr_at hG6' (box_below AE KM) (by omega)
        have HKA6 := hidm' (gr_at hG6' (box_below AE HKA5.out) (by omega))
        have HKR6 := hidm' (gr_at hG6' (box_below AE HKR5.out) (by omega))
        have HX6 := hidm' (gr_at hG6' (box_below AE HX5.out) (by omega))
        have HN6 : Hid (RO w6 (In (w.heap.size + 2) wc.heap.size) (.slice na nn nc) b.name) := ro_gr (HN5.out.below AE) hG6' (.inr (by omega))
        have HG6 : Hid (GonesR w6 (w.heap.size + 2) wc.heap.size (.slice ga gn gc) b.gones) := OwR.gr (OwR.below HG5.out AE) hG6' (.inr (by omega))
        have HO6 : Hid (MailsR w6 wc.heap.size wr.heap.size (.slice va vn vc) (b.mails.take k)) := OwR.gr (OwR.below HO5.out AE) hG6' (.inr (by omega))
        have RT : RO w6 (fun k => w5.heap.size ≤ k) TV m.text := ro_of (w0 := w5.alloc (.cells #[] 5)) HT5.out.1 hO6 (fun i x h => by obtain ⟨c, h1, h2, h3⟩ := hX6 i x h; exact ⟨c, h1, h2, fun j y hy => by rw [Nat.mul_one]; exact h3 j y hy⟩) (fun g hg => own_ge hO6 hg)
        obtain ⟨xa, xn, xc, hTV⟩ := RT.bs.form3
        subst hTV
        have HRT : Hid (RO w6 (In w5.heap.size w6.heap.size) (.slice xa xn xc) m.text) := ro_in RT
        have h6 : w5.heap.size ≤ w6.heap.size := by have := hG6'.size; omega
        clear hG6 hG6' hB6 hO6 hX6 RT hE HTE AE m0 m1 m2 m3 mz ml KM HB5 HT5 HKA5 HKR5 HX5 HN5 HG5 HO5 hBE
        obtain ⟨m0, m1, m2, m3⟩ := bx4 KM6
        obtain ⟨mz, ml⟩ := box8z KM6
        go_upto_region 7 with fail
        have KM7 : (w6.setCell ⟨wr.heap.size, 3, none⟩ (.slice xa xn xc)).heap[wr.heap.size]? = some (.cells #[.int .i64 m.uid, .int .i64 m.flags, .int .i64 m.seq, .slice xa xn xc] 43 (0, 0)) := box_set KM6
        have HB7 : Hid (Below w.heap.size w (w6.setCell ⟨wr.heap.size, 3, none⟩ (.slice xa xn xc))) := HB6.out.setCell (p := ⟨wr.heap.size, 3, none⟩) (show w.heap.size ≤ wr.heap.size by omega) _
        have HKA7 := hidm' (box_other (k := wr.heap.size) (i := 3) (v := .slice xa xn xc) HKA6.out (by omega))
        have HKR7 := hidm' (box_other (k := wr.heap.size) (i := 3) (v := .slice xa xn xc) HKR6.out (by omega))
        have HX7 := hidm' (box_other (k := wr.heap.size) (i := 3) (v := .slice xa xn xc) HX6.out (by omega))
        have HN7 : Hid (RO (w6.setCell ⟨wr.heap.size, 3, none⟩ (.slice xa xn xc)) (In (w.heap.size + 2) wc.heap.size) (.slice na nn nc) b.name) := ro_set HN6.out (.inr (by omega))
        have HG7 : Hid (GonesR (w6.setCell ⟨wr.heap.size, 3, none⟩ (.slice xa xn xc)) (w.heap.size + 2) wc.heap.size (.slice ga gn gc) b.gones) := OwR.set HG6.out (.inr (by omega))
        have HO7 : Hid (MailsR (w6.setCell ⟨wr.heap.size, 3, none⟩ (.slice xa xn xc)) wc.heap.size wr.heap.size (.slice va vn vc) (b.mails.take k)) := OwR.set HO6.out (.inr (by omega))
        have HRT7 : Hid (RO (w6.setCell ⟨wr.heap.size, 3, none⟩ (.slice xa xn xc)) (In w5.heap.size w6.heap.size) (.slice xa xn xc) m.text) := ro_set HRT.out (.inl (by omega))
        have HS7 : Hid ((w6.setCell ⟨wr.heap.size, 3, none⟩ (.slice xa xn xc)).heap.size = w6.heap.size) := box_size
        clear m0 m1 m2 m3 mz ml KM6 HB6 HKA6 HKR6 HX6 HN6 HG6 HO6 HRT
        generalize hw7 : w6.setCell ⟨wr.heap.size, 3, none⟩ (.slice xa xn xc) = w7 at *
        clear hw7
        obtain ⟨m0, m1, m2, m3⟩ := bx4 KM7
        have ml := lt_of_heap KM7
        obtain ⟨y0, y1, y2, y3, y4, y5, y6⟩ := bx7 HX7.out
        have lX := lt_of_heap HX7.out
        have AP : Below w7.heap.size w7 (w7.alloc (.cells #[.int .i64 m.uid, .int .i64 m.flags, .int .i64 m.seq, .slice xa xn xc] 43)) := (Below.refl _ _).alloc (Nat.le_refl _) _
        have hsp : (w7.alloc (.cells #[.int .i64 m.uid, .int .i64 m.flags, .int .i64 m.seq, .slice xa xn xc] 43)).heap.size = w7.heap.size + 1 := by simp
        have HE : Hid (MailE (w7.alloc (.cells #[.int .i64 m.uid, .int .i64 m.flags, .int .i64 m.seq, .slice xa xn xc] 43)) [.int .i64 m.uid, .int .i64 m.flags, .int .i64 m.seq, .slice xa xn xc] m (In wr.heap.size (w7.alloc (.cells #[.int .i64 m.uid, .int .i64 m.flags, .int .i64 m.seq, .slice xa xn xc] 43)).heap.size)) := ⟨_, rfl, (HRT7.out.below AP).mono (fun b hb => ⟨by have := hb.1; omega, by have := hb.2; have := HS7.out; omega⟩), HI3.out⟩
        have hMs : wr.heap.size ≤ (w7.alloc (.cells #[.int .i64 m.uid, .int .i64 m.flags, .int .i64 m.seq, .slice xa xn xc] 43)).heap.size := by have := HS7.out; omega
        have HSP : Hid _ := hsp
        clear hsp
        have HOp : Hid _ := OwR.below HO7.out AP
        have htk : Hid ((b.mails.take k).length = k) := by show _ = _; simp; omega
        have hp1 : (b.mails.take k).length + 1 ≤ maxLen := by have := htk.out; unfold maxLen; have := szM_len b.mails; omega
        have hp2 : ((b.mails.take k).length + 1) * 48 ≤ 140737488355328 := by have := htk.out; have := szM_len b.mails; omega
        go_wp2_with (at_builtin; refine wpList_push rfl (.tmp 41) (.tmp 43) rfl framesMail (B := wc.heap.size) (M := wr.heap.size) HOp.out hMs hs Try.underlying28 hq hv0 hv1 hv2 rfl (by omega) rfl m [.int .i64 m.uid, .int .i64 m.flags, .int .i64 m.seq, .slice xa xn xc] rfl HE.out ⟨w7.heap.size, 0, none⟩ 1 rfl (cells_new w7 _ _) one4' hp1 hp2 ?_)
        intro DV wz hO hgz hvz
        obtain ⟨da, dn, dc, hDV⟩ := OwR.form3 hO
        subst hDV
        have hge : ∀ j, (Value.slice va vn vc).ownBlock = some j → wc.heap.size ≤ j := fun j hj => (hvz j hj).1
        have KX := grown_at hgz hge (box_below AP HX7.out) (by omega)
        have HKAz := hidm' (grown_at hgz hge (box_below AP HKA7.out) (by omega))
        have HKRz := hidm' (grown_at hgz hge (box_below AP HKR7.out) (by omega))
        have HBz : Hid (Below w.heap.size w wz) := grown_below (Below.step HB7.out AP) hgz hge (by omega) (by have := AP.size; omega)
        have HNz : Hid (RO wz (In (w.heap.size + 2) wc.heap.size) (.slice na nn nc) b.name) := ro_gr' (HN7.out.below AP) hgz hge
        have HGz : Hid (GonesR wz (w.heap.size + 2) wc.heap.size (.slice ga gn gc) b.gones) := OwR.gr' (OwR.below HG7.out AP) hgz hge
        have sz := hgz.size
        have S7o := HS7.out
        have SPo := HSP.out
        obtain ⟨zx, zl⟩ := box8z KX
        obtain ⟨e0, e1, e2, e3, e4, e5, e6⟩ := bx7 KX
        have HX9 : Hid ((wz.setCell ⟨bx, 4, none⟩ (.slice da dn dc)).heap[bx]? = some (.cells #[.slice na nn nc, .int .i64 b.valid, .int .i64 b.next, .int .i64 b.seq, .slice da dn dc, .slice ga gn gc, .int .i64 b.lost] 31 (0, 0))) := box_set KX
        have HKA9 := hidm' (box_other (k := bx) (i := 4) (v := .slice da dn dc) HKAz.out (by omega))
        have HKR9 := hidm' (box_other (k := bx) (i := 4) (v := .slice da dn dc) HKRz.out (by omega))
        have HB9 : Hid (Below w.heap.size w (wz.setCell ⟨bx, 4, none⟩ (.slice da dn dc))) := HBz.out.setCell (p := ⟨bx, 4, none⟩) (show w.heap.size ≤ bx by omega) _
        have HN9 : Hid (RO (wz.setCell ⟨bx, 4, none⟩ (.slice da dn dc)) (In (w.heap.size + 2) wc.heap.size) (.slice na nn nc) b.name) := ro_oth HNz.out (fun k hk => Below.heap_setCell _ _ _ _ (show k ≠ bx from fun e => by subst e; exact ty_ne KX hk (by decide)))
        have HG9 : Hid (GonesR (wz.setCell ⟨bx, 4, none⟩ (.slice da dn dc)) (w.heap.size + 2) wc.heap.size (.slice ga gn gc) b.gones) := gones_oth HGz.out (fun k hk => Below.heap_setCell _ _ _ _ (show k ≠ bx from fun e => by subst e; exact ty_ne KX hk (by decide)))
        have HO9 : Hid (MailsR (wz.setCell ⟨bx, 4, none⟩ (.slice da dn dc)) wc.heap.size (wz.setCell ⟨bx, 4, none⟩ (.slice da dn dc)).heap.size (.slice da dn dc) (b.mails.take (k + 1))) := by show MailsR _ _ _ _ _; rw [box_size, take_snoc HM.out]; exact OwR.set hO (.inl (by omega))
        have hs9 : wc.heap.size ≤ (wz.setCell ⟨bx, 4, none⟩ (.slice da dn dc)).heap.size := by rw [box_size]; omega
        clear KX HKAz HKRz HBz HNz HGz HX7 HKA7 HKR7 HB7 HN7 HG7 HO7 HRT7 KM7 HE HOp hO hgz hvz hge AP m0 m1 m2 m3 y0 y1 y2 y3 y4 y5 y6
        go_wp2
        go_roundw
        case rel => exact ⟨k + 1, da, dn, dc, by omega, by go_num, HB9, HKA9, HKR9, HX9, HN9, HG9, hs9, HO9⟩
        case measure => simp [intOf]; omega
      · obtain rfl : k = b.mails.length := by omega
        obtain ⟨d0, d1, d2, d3, d4, d5, d6⟩ := bx7 HX.out
        obtain ⟨r0, r1, r2, r3, r4, r5, r6⟩ := bx7 HKR.out
        obtain ⟨rz, rl⟩ := box8z HKR.out
        have HDf : Hid (Below w.heap.size w (((((((wr.setCell ⟨w.heap.size + 1, 0, none⟩ (.slice na nn nc)).setCell ⟨w.heap.size + 1, 1, none⟩ (.int .i64 b.valid)).setCell ⟨w.heap.size + 1, 2, none⟩ (.int .i64 b.next)).setCell ⟨w.heap.size + 1, 3, none⟩ (.int .i64 b.seq)).setCell ⟨w.heap.size + 1, 4, none⟩ (.slice va vn vc)).setCell ⟨w.heap.size + 1, 5, none⟩ (.slice ga gn gc)).setCell ⟨w.heap.size + 1, 6, none⟩ (.int .i64 b.lost))) := (((((((HB.out.setCell (p := ⟨w.heap.size + 1, 0, none⟩) (by simp) (.slice na nn nc)).setCell (p := ⟨w.heap.size + 1, 1, none⟩) (by simp) (.int .i64 b.valid)).setCell (p := ⟨w.heap.size + 1, 2, none⟩) (by simp) (.int .i64 b.next)).setCell (p := ⟨w.heap.size + 1, 3, none⟩) (by simp) (.int .i64 b.seq)).setCell (p := ⟨w.heap.size + 1, 4, none⟩) (by simp) (.slice va vn vc)).setCell (p := ⟨w.heap.size + 1, 5, none⟩) (by simp) (.slice ga gn gc)).setCell (p := ⟨w.heap.size + 1, 6, none⟩) (by simp) (.int .i64 b.lost))
        have HNf : Hid (RO (((((((wr.setCell ⟨w.heap.size + 1, 0, none⟩ (.slice na nn nc)).setCell ⟨w.heap.size + 1, 1, none⟩ (.int .i64 b.valid)).setCell ⟨w.heap.size + 1, 2, none⟩ (.int .i64 b.next)).setCell ⟨w.heap.size + 1, 3, none⟩ (.int .i64 b.seq)).setCell ⟨w.heap.size + 1, 4, none⟩ (.slice va vn vc)).setCell ⟨w.heap.size + 1, 5, none⟩ (.slice ga gn gc)).setCell ⟨w.heap.size + 1, 6, none⟩ (.int .i64 b.lost)) (In (w.heap.size + 2) wc.heap.size) (.slice na nn nc) b.name) := (ro_set (g := w.heap.size + 1) (i := 6) (x := .int .i64 b.lost) (ro_set (g := w.heap.size + 1) (i := 5) (x := .slice ga gn gc) (ro_set (g := w.heap.size + 1) (i := 4) (x := .slice va vn vc) (ro_set (g := w.heap.size + 1) (i := 3) (x := .int .i64 b.seq) (ro_set (g := w.heap.size + 1) (i := 2) (x := .int .i64 b.next) (ro_set (g := w.heap.size + 1) (i := 1) (x := .int .i64 b.valid) (ro_set (g := w.heap.size + 1) (i := 0) (x := .slice na nn nc) HN.out (.inl (by omega))) (.inl (by omega))) (.inl (by omega))) (.inl (by omega))) (.inl (by omega))) (.inl (by omega))) (.inl (by omega)))
        have HGf : Hid (GonesR (((((((wr.setCell ⟨w.heap.size + 1, 0, none⟩ (.slice na nn nc)).setCell ⟨w.heap.size + 1, 1, none⟩ (.int .i64 b.valid)).setCell ⟨w.heap.size + 1, 2, none⟩ (.int .i64 b.next)).setCell ⟨w.heap.size + 1, 3, none⟩ (.int .i64 b.seq)).setCell ⟨w.heap.size + 1, 4, none⟩ (.slice va vn vc)).setCell ⟨w.heap.size + 1, 5, none⟩ (.slice ga gn gc)).setCell ⟨w.heap.size + 1, 6, none⟩ (.int .i64 b.lost)) (w.heap.size + 2) wc.heap.size (.slice ga gn gc) b.gones) := (OwR.set (i := 6) (x := .int .i64 b.lost) (OwR.set (i := 5) (x := .slice ga gn gc) (OwR.set (i := 4) (x := .slice va vn vc) (OwR.set (i := 3) (x := .int .i64 b.seq) (OwR.set (i := 2) (x := .int .i64 b.next) (OwR.set (i := 1) (x := .int .i64 b.valid) (OwR.set (i := 0) (x := .slice na nn nc) HG.out (.inl (by omega))) (.inl (by omega))) (.inl (by omega))) (.inl (by omega))) (.inl (by omega))) (.inl (by omega))) (.inl (by omega)))
        have HOf : Hid (MailsR (((((((wr.setCell ⟨w.heap.size + 1, 0, none⟩ (.slice na nn nc)).setCell ⟨w.heap.size + 1, 1, none⟩ (.int .i64 b.valid)).setCell ⟨w.heap.size + 1, 2, none⟩ (.int .i64 b.next)).setCell ⟨w.heap.size + 1, 3, none⟩ (.int .i64 b.seq)).setCell ⟨w.heap.size + 1, 4, none⟩ (.slice va vn vc)).setCell ⟨w.heap.size + 1, 5, none⟩ (.slice ga gn gc)).setCell ⟨w.heap.size + 1, 6, none⟩ (.int .i64 b.lost)) wc.heap.size wr.heap.size (.slice va vn vc) b.mails) := by
          have h : MailsR wr wc.heap.size wr.heap.size (.slice va vn vc) b.mails := by have := HO.out; rwa [List.take_length] at this
          exact (OwR.set (i := 6) (x := .int .i64 b.lost) (OwR.set (i := 5) (x := .slice ga gn gc) (OwR.set (i := 4) (x := .slice va vn vc) (OwR.set (i := 3) (x := .int .i64 b.seq) (OwR.set (i := 2) (x := .int .i64 b.next) (OwR.set (i := 1) (x := .int .i64 b.valid) (OwR.set (i := 0) (x := .slice na nn nc) h (.inl (by omega))) (.inl (by omega))) (.inl (by omega))) (.inl (by omega))) (.inl (by omega))) (.inl (by omega))) (.inl (by omega)))
        have KF := (box_set (i := 6) (v := .int .i64 b.lost) (box_set (i := 5) (v := .slice ga gn gc) (box_set (i := 4) (v := .slice va vn vc) (box_set (i := 3) (v := .int .i64 b.seq) (box_set (i := 2) (v := .int .i64 b.next) (box_set (i := 1) (v := .int .i64 b.valid) (box_set (i := 0) (v := .slice na nn nc) HKR.out)))))))
        obtain ⟨f0, f1, f2, f3, f4, f5, f6⟩ := bx7 KF
        have hszf : Hid ((((((((wr.setCell ⟨w.heap.size + 1, 0, none⟩ (.slice na nn nc)).setCell ⟨w.heap.size + 1, 1, none⟩ (.int .i64 b.valid)).setCell ⟨w.heap.size + 1, 2, none⟩ (.int .i64 b.next)).setCell ⟨w.heap.size + 1, 3, none⟩ (.int .i64 b.seq)).setCell ⟨w.heap.size + 1, 4, none⟩ (.slice va vn vc)).setCell ⟨w.heap.size + 1, 5, none⟩ (.slice ga gn gc)).setCell ⟨w.heap.size + 1, 6, none⟩ (.int .i64 b.lost)).heap.size = wr.heap.size) := by show _ = _; simp only [box_size]
        clear KF c0 c1 c2 c3 c5 c6 HKA
        go_wp2
        refine bodyPost_ret (v := .agg #[.slice na nn nc, .int .i64 b.valid, .int .i64 b.next, .int .i64 b.seq, .slice va vn vc, .slice ga gn gc, .int .i64 b.lost]) (by simp [results, Try.results17, go_sem, f0, f1, f2, f3, f4, f5, f6]) rfl ⟨_, rfl, ?_, HDf.out⟩
        exact ⟨_, rfl, _, _, _, (fun x => In (w.heap.size + 2) wc.heap.size x ∧ (Value.slice na nn nc).ownBlock = some x), In wc.heap.size wr.heap.size, (fun x => In (w.heap.size + 2) wc.heap.size x ∧ Ty (((((((wr.setCell ⟨w.heap.size + 1, 0, none⟩ (.slice na nn nc)).setCell ⟨w.heap.size + 1, 1, none⟩ (.int .i64 b.valid)).setCell ⟨w.heap.size + 1, 2, none⟩ (.int .i64 b.next)).setCell ⟨w.heap.size + 1, 3, none⟩ (.int .i64 b.seq)).setCell ⟨w.heap.size + 1, 4, none⟩ (.slice va vn vc)).setCell ⟨w.heap.size + 1, 5, none⟩ (.slice ga gn gc)).setCell ⟨w.heap.size + 1, 6, none⟩ (.int .i64 b.lost)) x 53), rfl, ro_self HNf.out, HOf.out, gones_self HGf.out, (fun x hx => ⟨⟨by have := hx.1.1; omega, by have := hx.1.2; rw [hszf.out]; omega⟩, fun h => by have := hx.1.2; have := h.1; omega, fun h => by obtain ⟨cs, fz, h3⟩ := ro_ty HNf.out hx.2; exact ty_ne h3 h.2 (by decide)⟩), (fun x hx => ⟨⟨by have := hx.1; omega, by have := hx.2; rw [hszf.out]; omega⟩, fun h => by have := hx.1; have := h.1.2; omega⟩), (fun x hx => ⟨by have := hx.1.1; omega, by have := hx.1.2; rw [hszf.out]; omega⟩), HINT.out⟩

end Go.Proofs.Ytodoofdbpffolaa
