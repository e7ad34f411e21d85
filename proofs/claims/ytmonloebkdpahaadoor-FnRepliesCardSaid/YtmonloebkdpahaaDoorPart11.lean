/- The proof's texts, part 11. -/
import Derived.Test.YtmonloebkdpahaaDoorPart9
import Derived.Test.YtmonloebkdpahaaDoorPart10
import Derived.Test.YtmonloebkdpahaaDoorPart6
import Derived.Test.YtmonloebkdpahaaDoorPart8

/- What l3drop of package spec does. -/
namespace Go.Proofs.YtmonloebkdpahaaDoor
open Go.RowKit
set_option maxRecDepth 100000
set_option linter.unusedVariables false
set_option linter.unusedSimpArgs false

theorem tab_drop0 : (Tryd.f93.body.bind (opsAt 0)).all (fun o => tableS o 15 [0, 1, 2, 3, 4, 5, 6, 7, 8, 9, 10, 11, 12, 13, 14] [13, 14] [15] 0) = true := by kernel_rfl
theorem tab_drop1 : (Tryd.f93.body.bind (opsAt 1)).all (fun o => tableS o 20 [0, 2, 3, 4, 5, 6, 7, 9, 10, 11, 12, 13, 14, 15, 1, 8, 16, 17, 18, 19] [14, 15, 16, 19] [17, 20] 0) = true := by kernel_rfl
theorem bxg {w : World} {g : Nat} {t : TypeId} {c0 c1 : Value} (h : w.heap[g]? = some (.cells #[c0, c1] t (0, 0))) : w.cell? ⟨g, 0, none⟩ = some c0 ∧ w.cell? ⟨g, 1, none⟩ = some c1 := ⟨cell_of_row w g 0 _ t (0, 0) h, cell_of_row w g 1 _ t (0, 0) h⟩
theorem Rd.drop' {α : Type} {sz b off c k : Nat} {RE : World → List Value → α → Prop} {w : World} {m : List α} (h : Rd sz RE w (.slice (some ⟨b, off, none⟩) m.length c) m) (hk : k ≤ m.length) : Rd sz RE w (.slice (if c = k then some ⟨b, off, none⟩ else some ⟨b, off + k * sz, none⟩) (m.length - k) (c - k)) (m.drop k) := by
  by_cases e : c = k
  · have hc : m.length ≤ c := by obtain ⟨_, _, _, e, h, -⟩ := h; cases e; exact h
    have hm : m.length = k := by omega
    rw [if_pos e, hm, e, Nat.sub_self, List.drop_eq_nil_of_le (by omega)]
    exact ⟨some ⟨b, off, none⟩, 0, fun _ => [], by simp, by simp, by simp, (fun h => by cases h), by simp, by simp⟩
  · rw [if_neg e]
    exact h.drop hk
theorem tab_dropGA : (Tryd.f93.body.bind (opsAt 2)).all (fun o => tableB o 13 [0, 2, 3, 4, 5, 7, 8, 1, 6, 9, 10, 11, 12] [7, 8, 9, 12] [6] [10, 13] 0) = true := by kernel_rfl
theorem tab_dropGB : (Tryd.f93.body.bind (opsAt 2)).all (fun o => tableB o 13 [0, 2, 3, 4, 5, 7, 1, 8, 6, 9, 10, 11, 12] [8, 9, 12] [6, 7] [10, 13] 0) = true := by kernel_rfl
theorem tab_dropGC : (Tryd.f93.body.bind (opsAt 2)).all (fun o => tableB o 13 [0, 2, 3, 4, 5, 7, 1, 6, 8, 9, 10, 11, 12] [8, 9, 12] [6, 7] [10, 13] 0) = true := by kernel_rfl
theorem own_lt {w : World} {B n g m c : Nat} {e : TypeId} {sz : Nat} {xs : List Value} (h : w.ownsRow B e sz (.slice (some ⟨g, 0, none⟩) m c) n xs) : g < w.heap.size := by
  rcases h.2 with ⟨h, -⟩ | ⟨g', cap, cur, h, -, hh, -⟩
  · cases h
  · cases h
    exact lt_of_heap hh
theorem cells_in {w : World} {g : Nat} {cs : Array Value} {t : TypeId} (h : w.heap[g]? = some (.cells cs t (0, 0))) : ∀ j u, cs.toList[j]? = some u → w.cell? ((⟨g, 0, none⟩ : Addr).add j) = some u := by
  intro j u hu
  rw [Addr.add_lit, Nat.zero_add, cell_of_row _ _ _ _ _ (0, 0) h]
  simpa using hu
/-- How many gones a box behind a pointer holds. -/
def gLen (w : World) (g o : Nat) : Nat := match w.cell? ⟨g, o + 5, none⟩ with | some (.slice _ n _) => n | _ => 0
theorem cell_set_here {w : World} {g o j : Nat} {x : Value} (hf : ∀ cur t, w.heap[g]? = some (.cells cur t (0, 0)) → o + 7 ≤ cur.size) (ht : Ty w g 35) (hj : j < 7) (h0 : ∃ cur, w.heap[g]? = some (.cells cur 35 (0, 0))) : (w.setCell ⟨g, o + j, none⟩ x).cell? ⟨g, o + j, none⟩ = some x := by
  obtain ⟨cur, hh⟩ := h0
  have hs := hf cur _ hh
  rw [cell_of_row _ g (o + j) _ _ (0, 0) (box_set hh), Array.getElem?_setIfInBounds_self_of_lt (by omega)]
theorem gonesq_tail {w : World} {l : List GoneD} {b off c : Nat} (h : GonesQ w (.slice (some ⟨b, off, none⟩) l.length c) l) (hl : 1 < l.length) : GonesQ w (.slice (some ⟨b, off + 1 * 2, none⟩) (l.length - 1) (c - 1)) (l.drop 1) := by
  refine ⟨h.1.drop (by omega), fun a n c' e hp => ?_⟩
  cases e
  exact h.2 ⟨b, off, none⟩ l.length c rfl (by omega)
/-- What went is put behind those that went. -/
theorem drop_gones {wb x : World} {S : Nat → Prop} {g o : Nat} {b0 : BoxD} {gs : List GoneD} {xg : List Value} {da : Option Addr} {dn dc : Nat} {nu ns : Int} (hp : BoxP wb S g o b0) (hD : Below wb.heap.size wb x)
    (hm : x.ownsRow wb.heap.size 57 2 (.slice da dn dc) (gs.length + 1) (xg ++ [.int .i64 nu, .int .i64 ns])) {wy : World}
    (hx : ∀ i m, gs[i]? = some m → ∃ c, c.length = 2 ∧ GoneRE wy c m ∧ ∀ j y, c[j]? = some y → xg[i * 2 + j]? = some y) (hxl : xg.length = gs.length * 2) (hi : I64 nu ∧ I64 ns) :
    BoxP (x.setCell ⟨g, o + 5, none⟩ (.slice da dn dc)) S g o ⟨b0.name, b0.valid, b0.next, b0.seq, b0.mails, gs ++ [⟨nu, ns⟩], b0.lost⟩ ∧ Turns wb (x.setCell ⟨g, o + 5, none⟩ (.slice da dn dc)) S g o := by
  have hp' := hp.below hD
  have hq : GonesO x (fun k => wb.heap.size ≤ k) (.slice da dn dc) (gs ++ [⟨nu, ns⟩]) := by
    refine gones_of (w0 := wy) (by rw [List.length_append]; exact hm) (fun i m h => ?_) (fun k hk => own_ge hm hk)
    by_cases hlt : i < gs.length
    · rw [List.getElem?_append_left hlt] at h
      obtain ⟨c, h1, h2, h3⟩ := hx i m h
      refine ⟨c, h1, h2, fun j y hy => ?_⟩
      have := h3 j y hy
      rw [List.getElem?_append_left (List.getElem?_eq_some_iff.1 this).1]
      exact this
    · rw [List.getElem?_append_right (by omega)] at h
      have hi0 : i = gs.length := by
        have := (List.getElem?_eq_some_iff.1 h).1
        simp at this
        omega
      subst hi0
      simp only [Nat.sub_self, List.getElem?_cons_zero, Option.some.injEq] at h
      subst h
      refine ⟨[.int .i64 nu, .int .i64 ns], rfl, ⟨rfl, hi⟩, fun j y hy => ?_⟩
      rw [List.getElem?_append_right (by omega), show gs.length * 2 + j - xg.length = j by omega]
      exact hy
  exact ⟨hp'.setGones (gones_q hq), (turns_below hD).trans (turns_set (S' := S) hp' (by omega)) (fun k h => .inl h)⟩
theorem drop_mails {wb x : World} {S : Nat → Prop} {g o i : Nat} {b0 : BoxD} {ms : List MailD} {ya yb : List Value} {da : Option Addr} {dn dc : Nat} (hp : BoxP wb S g o b0) (hD : Below wb.heap.size wb x)
    (hm : x.ownsRow wb.heap.size 54 4 (.slice da dn dc) (0 + (ms.take i).length + (ms.drop (i + 1)).length) ([] ++ ya ++ yb)) (hla : ya.length = (ms.take i).length * 4)
    (hx : ∀ k m, (ms.take i)[k]? = some m → ∃ c, c.length = 4 ∧ MailQE wb c m Any ∧ ∀ j y, c[j]? = some y → ya[k * 4 + j]? = some y) (hlb : yb.length = (ms.drop (i + 1)).length * 4)
    (hy : ∀ k m, (ms.drop (i + 1))[k]? = some m → ∃ c, c.length = 4 ∧ MailQE wb c m Any ∧ ∀ j y, c[j]? = some y → yb[k * 4 + j]? = some y) :
    BoxP (x.setCell ⟨g, o + 4, none⟩ (.slice da dn dc)) (fun k => wb.heap.size ≤ k) g o ⟨b0.name, b0.valid, b0.next, b0.seq, ms.take i ++ ms.drop (i + 1), b0.gones, b0.lost⟩ ∧ Turns wb (x.setCell ⟨g, o + 4, none⟩ (.slice da dn dc)) (fun k => wb.heap.size ≤ k) g o := by
  have hp' := hp.below hD
  have hq : MailsQ x (fun k => wb.heap.size ≤ k) (.slice da dn dc) (ms.take i ++ ms.drop (i + 1)) := by
    refine mq_of hm (by rw [List.length_append]; omega) (fun k m h => ?_) (fun k hk => own_ge hm hk)
    rw [List.nil_append]
    by_cases hlt : k < (ms.take i).length
    · rw [List.getElem?_append_left hlt] at h
      obtain ⟨c, h1, h2, h3⟩ := hx k m h
      refine ⟨c, h1, mail_oth h2 (stay_below hD), fun j y hy => ?_⟩
      have := h3 j y hy
      rw [List.getElem?_append_left (List.getElem?_eq_some_iff.1 this).1]
      exact this
    · rw [List.getElem?_append_right (by omega)] at h
      obtain ⟨c, h1, h2, h3⟩ := hy _ m h
      refine ⟨c, h1, mail_oth h2 (stay_below hD), fun j y hy => ?_⟩
      have := h3 j y hy
      rw [List.getElem?_append_right (by omega), hla, show k * 4 + j - (ms.take i).length * 4 = (k - (ms.take i).length) * 4 + j by omega]
      exact this
  exact ⟨hp'.setMails hq, (turns_below hD).trans (turns_set (S' := fun k => wb.heap.size ≤ k) hp' (by omega)) (fun k h => .inl h)⟩

set_option maxRecDepth 100000 in
set_option maxHeartbeats 8000000 in
theorem l3drop_r (g o i : Nat) (b : BoxD) (m : MailD) (S : Nat → Prop) (w : World) (hp : BoxP w S g o b) (hm : b.mails[i]? = some m) (hml : b.mails.length ≤ 2000000) (hgl : b.gones.length ≤ 2000000) :
    Calls Tryd.prog 93 #[.pointer (some ⟨g, o, none⟩), .int .i64 i] w fun e w' => e = .returned (.tuple #[]) ∧ Turns w w' S g o ∧ BoxP w' (fun k => w.heap.size ≤ k) g o (dropX b i) := by
  have HP : Hid (BoxP w S g o b) := hp
  have hlg : g < w.heap.size := hp.lt
  obtain ⟨u0, u1, u2, h0, h1, h2, hint, c0, c1, c2, c3, c4, c5, c6⟩ := hp.cells
  obtain ⟨mb, off, z1, mu, hv', hlm, f0, f1, f2, f3, -, im0, im1, im2⟩ := h1.v.cell i m hm
  have hil : i < b.mails.length := (List.getElem?_eq_some_iff.1 hm).1
  subst hv'
  have hili : (i : Int) < b.mails.length := by omega
  have hzc : b.mails.length ≤ z1 := by obtain ⟨_, _, e, h, -⟩ := h1.v.form; cases e; exact h
  have HS : Hid (∀ w', Below w.heap.size w w' → ((w'.cell? ⟨g, o + 4, none⟩ = some (.slice (some ⟨mb, off, none⟩) b.mails.length z1) ∧ w'.cell? ⟨g, o + 3, none⟩ = some (.int .i64 b.seq)) ∧ w'.cell? ⟨mb, off + i * 4, none⟩ = some (.int .i64 m.uid))) := fun w' h => ⟨⟨cell_later h c4, cell_later h c3⟩, cell_later h f0⟩
  have IM : Hid (I64 m.uid ∧ I64 b.seq) := ⟨im0, hint.2.2.1⟩
  obtain ⟨i0, hi, hz0, hz1, hz2⟩ := info_parts infoMail
  obtain ⟨j0, hj, hy0, hy1, hy2⟩ := info_parts infoGone
  have HMI : Hid (b.mails[i]? = some m) := hm
  clear h0 h1 h2 hint c0 c1 c2 c3 c4 c5 c6 hp f0 f1 f2 f3 im0 im1 im2
  go_enter Tryd.func93, Tryd.ntmps93
  go_upto_region 0 with fail
  refine wpS_begin 15 (S := fun w' => ((w'.cell? ⟨g, o + 4, none⟩ = some (.slice (some ⟨mb, off, none⟩) b.mails.length z1) ∧ w'.cell? ⟨g, o + 3, none⟩ = some (.int .i64 b.seq)) ∧ w'.cell? ⟨mb, off + i * 4, none⟩ = some (.int .i64 m.uid))) (tabS_of (by kernel_rfl) tab_drop0) (by kernel_rfl) (HS.out _ (Below.refl _ _).drew) (fun hTb hHeld => ?_)
  refine tks 0 0 5 hTb hHeld ?_
  refine tks 1 1 6 hTb hHeld ?_
  refine tks 2 2 7 hTb hHeld ?_
  refine tks 3 3 8 hTb hHeld ?_
  refine tks 4 4 9 hTb hHeld ?_
  refine tks 5 5 10 hTb hHeld ?_
  refine tks 6 6 11 hTb hHeld ?_
  refine tks 7 7 12 hTb hHeld ?_
  refine tks 8 8 13 hTb hHeld ?_
  refine tks 9 9 14 hTb hHeld ?_
  refine tks 10 10 15 hTb hHeld ?_
  refine tks 11 11 16 hTb hHeld ?_
  refine tks 12 12 17 hTb hHeld ?_
  refine cls 13 13 hTb (by decide) rfl rfl (fun K hK => ?_)
  go_simp
  have AB : Below w.heap.size w (w.drew.alloc (.cells #[.int .i64 0, .int .i64 0] 57)) := (Below.refl _ _).drew.alloc (Nat.le_refl _) _
  have KG : (w.drew.alloc (.cells #[.int .i64 0, .int .i64 0] 57)).heap[w.heap.size]? = some (.cells #[.int .i64 0, .int .i64 0] 57 (0, 0)) := box_new w.drew _
  refine hK.out _ _ (HS.out _ AB) (fun hHeld => ?_)
  clear hK K
  have KG2 : ((w.alloc (.cells #[.int .i64 m.uid, .int .i64 b.seq] 57)).drew).heap[w.heap.size]? = some (.cells #[.int .i64 m.uid, .int .i64 b.seq] 57 (0, 0)) := box_new w _
  have BS : Below w.heap.size w ((w.alloc (.cells #[.int .i64 m.uid, .int .i64 b.seq] 57)).drew) := ((Below.refl _ _).alloc (Nat.le_refl _) _).drew
  have KG2h := hidm' KG2
  have BSh := hidm' BS
  clear KG2
  obtain ⟨gz, gl⟩ := box8z KG
  obtain ⟨t0, t1⟩ := bxg KG
  refine cls 14 14 hTb (by decide) rfl rfl (fun K hK => ?_)
  go_simp
  refine hK.out _ _ (HS.out _ BS) (fun hHeld => ?_)
  clear hK K
  refine wpS_end hTb ?_
  clear AB KG gz gl t0 t1 BS
  have HSL : Hid (∀ w', Below w.heap.size w w' → w'.cell? ⟨g, o + 4, none⟩ = some (.slice (some ⟨mb, off, none⟩) b.mails.length z1)) := fun w' h => (HS.out w' h).1.1
  clear HS
  go_upto_region 1 with fail
  generalize ((w.alloc (.cells #[.int .i64 m.uid, .int .i64 b.seq] 57)).drew) = w1 at KG2h BSh ⊢
  have HP1 : Hid (BoxP w1.drew S g o b) := (HP.out.below BSh.out).below (Below.refl _ _).drew
  have HT1 : Hid (Turns w w1.drew S g o) := turns_below (BSh.out.drew)
  have HKG : Hid _ := box_below (Below.refl _ _).drew KG2h.out
  have sg : w.heap.size < w1.heap.size := lt_of_heap KG2h.out
  obtain ⟨u0, u1, u2, h0, h1, h2, hint, c0, c1, c2, c3, c4, c5, c6⟩ := HP1.out.cells
  have hv1 : u1 = .slice (some ⟨mb, off, none⟩) b.mails.length z1 := by
    have := HSL.out _ ((BSh.out).drew)
    rw [c4] at this
    exact Option.some.inj this
  subst hv1
  have HMA : Hid (∀ x, Below w1.drew.heap.size w1.drew x → Rd 4 (MailAt w1.drew) x (.slice (some ⟨mb, off, none⟩) b.mails.length z1) b.mails) := fun x h => h1.at h
  have HS1 : Hid (∀ w', Below w1.drew.heap.size w1.drew w' → (w'.cell? ⟨g, o + 4, none⟩ = some (.slice (some ⟨mb, off, none⟩) b.mails.length z1))) := fun w' h => cell_later h c4
  have hti : i ≤ b.mails.length := by omega
  have hiz : i ≤ z1 := by omega
  have hwr : IntKind.i64.wrap ((i : Int) + 1) = (i : Int) + 1 := by simp [IntKind.wrap, IntKind.bits, IntKind.signed]; omega
  have htn : ((i : Int) + 1).toNat = i + 1 := by omega
  have hb0 : (0 : Int) ≤ (i : Int) + 1 := by omega
  have hb1 : (i : Int) + 1 ≤ b.mails.length := by omega
  have htd : i + 1 ≤ b.mails.length := by omega
  have e1 : (b.mails.take i).length = i := by simp; omega
  have e2 : (b.mails.drop (i + 1)).length = b.mails.length - (i + 1) := by simp
  have hl1 : 0 + (b.mails.take i).length ≤ maxLen := by rw [e1]; unfold maxLen; omega
  have hl2 : (0 + (b.mails.take i).length) * 48 ≤ 140737488355328 := by rw [e1]; omega
  have hl3 : 0 + (b.mails.take i).length + (b.mails.drop (i + 1)).length ≤ maxLen := by rw [e1, e2]; unfold maxLen; omega
  have hl4 : (0 + (b.mails.take i).length + (b.mails.drop (i + 1)).length) * 48 ≤ 140737488355328 := by rw [e1, e2]; omega
  clear h0 h1 h2 hint c0 c1 c2 c3 c4 c5 c6 e1 e2 HP
  have hlg1 : g < w1.drew.heap.size := HP1.out.lt
  have sg1 : w.heap.size < w1.drew.heap.size := sg
  refine wpS_begin 17 (S := fun w' => (w'.cell? ⟨g, o + 4, none⟩ = some (.slice (some ⟨mb, off, none⟩) b.mails.length z1))) (tabS_of (by kernel_rfl) tab_drop1) (by kernel_rfl) (HS1.out _ (Below.refl _ _)) (fun hTb hHeld => ?_)
  refine tks 0 0 18 hTb hHeld ?_
  refine tks 1 2 20 hTb hHeld ?_
  refine tks 2 3 21 hTb hHeld ?_
  refine tks 3 4 22 hTb hHeld ?_
  refine tks 4 5 23 hTb hHeld ?_
  refine tks 5 6 24 hTb hHeld ?_
  refine tks 6 7 25 hTb hHeld ?_
  refine tks 7 9 27 hTb hHeld ?_
  refine tks 8 10 28 hTb hHeld ?_
  refine tks 9 11 29 hTb hHeld ?_
  refine tks 10 12 30 hTb hHeld ?_
  refine tks 11 13 31 hTb hHeld ?_
  refine tks 12 14 32 hTb hHeld ?_
  refine tks 13 15 33 hTb hHeld ?_
  refine cls 14 1 hTb (by decide) rfl rfl (fun K hK => ?_)
  go_simp
  have AB : Below w1.drew.heap.size w1.drew (w1.drew.alloc (.cells #[] 54)) := (Below.refl _ _).alloc (Nat.le_refl _) _
  have HE1 := hidm' (owns_empty w1.drew 54 4 w1.drew.heap.size (Nat.le_refl _))
  refine hK.out _ _ (HS1.out _ AB) (fun hHeld => ?_)
  clear hK K
  refine cls 15 8 hTb (by decide) rfl rfl (fun K hK => ?_)
  refine ite_w (by kernel_rfl) (wp_catA (B := w1.drew.heap.size) 26 rfl (.tmp 19) (.tmp 25) rfl HE1.out ((HMA.out _ AB).take hti) (one_at _) Tryd.underlying32 hi hz0 hz1 hz2 rfl (by omega) rfl rfl hl1 hl2 AB.size ?_)
  intro V8 x8 ya hO8 hL8 hX8 hG8 hB8
  have D8 : Below w1.drew.heap.size w1.drew x8 := below_row AB hG8 (fun j hj => own_ge HE1.out hj)
  obtain ⟨ma, mn, mc, hV8⟩ := own_form hO8
  subst hV8
  refine hK.out _ _ (HS1.out _ D8) (fun hHeld => ?_)
  clear hK K
  refine cls 16 16 hTb (by decide) rfl rfl (fun K hK => ?_)
  refine ite_w (by kernel_rfl) (wp_catA (B := w1.drew.heap.size) 34 rfl (.tmp 26) (.tmp 33) rfl hO8 ((HMA.out _ D8).drop' htd) (one_at _) Tryd.underlying32 hi hz0 hz1 hz2 rfl (by omega) rfl rfl hl3 hl4 D8.size ?_)
  intro V16 x16 yb hO16 hL16 hX16 hG16 hB16
  have D16 : Below w1.drew.heap.size w1.drew x16 := below_row D8 hG16 (fun j hj => own_ge hO8 hj)
  obtain ⟨na, nn, nc, hV16⟩ := own_form hO16
  subst hV16
  refine hK.out _ _ (HS1.out _ D16) (fun hHeld => ?_)
  clear hK K
  refine wpS_next (S' := fun w' => True) 17 20 hTb (by decide) (trivial) (fun hHeld => ?_)
  refine tks 17 17 35 hTb hHeld ?_
  refine tks 18 18 36 hTb hHeld ?_
  have HQ : Hid _ := drop_mails HP1.out D16 hO16 hL8 hX8 hL16 hX16
  have gc := HP1.out.below D16
  obtain ⟨v0, v1, v2, -, -, -, -, k0, k1, k2, k3, k4, k5, k6⟩ := gc.cells
  have gz := gc.open
  have gl := gc.lt
  have HKG16 := hidm' (box_other (k := g) (i := o + 4) (v := .slice na nn nc) (box_below D16 HKG.out) (by omega))
  refine cls 19 19 hTb (by decide) rfl rfl (fun K hK => ?_)
  go_simp
  refine hK.out _ _ (trivial) (fun hHeld => ?_)
  clear hK K
  refine wpS_end hTb ?_
  clear gc gz gl k0 k1 k2 k3 k4 k5 k6 hX8 hL8 hG8 hB8 hX16 hL16 hG16 hB16 hO8 hO16 D8 AB HE1 HMA HS1 hl1 hl2 hl3 hl4 hiz hwr htn hb0 hb1 HP1 HKG
  go_upto_region 2 with fail
  have D16h := hidm' D16
  clear D16
  generalize x16.setCell ⟨g, o + 4, none⟩ (.slice na nn nc) = w2 at HQ HKG16 ⊢
  have HP2 : Hid (BoxP w2.drew (fun k => w1.drew.heap.size ≤ k) g o _) := HQ.out.1.below (Below.refl _ _).drew
  have HT2 : Hid (Turns w w2.drew S g o) := Turns.trans (Turns.trans HT1.out HQ.out.2 (fun k h => .inr (Nat.le_trans HT1.out.1 h))) (turns_below (S := S) (Below.refl _ _).drew) (fun k h => .inl h)
  have HK2 := hidm' (box_below (Below.refl _ _).drew HKG16.out)
  have HN2 : Hid (w.heap.size ≤ w1.drew.heap.size) := HT1.out.1
  clear HQ HKG16 HT1 D16h
  go_cut [4] (fun s wx => s = .pointer (some ⟨w.heap.size, 0, none⟩) ∧ Hid (BoxP wx (fun k => w1.drew.heap.size ≤ k) g o ⟨b.name, b.valid, b.next, b.seq, b.mails.take i ++ b.mails.drop (i + 1), b.gones ++ [⟨m.uid, b.seq⟩], b.lost⟩) ∧ Hid (Turns w2.drew wx (fun k => w1.drew.heap.size ≤ k) g o))
  case first =>
    obtain ⟨v0, v1, v2, g0, g1, g2, gi, c0, c1, c2, c3, c4, c5, c6⟩ := HP2.out.cells
    simp only at c0 c1 c2 c3 c4 c5 c6 g0 g1 g2 gi
    obtain ⟨ga, gc, rfl, -⟩ := g2.1.form
    have HGV : Hid (∀ x, Below w2.drew.heap.size w2.drew x → GonesV x (.slice ga b.gones.length gc) b.gones) := fun x h => g2.1.below keepsGone h
    obtain ⟨t0, t1⟩ := bxg HK2.out
    have HS2 : Hid (∀ w', Below w2.drew.heap.size w2.drew w' → (w'.cell? ⟨g, o + 5, none⟩ = some (.slice ga b.gones.length gc) ∧ w'.cell? ⟨w.heap.size, 0, none⟩ = some (.int .i64 m.uid) ∧ w'.cell? ⟨w.heap.size, 1, none⟩ = some (.int .i64 b.seq))) := fun w' h => ⟨cell_later h c5, cell_later h t0, cell_later h t1⟩
    have hg1 : b.gones.length ≤ maxLen := by unfold maxLen; omega
    have hg2 : b.gones.length * 16 ≤ 140737488355328 := by omega
    have hg3 : b.gones.length + 1 ≤ maxLen := by unfold maxLen; omega
    have hg4 : (b.gones.length + 1) * 16 ≤ 140737488355328 := by omega
    have hlg2 := HP2.out.lt
    have hlw := lt_of_heap HK2.out
    clear g0 g1 g2 gi c0 c1 c2 c3 c4 c5 c6 t0 t1
    refine wpB_begin3 10 (S := fun w' => (w'.cell? ⟨g, o + 5, none⟩ = some (.slice ga b.gones.length gc) ∧ w'.cell? ⟨w.heap.size, 0, none⟩ = some (.int .i64 m.uid) ∧ w'.cell? ⟨w.heap.size, 1, none⟩ = some (.int .i64 b.seq))) (tabB_of (by kernel_rfl) tab_dropGA) (tabB_of (by kernel_rfl) tab_dropGB) (tabB_of (by kernel_rfl) tab_dropGC) (by kernel_rfl) (HS2.out _ (Below.refl _ _)) (fun hTb hTb2 hTb3 hHeld => ?_)
    have HTA := hidm' hTb
    have HTB := hidm' hTb2
    have HTC := hidm' hTb3
    clear hTb2 hTb3
    have D0 : Hid (Below w2.drew.heap.size w2.drew w2.drew) := Below.refl _ _
    generalize w2.drew = wb at *
    refine tkb 0 0 37 hTb hHeld ?_
    refine tkb 1 2 39 hTb hHeld ?_
    refine tkb 2 3 40 hTb hHeld ?_
    refine tkb 3 4 41 hTb hHeld ?_
    refine tkb 4 5 42 hTb hHeld ?_
    refine tkb 5 7 44 hTb hHeld ?_
    refine brb 6 [1, 8] (by kernel_rfl) (by decide) (by decide) (by simp) ?_
    refine (AllS.cons [0, 2, 3, 4, 5, 7, 1, 8, 6, 9, 10, 11, 12] rfl (by decide) (by decide) (fun K hK => ?_) (AllS.cons [0, 2, 3, 4, 5, 7, 8, 1, 6, 9, 10, 11, 12] rfl (by decide) (by decide) (fun K hK => ?_) AllS.nil))
    · have hTb := HTB.out
      go_simp
      have AB1 : Below wb.heap.size wb (wb.alloc (.cells #[] 57)) := (Below.refl _ _).alloc (Nat.le_refl _) _
      have D1 : Hid (Below wb.heap.size wb (wb.alloc (.cells #[] 57))) := Below.step D0.out AB1
      have Fe11 : Hid _ := owns_empty wb 57 2 wb.heap.size D0.out.size
      refine hK.out _ _ (HS2.out _ D1.out) (fun hHeld => ?_)
      clear hK K AB1
      generalize wb.alloc (.cells #[] 57) = y1 at hHeld D1 Fe11 ⊢
      refine brb 7 [6, 8] (by kernel_rfl) (by decide) (by decide) (by simp) ?_
      refine (AllS.cons [0, 2, 3, 4, 5, 7, 1, 6, 8, 9, 10, 11, 12] rfl (by decide) (by decide) (fun K hK => ?_) (AllS.cons [0, 2, 3, 4, 5, 7, 1, 8, 6, 9, 10, 11, 12] rfl (by decide) (by decide) (fun K hK => ?_) AllS.nil))
      · have hTb := HTC.out
        refine ite_w (by kernel_rfl) (wp_cat (B := wb.heap.size) 43 rfl (.tmp 38) (.tmp 42) rfl Fe11.out (HGV.out _ D1.out) (one_gone _) Tryd.underlying33 hj hy0 hy1 hy2 rfl (by omega) rfl rfl hg1 hg2 D1.out.size ?_)
        intro V2 y2 xg hO2 hX2 hG2 hB2
        have HXG : Hid _ := hX2
        have HXGL : Hid (xg.length = b.gones.length * 2) := hO2.1
        have hG'2 : y1.grownBy y2 (some (wb.heap.size)) := hG2
        have D2 : Hid (Below wb.heap.size wb y2) := below_gr0 D1.out hG'2 (own_ge Fe11.out rfl)
        have Frg2 : Hid _ := hO2
        obtain ⟨qa, qn, qc, hV2⟩ := own_form hO2
        subst hV2
        refine hK.out _ _ (HS2.out _ D2.out) (fun hHeld => ?_)
        clear hK K hG2 hB2 hO2 hX2
        refine clb 8 8 hTb (by decide) rfl rfl (fun K hK => ?_)
        go_simp
        have AB3 : Below y2.heap.size y2 (y2.alloc (.cells #[.int .i64 m.uid, .int .i64 b.seq] 57)) := (Below.refl _ _).alloc (Nat.le_refl _) _
        have D3 : Hid (Below wb.heap.size wb (y2.alloc (.cells #[.int .i64 m.uid, .int .i64 b.seq] 57))) := Below.step D2.out AB3
        have Frg3 : Hid _ := own_below Frg2.out AB3
        have Fk83 : Hid ((y2.alloc (.cells #[.int .i64 m.uid, .int .i64 b.seq] 57)).heap[y2.heap.size]? = some (.cells #[.int .i64 m.uid, .int .i64 b.seq] 57 (0, 0))) := box_new y2 _
        refine hK.out _ _ (HS2.out _ D3.out) (fun hHeld => ?_)
        clear hK K AB3
        generalize y2.alloc (.cells #[.int .i64 m.uid, .int .i64 b.seq] 57) = y3 at hHeld D3 Frg3 Fk83 ⊢
        refine clb 9 9 hTb (by decide) rfl rfl (fun K hK => ?_)
        refine ite_w (by kernel_rfl) (wp_app1 46 rfl (.tmp 43) (.tmp 45) rfl Frg3.out Tryd.underlying33 hj hy0 hy1 hy2 rfl (by omega) rfl [.int .i64 m.uid, .int .i64 b.seq] rfl ⟨y2.heap.size, 0, none⟩ 1 rfl (cells_in Fk83.out) one2' hg3 hg4 D3.out.size ?_)
        intro V4 y4 hO4 hG4 hB4
        obtain ⟨da, dn, dc, hV4⟩ := own_form hO4
        subst hV4
        have D4 : Hid (Below wb.heap.size wb y4) := below_row D3.out hG4 (fun j hj => own_ge Frg3.out hj)
        have Frg4 : Hid _ := hO4
        refine hK.out _ _ (HS2.out _ D4.out) (fun hHeld => ?_)
        clear hK K hG4 hB4 hO4
        refine wpB_next (S' := fun _ => True) 10 13 (by decide) trivial (fun hHeld => ?_)
        refine tkb 10 10 47 hTb hHeld ?_
        refine tkb 11 11 48 hTb hHeld ?_
        refine clb 12 12 hTb (by decide) rfl rfl (fun K hK => ?_)
        have HQ := drop_gones HP2.out D4.out Frg4.out HXG.out HXGL.out IM.out
        have HP9 := hidm' HQ.1
        have HT9 := hidm' HQ.2
        clear HQ
        have gc := HP2.out.below D4.out
        obtain ⟨v0, v1, v2, -, -, -, -, k0, k1, k2, k3, k4, k5, k6⟩ := gc.cells
        have gz := gc.open
        have gl := gc.lt
        go_simp
        refine hK.out _ _ trivial (fun hHeld => ?_)
        clear hK K
        refine wpB_end hTb ?_
        go_wp2
        all_goals go_meet
        all_goals exact ⟨rfl, HP9.out, HT9.out⟩
      · have hTb := HTB.out
        go_simp
        have AB5 : Below y1.heap.size y1 (y1.alloc (.cells #[.int .i64 m.uid, .int .i64 b.seq] 57)) := (Below.refl _ _).alloc (Nat.le_refl _) _
        have D5 : Hid (Below wb.heap.size wb (y1.alloc (.cells #[.int .i64 m.uid, .int .i64 b.seq] 57))) := Below.step D1.out AB5
        have hne5 : y1.heap.size ≠ wb.heap.size := Nat.ne_of_gt (own_lt Fe11.out)
        have Fe15 : Hid _ := own_below Fe11.out AB5
        have Fk85 : Hid ((y1.alloc (.cells #[.int .i64 m.uid, .int .i64 b.seq] 57)).heap[y1.heap.size]? = some (.cells #[.int .i64 m.uid, .int .i64 b.seq] 57 (0, 0))) := box_new y1 _
        refine hK.out _ _ (HS2.out _ D5.out) (fun hHeld => ?_)
        clear hK K AB5
        generalize y1.alloc (.cells #[.int .i64 m.uid, .int .i64 b.seq] 57) = y5 at hHeld D5 Fe15 Fk85 ⊢
        refine clb 8 6 hTb (by decide) rfl rfl (fun K hK => ?_)
        refine ite_w (by kernel_rfl) (wp_cat (B := wb.heap.size) 43 rfl (.tmp 38) (.tmp 42) rfl Fe15.out (HGV.out _ D5.out) (one_gone _) Tryd.underlying33 hj hy0 hy1 hy2 rfl (by omega) rfl rfl hg1 hg2 D5.out.size ?_)
        intro V6 y6 xg hO6 hX6 hG6 hB6
        have HXG : Hid _ := hX6
        have HXGL : Hid (xg.length = b.gones.length * 2) := hO6.1
        have hG'6 : y5.grownBy y6 (some (wb.heap.size)) := hG6
        have D6 : Hid (Below wb.heap.size wb y6) := below_gr0 D5.out hG'6 (own_ge Fe15.out rfl)
        have Fk86 : Hid _ := gr_at hG'6 Fk85.out hne5
        have Frg6 : Hid _ := hO6
        obtain ⟨qa, qn, qc, hV6⟩ := own_form hO6
        subst hV6
        refine hK.out _ _ (HS2.out _ D6.out) (fun hHeld => ?_)
        clear hK K hG6 hB6 hO6 hX6
        refine clb 9 9 hTb (by decide) rfl rfl (fun K hK => ?_)
        refine ite_w (by kernel_rfl) (wp_app1 46 rfl (.tmp 43) (.tmp 45) rfl Frg6.out Tryd.underlying33 hj hy0 hy1 hy2 rfl (by omega) rfl [.int .i64 m.uid, .int .i64 b.seq] rfl ⟨y1.heap.size, 0, none⟩ 1 rfl (cells_in Fk86.out) one2' hg3 hg4 D6.out.size ?_)
        intro V7 y7 hO7 hG7 hB7
        obtain ⟨da, dn, dc, hV7⟩ := own_form hO7
        subst hV7
        have D7 : Hid (Below wb.heap.size wb y7) := below_row D6.out hG7 (fun j hj => own_ge Frg6.out hj)
        have Frg7 : Hid _ := hO7
        refine hK.out _ _ (HS2.out _ D7.out) (fun hHeld => ?_)
        clear hK K hG7 hB7 hO7
        refine wpB_next (S' := fun _ => True) 10 13 (by decide) trivial (fun hHeld => ?_)
        refine tkb 10 10 47 hTb hHeld ?_
        refine tkb 11 11 48 hTb hHeld ?_
        refine clb 12 12 hTb (by decide) rfl rfl (fun K hK => ?_)
        have HQ := drop_gones HP2.out D7.out Frg7.out HXG.out HXGL.out IM.out
        have HP9 := hidm' HQ.1
        have HT9 := hidm' HQ.2
        clear HQ
        have gc := HP2.out.below D7.out
        obtain ⟨v0, v1, v2, -, -, -, -, k0, k1, k2, k3, k4, k5, k6⟩ := gc.cells
        have gz := gc.open
        have gl := gc.lt
        go_simp
        refine hK.out _ _ trivial (fun hHeld => ?_)
        clear hK K
        refine wpB_end hTb ?_
        go_wp2
        all_goals go_meet
        all_goals exact ⟨rfl, HP9.out, HT9.out⟩
    · have hTb := HTA.out
      go_simp
      have AB8 : Below wb.heap.size wb (wb.alloc (.cells #[.int .i64 m.uid, .int .i64 b.seq] 57)) := (Below.refl _ _).alloc (Nat.le_refl _) _
      have D8 : Hid (Below wb.heap.size wb (wb.alloc (.cells #[.int .i64 m.uid, .int .i64 b.seq] 57))) := Below.step D0.out AB8
      have Fk88 : Hid ((wb.alloc (.cells #[.int .i64 m.uid, .int .i64 b.seq] 57)).heap[wb.heap.size]? = some (.cells #[.int .i64 m.uid, .int .i64 b.seq] 57 (0, 0))) := box_new wb _
      refine hK.out _ _ (HS2.out _ D8.out) (fun hHeld => ?_)
      clear hK K AB8
      generalize wb.alloc (.cells #[.int .i64 m.uid, .int .i64 b.seq] 57) = y8 at hHeld D8 Fk88 ⊢
      refine clb 7 1 hTb (by decide) rfl rfl (fun K hK => ?_)
      go_simp
      have AB9 : Below y8.heap.size y8 (y8.alloc (.cells #[] 57)) := (Below.refl _ _).alloc (Nat.le_refl _) _
      have D9 : Hid (Below wb.heap.size wb (y8.alloc (.cells #[] 57))) := Below.step D8.out AB9
      have hne9 : wb.heap.size ≠ y8.heap.size := Nat.ne_of_lt (lt_of_heap Fk88.out)
      have Fk89 : Hid _ := box_below AB9 Fk88.out
      have Fe19 : Hid _ := owns_empty y8 57 2 wb.heap.size D8.out.size
      refine hK.out _ _ (HS2.out _ D9.out) (fun hHeld => ?_)
      clear hK K AB9
      generalize y8.alloc (.cells #[] 57) = y9 at hHeld D9 Fe19 Fk89 ⊢
      refine clb 8 6 hTb (by decide) rfl rfl (fun K hK => ?_)
      refine ite_w (by kernel_rfl) (wp_cat (B := wb.heap.size) 43 rfl (.tmp 38) (.tmp 42) rfl Fe19.out (HGV.out _ D9.out) (one_gone _) Tryd.underlying33 hj hy0 hy1 hy2 rfl (by omega) rfl rfl hg1 hg2 D9.out.size ?_)
      intro V10 y10 xg hO10 hX10 hG10 hB10
      have HXG : Hid _ := hX10
      have HXGL : Hid (xg.length = b.gones.length * 2) := hO10.1
      have hG'10 : y9.grownBy y10 (some (y8.heap.size)) := hG10
      have D10 : Hid (Below wb.heap.size wb y10) := below_gr0 D9.out hG'10 (own_ge Fe19.out rfl)
      have Fk810 : Hid _ := gr_at hG'10 Fk89.out hne9
      have Frg10 : Hid _ := hO10
      obtain ⟨qa, qn, qc, hV10⟩ := own_form hO10
      subst hV10
      refine hK.out _ _ (HS2.out _ D10.out) (fun hHeld => ?_)
      clear hK K hG10 hB10 hO10 hX10
      refine clb 9 9 hTb (by decide) rfl rfl (fun K hK => ?_)
      refine ite_w (by kernel_rfl) (wp_app1 46 rfl (.tmp 43) (.tmp 45) rfl Frg10.out Tryd.underlying33 hj hy0 hy1 hy2 rfl (by omega) rfl [.int .i64 m.uid, .int .i64 b.seq] rfl ⟨wb.heap.size, 0, none⟩ 1 rfl (cells_in Fk810.out) one2' hg3 hg4 D10.out.size ?_)
      intro V11 y11 hO11 hG11 hB11
      obtain ⟨da, dn, dc, hV11⟩ := own_form hO11
      subst hV11
      have D11 : Hid (Below wb.heap.size wb y11) := below_row D10.out hG11 (fun j hj => own_ge Frg10.out hj)
      have Frg11 : Hid _ := hO11
      refine hK.out _ _ (HS2.out _ D11.out) (fun hHeld => ?_)
      clear hK K hG11 hB11 hO11
      refine wpB_next (S' := fun _ => True) 10 13 (by decide) trivial (fun hHeld => ?_)
      refine tkb 10 10 47 hTb hHeld ?_
      refine tkb 11 11 48 hTb hHeld ?_
      refine clb 12 12 hTb (by decide) rfl rfl (fun K hK => ?_)
      have HQ := drop_gones HP2.out D11.out Frg11.out HXG.out HXGL.out IM.out
      have HP9 := hidm' HQ.1
      have HT9 := hidm' HQ.2
      clear HQ
      have gc := HP2.out.below D11.out
      obtain ⟨v0, v1, v2, -, -, -, -, k0, k1, k2, k3, k4, k5, k6⟩ := gc.cells
      have gz := gc.open
      have gl := gc.lt
      go_simp
      refine hK.out _ _ trivial (fun hHeld => ?_)
      clear hK K
      refine wpB_end hTb ?_
      go_wp2
      all_goals go_meet
      all_goals exact ⟨rfl, HP9.out, HT9.out⟩
  case rest =>
    obtain ⟨rfl, HP3, HT3⟩ := hcut
    rename World => w3
    have HT : Hid (Turns w w3 S g o) := Turns.trans HT2.out HT3.out (fun k h => .inr (Nat.le_trans HN2.out h))
    have hgs : (b.gones ++ [(⟨m.uid, b.seq⟩ : GoneD)]).length ≤ 2000001 := by simp; omega
    have HX : Hid (dropX b i = ⟨b.name, b.valid, b.next, b.seq, b.mails.take i ++ b.mails.drop (i + 1), (trimG b.lost (b.gones ++ [⟨m.uid, b.seq⟩])).2, (trimG b.lost (b.gones ++ [⟨m.uid, b.seq⟩])).1⟩) := by
      show dropX b i = _
      unfold dropX
      rw [HMI.out]
    clear HP2 HT2 HK2 HT3
    generalize (b.gones ++ [(⟨m.uid, b.seq⟩ : GoneD)]) = gs at HP3 HX hgs
    go_wp2
    go_loopw [49] (fun _ wr => ∃ (k : Nat) (lk : Int), k ≤ gs.length ∧ Hid (trimG b.lost gs = trimG lk (gs.drop k)) ∧ Hid (BoxP wr (fun k => w1.drew.heap.size ≤ k) g o ⟨b.name, b.valid, b.next, b.seq, b.mails.take i ++ b.mails.drop (i + 1), gs.drop k, lk⟩) ∧ Hid (Turns w wr S g o)) (fun _ wr => gLen wr g o)
    case atStart => exact ⟨0, b.lost, Nat.zero_le _, rfl, HP3.out, HT.out⟩
    case round =>
      obtain ⟨k, lk, hk, hTr, hP, hT⟩ := hrel
      clear HP3 HT
      obtain ⟨v0, v1, v2, g0, g1, g2, gi, c0, c1, c2, c3, c4, c5, c6⟩ := hP.out.cells
      simp only at c0 c1 c2 c3 c4 c5 c6 g0 g1 g2 gi
      have hz := hP.out.open
      have hl := hP.out.lt
      have HG2 : Hid (GonesQ wr v2 (gs.drop k)) := g2
      have hdl : (gs.drop k).length = gs.length - k := by simp
      by_cases h40 : 40 < (gs.drop k).length
      · obtain ⟨x, hx⟩ : ∃ x, (gs.drop k)[0]? = some x := ⟨(gs.drop k)[0], List.getElem?_eq_getElem (by omega)⟩
        obtain ⟨bq, qo, gc, rfl, hlq, q0, q1, qi0, qi1⟩ := g2.1.cell 0 x hx
        have hgc : (gs.drop k).length ≤ gc := by obtain ⟨_, _, e, h, -⟩ := g2.1.form; cases e; exact h
        have hi40 : (40 : Int) < ((gs.drop k).length : Int) := by omega
        have hi0 : (0 : Int) < ((gs.drop k).length : Int) := by omega
        rw [Nat.zero_mul, Nat.add_zero] at q0 q1
        have HXX : Hid (gs[k]? = some x) := by
          show gs[k]? = some x
          rw [List.getElem?_drop, Nat.add_zero] at hx
          exact hx
        have HPL : Hid (BoxP (wr.setCell ⟨g, o + 6, none⟩ (.int .i64 x.seq)) (fun k => w1.drew.heap.size ≤ k) g o _) := hP.out.setLost x.seq qi1
        have HTL : Hid (Turns w (wr.setCell ⟨g, o + 6, none⟩ (.int .i64 x.seq)) S g o) := Turns.trans hT.out (turns_set (S' := S) hP.out (by omega)) (fun k h => .inl h)
        have HTR : Hid (trimG b.lost gs = trimG x.seq (gs.drop (k + 1))) := by
          show trimG b.lost gs = _
          rw [hTr.out, trimG_drop HXX.out (by omega)]
        have HGL : Hid (gLen wr g o = (gs.drop k).length) := by show gLen wr g o = _; unfold gLen; rw [c5]
        have QL : Hid (gs.drop k = (gs.drop k)) := rfl
        clear g0 g1 g2 gi hx
        go_upto_region 5 with fail
        clear c0 c1 c2 c3 c4 c5 c6 hz hl q0 q1 hlq
        generalize wr.setCell ⟨g, o + 6, none⟩ (.int .i64 x.seq) = wl at HPL HTL ⊢
        obtain ⟨v0, v1, v2, g0, g1, g2, gi, c0, c1, c2, c3, c4, c5, c6⟩ := HPL.out.cells
        simp only at c0 c1 c2 c3 c4 c5 c6 g0 g1 g2 gi
        have hz := HPL.out.open
        have hl := HPL.out.lt
        obtain ⟨ga, gc', rfl, hgl1, -⟩ := g2.1.form
        have hga : ∃ bq' qo', ga = some ⟨bq', qo', none⟩ := by
          obtain ⟨x', hx'⟩ : ∃ x, (gs.drop k)[0]? = some x := ⟨(gs.drop k)[0], List.getElem?_eq_getElem (by omega)⟩
          obtain ⟨bq', qo', _, e, -⟩ := g2.1.cell 0 x' hx'
          cases e
          exact ⟨bq', qo', rfl⟩
        obtain ⟨bq', qo', rfl⟩ := hga
        have hone : ¬ gc' = 1 := by omega
        have h1l : (1 : Int) ≤ ((gs.drop k).length : Int) := by omega
        have HGT : Hid (GonesQ wl (.slice (some ⟨bq', qo' + 2, none⟩) (gs.length - k - 1) (gc' - 1)) (gs.drop (k + 1))) := by
          have := gonesq_tail g2 (by omega)
          rw [List.drop_drop, List.length_drop] at this
          exact this
        have HPG : Hid (BoxP (wl.setCell ⟨g, o + 5, none⟩ (.slice (some ⟨bq', qo' + 2, none⟩) (gs.length - k - 1) (gc' - 1))) (fun k => w1.drew.heap.size ≤ k) g o _) := HPL.out.setGones HGT.out
        have HTG : Hid (Turns w (wl.setCell ⟨g, o + 5, none⟩ (.slice (some ⟨bq', qo' + 2, none⟩) (gs.length - k - 1) (gc' - 1))) S g o) := Turns.trans HTL.out (turns_set (S' := S) HPL.out (by omega)) (fun k h => .inl h)
        have HGL2 : Hid (gLen (wl.setCell ⟨g, o + 5, none⟩ (.slice (some ⟨bq', qo' + 2, none⟩) (gs.length - k - 1) (gc' - 1))) g o = gs.length - k - 1) := by
          show gLen _ g o = _
          obtain ⟨_, _, _, _, _, _, _, _, _, _, _, _, k5, _⟩ := HPG.out.cells
          unfold gLen
          rw [cell_set_here HPL.out.fit HPL.out.ty (by omega) (let ⟨cur, _, hh, _⟩ := HPL.out; ⟨cur, hh⟩)]
        clear g0 g1 g2 gi
        go_wp2
        go_roundw
        case rel => exact ⟨k + 1, x.seq, by omega, HTR.out, HPG.out, HTG.out⟩
        case measure => rw [HGL2.out, HGL.out, List.length_drop]; omega
      · have HE : Hid (trimG b.lost gs = (lk, gs.drop k)) := by
          show trimG b.lost gs = _
          rw [hTr.out, trimG_le (by omega)]
        have hi40 : ¬ ((40 : Int) < ((gs.drop k).length : Int)) := by omega
        obtain ⟨ga, gc, rfl, -⟩ := g2.1.form
        clear g0 g1 g2 gi
        go_wp2
        go_end0
        refine ⟨rfl, hT.out, ?_⟩
        rw [HX.out, HE.out]
        exact BoxP.mono hP.out fun k h => Nat.le_trans HN2.out h

end Go.Proofs.YtmonloebkdpahaaDoor

/- What l3copy of package spec does where it copies a mail away. -/
namespace Go.Proofs.YtmonloebkdpahaaDoor
open Go.RowKit
set_option maxRecDepth 100000
set_option linter.unusedVariables false
set_option linter.unusedSimpArgs false

set_option maxRecDepth 100000 in
set_option maxHeartbeats 20000000 in
theorem l3copy_mv (ga k : Nat) (a : AccD) (b : BoxD) (tt : List Int) (S : Nat → Prop) (kd uid mode fl si : Int) (x0 x1 x2 : Option Addr) (n0 n1 n2 m0 m1 m2 : Nat) (w : World) (hp : AccP w S ga a) (hb : a.boxes[k]? = some b) (hto : Bs w (.slice x1 n1 m1) tt) (hbl : a.boxes.length ≤ 2000000) (hsx : szX b ≤ 2000000) (i t : Nat) (bt bu : BoxD) (m : MailD) (hm : b.mails[i]? = some m) (hf : firstI (fun m : MailD => decide (m.uid = uid)) b.mails = (i : Int)) (hf2 : firstI (fun x : BoxD => decide (x.name = tt)) a.boxes = (t : Int)) (hbt : a.boxes[t]? = some bt) (hsxt : szX bt ≤ 2000000) (hbu : (setB a k (dropX (seqX b) i)).boxes[t]? = some bu) (hu1 : bu.mails.length ≤ 2000000) (hu2 : bu.seq < 1000000000) (hu3 : bu.next < 1000000000) (hm1 : mode = 1) (hway : (t = k ∧ roomB bt 0 = true) ∨ (t ≠ k ∧ roomB bt 1 = true)) (hsq : ¬ 999999 ≤ b.seq) :
    Calls Tryd.prog 71 #[.pointer (some ⟨ga, 0, none⟩), .int .i64 k, .agg #[.int .i64 kd, .slice x0 n0 m0, .slice x1 n1 m1, .int .i64 uid, .int .i64 mode, .int .i64 fl, .int .i64 si, .slice x2 n2 m2]] w fun e w' => ∃ u S', e = .returned u ∧ RepC w' u (codeR 0 bu.next) ∧ TurnsA w w' S ga ∧ AccP w' S' ga (setB (setB a k (dropX (seqX b) i)) t (addX bu m.flags m.text)) ∧ ∀ k, S' k → S k ∨ w.heap.size ≤ k := by
  have HM : Hid (mode = 1) := hm1
  clear hm1
  obtain ⟨S0, hS0e⟩ : ∃ S0 : Nat → Prop, S0 = fun k => S k ∧ k < w.heap.size := ⟨_, rfl⟩
  have HSUB : Hid (∀ k, S0 k → S k) := by subst hS0e; exact fun k h => h.1
  have HSL : Hid (∀ k, S0 k → k < w.heap.size) := by subst hS0e; exact fun k h => h.2
  have HW : Hid _ := hway
  clear hway
  have HP : Hid (∀ w', Below w.heap.size w w' → AccP w' S0 ga a) := by subst hS0e; exact fun w' h => hp.cut.below h
  clear hS0e
  have HTO : Hid (∀ w', Below w.heap.size w w' → Bs w' (.slice x1 n1 m1) tt) := fun w' h => hto.below h
  have hlga := hp.lt
  obtain ⟨g, cap, S1, cb, hSg, hpb, hS1, -⟩ := hp.at hb
  obtain ⟨v9, u9, ca0, ca1, ca2, hbq, hav⟩ := hp.cells
  have e9 : v9 = .slice (some ⟨g, 0, none⟩) a.boxes.length cap := Option.some.inj (ca1.symm.trans cb)
  subst e9
  have HAV : Hid (∀ w', Below w.heap.size w w' → AccV w' (.agg #[.int .i64 a.valid, .slice (some ⟨g, 0, none⟩) a.boxes.length cap, u9]) a) := fun w' h => hav.below h
  have hkl : k < a.boxes.length := (List.getElem?_eq_some_iff.1 hb).1
  have hlg : g < w.heap.size := ty_lt hpb.ty
  have hcap : a.boxes.length ≤ cap := by obtain ⟨_, _, e, h, -⟩ := hbq.v.form; cases e; exact h
  obtain ⟨u0, u1, u2, h0, h1, h2, hint, c0, c1, c2, c3, c4, c5, c6⟩ := hpb.cells
  obtain ⟨a0, q0, z0, rfl⟩ := h0.bs.form3
  obtain ⟨a1, z1, rfl, -⟩ := h1.v.form
  obtain ⟨a2, z2, rfl, -⟩ := h2.1.form
  have HV : Hid (∀ w', Below w.heap.size w w' → BoxV w' (.agg #[.slice a0 q0 z0, .int .i64 b.valid, .int .i64 b.next, .int .i64 b.seq, .slice a1 b.mails.length z1, .slice a2 b.gones.length z2, .int .i64 b.lost]) b) := fun w' h => ⟨_, _, _, rfl, h0.bs.below h, h1.v.below keepsMail h, h2.1.below keepsGone h, hint⟩
  obtain ⟨HB, HKC, HKR, hsW⟩ := heads2 w (.cells #[.int .i64 kd, .slice x0 n0 m0, .slice x1 n1 m1, .int .i64 uid, .int .i64 mode, .int .i64 fl, .int .i64 si, .slice x2 n2 m2] 77) (.cells #[.int .i64 0, .int .i64 0, .slice none 0 0, .int .i64 0, .int .i64 0, .int .i64 0, .slice none 0 0, .slice none 0 0, .int .i64 0, .slice none 0 0] 37)
  have HC : Hid (∀ W w', Below w.heap.size w W → W.heap[w.heap.size]? = some (.cells #[.int .i64 kd, .slice x0 n0 m0, .slice x1 n1 m1, .int .i64 uid, .int .i64 mode, .int .i64 fl, .int .i64 si, .slice x2 n2 m2] 77 (0, 0)) → Below W.heap.size W w' → w'.cell? ⟨g, k * 7, none⟩ = some (.slice a0 q0 z0) ∧ w'.cell? ⟨g, k * 7 + 1, none⟩ = some (.int .i64 b.valid) ∧ w'.cell? ⟨g, k * 7 + 2, none⟩ = some (.int .i64 b.next) ∧ w'.cell? ⟨g, k * 7 + 3, none⟩ = some (.int .i64 b.seq) ∧ w'.cell? ⟨g, k * 7 + 4, none⟩ = some (.slice a1 b.mails.length z1) ∧ w'.cell? ⟨g, k * 7 + 5, none⟩ = some (.slice a2 b.gones.length z2) ∧ w'.cell? ⟨g, k * 7 + 6, none⟩ = some (.int .i64 b.lost) ∧ w'.cell? ⟨ga, 0, none⟩ = some (.int .i64 a.valid) ∧ w'.cell? ⟨ga, 1, none⟩ = some (.slice (some ⟨g, 0, none⟩) a.boxes.length cap) ∧ w'.cell? ⟨ga, 2, none⟩ = some (u9) ∧ w'.cell? ⟨w.heap.size, 2, none⟩ = some (.slice x1 n1 m1) ∧ w'.cell? ⟨w.heap.size, 3, none⟩ = some (.int .i64 uid) ∧ w'.cell? ⟨w.heap.size, 4, none⟩ = some (.int .i64 mode)) := by
    intro W w' hb hc hw
    have h := fun j => hb.cell (p := ⟨g, j, none⟩) hlg
    have h' := fun j => hw.cell (p := ⟨g, j, none⟩) (Nat.lt_of_lt_of_le hlg hb.size)
    have i := fun j => hb.cell (p := ⟨ga, j, none⟩) hlga
    have i' := fun j => hw.cell (p := ⟨ga, j, none⟩) (Nat.lt_of_lt_of_le hlga hb.size)
    have hk := box_below hw hc
    have hq := fun j => cell_of_row w' w.heap.size j _ _ (0, 0) hk
    exact ⟨(h' _).trans ((h _).trans c0), (h' _).trans ((h _).trans c1), (h' _).trans ((h _).trans c2), (h' _).trans ((h _).trans c3), (h' _).trans ((h _).trans c4), (h' _).trans ((h _).trans c5), (h' _).trans ((h _).trans c6), (i' _).trans ((i _).trans ca0), (i' _).trans ((i _).trans ca1), (i' _).trans ((i _).trans ca2), hq 2, hq 3, hq 4⟩
  have hki : (k : Int) < (a.boxes.length : Int) := by omega
  clear h0 h1 h2 hp hpb hbq hav hto c0 c1 c2 c3 c4 c5 c6 ca0 ca1 ca2 cb hint
  go_enter Tryd.func71, Tryd.ntmps71
  go_upto_region 1 with fail
  generalize ((w.alloc (.cells #[.int .i64 kd, .slice x0 n0 m0, .slice x1 n1 m1, .int .i64 uid, .int .i64 mode, .int .i64 fl, .int .i64 si, .slice x2 n2 m2] 77)).alloc (.cells #[.int .i64 0, .int .i64 0, .slice none 0 0, .int .i64 0, .int .i64 0, .int .i64 0, .slice none 0 0, .slice none 0 0, .int .i64 0, .slice none 0 0] 37)) = W at HB HKC HKR hsW ⊢
  have HS : Hid (∀ w', Below W.heap.size W w' → w'.cell? ⟨g, k * 7, none⟩ = some (.slice a0 q0 z0) ∧ w'.cell? ⟨g, k * 7 + 1, none⟩ = some (.int .i64 b.valid) ∧ w'.cell? ⟨g, k * 7 + 2, none⟩ = some (.int .i64 b.next) ∧ w'.cell? ⟨g, k * 7 + 3, none⟩ = some (.int .i64 b.seq) ∧ w'.cell? ⟨g, k * 7 + 4, none⟩ = some (.slice a1 b.mails.length z1) ∧ w'.cell? ⟨g, k * 7 + 5, none⟩ = some (.slice a2 b.gones.length z2) ∧ w'.cell? ⟨g, k * 7 + 6, none⟩ = some (.int .i64 b.lost) ∧ w'.cell? ⟨ga, 0, none⟩ = some (.int .i64 a.valid) ∧ w'.cell? ⟨ga, 1, none⟩ = some (.slice (some ⟨g, 0, none⟩) a.boxes.length cap) ∧ w'.cell? ⟨ga, 2, none⟩ = some (u9) ∧ w'.cell? ⟨w.heap.size, 2, none⟩ = some (.slice x1 n1 m1) ∧ w'.cell? ⟨w.heap.size, 3, none⟩ = some (.int .i64 uid) ∧ w'.cell? ⟨w.heap.size, 4, none⟩ = some (.int .i64 mode)) := fun w' h => HC.out W w' HB.out HKC.out h
  obtain ⟨-, -, -, -, -, -, -, s0, s1, s2, -⟩ := HS.out W (Below.refl _ _)
  have hl0 : ga < W.heap.size := by omega
  go_upto_region 2 with fail
  clear s0 s1 s2
  have DR : Below W.heap.size W W.drew := (Below.refl _ _).drew
  have hl1 : w.heap.size < W.drew.heap.size := by show _ < W.heap.size; omega
  have hl2 : g < W.drew.heap.size := by show _ < W.heap.size; omega
  have HVD : Hid _ := HV.out W.drew (Below.step HB.out DR)
  go_region_held3 (fun w' => w'.cell? ⟨g, k * 7, none⟩ = some (.slice a0 q0 z0) ∧ w'.cell? ⟨g, k * 7 + 1, none⟩ = some (.int .i64 b.valid) ∧ w'.cell? ⟨g, k * 7 + 2, none⟩ = some (.int .i64 b.next) ∧ w'.cell? ⟨g, k * 7 + 3, none⟩ = some (.int .i64 b.seq) ∧ w'.cell? ⟨g, k * 7 + 4, none⟩ = some (.slice a1 b.mails.length z1) ∧ w'.cell? ⟨g, k * 7 + 5, none⟩ = some (.slice a2 b.gones.length z2) ∧ w'.cell? ⟨g, k * 7 + 6, none⟩ = some (.int .i64 b.lost) ∧ w'.cell? ⟨ga, 0, none⟩ = some (.int .i64 a.valid) ∧ w'.cell? ⟨ga, 1, none⟩ = some (.slice (some ⟨g, 0, none⟩) a.boxes.length cap) ∧ w'.cell? ⟨ga, 2, none⟩ = some (u9) ∧ w'.cell? ⟨w.heap.size, 2, none⟩ = some (.slice x1 n1 m1) ∧ w'.cell? ⟨w.heap.size, 3, none⟩ = some (.int .i64 uid) ∧ w'.cell? ⟨w.heap.size, 4, none⟩ = some (.int .i64 mode))
    (first | exact HS.out _ DR | exact HS.out _ (Below.step DR B1) | go_keep)
    ((go_at_call 73; refine (l3mail_any _ b uid _ HVD.out).mono ?_; rintro e w1 ⟨rfl, B1⟩))
  have HB1 : Hid (Below W.heap.size W w1) := Below.step DR B1
  have hw1 : W.heap.size ≤ w1.heap.size := HB1.out.size
  clear B1 HVD DR hl1 hl2
  go_upto_region 3 with fail
  have DR : Below W.heap.size W w1.drew := HB1.out.drew
  have hl1 : w.heap.size < w1.drew.heap.size := by show _ < w1.heap.size; omega
  have hl2 : g < w1.drew.heap.size := by show _ < w1.heap.size; omega
  have hl3 : ga < w1.drew.heap.size := by show _ < w1.heap.size; omega
  have HVD : Hid _ := HAV.out w1.drew (Below.step HB.out DR)
  have HTD : Hid _ := HTO.out w1.drew (Below.step HB.out DR)
  go_region_held3 (fun w' => w'.cell? ⟨g, k * 7, none⟩ = some (.slice a0 q0 z0) ∧ w'.cell? ⟨g, k * 7 + 1, none⟩ = some (.int .i64 b.valid) ∧ w'.cell? ⟨g, k * 7 + 2, none⟩ = some (.int .i64 b.next) ∧ w'.cell? ⟨g, k * 7 + 3, none⟩ = some (.int .i64 b.seq) ∧ w'.cell? ⟨g, k * 7 + 4, none⟩ = some (.slice a1 b.mails.length z1) ∧ w'.cell? ⟨g, k * 7 + 5, none⟩ = some (.slice a2 b.gones.length z2) ∧ w'.cell? ⟨g, k * 7 + 6, none⟩ = some (.int .i64 b.lost) ∧ w'.cell? ⟨ga, 0, none⟩ = some (.int .i64 a.valid) ∧ w'.cell? ⟨ga, 1, none⟩ = some (.slice (some ⟨g, 0, none⟩) a.boxes.length cap) ∧ w'.cell? ⟨ga, 2, none⟩ = some (u9) ∧ w'.cell? ⟨w.heap.size, 2, none⟩ = some (.slice x1 n1 m1) ∧ w'.cell? ⟨w.heap.size, 3, none⟩ = some (.int .i64 uid) ∧ w'.cell? ⟨w.heap.size, 4, none⟩ = some (.int .i64 mode))
    (first | exact HS.out _ DR | exact HS.out _ (Below.step DR B2) | go_keep)
    ((go_at_call 66; refine (l3box_any _ _ a tt _ HVD.out HTD.out hbl).mono ?_; rintro e w2 ⟨rfl, B2⟩))
  have HB2 : Hid (Below W.heap.size W w2) := Below.step DR B2
  have HKR2 : Hid _ := box_below HB2.out HKR.out
  have hw2 : W.heap.size ≤ w2.heap.size := HB2.out.size
  clear B2 HVD HTD DR hl1 hl2 hl3 HB1 hw1
  obtain ⟨-, -, -, s3, -, -, -, s7, s8, -, -, -, s12⟩ := HS.out w2 HB2.out
  obtain ⟨g', cap', S2, cb', -, hpt, -, -⟩ := (HP.out w2 (Below.step HB.out HB2.out)).at hbt
  have e9 := Option.some.inj (cb'.symm.trans s8)
  simp only [Value.slice.injEq, Option.some.injEq, Addr.mk.injEq, and_true, true_and] at e9
  obtain ⟨rfl, rfl⟩ := e9
  obtain ⟨y0', y1', y2', g0, g1, g2, gint, t0, t1, t2, t3, t4, t5, t6⟩ := hpt.cells
  obtain ⟨y0, p0, k0, rfl⟩ := g0.bs.form3
  obtain ⟨y1, k1, rfl, -⟩ := g1.v.form
  obtain ⟨y2, k2, rfl, -⟩ := g2.1.form
  have HVT : Hid (BoxV w2 (.agg #[.slice y0 p0 k0, .int .i64 bt.valid, .int .i64 bt.next, .int .i64 bt.seq, .slice y1 bt.mails.length k1, .slice y2 bt.gones.length k2, .int .i64 bt.lost]) bt) := ⟨_, _, _, rfl, g0.bs, g1.v, g2.1, gint⟩
  have htl : t < a.boxes.length := (List.getElem?_eq_some_iff.1 hbt).1
  have hti : (t : Int) < (a.boxes.length : Int) := by omega
  have hl1 : w.heap.size < w2.heap.size := by omega
  have hl2 : g' < w2.heap.size := ty_lt hpt.ty
  have hl3 : ga < w2.heap.size := by omega
  clear g0 g1 g2 gint hpt cb'
  have hm1 := HM.out
  subst hm1
  have hw := HW.out
  clear HW
  rcases hw with ⟨htk, hroom⟩ | ⟨htk, hroom⟩
  all_goals first | (have htk1 : ((t : Int) == (k : Int)) = false := by simp; omega) | (have htk1 : ((t : Int) == (k : Int)) = true := by simp; omega)
  all_goals (
    have HTK : Hid _ := htk
    clear htk
    go_wp2_with fail
    first | (have tt := (show roomB bt 1 = true from hroom);clear tt;refine (l3room_any _ bt 1 w2 HVT.out (by decide) (by decide) (by have := szM_len bt.mails; unfold szX at hsxt; omega)).mono ?_) | refine (l3room_any _ bt 0 w2 HVT.out (by decide) (by decide) (by have := szM_len bt.mails; unfold szX at hsxt; omega)).mono ?_
    rintro e w3 ⟨rfl, B3⟩
    have HB3 : Hid (Below W.heap.size W w3) := Below.step HB2.out B3
    have HKR3 : Hid _ := box_below B3 HKR2.out
    have hw3 : W.heap.size ≤ w3.heap.size := HB3.out.size
    have hl4 : g' < w3.heap.size := by have := B3.size; omega
    clear B3 s3 s7 s8 s12 t0 t1 t2 t3 t4 t5 t6 HVT
    obtain ⟨-, -, -, s3, -⟩ := HS.out w3 HB3.out
    rw [hroom]
    have X3 : Below w.heap.size w w3 := Below.step HB.out HB3.out
    have HA3 : Hid (AccP w3 S0 ga a) := HP.out w3 X3
    have HT3 : Hid (TurnsA w w3 S0 ga) := TurnsA.below X3
    obtain ⟨gx, cx, Sx, cbx, hSgx, hpx, hSx, -⟩ := HA3.out.at hb
    obtain ⟨-, -, -, -, -, -, -, -, s8, -⟩ := HS.out w3 HB3.out
    have e9 := Option.some.inj (cbx.symm.trans s8)
    simp only [Value.slice.injEq, Option.some.injEq, Addr.mk.injEq, and_true, true_and] at e9
    obtain ⟨rfl, rfl⟩ := e9
    obtain ⟨mb, mc, ut, d4, hmc, hlm, f0, f1, f2, f3, hro, j0, j1, j2⟩ := hpx.mail4 hm
    obtain ⟨x9, n9, c9, rfl⟩ := hro.bs.form3
    have HRO : Hid (RO w3 Any (.slice x9 n9 c9) m.text) := hro
    have HJ : Hid (I64 m.flags) := j1
    have hii : (i : Int) < (b.mails.length : Int) := by have := (List.getElem?_eq_some_iff.1 hm).1; omega
    have hlgx : gx < w3.heap.size := hpx.lt
    have hga3 : ga < w3.heap.size := by omega
    have hr3 : w.heap.size + 1 < w3.heap.size := by omega
    have HG3 : Hid (w3.cell? ⟨ga, 1, none⟩ = some (.slice (some ⟨gx, 0, none⟩) a.boxes.length cx)) := cbx
    clear hpx hro j0 j1 j2 cbx hSx hSgx X3 hl4 HS HKC HC HV HKR HAV HTO s8
    go_upto_region 13 with fail
    have AB : Below w3.heap.size w3 (w3.alloc (.cells #[.int .i64 m.uid, .int .i64 m.flags, .int .i64 m.seq, .slice x9 n9 c9] 54)) := (Below.refl _ _).alloc (Nat.le_refl _) _
    have HKM : Hid ((w3.alloc (.cells #[.int .i64 m.uid, .int .i64 m.flags, .int .i64 m.seq, .slice x9 n9 c9] 54)).heap[w3.heap.size]? = some (.cells #[.int .i64 m.uid, .int .i64 m.flags, .int .i64 m.seq, .slice x9 n9 c9] 54 (0, 0))) := box_new w3 _
    have HA4 : Hid (AccP (w3.alloc (.cells #[.int .i64 m.uid, .int .i64 m.flags, .int .i64 m.seq, .slice x9 n9 c9] 54)) S0 ga a) := HA3.out.below AB
    have HRO4 : Hid (RO (w3.alloc (.cells #[.int .i64 m.uid, .int .i64 m.flags, .int .i64 m.seq, .slice x9 n9 c9] 54)) Any (.slice x9 n9 c9) m.text) := HRO.out.below AB
    have HT4 : Hid (TurnsA w (w3.alloc (.cells #[.int .i64 m.uid, .int .i64 m.flags, .int .i64 m.seq, .slice x9 n9 c9] 54)) S0 ga) := HT3.out.trans (TurnsA.below (S := S0) AB) (fun k h => .inl h)
    have HKR4 : Hid _ := box_below AB HKR3.out
    have HG1 : Hid ((w3.alloc (.cells #[.int .i64 m.uid, .int .i64 m.flags, .int .i64 m.seq, .slice x9 n9 c9] 54)).cell? ⟨ga, 1, none⟩ = some (.slice (some ⟨gx, 0, none⟩) a.boxes.length cx)) := (AB.cell (p := ⟨ga, 1, none⟩) hga3).trans HG3.out
    have hw4 : (w3.alloc (.cells #[.int .i64 m.uid, .int .i64 m.flags, .int .i64 m.seq, .slice x9 n9 c9] 54)).heap.size = w3.heap.size + 1 := by simp
    generalize (w3.alloc (.cells #[.int .i64 m.uid, .int .i64 m.flags, .int .i64 m.seq, .slice x9 n9 c9] 54)) = w4 at HKM HA4 HRO4 HT4 HKR4 HG1 hw4 ⊢
    clear HG3 AB HA3 HRO HT3 HKR3 f0 f1 f2 f3 d4 hlm hmc HB3 s3 HB HKR2 HB2
    obtain ⟨g4, cap4, S4, cb4, hSg4, hp4, hS4, hback⟩ := HA4.out.at hb
    have HBK : Hid _ := hback
    have hg4 : g4 < w.heap.size := HSL.out g4 hSg4
    have hz4 := hp4.open
    obtain ⟨-, -, -, -, -, -, ⟨-, -, q64, -⟩, -, -, -, q3, -⟩ := hp4.cells
    have qz := hp4.lt
    have hsl : (-9223372036854775808 : Int) ≤ b.seq := q64.1
    have hsq64 : I64 (b.seq + 1) := ⟨by have := q64.1; omega, by omega⟩
    have HP5 : Hid (BoxP (w4.setCell ⟨g4, k * 7 + 3, none⟩ (.int .i64 (b.seq + 1))) S4 g4 (k * 7) (seqX b)) := hp4.setSeq (b.seq + 1) hsq64
    have HT5 : Hid (Turns w4 (w4.setCell ⟨g4, k * 7 + 3, none⟩ (.int .i64 (b.seq + 1))) S4 g4 (k * 7)) := turns_set hp4 (by omega)
    have hw5 : (w4.setCell ⟨g4, k * 7 + 3, none⟩ (.int .i64 (b.seq + 1))).heap.size = w4.heap.size := box_size
    have HS4 : Hid (∀ k, S4 k → S0 k) := fun k h => (hS4 k h).1
    have e9 := Option.some.inj (cb4.symm.trans HG1.out)
    simp only [Value.slice.injEq, Option.some.injEq, Addr.mk.injEq, and_true, true_and] at e9
    obtain ⟨rfl, rfl⟩ := e9
    clear hback hp4 hS4 cb4 q64 HG1
    go_upto_region 15 with fail
    clear q3 qz hz4
    generalize w4.setCell ⟨g4, k * 7 + 3, none⟩ (.int .i64 (b.seq + 1)) = w5 at HP5 HT5 hw5 ⊢
    have hm5 : (seqX b).mails[i]? = some m := hm
    go_wp2_with fail
    refine (l3drop_r g4 (k * 7) i (seqX b) m S4 w5 HP5.out hm5 (by have := szM_len b.mails; unfold szX at hsx; show b.mails.length ≤ 2000000; omega) (by unfold szX at hsx; show b.gones.length ≤ 2000000; omega)).mono ?_
    rintro e w6 ⟨rfl, hT6, hP6⟩
    have HTT : Hid (Turns w4 w6 S4 g4 (k * 7)) := Turns.trans HT5.out hT6 (fun k h => .inl h)
    have HA6 : Hid (AccP w6 (fun k => S0 k ∨ w4.heap.size ≤ k) ga (setB a k (dropX (seqX b) i))) := HBK.out w6 _ _ HTT.out hP6 (fun k h => ⟨.inr (by omega), by omega⟩)
    have HT6 : Hid (TurnsA w w6 S0 ga) := HT4.out.trans (TurnsA.box HTT.out hSg4 HS4.out) (fun k h => .inl h)
    have hne4 : ∀ k, w.heap.size ≤ k → k < w4.heap.size → w6.heap[k]? = w4.heap[k]? := fun k h1 h2 => HTT.out.2.1 k h2 (by omega) (fun h => by have := HSL.out k (HS4.out k h); omega)
    have HKM6 : Hid (w6.heap[w3.heap.size]? = some (.cells #[.int .i64 m.uid, .int .i64 m.flags, .int .i64 m.seq, .slice x9 n9 c9] 54 (0, 0))) := (hne4 _ (by omega) (by omega)).trans HKM.out
    have HKR6 : Hid (w6.heap[w.heap.size + 1]? = some (.cells #[.int .i64 0, .int .i64 0, .slice none 0 0, .int .i64 0, .int .i64 0, .int .i64 0, .slice none 0 0, .slice none 0 0, .int .i64 0, .slice none 0 0] 37 (0, 0))) := (hne4 _ (by omega) (by omega)).trans HKR4.out
    have HRO6 : Hid (RO w6 Any (.slice x9 n9 c9) m.text) := ro_oth HRO4.out HTT.out.2.2.1
    have hw6 : w4.heap.size ≤ w6.heap.size := HTT.out.1
    have HSB : Hid (∀ k, (S0 k ∨ w4.heap.size ≤ k) → (k < w.heap.size ∨ w3.heap.size < k) ∧ (S0 k ∨ w.heap.size ≤ k)) := fun k h => h.elim (fun h => ⟨.inl (HSL.out k h), .inl h⟩) (fun h => ⟨.inr (by omega), .inr (by omega)⟩)
    clear hne4 HTT HA4 HT4 HKM HKR4 HRO4 hT6 hP6 HBK HP5 HT5
    go_upto_region 16 with fail
    obtain ⟨S6, hS6e⟩ : ∃ S6 : Nat → Prop, S6 = fun k => S0 k ∨ w4.heap.size ≤ k := ⟨_, rfl⟩
    rw [← hS6e] at HA6
    replace HSB : Hid (∀ k, S6 k → (k < w.heap.size ∨ w3.heap.size < k) ∧ (S0 k ∨ w.heap.size ≤ k)) := by rw [hS6e]; exact HSB
    clear hS6e
    have hDR : Below w6.heap.size w6 w6.drew := (Below.refl _ _).drew
    have HAD : Hid (AccP w6.drew S6 ga (setB a k (dropX (seqX b) i))) := HA6.out.below hDR
    obtain ⟨gt, ct, St, cbt, hSgt, hpt, hSt, hbackt⟩ := HAD.out.at hbu
    have HBT : Hid _ := hbackt
    have HPT : Hid (BoxP w6.drew St gt (t * 7) bu) := hpt
    have HST : Hid (∀ k, St k → S6 k) := fun k h => (hSt k h).1
    have htl9 : (t : Int) < ((setB a k (dropX (seqX b) i)).boxes.length : Int) := by have := (List.getElem?_eq_some_iff.1 hbu).1; omega
    have htl8 : t < (setB a k (dropX (seqX b) i)).boxes.length := (List.getElem?_eq_some_iff.1 hbu).1
    have hlgt : gt < w6.drew.heap.size := hpt.lt
    have hlg9 : ga < w6.drew.heap.size := HAD.out.lt
    have hlm9 : w3.heap.size < w6.drew.heap.size := by show _ < w6.heap.size; omega
    have hlr9 : w.heap.size + 1 < w6.drew.heap.size := by show _ < w6.heap.size; omega
    obtain ⟨-, n1, -, n3⟩ := bx4 (box_below hDR HKM6.out)
    have hwd : w6.heap.size = w6.drew.heap.size := rfl
    have HRD : Hid (∀ w', w6.drew.heap.size ≤ w'.heap.size → StayT w6.drew w' 5 → Bs w' (.slice x9 n9 c9) m.text) := (HRO6.out.below hDR).stay
    have HTD : Hid (TurnsA w w6.drew S0 ga) := HT6.out.trans (TurnsA.below (S := S0) hDR) (fun k h => .inl h)
    have HKD : Hid (w6.drew.heap[w.heap.size + 1]? = some (.cells #[.int .i64 0, .int .i64 0, .slice none 0 0, .int .i64 0, .int .i64 0, .int .i64 0, .slice none 0 0, .slice none 0 0, .int .i64 0, .slice none 0 0] 37 (0, 0))) := box_below hDR HKR6.out
    have hbn := HPT.out.cells
    obtain ⟨-, -, -, -, -, -, ⟨-, hbn64, -, -⟩, -⟩ := hbn
    have HBN : Hid (I64 bu.next) := hbn64
    clear hpt hbackt hDR hbn64 hSt
    refine wpS_begin 10 (S := fun w' => (w'.cell? ⟨ga, 1, none⟩ = some (.slice (some ⟨gt, 0, none⟩) (setB a k (dropX (seqX b) i)).boxes.length ct) ∧ w'.cell? ⟨w3.heap.size, 1, none⟩ = some (.int .i64 m.flags) ∧ w'.cell? ⟨w3.heap.size, 3, none⟩ = some (.slice x9 n9 c9))) (tabS_of (by kernel_rfl) tab_copy16) (by kernel_rfl) (⟨cbt, n1, n3⟩) (fun hTb hHeld => ?_)
    refine tks 0 0 86 hTb hHeld ?_
    refine tks 1 1 87 hTb hHeld ?_
    refine tks 2 2 88 hTb hHeld ?_
    refine tks 3 3 89 hTb hHeld ?_
    refine tks 4 4 90 hTb hHeld ?_
    refine tks 5 5 91 hTb hHeld ?_
    refine tks 6 6 92 hTb hHeld ?_
    refine tks 7 7 93 hTb hHeld ?_
    refine tks 8 8 94 hTb hHeld ?_
    refine tks 9 9 95 hTb hHeld ?_
    refine wpS_next (S' := fun w' => True) 10 13 hTb (by decide) (trivial) (fun hHeld => ?_)
    refine cls 10 10 hTb (by decide) rfl rfl (fun K hK => ?_)
    go_simp
    refine (l3add_r gt (t * 7) bu St m.flags _ m.text _ HPT.out HJ.out HRD.out (by have := szM_mem (List.mem_of_getElem? hm); unfold szX at hsx; omega) hu1 hu2 hu3).mono ?_
    rintro e w7 ⟨rfl, hT7, hP7⟩
    have HA7 : Hid (AccP w7 (fun k => S6 k ∨ w6.drew.heap.size ≤ k) ga (setB (setB a k (dropX (seqX b) i)) t (addX bu m.flags m.text))) := HBT.out w7 _ _ hT7 hP7 (fun k h => ⟨.inr h, by omega⟩)
    have HT7 : Hid (TurnsA w w7 S0 ga) := HTD.out.trans (TurnsA.box hT7 hSgt HST.out) (fun k h => (HSB.out k h).2)
    have hsz7 := hT7.1
    have HK7 : Hid (w7.heap[w.heap.size + 1]? = some (.cells #[.int .i64 0, .int .i64 0, .slice none 0 0, .int .i64 0, .int .i64 0, .int .i64 0, .slice none 0 0, .slice none 0 0, .int .i64 0, .slice none 0 0] 37 (0, 0))) := (hT7.2.1 _ hlr9 (fun e => by have := (HSB.out gt hSgt).1; omega) (fun h => by have := (HSB.out _ (HST.out _ h)).1; omega)).trans HKD.out
    clear hT7 hP7
    refine hK.out _ _ (trivial) (fun hHeld => ?_)
    clear hK K
    refine tks 11 11 97 hTb hHeld ?_
    refine cls 12 12 hTb (by decide) rfl rfl (fun K hK => ?_)
    obtain ⟨r0, r1, r2, r3, r4, r5, r6, r7, r8, r9⟩ := bx10 HK7.out
    have fz : ∀ i, w7.frozen? ⟨w.heap.size + 1, i, none⟩ = false := fun i => frozen_of_row w7 _ i _ _ HK7.out
    have hlr := lt_of_heap HK7.out
    have HF : Hid _ := rep_turnA (w := w) HK7.out (by omega) HT7.out _ _ HA7.out hlga (fun h => h.elim (fun h => by have := (HSB.out _ h).1; omega) (fun h => by omega)) 0 bu.next ⟨i64c0, HBN.out⟩
    go_simp
    refine hK.out _ _ (trivial) (fun hHeld => ?_)
    clear hK K
    refine wpS_end hTb ?_
    go_wp2
    obtain ⟨f0, f1, f2, f3, f4, f5, f6, f7, f8, f9⟩ := bx10 HF.out.1
    refine bodyPost_ret (v := .agg #[.int .i64 0, .int .i64 bu.next, .slice none 0 0, .int .i64 0, .int .i64 0, .int .i64 0, .slice none 0 0, .slice none 0 0, .int .i64 0, .slice none 0 0]) (by simp [results, Tryd.results71, go_sem, f0, f1, f2, f3, f4, f5, f6, f7, f8, f9]) rfl ⟨_, _, rfl, HF.out.2.2.2, TurnsA.wide HF.out.2.1 HSUB.out, HF.out.2.2.1, fun k h => ?_⟩
    rcases h with h | h
    · exact (HSB.out k h).2.elim (fun h => .inl (HSUB.out k h)) .inr
    · exact .inr (by omega))

end Go.Proofs.YtmonloebkdpahaaDoor

/- What l3create and l3copy of package spec do: all their ways in one contract each. -/
namespace Go.Proofs.YtmonloebkdpahaaDoor
open Go.RowKit
set_option linter.unusedVariables false
set_option linter.unusedSimpArgs false

theorem l3create_r (ga : Nat) (a : AccD) (S : Nat → Prop) (nv : Value) (nm : List Int) (w : World) (hp : AccP w S ga a) (hst : ∀ w', w.heap.size ≤ w'.heap.size → StayT w w' 5 → Bs w' nv nm) (hnl : nm.length ≤ 2000000) (hbl : a.boxes.length ≤ 2000000) :
    Calls Tryd.prog 65 #[.pointer (some ⟨ga, 0, none⟩), nv] w (DoneA w S ga (createA a nm)) := by
  have hnv := hst w (Nat.le_refl _) (StayT.refl _ _)
  unfold createA
  by_cases h1 : 0 ≤ firstI (fun x : BoxD => decide (x.name = nm)) a.boxes
  · rw [if_pos h1]
    exact (l3create_has ga a S nv nm w hp hnv hbl h1).mono fun e w' h => DoneA.same h
  · rw [if_neg h1]
    by_cases h2 : 4 ≤ a.boxes.length
    · rw [if_pos (.inl h2)]
      exact (l3create_full1 ga a S nv nm w hp hnv hbl (by omega) h2).mono fun e w' h => DoneA.same h
    · by_cases h3 : 1000000 ≤ a.valid
      · rw [if_pos (.inr h3)]
        exact (l3create_full2 ga a S nv nm w hp hnv hbl (by omega) h2 h3).mono fun e w' h => DoneA.same h
      · rw [if_neg (fun h => h.elim h2 h3)]
        exact (l3create_new ga a S nv nm w hp hst hnl hbl (by omega) h2 h3).mono fun e w' h => DoneA.code h

theorem first_none {α : Type} {p : α → Bool} {l : List α} (h : l.findIdx? p = none) : firstI p l = -1 := by unfold firstI; rw [h]
theorem first_some {α : Type} {p : α → Bool} {l : List α} {i : Nat} (h : l.findIdx? p = some i) : firstI p l = (i : Int) ∧ ∃ x, l[i]? = some x := by
  obtain ⟨hi, -, -⟩ := List.findIdx?_eq_some_iff_getElem.mp h
  exact ⟨by unfold firstI; rw [h], _, List.getElem?_eq_getElem hi⟩
theorem l3copy_r (ga k : Nat) (a : AccD) (b : BoxD) (tt : List Int) (S : Nat → Prop) (kd uid mode fl si : Int) (x0 x1 x2 : Option Addr) (n0 n1 n2 m0 m1 m2 : Nat) (w : World) (hp : AccP w S ga a) (hb : a.boxes[k]? = some b) (hto : Bs w (.slice x1 n1 m1) tt) (hsz : ∀ x ∈ a.boxes, szX x ≤ 900000) (hbl : a.boxes.length ≤ 2000000) :
    Calls Tryd.prog 71 #[.pointer (some ⟨ga, 0, none⟩), .int .i64 k, .agg #[.int .i64 kd, .slice x0 n0 m0, .slice x1 n1 m1, .int .i64 uid, .int .i64 mode, .int .i64 fl, .int .i64 si, .slice x2 n2 m2]] w (DoneA w S ga (copyA a k b tt uid mode)) := by
  have hsb := hsz b (List.mem_of_getElem? hb)
  have hsx : szX b ≤ 2000000 := by omega
  unfold copyA
  cases h1 : b.mails.findIdx? (fun m : MailD => decide (m.uid = uid)) with
  | none => exact (l3copy_noMail ga k a b tt S kd uid mode fl si x0 x1 x2 n0 n1 n2 m0 m1 m2 w hp hb hto hbl hsx (first_none h1)).mono fun e w' h => DoneA.same h
  | some i =>
    obtain ⟨e1, m, hm⟩ := first_some h1
    cases h2 : a.boxes.findIdx? (fun x : BoxD => decide (x.name = tt)) with
    | none => exact (l3copy_noBox ga k a b tt S kd uid mode fl si x0 x1 x2 n0 n1 n2 m0 m1 m2 w hp hb hto hbl hsx i e1 (first_none h2)).mono fun e w' h => DoneA.same h
    | some t =>
      obtain ⟨e2, bt, hbt⟩ := first_some h2
      have hst := hsz bt (List.mem_of_getElem? hbt)
      have hsxt : szX bt ≤ 2000000 := by omega
      have htl := szM_len bt.mails
      have hbl' := szM_len b.mails
      have hbt' : szM bt.mails ≤ szX bt := by unfold szX; omega
      have hb' : szM b.mails ≤ szX b := by unfold szX; omega
      simp only [hm, hbt]
      by_cases hmode : mode = 1
      · by_cases htk : t = k
        · rw [show (if mode = 1 ∧ t = k then (0 : Int) else 1) = 0 from if_pos ⟨hmode, htk⟩]
          have hbb : bt = b := by rw [htk, hb] at hbt; exact (Option.some.inj hbt).symm
          cases hr : roomB bt 0 with
          | false =>
            rw [if_pos (.inl rfl)]
            exact (l3copy_full ga k a b tt S kd uid mode fl si x0 x1 x2 n0 n1 n2 m0 m1 m2 w hp hb hto hbl hsx i t bt e1 e2 hbt hsxt (.inr (.inl ⟨hmode, htk, hr⟩))).mono fun e w' h => DoneA.same h
          | true =>
            by_cases hq : 999999 ≤ b.seq
            · rw [if_pos (.inr ⟨hmode, hq⟩)]
              exact (l3copy_full ga k a b tt S kd uid mode fl si x0 x1 x2 n0 n1 n2 m0 m1 m2 w hp hb hto hbl hsx i t bt e1 e2 hbt hsxt (.inr (.inr (.inr (.inl ⟨hmode, htk, hr, hq⟩))))).mono fun e w' h => DoneA.same h
            · rw [if_neg (fun h => h.elim (fun h => by cases h) (fun h => hq h.2)), if_pos hmode]
              have hk : k < a.boxes.length := (List.getElem?_eq_some_iff.1 hb).1
              have hu : (setB a k (dropX (seqX b) i)).boxes[t]? = some (dropX (seqX b) i) := by rw [htk]; exact List.getElem?_set_self hk
              simp only [hu]
              have hd : (dropX (seqX b) i).mails.length ≤ b.mails.length ∧ (dropX (seqX b) i).seq = b.seq + 1 ∧ (dropX (seqX b) i).next = b.next := by
                unfold dropX
                rw [show (seqX b).mails[i]? = some m from hm]
                exact ⟨by show (b.mails.take i ++ b.mails.drop (i + 1)).length ≤ _; rw [List.length_append, List.length_take, List.length_drop]; omega, rfl, rfl⟩
              have hr0 := hr
              rw [hbb] at hr
              simp only [roomB, Bool.and_eq_true, decide_eq_true_eq] at hr
              exact (l3copy_mv ga k a b tt S kd uid mode fl si x0 x1 x2 n0 n1 n2 m0 m1 m2 w hp hb hto hbl hsx i t bt _ m hm e1 e2 hbt hsxt hu (by omega) (by omega) (by omega) hmode (.inl ⟨htk, hr0⟩) hq).mono fun e w' h => DoneA.code h
        · rw [show (if mode = 1 ∧ t = k then (0 : Int) else 1) = 1 from if_neg (fun h => htk h.2)]
          cases hr : roomB bt 1 with
          | false =>
            rw [if_pos (.inl rfl)]
            exact (l3copy_full ga k a b tt S kd uid mode fl si x0 x1 x2 n0 n1 n2 m0 m1 m2 w hp hb hto hbl hsx i t bt e1 e2 hbt hsxt (.inr (.inr (.inl ⟨hmode, htk, hr⟩)))).mono fun e w' h => DoneA.same h
          | true =>
            by_cases hq : 999999 ≤ b.seq
            · rw [if_pos (.inr ⟨hmode, hq⟩)]
              exact (l3copy_full ga k a b tt S kd uid mode fl si x0 x1 x2 n0 n1 n2 m0 m1 m2 w hp hb hto hbl hsx i t bt e1 e2 hbt hsxt (.inr (.inr (.inr (.inr ⟨hmode, htk, hr, hq⟩))))).mono fun e w' h => DoneA.same h
            · rw [if_neg (fun h => h.elim (fun h => by cases h) (fun h => hq h.2)), if_pos hmode]
              have hu : (setB a k (dropX (seqX b) i)).boxes[t]? = some bt := by show (a.boxes.set k _)[t]? = _; rw [List.getElem?_set_ne (Ne.symm htk)]; exact hbt
              simp only [hu]
              have hr' := hr
              simp only [roomB, Bool.and_eq_true, decide_eq_true_eq] at hr'
              exact (l3copy_mv ga k a b tt S kd uid mode fl si x0 x1 x2 n0 n1 n2 m0 m1 m2 w hp hb hto hbl hsx i t bt bt m hm e1 e2 hbt hsxt hu (by omega) (by omega) (by omega) hmode (.inr ⟨htk, hr⟩) hq).mono fun e w' h => DoneA.code h
      · rw [show (if mode = 1 ∧ t = k then (0 : Int) else 1) = 1 from if_neg (fun h => hmode h.1)]
        cases hr : roomB bt 1 with
        | false =>
          rw [if_pos (.inl rfl)]
          exact (l3copy_full ga k a b tt S kd uid mode fl si x0 x1 x2 n0 n1 n2 m0 m1 m2 w hp hb hto hbl hsx i t bt e1 e2 hbt hsxt (.inl ⟨hmode, hr⟩)).mono fun e w' h => DoneA.same h
        | true =>
          rw [if_neg (fun h => h.elim (fun h => by cases h) (fun h => hmode h.1)), if_neg hmode]
          simp only [hbt]
          have hr' := hr
          simp only [roomB, Bool.and_eq_true, decide_eq_true_eq] at hr'
          exact (l3copy_cp0 ga k a b tt S kd uid mode fl si x0 x1 x2 n0 n1 n2 m0 m1 m2 w hp hb hto hbl hsx i t bt bt m hm e1 e2 hbt hsxt hbt (by omega) (by omega) (by omega) hmode hr).mono fun e w' h => DoneA.code h

end Go.Proofs.YtmonloebkdpahaaDoor

/- Small laws for l3expunge. -/
namespace Go.Proofs.YtmonloebkdpahaaDoor
open Go.RowKit
set_option linter.unusedVariables false
set_option linter.unusedSimpArgs false

theorem BoxP.cut {w : World} {S : Nat → Prop} {g o : Nat} {b : BoxD} (h : BoxP w S g o b) : BoxP w (fun k => S k ∧ k < w.heap.size) g o b := by
  obtain ⟨cur, c, hh, ⟨u0, u1, u2, e, h1, h2, r⟩, hc⟩ := h
  refine ⟨cur, c, hh, ⟨u0, u1, u2, e, h1, ?_, r⟩, hc⟩
  rcases h2 with h | ⟨m, cap, cu, cs, fs, hv, hm, k1, k2, k3, k4, k5, k6, k7⟩
  · exact .inl h
  · exact .inr ⟨m, cap, cu, cs, fun _ _ => False, hv, hm, k1, k2, k3, ⟨k4, lt_of_heap hm⟩, k5, by simp, by simp⟩
/-- How many mails a box behind a pointer holds. -/
def mLen (w : World) (g o : Nat) : Nat := match w.cell? ⟨g, o + 4, none⟩ with | some (.slice _ n _) => n | _ => 0
theorem BoxP.mlen {w : World} {S : Nat → Prop} {g o : Nat} {b : BoxD} (h : BoxP w S g o b) : mLen w g o = b.mails.length := by
  obtain ⟨u0, u1, u2, h0, h1, h2, hi, c0, c1, c2, c3, c4, c5, c6⟩ := h.cells
  obtain ⟨a, c, rfl, -⟩ := h1.v.form
  unfold mLen
  rw [c4]
theorem countP_take {l : List MailD} {k : Nat} {m : MailD} (h : l[k]? = some m) : (l.take (k + 1)).countP delM = (l.take k).countP delM + if delM m then 1 else 0 := by
  obtain ⟨hk, rfl⟩ := List.getElem?_eq_some_iff.1 h
  rw [List.take_succ_eq_append_getElem hk, List.countP_append]
  simp [List.countP_cons]
theorem dropX_len {b : BoxD} {i : Nat} {m : MailD} (h : b.mails[i]? = some m) : (dropX b i).mails.length + 1 = b.mails.length ∧ (dropX b i).gones.length ≤ b.gones.length + 1 := by
  have hi := (List.getElem?_eq_some_iff.1 h).1
  unfold dropX
  rw [h]
  refine ⟨by simp; omega, ?_⟩
  have := trimG_len (b.gones ++ [⟨m.uid, b.seq⟩]) b.lost
  simpa using this
/-- A reply that is laid above all that was there; what turned ahead of it. -/
theorem rep_turn {w w1 : World} {S : Nat → Prop} {g o r : Nat} {d0 d1 d2 d3 d4 d5 d6 d7 d8 d9 : Value} (hR : w1.heap[r]? = some (.cells #[d0, d1, d2, d3, d4, d5, d6, d7, d8, d9] 37 (0, 0))) (hr : w.heap.size ≤ r) (ht : Turns w w1 S g o) (b : BoxD) (S' : Nat → Prop) (hp : BoxP w1 S' g o b) (hg : g < w.heap.size) (hS : ¬ S' r) (c n : Int) (hc : I64 c ∧ I64 n) :
    let w2 := ((((((((((w1.setCell ⟨r, 0, none⟩ (.int .i64 c)).setCell ⟨r, 1, none⟩ (.int .i64 n)).setCell ⟨r, 2, none⟩ (.slice none 0 0)).setCell ⟨r, 3, none⟩ (.int .i64 0)).setCell ⟨r, 4, none⟩ (.int .i64 0)).setCell ⟨r, 5, none⟩ (.int .i64 0)).setCell ⟨r, 6, none⟩ (.slice none 0 0)).setCell ⟨r, 7, none⟩ (.slice none 0 0)).setCell ⟨r, 8, none⟩ (.int .i64 0)).setCell ⟨r, 9, none⟩ (.slice none 0 0))
    w2.heap[r]? = some (.cells #[.int .i64 c, .int .i64 n, .slice none 0 0, .int .i64 0, .int .i64 0, .int .i64 0, .slice none 0 0, .slice none 0 0, .int .i64 0, .slice none 0 0] 37 (0, 0)) ∧ Turns w w2 S g o ∧ BoxP w2 S' g o b ∧ RepC w2 (.agg #[.int .i64 c, .int .i64 n, .slice none 0 0, .int .i64 0, .int .i64 0, .int .i64 0, .slice none 0 0, .slice none 0 0, .int .i64 0, .slice none 0 0]) (codeR c n) := by
  intro w2
  have hoth : ∀ k, k ≠ r → w2.heap[k]? = w1.heap[k]? := fun k hk => by
    show ((((((((((w1.setCell ⟨r, 0, none⟩ (.int .i64 c)).setCell ⟨r, 1, none⟩ (.int .i64 n)).setCell ⟨r, 2, none⟩ (.slice none 0 0)).setCell ⟨r, 3, none⟩ (.int .i64 0)).setCell ⟨r, 4, none⟩ (.int .i64 0)).setCell ⟨r, 5, none⟩ (.int .i64 0)).setCell ⟨r, 6, none⟩ (.slice none 0 0)).setCell ⟨r, 7, none⟩ (.slice none 0 0)).setCell ⟨r, 8, none⟩ (.int .i64 0)).setCell ⟨r, 9, none⟩ (.slice none 0 0)).heap[k]? = _
    rw [Below.heap_setCell _ _ _ _ (show k ≠ r from hk), Below.heap_setCell _ _ _ _ (show k ≠ r from hk), Below.heap_setCell _ _ _ _ (show k ≠ r from hk), Below.heap_setCell _ _ _ _ (show k ≠ r from hk), Below.heap_setCell _ _ _ _ (show k ≠ r from hk), Below.heap_setCell _ _ _ _ (show k ≠ r from hk), Below.heap_setCell _ _ _ _ (show k ≠ r from hk), Below.heap_setCell _ _ _ _ (show k ≠ r from hk), Below.heap_setCell _ _ _ _ (show k ≠ r from hk), Below.heap_setCell _ _ _ _ (show k ≠ r from hk)]
  have hsz : w2.heap.size = w1.heap.size := by show ((((((((((w1.setCell ⟨r, 0, none⟩ (.int .i64 c)).setCell ⟨r, 1, none⟩ (.int .i64 n)).setCell ⟨r, 2, none⟩ (.slice none 0 0)).setCell ⟨r, 3, none⟩ (.int .i64 0)).setCell ⟨r, 4, none⟩ (.int .i64 0)).setCell ⟨r, 5, none⟩ (.int .i64 0)).setCell ⟨r, 6, none⟩ (.slice none 0 0)).setCell ⟨r, 7, none⟩ (.slice none 0 0)).setCell ⟨r, 8, none⟩ (.int .i64 0)).setCell ⟨r, 9, none⟩ (.slice none 0 0)).heap.size = _; simp only [box_size]
  have hos : w2.os = w1.os := by show ((((((((((w1.setCell ⟨r, 0, none⟩ (.int .i64 c)).setCell ⟨r, 1, none⟩ (.int .i64 n)).setCell ⟨r, 2, none⟩ (.slice none 0 0)).setCell ⟨r, 3, none⟩ (.int .i64 0)).setCell ⟨r, 4, none⟩ (.int .i64 0)).setCell ⟨r, 5, none⟩ (.int .i64 0)).setCell ⟨r, 6, none⟩ (.slice none 0 0)).setCell ⟨r, 7, none⟩ (.slice none 0 0)).setCell ⟨r, 8, none⟩ (.int .i64 0)).setCell ⟨r, 9, none⟩ (.slice none 0 0)).os = _; simp only [set_os]
  have htape : w2.tape = w1.tape := by show ((((((((((w1.setCell ⟨r, 0, none⟩ (.int .i64 c)).setCell ⟨r, 1, none⟩ (.int .i64 n)).setCell ⟨r, 2, none⟩ (.slice none 0 0)).setCell ⟨r, 3, none⟩ (.int .i64 0)).setCell ⟨r, 4, none⟩ (.int .i64 0)).setCell ⟨r, 5, none⟩ (.int .i64 0)).setCell ⟨r, 6, none⟩ (.slice none 0 0)).setCell ⟨r, 7, none⟩ (.slice none 0 0)).setCell ⟨r, 8, none⟩ (.int .i64 0)).setCell ⟨r, 9, none⟩ (.slice none 0 0)).tape = _; simp only [set_tape]
  have houtput : w2.output = w1.output := by show ((((((((((w1.setCell ⟨r, 0, none⟩ (.int .i64 c)).setCell ⟨r, 1, none⟩ (.int .i64 n)).setCell ⟨r, 2, none⟩ (.slice none 0 0)).setCell ⟨r, 3, none⟩ (.int .i64 0)).setCell ⟨r, 4, none⟩ (.int .i64 0)).setCell ⟨r, 5, none⟩ (.int .i64 0)).setCell ⟨r, 6, none⟩ (.slice none 0 0)).setCell ⟨r, 7, none⟩ (.slice none 0 0)).setCell ⟨r, 8, none⟩ (.int .i64 0)).setCell ⟨r, 9, none⟩ (.slice none 0 0)).output = _; simp only [set_output]
  have hT : ∀ t, t ≠ 37 → StayT w1 w2 t := fun t hne k hk => hoth k fun e => by obtain ⟨cs, fz, hh⟩ := hk; rw [e, hR] at hh; cases hh; exact hne rfl
  have hrg : g ≠ r := by omega
  refine ⟨?_, ⟨by rw [hsz]; exact ht.1, fun k h1 h2 h3 => (hoth k (by omega)).trans (ht.2.1 k h1 h2 h3), ht.2.2.1.trans (hT _ (by decide)), ht.2.2.2.1.trans (hT _ (by decide)), fun cur hc => ?_, hos.trans ht.2.2.2.2.2.1, htape.trans ht.2.2.2.2.2.2.1, houtput.trans ht.2.2.2.2.2.2.2⟩, hp.oth (hoth g hrg) (fun k h1 h2 => hoth k fun e => hS (e ▸ h1)) (hT _ (by decide)) (hT _ (by decide)), ?_⟩
  · exact (rep_fin (w := { w1 with heap := #[] }) hR (Nat.zero_le _) ⟨rfl, rfl, rfl, Nat.zero_le _, fun k hk => absurd hk (Nat.not_lt_zero _)⟩ c n).1
  · obtain ⟨cur', h1, h2⟩ := ht.2.2.2.2.1 cur hc
    exact ⟨cur', (hoth g hrg).trans h1, h2⟩
  · exact ⟨_, _, _, _, rfl, ⟨_, _, _, rfl, bs_nil' _, Rd.nil _, Rd.nil _, i64c0, i64c0, i64c0, i64c0⟩, ⟨rfl, rfl⟩, hc⟩

end Go.Proofs.YtmonloebkdpahaaDoor

/- What l3expunge of package spec does. -/
namespace Go.Proofs.YtmonloebkdpahaaDoor
open Go.RowKit
set_option maxRecDepth 100000
set_option linter.unusedVariables false
set_option linter.unusedSimpArgs false

theorem expLoop_hit {n k : Nat} {b : BoxD} {m : MailD} (h : b.mails[k]? = some m) (hd : delM m = true) : expLoop (n + 1) b k = expLoop n (dropX b k) k := by rw [expLoop, h]; simp [hd]
theorem expLoop_miss {n k : Nat} {b : BoxD} {m : MailD} (h : b.mails[k]? = some m) (hd : delM m = false) : expLoop (n + 1) b k = expLoop n b (k + 1) := by rw [expLoop, h]; simp [hd]

set_option maxRecDepth 100000 in
set_option maxHeartbeats 8000000 in
theorem l3expunge_r (g o : Nat) (b : BoxD) (S : Nat → Prop) (w : World) (hp : BoxP w S g o b) (hml : b.mails.length ≤ 900000) (hgl : b.gones.length ≤ 900000) :
    Calls Tryd.prog 70 #[.pointer (some ⟨g, o, none⟩)] w fun e w' => ∃ u, e = .returned u ∧ RepC w' u (expungeX b).2 ∧ Turns w w' S g o ∧ BoxP w' (fun k => S k ∨ w.heap.size ≤ k) g o (expungeX b).1 := by
  have hlg : g < w.heap.size := hp.lt
  have B1 : Below w.heap.size w (w.alloc (.cells #[.int .i64 0, .int .i64 0, .slice none 0 0, .int .i64 0, .int .i64 0, .int .i64 0, .slice none 0 0, .slice none 0 0, .int .i64 0, .slice none 0 0] 37)) := (Below.refl _ _).alloc (Nat.le_refl _) _
  have HP : Hid (BoxP (w.alloc (.cells #[.int .i64 0, .int .i64 0, .slice none 0 0, .int .i64 0, .int .i64 0, .int .i64 0, .slice none 0 0, .slice none 0 0, .int .i64 0, .slice none 0 0] 37)) (fun k => S k ∧ k < w.heap.size) g o b) := hp.cut.below B1
  have HT1 : Hid (Turns w (w.alloc (.cells #[.int .i64 0, .int .i64 0, .slice none 0 0, .int .i64 0, .int .i64 0, .int .i64 0, .slice none 0 0, .slice none 0 0, .int .i64 0, .slice none 0 0] 37)) S g o) := turns_below B1
  have HKR : Hid _ := box_new w (.cells #[.int .i64 0, .int .i64 0, .slice none 0 0, .int .i64 0, .int .i64 0, .int .i64 0, .slice none 0 0, .slice none 0 0, .int .i64 0, .slice none 0 0] 37)
  have HSZ : Hid ((w.alloc (.cells #[.int .i64 0, .int .i64 0, .slice none 0 0, .int .i64 0, .int .i64 0, .int .i64 0, .slice none 0 0, .slice none 0 0, .int .i64 0, .slice none 0 0] 37)).heap.size = w.heap.size + 1) := by show _ = _; simp
  have hS0 : ¬ (S w.heap.size ∧ w.heap.size < w.heap.size) := fun h => Nat.lt_irrefl _ h.2
  clear B1 hp
  go_enter Tryd.func70, Tryd.ntmps70
  go_wp2
  generalize w.alloc (.cells #[.int .i64 0, .int .i64 0, .slice none 0 0, .int .i64 0, .int .i64 0, .int .i64 0, .slice none 0 0, .slice none 0 0, .int .i64 0, .slice none 0 0] 37) = w1 at HP HT1 HKR HSZ ⊢
  have sw1 : w.heap.size < w1.heap.size := by have := HSZ.out; omega
  go_loopw [3, 4] (fun nv iv wr => ∃ k : Nat, k ≤ b.mails.length ∧ iv = .int .i64 k ∧ nv = .int .i64 (((b.mails.take k).countP delM : Nat) : Int) ∧ wr = w1) (fun _ iv _ => b.mails.length - (intOf iv).toNat)
  case atStart => exact ⟨0, Nat.zero_le _, rfl, by simp, rfl⟩
  case round =>
    obtain ⟨k, hk, rfl, rfl, hwr⟩ := hrel
    subst hwr
    obtain ⟨u0, u1, u2, h0, h1, h2, hint, c0, c1, c2, c3, c4, c5, c6⟩ := HP.out.cells
    have hlg1 : g < wr.heap.size := by omega
    have hcn : (b.mails.take k).countP delM ≤ k := Nat.le_trans List.countP_le_length (by simp; omega)
    by_cases hlt : k < b.mails.length
    · obtain ⟨m, hm⟩ : ∃ m, b.mails[k]? = some m := ⟨b.mails[k], List.getElem?_eq_getElem hlt⟩
      obtain ⟨mb, off, z1, mu, hv', hlm, f0, f1, f2, f3, -, im0, im1, im2⟩ := h1.v.cell k m hm
      subst hv'
      have hki : (k : Int) < b.mails.length := by omega
      have HM : Hid (b.mails[k]? = some m) := hm
      clear h0 h1 h2 hint c0 c1 c2 c3 c5 c6 f0 f2 f3 im0 im1 im2 hm
      cases hd : delM m with
      | true =>
        have e1 : decide (0 < bits .and .i64 m.flags 8) = true := hd
        have HC : Hid ((((b.mails.take (k + 1)).countP delM : Nat) : Int) = (((b.mails.take k).countP delM : Nat) : Int) + 1) := by show _ = _; rw [countP_take HM.out, hd]; simp
        clear hd
        go_wp2
        go_roundw
        case rel => exact ⟨k + 1, by omega, by go_num, by rw [HC.out], trivial⟩
        case measure => simp [intOf]; omega
      | false =>
        have e1 : decide (0 < bits .and .i64 m.flags 8) = false := hd
        have HC : Hid ((((b.mails.take (k + 1)).countP delM : Nat) : Int) = (((b.mails.take k).countP delM : Nat) : Int)) := by show _ = _; rw [countP_take HM.out, hd]; simp
        clear hd
        go_wp2
        go_roundw
        case rel => exact ⟨k + 1, by omega, by go_num, by rw [HC.out], trivial⟩
        case measure => simp [intOf]; omega
    · obtain rfl : k = b.mails.length := by omega
      obtain ⟨a1, z1, rfl, -⟩ := h1.v.form
      rw [List.take_length] at hcn ⊢
      have i2 := hint.2.2.1
      clear h0 h1 h2 hint c0 c1 c2 c5 c6
      by_cases hn0 : b.mails.countP delM = 0
      · have HX : Hid (expungeX b = (b, codeR 0 0)) := by show _ = _; unfold expungeX; rw [if_pos hn0]
        rw [hn0]
        obtain ⟨r0, r1, r2, r3, r4, r5, r6, r7, r8, r9⟩ := bx10 HKR.out
        have fz : ∀ i, wr.frozen? ⟨w.heap.size, i, none⟩ = false := fun i => frozen_of_row _ _ i _ _ HKR.out
        have hlr := lt_of_heap HKR.out
        have HF : Hid _ := rep_turn HKR.out (Nat.le_refl _) HT1.out _ _ HP.out hlg hS0 (0) (0) ⟨i64c0, i64c0⟩
        go_wp2
        obtain ⟨f0, f1, f2, f3, f4, f5, f6, f7, f8, f9⟩ := bx10 HF.out.1
        refine bodyPost_ret (v := .agg #[.int .i64 0, .int .i64 0, .slice none 0 0, .int .i64 0, .int .i64 0, .int .i64 0, .slice none 0 0, .slice none 0 0, .int .i64 0, .slice none 0 0]) (by simp [results, Tryd.results70, go_sem, f0, f1, f2, f3, f4, f5, f6, f7, f8, f9]) rfl ⟨_, rfl, ?_, HF.out.2.1, ?_⟩
        · rw [HX.out]
          exact HF.out.2.2.2
        · rw [HX.out]
          exact BoxP.mono HF.out.2.2.1 fun k h => .inl h.1
      · have hn1 : ¬ ((b.mails.countP delM : Nat) : Int) = 0 := by omega
        have e0 : (((b.mails.countP delM : Nat) : Int) == 0) = false := by simpa using hn0
        have HCN : Hid (b.mails.countP delM ≤ b.mails.length) := hcn
        generalize hN : b.mails.countP delM = N at *
        have HNE : Hid (b.mails.countP delM = N) := hN
        clear hN
        by_cases hfull : 1000000 ≤ b.seq
        · have HX : Hid (expungeX b = (b, codeR 3 0)) := by show _ = _; unfold expungeX; rw [HNE.out, if_neg hn0, if_pos hfull]
          clear hn0 hn1
          obtain ⟨r0, r1, r2, r3, r4, r5, r6, r7, r8, r9⟩ := bx10 HKR.out
          have fz : ∀ i, wr.frozen? ⟨w.heap.size, i, none⟩ = false := fun i => frozen_of_row _ _ i _ _ HKR.out
          have hlr := lt_of_heap HKR.out
          have HF : Hid _ := rep_turn HKR.out (Nat.le_refl _) HT1.out _ _ HP.out hlg hS0 (3) (0) ⟨⟨by decide, by decide⟩, i64c0⟩
          go_wp2
          obtain ⟨f0, f1, f2, f3, f4, f5, f6, f7, f8, f9⟩ := bx10 HF.out.1
          refine bodyPost_ret (v := .agg #[.int .i64 3, .int .i64 0, .slice none 0 0, .int .i64 0, .int .i64 0, .int .i64 0, .slice none 0 0, .slice none 0 0, .int .i64 0, .slice none 0 0]) (by simp [results, Tryd.results70, go_sem, f0, f1, f2, f3, f4, f5, f6, f7, f8, f9]) rfl ⟨_, rfl, ?_, HF.out.2.1, ?_⟩
          · rw [HX.out]
            exact HF.out.2.2.2
          · rw [HX.out]
            exact BoxP.mono HF.out.2.2.1 fun k h => .inl h.1
        · have HX : Hid (expungeX b = (expLoop b.mails.length (seqX b) 0, codeR 0 (N : Nat))) := by show _ = _; unfold expungeX; rw [HNE.out, if_neg hn0, if_neg hfull]
          have b2 := i2.1
          have hz := HP.out.open
          have HPS : Hid (BoxP (wr.setCell ⟨g, o + 3, none⟩ (.int .i64 (b.seq + 1))) (fun k => S k ∧ k < w.heap.size) g o (seqX b)) := HP.out.setSeq (b.seq + 1) ⟨by omega, by omega⟩
          have HTS : Hid (Turns w (wr.setCell ⟨g, o + 3, none⟩ (.int .i64 (b.seq + 1))) S g o) := Turns.trans HT1.out (turns_set (S' := S) HP.out (by omega)) (fun k h => .inl h)
          have HKS : Hid _ := box_other (k := g) (i := o + 3) (v := .int .i64 (b.seq + 1)) HKR.out (by omega)
          have hsS : (wr.setCell ⟨g, o + 3, none⟩ (.int .i64 (b.seq + 1))).heap.size = wr.heap.size := box_size
          have HZS : Hid _ := hsS
          clear hn0 hn1 hsS
          go_wp2
          clear c3 c4 hz
          generalize wr.setCell ⟨g, o + 3, none⟩ (.int .i64 (b.seq + 1)) = w4 at HPS HTS HKS HZS ⊢
          clear HP HT1 HKR
          have hSS : ¬ ((S w.heap.size ∧ w.heap.size < w.heap.size) ∨ w.heap.size + 1 ≤ w.heap.size) := fun h => h.elim hS0 (fun h => by omega)
          go_loopw [5] (fun iv wr => ∃ (k : Nat) (bk : BoxD), k ≤ bk.mails.length ∧ iv = .int .i64 k ∧ bk.mails.length + bk.gones.length ≤ 1900000 ∧ Hid (expLoop b.mails.length (seqX b) 0 = expLoop (bk.mails.length - k) bk k) ∧ Hid (BoxP wr (fun k => (S k ∧ k < w.heap.size) ∨ w.heap.size + 1 ≤ k) g o bk) ∧ Hid (Turns w wr S g o) ∧ Hid (wr.heap[w.heap.size]? = some (.cells #[.int .i64 0, .int .i64 0, .slice none 0 0, .int .i64 0, .int .i64 0, .int .i64 0, .slice none 0 0, .slice none 0 0, .int .i64 0, .slice none 0 0] 37 (0, 0)))) (fun iv wr => mLen wr g o - (intOf iv).toNat)
          case atStart => exact ⟨0, seqX b, Nat.zero_le _, rfl, by show b.mails.length + b.gones.length ≤ _; omega, rfl, BoxP.mono HPS.out fun k h => .inl h, HTS.out, HKS.out⟩
          case round =>
            rename World => wq
            obtain ⟨k, bk, hk, rfl, hbd, hE, hP, hT, hK⟩ := hrel
            clear HPS HTS HKS
            obtain ⟨u0, u1, u2, h0, h1, h2, hint, c0, c1, c2, c3, c4, c5, c6⟩ := hP.out.cells
            have hlq : g < wq.heap.size := hP.out.lt
            have hwq : w.heap.size < wq.heap.size := lt_of_heap hK.out
            by_cases hlt : k < bk.mails.length
            · obtain ⟨m, hm⟩ : ∃ m, bk.mails[k]? = some m := ⟨bk.mails[k], List.getElem?_eq_getElem hlt⟩
              obtain ⟨mb, off, z1, mu, hv', hlm, f0, f1, f2, f3, -, im0, im1, im2⟩ := h1.v.cell k m hm
              subst hv'
              have hki : (k : Int) < bk.mails.length := by omega
              have HM : Hid (bk.mails[k]? = some m) := hm
              have HML : Hid (mLen wq g o = bk.mails.length) := hP.out.mlen
              clear h0 h1 h2 hint c0 c1 c2 c3 c5 c6 f0 f2 f3 im0 im1 im2 hm
              cases hd : delM m with
              | true =>
                have e1 : decide (0 < bits .and .i64 m.flags 8) = true := hd
                have hdrop := l3drop_r g o k bk m _ wq hP.out HM.out (by omega) (by omega)
                have HD := dropX_len HM.out
                have HE2 : Hid (expLoop b.mails.length (seqX b) 0 = expLoop ((dropX bk k).mails.length - k) (dropX bk k) k) := by
                  show _ = _
                  rw [hE.out, show bk.mails.length - k = ((dropX bk k).mails.length - k) + 1 by omega, expLoop_hit HM.out hd]
                have HDh : Hid _ := HD
                have hkd : k ≤ (dropX bk k).mails.length := by omega
                have hbd2 : (dropX bk k).mails.length + (dropX bk k).gones.length ≤ 1900000 := by omega
                clear hd HD
                go_wp2_with fail
                refine hdrop.mono ?_
                rintro e w6 ⟨rfl, hT6, hP6⟩
                have HP6 : Hid (BoxP w6 (fun k => (S k ∧ k < w.heap.size) ∨ w.heap.size + 1 ≤ k) g o (dropX bk k)) := BoxP.mono hP6 fun k h => .inr (by omega)
                have HT6 : Hid (Turns w w6 S g o) := Turns.trans hT.out hT6 (fun k h => h.elim (fun h => .inl h.1) (fun h => .inr (by omega)))
                have HK6 : Hid _ := (hT6.2.1 w.heap.size hwq (by omega) hSS).trans hK.out
                have HML6 : Hid (mLen w6 g o = (dropX bk k).mails.length) := hP6.mlen
                clear hdrop hT6 hP6 hP hT hK
                go_wp2
                go_roundw
                case rel => exact ⟨k, dropX bk k, hkd, by go_num, hbd2, HE2.out, HP6.out, HT6.out, HK6.out⟩
                case measure => rw [HML6.out, HML.out]; have := HDh.out; simp [intOf]; omega
              | false =>
                have e1 : decide (0 < bits .and .i64 m.flags 8) = false := hd
                have HE2 : Hid (expLoop b.mails.length (seqX b) 0 = expLoop (bk.mails.length - (k + 1)) bk (k + 1)) := by
                  show _ = _
                  rw [hE.out, show bk.mails.length - k = (bk.mails.length - (k + 1)) + 1 by omega, expLoop_miss HM.out hd]
                clear hd
                go_wp2
                go_roundw
                case rel => exact ⟨k + 1, bk, by omega, by go_num, hbd, HE2.out, hP.out, hT.out, hK.out⟩
                case measure => rw [HML.out]; simp [intOf]; omega
            · have hkk : k = bk.mails.length := by omega
              have HXE : Hid (expungeX b = (bk, codeR 0 (N : Nat))) := by
                show _ = _
                rw [HX.out, hE.out, hkk, Nat.sub_self]; rfl
              have hNb : (N : Int) ≤ 900000 := by have := HCN.out; omega
              subst hkk
              obtain ⟨a1, z1, rfl, -⟩ := h1.v.form
              clear h0 h1 h2 hint c0 c1 c2 c3 c5 c6
              obtain ⟨r0, r1, r2, r3, r4, r5, r6, r7, r8, r9⟩ := bx10 hK.out
              have fz : ∀ i, wq.frozen? ⟨w.heap.size, i, none⟩ = false := fun i => frozen_of_row _ _ i _ _ hK.out
              have hlr := lt_of_heap hK.out
              have HF : Hid _ := rep_turn hK.out (Nat.le_refl _) hT.out _ _ hP.out hlg hSS (0) ((N : Int)) ⟨i64c0, by omega, by omega⟩
              go_wp2
              obtain ⟨f0, f1, f2, f3, f4, f5, f6, f7, f8, f9⟩ := bx10 HF.out.1
              refine bodyPost_ret (v := .agg #[.int .i64 0, .int .i64 (N : Int), .slice none 0 0, .int .i64 0, .int .i64 0, .int .i64 0, .slice none 0 0, .slice none 0 0, .int .i64 0, .slice none 0 0]) (by simp [results, Tryd.results70, go_sem, f0, f1, f2, f3, f4, f5, f6, f7, f8, f9]) rfl ⟨_, rfl, ?_, HF.out.2.1, ?_⟩
              · rw [HXE.out]
                exact HF.out.2.2.2
              · rw [HXE.out]
                exact BoxP.mono HF.out.2.2.1 fun k h => h.elim (fun h => .inl h.1) (fun h => .inr (by omega))

end Go.Proofs.YtmonloebkdpahaaDoor

/- A box behind a pointer: a mail of its list is written. -/
namespace Go.Proofs.YtmonloebkdpahaaDoor
open Go.RowKit
set_option linter.unusedVariables false

/-- One cell of a mail in the list's block is written. -/
theorem mailsq_put {w : World} {S : Nat → Prop} {v : Value} {l : List MailD} (h : MailsQ w S v l) {i : Nat} {m : MailD} (hm : l[i]? = some m) :
    ∃ mb cap, v = .slice (some ⟨mb, 0, none⟩) l.length cap ∧ S mb ∧ Ty w mb 54 ∧ w.cell? ⟨mb, i * 4 + 1, none⟩ = some (.int .i64 m.flags) ∧ w.cell? ⟨mb, i * 4 + 2, none⟩ = some (.int .i64 m.seq) ∧ (∀ j, w.frozen? ⟨mb, j, none⟩ = false) ∧
      (∀ fl, I64 fl → MailsQ (w.setCell ⟨mb, i * 4 + 1, none⟩ (.int .i64 fl)) S v (l.set i ⟨m.uid, fl, m.seq, m.text⟩)) ∧ (∀ sq, I64 sq → MailsQ (w.setCell ⟨mb, i * 4 + 2, none⟩ (.int .i64 sq)) S v (l.set i ⟨m.uid, m.flags, sq, m.text⟩)) := by
  have hi : i < l.length := (List.getElem?_eq_some_iff.1 hm).1
  rcases h with ⟨-, h⟩ | ⟨g, cap, cur, cs, fs, hv, hh, h1, h2, h3, h4, h5, h6, h7⟩
  · subst h; simp at hm
  obtain ⟨⟨u, hc, hu, j0, j1, j2⟩, hl, hcell⟩ := h5 i m hm
  have hty : Ty w g 54 := ⟨_, _, hh⟩
  have hsz : i * 4 + 4 ≤ cur.size := by rw [h3]; omega
  have key : ∀ (q : Nat) (x : Value) (m' : MailD) (c' : List Value), q < 4 → c' = (cs i).set q x → MailQE w c' m' Any → MailsQ (w.setCell ⟨g, i * 4 + q, none⟩ x) S v (l.set i m') := by
    intro q x m' c' hq hc' hm'
    refine .inr ⟨g, cap, _, fun j => if j = i then c' else cs j, fun _ _ => False, by rw [List.length_set]; exact hv, box_set hh, by rw [List.length_set]; exact h1, h2, by rw [Array.size_setIfInBounds]; exact h3, h4, fun j y hy => ?_, by simp, by simp⟩
    by_cases e : j = i
    · subst e
      rw [List.getElem?_set_self hi] at hy
      cases hy
      simp only [if_pos]
      refine ⟨mail_oth hm' (stay_set hty (by decide)), by rw [hc', List.length_set]; exact hl, fun k z hz => ?_⟩
      rw [hc'] at hz
      by_cases ek : k = q
      · subst ek
        rw [List.getElem?_set_self (by omega)] at hz
        cases hz
        rw [Array.getElem?_setIfInBounds_self_of_lt (by omega)]
      · rw [List.getElem?_set_ne (Ne.symm ek)] at hz
        rw [Array.getElem?_setIfInBounds_ne (by omega)]
        exact hcell k z hz
    · rw [List.getElem?_set_ne (Ne.symm e)] at hy
      simp only [if_neg e]
      obtain ⟨q0, q1, q2⟩ := h5 j y hy
      refine ⟨mail_oth q0 (stay_set hty (by decide)), q1, fun k z hz => ?_⟩
      have hk : k < 4 := by have := (List.getElem?_eq_some_iff.1 hz).1; omega
      rw [Array.getElem?_setIfInBounds_ne (by rcases Nat.lt_or_gt_of_ne e with e | e <;> omega)]
      exact q2 k z hz
  refine ⟨g, cap, hv, h4, hty, ?_, ?_, fun j => by simp [World.frozen?, hh], fun fl hf => key 1 _ _ [.int .i64 m.uid, .int .i64 fl, .int .i64 m.seq, u] (by omega) (by rw [hc]; rfl) ⟨u, rfl, hu, j0, hf, j2⟩, fun sq hs => key 2 _ _ [.int .i64 m.uid, .int .i64 m.flags, .int .i64 sq, u] (by omega) (by rw [hc]; rfl) ⟨u, rfl, hu, j0, j1, hs⟩⟩
  · rw [cell_of_row w g _ cur _ (0, 0) hh]; exact hcell 1 _ (by rw [hc]; rfl)
  · rw [cell_of_row w g _ cur _ (0, 0) hh]; exact hcell 2 _ (by rw [hc]; rfl)
/-- .. of a box behind a pointer. -/
theorem BoxP.mail {w : World} {S : Nat → Prop} {g o i : Nat} {b : BoxD} {m : MailD} (h : BoxP w S g o b) (hm : b.mails[i]? = some m) :
    ∃ mb cap, w.cell? ⟨g, o + 4, none⟩ = some (.slice (some ⟨mb, 0, none⟩) b.mails.length cap) ∧ mb < w.heap.size ∧ mb ≠ g ∧ S mb ∧ Ty w mb 54 ∧ w.cell? ⟨mb, i * 4 + 1, none⟩ = some (.int .i64 m.flags) ∧ w.cell? ⟨mb, i * 4 + 2, none⟩ = some (.int .i64 m.seq) ∧ (∀ j, w.frozen? ⟨mb, j, none⟩ = false) ∧
      (∀ fl, I64 fl → BoxP (w.setCell ⟨mb, i * 4 + 1, none⟩ (.int .i64 fl)) S g o ⟨b.name, b.valid, b.next, b.seq, b.mails.set i ⟨m.uid, fl, m.seq, m.text⟩, b.gones, b.lost⟩) ∧ (∀ sq, I64 sq → BoxP (w.setCell ⟨mb, i * 4 + 2, none⟩ (.int .i64 sq)) S g o ⟨b.name, b.valid, b.next, b.seq, b.mails.set i ⟨m.uid, m.flags, sq, m.text⟩, b.gones, b.lost⟩) := by
  have hb := h.ty
  obtain ⟨cur, c, hh, ⟨u0, u1, u2, e, h1, h2, h3, r⟩, hc⟩ := h
  obtain ⟨mb, cap, hv, hS, hty, k1, k2, hz, hf, hs⟩ := mailsq_put h2 hm
  have hne : mb ≠ g := fun e2 => by subst e2; obtain ⟨cs, fz, hq⟩ := hty; exact ty_ne hq hb (by decide)
  have go : ∀ (q : Nat) (x : Value) (ms : List MailD), MailsQ (w.setCell ⟨mb, q, none⟩ x) S u1 ms → BoxP (w.setCell ⟨mb, q, none⟩ x) S g o ⟨b.name, b.valid, b.next, b.seq, ms, b.gones, b.lost⟩ := fun q x ms hms =>
    ⟨cur, c, box_other hh (Ne.symm hne), ⟨u0, u1, u2, e, ro_oth h1 (stay_set hty (by decide)), hms, gonesq_oth h3 (stay_set hty (by decide)), r⟩, hc⟩
  refine ⟨mb, cap, ?_, ty_lt hty, hne, hS, hty, k1, k2, hz, fun fl hf' => go _ _ _ (hf fl hf'), fun sq hs' => go _ _ _ (hs sq hs')⟩
  rw [cell_of_row w g _ cur _ (0, 0) hh]
  rw [hc 4 u1 (by rw [e]; rfl), hv]

end Go.Proofs.YtmonloebkdpahaaDoor
