/- The proof's texts, part 7. -/
import Derived.Test.YtlegmiaoablcgaaGreatDoorPart5
import Derived.Test.YtlegmiaoablcgaaGreatDoorPart6

/- What command of the reader of lines of package impl does. -/
namespace Go.Proofs.YtlegmiaoablcgaaGreatDoor
open Go.RowKit
set_option maxRecDepth 100000
set_option linter.unusedVariables false
set_option linter.unusedSimpArgs false

section
variable {w w0 : World} {g g' B T : Nat} {v : Value} {l : List Int} {c0 c1 c2 c3 c4 c5 c6 c7 : Value}
theorem row_set8 (h : Row w B T v l) (hd : g < B ∨ T ≤ g) : Row ((((((((w.setCell ⟨g, 0, none⟩ c0).setCell ⟨g, 1, none⟩ c1).setCell ⟨g, 2, none⟩ c2).setCell ⟨g, 3, none⟩ c3).setCell ⟨g, 4, none⟩ c4).setCell ⟨g, 5, none⟩ c5).setCell ⟨g, 6, none⟩ c6).setCell ⟨g, 7, none⟩ c7) B T v l := (((((((h.set hd).set hd).set hd).set hd).set hd).set hd).set hd).set hd
theorem size8 (w : World) (g : Nat) (c0 c1 c2 c3 c4 c5 c6 c7 : Value) : (((((((((w.setCell ⟨g, 0, none⟩ c0).setCell ⟨g, 1, none⟩ c1).setCell ⟨g, 2, none⟩ c2).setCell ⟨g, 3, none⟩ c3).setCell ⟨g, 4, none⟩ c4).setCell ⟨g, 5, none⟩ c5).setCell ⟨g, 6, none⟩ c6).setCell ⟨g, 7, none⟩ c7)).heap.size = w.heap.size := by simp only [box_size]
theorem gb_set8 (h : w0.grownBy w (some g')) (hr : w0.heap.size ≤ g) : w0.grownBy ((((((((w.setCell ⟨g, 0, none⟩ c0).setCell ⟨g, 1, none⟩ c1).setCell ⟨g, 2, none⟩ c2).setCell ⟨g, 3, none⟩ c3).setCell ⟨g, 4, none⟩ c4).setCell ⟨g, 5, none⟩ c5).setCell ⟨g, 6, none⟩ c6).setCell ⟨g, 7, none⟩ c7) (some g') := gb_setN (gb_setN (gb_setN (gb_setN (gb_setN (gb_setN (gb_setN (gb_setN h hr) hr) hr) hr) hr) hr) hr) hr
end
theorem bx3 {w : World} {g : Nat} {t : TypeId} {c0 c1 c2 : Value} (h : w.heap[g]? = some (.cells #[c0, c1, c2] t (0, 0))) : w.cell? ⟨g, 0, none⟩ = some c0 ∧ w.cell? ⟨g, 1, none⟩ = some c1 ∧ w.cell? ⟨g, 2, none⟩ = some c2 :=
  ⟨by rw [cell_of_row w g 0 _ t (0, 0) h]; rfl, by rw [cell_of_row w g 1 _ t (0, 0) h]; rfl, by rw [cell_of_row w g 2 _ t (0, 0) h]; rfl⟩
theorem rowS_below {w w' : World} {B n : Nat} {v : Value} {l : List Value} (h : w.ownsRow B 9 1 v n l) (hb : Below w.heap.size w w') : w'.ownsRow B 9 1 v n l := by
  refine ⟨h.1, ?_⟩
  rcases h.2 with hn | ⟨g, cap, cur, hv, hg, hh, r⟩
  · exact .inl hn
  · exact .inr ⟨g, cap, cur, hv, hg, (hb.block g (lt_of_heap hh)).trans hh, r⟩
theorem rowS_form {w : World} {B n : Nat} {v : Value} {l : List Value} (h : w.ownsRow B 9 1 v n l) : ∃ a m c, v = .slice a m c := by
  rcases h.2 with ⟨hn, -⟩ | ⟨g, cap, cur, hv, -⟩
  · exact ⟨_, _, _, hn⟩
  · exact ⟨_, _, _, hv⟩
theorem gb_gr2 {w w1 w2 : World} {g gc : Nat} (h : w.grownBy w1 (some g)) (k : Gr2 w1 w2 g gc) (hc : w.heap.size ≤ gc) : w.grownBy w2 (some g) :=
  ⟨k.os.trans h.os, k.tape.trans h.tape, k.output.trans h.output, Nat.le_trans h.size k.size, fun j hj hne => (k.block j (Nat.lt_of_lt_of_le hj h.size) (fun e => hne (by rw [e])) (by omega)).trans (h.block j hj hne)⟩
theorem lex_ok : ∀ (f : Nat) (i : Int) (s : List Int) (ts : List TokD), Oct s → s.length ≤ 2000 → lexM f i s = .ok ts → ∀ t ∈ ts, OkT t
  | 0, i, s, ts, _, _, h => by simp [lexM] at h; subst h; simp
  | f + 1, i, [], ts, _, _, h => by simp [lexM] at h; subst h; simp
  | f + 1, i, x :: r, ts, ho, hl, h => by
    simp only [lexM] at h
    split at h
    · exact lex_ok f _ r ts (fun z hz => ho z (by simp [hz])) (by simp at hl; omega) h
    · cases hone : oneM i (x :: r) with
      | none => rw [hone] at h; cases h
      | some p =>
        rw [hone] at h
        simp only at h
        have hsuf := (oneM_suf hone).1
        cases hx : lexM f (i + (((x :: r).length : Int) - (p.2.length : Int))) p.2 with
        | error e => rw [hx] at h; cases h
        | ok us =>
          rw [hx] at h
          cases h
          intro t ht
          rcases List.mem_cons.1 ht with rfl | ht
          · exact oneM_ok hone ho hl
          · exact lex_ok f _ p.2 us (fun z hz => ho z (hsuf.subset hz)) (Nat.le_trans hsuf.length_le hl) hx t ht
/-- What a line is read as by package impl: a command, or why and where it is none. -/
def rdI (l : List Int) : Except (Int × Int) CmdD := match lexM (l.length + 1) 0 l with
  | .error i => .error (2, i)
  | .ok ts => match cmdI l.length ts with
    | .error p => .error (3, p)
    | .ok c => .ok c
/-- A command of the call's own: its text, its box, its other box, one behind the other. -/
def CmdX (w : World) (B T : Nat) (v : Value) (c : CmdD) : Prop := ∃ u0 u1 u2 T0 T1, v = .agg #[.int .i64 c.k, u0, u1, .int .i64 c.uid, .int .i64 c.mode, .int .i64 c.fl, .int .i64 c.si, u2] ∧ Row w B T0 u2 c.tx ∧ Row w T0 T1 u0 c.bx ∧ Row w T1 T u1 c.tt ∧ B ≤ T0 ∧ T0 ≤ T1 ∧ T1 ≤ T
theorem RB.row {w : World} {B T : Nat} {v : Value} {l : List Int} (h : RB w (In B T) v l) : Row w B T v l := by
  refine ⟨h.1, ⟨h.2.1.1, ?_⟩, fun g hg => (h.2.2 g hg).2⟩
  rcases h.2.1.2 with hn | ⟨g, cap, cur, hv, hg, r⟩
  · exact .inl hn
  · exact .inr ⟨g, cap, cur, hv, (h.2.2 g (by rw [hv]; rfl)).1, r⟩
/-- What command comes to. -/
def ComP (w : World) (g : Nat) (ea : Addr) (r : Except (Int × Int) CmdD) (e : Ending) (w' : World) : Prop := w.grownBy w' (some g) ∧ match r with
  | .ok c => ∃ v, e = .returned v ∧ CmdX w' w.heap.size w'.heap.size v c
  | .error p => e = gaveUp ea ∧ Bad w' g p.1 p.2

set_option maxRecDepth 100000 in
set_option maxHeartbeats 8000000 in
theorem command_r (g : Nat) (lv : Value) (l : List Int) (ea : Addr) (w0 w : World) (hv : Bs w0 lv l) (hw0 : Below w0.heap.size w0 w) (hE : Gave w0 ea) (hold : w0.heap.size ≤ g) (hr : LR w g lv (.slice none 0 0) 0 0) (hl : l.length ≤ 2000) (ht : Tab10 w0) (he : Errs w0) :
    Calls Tryz.prog 25 #[.pointer (some ⟨g, 0, none⟩)] w (ComP w g ea (rdI l)) := by
  obtain ⟨res, hres⟩ : ∃ res, res = rdI l := ⟨_, rfl⟩
  have HRES : Hid (res = rdI l) := hres
  rw [← hres]
  clear hres
  have HV : Hid (Bs w0 lv l) := hv
  have HEE : Hid (Gave w0 ea ∧ Tab10 w0 ∧ Errs w0) := ⟨hE, ht, he⟩
  have hgl : g < w.heap.size := lt_of_heap hr
  have h00 := hw0.size
  have hoct : Hid (Oct l) := hv.1
  obtain ⟨i0, hi, hz0, hz1, hz2⟩ := info_parts infoStr
  obtain ⟨la, lc, rfl⟩ := hv.form
  have AB0 : Below w.heap.size w (w.alloc (.cells #[.int .i64 0, .slice none 0 0, .slice none 0 0, .int .i64 0, .int .i64 0, .int .i64 0, .int .i64 0, .slice none 0 0] 24)) := (Below.refl _ _).alloc (Nat.le_refl _) _
  have HW0 : Hid (Below w0.heap.size w0 (w.alloc (.cells #[.int .i64 0, .slice none 0 0, .slice none 0 0, .int .i64 0, .int .i64 0, .int .i64 0, .int .i64 0, .slice none 0 0] 24))) := Below.step hw0 AB0
  have HR0 : Hid (LR (w.alloc (.cells #[.int .i64 0, .slice none 0 0, .slice none 0 0, .int .i64 0, .int .i64 0, .int .i64 0, .int .i64 0, .slice none 0 0] 24)) g _ (.slice none 0 0) 0 0) := box_below AB0 hr
  have HK0 : Hid ((w.alloc (.cells #[.int .i64 0, .slice none 0 0, .slice none 0 0, .int .i64 0, .int .i64 0, .int .i64 0, .int .i64 0, .slice none 0 0] 24)).heap[w.heap.size]? = some (.cells #[.int .i64 0, .slice none 0 0, .slice none 0 0, .int .i64 0, .int .i64 0, .int .i64 0, .int .i64 0, .slice none 0 0] 24 (0, 0))) := box_new _ _
  have HG0 : Hid (w.grownBy (w.alloc (.cells #[.int .i64 0, .slice none 0 0, .slice none 0 0, .int .i64 0, .int .i64 0, .int .i64 0, .int .i64 0, .slice none 0 0] 24)) (some g)) := gb_below (gb_refl _ _) AB0
  have hs0 : (w.alloc (.cells #[.int .i64 0, .slice none 0 0, .slice none 0 0, .int .i64 0, .int .i64 0, .int .i64 0, .int .i64 0, .slice none 0 0] 24)).heap.size = w.heap.size + 1 := by simp
  clear hr AB0 hv
  go_enter Tryz.func25, Tryz.ntmps25
  go_upto_region 1 with fail
  generalize (w.alloc (.cells #[.int .i64 0, .slice none 0 0, .slice none 0 0, .int .i64 0, .int .i64 0, .int .i64 0, .int .i64 0, .slice none 0 0] 24)) = W at HW0 HR0 HK0 HG0 hs0 ⊢
  have Hs0 : Hid (W.heap.size = w.heap.size + 1) := hs0
  have hs0' : w.heap.size + 1 ≤ W.heap.size := by omega
  clear hs0
  have hcut := cut_r g _ l ea w0 W HV.out HW0.out HEE.out.1 hold HR0.out hl HEE.out.2.1 HEE.out.2.2
  cases hlx : lexM (l.length + 1) 0 l with
  | error i =>
    rw [hlx] at hcut
    have HRE : Hid (res = .error (2, i)) := by show _ = _; rw [HRES.out]; simp [rdI, hlx]
    clear hlx
    go_wp2_with fail
    refine hcut.mono ?_
    rintro e w1 ⟨hG, rfl, hb⟩
    have HF : Hid (w.grownBy w1 (some g) ∧ Bad w1 g 2 i) := ⟨gb_trans HG0.out hG, hb⟩
    clear hG hb hcut
    go_wp2
    refine ⟨rfl, ?_⟩
    rw [HRE.out]
    exact ⟨HF.out.1, rfl, HF.out.2⟩
  | ok ts =>
    rw [hlx] at hcut
    have HLX : Hid (lexM (l.length + 1) 0 l = .ok ts) := hlx
    have hok : ∀ t ∈ ts, OkT t := lex_ok _ _ l ts hoct.out hl hlx
    have HOK : Hid (∀ t ∈ ts, OkT t) := hok
    clear hlx
    go_wp2_with fail
    refine hcut.mono ?_
    rintro e w1 ⟨hG, tv, rfl, hLR, hTK⟩
    obtain ⟨S, hS⟩ : ∃ S, S = In W.heap.size w1.heap.size := ⟨_, rfl⟩
    have HSS : Hid (S = In W.heap.size w1.heap.size) := hS
    rw [← hS] at hTK
    have hS1 : ∀ b, S b → W.heap.size ≤ b ∧ b < w1.heap.size := fun b hb => by rw [hS] at hb; exact hb
    clear hS
    have HEN : Hid (Env w0 g S ea) := ⟨HEE.out.1, hold, fun h => by have := (hS1 g h).1; omega⟩
    have hs1 := hG.size
    have HB1 : Below w0.heap.size w0 w1 := ⟨hG.os.trans HW0.out.os, hG.tape.trans HW0.out.tape, hG.output.trans HW0.out.output, Nat.le_trans HW0.out.size hG.size, fun j hj => (hG.block j (by omega) (by simp; omega)).trans (HW0.out.block j hj)⟩
    have HG1 : Hid (w.grownBy w1 (some g)) := gb_trans HG0.out hG
    have HK1 : Hid (w1.heap[w.heap.size]? = some (.cells #[.int .i64 0, .slice none 0 0, .slice none 0 0, .int .i64 0, .int .i64 0, .int .i64 0, .int .i64 0, .slice none 0 0] 24 (0, 0))) := (hG.block w.heap.size (lt_of_heap HK0.out) (by simp; omega)).trans HK0.out
    have AB : Below w1.heap.size w1 (w1.alloc formsO) := (Below.refl _ _).alloc (Nat.le_refl _) _
    have HR2 : Hid (Rs w0 (w1.alloc formsO) g S (.slice la l.length lc) tv ts) := (⟨hLR, TR.of hTK, HB1⟩ : Rs w0 w1 g S _ tv ts).below AB
    have HG2 : Hid (w.grownBy (w1.alloc formsO) (some g)) := gb_below HG1.out AB
    have HK2 : Hid ((w1.alloc formsO).heap[w.heap.size]? = some (.cells #[.int .i64 0, .slice none 0 0, .slice none 0 0, .int .i64 0, .int .i64 0, .int .i64 0, .int .i64 0, .slice none 0 0] 24 (0, 0))) := box_below AB HK1.out
    have HF2 : Hid ((w1.alloc formsO).heap[w1.heap.size]? = some formsO) := box_new _ _
    have hs2 : (w1.alloc formsO).heap.size = w1.heap.size + 1 := by simp
    clear hG hLR hTK HB1 HG1 HK1 AB hcut
    go_wp2_with fail
    refine (forms_r w1).mono ?_
    rintro e w2 ⟨rfl, hw2⟩
    rw [← hw2] at HR2 HG2 HK2 HF2 hs2
    have hs2' : w1.heap.size + 1 ≤ w2.heap.size := by omega
    clear hw2 hs2
    go_wp2
    go_loopw [4, 13] (fun wv kv wr => ∃ k : Nat, k ≤ 10 ∧ kv = .int .i64 k ∧ (∃ a m c, wv = .slice a m c) ∧ Hid (wr.ownsRow w2.heap.size 9 1 wv k (strVals (kindsW.take k))) ∧ Hid (Below w2.heap.size w2 wr)) (fun _ kv _ => 10 - (intOf kv).toNat)
    case atStart => exact ⟨0, by omega, rfl, ⟨_, _, _, rfl⟩, World.ownsRow_nil _ _ _ _, Below.refl _ _⟩
    case round =>
      obtain ⟨k, hk, rfl, ⟨wa, wm, wc, rfl⟩, HOr, HBr⟩ := hrel
      have HFr : Hid (wr.heap[w1.heap.size]? = some formsO) := box_below HBr.out HF2.out
      have hwr := HBr.out.size
      have hF1 := lt_of_heap HFr.out
      by_cases hlt : k < 10
      · obtain rfl | rfl | rfl | rfl | rfl | rfl | rfl | rfl | rfl | rfl : k = 0 ∨ k = 1 ∨ k = 2 ∨ k = 3 ∨ k = 4 ∨ k = 5 ∨ k = 6 ∨ k = 7 ∨ k = 8 ∨ k = 9 := by omega
        · skip
          obtain ⟨e0, e1, e2⟩ := formAt0 HFr.out
          have st1 : (store ⟨wr.heap.size, 1, none⟩ (.func (.func 32) #[] #[])).run Tryz.prog (wr.alloc (.cells #[.string ⟨#[67, 82, 69, 65, 84, 69]⟩, .nilFunc, .nilFunc] 40)) = .ok () (wr.alloc (.cells #[.string ⟨#[67, 82, 69, 65, 84, 69]⟩, .func (.func 32) #[] #[], .nilFunc] 40)) := by rw [run_storeF (wr.alloc (.cells #[.string ⟨#[67, 82, 69, 65, 84, 69]⟩, .nilFunc, .nilFunc] 40)) wr.heap.size 1 _ _ _ (box_new wr _) (by simp) rfl, World.setCell_alloc_new]; rfl
          have st2 : (store ⟨wr.heap.size, 2, none⟩ (.func (.func 33) #[] #[])).run Tryz.prog (wr.alloc (.cells #[.string ⟨#[67, 82, 69, 65, 84, 69]⟩, .func (.func 32) #[] #[], .nilFunc] 40)) = .ok () (wr.alloc (.cells #[.string ⟨#[67, 82, 69, 65, 84, 69]⟩, .func (.func 32) #[] #[], .func (.func 33) #[] #[]] 40)) := by rw [run_storeF (wr.alloc (.cells #[.string ⟨#[67, 82, 69, 65, 84, 69]⟩, .func (.func 32) #[] #[], .nilFunc] 40)) wr.heap.size 2 _ _ _ (box_new wr _) (by simp) rfl, World.setCell_alloc_new]; rfl
          have HKW : Hid ((wr.alloc (.cells #[.string ⟨#[67, 82, 69, 65, 84, 69]⟩, .func (.func 32) #[] #[], .func (.func 33) #[] #[]] 40)).heap[wr.heap.size]? = some (.cells #[.string ⟨#[67, 82, 69, 65, 84, 69]⟩, .func (.func 32) #[] #[], .func (.func 33) #[] #[]] 40 (0, 0))) := box_new _ _
          have HBW : Hid (Below wr.heap.size wr (wr.alloc (.cells #[.string ⟨#[67, 82, 69, 65, 84, 69]⟩, .func (.func 32) #[] #[], .func (.func 33) #[] #[]] 40))) := (Below.refl wr.heap.size wr).alloc (Nat.le_refl _) _
          have HOW : Hid ((wr.alloc (.cells #[.string ⟨#[67, 82, 69, 65, 84, 69]⟩, .func (.func 32) #[] #[], .func (.func 33) #[] #[]] 40)).ownsRow w2.heap.size 9 1 (.slice wa wm wc) 0 (strVals (kindsW.take 0))) := rowS_below HOr.out HBW.out
          go_upto_region 7 with fail
          generalize (wr.alloc (.cells #[.string ⟨#[67, 82, 69, 65, 84, 69]⟩, .func (.func 32) #[] #[], .func (.func 33) #[] #[]] 40)) = w3 at HKW HBW HOW ⊢
          clear e0 e1 e2 st1 st2
          obtain ⟨m0, m1, m2⟩ := bx3 HKW.out
          have ml := lt_of_heap HKW.out
          have hs3 := HBW.out.size
          have HOW4 : Hid ((w3.alloc (.cells #[.string ⟨#[67, 82, 69, 65, 84, 69]⟩] 9)).ownsRow w2.heap.size 9 1 (.slice wa wm wc) 0 (strVals (kindsW.take 0))) := rowS_below HOW.out ((Below.refl _ _).alloc (Nat.le_refl _) _)
          go_wp2_with (at_builtin; refine wpList_append_strs rfl (.tmp 17) (.tmp 20) 44 rfl i0 Tryz.underlying44 hi hz0 hz1 hz2 w2.heap.size (.slice wa wm wc) (kindsW.take 0) [kindW 0] 0 1 rfl rfl rfl HOW4.out w3.heap.size rfl (box_new w3 (.cells #[.string ⟨#[67, 82, 69, 65, 84, 69]⟩] 9)) (by omega) (by simp; omega) ?_)
          intro v4 w4 hO4 hG4
          have HO5 : Hid (w4.ownsRow w2.heap.size 9 1 v4 (0 + 1) (strVals (kindsW.take (0 + 1)))) := hO4
          have HB5 : Hid (Below w2.heap.size w2 w4) := (Below.step (Below.step HBr.out HBW.out) ((Below.refl _ _).alloc (Nat.le_refl _) _)).grown hG4 (by have := HBr.out.size; simp; omega) (fun j hj => (HOW4.out.lt j hj).1)
          obtain ⟨va, vn, vc, hv4⟩ := rowS_form hO4
          subst hv4
          clear hO4 hG4 HOW4 HOW HKW
          go_wp2
          go_roundw
          case rel => exact ⟨0 + 1, by omega, by go_num, ⟨_, _, _, rfl⟩, HO5, HB5⟩
          case measure => simp [intOf]
        · skip
          obtain ⟨e0, e1, e2⟩ := formAt1 HFr.out
          have st1 : (store ⟨wr.heap.size, 1, none⟩ (.func (.func 32) #[] #[])).run Tryz.prog (wr.alloc (.cells #[.string ⟨#[68, 69, 76, 69, 84, 69]⟩, .nilFunc, .nilFunc] 40)) = .ok () (wr.alloc (.cells #[.string ⟨#[68, 69, 76, 69, 84, 69]⟩, .func (.func 32) #[] #[], .nilFunc] 40)) := by rw [run_storeF (wr.alloc (.cells #[.string ⟨#[68, 69, 76, 69, 84, 69]⟩, .nilFunc, .nilFunc] 40)) wr.heap.size 1 _ _ _ (box_new wr _) (by simp) rfl, World.setCell_alloc_new]; rfl
          have st2 : (store ⟨wr.heap.size, 2, none⟩ (.func (.func 33) #[] #[])).run Tryz.prog (wr.alloc (.cells #[.string ⟨#[68, 69, 76, 69, 84, 69]⟩, .func (.func 32) #[] #[], .nilFunc] 40)) = .ok () (wr.alloc (.cells #[.string ⟨#[68, 69, 76, 69, 84, 69]⟩, .func (.func 32) #[] #[], .func (.func 33) #[] #[]] 40)) := by rw [run_storeF (wr.alloc (.cells #[.string ⟨#[68, 69, 76, 69, 84, 69]⟩, .func (.func 32) #[] #[], .nilFunc] 40)) wr.heap.size 2 _ _ _ (box_new wr _) (by simp) rfl, World.setCell_alloc_new]; rfl
          have HKW : Hid ((wr.alloc (.cells #[.string ⟨#[68, 69, 76, 69, 84, 69]⟩, .func (.func 32) #[] #[], .func (.func 33) #[] #[]] 40)).heap[wr.heap.size]? = some (.cells #[.string ⟨#[68, 69, 76, 69, 84, 69]⟩, .func (.func 32) #[] #[], .func (.func 33) #[] #[]] 40 (0, 0))) := box_new _ _
          have HBW : Hid (Below wr.heap.size wr (wr.alloc (.cells #[.string ⟨#[68, 69, 76, 69, 84, 69]⟩, .func (.func 32) #[] #[], .func (.func 33) #[] #[]] 40))) := (Below.refl wr.heap.size wr).alloc (Nat.le_refl _) _
          have HOW : Hid ((wr.alloc (.cells #[.string ⟨#[68, 69, 76, 69, 84, 69]⟩, .func (.func 32) #[] #[], .func (.func 33) #[] #[]] 40)).ownsRow w2.heap.size 9 1 (.slice wa wm wc) 1 (strVals (kindsW.take 1))) := rowS_below HOr.out HBW.out
          go_upto_region 7 with fail
          generalize (wr.alloc (.cells #[.string ⟨#[68, 69, 76, 69, 84, 69]⟩, .func (.func 32) #[] #[], .func (.func 33) #[] #[]] 40)) = w3 at HKW HBW HOW ⊢
          clear e0 e1 e2 st1 st2
          obtain ⟨m0, m1, m2⟩ := bx3 HKW.out
          have ml := lt_of_heap HKW.out
          have hs3 := HBW.out.size
          have HOW4 : Hid ((w3.alloc (.cells #[.string ⟨#[68, 69, 76, 69, 84, 69]⟩] 9)).ownsRow w2.heap.size 9 1 (.slice wa wm wc) 1 (strVals (kindsW.take 1))) := rowS_below HOW.out ((Below.refl _ _).alloc (Nat.le_refl _) _)
          go_wp2_with (at_builtin; refine wpList_append_strs rfl (.tmp 17) (.tmp 20) 44 rfl i0 Tryz.underlying44 hi hz0 hz1 hz2 w2.heap.size (.slice wa wm wc) (kindsW.take 1) [kindW 1] 1 1 rfl rfl rfl HOW4.out w3.heap.size rfl (box_new w3 (.cells #[.string ⟨#[68, 69, 76, 69, 84, 69]⟩] 9)) (by omega) (by simp; omega) ?_)
          intro v4 w4 hO4 hG4
          have HO5 : Hid (w4.ownsRow w2.heap.size 9 1 v4 (1 + 1) (strVals (kindsW.take (1 + 1)))) := hO4
          have HB5 : Hid (Below w2.heap.size w2 w4) := (Below.step (Below.step HBr.out HBW.out) ((Below.refl _ _).alloc (Nat.le_refl _) _)).grown hG4 (by have := HBr.out.size; simp; omega) (fun j hj => (HOW4.out.lt j hj).1)
          obtain ⟨va, vn, vc, hv4⟩ := rowS_form hO4
          subst hv4
          clear hO4 hG4 HOW4 HOW HKW
          go_wp2
          go_roundw
          case rel => exact ⟨1 + 1, by omega, by go_num, ⟨_, _, _, rfl⟩, HO5, HB5⟩
          case measure => simp [intOf]
        · skip
          obtain ⟨e0, e1, e2⟩ := formAt2 HFr.out
          have st1 : (store ⟨wr.heap.size, 1, none⟩ (.func (.func 34) #[] #[])).run Tryz.prog (wr.alloc (.cells #[.string ⟨#[65, 80, 80, 69, 78, 68]⟩, .nilFunc, .nilFunc] 40)) = .ok () (wr.alloc (.cells #[.string ⟨#[65, 80, 80, 69, 78, 68]⟩, .func (.func 34) #[] #[], .nilFunc] 40)) := by rw [run_storeF (wr.alloc (.cells #[.string ⟨#[65, 80, 80, 69, 78, 68]⟩, .nilFunc, .nilFunc] 40)) wr.heap.size 1 _ _ _ (box_new wr _) (by simp) rfl, World.setCell_alloc_new]; rfl
          have st2 : (store ⟨wr.heap.size, 2, none⟩ (.func (.func 35) #[] #[])).run Tryz.prog (wr.alloc (.cells #[.string ⟨#[65, 80, 80, 69, 78, 68]⟩, .func (.func 34) #[] #[], .nilFunc] 40)) = .ok () (wr.alloc (.cells #[.string ⟨#[65, 80, 80, 69, 78, 68]⟩, .func (.func 34) #[] #[], .func (.func 35) #[] #[]] 40)) := by rw [run_storeF (wr.alloc (.cells #[.string ⟨#[65, 80, 80, 69, 78, 68]⟩, .func (.func 34) #[] #[], .nilFunc] 40)) wr.heap.size 2 _ _ _ (box_new wr _) (by simp) rfl, World.setCell_alloc_new]; rfl
          have HKW : Hid ((wr.alloc (.cells #[.string ⟨#[65, 80, 80, 69, 78, 68]⟩, .func (.func 34) #[] #[], .func (.func 35) #[] #[]] 40)).heap[wr.heap.size]? = some (.cells #[.string ⟨#[65, 80, 80, 69, 78, 68]⟩, .func (.func 34) #[] #[], .func (.func 35) #[] #[]] 40 (0, 0))) := box_new _ _
          have HBW : Hid (Below wr.heap.size wr (wr.alloc (.cells #[.string ⟨#[65, 80, 80, 69, 78, 68]⟩, .func (.func 34) #[] #[], .func (.func 35) #[] #[]] 40))) := (Below.refl wr.heap.size wr).alloc (Nat.le_refl _) _
          have HOW : Hid ((wr.alloc (.cells #[.string ⟨#[65, 80, 80, 69, 78, 68]⟩, .func (.func 34) #[] #[], .func (.func 35) #[] #[]] 40)).ownsRow w2.heap.size 9 1 (.slice wa wm wc) 2 (strVals (kindsW.take 2))) := rowS_below HOr.out HBW.out
          go_upto_region 7 with fail
          generalize (wr.alloc (.cells #[.string ⟨#[65, 80, 80, 69, 78, 68]⟩, .func (.func 34) #[] #[], .func (.func 35) #[] #[]] 40)) = w3 at HKW HBW HOW ⊢
          clear e0 e1 e2 st1 st2
          obtain ⟨m0, m1, m2⟩ := bx3 HKW.out
          have ml := lt_of_heap HKW.out
          have hs3 := HBW.out.size
          have HOW4 : Hid ((w3.alloc (.cells #[.string ⟨#[65, 80, 80, 69, 78, 68]⟩] 9)).ownsRow w2.heap.size 9 1 (.slice wa wm wc) 2 (strVals (kindsW.take 2))) := rowS_below HOW.out ((Below.refl _ _).alloc (Nat.le_refl _) _)
          go_wp2_with (at_builtin; refine wpList_append_strs rfl (.tmp 17) (.tmp 20) 44 rfl i0 Tryz.underlying44 hi hz0 hz1 hz2 w2.heap.size (.slice wa wm wc) (kindsW.take 2) [kindW 2] 2 1 rfl rfl rfl HOW4.out w3.heap.size rfl (box_new w3 (.cells #[.string ⟨#[65, 80, 80, 69, 78, 68]⟩] 9)) (by omega) (by simp; omega) ?_)
          intro v4 w4 hO4 hG4
          have HO5 : Hid (w4.ownsRow w2.heap.size 9 1 v4 (2 + 1) (strVals (kindsW.take (2 + 1)))) := hO4
          have HB5 : Hid (Below w2.heap.size w2 w4) := (Below.step (Below.step HBr.out HBW.out) ((Below.refl _ _).alloc (Nat.le_refl _) _)).grown hG4 (by have := HBr.out.size; simp; omega) (fun j hj => (HOW4.out.lt j hj).1)
          obtain ⟨va, vn, vc, hv4⟩ := rowS_form hO4
          subst hv4
          clear hO4 hG4 HOW4 HOW HKW
          go_wp2
          go_roundw
          case rel => exact ⟨2 + 1, by omega, by go_num, ⟨_, _, _, rfl⟩, HO5, HB5⟩
          case measure => simp [intOf]
        · skip
          obtain ⟨e0, e1, e2⟩ := formAt3 HFr.out
          have st1 : (store ⟨wr.heap.size, 1, none⟩ (.func (.func 36) #[] #[])).run Tryz.prog (wr.alloc (.cells #[.string ⟨#[83, 84, 79, 82, 69]⟩, .nilFunc, .nilFunc] 40)) = .ok () (wr.alloc (.cells #[.string ⟨#[83, 84, 79, 82, 69]⟩, .func (.func 36) #[] #[], .nilFunc] 40)) := by rw [run_storeF (wr.alloc (.cells #[.string ⟨#[83, 84, 79, 82, 69]⟩, .nilFunc, .nilFunc] 40)) wr.heap.size 1 _ _ _ (box_new wr _) (by simp) rfl, World.setCell_alloc_new]; rfl
          have st2 : (store ⟨wr.heap.size, 2, none⟩ (.func (.func 37) #[] #[])).run Tryz.prog (wr.alloc (.cells #[.string ⟨#[83, 84, 79, 82, 69]⟩, .func (.func 36) #[] #[], .nilFunc] 40)) = .ok () (wr.alloc (.cells #[.string ⟨#[83, 84, 79, 82, 69]⟩, .func (.func 36) #[] #[], .func (.func 37) #[] #[]] 40)) := by rw [run_storeF (wr.alloc (.cells #[.string ⟨#[83, 84, 79, 82, 69]⟩, .func (.func 36) #[] #[], .nilFunc] 40)) wr.heap.size 2 _ _ _ (box_new wr _) (by simp) rfl, World.setCell_alloc_new]; rfl
          have HKW : Hid ((wr.alloc (.cells #[.string ⟨#[83, 84, 79, 82, 69]⟩, .func (.func 36) #[] #[], .func (.func 37) #[] #[]] 40)).heap[wr.heap.size]? = some (.cells #[.string ⟨#[83, 84, 79, 82, 69]⟩, .func (.func 36) #[] #[], .func (.func 37) #[] #[]] 40 (0, 0))) := box_new _ _
          have HBW : Hid (Below wr.heap.size wr (wr.alloc (.cells #[.string ⟨#[83, 84, 79, 82, 69]⟩, .func (.func 36) #[] #[], .func (.func 37) #[] #[]] 40))) := (Below.refl wr.heap.size wr).alloc (Nat.le_refl _) _
          have HOW : Hid ((wr.alloc (.cells #[.string ⟨#[83, 84, 79, 82, 69]⟩, .func (.func 36) #[] #[], .func (.func 37) #[] #[]] 40)).ownsRow w2.heap.size 9 1 (.slice wa wm wc) 3 (strVals (kindsW.take 3))) := rowS_below HOr.out HBW.out
          go_upto_region 7 with fail
          generalize (wr.alloc (.cells #[.string ⟨#[83, 84, 79, 82, 69]⟩, .func (.func 36) #[] #[], .func (.func 37) #[] #[]] 40)) = w3 at HKW HBW HOW ⊢
          clear e0 e1 e2 st1 st2
          obtain ⟨m0, m1, m2⟩ := bx3 HKW.out
          have ml := lt_of_heap HKW.out
          have hs3 := HBW.out.size
          have HOW4 : Hid ((w3.alloc (.cells #[.string ⟨#[83, 84, 79, 82, 69]⟩] 9)).ownsRow w2.heap.size 9 1 (.slice wa wm wc) 3 (strVals (kindsW.take 3))) := rowS_below HOW.out ((Below.refl _ _).alloc (Nat.le_refl _) _)
          go_wp2_with (at_builtin; refine wpList_append_strs rfl (.tmp 17) (.tmp 20) 44 rfl i0 Tryz.underlying44 hi hz0 hz1 hz2 w2.heap.size (.slice wa wm wc) (kindsW.take 3) [kindW 3] 3 1 rfl rfl rfl HOW4.out w3.heap.size rfl (box_new w3 (.cells #[.string ⟨#[83, 84, 79, 82, 69]⟩] 9)) (by omega) (by simp; omega) ?_)
          intro v4 w4 hO4 hG4
          have HO5 : Hid (w4.ownsRow w2.heap.size 9 1 v4 (3 + 1) (strVals (kindsW.take (3 + 1)))) := hO4
          have HB5 : Hid (Below w2.heap.size w2 w4) := (Below.step (Below.step HBr.out HBW.out) ((Below.refl _ _).alloc (Nat.le_refl _) _)).grown hG4 (by have := HBr.out.size; simp; omega) (fun j hj => (HOW4.out.lt j hj).1)
          obtain ⟨va, vn, vc, hv4⟩ := rowS_form hO4
          subst hv4
          clear hO4 hG4 HOW4 HOW HKW
          go_wp2
          go_roundw
          case rel => exact ⟨3 + 1, by omega, by go_num, ⟨_, _, _, rfl⟩, HO5, HB5⟩
          case measure => simp [intOf]
        · skip
          obtain ⟨e0, e1, e2⟩ := formAt4 HFr.out
          have st1 : (store ⟨wr.heap.size, 1, none⟩ (.func (.func 32) #[] #[])).run Tryz.prog (wr.alloc (.cells #[.string ⟨#[69, 88, 80, 85, 78, 71, 69]⟩, .nilFunc, .nilFunc] 40)) = .ok () (wr.alloc (.cells #[.string ⟨#[69, 88, 80, 85, 78, 71, 69]⟩, .func (.func 32) #[] #[], .nilFunc] 40)) := by rw [run_storeF (wr.alloc (.cells #[.string ⟨#[69, 88, 80, 85, 78, 71, 69]⟩, .nilFunc, .nilFunc] 40)) wr.heap.size 1 _ _ _ (box_new wr _) (by simp) rfl, World.setCell_alloc_new]; rfl
          have st2 : (store ⟨wr.heap.size, 2, none⟩ (.func (.func 33) #[] #[])).run Tryz.prog (wr.alloc (.cells #[.string ⟨#[69, 88, 80, 85, 78, 71, 69]⟩, .func (.func 32) #[] #[], .nilFunc] 40)) = .ok () (wr.alloc (.cells #[.string ⟨#[69, 88, 80, 85, 78, 71, 69]⟩, .func (.func 32) #[] #[], .func (.func 33) #[] #[]] 40)) := by rw [run_storeF (wr.alloc (.cells #[.string ⟨#[69, 88, 80, 85, 78, 71, 69]⟩, .func (.func 32) #[] #[], .nilFunc] 40)) wr.heap.size 2 _ _ _ (box_new wr _) (by simp) rfl, World.setCell_alloc_new]; rfl
          have HKW : Hid ((wr.alloc (.cells #[.string ⟨#[69, 88, 80, 85, 78, 71, 69]⟩, .func (.func 32) #[] #[], .func (.func 33) #[] #[]] 40)).heap[wr.heap.size]? = some (.cells #[.string ⟨#[69, 88, 80, 85, 78, 71, 69]⟩, .func (.func 32) #[] #[], .func (.func 33) #[] #[]] 40 (0, 0))) := box_new _ _
          have HBW : Hid (Below wr.heap.size wr (wr.alloc (.cells #[.string ⟨#[69, 88, 80, 85, 78, 71, 69]⟩, .func (.func 32) #[] #[], .func (.func 33) #[] #[]] 40))) := (Below.refl wr.heap.size wr).alloc (Nat.le_refl _) _
          have HOW : Hid ((wr.alloc (.cells #[.string ⟨#[69, 88, 80, 85, 78, 71, 69]⟩, .func (.func 32) #[] #[], .func (.func 33) #[] #[]] 40)).ownsRow w2.heap.size 9 1 (.slice wa wm wc) 4 (strVals (kindsW.take 4))) := rowS_below HOr.out HBW.out
          go_upto_region 7 with fail
          generalize (wr.alloc (.cells #[.string ⟨#[69, 88, 80, 85, 78, 71, 69]⟩, .func (.func 32) #[] #[], .func (.func 33) #[] #[]] 40)) = w3 at HKW HBW HOW ⊢
          clear e0 e1 e2 st1 st2
          obtain ⟨m0, m1, m2⟩ := bx3 HKW.out
          have ml := lt_of_heap HKW.out
          have hs3 := HBW.out.size
          have HOW4 : Hid ((w3.alloc (.cells #[.string ⟨#[69, 88, 80, 85, 78, 71, 69]⟩] 9)).ownsRow w2.heap.size 9 1 (.slice wa wm wc) 4 (strVals (kindsW.take 4))) := rowS_below HOW.out ((Below.refl _ _).alloc (Nat.le_refl _) _)
          go_wp2_with (at_builtin; refine wpList_append_strs rfl (.tmp 17) (.tmp 20) 44 rfl i0 Tryz.underlying44 hi hz0 hz1 hz2 w2.heap.size (.slice wa wm wc) (kindsW.take 4) [kindW 4] 4 1 rfl rfl rfl HOW4.out w3.heap.size rfl (box_new w3 (.cells #[.string ⟨#[69, 88, 80, 85, 78, 71, 69]⟩] 9)) (by omega) (by simp; omega) ?_)
          intro v4 w4 hO4 hG4
          have HO5 : Hid (w4.ownsRow w2.heap.size 9 1 v4 (4 + 1) (strVals (kindsW.take (4 + 1)))) := hO4
          have HB5 : Hid (Below w2.heap.size w2 w4) := (Below.step (Below.step HBr.out HBW.out) ((Below.refl _ _).alloc (Nat.le_refl _) _)).grown hG4 (by have := HBr.out.size; simp; omega) (fun j hj => (HOW4.out.lt j hj).1)
          obtain ⟨va, vn, vc, hv4⟩ := rowS_form hO4
          subst hv4
          clear hO4 hG4 HOW4 HOW HKW
          go_wp2
          go_roundw
          case rel => exact ⟨4 + 1, by omega, by go_num, ⟨_, _, _, rfl⟩, HO5, HB5⟩
          case measure => simp [intOf]
        · skip
          obtain ⟨e0, e1, e2⟩ := formAt5 HFr.out
          have st1 : (store ⟨wr.heap.size, 1, none⟩ (.func (.func 38) #[] #[])).run Tryz.prog (wr.alloc (.cells #[.string ⟨#[70, 69, 84, 67, 72]⟩, .nilFunc, .nilFunc] 40)) = .ok () (wr.alloc (.cells #[.string ⟨#[70, 69, 84, 67, 72]⟩, .func (.func 38) #[] #[], .nilFunc] 40)) := by rw [run_storeF (wr.alloc (.cells #[.string ⟨#[70, 69, 84, 67, 72]⟩, .nilFunc, .nilFunc] 40)) wr.heap.size 1 _ _ _ (box_new wr _) (by simp) rfl, World.setCell_alloc_new]; rfl
          have st2 : (store ⟨wr.heap.size, 2, none⟩ (.func (.func 39) #[] #[])).run Tryz.prog (wr.alloc (.cells #[.string ⟨#[70, 69, 84, 67, 72]⟩, .func (.func 38) #[] #[], .nilFunc] 40)) = .ok () (wr.alloc (.cells #[.string ⟨#[70, 69, 84, 67, 72]⟩, .func (.func 38) #[] #[], .func (.func 39) #[] #[]] 40)) := by rw [run_storeF (wr.alloc (.cells #[.string ⟨#[70, 69, 84, 67, 72]⟩, .func (.func 38) #[] #[], .nilFunc] 40)) wr.heap.size 2 _ _ _ (box_new wr _) (by simp) rfl, World.setCell_alloc_new]; rfl
          have HKW : Hid ((wr.alloc (.cells #[.string ⟨#[70, 69, 84, 67, 72]⟩, .func (.func 38) #[] #[], .func (.func 39) #[] #[]] 40)).heap[wr.heap.size]? = some (.cells #[.string ⟨#[70, 69, 84, 67, 72]⟩, .func (.func 38) #[] #[], .func (.func 39) #[] #[]] 40 (0, 0))) := box_new _ _
          have HBW : Hid (Below wr.heap.size wr (wr.alloc (.cells #[.string ⟨#[70, 69, 84, 67, 72]⟩, .func (.func 38) #[] #[], .func (.func 39) #[] #[]] 40))) := (Below.refl wr.heap.size wr).alloc (Nat.le_refl _) _
          have HOW : Hid ((wr.alloc (.cells #[.string ⟨#[70, 69, 84, 67, 72]⟩, .func (.func 38) #[] #[], .func (.func 39) #[] #[]] 40)).ownsRow w2.heap.size 9 1 (.slice wa wm wc) 5 (strVals (kindsW.take 5))) := rowS_below HOr.out HBW.out
          go_upto_region 7 with fail
          generalize (wr.alloc (.cells #[.string ⟨#[70, 69, 84, 67, 72]⟩, .func (.func 38) #[] #[], .func (.func 39) #[] #[]] 40)) = w3 at HKW HBW HOW ⊢
          clear e0 e1 e2 st1 st2
          obtain ⟨m0, m1, m2⟩ := bx3 HKW.out
          have ml := lt_of_heap HKW.out
          have hs3 := HBW.out.size
          have HOW4 : Hid ((w3.alloc (.cells #[.string ⟨#[70, 69, 84, 67, 72]⟩] 9)).ownsRow w2.heap.size 9 1 (.slice wa wm wc) 5 (strVals (kindsW.take 5))) := rowS_below HOW.out ((Below.refl _ _).alloc (Nat.le_refl _) _)
          go_wp2_with (at_builtin; refine wpList_append_strs rfl (.tmp 17) (.tmp 20) 44 rfl i0 Tryz.underlying44 hi hz0 hz1 hz2 w2.heap.size (.slice wa wm wc) (kindsW.take 5) [kindW 5] 5 1 rfl rfl rfl HOW4.out w3.heap.size rfl (box_new w3 (.cells #[.string ⟨#[70, 69, 84, 67, 72]⟩] 9)) (by omega) (by simp; omega) ?_)
          intro v4 w4 hO4 hG4
          have HO5 : Hid (w4.ownsRow w2.heap.size 9 1 v4 (5 + 1) (strVals (kindsW.take (5 + 1)))) := hO4
          have HB5 : Hid (Below w2.heap.size w2 w4) := (Below.step (Below.step HBr.out HBW.out) ((Below.refl _ _).alloc (Nat.le_refl _) _)).grown hG4 (by have := HBr.out.size; simp; omega) (fun j hj => (HOW4.out.lt j hj).1)
          obtain ⟨va, vn, vc, hv4⟩ := rowS_form hO4
          subst hv4
          clear hO4 hG4 HOW4 HOW HKW
          go_wp2
          go_roundw
          case rel => exact ⟨5 + 1, by omega, by go_num, ⟨_, _, _, rfl⟩, HO5, HB5⟩
          case measure => simp [intOf]
        · skip
          obtain ⟨e0, e1, e2⟩ := formAt6 HFr.out
          have st1 : (store ⟨wr.heap.size, 1, none⟩ (.func (.func 40) #[] #[])).run Tryz.prog (wr.alloc (.cells #[.string ⟨#[67, 79, 80, 89]⟩, .nilFunc, .nilFunc] 40)) = .ok () (wr.alloc (.cells #[.string ⟨#[67, 79, 80, 89]⟩, .func (.func 40) #[] #[], .nilFunc] 40)) := by rw [run_storeF (wr.alloc (.cells #[.string ⟨#[67, 79, 80, 89]⟩, .nilFunc, .nilFunc] 40)) wr.heap.size 1 _ _ _ (box_new wr _) (by simp) rfl, World.setCell_alloc_new]; rfl
          have st2 : (store ⟨wr.heap.size, 2, none⟩ (.func (.func 41) #[] #[])).run Tryz.prog (wr.alloc (.cells #[.string ⟨#[67, 79, 80, 89]⟩, .func (.func 40) #[] #[], .nilFunc] 40)) = .ok () (wr.alloc (.cells #[.string ⟨#[67, 79, 80, 89]⟩, .func (.func 40) #[] #[], .func (.func 41) #[] #[]] 40)) := by rw [run_storeF (wr.alloc (.cells #[.string ⟨#[67, 79, 80, 89]⟩, .func (.func 40) #[] #[], .nilFunc] 40)) wr.heap.size 2 _ _ _ (box_new wr _) (by simp) rfl, World.setCell_alloc_new]; rfl
          have HKW : Hid ((wr.alloc (.cells #[.string ⟨#[67, 79, 80, 89]⟩, .func (.func 40) #[] #[], .func (.func 41) #[] #[]] 40)).heap[wr.heap.size]? = some (.cells #[.string ⟨#[67, 79, 80, 89]⟩, .func (.func 40) #[] #[], .func (.func 41) #[] #[]] 40 (0, 0))) := box_new _ _
          have HBW : Hid (Below wr.heap.size wr (wr.alloc (.cells #[.string ⟨#[67, 79, 80, 89]⟩, .func (.func 40) #[] #[], .func (.func 41) #[] #[]] 40))) := (Below.refl wr.heap.size wr).alloc (Nat.le_refl _) _
          have HOW : Hid ((wr.alloc (.cells #[.string ⟨#[67, 79, 80, 89]⟩, .func (.func 40) #[] #[], .func (.func 41) #[] #[]] 40)).ownsRow w2.heap.size 9 1 (.slice wa wm wc) 6 (strVals (kindsW.take 6))) := rowS_below HOr.out HBW.out
          go_upto_region 7 with fail
          generalize (wr.alloc (.cells #[.string ⟨#[67, 79, 80, 89]⟩, .func (.func 40) #[] #[], .func (.func 41) #[] #[]] 40)) = w3 at HKW HBW HOW ⊢
          clear e0 e1 e2 st1 st2
          obtain ⟨m0, m1, m2⟩ := bx3 HKW.out
          have ml := lt_of_heap HKW.out
          have hs3 := HBW.out.size
          have HOW4 : Hid ((w3.alloc (.cells #[.string ⟨#[67, 79, 80, 89]⟩] 9)).ownsRow w2.heap.size 9 1 (.slice wa wm wc) 6 (strVals (kindsW.take 6))) := rowS_below HOW.out ((Below.refl _ _).alloc (Nat.le_refl _) _)
          go_wp2_with (at_builtin; refine wpList_append_strs rfl (.tmp 17) (.tmp 20) 44 rfl i0 Tryz.underlying44 hi hz0 hz1 hz2 w2.heap.size (.slice wa wm wc) (kindsW.take 6) [kindW 6] 6 1 rfl rfl rfl HOW4.out w3.heap.size rfl (box_new w3 (.cells #[.string ⟨#[67, 79, 80, 89]⟩] 9)) (by omega) (by simp; omega) ?_)
          intro v4 w4 hO4 hG4
          have HO5 : Hid (w4.ownsRow w2.heap.size 9 1 v4 (6 + 1) (strVals (kindsW.take (6 + 1)))) := hO4
          have HB5 : Hid (Below w2.heap.size w2 w4) := (Below.step (Below.step HBr.out HBW.out) ((Below.refl _ _).alloc (Nat.le_refl _) _)).grown hG4 (by have := HBr.out.size; simp; omega) (fun j hj => (HOW4.out.lt j hj).1)
          obtain ⟨va, vn, vc, hv4⟩ := rowS_form hO4
          subst hv4
          clear hO4 hG4 HOW4 HOW HKW
          go_wp2
          go_roundw
          case rel => exact ⟨6 + 1, by omega, by go_num, ⟨_, _, _, rfl⟩, HO5, HB5⟩
          case measure => simp [intOf]
        · skip
          obtain ⟨e0, e1, e2⟩ := formAt7 HFr.out
          have st1 : (store ⟨wr.heap.size, 1, none⟩ (.func (.func 32) #[] #[])).run Tryz.prog (wr.alloc (.cells #[.string ⟨#[83, 84, 65, 84, 85, 83]⟩, .nilFunc, .nilFunc] 40)) = .ok () (wr.alloc (.cells #[.string ⟨#[83, 84, 65, 84, 85, 83]⟩, .func (.func 32) #[] #[], .nilFunc] 40)) := by rw [run_storeF (wr.alloc (.cells #[.string ⟨#[83, 84, 65, 84, 85, 83]⟩, .nilFunc, .nilFunc] 40)) wr.heap.size 1 _ _ _ (box_new wr _) (by simp) rfl, World.setCell_alloc_new]; rfl
          have st2 : (store ⟨wr.heap.size, 2, none⟩ (.func (.func 33) #[] #[])).run Tryz.prog (wr.alloc (.cells #[.string ⟨#[83, 84, 65, 84, 85, 83]⟩, .func (.func 32) #[] #[], .nilFunc] 40)) = .ok () (wr.alloc (.cells #[.string ⟨#[83, 84, 65, 84, 85, 83]⟩, .func (.func 32) #[] #[], .func (.func 33) #[] #[]] 40)) := by rw [run_storeF (wr.alloc (.cells #[.string ⟨#[83, 84, 65, 84, 85, 83]⟩, .func (.func 32) #[] #[], .nilFunc] 40)) wr.heap.size 2 _ _ _ (box_new wr _) (by simp) rfl, World.setCell_alloc_new]; rfl
          have HKW : Hid ((wr.alloc (.cells #[.string ⟨#[83, 84, 65, 84, 85, 83]⟩, .func (.func 32) #[] #[], .func (.func 33) #[] #[]] 40)).heap[wr.heap.size]? = some (.cells #[.string ⟨#[83, 84, 65, 84, 85, 83]⟩, .func (.func 32) #[] #[], .func (.func 33) #[] #[]] 40 (0, 0))) := box_new _ _
          have HBW : Hid (Below wr.heap.size wr (wr.alloc (.cells #[.string ⟨#[83, 84, 65, 84, 85, 83]⟩, .func (.func 32) #[] #[], .func (.func 33) #[] #[]] 40))) := (Below.refl wr.heap.size wr).alloc (Nat.le_refl _) _
          have HOW : Hid ((wr.alloc (.cells #[.string ⟨#[83, 84, 65, 84, 85, 83]⟩, .func (.func 32) #[] #[], .func (.func 33) #[] #[]] 40)).ownsRow w2.heap.size 9 1 (.slice wa wm wc) 7 (strVals (kindsW.take 7))) := rowS_below HOr.out HBW.out
          go_upto_region 7 with fail
          generalize (wr.alloc (.cells #[.string ⟨#[83, 84, 65, 84, 85, 83]⟩, .func (.func 32) #[] #[], .func (.func 33) #[] #[]] 40)) = w3 at HKW HBW HOW ⊢
          clear e0 e1 e2 st1 st2
          obtain ⟨m0, m1, m2⟩ := bx3 HKW.out
          have ml := lt_of_heap HKW.out
          have hs3 := HBW.out.size
          have HOW4 : Hid ((w3.alloc (.cells #[.string ⟨#[83, 84, 65, 84, 85, 83]⟩] 9)).ownsRow w2.heap.size 9 1 (.slice wa wm wc) 7 (strVals (kindsW.take 7))) := rowS_below HOW.out ((Below.refl _ _).alloc (Nat.le_refl _) _)
          go_wp2_with (at_builtin; refine wpList_append_strs rfl (.tmp 17) (.tmp 20) 44 rfl i0 Tryz.underlying44 hi hz0 hz1 hz2 w2.heap.size (.slice wa wm wc) (kindsW.take 7) [kindW 7] 7 1 rfl rfl rfl HOW4.out w3.heap.size rfl (box_new w3 (.cells #[.string ⟨#[83, 84, 65, 84, 85, 83]⟩] 9)) (by omega) (by simp; omega) ?_)
          intro v4 w4 hO4 hG4
          have HO5 : Hid (w4.ownsRow w2.heap.size 9 1 v4 (7 + 1) (strVals (kindsW.take (7 + 1)))) := hO4
          have HB5 : Hid (Below w2.heap.size w2 w4) := (Below.step (Below.step HBr.out HBW.out) ((Below.refl _ _).alloc (Nat.le_refl _) _)).grown hG4 (by have := HBr.out.size; simp; omega) (fun j hj => (HOW4.out.lt j hj).1)
          obtain ⟨va, vn, vc, hv4⟩ := rowS_form hO4
          subst hv4
          clear hO4 hG4 HOW4 HOW HKW
          go_wp2
          go_roundw
          case rel => exact ⟨7 + 1, by omega, by go_num, ⟨_, _, _, rfl⟩, HO5, HB5⟩
          case measure => simp [intOf]
        · skip
          obtain ⟨e0, e1, e2⟩ := formAt8 HFr.out
          have st1 : (store ⟨wr.heap.size, 1, none⟩ (.func (.func 42) #[] #[])).run Tryz.prog (wr.alloc (.cells #[.string ⟨#[67, 72, 65, 78, 71, 69, 83]⟩, .nilFunc, .nilFunc] 40)) = .ok () (wr.alloc (.cells #[.string ⟨#[67, 72, 65, 78, 71, 69, 83]⟩, .func (.func 42) #[] #[], .nilFunc] 40)) := by rw [run_storeF (wr.alloc (.cells #[.string ⟨#[67, 72, 65, 78, 71, 69, 83]⟩, .nilFunc, .nilFunc] 40)) wr.heap.size 1 _ _ _ (box_new wr _) (by simp) rfl, World.setCell_alloc_new]; rfl
          have st2 : (store ⟨wr.heap.size, 2, none⟩ (.func (.func 43) #[] #[])).run Tryz.prog (wr.alloc (.cells #[.string ⟨#[67, 72, 65, 78, 71, 69, 83]⟩, .func (.func 42) #[] #[], .nilFunc] 40)) = .ok () (wr.alloc (.cells #[.string ⟨#[67, 72, 65, 78, 71, 69, 83]⟩, .func (.func 42) #[] #[], .func (.func 43) #[] #[]] 40)) := by rw [run_storeF (wr.alloc (.cells #[.string ⟨#[67, 72, 65, 78, 71, 69, 83]⟩, .func (.func 42) #[] #[], .nilFunc] 40)) wr.heap.size 2 _ _ _ (box_new wr _) (by simp) rfl, World.setCell_alloc_new]; rfl
          have HKW : Hid ((wr.alloc (.cells #[.string ⟨#[67, 72, 65, 78, 71, 69, 83]⟩, .func (.func 42) #[] #[], .func (.func 43) #[] #[]] 40)).heap[wr.heap.size]? = some (.cells #[.string ⟨#[67, 72, 65, 78, 71, 69, 83]⟩, .func (.func 42) #[] #[], .func (.func 43) #[] #[]] 40 (0, 0))) := box_new _ _
          have HBW : Hid (Below wr.heap.size wr (wr.alloc (.cells #[.string ⟨#[67, 72, 65, 78, 71, 69, 83]⟩, .func (.func 42) #[] #[], .func (.func 43) #[] #[]] 40))) := (Below.refl wr.heap.size wr).alloc (Nat.le_refl _) _
          have HOW : Hid ((wr.alloc (.cells #[.string ⟨#[67, 72, 65, 78, 71, 69, 83]⟩, .func (.func 42) #[] #[], .func (.func 43) #[] #[]] 40)).ownsRow w2.heap.size 9 1 (.slice wa wm wc) 8 (strVals (kindsW.take 8))) := rowS_below HOr.out HBW.out
          go_upto_region 7 with fail
          generalize (wr.alloc (.cells #[.string ⟨#[67, 72, 65, 78, 71, 69, 83]⟩, .func (.func 42) #[] #[], .func (.func 43) #[] #[]] 40)) = w3 at HKW HBW HOW ⊢
          clear e0 e1 e2 st1 st2
          obtain ⟨m0, m1, m2⟩ := bx3 HKW.out
          have ml := lt_of_heap HKW.out
          have hs3 := HBW.out.size
          have HOW4 : Hid ((w3.alloc (.cells #[.string ⟨#[67, 72, 65, 78, 71, 69, 83]⟩] 9)).ownsRow w2.heap.size 9 1 (.slice wa wm wc) 8 (strVals (kindsW.take 8))) := rowS_below HOW.out ((Below.refl _ _).alloc (Nat.le_refl _) _)
          go_wp2_with (at_builtin; refine wpList_append_strs rfl (.tmp 17) (.tmp 20) 44 rfl i0 Tryz.underlying44 hi hz0 hz1 hz2 w2.heap.size (.slice wa wm wc) (kindsW.take 8) [kindW 8] 8 1 rfl rfl rfl HOW4.out w3.heap.size rfl (box_new w3 (.cells #[.string ⟨#[67, 72, 65, 78, 71, 69, 83]⟩] 9)) (by omega) (by simp; omega) ?_)
          intro v4 w4 hO4 hG4
          have HO5 : Hid (w4.ownsRow w2.heap.size 9 1 v4 (8 + 1) (strVals (kindsW.take (8 + 1)))) := hO4
          have HB5 : Hid (Below w2.heap.size w2 w4) := (Below.step (Below.step HBr.out HBW.out) ((Below.refl _ _).alloc (Nat.le_refl _) _)).grown hG4 (by have := HBr.out.size; simp; omega) (fun j hj => (HOW4.out.lt j hj).1)
          obtain ⟨va, vn, vc, hv4⟩ := rowS_form hO4
          subst hv4
          clear hO4 hG4 HOW4 HOW HKW
          go_wp2
          go_roundw
          case rel => exact ⟨8 + 1, by omega, by go_num, ⟨_, _, _, rfl⟩, HO5, HB5⟩
          case measure => simp [intOf]
        · skip
          obtain ⟨e0, e1, e2⟩ := formAt9 HFr.out
          have st1 : (store ⟨wr.heap.size, 1, none⟩ (.func (.func 44) #[] #[])).run Tryz.prog (wr.alloc (.cells #[.string ⟨#[76, 73, 83, 84]⟩, .nilFunc, .nilFunc] 40)) = .ok () (wr.alloc (.cells #[.string ⟨#[76, 73, 83, 84]⟩, .func (.func 44) #[] #[], .nilFunc] 40)) := by rw [run_storeF (wr.alloc (.cells #[.string ⟨#[76, 73, 83, 84]⟩, .nilFunc, .nilFunc] 40)) wr.heap.size 1 _ _ _ (box_new wr _) (by simp) rfl, World.setCell_alloc_new]; rfl
          have st2 : (store ⟨wr.heap.size, 2, none⟩ (.func (.func 45) #[] #[])).run Tryz.prog (wr.alloc (.cells #[.string ⟨#[76, 73, 83, 84]⟩, .func (.func 44) #[] #[], .nilFunc] 40)) = .ok () (wr.alloc (.cells #[.string ⟨#[76, 73, 83, 84]⟩, .func (.func 44) #[] #[], .func (.func 45) #[] #[]] 40)) := by rw [run_storeF (wr.alloc (.cells #[.string ⟨#[76, 73, 83, 84]⟩, .func (.func 44) #[] #[], .nilFunc] 40)) wr.heap.size 2 _ _ _ (box_new wr _) (by simp) rfl, World.setCell_alloc_new]; rfl
          have HKW : Hid ((wr.alloc (.cells #[.string ⟨#[76, 73, 83, 84]⟩, .func (.func 44) #[] #[], .func (.func 45) #[] #[]] 40)).heap[wr.heap.size]? = some (.cells #[.string ⟨#[76, 73, 83, 84]⟩, .func (.func 44) #[] #[], .func (.func 45) #[] #[]] 40 (0, 0))) := box_new _ _
          have HBW : Hid (Below wr.heap.size wr (wr.alloc (.cells #[.string ⟨#[76, 73, 83, 84]⟩, .func (.func 44) #[] #[], .func (.func 45) #[] #[]] 40))) := (Below.refl wr.heap.size wr).alloc (Nat.le_refl _) _
          have HOW : Hid ((wr.alloc (.cells #[.string ⟨#[76, 73, 83, 84]⟩, .func (.func 44) #[] #[], .func (.func 45) #[] #[]] 40)).ownsRow w2.heap.size 9 1 (.slice wa wm wc) 9 (strVals (kindsW.take 9))) := rowS_below HOr.out HBW.out
          go_upto_region 7 with fail
          generalize (wr.alloc (.cells #[.string ⟨#[76, 73, 83, 84]⟩, .func (.func 44) #[] #[], .func (.func 45) #[] #[]] 40)) = w3 at HKW HBW HOW ⊢
          clear e0 e1 e2 st1 st2
          obtain ⟨m0, m1, m2⟩ := bx3 HKW.out
          have ml := lt_of_heap HKW.out
          have hs3 := HBW.out.size
          have HOW4 : Hid ((w3.alloc (.cells #[.string ⟨#[76, 73, 83, 84]⟩] 9)).ownsRow w2.heap.size 9 1 (.slice wa wm wc) 9 (strVals (kindsW.take 9))) := rowS_below HOW.out ((Below.refl _ _).alloc (Nat.le_refl _) _)
          go_wp2_with (at_builtin; refine wpList_append_strs rfl (.tmp 17) (.tmp 20) 44 rfl i0 Tryz.underlying44 hi hz0 hz1 hz2 w2.heap.size (.slice wa wm wc) (kindsW.take 9) [kindW 9] 9 1 rfl rfl rfl HOW4.out w3.heap.size rfl (box_new w3 (.cells #[.string ⟨#[76, 73, 83, 84]⟩] 9)) (by omega) (by simp; omega) ?_)
          intro v4 w4 hO4 hG4
          have HO5 : Hid (w4.ownsRow w2.heap.size 9 1 v4 (9 + 1) (strVals (kindsW.take (9 + 1)))) := hO4
          have HB5 : Hid (Below w2.heap.size w2 w4) := (Below.step (Below.step HBr.out HBW.out) ((Below.refl _ _).alloc (Nat.le_refl _) _)).grown hG4 (by have := HBr.out.size; simp; omega) (fun j hj => (HOW4.out.lt j hj).1)
          obtain ⟨va, vn, vc, hv4⟩ := rowS_form hO4
          subst hv4
          clear hO4 hG4 HOW4 HOW HKW
          go_wp2
          go_roundw
          case rel => exact ⟨9 + 1, by omega, by go_num, ⟨_, _, _, rfl⟩, HO5, HB5⟩
          case measure => simp [intOf]
      · obtain rfl : k = 10 := by omega
        rcases HOr.out.2 with ⟨-, hno⟩ | ⟨bw, cap, cur, hv, hBw, hh, g1, g2, g3, g4⟩
        · exact absurd hno (by decide)
        simp only [Value.slice.injEq] at hv
        obtain ⟨rfl, rfl, rfl⟩ := hv
        have hcells : ∀ j, j < kindsW.length → wr.cell? ⟨bw, j, none⟩ = some (.string (strOfNums (kindsW.getD j []))) := by
          intro j hj
          have hj10 : j < 10 := hj
          have e : (strVals (kindsW.take 10))[j]? = some (.string (strOfNums (kindsW.getD j []))) := by
            rw [show kindsW.take 10 = kindsW from rfl]
            simp [strVals, List.getD_eq_getElem?_getD, List.getElem?_map, List.getElem?_eq_getElem hj]
          rw [← g4, Nat.mul_one, List.getElem?_take, if_pos hj10] at e
          rw [cell_of_row wr bw j _ _ (0, 0) hh]
          simpa using e
        have hbl := lt_of_heap hh
        have hbg : bw ≠ g := by omega
        have HRr : Hid (Rs w0 wr g S (.slice la l.length lc) tv ts) := HR2.out.below HBr.out
        have HGr : Hid (w.grownBy wr (some g)) := gb_below HG2.out HBr.out
        have HKr : Hid (wr.heap[w.heap.size]? = some (.cells #[.int .i64 0, .slice none 0 0, .slice none 0 0, .int .i64 0, .int .i64 0, .int .i64 0, .int .i64 0, .slice none 0 0] 24 (0, 0))) := box_below HBr.out HK2.out
        have hof := oneOf_r g la l.length lc tv ts S ea kindsW bw wc w0 wr HEN.out HRr.out HOK.out (fun b hb => by have := (hS1 b hb).2; omega) hl hbg hbl (by decide) hcells
        clear hcells hh g1 g2 g3 g4 HOr
        cases hwm : wordM l.length kindsW ts with
        | error p =>
          rw [hwm] at hof
          have HRE : Hid (res = .error (3, p)) := by show _ = _; rw [HRES.out]; simp [rdI, HLX.out, cmdI, hwm, Except.bind]
          clear hwm
          go_wp2_with fail
          refine hof.mono ?_
          rintro e w5 ⟨hG, rfl, hb⟩
          have HF : Hid (w.grownBy w5 (some g) ∧ Bad w5 g 3 p) := ⟨gb_trans HGr.out hG, hb⟩
          clear hG hb hof
          go_wp2
          refine ⟨rfl, ?_⟩
          rw [HRE.out]
          exact ⟨HF.out.1, rfl, HF.out.2⟩
        | ok p =>
          rw [hwm] at hof
          obtain ⟨m, ts1⟩ := p
          have HWM : Hid (wordM l.length kindsW ts = .ok (m, ts1)) := hwm
          have hok1 : ∀ t ∈ ts1, OkT t := fun t ht => HOK.out t ((word_mem hwm).1 t ht)
          have hm : 0 ≤ m ∧ m ≤ 9 := by
            refine ⟨(word_mem hwm).2, ?_⟩
            rw [word_kind _ _ HOK.out] at hwm
            cases hk : kindM ts with
            | none => rw [hk] at hwm; cases hwm
            | some k =>
              rw [hk] at hwm
              have := kindM_lt hk
              simp only [Except.ok.injEq, Prod.mk.injEq] at hwm
              omega
          clear hwm
          go_wp2_with fail
          refine hof.mono ?_
          rintro e w5 ⟨hG, tv1, rfl, hR⟩
          simp only at hR
          have hs5 := hG.size
          have AB : Below w5.heap.size w5 (w5.alloc (.cells #[.int .i64 m, .slice none 0 0, .slice none 0 0, .int .i64 0, .int .i64 0, .int .i64 0, .int .i64 0, .slice none 0 0] 24)) := (Below.refl _ _).alloc (Nat.le_refl _) _
          have HR6 : Hid (Rs w0 (w5.alloc (.cells #[.int .i64 m, .slice none 0 0, .slice none 0 0, .int .i64 0, .int .i64 0, .int .i64 0, .int .i64 0, .slice none 0 0] 24)) g S (.slice la l.length lc) tv1 ts1) := hR.below AB
          have HG6 : Hid (w.grownBy (w5.alloc (.cells #[.int .i64 m, .slice none 0 0, .slice none 0 0, .int .i64 0, .int .i64 0, .int .i64 0, .int .i64 0, .slice none 0 0] 24)) (some g)) := gb_below (gb_trans HGr.out hG) AB
          have HK6 : Hid ((w5.alloc (.cells #[.int .i64 m, .slice none 0 0, .slice none 0 0, .int .i64 0, .int .i64 0, .int .i64 0, .int .i64 0, .slice none 0 0] 24)).heap[w.heap.size]? = some (.cells #[.int .i64 0, .slice none 0 0, .slice none 0 0, .int .i64 0, .int .i64 0, .int .i64 0, .int .i64 0, .slice none 0 0] 24 (0, 0))) := box_below AB ((hG.block w.heap.size (lt_of_heap HKr.out) (by simp; omega)).trans HKr.out)
          have HC6 : Hid (C0 (w5.alloc (.cells #[.int .i64 m, .slice none 0 0, .slice none 0 0, .int .i64 0, .int .i64 0, .int .i64 0, .int .i64 0, .slice none 0 0] 24)) w5.heap.size m) := box_new _ _
          have HF6 : Hid ((w5.alloc (.cells #[.int .i64 m, .slice none 0 0, .slice none 0 0, .int .i64 0, .int .i64 0, .int .i64 0, .int .i64 0, .slice none 0 0] 24)).heap[w1.heap.size]? = some formsO) := box_below AB ((hG.block w1.heap.size hF1 (by simp; omega)).trans HFr.out)
          have hs6 : (w5.alloc (.cells #[.int .i64 m, .slice none 0 0, .slice none 0 0, .int .i64 0, .int .i64 0, .int .i64 0, .int .i64 0, .slice none 0 0] 24)).heap.size = w5.heap.size + 1 := by simp
          clear hG hR AB hof
          go_upto_region 10 with fail
          generalize (w5.alloc (.cells #[.int .i64 m, .slice none 0 0, .slice none 0 0, .int .i64 0, .int .i64 0, .int .i64 0, .int .i64 0, .slice none 0 0] 24)) = w6 at HR6 HG6 HK6 HC6 HF6 hs6 ⊢
          have HPL : Hid (Pl w0 w6 g w5.heap.size (w5.heap.size + 1) S) := ⟨by omega, by omega, by omega, by omega, HEN.out.apart, fun h => by have := (hS1 _ h).2; omega, fun b hb => by have := (hS1 b hb).2; omega, by omega⟩
          have hs6' : w5.heap.size + 1 ≤ w6.heap.size := by omega
          clear hs6 HRr HGr HKr HR2 HG2 HK2 HF2
          obtain ⟨q0, q1, q2, q3, q4, q5, q6, q7, ql⟩ := box8l HC6.out
          have hF6 := lt_of_heap HF6.out
          obtain rfl | rfl | rfl | rfl | rfl | rfl | rfl | rfl | rfl | rfl : m = 0 ∨ m = 1 ∨ m = 2 ∨ m = 3 ∨ m = 4 ∨ m = 5 ∨ m = 6 ∨ m = 7 ∨ m = 8 ∨ m = 9 := by omega
          · skip
            have hrd := readBox_r g w5.heap.size (w5.heap.size + 1) la l.length lc tv1 ts1 S ea 0 w0 w6 HEN.out HPL.out HR6.out HC6.out hok1 hl (by decide)
            obtain ⟨e0, e1, e2⟩ := formAt0 HF6.out
            go_wp2_with fail
            refine hrd.mono ?_
            rintro e w7 hP
            cases hrr : readI l.length 0 ts1 with
            | error p =>
              rw [hrr] at hP
              obtain ⟨rfl, hgr, hbad⟩ := hP
              have HRE : Hid (res = .error (3, p)) := by show _ = _; rw [HRES.out]; simp [rdI, HLX.out, cmdI, HWM.out, hrr, endM, Except.bind]
              have HF : Hid (w.grownBy w7 (some g) ∧ Bad w7 g 3 p) := ⟨gb_gr2 HG6.out hgr (by omega), hbad⟩
              clear hrr hgr hbad hrd
              go_wp2
              refine ⟨rfl, ?_⟩
              rw [HRE.out]
              exact ⟨HF.out.1, rfl, HF.out.2⟩
            | ok p =>
              rw [hrr] at hP
              obtain ⟨tv2, rfl, hRI⟩ := hP
              have HRI : Hid (RI w0 w6 w7 g w5.heap.size (w5.heap.size + 1) S (.slice la l.length lc) tv2 p.2 p.1) := hRI
              have HG7 : Hid (w.grownBy w7 (some g)) := gb_gr2 HG6.out hRI.gr (by omega)
              have HRR : Hid (readI l.length 0 ts1 = .ok p) := hrr
              clear hrr hRI hrd e0 e1 e2
              obtain ⟨C, ts2⟩ := p
              simp only at HRI
              go_wp2_with fail
              refine (more_r g _ tv2 ts2 S w0 w7 0 0 HRI.out.rs.lr HRI.out.rs.toks).mono ?_
              rintro e w7 ⟨rfl, rfl⟩
              cases ts2 with
              | nil =>
                have HRE : Hid (res = .ok C) := by show _ = _; rw [HRES.out]; simp [rdI, HLX.out, cmdI, HWM.out, HRR.out, endM, Except.bind]
                have hd0 : decide (0 < ([] : List TokD).length) = false := rfl
                rw [hd0]
                clear hd0
                obtain ⟨hgr, hrs, a0, n0, c0, a1, n1, c1, a2, n2, c2, T0, hcc, r0, r1, r2, h1, h2⟩ := HRI.out
                have HK7 : Hid (w7.heap[w.heap.size]? = some (.cells #[.int .i64 0, .slice none 0 0, .slice none 0 0, .int .i64 0, .int .i64 0, .int .i64 0, .int .i64 0, .slice none 0 0] 24 (0, 0))) := (hgr.block w.heap.size (lt_of_heap HK6.out) (by omega) (by omega)).trans HK6.out
                rw [HSS.out] at r2
                obtain ⟨kk, bx, tt, uid, mode, fl, si, tx⟩ := C
                simp only at hcc r0 r1 r2
                have HX : Hid (CmdX ((((((((w7.setCell ⟨w.heap.size, 0, none⟩ (.int .i64 kk)).setCell ⟨w.heap.size, 1, none⟩ (.slice a0 n0 c0)).setCell ⟨w.heap.size, 2, none⟩ (.slice a1 n1 c1)).setCell ⟨w.heap.size, 3, none⟩ (.int .i64 uid)).setCell ⟨w.heap.size, 4, none⟩ (.int .i64 mode)).setCell ⟨w.heap.size, 5, none⟩ (.int .i64 fl)).setCell ⟨w.heap.size, 6, none⟩ (.int .i64 si)).setCell ⟨w.heap.size, 7, none⟩ (.slice a2 n2 c2)) w.heap.size ((((((((w7.setCell ⟨w.heap.size, 0, none⟩ (.int .i64 kk)).setCell ⟨w.heap.size, 1, none⟩ (.slice a0 n0 c0)).setCell ⟨w.heap.size, 2, none⟩ (.slice a1 n1 c1)).setCell ⟨w.heap.size, 3, none⟩ (.int .i64 uid)).setCell ⟨w.heap.size, 4, none⟩ (.int .i64 mode)).setCell ⟨w.heap.size, 5, none⟩ (.int .i64 fl)).setCell ⟨w.heap.size, 6, none⟩ (.int .i64 si)).setCell ⟨w.heap.size, 7, none⟩ (.slice a2 n2 c2)).heap.size (.agg #[.int .i64 kk, .slice a0 n0 c0, .slice a1 n1 c1, .int .i64 uid, .int .i64 mode, .int .i64 fl, .int .i64 si, .slice a2 n2 c2]) ⟨kk, bx, tt, uid, mode, fl, si, tx⟩) := by
                  have hz := size8 w7 w.heap.size (.int .i64 kk) (.slice a0 n0 c0) (.slice a1 n1 c1) (.int .i64 uid) (.int .i64 mode) (.int .i64 fl) (.int .i64 si) (.slice a2 n2 c2)
                  refine ⟨_, _, _, w1.heap.size, T0, rfl, (row_set8 r2.row (.inl (by omega))).wide (by omega) (Nat.le_refl _), row_set8 (r0.wide (show w1.heap.size ≤ w5.heap.size + 1 by omega) (Nat.le_refl _)) (.inl (by omega)), ?_, by omega, by omega, by rw [hz]; omega⟩
                  rw [hz]; exact row_set8 r1 (.inl (by omega))
                have HGF : Hid (w.grownBy ((((((((w7.setCell ⟨w.heap.size, 0, none⟩ (.int .i64 kk)).setCell ⟨w.heap.size, 1, none⟩ (.slice a0 n0 c0)).setCell ⟨w.heap.size, 2, none⟩ (.slice a1 n1 c1)).setCell ⟨w.heap.size, 3, none⟩ (.int .i64 uid)).setCell ⟨w.heap.size, 4, none⟩ (.int .i64 mode)).setCell ⟨w.heap.size, 5, none⟩ (.int .i64 fl)).setCell ⟨w.heap.size, 6, none⟩ (.int .i64 si)).setCell ⟨w.heap.size, 7, none⟩ (.slice a2 n2 c2)) (some g)) := gb_set8 HG7.out (Nat.le_refl _)
                have HKF : Hid (((((((((w7.setCell ⟨w.heap.size, 0, none⟩ (.int .i64 kk)).setCell ⟨w.heap.size, 1, none⟩ (.slice a0 n0 c0)).setCell ⟨w.heap.size, 2, none⟩ (.slice a1 n1 c1)).setCell ⟨w.heap.size, 3, none⟩ (.int .i64 uid)).setCell ⟨w.heap.size, 4, none⟩ (.int .i64 mode)).setCell ⟨w.heap.size, 5, none⟩ (.int .i64 fl)).setCell ⟨w.heap.size, 6, none⟩ (.int .i64 si)).setCell ⟨w.heap.size, 7, none⟩ (.slice a2 n2 c2)).heap[w.heap.size]? = some (.cells #[.int .i64 kk, .slice a0 n0 c0, .slice a1 n1 c1, .int .i64 uid, .int .i64 mode, .int .i64 fl, .int .i64 si, .slice a2 n2 c2] 24 (0, 0))) := box_set (i := 7) (box_set (i := 6) (box_set (i := 5) (box_set (i := 4) (box_set (i := 3) (box_set (i := 2) (box_set (i := 1) (box_set (i := 0) HK7.out)))))))
                obtain ⟨d0, d1, d2, d3, d4, d5, d6, d7, dl⟩ := box8l hcc
                obtain ⟨y0, y1, y2, y3, y4, y5, y6, y7, yl⟩ := box8l HK7.out
                obtain ⟨yz, -⟩ := box8z HK7.out
                clear hgr hrs hcc r0 r1 r2 h1 h2
                go_wp2
                obtain ⟨f0, f1, f2, f3, f4, f5, f6, f7, -⟩ := box8l HKF.out
                refine bodyPost_ret (v := .agg #[.int .i64 kk, .slice a0 n0 c0, .slice a1 n1 c1, .int .i64 uid, .int .i64 mode, .int .i64 fl, .int .i64 si, .slice a2 n2 c2]) (by simp [results, Tryz.results25, go_sem, f0, f1, f2, f3, f4, f5, f6, f7]) rfl ?_
                rw [HRE.out]
                exact ⟨HGF.out, _, rfl, HX.out⟩
              | cons t r =>
                have HRE : Hid (res = .error (3, t.p)) := by show _ = _; rw [HRES.out]; simp [rdI, HLX.out, cmdI, HWM.out, HRR.out, endM, Except.bind]
                have hd0 : decide (0 < (t :: r).length) = true := by simp
                rw [hd0]
                clear hd0
                obtain ⟨tb, off, cap, xa, xn, xk, rfl, h1, h2, hb, hSb, f0, f1, f2, f3, -, -, -⟩ := HRI.out.rs.toks.head
                obtain ⟨c0, c1, c2, c3, cz, cl⟩ := tab4 HRI.out.rs.lr
                go_wp2_with fail
                refine (giveUp_r g _ _ 0 0 3 t.p ea _ HRI.out.rs.lr (HEN.out.gave.below HRI.out.rs.bel) HEN.out.ne).mono ?_
                rintro e w8 ⟨rfl, hbad, hG⟩
                have HF : Hid (Bad w8 g 3 t.p ∧ w.grownBy w8 (some g)) := ⟨hbad, gb_trans HG7.out hG⟩
                clear hbad hG
                go_wp2
                refine ⟨rfl, ?_⟩
                rw [HRE.out]
                exact ⟨HF.out.2, rfl, HF.out.1⟩
          · skip
            have hrd := readBox_r g w5.heap.size (w5.heap.size + 1) la l.length lc tv1 ts1 S ea 1 w0 w6 HEN.out HPL.out HR6.out HC6.out hok1 hl (by decide)
            obtain ⟨e0, e1, e2⟩ := formAt1 HF6.out
            go_wp2_with fail
            refine hrd.mono ?_
            rintro e w7 hP
            cases hrr : readI l.length 1 ts1 with
            | error p =>
              rw [hrr] at hP
              obtain ⟨rfl, hgr, hbad⟩ := hP
              have HRE : Hid (res = .error (3, p)) := by show _ = _; rw [HRES.out]; simp [rdI, HLX.out, cmdI, HWM.out, hrr, endM, Except.bind]
              have HF : Hid (w.grownBy w7 (some g) ∧ Bad w7 g 3 p) := ⟨gb_gr2 HG6.out hgr (by omega), hbad⟩
              clear hrr hgr hbad hrd
              go_wp2
              refine ⟨rfl, ?_⟩
              rw [HRE.out]
              exact ⟨HF.out.1, rfl, HF.out.2⟩
            | ok p =>
              rw [hrr] at hP
              obtain ⟨tv2, rfl, hRI⟩ := hP
              have HRI : Hid (RI w0 w6 w7 g w5.heap.size (w5.heap.size + 1) S (.slice la l.length lc) tv2 p.2 p.1) := hRI
              have HG7 : Hid (w.grownBy w7 (some g)) := gb_gr2 HG6.out hRI.gr (by omega)
              have HRR : Hid (readI l.length 1 ts1 = .ok p) := hrr
              clear hrr hRI hrd e0 e1 e2
              obtain ⟨C, ts2⟩ := p
              simp only at HRI
              go_wp2_with fail
              refine (more_r g _ tv2 ts2 S w0 w7 0 0 HRI.out.rs.lr HRI.out.rs.toks).mono ?_
              rintro e w7 ⟨rfl, rfl⟩
              cases ts2 with
              | nil =>
                have HRE : Hid (res = .ok C) := by show _ = _; rw [HRES.out]; simp [rdI, HLX.out, cmdI, HWM.out, HRR.out, endM, Except.bind]
                have hd0 : decide (0 < ([] : List TokD).length) = false := rfl
                rw [hd0]
                clear hd0
                obtain ⟨hgr, hrs, a0, n0, c0, a1, n1, c1, a2, n2, c2, T0, hcc, r0, r1, r2, h1, h2⟩ := HRI.out
                have HK7 : Hid (w7.heap[w.heap.size]? = some (.cells #[.int .i64 0, .slice none 0 0, .slice none 0 0, .int .i64 0, .int .i64 0, .int .i64 0, .int .i64 0, .slice none 0 0] 24 (0, 0))) := (hgr.block w.heap.size (lt_of_heap HK6.out) (by omega) (by omega)).trans HK6.out
                rw [HSS.out] at r2
                obtain ⟨kk, bx, tt, uid, mode, fl, si, tx⟩ := C
                simp only at hcc r0 r1 r2
                have HX : Hid (CmdX ((((((((w7.setCell ⟨w.heap.size, 0, none⟩ (.int .i64 kk)).setCell ⟨w.heap.size, 1, none⟩ (.slice a0 n0 c0)).setCell ⟨w.heap.size, 2, none⟩ (.slice a1 n1 c1)).setCell ⟨w.heap.size, 3, none⟩ (.int .i64 uid)).setCell ⟨w.heap.size, 4, none⟩ (.int .i64 mode)).setCell ⟨w.heap.size, 5, none⟩ (.int .i64 fl)).setCell ⟨w.heap.size, 6, none⟩ (.int .i64 si)).setCell ⟨w.heap.size, 7, none⟩ (.slice a2 n2 c2)) w.heap.size ((((((((w7.setCell ⟨w.heap.size, 0, none⟩ (.int .i64 kk)).setCell ⟨w.heap.size, 1, none⟩ (.slice a0 n0 c0)).setCell ⟨w.heap.size, 2, none⟩ (.slice a1 n1 c1)).setCell ⟨w.heap.size, 3, none⟩ (.int .i64 uid)).setCell ⟨w.heap.size, 4, none⟩ (.int .i64 mode)).setCell ⟨w.heap.size, 5, none⟩ (.int .i64 fl)).setCell ⟨w.heap.size, 6, none⟩ (.int .i64 si)).setCell ⟨w.heap.size, 7, none⟩ (.slice a2 n2 c2)).heap.size (.agg #[.int .i64 kk, .slice a0 n0 c0, .slice a1 n1 c1, .int .i64 uid, .int .i64 mode, .int .i64 fl, .int .i64 si, .slice a2 n2 c2]) ⟨kk, bx, tt, uid, mode, fl, si, tx⟩) := by
                  have hz := size8 w7 w.heap.size (.int .i64 kk) (.slice a0 n0 c0) (.slice a1 n1 c1) (.int .i64 uid) (.int .i64 mode) (.int .i64 fl) (.int .i64 si) (.slice a2 n2 c2)
                  refine ⟨_, _, _, w1.heap.size, T0, rfl, (row_set8 r2.row (.inl (by omega))).wide (by omega) (Nat.le_refl _), row_set8 (r0.wide (show w1.heap.size ≤ w5.heap.size + 1 by omega) (Nat.le_refl _)) (.inl (by omega)), ?_, by omega, by omega, by rw [hz]; omega⟩
                  rw [hz]; exact row_set8 r1 (.inl (by omega))
                have HGF : Hid (w.grownBy ((((((((w7.setCell ⟨w.heap.size, 0, none⟩ (.int .i64 kk)).setCell ⟨w.heap.size, 1, none⟩ (.slice a0 n0 c0)).setCell ⟨w.heap.size, 2, none⟩ (.slice a1 n1 c1)).setCell ⟨w.heap.size, 3, none⟩ (.int .i64 uid)).setCell ⟨w.heap.size, 4, none⟩ (.int .i64 mode)).setCell ⟨w.heap.size, 5, none⟩ (.int .i64 fl)).setCell ⟨w.heap.size, 6, none⟩ (.int .i64 si)).setCell ⟨w.heap.size, 7, none⟩ (.slice a2 n2 c2)) (some g)) := gb_set8 HG7.out (Nat.le_refl _)
                have HKF : Hid (((((((((w7.setCell ⟨w.heap.size, 0, none⟩ (.int .i64 kk)).setCell ⟨w.heap.size, 1, none⟩ (.slice a0 n0 c0)).setCell ⟨w.heap.size, 2, none⟩ (.slice a1 n1 c1)).setCell ⟨w.heap.size, 3, none⟩ (.int .i64 uid)).setCell ⟨w.heap.size, 4, none⟩ (.int .i64 mode)).setCell ⟨w.heap.size, 5, none⟩ (.int .i64 fl)).setCell ⟨w.heap.size, 6, none⟩ (.int .i64 si)).setCell ⟨w.heap.size, 7, none⟩ (.slice a2 n2 c2)).heap[w.heap.size]? = some (.cells #[.int .i64 kk, .slice a0 n0 c0, .slice a1 n1 c1, .int .i64 uid, .int .i64 mode, .int .i64 fl, .int .i64 si, .slice a2 n2 c2] 24 (0, 0))) := box_set (i := 7) (box_set (i := 6) (box_set (i := 5) (box_set (i := 4) (box_set (i := 3) (box_set (i := 2) (box_set (i := 1) (box_set (i := 0) HK7.out)))))))
                obtain ⟨d0, d1, d2, d3, d4, d5, d6, d7, dl⟩ := box8l hcc
                obtain ⟨y0, y1, y2, y3, y4, y5, y6, y7, yl⟩ := box8l HK7.out
                obtain ⟨yz, -⟩ := box8z HK7.out
                clear hgr hrs hcc r0 r1 r2 h1 h2
                go_wp2
                obtain ⟨f0, f1, f2, f3, f4, f5, f6, f7, -⟩ := box8l HKF.out
                refine bodyPost_ret (v := .agg #[.int .i64 kk, .slice a0 n0 c0, .slice a1 n1 c1, .int .i64 uid, .int .i64 mode, .int .i64 fl, .int .i64 si, .slice a2 n2 c2]) (by simp [results, Tryz.results25, go_sem, f0, f1, f2, f3, f4, f5, f6, f7]) rfl ?_
                rw [HRE.out]
                exact ⟨HGF.out, _, rfl, HX.out⟩
              | cons t r =>
                have HRE : Hid (res = .error (3, t.p)) := by show _ = _; rw [HRES.out]; simp [rdI, HLX.out, cmdI, HWM.out, HRR.out, endM, Except.bind]
                have hd0 : decide (0 < (t :: r).length) = true := by simp
                rw [hd0]
                clear hd0
                obtain ⟨tb, off, cap, xa, xn, xk, rfl, h1, h2, hb, hSb, f0, f1, f2, f3, -, -, -⟩ := HRI.out.rs.toks.head
                obtain ⟨c0, c1, c2, c3, cz, cl⟩ := tab4 HRI.out.rs.lr
                go_wp2_with fail
                refine (giveUp_r g _ _ 0 0 3 t.p ea _ HRI.out.rs.lr (HEN.out.gave.below HRI.out.rs.bel) HEN.out.ne).mono ?_
                rintro e w8 ⟨rfl, hbad, hG⟩
                have HF : Hid (Bad w8 g 3 t.p ∧ w.grownBy w8 (some g)) := ⟨hbad, gb_trans HG7.out hG⟩
                clear hbad hG
                go_wp2
                refine ⟨rfl, ?_⟩
                rw [HRE.out]
                exact ⟨HF.out.2, rfl, HF.out.1⟩
          · skip
            have hrd := readAppend_r g w5.heap.size (w5.heap.size + 1) la l.length lc tv1 ts1 S ea w0 w6 HEN.out HPL.out HR6.out HC6.out hok1 hl
            obtain ⟨e0, e1, e2⟩ := formAt2 HF6.out
            go_wp2_with fail
            refine hrd.mono ?_
            rintro e w7 hP
            cases hrr : readI l.length 2 ts1 with
            | error p =>
              rw [hrr] at hP
              obtain ⟨rfl, hgr, hbad⟩ := hP
              have HRE : Hid (res = .error (3, p)) := by show _ = _; rw [HRES.out]; simp [rdI, HLX.out, cmdI, HWM.out, hrr, endM, Except.bind]
              have HF : Hid (w.grownBy w7 (some g) ∧ Bad w7 g 3 p) := ⟨gb_gr2 HG6.out hgr (by omega), hbad⟩
              clear hrr hgr hbad hrd
              go_wp2
              refine ⟨rfl, ?_⟩
              rw [HRE.out]
              exact ⟨HF.out.1, rfl, HF.out.2⟩
            | ok p =>
              rw [hrr] at hP
              obtain ⟨tv2, rfl, hRI⟩ := hP
              have HRI : Hid (RI w0 w6 w7 g w5.heap.size (w5.heap.size + 1) S (.slice la l.length lc) tv2 p.2 p.1) := hRI
              have HG7 : Hid (w.grownBy w7 (some g)) := gb_gr2 HG6.out hRI.gr (by omega)
              have HRR : Hid (readI l.length 2 ts1 = .ok p) := hrr
              clear hrr hRI hrd e0 e1 e2
              obtain ⟨C, ts2⟩ := p
              simp only at HRI
              go_wp2_with fail
              refine (more_r g _ tv2 ts2 S w0 w7 0 0 HRI.out.rs.lr HRI.out.rs.toks).mono ?_
              rintro e w7 ⟨rfl, rfl⟩
              cases ts2 with
              | nil =>
                have HRE : Hid (res = .ok C) := by show _ = _; rw [HRES.out]; simp [rdI, HLX.out, cmdI, HWM.out, HRR.out, endM, Except.bind]
                have hd0 : decide (0 < ([] : List TokD).length) = false := rfl
                rw [hd0]
                clear hd0
                obtain ⟨hgr, hrs, a0, n0, c0, a1, n1, c1, a2, n2, c2, T0, hcc, r0, r1, r2, h1, h2⟩ := HRI.out
                have HK7 : Hid (w7.heap[w.heap.size]? = some (.cells #[.int .i64 0, .slice none 0 0, .slice none 0 0, .int .i64 0, .int .i64 0, .int .i64 0, .int .i64 0, .slice none 0 0] 24 (0, 0))) := (hgr.block w.heap.size (lt_of_heap HK6.out) (by omega) (by omega)).trans HK6.out
                rw [HSS.out] at r2
                obtain ⟨kk, bx, tt, uid, mode, fl, si, tx⟩ := C
                simp only at hcc r0 r1 r2
                have HX : Hid (CmdX ((((((((w7.setCell ⟨w.heap.size, 0, none⟩ (.int .i64 kk)).setCell ⟨w.heap.size, 1, none⟩ (.slice a0 n0 c0)).setCell ⟨w.heap.size, 2, none⟩ (.slice a1 n1 c1)).setCell ⟨w.heap.size, 3, none⟩ (.int .i64 uid)).setCell ⟨w.heap.size, 4, none⟩ (.int .i64 mode)).setCell ⟨w.heap.size, 5, none⟩ (.int .i64 fl)).setCell ⟨w.heap.size, 6, none⟩ (.int .i64 si)).setCell ⟨w.heap.size, 7, none⟩ (.slice a2 n2 c2)) w.heap.size ((((((((w7.setCell ⟨w.heap.size, 0, none⟩ (.int .i64 kk)).setCell ⟨w.heap.size, 1, none⟩ (.slice a0 n0 c0)).setCell ⟨w.heap.size, 2, none⟩ (.slice a1 n1 c1)).setCell ⟨w.heap.size, 3, none⟩ (.int .i64 uid)).setCell ⟨w.heap.size, 4, none⟩ (.int .i64 mode)).setCell ⟨w.heap.size, 5, none⟩ (.int .i64 fl)).setCell ⟨w.heap.size, 6, none⟩ (.int .i64 si)).setCell ⟨w.heap.size, 7, none⟩ (.slice a2 n2 c2)).heap.size (.agg #[.int .i64 kk, .slice a0 n0 c0, .slice a1 n1 c1, .int .i64 uid, .int .i64 mode, .int .i64 fl, .int .i64 si, .slice a2 n2 c2]) ⟨kk, bx, tt, uid, mode, fl, si, tx⟩) := by
                  have hz := size8 w7 w.heap.size (.int .i64 kk) (.slice a0 n0 c0) (.slice a1 n1 c1) (.int .i64 uid) (.int .i64 mode) (.int .i64 fl) (.int .i64 si) (.slice a2 n2 c2)
                  refine ⟨_, _, _, w1.heap.size, T0, rfl, (row_set8 r2.row (.inl (by omega))).wide (by omega) (Nat.le_refl _), row_set8 (r0.wide (show w1.heap.size ≤ w5.heap.size + 1 by omega) (Nat.le_refl _)) (.inl (by omega)), ?_, by omega, by omega, by rw [hz]; omega⟩
                  rw [hz]; exact row_set8 r1 (.inl (by omega))
                have HGF : Hid (w.grownBy ((((((((w7.setCell ⟨w.heap.size, 0, none⟩ (.int .i64 kk)).setCell ⟨w.heap.size, 1, none⟩ (.slice a0 n0 c0)).setCell ⟨w.heap.size, 2, none⟩ (.slice a1 n1 c1)).setCell ⟨w.heap.size, 3, none⟩ (.int .i64 uid)).setCell ⟨w.heap.size, 4, none⟩ (.int .i64 mode)).setCell ⟨w.heap.size, 5, none⟩ (.int .i64 fl)).setCell ⟨w.heap.size, 6, none⟩ (.int .i64 si)).setCell ⟨w.heap.size, 7, none⟩ (.slice a2 n2 c2)) (some g)) := gb_set8 HG7.out (Nat.le_refl _)
                have HKF : Hid (((((((((w7.setCell ⟨w.heap.size, 0, none⟩ (.int .i64 kk)).setCell ⟨w.heap.size, 1, none⟩ (.slice a0 n0 c0)).setCell ⟨w.heap.size, 2, none⟩ (.slice a1 n1 c1)).setCell ⟨w.heap.size, 3, none⟩ (.int .i64 uid)).setCell ⟨w.heap.size, 4, none⟩ (.int .i64 mode)).setCell ⟨w.heap.size, 5, none⟩ (.int .i64 fl)).setCell ⟨w.heap.size, 6, none⟩ (.int .i64 si)).setCell ⟨w.heap.size, 7, none⟩ (.slice a2 n2 c2)).heap[w.heap.size]? = some (.cells #[.int .i64 kk, .slice a0 n0 c0, .slice a1 n1 c1, .int .i64 uid, .int .i64 mode, .int .i64 fl, .int .i64 si, .slice a2 n2 c2] 24 (0, 0))) := box_set (i := 7) (box_set (i := 6) (box_set (i := 5) (box_set (i := 4) (box_set (i := 3) (box_set (i := 2) (box_set (i := 1) (box_set (i := 0) HK7.out)))))))
                obtain ⟨d0, d1, d2, d3, d4, d5, d6, d7, dl⟩ := box8l hcc
                obtain ⟨y0, y1, y2, y3, y4, y5, y6, y7, yl⟩ := box8l HK7.out
                obtain ⟨yz, -⟩ := box8z HK7.out
                clear hgr hrs hcc r0 r1 r2 h1 h2
                go_wp2
                obtain ⟨f0, f1, f2, f3, f4, f5, f6, f7, -⟩ := box8l HKF.out
                refine bodyPost_ret (v := .agg #[.int .i64 kk, .slice a0 n0 c0, .slice a1 n1 c1, .int .i64 uid, .int .i64 mode, .int .i64 fl, .int .i64 si, .slice a2 n2 c2]) (by simp [results, Tryz.results25, go_sem, f0, f1, f2, f3, f4, f5, f6, f7]) rfl ?_
                rw [HRE.out]
                exact ⟨HGF.out, _, rfl, HX.out⟩
              | cons t r =>
                have HRE : Hid (res = .error (3, t.p)) := by show _ = _; rw [HRES.out]; simp [rdI, HLX.out, cmdI, HWM.out, HRR.out, endM, Except.bind]
                have hd0 : decide (0 < (t :: r).length) = true := by simp
                rw [hd0]
                clear hd0
                obtain ⟨tb, off, cap, xa, xn, xk, rfl, h1, h2, hb, hSb, f0, f1, f2, f3, -, -, -⟩ := HRI.out.rs.toks.head
                obtain ⟨c0, c1, c2, c3, cz, cl⟩ := tab4 HRI.out.rs.lr
                go_wp2_with fail
                refine (giveUp_r g _ _ 0 0 3 t.p ea _ HRI.out.rs.lr (HEN.out.gave.below HRI.out.rs.bel) HEN.out.ne).mono ?_
                rintro e w8 ⟨rfl, hbad, hG⟩
                have HF : Hid (Bad w8 g 3 t.p ∧ w.grownBy w8 (some g)) := ⟨hbad, gb_trans HG7.out hG⟩
                clear hbad hG
                go_wp2
                refine ⟨rfl, ?_⟩
                rw [HRE.out]
                exact ⟨HF.out.2, rfl, HF.out.1⟩
          · skip
            have hrd := readStore_r g w5.heap.size (w5.heap.size + 1) la l.length lc tv1 ts1 S ea w0 w6 HEN.out HPL.out HR6.out HC6.out hok1 hl
            obtain ⟨e0, e1, e2⟩ := formAt3 HF6.out
            go_wp2_with fail
            refine hrd.mono ?_
            rintro e w7 hP
            cases hrr : readI l.length 3 ts1 with
            | error p =>
              rw [hrr] at hP
              obtain ⟨rfl, hgr, hbad⟩ := hP
              have HRE : Hid (res = .error (3, p)) := by show _ = _; rw [HRES.out]; simp [rdI, HLX.out, cmdI, HWM.out, hrr, endM, Except.bind]
              have HF : Hid (w.grownBy w7 (some g) ∧ Bad w7 g 3 p) := ⟨gb_gr2 HG6.out hgr (by omega), hbad⟩
              clear hrr hgr hbad hrd
              go_wp2
              refine ⟨rfl, ?_⟩
              rw [HRE.out]
              exact ⟨HF.out.1, rfl, HF.out.2⟩
            | ok p =>
              rw [hrr] at hP
              obtain ⟨tv2, rfl, hRI⟩ := hP
              have HRI : Hid (RI w0 w6 w7 g w5.heap.size (w5.heap.size + 1) S (.slice la l.length lc) tv2 p.2 p.1) := hRI
              have HG7 : Hid (w.grownBy w7 (some g)) := gb_gr2 HG6.out hRI.gr (by omega)
              have HRR : Hid (readI l.length 3 ts1 = .ok p) := hrr
              clear hrr hRI hrd e0 e1 e2
              obtain ⟨C, ts2⟩ := p
              simp only at HRI
              go_wp2_with fail
              refine (more_r g _ tv2 ts2 S w0 w7 0 0 HRI.out.rs.lr HRI.out.rs.toks).mono ?_
              rintro e w7 ⟨rfl, rfl⟩
              cases ts2 with
              | nil =>
                have HRE : Hid (res = .ok C) := by show _ = _; rw [HRES.out]; simp [rdI, HLX.out, cmdI, HWM.out, HRR.out, endM, Except.bind]
                have hd0 : decide (0 < ([] : List TokD).length) = false := rfl
                rw [hd0]
                clear hd0
                obtain ⟨hgr, hrs, a0, n0, c0, a1, n1, c1, a2, n2, c2, T0, hcc, r0, r1, r2, h1, h2⟩ := HRI.out
                have HK7 : Hid (w7.heap[w.heap.size]? = some (.cells #[.int .i64 0, .slice none 0 0, .slice none 0 0, .int .i64 0, .int .i64 0, .int .i64 0, .int .i64 0, .slice none 0 0] 24 (0, 0))) := (hgr.block w.heap.size (lt_of_heap HK6.out) (by omega) (by omega)).trans HK6.out
                rw [HSS.out] at r2
                obtain ⟨kk, bx, tt, uid, mode, fl, si, tx⟩ := C
                simp only at hcc r0 r1 r2
                have HX : Hid (CmdX ((((((((w7.setCell ⟨w.heap.size, 0, none⟩ (.int .i64 kk)).setCell ⟨w.heap.size, 1, none⟩ (.slice a0 n0 c0)).setCell ⟨w.heap.size, 2, none⟩ (.slice a1 n1 c1)).setCell ⟨w.heap.size, 3, none⟩ (.int .i64 uid)).setCell ⟨w.heap.size, 4, none⟩ (.int .i64 mode)).setCell ⟨w.heap.size, 5, none⟩ (.int .i64 fl)).setCell ⟨w.heap.size, 6, none⟩ (.int .i64 si)).setCell ⟨w.heap.size, 7, none⟩ (.slice a2 n2 c2)) w.heap.size ((((((((w7.setCell ⟨w.heap.size, 0, none⟩ (.int .i64 kk)).setCell ⟨w.heap.size, 1, none⟩ (.slice a0 n0 c0)).setCell ⟨w.heap.size, 2, none⟩ (.slice a1 n1 c1)).setCell ⟨w.heap.size, 3, none⟩ (.int .i64 uid)).setCell ⟨w.heap.size, 4, none⟩ (.int .i64 mode)).setCell ⟨w.heap.size, 5, none⟩ (.int .i64 fl)).setCell ⟨w.heap.size, 6, none⟩ (.int .i64 si)).setCell ⟨w.heap.size, 7, none⟩ (.slice a2 n2 c2)).heap.size (.agg #[.int .i64 kk, .slice a0 n0 c0, .slice a1 n1 c1, .int .i64 uid, .int .i64 mode, .int .i64 fl, .int .i64 si, .slice a2 n2 c2]) ⟨kk, bx, tt, uid, mode, fl, si, tx⟩) := by
                  have hz := size8 w7 w.heap.size (.int .i64 kk) (.slice a0 n0 c0) (.slice a1 n1 c1) (.int .i64 uid) (.int .i64 mode) (.int .i64 fl) (.int .i64 si) (.slice a2 n2 c2)
                  refine ⟨_, _, _, w1.heap.size, T0, rfl, (row_set8 r2.row (.inl (by omega))).wide (by omega) (Nat.le_refl _), row_set8 (r0.wide (show w1.heap.size ≤ w5.heap.size + 1 by omega) (Nat.le_refl _)) (.inl (by omega)), ?_, by omega, by omega, by rw [hz]; omega⟩
                  rw [hz]; exact row_set8 r1 (.inl (by omega))
                have HGF : Hid (w.grownBy ((((((((w7.setCell ⟨w.heap.size, 0, none⟩ (.int .i64 kk)).setCell ⟨w.heap.size, 1, none⟩ (.slice a0 n0 c0)).setCell ⟨w.heap.size, 2, none⟩ (.slice a1 n1 c1)).setCell ⟨w.heap.size, 3, none⟩ (.int .i64 uid)).setCell ⟨w.heap.size, 4, none⟩ (.int .i64 mode)).setCell ⟨w.heap.size, 5, none⟩ (.int .i64 fl)).setCell ⟨w.heap.size, 6, none⟩ (.int .i64 si)).setCell ⟨w.heap.size, 7, none⟩ (.slice a2 n2 c2)) (some g)) := gb_set8 HG7.out (Nat.le_refl _)
                have HKF : Hid (((((((((w7.setCell ⟨w.heap.size, 0, none⟩ (.int .i64 kk)).setCell ⟨w.heap.size, 1, none⟩ (.slice a0 n0 c0)).setCell ⟨w.heap.size, 2, none⟩ (.slice a1 n1 c1)).setCell ⟨w.heap.size, 3, none⟩ (.int .i64 uid)).setCell ⟨w.heap.size, 4, none⟩ (.int .i64 mode)).setCell ⟨w.heap.size, 5, none⟩ (.int .i64 fl)).setCell ⟨w.heap.size, 6, none⟩ (.int .i64 si)).setCell ⟨w.heap.size, 7, none⟩ (.slice a2 n2 c2)).heap[w.heap.size]? = some (.cells #[.int .i64 kk, .slice a0 n0 c0, .slice a1 n1 c1, .int .i64 uid, .int .i64 mode, .int .i64 fl, .int .i64 si, .slice a2 n2 c2] 24 (0, 0))) := box_set (i := 7) (box_set (i := 6) (box_set (i := 5) (box_set (i := 4) (box_set (i := 3) (box_set (i := 2) (box_set (i := 1) (box_set (i := 0) HK7.out)))))))
                obtain ⟨d0, d1, d2, d3, d4, d5, d6, d7, dl⟩ := box8l hcc
                obtain ⟨y0, y1, y2, y3, y4, y5, y6, y7, yl⟩ := box8l HK7.out
                obtain ⟨yz, -⟩ := box8z HK7.out
                clear hgr hrs hcc r0 r1 r2 h1 h2
                go_wp2
                obtain ⟨f0, f1, f2, f3, f4, f5, f6, f7, -⟩ := box8l HKF.out
                refine bodyPost_ret (v := .agg #[.int .i64 kk, .slice a0 n0 c0, .slice a1 n1 c1, .int .i64 uid, .int .i64 mode, .int .i64 fl, .int .i64 si, .slice a2 n2 c2]) (by simp [results, Tryz.results25, go_sem, f0, f1, f2, f3, f4, f5, f6, f7]) rfl ?_
                rw [HRE.out]
                exact ⟨HGF.out, _, rfl, HX.out⟩
              | cons t r =>
                have HRE : Hid (res = .error (3, t.p)) := by show _ = _; rw [HRES.out]; simp [rdI, HLX.out, cmdI, HWM.out, HRR.out, endM, Except.bind]
                have hd0 : decide (0 < (t :: r).length) = true := by simp
                rw [hd0]
                clear hd0
                obtain ⟨tb, off, cap, xa, xn, xk, rfl, h1, h2, hb, hSb, f0, f1, f2, f3, -, -, -⟩ := HRI.out.rs.toks.head
                obtain ⟨c0, c1, c2, c3, cz, cl⟩ := tab4 HRI.out.rs.lr
                go_wp2_with fail
                refine (giveUp_r g _ _ 0 0 3 t.p ea _ HRI.out.rs.lr (HEN.out.gave.below HRI.out.rs.bel) HEN.out.ne).mono ?_
                rintro e w8 ⟨rfl, hbad, hG⟩
                have HF : Hid (Bad w8 g 3 t.p ∧ w.grownBy w8 (some g)) := ⟨hbad, gb_trans HG7.out hG⟩
                clear hbad hG
                go_wp2
                refine ⟨rfl, ?_⟩
                rw [HRE.out]
                exact ⟨HF.out.2, rfl, HF.out.1⟩
          · skip
            have hrd := readBox_r g w5.heap.size (w5.heap.size + 1) la l.length lc tv1 ts1 S ea 4 w0 w6 HEN.out HPL.out HR6.out HC6.out hok1 hl (by decide)
            obtain ⟨e0, e1, e2⟩ := formAt4 HF6.out
            go_wp2_with fail
            refine hrd.mono ?_
            rintro e w7 hP
            cases hrr : readI l.length 4 ts1 with
            | error p =>
              rw [hrr] at hP
              obtain ⟨rfl, hgr, hbad⟩ := hP
              have HRE : Hid (res = .error (3, p)) := by show _ = _; rw [HRES.out]; simp [rdI, HLX.out, cmdI, HWM.out, hrr, endM, Except.bind]
              have HF : Hid (w.grownBy w7 (some g) ∧ Bad w7 g 3 p) := ⟨gb_gr2 HG6.out hgr (by omega), hbad⟩
              clear hrr hgr hbad hrd
              go_wp2
              refine ⟨rfl, ?_⟩
              rw [HRE.out]
              exact ⟨HF.out.1, rfl, HF.out.2⟩
            | ok p =>
              rw [hrr] at hP
              obtain ⟨tv2, rfl, hRI⟩ := hP
              have HRI : Hid (RI w0 w6 w7 g w5.heap.size (w5.heap.size + 1) S (.slice la l.length lc) tv2 p.2 p.1) := hRI
              have HG7 : Hid (w.grownBy w7 (some g)) := gb_gr2 HG6.out hRI.gr (by omega)
              have HRR : Hid (readI l.length 4 ts1 = .ok p) := hrr
              clear hrr hRI hrd e0 e1 e2
              obtain ⟨C, ts2⟩ := p
              simp only at HRI
              go_wp2_with fail
              refine (more_r g _ tv2 ts2 S w0 w7 0 0 HRI.out.rs.lr HRI.out.rs.toks).mono ?_
              rintro e w7 ⟨rfl, rfl⟩
              cases ts2 with
              | nil =>
                have HRE : Hid (res = .ok C) := by show _ = _; rw [HRES.out]; simp [rdI, HLX.out, cmdI, HWM.out, HRR.out, endM, Except.bind]
                have hd0 : decide (0 < ([] : List TokD).length) = false := rfl
                rw [hd0]
                clear hd0
                obtain ⟨hgr, hrs, a0, n0, c0, a1, n1, c1, a2, n2, c2, T0, hcc, r0, r1, r2, h1, h2⟩ := HRI.out
                have HK7 : Hid (w7.heap[w.heap.size]? = some (.cells #[.int .i64 0, .slice none 0 0, .slice none 0 0, .int .i64 0, .int .i64 0, .int .i64 0, .int .i64 0, .slice none 0 0] 24 (0, 0))) := (hgr.block w.heap.size (lt_of_heap HK6.out) (by omega) (by omega)).trans HK6.out
                rw [HSS.out] at r2
                obtain ⟨kk, bx, tt, uid, mode, fl, si, tx⟩ := C
                simp only at hcc r0 r1 r2
                have HX : Hid (CmdX ((((((((w7.setCell ⟨w.heap.size, 0, none⟩ (.int .i64 kk)).setCell ⟨w.heap.size, 1, none⟩ (.slice a0 n0 c0)).setCell ⟨w.heap.size, 2, none⟩ (.slice a1 n1 c1)).setCell ⟨w.heap.size, 3, none⟩ (.int .i64 uid)).setCell ⟨w.heap.size, 4, none⟩ (.int .i64 mode)).setCell ⟨w.heap.size, 5, none⟩ (.int .i64 fl)).setCell ⟨w.heap.size, 6, none⟩ (.int .i64 si)).setCell ⟨w.heap.size, 7, none⟩ (.slice a2 n2 c2)) w.heap.size ((((((((w7.setCell ⟨w.heap.size, 0, none⟩ (.int .i64 kk)).setCell ⟨w.heap.size, 1, none⟩ (.slice a0 n0 c0)).setCell ⟨w.heap.size, 2, none⟩ (.slice a1 n1 c1)).setCell ⟨w.heap.size, 3, none⟩ (.int .i64 uid)).setCell ⟨w.heap.size, 4, none⟩ (.int .i64 mode)).setCell ⟨w.heap.size, 5, none⟩ (.int .i64 fl)).setCell ⟨w.heap.size, 6, none⟩ (.int .i64 si)).setCell ⟨w.heap.size, 7, none⟩ (.slice a2 n2 c2)).heap.size (.agg #[.int .i64 kk, .slice a0 n0 c0, .slice a1 n1 c1, .int .i64 uid, .int .i64 mode, .int .i64 fl, .int .i64 si, .slice a2 n2 c2]) ⟨kk, bx, tt, uid, mode, fl, si, tx⟩) := by
                  have hz := size8 w7 w.heap.size (.int .i64 kk) (.slice a0 n0 c0) (.slice a1 n1 c1) (.int .i64 uid) (.int .i64 mode) (.int .i64 fl) (.int .i64 si) (.slice a2 n2 c2)
                  refine ⟨_, _, _, w1.heap.size, T0, rfl, (row_set8 r2.row (.inl (by omega))).wide (by omega) (Nat.le_refl _), row_set8 (r0.wide (show w1.heap.size ≤ w5.heap.size + 1 by omega) (Nat.le_refl _)) (.inl (by omega)), ?_, by omega, by omega, by rw [hz]; omega⟩
                  rw [hz]; exact row_set8 r1 (.inl (by omega))
                have HGF : Hid (w.grownBy ((((((((w7.setCell ⟨w.heap.size, 0, none⟩ (.int .i64 kk)).setCell ⟨w.heap.size, 1, none⟩ (.slice a0 n0 c0)).setCell ⟨w.heap.size, 2, none⟩ (.slice a1 n1 c1)).setCell ⟨w.heap.size, 3, none⟩ (.int .i64 uid)).setCell ⟨w.heap.size, 4, none⟩ (.int .i64 mode)).setCell ⟨w.heap.size, 5, none⟩ (.int .i64 fl)).setCell ⟨w.heap.size, 6, none⟩ (.int .i64 si)).setCell ⟨w.heap.size, 7, none⟩ (.slice a2 n2 c2)) (some g)) := gb_set8 HG7.out (Nat.le_refl _)
                have HKF : Hid (((((((((w7.setCell ⟨w.heap.size, 0, none⟩ (.int .i64 kk)).setCell ⟨w.heap.size, 1, none⟩ (.slice a0 n0 c0)).setCell ⟨w.heap.size, 2, none⟩ (.slice a1 n1 c1)).setCell ⟨w.heap.size, 3, none⟩ (.int .i64 uid)).setCell ⟨w.heap.size, 4, none⟩ (.int .i64 mode)).setCell ⟨w.heap.size, 5, none⟩ (.int .i64 fl)).setCell ⟨w.heap.size, 6, none⟩ (.int .i64 si)).setCell ⟨w.heap.size, 7, none⟩ (.slice a2 n2 c2)).heap[w.heap.size]? = some (.cells #[.int .i64 kk, .slice a0 n0 c0, .slice a1 n1 c1, .int .i64 uid, .int .i64 mode, .int .i64 fl, .int .i64 si, .slice a2 n2 c2] 24 (0, 0))) := box_set (i := 7) (box_set (i := 6) (box_set (i := 5) (box_set (i := 4) (box_set (i := 3) (box_set (i := 2) (box_set (i := 1) (box_set (i := 0) HK7.out)))))))
                obtain ⟨d0, d1, d2, d3, d4, d5, d6, d7, dl⟩ := box8l hcc
                obtain ⟨y0, y1, y2, y3, y4, y5, y6, y7, yl⟩ := box8l HK7.out
                obtain ⟨yz, -⟩ := box8z HK7.out
                clear hgr hrs hcc r0 r1 r2 h1 h2
                go_wp2
                obtain ⟨f0, f1, f2, f3, f4, f5, f6, f7, -⟩ := box8l HKF.out
                refine bodyPost_ret (v := .agg #[.int .i64 kk, .slice a0 n0 c0, .slice a1 n1 c1, .int .i64 uid, .int .i64 mode, .int .i64 fl, .int .i64 si, .slice a2 n2 c2]) (by simp [results, Tryz.results25, go_sem, f0, f1, f2, f3, f4, f5, f6, f7]) rfl ?_
                rw [HRE.out]
                exact ⟨HGF.out, _, rfl, HX.out⟩
              | cons t r =>
                have HRE : Hid (res = .error (3, t.p)) := by show _ = _; rw [HRES.out]; simp [rdI, HLX.out, cmdI, HWM.out, HRR.out, endM, Except.bind]
                have hd0 : decide (0 < (t :: r).length) = true := by simp
                rw [hd0]
                clear hd0
                obtain ⟨tb, off, cap, xa, xn, xk, rfl, h1, h2, hb, hSb, f0, f1, f2, f3, -, -, -⟩ := HRI.out.rs.toks.head
                obtain ⟨c0, c1, c2, c3, cz, cl⟩ := tab4 HRI.out.rs.lr
                go_wp2_with fail
                refine (giveUp_r g _ _ 0 0 3 t.p ea _ HRI.out.rs.lr (HEN.out.gave.below HRI.out.rs.bel) HEN.out.ne).mono ?_
                rintro e w8 ⟨rfl, hbad, hG⟩
                have HF : Hid (Bad w8 g 3 t.p ∧ w.grownBy w8 (some g)) := ⟨hbad, gb_trans HG7.out hG⟩
                clear hbad hG
                go_wp2
                refine ⟨rfl, ?_⟩
                rw [HRE.out]
                exact ⟨HF.out.2, rfl, HF.out.1⟩
          · skip
            have hrd := readFetch_r g w5.heap.size (w5.heap.size + 1) la l.length lc tv1 ts1 S ea w0 w6 HEN.out HPL.out HR6.out HC6.out hok1 hl
            obtain ⟨e0, e1, e2⟩ := formAt5 HF6.out
            go_wp2_with fail
            refine hrd.mono ?_
            rintro e w7 hP
            cases hrr : readI l.length 5 ts1 with
            | error p =>
              rw [hrr] at hP
              obtain ⟨rfl, hgr, hbad⟩ := hP
              have HRE : Hid (res = .error (3, p)) := by show _ = _; rw [HRES.out]; simp [rdI, HLX.out, cmdI, HWM.out, hrr, endM, Except.bind]
              have HF : Hid (w.grownBy w7 (some g) ∧ Bad w7 g 3 p) := ⟨gb_gr2 HG6.out hgr (by omega), hbad⟩
              clear hrr hgr hbad hrd
              go_wp2
              refine ⟨rfl, ?_⟩
              rw [HRE.out]
              exact ⟨HF.out.1, rfl, HF.out.2⟩
            | ok p =>
              rw [hrr] at hP
              obtain ⟨tv2, rfl, hRI⟩ := hP
              have HRI : Hid (RI w0 w6 w7 g w5.heap.size (w5.heap.size + 1) S (.slice la l.length lc) tv2 p.2 p.1) := hRI
              have HG7 : Hid (w.grownBy w7 (some g)) := gb_gr2 HG6.out hRI.gr (by omega)
              have HRR : Hid (readI l.length 5 ts1 = .ok p) := hrr
              clear hrr hRI hrd e0 e1 e2
              obtain ⟨C, ts2⟩ := p
              simp only at HRI
              go_wp2_with fail
              refine (more_r g _ tv2 ts2 S w0 w7 0 0 HRI.out.rs.lr HRI.out.rs.toks).mono ?_
              rintro e w7 ⟨rfl, rfl⟩
              cases ts2 with
              | nil =>
                have HRE : Hid (res = .ok C) := by show _ = _; rw [HRES.out]; simp [rdI, HLX.out, cmdI, HWM.out, HRR.out, endM, Except.bind]
                have hd0 : decide (0 < ([] : List TokD).length) = false := rfl
                rw [hd0]
                clear hd0
                obtain ⟨hgr, hrs, a0, n0, c0, a1, n1, c1, a2, n2, c2, T0, hcc, r0, r1, r2, h1, h2⟩ := HRI.out
                have HK7 : Hid (w7.heap[w.heap.size]? = some (.cells #[.int .i64 0, .slice none 0 0, .slice none 0 0, .int .i64 0, .int .i64 0, .int .i64 0, .int .i64 0, .slice none 0 0] 24 (0, 0))) := (hgr.block w.heap.size (lt_of_heap HK6.out) (by omega) (by omega)).trans HK6.out
                rw [HSS.out] at r2
                obtain ⟨kk, bx, tt, uid, mode, fl, si, tx⟩ := C
                simp only at hcc r0 r1 r2
                have HX : Hid (CmdX ((((((((w7.setCell ⟨w.heap.size, 0, none⟩ (.int .i64 kk)).setCell ⟨w.heap.size, 1, none⟩ (.slice a0 n0 c0)).setCell ⟨w.heap.size, 2, none⟩ (.slice a1 n1 c1)).setCell ⟨w.heap.size, 3, none⟩ (.int .i64 uid)).setCell ⟨w.heap.size, 4, none⟩ (.int .i64 mode)).setCell ⟨w.heap.size, 5, none⟩ (.int .i64 fl)).setCell ⟨w.heap.size, 6, none⟩ (.int .i64 si)).setCell ⟨w.heap.size, 7, none⟩ (.slice a2 n2 c2)) w.heap.size ((((((((w7.setCell ⟨w.heap.size, 0, none⟩ (.int .i64 kk)).setCell ⟨w.heap.size, 1, none⟩ (.slice a0 n0 c0)).setCell ⟨w.heap.size, 2, none⟩ (.slice a1 n1 c1)).setCell ⟨w.heap.size, 3, none⟩ (.int .i64 uid)).setCell ⟨w.heap.size, 4, none⟩ (.int .i64 mode)).setCell ⟨w.heap.size, 5, none⟩ (.int .i64 fl)).setCell ⟨w.heap.size, 6, none⟩ (.int .i64 si)).setCell ⟨w.heap.size, 7, none⟩ (.slice a2 n2 c2)).heap.size (.agg #[.int .i64 kk, .slice a0 n0 c0, .slice a1 n1 c1, .int .i64 uid, .int .i64 mode, .int .i64 fl, .int .i64 si, .slice a2 n2 c2]) ⟨kk, bx, tt, uid, mode, fl, si, tx⟩) := by
                  have hz := size8 w7 w.heap.size (.int .i64 kk) (.slice a0 n0 c0) (.slice a1 n1 c1) (.int .i64 uid) (.int .i64 mode) (.int .i64 fl) (.int .i64 si) (.slice a2 n2 c2)
                  refine ⟨_, _, _, w1.heap.size, T0, rfl, (row_set8 r2.row (.inl (by omega))).wide (by omega) (Nat.le_refl _), row_set8 (r0.wide (show w1.heap.size ≤ w5.heap.size + 1 by omega) (Nat.le_refl _)) (.inl (by omega)), ?_, by omega, by omega, by rw [hz]; omega⟩
                  rw [hz]; exact row_set8 r1 (.inl (by omega))
                have HGF : Hid (w.grownBy ((((((((w7.setCell ⟨w.heap.size, 0, none⟩ (.int .i64 kk)).setCell ⟨w.heap.size, 1, none⟩ (.slice a0 n0 c0)).setCell ⟨w.heap.size, 2, none⟩ (.slice a1 n1 c1)).setCell ⟨w.heap.size, 3, none⟩ (.int .i64 uid)).setCell ⟨w.heap.size, 4, none⟩ (.int .i64 mode)).setCell ⟨w.heap.size, 5, none⟩ (.int .i64 fl)).setCell ⟨w.heap.size, 6, none⟩ (.int .i64 si)).setCell ⟨w.heap.size, 7, none⟩ (.slice a2 n2 c2)) (some g)) := gb_set8 HG7.out (Nat.le_refl _)
                have HKF : Hid (((((((((w7.setCell ⟨w.heap.size, 0, none⟩ (.int .i64 kk)).setCell ⟨w.heap.size, 1, none⟩ (.slice a0 n0 c0)).setCell ⟨w.heap.size, 2, none⟩ (.slice a1 n1 c1)).setCell ⟨w.heap.size, 3, none⟩ (.int .i64 uid)).setCell ⟨w.heap.size, 4, none⟩ (.int .i64 mode)).setCell ⟨w.heap.size, 5, none⟩ (.int .i64 fl)).setCell ⟨w.heap.size, 6, none⟩ (.int .i64 si)).setCell ⟨w.heap.size, 7, none⟩ (.slice a2 n2 c2)).heap[w.heap.size]? = some (.cells #[.int .i64 kk, .slice a0 n0 c0, .slice a1 n1 c1, .int .i64 uid, .int .i64 mode, .int .i64 fl, .int .i64 si, .slice a2 n2 c2] 24 (0, 0))) := box_set (i := 7) (box_set (i := 6) (box_set (i := 5) (box_set (i := 4) (box_set (i := 3) (box_set (i := 2) (box_set (i := 1) (box_set (i := 0) HK7.out)))))))
                obtain ⟨d0, d1, d2, d3, d4, d5, d6, d7, dl⟩ := box8l hcc
                obtain ⟨y0, y1, y2, y3, y4, y5, y6, y7, yl⟩ := box8l HK7.out
                obtain ⟨yz, -⟩ := box8z HK7.out
                clear hgr hrs hcc r0 r1 r2 h1 h2
                go_wp2
                obtain ⟨f0, f1, f2, f3, f4, f5, f6, f7, -⟩ := box8l HKF.out
                refine bodyPost_ret (v := .agg #[.int .i64 kk, .slice a0 n0 c0, .slice a1 n1 c1, .int .i64 uid, .int .i64 mode, .int .i64 fl, .int .i64 si, .slice a2 n2 c2]) (by simp [results, Tryz.results25, go_sem, f0, f1, f2, f3, f4, f5, f6, f7]) rfl ?_
                rw [HRE.out]
                exact ⟨HGF.out, _, rfl, HX.out⟩
              | cons t r =>
                have HRE : Hid (res = .error (3, t.p)) := by show _ = _; rw [HRES.out]; simp [rdI, HLX.out, cmdI, HWM.out, HRR.out, endM, Except.bind]
                have hd0 : decide (0 < (t :: r).length) = true := by simp
                rw [hd0]
                clear hd0
                obtain ⟨tb, off, cap, xa, xn, xk, rfl, h1, h2, hb, hSb, f0, f1, f2, f3, -, -, -⟩ := HRI.out.rs.toks.head
                obtain ⟨c0, c1, c2, c3, cz, cl⟩ := tab4 HRI.out.rs.lr
                go_wp2_with fail
                refine (giveUp_r g _ _ 0 0 3 t.p ea _ HRI.out.rs.lr (HEN.out.gave.below HRI.out.rs.bel) HEN.out.ne).mono ?_
                rintro e w8 ⟨rfl, hbad, hG⟩
                have HF : Hid (Bad w8 g 3 t.p ∧ w.grownBy w8 (some g)) := ⟨hbad, gb_trans HG7.out hG⟩
                clear hbad hG
                go_wp2
                refine ⟨rfl, ?_⟩
                rw [HRE.out]
                exact ⟨HF.out.2, rfl, HF.out.1⟩
          · skip
            have hrd := readCopy_r g w5.heap.size (w5.heap.size + 1) la l.length lc tv1 ts1 S ea w0 w6 HEN.out HPL.out HR6.out HC6.out hok1 hl
            obtain ⟨e0, e1, e2⟩ := formAt6 HF6.out
            go_wp2_with fail
            refine hrd.mono ?_
            rintro e w7 hP
            cases hrr : readI l.length 6 ts1 with
            | error p =>
              rw [hrr] at hP
              obtain ⟨rfl, hgr, hbad⟩ := hP
              have HRE : Hid (res = .error (3, p)) := by show _ = _; rw [HRES.out]; simp [rdI, HLX.out, cmdI, HWM.out, hrr, endM, Except.bind]
              have HF : Hid (w.grownBy w7 (some g) ∧ Bad w7 g 3 p) := ⟨gb_gr2 HG6.out hgr (by omega), hbad⟩
              clear hrr hgr hbad hrd
              go_wp2
              refine ⟨rfl, ?_⟩
              rw [HRE.out]
              exact ⟨HF.out.1, rfl, HF.out.2⟩
            | ok p =>
              rw [hrr] at hP
              obtain ⟨tv2, rfl, hRI⟩ := hP
              have HRI : Hid (RI w0 w6 w7 g w5.heap.size (w5.heap.size + 1) S (.slice la l.length lc) tv2 p.2 p.1) := hRI
              have HG7 : Hid (w.grownBy w7 (some g)) := gb_gr2 HG6.out hRI.gr (by omega)
              have HRR : Hid (readI l.length 6 ts1 = .ok p) := hrr
              clear hrr hRI hrd e0 e1 e2
              obtain ⟨C, ts2⟩ := p
              simp only at HRI
              go_wp2_with fail
              refine (more_r g _ tv2 ts2 S w0 w7 0 0 HRI.out.rs.lr HRI.out.rs.toks).mono ?_
              rintro e w7 ⟨rfl, rfl⟩
              cases ts2 with
              | nil =>
                have HRE : Hid (res = .ok C) := by show _ = _; rw [HRES.out]; simp [rdI, HLX.out, cmdI, HWM.out, HRR.out, endM, Except.bind]
                have hd0 : decide (0 < ([] : List TokD).length) = false := rfl
                rw [hd0]
                clear hd0
                obtain ⟨hgr, hrs, a0, n0, c0, a1, n1, c1, a2, n2, c2, T0, hcc, r0, r1, r2, h1, h2⟩ := HRI.out
                have HK7 : Hid (w7.heap[w.heap.size]? = some (.cells #[.int .i64 0, .slice none 0 0, .slice none 0 0, .int .i64 0, .int .i64 0, .int .i64 0, .int .i64 0, .slice none 0 0] 24 (0, 0))) := (hgr.block w.heap.size (lt_of_heap HK6.out) (by omega) (by omega)).trans HK6.out
                rw [HSS.out] at r2
                obtain ⟨kk, bx, tt, uid, mode, fl, si, tx⟩ := C
                simp only at hcc r0 r1 r2
                have HX : Hid (CmdX ((((((((w7.setCell ⟨w.heap.size, 0, none⟩ (.int .i64 kk)).setCell ⟨w.heap.size, 1, none⟩ (.slice a0 n0 c0)).setCell ⟨w.heap.size, 2, none⟩ (.slice a1 n1 c1)).setCell ⟨w.heap.size, 3, none⟩ (.int .i64 uid)).setCell ⟨w.heap.size, 4, none⟩ (.int .i64 mode)).setCell ⟨w.heap.size, 5, none⟩ (.int .i64 fl)).setCell ⟨w.heap.size, 6, none⟩ (.int .i64 si)).setCell ⟨w.heap.size, 7, none⟩ (.slice a2 n2 c2)) w.heap.size ((((((((w7.setCell ⟨w.heap.size, 0, none⟩ (.int .i64 kk)).setCell ⟨w.heap.size, 1, none⟩ (.slice a0 n0 c0)).setCell ⟨w.heap.size, 2, none⟩ (.slice a1 n1 c1)).setCell ⟨w.heap.size, 3, none⟩ (.int .i64 uid)).setCell ⟨w.heap.size, 4, none⟩ (.int .i64 mode)).setCell ⟨w.heap.size, 5, none⟩ (.int .i64 fl)).setCell ⟨w.heap.size, 6, none⟩ (.int .i64 si)).setCell ⟨w.heap.size, 7, none⟩ (.slice a2 n2 c2)).heap.size (.agg #[.int .i64 kk, .slice a0 n0 c0, .slice a1 n1 c1, .int .i64 uid, .int .i64 mode, .int .i64 fl, .int .i64 si, .slice a2 n2 c2]) ⟨kk, bx, tt, uid, mode, fl, si, tx⟩) := by
                  have hz := size8 w7 w.heap.size (.int .i64 kk) (.slice a0 n0 c0) (.slice a1 n1 c1) (.int .i64 uid) (.int .i64 mode) (.int .i64 fl) (.int .i64 si) (.slice a2 n2 c2)
                  refine ⟨_, _, _, w1.heap.size, T0, rfl, (row_set8 r2.row (.inl (by omega))).wide (by omega) (Nat.le_refl _), row_set8 (r0.wide (show w1.heap.size ≤ w5.heap.size + 1 by omega) (Nat.le_refl _)) (.inl (by omega)), ?_, by omega, by omega, by rw [hz]; omega⟩
                  rw [hz]; exact row_set8 r1 (.inl (by omega))
                have HGF : Hid (w.grownBy ((((((((w7.setCell ⟨w.heap.size, 0, none⟩ (.int .i64 kk)).setCell ⟨w.heap.size, 1, none⟩ (.slice a0 n0 c0)).setCell ⟨w.heap.size, 2, none⟩ (.slice a1 n1 c1)).setCell ⟨w.heap.size, 3, none⟩ (.int .i64 uid)).setCell ⟨w.heap.size, 4, none⟩ (.int .i64 mode)).setCell ⟨w.heap.size, 5, none⟩ (.int .i64 fl)).setCell ⟨w.heap.size, 6, none⟩ (.int .i64 si)).setCell ⟨w.heap.size, 7, none⟩ (.slice a2 n2 c2)) (some g)) := gb_set8 HG7.out (Nat.le_refl _)
                have HKF : Hid (((((((((w7.setCell ⟨w.heap.size, 0, none⟩ (.int .i64 kk)).setCell ⟨w.heap.size, 1, none⟩ (.slice a0 n0 c0)).setCell ⟨w.heap.size, 2, none⟩ (.slice a1 n1 c1)).setCell ⟨w.heap.size, 3, none⟩ (.int .i64 uid)).setCell ⟨w.heap.size, 4, none⟩ (.int .i64 mode)).setCell ⟨w.heap.size, 5, none⟩ (.int .i64 fl)).setCell ⟨w.heap.size, 6, none⟩ (.int .i64 si)).setCell ⟨w.heap.size, 7, none⟩ (.slice a2 n2 c2)).heap[w.heap.size]? = some (.cells #[.int .i64 kk, .slice a0 n0 c0, .slice a1 n1 c1, .int .i64 uid, .int .i64 mode, .int .i64 fl, .int .i64 si, .slice a2 n2 c2] 24 (0, 0))) := box_set (i := 7) (box_set (i := 6) (box_set (i := 5) (box_set (i := 4) (box_set (i := 3) (box_set (i := 2) (box_set (i := 1) (box_set (i := 0) HK7.out)))))))
                obtain ⟨d0, d1, d2, d3, d4, d5, d6, d7, dl⟩ := box8l hcc
                obtain ⟨y0, y1, y2, y3, y4, y5, y6, y7, yl⟩ := box8l HK7.out
                obtain ⟨yz, -⟩ := box8z HK7.out
                clear hgr hrs hcc r0 r1 r2 h1 h2
                go_wp2
                obtain ⟨f0, f1, f2, f3, f4, f5, f6, f7, -⟩ := box8l HKF.out
                refine bodyPost_ret (v := .agg #[.int .i64 kk, .slice a0 n0 c0, .slice a1 n1 c1, .int .i64 uid, .int .i64 mode, .int .i64 fl, .int .i64 si, .slice a2 n2 c2]) (by simp [results, Tryz.results25, go_sem, f0, f1, f2, f3, f4, f5, f6, f7]) rfl ?_
                rw [HRE.out]
                exact ⟨HGF.out, _, rfl, HX.out⟩
              | cons t r =>
                have HRE : Hid (res = .error (3, t.p)) := by show _ = _; rw [HRES.out]; simp [rdI, HLX.out, cmdI, HWM.out, HRR.out, endM, Except.bind]
                have hd0 : decide (0 < (t :: r).length) = true := by simp
                rw [hd0]
                clear hd0
                obtain ⟨tb, off, cap, xa, xn, xk, rfl, h1, h2, hb, hSb, f0, f1, f2, f3, -, -, -⟩ := HRI.out.rs.toks.head
                obtain ⟨c0, c1, c2, c3, cz, cl⟩ := tab4 HRI.out.rs.lr
                go_wp2_with fail
                refine (giveUp_r g _ _ 0 0 3 t.p ea _ HRI.out.rs.lr (HEN.out.gave.below HRI.out.rs.bel) HEN.out.ne).mono ?_
                rintro e w8 ⟨rfl, hbad, hG⟩
                have HF : Hid (Bad w8 g 3 t.p ∧ w.grownBy w8 (some g)) := ⟨hbad, gb_trans HG7.out hG⟩
                clear hbad hG
                go_wp2
                refine ⟨rfl, ?_⟩
                rw [HRE.out]
                exact ⟨HF.out.2, rfl, HF.out.1⟩
          · skip
            have hrd := readBox_r g w5.heap.size (w5.heap.size + 1) la l.length lc tv1 ts1 S ea 7 w0 w6 HEN.out HPL.out HR6.out HC6.out hok1 hl (by decide)
            obtain ⟨e0, e1, e2⟩ := formAt7 HF6.out
            go_wp2_with fail
            refine hrd.mono ?_
            rintro e w7 hP
            cases hrr : readI l.length 7 ts1 with
            | error p =>
              rw [hrr] at hP
              obtain ⟨rfl, hgr, hbad⟩ := hP
              have HRE : Hid (res = .error (3, p)) := by show _ = _; rw [HRES.out]; simp [rdI, HLX.out, cmdI, HWM.out, hrr, endM, Except.bind]
              have HF : Hid (w.grownBy w7 (some g) ∧ Bad w7 g 3 p) := ⟨gb_gr2 HG6.out hgr (by omega), hbad⟩
              clear hrr hgr hbad hrd
              go_wp2
              refine ⟨rfl, ?_⟩
              rw [HRE.out]
              exact ⟨HF.out.1, rfl, HF.out.2⟩
            | ok p =>
              rw [hrr] at hP
              obtain ⟨tv2, rfl, hRI⟩ := hP
              have HRI : Hid (RI w0 w6 w7 g w5.heap.size (w5.heap.size + 1) S (.slice la l.length lc) tv2 p.2 p.1) := hRI
              have HG7 : Hid (w.grownBy w7 (some g)) := gb_gr2 HG6.out hRI.gr (by omega)
              have HRR : Hid (readI l.length 7 ts1 = .ok p) := hrr
              clear hrr hRI hrd e0 e1 e2
              obtain ⟨C, ts2⟩ := p
              simp only at HRI
              go_wp2_with fail
              refine (more_r g _ tv2 ts2 S w0 w7 0 0 HRI.out.rs.lr HRI.out.rs.toks).mono ?_
              rintro e w7 ⟨rfl, rfl⟩
              cases ts2 with
              | nil =>
                have HRE : Hid (res = .ok C) := by show _ = _; rw [HRES.out]; simp [rdI, HLX.out, cmdI, HWM.out, HRR.out, endM, Except.bind]
                have hd0 : decide (0 < ([] : List TokD).length) = false := rfl
                rw [hd0]
                clear hd0
                obtain ⟨hgr, hrs, a0, n0, c0, a1, n1, c1, a2, n2, c2, T0, hcc, r0, r1, r2, h1, h2⟩ := HRI.out
                have HK7 : Hid (w7.heap[w.heap.size]? = some (.cells #[.int .i64 0, .slice none 0 0, .slice none 0 0, .int .i64 0, .int .i64 0, .int .i64 0, .int .i64 0, .slice none 0 0] 24 (0, 0))) := (hgr.block w.heap.size (lt_of_heap HK6.out) (by omega) (by omega)).trans HK6.out
                rw [HSS.out] at r2
                obtain ⟨kk, bx, tt, uid, mode, fl, si, tx⟩ := C
                simp only at hcc r0 r1 r2
                have HX : Hid (CmdX ((((((((w7.setCell ⟨w.heap.size, 0, none⟩ (.int .i64 kk)).setCell ⟨w.heap.size, 1, none⟩ (.slice a0 n0 c0)).setCell ⟨w.heap.size, 2, none⟩ (.slice a1 n1 c1)).setCell ⟨w.heap.size, 3, none⟩ (.int .i64 uid)).setCell ⟨w.heap.size, 4, none⟩ (.int .i64 mode)).setCell ⟨w.heap.size, 5, none⟩ (.int .i64 fl)).setCell ⟨w.heap.size, 6, none⟩ (.int .i64 si)).setCell ⟨w.heap.size, 7, none⟩ (.slice a2 n2 c2)) w.heap.size ((((((((w7.setCell ⟨w.heap.size, 0, none⟩ (.int .i64 kk)).setCell ⟨w.heap.size, 1, none⟩ (.slice a0 n0 c0)).setCell ⟨w.heap.size, 2, none⟩ (.slice a1 n1 c1)).setCell ⟨w.heap.size, 3, none⟩ (.int .i64 uid)).setCell ⟨w.heap.size, 4, none⟩ (.int .i64 mode)).setCell ⟨w.heap.size, 5, none⟩ (.int .i64 fl)).setCell ⟨w.heap.size, 6, none⟩ (.int .i64 si)).setCell ⟨w.heap.size, 7, none⟩ (.slice a2 n2 c2)).heap.size (.agg #[.int .i64 kk, .slice a0 n0 c0, .slice a1 n1 c1, .int .i64 uid, .int .i64 mode, .int .i64 fl, .int .i64 si, .slice a2 n2 c2]) ⟨kk, bx, tt, uid, mode, fl, si, tx⟩) := by
                  have hz := size8 w7 w.heap.size (.int .i64 kk) (.slice a0 n0 c0) (.slice a1 n1 c1) (.int .i64 uid) (.int .i64 mode) (.int .i64 fl) (.int .i64 si) (.slice a2 n2 c2)
                  refine ⟨_, _, _, w1.heap.size, T0, rfl, (row_set8 r2.row (.inl (by omega))).wide (by omega) (Nat.le_refl _), row_set8 (r0.wide (show w1.heap.size ≤ w5.heap.size + 1 by omega) (Nat.le_refl _)) (.inl (by omega)), ?_, by omega, by omega, by rw [hz]; omega⟩
                  rw [hz]; exact row_set8 r1 (.inl (by omega))
                have HGF : Hid (w.grownBy ((((((((w7.setCell ⟨w.heap.size, 0, none⟩ (.int .i64 kk)).setCell ⟨w.heap.size, 1, none⟩ (.slice a0 n0 c0)).setCell ⟨w.heap.size, 2, none⟩ (.slice a1 n1 c1)).setCell ⟨w.heap.size, 3, none⟩ (.int .i64 uid)).setCell ⟨w.heap.size, 4, none⟩ (.int .i64 mode)).setCell ⟨w.heap.size, 5, none⟩ (.int .i64 fl)).setCell ⟨w.heap.size, 6, none⟩ (.int .i64 si)).setCell ⟨w.heap.size, 7, none⟩ (.slice a2 n2 c2)) (some g)) := gb_set8 HG7.out (Nat.le_refl _)
                have HKF : Hid (((((((((w7.setCell ⟨w.heap.size, 0, none⟩ (.int .i64 kk)).setCell ⟨w.heap.size, 1, none⟩ (.slice a0 n0 c0)).setCell ⟨w.heap.size, 2, none⟩ (.slice a1 n1 c1)).setCell ⟨w.heap.size, 3, none⟩ (.int .i64 uid)).setCell ⟨w.heap.size, 4, none⟩ (.int .i64 mode)).setCell ⟨w.heap.size, 5, none⟩ (.int .i64 fl)).setCell ⟨w.heap.size, 6, none⟩ (.int .i64 si)).setCell ⟨w.heap.size, 7, none⟩ (.slice a2 n2 c2)).heap[w.heap.size]? = some (.cells #[.int .i64 kk, .slice a0 n0 c0, .slice a1 n1 c1, .int .i64 uid, .int .i64 mode, .int .i64 fl, .int .i64 si, .slice a2 n2 c2] 24 (0, 0))) := box_set (i := 7) (box_set (i := 6) (box_set (i := 5) (box_set (i := 4) (box_set (i := 3) (box_set (i := 2) (box_set (i := 1) (box_set (i := 0) HK7.out)))))))
                obtain ⟨d0, d1, d2, d3, d4, d5, d6, d7, dl⟩ := box8l hcc
                obtain ⟨y0, y1, y2, y3, y4, y5, y6, y7, yl⟩ := box8l HK7.out
                obtain ⟨yz, -⟩ := box8z HK7.out
                clear hgr hrs hcc r0 r1 r2 h1 h2
                go_wp2
                obtain ⟨f0, f1, f2, f3, f4, f5, f6, f7, -⟩ := box8l HKF.out
                refine bodyPost_ret (v := .agg #[.int .i64 kk, .slice a0 n0 c0, .slice a1 n1 c1, .int .i64 uid, .int .i64 mode, .int .i64 fl, .int .i64 si, .slice a2 n2 c2]) (by simp [results, Tryz.results25, go_sem, f0, f1, f2, f3, f4, f5, f6, f7]) rfl ?_
                rw [HRE.out]
                exact ⟨HGF.out, _, rfl, HX.out⟩
              | cons t r =>
                have HRE : Hid (res = .error (3, t.p)) := by show _ = _; rw [HRES.out]; simp [rdI, HLX.out, cmdI, HWM.out, HRR.out, endM, Except.bind]
                have hd0 : decide (0 < (t :: r).length) = true := by simp
                rw [hd0]
                clear hd0
                obtain ⟨tb, off, cap, xa, xn, xk, rfl, h1, h2, hb, hSb, f0, f1, f2, f3, -, -, -⟩ := HRI.out.rs.toks.head
                obtain ⟨c0, c1, c2, c3, cz, cl⟩ := tab4 HRI.out.rs.lr
                go_wp2_with fail
                refine (giveUp_r g _ _ 0 0 3 t.p ea _ HRI.out.rs.lr (HEN.out.gave.below HRI.out.rs.bel) HEN.out.ne).mono ?_
                rintro e w8 ⟨rfl, hbad, hG⟩
                have HF : Hid (Bad w8 g 3 t.p ∧ w.grownBy w8 (some g)) := ⟨hbad, gb_trans HG7.out hG⟩
                clear hbad hG
                go_wp2
                refine ⟨rfl, ?_⟩
                rw [HRE.out]
                exact ⟨HF.out.2, rfl, HF.out.1⟩
          · skip
            have hrd := readChanges_r g w5.heap.size (w5.heap.size + 1) la l.length lc tv1 ts1 S ea w0 w6 HEN.out HPL.out HR6.out HC6.out hok1 hl
            obtain ⟨e0, e1, e2⟩ := formAt8 HF6.out
            go_wp2_with fail
            refine hrd.mono ?_
            rintro e w7 hP
            cases hrr : readI l.length 8 ts1 with
            | error p =>
              rw [hrr] at hP
              obtain ⟨rfl, hgr, hbad⟩ := hP
              have HRE : Hid (res = .error (3, p)) := by show _ = _; rw [HRES.out]; simp [rdI, HLX.out, cmdI, HWM.out, hrr, endM, Except.bind]
              have HF : Hid (w.grownBy w7 (some g) ∧ Bad w7 g 3 p) := ⟨gb_gr2 HG6.out hgr (by omega), hbad⟩
              clear hrr hgr hbad hrd
              go_wp2
              refine ⟨rfl, ?_⟩
              rw [HRE.out]
              exact ⟨HF.out.1, rfl, HF.out.2⟩
            | ok p =>
              rw [hrr] at hP
              obtain ⟨tv2, rfl, hRI⟩ := hP
              have HRI : Hid (RI w0 w6 w7 g w5.heap.size (w5.heap.size + 1) S (.slice la l.length lc) tv2 p.2 p.1) := hRI
              have HG7 : Hid (w.grownBy w7 (some g)) := gb_gr2 HG6.out hRI.gr (by omega)
              have HRR : Hid (readI l.length 8 ts1 = .ok p) := hrr
              clear hrr hRI hrd e0 e1 e2
              obtain ⟨C, ts2⟩ := p
              simp only at HRI
              go_wp2_with fail
              refine (more_r g _ tv2 ts2 S w0 w7 0 0 HRI.out.rs.lr HRI.out.rs.toks).mono ?_
              rintro e w7 ⟨rfl, rfl⟩
              cases ts2 with
              | nil =>
                have HRE : Hid (res = .ok C) := by show _ = _; rw [HRES.out]; simp [rdI, HLX.out, cmdI, HWM.out, HRR.out, endM, Except.bind]
                have hd0 : decide (0 < ([] : List TokD).length) = false := rfl
                rw [hd0]
                clear hd0
                obtain ⟨hgr, hrs, a0, n0, c0, a1, n1, c1, a2, n2, c2, T0, hcc, r0, r1, r2, h1, h2⟩ := HRI.out
                have HK7 : Hid (w7.heap[w.heap.size]? = some (.cells #[.int .i64 0, .slice none 0 0, .slice none 0 0, .int .i64 0, .int .i64 0, .int .i64 0, .int .i64 0, .slice none 0 0] 24 (0, 0))) := (hgr.block w.heap.size (lt_of_heap HK6.out) (by omega) (by omega)).trans HK6.out
                rw [HSS.out] at r2
                obtain ⟨kk, bx, tt, uid, mode, fl, si, tx⟩ := C
                simp only at hcc r0 r1 r2
                have HX : Hid (CmdX ((((((((w7.setCell ⟨w.heap.size, 0, none⟩ (.int .i64 kk)).setCell ⟨w.heap.size, 1, none⟩ (.slice a0 n0 c0)).setCell ⟨w.heap.size, 2, none⟩ (.slice a1 n1 c1)).setCell ⟨w.heap.size, 3, none⟩ (.int .i64 uid)).setCell ⟨w.heap.size, 4, none⟩ (.int .i64 mode)).setCell ⟨w.heap.size, 5, none⟩ (.int .i64 fl)).setCell ⟨w.heap.size, 6, none⟩ (.int .i64 si)).setCell ⟨w.heap.size, 7, none⟩ (.slice a2 n2 c2)) w.heap.size ((((((((w7.setCell ⟨w.heap.size, 0, none⟩ (.int .i64 kk)).setCell ⟨w.heap.size, 1, none⟩ (.slice a0 n0 c0)).setCell ⟨w.heap.size, 2, none⟩ (.slice a1 n1 c1)).setCell ⟨w.heap.size, 3, none⟩ (.int .i64 uid)).setCell ⟨w.heap.size, 4, none⟩ (.int .i64 mode)).setCell ⟨w.heap.size, 5, none⟩ (.int .i64 fl)).setCell ⟨w.heap.size, 6, none⟩ (.int .i64 si)).setCell ⟨w.heap.size, 7, none⟩ (.slice a2 n2 c2)).heap.size (.agg #[.int .i64 kk, .slice a0 n0 c0, .slice a1 n1 c1, .int .i64 uid, .int .i64 mode, .int .i64 fl, .int .i64 si, .slice a2 n2 c2]) ⟨kk, bx, tt, uid, mode, fl, si, tx⟩) := by
                  have hz := size8 w7 w.heap.size (.int .i64 kk) (.slice a0 n0 c0) (.slice a1 n1 c1) (.int .i64 uid) (.int .i64 mode) (.int .i64 fl) (.int .i64 si) (.slice a2 n2 c2)
                  refine ⟨_, _, _, w1.heap.size, T0, rfl, (row_set8 r2.row (.inl (by omega))).wide (by omega) (Nat.le_refl _), row_set8 (r0.wide (show w1.heap.size ≤ w5.heap.size + 1 by omega) (Nat.le_refl _)) (.inl (by omega)), ?_, by omega, by omega, by rw [hz]; omega⟩
                  rw [hz]; exact row_set8 r1 (.inl (by omega))
                have HGF : Hid (w.grownBy ((((((((w7.setCell ⟨w.heap.size, 0, none⟩ (.int .i64 kk)).setCell ⟨w.heap.size, 1, none⟩ (.slice a0 n0 c0)).setCell ⟨w.heap.size, 2, none⟩ (.slice a1 n1 c1)).setCell ⟨w.heap.size, 3, none⟩ (.int .i64 uid)).setCell ⟨w.heap.size, 4, none⟩ (.int .i64 mode)).setCell ⟨w.heap.size, 5, none⟩ (.int .i64 fl)).setCell ⟨w.heap.size, 6, none⟩ (.int .i64 si)).setCell ⟨w.heap.size, 7, none⟩ (.slice a2 n2 c2)) (some g)) := gb_set8 HG7.out (Nat.le_refl _)
                have HKF : Hid (((((((((w7.setCell ⟨w.heap.size, 0, none⟩ (.int .i64 kk)).setCell ⟨w.heap.size, 1, none⟩ (.slice a0 n0 c0)).setCell ⟨w.heap.size, 2, none⟩ (.slice a1 n1 c1)).setCell ⟨w.heap.size, 3, none⟩ (.int .i64 uid)).setCell ⟨w.heap.size, 4, none⟩ (.int .i64 mode)).setCell ⟨w.heap.size, 5, none⟩ (.int .i64 fl)).setCell ⟨w.heap.size, 6, none⟩ (.int .i64 si)).setCell ⟨w.heap.size, 7, none⟩ (.slice a2 n2 c2)).heap[w.heap.size]? = some (.cells #[.int .i64 kk, .slice a0 n0 c0, .slice a1 n1 c1, .int .i64 uid, .int .i64 mode, .int .i64 fl, .int .i64 si, .slice a2 n2 c2] 24 (0, 0))) := box_set (i := 7) (box_set (i := 6) (box_set (i := 5) (box_set (i := 4) (box_set (i := 3) (box_set (i := 2) (box_set (i := 1) (box_set (i := 0) HK7.out)))))))
                obtain ⟨d0, d1, d2, d3, d4, d5, d6, d7, dl⟩ := box8l hcc
                obtain ⟨y0, y1, y2, y3, y4, y5, y6, y7, yl⟩ := box8l HK7.out
                obtain ⟨yz, -⟩ := box8z HK7.out
                clear hgr hrs hcc r0 r1 r2 h1 h2
                go_wp2
                obtain ⟨f0, f1, f2, f3, f4, f5, f6, f7, -⟩ := box8l HKF.out
                refine bodyPost_ret (v := .agg #[.int .i64 kk, .slice a0 n0 c0, .slice a1 n1 c1, .int .i64 uid, .int .i64 mode, .int .i64 fl, .int .i64 si, .slice a2 n2 c2]) (by simp [results, Tryz.results25, go_sem, f0, f1, f2, f3, f4, f5, f6, f7]) rfl ?_
                rw [HRE.out]
                exact ⟨HGF.out, _, rfl, HX.out⟩
              | cons t r =>
                have HRE : Hid (res = .error (3, t.p)) := by show _ = _; rw [HRES.out]; simp [rdI, HLX.out, cmdI, HWM.out, HRR.out, endM, Except.bind]
                have hd0 : decide (0 < (t :: r).length) = true := by simp
                rw [hd0]
                clear hd0
                obtain ⟨tb, off, cap, xa, xn, xk, rfl, h1, h2, hb, hSb, f0, f1, f2, f3, -, -, -⟩ := HRI.out.rs.toks.head
                obtain ⟨c0, c1, c2, c3, cz, cl⟩ := tab4 HRI.out.rs.lr
                go_wp2_with fail
                refine (giveUp_r g _ _ 0 0 3 t.p ea _ HRI.out.rs.lr (HEN.out.gave.below HRI.out.rs.bel) HEN.out.ne).mono ?_
                rintro e w8 ⟨rfl, hbad, hG⟩
                have HF : Hid (Bad w8 g 3 t.p ∧ w.grownBy w8 (some g)) := ⟨hbad, gb_trans HG7.out hG⟩
                clear hbad hG
                go_wp2
                refine ⟨rfl, ?_⟩
                rw [HRE.out]
                exact ⟨HF.out.2, rfl, HF.out.1⟩
          · skip
            have hrd := readNothing_r g w5.heap.size (w5.heap.size + 1) la l.length lc tv1 ts1 S ea w0 w6 HPL.out HR6.out HC6.out
            obtain ⟨e0, e1, e2⟩ := formAt9 HF6.out
            go_wp2_with fail
            refine hrd.mono ?_
            rintro e w7 hP
            cases hrr : readI l.length 9 ts1 with
            | error p =>
              rw [hrr] at hP
              obtain ⟨rfl, hgr, hbad⟩ := hP
              have HRE : Hid (res = .error (3, p)) := by show _ = _; rw [HRES.out]; simp [rdI, HLX.out, cmdI, HWM.out, hrr, endM, Except.bind]
              have HF : Hid (w.grownBy w7 (some g) ∧ Bad w7 g 3 p) := ⟨gb_gr2 HG6.out hgr (by omega), hbad⟩
              clear hrr hgr hbad hrd
              go_wp2
              refine ⟨rfl, ?_⟩
              rw [HRE.out]
              exact ⟨HF.out.1, rfl, HF.out.2⟩
            | ok p =>
              rw [hrr] at hP
              obtain ⟨tv2, rfl, hRI⟩ := hP
              have HRI : Hid (RI w0 w6 w7 g w5.heap.size (w5.heap.size + 1) S (.slice la l.length lc) tv2 p.2 p.1) := hRI
              have HG7 : Hid (w.grownBy w7 (some g)) := gb_gr2 HG6.out hRI.gr (by omega)
              have HRR : Hid (readI l.length 9 ts1 = .ok p) := hrr
              clear hrr hRI hrd e0 e1 e2
              obtain ⟨C, ts2⟩ := p
              simp only at HRI
              go_wp2_with fail
              refine (more_r g _ tv2 ts2 S w0 w7 0 0 HRI.out.rs.lr HRI.out.rs.toks).mono ?_
              rintro e w7 ⟨rfl, rfl⟩
              cases ts2 with
              | nil =>
                have HRE : Hid (res = .ok C) := by show _ = _; rw [HRES.out]; simp [rdI, HLX.out, cmdI, HWM.out, HRR.out, endM, Except.bind]
                have hd0 : decide (0 < ([] : List TokD).length) = false := rfl
                rw [hd0]
                clear hd0
                obtain ⟨hgr, hrs, a0, n0, c0, a1, n1, c1, a2, n2, c2, T0, hcc, r0, r1, r2, h1, h2⟩ := HRI.out
                have HK7 : Hid (w7.heap[w.heap.size]? = some (.cells #[.int .i64 0, .slice none 0 0, .slice none 0 0, .int .i64 0, .int .i64 0, .int .i64 0, .int .i64 0, .slice none 0 0] 24 (0, 0))) := (hgr.block w.heap.size (lt_of_heap HK6.out) (by omega) (by omega)).trans HK6.out
                rw [HSS.out] at r2
                obtain ⟨kk, bx, tt, uid, mode, fl, si, tx⟩ := C
                simp only at hcc r0 r1 r2
                have HX : Hid (CmdX ((((((((w7.setCell ⟨w.heap.size, 0, none⟩ (.int .i64 kk)).setCell ⟨w.heap.size, 1, none⟩ (.slice a0 n0 c0)).setCell ⟨w.heap.size, 2, none⟩ (.slice a1 n1 c1)).setCell ⟨w.heap.size, 3, none⟩ (.int .i64 uid)).setCell ⟨w.heap.size, 4, none⟩ (.int .i64 mode)).setCell ⟨w.heap.size, 5, none⟩ (.int .i64 fl)).setCell ⟨w.heap.size, 6, none⟩ (.int .i64 si)).setCell ⟨w.heap.size, 7, none⟩ (.slice a2 n2 c2)) w.heap.size ((((((((w7.setCell ⟨w.heap.size, 0, none⟩ (.int .i64 kk)).setCell ⟨w.heap.size, 1, none⟩ (.slice a0 n0 c0)).setCell ⟨w.heap.size, 2, none⟩ (.slice a1 n1 c1)).setCell ⟨w.heap.size, 3, none⟩ (.int .i64 uid)).setCell ⟨w.heap.size, 4, none⟩ (.int .i64 mode)).setCell ⟨w.heap.size, 5, none⟩ (.int .i64 fl)).setCell ⟨w.heap.size, 6, none⟩ (.int .i64 si)).setCell ⟨w.heap.size, 7, none⟩ (.slice a2 n2 c2)).heap.size (.agg #[.int .i64 kk, .slice a0 n0 c0, .slice a1 n1 c1, .int .i64 uid, .int .i64 mode, .int .i64 fl, .int .i64 si, .slice a2 n2 c2]) ⟨kk, bx, tt, uid, mode, fl, si, tx⟩) := by
                  have hz := size8 w7 w.heap.size (.int .i64 kk) (.slice a0 n0 c0) (.slice a1 n1 c1) (.int .i64 uid) (.int .i64 mode) (.int .i64 fl) (.int .i64 si) (.slice a2 n2 c2)
                  refine ⟨_, _, _, w1.heap.size, T0, rfl, (row_set8 r2.row (.inl (by omega))).wide (by omega) (Nat.le_refl _), row_set8 (r0.wide (show w1.heap.size ≤ w5.heap.size + 1 by omega) (Nat.le_refl _)) (.inl (by omega)), ?_, by omega, by omega, by rw [hz]; omega⟩
                  rw [hz]; exact row_set8 r1 (.inl (by omega))
                have HGF : Hid (w.grownBy ((((((((w7.setCell ⟨w.heap.size, 0, none⟩ (.int .i64 kk)).setCell ⟨w.heap.size, 1, none⟩ (.slice a0 n0 c0)).setCell ⟨w.heap.size, 2, none⟩ (.slice a1 n1 c1)).setCell ⟨w.heap.size, 3, none⟩ (.int .i64 uid)).setCell ⟨w.heap.size, 4, none⟩ (.int .i64 mode)).setCell ⟨w.heap.size, 5, none⟩ (.int .i64 fl)).setCell ⟨w.heap.size, 6, none⟩ (.int .i64 si)).setCell ⟨w.heap.size, 7, none⟩ (.slice a2 n2 c2)) (some g)) := gb_set8 HG7.out (Nat.le_refl _)
                have HKF : Hid (((((((((w7.setCell ⟨w.heap.size, 0, none⟩ (.int .i64 kk)).setCell ⟨w.heap.size, 1, none⟩ (.slice a0 n0 c0)).setCell ⟨w.heap.size, 2, none⟩ (.slice a1 n1 c1)).setCell ⟨w.heap.size, 3, none⟩ (.int .i64 uid)).setCell ⟨w.heap.size, 4, none⟩ (.int .i64 mode)).setCell ⟨w.heap.size, 5, none⟩ (.int .i64 fl)).setCell ⟨w.heap.size, 6, none⟩ (.int .i64 si)).setCell ⟨w.heap.size, 7, none⟩ (.slice a2 n2 c2)).heap[w.heap.size]? = some (.cells #[.int .i64 kk, .slice a0 n0 c0, .slice a1 n1 c1, .int .i64 uid, .int .i64 mode, .int .i64 fl, .int .i64 si, .slice a2 n2 c2] 24 (0, 0))) := box_set (i := 7) (box_set (i := 6) (box_set (i := 5) (box_set (i := 4) (box_set (i := 3) (box_set (i := 2) (box_set (i := 1) (box_set (i := 0) HK7.out)))))))
                obtain ⟨d0, d1, d2, d3, d4, d5, d6, d7, dl⟩ := box8l hcc
                obtain ⟨y0, y1, y2, y3, y4, y5, y6, y7, yl⟩ := box8l HK7.out
                obtain ⟨yz, -⟩ := box8z HK7.out
                clear hgr hrs hcc r0 r1 r2 h1 h2
                go_wp2
                obtain ⟨f0, f1, f2, f3, f4, f5, f6, f7, -⟩ := box8l HKF.out
                refine bodyPost_ret (v := .agg #[.int .i64 kk, .slice a0 n0 c0, .slice a1 n1 c1, .int .i64 uid, .int .i64 mode, .int .i64 fl, .int .i64 si, .slice a2 n2 c2]) (by simp [results, Tryz.results25, go_sem, f0, f1, f2, f3, f4, f5, f6, f7]) rfl ?_
                rw [HRE.out]
                exact ⟨HGF.out, _, rfl, HX.out⟩
              | cons t r =>
                have HRE : Hid (res = .error (3, t.p)) := by show _ = _; rw [HRES.out]; simp [rdI, HLX.out, cmdI, HWM.out, HRR.out, endM, Except.bind]
                have hd0 : decide (0 < (t :: r).length) = true := by simp
                rw [hd0]
                clear hd0
                obtain ⟨tb, off, cap, xa, xn, xk, rfl, h1, h2, hb, hSb, f0, f1, f2, f3, -, -, -⟩ := HRI.out.rs.toks.head
                obtain ⟨c0, c1, c2, c3, cz, cl⟩ := tab4 HRI.out.rs.lr
                go_wp2_with fail
                refine (giveUp_r g _ _ 0 0 3 t.p ea _ HRI.out.rs.lr (HEN.out.gave.below HRI.out.rs.bel) HEN.out.ne).mono ?_
                rintro e w8 ⟨rfl, hbad, hG⟩
                have HF : Hid (Bad w8 g 3 t.p ∧ w.grownBy w8 (some g)) := ⟨hbad, gb_trans HG7.out hG⟩
                clear hbad hG
                go_wp2
                refine ⟨rfl, ?_⟩
                rw [HRE.out]
                exact ⟨HF.out.2, rfl, HF.out.1⟩

end Go.Proofs.YtlegmiaoablcgaaGreatDoor
