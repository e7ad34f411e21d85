/- From what a row reads of an argument to what the walks ask: boxes and accounts that came in. -/
import Derived.Test.YtnjicpdccpkbmaaOpenFld
import Derived.Test.YtnjicpdccpkbmaaLibOwR
import Derived.Deep.Slices
namespace Go.Proofs.Ytnjicpdccpkbmaa
open Go.ChangeShapes Go.WideShapes Go.ChangeAt Go.RowKit Go.Deep

theorem list_of {α : Type} {p : Nat → α → Prop} : ∀ (n : Nat), (∀ i, i < n → ∃ x, p i x) → ∃ l : List α, l.length = n ∧ ∀ i x, l[i]? = some x → p i x
  | 0, _ => ⟨[], rfl, by simp⟩
  | n + 1, h => by
    obtain ⟨l, hl, hp⟩ := list_of n (fun i hi => h i (by omega))
    obtain ⟨x, hx⟩ := h n (by omega)
    refine ⟨l ++ [x], by simp [hl], fun i y hy => ?_⟩
    by_cases hi : i < n
    · rw [List.getElem?_append_left (by omega)] at hy
      exact hp i y hy
    · have hlt : i < (l ++ [x]).length := (List.getElem?_eq_some_iff.1 hy).1
      simp at hlt
      obtain rfl : i = n := by omega
      rw [List.getElem?_append_right (by omega)] at hy
      simp [hl] at hy
      subst hy
      exact hx

/-- One cell that is read as a slice of structs. -/
theorem open_rd {α : Type} {E : World → List Value → α → Prop} {H : Type} {enc : TypeId × Value → H} {W : World} {base fuel sz : Nat} {t e : TypeId} {c : Value} {y : DataW H × List MemPlace} (h0 : 0 < sz)
    (ht : Try.prog.underlying t = some (.slice e)) (hc : Try.prog.cellsOf e = sz) (hE : ∀ n cs' y, cs'.length = sz → DataW.trod enc Try.prog W base (fun _ => true) true n e cs' = some y → ∃ x, E W cs' x)
    (h : DataW.trod enc Try.prog W base (fun _ => true) true fuel t [c] = some y) : ∃ l, Rd sz E W c l := by
  rcases open_slice ht h with ⟨hcs, -⟩ | ⟨a, len, cap, m, n, D, Pl, hcs, hb, hl, hm, hmm, -, hel⟩
  · obtain rfl : c = .slice none 0 0 := by simpa using hcs
    exact ⟨[], Rd.nil W⟩
  · obtain rfl : c = .slice (some a) len cap := by simpa using hcs
    simp only [if_true] at hmm
    subst hmm
    rw [hc] at hel
    have key : ∀ i, i < len → ∃ p : List Value × α, W.cells? base (a.add (i * sz)) sz = some p.1 ∧ p.1.length = sz ∧ E W p.1 p.2 := by
      intro i hi
      obtain ⟨cs', h1, h2⟩ := hel i (by omega)
      have hlen := (World.cells?_some h1).2.1
      obtain ⟨x, hx⟩ := hE n cs' _ hlen h2
      exact ⟨(cs', x), h1, hlen, hx⟩
    obtain ⟨ps, hpl, hps⟩ := list_of len key
    refine ⟨ps.map (·.2), some a, m, fun i => ((ps[i]?.map (·.1)).getD []), by simp [hpl], by simp [hpl]; omega, hm, (fun h => by cases h), fun i x hx => ?_, fun hp => ?_⟩
    · rw [List.getElem?_map, Option.map_eq_some_iff] at hx
      obtain ⟨p, hp, rfl⟩ := hx
      obtain ⟨-, q1, q2⟩ := hps i p hp
      simp only [hp, Option.map_some, Option.getD_some]
      exact ⟨q2, q1⟩
    · simp [hpl] at hp
      obtain ⟨b, off, spot⟩ := a
      obtain ⟨p0, hp0⟩ : ∃ p, ps[0]? = some p := ⟨ps[0]'(by omega), List.getElem?_eq_getElem (by omega)⟩
      obtain ⟨k1, k2, -⟩ := hps 0 p0 hp0
      have cell : ∀ i p, ps[i]? = some p → ∀ j u, p.1[j]? = some u → W.cell? (((⟨b, off, spot⟩ : Addr).add (i * sz)).add j) = some u := by
        intro i p hi j u hu
        obtain ⟨k1, k2, -⟩ := hps i p hi
        have hj : j < sz := by have := (List.getElem?_eq_some_iff.1 hu).1; omega
        rw [(World.cells?_some k1).2.2 j hj, hu]
      have c0 := cell 0 p0 hp0 0 (p0.1[0]'(by omega)) (List.getElem?_eq_getElem (by omega))
      have hspot : spot = none := by simpa [Addr.add] using World.cell?_spot c0
      subst hspot
      refine ⟨b, off, rfl, ?_, fun i j u hi hu => ?_⟩
      · have := World.block_lt_of_cell? W _ c0
        simpa [Addr.add] using this
      · obtain ⟨p, hpi⟩ : ∃ p, ps[i]? = some p := ⟨ps[i]'(by simp at hi; omega), List.getElem?_eq_getElem (by simp at hi; omega)⟩
        simp only [hpi, Option.map_some, Option.getD_some] at hu
        have := cell i p hpi j u hu
        simpa [Addr.add_lit, Nat.add_assoc] using this

/-- One cell that is read as a slice of numbers, of mails, of what went, of boxes. -/
theorem open_ints' {H : Type} {enc : TypeId × Value → H} {W : World} {base fuel : Nat} {c : Value} {y : DataW H × List MemPlace}
    (h : DataW.trod enc Try.prog W base (fun _ => true) true fuel 32 [c] = some y) : ∃ l, IntsV W c l := by
  refine open_rd (by omega) Try.underlying32 cellsI (fun n cs' y hl ht => ?_) h
  match cs', hl with
  | [c0], _ =>
    obtain ⟨k, rfl, i0⟩ := open_cellI ht
    exact ⟨k, rfl, i0⟩
theorem open_mails {H : Type} {enc : TypeId × Value → H} {W : World} {base fuel : Nat} {c : Value} {y : DataW H × List MemPlace}
    (h : DataW.trod enc Try.prog W base (fun _ => true) true fuel 43 [c] = some y) : ∃ l, MailsV W c l := by
  refine open_rd (by omega) Try.underlying43 (by kernel_rfl) (fun n cs' y hl hf => ?_) h
  match cs', hl with
  | [c0, c1, c2, c3], _ =>
    have u := Try.underlying104
    obtain ⟨_, _, h0⟩ := open_field u hf 0 3 0 c0 rfl cellsI rfl
    obtain ⟨_, _, h1⟩ := open_field u hf 1 3 1 c1 rfl cellsI rfl
    obtain ⟨_, _, h2⟩ := open_field u hf 2 3 2 c2 rfl cellsI rfl
    obtain ⟨_, _, h3⟩ := open_field u hf 3 22 3 c3 rfl cellsB rfl
    obtain ⟨uid, rfl, i0⟩ := open_cellI h0
    obtain ⟨flags, rfl, i1⟩ := open_cellI h1
    obtain ⟨seq, rfl, i2⟩ := open_cellI h2
    obtain ⟨text, b3⟩ := open_cellB h3
    exact ⟨⟨uid, flags, seq, text⟩, c3, rfl, b3, i0, i1, i2⟩
theorem open_gones {H : Type} {enc : TypeId × Value → H} {W : World} {base fuel : Nat} {c : Value} {y : DataW H × List MemPlace}
    (h : DataW.trod enc Try.prog W base (fun _ => true) true fuel 44 [c] = some y) : ∃ l, GonesV W c l := by
  refine open_rd (by omega) Try.underlying44 (by kernel_rfl) (fun n cs' y hl hf => ?_) h
  match cs', hl with
  | [c0, c1], _ =>
    have u := Try.underlying107
    obtain ⟨_, _, h0⟩ := open_field u hf 0 3 0 c0 rfl cellsI rfl
    obtain ⟨_, _, h1⟩ := open_field u hf 1 3 1 c1 rfl cellsI rfl
    obtain ⟨uid, rfl, i0⟩ := open_cellI h0
    obtain ⟨seq, rfl, i1⟩ := open_cellI h1
    exact ⟨⟨uid, seq⟩, rfl, i0, i1⟩
theorem cellsMs : Try.prog.cellsOf 43 = 1 := by kernel_rfl
theorem cellsGs : Try.prog.cellsOf 44 = 1 := by kernel_rfl
theorem cellsXs : Try.prog.cellsOf 31 = 1 := by kernel_rfl
theorem cellsIs : Try.prog.cellsOf 32 = 1 := by kernel_rfl
theorem open_boxCells {H : Type} {enc : TypeId × Value → H} {W : World} {base n : Nat} {cs' : List Value} {y : DataW H × List MemPlace} (hl : cs'.length = 7)
    (hf : DataW.trod enc Try.prog W base (fun _ => true) true n 46 cs' = some y) : ∃ x, BoxRE W cs' x := by
  match cs', hl with
  | [c0, c1, c2, c3, c4, c5, c6], _ =>
    have u := Try.underlying46
    obtain ⟨_, _, h0⟩ := open_field u hf 0 22 0 c0 rfl cellsB rfl
    obtain ⟨_, _, h1⟩ := open_field u hf 1 3 1 c1 rfl cellsI rfl
    obtain ⟨_, _, h2⟩ := open_field u hf 2 3 2 c2 rfl cellsI rfl
    obtain ⟨_, _, h3⟩ := open_field u hf 3 3 3 c3 rfl cellsI rfl
    obtain ⟨_, _, h4⟩ := open_field u hf 4 43 4 c4 rfl cellsMs rfl
    obtain ⟨_, _, h5⟩ := open_field u hf 5 44 5 c5 rfl cellsGs rfl
    obtain ⟨_, _, h6⟩ := open_field u hf 6 3 6 c6 rfl cellsI rfl
    obtain ⟨name, b0⟩ := open_cellB h0
    obtain ⟨valid, rfl, i1⟩ := open_cellI h1
    obtain ⟨next, rfl, i2⟩ := open_cellI h2
    obtain ⟨seq, rfl, i3⟩ := open_cellI h3
    obtain ⟨mails, b4⟩ := open_mails h4
    obtain ⟨gones, b5⟩ := open_gones h5
    obtain ⟨lost, rfl, i6⟩ := open_cellI h6
    exact ⟨⟨name, valid, next, seq, mails, gones, lost⟩, c0, c4, c5, rfl, b0, b4, b5, i1, i2, i3, i6⟩
/-- A box, an account that came in, as the walks want it. -/
theorem open_box {H : Type} {enc : TypeId × Value → H} {W : World} {base : Nat} {cs : Array Value} {d : DataW H} {p : List MemPlace} (hs : cs.size = 7)
    (h : DataW.Trod enc Try.prog W base (fun _ => true) true 46 (.agg cs) d p) : ∃ x, BoxV W (.agg cs) x := by
  obtain ⟨fuel, hf⟩ := h
  obtain ⟨cs⟩ := cs
  obtain ⟨x, u0, u1, u2, e, r⟩ := open_boxCells (cs' := cs) (by simpa using hs) hf
  subst e
  exact ⟨x, u0, u1, u2, rfl, r⟩
theorem open_account {H : Type} {enc : TypeId × Value → H} {W : World} {base : Nat} {cs : Array Value} {d : DataW H} {p : List MemPlace} (hs : cs.size = 3)
    (h : DataW.Trod enc Try.prog W base (fun _ => true) true 34 (.agg cs) d p) : ∃ x, AccV W (.agg cs) x := by
  obtain ⟨fuel, hf⟩ := h
  obtain ⟨cs⟩ := cs
  match cs, hs with
  | [c0, c1, c2], _ =>
    have u := Try.underlying34
    obtain ⟨_, _, h0⟩ := open_field u hf 0 3 0 c0 rfl cellsI rfl
    obtain ⟨_, _, h1⟩ := open_field u hf 1 31 1 c1 rfl cellsXs rfl
    obtain ⟨_, _, h2⟩ := open_field u hf 2 32 2 c2 rfl cellsIs rfl
    obtain ⟨valid, rfl, i0⟩ := open_cellI h0
    obtain ⟨boxes, b1⟩ := open_rd (by omega) Try.underlying31 (by kernel_rfl) (fun n cs' y hl hf => open_boxCells hl hf) h1
    obtain ⟨seen, b2⟩ := open_ints' h2
    exact ⟨⟨valid, boxes, seen⟩, c1, c2, rfl, b1, b2, i0⟩

end Go.Proofs.Ytnjicpdccpkbmaa
