/- The proof's texts, part 3. -/
import Derived.Test.YtodoofdbpffolaaPart1
import Derived.Maps.RangeWalk
import Derived.Maps.OwnSet
import Derived.Maps.OwnOps
import Derived.DeepKeys4
import Derived.Shelf.SlSortCmp.SmallK
import Derived.Maps.AppendAt
import Derived.Laws.BytesArg
import Derived.WalkKit
import Derived.Lib.Bytealg

/- A map of mails, keyed by a box' number and a mail's. -/
namespace Go.Proofs.Ytodoofdbpffolaa
open Go.RowKit Go.Maps
set_option linter.unusedSimpArgs false
set_option linter.unusedVariables false

theorem laidOutK : laidOutB Try.prog = true := by kernel_rfl
theorem rowKey : (55 : TypeId) < Try.prog.types.size := of_decide_eq_true (by kernel_rfl)
theorem undKey : Try.prog.underlying 55 = some (.array 2 3) := by kernel_rfl
theorem wideKey : (match Try.prog.underlying 55 with | some (.array _ _) | some (.struct _) => true | _ => false) = true := by rw [undKey]
theorem keyLaw : Keyed Try.prog 55 := Keyed.of_law (deep_law_laid laidOutK (m := 2) (by omega) rowKey (by kernel_rfl) (by rw [undKey]))
theorem undMM : Try.prog.underlying 50 = some (.map 55 43) := by kernel_rfl
theorem zeroMail (w : World) : (zeroValue 43).run Try.prog w = .ok (.agg #[.int .i64 0, .int .i64 0, .int .i64 0, .slice none 0 0]) w := by kernel_rfl
theorem cellsKey : Try.prog.cellsOf 55 = 2 := by kernel_rfl
theorem cellsInt1 : Try.prog.cellsOf 3 = 1 := by kernel_rfl
theorem undInt : Try.prog.underlying 3 = some (.int .i64) := by kernel_rfl
theorem keyTy : Try.prog.keyType 55 = true := by kernel_rfl
theorem pos_succ {m k : Nat} (h : k < m) : ∃ n, m = n + 1 := ⟨m - 1, by omega⟩
theorem sizeSS : ∃ n, Try.prog.types.size = n + 1 := pos_succ rowKey

theorem two_of {α : Type} : ∀ {l : List α}, l.length = 2 → ∃ a b, l = [a, b]
  | [a, b], _ => ⟨a, b, rfl⟩
  | [], h => by simp at h
  | [_], h => by simp at h
  | _ :: _ :: _ :: _, h => by simp at h
def keyV (v u : Int) : Value := .agg #[.int .i64 v, .int .i64 u]
def klOf (v u : Int) : Lit := .string (keyBytes [.int .i64 v, .int .i64 u])
theorem keyOf_mk {v u : Int} (hv : I64 v) (hu : I64 u) : keyOf Try.prog 55 (keyV v u) = some (klOf v u) := by
  obtain ⟨n, hn⟩ := sizeSS
  have w1 := WalkArith.wf_i64 hv
  have w2 := WalkArith.wf_i64 hu
  have hr : List.range 2 = [0, 1] := rfl
  simp [keyOf, undKey, keyTy, keyV, Value.formed, cellsKey, hn, Program.keyLits, Value.cells, cellsInt1, undInt, w1, w2, hr, klOf]
theorem keyOf_inv {key : Value} {kl : Lit} (h : keyOf Try.prog 55 key = some kl) : ∃ v u, key = keyV v u ∧ kl = klOf v u ∧ I64 v ∧ I64 u := by
  obtain ⟨n, hn⟩ := sizeSS
  have hr : List.range 2 = [0, 1] := rfl
  have h0 := h
  simp only [keyOf, undKey, keyTy, Bool.true_and] at h
  split at h
  · rename_i hf
    cases key with
    | agg cs =>
      simp only [Value.formed, undKey, cellsKey, beq_iff_eq] at hf
      obtain ⟨l⟩ := cs
      obtain ⟨a, b, rfl⟩ : ∃ a b, l = [a, b] := two_of hf
      · skip
        simp only [hn, Program.keyLits, undKey, Value.cells, cellsKey, cellsInt1, hr, undInt, List.length_cons, List.length_nil, if_true, List.mapM_cons, List.mapM_nil, Nat.zero_mul, Nat.one_mul, List.drop_zero, List.take_succ_cons, List.take_zero, List.drop_succ_cons, List.drop_nil, List.take_nil] at h
        cases a with
        | int q x =>
          by_cases hq : q = .i64 ∧ (Lit.int .i64 x).wf = true
          · obtain ⟨rfl, w1⟩ := hq
            cases b with
            | int q y =>
              by_cases hq : q = .i64 ∧ (Lit.int .i64 y).wf = true
              · obtain ⟨rfl, w2⟩ := hq
                have i1 : I64 x := by simpa [Lit.wf, IntKind.min, IntKind.max, IntKind.bits, IntKind.signed, I64] using w1
                have i2 : I64 y := by simpa [Lit.wf, IntKind.min, IntKind.max, IntKind.bits, IntKind.signed, I64] using w2
                have hk := keyOf_mk i1 i2
                refine ⟨x, y, rfl, ?_, i1, i2⟩
                rw [show keyV x y = Value.agg ⟨[.int .i64 x, .int .i64 y]⟩ from rfl, h0] at hk
                exact Option.some.inj hk
              · simp [hq] at h
            | _ => simp at h
          · simp [hq] at h
        | _ => simp at h
    | _ => simp [Value.formed, undKey] at hf
  · cases h
theorem klOf_inj {v u v' u' : Int} (hv : I64 v) (hu : I64 u) (hv' : I64 v') (hu' : I64 u') (h : klOf v u = klOf v' u') : v = v' ∧ u = u' := by
  have := keyLaw.inj (keyOf_mk hv hu) (h ▸ keyOf_mk hv' hu')
  simpa [keyV] using this
theorem klOf_key {v u : Int} (hv : I64 v) (hu : I64 u) : WideAt.IsKeyLit (klOf v u) := keyLaw.key (keyOf_mk hv hu)

/-- A mail's value in the map: its three numbers and its text. -/
def mailVal (p : (Int × Int × Int) × (Option Addr × Nat × Nat)) : Value := .agg #[.int .i64 p.1.1, .int .i64 p.1.2.1, .int .i64 p.1.2.2, .slice p.2.1 p.2.2.1 p.2.2.2]
def mailShape : Value → Bool
  | .agg cs => match cs.toList with | [.int .i64 _, .int .i64 _, .int .i64 _, .slice _ _ _] => true | _ => false
  | _ => false
theorem mailShape_inv {v : Value} (h : mailShape v = true) : ∃ p, v = mailVal p := by
  unfold mailShape at h
  split at h
  · rename_i cs
    split at h
    · rename_i a b c x y z e
      obtain ⟨l⟩ := cs
      exact ⟨((a, b, c), (x, y, z)), by simp only at e; subst e; rfl⟩
    · cases h
  · cases h
/-- How the map's elements are told: as they are. -/
def RM (v : Value) : Option (DataW Value × List MemPlace) := if mailShape v then some (.held v, []) else none
theorem rm_inv {v : Value} {y : DataW Value × List MemPlace} (h : RM v = some y) : (∃ p, v = mailVal p) ∧ y = (.held v, []) := by
  unfold RM at h
  split at h
  · rename_i hs
    exact ⟨mailShape_inv hs, (Option.some.inj h).symm⟩
  · cases h
theorem rm_mail {w : World} {v : Value} {m : MailD} (h : MailV w v m) : RM v = some (.held v, []) := by
  obtain ⟨u, rfl, hb, -⟩ := h
  obtain ⟨a, n, c, rfl⟩ := hb.form3
  rfl

/-- An element's cells, all cells, stay. -/
def CellW (w w' : World) : Prop := w.heap.size ≤ w'.heap.size ∧ ∀ p v, w.cell? p = some v → w'.cell? p = some v
theorem CellW.refl (w : World) : CellW w w := ⟨Nat.le_refl _, fun _ _ h => h⟩
theorem CellW.trans {w w' w'' : World} (h : CellW w w') (h' : CellW w' w'') : CellW w w'' := ⟨Nat.le_trans h.1 h'.1, fun p v e => h'.2 p v (h.2 p v e)⟩
theorem cell_lt {w : World} {p : Addr} {v : Value} (h : w.cell? p = some v) : p.block < w.heap.size := by
  unfold World.cell? at h
  split at h
  · rename_i e
    exact lt_of_heap e
  · cases h
theorem cellw_below {w w' : World} (h : Below w.heap.size w w') : CellW w w' := ⟨h.size, fun _ _ e => (h.cell (cell_lt e)).trans e⟩
/-- A map is turned: no cell is. -/
theorem cellw_map {w w' : World} {b : Nat} {es : Array MapEntry} {c : Nat} (hb : w.heap[b]? = some (.map es c)) (h : w.grownBy w' (some b)) : CellW w w' := by
  refine ⟨h.size, fun p v e => ?_⟩
  have hne : p.block ≠ b := by
    intro e2
    unfold World.cell? at e
    rw [e2, hb] at e
    cases e
  have hk := h.block p.block (cell_lt e) (fun e2 => hne (Option.some.inj e2))
  unfold World.cell? at e ⊢
  rw [hk]
  exact e
theorem Bs.cellw {w w' : World} {v : Value} {l : List Int} (h : Bs w v l) (hc : CellW w w') : Bs w' v l := by
  obtain ⟨h0, a, cap, hv, h1, h2, h3, h4⟩ := h
  exact ⟨h0, a, cap, hv, h1, h2, h3, fun hp => let ⟨b, off, ha, hb, hx⟩ := h4 hp; ⟨b, off, ha, Nat.lt_of_lt_of_le hb hc.1, fun i hi => hc.2 _ _ (hx i hi)⟩⟩
theorem MailV.cellw {w w' : World} {v : Value} {m : MailD} (h : MailV w v m) (hc : CellW w w') : MailV w' v m := let ⟨u, h0, h1, r⟩ := h; ⟨u, h0, h1.cellw hc, r⟩
theorem Rd.cellw {α : Type} {sz : Nat} {E : World → List Value → α → Prop} {w w' : World} {v : Value} {l : List α} (hE : ∀ c x, E w c x → E w' c x) (h : Rd sz E w v l) (hc : CellW w w') : Rd sz E w' v l := by
  obtain ⟨a, cap, cs, hv, h1, h2, h3, h4, h5⟩ := h
  exact ⟨a, cap, cs, hv, h1, h2, h3, fun i x hx => ⟨hE _ _ (h4 i x hx).1, (h4 i x hx).2⟩, fun hp => let ⟨b, off, ha, hb, hx⟩ := h5 hp; ⟨b, off, ha, Nat.lt_of_lt_of_le hb hc.1, fun i j u hi hu => hc.2 _ _ (hx i j u hi hu)⟩⟩
theorem MailsV.cellw {w w' : World} {v : Value} {l : List MailD} (h : MailsV w v l) (hc : CellW w w') : MailsV w' v l := Rd.cellw (fun _ _ ⟨u, h0, h1, r⟩ => ⟨u, h0, h1.cellw hc, r⟩) h hc
theorem GonesV.cellw {w w' : World} {v : Value} {l : List GoneD} (h : GonesV w v l) (hc : CellW w w') : GonesV w' v l := Rd.cellw (w := w) (E := GoneRE) (fun _ _ h => h) h hc
theorem BoxV.cellw {w w' : World} {v : Value} {b : BoxD} (h : BoxV w v b) (hc : CellW w w') : BoxV w' v b :=
  let ⟨u0, u1, u2, h0, h1, h2, h3, r⟩ := h; ⟨u0, u1, u2, h0, h1.cellw hc, h2.cellw hc, h3.cellw hc, r⟩

/-- Entries: a box' number, a mail's, the mail. -/
abbrev Ents := List (Int × Int × MailD)
def isK (v u : Int) (e : Int × Int × MailD) : Bool := decide (e.1 = v ∧ e.2.1 = u)
def findE (E : Ents) (v u : Int) : Option MailD := (E.find? (isK v u)).map fun e => e.2.2
def delE (E : Ents) (v u : Int) : Ents := E.filter fun e => !isK v u e
def putE (E : Ents) (v u : Int) (m : MailD) : Ents := delE E v u ++ [(v, u, m)]
/-- No key twice. -/
def DistE (E : Ents) : Prop := E.Pairwise fun e f => ¬ (e.1 = f.1 ∧ e.2.1 = f.2.1)

/-- Block b is a map of these entries. -/
def MM (w : World) (b n : Nat) (E : Ents) : Prop :=
  ∃ D : DataW Value, w.ownsMap Try.prog 55 RM b n D ∧ Maps.size D = E.length ∧ DistE E ∧ (∀ e ∈ E, I64 e.1 ∧ I64 e.2.1) ∧
    ∀ v u, I64 v → I64 u → match findE E v u with
      | some m => ∃ x, MailV w x m ∧ ∀ z, D.atKey (klOf v u) z = .held x
      | none => ∀ z, D.atKey (klOf v u) z = z

section
variable {w w' : World} {b n : Nat} {E : Ents}
theorem MM.lt (h : MM w b n E) : b < w.heap.size := let ⟨_, h, _⟩ := h; h.lt
theorem MM.block (h : MM w b n E) : ∃ es c, w.heap[b]? = some (.map es c) := let ⟨_, ⟨es, c, hb, _⟩, _⟩ := h; ⟨es, c, hb⟩
theorem MM.mono {n' : Nat} (h : MM w b n E) (hn : n ≤ n') : MM w b n' E := let ⟨D, h1, r⟩ := h; ⟨D, h1.mono hn, r⟩
theorem MM.kept (h : MM w b n E) (hb : w'.heap[b]? = w.heap[b]?) (hc : CellW w w') : MM w' b n E := by
  obtain ⟨D, ⟨es, c, e1, e2⟩, h2, h3, h4, h5⟩ := h
  refine ⟨D, ⟨es, c, hb.trans e1, e2⟩, h2, h3, h4, fun v u hv hu => ?_⟩
  have := h5 v u hv hu
  split at this
  · obtain ⟨x, hx, hz⟩ := this
    exact ⟨x, hx.cellw hc, hz⟩
  · exact this
theorem MM.below (h : MM w b n E) (hb : Below w.heap.size w w') : MM w' b n E := h.kept (hb.block b h.lt) (cellw_below hb)
theorem MM.has {D : DataW Value} {v u : Int} (h5 : match findE E v u with
      | some m => ∃ x, MailV w x m ∧ ∀ z, D.atKey (klOf v u) z = .held x
      | none => ∀ z, D.atKey (klOf v u) z = z) : Maps.has D (klOf v u) = (findE E v u).isSome := by
  split at h5
  · rename_i m e
    obtain ⟨x, -, hz⟩ := h5
    rw [e]
    exact has_true_of_atKey hz
  · rename_i e
    rw [e]
    exact has_false_of_atKey h5
theorem MM.made (w : World) : MM (w.alloc (.map #[] 0)) w.heap.size 0 [] := by
  refine ⟨.map [], World.ownsMap_made _ _ _ _, rfl, List.Pairwise.nil, by simp, fun v u _ _ => ?_⟩
  simp [findE, DataW.atKey]
end

/-! ### entries -/
theorem isK_iff {v u : Int} {e : Int × Int × MailD} : isK v u e = true ↔ e.1 = v ∧ e.2.1 = u := by simp [isK]
theorem findE_del_same (E : Ents) (v u : Int) : findE (delE E v u) v u = none := by
  unfold findE delE
  rw [List.find?_eq_none.2]
  · rfl
  · intro e he
    have := (List.mem_filter.1 he).2
    simpa using this
theorem findE_del_other {E : Ents} {v u v' u' : Int} (hne : ¬ (v' = v ∧ u' = u)) : findE (delE E v u) v' u' = findE E v' u' := by
  unfold findE delE
  rw [List.find?_filter]
  congr 2
  funext e
  by_cases h : isK v' u' e = true
  · have h' := isK_iff.1 h
    have : isK v u e = false := by
      simp only [isK, decide_eq_false_iff_not]
      rintro ⟨h1, h2⟩
      exact hne ⟨h'.1.symm.trans h1, h'.2.symm.trans h2⟩
    rw [h, this]; rfl
  · rw [Bool.not_eq_true] at h
    simp [h]
theorem findE_put_same (E : Ents) (v u : Int) (m : MailD) : findE (putE E v u m) v u = some m := by
  unfold putE
  have h := findE_del_same E v u
  unfold findE at h ⊢
  rw [List.find?_append, Option.map_eq_none_iff.1 h]
  simp [isK]
theorem findE_put_other {E : Ents} {v u v' u' : Int} {m : MailD} (hne : ¬ (v' = v ∧ u' = u)) : findE (putE E v u m) v' u' = findE E v' u' := by
  rw [← findE_del_other hne (E := E)]
  unfold putE findE
  rw [List.find?_append]
  have : List.find? (isK v' u') [(v, u, m)] = none := by
    simp only [List.find?_cons, List.find?_nil]
    rw [show isK v' u' (v, u, m) = false by simp only [isK, decide_eq_false_iff_not]; rintro ⟨h1, h2⟩; exact hne ⟨h1.symm, h2.symm⟩]
  rw [this, Option.or_none]
theorem DistE.del {E : Ents} (h : DistE E) (v u : Int) : DistE (delE E v u) := List.Pairwise.filter _ h
theorem DistE.put {E : Ents} (h : DistE E) (v u : Int) (m : MailD) : DistE (putE E v u m) := by
  unfold putE DistE
  rw [List.pairwise_append]
  refine ⟨h.del v u, List.pairwise_singleton _ _, fun e he f hf => ?_⟩
  rw [List.mem_singleton] at hf
  subst hf
  have := (List.mem_filter.1 he).2
  rintro ⟨h1, h2⟩
  simp [isK, h1, h2] at this
theorem findE_mem {E : Ents} {v u : Int} {m : MailD} (h : findE E v u = some m) : (v, u, m) ∈ E := by
  unfold findE at h
  obtain ⟨e, he, rfl⟩ := Option.map_eq_some_iff.1 h
  obtain ⟨a, b, c⟩ := e
  have h1 := isK_iff.1 (List.find?_some he)
  have h2 := List.mem_of_find?_eq_some he
  simp only at h1
  obtain ⟨rfl, rfl⟩ := h1
  exact h2
theorem DistE.find {E : Ents} (hd : DistE E) {v u : Int} {m : MailD} (h : (v, u, m) ∈ E) : findE E v u = some m := by
  induction E with
  | nil => cases h
  | cons e E ih =>
    obtain ⟨h1, h2⟩ := List.pairwise_cons.1 hd
    unfold findE
    rw [List.find?_cons]
    by_cases hk : isK v u e = true
    · rw [hk]
      rcases List.mem_cons.1 h with rfl | h
      · rfl
      · exact absurd (isK_iff.1 hk) (h1 _ h)
    · rw [Bool.not_eq_true] at hk
      rw [hk]
      rcases List.mem_cons.1 h with rfl | h
      · simp [isK] at hk
      · exact ih h2 h
theorem len_del {E : Ents} (hd : DistE E) (v u : Int) : (delE E v u).length + (if (findE E v u).isSome then 1 else 0) = E.length := by
  induction E with
  | nil => rfl
  | cons e E ih =>
    obtain ⟨h1, h2⟩ := List.pairwise_cons.1 hd
    have ih := ih h2
    unfold delE findE at ih ⊢
    rw [List.filter_cons, List.find?_cons]
    by_cases hk : isK v u e = true
    · have hn : List.find? (isK v u) E = none := by
        rw [List.find?_eq_none]
        intro f hf hk2
        have a := isK_iff.1 hk
        have c := isK_iff.1 hk2
        exact h1 f hf ⟨a.1.trans c.1.symm, a.2.trans c.2.symm⟩
      rw [hn] at ih
      rw [hk]
      simp at ih ⊢
      omega
    · rw [Bool.not_eq_true] at hk
      rw [hk]
      simp at ih ⊢
      omega

section
variable {w : World} {b n : Nat} {E : Ents} {ops : Array Oper} {rest : List Oper} {o : Oper} {a : Act} {Q : Exit → Act → World → Prop}
theorem MM.put {w' : World} {D : DataW Value} {v u : Int} {md : MailD} {x : Value} (h : MM w b n E) (hown : w.ownsMap Try.prog 55 RM b n D) (hv : I64 v) (hu : I64 u) (hx : MailV w x md)
    (ho : w'.ownsMap Try.prog 55 RM b (n + 1) (D.put (klOf v u) (.held x))) (hg : w.grownBy w' (some b)) : MM w' b (n + 1) (putE E v u md) ∧ CellW w w' := by
  obtain ⟨es, c, hb⟩ := h.block
  have hc := cellw_map hb hg
  obtain ⟨D', h1, h2, h3, h4, h5⟩ := h
  have hD : D' = D := by
    obtain ⟨es1, c1, e1, -, -, e2⟩ := h1
    obtain ⟨es2, c2, f1, -, -, f2⟩ := hown
    rw [e1] at f1
    cases f1
    rw [e2, f2]
  subst hD
  refine ⟨⟨_, ho, ?_, h3.put v u md, fun e he => ?_, fun v' u' hv' hu' => ?_⟩, hc⟩
  · rw [size_put (h1.tidy keyLaw), MM.has (h5 v u hv hu), h2]
    have := len_del h3 v u
    unfold putE
    rw [List.length_append, List.length_singleton]
    split <;> simp_all <;> omega
  · rcases List.mem_append.1 he with he | he
    · exact h4 e (List.mem_filter.1 he).1
    · rw [List.mem_singleton] at he
      subst he
      exact ⟨hv, hu⟩
  · by_cases e : v' = v ∧ u' = u
    · obtain ⟨rfl, rfl⟩ := e
      rw [findE_put_same]
      exact ⟨x, hx.cellw hc, fun z => atKey_put_same h1.isMap (klOf_key hv hu) _ _⟩
    · rw [findE_put_other e]
      have hne : klOf v' u' ≠ klOf v u := fun e2 => e (klOf_inj hv' hu' hv hu e2)
      have := h5 v' u' hv' hu'
      split at this
      · obtain ⟨y, hy, hz⟩ := this
        exact ⟨y, hy.cellw hc, fun z => (atKey_put_other hne _ _).trans (hz z)⟩
      · exact fun z => (atKey_put_other hne _ _).trans (this z)
theorem MM.del {w' : World} {D : DataW Value} {v u : Int} (h : MM w b n E) (hown : w.ownsMap Try.prog 55 RM b n D) (hv : I64 v) (hu : I64 u)
    (ho : w'.ownsMap Try.prog 55 RM b n (D.del (klOf v u))) (hg : w.grownBy w' (some b)) : MM w' b n (delE E v u) ∧ CellW w w' := by
  obtain ⟨es, c, hb⟩ := h.block
  have hc := cellw_map hb hg
  obtain ⟨D', h1, h2, h3, h4, h5⟩ := h
  have hD : D' = D := by
    obtain ⟨es1, c1, e1, -, -, e2⟩ := h1
    obtain ⟨es2, c2, f1, -, -, f2⟩ := hown
    rw [e1] at f1
    cases f1
    rw [e2, f2]
  subst hD
  refine ⟨⟨_, ho, ?_, h3.del v u, fun e he => h4 e (List.mem_filter.1 he).1, fun v' u' hv' hu' => ?_⟩, hc⟩
  · have a1 := size_del (k := klOf v u) (h1.tidy keyLaw)
    rw [MM.has (h5 v u hv hu)] at a1
    have := len_del h3 v u
    omega
  · by_cases e : v' = v ∧ u' = u
    · obtain ⟨rfl, rfl⟩ := e
      rw [findE_del_same]
      exact fun z => atKey_del_same z
    · rw [findE_del_other e]
      have hne : klOf v' u' ≠ klOf v u := fun e2 => e (klOf_inj hv' hu' hv hu e2)
      have := h5 v' u' hv' hu'
      split at this
      · obtain ⟨y, hy, hz⟩ := this
        exact ⟨y, hy.cellw hc, fun z => (atKey_del_other hne _).trans (hz z)⟩
      · exact fun z => (atKey_del_other hne _).trans (this z)
/-- 'm[key] = mail'. -/
theorem wpList_mm_put (hg : o.guard = none) (m x v : Operand) (hop : o.op = Op.mapUpdate 50 m x v) (hm : a.eval m = .map (some b)) (h : MM w b n E) (hn : n < maxLen) (kv ku : Int) (val : Value) (md : MailD)
    (hx : a.eval x = .agg #[.int .i64 kv, .int .i64 ku]) (hv : a.eval v = val) (h1 : I64 kv) (h2 : I64 ku) (hval : MailV w val md)
    (hK : ∀ w', MM w' b (n + 1) (putE E kv ku md) → w.grownBy w' (some b) → CellW w w' → wpList Try.prog ops Q rest (a.put o.dst undef) w') : wpList Try.prog ops Q (o :: rest) a w := by
  have h' := h
  obtain ⟨D, hown, -⟩ := h'
  refine wpList_mapUpdate_own w hg m x v _ hop _ _ keyLaw undMM RM b n D hm hown hn _ _ _ hx hv (keyOf_mk h1 h2) _ _ (rm_mail hval) fun w' ho hgr => ?_
  obtain ⟨r1, r2⟩ := h.put hown h1 h2 hval ho hgr
  exact hK w' r1 hgr r2
/-- 'delete(m, key)'. -/
theorem wpList_mm_del (hg : o.guard = none) (m x : Operand) (hop : o.op = Op.call { callee := Callee.builtin Builtin.delete, args := #[m, x], argTypes := #[50, 55] }) (hm : a.eval m = .map (some b)) (h : MM w b n E) (kv ku : Int)
    (hx : a.eval x = .agg #[.int .i64 kv, .int .i64 ku]) (h1 : I64 kv) (h2 : I64 ku)
    (hK : ∀ w', MM w' b n (delE E kv ku) → w.grownBy w' (some b) → CellW w w' → wpList Try.prog ops Q rest (a.put o.dst (.tuple #[])) w') : wpList Try.prog ops Q (o :: rest) a w := by
  have h' := h
  obtain ⟨D, hown, -⟩ := h'
  refine wpList_delete_own w hg m x _ _ hop _ keyLaw undMM RM b n D hm hown _ _ hx (keyOf_mk h1 h2) fun w' ho hgr => ?_
  obtain ⟨r1, r2⟩ := h.del hown h1 h2 ho hgr.grown
  exact hK w' r1 hgr.grown r2
/-- 'len(m)'. -/
theorem wpList_mm_len (hg : o.guard = none) (m : Operand) (hop : o.op = Op.call { callee := Callee.builtin Builtin.len, args := #[m], argTypes := #[50] }) (hm : a.eval m = .map (some b)) (h : MM w b n E)
    (hK : wpList Try.prog ops Q rest (a.put o.dst (.int .i64 E.length)) w) : wpList Try.prog ops Q (o :: rest) a w := by
  obtain ⟨D, hown, hs, -⟩ := h
  refine wpList_len_own w hg m _ hop _ _ undMM RM b n D hm hown ?_
  rw [hs]
  exact hK
/-- 'm[key]' of a mail that is there. -/
theorem MM.get {v u : Int} {md : MailD} (h : MM w b n E) (hf : findE E v u = some md) : ∃ x, MailV w x md ∧ (Instr.lookup 50 (.map (some b)) (.agg #[.int .i64 v, .int .i64 u]) false).run Try.prog w = .ok x w := by
  obtain ⟨D, hown, h2, h3, h4, h5⟩ := h
  have hi := h4 _ (findE_mem hf)
  obtain ⟨x, ps, hr, hx⟩ := hown.lookup keyLaw undMM (zeroMail w) (zd := .held (.agg #[.int .i64 0, .int .i64 0, .int .i64 0, .slice none 0 0])) (zp := []) rfl (keyOf_mk hi.1 hi.2)
  have h6 := h5 v u hi.1 hi.2
  rw [hf] at h6
  obtain ⟨y, hy, hz⟩ := h6
  rw [hz] at hx
  have h7 := (rm_inv hx).2
  simp only [Prod.mk.injEq, DataW.held.injEq] at h7
  obtain ⟨rfl, -⟩ := h7
  exact ⟨_, hy, hr⟩
/-- The same as equations on the operations' runs. -/
theorem MM.store {v u : Int} {md : MailD} {x : Value} (h : MM w b n E) (hn : n < maxLen) (h1 : I64 v) (h2 : I64 u) (hx : MailV w x md) :
    ∃ w', (Instr.mapUpdate 50 (.map (some b)) (.agg #[.int .i64 v, .int .i64 u]) x).run Try.prog w = .ok () w' ∧ MM w' b (n + 1) (putE E v u md) ∧ w.grownBy w' (some b) := by
  have h' := h
  obtain ⟨D, hown, -⟩ := h'
  obtain ⟨w', hr, ho, hg⟩ := hown.update keyLaw undMM hn (keyOf_mk h1 h2) (rm_mail hx)
  exact ⟨w', hr, (h.put hown h1 h2 hx ho hg).1, hg⟩
theorem MM.drop {v u : Int} (h : MM w b n E) (h1 : I64 v) (h2 : I64 u) (ty : TypeId) :
    ∃ w', (Builtin.delete_ #[50, 55] ty #[.map (some b), .agg #[.int .i64 v, .int .i64 u]]).run Try.prog w = .ok (.tuple #[]) w' ∧ MM w' b n (delE E v u) ∧ w.grownBy w' (some b) := by
  have h' := h
  obtain ⟨D, hown, -⟩ := h'
  obtain ⟨w', hr, ho, hg⟩ := hown.drop keyLaw undMM (keyOf_mk h1 h2) ty
  exact ⟨w', hr, (h.del hown h1 h2 ho hg.grown).1, hg.grown⟩
theorem MM.len (h : MM w b n E) (ty : TypeId) : (Builtin.len_ #[50] ty #[.map (some b)]).run Try.prog w = .ok (.int .i64 E.length) w := by
  obtain ⟨D, hown, hs, -⟩ := h
  have := hown.len undMM ty
  rwa [hs] at this
end

end Go.Proofs.Ytodoofdbpffolaa

/- Keys that are sorted by their second number. -/
namespace Go.Proofs.Ytodoofdbpffolaa
open Go.RowKit
set_option maxRecDepth 100000
set_option linter.unusedVariables false
set_option linter.unusedSimpArgs false

def encK (x : Int × Int) : List Value := [.int .i64 x.1, .int .i64 x.2]
def cfK (x y : Int × Int) : Int := Go.Lib.compareInt x.2 y.2
theorem ltK (x y : Int × Int) : ltOf cfK x y = decide (x.2 < y.2) := by
  unfold ltOf cfK Go.Lib.compareInt
  by_cases h1 : x.2 < y.2
  · simp [h1]
  · by_cases h2 : y.2 < x.2 <;> simp [h1, h2]
theorem swoK : Go.Sort.SWO (ltOf cfK) where
  irrefl x := by rw [ltK]; simp
  trans x y z h1 h2 := by rw [ltK] at *; simp at *; omega
  ntrans x y z h1 h2 := by rw [ltK] at *; simp at *; omega

set_option maxRecDepth 100000 in
set_option maxHeartbeats 1000000 in
theorem keyCmp (x y : Int × Int) (W : World) : Calls Try.prog 57 #[.agg #[.int .i64 x.1, .int .i64 x.2], .agg #[.int .i64 y.1, .int .i64 y.2]] W fun e w' => e = .returned (.int .i64 (cfK x y)) ∧ ∃ q os', w' = Go.Sort.grow (W.drewN q) os' := by
  have hcon := fun W' => Try.cmp_Compare_int x.2 y.2 W'
  have hcf : cfK x y = Go.Lib.compareInt x.2 y.2 := rfl
  rw [hcf]
  generalize Go.Lib.compareInt x.2 y.2 = r at hcon ⊢
  go_enter Try.func57, Try.ntmps57
  go_wp2_with (go_at_call 58; refine (hcon _).mono ?_; rintro e w' ⟨rfl, rfl⟩)
  go_ret
  exact ⟨rfl, 0, _, by rw [Go.Sort.alloc_eq_grow, Go.Sort.alloc_eq_grow, Go.Sort.grow_grow]; rfl⟩

theorem hlenK (n : Nat) (W : World) (h : n ≤ 12) : Calls Try.prog 64 #[.int .u64 n] W fun e w' => (∃ l : Int, e = .returned (.int .i64 l)) ∧ w' = W :=
  (Try.bits_Len n W (by omega) (by omega)).mono fun _ _ ⟨he, hw⟩ => ⟨⟨_, he⟩, hw⟩

theorem isAggK (w : World) : (isAgg 55).run Try.prog w = .ok true w := Try.isAgg55 w
theorem sizeOfK (w : World) : (Go.sizeOf 55).run Try.prog w = .ok 2 w := Try.sizeOf55 w

theorem sortSome (blk cap : Nat) (d : Array (Int × Int)) (w : World) (hH : Go.Sort.HoldsK encK 2 w blk 0 d) (hblk : blk < w.heap.size) (h12 : d.size ≤ 12) :
    Calls Try.prog 56 #[.slice (some ⟨blk, 0, none⟩) d.size cap, .func (.func 57) #[] #[]] w
      fun e w' => e = .returned (.tuple #[]) ∧ ∃ d' n os, Go.Sort.PermIn 0 d.size d d' ∧ Go.Sort.SortedIn (ltOf cfK) 0 d.size d' ∧ w' = sortWorldK encK 2 w blk 0 n d' os := by
  have eg : ∀ args w, (callFunc 57 args).run Try.prog w = .ok (.enter 57 args) w := enters_of Try.func57 (by kernel_rfl) rfl
  exact AnyQ.slices_SortFunc_small_sorted Try.sortKeys 2 isAggK sizeOfK encK (fun _ => rfl) (fun x v hv => by simp [encK] at hv; rcases hv with rfl | rfl <;> rfl) cfK 57 #[] swoK blk 0 cap d w eg (fun _ _ _ _ x y => keyCmp x y _) hH hblk h12 hlenK

/-- Keys as they are read, and as they are the call's own. -/
def KeyRE (_ : World) (c : List Value) (x : Int × Int) : Prop := c = [.int .i64 x.1, .int .i64 x.2] ∧ I64 x.1 ∧ I64 x.2
def KeyOE (w : World) (c : List Value) (x : Int × Int) (_ : Nat → Prop) : Prop := KeyRE w c x
abbrev KeysV := Rd 2 KeyRE
theorem framesKey : Frames KeyOE := fun _ _ _ _ _ h _ => h
theorem keepsKey : Keeps KeyRE := fun _ _ _ _ _ h => h

end Go.Proofs.Ytodoofdbpffolaa

/- Keys that are sorted: a list of the call's own, or nil. -/
namespace Go.Proofs.Ytodoofdbpffolaa
open Go.RowKit
set_option maxRecDepth 100000
set_option linter.unusedVariables false
set_option linter.unusedSimpArgs false

set_option maxRecDepth 100000 in
set_option maxHeartbeats 1000000 in
theorem insNone (fv : Value) (w : World) : Calls Try.prog 67 #[.slice none 0 0, .int .i64 0, .int .i64 0, fv] w fun e w' => e = .returned (.tuple #[]) ∧ w' = w := by
  go_enter Try.func67, Try.ntmps67
  go_wp2
  refine wp_loop_rounds 1 ?_
  rw [rounds_succ]
  go_wp2
  go_end0
  exact ⟨rfl, rfl⟩
set_option maxRecDepth 100000 in
set_option maxHeartbeats 1000000 in
theorem pdqNone (lim : Int) (fv : Value) (w : World) : Calls Try.prog 63 #[.slice none 0 0, .int .i64 0, .int .i64 0, .int .i64 lim, fv] w fun e w' => e = .returned (.tuple #[]) ∧ w' = w := by
  go_enter Try.func63, Try.ntmps63
  go_wp2
  refine wp_loop_rounds 1 ?_
  rw [rounds_succ]
  go_wp2_with (go_at_call 67; refine (insNone _ _).mono ?_; rintro e w' ⟨rfl, rfl⟩)
  (try simp only [Exit.inBlock, Exit.then]); refine bodyPost_ret (results_none rfl _ _ _) rfl ?_
  exact ⟨rfl, rfl⟩
set_option maxRecDepth 100000 in
set_option maxHeartbeats 1000000 in
theorem sortNone (fv : Value) (w : World) : Calls Try.prog 56 #[.slice none 0 0, fv] w fun e w' => e = .returned (.tuple #[]) ∧ w' = w := by
  have hl := hlenK 0 w (by omega)
  go_enter Try.func56, Try.ntmps56
  go_wp2_with (first | (go_at_call 64; refine hl.mono ?_; rintro e w' ⟨⟨l, rfl⟩, rfl⟩) | (go_at_call 63; refine (pdqNone _ _ _).mono ?_; rintro e w' ⟨rfl, rfl⟩))
  go_end0
  exact ⟨rfl, rfl⟩

theorem get_bang {α : Type} [Inhabited α] {l : List α} {i : Nat} (h : i < l.length) : l.toArray[i]! = l[i] := by simp [h]
theorem get_bang' {α : Type} [Inhabited α] {d : Array α} {i : Nat} (h : i < d.size) : d[i]! = d[i] := by simp [h]
theorem sortW_block {w : World} {blk n k : Nat} {d : Array (Int × Int)} {os : Array Obj} (hk : k < w.heap.size) (hne : k ≠ blk) : (sortWorldK encK 2 w blk 0 n d os).heap[k]? = w.heap[k]? := by
  unfold sortWorldK Go.Sort.grow Go.Sort.putRowK Go.Sort.putRow Go.Sort.mapBlock Go.Sort.ahead
  simp only
  rw [Array.getElem?_append_left (by simpa using hk), Array.getElem?_modify]
  simp [Ne.symm hne]
theorem sortW_below {w : World} {blk n B : Nat} {d : Array (Int × Int)} {os : Array Obj} (hB : B ≤ blk) (hb : blk < w.heap.size) : Below B w (sortWorldK encK 2 w blk 0 n d os) :=
  ⟨rfl, rfl, rfl, by simp [sortWorldK, Go.Sort.grow, Go.Sort.putRowK, Go.Sort.putRow, Go.Sort.mapBlock, Go.Sort.ahead], fun k hk => sortW_block (by omega) (by omega)⟩

/-- A list of keys is sorted. -/
theorem sortK_any (kv : Value) (ks : List (Int × Int)) (B : Nat) (w : World) (h : Ow 55 2 KeyOE w (In B w.heap.size) kv ks) (h12 : ks.length ≤ 12) :
    Calls Try.prog 56 #[kv, .func (.func 57) #[] #[]] w
      fun e w' => e = .returned (.tuple #[]) ∧ ∃ ks', ks'.Perm ks ∧ ks'.Pairwise (fun a b => ¬ b.2 < a.2) ∧ KeysV w' kv ks' ∧ Below B w w' := by
  rcases h with ⟨rfl, rfl⟩ | ⟨g, cap, cur, cs, fs, hv, hh, h1, h2, h3, h4, h5, h6, h7⟩
  · refine (sortNone _ w).mono ?_
    rintro e w' ⟨rfl, rfl⟩
    exact ⟨rfl, [], List.Perm.refl _, List.Pairwise.nil, Rd.nil _, Below.refl _ _⟩
  · have hlt : g < w.heap.size := lt_of_heap hh
    have hH : Go.Sort.HoldsK encK 2 w g 0 ks.toArray := by
      intro j hj
      rw [Go.Sort.size_flatK] at hj
      simp only [List.size_toArray] at hj
      have hi : j / 2 < ks.length := by omega
      obtain ⟨⟨hc, -⟩, -, hx⟩ := h5 (j / 2) ks[j / 2] (List.getElem?_eq_getElem hi)
      have hm : j % 2 = 0 ∨ j % 2 = 1 := by omega
      refine ⟨?_, by rw [Nat.zero_add]; exact frozen_of_row w g j cur _ hh⟩
      rw [Go.Sort.get_flatK _ _ _ _ (by simpa using hj), get_bang hi, Nat.zero_add, cell_of_row w g j cur _ (0, 0) hh]
      have hd : j = j / 2 * 2 + j % 2 := by omega
      have := hx (j % 2) ((encK ks[j / 2])[j % 2]!) (by rw [hc]; rcases hm with e | e <;> rw [e] <;> rfl)
      rw [← hd] at this
      exact this
    subst hv
    have hs : ks.toArray.size = ks.length := by simp
    have := sortSome g cap ks.toArray w hH hlt (by simpa using h12)
    rw [hs] at this
    refine this.mono ?_
    rintro e w' ⟨rfl, d', n, os, ⟨p1, -, p3⟩, hsort, rfl⟩
    have hd' : d'.size = ks.length := by rw [p1, hs]
    have hperm : d'.toList.Perm ks := by
      have a1 : (d'.extract 0 ks.length) = d' := by rw [← hd']; exact Array.extract_size
      have a2 : (ks.toArray.extract 0 ks.length) = ks.toArray := by rw [← hs]; exact Array.extract_size
      rw [a1, a2] at p3
      exact p3
    have hW : Go.Sort.HoldsK encK 2 (sortWorldK encK 2 w g 0 n d' os) g 0 d' := by
      unfold sortWorldK
      refine Go.Sort.holdsK_grow _ _ _ _ _ _ _ ?_ (Go.Sort.holdsK_putRowK _ _ _ _ _ ks.toArray d' hH (by rw [hd', hs]))
      simpa [Go.Sort.putRowK, Go.Sort.putRow, Go.Sort.mapBlock, Go.Sort.ahead] using hlt
    have hbl : Below B w (sortWorldK encK 2 w g 0 n d' os) := sortW_below h4.1 hlt
    refine ⟨rfl, d'.toList, hperm, ?_, ?_, hbl⟩
    · rw [List.pairwise_iff_getElem]
      intro i j hi hj hij
      have := hsort i j (Nat.zero_le _) hij (by simpa [hd'] using hj)
      rw [ltK] at this
      simp only [Array.length_toList] at hi hj
      rw [get_bang' hi, get_bang' hj] at this
      simpa using this
    · have hI : ∀ x ∈ d'.toList, I64 x.1 ∧ I64 x.2 := by
        intro x hx
        obtain ⟨i, hi, rfl⟩ := List.getElem_of_mem (hperm.mem_iff.1 hx)
        exact (h5 i _ (List.getElem?_eq_getElem hi)).1.2
      refine ⟨some ⟨g, 0, none⟩, cap, fun i => encK d'[i]!, by simp [hd'], by simpa [hd'] using h1, h2, (fun h => by cases h), fun i x hx => ?_, fun _ => ⟨g, 0, rfl, Nat.lt_of_lt_of_le hlt hbl.size, fun i j u hi hu => ?_⟩⟩
      · have hi : i < d'.size := by have := (List.getElem?_eq_some_iff.1 hx).1; simpa using this
        have e : d'[i]! = x := by
          rw [get_bang' hi]
          have := (List.getElem?_eq_some_iff.1 hx).2
          simpa using this
        refine ⟨⟨?_, hI x (List.mem_of_getElem? hx)⟩, rfl⟩
        show encK d'[i]! = _
        rw [e]
        rfl
      · have hi' : i < d'.size := by simpa using hi
        have hj : j < 2 := by have := (List.getElem?_eq_some_iff.1 hu).1; simpa [encK] using this
        have := (hW.cell hi' hj).1
        rw [this]
        congr 1
        rw [List.getElem!_eq_getElem?_getD, hu]
        rfl

end Go.Proofs.Ytodoofdbpffolaa

/- A list of the call's own, and one element more put behind it. -/
namespace Go.Proofs.Ytodoofdbpffolaa
open Go.RowKit

/-- The list as a row of cells, with what its elements lead to. -/
theorem Ow.row {α : Type} {t : TypeId} {sz : Nat} {E : World → List Value → α → (Nat → Prop) → Prop} {w : World} {B M : Nat} {v : Value} {l : List α} (h : Ow t sz E w (In B M) v l) :
    ∃ (xs : List Value) (cs : Nat → List Value) (fs : Nat → Nat → Prop), w.ownsRow B t sz v l.length xs ∧ (∀ g, v.ownBlock = some g → g < M) ∧
      (∀ i x, l[i]? = some x → E w (cs i) x (fs i) ∧ (cs i).length = sz ∧ ∀ j u, (cs i)[j]? = some u → xs[i * sz + j]? = some u) ∧
      (∀ i b, i < l.length → fs i b → In B M b ∧ v.ownBlock ≠ some b) ∧ (∀ i j b, i < l.length → j < l.length → i ≠ j → fs i b → ¬ fs j b) := by
  rcases h with ⟨rfl, rfl⟩ | ⟨g, cap, cur, cs, fs, rfl, hh, h1, h2, h3, h4, h5, h6, h7⟩
  · exact ⟨[], fun _ => [], fun _ _ => False, ⟨by simp, .inl ⟨rfl, rfl⟩⟩, fun g hg => by simp [Value.ownBlock] at hg, by simp, by simp, by simp⟩
  · have hle : l.length * sz ≤ cur.size := by rw [h3]; exact Nat.mul_le_mul_right _ h1
    refine ⟨cur.toList.take (l.length * sz), cs, fs, ⟨by simp; omega, .inr ⟨g, cap, cur, rfl, h4.1, hh, h1, h2, h3, rfl⟩⟩, fun q hq => ?_, fun i x hx => ?_, fun i b hi hb => ⟨(h6 i b hi hb).1, ?_⟩, h7⟩
    · simp only [Value.ownBlock, Option.some.injEq] at hq
      subst hq
      exact h4.2
    · have hi : i < l.length := (List.getElem?_eq_some_iff.1 hx).1
      obtain ⟨e1, e2, e3⟩ := h5 i x hx
      refine ⟨e1, e2, fun j u hu => ?_⟩
      have hj : j < sz := by have := (List.getElem?_eq_some_iff.1 hu).1; omega
      have hb : i * sz + j < l.length * sz := by
        have := Nat.mul_le_mul_right sz (show i + 1 ≤ l.length by omega)
        rw [Nat.add_mul, Nat.one_mul] at this
        omega
      rw [List.getElem?_take, if_pos hb]
      simpa using e3 j u hu
    · simp only [Value.ownBlock, ne_eq, Option.some.injEq]
      exact fun e => (h6 i b hi hb).2 e.symm

/-- One element more: its cells stand behind the row, its footprint lies behind the list's. -/
theorem Ow.push {α : Type} {t : TypeId} {sz : Nat} {E : World → List Value → α → (Nat → Prop) → Prop} {w w' : World} {B M : Nat} {v v' : Value} {l : List α} (hE : Frames E) (h : Ow t sz E w (In B M) v l) (hM : M ≤ w.heap.size) (hBM : B ≤ M)
    (x : α) (c : List Value) (hc : c.length = sz) (he : E w c x (In M w.heap.size))
    (hr : ∀ xs, w.ownsRow B t sz v l.length xs → w'.ownsRow B t sz v' (l.length + 1) (xs ++ c)) (hg : w.grownBy w' v.ownBlock)
    (hn : ∀ g, v'.ownBlock = some g → v.ownBlock = some g ∨ w.heap.size ≤ g) : Ow t sz E w' (In B w'.heap.size) v' (l ++ [x]) := by
  obtain ⟨xs, cs, fs, r1, r2, r3, r4, r5⟩ := h.row
  have hlen := r1.1
  obtain ⟨k1, k2 | ⟨g, cap, cur, k3, k4, k5, k6, k7, k8, k9⟩⟩ := hr xs r1
  · exfalso
    have := k2.2
    omega
  · have hgl := lt_of_heap k5
    have hlw := hg.size
    have hgo : ∀ b, b < w.heap.size → v.ownBlock ≠ some b → w'.heap[b]? = w.heap[b]? := fun b hb hne => hg.block b hb fun e => hne e.symm
    refine .inr ⟨g, cap, cur, fun i => if i = l.length then c else cs i, fun i => if i = l.length then In M w.heap.size else fs i, ?_, k5, ?_, k7, k8, ⟨k4, hgl⟩, fun i y hy => ?_, fun i b hi hb => ?_, fun i j b hi hj hij hb hb' => ?_⟩
    · rw [k3]; simp
    · simpa using k6
    · have hxs : ∀ (m : Nat) (u : Value), (xs ++ c)[m]? = some u → cur[m]? = some u := by
        intro m u hu
        rw [← k9, List.getElem?_take] at hu
        split at hu
        · simpa using hu
        · cases hu
      by_cases hi : i = l.length
      · subst hi
        rw [List.getElem?_append_right (Nat.le_refl _)] at hy
        simp only [Nat.sub_self, List.getElem?_cons_zero, Option.some.injEq] at hy
        subst hy
        simp only [if_true]
        refine ⟨hE _ _ _ _ _ he fun b hb hlt => hgo b hlt fun e => ?_, hc, fun j u hu => hxs _ _ ?_⟩
        · have := r2 b e
          have := hb.1
          omega
        · rw [List.getElem?_append_right (by omega), hlen]
          simpa using hu
      · have hi' : i < l.length := by
          have := (List.getElem?_eq_some_iff.1 hy).1
          simp at this
          omega
        rw [List.getElem?_append_left hi'] at hy
        simp only [if_neg hi]
        obtain ⟨e1, e2, e3⟩ := r3 i y hy
        refine ⟨hE _ _ _ _ _ e1 fun b hb hlt => hgo b hlt (r4 i b hi' hb).2, e2, fun j u hu => hxs _ _ ?_⟩
        have h := e3 j u hu
        have hm : i * sz + j < xs.length := (List.getElem?_eq_some_iff.1 h).1
        rw [List.getElem?_append_left hm]
        exact h
    · simp only [List.length_append, List.length_cons, List.length_nil] at hi
      by_cases hil : i = l.length
      · simp only [if_pos hil] at hb
        refine ⟨⟨by have := hb.1; omega, by have := hb.2; omega⟩, fun e => ?_⟩
        subst e
        rcases hn b (by rw [k3]; rfl) with h | h
        · have := r2 b h
          have := hb.1
          omega
        · have := hb.2
          omega
      · simp only [if_neg hil] at hb
        have hi' : i < l.length := by omega
        obtain ⟨q1, q2⟩ := r4 i b hi' hb
        refine ⟨⟨q1.1, by have := q1.2; omega⟩, fun e => ?_⟩
        subst e
        rcases hn b (by rw [k3]; rfl) with h | h
        · exact q2 h
        · have := q1.2
          omega
    · simp only [List.length_append, List.length_cons, List.length_nil] at hi hj
      by_cases hil : i = l.length
      · have hjl : j ≠ l.length := fun e => hij (hil.trans e.symm)
        simp only [if_pos hil] at hb
        simp only [if_neg hjl] at hb'
        have := (r4 j b (by omega) hb').1.2
        have := hb.1
        omega
      · simp only [if_neg hil] at hb
        by_cases hjl : j = l.length
        · simp only [if_pos hjl] at hb'
          have := (r4 i b (by omega) hb).1.2
          have := hb'.1
          omega
        · simp only [if_neg hjl] at hb'
          exact r5 i j b (by omega) (by omega) hij hb hb'

end Go.Proofs.Ytodoofdbpffolaa

/- What lay of impl.mailMap does. -/
namespace Go.Proofs.Ytodoofdbpffolaa
open Go.RowKit Go.Maps
set_option maxRecDepth 100000
set_option linter.unusedVariables false
set_option linter.unusedSimpArgs false

def layE (E : Ents) (v : Int) (ms : List MailD) : Ents := ms.foldl (fun E m => putE E v m.uid m) E
theorem layE_step {E : Ents} {v : Int} {ms : List MailD} {k : Nat} {m : MailD} (h : ms[k]? = some m) : layE E v (ms.take (k + 1)) = putE (layE E v (ms.take k)) v m.uid m := by
  obtain ⟨hk, rfl⟩ := List.getElem?_eq_some_iff.1 h
  unfold layE
  rw [List.take_succ_eq_append_getElem hk, List.foldl_append]
  rfl
theorem gb_refl (w : World) (r : Option Nat) : w.grownBy w r := World.grownBy.refl _ _
theorem gb_alloc {w w' : World} {r : Option Nat} (h : w.grownBy w' r) (o : Obj) : w.grownBy (w'.alloc o) r := by
  refine ⟨h.os, h.tape, h.output, by simp; exact Nat.le_succ_of_le h.size, fun i hi hne => ?_⟩
  rw [← h.block i hi hne]
  exact ((Below.refl w'.heap.size w').alloc (Nat.le_refl _) o).block i (Nat.lt_of_lt_of_le hi h.size)
theorem gb_set {w w' : World} {r : Option Nat} (h : w.grownBy w' r) {b j : Nat} {u : Value} (hb : w.heap.size ≤ b) : w.grownBy (w'.setCell ⟨b, j, none⟩ u) r :=
  ⟨h.os, h.tape, h.output, by rw [box_size]; exact h.size, fun k hk hne => (Below.heap_setCell w' ⟨b, j, none⟩ u k (show k ≠ b by omega)).trans (h.block k hk hne)⟩
theorem gb_map {w w' w'' : World} {b : Nat} (h : w.grownBy w' (some b)) (k : w'.grownBy w'' (some b)) : w.grownBy w'' (some b) :=
  ⟨k.os.trans h.os, k.tape.trans h.tape, k.output.trans h.output, Nat.le_trans h.size k.size, fun i hi hne => (k.block i (Nat.lt_of_lt_of_le hi h.size) hne).trans (h.block i hi hne)⟩
theorem gb_at {w w' : World} {g b : Nat} {o : Obj} (h : w.grownBy w' (some g)) (hb : w.heap[b]? = some o) (hne : b ≠ g) : w'.heap[b]? = some o := (h.block b (lt_of_heap hb) fun e => hne (by simpa using e)).trans hb

set_option maxRecDepth 100000 in
set_option maxHeartbeats 2000000 in
theorem lay_any (g n : Nat) (E : Ents) (v : Value) (x : BoxD) (w : World) (h : MM w g n E) (hv : BoxV w v x) (hn : n ≤ 2000000) (hm : x.mails.length ≤ 2000000) :
    Calls Try.prog 23 #[.map (some g), v] w fun e w' => e = .returned (.tuple #[]) ∧ MM w' g (n + x.mails.length) (layE E x.valid x.mails) ∧ w.grownBy w' (some g) := by
  obtain ⟨u0, u1, u2, rfl, g0, g1, g2, i0, -⟩ := hv
  obtain ⟨a0, n0, c0, rfl⟩ := g0.form3
  obtain ⟨a1, c1, rfl, m0, m1⟩ := g1.form
  obtain ⟨a2, c2, rfl, -⟩ := g2.form
  obtain ⟨es, cl, hmap⟩ := h.block
  have hlt := h.lt
  have HV : Hid (∀ wi, w.grownBy wi (some g) → MailsV wi (.slice a1 x.mails.length c1) x.mails) := fun wi hg => MailsV.cellw g1 (cellw_map hmap hg)
  have HK : Hid _ := box_new w (.cells #[.slice a0 n0 c0, .int .i64 x.valid, .int .i64 x.next, .int .i64 x.seq, .slice a1 x.mails.length c1, .slice a2 x.gones.length c2, .int .i64 x.lost] 31)
  have HG : Hid (w.grownBy (w.alloc (.cells #[.slice a0 n0 c0, .int .i64 x.valid, .int .i64 x.next, .int .i64 x.seq, .slice a1 x.mails.length c1, .slice a2 x.gones.length c2, .int .i64 x.lost] 31)) (some g)) := gb_alloc (gb_refl _ _) _
  have HM : Hid (MM (w.alloc (.cells #[.slice a0 n0 c0, .int .i64 x.valid, .int .i64 x.next, .int .i64 x.seq, .slice a1 x.mails.length c1, .slice a2 x.gones.length c2, .int .i64 x.lost] 31)) g n E) := h.below ((Below.refl _ _).alloc (Nat.le_refl _) _)
  have I0 : Hid (I64 x.valid) := i0
  clear g0 g1 g2 h hmap i0
  obtain ⟨f0, f1, f2, f3, f4, f5, f6⟩ := bx7 HK.out
  go_enter Try.func23, Try.ntmps23
  go_wp2
  clear f0 f1 f2 f3 f4 f5 f6
  go_loopw [9] (fun i wr => ∃ k : Nat, k ≤ x.mails.length ∧ i = .int .i64 k ∧ Hid (MM wr g (n + k) (layE E x.valid (x.mails.take k))) ∧ Hid (w.grownBy wr (some g)) ∧ Hid (wr.heap[w.heap.size]? = some (.cells #[.slice a0 n0 c0, .int .i64 x.valid, .int .i64 x.next, .int .i64 x.seq, .slice a1 x.mails.length c1, .slice a2 x.gones.length c2, .int .i64 x.lost] 31 (0, 0)))) (fun i _ => x.mails.length - (intOf i).toNat)
  case atStart => exact ⟨0, Nat.zero_le _, rfl, HM.out, HG.out, HK.out⟩
  case round =>
    obtain ⟨k, hk, rfl, hM, hG, hK⟩ := hrel
    clear HM HG HK
    by_cases hlt2 : k < x.mails.length
    · obtain ⟨m, hx⟩ : ∃ m, x.mails[k]? = some m := ⟨x.mails[k], List.getElem?_eq_getElem hlt2⟩
      obtain ⟨b, off, cp, t, hv', hlb, e0, e1, e2, e3, ht, j0, j1, j2⟩ := MailsV.cell (HV.out wr hG.out) k m hx
      simp only [Value.slice.injEq, true_and] at hv'
      obtain ⟨rfl, rfl⟩ := hv'
      obtain ⟨f0, f1, f2, f3, f4, f5, f6⟩ := bx7 hK.out
      have ld := lt_of_heap hK.out
      have hki : (k : Int) < x.mails.length := by omega
      obtain ⟨ta, tn, tc, rfl⟩ := ht.form3
      have hA : Below wr.heap.size wr (wr.alloc (.cells #[.int .i64 m.uid, .int .i64 m.flags, .int .i64 m.seq, .slice ta tn tc] 43)) := (Below.refl _ _).alloc (Nat.le_refl _) _
      obtain ⟨w2, hrun, hM2, hG2⟩ := (hM.out.below hA).store (md := m) (by unfold maxLen; omega) I0.out j0 ⟨.slice ta tn tc, rfl, ht.below hA, j0, j1, j2⟩
      have HM2 : Hid (MM w2 g (n + (k + 1)) (layE E x.valid (x.mails.take (k + 1)))) := by
        rw [layE_step hx]
        exact hM2
      have HG2 : Hid (w.grownBy w2 (some g)) := gb_map (gb_alloc hG.out _) hG2
      have HK2 : Hid _ := gb_at hG2 (box_below hA hK.out) (by omega)
      clear hM2 hG2 hA hM hG
      go_wp2
      go_roundw
      case rel => exact ⟨k + 1, by omega, by simp, HM2.out, HG2.out, HK2.out⟩
      case measure => simp [intOf]; omega
    · have hkk : k = x.mails.length := by omega
      subst hkk
      go_wp2
      go_end0
      exact ⟨rfl, by simpa using hM.out, hG.out⟩

end Go.Proofs.Ytodoofdbpffolaa

/- One element more put behind a list of the call's own: the operation. -/
namespace Go.Proofs.Ytodoofdbpffolaa
open Go.RowKit

section
variable {α : Type} {P : Program} {w : World} {e t : TypeId} {sz bytes B M : Nat} {E : World → List Value → α → (Nat → Prop) → Prop} {v : Value} {l : List α}
theorem run_push (hE : Frames E) (h : Ow e sz E w (In B M) v l) (hM : M ≤ w.heap.size) (hBM : B ≤ M) (ty : TypeId) {i : TypeInfo} {z : Value} (ht : P.underlying t = some (.slice e)) (hi : P.info? e = some i) (hz : i.zero = some z) (hsize : i.size = sz) (hby : i.bytes = bytes) (hzs : z.cells.size = sz) (hsz : 0 < sz)
    (x : α) (c : List Value) (hc : c.length = sz) (he : E w c x (In M w.heap.size)) (ad : Addr) (cc : Nat) (hcell : ∀ j u, c[j]? = some u → w.cell? (ad.add j) = some u) (h1 : ∀ u ∈ c, u.oneCell' = true) (hl : l.length + 1 ≤ maxLen) (hb : (l.length + 1) * bytes ≤ 140737488355328) :
    ∃ v' w', (Builtin.append_ #[t, t] ty #[v, .slice (some ad) 1 cc]).run P w = .ok v' w' ∧ Ow e sz E w' (In B w'.heap.size) v' (l ++ [x]) ∧ w.grownBy w' v.ownBlock ∧ (∀ g, v.ownBlock = some g → B ≤ g ∧ g < M) := by
  obtain ⟨xs, cs, fs, r1, r2, r3, r4, r5⟩ := h.row
  obtain ⟨v', w', hr, h2, h3, h4, h5⟩ := run_append_own_at (P := P) w B t ty e i z sz bytes ht hi hz hsize hby hzs hsz v l.length xs r1 ad 1 cc c (by omega) hcell h1 hl hb (by omega)
  refine ⟨v', w', hr, h.push hE hM hBM x c hc he (fun ys hys => ?_) h3 (fun g hg => ?_), h3, fun g hg => ⟨?_, r2 g hg⟩⟩
  · obtain ⟨k1, k2⟩ := hys
    obtain ⟨m1, m2⟩ := r1
    have e : ys = xs := by
      rcases k2 with ⟨k3, k4⟩ | ⟨g, cap, cur, k3, k4, k5, k6, k7, k8, k9⟩
      · rw [k4, Nat.zero_mul, List.length_eq_zero_iff] at k1
        rw [k4, Nat.zero_mul, List.length_eq_zero_iff] at m1
        rw [k1, m1]
      · rcases m2 with ⟨m3, m4⟩ | ⟨g', cap', cur', m3, m4, m5, m6, m7, m8, m9⟩
        · rw [m3] at k3
          cases k3
        · rw [m3] at k3
          simp only [Value.slice.injEq, Option.some.injEq, Addr.mk.injEq] at k3
          obtain ⟨⟨rfl, -⟩, -⟩ := k3
          rw [m5] at k5
          simp only [Option.some.injEq, Obj.cells.injEq] at k5
          obtain ⟨rfl, -⟩ := k5
          rw [← k9, ← m9]
    rw [e]
    exact h2
  · rcases h5 with h5 | h5
    · exact .inl (h5 ▸ hg)
    · rw [h5] at hg
      exact .inr (by simp only [Option.some.injEq] at hg; omega)
  · obtain ⟨m1, m2⟩ := r1
    rcases m2 with ⟨m3, m4⟩ | ⟨g', cap', cur', m3, m4, m5, m6, m7, m8, m9⟩
    · rw [m3] at hg
      simp [Value.ownBlock] at hg
    · rw [m3] at hg
      simp only [Value.ownBlock, Option.some.injEq] at hg
      omega
/-- The operation in a region that draws. -/
theorem wp_push {o : Oper} {a : Act} {K : Act → World → Prop} {Q : Exit → Act → World → Prop} (d : Nat) (hd : o.dst = some d) (s y : Operand)
    (ho : o.op = .call { callee := .builtin .append, args := #[s, y], argTypes := #[t, t] }) (hE : Frames E) (h : Ow e sz E w (In B M) v l) (hM : M ≤ w.heap.size) (hBM : B ≤ M) {i : TypeInfo} {z : Value} (ht : P.underlying t = some (.slice e)) (hi : P.info? e = some i) (hz : i.zero = some z) (hsize : i.size = sz) (hby : i.bytes = bytes) (hzs : z.cells.size = sz) (hsz : 0 < sz)
    (hs : a.eval s = v) (x : α) (c : List Value) (hc : c.length = sz) (he : E w c x (In M w.heap.size)) (ad : Addr) (cc : Nat) (hy : a.eval y = .slice (some ad) 1 cc) (hcell : ∀ j u, c[j]? = some u → w.cell? (ad.add j) = some u) (h1 : ∀ u ∈ c, u.oneCell' = true) (hl : l.length + 1 ≤ maxLen) (hb : (l.length + 1) * bytes ≤ 140737488355328)
    (k : ∀ v' w', Ow e sz E w' (In B w'.heap.size) v' (l ++ [x]) → w.grownBy w' v.ownBlock → (∀ g, v.ownBlock = some g → B ≤ g ∧ g < M) → K (a.put (some d) v') w') : o.wp P a w K Q := by
  obtain ⟨v', w', hr, h2, h3, h4⟩ := run_push (P := P) (t := t) hE h hM hBM o.type ht hi hz hsize hby hzs hsz x c hc he ad cc hcell h1 hl hb
  unfold Oper.wp execOp
  simp only [ho, resolve, invoke, builtin, Sem.run_bind, Sem.run_pure, Result.andThen_ok, List.map_toArray, List.map_cons, List.map_nil, hs, hy, hr]
  have := k v' w' h2 h3 h4
  rw [← hd] at this
  exact this
/-- The operation in a region that goes in the text's order. -/
theorem wpList_push {ops : Array Oper} {rest : List Oper} {o : Oper} {a : Act} {Q : Exit → Act → World → Prop} (hgd : o.guard = none) (s y : Operand)
    (ho : o.op = .call { callee := .builtin .append, args := #[s, y], argTypes := #[t, t] }) (hE : Frames E) (h : Ow e sz E w (In B M) v l) (hM : M ≤ w.heap.size) (hBM : B ≤ M) {i : TypeInfo} {z : Value} (ht : P.underlying t = some (.slice e)) (hi : P.info? e = some i) (hz : i.zero = some z) (hsize : i.size = sz) (hby : i.bytes = bytes) (hzs : z.cells.size = sz) (hsz : 0 < sz)
    (hs : a.eval s = v) (x : α) (c : List Value) (hc : c.length = sz) (he : E w c x (In M w.heap.size)) (ad : Addr) (cc : Nat) (hy : a.eval y = .slice (some ad) 1 cc) (hcell : ∀ j u, c[j]? = some u → w.cell? (ad.add j) = some u) (h1 : ∀ u ∈ c, u.oneCell' = true) (hl : l.length + 1 ≤ maxLen) (hb : (l.length + 1) * bytes ≤ 140737488355328)
    (k : ∀ v' w', Ow e sz E w' (In B w'.heap.size) v' (l ++ [x]) → w.grownBy w' v.ownBlock → (∀ g, v.ownBlock = some g → B ≤ g ∧ g < M) → wpList P ops Q rest (a.put o.dst v') w') : wpList P ops Q (o :: rest) a w := by
  refine wpList_plain hgd fun K hK => ?_
  obtain ⟨v', w', hr, h2, h3, h4⟩ := run_push (P := P) (t := t) hE h hM hBM o.type ht hi hz hsize hby hzs hsz x c hc he ad cc hcell h1 hl hb
  unfold Oper.wp execOp
  simp only [ho, resolve, invoke, builtin, Sem.run_bind, Sem.run_pure, Result.andThen_ok, List.map_toArray, List.map_cons, List.map_nil, hs, hy, hr]
  exact hK _ _ (k v' w' h2 h3 h4)
end
theorem ite_w {c : Bool} {A B : Prop} (hc : c = true) (h : A) : if c = true then A else B := by rw [if_pos hc]; exact h
/-- What is new by one element stands in its block. -/
theorem cells_new (w : World) (cs : Array Value) (t : TypeId) : ∀ j u, cs.toList[j]? = some u → (w.alloc (.cells cs t)).cell? ((⟨w.heap.size, 0, none⟩ : Addr).add j) = some u := by
  intro j u hu
  have h := box_new w (.cells cs t)
  rw [Addr.add_lit, Nat.zero_add, cell_of_row _ _ _ _ _ (0, 0) h]
  simpa using hu
/-- What lies below the list stays. -/
theorem grown_below {w0 w w' : World} {v : Value} {N B : Nat} (h0 : Below N w0 w) (hg : w.grownBy w' v.ownBlock) (hv : ∀ g, v.ownBlock = some g → B ≤ g) (hB : N ≤ B) (hN : N ≤ w.heap.size) : Below N w0 w' :=
  ⟨hg.os.trans h0.os, hg.tape.trans h0.tape, hg.output.trans h0.output, Nat.le_trans h0.size hg.size, fun k hk => (hg.block k (by omega) fun e => by have := hv k e.symm; omega).trans (h0.block k hk)⟩
theorem grown_at {w w' : World} {v : Value} {B g : Nat} {o : Obj} (hg : w.grownBy w' v.ownBlock) (hv : ∀ g, v.ownBlock = some g → B ≤ g) (h : w.heap[g]? = some o) (hB : g < B) : w'.heap[g]? = some o :=
  (hg.block g (lt_of_heap h) fun e => by have := hv g e.symm; omega).trans h

end Go.Proofs.Ytodoofdbpffolaa

/- What keysOf of impl.mailMap does. -/
namespace Go.Proofs.Ytodoofdbpffolaa
open Go.RowKit Go.Maps
set_option maxRecDepth 100000
set_option linter.unusedVariables false
set_option linter.unusedSimpArgs false

theorem infoKey : (Try.prog.info? 55).map (fun i => (i.zero, i.size, i.bytes)) = some (some (.agg #[.int .i64 0, .int .i64 0]), 2, 16) := by kernel_rfl

/-- What is known of the keys that have come, while others are left. -/
structure KInv (E : Ents) (v : Int) (left : Lit → Bool) (ks : List Int) : Prop where
  mem : ∀ u ∈ ks, I64 u ∧ (findE E v u).isSome = true ∧ left (klOf v u) = false
  nodup : ks.Nodup
  all : ∀ u, I64 u → (findE E v u).isSome = true → left (klOf v u) = true ∨ u ∈ ks
theorem KInv.skip {E : Ents} {v : Int} {left : Lit → Bool} {ks : List Int} (h : KInv E v left ks) (hv : I64 v) {x1 x2 : Int} (h1 : I64 x1) (h2 : I64 x2) (hne : x1 ≠ v) : KInv E v (fun z => left z && !z.sameKey (klOf x1 x2)) ks := by
  have hk : ∀ u, I64 u → (klOf v u).sameKey (klOf x1 x2) = false := fun u hu => sameKey_ne (fun e => hne (klOf_inj hv hu h1 h2 e).1.symm)
  refine ⟨fun u hu => ⟨(h.mem u hu).1, (h.mem u hu).2.1, by simp [(h.mem u hu).2.2]⟩, h.nodup, fun u hu hs => ?_⟩
  rcases h.all u hu hs with h' | h'
  · left; simp [h', hk u hu]
  · exact .inr h'
theorem KInv.step {E : Ents} {v : Int} {left : Lit → Bool} {ks : List Int} (h : KInv E v left ks) (hv : I64 v) {x2 : Int} (h2 : I64 x2) (hl : left (klOf v x2) = true) (hs : (findE E v x2).isSome = true) : KInv E v (fun z => left z && !z.sameKey (klOf v x2)) (ks ++ [x2]) := by
  have hnot : x2 ∉ ks := fun hm => by rw [(h.mem x2 hm).2.2] at hl; cases hl
  have hself : (klOf v x2).sameKey (klOf v x2) = true := WideAt.sameKey_self (klOf_key hv h2)
  refine ⟨fun u hu => ?_, ?_, fun u hu hf => ?_⟩
  · rcases List.mem_append.1 hu with hu | hu
    · exact ⟨(h.mem u hu).1, (h.mem u hu).2.1, by simp [(h.mem u hu).2.2]⟩
    · rw [List.mem_singleton] at hu
      subst hu
      exact ⟨h2, hs, by simp [hself]⟩
  · rw [List.nodup_append]
    exact ⟨h.nodup, by simp, fun a ha b hb => by rw [List.mem_singleton] at hb; subst hb; exact fun e => hnot (e ▸ ha)⟩
  · by_cases e : u = x2
    · subst e; right; simp
    · rcases h.all u hu hf with h' | h'
      · left
        have : (klOf v u).sameKey (klOf v x2) = false := sameKey_ne (fun e2 => e (klOf_inj hv hu hv h2 e2).2)
        simp [h', this]
      · right; simp [h']

def mkKey (p : Int × Int) : Value := .agg #[.int .i64 p.1, .int .i64 p.2]
theorem invKey : ∀ key kl, keyOf Try.prog 55 key = some kl → ∃ x, key = (fun p : Int × Int => Value.agg #[.int .i64 p.1, .int .i64 p.2]) x := fun key kl h => by
  obtain ⟨v, u, rfl, -⟩ := keyOf_inv h
  exact ⟨(v, u), rfl⟩
theorem invMail : ∀ v y, RM v = some y → ∃ c, v = mailVal c := fun v y h => (rm_inv h).1

theorem sorted_eq : ∀ {l m : List Int}, l.Perm m → l.Pairwise (fun a b => ¬ b < a) → m.Pairwise (· < ·) → l = m
  | [], m, hp, _, _ => by simpa using hp.symm.eq_nil.symm
  | a :: l, [], hp, _, _ => by simpa using hp.eq_nil
  | a :: l, b :: m, hp, hl, hm => by
    obtain ⟨l1, l2⟩ := List.pairwise_cons.1 hl
    obtain ⟨m1, m2⟩ := List.pairwise_cons.1 hm
    have e : a = b := by
      have ha : a ∈ b :: m := hp.mem_iff.1 (by simp)
      have hb : b ∈ a :: l := hp.mem_iff.2 (by simp)
      rcases List.mem_cons.1 ha with h | h
      · exact h
      · rcases List.mem_cons.1 hb with h' | h'
        · exact h'.symm
        · have := m1 a h
          have := l1 b h'
          omega
    subst e
    rw [sorted_eq (List.Perm.cons_inv hp) l2 m2]
theorem keys_sorted {v : Int} {us : List Int} {ks : List (Int × Int)} (hus : us.Pairwise (· < ·)) (hp : ks.Perm (us.map fun u => (v, u))) (hs : ks.Pairwise (fun a b => ¬ b.2 < a.2)) : ks = us.map fun u => (v, u) := by
  have h1 : ks.map (fun x => x.2) = us := by
    refine sorted_eq ?_ (List.pairwise_map.2 hs) hus
    have h3 := hp.map (fun x => x.2)
    have e : (us.map fun u => (v, u)).map (fun x => x.2) = us := by
      rw [List.map_map]
      exact List.map_id us
    rw [e] at h3
    exact h3
  have h2 : ∀ x ∈ ks, x.1 = v := by
    intro x hx
    obtain ⟨u, -, rfl⟩ := List.mem_map.1 (hp.mem_iff.1 hx)
    rfl
  rw [← h1, List.map_map]
  refine (List.map_id ks).symm.trans (List.map_congr_left fun x hx => ?_)
  obtain ⟨a, b⟩ := x
  have := h2 _ hx
  simp only at this
  subst this
  rfl

set_option maxRecDepth 100000 in
set_option maxHeartbeats 2000000 in
theorem keysOf_any (g n : Nat) (E : Ents) (v : Int) (us : List Int) (w : World) (h : MM w g n E) (hn : n ≤ 2000000) (hv : I64 v) (hus : us.Pairwise (· < ·)) (hmem : ∀ u, u ∈ us ↔ I64 u ∧ (findE E v u).isSome = true) (h12 : us.length ≤ 12) :
    Calls Try.prog 46 #[.map (some g), .int .i64 v] w fun e w' => ∃ kv, e = .returned kv ∧ KeysV w' kv (us.map fun u => (v, u)) ∧ Below w.heap.size w w' := by
  obtain ⟨D, hown, hsz, hdist, hi64, h5⟩ := h
  have hlt := hown.lt
  have hle := hown.size_le
  have HH : Hid (∀ x1 x2, I64 x1 → I64 x2 → Maps.has D (klOf x1 x2) = (findE E x1 x2).isSome) := fun x1 x2 a b => MM.has (h5 x1 x2 a b)
  have HU : Hid (us.Pairwise (· < ·) ∧ (∀ u, u ∈ us ↔ I64 u ∧ (findE E v u).isSome = true) ∧ us.length ≤ 12) := ⟨hus, hmem, h12⟩
  have HV : Hid (I64 v) := hv
  obtain ⟨z0, hi, hz0, hz1, hz2⟩ := info_parts infoKey
  clear h5 hus hmem h12 hdist hi64 hv
  go_enter Try.func46, Try.ntmps46
  go_wp2_with (first
    | (at_range; refine wpList_range_own _ rfl _ 50 rfl 55 43 keyLaw undMM RM g n D rfl hown ?_; intro w0 hrg0 hg0 hs0)
    | go_in)
  go_frame
  have HR0 : Hid _ := hrg0
  have HB0 : Hid (Below w.heap.size w w0) := ⟨hg0.os, hg0.tape, hg0.output, hg0.size, fun k hk => hg0.block k hk (by simp)⟩
  have HS0 : w.heap.size + 1 ≤ w0.heap.size := by omega
  clear hrg0 hg0 hown hs0
  go_loopw [5] (fun kv wr => ∃ (ks : List Int) (left : Lit → Bool) (cnt : Nat) (ka : Option Addr) (kn kc : Nat), kv = .slice ka kn kc ∧ ks.length + cnt ≤ n ∧ Hid (wr.ranges Try.prog 55 RM g w.heap.size n D left cnt) ∧ Hid (Below w.heap.size w wr) ∧ w.heap.size + 1 ≤ wr.heap.size ∧ Hid (Ow 55 2 KeyOE wr (In (w.heap.size + 1) wr.heap.size) (.slice ka kn kc) (ks.map fun u => (v, u))) ∧ Hid (KInv E v left ks))
    (fun _ wr => wr.rangeLeft g w.heap.size)
  case atStart => exact ⟨[], _, _, none, 0, 0, rfl, by simp; omega, HR0.out, HB0.out, HS0, .inl ⟨rfl, rfl⟩, ⟨by simp, List.nodup_nil, fun u hu hs => .inl ((HH.out v u HV.out hu).trans hs)⟩⟩
  case round =>
    obtain ⟨ks, left, cnt, ka, kn, kc, rfl, hcnt, hR, hB, hS, hO, hK⟩ := hrel
    clear HR0 HB0 HS0
    have hrg := hR.out
    go_wp2_with (first
      | (at_next; refine wpList_next_ranges _ rfl _ rfl 55 keyLaw RM (fun p : Int × Int => Value.agg #[.int .i64 p.1, .int .i64 p.2]) mailVal invKey invMail g w.heap.size n D left cnt rfl hrg ?_ ?_)
      | go_in)
    · intro _ hl0
      have hall : ∀ u, u ∈ ks ↔ u ∈ us := fun u => ⟨fun hu => (HU.out.2.1 u).2 ⟨(hK.out.mem u hu).1, (hK.out.mem u hu).2.1⟩, fun hu => by
        obtain ⟨a, b⟩ := (HU.out.2.1 u).1 hu
        rcases hK.out.all u a b with h' | h'
        · rw [hl0] at h'; cases h'
        · exact h'⟩
      have hnd : us.Nodup := HU.out.1.imp (fun h => Int.ne_of_lt h)
      have hperm : ks.Perm us := (List.perm_ext_iff_of_nodup hK.out.nodup hnd).2 hall
      have HP : Hid (ks.Perm us) := hperm
      have hlen : ks.length ≤ 12 := by rw [hperm.length_eq]; exact HU.out.2.2
      have hcall := sortK_any _ _ _ _ hO.out (by simpa using hlen)
      have hsz2 := hO.out
      clear hperm hnd hall hrg hR
      go_wp2_with fail
      refine hcall.mono ?_
      rintro e w' ⟨rfl, ks', p1, p2, p3, p4⟩
      go_wp2
      go_ret
      refine ⟨_, rfl, ?_, hB.out.trans (p4.mono (by omega))⟩
      rw [← keys_sorted HU.out.1 (p1.trans (HP.out.map fun u => (v, u))) (p2.imp fun h => Int.not_lt.2 h)]
      exact p3
    · intro x1 x2 c1 c2 c3 c4 c5 c6 kl y1 y2 w1 cnt1 hkey hlk hvy hat hrg1 hlt1 hg1 hs1 hen
      obtain ⟨v', u', ek, rfl, hx1, hx2⟩ := keyOf_inv hkey
      simp only [keyV, Value.agg.injEq] at ek
      obtain ⟨rfl, rfl⟩ : x1 = v' ∧ x2 = u' := by simpa using ek
      have hsome : (findE E x1 x2).isSome = true := by
        rw [← HH.out x1 x2 hx1 hx2]
        exact has_true_of_atKey hat
      have HR1 : Hid (w1.ranges Try.prog 55 RM g w.heap.size n D (fun z => left z && !z.sameKey (klOf x1 x2)) cnt1) := hrg1
      have HS1 : Hid (w1.heap.size = wr.heap.size) := hs1
      have hr : w.heap.size < wr.heap.size := by omega
      have HB1 : Hid (Below w.heap.size w w1) := ⟨hg1.os.trans hB.out.os, hg1.tape.trans hB.out.tape, hg1.output.trans hB.out.output, Nat.le_trans hB.out.size hg1.size, fun k hk => (hg1.block k (by omega) (fun e => by have := Option.some.inj e; omega)).trans (hB.out.block k hk)⟩
      have HO1 : Hid (Ow 55 2 KeyOE w1 (In (w.heap.size + 1) wr.heap.size) (.slice ka kn kc) (ks.map fun u => (v, u))) := Ow.frame framesKey hO.out fun b hb hlt => hg1.block b hlt (fun e => by have := Option.some.inj e; have := hb.1; omega)
      have HL : Hid (left (klOf x1 x2) = true) := hlk
      have HX : Hid (I64 x1 ∧ I64 x2 ∧ (findE E x1 x2).isSome = true) := ⟨hx1, hx2, hsome⟩
      have A1 : Below w1.heap.size w1 (w1.alloc (.cells #[.int .i64 x1, .int .i64 x2] 55)) := (Below.refl _ _).alloc (Nat.le_refl _) _
      have hs : w.heap.size + 1 ≤ w1.heap.size := by omega
      clear hat hkey hvy hlk ek hsome hrg1 hR hO hB hx1 hx2 hs1 hr
      by_cases hx : x1 = v
      · subst hx
        have hp1 : (ks.map fun u => (x1, u)).length + 1 ≤ maxLen := by rw [List.length_map]; unfold maxLen; omega
        have hp2 : ((ks.map fun u => (x1, u)).length + 1) * 16 ≤ 140737488355328 := by rw [List.length_map]; omega
        have A2 : Below w1.heap.size w1 ((w1.alloc (.cells #[.int .i64 x1, .int .i64 x2] 55)).alloc (.cells #[.int .i64 x1, .int .i64 x2] 55)) := A1.alloc (by simp) _
        have HA2 : Hid (Below w1.heap.size w1 _) := A2
        have HOp : Hid (Ow 55 2 KeyOE _ (In (w.heap.size + 1) w1.heap.size) (.slice ka kn kc) (ks.map fun u => (x1, u))) := Ow.below framesKey (by rw [HS1.out]; exact HO1.out) A2
        have HE : Hid (KeyOE ((w1.alloc (.cells #[.int .i64 x1, .int .i64 x2] 55)).alloc (.cells #[.int .i64 x1, .int .i64 x2] 55)) [.int .i64 x1, .int .i64 x2] (x1, x2) (In w1.heap.size ((w1.alloc (.cells #[.int .i64 x1, .int .i64 x2] 55)).alloc (.cells #[.int .i64 x1, .int .i64 x2] 55)).heap.size)) := ⟨rfl, HX.out.1, HX.out.2.1⟩
        have HC : Hid (∀ j u, [Value.int .i64 x1, .int .i64 x2][j]? = some u → ((w1.alloc (.cells #[.int .i64 x1, .int .i64 x2] 55)).alloc (.cells #[.int .i64 x1, .int .i64 x2] 55)).cell? ((⟨w1.heap.size + 1, 0, none⟩ : Addr).add j) = some u) := by
          intro j u hu
          have h := cells_new (w1.alloc (.cells #[.int .i64 x1, .int .i64 x2] 55)) #[.int .i64 x1, .int .i64 x2] 55 j u hu
          rw [show (w1.alloc (.cells #[.int .i64 x1, .int .i64 x2] 55)).heap.size = w1.heap.size + 1 by simp] at h
          exact h
        have hMs := A2.size
        have hone : ∀ u ∈ [Value.int .i64 x1, .int .i64 x2], u.oneCell' = true := by
          intro u hu
          simp at hu
          rcases hu with rfl | rfl <;> rfl
        clear A1 A2
        go_wp2_with (at_builtin; refine wpList_push rfl (.tmp 17) (.tmp 19) rfl framesKey (B := w.heap.size + 1) (M := w1.heap.size) HOp.out hMs hs Try.underlying71 hi hz0 hz1 hz2 rfl (by omega) rfl (x1, x2) [.int .i64 x1, .int .i64 x2] rfl HE.out ⟨w1.heap.size + 1, 0, none⟩ 1 rfl HC.out hone hp1 hp2 ?_)
        intro kv2 w3 hO3 hG3 hV3
        have HO3 : Hid (Ow 55 2 KeyOE w3 (In (w.heap.size + 1) w3.heap.size) kv2 ((ks ++ [x2]).map fun u => (x1, u))) := by
          rw [List.map_append]
          exact hO3
        obtain ⟨ka2, kn2, kc2, rfl⟩ : ∃ a n c, kv2 = .slice a n c := by
          rcases hO3 with ⟨h, -⟩ | ⟨_, _, _, _, _, h, -⟩
          · exact ⟨_, _, _, h⟩
          · exact ⟨_, _, _, h⟩
        have hge : ∀ j, (Value.slice ka kn kc).ownBlock = some j → w.heap.size + 1 ≤ j := fun j hj => (hV3 j hj).1
        have hgne : ∀ b, b < w.heap.size + 1 → some b ≠ (Value.slice ka kn kc).ownBlock := fun b hb e => by have := hge b e.symm; omega
        have HR3 : Hid (w3.ranges Try.prog 55 RM g w.heap.size n D (fun z => left z && !z.sameKey (klOf x1 x2)) cnt1) := ((HR1.out.alloc _).alloc _).kept hG3 (hgne g (by omega)) (hgne _ (by omega))
        have HB3 : Hid (Below w.heap.size w w3) := grown_below (Below.step HB1.out HA2.out) hG3 hge (by omega) (by have := HA2.out.size; omega)
        have hs3 : w.heap.size + 1 ≤ w3.heap.size := by have := HA2.out.size; have := hG3.size; omega
        clear hO3 hG3 hV3 hge hgne HOp HE HC HA2 hMs
        go_wp2
        go_roundw
        case rel => exact ⟨ks ++ [x2], _, cnt1, ka2, kn2, kc2, rfl, by simp; omega, HR3.out, HB3.out, hs3, HO3.out, hK.out.step HV.out HX.out.2.1 HL.out HX.out.2.2⟩
        case measure => rw [HR3.out.left_eq, hrg.left_eq]; omega
      · have hne : (x1 == v) = false := by simpa using hx
        have HX2 : Hid (x1 ≠ v) := hx
        clear hx
        go_wp2
        go_roundw
        case rel => exact ⟨ks, _, cnt1, ka, kn, kc, rfl, by omega, HR1.out.alloc _, Below.step HB1.out A1, by simp; omega, Ow.mono (Ow.below framesKey HO1.out A1) (fun b hb => ⟨hb.1, by have := hb.2; have := HS1.out; simp; omega⟩), hK.out.skip HV.out HX.out.1 HX.out.2.1 HX2.out⟩
        case measure => rw [(HR1.out.alloc _).left_eq, hrg.left_eq]; omega

end Go.Proofs.Ytodoofdbpffolaa

/- What joined of package impl does. -/
namespace Go.Proofs.Ytodoofdbpffolaa
open Go.RowKit
set_option maxRecDepth 100000

set_option maxHeartbeats 400000 in
theorem joined_any (v u : Value) (l m : List Int) (w : World) (hv : Bs w v l) (hu : Bs w u m) (hl : l.length ≤ 4000000) (hm : m.length ≤ 4000000) :
    Calls Try.prog 45 #[v, u] w fun e w' => ∃ r, e = .returned r ∧ OwnB w' w.heap.size r (l ++ m) ∧ Below w.heap.size w w' := by
  have HV : Hid (Bs w v l) := hv
  have HU : Hid (Bs w u m) := hu
  obtain ⟨ho, a, cap, rfl, -⟩ := hv
  obtain ⟨ho', a', cap', rfl, -⟩ := hu
  obtain ⟨i0, hi, hz0, hz1, hz2⟩ := info_parts info5
  go_enter Try.func45, Try.ntmps45
  go_wp2_with (at_make; refine wpList_make_full _ rfl _ _ 22 rfl w.heap.size 5 i0 (.int .u8 0) 1 Try.underlying22 hi hz0 hz1 _ _ _ _ (l.length + m.length) rfl rfl (by omega) (by omega) (by rw [hz2]; omega) (by unfold maxLen; omega) (Nat.le_refl _) ?_)
  intro w1 hown hgrow
  have hB1 := (Below.refl w.heap.size w).grown hgrow (Nat.le_refl _) (by simp)
  have HR1 : Hid (w1.heap[w.heap.size]? = some (.cells (vals (List.replicate (l.length + m.length) 0)).toArray 5 (0, 0))) := by
    have := made_heap hown
    simpa [Hid, vals] using this
  clear hown hgrow
  go_wp2_with (refine wpList_copy_bytes rfl (.tmp 12) (.tmp 13) 22 22 rfl Try.underlying22 sz5 _ _ _ rfl _ l rfl (HV.out.below hB1) l.length (Nat.min_eq_left (Nat.le_add_right _ _)).symm w.heap.size 0 _ HR1.out (fun _ => rfl) (by simp) w.heap.size w hB1 (Nat.le_refl _) ?_)
  intro w2 HR2 hB2
  have hlen : (splice (List.replicate (l.length + m.length) (0 : Int)) 0 l).length = l.length + m.length := by rw [length_splice _ _ _ (by simp)]; simp
  have HL : Hid ((splice (List.replicate (l.length + m.length) (0 : Int)) 0 l).length = l.length + m.length) := hlen
  clear hlen
  have HE : Hid (splice (splice (List.replicate (l.length + m.length) (0 : Int)) 0 l) l.length m = l ++ m) := splice_two _ _ _ (by simp)
  by_cases hm0 : m = []
  · subst hm0
    go_wp2_with (refine wpList_copy_bytes rfl (.tmp 18) (.tmp 19) 22 22 rfl Try.underlying22 sz5 _ _ _ rfl _ [] rfl (HU.out.below hB2) 0 (Nat.min_eq_left (Nat.zero_le _)).symm w.heap.size l.length _ HR2.out (fun h => absurd h (by omega)) (by rw [HL.out]; omega) w.heap.size w hB2 (Nat.le_refl _) ?_)
    intro w3 HR3 hB3
    have HR4 : Hid (w3.heap[w.heap.size]? = some (.cells (vals (l ++ [])).toArray 5 (0, 0))) := by
      rw [← HE.out]; simpa using HR3
    clear HR3
    go_wp2
    go_ret
    have := own_made (oct_append ho ho') (by simp [maxLen]; omega) HR4.out
    exact ⟨_, rfl, ⟨_, Nat.le_refl _, by simpa using this⟩, hB3⟩
  · have hm1 : 0 < m.length := List.length_pos_iff.2 hm0
    go_wp2_with (refine wpList_copy_bytes rfl (.tmp 18) (.tmp 19) 22 22 rfl Try.underlying22 sz5 _ _ _ rfl _ m rfl (HU.out.below hB2) m.length (Nat.min_eq_left (by omega)).symm w.heap.size l.length _ HR2.out (fun _ => rfl) (by rw [HL.out]; omega) w.heap.size w hB2 (Nat.le_refl _) ?_)
    intro w3 HR3 hB3
    have HR4 : Hid (w3.heap[w.heap.size]? = some (.cells (vals (l ++ m)).toArray 5 (0, 0))) := by
      rw [← HE.out]; exact HR3
    clear HR3
    go_wp2
    go_ret
    have := own_made (oct_append ho ho') (by simp [maxLen]; omega) HR4.out
    exact ⟨_, rfl, ⟨_, Nat.le_refl _, by simpa using this⟩, hB3⟩

theorem joined_r (v u : Value) (l m : List Int) (w : World) (hv : Bs w v l) (hu : Bs w u m) (hl : l.length ≤ 4000000) (hm : m.length ≤ 4000000) :
    Calls Try.prog 45 #[v, u] w fun e w' => ∃ r, e = .returned r ∧ Row w' w.heap.size w'.heap.size r (l ++ m) ∧ Below w.heap.size w w' :=
  (joined_any v u l m w hv hu hl hm).mono fun _ _ ⟨u, h1, h2, h3⟩ => ⟨u, h1, h2.toRow, h3⟩

end Go.Proofs.Ytodoofdbpffolaa

/- What copiedMail and bareBox of package impl do. -/
namespace Go.Proofs.Ytodoofdbpffolaa
open Go.RowKit
set_option maxRecDepth 100000
set_option linter.unusedVariables false

set_option maxRecDepth 100000 in
set_option maxHeartbeats 1000000 in
theorem copiedMail_o (v : Value) (x : MailD) (w : World) (hv : MailV w v x) (h0 : x.text.length ≤ 2000000) :
    Calls Try.prog 47 #[v] w fun e w' => ∃ a n c, e = .returned (.agg #[.int .i64 x.uid, .int .i64 x.flags, .int .i64 x.seq, .slice a n c]) ∧ MailE w' [.int .i64 x.uid, .int .i64 x.flags, .int .i64 x.seq, .slice a n c] x (In w.heap.size w'.heap.size) ∧ Below w.heap.size w w' := by
  obtain ⟨u, rfl, g0, i0, i1, i2⟩ := hv
  obtain ⟨uid, flags, seq, text⟩ := x
  simp only at g0 i0 i1 i2 h0
  have H0 : Hid (∀ wi, Below w.heap.size w wi → Bs wi u text) := fun wi h => g0.below h
  obtain ⟨a0, n0, c0, rfl⟩ := g0.form3
  have HI : Hid (I64 uid ∧ I64 flags ∧ I64 seq) := ⟨i0, i1, i2⟩
  clear g0 i0 i1 i2
  simp only
  obtain ⟨kA, kR, X⟩ := boxes2 w (.cells #[.int .i64 uid, .int .i64 flags, .int .i64 seq, .slice a0 n0 c0] 43) (.cells #[.int .i64 0, .int .i64 0, .int .i64 0, .slice none 0 0] 43)
  go_enter Try.func47, Try.ntmps47
  go_wp2_with fail
  refine (joined_r _ _ text [] _ (H0.out _ X) (bs_nil _) (by omega) (by simp)).mono ?_
  rintro e w1 ⟨u0, rfl, R0, B⟩
  rw [List.append_nil] at R0
  obtain ⟨x0, m0, y0, rfl⟩ := R0.bs.form3
  replace kA := box_below B kA
  replace kR := box_below B kR
  have s1 : w.heap.size + 2 ≤ w1.heap.size := by have := B.size; simp at this; omega
  replace X := Below.step X B
  replace R0 := R0.wide (B' := w.heap.size + 2) (T' := w1.heap.size) (by simp) (Nat.le_refl _)
  clear B
  obtain ⟨oz, ol⟩ := box8z kA
  obtain ⟨o0, o1, o2, o3⟩ := bx4 kA
  obtain ⟨rz, rl⟩ := box8z kR
  obtain ⟨r0, r1, r2, r3⟩ := bx4 kR
  go_wp2
  refine bodyPost_ret (v := .agg #[.int .i64 uid, .int .i64 flags, .int .i64 seq, .slice x0 m0 y0]) (by simp [results, Try.results47, go_sem, r0, r1, r2, r3]) rfl ⟨_, _, _, rfl, ?_, ?_⟩
  · simp only [box_size]
    exact ⟨_, rfl, Row.ro (Row.wide (((((R0.set (g := w.heap.size) (i := 3) (x := .slice x0 m0 y0) (.inl (by omega))).set (g := w.heap.size + 1) (i := 0) (x := .int .i64 uid) (.inl (by omega))).set (g := w.heap.size + 1) (i := 1) (x := .int .i64 flags) (.inl (by omega))).set (g := w.heap.size + 1) (i := 2) (x := .int .i64 seq) (.inl (by omega))).set (g := w.heap.size + 1) (i := 3) (x := .slice x0 m0 y0) (.inl (by omega))) (by omega) (Nat.le_refl _)), HI.out⟩
  · exact (((((X.setCell (p := ⟨w.heap.size, 3, none⟩) (by simp <;> omega) (.slice x0 m0 y0)).setCell (p := ⟨w.heap.size + 1, 0, none⟩) (by simp <;> omega) (.int .i64 uid)).setCell (p := ⟨w.heap.size + 1, 1, none⟩) (by simp <;> omega) (.int .i64 flags)).setCell (p := ⟨w.heap.size + 1, 2, none⟩) (by simp <;> omega) (.int .i64 seq)).setCell (p := ⟨w.heap.size + 1, 3, none⟩) (by simp <;> omega) (.slice x0 m0 y0))

set_option maxRecDepth 100000 in
set_option maxHeartbeats 1000000 in
theorem bareBox_o (v : Value) (x : BoxD) (w : World) (hv : BoxV w v x) (h0 : x.name.length ≤ 2000000) :
    Calls Try.prog 24 #[v] w fun e w' => ∃ a n c, e = .returned (.agg #[.slice a n c, .int .i64 x.valid, .int .i64 x.next, .int .i64 x.seq, .slice none 0 0, .slice none 0 0, .int .i64 x.lost]) ∧ RO w' (In w.heap.size w'.heap.size) (.slice a n c) x.name ∧ Below w.heap.size w w' := by
  obtain ⟨u0, u1, u2, rfl, g0, g1, g2, -⟩ := hv
  obtain ⟨name, valid, next, seq, mails, gones, lost⟩ := x
  simp only at g0 g1 g2 h0
  have H0 : Hid (∀ wi, Below w.heap.size w wi → Bs wi u0 name) := fun wi h => g0.below h
  obtain ⟨a0, n0, c0, rfl⟩ := g0.form3
  obtain ⟨a1, c1, rfl, -⟩ := g1.form
  obtain ⟨a2, c2, rfl, -⟩ := g2.form
  clear g0 g1 g2
  simp only
  obtain ⟨kA, kR, X⟩ := boxes2 w (.cells #[.slice a0 n0 c0, .int .i64 valid, .int .i64 next, .int .i64 seq, .slice a1 mails.length c1, .slice a2 gones.length c2, .int .i64 lost] 31) (.cells #[.slice none 0 0, .int .i64 0, .int .i64 0, .int .i64 0, .slice none 0 0, .slice none 0 0, .int .i64 0] 31)
  go_enter Try.func24, Try.ntmps24
  go_wp2_with fail
  refine (joined_r _ _ name [] _ (H0.out _ X) (bs_nil _) (by omega) (by simp)).mono ?_
  rintro e w1 ⟨u0, rfl, R0, B⟩
  rw [List.append_nil] at R0
  obtain ⟨x0, m0, y0, rfl⟩ := R0.bs.form3
  replace kA := box_below B kA
  replace kR := box_below B kR
  have s1 : w.heap.size + 2 ≤ w1.heap.size := by have := B.size; simp at this; omega
  replace X := Below.step X B
  replace R0 := R0.wide (B' := w.heap.size + 2) (T' := w1.heap.size) (by simp) (Nat.le_refl _)
  clear B
  obtain ⟨oz, ol⟩ := box8z kA
  obtain ⟨o0, o1, o2, o3, o4, o5, o6⟩ := bx7 kA
  obtain ⟨rz, rl⟩ := box8z kR
  obtain ⟨r0, r1, r2, r3, r4, r5, r6⟩ := bx7 kR
  go_wp2
  refine bodyPost_ret (v := .agg #[.slice x0 m0 y0, .int .i64 valid, .int .i64 next, .int .i64 seq, .slice none 0 0, .slice none 0 0, .int .i64 lost]) (by simp [results, Try.results24, go_sem, r0, r1, r2, r3, r4, r5, r6]) rfl ⟨_, _, _, rfl, ?_, ?_⟩
  · simp only [box_size]
    exact Row.ro (Row.wide ((((((((((R0.set (g := w.heap.size) (i := 0) (x := .slice x0 m0 y0) (.inl (by omega))).set (g := w.heap.size) (i := 4) (x := .slice none 0 0) (.inl (by omega))).set (g := w.heap.size) (i := 5) (x := .slice none 0 0) (.inl (by omega))).set (g := w.heap.size + 1) (i := 0) (x := .slice x0 m0 y0) (.inl (by omega))).set (g := w.heap.size + 1) (i := 1) (x := .int .i64 valid) (.inl (by omega))).set (g := w.heap.size + 1) (i := 2) (x := .int .i64 next) (.inl (by omega))).set (g := w.heap.size + 1) (i := 3) (x := .int .i64 seq) (.inl (by omega))).set (g := w.heap.size + 1) (i := 4) (x := .slice none 0 0) (.inl (by omega))).set (g := w.heap.size + 1) (i := 5) (x := .slice none 0 0) (.inl (by omega))).set (g := w.heap.size + 1) (i := 6) (x := .int .i64 lost) (.inl (by omega))) (by omega) (Nat.le_refl _))
  · exact ((((((((((X.setCell (p := ⟨w.heap.size, 0, none⟩) (by simp <;> omega) (.slice x0 m0 y0)).setCell (p := ⟨w.heap.size, 4, none⟩) (by simp <;> omega) (.slice none 0 0)).setCell (p := ⟨w.heap.size, 5, none⟩) (by simp <;> omega) (.slice none 0 0)).setCell (p := ⟨w.heap.size + 1, 0, none⟩) (by simp <;> omega) (.slice x0 m0 y0)).setCell (p := ⟨w.heap.size + 1, 1, none⟩) (by simp <;> omega) (.int .i64 valid)).setCell (p := ⟨w.heap.size + 1, 2, none⟩) (by simp <;> omega) (.int .i64 next)).setCell (p := ⟨w.heap.size + 1, 3, none⟩) (by simp <;> omega) (.int .i64 seq)).setCell (p := ⟨w.heap.size + 1, 4, none⟩) (by simp <;> omega) (.slice none 0 0)).setCell (p := ⟨w.heap.size + 1, 5, none⟩) (by simp <;> omega) (.slice none 0 0)).setCell (p := ⟨w.heap.size + 1, 6, none⟩) (by simp <;> omega) (.int .i64 lost))

end Go.Proofs.Ytodoofdbpffolaa

/- What since of impl.mailMap does. -/
namespace Go.Proofs.Ytodoofdbpffolaa
open Go.RowKit Go.Maps
set_option maxRecDepth 100000
set_option linter.unusedVariables false
set_option linter.unusedSimpArgs false

/-- The entries at a box' number are these mails, by their numbers. -/
structure EntsOf (E : Ents) (v : Int) (ms : List MailD) : Prop where
  sorted : ms.Pairwise (fun a b => a.uid < b.uid)
  i64 : ∀ m ∈ ms, I64 m.uid
  find : ∀ u, I64 u → findE E v u = ms.find? (fun m => decide (m.uid = u))
theorem find_sorted {ms : List MailD} (hs : ms.Pairwise (fun a b => a.uid < b.uid)) {m : MailD} (hm : m ∈ ms) : ms.find? (fun x => decide (x.uid = m.uid)) = some m := by
  induction ms with
  | nil => cases hm
  | cons a ms ih =>
    obtain ⟨h1, h2⟩ := List.pairwise_cons.1 hs
    rw [List.find?_cons]
    rcases List.mem_cons.1 hm with rfl | h
    · simp
    · have := h1 m h
      rw [show decide (a.uid = m.uid) = false by simp; omega]
      exact ih h2 h
theorem EntsOf.get {E : Ents} {v : Int} {ms : List MailD} (h : EntsOf E v ms) {m : MailD} (hm : m ∈ ms) : findE E v m.uid = some m := by
  rw [h.find _ (h.i64 m hm)]
  exact find_sorted h.sorted hm
theorem EntsOf.mem {E : Ents} {v : Int} {ms : List MailD} (h : EntsOf E v ms) (u : Int) : u ∈ ms.map (fun m => m.uid) ↔ I64 u ∧ (findE E v u).isSome = true := by
  constructor
  · intro hu
    obtain ⟨m, hm, rfl⟩ := List.mem_map.1 hu
    exact ⟨h.i64 m hm, by rw [h.get hm]; rfl⟩
  · rintro ⟨h1, h2⟩
    rw [h.find u h1] at h2
    obtain ⟨m, hm⟩ := Option.isSome_iff_exists.1 h2
    exact List.mem_map.2 ⟨m, List.mem_of_find?_eq_some hm, by simpa using List.find?_some hm⟩

theorem filter_take_yes {α : Type} {p : α → Bool} {l : List α} {k : Nat} {m : α} (h : l[k]? = some m) (hp : p m = true) : (l.take (k + 1)).filter p = (l.take k).filter p ++ [m] := by
  obtain ⟨hk, rfl⟩ := List.getElem?_eq_some_iff.1 h
  rw [List.take_succ_eq_append_getElem hk, List.filter_append]
  simp [hp]
theorem filter_take_no {α : Type} {p : α → Bool} {l : List α} {k : Nat} {m : α} (h : l[k]? = some m) (hp : p m = false) : (l.take (k + 1)).filter p = (l.take k).filter p := by
  obtain ⟨hk, rfl⟩ := List.getElem?_eq_some_iff.1 h
  rw [List.take_succ_eq_append_getElem hk, List.filter_append]
  simp [hp]

theorem fieldSeq (a b c : Int) (d : Value) (w : World) : (Instr.field 43 (.agg #[.int .i64 a, .int .i64 b, .int .i64 c, d]) 2).run Try.prog w = .ok (.int .i64 c) w := by kernel_rfl

set_option maxRecDepth 100000 in
set_option maxHeartbeats 2000000 in
theorem since_any (g n : Nat) (E : Ents) (v q : Int) (ms : List MailD) (w : World) (h : MM w g n E) (hn : n ≤ 2000000) (hv : I64 v) (hE : EntsOf E v ms) (h12 : ms.length ≤ 12) (ht : ∀ m ∈ ms, m.text.length ≤ 2000000) :
    Calls Try.prog 25 #[.map (some g), .int .i64 v, .int .i64 q] w fun e w' => ∃ u, e = .returned u ∧ MailsO w' (In w.heap.size w'.heap.size) u (ms.filter fun m => decide (q < m.seq)) ∧ Below w.heap.size w w' := by
  have hcall := keysOf_any g n E v (ms.map fun m => m.uid) w h hn hv (List.pairwise_map.2 hE.sorted) hE.mem (by simpa using h12)
  have HM : Hid (MM w g n E) := h
  have HE : Hid (EntsOf E v ms ∧ ms.length ≤ 12 ∧ ∀ m ∈ ms, m.text.length ≤ 2000000) := ⟨hE, h12, ht⟩
  obtain ⟨z0, hi, hz0, hz1, hz2⟩ := info_parts infoMail
  clear h hE h12 ht
  go_enter Try.func25, Try.ntmps25
  go_wp2_with fail
  refine hcall.mono ?_
  rintro e w1 ⟨kv, rfl, hKv, hB1⟩
  have HKV : Hid (∀ wi, Below w1.heap.size w1 wi → KeysV wi kv ((ms.map fun m => m.uid).map fun u => (v, u))) := fun wi h => hKv.below keepsKey h
  have HB1 : Hid (Below w.heap.size w w1) := hB1
  have hlen : ((ms.map fun m => m.uid).map fun u => (v, u)).length = ms.length := by simp
  obtain ⟨ka, kc, rfl, hk1, hk2⟩ := hKv.form
  rw [hlen] at HKV hk1 ⊢
  have HL : Hid (((ms.map fun m => m.uid).map fun u => (v, u)).length = ms.length) := hlen
  have hs1 : w.heap.size ≤ w1.heap.size := hB1.size
  clear hKv hB1 hcall hlen
  go_wp2
  go_loopw [7, 14] (fun lv i wr => ∃ (k : Nat) (va : Option Addr) (vn vc : Nat), k ≤ ms.length ∧ i = .int .i64 k ∧ lv = .slice va vn vc ∧ Hid (Below w1.heap.size w1 wr) ∧ w1.heap.size ≤ wr.heap.size ∧ Hid (MailsO wr (In w1.heap.size wr.heap.size) (.slice va vn vc) ((ms.take k).filter fun m => decide (q < m.seq)))) (fun _ i _ => ms.length - (intOf i).toNat)
  case atStart => exact ⟨0, none, 0, 0, Nat.zero_le _, rfl, rfl, Below.refl _ _, Nat.le_refl _, .inl ⟨rfl, by simp⟩⟩
  case round =>
    obtain ⟨k, va, vn, vc, hk, rfl, rfl, hB, hS, hO⟩ := hrel
    by_cases hlt : k < ms.length
    · obtain ⟨m, hx⟩ : ∃ m, ms[k]? = some m := ⟨ms[k], List.getElem?_eq_getElem hlt⟩
      have hmem : m ∈ ms := List.mem_of_getElem? hx
      obtain ⟨b, off, cp, c, hv', hlb, ⟨rfl, -, -⟩, -, hcell⟩ := (HKV.out wr hB.out).get k (v, m.uid) (by rw [List.map_map, List.getElem?_map, hx]; rfl)
      rw [HL.out] at hv'
      simp only [Value.slice.injEq, true_and] at hv'
      obtain ⟨rfl, rfl⟩ := hv'
      have e0 : wr.cell? ⟨b, off + k * 2, none⟩ = some (.int .i64 v) := hcell 0 _ rfl
      have e1 : wr.cell? ⟨b, off + k * 2 + 1, none⟩ = some (.int .i64 m.uid) := hcell 1 _ rfl
      have AB : Below wr.heap.size wr (wr.alloc (.cells #[.int .i64 v, .int .i64 m.uid] 55)) := (Below.refl _ _).alloc (Nat.le_refl _) _
      have HMA : MM (wr.alloc (.cells #[.int .i64 v, .int .i64 m.uid] 55)) g n E := ((HM.out.below HB1.out).below hB.out).below AB
      obtain ⟨x, hxv, hrun⟩ := HMA.get (HE.out.1.get hmem)
      have HXV : Hid (MailV (wr.alloc (.cells #[.int .i64 v, .int .i64 m.uid] 55)) x m) := hxv
      obtain ⟨t, rfl, hbt, hi0, hi1, hi2⟩ := hxv
      obtain ⟨ta, tn, tc, rfl⟩ := hbt.form3
      have hki : (k : Int) < ms.length := by omega
      have HX : Hid (ms[k]? = some m) := hx
      have hml : m.text.length ≤ 2000000 := HE.out.2.2 m hmem
      have HAB : Hid (Below wr.heap.size wr (wr.alloc (.cells #[.int .i64 v, .int .i64 m.uid] 55))) := AB
      have HLT : Hid (((ms.take k).filter fun m => decide (q < m.seq)).length ≤ 12) := Nat.le_trans (List.length_filter_le _ _) (by have := HE.out.2.1; simp; omega)
      clear hcell hx hmem HMA hbt hi0 hi1 hi2 AB
      have hfld := fieldSeq m.uid m.flags m.seq (.slice ta tn tc) (wr.alloc (.cells #[.int .i64 v, .int .i64 m.uid] 55))
      by_cases hq : q < m.seq
      · have HQ : Hid (q < m.seq) := hq
        go_wp2_with fail
        refine (copiedMail_o _ m _ HXV.out hml).mono ?_
        rintro e w3 ⟨xa, xn, xc, rfl, hME, hB3⟩
        have hs3 : wr.heap.size + 1 ≤ w3.heap.size := by have := hB3.size; simpa using this
        have HB3 : Hid (Below wr.heap.size wr w3) := Below.step HAB.out hB3
        have HME : Hid (MailE w3 [.int .i64 m.uid, .int .i64 m.flags, .int .i64 m.seq, .slice xa xn xc] m (In wr.heap.size w3.heap.size)) := by
          obtain ⟨u', e', r1, r2⟩ := hME
          exact ⟨u', e', r1.mono fun b hb => ⟨by have := hb.1; simp at this; omega, hb.2⟩, r2⟩
        clear hME hB3 HXV hrun e0 e1 hlb hfld
        have AP : Below w3.heap.size w3 (w3.alloc (.cells #[.int .i64 m.uid, .int .i64 m.flags, .int .i64 m.seq, .slice xa xn xc] 43)) := (Below.refl _ _).alloc (Nat.le_refl _) _
        have HEp : Hid (MailE (w3.alloc (.cells #[.int .i64 m.uid, .int .i64 m.flags, .int .i64 m.seq, .slice xa xn xc] 43)) [.int .i64 m.uid, .int .i64 m.flags, .int .i64 m.seq, .slice xa xn xc] m (In wr.heap.size (w3.alloc (.cells #[.int .i64 m.uid, .int .i64 m.flags, .int .i64 m.seq, .slice xa xn xc] 43)).heap.size)) := by
          obtain ⟨u', e', r1, r2⟩ := HME.out
          exact ⟨u', e', (r1.below AP).mono fun b hb => ⟨hb.1, by have := hb.2; simp; omega⟩, r2⟩
        have hMs : wr.heap.size ≤ (w3.alloc (.cells #[.int .i64 m.uid, .int .i64 m.flags, .int .i64 m.seq, .slice xa xn xc] 43)).heap.size := by simp; omega
        have HOp : Hid (MailsO (w3.alloc (.cells #[.int .i64 m.uid, .int .i64 m.flags, .int .i64 m.seq, .slice xa xn xc] 43)) (In w1.heap.size wr.heap.size) (.slice va vn vc) ((ms.take k).filter fun m => decide (q < m.seq))) := Ow.below framesMail (Ow.below framesMail hO.out HB3.out) AP
        have hone : ∀ u ∈ [Value.int .i64 m.uid, .int .i64 m.flags, .int .i64 m.seq, .slice xa xn xc], u.oneCell' = true := by
          intro u hu
          simp at hu
          rcases hu with rfl | rfl | rfl | rfl <;> rfl
        have hp1 : ((ms.take k).filter fun m => decide (q < m.seq)).length + 1 ≤ maxLen := by have := HLT.out; unfold maxLen; omega
        have hp2 : (((ms.take k).filter fun m => decide (q < m.seq)).length + 1) * 48 ≤ 140737488355328 := by have := HLT.out; omega
        go_wp2_with (at_builtin; refine wpList_push rfl (.tmp 24) (.tmp 29) rfl framesMail (B := w1.heap.size) (M := wr.heap.size) HOp.out hMs hS Try.underlying28 hi hz0 hz1 hz2 rfl (by omega) rfl m [.int .i64 m.uid, .int .i64 m.flags, .int .i64 m.seq, .slice xa xn xc] rfl HEp.out ⟨w3.heap.size, 0, none⟩ 1 rfl (cells_new w3 _ _) hone hp1 hp2 ?_)
        intro lv2 w4 hO4 hG4 hV4
        have HO4 : Hid (MailsO w4 (In w1.heap.size w4.heap.size) lv2 ((ms.take (k + 1)).filter fun m => decide (q < m.seq))) := by
          rw [filter_take_yes HX.out (by simpa using HQ.out)]
          exact hO4
        obtain ⟨la2, ln2, lc2, rfl⟩ : ∃ a n c, lv2 = .slice a n c := by
          rcases hO4 with ⟨h, -⟩ | ⟨_, _, _, _, _, h, -⟩
          · exact ⟨_, _, _, h⟩
          · exact ⟨_, _, _, h⟩
        have hge : ∀ j, (Value.slice va vn vc).ownBlock = some j → w1.heap.size ≤ j := fun j hj => (hV4 j hj).1
        have HB4 : Hid (Below w1.heap.size w1 w4) := grown_below (Below.step (Below.step hB.out HB3.out) AP) hG4 hge (Nat.le_refl _) (by have := AP.size; omega)
        have hs4 : w1.heap.size ≤ w4.heap.size := HB4.out.size
        clear hO4 hG4 hV4 hge HOp HEp AP hMs HB3 HME hO hB
        go_wp2
        go_roundw
        case rel => exact ⟨k + 1, la2, ln2, lc2, by omega, by simp, rfl, HB4.out, hs4, HO4.out⟩
        case measure => simp [intOf]; omega
      · have HQ : Hid (¬ q < m.seq) := hq
        have HO2 : Hid (MailsO (wr.alloc (.cells #[.int .i64 v, .int .i64 m.uid] 55)) (In w1.heap.size (wr.alloc (.cells #[.int .i64 v, .int .i64 m.uid] 55)).heap.size) (.slice va vn vc) ((ms.take (k + 1)).filter fun m => decide (q < m.seq))) := by
          rw [filter_take_no HX.out (by simpa using HQ.out)]
          exact Ow.mono (Ow.below framesMail hO.out HAB.out) fun b hb => ⟨hb.1, by have := hb.2; simp; omega⟩
        go_wp2
        go_roundw
        case rel => exact ⟨k + 1, va, vn, vc, by omega, by simp, rfl, Below.step hB.out HAB.out, by simp; omega, HO2.out⟩
        case measure => simp [intOf]; omega
    · obtain rfl : k = ms.length := by omega
      go_wp2
      go_ret
      refine ⟨_, rfl, ?_, Below.step HB1.out hB.out⟩
      have := hO.out
      rw [List.take_length] at this
      exact Ow.mono this fun b hb => ⟨by have := hb.1; omega, hb.2⟩

end Go.Proofs.Ytodoofdbpffolaa

/- The bytes of a slice as a string. -/
namespace Go.Proofs.Ytodoofdbpffolaa
open Go.RowKit

theorem underlyingStr : Try.prog.underlying 9 = some .string := by kernel_rfl

/-- The bytes of a slice as a string. -/
theorem run_convert_bs {w : World} {v : Value} {l : List Int} (h : Bs w v l) : (convert 22 9 v).run Try.prog w = .ok (.string (strOfNums l)) w := by
  obtain ⟨ho, a, cap, rfl, h1, h2, h3, h4⟩ := h
  cases a with
  | none =>
    have hc := h3 rfl
    have : l = [] := List.eq_nil_of_length_eq_zero (by omega)
    subst this
    exact run_convert_bytes_nil w 22 5 Try.underlying22 Try.underlying5 _ _ 9 underlyingStr
  | some x =>
    by_cases h0 : l = []
    · subst h0
      rw [run_convert_bytes_string w 22 9 5 _ _ _ Try.underlying22 Try.underlying5 underlyingStr]
      exact run_bytesToString w x 0 cap [] (by simp [loadCells, loadCellsFrom])
    · obtain ⟨b, off, hx, _, hc⟩ := h4 (List.length_pos_iff.2 h0)
      cases hx
      exact run_convert_bytes_arg w 22 5 Try.underlying22 Try.underlying5 b off l.length cap l rfl hc 9 underlyingStr

end Go.Proofs.Ytodoofdbpffolaa

/- Names, texts and commands as plain lists and numbers: no program is named here. -/
namespace Go.Proofs.Ytodoofdbpffolaa

theorem ret_b {a b : Bool} (h : b = a) : Ending.returned (.bool a) = .returned (.bool b) := by rw [h]

/-- Every number of the list lies between two. -/
def allIn (lo hi : Int) (l : List Int) : Bool := l.all fun x => decide (lo ≤ x) && decide (x ≤ hi)
/-- A name: one to six small letters. -/
def nameB (l : List Int) : Bool := decide (1 ≤ l.length) && (decide (l.length ≤ 6) && allIn 97 122 l)
/-- A text: at most thirty bytes that can be seen. -/
def textB (l : List Int) : Bool := decide (l.length ≤ 30) && allIn 32 126 l
/-- A number lies between two. -/
def inB (n lo hi : Int) : Bool := decide (lo ≤ n) && decide (n ≤ hi)

theorem allIn_yes {lo hi : Int} {l : List Int} (h : ∀ j, j < l.length → lo ≤ l.getD j 0 ∧ l.getD j 0 ≤ hi) : allIn lo hi l = true := by
  unfold allIn
  rw [List.all_eq_true]
  intro x hx
  obtain ⟨j, hj, rfl⟩ := List.getElem_of_mem hx
  have := h j hj
  simp [hj] at this
  simp [this]
theorem allIn_no {lo hi : Int} {l : List Int} (j : Nat) (hj : j < l.length) (h : ¬ (lo ≤ l.getD j 0 ∧ l.getD j 0 ≤ hi)) : allIn lo hi l = false := by
  cases e : allIn lo hi l with
  | false => rfl
  | true =>
    exfalso
    unfold allIn at e
    rw [List.all_eq_true] at e
    have := e _ (List.getElem_mem hj)
    simp [hj] at h
    simp at this
    omega

theorem ret_i {k : IntKind} {a b : Int} (h : a = b) : Ending.returned (.int k a) = .returned (.int k b) := by rw [h]
/-- The place of the first that fits; -1 where there is none. -/
def firstI {α : Type} (p : α → Bool) (l : List α) : Int := match l.findIdx? p with | some i => i | none => -1
theorem firstI_hit {p : Int → Bool} {l : List Int} {k : Nat} (hk : k < l.length) (h : p (l.getD k 0) = true) (hA : ∀ j, j < k → p (l.getD j 0) = false) : firstI p l = k := by
  have : l.findIdx? p = some k := by
    rw [List.findIdx?_eq_some_iff_getElem]
    refine ⟨hk, by simpa [hk] using h, fun j hj => ?_⟩
    have := hA j hj
    simp [show j < l.length by omega] at this
    simp [this]
  simp [firstI, this]
theorem firstI_none {p : Int → Bool} {l : List Int} (hA : ∀ j, j < l.length → p (l.getD j 0) = false) : firstI p l = -1 := by
  have : l.findIdx? p = none := by
    rw [List.findIdx?_eq_none_iff]
    intro x hx
    obtain ⟨j, hj, rfl⟩ := List.getElem_of_mem hx
    have := hA j hj
    simpa [hj] using this
  simp [firstI, this]
theorem any_firstI {α : Type} (p : α → Bool) (l : List α) : l.any p = decide (0 ≤ firstI p l) := by
  unfold firstI
  cases h : l.findIdx? p with
  | none =>
    rw [List.findIdx?_eq_none_iff] at h
    simp only [show ¬ (0 : Int) ≤ -1 by omega, decide_false]
    rw [List.any_eq_false]
    intro x hx
    simp [h x hx]
  | some i =>
    rw [List.findIdx?_eq_some_iff_getElem] at h
    obtain ⟨hi, hp, -⟩ := h
    simp only [show (0 : Int) ≤ (i : Int) by omega, decide_true]
    rw [List.any_eq_true]
    exact ⟨_, List.getElem_mem hi, hp⟩

/-- Which kinds have a second name, a number of a mail, flags and how, a number of a change, a text. -/
def toB (k : Int) : Bool := decide (k = 6)
def uidB (k : Int) : Bool := decide (k = 3) || (decide (k = 5) || decide (k = 6))
def modeB (k : Int) : Bool := decide (k = 2) || (decide (k = 3) || decide (k = 6))
def sinceB (k : Int) : Bool := decide (k = 3) || decide (k = 8)
def textsB (k : Int) : Bool := decide (k = 2)

/-- A command that may be. -/
def cmdB (k : Int) (bx tt : List Int) (uid mode fl si : Int) (tx : List Int) : Bool :=
  decide (0 ≤ k ∧ k ≤ 9) && (if k = 9 then decide (bx.length = 0) else nameB bx) && (if k = 6 then nameB tt else decide (tt.length = 0)) &&
  (if k = 3 ∨ k = 5 ∨ k = 6 then inB uid 1 1000000 else decide (uid = 0)) && inB mode 0 (if k = 3 then 2 else if k = 6 then 1 else 0) &&
  inB fl 0 (if k = 2 ∨ k = 3 then 31 else 0) && inB si 0 (if k = 3 ∨ k = 8 then 1000000 else 0) && (if k = 2 then textB tx else decide (tx.length = 0))

theorem nameB_len {l : List Int} (h : nameB l = true) : 1 ≤ l.length ∧ l.length ≤ 6 := by unfold nameB at h; simp at h; exact ⟨h.1, h.2.1⟩
theorem textB_nil {l : List Int} (h : l.length = 0) : textB l = true := by
  have : l = [] := List.eq_nil_of_length_eq_zero h
  subst this; rfl
theorem nameB_nil {l : List Int} (h : l.length = 0) : nameB l = false := by
  have : l = [] := List.eq_nil_of_length_eq_zero h
  subst this; rfl

end Go.Proofs.Ytodoofdbpffolaa

/- What may be: boxes and accounts, as plain data. -/
namespace Go.Proofs.Ytodoofdbpffolaa

/-- The bytes of a list of numbers; which of two comes first. -/
def bts (l : List Int) : List UInt8 := l.map fun n => UInt8.ofNat n.toNat
def lessB (l m : List Int) : Bool := Op.bytesLess (bts l) (bts m)
theorem less_cmp : ∀ (a b : List UInt8), decide (0 ≤ Lib.compareBytes a b) = !Op.bytesLess a b
  | [], [] => rfl
  | [], _ :: _ => rfl
  | _ :: _, [] => rfl
  | a :: x, b :: y => by
    have ih := less_cmp x y
    unfold Lib.compareBytes Op.bytesLess
    by_cases h1 : a < b
    · simp [h1]
    · by_cases h2 : b < a
      · have hne : (a == b) = false := by simp; intro e; subst e; exact absurd h2 (UInt8.lt_irrefl _)
        simp [h1, h2, hne]
      · have he : a = b := UInt8.le_antisymm (UInt8.not_lt.1 h2) (UInt8.not_lt.1 h1)
        subst he
        simp only [h1, if_false, decide_false, Bool.false_or, BEq.rfl, Bool.true_and]
        exact ih

theorem rangeAll_yes {n : Nat} {f : Nat → Bool} (h : ∀ j, j < n → f j = true) : (List.range n).all f = true := by
  rw [List.all_eq_true]; intro j hj; exact h j (List.mem_range.1 hj)
theorem rangeAll_no {n : Nat} {f : Nat → Bool} (j : Nat) (hj : j < n) (h : f j = false) : (List.range n).all f = false := by
  rw [List.all_eq_false]; exact ⟨j, List.mem_range.2 hj, by simp [h]⟩
theorem and_false_of {a b : Bool} (h : b = false) : (a && b) = false := by rw [h]; cases a <;> rfl
theorem and_of {a b c : Bool} (h : a = true) (h' : b = c) : (a && b) = c := by rw [h, h']; rfl

def prevI (l : List Int) : Nat → Int
  | 0 => 0
  | i + 1 => l.getD i 0
def seenAt (l : List Int) (i : Nat) : Bool := inB (l.getD i 0) (prevI l i + 1) 1000000
def seenB (l : List Int) : Bool := decide (l.length ≤ 60) && (List.range l.length).all (seenAt l)
theorem prevI_ok {l : List Int} {k : Nat} (hk : k ≤ l.length) (h : ∀ j, j < k → seenAt l j = true) : 0 ≤ prevI l k ∧ prevI l k ≤ 1000000 ∧ (0 < k → 1 ≤ prevI l k) := by
  induction k with
  | zero => simp [prevI]
  | succ k ih =>
    have h1 := ih (by omega) (fun j hj => h j (by omega))
    have h2 := h k (by omega)
    simp only [seenAt, inB, Bool.and_eq_true, decide_eq_true_eq] at h2
    simp only [prevI]
    omega

def prevU (l : List MailD) : Nat → Int
  | 0 => 0
  | i + 1 => match l[i]? with | some m => m.uid | none => 0
def mailAt (b : BoxD) (i : Nat) : Bool := match b.mails[i]? with
  | some m => inB m.uid (prevU b.mails i + 1) (b.next - 1) && (inB m.flags 0 31 && (inB m.seq 1 b.seq && textB m.text))
  | none => true
def mailsB (b : BoxD) : Bool := decide (b.mails.length ≤ 12) && (List.range b.mails.length).all (mailAt b)
theorem prevU_ok {b : BoxD} {k : Nat} (hn : b.next ≤ 1000000) (hk : k ≤ b.mails.length) (h : ∀ j, j < k → mailAt b j = true) : 0 ≤ prevU b.mails k ∧ prevU b.mails k ≤ 1000000 := by
  induction k with
  | zero => simp [prevU]
  | succ k ih =>
    have h1 := ih (by omega) (fun j hj => h j (by omega))
    have h2 := h k (by omega)
    obtain ⟨m, hm⟩ : ∃ m, b.mails[k]? = some m := ⟨b.mails[k]'(by omega), List.getElem?_eq_getElem (by omega)⟩
    simp only [mailAt, hm, inB, Bool.and_eq_true, decide_eq_true_eq] at h2
    simp only [prevU, hm]
    omega

def minS (b : BoxD) : Nat → Int
  | 0 => max 1 b.lost
  | i + 1 => match b.gones[i]? with | some g => g.seq | none => 0
def goneAt (b : BoxD) (i : Nat) : Bool := match b.gones[i]? with
  | some g => inB g.uid 1 (b.next - 1) && (inB g.seq (minS b i) b.seq && (!(b.mails.any fun m => decide (m.uid = g.uid)) && !((b.gones.take i).any fun o => decide (o.uid = g.uid))))
  | none => true
def gonesB (b : BoxD) : Bool := decide (b.gones.length ≤ 40) && (List.range b.gones.length).all (goneAt b)
theorem minS_ok {b : BoxD} {k : Nat} (hk : k ≤ b.gones.length) (h : ∀ j, j < k → goneAt b j = true) : 1 ≤ minS b k ∧ b.lost ≤ minS b k := by
  induction k with
  | zero => simp only [minS]; omega
  | succ k ih =>
    have h1 := ih (by omega) (fun j hj => h j (by omega))
    have h2 := h k (by omega)
    obtain ⟨m, hm⟩ : ∃ m, b.gones[k]? = some m := ⟨b.gones[k]'(by omega), List.getElem?_eq_getElem (by omega)⟩
    simp only [goneAt, hm, inB, Bool.and_eq_true, decide_eq_true_eq] at h2
    simp only [minS, hm]
    omega

def boxB (b : BoxD) (valid : Int) : Bool := nameB b.name && (inB b.valid 1 valid && (inB b.next 1 1000000 && (inB b.seq 0 1000000 && (inB b.lost 0 b.seq && (mailsB b && gonesB b)))))
def nameAt (l : List BoxD) (i : Nat) : List Int := match l[i]? with | some b => b.name | none => []
def aheadB (l : List BoxD) (b : BoxD) : Nat → Bool
  | 0 => true
  | i + 1 => lessB (nameAt l i) b.name
def boxAt (a : AccD) (i : Nat) : Bool := match a.boxes[i]? with
  | some b => boxB b a.valid && (aheadB a.boxes b i && !((a.boxes.take i).any fun o => decide (o.valid = b.valid)))
  | none => true
def accB (a : AccD) : Bool := inB a.valid 0 1000000 && (decide (a.boxes.length ≤ 4) && (seenB a.seen && (List.range a.boxes.length).all (boxAt a)))

end Go.Proofs.Ytodoofdbpffolaa
