/- The proof's texts, part 7. -/
import Derived.Test.YtmonloebkdpahaaDoorPart6
import Derived.Test.YtmonloebkdpahaaDoorPart3

/- An account that is turned in place: boxes, mails apart by blocks; texts and gones, which nobody turns, by the type of their cells. -/
namespace Go.Proofs.YtmonloebkdpahaaDoor
open Go.RowKit

def Any : Nat → Prop := fun _ => True
/-- Blocks of a type stay. -/
def StayT (w w' : World) (t : TypeId) : Prop := ∀ k, Ty w k t → w'.heap[k]? = w.heap[k]?
theorem StayT.refl (w : World) (t : TypeId) : StayT w w t := fun _ _ => rfl
theorem ty_stay {w w' : World} {t : TypeId} {k : Nat} (h : StayT w w' t) (hk : Ty w k t) : Ty w' k t := by
  obtain ⟨cs, fz, e⟩ := hk
  exact ⟨cs, fz, (h k ⟨cs, fz, e⟩).trans e⟩
theorem StayT.trans {w w' w'' : World} {t : TypeId} (h : StayT w w' t) (h' : StayT w' w'' t) : StayT w w'' t := fun k hk => (h' k (ty_stay h hk)).trans (h k hk)
theorem ty_lt {w : World} {k : Nat} {t : TypeId} (h : Ty w k t) : k < w.heap.size := by
  obtain ⟨cs, fz, e⟩ := h
  exact lt_of_heap e
theorem stay_below {w w' : World} {t : TypeId} (h : Below w.heap.size w w') : StayT w w' t := fun k hk => h.block k (ty_lt hk)
theorem stay_set {w : World} {t e : TypeId} {g i : Nat} {x : Value} (ht : Ty w g e) (hne : t ≠ e) : StayT w (w.setCell ⟨g, i, none⟩ x) t := by
  intro k ⟨cs, fz, hk⟩
  exact Below.heap_setCell _ _ _ _ (show k ≠ g from fun e2 => by subst e2; exact ty_ne hk ht hne)

/-- Mails whose texts lie in blocks of bytes, any. -/
def MailQE (w : World) (c : List Value) (m : MailD) (_ : Nat → Prop) : Prop := MailE w c m Any
abbrev MailsQ := Ow 54 4 MailQE
theorem mail_oth {w w' : World} {c : List Value} {m : MailD} {S S' : Nat → Prop} (h : MailQE w c m S) (ht : StayT w w' 5) : MailQE w' c m S' :=
  let ⟨u, h0, h1, r⟩ := h; ⟨u, h0, ro_oth h1 ht, r⟩
theorem mails_oth {w w' : World} {S : Nat → Prop} {v : Value} {l : List MailD} (h : MailsQ w S v l) (hm : ∀ k, S k → k < w.heap.size → w'.heap[k]? = w.heap[k]?) (ht : StayT w w' 5) : MailsQ w' S v l := by
  rcases h with h | ⟨g, cap, cur, cs, fs, hv, hh, h1, h2, h3, h4, h5, h6, h7⟩
  · exact .inl h
  · exact .inr ⟨g, cap, cur, cs, fs, hv, (hm g h4 (lt_of_heap hh)).trans hh, h1, h2, h3, h4, fun i x hx => ⟨mail_oth (h5 i x hx).1 ht, (h5 i x hx).2⟩, h6, h7⟩
theorem MailsQ.v {w : World} {S : Nat → Prop} {v : Value} {l : List MailD} (h : MailsQ w S v l) : MailsV w v l := Ow.rd (fun _ _ _ _ h => MailE.rd h) h

/-- Gones that are read, in a block of gones: a slice from its middle may be. -/
def GonesQ (w : World) (v : Value) (l : List GoneD) : Prop := GonesV w v l ∧ ∀ a n c, v = .slice (some a) n c → 0 < l.length → Ty w a.block 57
theorem gones_q {w : World} {S : Nat → Prop} {v : Value} {l : List GoneD} (h : GonesO w S v l) : GonesQ w v l := by
  refine ⟨Ow.rd (fun _ _ _ _ h => h) h, fun a n c hv hl => ?_⟩
  rcases h with ⟨h, h'⟩ | ⟨g, cap, cur, cs, fs, hv', hh, _⟩
  · rw [h'] at hl; exact absurd hl (Nat.lt_irrefl 0)
  · rw [hv] at hv'
    injection hv' with e
    injection e with e
    subst e
    exact ⟨_, _, hh⟩
theorem gonesq_oth {w w' : World} {v : Value} {l : List GoneD} (h : GonesQ w v l) (ht : StayT w w' 57) : GonesQ w' v l := by
  obtain ⟨⟨a, cap, cs, hv, h1, h2, h3, h4, h5⟩, hty⟩ := h
  refine ⟨⟨a, cap, cs, hv, h1, h2, h3, h4, fun hp => ?_⟩, fun a n c e hl => ty_stay ht (hty a n c e hl)⟩
  obtain ⟨b, off, ha, hb, hc⟩ := h5 hp
  have hT : Ty w b 57 := hty ⟨b, off, none⟩ l.length cap (by rw [hv, ha]) hp
  refine ⟨b, off, ha, ty_lt (ty_stay ht hT), fun i j u hi hu => ?_⟩
  obtain ⟨cells, fz, hh⟩ := hT
  have hh' := (ht b ⟨cells, fz, hh⟩).trans hh
  have := hc i j u hi hu
  rw [cell_of_row w b _ cells _ fz hh] at this
  rw [cell_of_row w' b _ cells _ fz hh']
  exact this

/-- A box whose mails are the account's own. -/
def BoxQE (w : World) (c : List Value) (b : BoxD) (S : Nat → Prop) : Prop :=
  ∃ u0 u1 u2, c = [u0, .int .i64 b.valid, .int .i64 b.next, .int .i64 b.seq, u1, u2, .int .i64 b.lost] ∧ RO w Any u0 b.name ∧ MailsQ w S u1 b.mails ∧ GonesQ w u2 b.gones ∧ I64 b.valid ∧ I64 b.next ∧ I64 b.seq ∧ I64 b.lost
abbrev BoxesQ := Ow 35 7 BoxQE
theorem box_oth {w w' : World} {c : List Value} {b : BoxD} {S : Nat → Prop} (h : BoxQE w c b S) (hm : ∀ k, S k → k < w.heap.size → w'.heap[k]? = w.heap[k]?) (ht : StayT w w' 5) (hg : StayT w w' 57) : BoxQE w' c b S :=
  let ⟨u0, u1, u2, h0, h1, h2, h3, r⟩ := h; ⟨u0, u1, u2, h0, ro_oth h1 ht, mails_oth h2 hm ht, gonesq_oth h3 hg, r⟩
theorem BoxQE.rd {w : World} {c : List Value} {b : BoxD} {S : Nat → Prop} (h : BoxQE w c b S) : BoxRE w c b :=
  let ⟨u0, u1, u2, h0, h1, h2, h3, r⟩ := h; ⟨u0, u1, u2, h0, h1.bs, h2.v, h3.1, r⟩
theorem boxes_oth {w w' : World} {S : Nat → Prop} {v : Value} {l : List BoxD} (h : BoxesQ w S v l) (hm : ∀ k, S k → k < w.heap.size → w'.heap[k]? = w.heap[k]?) (ht : StayT w w' 5) (hg : StayT w w' 57) : BoxesQ w' S v l := by
  rcases h with h | ⟨g, cap, cur, cs, fs, hv, hh, h1, h2, h3, h4, h5, h6, h7⟩
  · exact .inl h
  · refine .inr ⟨g, cap, cur, cs, fs, hv, (hm g h4 (lt_of_heap hh)).trans hh, h1, h2, h3, h4, fun i x hx => ⟨?_, (h5 i x hx).2⟩, h6, h7⟩
    have hi : i < l.length := (List.getElem?_eq_some_iff.1 hx).1
    exact box_oth (h5 i x hx).1 (fun k hk hlt => hm k (h6 i k hi hk).1 hlt) ht hg
theorem BoxesQ.v {w : World} {S : Nat → Prop} {v : Value} {l : List BoxD} (h : BoxesQ w S v l) : BoxesV w v l := Ow.rd (fun _ _ _ _ h => BoxQE.rd h) h

/-- One box behind a pointer: cells from o on in the block g; its mails' block lies in S. -/
def BoxP (w : World) (S : Nat → Prop) (g o : Nat) (b : BoxD) : Prop :=
  ∃ cur c, w.heap[g]? = some (.cells cur 35 (0, 0)) ∧ BoxQE w c b S ∧ ∀ j u, c[j]? = some u → cur[o + j]? = some u
/-- What a call turns that is given one box: that box' seven cells, and blocks in S; nothing else that is old. -/
def Turns (w w' : World) (S : Nat → Prop) (g o : Nat) : Prop :=
  w.heap.size ≤ w'.heap.size ∧ (∀ k, k < w.heap.size → k ≠ g → ¬ S k → w'.heap[k]? = w.heap[k]?) ∧ StayT w w' 5 ∧ StayT w w' 57 ∧
    (∀ cur, w.heap[g]? = some (.cells cur 35 (0, 0)) → ∃ cur', w'.heap[g]? = some (.cells cur' 35 (0, 0)) ∧ cur'.size = cur.size ∧ ∀ i, (i < o ∨ o + 7 ≤ i) → cur'[i]? = cur[i]?) ∧ w'.os = w.os ∧ w'.tape = w.tape ∧ w'.output = w.output

/-- The i-th box out of the list, behind its pointer; the blocks of its mails are none of the others'. -/
theorem BoxesQ.at {w : World} {S : Nat → Prop} {v : Value} {l : List BoxD} (h : BoxesQ w S v l) {i : Nat} {b : BoxD} (hb : l[i]? = some b) :
    ∃ g cap S1, v = .slice (some ⟨g, 0, none⟩) l.length cap ∧ S g ∧ BoxP w S1 g (i * 7) b ∧ (∀ k, S1 k → S k ∧ k ≠ g) ∧
      ∀ (w' : World) (b' : BoxD) (S1' : Nat → Prop), Turns w w' S1 g (i * 7) → BoxP w' S1' g (i * 7) b' → (∀ k, S1' k → (S1 k ∨ w.heap.size ≤ k) ∧ k ≠ g) → BoxesQ w' (fun k => S k ∨ w.heap.size ≤ k) v (l.set i b') := by
  rcases h with ⟨_, h⟩ | ⟨g, cap, cur, cs, fs, hv, hh, h1, h2, h3, h4, h5, h6, h7⟩
  · subst h; simp at hb
  have hi : i < l.length := (List.getElem?_eq_some_iff.1 hb).1
  refine ⟨g, cap, fun k => fs i k, hv, h4, ⟨cur, cs i, hh, (h5 i b hb).1, (h5 i b hb).2.2⟩, fun k hk => h6 i k hi hk, fun w' b' S1' ht hp hs => ?_⟩
  obtain ⟨t0, t1, t2, t3, t4, -⟩ := ht
  obtain ⟨cur', hh', hsz', hout⟩ := t4 cur hh
  obtain ⟨cur2, c, e2, hq, hc⟩ := hp
  rw [hh'] at e2
  cases e2
  -- footprints of the others, held to blocks that were there
  refine .inr ⟨g, cap, cur', fun j => if j = i then c else cs j, fun j => if j = i then S1' else fun k => fs j k ∧ k < w.heap.size, by rw [List.length_set]; exact hv, hh', by rw [List.length_set]; exact h1, h2, hsz'.trans h3, .inl h4, fun j x hx => ?_, fun j k hj hk => ?_, fun j m k hj hm hne hk => ?_⟩
  · by_cases e : j = i
    · subst e
      rw [List.getElem?_set_self hi] at hx
      cases hx
      simp only [if_pos]
      exact ⟨hq, by obtain ⟨u0, u1, u2, rfl, _⟩ := hq; rfl, hc⟩
    · rw [List.getElem?_set_ne (Ne.symm e)] at hx
      simp only [if_neg e]
      have hj : j < l.length := (List.getElem?_eq_some_iff.1 hx).1
      obtain ⟨q0, q1, q2⟩ := h5 j x hx
      refine ⟨?_, q1, fun m u hu => ?_⟩
      · obtain ⟨u0, u1, u2, e0, e1, em, eg, er⟩ := q0
        refine ⟨u0, u1, u2, e0, ro_oth e1 t2, ?_, gonesq_oth eg t3, er⟩
        have hk : MailsQ w' (fs j) u1 x.mails := mails_oth em (fun k hk hlt => t1 k hlt (h6 j k hj hk).2 (fun hk2 => h7 j i k hj hi e hk hk2)) t2
        rcases em with ⟨n1, n2⟩ | ⟨g', cap', cur', cs', fs', m0, m1, m2, m3, m4, m5, m6, m7⟩
        · exact .inl ⟨n1, n2⟩
        · exact .inr ⟨g', cap', cur', cs', fun _ _ => False, m0, (t1 g' (lt_of_heap m1) (h6 j g' hj m5).2 (fun hk2 => h7 j i g' hj hi e m5 hk2)).trans m1, m2, m3, m4, ⟨m5, lt_of_heap m1⟩, fun p y hy => ⟨mail_oth (m6 p y hy).1 t2, (m6 p y hy).2⟩, fun _ _ _ hF => hF.elim, fun _ _ _ _ _ _ hF => hF.elim⟩
      · have hmlt : m < 7 := by
          have := (List.getElem?_eq_some_iff.1 hu).1
          omega
        rw [hout (j * 7 + m) (by rcases Nat.lt_or_gt_of_ne e with e | e <;> omega)]
        exact q2 m u hu
  · rw [List.length_set] at hj
    by_cases e : j = i
    · simp only [if_pos e] at hk
      obtain ⟨hk1, hk2⟩ := hs k hk
      exact ⟨hk1.elim (fun h => .inl (h6 i k hi h).1) .inr, hk2⟩
    · simp only [if_neg e] at hk
      exact ⟨.inl (h6 j k hj hk.1).1, (h6 j k hj hk.1).2⟩
  · rw [List.length_set] at hj hm
    by_cases e : j = i
    · have e2 : m ≠ i := fun e2 => hne (e.trans e2.symm)
      simp only [if_pos e, if_neg e2] at hk ⊢
      intro hk2
      rcases (hs k hk).1 with h | h
      · exact h7 m i k hm hi e2 hk2.1 h
      · exact absurd hk2.2 (by omega)
    · simp only [if_neg e] at hk
      by_cases e2 : m = i
      · simp only [if_pos e2]
        intro hk2
        rcases (hs k hk2).1 with h | h
        · exact h7 j i k hj hi e hk.1 h
        · exact absurd hk.2 (by omega)
      · simp only [if_neg e2]
        exact fun hk2 => h7 j m k hj hm hne hk.1 hk2.1

end Go.Proofs.YtmonloebkdpahaaDoor

/- A box behind a pointer: what it reads, what a call that turns it leaves. -/
namespace Go.Proofs.YtmonloebkdpahaaDoor
open Go.RowKit

section
variable {w w' w'' : World} {S S' S1 : Nat → Prop} {g o : Nat} {b : BoxD}
theorem Turns.refl (w : World) (S : Nat → Prop) (g o : Nat) : Turns w w S g o := ⟨Nat.le_refl _, fun _ _ _ _ => rfl, StayT.refl _ _, StayT.refl _ _, fun cur h => ⟨cur, h, rfl, fun _ _ => rfl⟩, rfl, rfl, rfl⟩
/-- One call behind the other; what is new behind the first may be turned by the second. -/
theorem Turns.trans (h : Turns w w' S g o) (h' : Turns w' w'' S' g o) (hS : ∀ k, S' k → S k ∨ w.heap.size ≤ k) : Turns w w'' S g o := by
  refine ⟨Nat.le_trans h.1 h'.1, fun k hk hg hs => ?_, h.2.2.1.trans h'.2.2.1, h.2.2.2.1.trans h'.2.2.2.1, fun cur hc => ?_, h'.2.2.2.2.2.1.trans h.2.2.2.2.2.1, h'.2.2.2.2.2.2.1.trans h.2.2.2.2.2.2.1, h'.2.2.2.2.2.2.2.trans h.2.2.2.2.2.2.2⟩
  · exact (h'.2.1 k (Nat.lt_of_lt_of_le hk h.1) hg (fun h2 => (hS k h2).elim hs (fun h3 => by omega))).trans (h.2.1 k hk hg hs)
  · obtain ⟨c1, e1, z1, o1⟩ := h.2.2.2.2.1 cur hc
    obtain ⟨c2, e2, z2, o2⟩ := h'.2.2.2.2.1 c1 e1
    exact ⟨c2, e2, z2.trans z1, fun i hi => (o2 i hi).trans (o1 i hi)⟩
theorem turns_below (h : Below w.heap.size w w') : Turns w w' S g o :=
  ⟨h.size, fun k hk _ _ => h.block k hk, stay_below h, stay_below h, fun cur hc => ⟨cur, (h.block g (lt_of_heap hc)).trans hc, rfl, fun _ _ => rfl⟩, h.os, h.tape, h.output⟩
/-- A field of the box is written. -/
theorem turns_field {i : Nat} {x : Value} (ht : Ty w g 35) (hi : o ≤ i) (hi2 : i < o + 7) : Turns w (w.setCell ⟨g, i, none⟩ x) S g o := by
  refine ⟨by rw [box_size]; exact Nat.le_refl _, fun k _ hg _ => Below.heap_setCell _ _ _ _ hg, stay_set ht (by decide), stay_set ht (by decide), fun cur hc => ⟨_, box_set hc, by rw [Array.size_setIfInBounds], fun j hj => ?_⟩, rfl, rfl, rfl⟩
  rw [Array.getElem?_setIfInBounds_ne (by omega)]
/-- A field of a mail is written, in a block of mails. -/
theorem turns_mail {m i : Nat} {x : Value} (ht : Ty w m 54) (hm : S m ∨ w.heap.size ≤ m) : Turns w (w.setCell ⟨m, i, none⟩ x) S g o := by
  have hlt := ty_lt ht
  refine ⟨by rw [box_size]; exact Nat.le_refl _, fun k _ _ hs => Below.heap_setCell _ _ _ _ (show k ≠ m from fun e => hm.elim (fun h => hs (e ▸ h)) (fun h => by omega)), stay_set ht (by decide), stay_set ht (by decide), fun cur hc => ⟨cur, ?_, rfl, fun _ _ => rfl⟩, rfl, rfl, rfl⟩
  exact box_other hc (fun e => by subst e; exact ty_ne hc ht (by decide))

theorem BoxP.ty (h : BoxP w S g o b) : Ty w g 35 := let ⟨_, _, h, _⟩ := h; ⟨_, _, h⟩
/-- Its seven cells. -/
theorem BoxP.cells (h : BoxP w S g o b) : ∃ u0 u1 u2, RO w Any u0 b.name ∧ MailsQ w S u1 b.mails ∧ GonesQ w u2 b.gones ∧ (I64 b.valid ∧ I64 b.next ∧ I64 b.seq ∧ I64 b.lost) ∧
    w.cell? ⟨g, o, none⟩ = some u0 ∧ w.cell? ⟨g, o + 1, none⟩ = some (.int .i64 b.valid) ∧ w.cell? ⟨g, o + 2, none⟩ = some (.int .i64 b.next) ∧ w.cell? ⟨g, o + 3, none⟩ = some (.int .i64 b.seq) ∧
    w.cell? ⟨g, o + 4, none⟩ = some u1 ∧ w.cell? ⟨g, o + 5, none⟩ = some u2 ∧ w.cell? ⟨g, o + 6, none⟩ = some (.int .i64 b.lost) := by
  obtain ⟨cur, c, hh, ⟨u0, u1, u2, rfl, h1, h2, h3, hi⟩, hc⟩ := h
  have hw := fun j => cell_of_row w g j cur _ (0, 0) hh
  exact ⟨u0, u1, u2, h1, h2, h3, hi, (hw _).trans (hc 0 _ rfl), (hw _).trans (hc 1 _ rfl), (hw _).trans (hc 2 _ rfl), (hw _).trans (hc 3 _ rfl), (hw _).trans (hc 4 _ rfl), (hw _).trans (hc 5 _ rfl), (hw _).trans (hc 6 _ rfl)⟩
/-- None of its block is frozen. -/
theorem BoxP.open (h : BoxP w S g o b) (i : Nat) : w.frozen? ⟨g, i, none⟩ = false := by
  obtain ⟨cur, c, hh, _⟩ := h
  simp [World.frozen?, hh]
/-- A box stays while another call turns nothing of it. -/
theorem BoxP.oth (h : BoxP w S g o b) (hg : w'.heap[g]? = w.heap[g]?) (hm : ∀ k, S k → k < w.heap.size → w'.heap[k]? = w.heap[k]?) (ht : StayT w w' 5) (hq : StayT w w' 57) : BoxP w' S g o b :=
  let ⟨cur, c, hh, h1, h2⟩ := h; ⟨cur, c, hg.trans hh, box_oth h1 hm ht hq, h2⟩
theorem BoxP.below (h : BoxP w S g o b) (hb : Below w.heap.size w w') : BoxP w' S g o b :=
  h.oth (let ⟨_, _, hh, _⟩ := h; hb.block g (lt_of_heap hh)) (fun k _ hk => hb.block k hk) (stay_below hb) (stay_below hb)
/-- As a value. -/
theorem BoxP.v (h : BoxP w S g o b) : ∃ u0 u1 u2, BoxV w (.agg #[u0, .int .i64 b.valid, .int .i64 b.next, .int .i64 b.seq, u1, u2, .int .i64 b.lost]) b ∧ w.cell? ⟨g, o, none⟩ = some u0 ∧ w.cell? ⟨g, o + 4, none⟩ = some u1 ∧ w.cell? ⟨g, o + 5, none⟩ = some u2 := by
  obtain ⟨u0, u1, u2, h1, h2, h3, hi, c0, -, -, -, c4, c5, -⟩ := h.cells
  exact ⟨u0, u1, u2, ⟨u0, u1, u2, rfl, h1.bs, h2.v, h3.1, hi⟩, c0, c4, c5⟩
/-- The box' number is written. -/
theorem BoxP.seq {n : Int} (h : BoxP w S g o b) (hS : ¬ S g) (hn : I64 n) (ho : ∀ cur t, w.heap[g]? = some (.cells cur t (0, 0)) → o + 7 ≤ cur.size) : BoxP (w.setCell ⟨g, o + 3, none⟩ (.int .i64 n)) S g o ⟨b.name, b.valid, b.next, n, b.mails, b.gones, b.lost⟩ := by
  have hty := h.ty
  obtain ⟨cur, c, hh, ⟨u0, u1, u2, rfl, h1, h2, h3, i0, i1, i2, i3⟩, hc⟩ := h
  have hsz := ho cur _ hh
  refine ⟨_, _, box_set hh, ⟨u0, u1, u2, rfl, ro_oth h1 (stay_set hty (by decide)), mails_oth h2 (fun k hk _ => Below.heap_setCell _ _ _ _ (show k ≠ g from fun e => hS (e ▸ hk))) (stay_set hty (by decide)), gonesq_oth h3 (stay_set hty (by decide)), i0, i1, hn, i3⟩, fun j u hj => ?_⟩
  by_cases e : j = 3
  · subst e
    cases hj
    rw [Array.getElem?_setIfInBounds_self_of_lt (by omega)]
  · rw [Array.getElem?_setIfInBounds_ne (by omega)]
    refine hc j u ?_
    match j, hj with
    | 0, hj => exact hj
    | 1, hj => exact hj
    | 2, hj => exact hj
    | 3, _ => exact absurd rfl e
    | 4, hj => exact hj
    | 5, hj => exact hj
    | 6, hj => exact hj
    | j + 7, hj => simp at hj
end

end Go.Proofs.YtmonloebkdpahaaDoor

/- Elements with what they lead to, as a list of cells: taken apart and put together in another order of blocks (boxes into a new row). -/
namespace Go.Proofs.YtmonloebkdpahaaDoor
open Go.RowKit

section
variable {α : Type} {sz : Nat} {E : World → List Value → α → (Nat → Prop) → Prop} {w w' : World}
/-- The cells xs are those of the elements l, one behind the other; what they lead to lies in S, apart from one another. -/
def EL (sz : Nat) (E : World → List Value → α → (Nat → Prop) → Prop) (w : World) : List α → (Nat → Prop) → List Value → Prop
  | [], _, xs => xs = []
  | x :: l, S, xs => ∃ (c ys : List Value) (F S' : Nat → Prop), xs = c ++ ys ∧ c.length = sz ∧ E w c x F ∧ EL sz E w l S' ys ∧ (∀ b, F b → S b) ∧ (∀ b, S' b → S b) ∧ ∀ b, F b → ¬ S' b
theorem EL.len : ∀ {l : List α} {S : Nat → Prop} {xs : List Value}, EL sz E w l S xs → xs.length = l.length * sz
  | [], _, _, h => by rw [show _ = [] from h]; simp
  | _ :: l, _, _, ⟨c, ys, _, _, e, hc, _, hl, _⟩ => by rw [e, List.length_append, hc, EL.len hl, List.length_cons, Nat.succ_mul, Nat.add_comm]
theorem EL.mono : ∀ {l : List α} {S T : Nat → Prop} {xs : List Value}, EL sz E w l S xs → (∀ b, S b → T b) → EL sz E w l T xs
  | [], _, _, _, h, _ => h
  | _ :: _, _, _, _, ⟨c, ys, F, S', e, hc, he, hl, h1, h2, h3⟩, hS => ⟨c, ys, F, S', e, hc, he, hl, fun b h => hS b (h1 b h), fun b h => hS b (h2 b h), h3⟩
/-- It stays while what it leads to does. -/
theorem EL.keep {w w' : World} : ∀ {l : List α} {S : Nat → Prop} {xs : List Value}, EL sz E w l S xs → (∀ c x F, (∀ b, F b → S b) → E w c x F → E w' c x F) → EL sz E w' l S xs
  | [], _, _, h, _ => h
  | _ :: _, _, _, ⟨c, ys, F, S', e, hc, he, hl, h1, h2, h3⟩, hk => ⟨c, ys, F, S', e, hc, hk _ _ _ h1 he, hl.keep fun c x F h => hk c x F fun b hb => h2 b (h b hb), h1, h2, h3⟩
theorem EL.one {c : List Value} {x : α} {F : Nat → Prop} (hc : c.length = sz) (he : E w c x F) : EL sz E w [x] F c :=
  ⟨c, [], F, fun _ => False, by simp, hc, he, rfl, fun _ h => h, fun _ h => h.elim, fun _ _ h => h⟩
theorem EL.app : ∀ {l m : List α} {S T : Nat → Prop} {xs ys : List Value}, EL sz E w l S xs → EL sz E w m T ys → (∀ b, S b → ¬ T b) → EL sz E w (l ++ m) (fun b => S b ∨ T b) (xs ++ ys)
  | [], m, S, T, xs, ys, h, h', _ => by rw [show xs = [] from h]; exact h'.mono fun b h => .inr h
  | x :: l, m, S, T, xs, ys, ⟨c, zs, F, S', e, hc, he, hl, h1, h2, h3⟩, h', hd =>
    ⟨c, zs ++ ys, F, fun b => S' b ∨ T b, by rw [e, List.append_assoc], hc, he, hl.app h' fun b h => hd b (h2 b h), fun b h => .inl (h1 b h), fun b h => h.elim (fun h => .inl (h2 b h)) .inr, fun b h h' => h'.elim (h3 b h) (hd b (h1 b h))⟩
/-- Taken apart. -/
theorem EL.split : ∀ (i : Nat) {l : List α} {S : Nat → Prop} {xs : List Value}, EL sz E w l S xs → ∃ S1 S2 : Nat → Prop, EL sz E w (l.take i) S1 (xs.take (i * sz)) ∧ EL sz E w (l.drop i) S2 (xs.drop (i * sz)) ∧ (∀ b, S1 b → S b) ∧ (∀ b, S2 b → S b) ∧ ∀ b, S1 b → ¬ S2 b
  | 0, l, S, xs, h => ⟨fun _ => False, S, by simp [EL], by simpa using h, fun _ h => h.elim, fun _ h => h, fun _ h => h.elim⟩
  | i + 1, [], S, xs, h => ⟨fun _ => False, S, by rw [show xs = [] from h]; simp [EL], by rw [show xs = [] from h]; simp [EL], fun _ h => h.elim, fun _ h => h, fun _ h => h.elim⟩
  | i + 1, x :: l, S, xs, ⟨c, ys, F, S', e, hc, he, hl, h1, h2, h3⟩ => by
    obtain ⟨S1, S2, a1, a2, a3, a4, a5⟩ := EL.split i hl
    have e1 : xs.take ((i + 1) * sz) = c ++ ys.take (i * sz) := by
      rw [e, List.take_append, hc, List.take_of_length_le (by rw [hc, Nat.succ_mul]; exact Nat.le_add_left _ _)]
      rw [show (i + 1) * sz - sz = i * sz by rw [Nat.succ_mul, Nat.add_sub_cancel]]
    have e2 : xs.drop ((i + 1) * sz) = ys.drop (i * sz) := by
      rw [e, List.drop_append, hc, List.drop_of_length_le (by rw [hc, Nat.succ_mul]; exact Nat.le_add_left _ _), List.nil_append]
      rw [show (i + 1) * sz - sz = i * sz by rw [Nat.succ_mul, Nat.add_sub_cancel]]
    refine ⟨fun b => F b ∨ S1 b, S2, ?_, ?_, fun b h => h.elim (h1 b) fun h => h2 b (a3 b h), fun b h => h2 b (a4 b h), fun b h h' => h.elim (fun h => h3 b h (a4 b h')) fun h => a5 b h h'⟩
    · rw [e1]
      exact ⟨c, ys.take (i * sz), F, S1, rfl, hc, he, a1, fun b h => .inl h, fun b h => .inr h, fun b h h' => h3 b h (a3 b h')⟩
    · rw [e2]
      exact a2
/-- From elements by number. -/
theorem EL.of_idx : ∀ (l : List α) {S : Nat → Prop} {xs : List Value} (cs : Nat → List Value) (fs : Nat → Nat → Prop), xs.length = l.length * sz →
    (∀ i x, l[i]? = some x → E w (cs i) x (fs i) ∧ (cs i).length = sz ∧ ∀ j u, (cs i)[j]? = some u → xs[i * sz + j]? = some u) → (∀ i b, i < l.length → fs i b → S b) → (∀ i j b, i < l.length → j < l.length → i ≠ j → fs i b → ¬ fs j b) → EL sz E w l S xs
  | [], S, xs, cs, fs, hl, _, _, _ => by
    show xs = []
    exact List.length_eq_zero_iff.1 (by simpa using hl)
  | x :: l, S, xs, cs, fs, hl, he, hs, hd => by
    obtain ⟨e0, e1, e2⟩ := he 0 x rfl
    have hxl : sz ≤ xs.length := by rw [hl, List.length_cons, Nat.succ_mul]; exact Nat.le_add_left _ _
    have ec : xs.take sz = cs 0 := by
      apply List.ext_getElem?
      intro j
      by_cases hj : j < sz
      · rw [List.getElem?_take_of_lt hj]
        have := e2 j (cs 0)[j] (List.getElem?_eq_getElem (by omega))
        rw [Nat.zero_mul, Nat.zero_add] at this
        rw [this, List.getElem?_eq_getElem]
      · rw [List.getElem?_eq_none (by rw [List.length_take]; omega), List.getElem?_eq_none (by omega)]
    refine ⟨cs 0, xs.drop sz, fs 0, fun b => ∃ i, i < l.length ∧ fs (i + 1) b, by rw [← ec, List.take_append_drop], e1, e0, ?_, fun b h => hs 0 b (by simp) h, ?_, ?_⟩
    · refine EL.of_idx l (fun i => cs (i + 1)) (fun i => fs (i + 1)) ?_ (fun i y hy => ?_) (fun i b hi h => ⟨i, hi, h⟩) (fun i j b hi hj hne => hd (i + 1) (j + 1) b (by simpa using hi) (by simpa using hj) (by omega))
      · rw [List.length_drop, hl, List.length_cons, Nat.succ_mul, Nat.add_sub_cancel]
      · obtain ⟨f0, f1, f2⟩ := he (i + 1) y (by simpa using hy)
        refine ⟨f0, f1, fun j u hu => ?_⟩
        have := f2 j u hu
        rw [List.getElem?_drop]
        rw [Nat.succ_mul] at this
        rw [show sz + (i * sz + j) = i * sz + sz + j by omega]
        exact this
    · rintro b ⟨i, hi, h⟩
      exact hs (i + 1) b (by simpa using hi) h
    · rintro b h ⟨i, hi, h'⟩
      exact hd 0 (i + 1) b (by simp) (by simpa using hi) (by omega) h h'
/-- Back to elements by number. -/
theorem EL.idx : ∀ {l : List α} {S : Nat → Prop} {xs : List Value}, EL sz E w l S xs → ∃ (cs : Nat → List Value) (fs : Nat → Nat → Prop),
    (∀ i x, l[i]? = some x → E w (cs i) x (fs i) ∧ (cs i).length = sz ∧ ∀ j u, (cs i)[j]? = some u → xs[i * sz + j]? = some u) ∧ (∀ i b, i < l.length → fs i b → S b) ∧ (∀ i j b, i < l.length → j < l.length → i ≠ j → fs i b → ¬ fs j b)
  | [], _, _, _ => ⟨fun _ => [], fun _ _ => False, by simp, by simp, by simp⟩
  | x :: l, S, xs, ⟨c, ys, F, S', e, hc, he, hl, h1, h2, h3⟩ => by
    obtain ⟨cs, fs, a1, a2, a3⟩ := EL.idx hl
    refine ⟨fun i => match i with | 0 => c | i + 1 => cs i, fun i => match i with | 0 => F | i + 1 => fs i, ?_, ?_, ?_⟩
    · intro i y hy
      cases i with
      | zero =>
        cases (by simpa using hy : x = y)
        refine ⟨he, hc, fun j u hu => ?_⟩
        have hj : j < c.length := (List.getElem?_eq_some_iff.1 hu).1
        rw [e, Nat.zero_mul, Nat.zero_add, List.getElem?_append_left hj]
        exact hu
      | succ i =>
        obtain ⟨f0, f1, f2⟩ := a1 i y (by simpa using hy)
        refine ⟨f0, f1, fun j u hu => ?_⟩
        have := f2 j u hu
        rw [e, Nat.succ_mul, List.getElem?_append_right (by omega), hc, show i * sz + sz + j - sz = i * sz + j by omega]
        exact this
    · intro i b hi h
      cases i with
      | zero => exact h1 b h
      | succ i => exact h2 b (a2 i b (by simpa using hi) h)
    · intro i j b hi hj hne h h'
      cases i with
      | zero =>
        cases j with
        | zero => exact hne rfl
        | succ j => exact h3 b h (a2 j b (by simpa using hj) h')
      | succ i =>
        cases j with
        | zero => exact h3 b h' (a2 i b (by simpa using hi) h)
        | succ j => exact a3 i j b (by simpa using hi) (by simpa using hj) (fun e => hne (by rw [e])) h h'

variable {t : TypeId} {S : Nat → Prop} {v : Value} {l : List α}
/-- Out of a list of the call's own: its cells, and what they lead to, which is not its block. -/
theorem Ow.el (h : Ow t sz E w S v l) : (v = .slice none 0 0 ∧ l = []) ∨ ∃ (g cap : Nat) (cur : Array Value), v = .slice (some ⟨g, 0, none⟩) l.length cap ∧ w.heap[g]? = some (.cells cur t (0, 0)) ∧ l.length ≤ cap ∧ cap ≤ maxLen ∧ cur.size = cap * sz ∧ S g ∧ EL sz E w l (fun b => S b ∧ b ≠ g) (cur.toList.take (l.length * sz)) := by
  rcases h with h | ⟨g, cap, cur, cs, fs, hv, hh, h1, h2, h3, h4, h5, h6, h7⟩
  · exact .inl h
  · have hle : l.length * sz ≤ cap * sz := Nat.mul_le_mul_right _ h1
    refine .inr ⟨g, cap, cur, hv, hh, h1, h2, h3, h4, EL.of_idx l cs fs ?_ (fun i x hx => ?_) h6 h7⟩
    · rw [List.length_take, show cur.toList.length = cap * sz from h3]; omega
    · obtain ⟨f0, f1, f2⟩ := h5 i x hx
      refine ⟨f0, f1, fun j u hu => ?_⟩
      have hj : j < sz := by rw [← f1]; exact (List.getElem?_eq_some_iff.1 hu).1
      have hi : i < l.length := (List.getElem?_eq_some_iff.1 hx).1
      have hm : (i + 1) * sz ≤ l.length * sz := Nat.mul_le_mul_right _ hi
      rw [Nat.succ_mul] at hm
      rw [List.getElem?_take_of_lt (by omega), Array.getElem?_toList]
      exact f2 j u hu
/-- Into a block of the call's own. -/
theorem EL.ow {g cap : Nat} {cur : Array Value} (h : EL sz E w l S (cur.toList.take (l.length * sz))) (hh : w.heap[g]? = some (.cells cur t (0, 0))) (h1 : l.length ≤ cap) (h2 : cap ≤ maxLen) (h3 : cur.size = cap * sz) (hg : ¬ S g) : Ow t sz E w (fun b => S b ∨ b = g) (.slice (some ⟨g, 0, none⟩) l.length cap) l := by
  obtain ⟨cs, fs, a1, a2, a3⟩ := h.idx
  refine .inr ⟨g, cap, cur, cs, fs, rfl, hh, h1, h2, h3, .inr rfl, fun i x hx => ?_, fun i b hi hb => ⟨.inl (a2 i b hi hb), fun e => hg (e ▸ a2 i b hi hb)⟩, a3⟩
  obtain ⟨f0, f1, f2⟩ := a1 i x hx
  refine ⟨f0, f1, fun j u hu => ?_⟩
  have hj : j < sz := by rw [← f1]; exact (List.getElem?_eq_some_iff.1 hu).1
  have hi : i < l.length := (List.getElem?_eq_some_iff.1 hx).1
  have hm : (i + 1) * sz ≤ l.length * sz := Nat.mul_le_mul_right _ hi
  rw [Nat.succ_mul] at hm
  have := f2 j u hu
  rw [List.getElem?_take_of_lt (by omega), Array.getElem?_toList] at this
  exact this
end

end Go.Proofs.YtmonloebkdpahaaDoor

/- An account behind a pointer: what it reads, what keeps it; a box out of it and back; its boxes put anew. -/
namespace Go.Proofs.YtmonloebkdpahaaDoor
open Go.RowKit
set_option linter.unusedVariables false

theorem intsp_oth {w w' : World} {S : Nat → Prop} {v : Value} {l : List Int} (h : IntsO w S v l) (hm : ∀ k, S k → k < w.heap.size → Ty w k 3 → w'.heap[k]? = w.heap[k]?) : IntsO w' S v l := by
  rcases h with h | ⟨g, cap, cur, cs, fs, hv, hh, h1, h2, h3, h4, h5, h6, h7⟩
  · exact .inl h
  · exact .inr ⟨g, cap, cur, cs, fs, hv, (hm g h4 (lt_of_heap hh) ⟨_, _, hh⟩).trans hh, h1, h2, h3, h4, h5, h6, h7⟩
theorem el_oth {w w' : World} {S : Nat → Prop} {xs : List Value} {l : List BoxD} (h : EL 7 BoxQE w l S xs) (hm : ∀ k, S k → k < w.heap.size → w'.heap[k]? = w.heap[k]?) (ht : StayT w w' 5) (hg : StayT w w' 57) : EL 7 BoxQE w' l S xs :=
  h.keep fun _ _ _ hF he => box_oth he (fun k hk hlt => hm k (hF k hk) hlt) ht hg
/-- Boxes in a new row. -/
theorem boxesq_row {w : World} {S : Nat → Prop} {B : Nat} {v : Value} {xs : List Value} {l : List BoxD} (h : w.ownsRow B 35 7 v l.length xs) (he : EL 7 BoxQE w l S xs) (hS : ∀ k, S k → k < B) : BoxesQ w (fun k => S k ∨ B ≤ k) v l := by
  obtain ⟨-, ⟨rfl, hn⟩ | ⟨g, cap, cur, rfl, hB, hh, h1, h2, h3, h4⟩⟩ := h
  · exact .inl ⟨rfl, List.length_eq_zero_iff.1 hn⟩
  · rw [← h4] at he
    exact Ow.mono (he.ow hh h1 h2 h3 fun e => by have := hS g e; omega) fun k h => h.elim .inl fun e => .inr (by omega)

/-- The account behind a pointer: its block is ga; the boxes and their mails lie in S, what it has seen does not. -/
def AccP (w : World) (S : Nat → Prop) (ga : Nat) (a : AccD) : Prop :=
  ¬ S ga ∧ ∃ u0 u1, w.heap[ga]? = some (.cells #[.int .i64 a.valid, u0, u1] 72 (0, 0)) ∧ BoxesQ w S u0 a.boxes ∧ IntsO w (fun k => ¬ S k ∧ k < w.heap.size) u1 a.seen ∧ I64 a.valid

section
variable {w w' : World} {S : Nat → Prop} {ga : Nat} {a : AccD}
theorem AccP.lt (h : AccP w S ga a) : ga < w.heap.size := let ⟨_, _, _, h, _⟩ := h; lt_of_heap h
theorem AccP.ty (h : AccP w S ga a) : Ty w ga 72 := let ⟨_, _, _, h, _⟩ := h; ⟨_, _, h⟩
theorem AccP.below (h : AccP w S ga a) (hb : Below w.heap.size w w') : AccP w' S ga a :=
  let ⟨hs, u0, u1, h0, h1, h2, r⟩ := h; ⟨hs, u0, u1, (hb.block ga (lt_of_heap h0)).trans h0, boxes_oth h1 (fun k _ hk => hb.block k hk) (stay_below hb) (stay_below hb), Ow.mono (intsp_oth h2 fun k _ hk _ => hb.block k hk) fun k h => ⟨h.1, Nat.lt_of_lt_of_le h.2 hb.size⟩, r⟩
/-- Its three cells, and the account as a value. -/
theorem AccP.cells (h : AccP w S ga a) : ∃ u0 u1, w.cell? ⟨ga, 0, none⟩ = some (.int .i64 a.valid) ∧ w.cell? ⟨ga, 1, none⟩ = some u0 ∧ w.cell? ⟨ga, 2, none⟩ = some u1 ∧ BoxesQ w S u0 a.boxes ∧ AccV w (.agg #[.int .i64 a.valid, u0, u1]) a := by
  obtain ⟨-, u0, u1, h0, h1, h2, r⟩ := h
  obtain ⟨c0, c1, c2⟩ := bx3 h0
  exact ⟨u0, u1, c0, c1, c2, h1, u0, u1, rfl, h1.v, Ow.rd (fun _ _ _ _ h => h) h2, r⟩
theorem AccP.open (h : AccP w S ga a) (i : Nat) : w.frozen? ⟨ga, i, none⟩ = false := let ⟨_, _, _, h, _⟩ := h; frozen_of_row w ga i _ _ h
/-- Its number is written. -/
theorem AccP.setValid (h : AccP w S ga a) {n : Int} (hn : I64 n) : AccP (w.setCell ⟨ga, 0, none⟩ (.int .i64 n)) S ga ⟨n, a.boxes, a.seen⟩ := by
  have ht := h.ty
  obtain ⟨hs, u0, u1, h0, h1, h2, r⟩ := h
  have hk : ∀ k, k ≠ ga → (w.setCell ⟨ga, 0, none⟩ (.int .i64 n)).heap[k]? = w.heap[k]? := fun k h => Below.heap_setCell _ _ _ _ h
  refine ⟨hs, u0, u1, box_set (i := 0) h0, boxes_oth h1 (fun k h _ => hk k fun e => hs (e ▸ h)) (stay_set ht (by decide)) (stay_set ht (by decide)), Ow.mono (intsp_oth h2 fun k _ _ hT => stay_set ht (by decide) k hT) fun k h => ⟨h.1, by simpa [World.setCell] using h.2⟩, hn⟩
/-- A box out of it, and behind a call that turns that box alone back into it. -/
theorem AccP.at (h : AccP w S ga a) {i : Nat} {b : BoxD} (hb : a.boxes[i]? = some b) :
    ∃ g cap S1, w.cell? ⟨ga, 1, none⟩ = some (.slice (some ⟨g, 0, none⟩) a.boxes.length cap) ∧ S g ∧ BoxP w S1 g (i * 7) b ∧ (∀ k, S1 k → S k ∧ k ≠ g) ∧
      ∀ (w' : World) (b' : BoxD) (S1' : Nat → Prop), Turns w w' S1 g (i * 7) → BoxP w' S1' g (i * 7) b' → (∀ k, S1' k → (S1 k ∨ w.heap.size ≤ k) ∧ k ≠ g) → AccP w' (fun k => S k ∨ w.heap.size ≤ k) ga (setB a i b') := by
  have hlt := h.lt
  obtain ⟨hs, u0, u1, h0, h1, h2, r⟩ := h
  obtain ⟨-, c1, -⟩ := bx3 h0
  obtain ⟨g, cap, S1, rfl, hg, hp, hS1, hback⟩ := h1.at hb
  refine ⟨g, cap, S1, c1, hg, hp, hS1, fun w' b' S1' ht hp' hS' => ⟨fun h => h.elim hs fun h => by omega, _, u1, ?_, hback w' b' S1' ht hp' hS', ?_, r⟩⟩
  · exact (ht.2.1 ga hlt (fun e => hs (e ▸ hg)) fun h => hs (hS1 _ h).1).trans h0
  · refine Ow.mono (intsp_oth h2 fun k hk hkl _ => ht.2.1 k hkl (fun e => hk.1 (e ▸ hg)) fun h => hk.1 (hS1 _ h).1) fun k h => ⟨fun h' => h'.elim h.1 fun h' => by have := h.2; omega, Nat.lt_of_lt_of_le h.2 ht.1⟩
end

end Go.Proofs.YtmonloebkdpahaaDoor

/- A mail of a box behind a pointer: its four cells, its text. -/
namespace Go.Proofs.YtmonloebkdpahaaDoor
open Go.RowKit

/-- A text by the type of its block: read wherever the bytes stay. -/
theorem RO.stay {w : World} {u : Value} {tx : List Int} (h : RO w Any u tx) : ∀ w' : World, w.heap.size ≤ w'.heap.size → StayT w w' 5 → Bs w' u tx := fun _ _ ht => (ro_oth h ht).bs
theorem BoxP.mail4 {w : World} {S : Nat → Prop} {g o i : Nat} {b : BoxD} {m : MailD} (h : BoxP w S g o b) (hm : b.mails[i]? = some m) :
    ∃ mb cap u, w.cell? ⟨g, o + 4, none⟩ = some (.slice (some ⟨mb, 0, none⟩) b.mails.length cap) ∧ b.mails.length ≤ cap ∧ mb < w.heap.size ∧ w.cell? ⟨mb, i * 4, none⟩ = some (.int .i64 m.uid) ∧ w.cell? ⟨mb, i * 4 + 1, none⟩ = some (.int .i64 m.flags) ∧ w.cell? ⟨mb, i * 4 + 2, none⟩ = some (.int .i64 m.seq) ∧ w.cell? ⟨mb, i * 4 + 3, none⟩ = some u ∧
      RO w Any u m.text ∧ I64 m.uid ∧ I64 m.flags ∧ I64 m.seq := by
  obtain ⟨cur, c, hh, ⟨u0, u1, u2, e, h1, h2, h3, r⟩, hc⟩ := h
  rcases h2 with ⟨_, h⟩ | ⟨mb, cap, mc, cs, fs, hv, hhm, b1, b2, b3, b4, b5, b6, b7⟩
  · rw [h] at hm; simp at hm
  obtain ⟨⟨u, ec, hro, i0, i1, i2⟩, hl, hcs⟩ := b5 i m hm
  have hcell : ∀ j x, (cs i)[j]? = some x → w.cell? ⟨mb, i * 4 + j, none⟩ = some x := fun j x hx => by
    rw [cell_of_row w mb _ mc _ (0, 0) hhm]
    exact hcs j x hx
  refine ⟨mb, cap, u, ?_, b1, lt_of_heap hhm, hcell 0 _ (by rw [ec]; rfl), hcell 1 _ (by rw [ec]; rfl), hcell 2 _ (by rw [ec]; rfl), hcell 3 _ (by rw [ec]; rfl), hro, i0, i1, i2⟩
  rw [cell_of_row w g _ cur _ (0, 0) hh, ← hv]
  exact hc 4 u1 (by rw [e]; rfl)

end Go.Proofs.YtmonloebkdpahaaDoor

/- An account behind a pointer: what a call that is given it may turn; its blocks, cut to those that are there. -/
namespace Go.Proofs.YtmonloebkdpahaaDoor
open Go.RowKit
set_option linter.unusedVariables false

/-- What a call turns that is given an account: its block (not what it has seen), and blocks in S; nothing else that is old. -/
def TurnsA (w w' : World) (S : Nat → Prop) (ga : Nat) : Prop :=
  w.heap.size ≤ w'.heap.size ∧ (∀ k, k < w.heap.size → k ≠ ga → ¬ S k → w'.heap[k]? = w.heap[k]?) ∧ StayT w w' 5 ∧ StayT w w' 57 ∧ w'.os = w.os ∧ w'.tape = w.tape ∧ w'.output = w.output ∧ (ga < w.heap.size → ¬ S ga → w'.cell? ⟨ga, 2, none⟩ = w.cell? ⟨ga, 2, none⟩)

section
variable {w w' w'' : World} {S S' S1 : Nat → Prop} {ga g o : Nat} {a : AccD}
theorem TurnsA.refl (w : World) (S : Nat → Prop) (ga : Nat) : TurnsA w w S ga := ⟨Nat.le_refl _, fun _ _ _ _ => rfl, StayT.refl _ _, StayT.refl _ _, rfl, rfl, rfl, fun _ _ => rfl⟩
theorem TurnsA.trans (h : TurnsA w w' S ga) (h' : TurnsA w' w'' S' ga) (hS : ∀ k, S' k → S k ∨ w.heap.size ≤ k) : TurnsA w w'' S ga :=
  ⟨Nat.le_trans h.1 h'.1, fun k hk hg hs => (h'.2.1 k (Nat.lt_of_lt_of_le hk h.1) hg (fun h2 => (hS k h2).elim hs (fun h3 => by omega))).trans (h.2.1 k hk hg hs), h.2.2.1.trans h'.2.2.1, h.2.2.2.1.trans h'.2.2.2.1, h'.2.2.2.2.1.trans h.2.2.2.2.1, h'.2.2.2.2.2.1.trans h.2.2.2.2.2.1, h'.2.2.2.2.2.2.1.trans h.2.2.2.2.2.2.1, fun h1 h2 => (h'.2.2.2.2.2.2.2 (Nat.lt_of_lt_of_le h1 h.1) (fun h3 => (hS ga h3).elim h2 (fun h4 => by omega))).trans (h.2.2.2.2.2.2.2 h1 h2)⟩
theorem TurnsA.below (h : Below w.heap.size w w') : TurnsA w w' S ga := ⟨h.size, fun k hk _ _ => h.block k hk, stay_below h, stay_below h, h.os, h.tape, h.output, fun h1 _ => h.cell (p := ⟨ga, 2, none⟩) h1⟩
theorem TurnsA.box (h : Turns w w' S1 g o) (hg : S g) (hS : ∀ k, S1 k → S k) : TurnsA w w' S ga :=
  ⟨h.1, fun k hk _ hs => h.2.1 k hk (fun e => hs (e ▸ hg)) (fun h => hs (hS k h)), h.2.2.1, h.2.2.2.1, h.2.2.2.2.2.1, h.2.2.2.2.2.2.1, h.2.2.2.2.2.2.2, fun h1 h2 => by unfold World.cell?; rw [h.2.1 ga h1 (fun e => h2 (e ▸ hg)) (fun h => h2 (hS ga h))]⟩
theorem TurnsA.set {i : Nat} {x : Value} (h : AccP w S' ga a) (hi : i ≠ 2 := by decide) : TurnsA w (w.setCell ⟨ga, i, none⟩ x) S ga :=
  ⟨by rw [box_size]; exact Nat.le_refl _, fun k _ hg _ => Below.heap_setCell _ _ _ _ hg, stay_set h.ty (by decide), stay_set h.ty (by decide), rfl, rfl, rfl, fun _ _ => by
    obtain ⟨-, u0, u1, hh, -⟩ := h
    rw [cell_of_row _ _ _ _ _ (0, 0) (box_set (i := i) (v := x) hh), cell_of_row _ _ _ _ _ (0, 0) hh, Array.getElem?_setIfInBounds_ne hi]⟩
theorem TurnsA.wide (h : TurnsA w w' S ga) (hS : ∀ k, S k → S' k) : TurnsA w w' S' ga := ⟨h.1, fun k h1 h2 h3 => h.2.1 k h1 h2 (fun h4 => h3 (hS k h4)), h.2.2.1, h.2.2.2.1, h.2.2.2.2.1, h.2.2.2.2.2.1, h.2.2.2.2.2.2.1, fun h1 h2 => h.2.2.2.2.2.2.2 h1 fun h3 => h2 (hS ga h3)⟩
theorem BoxesQ.cut {v : Value} {l : List BoxD} (h : BoxesQ w S v l) : BoxesQ w (fun k => S k ∧ k < w.heap.size) v l := by
  rcases h with h | ⟨g, cap, cur, cs, fs, hv, hh, h1, h2, h3, h4, h5, h6, h7⟩
  · exact .inl h
  · refine .inr ⟨g, cap, cur, cs, fun i k => fs i k ∧ k < w.heap.size, hv, hh, h1, h2, h3, ⟨h4, lt_of_heap hh⟩, fun i x hx => ⟨?_, (h5 i x hx).2⟩, fun i k hi hk => ⟨⟨(h6 i k hi hk.1).1, hk.2⟩, (h6 i k hi hk.1).2⟩, fun i j k hi hj hne hk hk' => h7 i j k hi hj hne hk.1 hk'.1⟩
    obtain ⟨u0, u1, u2, e, e1, e2, r⟩ := (h5 i x hx).1
    refine ⟨u0, u1, u2, e, e1, ?_, r⟩
    rcases e2 with h | ⟨m, cap, cu, cs, fs, hv, hm, k1, k2, k3, k4, k5, k6, k7⟩
    · exact .inl h
    · exact .inr ⟨m, cap, cu, cs, fun _ _ => False, hv, hm, k1, k2, k3, ⟨k4, lt_of_heap hm⟩, k5, by simp, by simp⟩
theorem AccP.cut (h : AccP w S ga a) : AccP w (fun k => S k ∧ k < w.heap.size) ga a :=
  let ⟨hs, u0, u1, h0, h1, h2, r⟩ := h; ⟨fun h => hs h.1, u0, u1, h0, BoxesQ.cut h1, Ow.mono h2 fun k h => ⟨fun h' => h.1 h'.1, h.2⟩, r⟩
/-- It stays where a call turns none of its blocks. -/
theorem AccP.oth (h : AccP w S ga a) (hsz : w.heap.size ≤ w'.heap.size) (hg : w'.heap[ga]? = w.heap[ga]?) (hm : ∀ k, S k → k < w.heap.size → w'.heap[k]? = w.heap[k]?) (ht : StayT w w' 5) (hq : StayT w w' 57) (hn : StayT w w' 3) : AccP w' S ga a :=
  let ⟨hs, u0, u1, h0, h1, h2, r⟩ := h; ⟨hs, u0, u1, hg.trans h0, boxes_oth h1 hm ht hq, Ow.mono (intsp_oth h2 fun k _ _ hT => hn k hT) fun k h => ⟨h.1, Nat.lt_of_lt_of_le h.2 hsz⟩, r⟩
end

end Go.Proofs.YtmonloebkdpahaaDoor
