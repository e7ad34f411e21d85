/- The proof's texts, part 2. -/
import Derived.Test.YthnlbhmecokomaaDoorPart1
import Derived.Maps.AppendAt
import Derived.WalkKit
import Derived.Lib.Bytealg
import Derived.Lib.ItoaNum
import Derived.WalkLawsBesides
import Derived.Deep.RegionHeld3

/- Mails, boxes and accounts in memory: what they read as, and those of the call's own. -/
namespace Go.Proofs.YthnlbhmecokomaaDoor
open Go.RowKit

structure MailD where
  uid : Int
  flags : Int
  seq : Int
  text : List Int
structure GoneD where
  uid : Int
  seq : Int
structure BoxD where
  name : List Int
  valid : Int
  next : Int
  seq : Int
  mails : List MailD
  gones : List GoneD
  lost : Int
structure AccD where
  valid : Int
  boxes : List BoxD
  seen : List Int

/-- A row of bytes of the call's own whose block lies in S. -/
def RO (w : World) (S : Nat → Prop) (v : Value) (l : List Int) : Prop := Oct l ∧ w.ownsRow 0 5 1 v l.length (vals l) ∧ ∀ g, v.ownBlock = some g → S g

theorem Row.ro {w : World} {B T : Nat} {v : Value} {l : List Int} (h : Row w B T v l) : RO w (In B T) v l :=
  ⟨h.1, (h.wide (B' := 0) (T' := T) (Nat.zero_le _) (Nat.le_refl _)).2.1, fun g hg => ⟨(h.2.1.lt g hg).1, h.2.2 g hg⟩⟩
theorem RO.bs {w : World} {S : Nat → Prop} {v : Value} {l : List Int} (h : RO w S v l) : Bs w v l := (own_of_row h.1 rfl h.2.1).elim fun _ h => h.2.bs
theorem RO.mono {w : World} {S S' : Nat → Prop} {v : Value} {l : List Int} (h : RO w S v l) (hS : ∀ b, S b → S' b) : RO w S' v l := ⟨h.1, h.2.1, fun g hg => hS g (h.2.2 g hg)⟩
theorem RO.frame {w w' : World} {S : Nat → Prop} {v : Value} {l : List Int} (h : RO w S v l) (hw : ∀ b, S b → b < w.heap.size → w'.heap[b]? = w.heap[b]?) : RO w' S v l := by
  refine ⟨h.1, ⟨h.2.1.1, ?_⟩, h.2.2⟩
  rcases h.2.1.2 with hn | ⟨g, cap, cur, hv, hg, hh, r⟩
  · exact .inl hn
  · exact .inr ⟨g, cap, cur, hv, hg, (hw g (h.2.2 g (by rw [hv]; rfl)) (lt_of_heap hh)).trans hh, r⟩
theorem RO.below {w w' : World} {S : Nat → Prop} {v : Value} {l : List Int} (h : RO w S v l) (hb : Below w.heap.size w w') : RO w' S v l := h.frame fun b _ hlt => hb.block b hlt
theorem RO.nil (w : World) (S : Nat → Prop) : RO w S (.slice none 0 0) [] := ⟨oct_nil, World.ownsRow_nil _ _ _ _, fun g hg => by simp [Value.ownBlock] at hg⟩

def IntRE (_ : World) (c : List Value) (n : Int) : Prop := c = [.int .i64 n] ∧ I64 n
def MailRE (w : World) (c : List Value) (m : MailD) : Prop := ∃ u, c = [.int .i64 m.uid, .int .i64 m.flags, .int .i64 m.seq, u] ∧ Bs w u m.text ∧ I64 m.uid ∧ I64 m.flags ∧ I64 m.seq
def GoneRE (_ : World) (c : List Value) (m : GoneD) : Prop := c = [.int .i64 m.uid, .int .i64 m.seq] ∧ I64 m.uid ∧ I64 m.seq
abbrev IntsV := Rd 1 IntRE
abbrev MailsV := Rd 4 MailRE
abbrev GonesV := Rd 2 GoneRE
def BoxRE (w : World) (c : List Value) (b : BoxD) : Prop :=
  ∃ u0 u1 u2, c = [u0, .int .i64 b.valid, .int .i64 b.next, .int .i64 b.seq, u1, u2, .int .i64 b.lost] ∧ Bs w u0 b.name ∧ MailsV w u1 b.mails ∧ GonesV w u2 b.gones ∧ I64 b.valid ∧ I64 b.next ∧ I64 b.seq ∧ I64 b.lost
abbrev BoxesV := Rd 7 BoxRE

theorem keepsInt : Keeps IntRE := fun _ _ _ _ _ h => h
theorem keepsGone : Keeps GoneRE := fun _ _ _ _ _ h => h
theorem keepsMail : Keeps MailRE := fun _ _ _ _ hb h => let ⟨u, h0, h1, r⟩ := h; ⟨u, h0, h1.below hb, r⟩
theorem keepsBox : Keeps BoxRE := fun _ _ _ _ hb h => let ⟨u0, u1, u2, h0, h1, h2, h3, r⟩ := h; ⟨u0, u1, u2, h0, h1.below hb, h2.below keepsMail hb, h3.below keepsGone hb, r⟩

def IntE (_ : World) (c : List Value) (n : Int) (_ : Nat → Prop) : Prop := c = [.int .i64 n] ∧ I64 n
def MailE (w : World) (c : List Value) (m : MailD) (S : Nat → Prop) : Prop := ∃ u, c = [.int .i64 m.uid, .int .i64 m.flags, .int .i64 m.seq, u] ∧ RO w S u m.text ∧ I64 m.uid ∧ I64 m.flags ∧ I64 m.seq
def GoneE (_ : World) (c : List Value) (m : GoneD) (_ : Nat → Prop) : Prop := c = [.int .i64 m.uid, .int .i64 m.seq] ∧ I64 m.uid ∧ I64 m.seq
theorem framesInt : Frames IntE := fun _ _ _ _ _ h _ => h
theorem framesGone : Frames GoneE := fun _ _ _ _ _ h _ => h
theorem framesMail : Frames MailE := fun _ _ _ _ _ h hw => let ⟨u, h0, h1, r⟩ := h; ⟨u, h0, h1.frame hw, r⟩
abbrev IntsO := Ow 3 1 IntE
abbrev MailsO := Ow 73 4 MailE
abbrev GonesO := Ow 75 2 GoneE
def BoxE (w : World) (c : List Value) (b : BoxD) (S : Nat → Prop) : Prop :=
  ∃ u0 u1 u2 S0 S1 S2, c = [u0, .int .i64 b.valid, .int .i64 b.next, .int .i64 b.seq, u1, u2, .int .i64 b.lost] ∧ RO w S0 u0 b.name ∧ MailsO w S1 u1 b.mails ∧ GonesO w S2 u2 b.gones ∧ (∀ x, S0 x → S x ∧ ¬ S1 x ∧ ¬ S2 x) ∧ (∀ x, S1 x → S x ∧ ¬ S2 x) ∧ (∀ x, S2 x → S x) ∧
    I64 b.valid ∧ I64 b.next ∧ I64 b.seq ∧ I64 b.lost
theorem framesBox : Frames BoxE := fun _ _ _ _ _ h hw =>
  let ⟨u0, u1, u2, S0, S1, S2, h0, h1, h2, h3, d0, d1, d2, r⟩ := h
  ⟨u0, u1, u2, S0, S1, S2, h0, h1.frame fun b hb => hw b (d0 b hb).1, h2.frame framesMail fun b hb => hw b (d1 b hb).1, h3.frame framesGone fun b hb => hw b (d2 b hb), d0, d1, d2, r⟩
abbrev BoxesO := Ow 53 7 BoxE
theorem MailE.rd {w : World} {c : List Value} {m : MailD} {S : Nat → Prop} (h : MailE w c m S) : MailRE w c m := let ⟨u, h0, h1, r⟩ := h; ⟨u, h0, h1.bs, r⟩
theorem BoxE.rd {w : World} {c : List Value} {b : BoxD} {S : Nat → Prop} (h : BoxE w c b S) : BoxRE w c b :=
  let ⟨u0, u1, u2, _, _, _, h0, h1, h2, h3, _, _, _, r⟩ := h; ⟨u0, u1, u2, h0, h1.bs, h2.rd fun _ _ _ _ => MailE.rd, h3.rd fun _ _ _ _ h => h, r⟩

def AccV (w : World) (v : Value) (a : AccD) : Prop := ∃ u0 u1, v = .agg #[.int .i64 a.valid, u0, u1] ∧ BoxesV w u0 a.boxes ∧ IntsV w u1 a.seen ∧ I64 a.valid
theorem AccV.below {w w' : World} {v : Value} {a : AccD} (h : AccV w v a) (hb : Below w.heap.size w w') : AccV w' v a := let ⟨u0, u1, h0, h1, h2, r⟩ := h; ⟨u0, u1, h0, h1.below keepsBox hb, h2.below keepsInt hb, r⟩
def AccO (w : World) (S : Nat → Prop) (v : Value) (a : AccD) : Prop := ∃ u0 u1 S0 S1, v = .agg #[.int .i64 a.valid, u0, u1] ∧ BoxesO w S0 u0 a.boxes ∧ IntsO w S1 u1 a.seen ∧ (∀ x, S0 x → S x ∧ ¬ S1 x) ∧ (∀ x, S1 x → S x) ∧ I64 a.valid
theorem AccO.v {w : World} {S : Nat → Prop} {v : Value} {a : AccD} (h : AccO w S v a) : AccV w v a :=
  let ⟨u0, u1, _, _, h0, h1, h2, _, _, r⟩ := h; ⟨u0, u1, h0, h1.rd fun _ _ _ _ => BoxE.rd, h2.rd fun _ _ _ _ h => h, r⟩
theorem AccO.frame {w w' : World} {S : Nat → Prop} {v : Value} {a : AccD} (h : AccO w S v a) (hw : ∀ b, S b → b < w.heap.size → w'.heap[b]? = w.heap[b]?) : AccO w' S v a :=
  let ⟨u0, u1, S0, S1, h0, h1, h2, d0, d1, r⟩ := h; ⟨u0, u1, S0, S1, h0, h1.frame framesBox fun b hb => hw b (d0 b hb).1, h2.frame framesInt fun b hb => hw b (d1 b hb), d0, d1, r⟩
theorem AccO.below {w w' : World} {S : Nat → Prop} {v : Value} {a : AccD} (h : AccO w S v a) (hb : Below w.heap.size w w') : AccO w' S v a := h.frame fun b _ hlt => hb.block b hlt
/-- A box as a value. -/
def BoxV (w : World) (v : Value) (b : BoxD) : Prop :=
  ∃ u0 u1 u2, v = .agg #[u0, .int .i64 b.valid, .int .i64 b.next, .int .i64 b.seq, u1, u2, .int .i64 b.lost] ∧ Bs w u0 b.name ∧ MailsV w u1 b.mails ∧ GonesV w u2 b.gones ∧ I64 b.valid ∧ I64 b.next ∧ I64 b.seq ∧ I64 b.lost
theorem BoxV.below {w w' : World} {v : Value} {b : BoxD} (h : BoxV w v b) (hb : Below w.heap.size w w') : BoxV w' v b := let ⟨u0, u1, u2, h0, h1, h2, h3, r⟩ := h; ⟨u0, u1, u2, h0, h1.below hb, h2.below keepsMail hb, h3.below keepsGone hb, r⟩
def BoxO (w : World) (S : Nat → Prop) (v : Value) (b : BoxD) : Prop := ∃ c, v = .agg c.toArray ∧ BoxE w c b S
theorem BoxO.v {w : World} {S : Nat → Prop} {v : Value} {b : BoxD} (h : BoxO w S v b) : BoxV w v b := by
  obtain ⟨c, rfl, h⟩ := h
  obtain ⟨u0, u1, u2, rfl, r⟩ := h.rd
  exact ⟨u0, u1, u2, rfl, r⟩
def MailV (w : World) (v : Value) (m : MailD) : Prop := ∃ u, v = .agg #[.int .i64 m.uid, .int .i64 m.flags, .int .i64 m.seq, u] ∧ Bs w u m.text ∧ I64 m.uid ∧ I64 m.flags ∧ I64 m.seq
theorem MailV.below {w w' : World} {v : Value} {m : MailD} (h : MailV w v m) (hb : Below w.heap.size w w') : MailV w' v m := let ⟨u, h0, h1, r⟩ := h; ⟨u, h0, h1.below hb, r⟩

/-- One element's cells, as the walk asks for them. -/
theorem IntsV.cell {w : World} {v : Value} {l : List Int} (h : IntsV w v l) (k : Nat) (x : Int) (hx : l[k]? = some x) : ∃ b off cap, v = .slice (some ⟨b, off, none⟩) l.length cap ∧ b < w.heap.size ∧ w.cell? ⟨b, off + k, none⟩ = some (.int .i64 x) ∧ I64 x := by
  obtain ⟨b, off, cap, c, hv, hlt, ⟨rfl, hi⟩, -, hc⟩ := h.get k x hx
  exact ⟨b, off, cap, hv, hlt, by simpa using hc 0 _ rfl, hi⟩
theorem GonesV.cell {w : World} {v : Value} {l : List GoneD} (h : GonesV w v l) (k : Nat) (x : GoneD) (hx : l[k]? = some x) : ∃ b off cap, v = .slice (some ⟨b, off, none⟩) l.length cap ∧ b < w.heap.size ∧ w.cell? ⟨b, off + k * 2, none⟩ = some (.int .i64 x.uid) ∧ w.cell? ⟨b, off + k * 2 + 1, none⟩ = some (.int .i64 x.seq) ∧ I64 x.uid ∧ I64 x.seq := by
  obtain ⟨b, off, cap, c, hv, hlt, ⟨rfl, hi⟩, -, hc⟩ := h.get k x hx
  exact ⟨b, off, cap, hv, hlt, hc 0 _ rfl, hc 1 _ rfl, hi⟩
theorem MailsV.cell {w : World} {v : Value} {l : List MailD} (h : MailsV w v l) (k : Nat) (x : MailD) (hx : l[k]? = some x) : ∃ b off cap u, v = .slice (some ⟨b, off, none⟩) l.length cap ∧ b < w.heap.size ∧ w.cell? ⟨b, off + k * 4, none⟩ = some (.int .i64 x.uid) ∧ w.cell? ⟨b, off + k * 4 + 1, none⟩ = some (.int .i64 x.flags) ∧
    w.cell? ⟨b, off + k * 4 + 2, none⟩ = some (.int .i64 x.seq) ∧ w.cell? ⟨b, off + k * 4 + 3, none⟩ = some u ∧ Bs w u x.text ∧ I64 x.uid ∧ I64 x.flags ∧ I64 x.seq := by
  obtain ⟨b, off, cap, c, hv, hlt, ⟨u, rfl, hu, hi⟩, -, hc⟩ := h.get k x hx
  exact ⟨b, off, cap, u, hv, hlt, hc 0 _ rfl, hc 1 _ rfl, hc 2 _ rfl, hc 3 _ rfl, hu, hi⟩
theorem BoxesV.cell {w : World} {v : Value} {l : List BoxD} (h : BoxesV w v l) (k : Nat) (x : BoxD) (hx : l[k]? = some x) : ∃ b off cap u0 u1 u2, v = .slice (some ⟨b, off, none⟩) l.length cap ∧ b < w.heap.size ∧ w.cell? ⟨b, off + k * 7, none⟩ = some u0 ∧ w.cell? ⟨b, off + k * 7 + 1, none⟩ = some (.int .i64 x.valid) ∧
    w.cell? ⟨b, off + k * 7 + 2, none⟩ = some (.int .i64 x.next) ∧ w.cell? ⟨b, off + k * 7 + 3, none⟩ = some (.int .i64 x.seq) ∧ w.cell? ⟨b, off + k * 7 + 4, none⟩ = some u1 ∧ w.cell? ⟨b, off + k * 7 + 5, none⟩ = some u2 ∧ w.cell? ⟨b, off + k * 7 + 6, none⟩ = some (.int .i64 x.lost) ∧
    Bs w u0 x.name ∧ MailsV w u1 x.mails ∧ GonesV w u2 x.gones ∧ I64 x.valid ∧ I64 x.next ∧ I64 x.seq ∧ I64 x.lost := by
  obtain ⟨b, off, cap, c, hv, hlt, ⟨u0, u1, u2, rfl, h0, h1, h2, hi⟩, -, hc⟩ := h.get k x hx
  exact ⟨b, off, cap, u0, u1, u2, hv, hlt, hc 0 _ rfl, hc 1 _ rfl, hc 2 _ rfl, hc 3 _ rfl, hc 4 _ rfl, hc 5 _ rfl, hc 6 _ rfl, h0, h1, h2, hi⟩

/-- How many values a mail, a list of mails, a box, a list of boxes hold. -/
def szM (l : List MailD) : Nat := (l.map fun m => m.text.length + 1).sum
def szX (b : BoxD) : Nat := b.name.length + szM b.mails + b.gones.length
def szXs (l : List BoxD) : Nat := (l.map fun b => szX b + 1).sum
theorem szM_mem {l : List MailD} {m : MailD} (h : m ∈ l) : m.text.length + 1 ≤ szM l := by
  induction l with
  | nil => cases h
  | cons x l ih =>
    simp only [szM, List.map_cons, List.sum_cons] at ih ⊢
    rcases List.mem_cons.1 h with rfl | h
    · omega
    · have := ih h; omega
theorem szXs_mem {l : List BoxD} {b : BoxD} (h : b ∈ l) : szX b + 1 ≤ szXs l := by
  induction l with
  | nil => cases h
  | cons x l ih =>
    simp only [szXs, List.map_cons, List.sum_cons] at ih ⊢
    rcases List.mem_cons.1 h with rfl | h
    · omega
    · have := ih h; omega
theorem szM_len (l : List MailD) : l.length ≤ szM l := by
  induction l with
  | nil => simp [szM]
  | cons x l ih => simp only [szM, List.map_cons, List.sum_cons, List.length_cons] at ih ⊢; omega
theorem szXs_len (l : List BoxD) : l.length ≤ szXs l := by
  induction l with
  | nil => simp [szXs]
  | cons x l ih => simp only [szXs, List.map_cons, List.sum_cons, List.length_cons] at ih ⊢; omega

end Go.Proofs.YthnlbhmecokomaaDoor

/- Lists of the call's own whose blocks lie between two; blocks of two, three, four, seven cells. -/
namespace Go.Proofs.YthnlbhmecokomaaDoor
open Go.RowKit

class Fr {α : Type} (E : World → List Value → α → (Nat → Prop) → Prop) : Prop where
  out : Frames E
instance : Fr IntE := ⟨framesInt⟩
instance : Fr MailE := ⟨framesMail⟩
instance : Fr GoneE := ⟨framesGone⟩
instance : Fr BoxE := ⟨framesBox⟩

def OwR {α : Type} (t : TypeId) (sz : Nat) (E : World → List Value → α → (Nat → Prop) → Prop) (w : World) (B T : Nat) (v : Value) (l : List α) : Prop := Ow t sz E w (In B T) v l
section
variable {α : Type} {t : TypeId} {sz : Nat} {E : World → List Value → α → (Nat → Prop) → Prop} {w w' : World} {B T B' T' g i : Nat} {v x : Value} {l : List α}
theorem OwR.ow (h : OwR t sz E w B T v l) : Ow t sz E w (In B T) v l := h
theorem OwR.wide (h : OwR t sz E w B T v l) (hB : B' ≤ B) (hT : T ≤ T') : OwR t sz E w B' T' v l := Ow.mono h fun _ hb => ⟨Nat.le_trans hB hb.1, Nat.lt_of_lt_of_le hb.2 hT⟩
theorem OwR.below [Fr E] (h : OwR t sz E w B T v l) (hb : Below w.heap.size w w') : OwR t sz E w' B T v l := Ow.below Fr.out h hb
theorem OwR.keptW [Fr E] (h : OwR t sz E w B T v l) (hw : Within B' T' w w') (hd : T ≤ B' ∨ T' ≤ B) : OwR t sz E w' B T v l := Ow.keptW Fr.out h hw fun b hb => by have := hb.1; have := hb.2; omega
theorem OwR.set [Fr E] (h : OwR t sz E w B T v l) (hd : g < B ∨ T ≤ g) : OwR t sz E (w.setCell ⟨g, i, none⟩ x) B T v l :=
  Ow.frame Fr.out h fun b hb _ => Below.heap_setCell w ⟨g, i, none⟩ x b (show b ≠ g by have := hb.1; have := hb.2; omega)
theorem OwR.form3 (h : OwR t sz E w B T v l) : ∃ a n cap, v = .slice a n cap := by
  rcases h with ⟨rfl, _⟩ | ⟨g, cap, cur, cs, fs, hv, _⟩
  · exact ⟨_, _, _, rfl⟩
  · exact ⟨_, _, _, hv⟩
theorem made_part {e : TypeId} {n : Nat} {xs : List Value} (h : w.ownsRow B e sz (.slice (some ⟨g, 0, none⟩) n n) n xs) : ∃ cur, w.heap[g]? = some (.cells cur e (0, 0)) ∧ cur.size = n * sz := by
  rcases h.2 with ⟨h, _⟩ | ⟨g', c, cur, h, _, hh, _, _, h3, _⟩
  · simp at h
  · simp only [Value.slice.injEq, Option.some.injEq, Addr.mk.injEq, and_true, true_and] at h
    obtain ⟨rfl, rfl⟩ := h
    exact ⟨cur, hh, h3⟩
end
abbrev IntsR := OwR 3 1 IntE
abbrev MailsR := OwR 73 4 MailE
abbrev GonesR := OwR 75 2 GoneE
abbrev BoxesR := OwR 53 7 BoxE

theorem bx2 {w : World} {g : Nat} {t : TypeId} {c0 c1 : Value} (h : w.heap[g]? = some (.cells #[c0, c1] t (0, 0))) : w.cell? ⟨g, 0, none⟩ = some c0 ∧ w.cell? ⟨g, 1, none⟩ = some c1 :=
  ⟨by rw [cell_of_row w g 0 _ t (0, 0) h]; rfl, by rw [cell_of_row w g 1 _ t (0, 0) h]; rfl⟩
theorem bx3 {w : World} {g : Nat} {t : TypeId} {c0 c1 c2 : Value} (h : w.heap[g]? = some (.cells #[c0, c1, c2] t (0, 0))) : w.cell? ⟨g, 0, none⟩ = some c0 ∧ w.cell? ⟨g, 1, none⟩ = some c1 ∧ w.cell? ⟨g, 2, none⟩ = some c2 :=
  ⟨by rw [cell_of_row w g 0 _ t (0, 0) h]; rfl, by rw [cell_of_row w g 1 _ t (0, 0) h]; rfl, by rw [cell_of_row w g 2 _ t (0, 0) h]; rfl⟩
theorem bx4 {w : World} {g : Nat} {t : TypeId} {c0 c1 c2 c3 : Value} (h : w.heap[g]? = some (.cells #[c0, c1, c2, c3] t (0, 0))) : w.cell? ⟨g, 0, none⟩ = some c0 ∧ w.cell? ⟨g, 1, none⟩ = some c1 ∧ w.cell? ⟨g, 2, none⟩ = some c2 ∧ w.cell? ⟨g, 3, none⟩ = some c3 :=
  ⟨by rw [cell_of_row w g 0 _ t (0, 0) h]; rfl, by rw [cell_of_row w g 1 _ t (0, 0) h]; rfl, by rw [cell_of_row w g 2 _ t (0, 0) h]; rfl, by rw [cell_of_row w g 3 _ t (0, 0) h]; rfl⟩
theorem bx7 {w : World} {g : Nat} {t : TypeId} {c0 c1 c2 c3 c4 c5 c6 : Value} (h : w.heap[g]? = some (.cells #[c0, c1, c2, c3, c4, c5, c6] t (0, 0))) :
    w.cell? ⟨g, 0, none⟩ = some c0 ∧ w.cell? ⟨g, 1, none⟩ = some c1 ∧ w.cell? ⟨g, 2, none⟩ = some c2 ∧ w.cell? ⟨g, 3, none⟩ = some c3 ∧ w.cell? ⟨g, 4, none⟩ = some c4 ∧ w.cell? ⟨g, 5, none⟩ = some c5 ∧ w.cell? ⟨g, 6, none⟩ = some c6 :=
  ⟨by rw [cell_of_row w g 0 _ t (0, 0) h]; rfl, by rw [cell_of_row w g 1 _ t (0, 0) h]; rfl, by rw [cell_of_row w g 2 _ t (0, 0) h]; rfl, by rw [cell_of_row w g 3 _ t (0, 0) h]; rfl,
   by rw [cell_of_row w g 4 _ t (0, 0) h]; rfl, by rw [cell_of_row w g 5 _ t (0, 0) h]; rfl, by rw [cell_of_row w g 6 _ t (0, 0) h]; rfl⟩

end Go.Proofs.YthnlbhmecokomaaDoor

/- A list of the call's own, and one element more put behind it. -/
namespace Go.Proofs.YthnlbhmecokomaaDoor
open Go.RowKit

/-- The list as a row of cells, with what its elements lead to. -/
theorem Ow.row {α : Type} {t : TypeId} {sz : Nat} {E : World → List Value → α → (Nat → Prop) → Prop} {w : World} {B M : Nat} {v : Value} {l : List α} (h : Ow t sz E w (In B M) v l) :
    ∃ (xs : List Value) (cs : Nat → List Value) (fs : Nat → Nat → Prop), w.ownsRow B t sz v l.length xs ∧ (∀ g, v.ownBlock = some g → g < M) ∧
      (∀ i x, l[i]? = some x → E w (cs i) x (fs i) ∧ (cs i).length = sz ∧ ∀ j u, (cs i)[j]? = some u → xs[i * sz + j]? = some u) ∧
      (∀ i b, i < l.length → fs i b → In B M b ∧ v.ownBlock ≠ some b) ∧ (∀ i j b, i < l.length → j < l.length → i ≠ j → fs i b → ¬ fs j b) := by
  rcases h with ⟨rfl, rfl⟩ | ⟨g, cap, cur, cs, fs, rfl, hh, h1, h2, h3, h4, h5, h6, h7⟩
  · exact ⟨[], fun _ => [], fun _ _ => False, ⟨by simp, .inl ⟨rfl, rfl⟩⟩, fun g hg => by simp [Value.ownBlock] at hg, by simp, by simp, by simp⟩
  · have hle : l.length * sz ≤ cur.size := by rw [h3]; exact Nat.mul_le_mul_right _ h1
    refine ⟨cur.toList.take (l.length * sz), cs, fs, ⟨by simp; omega, .inr ⟨g, cap, cur, rfl, h4.1, hh, h1, h2, h3, rfl⟩⟩, fun q hq => ?_, fun i x hx => ?_, fun i b hi hb => ⟨(h6 i b hi hb).1, ?_⟩, h7⟩
    · simp only [Value.ownBlock, Option.some.injEq] at hq
      subst hq
      exact h4.2
    · have hi : i < l.length := (List.getElem?_eq_some_iff.1 hx).1
      obtain ⟨e1, e2, e3⟩ := h5 i x hx
      refine ⟨e1, e2, fun j u hu => ?_⟩
      have hj : j < sz := by have := (List.getElem?_eq_some_iff.1 hu).1; omega
      have hb : i * sz + j < l.length * sz := by
        have := Nat.mul_le_mul_right sz (show i + 1 ≤ l.length by omega)
        rw [Nat.add_mul, Nat.one_mul] at this
        omega
      rw [List.getElem?_take, if_pos hb]
      simpa using e3 j u hu
    · simp only [Value.ownBlock, ne_eq, Option.some.injEq]
      exact fun e => (h6 i b hi hb).2 e.symm

/-- One element more: its cells stand behind the row, its footprint lies behind the list's. -/
theorem Ow.push {α : Type} {t : TypeId} {sz : Nat} {E : World → List Value → α → (Nat → Prop) → Prop} {w w' : World} {B M : Nat} {v v' : Value} {l : List α} (hE : Frames E) (h : Ow t sz E w (In B M) v l) (hM : M ≤ w.heap.size) (hBM : B ≤ M)
    (x : α) (c : List Value) (hc : c.length = sz) (he : E w c x (In M w.heap.size))
    (hr : ∀ xs, w.ownsRow B t sz v l.length xs → w'.ownsRow B t sz v' (l.length + 1) (xs ++ c)) (hg : w.grownBy w' v.ownBlock)
    (hn : ∀ g, v'.ownBlock = some g → v.ownBlock = some g ∨ w.heap.size ≤ g) : Ow t sz E w' (In B w'.heap.size) v' (l ++ [x]) := by
  obtain ⟨xs, cs, fs, r1, r2, r3, r4, r5⟩ := h.row
  have hlen := r1.1
  obtain ⟨k1, k2 | ⟨g, cap, cur, k3, k4, k5, k6, k7, k8, k9⟩⟩ := hr xs r1
  · exfalso
    have := k2.2
    omega
  · have hgl := lt_of_heap k5
    have hlw := hg.size
    have hgo : ∀ b, b < w.heap.size → v.ownBlock ≠ some b → w'.heap[b]? = w.heap[b]? := fun b hb hne => hg.block b hb fun e => hne e.symm
    refine .inr ⟨g, cap, cur, fun i => if i = l.length then c else cs i, fun i => if i = l.length then In M w.heap.size else fs i, ?_, k5, ?_, k7, k8, ⟨k4, hgl⟩, fun i y hy => ?_, fun i b hi hb => ?_, fun i j b hi hj hij hb hb' => ?_⟩
    · rw [k3]; simp
    · simpa using k6
    · have hxs : ∀ (m : Nat) (u : Value), (xs ++ c)[m]? = some u → cur[m]? = some u := by
        intro m u hu
        rw [← k9, List.getElem?_take] at hu
        split at hu
        · simpa using hu
        · cases hu
      by_cases hi : i = l.length
      · subst hi
        rw [List.getElem?_append_right (Nat.le_refl _)] at hy
        simp only [Nat.sub_self, List.getElem?_cons_zero, Option.some.injEq] at hy
        subst hy
        simp only [if_true]
        refine ⟨hE _ _ _ _ _ he fun b hb hlt => hgo b hlt fun e => ?_, hc, fun j u hu => hxs _ _ ?_⟩
        · have := r2 b e
          have := hb.1
          omega
        · rw [List.getElem?_append_right (by omega), hlen]
          simpa using hu
      · have hi' : i < l.length := by
          have := (List.getElem?_eq_some_iff.1 hy).1
          simp at this
          omega
        rw [List.getElem?_append_left hi'] at hy
        simp only [if_neg hi]
        obtain ⟨e1, e2, e3⟩ := r3 i y hy
        refine ⟨hE _ _ _ _ _ e1 fun b hb hlt => hgo b hlt (r4 i b hi' hb).2, e2, fun j u hu => hxs _ _ ?_⟩
        have h := e3 j u hu
        have hm : i * sz + j < xs.length := (List.getElem?_eq_some_iff.1 h).1
        rw [List.getElem?_append_left hm]
        exact h
    · simp only [List.length_append, List.length_cons, List.length_nil] at hi
      by_cases hil : i = l.length
      · simp only [if_pos hil] at hb
        refine ⟨⟨by have := hb.1; omega, by have := hb.2; omega⟩, fun e => ?_⟩
        subst e
        rcases hn b (by rw [k3]; rfl) with h | h
        · have := r2 b h
          have := hb.1
          omega
        · have := hb.2
          omega
      · simp only [if_neg hil] at hb
        have hi' : i < l.length := by omega
        obtain ⟨q1, q2⟩ := r4 i b hi' hb
        refine ⟨⟨q1.1, by have := q1.2; omega⟩, fun e => ?_⟩
        subst e
        rcases hn b (by rw [k3]; rfl) with h | h
        · exact q2 h
        · have := q1.2
          omega
    · simp only [List.length_append, List.length_cons, List.length_nil] at hi hj
      by_cases hil : i = l.length
      · have hjl : j ≠ l.length := fun e => hij (hil.trans e.symm)
        simp only [if_pos hil] at hb
        simp only [if_neg hjl] at hb'
        have := (r4 j b (by omega) hb').1.2
        have := hb.1
        omega
      · simp only [if_neg hil] at hb
        by_cases hjl : j = l.length
        · simp only [if_pos hjl] at hb'
          have := (r4 i b (by omega) hb).1.2
          have := hb'.1
          omega
        · simp only [if_neg hjl] at hb'
          exact r5 i j b (by omega) (by omega) hij hb hb'

end Go.Proofs.YthnlbhmecokomaaDoor

/- One element more put behind a list of the call's own: the operation. -/
namespace Go.Proofs.YthnlbhmecokomaaDoor
open Go.RowKit

section
variable {α : Type} {P : Program} {w : World} {e t : TypeId} {sz bytes B M : Nat} {E : World → List Value → α → (Nat → Prop) → Prop} {v : Value} {l : List α}
theorem run_push (hE : Frames E) (h : Ow e sz E w (In B M) v l) (hM : M ≤ w.heap.size) (hBM : B ≤ M) (ty : TypeId) {i : TypeInfo} {z : Value} (ht : P.underlying t = some (.slice e)) (hi : P.info? e = some i) (hz : i.zero = some z) (hsize : i.size = sz) (hby : i.bytes = bytes) (hzs : z.cells.size = sz) (hsz : 0 < sz)
    (x : α) (c : List Value) (hc : c.length = sz) (he : E w c x (In M w.heap.size)) (ad : Addr) (cc : Nat) (hcell : ∀ j u, c[j]? = some u → w.cell? (ad.add j) = some u) (h1 : ∀ u ∈ c, u.oneCell' = true) (hl : l.length + 1 ≤ maxLen) (hb : (l.length + 1) * bytes ≤ 140737488355328) :
    ∃ v' w', (Builtin.append_ #[t, t] ty #[v, .slice (some ad) 1 cc]).run P w = .ok v' w' ∧ Ow e sz E w' (In B w'.heap.size) v' (l ++ [x]) ∧ w.grownBy w' v.ownBlock ∧ (∀ g, v.ownBlock = some g → B ≤ g ∧ g < M) := by
  obtain ⟨xs, cs, fs, r1, r2, r3, r4, r5⟩ := h.row
  obtain ⟨v', w', hr, h2, h3, h4, h5⟩ := run_append_own_at (P := P) w B t ty e i z sz bytes ht hi hz hsize hby hzs hsz v l.length xs r1 ad 1 cc c (by omega) hcell h1 hl hb (by omega)
  refine ⟨v', w', hr, h.push hE hM hBM x c hc he (fun ys hys => ?_) h3 (fun g hg => ?_), h3, fun g hg => ⟨?_, r2 g hg⟩⟩
  · obtain ⟨k1, k2⟩ := hys
    obtain ⟨m1, m2⟩ := r1
    have e : ys = xs := by
      rcases k2 with ⟨k3, k4⟩ | ⟨g, cap, cur, k3, k4, k5, k6, k7, k8, k9⟩
      · rw [k4, Nat.zero_mul, List.length_eq_zero_iff] at k1
        rw [k4, Nat.zero_mul, List.length_eq_zero_iff] at m1
        rw [k1, m1]
      · rcases m2 with ⟨m3, m4⟩ | ⟨g', cap', cur', m3, m4, m5, m6, m7, m8, m9⟩
        · rw [m3] at k3
          cases k3
        · rw [m3] at k3
          simp only [Value.slice.injEq, Option.some.injEq, Addr.mk.injEq] at k3
          obtain ⟨⟨rfl, -⟩, -⟩ := k3
          rw [m5] at k5
          simp only [Option.some.injEq, Obj.cells.injEq] at k5
          obtain ⟨rfl, -⟩ := k5
          rw [← k9, ← m9]
    rw [e]
    exact h2
  · rcases h5 with h5 | h5
    · exact .inl (h5 ▸ hg)
    · rw [h5] at hg
      exact .inr (by simp only [Option.some.injEq] at hg; omega)
  · obtain ⟨m1, m2⟩ := r1
    rcases m2 with ⟨m3, m4⟩ | ⟨g', cap', cur', m3, m4, m5, m6, m7, m8, m9⟩
    · rw [m3] at hg
      simp [Value.ownBlock] at hg
    · rw [m3] at hg
      simp only [Value.ownBlock, Option.some.injEq] at hg
      omega
/-- The operation in a region that draws. -/
theorem wp_push {o : Oper} {a : Act} {K : Act → World → Prop} {Q : Exit → Act → World → Prop} (d : Nat) (hd : o.dst = some d) (s y : Operand)
    (ho : o.op = .call { callee := .builtin .append, args := #[s, y], argTypes := #[t, t] }) (hE : Frames E) (h : Ow e sz E w (In B M) v l) (hM : M ≤ w.heap.size) (hBM : B ≤ M) {i : TypeInfo} {z : Value} (ht : P.underlying t = some (.slice e)) (hi : P.info? e = some i) (hz : i.zero = some z) (hsize : i.size = sz) (hby : i.bytes = bytes) (hzs : z.cells.size = sz) (hsz : 0 < sz)
    (hs : a.eval s = v) (x : α) (c : List Value) (hc : c.length = sz) (he : E w c x (In M w.heap.size)) (ad : Addr) (cc : Nat) (hy : a.eval y = .slice (some ad) 1 cc) (hcell : ∀ j u, c[j]? = some u → w.cell? (ad.add j) = some u) (h1 : ∀ u ∈ c, u.oneCell' = true) (hl : l.length + 1 ≤ maxLen) (hb : (l.length + 1) * bytes ≤ 140737488355328)
    (k : ∀ v' w', Ow e sz E w' (In B w'.heap.size) v' (l ++ [x]) → w.grownBy w' v.ownBlock → (∀ g, v.ownBlock = some g → B ≤ g ∧ g < M) → K (a.put (some d) v') w') : o.wp P a w K Q := by
  obtain ⟨v', w', hr, h2, h3, h4⟩ := run_push (P := P) (t := t) hE h hM hBM o.type ht hi hz hsize hby hzs hsz x c hc he ad cc hcell h1 hl hb
  unfold Oper.wp execOp
  simp only [ho, resolve, invoke, builtin, Sem.run_bind, Sem.run_pure, Result.andThen_ok, List.map_toArray, List.map_cons, List.map_nil, hs, hy, hr]
  have := k v' w' h2 h3 h4
  rw [← hd] at this
  exact this
/-- The operation in a region that goes in the text's order. -/
theorem wpList_push {ops : Array Oper} {rest : List Oper} {o : Oper} {a : Act} {Q : Exit → Act → World → Prop} (hgd : o.guard = none) (s y : Operand)
    (ho : o.op = .call { callee := .builtin .append, args := #[s, y], argTypes := #[t, t] }) (hE : Frames E) (h : Ow e sz E w (In B M) v l) (hM : M ≤ w.heap.size) (hBM : B ≤ M) {i : TypeInfo} {z : Value} (ht : P.underlying t = some (.slice e)) (hi : P.info? e = some i) (hz : i.zero = some z) (hsize : i.size = sz) (hby : i.bytes = bytes) (hzs : z.cells.size = sz) (hsz : 0 < sz)
    (hs : a.eval s = v) (x : α) (c : List Value) (hc : c.length = sz) (he : E w c x (In M w.heap.size)) (ad : Addr) (cc : Nat) (hy : a.eval y = .slice (some ad) 1 cc) (hcell : ∀ j u, c[j]? = some u → w.cell? (ad.add j) = some u) (h1 : ∀ u ∈ c, u.oneCell' = true) (hl : l.length + 1 ≤ maxLen) (hb : (l.length + 1) * bytes ≤ 140737488355328)
    (k : ∀ v' w', Ow e sz E w' (In B w'.heap.size) v' (l ++ [x]) → w.grownBy w' v.ownBlock → (∀ g, v.ownBlock = some g → B ≤ g ∧ g < M) → wpList P ops Q rest (a.put o.dst v') w') : wpList P ops Q (o :: rest) a w := by
  refine wpList_plain hgd fun K hK => ?_
  obtain ⟨v', w', hr, h2, h3, h4⟩ := run_push (P := P) (t := t) hE h hM hBM o.type ht hi hz hsize hby hzs hsz x c hc he ad cc hcell h1 hl hb
  unfold Oper.wp execOp
  simp only [ho, resolve, invoke, builtin, Sem.run_bind, Sem.run_pure, Result.andThen_ok, List.map_toArray, List.map_cons, List.map_nil, hs, hy, hr]
  exact hK _ _ (k v' w' h2 h3 h4)
end
theorem ite_w {c : Bool} {A B : Prop} (hc : c = true) (h : A) : if c = true then A else B := by rw [if_pos hc]; exact h
/-- What is new by one element stands in its block. -/
theorem cells_new (w : World) (cs : Array Value) (t : TypeId) : ∀ j u, cs.toList[j]? = some u → (w.alloc (.cells cs t)).cell? ((⟨w.heap.size, 0, none⟩ : Addr).add j) = some u := by
  intro j u hu
  have h := box_new w (.cells cs t)
  rw [Addr.add_lit, Nat.zero_add, cell_of_row _ _ _ _ _ (0, 0) h]
  simpa using hu
/-- What lies below the list stays. -/
theorem grown_below {w0 w w' : World} {v : Value} {N B : Nat} (h0 : Below N w0 w) (hg : w.grownBy w' v.ownBlock) (hv : ∀ g, v.ownBlock = some g → B ≤ g) (hB : N ≤ B) (hN : N ≤ w.heap.size) : Below N w0 w' :=
  ⟨hg.os.trans h0.os, hg.tape.trans h0.tape, hg.output.trans h0.output, Nat.le_trans h0.size hg.size, fun k hk => (hg.block k (by omega) fun e => by have := hv k e.symm; omega).trans (h0.block k hk)⟩
theorem grown_at {w w' : World} {v : Value} {B g : Nat} {o : Obj} (hg : w.grownBy w' v.ownBlock) (hv : ∀ g, v.ownBlock = some g → B ≤ g) (h : w.heap[g]? = some o) (hB : g < B) : w'.heap[g]? = some o :=
  (hg.block g (lt_of_heap h) fun e => by have := hv g e.symm; omega).trans h

end Go.Proofs.YthnlbhmecokomaaDoor

/- Names, texts and commands as plain lists and numbers: no program is named here. -/
namespace Go.Proofs.YthnlbhmecokomaaDoor

theorem ret_b {a b : Bool} (h : b = a) : Ending.returned (.bool a) = .returned (.bool b) := by rw [h]

/-- Every number of the list lies between two. -/
def allIn (lo hi : Int) (l : List Int) : Bool := l.all fun x => decide (lo ≤ x) && decide (x ≤ hi)
/-- A name: one to six small letters. -/
def nameB (l : List Int) : Bool := decide (1 ≤ l.length) && (decide (l.length ≤ 6) && allIn 97 122 l)
/-- A text: at most thirty bytes that can be seen. -/
def textB (l : List Int) : Bool := decide (l.length ≤ 30) && allIn 32 126 l
/-- A number lies between two. -/
def inB (n lo hi : Int) : Bool := decide (lo ≤ n) && decide (n ≤ hi)

theorem allIn_yes {lo hi : Int} {l : List Int} (h : ∀ j, j < l.length → lo ≤ l.getD j 0 ∧ l.getD j 0 ≤ hi) : allIn lo hi l = true := by
  unfold allIn
  rw [List.all_eq_true]
  intro x hx
  obtain ⟨j, hj, rfl⟩ := List.getElem_of_mem hx
  have := h j hj
  simp [hj] at this
  simp [this]
theorem allIn_no {lo hi : Int} {l : List Int} (j : Nat) (hj : j < l.length) (h : ¬ (lo ≤ l.getD j 0 ∧ l.getD j 0 ≤ hi)) : allIn lo hi l = false := by
  cases e : allIn lo hi l with
  | false => rfl
  | true =>
    exfalso
    unfold allIn at e
    rw [List.all_eq_true] at e
    have := e _ (List.getElem_mem hj)
    simp [hj] at h
    simp at this
    omega

theorem ret_i {k : IntKind} {a b : Int} (h : a = b) : Ending.returned (.int k a) = .returned (.int k b) := by rw [h]
/-- The place of the first that fits; -1 where there is none. -/
def firstI {α : Type} (p : α → Bool) (l : List α) : Int := match l.findIdx? p with | some i => i | none => -1
theorem firstI_hit {p : Int → Bool} {l : List Int} {k : Nat} (hk : k < l.length) (h : p (l.getD k 0) = true) (hA : ∀ j, j < k → p (l.getD j 0) = false) : firstI p l = k := by
  have : l.findIdx? p = some k := by
    rw [List.findIdx?_eq_some_iff_getElem]
    refine ⟨hk, by simpa [hk] using h, fun j hj => ?_⟩
    have := hA j hj
    simp [show j < l.length by omega] at this
    simp [this]
  simp [firstI, this]
theorem firstI_none {p : Int → Bool} {l : List Int} (hA : ∀ j, j < l.length → p (l.getD j 0) = false) : firstI p l = -1 := by
  have : l.findIdx? p = none := by
    rw [List.findIdx?_eq_none_iff]
    intro x hx
    obtain ⟨j, hj, rfl⟩ := List.getElem_of_mem hx
    have := hA j hj
    simpa [hj] using this
  simp [firstI, this]
theorem any_firstI {α : Type} (p : α → Bool) (l : List α) : l.any p = decide (0 ≤ firstI p l) := by
  unfold firstI
  cases h : l.findIdx? p with
  | none =>
    rw [List.findIdx?_eq_none_iff] at h
    simp only [show ¬ (0 : Int) ≤ -1 by omega, decide_false]
    rw [List.any_eq_false]
    intro x hx
    simp [h x hx]
  | some i =>
    rw [List.findIdx?_eq_some_iff_getElem] at h
    obtain ⟨hi, hp, -⟩ := h
    simp only [show (0 : Int) ≤ (i : Int) by omega, decide_true]
    rw [List.any_eq_true]
    exact ⟨_, List.getElem_mem hi, hp⟩

/-- Which kinds have a second name, a number of a mail, flags and how, a number of a change, a text. -/
def toB (k : Int) : Bool := decide (k = 6)
def uidB (k : Int) : Bool := decide (k = 3) || (decide (k = 5) || decide (k = 6))
def modeB (k : Int) : Bool := decide (k = 2) || (decide (k = 3) || decide (k = 6))
def sinceB (k : Int) : Bool := decide (k = 3) || decide (k = 8)
def textsB (k : Int) : Bool := decide (k = 2)

/-- A command that may be. -/
def cmdB (k : Int) (bx tt : List Int) (uid mode fl si : Int) (tx : List Int) : Bool :=
  decide (0 ≤ k ∧ k ≤ 9) && (if k = 9 then decide (bx.length = 0) else nameB bx) && (if k = 6 then nameB tt else decide (tt.length = 0)) &&
  (if k = 3 ∨ k = 5 ∨ k = 6 then inB uid 1 1000000 else decide (uid = 0)) && inB mode 0 (if k = 3 then 2 else if k = 6 then 1 else 0) &&
  inB fl 0 (if k = 2 ∨ k = 3 then 31 else 0) && inB si 0 (if k = 3 ∨ k = 8 then 1000000 else 0) && (if k = 2 then textB tx else decide (tx.length = 0))

theorem nameB_len {l : List Int} (h : nameB l = true) : 1 ≤ l.length ∧ l.length ≤ 6 := by unfold nameB at h; simp at h; exact ⟨h.1, h.2.1⟩
theorem textB_nil {l : List Int} (h : l.length = 0) : textB l = true := by
  have : l = [] := List.eq_nil_of_length_eq_zero h
  subst this; rfl
theorem nameB_nil {l : List Int} (h : l.length = 0) : nameB l = false := by
  have : l = [] := List.eq_nil_of_length_eq_zero h
  subst this; rfl

end Go.Proofs.YthnlbhmecokomaaDoor

/- What may be: boxes and accounts, as plain data. -/
namespace Go.Proofs.YthnlbhmecokomaaDoor

/-- The bytes of a list of numbers; which of two comes first. -/
def bts (l : List Int) : List UInt8 := l.map fun n => UInt8.ofNat n.toNat
def lessB (l m : List Int) : Bool := Op.bytesLess (bts l) (bts m)
theorem less_cmp : ∀ (a b : List UInt8), decide (0 ≤ Lib.compareBytes a b) = !Op.bytesLess a b
  | [], [] => rfl
  | [], _ :: _ => rfl
  | _ :: _, [] => rfl
  | a :: x, b :: y => by
    have ih := less_cmp x y
    unfold Lib.compareBytes Op.bytesLess
    by_cases h1 : a < b
    · simp [h1]
    · by_cases h2 : b < a
      · have hne : (a == b) = false := by simp; intro e; subst e; exact absurd h2 (UInt8.lt_irrefl _)
        simp [h1, h2, hne]
      · have he : a = b := UInt8.le_antisymm (UInt8.not_lt.1 h2) (UInt8.not_lt.1 h1)
        subst he
        simp only [h1, if_false, decide_false, Bool.false_or, BEq.rfl, Bool.true_and]
        exact ih

theorem rangeAll_yes {n : Nat} {f : Nat → Bool} (h : ∀ j, j < n → f j = true) : (List.range n).all f = true := by
  rw [List.all_eq_true]; intro j hj; exact h j (List.mem_range.1 hj)
theorem rangeAll_no {n : Nat} {f : Nat → Bool} (j : Nat) (hj : j < n) (h : f j = false) : (List.range n).all f = false := by
  rw [List.all_eq_false]; exact ⟨j, List.mem_range.2 hj, by simp [h]⟩
theorem and_false_of {a b : Bool} (h : b = false) : (a && b) = false := by rw [h]; cases a <;> rfl
theorem and_of {a b c : Bool} (h : a = true) (h' : b = c) : (a && b) = c := by rw [h, h']; rfl

def prevI (l : List Int) : Nat → Int
  | 0 => 0
  | i + 1 => l.getD i 0
def seenAt (l : List Int) (i : Nat) : Bool := inB (l.getD i 0) (prevI l i + 1) 1000000
def seenB (l : List Int) : Bool := decide (l.length ≤ 60) && (List.range l.length).all (seenAt l)
theorem prevI_ok {l : List Int} {k : Nat} (hk : k ≤ l.length) (h : ∀ j, j < k → seenAt l j = true) : 0 ≤ prevI l k ∧ prevI l k ≤ 1000000 ∧ (0 < k → 1 ≤ prevI l k) := by
  induction k with
  | zero => simp [prevI]
  | succ k ih =>
    have h1 := ih (by omega) (fun j hj => h j (by omega))
    have h2 := h k (by omega)
    simp only [seenAt, inB, Bool.and_eq_true, decide_eq_true_eq] at h2
    simp only [prevI]
    omega

def prevU (l : List MailD) : Nat → Int
  | 0 => 0
  | i + 1 => match l[i]? with | some m => m.uid | none => 0
def mailAt (b : BoxD) (i : Nat) : Bool := match b.mails[i]? with
  | some m => inB m.uid (prevU b.mails i + 1) (b.next - 1) && (inB m.flags 0 31 && (inB m.seq 1 b.seq && textB m.text))
  | none => true
def mailsB (b : BoxD) : Bool := decide (b.mails.length ≤ 12) && (List.range b.mails.length).all (mailAt b)
theorem prevU_ok {b : BoxD} {k : Nat} (hn : b.next ≤ 1000000) (hk : k ≤ b.mails.length) (h : ∀ j, j < k → mailAt b j = true) : 0 ≤ prevU b.mails k ∧ prevU b.mails k ≤ 1000000 := by
  induction k with
  | zero => simp [prevU]
  | succ k ih =>
    have h1 := ih (by omega) (fun j hj => h j (by omega))
    have h2 := h k (by omega)
    obtain ⟨m, hm⟩ : ∃ m, b.mails[k]? = some m := ⟨b.mails[k]'(by omega), List.getElem?_eq_getElem (by omega)⟩
    simp only [mailAt, hm, inB, Bool.and_eq_true, decide_eq_true_eq] at h2
    simp only [prevU, hm]
    omega

def minS (b : BoxD) : Nat → Int
  | 0 => max 1 b.lost
  | i + 1 => match b.gones[i]? with | some g => g.seq | none => 0
def goneAt (b : BoxD) (i : Nat) : Bool := match b.gones[i]? with
  | some g => inB g.uid 1 (b.next - 1) && (inB g.seq (minS b i) b.seq && (!(b.mails.any fun m => decide (m.uid = g.uid)) && !((b.gones.take i).any fun o => decide (o.uid = g.uid))))
  | none => true
def gonesB (b : BoxD) : Bool := decide (b.gones.length ≤ 40) && (List.range b.gones.length).all (goneAt b)
theorem minS_ok {b : BoxD} {k : Nat} (hk : k ≤ b.gones.length) (h : ∀ j, j < k → goneAt b j = true) : 1 ≤ minS b k ∧ b.lost ≤ minS b k := by
  induction k with
  | zero => simp only [minS]; omega
  | succ k ih =>
    have h1 := ih (by omega) (fun j hj => h j (by omega))
    have h2 := h k (by omega)
    obtain ⟨m, hm⟩ : ∃ m, b.gones[k]? = some m := ⟨b.gones[k]'(by omega), List.getElem?_eq_getElem (by omega)⟩
    simp only [goneAt, hm, inB, Bool.and_eq_true, decide_eq_true_eq] at h2
    simp only [minS, hm]
    omega

def boxB (b : BoxD) (valid : Int) : Bool := nameB b.name && (inB b.valid 1 valid && (inB b.next 1 1000000 && (inB b.seq 0 1000000 && (inB b.lost 0 b.seq && (mailsB b && gonesB b)))))
def nameAt (l : List BoxD) (i : Nat) : List Int := match l[i]? with | some b => b.name | none => []
def aheadB (l : List BoxD) (b : BoxD) : Nat → Bool
  | 0 => true
  | i + 1 => lessB (nameAt l i) b.name
def boxAt (a : AccD) (i : Nat) : Bool := match a.boxes[i]? with
  | some b => boxB b a.valid && (aheadB a.boxes b i && !((a.boxes.take i).any fun o => decide (o.valid = b.valid)))
  | none => true
def accB (a : AccD) : Bool := inB a.valid 0 1000000 && (decide (a.boxes.length ≤ 4) && (seenB a.seen && (List.range a.boxes.length).all (boxAt a)))

end Go.Proofs.YthnlbhmecokomaaDoor

/- Numbers, flags and texts as lines have them, on lists. -/
namespace Go.Proofs.YthnlbhmecokomaaDoor
open Go.RowKit

theorem flat_len {α : Type} (f : α → List Int) (c : Nat) (l : List α) (h : ∀ x, x ∈ l → (f x).length ≤ c) : (l.flatMap f).length ≤ c * l.length := by
  induction l with
  | nil => simp
  | cons x l ih =>
    have h1 := h x (by simp)
    have h2 := ih fun y hy => h y (by simp [hy])
    simp only [List.flatMap_cons, List.length_append, List.length_cons, Nat.mul_add]
    omega
theorem flat_step {α : Type} (f : α → List Int) {l : List α} {j : Nat} {x : α} (h : l[j]? = some x) : (l.take (j + 1)).flatMap f = (l.take j).flatMap f ++ f x := by
  have hj : j < l.length := (List.getElem?_eq_some_iff.1 h).1
  rw [List.take_succ_eq_append_getElem hj, (List.getElem?_eq_some_iff.1 h).2]
  simp

def ofU8 (l : List UInt8) : List Int := l.map fun b => (b.toNat : Int)
theorem ofU8_append (a b : List UInt8) : ofU8 (a ++ b) = ofU8 a ++ ofU8 b := by simp [ofU8]
theorem ofU8_oct (l : List UInt8) : Oct (ofU8 l) := by
  intro x hx
  obtain ⟨b, _, rfl⟩ := List.mem_map.1 hx
  have := b.toNat_lt
  omega
/-- The decimal digits of a number. -/
def digB (n : Nat) : List Int := ofU8 (Lib.decDigits n)
theorem digB_small {n : Nat} (h : n < 10) : digB n = [48 + (n : Int)] := by
  rw [digB, Lib.decDigits, dif_pos h]
  simp only [ofU8, List.map_cons, List.map_nil, List.cons.injEq, and_true]
  rw [UInt8.toNat_ofNat']
  omega
theorem digB_big {n : Nat} (h : ¬ n < 10) : digB n = digB (n / 10) ++ [48 + ((n % 10 : Nat) : Int)] := by
  rw [digB, Lib.decDigits, dif_neg h, ofU8_append, digB]
  congr 1
  simp only [ofU8, List.map_cons, List.map_nil, List.cons.injEq, and_true]
  rw [UInt8.toNat_ofNat']
  omega
theorem digB_len (n : Nat) : (digB n).length ≤ n + 1 := by
  induction n using Nat.strongRecOn with
  | ind n ih =>
    by_cases h : n < 10
    · rw [digB_small h]; simp
    · rw [digB_big h]
      have := ih (n / 10) (by omega)
      simp only [List.length_append, List.length_cons, List.length_nil]
      omega
theorem digB_len10 {n : Nat} (h : n ≤ 9999999) : (digB n).length ≤ 8 := by
  have step : ∀ k : Nat, ∀ n : Nat, n < 10 ^ (k + 1) → (digB n).length ≤ k + 1 := by
    intro k
    induction k with
    | zero => intro n hn; rw [digB_small (by omega)]; simp
    | succ k ih =>
      intro n hn
      by_cases h : n < 10
      · rw [digB_small h]; simp
      · rw [digB_big h]
        have := ih (n / 10) (by rw [Nat.pow_succ] at hn; omega)
        simp only [List.length_append, List.length_cons, List.length_nil]
        omega
  exact Nat.le_trans (step 6 n (by omega)) (by omega)

/-- A byte of a text between quotes. -/
def escB (x : Int) : List Int := if x = 34 ∨ x = 92 then [92, x] else [x]
def quoB (t : List Int) : List Int := [34] ++ t.flatMap escB ++ [34]
theorem escB_len (x : Int) : (escB x).length ≤ 2 := by unfold escB; split <;> simp

/-- Flags: a letter for each that is there. -/
def letB (i : Nat) : Int := match i with
  | 0 => 83
  | 1 => 65
  | 2 => 70
  | 3 => 68
  | _ => 82
def flagAt (f : Int) (i : Nat) : List Int := if f.toNat / 2 ^ i % 2 = 1 then [letB i] else []
def flagsB (f : Int) : List Int := [40] ++ (List.range 5).flatMap (flagAt f) ++ [41]

end Go.Proofs.YthnlbhmecokomaaDoor

/- Accounts as bytes, on lists. -/
namespace Go.Proofs.YthnlbhmecokomaaDoor
open Go.RowKit

def numB (n : Int) : List Int := putL [] n
def txB (t : List Int) : List Int := putTL [] t
theorem putL_eq (b : List Int) (n : Int) : putL b n = b ++ numB n := by
  unfold numB putL
  split <;> simp
theorem putTL_eq (b t : List Int) : putTL b t = b ++ txB t := by
  unfold txB putTL
  split
  · simp
  · rw [putL_eq b, putL_eq []]; simp
theorem numB_len (n : Int) : (numB n).length ≤ 5 := by have := putL_length [] n; simp [numB]; simpa using this.2
theorem txB_len (t : List Int) : (txB t).length ≤ 35 := by have := putTL_length [] t; simpa [txB] using this
def numsB (l : List Int) : List Int := l.flatMap numB
def mailBs (m : MailD) : List Int := numB m.uid ++ (numB m.flags ++ (numB m.seq ++ txB m.text))
def goneBs (g : GoneD) : List Int := numB g.uid ++ numB g.seq
def boxBs (x : BoxD) : List Int := txB x.name ++ (numB x.valid ++ (numB x.next ++ (numB x.seq ++ (numB x.lost ++ (numB x.mails.length ++ (x.mails.flatMap mailBs ++ (numB x.gones.length ++ x.gones.flatMap goneBs)))))))
def accBs (a : AccD) : List Int := numB a.valid ++ (numB a.boxes.length ++ (a.boxes.flatMap boxBs ++ (numB a.seen.length ++ numsB a.seen)))
theorem mailBs_len (m : MailD) : (mailBs m).length ≤ 50 := by
  have h1 := numB_len m.uid
  have h2 := numB_len m.flags
  have h3 := numB_len m.seq
  have h4 := txB_len m.text
  simp only [mailBs, List.length_append]
  omega
theorem goneBs_len (m : GoneD) : (goneBs m).length ≤ 10 := by
  have h1 := numB_len m.uid
  have h3 := numB_len m.seq
  simp only [goneBs, List.length_append]
  omega
theorem mails_len (l : List MailD) : (l.flatMap mailBs).length ≤ 50 * l.length := flat_len _ _ _ fun _ _ => mailBs_len _
theorem gones_len (l : List GoneD) : (l.flatMap goneBs).length ≤ 10 * l.length := flat_len _ _ _ fun _ _ => goneBs_len _
theorem nums_len (l : List Int) : (numsB l).length ≤ 5 * l.length := flat_len _ _ _ fun _ _ => numB_len _
theorem boxBs_len (x : BoxD) (h1 : x.mails.length ≤ 12) (h2 : x.gones.length ≤ 40) : (boxBs x).length ≤ 1100 := by
  have k0 := txB_len x.name
  have k1 := numB_len x.valid
  have k2 := numB_len x.next
  have k3 := numB_len x.seq
  have k4 := numB_len x.lost
  have k5 := numB_len x.mails.length
  have k6 := numB_len x.gones.length
  have k7 := mails_len x.mails
  have k8 := gones_len x.gones
  simp only [boxBs, List.length_append]
  omega
theorem boxes_len (l : List BoxD) (h : ∀ x, x ∈ l → x.mails.length ≤ 12 ∧ x.gones.length ≤ 40) : (l.flatMap boxBs).length ≤ 1100 * l.length := flat_len _ _ _ fun x hx => boxBs_len x (h x hx).1 (h x hx).2
theorem accB_small {a : AccD} (h : accB a = true) : a.boxes.length ≤ 4 ∧ (∀ x, x ∈ a.boxes → x.mails.length ≤ 12 ∧ x.gones.length ≤ 40) := by
  simp only [accB, Bool.and_eq_true, decide_eq_true_eq, List.all_eq_true, List.mem_range] at h
  refine ⟨h.2.1, fun x hx => ?_⟩
  obtain ⟨i, hi, rfl⟩ := List.mem_iff_getElem.1 hx
  have := h.2.2.2 i hi
  simp only [boxAt, List.getElem?_eq_getElem hi, boxB, mailsB, gonesB, Bool.and_eq_true, decide_eq_true_eq] at this
  exact ⟨this.1.2.2.2.2.2.1.1, this.1.2.2.2.2.2.2.1⟩

/-- What AccountBytes answers. -/
def outB (x : AccD) : List Int := match accB x with
  | true => accBs x
  | false => []
theorem accB_seen {a : AccD} (h : accB a = true) : a.seen.length ≤ 60 := by
  simp only [accB, seenB, Bool.and_eq_true, decide_eq_true_eq] at h
  exact h.2.2.1.1

theorem outB_len (x : AccD) : (outB x).length ≤ 10000 := by
  cases h : accB x with
  | false => simp [outB, h]
  | true =>
    have h1 := accB_small h
    have h2 := accB_seen h
    have k0 := numB_len x.valid
    have k1 := numB_len x.boxes.length
    have k2 := numB_len x.seen.length
    have k3 := boxes_len x.boxes h1.2
    have k4 := nums_len x.seen
    simp only [outB, h, accBs, List.length_append]
    omega

end Go.Proofs.YthnlbhmecokomaaDoor

/- There and back: numbers and texts come back from their bytes, and bytes that are read are just the bytes of what was read. -/
namespace Go.Proofs.YthnlbhmecokomaaDoor
open Go.RowKit

theorem dec_enc (f i : Nat) (n0 sc n : Int) (r : List Int) (h0 : 0 ≤ n) (h1 : n < 128 * 128 ^ f) (hi : 0 < i → 0 < n) (hm : n0 + n * sc ≤ 2147483647) (hn0 : 0 ≤ n0) (hs : 0 ≤ sc) :
    dec (f + 1) i n0 sc (enc f n ++ r) = some (n0 + n * sc, i + (enc f n).length) := by
  induction f generalizing i n0 sc n with
  | zero =>
    have hx : n < 128 := by simpa using h1
    have e : n % 128 = n := by omega
    simp only [enc, List.singleton_append, dec, e]
    rw [if_pos hx, if_neg (by omega)]
    simp
  | succ f ih =>
    by_cases hb : 127 < n
    · rw [enc_hi f n hb]
      simp only [List.cons_append, dec]
      have e : n0 + (n % 128 + 128) % 128 * sc + n / 128 * (sc * 128) = n0 + n * sc := by
        have h1 : (n % 128 + 128) % 128 = n % 128 := by omega
        have h2 : n = n % 128 + 128 * (n / 128) := by omega
        rw [h1]
        generalize n % 128 = a at *
        generalize n / 128 = b at *
        subst h2
        rw [Int.add_mul, Int.mul_comm sc 128, ← Int.mul_assoc, Int.mul_comm b 128, Int.add_assoc]
      have hp : n < 128 * (128 ^ f * 128) := by rw [← Int.pow_succ]; exact h1
      rw [if_neg (by omega), ih (i + 1) _ (sc * 128) (n / 128) (by omega) (by omega) (fun _ => by omega) (by omega) (by have := Int.mul_nonneg (show 0 ≤ (n % 128 + 128) % 128 by omega) hs; omega) (by omega), e]
      simp; omega
    · have e : n % 128 = n := by omega
      rw [enc_lo _ n hb]
      simp only [List.singleton_append, dec, e]
      rw [if_pos (by omega), if_neg (by omega)]
      simp

theorem enc_dec (f i : Nat) (n sc : Int) (l : List Int) (m : Int) (k : Nat) (ho : Oct l) (h : dec (f + 1) i n sc l = some (m, k)) :
    ∃ v, 0 ≤ v ∧ m = n + v * sc ∧ i < k ∧ l.take (k - i) = enc f v ∧ (0 < i → 0 < v) := by
  induction f generalizing i n sc l with
  | zero =>
    cases l with
    | nil => simp [dec] at h
    | cons x r =>
      have hx := ho x (by simp)
      simp only [dec] at h
      split at h
      · rename_i hlt
        split at h
        · simp at h
        · rename_i hb
          simp only [Option.some.injEq, Prod.mk.injEq] at h
          obtain ⟨rfl, rfl⟩ := h
          refine ⟨x, hx.1, by rw [show x % 128 = x by omega], by omega, ?_, fun hi => ?_⟩
          · rw [show i + 1 - i = 1 by omega, enc_lo _ x (by omega)]; simp
          · by_cases hz : x = 0
            · exact absurd (Or.inl ⟨hz, hi⟩) hb
            · omega
      · simp at h
  | succ f ih =>
    cases l with
    | nil => simp [dec] at h
    | cons x r =>
      have hx := ho x (by simp)
      rw [dec] at h
      split at h
      · rename_i hlt
        split at h
        · simp at h
        · rename_i hb
          simp only [Option.some.injEq, Prod.mk.injEq] at h
          obtain ⟨rfl, rfl⟩ := h
          refine ⟨x, hx.1, by rw [show x % 128 = x by omega], by omega, ?_, fun hi => ?_⟩
          · rw [show i + 1 - i = 1 by omega, enc_lo _ x (by omega)]; simp
          · by_cases hz : x = 0
            · exact absurd (Or.inl ⟨hz, hi⟩) hb
            · omega
      · rename_i hge
        obtain ⟨v, hv0, hv1, hv2, hv3, hv4⟩ := ih (i + 1) _ _ r (fun y hy => ho y (by simp [hy])) h
        have hvp := hv4 (by omega)
        refine ⟨x % 128 + 128 * v, by omega, ?_, by omega, ?_, fun _ => by omega⟩
        · rw [hv1, Int.add_mul, Int.mul_comm sc 128, ← Int.mul_assoc, Int.mul_comm v 128, Int.add_assoc]
        · rw [show k - i = (k - (i + 1)) + 1 by omega, List.take_succ_cons, hv3, enc_hi f _ (by omega)]
          congr 1
          · omega
          · congr 1; omega

theorem drop_len (b r : List Int) : (b ++ r).drop b.length = r := by simp
theorem get_put (b r : List Int) (n : Int) (h0 : 0 ≤ n) (h1 : n ≤ 2147483647) : getL (b ++ enc 4 n ++ r) b.length = (n, ((b ++ enc 4 n).length : Int)) := by
  unfold getL
  rw [if_neg (by omega), Int.toNat_natCast, List.append_assoc, drop_len, dec_enc 4 0 0 1 n r h0 (by omega) (fun h => absurd h (by omega)) (by omega) (by omega) (by omega)]
  simp [outOf]
theorem put_get (l : List Int) (at' k stop : Int) (ho : Oct l) (h : getL l at' = (k, stop)) (hs : 0 ≤ stop) : 0 ≤ at' ∧ at' ≤ stop ∧ stop ≤ l.length ∧ putL (l.take at'.toNat) k = l.take stop.toNat := by
  have hbd := getL_bd l at'
  rw [h] at hbd
  unfold getL at h
  split at h
  · simp only [Prod.mk.injEq] at h; omega
  · cases hd : dec 5 0 0 1 (l.drop at'.toNat) with
    | none => rw [hd] at h; simp only [outOf, Prod.mk.injEq] at h; omega
    | some p =>
      obtain ⟨m, q⟩ := p
      rw [hd] at h
      simp only [outOf, Prod.mk.injEq] at h
      obtain ⟨rfl, rfl⟩ := h
      obtain ⟨v, hv0, hv1, hv2, hv3, -⟩ := enc_dec 4 0 0 1 _ _ _ (oct_drop ho _) hd
      have hmv : m = v := by omega
      subst hmv
      have hb2 : 0 ≤ m ∧ m ≤ 2147483647 ∧ at' + q ≤ l.length := by
        rcases hbd with hb | hb
        · simp only [Prod.mk.injEq] at hb; omega
        · simp only at hb; omega
      refine ⟨by omega, by omega, hb2.2.2, ?_⟩
      unfold putL
      rw [if_pos ⟨hb2.1, hb2.2.1⟩, ← hv3, Nat.sub_zero, show (at' + (q : Int)).toNat = at'.toNat + q by omega, List.take_add]

theorem getT_putT (c t : List Int) (ht : t.length ≤ 30) : getTL (putTL c t) c.length = (t, ((putTL c t).length : Int)) := by
  have e : putTL c t = c ++ enc 4 t.length ++ t := by unfold putTL putL; rw [if_neg (by omega), if_pos (by omega)]
  have g := get_put c t (t.length : Int) (by omega) (by omega)
  unfold getTL
  rw [e, g]
  simp only
  rw [if_neg (by simp; omega), Int.toNat_natCast, Int.toNat_natCast, drop_len]
  simp
  omega

end Go.Proofs.YthnlbhmecokomaaDoor

/- Accounts read from bytes, on lists: as the specification reads (a place below 0 says that nothing is there), and as the program reads (none says so); both come to the same. -/
namespace Go.Proofs.YthnlbhmecokomaaDoor
open Go.RowKit
set_option linter.unusedVariables false

/-- The number at p, and the place behind it; nothing is read behind a place that is none. -/
def gN (l : List Int) (p : Int) : Int × Int := if p < 0 then (0, p) else getL l p
def gT (l : List Int) (p : Int) : List Int × Int := if p < 0 then ([], p) else getTL l p
def gMany {α : Type} (g : Int → α × Int) : Nat → Int → List α × Int
  | 0, p => ([], p)
  | m + 1, p => if p < 0 then ([], p) else ((g p).1 :: (gMany g m (g p).2).1, (gMany g m (g p).2).2)
def gMail (l : List Int) (p : Int) : MailD × Int := (⟨(gN l p).1, (gN l (gN l p).2).1, (gN l (gN l (gN l p).2).2).1, (gT l (gN l (gN l (gN l p).2).2).2).1⟩, (gT l (gN l (gN l (gN l p).2).2).2).2)
def gGone (l : List Int) (p : Int) : GoneD × Int := (⟨(gN l p).1, (gN l (gN l p).2).1⟩, (gN l (gN l p).2).2)
/-- The places within a box: behind its name, its five numbers; behind the mails, behind the number of those that went. -/
def bP0 (l : List Int) (p : Int) : Int := (gT l p).2
def bP1 (l : List Int) (p : Int) : Int := (gN l (bP0 l p)).2
def bP2 (l : List Int) (p : Int) : Int := (gN l (bP1 l p)).2
def bP3 (l : List Int) (p : Int) : Int := (gN l (bP2 l p)).2
def bP4 (l : List Int) (p : Int) : Int := (gN l (bP3 l p)).2
def bM (l : List Int) (p : Int) : List MailD × Int := gMany (gMail l) (min (gN l (bP4 l p)).1.toNat 13) (gN l (bP4 l p)).2
def bG (l : List Int) (p : Int) : List GoneD × Int := gMany (gGone l) (min (gN l (bM l p).2).1.toNat 41) (gN l (bM l p).2).2
def gBox (l : List Int) (p : Int) : BoxD × Int := (⟨(gT l p).1, (gN l (bP0 l p)).1, (gN l (bP1 l p)).1, (gN l (bP2 l p)).1, (bM l p).1, (bG l p).1, (gN l (bP3 l p)).1⟩, (bG l p).2)
def aB (l : List Int) (p : Int) : List BoxD × Int := gMany (gBox l) (min (gN l (gN l p).2).1.toNat 5) (gN l (gN l p).2).2
def aS (l : List Int) (p : Int) : List Int × Int := gMany (gN l) (min (gN l (aB l p).2).1.toNat 61) (gN l (aB l p).2).2
def gAcc (l : List Int) (p : Int) : AccD × Int := (⟨(gN l p).1, (aB l p).1, (aS l p).1⟩, (aS l p).2)

def iN (l : List Int) (p : Int) : Option (Int × Int) := if (getL l p).2 < 0 then none else some (getL l p)
def iT (l : List Int) (p : Int) : Option (List Int × Int) := if (getTL l p).2 < 0 then none else some (getTL l p)
def iC (l : List Int) (most : Int) (p : Int) : Option (Int × Int) := (iN l p).bind fun r => if most < r.1 then none else some r
def iMany {α : Type} (g : Int → Option (α × Int)) : Nat → Int → Option (List α × Int)
  | 0, p => some ([], p)
  | m + 1, p => (g p).bind fun x => (iMany g m x.2).bind fun r => some (x.1 :: r.1, r.2)
def iMail (l : List Int) (p : Int) : Option (MailD × Int) := (iN l p).bind fun a => (iN l a.2).bind fun b => (iN l b.2).bind fun c => (iT l c.2).bind fun d => some (⟨a.1, b.1, c.1, d.1⟩, d.2)
def iGone (l : List Int) (p : Int) : Option (GoneD × Int) := (iN l p).bind fun a => (iN l a.2).bind fun b => some (⟨a.1, b.1⟩, b.2)
def iBox (l : List Int) (p : Int) : Option (BoxD × Int) :=
  (iT l p).bind fun a => (iN l a.2).bind fun b => (iN l b.2).bind fun c => (iN l c.2).bind fun d => (iN l d.2).bind fun e => (iC l 12 e.2).bind fun f => (iMany (iMail l) f.1.toNat f.2).bind fun g => (iC l 40 g.2).bind fun h => (iMany (iGone l) h.1.toNat h.2).bind fun i => some (⟨a.1, b.1, c.1, d.1, g.1, i.1, e.1⟩, i.2)
def iAcc (l : List Int) (p : Int) : Option (AccD × Int) :=
  (iN l p).bind fun a => (iC l 4 a.2).bind fun b => (iMany (iBox l) b.1.toNat b.2).bind fun c => (iC l 60 c.2).bind fun d => (iMany (iN l) d.1.toNat d.2).bind fun e => some (⟨a.1, c.1, e.1⟩, e.2)

theorem gN_neg {l : List Int} {p : Int} (h : p < 0) : (gN l p).2 < 0 := by unfold gN; rw [if_pos h]; exact h
theorem gT_neg {l : List Int} {p : Int} (h : p < 0) : (gT l p).2 < 0 := by unfold gT; rw [if_pos h]; exact h
theorem gMany_neg {α : Type} {g : Int → α × Int} (m : Nat) {p : Int} (h : p < 0) : (gMany g m p).2 < 0 := by
  cases m with
  | zero => exact h
  | succ m => unfold gMany; rw [if_pos h]; exact h
theorem gMail_neg {l : List Int} {p : Int} (h : p < 0) : (gMail l p).2 < 0 := gT_neg (gN_neg (gN_neg (gN_neg h)))
theorem gGone_neg {l : List Int} {p : Int} (h : p < 0) : (gGone l p).2 < 0 := gN_neg (gN_neg h)
theorem bP4_neg {l : List Int} {p : Int} (h : bP0 l p < 0) : bP4 l p < 0 := gN_neg (gN_neg (gN_neg (gN_neg h)))
theorem bM_neg {l : List Int} {p : Int} (h : bP4 l p < 0) : (bM l p).2 < 0 := gMany_neg _ (gN_neg h)
theorem bG_neg {l : List Int} {p : Int} (h : (bM l p).2 < 0) : (bG l p).2 < 0 := gMany_neg _ (gN_neg h)

/-- What one reads the other reads, or else the place is none, or what was read is bad. -/
def Agr {α : Type} (bad : α → Prop) (s : α × Int) : Option (α × Int) → Prop
  | some y => s = y ∧ 0 ≤ s.2
  | none => s.2 < 0 ∨ bad s.1
theorem agr_n (l : List Int) {p : Int} (h : 0 ≤ p) : Agr (fun _ => False) (gN l p) (iN l p) := by
  unfold gN iN
  rw [if_neg (by omega)]
  split
  · exact .inl (by assumption)
  · exact ⟨rfl, by omega⟩
theorem agr_t (l : List Int) {p : Int} (h : 0 ≤ p) : Agr (fun _ => False) (gT l p) (iT l p) := by
  unfold gT iT
  rw [if_neg (by omega)]
  split
  · exact .inl (by assumption)
  · exact ⟨rfl, by omega⟩
theorem many_len {α : Type} (g : Int → α × Int) : ∀ (m : Nat) (p : Int), (gMany g m p).2 < 0 ∨ (gMany g m p).1.length = m
  | 0, p => by simp [gMany]
  | m + 1, p => by
    unfold gMany
    split
    · exact .inl (by assumption)
    · rcases many_len g m (g p).2 with h | h
      · exact .inl h
      · exact .inr (by simp [h])
theorem agr_many {α : Type} {g : Int → α × Int} {i : Int → Option (α × Int)} {bad : α → Prop} (hg : ∀ p, 0 ≤ p → Agr bad (g p) (i p)) : ∀ (m : Nat) (p : Int), 0 ≤ p → Agr (fun l : List α => ∃ x, x ∈ l ∧ bad x) (gMany g m p) (iMany i m p)
  | 0, p, h => ⟨rfl, h⟩
  | m + 1, p, h => by
    have h1 := hg p h
    unfold gMany iMany
    rw [if_neg (by omega)]
    cases hi : i p with
    | none =>
      rw [hi] at h1
      rcases h1 with h1 | h1
      · exact .inl (gMany_neg _ h1)
      · exact .inr ⟨_, List.mem_cons_self, h1⟩
    | some x =>
      rw [hi] at h1
      obtain ⟨e, h2⟩ := h1
      have h3 := agr_many hg m (g p).2 h2
      rw [← e]
      cases hm : iMany i m (g p).2 with
      | none =>
        rw [hm] at h3
        simp only [Option.bind_some, hm, Option.bind_none]
        rcases h3 with h3 | ⟨y, h3, h4⟩
        · exact .inl h3
        · exact .inr ⟨y, List.mem_cons_of_mem _ h3, h4⟩
      | some y =>
        rw [hm] at h3
        obtain ⟨e2, h4⟩ := h3
        simp only [Option.bind_some, hm]
        exact ⟨by rw [e2], h4⟩
theorem agr_mail (l : List Int) (p : Int) (h : 0 ≤ p) : Agr (fun _ => False) (gMail l p) (iMail l p) := by
  unfold iMail
  have h0 := agr_n l h
  cases e0 : iN l p with
  | none => rw [e0] at h0; rcases h0 with h0 | h0; exact .inl (gT_neg (gN_neg (gN_neg h0))); exact h0.elim
  | some a =>
    rw [e0] at h0; obtain ⟨f0, k0⟩ := h0; rw [f0] at k0
    have h1 := agr_n l k0
    simp only [Option.bind_some]
    cases e1 : iN l a.2 with
    | none => rw [e1] at h1; rcases h1 with h1 | h1; exact .inl (gT_neg (gN_neg (by rw [f0]; exact h1))); exact h1.elim
    | some b =>
      rw [e1] at h1; obtain ⟨f1, k1⟩ := h1; rw [f1] at k1
      have h2 := agr_n l k1
      simp only [Option.bind_some]
      cases e2 : iN l b.2 with
      | none => rw [e2] at h2; rcases h2 with h2 | h2; exact .inl (gT_neg (by rw [f0, f1]; exact h2)); exact h2.elim
      | some c =>
        rw [e2] at h2; obtain ⟨f2, k2⟩ := h2; rw [f2] at k2
        have h3 := agr_t l k2
        simp only [Option.bind_some]
        cases e3 : iT l c.2 with
        | none => rw [e3] at h3; rcases h3 with h3 | h3; exact .inl (by unfold gMail; rw [f0, f1, f2]; exact h3); exact h3.elim
        | some d =>
          rw [e3] at h3; obtain ⟨f3, k3⟩ := h3
          simp only [Option.bind_some]
          refine ⟨?_, ?_⟩
          · unfold gMail; rw [f0, f1, f2, f3]
          · unfold gMail; rw [f0, f1, f2]; exact k3
theorem agr_gone (l : List Int) (p : Int) (h : 0 ≤ p) : Agr (fun _ => False) (gGone l p) (iGone l p) := by
  unfold iGone
  have h0 := agr_n l h
  cases e0 : iN l p with
  | none => rw [e0] at h0; rcases h0 with h0 | h0; exact .inl (gN_neg h0); exact h0.elim
  | some a =>
    rw [e0] at h0; obtain ⟨f0, k0⟩ := h0; rw [f0] at k0
    have h1 := agr_n l k0
    simp only [Option.bind_some]
    cases e1 : iN l a.2 with
    | none => rw [e1] at h1; rcases h1 with h1 | h1; exact .inl (by unfold gGone; rw [f0]; exact h1); exact h1.elim
    | some b =>
      rw [e1] at h1; obtain ⟨f1, k1⟩ := h1
      simp only [Option.bind_some]
      exact ⟨by unfold gGone; rw [f0, f1], by unfold gGone; rw [f0]; exact k1⟩
/-- A list with its number ahead. -/
theorem agr_list {α : Type} {g : Int → α × Int} {i : Int → Option (α × Int)} {bad : α → Prop} (hg : ∀ p, 0 ≤ p → Agr bad (g p) (i p)) (l : List Int) (most : Nat) (p : Int) (h : 0 ≤ p) :
    Agr (fun x : List α => most < x.length ∨ ∃ y, y ∈ x ∧ bad y) (gMany g (min (gN l p).1.toNat (most + 1)) (gN l p).2) ((iC l most p).bind fun f => iMany i f.1.toNat f.2) := by
  have h0 := agr_n l h
  unfold iC
  cases e0 : iN l p with
  | none => rw [e0] at h0; rcases h0 with h0 | h0; exact .inl (gMany_neg _ h0); exact h0.elim
  | some a =>
    rw [e0] at h0; obtain ⟨f0, k0⟩ := h0
    simp only [Option.bind_some]
    rw [f0] at k0 ⊢
    by_cases hm : (most : Int) < a.1
    · rw [if_pos hm, show min a.1.toNat (most + 1) = most + 1 by omega]
      simp only [Option.bind_none]
      rcases many_len g (most + 1) a.2 with h | h
      · exact .inl h
      · exact .inr (.inl (by omega))
    · rw [if_neg hm, show min a.1.toNat (most + 1) = a.1.toNat by omega]
      simp only [Option.bind_some]
      have h1 := agr_many hg a.1.toNat a.2 k0
      revert h1
      cases iMany i a.1.toNat a.2 with
      | none => intro h1; rcases h1 with h1 | h1; exact .inl h1; exact .inr (.inr h1)
      | some y => exact fun h1 => h1
def badX (x : BoxD) : Prop := 12 < x.mails.length ∨ 40 < x.gones.length
theorem iBox_eq (l : List Int) (p : Int) : iBox l p = (iT l p).bind fun a => (iN l a.2).bind fun b => (iN l b.2).bind fun c => (iN l c.2).bind fun d => (iN l d.2).bind fun e => ((iC l 12 e.2).bind fun f => iMany (iMail l) f.1.toNat f.2).bind fun g => ((iC l 40 g.2).bind fun h => iMany (iGone l) h.1.toNat h.2).bind fun i => some (⟨a.1, b.1, c.1, d.1, g.1, i.1, e.1⟩, i.2) := by
  unfold iBox
  simp only [Option.bind_assoc]
theorem agr_box (l : List Int) (p : Int) (h : 0 ≤ p) : Agr badX (gBox l p) (iBox l p) := by
  rw [iBox_eq]
  have h0 := agr_t l h
  cases e0 : iT l p with
  | none => rw [e0] at h0; rcases h0 with h0 | h0; exact .inl (bG_neg (bM_neg (bP4_neg h0))); exact h0.elim
  | some a =>
    rw [e0] at h0; obtain ⟨f0, k0⟩ := h0; rw [f0] at k0
    have q0 : bP0 l p = a.2 := by unfold bP0; rw [f0]
    have h1 := agr_n l k0
    simp only [Option.bind_some]
    cases e1 : iN l a.2 with
    | none => rw [e1] at h1; rcases h1 with h1 | h1; exact .inl (bG_neg (bM_neg (gN_neg (gN_neg (gN_neg (show (gN l (bP0 l p)).2 < 0 by rw [q0]; exact h1)))))); exact h1.elim
    | some b =>
      rw [e1] at h1; obtain ⟨f1, k1⟩ := h1; rw [f1] at k1
      have q1 : bP1 l p = b.2 := by unfold bP1; rw [q0, f1]
      have h2 := agr_n l k1
      simp only [Option.bind_some]
      cases e2 : iN l b.2 with
      | none => rw [e2] at h2; rcases h2 with h2 | h2; exact .inl (bG_neg (bM_neg (gN_neg (gN_neg (show (gN l (bP1 l p)).2 < 0 by rw [q1]; exact h2))))); exact h2.elim
      | some c =>
        rw [e2] at h2; obtain ⟨f2, k2⟩ := h2; rw [f2] at k2
        have q2 : bP2 l p = c.2 := by unfold bP2; rw [q1, f2]
        have h3 := agr_n l k2
        simp only [Option.bind_some]
        cases e3 : iN l c.2 with
        | none => rw [e3] at h3; rcases h3 with h3 | h3; exact .inl (bG_neg (bM_neg (gN_neg (show (gN l (bP2 l p)).2 < 0 by rw [q2]; exact h3)))); exact h3.elim
        | some d =>
          rw [e3] at h3; obtain ⟨f3, k3⟩ := h3; rw [f3] at k3
          have q3 : bP3 l p = d.2 := by unfold bP3; rw [q2, f3]
          have h4 := agr_n l k3
          simp only [Option.bind_some]
          cases e4 : iN l d.2 with
          | none => rw [e4] at h4; rcases h4 with h4 | h4; exact .inl (bG_neg (bM_neg (show (gN l (bP3 l p)).2 < 0 by rw [q3]; exact h4))); exact h4.elim
          | some e =>
            rw [e4] at h4; obtain ⟨f4, k4⟩ := h4; rw [f4] at k4
            have q4 : bP4 l p = e.2 := by unfold bP4; rw [q3, f4]
            have h5 := agr_list (agr_mail l) l 12 e.2 k4
            simp only [Option.bind_some]
            have m0 : bM l p = gMany (gMail l) (min (gN l e.2).1.toNat 13) (gN l e.2).2 := by unfold bM; rw [q4]
            rw [← m0] at h5
            cases e5 : (iC l 12 e.2).bind fun f => iMany (iMail l) f.1.toNat f.2 with
            | none =>
              rw [show ((12 : Nat) : Int) = 12 from rfl, e5] at h5
              rcases h5 with h5 | h5 | ⟨y, _, h5⟩
              · exact .inl (bG_neg h5)
              · exact .inr (.inl h5)
              · exact h5.elim
            | some g =>
              rw [show ((12 : Nat) : Int) = 12 from rfl, e5] at h5; obtain ⟨f5, k5⟩ := h5; rw [f5] at k5
              have h6 := agr_list (agr_gone l) l 40 g.2 k5
              simp only [Option.bind_some]
              have m1 : bG l p = gMany (gGone l) (min (gN l g.2).1.toNat 41) (gN l g.2).2 := by unfold bG; rw [f5]
              rw [← m1] at h6
              cases e6 : (iC l 40 g.2).bind fun h => iMany (iGone l) h.1.toNat h.2 with
              | none =>
                rw [show ((40 : Nat) : Int) = 40 from rfl, e6] at h6
                rcases h6 with h6 | h6 | ⟨y, _, h6⟩
                · exact .inl h6
                · exact .inr (.inr h6)
                · exact h6.elim
              | some i =>
                rw [show ((40 : Nat) : Int) = 40 from rfl, e6] at h6; obtain ⟨f6, k6⟩ := h6
                simp only [Option.bind_some]
                refine ⟨?_, k6⟩
                unfold gBox
                rw [f0, q0, f1, q1, f2, q2, f3, q3, f4, f5, f6]
def badA (a : AccD) : Prop := 4 < a.boxes.length ∨ (∃ x, x ∈ a.boxes ∧ badX x) ∨ 60 < a.seen.length
theorem iAcc_eq (l : List Int) (p : Int) : iAcc l p = (iN l p).bind fun a => ((iC l 4 a.2).bind fun b => iMany (iBox l) b.1.toNat b.2).bind fun c => ((iC l 60 c.2).bind fun d => iMany (iN l) d.1.toNat d.2).bind fun e => some (⟨a.1, c.1, e.1⟩, e.2) := by
  unfold iAcc
  simp only [Option.bind_assoc]
theorem agr_acc (l : List Int) (p : Int) (h : 0 ≤ p) : Agr badA (gAcc l p) (iAcc l p) := by
  rw [iAcc_eq]
  have h0 := agr_n l h
  cases e0 : iN l p with
  | none => rw [e0] at h0; rcases h0 with h0 | h0; exact .inl (gMany_neg _ (gN_neg (gMany_neg _ (gN_neg h0)))); exact h0.elim
  | some a =>
    rw [e0] at h0; obtain ⟨f0, k0⟩ := h0; rw [f0] at k0
    have h5 := agr_list (agr_box l) l 4 a.2 k0
    simp only [Option.bind_some]
    have m0 : aB l p = gMany (gBox l) (min (gN l a.2).1.toNat 5) (gN l a.2).2 := by unfold aB; rw [f0]
    rw [← m0] at h5
    cases e5 : (iC l 4 a.2).bind fun f => iMany (iBox l) f.1.toNat f.2 with
    | none =>
      rw [show ((4 : Nat) : Int) = 4 from rfl, e5] at h5
      rcases h5 with h5 | h5 | h5
      · exact .inl (gMany_neg _ (gN_neg h5))
      · exact .inr (.inl h5)
      · exact .inr (.inr (.inl h5))
    | some g =>
      rw [show ((4 : Nat) : Int) = 4 from rfl, e5] at h5; obtain ⟨f5, k5⟩ := h5; rw [f5] at k5
      have h6 := agr_list (fun p => agr_n l (p := p)) l 60 g.2 k5
      simp only [Option.bind_some]
      have m1 : aS l p = gMany (gN l) (min (gN l g.2).1.toNat 61) (gN l g.2).2 := by unfold aS; rw [f5]
      rw [← m1] at h6
      cases e6 : (iC l 60 g.2).bind fun h => iMany (iN l) h.1.toNat h.2 with
      | none =>
        rw [show ((60 : Nat) : Int) = 60 from rfl, e6] at h6
        rcases h6 with h6 | h6 | ⟨y, _, h6⟩
        · exact .inl h6
        · exact .inr (.inr (.inr h6))
        · exact h6.elim
      | some i =>
        rw [show ((60 : Nat) : Int) = 60 from rfl, e6] at h6; obtain ⟨f6, k6⟩ := h6
        simp only [Option.bind_some]
        exact ⟨by unfold gAcc; rw [f0, f5, f6], k6⟩

/-- What was read from p up to q stands there as the bytes y. -/
def Wrt (l : List Int) (p q : Int) (y : List Int) : Prop := p ≤ q ∧ q ≤ l.length ∧ l.take q.toNat = l.take p.toNat ++ y
theorem Wrt.trans {l : List Int} {p q r : Int} {y z : List Int} (h : Wrt l p q y) (k : Wrt l q r z) : Wrt l p r (y ++ z) := ⟨by have := h.1; have := k.1; omega, k.2.1, by rw [k.2.2, h.2.2, List.append_assoc]⟩
theorem wrt_n {l : List Int} {p : Int} {r : Int × Int} (ho : Oct l) (h : iN l p = some r) : Wrt l p r.2 (numB r.1) ∧ 0 ≤ r.1 ∧ 0 ≤ r.2 := by
  unfold iN at h
  split at h
  · cases h
  · simp only [Option.some.injEq] at h
    subst h
    have := put_get l p (getL l p).1 (getL l p).2 ho rfl (by omega)
    have hb := getL_bd l p
    refine ⟨⟨this.2.1, this.2.2.1, ?_⟩, ?_, by omega⟩
    · rw [← this.2.2.2, putL_eq]
    · rcases hb with hb | hb
      · rw [hb]; simp
      · exact hb.1
theorem wrt_t {l : List Int} {p : Int} {r : List Int × Int} (ho : Oct l) (h : iT l p = some r) : Wrt l p r.2 (txB r.1) ∧ 0 ≤ r.2 := by
  unfold iT at h
  split at h
  · cases h
  · rename_i hn
    simp only [Option.some.injEq] at h
    subst h
    unfold getTL at hn ⊢
    split
    · rename_i hc
      rw [if_pos hc] at hn
      simp at hn
    · rename_i hc
      have hb := getL_bd l p
      have hr : iN l p = some (getL l p) := by unfold iN; rw [if_neg (by omega)]
      have hw := (wrt_n ho hr).1
      have h0 := (wrt_n ho hr).2.1
      have ht : ((l.drop (getL l p).2.toNat).take (getL l p).1.toNat).length = (getL l p).1.toNat := by simp; omega
      refine ⟨⟨by have := hw.1; simp only; omega, by simp only; omega, ?_⟩, by simp only; omega⟩
      simp only
      have e : txB ((l.drop (getL l p).2.toNat).take (getL l p).1.toNat) = numB (getL l p).1 ++ (l.drop (getL l p).2.toNat).take (getL l p).1.toNat := by
        unfold txB putTL
        rw [if_neg (by omega), ht]
        rw [show (((getL l p).1.toNat : Nat) : Int) = (getL l p).1 by omega]
        rfl
      rw [e, ← List.append_assoc, ← hw.2.2, show ((getL l p).2 + (getL l p).1).toNat = (getL l p).2.toNat + (getL l p).1.toNat by omega, List.take_add]
theorem wrt_many {α : Type} {i : Int → Option (α × Int)} {f : α → List Int} {l : List Int} (hi : ∀ p x, 0 ≤ p → i p = some x → Wrt l p x.2 (f x.1) ∧ 0 ≤ x.2) : ∀ (m : Nat) (p : Int) (y : List α × Int), 0 ≤ p → p ≤ l.length → iMany i m p = some y → Wrt l p y.2 (y.1.flatMap f) ∧ 0 ≤ y.2 ∧ y.1.length = m
  | 0, p, y, h0, h1, h => by
    simp only [iMany, Option.some.injEq] at h
    subst h
    exact ⟨⟨Int.le_refl _, h1, by simp⟩, h0, rfl⟩
  | m + 1, p, y, h0, h1, h => by
    unfold iMany at h
    cases e : i p with
    | none => rw [e] at h; cases h
    | some x =>
      rw [e] at h
      simp only [Option.bind_some] at h
      have hw := hi p x h0 e
      cases e2 : iMany i m x.2 with
      | none => rw [e2] at h; cases h
      | some z =>
        rw [e2] at h
        simp only [Option.bind_some, Option.some.injEq] at h
        subst h
        have h2 := wrt_many hi m x.2 z hw.2 hw.1.2.1 e2
        refine ⟨?_, h2.2.1, by simp [h2.2.2]⟩
        simp only [List.flatMap_cons]
        exact hw.1.trans h2.1
theorem bind_parts {α β : Type} {x : Option α} {f : α → Option β} {y : β} (h : x.bind f = some y) : ∃ a, x = some a ∧ f a = some y := by
  cases x with
  | none => cases h
  | some a => exact ⟨a, rfl, h⟩
theorem wrt_mail {l : List Int} (ho : Oct l) (p : Int) (x : MailD × Int) (h0 : 0 ≤ p) (h : iMail l p = some x) : Wrt l p x.2 (mailBs x.1) ∧ 0 ≤ x.2 := by
  unfold iMail at h
  obtain ⟨a, ha, h⟩ := bind_parts h
  obtain ⟨b, hb, h⟩ := bind_parts h
  obtain ⟨c, hc, h⟩ := bind_parts h
  obtain ⟨d, hd, h⟩ := bind_parts h
  simp only [Option.some.injEq] at h
  subst h
  exact ⟨(wrt_n ho ha).1.trans ((wrt_n ho hb).1.trans ((wrt_n ho hc).1.trans (wrt_t ho hd).1)), (wrt_t ho hd).2⟩
theorem wrt_gone {l : List Int} (ho : Oct l) (p : Int) (x : GoneD × Int) (h0 : 0 ≤ p) (h : iGone l p = some x) : Wrt l p x.2 (goneBs x.1) ∧ 0 ≤ x.2 := by
  unfold iGone at h
  obtain ⟨a, ha, h⟩ := bind_parts h
  obtain ⟨b, hb, h⟩ := bind_parts h
  simp only [Option.some.injEq] at h
  subst h
  exact ⟨(wrt_n ho ha).1.trans (wrt_n ho hb).1, (wrt_n ho hb).2.2⟩
theorem wrt_c {l : List Int} {p most : Int} {r : Int × Int} (ho : Oct l) (h : iC l most p = some r) : Wrt l p r.2 (numB r.1) ∧ 0 ≤ r.1 ∧ 0 ≤ r.2 ∧ r.1 ≤ most := by
  unfold iC at h
  obtain ⟨a, ha, h⟩ := bind_parts h
  split at h
  · cases h
  · simp only [Option.some.injEq] at h
    subst h
    have := wrt_n ho ha
    exact ⟨this.1, this.2.1, this.2.2, by omega⟩
theorem wrt_box {l : List Int} (ho : Oct l) (p : Int) (x : BoxD × Int) (h0 : 0 ≤ p) (h : iBox l p = some x) : Wrt l p x.2 (boxBs x.1) ∧ 0 ≤ x.2 := by
  unfold iBox at h
  obtain ⟨a, ha, h⟩ := bind_parts h
  obtain ⟨b, hb, h⟩ := bind_parts h
  obtain ⟨c, hc, h⟩ := bind_parts h
  obtain ⟨d, hd, h⟩ := bind_parts h
  obtain ⟨e, he, h⟩ := bind_parts h
  obtain ⟨f, hf, h⟩ := bind_parts h
  obtain ⟨g, hg, h⟩ := bind_parts h
  obtain ⟨k, hk, h⟩ := bind_parts h
  obtain ⟨i, hi, h⟩ := bind_parts h
  simp only [Option.some.injEq] at h
  subst h
  have wf := wrt_c ho hf
  have wk := wrt_c ho hk
  have wg := wrt_many (wrt_mail ho) _ _ _ wf.2.2.1 wf.1.2.1 hg
  have wi := wrt_many (wrt_gone ho) _ _ _ wk.2.2.1 wk.1.2.1 hi
  have eg : ((g.1.length : Nat) : Int) = f.1 := by rw [wg.2.2]; omega
  have ei : ((i.1.length : Nat) : Int) = k.1 := by rw [wi.2.2]; omega
  refine ⟨?_, wi.2.1⟩
  unfold boxBs
  simp only [eg, ei]
  exact (wrt_t ho ha).1.trans ((wrt_n ho hb).1.trans ((wrt_n ho hc).1.trans ((wrt_n ho hd).1.trans ((wrt_n ho he).1.trans (wf.1.trans (wg.1.trans (wk.1.trans wi.1)))))))
theorem wrt_acc {l : List Int} (ho : Oct l) (p : Int) (x : AccD × Int) (h0 : 0 ≤ p) (h : iAcc l p = some x) : Wrt l p x.2 (accBs x.1) ∧ 0 ≤ x.2 := by
  unfold iAcc at h
  obtain ⟨a, ha, h⟩ := bind_parts h
  obtain ⟨f, hf, h⟩ := bind_parts h
  obtain ⟨g, hg, h⟩ := bind_parts h
  obtain ⟨k, hk, h⟩ := bind_parts h
  obtain ⟨i, hi, h⟩ := bind_parts h
  simp only [Option.some.injEq] at h
  subst h
  have wf := wrt_c ho hf
  have wk := wrt_c ho hk
  have wg := wrt_many (wrt_box ho) _ _ _ wf.2.2.1 wf.1.2.1 hg
  have wi := wrt_many (f := numB) (fun p x _ h => ⟨(wrt_n ho h).1, (wrt_n ho h).2.2⟩) _ _ _ wk.2.2.1 wk.1.2.1 hi
  have eg : ((g.1.length : Nat) : Int) = f.1 := by rw [wg.2.2]; omega
  have ei : ((i.1.length : Nat) : Int) = k.1 := by rw [wi.2.2]; omega
  refine ⟨?_, wi.2.1⟩
  unfold accBs
  simp only [eg, ei]
  exact (wrt_n ho ha).1.trans (wf.1.trans (wg.1.trans (wk.1.trans wi.1)))
theorem bad_acc {a : AccD} (h : badA a) : accB a = false := by
  cases e : accB a with
  | false => rfl
  | true =>
    exfalso
    have h1 := accB_small e
    have h2 := accB_seen e
    rcases h with h | ⟨x, hx, h⟩ | h
    · omega
    · have := h1.2 x hx
      rcases h with h | h <;> omega
    · omega
theorem szM_le : ∀ (l : List MailD), (∀ m, m ∈ l → m.text.length ≤ 30) → szM l ≤ 31 * l.length
  | [], _ => by simp [szM]
  | x :: l, h => by
    have h1 := h x (by simp)
    have h2 := szM_le l (fun m hm => h m (by simp [hm]))
    simp only [szM, List.map_cons, List.sum_cons, List.length_cons] at h2 ⊢
    omega
theorem szXs_le (C : Nat) : ∀ (l : List BoxD), (∀ b, b ∈ l → szX b ≤ C) → szXs l ≤ (C + 1) * l.length
  | [], _ => by simp [szXs]
  | x :: l, h => by
    have h1 := h x (by simp)
    have h2 := szXs_le C l (fun m hm => h m (by simp [hm]))
    simp only [szXs, List.map_cons, List.sum_cons, List.length_cons, Nat.mul_add, Nat.mul_one] at h2 ⊢
    omega
theorem acc_sz {a : AccD} (h : accB a = true) : szXs a.boxes ≤ 2000000 := by
  have hs := accB_small h
  have h1 : ∀ b, b ∈ a.boxes → szX b ≤ 500 := by
    intro b hb
    have hl := hs.2 b hb
    simp only [accB, Bool.and_eq_true, decide_eq_true_eq, List.all_eq_true, List.mem_range] at h
    obtain ⟨i, hi, rfl⟩ := List.mem_iff_getElem.1 hb
    have := h.2.2.2 i hi
    simp only [boxAt, List.getElem?_eq_getElem hi, boxB, mailsB, nameB, Bool.and_eq_true, decide_eq_true_eq, List.all_eq_true, List.mem_range] at this
    have hn := this.1.1.2.1
    have hm := this.1.2.2.2.2.2.1.2
    have hk : szM a.boxes[i].mails ≤ 31 * a.boxes[i].mails.length := by
      refine szM_le _ fun m hm' => ?_
      obtain ⟨j, hj, rfl⟩ := List.mem_iff_getElem.1 hm'
      have h3 := hm j hj
      simp only [mailAt, List.getElem?_eq_getElem hj, textB, Bool.and_eq_true, decide_eq_true_eq] at h3
      exact h3.2.2.2.1
    unfold szX
    omega
  have h2 := szXs_le 500 a.boxes h1
  have h3 := hs.1
  omega
def nilA : AccD := ⟨0, [], []⟩
/-- What the specification answers, what the program answers. -/
def okS (l : List Int) : Bool := decide ((gAcc l 0).2 = l.length) && (accB (gAcc l 0).1 && decide (accBs (gAcc l 0).1 = l))
def okI (l : List Int) : Bool := match iAcc l 0 with
  | some y => decide (y.2 = l.length) && accB y.1
  | none => false
def outS (l : List Int) : AccD := match okS l with
  | true => (gAcc l 0).1
  | false => nilA
theorem ok_same {l : List Int} (ho : Oct l) : okS l = okI l := by
  have h := agr_acc l 0 (Int.le_refl _)
  unfold okS okI
  cases e : iAcc l 0 with
  | none =>
    rw [e] at h
    rcases h with h | h
    · rw [decide_eq_false (by omega)]; rfl
    · simp [bad_acc h]
  | some y =>
    rw [e] at h
    obtain ⟨f, k⟩ := h
    rw [f]
    by_cases hq : y.2 = l.length
    · have hw := (wrt_acc ho 0 y (Int.le_refl _) e).1.2.2
      rw [hq] at hw
      simp at hw
      simp [hq, ← hw]
    · simp [hq]
theorem out_same {l : List Int} {y : AccD × Int} (ho : Oct l) (e : iAcc l 0 = some y) (hk : okI l = true) : outS l = y.1 := by
  have h := agr_acc l 0 (Int.le_refl _)
  rw [e] at h
  unfold outS
  rw [ok_same ho, hk]
  simp only [h.1]

end Go.Proofs.YthnlbhmecokomaaDoor

/- A cursor that is written while all else stays: what lies elsewhere, and what is new. -/
namespace Go.Proofs.YthnlbhmecokomaaDoor
open Go.RowKit

section
variable {w w' w'' : World} {g b : Nat}
theorem gr_at {o : Obj} (h : w.grownBy w' (some g)) (hb : w.heap[b]? = some o) (hne : b ≠ g) : w'.heap[b]? = some o := (h.block b (lt_of_heap hb) fun e => hne (by simpa using e)).trans hb
theorem gr_set {j : Nat} {u : Value} (h : w.grownBy w' (some g)) (hb : w.heap.size ≤ b) : w.grownBy (w'.setCell ⟨b, j, none⟩ u) (some g) :=
  ⟨h.os, h.tape, h.output, by rw [box_size]; exact h.size, fun k hk hne => (Below.heap_setCell w' ⟨b, j, none⟩ u k (show k ≠ b by omega)).trans (h.block k hk hne)⟩
theorem gr_below (h : w.grownBy w' (some g)) (hb : Below w'.heap.size w' w'') : w.grownBy w'' (some g) :=
  ⟨hb.os.trans h.os, hb.tape.trans h.tape, hb.output.trans h.output, Nat.le_trans h.size hb.size, fun k hk hne => (hb.block k (Nat.lt_of_lt_of_le hk h.size)).trans (h.block k hk hne)⟩
theorem gr_alloc {o : Obj} (h : w.grownBy w' (some g)) : w.grownBy (w'.alloc o) (some g) := gr_below h ((Below.refl _ _).alloc (Nat.le_refl _) o)
theorem gr_push {row : Option Nat} (h : w.grownBy w' (some g)) (k : w'.grownBy w'' row) (hr : ∀ j, row = some j → w.heap.size ≤ j) : w.grownBy w'' (some g) :=
  ⟨k.os.trans h.os, k.tape.trans h.tape, k.output.trans h.output, Nat.le_trans h.size k.size, fun i hi hne => (k.block i (Nat.lt_of_lt_of_le hi h.size) fun e => by have := hr i e.symm; omega).trans (h.block i hi hne)⟩
theorem Row.gr {B T : Nat} {v : Value} {l : List Int} (h : Row w B T v l) (hw : w.grownBy w' (some g)) (hd : g < B ∨ T ≤ g) : Row w' B T v l := h.drawn hw hd
variable {α : Type} {t : TypeId} {sz B T : Nat} {E : World → List Value → α → (Nat → Prop) → Prop} {v : Value} {l : List α}
theorem OwR.gr [Fr E] (h : OwR t sz E w B T v l) (hw : w.grownBy w' (some g)) (hd : g < B ∨ T ≤ g) : OwR t sz E w' B T v l :=
  Ow.frame Fr.out h fun b hb hlt => hw.block b hlt fun e => by have := hb.1; have := hb.2; simp only [Option.some.injEq] at e; omega
theorem OwR.gr' [Fr E] {row : Option Nat} (h : OwR t sz E w B T v l) (hw : w.grownBy w' row) (hd : ∀ j, row = some j → T ≤ j) : OwR t sz E w' B T v l :=
  Ow.frame Fr.out h fun b hb hlt => hw.block b hlt fun e => by have := hd b e.symm; have := hb.2; omega
end
theorem Row.gr' {w w' : World} {B T : Nat} {v : Value} {l : List Int} {row : Option Nat} (h : Row w B T v l) (hw : w.grownBy w' row) (hd : ∀ j, row = some j → T ≤ j) : Row w' B T v l := by
  refine ⟨h.1, ⟨h.2.1.1, ?_⟩, h.2.2⟩
  rcases h.2.1.2 with hn | ⟨g, cap, cur, hv, hg, hh, r⟩
  · exact .inl hn
  · have hlt : g < T := h.2.2 g (by rw [hv]; rfl)
    exact .inr ⟨g, cap, cur, hv, hg, (hw.block g (lt_of_heap hh) fun e => by have := hd g e.symm; omega).trans hh, r⟩
theorem gN_bd (l : List Int) (p : Int) (hl : l.length ≤ 2000000) (h0 : -1 ≤ p) (h1 : p ≤ 9000000) : (0 ≤ (gN l p).1 ∧ (gN l p).1 ≤ 2147483647) ∧ -1 ≤ (gN l p).2 ∧ (gN l p).2 ≤ 9000000 := by
  unfold gN
  split
  · exact ⟨⟨by simp, by simp⟩, h0, h1⟩
  · rcases getL_bd l p with h | h
    · rw [h]; simp
    · refine ⟨⟨h.1, h.2.1⟩, by omega, by omega⟩
theorem gT_bd (l : List Int) (p : Int) (hl : l.length ≤ 2000000) (h0 : -1 ≤ p) (h1 : p ≤ 9000000) : (gT l p).1.length ≤ 30 ∧ -1 ≤ (gT l p).2 ∧ (gT l p).2 ≤ 9000000 := by
  unfold gT
  split
  · exact ⟨by simp, h0, h1⟩
  · refine ⟨getTL_length l p, ?_⟩
    have hb := getL_bd l p
    unfold getTL
    split
    · simp
    · simp only
      rcases hb with h | h
      · rw [h] at *; simp at *
      · omega
theorem gn_i64 {l : List Int} {p : Int} (h : 0 ≤ (gN l p).1 ∧ (gN l p).1 ≤ 2147483647) : I64 (gN l p).1 := ⟨by omega, by omega⟩
theorem i64_of {n : Int} (h : 0 ≤ n ∧ n ≤ 2147483647) : I64 n := ⟨by omega, by omega⟩
theorem gMany_bd {α : Type} {g : Int → α × Int} (hg : ∀ p, -1 ≤ p → p ≤ 9000000 → -1 ≤ (g p).2 ∧ (g p).2 ≤ 9000000) : ∀ (m : Nat) (p : Int), -1 ≤ p → p ≤ 9000000 → -1 ≤ (gMany g m p).2 ∧ (gMany g m p).2 ≤ 9000000
  | 0, p, h0, h1 => ⟨h0, h1⟩
  | m + 1, p, h0, h1 => by
    unfold gMany
    split
    · exact ⟨h0, h1⟩
    · exact gMany_bd hg m _ (hg p h0 h1).1 (hg p h0 h1).2
theorem gMail_bd (l : List Int) (hl : l.length ≤ 2000000) (p : Int) (h0 : -1 ≤ p) (h1 : p ≤ 9000000) : -1 ≤ (gMail l p).2 ∧ (gMail l p).2 ≤ 9000000 := by
  have a := (gN_bd l p hl h0 h1).2
  have b := (gN_bd l _ hl a.1 a.2).2
  have c := (gN_bd l _ hl b.1 b.2).2
  exact (gT_bd l _ hl c.1 c.2).2
theorem gGone_bd (l : List Int) (hl : l.length ≤ 2000000) (p : Int) (h0 : -1 ≤ p) (h1 : p ≤ 9000000) : -1 ≤ (gGone l p).2 ∧ (gGone l p).2 ≤ 9000000 := by
  have a := (gN_bd l p hl h0 h1).2
  exact (gN_bd l _ hl a.1 a.2).2
theorem gBox_bd (l : List Int) (p : Int) (hl : l.length ≤ 2000000) (h0 : -1 ≤ p) (h1 : p ≤ 9000000) : -1 ≤ (gBox l p).2 ∧ (gBox l p).2 ≤ 9000000 := by
  have a := (gT_bd l p hl h0 h1).2
  have b := (gN_bd l (bP0 l p) hl a.1 a.2).2
  have c := (gN_bd l (bP1 l p) hl b.1 b.2).2
  have d := (gN_bd l (bP2 l p) hl c.1 c.2).2
  have e := (gN_bd l (bP3 l p) hl d.1 d.2).2
  have f := (gN_bd l (bP4 l p) hl e.1 e.2).2
  have m := gMany_bd (gMail_bd l hl) (min (gN l (bP4 l p)).1.toNat 13) _ f.1 f.2
  have k := (gN_bd l (bM l p).2 hl m.1 m.2).2
  exact gMany_bd (gGone_bd l hl) _ _ k.1 k.2
/-- A round more, or the end, of a list that is read. -/
theorem many_step {α : Type} {g : Int → α × Int} {m k : Nat} {R : List α × Int} {q : Int} {ms : List α} (h : R = (ms ++ (gMany g (m - k) q).1, (gMany g (m - k) q).2)) (hk : k < m) (hq : 0 ≤ q) : R = (ms ++ [(g q).1] ++ (gMany g (m - (k + 1)) (g q).2).1, (gMany g (m - (k + 1)) (g q).2).2) := by
  rw [h, show m - k = (m - (k + 1)) + 1 by omega]
  simp only [gMany, if_neg (show ¬ q < 0 by omega), List.append_assoc, List.singleton_append]
theorem many_end {α : Type} {g : Int → α × Int} {m k : Nat} {R : List α × Int} {q : Int} {ms : List α} (h : R = (ms ++ (gMany g (m - k) q).1, (gMany g (m - k) q).2)) (hk : m ≤ k ∨ q < 0) : R = (ms, q) := by
  rw [h]
  rcases hk with hk | hk
  · rw [show m - k = 0 by omega]; simp [gMany]
  · cases e : m - k with
    | zero => simp [gMany]
    | succ j => simp [gMany, hk]

end Go.Proofs.YthnlbhmecokomaaDoor

/- What moveTo, num, text, count of the reader of bytes of package impl do: they read, or give up by a panic. -/
namespace Go.Proofs.YthnlbhmecokomaaDoor
open Go.RowKit
set_option maxRecDepth 100000
set_option linter.unusedVariables false
set_option linter.unusedSimpArgs false

/-- The error that says 'gave up' lies in its variable. -/
def Gave (w : World) (ea : Addr) : Prop := w.cell? ⟨0, 0, none⟩ = some (.iface 104 (.pointer (some ea)))
theorem Gave.lt {w : World} {ea : Addr} (h : Gave w ea) : 0 < w.heap.size := World.block_lt_of_cell? w ⟨0, 0, none⟩ h
theorem Gave.below {w w' : World} {ea : Addr} (h : Gave w ea) (hb : Below w.heap.size w w') : Gave w' ea := (hb.cell (p := ⟨0, 0, none⟩) h.lt).trans h
theorem Gave.gr {w w' : World} {ea : Addr} {g : Nat} (h : Gave w ea) (hg : w.grownBy w' (some g)) (hne : g ≠ 0) : Gave w' ea := by
  have := hg.block 0 h.lt (by simp only [ne_eq, Option.some.injEq]; exact fun e => hne e.symm)
  show w'.cell? _ = _
  have h2 : w.cell? ⟨0, 0, none⟩ = _ := h
  rw [← h2]
  unfold World.cell?
  rw [this]
abbrev gaveUp (ea : Addr) : Ending := .panicked [{ v := .iface 104 (.pointer (some ea)), recovered := false }]

set_option maxRecDepth 100000 in
set_option maxHeartbeats 1000000 in
theorem moveTo_ok (g : Nat) (bv : Value) (p q : Int) (w : World) (hc : w.heap[g]? = some (.cells #[bv, .int .i64 p] 43 (0, 0))) (hq : 0 ≤ q) :
    Calls Tryd.prog 52 #[.pointer (some ⟨g, 0, none⟩), .int .i64 q] w fun e w' => e = .returned (.tuple #[]) ∧ w' = w.setCell ⟨g, 1, none⟩ (.int .i64 q) := by
  obtain ⟨c0, c1⟩ := bx2 hc
  obtain ⟨cz, cl⟩ := box8z hc
  have hd : ¬ q < 0 := by omega
  clear hc
  go_enter Tryd.func52, Tryd.ntmps52
  go_wp2
  go_end0
  exact ⟨rfl, rfl⟩
set_option maxRecDepth 100000 in
set_option maxHeartbeats 1000000 in
theorem moveTo_no (v : Value) (q : Int) (ea : Addr) (w : World) (hE : Gave w ea) (hq : q < 0) :
    Calls Tryd.prog 52 #[v, .int .i64 q] w fun e w' => e = gaveUp ea ∧ w' = w := by
  have h0 : w.cell? ⟨0, 0, none⟩ = _ := hE
  clear hE
  go_enter Tryd.func52, Tryd.ntmps52
  go_wp2
  exact ⟨rfl, rfl, rfl⟩

set_option maxRecDepth 100000 in
set_option maxHeartbeats 2000000 in
theorem num_c (g : Nat) (bv : Value) (l : List Int) (p : Int) (ea : Addr) (w : World) (hc : w.heap[g]? = some (.cells #[bv, .int .i64 p] 43 (0, 0))) (hb : ∀ wi, w.grownBy wi (some g) → Bs wi bv l) (hE : Gave w ea) (hl : l.length ≤ 2000000) (hp0 : 0 ≤ p) (hp1 : p ≤ 9000000) :
    Calls Tryd.prog 29 #[.pointer (some ⟨g, 0, none⟩)] w fun e w' => ((∃ r, iN l p = some r ∧ e = .returned (.int .i64 r.1) ∧ w'.heap[g]? = some (.cells #[bv, .int .i64 r.2] 43 (0, 0))) ∨ (iN l p = none ∧ e = gaveUp ea)) ∧ w.grownBy w' (some g) := by
  have HC : Hid (w.heap[g]? = some (.cells #[bv, .int .i64 p] 43 (0, 0))) := hc
  have HE : Hid (Gave w ea) := hE
  have DR : Below w.heap.size w w.drew := (Below.refl _ _).drew
  have HB : Bs w.drew bv l := hb _ (gr_below (World.grownBy.refl _ _) DR)
  obtain ⟨ba, bn, bc, rfl⟩ := HB.form3
  have HI : Hid (iN l p = if (getL l p).2 < 0 then none else some (getL l p)) := rfl
  have hcall := implGetNum_any _ l p _ HB hl (by omega) (by omega)
  generalize hG : getL l p = G at hcall HI
  obtain ⟨n, q⟩ := G
  simp only at hcall
  have HS : Hid (∀ w', Below w.heap.size w w' → w'.cell? ⟨g, 0, none⟩ = some (.slice ba bn bc) ∧ w'.cell? ⟨g, 1, none⟩ = some (.int .i64 p)) := fun w' h => bx2 (box_below h HC.out)
  clear hb hG hc hE HB
  go_enter Tryd.func29, Tryd.ntmps29
  go_wp2
  go_region_held3 (fun w' => w'.cell? ⟨g, 0, none⟩ = some (.slice ba bn bc) ∧ w'.cell? ⟨g, 1, none⟩ = some (.int .i64 p))
    (first | exact HS.out _ C1 | exact HS.out _ DR | go_keep)
    ((first | (go_at_call 51; refine hcall.mono ?_; rintro e w1 ⟨rfl, B1⟩; have C1 := Below.step DR B1)))
  clear hcall
  have K1 := box_below C1 HC.out
  have HE1 : Hid (Gave w1 ea) := HE.out.below C1
  by_cases hq : q < 0
  · have HN : Hid (iN l p = none) := by show _ = _; rw [HI.out, if_pos hq]
    go_wp2_with fail
    refine (moveTo_no _ q ea _ HE1.out hq).mono ?_
    rintro e w2 ⟨rfl, rfl⟩
    go_wp2
    exact ⟨rfl, .inr ⟨HN.out, rfl⟩, gr_below (World.grownBy.refl _ _) C1⟩
  · have HN : Hid (iN l p = some (n, q)) := by show _ = _; rw [HI.out, if_neg hq]
    go_wp2_with fail
    refine (moveTo_ok g _ p q _ K1 (by omega)).mono ?_
    rintro e w2 ⟨rfl, rfl⟩
    go_wp2
    go_ret
    exact ⟨.inl ⟨_, HN.out, rfl, box_set K1⟩, grownBy_setCell (gr_below (World.grownBy.refl _ _) C1)⟩

set_option maxRecDepth 100000 in
set_option maxHeartbeats 2000000 in
theorem text_c (g : Nat) (bv : Value) (l : List Int) (p : Int) (ea : Addr) (w : World) (hc : w.heap[g]? = some (.cells #[bv, .int .i64 p] 43 (0, 0))) (hb : ∀ wi, w.grownBy wi (some g) → Bs wi bv l) (hE : Gave w ea) (hl : l.length ≤ 2000000) (hp0 : 0 ≤ p) (hp1 : p ≤ 9000000) :
    Calls Tryd.prog 53 #[.pointer (some ⟨g, 0, none⟩)] w fun e w' => ((∃ r u, iT l p = some r ∧ e = .returned u ∧ Row w' w.heap.size w'.heap.size u r.1 ∧ w'.heap[g]? = some (.cells #[bv, .int .i64 r.2] 43 (0, 0))) ∨ (iT l p = none ∧ e = gaveUp ea)) ∧ w.grownBy w' (some g) := by
  have HC : Hid (w.heap[g]? = some (.cells #[bv, .int .i64 p] 43 (0, 0))) := hc
  have hlg := lt_of_heap hc
  have HE : Hid (Gave w ea) := hE
  have DR : Below w.heap.size w w.drew := (Below.refl _ _).drew
  have HB : Bs w.drew bv l := hb _ (gr_below (World.grownBy.refl _ _) DR)
  obtain ⟨ba, bn, bc, rfl⟩ := HB.form3
  have HI : Hid (iT l p = if (getTL l p).2 < 0 then none else some (getTL l p)) := rfl
  have hcall := implGetText_r _ l p _ HB hl (by omega) (by omega)
  generalize hG : getTL l p = G at hcall HI
  obtain ⟨n, q⟩ := G
  simp only at hcall
  have HS : Hid (∀ w', Below w.heap.size w w' → w'.cell? ⟨g, 0, none⟩ = some (.slice ba bn bc) ∧ w'.cell? ⟨g, 1, none⟩ = some (.int .i64 p)) := fun w' h => bx2 (box_below h HC.out)
  clear hb hG hc hE HB
  go_enter Tryd.func53, Tryd.ntmps53
  go_wp2
  go_region_held3 (fun w' => w'.cell? ⟨g, 0, none⟩ = some (.slice ba bn bc) ∧ w'.cell? ⟨g, 1, none⟩ = some (.int .i64 p))
    (first | exact HS.out _ C1 | exact HS.out _ DR | go_keep)
    ((first | (go_at_call 64; refine hcall.mono ?_; rintro e w1 ⟨r1, rfl, R1, B1⟩; have C1 := Below.step DR B1)))
  clear hcall
  have K1 := box_below C1 HC.out
  have HE1 : Hid (Gave w1 ea) := HE.out.below C1
  have HR1 : Hid (Row w1 w.heap.size w1.heap.size r1 n) := R1
  clear R1
  by_cases hq : q < 0
  · have HN : Hid (iT l p = none) := by show _ = _; rw [HI.out, if_pos hq]
    go_wp2_with fail
    refine (moveTo_no _ q ea _ HE1.out hq).mono ?_
    rintro e w2 ⟨rfl, rfl⟩
    go_wp2
    exact ⟨rfl, .inr ⟨HN.out, rfl⟩, gr_below (World.grownBy.refl _ _) C1⟩
  · have HN : Hid (iT l p = some (n, q)) := by show _ = _; rw [HI.out, if_neg hq]
    go_wp2_with fail
    refine (moveTo_ok g _ p q _ K1 (by omega)).mono ?_
    rintro e w2 ⟨rfl, rfl⟩
    go_wp2
    go_ret
    refine ⟨.inl ⟨_, _, HN.out, rfl, ?_, box_set K1⟩, grownBy_setCell (gr_below (World.grownBy.refl _ _) C1)⟩
    rw [box_size]
    exact Row.set HR1.out (.inl hlg)

set_option maxRecDepth 100000 in
set_option maxHeartbeats 2000000 in
theorem count_c (g : Nat) (bv : Value) (l : List Int) (p most : Int) (ea : Addr) (w : World) (hc : w.heap[g]? = some (.cells #[bv, .int .i64 p] 43 (0, 0))) (hb : ∀ wi, w.grownBy wi (some g) → Bs wi bv l) (hE : Gave w ea) (hne : g ≠ 0) (hl : l.length ≤ 2000000) (hp0 : 0 ≤ p) (hp1 : p ≤ 9000000) (hm0 : 0 ≤ most) (hm1 : most ≤ 1000) :
    Calls Tryd.prog 30 #[.pointer (some ⟨g, 0, none⟩), .int .i64 most] w fun e w' => ((∃ r, iC l most p = some r ∧ e = .returned (.int .i64 r.1) ∧ w'.heap[g]? = some (.cells #[bv, .int .i64 r.2] 43 (0, 0))) ∨ (iC l most p = none ∧ e = gaveUp ea)) ∧ w.grownBy w' (some g) := by
  have hn := num_c g bv l p ea w hc hb hE hl hp0 hp1
  have HE : Hid (Gave w ea) := hE
  have HI : Hid (iC l most p = (iN l p).bind fun r => if most < r.1 then none else some r) := rfl
  clear hc hb hE
  go_enter Tryd.func30, Tryd.ntmps30
  go_wp2_with fail
  refine hn.mono ?_
  rintro e w1 ⟨⟨r, hr, rfl, KC⟩ | ⟨hr, rfl⟩, G⟩
  · have HK : Hid _ := KC
    have HG : Hid (w.grownBy w1 (some g)) := G
    have h0 : w1.cell? ⟨0, 0, none⟩ = _ := HE.out.gr G hne
    clear KC G
    obtain ⟨n, q⟩ := r
    by_cases hm : most < n
    · have HN : Hid (iC l most p = none) := by show _ = _; rw [HI.out, hr]; simp [hm]
      clear hr
      go_wp2
      exact ⟨rfl, .inr ⟨HN.out, rfl⟩, HG.out⟩
    · have HN : Hid (iC l most p = some (n, q)) := by show _ = _; rw [HI.out, hr]; simp [hm]
      clear hr
      go_wp2
      go_ret
      exact ⟨.inl ⟨_, HN.out, rfl, HK.out⟩, HG.out⟩
  · have HN : Hid (iC l most p = none) := by show _ = _; rw [HI.out, hr]; rfl
    clear hr
    go_wp2
    exact ⟨rfl, .inr ⟨HN.out, rfl⟩, G⟩

end Go.Proofs.YthnlbhmecokomaaDoor

/- Lists that are read, or given up: a round more, the end. -/
namespace Go.Proofs.YthnlbhmecokomaaDoor
open Go.RowKit

section
variable {α β : Type} {g : Int → Option (α × Int)} {F : List α × Int → Option β} {R : Option β} {m k : Nat} {q : Int} {ms : List α}
theorem manyI_start {p : Int} (h : R = (iMany g m p).bind F) : R = (iMany g (m - 0) p).bind fun r => F ([] ++ r.1, r.2) := h
theorem manyI_step {x : α × Int} (h : R = (iMany g (m - k) q).bind fun r => F (ms ++ r.1, r.2)) (hk : k < m) (hx : g q = some x) : R = (iMany g (m - (k + 1)) x.2).bind fun r => F (ms ++ [x.1] ++ r.1, r.2) := by
  rw [h, show m - k = (m - (k + 1)) + 1 by omega]
  rw [show iMany g (m - (k + 1) + 1) q = (g q).bind fun x => (iMany g (m - (k + 1)) x.2).bind fun r => some (x.1 :: r.1, r.2) from rfl, hx]
  simp only [Option.bind_some, Option.bind_assoc, List.append_assoc, List.singleton_append]
theorem manyI_none (h : R = (iMany g (m - k) q).bind fun r => F (ms ++ r.1, r.2)) (hk : k < m) (hx : g q = none) : R = none := by
  rw [h, show m - k = (m - (k + 1)) + 1 by omega]
  rw [show iMany g (m - (k + 1) + 1) q = (g q).bind fun x => (iMany g (m - (k + 1)) x.2).bind fun r => some (x.1 :: r.1, r.2) from rfl, hx]
  rfl
theorem manyI_end (h : R = (iMany g (m - k) q).bind fun r => F (ms ++ r.1, r.2)) (hk : m ≤ k) : R = F (ms, q) := by
  rw [h, show m - k = 0 by omega]
  simp [iMany]
end
theorem iN_bd {l : List Int} {p : Int} {r : Int × Int} (hl : l.length ≤ 2000000) (h : iN l p = some r) : (0 ≤ r.1 ∧ r.1 ≤ 2147483647) ∧ 0 ≤ r.2 ∧ r.2 ≤ 9000000 := by
  unfold iN at h
  split at h
  · cases h
  · simp only [Option.some.injEq] at h
    subst h
    rcases getL_bd l p with hb | hb
    · rename_i hn; rw [hb] at hn; simp at hn
    · omega
theorem iT_bd {l : List Int} {p : Int} {r : List Int × Int} (hl : l.length ≤ 2000000) (h : iT l p = some r) : r.1.length ≤ 30 ∧ 0 ≤ r.2 ∧ r.2 ≤ 9000000 := by
  unfold iT at h
  split at h
  · cases h
  · rename_i hn
    simp only [Option.some.injEq] at h
    subst h
    refine ⟨getTL_length l p, by omega, ?_⟩
    have hb := getL_bd l p
    unfold getTL
    split
    · simp
    · simp only
      rcases hb with hb | hb
      · rw [hb] at *; simp at *
      · omega
theorem iC_bd {l : List Int} {most p : Int} {r : Int × Int} (hl : l.length ≤ 2000000) (h : iC l most p = some r) : (0 ≤ r.1 ∧ r.1 ≤ most) ∧ 0 ≤ r.2 ∧ r.2 ≤ 9000000 := by
  unfold iC at h
  obtain ⟨a, ha, h⟩ := bind_parts h
  split at h
  · cases h
  · simp only [Option.some.injEq] at h
    subst h
    have := iN_bd hl ha
    exact ⟨⟨this.1.1, by omega⟩, this.2⟩

end Go.Proofs.YthnlbhmecokomaaDoor
