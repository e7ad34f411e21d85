/- The proof's texts, part 4. -/
import Derived.Test.YtjdcjhboipileabPart3
import Derived.Test.YtjdcjhboipileabPart1
import Derived.WalkKit

/- What is written into data of the call's own: the world apart from it, and the data as they are then. -/
namespace Go.Proofs.Ytjdcjhboipileab
open Go.RowKit

/-- Apart from the blocks of S the world w' has all that w had. -/
structure Wr (S : Nat → Prop) (w w' : World) : Prop where
  os : w'.os = w.os
  tape : w'.tape = w.tape
  output : w'.output = w.output
  size : w.heap.size ≤ w'.heap.size
  block : ∀ k, k < w.heap.size → ¬ S k → w'.heap[k]? = w.heap[k]?

theorem Wr.refl (S : Nat → Prop) (w : World) : Wr S w w := ⟨rfl, rfl, rfl, Nat.le_refl _, fun _ _ _ => rfl⟩
theorem Wr.trans {S : Nat → Prop} {a b c : World} (h : Wr S a b) (k : Wr S b c) : Wr S a c :=
  ⟨k.os.trans h.os, k.tape.trans h.tape, k.output.trans h.output, Nat.le_trans h.size k.size, fun i hi hn => (k.block i (Nat.lt_of_lt_of_le hi h.size) hn).trans (h.block i hi hn)⟩
theorem Wr.mono {S S' : Nat → Prop} {a b : World} (h : Wr S a b) (hS : ∀ x, S x → S' x) : Wr S' a b := ⟨h.os, h.tape, h.output, h.size, fun i hi hn => h.block i hi fun hs => hn (hS i hs)⟩
theorem Wr.within {B T : Nat} {a b : World} (h : Wr (In B T) a b) : Within B T a b := ⟨h.os, h.tape, h.output, h.size, fun i hi hn => h.block i hi hn⟩
theorem Wr.below {B : Nat} {S : Nat → Prop} {w0 a b : World} (h : Wr S a b) (h0 : Below B w0 a) (hS : ∀ x, S x → B ≤ x) (hB : B ≤ a.heap.size) : Below B w0 b :=
  ⟨h.os.trans h0.os, h.tape.trans h0.tape, h.output.trans h0.output, Nat.le_trans h0.size h.size, fun k hk => (h.block k (Nat.lt_of_lt_of_le hk hB) fun hs => by have := hS k hs; omega).trans (h0.block k hk)⟩
theorem Wr.of_below {S : Nat → Prop} {a b : World} (h : Below a.heap.size a b) : Wr S a b := ⟨h.os, h.tape, h.output, h.size, fun k hk _ => h.block k hk⟩
theorem Wr.put {S : Nat → Prop} {w : World} {g : Nat} (hg : S g) (o : Nat) (c : List Value) (t : TypeId) (cur : Array Value) (h : w.heap[g]? = some (.cells cur t (0, 0))) (hs : o + c.length ≤ cur.size) : Wr S w (put w g o c) := by
  obtain ⟨cur', _, _, _, _, hw⟩ := put_spec g t c w o cur h hs
  refine ⟨hw.os, hw.tape, hw.output, hw.size, fun k hk hn => hw.block k hk fun ⟨h1, h2⟩ => ?_⟩
  obtain rfl : k = g := by omega
  exact hn hg

theorem markByteS_o (S : Nat → Prop) (v : Value) (l : List Int) (k : Int) (w : World) (hv : RO w S v l) (hl : l.length ≤ 2000000) (hk0 : 0 ≤ k) (hk1 : k ≤ 1000000000000) :
    Calls Try.prog 11 #[v, .int .i64 k] w fun e w' => e = .returned (.int .i64 (k + l.length)) ∧ RO w' S v (marks k l.length) ∧ Wr S w w' := by
  refine (markByteS_r 0 w.heap.size v l k w ⟨hv.1, hv.2.1, fun g hg => (hv.2.1.lt g hg).2⟩ hl hk0 hk1).mono ?_
  rintro e w' ⟨rfl, r, hg⟩
  exact ⟨rfl, ⟨r.1, r.2.1, hv.2.2⟩, ⟨hg.os, hg.tape, hg.output, hg.size, fun b hb hn => hg.block b hb fun e => hn (hv.2.2 b e.symm)⟩⟩

/-- Lists, marked one element behind the other: each takes as many marks as it has places. -/
def wtAt {α : Type} (z : α) (wt : α → Nat) (l : List α) (i : Nat) : Nat := wt (l.getD i z)
def mks {α : Type} (z : α) (mk : α → Int → α) (wt : α → Nat) (k : Int) (l : List α) : List α := (List.range l.length).map fun i => mk (l.getD i z) (k + (pre (wtAt z wt l) i : Nat))
section
variable {α : Type} {z : α} {mk : α → Int → α} {wt : α → Nat} {k : Int} {l : List α}
theorem length_mks : (mks z mk wt k l).length = l.length := by simp [mks]
theorem mks_get {i : Nat} {x : α} (h : l[i]? = some x) : (mks z mk wt k l)[i]? = some (mk x (k + (pre (wtAt z wt l) i : Nat))) := by
  have hi : i < l.length := (List.getElem?_eq_some_iff.1 h).1
  have hg : l.getD i z = x := by rw [List.getD_eq_getElem?_getD, h]; rfl
  simp only [mks, List.getElem?_map, List.getElem?_range hi, Option.map_some, hg]
theorem wtAt_get {i : Nat} {x : α} (h : l[i]? = some x) : wtAt z wt l i = wt x := by
  simp [wtAt, List.getD_eq_getElem?_getD, h]
theorem pre_step {i : Nat} {x : α} (h : l[i]? = some x) : pre (wtAt z wt l) (i + 1) = pre (wtAt z wt l) i + wt x := by
  show pre (wtAt z wt l) i + wtAt z wt l i = _
  rw [wtAt_get h]
theorem pre_le {i : Nat} (h : i ≤ l.length) : pre (wtAt z wt l) i ≤ pre (wtAt z wt l) l.length := pre_mono _ h
end
theorem pre_shift1 (m : Nat → Nat) (n : Nat) : pre m (n + 1) = m 0 + pre (fun i => m (i + 1)) n := by
  induction n with
  | zero => simp [pre]
  | succ n ih => rw [pre, ih]; simp only [pre]; omega
theorem wts_sum {α : Type} (z : α) (wt : α → Nat) (l : List α) : pre (wtAt z wt l) l.length = (l.map wt).sum := by
  induction l with
  | nil => rfl
  | cons x l ih =>
    rw [List.length_cons, pre_shift1]
    have : pre (fun i => wtAt z wt (x :: l) (i + 1)) l.length = pre (wtAt z wt l) l.length := pre_congr fun i _ => by simp [wtAt]
    rw [this, ih]
    simp [wtAt]
theorem sum_le {α : Type} (f g : α → Nat) (c : Nat) (l : List α) (h : ∀ x, x ∈ l → f x ≤ c * g x) : (l.map f).sum ≤ c * (l.map g).sum := by
  induction l with
  | nil => simp
  | cons x l ih =>
    have h1 := h x (by simp)
    have h2 := ih fun y hy => h y (by simp [hy])
    simp only [List.map_cons, List.sum_cons, Nat.mul_add]
    omega
theorem sum_mem {α : Type} (f : α → Nat) {l : List α} {x : α} (h : x ∈ l) : f x ≤ (l.map f).sum := by
  induction l with
  | nil => cases h
  | cons y l ih =>
    simp only [List.map_cons, List.sum_cons]
    rcases List.mem_cons.1 h with rfl | h
    · omega
    · have := ih h; omega

/-- The first i of a, the rest of b. -/
def mix {α : Type} (a b : List α) (i : Nat) : List α := a.take i ++ b.drop i
section
variable {α : Type} {a b : List α} {i : Nat}
theorem mix_zero : mix a b 0 = b := by simp [mix]
theorem mix_all (h : a.length = b.length) : mix a b b.length = a := by simp [mix, ← h]
theorem mix_length (h : a.length = b.length) (hi : i ≤ b.length) : (mix a b i).length = b.length := by simp [mix]; omega
theorem mix_get (h : a.length = b.length) (hi : i < b.length) : (mix a b i)[i]? = b[i]? := by
  have hl : (a.take i).length = i := by rw [List.length_take]; omega
  rw [mix, List.getElem?_append_right (by omega), hl]
  simp
theorem mix_set (h : a.length = b.length) {x : α} (hx : a[i]? = some x) : (mix a b i).set i x = mix a b (i + 1) := by
  have hi : i < a.length := (List.getElem?_eq_some_iff.1 hx).1
  have hv : a[i] = x := (List.getElem?_eq_some_iff.1 hx).2
  have hl : (a.take i).length = i := by rw [List.length_take]; omega
  rw [mix, List.set_append_right _ _ (by omega), hl, Nat.sub_self, mix, List.take_succ_eq_append_getElem hi, hv, List.append_assoc]
  congr 1
  rw [List.drop_eq_getElem_cons (show i < b.length by omega)]
  rfl
end

def zMail : MailD := ⟨0, 0, 0, []⟩
def zGone : GoneD := ⟨0, 0⟩
def zBox : BoxD := ⟨[], 0, 0, 0, [], [], 0⟩
def wtInt (_ : Int) : Nat := 1
def mkInt (_ : Int) (p : Int) : Int := p
def wtGone (_ : GoneD) : Nat := 2
def mkGone (_ : GoneD) (p : Int) : GoneD := ⟨p, p + 1⟩
def wtMail (m : MailD) : Nat := 3 + m.text.length
def mkMail (m : MailD) (p : Int) : MailD := ⟨p, p + 1, p + 2, marks (p + 3) m.text.length⟩
def wIs (l : List Int) : Nat := pre (wtAt 0 wtInt l) l.length
def wGs (l : List GoneD) : Nat := pre (wtAt zGone wtGone l) l.length
def wMs (l : List MailD) : Nat := pre (wtAt zMail wtMail l) l.length
def mkGones (k : Int) (l : List GoneD) : List GoneD := mks zGone mkGone wtGone k l
def mkMails (k : Int) (l : List MailD) : List MailD := mks zMail mkMail wtMail k l
def mkInts (k : Int) (l : List Int) : List Int := mks 0 mkInt wtInt k l
def wtBox (b : BoxD) : Nat := b.name.length + 3 + wMs b.mails + wGs b.gones + 1
def mkBox (b : BoxD) (p : Int) : BoxD :=
  ⟨marks p b.name.length, p + b.name.length, p + b.name.length + 1, p + b.name.length + 2, mkMails (p + b.name.length + 3) b.mails, mkGones (p + b.name.length + 3 + wMs b.mails) b.gones, p + b.name.length + 3 + wMs b.mails + wGs b.gones⟩
def wXs (l : List BoxD) : Nat := pre (wtAt zBox wtBox l) l.length
def mkBoxes (k : Int) (l : List BoxD) : List BoxD := mks zBox mkBox wtBox k l
theorem wIs_eq (l : List Int) : wIs l = l.length := by
  rw [wIs, wts_sum]
  induction l with
  | nil => rfl
  | cons x l ih => simp only [List.map_cons, List.sum_cons, ih, wtInt, List.length_cons]; omega
theorem wGs_eq (l : List GoneD) : wGs l = 2 * l.length := by
  rw [wGs, wts_sum]
  induction l with
  | nil => rfl
  | cons x l ih => simp only [List.map_cons, List.sum_cons, ih, wtGone, List.length_cons]; omega
theorem wMs_le (l : List MailD) : wMs l ≤ 3 * szM l := by
  rw [wMs, wts_sum, szM]
  exact sum_le _ _ 3 l fun x _ => by simp only [wtMail]; omega
theorem wtBox_le (b : BoxD) : wtBox b ≤ 4 * (szX b + 1) := by
  have h1 := wMs_le b.mails
  have h2 := wGs_eq b.gones
  simp only [wtBox, szX]
  omega
theorem wXs_le (l : List BoxD) : wXs l ≤ 4 * szXs l := by
  rw [wXs, wts_sum, szXs]
  exact sum_le _ _ 4 l fun x _ => wtBox_le x
theorem wMs_mem {l : List MailD} {m : MailD} (h : m ∈ l) : 3 + m.text.length ≤ wMs l := by
  rw [wMs, wts_sum]; exact sum_mem wtMail h
theorem wXs_mem {l : List BoxD} {b : BoxD} (h : b ∈ l) : wtBox b ≤ wXs l := by
  rw [wXs, wts_sum]; exact sum_mem wtBox h

end Go.Proofs.Ytjdcjhboipileab

/- What markGoneS of package laws does. -/
namespace Go.Proofs.Ytjdcjhboipileab
open Go.RowKit
set_option maxRecDepth 100000
set_option linter.unusedVariables false

/-- An element is written anew, cell by cell. -/
theorem Ow.put {α : Type} {t : TypeId} {sz : Nat} {E : World → List Value → α → (Nat → Prop) → Prop} {w : World} {S : Nat → Prop} {v : Value} {l : List α} (hE : Frames E) (h : Ow t sz E w S v l) (i : Nat) (x : α) (hx : l[i]? = some x) :
    ∃ (g cap : Nat) (c : List Value) (f : Nat → Prop), v = .slice (some ⟨g, 0, none⟩) l.length cap ∧ l.length ≤ cap ∧ cap ≤ maxLen ∧ g < w.heap.size ∧ S g ∧ E w c x f ∧ c.length = sz ∧ (∀ b, f b → S b ∧ b ≠ g) ∧
      (∀ j u, c[j]? = some u → w.cell? ⟨g, i * sz + j, none⟩ = some u) ∧ (∀ j, w.frozen? ⟨g, j, none⟩ = false) ∧ (∃ cur, w.heap[g]? = some (.cells cur t (0, 0)) ∧ i * sz + sz ≤ cur.size) ∧
      ∀ (c' : List Value) (x' : α), c'.length = sz → (∀ w', (∀ b, f b → b < w.heap.size → w'.heap[b]? = w.heap[b]?) → E w' c' x' f) → Ow t sz E (put w g (i * sz) c') S v (l.set i x') ∧ Wr S w (put w g (i * sz) c') := by
  obtain ⟨g, cap, cur, c, f, hv, h1, h2, hh, h3, h4, h5, h6, h7, h8, h9⟩ := h.upd hE i x hx
  refine ⟨g, cap, c, f, hv, h1, h2, lt_of_heap hh, h4, h5, h6, h8, fun j u hu => ?_, fun j => frozen_of_row w g j cur t hh, ⟨cur, hh, h3⟩, fun c' x' hc he => ?_⟩
  · rw [cell_of_row w g _ cur t (0, 0) hh]
    exact h7 j u hu
  · obtain ⟨cur', e1, e2, e3, e4, e5⟩ := put_spec g t c' w (i * sz) cur hh (by omega)
    refine ⟨h9 _ cur' c' x' e1 e2 e3 (fun m hm => e4 m (by omega)) hc (fun b hb hne _ hlt => e5.block b hlt (by omega)) (he _ fun b hb hlt => e5.block b hlt (by have := (h8 b hb).2; omega)), Wr.put h4 _ _ t cur hh (by omega)⟩

set_option maxHeartbeats 1000000 in
theorem markGoneS_o (S : Nat → Prop) (v : Value) (l : List GoneD) (k : Int) (w : World) (hv : GonesO w S v l) (hl : l.length ≤ 2000000) (hk0 : 0 ≤ k) (hk1 : k ≤ 100000000000) :
    Calls Try.prog 41 #[v, .int .i64 k] w fun e w' => e = .returned (.int .i64 (k + wGs l)) ∧ GonesO w' S v (mkGones k l) ∧ Wr S w w' := by
  have HV : Hid (GonesO w S v l) := hv
  obtain ⟨a, cap, rfl, hlc, hcm⟩ := (hv.rd fun _ _ _ _ h => h : GonesV w v l).form
  clear hv
  have hw := wGs_eq l
  have hlen : (mkGones k l).length = l.length := length_mks
  go_enter Try.func41, Try.ntmps41
  go_wp2
  go_loopw [1, 5] (fun q i wr => ∃ j : Nat, j ≤ l.length ∧ i = .int .i64 j ∧ q = .int .i64 (k + (pre (wtAt zGone wtGone l) j : Nat)) ∧ Hid (GonesO wr S (.slice a l.length cap) (mix (mkGones k l) l j)) ∧ Hid (Wr S w wr)) (fun _ i _ => l.length - (intOf i).toNat)
  case atStart => exact ⟨0, Nat.zero_le _, rfl, by simp [pre], by rw [mix_zero]; exact HV, Wr.refl _ _⟩
  case round =>
    obtain ⟨j, hj, rfl, rfl, hO, hW⟩ := hrel
    by_cases hlt : j < l.length
    · obtain ⟨x, hx⟩ : ∃ x, l[j]? = some x := ⟨l[j], List.getElem?_eq_getElem hlt⟩
      obtain ⟨g, cap', c, f, hv', -, -, hgl, hS, ⟨rfl, -, -⟩, -, -, hc, fz, -, hput⟩ := hO.out.put framesGone j x ((mix_get hlen hlt).trans hx)
      simp only [Value.slice.injEq] at hv'
      obtain ⟨rfl, -, rfl⟩ := hv'
      have hpj : pre (wtAt zGone wtGone l) j ≤ wGs l := pre_le (Nat.le_of_lt hlt)
      have hp1 : pre (wtAt zGone wtGone l) (j + 1) = pre (wtAt zGone wtGone l) j + 2 := pre_step hx
      have hn := mks_get (z := zGone) (mk := mkGone) (wt := wtGone) (k := k) hx
      generalize pre (wtAt zGone wtGone l) j = P at hpj hp1 hn
      have hP : (P : Int) ≤ 4000000 := by omega
      have d0 := hc 0 _ rfl
      have d1 := hc 1 _ rfl
      simp only [Nat.add_zero] at d0
      have HS : Hid (GonesO (put wr g (j * 2) [.int .i64 (k + P), .int .i64 (k + P + 1)]) S (.slice (some ⟨g, 0, none⟩) l.length cap) (mix (mkGones k l) l (j + 1)) ∧ Wr S w (put wr g (j * 2) [.int .i64 (k + P), .int .i64 (k + P + 1)])) := by
        obtain ⟨h1, h2⟩ := hput [.int .i64 (k + P), .int .i64 (k + P + 1)] (mkGone x (k + P)) rfl (fun w' _ => ⟨rfl, by constructor <;> simp only [mkGone] <;> omega, by constructor <;> simp only [mkGone] <;> omega⟩)
        rw [mix_set hlen hn] at h1
        exact ⟨h1, hW.out.trans h2⟩
      clear hput hc hn hO hW hx hw
      go_wp2
      go_roundw
      case rel => exact ⟨j + 1, by omega, by go_num, by rw [hp1]; go_num, HS.out.1, HS.out.2⟩
      case measure => simp [intOf]; omega
    · go_wp2
      go_ret
      obtain rfl : j = l.length := by omega
      exact ⟨rfl, by rw [← mix_all hlen]; exact hO.out, hW.out⟩

end Go.Proofs.Ytjdcjhboipileab

/- What markMailS of package laws does. -/
namespace Go.Proofs.Ytjdcjhboipileab
open Go.RowKit
set_option maxRecDepth 100000
set_option linter.unusedVariables false

set_option maxHeartbeats 1000000 in
theorem markMailS_o (S : Nat → Prop) (v : Value) (l : List MailD) (k : Int) (w : World) (hv : MailsO w S v l) (hs : szM l ≤ 2000000) (hk0 : 0 ≤ k) (hk1 : k ≤ 100000000000) :
    Calls Try.prog 40 #[v, .int .i64 k] w fun e w' => e = .returned (.int .i64 (k + wMs l)) ∧ MailsO w' S v (mkMails k l) ∧ Wr S w w' := by
  have HV : Hid (MailsO w S v l) := hv
  obtain ⟨a, cap, rfl, hlc, hcm⟩ := (hv.rd fun _ _ _ _ => MailE.rd : MailsV w v l).form
  clear hv
  have hl : l.length ≤ 2000000 := Nat.le_trans (szM_len l) hs
  have hb : wMs l ≤ 6000000 := by have := wMs_le l; omega
  have hlen : (mkMails k l).length = l.length := length_mks
  go_enter Try.func40, Try.ntmps40
  go_wp2
  go_loopw [1, 5] (fun q i wr => ∃ j : Nat, j ≤ l.length ∧ i = .int .i64 j ∧ q = .int .i64 (k + (pre (wtAt zMail wtMail l) j : Nat)) ∧ Hid (MailsO wr S (.slice a l.length cap) (mix (mkMails k l) l j)) ∧ Hid (Wr S w wr)) (fun _ i _ => l.length - (intOf i).toNat)
  case atStart => exact ⟨0, Nat.zero_le _, rfl, by simp [pre], by rw [mix_zero]; exact HV, Wr.refl _ _⟩
  case round =>
    obtain ⟨j, hj, rfl, rfl, hO, hW⟩ := hrel
    by_cases hlt : j < l.length
    · obtain ⟨x, hx⟩ : ∃ x, l[j]? = some x := ⟨l[j], List.getElem?_eq_getElem hlt⟩
      obtain ⟨g, cap', cur, c, f, hv', -, -, hh, hroom, hS, ⟨u, rfl, hu, -, -, -⟩, -, hcs, hf, hupd⟩ := hO.out.upd framesMail j x ((mix_get hlen hlt).trans hx)
      simp only [Value.slice.injEq] at hv'
      obtain ⟨rfl, -, rfl⟩ := hv'
      have hp1 : pre (wtAt zMail wtMail l) (j + 1) = pre (wtAt zMail wtMail l) j + (3 + x.text.length) := pre_step hx
      have hpj : pre (wtAt zMail wtMail l) (j + 1) ≤ wMs l := pre_le hlt
      have hn := mks_get (z := zMail) (mk := mkMail) (wt := wtMail) (k := k) hx
      generalize pre (wtAt zMail wtMail l) j = P at hpj hp1 hn
      have hP : (P : Int) ≤ 6000000 := by omega
      have hxt : x.text.length ≤ 2000000 := by have := szM_mem (List.mem_of_getElem? hx); omega
      have d0 := (cell_of_row wr g (j * 4) cur _ (0, 0) hh).trans (hcs 0 _ rfl)
      have d1 := (cell_of_row wr g (j * 4 + 1) cur _ (0, 0) hh).trans (hcs 1 _ rfl)
      have d2 := (cell_of_row wr g (j * 4 + 2) cur _ (0, 0) hh).trans (hcs 2 _ rfl)
      have fz : ∀ i, wr.frozen? ⟨g, i, none⟩ = false := fun i => frozen_of_row wr g i cur _ hh
      have hgl := lt_of_heap hh
      obtain ⟨ua, un, uc, rfl⟩ := hu.bs.form3
      obtain ⟨cur1, e1, e2, e3, e4, e5⟩ := put_spec g _ [.int .i64 (k + P), .int .i64 (k + P + 1), .int .i64 (k + P + 1 + 1)] wr (j * 4) cur hh (by simp; omega)
      have d3 : (((wr.setCell ⟨g, j * 4, none⟩ (.int .i64 (k + P))).setCell ⟨g, j * 4 + 1, none⟩ (.int .i64 (k + P + 1))).setCell ⟨g, j * 4 + 2, none⟩ (.int .i64 (k + P + 1 + 1))).cell? ⟨g, j * 4 + 3, none⟩ = some (.slice ua un uc) := (cell_of_row _ g (j * 4 + 3) cur1 _ (0, 0) e1).trans ((e4 (j * 4 + 3) (.inr (by simp))).trans (hcs 3 _ rfl))
      have HU : Hid (RO (put wr g (j * 4) [.int .i64 (k + P), .int .i64 (k + P + 1), .int .i64 (k + P + 1 + 1)]) f (.slice ua un uc) x.text) := hu.frame fun b hb hlt => e5.block b hlt (by have := (hf b hb).2; omega)
      have HS : Hid (∀ w', Wr f (put wr g (j * 4) [.int .i64 (k + P), .int .i64 (k + P + 1), .int .i64 (k + P + 1 + 1)]) w' → RO w' f (.slice ua un uc) (marks (k + P + 1 + 1 + 1) x.text.length) → MailsO w' S (.slice (some ⟨g, 0, none⟩) l.length cap) (mix (mkMails k l) l (j + 1)) ∧ Wr S w w') := by
        intro w' hw' hr
        have hsz := e5.size
        have hg' : w'.heap[g]? = _ := (hw'.block g (by omega) fun h => (hf g h).2 rfl).trans e1
        have hE : MailE w' [.int .i64 (k + P), .int .i64 (k + P + 1), .int .i64 (k + P + 1 + 1), .slice ua un uc] (mkMail x (k + P)) f := by
          refine ⟨.slice ua un uc, ?_, ?_, ?_, ?_, ?_⟩
          · simp only [mkMail]; rw [show k + P + 1 + 1 = k + (P : Int) + 2 by omega]
          · simp only [mkMail]; rw [show k + (P : Int) + 3 = k + P + 1 + 1 + 1 by omega]; exact hr
          all_goals (constructor <;> simp only [mkMail] <;> omega)
        have h1 := hupd w' cur1 _ (mkMail x (k + P)) hg' e2 (fun i u hi => ?_) (fun m hm => e4 m (by simp; omega)) rfl (fun b hb hne hnf hlt => (hw'.block b (by omega) hnf).trans (e5.block b hlt (by omega))) hE
        · rw [mix_set hlen hn] at h1
          refine ⟨h1, hW.out.trans ⟨hw'.os.trans e5.os, hw'.tape.trans e5.tape, hw'.output.trans e5.output, Nat.le_trans hsz hw'.size, fun b hb hns => ?_⟩⟩
          have hbg : b ≠ g := fun e => hns (e ▸ hS)
          exact (hw'.block b (by omega) fun h => hns (hf b h).1).trans (e5.block b hb (by omega))
        · match i, hi with
          | 0, hi => exact e3 0 u (by simpa using hi)
          | 1, hi => exact e3 1 u (by simpa using hi)
          | 2, hi => exact e3 2 u (by simpa using hi)
          | 3, hi => exact (e4 (j * 4 + 3) (.inr (by simp))).trans (hcs 3 u (by simpa using hi))
      clear hupd hcs hn hO hW hx e1 e2 e3 e4 e5 hu hh hroom hf
      go_wp2_with fail
      refine (markByteS_o f _ x.text _ _ HU.out hxt (by omega) (by omega)).mono ?_
      rintro e w2 ⟨rfl, R, W2⟩
      have HS2 := HS.out w2 W2 R
      have HM : Hid (MailsO w2 S (.slice (some ⟨g, 0, none⟩) l.length cap) (mix (mkMails k l) l (j + 1))) := HS2.1
      have HW : Hid (Wr S w w2) := HS2.2
      clear HS HS2 R W2 HU d0 d1 d2 d3 fz
      go_wp2
      go_roundw
      case rel => exact ⟨j + 1, by omega, by go_num, by rw [hp1]; go_num, HM, HW⟩
      case measure => simp [intOf]; omega
    · go_wp2
      go_ret
      obtain rfl : j = l.length := by omega
      exact ⟨rfl, by rw [← mix_all hlen]; exact hO.out, hW.out⟩

end Go.Proofs.Ytjdcjhboipileab

/- What markBoxS of package laws does. -/
namespace Go.Proofs.Ytjdcjhboipileab
open Go.RowKit
set_option maxRecDepth 100000
set_option linter.unusedVariables false

theorem ne_out {b g : Nat} (h : b ≠ g) : ¬ (g ≤ b ∧ b < g + 1) := by omega

set_option maxRecDepth 100000 in
set_option maxHeartbeats 4000000 in
theorem markBoxS_o (S : Nat → Prop) (v : Value) (l : List BoxD) (k : Int) (w : World) (hv : BoxesO w S v l) (hs : szXs l ≤ 2000000) (hk0 : 0 ≤ k) (hk1 : k ≤ 10000000000) :
    Calls Try.prog 24 #[v, .int .i64 k] w fun e w' => e = .returned (.int .i64 (k + wXs l)) ∧ BoxesO w' S v (mkBoxes k l) ∧ Wr S w w' := by
  have HV : Hid (BoxesO w S v l) := hv
  obtain ⟨a, cap, rfl, hlc, hcm⟩ := (hv.rd fun _ _ _ _ => BoxE.rd : BoxesV w v l).form
  clear hv
  have hl : l.length ≤ 2000000 := Nat.le_trans (szXs_len l) hs
  have hb : wXs l ≤ 8000000 := by have := wXs_le l; omega
  have hlen : (mkBoxes k l).length = l.length := length_mks
  go_enter Try.func24, Try.ntmps24
  go_wp2
  go_loopw [1, 5] (fun q i wr => ∃ j : Nat, j ≤ l.length ∧ i = .int .i64 j ∧ q = .int .i64 (k + (pre (wtAt zBox wtBox l) j : Nat)) ∧ Hid (BoxesO wr S (.slice a l.length cap) (mix (mkBoxes k l) l j)) ∧ Hid (Wr S w wr)) (fun _ i _ => l.length - (intOf i).toNat)
  case atStart => exact ⟨0, Nat.zero_le _, rfl, by simp [pre], by rw [mix_zero]; exact HV, Wr.refl _ _⟩
  case round =>
    obtain ⟨j, hj, rfl, rfl, hO, hW⟩ := hrel
    by_cases hlt : j < l.length
    · obtain ⟨x, hx⟩ : ∃ x, l[j]? = some x := ⟨l[j], List.getElem?_eq_getElem hlt⟩
      obtain ⟨g, cap', cur, c, f, hv', -, -, hh, hroom, hS, ⟨u0, u1, u2, S0, S1, S2, rfl, h0, h1, h2, s0, s1, s2, -⟩, -, hcs, hf, hupd⟩ := hO.out.upd framesBox j x ((mix_get hlen hlt).trans hx)
      simp only [Value.slice.injEq] at hv'
      obtain ⟨rfl, -, rfl⟩ := hv'
      have hp1 : pre (wtAt zBox wtBox l) (j + 1) = pre (wtAt zBox wtBox l) j + wtBox x := pre_step hx
      have hpj : pre (wtAt zBox wtBox l) (j + 1) ≤ wXs l := pre_le hlt
      have hn := mks_get (z := zBox) (mk := mkBox) (wt := wtBox) (k := k) hx
      generalize pre (wtAt zBox wtBox l) j = P at hpj hp1 hn
      have hxs := szXs_mem (List.mem_of_getElem? hx)
      have hx0 : x.name.length ≤ 2000000 := by simp only [szX] at hxs; omega
      have hx1 : szM x.mails ≤ 2000000 := by simp only [szX] at hxs; omega
      have hx2 : x.gones.length ≤ 2000000 := by simp only [szX] at hxs; omega
      have hwt : wtBox x = x.name.length + 3 + wMs x.mails + wGs x.gones + 1 := rfl
      have hP : (P : Int) ≤ 8000000 := by omega
      have hPn : (x.name.length : Int) ≤ 8000000 := by omega
      have hPm : (wMs x.mails : Int) ≤ 8000000 := by omega
      have hPg : (wGs x.gones : Int) ≤ 8000000 := by omega
      obtain ⟨a0, n0, c0, rfl⟩ := h0.bs.form3
      obtain ⟨a1, c1, rfl, -⟩ := (h1.rd fun _ _ _ _ => MailE.rd : MailsV _ _ _).form
      obtain ⟨a2, c2, rfl, -⟩ := (h2.rd fun _ _ _ _ h => h : GonesV _ _ _).form
      have hgl := lt_of_heap hh
      have hg0 : ¬ S0 g := fun h => (hf g (s0 g h).1).2 rfl
      have hg1 : ¬ S1 g := fun h => (hf g (s1 g h).1).2 rfl
      have hg2 : ¬ S2 g := fun h => (hf g (s2 g h)).2 rfl
      have HH : Hid (wr.heap[g]? = some (.cells cur 49 (0, 0))) := hh
      have H0 : Hid (RO wr S0 (.slice a0 n0 c0) x.name) := h0
      have H1 : Hid (MailsO wr S1 (.slice a1 x.mails.length c1) x.mails) := h1
      have H2 : Hid (GonesO wr S2 (.slice a2 x.gones.length c2) x.gones) := h2
      have d0 := (cell_of_row wr g (j * 7) cur _ (0, 0) hh).trans (hcs 0 _ rfl)
      have HS0 : Hid ((∀ y, S0 y → f y ∧ ¬ S1 y ∧ ¬ S2 y) ∧ (∀ y, S1 y → f y ∧ ¬ S2 y) ∧ (∀ y, S2 y → f y)) := ⟨s0, s1, s2⟩
      have HF : Hid (∀ b, f b → S b ∧ b ≠ g) := hf
      have HC : Hid (∀ i u, [Value.slice a0 n0 c0, .int .i64 x.valid, .int .i64 x.next, .int .i64 x.seq, .slice a1 x.mails.length c1, .slice a2 x.gones.length c2, .int .i64 x.lost][i]? = some u → cur[j * 7 + i]? = some u) := hcs
      have HN : Hid ((mix (mkBoxes k l) l j).set j (mkBox x (k + P)) = mix (mkBoxes k l) l (j + 1)) := mix_set hlen hn
      have HUP := (show Hid _ from hupd)
      clear hupd hcs hn hO h0 h1 h2 s0 s1 s2 hf hh hx hxs
      go_wp2_with fail
      refine (markByteS_o S0 _ x.name _ _ H0.out hx0 (by omega) (by omega)).mono ?_
      rintro e w1 ⟨rfl, R1, W1⟩
      have hs1 := W1.size
      have hh1 : w1.heap[g]? = some (.cells cur 49 (0, 0)) := (W1.block g hgl hg0).trans HH.out
      have fz : ∀ i, w1.frozen? ⟨g, i, none⟩ = false := fun i => frozen_of_row w1 g i cur _ hh1
      clear d0
      have d1 := (cell_of_row w1 g (j * 7 + 1) cur _ (0, 0) hh1).trans (HC.out 1 _ rfl)
      have d2 := (cell_of_row w1 g (j * 7 + 2) cur _ (0, 0) hh1).trans (HC.out 2 _ rfl)
      have d3 := (cell_of_row w1 g (j * 7 + 3) cur _ (0, 0) hh1).trans (HC.out 3 _ rfl)
      obtain ⟨cur1, e1, e2, e3, e4, e5⟩ := put_spec g _ [.int .i64 (k + P + x.name.length), .int .i64 (k + P + x.name.length + 1), .int .i64 (k + P + x.name.length + 1 + 1)] w1 (j * 7 + 1) cur hh1 (by simp; omega)
      have d4 : (((w1.setCell ⟨g, j * 7 + 1, none⟩ (.int .i64 (k + P + x.name.length))).setCell ⟨g, j * 7 + 2, none⟩ (.int .i64 (k + P + x.name.length + 1))).setCell ⟨g, j * 7 + 3, none⟩ (.int .i64 (k + P + x.name.length + 1 + 1))).cell? ⟨g, j * 7 + 4, none⟩ = some (.slice a1 x.mails.length c1) := (cell_of_row _ g (j * 7 + 4) cur1 _ (0, 0) e1).trans ((e4 (j * 7 + 4) (.inr (by simp))).trans (HC.out 4 _ rfl))
      have hsp := e5.size
      have HB1 : Hid (∀ b, b ≠ g → ¬ S0 b → b < wr.heap.size → (put w1 g (j * 7 + 1) [.int .i64 (k + P + x.name.length), .int .i64 (k + P + x.name.length + 1), .int .i64 (k + P + x.name.length + 1 + 1)]).heap[b]? = wr.heap[b]?) := fun b hb h0 hlt => (e5.block b (by omega) (by omega)).trans (W1.block b hlt h0)
      have H1' : Hid (MailsO (put w1 g (j * 7 + 1) [.int .i64 (k + P + x.name.length), .int .i64 (k + P + x.name.length + 1), .int .i64 (k + P + x.name.length + 1 + 1)]) S1 (.slice a1 x.mails.length c1) x.mails) :=
        H1.out.frame framesMail fun b hb hlt => HB1.out b (fun e => hg1 (e ▸ hb)) (fun h => (HS0.out.1 b h).2.1 hb) hlt
      have H2' : Hid (GonesO (put w1 g (j * 7 + 1) [.int .i64 (k + P + x.name.length), .int .i64 (k + P + x.name.length + 1), .int .i64 (k + P + x.name.length + 1 + 1)]) S2 (.slice a2 x.gones.length c2) x.gones) :=
        H2.out.frame framesGone fun b hb hlt => HB1.out b (fun e => hg2 (e ▸ hb)) (fun h => (HS0.out.1 b h).2.2 hb) hlt
      have H0' : Hid (RO (put w1 g (j * 7 + 1) [.int .i64 (k + P + x.name.length), .int .i64 (k + P + x.name.length + 1), .int .i64 (k + P + x.name.length + 1 + 1)]) S0 (.slice a0 n0 c0) (marks (k + P) x.name.length)) :=
        R1.frame fun b hb hlt => e5.block b hlt (ne_out fun e => hg0 (e ▸ hb))
      have HO1 : Hid ((put w1 g (j * 7 + 1) [.int .i64 (k + P + x.name.length), .int .i64 (k + P + x.name.length + 1), .int .i64 (k + P + x.name.length + 1 + 1)]).os = wr.os ∧ (put w1 g (j * 7 + 1) [.int .i64 (k + P + x.name.length), .int .i64 (k + P + x.name.length + 1), .int .i64 (k + P + x.name.length + 1 + 1)]).tape = wr.tape ∧ (put w1 g (j * 7 + 1) [.int .i64 (k + P + x.name.length), .int .i64 (k + P + x.name.length + 1), .int .i64 (k + P + x.name.length + 1 + 1)]).output = wr.output) := ⟨e5.os.trans W1.os, e5.tape.trans W1.tape, e5.output.trans W1.output⟩
      have E1 : Hid ((put w1 g (j * 7 + 1) [.int .i64 (k + P + x.name.length), .int .i64 (k + P + x.name.length + 1), .int .i64 (k + P + x.name.length + 1 + 1)]).heap[g]? = some (.cells cur1 49 (0, 0))) := e1
      have E2 : Hid (cur1.size = cur.size ∧ (∀ i u, [Value.int .i64 (k + P + x.name.length), .int .i64 (k + P + x.name.length + 1), .int .i64 (k + P + x.name.length + 1 + 1)][i]? = some u → cur1[j * 7 + 1 + i]? = some u) ∧ (∀ m, m < j * 7 + 1 ∨ j * 7 + 4 ≤ m → cur1[m]? = cur[m]?)) := ⟨e2, e3, fun m hm => e4 m (by simp; omega)⟩
      clear e1 e2 e3 e4 e5 R1 W1 hh1 HH H0 H1 H2
      go_wp2_with fail
      refine (markMailS_o S1 _ x.mails _ _ H1'.out hx1 (by omega) (by omega)).mono ?_
      rintro e w2 ⟨rfl, R2, W2⟩
      have hs2 := W2.size
      have E1' : Hid (w2.heap[g]? = some (.cells cur1 49 (0, 0))) := (W2.block g (by omega) hg1).trans E1.out
      have HB2 : Hid (∀ b, b ≠ g → ¬ S0 b → ¬ S1 b → b < wr.heap.size → w2.heap[b]? = wr.heap[b]?) := fun b hb h0 h1 hlt => (W2.block b (by omega) h1).trans (HB1.out b hb h0 hlt)
      have G2 : Hid (GonesO w2 S2 (.slice a2 x.gones.length c2) x.gones) := H2'.out.frame framesGone fun b hb hlt => W2.block b hlt fun h => (HS0.out.2.1 b h).2 hb
      have G0 : Hid (RO w2 S0 (.slice a0 n0 c0) (marks (k + P) x.name.length)) := H0'.out.frame fun b hb hlt => W2.block b hlt fun h => (HS0.out.1 b hb).2.1 h
      have G1 : Hid (MailsO w2 S1 (.slice a1 x.mails.length c1) (mkMails (k + P + x.name.length + 1 + 1 + 1) x.mails)) := R2
      have HO2 : Hid (w2.os = wr.os ∧ w2.tape = wr.tape ∧ w2.output = wr.output) := ⟨W2.os.trans HO1.out.1, W2.tape.trans HO1.out.2.1, W2.output.trans HO1.out.2.2⟩
      have d5 := (cell_of_row w2 g (j * 7 + 5) cur1 _ (0, 0) E1'.out).trans ((E2.out.2.2 (j * 7 + 5) (.inr (by omega))).trans (HC.out 5 _ rfl))
      have hgl2 : g < w2.heap.size := by omega
      have hsz2 : wr.heap.size ≤ w2.heap.size := by omega
      clear d1 d2 d3 d4 fz R2 W2 H1' H2' H0' HB1 HO1 E1 hs1 hs2 hsp
      go_wp2_with fail
      refine (markGoneS_o S2 _ x.gones _ _ G2.out hx2 (by omega) (by omega)).mono ?_
      rintro e w3 ⟨rfl, R3, W3⟩
      have hs3 := W3.size
      have E3 : w3.heap[g]? = some (.cells cur1 49 (0, 0)) := (W3.block g hgl2 hg2).trans E1'.out
      have fz : ∀ i, w3.frozen? ⟨g, i, none⟩ = false := fun i => frozen_of_row w3 g i cur1 _ E3
      have d6 := (cell_of_row w3 g (j * 7 + 6) cur1 _ (0, 0) E3).trans ((E2.out.2.2 (j * 7 + 6) (.inr (by omega))).trans (HC.out 6 _ rfl))
      have hgl3 : g < w3.heap.size := by omega
      have HFIN : Hid (BoxesO (put w3 g (j * 7 + 6) [.int .i64 (k + P + x.name.length + 1 + 1 + 1 + wMs x.mails + wGs x.gones)]) S (.slice (some ⟨g, 0, none⟩) l.length cap) (mix (mkBoxes k l) l (j + 1)) ∧ Wr S w (put w3 g (j * 7 + 6) [.int .i64 (k + P + x.name.length + 1 + 1 + 1 + wMs x.mails + wGs x.gones)])) := by
        obtain ⟨cur2, p1, p2, p3, p4, p5⟩ := put_spec g _ [.int .i64 (k + P + x.name.length + 1 + 1 + 1 + wMs x.mails + wGs x.gones)] w3 (j * 7 + 6) cur1 E3 (by have := E2.out.1; simp; omega)
        have hsp := p5.size
        have hB : ∀ b, b ≠ g → ¬ S0 b → ¬ S1 b → ¬ S2 b → b < wr.heap.size → (put w3 g (j * 7 + 6) [.int .i64 (k + P + x.name.length + 1 + 1 + 1 + wMs x.mails + wGs x.gones)]).heap[b]? = wr.heap[b]? := fun b hb h0 h1 h2 hlt => (p5.block b (by omega) (by omega)).trans ((W3.block b (by omega) h2).trans (HB2.out b hb h0 h1 hlt))
        have hE : BoxE (put w3 g (j * 7 + 6) [.int .i64 (k + P + x.name.length + 1 + 1 + 1 + wMs x.mails + wGs x.gones)]) [Value.slice a0 n0 c0, .int .i64 (k + P + x.name.length), .int .i64 (k + P + x.name.length + 1), .int .i64 (k + P + x.name.length + 1 + 1), .slice a1 x.mails.length c1, .slice a2 x.gones.length c2, .int .i64 (k + P + x.name.length + 1 + 1 + 1 + wMs x.mails + wGs x.gones)] (mkBox x (k + P)) f := by
          refine ⟨.slice a0 n0 c0, .slice a1 x.mails.length c1, .slice a2 x.gones.length c2, S0, S1, S2, ?_, ?_, ?_, ?_, HS0.out.1, HS0.out.2.1, HS0.out.2.2, ?_, ?_, ?_, ?_⟩
          · simp only [mkBox]
            rw [show k + P + x.name.length + 1 + 1 + 1 = k + (P : Int) + x.name.length + 3 by omega, show k + P + x.name.length + 1 + 1 = k + (P : Int) + x.name.length + 2 by omega]
          · exact G0.out.frame fun b hb hlt => (p5.block b (by omega) (ne_out fun e => hg0 (e ▸ hb))).trans (W3.block b hlt (HS0.out.1 b hb).2.2)
          · simp only [mkBox]
            rw [show k + (P : Int) + x.name.length + 3 = k + P + x.name.length + 1 + 1 + 1 by omega]
            exact G1.out.frame framesMail fun b hb hlt => (p5.block b (by omega) (ne_out fun e => hg1 (e ▸ hb))).trans (W3.block b hlt (HS0.out.2.1 b hb).2)
          · simp only [mkBox]
            rw [show k + (P : Int) + x.name.length + 3 = k + P + x.name.length + 1 + 1 + 1 by omega]
            exact R3.frame framesGone fun b hb hlt => p5.block b hlt (ne_out fun e => hg2 (e ▸ hb))
          all_goals (constructor <;> simp only [mkBox] <;> omega)
        have hfin := HUP.out _ cur2 _ (mkBox x (k + P)) p1 (p2.trans E2.out.1) (fun i u hi => ?_) (fun m hm => (p4 m (by simp; omega)).trans (E2.out.2.2 m (by omega))) rfl (fun b hb hne hnf hlt => hB b hne (fun h => hnf (HS0.out.1 b h).1) (fun h => hnf (HS0.out.2.1 b h).1) (fun h => hnf (HS0.out.2.2 b h)) hlt) hE
        · rw [HN.out] at hfin
          refine ⟨hfin, hW.out.trans ⟨?_, ?_, ?_, by omega, fun b hb hns => hB b (fun e => hns (e ▸ hS)) (fun h => hns (HF.out b (HS0.out.1 b h).1).1) (fun h => hns (HF.out b (HS0.out.2.1 b h).1).1) (fun h => hns (HF.out b (HS0.out.2.2 b h)).1) hb⟩⟩
          · exact p5.os.trans (W3.os.trans HO2.out.1)
          · exact p5.tape.trans (W3.tape.trans HO2.out.2.1)
          · exact p5.output.trans (W3.output.trans HO2.out.2.2)
        · match i, hi with
          | 0, hi => exact (p4 (j * 7 + 0) (.inl (by omega))).trans ((E2.out.2.2 _ (.inl (by omega))).trans (HC.out 0 u (by simpa using hi)))
          | 1, hi => exact (p4 (j * 7 + 1) (.inl (by omega))).trans (E2.out.2.1 0 u (by simpa using hi))
          | 2, hi => exact (p4 (j * 7 + 2) (.inl (by omega))).trans (E2.out.2.1 1 u (by simpa using hi))
          | 3, hi => exact (p4 (j * 7 + 3) (.inl (by omega))).trans (E2.out.2.1 2 u (by simpa using hi))
          | 4, hi => exact (p4 (j * 7 + 4) (.inl (by omega))).trans ((E2.out.2.2 _ (.inr (by omega))).trans (HC.out 4 u (by simpa using hi)))
          | 5, hi => exact (p4 (j * 7 + 5) (.inl (by omega))).trans ((E2.out.2.2 _ (.inr (by omega))).trans (HC.out 5 u (by simpa using hi)))
          | 6, hi => exact p3 0 u (by simpa using hi)
      clear HUP HN HC HF HS0 G0 G1 G2 E1' E2 HO2 HB2 R3 W3 E3 hW hs3 hsz2 d5
      go_wp2
      go_roundw
      case rel => exact ⟨j + 1, by omega, by go_num, by rw [hp1, hwt]; go_num, HFIN.out.1, HFIN.out.2⟩
      case measure => simp [intOf]; omega
    · go_wp2
      go_ret
      obtain rfl : j = l.length := by omega
      exact ⟨rfl, by rw [← mix_all hlen]; exact hO.out, hW.out⟩

end Go.Proofs.Ytjdcjhboipileab

/- What markIntS of package laws does. -/
namespace Go.Proofs.Ytjdcjhboipileab
open Go.RowKit
set_option maxRecDepth 100000
set_option linter.unusedVariables false

set_option maxHeartbeats 1000000 in
theorem markIntS_o (S : Nat → Prop) (v : Value) (l : List Int) (k : Int) (w : World) (hv : IntsO w S v l) (hl : l.length ≤ 2000000) (hk0 : 0 ≤ k) (hk1 : k ≤ 100000000000) :
    Calls Try.prog 25 #[v, .int .i64 k] w fun e w' => e = .returned (.int .i64 (k + wIs l)) ∧ IntsO w' S v (mkInts k l) ∧ Wr S w w' := by
  have HV : Hid (IntsO w S v l) := hv
  obtain ⟨a, cap, rfl, hlc, hcm⟩ := (hv.rd fun _ _ _ _ h => h : IntsV w v l).form
  clear hv
  have hw := wIs_eq l
  have hlen : (mkInts k l).length = l.length := length_mks
  go_enter Try.func25, Try.ntmps25
  go_wp2
  go_loopw [1, 5] (fun q i wr => ∃ j : Nat, j ≤ l.length ∧ i = .int .i64 j ∧ q = .int .i64 (k + (pre (wtAt 0 wtInt l) j : Nat)) ∧ Hid (IntsO wr S (.slice a l.length cap) (mix (mkInts k l) l j)) ∧ Hid (Wr S w wr)) (fun _ i _ => l.length - (intOf i).toNat)
  case atStart => exact ⟨0, Nat.zero_le _, rfl, by simp [pre], by rw [mix_zero]; exact HV, Wr.refl _ _⟩
  case round =>
    obtain ⟨j, hj, rfl, rfl, hO, hW⟩ := hrel
    by_cases hlt : j < l.length
    · obtain ⟨x, hx⟩ : ∃ x, l[j]? = some x := ⟨l[j], List.getElem?_eq_getElem hlt⟩
      obtain ⟨g, cap', c, f, hv', -, -, hgl, hS, ⟨rfl, -⟩, -, -, hc, fz, -, hput⟩ := hO.out.put framesInt j x ((mix_get hlen hlt).trans hx)
      simp only [Value.slice.injEq] at hv'
      obtain ⟨rfl, -, rfl⟩ := hv'
      have hpj : pre (wtAt 0 wtInt l) j ≤ wIs l := pre_le (Nat.le_of_lt hlt)
      have hp1 : pre (wtAt 0 wtInt l) (j + 1) = pre (wtAt 0 wtInt l) j + 1 := pre_step hx
      have hn := mks_get (z := 0) (mk := mkInt) (wt := wtInt) (k := k) hx
      generalize pre (wtAt 0 wtInt l) j = P at hpj hp1 hn
      have hP : (P : Int) ≤ 4000000 := by omega
      have d0 := hc 0 _ rfl
      simp only [Nat.add_zero, Nat.mul_one] at d0 hput
      have HS : Hid (IntsO (put wr g j [.int .i64 (k + P)]) S (.slice (some ⟨g, 0, none⟩) l.length cap) (mix (mkInts k l) l (j + 1)) ∧ Wr S w (put wr g j [.int .i64 (k + P)])) := by
        obtain ⟨h1, h2⟩ := hput [.int .i64 (k + P)] (mkInt x (k + P)) rfl (fun w' _ => ⟨rfl, by constructor <;> simp only [mkInt] <;> omega⟩)
        rw [mix_set hlen hn] at h1
        exact ⟨h1, hW.out.trans h2⟩
      clear hput hc hn hO hW hx hw
      go_wp2
      go_roundw
      case rel => exact ⟨j + 1, by omega, by go_num, by rw [hp1]; go_num, HS.out.1, HS.out.2⟩
      case measure => simp [intOf]; omega
    · go_wp2
      go_ret
      obtain rfl : j = l.length := by omega
      exact ⟨rfl, by rw [← mix_all hlen]; exact hO.out, hW.out⟩

end Go.Proofs.Ytjdcjhboipileab

/- What markAccount of package laws does. -/
namespace Go.Proofs.Ytjdcjhboipileab
open Go.RowKit
set_option maxRecDepth 100000
set_option linter.unusedVariables false

def mkAcc (k : Int) (x : AccD) : AccD := ⟨x.valid, mkBoxes k x.boxes, mkInts (k + wXs x.boxes) x.seen⟩
def wAcc (x : AccD) : Nat := wXs x.boxes + wIs x.seen

set_option maxRecDepth 100000 in
set_option maxHeartbeats 1000000 in
theorem markAccount_o (S : Nat → Prop) (v : Value) (x : AccD) (k : Int) (w : World) (hv : AccO w S v x) (hS : ∀ b, S b → b < w.heap.size) (hs : szXs x.boxes ≤ 2000000) (hl : x.seen.length ≤ 2000000) (hk0 : 0 ≤ k) (hk1 : k ≤ 1000000000) :
    Calls Try.prog 10 #[v, .int .i64 k] w fun e w' => e = .returned (.int .i64 (k + wXs x.boxes + wIs x.seen)) ∧ AccO w' S v (mkAcc k x) ∧ Wr S w w' := by
  obtain ⟨u0, u1, S0, S1, rfl, h0, h1, d0, d1, i0⟩ := hv
  have hb : wXs x.boxes ≤ 8000000 := by have := wXs_le x.boxes; omega
  obtain ⟨a0, c0, rfl, -⟩ := (h0.rd fun _ _ _ _ => BoxE.rd : BoxesV _ _ _).form
  obtain ⟨a1, c1, rfl, -⟩ := (h1.rd fun _ _ _ _ h => h : IntsV _ _ _).form
  have n0 : ¬ S0 w.heap.size := fun h => by have := hS _ (d0 _ h).1; omega
  have n1 : ¬ S1 w.heap.size := fun h => by have := hS _ (d1 _ h); omega
  have AB : Below w.heap.size w (w.alloc (.cells #[.int .i64 x.valid, .slice a0 x.boxes.length c0, .slice a1 x.seen.length c1] 32)) := (Below.refl _ _).alloc (Nat.le_refl _) _
  have hsz : w.heap.size < (w.alloc (.cells #[.int .i64 x.valid, .slice a0 x.boxes.length c0, .slice a1 x.seen.length c1] 32)).heap.size := by simp
  have H0 : Hid (BoxesO (w.alloc (.cells #[.int .i64 x.valid, .slice a0 x.boxes.length c0, .slice a1 x.seen.length c1] 32)) S0 (.slice a0 x.boxes.length c0) x.boxes) := h0.below framesBox AB
  have H1 : Hid (IntsO (w.alloc (.cells #[.int .i64 x.valid, .slice a0 x.boxes.length c0, .slice a1 x.seen.length c1] 32)) S1 (.slice a1 x.seen.length c1) x.seen) := h1.below framesInt AB
  have HK : Hid ((w.alloc (.cells #[.int .i64 x.valid, .slice a0 x.boxes.length c0, .slice a1 x.seen.length c1] 32)).heap[w.heap.size]? = some (.cells #[.int .i64 x.valid, .slice a0 x.boxes.length c0, .slice a1 x.seen.length c1] 32)) := box_new w _
  have HAB : Hid (Below w.heap.size w (w.alloc (.cells #[.int .i64 x.valid, .slice a0 x.boxes.length c0, .slice a1 x.seen.length c1] 32))) := AB
  have HD : Hid ((∀ y, S0 y → S y ∧ ¬ S1 y) ∧ (∀ y, S1 y → S y)) := ⟨d0, d1⟩
  clear h0 h1 d0 d1 AB
  obtain ⟨f0, f1, f2⟩ := bx3 HK.out
  go_enter Try.func10, Try.ntmps10
  go_wp2_with fail
  refine (markBoxS_o S0 _ x.boxes k _ H0.out hs hk0 (by omega)).mono ?_
  rintro e w1 ⟨rfl, R1, W1⟩
  have s1 := W1.size
  have K1 : w1.heap[w.heap.size]? = _ := (W1.block _ hsz n0).trans HK.out
  have G1 : Hid (IntsO w1 S1 (.slice a1 x.seen.length c1) x.seen) := H1.out.frame framesInt fun b hb hlt => W1.block b hlt fun h => (HD.out.1 b h).2 hb
  have G0 : Hid (BoxesO w1 S0 (.slice a0 x.boxes.length c0) (mkBoxes k x.boxes)) := R1
  have HW1 : Hid (Wr S w w1) := (Wr.of_below HAB.out).trans (W1.mono fun b h => (HD.out.1 b h).1)
  clear f0 f1 f2 R1 H0 H1 HK W1 HAB
  obtain ⟨f0, f1, f2⟩ := bx3 K1
  have hlA := lt_of_heap K1
  clear K1
  go_wp2_with fail
  refine (markIntS_o S1 _ x.seen _ _ G1.out hl (by omega) (by omega)).mono ?_
  rintro e w2 ⟨rfl, R2, W2⟩
  have HF : Hid (AccO w2 S (.agg #[.int .i64 x.valid, .slice a0 x.boxes.length c0, .slice a1 x.seen.length c1]) (mkAcc k x) ∧ Wr S w w2) := by
    have g0 : BoxesO w2 S0 (.slice a0 x.boxes.length c0) (mkBoxes k x.boxes) := G0.out.frame framesBox fun b hb hlt => W2.block b hlt (HD.out.1 b hb).2
    exact ⟨⟨_, _, S0, S1, rfl, g0, R2, HD.out.1, HD.out.2, i0⟩, HW1.out.trans (W2.mono HD.out.2)⟩
  clear R2 W2 G0 G1 HW1 HD f0 f1 f2 hlA
  go_wp2
  go_ret
  exact ⟨rfl, HF.out.1, HF.out.2⟩

theorem markAccount_w (B T : Nat) (v : Value) (x : AccD) (k : Int) (w : World) (hv : AccO w (In B T) v x) (hT : T ≤ w.heap.size) (hs : szXs x.boxes ≤ 2000000) (hl : x.seen.length ≤ 2000000) (hk0 : 0 ≤ k) (hk1 : k ≤ 1000000000) :
    Calls Try.prog 10 #[v, .int .i64 k] w fun e w' => e = .returned (.int .i64 (k + wXs x.boxes + wIs x.seen)) ∧ AccO w' (In B T) v (mkAcc k x) ∧ Within B T w w' := by
  refine (markAccount_o (In B T) v x k w hv (fun b hb => Nat.lt_of_lt_of_le hb.2 hT) hs hl hk0 hk1).mono ?_
  rintro e w' ⟨rfl, R, W⟩
  exact ⟨rfl, R, W.within⟩

end Go.Proofs.Ytjdcjhboipileab

/- What PutNum of package spec does. -/
namespace Go.Proofs.Ytjdcjhboipileab
open Go.RowKit
set_option maxRecDepth 100000

set_option maxHeartbeats 400000 in
theorem specPutNum_any (v : Value) (l : List Int) (n : Int) (w : World) (hv : Bs w v l) (hl : l.length ≤ 2000000) (hn0 : -9223372036854775808 ≤ n) (hn1 : n ≤ 9223372036854775807) :
    Calls Try.prog 28 #[v, .int .i64 n] w fun e w' => ∃ u, e = .returned u ∧ OwnB w' w.heap.size u (putL l n) ∧ Below w.heap.size w w' := by
  have HV : Hid (∀ o, Bs (w.alloc o) v l) := fun o => hv.alloc o
  have HE : Hid (OwnB (w.alloc (.cells #[] 5)) w.heap.size (.slice (some ⟨w.heap.size, 0, none⟩) 0 0) []) := ownB_empty w _ (Nat.le_refl _)
  have HB : Hid (Below w.heap.size w (w.alloc (.cells #[] 5))) := (Below.refl _ _).alloc (Nat.le_refl _) _
  obtain ⟨i0, hi, hz0, hz1, hz2⟩ := info_parts info5
  clear hv
  by_cases hb : 0 ≤ n ∧ n ≤ 2147483647
  · obtain ⟨hb0, hb1⟩ := hb
    have hp : putL l n = l ++ enc 4 n := by simp [putL, hb0, hb1]
    have HP : Hid (putL l n = l ++ enc 4 n) := hp
    clear hp
    go_enter Try.func28, Try.ntmps28
    go_wp2_with (at_builtin; refine wpList_append_bytes rfl (.tmp 6) (.tmp 7) 27 rfl i0 Try.underlying27 hi hz0 hz1 hz2 w.heap.size _ [] rfl HE.out v l rfl (HV.out _) (by simp; omega) (by simp) w HB.out ?_)
    intro v1 w1 hO1 hB1 _
    have HO1 : Hid (OwnB w1 w.heap.size v1 l) := by simpa [Hid] using hO1
    clear hO1
    go_wp2_with fail
    go_loopw [1, 5] (fun t q wr => ∃ (f : Nat) (m : Int) (xs : List Int), 0 ≤ m ∧ m ≤ 2147483647 ∧ f ≤ 4 ∧ Hid (m < 128 * 128 ^ f) ∧ t = .int .i64 m ∧ Hid (OwnB wr w.heap.size q xs) ∧ Hid (xs ++ enc f m = l ++ enc 4 n) ∧ xs.length + f = l.length + 4 ∧ Below w.heap.size w wr) (fun t _ _ => (intOf t).toNat)
    case atStart => exact ⟨4, n, l, hb0, hb1, by omega, by simp [Hid]; omega, rfl, HO1, rfl, rfl, hB1⟩
    case round =>
      obtain ⟨f, m, xs, hm0, hm1, hf, HM, rfl, HX, HEQ, hxl, hBr⟩ := hrel
      have HXL : Hid (xs.length + f = l.length + 4) := hxl
      have hxl' : xs.length ≤ l.length + 4 := by omega
      clear hxl
      have hsz := hBr.size
      by_cases hlt : 127 < m
      · obtain ⟨f', rfl⟩ : ∃ f', f = f' + 1 := by
          cases f with
          | zero => have := HM.out; simp at this; omega
          | succ f' => exact ⟨f', rfl⟩
        go_wp2_with (at_builtin; refine wpList_append_bytes rfl (.tmp 18) (.tmp 23) 27 rfl i0 Try.underlying27 hi hz0 hz1 hz2 w.heap.size _ xs rfl (HX.out.alloc _) _ [m % 128 + 128] rfl (bs_one _ _ (by omega)) (by simp; omega) (by simp; omega) w (hBr.alloc hsz _) ?_)
        intro v2 w2 hO2 hB2 _
        have HO2 : Hid (OwnB w2 w.heap.size v2 (xs ++ [m % 128 + 128])) := hO2
        clear hO2
        go_wp2
        go_roundw
        case rel => exact ⟨f', m / 128, xs ++ [m % 128 + 128], by omega, by omega, by omega, by have := HM.out; unfold Hid; rw [Int.pow_succ] at this; omega, by go_num, HO2, enc_step hlt HEQ.out, by have := HXL.out; simp; omega, hB2⟩
        case measure => simp [intOf]; omega
      · go_wp2_with (at_builtin; refine wpList_append_bytes rfl (.tmp 27) (.tmp 30) 27 rfl i0 Try.underlying27 hi hz0 hz1 hz2 w.heap.size _ xs rfl (HX.out.alloc _) _ [m] rfl (bs_one _ _ (by omega)) (by simp; omega) (by simp; omega) w (hBr.alloc hsz _) ?_)
        intro v2 w2 hO2 hB2 _
        have HO2 : Hid (OwnB w2 w.heap.size v2 (putL l n)) := by
          rw [HP.out, ← HEQ.out]
          rw [enc_lo f m (by omega)]; exact hO2
        clear hO2
        go_wp2
        go_ret
        exact ⟨_, rfl, HO2.out, hB2⟩
  · have hp : putL l n = l := by simp [putL]; omega
    have HP : Hid (putL l n = l) := hp
    clear hp
    by_cases hneg : n < 0
    all_goals
      go_enter Try.func28, Try.ntmps28
      go_wp2_with (at_builtin; refine wpList_append_bytes rfl (.tmp 6) (.tmp 7) 27 rfl i0 Try.underlying27 hi hz0 hz1 hz2 w.heap.size _ [] rfl HE.out v l rfl (HV.out _) (by simp; omega) (by simp) w HB.out ?_)
      intro v1 w1 hO1 hB1 _
      have HO1 : Hid (OwnB w1 w.heap.size v1 l) := by simpa [Hid] using hO1
      clear hO1
      go_wp2
      go_ret
      exact ⟨_, rfl, by rw [HP.out]; exact HO1.out, hB1⟩

theorem specPutNum_r (v : Value) (l : List Int) (n : Int) (w : World) (hv : Bs w v l) (hl : l.length ≤ 2000000) (hn0 : -9223372036854775808 ≤ n) (hn1 : n ≤ 9223372036854775807) :
    Calls Try.prog 28 #[v, .int .i64 n] w fun e w' => ∃ u, e = .returned u ∧ Row w' w.heap.size w'.heap.size u (putL l n) ∧ Below w.heap.size w w' :=
  (specPutNum_any v l n w hv hl hn0 hn1).mono fun _ _ ⟨u, h1, h2, h3⟩ => ⟨u, h1, h2.toRow, h3⟩

end Go.Proofs.Ytjdcjhboipileab

/- What PutText and GetText answer, on lists. -/
namespace Go.Proofs.Ytjdcjhboipileab
open Go.RowKit

/-- What PutText answers. -/
def putTL (b t : List Int) : List Int := if 30 < t.length then b else putL b t.length ++ t
theorem putTL_length (b t : List Int) : (putTL b t).length ≤ b.length + 35 := by
  unfold putTL
  have := putL_length b t.length
  split
  · omega
  · simp; omega

/-- What GetText answers. -/
def getTL (l : List Int) (at' : Int) : List Int × Int :=
  if (getL l at').2 < 0 ∨ 30 < (getL l at').1 ∨ (l.length : Int) - (getL l at').2 < (getL l at').1 then ([], -1)
  else ((l.drop (getL l at').2.toNat).take (getL l at').1.toNat, (getL l at').2 + (getL l at').1)

theorem dec_bd (f i : Nat) (n sc : Int) (l : List Int) (hn : 0 ≤ n) (hs : 0 ≤ sc) : dec f i n sc l = none ∨ ∃ m k, dec f i n sc l = some (m, k) ∧ 0 ≤ m ∧ m ≤ 2147483647 ∧ i < k ∧ k ≤ i + l.length := by
  induction f generalizing i n sc l with
  | zero => left; rfl
  | succ f ih =>
    cases l with
    | nil => left; rfl
    | cons x r =>
      simp only [dec]
      have hx : 0 ≤ x % 128 * sc := Int.mul_nonneg (by omega) hs
      split
      · split
        · left; rfl
        · right; refine ⟨_, _, rfl, by omega, by omega, by omega, by simp⟩
      · rcases ih (i + 1) (n + x % 128 * sc) (sc * 128) r (by omega) (by omega) with h | ⟨m, k, h1, h2, h3, h4, h5⟩
        · left; exact h
        · right; exact ⟨m, k, h1, h2, h3, by omega, by simp; omega⟩
theorem getL_bd (l : List Int) (at' : Int) : getL l at' = (0, -1) ∨ (0 ≤ (getL l at').1 ∧ (getL l at').1 ≤ 2147483647 ∧ 1 ≤ (getL l at').2 ∧ (getL l at').2 ≤ l.length) := by
  unfold getL
  split
  · left; rfl
  · rcases dec_bd 5 0 0 1 (l.drop at'.toNat) (by omega) (by omega) with h | ⟨m, k, h1, h2, h3, h4, h5⟩
    · rw [h]; left; rfl
    · right
      rw [h1]
      simp at h5
      simp only [outOf]
      omega
theorem getTL_length (l : List Int) (at' : Int) : (getTL l at').1.length ≤ 30 := by
  unfold getTL
  split
  · simp
  · simp; omega

/-- A cut of a slice of bytes, not at its very end. -/
theorem bs_cut {w : World} {b off cap : Nat} {l : List Int} (hv : Bs w (.slice (some ⟨b, off, none⟩) l.length cap) l) (lo n : Nat) (h : lo + n ≤ l.length) :
    Bs w (.slice (some ⟨b, off + lo, none⟩) n (cap - lo)) ((l.drop lo).take n) := by
  obtain ⟨ho, a, cap', hv, h1, h2, h3, h4⟩ := hv
  simp only [Value.slice.injEq] at hv
  obtain ⟨rfl, -, rfl⟩ := hv
  have hl : ((l.drop lo).take n).length = n := by simp; omega
  refine ⟨oct_take (oct_drop ho _) _, _, cap - lo, by rw [hl], by rw [hl]; omega, by omega, (fun h => by cases h), fun hp => ?_⟩
  rw [hl] at hp
  obtain ⟨b', off', e, hlt, hc⟩ := h4 (by omega)
  simp only [Option.some.injEq, Addr.mk.injEq, and_true] at e
  obtain ⟨rfl, rfl⟩ := e
  refine ⟨b, off + lo, rfl, hlt, fun i hi => ?_⟩
  rw [hl] at hi
  rw [Nat.add_assoc, hc (lo + i) (by omega)]
  simp [hi]
theorem bs_empty (w : World) (x : Addr) (c : Nat) (hc : c ≤ maxLen) : Bs w (.slice (some x) 0 c) [] :=
  ⟨oct_nil, some x, c, rfl, by simp, hc, (fun h => by cases h), fun h => absurd h (by simp)⟩

end Go.Proofs.Ytjdcjhboipileab

/- What PutText of package spec does. -/
namespace Go.Proofs.Ytjdcjhboipileab
open Go.RowKit
set_option maxRecDepth 100000

set_option maxHeartbeats 400000 in
theorem specPutText_r (v u : Value) (l t : List Int) (w : World) (hv : Bs w v l) (hu : Bs w u t) (hl : l.length ≤ 2000000) (ht : t.length ≤ 2000000) :
    Calls Try.prog 49 #[v, u] w fun e w' => ∃ r, e = .returned r ∧ Row w' w.heap.size w'.heap.size r (putTL l t) ∧ Below w.heap.size w w' := by
  have HV : Hid (Bs w v l) := hv
  have HU : Hid (Bs w u t) := hu
  obtain ⟨a, cap, rfl⟩ : ∃ a cap, u = .slice a t.length cap := by obtain ⟨_, a, cap, h, _⟩ := hu; exact ⟨a, cap, h⟩
  clear hv hu
  obtain ⟨i0, hi, hz0, hz1, hz2⟩ := info_parts info5
  by_cases hb : 30 < t.length
  · have hb' : (30 : Int) < (t.length : Int) := by omega
    have HP : Hid (putTL l t = l) := by simp [Hid, putTL, hb]
    have HE : Hid (OwnB (w.alloc (.cells #[] 5)) w.heap.size (.slice (some ⟨w.heap.size, 0, none⟩) 0 0) []) := ownB_empty w _ (Nat.le_refl _)
    have HB : Hid (Below w.heap.size w (w.alloc (.cells #[] 5))) := (Below.refl _ _).alloc (Nat.le_refl _) _
    go_enter Try.func49, Try.ntmps49
    go_wp2_with (at_builtin; refine wpList_append_bytes rfl (.tmp 8) (.tmp 9) 27 rfl i0 Try.underlying27 hi hz0 hz1 hz2 w.heap.size _ [] rfl HE.out v l rfl (HV.out.alloc _) (by simp; omega) (by simp) w HB.out ?_)
    intro v1 w1 hO1 hB1 _
    have HO1 : Hid (OwnB w1 w.heap.size v1 (putTL l t)) := by rw [HP.out]; simpa [Hid] using hO1
    clear hO1
    go_wp2
    go_ret
    exact ⟨_, rfl, HO1.out.toRow, hB1⟩
  · have hb' : ¬ (30 : Int) < (t.length : Int) := by omega
    have HP : Hid (putTL l t = putL l t.length ++ t) := by simp [Hid, putTL, hb]
    have hpl := putL_length l t.length
    go_enter Try.func49, Try.ntmps49
    go_wp2_with fail
    refine (specPutNum_any v l t.length _ HV.out hl (by omega) (by omega)).mono ?_
    rintro e w1 ⟨u1, rfl, O1, B1⟩
    have s1 := B1.size
    have HO : Hid (OwnB w1 w.heap.size u1 (putL l t.length)) := O1
    have HUU : Hid (Bs w1 (.slice a t.length cap) t) := HU.out.below B1
    clear O1
    go_wp2_with (at_builtin; refine wpList_append_bytes rfl (.tmp 14) (.tmp 15) 27 rfl i0 Try.underlying27 hi hz0 hz1 hz2 w.heap.size _ _ rfl HO.out _ t rfl HUU.out (by omega) s1 w B1 ?_)
    intro v2 w2 hO2 hB2 _
    have HO2 : Hid (OwnB w2 w.heap.size v2 (putTL l t)) := by rw [HP.out]; exact hO2
    clear hO2
    go_wp2
    go_ret
    exact ⟨_, rfl, HO2.out.toRow, hB2⟩

end Go.Proofs.Ytjdcjhboipileab

/- Names, texts and commands as plain lists and numbers: no program is named here. -/
namespace Go.Proofs.Ytjdcjhboipileab

theorem ret_b {a b : Bool} (h : b = a) : Ending.returned (.bool a) = .returned (.bool b) := by rw [h]

/-- Every number of the list lies between two. -/
def allIn (lo hi : Int) (l : List Int) : Bool := l.all fun x => decide (lo ≤ x) && decide (x ≤ hi)
/-- A name: one to six small letters. -/
def nameB (l : List Int) : Bool := decide (1 ≤ l.length) && (decide (l.length ≤ 6) && allIn 97 122 l)
/-- A text: at most thirty bytes that can be seen. -/
def textB (l : List Int) : Bool := decide (l.length ≤ 30) && allIn 32 126 l
/-- A number lies between two. -/
def inB (n lo hi : Int) : Bool := decide (lo ≤ n) && decide (n ≤ hi)

theorem allIn_yes {lo hi : Int} {l : List Int} (h : ∀ j, j < l.length → lo ≤ l.getD j 0 ∧ l.getD j 0 ≤ hi) : allIn lo hi l = true := by
  unfold allIn
  rw [List.all_eq_true]
  intro x hx
  obtain ⟨j, hj, rfl⟩ := List.getElem_of_mem hx
  have := h j hj
  simp [hj] at this
  simp [this]
theorem allIn_no {lo hi : Int} {l : List Int} (j : Nat) (hj : j < l.length) (h : ¬ (lo ≤ l.getD j 0 ∧ l.getD j 0 ≤ hi)) : allIn lo hi l = false := by
  cases e : allIn lo hi l with
  | false => rfl
  | true =>
    exfalso
    unfold allIn at e
    rw [List.all_eq_true] at e
    have := e _ (List.getElem_mem hj)
    simp [hj] at h
    simp at this
    omega

theorem ret_i {k : IntKind} {a b : Int} (h : a = b) : Ending.returned (.int k a) = .returned (.int k b) := by rw [h]
/-- The place of the first that fits; -1 where there is none. -/
def firstI {α : Type} (p : α → Bool) (l : List α) : Int := match l.findIdx? p with | some i => i | none => -1
theorem firstI_hit {p : Int → Bool} {l : List Int} {k : Nat} (hk : k < l.length) (h : p (l.getD k 0) = true) (hA : ∀ j, j < k → p (l.getD j 0) = false) : firstI p l = k := by
  have : l.findIdx? p = some k := by
    rw [List.findIdx?_eq_some_iff_getElem]
    refine ⟨hk, by simpa [hk] using h, fun j hj => ?_⟩
    have := hA j hj
    simp [show j < l.length by omega] at this
    simp [this]
  simp [firstI, this]
theorem firstI_none {p : Int → Bool} {l : List Int} (hA : ∀ j, j < l.length → p (l.getD j 0) = false) : firstI p l = -1 := by
  have : l.findIdx? p = none := by
    rw [List.findIdx?_eq_none_iff]
    intro x hx
    obtain ⟨j, hj, rfl⟩ := List.getElem_of_mem hx
    have := hA j hj
    simpa [hj] using this
  simp [firstI, this]
theorem any_firstI {α : Type} (p : α → Bool) (l : List α) : l.any p = decide (0 ≤ firstI p l) := by
  unfold firstI
  cases h : l.findIdx? p with
  | none =>
    rw [List.findIdx?_eq_none_iff] at h
    simp only [show ¬ (0 : Int) ≤ -1 by omega, decide_false]
    rw [List.any_eq_false]
    intro x hx
    simp [h x hx]
  | some i =>
    rw [List.findIdx?_eq_some_iff_getElem] at h
    obtain ⟨hi, hp, -⟩ := h
    simp only [show (0 : Int) ≤ (i : Int) by omega, decide_true]
    rw [List.any_eq_true]
    exact ⟨_, List.getElem_mem hi, hp⟩

/-- Which kinds have a second name, a number of a mail, flags and how, a number of a change, a text. -/
def toB (k : Int) : Bool := decide (k = 6)
def uidB (k : Int) : Bool := decide (k = 3) || (decide (k = 5) || decide (k = 6))
def modeB (k : Int) : Bool := decide (k = 2) || (decide (k = 3) || decide (k = 6))
def sinceB (k : Int) : Bool := decide (k = 3) || decide (k = 8)
def textsB (k : Int) : Bool := decide (k = 2)

/-- A command that may be. -/
def cmdB (k : Int) (bx tt : List Int) (uid mode fl si : Int) (tx : List Int) : Bool :=
  decide (0 ≤ k ∧ k ≤ 9) && (if k = 9 then decide (bx.length = 0) else nameB bx) && (if k = 6 then nameB tt else decide (tt.length = 0)) &&
  (if k = 3 ∨ k = 5 ∨ k = 6 then inB uid 1 1000000 else decide (uid = 0)) && inB mode 0 (if k = 3 then 2 else if k = 6 then 1 else 0) &&
  inB fl 0 (if k = 2 ∨ k = 3 then 31 else 0) && inB si 0 (if k = 3 ∨ k = 8 then 1000000 else 0) && (if k = 2 then textB tx else decide (tx.length = 0))

theorem nameB_len {l : List Int} (h : nameB l = true) : 1 ≤ l.length ∧ l.length ≤ 6 := by unfold nameB at h; simp at h; exact ⟨h.1, h.2.1⟩
theorem textB_nil {l : List Int} (h : l.length = 0) : textB l = true := by
  have : l = [] := List.eq_nil_of_length_eq_zero h
  subst this; rfl
theorem nameB_nil {l : List Int} (h : l.length = 0) : nameB l = false := by
  have : l = [] := List.eq_nil_of_length_eq_zero h
  subst this; rfl

end Go.Proofs.Ytjdcjhboipileab
