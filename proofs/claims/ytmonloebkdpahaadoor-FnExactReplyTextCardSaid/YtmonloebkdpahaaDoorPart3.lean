/- The proof's texts, part 3. -/
import Derived.Test.YtmonloebkdpahaaDoorPart2
import Derived.Test.YtmonloebkdpahaaDoorPart1
import Derived.WalkKit
import Derived.Lib.Bytealg
import Derived.Laws.BytesArg
import Derived.Lib.ItoaNum
import Derived.Lib.AppendStr
import Derived.Lib.AppendIntMem
import Derived.Deep.RegionHeld3

/- What is written into data of the call's own: the world apart from it, and the data as they are then. -/
namespace Go.Proofs.YtmonloebkdpahaaDoor
open Go.RowKit

/-- Apart from the blocks of S the world w' has all that w had. -/
structure Wr (S : Nat → Prop) (w w' : World) : Prop where
  os : w'.os = w.os
  tape : w'.tape = w.tape
  output : w'.output = w.output
  size : w.heap.size ≤ w'.heap.size
  block : ∀ k, k < w.heap.size → ¬ S k → w'.heap[k]? = w.heap[k]?

theorem Wr.refl (S : Nat → Prop) (w : World) : Wr S w w := ⟨rfl, rfl, rfl, Nat.le_refl _, fun _ _ _ => rfl⟩
theorem Wr.trans {S : Nat → Prop} {a b c : World} (h : Wr S a b) (k : Wr S b c) : Wr S a c :=
  ⟨k.os.trans h.os, k.tape.trans h.tape, k.output.trans h.output, Nat.le_trans h.size k.size, fun i hi hn => (k.block i (Nat.lt_of_lt_of_le hi h.size) hn).trans (h.block i hi hn)⟩
theorem Wr.mono {S S' : Nat → Prop} {a b : World} (h : Wr S a b) (hS : ∀ x, S x → S' x) : Wr S' a b := ⟨h.os, h.tape, h.output, h.size, fun i hi hn => h.block i hi fun hs => hn (hS i hs)⟩
theorem Wr.within {B T : Nat} {a b : World} (h : Wr (In B T) a b) : Within B T a b := ⟨h.os, h.tape, h.output, h.size, fun i hi hn => h.block i hi hn⟩
theorem Wr.below {B : Nat} {S : Nat → Prop} {w0 a b : World} (h : Wr S a b) (h0 : Below B w0 a) (hS : ∀ x, S x → B ≤ x) (hB : B ≤ a.heap.size) : Below B w0 b :=
  ⟨h.os.trans h0.os, h.tape.trans h0.tape, h.output.trans h0.output, Nat.le_trans h0.size h.size, fun k hk => (h.block k (Nat.lt_of_lt_of_le hk hB) fun hs => by have := hS k hs; omega).trans (h0.block k hk)⟩
theorem Wr.of_below {S : Nat → Prop} {a b : World} (h : Below a.heap.size a b) : Wr S a b := ⟨h.os, h.tape, h.output, h.size, fun k hk _ => h.block k hk⟩
theorem Wr.put {S : Nat → Prop} {w : World} {g : Nat} (hg : S g) (o : Nat) (c : List Value) (t : TypeId) (cur : Array Value) (h : w.heap[g]? = some (.cells cur t (0, 0))) (hs : o + c.length ≤ cur.size) : Wr S w (put w g o c) := by
  obtain ⟨cur', _, _, _, _, hw⟩ := put_spec g t c w o cur h hs
  refine ⟨hw.os, hw.tape, hw.output, hw.size, fun k hk hn => hw.block k hk fun ⟨h1, h2⟩ => ?_⟩
  obtain rfl : k = g := by omega
  exact hn hg

theorem markByteS_o (S : Nat → Prop) (v : Value) (l : List Int) (k : Int) (w : World) (hv : RO w S v l) (hl : l.length ≤ 2000000) (hk0 : 0 ≤ k) (hk1 : k ≤ 1000000000000) :
    Calls Tryd.prog 12 #[v, .int .i64 k] w fun e w' => e = .returned (.int .i64 (k + l.length)) ∧ RO w' S v (marks k l.length) ∧ Wr S w w' := by
  refine (markByteS_r 0 w.heap.size v l k w ⟨hv.1, hv.2.1, fun g hg => (hv.2.1.lt g hg).2⟩ hl hk0 hk1).mono ?_
  rintro e w' ⟨rfl, r, hg⟩
  exact ⟨rfl, ⟨r.1, r.2.1, hv.2.2⟩, ⟨hg.os, hg.tape, hg.output, hg.size, fun b hb hn => hg.block b hb fun e => hn (hv.2.2 b e.symm)⟩⟩

/-- Lists, marked one element behind the other: each takes as many marks as it has places. -/
def wtAt {α : Type} (z : α) (wt : α → Nat) (l : List α) (i : Nat) : Nat := wt (l.getD i z)
def mks {α : Type} (z : α) (mk : α → Int → α) (wt : α → Nat) (k : Int) (l : List α) : List α := (List.range l.length).map fun i => mk (l.getD i z) (k + (pre (wtAt z wt l) i : Nat))
section
variable {α : Type} {z : α} {mk : α → Int → α} {wt : α → Nat} {k : Int} {l : List α}
theorem length_mks : (mks z mk wt k l).length = l.length := by simp [mks]
theorem mks_get {i : Nat} {x : α} (h : l[i]? = some x) : (mks z mk wt k l)[i]? = some (mk x (k + (pre (wtAt z wt l) i : Nat))) := by
  have hi : i < l.length := (List.getElem?_eq_some_iff.1 h).1
  have hg : l.getD i z = x := by rw [List.getD_eq_getElem?_getD, h]; rfl
  simp only [mks, List.getElem?_map, List.getElem?_range hi, Option.map_some, hg]
theorem wtAt_get {i : Nat} {x : α} (h : l[i]? = some x) : wtAt z wt l i = wt x := by
  simp [wtAt, List.getD_eq_getElem?_getD, h]
theorem pre_step {i : Nat} {x : α} (h : l[i]? = some x) : pre (wtAt z wt l) (i + 1) = pre (wtAt z wt l) i + wt x := by
  show pre (wtAt z wt l) i + wtAt z wt l i = _
  rw [wtAt_get h]
theorem pre_le {i : Nat} (h : i ≤ l.length) : pre (wtAt z wt l) i ≤ pre (wtAt z wt l) l.length := pre_mono _ h
end
theorem pre_shift1 (m : Nat → Nat) (n : Nat) : pre m (n + 1) = m 0 + pre (fun i => m (i + 1)) n := by
  induction n with
  | zero => simp [pre]
  | succ n ih => rw [pre, ih]; simp only [pre]; omega
theorem wts_sum {α : Type} (z : α) (wt : α → Nat) (l : List α) : pre (wtAt z wt l) l.length = (l.map wt).sum := by
  induction l with
  | nil => rfl
  | cons x l ih =>
    rw [List.length_cons, pre_shift1]
    have : pre (fun i => wtAt z wt (x :: l) (i + 1)) l.length = pre (wtAt z wt l) l.length := pre_congr fun i _ => by simp [wtAt]
    rw [this, ih]
    simp [wtAt]
theorem sum_le {α : Type} (f g : α → Nat) (c : Nat) (l : List α) (h : ∀ x, x ∈ l → f x ≤ c * g x) : (l.map f).sum ≤ c * (l.map g).sum := by
  induction l with
  | nil => simp
  | cons x l ih =>
    have h1 := h x (by simp)
    have h2 := ih fun y hy => h y (by simp [hy])
    simp only [List.map_cons, List.sum_cons, Nat.mul_add]
    omega
theorem sum_mem {α : Type} (f : α → Nat) {l : List α} {x : α} (h : x ∈ l) : f x ≤ (l.map f).sum := by
  induction l with
  | nil => cases h
  | cons y l ih =>
    simp only [List.map_cons, List.sum_cons]
    rcases List.mem_cons.1 h with rfl | h
    · omega
    · have := ih h; omega

/-- The first i of a, the rest of b. -/
def mix {α : Type} (a b : List α) (i : Nat) : List α := a.take i ++ b.drop i
section
variable {α : Type} {a b : List α} {i : Nat}
theorem mix_zero : mix a b 0 = b := by simp [mix]
theorem mix_all (h : a.length = b.length) : mix a b b.length = a := by simp [mix, ← h]
theorem mix_length (h : a.length = b.length) (hi : i ≤ b.length) : (mix a b i).length = b.length := by simp [mix]; omega
theorem mix_get (h : a.length = b.length) (hi : i < b.length) : (mix a b i)[i]? = b[i]? := by
  have hl : (a.take i).length = i := by rw [List.length_take]; omega
  rw [mix, List.getElem?_append_right (by omega), hl]
  simp
theorem mix_set (h : a.length = b.length) {x : α} (hx : a[i]? = some x) : (mix a b i).set i x = mix a b (i + 1) := by
  have hi : i < a.length := (List.getElem?_eq_some_iff.1 hx).1
  have hv : a[i] = x := (List.getElem?_eq_some_iff.1 hx).2
  have hl : (a.take i).length = i := by rw [List.length_take]; omega
  rw [mix, List.set_append_right _ _ (by omega), hl, Nat.sub_self, mix, List.take_succ_eq_append_getElem hi, hv, List.append_assoc]
  congr 1
  rw [List.drop_eq_getElem_cons (show i < b.length by omega)]
  rfl
end

def zMail : MailD := ⟨0, 0, 0, []⟩
def zGone : GoneD := ⟨0, 0⟩
def zBox : BoxD := ⟨[], 0, 0, 0, [], [], 0⟩
def wtInt (_ : Int) : Nat := 1
def mkInt (_ : Int) (p : Int) : Int := p
def wtGone (_ : GoneD) : Nat := 2
def mkGone (_ : GoneD) (p : Int) : GoneD := ⟨p, p + 1⟩
def wtMail (m : MailD) : Nat := 3 + m.text.length
def mkMail (m : MailD) (p : Int) : MailD := ⟨p, p + 1, p + 2, marks (p + 3) m.text.length⟩
def wIs (l : List Int) : Nat := pre (wtAt 0 wtInt l) l.length
def wGs (l : List GoneD) : Nat := pre (wtAt zGone wtGone l) l.length
def wMs (l : List MailD) : Nat := pre (wtAt zMail wtMail l) l.length
def mkGones (k : Int) (l : List GoneD) : List GoneD := mks zGone mkGone wtGone k l
def mkMails (k : Int) (l : List MailD) : List MailD := mks zMail mkMail wtMail k l
def mkInts (k : Int) (l : List Int) : List Int := mks 0 mkInt wtInt k l
def wtBox (b : BoxD) : Nat := b.name.length + 3 + wMs b.mails + wGs b.gones + 1
def mkBox (b : BoxD) (p : Int) : BoxD :=
  ⟨marks p b.name.length, p + b.name.length, p + b.name.length + 1, p + b.name.length + 2, mkMails (p + b.name.length + 3) b.mails, mkGones (p + b.name.length + 3 + wMs b.mails) b.gones, p + b.name.length + 3 + wMs b.mails + wGs b.gones⟩
def wXs (l : List BoxD) : Nat := pre (wtAt zBox wtBox l) l.length
def mkBoxes (k : Int) (l : List BoxD) : List BoxD := mks zBox mkBox wtBox k l
theorem wIs_eq (l : List Int) : wIs l = l.length := by
  rw [wIs, wts_sum]
  induction l with
  | nil => rfl
  | cons x l ih => simp only [List.map_cons, List.sum_cons, ih, wtInt, List.length_cons]; omega
theorem wGs_eq (l : List GoneD) : wGs l = 2 * l.length := by
  rw [wGs, wts_sum]
  induction l with
  | nil => rfl
  | cons x l ih => simp only [List.map_cons, List.sum_cons, ih, wtGone, List.length_cons]; omega
theorem wMs_le (l : List MailD) : wMs l ≤ 3 * szM l := by
  rw [wMs, wts_sum, szM]
  exact sum_le _ _ 3 l fun x _ => by simp only [wtMail]; omega
theorem wtBox_le (b : BoxD) : wtBox b ≤ 4 * (szX b + 1) := by
  have h1 := wMs_le b.mails
  have h2 := wGs_eq b.gones
  simp only [wtBox, szX]
  omega
theorem wXs_le (l : List BoxD) : wXs l ≤ 4 * szXs l := by
  rw [wXs, wts_sum, szXs]
  exact sum_le _ _ 4 l fun x _ => wtBox_le x
theorem wMs_mem {l : List MailD} {m : MailD} (h : m ∈ l) : 3 + m.text.length ≤ wMs l := by
  rw [wMs, wts_sum]; exact sum_mem wtMail h
theorem wXs_mem {l : List BoxD} {b : BoxD} (h : b ∈ l) : wtBox b ≤ wXs l := by
  rw [wXs, wts_sum]; exact sum_mem wtBox h

end Go.Proofs.YtmonloebkdpahaaDoor

/- What markGoneS of package laws does. -/
namespace Go.Proofs.YtmonloebkdpahaaDoor
open Go.RowKit
set_option maxRecDepth 100000
set_option linter.unusedVariables false

/-- An element is written anew, cell by cell. -/
theorem Ow.put {α : Type} {t : TypeId} {sz : Nat} {E : World → List Value → α → (Nat → Prop) → Prop} {w : World} {S : Nat → Prop} {v : Value} {l : List α} (hE : Frames E) (h : Ow t sz E w S v l) (i : Nat) (x : α) (hx : l[i]? = some x) :
    ∃ (g cap : Nat) (c : List Value) (f : Nat → Prop), v = .slice (some ⟨g, 0, none⟩) l.length cap ∧ l.length ≤ cap ∧ cap ≤ maxLen ∧ g < w.heap.size ∧ S g ∧ E w c x f ∧ c.length = sz ∧ (∀ b, f b → S b ∧ b ≠ g) ∧
      (∀ j u, c[j]? = some u → w.cell? ⟨g, i * sz + j, none⟩ = some u) ∧ (∀ j, w.frozen? ⟨g, j, none⟩ = false) ∧ (∃ cur, w.heap[g]? = some (.cells cur t (0, 0)) ∧ i * sz + sz ≤ cur.size) ∧
      ∀ (c' : List Value) (x' : α), c'.length = sz → (∀ w', (∀ b, f b → b < w.heap.size → w'.heap[b]? = w.heap[b]?) → E w' c' x' f) → Ow t sz E (put w g (i * sz) c') S v (l.set i x') ∧ Wr S w (put w g (i * sz) c') := by
  obtain ⟨g, cap, cur, c, f, hv, h1, h2, hh, h3, h4, h5, h6, h7, h8, h9⟩ := h.upd hE i x hx
  refine ⟨g, cap, c, f, hv, h1, h2, lt_of_heap hh, h4, h5, h6, h8, fun j u hu => ?_, fun j => frozen_of_row w g j cur t hh, ⟨cur, hh, h3⟩, fun c' x' hc he => ?_⟩
  · rw [cell_of_row w g _ cur t (0, 0) hh]
    exact h7 j u hu
  · obtain ⟨cur', e1, e2, e3, e4, e5⟩ := put_spec g t c' w (i * sz) cur hh (by omega)
    refine ⟨h9 _ cur' c' x' e1 e2 e3 (fun m hm => e4 m (by omega)) hc (fun b hb hne _ hlt => e5.block b hlt (by omega)) (he _ fun b hb hlt => e5.block b hlt (by have := (h8 b hb).2; omega)), Wr.put h4 _ _ t cur hh (by omega)⟩

set_option maxHeartbeats 1000000 in
theorem markGoneS_o (S : Nat → Prop) (v : Value) (l : List GoneD) (k : Int) (w : World) (hv : GonesO w S v l) (hl : l.length ≤ 2000000) (hk0 : 0 ≤ k) (hk1 : k ≤ 100000000000) :
    Calls Tryd.prog 64 #[v, .int .i64 k] w fun e w' => e = .returned (.int .i64 (k + wGs l)) ∧ GonesO w' S v (mkGones k l) ∧ Wr S w w' := by
  have HV : Hid (GonesO w S v l) := hv
  obtain ⟨a, cap, rfl, hlc, hcm⟩ := (hv.rd fun _ _ _ _ h => h : GonesV w v l).form
  clear hv
  have hw := wGs_eq l
  have hlen : (mkGones k l).length = l.length := length_mks
  go_enter Tryd.func64, Tryd.ntmps64
  go_wp2
  go_loopw [1, 5] (fun q i wr => ∃ j : Nat, j ≤ l.length ∧ i = .int .i64 j ∧ q = .int .i64 (k + (pre (wtAt zGone wtGone l) j : Nat)) ∧ Hid (GonesO wr S (.slice a l.length cap) (mix (mkGones k l) l j)) ∧ Hid (Wr S w wr)) (fun _ i _ => l.length - (intOf i).toNat)
  case atStart => exact ⟨0, Nat.zero_le _, rfl, by simp [pre], by rw [mix_zero]; exact HV, Wr.refl _ _⟩
  case round =>
    obtain ⟨j, hj, rfl, rfl, hO, hW⟩ := hrel
    by_cases hlt : j < l.length
    · obtain ⟨x, hx⟩ : ∃ x, l[j]? = some x := ⟨l[j], List.getElem?_eq_getElem hlt⟩
      obtain ⟨g, cap', c, f, hv', -, -, hgl, hS, ⟨rfl, -, -⟩, -, -, hc, fz, -, hput⟩ := hO.out.put framesGone j x ((mix_get hlen hlt).trans hx)
      simp only [Value.slice.injEq] at hv'
      obtain ⟨rfl, -, rfl⟩ := hv'
      have hpj : pre (wtAt zGone wtGone l) j ≤ wGs l := pre_le (Nat.le_of_lt hlt)
      have hp1 : pre (wtAt zGone wtGone l) (j + 1) = pre (wtAt zGone wtGone l) j + 2 := pre_step hx
      have hn := mks_get (z := zGone) (mk := mkGone) (wt := wtGone) (k := k) hx
      generalize pre (wtAt zGone wtGone l) j = P at hpj hp1 hn
      have hP : (P : Int) ≤ 4000000 := by omega
      have d0 := hc 0 _ rfl
      have d1 := hc 1 _ rfl
      simp only [Nat.add_zero] at d0
      have HS : Hid (GonesO (put wr g (j * 2) [.int .i64 (k + P), .int .i64 (k + P + 1)]) S (.slice (some ⟨g, 0, none⟩) l.length cap) (mix (mkGones k l) l (j + 1)) ∧ Wr S w (put wr g (j * 2) [.int .i64 (k + P), .int .i64 (k + P + 1)])) := by
        obtain ⟨h1, h2⟩ := hput [.int .i64 (k + P), .int .i64 (k + P + 1)] (mkGone x (k + P)) rfl (fun w' _ => ⟨rfl, by constructor <;> simp only [mkGone] <;> omega, by constructor <;> simp only [mkGone] <;> omega⟩)
        rw [mix_set hlen hn] at h1
        exact ⟨h1, hW.out.trans h2⟩
      clear hput hc hn hO hW hx hw
      go_wp2
      go_roundw
      case rel => exact ⟨j + 1, by omega, by go_num, by rw [hp1]; go_num, HS.out.1, HS.out.2⟩
      case measure => simp [intOf]; omega
    · go_wp2
      go_ret
      obtain rfl : j = l.length := by omega
      exact ⟨rfl, by rw [← mix_all hlen]; exact hO.out, hW.out⟩

end Go.Proofs.YtmonloebkdpahaaDoor

/- What markByteSS of package laws does of rows of names. -/
namespace Go.Proofs.YtmonloebkdpahaaDoor
open Go.RowKit
set_option maxRecDepth 100000
set_option linter.unusedVariables false

def mkName (x : List Int) (k : Int) : List Int := marks k x.length
def wtName (x : List Int) : Nat := x.length
def wNs (l : List (List Int)) : Nat := pre (wtAt [] wtName l) l.length
def mkNames (k : Int) (l : List (List Int)) : List (List Int) := mks [] mkName wtName k l
theorem wNs_le (l : List (List Int)) : wNs l ≤ szN l := by
  rw [wNs, wts_sum]
  induction l with
  | nil => simp [szN]
  | cons x l ih => simp only [szN, List.map_cons, List.sum_cons, wtName] at ih ⊢; omega

set_option maxRecDepth 100000 in
set_option maxHeartbeats 1000000 in
theorem markByteSS_o (S : Nat → Prop) (v : Value) (l : List (List Int)) (k : Int) (w : World) (hv : NamesO w S v l) (hs : szN l ≤ 2000000) (hk0 : 0 ≤ k) (hk1 : k ≤ 100000000000) :
    Calls Tryd.prog 35 #[v, .int .i64 k] w fun e w' => e = .returned (.int .i64 (k + wNs l)) ∧ NamesO w' S v (mkNames k l) ∧ Wr S w w' := by
  have HV : Hid (NamesO w S v l) := hv
  obtain ⟨a, cap, rfl, hlc, hcm⟩ := (hv.rd fun _ _ _ _ => NameE.rd : NamesV w v l).form
  clear hv
  have hl : l.length ≤ 2000000 := Nat.le_trans (szN_len l) hs
  have hb : wNs l ≤ 2000000 := by have := wNs_le l; omega
  have hlen : (mkNames k l).length = l.length := length_mks
  go_enter Tryd.func35, Tryd.ntmps35
  go_wp2
  go_loopw [1, 5] (fun q i wr => ∃ j : Nat, j ≤ l.length ∧ i = .int .i64 j ∧ q = .int .i64 (k + (pre (wtAt [] wtName l) j : Nat)) ∧ Hid (NamesO wr S (.slice a l.length cap) (mix (mkNames k l) l j)) ∧ Hid (Wr S w wr)) (fun _ i _ => l.length - (intOf i).toNat)
  case atStart => exact ⟨0, Nat.zero_le _, rfl, by simp [pre], by rw [mix_zero]; exact HV, Wr.refl _ _⟩
  case round =>
    obtain ⟨j, hj, rfl, rfl, hO, hW⟩ := hrel
    by_cases hlt : j < l.length
    · obtain ⟨x, hx⟩ : ∃ x, l[j]? = some x := ⟨l[j], List.getElem?_eq_getElem hlt⟩
      obtain ⟨g, cap', cur, c, f, hv', -, -, hh, hroom, hS, ⟨u, rfl, hu⟩, -, hcs, hf, hupd⟩ := hO.out.upd framesName j x ((mix_get hlen hlt).trans hx)
      simp only [Value.slice.injEq] at hv'
      obtain ⟨rfl, -, rfl⟩ := hv'
      have hp1 : pre (wtAt [] wtName l) (j + 1) = pre (wtAt [] wtName l) j + x.length := pre_step hx
      have hpj : pre (wtAt [] wtName l) (j + 1) ≤ wNs l := pre_le hlt
      have hn := mks_get (z := []) (mk := mkName) (wt := wtName) (k := k) hx
      generalize pre (wtAt [] wtName l) j = P at hpj hp1 hn
      have hP : (P : Int) ≤ 2000000 := by omega
      have hxt : x.length ≤ 2000000 := by have := szN_mem (List.mem_of_getElem? hx); omega
      have d0 := (cell_of_row wr g (j * 1) cur _ (0, 0) hh).trans (hcs 0 _ rfl)
      rw [Nat.mul_one] at d0
      have hgl := lt_of_heap hh
      obtain ⟨ua, un, uc, rfl⟩ := hu.bs.form3
      have HU : Hid (RO wr f (.slice ua un uc) x) := hu
      have HS : Hid (∀ w', Wr f wr w' → RO w' f (.slice ua un uc) (marks (k + P) x.length) → NamesO w' S (.slice (some ⟨g, 0, none⟩) l.length cap) (mix (mkNames k l) l (j + 1)) ∧ Wr S w w') := by
        intro w' hw' hr
        have hg' : w'.heap[g]? = _ := (hw'.block g hgl fun h => (hf g h).2 rfl).trans hh
        have hE : NameE w' [.slice ua un uc] (mkName x (k + P)) f := ⟨_, rfl, hr⟩
        have h1 := hupd w' cur _ (mkName x (k + P)) hg' rfl (fun i u hi => hcs i u hi) (fun m hm => rfl) rfl (fun b hb hne hnf hlt => hw'.block b hlt hnf) hE
        rw [mix_set hlen hn] at h1
        exact ⟨h1, hW.out.trans (hw'.mono fun b h => (hf b h).1)⟩
      clear hupd hcs hn hO hW hx hu hh hroom hf
      go_wp2_with fail
      refine (markByteS_o f _ x _ _ HU.out hxt (by omega) (by omega)).mono ?_
      rintro e w2 ⟨rfl, R, W2⟩
      have HS2 := HS.out w2 W2 R
      have HM : Hid (NamesO w2 S (.slice (some ⟨g, 0, none⟩) l.length cap) (mix (mkNames k l) l (j + 1))) := HS2.1
      have HW : Hid (Wr S w w2) := HS2.2
      clear HS HS2 R W2 HU d0
      go_wp2
      go_roundw
      case rel => exact ⟨j + 1, by omega, by go_num, by rw [hp1]; go_num, HM, HW⟩
      case measure => simp [intOf]; omega
    · go_wp2
      go_ret
      obtain rfl : j = l.length := by omega
      exact ⟨rfl, by rw [← mix_all hlen]; exact hO.out, hW.out⟩

end Go.Proofs.YtmonloebkdpahaaDoor

/- What markMailS of package laws does. -/
namespace Go.Proofs.YtmonloebkdpahaaDoor
open Go.RowKit
set_option maxRecDepth 100000
set_option linter.unusedVariables false

set_option maxHeartbeats 1000000 in
theorem markMailS_o (S : Nat → Prop) (v : Value) (l : List MailD) (k : Int) (w : World) (hv : MailsO w S v l) (hs : szM l ≤ 2000000) (hk0 : 0 ≤ k) (hk1 : k ≤ 100000000000) :
    Calls Tryd.prog 63 #[v, .int .i64 k] w fun e w' => e = .returned (.int .i64 (k + wMs l)) ∧ MailsO w' S v (mkMails k l) ∧ Wr S w w' := by
  have HV : Hid (MailsO w S v l) := hv
  obtain ⟨a, cap, rfl, hlc, hcm⟩ := (hv.rd fun _ _ _ _ => MailE.rd : MailsV w v l).form
  clear hv
  have hl : l.length ≤ 2000000 := Nat.le_trans (szM_len l) hs
  have hb : wMs l ≤ 6000000 := by have := wMs_le l; omega
  have hlen : (mkMails k l).length = l.length := length_mks
  go_enter Tryd.func63, Tryd.ntmps63
  go_wp2
  go_loopw [1, 5] (fun q i wr => ∃ j : Nat, j ≤ l.length ∧ i = .int .i64 j ∧ q = .int .i64 (k + (pre (wtAt zMail wtMail l) j : Nat)) ∧ Hid (MailsO wr S (.slice a l.length cap) (mix (mkMails k l) l j)) ∧ Hid (Wr S w wr)) (fun _ i _ => l.length - (intOf i).toNat)
  case atStart => exact ⟨0, Nat.zero_le _, rfl, by simp [pre], by rw [mix_zero]; exact HV, Wr.refl _ _⟩
  case round =>
    obtain ⟨j, hj, rfl, rfl, hO, hW⟩ := hrel
    by_cases hlt : j < l.length
    · obtain ⟨x, hx⟩ : ∃ x, l[j]? = some x := ⟨l[j], List.getElem?_eq_getElem hlt⟩
      obtain ⟨g, cap', cur, c, f, hv', -, -, hh, hroom, hS, ⟨u, rfl, hu, -, -, -⟩, -, hcs, hf, hupd⟩ := hO.out.upd framesMail j x ((mix_get hlen hlt).trans hx)
      simp only [Value.slice.injEq] at hv'
      obtain ⟨rfl, -, rfl⟩ := hv'
      have hp1 : pre (wtAt zMail wtMail l) (j + 1) = pre (wtAt zMail wtMail l) j + (3 + x.text.length) := pre_step hx
      have hpj : pre (wtAt zMail wtMail l) (j + 1) ≤ wMs l := pre_le hlt
      have hn := mks_get (z := zMail) (mk := mkMail) (wt := wtMail) (k := k) hx
      generalize pre (wtAt zMail wtMail l) j = P at hpj hp1 hn
      have hP : (P : Int) ≤ 6000000 := by omega
      have hxt : x.text.length ≤ 2000000 := by have := szM_mem (List.mem_of_getElem? hx); omega
      have d0 := (cell_of_row wr g (j * 4) cur _ (0, 0) hh).trans (hcs 0 _ rfl)
      have d1 := (cell_of_row wr g (j * 4 + 1) cur _ (0, 0) hh).trans (hcs 1 _ rfl)
      have d2 := (cell_of_row wr g (j * 4 + 2) cur _ (0, 0) hh).trans (hcs 2 _ rfl)
      have fz : ∀ i, wr.frozen? ⟨g, i, none⟩ = false := fun i => frozen_of_row wr g i cur _ hh
      have hgl := lt_of_heap hh
      obtain ⟨ua, un, uc, rfl⟩ := hu.bs.form3
      obtain ⟨cur1, e1, e2, e3, e4, e5⟩ := put_spec g _ [.int .i64 (k + P), .int .i64 (k + P + 1), .int .i64 (k + P + 1 + 1)] wr (j * 4) cur hh (by simp; omega)
      have d3 : (((wr.setCell ⟨g, j * 4, none⟩ (.int .i64 (k + P))).setCell ⟨g, j * 4 + 1, none⟩ (.int .i64 (k + P + 1))).setCell ⟨g, j * 4 + 2, none⟩ (.int .i64 (k + P + 1 + 1))).cell? ⟨g, j * 4 + 3, none⟩ = some (.slice ua un uc) := (cell_of_row _ g (j * 4 + 3) cur1 _ (0, 0) e1).trans ((e4 (j * 4 + 3) (.inr (by simp))).trans (hcs 3 _ rfl))
      have HU : Hid (RO (put wr g (j * 4) [.int .i64 (k + P), .int .i64 (k + P + 1), .int .i64 (k + P + 1 + 1)]) f (.slice ua un uc) x.text) := hu.frame fun b hb hlt => e5.block b hlt (by have := (hf b hb).2; omega)
      have HS : Hid (∀ w', Wr f (put wr g (j * 4) [.int .i64 (k + P), .int .i64 (k + P + 1), .int .i64 (k + P + 1 + 1)]) w' → RO w' f (.slice ua un uc) (marks (k + P + 1 + 1 + 1) x.text.length) → MailsO w' S (.slice (some ⟨g, 0, none⟩) l.length cap) (mix (mkMails k l) l (j + 1)) ∧ Wr S w w') := by
        intro w' hw' hr
        have hsz := e5.size
        have hg' : w'.heap[g]? = _ := (hw'.block g (by omega) fun h => (hf g h).2 rfl).trans e1
        have hE : MailE w' [.int .i64 (k + P), .int .i64 (k + P + 1), .int .i64 (k + P + 1 + 1), .slice ua un uc] (mkMail x (k + P)) f := by
          refine ⟨.slice ua un uc, ?_, ?_, ?_, ?_, ?_⟩
          · simp only [mkMail]; rw [show k + P + 1 + 1 = k + (P : Int) + 2 by omega]
          · simp only [mkMail]; rw [show k + (P : Int) + 3 = k + P + 1 + 1 + 1 by omega]; exact hr
          all_goals (constructor <;> simp only [mkMail] <;> omega)
        have h1 := hupd w' cur1 _ (mkMail x (k + P)) hg' e2 (fun i u hi => ?_) (fun m hm => e4 m (by simp; omega)) rfl (fun b hb hne hnf hlt => (hw'.block b (by omega) hnf).trans (e5.block b hlt (by omega))) hE
        · rw [mix_set hlen hn] at h1
          refine ⟨h1, hW.out.trans ⟨hw'.os.trans e5.os, hw'.tape.trans e5.tape, hw'.output.trans e5.output, Nat.le_trans hsz hw'.size, fun b hb hns => ?_⟩⟩
          have hbg : b ≠ g := fun e => hns (e ▸ hS)
          exact (hw'.block b (by omega) fun h => hns (hf b h).1).trans (e5.block b hb (by omega))
        · match i, hi with
          | 0, hi => exact e3 0 u (by simpa using hi)
          | 1, hi => exact e3 1 u (by simpa using hi)
          | 2, hi => exact e3 2 u (by simpa using hi)
          | 3, hi => exact (e4 (j * 4 + 3) (.inr (by simp))).trans (hcs 3 u (by simpa using hi))
      clear hupd hcs hn hO hW hx e1 e2 e3 e4 e5 hu hh hroom hf
      go_wp2_with fail
      refine (markByteS_o f _ x.text _ _ HU.out hxt (by omega) (by omega)).mono ?_
      rintro e w2 ⟨rfl, R, W2⟩
      have HS2 := HS.out w2 W2 R
      have HM : Hid (MailsO w2 S (.slice (some ⟨g, 0, none⟩) l.length cap) (mix (mkMails k l) l (j + 1))) := HS2.1
      have HW : Hid (Wr S w w2) := HS2.2
      clear HS HS2 R W2 HU d0 d1 d2 d3 fz
      go_wp2
      go_roundw
      case rel => exact ⟨j + 1, by omega, by go_num, by rw [hp1]; go_num, HM, HW⟩
      case measure => simp [intOf]; omega
    · go_wp2
      go_ret
      obtain rfl : j = l.length := by omega
      exact ⟨rfl, by rw [← mix_all hlen]; exact hO.out, hW.out⟩

end Go.Proofs.YtmonloebkdpahaaDoor

/- What markBox of package laws does. -/
namespace Go.Proofs.YtmonloebkdpahaaDoor
open Go.RowKit
set_option maxRecDepth 100000
set_option linter.unusedVariables false

def mkBoxV (k : Int) (x : BoxD) : BoxD := ⟨marks k x.name.length, x.valid, x.next, x.seq, mkMails (k + x.name.length) x.mails, mkGones (k + x.name.length + wMs x.mails) x.gones, x.lost⟩
set_option maxRecDepth 100000 in
set_option maxHeartbeats 1000000 in
theorem markBox_o (S : Nat → Prop) (v : Value) (x : BoxD) (k : Int) (w : World) (hv : BoxO w S v x) (hS : ∀ b, S b → b < w.heap.size) (hn : x.name.length ≤ 2000000) (hm : szM x.mails ≤ 2000000) (hg : x.gones.length ≤ 2000000) (hk0 : 0 ≤ k) (hk1 : k ≤ 1000000000) :
    Calls Tryd.prog 34 #[v, .int .i64 k] w fun e w' => e = .returned (.int .i64 (k + x.name.length + wMs x.mails + wGs x.gones)) ∧ BoxO w' S v (mkBoxV k x) ∧ Wr S w w' := by
  obtain ⟨c, rfl, u0, u1, u2, S0, S1, S2, rfl, h0, h1, h2, d0, d1, d2, i0⟩ := hv
  have hb : wMs x.mails ≤ 6000000 := by have := wMs_le x.mails; omega
  obtain ⟨a0, n0, c0, rfl⟩ := h0.bs.form3
  obtain ⟨a1, c1, rfl, -⟩ := (h1.rd fun _ _ _ _ => MailE.rd : MailsV _ _ _).form
  obtain ⟨a2, c2, rfl, -⟩ := (h2.rd fun _ _ _ _ h => h : GonesV _ _ _).form
  have N0 : ¬ S0 w.heap.size := fun h => by have := hS _ (d0 _ h).1; omega
  have N1 : ¬ S1 w.heap.size := fun h => by have := hS _ (d1 _ h).1; omega
  have AB : Below w.heap.size w (w.alloc (.cells #[.slice a0 n0 c0, .int .i64 x.valid, .int .i64 x.next, .int .i64 x.seq, .slice a1 x.mails.length c1, .slice a2 x.gones.length c2, .int .i64 x.lost] 35)) := (Below.refl _ _).alloc (Nat.le_refl _) _
  have hsz : w.heap.size < (w.alloc (.cells #[.slice a0 n0 c0, .int .i64 x.valid, .int .i64 x.next, .int .i64 x.seq, .slice a1 x.mails.length c1, .slice a2 x.gones.length c2, .int .i64 x.lost] 35)).heap.size := by simp
  have H0 : Hid (RO (w.alloc (.cells #[.slice a0 n0 c0, .int .i64 x.valid, .int .i64 x.next, .int .i64 x.seq, .slice a1 x.mails.length c1, .slice a2 x.gones.length c2, .int .i64 x.lost] 35)) S0 (.slice a0 n0 c0) x.name) := h0.below AB
  have H1 : Hid (MailsO (w.alloc (.cells #[.slice a0 n0 c0, .int .i64 x.valid, .int .i64 x.next, .int .i64 x.seq, .slice a1 x.mails.length c1, .slice a2 x.gones.length c2, .int .i64 x.lost] 35)) S1 (.slice a1 x.mails.length c1) x.mails) := h1.below framesMail AB
  have H2 : Hid (GonesO (w.alloc (.cells #[.slice a0 n0 c0, .int .i64 x.valid, .int .i64 x.next, .int .i64 x.seq, .slice a1 x.mails.length c1, .slice a2 x.gones.length c2, .int .i64 x.lost] 35)) S2 (.slice a2 x.gones.length c2) x.gones) := h2.below framesGone AB
  have HK : Hid ((w.alloc (.cells #[.slice a0 n0 c0, .int .i64 x.valid, .int .i64 x.next, .int .i64 x.seq, .slice a1 x.mails.length c1, .slice a2 x.gones.length c2, .int .i64 x.lost] 35)).heap[w.heap.size]? = some (.cells #[.slice a0 n0 c0, .int .i64 x.valid, .int .i64 x.next, .int .i64 x.seq, .slice a1 x.mails.length c1, .slice a2 x.gones.length c2, .int .i64 x.lost] 35)) := box_new w _
  have HAB : Hid (Below w.heap.size w (w.alloc (.cells #[.slice a0 n0 c0, .int .i64 x.valid, .int .i64 x.next, .int .i64 x.seq, .slice a1 x.mails.length c1, .slice a2 x.gones.length c2, .int .i64 x.lost] 35))) := AB
  have HD : Hid ((∀ y, S0 y → S y ∧ ¬ S1 y ∧ ¬ S2 y) ∧ (∀ y, S1 y → S y ∧ ¬ S2 y) ∧ (∀ y, S2 y → S y)) := ⟨d0, d1, d2⟩
  clear h0 h1 h2 d0 d1 d2 AB
  obtain ⟨f0, f1, f2, f3, f4, f5, f6⟩ := bx7 HK.out
  go_enter Tryd.func34, Tryd.ntmps34
  go_wp2_with fail
  refine (markByteS_o S0 _ x.name k _ H0.out hn hk0 (by omega)).mono ?_
  rintro e w1 ⟨rfl, R1, W1⟩
  have s1 := W1.size
  have K1 : w1.heap[w.heap.size]? = _ := (W1.block _ hsz N0).trans HK.out
  have G0 : Hid (RO w1 S0 (.slice a0 n0 c0) (marks k x.name.length)) := R1
  have G1 : Hid (MailsO w1 S1 (.slice a1 x.mails.length c1) x.mails) := H1.out.frame framesMail fun b hb hlt => W1.block b hlt fun h => (HD.out.1 b h).2.1 hb
  have G2 : Hid (GonesO w1 S2 (.slice a2 x.gones.length c2) x.gones) := H2.out.frame framesGone fun b hb hlt => W1.block b hlt fun h => (HD.out.1 b h).2.2 hb
  have HW1 : Hid (Wr S w w1) := (Wr.of_below HAB.out).trans (W1.mono fun b h => (HD.out.1 b h).1)
  clear f0 f1 f2 f3 f4 f5 f6 R1 H0 H1 H2 HK W1 HAB
  obtain ⟨f0, f1, f2, f3, f4, f5, f6⟩ := bx7 K1
  have hlA := lt_of_heap K1
  go_wp2_with fail
  refine (markMailS_o S1 _ x.mails _ _ G1.out hm (by omega) (by omega)).mono ?_
  rintro e w2 ⟨rfl, R2, W2⟩
  have s2 := W2.size
  have K2 : w2.heap[w.heap.size]? = _ := (W2.block _ hlA N1).trans K1
  have J0 : Hid (RO w2 S0 (.slice a0 n0 c0) (marks k x.name.length)) := G0.out.frame fun b hb hlt => W2.block b hlt (HD.out.1 b hb).2.1
  have J1 : Hid (MailsO w2 S1 (.slice a1 x.mails.length c1) (mkMails (k + x.name.length) x.mails)) := R2
  have J2 : Hid (GonesO w2 S2 (.slice a2 x.gones.length c2) x.gones) := G2.out.frame framesGone fun b hb hlt => W2.block b hlt fun h => (HD.out.2.1 b h).2 hb
  have HW2 : Hid (Wr S w w2) := HW1.out.trans (W2.mono fun b h => (HD.out.2.1 b h).1)
  clear f0 f1 f2 f3 f4 f5 f6 R2 G0 G1 G2 K1 W2 HW1 hlA
  obtain ⟨f0, f1, f2, f3, f4, f5, f6⟩ := bx7 K2
  have hlA := lt_of_heap K2
  clear K2
  go_wp2_with fail
  refine (markGoneS_o S2 _ x.gones _ _ J2.out hg (by omega) (by omega)).mono ?_
  rintro e w3 ⟨rfl, R3, W3⟩
  have HF : Hid (BoxO w3 S (.agg #[.slice a0 n0 c0, .int .i64 x.valid, .int .i64 x.next, .int .i64 x.seq, .slice a1 x.mails.length c1, .slice a2 x.gones.length c2, .int .i64 x.lost]) (mkBoxV k x) ∧ Wr S w w3) := by
    refine ⟨⟨_, rfl, .slice a0 n0 c0, .slice a1 x.mails.length c1, .slice a2 x.gones.length c2, S0, S1, S2, rfl, ?_, ?_, R3, HD.out.1, HD.out.2.1, HD.out.2.2, i0⟩, HW2.out.trans (W3.mono HD.out.2.2)⟩
    · exact J0.out.frame fun b hb hlt => W3.block b hlt (HD.out.1 b hb).2.2
    · exact J1.out.frame framesMail fun b hb hlt => W3.block b hlt (HD.out.2.1 b hb).2
  clear R3 W3 J0 J1 J2 HW2 HD f0 f1 f2 f3 f4 f5 f6 hlA
  go_wp2
  go_ret
  exact ⟨rfl, HF.out.1, HF.out.2⟩

end Go.Proofs.YtmonloebkdpahaaDoor

/- What markReply of package laws does. -/
namespace Go.Proofs.YtmonloebkdpahaaDoor
open Go.RowKit
set_option maxRecDepth 100000
set_option linter.unusedVariables false

def mkRep (k : Int) (x : RepD) : RepD := ⟨x.code, x.num, mkBoxV k x.box, mkNames (k + x.box.name.length + wMs x.box.mails + wGs x.box.gones) x.names⟩
def wRep (x : RepD) : Nat := x.box.name.length + wMs x.box.mails + wGs x.box.gones + wNs x.names

set_option maxRecDepth 100000 in
set_option maxHeartbeats 2000000 in
theorem markReply_w (B T : Nat) (v : Value) (x : RepD) (k : Int) (w : World) (hv : RepR w B T v x) (hT : T ≤ w.heap.size) (hn : x.box.name.length ≤ 2000000) (hm : szM x.box.mails ≤ 2000000) (hg : x.box.gones.length ≤ 2000000) (hN : szN x.names ≤ 2000000) (hk0 : 0 ≤ k) (hk1 : k ≤ 100000000) :
    Calls Tryd.prog 11 #[v, .int .i64 k] w fun e w' => e = .returned (.int .i64 (k + x.box.name.length + wMs x.box.mails + wGs x.box.gones + wNs x.names)) ∧ RepR w' B T v (mkRep k x) ∧ Within B T w w' := by
  obtain ⟨a0, n0, c0, a1, c1, a2, c2, a3, c3, rfl⟩ := hv.rv.form
  obtain ⟨u0, u1, u2, u3, T0, e, hb, hN', j0, j1, hi⟩ := hv
  simp only [Value.agg.injEq, Array.mk.injEq, List.cons.injEq, and_true, true_and] at e
  obtain ⟨rfl, rfl, rfl, rfl⟩ := e
  have hwm : wMs x.box.mails ≤ 6000000 := by have := wMs_le x.box.mails; omega
  have hwg : wGs x.box.gones ≤ 4000000 := by have := wGs_eq x.box.gones; omega
  have AB : Below w.heap.size w (w.alloc (.cells #[.int .i64 x.code, .int .i64 x.num, .slice a0 n0 c0, .int .i64 x.box.valid, .int .i64 x.box.next, .int .i64 x.box.seq, .slice a1 x.box.mails.length c1, .slice a2 x.box.gones.length c2, .int .i64 x.box.lost, .slice a3 x.names.length c3] 37)) := (Below.refl _ _).alloc (Nat.le_refl _) _
  have kA := box_new w (.cells #[.int .i64 x.code, .int .i64 x.num, .slice a0 n0 c0, .int .i64 x.box.valid, .int .i64 x.box.next, .int .i64 x.box.seq, .slice a1 x.box.mails.length c1, .slice a2 x.box.gones.length c2, .int .i64 x.box.lost, .slice a3 x.names.length c3] 37)
  have HB : Hid (BoxO (w.alloc (.cells #[.int .i64 x.code, .int .i64 x.num, .slice a0 n0 c0, .int .i64 x.box.valid, .int .i64 x.box.next, .int .i64 x.box.seq, .slice a1 x.box.mails.length c1, .slice a2 x.box.gones.length c2, .int .i64 x.box.lost, .slice a3 x.names.length c3] 37)) (In B T0) (.agg #[.slice a0 n0 c0, .int .i64 x.box.valid, .int .i64 x.box.next, .int .i64 x.box.seq, .slice a1 x.box.mails.length c1, .slice a2 x.box.gones.length c2, .int .i64 x.box.lost]) x.box) := ⟨_, rfl, framesBox _ _ _ _ _ hb fun b _ hlt => AB.block b hlt⟩
  have HN : Hid (NamesO (w.alloc (.cells #[.int .i64 x.code, .int .i64 x.num, .slice a0 n0 c0, .int .i64 x.box.valid, .int .i64 x.box.next, .int .i64 x.box.seq, .slice a1 x.box.mails.length c1, .slice a2 x.box.gones.length c2, .int .i64 x.box.lost, .slice a3 x.names.length c3] 37)) (In T0 T) (.slice a3 x.names.length c3) x.names) := hN'.below framesName AB
  have HW : Hid (Within B T w (w.alloc (.cells #[.int .i64 x.code, .int .i64 x.num, .slice a0 n0 c0, .int .i64 x.box.valid, .int .i64 x.box.next, .int .i64 x.box.seq, .slice a1 x.box.mails.length c1, .slice a2 x.box.gones.length c2, .int .i64 x.box.lost, .slice a3 x.names.length c3] 37))) := Within.ofBelow AB
  have hsA : w.heap.size < (w.alloc (.cells #[.int .i64 x.code, .int .i64 x.num, .slice a0 n0 c0, .int .i64 x.box.valid, .int .i64 x.box.next, .int .i64 x.box.seq, .slice a1 x.box.mails.length c1, .slice a2 x.box.gones.length c2, .int .i64 x.box.lost, .slice a3 x.names.length c3] 37)).heap.size := by simp
  clear AB hb hN'
  go_enter Tryd.func11, Tryd.ntmps11
  go_wp2_with fail
  refine (markBox_o (In B T0) _ x.box k _ HB.out (fun b hb => by have := hb.2; omega) hn hm hg hk0 (by omega)).mono ?_
  rintro e w1 ⟨rfl, R1, W1⟩
  have G1 := W1.within
  have HN1 : Hid (NamesO w1 (In T0 T) (.slice a3 x.names.length c3) x.names) := HN.out.frame framesName fun b hb hlt => G1.block b hlt (by have := hb.1; omega)
  have HB1 : Hid (BoxO w1 (In B T0) (.agg #[.slice a0 n0 c0, .int .i64 x.box.valid, .int .i64 x.box.next, .int .i64 x.box.seq, .slice a1 x.box.mails.length c1, .slice a2 x.box.gones.length c2, .int .i64 x.box.lost]) (mkBoxV k x.box)) := R1
  have HW1 : Hid (Within B T w w1) := HW.out.trans (G1.wide (Nat.le_refl _) j1)
  replace kA := box_within G1 kA (.inr (by omega))
  have hs1 := G1.size
  clear G1 W1 HB HN HW R1
  obtain ⟨f0, f1, f2, f3, f4, f5, f6, f7, f8, f9⟩ := bx10 kA
  have hlA := lt_of_heap kA
  clear kA
  go_wp2_with fail
  refine (markByteSS_o (In T0 T) _ x.names _ _ HN1.out hN (by omega) (by omega)).mono ?_
  rintro e w2 ⟨rfl, R2, W2⟩
  have G2 := W2.within
  have HF : Hid (RepR w2 B T (.agg #[.int .i64 x.code, .int .i64 x.num, .slice a0 n0 c0, .int .i64 x.box.valid, .int .i64 x.box.next, .int .i64 x.box.seq, .slice a1 x.box.mails.length c1, .slice a2 x.box.gones.length c2, .int .i64 x.box.lost, .slice a3 x.names.length c3]) (mkRep k x) ∧ Within B T w w2) := by
    obtain ⟨c, e, hc⟩ := HB1.out
    obtain rfl : c = [.slice a0 n0 c0, .int .i64 x.box.valid, .int .i64 x.box.next, .int .i64 x.box.seq, .slice a1 x.box.mails.length c1, .slice a2 x.box.gones.length c2, .int .i64 x.box.lost] := by
      have := congrArg (fun v => match v with | .agg c => c.toList | _ => []) e
      simpa using this.symm
    refine ⟨⟨.slice a0 n0 c0, .slice a1 x.box.mails.length c1, .slice a2 x.box.gones.length c2, .slice a3 x.names.length c3, T0, rfl, ?_, R2, j0, j1, hi⟩, HW1.out.trans (G2.wide j0 (Nat.le_refl _))⟩
    · have := framesBox _ _ _ _ _ hc fun b hb hlt => G2.block b hlt (by have := hb.2; omega)
      exact this
  clear R2 W2 G2 HN1 HB1 HW1 f0 f1 f2 f3 f4 f5 f6 f7 f8 f9 hlA
  go_wp2
  go_ret
  exact ⟨rfl, HF.out.1, HF.out.2⟩

end Go.Proofs.YtmonloebkdpahaaDoor

/- Names, texts and commands as plain lists and numbers: no program is named here. -/
namespace Go.Proofs.YtmonloebkdpahaaDoor

theorem ret_b {a b : Bool} (h : b = a) : Ending.returned (.bool a) = .returned (.bool b) := by rw [h]

/-- Every number of the list lies between two. -/
def allIn (lo hi : Int) (l : List Int) : Bool := l.all fun x => decide (lo ≤ x) && decide (x ≤ hi)
/-- A name: one to six small letters. -/
def nameB (l : List Int) : Bool := decide (1 ≤ l.length) && (decide (l.length ≤ 6) && allIn 97 122 l)
/-- A text: at most thirty bytes that can be seen. -/
def textB (l : List Int) : Bool := decide (l.length ≤ 30) && allIn 32 126 l
/-- A number lies between two. -/
def inB (n lo hi : Int) : Bool := decide (lo ≤ n) && decide (n ≤ hi)

theorem allIn_yes {lo hi : Int} {l : List Int} (h : ∀ j, j < l.length → lo ≤ l.getD j 0 ∧ l.getD j 0 ≤ hi) : allIn lo hi l = true := by
  unfold allIn
  rw [List.all_eq_true]
  intro x hx
  obtain ⟨j, hj, rfl⟩ := List.getElem_of_mem hx
  have := h j hj
  simp [hj] at this
  simp [this]
theorem allIn_no {lo hi : Int} {l : List Int} (j : Nat) (hj : j < l.length) (h : ¬ (lo ≤ l.getD j 0 ∧ l.getD j 0 ≤ hi)) : allIn lo hi l = false := by
  cases e : allIn lo hi l with
  | false => rfl
  | true =>
    exfalso
    unfold allIn at e
    rw [List.all_eq_true] at e
    have := e _ (List.getElem_mem hj)
    simp [hj] at h
    simp at this
    omega

theorem ret_i {k : IntKind} {a b : Int} (h : a = b) : Ending.returned (.int k a) = .returned (.int k b) := by rw [h]
/-- The place of the first that fits; -1 where there is none. -/
def firstI {α : Type} (p : α → Bool) (l : List α) : Int := match l.findIdx? p with | some i => i | none => -1
theorem firstI_hit {p : Int → Bool} {l : List Int} {k : Nat} (hk : k < l.length) (h : p (l.getD k 0) = true) (hA : ∀ j, j < k → p (l.getD j 0) = false) : firstI p l = k := by
  have : l.findIdx? p = some k := by
    rw [List.findIdx?_eq_some_iff_getElem]
    refine ⟨hk, by simpa [hk] using h, fun j hj => ?_⟩
    have := hA j hj
    simp [show j < l.length by omega] at this
    simp [this]
  simp [firstI, this]
theorem firstI_none {p : Int → Bool} {l : List Int} (hA : ∀ j, j < l.length → p (l.getD j 0) = false) : firstI p l = -1 := by
  have : l.findIdx? p = none := by
    rw [List.findIdx?_eq_none_iff]
    intro x hx
    obtain ⟨j, hj, rfl⟩ := List.getElem_of_mem hx
    have := hA j hj
    simpa [hj] using this
  simp [firstI, this]
theorem any_firstI {α : Type} (p : α → Bool) (l : List α) : l.any p = decide (0 ≤ firstI p l) := by
  unfold firstI
  cases h : l.findIdx? p with
  | none =>
    rw [List.findIdx?_eq_none_iff] at h
    simp only [show ¬ (0 : Int) ≤ -1 by omega, decide_false]
    rw [List.any_eq_false]
    intro x hx
    simp [h x hx]
  | some i =>
    rw [List.findIdx?_eq_some_iff_getElem] at h
    obtain ⟨hi, hp, -⟩ := h
    simp only [show (0 : Int) ≤ (i : Int) by omega, decide_true]
    rw [List.any_eq_true]
    exact ⟨_, List.getElem_mem hi, hp⟩

/-- Which kinds have a second name, a number of a mail, flags and how, a number of a change, a text. -/
def toB (k : Int) : Bool := decide (k = 6)
def uidB (k : Int) : Bool := decide (k = 3) || (decide (k = 5) || decide (k = 6))
def modeB (k : Int) : Bool := decide (k = 2) || (decide (k = 3) || decide (k = 6))
def sinceB (k : Int) : Bool := decide (k = 3) || decide (k = 8)
def textsB (k : Int) : Bool := decide (k = 2)

/-- A command that may be. -/
def cmdB (k : Int) (bx tt : List Int) (uid mode fl si : Int) (tx : List Int) : Bool :=
  decide (0 ≤ k ∧ k ≤ 9) && (if k = 9 then decide (bx.length = 0) else nameB bx) && (if k = 6 then nameB tt else decide (tt.length = 0)) &&
  (if k = 3 ∨ k = 5 ∨ k = 6 then inB uid 1 1000000 else decide (uid = 0)) && inB mode 0 (if k = 3 then 2 else if k = 6 then 1 else 0) &&
  inB fl 0 (if k = 2 ∨ k = 3 then 31 else 0) && inB si 0 (if k = 3 ∨ k = 8 then 1000000 else 0) && (if k = 2 then textB tx else decide (tx.length = 0))

theorem nameB_len {l : List Int} (h : nameB l = true) : 1 ≤ l.length ∧ l.length ≤ 6 := by unfold nameB at h; simp at h; exact ⟨h.1, h.2.1⟩
theorem textB_nil {l : List Int} (h : l.length = 0) : textB l = true := by
  have : l = [] := List.eq_nil_of_length_eq_zero h
  subst this; rfl
theorem nameB_nil {l : List Int} (h : l.length = 0) : nameB l = false := by
  have : l = [] := List.eq_nil_of_length_eq_zero h
  subst this; rfl

end Go.Proofs.YtmonloebkdpahaaDoor

/- What may be: boxes and accounts, as plain data. -/
namespace Go.Proofs.YtmonloebkdpahaaDoor

/-- The bytes of a list of numbers; which of two comes first. -/
def bts (l : List Int) : List UInt8 := l.map fun n => UInt8.ofNat n.toNat
def lessB (l m : List Int) : Bool := Op.bytesLess (bts l) (bts m)
theorem less_cmp : ∀ (a b : List UInt8), decide (0 ≤ Lib.compareBytes a b) = !Op.bytesLess a b
  | [], [] => rfl
  | [], _ :: _ => rfl
  | _ :: _, [] => rfl
  | a :: x, b :: y => by
    have ih := less_cmp x y
    unfold Lib.compareBytes Op.bytesLess
    by_cases h1 : a < b
    · simp [h1]
    · by_cases h2 : b < a
      · have hne : (a == b) = false := by simp; intro e; subst e; exact absurd h2 (UInt8.lt_irrefl _)
        simp [h1, h2, hne]
      · have he : a = b := UInt8.le_antisymm (UInt8.not_lt.1 h2) (UInt8.not_lt.1 h1)
        subst he
        simp only [h1, if_false, decide_false, Bool.false_or, BEq.rfl, Bool.true_and]
        exact ih

theorem rangeAll_yes {n : Nat} {f : Nat → Bool} (h : ∀ j, j < n → f j = true) : (List.range n).all f = true := by
  rw [List.all_eq_true]; intro j hj; exact h j (List.mem_range.1 hj)
theorem rangeAll_no {n : Nat} {f : Nat → Bool} (j : Nat) (hj : j < n) (h : f j = false) : (List.range n).all f = false := by
  rw [List.all_eq_false]; exact ⟨j, List.mem_range.2 hj, by simp [h]⟩
theorem and_false_of {a b : Bool} (h : b = false) : (a && b) = false := by rw [h]; cases a <;> rfl
theorem and_of {a b c : Bool} (h : a = true) (h' : b = c) : (a && b) = c := by rw [h, h']; rfl

def prevI (l : List Int) : Nat → Int
  | 0 => 0
  | i + 1 => l.getD i 0
def seenAt (l : List Int) (i : Nat) : Bool := inB (l.getD i 0) (prevI l i + 1) 1000000
def seenB (l : List Int) : Bool := decide (l.length ≤ 60) && (List.range l.length).all (seenAt l)
theorem prevI_ok {l : List Int} {k : Nat} (hk : k ≤ l.length) (h : ∀ j, j < k → seenAt l j = true) : 0 ≤ prevI l k ∧ prevI l k ≤ 1000000 ∧ (0 < k → 1 ≤ prevI l k) := by
  induction k with
  | zero => simp [prevI]
  | succ k ih =>
    have h1 := ih (by omega) (fun j hj => h j (by omega))
    have h2 := h k (by omega)
    simp only [seenAt, inB, Bool.and_eq_true, decide_eq_true_eq] at h2
    simp only [prevI]
    omega

def prevU (l : List MailD) : Nat → Int
  | 0 => 0
  | i + 1 => match l[i]? with | some m => m.uid | none => 0
def mailAt (b : BoxD) (i : Nat) : Bool := match b.mails[i]? with
  | some m => inB m.uid (prevU b.mails i + 1) (b.next - 1) && (inB m.flags 0 31 && (inB m.seq 1 b.seq && textB m.text))
  | none => true
def mailsB (b : BoxD) : Bool := decide (b.mails.length ≤ 12) && (List.range b.mails.length).all (mailAt b)
theorem prevU_ok {b : BoxD} {k : Nat} (hn : b.next ≤ 1000000) (hk : k ≤ b.mails.length) (h : ∀ j, j < k → mailAt b j = true) : 0 ≤ prevU b.mails k ∧ prevU b.mails k ≤ 1000000 := by
  induction k with
  | zero => simp [prevU]
  | succ k ih =>
    have h1 := ih (by omega) (fun j hj => h j (by omega))
    have h2 := h k (by omega)
    obtain ⟨m, hm⟩ : ∃ m, b.mails[k]? = some m := ⟨b.mails[k]'(by omega), List.getElem?_eq_getElem (by omega)⟩
    simp only [mailAt, hm, inB, Bool.and_eq_true, decide_eq_true_eq] at h2
    simp only [prevU, hm]
    omega

def minS (b : BoxD) : Nat → Int
  | 0 => max 1 b.lost
  | i + 1 => match b.gones[i]? with | some g => g.seq | none => 0
def goneAt (b : BoxD) (i : Nat) : Bool := match b.gones[i]? with
  | some g => inB g.uid 1 (b.next - 1) && (inB g.seq (minS b i) b.seq && (!(b.mails.any fun m => decide (m.uid = g.uid)) && !((b.gones.take i).any fun o => decide (o.uid = g.uid))))
  | none => true
def gonesB (b : BoxD) : Bool := decide (b.gones.length ≤ 40) && (List.range b.gones.length).all (goneAt b)
theorem minS_ok {b : BoxD} {k : Nat} (hk : k ≤ b.gones.length) (h : ∀ j, j < k → goneAt b j = true) : 1 ≤ minS b k ∧ b.lost ≤ minS b k := by
  induction k with
  | zero => simp only [minS]; omega
  | succ k ih =>
    have h1 := ih (by omega) (fun j hj => h j (by omega))
    have h2 := h k (by omega)
    obtain ⟨m, hm⟩ : ∃ m, b.gones[k]? = some m := ⟨b.gones[k]'(by omega), List.getElem?_eq_getElem (by omega)⟩
    simp only [goneAt, hm, inB, Bool.and_eq_true, decide_eq_true_eq] at h2
    simp only [minS, hm]
    omega

def boxB (b : BoxD) (valid : Int) : Bool := nameB b.name && (inB b.valid 1 valid && (inB b.next 1 1000000 && (inB b.seq 0 1000000 && (inB b.lost 0 b.seq && (mailsB b && gonesB b)))))
def nameAt (l : List BoxD) (i : Nat) : List Int := match l[i]? with | some b => b.name | none => []
def aheadB (l : List BoxD) (b : BoxD) : Nat → Bool
  | 0 => true
  | i + 1 => lessB (nameAt l i) b.name
def boxAt (a : AccD) (i : Nat) : Bool := match a.boxes[i]? with
  | some b => boxB b a.valid && (aheadB a.boxes b i && !((a.boxes.take i).any fun o => decide (o.valid = b.valid)))
  | none => true
def accB (a : AccD) : Bool := inB a.valid 0 1000000 && (decide (a.boxes.length ≤ 4) && (seenB a.seen && (List.range a.boxes.length).all (boxAt a)))

end Go.Proofs.YtmonloebkdpahaaDoor

/- Replies that may be. -/
namespace Go.Proofs.YtmonloebkdpahaaDoor

def zX (n0 : Nat) (valid next seq : Int) (nm ng : Nat) (lost : Int) : Bool := decide (n0 = 0 ∧ valid = 0 ∧ next = 0 ∧ seq = 0 ∧ nm = 0 ∧ ng = 0 ∧ lost = 0)
def zeroX (b : BoxD) : Bool := zX b.name.length b.valid b.next b.seq b.mails.length b.gones.length b.lost
def badN (n : List Int) : Bool := !nameB n
def repB (x : RepD) : Bool := inB x.code 0 6 && (inB x.num 0 1000000 && (decide (x.names.length ≤ 4) && (!(x.names.any badN) && (zeroX x.box || boxB x.box 1000000))))
theorem repB_out {x : RepD} (h : ¬ ((0 ≤ x.code ∧ x.code ≤ 6) ∧ (0 ≤ x.num ∧ x.num ≤ 1000000) ∧ x.names.length ≤ 4)) : repB x = false := by
  rw [Bool.eq_false_iff]
  intro e
  simp only [repB, inB, Bool.and_eq_true, decide_eq_true_eq] at e
  exact h ⟨e.1, e.2.1, e.2.2.1⟩
theorem repB_in {x : RepD} (h : (0 ≤ x.code ∧ x.code ≤ 6) ∧ (0 ≤ x.num ∧ x.num ≤ 1000000) ∧ x.names.length ≤ 4) : repB x = (!(x.names.any badN) && (zeroX x.box || boxB x.box 1000000)) := by
  simp [repB, inB, h.1.1, h.1.2, h.2.1.1, h.2.1.2, h.2.2]
theorem names_bad {l : List (List Int)} {k : Nat} {x : List Int} (hx : l[k]? = some x) (h : nameB x = false) : l.any badN = true := by
  rw [List.any_eq_true]
  exact ⟨x, List.mem_of_getElem? hx, by simp [badN, h]⟩
theorem names_good {l : List (List Int)} (h : ∀ j x, j < l.length → l[j]? = some x → nameB x = true) : l.any badN = false := by
  rw [List.any_eq_false]
  intro x hx
  obtain ⟨i, hi, rfl⟩ := List.mem_iff_getElem.1 hx
  simp [badN, h i _ hi (List.getElem?_eq_getElem hi)]

end Go.Proofs.YtmonloebkdpahaaDoor

/- The bytes of a slice as a string. -/
namespace Go.Proofs.YtmonloebkdpahaaDoor
open Go.RowKit

theorem underlyingStr : Tryd.prog.underlying 9 = some .string := by kernel_rfl

/-- The bytes of a slice as a string. -/
theorem run_convert_bs {w : World} {v : Value} {l : List Int} (h : Bs w v l) : (convert 22 9 v).run Tryd.prog w = .ok (.string (strOfNums l)) w := by
  obtain ⟨ho, a, cap, rfl, h1, h2, h3, h4⟩ := h
  cases a with
  | none =>
    have hc := h3 rfl
    have : l = [] := List.eq_nil_of_length_eq_zero (by omega)
    subst this
    exact run_convert_bytes_nil w 22 5 Tryd.underlying22 Tryd.underlying5 _ _ 9 underlyingStr
  | some x =>
    by_cases h0 : l = []
    · subst h0
      rw [run_convert_bytes_string w 22 9 5 _ _ _ Tryd.underlying22 Tryd.underlying5 underlyingStr]
      exact run_bytesToString w x 0 cap [] (by simp [loadCells, loadCellsFrom])
    · obtain ⟨b, off, hx, _, hc⟩ := h4 (List.length_pos_iff.2 h0)
      cases hx
      exact run_convert_bytes_arg w 22 5 Tryd.underlying22 Tryd.underlying5 b off l.length cap l rfl hc 9 underlyingStr

end Go.Proofs.YtmonloebkdpahaaDoor

/- Numbers, flags and texts as lines have them, on lists. -/
namespace Go.Proofs.YtmonloebkdpahaaDoor
open Go.RowKit

theorem flat_len {α : Type} (f : α → List Int) (c : Nat) (l : List α) (h : ∀ x, x ∈ l → (f x).length ≤ c) : (l.flatMap f).length ≤ c * l.length := by
  induction l with
  | nil => simp
  | cons x l ih =>
    have h1 := h x (by simp)
    have h2 := ih fun y hy => h y (by simp [hy])
    simp only [List.flatMap_cons, List.length_append, List.length_cons, Nat.mul_add]
    omega
theorem flat_step {α : Type} (f : α → List Int) {l : List α} {j : Nat} {x : α} (h : l[j]? = some x) : (l.take (j + 1)).flatMap f = (l.take j).flatMap f ++ f x := by
  have hj : j < l.length := (List.getElem?_eq_some_iff.1 h).1
  rw [List.take_succ_eq_append_getElem hj, (List.getElem?_eq_some_iff.1 h).2]
  simp

def ofU8 (l : List UInt8) : List Int := l.map fun b => (b.toNat : Int)
theorem ofU8_append (a b : List UInt8) : ofU8 (a ++ b) = ofU8 a ++ ofU8 b := by simp [ofU8]
theorem ofU8_oct (l : List UInt8) : Oct (ofU8 l) := by
  intro x hx
  obtain ⟨b, _, rfl⟩ := List.mem_map.1 hx
  have := b.toNat_lt
  omega
/-- The decimal digits of a number. -/
def digB (n : Nat) : List Int := ofU8 (Lib.decDigits n)
theorem digB_small {n : Nat} (h : n < 10) : digB n = [48 + (n : Int)] := by
  rw [digB, Lib.decDigits, dif_pos h]
  simp only [ofU8, List.map_cons, List.map_nil, List.cons.injEq, and_true]
  rw [UInt8.toNat_ofNat']
  omega
theorem digB_big {n : Nat} (h : ¬ n < 10) : digB n = digB (n / 10) ++ [48 + ((n % 10 : Nat) : Int)] := by
  rw [digB, Lib.decDigits, dif_neg h, ofU8_append, digB]
  congr 1
  simp only [ofU8, List.map_cons, List.map_nil, List.cons.injEq, and_true]
  rw [UInt8.toNat_ofNat']
  omega
theorem digB_len (n : Nat) : (digB n).length ≤ n + 1 := by
  induction n using Nat.strongRecOn with
  | ind n ih =>
    by_cases h : n < 10
    · rw [digB_small h]; simp
    · rw [digB_big h]
      have := ih (n / 10) (by omega)
      simp only [List.length_append, List.length_cons, List.length_nil]
      omega
theorem digB_len10 {n : Nat} (h : n ≤ 9999999) : (digB n).length ≤ 8 := by
  have step : ∀ k : Nat, ∀ n : Nat, n < 10 ^ (k + 1) → (digB n).length ≤ k + 1 := by
    intro k
    induction k with
    | zero => intro n hn; rw [digB_small (by omega)]; simp
    | succ k ih =>
      intro n hn
      by_cases h : n < 10
      · rw [digB_small h]; simp
      · rw [digB_big h]
        have := ih (n / 10) (by rw [Nat.pow_succ] at hn; omega)
        simp only [List.length_append, List.length_cons, List.length_nil]
        omega
  exact Nat.le_trans (step 6 n (by omega)) (by omega)

/-- A byte of a text between quotes. -/
def escB (x : Int) : List Int := if x = 34 ∨ x = 92 then [92, x] else [x]
def quoB (t : List Int) : List Int := [34] ++ t.flatMap escB ++ [34]
theorem escB_len (x : Int) : (escB x).length ≤ 2 := by unfold escB; split <;> simp

/-- Flags: a letter for each that is there. -/
def letB (i : Nat) : Int := match i with
  | 0 => 83
  | 1 => 65
  | 2 => 70
  | 3 => 68
  | _ => 82
def flagAt (f : Int) (i : Nat) : List Int := if f.toNat / 2 ^ i % 2 = 1 then [letB i] else []
def flagsB (f : Int) : List Int := [40] ++ (List.range 5).flatMap (flagAt f) ++ [41]

end Go.Proofs.YtmonloebkdpahaaDoor

/- Strings put behind bytes of the call's own. -/
namespace Go.Proofs.YtmonloebkdpahaaDoor
open Go.RowKit

theorem strCells_nums {s : List Int} (h : Oct s) : Lib.strCells (strOfNums s) = vals s := by
  unfold Lib.strCells vals
  rw [strOfNums_data, List.map_map]
  refine List.map_congr_left fun x hx => ?_
  have := h x hx
  simp only [Function.comp]
  rw [UInt8.toNat_ofNat']
  congr 1
  omega

theorem wpList_append_str {P : Program} {w : World} {ops : Array Oper} {rest : List Oper} {o : Oper} {a : Act} {Q : Exit → Act → World → Prop} (hgd : o.guard = none) (s x : Operand) (t u : TypeId)
    (ho : o.op = .call { callee := .builtin .append, args := #[s, x], argTypes := #[t, u] })
    (i : TypeInfo) (ht : P.underlying t = some (.slice 5)) (hu : P.underlying u = some .string) (hi : P.info? 5 = some i) (hz : i.zero = some (.int .u8 0)) (hsize : i.size = 1) (hby : i.bytes = 1)
    (B : Nat) (v : Value) (l : List Int) (hs : a.eval s = v) (hown : OwnB w B v l) (m : List Int) (hx : a.eval x = .string (strOfNums m)) (hm : Oct m)
    (hlen : l.length + m.length ≤ 140737488355328) (hbase : B ≤ w.heap.size) (w0 : World) (hb : Below B w0 w)
    (h : ∀ v' w', OwnB w' B v' (l ++ m) → Below B w0 w' → w.grownBy w' v.ownBlock → wpList P ops Q rest (a.put o.dst v') w') : wpList P ops Q (o :: rest) a w := by
  have hr := hown.row
  have hl : l.length + (strOfNums m).size ≤ maxLen := by rw [strOfNums_size]; unfold maxLen; omega
  refine Lib.wpList_append_own_string (w := w) hgd s x t u ho B 5 i ht hu hi hz hsize hby v l.length (vals l) hs hr (strOfNums m) hx hl (by rw [strOfNums_size]; exact hlen) hbase ?_
  intro v' w' hown' hg _
  rw [strOfNums_size, strCells_nums hm] at hown'
  obtain ⟨g, hgB, hg'⟩ := own_of_row (n := l.length + m.length) (oct_append hown.oct hm) (by simp) (by rw [vals_append]; exact hown')
  exact h v' w' ⟨g, hgB, hg'⟩ (hb.grown hg hbase (fun k hk => (hr.lt k hk).1)) hg

end Go.Proofs.YtmonloebkdpahaaDoor

/- One byte in a block of its own; flags, one behind the other. -/
namespace Go.Proofs.YtmonloebkdpahaaDoor
open Go.RowKit

theorem ownB_one (w : World) (B : Nat) (hB : B ≤ w.heap.size) (x : Int) (h : 0 ≤ x ∧ x ≤ 255) : OwnB (w.alloc (.cells #[.int .u8 x] 5)) B (.slice (some ⟨w.heap.size, 0, none⟩) 1 1) [x] := by
  refine ⟨w.heap.size, hB, fun y hy => ?_, .inr ⟨1, #[.int .u8 x], rfl, heap_alloc_new w _, by simp, by unfold maxLen; omega, rfl, rfl⟩⟩
  simp only [List.mem_cons, List.not_mem_nil, or_false] at hy
  subst hy
  omega

theorem flagAt_len (f : Int) (i : Nat) : (flagAt f i).length ≤ 1 := by unfold flagAt; split <;> simp
theorem range5_step (f : Int) (k : Nat) : (List.range (k + 1)).flatMap (flagAt f) = (List.range k).flatMap (flagAt f) ++ flagAt f k := by simp [List.range_succ]

end Go.Proofs.YtmonloebkdpahaaDoor

/- What stays while bytes of the call's own are put behind one another: all below B, and all that are no bytes. -/
namespace Go.Proofs.YtmonloebkdpahaaDoor
open Go.RowKit

structure Tw (B : Nat) (w w' : World) : Prop where
  below : Below B w w'
  typed : ∀ (b : Nat) (c : Array Value) (t : TypeId) (f : Nat × Nat), t ≠ 5 → w.heap[b]? = some (Obj.cells c t f) → w'.heap[b]? = some (Obj.cells c t f)

theorem Tw.refl (B : Nat) (w : World) : Tw B w w := ⟨Below.refl _ _, fun _ _ _ _ _ h => h⟩
theorem Tw.trans {B : Nat} {a b c : World} (h : Tw B a b) (k : Tw B b c) : Tw B a c := ⟨h.below.trans k.below, fun i cs t f ht hc => k.typed i cs t f ht (h.typed i cs t f ht hc)⟩
theorem Tw.of_below {B : Nat} {w w' : World} (hB : B ≤ w.heap.size) (h : Below w.heap.size w w') : Tw B w w' := ⟨h.mono hB, fun b _ _ _ _ hb => (h.block b (lt_of_heap hb)).trans hb⟩
theorem Tw.alloc {B : Nat} {w : World} (hB : B ≤ w.heap.size) (o : Obj) : Tw B w (w.alloc o) := Tw.of_below hB ((Below.refl _ _).alloc (Nat.le_refl _) o)
theorem Tw.grown {B : Nat} {w w' : World} {v : Value} {l : List Int} (hv : OwnB w B v l) (hB : B ≤ w.heap.size) (hg : w.grownBy w' v.ownBlock) : Tw B w w' := by
  refine ⟨(Below.refl B w).grown hg hB (fun k hk => (hv.row.lt k hk).1), fun b c t f ht hb => (hg.block b (lt_of_heap hb) fun e => ?_).trans hb⟩
  obtain ⟨g, _, _, ⟨rfl, _⟩ | ⟨cap, cur, rfl, hh, _⟩⟩ := hv
  · simp [Value.ownBlock] at e
  · simp only [Value.ownBlock, Option.some.injEq] at e
    subst e
    rw [hb] at hh
    simp only [Option.some.injEq, Obj.cells.injEq] at hh
    exact ht hh.2.1
theorem Tw.size {B : Nat} {w w' : World} (h : Tw B w w') : w.heap.size ≤ w'.heap.size := h.below.size
theorem Tw.box {B g : Nat} {w w' : World} {c : Array Value} {t : TypeId} (h : Tw B w w') (ht : t ≠ 5) (hb : w.heap[g]? = some (.cells c t (0, 0))) : w'.heap[g]? = some (.cells c t (0, 0)) := h.typed g c t _ ht hb
theorem OwnB.nil' (w : World) (B : Nat) : OwnB w B (.slice none 0 0) [] := ⟨B, Nat.le_refl _, oct_nil, .inl ⟨rfl, rfl⟩⟩

end Go.Proofs.YtmonloebkdpahaaDoor

/- What putTokens, putLine of package impl do. -/
namespace Go.Proofs.YtmonloebkdpahaaDoor
open Go.RowKit
set_option maxRecDepth 100000
set_option linter.unusedVariables false

/-- A list of strings that is read. -/
def StrRE (_ : World) (c : List Value) (s : List Int) : Prop := c = [.string (strOfNums s)] ∧ Oct s
abbrev StrsV := Rd 1 StrRE
theorem keepsStr : Keeps StrRE := fun _ _ _ _ _ h => h
theorem StrsV.cell {w : World} {v : Value} {l : List (List Int)} (h : StrsV w v l) (k : Nat) (x : List Int) (hx : l[k]? = some x) : ∃ b off cap, v = .slice (some ⟨b, off, none⟩) l.length cap ∧ b < w.heap.size ∧ w.cell? ⟨b, off + k, none⟩ = some (.string (strOfNums x)) ∧ Oct x := by
  obtain ⟨b, off, cap, c, hv, hlt, ⟨rfl, hi⟩, -, hc⟩ := h.get k x hx
  exact ⟨b, off, cap, hv, hlt, by simpa using hc 0 _ rfl, hi⟩
def tokB (s : List Int) : List Int := [32] ++ s

set_option maxRecDepth 100000 in
set_option maxHeartbeats 1000000 in
theorem putTokens_b (B : Nat) (v bv : Value) (l wd : List Int) (ss : List (List Int)) (w : World) (hv : OwnB w B v l) (hB : B ≤ w.heap.size) (hwd : Oct wd) (hs : ∀ wi, Tw B w wi → StrsV wi bv ss)
    (hl : l.length ≤ 1000000) (hwl : wd.length ≤ 1000) (hsl : ss.length ≤ 100) (hst : ∀ s, s ∈ ss → s.length ≤ 1000) :
    Calls Tryd.prog 58 #[v, .string (strOfNums wd), bv] w fun e w' => ∃ u, e = .returned u ∧ OwnB w' B u (l ++ wd ++ ss.flatMap tokB) ∧ Tw B w w' := by
  have HS : Hid (∀ wi, Tw B w wi → StrsV wi bv ss) := hs
  obtain ⟨a, cap, rfl, m0, m1⟩ := (hs w (Tw.refl _ _)).form
  clear hs
  have HV : Hid (OwnB w B v l) := hv
  obtain ⟨va, vn, vc, rfl⟩ := hv.bs.form3
  clear hv
  obtain ⟨i0, hi, hz0, hz1, hz2⟩ := info_parts info5
  have HT : Hid (∀ k, ((ss.take k).flatMap tokB).length ≤ 1001 * (ss.take k).length) := fun k => flat_len tokB 1001 _ (fun s h => by have := hst s (List.mem_of_mem_take h); simp only [tokB, List.length_append, List.length_cons, List.length_nil]; omega)
  go_enter Tryd.func58, Tryd.ntmps58
  go_wp2_with (at_builtin; refine wpList_append_str rfl (.tmp 9) (.tmp 10) 22 9 rfl i0 Tryd.underlying22 Tryd.underlying9 hi hz0 hz1 hz2 B _ l rfl HV.out wd rfl hwd (by omega) hB w (Below.refl _ _) ?_)
  intro v1 w1 hO1 hB1 hG1
  have HO1 : Hid (OwnB w1 B v1 (l ++ wd ++ (ss.take 0).flatMap tokB)) := by simpa [Hid] using hO1
  have HT1 : Hid (Tw B w w1) := Tw.grown HV.out hB hG1
  clear hO1 hB1 hG1 HV
  go_wp2
  go_loopw [0, 14] (fun out i wr => ∃ k : Nat, k ≤ ss.length ∧ i = .int .i64 k ∧ Hid (OwnB wr B out (l ++ wd ++ (ss.take k).flatMap tokB)) ∧ Hid (Tw B w wr)) (fun _ i _ => ss.length - (intOf i).toNat)
  case atStart => exact ⟨0, Nat.zero_le _, rfl, HO1, HT1⟩
  case round =>
    clear HO1 HT1
    obtain ⟨k, hk, rfl, hO, hT⟩ := hrel
    have hsz := hT.out.size
    have hfl := HT.out k
    have htk : (ss.take k).length ≤ 100 := by simp; omega
    by_cases hlt : k < ss.length
    · obtain ⟨s, hx⟩ : ∃ s, ss[k]? = some s := ⟨ss[k], List.getElem?_eq_getElem hlt⟩
      obtain ⟨b, off, cap', hv', hlb, d0, hso⟩ := StrsV.cell (HS.out wr hT.out) k s hx
      simp only [Value.slice.injEq, true_and] at hv'
      obtain ⟨rfl, rfl⟩ := hv'
      have hsl' := hst s (List.mem_of_getElem? hx)
      have HST : Hid ((ss.take (k + 1)).flatMap tokB = (ss.take k).flatMap tokB ++ tokB s) := flat_step tokB hx
      have sr : B ≤ wr.heap.size := by omega
      have HA : Hid (Tw B w (wr.alloc (.cells #[.int .u8 32] 5))) := hT.out.trans (Tw.alloc sr _)
      have HOA : Hid (OwnB (wr.alloc (.cells #[.int .u8 32] 5)) B _ (l ++ wd ++ (ss.take k).flatMap tokB)) := hO.out.alloc _
      have sA : B ≤ (wr.alloc (.cells #[.int .u8 32] 5)).heap.size := by simp; omega
      clear hx hO hT
      go_wp2_with (at_builtin; refine wpList_append_bytes rfl (.tmp 18) (.tmp 19) 22 rfl i0 Tryd.underlying22 hi hz0 hz1 hz2 B _ _ rfl HOA.out _ [32] rfl (bs_one _ _ (by omega)) (by simp only [List.length_append, List.length_cons, List.length_nil]; omega) sA (wr.alloc (.cells #[.int .u8 32] 5)) (Below.refl _ _) ?_)
      intro v2 w2 hO2 hB2 hG2
      have HO2 : Hid (OwnB w2 B v2 (l ++ wd ++ (ss.take k).flatMap tokB ++ [32])) := by simpa [Hid] using hO2
      have HT2 : Hid (Tw B w w2) := HA.out.trans (Tw.grown HOA.out sA hG2)
      have s2 : B ≤ w2.heap.size := Nat.le_trans sA hG2.size
      clear hO2 hB2 hG2 HA HOA d0
      go_wp2_with (at_builtin; refine wpList_append_str rfl (.tmp 21) (.tmp 22) 22 9 rfl i0 Tryd.underlying22 Tryd.underlying9 hi hz0 hz1 hz2 B _ _ rfl HO2.out s rfl hso (by simp only [List.length_append, List.length_cons, List.length_nil]; omega) s2 w2 (Below.refl _ _) ?_)
      intro v3 w3 hO3 hB3 hG3
      have HO3 : Hid (OwnB w3 B v3 (l ++ wd ++ (ss.take (k + 1)).flatMap tokB)) := by
        rw [HST.out]
        simpa [Hid, tokB] using hO3
      have HT3 : Hid (Tw B w w3) := HT2.out.trans (Tw.grown HO2.out s2 hG3)
      clear hO3 hB3 hG3 HT2 HO2 HST
      go_wp2
      go_roundw
      case rel => exact ⟨k + 1, by omega, by go_num, HO3, HT3⟩
      case measure => simp [intOf]; omega
    · obtain rfl : k = ss.length := by omega
      go_wp2
      go_ret
      have ho := hO.out
      rw [List.take_length] at ho
      exact ⟨_, rfl, ho, hT.out⟩

set_option maxRecDepth 100000 in
set_option maxHeartbeats 1000000 in
theorem putLine_b (B : Nat) (v bv : Value) (l wd : List Int) (ss : List (List Int)) (w : World) (hv : OwnB w B v l) (hB : B ≤ w.heap.size) (hwd : Oct wd) (hs : ∀ wi, Tw B w wi → StrsV wi bv ss)
    (hl : l.length ≤ 1000000) (hwl : wd.length ≤ 1000) (hsl : ss.length ≤ 100) (hst : ∀ s, s ∈ ss → s.length ≤ 1000) :
    Calls Tryd.prog 28 #[v, .string (strOfNums wd), bv] w fun e w' => ∃ u, e = .returned u ∧ OwnB w' B u (l ++ wd ++ ss.flatMap tokB ++ [10]) ∧ Tw B w w' := by
  have hc := putTokens_b B v bv l wd ss w hv hB hwd hs hl hwl hsl hst
  have hfl := flat_len tokB 1001 ss (fun s h => by have := hst s h; simp only [tokB, List.length_append, List.length_cons, List.length_nil]; omega)
  obtain ⟨a, cap, rfl, m0, m1⟩ := (hs w (Tw.refl _ _)).form
  obtain ⟨va, vn, vc, rfl⟩ := hv.bs.form3
  clear hs hv
  obtain ⟨i0, hi, hz0, hz1, hz2⟩ := info_parts info5
  go_enter Tryd.func28, Tryd.ntmps28
  go_wp2_with fail
  refine hc.mono ?_
  rintro e w1 ⟨u1, rfl, O1, T1⟩
  have s1 : B ≤ w1.heap.size := Nat.le_trans hB T1.size
  have HA : Hid (Tw B w (w1.alloc (.cells #[.int .u8 10] 5))) := T1.trans (Tw.alloc s1 _)
  have HOA : Hid (OwnB (w1.alloc (.cells #[.int .u8 10] 5)) B u1 (l ++ wd ++ ss.flatMap tokB)) := O1.alloc _
  have sA : B ≤ (w1.alloc (.cells #[.int .u8 10] 5)).heap.size := by simp; omega
  clear hc O1 T1
  go_wp2_with (at_builtin; refine wpList_append_bytes rfl (.tmp 10) (.tmp 11) 22 rfl i0 Tryd.underlying22 hi hz0 hz1 hz2 B _ _ rfl HOA.out _ [10] rfl (bs_one _ _ (by omega)) (by simp only [List.length_append, List.length_cons, List.length_nil]; omega) sA (w1.alloc (.cells #[.int .u8 10] 5)) (Below.refl _ _) ?_)
  intro v2 w2 hO2 hB2 hG2
  have HO2 : Hid (OwnB w2 B v2 (l ++ wd ++ ss.flatMap tokB ++ [10])) := by simpa [Hid] using hO2
  have HT2 : Hid (Tw B w w2) := HA.out.trans (Tw.grown HOA.out sA hG2)
  clear hO2 hB2 hG2 HA HOA
  go_wp2
  go_ret
  exact ⟨_, rfl, HO2.out, HT2.out⟩

end Go.Proofs.YtmonloebkdpahaaDoor

/- What needsEscape, flagsText, quotedText of package impl do. -/
namespace Go.Proofs.YtmonloebkdpahaaDoor
open Go.RowKit
set_option maxRecDepth 100000
set_option linter.unusedVariables false

theorem ret_bool {b c : Bool} (h : b = c) : Ending.returned (.bool c) = .returned (.bool b) := by rw [h]
set_option maxHeartbeats 400000 in
theorem needsEscape_any (x : Int) (hx : 0 ≤ x ∧ x ≤ 255) (w : World) :
    Calls Tryd.prog 89 #[.int .u8 x] w fun e w' => e = .returned (.bool (decide (x = 34 ∨ x = 92))) ∧ w' = w := by
  by_cases h1 : x = 34
  · subst h1
    go_enter Tryd.func89, Tryd.ntmps89
    go_wp2
    go_ret
    exact ⟨rfl, rfl⟩
  · by_cases h2 : x = 92
    · subst h2
      go_enter Tryd.func89, Tryd.ntmps89
      go_wp2
      go_ret
      exact ⟨rfl, rfl⟩
    · have b1 : (x == 34) = false := by simp [h1]
      have b2 : (x == 92) = false := by simp [h2]
      have e : Hid (decide (x = 34 ∨ x = 92) = false) := decide_eq_false (by omega)
      go_enter Tryd.func89, Tryd.ntmps89
      go_wp2
      go_ret
      exact ⟨by rw [e.out]; rfl, rfl⟩

theorem bit_and : ∀ (k : Fin 5) (x : Fin 32), (bits BinOp.and IntKind.i64 ((x : Nat) : Int) ((2 ^ (k : Nat) : Nat) : Int) != 0) = decide ((x : Nat) / 2 ^ (k : Nat) % 2 = 1) := by decide +kernel

set_option maxRecDepth 100000 in
set_option maxHeartbeats 2000000 in
theorem flagsText_r (f : Nat) (hf : f ≤ 31) (w : World) :
    Calls Tryd.prog 59 #[.int .i64 f] w fun e w' => e = .returned (.string (strOfNums (flagsB f))) ∧ Below w.heap.size w w' := by
  obtain ⟨i0, hi, hz0, hz1, hz2⟩ := info_parts info5
  have H0 : Hid (OwnB (w.alloc (.cells #[.int .u8 40] 5)) w.heap.size (.slice (some ⟨w.heap.size, 0, none⟩) 1 1) ([40] ++ (List.range 0).flatMap (flagAt f))) := by simpa [Hid] using ownB_one w _ (Nat.le_refl _) 40 (by omega)
  have HB : Hid (Below w.heap.size w (w.alloc (.cells #[.int .u8 40] 5))) := (Below.refl _ _).alloc (Nat.le_refl _) _
  go_enter Tryd.func59, Tryd.ntmps59
  go_wp2
  go_loopw [3, 6] (fun b i wr => ∃ k : Nat, k ≤ 5 ∧ i = .int .i64 k ∧ Hid (OwnB wr w.heap.size b ([40] ++ (List.range k).flatMap (flagAt f))) ∧ Hid (Below w.heap.size w wr)) (fun _ i _ => 5 - (intOf i).toNat)
  case atStart => exact ⟨0, Nat.zero_le _, rfl, H0, HB⟩
  case round =>
    clear H0 HB
    obtain ⟨k, hk, rfl, hO, hB⟩ := hrel
    have hsz := hB.out.size
    have hfl := flat_len (flagAt f) 1 (List.range k) (fun x _ => flagAt_len f x)
    simp only [List.length_range] at hfl
    by_cases hlt : k < 5
    · have HST : Hid ((List.range (k + 1)).flatMap (flagAt f) = (List.range k).flatMap (flagAt f) ++ flagAt f k) := range5_step f k
      obtain rfl | rfl | rfl | rfl | rfl : k = 0 ∨ k = 1 ∨ k = 2 ∨ k = 3 ∨ k = 4 := by omega
      · have hE : flagAt f 0 = (if f % 2 = 1 then [83] else []) := by simp [flagAt, letB]
        have hb : (bits BinOp.and IntKind.i64 (f : Int) 1 != 0) = decide (f % 2 = 1) := by
          have h := bit_and 0 ⟨f, by omega⟩
          simpa using h
        by_cases hc : f % 2 = 1
        · rw [if_pos hc] at hE
          rw [decide_eq_true hc] at hb
          have HE : Hid (flagAt f 0 = [83]) := hE
          clear hE
          go_wp2_with (at_builtin; refine wpList_append_bytes rfl (.tmp 14) (.tmp 17) 22 rfl i0 Tryd.underlying22 hi hz0 hz1 hz2 w.heap.size _ _ rfl (hO.out.alloc _) _ [83] rfl (bs_one _ 83 (by omega)) (by simp only [List.length_append, List.length_cons, List.length_nil]; omega) (by simp; omega) w (hB.out.alloc hsz _) ?_)
          intro v3 w3 hO3 hB3 _
          have HO3 : Hid (OwnB w3 w.heap.size v3 ([40] ++ (List.range (0 + 1)).flatMap (flagAt f))) := by
            rw [HST.out, HE.out]
            simpa [Hid, show List.range 1 = [0] from rfl, show List.range 2 = [0, 1] from rfl, show List.range 3 = [0, 1, 2] from rfl, show List.range 4 = [0, 1, 2, 3] from rfl] using hO3
          clear hO3
          go_wp2
          go_roundw
          case rel => exact ⟨0 + 1, by omega, by go_num, HO3, hB3⟩
          case measure => simp [intOf]
        · rw [if_neg hc] at hE
          rw [decide_eq_false hc] at hb
          have HEQ : Hid ([40] ++ (List.range 0).flatMap (flagAt f) = [40] ++ (List.range (0 + 1)).flatMap (flagAt f)) := by rw [Hid, HST.out, hE, List.append_nil]
          clear hE
          go_wp2
          go_roundw
          case rel => exact ⟨0 + 1, by omega, by go_num, by rw [← HEQ.out]; exact hO, hB⟩
          case measure => simp [intOf]
      · have hE : flagAt f 1 = (if f / 2 % 2 = 1 then [65] else []) := by simp [flagAt, letB]
        have hb : (bits BinOp.and IntKind.i64 (f : Int) 2 != 0) = decide (f / 2 % 2 = 1) := by
          have h := bit_and 1 ⟨f, by omega⟩
          simpa using h
        by_cases hc : f / 2 % 2 = 1
        · rw [if_pos hc] at hE
          rw [decide_eq_true hc] at hb
          have HE : Hid (flagAt f 1 = [65]) := hE
          clear hE
          go_wp2_with (at_builtin; refine wpList_append_bytes rfl (.tmp 14) (.tmp 17) 22 rfl i0 Tryd.underlying22 hi hz0 hz1 hz2 w.heap.size _ _ rfl (hO.out.alloc _) _ [65] rfl (bs_one _ 65 (by omega)) (by simp only [List.length_append, List.length_cons, List.length_nil]; omega) (by simp; omega) w (hB.out.alloc hsz _) ?_)
          intro v3 w3 hO3 hB3 _
          have HO3 : Hid (OwnB w3 w.heap.size v3 ([40] ++ (List.range (1 + 1)).flatMap (flagAt f))) := by
            rw [HST.out, HE.out]
            simpa [Hid, show List.range 1 = [0] from rfl, show List.range 2 = [0, 1] from rfl, show List.range 3 = [0, 1, 2] from rfl, show List.range 4 = [0, 1, 2, 3] from rfl] using hO3
          clear hO3
          go_wp2
          go_roundw
          case rel => exact ⟨1 + 1, by omega, by go_num, HO3, hB3⟩
          case measure => simp [intOf]
        · rw [if_neg hc] at hE
          rw [decide_eq_false hc] at hb
          have HEQ : Hid ([40] ++ (List.range 1).flatMap (flagAt f) = [40] ++ (List.range (1 + 1)).flatMap (flagAt f)) := by rw [Hid, HST.out, hE, List.append_nil]
          clear hE
          go_wp2
          go_roundw
          case rel => exact ⟨1 + 1, by omega, by go_num, by rw [← HEQ.out]; exact hO, hB⟩
          case measure => simp [intOf]
      · have hE : flagAt f 2 = (if f / 4 % 2 = 1 then [70] else []) := by simp [flagAt, letB]
        have hb : (bits BinOp.and IntKind.i64 (f : Int) 4 != 0) = decide (f / 4 % 2 = 1) := by
          have h := bit_and 2 ⟨f, by omega⟩
          simpa using h
        by_cases hc : f / 4 % 2 = 1
        · rw [if_pos hc] at hE
          rw [decide_eq_true hc] at hb
          have HE : Hid (flagAt f 2 = [70]) := hE
          clear hE
          go_wp2_with (at_builtin; refine wpList_append_bytes rfl (.tmp 14) (.tmp 17) 22 rfl i0 Tryd.underlying22 hi hz0 hz1 hz2 w.heap.size _ _ rfl (hO.out.alloc _) _ [70] rfl (bs_one _ 70 (by omega)) (by simp only [List.length_append, List.length_cons, List.length_nil]; omega) (by simp; omega) w (hB.out.alloc hsz _) ?_)
          intro v3 w3 hO3 hB3 _
          have HO3 : Hid (OwnB w3 w.heap.size v3 ([40] ++ (List.range (2 + 1)).flatMap (flagAt f))) := by
            rw [HST.out, HE.out]
            simpa [Hid, show List.range 1 = [0] from rfl, show List.range 2 = [0, 1] from rfl, show List.range 3 = [0, 1, 2] from rfl, show List.range 4 = [0, 1, 2, 3] from rfl] using hO3
          clear hO3
          go_wp2
          go_roundw
          case rel => exact ⟨2 + 1, by omega, by go_num, HO3, hB3⟩
          case measure => simp [intOf]
        · rw [if_neg hc] at hE
          rw [decide_eq_false hc] at hb
          have HEQ : Hid ([40] ++ (List.range 2).flatMap (flagAt f) = [40] ++ (List.range (2 + 1)).flatMap (flagAt f)) := by rw [Hid, HST.out, hE, List.append_nil]
          clear hE
          go_wp2
          go_roundw
          case rel => exact ⟨2 + 1, by omega, by go_num, by rw [← HEQ.out]; exact hO, hB⟩
          case measure => simp [intOf]
      · have hE : flagAt f 3 = (if f / 8 % 2 = 1 then [68] else []) := by simp [flagAt, letB]
        have hb : (bits BinOp.and IntKind.i64 (f : Int) 8 != 0) = decide (f / 8 % 2 = 1) := by
          have h := bit_and 3 ⟨f, by omega⟩
          exact h
        by_cases hc : f / 8 % 2 = 1
        · rw [if_pos hc] at hE
          rw [decide_eq_true hc] at hb
          have HE : Hid (flagAt f 3 = [68]) := hE
          clear hE
          go_wp2_with (at_builtin; refine wpList_append_bytes rfl (.tmp 14) (.tmp 17) 22 rfl i0 Tryd.underlying22 hi hz0 hz1 hz2 w.heap.size _ _ rfl (hO.out.alloc _) _ [68] rfl (bs_one _ 68 (by omega)) (by simp only [List.length_append, List.length_cons, List.length_nil]; omega) (by simp; omega) w (hB.out.alloc hsz _) ?_)
          intro v3 w3 hO3 hB3 _
          have HO3 : Hid (OwnB w3 w.heap.size v3 ([40] ++ (List.range (3 + 1)).flatMap (flagAt f))) := by
            rw [HST.out, HE.out]
            simpa [Hid, show List.range 1 = [0] from rfl, show List.range 2 = [0, 1] from rfl, show List.range 3 = [0, 1, 2] from rfl, show List.range 4 = [0, 1, 2, 3] from rfl] using hO3
          clear hO3
          go_wp2
          go_roundw
          case rel => exact ⟨3 + 1, by omega, by go_num, HO3, hB3⟩
          case measure => simp [intOf]
        · rw [if_neg hc] at hE
          rw [decide_eq_false hc] at hb
          have HEQ : Hid ([40] ++ (List.range 3).flatMap (flagAt f) = [40] ++ (List.range (3 + 1)).flatMap (flagAt f)) := by rw [Hid, HST.out, hE, List.append_nil]
          clear hE
          go_wp2
          go_roundw
          case rel => exact ⟨3 + 1, by omega, by go_num, by rw [← HEQ.out]; exact hO, hB⟩
          case measure => simp [intOf]
      · have hE : flagAt f 4 = (if f / 16 % 2 = 1 then [82] else []) := by simp [flagAt, letB]
        have hb : (bits BinOp.and IntKind.i64 (f : Int) 16 != 0) = decide (f / 16 % 2 = 1) := by
          have h := bit_and 4 ⟨f, by omega⟩
          exact h
        by_cases hc : f / 16 % 2 = 1
        · rw [if_pos hc] at hE
          rw [decide_eq_true hc] at hb
          have HE : Hid (flagAt f 4 = [82]) := hE
          clear hE
          go_wp2_with (at_builtin; refine wpList_append_bytes rfl (.tmp 14) (.tmp 17) 22 rfl i0 Tryd.underlying22 hi hz0 hz1 hz2 w.heap.size _ _ rfl (hO.out.alloc _) _ [82] rfl (bs_one _ 82 (by omega)) (by simp only [List.length_append, List.length_cons, List.length_nil]; omega) (by simp; omega) w (hB.out.alloc hsz _) ?_)
          intro v3 w3 hO3 hB3 _
          have HO3 : Hid (OwnB w3 w.heap.size v3 ([40] ++ (List.range (4 + 1)).flatMap (flagAt f))) := by
            rw [HST.out, HE.out]
            simpa [Hid, show List.range 1 = [0] from rfl, show List.range 2 = [0, 1] from rfl, show List.range 3 = [0, 1, 2] from rfl, show List.range 4 = [0, 1, 2, 3] from rfl] using hO3
          clear hO3
          go_wp2
          go_roundw
          case rel => exact ⟨4 + 1, by omega, by go_num, HO3, hB3⟩
          case measure => simp [intOf]
        · rw [if_neg hc] at hE
          rw [decide_eq_false hc] at hb
          have HEQ : Hid ([40] ++ (List.range 4).flatMap (flagAt f) = [40] ++ (List.range (4 + 1)).flatMap (flagAt f)) := by rw [Hid, HST.out, hE, List.append_nil]
          clear hE
          go_wp2
          go_roundw
          case rel => exact ⟨4 + 1, by omega, by go_num, by rw [← HEQ.out]; exact hO, hB⟩
          case measure => simp [intOf]
    · obtain rfl : k = 5 := by omega
      go_wp2_with (at_builtin; refine wpList_append_bytes rfl (.tmp 20) (.tmp 21) 22 rfl i0 Tryd.underlying22 hi hz0 hz1 hz2 w.heap.size _ _ rfl (hO.out.alloc _) _ _ rfl (bs_one _ _ (by omega)) (by simp only [List.length_append, List.length_cons, List.length_nil]; omega) (by simp; omega) w (hB.out.alloc hsz _) ?_)
      intro v2 w2 hO2 hB2 _
      have HO2 : OwnB w2 w.heap.size v2 (flagsB f) := by simpa [flagsB, show List.range 5 = [0, 1, 2, 3, 4] from rfl] using hO2
      have hcv := run_convert_bs HO2.bs
      clear hO2 HO2
      go_wp2
      go_ret
      exact ⟨rfl, hB2⟩

set_option maxRecDepth 100000 in
set_option maxHeartbeats 2000000 in
theorem quotedText_r (v : Value) (t : List Int) (w : World) (hv : Bs w v t) (ht : t.length ≤ 2000000) :
    Calls Tryd.prog 60 #[v] w fun e w' => e = .returned (.string (strOfNums (quoB t))) ∧ Below w.heap.size w w' := by
  have HV : Hid (∀ wi, Below w.heap.size w wi → Bs wi v t) := fun wi h => hv.below h
  obtain ⟨ho, a, cap, rfl, hlc, hcm, -⟩ := hv
  unfold maxLen at hcm
  obtain ⟨i0, hi, hz0, hz1, hz2⟩ := info_parts info5
  have H0 : Hid (OwnB (w.alloc (.cells #[.int .u8 34] 5)) w.heap.size (.slice (some ⟨w.heap.size, 0, none⟩) 1 1) ([34] ++ (t.take 0).flatMap escB)) := by simpa [Hid] using ownB_one w _ (Nat.le_refl _) 34 (by omega)
  have HB : Hid (Below w.heap.size w (w.alloc (.cells #[.int .u8 34] 5))) := (Below.refl _ _).alloc (Nat.le_refl _) _
  go_enter Tryd.func60, Tryd.ntmps60
  go_wp2
  go_loopw [3, 9] (fun b i wr => ∃ k : Nat, k ≤ t.length ∧ i = .int .i64 k ∧ Hid (OwnB wr w.heap.size b ([34] ++ (t.take k).flatMap escB)) ∧ Hid (Below w.heap.size w wr)) (fun _ i _ => t.length - (intOf i).toNat)
  case atStart => exact ⟨0, Nat.zero_le _, rfl, H0, HB⟩
  case round =>
    clear H0 HB
    obtain ⟨k, hk, rfl, hO, hB⟩ := hrel
    have hsz := hB.out.size
    have hfl := flat_len escB 2 (t.take k) (fun x _ => escB_len x)
    have htk : (t.take k).length ≤ 2000000 := by simp; omega
    by_cases hlt : k < t.length
    · obtain ⟨x, hx⟩ : ∃ x, t[k]? = some x := ⟨t[k], List.getElem?_eq_getElem hlt⟩
      have hxo : 0 ≤ x ∧ x ≤ 255 := ho x (List.mem_of_getElem? hx)
      have HST : Hid ((t.take (k + 1)).flatMap escB = (t.take k).flatMap escB ++ escB x) := flat_step escB hx
      obtain ⟨ho', a', cap', hv', -, -, -, hcells⟩ := HV.out wr hB.out
      simp only [Value.slice.injEq, true_and] at hv'
      obtain ⟨rfl, rfl⟩ := hv'
      obtain ⟨b, off, rfl, hlb, hc⟩ := hcells (by omega)
      have d0 := hc k hlt
      rw [List.getD_eq_getElem?_getD, hx, Option.getD_some] at d0
      clear hcells hc ho'
      have hne := needsEscape_any x hxo wr
      by_cases he : x = 34 ∨ x = 92
      · have HE : Hid (escB x = [92, x]) := by simp only [Hid, escB, if_pos he]
        rw [decide_eq_true he] at hne
        have HX : Hid (x = 34 ∨ x = 92) := he
        clear he
        go_wp2_with fail
        refine hne.mono ?_
        rintro e w1 ⟨rfl, rfl⟩
        clear hne d0
        go_wp2_with (at_builtin; refine wpList_append_bytes rfl (.tmp 15) (.tmp 16) 22 rfl i0 Tryd.underlying22 hi hz0 hz1 hz2 w.heap.size _ _ rfl (hO.out.alloc _) _ _ rfl (bs_one _ _ (by omega)) (by simp only [List.length_append, List.length_cons, List.length_nil]; omega) (by simp; omega) w (hB.out.alloc hsz _) ?_)
        intro v2 w2 hO2 hB2 _
        have s2 := hB2.size
        have HO2 : Hid (OwnB w2 w.heap.size v2 ([34] ++ (t.take k).flatMap escB ++ [92])) := by simpa [Hid] using hO2
        clear hO2 hO hB hlb
        go_wp2_with (at_builtin; refine wpList_append_bytes rfl (.tmp 18) (.tmp 20) 22 rfl i0 Tryd.underlying22 hi hz0 hz1 hz2 w.heap.size _ _ rfl (HO2.out.alloc _) _ [x] rfl (bs_one _ _ (by omega)) (by simp only [List.length_append, List.length_cons, List.length_nil]; omega) (by simp; omega) w (hB2.alloc s2 _) ?_)
        intro v3 w3 hO3 hB3 _
        have HO3 : Hid (OwnB w3 w.heap.size v3 ([34] ++ (t.take (k + 1)).flatMap escB)) := by
          rw [HST.out, HE.out]
          simpa [Hid] using hO3
        clear hO3
        go_wp2
        go_roundw
        case rel => exact ⟨k + 1, by omega, by go_num, HO3, hB3⟩
        case measure => simp [intOf]; omega
      · have HE : Hid (escB x = [x]) := by simp only [Hid, escB, if_neg he]
        rw [decide_eq_false he] at hne
        clear he
        go_wp2_with fail
        refine hne.mono ?_
        rintro e w1 ⟨rfl, rfl⟩
        clear hne d0
        go_wp2_with (at_builtin; refine wpList_append_bytes rfl (.tmp 18) (.tmp 20) 22 rfl i0 Tryd.underlying22 hi hz0 hz1 hz2 w.heap.size _ _ rfl (hO.out.alloc _) _ [x] rfl (bs_one _ _ (by omega)) (by simp only [List.length_append, List.length_cons, List.length_nil]; omega) (by simp; omega) w (hB.out.alloc hsz _) ?_)
        intro v3 w3 hO3 hB3 _
        have HO3 : Hid (OwnB w3 w.heap.size v3 ([34] ++ (t.take (k + 1)).flatMap escB)) := by
          rw [HST.out, HE.out]
          simpa [Hid] using hO3
        clear hO3
        go_wp2
        go_roundw
        case rel => exact ⟨k + 1, by omega, by go_num, HO3, hB3⟩
        case measure => simp [intOf]; omega
    · obtain rfl : k = t.length := by omega
      go_wp2_with (at_builtin; refine wpList_append_bytes rfl (.tmp 23) (.tmp 24) 22 rfl i0 Tryd.underlying22 hi hz0 hz1 hz2 w.heap.size _ _ rfl (hO.out.alloc _) _ _ rfl (bs_one _ _ (by omega)) (by simp only [List.length_append, List.length_cons, List.length_nil]; omega) (by simp; omega) w (hB.out.alloc hsz _) ?_)
      intro v2 w2 hO2 hB2 _
      have HO2 : OwnB w2 w.heap.size v2 (quoB t) := by simpa [quoB] using hO2
      have hcv := run_convert_bs HO2.bs
      clear hO2 HO2
      go_wp2
      go_ret
      exact ⟨rfl, hB2⟩

end Go.Proofs.YtmonloebkdpahaaDoor

/- strconv.Itoa, out of the library's contract. -/
namespace Go.Proofs.YtmonloebkdpahaaDoor
open Go.RowKit

/-- The library's table of powers reads as its start-up lays it. -/
abbrev Tab10 (w : World) : Prop := Lib.TabIs Tryd.prog w "internal/strconv.uint64pow10" .u64 Lib.pow10Tab
theorem str_dig (n : Nat) : (⟨(Lib.decDigits n).toArray⟩ : ByteArray) = strOfNums (digB n) := by
  unfold strOfNums digB ofU8
  rw [List.map_map]
  congr 2
  conv => lhs; rw [← List.map_id (Lib.decDigits n)]
  refine List.map_congr_left fun b _ => ?_
  simp

theorem itoa_b (n : Nat) (hn : n ≤ 9999999) (w : World) (ht : Tab10 w) :
    Calls Tryd.prog 27 #[.int .i64 n] w fun e w' => e = .returned (.string (strOfNums (digB n))) ∧ Below w.heap.size w w' := by
  refine (Tryd.strconv_Itoa (n : Int) (by omega) (by omega) w ht).mono ?_
  rintro e w' ⟨rfl, k, os, rfl⟩
  refine ⟨?_, Lib.below_grow _ w (Nat.le_refl _) k os⟩
  rw [← str_dig]
  have : Lib.itoa (n : Int) = Lib.decDigits n := by
    unfold Lib.itoa
    rw [if_neg (by omega)]
    simp
  rw [this]

end Go.Proofs.YtmonloebkdpahaaDoor

/- Regions that draw their order, walked in the text's order: what each operation asks of the others is reckoned once for a region, in a table. -/
namespace Go.Proofs.YtmonloebkdpahaaDoor
set_option linter.unusedVariables false

/-- The operations of the region with this number. -/
def opsAt (id : Nat) : Code → Option (Array Oper)
  | .region i ops _ => if i == id then some ops else none
  | .seq a b => (opsAt id a).or (opsAt id b)
  | .cond _ a b => (opsAt id a).or (opsAt id b)
  | .block _ a => opsAt id a
  | .loop a => opsAt id a
  | _ => none

/-- The first i of n are listed. -/
def upto (n i : Nat) : Array Bool := (List.replicate i true ++ List.replicate (n - i) false).toArray
theorem upto_zero (n : Nat) : upto n 0 = Array.replicate n false := by simp [upto]
theorem upto_succ {n i : Nat} (h : i < n) : (upto n i).setIfInBounds i true = upto n (i + 1) := by
  have e : n - i = (n - (i + 1)) + 1 := by omega
  unfold upto
  rw [List.setIfInBounds_toArray]
  congr 1
  rw [List.set_append_right _ _ (by simp), List.length_replicate, Nat.sub_self, e, List.replicate_succ, List.set_cons_zero, List.replicate_succ', List.append_assoc]
  rfl

def statAt (ops : Array Oper) (n i : Nat) : Bool := Region.free .any ops (upto n i) i && (Region.ready .any ops (upto n i)).contains i
/-- cs: the operations that come up alone. -/
def table (ops : Array Oper) (n : Nat) (cs : List Nat) : Bool := (ops.size == n) && (Region.noSelect ops && ((List.range n).all (statAt ops n) && ((Region.ready .any ops (upto n n)).isEmpty && cs.all fun i => (Nat.blt i n) && (Region.ready .any ops (upto n i) == [i]))))

/-- The table's word, in a wrapping that no walk looks into. -/
structure Tab (ops : Array Oper) (n : Nat) (cs : List Nat) : Prop where
  out : table ops n cs = true

/-- What is left of the region when the first i operations are done. -/
def wpAt (P : Program) (ops : Array Oper) (Q : Exit → Act → World → Prop) (S : World → Prop) (n i : Nat) (a : Act) (w : World) : Prop := wpAnyH P .any ops Q S (n - i) (upto n i) a w

/-- Slot d filled: what 'put' does, in a form that computes by itself. -/
def setT (a : Act) (d : Nat) (v : Value) : Act := { a with tmps := (a.tmps.toList.set d v).toArray }
theorem put_setT (a : Act) (d : Nat) (v : Value) : a.put (some d) v = setT a d v := by
  unfold Act.put setT
  simp only
  congr 1
  exact Array.ext' (by simp)

section
variable {P : Program} {ops : Array Oper} {Q : Exit → Act → World → Prop} {S : World → Prop} {n : Nat} {cs : List Nat} {a : Act} {w : World}
theorem tab_of {c : Option Code} {id : Nat} (h : c.bind (opsAt id) = some ops) (T : (c.bind (opsAt id)).all (fun o => table o n cs) = true) : Tab ops n cs := by
  rw [h] at T; exact ⟨by simpa using T⟩
theorem table_parts (T' : Tab ops n cs) : ops.size = n ∧ Region.noSelect ops = true ∧ (∀ i, i < n → Region.free .any ops (upto n i) i = true ∧ (Region.ready .any ops (upto n i)).contains i = true) ∧ Region.ready .any ops (upto n n) = [] ∧ ∀ i, i ∈ cs → i < n ∧ Region.ready .any ops (upto n i) = [i] := by
  have T := T'.out
  simp only [table, Bool.and_eq_true, beq_iff_eq, List.all_eq_true, List.mem_range, statAt, List.isEmpty_iff, Nat.blt_eq] at T
  exact ⟨T.1, T.2.1, fun i hi => T.2.2.1 i hi, T.2.2.2.1, fun i hi => T.2.2.2.2 i hi⟩
theorem wp_begin {id : Nat} (T : Tab ops n cs) (hm : P.follows .mixedOrders = true) (hS : S w.drew) (h : Tab ops n cs → S w.drew → wpAt P ops Q S n 0 a w.drew) : Code.wp P (.region id ops true) Q a w := by
  refine wp_region_held_drew (S := S) hm hS fun hs => ?_
  obtain ⟨h1, -⟩ := table_parts T
  subst h1
  rw [← upto_zero]
  exact h T hs
/-- Operation i is taken; it is wanted. -/
theorem tkp (i d : Nat) {oi : Oper} (v : Value) (T : Tab ops n cs) (hy : ∀ w, S w → (execOp a.eval oi).run P w = .ok (.value v) w) (hS : S w) (h : wpAt P ops Q S n (i + 1) (setT a d v) w)
    (hi : ops[i]? = some oi := by rfl)
    (hg : (oi.dst == some d && Region.wanted oi (yielded ops a.tmps)) = true := by kernel_rfl)
    (hQ : ∀ c a w, Q (.panic c) (a.put (some d) v) w → Q (.panic c) a w := by exact fun _ _ _ h => h) : wpAt P ops Q S n i a w := by
  obtain ⟨h1, h2, h3, h4, h5⟩ := table_parts T
  have hlt : i < n := by have := (Array.getElem?_eq_some_iff.1 hi).1; omega
  simp only [Bool.and_eq_true, beq_iff_eq] at hg
  rw [← put_setT] at h
  unfold wpAt at h ⊢
  rw [show n - i = (n - (i + 1)) + 1 by omega]
  rw [← upto_succ hlt] at h
  exact wpAnyH_take hi h2 (h3 i hlt).1 (h3 i hlt).2 (by rw [hg.1]; exact hQ) (Or.inl ⟨hg.2, hy⟩) hS (by rw [hg.1]; exact h)
/-- None of these is wanted; ds: the slots that they would fill. -/
def skipsD (ops : Array Oper) : Nat → List Nat → Array Value → Bool
  | _, [], _ => true
  | i, d :: ds, tm => match ops[i]? with
    | some o => (o.dst == some d) && (!(Region.wanted o (yielded ops tm)) && skipsD ops (i + 1) ds (tm.toList.set d undef).toArray)
    | none => false
theorem skp (T : Tab ops n cs) (hQ : ∀ (d : Nat) v c a w, Q (.panic c) (a.put (some d) v) w → Q (.panic c) a w) (hS : S w) :
    ∀ (ds : List Nat) (i : Nat) (a : Act), skipsD ops i ds a.tmps = true → wpAt P ops Q S n (i + ds.length) (ds.foldl (fun a d => setT a d undef) a) w → wpAt P ops Q S n i a w
  | [], _, _, _, h => h
  | d :: ds, i, a, hk, h => by
    unfold skipsD at hk
    split at hk
    · rename_i o ho
      simp only [Bool.and_eq_true, beq_iff_eq, Bool.not_eq_true'] at hk
      obtain ⟨k1, k2, k3⟩ := hk
      obtain ⟨h1, h2, h3, h4, h5⟩ := table_parts T
      have hlt : i < n := by have := (Array.getElem?_eq_some_iff.1 ho).1; omega
      have hr := skp T hQ hS ds (i + 1) (setT a d undef) (by simpa [setT] using k3) (by rw [show i + 1 + ds.length = i + (d :: ds).length by simp; omega]; exact h)
      rw [← put_setT] at hr
      unfold wpAt at hr ⊢
      rw [show n - i = (n - (i + 1)) + 1 by omega]
      rw [← upto_succ hlt] at hr
      exact wpAnyH_take (v := undef) ho h2 (h3 i hlt).1 (h3 i hlt).2 (fun c a w => by rw [k1]; exact hQ d _ c a w) (Or.inr ⟨k2, rfl⟩) hS (by rw [k1]; exact hr)
    · cases hk
theorem skj {i j : Nat} (ds : List Nat) (hj : i + ds.length = j) (T : Tab ops n cs) (hQ : ∀ (d : Nat) v c a w, Q (.panic c) (a.put (some d) v) w → Q (.panic c) a w) (hS : S w) (hk : skipsD ops i ds a.tmps = true)
    (h : wpAt P ops Q S n j (ds.foldl (fun a d => setT a d undef) a) w) : wpAt P ops Q S n i a w := skp T hQ hS ds i a hk (by rw [hj]; exact h)
/-- Operation i is a call: it comes up alone. -/
theorem clp (i : Nat) (T : Tab ops n cs) (hi : i ∈ cs) (h : AllReadyH P .any ops Q S (n - (i + 1)) (upto n i) a w [i]) : wpAt P ops Q S n i a w := by
  obtain ⟨h1, h2, h3, h4, h5⟩ := table_parts T
  have hlt := (h5 i hi).1
  unfold wpAt
  rw [show n - i = (n - (i + 1)) + 1 by omega]
  exact wpAnyH_ready (h5 i hi).2 (by simp) h
theorem wpAt_in {i f : Nat} {l : Array Bool} (hlt : i < n) (hf : f = n - (i + 1)) (hl : l = (upto n i).setIfInBounds i true) (h : wpAt P ops Q S n (i + 1) a w) : wpAnyH P .any ops Q S f l a w := by
  subst hf hl
  rw [upto_succ hlt]
  exact h
theorem wp_end (T : Tab ops n cs) (h : Q .normal a w) : wpAt P ops Q S n n a w := by
  obtain ⟨h1, h2, h3, h4, h5⟩ := table_parts T
  exact wpAnyH_done h4 h _
end
theorem putA {α : Type} (l : List α) (i : Nat) (a : α) : l.toArray.setIfInBounds i a = (l.set i a).toArray := by simp
theorem put0 {α : Type} (x : α) (l : List α) (a : α) : (x :: l).set 0 a = a :: l := rfl
theorem putS {α : Type} (x : α) (l : List α) (i : Nat) (a : α) : (x :: l).set (i + 1) a = x :: l.set i a := rfl

/-- 'tkp', what it yields and the state behind it found by themselves. -/
theorem tkq {P : Program} {ops : Array Oper} {Q : Exit → Act → World → Prop} {S : World → Prop} {n : Nat} {cs : List Nat} {a a' : Act} {w : World} (i d : Nat) {oi : Oper} {v : Value} (T : Tab ops n cs) (hS : S w) (h : wpAt P ops Q S n (i + 1) a' w)
    (hi : ops[i]? = some oi := by rfl)
    (hg : (oi.dst == some d && Region.wanted oi (yielded ops a.tmps)) = true := by kernel_rfl)
    (hy : ∀ w, S w → (execOp a.eval oi).run P w = .ok (.value v) w := by (intro w s; (try dsimp only at s); go_simp <;> with_reducible rfl))
    (ha : setT a d v = a' := by (conv => lhs; dsimp only [setT, List.toList_toArray, put0, putS]))
    (hQ : ∀ c a w, Q (.panic c) (a.put (some d) v) w → Q (.panic c) a w := by exact fun _ _ _ h => h) : wpAt P ops Q S n i a w :=
  tkp i d v T hy hS (by rw [ha]; exact h) hi hg hQ

end Go.Proofs.YtmonloebkdpahaaDoor

/- Regions that draw their order, walked in a given order: what each operation asks of the others is reckoned once for a region, in a table. -/
namespace Go.Proofs.YtmonloebkdpahaaDoor
set_option linter.unusedVariables false

/-- Which operations are done when the first p of the order are. -/
def doneA (n : Nat) (l : List Nat) : Array Bool := l.foldl (fun a i => a.setIfInBounds i true) (Array.replicate n false)
theorem doneA_step {n p i : Nat} {ord : List Nat} (h : ord[p]? = some i) : (doneA n (ord.take p)).setIfInBounds i true = doneA n (ord.take (p + 1)) := by
  have hp : p < ord.length := (List.getElem?_eq_some_iff.1 h).1
  rw [List.take_succ_eq_append_getElem hp, (List.getElem?_eq_some_iff.1 h).2]
  unfold doneA
  rw [List.foldl_append]
  rfl
/-- cs: the places of those that come up alone. -/
def tableO (ops : Array Oper) (n : Nat) (ord cs : List Nat) : Bool :=
  (ops.size == n) && ((ord.length == n) && (Region.noSelect ops && ((List.range n).all (fun p => match ord[p]? with
    | some i => cs.contains p || (Region.free .any ops (doneA n (ord.take p)) i && (Region.ready .any ops (doneA n (ord.take p))).contains i)
    | none => false) && ((Region.ready .any ops (doneA n (ord.take n))).isEmpty && cs.all fun p => match ord[p]? with
    | some i => Nat.blt p n && (Region.ready .any ops (doneA n (ord.take p)) == [i])
    | none => false))))

/-- What is left of the region when the first p operations of the order are done. -/
def wpOrd (P : Program) (ops : Array Oper) (Q : Exit → Act → World → Prop) (S : World → Prop) (n : Nat) (ord : List Nat) (p : Nat) (a : Act) (w : World) : Prop := wpAnyH P .any ops Q S (n - p) (doneA n (ord.take p)) a w

/-- The table's word, in a wrapping that no walk looks into. -/
structure TabO (ops : Array Oper) (n : Nat) (ord cs : List Nat) : Prop where
  out : tableO ops n ord cs = true

section
variable {P : Program} {ops : Array Oper} {Q : Exit → Act → World → Prop} {S : World → Prop} {n : Nat} {ord cs : List Nat} {a : Act} {w : World}
theorem tabO_of {c : Option Code} {id : Nat} (h : c.bind (opsAt id) = some ops) (T : (c.bind (opsAt id)).all (fun o => tableO o n ord cs) = true) : TabO ops n ord cs := by
  rw [h] at T; exact ⟨by simpa using T⟩
theorem tabO_parts (T' : TabO ops n ord cs) : ops.size = n ∧ ord.length = n ∧ Region.noSelect ops = true ∧ (∀ p i, ord[p]? = some i → ¬ p ∈ cs → Region.free .any ops (doneA n (ord.take p)) i = true ∧ (Region.ready .any ops (doneA n (ord.take p))).contains i = true) ∧ Region.ready .any ops (doneA n (ord.take n)) = [] ∧
    ∀ p i, p ∈ cs → ord[p]? = some i → p < n ∧ Region.ready .any ops (doneA n (ord.take p)) = [i] := by
  have T := T'.out
  simp only [tableO, Bool.and_eq_true, beq_iff_eq, List.all_eq_true, List.mem_range, List.isEmpty_iff] at T
  obtain ⟨h1, h2, h3, h4, h5, h6⟩ := T
  refine ⟨h1, h2, h3, fun p i hp hc => ?_, h5, fun p i hc hp => ?_⟩
  · have hlt : p < n := by have := (List.getElem?_eq_some_iff.1 hp).1; omega
    have := h4 p hlt
    rw [hp] at this
    simp only [Bool.or_eq_true, Bool.and_eq_true, List.contains_iff_mem] at this
    rcases this with h | h
    · exact absurd h hc
    · exact ⟨h.1, by simpa using h.2⟩
  · have := h6 p hc
    rw [hp] at this
    simp only [Bool.and_eq_true, beq_iff_eq, Nat.blt_eq] at this
    exact this
theorem wpO_begin {id : Nat} (T : TabO ops n ord cs) (hm : P.follows .mixedOrders = true) (hS : S w.drew) (h : TabO ops n ord cs → S w.drew → wpOrd P ops Q S n ord 0 a w.drew) : Code.wp P (.region id ops true) Q a w := by
  refine wp_region_held_drew (S := S) hm hS fun hs => ?_
  obtain ⟨h1, -⟩ := tabO_parts T
  subst h1
  exact h T hs
/-- The operation at place p of the order is taken; it is wanted. -/
theorem tko (p i d : Nat) {oi : Oper} (v : Value) (T : TabO ops n ord cs) (hy : ∀ w, S w → (execOp a.eval oi).run P w = .ok (.value v) w) (hS : S w) (h : wpOrd P ops Q S n ord (p + 1) (setT a d v) w)
    (hp : ord[p]? = some i := by rfl) (hc : ¬ p ∈ cs := by decide)
    (hi : ops[i]? = some oi := by rfl)
    (hg : (oi.dst == some d && Region.wanted oi (yielded ops a.tmps)) = true := by kernel_rfl)
    (hQ : ∀ c a w, Q (.panic c) (a.put (some d) v) w → Q (.panic c) a w := by exact fun _ _ _ h => h) : wpOrd P ops Q S n ord p a w := by
  obtain ⟨h1, h2, h3, h4, h5, h6⟩ := tabO_parts T
  have hlt : p < n := by have := (List.getElem?_eq_some_iff.1 hp).1; omega
  simp only [Bool.and_eq_true, beq_iff_eq] at hg
  rw [← put_setT] at h
  unfold wpOrd at h ⊢
  rw [show n - p = (n - (p + 1)) + 1 by omega]
  rw [← doneA_step hp] at h
  exact wpAnyH_take hi h3 (h4 p i hp hc).1 (h4 p i hp hc).2 (by rw [hg.1]; exact hQ) (Or.inl ⟨hg.2, hy⟩) hS (by rw [hg.1]; exact h)
/-- The operation at place p comes up alone: a call, or one that makes memory. -/
theorem clo (p i : Nat) (T : TabO ops n ord cs) (hc : p ∈ cs) (hp : ord[p]? = some i) (h : AllReadyH P .any ops Q S (n - (p + 1)) (doneA n (ord.take p)) a w [i]) : wpOrd P ops Q S n ord p a w := by
  obtain ⟨h1, h2, h3, h4, h5, h6⟩ := tabO_parts T
  have hlt := (h6 p i hc hp).1
  unfold wpOrd
  rw [show n - p = (n - (p + 1)) + 1 by omega]
  exact wpAnyH_ready (h6 p i hc hp).2 (by simp) h
theorem wpOrd_in {p i f : Nat} {l : Array Bool} (hp : ord[p]? = some i) (hf : f = n - (p + 1)) (hl : l = (doneA n (ord.take p)).setIfInBounds i true) (h : wpOrd P ops Q S n ord (p + 1) a w) : wpAnyH P .any ops Q S f l a w := by
  subst hf hl
  rw [doneA_step hp]
  exact h
theorem wpO_end (T : TabO ops n ord cs) (h : Q .normal a w) : wpOrd P ops Q S n ord n a w := by
  obtain ⟨h1, h2, h3, h4, h5, h6⟩ := tabO_parts T
  exact wpAnyH_done h5 h _
end

/-- 'tko', what it yields and the state behind it found by themselves. -/
theorem tkw {P : Program} {ops : Array Oper} {Q : Exit → Act → World → Prop} {S : World → Prop} {n : Nat} {ord cs : List Nat} {a a' : Act} {w : World} (p i d : Nat) {oi : Oper} {v : Value} (T : TabO ops n ord cs) (hS : S w) (h : wpOrd P ops Q S n ord (p + 1) a' w)
    (hp : ord[p]? = some i := by rfl) (hc : ¬ p ∈ cs := by decide)
    (hi : ops[i]? = some oi := by rfl)
    (hg : (oi.dst == some d && Region.wanted oi (yielded ops a.tmps)) = true := by kernel_rfl)
    (hy : ∀ w, S w → (execOp a.eval oi).run P w = .ok (.value v) w := by (intro w s; (try dsimp only at s); go_simp <;> with_reducible rfl))
    (ha : setT a d v = a' := by (conv => lhs; dsimp only [setT, List.toList_toArray, put0, putS]))
    (hQ : ∀ c a w, Q (.panic c) (a.put (some d) v) w → Q (.panic c) a w := by exact fun _ _ _ h => h) : wpOrd P ops Q S n ord p a w :=
  tko p i d v T hy hS (by rw [ha]; exact h) hp hc hi hg hQ

end Go.Proofs.YtmonloebkdpahaaDoor

/- Strings that commands and replies are made of. -/
namespace Go.Proofs.YtmonloebkdpahaaDoor
open Go.RowKit
set_option linter.unusedVariables false

theorem itoa_i (n : Int) (h0 : 0 ≤ n) (h1 : n ≤ 9999999) (w : World) (ht : Tab10 w) :
    Calls Tryd.prog 27 #[.int .i64 n] w fun e w' => e = .returned (.string (strOfNums (digB n.toNat))) ∧ Below w.heap.size w w' := by
  have h := itoa_b n.toNat (by omega) w ht
  rwa [show ((n.toNat : Nat) : Int) = n by omega] at h
theorem flagsText_i (n : Int) (h0 : 0 ≤ n) (h1 : n ≤ 31) (w : World) :
    Calls Tryd.prog 59 #[.int .i64 n] w fun e w' => e = .returned (.string (strOfNums (flagsB n))) ∧ Below w.heap.size w w' := by
  have h := flagsText_r n.toNat (by omega) w
  rwa [show ((n.toNat : Nat) : Int) = n by omega] at h
theorem strs_lit (w : World) (g : Nat) (ss : List (List Int)) (h : w.heap[g]? = some (.cells (ss.map (fun s => Value.string (strOfNums s))).toArray 9 (0, 0))) (hn : ∀ s, s ∈ ss → Oct s) (hl : ss.length ≤ 1000) : StrsV w (.slice (some ⟨g, 0, none⟩) ss.length ss.length) ss := by
  refine ⟨some ⟨g, 0, none⟩, ss.length, fun i => [.string (strOfNums (ss.getD i []))], rfl, Nat.le_refl _, by unfold maxLen; omega, (fun h => by cases h), fun i x hx => ?_, fun _ => ?_⟩
  · exact ⟨⟨by simp [List.getD_eq_getElem?_getD, hx], hn x (List.mem_of_getElem? hx)⟩, rfl⟩
  · refine ⟨g, 0, rfl, lt_of_heap h, fun i j u hi hu => ?_⟩
    cases j with
    | zero =>
      simp only [List.getElem?_cons_zero, Option.some.injEq] at hu
      subst hu
      rw [show 0 + i * 1 + 0 = i by omega, cell_of_row w g i _ _ (0, 0) h]
      simp [List.getD_eq_getElem?_getD, hi]
    | succ j => simp at hu
theorem digB_oct (n : Nat) : Oct (digB n) := ofU8_oct _
theorem flagsB_oct (f : Int) : Oct (flagsB f) := by
  intro y hy
  simp only [flagsB, List.mem_append, List.mem_cons, List.not_mem_nil, or_false, List.mem_flatMap, List.mem_range] at hy
  rcases hy with (rfl | ⟨i, hi, hy⟩) | rfl
  · omega
  · unfold flagAt at hy
    split at hy
    · simp only [List.mem_cons, List.not_mem_nil, or_false] at hy
      subst hy
      unfold letB
      split <;> omega
    · cases hy
  · omega
theorem flagsB_len (f : Int) : (flagsB f).length ≤ 7 := by
  have := flat_len (flagAt f) 1 (List.range 5) (fun x _ => flagAt_len f x)
  simp only [flagsB, List.length_append, List.length_cons, List.length_nil, List.length_range] at *
  omega
theorem quoB_oct {t : List Int} (h : Oct t) : Oct (quoB t) := by
  intro y hy
  simp only [quoB, List.mem_append, List.mem_cons, List.not_mem_nil, or_false, List.mem_flatMap] at hy
  rcases hy with (rfl | ⟨i, hi, hy⟩) | rfl
  · omega
  · have := h i hi
    unfold escB at hy
    split at hy <;> simp only [List.mem_cons, List.not_mem_nil, or_false] at hy <;> omega
  · omega
theorem quoB_len (t : List Int) : (quoB t).length ≤ 2 * t.length + 2 := by
  have := flat_len escB 2 t (fun x _ => escB_len x)
  simp only [quoB, List.length_append, List.length_cons, List.length_nil]
  omega

end Go.Proofs.YtmonloebkdpahaaDoor

/- Lines of boxes, on lists. -/
namespace Go.Proofs.YtmonloebkdpahaaDoor
open Go.RowKit

def mailLine (m : MailD) : List Int := [77, 65, 73, 76] ++ [digB m.uid.toNat, digB m.seq.toNat, flagsB m.flags, quoB m.text].flatMap tokB ++ [10]
def goneLine (g : GoneD) : List Int := [71, 79, 78, 69] ++ [digB g.uid.toNat].flatMap tokB ++ [10]
def boxLine (x : BoxD) : List Int := [66, 79, 88] ++ [x.name, digB x.valid.toNat, digB x.next.toNat, digB x.seq.toNat].flatMap tokB ++ [10]
theorem toks_len (ss : List (List Int)) (h : ∀ s, s ∈ ss → s.length ≤ 1000) : (ss.flatMap tokB).length ≤ 1001 * ss.length := flat_len tokB 1001 ss (fun s hs => by have := h s hs; simp only [tokB, List.length_append, List.length_cons, List.length_nil]; omega)
def boxLines (x : BoxD) : List Int := boxLine x ++ (x.mails.flatMap mailLine ++ x.gones.flatMap goneLine)

end Go.Proofs.YtmonloebkdpahaaDoor

/- Replies as lines, on lists. -/
namespace Go.Proofs.YtmonloebkdpahaaDoor
open Go.RowKit

def codeW (c : Int) : List Int := if c = 0 then [79, 75] else if c = 1 then [78, 79, 78, 69] else if c = 2 then [69, 88, 73, 83, 84, 83] else if c = 3 then [70, 85, 76, 76] else if c = 4 then [83, 84, 65, 76, 69] else if c = 5 then [66, 65, 68] else [65, 87, 65, 89]
def headL (x : RepD) : List Int := codeW x.code ++ ((digB x.num.toNat) :: x.names).flatMap tokB ++ [10]
def replyL (x : RepD) : List Int := headL x ++ (if zeroX x.box = true then [] else boxLines x.box)
def rtB (x : RepD) : List Int := match repB x with
  | true => replyL x
  | false => []
theorem rtB_yes {x : RepD} (h : repB x = true) : rtB x = replyL x := by unfold rtB; rw [h]
theorem rtB_no {x : RepD} (h : repB x = false) : rtB x = [] := by unfold rtB; rw [h]
theorem codeW_ok (n : Nat) (h : n ≤ 6) : (codeW n).length ≤ 6 ∧ 0 < (codeW n).length ∧ Oct (codeW n) := by
  have : n = 0 ∨ n = 1 ∨ n = 2 ∨ n = 3 ∨ n = 4 ∨ n = 5 ∨ n = 6 := by omega
  rcases this with rfl | rfl | rfl | rfl | rfl | rfl | rfl <;> exact ⟨by decide, by decide, by intro x hx; simp [codeW] at hx; omega⟩
theorem rep_facts {x : RepD} (h : repB x = true) : (0 ≤ x.code ∧ x.code ≤ 6) ∧ (0 ≤ x.num ∧ x.num ≤ 1000000) ∧ x.names.length ≤ 4 ∧ (∀ n, n ∈ x.names → n.length ≤ 6 ∧ 0 < n.length) ∧ (zeroX x.box = true ∨ boxB x.box 1000000 = true) := by
  simp only [repB, inB, Bool.and_eq_true, decide_eq_true_eq, Bool.not_eq_true', Bool.or_eq_true] at h
  obtain ⟨h0, h1, h2, h3, h4⟩ := h
  refine ⟨h0, h1, h2, fun n hn => ?_, h4⟩
  rw [List.any_eq_false] at h3
  have := h3 n hn
  simp only [badN, Bool.not_eq_true', Bool.not_eq_false] at this
  have := nameB_len this
  omega
theorem textB_len2 {l : List Int} (h : textB l = true) : l.length ≤ 30 := by unfold textB at h; simp at h; exact h.1
theorem box_facts {b : BoxD} (h : boxB b 1000000 = true) : b.name.length ≤ 6 ∧ 0 < b.name.length ∧ (0 ≤ b.valid ∧ b.valid ≤ 1000000) ∧ (0 ≤ b.next ∧ b.next ≤ 1000000) ∧ (0 ≤ b.seq ∧ b.seq ≤ 1000000) ∧ b.mails.length ≤ 12 ∧ b.gones.length ≤ 40 ∧
    (∀ m, m ∈ b.mails → 0 ≤ m.uid ∧ m.uid ≤ 1000000 ∧ 0 ≤ m.seq ∧ m.seq ≤ 1000000 ∧ 0 ≤ m.flags ∧ m.flags ≤ 31 ∧ m.text.length ≤ 30) ∧ (∀ m, m ∈ b.gones → 0 ≤ m.uid ∧ m.uid ≤ 1000000) := by
  simp only [boxB, mailsB, gonesB, inB, Bool.and_eq_true, decide_eq_true_eq] at h
  obtain ⟨h0, h1, h2, h3, h4, ⟨h5, h6⟩, h7, h8⟩ := h
  have hn := nameB_len h0
  rw [List.all_eq_true] at h6 h8
  refine ⟨hn.2, by omega, by omega, by omega, by omega, h5, h7, fun m hm => ?_, fun m hm => ?_⟩
  · obtain ⟨i, hi, rfl⟩ := List.mem_iff_getElem.1 hm
    have hp := prevU_ok (b := b) (k := i) h2.2 (by omega) (fun j hj => h6 j (by simp; omega))
    have := h6 i (by simp; omega)
    simp only [mailAt, List.getElem?_eq_getElem hi, inB, Bool.and_eq_true, decide_eq_true_eq] at this
    have ht := textB_len2 this.2.2.2
    omega
  · obtain ⟨i, hi, rfl⟩ := List.mem_iff_getElem.1 hm
    have := h8 i (by simp; omega)
    simp only [goneAt, List.getElem?_eq_getElem hi, inB, Bool.and_eq_true, decide_eq_true_eq] at this
    omega

end Go.Proofs.YtmonloebkdpahaaDoor

/- What l3parts and l3seq of package spec do. -/
namespace Go.Proofs.YtmonloebkdpahaaDoor
open Go.RowKit
set_option maxRecDepth 100000

set_option maxHeartbeats 400000 in
theorem l3parts_any (k : Int) (w : World) :
    Calls Tryd.prog 76 #[.int .i64 k] w fun e w' => e = .returned (.tuple #[.bool (toB k), .bool (uidB k), .bool (modeB k), .bool (sinceB k), .bool (textsB k)]) ∧ w' = w := by
  go_enter Tryd.func76, Tryd.ntmps76
  go_wp2
  all_goals exact bodyPost_ret (v := .tuple #[.bool (toB k), .bool (uidB k), .bool (modeB k), .bool (sinceB k), .bool (textsB k)]) (by simp [results, Tryd.results76, go_sem, toB, uidB, modeB, sinceB, textsB, *] <;> (simp only [beq_iff_eq, beq_eq_false_iff_ne, ne_eq] at *; omega)) rfl ⟨rfl, rfl⟩

theorem l3seq_any (n : Int) (w : World) :
    Calls Tryd.prog 46 #[.int .i64 n] w fun e w' => e = .returned (.bool (inB n 0 1000000)) ∧ w' = w := by
  go_enter Tryd.func46, Tryd.ntmps46
  go_wp2
  all_goals (go_ret; exact ⟨by simp [inB, *] <;> omega, rfl⟩)

end Go.Proofs.YtmonloebkdpahaaDoor
